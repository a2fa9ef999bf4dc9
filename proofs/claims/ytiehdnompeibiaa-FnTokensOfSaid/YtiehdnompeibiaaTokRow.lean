/-
  Slices of tokens that are read, compared and marked: laws.eqToken, eqTokenS, markTokenS, heldTokenS.
-/
import Derived.Test.YtiehdnompeibiaaTokI
import Derived.Deep.RegionHeld3
namespace Go.Proofs.Ytiehdnompeibiaa
open Go.RowKit
set_option linter.unusedVariables false

/-- A slice whose elements of three cells each read as numbers. -/
def RowT (w : World) (v : Value) (n : Nat) (L : List Value) : Prop :=
  L.length = n * 3 ∧ ∃ ao cap, v = .slice ao n cap ∧ n ≤ cap ∧ cap ≤ maxLen ∧ (n = 0 ∨ ∃ b, ao = some ⟨b, 0, none⟩ ∧ b < w.heap.size ∧ ∀ (j : Nat) t, L[j]? = some t → w.cell? ⟨b, j, none⟩ = some t)
theorem RowT.mono {w w' : World} {v : Value} {n : Nat} {L : List Value} (h : RowT w v n L) (hb : Below w.heap.size w w') : RowT w' v n L := by
  obtain ⟨h0, ao, cap, hv, h1, h2, h3⟩ := h
  refine ⟨h0, ao, cap, hv, h1, h2, ?_⟩
  rcases h3 with h3 | ⟨b, ha, hlt, hj⟩
  · exact .inl h3
  · exact .inr ⟨b, ha, Nat.lt_of_lt_of_le hlt hb.size, fun j t ht => by rw [hb.cell (by exact hlt)]; exact hj j t ht⟩
theorem RowT.of_own {w : World} {base : Nat} {e : TypeId} {v : Value} {n : Nat} {L : List Value} (h : w.ownsRow base e 3 v n L) : RowT w v n L := by
  have h0 := h
  obtain ⟨hl, h2⟩ := h
  refine ⟨hl, ?_⟩
  rcases h2 with ⟨rfl, rfl⟩ | ⟨g, cap, cur, rfl, hg, hh, h1, h2, _⟩
  · exact ⟨none, 0, rfl, Nat.le_refl _, by unfold maxLen; omega, .inl rfl⟩
  · refine ⟨_, cap, rfl, h1, h2, .inr ⟨g, rfl, ?_, ?_⟩⟩
    · by_cases hk : g < w.heap.size
      · exact hk
      · rw [Array.getElem?_eq_none (by omega)] at hh; cases hh
    · intro j t ht
      have hlt : j < L.length := by
        by_cases hk : j < L.length
        · exact hk
        · rw [List.getElem?_eq_none (by omega)] at ht; cases ht
      rw [h0.cellAt j (by omega)]
      exact ht
theorem flatT_at (L : List (Int × Nat × Nat)) : ∀ (k : Nat) (h : k < L.length), (flatT L)[k * 3]? = some (.int .i64 L[k].1) ∧ (flatT L)[k * 3 + 1]? = some (.int .i64 (L[k].2.1 : Int)) ∧ (flatT L)[k * 3 + 2]? = some (.int .i64 (L[k].2.2 : Int)) := by
  induction L with
  | nil => intro k h; simp at h
  | cons a t ih =>
    intro k h
    have e : flatT (a :: t) = .int .i64 a.1 :: .int .i64 (a.2.1 : Int) :: .int .i64 (a.2.2 : Int) :: flatT t := by simp [flatT]
    cases k with
    | zero => rw [e]; exact ⟨rfl, rfl, rfl⟩
    | succ k =>
      have hk : k < t.length := by simpa using h
      obtain ⟨h1, h2, h3⟩ := ih k hk
      rw [e, show (k + 1) * 3 = k * 3 + 3 by omega]
      exact ⟨h1, h2, h3⟩

set_option maxHeartbeats 1000000 in
theorem eqToken_any (a b c x y z : Int) (w : World) :
    Calls Try.prog 44 #[.agg #[.int .i64 a, .int .i64 b, .int .i64 c], .agg #[.int .i64 x, .int .i64 y, .int .i64 z]] w fun e w' => e = .returned (.bool (decide (a = x ∧ b = y ∧ c = z))) ∧ Below w.heap.size w w' := by
  have BB : ∀ (o1 o2 : Obj), Below w.heap.size w ((w.alloc o1).alloc o2) := fun o1 o2 => ((Below.refl _ w).alloc (Nat.le_refl _) _).alloc (by simp) _
  by_cases h1 : a = x
  · subst h1
    by_cases h2 : b = y
    · subst h2
      by_cases h3 : c = z
      · subst h3
        rw [decide_eq_true (show a = a ∧ b = b ∧ c = c from ⟨rfl, rfl, rfl⟩)]
        go_enter Try.func44, Try.ntmps44
        go_wp2
        go_ret
        exact ⟨rfl, BB _ _⟩
      · rw [decide_eq_false (show ¬ (a = a ∧ b = b ∧ c = z) from fun h => h3 h.2.2)]
        have n3 : (c != z) = true := bne_iff_ne.mpr h3
        clear h3
        go_enter Try.func44, Try.ntmps44
        go_wp2
        go_ret
        exact ⟨rfl, BB _ _⟩
    · rw [decide_eq_false (show ¬ (a = a ∧ b = y ∧ c = z) from fun h => h2 h.2.1)]
      have n3 : (b != y) = true := bne_iff_ne.mpr h2
      clear h2
      go_enter Try.func44, Try.ntmps44
      go_wp2
      go_ret
      exact ⟨rfl, BB _ _⟩
  · rw [decide_eq_false (show ¬ (a = x ∧ b = y ∧ c = z) from fun h => h1 h.1)]
    have n3 : (a != x) = true := bne_iff_ne.mpr h1
    clear h1
    go_enter Try.func44, Try.ntmps44
    go_wp2
    go_ret
    exact ⟨rfl, BB _ _⟩


set_option maxRecDepth 100000 in
set_option maxHeartbeats 4000000 in
theorem eqTokenS_same (v1 v2 : Value) (L : List (Int × Nat × Nat)) (w : World) (h1 : RowT w v1 L.length (flatT L)) (h2 : RowT w v2 L.length (flatT L)) :
    Calls Try.prog 17 #[v1, v2] w fun e w' => e = .returned (.bool true) ∧ Below w.heap.size w w' := by
  obtain ⟨-, a1, c1, rfl, l1, m1, r1⟩ := h1
  obtain ⟨-, a2, c2, rfl, l2, m2, r2⟩ := h2
  unfold maxLen at m1 m2
  have R1 := Lib.hid r1; have R2 := Lib.hid r2
  clear r1 r2
  go_enter Try.func17, Try.ntmps17
  go_wp2
  go_loopw [5] (fun i wr => ∃ k : Nat, k ≤ L.length ∧ i = .int .i64 (k : Int) ∧ Below w.heap.size w wr) (fun i _ => L.length - (intOf i).toNat)
  case atStart => exact ⟨0, Nat.zero_le _, rfl, Below.refl _ _⟩
  case round =>
    obtain ⟨k, hk, rfl, hb⟩ := hrel
    have HB := Lib.hid hb; clear hb
    by_cases hlt : k < L.length
    · obtain ⟨b1, hA1, lt1, cc1⟩ := R1.out.resolve_left (by omega)
      obtain ⟨b2, hA2, lt2, cc2⟩ := R2.out.resolve_left (by omega)
      subst hA1 hA2
      obtain ⟨f0, f1, f2⟩ := flatT_at L k hlt
      have d0 : wr.cell? ⟨b1, k * 3, none⟩ = some (.int .i64 L[k].1) := (HB.out.cell (p := ⟨b1, k * 3, none⟩) lt1).trans (cc1 _ _ f0)
      have d1 : wr.cell? ⟨b1, k * 3 + 1, none⟩ = some (.int .i64 (L[k].2.1 : Int)) := (HB.out.cell (p := ⟨b1, k * 3 + 1, none⟩) lt1).trans (cc1 _ _ f1)
      have d2 : wr.cell? ⟨b1, k * 3 + 2, none⟩ = some (.int .i64 (L[k].2.2 : Int)) := (HB.out.cell (p := ⟨b1, k * 3 + 2, none⟩) lt1).trans (cc1 _ _ f2)
      have g0 : wr.cell? ⟨b2, k * 3, none⟩ = some (.int .i64 L[k].1) := (HB.out.cell (p := ⟨b2, k * 3, none⟩) lt2).trans (cc2 _ _ f0)
      have g1 : wr.cell? ⟨b2, k * 3 + 1, none⟩ = some (.int .i64 (L[k].2.1 : Int)) := (HB.out.cell (p := ⟨b2, k * 3 + 1, none⟩) lt2).trans (cc2 _ _ f1)
      have g2 : wr.cell? ⟨b2, k * 3 + 2, none⟩ = some (.int .i64 (L[k].2.2 : Int)) := (HB.out.cell (p := ⟨b2, k * 3 + 2, none⟩) lt2).trans (cc2 _ _ f2)
      have hw1 : b1 < wr.heap.size := by have := HB.out.size; omega
      have hw2 : b2 < wr.heap.size := by have := HB.out.size; omega
      clear cc1 cc2 f0 f1 f2
      have bk0 : (0 : Int) ≤ (k : Int) := by omega
      have bk1 : (k : Int) < (L.length : Int) := by omega
      go_wp2_with fail
      go_region_held3 (fun w' => w'.cell? ⟨b1, k * 3, none⟩ = some (.int .i64 L[k].1) ∧ w'.cell? ⟨b1, k * 3 + 1, none⟩ = some (.int .i64 (L[k].2.1 : Int)) ∧ w'.cell? ⟨b1, k * 3 + 2, none⟩ = some (.int .i64 (L[k].2.2 : Int)) ∧ w'.cell? ⟨b2, k * 3, none⟩ = some (.int .i64 L[k].1) ∧ w'.cell? ⟨b2, k * 3 + 1, none⟩ = some (.int .i64 (L[k].2.1 : Int)) ∧ w'.cell? ⟨b2, k * 3 + 2, none⟩ = some (.int .i64 (L[k].2.2 : Int)))
        (first
          | go_keep
          | (go_split_ands
             refine ⟨?_, ?_, ?_, ?_, ?_, ?_⟩
             · (rw [hb1.cell (by exact hw1)]; assumption)
             · (rw [hb1.cell (by exact hw1)]; assumption)
             · (rw [hb1.cell (by exact hw1)]; assumption)
             · (rw [hb1.cell (by exact hw2)]; assumption)
             · (rw [hb1.cell (by exact hw2)]; assumption)
             · (rw [hb1.cell (by exact hw2)]; assumption)))
        ((go_at_call 44; refine (eqToken_any _ _ _ _ _ _ _).mono ?_; rintro e w1 ⟨rfl, hb1⟩; rw [decide_eq_true (show L[k].1 = L[k].1 ∧ (L[k].2.1 : Int) = (L[k].2.1 : Int) ∧ (L[k].2.2 : Int) = (L[k].2.2 : Int) from ⟨rfl, rfl, rfl⟩)]))
      go_wp2
      go_roundw
      case rel => exact ⟨k + 1, by omega, by go_num, HB.out.drew.trans (hb1.mono HB.out.size)⟩
      case measure => simp [intOf]; omega
    · go_wp2
      go_ret
      exact ⟨rfl, HB.out⟩

/-- The numbers m, m + 1, .. in n cells. -/
def marksI (m n : Nat) : List Value := (List.range n).map fun (j : Nat) => Value.int .i64 ((m + j : Nat) : Int)
theorem marksI_length (m n : Nat) : (marksI m n).length = n := by simp [marksI]
theorem marksI_at (m n j : Nat) (h : j < n) : (marksI m n)[j]? = some (.int .i64 ((m + j : Nat) : Int)) := by simp [marksI, h]
def markedI (m k : Nat) (xs : List Value) : List Value := marksI m k ++ xs.drop k
theorem markedI_zero (m : Nat) (xs : List Value) : markedI m 0 xs = xs := by simp [markedI, marksI]
theorem markedI_all (m : Nat) (xs : List Value) : markedI m xs.length xs = marksI m xs.length := by simp [markedI]
theorem markedI_next (m k : Nat) (xs : List Value) (h : k < xs.length) : (markedI m k xs).set k (.int .i64 ((m + k : Nat) : Int)) = markedI m (k + 1) xs := by
  unfold markedI
  rw [List.set_append_right _ _ (by rw [marksI_length]; exact Nat.le_refl _), marksI_length, Nat.sub_self]
  rw [List.drop_eq_getElem_cons h, List.set_cons_zero]
  simp [marksI, List.range_succ]
theorem markedI_length (m k : Nat) (xs : List Value) (h : k ≤ xs.length) : (markedI m k xs).length = xs.length := by
  simp [markedI, marksI_length]; omega

set_option maxRecDepth 100000 in
set_option maxHeartbeats 4000000 in
theorem markTokenS_own (base m n : Nat) (v : Value) (xs : List Value) (w : World) (hm : m ≤ 1000000) (hn : n ≤ 1000000) (hown : w.ownsRow base 33 3 v n xs) :
    Calls Try.prog 18 #[v, .int .i64 (m : Int)] w fun e w' => e = .returned (.int .i64 ((m + n * 3 : Nat) : Int)) ∧ w'.ownsRow base 33 3 v n (marksI m (n * 3)) ∧ w.grownBy w' v.ownBlock := by
  have hxl : xs.length = n * 3 := hown.1
  rcases hown.2 with ⟨rfl, rfl⟩ | ⟨g, cap, cur, rfl, hbg, hh, hnc, hcm, hcs, htake⟩
  · go_enter Try.func18, Try.ntmps18
    go_wp2
    refine wp_loop_rounds 1 ?_
    rw [rounds_succ]
    go_wp2
    go_ret
    exact ⟨rfl, World.ownsRow_nil _ _ _ _, World.grownBy.refl _ _⟩
  · have HO := Lib.hid hown
    unfold maxLen at hcm
    clear hown hh hcs htake
    go_enter Try.func18, Try.ntmps18
    go_wp2
    go_loopw [1, 5] (fun a i wr => ∃ k : Nat, k ≤ n ∧ i = .int .i64 (k : Int) ∧ a = .int .i64 ((m + k * 3 : Nat) : Int) ∧ wr.ownsRow base 33 3 (.slice (some ⟨g, 0, none⟩) n cap) n (markedI m (k * 3) xs) ∧ w.grownBy wr (some g)) (fun _ i _ => n - (intOf i).toNat)
    case atStart => exact ⟨0, Nat.zero_le _, rfl, rfl, by rw [Nat.zero_mul, markedI_zero]; exact HO.out, World.grownBy.refl _ _⟩
    case round =>
      obtain ⟨k, hk, rfl, rfl, hown, hg⟩ := hrel
      have HG := Lib.hid hg; clear hg
      have HO2 := Lib.hid hown; clear hown
      by_cases hlt : k < n
      · have hml := markedI_length m (k * 3) xs (by omega)
        have cc : ∀ j, j < n * 3 → ∃ u, wr.cell? ⟨g, j, none⟩ = some u := by
          intro j hj
          rw [HO2.out.cellAt j hj, List.getElem?_eq_getElem (by omega)]; exact ⟨_, rfl⟩
        obtain ⟨u0, d0⟩ := cc (k * 3) (by omega)
        obtain ⟨u1, d1⟩ := cc (k * 3 + 1) (by omega)
        obtain ⟨u2, d2⟩ := cc (k * 3 + 2) (by omega)
        have z0 := HO2.out.frozenAt (k * 3)
        have z1 := HO2.out.frozenAt (k * 3 + 1)
        have z2 := HO2.out.frozenAt (k * 3 + 2)
        have S1 := Lib.hid (HO2.out.stored (k * 3) (.int .i64 ((m + k * 3 : Nat) : Int)))
        have S2 := Lib.hid (S1.out.1.stored (k * 3 + 1) (.int .i64 ((m + (k * 3 + 1) : Nat) : Int)))
        have S3 := Lib.hid (S2.out.1.stored (k * 3 + 2) (.int .i64 ((m + (k * 3 + 2) : Nat) : Int)))
        have HX := Lib.hid (show (((markedI m (k * 3) xs).set (k * 3) (.int .i64 ((m + k * 3 : Nat) : Int))).set (k * 3 + 1) (.int .i64 ((m + (k * 3 + 1) : Nat) : Int))).set (k * 3 + 2) (.int .i64 ((m + (k * 3 + 2) : Nat) : Int)) = markedI m ((k + 1) * 3) xs by
          rw [markedI_next m _ xs (by omega), markedI_next m _ xs (by omega), markedI_next m _ xs (by omega)]; congr 1; omega)
        have HG3 := Lib.hid (World.grownBy.trans (World.grownBy.trans (World.grownBy.trans HG.out S1.out.2) S2.out.2) S3.out.2)
        have E1 := Lib.hid (show ((m + (k * 3 + 1) : Nat) : Int) = ((m + k * 3 : Nat) : Int) + 1 by omega)
        have E2 := Lib.hid (show ((m + (k * 3 + 2) : Nat) : Int) = ((m + k * 3 : Nat) : Int) + 1 + 1 by omega)
        have S3' := S3.out.1
        rw [HX.out] at S3'
        rw [E1.out, E2.out] at S3'
        have HG3' := HG3.out
        rw [E1.out, E2.out] at HG3'
        have T3 := Lib.hid S3'; have T4 := Lib.hid HG3'
        clear S1 S2 S3 HX S3' HG3' cc hml
        generalize hM : ((m + k * 3 : Nat) : Int) = M at *
        have hM0 : 0 ≤ M := by omega
        have hM1 : M ≤ 100000000 := by omega
        have HMM := Lib.hid hM; clear hM
        go_wp2
        go_roundw
        case rel => exact ⟨k + 1, by omega, by go_num, by rw [show ((m + (k + 1) * 3 : Nat) : Int) = M + 1 + 1 + 1 by have := HMM.out; omega], T3.out, T4.out⟩
        case measure => simp [intOf]; omega
      · obtain rfl : k = n := by omega
        go_wp2
        go_ret
        refine ⟨rfl, ?_, HG.out⟩
        have := HO2.out
        rw [← hxl, markedI_all, hxl] at this
        exact this

set_option maxRecDepth 100000 in
set_option maxHeartbeats 4000000 in
theorem heldTokenS_any (m n : Nat) (v : Value) (w : World) (hm : m ≤ 1000000) (hn : n ≤ 1000000) (h : RowT w v n (marksI m (n * 3))) :
    Calls Try.prog 19 #[v, .int .i64 (m : Int)] w fun e w' => e = .returned (.int .i64 ((m + n * 3 : Nat) : Int)) ∧ w = w' := by
  obtain ⟨-, ao, cap, rfl, h1, h2, h3⟩ := h
  unfold maxLen at h2
  have R3 := Lib.hid h3; clear h3
  go_enter Try.func19, Try.ntmps19
  go_wp2
  go_loop [1, 5] (fun a i => ∃ k : Nat, k ≤ n ∧ i = .int .i64 (k : Int) ∧ a = .int .i64 ((m + k * 3 : Nat) : Int)) (fun _ i => n - (intOf i).toNat)
  case atStart => exact ⟨0, Nat.zero_le _, rfl, rfl⟩
  case round =>
    obtain ⟨k, hk, rfl, rfl⟩ := hrel
    by_cases hlt : k < n
    · obtain ⟨b, rfl, hbl, cc⟩ := R3.out.resolve_left (by omega)
      have d0 := cc (k * 3) _ (marksI_at m (n * 3) (k * 3) (by omega))
      have d1 := cc (k * 3 + 1) _ (marksI_at m (n * 3) (k * 3 + 1) (by omega))
      have d2 := cc (k * 3 + 2) _ (marksI_at m (n * 3) (k * 3 + 2) (by omega))
      rw [show ((m + (k * 3 + 1) : Nat) : Int) = ((m + k * 3 : Nat) : Int) + 1 by omega] at d1
      rw [show ((m + (k * 3 + 2) : Nat) : Int) = ((m + k * 3 : Nat) : Int) + 1 + 1 by omega] at d2
      clear cc
      generalize hM : ((m + k * 3 : Nat) : Int) = M at *
      have hM0 : 0 ≤ M := by omega
      have hM1 : M ≤ 100000000 := by omega
      have HMM := Lib.hid hM; clear hM
      go_wp2
      go_round
      case rel => exact ⟨k + 1, by omega, by go_num, by rw [show ((m + (k + 1) * 3 : Nat) : Int) = M + 1 + 1 + 1 by have := HMM.out; omega]⟩
      case measure => simp [intOf]; omega
    · obtain rfl : k = n := by omega
      go_wp2
      go_ret
      exact ⟨rfl, rfl⟩

end Go.Proofs.Ytiehdnompeibiaa
