/-
  spec's l5End, l5Kids, l5Depth, ExprValid, by their contracts.
-/
import Derived.Test.YtncehcklppakcaaGreatDoorCellW
import Derived.Test.YtncehcklppakcaaGreatDoorCellRow
import Derived.Test.YtncehcklppakcaaGreatDoorCellS
import Derived.Test.YtncehcklppakcaaGreatDoorBaseA
import Derived.Deep.Draws
import Derived.Deep.AppendLies
import Derived.Deep.RegionHeld3
import Derived.RegionTactic
import Derived.Deep.DrawnRows
import Derived.Laws.Rows
namespace Go.Proofs.YtncehcklppakcaaGreatDoor
open Go.RowKit
set_option linter.unusedVariables false

def endI (am : List Nat) (f : Nat) : Int := match scA (am.drop f) f 1 with
  | some t => (t : Int)
  | none => -1
theorem endI_some {am : List Nat} {f t : Nat} (h : scA (am.drop f) f 1 = some t) : endI am f = (t : Int) := by simp [endI, h]
theorem endI_none {am : List Nat} {f : Nat} (h : scA (am.drop f) f 1 = none) : endI am f = -1 := by simp [endI, h]
theorem Exs.endI {am : List Nat} {f t d : Nat} (h : Exs am 1 f t d) : endI am f = (t : Int) := endI_some h.sc0
theorem ret_iS {a b : Int} (h : a = b) : Ending.returned (.int .i64 a) = .returned (.int .i64 b) := by rw [h]
theorem ExsS.dep {am : List Nat} {n f t d : Nat} (h : Exs am n f t d) : d ≤ t - f := by
  induction h with
  | nil f => omega
  | @cons f m g d n t e hm h1 h2 i1 i2 => have l1 := h1.le; have l2 := h2.le; omega

set_option maxRecDepth 100000 in
set_option maxHeartbeats 4000000 in
theorem l5End_any (v : Value) (l : List Cl) (f : Nat) (w : World) (hr : RowC w v l) (h60 : l.length ≤ 60) (hok : l.all okM = true) (hf : f ≤ l.length) :
    Calls Tryz.prog 40 #[v, .int .i64 (f : Int)] w fun e w' => e = .returned (.int .i64 (endI (amL l) f)) ∧ w = w' := by
  obtain ⟨ao, cap, rfl, h1, h2, h3⟩ := hr
  unfold maxLen at h2
  have H3 := Lib.hid h3; have HK := Lib.hid hok; clear h3 hok
  go_enter Tryz.func40, Tryz.ntmps40
  go_wp2
  go_loop [1, 5] (fun a lf => ∃ k L : Nat, f ≤ k ∧ k ≤ l.length ∧ a = .int .i64 (k : Int) ∧ lf = .int .i64 (L : Int) ∧ L ≤ 1 + 8 * k ∧ scA ((amL l).drop k) k L = scA ((amL l).drop f) f 1) (fun a _ => l.length - (intOf a).toNat)
  case atStart => exact ⟨f, 1, Nat.le_refl _, hf, rfl, rfl, by omega, rfl⟩
  case round =>
    obtain ⟨k, L, hfk, hk, rfl, rfl, hL, hsc⟩ := hrel
    have HS := Lib.hid hsc; clear hsc
    by_cases hlt : k < l.length
    · by_cases hL0 : 0 < L
      · obtain ⟨b, o, rfl, hbl, cc⟩ := H3.out.resolve_left (by rintro rfl; simp at hlt)
        obtain ⟨-, -, c2⟩ := cc k hlt
        have hmb := okM_many (okM_all HK.out k hlt)
        have HAM := Lib.hid (am_drop (amL l) k _ (amL_at l k hlt))
        generalize l[k].2.2 = M at c2 hmb HAM
        obtain ⟨m, rfl⟩ := Int.eq_ofNat_of_zero_le hmb.1
        have hm8 : m ≤ 8 := by omega
        have hmx : max (0 : Int) (m : Int) = (m : Int) := by omega
        obtain ⟨L', rfl⟩ : ∃ x, L = x + 1 := ⟨L - 1, by omega⟩
        have HN := Lib.hid (show scA ((amL l).drop (k + 1)) (k + 1) (L' + m) = scA ((amL l).drop f) f 1 by
          rw [← HS.out, HAM.out, scA]; simp)
        clear cc hmb
        go_wp2
        go_round
        case rel => exact ⟨k + 1, L' + m, by omega, by omega, by go_num, by first | go_num | (congr 1; omega), by omega, HN.out⟩
        case measure => simp [intOf]; omega
      · obtain rfl : L = 0 := by omega
        have HE := Lib.hid (endI_some (am := amL l) (f := f) (t := k) (by rw [← HS.out, scA_zero]))
        go_wp2
        go_ret
        exact ⟨ret_iS HE.out.symm, rfl⟩
    · obtain rfl : k = l.length := by omega
      by_cases hL0 : 0 < L
      · obtain ⟨L', rfl⟩ : ∃ x, L = x + 1 := ⟨L - 1, by omega⟩
        have HE := Lib.hid (endI_none (am := amL l) (f := f) (by rw [← HS.out, List.drop_of_length_le (by rw [amL_length]; exact Nat.le_refl _)]; rfl))
        go_wp2
        go_ret
        exact ⟨ret_iS HE.out.symm, rfl⟩
      · obtain rfl : L = 0 := by omega
        have HE := Lib.hid (endI_some (am := amL l) (f := f) (t := l.length) (by rw [← HS.out, scA_zero]))
        go_wp2
        go_ret
        exact ⟨ret_iS HE.out.symm, rfl⟩

/-- Numbers, as cells. -/
def ints (L : List Nat) : List Value := L.map fun (n : Nat) => Value.int .i64 (n : Int)
theorem ints_length (L : List Nat) : (ints L).length = L.length := by simp [ints]
theorem ints_snoc (L : List Nat) (n : Nat) : ints (L ++ [n]) = ints L ++ [.int .i64 (n : Int)] := by simp [ints]
theorem ints_at (L : List Nat) (k : Nat) (h : k < L.length) : (ints L)[k]? = some (.int .i64 (L[k] : Int)) := by simp [ints, h]
/-- A slice that reads as numbers. -/
def RowI (w : World) (v : Value) (L : List Nat) : Prop :=
  ∃ ao cap, v = .slice ao L.length cap ∧ L.length ≤ cap ∧ cap ≤ maxLen ∧ (L = [] ∨ ∃ b, ao = some ⟨b, 0, none⟩ ∧ b < w.heap.size ∧ ∀ k (h : k < L.length), w.cell? ⟨b, k, none⟩ = some (.int .i64 (L[k] : Int)))
theorem RowI.mono {w w' : World} {v : Value} {L : List Nat} (h : RowI w v L) (hb : Below w.heap.size w w') : RowI w' v L := by
  obtain ⟨ao, cap, hv, h1, h2, h3⟩ := h
  refine ⟨ao, cap, hv, h1, h2, ?_⟩
  rcases h3 with h3 | ⟨b, ha, hlt, hj⟩
  · exact .inl h3
  · exact .inr ⟨b, ha, Nat.lt_of_lt_of_le hlt hb.size, fun k hk => by rw [hb.cell (by exact hlt)]; exact hj k hk⟩
theorem RowI.of_own {w : World} {base m : Nat} {v : Value} {L : List Nat} (ho : w.ownsRow base 3 1 v m (ints L)) : RowI w v L ∧ m = L.length := by
  have hl : L.length = m := by have := ho.1; rw [ints_length] at this; omega
  subst hl
  refine ⟨?_, rfl⟩
  rcases ho.2 with ⟨rfl, h0⟩ | ⟨g, cap, cur, rfl, hg, hh, h1, h2, _⟩
  · exact ⟨none, 0, by rw [h0], by omega, by unfold maxLen; omega, .inl (List.length_eq_zero_iff.mp h0)⟩
  · refine ⟨_, cap, rfl, h1, h2, .inr ⟨g, rfl, (ho.lt g rfl).2, fun k hk => ?_⟩⟩
    rw [ho.cellAt k (by omega)]
    exact ints_at L k hk
/-- New numbers: a row of the call's own. -/
def NewInts (L : List Nat) (w : World) (e : Ending) (w' : World) : Prop :=
  ∃ v, e = .returned v ∧ w'.ownsRow w.heap.size 3 1 v L.length (ints L) ∧ Below w.heap.size w w'
theorem infoI : (Tryz.prog.info? 3).map (fun i => (i.zero, i.size, i.bytes)) = some (some (.int .i64 0), 1, 8) := by kernel_rfl

set_option maxRecDepth 100000 in
set_option maxHeartbeats 4000000 in
theorem l5Kids_any (v : Value) (l : List Cl) (f m t d : Nat) (w : World) (hr : RowC w v l) (h60 : l.length ≤ 60) (hok : l.all okM = true) (hm : (amL l)[f]? = some m) (hx : Exs (amL l) m (f + 1) t d) :
    Calls Tryz.prog 50 #[v, .int .i64 (f : Int)] w (NewInts (kidsL (amL l) (f + 1) m) w) := by
  obtain ⟨i0, hi, hz0, hz1, hz2⟩ := info_parts infoI
  have hflt : f < l.length := by
    by_cases hk : f < l.length
    · exact hk
    · rw [List.getElem?_eq_none (by rw [amL_length]; omega)] at hm; cases hm
  have hm8 : m ≤ 8 := by
    have := okM_many (okM_all hok f hflt)
    rw [amL_at l f hflt] at hm; injection hm with hm; omega
  have HR := Lib.hid hr
  obtain ⟨ao, cap, rfl, h1, h2, h3⟩ := hr
  unfold maxLen at h2
  obtain ⟨b, o, rfl, hbl, cc⟩ := h3.resolve_left (by rintro rfl; simp at hflt)
  obtain ⟨-, -, c2⟩ := cc f hflt
  have hc2 : l[f].2.2 = (m : Int) := by
    have := okM_many (okM_all hok f hflt)
    rw [amL_at l f hflt] at hm; injection hm with hm; omega
  rw [hc2] at c2
  have HX := Lib.hid hx; have HK := Lib.hid hok; have HM := Lib.hid hm
  clear hx hok hm hc2 cc h3
  go_enter Tryz.func50, Tryz.ntmps50
  go_wp2
  go_loopw [5, 6, 7] (fun out nx i wr => ∃ k g d' : Nat, k ≤ m ∧ i = .int .i64 (k : Int) ∧ nx = .int .i64 (g : Int) ∧ Exs (amL l) k (f + 1) g d' ∧ wr.ownsRow w.heap.size 3 1 out k (ints (kidsL (amL l) (f + 1) k)) ∧ Below w.heap.size w wr) (fun _ _ i _ => m - (intOf i).toNat)
  case atStart => exact ⟨0, f + 1, 0, Nat.zero_le _, rfl, by go_num, .nil _, World.ownsRow_lit _ _ 0 (Nat.le_refl _) (by unfold maxLen; omega) rfl, (Below.refl _ _).alloc (Nat.le_refl _) _⟩
  case round =>
    obtain ⟨k, g, d', hk, rfl, rfl, hx, hown, hb⟩ := hrel
    have e2 : wr.cell? ⟨b, o + f * 3 + 2, none⟩ = some (.int .i64 (m : Int)) := (hb.cell (p := ⟨b, _, none⟩) hbl).trans c2
    have HB := Lib.hid hb
    by_cases hlt : k < m
    · have hsplit := HX.out
      rw [show m = k + (1 + (m - k - 1)) by omega] at hsplit
      obtain ⟨g1, q1, q2, s1, s2, -⟩ := hsplit.split
      obtain ⟨rfl, -⟩ := s1.uniq hx
      obtain ⟨g2, r1, r2, s3, s4, -⟩ := s2.split
      have hg1 : g1 ≤ l.length := by have := s3.le.2 (by omega); have h3 := s3.le.1; rw [amL_length] at this; omega
      have HEI := Lib.hid s3.endI
      have HXN := Lib.hid (s1.snoc s3)
      have HL := Lib.hid (kidsL_snoc s1)
      have hs0 := hb.size
      clear s1 s2 s3 s4 hsplit hx hb
      go_wp2_with (at_builtin; refine wpList_append_own _ rfl _ _ 77 rfl w.heap.size 3 i0 (.int .i64 0) 1 8 Tryz.underlying77 hi hz0 hz1 hz2 rfl (by decide) _ _ _ rfl (hown.alloc _) ⟨wr.heap.size, 0, none⟩ 1 1 [.int .i64 (g1 : Int)] rfl rfl (World.news_of_block (cs := #[.int .i64 (g1 : Int)]) (t := 3) (fr := (0, 0)) (heap_alloc_new wr _)) (by simp [Value.oneCell']) (by unfold maxLen; omega) (by omega) (by simp; omega) ?_; intro v' w2 hown' hgrow hnil; have HB2 := Lib.hid ((HB.out.alloc HB.out.size _).grown hgrow (by have := HB.out.size; simp; omega) (fun q hq => (hown.lt q hq).1)); have HO2 := Lib.hid hown'; clear hown' hgrow hnil)
      refine (l5End_any _ l g1 _ (HR.out.mono HB2.out) h60 HK.out hg1).mono ?_
      rintro e w' ⟨rfl, rfl⟩
      rw [HEI.out]
      go_wp2
      go_roundw
      case rel => exact ⟨k + 1, g2, _, by omega, by go_num, rfl, HXN.out, by rw [HL.out, ints_snoc]; exact HO2.out, HB2.out⟩
      case measure => simp [intOf]; omega
    · obtain rfl : k = m := by omega
      have HO := Lib.hid hown; clear hown hx hb
      go_wp2
      go_ret
      exact ⟨_, rfl, by rw [kidsL_length]; exact HO.out, HB.out⟩

end Go.Proofs.YtncehcklppakcaaGreatDoor
