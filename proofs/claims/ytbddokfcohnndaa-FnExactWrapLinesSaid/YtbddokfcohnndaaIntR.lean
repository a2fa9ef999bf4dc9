/-
  laws.eqIntS, markIntS, heldIntS.
-/
import Derived.Test.YtbddokfcohnndaaGrownT
import Derived.Test.YtbddokfcohnndaaInts
import Derived.Deep.QuietTactic
import Derived.BigQuiet
namespace Go.Proofs.Ytbddokfcohnndaa
open Go.RowKit
set_option linter.unusedVariables false

theorem drewN_below (w : World) (n : Nat) : Below w.heap.size w (w.drewN n) := ⟨rfl, rfl, rfl, Nat.le_refl _, fun _ _ => rfl⟩

set_option maxRecDepth 100000 in
set_option maxHeartbeats 2000000 in
theorem eqIntS_same (v1 v2 : Value) (L : List Nat) (w : World) (h1 : RowI w v1 L) (h2 : RowI w v2 L) :
    Calls Try.prog 20 #[v1, v2] w fun e w' => e = .returned (.bool true) ∧ Below w.heap.size w w' := by
  obtain ⟨a1, c1, rfl, l1, m1, r1⟩ := h1
  obtain ⟨a2, c2, rfl, l2, m2, r2⟩ := h2
  unfold maxLen at m1 m2
  have R1 := Lib.hid r1; have R2 := Lib.hid r2
  clear r1 r2
  go_enter Try.func20, Try.ntmps20
  go_wp2
  go_loopw [5] (fun i wr => ∃ k n : Nat, k ≤ L.length ∧ i = .int .i64 k ∧ wr = w.drewN n) (fun i _ => L.length - (intOf i).toNat)
  case atStart => exact ⟨0, 0, Nat.zero_le _, rfl, rfl⟩
  case round =>
    obtain ⟨k, n, hk, rfl, rfl⟩ := hrel
    by_cases hlt : k < L.length
    · obtain ⟨b1, hA1, -, cc1⟩ := R1.out.resolve_left (by rintro rfl; simp at hlt)
      obtain ⟨b2, hA2, -, cc2⟩ := R2.out.resolve_left (by rintro rfl; simp at hlt)
      subst hA1 hA2
      have d1 := cc1 k hlt
      have d2 := cc2 k hlt
      generalize (L[k] : Int) = x at d1 d2
      have hx : (x != x) = false := by simp
      clear cc1 cc2
      go_wp2_with fail
      go_quiet (fail)
      go_wp2
      go_roundw
      case rel => exact ⟨k + 1, _, by omega, by go_num, rfl⟩
      case measure => simp [intOf]; omega
    · go_wp2
      go_ret
      exact ⟨rfl, drewN_below _ _⟩

/-- The numbers m, m + 1, .. -/
def mks (m n : Nat) : List Nat := (List.range n).map (m + ·)
theorem mks_length (m n : Nat) : (mks m n).length = n := by simp [mks]
theorem mks_at (m n k : Nat) (h : k < (mks m n).length) : (mks m n)[k] = m + k := by simp [mks]
def mkd (m k : Nat) (L : List Nat) : List Nat := mks m k ++ L.drop k
theorem mkd_length (m k : Nat) (L : List Nat) (h : k ≤ L.length) : (mkd m k L).length = L.length := by
  simp [mkd, mks_length]; omega
theorem mkd_next (m k : Nat) (L : List Nat) (h : k < L.length) : (ints (mkd m k L)).set k (.int .i64 ((m + k : Nat) : Int)) = ints (mkd m (k + 1) L) := by
  have e : mkd m (k + 1) L = (mkd m k L).set k (m + k) := by
    unfold mkd
    rw [List.set_append_right _ _ (by rw [mks_length]; exact Nat.le_refl _), mks_length, Nat.sub_self, List.drop_eq_getElem_cons h, List.set_cons_zero]
    simp [mks, List.range_succ]
  rw [e, ints, ints, List.map_set]

set_option maxRecDepth 100000 in
set_option maxHeartbeats 2000000 in
theorem markIntS_own (base m n : Nat) (v : Value) (L : List Nat) (w : World) (hm : m ≤ 1000000) (hn : n ≤ 1000000) (hown : w.ownsRow base 3 1 v n (ints L)) :
    Calls Try.prog 24 #[v, .int .i64 (m : Int)] w fun e w' => e = .returned (.int .i64 ((m + n : Nat) : Int)) ∧ w'.ownsRow base 3 1 v n (ints (mks m n)) ∧ w.grownBy w' v.ownBlock := by
  have hxl : L.length = n := by have := hown.1; rw [ints_length] at this; omega
  rcases hown.2 with ⟨rfl, rfl⟩ | ⟨g, cap, cur, rfl, hbg, hh, hnc, hcm, hcs, htake⟩
  · go_enter Try.func24, Try.ntmps24
    go_wp2
    refine wp_loop_rounds 1 ?_
    rw [rounds_succ]
    go_wp2
    go_ret
    exact ⟨rfl, World.ownsRow_nil _ _ _ _, World.grownBy.refl _ _⟩
  · have HO := Lib.hid hown
    unfold maxLen at hcm
    clear hown hh hcs htake
    go_enter Try.func24, Try.ntmps24
    go_wp2
    go_loopw [1, 5] (fun a i wr => ∃ k : Nat, k ≤ n ∧ i = .int .i64 (k : Int) ∧ a = .int .i64 ((m + k : Nat) : Int) ∧ wr.ownsRow base 3 1 (.slice (some ⟨g, 0, none⟩) n cap) n (ints (mkd m k L)) ∧ w.grownBy wr (some g)) (fun _ i _ => n - (intOf i).toNat)
    case atStart => exact ⟨0, Nat.zero_le _, rfl, rfl, HO.out, World.grownBy.refl _ _⟩
    case round =>
      obtain ⟨k, hk, rfl, rfl, hown, hg⟩ := hrel
      have HG := Lib.hid hg; clear hg
      have HO2 := Lib.hid hown; clear hown
      by_cases hlt : k < n
      · have hcl : wr.cell? ⟨g, k, none⟩ = (ints (mkd m k L))[k]? := HO2.out.cellAt k (by omega)
        rw [List.getElem?_eq_getElem (by rw [ints_length, mkd_length _ _ _ (by omega)]; omega)] at hcl
        have hfz : wr.frozen? ⟨g, k, none⟩ = false := HO2.out.frozenAt k
        have HO3 := Lib.hid (HO2.out.stored k (.int .i64 ((m + k : Nat) : Int)))
        have HN := Lib.hid (mkd_next m k L (by omega))
        go_wp2
        go_roundw
        case rel =>
          refine ⟨k + 1, by omega, by go_num, by go_num, ?_, ?_⟩
          · rw [← HN.out]; exact HO3.out.1
          · exact grownT HG.out HO3.out.2
        case measure => simp [intOf]; omega
      · obtain rfl : k = n := by omega
        go_wp2
        go_ret
        refine ⟨rfl, ?_, HG.out⟩
        have := HO2.out
        rw [show mkd m k L = mks m k by rw [mkd, List.drop_eq_nil_of_le (by omega), List.append_nil]] at this
        exact this

set_option maxRecDepth 100000 in
set_option maxHeartbeats 2000000 in
theorem heldIntS_any (m n : Nat) (v : Value) (w : World) (hm : m ≤ 1000000) (hn : n ≤ 1000000) (h : RowI w v (mks m n)) :
    Calls Try.prog 25 #[v, .int .i64 (m : Int)] w fun e w' => e = .returned (.int .i64 ((m + n : Nat) : Int)) ∧ w = w' := by
  obtain ⟨ao, cap, rfl, h1, h2, h3⟩ := h
  rw [mks_length] at h1 ⊢
  unfold maxLen at h2
  have R3 := Lib.hid h3; clear h3
  go_enter Try.func25, Try.ntmps25
  go_wp2
  go_loop [1, 5] (fun a i => ∃ k : Nat, k ≤ n ∧ i = .int .i64 (k : Int) ∧ a = .int .i64 ((m + k : Nat) : Int)) (fun _ i => n - (intOf i).toNat)
  case atStart => exact ⟨0, Nat.zero_le _, rfl, rfl⟩
  case round =>
    obtain ⟨k, hk, rfl, rfl⟩ := hrel
    by_cases hlt : k < n
    · obtain ⟨b, rfl, hbl, cc⟩ := R3.out.resolve_left (by intro h; have := congrArg List.length h; rw [mks_length] at this; simp at this; omega)
      have d0 := cc k (by rw [mks_length]; exact hlt)
      rw [mks_at] at d0
      have hx : ((((m + k : Nat) : Int)) != (((m + k : Nat) : Int))) = false := by simp
      generalize hM : ((m + k : Nat) : Int) = M at *
      have hM0 : 0 ≤ M := by omega
      have hM1 : M ≤ 100000000 := by omega
      have HMM := Lib.hid hM; clear hM cc
      go_wp2
      go_round
      case rel => exact ⟨k + 1, by omega, by go_num, by rw [show ((m + (k + 1) : Nat) : Int) = M + 1 by have := HMM.out; omega]⟩
      case measure => simp [intOf]; omega
    · obtain rfl : k = n := by omega
      go_wp2
      go_ret
      exact ⟨rfl, rfl⟩

end Go.Proofs.Ytbddokfcohnndaa
