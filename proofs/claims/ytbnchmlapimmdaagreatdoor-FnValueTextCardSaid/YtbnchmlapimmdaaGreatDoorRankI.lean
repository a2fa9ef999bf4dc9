/-
  impl.binaryRank, by its contract.
-/
import Derived.Test.YtbnchmlapimmdaaGreatDoorSigns
namespace Go.Proofs.YtbnchmlapimmdaaGreatDoor
open Go.RowKit
set_option linter.unusedVariables false

/-- The strength of a binary sign as impl counts it: 0 for none, 1 for the weakest. -/
def rkI (l : List UInt8) : Int := if rankL l = 0 then 0 else rankL l - 1
theorem rkI_of {l : List UInt8} {r : Int} (h : rankL l = r) (h0 : r ≠ 0) : rkI l = r - 1 := by rw [rkI, if_neg (by rw [h]; exact h0), h]
theorem ite_bd {p : Prop} [Decidable p] {a b : Int} (ha : a = 0 ∨ (2 ≤ a ∧ a ≤ 6)) (hb : b = 0 ∨ (2 ≤ b ∧ b ≤ 6)) : (if p then a else b) = 0 ∨ (2 ≤ (if p then a else b) ∧ (if p then a else b) ≤ 6) := by
  by_cases h : p
  · rw [if_pos h]; exact ha
  · rw [if_neg h]; exact hb
theorem rankL_bd (l : List UInt8) : rankL l = 0 ∨ (2 ≤ rankL l ∧ rankL l ≤ 6) := by
  unfold rankL
  iterate 13 (refine ite_bd (by decide) ?_)
  decide
theorem rkI_bd (l : List UInt8) : 0 ≤ rkI l ∧ rkI l ≤ 5 := by
  unfold rkI; have := rankL_bd l; split <;> omega

set_option maxRecDepth 100000 in
set_option maxHeartbeats 4000000 in
theorem binaryRank_any (s : ByteArray) (w : World) :
    Calls Tryz.prog 113 #[.string s] w fun e w' => e = .returned (.int .i64 (rkI s.data.toList)) ∧ w = w' := by
  by_cases h0 : s.data.toList = [124, 124]
  · have hr : rkI s.data.toList = 1 := rkI_of (r := 2) (by rw [rankL, if_pos h0]) (by decide)
    rw [hr]
    have e0 := ls_yes h0
    clear hr h0
    go_enter Tryz.func113, Tryz.ntmps113
    go_wp2
    go_ret
    exact ⟨rfl, rfl⟩
  by_cases h1 : s.data.toList = [38, 38]
  · have hr : rkI s.data.toList = 2 := rkI_of (r := 3) (by rw [rankL, if_neg h0, if_pos h1]) (by decide)
    rw [hr]
    have n0 := ls_no h0
    have e1 := ls_yes h1
    clear hr h0 h1
    go_enter Tryz.func113, Tryz.ntmps113
    go_wp2
    go_ret
    exact ⟨rfl, rfl⟩
  by_cases h2 : s.data.toList = [61, 61]
  · have hr : rkI s.data.toList = 3 := rkI_of (r := 4) (by rw [rankL, if_neg h0, if_neg h1, if_pos h2]) (by decide)
    rw [hr]
    have n0 := ls_no h0
    have n1 := ls_no h1
    have e2 := ls_yes h2
    clear hr h0 h1 h2
    go_enter Tryz.func113, Tryz.ntmps113
    go_wp2
    go_ret
    exact ⟨rfl, rfl⟩
  by_cases h3 : s.data.toList = [33, 61]
  · have hr : rkI s.data.toList = 3 := rkI_of (r := 4) (by rw [rankL, if_neg h0, if_neg h1, if_neg h2, if_pos h3]) (by decide)
    rw [hr]
    have n0 := ls_no h0
    have n1 := ls_no h1
    have n2 := ls_no h2
    have e3 := ls_yes h3
    clear hr h0 h1 h2 h3
    go_enter Tryz.func113, Tryz.ntmps113
    go_wp2
    go_ret
    exact ⟨rfl, rfl⟩
  by_cases h4 : s.data.toList = [60]
  · have hr : rkI s.data.toList = 3 := rkI_of (r := 4) (by rw [rankL, if_neg h0, if_neg h1, if_neg h2, if_neg h3, if_pos h4]) (by decide)
    rw [hr]
    have n0 := ls_no h0
    have n1 := ls_no h1
    have n2 := ls_no h2
    have n3 := ls_no h3
    have e4 := ls_yes h4
    clear hr h0 h1 h2 h3 h4
    go_enter Tryz.func113, Tryz.ntmps113
    go_wp2
    go_ret
    exact ⟨rfl, rfl⟩
  by_cases h5 : s.data.toList = [60, 61]
  · have hr : rkI s.data.toList = 3 := rkI_of (r := 4) (by rw [rankL, if_neg h0, if_neg h1, if_neg h2, if_neg h3, if_neg h4, if_pos h5]) (by decide)
    rw [hr]
    have n0 := ls_no h0
    have n1 := ls_no h1
    have n2 := ls_no h2
    have n3 := ls_no h3
    have n4 := ls_no h4
    have e5 := ls_yes h5
    clear hr h0 h1 h2 h3 h4 h5
    go_enter Tryz.func113, Tryz.ntmps113
    go_wp2
    go_ret
    exact ⟨rfl, rfl⟩
  by_cases h6 : s.data.toList = [62]
  · have hr : rkI s.data.toList = 3 := rkI_of (r := 4) (by rw [rankL, if_neg h0, if_neg h1, if_neg h2, if_neg h3, if_neg h4, if_neg h5, if_pos h6]) (by decide)
    rw [hr]
    have n0 := ls_no h0
    have n1 := ls_no h1
    have n2 := ls_no h2
    have n3 := ls_no h3
    have n4 := ls_no h4
    have n5 := ls_no h5
    have e6 := ls_yes h6
    clear hr h0 h1 h2 h3 h4 h5 h6
    go_enter Tryz.func113, Tryz.ntmps113
    go_wp2
    go_ret
    exact ⟨rfl, rfl⟩
  by_cases h7 : s.data.toList = [62, 61]
  · have hr : rkI s.data.toList = 3 := rkI_of (r := 4) (by rw [rankL, if_neg h0, if_neg h1, if_neg h2, if_neg h3, if_neg h4, if_neg h5, if_neg h6, if_pos h7]) (by decide)
    rw [hr]
    have n0 := ls_no h0
    have n1 := ls_no h1
    have n2 := ls_no h2
    have n3 := ls_no h3
    have n4 := ls_no h4
    have n5 := ls_no h5
    have n6 := ls_no h6
    have e7 := ls_yes h7
    clear hr h0 h1 h2 h3 h4 h5 h6 h7
    go_enter Tryz.func113, Tryz.ntmps113
    go_wp2
    go_ret
    exact ⟨rfl, rfl⟩
  by_cases h8 : s.data.toList = [43]
  · have hr : rkI s.data.toList = 4 := rkI_of (r := 5) (by rw [rankL, if_neg h0, if_neg h1, if_neg h2, if_neg h3, if_neg h4, if_neg h5, if_neg h6, if_neg h7, if_pos h8]) (by decide)
    rw [hr]
    have n0 := ls_no h0
    have n1 := ls_no h1
    have n2 := ls_no h2
    have n3 := ls_no h3
    have n4 := ls_no h4
    have n5 := ls_no h5
    have n6 := ls_no h6
    have n7 := ls_no h7
    have e8 := ls_yes h8
    clear hr h0 h1 h2 h3 h4 h5 h6 h7 h8
    go_enter Tryz.func113, Tryz.ntmps113
    go_wp2
    go_ret
    exact ⟨rfl, rfl⟩
  by_cases h9 : s.data.toList = [45]
  · have hr : rkI s.data.toList = 4 := rkI_of (r := 5) (by rw [rankL, if_neg h0, if_neg h1, if_neg h2, if_neg h3, if_neg h4, if_neg h5, if_neg h6, if_neg h7, if_neg h8, if_pos h9]) (by decide)
    rw [hr]
    have n0 := ls_no h0
    have n1 := ls_no h1
    have n2 := ls_no h2
    have n3 := ls_no h3
    have n4 := ls_no h4
    have n5 := ls_no h5
    have n6 := ls_no h6
    have n7 := ls_no h7
    have n8 := ls_no h8
    have e9 := ls_yes h9
    clear hr h0 h1 h2 h3 h4 h5 h6 h7 h8 h9
    go_enter Tryz.func113, Tryz.ntmps113
    go_wp2
    go_ret
    exact ⟨rfl, rfl⟩
  by_cases h10 : s.data.toList = [42]
  · have hr : rkI s.data.toList = 5 := rkI_of (r := 6) (by rw [rankL, if_neg h0, if_neg h1, if_neg h2, if_neg h3, if_neg h4, if_neg h5, if_neg h6, if_neg h7, if_neg h8, if_neg h9, if_pos h10]) (by decide)
    rw [hr]
    have n0 := ls_no h0
    have n1 := ls_no h1
    have n2 := ls_no h2
    have n3 := ls_no h3
    have n4 := ls_no h4
    have n5 := ls_no h5
    have n6 := ls_no h6
    have n7 := ls_no h7
    have n8 := ls_no h8
    have n9 := ls_no h9
    have e10 := ls_yes h10
    clear hr h0 h1 h2 h3 h4 h5 h6 h7 h8 h9 h10
    go_enter Tryz.func113, Tryz.ntmps113
    go_wp2
    go_ret
    exact ⟨rfl, rfl⟩
  by_cases h11 : s.data.toList = [47]
  · have hr : rkI s.data.toList = 5 := rkI_of (r := 6) (by rw [rankL, if_neg h0, if_neg h1, if_neg h2, if_neg h3, if_neg h4, if_neg h5, if_neg h6, if_neg h7, if_neg h8, if_neg h9, if_neg h10, if_pos h11]) (by decide)
    rw [hr]
    have n0 := ls_no h0
    have n1 := ls_no h1
    have n2 := ls_no h2
    have n3 := ls_no h3
    have n4 := ls_no h4
    have n5 := ls_no h5
    have n6 := ls_no h6
    have n7 := ls_no h7
    have n8 := ls_no h8
    have n9 := ls_no h9
    have n10 := ls_no h10
    have e11 := ls_yes h11
    clear hr h0 h1 h2 h3 h4 h5 h6 h7 h8 h9 h10 h11
    go_enter Tryz.func113, Tryz.ntmps113
    go_wp2
    go_ret
    exact ⟨rfl, rfl⟩
  by_cases h12 : s.data.toList = [37]
  · have hr : rkI s.data.toList = 5 := rkI_of (r := 6) (by rw [rankL, if_neg h0, if_neg h1, if_neg h2, if_neg h3, if_neg h4, if_neg h5, if_neg h6, if_neg h7, if_neg h8, if_neg h9, if_neg h10, if_neg h11, if_pos h12]) (by decide)
    rw [hr]
    have n0 := ls_no h0
    have n1 := ls_no h1
    have n2 := ls_no h2
    have n3 := ls_no h3
    have n4 := ls_no h4
    have n5 := ls_no h5
    have n6 := ls_no h6
    have n7 := ls_no h7
    have n8 := ls_no h8
    have n9 := ls_no h9
    have n10 := ls_no h10
    have n11 := ls_no h11
    have e12 := ls_yes h12
    clear hr h0 h1 h2 h3 h4 h5 h6 h7 h8 h9 h10 h11 h12
    go_enter Tryz.func113, Tryz.ntmps113
    go_wp2
    go_ret
    exact ⟨rfl, rfl⟩
  have hr : rkI s.data.toList = 0 := by rw [rkI, if_pos (by rw [rankL, if_neg h0, if_neg h1, if_neg h2, if_neg h3, if_neg h4, if_neg h5, if_neg h6, if_neg h7, if_neg h8, if_neg h9, if_neg h10, if_neg h11, if_neg h12])]
  rw [hr]
  have n0 := ls_no h0
  have n1 := ls_no h1
  have n2 := ls_no h2
  have n3 := ls_no h3
  have n4 := ls_no h4
  have n5 := ls_no h5
  have n6 := ls_no h6
  have n7 := ls_no h7
  have n8 := ls_no h8
  have n9 := ls_no h9
  have n10 := ls_no h10
  have n11 := ls_no h11
  have n12 := ls_no h12
  clear hr h0 h1 h2 h3 h4 h5 h6 h7 h8 h9 h10 h11 h12
  go_enter Tryz.func113, Tryz.ntmps113
  go_wp2
  go_ret
  exact ⟨rfl, rfl⟩

end Go.Proofs.YtbnchmlapimmdaaGreatDoor
