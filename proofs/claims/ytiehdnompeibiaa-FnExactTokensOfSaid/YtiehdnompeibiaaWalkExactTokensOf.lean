/-
  The walk of laws.FnExactTokensOf.
-/
import Derived.Test.YtiehdnompeibiaaTokS
import Derived.Test.YtiehdnompeibiaaTokRow
namespace Go.Proofs.Ytiehdnompeibiaa
open Go.RowKit
set_option linter.unusedVariables false

theorem toksT_len (s : ByteArray) : (toksT s).length ≤ 20001 := by
  unfold toksT
  split
  · rename_i h
    have h20 : s.size ≤ 20000 := by simp only [okT, Bool.and_eq_true, decide_eq_true_eq] at h; exact h.1.1
    unfold resL
    split
    · have hl : s.data.toList.length = s.size := by rw [Array.length_toList]; rfl
      have h1 := runM_len (s.data.toList) (0, 0, []) 0
      have h2 : (endM (0, 0, []) 0 s.data.toList).2.2.length ≤ (runM (0, 0, []) 0 s.data.toList).2.2.length + 1 := by
        unfold endM stepM
        split
        · simp
        · split
          · simp
          · split <;> simp
      simp only [List.length_nil] at h1
      omega
    · simp
  · simp

set_option maxRecDepth 100000 in
set_option maxHeartbeats 2000000 in
theorem fnExactTokensOf_core (a0 : ByteArray) (w : World) (hs : a0.size ≤ maxLen) :
    Calls Try.prog 5 #[.string a0] w fun e w' => e = .returned (.bool true) ∧ Below w.heap.size w w' := by
  have HMX := Lib.hid hs
  unfold maxLen at hs
  by_cases hl : a0.size ≤ 1048576
  · have hll := toksT_len a0
    generalize hT : toksT a0 = T at hll
    generalize hO : okT a0 = ok
    have CS := Lib.hid (fun w' => tokensOf_spec a0 w' HMX.out)
    have CI := Lib.hid (fun w' => tokensOf_impl a0 w' HMX.out)
    rw [hT, hO] at CS CI
    clear hT hO
    go_enter Try.func5, Try.ntmps5
    go_wp2_with fail
    refine (CS.out _).mono ?_
    rintro e w1 ⟨v1, rfl, hown1, hb1⟩
    have R1 := Lib.hid (RowT.of_own hown1); have B1 := Lib.hid hb1
    clear hown1 hb1
    go_wp2_with fail
    refine (CI.out _).mono ?_
    rintro e w2 ⟨v2, rfl, hown2, hb2⟩
    have O2 := Lib.hid hown2; have C2 := Lib.hid hb2
    clear hown2 hb2
    go_wp2_with fail
    refine (eqTokenS_same v2 v1 T _ (RowT.of_own O2.out) (R1.out.mono C2.out)).mono ?_
    rintro e w3 ⟨rfl, hb3⟩
    have hgb3 : w2.grownBy w3 none := ⟨hb3.os, hb3.tape, hb3.output, hb3.size, fun i hi _ => hb3.block i hi⟩
    have O3 := Lib.hid (O2.out.kept hgb3 (by
              rcases O2.out.2 with ⟨rfl, _⟩ | ⟨g', cap, cur, rfl, _⟩
              · exact .inl rfl
              · exact .inr (by simp [Value.ownBlock])))
    have C3 := Lib.hid (C2.out.trans (hb3.mono C2.out.size))
    clear hb3 hgb3 O2 C2
    cases ok
    all_goals
      go_wp2_with fail
      refine (markTokenS_own w1.heap.size 1 _ v2 _ _ (by omega) (by omega) O3.out).mono ?_
      rintro e w4 ⟨rfl, hown4, hg4⟩
      have R4 := Lib.hid (RowT.of_own hown4)
      have C4 := Lib.hid (C3.out.grown hg4 C3.out.size (fun q hq => (O3.out.lt q hq).1))
      clear hown4 hg4 O3 C3
      go_wp2_with fail
      refine (heldTokenS_any 1 _ v2 _ (by omega) (by omega) R4.out).mono ?_
      rintro e w' ⟨rfl, rfl⟩
      generalize hN : T.length = N at hll R4 ⊢
      have HN := Lib.hid hN; clear hN
      go_wp2_with fail
      refine (CI.out _).mono ?_
      rintro e w6 ⟨v6, rfl, hown6, hb6⟩
      have R6 := Lib.hid (R4.out.mono hb6)
      have C6 := Lib.hid (C4.out.trans (hb6.mono C4.out.size))
      have S6 := Lib.hid (RowT.of_own hown6)
      clear hown6 hb6 R4 C4
      go_wp2_with fail
      refine (eqTokenS_same v6 v1 T _ S6.out (R1.out.mono C6.out)).mono ?_
      rintro e w7 ⟨rfl, hb7⟩
      have R7 := Lib.hid (R6.out.mono hb7)
      have C7 := Lib.hid (C6.out.trans (hb7.mono C6.out.size))
      clear hb7 R6 C6 S6
      go_wp2_with fail
      refine (heldTokenS_any 1 _ v2 _ (by omega) (by omega) R7.out).mono ?_
      rintro e w' ⟨rfl, rfl⟩
      have C8 := Lib.hid (B1.out.trans (C7.out.mono B1.out.size))
      clear R7 C7
      go_wp2
      go_ret
      exact ⟨rfl, C8.out⟩
  · go_enter Try.func5, Try.ntmps5
    go_wp2
    go_ret
    exact ⟨rfl, Below.refl _ _⟩

end Go.Proofs.Ytiehdnompeibiaa
