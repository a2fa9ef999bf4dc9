/-
  The walk of laws.FnDepthsOf.
-/
import Derived.Test.YtbmobgahokehmaaGreatDoorDrawDepthsOf
import Derived.Test.YtbmobgahokehmaaGreatDoorDocFew
import Derived.Test.YtbmobgahokehmaaGreatDoorSameInts
import Derived.Test.YtbmobgahokehmaaGreatDoorBaseD
namespace Go.Proofs.YtbmobgahokehmaaGreatDoor
open Go.RowKit
set_option linter.unusedVariables false

set_option maxRecDepth 100000 in
set_option maxHeartbeats 8000000 in
theorem fnDepthsOf_core (a0 : Option Addr) (len0 cap0 : Nat) (w : World) (hrow : CodeRow w a0 len0 cap0) (htab : Tab w) :
    Calls Tryz.prog 5 #[.slice a0 len0 cap0] w fun e w' => e = .returned (.bool true) ∧ Below w.heap.size w w' := by
  have hcap := hrow.1; have hmx := hrow.2.1
  unfold maxLen at hmx
  by_cases hl : len0 ≤ 1048576
  · have HD := Lib.hid (drawDepthsOf_any a0 len0 cap0 w hrow); have HT := Lib.hid htab
    clear hrow htab
    go_enter Tryz.func5, Tryz.ntmps5
    go_wp2_with fail
    refine HD.out.mono ?_
    rintro e w1 ⟨v1, us, l, rfl, ho1, hf, hlen, hb1⟩
    obtain ⟨g1, c1, rfl⟩ := ho1.is
    have HRW := Lib.hid ho1.reads; have HB1 := Lib.hid hb1
    have CI := Lib.hid (fun v w' hr ht => depthsOf_impl v l w' hr (few_fitI hf) ht)
    have CS := Lib.hid (fun v w' hr => depthsOf_spec v l w' hr (few_shortI hf) (by omega))
    have CV := Lib.hid (fun v w' hr => documentValid_spec v l w' hr (few_shortI hf) (by omega))
    have HLN := Lib.hid hlen
    obtain ⟨P, hP⟩ : ∃ P, dpD l = P := ⟨_, rfl⟩
    rw [hP] at CI CS
    have HPE := Lib.hid hP
    clear ho1 hf hlen hb1 hP
    go_wp2_with fail
    refine (CI.out _ _ HRW.out (HT.out.keep HB1.out)).mono ?_
    rintro e w2 ⟨v2, rfl, ho2, hb2⟩
    have X2 := Lib.hid (RowI.of_own ho2).1; have R2 := Lib.hid (HRW.out.mono hb2); have HB2 := Lib.hid (HB1.out.trans (hb2.mono HB1.out.size))
    clear ho2 hb2
    go_wp2_with fail
    refine (CS.out _ _ R2.out).mono ?_
    rintro e w3 ⟨v3, rfl, ho3, hb3⟩
    have X3 := Lib.hid (X2.out.mono hb3); have Y3 := Lib.hid (RowI.of_own ho3).1; have R3 := Lib.hid (R2.out.mono hb3); have HB3 := Lib.hid (HB2.out.trans (hb3.mono HB2.out.size))
    clear ho3 hb3
    go_wp2_with fail
    refine (sameInts_same v2 v3 P _ X3.out Y3.out).mono ?_
    rintro e w4 ⟨rfl, hb4⟩
    have X4 := Lib.hid (X3.out.mono hb4); have R4 := Lib.hid (R3.out.mono hb4); have HB4 := Lib.hid (HB3.out.trans (hb4.mono HB3.out.size))
    clear hb4
    go_wp2_with fail
    refine (CV.out _ _ R4.out).mono ?_
    rintro e w5 ⟨rfl, hb5⟩
    have X5 := Lib.hid (X4.out.mono hb5); have R5 := Lib.hid (R4.out.mono hb5); have HB5 := Lib.hid (HB4.out.trans (hb5.mono HB4.out.size))
    clear hb5 X2 X3 X4 Y3 R2 R3 R4 HB2 HB3 HB4
    obtain ⟨d, hd⟩ : ∃ d, docB l = d := ⟨_, rfl⟩
    rw [hd]
    cases d with
    | false =>
      have hP0 : P = [] := by rw [← HPE.out]; unfold dpD; rw [if_neg (by rw [hd]; simp)]
      clear HPE hd
      obtain ⟨a2, c2, hv2, -⟩ := X5.out
      rw [hP0] at hv2
      subst hv2
      clear hP0
      go_wp2_with fail
      refine (alive_any _).mono ?_
      rintro e w' ⟨rfl, rfl⟩
      go_wp2
      go_ret
      exact ⟨rfl, HB5.out⟩
    | true =>
      obtain ⟨hPl, hfacts⟩ := dep_facts hd HPE.out
      have HF := Lib.hid hfacts
      have hsh : ∃ a c, v2 = .slice a P.length c := by obtain ⟨a, c, h, -⟩ := X5.out; exact ⟨a, c, h⟩
      obtain ⟨a2, c2, rfl⟩ := hsh
      have HXC := Lib.hid (fun h0 => X5.out.at h0)
      have HKC := Lib.hid R5.out.kinds
      have HPL := Lib.hid hPl
      rw [hPl]
      clear hfacts hd hPl CI CS CV X5 R5 HRW
      have hl41 : l.length ≤ 41 := HLN.out
      go_wp2_with fail
      go_loopw [5] (fun i wr => ∃ k : Nat, k ≤ l.length ∧ i = .int .i64 (k : Int) ∧ wr = w5) (fun i _ => l.length - (intOf i).toNat)
      case atStart => exact ⟨0, by omega, rfl, rfl⟩
      case round =>
        obtain ⟨k, hk, rfl, hwr⟩ := hrel
        subst hwr
        by_cases hlt : k < l.length
        · have hltI : (k : Int) < (l.length : Int) := by omega
          obtain ⟨b2, rfl, hxc⟩ := HXC.out (by have := HPL.out; omega)
          have hkP : k < P.length := by have := HPL.out; omega
          obtain ⟨h4, h0, hs⟩ := HF.out k hlt hkP
          have d1 := hxc k hkP
          have d2 := HKC.out k hlt
          by_cases hk1 : k = 0
          · have hx := h0 hk1
            rw [hx] at d1
            clear hs h4 h0 hx hxc
            subst hk1
            go_wp2
            go_roundw
            case rel => exact ⟨0 + 1, by omega, by go_num, by trivial⟩
            case measure => simp [intOf]; omega
          · obtain ⟨j, hkj⟩ : ∃ j, j + 1 = k := ⟨k - 1, by omega⟩
            have hj := hs j hkj
            have d3 := hxc j (by omega)
            have d4 := HKC.out j (by omega)
            have hx0 : (0 : Int) ≤ (P[k] : Int) := by omega
            have hy0 : (0 : Int) ≤ (P[j]'(by omega) : Int) := by omega
            generalize (P[k] : Int) = x at d1 hj h4 hx0
            generalize (P[j]'(by omega) : Int) = y at d3 hj hy0
            generalize (l[j]'(by omega)).1 = kj at d4 hj
            generalize (l[k]).1 = kk at d2 hj
            have hkp : (0 : Int) < (k : Int) := by omega
            have hwk : IntKind.i64.wrap ((k : Int) - 1) = (j : Int) := by rw [IntWalk.i64_in _ (by omega)]; omega
            have hjI : (j : Int) < (l.length : Int) := by omega
            have hxa : ¬ x < 0 := by omega
            have hxb : ¬ (4 : Int) < x := by omega
            clear hs h0 hx0 hk1 hxc
            have HKJ := Lib.hid hkj; clear hkj
            by_cases h4j : kj = 4
            · subst h4j
              rw [if_pos rfl] at hj
              by_cases h5k : kk = 5
              · subst h5k
                rw [if_pos rfl] at hj
                obtain rfl : x = y := by omega
                have hw1 : IntKind.i64.wrap (x + 1) = x + 1 := IntWalk.i64_in _ (by omega)
                have hw2 : IntKind.i64.wrap (x + 1 - 1) = x := by rw [IntWalk.i64_in _ (by omega)]; omega
                have hw3 : IntKind.i64.wrap x = x := IntWalk.i64_in _ (by omega)
                clear hj h4 hy0
                go_wp2
                go_roundw
                case rel => exact ⟨k + 1, by omega, by go_num, by trivial⟩
                case measure => simp [intOf]; omega
              · rw [if_neg h5k] at hj
                have h5b : (kk == 5) = false := beq_eq_false_iff_ne.mpr h5k
                have hw1 : IntKind.i64.wrap (y + 1) = x := by rw [IntWalk.i64_in _ (by omega)]; omega
                clear hj h4 hy0
                go_wp2
                go_roundw
                case rel => exact ⟨k + 1, by omega, by go_num, by trivial⟩
                case measure => simp [intOf]; omega
            · rw [if_neg h4j] at hj
              have h4b : (kj == 4) = false := beq_eq_false_iff_ne.mpr h4j
              by_cases h5k : kk = 5
              · subst h5k
                rw [if_pos rfl] at hj
                have hw1 : IntKind.i64.wrap (y - 1) = x := by rw [IntWalk.i64_in _ (by omega)]; omega
                clear hj h4 hy0
                go_wp2
                go_roundw
                case rel => exact ⟨k + 1, by omega, by go_num, by trivial⟩
                case measure => simp [intOf]; omega
              · rw [if_neg h5k] at hj
                have h5b : (kk == 5) = false := beq_eq_false_iff_ne.mpr h5k
                obtain rfl : x = y := by omega
                clear hj h4 hy0
                go_wp2
                go_roundw
                case rel => exact ⟨k + 1, by omega, by go_num, by trivial⟩
                case measure => simp [intOf]; omega
        · obtain rfl : k = l.length := by omega
          go_wp2
          go_ret
          exact ⟨rfl, HB5.out⟩
  · go_enter Tryz.func5, Tryz.ntmps5
    go_wp2
    go_ret
    exact ⟨rfl, Below.refl _ _⟩

end Go.Proofs.YtbmobgahokehmaaGreatDoor
