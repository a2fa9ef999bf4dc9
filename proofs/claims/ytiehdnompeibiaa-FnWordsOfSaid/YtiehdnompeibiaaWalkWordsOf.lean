/-
  The walk of laws.FnWordsOf.
-/
import Derived.Test.YtiehdnompeibiaaWordsAgain
import Derived.Test.YtiehdnompeibiaaSameTexts
import Derived.Test.YtiehdnompeibiaaAlive
import Derived.Test.YtiehdnompeibiaaDrawWordsOf
namespace Go.Proofs.Ytiehdnompeibiaa
open Go.RowKit
set_option linter.unusedVariables false

theorem app2_list (t u : ByteArray) : (t ++ u ++ ⟨#[32, 32]⟩ : ByteArray).data.toList = t.data.toList ++ (u.data.toList ++ [32, 32]) := by simp
theorem bytesW_next {L : List ByteArray} {k : Nat} (h : k < L.length) : bytesW (L.take (k + 1)) = bytesW (L.take k) ++ [L[k].data.toList] := by
  rw [List.take_succ_eq_append_getElem h]; simp only [bytesW, List.map_append, List.map_cons, List.map_nil]

set_option maxRecDepth 100000 in
set_option maxHeartbeats 2000000 in
theorem fnWordsOf_core (a0 : Option Addr) (len0 cap0 : Nat) (w : World) (hrow : CodeRow w a0 len0 cap0) :
    Calls Try.prog 8 #[.slice a0 len0 cap0] w fun e w' => e = .returned (.bool true) ∧ Below w.heap.size w w' := by
  have hcap := hrow.1; have hmx := hrow.2.1
  unfold maxLen at hmx
  by_cases hl : len0 ≤ 1048576
  · go_enter Try.func8, Try.ntmps8
    go_wp2_with fail
    refine (drawWordsOf_any a0 len0 cap0 _ hrow).mono ?_
    rintro e w1 ⟨s, rfl, hs, hb1⟩
    have HB1 := Lib.hid hb1
    clear hb1 hrow
    have hws := wordsT_small s
    have HSZ := Lib.hid (wordsT_size s)
    have HAG := Lib.hid (words_again s)
    go_wp2_with fail
    refine (wordsOf_impl s _ (by unfold maxLen; omega)).mono ?_
    rintro e w2 ⟨v2, rfl, hown2, hb2⟩
    have R2 := Lib.hid (RowOf.of_own hown2); have B2 := Lib.hid (HB1.out.trans (hb2.mono HB1.out.size))
    clear hown2 hb2 HB1
    go_wp2_with fail
    refine (wordsOf_spec s _ (by unfold maxLen; omega)).mono ?_
    rintro e w3 ⟨v3, rfl, hown3, hb3⟩
    have R3 := Lib.hid (RowOf.of_own hown3); have B3 := Lib.hid (B2.out.trans (hb3.mono B2.out.size))
    have R23 := Lib.hid (R2.out.mono hb3)
    clear hown3 hb3 B2 R2
    go_wp2_with fail
    refine (sameTexts_any _ _ _ _ _ R23.out R3.out).mono ?_
    rintro e w4 ⟨rfl, n4, hw4⟩
    have hb4 : Below w3.heap.size w3 w4 := by rw [hw4]; exact ⟨rfl, rfl, rfl, Nat.le_refl _, fun _ _ => rfl⟩
    have B4 := Lib.hid (B3.out.trans (hb4.mono B3.out.size))
    have R4 := Lib.hid (R23.out.mono hb4)
    clear hw4 hb4 B3 R3 R23
    rw [show decide (wordsT s = wordsT s) = true by simp]
    generalize hW : wordsT s = L at *
    obtain ⟨ao, cap, hv, l1, m1, r1⟩ := R4.out
    rw [strs_length] at hv l1
    subst hv
    unfold maxLen at m1
    have RR := Lib.hid r1; clear r1 hW
    go_wp2_with fail
    go_loop [5, 6] (fun o i => ∃ (k : Nat) (t : ByteArray), k ≤ L.length ∧ i = .int .i64 (k : Int) ∧ o = .string t ∧ t.size ≤ 40 * k ∧ t.data.toList = joinW (bytesW (L.take k))) (fun _ i => L.length - (intOf i).toNat)
    case atStart => exact ⟨0, ⟨#[]⟩, Nat.zero_le _, rfl, rfl, by show (0 : Nat) ≤ _; omega, rfl⟩
    case round =>
      obtain ⟨k, t, hk, rfl, rfl, hts, htl⟩ := hrel
      have HTL := Lib.hid htl; clear htl
      by_cases hlt : k < L.length
      · obtain ⟨b, off, rfl, lt1, cc⟩ := RR.out.resolve_left (by intro h; have h' := congrArg List.length h; rw [strs_length] at h'; simp only [List.length_nil] at h'; omega)
        have d1 := cc k (.string L[k]) (by simp [strs, hlt])
        have hz := HSZ.out L[k] (List.getElem_mem hlt)
        have HN := Lib.hid (bytesW_next hlt)
        clear cc
        generalize L[k] = u at *
        have hus : (t ++ u ++ ⟨#[32, 32]⟩ : ByteArray).size ≤ 40 * (k + 1) := by
          rw [ByteArray.size_append, ByteArray.size_append]; show t.size + u.size + 2 ≤ _; omega
        have HUS := Lib.hid hus; clear hus
        go_wp2
        go_round
        case rel => exact ⟨k + 1, _, by omega, by go_num, rfl, HUS.out, by rw [app2_list, HN.out, join_snoc, HTL.out]⟩
        case measure => simp [intOf]; omega
      · obtain rfl : k = L.length := by omega
        rw [List.take_of_length_le (Nat.le_refl _)] at HTL
        have HWW := Lib.hid (HAG.out t (by omega) HTL.out)
        go_wp2_with fail
        refine (wordsOf_impl t _ (by unfold maxLen; omega)).mono ?_
        rintro e w5 ⟨v5, rfl, hown5, hb5⟩
        rw [HWW.out] at hown5
        have R5 := Lib.hid (RowOf.of_own hown5); have B5 := Lib.hid (B4.out.trans (hb5.mono B4.out.size))
        have R45 := Lib.hid (R4.out.mono hb5)
        clear hown5 hb5 B4 R4
        go_wp2_with fail
        refine (sameTexts_any _ _ L L _ R5.out R45.out).mono ?_
        rintro e w6 ⟨rfl, n6, hw6⟩
        have B6 := Lib.hid (show Below w.heap.size w w6 by rw [hw6]; exact B5.out.trans ⟨rfl, rfl, rfl, Nat.le_refl _, fun _ _ => rfl⟩)
        clear hw6
        rw [show decide (L = L) = true by simp]
        go_wp2_with fail
        refine (alive_any _).mono ?_
        rintro e w' ⟨rfl, rfl⟩
        go_wp2
        go_ret
        exact ⟨rfl, B6.out⟩
  · go_enter Try.func8, Try.ntmps8
    go_wp2
    go_ret
    exact ⟨rfl, Below.refl _ _⟩

end Go.Proofs.Ytiehdnompeibiaa
