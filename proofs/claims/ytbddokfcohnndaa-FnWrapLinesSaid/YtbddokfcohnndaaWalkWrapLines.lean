/-
  The walk of laws.FnWrapLines.
-/
import Derived.Test.YtbddokfcohnndaaDrawWrapLines
import Derived.Test.YtbddokfcohnndaaWrapWI
import Derived.Test.YtbddokfcohnndaaWrapWS
import Derived.Test.YtbddokfcohnndaaWrapCI
import Derived.Test.YtbddokfcohnndaaWrapLen
import Derived.Test.YtbddokfcohnndaaSameInts
import Derived.Test.YtbddokfcohnndaaAlive
import Derived.Test.YtbddokfcohnndaaWrapFew
namespace Go.Proofs.Ytbddokfcohnndaa
open Go.RowKit
set_option linter.unusedVariables false

theorem ints_asZ (L : List Nat) : ints L = intsZ (L.map fun (n : Nat) => (n : Int)) := by simp [ints, intsZ]
theorem shl8 (n : Nat) (hn : n ≤ 8) : ∃ M : Nat, M ≤ 128 ∧ wrap64 (2 ^ (max 0 ((n : Int) - 1)).toNat) = (M : Int) := by
  match n, hn with
  | 0, _ => exact ⟨1, by omega, by decide +kernel⟩
  | 1, _ => exact ⟨1, by omega, by decide +kernel⟩
  | 2, _ => exact ⟨2, by omega, by decide +kernel⟩
  | 3, _ => exact ⟨4, by omega, by decide +kernel⟩
  | 4, _ => exact ⟨8, by omega, by decide +kernel⟩
  | 5, _ => exact ⟨16, by omega, by decide +kernel⟩
  | 6, _ => exact ⟨32, by omega, by decide +kernel⟩
  | 7, _ => exact ⟨64, by omega, by decide +kernel⟩
  | 8, _ => exact ⟨128, by omega, by decide +kernel⟩
  | n + 9, h => omega
theorem best_cost {L : List ByteArray} {x : Int} (h : fitB L x = true) : 0 ≤ costW L x ((wlB L x).map fun (n : Nat) => (n : Int)) ∧ ∀ l : List Int, 0 ≤ costW L x l → costW L x ((wlB L x).map fun (n : Nat) => (n : Int)) ≤ costW L x l := by
  obtain ⟨n, rfl, h3, h4, h5⟩ := fit_S h
  have hb := best_ok h5
  have h0 : costW L (n : Int) ((wlB L (n : Int)).map fun (n : Nat) => (n : Int)) = (bestC n (szW L) : Int) := by
    rw [costW_at h (r := some (bestC n (szW L))) (by unfold wlB; rw [if_pos h, Int.toNat_natCast]; exact costZ_some hb.1)]; rfl
  rw [h0]
  refine ⟨by omega, fun l hl => ?_⟩
  cases hc : costZ n (szW L) l with
  | none => rw [costW_at h hc] at hl; simp [costV] at hl
  | some c =>
    rw [costW_at h hc]
    obtain ⟨l', rfl, hl'⟩ := costZ_nat _ _ _ _ hc
    have := hb.2 (l', c) hl'
    show (bestC n (szW L) : Int) ≤ (c : Int)
    unfold Ge at this
    simp only at this
    omega

set_option maxRecDepth 100000 in
set_option maxHeartbeats 8000000 in
theorem fnWrapLines_core (a0 : Option Addr) (len0 cap0 : Nat) (w : World) (hrow : CodeRow w a0 len0 cap0) :
    Calls Try.prog 11 #[.slice a0 len0 cap0] w fun e w' => e = .returned (.bool true) ∧ Below w.heap.size w w' := by
  obtain ⟨i0, hi, hz0, hz1, hz2⟩ := info_parts infoI
  have hcap := hrow.1; have hmx := hrow.2.1
  unfold maxLen at hmx
  by_cases hl : len0 ≤ 1048576
  · go_enter Try.func11, Try.ntmps11
    go_wp2_with fail
    refine (drawWrapLines_any a0 len0 cap0 _ hrow).mono ?_
    rintro e w1 ⟨L, x, v1, rfl, hL, hsz, hx0, hx1, hown1, hb⟩
    have B1 := Lib.hid hb; have R1 := Lib.hid (RowOf.of_own hown1)
    have Z := Lib.hid (few_sized hsz)
    obtain ⟨a1, c1, rfl⟩ := own_shape hown1
    have hg20 := wlB_len L x
    clear hb hrow hown1 hsz
    go_wp2_with fail
    refine (wrapLines_impl _ L x _ R1.out Z.out).mono ?_
    rintro e w2 ⟨v2, rfl, hown2, hb2⟩
    obtain ⟨a2, c2, rfl⟩ := own_shape hown2
    have O2 := Lib.hid (RowI.of_own hown2).1; have Q2 := Lib.hid (RowOf.of_own hown2); have R2 := Lib.hid (R1.out.mono hb2); have B2 := Lib.hid (B1.out.trans (hb2.mono B1.out.size))
    clear hown2 hb2 R1 B1
    go_wp2_with fail
    refine (wrapLines_spec _ L x _ R2.out Z.out).mono ?_
    rintro e w3 ⟨v3, rfl, hown3, hb3⟩
    obtain ⟨a3, c3, rfl⟩ := own_shape hown3
    have O3 := Lib.hid (RowI.of_own hown3).1; have P3 := Lib.hid (O2.out.mono hb3); have Q3 := Lib.hid (Q2.out.mono hb3); have R3 := Lib.hid (R2.out.mono hb3); have B3 := Lib.hid (B2.out.trans (hb3.mono B2.out.size))
    clear hown3 hb3 R2 B2 O2 Q2
    go_wp2_with fail
    refine (sameInts_same _ _ (wlB L x) _ P3.out O3.out).mono ?_
    rintro e w4 ⟨rfl, hb4⟩
    have R4 := Lib.hid (R3.out.mono hb4); have Q4 := Lib.hid (Q3.out.mono hb4); have B4 := Lib.hid (B3.out.trans (hb4.mono B3.out.size))
    clear hb4 R3 B3 O3 P3 Q3
    go_wp2_with fail
    refine (wordsFit_spec _ L x _ R4.out Z.out).mono ?_
    rintro e w' ⟨rfl, hw'⟩
    subst hw'
    cases hf : fitB L x with
    | false =>
      have hP : wlB L x = [] := by rw [wlB, hf]; rfl
      have h0 : (wlB L x).length = 0 := by rw [hP]; rfl
      generalize wlB L x = P at *
      subst hP
      clear hf
      go_wp2_with fail
      refine (alive_any _).mono ?_
      rintro e w' ⟨rfl, hw'⟩
      subst hw'
      go_wp2
      go_ret
      exact ⟨rfl, B4.out⟩
    | true =>
      obtain ⟨hc0, hcle⟩ := best_cost hf
      have HLE := Lib.hid hcle
      rw [ints_asZ] at Q4
      have hl20 := fit_len hf
      have HCI := Lib.hid (fun (u : Value) (l : List Int) (w' : World) (h1 : RowOf w' (.slice a1 L.length c1) (strs L)) (h2 : RowOf w' u (intsZ l)) => wrapCost_impl _ u L x l w' h1 Z.out h2)
      generalize hPP : (wlB L x).map (fun (n : Nat) => (n : Int)) = PI at *
      have HPP := Lib.hid hPP
      generalize wlB L x = P at *
      generalize hK : costW L x PI = K at *
      have HK := Lib.hid hK
      clear hcle hK hPP hf
      go_wp2_with fail
      refine (HCI.out _ PI _ R4.out Q4.out).mono ?_
      rintro e w' ⟨rfl, hw'⟩
      subst hw'
      rw [HK.out]
      by_cases h8 : L.length ≤ 8
      · obtain ⟨M, hM, hshl⟩ := shl8 L.length h8
        go_wp2_with fail
        go_loopw [8, 9, 10, 11, 12] (fun q _ _ _ _ wr => ∃ q' : Nat, q' ≤ M ∧ q = .int .i64 (q' : Int) ∧ Below w4.heap.size w4 wr) (fun q _ _ _ _ _ => M - (intOf q).toNat)
        case atStart => exact ⟨0, Nat.zero_le _, rfl, Below.refl _ _⟩
        case round =>
          obtain ⟨q, hq, rfl, hbw⟩ := hrel
          have HBW := Lib.hid hbw
          clear hbw
          by_cases hqM : q < M
          · have HL0 := Lib.hid (World.ownsRow_lit (base := w4.heap.size) (size := 1) (e := 3) wr #[] 0 HBW.out.size (by unfold maxLen; omega) rfl)
            have HB0 := Lib.hid (HBW.out.alloc HBW.out.size (.cells #[] 3))
            go_wp2_with fail
            go_loopw [9, 10, 11] (fun a j k wx => ∃ (k' m : Nat) (ls : List Nat), k' ≤ L.length ∧ k = .int .i64 (k' : Int) ∧ j = .int .i64 (m : Int) ∧ m ≤ k' + 1 ∧ ls.length ≤ k' ∧ wx.ownsRow w4.heap.size 3 1 a ls.length (ints ls) ∧ Below w4.heap.size w4 wx) (fun _ _ k _ => L.length - (intOf k).toNat)
            case atStart => exact ⟨0, 1, [], Nat.zero_le _, rfl, rfl, Nat.le_refl _, Nat.le_refl _, HL0.out, HB0.out⟩
            case round =>
              clear HL0 HB0 HBW
              obtain ⟨k, m, ls, hk, rfl, rfl, hmk, hlk, hown, hb⟩ := hrel
              obtain ⟨ag, ac, rfl⟩ := own_shape hown
              have HO := Lib.hid hown; have HB := Lib.hid hb
              clear hown hb
              by_cases hkl : k + 1 < L.length
              · go_wp2_with (at_builtin; refine wpList_append_own _ rfl _ _ 27 rfl w4.heap.size 3 i0 (.int .i64 0) 1 8 Try.underlying27 hi hz0 hz1 hz2 rfl (by decide) _ _ _ rfl (HO.out.alloc _) ⟨wr.heap.size, 0, none⟩ 1 1 [.int .i64 (m : Int)] rfl rfl (World.news_of_block (cs := #[.int .i64 (m : Int)]) (t := 3) (fr := (0, 0)) (heap_alloc_new wr _)) (by simp [Value.oneCell']) (by unfold maxLen; omega) (by omega) (by simp; exact Nat.le_succ_of_le HB.out.size) ?_; intro v' w6 hown' hgrow hnil; have HB6 := Lib.hid ((HB.out.alloc HB.out.size _).grown hgrow (by have := HB.out.size; simp; omega) (fun q hq => (HO.out.lt q hq).1)); have HO6 := Lib.hid (show w6.ownsRow w4.heap.size 3 1 v' (ls.length + 1) (ints (ls ++ [m])) by rw [ints_snoc]; exact hown'); obtain ⟨a6, c6, rfl⟩ := own_shape HO6.out; clear hown' hgrow hnil)
                · go_roundw
                  case rel => exact ⟨k + 1, 1, ls ++ [m], by omega, by go_num, by go_num, by omega, by simp; omega, by rw [show (ls ++ [m]).length = ls.length + 1 by simp]; exact HO6.out, HB6.out⟩
                  case measure => simp [intOf]; omega
                · go_roundw
                  case rel => exact ⟨k + 1, m + 1, ls, by omega, by go_num, by go_num, by omega, by omega, HO.out, HB.out⟩
                  case measure => simp [intOf]; omega
              · by_cases hl0 : 0 < L.length
                case' pos =>
                  go_wp2_with (at_builtin; refine wpList_append_own _ rfl _ _ 27 rfl w4.heap.size 3 i0 (.int .i64 0) 1 8 Try.underlying27 hi hz0 hz1 hz2 rfl (by decide) _ _ _ rfl (HO.out.alloc _) ⟨wr.heap.size, 0, none⟩ 1 1 [.int .i64 (m : Int)] rfl rfl (World.news_of_block (cs := #[.int .i64 (m : Int)]) (t := 3) (fr := (0, 0)) (heap_alloc_new wr _)) (by simp [Value.oneCell']) (by unfold maxLen; omega) (by omega) (by simp; exact Nat.le_succ_of_le HB.out.size) ?_; intro v' w6 hown' hgrow hnil; have HB6 := Lib.hid ((HB.out.alloc HB.out.size _).grown hgrow (by have := HB.out.size; simp; omega) (fun q hq => (HO.out.lt q hq).1)); have HO6 := Lib.hid (show w6.ownsRow w4.heap.size 3 1 v' (ls.length + 1) (ints (ls ++ [m])) by rw [ints_snoc]; exact hown'); obtain ⟨a6, c6, rfl⟩ := own_shape HO6.out; clear hown' hgrow hnil)
                  have HCX := Lib.hid (HCI.out (.slice a6 (ls.length + 1) c6) ((ls ++ [m]).map fun (n : Nat) => (n : Int)) w6 (R4.out.mono HB6.out) (by have h6 := RowOf.of_own HO6.out; rwa [ints_asZ] at h6))
                  have HLX := Lib.hid (HLE.out ((ls ++ [m]).map fun (n : Nat) => (n : Int)))
                  generalize costW L x ((ls ++ [m]).map fun (n : Nat) => (n : Int)) = z at HCX HLX
                case' neg =>
                  have HB6 := Lib.hid HB.out
                  have HCX := Lib.hid (HCI.out (.slice ag ls.length ac) (ls.map fun (n : Nat) => (n : Int)) wr (R4.out.mono HB.out) (by have h6 := RowOf.of_own HO.out; rwa [ints_asZ] at h6))
                  have HLX := Lib.hid (HLE.out (ls.map fun (n : Nat) => (n : Int)))
                  generalize costW L x (ls.map fun (n : Nat) => (n : Int)) = z at HCX HLX
                all_goals
                  go_wp2_with fail
                  refine HCX.out.mono ?_
                  rintro e w' ⟨rfl, hw'⟩
                  subst hw'
                  by_cases hz : 0 ≤ z
                  · have hKz := HLX.out hz
                    go_wp2
                    go_roundw
                    case rel => exact ⟨q + 1, by omega, by go_num, HB6.out⟩
                    case measure => simp [intOf]; omega
                  · go_wp2
                    go_roundw
                    case rel => exact ⟨q + 1, by omega, by go_num, HB6.out⟩
                    case measure => simp [intOf]; omega
          · have hqe : (q : Int) = (M : Int) := by omega
            clear hqe
            go_wp2
            go_ret
            exact ⟨rfl, B4.out.trans (HBW.out.mono B4.out.size)⟩
      · go_wp2
        go_ret
        exact ⟨rfl, B4.out⟩
  · go_enter Try.func11, Try.ntmps11
    go_wp2
    go_ret
    exact ⟨rfl, Below.refl _ _⟩

end Go.Proofs.Ytbddokfcohnndaa
