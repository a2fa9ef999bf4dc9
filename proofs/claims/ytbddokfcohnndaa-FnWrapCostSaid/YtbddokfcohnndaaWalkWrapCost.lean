/-
  The walk of laws.FnWrapCost.
-/
import Derived.Test.YtbddokfcohnndaaDrawWrapCost
import Derived.Test.YtbddokfcohnndaaWrapCI
import Derived.Test.YtbddokfcohnndaaWrapCS
import Derived.Test.YtbddokfcohnndaaAlive
namespace Go.Proofs.Ytbddokfcohnndaa
open Go.RowKit
set_option linter.unusedVariables false

theorem ints_toZ (L : List Nat) : ints L = intsZ (L.map fun (n : Nat) => (n : Int)) := by simp [ints, intsZ]
theorem map_cast_inj : ∀ {P l : List Nat}, P.map (fun (n : Nat) => (n : Int)) = l.map (fun (n : Nat) => (n : Int)) → P = l := by
  intro P
  induction P with
  | nil => intro l h; cases l with | nil => rfl | cons _ _ => simp at h
  | cons a P ih =>
    intro l h
    cases l with
    | nil => simp at h
    | cons b l =>
      simp only [List.map_cons, List.cons.injEq] at h
      rw [ih h.2, show a = b by omega]
theorem cost_told (L : List ByteArray) (x : Int) (P : List Nat) : costW L x (P.map fun (n : Nat) => (n : Int)) = -1 ∨ (0 ≤ costW L x (P.map fun (n : Nat) => (n : Int)) ∧ P.sum = L.length ∧ (1 < P.length ∨ costW L x (P.map fun (n : Nat) => (n : Int)) = 0)) := by
  by_cases hf : fitB L x = true
  · cases hc : costZ x (szW L) (P.map fun (n : Nat) => (n : Int)) with
    | none => left; rw [costW_at hf hc]; rfl
    | some c =>
      right
      rw [costW_at hf hc]
      obtain ⟨l, hl, hr⟩ := costZ_nat _ _ _ _ hc
      obtain rfl := map_cast_inj hl
      obtain ⟨h1, h2, h3⟩ := costR_sum _ _ _ _ hr
      have h4 := congrArg List.length h1
      rw [List.length_drop, List.length_nil, szW_len] at h4
      rw [szW_len] at h2
      refine ⟨by show (0 : Int) ≤ (c : Int); omega, by omega, ?_⟩
      match P, hr, h2, h4 with
      | [], hr, _, _ =>
        right
        simp [costR] at hr
        show (c : Int) = 0
        omega
      | [m], hr, h2, h4 =>
        right
        obtain ⟨q1, q2, c', q3, q4⟩ := costR_cons hr
        simp [costR] at q3
        have : lineC x (szW L) m = 0 := by unfold lineC; rw [if_pos (by rw [szW_len]; simp at h2 h4; omega)]
        show (c : Int) = 0
        omega
      | _ :: _ :: _, _, _, _ => left; simp
  · left; exact costW_no (Bool.eq_false_iff.mpr hf)

set_option maxRecDepth 100000 in
set_option maxHeartbeats 8000000 in
theorem fnWrapCost_core (a0 : Option Addr) (len0 cap0 : Nat) (w : World) (hrow : CodeRow w a0 len0 cap0) :
    Calls Try.prog 8 #[.slice a0 len0 cap0] w fun e w' => e = .returned (.bool true) ∧ Below w.heap.size w w' := by
  have hcap := hrow.1; have hmx := hrow.2.1
  unfold maxLen at hmx
  by_cases hl : len0 ≤ 1048576
  · go_enter Try.func8, Try.ntmps8
    go_wp2_with fail
    refine (drawWrapCost_any a0 len0 cap0 _ hrow).mono ?_
    rintro e w1 ⟨L, x, v1, P, u1, rfl, hL, hsz, hx0, hx1, hP, hfew, hown1, hown2, hb⟩
    have B1 := Lib.hid hb; have R1 := Lib.hid (RowOf.of_own hown1)
    have Q1 := Lib.hid (show RowOf w1 u1 (intsZ (P.map fun (n : Nat) => (n : Int))) by have := RowOf.of_own hown2; rwa [ints_toZ] at this)
    have P1 := Lib.hid (RowI.of_own hown2).1
    have Z := Lib.hid (few_sized hsz)
    have FEW := Lib.hid hfew
    obtain ⟨a1, c1, rfl⟩ := own_shape hown1
    obtain ⟨a2, c2, rfl⟩ := own_shape hown2
    have CI := Lib.hid (wrapCost_impl _ _ L x _ _ R1.out Z.out Q1.out)
    have CS := Lib.hid (wrapCost_spec _ _ L x _ _ R1.out Z.out Q1.out)
    have hcc := cost_told L x P
    generalize costW L x (P.map fun (n : Nat) => (n : Int)) = z at CI CS hcc
    have hzz : (z != z) = false := by simp
    clear hb hrow hown1 hown2 hsz hfew
    go_wp2_with fail
    refine CI.out.mono ?_
    rintro e w' ⟨rfl, hw'⟩
    subst hw'
    go_wp2_with fail
    refine CS.out.mono ?_
    rintro e w' ⟨rfl, hw'⟩
    subst hw'
    rcases hcc with hz | ⟨hz0, hsum, hone⟩
    · subst hz
      go_wp2_with fail
      refine (alive_any _).mono ?_
      rintro e w' ⟨rfl, hw'⟩
      subst hw'
      go_wp2
      go_ret
      exact ⟨rfl, B1.out⟩
    · obtain ⟨ao4, cap4, hv4, q1, q2, q3⟩ := P1.out
      injection hv4 with e1 e2 e3
      subst e1 e3
      have P5 := Lib.hid q3
      unfold maxLen at q2
      have HS := Lib.hid hsum
      clear q3 e2 hsum
      go_wp2
      go_loop [7, 8] (fun a k => ∃ (q s : Nat), q ≤ P.length ∧ k = .int .i64 (q : Int) ∧ a = .int .i64 (s : Int) ∧ s = (P.take q).sum ∧ s ≤ 200 * q) (fun _ k => P.length - (intOf k).toNat)
      case atStart => exact ⟨0, 0, Nat.zero_le _, rfl, rfl, rfl, Nat.le_refl _⟩
      case round =>
        obtain ⟨q, s, hq, rfl, rfl, hs, hs2⟩ := hrel
        have HSQ := Lib.hid hs
        clear hs
        by_cases hlt : q < P.length
        · obtain ⟨b, rfl, hbl, cc⟩ := P5.out.resolve_left (by rintro rfl; simp at hlt)
          have d1 := cc q hlt
          have HNS := Lib.hid (show (P.take (q + 1)).sum = (P.take q).sum + P[q] by rw [List.take_succ_eq_append_getElem hlt, List.sum_append]; simp)
          have hpq := FEW.out _ (List.getElem_mem hlt)
          generalize P[q] = y at d1 HNS hpq
          clear cc
          go_wp2
          go_round
          case rel => exact ⟨q + 1, s + y, by omega, by go_num, by go_num, by rw [HNS.out, HSQ.out], by omega⟩
          case measure => simp [intOf]; omega
        · have hsl : s = L.length := by rw [HSQ.out, List.take_of_length_le (by omega)]; exact HS.out
          subst hsl
          by_cases h1p : 1 < P.length
          · have hLL : ((L.length : Int) == (L.length : Int)) = true := by simp
            go_wp2
            go_ret
            exact ⟨rfl, B1.out⟩
          · have h1 := hone.resolve_left h1p
            subst h1
            have hLL : ((L.length : Int) == (L.length : Int)) = true := by simp
            go_wp2
            go_ret
            exact ⟨rfl, B1.out⟩
  · go_enter Try.func8, Try.ntmps8
    go_wp2
    go_ret
    exact ⟨rfl, Below.refl _ _⟩

end Go.Proofs.Ytbddokfcohnndaa
