/-
  spec.WrapCost, by its contract.
-/
import Derived.Test.YtbddokfcohnndaaWrapLS
import Derived.Test.YtbddokfcohnndaaWrapC
import Derived.Test.YtbddokfcohnndaaWrapFS
import Derived.Test.YtbddokfcohnndaaIntsZ
namespace Go.Proofs.Ytbddokfcohnndaa
open Go.RowKit
set_option linter.unusedVariables false

theorem costZ_len {x : Int} {S : List Nat} {ls : List Int} {c : Nat} (h : costZ x S ls = some c) : ls.length ≤ S.length := by
  obtain ⟨l, rfl, hl⟩ := costZ_nat x ls S c h
  obtain ⟨-, h2, h3⟩ := costR_sum _ _ _ _ hl
  have := len_sum l h3
  rw [List.length_map]; omega

set_option maxRecDepth 100000 in
set_option maxHeartbeats 4000000 in
theorem wrapCost_spec (v u : Value) (L : List ByteArray) (x : Int) (ls : List Int) (w : World) (h : RowOf w v (strs L)) (hz : Sized L) (hu : RowOf w u (intsZ ls)) :
    Calls Try.prog 17 #[v, .int .i64 x, u] w fun e w' => e = .returned (.int .i64 (costW L x ls)) ∧ w = w' := by
  have HC := Lib.hid (wordsFit_spec v L x w h hz)
  have HR := Lib.hid h
  obtain ⟨ao, cap, rfl, h1, h2, h3⟩ := h
  obtain ⟨au, cu, rfl, g1, g2, g3⟩ := hu
  simp only [strs_length] at h1 HC HR ⊢
  rw [intsZ_length] at g1 ⊢
  unfold maxLen at h2 g2
  have G3 := Lib.hid g3
  clear h3 g3 hz
  cases hf : fitB L x with
  | false =>
    have e : costW L x ls = -1 := costW_no hf
    rw [e]
    rw [hf] at HC
    clear e
    go_enter Try.func17, Try.ntmps17
    go_wp2_with fail
    refine HC.out.mono ?_
    rintro e w' ⟨rfl, rfl⟩
    go_wp2
    go_ret
    exact ⟨rfl, rfl⟩
  | true =>
    have HF := Lib.hid (fun r hr => costW_at (ls := ls) hf (r := r) hr)
    rw [hf] at HC
    have hl := fit_len hf
    have HZ := Lib.hid (show ∀ s ∈ L, s.size ≤ 40 from fun s hs => by obtain ⟨k, hk, rfl⟩ := List.mem_iff_getElem.mp hs; exact (fit_sz hf hk).2)
    have hx : x ≤ 40 := ((fitB_iff _ _).mp hf).2.2.1
    clear hf
    by_cases h20 : ls.length ≤ 20
    case neg =>
      have e : costW L x ls = -1 := HF.out none (by
        cases hc : costZ x (szW L) ls with
        | none => rfl
        | some c => have := costZ_len hc; rw [szW_len] at this; omega)
      rw [e]
      clear e
      go_enter Try.func17, Try.ntmps17
      go_wp2_with fail
      refine HC.out.mono ?_
      rintro e w' ⟨rfl, rfl⟩
      go_wp2
      go_ret
      exact ⟨rfl, rfl⟩
    case pos =>
    go_enter Try.func17, Try.ntmps17
    go_wp2_with fail
    refine HC.out.mono ?_
    rintro e w' ⟨rfl, rfl⟩
    go_wp2
    go_loop [7, 8, 9, 10] (fun r a i _ => ∃ k p c : Nat, k ≤ ls.length ∧ i = .int .i64 (k : Int) ∧ r = .int .i64 (p : Int) ∧ a = .int .i64 (c : Int) ∧ p ≤ L.length ∧ c ≤ 1600 * k ∧ costZ x (szW L) ls = (costZ x ((szW L).drop p) (ls.drop k)).map (· + c)) (fun _ _ i _ => ls.length - (intOf i).toNat)
    case atStart => exact ⟨0, 0, 0, Nat.zero_le _, rfl, rfl, rfl, Nat.zero_le _, Nat.le_refl _, by simp⟩
    case round =>
      obtain ⟨k, p, c, hk, rfl, rfl, rfl, hp, hc, he⟩ := hrel
      have HE := Lib.hid he
      clear he
      by_cases hlt : k < ls.length
      · obtain ⟨b, o, hA, -, cc⟩ := G3.out.resolve_left (by intro h; have h' := congrArg List.length h; rw [intsZ_length] at h'; simp only [List.length_nil] at h'; omega)
        subst hA
        have d1 := cc k _ (intsZ_at ls k hlt)
        have HD := Lib.hid (show ls.drop k = ls[k] :: ls.drop (k + 1) from List.drop_eq_getElem_cons hlt)
        generalize ls[k] = n at d1 HD
        clear cc
        have hfl : fuA x ((szW L).drop p) ≤ L.length - p := by have := fu_le x ((szW L).drop p); rwa [List.length_drop, szW_len] at this
        by_cases hn1 : inI n 1 ((L.length : Int) - p) = true
        · have hn1' := hn1
          simp only [inI, Bool.and_eq_true, decide_eq_true_eq] at hn1'
          obtain ⟨m, rfl⟩ := Int.eq_ofNat_of_zero_le (show 0 ≤ n by omega)
          have HLE := Lib.hid (l15Length_any _ L p m w HR.out HZ.out hl (by omega))
          have hpm : ((p + m : Nat) : Int) = (p : Int) + m := by omega
          rw [hpm] at HLE
          have hsl := slen_le (L := L.drop p) (k := m) (fun s hs => HZ.out s (List.mem_of_mem_drop hs))
          have hs0 := slen_pos (S := (szW L).drop p) (m := m) (by omega)
          rw [szW_drop] at hsl
          have HFI := Lib.hid (fu_iff ((szW L).drop p) x m)
          have HNE := Lib.hid (show (m : Int) ≤ (fuA x ((szW L).drop p) : Int) → costZ x (szW L) ls = (costZ x ((szW L).drop (p + m)) (ls.drop (k + 1))).map (· + (c + lineC x ((szW L).drop p) m)) from fun hn2 => by
            rw [HE.out, HD.out, costZ_go hn1'.1 hn2, Int.toNat_natCast, List.drop_drop, Option.map_map]
            congr 1; funext y; simp only [Function.comp]; omega)
          have HLC := Lib.hid (show lineC x ((szW L).drop p) m = if m = L.length - p then 0 else (x - slen ((szW L).drop p) m).toNat * (x - slen ((szW L).drop p) m).toNat by unfold lineC; rw [List.length_drop, szW_len])
          have HNO := Lib.hid (show ¬ (m : Int) ≤ (fuA x ((szW L).drop p) : Int) → costW L x ls = -1 from fun hn2 => HF.out none (by rw [HE.out, HD.out, costZ_no (fun h => hn2 h.2)]; rfl))
          clear HE HD
          generalize slen ((szW L).drop p) m = y at HLE hsl hs0 HFI HLC
          go_wp2_with fail
          refine (l1In_any _ _ _ _).mono ?_
          rintro e w' ⟨rfl, rfl⟩
          rw [hn1]
          clear hn1
          go_wp2_with fail
          refine HLE.out.mono ?_
          rintro e w' ⟨rfl, rfl⟩
          by_cases hy : y ≤ x
          · have hmf : (m : Int) ≤ (fuA x ((szW L).drop p) : Int) := by
              have := HFI.out.mpr ⟨by rw [List.length_drop, szW_len]; omega, .inr hy⟩
              omega
            obtain ⟨d, hd⟩ := Int.eq_ofNat_of_zero_le (show 0 ≤ x - y by omega)
            have hd40 : d ≤ 40 := by omega
            have hdd : d * d ≤ 1600 := Nat.mul_le_mul hd40 hd40
            have hwr : IntKind.i64.wrap ((x - y) * (x - y)) = ((d * d : Nat) : Int) := by rw [hd, ← Int.natCast_mul, IntWalk.i64_in _ (by omega)]
            have HNE2 := Lib.hid (HNE.out hmf)
            rw [HLC.out, hd, Int.toNat_natCast] at HNE2
            by_cases hlast : k + 1 < ls.length
            · have HN3 := Lib.hid (show costZ x (szW L) ls = (costZ x ((szW L).drop (p + m)) (ls.drop (k + 1))).map (· + (c + d * d)) by
                rw [HNE2.out]
                by_cases hq : m = L.length - p
                · rw [List.drop_eq_nil_of_le (by rw [szW_len]; omega), List.drop_eq_getElem_cons hlast, costZ_no (by simp [fuA]; omega)]; rfl
                · rw [if_neg hq])
              go_wp2
              go_round
              case rel => exact ⟨k + 1, p + m, c + d * d, by omega, by go_num, by go_num, by go_num, by omega, by omega, HN3.out⟩
              case measure => simp [intOf]; omega
            · have HN3 := Lib.hid (show costZ x (szW L) ls = (costZ x ((szW L).drop (p + m)) (ls.drop (k + 1))).map (· + c) by
                rw [HNE2.out]
                by_cases hq : m = L.length - p
                · rw [if_pos hq, Nat.add_zero]
                · have hno : costZ x ((szW L).drop (p + m)) (ls.drop (k + 1)) = none := by
                    rw [List.drop_eq_nil_of_le (show ls.length ≤ k + 1 by omega), costZ, if_neg (by intro h; have := congrArg List.length h; rw [List.length_drop, szW_len, List.length_nil] at this; omega)]
                  rw [hno]; rfl)
              go_wp2
              go_round
              case rel => exact ⟨k + 1, p + m, c, by omega, by go_num, by go_num, by go_num, by omega, by omega, HN3.out⟩
              case measure => simp [intOf]; omega
          · have HN := Lib.hid (HNO.out (Int.not_le.mp fun h => by
              have h' : m ≤ fuA x ((szW L).drop p) := by omega
              have h2 := (HFI.out.mp h').2.resolve_left (by omega)
              omega))
            go_wp2
            go_ret
            exact ⟨ret_int HN.out.symm, rfl⟩
        · have HN := Lib.hid (show costW L x ls = -1 from HF.out none (by
            rw [HE.out, HD.out, costZ_no (fun h => hn1 (by simp only [inI, Bool.and_eq_true, decide_eq_true_eq]; omega))]; rfl))
          clear HE HD
          go_wp2_with fail
          refine (l1In_any _ _ _ _).mono ?_
          rintro e w' ⟨rfl, rfl⟩
          rw [Bool.eq_false_iff.mpr hn1]
          go_wp2
          go_ret
          exact ⟨ret_int HN.out.symm, rfl⟩
      · have hd : ls.drop k = [] := List.drop_eq_nil_of_le (by omega)
        by_cases hpl : p = L.length
        · have HN := Lib.hid (show costW L x ls = (c : Int) from HF.out (some c) (by rw [HE.out, hd, hpl, List.drop_eq_nil_of_le (by rw [szW_len]; exact Nat.le_refl _)]; simp [costZ]))
          have hb : ((p : Int) != (L.length : Int)) = false := by simp; omega
          clear HE hd
          go_wp2
          go_ret
          exact ⟨ret_int HN.out.symm, rfl⟩
        · have HN := Lib.hid (show costW L x ls = -1 from HF.out none (by
            rw [HE.out, hd, costZ, if_neg (by intro h; have := congrArg List.length h; rw [List.length_drop, szW_len, List.length_nil] at this; omega)]; rfl))
          have hb : ((p : Int) != (L.length : Int)) = true := by simp; omega
          clear HE hd
          go_wp2
          go_ret
          exact ⟨ret_int HN.out.symm, rfl⟩

end Go.Proofs.Ytbddokfcohnndaa
