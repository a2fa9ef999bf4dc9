/-
  impl.WrapCost, by its contract.
-/
import Derived.Test.YtbddokfcohnndaaWrapI
import Derived.Test.YtbddokfcohnndaaWrapC
import Derived.Test.YtbddokfcohnndaaWrapFI
import Derived.Test.YtbddokfcohnndaaIntsZ
namespace Go.Proofs.Ytbddokfcohnndaa
open Go.RowKit
set_option linter.unusedVariables false

set_option maxRecDepth 100000 in
set_option maxHeartbeats 4000000 in
theorem wrapCost_impl (v u : Value) (L : List ByteArray) (x : Int) (ls : List Int) (w : World) (h : RowOf w v (strs L)) (hz : Sized L) (hu : RowOf w u (intsZ ls)) :
    Calls Try.prog 19 #[v, .int .i64 x, u] w fun e w' => e = .returned (.int .i64 (costW L x ls)) ∧ w = w' := by
  have HC := Lib.hid (wordsFit_impl v L x w h hz)
  have HR := Lib.hid h
  obtain ⟨ao, cap, rfl, h1, h2, h3⟩ := h
  obtain ⟨au, cu, rfl, g1, g2, g3⟩ := hu
  simp only [strs_length] at h1 HC HR ⊢
  rw [intsZ_length] at g1 ⊢
  unfold maxLen at h2 g2
  have G3 := Lib.hid g3
  clear h3 g3 hz
  cases hf : fitB L x with
  | false =>
    have e : costW L x ls = -1 := costW_no hf
    rw [e]
    rw [hf] at HC
    go_enter Try.func19, Try.ntmps19
    go_wp2_with fail
    refine HC.out.mono ?_
    rintro e w' ⟨rfl, rfl⟩
    go_wp2
    go_ret
    exact ⟨rfl, rfl⟩
  | true =>
    have HF := Lib.hid (fun r hr => costW_at (ls := ls) hf (r := r) hr)
    rw [hf] at HC
    have hl := fit_len hf
    have HZ := Lib.hid (show ∀ s ∈ L, s.size ≤ 40 from fun s hs => by obtain ⟨k, hk, rfl⟩ := List.mem_iff_getElem.mp hs; exact (fit_sz hf hk).2)
    have hx : x ≤ 40 := ((fitB_iff _ _).mp hf).2.2.1
    clear hf
    go_enter Try.func19, Try.ntmps19
    go_wp2_with fail
    refine HC.out.mono ?_
    rintro e w' ⟨rfl, rfl⟩
    go_wp2
    go_loop [7, 8, 10, 18] (fun a r _ i => ∃ k p c : Nat, k ≤ ls.length ∧ i = .int .i64 (k : Int) ∧ a = .int .i64 (c : Int) ∧ k ≤ p ∧ p ≤ L.length ∧ c ≤ 1600 * k ∧ RowOf w r (strs (L.drop p)) ∧ costZ x (szW L) ls = (costZ x ((szW L).drop p) (ls.drop k)).map (· + c)) (fun _ _ _ i => ls.length - (intOf i).toNat)
    case atStart => exact ⟨0, 0, 0, Nat.zero_le _, rfl, rfl, Nat.le_refl _, Nat.zero_le _, Nat.le_refl _, HR.out, by simp⟩
    case round =>
      obtain ⟨k, p, c, hk, rfl, rfl, hkp, hp, hc, hr, he⟩ := hrel
      have HE := Lib.hid he
      have HRR := Lib.hid hr
      obtain ⟨ar, cr, rfl, q1, q2, q3⟩ := hr
      have hlp : (strs (L.drop p)).length = L.length - p := by rw [strs_length, List.length_drop]
      rw [hlp] at q1 HRR ⊢
      unfold maxLen at q2
      have Q3 := Lib.hid q3
      clear he q3
      by_cases hlt : k < ls.length
      · obtain ⟨b, o, hA, -, cc⟩ := G3.out.resolve_left (by intro h; have h' := congrArg List.length h; rw [intsZ_length] at h'; simp only [List.length_nil] at h'; omega)
        subst hA
        have d1 := cc k _ (intsZ_at ls k hlt)
        have HD := Lib.hid (show ls.drop k = ls[k] :: ls.drop (k + 1) from List.drop_eq_getElem_cons hlt)
        generalize ls[k] = n at d1 HD
        clear cc
        have HFU := Lib.hid (fullLine_any ar cr (L.drop p) x w (by rw [List.length_drop]; exact HRR.out) (fun s hs => HZ.out s (List.mem_of_mem_drop hs)) (by rw [List.length_drop]; omega))
        rw [List.length_drop, szW_drop] at HFU
        have hfl : fuA x ((szW L).drop p) ≤ L.length - p := by have := fu_le x ((szW L).drop p); rwa [List.length_drop, szW_len] at this
        by_cases hn1 : 1 ≤ n
        · by_cases hn2 : n ≤ (fuA x ((szW L).drop p) : Int)
          · obtain ⟨m, rfl⟩ := Int.eq_ofNat_of_zero_le (show 0 ≤ n by omega)
            have HCO := Lib.hid (lineCost_any ar cr m (L.drop p) x w (by rw [List.length_drop]; exact HRR.out) (fun s hs => HZ.out s (List.mem_of_mem_drop hs)) (by rw [List.length_drop]; omega) hx (by omega) (by rw [szW_drop]; omega))
            rw [List.length_drop, szW_drop] at HCO
            have hcl : lineC x ((szW L).drop p) m ≤ 1600 := lineC_le (by omega) hx
            have HNE := Lib.hid (show costZ x (szW L) ls = (costZ x ((szW L).drop (p + m)) (ls.drop (k + 1))).map (· + (c + lineC x ((szW L).drop p) m)) by
              rw [HE.out, HD.out, costZ_go hn1 hn2, Int.toNat_natCast, List.drop_drop, Option.map_map]
              congr 1; funext y; simp only [Function.comp]; omega)
            generalize fuA x ((szW L).drop p) = f at hn2 HFU hfl
            generalize lineC x ((szW L).drop p) m = lc at hcl HCO HNE
            go_wp2_with fail
            refine HFU.out.mono ?_
            rintro e w' ⟨rfl, rfl⟩
            go_wp2_with fail
            refine HCO.out.mono ?_
            rintro e w' ⟨rfl, rfl⟩
            obtain ⟨b2, o2, rfl, hb2, -⟩ := Q3.out.resolve_left (by intro h; have h' := congrArg List.length h; rw [hlp] at h'; simp only [List.length_nil] at h'; omega)
            have HBK := Lib.hid (RowOf.rest (k := m) hlp HRR.out (by omega))
            go_wp2
            go_round
            case rel => exact ⟨k + 1, p + m, c + lc, by omega, by go_num, by go_num, by omega, by omega, by omega, by rw [← List.drop_drop, strs_drop]; exact HBK.out, HNE.out⟩
            case measure => simp [intOf]; omega
          · have HN := Lib.hid (show costW L x ls = -1 from HF.out none (by rw [HE.out, HD.out, costZ_no (fun h => hn2 h.2)]; rfl))
            generalize fuA x ((szW L).drop p) = f at hn2 HFU hfl
            clear HE HD
            go_wp2_with fail
            refine HFU.out.mono ?_
            rintro e w' ⟨rfl, rfl⟩
            go_wp2
            go_ret
            exact ⟨ret_int HN.out.symm, rfl⟩
        · have HN := Lib.hid (show costW L x ls = -1 from HF.out none (by rw [HE.out, HD.out, costZ_no (fun h => hn1 h.1)]; rfl))
          clear HE HD
          go_wp2
          go_ret
          exact ⟨ret_int HN.out.symm, rfl⟩
      · have hd : ls.drop k = [] := List.drop_eq_nil_of_le (by omega)
        by_cases hpl : p = L.length
        · have HN := Lib.hid (show costW L x ls = (c : Int) from HF.out (some c) (by rw [HE.out, hd, hpl, List.drop_eq_nil_of_le (by rw [szW_len]; exact Nat.le_refl _)]; simp [costZ]))
          clear HE hd
          go_wp2
          go_ret
          exact ⟨ret_int HN.out.symm, rfl⟩
        · have HN := Lib.hid (show costW L x ls = -1 from HF.out none (by
            rw [HE.out, hd, costZ, if_neg (by intro h; have := congrArg List.length h; rw [List.length_drop, szW_len, List.length_nil] at this; omega)]; rfl))
          clear HE hd
          go_wp2
          go_ret
          exact ⟨ret_int HN.out.symm, rfl⟩

end Go.Proofs.Ytbddokfcohnndaa
