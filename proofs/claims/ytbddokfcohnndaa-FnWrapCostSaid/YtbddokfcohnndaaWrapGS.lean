/-
  spec.WrapGreedy, by its contract.
-/
import Derived.Test.YtbddokfcohnndaaWrapLS
import Derived.Test.YtbddokfcohnndaaWrapFS
import Derived.Test.YtbddokfcohnndaaWrapGI
namespace Go.Proofs.Ytbddokfcohnndaa
open Go.RowKit
set_option linter.unusedVariables false

set_option maxRecDepth 100000 in
set_option maxHeartbeats 4000000 in
theorem wrapGreedy_spec (v : Value) (L : List ByteArray) (x : Int) (w : World) (h : RowOf w v (strs L)) (hz : Sized L) :
    Calls Try.prog 21 #[v, .int .i64 x] w (NewInts (glB L x) w) := by
  obtain ⟨i0, hi, hz0, hz1, hz2⟩ := info_parts infoI
  have HC := Lib.hid (fun w' hr' => wordsFit_spec v L x w' hr' hz)
  have HR := Lib.hid h
  have HL0 := Lib.hid (World.ownsRow_lit (base := w.heap.size) (size := 1) (e := 3) w #[] 0 (Nat.le_refl _) (by unfold maxLen; omega) rfl)
  have HB0 := Lib.hid ((Below.refl w.heap.size w).alloc (Nat.le_refl _) (.cells #[] 3))
  obtain ⟨ao, cap, rfl, h1, h2, h3⟩ := h
  simp only [strs_length] at h1 HC HR ⊢
  unfold maxLen at h2
  clear h3 hz
  cases hf : fitB L x with
  | false =>
    have HD := Lib.hid (show glB L x = [] by rw [glB, hf]; rfl)
    rw [hf] at HC
    clear hf
    go_enter Try.func21, Try.ntmps21
    go_wp2
    refine wp_loop_rounds 1 ?_
    rw [rounds_succ]
    by_cases h0 : 0 < L.length
    · go_wp2_with fail
      refine (HC.out _ (HR.out.mono HB0.out)).mono ?_
      rintro e w' ⟨rfl, rfl⟩
      go_wp2
      go_ret
      exact ⟨_, rfl, by rw [HD.out]; exact HL0.out, HB0.out⟩
    · go_wp2
      go_ret
      exact ⟨_, rfl, by rw [HD.out]; exact HL0.out, HB0.out⟩
  | true =>
    have HD := Lib.hid (show glB L x = gl x (szW L) by rw [glB, hf]; rfl)
    rw [hf] at HC
    have hl := fit_len hf
    have HZ := Lib.hid (show ∀ s ∈ L, s.size ≤ 40 from fun s hs => by obtain ⟨k, hk, rfl⟩ := List.mem_iff_getElem.mp hs; exact (fit_sz hf hk).2)
    obtain ⟨n, rfl, hn1, hn40, hfs⟩ := fit_S hf
    have HFS := Lib.hid hfs
    clear hf hfs
    go_enter Try.func21, Try.ntmps21
    go_wp2
    go_loopw [5, 6, 7] (fun a i _ wr => ∃ (p : Nat) (ls : List Nat), p ≤ L.length ∧ ls.length ≤ p ∧ i = .int .i64 (p : Int) ∧ wr.ownsRow w.heap.size 3 1 a ls.length (ints ls) ∧ Below w.heap.size w wr ∧ gl n (szW L) = ls ++ gl n ((szW L).drop p)) (fun _ i _ _ => L.length - (intOf i).toNat)
    case atStart => exact ⟨0, [], Nat.zero_le _, Nat.le_refl _, rfl, HL0.out, HB0.out, rfl⟩
    case round =>
      obtain ⟨p, ls, hp, hlp, rfl, hown, hb, he⟩ := hrel
      obtain ⟨aa, ac, rfl⟩ := own_shape hown
      have HOW := Lib.hid hown; have HB := Lib.hid hb; have HE := Lib.hid he
      clear hown hb he
      by_cases hlt : p < L.length
      · have hne : (szW L).drop p ≠ [] := by intro h; have := congrArg List.length h; rw [List.length_drop, szW_len, List.length_nil] at this; omega
        have hfl : fuA n ((szW L).drop p) ≤ L.length - p := by have := fu_le n ((szW L).drop p); rwa [List.length_drop, szW_len] at this
        have hf1 := (HFS.out.drop p).pos hne
        have HNE := Lib.hid (show gl n (szW L) = (ls ++ [fuA n ((szW L).drop p)]) ++ gl n ((szW L).drop (p + fuA n ((szW L).drop p))) by
          rw [HE.out, gl_cons (HFS.out.drop p) hne, List.drop_drop, List.append_assoc]; rfl)
        have HSTEP := Lib.hid (show ∀ m, m ≤ fuA n ((szW L).drop p) → m < L.length - p → ((m < fuA n ((szW L).drop p)) ↔ slen ((szW L).drop p) (m + 1) ≤ n) from fun m _ hm => fu_next (by rw [List.length_drop, szW_len]; exact hm))
        have HLE := Lib.hid (fun m (hm : p + m ≤ L.length) => l15Length_any _ L p m wr (HR.out.mono HB.out) HZ.out hl hm)
        generalize fuA n ((szW L).drop p) = f at hfl hf1 HNE HSTEP
        clear hne HE
        go_wp2_with fail
        refine (HC.out _ (HR.out.mono HB.out)).mono ?_
        rintro e w' ⟨rfl, rfl⟩
        go_wp2
        go_loop [7] (fun i => ∃ m : Nat, 1 ≤ m ∧ m ≤ f ∧ i = .int .i64 (m : Int)) (fun i => f - (intOf i).toNat)
        case atStart => exact ⟨1, Nat.le_refl _, hf1, rfl⟩
        case round =>
          obtain ⟨m, hm1, hmf, rfl⟩ := hrel
          by_cases hml : p + m < L.length
          case' pos =>
            have HC2 := Lib.hid (HLE.out (m + 1) (by omega))
            have hpm : ((p + (m + 1) : Nat) : Int) = (p : Int) + m + 1 := by omega
            rw [hpm] at HC2
            have HS := Lib.hid (HSTEP.out m hmf (by omega))
            generalize slen ((szW L).drop p) (m + 1) = y at HC2 HS
            by_cases hy : y ≤ n
            case' pos =>
              have hmf2 := HS.out.mpr hy
              go_wp2_with fail
              refine HC2.out.mono ?_
              rintro e w' ⟨rfl, rfl⟩
              go_wp2
              go_round
              case rel => exact ⟨m + 1, by omega, by omega, by go_num⟩
              case measure => simp [intOf]; omega
            case' neg =>
              obtain rfl : m = f := by
                have h := HS.out
                by_cases h' : m < f
                · exact absurd (h.mp h') hy
                · omega
              go_wp2_with (first | (go_at_call 36; refine HC2.out.mono ?_; rintro e w' ⟨rfl, rfl⟩) | (at_builtin; refine wpList_append_own _ rfl _ _ 27 rfl w.heap.size 3 i0 (.int .i64 0) 1 8 Try.underlying27 hi hz0 hz1 hz2 rfl (by decide) _ _ _ rfl (HOW.out.alloc _) ⟨wr.heap.size, 0, none⟩ 1 1 [.int .i64 (m : Int)] rfl rfl (World.news_of_block (cs := #[.int .i64 (m : Int)]) (t := 3) (fr := (0, 0)) (heap_alloc_new wr _)) (by simp [Value.oneCell']) (by unfold maxLen; omega) (by omega) (by simp; exact Nat.le_succ_of_le HB.out.size) ?_; intro v' w2 hown' hgrow hnil; have HB2 := Lib.hid ((HB.out.alloc HB.out.size _).grown hgrow (by have := HB.out.size; simp; omega) (fun q hq => (HOW.out.lt q hq).1)); have HO2 := Lib.hid hown'; clear hown' hgrow hnil))
          case' neg =>
            obtain rfl : m = f := by omega
            go_wp2_with (at_builtin; refine wpList_append_own _ rfl _ _ 27 rfl w.heap.size 3 i0 (.int .i64 0) 1 8 Try.underlying27 hi hz0 hz1 hz2 rfl (by decide) _ _ _ rfl (HOW.out.alloc _) ⟨wr.heap.size, 0, none⟩ 1 1 [.int .i64 (m : Int)] rfl rfl (World.news_of_block (cs := #[.int .i64 (m : Int)]) (t := 3) (fr := (0, 0)) (heap_alloc_new wr _)) (by simp [Value.oneCell']) (by unfold maxLen; omega) (by omega) (by simp; exact Nat.le_succ_of_le HB.out.size) ?_; intro v' w2 hown' hgrow hnil; have HB2 := Lib.hid ((HB.out.alloc HB.out.size _).grown hgrow (by have := HB.out.size; simp; omega) (fun q hq => (HOW.out.lt q hq).1)); have HO2 := Lib.hid hown'; clear hown' hgrow hnil)
          all_goals
            go_roundw
            case rel => exact ⟨p + m, ls ++ [m], by omega, by rw [List.length_append]; simp; omega, by go_num, by rw [List.length_append, ints_snoc]; exact HO2.out, HB2.out, HNE.out⟩
            case measure => simp [intOf]; omega
      · have HG := Lib.hid (show gl n (szW L) = ls by rw [HE.out, List.drop_eq_nil_of_le (by rw [szW_len]; omega), gl_nil, List.append_nil])
        go_wp2
        go_ret
        exact ⟨_, rfl, by rw [HD.out, HG.out]; exact HOW.out, HB.out⟩

end Go.Proofs.Ytbddokfcohnndaa
