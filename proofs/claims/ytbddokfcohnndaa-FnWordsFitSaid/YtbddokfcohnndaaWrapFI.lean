/-
  impl.wordFits, impl.WordsFit, by their contracts.
-/
import Derived.Test.YtbddokfcohnndaaShelf
import Derived.Test.YtbddokfcohnndaaWrapB
import Derived.Test.YtbddokfcohnndaaPlainLine
import Derived.Test.YtbddokfcohnndaaRows2
import Derived.Test.YtbddokfcohnndaaSized
namespace Go.Proofs.Ytbddokfcohnndaa
open Go.RowKit
set_option linter.unusedVariables false

theorem index_mem {l : List UInt8} {c : UInt8} : (0 ≤ Lib.indexByte l c) ↔ c ∈ l := by
  induction l with
  | nil => simp [Lib.indexByte]
  | cons b l ih =>
    rw [Lib.indexByte]
    by_cases h : b = c
    · subst h; simp
    · have hb : (b == c) = false := by simpa using h
      rw [hb]
      simp only [Bool.false_eq_true, if_false, List.mem_cons]
      have hc : ¬ c = b := fun e => h e.symm
      simp only [hc, false_or]
      rw [← ih]
      have := Lib.indexByte_ge l c
      by_cases h1 : Lib.indexByte l c = -1
      · rw [h1]; simp
      · have h2 : (Lib.indexByte l c == -1) = false := by simpa using h1
        rw [h2]; simp only [Bool.false_eq_true, if_false]; omega
theorem okW_parts (w : Int) (s : ByteArray) (h1 : 1 ≤ s.size) (h2 : (s.size : Int) ≤ w) : okW w s = (plainL s.data.toList && !decide (0 ≤ Lib.indexByte s.data.toList 32)) := by
  have e : okW w s = wbL s.data.toList := by rw [okW, decide_eq_true h1, decide_eq_true h2]; rfl
  rw [e, Bool.eq_iff_iff]
  simp only [wbL, plainL, wbI, plainI, List.all_eq_true, Bool.and_eq_true, decide_eq_true_eq, Bool.not_eq_true', decide_eq_false_iff_not, index_mem]
  constructor
  · intro h
    refine ⟨fun b hb => ?_, fun h32 => ?_⟩
    · have := h b hb; omega
    · have := h 32 h32; simp at this
  · rintro ⟨h, h32⟩ b hb
    have h3 := h b hb
    have : ¬ b.toNat = 32 := fun e => h32 (by rwa [show b = 32 from UInt8.toNat_inj.mp (by rw [e]; rfl)] at hb)
    omega

set_option maxRecDepth 100000 in
set_option maxHeartbeats 2000000 in
theorem wordFits_any (s : ByteArray) (x : Int) (w : World) (hs : s.size ≤ maxLen) :
    Calls Try.prog 35 #[.string s, .int .i64 x] w fun e w' => e = .returned (.bool (okW x s)) ∧ w = w' := by
  have HMX := Lib.hid hs
  unfold maxLen at hs
  by_cases h1 : 1 ≤ s.size
  · have hne : ¬ s.toList = [] := by
      intro h
      have h0 := congrArg List.length h
      rw [ByteArray.toList_eq, Array.length_toList] at h0
      have h0 : s.size = 0 := h0
      omega
    by_cases h2 : (s.size : Int) ≤ x
    · rw [okW_parts x s h1 h2]
      cases hp : plainL s.data.toList with
      | true =>
        go_enter Try.func35, Try.ntmps35
        go_wp2_with fail
        refine (plainLine_any s _ HMX.out).mono ?_
        rintro e w' ⟨rfl, rfl⟩
        rw [hp]
        go_wp2_with fail
        refine (Try.strings_Contains_one s 32 _).mono ?_
        rintro e w' ⟨rfl, rfl⟩
        have hie : s.toList.isEmpty = false := by simpa using hne
        go_wp2
        go_ret
        exact ⟨rfl, rfl⟩
      | false =>
        go_enter Try.func35, Try.ntmps35
        go_wp2_with fail
        refine (plainLine_any s _ HMX.out).mono ?_
        rintro e w' ⟨rfl, rfl⟩
        rw [hp]
        go_wp2
        go_ret
        exact ⟨rfl, rfl⟩
    · have e : okW x s = false := by simp [okW, h2]
      rw [e]
      clear e
      go_enter Try.func35, Try.ntmps35
      go_wp2
      go_ret
      exact ⟨rfl, rfl⟩
  · have e : okW x s = false := by simp [okW, h1]
    obtain rfl : s = ⟨#[]⟩ := ByteArray.ext (Array.eq_empty_of_size_eq_zero (show s.size = 0 by omega))
    rw [e]
    clear e
    go_enter Try.func35, Try.ntmps35
    go_wp2
    go_ret
    exact ⟨rfl, rfl⟩

set_option maxRecDepth 100000 in
set_option maxHeartbeats 2000000 in
theorem wordsFit_impl (v : Value) (L : List ByteArray) (x : Int) (w : World) (h : RowOf w v (strs L)) (hz : Sized L) :
    Calls Try.prog 15 #[v, .int .i64 x] w fun e w' => e = .returned (.bool (fitB L x)) ∧ w = w' := by
  obtain ⟨ao, cap, rfl, h1, h2, h3⟩ := h
  simp only [strs_length] at h1 ⊢
  unfold maxLen at h2
  have H3 := Lib.hid h3; have HZ := Lib.hid hz
  clear h3 hz
  by_cases hc : L.length ≤ 20 ∧ 1 ≤ x ∧ x ≤ 40
  · obtain ⟨c1, c2, c3⟩ := hc
    go_enter Try.func15, Try.ntmps15
    go_wp2
    go_loop [6, 20] (fun _ i => ∃ k : Nat, k ≤ L.length ∧ i = .int .i64 k ∧ (∀ j, j < k → (hj : j < L.length) → okW x L[j] = true)) (fun _ i => L.length - (intOf i).toNat)
    case atStart => exact ⟨0, Nat.zero_le _, rfl, fun j hj => by omega⟩
    case round =>
      obtain ⟨k, hk, rfl, hok⟩ := hrel
      have HK := Lib.hid hok; clear hok
      by_cases hlt : k < L.length
      · obtain ⟨b, o, hA, -, cc⟩ := H3.out.resolve_left (by intro h; have h' := congrArg List.length h; rw [strs_length] at h'; simp only [List.length_nil] at h'; omega)
        subst hA
        have HBAD := Lib.hid (fun (h : okW x L[k] = false) => fit_bad hlt h)
        have HNX := Lib.hid (show okW x L[k] = true → ∀ j, j < k + 1 → (hj : j < L.length) → okW x L[j] = true from fun h j hj hl => by
          by_cases e : j = k
          · subst e; exact h
          · exact HK.out j (by omega) hl)
        have HTS := Lib.hid (show L[k].size ≤ maxLen from HZ.out _ (List.getElem_mem _))
        have d1 := cc k (.string L[k]) (by simp [strs, hlt])
        generalize L[k] = t at d1 HTS HBAD HNX
        clear cc HK
        go_wp2_with fail
        refine (wordFits_any t x _ HTS.out).mono ?_
        rintro e w' ⟨rfl, rfl⟩
        by_cases he : okW x t = true
        · have HE := Lib.hid (HNX.out he)
          rw [he]; clear he
          go_wp2
          go_round
          case rel => exact ⟨k + 1, by omega, by go_num, HE.out⟩
          case measure => simp [intOf]; omega
        · have HE := Lib.hid (HBAD.out (Bool.eq_false_iff.mpr he))
          rw [Bool.eq_false_iff.mpr he]; clear he
          go_wp2
          go_ret
          exact ⟨ret_bool HE.out.symm, rfl⟩
      · obtain rfl : k = L.length := by omega
        have HE := Lib.hid (show fitB L x = true from (fitB_iff _ _).mpr ⟨c1, c2, c3, fun s hs => by
          obtain ⟨j, hj, rfl⟩ := List.mem_iff_getElem.mp hs
          exact HK.out j hj hj⟩)
        go_wp2
        go_ret
        exact ⟨ret_bool HE.out.symm, rfl⟩
  · have e : fitB L x = false := by rw [Bool.eq_false_iff]; intro h; have := (fitB_iff _ _).mp h; exact hc ⟨this.1, this.2.1, this.2.2.1⟩
    rw [e]; clear e
    by_cases c1 : L.length ≤ 20
    · by_cases c2 : 1 ≤ x
      · have c3 : ¬ x ≤ 40 := fun h => hc ⟨c1, c2, h⟩
        clear hc
        go_enter Try.func15, Try.ntmps15
        go_wp2
        go_ret
        exact ⟨rfl, rfl⟩
      · clear hc
        go_enter Try.func15, Try.ntmps15
        go_wp2
        go_ret
        exact ⟨rfl, rfl⟩
    · clear hc
      go_enter Try.func15, Try.ntmps15
      go_wp2
      go_ret
      exact ⟨rfl, rfl⟩

end Go.Proofs.Ytbddokfcohnndaa
