/-
  spec.ReadFraction, all its ways in one: what it answers at every text.
-/
import Derived.Test.YtpgbfagacpondaaDoorReadS
namespace Go.Proofs.YtpgbfagacpondaaDoor
open Go.RowKit
set_option linter.unusedVariables false

set_option maxRecDepth 100000 in
set_option maxHeartbeats 8000000 in
theorem read_empty (w : World) :
    Calls Tryd.prog 14 #[.string ⟨#[]⟩] w fun e w' => e = fr 0 0 false ∧ Below w.heap.size w w' := by
  have CD := Lib.hid (fun w' => decimal_spec ⟨#[]⟩ w' (by decide))
  rw [show opOK (decV (⟨#[]⟩ : ByteArray).data.toList) (decX (⟨#[]⟩ : ByteArray).data.toList) (decY (⟨#[]⟩ : ByteArray).data.toList) = false by decide] at CD
  rw [show opT (decV (⟨#[]⟩ : ByteArray).data.toList) (decX (⟨#[]⟩ : ByteArray).data.toList) (decY (⟨#[]⟩ : ByteArray).data.toList) = 0 by decide] at CD
  rw [show opB (decV (⟨#[]⟩ : ByteArray).data.toList) (decX (⟨#[]⟩ : ByteArray).data.toList) (decY (⟨#[]⟩ : ByteArray).data.toList) = 0 by decide] at CD
  have C0 := Lib.hid (fun w' => l2D0 ⟨#[]⟩ w' (by decide))
  rw [show spK ⟨#[]⟩ = 0 by decide, show valAt ⟨#[]⟩ 0 0 = 0 by decide] at C0
  go_enter Tryd.func14, Tryd.ntmps14
  go_wp2_with fail
  refine (CD.out _).mono ?_
  rintro e w1 ⟨rfl, hb1⟩
  have Z1 := Lib.hid ((ZeroF.new w 25).keep hb1)
  have hN : w.heap.size < w1.heap.size := Z1.out.2.2.2.2
  have hN1 : w.heap.size ≠ w1.heap.size := by omega
  have HB1 := Lib.hid (((Below.refl _ w).alloc (Nat.le_refl _) _).trans (hb1.mono (by simp))); clear hb1
  go_wp2_with fail
  refine (C0.out _).mono ?_
  rintro e w' ⟨rfl, rfl⟩
  obtain ⟨u0, u1, u2, u3, u4⟩ := Z1.out
  have F : FrAt ((w1.setCell ⟨w.heap.size, 0, none⟩ (.int .i64 0)).setCell ⟨w.heap.size, 1, none⟩ (.int .i64 0)) w.heap.size 0 0 := ⟨by simp [go_sem, u0], by simp [go_sem, u1]⟩
  obtain ⟨f0, f1⟩ := F.al (.cells #[.int .i64 0, .int .i64 0] 25)
  go_wp2
  exact bodyPost_ret (v := .tuple #[.agg #[.int .i64 _, .int .i64 _], .bool _]) (by simp [results, Tryd.results14, go_sem, f0, f1]) rfl ⟨rfl, by
    have h0 : Below w.heap.size w ((w1.setCell ⟨w.heap.size, 0, none⟩ (.int .i64 0)).setCell ⟨w.heap.size, 1, none⟩ (.int .i64 0)) := (HB1.out.setCell (Nat.le_refl _) _).setCell (Nat.le_refl _) _
    exact h0.alloc h0.size _⟩

/-- What spec.ReadFraction answers. -/
theorem readFraction_spec (s : ByteArray) (w : World) (hs : s.size ≤ 2097152) :
    Calls Tryd.prog 14 #[.string s] w fun e w' => e = fr (rdT s) (rdB s) (rdOK s) ∧ Below w.heap.size w w' := by
  obtain ⟨hq, hv⟩ := read_same s
  have hl : s.data.toList.length = s.size := by rw [Array.length_toList]; rfl
  by_cases hne : 0 < s.size
  · have hemp : s.data.toList.isEmpty = false := by
      cases hc : s.data.toList with
      | nil => rw [hc] at hl; simp at hl; omega
      | cons x l => rfl
    have hgood : (textF (sdTop s) (spB (bodyS s)) == s.data.toList) = rdOK s := by
      rw [← hq, sdOK, hemp]; rfl
    have hres : rdT s = (if rdOK s = true then sdTop s else 0) ∧ rdB s = (if rdOK s = true then spB (bodyS s) else 0) := by
      unfold rdT rdB
      cases hr : rdOK s with
      | false => exact ⟨rfl, rfl⟩
      | true => obtain ⟨e1, e2⟩ := hv hr; rw [e1, e2]; exact ⟨rfl, rfl⟩
    rw [hres.1, hres.2]
    cases hng : negS s with
    | true =>
      have ht : sdTop s = -spT (bodyS s) := by rw [sdTop, hng]; rfl
      rw [ht] at hgood ⊢
      have hk := spK_le (bodyS s)
      cases h1 : spO (bodyS s) with
      | true => exact read_neg1 s w hs hng h1 _ _ rfl rfl _ hgood
      | false =>
        by_cases h2 : spK (bodyS s) = 0
        · exact read_neg2 s w hs hng h1 h2 _ _ rfl rfl _ hgood
        · by_cases h3 : spK (bodyS s) = (bodyS s).size
          · exact read_neg3 s w hs hng h1 (by omega) h3 _ _ rfl rfl _ hgood
          · have h3' : spK (bodyS s) < (bodyS s).size := by omega
            by_cases h4 : ((bodyS s)[spK (bodyS s)].toNat : Int) = 47
            · by_cases h5 : spK (bodyS s) + 1 + spJ (bodyS s) = (bodyS s).size ∧ 0 < valAt (bodyS s) (spK (bodyS s) + 1) (spJ (bodyS s))
              · exact read_neg6 s w hs hng h1 (by omega) h3' (fun _ => h4) h5.1 h5.2 _ _ rfl rfl _ hgood
              · exact read_neg5 s w hs hng h1 (by omega) h3' (fun _ => h4) h5 _ _ rfl rfl _ hgood
            · exact read_neg4 s w hs hng h1 (by omega) h3' (fun _ => h4) _ _ rfl rfl _ hgood
    | false =>
      have hb := (body_pos s hng).1
      have ht : sdTop s = spT s := by rw [sdTop, hng, hb]; rfl
      rw [ht, hb] at hgood
      rw [ht, hb]
      have hk := spK_le s
      cases h1 : spO s with
      | true => exact read_pos1 s w hs hng hne h1 _ _ rfl rfl _ hgood
      | false =>
        by_cases h2 : spK s = 0
        · exact read_pos2 s w hs hng hne h1 h2 _ _ rfl rfl _ hgood
        · by_cases h3 : spK s = s.size
          · exact read_pos3 s w hs hng hne h1 (by omega) h3 _ _ rfl rfl _ hgood
          · have h3' : spK s < s.size := by omega
            by_cases h4 : (s[spK s].toNat : Int) = 47
            · by_cases h5 : spK s + 1 + spJ s = s.size ∧ 0 < valAt s (spK s + 1) (spJ s)
              · exact read_pos6 s w hs hng hne h1 (by omega) h3' (fun _ => h4) h5.1 h5.2 _ _ rfl rfl _ hgood
              · exact read_pos5 s w hs hng hne h1 (by omega) h3' (fun _ => h4) h5 _ _ rfl rfl _ hgood
            · exact read_pos4 s w hs hng hne h1 (by omega) h3' (fun _ => h4) _ _ rfl rfl _ hgood
  · have hnil : s.data.toList = [] := List.length_eq_zero_iff.mp (by omega)
    have hf : rdOK s = false := by rw [← hq, sdOK, hnil]; rfl
    have e : s = ⟨#[]⟩ := by apply ByteArray.ext; exact Array.toList_eq_nil_iff.mp hnil
    unfold rdT rdB
    rw [hf, if_neg (by simp), if_neg (by simp), e]
    exact read_empty w

end Go.Proofs.YtpgbfagacpondaaDoor
