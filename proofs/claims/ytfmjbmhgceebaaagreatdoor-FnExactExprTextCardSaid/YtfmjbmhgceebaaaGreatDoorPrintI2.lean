/-
  impl's writer of expressions: parts, binary signs, choices.
-/
import Derived.Test.YtfmjbmhgceebaaaGreatDoorPrintI
namespace Go.Proofs.YtfmjbmhgceebaaaGreatDoor
open Go.RowKit
set_option linter.unusedVariables false

theorem joinT_bd {l : List Cl} (hok : l.all okC = true) {n f t : Nat} {xs : List Pt} (h : Tx l n f t xs) : (joinT xs).length ≤ 200 * (t - f) ∧ f ≤ t := by
  have h1 := h.short hok; have h2 := joinT_len xs; omega

set_option maxRecDepth 100000 in
set_option maxHeartbeats 4000000 in
theorem series_any {w1 : World} {l : List Cl} {lv : Value} {S : Nat → Prop} {b j : Nat} (hB : Base w1 l lv S) (ih : ExprOK w1 l lv S b j) (op cl : ByteArray) (v : Value) (m f t e : Nat) (qs : List Nat) (ks : List Pt) (T : List UInt8) (w : World)
    (ho : w1.ownsRow 0 49 1 v m (ptrs qs)) (hT : TrS w1 (amL l) S qs f t e) (hX : Tx l m f t ks) (hj : t - f ≤ j) (hb : Below w1.heap.size w1 w) (hw : WrAt w1.heap.size b lv T w) (hlen : T.length + 200 * (t - f) + op.size + cl.size ≤ 99900) :
    Calls Tryz.prog 85 #[.pointer (some ⟨b, 0, none⟩), .string op, v, .string cl] w (WrPost w1 b lv (T ++ op.data.toList ++ joinT ks ++ cl.data.toList) w) := by
  obtain ⟨ao, cap, rfl, h1, h2, h3⟩ := own_ptr ho
  have hm : qs.length = m := own_len ho
  unfold maxLen at h2
  have hbd := (joinT_bd hB.ok hX).1
  have hso := size_list op; have hsc := size_list cl
  have H3 := Lib.hid h3; have HT := Lib.hid hT; have HX := Lib.hid hX; have IH := Lib.hid ih
  have HB := Lib.hid hb; have HW := Lib.hid hw
  clear h3 hT hX ih hb hw ho
  go_enter Tryz.func85, Tryz.ntmps85
  go_wp2_with fail
  refine (wString_any _ b _ T op _ HW.out (by omega) HB.out.size).mono ?_
  rintro e w3 ⟨rfl, h3, hb3, hk3⟩
  have W3 := Lib.hid h3; have HB3 := Lib.hid (HB.out.trans hb3); have HK3 := Lib.hid hk3; clear h3 hb3 hk3
  go_wp2_with fail
  go_loopw [17] (fun i wr => ∃ k g : Nat, k ≤ m ∧ i = .int .i64 (k : Int) ∧ Tx l k f g (ks.take k) ∧ WrAt w1.heap.size b lv (T ++ op.data.toList ++ joinT (ks.take k)) wr ∧ Below w1.heap.size w1 wr ∧ KT w wr) (fun i _ => m - (intOf i).toNat)
  case atStart => exact ⟨0, f, Nat.zero_le _, rfl, .nil f, by have := W3.out; simpa [joinT] using this, HB3.out, HK3.out⟩
  case round =>
    obtain ⟨k, g, hk, rfl, hXk, hWr, hBr, hKr⟩ := hrel
    have HKr := Lib.hid hKr; clear hKr
    have HWr := Lib.hid hWr; have HBr := Lib.hid hBr
    have hjb := joinT_bd hB.ok hXk
    by_cases hlt : k < m
    · obtain ⟨g1, g2, x, x1, x2, x3, x4, -⟩ := HX.out.at k hlt
      obtain ⟨rfl, -⟩ := hXk.uniq x2
      obtain ⟨a1, a2, d0, d1, d2, t0, t1, t2, t3, -⟩ := HT.out.at k (by omega)
      have hg1 : a1 = g := by
        obtain ⟨dx, hx⟩ := hXk.exs
        have := t0.exs
        rw [List.length_take, Nat.min_eq_left (by omega)] at this
        exact (this.uniq hx).1
      subst hg1
      have ha2 : a2 = g2 := by
        obtain ⟨dx, hx⟩ := x3.exs
        exact (t1.exs.uniq hx).1
      subst ha2
      obtain ⟨blk, rfl, hbl, cc⟩ := H3.out.resolve_left (by rintro rfl; simp at hm; omega)
      have d1 : wr.cell? ⟨blk, k, none⟩ = _ := (HBr.out.cell (p := ⟨blk, k, none⟩) hbl).trans (cc k (by omega))
      have HN := Lib.hid (joinT_next ks k x x1)
      have e3 := x3.exs; have e4 := x4.exs
      obtain ⟨_, e3⟩ := e3; obtain ⟨_, e4⟩ := e4
      have l3 := e3.le; have l4 := e4.le
      have hxs := (x3.short hB.ok).1
      simp only [sumT] at hxs
      have HJ := Lib.hid (IH.out _ a1 a2 _ x 0 · · t1 x3 (by omega) (by omega) (by omega))
      have HX2 := Lib.hid (x2.snoc x1 x3)
      have HPX := Lib.hid (parT_bare (x := x) (r := 0 + 1) (by have := (x3.rk hB.ok x (by simp)).1; omega))
      clear cc x1 x2 x3 x4 t0 t1 t2 t3 hXk hWr hBr e3 e4
      by_cases hk0 : k = 0
      · subst hk0
        go_wp2_with fail
        refine (HJ.out _ _ HBr.out HWr.out (by simp [joinT]; omega)).mono ?_
        rintro e w5 ⟨rfl, h5, hb5, hk5⟩
        have W5 := Lib.hid h5; have HB5 := Lib.hid hb5; have HK5 := Lib.hid (HKr.out.trans hk5); clear h5 hb5 hk5
        go_wp2
        go_roundw
        case rel => exact ⟨1, a2, by omega, by go_num, HX2.out, by rw [HN.out]; have := W5.out; rw [HPX.out] at this; simpa [joinT] using this, HB5.out, HK5.out⟩
        case measure => simp [intOf]; omega
      · have hk1 : (0 : Int) < (k : Int) := by omega
        go_wp2_with fail
        refine (wString_any _ b _ _ ⟨#[44, 32]⟩ _ HWr.out (by simp only [List.length_append]; rw [show (⟨#[44, 32]⟩ : ByteArray).size = 2 from rfl]; omega) HBr.out.size).mono ?_
        rintro e w4 ⟨rfl, h4, hb4, hk4⟩
        have W4 := Lib.hid h4; have HB4 := Lib.hid (HBr.out.trans hb4); have HK4 := Lib.hid (HKr.out.trans hk4); clear h4 hb4 hk4
        go_wp2_with fail
        refine (HJ.out _ _ HB4.out W4.out (by simp only [List.length_append]; rw [show (⟨#[44, 32]⟩ : ByteArray).data.toList.length = 2 from rfl]; omega)).mono ?_
        rintro e w5 ⟨rfl, h5, hb5, hk5⟩
        have W5 := Lib.hid h5; have HB5 := Lib.hid hb5; have HK5 := Lib.hid (HK4.out.trans hk5); clear h5 hb5 hk5
        go_wp2
        go_roundw
        case rel => exact ⟨k + 1, a2, by omega, by go_num, HX2.out, by rw [HN.out, if_neg hk0]; have := W5.out; rw [HPX.out] at this; simpa using this, HB5.out, HK5.out⟩
        case measure => simp [intOf]; omega
    · obtain rfl : k = m := by omega
      have HE := Lib.hid (show ks.take k = ks by rw [List.take_of_length_le]; rw [HX.out.len]; exact Nat.le_refl _)
      have hgt : g = t := by
        have h := hXk; rw [HE.out] at h; exact (h.uniq HX.out).1
      go_wp2_with fail
      refine (wString_any _ b _ _ cl _ HWr.out (by simp only [List.length_append]; omega) HBr.out.size).mono ?_
      rintro e w4 ⟨rfl, h4, hb4, hk4⟩
      have W4 := Lib.hid h4; have HB4 := Lib.hid (HBr.out.trans hb4); have HK4 := Lib.hid (HKr.out.trans hk4); clear h4 hb4 hk4
      go_wp2
      go_end0
      exact ⟨rfl, by have := W4.out; rw [HE.out] at this; exact this, HB4.out, HK4.out⟩

end Go.Proofs.YtfmjbmhgceebaaaGreatDoor
