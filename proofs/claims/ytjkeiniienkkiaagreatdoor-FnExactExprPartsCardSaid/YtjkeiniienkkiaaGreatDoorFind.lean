/-
  impl's (*node).find, exprNode, ExprEnd, ExprParts, by their contracts.
-/
import Derived.Test.YtjkeiniienkkiaaGreatDoorBaseX
import Derived.Test.YtjkeiniienkkiaaGreatDoorBaseI
namespace Go.Proofs.YtjkeiniienkkiaaGreatDoor
open Go.RowKit
set_option linter.unusedVariables false

/-- What find leaves. -/
def Found (w : World) (am : List Nat) (S : Nat → Prop) (f t : Nat) (a : Int) (e : Ending) : Prop :=
  (∃ (k M g d : Nat), a = (k : Int) ∧ f ≤ k ∧ k < t ∧ e = .returned (.pointer (some ⟨M, 0, none⟩)) ∧ TrS w am S [M] k g d) ∨ ((a < (f : Int) ∨ (t : Int) ≤ a) ∧ e = .returned (.pointer none))

set_option maxRecDepth 100000 in
set_option maxHeartbeats 4000000 in
theorem find_any (am : List Nat) (h60 : am.length ≤ 60) (S : Nat → Prop) (w : World) (a : Int) (j : Nat) : ∀ (N f t d : Nat), TrS w am S [N] f t d → t - f ≤ j →
    Calls Tryz.prog 58 #[.pointer (some ⟨N, 0, none⟩), .int .i64 a] w fun e w' => Found w am S f t a e ∧ w = w' := by
  induction j with
  | zero => intro N f t d h hj; have := h.exs.le; simp at this; omega
  | succ j ih =>
    intro N f t d h hj
    have HH := Lib.hid h
    obtain ⟨m, e, v, qs, hm, hS, hb, ho, hr, ht, rfl⟩ := h.inv
    have hle := ht.exs.le
    have htl : t ≤ am.length := h.exs.le.2 (by simp)
    obtain ⟨ao, cap, rfl, h1, h2, h3⟩ := own_ptr ho
    unfold maxLen at h2
    have c0 : w.cell? ⟨N, 0, none⟩ = some (.int .i64 (f : Int)) := hb.cell 0
    have c2 : w.cell? ⟨N, 2, none⟩ = some (.slice ao qs.length cap) := hb.cell 2
    have H3 := Lib.hid h3; have HT := Lib.hid ht; have IH := Lib.hid ih
    have HSTART := Lib.hid (show TrS w am S (qs.take 0) (f + 1) (f + 1) 0 from .nil _)
    have hql : qs.length ≤ 60 := by omega
    clear h3 ht ih h hm hS hb ho hr
    by_cases haf : a = (f : Int)
    · subst haf
      have HF := Lib.hid (show Found w am S f t (f : Int) (.returned (.pointer (some ⟨N, 0, none⟩))) from .inl ⟨f, N, t, e + 1, rfl, Nat.le_refl _, by omega, rfl, HH.out⟩)
      go_enter Tryz.func58, Tryz.ntmps58
      go_wp2
      go_ret
      exact ⟨HF.out, rfl⟩
    · have hne : (a == (f : Int)) = false := beq_eq_false_iff_ne.mpr haf
      have HAF := Lib.hid haf; clear haf
      go_enter Tryz.func58, Tryz.ntmps58
      go_wp2
      go_loop [6, 19] (fun _ i => ∃ k : Nat, k ≤ qs.length ∧ i = .int .i64 (k : Int) ∧ ∃ g e0, TrS w am S (qs.take k) (f + 1) g e0 ∧ (k = 0 ∨ (g : Int) ≤ a)) (fun _ i => qs.length - (intOf i).toNat)
      case atStart => exact ⟨0, Nat.zero_le _, rfl, f + 1, 0, HSTART.out, .inl rfl⟩
      case round =>
        obtain ⟨k, hk, rfl, hx⟩ := hrel
        have HX := Lib.hid hx; clear hx
        by_cases hlt : k < qs.length
        · obtain ⟨b, rfl, hbl, cc⟩ := H3.out.resolve_left (by rintro rfl; simp at hlt)
          have d1 := cc k hlt
          obtain ⟨g, g', d0, d1', d2, j1, j2, j3, j4, j5⟩ := HT.out.at k hlt
          obtain ⟨gx, ex, hx, hor⟩ := HX.out
          obtain ⟨rfl, -⟩ := hx.exs.uniq j1.exs
          have l1 := j1.exs.le; have l2 := j2.exs.le; have l4 := j4.exs.le
          simp only [List.length_take, List.length_cons, List.length_nil] at l1 l2
          have hg0 : k = 0 → gx = f + 1 := by rintro rfl; rw [List.take_zero] at j1; cases j1; rfl
          obtain ⟨m1, e1, v1, qs1, -, -, hN1, -⟩ := j2.inv
          have c1 : w.cell? ⟨qs[k], 1, none⟩ = some (.int .i64 (g' : Int)) := hN1.cell 1
          have HJ2 := Lib.hid j2; have HJ3 := Lib.hid j3; have HOR := Lib.hid hor; have HG0 := Lib.hid hg0
          clear j1 j2 j3 j4 hx cc HX hor hN1 hg0
          generalize qs[k] = N1 at d1 c1 HJ2
          by_cases hag : a < (g' : Int)
          · go_wp2_with fail
            refine (IH.out N1 gx g' d1' HJ2.out (by omega)).mono ?_
            rintro e2 w' ⟨⟨k', M, g2, dd, ha, q1, q2, rfl, ht2⟩ | ⟨hor2, rfl⟩, rfl⟩
            · have HF := Lib.hid (show Found w am S f t a (.returned (.pointer (some ⟨M, 0, none⟩))) from .inl ⟨k', M, g2, dd, ha, by omega, by omega, rfl, ht2⟩)
              clear ha ht2
              go_wp2
              go_ret
              exact ⟨HF.out, rfl⟩
            · have HF := Lib.hid (show Found w am S f t a (.returned (.pointer none)) from .inr ⟨.inl (by
                have hne := HAF.out
                rcases hor2 with h | h
                · rcases HOR.out with h0 | h0
                  · have := HG0.out h0; omega
                  · omega
                · omega), rfl⟩)
              clear hor2
              go_wp2
              go_ret
              exact ⟨HF.out, rfl⟩
          · go_wp2
            go_round
            case rel => exact ⟨k + 1, by omega, by go_num, g', _, HJ3.out, .inr (by omega)⟩
            case measure => simp [intOf]; omega
        · obtain rfl : k = qs.length := by omega
          have HF := Lib.hid (show Found w am S f t a (.returned (.pointer none)) from .inr ⟨by
            obtain ⟨g, e0, hx, hor⟩ := HX.out
            rw [List.take_of_length_le (Nat.le_refl _)] at hx
            obtain ⟨rfl, -⟩ := hx.exs.uniq HT.out.exs
            have hne := HAF.out
            rcases hor with h | h
            · have : g = f + 1 := by
                have hq : qs = [] := List.length_eq_zero_iff.mp h
                subst hq; cases hx; rfl
              omega
            · exact .inr h, rfl⟩)
          go_wp2
          go_ret
          exact ⟨HF.out, rfl⟩

/-- What exprNode leaves. -/
def NodeAt (l : List Cl) (a : Int) (w : World) (e : Ending) (w' : World) : Prop :=
  Below w.heap.size w w' ∧ ((∃ (k M g d : Nat), a = (k : Int) ∧ k < l.length ∧ e = .returned (.pointer (some ⟨M, 0, none⟩)) ∧ okE l = true ∧ TrS w' (amL l) (fun b => w.heap.size ≤ b ∧ b < w'.heap.size) [M] k g d) ∨ (e = .returned (.pointer none) ∧ ¬ (okE l = true ∧ 0 ≤ a ∧ a < (l.length : Int))))

set_option maxRecDepth 100000 in
set_option maxHeartbeats 4000000 in
theorem exprNode_any (v : Value) (l : List Cl) (a : Int) (w : World) (hr : RowC w v l) (hz : SizedC l) (htab : Tab w) :
    Calls Tryz.prog 42 #[v, .int .i64 a] w (NodeAt l a w) := by
  have HC := Lib.hid (exprTree_any v l w hr hz htab)
  obtain ⟨ao, cap, rfl, h1, h2, h3⟩ := hr
  unfold maxLen at h2
  clear h3 hz
  go_enter Tryz.func42, Tryz.ntmps42
  go_wp2_with fail
  refine HC.out.mono ?_
  rintro e w1 ⟨hb1, ⟨N, d, rfl, hok, hd, ht⟩ | ⟨rfl, hno⟩⟩
  · have h60 := ((okE_iff l).mp hok).1
    have HOK := Lib.hid hok; have HB := Lib.hid hb1; have HT := Lib.hid ht
    clear hok hb1 ht
    go_wp2_with fail
    refine (find_any (amL l) (by rw [amL_length]; exact h60) _ _ a l.length N 0 l.length d HT.out (by omega)).mono ?_
    rintro e2 w' ⟨⟨k', M, g2, dd, ha, q1, q2, rfl, ht2⟩ | ⟨hor2, rfl⟩, rfl⟩
    · have HA := Lib.hid ha; have HT2 := Lib.hid ht2
      clear ha ht2
      go_wp2
      go_ret
      exact ⟨HB.out, .inl ⟨k', M, g2, dd, HA.out, q2, rfl, HOK.out, HT2.out⟩⟩
    · have HX := Lib.hid (show ¬ (okE l = true ∧ 0 ≤ a ∧ a < (l.length : Int)) by rintro ⟨-, x1, x2⟩; rcases hor2 with h | h <;> omega)
      clear hor2
      go_wp2
      go_ret
      exact ⟨HB.out, .inr ⟨rfl, HX.out⟩⟩
  · have HX := Lib.hid (show ¬ (okE l = true ∧ 0 ≤ a ∧ a < (l.length : Int)) by rintro ⟨h, -⟩; rw [hno] at h; cases h)
    have HB := Lib.hid hb1
    clear hno hb1
    go_wp2
    go_ret
    exact ⟨HB.out, .inr ⟨rfl, HX.out⟩⟩

open Classical in
/-- The end that is answered. -/
noncomputable def endA (l : List Cl) (a : Int) : Int := if okE l = true ∧ 0 ≤ a ∧ a < (l.length : Int) then (endP (amL l) a.toNat : Int) else -1
open Classical in
/-- The parts that are answered. -/
noncomputable def partsA (l : List Cl) (a : Int) : List Nat := if okE l = true ∧ 0 ≤ a ∧ a < (l.length : Int) then kidsL (amL l) (a.toNat + 1) ((amL l).getD a.toNat 0) else []
theorem endA_yes {l : List Cl} {a : Int} {k g d : Nat} (ha : a = (k : Int)) (hk : k < l.length) (hok : okE l = true) (h : Exs (amL l) 1 k g d) : endA l a = (g : Int) := by
  subst ha
  rw [endA, if_pos ⟨hok, by omega, by omega⟩, Int.toNat_natCast, h.endP]
theorem endA_no {l : List Cl} {a : Int} (h : ¬ (okE l = true ∧ 0 ≤ a ∧ a < (l.length : Int))) : endA l a = -1 := by rw [endA, if_neg h]
theorem partsA_yes {l : List Cl} {a : Int} {k m : Nat} (ha : a = (k : Int)) (hk : k < l.length) (hok : okE l = true) (h : (amL l)[k]? = some m) : partsA l a = kidsL (amL l) (k + 1) m := by
  subst ha
  rw [partsA, if_pos ⟨hok, by omega, by omega⟩, Int.toNat_natCast, List.getD_eq_getElem?_getD, h]; rfl
theorem partsA_no {l : List Cl} {a : Int} (h : ¬ (okE l = true ∧ 0 ≤ a ∧ a < (l.length : Int))) : partsA l a = [] := by rw [partsA, if_neg h]

set_option maxRecDepth 100000 in
set_option maxHeartbeats 4000000 in
theorem exprEnd_impl (v : Value) (l : List Cl) (a : Int) (w : World) (hr : RowC w v l) (hz : SizedC l) (htab : Tab w) :
    Calls Tryz.prog 18 #[v, .int .i64 a] w fun e w' => e = .returned (.int .i64 (endA l a)) ∧ Below w.heap.size w w' := by
  have HC := Lib.hid (exprNode_any v l a w hr hz htab)
  obtain ⟨ao, cap, rfl, h1, h2, h3⟩ := hr
  unfold maxLen at h2
  clear h3 hz
  go_enter Tryz.func18, Tryz.ntmps18
  go_wp2_with fail
  refine HC.out.mono ?_
  rintro e w1 ⟨hb1, ⟨k, M, g, d, ha, hk, rfl, hok, ht⟩ | ⟨rfl, hno⟩⟩
  · have HE := Lib.hid (endA_yes ha hk hok ht.exs)
    obtain ⟨m1, e1, v1, qs1, -, -, hN1, -⟩ := ht.inv
    have c1 : w1.cell? ⟨M, 1, none⟩ = some (.int .i64 (g : Int)) := hN1.cell 1
    have HB := Lib.hid hb1
    clear ha hok hb1 ht hN1
    go_wp2
    go_ret
    exact ⟨ret_i HE.out.symm, HB.out⟩
  · have HE := Lib.hid (endA_no hno)
    have HB := Lib.hid hb1
    clear hno hb1
    go_wp2
    go_ret
    exact ⟨ret_i HE.out.symm, HB.out⟩

end Go.Proofs.YtjkeiniienkkiaaGreatDoor
