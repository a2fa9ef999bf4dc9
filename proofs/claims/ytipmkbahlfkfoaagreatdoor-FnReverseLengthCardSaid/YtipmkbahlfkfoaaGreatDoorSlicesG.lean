/-
  slices.Clone and slices.Reverse at lists of values, by their contracts.
-/
import Derived.Test.YtipmkbahlfkfoaaGreatDoorChecked
import Derived.Deep.Slices
import Derived.Deep.Fields
import Derived.Deep.AppendLies
import Derived.OwnWalk
import Derived.Below
import Derived.Lib.Hide
import Derived.WalkKit
namespace Go.Proofs.YtipmkbahlfkfoaaGreatDoor
open Go.RowKit Go.Deep
set_option linter.unusedVariables false

theorem infoVG : (Tryz.prog.info? 67).map (fun i => (i.zero, i.size, i.bytes)) = some (some .nilIface, 1, 16) := by kernel_rfl
theorem newsG {w : World} {b o : Nat} {us : List Value} (h : ∀ (k : Nat) (h : k < us.length), w.cell? ⟨b, o + k, none⟩ = some us[k]) (j : Nat) (u : Value) (hj : us[j]? = some u) : w.cell? ((⟨b, o, none⟩ : Addr).add j) = some u := by
  have hadd : (⟨b, o, none⟩ : Addr).add j = ⟨b, o + j, none⟩ := by unfold Addr.add; split <;> simp_all
  have hlt : j < us.length := by
    by_cases hk : j < us.length
    · exact hk
    · rw [List.getElem?_eq_none (by omega)] at hj; cases hj
  rw [hadd, h j hlt]
  rw [List.getElem?_eq_getElem hlt] at hj
  exact hj

theorem eqlNil (a : Addr) (n c : Nat) (w : World) : (binOp BinOp.eql 86 (.slice (some a) n c) (.slice none 0 0)).run Tryz.prog w = .ok (.bool false) w := by kernel_rfl

set_option maxRecDepth 100000 in
set_option maxHeartbeats 4000000 in
/-- A list of values that is not empty is copied. -/
theorem clone_any (b o cap : Nat) (us : List Value) (w : World) (h0 : us ≠ []) (h8 : us.length ≤ 1000) (h1 : ∀ u ∈ us, u.oneCell' = true) (hc : ∀ (k : Nat) (h : k < us.length), w.cell? ⟨b, o + k, none⟩ = some us[k]) (hb : b < w.heap.size) :
    Calls Tryz.prog 143 #[.slice (some ⟨b, o, none⟩) us.length cap] w fun e w' => ∃ g c, e = .returned (.slice (some ⟨g, 0, none⟩) us.length c) ∧ w'.ownsRow w.heap.size 67 1 (.slice (some ⟨g, 0, none⟩) us.length c) us.length us ∧ Below w.heap.size w w' := by
  obtain ⟨j0, hj, hy0, hy1, hy2⟩ := info_parts infoVG
  have HC := Lib.hid (newsG hc)
  have hl0 : 0 < us.length := List.length_pos_iff.mpr h0
  have O0 := Lib.hid (show (w.alloc (.cells #[] 67)).ownsRow w.heap.size 67 1 (.slice (some ⟨w.heap.size, 0, none⟩) 0 0) 0 [] from World.ownsRow_lit (e := 67) (size := 1) (base := w.heap.size) w #[] 0 (Nat.le_refl _) (by unfold maxLen; omega) rfl)
  have HB := Lib.hid ((Below.refl w.heap.size w).alloc (Nat.le_refl _) (.cells #[] 67))
  have HC2 := Lib.hid (show ∀ (j : Nat) (u : Value), us[j]? = some u → (w.alloc (.cells #[] 67)).cell? ((⟨b, o, none⟩ : Addr).add j) = some u from fun j u hj => by
    have := HC.out j u hj
    have hadd : (⟨b, o, none⟩ : Addr).add j = ⟨b, o + j, none⟩ := by unfold Addr.add; split <;> simp_all
    rw [hadd] at this ⊢
    exact (HB.out.cell (p := ⟨b, _, none⟩) hb).trans this)
  have H1 := Lib.hid h1
  have hq := fun w => eqlNil ⟨b, o, none⟩ us.length cap w
  clear hc h0 h1
  go_enter Tryz.func143, Tryz.ntmps143
  go_wp2_with (at_builtin; refine wpList_append_lies _ rfl _ _ 86 rfl w.heap.size 67 j0 .nilIface 1 16 Tryz.underlying86 hj hy0 hy1 hy2 rfl (by decide) (.slice (some ⟨w.heap.size, 0, none⟩) 0 0) 0 [] rfl O0.out ⟨b, o, none⟩ us.length cap us rfl (by omega) HC2.out H1.out hl0 (by unfold maxLen; omega) (by omega) (by simp) (w.heap.size + 1) (by simp) ?_; intro gg cap' w6 hown' hgrow hat hlt'; have HO := Lib.hid (show w6.ownsRow w.heap.size 67 1 (.slice (some ⟨gg, 0, none⟩) us.length cap') us.length us by simpa using hown'); have HB6 := Lib.hid (HB.out.grown hgrow (by simp) (fun x hx => by simp [Value.ownBlock] at hx; omega)); clear hown' hgrow hat)
  go_ret
  exact ⟨gg, cap', by simp, HO.out, HB6.out⟩

/-- The list after k swaps. -/
def revP (xs : List Value) (k : Nat) : List Value := (List.range xs.length).map fun m => if m < k ∨ xs.length ≤ m + k then xs.getD (xs.length - 1 - m) default else xs.getD m default
theorem revP_len (xs : List Value) (k : Nat) : (revP xs k).length = xs.length := by simp [revP]
theorem revP_at (xs : List Value) (k m : Nat) (h : m < xs.length) : (revP xs k)[m]'(by rw [revP_len]; exact h) = if m < k ∨ xs.length ≤ m + k then xs.getD (xs.length - 1 - m) default else xs.getD m default := by simp [revP]
theorem revP_zero (xs : List Value) : revP xs 0 = xs := by
  refine List.ext_getElem (revP_len _ _) fun m h1 h2 => ?_
  rw [revP_at _ _ _ h2, if_neg (by omega), List.getD_eq_getElem?_getD, List.getElem?_eq_getElem h2]; rfl
theorem revP_end (xs : List Value) (k : Nat) (h : xs.length ≤ 2 * k + 1) : revP xs k = xs.reverse := by
  refine List.ext_getElem (by rw [revP_len, List.length_reverse]) fun m h1 h2 => ?_
  rw [List.length_reverse] at h2
  rw [revP_at _ _ _ h2, List.getElem_reverse]
  by_cases hm : m < k ∨ xs.length ≤ m + k
  · rw [if_pos hm, List.getD_eq_getElem?_getD, List.getElem?_eq_getElem (by omega)]; rfl
  · rw [if_neg hm, List.getD_eq_getElem?_getD, List.getElem?_eq_getElem h2]
    have : xs.length - 1 - m = m := by omega
    simp [this]
theorem revP_next (xs : List Value) (k : Nat) (h : 2 * k + 1 < xs.length) : ((revP xs k).set k (xs.getD (xs.length - 1 - k) default)).set (xs.length - 1 - k) (xs.getD k default) = revP xs (k + 1) := by
  refine List.ext_getElem (by simp [revP_len]) fun m h1 h2 => ?_
  rw [revP_len] at h2
  rw [revP_at _ _ _ h2, List.getElem_set, List.getElem_set, revP_at _ _ _ h2]
  by_cases a : xs.length - 1 - k = m
  · rw [if_pos a, if_pos (by omega)]; congr 1; omega
  · rw [if_neg a]
    by_cases b : k = m
    · rw [if_pos b, if_pos (by omega)]; subst b; rfl
    · rw [if_neg b]
      by_cases c : m < k ∨ xs.length ≤ m + k
      · rw [if_pos c, if_pos (by omega)]
      · rw [if_neg c, if_neg (by omega)]

set_option maxRecDepth 100000 in
set_option maxHeartbeats 4000000 in
theorem reverse_none (ao : Option Addr) (c : Nat) (w : World) :
    Calls Tryz.prog 144 #[.slice ao 0 c] w fun e w' => e = .returned (.tuple #[]) ∧ w = w' := by
  go_enter Tryz.func144, Tryz.ntmps144
  go_wp2_with fail
  refine wp_loop_rounds 1 ?_
  rw [rounds_succ]
  go_wp2
  go_end0
  exact ⟨rfl, rfl⟩

set_option maxRecDepth 100000 in
set_option maxHeartbeats 4000000 in
theorem reverse_any (base g c : Nat) (xs : List Value) (w : World) (h0 : 0 < xs.length) (h8 : xs.length ≤ 1000) (hif : ∀ u ∈ xs, ∃ T x, u = .iface T x) (ho : w.ownsRow base 67 1 (.slice (some ⟨g, 0, none⟩) xs.length c) xs.length xs) :
    Calls Tryz.prog 144 #[.slice (some ⟨g, 0, none⟩) xs.length c] w fun e w' => e = .returned (.tuple #[]) ∧ w'.ownsRow base 67 1 (.slice (some ⟨g, 0, none⟩) xs.length c) xs.length xs.reverse ∧ Below base w w' := by
  have HO := Lib.hid (show w.ownsRow base 67 1 (.slice (some ⟨g, 0, none⟩) xs.length c) xs.length (revP xs 0) by rw [revP_zero]; exact ho)
  have hcap : xs.length ≤ c ∧ c ≤ maxLen := by
    rcases ho.2 with ⟨h1, _⟩ | ⟨g', cap, cur, h1, _, _, h3, h4, _⟩
    · cases h1
    · injection h1 with h1 h2 h5'; subst h5'; exact ⟨h3, h4⟩
  obtain ⟨hc1, hc2⟩ := hcap
  unfold maxLen at hc2
  have hgb := (ho.lt g rfl).1
  have HIF := Lib.hid hif
  clear ho hif
  go_enter Tryz.func144, Tryz.ntmps144
  go_wp2_with fail
  go_loopw [2, 3] (fun i j wr => ∃ k J : Nat, k + J + 1 = xs.length ∧ k ≤ J + 1 ∧ i = .int .i64 (k : Int) ∧ j = .int .i64 (J : Int) ∧ wr.ownsRow base 67 1 (.slice (some ⟨g, 0, none⟩) xs.length c) xs.length (revP xs k) ∧ Below base w wr) (fun i _ _ => xs.length - (intOf i).toNat)
  case atStart => exact ⟨0, xs.length - 1, by omega, by omega, rfl, by go_num, HO.out, Below.refl _ _⟩
  case round =>
    obtain ⟨k, J, hkJ, hk, rfl, rfl, hown, hb⟩ := hrel
    have HOR := Lib.hid hown; have HB := Lib.hid hb
    clear hown hb
    by_cases hlt : k < J
    · have d1 : wr.cell? ⟨g, k, none⟩ = some (xs.getD k default) := by
        rw [HOR.out.cellAt k (by omega), List.getElem?_eq_getElem (by rw [revP_len]; omega), revP_at _ _ _ (by omega), if_neg (by omega)]
      have d2 : wr.cell? ⟨g, J, none⟩ = some (xs.getD J default) := by
        rw [HOR.out.cellAt J (by omega), List.getElem?_eq_getElem (by rw [revP_len]; omega), revP_at _ _ _ (by omega), if_neg (by omega)]
      have z1 := HOR.out.frozenAt k
      have z2 := HOR.out.frozenAt J
      have HN := Lib.hid (show ((revP xs k).set k (xs.getD J default)).set J (xs.getD k default) = revP xs (k + 1) by
        have := revP_next xs k (by omega)
        rwa [show xs.length - 1 - k = J by omega] at this)
      obtain ⟨T1, y1, e1⟩ := HIF.out (xs.getD k default) (by rw [List.getD_eq_getElem?_getD, List.getElem?_eq_getElem (by omega)]; exact List.getElem_mem _)
      obtain ⟨T2, y2, e2⟩ := HIF.out (xs.getD J default) (by rw [List.getD_eq_getElem?_getD, List.getElem?_eq_getElem (by omega)]; exact List.getElem_mem _)
      rw [e1] at d1 HN
      rw [e2] at d2 HN
      clear e1 e2
      have HS := Lib.hid (show _ from HN.out ▸ ((HOR.out.stored k (.iface T2 y2)).1.stored J (.iface T1 y1)).1)
      have HBS := Lib.hid ((HB.out.setCell (p := ⟨g, k, none⟩) hgb (.iface T2 y2)).setCell (p := ⟨g, J, none⟩) hgb (.iface T1 y1))
      have hne : ¬ J = k := by omega
      have hne2 : ¬ k = J := by omega
      have hkl : k < xs.length := by omega
      have hJl : J < xs.length := by omega
      have d1' : wr.drew.cell? ⟨g, k, none⟩ = some (.iface T1 y1) := d1
      have d2' : wr.drew.cell? ⟨g, J, none⟩ = some (.iface T2 y2) := d2
      have z1' : wr.drew.frozen? ⟨g, k, none⟩ = false := z1
      have z2' : wr.drew.frozen? ⟨g, J, none⟩ = false := z2
      go_wp2_with fail
      go_region
      go_wp2
      go_roundw
      case rel => exact ⟨k + 1, J - 1, by omega, by omega, by go_num, by go_num, HS.out, HBS.out.trans ⟨rfl, rfl, rfl, Nat.le_refl _, fun _ _ => rfl⟩⟩
      case measure => simp [intOf]; omega
    · have HE := Lib.hid (show wr.ownsRow base 67 1 (.slice (some ⟨g, 0, none⟩) xs.length c) xs.length xs.reverse by have := HOR.out; rwa [revP_end _ _ (by omega)] at this)
      go_wp2
      go_end0
      exact ⟨rfl, HE.out, HB.out⟩

end Go.Proofs.YtipmkbahlfkfoaaGreatDoor
