/-
  reversedList, by its contract.
-/
import Derived.Test.YtipmkbahlfkfoaaGreatDoorFunL
namespace Go.Proofs.YtipmkbahlfkfoaaGreatDoor
open Go.RowKit
set_option linter.unusedVariables false

theorem eqlNilN (c : Nat) (w : World) : (binOp BinOp.eql 86 (.slice none 0 c) (.slice none 0 0)).run Tryz.prog w = .ok (.bool true) w := by kernel_rfl
theorem VlS.rev {w : World} {S : Nat → Prop} {us : List Value} {ps : List (List Cl)} (h : VlS w S us ps) : VlS w S us.reverse ps.reverse := by
  induction h with
  | nil => exact .nil
  | num h1 h2 ih => rw [List.reverse_cons, List.reverse_cons]; exact ih.app (.num h1 .nil)
  | text h1 h2 ih => rw [List.reverse_cons, List.reverse_cons]; exact ih.app (.text h1 .nil)
  | truth h2 ih => rw [List.reverse_cons, List.reverse_cons]; exact ih.app (.truth .nil)
  | list h1 h2 h3 i2 i3 => rw [List.reverse_cons, List.reverse_cons]; exact i3.app (.list h1 h2 .nil)
theorem RowV.of_own {w : World} {base g n c : Nat} {us : List Value} (h : w.ownsRow base 67 1 (.slice (some ⟨g, 0, none⟩) n c) n us) : RowV w (fun _ => True) (.slice (some ⟨g, 0, none⟩) n c) us ∧ n = us.length := by
  have hl : n = us.length := by have := h.1; omega
  subst hl
  obtain ⟨hc1, hc2⟩ : us.length ≤ c ∧ c ≤ maxLen := by
    rcases h.2 with ⟨h1, _⟩ | ⟨g', cap, cur, h1, _, _, h3, h4, _⟩
    · cases h1
    · injection h1 with h1 h2 h5'; subst h5'; exact ⟨h3, h4⟩
  exact ⟨⟨_, c, rfl, hc1, hc2, .inr ⟨g, 0, rfl, trivial, (h.lt g rfl).2, fun k hk => by rw [Nat.zero_add, h.cellAt k (by omega), List.getElem?_eq_getElem hk]⟩⟩, rfl⟩

set_option maxRecDepth 100000 in
set_option maxHeartbeats 4000000 in
theorem clone_none (ao : Option Addr) (cap : Nat) (w : World) :
    Calls Tryz.prog 143 #[.slice ao 0 cap] w fun e w' => ∃ ao' c', e = .returned (.slice ao' 0 c') ∧ c' ≤ maxLen ∧ Below w.heap.size w w' := by
  cases ao with
  | none =>
    have hq := fun w => eqlNilN cap w
    go_enter Tryz.func143, Tryz.ntmps143
    go_wp2
    go_ret
    exact ⟨none, 0, rfl, by unfold maxLen; omega, Below.refl _ _⟩
  | some a =>
    have hq := fun w => eqlNil a 0 cap w
    obtain ⟨j0, hj, hy0, hy1, hy2⟩ := info_parts infoVG
    have O0 := Lib.hid (show (w.alloc (.cells #[] 67)).ownsRow w.heap.size 67 1 (.slice (some ⟨w.heap.size, 0, none⟩) 0 0) 0 [] from World.ownsRow_lit (e := 67) (size := 1) (base := w.heap.size) w #[] 0 (Nat.le_refl _) (by unfold maxLen; omega) rfl)
    have HB := Lib.hid ((Below.refl w.heap.size w).alloc (Nat.le_refl _) (.cells #[] 67))
    go_enter Tryz.func143, Tryz.ntmps143
    go_wp2_with (at_builtin; refine wpList_append_own _ rfl _ _ 86 rfl w.heap.size 67 j0 .nilIface 1 16 Tryz.underlying86 hj hy0 hy1 hy2 rfl (by decide) (.slice (some ⟨w.heap.size, 0, none⟩) 0 0) 0 [] rfl O0.out a 0 cap [] rfl rfl (fun j u h => by simp at h) (fun u h => by cases h) (by unfold maxLen; omega) (by omega) (by simp) ?_; intro v' w6 hown' hgrow hat; have HO := Lib.hid (show w6.ownsRow w.heap.size 67 1 v' 0 [] by simpa using hown'); have HB6 := Lib.hid (HB.out.grown hgrow (by simp) (fun x hx => by simp [Value.ownBlock] at hx; omega)); clear hown' hgrow hat)
    obtain ⟨a6, c6, rfl⟩ := own_shape HO.out
    have hc6 : c6 ≤ maxLen := by
      rcases HO.out.2 with ⟨h1, _⟩ | ⟨g', cap', cur, h1, _, _, h3, h4, _⟩
      · injection h1 with h1 h2 h5'; unfold maxLen; omega
      · injection h1 with h1 h2 h5'; omega
    go_wp2
    go_ret
    exact ⟨a6, c6, rfl, hc6, HB6.out⟩

set_option maxRecDepth 100000 in
set_option maxHeartbeats 4000000 in
theorem reversedList_any (v : Value) (us : List Value) (ps : List (List Cl)) (w : World) (hr : RowV w (fun _ => True) v us) (hv : VlS w (fun _ => True) us ps) (hok : okV (listV ps) = true) (htab : Tab w) :
    Calls Tryz.prog 92 #[v] w (Res (revR (listV ps)) w) := by
  obtain ⟨hps, hpv⟩ := okV_parts hv.exs hok
  have hto := turned_ok hok (show kdV (listV ps) = 5 from rfl)
  rw [hpv] at hto
  have HL := Lib.hid (show revR (listV ps) = some (listV ps.reverse) by rw [revR, if_pos (show kdV (listV ps) = 5 from rfl), hpv, lisO, if_pos hto])
  have HTO := Lib.hid hto
  have hlen := hv.len
  have hm : ps.length ≤ 60 := by
    have := okVC_many (okV_head (c := (5, ⟨#[]⟩, (ps.length : Int))) (t := ps.flatten) hok)
    simp only at this; omega
  have HT := Lib.hid htab; have HV := Lib.hid hv
  obtain ⟨ao, cap, rfl, h1, h2, h3⟩ := hr
  unfold maxLen at h2
  have hcl := conc_list
  clear htab hv hps hpv hto hok
  by_cases h0 : us = []
  · subst h0
    obtain rfl : ps = [] := List.length_eq_zero_iff.mp (by rw [← hlen]; rfl)
    have HCL := Lib.hid (clone_none ao cap w)
    clear h3 hlen h1
    go_enter Tryz.func92, Tryz.ntmps92
    go_wp2_with fail
    refine HCL.out.mono ?_
    rintro e w1 ⟨ao', c', rfl, hc', hb1⟩
    have HB1 := Lib.hid hb1; have HC' := Lib.hid hc'; clear hb1 hc'
    go_wp2_with fail
    refine (reverse_none ao' c' w1).mono ?_
    rintro e w2 ⟨rfl, rfl⟩
    go_wp2
    go_ret
    exact Res.val (S := fun _ => True) HB1.out (.list (us' := []) ⟨ao', c', rfl, Nat.zero_le _, HC'.out, .inl rfl⟩ .nil .nil) (HT.out.keep HB1.out) HTO.out HL.out
  · obtain ⟨b, o, rfl, -, hbl, cc⟩ := h3.resolve_left h0
    have hl0 : 0 < us.length := List.length_pos_iff.mpr h0
    have HCL := Lib.hid (clone_any b o cap us w h0 (by omega) HV.out.cell1 cc hbl)
    have hif : ∀ u ∈ us, ∃ T x, u = .iface T x := fun u hu => by
      obtain ⟨k, hk, rfl⟩ := List.mem_iff_getElem.mp hu
      exact (HV.out.at k hk (by omega)).iface
    have HIF := Lib.hid hif
    have hu8 : us.length ≤ 1000 := by omega
    clear cc hlen h1 h0 hif
    go_enter Tryz.func92, Tryz.ntmps92
    go_wp2_with fail
    refine HCL.out.mono ?_
    rintro e w1 ⟨g, c, rfl, ho1, hb1⟩
    have HB1 := Lib.hid hb1; have HO1 := Lib.hid ho1; clear hb1 ho1
    go_wp2_with fail
    refine (reverse_any w.heap.size g c us w1 hl0 hu8 HIF.out HO1.out).mono ?_
    rintro e w2 ⟨rfl, ho2, hb2⟩
    have HB2 := Lib.hid (HB1.out.trans hb2); have HO2 := Lib.hid (RowV.of_own ho2).1; clear hb2 ho2
    have HV2 := Lib.hid ((HV.out.low HB2.out).rev)
    go_wp2
    go_ret
    exact Res.val (S := fun _ => True) HB2.out (.list HO2.out HV2.out .nil) (HT.out.keep HB2.out) HTO.out HL.out

end Go.Proofs.YtipmkbahlfkfoaaGreatDoor
