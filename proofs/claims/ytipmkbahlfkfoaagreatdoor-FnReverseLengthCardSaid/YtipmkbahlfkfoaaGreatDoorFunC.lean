/-
  containsPart and its closure, by their contracts; what assertions of a value tell.
-/
import Derived.Test.YtipmkbahlfkfoaaGreatDoorFunL
import Derived.Test.YtipmkbahlfkfoaaGreatDoorSlicesE
import Derived.Test.YtipmkbahlfkfoaaGreatDoorSlicesF
namespace Go.Proofs.YtipmkbahlfkfoaaGreatDoor
open Go.RowKit
set_option linter.unusedVariables false

/-- A value is a list, or no assertion takes it for one. -/
theorem VlS.asL {w : World} {S : Nat → Prop} {T : TypeId} {x : Value} {l : List Cl} (h : VlS w S [.iface T x] [l]) (hok : okV l = true) :
    ((∀ w', (Instr.typeAssert (.iface T x) 67 86 true).run Tryz.prog w' = .ok (.tuple #[.slice none 0 0, .bool false]) w') ∧ kdV l ≠ 5) ∨
    ((∀ w', (Instr.typeAssert (.iface T x) 67 86 true).run Tryz.prog w' = .ok (.tuple #[x, .bool true]) w') ∧ ∃ us ps, RowV w S x us ∧ VlS w S us ps ∧ l = listV ps) := by
  rcases h.one hok with ⟨s, hs, hu, rfl⟩ | ⟨s, hs, hu, rfl⟩ | ⟨b, hu, rfl⟩ | ⟨v, us, ps, hu, rfl, hr, hvs, hps, hpv⟩
  · injection hu with h1 h2; subst h1 h2; exact .inl ⟨fun w' => taL_num _ w', show (1 : Int) ≠ 5 by decide⟩
  · injection hu with h1 h2; subst h1 h2; exact .inl ⟨fun w' => taL_text _ w', show (2 : Int) ≠ 5 by decide⟩
  · injection hu with h1 h2; subst h1 h2; exact .inl ⟨fun w' => taL_truth _ w', show (3 : Int) ≠ 5 by decide⟩
  · injection hu with h1 h2; subst h1 h2; exact .inr ⟨fun w' => taL_list _ w', us, ps, hr, hvs, rfl⟩
theorem VlS.asT {w : World} {S : Nat → Prop} {T : TypeId} {x : Value} {l : List Cl} (h : VlS w S [.iface T x] [l]) (hok : okV l = true) :
    ((∀ w', (Instr.typeAssert (.iface T x) 67 151 true).run Tryz.prog w' = .ok (.tuple #[.string ByteArray.empty, .bool false]) w') ∧ kdV l ≠ 2) ∨
    ∃ s, (∀ w', (Instr.typeAssert (.iface T x) 67 151 true).run Tryz.prog w' = .ok (.tuple #[.string s, .bool true]) w') ∧ okC (2, s, 0) = true ∧ l = [(2, s, 0)] := by
  rcases h.one hok with ⟨s, hs, hu, rfl⟩ | ⟨s, hs, hu, rfl⟩ | ⟨b, hu, rfl⟩ | ⟨v, us, ps, hu, rfl, hr, hvs, hps, hpv⟩
  · injection hu with h1 h2; subst h1 h2; exact .inl ⟨fun w' => taT_num _ w', show (1 : Int) ≠ 2 by decide⟩
  · injection hu with h1 h2; subst h1 h2; exact .inr ⟨s, fun w' => taT_text _ w', hs, rfl⟩
  · injection hu with h1 h2; subst h1 h2; exact .inl ⟨fun w' => taT_truth _ w', show (3 : Int) ≠ 2 by decide⟩
  · injection hu with h1 h2; subst h1 h2; exact .inl ⟨fun w' => taT_list _ w', show (5 : Int) ≠ 2 by decide⟩
theorem VlS.asN {w : World} {S : Nat → Prop} {T : TypeId} {x : Value} {l : List Cl} (h : VlS w S [.iface T x] [l]) (hok : okV l = true) :
    ((∀ w', (Instr.typeAssert (.iface T x) 67 152 true).run Tryz.prog w' = .ok (.tuple #[.agg #[.int .i64 0, .int .i64 0], .bool false]) w') ∧ kdV l ≠ 1) ∨
    ∃ s, (∀ w', (Instr.typeAssert (.iface T x) 67 152 true).run Tryz.prog w' = .ok (.tuple #[.agg #[.int .i64 (rdT s), .int .i64 (rdB s)], .bool true]) w') ∧ rdOK s = true ∧ l = [(1, s, 0)] := by
  rcases h.one hok with ⟨s, hs, hu, rfl⟩ | ⟨s, hs, hu, rfl⟩ | ⟨b, hu, rfl⟩ | ⟨v, us, ps, hu, rfl, hr, hvs, hps, hpv⟩
  · injection hu with h1 h2; subst h1 h2; exact .inr ⟨s, fun w' => taN_num _ w', hs, rfl⟩
  · injection hu with h1 h2; subst h1 h2; exact .inl ⟨fun w' => taN_text _ w', show (2 : Int) ≠ 1 by decide⟩
  · injection hu with h1 h2; subst h1 h2; exact .inl ⟨fun w' => taN_truth _ w', show (3 : Int) ≠ 1 by decide⟩
  · injection hu with h1 h2; subst h1 h2; exact .inl ⟨fun w' => taN_list _ w', show (5 : Int) ≠ 1 by decide⟩

open Classical in
noncomputable def conR (p x : List Cl) : Option (List Cl) := if kdV p = 5 then some (truV (decide (x ∈ partsV p))) else none

set_option maxRecDepth 100000 in
set_option maxHeartbeats 4000000 in
theorem contains1_any (u u' : Value) (p q : List Cl) (pb : Nat) (w : World) (hc : w.cell? ⟨pb, 0, none⟩ = some u') (h1 : AppOK w u p) (h2 : AppOK w u' q) (l1 : p.length ≤ 1000) (l2 : q.length ≤ 1000) :
    Calls Tryz.prog 147 #[u, .pointer (some ⟨pb, 0, none⟩)] w fun e w' => e = .returned (.bool (decide (p = q))) ∧ Below w.heap.size w w' := by
  have HS := Lib.hid (same_any u u' p q w h1 h2 l1 l2)
  obtain ⟨T, x, K, rfl, -⟩ := h1
  obtain ⟨T2, x2, K2, rfl, -⟩ := h2
  go_enter Tryz.func147, Tryz.ntmps147
  go_wp2_with fail
  refine HS.out.mono ?_
  rintro e w1 ⟨rfl, hb1⟩
  go_wp2
  go_ret
  exact ⟨rfl, hb1⟩

theorem enter_con1 : ∀ args w, (callFunc 147 args).run Tryz.prog w = .ok (.enter 147 args) w := enters_of Tryz.func147 (by kernel_rfl) rfl

open Classical in
set_option maxRecDepth 100000 in
set_option maxHeartbeats 4000000 in
theorem containsPart_any (u u' : Value) (p q : List Cl) (w : World) (hv : VlS w (fun _ => True) [u] [p]) (hok : okV p = true) (hv' : VlS w (fun _ => True) [u'] [q]) (hok' : okV q = true) (htab : Tab w) :
    Calls Tryz.prog 94 #[u, u'] w (Res (conR p q) w) := by
  obtain ⟨T, x, rfl⟩ := hv.iface
  obtain ⟨T2, x2, rfl⟩ := hv'.iface
  have HA := Lib.hid (fun w' (hb : Below w.heap.size w w') => (hv'.app_ok htab 0 (by simp) (by simp)).keep hb)
  have hql := ((okV_iff q).mp hok').1
  rcases hv.asL hok with ⟨has, hkd⟩ | ⟨has, us, ps, hr, hvs, rfl⟩
  · have HL := Lib.hid (show conR p q = none by rw [conR, if_neg hkd])
    clear hv hv' htab hok hok' hkd
    go_enter Tryz.func94, Tryz.ntmps94
    go_wp2
    go_ret
    exact Res.nil ((Below.refl _ _).alloc (Nat.le_refl _) _) HL.out
  · obtain ⟨hps, hpv⟩ := okV_parts hvs.exs hok
    have HL := Lib.hid (show conR (listV ps) q = some (truV (decide (q ∈ ps))) by rw [conR, if_pos (show kdV (listV ps) = 5 from rfl), hpv])
    have hlen := hvs.len
    have hm : ps.length ≤ 60 := by
      have := okVC_many (okV_head (c := (5, ⟨#[]⟩, (ps.length : Int))) (t := ps.flatten) hok)
      simp only at this; omega
    have HAS := Lib.hid (hvs.app_ok htab)
    have HB0 := Lib.hid ((Below.refl w.heap.size w).alloc (Nat.le_refl _) (.cells #[.iface T2 x2] 67))
    have c0 : (w.alloc (.cells #[.iface T2 x2] 67)).cell? ⟨w.heap.size, 0, none⟩ = some (.iface T2 x2) := by simp [go_sem]
    obtain ⟨ao, cap, rfl, h1, h2, h3⟩ := hr
    have hcc : us = [] ∨ ∃ b o, ao = some ⟨b, o, none⟩ ∧ b < (w.alloc (.cells #[.iface T2 x2] 67)).heap.size ∧ ∀ (k : Nat) (h : k < us.length), (w.alloc (.cells #[.iface T2 x2] 67)).cell? ⟨b, o + k, none⟩ = some us[k] := by
      rcases h3 with h3 | ⟨b, o, rfl, -, hbl, cc⟩
      · exact .inl h3
      · exact .inr ⟨b, o, rfl, by simp; omega, fun k hk => (HB0.out.cell (p := ⟨b, _, none⟩) hbl).trans (cc k hk)⟩
    have hK : ∀ (k : Nat) (h : k < us.length) (w' : World), Below (w.alloc (.cells #[.iface T2 x2] 67)).heap.size (w.alloc (.cells #[.iface T2 x2] 67)) w' →
        Calls Tryz.prog 147 #[us[k], .pointer (some ⟨w.heap.size, 0, none⟩)] w' fun e w'' => e = .returned (.bool (decide (ps[k]? = some q))) ∧ Below w'.heap.size w' w'' := fun k hk w' hb => by
      have hkp : k < ps.length := by omega
      have hb2 : Below w.heap.size w w' := HB0.out.trans (hb.mono HB0.out.size)
      have h := contains1_any us[k] (.iface T2 x2) ps[k] q w.heap.size w' ((hb.cell (p := ⟨w.heap.size, _, none⟩) (by simp)).trans c0) ((HAS.out k hk hkp).keep hb2) (HA.out w' hb2) (by have := ((okV_iff _).mp (hps ps[k] (List.getElem_mem hkp))).1; omega) (by omega)
      have e1 : decide (ps[k]? = some q) = decide (ps[k] = q) := by rw [List.getElem?_eq_getElem hkp]; simp
      rw [e1]; exact h
    have hif : ∀ (k : Nat) (h : k < us.length), ∃ T x, us[k] = .iface T x := fun k hk => (hvs.at k hk (by omega)).iface
    have hr : decide (q ∈ ps) = true ↔ ∃ k, k < us.length ∧ decide (ps[k]? = some q) = true := by
      simp only [decide_eq_true_eq]
      constructor
      · intro h
        obtain ⟨k, hk, hq⟩ := List.mem_iff_getElem.mp h
        exact ⟨k, by omega, by rw [List.getElem?_eq_getElem hk, hq]⟩
      · rintro ⟨k, hk, hq⟩
        exact List.mem_of_getElem? hq
    have HCT := Lib.hid (contains_any _ w.heap.size enter_con1 ao cap us (fun k => decide (ps[k]? = some q)) _ (by omega) hif hcc hK (decide (q ∈ ps)) hr)
    have HT := Lib.hid htab
    have hct := conc_truth
    generalize decide (q ∈ ps) = r at HL HCT
    clear hv hv' htab hok hok' hps hpv hcc hK hif hr h3 h2 h1 hvs hlen
    go_enter Tryz.func94, Tryz.ntmps94
    go_wp2_with fail
    refine HCT.out.mono ?_
    rintro e w1 ⟨rfl, hb1⟩
    have HB1 := Lib.hid (HB0.out.trans (hb1.mono HB0.out.size)); clear hb1
    go_wp2
    go_ret
    exact Res.val (S := fun _ => True) HB1.out (r := truV r) (.truth (b := r) .nil) (HT.out.keep HB1.out) (tru_ok r) HL.out

end Go.Proofs.YtipmkbahlfkfoaaGreatDoor
