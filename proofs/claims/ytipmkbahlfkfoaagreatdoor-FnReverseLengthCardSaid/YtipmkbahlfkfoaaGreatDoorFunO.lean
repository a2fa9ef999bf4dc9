/-
  The closures of ofOne, ofTwo, ofText and ofList, by their contracts.
-/
import Derived.Test.YtipmkbahlfkfoaaGreatDoorFunC
import Derived.Deep.RegionHeld3
namespace Go.Proofs.YtipmkbahlfkfoaaGreatDoor
open Go.RowKit
set_option linter.unusedVariables false

theorem Res.ret {o : Option (List Cl)} {w w' : World} {e : Ending} (h : Res o w e w') : ∃ r, e = .returned r ∧ Res o w (.returned r) w' := by
  obtain ⟨hb, ⟨rfl, ho⟩ | ⟨u, r, rfl, h1⟩⟩ := h
  · exact ⟨_, rfl, hb, .inl ⟨rfl, ho⟩⟩
  · exact ⟨_, rfl, hb, .inr ⟨u, r, rfl, h1⟩⟩
theorem Res.from {o : Option (List Cl)} {w0 w w' : World} {e : Ending} (h : Res o w e w') (hb : Below w0.heap.size w0 w) : Res o w0 e w' := ⟨hb.trans (h.1.mono hb.size), h.2⟩
theorem len_two {α : Type} {l : List α} (h : l.length = 2) : ∃ a b, l = [a, b] := by
  match l, h with
  | [a, b], _ => exact ⟨a, b, rfl⟩
noncomputable def oneL (R : List Cl → Option (List Cl)) (ls : List (List Cl)) : Option (List Cl) := match ls with | [l] => R l | _ => none
noncomputable def twoL (R : List Cl → List Cl → Option (List Cl)) (ls : List (List Cl)) : Option (List Cl) := match ls with | [l, m] => R l m | _ => none
theorem oneL_no {R : List Cl → Option (List Cl)} {ls : List (List Cl)} (h : ls.length ≠ 1) : oneL R ls = none := by
  match ls, h with
  | [], _ => rfl
  | [l], h => exact absurd rfl h
  | l :: m :: r, _ => rfl
theorem twoL_no {R : List Cl → List Cl → Option (List Cl)} {ls : List (List Cl)} (h : ls.length ≠ 2) : twoL R ls = none := by
  match ls, h with
  | [], _ => rfl
  | [l], _ => rfl
  | [l, m], h => exact absurd rfl h
  | l :: m :: n :: r, _ => rfl

set_option maxRecDepth 100000 in
set_option maxHeartbeats 4000000 in
theorem ofOne1_any (fb B : Nat) (F : Value) (R : List Cl → Option (List Cl)) (v : Value) (us : List Value) (ls : List (List Cl)) (w : World) (hc : w.cell? ⟨fb, 0, none⟩ = some F) (hF : DoesV F B w R) (hr : RowV w (fun _ => True) v us) (hv : VlS w (fun _ => True) us ls) (hok : ∀ l ∈ ls, okV l = true) (hn : ls.length ≤ 1048576) (htab : Tab w) :
    Calls Tryz.prog 130 #[v, .pointer (some ⟨fb, 0, none⟩)] w (Res (oneL R ls) w) := by
  have hlen := hv.len
  obtain ⟨ao, cap, rfl, h1, h2, h3⟩ := hr
  by_cases h1l : us.length = 1
  · obtain ⟨u, rfl⟩ := List.length_eq_one_iff.mp h1l
    obtain ⟨l, rfl⟩ := List.length_eq_one_iff.mp (hlen.symm.trans h1l)
    obtain ⟨b, o, rfl, -, hbl, cc⟩ := h3.resolve_left (by simp)
    have d0 : w.cell? ⟨b, o, none⟩ = some u := cc 0 (by simp)
    obtain ⟨K, cb, rfl, he, hcall⟩ := hF
    have HW := Lib.hid (show Below w.heap.size w w.drew from ⟨rfl, rfl, rfl, Nat.le_refl _, fun _ _ => rfl⟩)
    have HK := Lib.hid (fun w' (hb : Below w.heap.size w w') => (hcall w' u l (Up.of hb) (htab.keep hb) (hv.low hb) (hok l (by simp))).mono (fun e w'' h => h.ret))
    obtain ⟨T, x, rfl⟩ := hv.iface
    have hbf : fb < w.heap.size := World.block_lt_of_cell? w _ hc
    clear hv hok htab hcall cc h3
    go_enter Tryz.func130, Tryz.ntmps130
    go_wp2_with fail
    go_region_held3 (fun w' => w'.cell? ⟨fb, 0, none⟩ = some (.func (.func K) #[] cb) ∧ w'.cell? ⟨b, o, none⟩ = some (.iface T x))
      (first
        | go_keep
        | (go_split_ands
           refine ⟨?_, ?_⟩
           · (rw [hres.1.cell (by exact hbf)]; assumption)
           · (rw [hres.1.cell (by exact hbl)]; assumption)))
      ((refine (HK.out _ HW.out).mono ?_; rintro e w1 ⟨r, rfl, hres⟩))
    have HR := Lib.hid (hres.from HW.out); clear hres
    go_wp2
    go_ret
    exact HR.out
  · have HN := Lib.hid (oneL_no (R := R) (ls := ls) (by omega))
    have hz : ((us.length : Int) != 1) = true := bne_iff_ne.mpr (by omega)
    clear hc hF hv hok htab h3 h2 h1 hlen
    go_enter Tryz.func130, Tryz.ntmps130
    go_wp2
    go_ret
    exact Res.nil (Below.refl _ _) HN.out

set_option maxRecDepth 100000 in
set_option maxHeartbeats 4000000 in
theorem ofTwo1_any (fb B : Nat) (F : Value) (R : List Cl → List Cl → Option (List Cl)) (v : Value) (us : List Value) (ls : List (List Cl)) (w : World) (hc : w.cell? ⟨fb, 0, none⟩ = some F) (hF : DoesVV F B w R) (hr : RowV w (fun _ => True) v us) (hv : VlS w (fun _ => True) us ls) (hok : ∀ l ∈ ls, okV l = true) (hn : ls.length ≤ 1048576) (htab : Tab w) :
    Calls Tryz.prog 145 #[v, .pointer (some ⟨fb, 0, none⟩)] w (Res (twoL R ls) w) := by
  have hlen := hv.len
  obtain ⟨ao, cap, rfl, h1, h2, h3⟩ := hr
  by_cases h1l : us.length = 2
  · obtain ⟨u, u', rfl⟩ := len_two h1l
    obtain ⟨l, l', rfl⟩ := len_two (hlen.symm.trans h1l)
    obtain ⟨b, o, rfl, -, hbl, cc⟩ := h3.resolve_left (by simp)
    have d0 : w.cell? ⟨b, o, none⟩ = some u := cc 0 (by simp)
    have d1 : w.cell? ⟨b, o + 1, none⟩ = some u' := cc 1 (by simp)
    have hv0 := hv.at 0 (by simp) (by simp)
    have hv1 := hv.at 1 (by simp) (by simp)
    simp only [List.getElem_cons_zero, List.getElem_cons_succ] at hv0 hv1
    obtain ⟨K, rfl, he, hcall⟩ := hF
    have HW := Lib.hid (show Below w.heap.size w w.drew from ⟨rfl, rfl, rfl, Nat.le_refl _, fun _ _ => rfl⟩)
    have HK := Lib.hid (fun w' (hb : Below w.heap.size w w') => (hcall w' u l u' l' (Up.of hb) (htab.keep hb) (hv0.low hb) (hok l (by simp)) (hv1.low hb) (hok l' (by simp))).mono (fun e w'' h => h.ret))
    obtain ⟨T, x, rfl⟩ := hv0.iface
    obtain ⟨T2, x2, rfl⟩ := hv1.iface
    have hbf : fb < w.heap.size := World.block_lt_of_cell? w _ hc
    clear hv hv0 hv1 hok htab hcall cc h3
    go_enter Tryz.func145, Tryz.ntmps145
    go_wp2_with fail
    go_region_held3 (fun w' => w'.cell? ⟨fb, 0, none⟩ = some (.func (.func K) #[] #[]) ∧ w'.cell? ⟨b, o, none⟩ = some (.iface T x) ∧ w'.cell? ⟨b, o + 1, none⟩ = some (.iface T2 x2))
      (first
        | go_keep
        | (go_split_ands
           refine ⟨?_, ?_, ?_⟩
           · (rw [hres.1.cell (by exact hbf)]; assumption)
           · (rw [hres.1.cell (by exact hbl)]; assumption)
           · (rw [hres.1.cell (by exact hbl)]; assumption)))
      ((refine (HK.out _ HW.out).mono ?_; rintro e w1 ⟨r, rfl, hres⟩))
    have HR := Lib.hid (hres.from HW.out); clear hres
    go_wp2
    go_ret
    exact HR.out
  · have HN := Lib.hid (twoL_no (R := R) (ls := ls) (by omega))
    have hz : ((us.length : Int) != 2) = true := bne_iff_ne.mpr (by omega)
    clear hc hF hv hok htab h3 h2 h1 hlen
    go_enter Tryz.func145, Tryz.ntmps145
    go_wp2
    go_ret
    exact Res.nil (Below.refl _ _) HN.out

noncomputable def textR (f : ByteArray → ByteArray) (p : List Cl) : Option (List Cl) := if kdV p = 2 then texO (f (wdV p)) else none
noncomputable def listR5 (R : List Cl → Option (List Cl)) (p : List Cl) : Option (List Cl) := if kdV p = 5 then R p else none

set_option maxRecDepth 100000 in
set_option maxHeartbeats 4000000 in
theorem ofText1_any (fb B : Nat) (F : Value) (f : ByteArray → ByteArray) (u : Value) (p : List Cl) (w : World) (hc : w.cell? ⟨fb, 0, none⟩ = some F) (hF : DoesS F B w f) (hv : VlS w (fun _ => True) [u] [p]) (hok : okV p = true) :
    Calls Tryz.prog 131 #[u, .pointer (some ⟨fb, 0, none⟩)] w (Res (textR f p) w) := by
  obtain ⟨K, rfl, he, hsz, hcall⟩ := hF
  obtain ⟨T, x, rfl⟩ := hv.iface
  have hct := conc_text
  rcases hv.asT hok with ⟨has, hkd⟩ | ⟨s, has, hs, rfl⟩
  · have HN := Lib.hid (show textR f p = none from if_neg hkd)
    clear hc hv hok hkd hcall hsz
    go_enter Tryz.func131, Tryz.ntmps131
    go_wp2
    go_ret
    exact Res.nil (Below.refl _ _) HN.out
  · have HN := Lib.hid (show textR f [(2, s, 0)] = texO (f s) from if_pos rfl)
    have HK := Lib.hid (hcall w s (Up.refl _ _) hs)
    have hs1 : (f s).size ≤ 1048576 := by
      have := okVC_word (okV_head hok); rw [hsz]; have h2 : s.size ≤ 60 := this; omega
    generalize f s = t at HN HK hs1
    clear hv hok hcall hsz hs
    go_enter Tryz.func131, Tryz.ntmps131
    go_wp2_with fail
    refine HK.out.mono ?_
    rintro e w1 ⟨rfl, hb1⟩
    go_wp2
    go_ret
    exact Res.text hb1 t hs1 HN.out

set_option maxRecDepth 100000 in
set_option maxHeartbeats 4000000 in
theorem ofList1_any (fb B : Nat) (F : Value) (R : List Cl → Option (List Cl)) (u : Value) (p : List Cl) (w : World) (hc : w.cell? ⟨fb, 0, none⟩ = some F) (hF : DoesP F B w R) (hv : VlS w (fun _ => True) [u] [p]) (hok : okV p = true) (htab : Tab w) :
    Calls Tryz.prog 142 #[u, .pointer (some ⟨fb, 0, none⟩)] w (Res (listR5 R p) w) := by
  obtain ⟨K, rfl, he, hcall⟩ := hF
  obtain ⟨T, x, rfl⟩ := hv.iface
  rcases hv.asL hok with ⟨has, hkd⟩ | ⟨has, us, ps, hr, hvs, rfl⟩
  · have HN := Lib.hid (show listR5 R p = none from if_neg hkd)
    clear hc hv hok hkd hcall
    go_enter Tryz.func142, Tryz.ntmps142
    go_wp2
    go_ret
    exact Res.nil (Below.refl _ _) HN.out
  · have HN := Lib.hid (show listR5 R (listV ps) = R (listV ps) from if_pos rfl)
    have HK := Lib.hid ((hcall w x us ps (Up.refl _ _) htab hr hvs hok).mono (fun e w'' h => h.ret))
    clear hv hok hcall hr hvs htab
    go_enter Tryz.func142, Tryz.ntmps142
    go_wp2_with fail
    refine HK.out.mono ?_
    rintro e w1 ⟨r, rfl, hres⟩
    have HR := Lib.hid hres; clear hres
    go_wp2
    go_ret
    rw [HN.out]
    exact HR.out

end Go.Proofs.YtipmkbahlfkfoaaGreatDoor
