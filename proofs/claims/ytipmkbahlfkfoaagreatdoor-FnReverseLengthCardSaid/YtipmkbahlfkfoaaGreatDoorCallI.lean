/-
  impl.CallFunction, by its contract.
-/
import Derived.Test.YtipmkbahlfkfoaaGreatDoorListI
import Derived.Test.YtipmkbahlfkfoaaGreatDoorFunT
namespace Go.Proofs.YtipmkbahlfkfoaaGreatDoor
open Go.RowKit
set_option linter.unusedVariables false

/-- Cells, if they are a value. -/
noncomputable def okR (r : List Cl) : List Cl := if okV r = true then r else []
theorem okR_yes {r : List Cl} (h : okV r = true) : okR r = r := if_pos h
theorem okR_no {r : List Cl} (h : okV r = false) : okR r = [] := if_neg (by rw [h]; decide)

set_option maxRecDepth 100000 in
set_option maxHeartbeats 4000000 in
/-- valueCells, at a value whose appendTo appends these cells. -/
theorem valueCells_app (u : Value) (r : List Cl) (w : World) (happ : AppOK w u r) (hz : ShortC r) (hlen : r.length ≤ 1000) (htab : Tab w) :
    Calls Tryz.prog 45 #[u] w fun e w' => ∃ v, e = .returned (.tuple #[v, .bool (okV r)]) ∧ w'.ownsRow w.heap.size 39 3 v (okR r).length (flatC (okR r)) ∧ Below w.heap.size w w' := by
  obtain ⟨T, x', K, rfl, hm, heK, hK⟩ := happ
  have HK := Lib.hid (hK w w.heap.size (.slice none 0 0) [] (Below.refl _ _) (Nat.le_refl _) (Nat.le_refl _) (World.ownsRow_nil _ _ _ _) (by simp; omega))
  have HZ := Lib.hid hz
  clear hK hz
  cases hok : okV r with
  | true =>
    have HOK := Lib.hid hok
    have HRR := Lib.hid (okR_yes hok)
    clear hok
    go_enter Tryz.func45, Tryz.ntmps45
    go_wp2_with fail
    refine HK.out.mono ?_
    rintro e w1 ⟨v1, rfl, ho1, hb1, hs1⟩
    have HO1 := Lib.hid (show w1.ownsRow w.heap.size 39 3 v1 r.length (flatC r) by simpa using ho1)
    have HB1 := Lib.hid hb1
    clear ho1 hb1
    go_wp2_with fail
    refine (valueValid_impl v1 r _ (RowC.of_own HO1.out).1 HZ.out (htab.keep HB1.out)).mono ?_
    rintro e w2 ⟨rfl, hb2⟩
    rw [HOK.out]
    have HO2 := Lib.hid (own_belowA HO1.out hb2)
    have HB2 := Lib.hid (HB1.out.trans (hb2.mono HB1.out.size)); clear hb2
    go_wp2
    exact bodyPost_ret (v := .tuple #[v1, .bool true]) (by simp [results, Tryz.results45, go_sem]) rfl ⟨v1, rfl, by rw [HRR.out]; exact HO2.out, HB2.out⟩
  | false =>
    have HOK := Lib.hid hok
    have HRR := Lib.hid (okR_no hok)
    clear hok
    go_enter Tryz.func45, Tryz.ntmps45
    go_wp2_with fail
    refine HK.out.mono ?_
    rintro e w1 ⟨v1, rfl, ho1, hb1, hs1⟩
    have HO1 := Lib.hid (show w1.ownsRow w.heap.size 39 3 v1 r.length (flatC r) by simpa using ho1)
    have HB1 := Lib.hid hb1
    clear ho1 hb1
    go_wp2_with fail
    refine (valueValid_impl v1 r _ (RowC.of_own HO1.out).1 HZ.out (htab.keep HB1.out)).mono ?_
    rintro e w2 ⟨rfl, hb2⟩
    rw [HOK.out]
    have HB2 := Lib.hid (HB1.out.trans (hb2.mono HB1.out.size)); clear hb2
    go_wp2
    exact bodyPost_ret (v := .tuple #[.slice none 0 0, .bool false]) (by simp [results, Tryz.results45, go_sem]) rfl ⟨_, rfl, by rw [HRR.out]; exact World.ownsRow_nil _ _ _ _, HB2.out⟩

theorem eqlIf (T : TypeId) (x : Value) (w : World) : (binOp BinOp.eql 67 (.iface T x) .nilIface).run Tryz.prog w = .ok (.bool false) w := by kernel_rfl
theorem eqlNo (w : World) : (binOp BinOp.eql 67 .nilIface .nilIface).run Tryz.prog w = .ok (.bool true) w := by kernel_rfl
theorem newCB_nil (w w' : World) (hb : Below w.heap.size w w') : NewCB [] false w (.returned (.tuple #[.slice none 0 0, .bool false])) w' :=
  ⟨_, rfl, World.ownsRow_nil _ _ _ _, hb⟩

set_option maxRecDepth 100000 in
set_option maxHeartbeats 4000000 in
theorem callFunction_impl (nm : ByteArray) (v : Value) (ls : List (List Cl)) (w : World) (hnm : nm.size ≤ 1048576) (hr : RowLs w v ls) (hz : ∀ l ∈ ls, ShortC l) (hl : ls.length ≤ 1048576) (htab : Tab w) :
    Calls Tryz.prog 14 #[.string nm, v] w (NewCB (callRR nm ls) (callRK nm ls) w) := by
  have HRV := Lib.hid (readValues_any v ls w hr hz hl htab)
  obtain ⟨ao, cap, rfl, h1, h2, h3⟩ := hr
  clear h3 hz
  have hzero : ∀ w, (zeroValue 62).run Tryz.prog w = .ok .nilFunc w := fun w => by kernel_rfl
  go_enter Tryz.func14, Tryz.ntmps14
  go_wp2_with fail
  refine HRV.out.mono ?_
  rintro e w1 ⟨hb1, ⟨v1, us, rfl, hall, hrow, hvs⟩ | ⟨rfl, hno⟩⟩
  · have HB1 := Lib.hid hb1
    have HT1 := Lib.hid (htab.keep hb1)
    obtain ⟨e1, e2⟩ := callRK_yes (nm := nm) hall
    have HE := Lib.hid e1; have HE2 := Lib.hid e2
    have HALL := Lib.hid hall; have HROW := Lib.hid hrow.any; have HVS := Lib.hid hvs.any
    clear hb1 hall hrow hvs e1 e2
    go_wp2_with fail
    refine (functions_any w1).mono ?_
    rintro e w2 ⟨es, rfl, hft, htb⟩
    have HFT := Lib.hid hft; have HTB := Lib.hid htb
    have HB2 := Lib.hid (HB1.out.trans (hft.2.2.mono HB1.out.size))
    have hsmall : ∀ p ∈ es.map (fun p => (p.1, p.2.1)), p.1.size ≤ maxLen := by
      refine ns_small (tableF.map (·.1)) ?_ ?_
      · rw [← htb, List.map_map]; exact List.map_congr_left fun p _ => rfl
      · decide
    have hlook := hft.1.look (P := Tryz.prog) Tryz.underlying9 Tryz.underlying64 (hzero w2) nm (by unfold maxLen; omega) hsmall
    rcases hlook with ⟨F, hmem, hrun⟩ | ⟨hnone, hrun⟩
    · obtain ⟨p, hp, hpe⟩ := List.mem_map.mp hmem
      injection hpe with hp1 hp2
      have hq : (p.1, p.2.2) ∈ tableF := by rw [← htb]; exact List.mem_map.mpr ⟨p, hp, rfl⟩
      have HCF := Lib.hid (show callF nm ls = p.2.2 ls by rw [← hp1]; exact table_all ls _ hq)
      have hdo := hft.2.1 p hp
      rw [hp2] at hdo
      generalize p.2.2 = R at hdo HCF
      obtain ⟨K, fb, rfl, heK, hcall⟩ := hdo
      have HK := Lib.hid (hcall w2 v1 us ls (Up.refl _ _) (HT1.out.keep hft.2.2) (HROW.out.low hft.2.2) (HVS.out.low hft.2.2) HALL.out hl)
      have HTB2 := Lib.hid (HT1.out.keep hft.2.2)
      clear hmem hft htb hsmall hcall hq hp hp1 hp2
      have q1 := fun w => eqlNo w
      go_wp2_with fail
      refine HK.out.mono ?_
      rintro e w3 ⟨hb3, ⟨rfl, hno⟩ | ⟨u, r, rfl, happ, hsh, hln, hval⟩⟩
      · have HB3 := Lib.hid (HB2.out.trans (hb3.mono HB2.out.size))
        have HN := Lib.hid (show callRK nm ls = false ∧ callRR nm ls = [] by rw [HE.out, HE2.out, callOK, callR, HCF.out, hno]; exact ⟨rfl, rfl⟩)
        clear hb3 hno
        go_wp2
        exact bodyPost_ret (v := .tuple #[.slice none 0 0, .bool false]) (by simp [results, Tryz.results14, go_sem]) rfl (by rw [HN.out.1, HN.out.2]; exact newCB_nil _ _ HB3.out)
      · have HB3 := Lib.hid (HB2.out.trans (hb3.mono HB2.out.size))
        have HT3 := Lib.hid (HTB2.out.keep hb3)
        have HN := Lib.hid (show callRK nm ls = okV r ∧ callRR nm ls = okR r by
          rw [HE.out, HE2.out, callOK, callR, HCF.out, hval]
          cases hok : okV r with
          | true => rw [okR_yes hok]; exact ⟨rfl, rfl⟩
          | false => rw [okR_no hok]; exact ⟨rfl, rfl⟩)
        have HVC := Lib.hid (valueCells_app u r w3 happ hsh hln HT3.out)
        obtain ⟨T, x, -, rfl, -⟩ := happ
        have q2 := fun w => eqlIf T x w
        generalize okV r = ok at HN HVC
        generalize okR r = rr at HN HVC
        clear hb3 hval hsh
        go_wp2_with fail
        refine HVC.out.mono ?_
        rintro e w4 ⟨v4, rfl, ho4, hb4⟩
        have HO4 := Lib.hid ho4
        have HB4 := Lib.hid (HB3.out.trans (hb4.mono HB3.out.size)); clear ho4 hb4
        have hbs := HB3.out.size
        go_wp2
        exact bodyPost_ret (v := .tuple #[v4, .bool ok]) (by simp [results, Tryz.results14, go_sem]) rfl (by rw [HN.out.1, HN.out.2]; exact ⟨v4, rfl, own_base HO4.out (fun g hg => Nat.le_trans hbs (HO4.out.lt g hg).1), HB4.out⟩)
    · have hcn : callF nm ls = none := by
        refine table_none (fun q hq he => ?_) ls
        rw [← htb] at hq
        obtain ⟨p, hp, rfl⟩ := List.mem_map.mp hq
        exact hnone (p.1, p.2.1) (List.mem_map.mpr ⟨p, hp, rfl⟩) he
      have HN := Lib.hid (show callRK nm ls = false ∧ callRR nm ls = [] by rw [HE.out, HE2.out, callOK, callR, hcn]; exact ⟨rfl, rfl⟩)
      clear hnone hft htb hsmall hcn
      go_wp2
      exact bodyPost_ret (v := .tuple #[.slice none 0 0, .bool false]) (by simp [results, Tryz.results14, go_sem]) rfl (by rw [HN.out.1, HN.out.2]; exact newCB_nil _ _ HB2.out)
  · obtain ⟨l, hl1, hl2⟩ := hno
    have HN := Lib.hid (callRK_no (nm := nm) hl1 hl2)
    have HB1 := Lib.hid hb1
    clear hl1 hl2 hb1
    go_wp2_with fail
    refine (functions_any w1).mono ?_
    rintro e w2 ⟨es, rfl, hft, htb⟩
    have HB2 := Lib.hid (HB1.out.trans (hft.2.2.mono HB1.out.size))
    have hsmall : ∀ p ∈ es.map (fun p => (p.1, p.2.1)), p.1.size ≤ maxLen := by
      refine ns_small (tableF.map (·.1)) ?_ ?_
      · rw [← htb, List.map_map]; exact List.map_congr_left fun p _ => rfl
      · decide
    have hlook := hft.1.look (P := Tryz.prog) Tryz.underlying9 Tryz.underlying64 (hzero w2) nm (by unfold maxLen; omega) hsmall
    rcases hlook with ⟨F, hmem, hrun⟩ | ⟨hnone, hrun⟩
    · clear hmem hft htb hsmall
      go_wp2
      exact bodyPost_ret (v := .tuple #[.slice none 0 0, .bool false]) (by simp [results, Tryz.results14, go_sem]) rfl (by rw [HN.out.1, HN.out.2]; exact newCB_nil _ _ HB2.out)
    · clear hnone hft htb hsmall
      go_wp2
      exact bodyPost_ret (v := .tuple #[.slice none 0 0, .bool false]) (by simp [results, Tryz.results14, go_sem]) rfl (by rw [HN.out.1, HN.out.2]; exact newCB_nil _ _ HB2.out)

end Go.Proofs.YtipmkbahlfkfoaaGreatDoor
