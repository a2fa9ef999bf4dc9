/- Part of the proof of FnExactEvaluate. -/
import Derived.Test.YtpcaciogglllbaaGreatDoorQEv
import Derived.Test.YtpcaciogglllbaaGreatDoorQFu2
import Derived.Test.YtpcaciogglllbaaGreatDoorQBaseC
namespace Go.Proofs.YtpcaciogglllbaaGreatDoor
open Go.RowKit Go.Maps Go.MapKept Go.ChangeMaps Go.WideMaps
set_option linter.unusedVariables false

def BoundD (env : List Bd) (w : World) (e : Ending) (w' : World) : Prop :=
  Below w.heap.size w w' ∧ ((∃ B, e = .returned (.tuple #[.map (some B), .bool true]) ∧ bindOK env = true ∧ EnvV w' (fun b => w.heap.size ≤ b) B env) ∨ (e = .returned (.tuple #[.map none, .bool false]) ∧ bindOK env = false))
def BI (w : World) (env : List Bd) (M k : Nat) (wr : World) : Prop :=
  ∃ us : List Value, MapIs wr M (((env.take k).map (·.1)).zip us) ∧ VlS wr (fun b => w.heap.size ≤ b ∧ b ≠ M) us ((env.take k).map (·.2)) ∧ (∀ b ∈ env.take k, nmL b.1 = true ∧ okV b.2 = true) ∧ diffB (env.take k) ∧ w.heap.size ≤ M ∧ Below w.heap.size w wr
theorem BI.next {w wr w1 w2 : World} {env : List Bd} {M k : Nat} {us : List Value} {u : Value} (hk : k < env.length) (hv : VlS wr (fun b => w.heap.size ≤ b ∧ b ≠ M) us ((env.take k).map (·.2))) (hall : ∀ b ∈ env.take k, nmL b.1 = true ∧ okV b.2 = true) (hd : diffB (env.take k)) (hM : w.heap.size ≤ M) (hMl : M < wr.heap.size) (hb : Below w.heap.size w wr)
    (hb1 : Below wr.heap.size wr w1) (hu : VlS w1 (fun b => wr.heap.size ≤ b ∧ b < w1.heap.size) [u] [env[k].2]) (hok : okV env[k].2 = true) (hn : nmL env[k].1 = true) (hnew : ∀ p ∈ ((env.take k).map (·.1)).zip us, p.1 ≠ env[k].1)
    (hm : MapIs w2 M (((env.take k).map (·.1)).zip us ++ [(env[k].1, u)])) (hg : w1.grownBy w2 (some M)) : BI w env M (k + 1) w2 := by
  have hl := hv.len
  rw [List.length_map] at hl
  have hs1 := hb1.size
  have hs2 := hg.size
  have hbw := hb.size
  have e1 : env.take (k + 1) = env.take k ++ [env[k]] := List.take_succ_eq_append_getElem hk
  have hblk : ∀ b, b < w1.heap.size → b ≠ M → w2.heap[b]? = w1.heap[b]? := fun b h1 h2 => hg.block b h1 (by simpa using h2)
  refine ⟨us ++ [u], ?_, ?_, ?_, ?_, hM, (hb.trans (hb1.mono hb.size)).grown hg (by omega) (fun j hj => by cases hj; exact hM)⟩
  · rw [e1, List.map_append, List.zip_append (by rw [List.length_map]; omega)]
    exact hm
  · rw [e1, List.map_append]
    refine VlS.app (hv.keep ?_ (fun b h _ => h) (by omega)) (hu.keep ?_ ?_ (by omega))
    · rintro b ⟨h1, h2⟩ h3
      rw [hblk b (by omega) h2, hb1.block b h3]
    · rintro b ⟨h1, h2⟩ h3
      exact hblk b h2 (by omega)
    · rintro b ⟨h1, h2⟩ -
      exact ⟨by omega, by omega⟩
  · intro b hbm
    rw [e1, List.mem_append, List.mem_singleton] at hbm
    rcases hbm with hbm | rfl
    · exact hall b hbm
    · exact ⟨hn, hok⟩
  · rw [e1, diffB_app]
    refine ⟨hd, fun x hx he => ?_⟩
    obtain ⟨j, hj, rfl⟩ := List.mem_iff_getElem.mp hx
    have hjz : j < (((env.take k).map (·.1)).zip us).length := by rw [List.length_zip, List.length_map]; omega
    refine hnew _ (List.getElem_mem hjz) ?_
    rw [List.getElem_zip, List.getElem_map]
    exact he
theorem BI.done {w wr : World} {env : List Bd} {M : Nat} (h : BI w env M env.length wr) (h30 : env.length ≤ 30) : BoundD env w (.returned (.tuple #[.map (some M), .bool true])) wr := by
  obtain ⟨us, hm, hv, hall, hd, hM, hb⟩ := h
  rw [List.take_of_length_le (Nat.le_refl _)] at hm hv hall hd
  exact ⟨hb, .inl ⟨M, rfl, (bindOK_iff env).mpr ⟨h30, hall, hd⟩, us, hm, hv.keep (fun _ _ _ => rfl) (fun b h _ => h.1) (Nat.le_refl _)⟩⟩
theorem bindOK_same2 {env : List Bd} {us : List Value} {k : Nat} (hk : k < env.length) {u : Value} (hm : (env[k].1, u) ∈ ((env.take k).map (·.1)).zip us) : bindOK env = false := by
  obtain ⟨j, hj, he⟩ := List.mem_iff_getElem.mp hm
  rw [List.length_zip, List.length_map, List.length_take] at hj
  have hjk : j < k := by omega
  rw [List.getElem_zip, List.getElem_map] at he
  injection he with e1 e2
  rw [List.getElem_take] at e1
  exact bindOK_same hk hjk e1
theorem zip_small {env : List Bd} {us : List Value} {k : Nat} (hz : ShortB env) : ∀ p ∈ ((env.take k).map (·.1)).zip us, p.1.size ≤ maxLen := by
  intro p hp
  have h1 := (List.of_mem_zip hp).1
  obtain ⟨b, hb, he⟩ := List.mem_map.mp h1
  have := (hz b (List.mem_of_mem_take hb)).1
  rw [← he]; unfold maxLen; omega

theorem kept4b {W w1 : World} (hb : Below W.heap.size W w1) {p : Addr} {v : Value} (h : W.cell? p = some v) : w1.cell? p = some v := by
  rw [hb.cell (World.block_lt_of_cell? W _ h)]; exact h
theorem wpList_upd {P : Program} (w : World) {ops : Array Oper} {rest : List Oper} {o : Oper} {a : Act} {Q : Exit → Act → World → Prop}
    (hg : o.guard = none) (m x v : Operand) (t : TypeId) (hop : o.op = Op.mapUpdate t m x v) (k e : TypeId) (hk : P.underlying k = some .string) (ht : P.underlying t = some (.map k e)) (b : Nat) (ns : List (ByteArray × Value))
    (hm : a.eval m = .map (some b)) (h : MapIs w b ns) (key : ByteArray) (val : Value) (hx : a.eval x = .string key) (hv : a.eval v = val) (hs : key.size ≤ maxLen) (hns : ∀ p ∈ ns, p.1.size ≤ maxLen) (hnew : ∀ p ∈ ns, p.1 ≠ key)
    (hK : ∀ w', MapIs w' b (ns ++ [(key, val)]) → w.grownBy w' (some b) → wpList P ops Q rest (a.put o.dst undef) w') :
    wpList P ops Q (o :: rest) a w := by
  refine wpList_plain hg fun K' hK' => ?_
  obtain ⟨w', hrun, r1, r2⟩ := h.ins hk ht key val hs hns hnew
  unfold Oper.wp
  simp [execOp, hop, hm, hx, hv, hrun, Result.andThen]
  exact hK' _ _ (hK w' r1 r2)

set_option maxRecDepth 100000 in
set_option maxHeartbeats 4000000 in
theorem boundValues_any (v : Value) (env : List Bd) (w : World) (hr : RowB w v env) (hz : ShortB env) (htab : Tab w) :
    Calls Tryz.prog 45 #[v] w (BoundD env w) := by
  have HZ := Lib.hid hz; have HT := Lib.hid htab
  have hzero : ∀ w, (zeroValue 70).run Tryz.prog w = .ok .nilIface w := fun w => by kernel_rfl
  obtain ⟨ao, cap, rfl, h1, h2, h3⟩ := hr
  unfold maxLen at h2
  have H3 := Lib.hid h3
  clear h3 hz htab
  by_cases h30 : env.length ≤ 30
  case neg =>
    have HN := Lib.hid (show bindOK env = false by rw [Bool.eq_false_iff]; intro h; exact h30 ((bindOK_iff env).mp h).1)
    go_enter Tryz.func45, Tryz.ntmps45
    go_wp2
    exact bodyPost_ret (v := .tuple #[.map none, .bool false]) (by simp [results, Tryz.results45, go_sem]) rfl ⟨Below.refl _ _, .inr ⟨rfl, HN.out⟩⟩
  have H30 := Lib.hid h30
  have HSTART := Lib.hid (show BI w env w.heap.size 0 (w.alloc (.map #[] 0)) from ⟨[], MapIs.made w, .nil, fun b h => by simp at h, by rw [List.take_zero]; trivial, Nat.le_refl _, (Below.refl _ _).alloc (Nat.le_refl _) _⟩)
  have hmm := @run_makeMap Tryz.prog
  go_enter Tryz.func45, Tryz.ntmps45
  go_wp2_with fail
  clear hmm
  go_loopw [16] (fun i wr => ∃ k : Nat, k ≤ env.length ∧ i = .int .i64 (k : Int) ∧ BI w env w.heap.size k wr) (fun i _ => env.length - (intOf i).toNat)
  case atStart => exact ⟨0, Nat.zero_le _, rfl, HSTART.out⟩
  case round =>
    obtain ⟨k, hk, rfl, hinv⟩ := hrel
    have HINV := Lib.hid hinv; clear hinv
    by_cases hlt : k < env.length
    · obtain ⟨us, hm, hv, hall, hd, hM, hbw⟩ := HINV.out
      obtain ⟨b, o, rfl, hbl, cc⟩ := H3.out.resolve_left (by rintro rfl; simp at hlt)
      obtain ⟨u, c0, c1, hru⟩ := cc k hlt
      have d0 : wr.cell? ⟨b, o + k * 2, none⟩ = some (.string env[k].1) := (hbw.cell (p := ⟨b, _, none⟩) hbl).trans c0
      have d1 : wr.cell? ⟨b, o + k * 2 + 1, none⟩ = some u := (hbw.cell (p := ⟨b, _, none⟩) hbl).trans c1
      obtain ⟨z1, z2, z3⟩ := HZ.out env[k] (List.getElem_mem hlt)
      have HNX := Lib.hid (fun w1 w2 u hb1 hu hok hn hnew hm2 hg => BI.next (w1 := w1) (w2 := w2) (u := u) hlt hv hall hd hM hm.lt hbw hb1 hu hok hn hnew hm2 hg)
      have HM := Lib.hid hm; have HBW := Lib.hid hbw
      have HRU := Lib.hid (hru.mono hbw)
      have hlook := hm.look (P := Tryz.prog) Tryz.underlying9 Tryz.underlying66 (hzero wr) env[k].1 (by unfold maxLen; omega) (zip_small HZ.out)
      have HBAD := Lib.hid (fun h => bindOK_bad (List.getElem_mem hlt) h)
      have HSAME := Lib.hid (fun u hm => bindOK_same2 (us := us) hlt (u := u) hm)
      have HZ2 := Lib.hid z2
      have HSM := Lib.hid (zip_small (us := us) (k := k) HZ.out)
      have HRV := Lib.hid (fun w' (hb : Below wr.heap.size wr w') => readValue_any u env[k].2 w' (HRU.out.mono hb) HZ2.out (HT.out.keep ((HBW.out).trans (hb.mono HBW.out.size))))
      have HNV := Lib.hid (fun w' => nameValid_impl env[k].1 w' (by unfold maxLen; omega))
      have HBA := Lib.hid ((Below.refl wr.heap.size wr).alloc (Nat.le_refl _) (.cells #[.string env[k].1, u] 46))
      have HINm := Lib.hid (show nameL env[k].1.data.toList = nmL env[k].1 from rfl)
      clear hv hall hd hbw cc c0 c1 hru z2 z3 hm
      generalize hnm : env[k].1 = nm at *
      generalize hvl : env[k].2 = vl at *
      have HMA := Lib.hid (HM.out.keep HBA.out)
      obtain ⟨aq, nq, cq, rfl⟩ : ∃ a n c, u = .slice a n c := by obtain ⟨a, c, h, _⟩ := HRU.out; exact ⟨a, _, c, h⟩
      have hlook2 := HMA.out.look (P := Tryz.prog) Tryz.underlying9 Tryz.underlying66 (hzero _) nm (by unfold maxLen; omega) HSM.out
      have q1 := fun w => eqlNo w
      clear hlook
      rcases hlook2 with ⟨uu, hmem, hrun⟩ | ⟨hnone, hrun⟩
      · have HN := Lib.hid (HSAME.out uu hmem)
        clear hmem
        go_wp2_with fail
        refine (HRV.out _ HBA.out).mono ?_
        rintro e w1 ⟨hb1, ⟨T, x, rfl, hok, hvv⟩ | ⟨rfl, hno⟩⟩
        · have HB1 := Lib.hid (HBW.out.trans ((HBA.out.trans (hb1.mono HBA.out.size)).mono HBW.out.size))
          clear hb1 hok hvv
          go_wp2
          exact bodyPost_ret (v := .tuple #[.map none, .bool false]) (by simp [results, Tryz.results45, go_sem]) rfl ⟨HB1.out, .inr ⟨rfl, HN.out⟩⟩
        · have HB1 := Lib.hid (HBW.out.trans ((HBA.out.trans (hb1.mono HBA.out.size)).mono HBW.out.size))
          clear hb1 hno
          go_wp2
          exact bodyPost_ret (v := .tuple #[.map none, .bool false]) (by simp [results, Tryz.results45, go_sem]) rfl ⟨HB1.out, .inr ⟨rfl, HN.out⟩⟩
      · have HNONE := Lib.hid hnone
        clear hnone
        go_wp2_with fail
        refine (HRV.out _ HBA.out).mono ?_
        rintro e w1 ⟨hb1, ⟨T, x, rfl, hok, hvv⟩ | ⟨rfl, hno⟩⟩
        · have HBR := Lib.hid (HBA.out.trans (hb1.mono HBA.out.size))
          have HB1 := Lib.hid (HBW.out.trans (HBR.out.mono HBW.out.size))
          have q2 := fun w => eqlIf T x w
          obtain ⟨z0, z1⟩ : w1.cell? ⟨wr.heap.size, 0, none⟩ = some (.string nm) ∧ w1.cell? ⟨wr.heap.size, 1, none⟩ = some (.slice aq nq cq) := ⟨kept4b hb1 (by simp [go_sem]), kept4b hb1 (by simp [go_sem])⟩
          have HVV := Lib.hid hvv; have HOK := Lib.hid hok
          clear hb1 hok hvv
          go_wp2_with fail
          refine (HNV.out _).mono ?_
          rintro e w2 ⟨rfl, hb2⟩
          have HB2 := Lib.hid (HB1.out.trans (hb2.mono HB1.out.size))
          have HBR2 := Lib.hid (HBR.out.trans (hb2.mono HBR.out.size))
          obtain ⟨y0, y1⟩ : w2.cell? ⟨wr.heap.size, 0, none⟩ = some (.string nm) ∧ w2.cell? ⟨wr.heap.size, 1, none⟩ = some (.slice aq nq cq) := ⟨kept4b hb2 z0, kept4b hb2 z1⟩
          have HV2 := Lib.hid ((HVV.out.keep (w' := w2) (S' := fun b => wr.heap.size ≤ b ∧ b < w2.heap.size) (fun b hb hl => hb2.block b hl) (fun b hb hl => ⟨by have := HBA.out.size; omega, by have := hb2.size; omega⟩) hb2.size))
          have HM2 := Lib.hid (HM.out.keep HBR2.out)
          clear hb2 z0 z1
          cases hnb : nameL nm.data.toList with
          | false =>
            have HN := Lib.hid (HBAD.out (.inl (HINm.out.symm.trans hnb)))
            clear hnb
            go_wp2
            exact bodyPost_ret (v := .tuple #[.map none, .bool false]) (by simp [results, Tryz.results45, go_sem]) rfl ⟨HB2.out, .inr ⟨rfl, HN.out⟩⟩
          | true =>
            have HNB := Lib.hid (HINm.out.symm.trans hnb)
            clear hnb
            go_wp2_with (refine wpList_upd _ rfl _ _ _ 66 rfl 9 70 Tryz.underlying9 Tryz.underlying66 w.heap.size _ rfl HM2.out nm (.iface T x) rfl rfl (by unfold maxLen; omega) HSM.out HNONE.out ?_; intro w3 hm hg; have HD := Lib.hid (HNX.out w2 w3 (.iface T x) HBR2.out HV2.out HOK.out HNB.out HNONE.out hm hg); clear hm hg)
            go_roundw
            case rel => exact ⟨k + 1, by omega, by go_num, HD.out⟩
            case measure => simp [intOf]; omega
        · have HB1 := Lib.hid (HBW.out.trans ((HBA.out.trans (hb1.mono HBA.out.size)).mono HBW.out.size))
          have HN := Lib.hid (HBAD.out (.inr hno))
          clear hb1 hno
          go_wp2
          exact bodyPost_ret (v := .tuple #[.map none, .bool false]) (by simp [results, Tryz.results45, go_sem]) rfl ⟨HB1.out, .inr ⟨rfl, HN.out⟩⟩
    · obtain rfl : k = env.length := by omega
      have HD := Lib.hid (HINV.out.done H30.out)
      go_wp2
      exact bodyPost_ret (v := .tuple #[.map (some w.heap.size), .bool true]) (by simp [results, Tryz.results45, go_sem]) rfl HD.out

end Go.Proofs.YtpcaciogglllbaaGreatDoor
