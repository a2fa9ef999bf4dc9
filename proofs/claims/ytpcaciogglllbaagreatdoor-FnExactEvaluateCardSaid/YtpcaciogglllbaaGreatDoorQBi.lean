/- Part of the proof of FnExactEvaluate. -/
import Derived.Test.YtpcaciogglllbaaGreatDoorQBaseL
import Derived.Test.YtpcaciogglllbaaGreatDoorQEv
import Derived.Test.YtpcaciogglllbaaGreatDoorQBaseE
import Derived.Test.YtpcaciogglllbaaGreatDoorQFr
namespace Go.Proofs.YtpcaciogglllbaaGreatDoor
open Go.RowKit Go.ChangeShapes Go.WideShapes Go.Deep
set_option linter.unusedVariables false

def ArgBs (w : World) (a : Option Addr) (len cap : Nat) (env : List Bd) : Prop := env.length = len ∧ RowB w (.slice a len cap) env ∧ ∀ b ∈ env, b.1.size ≤ maxLen ∧ SizedC b.2
theorem ArgBs.of_nil (w : World) : ArgBs w none 0 0 [] := ⟨rfl, ⟨none, 0, rfl, Nat.le_refl _, by unfold maxLen; omega, .inl rfl⟩, fun _ h => by cases h⟩
theorem ArgBs.of {w : World} {x : Addr} {len cap : Nat} (f : Nat → Bd) (hl : len ≤ cap) (hm : cap ≤ maxLen)
    (hc : ∀ i, i < len → ∃ u, w.cell? (x.add (i * 2)) = some (.string (f i).1) ∧ w.cell? (x.add (i * 2 + 1)) = some u ∧ RowC w u (f i).2 ∧ (f i).1.size ≤ maxLen ∧ SizedC (f i).2) :
    ArgBs w (some x) len cap ((List.range len).map f) := by
  have hlen : ((List.range len).map f).length = len := by simp
  refine ⟨hlen, ⟨some x, cap, by rw [hlen], by rw [hlen]; exact hl, hm, ?_⟩, ?_⟩
  · by_cases h0 : len = 0
    · left; subst h0; rfl
    · right
      obtain ⟨b, off, spot⟩ := x
      obtain ⟨u0, g0, -⟩ := hc 0 (by omega)
      have hc0 := cell_low g0
      have hsp : spot = none := by
        have := hc0.1
        unfold Addr.add at this; split at this <;> simp_all
      subst hsp
      refine ⟨b, off, rfl, by have := hc0.2; rw [addr_add] at this; exact this, fun k hk => ?_⟩
      rw [hlen] at hk
      obtain ⟨u, c0, c1, c2, -⟩ := hc k hk
      rw [addr_add] at c0 c1
      simp only [List.getElem_map, List.getElem_range]
      exact ⟨u, c0, by rw [Nat.add_assoc]; exact c1, c2⟩
  · intro c hcm
    simp only [List.mem_map, List.mem_range] at hcm
    obtain ⟨i, hi, rfl⟩ := hcm
    obtain ⟨u, -, -, -, h⟩ := hc i hi
    exact h

set_option maxRecDepth 100000 in
theorem open_binds {H : Type} {enc : TypeId × Value → H} {w : World} {base : Nat} {spare : Nat → Bool} {held : Bool} {fuel : Nat} {cs : List Value} {x : DataW H × List MemPlace}
    (h : DataW.trod enc Tryz.prog w base spare held fuel 23 cs = some x) :
    cs = [.slice none 0 0] ∨ ∃ (a : Addr) (len cap : Nat) (f : Nat → Bd), cs = [.slice (some a) len cap] ∧ len ≤ cap ∧ cap ≤ maxLen ∧
      ∀ i, i < len → ∃ u, w.cell? (a.add (i * 2)) = some (.string (f i).1) ∧ w.cell? (a.add (i * 2 + 1)) = some u ∧ RowC w u (f i).2 ∧ (f i).1.size ≤ maxLen ∧ SizedC (f i).2 := by
  have hC : Tryz.prog.cellsOf 60 = 2 := by kernel_rfl
  rcases open_slice Tryz.underlying23 h with ⟨h0, -⟩ | ⟨a, len, cap, m, n, D, Pl, hcs, hb, hl, hm, hmm, hx, hi⟩
  · exact .inl h0
  · refine .inr ⟨a, len, cap, ?_⟩
    have key : ∀ i, ∃ b : Bd, i < len → ∃ u, w.cell? (a.add (i * 2)) = some (.string b.1) ∧ w.cell? (a.add (i * 2 + 1)) = some u ∧ RowC w u b.2 ∧ b.1.size ≤ maxLen ∧ SizedC b.2 := by
      intro i
      by_cases hil : i < len
      · have him : i < m := by rw [hmm]; split <;> omega
        obtain ⟨cs', hc, ht'⟩ := hi i him
        rw [hC] at hc
        obtain ⟨y0, y1, n', -, hlen, g0, g1⟩ := trod_struct2 Tryz.underlying60 ht'
        rw [hC] at hlen
        obtain ⟨_, -, hat⟩ := World.cells?_some hc
        match cs', hlen with
        | [z0, z1], _ =>
          obtain ⟨s, e0, -, hz⟩ := DataW.trod_string Tryz.underlying9 g0
          have r0 : z0 = .string s := by
            have : ([z0, z1].drop 0).take (Tryz.prog.cellsOf 9) = [z0] := by rw [show Tryz.prog.cellsOf 9 = 1 by kernel_rfl]; rfl
            rw [this] at e0; simpa using e0
          have r1 : ([z0, z1].drop 1).take (Tryz.prog.cellsOf 22) = [z1] := by rw [show Tryz.prog.cellsOf 22 = 1 by kernel_rfl]; rfl
          have g1' := g1
          rw [r1] at g1'
          have h0 := hat 0 (by omega); have h1 := hat 1 (by omega)
          simp only [List.getElem?_cons_zero, List.getElem?_cons_succ, r0] at h0 h1
          rw [Go.Deep.add_add] at h0 h1
          rcases open_cells g1' with hn | ⟨a', len', cap', f, hs, hl', hm', hc'⟩
          · obtain rfl : z1 = .slice none 0 0 := by simpa using hn
            exact ⟨(s, []), fun _ => ⟨_, h0, h1, (ArgRow.of_nil w).2.1, hz, (ArgRow.of_nil w).2.2⟩⟩
          · obtain rfl : z1 = .slice (some a') len' cap' := by simpa using hs
            have hA := ArgRow.of f hl' hm' hc'
            exact ⟨(s, (List.range len').map f), fun _ => ⟨_, h0, h1, hA.2.1, hz, hA.2.2⟩⟩
      · exact ⟨(ByteArray.empty, []), fun h => absurd h hil⟩
    refine ⟨fun i => (key i).choose, hcs, hl, hm, fun i hil => (key i).choose_spec hil⟩

end Go.Proofs.YtpcaciogglllbaaGreatDoor
namespace Go.Proofs.YtpcaciogglllbaaGreatDoor
open Go.RowKit
set_option linter.unusedVariables false

def bindF : List Bd → List Value → List Value
  | b :: env, u :: us => .string b.1 :: u :: bindF env us
  | _, _ => []
theorem bindF_length : ∀ (env : List Bd) (us : List Value), env.length = us.length → (bindF env us).length = env.length * 2 := by
  intro env
  induction env with
  | nil => intro us h; rfl
  | cons b env ih =>
    intro us h
    cases us with
    | nil => simp at h
    | cons u us => simp only [bindF, List.length_cons]; rw [ih us (by simpa using h)]; omega
theorem bindF_at : ∀ (env : List Bd) (us : List Value), env.length = us.length → ∀ (k : Nat) (h : k < env.length) (h' : k < us.length), (bindF env us)[k * 2]? = some (.string env[k].1) ∧ (bindF env us)[k * 2 + 1]? = some us[k] := by
  intro env
  induction env with
  | nil => intro us _ k h; simp at h
  | cons b env ih =>
    intro us hl k h h'
    cases us with
    | nil => simp at h'
    | cons u us =>
      cases k with
      | zero => exact ⟨rfl, rfl⟩
      | succ k =>
        simp only [bindF, show (k + 1) * 2 = k * 2 + 1 + 1 by omega, List.getElem?_cons_succ, List.getElem_cons_succ]
        exact ih us (by simpa using hl) k (by simpa using h) (by simpa using h')
theorem bindF_append : ∀ (env : List Bd) (us : List Value) (env' : List Bd) (us' : List Value), env.length = us.length → bindF (env ++ env') (us ++ us') = bindF env us ++ bindF env' us' := by
  intro env
  induction env with
  | nil => intro us env' us' h; cases us with
    | nil => rfl
    | cons u us => simp at h
  | cons b env ih =>
    intro us env' us' h
    cases us with
    | nil => simp at h
    | cons u us => simp only [List.cons_append, bindF]; rw [ih us env' us' (by simpa using h)]
structure OwnB (w : World) (base : Nat) (v : Value) (us : List Value) (env : List Bd) : Prop where
  row : w.ownsRow base 46 2 v env.length (bindF env us)
  len : us.length = env.length
  each : ∀ (k : Nat) (h : k < us.length) (h' : k < env.length), w.ownsRow base 44 3 us[k] env[k].2.length (flatC env[k].2)
  far : ∀ (k : Nat) (h : k < us.length) (b : Nat), us[k].ownBlock = some b → v.ownBlock ≠ some b
  apart : ∀ (i j : Nat) (hi : i < us.length) (hj : j < us.length) (b : Nat), us[i].ownBlock = some b → us[j].ownBlock = some b → i = j
theorem OwnB.below {w w' : World} {base : Nat} {v : Value} {us : List Value} {env : List Bd} (h : OwnB w base v us env) (hb : Below w.heap.size w w') : OwnB w' base v us env :=
  ⟨own_belowS h.row hb, h.len, fun k h1 h2 => own_belowS (h.each k h1 h2) hb, h.far, h.apart⟩
theorem OwnB.keep {w w' : World} {base : Nat} {v : Value} {us : List Value} {env : List Bd} (h : OwnB w base v us env) (hw : ∀ b, base ≤ b → b < w.heap.size → w'.heap[b]? = w.heap[b]?) : OwnB w' base v us env :=
  ⟨own_keep h.row (fun g hg => hw g (h.row.lt g hg).1 (h.row.lt g hg).2), h.len, fun k h1 h2 => own_keep (h.each k h1 h2) (fun g hg => hw g ((h.each k h1 h2).lt g hg).1 ((h.each k h1 h2).lt g hg).2), h.far, h.apart⟩
theorem OwnB.reads {w : World} {base : Nat} {v : Value} {us : List Value} {env : List Bd} (h : OwnB w base v us env) : RowB w v env := by
  obtain ⟨ao, cap, rfl⟩ := own_shape h.row
  have hl := h.len
  rcases h.row.2 with ⟨h1, h2⟩ | ⟨g, cp, cur, h1, hg, hh, hc1, hc2, _⟩
  · injection h1 with e1 e2 e3
    subst e1; subst e3
    exact ⟨none, 0, rfl, by omega, by unfold maxLen; omega, .inl (List.length_eq_zero_iff.mp h2)⟩
  · injection h1 with e1 e2 e3
    subst e1; subst e3
    refine ⟨_, cap, rfl, hc1, hc2, .inr ⟨g, 0, rfl, (h.row.lt g rfl).2, fun k hk => ?_⟩⟩
    obtain ⟨f0, f1⟩ := bindF_at env us hl.symm k hk (by omega)
    refine ⟨us[k]'(by omega), ?_, ?_, (RowC.of_own (h.each k (by omega) hk)).1⟩
    · rw [Nat.zero_add, h.row.cellAt _ (by omega)]; exact f0
    · rw [Nat.zero_add, h.row.cellAt _ (by omega)]; exact f1
theorem OwnB.lower {w : World} {base base' : Nat} {v : Value} {us : List Value} {env : List Bd} (h : OwnB w base v us env) (hb : base' ≤ base) : OwnB w base' v us env :=
  ⟨own_base h.row (fun g hg => Nat.le_trans hb (h.row.lt g hg).1), h.len, fun k h1 h2 => own_base (h.each k h1 h2) (fun g hg => Nat.le_trans hb ((h.each k h1 h2).lt g hg).1), h.far, h.apart⟩
theorem bindF_name (env : List Bd) : ∀ (us : List Value) (k : Nat) (h : k < env.length) (hl : env.length = us.length) (s : ByteArray), (bindF env us).set (k * 2) (.string s) = bindF (env.set k (s, env[k].2)) us := by
  induction env with
  | nil => intro us k h; simp at h
  | cons b env ih =>
    intro us k h hl s
    cases us with
    | nil => simp at hl
    | cons u us =>
      cases k with
      | zero => rfl
      | succ k =>
        simp only [bindF, show (k + 1) * 2 = k * 2 + 1 + 1 by omega, List.set_cons_succ, List.getElem_cons_succ]
        rw [ih us k (by simpa using h) (by simpa using hl) s]
theorem OwnB.name {w : World} {base g c : Nat} {us : List Value} {env : List Bd} (h : OwnB w base (.slice (some ⟨g, 0, none⟩) env.length c) us env) (k : Nat) (hk : k < env.length) (s : ByteArray) :
    OwnB (w.setCell ⟨g, k * 2, none⟩ (.string s)) base (.slice (some ⟨g, 0, none⟩) env.length c) us (env.set k (s, env[k].2)) := by
  have hl := h.len
  have hset : ∀ b, b ≠ g → (w.setCell ⟨g, k * 2, none⟩ (.string s)).heap[b]? = w.heap[b]? := fun b hbn => Below.heap_setCell _ _ _ _ hbn
  refine ⟨?_, by rw [List.length_set]; exact hl, ?_, h.far, h.apart⟩
  · rw [List.length_set, ← bindF_name env us k hk hl.symm s]
    exact (h.row.stored (k * 2) (.string s)).1
  · intro j hj hj'
    rw [List.length_set] at hj'
    have he : (env.set k (s, env[k].2))[j]'(by rw [List.length_set]; exact hj') = if k = j then (s, env[k].2) else env[j] := by rw [List.getElem_set]
    have h2 : ((env.set k (s, env[k].2))[j]'(by rw [List.length_set]; exact hj')).2 = env[j].2 := by
      rw [he]; split
      · rename_i e; subst e; rfl
      · rfl
    rw [h2]
    exact own_keep (h.each j hj hj') (fun b hb => hset b (fun e => h.far j hj b hb (by rw [e]; rfl)))
theorem OwnB.mark {w w' : World} {base : Nat} {v : Value} {us : List Value} {env : List Bd} (h : OwnB w base v us env) (k : Nat) (hk : k < us.length) (hk' : k < env.length) (l : List Cl) (hl : l.length = env[k].2.length)
    (hg : w.grownBy w' us[k].ownBlock) (ho : w'.ownsRow base 44 3 us[k] l.length (flatC l)) : OwnB w' base v us (env.set k (env[k].1, l)) := by
  have hb2 : bindF (env.set k (env[k].1, l)) us = bindF env us := by
    have : ∀ (env : List Bd) (us : List Value) (k : Nat) (h : k < env.length), bindF (env.set k (env[k].1, l)) us = bindF env us := by
      intro env
      induction env with
      | nil => intro us k h; simp at h
      | cons b env ih =>
        intro us k h
        cases us with
        | nil => cases k <;> rfl
        | cons u us =>
          cases k with
          | zero => rfl
          | succ k => simp only [List.set_cons_succ, List.getElem_cons_succ, bindF]; rw [ih us k (by simpa using h)]
    exact this env us k hk'
  refine ⟨?_, by rw [List.length_set]; exact h.len, ?_, h.far, h.apart⟩
  · rw [List.length_set, hb2]
    exact own_keep h.row (fun g hgv => hg.block g (h.row.lt g hgv).2 (fun he => h.far k hk g he.symm hgv))
  · intro j hj hj'
    rw [List.length_set] at hj'
    by_cases hjk : k = j
    · subst hjk
      rw [List.getElem_set_self]; exact ho
    · rw [List.getElem_set_ne hjk]
      exact own_keep (h.each j hj hj') (fun g hgj => hg.block g ((h.each j hj hj').lt g hgj).2 (fun he => hjk (h.apart k j hk hj g he.symm hgj)))
def NewB (env : List Bd) (w : World) (e : Ending) (w' : World) : Prop :=
  ∃ v us, e = .returned v ∧ OwnB w' w.heap.size v us env ∧ Below w.heap.size w w'

end Go.Proofs.YtpcaciogglllbaaGreatDoor
namespace Go.Proofs.YtpcaciogglllbaaGreatDoor
open Go.RowKit
set_option linter.unusedVariables false

theorem drewB (w : World) : Below w.heap.size w w.drew := ⟨rfl, rfl, rfl, Nat.le_refl _, fun _ _ => rfl⟩
def lenB (env : List Bd) : Nat := (env.map fun b => b.2.length).sum
theorem lenB_take (env : List Bd) (k : Nat) (h : k < env.length) : lenB (env.take (k + 1)) = lenB (env.take k) + env[k].2.length := by
  simp only [lenB]
  rw [List.take_succ_eq_append_getElem h, List.map_append, List.sum_append]
  simp
theorem lenB_le (env : List Bd) (k : Nat) : lenB (env.take k) ≤ lenB env := by
  simp only [lenB]
  conv => rhs; rw [← List.take_append_drop k env, List.map_append, List.sum_append]
  omega
theorem lenB_in (env : List Bd) (k : Nat) (h : k < env.length) : env[k].2.length ≤ lenB env := by
  have := lenB_take env k h
  have := lenB_le env (k + 1)
  omega
def SzB1 (n : Int) (b : Bd) (e : Ending) : Prop :=
  ∃ q : Int, e = .returned (.int .i64 q) ∧ (0 ≤ q → q + (b.2.length : Int) ≤ n ∧ (b.1.size : Int) ≤ n ∧ ∀ c ∈ b.2, (c.2.1.size : Int) ≤ n)
def SzB (n : Int) (env : List Bd) (e : Ending) : Prop :=
  ∃ m : Int, e = .returned (.int .i64 m) ∧ (0 ≤ m → m + ((env.length : Int) + (lenB env : Int)) ≤ n ∧ ∀ b ∈ env, (b.1.size : Int) ≤ n ∧ ∀ c ∈ b.2, (c.2.1.size : Int) ≤ n)

set_option maxRecDepth 100000 in
set_option maxHeartbeats 2000000 in
theorem szBinding_any (u : Value) (b : Bd) (n : Int) (w : World) (hr : RowC w u b.2) (hz : SizedC b.2) (hs : b.1.size ≤ maxLen) (hn0 : 0 ≤ n) (hn1 : n ≤ 1048576) :
    Calls Tryz.prog 40 #[.agg #[.string b.1, u], .int .i64 n] w fun e w' => SzB1 n b e ∧ Below w.heap.size w w' := by
  obtain ⟨nm, l⟩ := b
  simp only at hr hz hs ⊢
  unfold maxLen at hs
  have HB0 := Lib.hid ((Below.refl w.heap.size w).alloc (Nat.le_refl _) (.cells #[.string nm, u] 60))
  have HR := Lib.hid (hr.mono HB0.out); have HZ := Lib.hid hz
  obtain ⟨ao, cap, rfl, -⟩ := hr
  clear hz
  by_cases hl : (nm.size : Int) ≤ n
  · go_enter Tryz.func40, Tryz.ntmps40
    go_wp2_with fail
    refine (szCellS_left _ l (n - (nm.size : Int)) _ HR.out HZ.out (by omega) (by omega)).mono ?_
    rintro e w1 ⟨⟨q, rfl, hq⟩, hb1⟩
    have HB1 := Lib.hid (HB0.out.trans (hb1.mono HB0.out.size)); clear hb1
    by_cases h0 : 0 ≤ q
    · have HQ := Lib.hid (hq h0)
      clear hq
      go_wp2
      go_ret
      obtain ⟨q1, q2⟩ := HQ.out
      exact ⟨⟨q, rfl, fun _ => ⟨by show q + (l.length : Int) ≤ n; omega, hl, fun c hc => by have := q2 c hc; omega⟩⟩, HB1.out⟩
    · clear hq
      go_wp2
      go_ret
      exact ⟨⟨-1, rfl, by omega⟩, HB1.out⟩
  · go_enter Tryz.func40, Tryz.ntmps40
    go_wp2
    go_ret
    exact ⟨⟨-1, rfl, by omega⟩, HB0.out⟩

set_option maxRecDepth 100000 in
set_option maxHeartbeats 2000000 in
theorem szBindingS_any (v : Value) (env : List Bd) (n : Int) (w : World) (hr : RowB w v env) (hz : ∀ b ∈ env, b.1.size ≤ maxLen ∧ SizedC b.2) (hn0 : 0 ≤ n) (hn1 : n ≤ 1048576) :
    Calls Tryz.prog 13 #[v, .int .i64 n] w fun e w' => SzB n env e ∧ Below w.heap.size w w' := by
  obtain ⟨ao, cap, rfl, h1, h2, h3⟩ := hr
  unfold maxLen at h2
  have H3 := Lib.hid h3; have HZ := Lib.hid hz; clear h3 hz
  by_cases hl : (env.length : Int) ≤ n
  · go_enter Tryz.func13, Tryz.ntmps13
    go_wp2
    go_loopw [1, 5] (fun a i wr => ∃ (k : Nat) (m : Int), k ≤ env.length ∧ i = .int .i64 k ∧ a = .int .i64 m ∧ 0 ≤ m ∧ m + ((env.length : Int) + (lenB (env.take k) : Int)) ≤ n ∧ (∀ b ∈ env.take k, (b.1.size : Int) ≤ n ∧ ∀ c ∈ b.2, (c.2.1.size : Int) ≤ n) ∧ Below w.heap.size w wr) (fun _ i _ => env.length - (intOf i).toNat)
    case atStart => exact ⟨0, _, Nat.zero_le _, rfl, rfl, by omega, by simp [lenB], fun c hc => by simp at hc, Below.refl _ _⟩
    case round =>
      obtain ⟨k, m, hk, rfl, rfl, hm0, hm1, hall, hb⟩ := hrel
      have HA := Lib.hid hall; have HB := Lib.hid hb; clear hall hb
      by_cases hlt : k < env.length
      · obtain ⟨b, o, rfl, hbl, cc⟩ := H3.out.resolve_left (by rintro rfl; simp at hlt)
        obtain ⟨u, c0, c1, hru⟩ := cc k hlt
        have d0 := (HB.out.cell (p := ⟨b, _, none⟩) hbl).trans c0
        have d1 := (HB.out.cell (p := ⟨b, _, none⟩) hbl).trans c1
        obtain ⟨hs, hzk⟩ := HZ.out _ (List.getElem_mem hlt)
        have HC := Lib.hid (szBinding_any u env[k] m wr (hru.mono HB.out) hzk hs hm0 (by omega))
        have HTK := Lib.hid (lenB_take env k hlt)
        have HNX := Lib.hid (show ((env[k].1.size : Int) ≤ n ∧ ∀ c ∈ env[k].2, (c.2.1.size : Int) ≤ n) → ∀ b ∈ env.take (k + 1), (b.1.size : Int) ≤ n ∧ ∀ c ∈ b.2, (c.2.1.size : Int) ≤ n by
          intro h l hc
          rw [List.take_succ_eq_append_getElem hlt, List.mem_append] at hc
          rcases hc with hc | hc
          · exact HA.out l hc
          · rw [List.mem_singleton] at hc; rw [hc]; exact h)
        clear cc c0 c1 hru hzk hs
        have hmn : m ≤ 1048576 := by omega
        have hmn2 : m ≤ n := by omega
        go_wp2_with fail
        refine HC.out.mono ?_
        rintro e w1 ⟨⟨q, rfl, hq⟩, hb1⟩
        have HB1 := Lib.hid (HB.out.trans (hb1.mono HB.out.size)); clear hb1
        by_cases hr : 0 ≤ q
        · obtain ⟨q1, q2, q3⟩ := hq hr
          have HN := Lib.hid (HNX.out ⟨by omega, fun c hc => by have := q3 c hc; omega⟩)
          have hq3 := HTK.out
          clear q2 q3 hq
          go_wp2
          go_roundw
          case rel => exact ⟨k + 1, q, by omega, by go_num, rfl, hr, by omega, HN.out, HB1.out⟩
          case measure => simp [intOf]; omega
        · clear hq
          go_wp2
          go_ret
          exact ⟨⟨-1, rfl, by omega⟩, HB1.out⟩
      · obtain rfl : k = env.length := by omega
        have HAL := Lib.hid (show ∀ b ∈ env, (b.1.size : Int) ≤ n ∧ ∀ c ∈ b.2, (c.2.1.size : Int) ≤ n by have := HA.out; rwa [List.take_of_length_le (Nat.le_refl _)] at this)
        rw [List.take_of_length_le (Nat.le_refl _)] at hm1
        go_wp2
        go_ret
        exact ⟨⟨m, rfl, fun _ => ⟨by omega, HAL.out⟩⟩, HB.out⟩
  · go_enter Tryz.func13, Tryz.ntmps13
    go_wp2
    go_ret
    exact ⟨⟨-1, rfl, by omega⟩, Below.refl _ _⟩

set_option maxRecDepth 100000 in
set_option maxHeartbeats 2000000 in
theorem eqBinding_same (s : ByteArray) (u1 u2 : Value) (l : List Cl) (w : World) (h1 : RowC w u1 l) (h2 : RowC w u2 l) :
    Calls Tryz.prog 48 #[.agg #[.string s, u1], .agg #[.string s, u2]] w fun e w' => e = .returned (.bool true) ∧ Below w.heap.size w w' := by
  have HB0 := Lib.hid (((Below.refl w.heap.size w).alloc (Nat.le_refl _) (.cells #[.string s, u1] 46)).alloc (by simp) (.cells #[.string s, u2] 46))
  have HC := Lib.hid (eqCellS_same u1 u2 l _ (h1.mono HB0.out) (h2.mono HB0.out))
  obtain ⟨a1, c1, rfl, -⟩ := h1
  obtain ⟨a2, c2, rfl, -⟩ := h2
  have ht : (s.toList == s.toList) = true := by simp
  go_enter Tryz.func48, Tryz.ntmps48
  go_wp2_with fail
  refine HC.out.mono ?_
  rintro e w1 ⟨rfl, hb1⟩
  have HB1 := Lib.hid (HB0.out.trans (hb1.mono HB0.out.size)); clear hb1
  go_wp2
  go_ret
  exact ⟨rfl, HB1.out⟩

set_option maxRecDepth 100000 in
set_option maxHeartbeats 4000000 in
theorem eqBindingS_same (v1 v2 : Value) (env : List Bd) (w : World) (h1 : RowB w v1 env) (h2 : RowB w v2 env) :
    Calls Tryz.prog 19 #[v1, v2] w fun e w' => e = .returned (.bool true) ∧ Below w.heap.size w w' := by
  obtain ⟨a1, c1, rfl, l1, m1, r1⟩ := h1
  obtain ⟨a2, c2, rfl, l2, m2, r2⟩ := h2
  unfold maxLen at m1 m2
  have R1 := Lib.hid r1; have R2 := Lib.hid r2
  clear r1 r2
  go_enter Tryz.func19, Tryz.ntmps19
  go_wp2
  go_loopw [5] (fun i wr => ∃ k : Nat, k ≤ env.length ∧ i = .int .i64 (k : Int) ∧ Below w.heap.size w wr) (fun i _ => env.length - (intOf i).toNat)
  case atStart => exact ⟨0, Nat.zero_le _, rfl, Below.refl _ _⟩
  case round =>
    obtain ⟨k, hk, rfl, hb⟩ := hrel
    have HB := Lib.hid hb; clear hb
    by_cases hlt : k < env.length
    · obtain ⟨b1, o1, rfl, lt1, cc1⟩ := R1.out.resolve_left (by rintro rfl; simp at hlt)
      obtain ⟨b2, o2, rfl, lt2, cc2⟩ := R2.out.resolve_left (by rintro rfl; simp at hlt)
      obtain ⟨u1, p1, p1', x1⟩ := cc1 k hlt
      obtain ⟨u2, p2, p2', x2⟩ := cc2 k hlt
      have d1 := (HB.out.cell (p := ⟨b1, _, none⟩) lt1).trans p1
      have d2 := (HB.out.cell (p := ⟨b2, _, none⟩) lt2).trans p2
      have d3 := (HB.out.cell (p := ⟨b1, _, none⟩) lt1).trans p1'
      have d4 := (HB.out.cell (p := ⟨b2, _, none⟩) lt2).trans p2'
      have X1 := Lib.hid (x1.mono HB.out); have X2 := Lib.hid (x2.mono HB.out)
      clear cc1 cc2 p1 p2 p1' p2' x1 x2
      have bk0 : (0 : Int) ≤ (k : Int) := by omega
      have bk1 : (k : Int) < (env.length : Int) := by omega
      generalize env[k].1 = nk at d1 d2
      generalize env[k].2 = lk at X1 X2
      go_wp2_with fail
      go_region_with ((go_at_call 48; refine (eqBinding_same _ _ _ lk _ (X1.out.mono (drewB wr)) (X2.out.mono (drewB wr))).mono ?_; rintro e w1 ⟨rfl, hb1⟩))
      all_goals
        have HB2 := Lib.hid (HB.out.trans (((drewB wr).trans hb1).mono HB.out.size))
        clear hb1
        (try go_wp2)
        go_roundw
        case rel => exact ⟨k + 1, by omega, by go_num, HB2.out⟩
        case measure => simp [intOf]; omega
    · obtain rfl : k = env.length := by omega
      go_wp2
      go_ret
      exact ⟨rfl, HB.out⟩

end Go.Proofs.YtpcaciogglllbaaGreatDoor
namespace Go.Proofs.YtpcaciogglllbaaGreatDoor
open Go.RowKit
set_option linter.unusedVariables false

def Bn2 (w : World) (B : Nat) (x y : Value) : Prop := w.cell? ⟨B, 0, none⟩ = some x ∧ w.cell? ⟨B, 1, none⟩ = some y ∧ w.frozen? ⟨B, 0, none⟩ = false ∧ w.frozen? ⟨B, 1, none⟩ = false ∧ B < w.heap.size
theorem Bn2.keep {W w1 : World} {B : Nat} {x y : Value} (h : Bn2 W B x y) (hb : Below W.heap.size W w1) : Bn2 w1 B x y := by
  obtain ⟨h1, h2, h3, h4, h5⟩ := h
  obtain ⟨hc, hf⟩ := bcell hb
  have hs := hb.size
  exact ⟨(hc _ _ (by omega)).trans h1, (hc _ _ (by omega)).trans h2, (hf _ _ (by omega)).trans h3, (hf _ _ (by omega)).trans h4, by omega⟩
theorem Bn2.new (W : World) (x y : Value) (t : TypeId) : Bn2 (W.alloc (.cells #[x, y] t)) W.heap.size x y := by
  refine ⟨?_, ?_, ?_, ?_, ?_⟩ <;> simp [go_sem]
theorem Bn2.al {W : World} {B : Nat} {x y : Value} (h : Bn2 W B x y) (o : Obj) : Bn2 (W.alloc o) B x y := h.keep ((Below.refl _ W).alloc (Nat.le_refl _) _)

set_option maxRecDepth 100000 in
set_option maxHeartbeats 2000000 in
theorem toBinding_any (u : Value) (nm : ByteArray) (l : List Cl) (w : World) (hr : RowC w u l) (hl : l.length ≤ 1048576) :
    Calls Tryz.prog 43 #[.agg #[.string nm, u]] w fun e w' => ∃ u', e = .returned (.agg #[.string nm, u']) ∧ w'.ownsRow w.heap.size 44 3 u' l.length (flatC l) ∧ Below w.heap.size w w' := by
  have HB0 := Lib.hid ((((Below.refl w.heap.size w).alloc (Nat.le_refl _) (.cells #[.string nm, u] 60)).alloc (by simp) (.cells #[.string ByteArray.empty, .slice none 0 0] 46)).alloc (by simp; omega) (.cells #[.string nm, .slice none 0 0] 46))
  have HC := Lib.hid (toCellS_any u l _ (hr.mono HB0.out) hl)
  obtain ⟨ao, cap, rfl, -⟩ := hr
  go_enter Tryz.func43, Tryz.ntmps43
  go_wp2_with fail
  refine HC.out.mono ?_
  rintro e w2 ⟨v2, rfl, ho2, hb2⟩
  have hs2 := hb2.size
  have hs3 : w.heap.size + 3 ≤ w2.heap.size := by simpa using hs2
  obtain ⟨a2, c2, rfl⟩ := own_shape ho2
  obtain ⟨x0, x1, x2, x3, -⟩ : Bn2 w2 (w.heap.size + 1) (.string ByteArray.empty) (.slice none 0 0) := by
    have := ((Bn2.new (w.alloc (.cells #[.string nm, .slice ao l.length cap] 60)) (.string ByteArray.empty) (.slice none 0 0) 46).al (.cells #[.string nm, .slice none 0 0] 46)).keep hb2
    simpa using this
  obtain ⟨y0, y1, y2, y3, -⟩ : Bn2 w2 (w.heap.size + 1 + 1) (.string nm) (.slice none 0 0) := by
    have := (Bn2.new ((w.alloc (.cells #[.string nm, .slice ao l.length cap] 60)).alloc (.cells #[.string ByteArray.empty, .slice none 0 0] 46)) (.string nm) (.slice none 0 0) 46).keep hb2
    simpa using this
  have HB2 := Lib.hid (HB0.out.trans (hb2.mono (by simp; omega)))
  have hou : ∀ g, (Value.slice a2 l.length c2).ownBlock = some g → w.heap.size + 3 ≤ g := fun g hg => by have := (ho2.lt g hg).1; simpa using this
  have HOU := Lib.hid hou
  have HO2 := Lib.hid ho2
  have HBE := Lib.hid (((HB2.out.setCell (p := ⟨w.heap.size + 1 + 1, 1, none⟩) (by show w.heap.size ≤ w.heap.size + 1 + 1; omega) (.slice a2 l.length c2)).setCell (p := ⟨w.heap.size + 1, 0, none⟩) (by show w.heap.size ≤ w.heap.size + 1; omega) (.string nm)).setCell (p := ⟨w.heap.size + 1, 1, none⟩) (by show w.heap.size ≤ w.heap.size + 1; omega) (.slice a2 l.length c2))
  have HOE := Lib.hid (show (((w2.setCell ⟨w.heap.size + 1 + 1, 1, none⟩ (.slice a2 l.length c2)).setCell ⟨w.heap.size + 1, 0, none⟩ (.string nm)).setCell ⟨w.heap.size + 1, 1, none⟩ (.slice a2 l.length c2)).ownsRow w.heap.size 44 3 (.slice a2 l.length c2) l.length (flatC l) from
    own_base (own_keep HO2.out (fun g hg => by
      have := HOU.out g hg
      rw [Below.heap_setCell _ _ _ _ (show g ≠ w.heap.size + 1 by omega), Below.heap_setCell _ _ _ _ (show g ≠ w.heap.size + 1 by omega), Below.heap_setCell _ _ _ _ (show g ≠ w.heap.size + 1 + 1 by omega)])) (fun g hg => by have := HOU.out g hg; omega))
  clear ho2 hb2 hou hs2
  go_wp2
  exact bodyPost_ret (v := .agg #[.string nm, .slice a2 l.length c2]) (by simp [results, Tryz.results43, go_sem, x0, x1]) rfl ⟨_, rfl, HOE.out, HBE.out⟩

def FilledB (w : World) (B n : Nat) (us : List Value) (env : List Bd) (wr : World) (M : List Value) (k : Nat) : Prop :=
  us.length = k ∧ wr.ownsRow B 46 2 (.slice (some ⟨B, 0, none⟩) n n) n (bindF (env.take k) us ++ M.drop (k * 2)) ∧ Below w.heap.size w wr ∧ (∀ (j : Nat) (h : j < us.length) (h' : j < env.length), wr.ownsRow (B + 1) 44 3 us[j] env[j].2.length (flatC env[j].2)) ∧
    ∀ (i j : Nat) (hi : i < us.length) (hj : j < us.length) (b : Nat), us[i].ownBlock = some b → us[j].ownBlock = some b → i = j
theorem FilledB.next {w wr w1 : World} {B n k : Nat} {us : List Value} {env : List Bd} {M : List Value} {u : Value} (h : FilledB w B n us env wr M k) (hk : k < n) (hkl : k < env.length) (hM : M.length = n * 2) (hB : w.heap.size ≤ B) (hBl : B < wr.heap.size) (hb1 : Below wr.heap.size wr w1)
    (hu : w1.ownsRow wr.heap.size 44 3 u env[k].2.length (flatC env[k].2)) : FilledB w B n (us ++ [u]) env ((w1.setCell ⟨B, k * 2, none⟩ (.string env[k].1)).setCell ⟨B, k * 2 + 1, none⟩ u) M (k + 1) := by
  obtain ⟨h1, h2, h3, h4, h5⟩ := h
  have hs1 := hb1.size
  have hset : ∀ b, b ≠ B → ((w1.setCell ⟨B, k * 2, none⟩ (.string env[k].1)).setCell ⟨B, k * 2 + 1, none⟩ u).heap[b]? = w1.heap[b]? := fun b hbn => (Below.heap_setCell _ _ _ _ hbn).trans (Below.heap_setCell _ _ _ _ hbn)
  have hus : ∀ j (hj : j < us.length) b, us[j].ownBlock = some b → B + 1 ≤ b ∧ b < wr.heap.size := fun j hj b hb => (h4 j hj (by omega)).lt b hb
  have hu1 : ∀ b, u.ownBlock = some b → wr.heap.size ≤ b ∧ b < w1.heap.size := fun b hb => hu.lt b hb
  have htl : (env.take k).length = us.length := by rw [List.length_take]; omega
  have hfl : (bindF (env.take k) us).length = k * 2 := by rw [bindF_length _ _ htl, htl, h1]
  refine ⟨by simp [h1], ?_, ((h3.trans (hb1.mono h3.size)).setCell hB _).setCell hB _, ?_, ?_⟩
  · have e : ((bindF (env.take k) us ++ M.drop (k * 2)).set (k * 2) (.string env[k].1)).set (k * 2 + 1) u = bindF (env.take (k + 1)) (us ++ [u]) ++ M.drop ((k + 1) * 2) := by
      rw [List.set_append_right _ _ (by omega), hfl, Nat.sub_self, List.set_append_right _ _ (by omega), hfl, show k * 2 + 1 - k * 2 = 1 by omega, List.drop_eq_getElem_cons (by omega), List.set_cons_zero, List.drop_eq_getElem_cons (by omega), List.set_cons_succ, List.set_cons_zero,
        List.take_succ_eq_append_getElem hkl, bindF_append _ _ _ _ htl, show (k + 1) * 2 = k * 2 + 1 + 1 by omega, List.append_assoc]
      rfl
    rw [← e]
    exact ((((own_belowS h2 hb1).stored (k * 2) (.string env[k].1)).1).stored (k * 2 + 1) u).1
  · intro j hj hj'
    by_cases hlt : j < us.length
    · rw [List.getElem_append_left hlt]
      exact own_keep (h4 j hlt hj') (fun g hg => by rw [hset g (by have := hus j hlt g hg; omega), hb1.block g (hus j hlt g hg).2])
    · have : j = us.length := by simp at hj; omega
      subst this
      simp only [List.getElem_append_right (Nat.le_refl _), Nat.sub_self, List.getElem_cons_zero]
      subst h1
      exact own_base (own_keep hu (fun g hg => hset g (by have := hu1 g hg; omega))) (fun g hg => by have := hu1 g hg; omega)
  · intro i j hi hj b hbi hbj
    by_cases hli : i < us.length
    · rw [List.getElem_append_left hli] at hbi
      by_cases hlj : j < us.length
      · rw [List.getElem_append_left hlj] at hbj; exact h5 i j hli hlj b hbi hbj
      · have : j = us.length := by simp at hj; omega
        subst this
        simp only [List.getElem_append_right (Nat.le_refl _), Nat.sub_self, List.getElem_cons_zero] at hbj
        have := hus i hli b hbi; have := hu1 b hbj; omega
    · have : i = us.length := by simp at hi; omega
      subst this
      simp only [List.getElem_append_right (Nat.le_refl _), Nat.sub_self, List.getElem_cons_zero] at hbi
      by_cases hlj : j < us.length
      · rw [List.getElem_append_left hlj] at hbj
        have := hus j hlj b hbj; have := hu1 b hbi; omega
      · simp at hj; omega
theorem FilledB.done {w wr : World} {B n : Nat} {us : List Value} {env : List Bd} {M : List Value} (h : FilledB w B n us env wr M n) (hM : M.length = n * 2) (hn : env.length = n) (hB : w.heap.size ≤ B) : OwnB wr w.heap.size (.slice (some ⟨B, 0, none⟩) n n) us env := by
  obtain ⟨h1, h2, h3, h4, h5⟩ := h
  rw [List.drop_eq_nil_of_le (by omega), List.append_nil, List.take_of_length_le (by omega)] at h2
  refine ⟨by rw [hn]; exact own_base h2 (fun g hg => by have := (h2.lt g hg).1; omega), by omega, fun k hk hk' => own_base (h4 k hk hk') (fun g hg => by have := ((h4 k hk hk').lt g hg).1; omega), ?_, h5⟩
  intro k hk b hb he
  have : B = b := by simpa [Value.ownBlock] using he
  have := ((h4 k hk (by omega)).lt b hb).1
  omega

theorem infoBd : (Tryz.prog.info? 46).map (fun i => (i.zero, i.size, i.bytes)) = some (some (.agg #[.string ByteArray.empty, .slice none 0 0]), 2, 40) := by kernel_rfl

set_option maxRecDepth 100000 in
set_option maxHeartbeats 4000000 in
theorem toBindingS_any (v : Value) (env : List Bd) (w : World) (hr : RowB w v env) (hl : env.length ≤ 1048576) (hll : ∀ b ∈ env, b.2.length ≤ 1048576) :
    Calls Tryz.prog 16 #[v] w (NewB env w) := by
  obtain ⟨i0, hi, hz0, hz1, hz2⟩ := info_parts infoBd
  obtain ⟨ao, cap, rfl, h1, h2, h3⟩ := hr
  unfold maxLen at h2
  have H3 := Lib.hid h3; have HLL := Lib.hid hll; clear h3 hll
  have hby : i0.bytes * env.length ≤ 281474976710656 := by rw [hz2]; omega
  go_enter Tryz.func16, Tryz.ntmps16
  go_wp2_with (at_make; refine wpList_make_full _ rfl _ _ 30 rfl w.heap.size 46 i0 (.agg #[.string ByteArray.empty, .slice none 0 0]) 2 Tryz.underlying30 hi hz0 hz1 .i64 .i64 (env.length : Int) (env.length : Int) env.length rfl rfl rfl rfl hby (by unfold maxLen; omega) (Nat.le_refl _) ?_; intro w1 hown1 hgrow1)
  have hM : (madeCells (Value.agg #[.string ByteArray.empty, .slice none 0 0]).cells (env.length * 2)).toList.length = env.length * 2 := by have := hown1.1; omega
  generalize (madeCells (Value.agg #[.string ByteArray.empty, .slice none 0 0]).cells (env.length * 2)).toList = M at hown1 hM
  have B1 := Lib.hid ((Below.refl w.heap.size w).grown hgrow1 (Nat.le_refl _) (by simp))
  have HM := Lib.hid hM
  have O1 := Lib.hid hown1
  clear hgrow1 hM hown1 hby
  go_wp2_with fail
  go_loopw [4] (fun i wr => ∃ (k : Nat) (us : List Value), k ≤ env.length ∧ i = .int .i64 (k : Int) ∧ FilledB w w.heap.size env.length us env wr M k) (fun i _ => env.length - (intOf i).toNat)
  case atStart => exact ⟨0, [], Nat.zero_le _, rfl, rfl, by simpa [bindF] using O1.out, B1.out, fun j h => by simp at h, fun i j h => by simp at h⟩
  case round =>
    obtain ⟨k, us, hk, rfl, hf⟩ := hrel
    have HF := Lib.hid hf; clear hf
    by_cases hlt : k < env.length
    · obtain ⟨b, o, rfl, hbl, cc⟩ := H3.out.resolve_left (by rintro rfl; simp at hlt)
      obtain ⟨u, c0, c1, hru⟩ := cc k hlt
      obtain ⟨hul, hro, hbw, -, -⟩ := HF.out
      have d0 := (hbw.cell (p := ⟨b, _, none⟩) hbl).trans c0
      have d1 := (hbw.cell (p := ⟨b, _, none⟩) hbl).trans c1
      have HRU := Lib.hid (hru.mono hbw)
      have hB := (hro.lt w.heap.size rfl).2
      have HRO := Lib.hid hro
      have HLK := Lib.hid (HLL.out _ (List.getElem_mem hlt))
      have HNX := Lib.hid (fun w1 u hb1 hu => HF.out.next (w1 := w1) (u := u) hlt hlt HM.out (Nat.le_refl _) hB hb1 hu)
      clear cc c0 c1 hru hro hbw hul
      go_wp2_with fail
      refine (toBinding_any u env[k].1 env[k].2 _ HRU.out HLK.out).mono ?_
      rintro e w2 ⟨v2, rfl, ho2, hb2⟩
      obtain ⟨a2, c2, rfl⟩ := own_shape ho2
      have HO2 := Lib.hid (own_belowS HRO.out hb2)
      obtain ⟨u3, g3⟩ : ∃ u, w2.cell? ⟨w.heap.size, k * 2, none⟩ = some u := by
        rw [HO2.out.cellAt (k * 2) (by omega), List.getElem?_eq_getElem (by have := HO2.out.1; omega)]; exact ⟨_, rfl⟩
      obtain ⟨u4, g4⟩ : ∃ u, w2.cell? ⟨w.heap.size, k * 2 + 1, none⟩ = some u := by
        rw [HO2.out.cellAt (k * 2 + 1) (by omega), List.getElem?_eq_getElem (by have := HO2.out.1; omega)]; exact ⟨_, rfl⟩
      have z3 := HO2.out.frozenAt (k * 2)
      have z4 := HO2.out.frozenAt (k * 2 + 1)
      have HN2 := Lib.hid (HNX.out w2 _ hb2 ho2)
      clear ho2 hb2 HNX
      go_wp2
      go_roundw
      case rel => exact ⟨k + 1, us ++ [.slice a2 env[k].2.length c2], by omega, by go_num, HN2.out⟩
      case measure => simp [intOf]; omega
    · obtain rfl : k = env.length := by omega
      have HD := Lib.hid (HF.out.done HM.out rfl (Nat.le_refl _))
      have HB := Lib.hid HF.out.2.2.1
      go_wp2
      go_ret
      exact ⟨_, us, rfl, HD.out, HB.out⟩

end Go.Proofs.YtpcaciogglllbaaGreatDoor
namespace Go.Proofs.YtpcaciogglllbaaGreatDoor
open Go.RowKit
set_option linter.unusedVariables false

structure MarkFB (base : Nat) (v : Value) (us : List Value) (w w' : World) : Prop where
  below : Below base w w'
  size : w.heap.size ≤ w'.heap.size
  rest : ∀ b, b < w.heap.size → v.ownBlock ≠ some b → (∀ u ∈ us, u.ownBlock ≠ some b) → w'.heap[b]? = w.heap[b]?
theorem MarkFB.refl (base : Nat) (v : Value) (us : List Value) (w : World) : MarkFB base v us w w := ⟨Below.refl _ _, Nat.le_refl _, fun _ _ _ _ => rfl⟩
theorem MarkFB.next {base : Nat} {v : Value} {us : List Value} {w w' w2 : World} (h : MarkFB base v us w w') {u : Value} (hg : w'.grownBy w2 u.ownBlock) (hu : u ∈ us) (hb : ∀ x, u.ownBlock = some x → base ≤ x) (hB : base ≤ w.heap.size) : MarkFB base v us w w2 :=
  ⟨h.below.grown hg (Nat.le_trans hB h.size) hb, Nat.le_trans h.size hg.size, fun b hlt hv hb => by rw [hg.block b (by have := h.size; omega) (fun e => hb u hu e.symm), h.rest b hlt hv hb]⟩
theorem MarkFB.more {base : Nat} {v : Value} {us : List Value} {w w' w2 : World} (h : MarkFB base v us w w') (hb : Below w'.heap.size w' w2) (hB : base ≤ w.heap.size) : MarkFB base v us w w2 :=
  ⟨h.below.trans (hb.mono (Nat.le_trans hB h.size)), Nat.le_trans h.size hb.size, fun b hlt hv h2 => by rw [hb.block b (by have := h.size; omega), h.rest b hlt hv h2]⟩
theorem MarkFB.cell {base g c n : Nat} {us : List Value} {w w' : World} (h : MarkFB base (.slice (some ⟨g, 0, none⟩) n c) us w w') (hg : base ≤ g) (j : Nat) (x : Value) : MarkFB base (.slice (some ⟨g, 0, none⟩) n c) us w (w'.setCell ⟨g, j, none⟩ x) :=
  ⟨h.below.setCell hg _, by have := h.size; simpa [World.setCell] using this, fun b hlt hv h2 => by
    rw [Below.heap_setCell _ _ _ _ (show b ≠ g from fun e => hv (by rw [e]; rfl)), h.rest b hlt hv h2]⟩
theorem OwnB.nameN {w : World} {base g c n : Nat} {us : List Value} {env : List Bd} (hn : n = env.length) (h : OwnB w base (.slice (some ⟨g, 0, none⟩) n c) us env) (k : Nat) (hk : k < env.length) (s : ByteArray) :
    OwnB (w.setCell ⟨g, k * 2, none⟩ (.string s)) base (.slice (some ⟨g, 0, none⟩) n c) us (env.set k (s, env[k].2)) := by
  subst hn; exact h.name k hk s
def FormB (a b : List Bd) : Prop := a.length = b.length ∧ ∀ (j : Nat) (h : j < a.length) (h' : j < b.length), a[j].2.length = b[j].2.length
theorem FormB.set {a b : List Bd} (h : FormB a b) (k : Nat) (x : Bd) (hx : ∀ (h' : k < b.length), x.2.length = b[k].2.length) : FormB (a.set k x) b := by
  refine ⟨by rw [List.length_set]; exact h.1, fun j hj hj' => ?_⟩
  rw [List.getElem_set]
  split
  · rename_i e; subst e; exact hx hj'
  · exact h.2 j (by rw [List.length_set] at hj; exact hj) hj'

set_option maxRecDepth 100000 in
set_option maxHeartbeats 4000000 in
theorem markBindingS_any (base m : Nat) (v : Value) (us : List Value) (env : List Bd) (w : World) (hm : m ≤ 10000000) (hn : lenB env ≤ 1048576) (hc : env.length ≤ 1048576) (hB : base ≤ w.heap.size) (hown : OwnB w base v us env) :
    Calls Tryz.prog 21 #[v, .int .i64 (m : Int)] w fun e w' => e = .returned (.int .i64 ((m + env.length + lenB env * 3 : Nat) : Int)) ∧ (∃ env', FormB env' env ∧ OwnB w' base v us env') ∧ MarkFB base v us w w' := by
  have hsh := own_shape hown.row
  obtain ⟨aa, ac, rfl⟩ := hsh
  have hcap : ac ≤ 2 ^ 63 - 1 := by
    rcases hown.row.2 with ⟨h1, h2⟩ | ⟨g, cap, cur, h1, _, _, _, h4, _⟩
    · injection h1 with _ _ h3; omega
    · injection h1 with _ _ h3; unfold maxLen at h4; omega
  have HO := Lib.hid hown
  have HUL := Lib.hid hown.len
  clear hown
  go_enter Tryz.func21, Tryz.ntmps21
  go_wp2
  go_loopw [1, 5] (fun a i wr => ∃ (k q : Nat) (env' : List Bd), k ≤ env.length ∧ i = .int .i64 (k : Int) ∧ a = .int .i64 (q : Int) ∧ q = m + k + lenB (env.take k) * 3 ∧ FormB env' env ∧ OwnB wr base (.slice aa env.length ac) us env' ∧ MarkFB base (.slice aa env.length ac) us w wr) (fun _ i _ => env.length - (intOf i).toNat)
  case atStart => exact ⟨0, m, env, Nat.zero_le _, rfl, rfl, by simp [lenB], ⟨rfl, fun _ _ _ => rfl⟩, HO.out, MarkFB.refl _ _ _ _⟩
  case round =>
    obtain ⟨k, q, env', hk, rfl, rfl, hq, hfm, hown, hf⟩ := hrel
    have HOR := Lib.hid hown; have HF := Lib.hid hf; have HFM := Lib.hid hfm; have HQ := Lib.hid hq
    have hbq := lenB_le env k
    have hq1 : q ≤ 20000000 := by omega
    clear hown hf hq
    by_cases hlt : k < env.length
    · have hku : k < us.length := by rw [HUL.out]; exact hlt
      have hke : k < env'.length := by rw [hfm.1]; exact hlt
      have hrow := HOR.out.row
      obtain ⟨g, rfl⟩ : ∃ g, aa = some ⟨g, 0, none⟩ := by
        rcases hrow.2 with ⟨h1, h2⟩ | ⟨g, cap, cur, h1, _⟩
        · omega
        · injection h1 with h1 _ _; exact ⟨g, h1⟩
      have hgb := (hrow.lt g rfl).1
      have hkl : env'[k].2.length = env[k].2.length := hfm.2 k hke hlt
      have hln := lenB_in env k hlt
      have hlt2 := lenB_take env k hlt
      clear hrow
      go_wp2_with fail
      refine (markText_any q _ (by omega)).mono ?_
      rintro e w1 ⟨rfl, hb1⟩
      have HO1 := Lib.hid (HOR.out.below hb1)
      have HF1 := Lib.hid (HF.out.more hb1 hB)
      have hrow1 : w1.ownsRow base 46 2 (.slice (some ⟨g, 0, none⟩) env'.length ac) env'.length (bindF env' us) := by
        have := HO1.out.row; rwa [← hfm.1] at this
      obtain ⟨f0, f1⟩ := bindF_at env' us (by rw [hfm.1]; exact HUL.out.symm) k hke hku
      have d0 : w1.cell? ⟨g, k * 2, none⟩ = some (.string env'[k].1) := by rw [hrow1.cellAt _ (by omega)]; exact f0
      have d1 : w1.cell? ⟨g, k * 2 + 1, none⟩ = some us[k] := by rw [hrow1.cellAt _ (by omega)]; exact f1
      have z0 := hrow1.frozenAt (k * 2)
      have HN1 := Lib.hid (HO1.out.nameN hfm.1.symm k hke (markB q))
      have HF2 := Lib.hid (HF1.out.cell hgb (k * 2) (.string (markB q)))
      have he2 : ((env'.set k (markB q, env'[k].2))[k]'(by rw [List.length_set]; exact hke)).2 = env'[k].2 := by rw [List.getElem_set_self]
      have heach := HN1.out.each k hku (by rw [List.length_set]; exact hke)
      rw [he2] at heach
      have HC := Lib.hid (markCellS_full base (q + 1) us[k] env'[k].2 _ (by omega) (by omega) heach)
      have HEB := Lib.hid (fun (x : Nat) (hx : us[k].ownBlock = some x) => (heach.lt x hx).1)
      have HMEM := Lib.hid (List.getElem_mem hku)
      have hqi : ((q + 1 : Nat) : Int) = (q : Int) + 1 := by omega
      rw [hqi] at HC
      have HNX := Lib.hid (fun w' (hg : (w1.setCell ⟨g, k * 2, none⟩ (.string (markB q))).grownBy w' us[k].ownBlock) (ho : w'.ownsRow base 44 3 us[k] (marksC (q + 1) env'[k].2.length).length (flatC (marksC (q + 1) env'[k].2.length))) =>
        HN1.out.mark k hku (by rw [List.length_set]; exact hke) (marksC (q + 1) env'[k].2.length) (by rw [marksC_length, he2]) hg ho)
      have HFB := Lib.hid ((HFM.out.set k (markB q, env'[k].2) (fun _ => hkl)).set k (((env'.set k (markB q, env'[k].2))[k]'(by rw [List.length_set]; exact hke)).1, marksC (q + 1) env'[k].2.length) (fun _ => by rw [marksC_length]; exact hkl))
      clear heach hrow1 f0 f1 hqi hb1 he2
      go_wp2_with fail
      refine HC.out.mono ?_
      rintro e w3 ⟨rfl, ho3, hg3⟩
      have HO3 := Lib.hid (HNX.out w3 hg3 (by rw [marksC_length]; exact ho3))
      have HF3 := Lib.hid (HF2.out.next hg3 HMEM.out HEB.out hB)
      have hq2 : q + 1 + env'[k].2.length * 3 = m + (k + 1) + lenB (env.take (k + 1)) * 3 := by have := HQ.out; rw [hkl]; omega
      generalize hM : q + 1 + env'[k].2.length * 3 = M at hq2
      have HQ2 := Lib.hid hq2
      clear ho3 hg3 hq2 hM
      go_wp2
      go_roundw
      case rel => exact ⟨k + 1, M, _, by omega, by go_num, rfl, HQ2.out, HFB.out, HO3.out, HF3.out⟩
      case measure => simp [intOf]; omega
    · obtain rfl : k = env.length := by omega
      have hq0 := HQ.out
      rw [List.take_of_length_le (Nat.le_refl _)] at hq0
      have HQ0 := Lib.hid hq0; clear hq0
      go_wp2
      go_ret
      exact ⟨by rw [← HQ0.out]; rfl, ⟨env', HFM.out, HOR.out⟩, HF.out⟩

end Go.Proofs.YtpcaciogglllbaaGreatDoor
