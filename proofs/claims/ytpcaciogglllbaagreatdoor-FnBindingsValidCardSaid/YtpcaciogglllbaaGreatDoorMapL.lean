/-
  A map that the call itself lays, entry by entry, keyed by texts: how it grows, and what is read of it.
-/
import Derived.Maps.Own
import Derived.Test.YtpcaciogglllbaaGreatDoorChecked
namespace Go.Proofs.YtpcaciogglllbaaGreatDoor
open Go.RowKit Go.Maps Go.MapKept Go.ChangeMaps Go.WideMaps
set_option linter.unusedVariables false

/-- A block is a map with these entries, in order. -/
def MapIs (w : World) (b : Nat) (ns : List (ByteArray × Value)) : Prop :=
  ∃ es clock, w.heap[b]? = some (.map es clock) ∧ es.toList.map (fun e => (e.key, e.val)) = ns.map (fun p => (Value.string p.1, p.2))
theorem MapIs.made (w : World) : MapIs (w.alloc (.map #[] 0)) w.heap.size [] := ⟨#[], 0, (MapKept.heap_alloc w _).1, rfl⟩
theorem MapIs.lt {w : World} {b : Nat} {ns : List (ByteArray × Value)} (h : MapIs w b ns) : b < w.heap.size := by
  obtain ⟨es, clock, hb, _⟩ := h
  exact (Array.getElem?_eq_some_iff.1 hb).1
theorem MapIs.keep {w w' : World} {b : Nat} {ns : List (ByteArray × Value)} (h : MapIs w b ns) (hb : Below w.heap.size w w') : MapIs w' b ns := by
  have hl := h.lt
  obtain ⟨es, clock, hh, he⟩ := h
  exact ⟨es, clock, (hb.block b hl).trans hh, he⟩
theorem MapIs.mem {ns : List (ByteArray × Value)} {es : Array MapEntry} (he : es.toList.map (fun e => (e.key, e.val)) = ns.map (fun p => (Value.string p.1, p.2))) {e : MapEntry} (h : e ∈ es.toList) : ∃ s, e.key = .string s ∧ (s, e.val) ∈ ns := by
  have h1 : (e.key, e.val) ∈ es.toList.map (fun e => (e.key, e.val)) := List.mem_map.mpr ⟨e, h, rfl⟩
  rw [he, List.mem_map] at h1
  obtain ⟨p, hp, h2⟩ := h1
  injection h2 with h2 h3
  exact ⟨p.1, h2.symm, by rw [← h3]; exact hp⟩
theorem MapIs.mem' {ns : List (ByteArray × Value)} {es : Array MapEntry} (he : es.toList.map (fun e => (e.key, e.val)) = ns.map (fun p => (Value.string p.1, p.2))) {p : ByteArray × Value} (h : p ∈ ns) : ∃ e ∈ es.toList, e.key = .string p.1 ∧ e.val = p.2 := by
  have h1 : (Value.string p.1, p.2) ∈ ns.map (fun p => (Value.string p.1, p.2)) := List.mem_map.mpr ⟨p, h, rfl⟩
  rw [← he, List.mem_map] at h1
  obtain ⟨e, hm, h2⟩ := h1
  injection h2 with h2 h3
  exact ⟨e, hm, h2, h3⟩
section
variable {P : Program} {t k e : TypeId} {w : World} {b : Nat} {ns : List (ByteArray × Value)}
theorem MapIs.keys {es : Array MapEntry} (hk : P.underlying k = some .string) (hns : ∀ p ∈ ns, p.1.size ≤ maxLen) (he : es.toList.map (fun e => (e.key, e.val)) = ns.map (fun p => (Value.string p.1, p.2))) : ∀ e ∈ es.toList, ∃ l, keyOf P k e.key = some l := by
  intro e hm
  obtain ⟨s, h1, h2⟩ := MapIs.mem he hm
  rw [h1]
  exact ⟨_, keyOf_string_mk hk (hns _ h2)⟩
theorem MapIs.look (h : MapIs w b ns) (hk : P.underlying k = some .string) (ht : P.underlying t = some (.map k e)) {z : Value} (hz : (zeroValue e).run P w = .ok z w) (key : ByteArray) (hs : key.size ≤ maxLen) (hns : ∀ p ∈ ns, p.1.size ≤ maxLen) :
    (∃ v, (key, v) ∈ ns ∧ (Instr.lookup t (.map (some b)) (.string key) true).run P w = .ok (.tuple #[v, .bool true]) w) ∨
      ((∀ p ∈ ns, p.1 ≠ key) ∧ (Instr.lookup t (.map (some b)) (.string key) true).run P w = .ok (.tuple #[z, .bool false]) w) := by
  obtain ⟨es, clock, hb, he⟩ := h
  have K : Keyed P k := string_keyed hk
  have hkey := keyOf_string_mk (P := P) hk hs
  rcases K.find w hkey es.toList (MapIs.keys hk hns he) with ⟨h1, h2⟩ | ⟨j, e0, h1, h2, h3⟩
  · refine .inr ⟨fun p hp hpk => ?_, by simp [Instr.lookup, run_underlying ht, MapKept.run_getObj_map hb, K.check w _ hkey, h1, hz, Result.andThen]⟩
    obtain ⟨x, hx, hxk, _⟩ := MapIs.mem' he hp
    exact h2 x hx (by rw [hxk, hpk])
  · obtain ⟨s, h4, h5⟩ := MapIs.mem he (List.mem_of_getElem? h2)
    rw [h3] at h4
    injection h4 with h4
    subst h4
    exact .inl ⟨e0.val, h5, by simp [Instr.lookup, run_underlying ht, MapKept.run_getObj_map hb, K.check w _ hkey, h1, Result.andThen]⟩
theorem MapIs.ins (h : MapIs w b ns) (hk : P.underlying k = some .string) (ht : P.underlying t = some (.map k e)) (key : ByteArray) (val : Value) (hs : key.size ≤ maxLen) (hns : ∀ p ∈ ns, p.1.size ≤ maxLen) (hnew : ∀ p ∈ ns, p.1 ≠ key) :
    ∃ w', (Instr.mapUpdate t (.map (some b)) (.string key) val).run P w = .ok () w' ∧ MapIs w' b (ns ++ [(key, val)]) ∧ w.grownBy w' (some b) := by
  obtain ⟨es, clock, hb, he⟩ := h
  have K : Keyed P k := string_keyed hk
  have hkey := keyOf_string_mk (P := P) hk hs
  rcases K.find w hkey es.toList (MapIs.keys hk hns he) with ⟨h1, h2⟩ | ⟨j, e0, h1, h2, h3⟩
  · refine ⟨setBlock w b (.map (es.push ⟨.string key, val, clock⟩) (clock + 1)), by simp [Instr.mapUpdate, run_underlying ht, MapKept.run_getObj_map hb, K.check w false hkey, h1, MapKept.run_setObj_map _ hb, Result.andThen, setBlock], ⟨_, _, heap_setBlock_same hb _, ?_⟩, ⟨rfl, rfl, rfl, by simp [setBlock], fun i _ hi => heap_setBlock_other hb _ (fun e => hi (by rw [e]))⟩⟩
    rw [Array.toList_push, List.map_append, List.map_append, he]
    rfl
  · exfalso
    obtain ⟨s, h4, h5⟩ := MapIs.mem he (List.mem_of_getElem? h2)
    rw [h3] at h4
    injection h4 with h4
    subst h4
    exact hnew _ h5 rfl
end
/-- An entry of a map's literal, at the operation. -/
theorem wpList_ins {P : Program} (w : World) {ops : Array Oper} {rest : List Oper} {o : Oper} {a : Act} {Q : Exit → Act → World → Prop}
    (hg : o.guard = none) (m x v : Operand) (t : TypeId) (hop : o.op = Op.insert t m x v) (k e : TypeId) (hk : P.underlying k = some .string) (ht : P.underlying t = some (.map k e)) (b : Nat) (ns : List (ByteArray × Value))
    (hm : a.eval m = .map (some b)) (h : MapIs w b ns) (key : ByteArray) (val : Value) (hx : a.eval x = .string key) (hv : a.eval v = val) (hs : key.size ≤ maxLen) (hns : ∀ p ∈ ns, p.1.size ≤ maxLen) (hnew : ∀ p ∈ ns, p.1 ≠ key)
    (hK : ∀ w', MapIs w' b (ns ++ [(key, val)]) → w.grownBy w' (some b) → wpList P ops Q rest (a.put o.dst undef) w') :
    wpList P ops Q (o :: rest) a w := by
  refine wpList_plain hg fun K' hK' => ?_
  obtain ⟨w', hrun, r1, r2⟩ := h.ins hk ht key val hs hns hnew
  unfold Oper.wp
  simp [execOp, hop, hm, hx, hv, hrun, Result.andThen]
  exact hK' _ _ (hK w' r1 r2)

end Go.Proofs.YtpcaciogglllbaaGreatDoor
