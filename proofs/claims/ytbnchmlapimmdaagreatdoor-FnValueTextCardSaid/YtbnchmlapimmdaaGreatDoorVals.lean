/-
  Values in memory: an interface value of one of four kinds; those of a list lie in a slice.
-/
import Derived.Test.YtbnchmlapimmdaaGreatDoorValText
import Derived.Test.YtbnchmlapimmdaaGreatDoorCellRow
import Derived.Test.YtbnchmlapimmdaaGreatDoorFlat
namespace Go.Proofs.YtbnchmlapimmdaaGreatDoor
open Go.RowKit
set_option linter.unusedVariables false

theorem cell_block {w w' : World} {b : Nat} (h : w'.heap[b]? = w.heap[b]?) (o : Nat) : w'.cell? ⟨b, o, none⟩ = w.cell? ⟨b, o, none⟩ := by
  simp only [World.cell?, h]
/-- A slice that holds values, one a cell. -/
def RowV (w : World) (S : Nat → Prop) (v : Value) (us : List Value) : Prop :=
  ∃ ao cap, v = .slice ao us.length cap ∧ us.length ≤ cap ∧ cap ≤ maxLen ∧ (us = [] ∨ ∃ b o, ao = some ⟨b, o, none⟩ ∧ S b ∧ b < w.heap.size ∧ ∀ (k : Nat) (h : k < us.length), w.cell? ⟨b, o + k, none⟩ = some us[k])
theorem RowV.keep {w w' : World} {S S' : Nat → Prop} {v : Value} {us : List Value} (h : RowV w S v us) (hw : ∀ b, S b → b < w.heap.size → w'.heap[b]? = w.heap[b]?) (hS : ∀ b, S b → b < w.heap.size → S' b) (hs : w.heap.size ≤ w'.heap.size) : RowV w' S' v us := by
  obtain ⟨ao, cap, hv, h1, h2, h3⟩ := h
  refine ⟨ao, cap, hv, h1, h2, ?_⟩
  rcases h3 with h3 | ⟨b, o, ha, hb, hlt, hj⟩
  · exact .inl h3
  · exact .inr ⟨b, o, ha, hS b hb hlt, by omega, fun k hk => (cell_block (hw b hb hlt) _).trans (hj k hk)⟩
/-- The word of a truth. -/
def truW (b : Bool) : ByteArray := if b then ⟨#[116, 114, 117, 101]⟩ else ⟨#[102, 97, 108, 115, 101]⟩
/-- Values side by side: what cells they are. -/
inductive VlS (w : World) (S : Nat → Prop) : List Value → List (List Cl) → Prop
  | nil : VlS w S [] []
  | num {s : ByteArray} {us : List Value} {ps : List (List Cl)} : rdOK s = true → VlS w S us ps → VlS w S (.iface 131 (.agg #[.int .i64 (rdT s), .int .i64 (rdB s)]) :: us) ([(1, s, 0)] :: ps)
  | text {s : ByteArray} {us : List Value} {ps : List (List Cl)} : okC (2, s, 0) = true → VlS w S us ps → VlS w S (.iface 132 (.string s) :: us) ([(2, s, 0)] :: ps)
  | truth {b : Bool} {us : List Value} {ps : List (List Cl)} : VlS w S us ps → VlS w S (.iface 133 (.bool b) :: us) ([(3, truW b, 0)] :: ps)
  | list {v : Value} {us' us : List Value} {ps' ps : List (List Cl)} : RowV w S v us' → VlS w S us' ps' → VlS w S us ps → VlS w S (.iface 81 v :: us) (listV ps' :: ps)
theorem VlS.keep {w w' : World} {S S' : Nat → Prop} {us : List Value} {ps : List (List Cl)} (h : VlS w S us ps) (hw : ∀ b, S b → b < w.heap.size → w'.heap[b]? = w.heap[b]?) (hS : ∀ b, S b → b < w.heap.size → S' b) (hs : w.heap.size ≤ w'.heap.size) : VlS w' S' us ps := by
  induction h with
  | nil => exact .nil
  | num h1 h2 ih => exact .num h1 ih
  | text h1 h2 ih => exact .text h1 ih
  | truth h2 ih => exact .truth ih
  | list h1 h2 h3 i2 i3 => exact .list (h1.keep hw hS hs) i2 i3
theorem VlS.len {w : World} {S : Nat → Prop} {us : List Value} {ps : List (List Cl)} (h : VlS w S us ps) : us.length = ps.length := by
  induction h with
  | nil => rfl
  | num h1 h2 ih => simp [ih]
  | text h1 h2 ih => simp [ih]
  | truth h2 ih => simp [ih]
  | list h1 h2 h3 i2 i3 => simp [i3]
theorem VlS.app {w : World} {S : Nat → Prop} {us : List Value} {ps : List (List Cl)} (h : VlS w S us ps) {us2 : List Value} {ps2 : List (List Cl)} (k : VlS w S us2 ps2) : VlS w S (us ++ us2) (ps ++ ps2) := by
  induction h with
  | nil => exact k
  | num h1 h2 ih => exact .num h1 ih
  | text h1 h2 ih => exact .text h1 ih
  | truth h2 ih => exact .truth ih
  | list h1 h2 h3 i2 i3 => exact .list h1 h2 i3
theorem VlS.exs {w : World} {S : Nat → Prop} {us : List Value} {ps : List (List Cl)} (h : VlS w S us ps) : ∀ p ∈ ps, ∃ d, Exs (amL p) 1 0 p.length d := by
  induction h with
  | nil => intro p hp; cases hp
  | num h1 h2 ih =>
    intro p hp
    rcases List.mem_cons.mp hp with rfl | hp
    · exact ⟨1, Exs.one (m := 0) (by simp [amL]) (.nil _)⟩
    · exact ih p hp
  | text h1 h2 ih =>
    intro p hp
    rcases List.mem_cons.mp hp with rfl | hp
    · exact ⟨1, Exs.one (m := 0) (by simp [amL]) (.nil _)⟩
    · exact ih p hp
  | truth h2 ih =>
    intro p hp
    rcases List.mem_cons.mp hp with rfl | hp
    · exact ⟨1, Exs.one (m := 0) (by simp [amL]) (.nil _)⟩
    · exact ih p hp
  | @list v us' us ps' ps h1 h2 h3 i2 i3 =>
    intro p hp
    rcases List.mem_cons.mp hp with rfl | hp
    · have hc := cat_exs i2 [(5, ⟨#[]⟩, (ps'.length : Int))] []
      rw [List.append_nil] at hc
      have hone : Exs (amL (listV ps')) 1 0 (1 + ps'.flatten.length) (maxV ps' + 1) := Exs.one (m := ps'.length) (by simp [listV, amL]) hc
      have hlen : (listV ps').length = 1 + ps'.flatten.length := by simp [listV]; omega
      exact ⟨_, by rw [hlen]; exact hone⟩
    · exact i3 p hp
/-- The parts of a list that is a value. -/
theorem okV_parts {ps : List (List Cl)} (hx : ∀ p ∈ ps, ∃ d, Exs (amL p) 1 0 p.length d) (hok : okV (listV ps) = true) : (∀ p ∈ ps, okV p = true) ∧ partsV (listV ps) = ps := by
  have hc := cut_cat hx [(5, ⟨#[]⟩, (ps.length : Int))] []
  rw [List.append_nil] at hc
  have hp : partsV (listV ps) = ps := by
    rw [partsV, if_pos ⟨hok, _, _, rfl, rfl⟩]
    have : (amL (listV ps)).getD 0 0 = ps.length := by simp [listV, amL]
    rw [this]
    exact hc
  refine ⟨?_, hp⟩
  have := (list_partsV hok (c := (5, ⟨#[]⟩, (ps.length : Int))) (t := ps.flatten) rfl rfl).2.1
  rwa [hp] at this
/-- What is asked of every value of a row (a property of the value and its cells). -/
theorem VlS.all {w : World} {S : Nat → Prop} {P : Value → List Cl → Prop}
    (hn : ∀ s, rdOK s = true → P (.iface 131 (.agg #[.int .i64 (rdT s), .int .i64 (rdB s)])) [(1, s, 0)])
    (ht : ∀ s : ByteArray, okC (2, s, 0) = true → P (.iface 132 (.string s)) [(2, s, 0)])
    (hb : ∀ b : Bool, P (.iface 133 (.bool b)) [(3, truW b, 0)])
    (hl : ∀ v us ps, RowV w S v us → VlS w S us ps → (∀ k (h : k < us.length) (h' : k < ps.length), P us[k] ps[k]) → P (.iface 81 v) (listV ps))
    {us : List Value} {ps : List (List Cl)} (h : VlS w S us ps) : ∀ k (h : k < us.length) (h' : k < ps.length), P us[k] ps[k] := by
  induction h with
  | nil => intro k hk; simp at hk
  | num h1 h2 ih => intro k hk hk'; cases k with
    | zero => exact hn _ h1
    | succ k => exact ih k (by simpa using hk) (by simpa using hk')
  | text h1 h2 ih => intro k hk hk'; cases k with
    | zero => exact ht _ h1
    | succ k => exact ih k (by simpa using hk) (by simpa using hk')
  | truth h2 ih => intro k hk hk'; cases k with
    | zero => exact hb _
    | succ k => exact ih k (by simpa using hk) (by simpa using hk')
  | list h1 h2 h3 i2 i3 => intro k hk hk'; cases k with
    | zero => exact hl _ _ _ h1 h2 i2
    | succ k => exact i3 k (by simpa using hk) (by simpa using hk')

end Go.Proofs.YtbnchmlapimmdaaGreatDoor
