/-
  Cells, flat; rows of cells of one's own; append of one own row to another.
-/
import Derived.Test.YtkeinhhpikfjcaaDoorCellRow
import Derived.Laws.OwnMore
import Derived.Laws.Rows
import Derived.Laws.AppendOwnNone
namespace Go.Proofs.YtkeinhhpikfjcaaDoor
open Go.RowKit
set_option linter.unusedVariables false

/-- Cells, flat. -/
def flatC (l : List Cl) : List Value := l.flatMap fun c => [.int .i64 c.1, .string c.2.1, .int .i64 c.2.2]
theorem flatC_length (l : List Cl) : (flatC l).length = l.length * 3 := by
  induction l with
  | nil => rfl
  | cons a t ih => simp only [flatC, List.flatMap_cons, List.length_append, List.length_cons, List.length_nil] at ih ⊢; omega
theorem flatC_append (a b : List Cl) : flatC (a ++ b) = flatC a ++ flatC b := by simp [flatC]
theorem flatC_at (l : List Cl) : ∀ (k : Nat) (h : k < l.length), (flatC l)[k * 3]? = some (.int .i64 l[k].1) ∧ (flatC l)[k * 3 + 1]? = some (.string l[k].2.1) ∧ (flatC l)[k * 3 + 2]? = some (.int .i64 l[k].2.2) := by
  induction l with
  | nil => intro k h; simp at h
  | cons a t ih =>
    intro k h
    have e : flatC (a :: t) = .int .i64 a.1 :: .string a.2.1 :: .int .i64 a.2.2 :: flatC t := by simp [flatC]
    cases k with
    | zero => rw [e]; exact ⟨rfl, rfl, rfl⟩
    | succ k =>
      have hk : k < t.length := by simpa using h
      obtain ⟨h1, h2, h3⟩ := ih k hk
      rw [e, show (k + 1) * 3 = k * 3 + 3 by omega]
      exact ⟨h1, h2, h3⟩
theorem RowC.of_own {w : World} {base n : Nat} {T : TypeId} {v : Value} {l : List Cl} (ho : w.ownsRow base T 3 v n (flatC l)) : RowC w v l ∧ n = l.length := by
  have hl : l.length = n := by have := ho.1; rw [flatC_length] at this; omega
  subst hl
  refine ⟨?_, rfl⟩
  rcases ho.2 with ⟨rfl, h0⟩ | ⟨g, cap, cur, rfl, hg, hh, h1, h2, _⟩
  · exact ⟨none, 0, by rw [h0], by omega, by unfold maxLen; omega, .inl (List.length_eq_zero_iff.mp h0)⟩
  · refine ⟨_, cap, rfl, h1, h2, .inr ⟨g, 0, rfl, (ho.lt g rfl).2, fun k hk => ?_⟩⟩
    obtain ⟨f0, f1, f2⟩ := flatC_at l k hk
    refine ⟨?_, ?_, ?_⟩
    · rw [Nat.zero_add, ho.cellAt (k * 3) (by omega)]; exact f0
    · rw [Nat.zero_add, ho.cellAt (k * 3 + 1) (by omega)]; exact f1
    · rw [Nat.zero_add, ho.cellAt (k * 3 + 2) (by omega)]; exact f2
/-- New cells: a row of the call's own. -/
def NewCells (l : List Cl) (w : World) (e : Ending) (w' : World) : Prop :=
  ∃ v, e = .returned v ∧ w'.ownsRow w.heap.size 24 3 v l.length (flatC l) ∧ Below w.heap.size w w'
theorem infoC : (Tryd.prog.info? 24).map (fun i => (i.zero, i.size, i.bytes)) = some (some (.agg #[.int .i64 0, .string ByteArray.empty, .int .i64 0]), 3, 32) := by kernel_rfl
theorem addz (g j : Nat) : (⟨g, 0, none⟩ : Addr).add j = ⟨g, j, none⟩ := by
  unfold Addr.add; split <;> simp_all
theorem flatC_one (l : List Cl) : ∀ u ∈ flatC l, u.oneCell' = true := by
  intro u hu
  simp only [flatC, List.mem_flatMap] at hu
  obtain ⟨c, -, hu⟩ := hu
  simp only [List.mem_cons, List.not_mem_nil, or_false] at hu
  rcases hu with rfl | rfl | rfl <;> rfl
/-- append of all of one own row to another. -/
theorem append_rows {P : Program} {w : World} {ops : Array Oper} {rest : List Oper} {o : Oper} {a : Act} {Q : Exit → Act → World → Prop} (hgd : o.guard = none) (s x : Operand) (t : TypeId)
    (ho : o.op = .call { callee := .builtin .append, args := #[s, x], argTypes := #[t, t] })
    (base : Nat) (e : TypeId) (i : TypeInfo) (z : Value) (size bytes : Nat) (ht : P.underlying t = some (.slice e)) (hi : P.info? e = some i) (hz : i.zero = some z)
    (hsize : i.size = size) (hby : i.bytes = bytes) (hzs : z.cells.size = size) (hsz : 0 < size)
    (v : Value) (n : Nat) (xs : List Value) (hs : a.eval s = v) (hown : w.ownsRow base e size v n xs)
    (base2 : Nat) (u : Value) (m : Nat) (ys : List Value) (hx : a.eval x = u) (hsrc : w.ownsRow base2 e size u m ys) (h1 : ∀ u ∈ ys, u.oneCell' = true)
    (h63 : n + m ≤ maxLen) (hbytes : (n + m) * bytes ≤ 140737488355328) (hbase : base ≤ w.heap.size)
    (h : ∀ v' w', w'.ownsRow base e size v' (n + m) (xs ++ ys) → w.grownBy w' v.ownBlock → wpList P ops Q rest (a.put o.dst v') w') : wpList P ops Q (o :: rest) a w := by
  rcases hsrc.2 with ⟨rfl, rfl⟩ | ⟨g, cap, cur, rfl, -⟩
  · have hy : ys = [] := List.eq_nil_of_length_eq_zero (by have := hsrc.1; omega)
    subst hy
    refine wpList_append_own_none hgd s x t ho base e i size ht hi v n xs hs hown hx ?_
    exact h v w (by simpa using hown) (World.grownBy.refl _ _)
  · refine wpList_append_own _ hgd s x t ho base e i z size bytes ht hi hz hsize hby hzs hsz v n xs hs hown ⟨g, 0, none⟩ m cap ys hx hsrc.1 ?_ h1 h63 hbytes hbase (fun v' w' a1 a2 _ => h v' w' a1 a2)
    intro j y hj
    have hlt : j < ys.length := by
      by_cases hk : j < ys.length
      · exact hk
      · rw [List.getElem?_eq_none (by omega)] at hj; cases hj
    rw [addz, hsrc.cellAt j (by have := hsrc.1; omega)]; exact hj

end Go.Proofs.YtkeinhhpikfjcaaDoor
