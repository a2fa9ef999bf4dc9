/-
  append of cells that are only read to a row of one's own.
-/
import Derived.Test.YtncehcklppakcaaGreatDoorCellRow
import Derived.Test.YtncehcklppakcaaGreatDoorFlat
namespace Go.Proofs.YtncehcklppakcaaGreatDoor
open Go.RowKit
set_option linter.unusedVariables false

theorem newsC {w : World} {b o : Nat} {l : List Cl} (h : ∀ (k : Nat) (h : k < l.length), CellAt w b o k l[k]) (j : Nat) (u : Value) (hj : (flatC l)[j]? = some u) : w.cell? ((⟨b, o, none⟩ : Addr).add j) = some u := by
  have hlt : j < l.length * 3 := by
    by_cases hk : j < l.length * 3
    · exact hk
    · rw [List.getElem?_eq_none (by rw [flatC_length]; omega)] at hj; cases hj
  obtain ⟨k, r, hr, rfl⟩ : ∃ k r, r < 3 ∧ j = k * 3 + r := ⟨j / 3, j % 3, Nat.mod_lt _ (by decide), by omega⟩
  obtain ⟨c0, c1, c2⟩ := h k (by omega)
  obtain ⟨f0, f1, f2⟩ := flatC_at l k (by omega)
  rw [addr_add]
  have h3 : r = 0 ∨ r = 1 ∨ r = 2 := by omega
  rcases h3 with rfl | rfl | rfl
  · rw [Nat.add_zero] at hj ⊢; rw [f0] at hj; rw [← hj]; exact c0
  · rw [f1] at hj; rw [← hj, ← Nat.add_assoc]; exact c1
  · rw [f2] at hj; rw [← hj, ← Nat.add_assoc]; exact c2
theorem run_append_nothing {P : Program} {w : World} (base : Nat) (t ty e : TypeId) (i : TypeInfo) (size : Nat) (ht : P.underlying t = some (.slice e)) (hi : P.info? e = some i)
    (v : Value) (n : Nat) (xs : List Value) (hown : w.ownsRow base e size v n xs) (c : Nat) :
    (Builtin.append_ #[t, t] ty #[v, .slice none 0 c]).run P w = .ok v w := by
  rcases hown.2 with ⟨rfl, rfl⟩ | ⟨g, cap, cur, rfl, _, _, hnc, _⟩
  · simp [Builtin.append_, run_underlying ht, sizeOf, typeInfo, hi, Builtin.lenOf, Builtin.firstCells]
  · simp [Builtin.append_, run_underlying ht, sizeOf, typeInfo, hi, Builtin.lenOf, Builtin.firstCells, hnc, storeCells]
theorem append_rowC {P : Program} {w : World} {ops : Array Oper} {rest : List Oper} {o : Oper} {a : Act} {Q : Exit → Act → World → Prop} (hgd : o.guard = none) (s x : Operand) (t : TypeId)
    (ho : o.op = .call { callee := .builtin .append, args := #[s, x], argTypes := #[t, t] })
    (base : Nat) (e : TypeId) (i : TypeInfo) (z : Value) (bytes : Nat) (ht : P.underlying t = some (.slice e)) (hi : P.info? e = some i) (hz : i.zero = some z)
    (hsize : i.size = 3) (hby : i.bytes = bytes) (hzs : z.cells.size = 3)
    (v : Value) (n : Nat) (xs : List Value) (hs : a.eval s = v) (hown : w.ownsRow base e 3 v n xs)
    (u : Value) (ys : List Cl) (hx : a.eval x = u) (hsrc : RowC w u ys)
    (h63 : n + ys.length ≤ maxLen) (hbytes : (n + ys.length) * bytes ≤ 140737488355328) (hbase : base ≤ w.heap.size)
    (h : ∀ v' w', w'.ownsRow base e 3 v' (n + ys.length) (xs ++ flatC ys) → w.grownBy w' v.ownBlock → wpList P ops Q rest (a.put o.dst v') w') : wpList P ops Q (o :: rest) a w := by
  obtain ⟨ao, cap, rfl, h1, h2, h3⟩ := hsrc
  cases ao with
  | none =>
    have hy : ys = [] := by
      rcases h3 with h3 | ⟨b, o', hc, -⟩
      · exact h3
      · cases hc
    subst hy
    refine wpList_plain hgd fun K hK => ?_
    have hrun := run_append_nothing (P := P) (w := w) base t o.type e i 3 ht hi v n xs hown cap
    unfold Oper.wp
    simp only [List.length_nil] at hx
    simp [execOp, ho, resolve, invoke, builtin, hs, hx, hrun, Result.andThen]
    exact hK _ _ (h v w (by simpa [flatC] using hown) (World.grownBy.refl _ _))
  | some ad =>
    refine wpList_append_own _ hgd s x t ho base e i z 3 bytes ht hi hz hsize hby hzs (by decide) v n xs hs hown ad ys.length cap (flatC ys) hx (flatC_length ys) ?_ (flatC_one ys) h63 hbytes hbase (fun v' w' a1 a2 _ => h v' w' a1 a2)
    intro j y hj
    rcases h3 with rfl | ⟨b, o', hc, hbl, cc⟩
    · simp [flatC] at hj
    · injection hc with hc
      subst hc
      exact newsC cc j y hj

end Go.Proofs.YtncehcklppakcaaGreatDoor
