/-
  The cost of lines, plainly, for any numbers.
-/
import Derived.Test.YtbddokfcohnndaaWrapB
namespace Go.Proofs.Ytbddokfcohnndaa
set_option linter.unusedVariables false

/-- The cost of lines that are any numbers. -/
def costZ (x : Int) : List Nat → List Int → Option Nat
  | S, [] => if S = [] then some 0 else none
  | S, n :: ls => if 1 ≤ n ∧ n ≤ (fuA x S : Int) then (costZ x (S.drop n.toNat) ls).map (· + lineC x S n.toNat) else none
def costV : Option Nat → Int
  | none => -1
  | some c => (c : Int)
def costW (L : List ByteArray) (x : Int) (ls : List Int) : Int :=
  if fitB L x then costV (costZ x (szW L) ls) else -1
theorem costZ_R (x : Int) : ∀ (ls S : List Nat), costZ x S (ls.map fun (n : Nat) => (n : Int)) = (costR x S ls).bind fun p => if p.2 = [] then some p.1 else none := by
  intro ls
  induction ls with
  | nil => intro S; rfl
  | cons n ls ih =>
    intro S
    rw [List.map_cons, costZ, costR]
    by_cases h : 1 ≤ n ∧ n ≤ fuA x S
    · rw [if_pos h, if_pos (by omega), Int.toNat_natCast, ih]
      cases costR x (S.drop n) ls with
      | none => rfl
      | some p =>
        simp only [Option.bind_some, Option.map_some]
        split <;> rfl
    · rw [if_neg h, if_neg (by omega)]; rfl
theorem costZ_some {x : Int} {S ls : List Nat} {c : Nat} (h : costR x S ls = some (c, [])) : costZ x S (ls.map fun (n : Nat) => (n : Int)) = some c := by
  rw [costZ_R, h]; rfl
/-- The lines that have a cost are some numbers, at most as many as words, and have all words. -/
theorem costZ_nat (x : Int) : ∀ (ls : List Int) (S : List Nat) (c : Nat), costZ x S ls = some c → ∃ l : List Nat, ls = l.map (fun (n : Nat) => (n : Int)) ∧ costR x S l = some (c, []) := by
  intro ls
  induction ls with
  | nil =>
    intro S c h
    rw [costZ] at h
    split at h
    · rename_i e; subst e; injection h with h; subst h; exact ⟨[], rfl, rfl⟩
    · cases h
  | cons n ls ih =>
    intro S c h
    rw [costZ] at h
    split at h
    · rename_i hn
      cases hc : costZ x (S.drop n.toNat) ls with
      | none => rw [hc] at h; cases h
      | some c' =>
        rw [hc] at h
        simp only [Option.map_some, Option.some.injEq] at h
        obtain ⟨l, rfl, hl⟩ := ih _ _ hc
        refine ⟨n.toNat :: l, by rw [List.map_cons, Int.toNat_of_nonneg (by omega)], ?_⟩
        rw [← h]
        exact costR_mk (by omega) (by omega) hl
    · cases h
theorem costZ_no {x n : Int} {S : List Nat} {ls : List Int} (h : ¬ (1 ≤ n ∧ n ≤ (fuA x S : Int))) : costZ x S (n :: ls) = none := by rw [costZ, if_neg h]
theorem costZ_go {x n : Int} {S : List Nat} {ls : List Int} (h1 : 1 ≤ n) (h2 : n ≤ (fuA x S : Int)) : costZ x S (n :: ls) = (costZ x (S.drop n.toNat) ls).map (· + lineC x S n.toNat) := by rw [costZ, if_pos ⟨h1, h2⟩]
theorem costW_no {L : List ByteArray} {x : Int} {ls : List Int} (h : fitB L x = false) : costW L x ls = -1 := by rw [costW, h]; rfl
theorem costW_at {L : List ByteArray} {x : Int} {ls : List Int} (h : fitB L x = true) {r : Option Nat} (hr : costZ x (szW L) ls = r) : costW L x ls = costV r := by rw [costW, if_pos h, hr]

end Go.Proofs.Ytbddokfcohnndaa
