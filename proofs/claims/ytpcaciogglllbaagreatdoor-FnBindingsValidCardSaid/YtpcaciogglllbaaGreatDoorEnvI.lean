/-
  The values of names in a map (EnvV), and what is read of it.
-/
import Derived.Test.YtpcaciogglllbaaGreatDoorFunD
import Derived.Test.YtpcaciogglllbaaGreatDoorMapL
import Derived.Test.YtpcaciogglllbaaGreatDoorEvalPlain
namespace Go.Proofs.YtpcaciogglllbaaGreatDoor
open Go.RowKit Go.Maps Go.MapKept Go.ChangeMaps Go.WideMaps
set_option linter.unusedVariables false

/-- The map of names holds these bindings. -/
def EnvV (w : World) (S : Nat → Prop) (B : Nat) (env : List Bd) : Prop := ∃ us : List Value, MapIs w B ((env.map (·.1)).zip us) ∧ VlS w S us (env.map (·.2))
theorem EnvV.keep {w w' : World} {S S' : Nat → Prop} {B : Nat} {env : List Bd} (h : EnvV w S B env) (hb : Below w.heap.size w w') (hS : ∀ b, S b → b < w.heap.size → S' b) : EnvV w' S' B env := by
  obtain ⟨us, h1, h2⟩ := h
  exact ⟨us, h1.keep hb, h2.keep (fun b _ hl => hb.block b hl) hS hb.size⟩
theorem EnvV.low {w w' : World} {S : Nat → Prop} {B : Nat} {env : List Bd} (h : EnvV w S B env) (hb : Below w.heap.size w w') : EnvV w' S B env := h.keep hb (fun _ h _ => h)
theorem envO_atI : ∀ {env : List Bd}, diffB env → ∀ (k : Nat) (h : k < env.length), envO env env[k].1 = some env[k].2 := by
  intro env
  induction env with
  | nil => intro _ k h; simp at h
  | cons b bs ih =>
    intro hd k h
    cases k with
    | zero => show (if b.1 = b.1 then _ else _) = _; rw [if_pos rfl]; rfl
    | succ k =>
      have hk : k < bs.length := by simpa using h
      show (if b.1 = bs[k].1 then _ else envO bs bs[k].1) = some bs[k].2
      rw [if_neg (fun e => hd.1 bs[k] (List.getElem_mem hk) e.symm)]
      exact ih hd.2 k hk
theorem envO_notI : ∀ {env : List Bd} {s : ByteArray}, (∀ b ∈ env, b.1 ≠ s) → envO env s = none := by
  intro env s
  induction env with
  | nil => intro _; rfl
  | cons b bs ih =>
    intro h
    show (if b.1 = s then _ else envO bs s) = none
    rw [if_neg (h b (List.mem_cons_self ..))]
    exact ih fun x hx => h x (List.mem_cons_of_mem _ hx)
/-- What the map holds at a name. -/
theorem EnvV.at {w : World} {S : Nat → Prop} {env : List Bd} {us : List Value} (hd : diffB env) (hv : VlS w S us (env.map (·.2))) {s : ByteArray} {u : Value} (hm : (s, u) ∈ (env.map (·.1)).zip us) : ∃ p, envO env s = some p ∧ VlS w S [u] [p] := by
  obtain ⟨k, hk, he⟩ := List.mem_iff_getElem.mp hm
  have hl := hv.len
  rw [List.length_map] at hl
  rw [List.length_zip, List.length_map] at hk
  have hk1 : k < env.length := by omega
  have hk2 : k < us.length := by omega
  rw [List.getElem_zip, List.getElem_map] at he
  injection he with e1 e2
  subst e1; subst e2
  refine ⟨env[k].2, envO_atI hd k hk1, ?_⟩
  have := hv.at k hk2 (by rw [List.length_map]; exact hk1)
  rwa [List.getElem_map] at this
theorem EnvV.not {env : List Bd} {us : List Value} (hl : us.length = env.length) {s : ByteArray} (h : ∀ p ∈ (env.map (·.1)).zip us, p.1 ≠ s) : envO env s = none := by
  refine envO_notI fun b hb e => ?_
  obtain ⟨k, hk, rfl⟩ := List.mem_iff_getElem.mp hb
  have hkz : k < ((env.map (·.1)).zip us).length := by rw [List.length_zip, List.length_map]; omega
  refine h _ (List.getElem_mem hkz) ?_
  rw [List.getElem_zip, List.getElem_map]
  exact e
theorem MapIs.look1 {P : Program} {t k e : TypeId} {w : World} {b : Nat} {ns : List (ByteArray × Value)} (h : MapIs w b ns) (hk : P.underlying k = some .string) (ht : P.underlying t = some (.map k e)) {z : Value} (hz : (zeroValue e).run P w = .ok z w) (key : ByteArray) (hs : key.size ≤ maxLen) (hns : ∀ p ∈ ns, p.1.size ≤ maxLen) :
    (∃ v, (key, v) ∈ ns ∧ (Instr.lookup t (.map (some b)) (.string key) false).run P w = .ok v w) ∨
      ((∀ p ∈ ns, p.1 ≠ key) ∧ (Instr.lookup t (.map (some b)) (.string key) false).run P w = .ok z w) := by
  obtain ⟨es, clock, hb, he⟩ := h
  have K : Keyed P k := string_keyed hk
  have hkey := keyOf_string_mk (P := P) hk hs
  rcases K.find w hkey es.toList (MapIs.keys hk hns he) with ⟨h1, h2⟩ | ⟨j, e0, h1, h2, h3⟩
  · refine .inr ⟨fun p hp hpk => ?_, by simp [Instr.lookup, run_underlying ht, MapKept.run_getObj_map hb, K.check w _ hkey, h1, hz, Result.andThen]⟩
    obtain ⟨x, hx, hxk, _⟩ := MapIs.mem' he hp
    exact h2 x hx (by rw [hxk, hpk])
  · obtain ⟨s, h4, h5⟩ := MapIs.mem he (List.mem_of_getElem? h2)
    rw [h3] at h4
    injection h4 with h4
    subst h4
    exact .inl ⟨e0.val, h5, by simp [Instr.lookup, run_underlying ht, MapKept.run_getObj_map hb, K.check w _ hkey, h1, Result.andThen]⟩

end Go.Proofs.YtpcaciogglllbaaGreatDoor
