/- Part of the proof of FnExactEvaluate. -/
import Derived.Test.YtpcaciogglllbaaGreatDoorQBaseG
import Derived.Test.YtpcaciogglllbaaGreatDoorQBaseC
import Derived.Test.YtpcaciogglllbaaGreatDoorBaseA
import Derived.Test.YtpcaciogglllbaaGreatDoorQFun
import Derived.Test.YtpcaciogglllbaaGreatDoorQFu2
import Derived.Test.YtpcaciogglllbaaGreatDoorQBaseE
namespace Go.Proofs.YtpcaciogglllbaaGreatDoor
set_option linter.unusedVariables false

abbrev Bd := ByteArray × List Cl
def nmL (s : ByteArray) : Bool := nameL s.data.toList
def diffB : List Bd → Prop
  | [] => True
  | b :: bs => (∀ x ∈ bs, x.1 ≠ b.1) ∧ diffB bs
open Classical in
noncomputable def bindOK (env : List Bd) : Bool := decide (env.length ≤ 30) && (env.all (fun b => nmL b.1 && okV b.2) && decide (diffB env))
theorem bindOK_iff (env : List Bd) : bindOK env = true ↔ env.length ≤ 30 ∧ (∀ b ∈ env, nmL b.1 = true ∧ okV b.2 = true) ∧ diffB env := by
  unfold bindOK
  simp only [Bool.and_eq_true, decide_eq_true_eq, List.all_eq_true]
def envO : List Bd → ByteArray → Option (List Cl)
  | [], _ => none
  | b :: bs, s => if b.1 = s then some b.2 else envO bs s
theorem envO_ok {env : List Bd} (h : ∀ b ∈ env, nmL b.1 = true ∧ okV b.2 = true) {s : ByteArray} {v : List Cl} (hv : envO env s = some v) : okV v = true := by
  induction env with
  | nil => cases hv
  | cons b bs ih =>
    rw [envO] at hv
    split at hv
    · injection hv with hv; rw [← hv]; exact (h b (List.mem_cons_self ..)).2
    · exact ih (fun x hx => h x (List.mem_cons_of_mem _ hx)) hv
theorem envO_app (env : List Bd) (b : Bd) (s : ByteArray) (h : s ≠ b.1) : envO (env ++ [b]) s = envO env s := by
  induction env with
  | nil => show (if b.1 = s then _ else _) = _; rw [if_neg (fun k => h k.symm)]
  | cons x xs ih => show (if x.1 = s then _ else envO (xs ++ [b]) s) = (if x.1 = s then _ else envO xs s); rw [ih]
theorem diffB_app : ∀ (env : List Bd) (b : Bd), diffB (env ++ [b]) ↔ diffB env ∧ ∀ x ∈ env, x.1 ≠ b.1 := by
  intro env
  induction env with
  | nil => intro b; simp [diffB]
  | cons x xs ih =>
    intro b
    show ((∀ y ∈ xs ++ [b], y.1 ≠ x.1) ∧ diffB (xs ++ [b])) ↔ ((∀ y ∈ xs, y.1 ≠ x.1) ∧ diffB xs) ∧ _
    rw [ih b]
    simp only [List.mem_append, List.mem_cons, List.not_mem_nil, or_false]
    constructor
    · rintro ⟨h1, h2, h3⟩
      refine ⟨⟨fun y hy => h1 y (.inl hy), h2⟩, ?_⟩
      rintro y (rfl | hy)
      · exact fun k => h1 b (.inr rfl) k.symm
      · exact h3 y hy
    · rintro ⟨⟨h1, h2⟩, h3⟩
      refine ⟨?_, h2, fun y hy => h3 y (.inr hy)⟩
      rintro y (hy | rfl)
      · exact h1 y hy
      · exact fun k => h3 x (.inl rfl) k.symm
def aT (v : List Cl) : Int := rdT (wdV v)
def aB (v : List Cl) : Int := rdB (wdV v)
noncomputable def numO (ok : Bool) (t b : Int) : Option (List Cl) := if ok = true then some (numV t b) else none
def signW : List UInt8 → Int
  | [61, 61] => 1 | [33, 61] => 2 | [43] => 3 | [45] => 4 | [42] => 5 | [47] => 6 | [37] => 7 | [60] => 8 | [60, 61] => 9 | [62] => 10 | [62, 61] => 11 | [38, 38] => 12 | [124, 124] => 13 | _ => 0
def cmpV (a b : List Cl) : Int := cmpI (aT a * aB b) (aT b * aB a)
open Classical in
noncomputable def binK (k : Int) (a b : List Cl) : Option (List Cl) :=
  if k = 1 then some (truV (decide (a = b)))
  else if k = 2 then some (truV (decide (a ≠ b)))
  else if k = 3 ∧ kdV a = 2 ∧ kdV b = 2 then texO (wdV a ++ wdV b)
  else if k = 3 ∧ kdV a = 5 ∧ kdV b = 5 then lisO (partsV a ++ partsV b)
  else if kdV a ≠ 1 ∨ kdV b ≠ 1 then none
  else if k = 3 then numO (mkOK (aT a * aB b + aT b * aB a) (aB a * aB b)) (mkT (aT a * aB b + aT b * aB a) (aB a * aB b)) (mkB (aT a * aB b + aT b * aB a) (aB a * aB b))
  else if k = 4 then numO (mkOK (aT a * aB b + -aT b * aB a) (aB a * aB b)) (mkT (aT a * aB b + -aT b * aB a) (aB a * aB b)) (mkB (aT a * aB b + -aT b * aB a) (aB a * aB b))
  else if k = 5 then numO (mkOK (aT a * aT b) (aB a * aB b)) (mkT (aT a * aT b) (aB a * aB b)) (mkB (aT a * aT b) (aB a * aB b))
  else if k = 6 then numO (decide (aT b ≠ 0) && mkOK (divT (aT a) (aT b) (aB b)) (divB (aB a) (aT b))) (mkT (divT (aT a) (aT b) (aB b)) (divB (aB a) (aT b))) (mkB (divT (aT a) (aT b) (aB b)) (divB (aB a) (aT b)))
  else if k = 7 then (if aB a = 1 ∧ aB b = 1 ∧ 0 < aT b then some (numV (aT a % aT b) 1) else none)
  else some (truV (decide (k = 8 ∧ cmpV a b < 0 ∨ k = 9 ∧ cmpV a b ≤ 0 ∨ k = 10 ∧ 0 < cmpV a b ∨ k = 11 ∧ 0 ≤ cmpV a b)))
noncomputable def binV (word : ByteArray) (a b : List Cl) : Option (List Cl) := binK (signW word.data.toList) a b
def allO : List (Option (List Cl)) → Option (List (List Cl))
  | [] => some []
  | none :: _ => none
  | some x :: xs => (allO xs).map (x :: ·)
theorem allO_some : ∀ (xs : List (List Cl)), allO (xs.map some) = some xs := by
  intro xs
  induction xs with
  | nil => rfl
  | cons x xs ih => show (allO (xs.map some)).map (x :: ·) = _; rw [ih]; rfl
theorem allO_mem : ∀ {ks : List (Option (List Cl))} {xs : List (List Cl)}, allO ks = some xs → ks = xs.map some := by
  intro ks
  induction ks with
  | nil => intro xs h; injection h with h; subst h; rfl
  | cons k ks ih =>
    intro xs h
    cases k with
    | none => cases h
    | some x =>
      simp only [allO, Option.map_eq_some_iff] at h
      obtain ⟨ys, h1, h2⟩ := h
      subst h2
      rw [ih h1]; rfl
def trueW (v : List Cl) : Bool := (wdV v).data.toList == trueL
def falseW (v : List Cl) : Bool := (wdV v).data.toList == falseL
noncomputable def combV (env : List Bd) (c : Cl) (ks : List (Option (List Cl))) : Option (List Cl) :=
  if c.1 = 4 then envO env c.2.1
  else if c.1 = 9 then match ks with
    | [some v, x, y] => if kdV v = 3 then (if trueW v = true then x else y) else none
    | _ => none
  else if c.1 = 7 then match ks with
    | [some v] => if c.2.1.data.toList = [33] ∧ kdV v = 3 then some (truV (falseW v)) else if c.2.1.data.toList = [45] ∧ kdV v = 1 then some (numV (-aT v) (aB v)) else none
    | _ => none
  else if c.1 = 8 then match ks with
    | [some a, y] =>
      if signW c.2.1.data.toList = 12 ∨ signW c.2.1.data.toList = 13 then
        (if kdV a = 3 then
          (if trueW a = decide (signW c.2.1.data.toList = 13) then some a
          else match y with
            | some b => if kdV b = 3 then some b else none
            | none => none)
        else none)
      else match y with
        | some b => binV c.2.1 a b
        | none => none
    | _ => none
  else if c.1 = 5 then (allO ks).bind lisO
  else if c.1 = 6 then (allO ks).bind (callF c.2.1)
  else some [c]

inductive Ev (l : List Cl) (env : List Bd) : Nat → Nat → Nat → List (Option (List Cl)) → Prop
  | nil (f : Nat) : Ev l env 0 f f []
  | cons {f g n t : Nat} {c : Cl} {ks vs : List (Option (List Cl))} : l[f]? = some c → Ev l env c.2.2.toNat (f + 1) g ks → Ev l env n g t vs → Ev l env (n + 1) f t (combV env c ks :: vs)
theorem Ev.len {l : List Cl} {env : List Bd} {n f t : Nat} {vs : List (Option (List Cl))} (h : Ev l env n f t vs) : vs.length = n := by
  induction h with
  | nil f => rfl
  | cons hc h1 h2 i1 i2 => rw [List.length_cons, i2]
theorem Ev.exs {l : List Cl} {env : List Bd} {n f t : Nat} {vs : List (Option (List Cl))} (h : Ev l env n f t vs) : ∃ d, Exs (amL l) n f t d := by
  induction h with
  | nil f => exact ⟨0, .nil f⟩
  | cons hc h1 h2 i1 i2 =>
    obtain ⟨d1, i1⟩ := i1; obtain ⟨d2, i2⟩ := i2
    exact ⟨_, .cons (amL_some hc) i1 i2⟩
theorem Ev.of_exs {l : List Cl} (env : List Bd) {n f t d : Nat} (h : Exs (amL l) n f t d) : ∃ vs, Ev l env n f t vs := by
  generalize ha : amL l = am at h
  induction h with
  | nil f => exact ⟨[], .nil f⟩
  | @cons f m g d n t e hm h1 h2 i1 i2 =>
    obtain ⟨ks, k1⟩ := i1; obtain ⟨xs, k2⟩ := i2
    subst ha
    obtain ⟨c, hc, rfl⟩ := amL_get hm
    exact ⟨_, .cons hc k1 k2⟩
theorem Ev.uniq {l : List Cl} {env : List Bd} {n f t : Nat} {vs : List (Option (List Cl))} (h : Ev l env n f t vs) : ∀ {t' : Nat} {ws : List (Option (List Cl))}, Ev l env n f t' ws → t = t' ∧ vs = ws := by
  induction h with
  | nil f => intro t' ys h'; cases h'; exact ⟨rfl, rfl⟩
  | @cons f g n t c ks vs hc h1 h2 i1 i2 =>
    intro t' ys h'
    cases h' with
    | @cons _ g' _ _ c' ks' ys' hc' k1 k2 =>
      rw [hc] at hc'; injection hc' with hc'; subst hc'
      obtain ⟨rfl, rfl⟩ := i1 k1
      obtain ⟨rfl, rfl⟩ := i2 k2
      exact ⟨rfl, rfl⟩
theorem Ev.inv {l : List Cl} {env : List Bd} {f t : Nat} {v : Option (List Cl)} (h : Ev l env 1 f t [v]) : ∃ c ks, l[f]? = some c ∧ Ev l env c.2.2.toNat (f + 1) t ks ∧ v = combV env c ks := by
  cases h with
  | @cons _ g _ _ c ks _ hc h1 h2 => cases h2; exact ⟨c, ks, hc, h1, rfl⟩
theorem Ev.app {l : List Cl} {env : List Bd} {a f g : Nat} {xs : List (Option (List Cl))} (h : Ev l env a f g xs) : ∀ {b t : Nat} {ys : List (Option (List Cl))}, Ev l env b g t ys → Ev l env (a + b) f t (xs ++ ys) := by
  induction h with
  | nil f => intro b t ys k; rw [Nat.zero_add]; exact k
  | @cons f g n t c ks xs hc h1 h2 i1 i2 =>
    intro b t' ys k
    rw [show n + 1 + b = (n + b) + 1 by omega]
    exact .cons hc h1 (i2 k)
theorem Ev.at {l : List Cl} {env : List Bd} {n f t : Nat} {xs : List (Option (List Cl))} (h : Ev l env n f t xs) : ∀ k, k < n → ∃ g g' x, xs[k]? = some x ∧ Ev l env k f g (xs.take k) ∧ Ev l env 1 g g' [x] ∧ Ev l env (n - (k + 1)) g' t (xs.drop (k + 1)) := by
  induction h with
  | nil f => intro k hk; omega
  | @cons f g n t c ks xs hc h1 h2 i1 i2 =>
    intro k hk
    cases k with
    | zero => exact ⟨f, g, _, rfl, .nil f, .cons hc h1 (.nil g), by simpa using h2⟩
    | succ k =>
      obtain ⟨p, p', x, e1, e2, e3, e4⟩ := i2 k (by omega)
      refine ⟨p, p', x, by simpa using e1, ?_, e3, ?_⟩
      · rw [List.take_succ_cons]; exact .cons hc h1 e2
      · rw [List.drop_succ_cons, show n + 1 - (k + 1 + 1) = n - (k + 1) by omega]; exact e4
theorem Ev.up {l l' : List Cl} {env : List Bd} {n f t : Nat} {xs : List (Option (List Cl))} (h : Ev l env n f t xs) : ∀ (a : Nat), (∀ i, f ≤ i → i < t → l'[i + a]? = l[i]?) → Ev l' env n (f + a) (t + a) xs := by
  induction h with
  | nil f => intro a _; exact .nil _
  | @cons f g n t c ks xs hc h1 h2 i1 i2 =>
    intro a ha
    obtain ⟨d1, e1⟩ := h1.exs; obtain ⟨d2, e2⟩ := h2.exs
    have l1 := e1.le; have l2 := e2.le
    have := i1 a (fun i p q => ha i (by omega) (by omega))
    rw [show f + 1 + a = f + a + 1 by omega] at this
    exact .cons (by rw [ha f (Nat.le_refl _) (by omega)]; exact hc) this (i2 a (fun i p q => ha i (by omega) (by omega)))
theorem Ev.more {l : List Cl} {env : List Bd} {b : Bd} {n f t : Nat} {xs : List (Option (List Cl))} (h : Ev l env n f t xs) (hb : ∀ c ∈ l, c.1 = 4 → c.2.1 ≠ b.1) : Ev l (env ++ [b]) n f t xs := by
  induction h with
  | nil f => exact .nil f
  | @cons f g n t c ks xs hc h1 h2 i1 i2 =>
    have : combV env c ks = combV (env ++ [b]) c ks := by
      unfold combV
      by_cases h4 : c.1 = 4
      · rw [if_pos h4, if_pos h4, envO_app env b c.2.1 (hb c (List.mem_of_getElem? hc) h4)]
      · rw [if_neg h4, if_neg h4]
    rw [this]
    exact .cons hc i1 i2

open Classical in
noncomputable def evalV (l : List Cl) (env : List Bd) : Option (List Cl) := if h : (okE l = true ∧ bindOK env = true) ∧ ∃ v, Ev l env 1 0 l.length [v] then h.2.choose else none
theorem okE_ev {l : List Cl} (env : List Bd) (hok : okE l = true) : ∃ v, Ev l env 1 0 l.length [v] := by
  obtain ⟨-, -, d, -, hx⟩ := (okE_iff l).mp hok
  obtain ⟨vs, h⟩ := Ev.of_exs env hx
  have := h.len
  match vs, this with
  | [v], _ => exact ⟨v, h⟩
theorem evalV_of {l : List Cl} {env : List Bd} {v : Option (List Cl)} (hok : okE l = true) (hb : bindOK env = true) (h : Ev l env 1 0 l.length [v]) : evalV l env = v := by
  have hx : ∃ v, Ev l env 1 0 l.length [v] := ⟨v, h⟩
  have : (okE l = true ∧ bindOK env = true) ∧ ∃ v, Ev l env 1 0 l.length [v] := ⟨⟨hok, hb⟩, hx⟩
  unfold evalV
  rw [dif_pos this]
  have := (this.2.choose_spec.uniq h).2
  injection this
theorem evalV_no {l : List Cl} {env : List Bd} (h : ¬ (okE l = true ∧ bindOK env = true)) : evalV l env = none := by
  unfold evalV
  rw [dif_neg (fun k => h k.1)]

end Go.Proofs.YtpcaciogglllbaaGreatDoor
namespace Go.Proofs.YtpcaciogglllbaaGreatDoor
open Go.RowKit Go.Maps Go.MapKept Go.ChangeMaps Go.WideMaps
set_option linter.unusedVariables false

def EnvV (w : World) (S : Nat → Prop) (B : Nat) (env : List Bd) : Prop := ∃ us : List Value, MapIs w B ((env.map (·.1)).zip us) ∧ VlS w S us (env.map (·.2))
theorem EnvV.keep {w w' : World} {S S' : Nat → Prop} {B : Nat} {env : List Bd} (h : EnvV w S B env) (hb : Below w.heap.size w w') (hS : ∀ b, S b → b < w.heap.size → S' b) : EnvV w' S' B env := by
  obtain ⟨us, h1, h2⟩ := h
  exact ⟨us, h1.keep hb, h2.keep (fun b _ hl => hb.block b hl) hS hb.size⟩
theorem EnvV.low {w w' : World} {S : Nat → Prop} {B : Nat} {env : List Bd} (h : EnvV w S B env) (hb : Below w.heap.size w w') : EnvV w' S B env := h.keep hb (fun _ h _ => h)
theorem envO_atI : ∀ {env : List Bd}, diffB env → ∀ (k : Nat) (h : k < env.length), envO env env[k].1 = some env[k].2 := by
  intro env
  induction env with
  | nil => intro _ k h; simp at h
  | cons b bs ih =>
    intro hd k h
    cases k with
    | zero => show (if b.1 = b.1 then _ else _) = _; rw [if_pos rfl]; rfl
    | succ k =>
      have hk : k < bs.length := by simpa using h
      show (if b.1 = bs[k].1 then _ else envO bs bs[k].1) = some bs[k].2
      rw [if_neg (fun e => hd.1 bs[k] (List.getElem_mem hk) e.symm)]
      exact ih hd.2 k hk
theorem envO_notI : ∀ {env : List Bd} {s : ByteArray}, (∀ b ∈ env, b.1 ≠ s) → envO env s = none := by
  intro env s
  induction env with
  | nil => intro _; rfl
  | cons b bs ih =>
    intro h
    show (if b.1 = s then _ else envO bs s) = none
    rw [if_neg (h b (List.mem_cons_self ..))]
    exact ih fun x hx => h x (List.mem_cons_of_mem _ hx)
theorem EnvV.at {w : World} {S : Nat → Prop} {env : List Bd} {us : List Value} (hd : diffB env) (hv : VlS w S us (env.map (·.2))) {s : ByteArray} {u : Value} (hm : (s, u) ∈ (env.map (·.1)).zip us) : ∃ p, envO env s = some p ∧ VlS w S [u] [p] := by
  obtain ⟨k, hk, he⟩ := List.mem_iff_getElem.mp hm
  have hl := hv.len
  rw [List.length_map] at hl
  rw [List.length_zip, List.length_map] at hk
  have hk1 : k < env.length := by omega
  have hk2 : k < us.length := by omega
  rw [List.getElem_zip, List.getElem_map] at he
  injection he with e1 e2
  subst e1; subst e2
  refine ⟨env[k].2, envO_atI hd k hk1, ?_⟩
  have := hv.at k hk2 (by rw [List.length_map]; exact hk1)
  rwa [List.getElem_map] at this
theorem EnvV.not {env : List Bd} {us : List Value} (hl : us.length = env.length) {s : ByteArray} (h : ∀ p ∈ (env.map (·.1)).zip us, p.1 ≠ s) : envO env s = none := by
  refine envO_notI fun b hb e => ?_
  obtain ⟨k, hk, rfl⟩ := List.mem_iff_getElem.mp hb
  have hkz : k < ((env.map (·.1)).zip us).length := by rw [List.length_zip, List.length_map]; omega
  refine h _ (List.getElem_mem hkz) ?_
  rw [List.getElem_zip, List.getElem_map]
  exact e
theorem MapIs.look1 {P : Program} {t k e : TypeId} {w : World} {b : Nat} {ns : List (ByteArray × Value)} (h : MapIs w b ns) (hk : P.underlying k = some .string) (ht : P.underlying t = some (.map k e)) {z : Value} (hz : (zeroValue e).run P w = .ok z w) (key : ByteArray) (hs : key.size ≤ maxLen) (hns : ∀ p ∈ ns, p.1.size ≤ maxLen) :
    (∃ v, (key, v) ∈ ns ∧ (Instr.lookup t (.map (some b)) (.string key) false).run P w = .ok v w) ∨
      ((∀ p ∈ ns, p.1 ≠ key) ∧ (Instr.lookup t (.map (some b)) (.string key) false).run P w = .ok z w) := by
  obtain ⟨es, clock, hb, he⟩ := h
  have K : Keyed P k := string_keyed hk
  have hkey := keyOf_string_mk (P := P) hk hs
  rcases K.find w hkey es.toList (MapIs.keys hk hns he) with ⟨h1, h2⟩ | ⟨j, e0, h1, h2, h3⟩
  · refine .inr ⟨fun p hp hpk => ?_, by simp [Instr.lookup, run_underlying ht, MapKept.run_getObj_map hb, K.check w _ hkey, h1, hz, Result.andThen]⟩
    obtain ⟨x, hx, hxk, _⟩ := MapIs.mem' he hp
    exact h2 x hx (by rw [hxk, hpk])
  · obtain ⟨s, h4, h5⟩ := MapIs.mem he (List.mem_of_getElem? h2)
    rw [h3] at h4
    injection h4 with h4
    subst h4
    exact .inl ⟨e0.val, h5, by simp [Instr.lookup, run_underlying ht, MapKept.run_getObj_map hb, K.check w _ hkey, h1, Result.andThen]⟩

end Go.Proofs.YtpcaciogglllbaaGreatDoor
namespace Go.Proofs.YtpcaciogglllbaaGreatDoor
set_option linter.unusedVariables false

theorem vB_neg {t b : Int} (h : vB t b = true) : vB (-t) b = true := by
  rw [vB_iff] at h ⊢
  refine ⟨by omega, by omega, by omega, by omega, ?_⟩
  have e : Int.gcd (-t) b = Int.gcd t b := by unfold Int.gcd; rw [Int.natAbs_neg]
  rw [e]; exact h.2.2.2.2

theorem div_pos {aB bT : Int} (ha : 1 ≤ aB) (hb : bT ≠ 0) : 1 ≤ divB aB bT := by
  unfold divB; split
  · have := Int.mul_neg_of_pos_of_neg (show 0 < aB by omega) (show bT < 0 by assumption); omega
  · have := Int.mul_pos (show 0 < aB by omega) (show 0 < bT by omega); omega
end Go.Proofs.YtpcaciogglllbaaGreatDoor
namespace Go.Proofs.YtpcaciogglllbaaGreatDoor
set_option linter.unusedVariables false

theorem numB_ok {t b : Int} (hv : vB t b = true) : okV (numV t b) = true := by
  obtain ⟨k1, k2, k3⟩ := read_back ⟨(textF t b).toArray⟩ t b hv (by simp [textF, hv])
  refine one_ok ?_ rfl
  simp only [okVC, vC, plC, if_pos, Bool.and_eq_true]
  refine ⟨k1, ?_⟩
  show cellB 1 ⟨#[48]⟩ 0 = true
  simp [cellB, manyB, wordB_zero]
theorem num_valid {v : List Cl} (hok : okV v = true) (h1 : kdV v = 1) : vB (aT v) (aB v) = true ∧ 1 ≤ aB v := by
  obtain ⟨k1, k2⟩ := num_read hok h1
  exact ⟨rd_valid _ k1, k2⟩
theorem vB_one {n : Int} (h0 : -1000000000 ≤ n) (h1 : n ≤ 1000000000) : vB n 1 = true := by
  simp only [vB, Bool.and_eq_true, decide_eq_true_eq, beq_iff_eq]
  exact ⟨⟨⟨⟨h0, h1⟩, by omega⟩, by omega⟩, by simp⟩
theorem numO_ok {ok : Bool} {t b : Int} {v : List Cl} (h : numO ok t b = some v) (hv : ok = true → vB t b = true) : okV v = true := by
  unfold numO at h
  split at h
  · rename_i k; injection h with h; rw [← h]; exact numB_ok (hv k)
  · cases h
theorem texO_ok {s : ByteArray} {v : List Cl} (h : texO s = some v) : okV v = true := by
  unfold texO at h; split at h
  · rename_i h1; injection h with h; rw [← h]; exact h1
  · cases h
theorem lisO_ok {ls : List (List Cl)} {v : List Cl} (h : lisO ls = some v) : okV v = true := by
  unfold lisO at h; split at h
  · rename_i h1; injection h with h; rw [← h]; exact h1
  · cases h
theorem binV_ok {word : ByteArray} {a b v : List Cl} (ha : okV a = true) (hb : okV b = true) (h : binV word a b = some v) : okV v = true := by
  unfold binV at h
  generalize signW word.data.toList = k at h
  unfold binK at h
  by_cases c1 : k = 1
  · rw [if_pos c1] at h; injection h with h; rw [← h]; exact tru_ok _
  rw [if_neg c1] at h
  by_cases c2 : k = 2
  · rw [if_pos c2] at h; injection h with h; rw [← h]; exact tru_ok _
  rw [if_neg c2] at h
  by_cases c3 : k = 3 ∧ kdV a = 2 ∧ kdV b = 2
  · rw [if_pos c3] at h; exact texO_ok h
  rw [if_neg c3] at h
  by_cases c4 : k = 3 ∧ kdV a = 5 ∧ kdV b = 5
  · rw [if_pos c4] at h; exact lisO_ok h
  rw [if_neg c4] at h
  by_cases c5 : kdV a ≠ 1 ∨ kdV b ≠ 1
  · rw [if_pos c5] at h; cases h
  rw [if_neg c5] at h
  have hka : kdV a = 1 := by omega
  have hkb : kdV b = 1 := by omega
  obtain ⟨va, ba⟩ := num_valid ha hka
  obtain ⟨vb, bb⟩ := num_valid hb hkb
  have hpos : 1 ≤ aB a * aB b := by
    have := Int.mul_le_mul ba bb (by omega) (by omega)
    omega
  by_cases c6 : k = 3
  · rw [if_pos c6] at h; exact numO_ok h fun k => (mk_value hpos k).1
  rw [if_neg c6] at h
  by_cases c7 : k = 4
  · rw [if_pos c7] at h; exact numO_ok h fun k => (mk_value hpos k).1
  rw [if_neg c7] at h
  by_cases c8 : k = 5
  · rw [if_pos c8] at h; exact numO_ok h fun k => (mk_value hpos k).1
  rw [if_neg c8] at h
  by_cases c9 : k = 6
  · rw [if_pos c9] at h
    refine numO_ok h fun k => ?_
    rw [Bool.and_eq_true, decide_eq_true_eq] at k
    exact (mk_value (div_pos ba k.1) k.2).1
  rw [if_neg c9] at h
  by_cases c10 : k = 7
  · rw [if_pos c10] at h
    by_cases hc : aB a = 1 ∧ aB b = 1 ∧ 0 < aT b
    · rw [if_pos hc] at h
      injection h with h; rw [← h]
      obtain ⟨v1, v2, v3, v4⟩ := vB_bd vb
      have e1 := Int.emod_nonneg (aT a) (show aT b ≠ 0 by omega)
      have e2 := Int.emod_lt_of_pos (aT a) hc.2.2
      exact num_ok e1 (by omega)
    · rw [if_neg hc] at h; cases h
  · rw [if_neg c10] at h; injection h with h; rw [← h]; exact tru_ok _
theorem okC_leaf {c : Cl} (h : okC c = true) (h1 : c.1 ≠ 4) (h2 : c.1 ≠ 9) (h3 : c.1 ≠ 7) (h4 : c.1 ≠ 8) (h5 : c.1 ≠ 5) (h6 : c.1 ≠ 6) : (c.1 = 1 ∨ c.1 = 2 ∨ c.1 = 3) ∧ c.2.2 = 0 ∧ okVC c = true := by
  have hc := h
  rw [okC, cellB, Bool.and_eq_true] at hc
  obtain ⟨hw, hm⟩ := hc
  have hk : c.1 = 1 ∨ c.1 = 2 ∨ c.1 = 3 := by
    unfold manyB at hm
    repeat' split at hm
    all_goals first | omega | (cases hm)
  refine ⟨hk, ?_, ?_⟩
  · unfold manyB at hm
    rw [if_pos (by omega)] at hm
    simpa using hm
  · rw [okVC, Bool.and_eq_true]
    by_cases h1 : c.1 = 1
    · have hw1 := hw
      rw [wordB, if_pos h1, numB, Bool.and_eq_true] at hw1
      refine ⟨by rw [vC, if_pos h1]; exact hw1.1, ?_⟩
      rw [plC, if_pos h1, okC, cellB, Bool.and_eq_true]
      exact ⟨wordB_zero, by rw [h1] at hm; exact hm⟩
    · refine ⟨?_, by rw [plC, if_neg h1]; exact h⟩
      rw [vC, if_neg h1]
      rcases hk with k | k | k
      · exact absurd k h1
      · simp [k]
      · simp [k]
theorem combV_ok {env : List Bd} {c : Cl} {ks : List (Option (List Cl))} {v : List Cl} (hc : okC c = true) (he : ∀ b ∈ env, nmL b.1 = true ∧ okV b.2 = true) (hk : ∀ k ∈ ks, ∀ v, k = some v → okV v = true) (h : combV env c ks = some v) : okV v = true := by
  unfold combV at h
  split at h
  · exact envO_ok he h
  rename_i n4
  split at h
  · split at h
    · split at h
      · split at h
        · exact hk _ (by simp) _ h
        · exact hk _ (by simp) _ h
      · cases h
    · cases h
  rename_i n9
  split at h
  · split at h
    · split at h
      · injection h with h; rw [← h]; exact tru_ok _
      · split at h
        · rename_i v1 _ hn
          injection h with h; rw [← h]
          exact numB_ok (vB_neg (num_valid (hk _ (List.mem_singleton.mpr rfl) _ rfl) hn.2).1)
        · cases h
    · cases h
  rename_i n7
  split at h
  · split at h
    · rename_i a y
      have ha := hk (some a) (by simp) a rfl
      have hy := fun b (e : y = some b) => hk y (by simp) b e
      split at h
      · split at h
        · split at h
          · injection h with h; rw [← h]; exact ha
          · split at h
            · split at h
              · injection h with h; rw [← h]; exact hy _ rfl
              · cases h
            · cases h
        · cases h
      · split at h
        · exact binV_ok ha (hy _ rfl) h
        · cases h
    · cases h
  rename_i n8
  have hall : ∀ xs, allO ks = some xs → ∀ x ∈ xs, okV x = true := by
    intro xs hx x hm
    have := allO_mem hx
    exact hk (some x) (by rw [this]; exact List.mem_map_of_mem hm) x rfl
  split at h
  · rw [Option.bind_eq_some_iff] at h
    obtain ⟨xs, h1, h2⟩ := h
    exact lisO_ok h2
  rename_i n5
  split at h
  · rw [Option.bind_eq_some_iff] at h
    obtain ⟨xs, h1, h2⟩ := h
    exact call_ok (hall xs h1) h2
  rename_i n6
  injection h with h; rw [← h]
  obtain ⟨-, k2, k3⟩ := okC_leaf hc n4 n9 n7 n8 n5 n6
  exact one_ok k3 k2
theorem Ev.ok {l : List Cl} {env : List Bd} (hl : l.all okC = true) (he : ∀ b ∈ env, nmL b.1 = true ∧ okV b.2 = true) {n f t : Nat} {vs : List (Option (List Cl))} (h : Ev l env n f t vs) : ∀ k ∈ vs, ∀ v, k = some v → okV v = true := by
  induction h with
  | nil f => intro k hk; cases hk
  | @cons f g n t c ks vs hc h1 h2 i1 i2 =>
    intro k hk v hv
    rcases List.mem_cons.mp hk with rfl | hk
    · exact combV_ok (List.all_eq_true.mp hl c (List.mem_of_getElem? hc)) he i1 hv
    · exact i2 k hk v hv
theorem evalV_ok {l : List Cl} {env : List Bd} {v : List Cl} (h : evalV l env = some v) : okV v = true ∧ okE l = true ∧ bindOK env = true := by
  by_cases hx : okE l = true ∧ bindOK env = true
  · obtain ⟨x, hv⟩ := okE_ev env hx.1
    rw [evalV_of hx.1 hx.2 hv] at h
    exact ⟨hv.ok ((okE_iff l).mp hx.1).2.1 ((bindOK_iff env).mp hx.2).2.1 x (List.mem_singleton.mpr rfl) v h, hx⟩
  · rw [evalV_no hx] at h; cases h
end Go.Proofs.YtpcaciogglllbaaGreatDoor
namespace Go.Proofs.YtpcaciogglllbaaGreatDoor
open Go.RowKit Go.Maps Go.MapKept Go.ChangeMaps Go.WideMaps
set_option linter.unusedVariables false

def ResE (S : Nat → Prop) (o : Option (List Cl)) (w : World) (e : Ending) (w' : World) : Prop :=
  Below w.heap.size w w' ∧ ((e = .returned .nilIface ∧ o = none) ∨ ∃ u r, e = .returned u ∧ VlS w' S [u] [r] ∧ okV r = true ∧ o = some r)
theorem ResE.nil {S : Nat → Prop} {o : Option (List Cl)} {w w' : World} (hb : Below w.heap.size w w') (h : o = none) : ResE S o w (.returned .nilIface) w' := ⟨hb, .inl ⟨rfl, h⟩⟩
theorem ResE.from {S : Nat → Prop} {o : Option (List Cl)} {w0 w w' : World} {e : Ending} (h : ResE S o w e w') (hb : Below w0.heap.size w0 w) : ResE S o w0 e w' := ⟨hb.trans (h.1.mono hb.size), h.2⟩
theorem ResE.res {S : Nat → Prop} {o : Option (List Cl)} {w w' : World} {e : Ending} (h : ResE S o w e w') (htab : Tab w') : Res S o w e w' := by
  obtain ⟨hb, ⟨rfl, ho⟩ | ⟨u, r, rfl, hv, hok, ho⟩⟩ := h
  · exact Res.nil hb ho
  · exact Res.val hb hv htab hok ho
theorem Res.list {S : Nat → Prop} {o : Option (List Cl)} {w w' : World} {v : Value} {us : List Value} {ls : List (List Cl)} (hb : Below w.heap.size w w') (hr : RowV w' S v us) (hv : VlS w' S us ls) (hok : ∀ l ∈ ls, okV l = true) (hl : ls.length ≤ 16) (htab : Tab w') (h : o = lisO ls) : Res S o w (.returned (.iface 158 v)) w' := by
  have hvl : VlS w' S [.iface 158 v] [listV ls] := .list hr hv .nil
  have happ := hvl.app_ok htab 0 (by simp) (by simp)
  simp only [List.getElem_cons_zero] at happ
  have hfl : ls.flatten.length ≤ 60 * ls.length := by
    have : ∀ (L : List (List Cl)), (∀ l ∈ L, okV l = true) → L.flatten.length ≤ 60 * L.length := by
      intro L
      induction L with
      | nil => intro _; simp
      | cons a t ih =>
        intro h
        have h1 := ((okV_iff a).mp (h a (by simp))).1
        have h2 := ih (fun l hl => h l (by simp [hl]))
        simp only [List.flatten_cons, List.length_append, List.length_cons]; omega
    exact this ls hok
  refine ⟨hb, .inr ⟨_, listV ls, rfl, happ, short_listV (fun l hl => okV_short (hok l hl)), ?_, h, fun _ => hvl⟩⟩
  rw [listV, List.length_cons]; omega
theorem Res.tru {S : Nat → Prop} {o : Option (List Cl)} {w w' : World} (hb : Below w.heap.size w w') (htab : Tab w') (b : Bool) (h : o = some (truV b)) : Res S o w (.returned (.iface 156 (.bool b))) w' :=
  Res.val (r := truV b) hb (.truth (b := b) .nil) htab (tru_ok b) h
theorem numB_vls (w : World) (S : Nat → Prop) {t b : Int} (hv : vB t b = true) : VlS w S [.iface 154 (.agg #[.int .i64 t, .int .i64 b])] [numV t b] := by
  obtain ⟨k1, k2, k3⟩ := read_back ⟨(textF t b).toArray⟩ t b hv (by simp [textF, hv])
  have h := VlS.num (w := w) (S := S) k1 .nil
  rw [k2, k3] at h
  exact h
theorem Res.num {S : Nat → Prop} {o : Option (List Cl)} {w w' : World} (hb : Below w.heap.size w w') (htab : Tab w') {t b : Int} (hv : vB t b = true) (h : o = some (numV t b)) : Res S o w (.returned (.iface 154 (.agg #[.int .i64 t, .int .i64 b]))) w' :=
  Res.val hb (numB_vls w' S hv) htab (numB_ok hv) h

def NodeP (w : World) (N : Nat) (qs : List Nat) : Prop :=
  ∃ ao cap, w.cell? ⟨N, 2, none⟩ = some (.slice ao qs.length cap) ∧ N < w.heap.size ∧ qs.length ≤ cap ∧ cap ≤ maxLen ∧ (qs = [] ∨ ∃ b, ao = some ⟨b, 0, none⟩ ∧ b < w.heap.size ∧ ∀ k (h : k < qs.length), w.cell? ⟨b, k, none⟩ = some (.pointer (some ⟨qs[k], 0, none⟩)))
theorem NodeP.keep {w w' : World} {N : Nat} {qs : List Nat} (h : NodeP w N qs) (hb : Below w.heap.size w w') : NodeP w' N qs := by
  obtain ⟨ao, cap, h0, hN, h1, h2, h3⟩ := h
  refine ⟨ao, cap, (hb.cell (p := ⟨N, 2, none⟩) hN).trans h0, by have := hb.size; omega, h1, h2, ?_⟩
  rcases h3 with h3 | ⟨b, ha, hlt, hj⟩
  · exact .inl h3
  · exact .inr ⟨b, ha, by have := hb.size; omega, fun k hk => (hb.cell (p := ⟨b, k, none⟩) hlt).trans (hj k hk)⟩
theorem NodeP.of {w : World} {N : Nat} {f t : Value} {v : Value} {m : Nat} {qs : List Nat} (hb : BlkN w N #[f, t, v]) (ho : w.ownsRow 0 64 1 v m (ptrs qs)) : NodeP w N qs := by
  have hm := own_len ho
  subst hm
  obtain ⟨ao, cap, rfl, p1, p2, p3⟩ := own_ptr ho
  exact ⟨ao, cap, hb.cell 2, hb.lt, p1, p2, p3⟩
def PartsE (W : World) (B : Nat) (env : List Bd) (qs : List Nat) (sc : Value) (ks : List (Option (List Cl))) : Prop :=
  qs.length = ks.length ∧ ∀ (k : Nat) (h : k < qs.length) (h' : k < ks.length) (w : World) (S : Nat → Prop), Below W.heap.size W w → Hi w.heap.size S → EnvV w S B env → Tab w →
    Calls Tryz.prog 46 #[.pointer (some ⟨qs[k], 0, none⟩), sc] w (ResE S ks[k] w)
theorem PartsE.keep {W W' : World} {B : Nat} {env : List Bd} {qs : List Nat} {sc : Value} {ks : List (Option (List Cl))} (h : PartsE W B env qs sc ks) (hb : Below W.heap.size W W') : PartsE W' B env qs sc ks :=
  ⟨h.1, fun k h1 h2 w S hw => h.2 k h1 h2 w S (hb.trans (hw.mono hb.size))⟩

end Go.Proofs.YtpcaciogglllbaaGreatDoor
namespace Go.Proofs.YtpcaciogglllbaaGreatDoor
open Go.RowKit
set_option linter.unusedVariables false

def RowB (w : World) (v : Value) (env : List Bd) : Prop :=
  ∃ ao cap, v = .slice ao env.length cap ∧ env.length ≤ cap ∧ cap ≤ maxLen ∧ (env = [] ∨ ∃ b o, ao = some ⟨b, o, none⟩ ∧ b < w.heap.size ∧ ∀ (k : Nat) (h : k < env.length), ∃ u, w.cell? ⟨b, o + k * 2, none⟩ = some (.string env[k].1) ∧ w.cell? ⟨b, o + k * 2 + 1, none⟩ = some u ∧ RowC w u env[k].2)
theorem RowB.mono {w w' : World} {v : Value} {env : List Bd} (h : RowB w v env) (hb : Below w.heap.size w w') : RowB w' v env := by
  obtain ⟨ao, cap, hv, h1, h2, h3⟩ := h
  refine ⟨ao, cap, hv, h1, h2, ?_⟩
  rcases h3 with h3 | ⟨b, o, ha, hlt, hj⟩
  · exact .inl h3
  · refine .inr ⟨b, o, ha, Nat.lt_of_lt_of_le hlt hb.size, fun k hk => ?_⟩
    obtain ⟨u, c0, c1, hr⟩ := hj k hk
    exact ⟨u, (hb.cell (p := ⟨b, _, none⟩) hlt).trans c0, (hb.cell (p := ⟨b, _, none⟩) hlt).trans c1, hr.mono hb⟩
theorem RowB.drewN {w : World} {v : Value} {env : List Bd} (h : RowB w v env) (n : Nat) : RowB (w.drewN n) v env := h.mono ⟨rfl, rfl, rfl, Nat.le_refl _, fun _ _ => rfl⟩
def ShortB (env : List Bd) : Prop := ∀ b ∈ env, b.1.size ≤ 1048576 ∧ ShortC b.2 ∧ b.2.length ≤ 1048576
theorem diffB_take {env : List Bd} (h : diffB env) (k : Nat) : diffB (env.take k) := by
  induction env generalizing k with
  | nil => simpa using h
  | cons b bs ih =>
    cases k with
    | zero => trivial
    | succ k => exact ⟨fun x hx => h.1 x (List.mem_of_mem_take hx), ih h.2 k⟩
theorem diffB_not {env : List Bd} {j k : Nat} (hk : k < env.length) (hj : j < k) (he : (env[j]'(by omega)).1 = env[k].1) : ¬ diffB env := by
  intro h
  have h1 := diffB_take h (k + 1)
  rw [List.take_succ_eq_append_getElem hk, diffB_app] at h1
  refine h1.2 (env[j]'(by omega)) ?_ he
  rw [List.mem_take_iff_getElem]
  exact ⟨j, by omega, rfl⟩
theorem bindOK_bad {env : List Bd} {b : Bd} (hb : b ∈ env) (h : nmL b.1 = false ∨ okV b.2 = false) : bindOK env = false := by
  rw [Bool.eq_false_iff]; intro hh
  rw [bindOK_iff] at hh
  obtain ⟨h1, h2⟩ := hh.2.1 b hb
  rcases h with h | h
  · rw [h] at h1; cases h1
  · rw [h] at h2; cases h2
theorem bindOK_same {env : List Bd} {j k : Nat} (hk : k < env.length) (hj : j < k) (he : (env[j]'(by omega)).1 = env[k].1) : bindOK env = false := by
  rw [Bool.eq_false_iff]; intro hh
  rw [bindOK_iff] at hh
  exact diffB_not hk hj he hh.2.2
theorem bindOK_size {env : List Bd} (h1 : ∀ b ∈ env, nmL b.1 = true ∧ okV b.2 = true) (h2 : diffB env) : bindOK env = decide (env.length ≤ 30) := by
  by_cases h : env.length ≤ 30
  · rw [decide_eq_true h, bindOK_iff]; exact ⟨h, h1, h2⟩
  · rw [decide_eq_false h, Bool.eq_false_iff]; intro hh; exact h ((bindOK_iff _).mp hh).1

end Go.Proofs.YtpcaciogglllbaaGreatDoor
