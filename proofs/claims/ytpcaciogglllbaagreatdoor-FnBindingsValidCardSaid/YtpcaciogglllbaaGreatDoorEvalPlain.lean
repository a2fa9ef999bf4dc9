/-
  Values of expressions, plainly: bindings (bindOK, envO), what a binary sign makes of two values (binV), what a cell makes of the values of its parts (combV), the values of expressions side by side (Ev), the value of an expression (evalV).
-/
import Derived.Test.YtpcaciogglllbaaGreatDoorBaseG
import Derived.Test.YtpcaciogglllbaaGreatDoorBaseC
import Derived.Test.YtpcaciogglllbaaGreatDoorBaseA
namespace Go.Proofs.YtpcaciogglllbaaGreatDoor
set_option linter.unusedVariables false

/-- A binding: a name and a value. -/
abbrev Bd := ByteArray × List Cl
def nmL (s : ByteArray) : Bool := nameL s.data.toList
/-- Names that are all different. -/
def diffB : List Bd → Prop
  | [] => True
  | b :: bs => (∀ x ∈ bs, x.1 ≠ b.1) ∧ diffB bs
open Classical in
noncomputable def bindOK (env : List Bd) : Bool := decide (env.length ≤ 30) && (env.all (fun b => nmL b.1 && okV b.2) && decide (diffB env))
theorem bindOK_iff (env : List Bd) : bindOK env = true ↔ env.length ≤ 30 ∧ (∀ b ∈ env, nmL b.1 = true ∧ okV b.2 = true) ∧ diffB env := by
  unfold bindOK
  simp only [Bool.and_eq_true, decide_eq_true_eq, List.all_eq_true]
/-- The value of a name. -/
def envO : List Bd → ByteArray → Option (List Cl)
  | [], _ => none
  | b :: bs, s => if b.1 = s then some b.2 else envO bs s
theorem envO_ok {env : List Bd} (h : ∀ b ∈ env, nmL b.1 = true ∧ okV b.2 = true) {s : ByteArray} {v : List Cl} (hv : envO env s = some v) : okV v = true := by
  induction env with
  | nil => cases hv
  | cons b bs ih =>
    rw [envO] at hv
    split at hv
    · injection hv with hv; rw [← hv]; exact (h b (List.mem_cons_self ..)).2
    · exact ih (fun x hx => h x (List.mem_cons_of_mem _ hx)) hv
theorem envO_app (env : List Bd) (b : Bd) (s : ByteArray) (h : s ≠ b.1) : envO (env ++ [b]) s = envO env s := by
  induction env with
  | nil => show (if b.1 = s then _ else _) = _; rw [if_neg (fun k => h k.symm)]
  | cons x xs ih => show (if x.1 = s then _ else envO (xs ++ [b]) s) = (if x.1 = s then _ else envO xs s); rw [ih]
theorem envO_new (env : List Bd) (b : Bd) (h : ∀ x ∈ env, x.1 ≠ b.1) : envO (env ++ [b]) b.1 = some b.2 := by
  induction env with
  | nil => show (if b.1 = b.1 then _ else _) = _; rw [if_pos rfl]
  | cons x xs ih =>
    show (if x.1 = b.1 then _ else envO (xs ++ [b]) b.1) = _
    rw [if_neg (h x (List.mem_cons_self ..))]
    exact ih fun y hy => h y (List.mem_cons_of_mem _ hy)
theorem diffB_app : ∀ (env : List Bd) (b : Bd), diffB (env ++ [b]) ↔ diffB env ∧ ∀ x ∈ env, x.1 ≠ b.1 := by
  intro env
  induction env with
  | nil => intro b; simp [diffB]
  | cons x xs ih =>
    intro b
    show ((∀ y ∈ xs ++ [b], y.1 ≠ x.1) ∧ diffB (xs ++ [b])) ↔ ((∀ y ∈ xs, y.1 ≠ x.1) ∧ diffB xs) ∧ _
    rw [ih b]
    simp only [List.mem_append, List.mem_cons, List.not_mem_nil, or_false]
    constructor
    · rintro ⟨h1, h2, h3⟩
      refine ⟨⟨fun y hy => h1 y (.inl hy), h2⟩, ?_⟩
      rintro y (rfl | hy)
      · exact fun k => h1 b (.inr rfl) k.symm
      · exact h3 y hy
    · rintro ⟨⟨h1, h2⟩, h3⟩
      refine ⟨?_, h2, fun y hy => h3 y (.inr hy)⟩
      rintro y (hy | rfl)
      · exact h1 y hy
      · exact fun k => h3 x (.inl rfl) k.symm
theorem bindOK_more {env : List Bd} {b : Bd} (h : bindOK env = true) (hl : env.length < 30) (hn : nmL b.1 = true) (hv : okV b.2 = true) (hd : ∀ x ∈ env, x.1 ≠ b.1) : bindOK (env ++ [b]) = true := by
  rw [bindOK_iff] at h ⊢
  refine ⟨by rw [List.length_append, List.length_singleton]; omega, ?_, (diffB_app env b).mpr ⟨h.2.2, hd⟩⟩
  intro x hx
  rw [List.mem_append, List.mem_singleton] at hx
  rcases hx with hx | rfl
  · exact h.2.1 x hx
  · exact ⟨hn, hv⟩
theorem bindOK_tail {b : Bd} {env : List Bd} (h : bindOK (b :: env) = true) : bindOK env = true := by
  rw [bindOK_iff] at h ⊢
  exact ⟨by have := h.1; rw [List.length_cons] at this; omega, fun x hx => h.2.1 x (List.mem_cons_of_mem _ hx), h.2.2.2⟩
theorem bindOK_twice {b : Bd} {env : List Bd} : bindOK ((b :: env) ++ [b]) = false := by
  rw [← Bool.not_eq_true, bindOK_iff]
  rintro ⟨-, -, h⟩
  exact ((diffB_app _ _).mp h).2 b (List.mem_cons_self ..) rfl

def aT (v : List Cl) : Int := rdT (wdV v)
def aB (v : List Cl) : Int := rdB (wdV v)
noncomputable def numO (ok : Bool) (t b : Int) : Option (List Cl) := if ok = true then some (numV t b) else none
def signW : List UInt8 → Int
  | [61, 61] => 1 | [33, 61] => 2 | [43] => 3 | [45] => 4 | [42] => 5 | [47] => 6 | [37] => 7 | [60] => 8 | [60, 61] => 9 | [62] => 10 | [62, 61] => 11 | [38, 38] => 12 | [124, 124] => 13 | _ => 0
/-- How two numbers compare. -/
def cmpV (a b : List Cl) : Int := cmpI (aT a * aB b) (aT b * aB a)
open Classical in
/-- What a binary sign makes of two values. -/
noncomputable def binK (k : Int) (a b : List Cl) : Option (List Cl) :=
  if k = 1 then some (truV (decide (a = b)))
  else if k = 2 then some (truV (decide (a ≠ b)))
  else if k = 3 ∧ kdV a = 2 ∧ kdV b = 2 then texO (wdV a ++ wdV b)
  else if k = 3 ∧ kdV a = 5 ∧ kdV b = 5 then lisO (partsV a ++ partsV b)
  else if kdV a ≠ 1 ∨ kdV b ≠ 1 then none
  else if k = 3 then numO (mkOK (aT a * aB b + aT b * aB a) (aB a * aB b)) (mkT (aT a * aB b + aT b * aB a) (aB a * aB b)) (mkB (aT a * aB b + aT b * aB a) (aB a * aB b))
  else if k = 4 then numO (mkOK (aT a * aB b + -aT b * aB a) (aB a * aB b)) (mkT (aT a * aB b + -aT b * aB a) (aB a * aB b)) (mkB (aT a * aB b + -aT b * aB a) (aB a * aB b))
  else if k = 5 then numO (mkOK (aT a * aT b) (aB a * aB b)) (mkT (aT a * aT b) (aB a * aB b)) (mkB (aT a * aT b) (aB a * aB b))
  else if k = 6 then numO (decide (aT b ≠ 0) && mkOK (divT (aT a) (aT b) (aB b)) (divB (aB a) (aT b))) (mkT (divT (aT a) (aT b) (aB b)) (divB (aB a) (aT b))) (mkB (divT (aT a) (aT b) (aB b)) (divB (aB a) (aT b)))
  else if k = 7 then (if aB a = 1 ∧ aB b = 1 ∧ 0 < aT b then some (numV (aT a % aT b) 1) else none)
  else some (truV (decide (k = 8 ∧ cmpV a b < 0 ∨ k = 9 ∧ cmpV a b ≤ 0 ∨ k = 10 ∧ 0 < cmpV a b ∨ k = 11 ∧ 0 ≤ cmpV a b)))
noncomputable def binV (word : ByteArray) (a b : List Cl) : Option (List Cl) := binK (signW word.data.toList) a b
def allO : List (Option (List Cl)) → Option (List (List Cl))
  | [] => some []
  | none :: _ => none
  | some x :: xs => (allO xs).map (x :: ·)
theorem allO_some : ∀ (xs : List (List Cl)), allO (xs.map some) = some xs := by
  intro xs
  induction xs with
  | nil => rfl
  | cons x xs ih => show (allO (xs.map some)).map (x :: ·) = _; rw [ih]; rfl
theorem allO_mem : ∀ {ks : List (Option (List Cl))} {xs : List (List Cl)}, allO ks = some xs → ks = xs.map some := by
  intro ks
  induction ks with
  | nil => intro xs h; injection h with h; subst h; rfl
  | cons k ks ih =>
    intro xs h
    cases k with
    | none => cases h
    | some x =>
      simp only [allO, Option.map_eq_some_iff] at h
      obtain ⟨ys, h1, h2⟩ := h
      subst h2
      rw [ih h1]; rfl
def trueW (v : List Cl) : Bool := (wdV v).data.toList == trueL
def falseW (v : List Cl) : Bool := (wdV v).data.toList == falseL
/-- What a cell makes of the values of its parts. -/
noncomputable def combV (env : List Bd) (c : Cl) (ks : List (Option (List Cl))) : Option (List Cl) :=
  if c.1 = 4 then envO env c.2.1
  else if c.1 = 9 then match ks with
    | [some v, x, y] => if kdV v = 3 then (if trueW v = true then x else y) else none
    | _ => none
  else if c.1 = 7 then match ks with
    | [some v] => if c.2.1.data.toList = [33] ∧ kdV v = 3 then some (truV (falseW v)) else if c.2.1.data.toList = [45] ∧ kdV v = 1 then some (numV (-aT v) (aB v)) else none
    | _ => none
  else if c.1 = 8 then match ks with
    | [some a, y] =>
      if signW c.2.1.data.toList = 12 ∨ signW c.2.1.data.toList = 13 then
        (if kdV a = 3 then
          (if trueW a = decide (signW c.2.1.data.toList = 13) then some a
          else match y with
            | some b => if kdV b = 3 then some b else none
            | none => none)
        else none)
      else match y with
        | some b => binV c.2.1 a b
        | none => none
    | _ => none
  else if c.1 = 5 then (allO ks).bind lisO
  else if c.1 = 6 then (allO ks).bind (callF c.2.1)
  else some [c]

/-- n expressions side by side from f up to t, and their values. -/
inductive Ev (l : List Cl) (env : List Bd) : Nat → Nat → Nat → List (Option (List Cl)) → Prop
  | nil (f : Nat) : Ev l env 0 f f []
  | cons {f g n t : Nat} {c : Cl} {ks vs : List (Option (List Cl))} : l[f]? = some c → Ev l env c.2.2.toNat (f + 1) g ks → Ev l env n g t vs → Ev l env (n + 1) f t (combV env c ks :: vs)
theorem Ev.len {l : List Cl} {env : List Bd} {n f t : Nat} {vs : List (Option (List Cl))} (h : Ev l env n f t vs) : vs.length = n := by
  induction h with
  | nil f => rfl
  | cons hc h1 h2 i1 i2 => rw [List.length_cons, i2]
theorem Ev.exs {l : List Cl} {env : List Bd} {n f t : Nat} {vs : List (Option (List Cl))} (h : Ev l env n f t vs) : ∃ d, Exs (amL l) n f t d := by
  induction h with
  | nil f => exact ⟨0, .nil f⟩
  | cons hc h1 h2 i1 i2 =>
    obtain ⟨d1, i1⟩ := i1; obtain ⟨d2, i2⟩ := i2
    exact ⟨_, .cons (amL_some hc) i1 i2⟩
theorem Ev.of_exs {l : List Cl} (env : List Bd) {n f t d : Nat} (h : Exs (amL l) n f t d) : ∃ vs, Ev l env n f t vs := by
  generalize ha : amL l = am at h
  induction h with
  | nil f => exact ⟨[], .nil f⟩
  | @cons f m g d n t e hm h1 h2 i1 i2 =>
    obtain ⟨ks, k1⟩ := i1; obtain ⟨xs, k2⟩ := i2
    subst ha
    obtain ⟨c, hc, rfl⟩ := amL_get hm
    exact ⟨_, .cons hc k1 k2⟩
theorem Ev.uniq {l : List Cl} {env : List Bd} {n f t : Nat} {vs : List (Option (List Cl))} (h : Ev l env n f t vs) : ∀ {t' : Nat} {ws : List (Option (List Cl))}, Ev l env n f t' ws → t = t' ∧ vs = ws := by
  induction h with
  | nil f => intro t' ys h'; cases h'; exact ⟨rfl, rfl⟩
  | @cons f g n t c ks vs hc h1 h2 i1 i2 =>
    intro t' ys h'
    cases h' with
    | @cons _ g' _ _ c' ks' ys' hc' k1 k2 =>
      rw [hc] at hc'; injection hc' with hc'; subst hc'
      obtain ⟨rfl, rfl⟩ := i1 k1
      obtain ⟨rfl, rfl⟩ := i2 k2
      exact ⟨rfl, rfl⟩
theorem Ev.inv {l : List Cl} {env : List Bd} {f t : Nat} {v : Option (List Cl)} (h : Ev l env 1 f t [v]) : ∃ c ks, l[f]? = some c ∧ Ev l env c.2.2.toNat (f + 1) t ks ∧ v = combV env c ks := by
  cases h with
  | @cons _ g _ _ c ks _ hc h1 h2 => cases h2; exact ⟨c, ks, hc, h1, rfl⟩
theorem Ev.app {l : List Cl} {env : List Bd} {a f g : Nat} {xs : List (Option (List Cl))} (h : Ev l env a f g xs) : ∀ {b t : Nat} {ys : List (Option (List Cl))}, Ev l env b g t ys → Ev l env (a + b) f t (xs ++ ys) := by
  induction h with
  | nil f => intro b t ys k; rw [Nat.zero_add]; exact k
  | @cons f g n t c ks xs hc h1 h2 i1 i2 =>
    intro b t' ys k
    rw [show n + 1 + b = (n + b) + 1 by omega]
    exact .cons hc h1 (i2 k)
theorem Ev.at {l : List Cl} {env : List Bd} {n f t : Nat} {xs : List (Option (List Cl))} (h : Ev l env n f t xs) : ∀ k, k < n → ∃ g g' x, xs[k]? = some x ∧ Ev l env k f g (xs.take k) ∧ Ev l env 1 g g' [x] ∧ Ev l env (n - (k + 1)) g' t (xs.drop (k + 1)) := by
  induction h with
  | nil f => intro k hk; omega
  | @cons f g n t c ks xs hc h1 h2 i1 i2 =>
    intro k hk
    cases k with
    | zero => exact ⟨f, g, _, rfl, .nil f, .cons hc h1 (.nil g), by simpa using h2⟩
    | succ k =>
      obtain ⟨p, p', x, e1, e2, e3, e4⟩ := i2 k (by omega)
      refine ⟨p, p', x, by simpa using e1, ?_, e3, ?_⟩
      · rw [List.take_succ_cons]; exact .cons hc h1 e2
      · rw [List.drop_succ_cons, show n + 1 - (k + 1 + 1) = n - (k + 1) by omega]; exact e4
theorem Ev.up {l l' : List Cl} {env : List Bd} {n f t : Nat} {xs : List (Option (List Cl))} (h : Ev l env n f t xs) : ∀ (a : Nat), (∀ i, f ≤ i → i < t → l'[i + a]? = l[i]?) → Ev l' env n (f + a) (t + a) xs := by
  induction h with
  | nil f => intro a _; exact .nil _
  | @cons f g n t c ks xs hc h1 h2 i1 i2 =>
    intro a ha
    obtain ⟨d1, e1⟩ := h1.exs; obtain ⟨d2, e2⟩ := h2.exs
    have l1 := e1.le; have l2 := e2.le
    have := i1 a (fun i p q => ha i (by omega) (by omega))
    rw [show f + 1 + a = f + a + 1 by omega] at this
    exact .cons (by rw [ha f (Nat.le_refl _) (by omega)]; exact hc) this (i2 a (fun i p q => ha i (by omega) (by omega)))
/-- A binding for a name that is not in the expression. -/
theorem Ev.more {l : List Cl} {env : List Bd} {b : Bd} {n f t : Nat} {xs : List (Option (List Cl))} (h : Ev l env n f t xs) (hb : ∀ c ∈ l, c.1 = 4 → c.2.1 ≠ b.1) : Ev l (env ++ [b]) n f t xs := by
  induction h with
  | nil f => exact .nil f
  | @cons f g n t c ks xs hc h1 h2 i1 i2 =>
    have : combV env c ks = combV (env ++ [b]) c ks := by
      unfold combV
      by_cases h4 : c.1 = 4
      · rw [if_pos h4, if_pos h4, envO_app env b c.2.1 (hb c (List.mem_of_getElem? hc) h4)]
      · rw [if_neg h4, if_neg h4]
    rw [this]
    exact .cons hc i1 i2

open Classical in
/-- The value of an expression, if it has one. -/
noncomputable def evalV (l : List Cl) (env : List Bd) : Option (List Cl) := if h : (okE l = true ∧ bindOK env = true) ∧ ∃ v, Ev l env 1 0 l.length [v] then h.2.choose else none
theorem okE_ev {l : List Cl} (env : List Bd) (hok : okE l = true) : ∃ v, Ev l env 1 0 l.length [v] := by
  obtain ⟨-, -, d, -, hx⟩ := (okE_iff l).mp hok
  obtain ⟨vs, h⟩ := Ev.of_exs env hx
  have := h.len
  match vs, this with
  | [v], _ => exact ⟨v, h⟩
theorem evalV_of {l : List Cl} {env : List Bd} {v : Option (List Cl)} (hok : okE l = true) (hb : bindOK env = true) (h : Ev l env 1 0 l.length [v]) : evalV l env = v := by
  have hx : ∃ v, Ev l env 1 0 l.length [v] := ⟨v, h⟩
  have : (okE l = true ∧ bindOK env = true) ∧ ∃ v, Ev l env 1 0 l.length [v] := ⟨⟨hok, hb⟩, hx⟩
  unfold evalV
  rw [dif_pos this]
  have := (this.2.choose_spec.uniq h).2
  injection this
theorem evalV_no {l : List Cl} {env : List Bd} (h : ¬ (okE l = true ∧ bindOK env = true)) : evalV l env = none := by
  unfold evalV
  rw [dif_neg (fun k => h k.1)]

end Go.Proofs.YtpcaciogglllbaaGreatDoor
