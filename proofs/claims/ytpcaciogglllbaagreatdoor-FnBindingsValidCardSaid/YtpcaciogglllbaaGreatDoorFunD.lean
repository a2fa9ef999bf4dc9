/-
  Function values of the program, plainly: what a function makes of values (Res), of one value, of a row of values.
-/
import Derived.Test.YtpcaciogglllbaaGreatDoorBaseH
import Derived.Test.YtpcaciogglllbaaGreatDoorBaseI
import Derived.Test.YtpcaciogglllbaaGreatDoorBaseG
namespace Go.Proofs.YtpcaciogglllbaaGreatDoor
open Go.RowKit
set_option linter.unusedVariables false

theorem AppOK.keep {W W' : World} {u : Value} {p : List Cl} (h : AppOK W u p) (hb : Below W.heap.size W W') : AppOK W' u p := by
  obtain ⟨T, x, K, hu, hm, he, hc⟩ := h
  have hs := hb.size
  exact ⟨T, x, K, hu, hm, he, fun w base v acc h1 h2 h3 h4 h5 => hc w base v acc (hb.trans (h1.mono hs)) (by omega) h3 h4 h5⟩
theorem AppOK.text (W : World) (s : ByteArray) : AppOK W (.iface 155 (.string s)) [(2, s, 0)] :=
  ⟨_, _, 282, rfl, fun w => meth_app_text _ w, enters_of Tryz.func282 (by kernel_rfl) rfl, fun w base v acc hW hWb hbase ho hn => app_text s w base v acc hbase ho hn⟩
theorem txt_cell {s : ByteArray} (h : okV [(2, s, 0)] = true) : okC (2, s, 0) = true := by
  have k := ((okV_iff _).mp h).2.1
  simp only [List.all_cons, List.all_nil, Bool.and_true] at k
  rw [okVC_2] at k
  exact k
/-- A set of blocks that has all blocks from n on. -/
def Hi (n : Nat) (S : Nat → Prop) : Prop := ∀ b, n ≤ b → S b
theorem Hi.mono {n m : Nat} {S : Nat → Prop} (h : Hi n S) (hm : n ≤ m) : Hi m S := fun b hb => h b (Nat.le_trans hm hb)
/-- What a function makes of values: nothing, or a value, whose cells are not checked yet. -/
def Res (S : Nat → Prop) (o : Option (List Cl)) (w : World) (e : Ending) (w' : World) : Prop :=
  Below w.heap.size w w' ∧ ((e = .returned .nilIface ∧ o = none) ∨ ∃ u r, e = .returned u ∧ AppOK w' u r ∧ ShortC r ∧ r.length ≤ 1000 ∧ (o = if okV r = true then some r else none) ∧ (okV r = true → VlS w' S [u] [r]))
theorem VlS.any {w : World} {S : Nat → Prop} {us : List Value} {ps : List (List Cl)} (h : VlS w S us ps) : VlS w (fun _ => True) us ps := h.keep (fun _ _ _ => rfl) (fun _ _ _ => trivial) (Nat.le_refl _)
theorem Res.nil {S : Nat → Prop} {o : Option (List Cl)} {w w' : World} (hb : Below w.heap.size w w') (h : o = none) : Res S o w (.returned .nilIface) w' := ⟨hb, .inl ⟨rfl, h⟩⟩
theorem Res.val {o : Option (List Cl)} {w w' : World} {S : Nat → Prop} {u : Value} {r : List Cl} (hb : Below w.heap.size w w') (hv : VlS w' S [u] [r]) (htab : Tab w') (hok : okV r = true) (h : o = some r) : Res S o w (.returned u) w' :=
  ⟨hb, .inr ⟨u, r, rfl, hv.app_ok htab 0 (by simp) (by simp), okV_short hok, by have := ((okV_iff r).mp hok).1; omega, by rw [if_pos hok]; exact h, fun _ => hv⟩⟩
theorem Res.text {S : Nat → Prop} {o : Option (List Cl)} {w w' : World} (hb : Below w.heap.size w w') (s : ByteArray) (hs : s.size ≤ 1048576) (h : o = texO s) : Res S o w (.returned (.iface 155 (.string s))) w' :=
  ⟨hb, .inr ⟨_, [(2, s, 0)], rfl, AppOK.text w' s, fun c hc => by rw [List.mem_singleton.mp hc]; exact hs, by simp, h, fun hok => .text (txt_cell hok) .nil⟩⟩
/-- The four kinds of a value. -/
theorem VlS.one {w : World} {S : Nat → Prop} {u : Value} {p : List Cl} (h : VlS w S [u] [p]) (hok : okV p = true) :
    (∃ s, rdOK s = true ∧ u = .iface 154 (.agg #[.int .i64 (rdT s), .int .i64 (rdB s)]) ∧ p = [(1, s, 0)]) ∨
    (∃ s, okC (2, s, 0) = true ∧ u = .iface 155 (.string s) ∧ p = [(2, s, 0)]) ∨
    (∃ b, u = .iface 156 (.bool b) ∧ p = [(3, truW b, 0)]) ∨
    (∃ v us ps, u = .iface 158 v ∧ p = listV ps ∧ RowV w S v us ∧ VlS w S us ps ∧ (∀ q ∈ ps, okV q = true) ∧ partsV p = ps) := by
  cases h with
  | num h1 h2 => exact .inl ⟨_, h1, rfl, rfl⟩
  | text h1 h2 => exact .inr (.inl ⟨_, h1, rfl, rfl⟩)
  | truth h2 => exact .inr (.inr (.inl ⟨_, rfl, rfl⟩))
  | list h1 h2 h3 =>
    obtain ⟨h4, h5⟩ := okV_parts h2.exs hok
    exact .inr (.inr (.inr ⟨_, _, _, rfl, rfl, h1, h2, h4, h5⟩))
/-- Value k of a row. -/
theorem VlS.at {w : World} {S : Nat → Prop} {us : List Value} {ps : List (List Cl)} (h : VlS w S us ps) : ∀ (k : Nat) (hk : k < us.length) (hk' : k < ps.length), VlS w S [us[k]] [ps[k]] := by
  refine VlS.all (P := fun u p => VlS w S [u] [p]) ?_ ?_ ?_ ?_ h
  · intro s hs; exact .num hs .nil
  · intro s hs; exact .text hs .nil
  · intro b; exact .truth .nil
  · intro v us ps h1 h2 _; exact .list h1 h2 .nil
theorem VlS.low {w w' : World} {S : Nat → Prop} {us : List Value} {ps : List (List Cl)} (h : VlS w S us ps) (hb : Below w.heap.size w w') : VlS w' S us ps := h.keep (fun b _ hl => hb.block b hl) (fun _ h _ => h) hb.size
theorem RowV.any {w : World} {S : Nat → Prop} {v : Value} {us : List Value} (h : RowV w S v us) : RowV w (fun _ => True) v us := h.keep (fun _ _ _ => rfl) (fun _ _ _ => trivial) (Nat.le_refl _)
theorem RowV.low {w w' : World} {S : Nat → Prop} {v : Value} {us : List Value} (h : RowV w S v us) (hb : Below w.heap.size w w') : RowV w' S v us := h.keep (fun b _ hl => hb.block b hl) (fun _ h _ => h) hb.size
theorem VlS.cell1 {w : World} {S : Nat → Prop} {us : List Value} {ps : List (List Cl)} (h : VlS w S us ps) : ∀ u ∈ us, u.oneCell' = true := by
  intro u hu
  obtain ⟨k, hk, rfl⟩ := List.mem_iff_getElem.mp hu
  obtain ⟨T, x, hT⟩ := (h.at k hk (by rw [← h.len]; exact hk)).iface
  rw [hT]; simp [Value.oneCell']
/-- What lies in a world stands in another one, but for one block (the map's). -/
def Up (B : Nat) (W w : World) : Prop := W.heap.size ≤ w.heap.size ∧ ∀ j, j < W.heap.size → j ≠ B → w.heap[j]? = W.heap[j]?
theorem Up.refl (B : Nat) (W : World) : Up B W W := ⟨Nat.le_refl _, fun _ _ _ => rfl⟩
theorem Up.trans {B : Nat} {W w w' : World} (h : Up B W w) (k : Up B w w') : Up B W w' := ⟨Nat.le_trans h.1 k.1, fun j hj hne => (k.2 j (by have := h.1; omega) hne).trans (h.2 j hj hne)⟩
theorem Up.of {B : Nat} {W w : World} (h : Below W.heap.size W w) : Up B W w := ⟨h.size, fun j hj _ => h.block j hj⟩
theorem Up.grown {B : Nat} {W w : World} (h : W.grownBy w (some B)) : Up B W w := ⟨h.size, fun j hj hne => h.block j hj (by simpa using hne)⟩
theorem Up.cell {B : Nat} {W w : World} (h : Up B W w) {b : Nat} {v : Value} (hne : b ≠ B) (hc : W.cell? ⟨b, 0, none⟩ = some v) : w.cell? ⟨b, 0, none⟩ = some v :=
  (cell_block (h.2 b (World.block_lt_of_cell? W _ hc) hne) 0).trans hc
/-- A function that takes one value does R. -/
def DoesV (F : Value) (B : Nat) (W : World) (R : List Cl → Option (List Cl)) : Prop :=
  ∃ K cb, F = .func (.func K) #[] cb ∧ (∀ args w, (callFunc K args).run Tryz.prog w = .ok (.enter K args) w) ∧ ∀ S w u p, Hi w.heap.size S → Up B W w → Tab w → VlS w S [u] [p] → okV p = true → Calls Tryz.prog K (#[u] ++ cb) w (Res S (R p) w)
/-- A function that takes two values. -/
def DoesVV (F : Value) (B : Nat) (W : World) (R : List Cl → List Cl → Option (List Cl)) : Prop :=
  ∃ K, F = .func (.func K) #[] #[] ∧ (∀ args w, (callFunc K args).run Tryz.prog w = .ok (.enter K args) w) ∧ ∀ S w u p u' p', Hi w.heap.size S → Up B W w → Tab w → VlS w S [u] [p] → okV p = true → VlS w S [u'] [p'] → okV p' = true → Calls Tryz.prog K #[u, u'] w (Res S (R p p') w)
/-- A function that takes a row of values. -/
def DoesL (F : Value) (B : Nat) (W : World) (R : List (List Cl) → Option (List Cl)) : Prop :=
  ∃ K fb, F = .func (.func K) #[] #[.pointer (some ⟨fb, 0, none⟩)] ∧ (∀ args w, (callFunc K args).run Tryz.prog w = .ok (.enter K args) w) ∧ ∀ S w v us ls, Hi w.heap.size S → Up B W w → Tab w → RowV w S v us → VlS w S us ls → (∀ l ∈ ls, okV l = true) → ls.length ≤ 1048576 → Calls Tryz.prog K #[v, .pointer (some ⟨fb, 0, none⟩)] w (Res S (R ls) w)
/-- A function that takes the parts of a list. -/
def DoesP (F : Value) (B : Nat) (W : World) (R : List Cl → Option (List Cl)) : Prop :=
  ∃ K, F = .func (.func K) #[] #[] ∧ (∀ args w, (callFunc K args).run Tryz.prog w = .ok (.enter K args) w) ∧ ∀ S w v us ps, Hi w.heap.size S → Up B W w → Tab w → RowV w S v us → VlS w S us ps → okV (listV ps) = true → Calls Tryz.prog K #[v] w (Res S (R (listV ps)) w)
/-- A function of texts. -/
def DoesS (F : Value) (B : Nat) (W : World) (f : ByteArray → ByteArray) : Prop :=
  ∃ K, F = .func (.func K) #[] #[] ∧ (∀ args w, (callFunc K args).run Tryz.prog w = .ok (.enter K args) w) ∧ (∀ s, (f s).size = s.size) ∧ ∀ w s, Up B W w → okC (2, s, 0) = true → Calls Tryz.prog K #[.string s] w fun e w' => e = .returned (.string (f s)) ∧ Below w.heap.size w w'
theorem DoesV.keep {F : Value} {B : Nat} {W W' : World} {R : List Cl → Option (List Cl)} (h : DoesV F B W R) (hb : Up B W W') : DoesV F B W' R := by
  obtain ⟨K, cb, h1, h2, h3⟩ := h
  exact ⟨K, cb, h1, h2, fun S w u p hS a => h3 S w u p hS (hb.trans a)⟩
theorem DoesVV.keep {F : Value} {B : Nat} {W W' : World} {R : List Cl → List Cl → Option (List Cl)} (h : DoesVV F B W R) (hb : Up B W W') : DoesVV F B W' R := by
  obtain ⟨K, h1, h2, h3⟩ := h
  exact ⟨K, h1, h2, fun S w u p u' p' hS a => h3 S w u p u' p' hS (hb.trans a)⟩
theorem DoesL.keep {F : Value} {B : Nat} {W W' : World} {R : List (List Cl) → Option (List Cl)} (h : DoesL F B W R) (hb : Up B W W') : DoesL F B W' R := by
  obtain ⟨K, cb, h1, h2, h3⟩ := h
  exact ⟨K, cb, h1, h2, fun S w v us ls hS a => h3 S w v us ls hS (hb.trans a)⟩
theorem DoesP.keep {F : Value} {B : Nat} {W W' : World} {R : List Cl → Option (List Cl)} (h : DoesP F B W R) (hb : Up B W W') : DoesP F B W' R := by
  obtain ⟨K, h1, h2, h3⟩ := h
  exact ⟨K, h1, h2, fun S w v us ps hS a => h3 S w v us ps hS (hb.trans a)⟩
theorem DoesS.keep {F : Value} {B : Nat} {W W' : World} {f : ByteArray → ByteArray} (h : DoesS F B W f) (hb : Up B W W') : DoesS F B W' f := by
  obtain ⟨K, h1, h2, h4, h3⟩ := h
  exact ⟨K, h1, h2, h4, fun w s a => h3 w s (hb.trans a)⟩

end Go.Proofs.YtpcaciogglllbaaGreatDoor
