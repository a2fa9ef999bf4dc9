/-
  Several texts of the proof in one file: RdAtom, RdAtom2.
-/
import Derived.Test.YtncehcklppakcaaGreatDoorBaseS
import Derived.Test.YtncehcklppakcaaGreatDoorBaseK
import Derived.Test.YtncehcklppakcaaGreatDoorBaseA
/-
  spec.l6Atom: what stands without signs.
-/
namespace Go.Proofs.YtncehcklppakcaaGreatDoor
open Go.RowKit
set_option linter.unusedVariables false

theorem isT_none {tk : List Tk} {p : Nat} (h : ¬ p < tk.length) (w : List UInt8) : isT tk p w = false := by
  unfold isT; rw [List.getElem?_eq_none (by omega)]
theorem atom_end {tk : List Tk} {p d : Nat} (h : ¬ p < tk.length) : NoRd tk .atom p d := by
  rintro ⟨c, q, m, k, -, -⟩
  cases k with
  | paren k1 k2 k3 => exact tf k1 (isT_none h _)
  | list k1 k2 => exact tf k1 (isT_none h _)
  | num k1 k2 => exact h (at_lt k1)
  | text k1 k2 => exact h (at_lt k1)
  | truth k1 k2 => exact h (at_lt k1)
  | name k1 k2 k3 k4 => exact h (at_lt k1)
  | call k1 k2 k3 k4 k5 => exact h (at_lt k1)
theorem two_kinds {tk : List Tk} {p : Nat} {k k' : Int} {s s' : ByteArray} (h : tk[p]? = some (k, s)) (h' : tk[p]? = some (k', s')) : k = k' ∧ s = s' := by
  rw [h] at h'; simpa using h'
theorem num_no {tk : List Tk} {p d : Nat} {s : ByteArray} (h : tk[p]? = some (2, s)) (hn : numOK s = false) : NoRd tk .atom p d := by
  rintro ⟨c, q, m, k, -, -⟩
  cases k with
  | num k1 k2 => obtain ⟨-, rfl⟩ := two_kinds h k1; rw [hn] at k2; cases k2
  | paren k1 k2 k3 => exact sign_no k1 h (by decide)
  | list k1 k2 => exact sign_no k1 h (by decide)
  | text k1 k2 => exact absurd (two_kinds h k1).1 (by decide)
  | truth k1 k2 => exact absurd (two_kinds h k1).1 (by decide)
  | name k1 k2 k3 k4 => exact absurd (two_kinds h k1).1 (by decide)
  | call k1 k2 k3 k4 k5 => exact absurd (two_kinds h k1).1 (by decide)
theorem text_no {tk : List Tk} {p d : Nat} {s : ByteArray} (h : tk[p]? = some (3, s)) (hn : unqOK s = false) : NoRd tk .atom p d := by
  rintro ⟨c, q, m, k, -, -⟩
  cases k with
  | text k1 k2 => obtain ⟨-, rfl⟩ := two_kinds h k1; rw [hn] at k2; cases k2
  | paren k1 k2 k3 => exact sign_no k1 h (by decide)
  | list k1 k2 => exact sign_no k1 h (by decide)
  | num k1 k2 => exact absurd (two_kinds h k1).1 (by decide)
  | truth k1 k2 => exact absurd (two_kinds h k1).1 (by decide)
  | name k1 k2 k3 k4 => exact absurd (two_kinds h k1).1 (by decide)
  | call k1 k2 k3 k4 k5 => exact absurd (two_kinds h k1).1 (by decide)
theorem call_no {tk : List Tk} {p d : Nat} {s : ByteArray} (h : tk[p]? = some (1, s)) (ht : s.data.toList ≠ trueL) (hf : s.data.toList ≠ falseL) (hp : isT tk (p + 1) [40] = true) (hn : NoRd tk (.parts [41] 0 []) (p + 2) d) : NoRd tk .atom p d := by
  rintro ⟨c, q, m, k, hc, hm⟩
  cases k with
  | call k1 k2 k3 k4 k5 =>
    refine hn ⟨_, _, _, k5, hc.sub (by simp) (fun x hx => by simp [hx]), ?_⟩
    have := hc.2 _ (List.mem_cons_self ..)
    have := (okC_many this).2
    simp only at this; omega
  | truth k1 k2 => obtain ⟨-, rfl⟩ := two_kinds h k1; rcases k2 with k2 | k2; exact ht k2; exact hf k2
  | name k1 k2 k3 k4 => exact tf hp k4
  | paren k1 k2 k3 => exact sign_no k1 h (by decide)
  | list k1 k2 => exact sign_no k1 h (by decide)
  | num k1 k2 => exact absurd (two_kinds h k1).1 (by decide)
  | text k1 k2 => exact absurd (two_kinds h k1).1 (by decide)
theorem list_no {tk : List Tk} {p d : Nat} (h : isT tk p [91] = true) (hn : NoRd tk (.parts [93] 0 []) (p + 1) d) : NoRd tk .atom p d := by
  obtain ⟨s, hs, e⟩ := isT_kind h
  rintro ⟨c, q, m, k, hc, hm⟩
  cases k with
  | list k1 k2 =>
    refine hn ⟨_, _, _, k2, hc.sub (by simp) (fun x hx => by simp [hx]), ?_⟩
    have := hc.2 _ (List.mem_cons_self ..)
    have := (okC_many this).2
    simp only at this; omega
  | paren k1 k2 k3 => exact two_signs k1 h (by decide)
  | num k1 k2 => exact absurd (two_kinds hs k1).1 (by decide)
  | text k1 k2 => exact absurd (two_kinds hs k1).1 (by decide)
  | truth k1 k2 => exact absurd (two_kinds hs k1).1 (by decide)
  | name k1 k2 k3 k4 => exact absurd (two_kinds hs k1).1 (by decide)
  | call k1 k2 k3 k4 k5 => exact absurd (two_kinds hs k1).1 (by decide)
theorem paren_no {tk : List Tk} {p d : Nat} (h : isT tk p [40] = true) (hn : NoRd tk .choice (p + 1) d) : NoRd tk .atom p d := by
  obtain ⟨s, hs, e⟩ := isT_kind h
  rintro ⟨c, q, m, k, hc, hm⟩
  cases k with
  | paren k1 k2 k3 => exact hn.use k2 hc (by rw [k2.zero (by intros; simp)]; omega)
  | list k1 k2 => exact two_signs k1 h (by decide)
  | num k1 k2 => exact absurd (two_kinds hs k1).1 (by decide)
  | text k1 k2 => exact absurd (two_kinds hs k1).1 (by decide)
  | truth k1 k2 => exact absurd (two_kinds hs k1).1 (by decide)
  | name k1 k2 k3 k4 => exact absurd (two_kinds hs k1).1 (by decide)
  | call k1 k2 k3 k4 k5 => exact absurd (two_kinds hs k1).1 (by decide)
theorem paren_open {tk : List Tk} {p d : Nat} {a : List Cl} {q m : Nat} (h : isT tk p [40] = true) (hr : Rs tk .choice (p + 1) d a q m) (hn : isT tk q [41] = false) : NoRd tk .atom p d := by
  obtain ⟨s, hs, e⟩ := isT_kind h
  rintro ⟨c, q', m', k, hc, hm⟩
  cases k with
  | paren k1 k2 k3 => obtain ⟨rfl, rfl, -⟩ := hr.uniq k2; exact tf k3 hn
  | list k1 k2 => exact two_signs k1 h (by decide)
  | num k1 k2 => exact absurd (two_kinds hs k1).1 (by decide)
  | text k1 k2 => exact absurd (two_kinds hs k1).1 (by decide)
  | truth k1 k2 => exact absurd (two_kinds hs k1).1 (by decide)
  | name k1 k2 k3 k4 => exact absurd (two_kinds hs k1).1 (by decide)
  | call k1 k2 k3 k4 k5 => exact absurd (two_kinds hs k1).1 (by decide)
theorem sign_none {tk : List Tk} {p d : Nat} {s : ByteArray} (h : tk[p]? = some (4, s)) (h1 : isT tk p [40] = false) (h2 : isT tk p [91] = false) : NoRd tk .atom p d := by
  rintro ⟨c, q, m, k, -, -⟩
  cases k with
  | paren k1 k2 k3 => exact tf k1 h1
  | list k1 k2 => exact tf k1 h2
  | num k1 k2 => exact absurd (two_kinds h k1).1 (by decide)
  | text k1 k2 => exact absurd (two_kinds h k1).1 (by decide)
  | truth k1 k2 => exact absurd (two_kinds h k1).1 (by decide)
  | name k1 k2 k3 k4 => exact absurd (two_kinds h k1).1 (by decide)
  | call k1 k2 k3 k4 k5 => exact absurd (two_kinds h k1).1 (by decide)
/-- The end with one new cell. -/
theorem fin_one {w w4 : World} {a0 a1 a2 a3 : Value} (h : BlkS w4 (w.heap.size + 1) #[a0, a1, a2, a3]) (hb : Below w.heap.size w w4) (x0 x1 x2 x3 c0 c1 c2 : Value) :
    BlkS ((((((w4.setCell ⟨w.heap.size + 1, 0, none⟩ x0).setCell ⟨w.heap.size + 1, 1, none⟩ x1).setCell ⟨w.heap.size + 1, 2, none⟩ x2).setCell ⟨w.heap.size + 1, 3, none⟩ x3).alloc (.cells #[c0, c1, c2] 41)).drew) (w.heap.size + 1) #[x0, x1, x2, x3] ∧
    Below w.heap.size w ((((((w4.setCell ⟨w.heap.size + 1, 0, none⟩ x0).setCell ⟨w.heap.size + 1, 1, none⟩ x1).setCell ⟨w.heap.size + 1, 2, none⟩ x2).setCell ⟨w.heap.size + 1, 3, none⟩ x3).alloc (.cells #[c0, c1, c2] 41)).drew) ∧
    World.ownsRow ((((((w4.setCell ⟨w.heap.size + 1, 0, none⟩ x0).setCell ⟨w.heap.size + 1, 1, none⟩ x1).setCell ⟨w.heap.size + 1, 2, none⟩ x2).setCell ⟨w.heap.size + 1, 3, none⟩ x3).alloc (.cells #[c0, c1, c2] 41)).drew) w.heap.size 41 3 (.slice (some ⟨w4.heap.size, 0, none⟩) 1 1) 1 [c0, c1, c2] := by
  have hb5 := below_set4 hb (g := w.heap.size + 1) (by omega) x0 x1 x2 x3
  exact ⟨((h.put4 x0 x1 x2 x3).alloc _).drew, (hb5.alloc hb5.size _).drew, row_lit hb5.size (by simp [World.setCell])⟩
theorem fin_one0 {w w4 : World} {a0 a1 a2 a3 : Value} (h : BlkS w4 (w.heap.size + 1) #[a0, a1, a2, a3]) (hb : Below w.heap.size w w4) (x0 x1 x2 x3 c0 c1 c2 : Value) :
    BlkS (((((w4.setCell ⟨w.heap.size + 1, 0, none⟩ x0).setCell ⟨w.heap.size + 1, 1, none⟩ x1).setCell ⟨w.heap.size + 1, 2, none⟩ x2).setCell ⟨w.heap.size + 1, 3, none⟩ x3).alloc (.cells #[c0, c1, c2] 41)) (w.heap.size + 1) #[x0, x1, x2, x3] ∧
    Below w.heap.size w (((((w4.setCell ⟨w.heap.size + 1, 0, none⟩ x0).setCell ⟨w.heap.size + 1, 1, none⟩ x1).setCell ⟨w.heap.size + 1, 2, none⟩ x2).setCell ⟨w.heap.size + 1, 3, none⟩ x3).alloc (.cells #[c0, c1, c2] 41)) ∧
    World.ownsRow (((((w4.setCell ⟨w.heap.size + 1, 0, none⟩ x0).setCell ⟨w.heap.size + 1, 1, none⟩ x1).setCell ⟨w.heap.size + 1, 2, none⟩ x2).setCell ⟨w.heap.size + 1, 3, none⟩ x3).alloc (.cells #[c0, c1, c2] 41)) w.heap.size 41 3 (.slice (some ⟨w4.heap.size, 0, none⟩) 1 1) 1 [c0, c1, c2] := by
  have hb5 := below_set4 hb (g := w.heap.size + 1) (by omega) x0 x1 x2 x3
  have hs : ((((w4.setCell ⟨w.heap.size + 1, 0, none⟩ x0).setCell ⟨w.heap.size + 1, 1, none⟩ x1).setCell ⟨w.heap.size + 1, 2, none⟩ x2).setCell ⟨w.heap.size + 1, 3, none⟩ x3).heap.size = w4.heap.size := by simp [World.setCell]
  exact ⟨(h.put4 x0 x1 x2 x3).alloc _, hb5.alloc hb5.size _, (ownlit hs).mono hb.size⟩
theorem fin_none {w w4 : World} {a0 a1 a2 a3 : Value} (h : BlkS w4 (w.heap.size + 1) #[a0, a1, a2, a3]) (hb : Below w.heap.size w w4) (x0 x1 x2 x3 : Value) :
    BlkS ((((((w4.setCell ⟨w.heap.size + 1, 0, none⟩ x0).setCell ⟨w.heap.size + 1, 1, none⟩ x1).setCell ⟨w.heap.size + 1, 2, none⟩ x2).setCell ⟨w.heap.size + 1, 3, none⟩ x3).alloc (.cells #[] 41)).drew) (w.heap.size + 1) #[x0, x1, x2, x3] ∧
    Below w.heap.size w ((((((w4.setCell ⟨w.heap.size + 1, 0, none⟩ x0).setCell ⟨w.heap.size + 1, 1, none⟩ x1).setCell ⟨w.heap.size + 1, 2, none⟩ x2).setCell ⟨w.heap.size + 1, 3, none⟩ x3).alloc (.cells #[] 41)).drew) ∧
    World.ownsRow ((((((w4.setCell ⟨w.heap.size + 1, 0, none⟩ x0).setCell ⟨w.heap.size + 1, 1, none⟩ x1).setCell ⟨w.heap.size + 1, 2, none⟩ x2).setCell ⟨w.heap.size + 1, 3, none⟩ x3).alloc (.cells #[] 41)).drew) w.heap.size 41 3 (.slice (some ⟨w4.heap.size, 0, none⟩) 0 0) 0 (flatC []) := by
  have hb5 := below_set4 hb (g := w.heap.size + 1) (by omega) x0 x1 x2 x3
  exact ⟨((h.put4 x0 x1 x2 x3).alloc _).drew, (hb5.alloc hb5.size _).drew, own_none (by simp [World.setCell]) hb.size⟩

set_option maxRecDepth 100000 in
set_option maxHeartbeats 1000000 in
theorem atom_num (tk : List Tk) (N : Nat) (ih : AllR tk N) (h20 : tk.length ≤ 20000) (p d : Nat) (W K : Value) (w : World) (hN : 10 * (tk.length - p) ≤ N + 1) (hd : d ≤ 41) (hr : RowTk w W K tk) (s : ByteArray) (hsw : s.size ≤ 20000) (hs : tk[p]? = some (2, s)) :
    Calls Tryz.prog 118 #[StV W K p d] w (ReadS tk .atom p d W K w) := by
  obtain ⟨i0, hi, hz0, hz1, hz2⟩ := info_parts infoC
  have HR := Lib.hid hr; have IH := Lib.hid ih; have HSK := Lib.hid hs
  have hpl := at_lt hs
  obtain ⟨⟨ao, cap, rfl, q1, q2, q3⟩, bo, cp, rfl, k1, k2, k3⟩ := hr
  unfold maxLen at q2 k2
  obtain ⟨b, rfl, hbl, cc⟩ := q3.resolve_left (by rintro rfl; simp at hpl)
  obtain ⟨b2, rfl, hbl2, cc2⟩ := k3.resolve_left (by rintro rfl; simp at hpl)
  have hgs : tk[p] = (2, s) := by rw [List.getElem?_eq_getElem hpl] at hs; injection hs
  have C1 := cc p hpl; have C2 := cc2 p hpl
  rw [hgs] at C1 C2
  obtain ⟨hA, hB, hC, hD⟩ := two_laid w #[.slice (some ⟨b, 0, none⟩) tk.length cap, .slice (some ⟨b2, 0, none⟩) tk.length cp, .int .i64 ((p : Int) + 1), .int .i64 (d : Int)] #[.slice none 0 0, .slice none 0 0, .int .i64 0, .int .i64 0]
  have HA := Lib.hid hA; have HB := Lib.hid hB; have HC := Lib.hid hC; have HD := Lib.hid hD
  have hpi : (p : Int) < (tk.length : Int) := by omega
  clear cc cc2 hgs hs q3 k3 ih hA hB hC hD
  go_enter Tryz.func118, Tryz.ntmps118
  go_wp2_with fail
  refine (decimal_spec s _ (by omega)).mono ?_
  rintro e w3 ⟨rfl, hb3⟩
  have HA3 := Lib.hid (HA.out.below hb3); have HB3 := Lib.hid (HB.out.below hb3); have HC3 := Lib.hid (HC.out.trans (hb3.mono HC.out.size))
  clear hb3 HA HB HC
  have HF := Lib.hid (show (numOK s = true ∧ Rs tk .atom p d [(1, numWd s, 0)] (p + 1) 0) ∨ (numOK s = false ∧ NoRd tk .atom p d) from by
    cases hn : numOK s with
    | true => exact .inl ⟨rfl, .num HSK.out hn⟩
    | false => exact .inr ⟨rfl, num_no HSK.out hn⟩)
  unfold numOK numWd at HF
  generalize opOK (decV s.data.toList) (decX s.data.toList) (decY s.data.toList) = OK at HF ⊢
  generalize opT (decV s.data.toList) (decX s.data.toList) (decY s.data.toList) = T at HF ⊢
  generalize opB (decV s.data.toList) (decX s.data.toList) (decY s.data.toList) = B at HF ⊢
  have HAL := Lib.hid (show ∀ (o : Obj), BlkS (w3.alloc o) w.heap.size _ from fun o => HA3.out.alloc o)
  have HBL := Lib.hid (show ∀ (o : Obj), BlkS (w3.alloc o) (w.heap.size + 1) _ from fun o => HB3.out.alloc o)
  have HCL := Lib.hid (show ∀ (o : Obj), Below w.heap.size w (w3.alloc o) from fun o => HC3.out.alloc HC3.out.size o)
  obtain ⟨⟨s0, s1, s2, s3⟩, -⟩ := HA3.out.all
  have l1 : w.heap.size + 1 < w3.heap.size := HB3.out.lt
  have l2 : w.heap.size < w3.heap.size := by omega
  have n1 : ¬ w.heap.size = w3.heap.size := by omega
  have n2 : ¬ w.heap.size + 1 = w3.heap.size := by omega
  go_wp2_with fail
  go_region_with
    ((go_at_call 92; refine (fractionText_spec T B _).mono ?_; rintro e w4 ⟨rfl, hb4⟩; have HA4 := Lib.hid (show BlkS w4 w.heap.size _ from by first | exact (HAL.out _).below hb4 | exact ((HAL.out _).drew).below hb4); have HB4 := Lib.hid (show BlkS w4 (w.heap.size + 1) _ from by first | exact (HBL.out _).below hb4 | exact ((HBL.out _).drew).below hb4); have HC4 := Lib.hid (show Below w.heap.size w w4 from by first | exact (HCL.out _).trans (hb4.mono (HCL.out _).size) | exact ((HCL.out _).drew).trans (hb4.mono (HCL.out _).size)); obtain ⟨⟨t0, t1, t2, t3⟩, -⟩ := HA4.out.all; obtain ⟨⟨r0, r1, r2, r3⟩, z0, z1, z2, z3⟩ := HB4.out.all; have l3 : w.heap.size + 1 < w4.heap.size := HB4.out.lt; have l4 : w.heap.size < w4.heap.size := (by omega); have n3 : ¬ w.heap.size = w4.heap.size := (by omega); have n4 : ¬ w.heap.size + 1 = w4.heap.size := (by omega)))
  all_goals
    obtain ⟨hE, hB, hO⟩ := fin_one0 HB4.out HC4.out (.slice (some ⟨b, 0, none⟩) tk.length cap) (.slice (some ⟨b2, 0, none⟩) tk.length cp) (.int .i64 ((p : Int) + 1)) (.int .i64 (d : Int)) (.int .i64 1) (.string ⟨(textF T B).toArray⟩) (.int .i64 0)
    first
      | (obtain ⟨⟨e0, e1, e2, e3⟩, -⟩ := hE.all
         go_wp2
         exact bodyPost_ret (v := .tuple #[.slice (some ⟨w4.heap.size, 0, none⟩) 1 1, .agg #[.slice (some ⟨b, 0, none⟩) tk.length cap, .slice (some ⟨b2, 0, none⟩) tk.length cp, .int .i64 ((p : Int) + 1), .int .i64 (d : Int)], .bool OK]) (by simp [results, Tryz.results118, go_sem, e0, e1, e2, e3]) rfl
           ⟨_, _, _, [(1, ⟨(textF T B).toArray⟩, 0)], p + 1, (d : Int), OK, ⟨⟨_, _, _, rfl⟩, ⟨_, _, _, rfl⟩⟩, rfl, hO, by simp only [List.length_singleton]; omega, hpl, hB, HF.out.elim (fun ⟨a, b⟩ => .inl ⟨a, rfl, rfl, rfl, b⟩) .inr⟩)
      | (obtain ⟨⟨e0, e1, e2, e3⟩, -⟩ := hE.drew.all
         go_wp2
         exact bodyPost_ret (v := .tuple #[.slice (some ⟨w4.heap.size, 0, none⟩) 1 1, .agg #[.slice (some ⟨b, 0, none⟩) tk.length cap, .slice (some ⟨b2, 0, none⟩) tk.length cp, .int .i64 ((p : Int) + 1), .int .i64 (d : Int)], .bool OK]) (by simp [results, Tryz.results118, go_sem, e0, e1, e2, e3]) rfl
           ⟨_, _, _, [(1, ⟨(textF T B).toArray⟩, 0)], p + 1, (d : Int), OK, ⟨⟨_, _, _, rfl⟩, ⟨_, _, _, rfl⟩⟩, rfl, hO.drew, by simp only [List.length_singleton]; omega, hpl, hB.drew, HF.out.elim (fun ⟨a, b⟩ => .inl ⟨a, rfl, rfl, rfl, b⟩) .inr⟩)

set_option maxRecDepth 100000 in
set_option maxHeartbeats 1000000 in
theorem atom_text (tk : List Tk) (N : Nat) (ih : AllR tk N) (h20 : tk.length ≤ 20000) (p d : Nat) (W K : Value) (w : World) (hN : 10 * (tk.length - p) ≤ N + 1) (hd : d ≤ 41) (hr : RowTk w W K tk) (s : ByteArray) (hsw : s.size ≤ 20000) (hs : tk[p]? = some (3, s)) :
    Calls Tryz.prog 118 #[StV W K p d] w (ReadS tk .atom p d W K w) := by
  obtain ⟨i0, hi, hz0, hz1, hz2⟩ := info_parts infoC
  have HR := Lib.hid hr; have IH := Lib.hid ih; have HSK := Lib.hid hs
  have hpl := at_lt hs
  obtain ⟨⟨ao, cap, rfl, q1, q2, q3⟩, bo, cp, rfl, k1, k2, k3⟩ := hr
  unfold maxLen at q2 k2
  obtain ⟨b, rfl, hbl, cc⟩ := q3.resolve_left (by rintro rfl; simp at hpl)
  obtain ⟨b2, rfl, hbl2, cc2⟩ := k3.resolve_left (by rintro rfl; simp at hpl)
  have hgs : tk[p] = (3, s) := by rw [List.getElem?_eq_getElem hpl] at hs; injection hs
  have C1 := cc p hpl; have C2 := cc2 p hpl
  rw [hgs] at C1 C2
  obtain ⟨hA, hB, hC, hD⟩ := two_laid w #[.slice (some ⟨b, 0, none⟩) tk.length cap, .slice (some ⟨b2, 0, none⟩) tk.length cp, .int .i64 ((p : Int) + 1), .int .i64 (d : Int)] #[.slice none 0 0, .slice none 0 0, .int .i64 0, .int .i64 0]
  have HA := Lib.hid hA; have HB := Lib.hid hB; have HC := Lib.hid hC; have HD := Lib.hid hD
  have hpi : (p : Int) < (tk.length : Int) := by omega
  clear cc cc2 hgs hs q3 k3 ih hA hB hC hD
  go_enter Tryz.func118, Tryz.ntmps118
  go_wp2_with fail
  refine (unquoteText_spec s _ (by unfold maxLen; omega)).mono ?_
  rintro e w4 ⟨rfl, hw4⟩
  have HA4 := Lib.hid (hw4 ▸ HA.out); have HB4 := Lib.hid (hw4 ▸ HB.out); have HC4 := Lib.hid (hw4 ▸ HC.out)
  clear HA HB HC HD hw4
  obtain ⟨⟨s0, s1, s2, s3⟩, -⟩ := HA4.out.all
  have HF := Lib.hid (show (unqOK s = true ∧ Rs tk .atom p d [(2, unqT s, 0)] (p + 1) 0) ∨ (unqOK s = false ∧ NoRd tk .atom p d) from by
    cases hn : unqOK s with
    | true => exact .inl ⟨rfl, .text HSK.out hn⟩
    | false => exact .inr ⟨rfl, text_no HSK.out hn⟩)
  generalize unqOK s = OK at HF ⊢
  generalize unqT s = WD at HF ⊢
  obtain ⟨⟨r0, r1, r2, r3⟩, z0, z1, z2, z3⟩ := HB4.out.all
  have l1 : w.heap.size + 1 < w4.heap.size := HB4.out.lt
  have l2 : w.heap.size < w4.heap.size := by omega
  have n1 : ¬ w.heap.size = w4.heap.size := by omega
  have n2 : ¬ w.heap.size + 1 = w4.heap.size := by omega
  go_wp2_with fail
  go_region
  all_goals
    obtain ⟨hE, hB, hO⟩ := fin_one HB4.out HC4.out (.slice (some ⟨b, 0, none⟩) tk.length cap) (.slice (some ⟨b2, 0, none⟩) tk.length cp) (.int .i64 ((p : Int) + 1)) (.int .i64 (d : Int)) (.int .i64 2) (.string WD) (.int .i64 0)
    obtain ⟨⟨e0, e1, e2, e3⟩, -⟩ := hE.all
    go_wp2
    exact bodyPost_ret (v := .tuple #[.slice (some ⟨w4.heap.size, 0, none⟩) 1 1, .agg #[.slice (some ⟨b, 0, none⟩) tk.length cap, .slice (some ⟨b2, 0, none⟩) tk.length cp, .int .i64 ((p : Int) + 1), .int .i64 (d : Int)], .bool OK]) (by simp [results, Tryz.results118, go_sem, e0, e1, e2, e3]) rfl
      ⟨_, _, _, [(2, WD, 0)], p + 1, (d : Int), OK, ⟨⟨_, _, _, rfl⟩, ⟨_, _, _, rfl⟩⟩, rfl, hO, by simp only [List.length_singleton]; omega, hpl, hB, HF.out.elim (fun ⟨a, b⟩ => .inl ⟨a, rfl, rfl, rfl, b⟩) .inr⟩

set_option maxRecDepth 100000 in
set_option maxHeartbeats 1000000 in
theorem atom_truth (tk : List Tk) (N : Nat) (ih : AllR tk N) (h20 : tk.length ≤ 20000) (p d : Nat) (W K : Value) (w : World) (hN : 10 * (tk.length - p) ≤ N + 1) (hd : d ≤ 41) (hr : RowTk w W K tk) (s : ByteArray) (hsw : s.size ≤ 20000) (hs : tk[p]? = some (1, s)) (ht : s.data.toList = trueL ∨ s.data.toList = falseL) :
    Calls Tryz.prog 118 #[StV W K p d] w (ReadS tk .atom p d W K w) := by
  obtain ⟨i0, hi, hz0, hz1, hz2⟩ := info_parts infoC
  have HR := Lib.hid hr; have IH := Lib.hid ih; have HSK := Lib.hid hs
  have hpl := at_lt hs
  obtain ⟨⟨ao, cap, rfl, q1, q2, q3⟩, bo, cp, rfl, k1, k2, k3⟩ := hr
  unfold maxLen at q2 k2
  obtain ⟨b, rfl, hbl, cc⟩ := q3.resolve_left (by rintro rfl; simp at hpl)
  obtain ⟨b2, rfl, hbl2, cc2⟩ := k3.resolve_left (by rintro rfl; simp at hpl)
  have hgs : tk[p] = (1, s) := by rw [List.getElem?_eq_getElem hpl] at hs; injection hs
  have C1 := cc p hpl; have C2 := cc2 p hpl
  rw [hgs] at C1 C2
  obtain ⟨hA, hB, hC, hD⟩ := two_laid w #[.slice (some ⟨b, 0, none⟩) tk.length cap, .slice (some ⟨b2, 0, none⟩) tk.length cp, .int .i64 ((p : Int) + 1), .int .i64 (d : Int)] #[.slice none 0 0, .slice none 0 0, .int .i64 0, .int .i64 0]
  have HA := Lib.hid hA; have HB := Lib.hid hB; have HC := Lib.hid hC; have HD := Lib.hid hD
  have hpi : (p : Int) < (tk.length : Int) := by omega
  clear cc cc2 hgs hs q3 k3 ih hA hB hC hD
  go_enter Tryz.func118, Tryz.ntmps118
  have hs1 : s = ⟨#[116, 114, 117, 101]⟩ ∨ s = ⟨#[102, 97, 108, 115, 101]⟩ := by
    rcases ht with ht | ht
    · left; exact strL ht
    · right; exact strL ht
  have HF := Lib.hid (Rs.truth (d := d) HSK.out ht)
  rcases hs1 with rfl | rfl
  · go_wp2_with fail
    have n1 : ¬ w.heap.size = w.heap.size + 1 := by omega
    go_region
    all_goals
      go_wp2
      obtain ⟨-, hB2, hC2, hD2⟩ := two_laid w #[.slice (some ⟨b, 0, none⟩) tk.length cap, .slice (some ⟨b2, 0, none⟩) tk.length cp, .int .i64 ((p : Int) + 1), .int .i64 (d : Int)] #[.slice (some ⟨b, 0, none⟩) tk.length cap, .slice (some ⟨b2, 0, none⟩) tk.length cp, .int .i64 ((p : Int) + 1), .int .i64 (d : Int)]
      obtain ⟨⟨e0, e1, e2, e3⟩, -⟩ := ((hB2.alloc (.cells #[.int .i64 3, .string ⟨#[116, 114, 117, 101]⟩, .int .i64 0] 41)).drew).all
      exact bodyPost_ret (v := .tuple #[.slice (some ⟨w.heap.size + 1 + 1, 0, none⟩) 1 1, .agg #[.slice (some ⟨b, 0, none⟩) tk.length cap, .slice (some ⟨b2, 0, none⟩) tk.length cp, .int .i64 ((p : Int) + 1), .int .i64 (d : Int)], .bool true]) (by simp [results, Tryz.results118, go_sem, e0, e1, e2, e3]) rfl
        ⟨_, _, _, [(3, ⟨#[116, 114, 117, 101]⟩, 0)], p + 1, (d : Int), true, ⟨⟨_, _, _, rfl⟩, ⟨_, _, _, rfl⟩⟩, rfl, row_lit hC2.size hD2, by simp only [List.length_singleton]; omega, hpl, (hC2.alloc hC2.size _).drew, .inl ⟨rfl, rfl, rfl, rfl, HF.out⟩⟩
  · go_wp2_with fail
    have n1 : ¬ w.heap.size = w.heap.size + 1 := by omega
    go_region
    all_goals
      go_wp2
      obtain ⟨-, hB2, hC2, hD2⟩ := two_laid w #[.slice (some ⟨b, 0, none⟩) tk.length cap, .slice (some ⟨b2, 0, none⟩) tk.length cp, .int .i64 ((p : Int) + 1), .int .i64 (d : Int)] #[.slice (some ⟨b, 0, none⟩) tk.length cap, .slice (some ⟨b2, 0, none⟩) tk.length cp, .int .i64 ((p : Int) + 1), .int .i64 (d : Int)]
      obtain ⟨⟨e0, e1, e2, e3⟩, -⟩ := ((hB2.alloc (.cells #[.int .i64 3, .string ⟨#[102, 97, 108, 115, 101]⟩, .int .i64 0] 41)).drew).all
      exact bodyPost_ret (v := .tuple #[.slice (some ⟨w.heap.size + 1 + 1, 0, none⟩) 1 1, .agg #[.slice (some ⟨b, 0, none⟩) tk.length cap, .slice (some ⟨b2, 0, none⟩) tk.length cp, .int .i64 ((p : Int) + 1), .int .i64 (d : Int)], .bool true]) (by simp [results, Tryz.results118, go_sem, e0, e1, e2, e3]) rfl
        ⟨_, _, _, [(3, ⟨#[102, 97, 108, 115, 101]⟩, 0)], p + 1, (d : Int), true, ⟨⟨_, _, _, rfl⟩, ⟨_, _, _, rfl⟩⟩, rfl, row_lit hC2.size hD2, by simp only [List.length_singleton]; omega, hpl, (hC2.alloc hC2.size _).drew, .inl ⟨rfl, rfl, rfl, rfl, HF.out⟩⟩

set_option maxRecDepth 100000 in
set_option maxHeartbeats 1000000 in
theorem atom_name (tk : List Tk) (N : Nat) (ih : AllR tk N) (h20 : tk.length ≤ 20000) (p d : Nat) (W K : Value) (w : World) (hN : 10 * (tk.length - p) ≤ N + 1) (hd : d ≤ 41) (hr : RowTk w W K tk) (s : ByteArray) (hsw : s.size ≤ 20000) (hs : tk[p]? = some (1, s)) (ht : s.data.toList ≠ trueL) (hf : s.data.toList ≠ falseL) (hp1 : isT tk (p + 1) [40] = false) :
    Calls Tryz.prog 118 #[StV W K p d] w (ReadS tk .atom p d W K w) := by
  obtain ⟨i0, hi, hz0, hz1, hz2⟩ := info_parts infoC
  have HR := Lib.hid hr; have IH := Lib.hid ih; have HSK := Lib.hid hs
  have hpl := at_lt hs
  obtain ⟨⟨ao, cap, rfl, q1, q2, q3⟩, bo, cp, rfl, k1, k2, k3⟩ := hr
  unfold maxLen at q2 k2
  obtain ⟨b, rfl, hbl, cc⟩ := q3.resolve_left (by rintro rfl; simp at hpl)
  obtain ⟨b2, rfl, hbl2, cc2⟩ := k3.resolve_left (by rintro rfl; simp at hpl)
  have hgs : tk[p] = (1, s) := by rw [List.getElem?_eq_getElem hpl] at hs; injection hs
  have C1 := cc p hpl; have C2 := cc2 p hpl
  rw [hgs] at C1 C2
  obtain ⟨hA, hB, hC, hD⟩ := two_laid w #[.slice (some ⟨b, 0, none⟩) tk.length cap, .slice (some ⟨b2, 0, none⟩) tk.length cp, .int .i64 ((p : Int) + 1), .int .i64 (d : Int)] #[.slice none 0 0, .slice none 0 0, .int .i64 0, .int .i64 0]
  have HA := Lib.hid hA; have HB := Lib.hid hB; have HC := Lib.hid hC; have HD := Lib.hid hD
  have hpi : (p : Int) < (tk.length : Int) := by omega
  clear cc cc2 hgs hs q3 k3 ih hA hB hC hD
  have t1 : (s.toList == [116, 114, 117, 101]) = false := ls_no ht
  have t2 : (s.toList == [102, 97, 108, 115, 101]) = false := ls_no hf
  have HF := Lib.hid (Rs.name (d := d) HSK.out ht hf hp1)
  have HP1 := Lib.hid hp1
  clear ht hf hp1
  go_enter Tryz.func118, Tryz.ntmps118
  go_wp2_with fail
  refine ((show Calls Tryz.prog 77 #[.agg #[.slice _ _ _, .slice _ _ _, .int .i64 ((p : Int) + 1), .int .i64 (d : Int)], .string _] _ _ from l6Is_any _ _ tk (p + 1) d ⟨#[40]⟩ _ (HR.out.mono HC.out) (by omega))).mono ?_
  rintro e w4 ⟨rfl, hb4⟩
  rw [HP1.out]
  have HA4 := Lib.hid (HA.out.below hb4); have HB4 := Lib.hid (HB.out.below hb4); have HC4 := Lib.hid (HC.out.trans (hb4.mono HC.out.size))
  clear hb4 HA HB HC HD
  obtain ⟨⟨s0, s1, s2, s3⟩, -⟩ := HA4.out.all
  obtain ⟨⟨r0, r1, r2, r3⟩, z0, z1, z2, z3⟩ := HB4.out.all
  have l1 : w.heap.size + 1 < w4.heap.size := HB4.out.lt
  have l2 : w.heap.size < w4.heap.size := by omega
  have n1 : ¬ w.heap.size = w4.heap.size := by omega
  have n2 : ¬ w.heap.size + 1 = w4.heap.size := by omega
  go_wp2_with fail
  go_region
  all_goals
    obtain ⟨hE, hB, hO⟩ := fin_one HB4.out HC4.out (.slice (some ⟨b, 0, none⟩) tk.length cap) (.slice (some ⟨b2, 0, none⟩) tk.length cp) (.int .i64 ((p : Int) + 1)) (.int .i64 (d : Int)) (.int .i64 4) (.string s) (.int .i64 0)
    obtain ⟨⟨e0, e1, e2, e3⟩, -⟩ := hE.all
    go_wp2
    exact bodyPost_ret (v := .tuple #[.slice (some ⟨w4.heap.size, 0, none⟩) 1 1, .agg #[.slice (some ⟨b, 0, none⟩) tk.length cap, .slice (some ⟨b2, 0, none⟩) tk.length cp, .int .i64 ((p : Int) + 1), .int .i64 (d : Int)], .bool true]) (by simp [results, Tryz.results118, go_sem, e0, e1, e2, e3]) rfl
      ⟨_, _, _, [(4, s, 0)], p + 1, (d : Int), true, ⟨⟨_, _, _, rfl⟩, ⟨_, _, _, rfl⟩⟩, rfl, hO, by simp only [List.length_singleton]; omega, hpl, hB, .inl ⟨rfl, rfl, rfl, rfl, HF.out⟩⟩

set_option maxRecDepth 100000 in
set_option maxHeartbeats 1000000 in
theorem atom_call (tk : List Tk) (N : Nat) (ih : AllR tk N) (h20 : tk.length ≤ 20000) (p d : Nat) (W K : Value) (w : World) (hN : 10 * (tk.length - p) ≤ N + 1) (hd : d ≤ 41) (hr : RowTk w W K tk) (s : ByteArray) (hsw : s.size ≤ 20000) (hs : tk[p]? = some (1, s)) (ht : s.data.toList ≠ trueL) (hf : s.data.toList ≠ falseL) (hp1 : isT tk (p + 1) [40] = true) :
    Calls Tryz.prog 118 #[StV W K p d] w (ReadS tk .atom p d W K w) := by
  obtain ⟨i0, hi, hz0, hz1, hz2⟩ := info_parts infoC
  have HR := Lib.hid hr; have IH := Lib.hid ih; have HSK := Lib.hid hs
  have hpl := at_lt hs
  obtain ⟨⟨ao, cap, rfl, q1, q2, q3⟩, bo, cp, rfl, k1, k2, k3⟩ := hr
  unfold maxLen at q2 k2
  obtain ⟨b, rfl, hbl, cc⟩ := q3.resolve_left (by rintro rfl; simp at hpl)
  obtain ⟨b2, rfl, hbl2, cc2⟩ := k3.resolve_left (by rintro rfl; simp at hpl)
  have hgs : tk[p] = (1, s) := by rw [List.getElem?_eq_getElem hpl] at hs; injection hs
  have C1 := cc p hpl; have C2 := cc2 p hpl
  rw [hgs] at C1 C2
  obtain ⟨hA, hB, hC, hD⟩ := two_laid w #[.slice (some ⟨b, 0, none⟩) tk.length cap, .slice (some ⟨b2, 0, none⟩) tk.length cp, .int .i64 ((p : Int) + 1), .int .i64 (d : Int)] #[.slice none 0 0, .slice none 0 0, .int .i64 0, .int .i64 0]
  have HA := Lib.hid hA; have HB := Lib.hid hB; have HC := Lib.hid hC; have HD := Lib.hid hD
  have hpi : (p : Int) < (tk.length : Int) := by omega
  clear cc cc2 hgs hs q3 k3 ih hA hB hC hD
  have t1 : (s.toList == [116, 114, 117, 101]) = false := ls_no ht
  have t2 : (s.toList == [102, 97, 108, 115, 101]) = false := ls_no hf
  have HF := Lib.hid (And.intro ht hf)
  have HP1 := Lib.hid hp1
  have hp2 := isT_lt hp1
  clear ht hf hp1
  go_enter Tryz.func118, Tryz.ntmps118
  go_wp2_with fail
  refine ((show Calls Tryz.prog 77 #[.agg #[.slice _ _ _, .slice _ _ _, .int .i64 ((p : Int) + 1), .int .i64 (d : Int)], .string _] _ _ from l6Is_any _ _ tk (p + 1) d ⟨#[40]⟩ _ (HR.out.mono HC.out) (by omega))).mono ?_
  rintro e w4 ⟨rfl, hb4⟩
  rw [HP1.out]
  have HA4 := Lib.hid (HA.out.below hb4); have HB4 := Lib.hid (HB.out.below hb4); have HC4 := Lib.hid (HC.out.trans (hb4.mono HC.out.size))
  clear hb4 HA HB HC HD
  obtain ⟨⟨s0, s1, s2, s3⟩, y0, y1, y2, y3⟩ := HA4.out.all
  have HBX := Lib.hid (BlkS.far HB4.out (f := w.heap.size) 2 (.int .i64 ((p : Int) + 1 + 1)) (by omega))
  have HCX := Lib.hid (HC4.out.setCell (p := ⟨w.heap.size, 2, none⟩) (Nat.le_refl _) (.int .i64 ((p : Int) + 1 + 1)))
  clear HA4 HB4 HC4
  go_wp2_with fail
  refine ((show Calls Tryz.prog 130 #[.agg #[.slice _ _ _, .slice _ _ _, .int .i64 ((p : Int) + 1 + 1), .int .i64 (d : Int)], .string _] _ _ from IH.out.parts (p + 2) d ⟨#[41]⟩ _ _ _ (by omega) (by omega) hd (HR.out.mono HCX.out))).mono ?_
  rintro e w6 ⟨v, W', K', l, q, m, d', ok, ⟨⟨aw, nw, cw, rfl⟩, ⟨ak, nk, ck, rfl⟩⟩, rfl, ho, hlq, hq, hb6, hres⟩
  have HB6 := Lib.hid (HBX.out.below hb6); have HC6 := Lib.hid (HCX.out.trans (hb6.mono HCX.out.size))
  have HRES := Lib.hid hres
  obtain ⟨k1, k2, k3, k4, k5⟩ := BlkS.inner HB6.out HC6.out rfl HC6.out.size (ho.mono (base' := w.heap.size) HCX.out.size) (.slice aw nw cw) (.slice ak nk ck) (.int .i64 (q : Int)) (.int .i64 d') rfl
  have BR4 := Lib.hid k1; have BI4 := Lib.hid k2; have HB4 := Lib.hid k3; have HO4 := Lib.hid k4
  obtain ⟨⟨g0, g1, g2, g3⟩, -⟩ := k2.all
  obtain ⟨⟨r0, r1, r2, r3⟩, z0, z1, z2, z3⟩ := k1.all
  have l6 : w.heap.size + 1 < w6.heap.size := HB6.out.lt
  clear k1 k2 k3 k4 hb6 ho hres HB6 HC6 HBX HCX
  have hlen : l.length ≤ 20000 := by omega
  go_wp2_with fail
  go_region_law
    ((refine step_append_rows (by rfl) _ _ _ (by rfl) (w.heap.size + 2) 41 i0 (.agg #[.int .i64 0, .string ByteArray.empty, .int .i64 0]) 3 32 Tryz.underlying25 hi hz0 hz1 hz2 rfl (by decide) _ 1 [.int .i64 6, .string s, .int .i64 (m : Int)] (by rfl) (row_lit (by omega) k5) _ v l.length (flatC l) (by rfl) ((HO4.out.alloc _).drew) (flatC_one _) (by unfold maxLen; omega) (by omega) (by simp; omega) ?_; intro v5 w5 hown5 hgrow5; obtain ⟨⟨a0, a1, a2, a3⟩, -⟩ := (BI4.out.appended k5 hgrow5).all; obtain ⟨⟨b0, b1, b2, b3⟩, y0, y1, y2, y3⟩ := (BR4.out.appended k5 hgrow5).all))
  all_goals
    have HO5 := Lib.hid hown5; have HG5 := Lib.hid hgrow5
    clear hown5 hgrow5
    have HB5 := Lib.hid (below_appended HB4.out (by omega) k5 HG5.out)
    have HE := Lib.hid (below_set4 HB5.out (g := w.heap.size + 1) (by omega) (.slice aw nw cw) (.slice ak nk ck) (.int .i64 (q : Int)) (.int .i64 d'))
    have HOO := Lib.hid ((own_set4 HO5.out (g := w.heap.size + 1) (by omega) (.slice aw nw cw) (.slice ak nk ck) (.int .i64 (q : Int)) (.int .i64 d')).mono (base' := w.heap.size) (by omega))
    obtain ⟨⟨e0, e1, e2, e3⟩, -⟩ := ((BR4.out.appended k5 HG5.out).put4 (.slice aw nw cw) (.slice ak nk ck) (.int .i64 (q : Int)) (.int .i64 d')).all
    go_wp2
    exact bodyPost_ret (v := .tuple #[v5, .agg #[.slice aw nw cw, .slice ak nk ck, .int .i64 (q : Int), .int .i64 d'], .bool ok]) (by simp [results, Tryz.results118, go_sem, e0, e1, e2, e3]) rfl
      ⟨v5, _, _, (6, s, (m : Int)) :: l, q, d', ok, ⟨⟨_, _, _, rfl⟩, ⟨_, _, _, rfl⟩⟩, rfl, (own_cons HOO.out), by simp only [List.length_cons]; omega, hq, HE.out,
        HRES.out.elim (fun ⟨a, b, c, e, f⟩ => .inl ⟨a, b, c, e, .call HSK.out HF.out.1 HF.out.2 HP1.out f⟩) (fun ⟨a, b⟩ => .inr ⟨a, call_no HSK.out HF.out.1 HF.out.2 HP1.out b⟩)⟩

set_option maxRecDepth 100000 in
set_option maxHeartbeats 1000000 in
theorem atom_list (tk : List Tk) (N : Nat) (ih : AllR tk N) (h20 : tk.length ≤ 20000) (p d : Nat) (W K : Value) (w : World) (hN : 10 * (tk.length - p) ≤ N + 1) (hd : d ≤ 41) (hr : RowTk w W K tk) (s : ByteArray) (hsw : s.size ≤ 20000) (hs : tk[p]? = some (4, s)) (hp1 : isT tk p [91] = true) (hp0 : s = ⟨#[91]⟩) :
    Calls Tryz.prog 118 #[StV W K p d] w (ReadS tk .atom p d W K w) := by
  obtain ⟨i0, hi, hz0, hz1, hz2⟩ := info_parts infoC
  have HR := Lib.hid hr; have IH := Lib.hid ih; have HSK := Lib.hid hs
  have hpl := at_lt hs
  obtain ⟨⟨ao, cap, rfl, q1, q2, q3⟩, bo, cp, rfl, k1, k2, k3⟩ := hr
  unfold maxLen at q2 k2
  obtain ⟨b, rfl, hbl, cc⟩ := q3.resolve_left (by rintro rfl; simp at hpl)
  obtain ⟨b2, rfl, hbl2, cc2⟩ := k3.resolve_left (by rintro rfl; simp at hpl)
  have hgs : tk[p] = (4, s) := by rw [List.getElem?_eq_getElem hpl] at hs; injection hs
  have C1 := cc p hpl; have C2 := cc2 p hpl
  rw [hgs] at C1 C2
  obtain ⟨hA, hB, hC, hD⟩ := two_laid w #[.slice (some ⟨b, 0, none⟩) tk.length cap, .slice (some ⟨b2, 0, none⟩) tk.length cp, .int .i64 ((p : Int) + 1), .int .i64 (d : Int)] #[.slice none 0 0, .slice none 0 0, .int .i64 0, .int .i64 0]
  have HA := Lib.hid hA; have HB := Lib.hid hB; have HC := Lib.hid hC; have HD := Lib.hid hD
  have hpi : (p : Int) < (tk.length : Int) := by omega
  clear cc cc2 hgs hs q3 k3 ih hA hB hC hD
  have HP1 := Lib.hid hp1
  clear hp1
  subst hp0
  go_enter Tryz.func118, Tryz.ntmps118
  have HBX := HB; have HCX := HC
  clear HA HB HC
  go_wp2_with fail
  refine ((show Calls Tryz.prog 130 #[.agg #[.slice _ _ _, .slice _ _ _, .int .i64 ((p : Int) + 1), .int .i64 (d : Int)], .string _] _ _ from IH.out.parts (p + 1) d ⟨#[93]⟩ _ _ _ (by omega) (by omega) hd (HR.out.mono HCX.out))).mono ?_
  rintro e w6 ⟨v, W', K', l, q, m, d', ok, ⟨⟨aw, nw, cw, rfl⟩, ⟨ak, nk, ck, rfl⟩⟩, rfl, ho, hlq, hq, hb6, hres⟩
  have HB6 := Lib.hid (HBX.out.below hb6); have HC6 := Lib.hid (HCX.out.trans (hb6.mono HCX.out.size))
  have HRES := Lib.hid hres
  obtain ⟨k1, k2, k3, k4, k5⟩ := BlkS.inner HB6.out HC6.out rfl HC6.out.size (ho.mono (base' := w.heap.size) HCX.out.size) (.slice aw nw cw) (.slice ak nk ck) (.int .i64 (q : Int)) (.int .i64 d') rfl
  have BR4 := Lib.hid k1; have BI4 := Lib.hid k2; have HB4 := Lib.hid k3; have HO4 := Lib.hid k4
  obtain ⟨⟨g0, g1, g2, g3⟩, -⟩ := k2.all
  obtain ⟨⟨r0, r1, r2, r3⟩, z0, z1, z2, z3⟩ := k1.all
  have l6 : w.heap.size + 1 < w6.heap.size := HB6.out.lt
  clear k1 k2 k3 k4 hb6 ho hres HB6 HC6 HBX HCX
  have hlen : l.length ≤ 20000 := by omega
  go_wp2_with fail
  go_region_law
    ((refine step_append_rows (by rfl) _ _ _ (by rfl) (w.heap.size + 2) 41 i0 (.agg #[.int .i64 0, .string ByteArray.empty, .int .i64 0]) 3 32 Tryz.underlying25 hi hz0 hz1 hz2 rfl (by decide) _ 1 [.int .i64 5, .string ⟨#[]⟩, .int .i64 (m : Int)] (by rfl) (row_lit (by omega) k5) _ v l.length (flatC l) (by rfl) ((HO4.out.alloc _).drew) (flatC_one _) (by unfold maxLen; omega) (by omega) (by simp; omega) ?_; intro v5 w5 hown5 hgrow5; obtain ⟨⟨a0, a1, a2, a3⟩, -⟩ := (BI4.out.appended k5 hgrow5).all; obtain ⟨⟨b0, b1, b2, b3⟩, y0, y1, y2, y3⟩ := (BR4.out.appended k5 hgrow5).all))
  all_goals
    have HO5 := Lib.hid hown5; have HG5 := Lib.hid hgrow5
    clear hown5 hgrow5
    have HB5 := Lib.hid (below_appended HB4.out (by omega) k5 HG5.out)
    have HE := Lib.hid (below_set4 HB5.out (g := w.heap.size + 1) (by omega) (.slice aw nw cw) (.slice ak nk ck) (.int .i64 (q : Int)) (.int .i64 d'))
    have HOO := Lib.hid ((own_set4 HO5.out (g := w.heap.size + 1) (by omega) (.slice aw nw cw) (.slice ak nk ck) (.int .i64 (q : Int)) (.int .i64 d')).mono (base' := w.heap.size) (by omega))
    obtain ⟨⟨e0, e1, e2, e3⟩, -⟩ := ((BR4.out.appended k5 HG5.out).put4 (.slice aw nw cw) (.slice ak nk ck) (.int .i64 (q : Int)) (.int .i64 d')).all
    go_wp2
    exact bodyPost_ret (v := .tuple #[v5, .agg #[.slice aw nw cw, .slice ak nk ck, .int .i64 (q : Int), .int .i64 d'], .bool ok]) (by simp [results, Tryz.results118, go_sem, e0, e1, e2, e3]) rfl
      ⟨v5, _, _, (5, ⟨#[]⟩, (m : Int)) :: l, q, d', ok, ⟨⟨_, _, _, rfl⟩, ⟨_, _, _, rfl⟩⟩, rfl, (own_cons HOO.out), by simp only [List.length_cons]; omega, hq, HE.out,
        HRES.out.elim (fun ⟨a, b, c, e, f⟩ => .inl ⟨a, b, c, e, .list HP1.out f⟩) (fun ⟨a, b⟩ => .inr ⟨a, list_no HP1.out b⟩)⟩

end Go.Proofs.YtncehcklppakcaaGreatDoor

/-
  spec.l6Atom: parentheses, other signs, the end; all of it.
-/
namespace Go.Proofs.YtncehcklppakcaaGreatDoor
open Go.RowKit
set_option linter.unusedVariables false

/-- The end where nothing is read, before another state was kept. -/
theorem fin_none2 {w w4 : World} {a0 a1 a2 a3 : Value} (h : BlkS w4 (w.heap.size + 1) #[a0, a1, a2, a3]) (hb : Below w.heap.size w w4) (x0 x1 x2 x3 : Value) :
    BlkS (((((((w4.setCell ⟨w.heap.size + 1, 0, none⟩ x0).setCell ⟨w.heap.size + 1, 1, none⟩ x1).setCell ⟨w.heap.size + 1, 2, none⟩ x2).setCell ⟨w.heap.size + 1, 3, none⟩ x3).alloc (.cells #[x0, x1, x2, x3] 79)).alloc (.cells #[] 41)).drew) (w.heap.size + 1) #[x0, x1, x2, x3] ∧
    Below w.heap.size w (((((((w4.setCell ⟨w.heap.size + 1, 0, none⟩ x0).setCell ⟨w.heap.size + 1, 1, none⟩ x1).setCell ⟨w.heap.size + 1, 2, none⟩ x2).setCell ⟨w.heap.size + 1, 3, none⟩ x3).alloc (.cells #[x0, x1, x2, x3] 79)).alloc (.cells #[] 41)).drew) ∧
    World.ownsRow (((((((w4.setCell ⟨w.heap.size + 1, 0, none⟩ x0).setCell ⟨w.heap.size + 1, 1, none⟩ x1).setCell ⟨w.heap.size + 1, 2, none⟩ x2).setCell ⟨w.heap.size + 1, 3, none⟩ x3).alloc (.cells #[x0, x1, x2, x3] 79)).alloc (.cells #[] 41)).drew) w.heap.size 41 3 (.slice (some ⟨w4.heap.size + 1, 0, none⟩) 0 0) 0 (flatC []) := by
  have hb5 := below_set4 hb (g := w.heap.size + 1) (by omega) x0 x1 x2 x3
  have hb6 := hb5.alloc hb5.size (.cells #[x0, x1, x2, x3] 79)
  have hs := hb.size
  exact ⟨(((h.put4 x0 x1 x2 x3).alloc _).alloc _).drew, (hb6.alloc hb6.size _).drew, own_none (by simp [World.setCell]) (by omega)⟩

set_option maxRecDepth 100000 in
set_option maxHeartbeats 1000000 in
theorem atom_sign (tk : List Tk) (N : Nat) (ih : AllR tk N) (h20 : tk.length ≤ 20000) (p d : Nat) (W K : Value) (w : World) (hN : 10 * (tk.length - p) ≤ N + 1) (hd : d ≤ 41) (hr : RowTk w W K tk) (s : ByteArray) (hsw : s.size ≤ 20000) (hs : tk[p]? = some (4, s)) (hn1 : isT tk p [40] = false) (hn2 : isT tk p [91] = false) :
    Calls Tryz.prog 118 #[StV W K p d] w (ReadS tk .atom p d W K w) := by
  obtain ⟨i0, hi, hz0, hz1, hz2⟩ := info_parts infoC
  have HR := Lib.hid hr; have IH := Lib.hid ih; have HSK := Lib.hid hs
  have hpl := at_lt hs
  obtain ⟨⟨ao, cap, rfl, q1, q2, q3⟩, bo, cp, rfl, k1, k2, k3⟩ := hr
  unfold maxLen at q2 k2
  obtain ⟨b, rfl, hbl, cc⟩ := q3.resolve_left (by rintro rfl; simp at hpl)
  obtain ⟨b2, rfl, hbl2, cc2⟩ := k3.resolve_left (by rintro rfl; simp at hpl)
  have hgs : tk[p] = (4, s) := by rw [List.getElem?_eq_getElem hpl] at hs; injection hs
  have C1 := cc p hpl; have C2 := cc2 p hpl
  rw [hgs] at C1 C2
  obtain ⟨hA, hB, hC, hD⟩ := two_laid w #[.slice (some ⟨b, 0, none⟩) tk.length cap, .slice (some ⟨b2, 0, none⟩) tk.length cp, .int .i64 ((p : Int) + 1), .int .i64 (d : Int)] #[.slice none 0 0, .slice none 0 0, .int .i64 0, .int .i64 0]
  have HA := Lib.hid hA; have HB := Lib.hid hB; have HC := Lib.hid hC; have HD := Lib.hid hD
  have hpi : (p : Int) < (tk.length : Int) := by omega
  clear cc cc2 hgs hs q3 k3 ih hA hB hC hD
  have HN := Lib.hid (sign_none (p := p) (d := d) HSK.out hn1 hn2)
  have t1 : (s.toList == [40]) = false := by rw [lsS]; unfold isT at hn1; rw [HSK.out] at hn1; simpa using hn1
  have t2 : (s.toList == [91]) = false := by rw [lsS]; unfold isT at hn2; rw [HSK.out] at hn2; simpa using hn2
  clear hn1 hn2
  go_enter Tryz.func118, Tryz.ntmps118
  go_wp2_with fail
  have n1 : ¬ w.heap.size = w.heap.size + 1 := by omega
  go_region
  all_goals
    go_wp2
    obtain ⟨hA, hB, hC, hD⟩ := two_laid w #[.slice (some ⟨b, 0, none⟩) tk.length cap, .slice (some ⟨b2, 0, none⟩) tk.length cp, .int .i64 ((p : Int) + 1), .int .i64 (d : Int)] #[.slice (some ⟨b, 0, none⟩) tk.length cap, .slice (some ⟨b2, 0, none⟩) tk.length cp, .int .i64 ((p : Int) + 1), .int .i64 (d : Int)]
    obtain ⟨⟨e0, e1, e2, e3⟩, -⟩ := ((hB.alloc (.cells #[] 41)).drew).all
    exact bodyPost_ret (v := .tuple #[.slice (some ⟨w.heap.size + 1 + 1, 0, none⟩) 0 0, .agg #[.slice (some ⟨b, 0, none⟩) tk.length cap, .slice (some ⟨b2, 0, none⟩) tk.length cp, .int .i64 ((p : Int) + 1), .int .i64 (d : Int)], .bool false]) (by simp [results, Tryz.results118, go_sem, e0, e1, e2, e3]) rfl
      ⟨_, _, _, [], p + 1, (d : Int), false, ⟨⟨_, _, _, rfl⟩, ⟨_, _, _, rfl⟩⟩, rfl, own_none hD (by omega), by simp only [List.length_nil]; omega, hpl, (hC.alloc hC.size _).drew, .inr ⟨rfl, HN.out⟩⟩

set_option maxRecDepth 100000 in
set_option maxHeartbeats 1000000 in
theorem atom_ends (tk : List Tk) (h20 : tk.length ≤ 20000) (p d : Nat) (W K : Value) (w : World) (hp : p = tk.length) (hr : RowTk w W K tk) :
    Calls Tryz.prog 118 #[StV W K p d] w (ReadS tk .atom p d W K w) := by
  obtain ⟨⟨ao, cap, rfl, q1, q2, q3⟩, bo, cp, rfl, k1, k2, k3⟩ := hr
  unfold maxLen at q2 k2
  have HN := Lib.hid (atom_end (tk := tk) (p := p) (d := d) (by omega))
  have hpe : tk.length ≤ p := by omega
  have hpe2 : p ≤ tk.length := by omega
  have hpi : ((tk.length : Nat) : Int) ≤ (p : Int) := by omega
  clear q3 k3 hp
  go_enter Tryz.func118, Tryz.ntmps118
  go_wp2_with fail
  have n1 : ¬ w.heap.size = w.heap.size + 1 := by omega
  go_region
  all_goals
    go_wp2
    obtain ⟨hA, hB, hC, hD⟩ := two_laid w #[.slice ao tk.length cap, .slice bo tk.length cp, .int .i64 (p : Int), .int .i64 (d : Int)] #[.slice ao tk.length cap, .slice bo tk.length cp, .int .i64 (p : Int), .int .i64 (d : Int)]
    obtain ⟨⟨e0, e1, e2, e3⟩, -⟩ := ((hB.alloc (.cells #[] 41)).drew).all
    exact bodyPost_ret (v := .tuple #[.slice (some ⟨w.heap.size + 1 + 1, 0, none⟩) 0 0, .agg #[.slice ao tk.length cap, .slice bo tk.length cp, .int .i64 (p : Int), .int .i64 (d : Int)], .bool false]) (by simp [results, Tryz.results118, go_sem, e0, e1, e2, e3]) rfl
      ⟨_, _, _, [], p, (d : Int), false, ⟨⟨_, _, _, rfl⟩, ⟨_, _, _, rfl⟩⟩, rfl, own_none hD (by omega), by simp only [List.length_nil]; omega, hpe2, (hC.alloc hC.size _).drew, .inr ⟨rfl, HN.out⟩⟩

set_option maxRecDepth 100000 in
set_option maxHeartbeats 1000000 in
theorem atom_paren (tk : List Tk) (N : Nat) (ih : AllR tk N) (h20 : tk.length ≤ 20000) (p d : Nat) (W K : Value) (w : World) (hN : 10 * (tk.length - p) ≤ N + 1) (hd : d ≤ 41) (hr : RowTk w W K tk) (s : ByteArray) (hsw : s.size ≤ 20000) (hs : tk[p]? = some (4, s)) (hp1 : isT tk p [40] = true) (hp0 : s = ⟨#[40]⟩) :
    Calls Tryz.prog 118 #[StV W K p d] w (ReadS tk .atom p d W K w) := by
  obtain ⟨i0, hi, hz0, hz1, hz2⟩ := info_parts infoC
  have HR := Lib.hid hr; have IH := Lib.hid ih; have HSK := Lib.hid hs
  have hpl := at_lt hs
  obtain ⟨⟨ao, cap, rfl, q1, q2, q3⟩, bo, cp, rfl, k1, k2, k3⟩ := hr
  unfold maxLen at q2 k2
  obtain ⟨b, rfl, hbl, cc⟩ := q3.resolve_left (by rintro rfl; simp at hpl)
  obtain ⟨b2, rfl, hbl2, cc2⟩ := k3.resolve_left (by rintro rfl; simp at hpl)
  have hgs : tk[p] = (4, s) := by rw [List.getElem?_eq_getElem hpl] at hs; injection hs
  have C1 := cc p hpl; have C2 := cc2 p hpl
  rw [hgs] at C1 C2
  obtain ⟨hA, hB, hC, hD⟩ := two_laid w #[.slice (some ⟨b, 0, none⟩) tk.length cap, .slice (some ⟨b2, 0, none⟩) tk.length cp, .int .i64 ((p : Int) + 1), .int .i64 (d : Int)] #[.slice none 0 0, .slice none 0 0, .int .i64 0, .int .i64 0]
  have HA := Lib.hid hA; have HB := Lib.hid hB; have HC := Lib.hid hC; have HD := Lib.hid hD
  have hpi : (p : Int) < (tk.length : Int) := by omega
  clear cc cc2 hgs hs q3 k3 ih hA hB hC hD
  have HP1 := Lib.hid hp1
  clear hp1
  subst hp0
  go_enter Tryz.func118, Tryz.ntmps118
  go_wp2_with fail
  refine ((show Calls Tryz.prog 48 #[.agg #[.slice _ _ _, .slice _ _ _, .int .i64 ((p : Int) + 1), .int .i64 (d : Int)]] _ _ from IH.out.choice (p + 1) d _ _ _ (by omega) (by omega) hd (HR.out.mono HC.out))).mono ?_
  rintro e w6 ⟨v, W', K', l, q, d', ok, ⟨⟨aw, nw, cw, rfl⟩, ⟨ak, nk, ck, rfl⟩⟩, rfl, ho, hlq, hq, hb6, hres⟩
  have HI := Lib.hid (ChI.first rfl hb6 ho (.slice aw nw cw) (.slice ak nk ck) (.int .i64 (q : Int)) (.int .i64 d'))
  have HB6 := Lib.hid (HB.out.below hb6); have HC6 := Lib.hid (HC.out.trans (hb6.mono HC.out.size))
  have l6 : w.heap.size + 1 < w6.heap.size := HB6.out.lt
  have n1 : ¬ w6.heap.size = w.heap.size + 1 := by omega
  have n2 : ¬ w.heap.size + 1 = w6.heap.size := by omega
  have n5 : ¬ w.heap.size + 1 = w6.heap.size + 1 := by omega
  have l9 : w.heap.size + 1 < w6.heap.size + 1 := by omega
  clear hb6 ho HA HB HC HD
  rcases hres with ⟨rfl, hW, hK, hd', hrd⟩ | ⟨rfl, hn⟩
  rotate_left
  · have HN := Lib.hid (paren_no HP1.out hn)
    clear hn HI
    obtain ⟨⟨r0, r1, r2, r3⟩, z0, z1, z2, z3⟩ := HB6.out.all
    go_wp2_with fail
    go_region
    all_goals
      obtain ⟨hE, hB, hO⟩ := fin_none2 HB6.out HC6.out (.slice aw nw cw) (.slice ak nk ck) (.int .i64 (q : Int)) (.int .i64 d')
      obtain ⟨⟨e0, e1, e2, e3⟩, -⟩ := hE.all
      go_wp2
      exact bodyPost_ret (v := .tuple #[.slice (some ⟨w6.heap.size + 1, 0, none⟩) 0 0, .agg #[.slice aw nw cw, .slice ak nk ck, .int .i64 (q : Int), .int .i64 d'], .bool false]) (by simp [results, Tryz.results118, go_sem, e0, e1, e2, e3]) rfl
        ⟨_, _, _, [], q, d', false, ⟨⟨_, _, _, rfl⟩, ⟨_, _, _, rfl⟩⟩, rfl, hO, by simp only [List.length_nil]; omega, hq, hB, .inr ⟨rfl, HN.out⟩⟩
  · simp only [Value.slice.injEq] at hW hK
    obtain ⟨rfl, rfl, rfl⟩ := hW
    obtain ⟨rfl, rfl, rfl⟩ := hK
    replace hd' : d' = (d : Int) := hd'
    subst hd'
    have HRD := Lib.hid hrd
    clear hrd HB6 HC6
    go_wp2_with fail
    refine ((show Calls Tryz.prog 77 #[.agg #[.slice _ _ _, .slice _ _ _, .int .i64 (q : Int), .int .i64 (d : Int)], .string _] _ _ from l6Is_any _ _ tk q d ⟨#[41]⟩ _ (HR.out.mono HI.out.below) (by omega))).mono ?_
    rintro e w7 ⟨rfl, hb7⟩
    have HJ := Lib.hid (HI.out.later hb7)
    clear hb7 HI
    obtain ⟨⟨g0, g1, g2, g3⟩, y0, y1, y2, y3⟩ := HJ.out.inn.all
    obtain ⟨⟨r0, r1, r2, r3⟩, z0, z1, z2, z3⟩ := HJ.out.ans.all
    have l7 := HJ.out.inn.lt
    have l8 : w.heap.size + 1 < w7.heap.size := by omega
    have n8 : ¬ w.heap.size + 1 = w7.heap.size := by omega
    cases hc : isT tk q [41] with
    | false =>
      have HN := Lib.hid (paren_open HP1.out HRD.out hc)
      clear hc
      go_wp2_with fail
      go_region
      all_goals
        obtain ⟨hE, hB, hO⟩ := HJ.out.fail (.slice (some ⟨b, 0, none⟩) tk.length cw) (.slice (some ⟨b2, 0, none⟩) tk.length ck) (.int .i64 (q : Int)) (.int .i64 (d : Int)) (g := w7.heap.size) rfl
        obtain ⟨⟨e0, e1, e2, e3⟩, -⟩ := hE.all
        go_wp2
        exact bodyPost_ret (v := .tuple #[.slice (some ⟨w7.heap.size, 0, none⟩) 0 0, .agg #[.slice (some ⟨b, 0, none⟩) tk.length cw, .slice (some ⟨b2, 0, none⟩) tk.length ck, .int .i64 (q : Int), .int .i64 (d : Int)], .bool false]) (by simp [results, Tryz.results118, go_sem, e0, e1, e2, e3]) rfl
          ⟨_, _, _, [], q, (d : Int), false, ⟨⟨_, _, _, rfl⟩, ⟨_, _, _, rfl⟩⟩, rfl, hO, by simp only [List.length_nil]; omega, hq, hB, .inr ⟨rfl, HN.out⟩⟩
    | true =>
      have hql := isT_lt hc
      have HCC := Lib.hid hc
      clear hc
      go_wp2_with fail
      go_region
      all_goals
        obtain ⟨hE, hB, hO⟩ := (HJ.out.seti (.int .i64 ((q : Int) + 1))).last (.slice (some ⟨b, 0, none⟩) tk.length cw) (.slice (some ⟨b2, 0, none⟩) tk.length ck) (.int .i64 ((q : Int) + 1)) (.int .i64 (d : Int))
        obtain ⟨⟨e0, e1, e2, e3⟩, -⟩ := hE.all
        go_wp2
        exact bodyPost_ret (v := .tuple #[v, .agg #[.slice (some ⟨b, 0, none⟩) tk.length cw, .slice (some ⟨b2, 0, none⟩) tk.length ck, .int .i64 ((q : Int) + 1), .int .i64 (d : Int)], .bool true]) (by simp [results, Tryz.results118, go_sem, e0, e1, e2, e3]) rfl
          ⟨v, _, _, l, q + 1, (d : Int), true, ⟨⟨_, _, _, rfl⟩, ⟨_, _, _, rfl⟩⟩, rfl, hO.drew, by omega, hql, hB.drew, .inl ⟨rfl, rfl, rfl, rfl, .paren HP1.out HRD.out HCC.out⟩⟩

/-- **spec.l6Atom, by what is known of shorter readings.** -/
theorem atom_walk (tk : List Tk) (N : Nat) (ih : AllR tk N) (h20 : tk.length ≤ 20000) (hsz : ∀ x ∈ tk, x.2.size ≤ 20000) (hk4 : ∀ x ∈ tk, 1 ≤ x.1 ∧ x.1 ≤ 4) (p d : Nat) (W K : Value) (w : World) (hp : p ≤ tk.length) (hN : 10 * (tk.length - p) ≤ N + 1) (hd : d ≤ 41) (hr : RowTk w W K tk) :
    Calls Tryz.prog 118 #[StV W K p d] w (ReadS tk .atom p d W K w) := by
  by_cases hpl : p < tk.length
  · have hs : tk[p]? = some (tk[p].1, tk[p].2) := List.getElem?_eq_getElem hpl
    have hsw := hsz _ (List.getElem_mem hpl)
    have hkk := hk4 _ (List.getElem_mem hpl)
    generalize tk[p].1 = k at hs hkk
    generalize tk[p].2 = s at hs hsw
    have h4 : k = 1 ∨ k = 2 ∨ k = 3 ∨ k = 4 := by omega
    rcases h4 with rfl | rfl | rfl | rfl
    · by_cases ht : s.data.toList = trueL
      · exact atom_truth tk N ih h20 p d W K w hN hd hr s hsw hs (.inl ht)
      · by_cases hf : s.data.toList = falseL
        · exact atom_truth tk N ih h20 p d W K w hN hd hr s hsw hs (.inr hf)
        · cases hc : isT tk (p + 1) [40] with
          | true => exact atom_call tk N ih h20 p d W K w hN hd hr s hsw hs ht hf hc
          | false => exact atom_name tk N ih h20 p d W K w hN hd hr s hsw hs ht hf hc
    · exact atom_num tk N ih h20 p d W K w hN hd hr s hsw hs
    · exact atom_text tk N ih h20 p d W K w hN hd hr s hsw hs
    · cases h1 : isT tk p [40] with
      | true =>
        obtain ⟨s', hs', e⟩ := isT_kind h1
        obtain ⟨-, rfl⟩ := two_kinds hs hs'
        exact atom_paren tk N ih h20 p d W K w hN hd hr s hsw hs h1 (strL e)
      | false =>
        cases h2 : isT tk p [91] with
        | true =>
          obtain ⟨s', hs', e⟩ := isT_kind h2
          obtain ⟨-, rfl⟩ := two_kinds hs hs'
          exact atom_list tk N ih h20 p d W K w hN hd hr s hsw hs h2 (strL e)
        | false => exact atom_sign tk N ih h20 p d W K w hN hd hr s hsw hs h1 h2
  · exact atom_ends tk h20 p d W K w (by omega) hr

/-- **spec.l6Choice, by what is known of shorter readings.** -/
theorem choice_walk (tk : List Tk) (N : Nat) (ih : AllR tk N) (h20 : tk.length ≤ 20000) (p d : Nat) (W K : Value) (w : World) (hp : p ≤ tk.length) (hN : 10 * (tk.length - p) + 7 ≤ N) (hd : d ≤ 41) (hr : RowTk w W K tk) :
    Calls Tryz.prog 48 #[StV W K p d] w (ReadS tk .choice p d W K w) := by
  by_cases hd1 : d + 1 ≤ 41
  · by_cases h : ∃ a q m, Rs tk (.level 2) p (d + 1) a q m ∧ isT tk q [63] = true
    · obtain ⟨a, q, m, h1, h2⟩ := h
      exact choice_three_walk tk N ih h20 p d W K w hp hN hd1 hr (fun a' q' m' h' => by obtain ⟨-, rfl, -⟩ := h1.uniq h'; exact h2)
    · exact choice_one_walk tk N ih h20 p d W K w hp hN hd1 hr (fun a q m h1 => by
        cases h2 : isT tk q [63] with
        | true => exact absurd ⟨a, q, m, h1, h2⟩ h
        | false => rfl)
  · exact choice_deep_walk tk h20 p d W K w hp hd hd1 hr

/-- **All of spec's reading functions.** -/
theorem all_r (tk : List Tk) (h20 : tk.length ≤ 20000) (hsz : ∀ x ∈ tk, x.2.size ≤ 20000) (hk4 : ∀ x ∈ tk, 1 ≤ x.1 ∧ x.1 ≤ 4) : ∀ N, AllR tk N := by
  have hz : AllR tk 0 → ∀ N, AllR tk N := by
    intro h0 N
    induction N with
    | zero => exact h0
    | succ N ih =>
      refine ⟨fun p d W K w hp hN hd hr => choice_walk tk N ih h20 p d W K w hp (by omega) hd hr, fun r p d W K w h2 h7 hp hN hd hr => ?_, fun p d W K w hp hN hd hr => unary_walk tk N ih h20 p d W K w hp (by omega) hd hr, fun p d W K w hp hN hd hr => atom_walk tk N ih h20 hsz hk4 p d W K w hp (by omega) hd hr, fun p d c W K w hp hN hd hr => parts_walk tk N ih h20 p d c W K w hp (by omega) hd hr⟩
      by_cases hr7 : r = 7
      · subst hr7
        exact level7_walk tk N ih h20 p d W K w hp (by omega) hd hr
      · exact level_walk tk N ih h20 r p d W K w h2 (by omega) hp (by omega) hd hr
  refine hz ⟨fun p d W K w hp hN hd hr => absurd hN (by omega), fun r p d W K w h2 h7 hp hN hd hr => absurd hN (by omega), fun p d W K w hp hN hd hr => absurd hN (by omega), fun p d W K w hp hN hd hr => ?_, fun p d c W K w hp hN hd hr => absurd hN (by omega)⟩
  exact atom_ends tk h20 p d W K w (by omega) hr

end Go.Proofs.YtncehcklppakcaaGreatDoor
