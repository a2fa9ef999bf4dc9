/-
  impl's writer of expressions: binary signs and choices.
-/
import Derived.Test.YtfmjbmhgceebaaaGreatDoorPrintI2
namespace Go.Proofs.YtfmjbmhgceebaaaGreatDoor
open Go.RowKit
set_option linter.unusedVariables false

/-- One part out of several: its node, its place, its text. -/
structure PartAt (w1 : World) (l : List Cl) (S : Nat → Prop) (q f t : Nat) (x : Pt) : Prop where
  tree : ∃ d, TrS w1 (amL l) S [q] f t d
  text : Tx l 1 f t [x]
theorem parts_at {w1 : World} {l : List Cl} {S : Nat → Prop} {qs : List Nat} {m f t e : Nat} {ks : List Pt} (hT : TrS w1 (amL l) S qs f t e) (hX : Tx l m f t ks) (k : Nat) (hk : k < m) (hkq : k < qs.length) :
    ∃ g g' x, ks[k]? = some x ∧ PartAt w1 l S qs[k] g g' x ∧ Tx l k f g (ks.take k) ∧ Tx l (k + 1) f g' (ks.take (k + 1)) ∧ f ≤ g ∧ g < g' ∧ g' ≤ t := by
  obtain ⟨g1, g2, x, x1, x2, x3, x4, -⟩ := hX.at k hk
  obtain ⟨a1, a2, d0, d1, d2, t0, t1, t2, t3, -⟩ := hT.at k hkq
  obtain ⟨dx, hx⟩ := x2.exs
  have h0 := t0.exs
  rw [List.length_take, Nat.min_eq_left (by omega)] at h0
  obtain ⟨rfl, -⟩ := h0.uniq hx
  obtain ⟨dy, hy⟩ := x3.exs
  obtain ⟨rfl, -⟩ := t1.exs.uniq hy
  obtain ⟨dz, hz⟩ := x4.exs
  have l1 := hx.le; have l2 := hy.le; have l3 := hz.le
  exact ⟨_, _, x, x1, ⟨⟨_, t1⟩, x3⟩, x2, x2.snoc x1 x3, by omega, by omega, by omega⟩
theorem ExprOK.part {w1 : World} {l : List Cl} {lv : Value} {S : Nat → Prop} {b j : Nat} (h : ExprOK w1 l lv S b j) {q f t : Nat} {x : Pt} (hp : PartAt w1 l S q f t x) (least : Int) (T : List UInt8) (w : World) (hj : t - f ≤ j) (h0 : -1 ≤ least) (h1 : least ≤ 10) (hb : Below w1.heap.size w1 w) (hw : WrAt w1.heap.size b lv T w) (hlen : T.length + 200 * (t - f) ≤ 100000) :
    Calls Tryz.prog 34 #[.pointer (some ⟨b, 0, none⟩), .pointer (some ⟨q, 0, none⟩), .int .i64 least] w (WrPost w1 b lv (T ++ parT (least + 1) x) w) := by
  obtain ⟨d, hd⟩ := hp.tree
  exact h q f t d x least T w hd hp.text hj h0 h1 hb hw hlen
theorem PartAt.len {w1 : World} {l : List Cl} {lv : Value} {S : Nat → Prop} {q f t : Nat} {x : Pt} (hB : Base w1 l lv S) (hp : PartAt w1 l S q f t x) : x.2.length + 8 ≤ 200 * (t - f) ∧ 1 ≤ x.1 := by
  have h1 := (hp.text.short hB.ok).1
  have h2 := (hp.text.rk hB.ok x (by simp)).1
  simp only [sumT] at h1; omega
/-- A cell in a block of its own. -/
def CpAt (w : World) (g : Nat) (k : Int) (s : ByteArray) (m : Int) : Prop := w.heap[g]? = some (.cells #[.int .i64 k, .string s, .int .i64 m] 41 (0, 0))
theorem CpAt.keep {w w' : World} {g : Nat} {k m : Int} {s : ByteArray} (h : CpAt w g k s m) (hk : KT w w') : CpAt w' g k s m := hk g _ _ _ h (by decide) (by decide)
theorem CpAt.cells {w : World} {g : Nat} {k m : Int} {s : ByteArray} (h : CpAt w g k s m) : w.cell? ⟨g, 0, none⟩ = some (.int .i64 k) ∧ w.cell? ⟨g, 1, none⟩ = some (.string s) ∧ w.cell? ⟨g, 2, none⟩ = some (.int .i64 m) := by
  refine ⟨?_, ?_, ?_⟩ <;> (rw [Lib.cell_of_heap h]; rfl)
theorem CpAt.new (w : World) (k : Int) (s : ByteArray) (m : Int) : CpAt (w.alloc (.cells #[.int .i64 k, .string s, .int .i64 m] 41)) w.heap.size k s m := heap_alloc_new w _
theorem spaced (s : ByteArray) : ((⟨#[32]⟩ : ByteArray) ++ s ++ ⟨#[32]⟩).data.toList = [32] ++ s.data.toList ++ [32] := by simp
theorem wSpaced (B b : Nat) (lv : Value) (T : List UInt8) (s : ByteArray) (w : World) (h : WrAt B b lv T w) (hlen : T.length + s.size ≤ 900000000) (hBw : B ≤ w.heap.size) :
    Calls Tryz.prog 83 #[.pointer (some ⟨b, 1, none⟩), .string ((⟨#[32]⟩ : ByteArray) ++ s ++ ⟨#[32]⟩)] w.drew fun e w' => e = .returned (.tuple #[.int .i64 ((⟨#[32]⟩ : ByteArray) ++ s ++ ⟨#[32]⟩).size, .nilIface]) ∧ WrAt B b lv (T ++ ([32] ++ s.data.toList ++ [32])) w' ∧ Below B w w' ∧ KT w w' := by
  have hs : ((⟨#[32]⟩ : ByteArray) ++ s ++ ⟨#[32]⟩).size = s.size + 2 := by
    rw [← size_list, spaced, ← size_list]; simp
  refine (wString_any B b lv T _ w.drew h (by omega) hBw).mono ?_
  rintro e w' ⟨h1, h2, h3, h4⟩
  rw [spaced] at h2
  exact ⟨h1, h2, (Below.refl B w).drew.trans h3, (show KT w w.drew from KT.refl w).trans h4⟩
theorem first_rank (r : Int) (h : 2 ≤ r) : (if r - 1 = 3 then 4 else r - 1) + 1 = leftR r := by
  unfold leftR; repeat' split
  all_goals omega

set_option maxRecDepth 100000 in
set_option maxHeartbeats 4000000 in
theorem binary_any {w1 : World} {l : List Cl} {lv : Value} {S : Nat → Prop} {b j : Nat} (hB : Base w1 l lv S) (ih : ExprOK w1 l lv S b j) (s : ByteArray) (v : Value) (f t e : Nat) (qs : List Nat) (ks : List Pt) (T : List UInt8) (w : World) (hok : okC (8, s, 2) = true)
    (ho : w1.ownsRow 0 49 1 v 2 (ptrs qs)) (hT : TrS w1 (amL l) S qs f t e) (hX : Tx l 2 f t ks) (hj : t - f ≤ j) (hb : Below w1.heap.size w1 w) (hw : WrAt w1.heap.size b lv T w) (hlen : T.length + 200 * (t - f) ≤ 99900) :
    Calls Tryz.prog 86 #[.pointer (some ⟨b, 0, none⟩), .agg #[.int .i64 8, .string s, .int .i64 2], v] w (WrPost w1 b lv (T ++ (parT (leftR (rankL s.data.toList)) (ptAt ks 0) ++ ([32] ++ s.data.toList ++ [32]) ++ parT (rankL s.data.toList + 1) (ptAt ks 1))) w) := by
  obtain ⟨ao, cap, rfl, h1, h2, h3⟩ := own_ptr ho
  have hm : qs.length = 2 := own_len ho
  unfold maxLen at h2
  obtain ⟨g0, g0', x0, y0, p0, -, z0, b0, b0', b0''⟩ := parts_at hT hX 0 (by omega) (by omega)
  obtain ⟨g1, g1', x1, y1, p1, z1, -, b1, b1', b1''⟩ := parts_at hT hX 1 (by omega) (by omega)
  obtain ⟨rfl, -⟩ := z0.uniq z1
  obtain ⟨blk, rfl, hbl, cc⟩ := h3.resolve_left (by rintro rfl; simp at hm)
  have c0 : w1.cell? ⟨blk, 0, none⟩ = _ := cc 0 (by omega)
  have c1 : w1.cell? ⟨blk, 1, none⟩ = _ := cc 1 (by omega)
  have s0 := p0.len hB; have s1 := p1.len hB
  have hws : s.size ≤ 60 := by simp only [okC, cellB, Bool.and_eq_true] at hok; exact word_len _ _ hok.1
  have hr2 : 2 ≤ rankL s.data.toList ∧ rankL s.data.toList ≤ 6 := by
    refine rankL_in _ ?_
    simp only [okC, cellB, wordB, Bool.and_eq_true] at hok; simpa using hok.1
  have HR := Lib.hid (fun w' => rank_any 8 2 s w' hok)
  have hrk : rkC (8, s, 2) - 1 = rankL s.data.toList - 1 := rfl
  rw [hrk] at HR
  have e0 : ptAt ks 0 = x0 := by rw [ptAt, List.getD_eq_getElem?_getD, y0]; rfl
  have e1 : ptAt ks 1 = x1 := by rw [ptAt, List.getD_eq_getElem?_getD, y1]; rfl
  rw [e0, e1, hm]
  have HF := Lib.hid (first_rank (rankL s.data.toList) hr2.1)
  generalize qs[0] = q0 at p0 c0
  generalize qs[1] = q1 at p1 c1
  have hsz := size_list s
  generalize rankL s.data.toList = r at HR HF hr2
  have HP0 := Lib.hid p0; have HP1 := Lib.hid p1; have IH := Lib.hid ih
  have HB := Lib.hid hb; have HW := Lib.hid hw
  have HC0 := Lib.hid c0; have HC1 := Lib.hid c1
  rw [hm] at h1
  clear h3 hT hX ih hb hw ho hrk e0 e1 y0 y1 z0 z1 p0 p1 cc hok c0 c1
  have d0 : w.cell? ⟨blk, 0, none⟩ = some (.pointer (some ⟨q0, 0, none⟩)) := (HB.out.cell (p := ⟨blk, 0, none⟩) hbl).trans HC0.out
  go_enter Tryz.func86, Tryz.ntmps86
  have HCP := Lib.hid (CpAt.new w 8 s 2)
  have HWA := Lib.hid (HW.out.later ((Below.refl _ _).alloc (Nat.le_refl _) (.cells #[.int .i64 8, .string s, .int .i64 2] 41)))
  have HBA := Lib.hid (HB.out.alloc HB.out.size (.cells #[.int .i64 8, .string s, .int .i64 2] 41))
  have HKA := Lib.hid (KT.alloc w (.cells #[.int .i64 8, .string s, .int .i64 2] 41))
  go_wp2_with fail
  refine (HR.out _).mono ?_
  rintro e w2 ⟨rfl, hb2⟩
  have HCP2 := Lib.hid (HCP.out.keep (KT.below hb2))
  have HW2 := Lib.hid (HWA.out.later hb2); have HB2 := Lib.hid (HBA.out.trans (hb2.mono HBA.out.size)); have HK2 := Lib.hid (HKA.out.trans (KT.below hb2)); clear hb2
  have d2 : w2.cell? ⟨blk, 0, none⟩ = some (.pointer (some ⟨q0, 0, none⟩)) := (HB2.out.cell (p := ⟨blk, 0, none⟩) hbl).trans HC0.out
  by_cases h3 : r - 1 = 3
  · rw [if_pos h3] at HF
    obtain rfl : r = 4 := by omega
    go_wp2_with fail
    refine (IH.out.part HP0.out 4 T w2 (by omega) (by omega) (by omega) HB2.out HW2.out (by omega)).mono ?_
    rintro e w3 ⟨rfl, h3, hb3, hk3⟩
    rw [HF.out] at h3
    have W3 := Lib.hid h3; have HB3 := Lib.hid hb3; have HK3 := Lib.hid (HK2.out.trans hk3); have HCP3 := Lib.hid (HCP2.out.keep hk3); clear h3 hb3 hk3
    obtain ⟨k0, k1, k2⟩ := HCP3.out.cells
    have HLL := Lib.hid (show (T ++ parT (leftR 4) x0).length + s.size ≤ 900000000 by have := parT_len (leftR 4) x0; simp only [List.length_append]; omega)
    have HL2 := Lib.hid (show ((T ++ parT (leftR 4) x0) ++ ([32] ++ s.data.toList ++ [32])).length + 200 * (g1' - g0') ≤ 100000 by have := parT_len (leftR 4) x0; simp only [List.length_append, List.length_cons, List.length_nil]; omega)
    go_wp2_with fail
    go_region_with ((go_at_call 83; refine (wSpaced _ b _ _ s w3 W3.out HLL.out HB3.out.size).mono ?_; rintro e w4 ⟨rfl, h4, hb4, hk4⟩))
    all_goals
      have W4 := Lib.hid h4; have HB4 := Lib.hid (HB3.out.trans hb4); have HK4 := Lib.hid (HK3.out.trans hk4); clear h4 hb4 hk4
      have d4 : w4.cell? ⟨blk, 1, none⟩ = some (.pointer (some ⟨q1, 0, none⟩)) := (HB4.out.cell (p := ⟨blk, 1, none⟩) hbl).trans HC1.out
      go_wp2_with fail
      refine (IH.out.part HP1.out 4 _ w4 (by omega) (by omega) (by omega) HB4.out W4.out HL2.out).mono ?_
      rintro e w5 ⟨rfl, h5, hb5, hk5⟩
      have W5 := Lib.hid h5; have HB5 := Lib.hid hb5; have HK5 := Lib.hid (HK4.out.trans hk5); clear h5 hb5 hk5
      go_wp2
      go_end0
      exact ⟨rfl, by have := W5.out; simpa using this, HB5.out, HK5.out⟩
  · rw [if_neg h3] at HF
    have h3' : (r - 1 == 3) = false := beq_eq_false_iff_ne.mpr h3
    go_wp2_with fail
    refine (IH.out.part HP0.out (r - 1) T w2 (by omega) (by omega) (by omega) HB2.out HW2.out (by omega)).mono ?_
    rintro e w3 ⟨rfl, h3, hb3, hk3⟩
    rw [HF.out] at h3
    have W3 := Lib.hid h3; have HB3 := Lib.hid hb3; have HK3 := Lib.hid (HK2.out.trans hk3); have HCP3 := Lib.hid (HCP2.out.keep hk3); clear h3 hb3 hk3
    obtain ⟨k0, k1, k2⟩ := HCP3.out.cells
    have HLL := Lib.hid (show (T ++ parT (leftR r) x0).length + s.size ≤ 900000000 by have := parT_len (leftR r) x0; simp only [List.length_append]; omega)
    have HL2 := Lib.hid (show ((T ++ parT (leftR r) x0) ++ ([32] ++ s.data.toList ++ [32])).length + 200 * (g1' - g0') ≤ 100000 by have := parT_len (leftR r) x0; simp only [List.length_append, List.length_cons, List.length_nil]; omega)
    go_wp2_with fail
    go_region_with ((go_at_call 83; refine (wSpaced _ b _ _ s w3 W3.out HLL.out HB3.out.size).mono ?_; rintro e w4 ⟨rfl, h4, hb4, hk4⟩))
    all_goals
      have W4 := Lib.hid h4; have HB4 := Lib.hid (HB3.out.trans hb4); have HK4 := Lib.hid (HK3.out.trans hk4); clear h4 hb4 hk4
      have d4 : w4.cell? ⟨blk, 1, none⟩ = some (.pointer (some ⟨q1, 0, none⟩)) := (HB4.out.cell (p := ⟨blk, 1, none⟩) hbl).trans HC1.out
      go_wp2_with fail
      refine (IH.out.part HP1.out r _ w4 (by omega) (by omega) (by omega) HB4.out W4.out HL2.out).mono ?_
      rintro e w5 ⟨rfl, h5, hb5, hk5⟩
      have W5 := Lib.hid h5; have HB5 := Lib.hid hb5; have HK5 := Lib.hid (HK4.out.trans hk5); clear h5 hb5 hk5
      go_wp2
      go_end0
      exact ⟨rfl, by have := W5.out; simpa using this, HB5.out, HK5.out⟩

set_option maxRecDepth 100000 in
set_option maxHeartbeats 4000000 in
theorem choice_any {w1 : World} {l : List Cl} {lv : Value} {S : Nat → Prop} {b j : Nat} (hB : Base w1 l lv S) (ih : ExprOK w1 l lv S b j) (v : Value) (f t e : Nat) (qs : List Nat) (ks : List Pt) (T : List UInt8) (w : World)
    (ho : w1.ownsRow 0 49 1 v 3 (ptrs qs)) (hT : TrS w1 (amL l) S qs f t e) (hX : Tx l 3 f t ks) (hj : t - f ≤ j) (hb : Below w1.heap.size w1 w) (hw : WrAt w1.heap.size b lv T w) (hlen : T.length + 200 * (t - f) ≤ 99900) :
    Calls Tryz.prog 87 #[.pointer (some ⟨b, 0, none⟩), v] w (WrPost w1 b lv (T ++ (parT 2 (ptAt ks 0) ++ [32, 63, 32] ++ (ptAt ks 1).2 ++ [32, 58, 32] ++ (ptAt ks 2).2)) w) := by
  obtain ⟨ao, cap, rfl, h1, h2, h3⟩ := own_ptr ho
  have hm : qs.length = 3 := own_len ho
  unfold maxLen at h2
  obtain ⟨g0, g0', x0, y0, p0, -, z0, b0, b0', b0''⟩ := parts_at hT hX 0 (by omega) (by omega)
  obtain ⟨g1, g1', x1, y1, p1, z1, z1', b1, b1', b1''⟩ := parts_at hT hX 1 (by omega) (by omega)
  obtain ⟨rfl, -⟩ := z0.uniq z1
  obtain ⟨g2, g2', x2, y2, p2, z2, -, b2, b2', b2''⟩ := parts_at hT hX 2 (by omega) (by omega)
  obtain ⟨rfl, -⟩ := z1'.uniq z2
  obtain ⟨blk, rfl, hbl, cc⟩ := h3.resolve_left (by rintro rfl; simp at hm)
  have c0 : w1.cell? ⟨blk, 0, none⟩ = _ := cc 0 (by omega)
  have c1 : w1.cell? ⟨blk, 1, none⟩ = _ := cc 1 (by omega)
  have c2 : w1.cell? ⟨blk, 2, none⟩ = _ := cc 2 (by omega)
  have s0 := p0.len hB; have s1 := p1.len hB; have s2 := p2.len hB
  have e0 : ptAt ks 0 = x0 := by rw [ptAt, List.getD_eq_getElem?_getD, y0]; rfl
  have e1 : ptAt ks 1 = x1 := by rw [ptAt, List.getD_eq_getElem?_getD, y1]; rfl
  have e2 : ptAt ks 2 = x2 := by rw [ptAt, List.getD_eq_getElem?_getD, y2]; rfl
  rw [e0, e1, e2, hm]
  generalize qs[0] = q0 at p0 c0
  generalize qs[1] = q1 at p1 c1
  generalize qs[2] = q2 at p2 c2
  have PB1 := Lib.hid (parT_bare (x := x1) (r := 0 + 1) (by omega)); have PB2 := Lib.hid (parT_bare (x := x2) (r := 0 + 1) (by omega))
  have HP0 := Lib.hid p0; have HP1 := Lib.hid p1; have HP2 := Lib.hid p2; have IH := Lib.hid ih
  have HB := Lib.hid hb; have HW := Lib.hid hw
  have HC1 := Lib.hid c1; have HC2 := Lib.hid c2
  have d0 : w.cell? ⟨blk, 0, none⟩ = some (.pointer (some ⟨q0, 0, none⟩)) := (HB.out.cell (p := ⟨blk, 0, none⟩) hbl).trans c0
  rw [hm] at h1
  have pl0 := parT_len (1 + 1) x0
  clear h3 hT hX ih hb hw ho e0 e1 e2 y0 y1 y2 z0 z1 z1' z2 p0 p1 p2 cc c0 c1 c2
  go_enter Tryz.func87, Tryz.ntmps87
  go_wp2_with fail
  refine (IH.out.part HP0.out 1 T w (by omega) (by omega) (by omega) HB.out HW.out (by omega)).mono ?_
  rintro e w3 ⟨rfl, h3, hb3, hk3⟩
  have W3 := Lib.hid h3; have HB3 := Lib.hid hb3; have HK3 := Lib.hid hk3; clear h3 hb3 hk3
  go_wp2_with fail
  refine (wString_any _ b _ _ ⟨#[32, 63, 32]⟩ _ W3.out (by rw [show (⟨#[32, 63, 32]⟩ : ByteArray).size = 3 from rfl]; simp only [List.length_append]; omega) HB3.out.size).mono ?_
  rintro e w4 ⟨rfl, h4, hb4, hk4⟩
  have W4 := Lib.hid h4; have HB4 := Lib.hid (HB3.out.trans hb4); have HK4 := Lib.hid (HK3.out.trans hk4); clear h4 hb4 hk4
  have d4 : w4.cell? ⟨blk, 1, none⟩ = some (.pointer (some ⟨q1, 0, none⟩)) := (HB4.out.cell (p := ⟨blk, 1, none⟩) hbl).trans HC1.out
  go_wp2_with fail
  refine (IH.out.part HP1.out 0 _ w4 (by omega) (by omega) (by omega) HB4.out W4.out (by simp only [List.length_append, List.length_cons, List.length_nil]; omega)).mono ?_
  rintro e w5 ⟨rfl, h5, hb5, hk5⟩
  rw [PB1.out] at h5
  have W5 := Lib.hid h5; have HB5 := Lib.hid hb5; have HK5 := Lib.hid (HK4.out.trans hk5); clear h5 hb5 hk5
  go_wp2_with fail
  refine (wString_any _ b _ _ ⟨#[32, 58, 32]⟩ _ W5.out (by rw [show (⟨#[32, 58, 32]⟩ : ByteArray).size = 3 from rfl]; simp only [List.length_append, List.length_cons, List.length_nil]; omega) HB5.out.size).mono ?_
  rintro e w6 ⟨rfl, h6, hb6, hk6⟩
  have W6 := Lib.hid h6; have HB6 := Lib.hid (HB5.out.trans hb6); have HK6 := Lib.hid (HK5.out.trans hk6); clear h6 hb6 hk6
  have d6 : w6.cell? ⟨blk, 2, none⟩ = some (.pointer (some ⟨q2, 0, none⟩)) := (HB6.out.cell (p := ⟨blk, 2, none⟩) hbl).trans HC2.out
  go_wp2_with fail
  refine (IH.out.part HP2.out 0 _ w6 (by omega) (by omega) (by omega) HB6.out W6.out (by simp only [List.length_append, List.length_cons, List.length_nil]; omega)).mono ?_
  rintro e w7 ⟨rfl, h7, hb7, hk7⟩
  rw [PB2.out] at h7
  have W7 := Lib.hid h7; have HB7 := Lib.hid hb7; have HK7 := Lib.hid (HK6.out.trans hk7); clear h7 hb7 hk7
  go_wp2
  go_end0
  exact ⟨rfl, by have := W7.out; simpa using this, HB7.out, HK7.out⟩

end Go.Proofs.YtfmjbmhgceebaaaGreatDoor
