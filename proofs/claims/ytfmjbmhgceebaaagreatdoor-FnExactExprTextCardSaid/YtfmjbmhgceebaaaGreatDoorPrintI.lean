/-
  impl's writer of expressions: how strong a cell is; what its methods leave.
-/
import Derived.Test.YtfmjbmhgceebaaaGreatDoorWriter
import Derived.Deep.RegionWith
import Derived.Test.YtfmjbmhgceebaaaGreatDoorRankI
import Derived.Test.YtfmjbmhgceebaaaGreatDoorPrintPlain
import Derived.Test.YtfmjbmhgceebaaaGreatDoorQuoteImpl
import Derived.Test.YtfmjbmhgceebaaaGreatDoorExprI
namespace Go.Proofs.YtfmjbmhgceebaaaGreatDoor
open Go.RowKit
set_option linter.unusedVariables false

set_option maxRecDepth 100000 in
set_option maxHeartbeats 4000000 in
theorem rank_any (k m : Int) (s : ByteArray) (w : World) (hk : okC (k, s, m) = true) :
    Calls Tryz.prog 57 #[.agg #[.int .i64 k, .string s, .int .i64 m]] w fun e w' => e = .returned (.int .i64 (rkC (k, s, m) - 1)) ∧ Below w.heap.size w w' := by
  by_cases h9 : k = 9
  · subst h9
    have hr : rkC (9, s, m) - 1 = 0 := rfl
    rw [hr]; clear hr hk
    go_enter Tryz.func57, Tryz.ntmps57
    go_wp2
    go_ret
    exact ⟨rfl, (Below.refl _ _).alloc (Nat.le_refl _) _⟩
  by_cases h8 : k = 8
  · subst h8
    have hp : 0 < rankL s.data.toList := by
      simp only [okC, cellB, wordB, Bool.and_eq_true] at hk; simpa using hk.1
    have hr : rkC (8, s, m) - 1 = rkI s.data.toList := by
      rw [rkI, if_neg (by omega)]; rfl
    rw [hr]
    have hb := rkI_bd s.data.toList
    have HC := Lib.hid (fun w' => binaryRank_any s w')
    generalize rkI s.data.toList = q at HC hb
    clear hr hk hp
    go_enter Tryz.func57, Tryz.ntmps57
    go_wp2_with fail
    refine (HC.out _).mono ?_
    rintro e w1 ⟨rfl, rfl⟩
    go_wp2
    go_ret
    exact ⟨rfl, (Below.refl _ _).alloc (Nat.le_refl _) _⟩
  by_cases h7 : k = 7
  · subst h7
    have hr : rkC (7, s, m) - 1 = 6 := rfl
    rw [hr]; clear hr hk
    go_enter Tryz.func57, Tryz.ntmps57
    go_wp2
    go_ret
    exact ⟨rfl, (Below.refl _ _).alloc (Nat.le_refl _) _⟩
  · have hr : rkC (k, s, m) - 1 = 7 := by simp [rkC, h9, h8, h7]
    rw [hr]
    have n9 : (k == 9) = false := beq_eq_false_iff_ne.mpr h9
    have n8 : (k == 8) = false := beq_eq_false_iff_ne.mpr h8
    have n7 : (k == 7) = false := beq_eq_false_iff_ne.mpr h7
    clear hr hk h9 h8 h7
    go_enter Tryz.func57, Tryz.ntmps57
    go_wp2
    go_ret
    exact ⟨rfl, (Below.refl _ _).alloc (Nat.le_refl _) _⟩

/-- What writes leave. -/
def WrPost (w1 : World) (b : Nat) (lv : Value) (T : List UInt8) (w : World) (e : Ending) (w' : World) : Prop := e = .returned (.tuple #[]) ∧ WrAt w1.heap.size b lv T w' ∧ Below w1.heap.size w1 w' ∧ KT w w'
/-- What a list of cells and its tree are, in the world in which the writer begins. -/
structure Base (w1 : World) (l : List Cl) (lv : Value) (S : Nat → Prop) : Prop where
  row : RowC w1 lv l
  ok : l.all okC = true
  short : l.length ≤ 60
  low : ∀ b, S b → b < w1.heap.size
/-- Expressions of at most j cells are written. -/
def ExprOK (w1 : World) (l : List Cl) (lv : Value) (S : Nat → Prop) (b j : Nat) : Prop :=
  ∀ (N f t d : Nat) (x : Pt) (least : Int) (T : List UInt8) (w : World), TrS w1 (amL l) S [N] f t d → Tx l 1 f t [x] → t - f ≤ j → -1 ≤ least → least ≤ 10 → Below w1.heap.size w1 w → WrAt w1.heap.size b lv T w → T.length + 200 * (t - f) ≤ 100000 →
    Calls Tryz.prog 34 #[.pointer (some ⟨b, 0, none⟩), .pointer (some ⟨N, 0, none⟩), .int .i64 least] w (WrPost w1 b lv (T ++ parT (least + 1) x) w)
def BareOK (w1 : World) (l : List Cl) (lv : Value) (S : Nat → Prop) (b j : Nat) : Prop :=
  ∀ (N f t d : Nat) (x : Pt) (T : List UInt8) (w : World), TrS w1 (amL l) S [N] f t d → Tx l 1 f t [x] → t - f ≤ j → Below w1.heap.size w1 w → WrAt w1.heap.size b lv T w → T.length + 200 * (t - f) ≤ 100010 →
    Calls Tryz.prog 58 #[.pointer (some ⟨b, 0, none⟩), .pointer (some ⟨N, 0, none⟩)] w (WrPost w1 b lv (T ++ x.2) w)

/-- A node's cells in a later world. -/
theorem TrS.later {w1 w : World} {l : List Cl} {S : Nat → Prop} {N f t d : Nat} (h : TrS w1 (amL l) S [N] f t d) (hb : Below w1.heap.size w1 w) : ∃ v, w.cell? ⟨N, 0, none⟩ = some (.int .i64 (f : Int)) ∧ w.cell? ⟨N, 1, none⟩ = some (.int .i64 (t : Int)) ∧ w.cell? ⟨N, 2, none⟩ = some v := by
  obtain ⟨m, e, v, qs, -, -, hN, -⟩ := h.inv
  have := hN.keep hb
  exact ⟨v, this.cell 0, this.cell 1, this.cell 2⟩
/-- The cell at a place in a later world. -/
theorem Base.at {w1 w : World} {l : List Cl} {lv : Value} {S : Nat → Prop} (h : Base w1 l lv S) (hb : Below w1.heap.size w1 w) {f : Nat} {c : Cl} (hc : l[f]? = some c) :
    ∃ b o cap, lv = .slice (some ⟨b, o, none⟩) l.length cap ∧ f < l.length ∧ w.cell? ⟨b, o + f * 3, none⟩ = some (.int .i64 c.1) ∧ w.cell? ⟨b, o + f * 3 + 1, none⟩ = some (.string c.2.1) ∧ w.cell? ⟨b, o + f * 3 + 2, none⟩ = some (.int .i64 c.2.2) ∧ okC c = true := by
  obtain ⟨hl, he⟩ := List.getElem?_eq_some_iff.mp hc
  obtain ⟨ao, cap, rfl, -, -, h3⟩ := h.row
  obtain ⟨b, o, rfl, hbl, cc⟩ := h3.resolve_left (by rintro rfl; simp at hl)
  obtain ⟨c0, c1, c2⟩ := cc f hl
  rw [he] at c0 c1 c2
  exact ⟨b, o, cap, rfl, hl, (hb.cell (p := ⟨b, _, none⟩) hbl).trans c0, (hb.cell (p := ⟨b, _, none⟩) hbl).trans c1, (hb.cell (p := ⟨b, _, none⟩) hbl).trans c2, by rw [← he]; exact okC_all h.ok f hl⟩

theorem WrAt.later {B b : Nat} {lv : Value} {T : List UInt8} {w w' : World} (h : WrAt B b lv T w) (hb : Below w.heap.size w w') : WrAt B b lv T w' := by
  obtain ⟨p, v, hp, h1, h2, h3, h4⟩ := h
  have hlt : b < w.heap.size := WrV.lt ⟨h1, h2, h3, h4⟩
  refine ⟨p, v, hp, h1, (hb.block b hlt).trans h2, ?_, h4⟩
  exact h3.kept (row := none) ⟨hb.os, hb.tape, hb.output, hb.size, fun i hi _ => hb.block i hi⟩ (by cases hv : v.ownBlock with | none => exact .inl rfl | some x => exact .inr (by simp))

set_option maxRecDepth 100000 in
set_option maxHeartbeats 4000000 in
theorem expr_step {w1 : World} {l : List Cl} {lv : Value} {S : Nat → Prop} {b j : Nat} (hB : Base w1 l lv S) (ih : BareOK w1 l lv S b j) : ExprOK w1 l lv S b j := by
  intro N f t d x least T w hT hX hj hl0 hl1 hb hw hlen
  obtain ⟨c, ks, hc, hks, rfl⟩ := hX.inv
  obtain ⟨v, n0, n1, n2⟩ := hT.later hb
  obtain ⟨lb, o, cap, rfl, hfl, c0, c1, c2, hok⟩ := hB.at hb hc
  have h60 := hB.short
  have hwl := hw.list
  have HR := Lib.hid (fun w' => rank_any c.1 c.2.2 c.2.1 w' hok)
  have HIH := Lib.hid (ih N f t d _ · · hT hX hj)
  have hle := hT.exs.le
  have HB := Lib.hid hb; have HW := Lib.hid hw
  have hbd : 0 ≤ rkC c - 1 ∧ rkC c - 1 ≤ 7 := by
    unfold rkC; have := rankL_bd c.2.1.data.toList
    have hp : c.1 = 8 → 0 < rankL c.2.1.data.toList := by
      intro h8
      simp only [okC, cellB, wordB, h8, Bool.and_eq_true] at hok; simpa using hok.1
    repeat' split
    all_goals omega
  have HP := Lib.hid (show parT (least + 1) (rkC c, bareT c ks) = if rkC c - 1 < least then 40 :: (bareT c ks ++ [41]) else bareT c ks by
    unfold parT; simp only [show (rkC c < least + 1) = (rkC c - 1 < least) by simp; omega])
  have hlb := (hX.short hB.ok).1
  simp only [sumT] at hlb
  generalize bareT c ks = bt at HIH HP hlb
  rw [show ((c.1, c.2.1, c.2.2) : Cl) = c from rfl] at HR
  generalize hrk : rkC c - 1 = rk at HR hbd HP
  generalize c.1 = ck at c0 HR
  generalize c.2.1 = cw at c1 HR
  generalize c.2.2 = cm at c2 HR
  have HLT := Lib.hid hw.lt
  clear hrk hok hc hks hT hX ih hb hw hB
  go_enter Tryz.func34, Tryz.ntmps34
  go_wp2_with fail
  go_region_with ((go_at_call 57; refine (HR.out _).mono ?_; rintro e w2 ⟨rfl, hb2⟩))
  all_goals
    have HB2 := Lib.hid (HB.out.drew.trans (hb2.mono HB.out.size))
    have HW2 := Lib.hid ((show WrAt w1.heap.size b _ T w.drew from HW.out).later hb2)
    have HK2 := Lib.hid (show KT w w2 from (show KT w w.drew from KT.refl w).trans (KT.below hb2)); clear hb2
    by_cases hlt : rk < least
    · have HP2 := Lib.hid (HP.out.trans (if_pos hlt))
      go_wp2_with fail
      refine (wByte_any _ b _ T 40 40 (by decide) _ HW2.out (by omega) HB2.out.size).mono ?_
      rintro e w3 ⟨rfl, h3, hb3, hk3⟩
      have H3 := Lib.hid h3; have HB3 := Lib.hid (HB2.out.trans hb3); have HK3 := Lib.hid (HK2.out.trans hk3); clear h3 hb3 hk3
      go_wp2_with fail
      refine (HIH.out _ _ HB3.out H3.out (by simp only [List.length_append, List.length_cons, List.length_nil]; omega)).mono ?_
      rintro e w4 ⟨rfl, h4, hb4, hk4⟩
      have H4 := Lib.hid h4; have HB4 := Lib.hid hb4; have HK4 := Lib.hid (HK3.out.trans hk4); clear h4 hb4 hk4
      go_wp2_with fail
      refine (wByte_any _ b _ _ 41 41 (by decide) _ H4.out (by simp only [List.length_append, List.length_cons, List.length_nil]; omega) HB4.out.size).mono ?_
      rintro e w5 ⟨rfl, h5, hb5, hk5⟩
      have H5 := Lib.hid h5; have HB5 := Lib.hid (HB4.out.trans hb5); have HK5 := Lib.hid (HK4.out.trans hk5); clear h5 hb5 hk5
      go_wp2
      go_end0
      refine ⟨rfl, ?_, HB5.out, HK5.out⟩
      rw [HP2.out]; have := H5.out; simpa using this
    · have HP2 := Lib.hid (HP.out.trans (if_neg hlt))
      go_wp2_with fail
      refine (HIH.out _ _ HB2.out HW2.out (by omega)).mono ?_
      rintro e w4 ⟨rfl, h4, hb4, hk4⟩
      have H4 := Lib.hid h4; have HB4 := Lib.hid hb4; have HK4 := Lib.hid (HK2.out.trans hk4); clear h4 hb4 hk4
      go_wp2
      go_end0
      exact ⟨rfl, by rw [HP2.out]; exact H4.out, HB4.out, HK4.out⟩

end Go.Proofs.YtfmjbmhgceebaaaGreatDoor
