/-
  spec's Draw functions of expressions: cells whose words are short, at most 60 of them; a place near them.
-/
import Derived.Test.YtiolpmpbjdclnaaGreatDoorDrawExpr
namespace Go.Proofs.YtiolpmpbjdclnaaGreatDoor
open Go.RowKit
set_option linter.unusedVariables false

/-- Drawn cells. -/
def DrawnL (w : World) (e : Ending) (w' : World) : Prop :=
  ∃ (v : Value) (l : List Cl), e = .returned v ∧ RowC w' v l ∧ (∀ c ∈ l, c.2.1.size ≤ 60) ∧ l.length ≤ 60 ∧ Below w.heap.size w w'
/-- Drawn cells and a place. -/
def DrawnP (w : World) (e : Ending) (w' : World) : Prop :=
  ∃ (v : Value) (l : List Cl) (p : Int), e = .returned (.tuple #[v, .int .i64 p]) ∧ RowC w' v l ∧ (∀ c ∈ l, c.2.1.size ≤ 60) ∧ l.length ≤ 60 ∧ -1 ≤ p ∧ p ≤ (l.length : Int) ∧ Below w.heap.size w w'
theorem res_two {fn : Func} {t u : Tmp} (h : fn.results = #[.tmp t, .tmp u]) (tmps : Array Value) (P : Program) (w : World) :
    (results fn tmps).run P w = .ok (.tuple #[tmps.getD t undef, tmps.getD u undef]) w := by simp [results, h]


set_option maxHeartbeats 1000000 in
theorem drawExprValid_any (a : Option Addr) (len cap : Nat) (w : World) (h : CodeRow w a len cap) :
    Calls Tryz.prog 10 #[.slice a len cap] w (DrawnL w) := by
  go_enter Tryz.func10, Tryz.ntmps10
  go_wp2_with fail
  refine (open_codes a len cap _ h).mono ?_
  rintro e w1 ⟨rfl, hr1, hb1, hs1⟩
  have HB := Lib.hid hb1; have HS := Lib.hid hs1
  clear hb1 hs1
  go_wp2_with fail
  refine (expr_any w.heap.size 0 2 _ (by omega) (by omega) (by omega) hr1).mono ?_
  rintro e w2 ⟨v, l, rfl, hrow, hsh, hl60, -, hr2, hg2⟩
  have HB2 := Lib.hid (HB.out.trans (grown_below hg2 (by have := HS.out; omega) (Nat.le_refl _)))
  have HRW := Lib.hid hrow.row; have HSH := Lib.hid hsh
  clear hg2 hr2 HB HS hr1 hrow hsh
  go_wp2
  go_ret
  exact ⟨v, l, rfl, HRW.out, HSH.out, hl60, HB2.out⟩


set_option maxHeartbeats 1000000 in
theorem drawExprDepth_any (a : Option Addr) (len cap : Nat) (w : World) (h : CodeRow w a len cap) :
    Calls Tryz.prog 22 #[.slice a len cap] w (DrawnL w) := by
  go_enter Tryz.func22, Tryz.ntmps22
  go_wp2_with fail
  refine (open_codes a len cap _ h).mono ?_
  rintro e w1 ⟨rfl, hr1, hb1, hs1⟩
  have HB := Lib.hid hb1; have HS := Lib.hid hs1
  clear hb1 hs1
  go_wp2_with fail
  refine (expr_any w.heap.size 0 6 _ (by omega) (by omega) (by omega) hr1).mono ?_
  rintro e w2 ⟨v, l, rfl, hrow, hsh, hl60, -, hr2, hg2⟩
  have HB2 := Lib.hid (HB.out.trans (grown_below hg2 (by have := HS.out; omega) (Nat.le_refl _)))
  have HRW := Lib.hid hrow.row; have HSH := Lib.hid hsh
  clear hg2 hr2 HB HS hr1 hrow hsh
  go_wp2
  go_ret
  exact ⟨v, l, rfl, HRW.out, HSH.out, hl60, HB2.out⟩


/-- What l20Inside leaves. -/
def InsideD (R : Nat) (w : World) (e : Ending) (w' : World) : Prop :=
  ∃ (v : Value) (l : List Cl) (p : Int), e = .returned (.tuple #[v, .int .i64 p]) ∧ RowC w' v l ∧ (∀ c ∈ l, c.2.1.size ≤ 60) ∧ l.length ≤ 60 ∧ -1 ≤ p ∧ p ≤ (l.length : Int) ∧ w.grownBy w' (some R)
set_option maxRecDepth 100000 in
set_option maxHeartbeats 2000000 in
theorem inside_any (R : Nat) (n : Int) (w : World) (hn0 : 0 ≤ n) (hn1 : n ≤ 1000) (h : Rdm w R 0) :
    Calls Tryz.prog 45 #[.pointer (some ⟨R, 0, none⟩), .int .i64 n] w (InsideD R w) := by
  go_enter Tryz.func45, Tryz.ntmps45
  go_wp2_with fail
  refine (expr_any R 0 n _ (by omega) hn0 hn1 h).mono ?_
  rintro e w2 ⟨v, l, rfl, hrow, hsh, hl60, -, hr2, hg2⟩
  have HRW := Lib.hid hrow; have HSH := Lib.hid hsh; have HG2 := Lib.hid hg2
  obtain ⟨ao, cp, rfl, q1, q2, -⟩ := hrow.row
  unfold maxLen at q2
  clear hrow hsh hg2 h
  go_wp2_with fail
  refine (pick_any R (0 + 1000) _ _ (by omega) hr2).mono ?_
  rintro e w3 ⟨m, rfl, hm0, hm1, hm2, hr3, hg3, hs3⟩
  have HK3 := Lib.hid hg3; have HG3 := Lib.hid (grown_trans HG2.out hg3); clear hg3 hs3 HG2 hr2
  have hm3 : m < (l.length : Int) + 1 := hm1 (by omega)
  clear hm1 hm2
  go_wp2_with fail
  refine (pick_any R (0 + 1000 + 1) 12 _ (by omega) hr3).mono ?_
  rintro e w4 ⟨q, rfl, hq0, hq1, hq2, hr4, hg4, hs4⟩
  have HK4 := Lib.hid (grown_trans HK3.out hg4); have HG4 := Lib.hid (grown_trans HG3.out hg4); clear hg4 hs4 HG3 hr3 hr4 HK3
  have hq3 : q < 12 := hq1 (by omega)
  clear hq1 hq2
  go_wp2
  refine bodyPost_ret (res_two rfl _ _ _) rfl ?_
  exact ⟨_, l, m - q / 11, rfl, HRW.out _ HK4.out, HSH.out, hl60, by omega, by omega, HG4.out⟩


set_option maxHeartbeats 1000000 in
theorem drawExprEnd_any (a : Option Addr) (len cap : Nat) (w : World) (h : CodeRow w a len cap) :
    Calls Tryz.prog 15 #[.slice a len cap] w (DrawnP w) := by
  go_enter Tryz.func15, Tryz.ntmps15
  go_wp2_with fail
  refine (open_codes a len cap _ h).mono ?_
  rintro e w1 ⟨rfl, hr1, hb1, hs1⟩
  have HB := Lib.hid hb1; have HS := Lib.hid hs1
  clear hb1 hs1
  go_wp2_with fail
  refine (inside_any w.heap.size 9 _ (by omega) (by omega) hr1).mono ?_
  rintro e w2 ⟨v, l, p, rfl, hrow, hsh, hl60, hp0, hp1, hg2⟩
  have HB2 := Lib.hid (HB.out.trans (grown_below hg2 (by have := HS.out; omega) (Nat.le_refl _)))
  have HRW := Lib.hid hrow; have HSH := Lib.hid hsh
  clear hg2 HB HS hr1 hrow hsh
  go_wp2
  refine bodyPost_ret (res_two rfl _ _ _) rfl ?_
  exact ⟨v, l, p, rfl, HRW.out, HSH.out, hl60, hp0, hp1, HB2.out⟩


set_option maxHeartbeats 1000000 in
theorem drawExprParts_any (a : Option Addr) (len cap : Nat) (w : World) (h : CodeRow w a len cap) :
    Calls Tryz.prog 18 #[.slice a len cap] w (DrawnP w) := by
  go_enter Tryz.func18, Tryz.ntmps18
  go_wp2_with fail
  refine (open_codes a len cap _ h).mono ?_
  rintro e w1 ⟨rfl, hr1, hb1, hs1⟩
  have HB := Lib.hid hb1; have HS := Lib.hid hs1
  clear hb1 hs1
  go_wp2_with fail
  refine (inside_any w.heap.size 9 _ (by omega) (by omega) hr1).mono ?_
  rintro e w2 ⟨v, l, p, rfl, hrow, hsh, hl60, hp0, hp1, hg2⟩
  have HB2 := Lib.hid (HB.out.trans (grown_below hg2 (by have := HS.out; omega) (Nat.le_refl _)))
  have HRW := Lib.hid hrow; have HSH := Lib.hid hsh
  clear hg2 HB HS hr1 hrow hsh
  go_wp2
  refine bodyPost_ret (res_two rfl _ _ _) rfl ?_
  exact ⟨v, l, p, rfl, HRW.out, HSH.out, hl60, hp0, hp1, HB2.out⟩


end Go.Proofs.YtiolpmpbjdclnaaGreatDoor
