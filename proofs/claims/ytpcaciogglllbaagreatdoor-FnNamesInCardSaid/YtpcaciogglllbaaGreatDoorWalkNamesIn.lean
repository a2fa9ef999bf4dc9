/-
  The walk of laws.FnNamesIn.
-/
import Derived.Test.YtpcaciogglllbaaGreatDoorNamesI
import Derived.Test.YtpcaciogglllbaaGreatDoorNameS1
import Derived.Test.YtpcaciogglllbaaGreatDoorDrawExpr
import Derived.Test.YtpcaciogglllbaaGreatDoorSameTexts
import Derived.Test.YtpcaciogglllbaaGreatDoorBaseD
import Derived.Deep.QuietTactic
import Derived.BigQuiet
namespace Go.Proofs.YtpcaciogglllbaaGreatDoor
open Go.RowKit
set_option linter.unusedVariables false

/-- Drawn cells of an expression. -/
def DrawnN (w : World) (e : Ending) (w' : World) : Prop :=
  ∃ (v : Value) (l : List Cl), e = .returned v ∧ RowC w' v l ∧ (∀ c ∈ l, c.2.1.size ≤ 60) ∧ l.length ≤ 60 ∧ Below w.heap.size w w'

set_option maxHeartbeats 1000000 in
theorem drawNamesIn_any (a : Option Addr) (len cap : Nat) (w : World) (h : CodeRow w a len cap) :
    Calls Tryz.prog 37 #[.slice a len cap] w (DrawnN w) := by
  go_enter Tryz.func37, Tryz.ntmps37
  go_wp2_with fail
  refine (open_codes a len cap _ h).mono ?_
  rintro e w1 ⟨rfl, hr1, hb1, hs1⟩
  have HB := Lib.hid hb1; have HS := Lib.hid hs1
  clear hb1 hs1
  go_wp2_with fail
  refine (expr_any w.heap.size 0 9 _ (by omega) (by omega) (by omega) hr1).mono ?_
  rintro e w2 ⟨v, l, rfl, hrow, hsh, hl60, -, hr2, hg2⟩
  have HB2 := Lib.hid (HB.out.trans (grown_below hg2 (by have := HS.out; omega) (Nat.le_refl _)))
  have HRW := Lib.hid hrow.row; have HSH := Lib.hid hsh
  clear hg2 hr2 HB HS hr1 hrow hsh
  go_wp2
  go_ret
  exact ⟨v, l, rfl, HRW.out, HSH.out, hl60, HB2.out⟩

theorem namesV_asc (l : List Cl) : Asc (namesV l) := by
  unfold namesV; split
  · exact namesL_asc l
  · exact List.Pairwise.nil
theorem namesV_in {l : List Cl} {s : ByteArray} (h : s ∈ namesV l) : ∃ c ∈ l, c.1 = 4 ∧ c.2.1 = s := by
  unfold namesV at h; split at h
  · exact (namesL_mem l s).mp h
  · cases h
theorem namesV_le (l : List Cl) : (namesV l).length ≤ l.length := by
  unfold namesV; split
  · exact namesL_len l
  · simp
theorem geq_text (p0 p1 : ByteArray) (w : World) (h : Op.bytesLess p0.toList p1.toList = true) : (binOp BinOp.geq 9 (.string p0) (.string p1)).run Tryz.prog w = .ok (.bool false) w := by
  have h1 : (binOp BinOp.geq 9 (.string p0) (.string p1)).run Tryz.prog w = .ok (.bool (!Op.bytesLess p0.toList p1.toList)) w := by kernel_rfl
  rw [h1, h]; rfl
theorem beq_textN (a b : ByteArray) : (a.toList == b.toList) = decide (a = b) := by
  by_cases h : a = b
  · subst h; simp
  · rw [decide_eq_false h, beq_eq_false_iff_ne, ByteArray.toList_eq, ByteArray.toList_eq]
    intro e; exact h (ByteArray.ext (by simpa using e))

set_option maxRecDepth 100000 in
set_option maxHeartbeats 8000000 in
theorem fnNamesIn_core (a0 : Option Addr) (len0 cap0 : Nat) (w : World) (hrow : CodeRow w a0 len0 cap0) (htab : Tab w) :
    Calls Tryz.prog 11 #[.slice a0 len0 cap0] w fun e w' => e = .returned (.bool true) ∧ Below w.heap.size w w' := by
  have hcap := hrow.1; have hmx := hrow.2.1
  unfold maxLen at hmx
  by_cases hl : len0 ≤ 1048576
  case neg =>
    clear hrow htab
    go_enter Tryz.func11, Tryz.ntmps11
    go_wp2
    go_ret
    exact ⟨rfl, Below.refl _ _⟩
  go_enter Tryz.func11, Tryz.ntmps11
  go_wp2_with fail
  refine (drawNamesIn_any a0 len0 cap0 _ hrow).mono ?_
  rintro e w1 ⟨v, l, rfl, hr, hs, hl60, hb⟩
  have HB1 := Lib.hid hb; have HR1 := Lib.hid hr; have HSH := Lib.hid hs
  have HZ := Lib.hid (show SizedC l from fun c hc => by have := hs c hc; unfold maxLen; omega)
  have HZ2 := Lib.hid (show ShortC l from fun c hc => by have := hs c hc; omega)
  clear hb hrow hr hs
  have CI := Lib.hid (namesIn_impl v l w1 HR1.out HZ.out (htab.keep HB1.out))
  have CS := Lib.hid (fun w' hr => namesIn_spec v l w' hr HZ2.out (by omega))
  have HAS := Lib.hid (namesV_asc l); have HIN := Lib.hid (fun s => namesV_in (l := l) (s := s))
  have hle := namesV_le l
  generalize namesV l = P at CI CS HAS HIN hle
  obtain ⟨ao, cp, rfl, q1, q2, q3⟩ := HR1.out
  unfold maxLen at q2
  have HQ3 := Lib.hid q3; clear q3
  go_wp2_with fail
  refine CI.out.mono ?_
  rintro e w2 ⟨v2, rfl, ho2, hb2⟩
  have HB2 := Lib.hid (HB1.out.trans (hb2.mono HB1.out.size)); have HR2 := Lib.hid (HR1.out.mono hb2); have HY2 := Lib.hid hb2
  have HO2 := Lib.hid (RowOf.of_own ho2)
  clear ho2 hb2
  go_wp2_with fail
  refine (CS.out _ HR2.out).mono ?_
  rintro e w3 ⟨v3, rfl, ho3, hb3⟩
  have HB3 := Lib.hid (HB2.out.trans (hb3.mono HB2.out.size)); have HO3 := Lib.hid (HO2.out.mono hb3); have HP3 := Lib.hid (RowOf.of_own ho3); have HY3 := Lib.hid (HY2.out.trans (hb3.mono HY2.out.size))
  clear ho3 hb3
  go_wp2_with fail
  refine (sameTexts_any v2 v3 P P _ HO3.out HP3.out).mono ?_
  rintro e w4 ⟨rfl, n4, hw4⟩
  have hb4 : Below w3.heap.size w3 w4 := by rw [hw4]; exact ⟨rfl, rfl, rfl, Nat.le_refl _, fun _ _ => rfl⟩
  have HB4 := Lib.hid (HB3.out.trans (hb4.mono HB3.out.size)); have HO4 := Lib.hid (HO3.out.mono hb4); have HY4 := Lib.hid (HY3.out.trans (hb4.mono HY3.out.size))
  clear hw4 hb4
  rw [show decide (P = P) = true by simp]
  obtain ⟨ap, cpp, hv2, t1, t2, t3⟩ := HO4.out
  rw [strs_length] at hv2 t1
  subst hv2
  have HT3 := Lib.hid t3
  unfold maxLen at t2
  clear t3
  go_wp2_with fail
  go_loopw [5] (fun i wr => ∃ k : Nat, k ≤ P.length ∧ i = .int .i64 (k : Int) ∧ Below w4.heap.size w4 wr) (fun i _ => P.length - (intOf i).toNat)
  case atStart => exact ⟨0, Nat.zero_le _, rfl, Below.refl _ _⟩
  case round =>
    obtain ⟨k, hk, rfl, hbr⟩ := hrel
    have HBR := Lib.hid hbr; clear hbr
    by_cases hlt : k < P.length
    · go_wp2_with fail
      go_loopw [6, 7] (fun a i wr => ∃ (f : Bool) (j : Nat), j ≤ l.length ∧ a = .bool f ∧ i = .int .i64 (j : Int) ∧ (f = false → ∀ q (h : q < l.length), q < j → ¬ (l[q].1 = 4 ∧ l[q].2.1 = P[k])) ∧ Below w4.heap.size w4 wr) (fun _ i _ => l.length - (intOf i).toNat)
      case atStart => exact ⟨false, 0, Nat.zero_le _, rfl, rfl, fun _ q _ h => by omega, HBR.out⟩
      case round =>
        obtain ⟨f, j, hj, rfl, rfl, hno, hbr2⟩ := hrel
        have HNO := Lib.hid hno; have HBR2 := Lib.hid hbr2; clear hno hbr2
        obtain ⟨b', o', rfl, hb'l, cc'⟩ := HT3.out.resolve_left (fun h => by rw [strs, List.map_eq_nil_iff] at h; rw [h] at hlt; simp at hlt)
        have e0 : wr.cell? ⟨b', o' + k, none⟩ = some (.string P[k]) := (HBR2.out.cell (p := ⟨b', _, none⟩) hb'l).trans (cc' k _ (by simp [strs, List.getElem?_eq_getElem hlt]))
        have bk0 : (0 : Int) ≤ (k : Int) := by omega
        have bk1 : (k : Int) < (P.length : Int) := by omega
        clear cc'
        by_cases hjl : j < l.length
        · obtain ⟨b, o, rfl, hbl, cc⟩ := HQ3.out.resolve_left (by rintro rfl; simp at hjl)
          obtain ⟨c0, c1, -⟩ := cc j hjl
          have HYR := Lib.hid (HY4.out.trans (HBR2.out.mono HY4.out.size))
          have d0 : wr.cell? ⟨b, o + j * 3, none⟩ = some (.int .i64 l[j].1) := (HYR.out.cell (p := ⟨b, _, none⟩) hbl).trans c0
          have d1 : wr.cell? ⟨b, o + j * 3 + 1, none⟩ = some (.string l[j].2.1) := (HYR.out.cell (p := ⟨b, _, none⟩) hbl).trans c1
          have bj0 : (0 : Int) ≤ (j : Int) := by omega
          have bj1 : (j : Int) < (l.length : Int) := by omega
          have HNX := Lib.hid (show f = false → ¬ (l[j].1 = 4 ∧ l[j].2.1 = P[k]) → ∀ q (h : q < l.length), q < j + 1 → ¬ (l[q].1 = 4 ∧ l[q].2.1 = P[k]) from fun hf hnn q hq hqj => by
            by_cases hqe : q = j
            · subst hqe; exact hnn
            · exact HNO.out hf q hq (by omega))
          have hbt := beq_textN l[j].2.1 P[k]
          clear cc c0 c1
          cases f with
          | true =>
            clear hbt
            generalize l[j].1 = kk at d0
            generalize l[j].2.1 = ss at d1
            generalize P[k] = pp at e0
            go_wp2_with fail
            go_quiet (fail)
            go_wp2
            go_roundw
            case rel => exact ⟨true, j + 1, by omega, rfl, by go_num, fun h => (by cases h), HBR2.out.trans ⟨rfl, rfl, rfl, Nat.le_refl _, fun _ _ => rfl⟩⟩
            case measure => simp [intOf]; omega
          | false =>
            by_cases ha : l[j].1 = 4
            · by_cases hb : l[j].2.1 = P[k]
              · rw [decide_eq_true hb] at hbt
                rw [ha] at d0
                clear HNX ha hb
                go_wp2_with fail
                go_quiet (fail)
                go_wp2
                go_roundw
                case rel => exact ⟨true, j + 1, by omega, rfl, by go_num, fun h => (by cases h), HBR2.out.trans ⟨rfl, rfl, rfl, Nat.le_refl _, fun _ _ => rfl⟩⟩
                case measure => simp [intOf]; omega
              · rw [decide_eq_false hb] at hbt
                have HN := Lib.hid (HNX.out rfl (fun h => hb h.2))
                rw [ha] at d0
                clear HNX ha hb
                go_wp2_with fail
                go_quiet (fail)
                go_wp2
                go_roundw
                case rel => exact ⟨false, j + 1, by omega, rfl, by go_num, fun _ => HN.out, HBR2.out.trans ⟨rfl, rfl, rfl, Nat.le_refl _, fun _ _ => rfl⟩⟩
                case measure => simp [intOf]; omega
            · have hne : (l[j].1 == 4) = false := beq_eq_false_iff_ne.mpr ha
              have HN := Lib.hid (HNX.out rfl (fun h => ha h.1))
              clear HNX ha hbt
              go_wp2_with fail
              go_quiet (fail)
              go_wp2
              go_roundw
              case rel => exact ⟨false, j + 1, by omega, rfl, by go_num, fun _ => HN.out, HBR2.out.trans ⟨rfl, rfl, rfl, Nat.le_refl _, fun _ _ => rfl⟩⟩
              case measure => simp [intOf]; omega
        · obtain rfl : j = l.length := by omega
          have hft : f = true := by
            cases hf : f with
            | true => rfl
            | false =>
              exfalso
              obtain ⟨c, hc, h1, h2⟩ := HIN.out P[k] (List.getElem_mem hlt)
              obtain ⟨q, hq, rfl⟩ := List.mem_iff_getElem.mp hc
              exact HNO.out hf q hq hq ⟨h1, h2⟩
          subst hft
          clear hj hjl
          by_cases hk0 : k = 0
          · subst hk0
            go_wp2_with fail
            go_quiet (fail)
            go_wp2
            go_roundw
            case rel => exact ⟨1, by omega, rfl, HBR2.out.trans ⟨rfl, rfl, rfl, Nat.le_refl _, fun _ _ => rfl⟩⟩
            case measure => simp [intOf]; omega
          · obtain ⟨k1, hk1⟩ : ∃ k1, k = k1 + 1 := ⟨k - 1, by omega⟩
            have e1 : wr.cell? ⟨b', o' + k1, none⟩ = some (.string (P[k1]'(by omega))) := by
              obtain ⟨b9, o9, h9, -, cc9⟩ := HT3.out.resolve_left (fun h => by rw [strs, List.map_eq_nil_iff] at h; rw [h] at hlt; simp at hlt)
              injection h9 with h9
              injection h9 with h91 h92
              subst h91; subst h92
              exact (HBR2.out.cell (p := ⟨b', _, none⟩) hb'l).trans (cc9 k1 _ (by simp [strs, List.getElem?_eq_getElem (show k1 < P.length by omega)]))
            have hlt9 : Op.bytesLess (P[k1]'(by omega)).toList P[k].toList = true := by
              have h9 := List.pairwise_iff_getElem.mp HAS.out k1 k (by omega) hlt (by omega)
              rw [ByteArray.toList_eq, ByteArray.toList_eq]; exact h9
            have hw9 : wrap64 ((k : Int) - 1) = (k1 : Int) := by unfold wrap64; omega
            have hk2 : (0 : Int) ≤ (k1 : Int) := by omega
            have hk3 : (k1 : Int) < (P.length : Int) := by omega
            have hk5 : decide ((0 : Int) < (k : Int)) = true := decide_eq_true (by omega)
            have hk6 : decide (0 < k) = true := decide_eq_true (by omega)
            have hw8 : IntKind.i64.wrap ((k : Int) - 1) = (k1 : Int) := by rw [IntWalk.i64_in _ (by omega)]; omega
            generalize hp0 : (P[k1]'(by omega)) = p0 at e1 hlt9
            generalize hp1 : P[k] = p1 at e0 hlt9
            have hge := fun w => geq_text p0 p1 w hlt9
            clear hp0 hp1 hk1 hk0 hlt9
            go_wp2_with fail
            go_quiet (fail)
            go_wp2
            go_roundw
            case rel => exact ⟨k + 1, by omega, by go_num, HBR2.out.trans ⟨rfl, rfl, rfl, Nat.le_refl _, fun _ _ => rfl⟩⟩
            case measure => simp [intOf]; omega
    · obtain rfl : k = P.length := by omega
      have hleI : (P.length : Int) ≤ (l.length : Int) := by omega
      go_wp2_with fail
      refine (alive_any _).mono ?_
      rintro e w' ⟨rfl, rfl⟩
      go_wp2
      go_ret
      exact ⟨rfl, HB4.out.trans (HBR.out.mono HB4.out.size)⟩

end Go.Proofs.YtpcaciogglllbaaGreatDoor
