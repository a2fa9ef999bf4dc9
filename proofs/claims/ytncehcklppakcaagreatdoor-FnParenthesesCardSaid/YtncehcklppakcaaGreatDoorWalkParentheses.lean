/-
  The walk of laws.FnParentheses.
-/
import Derived.Test.YtncehcklppakcaaGreatDoorWalkExprText
import Derived.Test.YtncehcklppakcaaGreatDoorAppendC
namespace Go.Proofs.YtncehcklppakcaaGreatDoor
open Go.RowKit
set_option linter.unusedVariables false

theorem undrewB {n : Nat} {w w' : World} (h : Below n w.drew w') : Below n w w' := ⟨h.os, h.tape, h.output, h.size, h.block⟩
theorem sum_size {TA TB WD : ByteArray} (ha : TA.size ≤ 12000) (hb : TB.size ≤ 12000) (hw : WD.size ≤ 2) : ((((((⟨#[40]⟩ ++ TA) ++ ⟨#[41]⟩) ++ WD) ++ ⟨#[40]⟩) ++ TB) ++ ⟨#[41]⟩ : ByteArray).size ≤ 2097152 := by
  simp only [ByteArray.size_append]
  have e1 : (⟨#[40]⟩ : ByteArray).size = 1 := rfl
  have e2 : (⟨#[41]⟩ : ByteArray).size = 1 := rfl
  omega
theorem read_sum {Q : ByteArray} {both : List Cl} (hQ : Q.size ≤ 2097152) (h : RdOK Q both) (w : World) (htab : Tab w) :
    Calls Tryz.prog 17 #[.string Q] w fun e w' => Below w.heap.size w w' ∧ ∃ v, e = .returned (.tuple #[v, .bool true]) ∧ RowC w' v both := by
  refine (readExpr_impl Q w hQ htab).mono ?_
  rintro e w' ⟨hb, ⟨v, c, rfl, hrd, ho⟩ | ⟨rfl, hno⟩⟩
  · obtain rfl := hrd.uniq h
    exact ⟨hb, v, rfl, (RowC.of_own ho).1⟩
  · exact absurd h (hno _)
theorem both_sum {a b both : List Cl} {w : ByteArray} (ha : okE a = true) (hb : okE b = true) (hw : 0 < rankL w.data.toList) (hboth : both = (8, w, 2) :: (a ++ b)) (hok : okE both = true) :
    RdOK ((((((⟨#[40]⟩ ++ ⟨(textE a).toArray⟩) ++ ⟨#[41]⟩) ++ w) ++ ⟨#[40]⟩) ++ ⟨(textE b).toArray⟩) ++ ⟨#[41]⟩) both := by
  have h := both_reads ha hb hw hboth hok
  have e : ((((((⟨#[40]⟩ ++ ⟨(textE a).toArray⟩) ++ ⟨#[41]⟩) ++ w) ++ ⟨#[40]⟩) ++ ⟨(textE b).toArray⟩) ++ ⟨#[41]⟩ : ByteArray) = ⟨(40 :: (textE a ++ (41 :: (w.data.toList ++ (40 :: (textE b ++ [41]))))) : List UInt8).toArray⟩ := by
    apply ba_eq
    simp [ByteArray.data_append]
  rw [e]; exact h
theorem short_both {l l2 : List Cl} {WD : ByteArray} (h : SizedC l) (h2 : SizedC l2) (hs : WD.size ≤ 2) : SizedC ((8, WD, 2) :: (l ++ l2)) := by
  intro c hc
  rw [List.mem_cons, List.mem_append] at hc
  rcases hc with rfl | hc | hc
  · show WD.size ≤ maxLen; unfold maxLen; omega
  · exact h c hc
  · exact h2 c hc
theorem own_both {w : World} {B n : Nat} {T : TypeId} {v : Value} {WD : ByteArray} {l l2 : List Cl} (h : w.ownsRow B T 3 v n (([.int .i64 8, .string WD, .int .i64 2] ++ flatC l) ++ flatC l2)) : w.ownsRow B T 3 v n (flatC ((8, WD, 2) :: (l ++ l2))) := by
  have e : flatC ((8, WD, 2) :: (l ++ l2)) = ([.int .i64 8, .string WD, .int .i64 2] ++ flatC l) ++ flatC l2 := by
    rw [List.append_assoc, ← flatC_append]; rfl
  rw [e]; exact h

set_option maxRecDepth 100000 in
set_option maxHeartbeats 8000000 in
theorem fnParentheses_core (a0 : Option Addr) (len0 cap0 : Nat) (a1 : Option Addr) (len1 cap1 : Nat) (w : World) (hrow0 : CodeRow w a0 len0 cap0) (hrow1 : CodeRow w a1 len1 cap1) (htab : Tab w) :
    Calls Tryz.prog 7 #[.slice a0 len0 cap0, .slice a1 len1 cap1] w fun e w' => e = .returned (.bool true) ∧ Below w.heap.size w w' := by
  obtain ⟨i0, hi, hz0, hz1, hz2⟩ := info_parts infoC
  have hcap := hrow0.1; have hmx := hrow0.2.1
  have hcap1 := hrow1.1; have hmx1 := hrow1.2.1
  unfold maxLen at hmx hmx1
  by_cases hl : len0 ≤ 1048576
  rotate_left
  · have b0 : decide ((1048576 : Int) < (len0 : Int)) = true := decide_eq_true (by omega)
    go_enter Tryz.func7, Tryz.ntmps7
    go_wp2
    go_ret
    exact ⟨rfl, Below.refl _ _⟩
  by_cases hl1 : len1 ≤ 1048576
  rotate_left
  · have b0 : decide ((1048576 : Int) < (len0 : Int)) = false := decide_eq_false (by omega)
    have b1 : decide ((1048576 : Int) < (len1 : Int)) = true := decide_eq_true (by omega)
    go_enter Tryz.func7, Tryz.ntmps7
    go_wp2
    go_ret
    exact ⟨rfl, Below.refl _ _⟩
  have b0 : decide ((1048576 : Int) < (len0 : Int)) = false := decide_eq_false (by omega)
  have b1 : decide ((1048576 : Int) < (len1 : Int)) = false := decide_eq_false (by omega)
  obtain ⟨q, hq⟩ : ∃ q : Nat, len0 % 6 = q := ⟨_, rfl⟩
  have h6 : q = 0 ∨ q = 1 ∨ q = 2 ∨ q = 3 ∨ q = 4 ∨ q = 5 := by omega
  have hqi : (len0 : Int) % 6 = (q : Int) := by omega
  have hq0 : (0 : Int) ≤ (q : Int) := by omega
  have hq1 : (q : Int) < 6 := by omega
  clear hq
  have HC1 := Lib.hid hrow1
  clear hrow1
  go_enter Tryz.func7, Tryz.ntmps7
  go_wp2_with fail
  refine (drawExprText_any a0 len0 cap0 _ hrow0).mono ?_
  rintro e w1 ⟨v, l, rfl, hr, hs, hl60, hb⟩
  have HB := Lib.hid hb; have HR1 := Lib.hid hr; have HSH := Lib.hid (short60 hs)
  clear hb hrow0 hr hs
  go_wp2_with fail
  refine (exprText_impl _ l _ HR1.out HSH.out.1 (htab.keep HB.out)).mono ?_
  rintro e w2 ⟨rfl, hb2⟩
  have HB2 := Lib.hid (HB.out.trans (hb2.mono HB.out.size)); have HR2 := Lib.hid (HR1.out.mono hb2); clear hb2 HB HR1
  go_wp2_with fail
  refine (exprText_spec _ l _ HR2.out HSH.out.2 (by omega)).mono ?_
  rintro e w3 ⟨rfl, hb3⟩
  have HB3 := Lib.hid (HB2.out.trans (hb3.mono HB2.out.size)); have HR3 := Lib.hid (HR2.out.mono hb3); clear hb3 HB2 HR2
  have hts := text_ba_len l
  generalize hT : (⟨(textE l).toArray⟩ : ByteArray) = T at hts ⊢
  have HT := Lib.hid hT; clear hT
  go_wp2_with fail
  refine (drawExprText_any a1 len1 cap1 _ (HC1.out.mono HB3.out)).mono ?_
  rintro e w4 ⟨v2, l2, rfl, hr, hs, hm60, hb⟩
  have HB4 := Lib.hid (HB3.out.trans (hb.mono HB3.out.size)); have HR4 := Lib.hid (HR3.out.mono hb); have HM4 := Lib.hid hr; have HSM := Lib.hid (short60 hs)
  clear hb hr hs HB3 HR3
  obtain ⟨WD, hWD, hrank, hsz⟩ : ∃ WD, (w4.alloc (.cells #[.string ⟨#[43]⟩, .string ⟨#[42]⟩, .string ⟨#[61,61]⟩, .string ⟨#[38,38]⟩, .string ⟨#[124,124]⟩, .string ⟨#[45]⟩] 9)).cell? ⟨w4.heap.size, q, none⟩ = some (.string WD) ∧ 0 < rankL WD.data.toList ∧ WD.size ≤ 2 := by
    rw [cell_of_row _ _ _ _ _ _ (heap_alloc_new _ _)]
    rcases h6 with rfl | rfl | rfl | rfl | rfl | rfl
    · exact ⟨_, rfl, by decide, by decide⟩
    · exact ⟨_, rfl, by decide, by decide⟩
    · exact ⟨_, rfl, by decide, by decide⟩
    · exact ⟨_, rfl, by decide, by decide⟩
    · exact ⟨_, rfl, by decide, by decide⟩
    · exact ⟨_, rfl, by decide, by decide⟩
  have hsum : l.length + 1 ≤ 61 := by omega
  have hsum2 : 1 + l.length + l2.length ≤ 121 := by omega
  have hwlt : w4.heap.size < (w4.alloc (.cells #[.string ⟨#[43]⟩, .string ⟨#[42]⟩, .string ⟨#[61,61]⟩, .string ⟨#[38,38]⟩, .string ⟨#[124,124]⟩, .string ⟨#[45]⟩] 9)).heap.size := by simp
  have HRA := Lib.hid (HR4.out.al (.cells #[.string ⟨#[43]⟩, .string ⟨#[42]⟩, .string ⟨#[61,61]⟩, .string ⟨#[38,38]⟩, .string ⟨#[124,124]⟩, .string ⟨#[45]⟩] 9))
  have HMA := Lib.hid (HM4.out.al (.cells #[.string ⟨#[43]⟩, .string ⟨#[42]⟩, .string ⟨#[61,61]⟩, .string ⟨#[38,38]⟩, .string ⟨#[124,124]⟩, .string ⟨#[45]⟩] 9))
  have HBW := Lib.hid (HB4.out.alloc HB4.out.size (.cells #[.string ⟨#[43]⟩, .string ⟨#[42]⟩, .string ⟨#[61,61]⟩, .string ⟨#[38,38]⟩, .string ⟨#[124,124]⟩, .string ⟨#[45]⟩] 9))
  have hszA : (w4.alloc (.cells #[.string ⟨#[43]⟩, .string ⟨#[42]⟩, .string ⟨#[61,61]⟩, .string ⟨#[38,38]⟩, .string ⟨#[124,124]⟩, .string ⟨#[45]⟩] 9)).heap.size = w4.heap.size + 1 := by simp
  go_wp2_with (at_builtin; refine append_rowC rfl _ _ 25 rfl (w4.heap.size + 1) 41 i0 (.agg #[.int .i64 0, .string ByteArray.empty, .int .i64 0]) 32 Tryz.underlying25 hi hz0 hz1 hz2 (by decide) _ 1 [.int .i64 8, .string WD, .int .i64 2] rfl ?own _ l rfl ?src (by unfold maxLen; omega) (by omega) ?base ?_)
  case own => (have h := World.ownsRow_lit (size := 3) (e := 41) (w4.alloc (.cells #[.string ⟨#[43]⟩, .string ⟨#[42]⟩, .string ⟨#[61,61]⟩, .string ⟨#[38,38]⟩, .string ⟨#[124,124]⟩, .string ⟨#[45]⟩] 9)) #[.int .i64 8, .string WD, .int .i64 2] 1 (Nat.le_of_eq hszA.symm) (by unfold maxLen; omega) rfl; rw [hszA] at h; exact h)
  case src => exact (HRA.out.al _)
  case base => simp
  intro v5 w5 hown5 hgrow5
  have HBA5 := Lib.hid (Below.grown ((Below.refl (w4.heap.size + 1) (w4.alloc (.cells #[.string ⟨#[43]⟩, .string ⟨#[42]⟩, .string ⟨#[61,61]⟩, .string ⟨#[38,38]⟩, .string ⟨#[124,124]⟩, .string ⟨#[45]⟩] 9))).alloc (Nat.le_of_eq hszA.symm) _) hgrow5 (by simp) (by intro k hk; cases hk; exact Nat.le_refl _)); have HO5 := Lib.hid hown5; clear hown5 hgrow5
  go_wp2_with (at_builtin; refine append_rowC rfl _ _ 25 rfl (w4.heap.size + 1) 41 i0 (.agg #[.int .i64 0, .string ByteArray.empty, .int .i64 0]) 32 Tryz.underlying25 hi hz0 hz1 hz2 (by decide) _ _ _ rfl HO5.out _ l2 rfl ?src (by unfold maxLen; omega) (by omega) ?base ?_)
  case src => exact (HMA.out.mono (by rw [hszA]; exact HBA5.out))
  case base => have := HBA5.out.size; rw [hszA] at this; exact this
  intro v6 w6 hown6 hgrow6
  have HBA6 := Lib.hid (Below.grown HBA5.out hgrow6 (by have := HBA5.out.size; rw [hszA] at this; exact this) (fun q hq => (HO5.out.lt q hq).1)); have HO6 := Lib.hid (own_both hown6); clear hown6 hgrow6 HBA5 HO5
  rw [← hszA] at HBA6
  have HB6 := Lib.hid (HBW.out.trans (HBA6.out.mono (Below.size HBW.out)))
  have HR6 := Lib.hid (HRA.out.mono HBA6.out); have HM6 := Lib.hid (HMA.out.mono HBA6.out)
  have HX6 := Lib.hid (RowC.of_own HO6.out).1
  have HW6 := Lib.hid ((HBA6.out.cell (p := ⟨w4.heap.size, _, none⟩) hwlt).trans hWD)
  have hwl6 : w4.heap.size < w6.heap.size := Nat.lt_of_lt_of_le hwlt (Below.size HBA6.out)
  clear hWD hwlt HRA HMA HBW HBA6 HO6 HB4 HM4 HR4
  have HSB := Lib.hid (short_both HSH.out.1 HSM.out.1 hsz)
  go_wp2_with fail
  refine (exprValid_spec _ l _ HR6.out HSH.out.2 (by omega)).mono ?_
  rintro e w7 ⟨rfl, hb7⟩
  have HB7 := Lib.hid (HB6.out.trans (hb7.mono HB6.out.size)); have HX7 := Lib.hid (HX6.out.mono hb7); have HR7 := Lib.hid (HR6.out.mono hb7); have HM7 := Lib.hid (HM6.out.mono hb7)
  have HW7 := Lib.hid ((hb7.cell (p := ⟨w4.heap.size, _, none⟩) hwl6).trans HW6.out)
  have hwl7 : w4.heap.size < w7.heap.size := Nat.lt_of_lt_of_le hwl6 (Below.size hb7)
  clear hb7 HB6 HX6 HR6 HM6 HW6 hwl6
  cases hA : okE l with
  | false =>
    clear hA
    go_wp2_with fail
    refine (alive_any _).mono ?_
    rintro e w' ⟨rfl, rfl⟩
    go_wp2
    go_ret
    exact ⟨rfl, HB7.out⟩
  | true =>
  have HA := Lib.hid hA; clear hA
  go_wp2_with fail
  refine (exprValid_spec _ l2 _ HM7.out HSM.out.2 (by omega)).mono ?_
  rintro e w8 ⟨rfl, hb8⟩
  have HB8 := Lib.hid (HB7.out.trans (hb8.mono HB7.out.size)); have HX8 := Lib.hid (HX7.out.mono hb8); have HR8 := Lib.hid (HR7.out.mono hb8); have HM8 := Lib.hid (HM7.out.mono hb8)
  have HW8 := Lib.hid ((hb8.cell (p := ⟨w4.heap.size, _, none⟩) hwl7).trans HW7.out)
  have hwl8 : w4.heap.size < w8.heap.size := Nat.lt_of_lt_of_le hwl7 (Below.size hb8)
  clear hb8 HB7 HX7 HR7 HM7 HW7 hwl7
  cases hA2 : okE l2 with
  | false =>
    clear hA2
    go_wp2_with fail
    refine (alive_any _).mono ?_
    rintro e w' ⟨rfl, rfl⟩
    go_wp2
    go_ret
    exact ⟨rfl, HB8.out⟩
  | true =>
  have HA2 := Lib.hid hA2; clear hA2
  go_wp2_with fail
  refine (exprValid_impl _ _ _ HX8.out HSB.out (htab.keep HB8.out)).mono ?_
  rintro e w9 ⟨rfl, hb9⟩
  have HB9 := Lib.hid (HB8.out.trans (hb9.mono HB8.out.size)); have HX9 := Lib.hid (HX8.out.mono hb9); have HR9 := Lib.hid (HR8.out.mono hb9); have HM9 := Lib.hid (HM8.out.mono hb9)
  have HW9 := Lib.hid ((hb9.cell (p := ⟨w4.heap.size, _, none⟩) hwl8).trans HW8.out)
  have hwl9 : w4.heap.size < w9.heap.size := Nat.lt_of_lt_of_le hwl8 (Below.size hb9)
  clear hb9 HB8 HX8 HR8 HM8 HW8 hwl8
  generalize hbo : (8, WD, 2) :: (l ++ l2) = both at HX9 HSB ⊢
  have HBO := Lib.hid hbo; clear hbo
  cases hA3 : okE both with
  | false =>
    clear hA3
    go_wp2_with fail
    refine (alive_any _).mono ?_
    rintro e w' ⟨rfl, rfl⟩
    go_wp2
    go_ret
    exact ⟨rfl, HB9.out⟩
  | true =>
  have HA3 := Lib.hid hA3; clear hA3
  go_wp2_with fail
  refine (exprText_impl _ _ _ HX9.out HSB.out (htab.keep HB9.out)).mono ?_
  rintro e w10 ⟨rfl, hb10⟩
  have HB10 := Lib.hid (HB9.out.trans (hb10.mono HB9.out.size)); have HX10 := Lib.hid (HX9.out.mono hb10); have HR10 := Lib.hid (HR9.out.mono hb10); have HM10 := Lib.hid (HM9.out.mono hb10)
  have HW10 := Lib.hid ((hb10.cell (p := ⟨w4.heap.size, _, none⟩) hwl9).trans HW9.out)
  have hwl10 : w4.heap.size < w10.heap.size := Nat.lt_of_lt_of_le hwl9 (Below.size hb10)
  clear hb10 HB9 HX9 HR9 HM9 HW9 hwl9
  have htb := text_ba_len both
  have HRD := Lib.hid (text_reads HA3.out)
  generalize (⟨(textE both).toArray⟩ : ByteArray) = TB at htb HRD ⊢
  go_wp2_with fail
  refine (readExpr_impl TB _ (by omega) (htab.keep HB10.out)).mono ?_
  rintro e w11 ⟨hb11, ⟨v11, c11, rfl, hrd, ho11⟩ | ⟨rfl, hno⟩⟩
  rotate_left
  · exact absurd HRD.out (hno both)
  obtain rfl := hrd.uniq HRD.out
  have HB11 := Lib.hid (HB10.out.trans (hb11.mono HB10.out.size)); have HX11 := Lib.hid (HX10.out.mono hb11); have HR11 := Lib.hid (HR10.out.mono hb11); have HM11 := Lib.hid (HM10.out.mono hb11)
  have HW11 := Lib.hid ((hb11.cell (p := ⟨w4.heap.size, _, none⟩) hwl10).trans HW10.out)
  have HY11 := Lib.hid (RowC.of_own ho11).1
  have hwl11 : w4.heap.size < w11.heap.size := Nat.lt_of_lt_of_le hwl10 (Below.size hb11)
  clear hb11 hrd ho11 HB10 HX10 HR10 HM10 HW10 hwl10
  have hW11 := HW11.out
  have HT11 := Lib.hid (htab.keep HB11.out)
  have hta : (⟨(textE l).toArray⟩ : ByteArray).size ≤ 12000 := text_ba_len l
  have htb2 : (⟨(textE l2).toArray⟩ : ByteArray).size ≤ 12000 := text_ba_len l2
  have HBR := Lib.hid (both_sum HA.out HA2.out hrank HBO.out.symm HA3.out)
  have HEA := Lib.hid (exprText_impl v l w11 HR11.out HSH.out.1 HT11.out)
  have HEAd := Lib.hid (exprText_impl v l w11.drew HR11.out HSH.out.1 HT11.out)
  have HEB := Lib.hid (fun w' (h : Below w11.heap.size w11 w') => exprText_impl v2 l2 w' (HM11.out.mono h) HSM.out.1 (HT11.out.keep h))
  generalize (⟨(textE l).toArray⟩ : ByteArray) = TA at hta HBR HEA HEAd
  generalize (⟨(textE l2).toArray⟩ : ByteArray) = TB at htb2 HBR HEB
  have hqz := sum_size (TA := TA) (TB := TB) (WD := WD) hta htb2 hsz
  have HRX := Lib.hid (fun w' (h : Below w11.heap.size w11 w') => read_sum hqz HBR.out w' (HT11.out.keep h))
  have hqt : (len0 : Int).tmod 6 = (q : Int) := by rw [Int.tmod_eq_emod_of_nonneg (by omega)]; exact hqi
  have f1 : ¬ 9223372036854775807 < 1 + TA.size := by omega
  have f2 : ¬ 9223372036854775807 < 1 + TA.size + 1 := by omega
  have f3 : ¬ 9223372036854775807 < 1 + TA.size + 1 + WD.size := by omega
  have f4 : ¬ 9223372036854775807 < 1 + TA.size + 1 + WD.size + 1 := by omega
  have f5 : ¬ 9223372036854775807 < 1 + TA.size + 1 + WD.size + 1 + TB.size := by omega
  have f6 : ¬ 9223372036854775807 < 1 + TA.size + 1 + WD.size + 1 + TB.size + 1 := by omega
  go_wp2_with fail
  go_region_held3 (fun w' => w'.cell? ⟨w4.heap.size, q, none⟩ = some (.string WD))
    (first
      | go_keep
      | (rw [hbA'.cell (by exact hwl11)]; assumption)
      | (rw [hbB'.cell (by exact Nat.lt_of_lt_of_le hwl11 hbA'.size)]; assumption)
      | (rw [hbR'.cell (by exact Nat.lt_of_lt_of_le hwl11 (Nat.le_trans hbA'.size hbB'.size))]; assumption))
    (first
      | (go_at_call_of 12 v; (refine (show Calls _ _ _ _ _ from (by first | exact HEA.out | exact HEAd.out)).mono ?_; rintro e wA ⟨rfl, hbA⟩; have hbA' : Below w11.heap.size w11 wA := (by first | exact hbA | exact undrewB hbA)))
      | (go_at_call_of 12 v2; (refine (show Calls _ _ _ _ _ from (by first | exact HEB.out _ hbA' | exact HEB.out _ hbA'.drew)).mono ?_; rintro e wB ⟨rfl, hbB⟩; have hbB' : Below wA.heap.size wA wB := (by first | exact hbB | exact undrewB hbB)))
      | (go_at_call 17; (refine (show Calls _ _ _ _ _ from (by first | exact HRX.out _ (hbA'.trans (hbB'.mono hbA'.size)) | exact HRX.out _ ((hbA'.trans (hbB'.mono hbA'.size)).drew))).mono ?_; rintro e wR ⟨hbR, vR, rfl, hrR⟩; have hbR' : Below wB.heap.size wB wR := (by first | exact hbR | exact undrewB hbR))))
  all_goals
    have hbW : Below w11.heap.size w11 wR := (hbA'.trans (hbB'.mono hbA'.size)).trans (hbR'.mono (Nat.le_trans hbA'.size hbB'.size))
    have HBR2 := Lib.hid (HB11.out.trans (hbW.mono HB11.out.size)); have HX12 := Lib.hid (HX11.out.mono hbW); have HY12 := Lib.hid (HY11.out.mono hbW); have HZ12 := Lib.hid hrR
    clear hbA hbA' hbB hbB' hbR hbR' hbW hrR
    go_wp2_with fail
    refine (sameCells_same v11 v6 _ _ HY12.out HX12.out).mono ?_
    rintro e w13 ⟨rfl, hb13⟩
    have HB13 := Lib.hid (HBR2.out.trans (hb13.mono HBR2.out.size)); have HX13 := Lib.hid (HX12.out.mono hb13); have HZ13 := Lib.hid (HZ12.out.mono hb13)
    clear hb13
    go_wp2_with fail
    refine (sameCells_same vR v6 _ _ HZ13.out HX13.out).mono ?_
    rintro e w14 ⟨rfl, hb14⟩
    have HB14 := Lib.hid (HB13.out.trans (hb14.mono HB13.out.size))
    clear hb14
    go_wp2
    go_ret
    exact ⟨rfl, HB14.out⟩

end Go.Proofs.YtncehcklppakcaaGreatDoor
