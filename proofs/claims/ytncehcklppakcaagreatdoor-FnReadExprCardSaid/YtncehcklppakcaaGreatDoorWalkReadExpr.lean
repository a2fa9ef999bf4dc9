/-
  The walk of laws.FnReadExpr.
-/
import Derived.Test.YtncehcklppakcaaGreatDoorBaseW
import Derived.Test.YtncehcklppakcaaGreatDoorBaseF
import Derived.Test.YtncehcklppakcaaGreatDoorSameCells
import Derived.Test.YtncehcklppakcaaGreatDoorAlive
namespace Go.Proofs.YtncehcklppakcaaGreatDoor
open Go.RowKit
set_option linter.unusedVariables false

theorem row_none (w : World) : RowC w (.slice none 0 0) [] := ⟨none, 0, rfl, Nat.le_refl _, by unfold maxLen; omega, .inl rfl⟩
theorem pad_size {s : ByteArray} (h : s.size ≤ 12100) : ((⟨#[32, 32]⟩ ++ s) ++ ⟨#[32]⟩ : ByteArray).size ≤ 12200 := by
  simp only [ByteArray.size_append]
  have e1 : (⟨#[32, 32]⟩ : ByteArray).size = 2 := rfl
  have e2 : (⟨#[32]⟩ : ByteArray).size = 1 := rfl
  omega
theorem par_size {s : ByteArray} (h : s.size ≤ 12000) : ((⟨#[40]⟩ ++ s) ++ ⟨#[41]⟩ : ByteArray).size ≤ 12200 := by
  simp only [ByteArray.size_append]
  have e1 : (⟨#[40]⟩ : ByteArray).size = 1 := rfl
  have e2 : (⟨#[41]⟩ : ByteArray).size = 1 := rfl
  omega
theorem text_size (l : List Cl) : (⟨(textE l).toArray⟩ : ByteArray).size ≤ 12000 := textE_len l

set_option maxRecDepth 100000 in
set_option maxHeartbeats 2000000 in
theorem fnReadExpr_core (a0 : Option Addr) (len0 cap0 : Nat) (w : World) (hrow : CodeRow w a0 len0 cap0) (htab : Tab w) :
    Calls Tryz.prog 5 #[.slice a0 len0 cap0] w fun e w' => e = .returned (.bool true) ∧ Below w.heap.size w w' := by
  have hcap := hrow.1; have hmx := hrow.2.1
  unfold maxLen at hmx
  have HT := Lib.hid htab
  clear htab
  by_cases hl : len0 ≤ 1048576
  · go_enter Tryz.func5, Tryz.ntmps5
    go_wp2_with fail
    refine (drawReadExpr_any a0 len0 cap0 _ hrow).mono ?_
    rintro e w1 ⟨s, rfl, hs, hn, hb⟩
    have HB := Lib.hid hb; have HIF := Lib.hid (sp_iff hn)
    clear hb hrow hn
    go_wp2_with fail
    refine (readExpr_impl s _ (by omega) (HT.out.keep HB.out)).mono ?_
    rintro e w2 ⟨hb2, ⟨v2, c, rfl, hrd, ho2⟩ | ⟨rfl, hno⟩⟩
    · have HB2 := Lib.hid (HB.out.trans (hb2.mono HB.out.size)); have HR2 := Lib.hid (RowC.of_own ho2).1; have HRD := Lib.hid hrd
      clear hb2 ho2 hrd HB
      go_wp2_with fail
      refine (readExpr_spec s _ (by omega)).mono ?_
      rintro e w3 ⟨hb3, ⟨v3, c3, rfl, hsp, hr3, -⟩ | ⟨-, hno⟩⟩
      rotate_left
      · exact absurd ((HIF.out c).mpr HRD.out) (hno c)
      obtain rfl := ((HIF.out c3).mp hsp).uniq HRD.out
      have HB3 := Lib.hid (HB2.out.trans (hb3.mono HB2.out.size)); have HR3 := Lib.hid (HR2.out.mono hb3); have HY3 := Lib.hid hr3
      clear hb3 hsp hr3 HB2 HR2 HIF
      go_wp2_with fail
      refine (sameCells_same v2 v3 c3 _ HR3.out HY3.out).mono ?_
      rintro e w4 ⟨rfl, hb4⟩
      have HB4 := Lib.hid (HB3.out.trans (hb4.mono HB3.out.size)); have HR4 := Lib.hid (HR3.out.mono hb4)
      clear hb4 HB3 HR3 HY3
      have hok := HRD.out.2
      have HSZ := Lib.hid HRD.out.sized
      have htl := text_size c3
      have HTX := Lib.hid (text_reads hok)
      have HPX := Lib.hid (paren_reads hok)
      have HDX := Lib.hid (pad_reads (by omega) HRD.out)
      have HOK := Lib.hid hok
      clear hok
      go_wp2_with fail
      refine (exprText_impl v2 c3 _ HR4.out HSZ.out (HT.out.keep HB4.out)).mono ?_
      rintro e w5 ⟨rfl, hb5⟩
      have HB5 := Lib.hid (HB4.out.trans (hb5.mono HB4.out.size)); have HR5 := Lib.hid (HR4.out.mono hb5)
      clear hb5 HB4 HR4
      obtain ⟨TX, hTX⟩ : ∃ T, T = (⟨(textE c3).toArray⟩ : ByteArray) := ⟨_, rfl⟩
      rw [← hTX] at HTX HPX htl ⊢
      have HE := Lib.hid hTX
      clear hTX
      go_wp2_with fail
      refine (readExpr_impl TX _ (by omega) (HT.out.keep HB5.out)).mono ?_
      rintro e w6 ⟨hb6, ⟨v6, c6, rfl, hrd6, ho6⟩ | ⟨rfl, hno⟩⟩
      rotate_left
      · exact absurd HTX.out (hno _)
      obtain rfl := hrd6.uniq HTX.out
      have HB6 := Lib.hid (HB5.out.trans (hb6.mono HB5.out.size)); have HR6 := Lib.hid (HR5.out.mono hb6); have HA6 := Lib.hid (RowC.of_own ho6).1
      clear hb6 ho6 hrd6 HB5 HR5
      go_wp2_with fail
      obtain ⟨PX, hPX⟩ : ∃ P, P = ((⟨#[32, 32]⟩ ++ s) ++ ⟨#[32]⟩ : ByteArray) := ⟨_, rfl⟩
      have hps : PX.size ≤ 12200 := by rw [hPX]; exact pad_size hs
      rw [← hPX] at HDX ⊢
      clear hPX
      refine (readExpr_impl PX _ (by omega) (HT.out.keep HB6.out)).mono ?_
      rintro e w7 ⟨hb7, ⟨v7, c7, rfl, hrd7, ho7⟩ | ⟨rfl, hno⟩⟩
      rotate_left
      · exact absurd HDX.out (hno _)
      obtain rfl := hrd7.uniq HDX.out
      have HB7 := Lib.hid (HB6.out.trans (hb7.mono HB6.out.size)); have HR7 := Lib.hid (HR6.out.mono hb7); have HA7 := Lib.hid (HA6.out.mono hb7); have HC7 := Lib.hid (RowC.of_own ho7).1
      clear hb7 ho7 hrd7 HB6 HR6 HA6
      go_wp2_with fail
      refine (exprText_impl v2 c7 _ HR7.out HSZ.out (HT.out.keep HB7.out)).mono ?_
      rintro e w8 ⟨rfl, hb8⟩
      have HB8 := Lib.hid (HB7.out.trans (hb8.mono HB7.out.size)); have HR8 := Lib.hid (HR7.out.mono hb8); have HA8 := Lib.hid (HA7.out.mono hb8); have HC8 := Lib.hid (HC7.out.mono hb8)
      clear hb8 HB7 HR7 HA7 HC7
      rw [← HE.out]
      go_wp2_with fail
      obtain ⟨QX, hQX⟩ : ∃ Q, Q = ((⟨#[40]⟩ ++ TX) ++ ⟨#[41]⟩ : ByteArray) := ⟨_, rfl⟩
      have hqs : QX.size ≤ 12200 := by rw [hQX]; exact par_size htl
      rw [← hQX] at HPX ⊢
      clear hQX
      refine (readExpr_impl QX _ (by omega) (HT.out.keep HB8.out)).mono ?_
      rintro e w9 ⟨hb9, ⟨v9, c9, rfl, hrd9, ho9⟩ | ⟨rfl, hno⟩⟩
      rotate_left
      · exact absurd HPX.out (hno _)
      obtain rfl := hrd9.uniq HPX.out
      have HB9 := Lib.hid (HB8.out.trans (hb9.mono HB8.out.size)); have HR9 := Lib.hid (HR8.out.mono hb9); have HA9 := Lib.hid (HA8.out.mono hb9); have HC9 := Lib.hid (HC8.out.mono hb9); have HD9 := Lib.hid (RowC.of_own ho9).1
      clear hb9 ho9 hrd9 HB8 HR8 HA8 HC8
      go_wp2_with fail
      refine (exprValid_impl v2 c9 _ HR9.out HSZ.out (HT.out.keep HB9.out)).mono ?_
      rintro e w10 ⟨rfl, hb10⟩
      rw [HOK.out]
      have HB10 := Lib.hid (HB9.out.trans (hb10.mono HB9.out.size)); have HR10 := Lib.hid (HR9.out.mono hb10); have HA10 := Lib.hid (HA9.out.mono hb10); have HC10 := Lib.hid (HC9.out.mono hb10); have HD10 := Lib.hid (HD9.out.mono hb10)
      clear hb10 HB9 HR9 HA9 HC9 HD9
      go_wp2_with fail
      refine (sameCells_same v6 v2 c9 _ HA10.out HR10.out).mono ?_
      rintro e w11 ⟨rfl, hb11⟩
      have HB11 := Lib.hid (HB10.out.trans (hb11.mono HB10.out.size)); have HR11 := Lib.hid (HR10.out.mono hb11); have HC11 := Lib.hid (HC10.out.mono hb11); have HD11 := Lib.hid (HD10.out.mono hb11)
      clear hb11 HB10 HR10 HA10 HC10 HD10
      go_wp2_with fail
      refine (sameCells_same v7 v2 c9 _ HC11.out HR11.out).mono ?_
      rintro e w12 ⟨rfl, hb12⟩
      have HB12 := Lib.hid (HB11.out.trans (hb12.mono HB11.out.size)); have HR12 := Lib.hid (HR11.out.mono hb12); have HD12 := Lib.hid (HD11.out.mono hb12)
      clear hb12 HB11 HR11 HC11 HD11
      go_wp2_with fail
      refine (sameCells_same v9 v2 c9 _ HD12.out HR12.out).mono ?_
      rintro e w13 ⟨rfl, hb13⟩
      have HB13 := Lib.hid (HB12.out.trans (hb13.mono HB12.out.size))
      clear hb13 HB12 HR12 HD12
      go_wp2
      go_ret
      exact ⟨rfl, HB13.out⟩
    · have HB2 := Lib.hid (HB.out.trans (hb2.mono HB.out.size)); have HNO := Lib.hid hno
      clear hb2 hno HB
      go_wp2_with fail
      refine (readExpr_spec s _ (by omega)).mono ?_
      rintro e w3 ⟨hb3, ⟨v3, c3, rfl, hsp, hr3, -⟩ | ⟨⟨v3, rfl, hr3⟩, -⟩⟩
      · exact absurd ((HIF.out c3).mp hsp) (HNO.out c3)
      have HB3 := Lib.hid (HB2.out.trans (hb3.mono HB2.out.size)); have HY3 := Lib.hid hr3
      clear hb3 hr3 HB2
      go_wp2_with fail
      refine (sameCells_same (.slice none 0 0) v3 [] _ (row_none _) HY3.out).mono ?_
      rintro e w4 ⟨rfl, hb4⟩
      have HB4 := Lib.hid (HB3.out.trans (hb4.mono HB3.out.size))
      clear hb4 HB3 HY3
      go_wp2_with fail
      refine (alive_any _).mono ?_
      rintro e w' ⟨rfl, rfl⟩
      go_wp2
      go_ret
      exact ⟨rfl, HB4.out⟩
  · go_enter Tryz.func5, Tryz.ntmps5
    go_wp2
    go_ret
    exact ⟨rfl, Below.refl _ _⟩

end Go.Proofs.YtncehcklppakcaaGreatDoor
