/-
  The walk of laws.FnExprSound.
-/
import Derived.Test.YtncehcklppakcaaGreatDoorBaseV
import Derived.Test.YtncehcklppakcaaGreatDoorExprID
import Derived.Test.YtncehcklppakcaaGreatDoorBaseW
import Derived.Test.YtncehcklppakcaaGreatDoorBaseF
import Derived.Test.YtncehcklppakcaaGreatDoorAlive
namespace Go.Proofs.YtncehcklppakcaaGreatDoor
open Go.RowKit
set_option linter.unusedVariables false

/-- A list with a valid expression as its part. -/
theorem okE_list {l : List Cl} (hok : okE l = true) (h60 : l.length < 60) (hd : depI l < 12) : okE ((5, ⟨#[]⟩, 1) :: l) = true := by
  obtain ⟨-, hal, d, hd12, hx⟩ := (okE_iff l).mp hok
  have hdp : depI l = (d : Int) := by rw [depI, if_pos hok, hx.depE]
  rw [okE_iff]
  refine ⟨by rw [List.length_cons]; omega, ?_, d + 1, by omega, ?_⟩
  · rw [List.all_cons, hal, Bool.and_true]; decide
  · have hs : Exs (amL ((5, ⟨#[]⟩, 1) :: l)) 1 (0 + 1) (l.length + 1) d := hx.up 1 (fun i h1 h2 => by simp [amL])
    have hx' : Exs (amL ((5, ⟨#[]⟩, 1) :: l)) 1 0 (l.length + 1) (d + 1) := Exs.one (m := 1) rfl hs
    rw [List.length_cons]; exact hx'
theorem brk_size {s : ByteArray} (h : s.size ≤ 12000) : ((⟨#[91]⟩ ++ s) ++ ⟨#[93]⟩ : ByteArray).size ≤ 12200 := by
  simp only [ByteArray.size_append]
  have e1 : (⟨#[91]⟩ : ByteArray).size = 1 := rfl
  have e2 : (⟨#[93]⟩ : ByteArray).size = 1 := rfl
  omega

set_option maxRecDepth 100000 in
set_option maxHeartbeats 2000000 in
theorem fnExprSound_core (a0 : Option Addr) (len0 cap0 : Nat) (w : World) (hrow : CodeRow w a0 len0 cap0) (htab : Tab w) :
    Calls Tryz.prog 6 #[.slice a0 len0 cap0] w fun e w' => e = .returned (.bool true) ∧ Below w.heap.size w w' := by
  have hcap := hrow.1; have hmx := hrow.2.1
  unfold maxLen at hmx
  have HT := Lib.hid htab
  clear htab
  by_cases hl : len0 ≤ 1048576
  · go_enter Tryz.func6, Tryz.ntmps6
    go_wp2_with fail
    refine (drawExprSound_any a0 len0 cap0 _ hrow).mono ?_
    rintro e w1 ⟨s, rfl, hs, hn, hb⟩
    have HB := Lib.hid hb; have HIF := Lib.hid (sp_iff hn)
    clear hb hrow hn
    go_wp2_with fail
    refine (exprSound_impl s _ (by omega) (HT.out.keep HB.out)).mono ?_
    rintro e w2 ⟨hb2, ok, rfl, hiff⟩
    have HB2 := Lib.hid (HB.out.trans (hb2.mono HB.out.size)); have HOK := Lib.hid hiff
    clear hb2 hiff HB
    go_wp2_with fail
    refine (exprSound_spec s _ (by omega)).mono ?_
    rintro e w3 ⟨hb3, ok3, rfl, hiff3⟩
    obtain rfl : ok3 = ok := by
      have hz : (ok3 = true) ↔ (ok = true) := by
        rw [hiff3, HOK.out]
        exact ⟨fun ⟨c, h⟩ => ⟨c, (HIF.out c).mp h⟩, fun ⟨c, h⟩ => ⟨c, (HIF.out c).mpr h⟩⟩
      cases ok3 <;> cases ok <;> simp_all
    have HB3 := Lib.hid (HB2.out.trans (hb3.mono HB2.out.size))
    clear hb3 hiff3 HB2 HIF
    go_wp2_with fail
    refine (readExpr_impl s _ (by omega) (HT.out.keep HB3.out)).mono ?_
    rintro e w4 ⟨hb4, ⟨v4, c, rfl, hrd, ho4⟩ | ⟨rfl, hno⟩⟩
    · have HB4 := Lib.hid (HB3.out.trans (hb4.mono HB3.out.size)); have HRD := Lib.hid hrd; have HR4 := Lib.hid (RowC.of_own ho4).1
      obtain rfl : ok3 = true := HOK.out.mpr ⟨c, hrd⟩
      clear hb4 hrd ho4 HB3 HOK
      obtain ⟨ao, cp, rfl, q1, q2, -⟩ := HR4.out
      unfold maxLen at q2
      have HSZ := Lib.hid HRD.out.sized
      have htl : (⟨(textE c).toArray⟩ : ByteArray).size ≤ 12000 := textE_len c
      by_cases h60 : c.length < 60
      · have h60i : (c.length : Int) < 60 := by omega
        go_wp2_with fail
        refine (exprDepth_impl _ c _ HR4.out HSZ.out (HT.out.keep HB4.out)).mono ?_
        rintro e w5 ⟨rfl, hb5⟩
        have HB5 := Lib.hid (HB4.out.trans (hb5.mono HB4.out.size)); have HR5 := Lib.hid (HR4.out.mono hb5)
        clear hb5 HB4 HR4
        by_cases hd12 : depI c < 12
        · have HBR := Lib.hid (brk_reads HRD.out.2 (okE_list HRD.out.2 h60 hd12))
          go_wp2_with fail
          refine (exprText_impl _ c _ HR5.out HSZ.out (HT.out.keep HB5.out)).mono ?_
          rintro e w6 ⟨rfl, hb6⟩
          have HB6 := Lib.hid (HB5.out.trans (hb6.mono HB5.out.size))
          clear hb6 HB5 HR5
          generalize (⟨(textE c).toArray⟩ : ByteArray) = TX at htl HBR ⊢
          go_wp2_with fail
          obtain ⟨QX, hQX⟩ : ∃ Q, Q = ((⟨#[91]⟩ ++ TX) ++ ⟨#[93]⟩ : ByteArray) := ⟨_, rfl⟩
          have hqs : QX.size ≤ 12200 := by rw [hQX]; exact brk_size htl
          rw [← hQX] at HBR ⊢
          clear hQX
          refine (exprSound_impl QX _ (by omega) (HT.out.keep HB6.out)).mono ?_
          rintro e w7 ⟨hb7, ok7, rfl, hiff7⟩
          obtain rfl : ok7 = true := hiff7.mpr ⟨_, HBR.out⟩
          have HB7 := Lib.hid (HB6.out.trans (hb7.mono HB6.out.size))
          clear hb7 hiff7 HB6
          go_wp2
          go_ret
          exact ⟨rfl, HB7.out⟩
        · go_wp2
          go_ret
          exact ⟨rfl, HB5.out⟩
      · have h60i : ¬ (c.length : Int) < 60 := by omega
        go_wp2
        go_ret
        exact ⟨rfl, HB4.out⟩
    · have HB4 := Lib.hid (HB3.out.trans (hb4.mono HB3.out.size)); have HNO := Lib.hid hno
      obtain rfl : ok3 = false := by
        cases ok3 with
        | false => rfl
        | true => obtain ⟨c, h⟩ := HOK.out.mp rfl; exact absurd h (HNO.out c)
      clear hb4 hno HB3 HOK
      go_wp2_with fail
      refine (alive_any _).mono ?_
      rintro e w' ⟨rfl, rfl⟩
      go_wp2
      go_ret
      exact ⟨rfl, HB4.out⟩
  · go_enter Tryz.func6, Tryz.ntmps6
    go_wp2
    go_ret
    exact ⟨rfl, Below.refl _ _⟩

end Go.Proofs.YtncehcklppakcaaGreatDoor
