/-
  laws.heldItemS: what was marked is found again.
-/
import Derived.Test.YtbmobgahokehmaaGreatDoorItemM
namespace Go.Proofs.YtbmobgahokehmaaGreatDoor
open Go.RowKit
set_option linter.unusedVariables false

set_option maxRecDepth 100000 in
set_option maxHeartbeats 8000000 in
theorem heldItemS_any (m : Nat) (v : Value) (l : List It) (w : World) (hm : m ≤ 1000000) (hn : lenI l ≤ 1048576) (hc : l.length ≤ 1048576) (h : RowIt w v (marksI m l)) :
    Calls Tryz.prog 36 #[v, .int .i64 (m : Int)] w fun e w' => e = .returned (.int .i64 ((m + spanI l : Nat) : Int)) ∧ Below w.heap.size w w' := by
  obtain ⟨ao, cap, rfl, h1, h2, h3⟩ := h
  rw [marksI_length] at h1 ⊢
  unfold maxLen at h2
  have R3 := Lib.hid h3; clear h3
  go_enter Tryz.func36, Tryz.ntmps36
  go_wp2
  go_loopw [1, 5] (fun a i wr => ∃ (k q : Nat), k ≤ l.length ∧ i = .int .i64 (k : Int) ∧ a = .int .i64 (q : Int) ∧ q = m + spanI (l.take k) ∧ Below w.heap.size w wr) (fun _ i _ => l.length - (intOf i).toNat)
  case atStart => exact ⟨0, m, Nat.zero_le _, rfl, rfl, by simp [spanI, lenI], Below.refl _ _⟩
  case round =>
    obtain ⟨k, q, hk, rfl, rfl, hq, hb⟩ := hrel
    have HB := Lib.hid hb; have HQ := Lib.hid hq
    have hbq := lenI_le l k
    have hq1 : q ≤ 20000000 := by rw [hq]; unfold spanI; rw [List.length_take]; omega
    clear hb hq
    by_cases hlt : k < l.length
    · obtain ⟨b, o, rfl, hbl, cc⟩ := R3.out.resolve_left (by intro h; have := congrArg List.length h; rw [marksI_length, List.length_nil] at this; omega)
      obtain ⟨u, hu⟩ := cc k (by rw [marksI_length]; exact hlt)
      rw [marksI_at l m k hlt, ← HQ.out] at hu
      have hln := lenI_in l k hlt
      have HSP := Lib.hid (spanI_take l k hlt)
      have HST := Lib.hid (show stepI l[k] = 3 + l[k].2.2.1.length * 3 from rfl)
      generalize l[k] = it at hu hln HSP HST
      obtain ⟨ik, inm, ics, int⟩ := it
      simp only at hln HST
      obtain ⟨d0, d1, d2, d3, hru⟩ := hu.mono hbl HB.out
      simp only [mkI] at d0 d1 d2 d3 hru
      have HRU := Lib.hid hru
      have hbw : b < wr.heap.size := by have := HB.out.size; omega
      obtain ⟨au, cu, rfl⟩ : ∃ au cu, u = .slice au ics.length cu := by obtain ⟨au, cu, h, -⟩ := hru; exact ⟨au, cu, by rw [h, marksC_length]⟩
      clear cc hu hru
      have hx : ((q : Int) != (q : Int)) = false := by simp
      have hq2 : ((q + 1 : Nat) : Int) = (q : Int) + 1 := by omega
      have hq3 : ((q + 2 : Nat) : Int) = (q : Int) + 1 + 1 := by omega
      have HMT := Lib.hid (show ∀ w', Calls Tryz.prog 57 #[.int .i64 ((q : Int) + 1)] w' fun e w'' => e = .returned (.string (markB (q + 1))) ∧ Below w'.heap.size w' w'' from fun w' => by
        rw [← hq2]; exact markText_any (q + 1) w' (by omega))
      have HHC := Lib.hid (show ∀ w', RowC w' (.slice au ics.length cu) (marksC (q + 2) ics.length) → Calls Tryz.prog 59 #[.slice au ics.length cu, .int .i64 ((q : Int) + 1 + 1)] w' fun e w'' => e = .returned (.int .i64 ((q + 2 + ics.length * 3 : Nat) : Int)) ∧ Below w'.heap.size w' w'' from fun w' h => by
        rw [← hq3]; exact heldCellS_any (q + 2) ics.length _ w' (by omega) (by omega) h)
      obtain ⟨M, hM⟩ : ∃ M, q + 2 + ics.length * 3 = M := ⟨_, rfl⟩
      have hM1 : M ≤ 30000000 := by omega
      have HMT2 := Lib.hid (fun w' => markText_any M w' (by omega))
      rw [hM] at d3 HHC
      have HM := Lib.hid hM
      generalize hb1d : markB (q + 1) = mb1 at d1 HMT
      generalize hb2d : markB M = mb2 at d3 HMT2
      have hx3 : (!(mb1.toList == mb1.toList)) = false := by simp
      have hx4 : (!(mb2.toList == mb2.toList)) = false := by simp
      have bk0 : (0 : Int) ≤ (k : Int) := by omega
      have bk1 : (k : Int) < (l.length : Int) := by omega
      clear hq2 hq3 hM hb1d hb2d
      go_wp2_with fail
      go_region_held3 (fun w' => w'.cell? ⟨b, o + k * 4 + 1, none⟩ = some (.string mb1))
        (first
          | go_keep
          | (rw [hb1.cell (by exact hbw)]; assumption))
        ((go_at_call 57; refine (HMT.out _).mono ?_; rintro e w1 ⟨rfl, hb1⟩))
      have e2 : w1.cell? ⟨b, o + k * 4 + 2, none⟩ = some (.slice au ics.length cu) := (hb1.cell (p := ⟨b, _, none⟩) (by exact hbw)).trans d2
      have e3 : w1.cell? ⟨b, o + k * 4 + 3, none⟩ = some (.string mb2) := (hb1.cell (p := ⟨b, _, none⟩) (by exact hbw)).trans d3
      have HB1 := Lib.hid (HB.out.drew.trans (hb1.mono HB.out.size))
      have hbw1 : b < w1.heap.size := Nat.lt_of_lt_of_le hbw (by exact hb1.size)
      have HR1 := Lib.hid (show RowC w1 (.slice au ics.length cu) (marksC (q + 2) ics.length) from RowC.mono (w := wr.drew) (HRU.out.mono ⟨rfl, rfl, rfl, Nat.le_refl _, fun _ _ => rfl⟩) hb1)
      clear hb1 d0 d1 d2 d3
      go_wp2_with fail
      refine (HHC.out _ HR1.out).mono ?_
      rintro e w2 ⟨rfl, hb2⟩
      have f3 : w2.cell? ⟨b, o + k * 4 + 3, none⟩ = some (.string mb2) := (hb2.cell (p := ⟨b, _, none⟩) hbw1).trans e3
      have HB2 := Lib.hid (HB1.out.trans (hb2.mono HB1.out.size))
      have hbw2 : b < w2.heap.size := Nat.lt_of_lt_of_le hbw1 hb2.size
      clear hb2 e2 e3
      go_wp2_with fail
      go_region_held3 (fun w' => w'.cell? ⟨b, o + k * 4 + 3, none⟩ = some (.string mb2))
        (first
          | go_keep
          | (rw [hb3.cell (by exact hbw2)]; assumption))
        ((go_at_call 57; refine (HMT2.out _).mono ?_; rintro e w3 ⟨rfl, hb3⟩))
      have HB3 := Lib.hid (HB2.out.drew.trans (hb3.mono HB2.out.size))
      have hqn : M + 1 = m + spanI (l.take (k + 1)) := by rw [HSP.out, HST.out]; have := HQ.out; have := HM.out; omega
      have HQN := Lib.hid hqn
      clear hb3 hqn
      go_wp2
      go_roundw
      case rel => exact ⟨k + 1, M + 1, by omega, by go_num, by go_num, HQN.out, HB3.out⟩
      case measure => simp [intOf]; omega
    · obtain rfl : k = l.length := by omega
      have hq0 := HQ.out
      rw [List.take_of_length_le (Nat.le_refl _)] at hq0
      have HQ0 := Lib.hid hq0; clear hq0
      go_wp2
      go_ret
      exact ⟨by rw [← HQ0.out]; rfl, HB.out⟩

end Go.Proofs.YtbmobgahokehmaaGreatDoor
