/-
  The walk of laws.FnWrapText.
-/
import Derived.Test.YtbddokfcohnndabDoorDrawWrapText
import Derived.Test.YtbddokfcohnndabDoorWrapTI
import Derived.Test.YtbddokfcohnndabDoorWrapTS
import Derived.Test.YtbddokfcohnndabDoorWrapTP
import Derived.Test.YtbddokfcohnndabDoorSameTexts
import Derived.Test.YtbddokfcohnndabDoorAlive
namespace Go.Proofs.YtbddokfcohnndabDoor
open Go.RowKit
set_option linter.unusedVariables false

theorem wrapTB_few (s : ByteArray) (x : Int) : (wrapTB s x).length ≤ 20 := by
  rw [wrapTB_is, linesT_len]
  exact wlB_len _ x
theorem ba_eq {a b : ByteArray} (h : a.data.toList = b.data.toList) : a = b := by
  apply ByteArray.ext; apply Array.ext'; exact h

/-- One byte more. -/
theorem ns_take {s : ByteArray} {j : Nat} (P : List UInt8) (hj : j < s.size) : nsL (P ++ s.data.toList.take (j + 1)) = nsL (P ++ s.data.toList.take j) ++ (if (s[j].toNat : Int) = 32 then [] else (s.extract j (j + 1)).data.toList) := by
  have hl : j < s.data.toList.length := by rw [Array.length_toList]; exact hj
  have e1 : s.data.toList[j] = s[j] := rfl
  have e2 : (s.extract j (j + 1)).data.toList = [s[j]] := by
    have e : (s.extract j (j + 1)).data.toList = (s.data.toList.drop j).take 1 := by simp [ByteArray.data_extract, List.take_drop]
    rw [e, List.drop_eq_getElem_cons hl]; rfl
  rw [List.take_succ_eq_append_getElem hl, ← List.append_assoc, nsL_app, e1, e2]
  by_cases h : (s[j].toNat : Int) = 32
  · rw [if_pos h]
    have : s[j] = 32 := UInt8.toNat_inj.mp (by have : (32 : UInt8).toNat = 32 := rfl; omega)
    rw [this]; rfl
  · rw [if_neg h]
    have : ¬ s[j] = 32 := fun e => h (by rw [e]; rfl)
    simp [nsL, this]
theorem ns_one {s : ByteArray} {j : Nat} {P : List UInt8} {acc : ByteArray} (hj : j < s.size) (h : acc.data.toList = nsL (P ++ s.data.toList.take j)) (hs : ¬ (s[j].toNat : Int) = 32) : (acc ++ s.extract j (j + 1)).data.toList = nsL (P ++ s.data.toList.take (j + 1)) := by
  rw [ns_take P hj, if_neg hs, ByteArray.data_append, Array.toList_append, h]
theorem ns_skip {s : ByteArray} {j : Nat} {P : List UInt8} {acc : ByteArray} (hj : j < s.size) (h : acc.data.toList = nsL (P ++ s.data.toList.take j)) (hs : (s[j].toNat : Int) = 32) : acc.data.toList = nsL (P ++ s.data.toList.take (j + 1)) := by
  rw [ns_take P hj, if_pos hs, List.append_nil, h]
theorem take_all {s : ByteArray} {j : Nat} (h : s.size ≤ j) : s.data.toList.take j = s.data.toList := List.take_of_length_le (by rw [Array.length_toList]; exact h)

set_option maxRecDepth 100000 in
set_option maxHeartbeats 8000000 in
theorem fnWrapText_core (a0 : Option Addr) (len0 cap0 : Nat) (w : World) (hrow : CodeRow w a0 len0 cap0) (ht : TabS w) :
    Calls Tryd.prog 4 #[.slice a0 len0 cap0] w fun e w' => e = .returned (.bool true) ∧ Below w.heap.size w w' := by
  have hcap := hrow.1; have hmx := hrow.2.1
  unfold maxLen at hmx
  have HT := Lib.hid ht
  clear ht
  by_cases hl : len0 ≤ 1048576
  · go_enter Tryd.func4, Tryd.ntmps4
    go_wp2_with fail
    refine (drawWrapText_any a0 len0 cap0 _ hrow).mono ?_
    rintro e w1 ⟨s, x, rfl, hs, hx0, hx1, hb⟩
    have B1 := Lib.hid hb
    clear hb hrow hcap
    have hll := wrapTB_few s x
    have HLN := Lib.hid (wrap_line (s := s) (x := x))
    have HALL := Lib.hid (wrap_all (s := s) (x := x))
    have CI := Lib.hid (fun w' => wrapText_impl s x w' (by unfold maxLen; omega))
    have CS := Lib.hid (fun w' => wrapText_spec s x w' (by unfold maxLen; omega))
    generalize wrapTB s x = T at hll HLN HALL CI CS
    go_wp2_with fail
    refine (CI.out _ (HT.out.keep B1.out)).mono ?_
    rintro e w2 ⟨v2, rfl, hown2, hb2⟩
    have R2 := Lib.hid (RowOf.of_own hown2); have B2 := Lib.hid (B1.out.trans (hb2.mono B1.out.size))
    clear hown2 hb2 B1 HT CI
    go_wp2_with fail
    refine (CS.out _).mono ?_
    rintro e w3 ⟨v3, rfl, hown3, hb3⟩
    have R3 := Lib.hid (R2.out.mono hb3); have B3 := Lib.hid (B2.out.trans (hb3.mono B2.out.size)); have R4 := Lib.hid (RowOf.of_own hown3)
    clear hown3 hb3 R2 B2 CS
    go_wp2_with fail
    refine (sameTexts_any v2 v3 _ _ _ R3.out R4.out).mono ?_
    rintro e w4 ⟨rfl, n4, hw4⟩
    have R5 := Lib.hid (show RowOf w4 v2 (strs T) by rw [hw4]; exact R3.out.drewN _)
    have B5 := Lib.hid (show Below w.heap.size w w4 by rw [hw4]; exact B3.out.trans ⟨rfl, rfl, rfl, Nat.le_refl _, fun _ _ => rfl⟩)
    clear hw4 R3 B3 R4
    rw [show decide (T = T) = true by simp]
    obtain ⟨ao, cap, rfl, q1, q2, q3⟩ := R5.out
    rw [strs_length] at q1
    unfold maxLen at q2
    simp only [strs_length]
    have Q3 := Lib.hid q3
    clear q3
    go_wp2_with fail
    go_loopw [6, 7, 8] (fun o k _ wr => ∃ (q : Nat) (acc : ByteArray), q ≤ T.length ∧ k = .int .i64 (q : Int) ∧ o = .string acc ∧ acc.size ≤ 41 * q ∧ acc.data.toList = nsL (catW (T.take q)) ∧ wr = w4) (fun _ k _ _ => T.length - (intOf k).toNat)
    case atStart => exact ⟨0, _, Nat.zero_le _, rfl, rfl, by decide, rfl, rfl⟩
    case round =>
      obtain ⟨q, acc, hq, rfl, rfl, hac, hd, hwe⟩ := hrel
      subst hwe
      have HD := Lib.hid hd
      clear hd
      by_cases hlt : q < T.length
      · obtain ⟨b, off, rfl, hbl, cc⟩ := Q3.out.resolve_left (by intro h; have h' := congrArg List.length h; rw [strs_length, List.length_nil] at h'; omega)
        have d1 := cc q (.string T[q]) (by simp [strs, hlt])
        obtain ⟨t1, t2⟩ := HLN.out _ (List.getElem_mem hlt)
        have HNX := Lib.hid (show catW (T.take (q + 1)) = catW (T.take q) ++ T[q].data.toList by rw [List.take_succ_eq_append_getElem hlt, catW_app]; simp [catW])
        generalize T[q] = t at d1 t1 t2 HNX
        generalize catW (T.take q) = P at HD HNX
        clear cc
        have hcu : ¬ t.toList = [] := by
          intro e
          rw [ByteArray.toList_eq] at e
          have := congrArg List.length e
          rw [Array.length_toList] at this
          have h2 : t.size = 0 := this
          omega
        have hce : t.toList.isEmpty = false := by simpa using hcu
        have hgt : ¬ x < (t.size : Int) := by omega
        go_wp2_with fail
        go_loopw [6, 8] (fun o i wx => ∃ (j : Nat) (ac2 : ByteArray), j ≤ t.size ∧ i = .int .i64 (j : Int) ∧ o = .string ac2 ∧ ac2.size ≤ 41 * q + j ∧ ac2.data.toList = nsL (P ++ t.data.toList.take j) ∧ wx = wr) (fun _ i _ => t.size - (intOf i).toNat)
        case atStart => exact ⟨0, acc, Nat.zero_le _, rfl, rfl, by omega, by rw [List.take_zero, List.append_nil]; exact HD.out, rfl⟩
        case round =>
          obtain ⟨j, ac2, hj, rfl, rfl, ha2, hd2, hwe⟩ := hrel
          subst hwe
          have HD2 := Lib.hid hd2
          clear hd2
          by_cases hjl : j < t.size
          · by_cases hsp : (t[j].toNat : Int) = 32
            · have HN2 := Lib.hid (ns_skip hjl HD2.out hsp)
              go_wp2_with fail
              go_roundw
              case rel => exact ⟨j + 1, ac2, by omega, by go_num, rfl, by omega, HN2.out, by trivial⟩
              case measure => simp [intOf]; omega
            · have HN2 := Lib.hid (ns_one hjl HD2.out hsp)
              have hne : ((t[j].toNat : Int) != 32) = true := bne_iff_ne.mpr hsp
              have hxs : (ac2 ++ t.extract j (j + 1)).size ≤ 41 * q + (j + 1) := by rw [ByteArray.size_append, ByteArray.size_extract]; omega
              go_wp2_with fail
              go_roundw
              case rel => exact ⟨j + 1, _, by omega, by go_num, rfl, hxs, HN2.out, by trivial⟩
              case measure => simp [intOf]; omega
          · have HN2 := Lib.hid (show ac2.data.toList = nsL (catW (T.take (q + 1))) by rw [HNX.out, HD2.out, take_all (by omega)])
            go_wp2_with fail
            go_roundw
            case rel => exact ⟨q + 1, ac2, by omega, by go_num, rfl, by omega, HN2.out, by trivial⟩
            case measure => simp [intOf]; omega
      · have hqe : q = T.length := by omega
        have HD3 := Lib.hid (show acc.data.toList = nsL (catW T) by rw [HD.out, List.take_of_length_le (by omega)])
        clear HD
        by_cases h0 : T.length = 0
        · go_wp2_with fail
          refine (alive_any _).mono ?_
          rintro e w' ⟨rfl, rfl⟩
          go_wp2
          go_ret
          exact ⟨rfl, B5.out⟩
        · have HD4 := Lib.hid (show acc.data.toList = nsL s.data.toList by rw [HD3.out, HALL.out (by intro h; rw [h] at h0; exact h0 rfl)])
          have h0i : ((T.length : Int) == 0) = false := by simp; intro h; exact h0 (by rw [h]; rfl)
          go_wp2_with fail
          go_loopw [9, 10] (fun o i wx => ∃ (j : Nat) (ac2 : ByteArray), j ≤ s.size ∧ i = .int .i64 (j : Int) ∧ o = .string ac2 ∧ ac2.size ≤ j ∧ ac2.data.toList = nsL ([] ++ s.data.toList.take j) ∧ wx = wr) (fun _ i _ => s.size - (intOf i).toNat)
          case atStart => exact ⟨0, _, Nat.zero_le _, rfl, rfl, by decide, rfl, rfl⟩
          case round =>
            obtain ⟨j, ac2, hj, rfl, rfl, ha2, hd2, hwe⟩ := hrel
            subst hwe
            have HD2 := Lib.hid hd2
            clear hd2
            by_cases hjl : j < s.size
            · by_cases hsp : (s[j].toNat : Int) = 32
              · have HN2 := Lib.hid (ns_skip hjl HD2.out hsp)
                go_wp2_with fail
                go_roundw
                case rel => exact ⟨j + 1, ac2, by omega, by go_num, rfl, by omega, HN2.out, by trivial⟩
                case measure => simp [intOf]; omega
              · have HN2 := Lib.hid (ns_one hjl HD2.out hsp)
                have hne : ((s[j].toNat : Int) != 32) = true := bne_iff_ne.mpr hsp
                have hxs : (ac2 ++ s.extract j (j + 1)).size ≤ j + 1 := by rw [ByteArray.size_append, ByteArray.size_extract]; omega
                go_wp2_with fail
                go_roundw
                case rel => exact ⟨j + 1, _, by omega, by go_num, rfl, hxs, HN2.out, by trivial⟩
                case measure => simp [intOf]; omega
            · obtain rfl : ac2 = acc := ba_eq (by rw [HD2.out, HD4.out, take_all (by omega), List.nil_append])
              go_wp2_with fail
              go_ret
              exact ⟨rfl, B5.out⟩
  · go_enter Tryd.func4, Tryd.ntmps4
    go_wp2
    go_ret
    exact ⟨rfl, Below.refl _ _⟩

end Go.Proofs.YtbddokfcohnndabDoor
