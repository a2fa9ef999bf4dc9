/-
  impl.ExprParts, by its contract.
-/
import Derived.Test.YtjkeiniienkkiaaGreatDoorFind
namespace Go.Proofs.YtjkeiniienkkiaaGreatDoor
open Go.RowKit
set_option linter.unusedVariables false

set_option maxRecDepth 100000 in
set_option maxHeartbeats 4000000 in
theorem exprParts_impl (v : Value) (l : List Cl) (a : Int) (w : World) (hr : RowC w v l) (hz : SizedC l) (htab : Tab w) :
    Calls Tryz.prog 22 #[v, .int .i64 a] w (NewInts (partsA l a) w) := by
  obtain ⟨i0, hi, hz0, hz1, hz2⟩ := info_parts infoI
  have HC := Lib.hid (exprNode_any v l a w hr hz htab)
  obtain ⟨ao, cap, rfl, h1, h2, h3⟩ := hr
  unfold maxLen at h2
  clear h3 hz
  go_enter Tryz.func22, Tryz.ntmps22
  go_wp2_with fail
  refine HC.out.mono ?_
  rintro e w1 ⟨hb1, ⟨k0, M, g, d, ha, hk, rfl, hok, ht⟩ | ⟨rfl, hno⟩⟩
  · obtain ⟨m, e1, v1, qs, hm, -, hN1, ho, -, htq, -⟩ := ht.inv
    have HE := Lib.hid (partsA_yes ha hk hok hm)
    have h60 := ((okE_iff l).mp hok).1
    have hqm : qs.length = m := own_len ho
    have htl := ht.exs.le.2 (by simp)
    rw [amL_length] at htl
    have hle := htq.exs.le
    obtain ⟨bo, cp, rfl, g1, g2, g3⟩ := own_ptr ho
    unfold maxLen at g2
    have c2 : w1.cell? ⟨M, 2, none⟩ = some (.slice bo qs.length cp) := hN1.cell 2
    have HB := Lib.hid hb1; have HT := Lib.hid htq; have G3 := Lib.hid g3; have HQM := Lib.hid hqm
    have hq60 : qs.length ≤ 60 := by omega
    clear ha hok hb1 ht hN1 hm ho g3 htq hqm hle
    go_wp2
    go_loopw [6, 8, 19] (fun out _ i wr => ∃ k : Nat, k ≤ qs.length ∧ i = .int .i64 (k : Int) ∧ wr.ownsRow w1.heap.size 3 1 out k (ints (kidsL (amL l) (k0 + 1) k)) ∧ Below w1.heap.size w1 wr) (fun _ _ i _ => qs.length - (intOf i).toNat)
    case atStart => exact ⟨0, Nat.zero_le _, rfl, World.ownsRow_nil _ _ _ _, Below.refl _ _⟩
    case round =>
      obtain ⟨k, hk', rfl, hown, hb⟩ := hrel
      have HBL := Lib.hid hb
      by_cases hlt : k < qs.length
      · obtain ⟨b, rfl, hbl, cc⟩ := G3.out.resolve_left (by rintro rfl; simp at hlt)
        obtain ⟨p, p', d0, d1', d2, j1, j2, -, -, -⟩ := HT.out.at k hlt
        obtain ⟨m2, e2, v2, qs2, -, -, hN2, -⟩ := j2.inv
        have d1 := (hb.cell (p := ⟨b, k, none⟩) hbl).trans (cc k hlt)
        have c0 : wr.cell? ⟨qs[k], 0, none⟩ = some (.int .i64 (p : Int)) := (hb.cell (p := ⟨qs[k], 0, none⟩) hN2.lt).trans (hN2.cell 0)
        have hkx := j1.exs
        rw [List.length_take, Nat.min_eq_left (by omega)] at hkx
        have HL := Lib.hid (kidsL_snoc hkx)
        generalize qs[k] = N1 at d1 c0
        have hsz := hb.size
        have hsw := HB.out.size
        clear cc j1 j2 hN2 hkx hb
        go_wp2_with (at_builtin; refine wpList_append_own _ rfl _ _ 39 rfl w1.heap.size 3 i0 (.int .i64 0) 1 8 Tryz.underlying39 hi hz0 hz1 hz2 rfl (by decide) _ _ _ rfl (hown.alloc _) ⟨wr.heap.size, 0, none⟩ 1 1 [.int .i64 (p : Int)] rfl rfl (World.news_of_block (cs := #[.int .i64 (p : Int)]) (t := 3) (fr := (0, 0)) (heap_alloc_new wr _)) (by simp [Value.oneCell']) (by unfold maxLen; omega) (by omega) (by simp; omega) ?_; intro v' w2 hown' hgrow hnil; have HB2 := Lib.hid ((HBL.out.alloc HBL.out.size _).grown hgrow (by have := HBL.out.size; simp; omega) (fun q hq => (hown.lt q hq).1)); have HO2 := Lib.hid hown'; clear hown' hgrow hnil)
        go_roundw
        case rel => exact ⟨k + 1, by omega, by go_num, by rw [HL.out, ints_snoc]; exact HO2.out, HB2.out⟩
        case measure => simp [intOf]; omega
      · obtain rfl : k = qs.length := by omega
        have HO := Lib.hid hown; clear hown hb
        go_wp2
        go_ret
        exact ⟨_, rfl, by rw [HE.out, kidsL_length, ← HQM.out]; exact HO.out.mono HB.out.size, HB.out.trans (HBL.out.mono HB.out.size)⟩
  · have HE := Lib.hid (partsA_no hno)
    have HB := Lib.hid hb1
    clear hno hb1
    go_wp2
    go_ret
    exact ⟨_, rfl, by rw [HE.out]; exact World.ownsRow_nil _ _ _ _, HB.out⟩

end Go.Proofs.YtjkeiniienkkiaaGreatDoor
