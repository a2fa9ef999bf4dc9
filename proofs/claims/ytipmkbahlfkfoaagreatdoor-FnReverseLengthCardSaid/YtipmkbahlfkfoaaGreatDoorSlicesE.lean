/-
  slices.Equal at cells: whether two slices read as the same cells; sameValue.
-/
import Derived.Test.YtipmkbahlfkfoaaGreatDoorFunD
import Derived.Deep.QuietTactic
import Derived.BigQuiet
namespace Go.Proofs.YtipmkbahlfkfoaaGreatDoor
open Go.RowKit
set_option linter.unusedVariables false

theorem beq_listE (a b : ByteArray) : (a.toList == b.toList) = decide (a = b) := by
  by_cases h : a = b
  · subst h; simp
  · rw [decide_eq_false h, beq_eq_false_iff_ne, ByteArray.toList_eq, ByteArray.toList_eq]
    intro e; exact h (ByteArray.ext (by simpa using e))

set_option maxRecDepth 100000 in
set_option maxHeartbeats 4000000 in
theorem equal_q (v1 v2 : Value) (l1 l2 : List Cl) (w : World) (h1 : RowC w v1 l1) (h2 : RowC w v2 l2) :
    Calls Tryz.prog 177 #[v1, v2] w fun e w' => e = .returned (.bool (decide (l1 = l2))) ∧ ∃ n, w' = w.drewN n := by
  obtain ⟨a1, c1, rfl, p1, q1, r1⟩ := h1
  obtain ⟨a2, c2, rfl, p2, q2, r2⟩ := h2
  unfold maxLen at q1 q2
  have R1 := Lib.hid r1; have R2 := Lib.hid r2
  clear r1 r2
  by_cases hlen : l1.length = l2.length
  case neg =>
    have hD := decide_eq_false (show ¬ l1 = l2 from fun e => hlen (by rw [e]))
    have hne : ((l1.length : Int) != (l2.length : Int)) = true := bne_iff_ne.mpr (by omega)
    go_enter Tryz.func177, Tryz.ntmps177
    go_wp2
    go_ret
    exact ⟨by rw [hD]; rfl, 0, rfl⟩
  go_enter Tryz.func177, Tryz.ntmps177
  have hne : ((l1.length : Int) != (l2.length : Int)) = false := by rw [hlen]; simp
  go_wp2_with fail
  go_loopw [13] (fun i wr => ∃ k : Nat, k ≤ l1.length ∧ i = .int .i64 (k : Int) ∧ (∀ j (h : j < l1.length) (h' : j < l2.length), j < k → l1[j] = l2[j]) ∧ ∃ n, wr = w.drewN n) (fun i _ => l1.length - (intOf i).toNat)
  case atStart => exact ⟨0, Nat.zero_le _, rfl, fun j _ _ h => by omega, 0, rfl⟩
  case round =>
    obtain ⟨k, hk, rfl, hsame, hn⟩ := hrel
    have HN0 := Lib.hid hn
    have HB := Lib.hid (show Below w.heap.size w wr by obtain ⟨n, rfl⟩ := hn; exact ⟨rfl, rfl, rfl, Nat.le_refl _, fun _ _ => rfl⟩); have HS := Lib.hid hsame; clear hn hsame
    by_cases hlt : k < l1.length
    · have hlt2 : k < l2.length := by omega
      obtain ⟨b1, o1, rfl, hl1, cc1⟩ := R1.out.resolve_left (by rintro rfl; simp at hlt)
      obtain ⟨b2, o2, rfl, hl2, cc2⟩ := R2.out.resolve_left (by rintro rfl; simp at hlt2)
      obtain ⟨x0, x1, x2⟩ := cc1 k hlt
      obtain ⟨y0, y1, y2⟩ := cc2 k hlt2
      have d0 := (HB.out.cell (p := ⟨b1, _, none⟩) hl1).trans x0
      have d1 := (HB.out.cell (p := ⟨b1, _, none⟩) hl1).trans x1
      have d2 := (HB.out.cell (p := ⟨b1, _, none⟩) hl1).trans x2
      have e0 := (HB.out.cell (p := ⟨b2, _, none⟩) hl2).trans y0
      have e1 := (HB.out.cell (p := ⟨b2, _, none⟩) hl2).trans y1
      have e2 := (HB.out.cell (p := ⟨b2, _, none⟩) hl2).trans y2
      have HNX := Lib.hid (show l1[k] = l2[k] → ∀ j (h : j < l1.length) (h' : j < l2.length), j < k + 1 → l1[j] = l2[j] from fun e j h h' hj => by
        by_cases hjk : j = k
        · subst hjk; exact e
        · exact HS.out j h h' (by omega))
      have HNO := Lib.hid (show l1[k] ≠ l2[k] → decide (l1 = l2) = false from fun e => decide_eq_false (by rintro rfl; exact e rfl))
      have HEX := Lib.hid (show l1[k].1 = l2[k].1 → l1[k].2.1 = l2[k].2.1 → l1[k].2.2 = l2[k].2.2 → l1[k] = l2[k] from fun a b c => Prod.ext a (Prod.ext b c))
      clear cc1 cc2 x0 x1 x2 y0 y1 y2
      have b1 := beq_listE l1[k].2.1 l2[k].2.1
      by_cases g0 : l1[k].1 = l2[k].1
      · by_cases g1 : l1[k].2.1 = l2[k].2.1
        · by_cases g2 : l1[k].2.2 = l2[k].2.2
          · have HN := Lib.hid (HNX.out (HEX.out g0 g1 g2))
            rw [← g0] at e0; rw [← g1] at e1; rw [← g2] at e2
            clear HNX HNO HEX g0 g1 g2 b1
            generalize l1[k].1 = kk at d0 e0
            generalize l1[k].2.1 = ss at d1 e1
            generalize l1[k].2.2 = mm at d2 e2
            go_wp2_with fail
            go_quiet (fail)
            have HQ := Lib.hid (show ∃ n, wr.drewN nq = w.drewN n by obtain ⟨n, h⟩ := HN0.out; exact ⟨n + nq, by rw [h, World.drewN_drewN]⟩)
            go_wp2
            go_roundw
            case rel => exact ⟨k + 1, by omega, by go_num, HN.out, HQ.out⟩
            case measure => simp [intOf]; omega
          · have HN := Lib.hid (HNO.out (fun e => g2 (by rw [e])))
            have t2 : (l1[k].2.2 == l2[k].2.2) = false := by rw [beq_eq_false_iff_ne]; exact g2
            rw [← g0] at e0; rw [← g1] at e1
            clear HNX HNO HEX g0 g1 g2 b1
            generalize l1[k].1 = kk at d0 e0
            generalize l1[k].2.1 = ss at d1 e1
            generalize l1[k].2.2 = mm at d2 t2
            generalize l2[k].2.2 = mm2 at e2 t2
            go_wp2_with fail
            go_quiet (fail)
            have HQ := Lib.hid (show ∃ n, wr.drewN nq = w.drewN n by obtain ⟨n, h⟩ := HN0.out; exact ⟨n + nq, by rw [h, World.drewN_drewN]⟩)
            go_wp2
            go_ret
            exact ⟨by rw [HN.out]; rfl, HQ.out⟩
        · have HN := Lib.hid (HNO.out (fun e => g1 (by rw [e])))
          have t1 : (l1[k].2.1.toList == l2[k].2.1.toList) = false := by rw [b1]; exact decide_eq_false g1
          rw [← g0] at e0
          clear HNX HNO HEX g0 g1 b1
          generalize l1[k].1 = kk at d0 e0
          generalize l1[k].2.1 = ss at d1 t1
          generalize l2[k].2.1 = ss2 at e1 t1
          generalize l1[k].2.2 = mm at d2
          generalize l2[k].2.2 = mm2 at e2
          go_wp2_with fail
          go_quiet (fail)
          have HQ := Lib.hid (show ∃ n, wr.drewN nq = w.drewN n by obtain ⟨n, h⟩ := HN0.out; exact ⟨n + nq, by rw [h, World.drewN_drewN]⟩)
          go_wp2
          go_ret
          exact ⟨by rw [HN.out]; rfl, HQ.out⟩
      · have HN := Lib.hid (HNO.out (fun e => g0 (by rw [e])))
        have t0 : (l1[k].1 == l2[k].1) = false := by rw [beq_eq_false_iff_ne]; exact g0
        clear HNX HNO HEX g0 b1
        generalize l1[k].1 = kk at d0 t0
        generalize l2[k].1 = kk2 at e0 t0
        generalize l1[k].2.1 = ss at d1
        generalize l2[k].2.1 = ss2 at e1
        generalize l1[k].2.2 = mm at d2
        generalize l2[k].2.2 = mm2 at e2
        go_wp2_with fail
        go_quiet (fail)
        have HQ := Lib.hid (show ∃ n, wr.drewN nq = w.drewN n by obtain ⟨n, h⟩ := HN0.out; exact ⟨n + nq, by rw [h, World.drewN_drewN]⟩)
        go_wp2
        go_ret
        exact ⟨by rw [HN.out]; rfl, HQ.out⟩
    · obtain rfl : k = l1.length := by omega
      have hD := decide_eq_true (show l1 = l2 from List.ext_getElem hlen fun j h h' => HS.out j h h' (by omega))
      go_wp2
      go_ret
      exact ⟨by rw [hD]; rfl, HN0.out⟩
theorem equal_any (v1 v2 : Value) (l1 l2 : List Cl) (w : World) (h1 : RowC w v1 l1) (h2 : RowC w v2 l2) :
    Calls Tryz.prog 177 #[v1, v2] w fun e w' => e = .returned (.bool (decide (l1 = l2))) ∧ Below w.heap.size w w' :=
  (equal_q v1 v2 l1 l2 w h1 h2).mono fun e w' ⟨he, n, hn⟩ => ⟨he, by subst hn; exact ⟨rfl, rfl, rfl, Nat.le_refl _, fun _ _ => rfl⟩⟩

set_option maxRecDepth 100000 in
set_option maxHeartbeats 4000000 in
theorem same_any (u u' : Value) (p q : List Cl) (w : World) (h1 : AppOK w u p) (h2 : AppOK w u' q) (l1 : p.length ≤ 1000) (l2 : q.length ≤ 1000) :
    Calls Tryz.prog 148 #[u, u'] w fun e w' => e = .returned (.bool (decide (p = q))) ∧ Below w.heap.size w w' := by
  have H2 := Lib.hid h2
  obtain ⟨T, x, K, rfl, hm, heK, hK⟩ := h1
  obtain ⟨T2, x2, K2, rfl, hm2, heK2, hK2⟩ := h2
  have HK := Lib.hid (hK w w.heap.size (.slice none 0 0) [] (Below.refl _ _) (Nat.le_refl _) (Nat.le_refl _) (World.ownsRow_nil _ _ _ _) (by simp; omega))
  have HK2 := Lib.hid (fun w1 (hb : Below w.heap.size w w1) (hs : w.heap.size ≤ w1.heap.size) => hK2 w1 w1.heap.size (.slice none 0 0) [] hb hs (Nat.le_refl _) (World.ownsRow_nil _ _ _ _) (by simp; omega))
  clear hK hK2
  go_enter Tryz.func148, Tryz.ntmps148
  go_wp2_with fail
  refine HK.out.mono ?_
  rintro e w1 ⟨v1, rfl, ho1, hb1, hs1⟩
  have HO1 := Lib.hid (show w1.ownsRow w.heap.size 39 3 v1 p.length (flatC p) by simpa using ho1)
  have HB1 := Lib.hid hb1
  clear ho1 hb1
  go_wp2_with fail
  refine (HK2.out w1 HB1.out hs1).mono ?_
  rintro e w2 ⟨v2, rfl, ho2, hb2, hs2⟩
  have HR1 := Lib.hid ((RowC.of_own HO1.out).1.mono hb2)
  have HR2 := Lib.hid (RowC.of_own (show w2.ownsRow w1.heap.size 39 3 v2 q.length (flatC q) by simpa using ho2)).1
  have HB2 := Lib.hid (HB1.out.trans (hb2.mono hs1))
  clear ho2 hb2
  go_wp2_with fail
  refine (equal_any v1 v2 p q w2 HR1.out HR2.out).mono ?_
  rintro e w3 ⟨rfl, hb3⟩
  have HB3 := Lib.hid (HB2.out.trans (hb3.mono HB2.out.size)); clear hb3
  go_wp2
  go_ret
  exact ⟨rfl, HB3.out⟩

end Go.Proofs.YtipmkbahlfkfoaaGreatDoor
