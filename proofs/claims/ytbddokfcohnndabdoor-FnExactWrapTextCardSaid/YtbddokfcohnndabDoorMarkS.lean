/-
  laws.markStringS, by its contract.
-/
import Derived.Test.YtbddokfcohnndabDoorMark
import Derived.Test.YtbddokfcohnndabDoorStrs
import Derived.Test.YtbddokfcohnndabDoorRows2
import Derived.Test.YtbddokfcohnndabDoorRead
import Derived.Deep.RegionHeld3
namespace Go.Proofs.YtbddokfcohnndabDoor
open Go.RowKit
set_option linter.unusedVariables false

/-- The marks m, m + 1, .. in n cells. -/
def marks (m n : Nat) : List Value := (List.range n).map fun (j : Nat) => Value.string (markB (m + j))
theorem marks_length (m n : Nat) : (marks m n).length = n := by simp [marks]
theorem marks_at (m n j : Nat) (h : j < n) : (marks m n)[j]? = some (.string (markB (m + j))) := by simp [marks, h]

/-- The first k cells are marked. -/
def marked (m k : Nat) (xs : List Value) : List Value := marks m k ++ xs.drop k
theorem marked_zero (m : Nat) (xs : List Value) : marked m 0 xs = xs := by simp [marked, marks]
theorem marked_all (m : Nat) (xs : List Value) : marked m xs.length xs = marks m xs.length := by simp [marked]
theorem marked_next (m k : Nat) (xs : List Value) (h : k < xs.length) : (marked m k xs).set k (.string (markB (m + k))) = marked m (k + 1) xs := by
  unfold marked
  rw [List.set_append_right _ _ (by rw [marks_length]; exact Nat.le_refl _), marks_length, Nat.sub_self]
  rw [List.drop_eq_getElem_cons h, List.set_cons_zero]
  simp [marks, List.range_succ]
theorem marked_length (m k : Nat) (xs : List Value) (h : k ≤ xs.length) : (marked m k xs).length = xs.length := by
  simp [marked, marks_length]; omega

set_option maxRecDepth 100000 in
set_option maxHeartbeats 2000000 in
theorem markStringS_own (base m n : Nat) (v : Value) (xs : List Value) (w : World) (hm : m ≤ 1000000) (hn : n ≤ 2000000) (hown : w.ownsRow base 9 1 v n xs) :
    Calls Tryd.prog 8 #[v, .int .i64 (m : Int)] w fun e w' => e = .returned (.int .i64 ((m + n : Nat) : Int)) ∧ w'.ownsRow base 9 1 v n (marks m n) ∧ w.grownBy w' v.ownBlock := by
  have hxl : xs.length = n := by have := hown.1; omega
  rcases hown.2 with ⟨rfl, rfl⟩ | ⟨g, cap, cur, rfl, hbg, hh, hnc, hcm, hcs, htake⟩
  · go_enter Tryd.func8, Tryd.ntmps8
    go_wp2
    refine wp_loop_rounds 1 ?_
    rw [rounds_succ]
    go_wp2
    go_ret
    exact ⟨rfl, World.ownsRow_nil _ _ _ _, World.grownBy.refl _ _⟩
  · have HO := Lib.hid hown
    unfold maxLen at hcm
    clear hown hh hcs htake
    go_enter Tryd.func8, Tryd.ntmps8
    go_wp2
    go_loopw [1, 5] (fun a i wr => ∃ k : Nat, k ≤ n ∧ i = .int .i64 (k : Int) ∧ a = .int .i64 ((m + k : Nat) : Int) ∧ wr.ownsRow base 9 1 (.slice (some ⟨g, 0, none⟩) n cap) n (marked m k xs) ∧ w.grownBy wr (some g)) (fun _ i _ => n - (intOf i).toNat)
    case atStart => exact ⟨0, Nat.zero_le _, rfl, rfl, by rw [marked_zero]; exact HO.out, World.grownBy.refl _ _⟩
    case round =>
      obtain ⟨k, hk, rfl, rfl, hown, hg⟩ := hrel
      have HG := Lib.hid hg; clear hg
      have HO2 := Lib.hid hown; clear hown
      by_cases hlt : k < n
      · go_wp2_with fail
        refine (markText_any (m + k) _ (by omega)).mono ?_
        rintro e w1 ⟨rfl, hb⟩
        have hcl : w1.cell? ⟨g, k, none⟩ = (marked m k xs)[k]? := by
          rw [hb.cell (by exact (HO2.out.lt g rfl).2)]; exact HO2.out.cellAt k (by omega)
        rw [List.getElem?_eq_getElem (by rw [marked_length _ _ _ (by omega)]; omega)] at hcl
        have hfz : w1.frozen? ⟨g, k, none⟩ = false := by
          rw [hb.frozen (by exact (HO2.out.lt g rfl).2)]; exact HO2.out.frozenAt k
        have hgb : wr.grownBy w1 none := ⟨hb.os, hb.tape, hb.output, hb.size, fun i hi _ => hb.block i hi⟩
        have HO3 := Lib.hid ((HO2.out.kept hgb (.inr (by simp [Value.ownBlock]))).stored k (.string (markB (m + k))))
        have HG3 := Lib.hid (grown_trans HG.out ⟨hb.os, hb.tape, hb.output, hb.size, fun i hi _ => hb.block i hi⟩)
        clear hb hgb
        go_wp2
        go_roundw
        case rel =>
          refine ⟨k + 1, by omega, by go_num, by go_num, ?_, ?_⟩
          · rw [← marked_next m k xs (by omega)]; exact HO3.out.1
          · exact grown_trans HG3.out HO3.out.2
        case measure => simp [intOf]; omega
      · obtain rfl : k = n := by omega
        go_wp2
        go_ret
        refine ⟨rfl, ?_, HG.out⟩
        have := HO2.out
        rw [show marked m k xs = marks m k by rw [← hxl]; exact marked_all m xs] at this
        exact this

end Go.Proofs.YtbddokfcohnndabDoor
