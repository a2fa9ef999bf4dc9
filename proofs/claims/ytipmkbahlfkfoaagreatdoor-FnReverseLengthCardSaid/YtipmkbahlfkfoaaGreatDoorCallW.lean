/-
  Rows of one or two lists laid by a law; readNumber; plain facts for the laws of stage 9.
-/
import Derived.Test.YtipmkbahlfkfoaaGreatDoorCallI
import Derived.Test.YtipmkbahlfkfoaaGreatDoorCallSF
import Derived.Test.YtipmkbahlfkfoaaGreatDoorDrawCall
import Derived.Test.YtipmkbahlfkfoaaGreatDoorSameCells
import Derived.Test.YtipmkbahlfkfoaaGreatDoorBaseD
import Derived.Test.YtipmkbahlfkfoaaGreatDoorBaseA
namespace Go.Proofs.YtipmkbahlfkfoaaGreatDoor
open Go.RowKit
set_option linter.unusedVariables false

theorem RowLs_lit1 {w : World} {u1 : Value} {l1 : List Cl} (h1 : RowC w u1 l1) : RowLs (w.alloc (.cells #[u1] 24)) (.slice (some ⟨w.heap.size, 0, none⟩) 1 1) [l1] := by
  refine ⟨some ⟨w.heap.size, 0, none⟩, 1, rfl, by simp, by unfold maxLen; omega, .inr ⟨w.heap.size, 0, rfl, by simp, fun k hk => ?_⟩⟩
  have hc := fun i => cell_of_row (w.alloc (.cells #[u1] 24)) w.heap.size i #[u1] _ (0, 0) (heap_alloc_new w _)
  match k, hk with
  | 0, _ => exact ⟨u1, (hc 0).trans rfl, h1.al _⟩
theorem RowLs_lit2 {w : World} {u1 u2 : Value} {l1 l2 : List Cl} (h1 : RowC w u1 l1) (h2 : RowC w u2 l2) : RowLs (w.alloc (.cells #[u1, u2] 24)) (.slice (some ⟨w.heap.size, 0, none⟩) 2 2) [l1, l2] := by
  refine ⟨some ⟨w.heap.size, 0, none⟩, 2, rfl, by simp, by unfold maxLen; omega, .inr ⟨w.heap.size, 0, rfl, by simp, fun k hk => ?_⟩⟩
  have hc := fun i => cell_of_row (w.alloc (.cells #[u1, u2] 24)) w.heap.size i #[u1, u2] _ (0, 0) (heap_alloc_new w _)
  match k, hk with
  | 0, _ => exact ⟨u1, (hc 0).trans rfl, h1.al _⟩
  | 1, _ => exact ⟨u2, (hc 1).trans rfl, h2.al _⟩
/-- The first cells of a row that is not empty. -/
theorem RowC.head {w : World} {v : Value} {l : List Cl} (h : RowC w v l) (hl : 0 < l.length) : ∃ b o cap, v = .slice (some ⟨b, o, none⟩) l.length cap ∧ l.length ≤ cap ∧ cap ≤ maxLen ∧ b < w.heap.size ∧ w.cell? ⟨b, o, none⟩ = some (.int .i64 (kdV l)) ∧ w.cell? ⟨b, o + 1, none⟩ = some (.string (wdV l)) ∧ w.cell? ⟨b, o + 2, none⟩ = some (.int .i64 (myV l)) := by
  obtain ⟨ao, cap, rfl, h1, h2, h3⟩ := h
  obtain ⟨b, o, rfl, hb, cc⟩ := h3.resolve_left (by rintro rfl; simp at hl)
  obtain ⟨c0, c1, c2⟩ := cc 0 hl
  rw [Nat.zero_mul, Nat.add_zero] at c0 c1 c2
  obtain ⟨c, t, rfl⟩ : ∃ c t, l = c :: t := by
    cases l with
    | nil => simp at hl
    | cons c t => exact ⟨c, t, rfl⟩
  exact ⟨b, o, cap, rfl, h1, h2, hb, c0, c1, c2⟩
/-- What is drawn is short. -/
theorem few_len9 {ls : List (List Cl)} (h : ∀ l ∈ ls, LessC l) : lenSS ls ≤ 5 * ls.length := by
  induction ls with
  | nil => simp [lenSS]
  | cons a t ih =>
    have h1 := (h a (by simp)).2
    have h2 := ih (fun l hl => h l (by simp [hl]))
    simp only [lenSS, List.flatten_cons, List.length_append, List.length_cons] at h2 ⊢
    omega
theorem toList_neW {nm : ByteArray} {l : List UInt8} (h : nm ≠ ⟨l.toArray⟩) : ¬ nm.toList = l := by
  rw [ByteArray.toList_eq]
  intro e; exact h (ByteArray.ext (by rw [← e]))
theorem one_of {l : List Cl} (hok : okV l = true) (h1 : kdV l = 1) : l.length = 1 := by
  obtain ⟨-, hal, d, hd, hx⟩ := (okV_iff l).mp hok
  obtain ⟨c, t, rfl⟩ := okV_cons hok
  have hh := okV_head hok
  have hm : c.2.2 = 0 := by
    rw [okVC, Bool.and_eq_true] at hh
    have k := hh.2
    rw [okC, cellB, Bool.and_eq_true] at k
    have h1' : c.1 = 1 := h1
    have k2 := k.2
    rw [plC_many] at k2
    have : (plC c).1 = 1 := by unfold plC; rw [if_pos h1']
    rw [this] at k2
    simpa [manyB] using k2
  obtain ⟨m, e, g1, g2, -⟩ := hx.inv
  have : m = 0 := by simp [amL, hm] at g1; omega
  subst this
  exact (g2.uniq (Exs.nil 1)).1

set_option maxHeartbeats 1000000 in
theorem readNumber_any (s : ByteArray) (k m : Int) (w : World) (hs : s.size ≤ 2097152) (htab : Tab w) :
    Calls Tryz.prog 25 #[.agg #[.int .i64 k, .string s, .int .i64 m]] w fun e w' => e = .returned (.agg #[.int .i64 (rdT s), .int .i64 (rdB s)]) ∧ Below w.heap.size w w' := by
  go_enter Tryz.func25, Tryz.ntmps25
  go_wp2_with fail
  refine (readFraction_impl s _ hs (htab.keep (((Below.refl w.heap.size w).alloc (Nat.le_refl _) _).alloc (by simp) _))).mono ?_
  rintro e w1 ⟨rfl, hb1⟩
  have HF := Lib.hid ((FrAt.new (w.alloc (.cells #[.int .i64 k, .string s, .int .i64 m] 39)) 0 0 41).keep hb1)
  have hz : w.heap.size + 2 ≤ w1.heap.size := by have := hb1.size; simpa using this
  have HB := Lib.hid (show Below w.heap.size w w1 from ((((Below.refl w.heap.size w).alloc (Nat.le_refl _) _).alloc (by simp) _).trans (hb1.mono (by simp; omega))))
  obtain ⟨k0, k1⟩ := HF.out
  have k0 : w1.cell? ⟨w.heap.size + 1, 0, none⟩ = some (.int .i64 0) := by simpa using k0
  have k1 : w1.cell? ⟨w.heap.size + 1, 1, none⟩ = some (.int .i64 0) := by simpa using k1
  have hfz : ∀ o, w1.frozen? ⟨w.heap.size + 1, o, none⟩ = false := fun o => by
    rw [hb1.frozen (p := ⟨w.heap.size + 1, o, none⟩) (by simp)]
    have hn := heap_alloc_new (w.alloc (.cells #[.int .i64 k, .string s, .int .i64 m] 39)) (.cells #[.int .i64 0, .int .i64 0] 41)
    simp at hn
    simp [World.frozen?, hn]
  have hba : Below w1.heap.size w1 (w1.alloc (.cells #[.int .i64 (rdT s), .int .i64 (rdB s)] 41)) := (Below.refl _ _).alloc (Nat.le_refl _) _
  have k0 := (hba.cell (p := ⟨w.heap.size + 1, 0, none⟩) (show w.heap.size + 1 < w1.heap.size by omega)).trans k0
  have k1 := (hba.cell (p := ⟨w.heap.size + 1, 1, none⟩) (show w.heap.size + 1 < w1.heap.size by omega)).trans k1
  have f0 := (hba.frozen (p := ⟨w.heap.size + 1, 0, none⟩) (show w.heap.size + 1 < w1.heap.size by omega)).trans (hfz 0)
  have f1 := (hba.frozen (p := ⟨w.heap.size + 1, 1, none⟩) (show w.heap.size + 1 < w1.heap.size by omega)).trans (hfz 1)
  have HB2 := Lib.hid (HB.out.alloc HB.out.size (.cells #[.int .i64 (rdT s), .int .i64 (rdB s)] 41))
  clear hb1 HF hfz hba
  go_wp2
  exact bodyPost_ret (v := .agg #[.int .i64 (rdT s), .int .i64 (rdB s)]) (by simp [results, Tryz.results25, go_sem, k0, k1]) rfl ⟨rfl, HB2.out.setCell (by simp) _ |>.setCell (by simp) _⟩

end Go.Proofs.YtipmkbahlfkfoaaGreatDoor
