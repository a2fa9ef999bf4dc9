/-
  spec.DrawItemValid returns an item.
-/
import Derived.Test.YtbmobgahokehmaaGreatDoorDrawItem
import Derived.Test.YtbmobgahokehmaaGreatDoorBaseD
namespace Go.Proofs.YtbmobgahokehmaaGreatDoor
open Go.RowKit
set_option linter.unusedVariables false

set_option maxRecDepth 100000 in
set_option maxHeartbeats 4000000 in
theorem drawItemValid_any (a : Option Addr) (len cap : Nat) (w : World) (h : CodeRow w a len cap) :
    Calls Tryz.prog 11 #[.slice a len cap] w fun e w' => ∃ (i : It) (au : Option Addr) (c : Nat), e = .returned (.agg #[.int .i64 i.1, .string i.2.1, .slice au i.2.2.1.length c, .string i.2.2.2]) ∧ RowC w' (.slice au i.2.2.1.length c) i.2.2.1 ∧ FewI i ∧ Below w.heap.size w w' := by
  have HBA := Lib.hid ((Below.refl w.heap.size w).alloc (Nat.le_refl _) (.cells #[.int .i64 0, .string ⟨#[]⟩, .slice none 0 0, .string ⟨#[]⟩] 25))
  have HZ := Lib.hid (It4.new w (.int .i64 0) (.string ⟨#[]⟩) (.slice none 0 0) (.string ⟨#[]⟩) 25)
  have HO := Lib.hid (open_codes a len cap _ (h.mono HBA.out))
  clear h
  go_enter Tryz.func11, Tryz.ntmps11
  go_wp2_with fail
  refine HO.out.mono ?_
  rintro e w1 ⟨rfl, hr1, hb1, hs1⟩
  have hsz : (w.alloc (.cells #[.int .i64 0, .string ⟨#[]⟩, .slice none 0 0, .string ⟨#[]⟩] 25)).heap.size = w.heap.size + 1 := by simp
  rw [hsz] at hr1
  have HZ1 := Lib.hid (HZ.out.keep hb1)
  have HB := Lib.hid (HBA.out.trans (hb1.mono HBA.out.size)); have HR1 := Lib.hid hr1; have HS := Lib.hid hs1
  clear hb1 hs1 hr1
  go_wp2_with fail
  (try rw [hsz])
  refine (item_any (w.heap.size + 1) 0 2 _ (by omega) (by omega) (by omega) HR1.out).mono ?_
  rintro e w2 ⟨i, au, c, rfl, hk, hf, hr2, hg2⟩
  obtain ⟨⟨x0, x1, x2, x3⟩, ⟨f0, f1, f2, f3⟩, -⟩ := HZ1.out.grownR hg2 (by omega)
  have hs2 : w.heap.size + 2 ≤ w1.heap.size := by have := HR1.out.lt; omega
  have HK := Lib.hid hk; have HF := Lib.hid hf
  have HB2 := Lib.hid (HB.out.trans (grown_below hg2 (by omega) (by omega)))
  have HFIN := Lib.hid (show ∀ w5 : World, w5 = (((w2.setCell ⟨w.heap.size, 0, none⟩ (.int .i64 i.1)).setCell ⟨w.heap.size, 1, none⟩ (.string i.2.1)).setCell ⟨w.heap.size, 2, none⟩ (.slice au i.2.2.1.length c)).setCell ⟨w.heap.size, 3, none⟩ (.string i.2.2.2) →
      RowC w5 (.slice au i.2.2.1.length c) i.2.2.1 ∧ Below w.heap.size w w5 by
    rintro w5 rfl
    have hs : ∀ (x : World) (j : Nat) (y : Value), (x.setCell ⟨w.heap.size, j, none⟩ y).heap.size = x.heap.size := fun x j y => by simp [World.setCell]
    refine ⟨HK.out _ (fun b hb hlt => ?_) (by rw [hs, hs, hs, hs]; exact Nat.le_refl _), ?_⟩
    · have hbn : b ≠ w.heap.size := by omega
      rw [Below.heap_setCell _ _ _ _ hbn, Below.heap_setCell _ _ _ _ hbn, Below.heap_setCell _ _ _ _ hbn, Below.heap_setCell _ _ _ _ hbn]
    · exact (((HB2.out.setCell (p := ⟨w.heap.size, 0, none⟩) (Nat.le_refl _) _).setCell (p := ⟨w.heap.size, 1, none⟩) (Nat.le_refl _) _).setCell (p := ⟨w.heap.size, 2, none⟩) (Nat.le_refl _) _).setCell (p := ⟨w.heap.size, 3, none⟩) (Nat.le_refl _) _)
  clear hk hf hg2 hr2
  go_wp2
  exact bodyPost_ret (v := .agg #[.int .i64 i.1, .string i.2.1, .slice au i.2.2.1.length c, .string i.2.2.2]) (by simp [results, Tryz.results11, go_sem, x0, x1, x2, x3]) rfl ⟨i, au, c, rfl, (HFIN.out _ rfl).1, HF.out, (HFIN.out _ rfl).2⟩

end Go.Proofs.YtbmobgahokehmaaGreatDoor
