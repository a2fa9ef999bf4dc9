/-
  Drawn texts of decimal numbers: spec.l20Decimal.
-/
import Derived.Test.YtpgbfagacpondaaDoorOpen
import Derived.Deep.RegionHeld3
import Derived.Deep.DrawnRows
import Derived.Laws.BytesArg
namespace Go.Proofs.YtpgbfagacpondaaDoor
open Go.RowKit
set_option linter.unusedVariables false
attribute [local go_sem ↓] Go.wp_at_zero Go.wp_at_succ

/-- What a drawn text of a number is: at most 20 bytes. -/
def Decs (R p : Nat) (w : World) (e : Ending) (w' : World) : Prop :=
  ∃ s : ByteArray, e = .returned (.string s) ∧ s.size ≤ 20 ∧ Rdm w' R (p + 3) ∧ w.grownBy w' (some R)

theorem convTwo (w : World) (C D : Int) : (convert 28 9 (.slice (some ⟨w.heap.size, 0, none⟩) 2 2)).run Tryd.prog (w.alloc (.cells #[.int .u8 C, .int .u8 D] 5)) = .ok (.string ⟨#[UInt8.ofNat C.toNat, UInt8.ofNat D.toNat]⟩) (w.alloc (.cells #[.int .u8 C, .int .u8 D] 5)) := by
  rw [run_convert_bytes_arg (P := Tryd.prog) (w.alloc (.cells #[.int .u8 C, .int .u8 D] 5)) 28 5 Tryd.underlying28 Tryd.underlying5 w.heap.size 0 2 2 [C, D] rfl ?_ 9 Tryd.underlying9]
  · rfl
  · intro i hi
    have hi2 : i = 0 ∨ i = 1 := by omega
    rcases hi2 with rfl | rfl
    · simp only [World.cell?, Nat.add_zero, heap_alloc_new]; rfl
    · simp only [World.cell?, heap_alloc_new]; rfl

theorem dec14 (x y : UInt8) (m : Nat) (h : m < 14) : ∃ t : ByteArray, t.size ≤ 20 ∧ (#[Value.string ⟨#[x, y]⟩, .string ((⟨#[x, y]⟩ : ByteArray).extract 0 1), .string (⟨#[x, y]⟩ ++ ⟨#[46]⟩ ++ ⟨#[x, y]⟩), .string (⟨#[x, y]⟩ ++ ⟨#[46]⟩ ++ (⟨#[x, y]⟩ : ByteArray).extract 1 2 ++ ⟨#[48]⟩), .string (⟨#[48, 46]⟩ ++ ⟨#[x, y]⟩), .string (⟨#[48, 48, 48]⟩ ++ ⟨#[x, y]⟩), .string (⟨#[x, y]⟩ ++ ⟨#[46]⟩), .string (⟨#[46]⟩ ++ ⟨#[x, y]⟩), .string ⟨#[]⟩, .string (⟨#[x, y]⟩ ++ ⟨#[46, 49, 50, 51, 52, 53, 54, 55]⟩), .string ⟨#[49, 50, 51, 52, 53, 54, 55, 56, 57, 48]⟩, .string ⟨#[57, 57, 57, 57, 57, 57, 57, 57, 57, 46, 57]⟩, .string (⟨#[x, y]⟩ ++ ⟨#[97]⟩), .string ⟨#[49, 46, 50, 46, 51]⟩] : Array Value)[m]? = some (.string t) := by
  match m, h with
  | 0, _ => exact ⟨⟨#[x, y]⟩, by show (2 : Nat) ≤ 20; omega, rfl⟩
  | 1, _ => exact ⟨((⟨#[x, y]⟩ : ByteArray).extract 0 1), by show (1 : Nat) ≤ 20; omega, rfl⟩
  | 2, _ => exact ⟨(⟨#[x, y]⟩ ++ ⟨#[46]⟩ ++ ⟨#[x, y]⟩), by show (5 : Nat) ≤ 20; omega, rfl⟩
  | 3, _ => exact ⟨(⟨#[x, y]⟩ ++ ⟨#[46]⟩ ++ (⟨#[x, y]⟩ : ByteArray).extract 1 2 ++ ⟨#[48]⟩), by show (5 : Nat) ≤ 20; omega, rfl⟩
  | 4, _ => exact ⟨(⟨#[48, 46]⟩ ++ ⟨#[x, y]⟩), by show (4 : Nat) ≤ 20; omega, rfl⟩
  | 5, _ => exact ⟨(⟨#[48, 48, 48]⟩ ++ ⟨#[x, y]⟩), by show (5 : Nat) ≤ 20; omega, rfl⟩
  | 6, _ => exact ⟨(⟨#[x, y]⟩ ++ ⟨#[46]⟩), by show (3 : Nat) ≤ 20; omega, rfl⟩
  | 7, _ => exact ⟨(⟨#[46]⟩ ++ ⟨#[x, y]⟩), by show (3 : Nat) ≤ 20; omega, rfl⟩
  | 8, _ => exact ⟨⟨#[]⟩, by show (0 : Nat) ≤ 20; omega, rfl⟩
  | 9, _ => exact ⟨(⟨#[x, y]⟩ ++ ⟨#[46, 49, 50, 51, 52, 53, 54, 55]⟩), by show (10 : Nat) ≤ 20; omega, rfl⟩
  | 10, _ => exact ⟨⟨#[49, 50, 51, 52, 53, 54, 55, 56, 57, 48]⟩, by show (10 : Nat) ≤ 20; omega, rfl⟩
  | 11, _ => exact ⟨⟨#[57, 57, 57, 57, 57, 57, 57, 57, 57, 46, 57]⟩, by show (11 : Nat) ≤ 20; omega, rfl⟩
  | 12, _ => exact ⟨(⟨#[x, y]⟩ ++ ⟨#[97]⟩), by show (3 : Nat) ≤ 20; omega, rfl⟩
  | 13, _ => exact ⟨⟨#[49, 46, 50, 46, 51]⟩, by show (5 : Nat) ≤ 20; omega, rfl⟩
theorem Rdm.dr1 {w : World} {R p : Nat} (h : Rdm w R p) : Rdm w.drew R p := by
  obtain ⟨q, hq, h⟩ := h; exact ⟨q, hq, h.drewN 1⟩
theorem Rdm.al1 {w : World} {R p : Nat} (h : Rdm w R p) (o : Obj) : Rdm (w.alloc o) R p := h.kept (World.grownBy_alloc w o none) (by simp)
theorem al_lt {w : World} {R : Nat} (h : R < w.heap.size) (o : Obj) : R < (w.alloc o).heap.size := by simp; omega
theorem al_ltd {w : World} {R : Nat} (h : R < w.heap.size) (o : Obj) : R < (w.alloc o).drew.heap.size := al_lt h o
theorem lit_celld {w w' : World} {R : Nat} {C : Array Value} {t : TypeId} {m : Nat} {v : Value} (hR : R < w.heap.size) (hg : (w.alloc (.cells C t)).drew.grownBy w' (some R)) (hv : C[m]? = some v) : w'.cell? ⟨w.heap.size, m, none⟩ = some v :=
  lit_cell hR ⟨hg.os, hg.tape, hg.output, hg.size, hg.block⟩ hv

set_option maxRecDepth 100000 in
set_option maxHeartbeats 8000000 in
theorem decimal_any (R p : Nat) (w : World) (hp : p < 1073741824) (h : Rdm w R p) :
    Calls Tryd.prog 30 #[.pointer (some ⟨R, 0, none⟩)] w (Decs R p w) := by
  have kc := convTwo
  go_enter Tryd.func30, Tryd.ntmps30
  go_wp2_with fail
  refine (pick_any R p 10 _ (by omega) h).mono ?_
  rintro e w1 ⟨m1, rfl, hm10, hm11, -, hr1, hg1, hs1⟩
  have hm1 := hm11 (by omega)
  have HG1 := Lib.hid hg1
  clear hm11 hg1 hs1 h
  go_wp2_with fail
  refine (pick_any R (p + 1) 10 _ (by omega) hr1).mono ?_
  rintro e w2 ⟨m2, rfl, hm20, hm21, -, hr2, hg2, hs2⟩
  have hm2 := hm21 (by omega)
  have HG2 := Lib.hid (grown_trans HG1.out hg2)
  clear hm21 hg2 hs2 hr1 HG1
  go_wp2_with fail
  generalize UInt8.ofNat (48 + m1).toNat = x
  generalize UInt8.ofNat (48 + m2).toNat = y
  have hr3 := hr2.al1 (.cells #[.int .u8 (48 + m1), .int .u8 (48 + m2)] 5)
  have HG3 := Lib.hid (grown_alloc HG2.out (.cells #[.int .u8 (48 + m1), .int .u8 (48 + m2)] 5))
  generalize w2.alloc (.cells #[.int .u8 (48 + m1), .int .u8 (48 + m2)] 5) = wA at hr3 HG3 ⊢
  clear hr2 HG2 kc
  have HL := Lib.hid (dec14 x y)
  have hRA := hr3.lt
  go_region_with
    ((go_at_call 31; ((with_reducible refine (pick_any R (p + 2) 14 _ (by omega) ?_).mono ?_); (focus (first | exact hr3 | exact hr3.dr1 | exact hr3.al1 _ | exact (hr3.al1 _).dr1)); rintro e w4 ⟨m4, rfl, hm40, hm41, -, hr4, hg4, hs4⟩; have hm4 := hm41 (by omega); clear hm41; obtain ⟨j4, hj4⟩ := Int.eq_ofNat_of_zero_le hm40; subst hj4; obtain ⟨t, ht, hlit⟩ := HL.out j4 (by omega); (first | (have c4 := lit_cell hRA hg4 hlit) | (have c4 := lit_celld hRA hg4 hlit) | skip); have HG4 : Hid (World.grownBy w w4 (some R)) := (by first | exact grown_trans HG3.out hg4 | exact grown_trans (grown_drew HG3.out) hg4 | exact grown_trans (grown_alloc HG3.out _) hg4 | exact grown_trans (grown_drew (grown_alloc HG3.out _)) hg4))))
  all_goals
    clear hg4 hs4 hlit
    go_wp2
    go_ret
    first
      | exact ⟨t, rfl, ht, hr4, HG4.out⟩
      | exact ⟨t, rfl, ht, hr4.al1 _, grown_alloc HG4.out _⟩
      | exact ⟨t, rfl, ht, hr4.dr1, grown_drew HG4.out⟩
      | exact ⟨t, rfl, ht, (hr4.al1 _).dr1, grown_drew (grown_alloc HG4.out _)⟩

end Go.Proofs.YtpgbfagacpondaaDoor
