/-
  The library's table of powers of ten, kept while memory grows; strconv.Itoa.
-/
import Derived.Test.YtpgbfagacpondaaDoorRows
import Derived.Test.YtpgbfagacpondaaDoorShelf
import Derived.Test.YtpgbfagacpondaaDoorTextPlain
import Derived.Lib.AppendIntMem
import Derived.WalkKit
import Derived.WalkSpells
import Derived.Lib.Hide
import Derived.Below
namespace Go.Proofs.YtpgbfagacpondaaDoor
open Go.RowKit
set_option linter.unusedVariables false

def Tab (w : World) : Prop := Lib.TabIs Tryd.prog w "internal/strconv.uint64pow10" .u64 Lib.pow10Tab
theorem Tab.keep {w w' : World} (h : Tab w) (hb : Below w.heap.size w w') : Tab w' := Lib.tabBelow_of_tabIs h w' hb
theorem Tab.al {w : World} (h : Tab w) (o : Obj) : Tab (w.alloc o) := h.keep ((Below.refl _ _).alloc (Nat.le_refl _) _)
theorem Tab.drewN {w : World} (h : Tab w) (n : Nat) : Tab (w.drewN n) := h.keep ⟨rfl, rfl, rfl, Nat.le_refl _, fun _ _ => rfl⟩
theorem Tab.drew {w : World} (h : Tab w) : Tab w.drew := h.keep ⟨rfl, rfl, rfl, Nat.le_refl _, fun _ _ => rfl⟩

/-- A number's text. -/
def numS (n : Nat) : ByteArray := ⟨(Lib.decDigits n).toArray⟩
theorem numS_list (n : Nat) : (numS n).data.toList = Lib.decDigits n := by simp [numS]
theorem numS_size (n : Nat) (h : n ≤ 1000000000000) : (numS n).size ≤ 21 := by
  have := dec_len n (by omega)
  show (Lib.decDigits n).toArray.size ≤ 21
  simpa using this
theorem itoa_any (n : Nat) (hn : n ≤ 1000000000000) (w : World) (ht : Tab w) :
    Calls Tryd.prog 37 #[.int .i64 (n : Int)] w fun e w' => e = .returned (.string (numS n)) ∧ Below w.heap.size w w' := by
  refine (Tryd.strconv_Itoa (n : Int) (by omega) (by omega) w ht).mono ?_
  rintro e w' ⟨rfl, k, os, rfl⟩
  rw [Lib.itoa_nonneg]
  exact ⟨rfl, Lib.below_grow _ w (Nat.le_refl _) k os⟩

end Go.Proofs.YtpgbfagacpondaaDoor
