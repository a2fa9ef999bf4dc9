/-
  laws.markText, by its contract: the text of a mark is a function of its number.
-/
import Derived.Test.YtbddokfcohnndabDoorRows
import Derived.WalkKit
import Derived.WalkSpells
import Derived.Lib.Hide
import Derived.Laws.BytesArg
namespace Go.Proofs.YtbddokfcohnndabDoor
open Go.RowKit
set_option linter.unusedVariables false

/-- Decimal digits, ahead of what is there. -/
def digs : Nat → Nat → List UInt8 → List UInt8
  | 0, _, acc => acc
  | f + 1, n, acc => if n = 0 then acc else digs f (n / 10) ((48 + UInt8.ofNat (n % 10)) :: acc)
theorem digs_zero (f : Nat) (acc : List UInt8) : digs f 0 acc = acc := by cases f <;> simp [digs]
/-- The text of a mark. -/
def markB (k : Nat) : ByteArray := if k = 0 then ⟨#[109, 48]⟩ else ⟨#[109]⟩ ++ ⟨(digs k k []).toArray⟩

theorem convOne (w : World) (C : Int) : (convert 27 9 (.slice (some ⟨w.heap.size, 0, none⟩) 1 1)).run Tryd.prog (w.alloc (.cells #[.int .u8 C] 5)) = .ok (.string ⟨#[UInt8.ofNat C.toNat]⟩) (w.alloc (.cells #[.int .u8 C] 5)) := by
  rw [run_convert_bytes_arg (P := Tryd.prog) (w.alloc (.cells #[.int .u8 C] 5)) 27 5 Tryd.underlying27 Tryd.underlying5 w.heap.size 0 1 1 [C] rfl ?_ 9 Tryd.underlying9]
  · rfl
  · intro i hi
    obtain rfl : i = 0 := by omega
    simp only [World.cell?, Nat.add_zero, heap_alloc_new]; rfl

set_option maxRecDepth 100000 in
set_option maxHeartbeats 2000000 in
theorem markText_any (k : Nat) (w : World) (hk : k ≤ 2147483648) :
    Calls Tryd.prog 19 #[.int .i64 (k : Int)] w fun e w' => e = .returned (.string (markB k)) ∧ Below w.heap.size w w' := by
  by_cases h0 : k = 0
  · subst h0
    go_enter Tryd.func19, Tryd.ntmps19
    go_wp2
    go_ret
    exact ⟨rfl, Below.refl _ _⟩
  · have kc := convOne
    go_enter Tryd.func19, Tryd.ntmps19
    go_wp2
    go_loopw [0, 3] (fun a o wr => ∃ (f n : Nat) (acc : List UInt8), a = .int .i64 (n : Int) ∧ o = .string ⟨acc.toArray⟩ ∧ n ≤ f ∧ acc.length + n ≤ k ∧ digs f n acc = digs k k [] ∧ Below w.heap.size w wr) (fun a _ _ => (intOf a).toNat)
    case atStart => exact ⟨k, k, [], rfl, rfl, Nat.le_refl _, by simp, rfl, Below.refl _ _⟩
    case round =>
      obtain ⟨f, n, acc, rfl, rfl, hf, hl, hd, hb⟩ := hrel
      have HD := Lib.hid hd; have HB := Lib.hid hb; clear hd hb
      by_cases hn : 0 < n
      · go_wp2
        go_roundw
        case rel =>
          have hs : digs (f - 1) (n / 10) ((48 + UInt8.ofNat (n % 10)) :: acc) = digs f n acc := by
            obtain ⟨g, rfl⟩ : ∃ g, f = g + 1 := ⟨f - 1, by omega⟩
            show _ = if n = 0 then acc else _
            rw [if_neg (by omega)]; rfl
          exact ⟨f - 1, n / 10, (48 + UInt8.ofNat (n % 10)) :: acc, by go_num, congrArg Value.string (by apply ByteArray.ext; simp), by omega, by simp only [List.length_cons]; omega, hs.trans HD.out, HB.out.alloc HB.out.size _⟩
        case measure => simp [intOf]; omega
      · go_wp2
        go_ret
        obtain rfl : n = 0 := by omega
        have hm : markB k = ⟨#[109]⟩ ++ ⟨acc.toArray⟩ := by rw [markB, if_neg h0, ← HD.out, digs_zero]
        exact ⟨by rw [hm]; rfl, HB.out⟩

end Go.Proofs.YtbddokfcohnndabDoor
