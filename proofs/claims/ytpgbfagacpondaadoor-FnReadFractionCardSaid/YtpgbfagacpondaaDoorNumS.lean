/-
  spec.l2Number, by its contract.
-/
import Derived.Test.YtpgbfagacpondaaDoorDoorTab
import Derived.Laws.BytesArg
namespace Go.Proofs.YtpgbfagacpondaaDoor
open Go.RowKit
set_option linter.unusedVariables false

theorem convOne1 (w : World) (C : Int) : (convert 28 9 (.slice (some ⟨w.heap.size, 0, none⟩) 1 1)).run Tryd.prog (w.alloc (.cells #[.int .u8 C] 5)) = .ok (.string ⟨#[UInt8.ofNat C.toNat]⟩) (w.alloc (.cells #[.int .u8 C] 5)) := by
  rw [run_convert_bytes_arg (P := Tryd.prog) (w.alloc (.cells #[.int .u8 C] 5)) 28 5 Tryd.underlying28 Tryd.underlying5 w.heap.size 0 1 1 [C] rfl ?_ 9 Tryd.underlying9]
  · rfl
  · intro i hi
    obtain rfl : i = 0 := by omega
    simp only [World.cell?, Nat.add_zero, heap_alloc_new]; rfl
theorem dgt_add (q : Nat) : 48 + UInt8.ofNat q = dgt q := by unfold dgt; rw [UInt8.ofNat_add]; rfl

set_option maxRecDepth 100000 in
set_option maxHeartbeats 2000000 in
theorem l2Number_any (n : Nat) (w : World) (hn : n ≤ 1000000000000) :
    Calls Tryd.prog 17 #[.int .i64 (n : Int)] w fun e w' => e = .returned (.string (numS n)) ∧ Below w.heap.size w w' := by
  have kc := convOne1
  have hln := dec_len n (by omega)
  go_enter Tryd.func17, Tryd.ntmps17
  go_wp2
  go_loopw [0, 3] (fun a o wr => ∃ (v : Nat) (acc : List UInt8), a = .int .i64 (v : Int) ∧ o = .string ⟨acc.toArray⟩ ∧ v ≤ n ∧ acc.length ≤ 21 ∧ (if 9 < v then Lib.decDigits (v / 10) else []) ++ acc = Lib.decDigits n ∧ Below w.heap.size w wr) (fun a _ _ => (intOf a).toNat)
  case atStart =>
    refine ⟨n, [dgt (n % 10)], rfl, congrArg Value.string (by first | rfl | (rw [← dgt_add]; rfl) | simp [dgt]), Nat.le_refl _, by simp, ?_, (Below.refl _ _).alloc (Nat.le_refl _) _⟩
    by_cases h : n < 10
    · rw [if_neg (by omega), dec_small h, Nat.mod_eq_of_lt h]; rfl
    · rw [if_pos (by omega), dec_big h]
  case round =>
    obtain ⟨v, acc, rfl, rfl, hv, hacc, hd, hb⟩ := hrel
    have HD := Lib.hid hd; have HB := Lib.hid hb; clear hd hb
    by_cases h9 : 9 < v
    · have hlen : acc.length < 21 := by
        have := congrArg List.length HD.out
        rw [if_pos h9, List.length_append] at this
        have h1 : 0 < (Lib.decDigits (v / 10)).length := List.length_pos_iff.mpr (dec_ne _)
        omega
      have hsz : ({ data := acc.toArray } : ByteArray).size = acc.length := by show acc.toArray.size = _; simp
      have hsz1 : ({ data := acc.toArray } : ByteArray).size ≤ 21 := by omega
      clear hsz
      go_wp2
      go_roundw
      case rel =>
        refine ⟨v / 10, dgt (v / 10 % 10) :: acc, by go_num, ?_, by omega, by simp only [List.length_cons]; omega, ?_, HB.out.alloc HB.out.size _⟩
        · refine congrArg Value.string ?_
          rw [← dgt_add]
          apply ByteArray.ext; simp
        · rw [← HD.out, if_pos h9]
          by_cases h : v / 10 < 10
          · rw [if_neg (by omega), dec_small h, Nat.mod_eq_of_lt h]; rfl
          · rw [if_pos (by omega), dec_big h]; simp
      case measure => simp [intOf]; omega
    · go_wp2
      go_ret
      refine ⟨?_, HB.out⟩
      have := HD.out
      rw [if_neg h9, List.nil_append] at this
      rw [numS, ← this]
      rfl

end Go.Proofs.YtpgbfagacpondaaDoor
