/-
  strings.Cut at a separator of one byte.
-/
import Derived.Test.YtpgbfagacpondaaDoorRows
import Derived.WalkKit
import Derived.WalkSpells
import Derived.Lib.Hide
import Derived.IntWalk
import Derived.BigQuiet
import Derived.Deep.QuietTactic
import Derived.Shelf.Strings.Search1
namespace Go.Proofs.YtpgbfagacpondaaDoor
open Go.RowKit
set_option linter.unusedVariables false

set_option maxHeartbeats 1000000 in
set_option maxRecDepth 100000 in
theorem indexByte_any (s : ByteArray) (c : Int) (w : World) :
    Calls Tryd.prog 63 #[.string s, .int .u8 c] w fun e w' => e = .returned (.int .i64 (Lib.indexByte s.data.toList c.toNat.toUInt8)) ∧ w = w' := by
  go_enter Tryd.func63, Tryd.ntmps63
  go_wp2
  rw [run_callFunc_extern Tryd.func75 (by kernel_rfl) (by kernel_rfl) (by kernel_rfl) (e := Extern.BytealgIndexByte.indexByte) (by kernel_rfl), Lib.run_indexByteString]
  simp only [Result.andThen]
  rw [Oper.upon_value]
  go_wp2
  go_ret
  exact ⟨rfl, rfl⟩

theorem toList_data (s : ByteArray) : s.toList = s.data.toList := by rw [ByteArray.toList_eq]

theorem one_byte (c : UInt8) (h : 0 < ({ data := #[c] } : ByteArray).size) : ((({ data := #[c] } : ByteArray)[0].toNat : Nat) : Int) = (c.toNat : Int) := rfl

set_option maxHeartbeats 2000000 in
set_option maxRecDepth 100000 in
theorem index_one (s : ByteArray) (c : UInt8) (w : World) (hs : s.size ≤ maxLen) :
    Calls Tryd.prog 55 #[.string s, .string ⟨#[c]⟩] w fun e w' => e = .returned (.int .i64 (Lib.indexByte s.data.toList c)) ∧ w = w' := by
  unfold maxLen at hs
  by_cases hb : ([c] == s.toList) = true
  · have hl : s.data.toList = [c] := by rw [← toList_data]; simpa using (beq_iff_eq.mp hb).symm
    rw [hl, show Lib.indexByte [c] c = 0 by simp [Lib.indexByte]]
    clear hl
    go_enter Tryd.func55, Tryd.ntmps55
    go_wp2
    go_ret
    exact ⟨rfl, rfl⟩
  · have hb' : ([c] == s.toList) = false := Bool.eq_false_iff.mpr hb
    clear hb
    go_enter Tryd.func55, Tryd.ntmps55
    go_wp2_with fail
    refine (indexByte_any _ _ _).mono ?_
    rintro e w' ⟨rfl, rfl⟩
    rw [one_byte, show ((c.toNat : Int)).toNat.toUInt8 = c by simp]
    go_wp2
    go_ret
    exact ⟨rfl, rfl⟩

/-- What stands before and behind the first byte c, and whether there is one. -/
def cutP (s : ByteArray) (c : UInt8) : ByteArray := if Lib.indexByte s.data.toList c < 0 then s else s.extract 0 (Lib.indexByte s.data.toList c).toNat
def cutQ (s : ByteArray) (c : UInt8) : ByteArray := if Lib.indexByte s.data.toList c < 0 then ⟨#[]⟩ else s.extract ((Lib.indexByte s.data.toList c).toNat + 1) s.size
def cutB (s : ByteArray) (c : UInt8) : Bool := !decide (Lib.indexByte s.data.toList c < 0)

theorem indexByte_lt (l : List UInt8) (c : UInt8) : -1 ≤ Lib.indexByte l c ∧ Lib.indexByte l c < l.length := by
  induction l with
  | nil => simp [Lib.indexByte]
  | cons b t ih =>
    simp only [Lib.indexByte]
    split
    · simp only [List.length_cons]; omega
    · split
      · simp only [List.length_cons]; omega
      · rename_i h1 h2
        have : Lib.indexByte t c ≠ -1 := by simpa using h2
        simp only [List.length_cons]; omega

set_option maxHeartbeats 2000000 in
theorem slcut_one (s : ByteArray) (c : UInt8) (w : World) (hs : s.size ≤ maxLen) :
    Calls Tryd.prog 47 #[.string s, .string ⟨#[c]⟩] w fun e w' => e = .returned (.tuple #[.string (cutP s c), .string (cutQ s c), .bool (cutB s c)]) ∧ ∃ n, w' = w.drewN n := by
  have hi := indexByte_lt s.data.toList c
  have hsz : s.data.toList.length = s.size := by rw [Array.length_toList]; rfl
  by_cases hn : Lib.indexByte s.data.toList c < 0
  · rw [show cutP s c = s by simp [cutP, hn], show cutQ s c = ⟨#[]⟩ by simp [cutQ, hn], show cutB s c = false by simp [cutB, hn]]
    have HC := Lib.hid (show Lib.indexByte s.data.toList c = -1 by omega)
    clear hn hi hsz
    go_enter Tryd.func47, Tryd.ntmps47
    go_wp2_with fail
    refine (index_one s c _ hs).mono ?_
    rintro e w' ⟨rfl, rfl⟩
    rw [HC.out]
    go_wp2
    exact bodyPost_ret (v := .tuple #[.string s, .string ⟨#[]⟩, .bool false]) (by simp [results, Tryd.results47, go_sem]) rfl ⟨rfl, 0, rfl⟩
  · obtain ⟨k, hk⟩ := Int.eq_ofNat_of_zero_le (show 0 ≤ Lib.indexByte s.data.toList c by omega)
    have HC := Lib.hid hk
    have hks : k < s.size := by omega
    rw [show cutP s c = s.extract 0 k by rw [cutP, if_neg hn, hk]; rfl, show cutQ s c = s.extract (k + 1) s.size by rw [cutQ, if_neg hn, hk]; rfl, show cutB s c = true by simp [cutB]; omega]
    unfold maxLen at hs
    clear hn hi hsz hk
    have r1 : (0 : Int) ≤ (k : Int) := by omega
    have r2 : (k : Int) ≤ (s.size : Int) := by omega
    have r3 : (k : Int) + 1 ≤ (s.size : Int) := by omega
    have r4 : (0 : Int) ≤ (k : Int) + 1 := by omega
    have r5 : ((k : Int) + 1).toNat = k + 1 := by omega
    have r6 : IntKind.i64.wrap ((k : Int) + 1) = (k : Int) + 1 := IntWalk.i64_in _ (by omega)
    go_enter Tryd.func47, Tryd.ntmps47
    go_wp2_with fail
    refine (index_one s c _ (by unfold maxLen; exact hs)).mono ?_
    rintro e w' ⟨rfl, rfl⟩
    rw [HC.out]
    go_wp2
    go_quiet (fail)
    go_wp2
    exact bodyPost_ret (v := .tuple #[.string (s.extract 0 k), .string (s.extract (k + 1) s.size), .bool true]) (by simp [results, Tryd.results47, go_sem]) rfl ⟨rfl, _, rfl⟩

theorem cut_one (s : ByteArray) (c : UInt8) (w : World) (hs : s.size ≤ maxLen) :
    Calls Tryd.prog 40 #[.string s, .string ⟨#[c]⟩] w fun e w' => e = .returned (.tuple #[.string (cutP s c), .string (cutQ s c), .bool (cutB s c)]) ∧ Below w.heap.size w w' := by
  go_enter Tryd.func40, Tryd.ntmps40
  go_wp2_with fail
  refine (slcut_one s c _ hs).mono ?_
  rintro e w1 ⟨rfl, n, rfl⟩
  go_wp2
  exact bodyPost_ret (v := .tuple #[.string (cutP s c), .string (cutQ s c), .bool (cutB s c)]) (by simp [results, Tryd.results40, go_sem]) rfl ⟨rfl, (Below.refl _ w).trans ⟨rfl, rfl, rfl, Nat.le_refl _, fun _ _ => rfl⟩⟩

end Go.Proofs.YtpgbfagacpondaaDoor
