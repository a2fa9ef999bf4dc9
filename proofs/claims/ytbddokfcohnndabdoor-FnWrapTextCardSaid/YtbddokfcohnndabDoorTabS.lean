/-
  The table of white space, kept; strings.Fields, strings.Join by their contracts.
-/
import Derived.Test.YtbddokfcohnndabDoorShelf
import Derived.Test.YtbddokfcohnndabDoorWrapT
import Derived.Test.YtbddokfcohnndabDoorRows2
import Derived.Lib.LaidTab
import Derived.Lib.AppendIntMem
import Derived.Below
import Derived.Test.YtbddokfcohnndabDoorStrs
import Derived.Test.YtbddokfcohnndabDoorWrapI
import Derived.Deep.AppendLies
namespace Go.Proofs.YtbddokfcohnndabDoor
open Go.RowKit
set_option linter.unusedVariables false

/-- The table of white space lies as the program's text lays it. -/
def TabS (w : World) : Prop := Lib.TabIs Tryd.prog w "strings.asciiSpace" .u8 Lib.asciiSpaceTab
theorem TabS.keep {w w' : World} (h : TabS w) (hb : Below w.heap.size w w') : TabS w' := Lib.tabBelow_of_tabIs h w' hb
theorem strs_fields (l : List (List UInt8)) : (l.map fun f => Value.string ⟨f.toArray⟩) = strs (l.map mkB) := by simp [strs, mkB]

set_option maxRecDepth 100000 in
/-- strings.Fields at a note: a row of its words, of one's own reading. -/
theorem fields_any (s : ByteArray) (w : World) (hs : noteB s = true) (ht : TabS w) :
    Calls Tryd.prog 16 #[.string s] w fun e w' => ∃ v, e = .returned v ∧ RowOf w' v (strs (fldB s)) ∧ Below w.heap.size w w' := by
  obtain ⟨h60, hb⟩ := note_bytes hs
  have hf := (fldB_few h60).2
  refine (Tryd.strings_Fields s w (by omega) ?_ ht).mono ?_
  · intro j b hj
    have hl : s.data.toList.length = s.size := by rw [Array.length_toList]; rfl
    obtain ⟨hj1, rfl⟩ := List.getElem?_eq_some_iff.mp hj
    have := hb j (by omega)
    have e : s.data.toList[j] = s[j]'(by omega) := rfl
    rw [e]; omega
  · rintro e w' ⟨rfl, rfl⟩
    have hlen : (Lib.fields s.data.toList).length = (fldB s).length := by simp [fldB]
    refine ⟨_, rfl, ⟨_, _, by rw [strs_length, hlen], by rw [strs_length]; exact Nat.le_refl _, by unfold maxLen; omega, .inr ⟨w.heap.size, 0, rfl, by simp, fun j t ht => ?_⟩⟩, (Below.refl _ _).alloc (Nat.le_refl _) _⟩
    rw [Nat.zero_add]
    have hn := World.news_of_block (w := w.alloc (.cells ((Lib.fields s.data.toList).map fun l => Value.string ⟨l.toArray⟩).toArray 9)) (B := w.heap.size) (cs := ((Lib.fields s.data.toList).map fun l => Value.string ⟨l.toArray⟩).toArray) (t := 9) (fr := (0, 0)) (heap_alloc_new w _) j t (by rw [List.toList_toArray, strs_fields]; exact ht)
    have hadd : (⟨w.heap.size, 0, none⟩ : Addr).add j = ⟨w.heap.size, j, none⟩ := by unfold Addr.add; split <;> simp_all
    rwa [hadd] at hn

set_option maxRecDepth 100000 in
/-- strings.Join at words. -/
theorem joinW_any (ao : Option Addr) (c : Nat) (xs : List ByteArray) (w : World) (hr : RowOf w (.slice ao xs.length c) (strs xs)) (h0 : xs ≠ []) (hl : xs.length ≤ 100) (hx : ∀ x ∈ xs, x.size ≤ 60) :
    Calls Tryd.prog 18 #[.slice ao xs.length c, .string ⟨#[32]⟩] w fun e w' => e = .returned (.string (jnW xs)) ∧ Below w.heap.size w w' := by
  obtain ⟨ao', c', hv, h1, h2, h3⟩ := hr
  injection hv with e1 e2 e3
  subst e1 e3
  rw [strs_length] at h1
  obtain ⟨b, o, rfl, hlt, hc⟩ := h3.resolve_left (by intro h; have h' := congrArg List.length h; rw [strs_length, List.length_nil] at h'; exact h0 (List.eq_nil_of_length_eq_zero h'))
  have hj := jnW_is xs
  have hsz := jnW_size xs hx
  refine (Tryd.strings_Join b o c xs ⟨#[32]⟩ w (fun j x hj => hc j (.string x) (by simp [strs, hj])) hlt (by omega) h1 ?_).mono ?_
  · have : (Lib.join (xs.map (·.data.toList)) [32]).length = (jnW xs).size := by rw [← hj]; simp [ByteArray.size]
    show (Lib.join (xs.map (·.data.toList)) [32]).length ≤ _
    omega
  · rintro e w' ⟨rfl, hb⟩
    exact ⟨by rw [← hj], hb⟩

end Go.Proofs.YtbddokfcohnndabDoor
