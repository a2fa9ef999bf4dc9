/-
  impl.lineStarts, by its contract.
-/
import Derived.Test.YtoaglggmjmldpaaTexts
import Derived.Test.YtoaglggmjmldpaaRead
import Derived.Test.YtoaglggmjmldpaaLinesPlain
namespace Go.Proofs.Ytoaglggmjmldpaa
open Go.RowKit
set_option linter.unusedVariables false

theorem infoInt : (Try.prog.info? 3).map (fun i => (i.zero, i.size, i.bytes)) = some (some (.int .i64 0), 1, 8) := by kernel_rfl

/-- Numbers as values. -/
def ints (l : List Nat) : List Value := l.map fun (x : Nat) => Value.int .i64 (x : Int)
theorem ints_length (l : List Nat) : (ints l).length = l.length := by simp [ints]
theorem ints_append (a b : List Nat) : ints (a ++ b) = ints a ++ ints b := by simp [ints]

theorem byte_ten (s : ByteArray) (k : Nat) (h : k < s.size) (e : ((s[k].toNat : Int) == 10) = true) : s.data.toList[k]? = some 10 := by
  have : s[k] = 10 := by
    simp only [beq_iff_eq] at e
    exact UInt8.toNat_inj.1 (by show s[k].toNat = 10; omega)
  rw [List.getElem?_eq_getElem (by simpa using h)]
  exact congrArg some this
theorem byte_other (s : ByteArray) (k : Nat) (h : k < s.size) (e : ((s[k].toNat : Int) == 10) = false) : ¬ s.data.toList[k]? = some 10 := by
  intro hc
  rw [List.getElem?_eq_getElem (by simpa using h)] at hc
  have : s[k] = 10 := Option.some.inj hc
  rw [this] at e
  simp at e

/-- What lineStarts leaves. -/
def Starts (s : ByteArray) (w : World) (e : Ending) (w' : World) : Prop :=
  ∃ g cap, e = .returned (.slice (some ⟨g, 0, none⟩) (lineN s.data.toList s.size + 1) cap) ∧ lineN s.data.toList s.size + 1 ≤ cap ∧ cap ≤ maxLen ∧ w.heap.size ≤ g ∧ g < w'.heap.size ∧
    (∀ (j x : Nat), (starts s.data.toList s.size)[j]? = some x → w'.cell? ⟨g, j, none⟩ = some (.int .i64 (x : Int))) ∧ Below w.heap.size w w'

theorem starts_of_own {s : ByteArray} {w w' : World} {v : Value} (h : w'.ownsRow w.heap.size 3 1 v (starts s.data.toList s.size).length (ints (starts s.data.toList s.size))) (hb : Below w.heap.size w w') : Starts s w (.returned v) w' := by
  have h0 := h
  rcases h.2 with ⟨_, h'⟩ | ⟨g, cap, cur, rfl, hg, hh, h1, h2, _⟩
  · rw [starts_length] at h'; omega
  · refine ⟨g, cap, by rw [starts_length], by rw [starts_length] at h1; exact h1, h2, hg, ?_, ?_, hb⟩
    · by_cases hk : g < w'.heap.size
      · exact hk
      · rw [Array.getElem?_eq_none (by omega)] at hh; cases hh
    · intro j x hj
      have hlt : j < (starts s.data.toList s.size).length := by
        by_cases hk : j < (starts s.data.toList s.size).length
        · exact hk
        · rw [List.getElem?_eq_none (by omega)] at hj; cases hj
      rw [h0.cellAt j (by omega)]
      simp [ints, hj]

set_option maxRecDepth 100000 in
set_option maxHeartbeats 2000000 in
theorem lineStarts_any (s : ByteArray) (w : World) (hs : s.size ≤ 20000) :
    Calls Try.prog 35 #[.string s] w (Starts s w) := by
  obtain ⟨i0, hi, hz0, hz1, hz2⟩ := info_parts infoInt
  go_enter Try.func35, Try.ntmps35
  go_wp2
  go_loopw [3, 4, 8] (fun v _ i wr => ∃ k : Nat, k ≤ s.size ∧ i = .int .i64 k ∧ wr.ownsRow w.heap.size 3 1 v (starts s.data.toList k).length (ints (starts s.data.toList k)) ∧ Below w.heap.size w wr) (fun _ _ i _ => s.size - (intOf i).toNat)
  case atStart => exact ⟨0, Nat.zero_le _, rfl, World.ownsRow_lit _ _ 1 (Nat.le_refl _) (by unfold maxLen; omega) rfl, (Below.refl _ _).alloc (Nat.le_refl _) _⟩
  case round =>
    obtain ⟨k, hk, rfl, hown, hb⟩ := hrel
    have HB := Lib.hid hb; clear hb
    by_cases hlt : k < s.size
    · have hb0 : (s[k].toNat : Int) ≤ 255 := by have := s[k].toNat_lt; omega
      have hll := lineN_le s.data.toList k
      have hsl := starts_length s.data.toList k
      have HSL := Lib.hid hsl; clear hsl
      by_cases hten : ((s[k].toNat : Int) == 10) = true
      · have HS := Lib.hid (show starts s.data.toList (k + 1) = starts s.data.toList k ++ [k + 1] by simp only [starts]; rw [if_pos (byte_ten s k hlt hten)])
        go_wp2_with (at_builtin; refine wpList_append_own _ rfl _ _ 47 rfl w.heap.size 3 i0 (.int .i64 0) 1 8 Try.underlying47 hi hz0 hz1 hz2 rfl (by decide) _ _ _ rfl (hown.alloc _) ⟨wr.heap.size, 0, none⟩ 1 1 [.int .i64 ((k : Int) + 1)] rfl rfl (cell_one_new _ _ _) (ints_oneCell .i64 [(k : Int) + 1]) (by have := HSL.out; unfold maxLen; omega) (by have := HSL.out; omega) (by have := HB.out.size; simp; omega) ?_; intro v' w1 hown' hgrow hnil)
        go_roundw
        case rel =>
          refine ⟨k + 1, by omega, by go_num, ?_, ?_⟩
          · rw [HS.out, ints_append, List.length_append]; exact hown'
          · exact (HB.out.alloc HB.out.size _).grown hgrow (by have := HB.out.size; simp; omega) (fun q hq => (hown.lt q hq).1)
        case measure => simp [intOf]; omega
      · have hten' : ((s[k].toNat : Int) == 10) = false := by simpa using hten
        have HS := Lib.hid (show starts s.data.toList (k + 1) = starts s.data.toList k by simp only [starts]; rw [if_neg (byte_other s k hlt hten')])
        clear hten
        go_wp2
        go_roundw
        case rel => exact ⟨k + 1, by omega, by go_num, by rw [HS.out]; exact hown, HB.out⟩
        case measure => simp [intOf]; omega
    · go_wp2
      go_ret
      obtain rfl : k = s.size := by omega
      exact starts_of_own hown HB.out

end Go.Proofs.Ytoaglggmjmldpaa
