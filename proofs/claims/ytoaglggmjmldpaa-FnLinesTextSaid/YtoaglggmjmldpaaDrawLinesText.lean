/-
  spec.DrawLinesText returns a few short texts.
-/
import Derived.Test.YtoaglggmjmldpaaDraw
import Derived.Test.YtoaglggmjmldpaaLinesSpec
namespace Go.Proofs.Ytoaglggmjmldpaa
open Go.RowKit
set_option linter.unusedVariables false

theorem lit4 (m : Nat) (h : m < 4) : ∃ t : ByteArray, t.size ≤ 9 ∧ (#[Value.string ⟨#[]⟩, .string ⟨#[97]⟩, .string ⟨#[97, 98, 32, 99]⟩, .string ⟨#[120, 32, 35, 32, 121]⟩] : Array Value)[m]? = some (.string t) := by
  match m, h with
  | 0, _ => exact ⟨_, by decide, rfl⟩
  | 1, _ => exact ⟨_, by decide, rfl⟩
  | 2, _ => exact ⟨_, by decide, rfl⟩
  | 3, _ => exact ⟨_, by decide, rfl⟩

theorem own_lower {w : World} {b b' : Nat} {e : TypeId} {size : Nat} {v : Value} {n : Nat} {xs : List Value} (h : w.ownsRow b e size v n xs) (hb : b' ≤ b) : w.ownsRow b' e size v n xs := by
  refine ⟨h.1, ?_⟩
  rcases h.2 with h2 | ⟨g, cap, cur, hv, hg, r⟩
  · exact .inl h2
  · exact .inr ⟨g, cap, cur, hv, by omega, r⟩

/-- What the law is told of drawn texts. -/
def DrawnTexts (w : World) (e : Ending) (w' : World) : Prop :=
  ∃ (L : List ByteArray) (v : Value), e = .returned v ∧ L.length ≤ 4 ∧ (∀ t ∈ L, t.size ≤ 9) ∧ w'.ownsRow w.heap.size 9 1 v L.length (strs L) ∧ Below w.heap.size w w'

set_option maxRecDepth 100000 in
set_option maxHeartbeats 2000000 in
theorem drawLinesText_any (a : Option Addr) (len cap : Nat) (w : World) (h : CodeRow w a len cap) :
    Calls Try.prog 21 #[.slice a len cap] w (DrawnTexts w) := by
  obtain ⟨i0, hi, hz0, hz1, hz2⟩ := info_parts infoStr
  go_enter Try.func21, Try.ntmps21
  go_wp2_with fail
  refine (open_codes a len cap _ h).mono ?_
  rintro e w1 ⟨rfl, hr1, hb1, hs1⟩
  have HB1 := Lib.hid hb1; have HS1 := Lib.hid hs1
  clear hb1 hs1
  go_wp2_with fail
  refine (pick_any w.heap.size 0 4 _ (by omega) (hr1.kept (World.grownBy_alloc w1 _ none) (by simp))).mono ?_
  rintro e w2 ⟨m, rfl, hm0, hm1, -, hr2, hg2, hs2⟩
  have hm2 := hm1 (by omega)
  obtain ⟨k1, rfl⟩ := Int.eq_ofNat_of_zero_le hm0
  have O2 := Lib.hid (World.ownsRow.kept (World.ownsRow_lit (e := 9) (size := 1) (base := w1.heap.size) w1 #[] 0 (Nat.le_refl _) (by unfold maxLen; omega) rfl) hg2 (.inr (by simp [Value.ownBlock]; have := HS1.out; omega)))
  have HB2 := Lib.hid (show Below w.heap.size w w2 from (HB1.out.alloc HB1.out.size _).trans (grown_below hg2 (by have := HB1.out.size; simp; omega) (Nat.le_refl _)))
  have Z2 := Lib.hid (show w1.heap.size ≤ w2.heap.size by have := hg2.size; simp at this; omega)
  clear hm1 hg2 hs2 hr1 HB1
  go_wp2_with fail
  go_loopw [4, 5] (fun v k wr => ∃ (L : List ByteArray) (m : Nat), k = .int .i64 m ∧ L.length + m ≤ 3 ∧ (∀ t ∈ L, t.size ≤ 9) ∧ wr.ownsRow w1.heap.size 9 1 v L.length (strs L) ∧ Rdm wr w.heap.size (1 + (3 - m)) ∧ Below w.heap.size w wr ∧ w1.heap.size ≤ wr.heap.size) (fun _ k _ => (intOf k).toNat)
  case atStart => exact ⟨[], k1, rfl, by simp; omega, by simp, O2.out, hr2.mono (by omega), HB2.out, Z2.out⟩
  case round =>
    obtain ⟨L, m, rfl, hLm, hsz, hown, hr, hb, hz⟩ := hrel
    have HSZ := Lib.hid hsz; have HB := Lib.hid hb; have O := Lib.hid hown
    have hR : w.heap.size < w1.heap.size := by have := HS1.out; omega
    clear hsz hb hown
    by_cases h0 : 0 < m
    · go_wp2_with fail
      refine (pick_any w.heap.size (1 + (3 - m)) 4 _ (by omega) (hr.kept (World.grownBy_alloc wr _ none) (by simp))).mono ?_
      rintro e w3 ⟨j, rfl, hj0, hj1, -, hr3, hg3, hs3⟩
      have hj2 := hj1 (by omega)
      obtain ⟨j1, rfl⟩ := Int.eq_ofNat_of_zero_le hj0
      obtain ⟨t, ht, hlit⟩ := lit4 j1 (by omega)
      have hcell := lit_cell hr.lt hg3 hlit
      have O3 := Lib.hid ((O.out.alloc _).kept hg3 (by
        cases hq : u4.ownBlock with
        | none => exact .inl rfl
        | some x => right; intro he; have := (O.out.lt x hq).1; cases he; omega))
      have HB3 := Lib.hid (show Below w.heap.size w w3 from (HB.out.alloc HB.out.size _).trans (grown_below hg3 (by have := HB.out.size; simp; omega) (Nat.le_refl _)))
      have hz3 : w1.heap.size ≤ w3.heap.size := by have := hg3.size; simp at this; omega
      clear hj1 hg3 hs3 hlit hr HB hz
      go_wp2_with (at_builtin; refine wpList_append_own _ rfl _ _ 27 rfl w1.heap.size 9 i0 (.string ByteArray.empty) 1 16 Try.underlying27 hi hz0 hz1 hz2 rfl (by decide) _ _ _ rfl (O3.out.alloc _) ⟨w3.heap.size, 0, none⟩ 1 1 [.string t] rfl rfl (cell_one_new _ _ _) (str_oneCell _) (by unfold maxLen; omega) (by omega) (by simp; omega) ?_; intro v' w4 hown' hgrow hnil)
      have R4 := Lib.hid ((hr3.kept (World.grownBy_alloc w3 _ none) (by simp)).kept hgrow (fun q hq => by have := (O.out.lt q hq).1; omega))
      go_roundw
      case rel =>
        refine ⟨L ++ [t], m - 1, by go_num, by simp; omega, ?_, ?_, R4.out.mono (by omega), ?_, ?_⟩
        · intro x hx
          rcases List.mem_append.1 hx with hx | hx
          · exact HSZ.out x hx
          · simp only [List.mem_singleton] at hx; subst hx; exact ht
        · rw [List.length_append, strs_append]; exact hown'
        · exact (HB3.out.alloc HB3.out.size _).grown hgrow (by have := HB3.out.size; simp; omega) (fun q hq => by have := (O.out.lt q hq).1; omega)
        · have := hgrow.size; simp at this; omega
      case measure => simp [intOf]; omega
    · go_wp2_with fail
      refine (odd_any w.heap.size 4 4 _ (by omega) (by omega) (by omega) (hr.mono (by omega))).mono ?_
      rintro e w3 ⟨bb, rfl, -, hr3, hg3, hs3⟩
      have O3 := Lib.hid (O.out.kept hg3 (by
        cases hq : u4.ownBlock with
        | none => exact .inl rfl
        | some x => right; intro he; have := (O.out.lt x hq).1; cases he; omega))
      have HB3 := Lib.hid (HB.out.trans (grown_below hg3 HB.out.size (Nat.le_refl _)))
      have hz3 : w1.heap.size ≤ w3.heap.size := by omega
      clear hg3 hs3 HB hr hz
      cases bb with
      | false =>
        go_wp2
        go_ret
        exact ⟨L, _, rfl, by omega, HSZ.out, own_lower O3.out (by omega), HB3.out⟩
      | true =>
        go_wp2_with fail
        refine (plain_any w.heap.size (4 + 1) 2 _ (by omega) (by omega) (by omega) hr3).mono ?_
        rintro e w4 ⟨t, rfl, ht, hr4, hg4⟩
        have O4 := Lib.hid (O3.out.kept hg4 (by
          cases hq : u4.ownBlock with
          | none => exact .inl rfl
          | some x => right; intro he; have := (O.out.lt x hq).1; cases he; omega))
        have HB4 := Lib.hid (HB3.out.trans (grown_below hg4 HB3.out.size (Nat.le_refl _)))
        have hz4 : w1.heap.size ≤ w4.heap.size := by have := hg4.size; omega
        clear hg4 hr3 hr4 HB3 O3 hz3
        go_wp2_with (at_builtin; refine wpList_append_own _ rfl _ _ 27 rfl w1.heap.size 9 i0 (.string ByteArray.empty) 1 16 Try.underlying27 hi hz0 hz1 hz2 rfl (by decide) _ _ _ rfl (O4.out.alloc _) ⟨w4.heap.size, 0, none⟩ 1 1 [.string t] rfl rfl (cell_one_new _ _ _) (str_oneCell _) (by unfold maxLen; omega) (by omega) (by simp; omega) ?_; intro v' w5 hown' hgrow hnil)
        go_ret
        refine ⟨L ++ [t], _, rfl, by simp; omega, ?_, ?_, ?_⟩
        · intro x hx
          rcases List.mem_append.1 hx with hx | hx
          · exact HSZ.out x hx
          · simp only [List.mem_singleton] at hx; subst hx; exact ht
        · rw [List.length_append, strs_append]; exact own_lower hown' (by omega)
        · exact (HB4.out.alloc HB4.out.size _).grown hgrow (by have := HB4.out.size; simp; omega) (fun q hq => by have := (O.out.lt q hq).1; omega)

end Go.Proofs.Ytoaglggmjmldpaa
