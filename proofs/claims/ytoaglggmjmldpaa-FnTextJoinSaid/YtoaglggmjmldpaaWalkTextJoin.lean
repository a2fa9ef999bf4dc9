/-
  The walk of laws.FnTextJoin.
-/
import Derived.Test.YtoaglggmjmldpaaLinesImpl
import Derived.Test.YtoaglggmjmldpaaSameTexts
import Derived.Test.YtoaglggmjmldpaaSplit
import Derived.Test.YtoaglggmjmldpaaAlive
import Derived.Test.YtoaglggmjmldpaaDrawLinesOf
import Derived.Laws.AppendOwnNone
namespace Go.Proofs.Ytoaglggmjmldpaa
open Go.RowKit
set_option linter.unusedVariables false

theorem ends_ten (s : ByteArray) (h : 0 < s.size) (e : ((s[s.size - 1].toNat : Int) == 10) = true) : ∃ l, s.data.toList = l ++ [10] := by
  have h1 := take_snoc s (s.size - 1) (by omega)
  rw [Nat.sub_add_cancel h, List.take_of_length_le (by rw [← size_bytes]; exact Nat.le_refl _)] at h1
  have : s[s.size - 1] = 10 := by
    simp only [beq_iff_eq] at e
    exact UInt8.toNat_inj.1 (by show s[s.size - 1].toNat = 10; omega)
  rw [this] at h1
  exact ⟨_, h1⟩
theorem plain_add (b off j : Nat) : (⟨b, off, none⟩ : Addr).add j = ⟨b, off + j, none⟩ := by
  unfold Addr.add; split <;> simp_all
theorem split_ne (acc a : List UInt8) : splitL acc (a ++ [10]) ≠ [] := by
  induction a generalizing acc with
  | nil => simp [splitL]
  | cons x a ih =>
    simp only [List.cons_append, splitL]
    split
    · simp
    · exact ih _
theorem lines_ne (s : ByteArray) (ht : textB s = true) (h : ∃ l, s.data.toList = l ++ [10]) : linesB s ≠ [] := by
  intro he
  obtain ⟨l, hl⟩ := h
  have h1 : bytesOf (linesB s) = splitL [] (l ++ [10]) := by rw [linesB, if_pos ht, split_all, hl]
  rw [he] at h1
  exact split_ne [] l h1.symm
theorem strs_oneCell (L : List ByteArray) : ∀ u ∈ strs L, u.oneCell' = true := by
  intro u hu
  obtain ⟨t, _, rfl⟩ := List.mem_map.1 hu
  rfl

set_option maxRecDepth 100000 in
set_option maxHeartbeats 2000000 in
theorem fnTextJoin_core (a0 : Option Addr) (len0 cap0 : Nat) (a1 : Option Addr) (len1 cap1 : Nat) (w : World) (hrow0 : CodeRow w a0 len0 cap0) (hrow1 : CodeRow w a1 len1 cap1) :
    Calls Try.prog 7 #[.slice a0 len0 cap0, .slice a1 len1 cap1] w fun e w' => e = .returned (.bool true) ∧ Below w.heap.size w w' := by
  obtain ⟨i0, hi, hz0, hz1, hz2⟩ := info_parts infoStr
  have hcap := hrow0.1; have hmx := hrow0.2.1
  have hcap1 := hrow1.1; have hmx1 := hrow1.2.1
  unfold maxLen at hmx hmx1
  by_cases hl : len0 ≤ 1048576
  rotate_left
  · have b0 : decide ((1048576 : Int) < (len0 : Int)) = true := by simp; omega
    go_enter Try.func7, Try.ntmps7
    go_wp2
    go_ret
    exact ⟨rfl, Below.refl _ _⟩
  by_cases hl1 : len1 ≤ 1048576
  rotate_left
  · have b0 : decide ((1048576 : Int) < (len0 : Int)) = false := by simp; omega
    have b1 : decide ((1048576 : Int) < (len1 : Int)) = true := by simp; omega
    go_enter Try.func7, Try.ntmps7
    go_wp2
    go_ret
    exact ⟨rfl, Below.refl _ _⟩
  have b0 : decide ((1048576 : Int) < (len0 : Int)) = false := by simp; omega
  have b1 : decide ((1048576 : Int) < (len1 : Int)) = false := by simp; omega
  go_enter Try.func7, Try.ntmps7
  go_wp2_with fail
  refine (drawLinesOf_any a0 len0 cap0 _ hrow0).mono ?_
  rintro e w1 ⟨s, rfl, hs, hb⟩
  have HB := Lib.hid hb; have HR1 := Lib.hid (hrow1.mono hb)
  clear hb hrow0 hrow1
  have hsm : s.size ≤ maxLen := by unfold maxLen; omega
  go_wp2_with fail
  refine (linesOf_impl s _ hsm).mono ?_
  rintro e w2 ⟨v2, rfl, hown2, hb2⟩
  have R2 := Lib.hid (RowOf.of_own hown2); have B2 := Lib.hid (HB.out.trans (hb2.mono HB.out.size)); have HR2 := Lib.hid (HR1.out.mono hb2)
  clear hown2 hb2 HB HR1
  go_wp2_with fail
  refine (linesOf_spec s _ hsm).mono ?_
  rintro e w3 ⟨v3, rfl, hown3, hb3⟩
  have R3 := Lib.hid (RowOf.of_own hown3); have B3 := Lib.hid (B2.out.trans (hb3.mono B2.out.size))
  have R23 := Lib.hid (R2.out.mono hb3); have HR3 := Lib.hid (HR2.out.mono hb3)
  clear hown3 hb3 B2 R2 HR2
  go_wp2_with fail
  refine (sameTexts_any _ _ _ _ _ R23.out R3.out).mono ?_
  rintro e w4 ⟨rfl, n4, hw4⟩
  have hb4 : Below w3.heap.size w3 w4 := by rw [hw4]; exact ⟨rfl, rfl, rfl, Nat.le_refl _, fun _ _ => rfl⟩
  have B4 := Lib.hid (B3.out.trans (hb4.mono B3.out.size))
  have R4 := Lib.hid (R23.out.mono hb4); have HR4 := Lib.hid (HR3.out.mono hb4)
  clear hw4 hb4 B3 R3 R23 HR3
  rw [show decide (linesB s = linesB s) = true by simp]
  go_wp2_with fail
  refine (drawLinesOf_any a1 len1 cap1 _ HR4.out).mono ?_
  rintro e w5 ⟨t, rfl, ht, hb5⟩
  have B5 := Lib.hid (B4.out.trans (hb5.mono B4.out.size)); have R5 := Lib.hid (R4.out.mono hb5)
  clear hb5 B4 R4 HR4
  have htm : t.size ≤ maxLen := by unfold maxLen; omega
  go_wp2_with fail
  refine (textValid_spec s _ hsm).mono ?_
  rintro e w' ⟨rfl, hw'⟩
  subst hw'
  by_cases hs1 : textB s = true
  rotate_left
  · rw [Bool.eq_false_iff.mpr hs1]
    clear hs1 R5
    go_wp2_with fail
    refine (alive_any _).mono ?_
    rintro e w' ⟨rfl, hw'⟩
    subst hw'
    go_wp2
    go_ret
    exact ⟨rfl, B5.out⟩
  rw [hs1]
  have HS1 := Lib.hid hs1; clear hs1
  go_wp2_with fail
  refine (textValid_spec t _ htm).mono ?_
  rintro e w' ⟨rfl, hw'⟩
  subst hw'
  by_cases ht1 : textB t = true
  rotate_left
  · rw [Bool.eq_false_iff.mpr ht1]
    clear ht1 R5
    go_wp2_with fail
    refine (alive_any _).mono ?_
    rintro e w' ⟨rfl, hw'⟩
    subst hw'
    go_wp2
    go_ret
    exact ⟨rfl, B5.out⟩
  rw [ht1]
  have HT1 := Lib.hid ht1; clear ht1
  by_cases h0 : 0 < s.size
  rotate_left
  · have e0 : s.toList.isEmpty = true := by
      rw [ByteArray.toList_eq, List.isEmpty_iff]; exact List.eq_nil_of_length_eq_zero (by rw [← size_bytes]; omega)
    clear R5
    go_wp2_with fail
    refine (alive_any _).mono ?_
    rintro e w' ⟨rfl, hw'⟩
    subst hw'
    go_wp2
    go_ret
    exact ⟨rfl, B5.out⟩
  have e0 : s.toList.isEmpty = false := by
    rw [ByteArray.toList_eq]
    cases hc : s.data.toList with
    | nil => have := congrArg List.length hc; rw [← size_bytes] at this; simp only [List.length_nil] at this; omega
    | cons x l => rfl
  have bi : (0 : Int) ≤ (s.size : Int) - 1 := by omega
  have bj : (s.size : Int) - 1 < (s.size : Int) := by omega
  by_cases hlast : ((s[s.size - 1].toNat : Int) == 10) = true
  rotate_left
  · have e1 : ((s[s.size - 1].toNat : Int) != 10) = true := by rw [bne, Bool.eq_false_iff.mpr hlast]; rfl
    clear R5 hlast
    go_wp2_with fail
    refine (alive_any _).mono ?_
    rintro e w' ⟨rfl, hw'⟩
    subst hw'
    go_wp2
    go_ret
    exact ⟨rfl, B5.out⟩
  have e1 : ((s[s.size - 1].toNat : Int) != 10) = false := by rw [bne, hlast]; rfl
  have HE := Lib.hid (ends_ten s h0 hlast)
  have HA := Lib.hid (lines_append s t HS1.out HT1.out (by omega) HE.out)
  have HNE := Lib.hid (lines_ne s HS1.out HE.out)
  clear hlast
  have hns := linesB_length s
  have hnt := linesB_length t
  go_wp2_with fail
  refine (linesOf_impl (s ++ t) _ (by rw [ByteArray.size_append]; unfold maxLen; omega)).mono ?_
  rintro e w6 ⟨v6, rfl, hown6, hb6⟩
  have B6 := Lib.hid (B5.out.trans (hb6.mono B5.out.size)); have R6 := Lib.hid (R5.out.mono hb6); have S6 := Lib.hid (RowOf.of_own hown6)
  clear hown6 hb6 B5 R5
  obtain ⟨ao, cap, hv2, q1, q2, q3⟩ := R6.out
  obtain ⟨b, off, hA, hbl, cc⟩ := q3.resolve_left (by intro h; exact HNE.out (by simpa [strs] using h))
  subst hA
  rw [strs_length] at hv2 q1
  subst hv2
  have HN := Lib.hid (show ∀ (o : Obj) (j : Nat) (u : Value), (strs (linesB s))[j]? = some u → (w6.alloc o).cell? ((⟨b, off, none⟩ : Addr).add j) = some u from fun o j u hu => by
    rw [plain_add, ((Below.refl w6.heap.size w6).alloc (Nat.le_refl _) o).cell (p := ⟨b, off + j, none⟩) hbl]; exact cc j u hu)
  clear cc q3
  go_wp2_with (at_builtin; refine wpList_append_own _ rfl (.tmp 52) (.tmp 53) 27 rfl w6.heap.size 9 i0 (.string ByteArray.empty) 1 16 Try.underlying27 hi hz0 hz1 hz2 rfl (by decide) _ 0 _ rfl (World.ownsRow_lit _ _ 0 (Nat.le_refl _) (by unfold maxLen; omega) rfl) ⟨b, off, none⟩ (linesB s).length cap (strs (linesB s)) rfl (by rw [strs_length]; omega) (HN.out _) (strs_oneCell _) (by unfold maxLen; omega) (by omega) (by simp) ?_; intro v7 w7 hown7 hgrow7 hnil7)
  have hown7' : w7.ownsRow w6.heap.size 9 1 v7 (linesB s).length (strs (linesB s)) := by simpa using hown7
  have hb7 : Below w6.heap.size w6 w7 := ((Below.refl w6.heap.size w6).alloc (Nat.le_refl _) _).grown hgrow7 (by simp) (fun q hq => by cases hq; exact Nat.le_refl _)
  have B7 := Lib.hid (B6.out.trans (hb7.mono B6.out.size)); have S7 := Lib.hid (S6.out.mono hb7); have O7 := Lib.hid hown7'
  have Z7 := Lib.hid hb7.size; have C7 := Lib.hid hb7
  clear hown7 hgrow7 hnil7 hown7' hb7 R6 HN
  refine (linesOf_impl t _ htm).mono ?_
  rintro e w8 ⟨v8, rfl, hown8, hb8⟩
  have hg8 : w7.grownBy w8 none := ⟨hb8.os, hb8.tape, hb8.output, hb8.size, fun k hk _ => hb8.block k hk⟩
  have O8 := Lib.hid (O7.out.kept hg8 (by cases h : v7.ownBlock with | none => exact .inl rfl | some x => exact .inr (by simp)))
  have B8 := Lib.hid (B7.out.trans (hb8.mono B7.out.size)); have S8 := Lib.hid (S7.out.mono hb8); have R8 := Lib.hid (RowOf.of_own hown8)
  have Z8 := Lib.hid (Nat.le_trans Z7.out hb8.size); have C8 := Lib.hid (C7.out.trans (hb8.mono Z7.out))
  clear hb8 hg8 B7 S7 O7 Z7 C7
  rw [HA.out.2] at S8 S6
  rcases hown8.2 with ⟨hv8, hn8⟩ | ⟨g8, cap8, cur8, hv8, hg8, hh8, hc8, hm8, -, -⟩
  · have HT0 := Lib.hid (List.eq_nil_of_length_eq_zero hn8)
    subst hv8
    clear hn8 hown8 R8
    go_wp2_with (at_builtin; refine wpList_append_own_none rfl (.tmp 54) (.tmp 56) 27 rfl w6.heap.size 9 i0 1 Try.underlying27 hi _ _ _ rfl O8.out rfl ?_)
    refine (sameTexts_any _ _ _ _ _ S8.out (RowOf.of_own O8.out)).mono ?_
    rintro e w9 ⟨rfl, n9, hw9⟩
    have B9 := Lib.hid (show Below w.heap.size w w9 by rw [hw9]; exact B8.out.trans ⟨rfl, rfl, rfl, Nat.le_refl _, fun _ _ => rfl⟩)
    clear hw9
    rw [show decide (linesB s ++ linesB t = linesB s) = true by rw [HT0.out]; simp]
    go_wp2
    go_ret
    exact ⟨rfl, B9.out⟩
  · subst hv8
    have HN8 := Lib.hid (show ∀ (j : Nat) (u : Value), (strs (linesB t))[j]? = some u → w8.cell? ((⟨g8, 0, none⟩ : Addr).add j) = some u from fun j u hu => by
      rw [plain_add, Nat.zero_add, hown8.cellAt j (by
        by_cases hk : j < (linesB t).length
        · omega
        · rw [List.getElem?_eq_none (by rw [strs_length]; omega)] at hu; cases hu)]
      exact hu)
    clear hown8 R8 hh8 hc8 hm8
    go_wp2_with (at_builtin; refine wpList_append_own _ rfl (.tmp 54) (.tmp 56) 27 rfl w6.heap.size 9 i0 (.string ByteArray.empty) 1 16 Try.underlying27 hi hz0 hz1 hz2 rfl (by decide) _ _ _ rfl O8.out ⟨g8, 0, none⟩ (linesB t).length cap8 (strs (linesB t)) rfl (by rw [strs_length]; omega) HN8.out (strs_oneCell _) (by unfold maxLen; omega) (by omega) Z8.out ?_; intro v9 w9 hown9 hgrow9 hnil9)
    have C9 := Lib.hid ((Below.refl w6.heap.size w8).grown hgrow9 Z8.out (fun q hq => (O8.out.lt q hq).1))
    have S9 := Lib.hid (S6.out.mono (C8.out.trans C9.out))
    have R9 := Lib.hid (show RowOf w9 v9 (strs (linesB s ++ linesB t)) by rw [strs_append]; exact RowOf.of_own hown9)
    have B9 := Lib.hid (B8.out.trans (C9.out.mono B6.out.size))
    clear hown9 hgrow9 hnil9 S8 O8 B8 C8 C9
    refine (sameTexts_any _ _ _ _ _ S9.out R9.out).mono ?_
    rintro e w10 ⟨rfl, n10, hw10⟩
    have B10 := Lib.hid (show Below w.heap.size w w10 by rw [hw10]; exact B9.out.trans ⟨rfl, rfl, rfl, Nat.le_refl _, fun _ _ => rfl⟩)
    clear hw10
    rw [show decide (linesB s ++ linesB t = linesB s ++ linesB t) = true by simp]
    go_wp2
    go_ret
    exact ⟨rfl, B10.out⟩

end Go.Proofs.Ytoaglggmjmldpaa
