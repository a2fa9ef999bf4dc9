/-
  impl.QuoteText, by its contract.
-/
import Derived.Test.YtncehcklppakcaaGreatDoorBuilder
import Derived.Test.YtncehcklppakcaaGreatDoorBaseC
import Derived.Test.YtncehcklppakcaaGreatDoorQuotePlain
namespace Go.Proofs.YtncehcklppakcaaGreatDoor
open Go.RowKit
set_option linter.unusedVariables false

def qbV (n : Int) : Int := if n = 34 ∨ n = 92 then n else if n = 10 then 110 else 0

set_option maxHeartbeats 1000000 in
theorem quoteByte_any (n : Int) (w : World) :
    Calls Tryz.prog 107 #[.int .u8 n] w fun e w' => e = .returned (.tuple #[.int .u8 (qbV n), .bool (specI n)]) ∧ w = w' := by
  by_cases a : n = 34
  · subst a
    go_enter Tryz.func107, Tryz.ntmps107
    go_wp2
    go_ret2
    exact ⟨rfl, rfl⟩
  by_cases b : n = 92
  · subst b
    go_enter Tryz.func107, Tryz.ntmps107
    go_wp2
    go_ret2
    exact ⟨rfl, rfl⟩
  by_cases c : n = 10
  · subst c
    go_enter Tryz.func107, Tryz.ntmps107
    go_wp2
    go_ret2
    exact ⟨rfl, rfl⟩
  · have e1 : qbV n = 0 := by simp [qbV, a, b, c]
    have e2 : specI n = false := by simp [specI, a, b, c]
    rw [e1, e2]
    have t1 : (n == 34) = false := by simpa using a
    have t2 : (n == 92) = false := by simpa using b
    have t3 : (n == 10) = false := by simpa using c
    clear a b c e1 e2
    go_enter Tryz.func107, Tryz.ntmps107
    go_wp2
    go_ret2
    exact ⟨rfl, rfl⟩

theorem quoteT_no {s : ByteArray} (h : textB s = false) : quoteT s = ⟨#[]⟩ := by unfold quoteT; rw [h]; rfl
theorem textB_size {s : ByteArray} (h : textB s = true) : s.size ≤ 20000 := by
  simp only [textB, Bool.and_eq_true, decide_eq_true_eq] at h; exact h.1
theorem quote_step (s : ByteArray) (k : Nat) (h : k < s.size) : quoteI (s.data.toList.take (k + 1)) = quoteI (s.data.toList.take k) ++ quoteC s[k] := by
  rw [take_snoc s k h, quoteI_snoc]
theorem take_len (s : ByteArray) (k : Nat) : (quoteI (s.data.toList.take k)).length ≤ 2 * k := by
  have := (quoteI_len (s.data.toList.take k)).2
  rw [List.length_take] at this
  omega
/-- How a byte is written. -/
theorem quoteC_cases (c : UInt8) : (specI (c.toNat : Int) = false ∧ quoteC c = [c]) ∨ (specI (c.toNat : Int) = true ∧ ∃ d : UInt8, qbV (c.toNat : Int) = (d.toNat : Int) ∧ quoteC c = [92, d]) := by
  by_cases h10 : c = 10
  · subst h10; exact .inr ⟨by decide, 110, by decide, by decide⟩
  by_cases h34 : c = 34
  · subst h34; exact .inr ⟨by decide, 34, by decide, by decide⟩
  by_cases h92 : c = 92
  · subst h92; exact .inr ⟨by decide, 92, by decide, by decide⟩
  · refine .inl ⟨?_, by simp [quoteC, h10, h34, h92]⟩
    have n10 : c.toNat ≠ 10 := fun e => h10 (UInt8.toNat_inj.mp e)
    have n34 : c.toNat ≠ 34 := fun e => h34 (UInt8.toNat_inj.mp e)
    have n92 : c.toNat ≠ 92 := fun e => h92 (UInt8.toNat_inj.mp e)
    simp only [specI, decide_eq_false_iff_not]; omega

set_option maxRecDepth 100000 in
set_option maxHeartbeats 2000000 in
theorem quoteText_impl (s : ByteArray) (w : World) (hs : s.size ≤ maxLen) :
    Calls Tryz.prog 84 #[.string s] w fun e w' => e = .returned (.string (quoteT s)) ∧ Below w.heap.size w w' := by
  cases ht : textB s with
  | false =>
    rw [quoteT_no ht]
    go_enter Tryz.func84, Tryz.ntmps84
    go_wp2_with fail
    refine (textValid_impl s _ hs).mono ?_
    rintro e w' ⟨rfl, rfl⟩
    rw [ht]
    go_wp2
    go_ret
    exact ⟨rfl, Below.refl _ _⟩
  | true =>
    have hs2 := textB_size ht
    have HS := Lib.hid hs
    have HT := Lib.hid ht
    clear ht hs
    go_enter Tryz.func84, Tryz.ntmps84
    go_wp2_with fail
    refine (textValid_impl s _ HS.out).mono ?_
    rintro e w' ⟨rfl, rfl⟩
    rw [HT.out]
    go_wp2_with fail
    refine (writeByte_n w.heap.size w.heap.size [] 34 34 (by decide) _ (BIs.new w) (by simp) (by simp)).mono ?_
    rintro e w1 ⟨rfl, h1, hb1⟩
    have H1 := Lib.hid h1
    have HB1 := Lib.hid (((Below.refl w.heap.size w).alloc (Nat.le_refl _) _).trans hb1)
    clear h1 hb1
    go_wp2_with fail
    go_loopw [13] (fun i wr => ∃ k : Nat, k ≤ s.size ∧ i = .int .i64 k ∧ BIs w.heap.size w.heap.size (34 :: quoteI (s.data.toList.take k)) wr ∧ Below w.heap.size w wr) (fun i _ => s.size - (intOf i).toNat)
    case atStart => exact ⟨0, Nat.zero_le _, rfl, H1.out, HB1.out⟩
    case round =>
      obtain ⟨k, hk, rfl, hI, hB⟩ := hrel
      have HI := Lib.hid hI; have HB := Lib.hid hB
      have hln := take_len s k
      clear hI hB
      by_cases hlt : k < s.size
      · have hb0 : (s[k].toNat : Int) ≤ 255 := by have := s[k].toNat_lt; omega
        have HQ := Lib.hid (quote_step s k hlt)
        go_wp2_with fail
        refine (quoteByte_any _ _).mono ?_
        rintro e w' ⟨rfl, rfl⟩
        rcases quoteC_cases s[k] with ⟨h1, h2⟩ | ⟨h1, d, h2, h3⟩
        · rw [h1]
          have HC := Lib.hid h2
          clear h1 h2
          go_wp2_with fail
          refine (writeByte_n w.heap.size w.heap.size _ s[k] _ rfl _ HI.out (by simp; omega) HB.out.size).mono ?_
          rintro e w2 ⟨rfl, h1, hb1⟩
          have H2 := Lib.hid h1; have HB2 := Lib.hid (HB.out.trans hb1)
          clear h1 hb1
          go_wp2
          go_roundw
          case rel => exact ⟨k + 1, by omega, by go_num, by rw [HQ.out, HC.out]; exact H2.out, HB2.out⟩
          case measure => simp [intOf]; omega
        · rw [h1, h2]
          have HC := Lib.hid h3
          clear h1 h2 h3
          have hd : (d.toNat : Int) ≤ 255 := by have := d.toNat_lt; omega
          go_wp2_with fail
          refine (writeByte_n w.heap.size w.heap.size _ 92 92 (by decide) _ HI.out (by simp; omega) HB.out.size).mono ?_
          rintro e w2 ⟨rfl, h1, hb1⟩
          have H2 := Lib.hid h1; have HB2 := Lib.hid (HB.out.trans hb1)
          clear h1 hb1
          go_wp2_with fail
          refine (writeByte_n w.heap.size w.heap.size _ d _ rfl _ H2.out (by simp; omega) HB2.out.size).mono ?_
          rintro e w3 ⟨rfl, h1, hb1⟩
          have H3 := Lib.hid h1; have HB3 := Lib.hid (HB2.out.trans hb1)
          clear h1 hb1
          go_wp2
          go_roundw
          case rel => exact ⟨k + 1, by omega, by go_num, by rw [HQ.out, HC.out]; have := H3.out; simpa using this, HB3.out⟩
          case measure => simp [intOf]; omega
      · obtain rfl : k = s.size := by omega
        go_wp2_with fail
        refine (writeByte_n w.heap.size w.heap.size _ 34 34 (by decide) _ HI.out (by simp; omega) HB.out.size).mono ?_
        rintro e w2 ⟨rfl, h1, hb1⟩
        have H2 := Lib.hid h1; have HB2 := Lib.hid (HB.out.trans hb1)
        clear h1 hb1
        go_wp2_with fail
        refine (bString w.heap.size w.heap.size _ _ H2.out HB2.out.size).mono ?_
        rintro e w3 ⟨rfl, hb3⟩
        have HB3 := Lib.hid (HB2.out.trans hb3)
        clear hb3
        go_wp2
        go_ret
        refine ⟨?_, HB3.out⟩
        unfold quoteT quoteL
        rw [if_pos HT.out, List.take_of_length_le (by simp)]
        rfl

end Go.Proofs.YtncehcklppakcaaGreatDoor
