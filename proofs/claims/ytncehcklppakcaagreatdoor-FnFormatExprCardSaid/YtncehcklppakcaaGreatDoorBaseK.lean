/-
  Several texts of the proof in one file: Rows2, UnqSpec, Strs, TokSign, TokEnd, TokS.
-/
import Derived.Test.YtncehcklppakcaaGreatDoorRows
import Derived.WalkKit
import Derived.WalkSpells
import Derived.Lib.Hide
import Derived.IntWalk
import Derived.BigQuiet
import Derived.Deep.QuietTactic
import Derived.Test.YtncehcklppakcaaGreatDoorQuoteSpec
import Derived.Test.YtncehcklppakcaaGreatDoorBaseC
import Derived.Below
import Derived.Laws.OwnMore
import Derived.OwnWalk
import Derived.Test.YtncehcklppakcaaGreatDoorBaseT
/-
  Slices of texts that are read.
-/
namespace Go.Proofs.YtncehcklppakcaaGreatDoor
open Go.RowKit
set_option linter.unusedVariables false

theorem text_eq {a b : ByteArray} (h : (a.toList == b.toList) = true) : a = b := by
  simp only [ByteArray.toList_eq, beq_iff_eq] at h
  exact Go.WideShapes.bytes_inj h
theorem text_ne {a b : ByteArray} (h : (a.toList == b.toList) = false) : a ≠ b := by
  rintro rfl; simp at h
theorem take_next {A B : List ByteArray} {k : Nat} (h : A.take k = B.take k) (hA : k < A.length) (hB : k < B.length) (e : A[k] = B[k]) : A.take (k + 1) = B.take (k + 1) := by
  rw [List.take_succ_eq_append_getElem hA, List.take_succ_eq_append_getElem hB, h, e]
theorem ne_at {A B : List ByteArray} {k : Nat} (hA : k < A.length) (hB : k < B.length) (e : A[k] ≠ B[k]) : decide (A = B) = false := by
  simp only [decide_eq_false_iff_not]; rintro rfl; exact e rfl
theorem eq_whole {A B : List ByteArray} {k : Nat} (h : A.take k = B.take k) (hA : A.length ≤ k) (hB : B.length ≤ k) : decide (A = B) = true := by
  rw [List.take_of_length_le hA, List.take_of_length_le hB] at h; simp [h]

/-- A slice that reads as cells. -/
def RowOf (w : World) (v : Value) (L : List Value) : Prop :=
  ∃ ao cap, v = .slice ao L.length cap ∧ L.length ≤ cap ∧ cap ≤ maxLen ∧ (L = [] ∨ ∃ b off, ao = some ⟨b, off, none⟩ ∧ b < w.heap.size ∧ ∀ (j : Nat) t, L[j]? = some t → w.cell? ⟨b, off + j, none⟩ = some t)

theorem RowOf.mono {w w' : World} {v : Value} {L : List Value} (h : RowOf w v L) (hb : Below w.heap.size w w') : RowOf w' v L := by
  obtain ⟨ao, cap, hv, h1, h2, h3⟩ := h
  refine ⟨ao, cap, hv, h1, h2, ?_⟩
  rcases h3 with h3 | ⟨b, off, ha, hlt, hj⟩
  · exact .inl h3
  · exact .inr ⟨b, off, ha, Nat.lt_of_lt_of_le hlt hb.size, fun j t ht => by rw [hb.cell (by exact hlt)]; exact hj j t ht⟩

theorem RowOf.drewN {w : World} {v : Value} {L : List Value} (h : RowOf w v L) (n : Nat) : RowOf (w.drewN n) v L :=
  h.mono ⟨rfl, rfl, rfl, Nat.le_refl _, fun _ _ => rfl⟩

theorem RowOf.of_own {w : World} {base : Nat} {e : TypeId} {v : Value} {n : Nat} {L : List Value} (h : w.ownsRow base e 1 v n L) : RowOf w v L := by
  have h0 := h
  obtain ⟨hl, h2⟩ := h
  rcases h2 with ⟨rfl, rfl⟩ | ⟨g, cap, cur, rfl, hg, hh, h1, h2, _⟩
  · obtain rfl : L = [] := List.eq_nil_of_length_eq_zero (by omega)
    exact ⟨none, 0, rfl, Nat.le_refl _, by unfold maxLen; omega, .inl rfl⟩
  · obtain rfl : n = L.length := by omega
    refine ⟨_, cap, rfl, h1, h2, .inr ⟨g, 0, rfl, ?_, ?_⟩⟩
    · by_cases hk : g < w.heap.size
      · exact hk
      · rw [Array.getElem?_eq_none (by omega)] at hh; cases hh
    · intro j t ht
      have hlt : j < L.length := by
        by_cases hk : j < L.length
        · exact hk
        · rw [List.getElem?_eq_none (by omega)] at ht; cases ht
      rw [Nat.zero_add, h0.cellAt j (by omega)]
      exact ht

end Go.Proofs.YtncehcklppakcaaGreatDoor

/-
  spec.UnquoteText, by its contract.
-/
namespace Go.Proofs.YtncehcklppakcaaGreatDoor
open Go.RowKit
set_option linter.unusedVariables false

theorem list_len (s : ByteArray) : s.data.toList.length = s.size := by rw [Array.length_toList]; rfl
theorem unq_long {s : ByteArray} (h : unqOK s = true) : 2 ≤ s.size := by
  simp only [unqOK, Bool.and_eq_true, decide_eq_true_eq] at h
  have := congrArg List.length h.2
  rw [list_len] at this
  simp [quoteL] at this
  omega
theorem unq_first {s : ByteArray} (h : unqOK s = true) (hl : 0 < s.size) : s[0] = 34 := by
  simp only [unqOK, Bool.and_eq_true, decide_eq_true_eq] at h
  have h2 : s.data.toList[0]? = some 34 := by rw [← h.2]; rfl
  rw [List.getElem?_eq_getElem (by rw [list_len]; omega)] at h2
  exact Option.some.inj h2
theorem unq_last {s : ByteArray} (h : unqOK s = true) (hl : s.size - 1 < s.size) : s[s.size - 1] = 34 := by
  simp only [unqOK, Bool.and_eq_true, decide_eq_true_eq] at h
  have h2 : s.data.toList.getLast? = some 34 := by rw [← h.2]; simp [quoteL, List.getLast?_cons]
  rw [List.getLast?_eq_getElem?, list_len, List.getElem?_eq_getElem (by rw [list_len]; omega)] at h2
  exact Option.some.inj h2
theorem unq_short {s : ByteArray} (h : s.size < 2) : unqOK s = false := by
  cases e : unqOK s with
  | false => rfl
  | true => have := unq_long e; omega
theorem unq_first_no {s : ByteArray} (hl : 0 < s.size) (h : s[0] ≠ 34) : unqOK s = false := by
  cases e : unqOK s with
  | false => rfl
  | true => exact absurd (unq_first e hl) h
theorem unq_last_no {s : ByteArray} (hl : s.size - 1 < s.size) (h : s[s.size - 1] ≠ 34) : unqOK s = false := by
  cases e : unqOK s with
  | false => rfl
  | true => exact absurd (unq_last e hl) h
theorem drop_two (s : ByteArray) (k : Nat) (h : k + 1 < s.size) : s.data.toList.drop k = s[k] :: s[k + 1] :: s.data.toList.drop (k + 2) := by
  rw [List.drop_eq_getElem_cons (by rw [list_len]; omega), List.drop_eq_getElem_cons (by rw [list_len]; omega)]; rfl
theorem loose_plain (s : ByteArray) (k : Nat) (h : k + 1 < s.size) (hc : s[k] ≠ 92) : looseL (s.data.toList.drop k) = s[k] :: looseL (s.data.toList.drop (k + 1)) := by
  rw [drop_two s k h, List.drop_eq_getElem_cons (i := k + 1) (by rw [list_len]; omega)]
  simp only [looseL, hc, if_false]; rfl
theorem loose_back (s : ByteArray) (k : Nat) (h : k + 1 < s.size) (hc : s[k] = 92) : looseL (s.data.toList.drop k) = (if s[k + 1] = 110 then 10 else s[k + 1]) :: looseL (s.data.toList.drop (k + 2)) := by
  rw [drop_two s k h]
  simp only [looseL, hc, if_true]
theorem loose_done (s : ByteArray) (k : Nat) (h : ¬ k + 1 < s.size) : looseL (s.data.toList.drop k) = [] := by
  have : (s.data.toList.drop k).length ≤ 1 := by rw [List.length_drop, list_len]; omega
  generalize s.data.toList.drop k = l at this ⊢
  match l, this with
  | [], _ => rfl
  | [_], _ => rfl
/-- Whether the text that was read is quoted so. -/
theorem unq_again {s q : ByteArray} (hq : q.data.toList = unqL s) (h : unqOK s = true) : quoteT q = s ∧ q = unqT s := by
  have hq' : q = ⟨(unqL s).toArray⟩ := ba_eq (by rw [ba_list, hq])
  have e : unqT s = q := by unfold unqT; rw [if_pos h, hq']
  have := unq_quote h
  rw [e] at this
  exact ⟨this.2, e.symm⟩
theorem unq_not {s q : ByteArray} (h2 : 2 ≤ s.size) (hq : q.data.toList = unqL s) (h : unqOK s = false) : ((quoteT q).toList == s.toList) = false := by
  rw [beq_eq_false_iff_ne]
  intro e
  rw [ByteArray.toList_eq, ByteArray.toList_eq] at e
  have hq' : q = ⟨(unqL s).toArray⟩ := ba_eq (by rw [ba_list, hq])
  cases ht : textB q with
  | false =>
    rw [quoteT_none ht] at e
    have : s.size = 0 := by rw [← list_len, ← e]; rfl
    omega
  | true =>
    have e1 : quoteL q.data.toList = s.data.toList := by unfold quoteT at e; rw [if_pos ht] at e; simpa using e
    rw [(unq_of ht e1).1] at h
    cases h

set_option maxRecDepth 100000 in
set_option maxHeartbeats 4000000 in
theorem unquoteText_spec (s : ByteArray) (w : World) (hs : s.size ≤ maxLen) :
    Calls Tryz.prog 129 #[.string s] w fun e w' => e = .returned (.tuple #[.string (unqT s), .bool (unqOK s)]) ∧ w = w' := by
  have HMX := Lib.hid hs
  unfold maxLen at hs
  by_cases h2 : s.size < 2
  · have e := unq_short h2
    rw [unq_no e, e]; clear e
    go_enter Tryz.func129, Tryz.ntmps129
    go_wp2
    go_ret2
    exact ⟨rfl, rfl⟩
  have q0 : 0 < s.size := by omega
  have q1 : s.size - 1 < s.size := by omega
  have b0 : (s[0].toNat : Int) ≤ 255 := by have := s[0].toNat_lt; omega
  by_cases h3 : s[0] = 34
  case neg =>
    have e := unq_first_no q0 h3
    rw [unq_no e, e]; clear e
    have t1 : ((s[0].toNat : Int) != 34) = true := by
      rw [bne_iff_ne]; intro e; exact h3 (UInt8.toNat_inj.mp (by rw [show (34 : UInt8).toNat = 34 from rfl]; omega))
    clear h3
    go_enter Tryz.func129, Tryz.ntmps129
    go_wp2
    go_ret2
    exact ⟨rfl, rfl⟩
  have t1 : ((s[0].toNat : Int) != 34) = false := by rw [h3]; rfl
  clear h3
  have ei : ((s.size : Int) - 1).toNat = s.size - 1 := by omega
  by_cases h4 : s[s.size - 1] = 34
  case neg =>
    have e := unq_last_no q1 h4
    rw [unq_no e, e]; clear e
    have t2 : ((s[s.size - 1].toNat : Int) != 34) = true := by
      rw [bne_iff_ne]; intro e; exact h4 (UInt8.toNat_inj.mp (by rw [show (34 : UInt8).toNat = 34 from rfl]; omega))
    clear h4
    go_enter Tryz.func129, Tryz.ntmps129
    go_wp2
    go_ret2
    exact ⟨rfl, rfl⟩
  have t2 : ((s[s.size - 1].toNat : Int) != 34) = false := by rw [h4]; rfl
  clear h4
  have HU := Lib.hid (show looseL (s.data.toList.drop 1) = unqL s from rfl)
  have t8 : decide ((s.size : Int) < 2) = false := decide_eq_false (by omega)
  have t8' : decide (s.size < 2) = false := decide_eq_false (by omega)
  go_enter Tryz.func129, Tryz.ntmps129
  go_wp2
  clear t1 t2
  go_loop [4, 5] (fun o i => ∃ (k : Nat) (q : ByteArray), 1 ≤ k ∧ k ≤ s.size ∧ i = .int .i64 k ∧ o = .string q ∧ q.data.toList ++ looseL (s.data.toList.drop k) = unqL s ∧ q.size ≤ k) (fun _ i => s.size - (intOf i).toNat)
  case atStart => exact ⟨1, ⟨#[]⟩, Nat.le_refl _, by omega, rfl, rfl, by rw [HU.out]; rfl, Nat.zero_le _⟩
  case round =>
    obtain ⟨k, q, hk1, hk, rfl, rfl, hq, hz⟩ := hrel
    have HQ := Lib.hid hq
    clear hq
    by_cases hlt : k + 1 < s.size
    · have hlt0 : k < s.size := by omega
      have hb0 : (s[k].toNat : Int) ≤ 255 := by have := s[k].toNat_lt; omega
      have HO := Lib.hid (one_list s k hlt0)
      have hoz : (s.extract k (k + 1)).size = 1 := by rw [ByteArray.size_extract]; omega
      have t0 : decide ((k : Int) < (s.size : Int) - 1) = true := decide_eq_true (by omega)
      by_cases h92 : s[k] = 92
      · have HN := Lib.hid (loose_back s k hlt h92)
        have t1 : ((s[k].toNat : Int) != 92) = false := by rw [h92]; rfl
        have hb1 : (s[k + 1].toNat : Int) ≤ 255 := by have := s[k + 1].toNat_lt; omega
        have HO1 := Lib.hid (one_list s (k + 1) hlt)
        have hoz1 : (s.extract (k + 1) (k + 1 + 1)).size = 1 := by rw [ByteArray.size_extract]; omega
        clear h92
        by_cases h110 : s[k + 1] = 110
        · have HC := Lib.hid (show (if s[k + 1] = 110 then 10 else s[k + 1]) = (10 : UInt8) by rw [if_pos h110])
          have t2 : ((s[k + 1].toNat : Int) == 110) = true := by rw [h110]; rfl
          clear h110
          go_wp2
          go_round
          case rel => exact ⟨k + 2, _, by omega, by omega, by go_num, rfl, by have h5 := HQ.out; rw [HN.out, HC.out] at h5; rw [← h5]; simp, by rw [ByteArray.size_append]; show q.size + 1 ≤ _; omega⟩
          case measure => simp [intOf]; omega
        · have HC := Lib.hid (show (if s[k + 1] = 110 then 10 else s[k + 1]) = s[k + 1] by rw [if_neg h110])
          have t2 : ((s[k + 1].toNat : Int) == 110) = false := by
            rw [beq_eq_false_iff_ne]; intro e; exact h110 (UInt8.toNat_inj.mp (by rw [show (110 : UInt8).toNat = 110 from rfl]; omega))
          clear h110
          go_wp2
          go_round
          case rel => exact ⟨k + 2, _, by omega, by omega, by go_num, rfl, by have h5 := HQ.out; have h6 := HO1.out; rw [HN.out, HC.out] at h5; rw [← h5]; simp only [ByteArray.data_append, Array.toList_append, h6]; simp, by rw [ByteArray.size_append, hoz1]; omega⟩
          case measure => simp [intOf]; omega
      · have HN := Lib.hid (loose_plain s k hlt h92)
        have t1 : ((s[k].toNat : Int) != 92) = true := by
          rw [bne_iff_ne]; intro e; exact h92 (UInt8.toNat_inj.mp (by rw [show (92 : UInt8).toNat = 92 from rfl]; omega))
        clear h92
        go_wp2
        go_round
        case rel => exact ⟨k + 1, _, by omega, by omega, by go_num, rfl, by have h5 := HQ.out; have h6 := HO.out; rw [HN.out] at h5; rw [← h5]; simp only [ByteArray.data_append, Array.toList_append, h6]; simp, by rw [ByteArray.size_append, hoz]; omega⟩
        case measure => simp [intOf]; omega
    · have t0 : decide ((k : Int) < (s.size : Int) - 1) = false := decide_eq_false (by omega)
      have hqu : q.data.toList = unqL s := by have h5 := HQ.out; rw [loose_done s k hlt] at h5; simpa using h5
      have hqz : q.size ≤ 9223372036854775807 := by omega
      cases hok : unqOK s with
      | true =>
        obtain ⟨g1, g2⟩ := unq_again hqu hok
        have G1 := Lib.hid g1; have G2 := Lib.hid g2
        have HK := Lib.hid hok
        clear g1 g2 hqu hok
        go_wp2_with fail
        refine (quoteText_spec q _ (by unfold maxLen; omega)).mono ?_
        rintro e w' ⟨rfl, rfl⟩
        have t3 : ((quoteT q).toList == s.toList) = true := by rw [G1.out]; simp
        go_wp2
        go_ret2
        exact ⟨by rw [HK.out, ← G2.out]; rfl, rfl⟩
      | false =>
        have t3 := unq_not (by omega) hqu hok
        have G2 := Lib.hid (unq_no hok)
        have HK := Lib.hid hok
        clear hqu hok
        go_wp2_with fail
        refine (quoteText_spec q _ (by unfold maxLen; omega)).mono ?_
        rintro e w' ⟨rfl, rfl⟩
        go_wp2
        go_ret2
        exact ⟨by rw [HK.out, G2.out]; rfl, rfl⟩

end Go.Proofs.YtncehcklppakcaaGreatDoor

/-
  New texts: a row of strings of the call's own.
-/
namespace Go.Proofs.YtncehcklppakcaaGreatDoor
open Go.RowKit
set_option linter.unusedVariables false

theorem infoStr : (Tryz.prog.info? 9).map (fun i => (i.zero, i.size, i.bytes)) = some (some (.string ByteArray.empty), 1, 16) := by kernel_rfl

/-- Texts as values. -/
def strs (l : List ByteArray) : List Value := l.map Value.string
theorem strs_length (l : List ByteArray) : (strs l).length = l.length := by simp [strs]
theorem strs_append (a b : List ByteArray) : strs (a ++ b) = strs a ++ strs b := by simp [strs]
theorem str_oneCell (t : ByteArray) : ∀ u ∈ [Value.string t], u.oneCell' = true := by
  intro u hu; simp only [List.mem_singleton] at hu; subst hu; rfl

/-- What a function leaves that returns new texts. -/
def NewTexts (L : List ByteArray) (w : World) (e : Ending) (w' : World) : Prop :=
  ∃ v, e = .returned v ∧ w'.ownsRow w.heap.size 9 1 v L.length (strs L) ∧ Below w.heap.size w w'

end Go.Proofs.YtncehcklppakcaaGreatDoor

/-
  What spec reads at a place: spec.l3Sign, spec.l3End, by their contracts.
-/
namespace Go.Proofs.YtncehcklppakcaaGreatDoor
open Go.RowKit
set_option linter.unusedVariables false

theorem drop_k (s : ByteArray) (k : Nat) (h : k < s.size) : s.data.toList.drop k = s[k] :: s.data.toList.drop (k + 1) := by
  rw [List.drop_eq_getElem_cons (by simpa using h)]; rfl
theorem drop_end (s : ByteArray) (k : Nat) (h : s.size ≤ k) : s.data.toList.drop k = [] := List.drop_eq_nil_of_le (by rw [Array.length_toList]; exact h)

/-- The signs of two bytes. -/
def pq : Nat → UInt8 × UInt8
  | 0 => (60, 61)
  | 1 => (62, 61)
  | 2 => (61, 61)
  | 3 => (33, 61)
  | 4 => (38, 38)
  | _ => (124, 124)
theorem lit6 (m : Nat) (h : m < 6) : ∃ t : ByteArray, t.data.toList = [(pq m).1, (pq m).2] ∧ (#[Value.string ⟨#[60, 61]⟩, .string ⟨#[62, 61]⟩, .string ⟨#[61, 61]⟩, .string ⟨#[33, 61]⟩, .string ⟨#[38, 38]⟩, .string ⟨#[124, 124]⟩] : Array Value)[m]? = some (.string t) := by
  match m, h with
  | 0, _ => exact ⟨_, rfl, rfl⟩
  | 1, _ => exact ⟨_, rfl, rfl⟩
  | 2, _ => exact ⟨_, rfl, rfl⟩
  | 3, _ => exact ⟨_, rfl, rfl⟩
  | 4, _ => exact ⟨_, rfl, rfl⟩
  | 5, _ => exact ⟨_, rfl, rfl⟩
/-- The literal's block. -/
def Lit6 (B : Nat) (wr : World) : Prop := ∀ (m : Nat) v, (#[Value.string ⟨#[60, 61]⟩, .string ⟨#[62, 61]⟩, .string ⟨#[61, 61]⟩, .string ⟨#[33, 61]⟩, .string ⟨#[38, 38]⟩, .string ⟨#[124, 124]⟩] : Array Value)[m]? = some v → wr.cell? ⟨B, m, none⟩ = some v
theorem lit6_new (w : World) : Lit6 w.heap.size (w.alloc (.cells #[Value.string ⟨#[60, 61]⟩, .string ⟨#[62, 61]⟩, .string ⟨#[61, 61]⟩, .string ⟨#[33, 61]⟩, .string ⟨#[38, 38]⟩, .string ⟨#[124, 124]⟩] 9)) := by
  intro m v h
  simp only [World.cell?, heap_alloc_new]; simpa using h
theorem two_yes (b c : UInt8) (j : Nat) (h : [b, c] = [(pq j).1, (pq j).2]) : two (b.toNat : Int) (c.toNat : Int) = true := by
  simp only [List.cons.injEq, and_true] at h
  obtain ⟨rfl, rfl⟩ := h
  match j with
  | 0 => decide
  | 1 => decide
  | 2 => decide
  | 3 => decide
  | 4 => decide
  | _ + 5 => simp only [pq]; decide
theorem two_no (b c : UInt8) (h : ∀ j, j < 6 → [b, c] ≠ [(pq j).1, (pq j).2]) : two (b.toNat : Int) (c.toNat : Int) = false := by
  rw [Bool.eq_false_iff]; intro e
  have key : ∀ (x y : UInt8), (b.toNat : Int) = (x.toNat : Int) → (c.toNat : Int) = (y.toNat : Int) → [b, c] = [x, y] := by
    intro x y h1 h2
    rw [UInt8.toNat_inj.mp (show b.toNat = x.toNat by omega), UInt8.toNat_inj.mp (show c.toNat = y.toNat by omega)]
  simp only [two, Bool.or_eq_true, Bool.and_eq_true, beq_iff_eq] at e
  rcases e with ((((( ⟨e, g⟩ | ⟨e, g⟩) | ⟨e, g⟩) | ⟨e, g⟩) | ⟨e, g⟩) | ⟨e, g⟩)
  · exact h 0 (by omega) (key 60 61 e g)
  · exact h 1 (by omega) (key 62 61 e g)
  · exact h 2 (by omega) (key 61 61 e g)
  · exact h 3 (by omega) (key 33 61 e g)
  · exact h 4 (by omega) (key 38 38 e g)
  · exact h 5 (by omega) (key 124 124 e g)
theorem has_one (n : Int) : hasL ({ data := #[33, 45, 42, 47, 37, 43, 60, 62, 63, 58, 40, 41, 91, 93, 44] } : ByteArray).data.toList n = one n := by
  rw [Bool.eq_iff_iff]
  simp only [hasL, one, List.any_cons, List.any_nil, Bool.or_eq_true, beq_iff_eq, Bool.or_false]
  constructor
  · intro h; simp only [show ((33 : UInt8).toNat : Int) = 33 from rfl, show ((45 : UInt8).toNat : Int) = 45 from rfl, show ((42 : UInt8).toNat : Int) = 42 from rfl, show ((47 : UInt8).toNat : Int) = 47 from rfl, show ((37 : UInt8).toNat : Int) = 37 from rfl, show ((43 : UInt8).toNat : Int) = 43 from rfl, show ((60 : UInt8).toNat : Int) = 60 from rfl, show ((62 : UInt8).toNat : Int) = 62 from rfl, show ((63 : UInt8).toNat : Int) = 63 from rfl, show ((58 : UInt8).toNat : Int) = 58 from rfl, show ((40 : UInt8).toNat : Int) = 40 from rfl, show ((41 : UInt8).toNat : Int) = 41 from rfl, show ((91 : UInt8).toNat : Int) = 91 from rfl, show ((93 : UInt8).toNat : Int) = 93 from rfl, show ((44 : UInt8).toNat : Int) = 44 from rfl] at h; omega
  · intro h; simp only [show ((33 : UInt8).toNat : Int) = 33 from rfl, show ((45 : UInt8).toNat : Int) = 45 from rfl, show ((42 : UInt8).toNat : Int) = 42 from rfl, show ((47 : UInt8).toNat : Int) = 47 from rfl, show ((37 : UInt8).toNat : Int) = 37 from rfl, show ((43 : UInt8).toNat : Int) = 43 from rfl, show ((60 : UInt8).toNat : Int) = 60 from rfl, show ((62 : UInt8).toNat : Int) = 62 from rfl, show ((63 : UInt8).toNat : Int) = 63 from rfl, show ((58 : UInt8).toNat : Int) = 58 from rfl, show ((40 : UInt8).toNat : Int) = 40 from rfl, show ((41 : UInt8).toNat : Int) = 41 from rfl, show ((91 : UInt8).toNat : Int) = 91 from rfl, show ((93 : UInt8).toNat : Int) = 93 from rfl, show ((44 : UInt8).toNat : Int) = 44 from rfl]; omega
theorem ext_two (s : ByteArray) (a : Nat) (h : a + 1 < s.size) : (s.extract a (a + 2)).toList = [s[a], s[a + 1]] := by
  rw [ByteArray.toList_eq]
  have hl : s.data.toList.length = s.size := by rw [Array.length_toList]; rfl
  have e : (s.extract a (a + 2)).data.toList = (s.data.toList.drop a).take 2 := by
    simp [ByteArray.data_extract]
  rw [e, drop_k s a (by omega), drop_k s (a + 1) (by omega)]; rfl
theorem ret_intS {k : IntKind} {a b : Int} (h : a = b) : Ending.returned (.int k a) = .returned (.int k b) := by rw [h]
theorem sign_two (s : ByteArray) (a : Nat) (h : a + 1 < s.size) : signL (s.data.toList.drop a) = if two (s[a].toNat : Int) (s[a + 1].toNat : Int) = true then 2 else if one (s[a].toNat : Int) = true then 1 else 0 := by
  rw [drop_k s a (by omega), drop_k s (a + 1) (by omega), signL]
theorem sign_one (s : ByteArray) (a : Nat) (h : a < s.size) (h1 : ¬ a + 1 < s.size) : signL (s.data.toList.drop a) = if one (s[a].toNat : Int) = true then 1 else 0 := by
  rw [drop_k s a h, drop_end s (a + 1) (by omega), signL]

set_option maxRecDepth 100000 in
set_option maxHeartbeats 4000000 in
theorem l3Sign_any (s : ByteArray) (a : Nat) (w : World) (hs : s.size ≤ 20000) (ha : a < s.size) :
    Calls Tryz.prog 100 #[.string s, .int .i64 (a : Int)] w fun e w' => e = .returned (.int .i64 ((signL (s.data.toList.drop a) : Nat) : Int)) ∧ Below w.heap.size w w' := by
  have hb0 : (s[a].toNat : Int) ≤ 255 := by have := s[a].toNat_lt; omega
  by_cases h1 : a + 1 < s.size
  · have HS := Lib.hid (sign_two s a h1)
    have HX := Lib.hid (ext_two s a h1)
    go_enter Tryz.func100, Tryz.ntmps100
    go_wp2
    go_loopw [6] (fun i wr => ∃ (k : Nat), k ≤ 6 ∧ i = .int .i64 (k : Int) ∧ (∀ j, j < k → [s[a], s[a + 1]] ≠ [(pq j).1, (pq j).2]) ∧ Lit6 w.heap.size wr ∧ Below w.heap.size w wr) (fun i _ => 6 - (intOf i).toNat)
    case atStart => exact ⟨0, by omega, rfl, fun j h => by omega, lit6_new w, (Below.refl _ _).alloc (Nat.le_refl _) _⟩
    case round =>
      obtain ⟨k, hk, rfl, hno, hlt6, hbel⟩ := hrel
      have HNO := Lib.hid hno; have HB := Lib.hid hbel; have H6 := Lib.hid hlt6; clear hno hbel hlt6
      by_cases hlt : k < 6
      · obtain ⟨t, ht, hlit⟩ := lit6 k hlt
        have hc : wr.cell? ⟨w.heap.size, k, none⟩ = some (.string t) := H6.out k _ hlit
        have HT := Lib.hid ht
        clear ht hlit
        have q0 : (0 : Int) ≤ (k : Int) := by omega
        have q1 : (k : Int) < 6 := by omega
        have q2 : (a : Int) ≤ (a : Int) + 2 := by omega
        have q3 : (a : Int) + 2 ≤ (s.size : Int) := by omega
        have q4 : (0 : Int) ≤ (a : Int) + 2 := by omega
        have q5 : ((a : Int) + 2).toNat = a + 2 := by omega
        have q6 : decide ((a : Int) + 1 < (s.size : Int)) = true := decide_eq_true (by omega)
        have r1 : IntKind.i64.wrap ((a : Int) + 1) = (a : Int) + 1 := IntWalk.i64_in _ (by omega)
        have r2 : IntKind.i64.wrap ((a : Int) + 2) = (a : Int) + 2 := IntWalk.i64_in _ (by omega)
        cases hE : ((s.extract a (a + 2)).toList == t.toList) with
        | true =>
          have HTW := Lib.hid (show two (s[a].toNat : Int) (s[a + 1].toNat : Int) = true by
            refine two_yes _ _ k ?_
            rw [beq_iff_eq, HX.out, ByteArray.toList_eq, HT.out] at hE; exact hE)
          go_wp2_with fail
          go_quiet (fail)
          clear r1 r2
          go_wp2
          go_ret
          exact ⟨by rw [HS.out, if_pos HTW.out]; rfl, HB.out.trans ⟨rfl, rfl, rfl, Nat.le_refl _, fun _ _ => rfl⟩⟩
        | false =>
          have HN2 := Lib.hid (show ∀ j, j < k + 1 → [s[a], s[a + 1]] ≠ [(pq j).1, (pq j).2] by
            intro j hj
            by_cases hjk : j < k
            · exact HNO.out j hjk
            · obtain rfl : j = k := by omega
              rw [beq_eq_false_iff_ne, HX.out, ByteArray.toList_eq, HT.out] at hE; exact hE)
          go_wp2_with fail
          go_quiet (fail)
          clear r1 r2
          go_wp2
          go_roundw
          case rel => exact ⟨k + 1, by omega, by go_num, HN2.out, H6.out, HB.out.trans ⟨rfl, rfl, rfl, Nat.le_refl _, fun _ _ => rfl⟩⟩
          case measure => simp [intOf]; omega
      · have HTW := Lib.hid (show two (s[a].toNat : Int) (s[a + 1].toNat : Int) = false from two_no _ _ (fun j hj => HNO.out j (by omega)))
        have h6 : k = 6 := by omega
        subst h6
        cases ho : one (s[a].toNat : Int)
        all_goals
          have HO := Lib.hid ho; clear ho
          go_wp2_with fail
          refine (l1Has_any _ _ _ (by decide) (by omega) (by omega)).mono ?_
          rintro e w' ⟨rfl, rfl⟩
          rw [has_one, HO.out]
          go_wp2
          go_ret
          exact ⟨by rw [HS.out, HTW.out, HO.out]; rfl, HB.out.trans ⟨rfl, rfl, rfl, Nat.le_refl _, fun _ _ => rfl⟩⟩
  · have HS := Lib.hid (sign_one s a ha h1)
    have q6 : decide ((a : Int) + 1 < (s.size : Int)) = false := decide_eq_false (by omega)
    go_enter Tryz.func100, Tryz.ntmps100
    go_wp2
    go_loopw [6] (fun i wr => ∃ (k : Nat), k ≤ 6 ∧ i = .int .i64 (k : Int) ∧ Lit6 w.heap.size wr ∧ Below w.heap.size w wr) (fun i _ => 6 - (intOf i).toNat)
    case atStart => exact ⟨0, by omega, rfl, lit6_new w, (Below.refl _ _).alloc (Nat.le_refl _) _⟩
    case round =>
      obtain ⟨k, hk, rfl, hlt6, hbel⟩ := hrel
      have HB := Lib.hid hbel; have H6 := Lib.hid hlt6; clear hbel hlt6
      by_cases hlt : k < 6
      · have r1 : IntKind.i64.wrap ((a : Int) + 1) = (a : Int) + 1 := IntWalk.i64_in _ (by omega)
        have q0 : (0 : Int) ≤ (k : Int) := by omega
        have q1 : (k : Int) < 6 := by omega
        go_wp2_with fail
        go_quiet (fail)
        clear r1
        go_wp2
        go_roundw
        case rel => exact ⟨k + 1, by omega, by go_num, H6.out, HB.out.trans ⟨rfl, rfl, rfl, Nat.le_refl _, fun _ _ => rfl⟩⟩
        case measure => simp [intOf]; omega
      · have h6 : k = 6 := by omega
        subst h6
        cases ho : one (s[a].toNat : Int)
        all_goals
          have HO := Lib.hid ho; clear ho
          go_wp2_with fail
          refine (l1Has_any _ _ _ (by decide) (by omega) (by omega)).mono ?_
          rintro e w' ⟨rfl, rfl⟩
          rw [has_one, HO.out]
          go_wp2
          go_ret
          exact ⟨by rw [HS.out, HO.out]; rfl, HB.out.trans ⟨rfl, rfl, rfl, Nat.le_refl _, fun _ _ => rfl⟩⟩

end Go.Proofs.YtncehcklppakcaaGreatDoor

/-
  Where a token ends: spec.l3End, by its contract.
-/
namespace Go.Proofs.YtncehcklppakcaaGreatDoor
open Go.RowKit
set_option linter.unusedVariables false

theorem lead_yes (p : Int → Bool) (s : ByteArray) (k : Nat) (h : k < s.size) (hp : p (s[k].toNat : Int) = true) : lead p (s.data.toList.drop k) = lead p (s.data.toList.drop (k + 1)) + 1 := by
  rw [drop_k s k h, lead, if_pos hp]
theorem lead_no (p : Int → Bool) (s : ByteArray) (k : Nat) (h : k < s.size) (hp : p (s[k].toNat : Int) = false) : lead p (s.data.toList.drop k) = 0 := by
  rw [drop_k s k h, lead, if_neg (by rw [hp]; simp)]
theorem lead_end (p : Int → Bool) (s : ByteArray) (k : Nat) (h : s.size ≤ k) : lead p (s.data.toList.drop k) = 0 := by rw [drop_end s k h]; rfl
theorem endN_name (s : ByteArray) (a : Nat) (h : a < s.size) (hl : ltrI (s[a].toNat : Int) = true) : endN (s.data.toList.drop a) = lead nmI (s.data.toList.drop a) ∧ endK (s.data.toList.drop a) = 1 := by
  rw [drop_k s a h]; simp [endN, endK, hl]
theorem endN_num (s : ByteArray) (a : Nat) (h : a < s.size) (hl : ltrI (s[a].toNat : Int) = false) (hd : digI (s[a].toNat : Int) = true) : endN (s.data.toList.drop a) = lead nrI (s.data.toList.drop a) ∧ endK (s.data.toList.drop a) = 2 := by
  rw [drop_k s a h]; simp [endN, endK, hl, hd]
theorem endN_text (s : ByteArray) (a : Nat) (h : a < s.size) (hl : ltrI (s[a].toNat : Int) = false) (hd : digI (s[a].toNat : Int) = false) (hq : ((s[a].toNat : Int) == 34) = true) :
    endN (s.data.toList.drop a) = (if a + 1 + clo false (s.data.toList.drop (a + 1)) < s.size then clo false (s.data.toList.drop (a + 1)) + 2 else 0) ∧ endK (s.data.toList.drop a) = (if a + 1 + clo false (s.data.toList.drop (a + 1)) < s.size then 3 else 0) := by
  have hl2 : (s.data.toList.drop (a + 1)).length = s.size - (a + 1) := by rw [List.length_drop, Array.length_toList]; rfl
  have e : clo false (s.data.toList.drop (a + 1)) < (s.data.toList.drop (a + 1)).length ↔ a + 1 + clo false (s.data.toList.drop (a + 1)) < s.size := by rw [hl2]; omega
  rw [drop_k s a h]; simp only [endN, endK, hl, hd, hq, Bool.false_eq_true, if_false, if_true, e, and_self]
theorem endN_sign (s : ByteArray) (a : Nat) (h : a < s.size) (hl : ltrI (s[a].toNat : Int) = false) (hd : digI (s[a].toNat : Int) = false) (hq : ((s[a].toNat : Int) == 34) = false) :
    endN (s.data.toList.drop a) = signL (s.data.toList.drop a) ∧ endK (s.data.toList.drop a) = if signL (s.data.toList.drop a) = 0 then 0 else 4 := by
  rw [drop_k s a h]; simp only [endN, endK, hl, hd, hq, Bool.false_eq_true, if_false, and_self]
theorem clo_stop (s : ByteArray) (k : Nat) (h : k < s.size) (hq : ((s[k].toNat : Int) == 34) = true) : clo false (s.data.toList.drop k) = 0 := by
  rw [drop_k s k h, clo, if_pos hq]
theorem clo_esc (s : ByteArray) (k : Nat) (h : k < s.size) (hq : ((s[k].toNat : Int) == 34) = false) (hb : ((s[k].toNat : Int) == 92) = true) : clo false (s.data.toList.drop k) = clo false (s.data.toList.drop (k + 2)) + 2 := by
  rw [drop_k s k h, clo, if_neg (by rw [hq]; simp), if_pos hb]
  by_cases h1 : k + 1 < s.size
  · rw [drop_k s (k + 1) h1, clo]
  · rw [drop_end s (k + 1) (by omega), drop_end s (k + 2) (by omega)]; rfl
theorem clo_oneS (s : ByteArray) (k : Nat) (h : k < s.size) (hq : ((s[k].toNat : Int) == 34) = false) (hb : ((s[k].toNat : Int) == 92) = false) : clo false (s.data.toList.drop k) = clo false (s.data.toList.drop (k + 1)) + 1 := by
  rw [drop_k s k h, clo, if_neg (by rw [hq]; simp), if_neg (by rw [hb]; simp)]
theorem clo_end (s : ByteArray) (k : Nat) (h : s.size ≤ k) : clo false (s.data.toList.drop k) = 0 := by rw [drop_end s k h]; rfl

/-- What l3End returns. -/
def EndAt (s : ByteArray) (a : Nat) (w : World) (e : Ending) (w' : World) : Prop :=
  e = .returned (.tuple #[.int .i64 ((a + endN (s.data.toList.drop a) : Nat) : Int), .int .i64 (endK (s.data.toList.drop a))]) ∧ Below w.heap.size w w'
theorem endAt_of {s : ByteArray} {a n : Nat} {k : Int} {w w' : World} (h1 : endN (s.data.toList.drop a) = n) (h2 : endK (s.data.toList.drop a) = k) (hb : Below w.heap.size w w') : EndAt s a w (.returned (.tuple #[.int .i64 ((a + n : Nat) : Int), .int .i64 k])) w' := by
  subst h1 h2; exact ⟨rfl, hb⟩

set_option maxRecDepth 100000 in
set_option maxHeartbeats 4000000 in
theorem l3End_name (s : ByteArray) (a : Nat) (w : World) (hs : s.size ≤ 20000) (ha : a < s.size) (hl : ltrI (s[a].toNat : Int) = true) :
    Calls Tryz.prog 75 #[.string s, .int .i64 (a : Int)] w (EndAt s a w) := by
  have hb0 : (s[a].toNat : Int) ≤ 255 := by have := s[a].toNat_lt; omega
  have HE := Lib.hid (endN_name s a ha hl); have HL := Lib.hid hl; clear hl
  go_enter Tryz.func75, Tryz.ntmps75
  go_wp2_with fail
  refine (l3Letter_any _ _ (by omega) (by omega)).mono ?_
  rintro e w' ⟨rfl, rfl⟩
  rw [HL.out]
  go_wp2_with fail
  go_loop [6] (fun i => ∃ j : Nat, a + j ≤ s.size ∧ i = .int .i64 ((a + j : Nat) : Int) ∧ j + lead nmI (s.data.toList.drop (a + j)) = lead nmI (s.data.toList.drop a)) (fun i => s.size - (intOf i).toNat)
  case atStart => exact ⟨0, by omega, rfl, by simp⟩
  case round =>
    obtain ⟨j, hj, rfl, hr⟩ := hrel
    have HR := Lib.hid hr; clear hr
    by_cases hlt : a + j < s.size
    · have hbk : (s[a + j].toNat : Int) ≤ 255 := by have := s[a + j].toNat_lt; omega
      have HY := Lib.hid (lead_yes nmI s (a + j) hlt)
      have HZ := Lib.hid (lead_no nmI s (a + j) hlt)
      cases hk1 : ltrI (s[a + j].toNat : Int) with
      | true =>
        have HK1 := Lib.hid hk1; clear hk1
        have HV := Lib.hid (HY.out (by simp [nmI, parI, HK1.out])); clear HY HZ
        go_wp2_with fail
        refine (l3Letter_any _ _ (by omega) (by omega)).mono ?_
        rintro e w' ⟨rfl, rfl⟩
        rw [HK1.out]
        go_wp2
        go_round
        case rel => exact ⟨j + 1, by omega, by go_num, by rw [← HR.out, HV.out, show a + (j + 1) = a + j + 1 by omega]; omega⟩
        case measure => simp [intOf]; omega
      | false =>
        have HK1 := Lib.hid hk1; clear hk1
        cases hk2 : digI (s[a + j].toNat : Int) with
        | true =>
          have HK2 := Lib.hid hk2; clear hk2
          have HV := Lib.hid (HY.out (by simp [nmI, parI, HK1.out, HK2.out])); clear HY HZ
          go_wp2_with fail
          refine (l3Letter_any _ _ (by omega) (by omega)).mono ?_
          rintro e w' ⟨rfl, rfl⟩
          rw [HK1.out]
          go_wp2_with fail
          refine (l3Digit_any _ _ (by omega) (by omega)).mono ?_
          rintro e w' ⟨rfl, rfl⟩
          rw [HK2.out]
          go_wp2
          go_round
          case rel => exact ⟨j + 1, by omega, by go_num, by rw [← HR.out, HV.out, show a + (j + 1) = a + j + 1 by omega]; omega⟩
          case measure => simp [intOf]; omega
        | false =>
          have HK2 := Lib.hid hk2; clear hk2
          cases hk3 : ((s[a + j].toNat : Int) == 95) with
          | true =>
            have HV := Lib.hid (HY.out (by simp only [nmI, parI, HK1.out, HK2.out, hk3]; rfl)); clear HY HZ
            go_wp2_with fail
            refine (l3Letter_any _ _ (by omega) (by omega)).mono ?_
            rintro e w' ⟨rfl, rfl⟩
            rw [HK1.out]
            go_wp2_with fail
            refine (l3Digit_any _ _ (by omega) (by omega)).mono ?_
            rintro e w' ⟨rfl, rfl⟩
            rw [HK2.out]
            go_wp2
            go_round
            case rel => exact ⟨j + 1, by omega, by go_num, by rw [← HR.out, HV.out, show a + (j + 1) = a + j + 1 by omega]; omega⟩
            case measure => simp [intOf]; omega
          | false =>
            cases hk4 : ((s[a + j].toNat : Int) == 46) with
            | true =>
              have HV := Lib.hid (HY.out (by simp only [nmI, parI, HK1.out, HK2.out, hk3, hk4]; rfl)); clear HY HZ
              go_wp2_with fail
              refine (l3Letter_any _ _ (by omega) (by omega)).mono ?_
              rintro e w' ⟨rfl, rfl⟩
              rw [HK1.out]
              go_wp2_with fail
              refine (l3Digit_any _ _ (by omega) (by omega)).mono ?_
              rintro e w' ⟨rfl, rfl⟩
              rw [HK2.out]
              go_wp2
              go_round
              case rel => exact ⟨j + 1, by omega, by go_num, by rw [← HR.out, HV.out, show a + (j + 1) = a + j + 1 by omega]; omega⟩
              case measure => simp [intOf]; omega
            | false =>
              have HV := Lib.hid (HZ.out (by simp only [nmI, parI, HK1.out, HK2.out, hk3, hk4]; rfl)); clear HY HZ
              have HQ := Lib.hid (show endN (s.data.toList.drop a) = j by rw [HE.out.1, ← HR.out, HV.out]; rfl)
              go_wp2_with fail
              refine (l3Letter_any _ _ (by omega) (by omega)).mono ?_
              rintro e w' ⟨rfl, rfl⟩
              rw [HK1.out]
              go_wp2_with fail
              refine (l3Digit_any _ _ (by omega) (by omega)).mono ?_
              rintro e w' ⟨rfl, rfl⟩
              rw [HK2.out]
              go_wp2
              go_ret2
              exact endAt_of HQ.out HE.out.2 (Below.refl _ _)
    · have HZ := Lib.hid (lead_end nmI s (a + j) (by omega))
      have HQ := Lib.hid (show endN (s.data.toList.drop a) = j by rw [HE.out.1, ← HR.out, HZ.out]; rfl)
      go_wp2
      go_ret2
      exact endAt_of HQ.out HE.out.2 (Below.refl _ _)

set_option maxRecDepth 100000 in
set_option maxHeartbeats 4000000 in
theorem l3End_num (s : ByteArray) (a : Nat) (w : World) (hs : s.size ≤ 20000) (ha : a < s.size) (hl : ltrI (s[a].toNat : Int) = false) (hd : digI (s[a].toNat : Int) = true) :
    Calls Tryz.prog 75 #[.string s, .int .i64 (a : Int)] w (EndAt s a w) := by
  have hb0 : (s[a].toNat : Int) ≤ 255 := by have := s[a].toNat_lt; omega
  have HE := Lib.hid (endN_num s a ha hl hd); have HL := Lib.hid hl; have HD := Lib.hid hd; clear hl hd
  go_enter Tryz.func75, Tryz.ntmps75
  go_wp2_with fail
  refine (l3Letter_any _ _ (by omega) (by omega)).mono ?_
  rintro e w' ⟨rfl, rfl⟩
  rw [HL.out]
  go_wp2_with fail
  refine (l3Digit_any _ _ (by omega) (by omega)).mono ?_
  rintro e w' ⟨rfl, rfl⟩
  rw [HD.out]
  go_wp2_with fail
  go_loop [6] (fun i => ∃ j : Nat, a + j ≤ s.size ∧ i = .int .i64 ((a + j : Nat) : Int) ∧ j + lead nrI (s.data.toList.drop (a + j)) = lead nrI (s.data.toList.drop a)) (fun i => s.size - (intOf i).toNat)
  case atStart => exact ⟨0, by omega, rfl, by simp⟩
  case round =>
    obtain ⟨j, hj, rfl, hr⟩ := hrel
    have HR := Lib.hid hr; clear hr
    by_cases hlt : a + j < s.size
    · have hbk : (s[a + j].toNat : Int) ≤ 255 := by have := s[a + j].toNat_lt; omega
      have HY := Lib.hid (lead_yes nrI s (a + j) hlt)
      have HZ := Lib.hid (lead_no nrI s (a + j) hlt)
      cases hk2 : digI (s[a + j].toNat : Int) with
      | true =>
        have HK2 := Lib.hid hk2; clear hk2
        have HV := Lib.hid (HY.out (by simp [nrI, HK2.out])); clear HY HZ
        go_wp2_with fail
        refine (l3Digit_any _ _ (by omega) (by omega)).mono ?_
        rintro e w' ⟨rfl, rfl⟩
        rw [HK2.out]
        go_wp2
        go_round
        case rel => exact ⟨j + 1, by omega, by go_num, by rw [← HR.out, HV.out, show a + (j + 1) = a + j + 1 by omega]; omega⟩
        case measure => simp [intOf]; omega
      | false =>
        have HK2 := Lib.hid hk2; clear hk2
        cases hk4 : ((s[a + j].toNat : Int) == 46) with
        | true =>
          have HV := Lib.hid (HY.out (by simp only [nrI, HK2.out, hk4]; rfl)); clear HY HZ
          go_wp2_with fail
          refine (l3Digit_any _ _ (by omega) (by omega)).mono ?_
          rintro e w' ⟨rfl, rfl⟩
          rw [HK2.out]
          go_wp2
          go_round
          case rel => exact ⟨j + 1, by omega, by go_num, by rw [← HR.out, HV.out, show a + (j + 1) = a + j + 1 by omega]; omega⟩
          case measure => simp [intOf]; omega
        | false =>
          have HV := Lib.hid (HZ.out (by simp only [nrI, HK2.out, hk4]; rfl)); clear HY HZ
          have HQ := Lib.hid (show endN (s.data.toList.drop a) = j by rw [HE.out.1, ← HR.out, HV.out]; rfl)
          go_wp2_with fail
          refine (l3Digit_any _ _ (by omega) (by omega)).mono ?_
          rintro e w' ⟨rfl, rfl⟩
          rw [HK2.out]
          go_wp2
          go_ret2
          exact endAt_of HQ.out HE.out.2 (Below.refl _ _)
    · have HZ := Lib.hid (lead_end nrI s (a + j) (by omega))
      have HQ := Lib.hid (show endN (s.data.toList.drop a) = j by rw [HE.out.1, ← HR.out, HZ.out]; rfl)
      go_wp2
      go_ret2
      exact endAt_of HQ.out HE.out.2 (Below.refl _ _)

set_option maxRecDepth 100000 in
set_option maxHeartbeats 4000000 in
theorem l3End_text (s : ByteArray) (a : Nat) (w : World) (hs : s.size ≤ 20000) (ha : a < s.size) (hl : ltrI (s[a].toNat : Int) = false) (hd : digI (s[a].toNat : Int) = false) (hq : ((s[a].toNat : Int) == 34) = true) :
    Calls Tryz.prog 75 #[.string s, .int .i64 (a : Int)] w (EndAt s a w) := by
  have hb0 : (s[a].toNat : Int) ≤ 255 := by have := s[a].toNat_lt; omega
  have HE := Lib.hid (endN_text s a ha hl hd hq); have HL := Lib.hid hl; have HD := Lib.hid hd; clear hl hd
  go_enter Tryz.func75, Tryz.ntmps75
  go_wp2_with fail
  refine (l3Letter_any _ _ (by omega) (by omega)).mono ?_
  rintro e w' ⟨rfl, rfl⟩
  rw [HL.out]
  go_wp2_with fail
  refine (l3Digit_any _ _ (by omega) (by omega)).mono ?_
  rintro e w' ⟨rfl, rfl⟩
  rw [HD.out]
  go_wp2_with fail
  go_loop [6] (fun i => ∃ k : Nat, a + 1 ≤ k ∧ k ≤ s.size + 1 ∧ i = .int .i64 (k : Int) ∧ k + clo false (s.data.toList.drop k) = a + 1 + clo false (s.data.toList.drop (a + 1))) (fun i => s.size + 1 - (intOf i).toNat)
  case atStart => exact ⟨a + 1, by omega, by omega, by go_num, rfl⟩
  case round =>
    obtain ⟨k, hk0, hk, rfl, hr⟩ := hrel
    have HR := Lib.hid hr; clear hr
    by_cases hlt : k < s.size
    · have hbk : (s[k].toNat : Int) ≤ 255 := by have := s[k].toNat_lt; omega
      cases h34 : ((s[k].toNat : Int) == 34) with
      | true =>
        have n34 : ((s[k].toNat : Int) != 34) = false := by simp only [bne, h34]; rfl
        have HZ := Lib.hid (clo_stop s k hlt h34)
        have HV := Lib.hid (show a + 1 + clo false (s.data.toList.drop (a + 1)) = k by rw [← HR.out, HZ.out]; rfl)
        have HQ := Lib.hid (show endN (s.data.toList.drop a) = k + 1 - a by rw [HE.out.1, HV.out, if_pos hlt]; have := HV.out; omega)
        have HQ2 := Lib.hid (show endK (s.data.toList.drop a) = 3 by rw [HE.out.2, HV.out, if_pos hlt])
        have HX := Lib.hid (show ((a + (k + 1 - a) : Nat) : Int) = (k : Int) + 1 by omega)
        go_wp2
        go_ret2
        have := endAt_of (w := w) HQ.out HQ2.out (Below.refl _ _)
        rw [HX.out] at this
        exact this
      | false =>
        have n34 : ((s[k].toNat : Int) != 34) = true := by simp only [bne, h34]; rfl
        cases h92 : ((s[k].toNat : Int) == 92) with
        | true =>
          have HV := Lib.hid (clo_esc s k hlt h34 h92)
          go_wp2
          go_round
          case rel => exact ⟨k + 2, by omega, by omega, by go_num, by rw [← HR.out, HV.out]; omega⟩
          case measure => simp [intOf]; omega
        | false =>
          have HV := Lib.hid (clo_oneS s k hlt h34 h92)
          go_wp2
          go_round
          case rel => exact ⟨k + 1, by omega, by omega, by go_num, by rw [← HR.out, HV.out]; omega⟩
          case measure => simp [intOf]; omega
    · have HZ := Lib.hid (clo_end s k (by omega))
      have HV := Lib.hid (show a + 1 + clo false (s.data.toList.drop (a + 1)) = k by rw [← HR.out, HZ.out]; rfl)
      have HQ := Lib.hid (show endN (s.data.toList.drop a) = 0 by rw [HE.out.1, HV.out, if_neg hlt])
      have HQ2 := Lib.hid (show endK (s.data.toList.drop a) = 0 by rw [HE.out.2, HV.out, if_neg hlt])
      go_wp2
      go_ret2
      exact endAt_of HQ.out HQ2.out (Below.refl _ _)

set_option maxRecDepth 100000 in
set_option maxHeartbeats 4000000 in
theorem l3End_sign (s : ByteArray) (a : Nat) (w : World) (hs : s.size ≤ 20000) (ha : a < s.size) (hl : ltrI (s[a].toNat : Int) = false) (hd : digI (s[a].toNat : Int) = false) (hq : ((s[a].toNat : Int) == 34) = false) :
    Calls Tryz.prog 75 #[.string s, .int .i64 (a : Int)] w (EndAt s a w) := by
  have hb0 : (s[a].toNat : Int) ≤ 255 := by have := s[a].toNat_lt; omega
  have HE := Lib.hid (endN_sign s a ha hl hd hq); have HL := Lib.hid hl; have HD := Lib.hid hd; clear hl hd
  go_enter Tryz.func75, Tryz.ntmps75
  go_wp2_with fail
  refine (l3Letter_any _ _ (by omega) (by omega)).mono ?_
  rintro e w' ⟨rfl, rfl⟩
  rw [HL.out]
  go_wp2_with fail
  refine (l3Digit_any _ _ (by omega) (by omega)).mono ?_
  rintro e w' ⟨rfl, rfl⟩
  rw [HD.out]
  go_wp2_with fail
  refine (l3Sign_any s a _ hs ha).mono ?_
  rintro e w1 ⟨rfl, hb1⟩
  have HB1 := Lib.hid hb1; clear hb1
  have hle : signL (s.data.toList.drop a) ≤ 2 := by
    rw [drop_k s a ha]
    cases s.data.toList.drop (a + 1) with
    | nil => simp only [signL]; split <;> omega
    | cons c r => simp only [signL]; split
                  · omega
                  · split <;> omega
  generalize hn : signL (s.data.toList.drop a) = n at *
  by_cases hz : n = 0
  · have hz' : ((n : Int) == 0) = true := beq_iff_eq.mpr (by omega)
    have HQ := Lib.hid (show endN (s.data.toList.drop a) = 0 by rw [HE.out.1]; exact hz)
    have HQ2 := Lib.hid (show endK (s.data.toList.drop a) = 0 by rw [HE.out.2, if_pos hz])
    clear hn hz
    go_wp2
    go_ret2
    exact endAt_of HQ.out HQ2.out HB1.out
  · have hz' : ((n : Int) == 0) = false := beq_eq_false_iff_ne.mpr (by omega)
    have HQ := Lib.hid HE.out.1
    have HQ2 := Lib.hid (show endK (s.data.toList.drop a) = 4 by rw [HE.out.2, if_neg hz])
    clear hn hz
    go_wp2
    go_ret2
    exact endAt_of HQ.out HQ2.out HB1.out

theorem l3End_any (s : ByteArray) (a : Nat) (w : World) (hs : s.size ≤ 20000) (ha : a < s.size) :
    Calls Tryz.prog 75 #[.string s, .int .i64 (a : Int)] w (EndAt s a w) := by
  cases hl : ltrI (s[a].toNat : Int) with
  | true => exact l3End_name s a w hs ha hl
  | false =>
    cases hd : digI (s[a].toNat : Int) with
    | true => exact l3End_num s a w hs ha hl hd
    | false =>
      cases hq : ((s[a].toNat : Int) == 34) with
      | true => exact l3End_text s a w hs ha hl hd hq
      | false => exact l3End_sign s a w hs ha hl hd hq

end Go.Proofs.YtncehcklppakcaaGreatDoor

/-
  spec.TokensOf, by its contract.
-/
namespace Go.Proofs.YtncehcklppakcaaGreatDoor
open Go.RowKit
set_option linter.unusedVariables false

theorem okT_iff (s : ByteArray) : okT s = (textB s && !hasL s.data.toList 10 && resB (0, 0, []) 0 s.data.toList) := by
  rw [okT, plain_iff, textB]
  cases decide (s.size ≤ 20000) <;> simp
theorem end_done (acc : List (Int × Nat × Nat)) (k : Nat) : endM (0, 0, acc) k [] = (0, k, acc) := by
  unfold endM; rw [runM, step_zero, first_space]; rfl
theorem end_skip (s : ByteArray) (k : Nat) (acc : List (Int × Nat × Nat)) (h : k < s.size) (h32 : ((s[k].toNat : Int) == 32) = true) : endM (0, 0, acc) k (s.data.toList.drop k) = endM (0, 0, acc) (k + 1) (s.data.toList.drop (k + 1)) := by
  rw [drop_k s k h, end_space _ _ _ _ _ (by simpa using h32), end_from k 0]
theorem end_tok (s : ByteArray) (k : Nat) (acc : List (Int × Nat × Nat)) (h : k < s.size) (h32 : ((s[k].toNat : Int) == 32) = false) (hk : endK (s.data.toList.drop k) ≠ 0) :
    1 ≤ endN (s.data.toList.drop k) ∧ k + endN (s.data.toList.drop k) ≤ s.size ∧ endM (0, 0, acc) k (s.data.toList.drop k) = endM (0, 0, acc ++ [(endK (s.data.toList.drop k), k, k + endN (s.data.toList.drop k))]) (k + endN (s.data.toList.drop k)) (s.data.toList.drop (k + endN (s.data.toList.drop k))) := by
  have ht : TokAt (s.data.toList.drop k) (endN (s.data.toList.drop k)) (endK (s.data.toList.drop k)) := by
    rw [drop_k s k h] at hk ⊢
    exact end_ok _ _ (by simpa using h32) hk
  have h1 := ht.read 0 k acc
  rw [List.drop_drop] at h1
  have hl : (s.data.toList.drop k).length = s.size - k := by rw [List.length_drop, Array.length_toList]; rfl
  obtain ⟨b, t, -, -, -, -, hle, -⟩ := ht
  exact ⟨h1.1, by rw [hl] at hle; omega, h1.2⟩
theorem end_wrong (s : ByteArray) (k : Nat) (acc : List (Int × Nat × Nat)) (h : k < s.size) (h32 : ((s[k].toNat : Int) == 32) = false) (hk : endK (s.data.toList.drop k) = 0) : (endM (0, 0, acc) k (s.data.toList.drop k)).1 ≠ 0 := by
  rw [drop_k s k h] at hk ⊢
  exact end_bad _ _ _ _ _ (by simpa using h32) hk

set_option maxRecDepth 100000 in
set_option maxHeartbeats 4000000 in
theorem tokensOf_spec (s : ByteArray) (w : World) (hs : s.size ≤ maxLen) :
    Calls Tryz.prog 47 #[.string s] w (NewToks (okT s) (toksT s) w) := by
  obtain ⟨i0, hi, hz0, hz1, hz2⟩ := info_parts infoTok
  have HMX := Lib.hid hs
  unfold maxLen at hs
  have HI := Lib.hid (okT_iff s)
  cases ht : textB s with
  | false =>
    have HT := Lib.hid ht
    have HR := Lib.hid (show okT s = false by rw [HI.out, ht]; rfl)
    have HL := Lib.hid (show toksT s = [] by rw [toksT, HR.out]; rfl)
    clear ht
    go_enter Tryz.func47, Tryz.ntmps47
    go_wp2_with fail
    refine (textValid_spec s _ HMX.out).mono ?_
    rintro e w' ⟨rfl, rfl⟩
    rw [HT.out]
    go_wp2
    refine bodyPost_ret (results_tmp2' rfl _ _ _) rfl ?_
    exact ⟨_, by rw [HR.out]; rfl, by rw [HL.out]; exact World.ownsRow_lit _ _ 0 (Nat.le_refl _) (by unfold maxLen; omega) rfl, (Below.refl _ _).alloc (Nat.le_refl _) _⟩
  | true =>
    have h20 : s.size ≤ 20000 := by simp only [textB, Bool.and_eq_true, decide_eq_true_eq] at ht; exact ht.1
    have HT := Lib.hid ht
    cases hh : hasL s.data.toList 10 with
    | true =>
      have HH := Lib.hid hh
      have HR := Lib.hid (show okT s = false by rw [HI.out, hh]; simp)
      have HL := Lib.hid (show toksT s = [] by rw [toksT, HR.out]; rfl)
      clear ht hh
      go_enter Tryz.func47, Tryz.ntmps47
      go_wp2_with fail
      refine (textValid_spec s _ HMX.out).mono ?_
      rintro e w' ⟨rfl, rfl⟩
      rw [HT.out]
      go_wp2_with fail
      refine (l1Has_any s 10 _ HMX.out (by omega) (by omega)).mono ?_
      rintro e w' ⟨rfl, rfl⟩
      rw [HH.out]
      go_wp2
      refine bodyPost_ret (results_tmp2' rfl _ _ _) rfl ?_
      exact ⟨_, by rw [HR.out]; rfl, by rw [HL.out]; exact World.ownsRow_lit _ _ 0 (Nat.le_refl _) (by unfold maxLen; omega) rfl, (Below.refl _ _).alloc (Nat.le_refl _) _⟩
    | false =>
      have HH := Lib.hid hh
      have HR := Lib.hid (show okT s = resB (0, 0, []) 0 s.data.toList by rw [HI.out, hh, ht]; rfl)
      clear ht hh
      go_enter Tryz.func47, Tryz.ntmps47
      go_wp2_with fail
      refine (textValid_spec s _ HMX.out).mono ?_
      rintro e w' ⟨rfl, rfl⟩
      rw [HT.out]
      go_wp2_with fail
      refine (l1Has_any s 10 _ HMX.out (by omega) (by omega)).mono ?_
      rintro e w' ⟨rfl, rfl⟩
      rw [HH.out]
      go_wp2_with fail
      go_loopw [4, 5] (fun v i wr => ∃ (k : Nat) (acc : List (Int × Nat × Nat)), k ≤ s.size ∧ acc.length ≤ k ∧ i = .int .i64 (k : Int) ∧ endM (0, 0, acc) k (s.data.toList.drop k) = endM (0, 0, []) 0 s.data.toList ∧ wr.ownsRow w.heap.size 81 3 v acc.length (flatT acc) ∧ Below w.heap.size w wr) (fun _ i _ => s.size - (intOf i).toNat)
      case atStart => exact ⟨0, [], Nat.zero_le _, Nat.zero_le _, rfl, rfl, World.ownsRow_lit _ _ 0 (Nat.le_refl _) (by unfold maxLen; omega) rfl, (Below.refl _ _).alloc (Nat.le_refl _) _⟩
      case round =>
        obtain ⟨k, acc, hk, hal, rfl, hE, hown, hb⟩ := hrel
        have HE := Lib.hid hE; have HB := Lib.hid hb; clear hE hb
        by_cases hlt : k < s.size
        · have hb0 : (s[k].toNat : Int) ≤ 255 := by have := s[k].toNat_lt; omega
          cases h32 : ((s[k].toNat : Int) == 32) with
          | true =>
            have HS := Lib.hid (end_skip s k acc hlt h32)
            go_wp2
            go_roundw
            case rel => exact ⟨k + 1, acc, by omega, by omega, by go_num, by rw [← HS.out]; exact HE.out, hown, HB.out⟩
            case measure => simp [intOf]; omega
          | false =>
            go_wp2_with fail
            refine (l3End_any s k _ h20 hlt).mono ?_
            rintro e w1 ⟨rfl, hb1⟩
            have hgb : wr.grownBy w1 none := ⟨hb1.os, hb1.tape, hb1.output, hb1.size, fun i hi _ => hb1.block i hi⟩
            have hown1 := hown.kept hgb (by
              rcases hown.2 with ⟨rfl, _⟩ | ⟨g', cap, cur, rfl, _⟩
              · exact .inl rfl
              · exact .inr (by simp [Value.ownBlock]))
            have HB1 := Lib.hid (HB.out.trans (hb1.mono HB.out.size))
            clear hb1 hgb hown HB
            by_cases hk0 : endK (s.data.toList.drop k) = 0
            · have HW := Lib.hid (end_wrong s k acc hlt h32 hk0)
              have HZ := Lib.hid (show okT s = false by rw [HR.out, resB, ← HE.out]; exact decide_eq_false HW.out)
              have HL := Lib.hid (show toksT s = [] by rw [toksT, HZ.out]; rfl)
              rw [hk0]; clear hk0
              go_wp2
              refine bodyPost_ret (results_tmp2' rfl _ _ _) rfl ?_
              exact ⟨_, by rw [HZ.out]; rfl, by rw [HL.out]; exact World.ownsRow_lit _ _ 0 HB1.out.size (by unfold maxLen; omega) rfl, HB1.out.alloc HB1.out.size _⟩
            · obtain ⟨t1, t2, t3⟩ := end_tok s k acc hlt h32 hk0
              have hkz : (endK (s.data.toList.drop k) == 0) = false := beq_eq_false_iff_ne.mpr hk0
              have HT3 := Lib.hid t3
              clear hk0 t3
              generalize hnn : endN (s.data.toList.drop k) = n at t1 t2 HT3 ⊢
              generalize hkk : endK (s.data.toList.drop k) = kk at hkz HT3 ⊢
              clear hnn hkk
              go_wp2_with (at_builtin; refine wpList_append_own _ rfl _ _ 65 rfl w.heap.size 81 i0 (.agg #[.int .i64 0, .int .i64 0, .int .i64 0]) 3 24 Tryz.underlying65 hi hz0 hz1 hz2 rfl (by decide) _ _ _ rfl (hown1.alloc _) ⟨w1.heap.size, 0, none⟩ 1 1 [.int .i64 kk, .int .i64 (k : Int), .int .i64 ((k + n : Nat) : Int)] rfl rfl (World.news_of_block (cs := #[.int .i64 kk, .int .i64 (k : Int), .int .i64 ((k + n : Nat) : Int)]) (t := 81) (fr := (0, 0)) (heap_alloc_new w1 _)) (by simp [Value.oneCell']) (by unfold maxLen; omega) (by omega) (by have := HB1.out.size; simp; omega) ?_; intro v' w2 hown' hgrow hnil)
              go_roundw
              case rel =>
                refine ⟨k + n, acc ++ [(kk, k, k + n)], by omega, by simp; omega, rfl, by rw [← HT3.out]; exact HE.out, ?_, ?_⟩
                · rw [flatT_snoc, List.length_append]; exact hown'
                · exact (HB1.out.alloc HB1.out.size _).grown hgrow (by have := HB1.out.size; simp; omega) (fun q hq => (hown1.lt q hq).1)
              case measure => simp [intOf]; omega
        · have HD := Lib.hid (show endM (0, 0, []) 0 s.data.toList = (0, k, acc) by rw [← HE.out, drop_end s k (by omega), end_done])
          have HZ := Lib.hid (show okT s = true by rw [HR.out, resB, HD.out]; rfl)
          have HL := Lib.hid (show toksT s = acc by rw [toksT, HZ.out, if_pos rfl, resL, resB, HD.out]; simp)
          go_wp2
          refine bodyPost_ret (results_tmp2' rfl _ _ _) rfl ?_
          exact ⟨_, by rw [HZ.out]; rfl, by rw [HL.out]; exact hown, HB.out⟩

end Go.Proofs.YtncehcklppakcaaGreatDoor
