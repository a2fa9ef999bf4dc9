/-
  What spec reads at a place: spec.l3Sign, spec.l3End, by their contracts.
-/
import Derived.Test.YtiehdnompeibiaaBytesS
import Derived.Test.YtiehdnompeibiaaTokPlain
import Derived.Test.YtiehdnompeibiaaHas
import Derived.IntWalk
import Derived.Below
namespace Go.Proofs.Ytiehdnompeibiaa
open Go.RowKit
set_option linter.unusedVariables false

theorem drop_k (s : ByteArray) (k : Nat) (h : k < s.size) : s.data.toList.drop k = s[k] :: s.data.toList.drop (k + 1) := by
  rw [List.drop_eq_getElem_cons (by simpa using h)]; rfl
theorem drop_end (s : ByteArray) (k : Nat) (h : s.size ≤ k) : s.data.toList.drop k = [] := List.drop_eq_nil_of_le (by rw [Array.length_toList]; exact h)

/-- The signs of two bytes. -/
def pq : Nat → UInt8 × UInt8
  | 0 => (60, 61)
  | 1 => (62, 61)
  | 2 => (61, 61)
  | 3 => (33, 61)
  | 4 => (38, 38)
  | _ => (124, 124)
theorem lit6 (m : Nat) (h : m < 6) : ∃ t : ByteArray, t.data.toList = [(pq m).1, (pq m).2] ∧ (#[Value.string ⟨#[60, 61]⟩, .string ⟨#[62, 61]⟩, .string ⟨#[61, 61]⟩, .string ⟨#[33, 61]⟩, .string ⟨#[38, 38]⟩, .string ⟨#[124, 124]⟩] : Array Value)[m]? = some (.string t) := by
  match m, h with
  | 0, _ => exact ⟨_, rfl, rfl⟩
  | 1, _ => exact ⟨_, rfl, rfl⟩
  | 2, _ => exact ⟨_, rfl, rfl⟩
  | 3, _ => exact ⟨_, rfl, rfl⟩
  | 4, _ => exact ⟨_, rfl, rfl⟩
  | 5, _ => exact ⟨_, rfl, rfl⟩
/-- The literal's block. -/
def Lit6 (B : Nat) (wr : World) : Prop := ∀ (m : Nat) v, (#[Value.string ⟨#[60, 61]⟩, .string ⟨#[62, 61]⟩, .string ⟨#[61, 61]⟩, .string ⟨#[33, 61]⟩, .string ⟨#[38, 38]⟩, .string ⟨#[124, 124]⟩] : Array Value)[m]? = some v → wr.cell? ⟨B, m, none⟩ = some v
theorem lit6_new (w : World) : Lit6 w.heap.size (w.alloc (.cells #[Value.string ⟨#[60, 61]⟩, .string ⟨#[62, 61]⟩, .string ⟨#[61, 61]⟩, .string ⟨#[33, 61]⟩, .string ⟨#[38, 38]⟩, .string ⟨#[124, 124]⟩] 9)) := by
  intro m v h
  simp only [World.cell?, heap_alloc_new]; simpa using h
theorem two_yes (b c : UInt8) (j : Nat) (h : [b, c] = [(pq j).1, (pq j).2]) : two (b.toNat : Int) (c.toNat : Int) = true := by
  simp only [List.cons.injEq, and_true] at h
  obtain ⟨rfl, rfl⟩ := h
  match j with
  | 0 => decide
  | 1 => decide
  | 2 => decide
  | 3 => decide
  | 4 => decide
  | _ + 5 => simp only [pq]; decide
theorem two_no (b c : UInt8) (h : ∀ j, j < 6 → [b, c] ≠ [(pq j).1, (pq j).2]) : two (b.toNat : Int) (c.toNat : Int) = false := by
  rw [Bool.eq_false_iff]; intro e
  have key : ∀ (x y : UInt8), (b.toNat : Int) = (x.toNat : Int) → (c.toNat : Int) = (y.toNat : Int) → [b, c] = [x, y] := by
    intro x y h1 h2
    rw [UInt8.toNat_inj.mp (show b.toNat = x.toNat by omega), UInt8.toNat_inj.mp (show c.toNat = y.toNat by omega)]
  simp only [two, Bool.or_eq_true, Bool.and_eq_true, beq_iff_eq] at e
  rcases e with ((((( ⟨e, g⟩ | ⟨e, g⟩) | ⟨e, g⟩) | ⟨e, g⟩) | ⟨e, g⟩) | ⟨e, g⟩)
  · exact h 0 (by omega) (key 60 61 e g)
  · exact h 1 (by omega) (key 62 61 e g)
  · exact h 2 (by omega) (key 61 61 e g)
  · exact h 3 (by omega) (key 33 61 e g)
  · exact h 4 (by omega) (key 38 38 e g)
  · exact h 5 (by omega) (key 124 124 e g)
theorem has_one (n : Int) : hasL ({ data := #[33, 45, 42, 47, 37, 43, 60, 62, 63, 58, 40, 41, 91, 93, 44] } : ByteArray).data.toList n = one n := by
  rw [Bool.eq_iff_iff]
  simp only [hasL, one, List.any_cons, List.any_nil, Bool.or_eq_true, beq_iff_eq, Bool.or_false]
  constructor
  · intro h; simp only [show ((33 : UInt8).toNat : Int) = 33 from rfl, show ((45 : UInt8).toNat : Int) = 45 from rfl, show ((42 : UInt8).toNat : Int) = 42 from rfl, show ((47 : UInt8).toNat : Int) = 47 from rfl, show ((37 : UInt8).toNat : Int) = 37 from rfl, show ((43 : UInt8).toNat : Int) = 43 from rfl, show ((60 : UInt8).toNat : Int) = 60 from rfl, show ((62 : UInt8).toNat : Int) = 62 from rfl, show ((63 : UInt8).toNat : Int) = 63 from rfl, show ((58 : UInt8).toNat : Int) = 58 from rfl, show ((40 : UInt8).toNat : Int) = 40 from rfl, show ((41 : UInt8).toNat : Int) = 41 from rfl, show ((91 : UInt8).toNat : Int) = 91 from rfl, show ((93 : UInt8).toNat : Int) = 93 from rfl, show ((44 : UInt8).toNat : Int) = 44 from rfl] at h; omega
  · intro h; simp only [show ((33 : UInt8).toNat : Int) = 33 from rfl, show ((45 : UInt8).toNat : Int) = 45 from rfl, show ((42 : UInt8).toNat : Int) = 42 from rfl, show ((47 : UInt8).toNat : Int) = 47 from rfl, show ((37 : UInt8).toNat : Int) = 37 from rfl, show ((43 : UInt8).toNat : Int) = 43 from rfl, show ((60 : UInt8).toNat : Int) = 60 from rfl, show ((62 : UInt8).toNat : Int) = 62 from rfl, show ((63 : UInt8).toNat : Int) = 63 from rfl, show ((58 : UInt8).toNat : Int) = 58 from rfl, show ((40 : UInt8).toNat : Int) = 40 from rfl, show ((41 : UInt8).toNat : Int) = 41 from rfl, show ((91 : UInt8).toNat : Int) = 91 from rfl, show ((93 : UInt8).toNat : Int) = 93 from rfl, show ((44 : UInt8).toNat : Int) = 44 from rfl]; omega
theorem ext_two (s : ByteArray) (a : Nat) (h : a + 1 < s.size) : (s.extract a (a + 2)).toList = [s[a], s[a + 1]] := by
  rw [ByteArray.toList_eq]
  have hl : s.data.toList.length = s.size := by rw [Array.length_toList]; rfl
  have e : (s.extract a (a + 2)).data.toList = (s.data.toList.drop a).take 2 := by
    simp [ByteArray.data_extract]
  rw [e, drop_k s a (by omega), drop_k s (a + 1) (by omega)]; rfl
theorem ret_intS {k : IntKind} {a b : Int} (h : a = b) : Ending.returned (.int k a) = .returned (.int k b) := by rw [h]
theorem sign_two (s : ByteArray) (a : Nat) (h : a + 1 < s.size) : signL (s.data.toList.drop a) = if two (s[a].toNat : Int) (s[a + 1].toNat : Int) = true then 2 else if one (s[a].toNat : Int) = true then 1 else 0 := by
  rw [drop_k s a (by omega), drop_k s (a + 1) (by omega), signL]
theorem sign_one (s : ByteArray) (a : Nat) (h : a < s.size) (h1 : ¬ a + 1 < s.size) : signL (s.data.toList.drop a) = if one (s[a].toNat : Int) = true then 1 else 0 := by
  rw [drop_k s a h, drop_end s (a + 1) (by omega), signL]

set_option maxRecDepth 100000 in
set_option maxHeartbeats 4000000 in
theorem l3Sign_any (s : ByteArray) (a : Nat) (w : World) (hs : s.size ≤ 20000) (ha : a < s.size) :
    Calls Try.prog 60 #[.string s, .int .i64 (a : Int)] w fun e w' => e = .returned (.int .i64 ((signL (s.data.toList.drop a) : Nat) : Int)) ∧ Below w.heap.size w w' := by
  have hb0 : (s[a].toNat : Int) ≤ 255 := by have := s[a].toNat_lt; omega
  by_cases h1 : a + 1 < s.size
  · have HS := Lib.hid (sign_two s a h1)
    have HX := Lib.hid (ext_two s a h1)
    go_enter Try.func60, Try.ntmps60
    go_wp2
    go_loopw [6] (fun i wr => ∃ (k : Nat), k ≤ 6 ∧ i = .int .i64 (k : Int) ∧ (∀ j, j < k → [s[a], s[a + 1]] ≠ [(pq j).1, (pq j).2]) ∧ Lit6 w.heap.size wr ∧ Below w.heap.size w wr) (fun i _ => 6 - (intOf i).toNat)
    case atStart => exact ⟨0, by omega, rfl, fun j h => by omega, lit6_new w, (Below.refl _ _).alloc (Nat.le_refl _) _⟩
    case round =>
      obtain ⟨k, hk, rfl, hno, hlt6, hbel⟩ := hrel
      have HNO := Lib.hid hno; have HB := Lib.hid hbel; have H6 := Lib.hid hlt6; clear hno hbel hlt6
      by_cases hlt : k < 6
      · obtain ⟨t, ht, hlit⟩ := lit6 k hlt
        have hc : wr.cell? ⟨w.heap.size, k, none⟩ = some (.string t) := H6.out k _ hlit
        have HT := Lib.hid ht
        clear ht hlit
        have q0 : (0 : Int) ≤ (k : Int) := by omega
        have q1 : (k : Int) < 6 := by omega
        have q2 : (a : Int) ≤ (a : Int) + 2 := by omega
        have q3 : (a : Int) + 2 ≤ (s.size : Int) := by omega
        have q4 : (0 : Int) ≤ (a : Int) + 2 := by omega
        have q5 : ((a : Int) + 2).toNat = a + 2 := by omega
        have q6 : decide ((a : Int) + 1 < (s.size : Int)) = true := decide_eq_true (by omega)
        have r1 : IntKind.i64.wrap ((a : Int) + 1) = (a : Int) + 1 := IntWalk.i64_in _ (by omega)
        have r2 : IntKind.i64.wrap ((a : Int) + 2) = (a : Int) + 2 := IntWalk.i64_in _ (by omega)
        cases hE : ((s.extract a (a + 2)).toList == t.toList) with
        | true =>
          have HTW := Lib.hid (show two (s[a].toNat : Int) (s[a + 1].toNat : Int) = true by
            refine two_yes _ _ k ?_
            rw [beq_iff_eq, HX.out, ByteArray.toList_eq, HT.out] at hE; exact hE)
          go_wp2_with fail
          go_quiet (fail)
          clear r1 r2
          go_wp2
          go_ret
          exact ⟨by rw [HS.out, if_pos HTW.out]; rfl, HB.out.trans ⟨rfl, rfl, rfl, Nat.le_refl _, fun _ _ => rfl⟩⟩
        | false =>
          have HN2 := Lib.hid (show ∀ j, j < k + 1 → [s[a], s[a + 1]] ≠ [(pq j).1, (pq j).2] by
            intro j hj
            by_cases hjk : j < k
            · exact HNO.out j hjk
            · obtain rfl : j = k := by omega
              rw [beq_eq_false_iff_ne, HX.out, ByteArray.toList_eq, HT.out] at hE; exact hE)
          go_wp2_with fail
          go_quiet (fail)
          clear r1 r2
          go_wp2
          go_roundw
          case rel => exact ⟨k + 1, by omega, by go_num, HN2.out, H6.out, HB.out.trans ⟨rfl, rfl, rfl, Nat.le_refl _, fun _ _ => rfl⟩⟩
          case measure => simp [intOf]; omega
      · have HTW := Lib.hid (show two (s[a].toNat : Int) (s[a + 1].toNat : Int) = false from two_no _ _ (fun j hj => HNO.out j (by omega)))
        have h6 : k = 6 := by omega
        subst h6
        cases ho : one (s[a].toNat : Int)
        all_goals
          have HO := Lib.hid ho; clear ho
          go_wp2_with fail
          refine (l1Has_any _ _ _ (by decide) (by omega) (by omega)).mono ?_
          rintro e w' ⟨rfl, rfl⟩
          rw [has_one, HO.out]
          go_wp2
          go_ret
          exact ⟨by rw [HS.out, HTW.out, HO.out]; rfl, HB.out.trans ⟨rfl, rfl, rfl, Nat.le_refl _, fun _ _ => rfl⟩⟩
  · have HS := Lib.hid (sign_one s a ha h1)
    have q6 : decide ((a : Int) + 1 < (s.size : Int)) = false := decide_eq_false (by omega)
    go_enter Try.func60, Try.ntmps60
    go_wp2
    go_loopw [6] (fun i wr => ∃ (k : Nat), k ≤ 6 ∧ i = .int .i64 (k : Int) ∧ Lit6 w.heap.size wr ∧ Below w.heap.size w wr) (fun i _ => 6 - (intOf i).toNat)
    case atStart => exact ⟨0, by omega, rfl, lit6_new w, (Below.refl _ _).alloc (Nat.le_refl _) _⟩
    case round =>
      obtain ⟨k, hk, rfl, hlt6, hbel⟩ := hrel
      have HB := Lib.hid hbel; have H6 := Lib.hid hlt6; clear hbel hlt6
      by_cases hlt : k < 6
      · have r1 : IntKind.i64.wrap ((a : Int) + 1) = (a : Int) + 1 := IntWalk.i64_in _ (by omega)
        have q0 : (0 : Int) ≤ (k : Int) := by omega
        have q1 : (k : Int) < 6 := by omega
        go_wp2_with fail
        go_quiet (fail)
        clear r1
        go_wp2
        go_roundw
        case rel => exact ⟨k + 1, by omega, by go_num, H6.out, HB.out.trans ⟨rfl, rfl, rfl, Nat.le_refl _, fun _ _ => rfl⟩⟩
        case measure => simp [intOf]; omega
      · have h6 : k = 6 := by omega
        subst h6
        cases ho : one (s[a].toNat : Int)
        all_goals
          have HO := Lib.hid ho; clear ho
          go_wp2_with fail
          refine (l1Has_any _ _ _ (by decide) (by omega) (by omega)).mono ?_
          rintro e w' ⟨rfl, rfl⟩
          rw [has_one, HO.out]
          go_wp2
          go_ret
          exact ⟨by rw [HS.out, HO.out]; rfl, HB.out.trans ⟨rfl, rfl, rfl, Nat.le_refl _, fun _ _ => rfl⟩⟩

end Go.Proofs.Ytiehdnompeibiaa
