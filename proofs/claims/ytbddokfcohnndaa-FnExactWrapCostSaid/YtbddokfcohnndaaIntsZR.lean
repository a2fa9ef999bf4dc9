/-
  An argument of any numbers; laws.toIntS and laws.eqIntS at any numbers.
-/
import Derived.Test.YtbddokfcohnndaaIntsZ
import Derived.Test.YtbddokfcohnndaaInts
import Derived.Test.YtbddokfcohnndaaRows2
import Derived.Test.YtbddokfcohnndaaStringS
import Derived.Deep.QuietTactic
import Derived.BigQuiet
namespace Go.Proofs.Ytbddokfcohnndaa
open Go.RowKit
set_option linter.unusedVariables false

/-- A slice of numbers that came in. -/
def IntRow (w : World) (a : Option Addr) (len cap : Nat) (ls : List Int) : Prop := ls.length = len ∧ RowOf w (.slice a len cap) (intsZ ls)
theorem IntRow.of_nil (w : World) : IntRow w none 0 0 [] := ⟨rfl, ⟨none, 0, rfl, Nat.le_refl _, by unfold maxLen; omega, .inl rfl⟩⟩
theorem IntRow.of {w : World} {x : Addr} {len cap : Nat} {zs : List Int} (hl : len ≤ cap) (hm : cap ≤ maxLen) (hz : zs.length = cap)
    (hc : ∀ i, i < zs.length → w.cell? (x.add i) = some (.int .i64 (zs.getD i 0))) : IntRow w (some x) len cap (zs.take len) := by
  have hlen : (zs.take len).length = len := by simp; omega
  refine ⟨hlen, ⟨some x, cap, by rw [intsZ_length, hlen], by rw [intsZ_length, hlen]; exact hl, hm, ?_⟩⟩
  by_cases h0 : len = 0
  · left; subst h0; rfl
  · right
    obtain ⟨b, off, spot⟩ := x
    have hc0 := cell_plain (hc 0 (by omega))
    have hsp : spot = none := by have := hc0.1; unfold Addr.add at this; split at this <;> simp_all
    subst hsp
    refine ⟨b, off, rfl, by have := hc0.2; rw [row_add] at this; exact this, fun j t ht => ?_⟩
    have hj : j < len := by
      by_cases hk : j < len
      · exact hk
      · rw [List.getElem?_eq_none (by rw [intsZ_length, hlen]; omega)] at ht; cases ht
    have hcj := hc j (by omega)
    rw [row_add] at hcj
    rw [hcj]
    simp only [intsZ, List.getElem?_map, List.getElem?_take, if_pos hj, List.getElem?_eq_getElem (show j < zs.length by omega), Option.map_some, Option.some.injEq] at ht
    rw [← ht, List.getD_eq_getElem?_getD, List.getElem?_eq_getElem (by omega)]
    rfl

def filledZ (L : List Int) (M : List Value) (k : Nat) : List Value := intsZ (L.take k) ++ M.drop k
theorem filledZ_next (L : List Int) (M : List Value) (k : Nat) (hL : k < L.length) (hM : M.length = L.length) : (filledZ L M k).set k (.int .i64 L[k]) = filledZ L M (k + 1) := by
  unfold filledZ
  have h1 : (intsZ (L.take k)).length = k := by rw [intsZ_length, List.length_take]; omega
  rw [List.set_append_right _ _ (by omega), h1, Nat.sub_self, List.drop_eq_getElem_cons (by omega), List.set_cons_zero]
  have e : intsZ (L.take (k + 1)) = intsZ (L.take k) ++ [.int .i64 L[k]] := by rw [List.take_succ_eq_append_getElem hL]; simp only [intsZ, List.map_append, List.map_cons, List.map_nil]
  rw [e, List.append_assoc]; rfl
theorem filledZ_all (L : List Int) (M : List Value) (hM : M.length = L.length) : filledZ L M L.length = intsZ L := by
  rw [filledZ, List.take_of_length_le (Nat.le_refl _), List.drop_eq_nil_of_le (by omega), List.append_nil]
theorem filledZ_length (L : List Int) (M : List Value) (k : Nat) (hk : k ≤ L.length) (hM : M.length = L.length) : (filledZ L M k).length = L.length := by
  rw [filledZ, List.length_append, intsZ_length, List.length_take, List.length_drop]; omega

set_option maxRecDepth 100000 in
set_option maxHeartbeats 2000000 in
theorem toIntS_any (v : Value) (L : List Int) (w : World) (h : RowOf w v (intsZ L)) (hl : L.length ≤ 1048576) :
    Calls Try.prog 18 #[v] w fun e w' => ∃ v', e = .returned v' ∧ w'.ownsRow w.heap.size 3 1 v' L.length (intsZ L) ∧ Below w.heap.size w w' := by
  obtain ⟨i0, hi, hz0, hz1, hz2⟩ := info_parts infoI
  obtain ⟨ao, cap, rfl, h1, h2, h3⟩ := h
  simp only [intsZ_length] at h1 ⊢
  unfold maxLen at h2
  have H3 := Lib.hid h3; clear h3
  have hby : i0.bytes * L.length ≤ 281474976710656 := by rw [hz2]; omega
  go_enter Try.func18, Try.ntmps18
  go_wp2_with (at_make; refine wpList_make_full _ rfl _ _ 27 rfl w.heap.size 3 i0 (.int .i64 0) 1 Try.underlying27 hi hz0 hz1 .i64 .i64 (L.length : Int) (L.length : Int) L.length rfl rfl rfl rfl hby (by unfold maxLen; omega) (Nat.le_refl _) ?_; intro w1 hown1 hgrow1)
  have hM : (madeCells (Value.int .i64 0).cells (L.length * 1)).toList.length = L.length := by have := hown1.1; omega
  generalize (madeCells (Value.int .i64 0).cells (L.length * 1)).toList = M at hown1 hM
  have B1 := Lib.hid ((Below.refl w.heap.size w).grown hgrow1 (Nat.le_refl _) (by simp))
  have HM := Lib.hid hM
  have O1 := Lib.hid hown1
  clear hgrow1 hM hown1 hby
  go_wp2_with fail
  go_loopw [4] (fun i wr => ∃ k : Nat, k ≤ L.length ∧ i = .int .i64 k ∧ wr.ownsRow w.heap.size 3 1 (.slice (some ⟨w.heap.size, 0, none⟩) L.length L.length) L.length (filledZ L M k) ∧ Below w.heap.size w wr) (fun i _ => L.length - (intOf i).toNat)
  case atStart => exact ⟨0, Nat.zero_le _, rfl, O1.out, B1.out⟩
  case round =>
    obtain ⟨k, hk, rfl, hown, hb⟩ := hrel
    have HO := Lib.hid hown; have HB := Lib.hid hb
    clear hown hb
    by_cases hlt : k < L.length
    · obtain ⟨b, o, hA, hbl, cc⟩ := H3.out.resolve_left (by intro h; have h' := congrArg List.length h; rw [intsZ_length] at h'; simp only [List.length_nil] at h'; omega)
      subst hA
      have d1 : wr.cell? ⟨b, o + k, none⟩ = some (.int .i64 L[k]) := (HB.out.cell (p := ⟨b, o + k, none⟩) hbl).trans (cc k _ (intsZ_at L k hlt))
      have hcl : wr.cell? ⟨w.heap.size, k, none⟩ = (filledZ L M k)[k]? := HO.out.cellAt k (by omega)
      rw [List.getElem?_eq_getElem (by rw [filledZ_length _ _ _ (by omega) HM.out]; omega)] at hcl
      have hfz : wr.frozen? ⟨w.heap.size, k, none⟩ = false := HO.out.frozenAt k
      have HS := Lib.hid (HO.out.stored k (.int .i64 L[k]))
      have HN := Lib.hid (filledZ_next L M k hlt HM.out)
      clear cc
      go_wp2
      go_roundw
      case rel => exact ⟨k + 1, by omega, by go_num, by rw [← HN.out]; exact HS.out.1, HB.out.setCell (Nat.le_refl _) _⟩
      case measure => simp [intOf]; omega
    · obtain rfl : k = L.length := by omega
      have HN := Lib.hid (filledZ_all L M HM.out)
      go_wp2
      go_ret
      exact ⟨_, rfl, by rw [← HN.out]; exact HO.out, HB.out⟩

set_option maxRecDepth 100000 in
set_option maxHeartbeats 2000000 in
theorem eqIntZ_same (v1 v2 : Value) (L : List Int) (w : World) (h1 : RowOf w v1 (intsZ L)) (h2 : RowOf w v2 (intsZ L)) :
    Calls Try.prog 20 #[v1, v2] w fun e w' => e = .returned (.bool true) ∧ Below w.heap.size w w' := by
  obtain ⟨a1, c1, rfl, l1, m1, r1⟩ := h1
  obtain ⟨a2, c2, rfl, l2, m2, r2⟩ := h2
  simp only [intsZ_length] at l1 l2 ⊢
  unfold maxLen at m1 m2
  have R1 := Lib.hid r1; have R2 := Lib.hid r2
  clear r1 r2
  go_enter Try.func20, Try.ntmps20
  go_wp2
  go_loopw [5] (fun i wr => ∃ k n : Nat, k ≤ L.length ∧ i = .int .i64 k ∧ wr = w.drewN n) (fun i _ => L.length - (intOf i).toNat)
  case atStart => exact ⟨0, 0, Nat.zero_le _, rfl, rfl⟩
  case round =>
    obtain ⟨k, n, hk, rfl, rfl⟩ := hrel
    by_cases hlt : k < L.length
    · obtain ⟨b1, o1, hA1, -, cc1⟩ := R1.out.resolve_left (by intro h; have h' := congrArg List.length h; rw [intsZ_length] at h'; simp only [List.length_nil] at h'; omega)
      obtain ⟨b2, o2, hA2, -, cc2⟩ := R2.out.resolve_left (by intro h; have h' := congrArg List.length h; rw [intsZ_length] at h'; simp only [List.length_nil] at h'; omega)
      subst hA1 hA2
      have d1 := cc1 k _ (intsZ_at L k hlt)
      have d2 := cc2 k _ (intsZ_at L k hlt)
      generalize L[k] = x at d1 d2
      have hx : (x != x) = false := by simp
      clear cc1 cc2
      go_wp2_with fail
      go_quiet (fail)
      go_wp2
      go_roundw
      case rel => exact ⟨k + 1, _, by omega, by go_num, rfl⟩
      case measure => simp [intOf]; omega
    · go_wp2
      go_ret
      exact ⟨rfl, ⟨rfl, rfl, rfl, Nat.le_refl _, fun _ _ => rfl⟩⟩

end Go.Proofs.Ytbddokfcohnndaa
