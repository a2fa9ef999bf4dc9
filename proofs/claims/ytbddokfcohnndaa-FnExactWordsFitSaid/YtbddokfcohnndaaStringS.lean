/-
  laws.szStringS and laws.toStringS, by their contracts.
-/
import Derived.Test.YtbddokfcohnndaaSized
import Derived.Test.YtbddokfcohnndaaStrs
import Derived.Test.YtbddokfcohnndaaRows2
namespace Go.Proofs.Ytbddokfcohnndaa
open Go.RowKit
set_option linter.unusedVariables false

/-- A slice of texts that came in. -/
def TextRow (w : World) (a : Option Addr) (len cap : Nat) (ss : List ByteArray) : Prop :=
  ss.length = len ∧ RowOf w (.slice a len cap) (strs ss) ∧ Sized ss

theorem TextRow.of_nil (w : World) : TextRow w none 0 0 [] :=
  ⟨rfl, ⟨none, 0, rfl, Nat.le_refl _, by unfold maxLen; omega, .inl rfl⟩, fun _ h => by cases h⟩

theorem row_add (b off j : Nat) : (⟨b, off, none⟩ : Addr).add j = ⟨b, off + j, none⟩ := by
  unfold Addr.add; split <;> simp_all
theorem cell_plain {w : World} {x : Addr} {v : Value} (h : w.cell? x = some v) : x.spot = none ∧ x.block < w.heap.size := by
  unfold World.cell? at h
  split at h
  · rename_i c e fr hh
    refine ⟨?_, ?_⟩
    · cases hs : x.spot with
      | none => rfl
      | some s => rw [hs] at h; simp at h
    · by_cases hk : x.block < w.heap.size
      · exact hk
      · rw [Array.getElem?_eq_none (by omega)] at hh; cases hh
  · cases h

theorem TextRow.of {w : World} {x : Addr} {len cap : Nat} {zs : List ByteArray} (hl : len ≤ cap) (hm : cap ≤ maxLen) (hz : zs.length = cap)
    (hc : ∀ i, i < zs.length → w.cell? (x.add i) = some (.string (zs.getD i ByteArray.empty))) (hw : ∀ s ∈ zs, s.size ≤ maxLen) :
    TextRow w (some x) len cap (zs.take len) := by
  have hlen : (zs.take len).length = len := by simp; omega
  refine ⟨hlen, ⟨some x, cap, by rw [strs_length, hlen], by rw [strs_length, hlen]; exact hl, hm, ?_⟩, fun t ht => hw t (List.mem_of_mem_take ht)⟩
  by_cases h0 : len = 0
  · left; subst h0; rfl
  · right
    obtain ⟨b, off, spot⟩ := x
    have hc0 := cell_plain (hc 0 (by omega))
    have hsp : spot = none := by have := hc0.1; unfold Addr.add at this; split at this <;> simp_all
    subst hsp
    refine ⟨b, off, rfl, by have := hc0.2; rw [row_add] at this; exact this, fun j t ht => ?_⟩
    have hj : j < len := by
      by_cases hk : j < len
      · exact hk
      · rw [List.getElem?_eq_none (by rw [strs_length, hlen]; omega)] at ht; cases ht
    have hcj := hc j (by omega)
    rw [row_add] at hcj
    rw [hcj]
    simp only [strs, List.getElem?_map, List.getElem?_take, if_pos hj, List.getElem?_eq_getElem (show j < zs.length by omega), Option.map_some, Option.some.injEq] at ht
    rw [← ht, List.getD_eq_getElem?_getD, List.getElem?_eq_getElem (by omega)]
    rfl

/-- szStringS: what is left; -1 if it is not enough. Where it is enough there are not many texts, and they are not long. -/
def SzLeft (n : Int) (L : List ByteArray) (e : Ending) : Prop :=
  ∃ m : Int, e = .returned (.int .i64 m) ∧ (0 ≤ m → (L.length : Int) ≤ n)

set_option maxRecDepth 100000 in
set_option maxHeartbeats 2000000 in
theorem szStringS_any (v : Value) (L : List ByteArray) (n : Int) (w : World) (h : RowOf w v (strs L)) (hz : Sized L) (hn0 : 0 ≤ n) (hn1 : n ≤ 1048576) :
    Calls Try.prog 12 #[v, .int .i64 n] w fun e w' => SzLeft n L e ∧ w = w' := by
  obtain ⟨ao, cap, rfl, h1, h2, h3⟩ := h
  simp only [strs_length] at h1 ⊢
  unfold maxLen at h2
  have H3 := Lib.hid h3; clear h3
  have HZ := Lib.hid hz; clear hz
  by_cases hl : (L.length : Int) ≤ n
  · go_enter Try.func12, Try.ntmps12
    go_wp2
    go_loop [1, 5] (fun a i => ∃ (k : Nat) (m : Int), k ≤ L.length ∧ i = .int .i64 k ∧ a = .int .i64 m ∧ 0 ≤ m ∧ m ≤ n) (fun _ i => L.length - (intOf i).toNat)
    case atStart => exact ⟨0, _, Nat.zero_le _, rfl, rfl, by omega, by omega⟩
    case round =>
      obtain ⟨k, m, hk, rfl, rfl, hm0, hm1⟩ := hrel
      by_cases hlt : k < L.length
      · obtain ⟨b, o, hA, -, cc⟩ := H3.out.resolve_left (by intro h; have h' := congrArg List.length h; rw [strs_length] at h'; simp only [List.length_nil] at h'; omega)
        subst hA
        obtain ⟨t, ht⟩ : ∃ t, L[k] = t := ⟨_, rfl⟩
        have d1 := cc k (.string t) (by simp [strs, hlt, ht])
        have hts : t.size ≤ maxLen := by rw [← ht]; exact HZ.out _ (List.getElem_mem _)
        unfold maxLen at hts
        clear cc ht
        by_cases hr : (t.size : Int) ≤ m
        · go_wp2
          go_round
          case rel => exact ⟨k + 1, m - t.size, by omega, by go_num, by go_num, by omega, by omega⟩
          case measure => simp [intOf]; omega
        · go_wp2
          go_ret
          exact ⟨⟨-1, rfl, fun _ => hl⟩, rfl⟩
      · go_wp2
        go_ret
        exact ⟨⟨m, rfl, fun _ => hl⟩, rfl⟩
  · go_enter Try.func12, Try.ntmps12
    go_wp2
    go_ret
    exact ⟨⟨-1, rfl, by omega⟩, rfl⟩

/-- The first k cells are filled. -/
def filled (L : List ByteArray) (M : List Value) (k : Nat) : List Value := strs (L.take k) ++ M.drop k
theorem filled_next (L : List ByteArray) (M : List Value) (k : Nat) (hL : k < L.length) (hM : M.length = L.length) : (filled L M k).set k (.string L[k]) = filled L M (k + 1) := by
  unfold filled
  have h1 : (strs (L.take k)).length = k := by rw [strs_length, List.length_take]; omega
  rw [List.set_append_right _ _ (by omega), h1, Nat.sub_self, List.drop_eq_getElem_cons (by omega), List.set_cons_zero, List.take_succ_eq_append_getElem hL, strs_append, List.append_assoc]
  rfl
theorem filled_all (L : List ByteArray) (M : List Value) (hM : M.length = L.length) : filled L M L.length = strs L := by
  rw [filled, List.take_of_length_le (Nat.le_refl _), List.drop_eq_nil_of_le (by omega), List.append_nil]
theorem filled_length (L : List ByteArray) (M : List Value) (k : Nat) (hk : k ≤ L.length) (hM : M.length = L.length) : (filled L M k).length = L.length := by
  rw [filled, List.length_append, strs_length, List.length_take, List.length_drop]; omega

set_option maxRecDepth 100000 in
set_option maxHeartbeats 2000000 in
theorem toStringS_any (v : Value) (L : List ByteArray) (w : World) (h : RowOf w v (strs L)) (hl : L.length ≤ 1048576) :
    Calls Try.prog 14 #[v] w (NewTexts L w) := by
  obtain ⟨i0, hi, hz0, hz1, hz2⟩ := info_parts infoStr
  obtain ⟨ao, cap, rfl, h1, h2, h3⟩ := h
  simp only [strs_length] at h1 ⊢
  unfold maxLen at h2
  have H3 := Lib.hid h3; clear h3
  have hby : i0.bytes * L.length ≤ 281474976710656 := by rw [hz2]; omega
  go_enter Try.func14, Try.ntmps14
  go_wp2_with (at_make; refine wpList_make_full _ rfl _ _ 22 rfl w.heap.size 9 i0 (.string ByteArray.empty) 1 Try.underlying22 hi hz0 hz1 .i64 .i64 (L.length : Int) (L.length : Int) L.length rfl rfl rfl rfl hby (by unfold maxLen; omega) (Nat.le_refl _) ?_; intro w1 hown1 hgrow1)
  have hM : (madeCells (Value.string ByteArray.empty).cells (L.length * 1)).toList.length = L.length := by have := hown1.1; omega
  generalize (madeCells (Value.string ByteArray.empty).cells (L.length * 1)).toList = M at hown1 hM
  have B1 := Lib.hid ((Below.refl w.heap.size w).grown hgrow1 (Nat.le_refl _) (by simp))
  have HM := Lib.hid hM
  have O1 := Lib.hid hown1
  clear hgrow1 hM hown1 hby
  go_wp2_with fail
  go_loopw [4] (fun i wr => ∃ k : Nat, k ≤ L.length ∧ i = .int .i64 k ∧ wr.ownsRow w.heap.size 9 1 (.slice (some ⟨w.heap.size, 0, none⟩) L.length L.length) L.length (filled L M k) ∧ Below w.heap.size w wr) (fun i _ => L.length - (intOf i).toNat)
  case atStart => exact ⟨0, Nat.zero_le _, rfl, O1.out, B1.out⟩
  case round =>
    obtain ⟨k, hk, rfl, hown, hb⟩ := hrel
    have HO := Lib.hid hown; have HB := Lib.hid hb
    clear hown hb
    by_cases hlt : k < L.length
    · obtain ⟨b, o, hA, hbl, cc⟩ := H3.out.resolve_left (by intro h; have h' := congrArg List.length h; rw [strs_length] at h'; simp only [List.length_nil] at h'; omega)
      subst hA
      have d1 : wr.cell? ⟨b, o + k, none⟩ = some (.string L[k]) := (HB.out.cell (p := ⟨b, o + k, none⟩) hbl).trans (cc k (.string L[k]) (by simp [strs, hlt]))
      have hcl : wr.cell? ⟨w.heap.size, k, none⟩ = (filled L M k)[k]? := HO.out.cellAt k (by omega)
      rw [List.getElem?_eq_getElem (by rw [filled_length _ _ _ (by omega) HM.out]; omega)] at hcl
      have hfz : wr.frozen? ⟨w.heap.size, k, none⟩ = false := HO.out.frozenAt k
      have HS := Lib.hid (HO.out.stored k (.string L[k]))
      have HN := Lib.hid (filled_next L M k hlt HM.out)
      clear cc
      go_wp2
      go_roundw
      case rel => exact ⟨k + 1, by omega, by go_num, by rw [← HN.out]; exact HS.out.1, HB.out.setCell (Nat.le_refl _) _⟩
      case measure => simp [intOf]; omega
    · obtain rfl : k = L.length := by omega
      have HN := Lib.hid (filled_all L M HM.out)
      go_wp2
      go_ret
      exact ⟨_, rfl, by rw [← HN.out]; exact HO.out, HB.out⟩

end Go.Proofs.Ytbddokfcohnndaa
