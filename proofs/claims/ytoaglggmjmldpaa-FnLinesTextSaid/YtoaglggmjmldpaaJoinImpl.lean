/-
  impl.plainLine and impl.LinesText, by their contracts.
-/
import Derived.Test.YtoaglggmjmldpaaJoinSpec
import Derived.Lib.AppendStr
import Derived.Laws.IdiomStrings
import Derived.Laws.BytesArg
namespace Go.Proofs.Ytoaglggmjmldpaa
open Go.RowKit
set_option linter.unusedVariables false

theorem infoByte : (Try.prog.info? 5).map (fun i => (i.zero, i.size, i.bytes)) = some (some (.int .u8 0), 1, 1) := by kernel_rfl

set_option maxHeartbeats 1000000 in
theorem plainLine_any (s : ByteArray) (w : World) (hs : s.size ≤ maxLen) :
    Calls Try.prog 36 #[.string s] w fun e w' => e = .returned (.bool (plainL s.data.toList)) ∧ w = w' := by
  unfold maxLen at hs
  go_enter Try.func36, Try.ntmps36
  go_wp2
  go_loop [3, 6] (fun _ i => ∃ k : Nat, k ≤ s.size ∧ i = .int .i64 k ∧ plainL (s.data.toList.take k) = true) (fun _ i => s.size - (intOf i).toNat)
  case atStart => exact ⟨0, Nat.zero_le _, rfl, rfl⟩
  case round =>
    obtain ⟨k, hk, rfl, hok⟩ := hrel
    have HK := Lib.hid hok; clear hok
    by_cases hlt : k < s.size
    · have hb0 : (s[k].toNat : Int) ≤ 255 := by have := s[k].toNat_lt; omega
      go_wp2_with fail
      refine (plainByte_any _ _ (by omega) (by omega)).mono ?_
      rintro e w' ⟨rfl, rfl⟩
      by_cases he : plainI (s[k].toNat : Int) = true
      · have HE := Lib.hid (plainL_next s k hlt HK.out he)
        rw [he]; clear he
        go_wp2
        go_round
        case rel => exact ⟨k + 1, by omega, by go_num, HE.out⟩
        case measure => simp [intOf]; omega
      · have HE := Lib.hid (plainL_bad s k hlt (Bool.eq_false_iff.mpr he))
        rw [Bool.eq_false_iff.mpr he]; clear he
        go_wp2
        go_ret
        exact ⟨ret_bool HE.out.symm, rfl⟩
    · go_wp2
      go_ret
      have := HK.out
      rw [List.take_of_length_le (by simp; omega)] at this
      exact ⟨ret_bool this.symm, rfl⟩

theorem strCells_append (a b : ByteArray) : Lib.strCells (a ++ b) = Lib.strCells a ++ Lib.strCells b := by
  simp [Lib.strCells]

/-- An owned row of bytes becomes a text. -/
theorem conv_own {w : World} {base g n cap : Nat} {s : ByteArray} (h : w.ownsRow base 5 1 (.slice (some ⟨g, 0, none⟩) n cap) n (Lib.strCells s)) :
    (convert 22 9 (.slice (some ⟨g, 0, none⟩) n cap)).run Try.prog w = .ok (.string s) w := by
  have hl : n = s.data.toList.length := by have := h.1; rw [Lib.strCells_length] at this; simp; show n = s.size; omega
  subst hl
  rw [run_convert_bytes_back (P := Try.prog) w 22 9 5 ⟨g, 0, none⟩ cap s.data.toList Try.underlying22 Try.underlying5 Try.underlying9 ?_]
  intro j hj
  have hadd : (⟨g, 0, none⟩ : Addr).add j = ⟨g, j, none⟩ := by unfold Addr.add; split <;> simp_all
  rw [hadd, h.cellAt j (by omega)]
  simp only [Lib.strCells, List.getElem?_map, List.getElem?_eq_getElem hj, Option.map_some]
theorem conv_nil (w : World) : (convert 22 9 (.slice none 0 0)).run Try.prog w = .ok (.string ⟨#[]⟩) w :=
  run_convert_bytes_nil (P := Try.prog) w 22 5 Try.underlying22 Try.underlying5 0 0 9 Try.underlying9

set_option maxRecDepth 100000 in
set_option maxHeartbeats 2000000 in
theorem linesText_impl (v : Value) (L : List ByteArray) (w : World) (h : RowOf w v (strs L)) (hz : Sized L) :
    Calls Try.prog 20 #[v] w fun e w' => Joins L e ∧ Below w.heap.size w w' := by
  obtain ⟨i0, hi, hz0, hz1, hz2⟩ := info_parts infoByte
  obtain ⟨ao, cap, rfl, h1, h2, h3⟩ := h
  simp only [strs_length] at h1 ⊢
  unfold maxLen at h2
  have H3 := Lib.hid h3; clear h3
  have HZ := Lib.hid hz; clear hz
  go_enter Try.func20, Try.ntmps20
  go_wp2
  go_loopw [4, 6, 9] (fun v _ i wr => ∃ k : Nat, k ≤ L.length ∧ i = .int .i64 k ∧ wr.ownsRow w.heap.size 5 1 v (accTo L k).size (Lib.strCells (accTo L k)) ∧ (∀ j, j < k → okAt L j = true) ∧ Below w.heap.size w wr) (fun _ _ i _ => L.length - (intOf i).toNat)
  case atStart => exact ⟨0, Nat.zero_le _, rfl, World.ownsRow_nil _ _ _ _, fun j hj => by omega, Below.refl _ _⟩
  case round =>
    obtain ⟨k, hk, rfl, hown, hok, hb⟩ := hrel
    have HK := Lib.hid hok; have HB := Lib.hid hb
    have hacc := acc_le L k hok
    clear hok hb
    obtain ⟨acc, hac⟩ : ∃ acc, accTo L k = acc := ⟨_, rfl⟩
    rw [hac] at hown hacc
    have HAC := Lib.hid hac; clear hac
    obtain ⟨va, vc, hv, hvc⟩ : ∃ va vc, u4 = .slice va acc.size vc ∧ vc ≤ maxLen := by
      rcases hown.2 with ⟨r1, r2⟩ | ⟨g, c, cur, r1, _, _, _, r2, _⟩
      · exact ⟨none, 0, by rw [r1, r2], by unfold maxLen; omega⟩
      · exact ⟨_, c, r1, r2⟩
    subst hv
    by_cases hlt : k < L.length
    · obtain ⟨b, o, hA, hbl, cc⟩ := H3.out.resolve_left (by intro h; have h' := congrArg List.length h; rw [strs_length] at h'; simp only [List.length_nil] at h'; omega)
      subst hA
      obtain ⟨t, ht⟩ : ∃ t, L[k] = t := ⟨_, rfl⟩
      have d1 : wr.cell? ⟨b, o + k, none⟩ = some (.string t) := (HB.out.cell (p := ⟨b, o + k, none⟩) hbl).trans (cc k (.string t) (by simp [strs, hlt, ht]))
      have hts : t.size ≤ maxLen := by rw [← ht]; exact HZ.out _ (List.getElem_mem _)
      have HT := Lib.hid (show lineAt L k = t by rw [lineAt_get L k hlt, ht])
      have hts' := hts
      unfold maxLen at hts'
      clear cc ht
      by_cases hroom : acc.size + t.size + 1 ≤ 20000
      · have hb0 : decide ((20000 : Int) - (acc.size : Int) ≤ (t.size : Int)) = false := by simp; omega
        go_wp2_with fail
        refine (plainLine_any t _ hts).mono ?_
        rintro e w' ⟨rfl, hw'⟩
        subst hw'
        by_cases hp : plainL t.data.toList = true
        · rw [hp]
          have HO := Lib.hid (show okAt L k = true by rw [okAt, HT.out, HAC.out, hp]; simp; omega)
          clear hp
          go_wp2_with (first | (at_builtin; refine Lib.wpList_append_own_string _ rfl (.tmp 24) (.tmp 25) 22 9 rfl w.heap.size 5 i0 Try.underlying22 Try.underlying9 hi hz0 hz1 hz2 _ _ _ rfl hown t rfl (by unfold maxLen; omega) (by omega) HB.out.size ?_; intro v1 w1 hown1 hgrow1 hnil1) | (at_builtin; refine wpList_append_own _ rfl (.tmp 27) (.tmp 28) 22 rfl w.heap.size 5 i0 (.int .u8 0) 1 1 Try.underlying22 hi hz0 hz1 hz2 rfl (by decide) _ _ _ rfl (hown1.alloc _) ⟨w1.heap.size, 0, none⟩ 1 1 [.int .u8 10] rfl rfl (cell_one_new _ _ _) (ints_oneCell .u8 [10]) (by unfold maxLen; omega) (by omega) (by have := hgrow1.size; have := HB.out.size; simp; omega) ?_; intro v2 w2 hown2 hgrow2 hnil2))
          have HA := Lib.hid (show accTo L (k + 1) = acc ++ t ++ ⟨#[10]⟩ by show accTo L k ++ lineAt L k ++ _ = _; rw [HT.out, HAC.out])
          go_roundw
          case rel =>
            refine ⟨k + 1, by omega, by go_num, ?_, ?_, ?_⟩
            · rw [HA.out, strCells_append, strCells_append, ByteArray.size_append, ByteArray.size_append]; exact hown2
            · intro j hj
              by_cases hjk : j = k
              · rw [hjk]; exact HO.out
              · exact HK.out j (by omega)
            · have B1 := HB.out.grown hgrow1 HB.out.size (fun q hq => (hown.lt q hq).1)
              exact (B1.alloc B1.size _).grown hgrow2 (by have := B1.size; simp; omega) (fun q hq => (hown1.lt q hq).1)
          case measure => simp [intOf]; omega
        · rw [Bool.eq_false_iff.mpr hp]
          have HO := Lib.hid (show okAt L k = false by rw [okAt, HT.out, Bool.eq_false_iff.mpr hp]; rfl)
          clear hp
          go_wp2
          go_ret2
          exact ⟨joins_bad L k hlt HO.out, HB.out⟩
      · have hb0 : decide ((20000 : Int) - (acc.size : Int) ≤ (t.size : Int)) = true := by simp; omega
        have HO := Lib.hid (show okAt L k = false by rw [okAt, HT.out, HAC.out]; simp only [hroom, decide_false, Bool.and_false])
        go_wp2
        go_ret2
        exact ⟨joins_bad L k hlt HO.out, HB.out⟩
    · obtain rfl : k = L.length := by omega
      have hconv : (convert 22 9 (.slice va acc.size vc)).run Try.prog wr = .ok (.string acc) wr := by
        rcases hown.2 with ⟨r1, r2⟩ | ⟨g, c, cur, r1, _⟩
        · rw [r1]
          have : acc = ⟨#[]⟩ := by
            apply ByteArray.ext; apply Array.eq_empty_of_size_eq_zero; exact r2
          rw [this]; exact conv_nil wr
        · rw [r1] at hown ⊢; exact conv_own hown
      go_wp2
      go_ret2
      have HJ := joins_good L HK.out
      rw [HAC.out] at HJ
      exact ⟨HJ, HB.out⟩

end Go.Proofs.Ytoaglggmjmldpaa
