/-
  impl's appendTo of the four kinds of values, by their contracts.
-/
import Derived.Test.YtbnchmlapimmdaaGreatDoorNodeV
import Derived.Test.YtbnchmlapimmdaaGreatDoorAppendC
import Derived.Test.YtbnchmlapimmdaaGreatDoorQuoteImpl
namespace Go.Proofs.YtbnchmlapimmdaaGreatDoor
open Go.RowKit
set_option linter.unusedVariables false

/-- What appendTo leaves behind a row of one's own. -/
def AppE (base : Nat) (acc p : List Cl) (w : World) (e : Ending) (w' : World) : Prop :=
  ∃ v', e = .returned v' ∧ w'.ownsRow base 27 3 v' (acc.length + p.length) (flatC (acc ++ p)) ∧ Below base w w' ∧ w.heap.size ≤ w'.heap.size
/-- A value whose appendTo appends these cells, in every world that keeps what W holds. -/
def AppOK (W : World) (u : Value) (p : List Cl) : Prop :=
  ∃ (T : TypeId) (x : Value) (K : FuncId), u = .iface T x ∧ (∀ w, (method 320 T x "loop.example/configformatter/impl.appendTo").run Tryz.prog w = .ok (K, x) w) ∧ (∀ args w, (callFunc K args).run Tryz.prog w = .ok (.enter K args) w) ∧
    ∀ (w : World) (base : Nat) (v : Value) (acc : List Cl), Below W.heap.size W w → W.heap.size ≤ base → base ≤ w.heap.size → w.ownsRow base 27 3 v acc.length (flatC acc) → acc.length + p.length ≤ 100000 →
      Calls Tryz.prog K #[x, v] w (AppE base acc p w)
theorem RowC_lit (w : World) (k m : Int) (s : ByteArray) : RowC (w.alloc (.cells #[.int .i64 k, .string s, .int .i64 m] 27)) (.slice (some ⟨w.heap.size, 0, none⟩) 1 1) [(k, s, m)] := by
  refine ⟨some ⟨w.heap.size, 0, none⟩, 1, rfl, by simp, by unfold maxLen; omega, .inr ⟨w.heap.size, 0, rfl, by simp, fun j hj => ?_⟩⟩
  obtain rfl : j = 0 := by simpa using hj
  exact ⟨(cell_of_row (w.alloc (.cells #[.int .i64 k, .string s, .int .i64 m] 27)) w.heap.size 0 _ _ (0, 0) (heap_alloc_new w _)).trans rfl, (cell_of_row (w.alloc (.cells #[.int .i64 k, .string s, .int .i64 m] 27)) w.heap.size 1 _ _ (0, 0) (heap_alloc_new w _)).trans rfl, (cell_of_row (w.alloc (.cells #[.int .i64 k, .string s, .int .i64 m] 27)) w.heap.size 2 _ _ (0, 0) (heap_alloc_new w _)).trans rfl⟩
theorem own_belowA {w w1 : World} {base : Nat} {e : TypeId} {size n : Nat} {v : Value} {xs : List Value} (h : w.ownsRow base e size v n xs) (hb : Below w.heap.size w w1) : w1.ownsRow base e size v n xs :=
  h.kept (row := none) ⟨hb.os, hb.tape, hb.output, hb.size, fun i hi _ => hb.block i hi⟩ (by cases hv : v.ownBlock with | none => exact .inl rfl | some x => exact .inr (by simp))
theorem meth_app_num (x : Value) (w : World) : (method 320 131 x "loop.example/configformatter/impl.appendTo").run Tryz.prog w = .ok (216, x) w := by kernel_rfl
theorem meth_text_num (x : Value) (w : World) : (method 320 131 x "loop.example/configformatter/impl.text").run Tryz.prog w = .ok (217, x) w := by kernel_rfl
theorem meth_app_text (x : Value) (w : World) : (method 320 132 x "loop.example/configformatter/impl.appendTo").run Tryz.prog w = .ok (218, x) w := by kernel_rfl
theorem meth_text_text (x : Value) (w : World) : (method 320 132 x "loop.example/configformatter/impl.text").run Tryz.prog w = .ok (219, x) w := by kernel_rfl
theorem meth_app_truth (x : Value) (w : World) : (method 320 133 x "loop.example/configformatter/impl.appendTo").run Tryz.prog w = .ok (221, x) w := by kernel_rfl
theorem meth_text_truth (x : Value) (w : World) : (method 320 133 x "loop.example/configformatter/impl.text").run Tryz.prog w = .ok (222, x) w := by kernel_rfl
theorem meth_app_list (x : Value) (w : World) : (method 320 81 x "loop.example/configformatter/impl.appendTo").run Tryz.prog w = .ok (209, x) w := by kernel_rfl
theorem meth_text_list (x : Value) (w : World) : (method 320 81 x "loop.example/configformatter/impl.text").run Tryz.prog w = .ok (210, x) w := by kernel_rfl

set_option maxRecDepth 100000 in
set_option maxHeartbeats 4000000 in
theorem text_num (t b : Int) (w : World) (htab : Tab w) :
    Calls Tryz.prog 217 #[.agg #[.int .i64 t, .int .i64 b]] w fun e w' => e = .returned (.string ⟨(textF t b).toArray⟩) ∧ Below w.heap.size w w' := by
  go_enter Tryz.func217, Tryz.ntmps217
  go_wp2_with fail
  refine (fractionText_impl t b _ (htab.al _)).mono ?_
  rintro e w1 ⟨rfl, hb1⟩
  have HB1 := Lib.hid (((Below.refl w.heap.size w).alloc (Nat.le_refl _) _).trans (hb1.mono (by simp))); clear hb1
  go_wp2
  go_ret
  exact ⟨rfl, HB1.out⟩

set_option maxRecDepth 100000 in
set_option maxHeartbeats 4000000 in
theorem text_truth (b : Bool) (w : World) :
    Calls Tryz.prog 222 #[.bool b] w fun e w' => e = .returned (.string (truW b)) ∧ w = w' := by
  cases b with
  | true =>
    go_enter Tryz.func222, Tryz.ntmps222
    go_wp2
    go_ret
    exact ⟨rfl, rfl⟩
  | false =>
    go_enter Tryz.func222, Tryz.ntmps222
    go_wp2
    go_ret
    exact ⟨rfl, rfl⟩

theorem rd_word (s : ByteArray) (h : rdOK s = true) : (⟨(textF (rdT s) (rdB s)).toArray⟩ : ByteArray) = s := by
  rw [rd_text s h]

set_option maxRecDepth 100000 in
set_option maxHeartbeats 4000000 in
theorem app_num (s : ByteArray) (hrd : rdOK s = true) (w : World) (base : Nat) (v : Value) (acc : List Cl) (hbase : base ≤ w.heap.size) (ho : w.ownsRow base 27 3 v acc.length (flatC acc)) (hn : acc.length + 1 ≤ 100000) (htab : Tab w) :
    Calls Tryz.prog 216 #[.agg #[.int .i64 (rdT s), .int .i64 (rdB s)], v] w (AppE base acc [(1, s, 0)] w) := by
  obtain ⟨i0, hi, hz0, hz1, hz2⟩ := info_parts infoC
  have HW := Lib.hid (rd_word s hrd)
  have HO := Lib.hid ho
  generalize rdT s = T at HW ⊢
  generalize rdB s = B at HW ⊢
  clear ho hrd
  go_enter Tryz.func216, Tryz.ntmps216
  go_wp2_with fail
  refine (text_num T B _ (htab.al _)).mono ?_
  rintro e w1 ⟨rfl, hb1⟩
  rw [HW.out]
  have HB1 := Lib.hid (((Below.refl w.heap.size w).alloc (Nat.le_refl _) _).trans (hb1.mono (by simp))); clear hb1
  have HO1 := Lib.hid (own_belowA HO.out HB1.out)
  have hs1 := HB1.out.size
  go_wp2_with (at_builtin; refine append_rowC rfl _ _ 23 rfl base 27 i0 (.agg #[.int .i64 0, .string ByteArray.empty, .int .i64 0]) 32 Tryz.underlying23 hi hz0 hz1 hz2 (by decide) v acc.length (flatC acc) rfl (HO1.out.alloc _) _ [(1, s, 0)] rfl (RowC_lit _ _ _ _) (by unfold maxLen; simp; omega) (by simp; omega) (by simp; omega) ?_)
  intro v2 w2 hown2 hgrow2
  have HO2 := Lib.hid (show w2.ownsRow base 27 3 v2 (acc.length + [((1 : Int), s, (0 : Int))].length) (flatC (acc ++ [(1, s, 0)])) by rw [flatC_append]; exact hown2)
  have HB2 := Lib.hid ((((HB1.out.mono hbase).alloc (by omega) _).grown hgrow2 (by simp; omega) (fun r hr => (HO1.out.lt r hr).1)))
  have hs2 : w.heap.size ≤ w2.heap.size := by have := hgrow2.size; simp at this; omega
  clear hown2 hgrow2
  go_wp2
  go_ret
  exact ⟨_, rfl, HO2.out, HB2.out, hs2⟩

set_option maxRecDepth 100000 in
set_option maxHeartbeats 4000000 in
theorem app_text (s : ByteArray) (w : World) (base : Nat) (v : Value) (acc : List Cl) (hbase : base ≤ w.heap.size) (ho : w.ownsRow base 27 3 v acc.length (flatC acc)) (hn : acc.length + 1 ≤ 100000) :
    Calls Tryz.prog 218 #[.string s, v] w (AppE base acc [(2, s, 0)] w) := by
  obtain ⟨i0, hi, hz0, hz1, hz2⟩ := info_parts infoC
  have HO := Lib.hid ho
  clear ho
  go_enter Tryz.func218, Tryz.ntmps218
  go_wp2_with (at_builtin; refine append_rowC rfl _ _ 23 rfl base 27 i0 (.agg #[.int .i64 0, .string ByteArray.empty, .int .i64 0]) 32 Tryz.underlying23 hi hz0 hz1 hz2 (by decide) v acc.length (flatC acc) rfl (HO.out.alloc _) _ [(2, s, 0)] rfl (RowC_lit _ _ _ _) (by unfold maxLen; simp; omega) (by simp; omega) (by simp; omega) ?_)
  intro v2 w2 hown2 hgrow2
  have HO2 := Lib.hid (show w2.ownsRow base 27 3 v2 (acc.length + [((2 : Int), s, (0 : Int))].length) (flatC (acc ++ [(2, s, 0)])) by rw [flatC_append]; exact hown2)
  have HB2 := Lib.hid ((((Below.refl base w).alloc (by omega) _).grown hgrow2 (by simp; omega) (fun r hr => (HO.out.lt r hr).1)))
  have hs2 : w.heap.size ≤ w2.heap.size := by have := hgrow2.size; simp at this; omega
  clear hown2 hgrow2
  go_wp2
  go_ret
  exact ⟨_, rfl, HO2.out, HB2.out, hs2⟩

set_option maxRecDepth 100000 in
set_option maxHeartbeats 4000000 in
theorem app_truth (b : Bool) (w : World) (base : Nat) (v : Value) (acc : List Cl) (hbase : base ≤ w.heap.size) (ho : w.ownsRow base 27 3 v acc.length (flatC acc)) (hn : acc.length + 1 ≤ 100000) :
    Calls Tryz.prog 221 #[.bool b, v] w (AppE base acc [(3, truW b, 0)] w) := by
  obtain ⟨i0, hi, hz0, hz1, hz2⟩ := info_parts infoC
  have HO := Lib.hid ho
  have HT := Lib.hid (fun w' => text_truth b w')
  generalize truW b = s at HT ⊢
  clear ho
  go_enter Tryz.func221, Tryz.ntmps221
  go_wp2_with fail
  refine (HT.out _).mono ?_
  rintro e w' ⟨rfl, rfl⟩
  go_wp2_with (at_builtin; refine append_rowC rfl _ _ 23 rfl base 27 i0 (.agg #[.int .i64 0, .string ByteArray.empty, .int .i64 0]) 32 Tryz.underlying23 hi hz0 hz1 hz2 (by decide) v acc.length (flatC acc) rfl (HO.out.alloc _) _ [(3, s, 0)] rfl (RowC_lit _ _ _ _) (by unfold maxLen; simp; omega) (by simp; omega) (by simp; omega) ?_)
  intro v2 w2 hown2 hgrow2
  have HO2 := Lib.hid (show w2.ownsRow base 27 3 v2 (acc.length + [((3 : Int), s, (0 : Int))].length) (flatC (acc ++ [(3, s, 0)])) by rw [flatC_append]; exact hown2)
  have HB2 := Lib.hid ((((Below.refl base w).alloc (by omega) _).grown hgrow2 (by simp; omega) (fun r hr => (HO.out.lt r hr).1)))
  have hs2 : w.heap.size ≤ w2.heap.size := by have := hgrow2.size; simp at this; omega
  clear hown2 hgrow2
  go_wp2
  go_ret
  exact ⟨_, rfl, HO2.out, HB2.out, hs2⟩

set_option maxRecDepth 100000 in
set_option maxHeartbeats 4000000 in
theorem app_list (W : World) (S : Nat → Prop) (x : Value) (us : List Value) (ps : List (List Cl)) (hx : RowV W S x us) (hl : us.length = ps.length) (hall : ∀ k (h : k < us.length) (h' : k < ps.length), AppOK W us[k] ps[k])
    (w : World) (base : Nat) (v : Value) (acc : List Cl) (hW : Below W.heap.size W w) (hWb : W.heap.size ≤ base) (hbase : base ≤ w.heap.size) (ho : w.ownsRow base 27 3 v acc.length (flatC acc)) (hn : acc.length + (listV ps).length ≤ 100000) :
    Calls Tryz.prog 209 #[x, v] w (AppE base acc (listV ps) w) := by
  obtain ⟨i0, hi, hz0, hz1, hz2⟩ := info_parts infoC
  have HO := Lib.hid ho; have HW := Lib.hid hW; have HALL := Lib.hid hall
  have hlen : (listV ps).length = 1 + ps.flatten.length := by simp [listV]; omega
  obtain ⟨ao, cap, rfl, h1, h2, h3⟩ := hx
  unfold maxLen at h2
  have H3 := Lib.hid h3
  have HPL := Lib.hid (show ps.length = us.length from hl.symm)
  have HLV := Lib.hid (show listV ps = (5, ⟨#[]⟩, (us.length : Int)) :: ps.flatten by rw [listV, hl])
  have HLEN := Lib.hid hlen; have HN := Lib.hid hn
  have hn0 : acc.length + 1 ≤ 100000 := by omega
  clear ho hW hall h3 hl hlen hn
  go_enter Tryz.func209, Tryz.ntmps209
  go_wp2_with (at_builtin; refine append_rowC rfl _ _ 23 rfl base 27 i0 (.agg #[.int .i64 0, .string ByteArray.empty, .int .i64 0]) 32 Tryz.underlying23 hi hz0 hz1 hz2 (by decide) v acc.length (flatC acc) rfl (HO.out.alloc _) _ [(5, ⟨#[]⟩, (us.length : Int))] rfl (RowC_lit _ _ _ _) (by unfold maxLen; simp; omega) (by simp; omega) (by simp; omega) ?_)
  intro v2 w2 hown2 hgrow2
  have HO2 := Lib.hid (show w2.ownsRow base 27 3 v2 (acc ++ [((5 : Int), (⟨#[]⟩ : ByteArray), (us.length : Int))]).length (flatC (acc ++ [(5, ⟨#[]⟩, (us.length : Int))])) by rw [flatC_append, List.length_append]; exact hown2)
  have HB2 := Lib.hid ((((Below.refl base w).alloc (by omega) _).grown hgrow2 (by simp; omega) (fun r hr => (HO.out.lt r hr).1)))
  have hs2 : w.heap.size ≤ w2.heap.size := by have := hgrow2.size; simp at this; omega
  clear hown2 hgrow2
  go_wp2_with fail
  go_loopw [1, 15] (fun a i wr => ∃ k : Nat, k ≤ us.length ∧ i = .int .i64 (k : Int) ∧ wr.ownsRow base 27 3 a ((acc ++ [((5 : Int), (⟨#[]⟩ : ByteArray), (us.length : Int))]) ++ (ps.take k).flatten).length (flatC ((acc ++ [((5 : Int), (⟨#[]⟩ : ByteArray), (us.length : Int))]) ++ (ps.take k).flatten)) ∧ Below base w wr ∧ w.heap.size ≤ wr.heap.size) (fun _ i _ => us.length - (intOf i).toNat)
  case atStart => exact ⟨0, Nat.zero_le _, rfl, by simpa using HO2.out, HB2.out, hs2⟩
  case round =>
    obtain ⟨k, hk, rfl, hown, hb, hsz⟩ := hrel
    have HOR := Lib.hid hown; have HB := Lib.hid hb
    clear hown hb
    by_cases hlt : k < us.length
    · obtain ⟨b, o, rfl, -, hbl, cc⟩ := H3.out.resolve_left (by rintro rfl; simp at hlt)
      have hWr : Below W.heap.size W wr := HW.out.trans (HB.out.mono hWb)
      have d0 : wr.cell? ⟨b, o + k, none⟩ = some us[k] := (hWr.cell (p := ⟨b, _, none⟩) hbl).trans (cc k hlt)
      have hfl : (ps.take (k + 1)).flatten = (ps.take k).flatten ++ ps[k]'(by rw [HPL.out]; exact hlt) := by
        rw [List.take_succ_eq_append_getElem (by rw [HPL.out]; exact hlt), List.flatten_append]; simp
      have hle : (ps.take (k + 1)).flatten.length ≤ ps.flatten.length := by
        conv => rhs; rw [← List.take_append_drop (k + 1) ps, List.flatten_append, List.length_append]
        omega
      obtain ⟨T, xk, K, hu, hm, heK, hK⟩ := HALL.out k hlt (by rw [HPL.out]; exact hlt)
      rw [hu] at d0
      have HK := Lib.hid (hK wr base _ _ hWr hWb (by omega) HOR.out (by rw [hfl, List.length_append] at hle; rw [List.length_append, List.length_append]; have := HLEN.out; have := HN.out; simp only [List.length_cons, List.length_nil]; omega))
      have HFL := Lib.hid hfl
      clear hfl hle hK cc
      go_wp2_with fail
      refine HK.out.mono ?_
      rintro e w3 ⟨v3, rfl, ho3, hb3, hs3⟩
      have HO3 := Lib.hid (show w3.ownsRow base 27 3 v3 ((acc ++ [((5 : Int), (⟨#[]⟩ : ByteArray), (us.length : Int))]) ++ (ps.take (k + 1)).flatten).length (flatC ((acc ++ [((5 : Int), (⟨#[]⟩ : ByteArray), (us.length : Int))]) ++ (ps.take (k + 1)).flatten)) by
        rw [HFL.out, ← List.append_assoc, List.length_append]; exact ho3)
      have HB3 := Lib.hid (HB.out.trans hb3)
      clear ho3 hb3
      go_wp2
      go_roundw
      case rel => exact ⟨k + 1, by omega, by go_num, HO3.out, HB3.out, by omega⟩
      case measure => simp [intOf]; omega
    · obtain rfl : k = us.length := by omega
      have HFA := Lib.hid (show (acc ++ [((5 : Int), (⟨#[]⟩ : ByteArray), (us.length : Int))]) ++ (ps.take us.length).flatten = acc ++ listV ps by
        rw [HLV.out, List.take_of_length_le (by rw [HPL.out]; exact Nat.le_refl _)]; simp)
      have HO3 := Lib.hid (show wr.ownsRow base 27 3 _ (acc.length + (listV ps).length) (flatC (acc ++ listV ps)) by
        have := HOR.out; rw [HFA.out, List.length_append] at this; exact this)
      go_wp2
      go_ret
      exact ⟨_, rfl, HO3.out, HB.out, hsz⟩

/-- What appendTo of a value does. -/
theorem VlS.app_ok {W : World} {S : Nat → Prop} {us : List Value} {ps : List (List Cl)} (h : VlS W S us ps) (htab : Tab W) : ∀ k (hk : k < us.length) (hk' : k < ps.length), AppOK W us[k] ps[k] := by
  refine VlS.all (P := AppOK W) ?_ ?_ ?_ ?_ h
  · intro s hs
    exact ⟨_, _, 216, rfl, fun w => meth_app_num _ w, enters_of Tryz.func216 (by kernel_rfl) rfl, fun w base v acc hW hWb hbase ho hn => app_num s hs w base v acc hbase ho hn (htab.keep hW)⟩
  · intro s hs
    exact ⟨_, _, 218, rfl, fun w => meth_app_text _ w, enters_of Tryz.func218 (by kernel_rfl) rfl, fun w base v acc hW hWb hbase ho hn => app_text s w base v acc hbase ho hn⟩
  · intro b
    exact ⟨_, _, 221, rfl, fun w => meth_app_truth _ w, enters_of Tryz.func221 (by kernel_rfl) rfl, fun w base v acc hW hWb hbase ho hn => app_truth b w base v acc hbase ho hn⟩
  · intro v us ps hv hs hall
    exact ⟨_, _, 209, rfl, fun w => meth_app_list _ w, enters_of Tryz.func209 (by kernel_rfl) rfl, fun w base v' acc hW hWb hbase ho hn => app_list W S v us ps hv hs.len hall w base v' acc hW hWb hbase ho hn⟩

end Go.Proofs.YtbnchmlapimmdaaGreatDoor
