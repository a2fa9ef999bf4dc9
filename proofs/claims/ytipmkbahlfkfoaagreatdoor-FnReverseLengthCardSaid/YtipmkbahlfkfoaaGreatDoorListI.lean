/-
  impl.readValues, valueCells, ListValue, by their contracts.
-/
import Derived.Test.YtipmkbahlfkfoaaGreatDoorBaseH
import Derived.Test.YtipmkbahlfkfoaaGreatDoorBaseI
namespace Go.Proofs.YtipmkbahlfkfoaaGreatDoor
open Go.RowKit
set_option linter.unusedVariables false

/-- What readValues leaves. -/
def ReadVs (ls : List (List Cl)) (w : World) (e : Ending) (w' : World) : Prop :=
  Below w.heap.size w w' ∧ ((∃ v us, e = .returned (.tuple #[v, .bool true]) ∧ (∀ l ∈ ls, okV l = true) ∧ RowV w' (fun b => w.heap.size ≤ b ∧ b < w'.heap.size) v us ∧ VlS w' (fun b => w.heap.size ≤ b ∧ b < w'.heap.size) us ls) ∨
    (e = .returned (.tuple #[.slice none 0 0, .bool false]) ∧ ∃ l ∈ ls, okV l = false))
/-- What its loop keeps. -/
def RInv (ls : List (List Cl)) (w : World) (a : Value) (k : Nat) (wr : World) : Prop :=
  ∃ us, (∀ l ∈ ls.take k, okV l = true) ∧ wr.ownsRow w.heap.size 67 1 a k us ∧ VlS wr (fun b => w.heap.size ≤ b ∧ a.ownBlock ≠ some b ∧ b < wr.heap.size) us (ls.take k) ∧ Below w.heap.size w wr
theorem RInv.next {ls : List (List Cl)} {w wr w1 w2 : World} {a u v' : Value} {k gg : Nat} {us : List Value} (hlt : k < ls.length) (h1 : ∀ l ∈ ls.take k, okV l = true) (ho : wr.ownsRow w.heap.size 67 1 a k us) (hv : VlS wr (fun b => w.heap.size ≤ b ∧ a.ownBlock ≠ some b ∧ b < wr.heap.size) us (ls.take k)) (hb : Below w.heap.size w wr)
    (hok : okV ls[k] = true) (hb1 : Below wr.heap.size wr w1) (hu : VlS w1 (fun b => wr.heap.size ≤ b ∧ b < w1.heap.size) [u] [ls[k]]) (o : Obj) (hgrow : (w1.alloc o).grownBy w2 a.ownBlock) (hrow : w2.ownsRow w.heap.size 67 1 v' (k + 1) (us ++ [u])) (hvb : v'.ownBlock = some gg) (hat : a.ownBlock = some gg ∨ gg = w1.heap.size + 1) :
    RInv ls w v' (k + 1) w2 := by
  have hs1 := hb1.size
  have hbs := hb.size
  have hs2 : w1.heap.size + 1 ≤ w2.heap.size := by have := hgrow.size; simpa using this
  have hal : ∀ x, a.ownBlock = some x → w.heap.size ≤ x ∧ x < wr.heap.size := fun x hx => ho.lt x hx
  have hw2 : ∀ b, b < w1.heap.size → a.ownBlock ≠ some b → w2.heap[b]? = w1.heap[b]? := fun b hb hne => by
    rw [hgrow.block b (by simp; omega) (fun e => hne e.symm), Below.heap_alloc _ _ _ hb]
  refine ⟨us ++ [u], ?_, hrow, ?_, ?_⟩
  · intro l hl
    rw [List.take_succ_eq_append_getElem hlt, List.mem_append, List.mem_singleton] at hl
    rcases hl with hl | rfl
    · exact h1 l hl
    · exact hok
  · rw [List.take_succ_eq_append_getElem hlt]
    refine VlS.app (hv.keep ?_ ?_ (by omega)) (hu.keep ?_ ?_ (by omega))
    · rintro b ⟨q1, q2, q3⟩ -
      rw [hw2 b (by omega) q2, hb1.block b q3]
    · rintro b ⟨q1, q2, q3⟩ -
      refine ⟨q1, fun he => ?_, by omega⟩
      rw [hvb] at he
      injection he with he
      subst he
      rcases hat with hat | hat
      · exact q2 hat
      · omega
    · rintro b ⟨q1, q2⟩ -
      exact hw2 b q2 (fun e => by have := hal b e; omega)
    · rintro b ⟨q1, q2⟩ -
      refine ⟨by omega, fun he => ?_, by omega⟩
      rw [hvb] at he
      injection he with he
      subst he
      rcases hat with hat | hat
      · have := hal _ hat; omega
      · omega
  · exact ((hb.trans (hb1.mono hbs)).alloc (by omega) o).grown hgrow (by simp; omega) (fun x hx => (hal x hx).1)
theorem RInv.done {ls : List (List Cl)} {w wr : World} {a : Value} (h : RInv ls w a ls.length wr) : ReadVs ls w (.returned (.tuple #[a, .bool true])) wr := by
  obtain ⟨us, h1, ho, hv, hb⟩ := h
  rw [List.take_of_length_le (Nat.le_refl _)] at h1 hv
  have hul := hv.len
  refine ⟨hb, .inl ⟨a, us, rfl, h1, ?_, hv.keep (fun _ _ _ => rfl) (fun b hb _ => ⟨hb.1, hb.2.2⟩) (Nat.le_refl _)⟩⟩
  rcases ho.2 with ⟨rfl, h0⟩ | ⟨g, cap, cur, rfl, hg, hh, q1, q2, _⟩
  · exact ⟨none, 0, by rw [hul, h0], by omega, by unfold maxLen; omega, .inl (List.length_eq_zero_iff.mp (by omega))⟩
  · refine ⟨_, cap, by rw [hul], by omega, q2, .inr ⟨g, 0, rfl, ⟨hg, (ho.lt g rfl).2⟩, (ho.lt g rfl).2, fun k hk => ?_⟩⟩
    rw [Nat.zero_add, ho.cellAt k (by omega), List.getElem?_eq_getElem hk]

set_option maxRecDepth 100000 in
set_option maxHeartbeats 4000000 in
theorem readValues_any (v : Value) (ls : List (List Cl)) (w : World) (hr : RowLs w v ls) (hz : ∀ l ∈ ls, ShortC l) (h8 : ls.length ≤ 1048576) (htab : Tab w) :
    Calls Tryz.prog 43 #[v] w (ReadVs ls w) := by
  obtain ⟨j0, hj, hy0, hy1, hy2⟩ := info_parts infoV
  have HR := Lib.hid hr; have HZ := Lib.hid hz
  obtain ⟨ao, cap, rfl, h1, h2, h3⟩ := hr
  unfold maxLen at h2
  have H3 := Lib.hid h3
  clear h3 hz
  go_enter Tryz.func43, Tryz.ntmps43
  go_wp2_with fail
  go_loopw [4, 10] (fun a i wr => ∃ k : Nat, k ≤ ls.length ∧ i = .int .i64 (k : Int) ∧ RInv ls w a k wr) (fun _ i _ => ls.length - (intOf i).toNat)
  case atStart => exact ⟨0, Nat.zero_le _, rfl, [], fun l h => by simp at h, World.ownsRow_nil _ _ _ _, by rw [List.take_zero]; exact .nil, Below.refl _ _⟩
  case round =>
    obtain ⟨k, hk, rfl, hinv⟩ := hrel
    have HINV := Lib.hid hinv; clear hinv
    by_cases hlt : k < ls.length
    · obtain ⟨us, q1, q2, q3, q4⟩ := HINV.out
      obtain ⟨aa, ac, rfl⟩ := own_shape q2
      obtain ⟨b, o, rfl, hbl, cc⟩ := H3.out.resolve_left (by rintro rfl; simp at hlt)
      obtain ⟨u, c0, hru⟩ := cc k hlt
      have d0 : wr.cell? ⟨b, o + k, none⟩ = some u := (q4.cell (p := ⟨b, _, none⟩) hbl).trans c0
      have HRU := Lib.hid (hru.mono q4)
      have HZK := Lib.hid (HZ.out _ (List.getElem_mem hlt))
      have HRV := Lib.hid (readValue_any u ls[k] wr HRU.out HZK.out (htab.keep q4))
      have Q2 := Lib.hid q2; have Q4 := Lib.hid q4
      have hbs := q4.size
      have HNO := Lib.hid (show okV ls[k] = false → ∃ l ∈ ls, okV l = false from fun h => ⟨_, List.getElem_mem hlt, h⟩)
      have HNX := Lib.hid (fun w1 w2 u v' gg hok hb1 hu o hgrow hrow hvb hat => RInv.next (ls := ls) (w := w) (wr := wr) (w1 := w1) (w2 := w2) (a := .slice aa k ac) (u := u) (v' := v') (gg := gg) hlt q1 q2 q3 q4 hok hb1 hu o hgrow hrow hvb hat)
      clear cc c0 hru q1 q2 q3 q4 HINV
      go_wp2_with fail
      refine HRV.out.mono ?_
      rintro e w1 ⟨hb1, ⟨T, x, rfl, hok, hv⟩ | ⟨rfl, hno⟩⟩
      · have HOK := Lib.hid hok; have HV := Lib.hid hv; have HB1 := Lib.hid hb1
        have hown6 := own_keep Q2.out (fun x hx => hb1.block x (Q2.out.lt x hx).2)
        have hs1 := hb1.size
        clear hok hv hb1
        go_wp2_with (at_builtin; refine wpList_append_lies _ rfl _ _ 58 rfl w.heap.size 67 j0 .nilIface 1 16 Tryz.underlying58 hj hy0 hy1 hy2 rfl (by decide) (.slice aa k ac) k us rfl (hown6.alloc _) ⟨w1.heap.size, 0, none⟩ 1 1 [.iface T x] rfl rfl (World.news_of_block (heap_alloc_new w1 _)) (by simp [Value.oneCell']) (by omega) (by unfold maxLen; omega) (by omega) (by simp; omega) (w1.heap.size + 1) (by simp) ?_; intro gg cap' w6 hown' hgrow hat hlt'; have HN := Lib.hid (HNX.out w1 w6 _ _ gg HOK.out HB1.out HV.out _ hgrow hown' rfl hat); clear hown' hgrow hat)
        go_roundw
        case rel => exact ⟨k + 1, by omega, by go_num, HN.out⟩
        case measure => simp [intOf]; omega
      · have HN := Lib.hid (HNO.out hno)
        have HB1 := Lib.hid (Q4.out.trans (hb1.mono hbs))
        clear hno hb1
        go_wp2
        exact bodyPost_ret (v := .tuple #[.slice none 0 0, .bool false]) (by simp [results, Tryz.results43, go_sem]) rfl ⟨HB1.out, .inr ⟨rfl, HN.out⟩⟩
    · obtain rfl : k = ls.length := by omega
      have HD := Lib.hid HINV.out.done
      go_wp2
      exact bodyPost_ret (v := .tuple #[_, .bool true]) (by simp [results, Tryz.results43, go_sem]) rfl HD.out

set_option maxRecDepth 100000 in
set_option maxHeartbeats 4000000 in
theorem valueCells_any (x : Value) (ls : List (List Cl)) (w : World) (happ : AppOK w (.iface 86 x) (listV ls)) (hz : ShortC (listV ls)) (hlen : (listV ls).length ≤ 1000) (htab : Tab w) :
    Calls Tryz.prog 45 #[.iface 86 x] w fun e w' => ∃ v, e = .returned (.tuple #[v, .bool (okV (listV ls))]) ∧ w'.ownsRow w.heap.size 39 3 v (oneR ls).length (flatC (oneR ls)) ∧ Below w.heap.size w w' := by
  obtain ⟨T, x', K, hu, hm, heK, hK⟩ := happ
  simp only [Value.iface.injEq] at hu
  obtain ⟨rfl, rfl⟩ := hu
  have HK := Lib.hid (hK w w.heap.size (.slice none 0 0) [] (Below.refl _ _) (Nat.le_refl _) (Nat.le_refl _) (World.ownsRow_nil _ _ _ _) (by simp; omega))
  have HZ := Lib.hid hz
  clear hK hz
  cases hok : okV (listV ls) with
  | true =>
    have HOK := Lib.hid hok
    have HR1 := Lib.hid (show oneR ls = listV ls by rw [oneR, if_pos hok])
    clear hok
    go_enter Tryz.func45, Tryz.ntmps45
    go_wp2_with fail
    refine HK.out.mono ?_
    rintro e w1 ⟨v1, rfl, ho1, hb1, hs1⟩
    have HO1 := Lib.hid (show w1.ownsRow w.heap.size 39 3 v1 (listV ls).length (flatC (listV ls)) by simpa using ho1)
    have HB1 := Lib.hid hb1
    clear ho1 hb1
    go_wp2_with fail
    refine (valueValid_impl v1 (listV ls) _ (RowC.of_own HO1.out).1 HZ.out (htab.keep HB1.out)).mono ?_
    rintro e w2 ⟨rfl, hb2⟩
    rw [HOK.out]
    have HO2 := Lib.hid (own_belowA HO1.out hb2)
    have HB2 := Lib.hid (HB1.out.trans (hb2.mono HB1.out.size)); clear hb2
    go_wp2
    exact bodyPost_ret (v := .tuple #[v1, .bool true]) (by simp [results, Tryz.results45, go_sem]) rfl ⟨v1, rfl, by rw [HR1.out]; exact HO2.out, HB2.out⟩
  | false =>
    have HOK := Lib.hid hok
    have HR1 := Lib.hid (show oneR ls = [] by rw [oneR, if_neg (by rw [hok]; decide)])
    clear hok
    go_enter Tryz.func45, Tryz.ntmps45
    go_wp2_with fail
    refine HK.out.mono ?_
    rintro e w1 ⟨v1, rfl, ho1, hb1, hs1⟩
    have HO1 := Lib.hid (show w1.ownsRow w.heap.size 39 3 v1 (listV ls).length (flatC (listV ls)) by simpa using ho1)
    have HB1 := Lib.hid hb1
    clear ho1 hb1
    go_wp2_with fail
    refine (valueValid_impl v1 (listV ls) _ (RowC.of_own HO1.out).1 HZ.out (htab.keep HB1.out)).mono ?_
    rintro e w2 ⟨rfl, hb2⟩
    rw [HOK.out]
    have HB2 := Lib.hid (HB1.out.trans (hb2.mono HB1.out.size)); clear hb2
    go_wp2
    exact bodyPost_ret (v := .tuple #[.slice none 0 0, .bool false]) (by simp [results, Tryz.results45, go_sem]) rfl ⟨_, rfl, by rw [HR1.out]; exact World.ownsRow_nil _ _ _ _, HB2.out⟩


end Go.Proofs.YtipmkbahlfkfoaaGreatDoor
