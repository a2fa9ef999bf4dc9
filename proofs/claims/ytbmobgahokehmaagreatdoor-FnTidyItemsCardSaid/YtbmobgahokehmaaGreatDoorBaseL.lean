/-
  Several texts of the proof in one file: OpenCells, ToCell, ToCellS, Mark, MarkC, EqCellS.
-/
import Derived.Test.YtbmobgahokehmaaGreatDoorBaseE
import Derived.Deep.Slices
import Derived.Deep.Strs
import Derived.Deep.Fields
import Derived.ChangeSame
import Derived.Test.YtbmobgahokehmaaGreatDoorBaseA
import Derived.Deep.RegionHeld3
import Derived.RegionTactic
import Derived.Deep.DrawnRows
import Derived.Laws.OwnMore
import Derived.Laws.Rows
import Derived.Test.YtbmobgahokehmaaGreatDoorBaseX
import Derived.Test.YtbmobgahokehmaaGreatDoorRows
import Derived.WalkKit
import Derived.WalkSpells
import Derived.Lib.Hide
import Derived.Laws.BytesArg
/-
  How an argument that is a slice of cells is opened.
-/
namespace Go.Proofs.YtbmobgahokehmaaGreatDoor
open Go.RowKit Go.ChangeShapes Go.WideShapes Go.Deep
set_option linter.unusedVariables false

set_option maxRecDepth 100000 in
theorem open_cells {H : Type} {enc : TypeId × Value → H} {w : World} {base : Nat} {spare : Nat → Bool} {held : Bool} {fuel : Nat} {cs : List Value} {x : DataW H × List MemPlace}
    (h : DataW.trod enc Tryz.prog w base spare held fuel 38 cs = some x) :
    cs = [.slice none 0 0] ∨ ∃ (a : Addr) (len cap : Nat) (f : Nat → Cl), cs = [.slice (some a) len cap] ∧ len ≤ cap ∧ cap ≤ maxLen ∧
      ∀ i, i < len → w.cell? (a.add (i * 3)) = some (.int .i64 (f i).1) ∧ w.cell? (a.add (i * 3 + 1)) = some (.string (f i).2.1) ∧ w.cell? (a.add (i * 3 + 2)) = some (.int .i64 (f i).2.2) ∧ (f i).2.1.size ≤ maxLen := by
  have hC : Tryz.prog.cellsOf 90 = 3 := by kernel_rfl
  rcases open_slice Tryz.underlying38 h with ⟨h0, -⟩ | ⟨a, len, cap, m, n, D, Pl, hcs, hb, hl, hm, hmm, hx, hi⟩
  · exact .inl h0
  · refine .inr ⟨a, len, cap, ?_⟩
    have key : ∀ i, ∃ c : Cl, i < len → w.cell? (a.add (i * 3)) = some (.int .i64 c.1) ∧ w.cell? (a.add (i * 3 + 1)) = some (.string c.2.1) ∧ w.cell? (a.add (i * 3 + 2)) = some (.int .i64 c.2.2) ∧ c.2.1.size ≤ maxLen := by
      intro i
      by_cases hil : i < len
      · have him : i < m := by rw [hmm]; split <;> omega
        obtain ⟨cs', hc, ht'⟩ := hi i him
        rw [hC] at hc
        obtain ⟨y0, y1, y2, n', -, hlen, g0, g1, g2⟩ := trod_struct3 Tryz.underlying90 ht'
        rw [hC] at hlen
        obtain ⟨_, -, hat⟩ := World.cells?_some hc
        match cs', hlen with
        | [z0, z1, z2], _ =>
          obtain ⟨k, e0, -, -⟩ := DataW.trod_int Tryz.underlying3 g0
          obtain ⟨s, e1, -, hz⟩ := DataW.trod_string Tryz.underlying9 g1
          obtain ⟨q, e2, -, -⟩ := DataW.trod_int Tryz.underlying3 g2
          have r0 : z0 = .int .i64 k := by
            have : ([z0, z1, z2].drop 0).take (Tryz.prog.cellsOf 3) = [z0] := by rw [show Tryz.prog.cellsOf 3 = 1 by kernel_rfl]; rfl
            rw [this] at e0; simpa using e0
          have r1 : z1 = .string s := by
            have : ([z0, z1, z2].drop 1).take (Tryz.prog.cellsOf 9) = [z1] := by rw [show Tryz.prog.cellsOf 9 = 1 by kernel_rfl]; rfl
            rw [this] at e1; simpa using e1
          have r2 : z2 = .int .i64 q := by
            have : ([z0, z1, z2].drop 2).take (Tryz.prog.cellsOf 3) = [z2] := by rw [show Tryz.prog.cellsOf 3 = 1 by kernel_rfl]; rfl
            rw [this] at e2; simpa using e2
          refine ⟨(k, s, q), fun _ => ?_⟩
          have h0 := hat 0 (by omega); have h1 := hat 1 (by omega); have h2 := hat 2 (by omega)
          simp only [List.getElem?_cons_zero, List.getElem?_cons_succ, r0, r1, r2] at h0 h1 h2
          rw [Go.Deep.add_add] at h0 h1 h2
          exact ⟨h0, h1, h2, hz⟩
      · exact ⟨(0, ByteArray.empty, 0), fun h => absurd h hil⟩
    refine ⟨fun i => (key i).choose, hcs, hl, hm, fun i hil => (key i).choose_spec hil⟩

end Go.Proofs.YtbmobgahokehmaaGreatDoor

/-
  laws.szCell, toCell, eqCell, and the same for slices: szCellS, toCellS, eqCellS.
-/
namespace Go.Proofs.YtbmobgahokehmaaGreatDoor
open Go.RowKit
set_option linter.unusedVariables false

set_option maxRecDepth 100000 in
set_option maxHeartbeats 2000000 in
theorem szCell_any (k m : Int) (s : ByteArray) (n : Int) (w : World) (hs : s.size ≤ maxLen) (hn0 : 0 ≤ n) (hn1 : n ≤ 1048576) :
    Calls Tryz.prog 80 #[.agg #[.int .i64 k, .string s, .int .i64 m], .int .i64 n] w fun e w' => e = .returned (.int .i64 (if (s.size : Int) ≤ n then n - s.size else -1)) ∧ Below w.heap.size w w' := by
  unfold maxLen at hs
  by_cases h : (s.size : Int) ≤ n
  · rw [if_pos h]
    go_enter Tryz.func80, Tryz.ntmps80
    go_wp2
    go_ret
    exact ⟨rfl, (Below.refl _ _).alloc (Nat.le_refl _) _⟩
  · rw [if_neg h]
    go_enter Tryz.func80, Tryz.ntmps80
    go_wp2
    go_ret
    exact ⟨rfl, (Below.refl _ _).alloc (Nat.le_refl _) _⟩

set_option maxRecDepth 100000 in
set_option maxHeartbeats 2000000 in
theorem toCell_any (k m : Int) (s : ByteArray) (w : World) :
    Calls Tryz.prog 81 #[.agg #[.int .i64 k, .string s, .int .i64 m]] w fun e w' => e = .returned (.agg #[.int .i64 k, .string s, .int .i64 m]) ∧ Below w.heap.size w w' := by
  go_enter Tryz.func81, Tryz.ntmps81
  go_wp2
  exact bodyPost_ret (v := .agg #[.int .i64 k, .string s, .int .i64 m]) (by simp [results, Tryz.results81, go_sem]) rfl ⟨rfl, by (repeat' (first | exact Below.refl _ _ | refine Below.setCell ?_ ?_ _ | refine Below.alloc ?_ ?_ _)) <;> first | exact Nat.le_refl _ | (simp; done) | (simp; omega)⟩

end Go.Proofs.YtbmobgahokehmaaGreatDoor

/-
  laws.szCellS, toCellS, eqCellS, by their contracts.
-/
namespace Go.Proofs.YtbmobgahokehmaaGreatDoor
open Go.RowKit
set_option linter.unusedVariables false

/-- What is left; below 0 if it is not enough. -/
def SzC (n : Int) (l : List Cl) (e : Ending) : Prop :=
  ∃ m : Int, e = .returned (.int .i64 m) ∧ (0 ≤ m → (l.length : Int) ≤ n ∧ ∀ c ∈ l, (c.2.1.size : Int) ≤ n)
/-- The same, and how much is left at most. -/
def SzL (n : Int) (l : List Cl) (e : Ending) : Prop :=
  ∃ m : Int, e = .returned (.int .i64 m) ∧ (0 ≤ m → m + (l.length : Int) ≤ n ∧ ∀ c ∈ l, (c.2.1.size : Int) ≤ n)

set_option maxRecDepth 100000 in
set_option maxHeartbeats 2000000 in
theorem szCellS_left (v : Value) (l : List Cl) (n : Int) (w : World) (hr : RowC w v l) (hz : SizedC l) (hn0 : 0 ≤ n) (hn1 : n ≤ 1048576) :
    Calls Tryz.prog 54 #[v, .int .i64 n] w fun e w' => SzL n l e ∧ Below w.heap.size w w' := by
  obtain ⟨ao, cap, rfl, h1, h2, h3⟩ := hr
  unfold maxLen at h2
  have H3 := Lib.hid h3; have HZ := Lib.hid hz; clear h3 hz
  by_cases hl : (l.length : Int) ≤ n
  · go_enter Tryz.func54, Tryz.ntmps54
    go_wp2
    go_loopw [1, 5] (fun a i wr => ∃ (k : Nat) (m : Int), k ≤ l.length ∧ i = .int .i64 k ∧ a = .int .i64 m ∧ 0 ≤ m ∧ m + (l.length : Int) ≤ n ∧ (∀ c ∈ l.take k, (c.2.1.size : Int) ≤ n) ∧ Below w.heap.size w wr) (fun _ i _ => l.length - (intOf i).toNat)
    case atStart => exact ⟨0, _, Nat.zero_le _, rfl, rfl, by omega, by omega, fun c hc => by simp at hc, Below.refl _ _⟩
    case round =>
      obtain ⟨k, m, hk, rfl, rfl, hm0, hm1, hall, hb⟩ := hrel
      have HA := Lib.hid hall; have HB := Lib.hid hb; clear hall hb
      by_cases hlt : k < l.length
      · obtain ⟨b, o, rfl, hbl, cc⟩ := H3.out.resolve_left (by rintro rfl; simp at hlt)
        obtain ⟨c0, c1, c2⟩ := cc k hlt
        have d0 : wr.cell? ⟨b, o + k * 3, none⟩ = some (.int .i64 l[k].1) := (HB.out.cell (p := ⟨b, _, none⟩) hbl).trans c0
        have d1 : wr.cell? ⟨b, o + k * 3 + 1, none⟩ = some (.string l[k].2.1) := (HB.out.cell (p := ⟨b, _, none⟩) hbl).trans c1
        have d2 : wr.cell? ⟨b, o + k * 3 + 2, none⟩ = some (.int .i64 l[k].2.2) := (HB.out.cell (p := ⟨b, _, none⟩) hbl).trans c2
        have hzk : l[k].2.1.size ≤ maxLen := HZ.out _ (List.getElem_mem _)
        have HT := Lib.hid (List.take_succ_eq_append_getElem hlt)
        have HE := Lib.hid (show l[k] = (l[k].1, l[k].2.1, l[k].2.2) from rfl)
        have HQ := Lib.hid (show ∀ c ∈ [l[k]], (c.2.1.size : Int) ≤ n ↔ (l[k].2.1.size : Int) ≤ n by simp)
        have HNX := Lib.hid (show (l[k].2.1.size : Int) ≤ n → ∀ c ∈ l.take (k + 1), (c.2.1.size : Int) ≤ n by
          intro h c hc
          rw [HT.out, List.mem_append] at hc
          rcases hc with hc | hc
          · exact HA.out c hc
          · rw [List.mem_singleton] at hc; rw [hc]; exact h)
        clear HQ HE HT
        generalize l[k].1 = kk at d0
        generalize l[k].2.1 = ss at d1 hzk HNX
        generalize l[k].2.2 = mm at d2
        have HZK := Lib.hid hzk
        clear cc c0 c1 c2 hzk
        go_wp2_with fail
        refine (szCell_any kk mm ss m _ HZK.out hm0 (by omega)).mono ?_
        rintro e w1 ⟨rfl, hb1⟩
        have HB1 := Lib.hid (HB.out.trans (hb1.mono HB.out.size)); clear hb1
        by_cases hr : (ss.size : Int) ≤ m
        · rw [if_pos hr]
          have r0 : 0 ≤ m - (ss.size : Int) := by omega
          have r1 : m - (ss.size : Int) + (l.length : Int) ≤ n := by omega
          generalize m - (ss.size : Int) = q at r0 r1
          go_wp2
          go_roundw
          case rel => exact ⟨k + 1, q, by omega, by go_num, rfl, r0, r1, HNX.out (by omega), HB1.out⟩
          case measure => simp [intOf]; omega
        · rw [if_neg hr]
          go_wp2
          go_ret
          exact ⟨⟨-1, rfl, by omega⟩, HB1.out⟩
      · obtain rfl : k = l.length := by omega
        have HAL := Lib.hid (show ∀ c ∈ l, (c.2.1.size : Int) ≤ n by have := HA.out; rwa [List.take_of_length_le (Nat.le_refl _)] at this)
        go_wp2
        go_ret
        exact ⟨⟨m, rfl, fun _ => ⟨hm1, HAL.out⟩⟩, HB.out⟩
  · go_enter Tryz.func54, Tryz.ntmps54
    go_wp2
    go_ret
    exact ⟨⟨-1, rfl, by omega⟩, Below.refl _ _⟩

theorem szCellS_any (v : Value) (l : List Cl) (n : Int) (w : World) (hr : RowC w v l) (hz : SizedC l) (hn0 : 0 ≤ n) (hn1 : n ≤ 1048576) :
    Calls Tryz.prog 54 #[v, .int .i64 n] w fun e w' => SzC n l e ∧ Below w.heap.size w w' :=
  (szCellS_left v l n w hr hz hn0 hn1).mono fun e w' ⟨⟨m, he, h⟩, hb⟩ => ⟨⟨m, he, fun h0 => ⟨by have := (h h0).1; omega, (h h0).2⟩⟩, hb⟩

/-- The first k cells are filled. -/
def filledC (l : List Cl) (M : List Value) (k : Nat) : List Value := flatC (l.take k) ++ M.drop (k * 3)
theorem filledC_length (l : List Cl) (M : List Value) (k : Nat) (hk : k ≤ l.length) (hM : M.length = l.length * 3) : (filledC l M k).length = l.length * 3 := by
  rw [filledC, List.length_append, flatC_length, List.length_take, List.length_drop]; omega
theorem set3 (A B : List Value) (n : Nat) (hA : A.length = n) (x y z a b c : Value) : (((A ++ x :: y :: z :: B).set n a).set (n + 1) b).set (n + 2) c = A ++ a :: b :: c :: B := by
  subst hA
  rw [List.set_append_right _ _ (Nat.le_refl _), Nat.sub_self, List.set_cons_zero, List.set_append_right _ _ (by omega), show A.length + 1 - A.length = 1 by omega, List.set_cons_succ, List.set_cons_zero,
    List.set_append_right _ _ (by omega), show A.length + 2 - A.length = 2 by omega, List.set_cons_succ, List.set_cons_succ, List.set_cons_zero]
theorem filledC_next (l : List Cl) (M : List Value) (k : Nat) (hk : k < l.length) (hM : M.length = l.length * 3) :
    (((filledC l M k).set (k * 3) (.int .i64 l[k].1)).set (k * 3 + 1) (.string l[k].2.1)).set (k * 3 + 2) (.int .i64 l[k].2.2) = filledC l M (k + 1) := by
  have hA : (flatC (l.take k)).length = k * 3 := by rw [flatC_length, List.length_take]; omega
  have hd : M.drop (k * 3) = M[k * 3]'(by omega) :: M[k * 3 + 1]'(by omega) :: M[k * 3 + 2]'(by omega) :: M.drop (k * 3 + 3) := by
    rw [List.drop_eq_getElem_cons (by omega), List.drop_eq_getElem_cons (i := k * 3 + 1) (by omega), List.drop_eq_getElem_cons (i := k * 3 + 1 + 1) (by omega)]
  rw [filledC, hd, set3 _ _ _ hA, filledC, List.take_succ_eq_append_getElem hk, flatC_append, show (k + 1) * 3 = k * 3 + 3 by omega, List.append_assoc]
  rfl

set_option maxRecDepth 100000 in
set_option maxHeartbeats 4000000 in
theorem toCellS_any (v : Value) (l : List Cl) (w : World) (hr : RowC w v l) (hl : l.length ≤ 1048576) :
    Calls Tryz.prog 55 #[v] w (NewCells l w) := by
  obtain ⟨i0, hi, hz0, hz1, hz2⟩ := info_parts infoC
  obtain ⟨ao, cap, rfl, h1, h2, h3⟩ := hr
  unfold maxLen at h2
  have H3 := Lib.hid h3; clear h3
  have hby : i0.bytes * l.length ≤ 281474976710656 := by rw [hz2]; omega
  go_enter Tryz.func55, Tryz.ntmps55
  go_wp2_with (at_make; refine wpList_make_full _ rfl _ _ 23 rfl w.heap.size 82 i0 (.agg #[.int .i64 0, .string ByteArray.empty, .int .i64 0]) 3 Tryz.underlying23 hi hz0 hz1 .i64 .i64 (l.length : Int) (l.length : Int) l.length rfl rfl rfl rfl hby (by unfold maxLen; omega) (Nat.le_refl _) ?_; intro w1 hown1 hgrow1)
  have hM : (madeCells (Value.agg #[.int .i64 0, .string ByteArray.empty, .int .i64 0]).cells (l.length * 3)).toList.length = l.length * 3 := by have := hown1.1; omega
  generalize (madeCells (Value.agg #[.int .i64 0, .string ByteArray.empty, .int .i64 0]).cells (l.length * 3)).toList = M at hown1 hM
  have B1 := Lib.hid ((Below.refl w.heap.size w).grown hgrow1 (Nat.le_refl _) (by simp))
  have HM := Lib.hid hM
  have O1 := Lib.hid hown1
  clear hgrow1 hM hown1 hby
  go_wp2_with fail
  go_loopw [4] (fun i wr => ∃ k : Nat, k ≤ l.length ∧ i = .int .i64 k ∧ wr.ownsRow w.heap.size 82 3 (.slice (some ⟨w.heap.size, 0, none⟩) l.length l.length) l.length (filledC l M k) ∧ Below w.heap.size w wr) (fun i _ => l.length - (intOf i).toNat)
  case atStart => exact ⟨0, Nat.zero_le _, rfl, by have := O1.out; simpa [filledC, flatC] using this, B1.out⟩
  case round =>
    obtain ⟨k, hk, rfl, hown, hb⟩ := hrel
    have HO := Lib.hid hown; have HB := Lib.hid hb
    clear hown hb
    by_cases hlt : k < l.length
    · obtain ⟨b, o, rfl, hbl, cc⟩ := H3.out.resolve_left (by rintro rfl; simp at hlt)
      obtain ⟨c0, c1, c2⟩ := cc k hlt
      have d0 : wr.cell? ⟨b, o + k * 3, none⟩ = some (.int .i64 l[k].1) := (HB.out.cell (p := ⟨b, _, none⟩) hbl).trans c0
      have d1 : wr.cell? ⟨b, o + k * 3 + 1, none⟩ = some (.string l[k].2.1) := (HB.out.cell (p := ⟨b, _, none⟩) hbl).trans c1
      have d2 : wr.cell? ⟨b, o + k * 3 + 2, none⟩ = some (.int .i64 l[k].2.2) := (HB.out.cell (p := ⟨b, _, none⟩) hbl).trans c2
      have HNX := Lib.hid (filledC_next l M k hlt HM.out)
      generalize hC : l[k] = c at d0 d1 d2 HNX
      obtain ⟨kk, ss, mm⟩ := c
      simp only at d0 d1 d2 HNX
      clear cc c0 c1 c2 hC
      go_wp2_with fail
      refine (toCell_any kk mm ss _).mono ?_
      rintro e w2 ⟨rfl, hb2⟩
      have hgb : wr.grownBy w2 none := ⟨hb2.os, hb2.tape, hb2.output, hb2.size, fun i hi _ => hb2.block i hi⟩
      have HO2 := Lib.hid (HO.out.kept hgb (.inr (by simp [Value.ownBlock])))
      have HB2 := Lib.hid (HB.out.trans (hb2.mono HB.out.size))
      clear hgb hb2
      have hfl := filledC_length l M k (by omega) HM.out
      have cc : ∀ j, j < l.length * 3 → ∃ u, w2.cell? ⟨w.heap.size, j, none⟩ = some u := by
        intro j hj
        rw [HO2.out.cellAt j hj, List.getElem?_eq_getElem (by omega)]; exact ⟨_, rfl⟩
      obtain ⟨u0, g0⟩ := cc (k * 3) (by omega)
      obtain ⟨u1, g1⟩ := cc (k * 3 + 1) (by omega)
      obtain ⟨u2, g2⟩ := cc (k * 3 + 2) (by omega)
      have z0 := HO2.out.frozenAt (k * 3)
      have z1 := HO2.out.frozenAt (k * 3 + 1)
      have z2 := HO2.out.frozenAt (k * 3 + 2)
      have S1 := Lib.hid (HO2.out.stored (k * 3) (.int .i64 kk))
      have S2 := Lib.hid (S1.out.1.stored (k * 3 + 1) (.string ss))
      have S3 := Lib.hid (S2.out.1.stored (k * 3 + 2) (.int .i64 mm))
      have T3 := Lib.hid (show _ from HNX.out ▸ S3.out.1)
      have B3 := Lib.hid (((HB2.out.setCell (p := ⟨w.heap.size, k * 3, none⟩) (Nat.le_refl _) (.int .i64 kk)).setCell (p := ⟨w.heap.size, k * 3 + 1, none⟩) (Nat.le_refl _) (.string ss)).setCell (p := ⟨w.heap.size, k * 3 + 2, none⟩) (Nat.le_refl _) (.int .i64 mm))
      clear S1 S2 S3 cc hfl
      go_wp2
      go_roundw
      case rel => exact ⟨k + 1, by omega, by go_num, T3.out, B3.out⟩
      case measure => simp [intOf]; omega
    · obtain rfl : k = l.length := by omega
      have HN := Lib.hid (show filledC l M l.length = flatC l by rw [filledC, List.take_of_length_le (Nat.le_refl _), List.drop_eq_nil_of_le (by rw [HM.out]; exact Nat.le_refl _), List.append_nil])
      go_wp2
      go_ret
      exact ⟨_, rfl, by rw [← HN.out]; exact HO.out, HB.out⟩

set_option maxRecDepth 100000 in
set_option maxHeartbeats 2000000 in
theorem eqCell_same (k m : Int) (s : ByteArray) (w : World) :
    Calls Tryz.prog 82 #[.agg #[.int .i64 k, .string s, .int .i64 m], .agg #[.int .i64 k, .string s, .int .i64 m]] w fun e w' => e = .returned (.bool true) ∧ Below w.heap.size w w' := by
  have n1 : (k != k) = false := by simp
  have n2 : (!(s.toList == s.toList)) = false := by simp
  have n3 : (m != m) = false := by simp
  go_enter Tryz.func82, Tryz.ntmps82
  go_wp2
  go_ret
  exact ⟨rfl, ((Below.refl _ w).alloc (Nat.le_refl _) _).alloc (by simp) _⟩

end Go.Proofs.YtbmobgahokehmaaGreatDoor

/-
  laws.markText, by its contract: the text of a mark is a function of its number.
-/
namespace Go.Proofs.YtbmobgahokehmaaGreatDoor
open Go.RowKit
set_option linter.unusedVariables false

/-- Decimal digits, ahead of what is there. -/
def digs : Nat → Nat → List UInt8 → List UInt8
  | 0, _, acc => acc
  | f + 1, n, acc => if n = 0 then acc else digs f (n / 10) ((48 + UInt8.ofNat (n % 10)) :: acc)
theorem digs_zero (f : Nat) (acc : List UInt8) : digs f 0 acc = acc := by cases f <;> simp [digs]
/-- The text of a mark. -/
def markB (k : Nat) : ByteArray := if k = 0 then ⟨#[109, 48]⟩ else ⟨#[109]⟩ ++ ⟨(digs k k []).toArray⟩

theorem convOne (w : World) (C : Int) : (convert 22 9 (.slice (some ⟨w.heap.size, 0, none⟩) 1 1)).run Tryz.prog (w.alloc (.cells #[.int .u8 C] 5)) = .ok (.string ⟨#[UInt8.ofNat C.toNat]⟩) (w.alloc (.cells #[.int .u8 C] 5)) := by
  rw [run_convert_bytes_arg (P := Tryz.prog) (w.alloc (.cells #[.int .u8 C] 5)) 22 5 Tryz.underlying22 Tryz.underlying5 w.heap.size 0 1 1 [C] rfl ?_ 9 Tryz.underlying9]
  · rfl
  · intro i hi
    obtain rfl : i = 0 := by omega
    simp only [World.cell?, Nat.add_zero, heap_alloc_new]; rfl

set_option maxRecDepth 100000 in
set_option maxHeartbeats 2000000 in
theorem markText_any (k : Nat) (w : World) (hk : k ≤ 2147483648) :
    Calls Tryz.prog 57 #[.int .i64 (k : Int)] w fun e w' => e = .returned (.string (markB k)) ∧ Below w.heap.size w w' := by
  by_cases h0 : k = 0
  · subst h0
    go_enter Tryz.func57, Tryz.ntmps57
    go_wp2
    go_ret
    exact ⟨rfl, Below.refl _ _⟩
  · have kc := convOne
    go_enter Tryz.func57, Tryz.ntmps57
    go_wp2
    go_loopw [0, 3] (fun a o wr => ∃ (f n : Nat) (acc : List UInt8), a = .int .i64 (n : Int) ∧ o = .string ⟨acc.toArray⟩ ∧ n ≤ f ∧ acc.length + n ≤ k ∧ digs f n acc = digs k k [] ∧ Below w.heap.size w wr) (fun a _ _ => (intOf a).toNat)
    case atStart => exact ⟨k, k, [], rfl, rfl, Nat.le_refl _, by simp, rfl, Below.refl _ _⟩
    case round =>
      obtain ⟨f, n, acc, rfl, rfl, hf, hl, hd, hb⟩ := hrel
      have HD := Lib.hid hd; have HB := Lib.hid hb; clear hd hb
      by_cases hn : 0 < n
      · go_wp2
        go_roundw
        case rel =>
          have hs : digs (f - 1) (n / 10) ((48 + UInt8.ofNat (n % 10)) :: acc) = digs f n acc := by
            obtain ⟨g, rfl⟩ : ∃ g, f = g + 1 := ⟨f - 1, by omega⟩
            show _ = if n = 0 then acc else _
            rw [if_neg (by omega)]; rfl
          exact ⟨f - 1, n / 10, (48 + UInt8.ofNat (n % 10)) :: acc, by go_num, congrArg Value.string (by apply ByteArray.ext; simp), by omega, by simp only [List.length_cons]; omega, hs.trans HD.out, HB.out.alloc HB.out.size _⟩
        case measure => simp [intOf]; omega
      · go_wp2
        go_ret
        obtain rfl : n = 0 := by omega
        have hm : markB k = ⟨#[109]⟩ ++ ⟨acc.toArray⟩ := by rw [markB, if_neg h0, ← HD.out, digs_zero]
        exact ⟨by rw [hm]; rfl, HB.out⟩

end Go.Proofs.YtbmobgahokehmaaGreatDoor

/-
  laws.markCellS and heldCellS: what is marked, and that it is found again.
-/
namespace Go.Proofs.YtbmobgahokehmaaGreatDoor
open Go.RowKit
set_option linter.unusedVariables false

theorem flatC_set (l : List Cl) : ∀ (k : Nat) (h : k < l.length) (a c : Int) (s : ByteArray), (((flatC l).set (k * 3) (.int .i64 a)).set (k * 3 + 1) (.string s)).set (k * 3 + 2) (.int .i64 c) = flatC (l.set k (a, s, c)) := by
  induction l with
  | nil => intro k h; simp at h
  | cons x t ih =>
    intro k h a c s
    have e : ∀ (b : Cl) (r : List Cl), flatC (b :: r) = .int .i64 b.1 :: .string b.2.1 :: .int .i64 b.2.2 :: flatC r := fun b r => by simp [flatC]
    cases k with
    | zero => rw [e]; simp [e]
    | succ k =>
      have hk : k < t.length := by simpa using h
      rw [e, show (k + 1) * 3 = k * 3 + 1 + 1 + 1 by omega, show k * 3 + 1 + 1 + 1 + 1 = (k * 3 + 1) + 1 + 1 + 1 by omega, show k * 3 + 1 + 1 + 1 + 2 = (k * 3 + 2) + 1 + 1 + 1 by omega]
      simp only [List.set_cons_succ]
      rw [ih k hk a c s, e]
/-- Marked cells. -/
def mkC (m j : Nat) : Cl := (((m + j * 3 : Nat) : Int), markB (m + j * 3 + 1), ((m + j * 3 + 2 : Nat) : Int))
def marksC (m n : Nat) : List Cl := (List.range n).map (mkC m)
theorem marksC_length (m n : Nat) : (marksC m n).length = n := by simp [marksC]
theorem marksC_at (m n k : Nat) (h : k < (marksC m n).length) : (marksC m n)[k] = mkC m k := by simp [marksC]
/-- Cells of which the first k are marked. -/
def mkdC (m k : Nat) (L : List Cl) : List Cl := marksC m k ++ L.drop k
theorem mkdC_length (m k : Nat) (L : List Cl) (h : k ≤ L.length) : (mkdC m k L).length = L.length := by
  rw [mkdC, List.length_append, marksC_length, List.length_drop]; omega
theorem mkdC_next (m k : Nat) (L : List Cl) (h : k < L.length) : (mkdC m k L).set k (mkC m k) = mkdC m (k + 1) L := by
  unfold mkdC
  rw [List.set_append_right _ _ (by rw [marksC_length]; exact Nat.le_refl _), marksC_length, Nat.sub_self, List.drop_eq_getElem_cons h, List.set_cons_zero]
  simp [marksC, List.range_succ]

set_option maxRecDepth 100000 in
set_option maxHeartbeats 4000000 in
theorem markCellS_full (base m : Nat) (v : Value) (L : List Cl) (w : World) (hm : m ≤ 100000000) (hn : L.length ≤ 1048576) (hown : w.ownsRow base 82 3 v L.length (flatC L)) :
    Calls Tryz.prog 58 #[v, .int .i64 (m : Int)] w fun e w' => e = .returned (.int .i64 ((m + L.length * 3 : Nat) : Int)) ∧ w'.ownsRow base 82 3 v L.length (flatC (marksC m L.length)) ∧ w.grownBy w' v.ownBlock := by
  rcases hown.2 with ⟨rfl, h0⟩ | ⟨g, cap, cur, rfl, hbg, hh, hnc, hcm, hcs, htake⟩
  · rw [h0]
    go_enter Tryz.func58, Tryz.ntmps58
    go_wp2
    refine wp_loop_rounds 1 ?_
    rw [rounds_succ]
    go_wp2
    go_ret
    exact ⟨rfl, World.ownsRow_nil _ _ _ _, World.grownBy.refl _ _⟩
  · have HO := Lib.hid hown
    unfold maxLen at hcm
    clear hown hh hcs htake
    go_enter Tryz.func58, Tryz.ntmps58
    go_wp2
    go_loopw [1, 5] (fun a i wr => ∃ k : Nat, k ≤ L.length ∧ i = .int .i64 (k : Int) ∧ a = .int .i64 ((m + k * 3 : Nat) : Int) ∧ wr.ownsRow base 82 3 (.slice (some ⟨g, 0, none⟩) L.length cap) L.length (flatC (mkdC m k L)) ∧ w.grownBy wr (some g)) (fun _ i _ => L.length - (intOf i).toNat)
    case atStart => exact ⟨0, Nat.zero_le _, rfl, rfl, by rw [show mkdC m 0 L = L by simp [mkdC, marksC]]; exact HO.out, World.grownBy.refl _ _⟩
    case round =>
      obtain ⟨k, hk, rfl, rfl, hown, hg⟩ := hrel
      have HG := Lib.hid hg; clear hg
      have HO2 := Lib.hid hown
      clear hown
      by_cases hlt : k < L.length
      · have ccw : ∀ (ww : World) (zs : List Value), ww.ownsRow base 82 3 (.slice (some ⟨g, 0, none⟩) L.length cap) L.length zs → ∀ j, j < L.length * 3 → ∃ u, ww.cell? ⟨g, j, none⟩ = some u := by
          intro ww zs ho j hj
          rw [ho.cellAt j hj, List.getElem?_eq_getElem (by have := ho.1; omega)]; exact ⟨_, rfl⟩
        have CCW := Lib.hid ccw; clear ccw
        have HNX := Lib.hid (show (((flatC (mkdC m k L)).set (k * 3) (.int .i64 ((m + k * 3 : Nat) : Int))).set (k * 3 + 1) (.string (markB (m + k * 3 + 1)))).set (k * 3 + 2) (.int .i64 ((m + k * 3 + 2 : Nat) : Int)) = flatC (mkdC m (k + 1) L) by
          rw [flatC_set _ k (by rw [mkdC_length _ _ _ hk]; exact hlt), ← mkdC_next m k L hlt]; rfl)
        obtain ⟨u0, d0⟩ := CCW.out _ _ HO2.out (k * 3) (by omega)
        have z0 := HO2.out.frozenAt (k * 3)
        have S1 := Lib.hid (HO2.out.stored (k * 3) (.int .i64 ((m + k * 3 : Nat) : Int)))
        have hE2 : ((m + k * 3 + 2 : Nat) : Int) = ((m + k * 3 : Nat) : Int) + 1 + 1 := by omega
        rw [hE2] at HNX
        generalize hM : ((m + k * 3 : Nat) : Int) = M at *
        have hM0 : 0 ≤ M := by omega
        have hM1 : M ≤ 200000000 := by omega
        have hME : M + 1 = ((m + k * 3 + 1 : Nat) : Int) := by omega
        have HMM := Lib.hid hM; have HME := Lib.hid hME; clear hM hME hE2
        go_wp2_with fail
        rw [HME.out]
        refine (markText_any (m + k * 3 + 1) _ (by omega)).mono ?_
        rintro e w1 ⟨rfl, hb⟩
        have hgb : (wr.setCell ⟨g, k * 3, none⟩ (.int .i64 M)).grownBy w1 none := ⟨hb.os, hb.tape, hb.output, hb.size, fun i hi _ => hb.block i hi⟩
        have O1 := Lib.hid (S1.out.1.kept hgb (.inr (by simp [Value.ownBlock])))
        have G1 := Lib.hid (grownT HG.out (grownT S1.out.2 ⟨hb.os, hb.tape, hb.output, hb.size, fun i hi _ => hb.block i hi⟩))
        clear hb hgb S1
        obtain ⟨u1, e1⟩ := CCW.out _ _ O1.out (k * 3 + 1) (by omega)
        obtain ⟨u2, e2⟩ := CCW.out _ _ O1.out (k * 3 + 2) (by omega)
        have y1 := O1.out.frozenAt (k * 3 + 1)
        have y2 := O1.out.frozenAt (k * 3 + 2)
        have S2 := Lib.hid (O1.out.stored (k * 3 + 1) (.string (markB (m + k * 3 + 1))))
        have S3 := Lib.hid (S2.out.1.stored (k * 3 + 2) (.int .i64 (M + 1 + 1)))
        have G3 := Lib.hid (grownT (grownT G1.out S2.out.2) S3.out.2)
        have O3 := Lib.hid (show _ from HNX.out ▸ S3.out.1)
        generalize markB (m + k * 3 + 1) = mb at *
        have HME2 := Lib.hid HME.out
        rw [← HME.out]
        clear S2 S3 O1 G1 CCW HNX
        go_wp2
        go_roundw
        case rel => exact ⟨k + 1, by omega, by go_num, by rw [show ((m + (k + 1) * 3 : Nat) : Int) = M + 1 + 1 + 1 by have := HMM.out; omega], O3.out, G3.out⟩
        case measure => simp [intOf]; omega
      · obtain rfl : k = L.length := by omega
        have HA := Lib.hid (show mkdC m L.length L = marksC m L.length by rw [mkdC, List.drop_eq_nil_of_le (Nat.le_refl _), List.append_nil])
        go_wp2
        go_ret
        exact ⟨rfl, by have := HO2.out; rwa [HA.out] at this, HG.out⟩

set_option maxRecDepth 100000 in
set_option maxHeartbeats 4000000 in
theorem heldCellS_any (m n : Nat) (v : Value) (w : World) (hm : m ≤ 100000000) (hn : n ≤ 1048576) (h : RowC w v (marksC m n)) :
    Calls Tryz.prog 59 #[v, .int .i64 (m : Int)] w fun e w' => e = .returned (.int .i64 ((m + n * 3 : Nat) : Int)) ∧ Below w.heap.size w w' := by
  obtain ⟨ao, cap, rfl, h1, h2, h3⟩ := h
  rw [marksC_length] at h1 ⊢
  unfold maxLen at h2
  have R3 := Lib.hid h3; clear h3
  go_enter Tryz.func59, Tryz.ntmps59
  go_wp2
  go_loopw [1, 5] (fun a i wr => ∃ k : Nat, k ≤ n ∧ i = .int .i64 (k : Int) ∧ a = .int .i64 ((m + k * 3 : Nat) : Int) ∧ Below w.heap.size w wr) (fun _ i _ => n - (intOf i).toNat)
  case atStart => exact ⟨0, Nat.zero_le _, rfl, rfl, Below.refl _ _⟩
  case round =>
    obtain ⟨k, hk, rfl, rfl, hb⟩ := hrel
    have HB := Lib.hid hb; clear hb
    by_cases hlt : k < n
    · obtain ⟨b, o, rfl, hbl, cc⟩ := R3.out.resolve_left (by intro h; have := congrArg List.length h; rw [marksC_length] at this; simp at this; omega)
      have hcc := cc k (by rw [marksC_length]; exact hlt)
      rw [marksC_at] at hcc
      obtain ⟨c0, c1, c2⟩ := hcc
      have d0 : wr.cell? ⟨b, o + k * 3, none⟩ = some (.int .i64 ((m + k * 3 : Nat) : Int)) := (HB.out.cell (p := ⟨b, _, none⟩) hbl).trans c0
      have d1 : wr.cell? ⟨b, o + k * 3 + 1, none⟩ = some (.string (markB (m + k * 3 + 1))) := (HB.out.cell (p := ⟨b, _, none⟩) hbl).trans c1
      have d2 : wr.cell? ⟨b, o + k * 3 + 2, none⟩ = some (.int .i64 ((m + k * 3 + 2 : Nat) : Int)) := (HB.out.cell (p := ⟨b, _, none⟩) hbl).trans c2
      have hbw : b < wr.heap.size := by have := HB.out.size; omega
      clear cc c0 c1 c2
      have hE2 : ((m + k * 3 + 2 : Nat) : Int) = ((m + k * 3 : Nat) : Int) + 1 + 1 := by omega
      rw [hE2] at d2
      have hx : ((((m + k * 3 : Nat) : Int)) != (((m + k * 3 : Nat) : Int))) = false := by simp
      generalize hM : ((m + k * 3 : Nat) : Int) = M at *
      have hM0 : 0 ≤ M := by omega
      have hM1 : M ≤ 200000000 := by omega
      have hme : M + 1 = ((m + k * 3 + 1 : Nat) : Int) := by omega
      have hx2 : ((M + 1 + 1) != (M + 1 + 1)) = false := by simp
      have HMT := Lib.hid (show ∀ w', Calls Tryz.prog 57 #[.int .i64 (M + 1)] w' fun e w'' => e = .returned (.string (markB (m + k * 3 + 1))) ∧ Below w'.heap.size w' w'' from fun w' => by
        rw [hme]; exact markText_any (m + k * 3 + 1) w' (by omega))
      have HMM := Lib.hid hM; clear hM hme hE2
      generalize markB (m + k * 3 + 1) = mb at d1 HMT
      have hx3 : (!(mb.toList == mb.toList)) = false := by simp
      have bk0 : (0 : Int) ≤ (k : Int) := by omega
      have bk1 : (k : Int) < (n : Int) := by omega
      go_wp2_with fail
      go_region_held3 (fun w' => w'.cell? ⟨b, o + k * 3 + 1, none⟩ = some (.string mb) ∧ w'.cell? ⟨b, o + k * 3 + 2, none⟩ = some (.int .i64 (M + 1 + 1)))
        (first
          | go_keep
          | (go_split_ands
             refine ⟨?_, ?_⟩
             · (rw [hb1.cell (by exact hbw)]; assumption)
             · (rw [hb1.cell (by exact hbw)]; assumption)))
        ((go_at_call 57; refine (HMT.out _).mono ?_; rintro e w1 ⟨rfl, hb1⟩))
      go_wp2
      go_roundw
      case rel => exact ⟨k + 1, by omega, by go_num, by rw [show ((m + (k + 1) * 3 : Nat) : Int) = M + 1 + 1 + 1 by have := HMM.out; omega], HB.out.drew.trans (hb1.mono HB.out.size)⟩
      case measure => simp [intOf]; omega
    · obtain rfl : k = n := by omega
      go_wp2
      go_ret
      exact ⟨rfl, HB.out⟩

end Go.Proofs.YtbmobgahokehmaaGreatDoor

/-
  laws.eqCellS at two slices of the same cells.
-/
namespace Go.Proofs.YtbmobgahokehmaaGreatDoor
open Go.RowKit
set_option linter.unusedVariables false

set_option maxRecDepth 100000 in
set_option maxHeartbeats 4000000 in
theorem eqCellS_same (v1 v2 : Value) (l : List Cl) (w : World) (h1 : RowC w v1 l) (h2 : RowC w v2 l) :
    Calls Tryz.prog 56 #[v1, v2] w fun e w' => e = .returned (.bool true) ∧ Below w.heap.size w w' := by
  obtain ⟨a1, c1, rfl, l1, m1, r1⟩ := h1
  obtain ⟨a2, c2, rfl, l2, m2, r2⟩ := h2
  unfold maxLen at m1 m2
  have R1 := Lib.hid r1; have R2 := Lib.hid r2
  clear r1 r2
  go_enter Tryz.func56, Tryz.ntmps56
  go_wp2
  go_loopw [5] (fun i wr => ∃ k : Nat, k ≤ l.length ∧ i = .int .i64 (k : Int) ∧ Below w.heap.size w wr) (fun i _ => l.length - (intOf i).toNat)
  case atStart => exact ⟨0, Nat.zero_le _, rfl, Below.refl _ _⟩
  case round =>
    obtain ⟨k, hk, rfl, hb⟩ := hrel
    have HB := Lib.hid hb; clear hb
    by_cases hlt : k < l.length
    · obtain ⟨b1, o1, hA1, lt1, cc1⟩ := R1.out.resolve_left (by rintro rfl; simp at hlt)
      obtain ⟨b2, o2, hA2, lt2, cc2⟩ := R2.out.resolve_left (by rintro rfl; simp at hlt)
      subst hA1 hA2
      obtain ⟨p0, p1, p2⟩ := cc1 k hlt
      obtain ⟨q0, q1, q2⟩ := cc2 k hlt
      have d0 := (HB.out.cell (p := ⟨b1, _, none⟩) lt1).trans p0
      have d1 := (HB.out.cell (p := ⟨b1, _, none⟩) lt1).trans p1
      have d2 := (HB.out.cell (p := ⟨b1, _, none⟩) lt1).trans p2
      have g0 := (HB.out.cell (p := ⟨b2, _, none⟩) lt2).trans q0
      have g1 := (HB.out.cell (p := ⟨b2, _, none⟩) lt2).trans q1
      have g2 := (HB.out.cell (p := ⟨b2, _, none⟩) lt2).trans q2
      generalize l[k].1 = kk at d0 g0
      generalize l[k].2.1 = ss at d1 g1
      generalize l[k].2.2 = mm at d2 g2
      have hw1 : b1 < wr.heap.size := by have := HB.out.size; omega
      have hw2 : b2 < wr.heap.size := by have := HB.out.size; omega
      clear cc1 cc2 p0 p1 p2 q0 q1 q2
      have bk0 : (0 : Int) ≤ (k : Int) := by omega
      have bk1 : (k : Int) < (l.length : Int) := by omega
      go_wp2_with fail
      go_region_held3 (fun w' => w'.cell? ⟨b1, o1 + k * 3, none⟩ = some (.int .i64 kk) ∧ w'.cell? ⟨b1, o1 + k * 3 + 1, none⟩ = some (.string ss) ∧ w'.cell? ⟨b1, o1 + k * 3 + 2, none⟩ = some (.int .i64 mm) ∧ w'.cell? ⟨b2, o2 + k * 3, none⟩ = some (.int .i64 kk) ∧ w'.cell? ⟨b2, o2 + k * 3 + 1, none⟩ = some (.string ss) ∧ w'.cell? ⟨b2, o2 + k * 3 + 2, none⟩ = some (.int .i64 mm))
        (first
          | go_keep
          | (go_split_ands
             refine ⟨?_, ?_, ?_, ?_, ?_, ?_⟩
             · (rw [hb1.cell (by exact hw1)]; assumption)
             · (rw [hb1.cell (by exact hw1)]; assumption)
             · (rw [hb1.cell (by exact hw1)]; assumption)
             · (rw [hb1.cell (by exact hw2)]; assumption)
             · (rw [hb1.cell (by exact hw2)]; assumption)
             · (rw [hb1.cell (by exact hw2)]; assumption)))
        ((go_at_call 82; refine (eqCell_same _ _ _ _).mono ?_; rintro e w1 ⟨rfl, hb1⟩))
      go_wp2
      go_roundw
      case rel => exact ⟨k + 1, by omega, by go_num, HB.out.drew.trans (hb1.mono HB.out.size)⟩
      case measure => simp [intOf]; omega
    · go_wp2
      go_ret
      exact ⟨rfl, HB.out⟩

end Go.Proofs.YtbmobgahokehmaaGreatDoor
