/-
  Several texts of the proof in one file: DrawCodeW, DrawCellsW, DrawWritten.
-/
import Derived.Test.YtncehcklppakcaaGreatDoorOpen
import Derived.Test.YtncehcklppakcaaGreatDoorBaseQ
import Derived.Test.YtncehcklppakcaaGreatDoorDrawName
import Derived.Test.YtncehcklppakcaaGreatDoorToCellS
import Derived.Test.YtncehcklppakcaaGreatDoorFlat
import Derived.Test.YtncehcklppakcaaGreatDoorPrintST
import Derived.Test.YtncehcklppakcaaGreatDoorRowSub
/-
  Drawn texts of tokens: spec.l20Code, with how many of their bytes nest what follows.
-/
namespace Go.Proofs.YtncehcklppakcaaGreatDoor
open Go.RowKit
set_option linter.unusedVariables false

def nbB (s : ByteArray) : Nat := nbL s.data.toList
theorem nbB_app (s t : ByteArray) : nbB (s ++ t) = nbB s + nbB t := by
  unfold nbB nbL
  rw [ByteArray.data_append, Array.toList_append, List.countP_append]
/-- What a drawn text of tokens is: at most 30 bytes. -/
def CodesW (R p : Nat) (w : World) (e : Ending) (w' : World) : Prop :=
  ∃ s : ByteArray, e = .returned (.string s) ∧ (s.size ≤ 30 ∧ nbB s ≤ 8) ∧ Rdm w' R (p + 10) ∧ w.grownBy w' (some R)

theorem code22W (m : Nat) (h : m < 22) : ∃ t : ByteArray, (t.size ≤ 4 ∧ nbB t ≤ 1) ∧ (#[Value.string ⟨#[97]⟩, .string ⟨#[32]⟩, .string ⟨#[49, 50]⟩, .string ⟨#[49, 46, 53]⟩, .string ⟨#[34, 120, 34]⟩, .string ⟨#[34, 92, 34, 34]⟩, .string ⟨#[60, 61]⟩, .string ⟨#[33, 61]⟩, .string ⟨#[38, 38]⟩, .string ⟨#[124, 124]⟩, .string ⟨#[40]⟩, .string ⟨#[41]⟩, .string ⟨#[91]⟩, .string ⟨#[93]⟩, .string ⟨#[44]⟩, .string ⟨#[63]⟩, .string ⟨#[58]⟩, .string ⟨#[45]⟩, .string ⟨#[33]⟩, .string ⟨#[37]⟩, .string ⟨#[98, 46, 99]⟩, .string ⟨#[60]⟩] : Array Value)[m]? = some (.string t) := by
  match m, h with
  | 0, _ => exact ⟨_, by decide, rfl⟩
  | 1, _ => exact ⟨_, by decide, rfl⟩
  | 2, _ => exact ⟨_, by decide, rfl⟩
  | 3, _ => exact ⟨_, by decide, rfl⟩
  | 4, _ => exact ⟨_, by decide, rfl⟩
  | 5, _ => exact ⟨_, by decide, rfl⟩
  | 6, _ => exact ⟨_, by decide, rfl⟩
  | 7, _ => exact ⟨_, by decide, rfl⟩
  | 8, _ => exact ⟨_, by decide, rfl⟩
  | 9, _ => exact ⟨_, by decide, rfl⟩
  | 10, _ => exact ⟨_, by decide, rfl⟩
  | 11, _ => exact ⟨_, by decide, rfl⟩
  | 12, _ => exact ⟨_, by decide, rfl⟩
  | 13, _ => exact ⟨_, by decide, rfl⟩
  | 14, _ => exact ⟨_, by decide, rfl⟩
  | 15, _ => exact ⟨_, by decide, rfl⟩
  | 16, _ => exact ⟨_, by decide, rfl⟩
  | 17, _ => exact ⟨_, by decide, rfl⟩
  | 18, _ => exact ⟨_, by decide, rfl⟩
  | 19, _ => exact ⟨_, by decide, rfl⟩
  | 20, _ => exact ⟨_, by decide, rfl⟩
  | 21, _ => exact ⟨_, by decide, rfl⟩
  | q + 22, h => exact absurd h (by omega)
theorem code8W (m : Nat) (h : m < 8) : ∃ t : ByteArray, (t.size ≤ 2 ∧ nbB t ≤ 0) ∧ (#[Value.string ⟨#[34]⟩, .string ⟨#[38]⟩, .string ⟨#[61]⟩, .string ⟨#[35]⟩, .string ⟨#[123]⟩, .string ⟨#[65]⟩, .string ⟨#[10]⟩, .string ⟨#[34, 92]⟩] : Array Value)[m]? = some (.string t) := by
  match m, h with
  | 0, _ => exact ⟨_, by decide, rfl⟩
  | 1, _ => exact ⟨_, by decide, rfl⟩
  | 2, _ => exact ⟨_, by decide, rfl⟩
  | 3, _ => exact ⟨_, by decide, rfl⟩
  | 4, _ => exact ⟨_, by decide, rfl⟩
  | 5, _ => exact ⟨_, by decide, rfl⟩
  | 6, _ => exact ⟨_, by decide, rfl⟩
  | 7, _ => exact ⟨_, by decide, rfl⟩

set_option maxRecDepth 100000 in
set_option maxHeartbeats 2000000 in
theorem codeW_any (R p : Nat) (w : World) (hp : p < 1073741824) (h : Rdm w R p) :
    Calls Tryz.prog 74 #[.pointer (some ⟨R, 0, none⟩)] w (CodesW R p w) := by
  go_enter Tryz.func74, Tryz.ntmps74
  go_wp2_with fail
  refine (pick_any R p 8 _ (by omega) h).mono ?_
  rintro e w1 ⟨m, rfl, hm0, hm1, -, hr1, hg1, hs1⟩
  have hm2 := hm1 (by omega)
  obtain ⟨k1, rfl⟩ := Int.eq_ofNat_of_zero_le hm0
  have HG1 := Lib.hid hg1
  clear hm1 hg1 hs1 h
  go_wp2_with fail
  go_loopw [3, 4] (fun o k wr => ∃ (s : ByteArray) (m : Nat), o = .string s ∧ k = .int .i64 m ∧ m ≤ 7 ∧ (s.size + 4 * m ≤ 28 ∧ nbB s + m ≤ 7) ∧ Rdm wr R (p + 8 - m) ∧ w.grownBy wr (some R)) (fun _ k _ => (intOf k).toNat)
  case atStart => exact ⟨_, k1, rfl, rfl, by omega, ⟨by simp [ByteArray.size]; omega, by have : nbB ⟨#[]⟩ = 0 := rfl; have e : nbB ByteArray.empty = 0 := rfl; omega⟩, hr1.mono (by omega), HG1.out⟩
  case round =>
    obtain ⟨s, m, rfl, rfl, hm7, ⟨hsm, hnb⟩, hr, hg⟩ := hrel
    have HG := Lib.hid hg
    clear hg
    by_cases h0 : 0 < m
    · go_wp2_with fail
      refine (pick_any R (p + 8 - m) 22 _ (by omega) (hr.kept (World.grownBy_alloc wr _ none) (by simp))).mono ?_
      rintro e w2 ⟨j, rfl, hj0, hj1, -, hr2, hg2, hs2⟩
      have hj2 := hj1 (by omega)
      obtain ⟨j1, rfl⟩ := Int.eq_ofNat_of_zero_le hj0
      obtain ⟨t, ht, hlit⟩ := code22W j1 (by omega)
      have hcell := lit_cell hr.lt hg2 hlit
      have HG2 := Lib.hid (grown_trans (grown_alloc HG.out _) hg2)
      clear hj1 hg2 hs2 hlit hr HG
      go_wp2
      go_roundw
      case rel => exact ⟨_, m - 1, rfl, by go_num, by omega, ⟨by simp; omega, by rw [nbB_app]; omega⟩, hr2.mono (by omega), HG2.out⟩
      case measure => simp [intOf]; omega
    · go_wp2_with fail
      refine (odd_any R (p + 8) 6 _ (by omega) (by omega) (by omega) (hr.mono (by omega))).mono ?_
      rintro e w2 ⟨b, rfl, -, hr2, hg2, hs2⟩
      have HG2 := Lib.hid (grown_trans HG.out hg2)
      clear hg2 hs2 HG hr
      cases b with
      | false =>
        go_wp2
        go_ret
        exact ⟨_, rfl, ⟨by omega, by omega⟩, hr2.mono (by omega), HG2.out⟩
      | true =>
        go_wp2_with fail
        refine (pick_any R (p + 8 + 1) 8 _ (by omega) (hr2.kept (World.grownBy_alloc w2 _ none) (by simp))).mono ?_
        rintro e w3 ⟨j, rfl, hj0, hj1, -, hr3, hg3, hs3⟩
        have hj2 := hj1 (by omega)
        obtain ⟨j1, rfl⟩ := Int.eq_ofNat_of_zero_le hj0
        obtain ⟨t, ht, hlit⟩ := code8W j1 (by omega)
        have hcell := lit_cell hr2.lt hg3 hlit
        have HG3 := Lib.hid (grown_trans (grown_alloc HG2.out _) hg3)
        clear hj1 hg3 hs3 hlit hr2 HG2
        go_wp2
        go_ret
        exact ⟨_, rfl, ⟨by simp; omega, by rw [nbB_app]; omega⟩, hr3.mono (by omega), HG3.out⟩

end Go.Proofs.YtncehcklppakcaaGreatDoor

/-
  Drawn expressions: spec.l20Cells, with what their words are and how many of them have parts.
-/
namespace Go.Proofs.YtncehcklppakcaaGreatDoor
open Go.RowKit
set_option linter.unusedVariables false

/-- How often a drawn expression asks the code at most, and how many cells it has at most. -/
def kpW : Nat → Nat
  | 0 => 8
  | d + 1 => 8 + 3 * kpW d
def cbW : Nat → Nat
  | 0 => 1
  | d + 1 => if d = 0 then 1 else 1 + 3 * cbW d
theorem kp_posW (d : Nat) : 8 ≤ kpW d := by cases d <;> simp [kpW]
theorem cb_posW (d : Nat) : 1 ≤ cbW d := by
  cases d with
  | zero => simp [cbW]
  | succ d => rw [cbW]; split <;> omega
/-- What a drawn expression is. -/
def CellsDW (R p K C : Nat) (w : World) (e : Ending) (w' : World) : Prop :=
  ∃ (v : Value) (l : List Cl), e = .returned v ∧ w'.ownsRow w.heap.size 41 3 v l.length (flatC l) ∧ (∀ c ∈ l, WdC c) ∧ 1 ≤ l.length ∧ (l.length ≤ C ∧ 3 * nlC l + 1 ≤ C) ∧ Rdm w' R (p + K) ∧ w.grownBy w' (some R)
theorem CellsDW.mono {R p K C K' C' : Nat} {w w' : World} {e : Ending} (h : CellsDW R p K C w e w') (hK : K ≤ K') (hC : C ≤ C') : CellsDW R p K' C' w e w' := by
  obtain ⟨v, l, h1, h2, h3, h4, h5, h6, h7⟩ := h
  exact ⟨v, l, h1, h2, h3, h4, ⟨by omega, by omega⟩, h6.mono (by omega), h7⟩
/-- A single new cell. -/
theorem CellsDW.one {R p K C : Nat} {w w1 : World} (k m : Int) (s : ByteArray) (hk : k ≤ 4) (hs : WdC (k, s, m)) (hC : 1 ≤ C) (hr : Rdm w1 R (p + K)) (hg : w.grownBy w1 (some R)) :
    CellsDW R p K C w (.returned (.slice (some ⟨w1.heap.size, 0, none⟩) 1 1)) (w1.alloc (.cells #[.int .i64 k, .string s, .int .i64 m] 41)) := by
  refine ⟨_, [(k, s, m)], rfl, World.ownsRow_lit w1 _ 1 hg.size (by unfold maxLen; omega) rfl, ?_, Nat.le_refl _, ⟨hC, by have := nlC_leaf (k, s, m) hk; omega⟩, hr.kept (World.grownBy_alloc w1 _ none) (by simp), grown_alloc hg _⟩
  intro c hc
  rw [List.mem_singleton] at hc; subst hc; exact hs
theorem grown_ownW {w a b : World} {R : Nat} {row : Option Nat} (h : w.grownBy a (some R)) (hg : a.grownBy b row) (hr : ∀ q, row = some q → w.heap.size ≤ q) : w.grownBy b (some R) :=
  ⟨hg.os.trans h.os, hg.tape.trans h.tape, hg.output.trans h.output, Nat.le_trans h.size hg.size, fun k hk hn => by
    rw [hg.block k (by have := h.size; omega) (fun e => by have := hr k e.symm; omega)]
    exact h.block k hk hn⟩

theorem lit_numW (m : Nat) (h : m < 6) : ∃ t : ByteArray, t.size ≤ 60 ∧ (#[Value.string ⟨#[48]⟩, .string ⟨#[49]⟩, .string ⟨#[50]⟩, .string ⟨#[49, 50]⟩, .string ⟨#[48, 46, 53]⟩, .string ⟨#[51, 46, 50, 53]⟩] : Array Value)[m]? = some (.string t) := by
  match m, h with
  | 0, _ => exact ⟨_, by decide, rfl⟩
  | 1, _ => exact ⟨_, by decide, rfl⟩
  | 2, _ => exact ⟨_, by decide, rfl⟩
  | 3, _ => exact ⟨_, by decide, rfl⟩
  | 4, _ => exact ⟨_, by decide, rfl⟩
  | 5, _ => exact ⟨_, by decide, rfl⟩
theorem lit_txtW (m : Nat) (h : m < 6) : ∃ t : ByteArray, (t.size ≤ 60 ∧ nbL t.data.toList = 0) ∧ (#[Value.string ⟨#[]⟩, .string ⟨#[97]⟩, .string ⟨#[65, 98]⟩, .string ⟨#[120, 10, 121]⟩, .string ⟨#[34]⟩, .string ⟨#[35]⟩] : Array Value)[m]? = some (.string t) := by
  match m, h with
  | 0, _ => exact ⟨_, by decide, rfl⟩
  | 1, _ => exact ⟨_, by decide, rfl⟩
  | 2, _ => exact ⟨_, by decide, rfl⟩
  | 3, _ => exact ⟨_, by decide, rfl⟩
  | 4, _ => exact ⟨_, by decide, rfl⟩
  | 5, _ => exact ⟨_, by decide, rfl⟩
theorem lit_truW (m : Nat) (h : m < 2) : ∃ t : ByteArray, t.size ≤ 60 ∧ (#[Value.string ⟨#[116, 114, 117, 101]⟩, .string ⟨#[102, 97, 108, 115, 101]⟩] : Array Value)[m]? = some (.string t) := by
  match m, h with
  | 0, _ => exact ⟨_, by decide, rfl⟩
  | 1, _ => exact ⟨_, by decide, rfl⟩
theorem lit_calW (m : Nat) (h : m < 9) : ∃ t : ByteArray, t.size ≤ 60 ∧ (#[Value.string ⟨#[108, 101, 110, 103, 116, 104]⟩, .string ⟨#[117, 112, 112, 101, 114]⟩, .string ⟨#[109, 105, 110]⟩, .string ⟨#[109, 97, 120]⟩, .string ⟨#[102, 105, 114, 115, 116]⟩, .string ⟨#[114, 101, 118, 101, 114, 115, 101]⟩, .string ⟨#[99, 111, 110, 116, 97, 105, 110, 115]⟩, .string ⟨#[106, 111, 105, 110]⟩, .string ⟨#[102]⟩] : Array Value)[m]? = some (.string t) := by
  match m, h with
  | 0, _ => exact ⟨_, by decide, rfl⟩
  | 1, _ => exact ⟨_, by decide, rfl⟩
  | 2, _ => exact ⟨_, by decide, rfl⟩
  | 3, _ => exact ⟨_, by decide, rfl⟩
  | 4, _ => exact ⟨_, by decide, rfl⟩
  | 5, _ => exact ⟨_, by decide, rfl⟩
  | 6, _ => exact ⟨_, by decide, rfl⟩
  | 7, _ => exact ⟨_, by decide, rfl⟩
  | 8, _ => exact ⟨_, by decide, rfl⟩
theorem lit_unaW (m : Nat) (h : m < 2) : ∃ t : ByteArray, t.size ≤ 60 ∧ (#[Value.string ⟨#[33]⟩, .string ⟨#[45]⟩] : Array Value)[m]? = some (.string t) := by
  match m, h with
  | 0, _ => exact ⟨_, by decide, rfl⟩
  | 1, _ => exact ⟨_, by decide, rfl⟩
theorem lit_binW (m : Nat) (h : m < 15) : ∃ t : ByteArray, t.size ≤ 60 ∧ (#[Value.string ⟨#[124, 124]⟩, .string ⟨#[38, 38]⟩, .string ⟨#[61, 61]⟩, .string ⟨#[33, 61]⟩, .string ⟨#[60]⟩, .string ⟨#[60, 61]⟩, .string ⟨#[62]⟩, .string ⟨#[62, 61]⟩, .string ⟨#[43]⟩, .string ⟨#[45]⟩, .string ⟨#[42]⟩, .string ⟨#[47]⟩, .string ⟨#[37]⟩, .string ⟨#[38, 38]⟩, .string ⟨#[43]⟩] : Array Value)[m]? = some (.string t) := by
  match m, h with
  | 0, _ => exact ⟨_, by decide, rfl⟩
  | 1, _ => exact ⟨_, by decide, rfl⟩
  | 2, _ => exact ⟨_, by decide, rfl⟩
  | 3, _ => exact ⟨_, by decide, rfl⟩
  | 4, _ => exact ⟨_, by decide, rfl⟩
  | 5, _ => exact ⟨_, by decide, rfl⟩
  | 6, _ => exact ⟨_, by decide, rfl⟩
  | 7, _ => exact ⟨_, by decide, rfl⟩
  | 8, _ => exact ⟨_, by decide, rfl⟩
  | 9, _ => exact ⟨_, by decide, rfl⟩
  | 10, _ => exact ⟨_, by decide, rfl⟩
  | 11, _ => exact ⟨_, by decide, rfl⟩
  | 12, _ => exact ⟨_, by decide, rfl⟩
  | 13, _ => exact ⟨_, by decide, rfl⟩
  | 14, _ => exact ⟨_, by decide, rfl⟩

theorem lit_kndW (m : Nat) (h : m < 13) : ∃ t : Nat, (1 ≤ t ∧ t ≤ 9) ∧ (#[Value.int .i64 1, .int .i64 2, .int .i64 3, .int .i64 4, .int .i64 4, .int .i64 5, .int .i64 6, .int .i64 7, .int .i64 7, .int .i64 8, .int .i64 8, .int .i64 8, .int .i64 9] : Array Value)[m]? = some (.int .i64 (t : Int)) := by
  match m, h with
  | 0, _ => exact ⟨1, by decide, rfl⟩
  | 1, _ => exact ⟨2, by decide, rfl⟩
  | 2, _ => exact ⟨3, by decide, rfl⟩
  | 3, _ => exact ⟨4, by decide, rfl⟩
  | 4, _ => exact ⟨4, by decide, rfl⟩
  | 5, _ => exact ⟨5, by decide, rfl⟩
  | 6, _ => exact ⟨6, by decide, rfl⟩
  | 7, _ => exact ⟨7, by decide, rfl⟩
  | 8, _ => exact ⟨7, by decide, rfl⟩
  | 9, _ => exact ⟨8, by decide, rfl⟩
  | 10, _ => exact ⟨8, by decide, rfl⟩
  | 11, _ => exact ⟨8, by decide, rfl⟩
  | 12, _ => exact ⟨9, by decide, rfl⟩

set_option maxRecDepth 100000 in
set_option maxHeartbeats 4000000 in
theorem cells_leafW (deep R p K C : Nat) (w : World) (hd : deep ≤ 1) (hp : p + 8 < 1073741824) (hK : 8 ≤ K) (hC : 1 ≤ C) (h : Rdm w R p) :
    Calls Tryz.prog 59 #[.pointer (some ⟨R, 0, none⟩), .int .i64 (deep : Int)] w (CellsDW R p K C w) := by
  have hdd : (deep : Int) ≤ 1 := by omega
  go_enter Tryz.func59, Tryz.ntmps59
  go_wp2_with fail
  refine (pick_any R p 13 _ (by omega) (h.kept (World.grownBy_alloc w _ none) (by simp))).mono ?_
  rintro e w1 ⟨j, rfl, hj0, hj1, -, hr1, hg1, hs1⟩
  have hj2 := hj1 (by omega)
  obtain ⟨j1, rfl⟩ := Int.eq_ofNat_of_zero_le hj0
  obtain ⟨q, hq, hlit⟩ := lit_kndW j1 (by omega)
  have hcell := lit_cell h.lt hg1 hlit
  have HG1 := Lib.hid (grown_trans (World.grownBy_alloc w _ (some R)) hg1)
  clear hj1 hg1 hs1 hlit
  go_wp2_with fail
  refine (pick_any R (p + 1) 4 _ (by omega) hr1).mono ?_
  rintro e w2 ⟨i, rfl, hi0, hi1, -, hr2, hg2, hs2⟩
  have hi2 := hi1 (by omega)
  obtain ⟨i1, rfl⟩ := Int.eq_ofNat_of_zero_le hi0
  have HG2 := Lib.hid (grown_trans HG1.out hg2)
  clear hi1 hg2 hs2 hcell
  have hi4 : i1 = 0 ∨ i1 = 1 ∨ i1 = 2 ∨ i1 = 3 := by omega
  clear hi0 hi2
  rcases hi4 with rfl | rfl | rfl | rfl
  · go_wp2_with fail
    refine (pick_any R (p + 1 + 1) 6 _ (by omega) (hr2.kept (World.grownBy_alloc w2 _ none) (by simp))).mono ?_
    rintro e w9 ⟨i, rfl, hi0, hi1, -, hr9, hg9, hs9⟩
    have hi2 := hi1 (by omega)
    obtain ⟨i1, rfl⟩ := Int.eq_ofNat_of_zero_le hi0
    obtain ⟨t, ht, hlit⟩ := lit_numW i1 (by omega)
    have hcell9 := lit_cell hr2.lt hg9 hlit
    have HG9 := Lib.hid (grown_trans (grown_alloc HG2.out _) hg9)
    clear hi1 hg9 hs9 hlit
    go_wp2
    go_ret
    exact CellsDW.one 1 0 t (by omega) ⟨ht, fun h => absurd h (show ¬ ((1 : Int) = 2) by decide)⟩ hC (hr9.mono (by omega)) HG9.out
  · go_wp2_with fail
    refine (pick_any R (p + 1 + 1) 6 _ (by omega) (hr2.kept (World.grownBy_alloc w2 _ none) (by simp))).mono ?_
    rintro e w9 ⟨i, rfl, hi0, hi1, -, hr9, hg9, hs9⟩
    have hi2 := hi1 (by omega)
    obtain ⟨i1, rfl⟩ := Int.eq_ofNat_of_zero_le hi0
    obtain ⟨t, ht, hlit⟩ := lit_txtW i1 (by omega)
    have hcell9 := lit_cell hr2.lt hg9 hlit
    have HG9 := Lib.hid (grown_trans (grown_alloc HG2.out _) hg9)
    clear hi1 hg9 hs9 hlit
    go_wp2
    go_ret
    exact CellsDW.one 2 0 t (by omega) ⟨ht.1, fun _ => ht.2⟩ hC (hr9.mono (by omega)) HG9.out
  · go_wp2_with fail
    refine (pick_any R (p + 1 + 1) 2 _ (by omega) (hr2.kept (World.grownBy_alloc w2 _ none) (by simp))).mono ?_
    rintro e w9 ⟨i, rfl, hi0, hi1, -, hr9, hg9, hs9⟩
    have hi2 := hi1 (by omega)
    obtain ⟨i1, rfl⟩ := Int.eq_ofNat_of_zero_le hi0
    obtain ⟨t, ht, hlit⟩ := lit_truW i1 (by omega)
    have hcell9 := lit_cell hr2.lt hg9 hlit
    have HG9 := Lib.hid (grown_trans (grown_alloc HG2.out _) hg9)
    clear hi1 hg9 hs9 hlit
    go_wp2
    go_ret
    exact CellsDW.one 3 0 t (by omega) ⟨ht, fun h => absurd h (show ¬ ((3 : Int) = 2) by decide)⟩ hC (hr9.mono (by omega)) HG9.out
  · go_wp2_with fail
    refine (name_any R (p + 1 + 1) 0 _ (by omega) (by omega) (by omega) hr2).mono ?_
    rintro e w9 ⟨t, rfl, ht, hr9, hg9⟩
    have HG9 := Lib.hid (grown_trans HG2.out hg9)
    clear hg9
    go_wp2
    go_ret
    exact CellsDW.one 4 0 t (by omega) ⟨show t.size ≤ 60 by omega, fun h => absurd h (show ¬ ((4 : Int) = 2) by decide)⟩ hC (hr9.mono (by omega)) HG9.out

set_option maxRecDepth 100000 in
set_option maxHeartbeats 8000000 in
theorem cells_anyW (deep : Nat) : ∀ (R p : Nat) (w : World), deep ≤ 5 → p + kpW deep < 1073741824 → Rdm w R p →
    Calls Tryz.prog 59 #[.pointer (some ⟨R, 0, none⟩), .int .i64 (deep : Int)] w (CellsDW R p (kpW deep) (cbW deep) w) := by
  induction deep with
  | zero => intro R p w _ hp h; exact cells_leafW 0 R p _ _ w (by omega) (by have := kp_posW 0; omega) (kp_posW _) (cb_posW _) h
  | succ d ih =>
    intro R p w hd5 hp h
    by_cases hd1 : d + 1 ≤ 1
    · exact cells_leafW (d + 1) R p _ _ w hd1 (by have := kp_posW (d + 1); omega) (kp_posW _) (cb_posW _) h
    obtain ⟨i0, hi, hz0, hz1, hz2⟩ := info_parts infoC
    generalize hDD : ((d + 1 : Nat) : Int) = D
    have hD2 : 2 ≤ D := by omega
    have hD5 : D ≤ 5 := by omega
    have HDM := Lib.hid (show D - 1 = (d : Int) by omega)
    clear hDD
    have hC := cb_posW (d + 1); have HC1 := Lib.hid (cb_posW d)
    have hK := kp_posW (d + 1)
    have hkp : kpW (d + 1) = 8 + 3 * kpW d := rfl
    have hcb : cbW (d + 1) = 1 + 3 * cbW d := by rw [cbW, if_neg (by omega)]
    have hcb5 : cbW d ≤ 121 := by
      have : d = 0 ∨ d = 1 ∨ d = 2 ∨ d = 3 ∨ d = 4 := by omega
      rcases this with rfl | rfl | rfl | rfl | rfl <;> decide
    have IH := Lib.hid ih; clear ih
    generalize hkd : kpW d = kd at hkp
    generalize hcd : cbW d = cd at hcb hcb5 HC1
    generalize hkD : kpW (d + 1) = kD at hkp hK hp
    generalize hcD : cbW (d + 1) = cD at hcb hC
    have HKD := Lib.hid hkd; have HCD := Lib.hid hcd; have HKP := Lib.hid hkp; have HCB := Lib.hid hcb
    clear hkd hcd hkD hcD hkp hcb
    go_enter Tryz.func59, Tryz.ntmps59
    go_wp2_with fail
    refine (pick_any R p 13 _ (by omega) (h.kept (World.grownBy_alloc w _ none) (by simp))).mono ?_
    rintro e w1 ⟨j, rfl, hj0, hj1, -, hr1, hg1, hs1⟩
    have hj2 := hj1 (by omega)
    obtain ⟨j1, rfl⟩ := Int.eq_ofNat_of_zero_le hj0
    obtain ⟨q, hq, hlit⟩ := lit_kndW j1 (by omega)
    have hcell := lit_cell h.lt hg1 hlit
    have HG1 := Lib.hid (grown_trans (World.grownBy_alloc w _ (some R)) hg1)
    clear hj1 hg1 hs1 hlit
    have hq9 : q = 1 ∨ q = 2 ∨ q = 3 ∨ q = 4 ∨ q = 5 ∨ q = 6 ∨ q = 7 ∨ q = 8 ∨ q = 9 := by omega
    rcases hq9 with rfl | rfl | rfl | rfl | rfl | rfl | rfl | rfl | rfl
    · go_wp2_with fail
      refine (pick_any R (p + 1) 6 _ (by omega) (hr1.kept (World.grownBy_alloc w1 _ none) (by simp))).mono ?_
      rintro e w9 ⟨i, rfl, hi0, hi1, -, hr9, hg9, hs9⟩
      have hi2 := hi1 (by omega)
      obtain ⟨i1, rfl⟩ := Int.eq_ofNat_of_zero_le hi0
      obtain ⟨t, ht, hlit⟩ := lit_numW i1 (by omega)
      have hcell9 := lit_cell hr1.lt hg9 hlit
      have HG9 := Lib.hid (grown_trans (grown_alloc HG1.out _) hg9)
      clear hi1 hg9 hs9 hlit
      go_wp2
      go_ret
      exact CellsDW.one 1 0 t (by omega) ⟨ht, fun h => absurd h (show ¬ ((1 : Int) = 2) by decide)⟩ hC (hr9.mono (by omega)) HG9.out
    · go_wp2_with fail
      refine (pick_any R (p + 1) 6 _ (by omega) (hr1.kept (World.grownBy_alloc w1 _ none) (by simp))).mono ?_
      rintro e w9 ⟨i, rfl, hi0, hi1, -, hr9, hg9, hs9⟩
      have hi2 := hi1 (by omega)
      obtain ⟨i1, rfl⟩ := Int.eq_ofNat_of_zero_le hi0
      obtain ⟨t, ht, hlit⟩ := lit_txtW i1 (by omega)
      have hcell9 := lit_cell hr1.lt hg9 hlit
      have HG9 := Lib.hid (grown_trans (grown_alloc HG1.out _) hg9)
      clear hi1 hg9 hs9 hlit
      go_wp2
      go_ret
      exact CellsDW.one 2 0 t (by omega) ⟨ht.1, fun _ => ht.2⟩ hC (hr9.mono (by omega)) HG9.out
    · go_wp2_with fail
      refine (pick_any R (p + 1) 2 _ (by omega) (hr1.kept (World.grownBy_alloc w1 _ none) (by simp))).mono ?_
      rintro e w9 ⟨i, rfl, hi0, hi1, -, hr9, hg9, hs9⟩
      have hi2 := hi1 (by omega)
      obtain ⟨i1, rfl⟩ := Int.eq_ofNat_of_zero_le hi0
      obtain ⟨t, ht, hlit⟩ := lit_truW i1 (by omega)
      have hcell9 := lit_cell hr1.lt hg9 hlit
      have HG9 := Lib.hid (grown_trans (grown_alloc HG1.out _) hg9)
      clear hi1 hg9 hs9 hlit
      go_wp2
      go_ret
      exact CellsDW.one 3 0 t (by omega) ⟨ht, fun h => absurd h (show ¬ ((3 : Int) = 2) by decide)⟩ hC (hr9.mono (by omega)) HG9.out
    · go_wp2_with fail
      refine (name_any R (p + 1) 0 _ (by omega) (by omega) (by omega) hr1).mono ?_
      rintro e w9 ⟨t, rfl, ht, hr9, hg9⟩
      have HG9 := Lib.hid (grown_trans HG1.out hg9)
      clear hg9
      go_wp2
      go_ret
      exact CellsDW.one 4 0 t (by omega) ⟨show t.size ≤ 60 by omega, fun h => absurd h (show ¬ ((4 : Int) = 2) by decide)⟩ hC (hr9.mono (by omega)) HG9.out
    · go_wp2_with fail
      refine (pick_any R (p + 1) 3 _ (by omega) hr1).mono ?_
      rintro e w2 ⟨i, rfl, hi0, hi1, -, hr2, hg2, hs2⟩
      have hi2 := hi1 (by omega)
      obtain ⟨i1, rfl⟩ := Int.eq_ofNat_of_zero_le hi0
      have HG2 := Lib.hid (grown_trans HG1.out hg2)
      clear hi1 hg2 hs2 hcell
      go_wp2_with fail
      refine (pick_any R (p + 1 + 1) 2 _ (by omega) hr2).mono ?_
      rintro e w3 ⟨y, rfl, hy0, hy1, -, hr3, hg3, hs3⟩
      have hy2 := hy1 (by omega)
      obtain ⟨y1, rfl⟩ := Int.eq_ofNat_of_zero_le hy0
      have HG3 := Lib.hid (grown_trans HG2.out hg3)
      have hr3' := hr3.kept (World.grownBy_alloc w3 (.cells #[.int .i64 0, .int .i64 0, .int .i64 0, .int .i64 0, .int .i64 0, .int .i64 (i1 : Int), .int .i64 (1 + (y1 : Int)), .int .i64 1, .int .i64 2, .int .i64 3] 3) none) (by simp)
      have HG3' := Lib.hid (grown_alloc HG3.out (.cells #[.int .i64 0, .int .i64 0, .int .i64 0, .int .i64 0, .int .i64 0, .int .i64 (i1 : Int), .int .i64 (1 + (y1 : Int)), .int .i64 1, .int .i64 2, .int .i64 3] 3))
      clear hy1 hg3 hs3 hr2 HG2
      go_wp2_with fail
      have ht : (ByteArray.empty : ByteArray).size ≤ 60 := by decide
      obtain ⟨M, hM⟩ : ∃ M : Nat, M = i1 := ⟨_, rfl⟩
      have hMI : (i1 : Int) = (M : Int) := by omega
      have HMI := Lib.hid hMI; clear hMI
      have hM3 : M ≤ 3 := by omega
      have HOS := Lib.hid (World.ownsRow_lit (base := w.heap.size) (e := 41) (size := 3) _ #[.int .i64 5, .string ByteArray.empty, .int .i64 (i1 : Int)] 1 HG3'.out.size (by unfold maxLen; omega) rfl)
      have HOS := Lib.hid (show _ from (show (w3.alloc (.cells #[.int .i64 0, .int .i64 0, .int .i64 0, .int .i64 0, .int .i64 0, .int .i64 (i1 : Int), .int .i64 (1 + (y1 : Int)), .int .i64 1, .int .i64 2, .int .i64 3] 3)).heap.size = w3.heap.size + 1 by simp) ▸ HOS.out)
      have HGS := Lib.hid (grown_alloc HG3'.out (.cells #[.int .i64 5, .string ByteArray.empty, .int .i64 (i1 : Int)] 41))
      have HRS := Lib.hid ((hr3'.kept (World.grownBy_alloc _ (.cells #[.int .i64 5, .string ByteArray.empty, .int .i64 (i1 : Int)] 41) none) (by simp)).mono (show _ ≤ p + 4 + 0 * kd by omega))
      have HLT := Lib.hid h.lt
      go_loopw [8, 9] (fun out i wr => ∃ (k : Nat) (l' : List Cl), k ≤ M ∧ i = .int .i64 (k : Int) ∧ wr.ownsRow w.heap.size 41 3 out l'.length (flatC l') ∧ (∀ c ∈ l', WdC c) ∧ 1 ≤ l'.length ∧ (l'.length ≤ 1 + k * cd ∧ 3 * nlC l' + k ≤ 3 + k * cd) ∧ Rdm wr R (p + 4 + k * kd) ∧ w.grownBy wr (some R)) (fun _ i _ => M - (intOf i).toNat)
      case atStart => exact ⟨0, [(5, ByteArray.empty, (i1 : Int))], Nat.zero_le _, rfl, HOS.out, (fun c hc => by rw [List.mem_singleton] at hc; subst hc; exact ⟨ht, fun h => absurd h (show ¬ ((5 : Int) = 2) by decide)⟩), Nat.le_refl _, ⟨by simp, by have := nlC_one (5, ByteArray.empty, (i1 : Int)); omega⟩, HRS.out, HGS.out⟩
      case round =>
        obtain ⟨k, l', hk, rfl, hown, hsh, hl1, ⟨hlc, hnl⟩, hr, hg⟩ := hrel
        have HO := Lib.hid hown; have HSH := Lib.hid hsh; have HR := Lib.hid hr; have HG := Lib.hid hg
        clear hown hsh hr hg
        have hkc : k * cd ≤ 3 * cd := Nat.mul_le_mul_right _ (by omega)
        have hkk : k * kd ≤ 3 * kd := Nat.mul_le_mul_right _ (by omega)
        have HS1 := Lib.hid (show (k + 1) * cd = k * cd + cd from Nat.succ_mul k cd); have HS2 := Lib.hid (show (k + 1) * kd = k * kd + kd from Nat.succ_mul k kd)
        by_cases hlt : k < M
        · have hltI : (k : Int) < (i1 : Int) := by have := HMI.out; omega
          have hkk1 : (k + 1) * kd ≤ 3 * kd := Nat.mul_le_mul_right _ (by omega)
          have hb1 : p + 4 + k * kd + kd < 1073741824 := by have := HS2.out; have := HKP.out; omega
          go_wp2_with fail
          rw [HDM.out]
          refine (IH.out R (p + 4 + k * kd) _ (by omega) (by rw [HKD.out]; exact hb1) HR.out).mono ?_
          rintro e w5 ⟨v5, l5, rfl, ho5, hsh5, h15, ⟨hc5, hn5⟩, hr5, hg5⟩
          rw [HKD.out] at hr5; rw [HCD.out] at hc5 hn5; have HN5 := Lib.hid hn5; have HNL := Lib.hid hnl; clear hn5 hnl
          have HO5 := Lib.hid (HO.out.kept hg5 (.inr (by intro he; have := (HO.out.lt _ he).1; have := HLT.out; omega)))
          have HG5 := Lib.hid (grown_trans HG.out hg5)
          have HP5 := Lib.hid ho5; have HSH5 := Lib.hid hsh5; have HR5 := Lib.hid hr5
          clear ho5 hsh5 hr5 hg5
          have hll : l'.length + l5.length ≤ 1000 := by omega
          go_wp2_with (at_builtin; refine append_rows rfl _ _ 25 rfl w.heap.size 41 i0 (.agg #[.int .i64 0, .string ByteArray.empty, .int .i64 0]) 3 32 Tryz.underlying25 hi hz0 hz1 hz2 rfl (by decide) _ _ _ rfl HO5.out _ _ _ _ rfl HP5.out (flatC_one _) (by unfold maxLen; omega) (by omega) HG5.out.size ?_; intro v6 w6 hown6 hgrow6; have HO6 := Lib.hid hown6; have HG6 := Lib.hid (grown_ownW HG5.out hgrow6 (fun q hq => (HO5.out.lt q hq).1)); have HR6 := Lib.hid (HR5.out.kept hgrow6 (fun q hq => by have := (HO5.out.lt q hq).1; have := HLT.out; omega)); clear hown6 hgrow6)
          go_roundw
          case rel => exact ⟨k + 1, l' ++ l5, by omega, by go_num, by rw [List.length_append, flatC_append]; exact HO6.out, (fun c hc => by rw [List.mem_append] at hc; exact hc.elim (HSH.out c) (HSH5.out c)), by rw [List.length_append]; omega, ⟨by rw [List.length_append]; have := HS1.out; omega, by rw [nlC_append]; have := HS1.out; have := HN5.out; have := HNL.out; omega⟩, HR6.out.mono (by have := HS2.out; omega), HG6.out⟩
          case measure => simp [intOf]; omega
        · obtain rfl : k = M := by omega
          have HNL := Lib.hid hnl; clear hnl
          have hltI : ¬ (k : Int) < (i1 : Int) := by have := HMI.out; omega
          go_wp2
          go_ret
          exact ⟨_, l', rfl, HO.out, HSH.out, hl1, ⟨by have := HCB.out; omega, by have := nl_end hM3 HC1.out HNL.out; have := HCB.out; omega⟩, HR.out.mono (by have := HKP.out; omega), HG.out⟩
    · go_wp2_with fail
      refine (pick_any R (p + 1) 3 _ (by omega) hr1).mono ?_
      rintro e w2 ⟨i, rfl, hi0, hi1, -, hr2, hg2, hs2⟩
      have hi2 := hi1 (by omega)
      obtain ⟨i1, rfl⟩ := Int.eq_ofNat_of_zero_le hi0
      have HG2 := Lib.hid (grown_trans HG1.out hg2)
      clear hi1 hg2 hs2 hcell
      go_wp2_with fail
      refine (pick_any R (p + 1 + 1) 2 _ (by omega) hr2).mono ?_
      rintro e w3 ⟨y, rfl, hy0, hy1, -, hr3, hg3, hs3⟩
      have hy2 := hy1 (by omega)
      obtain ⟨y1, rfl⟩ := Int.eq_ofNat_of_zero_le hy0
      have HG3 := Lib.hid (grown_trans HG2.out hg3)
      have hr3' := hr3.kept (World.grownBy_alloc w3 (.cells #[.int .i64 0, .int .i64 0, .int .i64 0, .int .i64 0, .int .i64 0, .int .i64 (i1 : Int), .int .i64 (1 + (y1 : Int)), .int .i64 1, .int .i64 2, .int .i64 3] 3) none) (by simp)
      have HG3' := Lib.hid (grown_alloc HG3.out (.cells #[.int .i64 0, .int .i64 0, .int .i64 0, .int .i64 0, .int .i64 0, .int .i64 (i1 : Int), .int .i64 (1 + (y1 : Int)), .int .i64 1, .int .i64 2, .int .i64 3] 3))
      clear hy1 hg3 hs3 hr2 HG2
      go_wp2_with fail
      refine (pick_any R (p + 1 + 1 + 1) 9 _ (by omega) (hr3'.kept (World.grownBy_alloc _ _ none) (by simp))).mono ?_
      rintro e w9 ⟨x, rfl, hx0, hx1, -, hr9, hg9, hs9⟩
      have hx2 := hx1 (by omega)
      obtain ⟨x1, rfl⟩ := Int.eq_ofNat_of_zero_le hx0
      obtain ⟨t, ht, hlit⟩ := lit_calW x1 (by omega)
      have hcell9 := lit_cell1 hr3.lt hg9 hlit
      have HG9 := Lib.hid (grown_trans (grown_alloc HG3'.out _) hg9)
      clear hx1 hg9 hs9 hlit
      go_wp2_with fail
      obtain ⟨M, hM⟩ : ∃ M : Nat, M = (1 + y1) := ⟨_, rfl⟩
      have hMI : (1 + (y1 : Int)) = (M : Int) := by omega
      have HMI := Lib.hid hMI; clear hMI
      have hM3 : M ≤ 3 := by omega
      have HOS := Lib.hid (World.ownsRow_lit (base := w.heap.size) (e := 41) (size := 3) _ #[.int .i64 6, .string t, .int .i64 (1 + (y1 : Int))] 1 HG9.out.size (by unfold maxLen; omega) rfl)
      have HGS := Lib.hid (grown_alloc HG9.out (.cells #[.int .i64 6, .string t, .int .i64 (1 + (y1 : Int))] 41))
      have HRS := Lib.hid ((hr9.kept (World.grownBy_alloc _ (.cells #[.int .i64 6, .string t, .int .i64 (1 + (y1 : Int))] 41) none) (by simp)).mono (show _ ≤ p + 4 + 0 * kd by omega))
      have HLT := Lib.hid h.lt
      go_loopw [8, 9] (fun out i wr => ∃ (k : Nat) (l' : List Cl), k ≤ M ∧ i = .int .i64 (k : Int) ∧ wr.ownsRow w.heap.size 41 3 out l'.length (flatC l') ∧ (∀ c ∈ l', WdC c) ∧ 1 ≤ l'.length ∧ (l'.length ≤ 1 + k * cd ∧ 3 * nlC l' + k ≤ 3 + k * cd) ∧ Rdm wr R (p + 4 + k * kd) ∧ w.grownBy wr (some R)) (fun _ i _ => M - (intOf i).toNat)
      case atStart => exact ⟨0, [(6, t, (1 + (y1 : Int)))], Nat.zero_le _, rfl, HOS.out, (fun c hc => by rw [List.mem_singleton] at hc; subst hc; exact ⟨ht, fun h => absurd h (show ¬ ((6 : Int) = 2) by decide)⟩), Nat.le_refl _, ⟨by simp, by have := nlC_one (6, t, (1 + (y1 : Int))); omega⟩, HRS.out, HGS.out⟩
      case round =>
        obtain ⟨k, l', hk, rfl, hown, hsh, hl1, ⟨hlc, hnl⟩, hr, hg⟩ := hrel
        have HO := Lib.hid hown; have HSH := Lib.hid hsh; have HR := Lib.hid hr; have HG := Lib.hid hg
        clear hown hsh hr hg
        have hkc : k * cd ≤ 3 * cd := Nat.mul_le_mul_right _ (by omega)
        have hkk : k * kd ≤ 3 * kd := Nat.mul_le_mul_right _ (by omega)
        have HS1 := Lib.hid (show (k + 1) * cd = k * cd + cd from Nat.succ_mul k cd); have HS2 := Lib.hid (show (k + 1) * kd = k * kd + kd from Nat.succ_mul k kd)
        by_cases hlt : k < M
        · have hltI : (k : Int) < (1 + (y1 : Int)) := by have := HMI.out; omega
          have hkk1 : (k + 1) * kd ≤ 3 * kd := Nat.mul_le_mul_right _ (by omega)
          have hb1 : p + 4 + k * kd + kd < 1073741824 := by have := HS2.out; have := HKP.out; omega
          go_wp2_with fail
          rw [HDM.out]
          refine (IH.out R (p + 4 + k * kd) _ (by omega) (by rw [HKD.out]; exact hb1) HR.out).mono ?_
          rintro e w5 ⟨v5, l5, rfl, ho5, hsh5, h15, ⟨hc5, hn5⟩, hr5, hg5⟩
          rw [HKD.out] at hr5; rw [HCD.out] at hc5 hn5; have HN5 := Lib.hid hn5; have HNL := Lib.hid hnl; clear hn5 hnl
          have HO5 := Lib.hid (HO.out.kept hg5 (.inr (by intro he; have := (HO.out.lt _ he).1; have := HLT.out; omega)))
          have HG5 := Lib.hid (grown_trans HG.out hg5)
          have HP5 := Lib.hid ho5; have HSH5 := Lib.hid hsh5; have HR5 := Lib.hid hr5
          clear ho5 hsh5 hr5 hg5
          have hll : l'.length + l5.length ≤ 1000 := by omega
          go_wp2_with (at_builtin; refine append_rows rfl _ _ 25 rfl w.heap.size 41 i0 (.agg #[.int .i64 0, .string ByteArray.empty, .int .i64 0]) 3 32 Tryz.underlying25 hi hz0 hz1 hz2 rfl (by decide) _ _ _ rfl HO5.out _ _ _ _ rfl HP5.out (flatC_one _) (by unfold maxLen; omega) (by omega) HG5.out.size ?_; intro v6 w6 hown6 hgrow6; have HO6 := Lib.hid hown6; have HG6 := Lib.hid (grown_ownW HG5.out hgrow6 (fun q hq => (HO5.out.lt q hq).1)); have HR6 := Lib.hid (HR5.out.kept hgrow6 (fun q hq => by have := (HO5.out.lt q hq).1; have := HLT.out; omega)); clear hown6 hgrow6)
          go_roundw
          case rel => exact ⟨k + 1, l' ++ l5, by omega, by go_num, by rw [List.length_append, flatC_append]; exact HO6.out, (fun c hc => by rw [List.mem_append] at hc; exact hc.elim (HSH.out c) (HSH5.out c)), by rw [List.length_append]; omega, ⟨by rw [List.length_append]; have := HS1.out; omega, by rw [nlC_append]; have := HS1.out; have := HN5.out; have := HNL.out; omega⟩, HR6.out.mono (by have := HS2.out; omega), HG6.out⟩
          case measure => simp [intOf]; omega
        · obtain rfl : k = M := by omega
          have HNL := Lib.hid hnl; clear hnl
          have hltI : ¬ (k : Int) < (1 + (y1 : Int)) := by have := HMI.out; omega
          go_wp2
          go_ret
          exact ⟨_, l', rfl, HO.out, HSH.out, hl1, ⟨by have := HCB.out; omega, by have := nl_end hM3 HC1.out HNL.out; have := HCB.out; omega⟩, HR.out.mono (by have := HKP.out; omega), HG.out⟩
    · go_wp2_with fail
      refine (pick_any R (p + 1) 3 _ (by omega) hr1).mono ?_
      rintro e w2 ⟨i, rfl, hi0, hi1, -, hr2, hg2, hs2⟩
      have hi2 := hi1 (by omega)
      obtain ⟨i1, rfl⟩ := Int.eq_ofNat_of_zero_le hi0
      have HG2 := Lib.hid (grown_trans HG1.out hg2)
      clear hi1 hg2 hs2 hcell
      go_wp2_with fail
      refine (pick_any R (p + 1 + 1) 2 _ (by omega) hr2).mono ?_
      rintro e w3 ⟨y, rfl, hy0, hy1, -, hr3, hg3, hs3⟩
      have hy2 := hy1 (by omega)
      obtain ⟨y1, rfl⟩ := Int.eq_ofNat_of_zero_le hy0
      have HG3 := Lib.hid (grown_trans HG2.out hg3)
      have hr3' := hr3.kept (World.grownBy_alloc w3 (.cells #[.int .i64 0, .int .i64 0, .int .i64 0, .int .i64 0, .int .i64 0, .int .i64 (i1 : Int), .int .i64 (1 + (y1 : Int)), .int .i64 1, .int .i64 2, .int .i64 3] 3) none) (by simp)
      have HG3' := Lib.hid (grown_alloc HG3.out (.cells #[.int .i64 0, .int .i64 0, .int .i64 0, .int .i64 0, .int .i64 0, .int .i64 (i1 : Int), .int .i64 (1 + (y1 : Int)), .int .i64 1, .int .i64 2, .int .i64 3] 3))
      clear hy1 hg3 hs3 hr2 HG2
      go_wp2_with fail
      refine (pick_any R (p + 1 + 1 + 1) 2 _ (by omega) (hr3'.kept (World.grownBy_alloc _ _ none) (by simp))).mono ?_
      rintro e w9 ⟨x, rfl, hx0, hx1, -, hr9, hg9, hs9⟩
      have hx2 := hx1 (by omega)
      obtain ⟨x1, rfl⟩ := Int.eq_ofNat_of_zero_le hx0
      obtain ⟨t, ht, hlit⟩ := lit_unaW x1 (by omega)
      have hcell9 := lit_cell1 hr3.lt hg9 hlit
      have HG9 := Lib.hid (grown_trans (grown_alloc HG3'.out _) hg9)
      clear hx1 hg9 hs9 hlit
      go_wp2_with fail
      obtain ⟨M, hM⟩ : ∃ M : Nat, M = 1 := ⟨_, rfl⟩
      have hMI : 1 = (M : Int) := by omega
      have HMI := Lib.hid hMI; clear hMI
      have hM3 : M ≤ 3 := by omega
      have HOS := Lib.hid (World.ownsRow_lit (base := w.heap.size) (e := 41) (size := 3) _ #[.int .i64 7, .string t, .int .i64 1] 1 HG9.out.size (by unfold maxLen; omega) rfl)
      have HGS := Lib.hid (grown_alloc HG9.out (.cells #[.int .i64 7, .string t, .int .i64 1] 41))
      have HRS := Lib.hid ((hr9.kept (World.grownBy_alloc _ (.cells #[.int .i64 7, .string t, .int .i64 1] 41) none) (by simp)).mono (show _ ≤ p + 4 + 0 * kd by omega))
      have HLT := Lib.hid h.lt
      go_loopw [8, 9] (fun out i wr => ∃ (k : Nat) (l' : List Cl), k ≤ M ∧ i = .int .i64 (k : Int) ∧ wr.ownsRow w.heap.size 41 3 out l'.length (flatC l') ∧ (∀ c ∈ l', WdC c) ∧ 1 ≤ l'.length ∧ (l'.length ≤ 1 + k * cd ∧ 3 * nlC l' + k ≤ 3 + k * cd) ∧ Rdm wr R (p + 4 + k * kd) ∧ w.grownBy wr (some R)) (fun _ i _ => M - (intOf i).toNat)
      case atStart => exact ⟨0, [(7, t, 1)], Nat.zero_le _, rfl, HOS.out, (fun c hc => by rw [List.mem_singleton] at hc; subst hc; exact ⟨ht, fun h => absurd h (show ¬ ((7 : Int) = 2) by decide)⟩), Nat.le_refl _, ⟨by simp, by have := nlC_one (7, t, 1); omega⟩, HRS.out, HGS.out⟩
      case round =>
        obtain ⟨k, l', hk, rfl, hown, hsh, hl1, ⟨hlc, hnl⟩, hr, hg⟩ := hrel
        have HO := Lib.hid hown; have HSH := Lib.hid hsh; have HR := Lib.hid hr; have HG := Lib.hid hg
        clear hown hsh hr hg
        have hkc : k * cd ≤ 3 * cd := Nat.mul_le_mul_right _ (by omega)
        have hkk : k * kd ≤ 3 * kd := Nat.mul_le_mul_right _ (by omega)
        have HS1 := Lib.hid (show (k + 1) * cd = k * cd + cd from Nat.succ_mul k cd); have HS2 := Lib.hid (show (k + 1) * kd = k * kd + kd from Nat.succ_mul k kd)
        by_cases hlt : k < M
        · have hltI : (k : Int) < 1 := by have := HMI.out; omega
          have hkk1 : (k + 1) * kd ≤ 3 * kd := Nat.mul_le_mul_right _ (by omega)
          have hb1 : p + 4 + k * kd + kd < 1073741824 := by have := HS2.out; have := HKP.out; omega
          go_wp2_with fail
          rw [HDM.out]
          refine (IH.out R (p + 4 + k * kd) _ (by omega) (by rw [HKD.out]; exact hb1) HR.out).mono ?_
          rintro e w5 ⟨v5, l5, rfl, ho5, hsh5, h15, ⟨hc5, hn5⟩, hr5, hg5⟩
          rw [HKD.out] at hr5; rw [HCD.out] at hc5 hn5; have HN5 := Lib.hid hn5; have HNL := Lib.hid hnl; clear hn5 hnl
          have HO5 := Lib.hid (HO.out.kept hg5 (.inr (by intro he; have := (HO.out.lt _ he).1; have := HLT.out; omega)))
          have HG5 := Lib.hid (grown_trans HG.out hg5)
          have HP5 := Lib.hid ho5; have HSH5 := Lib.hid hsh5; have HR5 := Lib.hid hr5
          clear ho5 hsh5 hr5 hg5
          have hll : l'.length + l5.length ≤ 1000 := by omega
          go_wp2_with (at_builtin; refine append_rows rfl _ _ 25 rfl w.heap.size 41 i0 (.agg #[.int .i64 0, .string ByteArray.empty, .int .i64 0]) 3 32 Tryz.underlying25 hi hz0 hz1 hz2 rfl (by decide) _ _ _ rfl HO5.out _ _ _ _ rfl HP5.out (flatC_one _) (by unfold maxLen; omega) (by omega) HG5.out.size ?_; intro v6 w6 hown6 hgrow6; have HO6 := Lib.hid hown6; have HG6 := Lib.hid (grown_ownW HG5.out hgrow6 (fun q hq => (HO5.out.lt q hq).1)); have HR6 := Lib.hid (HR5.out.kept hgrow6 (fun q hq => by have := (HO5.out.lt q hq).1; have := HLT.out; omega)); clear hown6 hgrow6)
          go_roundw
          case rel => exact ⟨k + 1, l' ++ l5, by omega, by go_num, by rw [List.length_append, flatC_append]; exact HO6.out, (fun c hc => by rw [List.mem_append] at hc; exact hc.elim (HSH.out c) (HSH5.out c)), by rw [List.length_append]; omega, ⟨by rw [List.length_append]; have := HS1.out; omega, by rw [nlC_append]; have := HS1.out; have := HN5.out; have := HNL.out; omega⟩, HR6.out.mono (by have := HS2.out; omega), HG6.out⟩
          case measure => simp [intOf]; omega
        · obtain rfl : k = M := by omega
          have HNL := Lib.hid hnl; clear hnl
          have hltI : ¬ (k : Int) < 1 := by have := HMI.out; omega
          go_wp2
          go_ret
          exact ⟨_, l', rfl, HO.out, HSH.out, hl1, ⟨by have := HCB.out; omega, by have := nl_end hM3 HC1.out HNL.out; have := HCB.out; omega⟩, HR.out.mono (by have := HKP.out; omega), HG.out⟩
    · go_wp2_with fail
      refine (pick_any R (p + 1) 3 _ (by omega) hr1).mono ?_
      rintro e w2 ⟨i, rfl, hi0, hi1, -, hr2, hg2, hs2⟩
      have hi2 := hi1 (by omega)
      obtain ⟨i1, rfl⟩ := Int.eq_ofNat_of_zero_le hi0
      have HG2 := Lib.hid (grown_trans HG1.out hg2)
      clear hi1 hg2 hs2 hcell
      go_wp2_with fail
      refine (pick_any R (p + 1 + 1) 2 _ (by omega) hr2).mono ?_
      rintro e w3 ⟨y, rfl, hy0, hy1, -, hr3, hg3, hs3⟩
      have hy2 := hy1 (by omega)
      obtain ⟨y1, rfl⟩ := Int.eq_ofNat_of_zero_le hy0
      have HG3 := Lib.hid (grown_trans HG2.out hg3)
      have hr3' := hr3.kept (World.grownBy_alloc w3 (.cells #[.int .i64 0, .int .i64 0, .int .i64 0, .int .i64 0, .int .i64 0, .int .i64 (i1 : Int), .int .i64 (1 + (y1 : Int)), .int .i64 1, .int .i64 2, .int .i64 3] 3) none) (by simp)
      have HG3' := Lib.hid (grown_alloc HG3.out (.cells #[.int .i64 0, .int .i64 0, .int .i64 0, .int .i64 0, .int .i64 0, .int .i64 (i1 : Int), .int .i64 (1 + (y1 : Int)), .int .i64 1, .int .i64 2, .int .i64 3] 3))
      clear hy1 hg3 hs3 hr2 HG2
      go_wp2_with fail
      refine (pick_any R (p + 1 + 1 + 1) 15 _ (by omega) (hr3'.kept (World.grownBy_alloc _ _ none) (by simp))).mono ?_
      rintro e w9 ⟨x, rfl, hx0, hx1, -, hr9, hg9, hs9⟩
      have hx2 := hx1 (by omega)
      obtain ⟨x1, rfl⟩ := Int.eq_ofNat_of_zero_le hx0
      obtain ⟨t, ht, hlit⟩ := lit_binW x1 (by omega)
      have hcell9 := lit_cell1 hr3.lt hg9 hlit
      have HG9 := Lib.hid (grown_trans (grown_alloc HG3'.out _) hg9)
      clear hx1 hg9 hs9 hlit
      go_wp2_with fail
      obtain ⟨M, hM⟩ : ∃ M : Nat, M = 2 := ⟨_, rfl⟩
      have hMI : 2 = (M : Int) := by omega
      have HMI := Lib.hid hMI; clear hMI
      have hM3 : M ≤ 3 := by omega
      have HOS := Lib.hid (World.ownsRow_lit (base := w.heap.size) (e := 41) (size := 3) _ #[.int .i64 8, .string t, .int .i64 2] 1 HG9.out.size (by unfold maxLen; omega) rfl)
      have HGS := Lib.hid (grown_alloc HG9.out (.cells #[.int .i64 8, .string t, .int .i64 2] 41))
      have HRS := Lib.hid ((hr9.kept (World.grownBy_alloc _ (.cells #[.int .i64 8, .string t, .int .i64 2] 41) none) (by simp)).mono (show _ ≤ p + 4 + 0 * kd by omega))
      have HLT := Lib.hid h.lt
      go_loopw [8, 9] (fun out i wr => ∃ (k : Nat) (l' : List Cl), k ≤ M ∧ i = .int .i64 (k : Int) ∧ wr.ownsRow w.heap.size 41 3 out l'.length (flatC l') ∧ (∀ c ∈ l', WdC c) ∧ 1 ≤ l'.length ∧ (l'.length ≤ 1 + k * cd ∧ 3 * nlC l' + k ≤ 3 + k * cd) ∧ Rdm wr R (p + 4 + k * kd) ∧ w.grownBy wr (some R)) (fun _ i _ => M - (intOf i).toNat)
      case atStart => exact ⟨0, [(8, t, 2)], Nat.zero_le _, rfl, HOS.out, (fun c hc => by rw [List.mem_singleton] at hc; subst hc; exact ⟨ht, fun h => absurd h (show ¬ ((8 : Int) = 2) by decide)⟩), Nat.le_refl _, ⟨by simp, by have := nlC_one (8, t, 2); omega⟩, HRS.out, HGS.out⟩
      case round =>
        obtain ⟨k, l', hk, rfl, hown, hsh, hl1, ⟨hlc, hnl⟩, hr, hg⟩ := hrel
        have HO := Lib.hid hown; have HSH := Lib.hid hsh; have HR := Lib.hid hr; have HG := Lib.hid hg
        clear hown hsh hr hg
        have hkc : k * cd ≤ 3 * cd := Nat.mul_le_mul_right _ (by omega)
        have hkk : k * kd ≤ 3 * kd := Nat.mul_le_mul_right _ (by omega)
        have HS1 := Lib.hid (show (k + 1) * cd = k * cd + cd from Nat.succ_mul k cd); have HS2 := Lib.hid (show (k + 1) * kd = k * kd + kd from Nat.succ_mul k kd)
        by_cases hlt : k < M
        · have hltI : (k : Int) < 2 := by have := HMI.out; omega
          have hkk1 : (k + 1) * kd ≤ 3 * kd := Nat.mul_le_mul_right _ (by omega)
          have hb1 : p + 4 + k * kd + kd < 1073741824 := by have := HS2.out; have := HKP.out; omega
          go_wp2_with fail
          rw [HDM.out]
          refine (IH.out R (p + 4 + k * kd) _ (by omega) (by rw [HKD.out]; exact hb1) HR.out).mono ?_
          rintro e w5 ⟨v5, l5, rfl, ho5, hsh5, h15, ⟨hc5, hn5⟩, hr5, hg5⟩
          rw [HKD.out] at hr5; rw [HCD.out] at hc5 hn5; have HN5 := Lib.hid hn5; have HNL := Lib.hid hnl; clear hn5 hnl
          have HO5 := Lib.hid (HO.out.kept hg5 (.inr (by intro he; have := (HO.out.lt _ he).1; have := HLT.out; omega)))
          have HG5 := Lib.hid (grown_trans HG.out hg5)
          have HP5 := Lib.hid ho5; have HSH5 := Lib.hid hsh5; have HR5 := Lib.hid hr5
          clear ho5 hsh5 hr5 hg5
          have hll : l'.length + l5.length ≤ 1000 := by omega
          go_wp2_with (at_builtin; refine append_rows rfl _ _ 25 rfl w.heap.size 41 i0 (.agg #[.int .i64 0, .string ByteArray.empty, .int .i64 0]) 3 32 Tryz.underlying25 hi hz0 hz1 hz2 rfl (by decide) _ _ _ rfl HO5.out _ _ _ _ rfl HP5.out (flatC_one _) (by unfold maxLen; omega) (by omega) HG5.out.size ?_; intro v6 w6 hown6 hgrow6; have HO6 := Lib.hid hown6; have HG6 := Lib.hid (grown_ownW HG5.out hgrow6 (fun q hq => (HO5.out.lt q hq).1)); have HR6 := Lib.hid (HR5.out.kept hgrow6 (fun q hq => by have := (HO5.out.lt q hq).1; have := HLT.out; omega)); clear hown6 hgrow6)
          go_roundw
          case rel => exact ⟨k + 1, l' ++ l5, by omega, by go_num, by rw [List.length_append, flatC_append]; exact HO6.out, (fun c hc => by rw [List.mem_append] at hc; exact hc.elim (HSH.out c) (HSH5.out c)), by rw [List.length_append]; omega, ⟨by rw [List.length_append]; have := HS1.out; omega, by rw [nlC_append]; have := HS1.out; have := HN5.out; have := HNL.out; omega⟩, HR6.out.mono (by have := HS2.out; omega), HG6.out⟩
          case measure => simp [intOf]; omega
        · obtain rfl : k = M := by omega
          have HNL := Lib.hid hnl; clear hnl
          have hltI : ¬ (k : Int) < 2 := by have := HMI.out; omega
          go_wp2
          go_ret
          exact ⟨_, l', rfl, HO.out, HSH.out, hl1, ⟨by have := HCB.out; omega, by have := nl_end hM3 HC1.out HNL.out; have := HCB.out; omega⟩, HR.out.mono (by have := HKP.out; omega), HG.out⟩
    · go_wp2_with fail
      refine (pick_any R (p + 1) 3 _ (by omega) hr1).mono ?_
      rintro e w2 ⟨i, rfl, hi0, hi1, -, hr2, hg2, hs2⟩
      have hi2 := hi1 (by omega)
      obtain ⟨i1, rfl⟩ := Int.eq_ofNat_of_zero_le hi0
      have HG2 := Lib.hid (grown_trans HG1.out hg2)
      clear hi1 hg2 hs2 hcell
      go_wp2_with fail
      refine (pick_any R (p + 1 + 1) 2 _ (by omega) hr2).mono ?_
      rintro e w3 ⟨y, rfl, hy0, hy1, -, hr3, hg3, hs3⟩
      have hy2 := hy1 (by omega)
      obtain ⟨y1, rfl⟩ := Int.eq_ofNat_of_zero_le hy0
      have HG3 := Lib.hid (grown_trans HG2.out hg3)
      have hr3' := hr3.kept (World.grownBy_alloc w3 (.cells #[.int .i64 0, .int .i64 0, .int .i64 0, .int .i64 0, .int .i64 0, .int .i64 (i1 : Int), .int .i64 (1 + (y1 : Int)), .int .i64 1, .int .i64 2, .int .i64 3] 3) none) (by simp)
      have HG3' := Lib.hid (grown_alloc HG3.out (.cells #[.int .i64 0, .int .i64 0, .int .i64 0, .int .i64 0, .int .i64 0, .int .i64 (i1 : Int), .int .i64 (1 + (y1 : Int)), .int .i64 1, .int .i64 2, .int .i64 3] 3))
      clear hy1 hg3 hs3 hr2 HG2
      go_wp2_with fail
      have ht : (ByteArray.empty : ByteArray).size ≤ 60 := by decide
      obtain ⟨M, hM⟩ : ∃ M : Nat, M = 3 := ⟨_, rfl⟩
      have hMI : 3 = (M : Int) := by omega
      have HMI := Lib.hid hMI; clear hMI
      have hM3 : M ≤ 3 := by omega
      have HOS := Lib.hid (World.ownsRow_lit (base := w.heap.size) (e := 41) (size := 3) _ #[.int .i64 9, .string ByteArray.empty, .int .i64 3] 1 HG3'.out.size (by unfold maxLen; omega) rfl)
      have HOS := Lib.hid (show _ from (show (w3.alloc (.cells #[.int .i64 0, .int .i64 0, .int .i64 0, .int .i64 0, .int .i64 0, .int .i64 (i1 : Int), .int .i64 (1 + (y1 : Int)), .int .i64 1, .int .i64 2, .int .i64 3] 3)).heap.size = w3.heap.size + 1 by simp) ▸ HOS.out)
      have HGS := Lib.hid (grown_alloc HG3'.out (.cells #[.int .i64 9, .string ByteArray.empty, .int .i64 3] 41))
      have HRS := Lib.hid ((hr3'.kept (World.grownBy_alloc _ (.cells #[.int .i64 9, .string ByteArray.empty, .int .i64 3] 41) none) (by simp)).mono (show _ ≤ p + 4 + 0 * kd by omega))
      have HLT := Lib.hid h.lt
      go_loopw [8, 9] (fun out i wr => ∃ (k : Nat) (l' : List Cl), k ≤ M ∧ i = .int .i64 (k : Int) ∧ wr.ownsRow w.heap.size 41 3 out l'.length (flatC l') ∧ (∀ c ∈ l', WdC c) ∧ 1 ≤ l'.length ∧ (l'.length ≤ 1 + k * cd ∧ 3 * nlC l' + k ≤ 3 + k * cd) ∧ Rdm wr R (p + 4 + k * kd) ∧ w.grownBy wr (some R)) (fun _ i _ => M - (intOf i).toNat)
      case atStart => exact ⟨0, [(9, ByteArray.empty, 3)], Nat.zero_le _, rfl, HOS.out, (fun c hc => by rw [List.mem_singleton] at hc; subst hc; exact ⟨ht, fun h => absurd h (show ¬ ((9 : Int) = 2) by decide)⟩), Nat.le_refl _, ⟨by simp, by have := nlC_one (9, ByteArray.empty, 3); omega⟩, HRS.out, HGS.out⟩
      case round =>
        obtain ⟨k, l', hk, rfl, hown, hsh, hl1, ⟨hlc, hnl⟩, hr, hg⟩ := hrel
        have HO := Lib.hid hown; have HSH := Lib.hid hsh; have HR := Lib.hid hr; have HG := Lib.hid hg
        clear hown hsh hr hg
        have hkc : k * cd ≤ 3 * cd := Nat.mul_le_mul_right _ (by omega)
        have hkk : k * kd ≤ 3 * kd := Nat.mul_le_mul_right _ (by omega)
        have HS1 := Lib.hid (show (k + 1) * cd = k * cd + cd from Nat.succ_mul k cd); have HS2 := Lib.hid (show (k + 1) * kd = k * kd + kd from Nat.succ_mul k kd)
        by_cases hlt : k < M
        · have hltI : (k : Int) < 3 := by have := HMI.out; omega
          have hkk1 : (k + 1) * kd ≤ 3 * kd := Nat.mul_le_mul_right _ (by omega)
          have hb1 : p + 4 + k * kd + kd < 1073741824 := by have := HS2.out; have := HKP.out; omega
          go_wp2_with fail
          rw [HDM.out]
          refine (IH.out R (p + 4 + k * kd) _ (by omega) (by rw [HKD.out]; exact hb1) HR.out).mono ?_
          rintro e w5 ⟨v5, l5, rfl, ho5, hsh5, h15, ⟨hc5, hn5⟩, hr5, hg5⟩
          rw [HKD.out] at hr5; rw [HCD.out] at hc5 hn5; have HN5 := Lib.hid hn5; have HNL := Lib.hid hnl; clear hn5 hnl
          have HO5 := Lib.hid (HO.out.kept hg5 (.inr (by intro he; have := (HO.out.lt _ he).1; have := HLT.out; omega)))
          have HG5 := Lib.hid (grown_trans HG.out hg5)
          have HP5 := Lib.hid ho5; have HSH5 := Lib.hid hsh5; have HR5 := Lib.hid hr5
          clear ho5 hsh5 hr5 hg5
          have hll : l'.length + l5.length ≤ 1000 := by omega
          go_wp2_with (at_builtin; refine append_rows rfl _ _ 25 rfl w.heap.size 41 i0 (.agg #[.int .i64 0, .string ByteArray.empty, .int .i64 0]) 3 32 Tryz.underlying25 hi hz0 hz1 hz2 rfl (by decide) _ _ _ rfl HO5.out _ _ _ _ rfl HP5.out (flatC_one _) (by unfold maxLen; omega) (by omega) HG5.out.size ?_; intro v6 w6 hown6 hgrow6; have HO6 := Lib.hid hown6; have HG6 := Lib.hid (grown_ownW HG5.out hgrow6 (fun q hq => (HO5.out.lt q hq).1)); have HR6 := Lib.hid (HR5.out.kept hgrow6 (fun q hq => by have := (HO5.out.lt q hq).1; have := HLT.out; omega)); clear hown6 hgrow6)
          go_roundw
          case rel => exact ⟨k + 1, l' ++ l5, by omega, by go_num, by rw [List.length_append, flatC_append]; exact HO6.out, (fun c hc => by rw [List.mem_append] at hc; exact hc.elim (HSH.out c) (HSH5.out c)), by rw [List.length_append]; omega, ⟨by rw [List.length_append]; have := HS1.out; omega, by rw [nlC_append]; have := HS1.out; have := HN5.out; have := HNL.out; omega⟩, HR6.out.mono (by have := HS2.out; omega), HG6.out⟩
          case measure => simp [intOf]; omega
        · obtain rfl : k = M := by omega
          have HNL := Lib.hid hnl; clear hnl
          have hltI : ¬ (k : Int) < 3 := by have := HMI.out; omega
          go_wp2
          go_ret
          exact ⟨_, l', rfl, HO.out, HSH.out, hl1, ⟨by have := HCB.out; omega, by have := nl_end hM3 HC1.out HNL.out; have := HCB.out; omega⟩, HR.out.mono (by have := HKP.out; omega), HG.out⟩

end Go.Proofs.YtncehcklppakcaaGreatDoor

/-
  Drawn texts of expressions: spec.l20Written. Few of their bytes nest what follows.
-/
namespace Go.Proofs.YtncehcklppakcaaGreatDoor
open Go.RowKit
set_option linter.unusedVariables false

/-- A drawn expression that is not bent. -/
def ExprW (R p : Nat) (w : World) (e : Ending) (w' : World) : Prop :=
  ∃ (v : Value) (l : List Cl), e = .returned v ∧ w'.ownsRow w.heap.size 41 3 v l.length (flatC l) ∧ (∀ c ∈ l, WdC c) ∧ l.length ≤ 40 ∧ nlC l ≤ 13 ∧ Rdm w' R (p + 1000) ∧ w.grownBy w' (some R)
theorem slice_formW {w : World} {b m : Nat} {v : Value} {l : List Cl} (h : w.ownsRow b 41 3 v m (flatC l)) (hl : 1 ≤ l.length) : ∃ g cap, v = .slice (some ⟨g, 0, none⟩) l.length cap ∧ m = l.length ∧ b ≤ g ∧ g < w.heap.size ∧ l.length ≤ cap ∧ cap ≤ maxLen := by
  have hm := (RowC.of_own h).2
  subst hm
  rcases h.2 with ⟨rfl, h0⟩ | ⟨g, cap, cur, rfl, hb, hh, h1, h2, _⟩
  · omega
  · exact ⟨g, cap, rfl, rfl, hb, (h.lt g rfl).2, h1, h2⟩

set_option maxRecDepth 100000 in
set_option maxHeartbeats 4000000 in
theorem exprW_any (R p : Nat) (w : World) (hp : p < 100000000) (h : Rdm w R p) :
    Calls Tryz.prog 36 #[.pointer (some ⟨R, 0, none⟩), .int .i64 0] w (ExprW R p w) := by
  have HLT := Lib.hid h.lt
  go_enter Tryz.func36, Tryz.ntmps36
  go_wp2_with fail
  refine (pick_any R p 4 _ (by omega) h).mono ?_
  rintro e w1 ⟨i, rfl, hi0, hi1, -, hr1, hg1, hs1⟩
  have hi2 := hi1 (by omega)
  obtain ⟨i1, rfl⟩ := Int.eq_ofNat_of_zero_le hi0
  have HG1 := Lib.hid hg1
  have HDE := Lib.hid (show 1 + (i1 : Int) = ((1 + i1 : Nat) : Int) by omega)
  have hd4 : 1 + i1 = 1 ∨ 1 + i1 = 2 ∨ 1 + i1 = 3 ∨ 1 + i1 = 4 := by omega
  have hkp : kpW (1 + i1) ≤ 968 := by rcases hd4 with h | h | h | h <;> rw [h] <;> decide
  have hcb : cbW (1 + i1) ≤ 40 := by rcases hd4 with h | h | h | h <;> rw [h] <;> decide
  clear hi1 hg1 hs1 h hd4
  go_wp2_with fail
  rw [HDE.out]
  refine (cells_anyW (1 + i1) R (p + 1) _ (by omega) (by omega) hr1).mono ?_
  rintro e w2 ⟨v, l, rfl, hown, hsh, hl1, ⟨hlc, hnl⟩, hr2, hg2⟩
  obtain ⟨g, cap, rfl, -, hbg, hgl, hcap, hcm⟩ := slice_formW hown hl1
  unfold maxLen at hcm
  have hl40 : l.length ≤ 40 := by omega
  have hn13 : nlC l ≤ 13 := by omega
  have hR : w.heap.size ≤ w1.heap.size := HG1.out.size
  have HO := Lib.hid (hown.mono hR); have HSH := Lib.hid hsh
  have HG2 := Lib.hid (grown_trans HG1.out hg2)
  have hr2' : Rdm w2 R (p + 970) := hr2.mono (by omega)
  clear hown hsh hlc hr2 hg2 hr1 HG1 hkp hcb hnl
  go_wp2_with fail
  refine (odd_any R (p + 970) 0 _ (by omega) (by omega) (by omega) hr2').mono ?_
  rintro e w3 ⟨b, rfl, hbn, hr3, hg3, hs3⟩
  have HO3 := Lib.hid (HO.out.kept hg3 (.inr (by have := HLT.out; simp [Value.ownBlock]; omega)))
  have HG3 := Lib.hid (grown_trans HG2.out hg3)
  clear hg3 hs3 hr2' HO HG2
  obtain rfl : b = false := hbn (by decide)
  clear hbn
  go_wp2
  go_ret
  exact ⟨_, l, rfl, HO3.out, HSH.out, hl40, hn13, hr3.mono (by omega), HG3.out⟩

theorem end6W (m : Nat) (h : m < 6) : ∃ t : ByteArray, (t.size ≤ 2 ∧ nbB t ≤ 1) ∧ (#[Value.string ⟨#[41]⟩, .string ⟨#[43]⟩, .string ⟨#[93]⟩, .string ⟨#[32, 49]⟩, .string ⟨#[44]⟩, .string ⟨#[63]⟩] : Array Value)[m]? = some (.string t) := by
  match m, h with
  | 0, _ => exact ⟨_, by decide, rfl⟩
  | 1, _ => exact ⟨_, by decide, rfl⟩
  | 2, _ => exact ⟨_, by decide, rfl⟩
  | 3, _ => exact ⟨_, by decide, rfl⟩
  | 4, _ => exact ⟨_, by decide, rfl⟩
  | 5, _ => exact ⟨_, by decide, rfl⟩
theorem text16W (m : Nat) (h : m < 16) : ∃ t : ByteArray, (t.size ≤ 20 ∧ nbB t ≤ 4) ∧ (#[Value.string ⟨#[97, 32, 60, 32, 98, 32, 60, 32, 99]⟩, .string ⟨#[49, 46, 53, 48]⟩, .string ⟨#[40, 40, 49, 41, 41]⟩, .string ⟨#[97, 32, 63, 32, 98, 32, 58, 32, 99, 32, 63, 32, 100, 32, 58, 32, 101]⟩, .string ⟨#[40, 97, 32, 63, 32, 98, 32, 58, 32, 99, 41, 32, 63, 32, 100, 32, 58, 32, 101]⟩, .string ⟨#[97, 32, 45, 32, 98, 32, 45, 32, 99]⟩, .string ⟨#[97, 32, 45, 32, 40, 98, 32, 45, 32, 99, 41]⟩, .string ⟨#[33, 40, 33, 97, 41]⟩, .string ⟨#[45, 32, 45, 32, 49]⟩, .string ⟨#[102, 40, 41]⟩, .string ⟨#[102, 40, 49, 44, 41]⟩, .string ⟨#[91, 49, 44, 91, 50, 93, 44, 93]⟩, .string ⟨#[97, 40, 98, 41, 40, 99, 41]⟩, .string ⟨#[116, 114, 117, 101, 40, 49, 41]⟩, .string ⟨#[97, 46, 98, 40, 49, 41]⟩, .string ⟨#[40, 49, 32, 60, 32, 50, 41, 32, 61, 61, 32, 40, 51, 32, 60, 32, 52, 41]⟩] : Array Value)[m]? = some (.string t) := by
  match m, h with
  | 0, _ => exact ⟨_, by decide, rfl⟩
  | 1, _ => exact ⟨_, by decide, rfl⟩
  | 2, _ => exact ⟨_, by decide, rfl⟩
  | 3, _ => exact ⟨_, by decide, rfl⟩
  | 4, _ => exact ⟨_, by decide, rfl⟩
  | 5, _ => exact ⟨_, by decide, rfl⟩
  | 6, _ => exact ⟨_, by decide, rfl⟩
  | 7, _ => exact ⟨_, by decide, rfl⟩
  | 8, _ => exact ⟨_, by decide, rfl⟩
  | 9, _ => exact ⟨_, by decide, rfl⟩
  | 10, _ => exact ⟨_, by decide, rfl⟩
  | 11, _ => exact ⟨_, by decide, rfl⟩
  | 12, _ => exact ⟨_, by decide, rfl⟩
  | 13, _ => exact ⟨_, by decide, rfl⟩
  | 14, _ => exact ⟨_, by decide, rfl⟩
  | 15, _ => exact ⟨_, by decide, rfl⟩
  | q + 16, h => exact absurd h (by omega)

theorem app2_ok {S a : ByteArray} (h : S.size ≤ 12000) (hn : nbB S ≤ 26) (ha : a.size ≤ 20 ∧ nbB a ≤ 4) : (a ++ S).size ≤ 12100 ∧ nbB (a ++ S) ≤ 40 := by
  rw [nbB_app, ByteArray.size_append]; omega
theorem app3_ok {S a b : ByteArray} (h : S.size ≤ 12000) (hn : nbB S ≤ 26) (ha : a.size ≤ 20 ∧ nbB a ≤ 4) (hb : b.size ≤ 20 ∧ nbB b ≤ 4) : ((a ++ S) ++ b).size ≤ 12100 ∧ nbB ((a ++ S) ++ b) ≤ 40 := by
  rw [nbB_app, nbB_app, ByteArray.size_append, ByteArray.size_append]; omega
/-- What a drawn text of an expression is. -/
def WrittenD (R : Nat) (w : World) (e : Ending) (w' : World) : Prop :=
  ∃ s : ByteArray, e = .returned (.string s) ∧ s.size ≤ 12100 ∧ nbB s ≤ 40 ∧ w.grownBy w' (some R)

set_option maxRecDepth 100000 in
set_option maxHeartbeats 4000000 in
theorem written_any (R p : Nat) (w : World) (hp : p < 1000000) (h : Rdm w R p) :
    Calls Tryz.prog 46 #[.pointer (some ⟨R, 0, none⟩)] w (WrittenD R w) := by
  have HLT := Lib.hid h.lt
  go_enter Tryz.func46, Tryz.ntmps46
  go_wp2_with fail
  refine (exprW_any R p _ (by omega) h).mono ?_
  rintro e w1 ⟨v, l, rfl, hown, hsh, hl40, hn13, hr1, hg1⟩
  have HRC := Lib.hid (RowC.of_own hown).1
  have HG1 := Lib.hid hg1
  have HSZ := Lib.hid (show ShortC l from fun c hc => by have := (hsh c hc).1; omega)
  have hnb : nbB ⟨(textE l).toArray⟩ ≤ 26 := by have := nb_text hsh; show nbL (textE l) ≤ 26; omega
  have hlen : (⟨(textE l).toArray⟩ : ByteArray).size ≤ 12000 := textE_len l
  clear hown hg1 hsh h
  go_wp2_with fail
  refine (exprText_spec v l _ HRC.out HSZ.out (by omega)).mono ?_
  rintro e w2 ⟨rfl, hb2⟩
  have hg2 : w1.grownBy w2 none := ⟨hb2.os, hb2.tape, hb2.output, hb2.size, fun k hk _ => hb2.block k hk⟩
  have HG2 := Lib.hid (grown_trans HG1.out (show w1.grownBy w2 (some R) from ⟨hb2.os, hb2.tape, hb2.output, hb2.size, fun k hk _ => hb2.block k hk⟩))
  have hr2 := hr1.kept hg2 (by simp)
  clear hb2 hg2 hr1 HG1 HRC HSZ
  generalize (⟨(textE l).toArray⟩ : ByteArray) = S at hnb hlen ⊢
  go_wp2_with fail
  refine (odd_any R (p + 1000) 2 _ (by omega) (by omega) (by omega) hr2).mono ?_
  rintro e w3 ⟨b, rfl, -, hr3, hg3, hs3⟩
  have HG3 := Lib.hid (grown_trans HG2.out hg3)
  clear hg3 hs3 hr2 HG2
  cases b with
  | false =>
    go_wp2
    go_ret
    exact ⟨_, rfl, by omega, by omega, HG3.out⟩
  | true =>
    go_wp2_with fail
    refine (pick_any R (p + 1000 + 1) 6 _ (by omega) hr3).mono ?_
    rintro e w4 ⟨y, rfl, hy0, hy1, -, hr4, hg4, hs4⟩
    have hy2 := hy1 (by omega)
    obtain ⟨y1, rfl⟩ := Int.eq_ofNat_of_zero_le hy0
    have HG4 := Lib.hid (grown_trans HG3.out hg4)
    clear hy1 hg4 hs4 hr3 HG3
    have hy6 : y1 = 0 ∨ y1 = 1 ∨ y1 = 2 ∨ y1 = 3 ∨ y1 = 4 ∨ y1 = 5 := by omega
    clear hy2 hy0
    rcases hy6 with rfl | rfl | rfl | rfl | rfl | rfl
    · go_wp2
      go_ret
      exact ⟨_, rfl, (app3_ok hlen hnb (by decide) (by decide)).1, (app3_ok hlen hnb (by decide) (by decide)).2, HG4.out⟩
    · go_wp2
      go_ret
      exact ⟨_, rfl, (app3_ok hlen hnb (by decide) (by decide)).1, (app3_ok hlen hnb (by decide) (by decide)).2, HG4.out⟩
    · go_wp2_with fail
      refine (pick_any R (p + 1000 + 1 + 1) 6 _ (by omega) (hr4.kept (World.grownBy_alloc w4 _ none) (by simp))).mono ?_
      rintro e w6 ⟨j, rfl, hj0, hj1, -, hr6, hg6, hs6⟩
      have hj2 := hj1 (by omega)
      obtain ⟨j1, rfl⟩ := Int.eq_ofNat_of_zero_le hj0
      obtain ⟨t, ht, hlit⟩ := end6W j1 (by omega)
      have hcell := lit_cell hr4.lt hg6 hlit
      have HG6 := Lib.hid (grown_trans (grown_alloc HG4.out _) hg6)
      clear hj1 hg6 hs6 hlit
      go_wp2
      go_ret
      exact ⟨_, rfl, by rw [ByteArray.size_append]; omega, by rw [nbB_app]; omega, HG6.out⟩
    · go_wp2_with fail
      refine (codeW_any R (p + 1000 + 1 + 1) _ (by omega) hr4).mono ?_
      rintro e w6 ⟨s, rfl, ⟨hs, hsn⟩, hr6, hg6⟩
      have HG6 := Lib.hid (grown_trans HG4.out hg6)
      clear hg6
      go_wp2
      go_ret
      exact ⟨_, rfl, by omega, by omega, HG6.out⟩
    · go_wp2
      go_ret
      exact ⟨_, rfl, (app2_ok hlen hnb (by decide)).1, (app2_ok hlen hnb (by decide)).2, HG4.out⟩
    · go_wp2_with fail
      refine (pick_any R (p + 1000 + 1 + 1) 16 _ (by omega) (hr4.kept (World.grownBy_alloc w4 _ none) (by simp))).mono ?_
      rintro e w6 ⟨j, rfl, hj0, hj1, -, hr6, hg6, hs6⟩
      have hj2 := hj1 (by omega)
      obtain ⟨j1, rfl⟩ := Int.eq_ofNat_of_zero_le hj0
      obtain ⟨t, ht, hlit⟩ := text16W j1 (by omega)
      have hcell := lit_cell hr4.lt hg6 hlit
      have HG6 := Lib.hid (grown_trans (grown_alloc HG4.out _) hg6)
      clear hj1 hg6 hs6 hlit
      go_wp2
      go_ret
      exact ⟨_, rfl, by omega, by omega, HG6.out⟩

set_option maxHeartbeats 1000000 in
theorem drawReadExpr_any (a : Option Addr) (len cap : Nat) (w : World) (h : CodeRow w a len cap) :
    Calls Tryz.prog 19 #[.slice a len cap] w fun e w' => ∃ s : ByteArray, e = .returned (.string s) ∧ s.size ≤ 12100 ∧ nbB s ≤ 40 ∧ Below w.heap.size w w' := by
  go_enter Tryz.func19, Tryz.ntmps19
  go_wp2_with fail
  refine (open_codes a len cap _ h).mono ?_
  rintro e w1 ⟨rfl, hr1, hb1, hs1⟩
  have HB := Lib.hid hb1; have HS := Lib.hid hs1
  clear hb1 hs1
  go_wp2_with fail
  refine (written_any w.heap.size 0 _ (by omega) hr1).mono ?_
  rintro e w2 ⟨s, rfl, hs, hn, hg2⟩
  have HB2 := Lib.hid (HB.out.trans (grown_below hg2 (by have := HS.out; omega) (Nat.le_refl _)))
  clear hg2 HB HS hr1
  go_wp2
  go_ret
  exact ⟨s, rfl, hs, hn, HB2.out⟩

set_option maxHeartbeats 1000000 in
theorem drawExprSound_any (a : Option Addr) (len cap : Nat) (w : World) (h : CodeRow w a len cap) :
    Calls Tryz.prog 22 #[.slice a len cap] w fun e w' => ∃ s : ByteArray, e = .returned (.string s) ∧ s.size ≤ 12100 ∧ nbB s ≤ 40 ∧ Below w.heap.size w w' := by
  go_enter Tryz.func22, Tryz.ntmps22
  go_wp2_with fail
  refine (open_codes a len cap _ h).mono ?_
  rintro e w1 ⟨rfl, hr1, hb1, hs1⟩
  have HB := Lib.hid hb1; have HS := Lib.hid hs1
  clear hb1 hs1
  go_wp2_with fail
  refine (written_any w.heap.size 0 _ (by omega) hr1).mono ?_
  rintro e w2 ⟨s, rfl, hs, hn, hg2⟩
  have HB2 := Lib.hid (HB.out.trans (grown_below hg2 (by have := HS.out; omega) (Nat.le_refl _)))
  clear hg2 HB HS hr1
  go_wp2
  go_ret
  exact ⟨s, rfl, hs, hn, HB2.out⟩

set_option maxHeartbeats 1000000 in
theorem drawFormatExpr_any (a : Option Addr) (len cap : Nat) (w : World) (h : CodeRow w a len cap) :
    Calls Tryz.prog 26 #[.slice a len cap] w fun e w' => ∃ s : ByteArray, e = .returned (.string s) ∧ s.size ≤ 12100 ∧ nbB s ≤ 40 ∧ Below w.heap.size w w' := by
  go_enter Tryz.func26, Tryz.ntmps26
  go_wp2_with fail
  refine (open_codes a len cap _ h).mono ?_
  rintro e w1 ⟨rfl, hr1, hb1, hs1⟩
  have HB := Lib.hid hb1; have HS := Lib.hid hs1
  clear hb1 hs1
  go_wp2_with fail
  refine (written_any w.heap.size 0 _ (by omega) hr1).mono ?_
  rintro e w2 ⟨s, rfl, hs, hn, hg2⟩
  have HB2 := Lib.hid (HB.out.trans (grown_below hg2 (by have := HS.out; omega) (Nat.le_refl _)))
  clear hg2 HB HS hr1
  go_wp2
  go_ret
  exact ⟨s, rfl, hs, hn, HB2.out⟩

end Go.Proofs.YtncehcklppakcaaGreatDoor
