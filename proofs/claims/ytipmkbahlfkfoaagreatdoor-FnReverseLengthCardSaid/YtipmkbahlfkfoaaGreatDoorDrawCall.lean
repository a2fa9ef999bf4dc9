/-
  spec.DrawCallFunction: a short name, at most three lists of short cells.
-/
import Derived.Test.YtipmkbahlfkfoaaGreatDoorDrawVs
import Derived.Test.YtipmkbahlfkfoaaGreatDoorListS
namespace Go.Proofs.YtipmkbahlfkfoaaGreatDoor
open Go.RowKit
set_option linter.unusedVariables false

/-- Short cells, at most five. -/
def LessC (l : List Cl) : Prop := (∀ c ∈ l, c.2.1.size ≤ 60) ∧ l.length ≤ 5
/-- What is drawn. -/
def DrawnCall (w : World) (e : Ending) (w' : World) : Prop :=
  ∃ (nm : ByteArray) (v : Value) (ls : List (List Cl)), e = .returned (.tuple #[.string nm, v]) ∧ nm.size ≤ 8 ∧ RowLs w' v ls ∧ (∀ l ∈ ls, LessC l) ∧ ls.length ≤ 3 ∧ Below w.heap.size w w'
theorem call_nm (m : Nat) (h : m < 11) : ∃ t : ByteArray, t.size ≤ 8 ∧ (#[Value.string ⟨#[108, 101, 110, 103, 116, 104]⟩, .string ⟨#[117, 112, 112, 101, 114]⟩, .string ⟨#[108, 111, 119, 101, 114]⟩, .string ⟨#[109, 105, 110]⟩, .string ⟨#[109, 97, 120]⟩, .string ⟨#[102, 105, 114, 115, 116]⟩, .string ⟨#[114, 101, 118, 101, 114, 115, 101]⟩, .string ⟨#[99, 111, 110, 116, 97, 105, 110, 115]⟩, .string ⟨#[106, 111, 105, 110]⟩, .string ⟨#[102]⟩, .string ⟨#[]⟩] : Array Value)[m]? = some (.string t) := by
  match m, h with
  | 0, _ => exact ⟨_, by decide, rfl⟩
  | 1, _ => exact ⟨_, by decide, rfl⟩
  | 2, _ => exact ⟨_, by decide, rfl⟩
  | 3, _ => exact ⟨_, by decide, rfl⟩
  | 4, _ => exact ⟨_, by decide, rfl⟩
  | 5, _ => exact ⟨_, by decide, rfl⟩
  | 6, _ => exact ⟨_, by decide, rfl⟩
  | 7, _ => exact ⟨_, by decide, rfl⟩
  | 8, _ => exact ⟨_, by decide, rfl⟩
  | 9, _ => exact ⟨_, by decide, rfl⟩
  | 10, _ => exact ⟨_, by decide, rfl⟩
theorem call_tx (m : Nat) (h : m < 3) : ∃ t : ByteArray, t.size ≤ 60 ∧ (#[Value.string ⟨#[97, 66]⟩, .string ⟨#[]⟩, .string ⟨#[120]⟩] : Array Value)[m]? = some (.string t) := by
  match m, h with
  | 0, _ => exact ⟨_, by decide, rfl⟩
  | 1, _ => exact ⟨_, by decide, rfl⟩
  | 2, _ => exact ⟨_, by decide, rfl⟩
theorem RowLs_d1 {w : World} {u1 : Value} {l1 : List Cl} (h1 : RowC w u1 l1) : RowLs (w.alloc (.cells #[u1] 24)) (.slice (some ⟨w.heap.size, 0, none⟩) 1 1) [l1] := by
  refine ⟨some ⟨w.heap.size, 0, none⟩, 1, rfl, by simp, by unfold maxLen; omega, .inr ⟨w.heap.size, 0, rfl, by simp, fun k hk => ?_⟩⟩
  have hc := fun i => cell_of_row (w.alloc (.cells #[u1] 24)) w.heap.size i #[u1] _ (0, 0) (heap_alloc_new w _)
  match k, hk with
  | 0, _ => exact ⟨u1, (hc 0).trans rfl, h1.al _⟩
theorem RowLs_d2 {w : World} {u1 u2 : Value} {l1 l2 : List Cl} (h1 : RowC w u1 l1) (h2 : RowC w u2 l2) : RowLs (w.alloc (.cells #[u1, u2] 24)) (.slice (some ⟨w.heap.size, 0, none⟩) 2 2) [l1, l2] := by
  refine ⟨some ⟨w.heap.size, 0, none⟩, 2, rfl, by simp, by unfold maxLen; omega, .inr ⟨w.heap.size, 0, rfl, by simp, fun k hk => ?_⟩⟩
  have hc := fun i => cell_of_row (w.alloc (.cells #[u1, u2] 24)) w.heap.size i #[u1, u2] _ (0, 0) (heap_alloc_new w _)
  match k, hk with
  | 0, _ => exact ⟨u1, (hc 0).trans rfl, h1.al _⟩
  | 1, _ => exact ⟨u2, (hc 1).trans rfl, h2.al _⟩
theorem less_one {k : Int} {s : ByteArray} (h : s.size ≤ 60) : LessC [(k, s, 0)] := ⟨fun c hc => by rw [List.mem_singleton] at hc; subst hc; exact h, by simp⟩
theorem less_in1 {a : List Cl} (h : LessC a) : ∀ l ∈ [a], LessC l := fun l hl => by rw [List.mem_singleton] at hl; subst hl; exact h
theorem less_in2 {a b : List Cl} (h : LessC a) (k : LessC b) : ∀ l ∈ [a, b], LessC l := fun l hl => by
  rcases List.mem_cons.mp hl with rfl | hl
  · exact h
  · rw [List.mem_singleton] at hl; subst hl; exact k
theorem less_list {s t : ByteArray} (h : s.size ≤ 60) (k : t.size ≤ 60) : LessC (listR [[(2, s, 0)], [(2, t, 0)]]) := by
  by_cases hok : listOK [[(2, s, 0)], [(2, t, 0)]] = true
  · rw [listR, if_pos hok]
    refine ⟨fun c hc => ?_, by simp [listV]⟩
    simp only [listV, List.flatten_cons, List.flatten_nil, List.append_nil, List.mem_cons, List.mem_append, List.not_mem_nil, or_false] at hc
    rcases hc with rfl | rfl | rfl
    · show (⟨#[]⟩ : ByteArray).size ≤ 60
      decide
    · exact h
    · exact k
  · rw [listR, if_neg hok]; exact ⟨fun c hc => (by cases hc), by simp⟩
theorem row_grown {w w' : World} {R b : Nat} {n c : Nat} {l : List Cl} (h : RowC w (.slice (some ⟨b, 0, none⟩) n c) l) (hg : w.grownBy w' (some R)) (hR : R ≠ b) : RowC w' (.slice (some ⟨b, 0, none⟩) n c) l := by
  obtain ⟨ao, cap, hv, h1, h2, h3⟩ := h
  refine ⟨ao, cap, hv, h1, h2, ?_⟩
  rcases h3 with h3 | ⟨b', o, ha, hlt, hj⟩
  · exact .inl h3
  · refine .inr ⟨b', o, ha, Nat.lt_of_lt_of_le hlt hg.size, fun k hk => ?_⟩
    injection hv with hv1 _ _
    rw [ha] at hv1; injection hv1 with hv1; injection hv1 with hv1 hv2
    subst hv1
    obtain ⟨c1, c2, c3⟩ := hj k hk
    have e : ∀ o, w'.cell? ⟨b, o, none⟩ = w.cell? ⟨b, o, none⟩ := fun o => by
      have := hg.block b hlt (fun e => hR (by injection e with e; exact e.symm))
      simp only [World.cell?, this]
    exact ⟨by rw [e]; exact c1, by rw [e]; exact c2, by rw [e]; exact c3⟩
theorem few_less {l : List Cl} (h : FewC l) : LessC l := ⟨h.1, h.2.2⟩
/-- The ways of a name. -/
theorem nm_ways (n : ByteArray) : (n.toList = [108, 101, 110, 103, 116, 104] ∧ ¬ n.toList = [117, 112, 112, 101, 114] ∧ ¬ n.toList = [108, 111, 119, 101, 114] ∧ ¬ n.toList = [109, 105, 110] ∧ ¬ n.toList = [109, 97, 120] ∧ ¬ n.toList = [102, 105, 114, 115, 116] ∧ ¬ n.toList = [114, 101, 118, 101, 114, 115, 101] ∧ ¬ n.toList = [99, 111, 110, 116, 97, 105, 110, 115] ∧ ¬ n.toList = [106, 111, 105, 110]) ∨ (¬ n.toList = [108, 101, 110, 103, 116, 104] ∧ n.toList = [117, 112, 112, 101, 114] ∧ ¬ n.toList = [108, 111, 119, 101, 114] ∧ ¬ n.toList = [109, 105, 110] ∧ ¬ n.toList = [109, 97, 120] ∧ ¬ n.toList = [102, 105, 114, 115, 116] ∧ ¬ n.toList = [114, 101, 118, 101, 114, 115, 101] ∧ ¬ n.toList = [99, 111, 110, 116, 97, 105, 110, 115] ∧ ¬ n.toList = [106, 111, 105, 110]) ∨ (¬ n.toList = [108, 101, 110, 103, 116, 104] ∧ ¬ n.toList = [117, 112, 112, 101, 114] ∧ n.toList = [108, 111, 119, 101, 114] ∧ ¬ n.toList = [109, 105, 110] ∧ ¬ n.toList = [109, 97, 120] ∧ ¬ n.toList = [102, 105, 114, 115, 116] ∧ ¬ n.toList = [114, 101, 118, 101, 114, 115, 101] ∧ ¬ n.toList = [99, 111, 110, 116, 97, 105, 110, 115] ∧ ¬ n.toList = [106, 111, 105, 110]) ∨ (¬ n.toList = [108, 101, 110, 103, 116, 104] ∧ ¬ n.toList = [117, 112, 112, 101, 114] ∧ ¬ n.toList = [108, 111, 119, 101, 114] ∧ n.toList = [109, 105, 110] ∧ ¬ n.toList = [109, 97, 120] ∧ ¬ n.toList = [102, 105, 114, 115, 116] ∧ ¬ n.toList = [114, 101, 118, 101, 114, 115, 101] ∧ ¬ n.toList = [99, 111, 110, 116, 97, 105, 110, 115] ∧ ¬ n.toList = [106, 111, 105, 110]) ∨ (¬ n.toList = [108, 101, 110, 103, 116, 104] ∧ ¬ n.toList = [117, 112, 112, 101, 114] ∧ ¬ n.toList = [108, 111, 119, 101, 114] ∧ ¬ n.toList = [109, 105, 110] ∧ n.toList = [109, 97, 120] ∧ ¬ n.toList = [102, 105, 114, 115, 116] ∧ ¬ n.toList = [114, 101, 118, 101, 114, 115, 101] ∧ ¬ n.toList = [99, 111, 110, 116, 97, 105, 110, 115] ∧ ¬ n.toList = [106, 111, 105, 110]) ∨ (¬ n.toList = [108, 101, 110, 103, 116, 104] ∧ ¬ n.toList = [117, 112, 112, 101, 114] ∧ ¬ n.toList = [108, 111, 119, 101, 114] ∧ ¬ n.toList = [109, 105, 110] ∧ ¬ n.toList = [109, 97, 120] ∧ n.toList = [102, 105, 114, 115, 116] ∧ ¬ n.toList = [114, 101, 118, 101, 114, 115, 101] ∧ ¬ n.toList = [99, 111, 110, 116, 97, 105, 110, 115] ∧ ¬ n.toList = [106, 111, 105, 110]) ∨ (¬ n.toList = [108, 101, 110, 103, 116, 104] ∧ ¬ n.toList = [117, 112, 112, 101, 114] ∧ ¬ n.toList = [108, 111, 119, 101, 114] ∧ ¬ n.toList = [109, 105, 110] ∧ ¬ n.toList = [109, 97, 120] ∧ ¬ n.toList = [102, 105, 114, 115, 116] ∧ n.toList = [114, 101, 118, 101, 114, 115, 101] ∧ ¬ n.toList = [99, 111, 110, 116, 97, 105, 110, 115] ∧ ¬ n.toList = [106, 111, 105, 110]) ∨ (¬ n.toList = [108, 101, 110, 103, 116, 104] ∧ ¬ n.toList = [117, 112, 112, 101, 114] ∧ ¬ n.toList = [108, 111, 119, 101, 114] ∧ ¬ n.toList = [109, 105, 110] ∧ ¬ n.toList = [109, 97, 120] ∧ ¬ n.toList = [102, 105, 114, 115, 116] ∧ ¬ n.toList = [114, 101, 118, 101, 114, 115, 101] ∧ n.toList = [99, 111, 110, 116, 97, 105, 110, 115] ∧ ¬ n.toList = [106, 111, 105, 110]) ∨ (¬ n.toList = [108, 101, 110, 103, 116, 104] ∧ ¬ n.toList = [117, 112, 112, 101, 114] ∧ ¬ n.toList = [108, 111, 119, 101, 114] ∧ ¬ n.toList = [109, 105, 110] ∧ ¬ n.toList = [109, 97, 120] ∧ ¬ n.toList = [102, 105, 114, 115, 116] ∧ ¬ n.toList = [114, 101, 118, 101, 114, 115, 101] ∧ ¬ n.toList = [99, 111, 110, 116, 97, 105, 110, 115] ∧ n.toList = [106, 111, 105, 110]) ∨ (¬ n.toList = [108, 101, 110, 103, 116, 104] ∧ ¬ n.toList = [117, 112, 112, 101, 114] ∧ ¬ n.toList = [108, 111, 119, 101, 114] ∧ ¬ n.toList = [109, 105, 110] ∧ ¬ n.toList = [109, 97, 120] ∧ ¬ n.toList = [102, 105, 114, 115, 116] ∧ ¬ n.toList = [114, 101, 118, 101, 114, 115, 101] ∧ ¬ n.toList = [99, 111, 110, 116, 97, 105, 110, 115] ∧ ¬ n.toList = [106, 111, 105, 110]) := by
  by_cases h0 : n.toList = [108, 101, 110, 103, 116, 104]
  · exact .inl ⟨h0, by rw [h0]; decide, by rw [h0]; decide, by rw [h0]; decide, by rw [h0]; decide, by rw [h0]; decide, by rw [h0]; decide, by rw [h0]; decide, by rw [h0]; decide⟩
  by_cases h1 : n.toList = [117, 112, 112, 101, 114]
  · exact .inr (.inl ⟨h0, h1, by rw [h1]; decide, by rw [h1]; decide, by rw [h1]; decide, by rw [h1]; decide, by rw [h1]; decide, by rw [h1]; decide, by rw [h1]; decide⟩)
  by_cases h2 : n.toList = [108, 111, 119, 101, 114]
  · exact .inr (.inr (.inl ⟨h0, h1, h2, by rw [h2]; decide, by rw [h2]; decide, by rw [h2]; decide, by rw [h2]; decide, by rw [h2]; decide, by rw [h2]; decide⟩))
  by_cases h3 : n.toList = [109, 105, 110]
  · exact .inr (.inr (.inr (.inl ⟨h0, h1, h2, h3, by rw [h3]; decide, by rw [h3]; decide, by rw [h3]; decide, by rw [h3]; decide, by rw [h3]; decide⟩)))
  by_cases h4 : n.toList = [109, 97, 120]
  · exact .inr (.inr (.inr (.inr (.inl ⟨h0, h1, h2, h3, h4, by rw [h4]; decide, by rw [h4]; decide, by rw [h4]; decide, by rw [h4]; decide⟩))))
  by_cases h5 : n.toList = [102, 105, 114, 115, 116]
  · exact .inr (.inr (.inr (.inr (.inr (.inl ⟨h0, h1, h2, h3, h4, h5, by rw [h5]; decide, by rw [h5]; decide, by rw [h5]; decide⟩)))))
  by_cases h6 : n.toList = [114, 101, 118, 101, 114, 115, 101]
  · exact .inr (.inr (.inr (.inr (.inr (.inr (.inl ⟨h0, h1, h2, h3, h4, h5, h6, by rw [h6]; decide, by rw [h6]; decide⟩))))))
  by_cases h7 : n.toList = [99, 111, 110, 116, 97, 105, 110, 115]
  · exact .inr (.inr (.inr (.inr (.inr (.inr (.inr (.inl ⟨h0, h1, h2, h3, h4, h5, h6, h7, by rw [h7]; decide⟩)))))))
  by_cases h8 : n.toList = [106, 111, 105, 110]
  · exact .inr (.inr (.inr (.inr (.inr (.inr (.inr (.inr (.inl ⟨h0, h1, h2, h3, h4, h5, h6, h7, h8⟩))))))))
  exact .inr (.inr (.inr (.inr (.inr (.inr (.inr (.inr (.inr ⟨h0, h1, h2, h3, h4, h5, h6, h7, h8⟩))))))))

set_option maxRecDepth 100000 in
set_option maxHeartbeats 8000000 in
theorem drawCallFunction_any (a : Option Addr) (len cap : Nat) (w : World) (h : CodeRow w a len cap) :
    Calls Tryz.prog 20 #[.slice a len cap] w (DrawnCall w) := by
  go_enter Tryz.func20, Tryz.ntmps20
  go_wp2_with fail
  refine (open_codes a len cap _ h).mono ?_
  rintro e w1 ⟨rfl, hr1, hb1, hs1⟩
  have HB := Lib.hid hb1; have HS := Lib.hid hs1; have hw1 : w.heap.size < w1.heap.size := hr1.lt
  clear hb1 hs1
  go_wp2_with fail
  refine (pick_any w.heap.size 0 11 _ (by omega) (hr1.kept (World.grownBy_alloc w1 _ none) (by simp))).mono ?_
  rintro e w2 ⟨i, rfl, hi0, hi1, -, hr2, hg2, -⟩
  have hi2 := hi1 (by omega)
  obtain ⟨i1, rfl⟩ := Int.eq_ofNat_of_zero_le hi0
  obtain ⟨nm, hn8, hlit⟩ := call_nm i1 (by omega)
  have hcell := lit_cell hw1 hg2 hlit
  have HG2 := Lib.hid (grown_trans (World.grownBy_alloc w1 _ (some w.heap.size)) hg2)
  clear hi1 hg2 hlit hr1
  go_wp2_with fail
  refine (values_any w.heap.size (0 + 1) 24 _ (by omega) (by omega) (by omega) hr2).mono ?_
  rintro e w3 ⟨v3, us3, ls3, rfl, ho3, hf3, hl3, hr3, hg3⟩
  have HG3 := Lib.hid (grown_trans HG2.out hg3)
  have HO3 := Lib.hid ho3; have HF3 := Lib.hid (fun l hl => few_less (hf3 l hl))
  have hw2 : w1.heap.size ≤ w2.heap.size := HG2.out.size
  clear ho3 hf3 hg3 hr2 hcell
  go_wp2_with fail
  refine (pick_any w.heap.size (0 + 1 + 800) 2 _ (by omega) hr3).mono ?_
  rintro e w4 ⟨j, rfl, hj0, hj1, -, hr4, hg4, -⟩
  have hj2 := hj1 (by omega)
  have HO4 := Lib.hid (HO3.out.grownR hg4 (by omega))
  have HG4 := Lib.hid (grown_trans HG3.out hg4)
  have HB4 := Lib.hid (HB.out.trans (grown_below HG4.out (by omega) (Nat.le_refl _)))
  clear hj1 hg4 hr3
  by_cases hj : j = 0
  case neg =>
    go_wp2
    exact bodyPost_ret (v := .tuple #[.string nm, v3]) (by simp [results, Tryz.results20, go_sem]) rfl ⟨nm, v3, ls3, rfl, hn8, HO4.out.reads, HF3.out, hl3, HB4.out⟩
  subst hj
  clear hj0 hj2
  go_wp2_with fail
  refine (pick_any w.heap.size (0 + 1 + 800 + 1) 3 _ (by omega) (hr4.kept (World.grownBy_alloc w4 _ none) (by simp))).mono ?_
  rintro e w5 ⟨q, rfl, hq0, hq1, -, hr5, hg5, -⟩
  have hq2 := hq1 (by omega)
  obtain ⟨q1, rfl⟩ := Int.eq_ofNat_of_zero_le hq0
  obtain ⟨tx, ht60, hlit⟩ := call_tx q1 (by omega)
  have hcell := lit_cell hr4.lt hg5 hlit
  have HO5 := Lib.hid ((HO4.out.grownR (World.grownBy_alloc w4 _ (some w.heap.size)) (by omega)).grownR hg5 (by omega))
  have HG5 := Lib.hid (grown_trans (grown_alloc HG4.out _) hg5)
  have HB5 := Lib.hid (HB.out.trans (grown_below HG5.out (by omega) (Nat.le_refl _)))
  clear hq1 hg5 hlit hr4
  have HT := Lib.hid (RowC_litV w5 2 0 tx)
  have HTQ := Lib.hid (RowC_litV (w5.alloc (.cells #[.int .i64 2, .string tx, .int .i64 0] 39)) 2 0 ⟨#[113]⟩)
  have HT2 := Lib.hid (HT.out.al (.cells #[.int .i64 2, .string ⟨#[113]⟩, .int .i64 0] 39))
  have HLT := Lib.hid (RowLs_d2 HT2.out HTQ.out)
  have HBA := Lib.hid ((HB5.out.alloc HB5.out.size (.cells #[.int .i64 2, .string tx, .int .i64 0] 39)).alloc (by simp; exact Nat.le_succ_of_le HB5.out.size) (.cells #[.int .i64 2, .string ⟨#[113]⟩, .int .i64 0] 39))
  have HZ := Lib.hid (show ∀ l ∈ [[((2 : Int), tx, (0 : Int))], [((2 : Int), (⟨#[113]⟩ : ByteArray), (0 : Int))]], ShortC l from fun l hl c hc => by
    have := (less_in2 (less_one (k := 2) ht60) (less_one (k := 2) (show (⟨#[113]⟩ : ByteArray).size ≤ 60 by decide)) l hl).1 c hc
    omega)
  go_wp2_with fail
  refine (listValue_spec _ [[(2, tx, 0)], [(2, ⟨#[113]⟩, 0)]] _ (by simpa using HLT.out) HZ.out (by simp [lenSS])).mono ?_
  rintro e w6 ⟨v6, rfl, ho6, hb6⟩
  have HX6 := Lib.hid (RowC.of_own ho6).1
  have HBC := Lib.hid (show Below w5.heap.size w5 w6 from ((((Below.refl w5.heap.size w5).alloc (Nat.le_refl _) (.cells #[.int .i64 2, .string tx, .int .i64 0] 39)).alloc (by simp) (.cells #[.int .i64 2, .string ⟨#[113]⟩, .int .i64 0] 39)).alloc (by simp; omega) (.cells #[.slice (some ⟨w5.heap.size, 0, none⟩) 1 1, .slice (some ⟨w5.heap.size + 1, 0, none⟩) 1 1] 24)).trans (hb6.mono (by simp; omega)))
  have HTX := Lib.hid (show RowC w6 (.slice (some ⟨w5.heap.size, 0, none⟩) 1 1) [((2 : Int), tx, (0 : Int))] from (HT2.out.al (.cells #[.slice (some ⟨w5.heap.size, 0, none⟩) 1 1, .slice (some ⟨w5.heap.size + 1, 0, none⟩) 1 1] 24)).mono hb6)
  have HR6 := Lib.hid (hr5.below HBC.out)
  have HG6 := Lib.hid (grown_belowV HG5.out HBC.out)
  have HB6 := Lib.hid (HB.out.trans (grown_below HG6.out (by omega) (Nat.le_refl _)))
  have HL3 := Lib.hid (HO5.out.reads.mono HBC.out)
  have HLS := Lib.hid (less_list ht60 (show (⟨#[113]⟩ : ByteArray).size ≤ 60 by decide))
  have HLX := Lib.hid (less_one (k := 2) ht60)
  obtain ⟨a6, cp6, hv6⟩ := own_shapeV ho6
  subst hv6
  have hbs6 := HB6.out.size
  clear ho6 hb6 hr5 hcell ht60
  generalize listR [[((2 : Int), tx, (0 : Int))], [((2 : Int), (⟨#[113]⟩ : ByteArray), (0 : Int))]] = L at HX6 HLS ⊢
  generalize [((2 : Int), tx, (0 : Int))] = X at HTX HLX
  clear HT HTQ HT2 HLT HZ HBA
  generalize (⟨w5.heap.size, 0, none⟩ : Addr) = ax at HTX ⊢
  rcases nm_ways nm with ⟨c1, c2, c3, c4, c5, c6, c7, c8, c9⟩ | ⟨c1, c2, c3, c4, c5, c6, c7, c8, c9⟩ | ⟨c1, c2, c3, c4, c5, c6, c7, c8, c9⟩ | ⟨c1, c2, c3, c4, c5, c6, c7, c8, c9⟩ | ⟨c1, c2, c3, c4, c5, c6, c7, c8, c9⟩ | ⟨c1, c2, c3, c4, c5, c6, c7, c8, c9⟩ | ⟨c1, c2, c3, c4, c5, c6, c7, c8, c9⟩ | ⟨c1, c2, c3, c4, c5, c6, c7, c8, c9⟩ | ⟨c1, c2, c3, c4, c5, c6, c7, c8, c9⟩ | ⟨c1, c2, c3, c4, c5, c6, c7, c8, c9⟩
  · go_wp2
    exact bodyPost_ret (v := .tuple #[.string nm, .slice (some ⟨w6.heap.size, 0, none⟩) 1 1]) (by simp [results, Tryz.results20, go_sem]) rfl ⟨nm, _, [X], rfl, hn8, RowLs_d1 HTX.out, less_in1 HLX.out, by simp, HB6.out.alloc hbs6 _⟩
  · go_wp2
    exact bodyPost_ret (v := .tuple #[.string nm, .slice (some ⟨w6.heap.size, 0, none⟩) 1 1]) (by simp [results, Tryz.results20, go_sem]) rfl ⟨nm, _, [X], rfl, hn8, RowLs_d1 HTX.out, less_in1 HLX.out, by simp, HB6.out.alloc hbs6 _⟩
  · go_wp2
    exact bodyPost_ret (v := .tuple #[.string nm, .slice (some ⟨w6.heap.size, 0, none⟩) 1 1]) (by simp [results, Tryz.results20, go_sem]) rfl ⟨nm, _, [X], rfl, hn8, RowLs_d1 HTX.out, less_in1 HLX.out, by simp, HB6.out.alloc hbs6 _⟩
  · go_wp2_with fail
    refine (fraction_any w.heap.size (0 + 1 + 800 + 1 + 1) 0 _ (by omega) (by omega) (by omega) HR6.out).mono ?_
    rintro e w7 ⟨t7, b7, rfl, hr7, hg7⟩
    have HG7 := Lib.hid (grown_trans HG6.out hg7); clear hg7
    go_wp2_with fail
    refine (fractionText_spec t7 b7 _).mono ?_
    rintro e w8 ⟨rfl, hb8⟩
    have hr8 := hr7.below hb8
    have HG8 := Lib.hid (grown_belowV HG7.out hb8); clear hb8 hr7
    have ht8 : (⟨(textF t7 b7).toArray⟩ : ByteArray).size ≤ 60 := by
      have := textF_len60 t7 b7
      show (textF t7 b7).toArray.size ≤ 60
      simpa using this
    generalize (⟨(textF t7 b7).toArray⟩ : ByteArray) = s8 at ht8 ⊢
    have HN8 := Lib.hid (RowC_litV w8 1 0 s8)
    have hr8a := hr8.kept (World.grownBy_alloc w8 (.cells #[.int .i64 1, .string s8, .int .i64 0] 39) none) (by simp)
    have HG8a := Lib.hid (grown_alloc HG8.out (.cells #[.int .i64 1, .string s8, .int .i64 0] 39))
    go_wp2_with fail
    refine (fraction_any w.heap.size (0 + 1 + 800 + 1 + 1 + 8) 0 _ (by omega) (by omega) (by omega) hr8a).mono ?_
    rintro e w9 ⟨t9, b9, rfl, hr9, hg9⟩
    have HG9 := Lib.hid (grown_trans HG8a.out hg9)
    have HN9 := Lib.hid (show RowC w9 (.slice (some ⟨w8.heap.size, 0, none⟩) 1 1) [((1 : Int), s8, (0 : Int))] from row_grown HN8.out hg9 (by have h1 := HG8.out.size; show w.heap.size ≠ w8.heap.size; omega)); clear hg9
    go_wp2_with fail
    refine (fractionText_spec t9 b9 _).mono ?_
    rintro e w10 ⟨rfl, hb10⟩
    have HN10 := Lib.hid (HN9.out.mono hb10)
    have HG10 := Lib.hid (grown_belowV HG9.out hb10); clear hb10 hr9 hr8a hr8
    have ht10 : (⟨(textF t9 b9).toArray⟩ : ByteArray).size ≤ 60 := by
      have := textF_len60 t9 b9
      show (textF t9 b9).toArray.size ≤ 60
      simpa using this
    generalize (⟨(textF t9 b9).toArray⟩ : ByteArray) = s10 at ht10 ⊢
    have HN11 := Lib.hid (RowC_litV w10 1 0 s10)
    have HB10 := Lib.hid (HB.out.trans (grown_below HG10.out (by omega) (Nat.le_refl _)))
    have HB11 := Lib.hid (HB10.out.alloc HB10.out.size (.cells #[.int .i64 1, .string s10, .int .i64 0] 39))
    have HLT := Lib.hid (RowLs_d2 (HN10.out.al (.cells #[.int .i64 1, .string s10, .int .i64 0] 39)) HN11.out)
    have HBZ := Lib.hid (HB11.out.alloc HB11.out.size (.cells #[.slice (some ⟨w8.heap.size, 0, none⟩) 1 1, .slice (some ⟨w10.heap.size, 0, none⟩) 1 1] 24))
    have HLL := Lib.hid (less_in2 (less_one (k := 1) ht8) (less_one (k := 1) ht10))
    clear ht8 ht10
    go_wp2
    exact bodyPost_ret (v := .tuple #[.string nm, .slice (some ⟨w10.heap.size + 1, 0, none⟩) 2 2]) (by simp [results, Tryz.results20, go_sem]) rfl ⟨nm, _, _, rfl, hn8, by simpa using HLT.out, HLL.out, by simp, HBZ.out⟩
  · go_wp2_with fail
    refine (fraction_any w.heap.size (0 + 1 + 800 + 1 + 1) 0 _ (by omega) (by omega) (by omega) HR6.out).mono ?_
    rintro e w7 ⟨t7, b7, rfl, hr7, hg7⟩
    have HG7 := Lib.hid (grown_trans HG6.out hg7); clear hg7
    go_wp2_with fail
    refine (fractionText_spec t7 b7 _).mono ?_
    rintro e w8 ⟨rfl, hb8⟩
    have hr8 := hr7.below hb8
    have HG8 := Lib.hid (grown_belowV HG7.out hb8); clear hb8 hr7
    have ht8 : (⟨(textF t7 b7).toArray⟩ : ByteArray).size ≤ 60 := by
      have := textF_len60 t7 b7
      show (textF t7 b7).toArray.size ≤ 60
      simpa using this
    generalize (⟨(textF t7 b7).toArray⟩ : ByteArray) = s8 at ht8 ⊢
    have HN8 := Lib.hid (RowC_litV w8 1 0 s8)
    have hr8a := hr8.kept (World.grownBy_alloc w8 (.cells #[.int .i64 1, .string s8, .int .i64 0] 39) none) (by simp)
    have HG8a := Lib.hid (grown_alloc HG8.out (.cells #[.int .i64 1, .string s8, .int .i64 0] 39))
    go_wp2_with fail
    refine (fraction_any w.heap.size (0 + 1 + 800 + 1 + 1 + 8) 0 _ (by omega) (by omega) (by omega) hr8a).mono ?_
    rintro e w9 ⟨t9, b9, rfl, hr9, hg9⟩
    have HG9 := Lib.hid (grown_trans HG8a.out hg9)
    have HN9 := Lib.hid (show RowC w9 (.slice (some ⟨w8.heap.size, 0, none⟩) 1 1) [((1 : Int), s8, (0 : Int))] from row_grown HN8.out hg9 (by have h1 := HG8.out.size; show w.heap.size ≠ w8.heap.size; omega)); clear hg9
    go_wp2_with fail
    refine (fractionText_spec t9 b9 _).mono ?_
    rintro e w10 ⟨rfl, hb10⟩
    have HN10 := Lib.hid (HN9.out.mono hb10)
    have HG10 := Lib.hid (grown_belowV HG9.out hb10); clear hb10 hr9 hr8a hr8
    have ht10 : (⟨(textF t9 b9).toArray⟩ : ByteArray).size ≤ 60 := by
      have := textF_len60 t9 b9
      show (textF t9 b9).toArray.size ≤ 60
      simpa using this
    generalize (⟨(textF t9 b9).toArray⟩ : ByteArray) = s10 at ht10 ⊢
    have HN11 := Lib.hid (RowC_litV w10 1 0 s10)
    have HB10 := Lib.hid (HB.out.trans (grown_below HG10.out (by omega) (Nat.le_refl _)))
    have HB11 := Lib.hid (HB10.out.alloc HB10.out.size (.cells #[.int .i64 1, .string s10, .int .i64 0] 39))
    have HLT := Lib.hid (RowLs_d2 (HN10.out.al (.cells #[.int .i64 1, .string s10, .int .i64 0] 39)) HN11.out)
    have HBZ := Lib.hid (HB11.out.alloc HB11.out.size (.cells #[.slice (some ⟨w8.heap.size, 0, none⟩) 1 1, .slice (some ⟨w10.heap.size, 0, none⟩) 1 1] 24))
    have HLL := Lib.hid (less_in2 (less_one (k := 1) ht8) (less_one (k := 1) ht10))
    clear ht8 ht10
    go_wp2
    exact bodyPost_ret (v := .tuple #[.string nm, .slice (some ⟨w10.heap.size + 1, 0, none⟩) 2 2]) (by simp [results, Tryz.results20, go_sem]) rfl ⟨nm, _, _, rfl, hn8, by simpa using HLT.out, HLL.out, by simp, HBZ.out⟩
  · go_wp2
    exact bodyPost_ret (v := .tuple #[.string nm, .slice (some ⟨w6.heap.size, 0, none⟩) 1 1]) (by simp [results, Tryz.results20, go_sem]) rfl ⟨nm, _, [L], rfl, hn8, RowLs_d1 HX6.out, less_in1 HLS.out, by simp, HB6.out.alloc hbs6 _⟩
  · go_wp2
    exact bodyPost_ret (v := .tuple #[.string nm, .slice (some ⟨w6.heap.size, 0, none⟩) 1 1]) (by simp [results, Tryz.results20, go_sem]) rfl ⟨nm, _, [L], rfl, hn8, RowLs_d1 HX6.out, less_in1 HLS.out, by simp, HB6.out.alloc hbs6 _⟩
  · go_wp2
    exact bodyPost_ret (v := .tuple #[.string nm, .slice (some ⟨w6.heap.size, 0, none⟩) 2 2]) (by simp [results, Tryz.results20, go_sem]) rfl ⟨nm, _, [L, X], rfl, hn8, RowLs_d2 HX6.out HTX.out, less_in2 HLS.out HLX.out, by simp, HB6.out.alloc hbs6 _⟩
  · go_wp2
    exact bodyPost_ret (v := .tuple #[.string nm, .slice (some ⟨w6.heap.size, 0, none⟩) 2 2]) (by simp [results, Tryz.results20, go_sem]) rfl ⟨nm, _, [L, X], rfl, hn8, RowLs_d2 HX6.out HTX.out, less_in2 HLS.out HLX.out, by simp, HB6.out.alloc hbs6 _⟩
  · have d1 := beq_eq_false_iff_ne.mpr c1
    have d2 := beq_eq_false_iff_ne.mpr c2
    have d3 := beq_eq_false_iff_ne.mpr c3
    have d4 := beq_eq_false_iff_ne.mpr c4
    have d5 := beq_eq_false_iff_ne.mpr c5
    have d6 := beq_eq_false_iff_ne.mpr c6
    have d7 := beq_eq_false_iff_ne.mpr c7
    have d8 := beq_eq_false_iff_ne.mpr c8
    have d9 := beq_eq_false_iff_ne.mpr c9
    go_wp2
    exact bodyPost_ret (v := .tuple #[.string nm, v3]) (by simp [results, Tryz.results20, go_sem]) rfl ⟨nm, v3, ls3, rfl, hn8, HL3.out, HF3.out, hl3, HB6.out⟩

end Go.Proofs.YtipmkbahlfkfoaaGreatDoor
