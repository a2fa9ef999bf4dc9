/-
  spec.DrawTidyItems returns items of one's own.
-/
import Derived.Test.YtbmobgahokehmaaGreatDoorDrawDoc
import Derived.Test.YtbmobgahokehmaaGreatDoorBaseD
namespace Go.Proofs.YtbmobgahokehmaaGreatDoor
open Go.RowKit
set_option linter.unusedVariables false

/-- The items of an older row, whatever happens to a row that came behind it. -/
theorem OwnG.far {w W : World} {base R : Nat} {r : Option Nat} {v : Value} {us : List Value} {l : List It} (h : OwnG w base v us l) (hg : w.grownBy W (some R)) (hR : R < base) (hr : ∀ b, r = some b → w.heap.size ≤ b) :
    ∀ (k : Nat) (h1 : k < us.length) (h2 : k < l.length), KeptC W base r us[k] l[k].2.2.1 :=
  fun k h1 h2 => (h.each k h1 h2).keep (fun b hb hl _ => hg.block b hl (fun e => by cases e; omega)) hg.size (fun b hl e => by have := hr b e; omega)
/-- The four cells of an item. -/
theorem OwnG.cells {w : World} {base g c : Nat} {us : List Value} {l : List It} (h : OwnG w base (.slice (some ⟨g, 0, none⟩) l.length c) us l) (k : Nat) (hk : k < l.length) :
    ∃ (a : Option Addr) (cc : Nat) (hu : k < us.length), us[k] = .slice a l[k].2.2.1.length cc ∧ w.cell? ⟨g, k * 4, none⟩ = some (.int .i64 l[k].1) ∧ w.cell? ⟨g, k * 4 + 1, none⟩ = some (.string l[k].2.1) ∧ w.cell? ⟨g, k * 4 + 2, none⟩ = some (.slice a l[k].2.2.1.length cc) ∧ w.cell? ⟨g, k * 4 + 3, none⟩ = some (.string l[k].2.2.2) := by
  have hl := h.len
  obtain ⟨a, cc, e, -⟩ := (h.each k (by omega) hk).row
  rcases h.row.2 with ⟨h1, h2⟩ | ⟨g', cp, cur, h1, hg, hh, hc1, hc2, _⟩
  · cases h1
  · obtain ⟨f0, f1, f2, f3⟩ := itF_at l us hl.symm k hk (by omega)
    refine ⟨a, cc, by omega, e, ?_, ?_, ?_, ?_⟩
    · rw [h.row.cellAt _ (by omega)]; exact f0
    · rw [h.row.cellAt _ (by omega)]; exact f1
    · rw [h.row.cellAt _ (by omega), ← e]; exact f2
    · rw [h.row.cellAt _ (by omega)]; exact f3
theorem few_at {l : List It} (h : ∀ i ∈ l, FewI i) (k : Nat) (hk : k < l.length) : FewI l[k] := h _ (List.getElem_mem hk)

set_option maxRecDepth 100000 in
set_option maxHeartbeats 8000000 in
theorem drawTidyItems_any (a : Option Addr) (len cap : Nat) (w : World) (h : CodeRow w a len cap) :
    Calls Tryz.prog 22 #[.slice a len cap] w fun e w' => ∃ (v : Value) (us : List Value) (l : List It), e = .returned v ∧ OwnG w' w.heap.size v us l ∧ (∀ i ∈ l, FewI i) ∧ l.length ≤ 82 ∧ Below w.heap.size w w' := by
  have HO := Lib.hid (open_codes a len cap _ h)
  clear h
  go_enter Tryz.func22, Tryz.ntmps22
  go_wp2_with fail
  refine HO.out.mono ?_
  rintro e w1 ⟨rfl, hr1, hb1, hs1⟩
  have HB := Lib.hid hb1; have HR1 := Lib.hid hr1; have HLT := Lib.hid hr1.lt
  clear hb1 hs1 hr1
  go_wp2_with fail
  refine (document_any w.heap.size 0 9 _ (by omega) (by omega) (by omega) HR1.out).mono ?_
  rintro e w2 ⟨v, us, l, rfl, ho, hf, hl, hr2, hg2⟩
  obtain ⟨g, c, rfl⟩ := ho.is
  have HO2 := Lib.hid ho; have HF := Lib.hid hf; have HLN := Lib.hid hl
  have HG2 := Lib.hid (grown_alloc hg2 (.cells #[] 25)); have HR2 := Lib.hid (hr2.kept (World.grownBy_alloc w2 (.cells #[] 25) none) (by simp))
  have HE2 := Lib.hid (World.grownBy_alloc w2 (.cells #[] 25) (some w.heap.size))
  have HA2 := Lib.hid ((lit_G w2).lower hg2.size)
  clear ho hf hl hr2 hg2
  go_wp2_with fail
  go_loopw [5, 6] (fun a i wr => ∃ (k : Nat) (us' : List Value) (l' : List It), k ≤ l.length ∧ i = .int .i64 (k : Int) ∧ OwnG wr w1.heap.size a us' l' ∧ (∀ b, a.ownBlock = some b → w2.heap.size ≤ b) ∧ (∀ x ∈ l', FewI x) ∧ Hid (l'.length ≤ 2 * k) ∧ Rdm wr w.heap.size (310000 + k) ∧ w1.grownBy wr (some w.heap.size) ∧ w2.grownBy wr (some w.heap.size)) (fun _ i _ => l.length - (intOf i).toNat)
  case atStart => exact ⟨0, [], [], by omega, rfl, HA2.out, fun b hb => by have h9 : w2.heap.size = b := Option.some.inj hb; omega, fun x hx => (by cases hx), Lib.hid (by simp), HR2.out.mono (by omega), HG2.out, HE2.out⟩
  case round =>
    obtain ⟨k, us', l', hk, rfl, hown, hnew, hfew, HLL, hr, hg, he⟩ := hrel
    have HO3 := Lib.hid hown; have HV3 := Lib.hid hnew; have HF3 := Lib.hid hfew; have HR3 := Lib.hid hr; have HG3 := Lib.hid hg; have HE3 := Lib.hid he
    clear hown hnew hfew hr hg he
    obtain ⟨ag, ac0, rfl⟩ := HO3.out.is
    have hl41 : l.length ≤ 41 := HLN.out
    by_cases hlt : k < l.length
    · have hltI : (k : Int) < (l.length : Int) := by omega
      go_wp2_with fail
      refine (pick_any w.heap.size (310000 + k) 3 _ (by omega) HR3.out).mono ?_
      rintro e w4 ⟨j, rfl, hj0, hj1, -, hr4, hg4, -⟩
      have HO4 := Lib.hid (HO3.out.grownR hg4 HLT.out); have HG4 := Lib.hid (grown_trans HG3.out hg4); have HE4 := Lib.hid (grown_trans HE3.out hg4); have HR4 := Lib.hid hr4
      have HV4 := HV3; have HF4 := HF3
      have HQ4 := Lib.hid (HO2.out.grownR HE4.out HLT.out)
      clear hj1 hr4 hg4
      by_cases hj : j = 0
      · subst hj
        have hwr : IntKind.i64.wrap ((l.length : Int) + (l'.length : Int)) = (l.length : Int) + (l'.length : Int) := IntWalk.i64_in _ (by have := HLL.out; omega)
        by_cases hroom : l.length + l'.length < 30
        · have hrI : (l.length : Int) + (l'.length : Int) < 30 := by omega
          go_upto_region 9 with (at_builtin; go_loud (refine append_G rfl _ _ rfl w1.heap.size w4.heap.size (.slice (some ⟨ag, 0, none⟩) l'.length ac0) (.slice (some ⟨w4.heap.size, 0, none⟩) 1 1) us' ([.slice none 0 0] : List Value) l' ([(1, ⟨#[]⟩, [], ⟨#[]⟩)] : List It) rfl (HO4.out.al (.cells #[.int .i64 1, .string ⟨#[]⟩, .slice none 0 0, .string ⟨#[]⟩] 25)) rfl (lit_G1 (base := w4.heap.size) (k := 1) (n := ⟨#[]⟩) (t := ⟨#[]⟩) (Nat.le_refl _) KeptC.nil) ((lit_G1 (base := w4.heap.size) (k := 1) (n := ⟨#[]⟩) (t := ⟨#[]⟩) (Nat.le_refl _) KeptC.nil).later HG4.out.size HO4.out.block_lt) (by have := HLN.out; have := HLL.out; simp only [List.length_singleton]; omega) (grown_alloc HG4.out (.cells #[.int .i64 1, .string ⟨#[]⟩, .slice none 0 0, .string ⟨#[]⟩] 25)).size ?_); go_loud (intro v6 w6 ho6 hgr6 hat6; have HV6 := Lib.hid (show ∀ b, v6.ownBlock = some b → w2.heap.size ≤ b from fun b hb => (hat6 b hb).elim (fun h => HV4.out b h) (fun h => by rw [h]; have := HE4.out.size; simp; omega)); have HG6 := Lib.hid (grown_own (grown_alloc HG4.out (.cells #[.int .i64 1, .string ⟨#[]⟩, .slice none 0 0, .string ⟨#[]⟩] 25)) hgr6 (fun x hx => ((HO4.out.al (.cells #[.int .i64 1, .string ⟨#[]⟩, .slice none 0 0, .string ⟨#[]⟩] 25)).row.lt x hx).1)); have HE6 := Lib.hid (grown_own (grown_alloc HE4.out (.cells #[.int .i64 1, .string ⟨#[]⟩, .slice none 0 0, .string ⟨#[]⟩] 25)) hgr6 (fun x hx => HV4.out x hx)); have HR6 := Lib.hid ((HR4.out.kept (World.grownBy_alloc w4 (.cells #[.int .i64 1, .string ⟨#[]⟩, .slice none 0 0, .string ⟨#[]⟩] 25) none) (by simp)).kept hgr6 (fun x hx => by have := ((HO4.out.al (.cells #[.int .i64 1, .string ⟨#[]⟩, .slice none 0 0, .string ⟨#[]⟩] 25)).row.lt x hx).1; have := HLT.out; omega)); obtain ⟨L6, HL6⟩ : ∃ L : List It, Hid (L = l' ++ ([(1, ⟨#[]⟩, [], ⟨#[]⟩)] : List It)) := ⟨_, Lib.hid rfl⟩; obtain ⟨U6, HU6⟩ : ∃ L : List Value, Hid (L = us' ++ ([.slice none 0 0] : List Value)) := ⟨_, Lib.hid rfl⟩; rw [← HL6.out, ← HU6.out] at ho6; have HO6 := Lib.hid ho6; have HF6 := Lib.hid (show ∀ i ∈ L6, FewI i by rw [HL6.out]; exact few_app HF4.out (few_one (few_simple 1 (by decide)))); have HLN6 := Lib.hid (show L6.length = (l').length + (([(1, ⟨#[]⟩, [], ⟨#[]⟩)] : List It)).length by rw [HL6.out, List.length_append]); obtain ⟨g6, c6, rfl⟩ := ho6.is; clear ho6 hgr6 hat6))
          have HQ6 := Lib.hid (HO2.out.grownR HE6.out HLT.out)
          obtain ⟨ua, uc, hu, he, d0, d1, d2, d3⟩ := HQ6.out.cells k hlt
          have HFK := Lib.hid (few_at HF.out k hlt)
          have hkc := fun (W : World) (r : Option Nat) (hg : w2.grownBy W (some w.heap.size)) (hr : ∀ b, r = some b → w2.heap.size ≤ b) => HO2.out.far hg HLT.out hr k hu hlt
          rw [he] at hkc
          generalize l[k] = it at d0 d1 d2 d3 hkc HFK
          obtain ⟨ik, inm, ics, int⟩ := it
          simp only at d0 d1 d2 d3 hkc
          have HKC := Lib.hid hkc
          clear he hkc
          go_wp2_with (at_builtin; go_loud (refine append_G rfl _ _ rfl w1.heap.size w1.heap.size (.slice (some ⟨g6, 0, none⟩) L6.length c6) (.slice (some ⟨w6.heap.size, 0, none⟩) 1 1) U6 ([.slice ua ics.length uc] : List Value) L6 ([(ik, inm, ics, int)] : List It) rfl (HO6.out.al (.cells #[.int .i64 ik, .string inm, .slice ua ics.length uc, .string int] 25)) rfl (lit_G1 (base := w1.heap.size) (k := ik) (n := inm) (t := int) HG6.out.size (HKC.out _ _ HE6.out (fun b hb => by have h9 : w6.heap.size = b := Option.some.inj hb; have := HE6.out.size; omega))) (fun q h1 h2 => by obtain rfl : q = 0 := (by have h9 : q < 1 := h1; omega); exact HKC.out _ _ (grown_alloc HE6.out (.cells #[.int .i64 ik, .string inm, .slice ua ics.length uc, .string int] 25)) HV6.out) (by have := HLN.out; have := HLL.out; have := HLN6.out; simp only [List.length_singleton] at this; simp only [List.length_singleton]; omega) (grown_alloc HG6.out (.cells #[.int .i64 ik, .string inm, .slice ua ics.length uc, .string int] 25)).size ?_); go_loud (intro v8 w8 ho8 hgr8 hat8; have HV8 := Lib.hid (show ∀ b, v8.ownBlock = some b → w2.heap.size ≤ b from fun b hb => (hat8 b hb).elim (fun h => HV6.out b h) (fun h => by rw [h]; have := HE6.out.size; simp; omega)); have HG8 := Lib.hid (grown_own (grown_alloc HG6.out (.cells #[.int .i64 ik, .string inm, .slice ua ics.length uc, .string int] 25)) hgr8 (fun x hx => ((HO6.out.al (.cells #[.int .i64 ik, .string inm, .slice ua ics.length uc, .string int] 25)).row.lt x hx).1)); have HE8 := Lib.hid (grown_own (grown_alloc HE6.out (.cells #[.int .i64 ik, .string inm, .slice ua ics.length uc, .string int] 25)) hgr8 (fun x hx => HV6.out x hx)); have HR8 := Lib.hid ((HR6.out.kept (World.grownBy_alloc w6 (.cells #[.int .i64 ik, .string inm, .slice ua ics.length uc, .string int] 25) none) (by simp)).kept hgr8 (fun x hx => by have := ((HO6.out.al (.cells #[.int .i64 ik, .string inm, .slice ua ics.length uc, .string int] 25)).row.lt x hx).1; have := HLT.out; omega)); obtain ⟨L8, HL8⟩ : ∃ L : List It, Hid (L = L6 ++ ([(ik, inm, ics, int)] : List It)) := ⟨_, Lib.hid rfl⟩; obtain ⟨U8, HU8⟩ : ∃ L : List Value, Hid (L = U6 ++ ([.slice ua ics.length uc] : List Value)) := ⟨_, Lib.hid rfl⟩; rw [← HL8.out, ← HU8.out] at ho8; have HO8 := Lib.hid ho8; have HF8 := Lib.hid (show ∀ i ∈ L8, FewI i by rw [HL8.out]; exact few_app HF6.out (few_one HFK.out)); have HLN8 := Lib.hid (show L8.length = (L6).length + (([(ik, inm, ics, int)] : List It)).length by rw [HL8.out, List.length_append]); obtain ⟨g8, c8, rfl⟩ := ho8.is; clear ho8 hgr8 hat8))
          have HQ := Lib.hid (show L8.length ≤ 2 * (k + 1) by have := HLL.out; have := HLN8.out; have := HLN6.out; simp at *; omega)
          have HRQ := Lib.hid (show Rdm w8 w.heap.size (310000 + (k + 1)) from HR8.out.mono (by omega))
          go_wp2
          go_roundw
          case rel => exact ⟨k + 1, U8, L8, by omega, by go_num, HO8.out, HV8.out, HF8.out, Lib.hid HQ.out, HRQ.out, HG8.out, HE8.out⟩
          case measure => simp [intOf]; omega
        · have hrI : ¬ (l.length : Int) + (l'.length : Int) < 30 := by omega
          obtain ⟨ua, uc, hu, he, d0, d1, d2, d3⟩ := HQ4.out.cells k hlt
          have HFK := Lib.hid (few_at HF.out k hlt)
          have hkc := fun (W : World) (r : Option Nat) (hg : w2.grownBy W (some w.heap.size)) (hr : ∀ b, r = some b → w2.heap.size ≤ b) => HO2.out.far hg HLT.out hr k hu hlt
          rw [he] at hkc
          generalize l[k] = it at d0 d1 d2 d3 hkc HFK
          obtain ⟨ik, inm, ics, int⟩ := it
          simp only at d0 d1 d2 d3 hkc
          have HKC := Lib.hid hkc
          clear he hkc
          go_wp2_with (at_builtin; go_loud (refine append_G rfl _ _ rfl w1.heap.size w1.heap.size (.slice (some ⟨ag, 0, none⟩) l'.length ac0) (.slice (some ⟨w4.heap.size, 0, none⟩) 1 1) us' ([.slice ua ics.length uc] : List Value) l' ([(ik, inm, ics, int)] : List It) rfl (HO4.out.al (.cells #[.int .i64 ik, .string inm, .slice ua ics.length uc, .string int] 25)) rfl (lit_G1 (base := w1.heap.size) (k := ik) (n := inm) (t := int) HG4.out.size (HKC.out _ _ HE4.out (fun b hb => by have h9 : w4.heap.size = b := Option.some.inj hb; have := HE4.out.size; omega))) (fun q h1 h2 => by obtain rfl : q = 0 := (by have h9 : q < 1 := h1; omega); exact HKC.out _ _ (grown_alloc HE4.out (.cells #[.int .i64 ik, .string inm, .slice ua ics.length uc, .string int] 25)) HV4.out) (by have := HLN.out; have := HLL.out; simp only [List.length_singleton]; omega) (grown_alloc HG4.out (.cells #[.int .i64 ik, .string inm, .slice ua ics.length uc, .string int] 25)).size ?_); go_loud (intro v8 w8 ho8 hgr8 hat8; have HV8 := Lib.hid (show ∀ b, v8.ownBlock = some b → w2.heap.size ≤ b from fun b hb => (hat8 b hb).elim (fun h => HV4.out b h) (fun h => by rw [h]; have := HE4.out.size; simp; omega)); have HG8 := Lib.hid (grown_own (grown_alloc HG4.out (.cells #[.int .i64 ik, .string inm, .slice ua ics.length uc, .string int] 25)) hgr8 (fun x hx => ((HO4.out.al (.cells #[.int .i64 ik, .string inm, .slice ua ics.length uc, .string int] 25)).row.lt x hx).1)); have HE8 := Lib.hid (grown_own (grown_alloc HE4.out (.cells #[.int .i64 ik, .string inm, .slice ua ics.length uc, .string int] 25)) hgr8 (fun x hx => HV4.out x hx)); have HR8 := Lib.hid ((HR4.out.kept (World.grownBy_alloc w4 (.cells #[.int .i64 ik, .string inm, .slice ua ics.length uc, .string int] 25) none) (by simp)).kept hgr8 (fun x hx => by have := ((HO4.out.al (.cells #[.int .i64 ik, .string inm, .slice ua ics.length uc, .string int] 25)).row.lt x hx).1; have := HLT.out; omega)); obtain ⟨L8, HL8⟩ : ∃ L : List It, Hid (L = l' ++ ([(ik, inm, ics, int)] : List It)) := ⟨_, Lib.hid rfl⟩; obtain ⟨U8, HU8⟩ : ∃ L : List Value, Hid (L = us' ++ ([.slice ua ics.length uc] : List Value)) := ⟨_, Lib.hid rfl⟩; rw [← HL8.out, ← HU8.out] at ho8; have HO8 := Lib.hid ho8; have HF8 := Lib.hid (show ∀ i ∈ L8, FewI i by rw [HL8.out]; exact few_app HF4.out (few_one HFK.out)); have HLN8 := Lib.hid (show L8.length = (l').length + (([(ik, inm, ics, int)] : List It)).length by rw [HL8.out, List.length_append]); obtain ⟨g8, c8, rfl⟩ := ho8.is; clear ho8 hgr8 hat8))
          have HQ := Lib.hid (show L8.length ≤ 2 * (k + 1) by have := HLL.out; have := HLN8.out; simp at *; omega)
          have HRQ := Lib.hid (show Rdm w8 w.heap.size (310000 + (k + 1)) from HR8.out.mono (by omega))
          go_wp2
          go_roundw
          case rel => exact ⟨k + 1, U8, L8, by omega, by go_num, HO8.out, HV8.out, HF8.out, Lib.hid HQ.out, HRQ.out, HG8.out, HE8.out⟩
          case measure => simp [intOf]; omega
      · have hjb : (j == 0) = false := beq_eq_false_iff_ne.mpr hj
        obtain ⟨ua, uc, hu, he, d0, d1, d2, d3⟩ := HQ4.out.cells k hlt
        have HFK := Lib.hid (few_at HF.out k hlt)
        have hkc := fun (W : World) (r : Option Nat) (hg : w2.grownBy W (some w.heap.size)) (hr : ∀ b, r = some b → w2.heap.size ≤ b) => HO2.out.far hg HLT.out hr k hu hlt
        rw [he] at hkc
        generalize l[k] = it at d0 d1 d2 d3 hkc HFK
        obtain ⟨ik, inm, ics, int⟩ := it
        simp only at d0 d1 d2 d3 hkc
        have HKC := Lib.hid hkc
        clear he hkc
        go_wp2_with (at_builtin; go_loud (refine append_G rfl _ _ rfl w1.heap.size w1.heap.size (.slice (some ⟨ag, 0, none⟩) l'.length ac0) (.slice (some ⟨w4.heap.size, 0, none⟩) 1 1) us' ([.slice ua ics.length uc] : List Value) l' ([(ik, inm, ics, int)] : List It) rfl (HO4.out.al (.cells #[.int .i64 ik, .string inm, .slice ua ics.length uc, .string int] 25)) rfl (lit_G1 (base := w1.heap.size) (k := ik) (n := inm) (t := int) HG4.out.size (HKC.out _ _ HE4.out (fun b hb => by have h9 : w4.heap.size = b := Option.some.inj hb; have := HE4.out.size; omega))) (fun q h1 h2 => by obtain rfl : q = 0 := (by have h9 : q < 1 := h1; omega); exact HKC.out _ _ (grown_alloc HE4.out (.cells #[.int .i64 ik, .string inm, .slice ua ics.length uc, .string int] 25)) HV4.out) (by have := HLN.out; have := HLL.out; simp only [List.length_singleton]; omega) (grown_alloc HG4.out (.cells #[.int .i64 ik, .string inm, .slice ua ics.length uc, .string int] 25)).size ?_); go_loud (intro v8 w8 ho8 hgr8 hat8; have HV8 := Lib.hid (show ∀ b, v8.ownBlock = some b → w2.heap.size ≤ b from fun b hb => (hat8 b hb).elim (fun h => HV4.out b h) (fun h => by rw [h]; have := HE4.out.size; simp; omega)); have HG8 := Lib.hid (grown_own (grown_alloc HG4.out (.cells #[.int .i64 ik, .string inm, .slice ua ics.length uc, .string int] 25)) hgr8 (fun x hx => ((HO4.out.al (.cells #[.int .i64 ik, .string inm, .slice ua ics.length uc, .string int] 25)).row.lt x hx).1)); have HE8 := Lib.hid (grown_own (grown_alloc HE4.out (.cells #[.int .i64 ik, .string inm, .slice ua ics.length uc, .string int] 25)) hgr8 (fun x hx => HV4.out x hx)); have HR8 := Lib.hid ((HR4.out.kept (World.grownBy_alloc w4 (.cells #[.int .i64 ik, .string inm, .slice ua ics.length uc, .string int] 25) none) (by simp)).kept hgr8 (fun x hx => by have := ((HO4.out.al (.cells #[.int .i64 ik, .string inm, .slice ua ics.length uc, .string int] 25)).row.lt x hx).1; have := HLT.out; omega)); obtain ⟨L8, HL8⟩ : ∃ L : List It, Hid (L = l' ++ ([(ik, inm, ics, int)] : List It)) := ⟨_, Lib.hid rfl⟩; obtain ⟨U8, HU8⟩ : ∃ L : List Value, Hid (L = us' ++ ([.slice ua ics.length uc] : List Value)) := ⟨_, Lib.hid rfl⟩; rw [← HL8.out, ← HU8.out] at ho8; have HO8 := Lib.hid ho8; have HF8 := Lib.hid (show ∀ i ∈ L8, FewI i by rw [HL8.out]; exact few_app HF4.out (few_one HFK.out)); have HLN8 := Lib.hid (show L8.length = (l').length + (([(ik, inm, ics, int)] : List It)).length by rw [HL8.out, List.length_append]); obtain ⟨g8, c8, rfl⟩ := ho8.is; clear ho8 hgr8 hat8))
        have HQ := Lib.hid (show L8.length ≤ 2 * (k + 1) by have := HLL.out; have := HLN8.out; simp at *; omega)
        have HRQ := Lib.hid (show Rdm w8 w.heap.size (310000 + (k + 1)) from HR8.out.mono (by omega))
        go_wp2
        go_roundw
        case rel => exact ⟨k + 1, U8, L8, by omega, by go_num, HO8.out, HV8.out, HF8.out, Lib.hid HQ.out, HRQ.out, HG8.out, HE8.out⟩
        case measure => simp [intOf]; omega
    · obtain rfl : k = l.length := by omega
      go_wp2
      go_ret
      exact ⟨_, us', l', rfl, HO3.out.lower HB.out.size, HF3.out, by have := HLL.out; omega, HB.out.trans (grown_below HG3.out HB.out.size (Nat.le_refl _))⟩

end Go.Proofs.YtbmobgahokehmaaGreatDoor
