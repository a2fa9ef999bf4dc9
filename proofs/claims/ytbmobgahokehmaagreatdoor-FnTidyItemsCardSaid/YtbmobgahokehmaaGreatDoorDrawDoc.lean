/-
  Drawn documents: spec.l20Document.
-/
import Derived.Test.YtbmobgahokehmaaGreatDoorDrawItems
namespace Go.Proofs.YtbmobgahokehmaaGreatDoor
open Go.RowKit
set_option linter.unusedVariables false

theorem OwnG.older {w : World} {base : Nat} {v : Value} {us : List Value} {l : List It} (h : OwnG w base v us l) (o : Obj) : ∀ (k : Nat) (h1 : k < us.length) (h2 : k < l.length), KeptC (w.alloc o) base (some w.heap.size) us[k] l[k].2.2.1 :=
  fun k h1 h2 => (h.each k h1 h2).keep (fun b _ hl _ => Below.heap_alloc _ _ _ hl) (by simp) (fun b hl e => by injection e with e; omega)
theorem OwnG.block_lt {w : World} {base : Nat} {v : Value} {us : List Value} {l : List It} (h : OwnG w base v us l) : ∀ b, v.ownBlock = some b → b < w.heap.size := fun b hb => (h.row.lt b hb).2
def lenO : Value → Nat
  | .slice _ n _ => n
  | _ => 0
/-- What l20Document leaves. -/
def DocD (R p : Nat) (w : World) (e : Ending) (w' : World) : Prop :=
  ∃ (v : Value) (us : List Value) (l : List It), e = .returned v ∧ OwnG w' w.heap.size v us l ∧ (∀ i ∈ l, FewI i) ∧ l.length ≤ 41 ∧ Rdm w' R (p + 310000) ∧ w.grownBy w' (some R)

set_option maxRecDepth 100000 in
set_option maxHeartbeats 8000000 in
theorem document_any (R p : Nat) (n : Int) (w : World) (hp : p + 400000 < 30000000) (hn0 : 0 ≤ n) (hn1 : n ≤ 1000) (h : Rdm w R p) :
    Calls Tryz.prog 46 #[.pointer (some ⟨R, 0, none⟩), .int .i64 n] w (DocD R p w) := by
  have HLT := Lib.hid h.lt
  go_enter Tryz.func46, Tryz.ntmps46
  go_wp2_with fail
  refine (items_any R p _ (by omega) h).mono ?_
  rintro e w1 ⟨v1, us1, l1, rfl, ho1, hf1, hl1, hr1, hg1⟩
  obtain ⟨g1, c1, rfl⟩ := ho1.is
  have HO1 := Lib.hid ho1; have HF1 := Lib.hid hf1; have HR1 := Lib.hid hr1; have HG1 := Lib.hid hg1
  clear ho1 hf1 hr1 hg1 h
  by_cases hlen : 30 < l1.length
  · have hlI : (30 : Int) < (l1.length : Int) := by omega
    have HOL := Lib.hid ((lit_G w1).lower HG1.out.size)
    have HL := Lib.hid (show ([] : List It).length ≤ 30 by simp)
    have HGL := Lib.hid (grown_alloc HG1.out (.cells #[] 25)); have HRL := Lib.hid (HR1.out.kept (World.grownBy_alloc w1 (.cells #[] 25) none) (by simp))
    have HFL := Lib.hid (show ∀ i ∈ ([] : List It), FewI i from fun i hi => by cases hi)
    go_wp2_with fail
    refine (odd_any R (p + 300000) n _ (by omega) (by omega) (by omega) HRL.out).mono ?_
    rintro e w2 ⟨bo, rfl, -, hr2, hg2, -⟩
    have HO2 := Lib.hid (HOL.out.grownR hg2 HLT.out); have HG2 := Lib.hid (grown_trans HGL.out hg2); have HR2 := Lib.hid hr2
    clear hr2 hg2
    cases bo with
    | false =>
      go_wp2
      go_ret
      exact ⟨_, [], ([] : List It), rfl, HO2.out, HFL.out, by have := HL.out; omega, HR2.out.mono (by omega), HG2.out⟩
    | true =>
      go_wp2_with fail
      refine (pick_any R (p + 300000 + 1) 5 _ (by omega) HR2.out).mono ?_
      rintro e w3 ⟨j, rfl, hj0, hj1, -, hr3, hg3, -⟩
      have hj2 := hj1 (by omega)
      have HO3 := Lib.hid (HO2.out.grownR hg3 HLT.out); have HG3 := Lib.hid (grown_trans HG2.out hg3); have HR3 := Lib.hid hr3
      clear hj1 hr3 hg3
      have hj : j = 0 ∨ j = 1 ∨ j = 2 ∨ j = 3 ∨ j = 4 := by omega
      clear hj0 hj2
      rcases hj with rfl | rfl | rfl | rfl | rfl
      · go_wp2_with (at_builtin; (refine append_G rfl _ _ rfl w.heap.size w3.heap.size (.slice (some ⟨w1.heap.size, 0, none⟩) 0 0) (.slice (some ⟨w3.heap.size, 0, none⟩) 1 1) [] ([.slice none 0 0] : List Value) ([] : List It) ([(4, ⟨#[113]⟩, [], ⟨#[]⟩)] : List It) rfl (HO3.out.al (.cells #[.int .i64 4, .string ⟨#[113]⟩, .slice none 0 0, .string ⟨#[]⟩] 25)) rfl (lit_G1 (base := w3.heap.size) (k := 4) (n := ⟨#[113]⟩) (t := ⟨#[]⟩) (Nat.le_refl _) KeptC.nil) ((lit_G1 (base := w3.heap.size) (k := 4) (n := ⟨#[113]⟩) (t := ⟨#[]⟩) (Nat.le_refl _) KeptC.nil).later HG3.out.size HO3.out.block_lt) (by have := HL.out; first | (simp; done) | (simp; omega)) (grown_alloc HG3.out (.cells #[.int .i64 4, .string ⟨#[113]⟩, .slice none 0 0, .string ⟨#[]⟩] 25)).size ?_); (intro v5 w5 ho5 hgr5 hat5; clear hat5; have HG5 := Lib.hid (grown_own (grown_alloc HG3.out (.cells #[.int .i64 4, .string ⟨#[113]⟩, .slice none 0 0, .string ⟨#[]⟩] 25)) hgr5 (fun x hx => (((HO3.out.al (.cells #[.int .i64 4, .string ⟨#[113]⟩, .slice none 0 0, .string ⟨#[]⟩] 25))).row.lt x hx).1)); have HR5 := Lib.hid ((HR3.out.kept (World.grownBy_alloc w3 (.cells #[.int .i64 4, .string ⟨#[113]⟩, .slice none 0 0, .string ⟨#[]⟩] 25) none) (by simp)).kept hgr5 (fun x hx => by have := (((HO3.out.al (.cells #[.int .i64 4, .string ⟨#[113]⟩, .slice none 0 0, .string ⟨#[]⟩] 25))).row.lt x hx).1; have := HLT.out; omega)); obtain ⟨L5, HL5⟩ : ∃ L : List It, Hid (L = ([] : List It) ++ ([(4, ⟨#[113]⟩, [], ⟨#[]⟩)] : List It)) := ⟨_, Lib.hid rfl⟩; obtain ⟨U5, HU5⟩ : ∃ L : List Value, Hid (L = [] ++ ([.slice none 0 0] : List Value)) := ⟨_, Lib.hid rfl⟩; rw [← HL5.out, ← HU5.out] at ho5; have HO5 := Lib.hid ho5; have HF5 := Lib.hid (show ∀ i ∈ L5, FewI i by rw [HL5.out]; exact few_app HFL.out (few_one (few_simple 4 (by decide)))); have HLN5 := Lib.hid (show L5.length = (([] : List It)).length + (([(4, ⟨#[113]⟩, [], ⟨#[]⟩)] : List It)).length by rw [HL5.out, List.length_append]); obtain ⟨g5, c5, rfl⟩ := ho5.is; clear ho5 hgr5))
        go_wp2
        go_ret
        exact ⟨_, U5, L5, rfl, HO5.out, HF5.out, by have := HLN5.out; have := HL.out; first | (simp at *; done) | (simp at *; omega), HR5.out.mono (by omega), HG5.out⟩
      · go_wp2_with (at_builtin; (refine append_G rfl _ _ rfl w.heap.size w.heap.size (.slice (some ⟨w3.heap.size, 0, none⟩) 1 1) (.slice (some ⟨w1.heap.size, 0, none⟩) 0 0) ([.slice none 0 0] : List Value) [] ([(5, ⟨#[]⟩, [], ⟨#[]⟩)] : List It) ([] : List It) rfl (lit_G1 (base := w.heap.size) (k := 5) (n := ⟨#[]⟩) (t := ⟨#[]⟩) HG3.out.size KeptC.nil) rfl (HO3.out.al (.cells #[.int .i64 5, .string ⟨#[]⟩, .slice none 0 0, .string ⟨#[]⟩] 25)) (HO3.out.older (.cells #[.int .i64 5, .string ⟨#[]⟩, .slice none 0 0, .string ⟨#[]⟩] 25)) (by have := HL.out; first | (simp; done) | (simp; omega)) (grown_alloc HG3.out (.cells #[.int .i64 5, .string ⟨#[]⟩, .slice none 0 0, .string ⟨#[]⟩] 25)).size ?_); (intro v5 w5 ho5 hgr5 hat5; clear hat5; have HG5 := Lib.hid (grown_own (grown_alloc HG3.out (.cells #[.int .i64 5, .string ⟨#[]⟩, .slice none 0 0, .string ⟨#[]⟩] 25)) hgr5 (fun x hx => (((lit_G1 (base := w.heap.size) (k := 5) (n := ⟨#[]⟩) (t := ⟨#[]⟩) HG3.out.size KeptC.nil)).row.lt x hx).1)); have HR5 := Lib.hid ((HR3.out.kept (World.grownBy_alloc w3 (.cells #[.int .i64 5, .string ⟨#[]⟩, .slice none 0 0, .string ⟨#[]⟩] 25) none) (by simp)).kept hgr5 (fun x hx => by have := (((lit_G1 (base := w.heap.size) (k := 5) (n := ⟨#[]⟩) (t := ⟨#[]⟩) HG3.out.size KeptC.nil)).row.lt x hx).1; have := HLT.out; omega)); obtain ⟨L5, HL5⟩ : ∃ L : List It, Hid (L = ([(5, ⟨#[]⟩, [], ⟨#[]⟩)] : List It) ++ ([] : List It)) := ⟨_, Lib.hid rfl⟩; obtain ⟨U5, HU5⟩ : ∃ L : List Value, Hid (L = ([.slice none 0 0] : List Value) ++ []) := ⟨_, Lib.hid rfl⟩; rw [← HL5.out, ← HU5.out] at ho5; have HO5 := Lib.hid ho5; have HF5 := Lib.hid (show ∀ i ∈ L5, FewI i by rw [HL5.out]; exact few_app (few_one (few_simple 5 (by decide))) HFL.out); have HLN5 := Lib.hid (show L5.length = (([(5, ⟨#[]⟩, [], ⟨#[]⟩)] : List It)).length + (([] : List It)).length by rw [HL5.out, List.length_append]); obtain ⟨g5, c5, rfl⟩ := ho5.is; clear ho5 hgr5))
        go_wp2
        go_ret
        exact ⟨_, U5, L5, rfl, HO5.out, HF5.out, by have := HLN5.out; have := HL.out; first | (simp at *; done) | (simp at *; omega), HR5.out.mono (by omega), HG5.out⟩
      · go_wp2_with fail
        refine (item_any R (p + 300000 + 1 + 1) 1 _ (by omega) (by omega) (by omega) HR3.out).mono ?_
        rintro e w7 ⟨i7, au, ac, rfl, hk7, hf7, hr7, hg7⟩
        obtain ⟨ik, inm, ics, int⟩ := i7
        have HLW7 := Lib.hid HO3.out.block_lt
        have HO7 := Lib.hid (HO3.out.grownR hg7 HLT.out); have HG7 := Lib.hid (grown_trans HG3.out hg7); have HR7 := Lib.hid hr7; have HF7 := Lib.hid hf7
        have HK7 := Lib.hid (show KeptC w7 w3.heap.size (some w7.heap.size) (.slice au ics.length ac) ics from fun w' h1 h2 => hk7 w' (fun b hb hl => h1 b hb hl (fun e => by injection e with e; omega)) h2)
        have hsz7 : w3.heap.size ≤ w7.heap.size := hg7.size
        clear hk7 hf7 hr7 hg7
        go_wp2_with (at_builtin; (refine append_G rfl _ _ rfl w.heap.size w3.heap.size (.slice (some ⟨w1.heap.size, 0, none⟩) 0 0) (.slice (some ⟨w7.heap.size, 0, none⟩) 1 1) [] ([.slice au ics.length ac] : List Value) ([] : List It) ([(ik, inm, ics, int)] : List It) rfl (HO7.out.al (.cells #[.int .i64 ik, .string inm, .slice au ics.length ac, .string int] 25)) rfl (lit_G1 (k := ik) (n := inm) (t := int) hsz7 HK7.out) ((lit_G1 (k := ik) (n := inm) (t := int) hsz7 HK7.out).later HG3.out.size HLW7.out) (by have := HL.out; first | (simp; done) | (simp; omega)) (grown_alloc HG7.out (.cells #[.int .i64 ik, .string inm, .slice au ics.length ac, .string int] 25)).size ?_); (intro v5 w5 ho5 hgr5 hat5; clear hat5; have HG5 := Lib.hid (grown_own (grown_alloc HG7.out (.cells #[.int .i64 ik, .string inm, .slice au ics.length ac, .string int] 25)) hgr5 (fun x hx => (((HO7.out.al (.cells #[.int .i64 ik, .string inm, .slice au ics.length ac, .string int] 25))).row.lt x hx).1)); have HR5 := Lib.hid ((HR7.out.kept (World.grownBy_alloc w7 (.cells #[.int .i64 ik, .string inm, .slice au ics.length ac, .string int] 25) none) (by simp)).kept hgr5 (fun x hx => by have := (((HO7.out.al (.cells #[.int .i64 ik, .string inm, .slice au ics.length ac, .string int] 25))).row.lt x hx).1; have := HLT.out; omega)); obtain ⟨L5, HL5⟩ : ∃ L : List It, Hid (L = ([] : List It) ++ ([(ik, inm, ics, int)] : List It)) := ⟨_, Lib.hid rfl⟩; obtain ⟨U5, HU5⟩ : ∃ L : List Value, Hid (L = [] ++ ([.slice au ics.length ac] : List Value)) := ⟨_, Lib.hid rfl⟩; rw [← HL5.out, ← HU5.out] at ho5; have HO5 := Lib.hid ho5; have HF5 := Lib.hid (show ∀ i ∈ L5, FewI i by rw [HL5.out]; exact few_app HFL.out (few_one HF7.out)); have HLN5 := Lib.hid (show L5.length = (([] : List It)).length + (([(ik, inm, ics, int)] : List It)).length by rw [HL5.out, List.length_append]); obtain ⟨g5, c5, rfl⟩ := ho5.is; clear ho5 hgr5))
        go_wp2
        go_ret
        exact ⟨_, U5, L5, rfl, HO5.out, HF5.out, by have := HLN5.out; have := HL.out; first | (simp at *; done) | (simp at *; omega), HR5.out.mono (by omega), HG5.out⟩
      · go_wp2_with fail
        go_loopw [5, 6] (fun a i wr => ∃ (k : Nat) (us : List Value) (l : List It), k ≤ 5 ∧ i = .int .i64 (k : Int) ∧ OwnG wr w.heap.size a us l ∧ (∀ x ∈ l, FewI x) ∧ Hid (l.length ≤ 30 + 2 * k) ∧ Rdm wr R (p + 300000 + 1 + 1) ∧ w.grownBy wr (some R)) (fun _ i _ => 5 - (intOf i).toNat)
        case atStart => exact ⟨0, [], ([] : List It), by omega, rfl, HO3.out, HFL.out, Lib.hid (by have := HL.out; omega), HR3.out, HG3.out⟩
        case round =>
          obtain ⟨k, us, l, hk, rfl, hown, hfew, HLL, hr, hg⟩ := hrel
          have HO := Lib.hid hown; have HF := Lib.hid hfew; have HR := Lib.hid hr; have HG := Lib.hid hg
          clear hown hfew hr hg
          obtain ⟨ag, ac0, rfl⟩ := HO.out.is
          by_cases hk4 : k = 5
          · subst hk4
            go_wp2
            go_ret
            exact ⟨_, us, l, rfl, HO.out, HF.out, by have := HLL.out; omega, HR.out.mono (by omega), HG.out⟩
          · have hkI : (k : Int) ≤ 4 := by omega
            have hwk : IntKind.i64.wrap ((k : Int) + 1) = ((k + 1 : Nat) : Int) := by rw [IntWalk.i64_in _ (by omega)]; omega
            go_wp2_with ((first | (at_builtin; (refine append_G rfl _ _ rfl w.heap.size w.heap.size (.slice (some ⟨wr.heap.size, 0, none⟩) 1 1) (.slice (some ⟨ag, 0, none⟩) l.length ac0) ([.slice none 0 0] : List Value) us ([(4, ⟨#[113]⟩, [], ⟨#[]⟩)] : List It) l rfl (lit_G1 (base := w.heap.size) (k := 4) (n := ⟨#[113]⟩) (t := ⟨#[]⟩) HG.out.size KeptC.nil) rfl (HO.out.al (.cells #[.int .i64 4, .string ⟨#[113]⟩, .slice none 0 0, .string ⟨#[]⟩] 25)) (HO.out.older (.cells #[.int .i64 4, .string ⟨#[113]⟩, .slice none 0 0, .string ⟨#[]⟩] 25)) (by have := HLL.out; simp; omega) (grown_alloc HG.out (.cells #[.int .i64 4, .string ⟨#[113]⟩, .slice none 0 0, .string ⟨#[]⟩] 25)).size ?_); (intro v5 w5 ho5 hgr5 hat5; clear hat5; have HG5 := Lib.hid (grown_own (grown_alloc HG.out (.cells #[.int .i64 4, .string ⟨#[113]⟩, .slice none 0 0, .string ⟨#[]⟩] 25)) hgr5 (fun x hx => (((lit_G1 (base := w.heap.size) (k := 4) (n := ⟨#[113]⟩) (t := ⟨#[]⟩) HG.out.size KeptC.nil)).row.lt x hx).1)); have HR5 := Lib.hid ((HR.out.kept (World.grownBy_alloc wr (.cells #[.int .i64 4, .string ⟨#[113]⟩, .slice none 0 0, .string ⟨#[]⟩] 25) none) (by simp)).kept hgr5 (fun x hx => by have := (((lit_G1 (base := w.heap.size) (k := 4) (n := ⟨#[113]⟩) (t := ⟨#[]⟩) HG.out.size KeptC.nil)).row.lt x hx).1; have := HLT.out; omega)); obtain ⟨L5, HL5⟩ : ∃ L : List It, Hid (L = ([(4, ⟨#[113]⟩, [], ⟨#[]⟩)] : List It) ++ l) := ⟨_, Lib.hid rfl⟩; obtain ⟨U5, HU5⟩ : ∃ L : List Value, Hid (L = ([.slice none 0 0] : List Value) ++ us) := ⟨_, Lib.hid rfl⟩; rw [← HL5.out, ← HU5.out] at ho5; have HO5 := Lib.hid ho5; have HF5 := Lib.hid (show ∀ i ∈ L5, FewI i by rw [HL5.out]; exact few_app (few_one (few_simple 4 (by decide))) HF.out); have HLN5 := Lib.hid (show L5.length = (([(4, ⟨#[113]⟩, [], ⟨#[]⟩)] : List It)).length + (l).length by rw [HL5.out, List.length_append]); obtain ⟨g5, c5, rfl⟩ := ho5.is; clear ho5 hgr5)) | (at_builtin; (refine append_G rfl _ _ rfl w.heap.size w5.heap.size (.slice (some ⟨g5, 0, none⟩) L5.length c5) (.slice (some ⟨w5.heap.size, 0, none⟩) 1 1) U5 ([.slice none 0 0] : List Value) L5 ([(5, ⟨#[]⟩, [], ⟨#[]⟩)] : List It) rfl (HO5.out.al (.cells #[.int .i64 5, .string ⟨#[]⟩, .slice none 0 0, .string ⟨#[]⟩] 25)) rfl (lit_G1 (base := w5.heap.size) (k := 5) (n := ⟨#[]⟩) (t := ⟨#[]⟩) (Nat.le_refl _) KeptC.nil) ((lit_G1 (base := w5.heap.size) (k := 5) (n := ⟨#[]⟩) (t := ⟨#[]⟩) (Nat.le_refl _) KeptC.nil).later HG5.out.size HO5.out.block_lt) (by have := HLL.out; have := HLN5.out; simp at *; omega) (grown_alloc HG5.out (.cells #[.int .i64 5, .string ⟨#[]⟩, .slice none 0 0, .string ⟨#[]⟩] 25)).size ?_); (intro v6 w6 ho6 hgr6 hat6; clear hat6; have HG6 := Lib.hid (grown_own (grown_alloc HG5.out (.cells #[.int .i64 5, .string ⟨#[]⟩, .slice none 0 0, .string ⟨#[]⟩] 25)) hgr6 (fun x hx => (((HO5.out.al (.cells #[.int .i64 5, .string ⟨#[]⟩, .slice none 0 0, .string ⟨#[]⟩] 25))).row.lt x hx).1)); have HR6 := Lib.hid ((HR5.out.kept (World.grownBy_alloc w5 (.cells #[.int .i64 5, .string ⟨#[]⟩, .slice none 0 0, .string ⟨#[]⟩] 25) none) (by simp)).kept hgr6 (fun x hx => by have := (((HO5.out.al (.cells #[.int .i64 5, .string ⟨#[]⟩, .slice none 0 0, .string ⟨#[]⟩] 25))).row.lt x hx).1; have := HLT.out; omega)); obtain ⟨L6, HL6⟩ : ∃ L : List It, Hid (L = L5 ++ ([(5, ⟨#[]⟩, [], ⟨#[]⟩)] : List It)) := ⟨_, Lib.hid rfl⟩; obtain ⟨U6, HU6⟩ : ∃ L : List Value, Hid (L = U5 ++ ([.slice none 0 0] : List Value)) := ⟨_, Lib.hid rfl⟩; rw [← HL6.out, ← HU6.out] at ho6; have HO6 := Lib.hid ho6; have HF6 := Lib.hid (show ∀ i ∈ L6, FewI i by rw [HL6.out]; exact few_app HF5.out (few_one (few_simple 5 (by decide)))); have HLN6 := Lib.hid (show L6.length = (L5).length + (([(5, ⟨#[]⟩, [], ⟨#[]⟩)] : List It)).length by rw [HL6.out, List.length_append]); obtain ⟨g6, c6, rfl⟩ := ho6.is; clear ho6 hgr6))))
            go_wp2
            go_roundw
            case rel => exact ⟨k + 1, U6, L6, by omega, by first | rw [hwk] | go_num, HO6.out, HF6.out, Lib.hid (by have := HLL.out; have := HLN5.out; have := HLN6.out; simp at *; omega), HR6.out, HG6.out⟩
            case measure => simp [intOf]; omega
      · go_wp2_with fail
        go_loopw [5] (fun a wr => ∃ (us : List Value) (l : List It), OwnG wr w.heap.size a us l ∧ (∀ x ∈ l, FewI x) ∧ Hid (l.length ≤ 31) ∧ Rdm wr R (p + 300000 + 1 + 1) ∧ w.grownBy wr (some R)) (fun a _ => 31 - lenO a)
        case atStart => exact ⟨[], ([] : List It), HO3.out, HFL.out, Lib.hid (by have := HL.out; omega), HR3.out, HG3.out⟩
        case round =>
          obtain ⟨us, l, hown, hfew, HLL, hr, hg⟩ := hrel
          have HO := Lib.hid hown; have HF := Lib.hid hfew; have HR := Lib.hid hr; have HG := Lib.hid hg
          clear hown hfew hr hg
          obtain ⟨ag, ac0, rfl⟩ := HO.out.is
          by_cases hk4 : l.length ≤ 30
          · have hkI : (l.length : Int) ≤ 30 := by omega
            go_wp2_with (at_builtin; (refine append_G rfl _ _ rfl w.heap.size wr.heap.size (.slice (some ⟨ag, 0, none⟩) l.length ac0) (.slice (some ⟨wr.heap.size, 0, none⟩) 1 1) us ([.slice none 0 0] : List Value) l ([(1, ⟨#[]⟩, [], ⟨#[]⟩)] : List It) rfl (HO.out.al (.cells #[.int .i64 1, .string ⟨#[]⟩, .slice none 0 0, .string ⟨#[]⟩] 25)) rfl (lit_G1 (base := wr.heap.size) (k := 1) (n := ⟨#[]⟩) (t := ⟨#[]⟩) (Nat.le_refl _) KeptC.nil) ((lit_G1 (base := wr.heap.size) (k := 1) (n := ⟨#[]⟩) (t := ⟨#[]⟩) (Nat.le_refl _) KeptC.nil).later HG.out.size HO.out.block_lt) (by simp; omega) (grown_alloc HG.out (.cells #[.int .i64 1, .string ⟨#[]⟩, .slice none 0 0, .string ⟨#[]⟩] 25)).size ?_); (intro v5 w5 ho5 hgr5 hat5; clear hat5; have HG5 := Lib.hid (grown_own (grown_alloc HG.out (.cells #[.int .i64 1, .string ⟨#[]⟩, .slice none 0 0, .string ⟨#[]⟩] 25)) hgr5 (fun x hx => (((HO.out.al (.cells #[.int .i64 1, .string ⟨#[]⟩, .slice none 0 0, .string ⟨#[]⟩] 25))).row.lt x hx).1)); have HR5 := Lib.hid ((HR.out.kept (World.grownBy_alloc wr (.cells #[.int .i64 1, .string ⟨#[]⟩, .slice none 0 0, .string ⟨#[]⟩] 25) none) (by simp)).kept hgr5 (fun x hx => by have := (((HO.out.al (.cells #[.int .i64 1, .string ⟨#[]⟩, .slice none 0 0, .string ⟨#[]⟩] 25))).row.lt x hx).1; have := HLT.out; omega)); obtain ⟨L5, HL5⟩ : ∃ L : List It, Hid (L = l ++ ([(1, ⟨#[]⟩, [], ⟨#[]⟩)] : List It)) := ⟨_, Lib.hid rfl⟩; obtain ⟨U5, HU5⟩ : ∃ L : List Value, Hid (L = us ++ ([.slice none 0 0] : List Value)) := ⟨_, Lib.hid rfl⟩; rw [← HL5.out, ← HU5.out] at ho5; have HO5 := Lib.hid ho5; have HF5 := Lib.hid (show ∀ i ∈ L5, FewI i by rw [HL5.out]; exact few_app HF.out (few_one (few_simple 1 (by decide)))); have HLN5 := Lib.hid (show L5.length = (l).length + (([(1, ⟨#[]⟩, [], ⟨#[]⟩)] : List It)).length by rw [HL5.out, List.length_append]); obtain ⟨g5, c5, rfl⟩ := ho5.is; clear ho5 hgr5))
            go_wp2
            go_roundw
            case rel => exact ⟨U5, L5, HO5.out, HF5.out, Lib.hid (by have := HLN5.out; simp at *; omega), HR5.out, HG5.out⟩
            case measure => have := HLN5.out; simp [lenO] at *; omega
          · have hkI : ¬ (l.length : Int) ≤ 30 := by omega
            go_wp2
            go_ret
            exact ⟨_, us, l, rfl, HO.out, HF.out, by have := HLL.out; omega, HR.out.mono (by omega), HG.out⟩
  · have hlI : ¬ (30 : Int) < (l1.length : Int) := by omega
    have HL := Lib.hid (show l1.length ≤ 30 by omega)
    go_wp2_with fail
    refine (odd_any R (p + 300000) n _ (by omega) (by omega) (by omega) HR1.out).mono ?_
    rintro e w2 ⟨bo, rfl, -, hr2, hg2, -⟩
    have HO2 := Lib.hid (HO1.out.grownR hg2 HLT.out); have HG2 := Lib.hid (grown_trans HG1.out hg2); have HR2 := Lib.hid hr2
    clear hr2 hg2
    cases bo with
    | false =>
      go_wp2
      go_ret
      exact ⟨_, us1, l1, rfl, HO2.out, HF1.out, by have := HL.out; omega, HR2.out.mono (by omega), HG2.out⟩
    | true =>
      go_wp2_with fail
      refine (pick_any R (p + 300000 + 1) 5 _ (by omega) HR2.out).mono ?_
      rintro e w3 ⟨j, rfl, hj0, hj1, -, hr3, hg3, -⟩
      have hj2 := hj1 (by omega)
      have HO3 := Lib.hid (HO2.out.grownR hg3 HLT.out); have HG3 := Lib.hid (grown_trans HG2.out hg3); have HR3 := Lib.hid hr3
      clear hj1 hr3 hg3
      have hj : j = 0 ∨ j = 1 ∨ j = 2 ∨ j = 3 ∨ j = 4 := by omega
      clear hj0 hj2
      rcases hj with rfl | rfl | rfl | rfl | rfl
      · go_wp2_with (at_builtin; (refine append_G rfl _ _ rfl w.heap.size w3.heap.size (.slice (some ⟨g1, 0, none⟩) l1.length c1) (.slice (some ⟨w3.heap.size, 0, none⟩) 1 1) us1 ([.slice none 0 0] : List Value) l1 ([(4, ⟨#[113]⟩, [], ⟨#[]⟩)] : List It) rfl (HO3.out.al (.cells #[.int .i64 4, .string ⟨#[113]⟩, .slice none 0 0, .string ⟨#[]⟩] 25)) rfl (lit_G1 (base := w3.heap.size) (k := 4) (n := ⟨#[113]⟩) (t := ⟨#[]⟩) (Nat.le_refl _) KeptC.nil) ((lit_G1 (base := w3.heap.size) (k := 4) (n := ⟨#[113]⟩) (t := ⟨#[]⟩) (Nat.le_refl _) KeptC.nil).later HG3.out.size HO3.out.block_lt) (by have := HL.out; first | (simp; done) | (simp; omega)) (grown_alloc HG3.out (.cells #[.int .i64 4, .string ⟨#[113]⟩, .slice none 0 0, .string ⟨#[]⟩] 25)).size ?_); (intro v5 w5 ho5 hgr5 hat5; clear hat5; have HG5 := Lib.hid (grown_own (grown_alloc HG3.out (.cells #[.int .i64 4, .string ⟨#[113]⟩, .slice none 0 0, .string ⟨#[]⟩] 25)) hgr5 (fun x hx => (((HO3.out.al (.cells #[.int .i64 4, .string ⟨#[113]⟩, .slice none 0 0, .string ⟨#[]⟩] 25))).row.lt x hx).1)); have HR5 := Lib.hid ((HR3.out.kept (World.grownBy_alloc w3 (.cells #[.int .i64 4, .string ⟨#[113]⟩, .slice none 0 0, .string ⟨#[]⟩] 25) none) (by simp)).kept hgr5 (fun x hx => by have := (((HO3.out.al (.cells #[.int .i64 4, .string ⟨#[113]⟩, .slice none 0 0, .string ⟨#[]⟩] 25))).row.lt x hx).1; have := HLT.out; omega)); obtain ⟨L5, HL5⟩ : ∃ L : List It, Hid (L = l1 ++ ([(4, ⟨#[113]⟩, [], ⟨#[]⟩)] : List It)) := ⟨_, Lib.hid rfl⟩; obtain ⟨U5, HU5⟩ : ∃ L : List Value, Hid (L = us1 ++ ([.slice none 0 0] : List Value)) := ⟨_, Lib.hid rfl⟩; rw [← HL5.out, ← HU5.out] at ho5; have HO5 := Lib.hid ho5; have HF5 := Lib.hid (show ∀ i ∈ L5, FewI i by rw [HL5.out]; exact few_app HF1.out (few_one (few_simple 4 (by decide)))); have HLN5 := Lib.hid (show L5.length = (l1).length + (([(4, ⟨#[113]⟩, [], ⟨#[]⟩)] : List It)).length by rw [HL5.out, List.length_append]); obtain ⟨g5, c5, rfl⟩ := ho5.is; clear ho5 hgr5))
        go_wp2
        go_ret
        exact ⟨_, U5, L5, rfl, HO5.out, HF5.out, by have := HLN5.out; have := HL.out; first | (simp at *; done) | (simp at *; omega), HR5.out.mono (by omega), HG5.out⟩
      · go_wp2_with (at_builtin; (refine append_G rfl _ _ rfl w.heap.size w.heap.size (.slice (some ⟨w3.heap.size, 0, none⟩) 1 1) (.slice (some ⟨g1, 0, none⟩) l1.length c1) ([.slice none 0 0] : List Value) us1 ([(5, ⟨#[]⟩, [], ⟨#[]⟩)] : List It) l1 rfl (lit_G1 (base := w.heap.size) (k := 5) (n := ⟨#[]⟩) (t := ⟨#[]⟩) HG3.out.size KeptC.nil) rfl (HO3.out.al (.cells #[.int .i64 5, .string ⟨#[]⟩, .slice none 0 0, .string ⟨#[]⟩] 25)) (HO3.out.older (.cells #[.int .i64 5, .string ⟨#[]⟩, .slice none 0 0, .string ⟨#[]⟩] 25)) (by have := HL.out; first | (simp; done) | (simp; omega)) (grown_alloc HG3.out (.cells #[.int .i64 5, .string ⟨#[]⟩, .slice none 0 0, .string ⟨#[]⟩] 25)).size ?_); (intro v5 w5 ho5 hgr5 hat5; clear hat5; have HG5 := Lib.hid (grown_own (grown_alloc HG3.out (.cells #[.int .i64 5, .string ⟨#[]⟩, .slice none 0 0, .string ⟨#[]⟩] 25)) hgr5 (fun x hx => (((lit_G1 (base := w.heap.size) (k := 5) (n := ⟨#[]⟩) (t := ⟨#[]⟩) HG3.out.size KeptC.nil)).row.lt x hx).1)); have HR5 := Lib.hid ((HR3.out.kept (World.grownBy_alloc w3 (.cells #[.int .i64 5, .string ⟨#[]⟩, .slice none 0 0, .string ⟨#[]⟩] 25) none) (by simp)).kept hgr5 (fun x hx => by have := (((lit_G1 (base := w.heap.size) (k := 5) (n := ⟨#[]⟩) (t := ⟨#[]⟩) HG3.out.size KeptC.nil)).row.lt x hx).1; have := HLT.out; omega)); obtain ⟨L5, HL5⟩ : ∃ L : List It, Hid (L = ([(5, ⟨#[]⟩, [], ⟨#[]⟩)] : List It) ++ l1) := ⟨_, Lib.hid rfl⟩; obtain ⟨U5, HU5⟩ : ∃ L : List Value, Hid (L = ([.slice none 0 0] : List Value) ++ us1) := ⟨_, Lib.hid rfl⟩; rw [← HL5.out, ← HU5.out] at ho5; have HO5 := Lib.hid ho5; have HF5 := Lib.hid (show ∀ i ∈ L5, FewI i by rw [HL5.out]; exact few_app (few_one (few_simple 5 (by decide))) HF1.out); have HLN5 := Lib.hid (show L5.length = (([(5, ⟨#[]⟩, [], ⟨#[]⟩)] : List It)).length + (l1).length by rw [HL5.out, List.length_append]); obtain ⟨g5, c5, rfl⟩ := ho5.is; clear ho5 hgr5))
        go_wp2
        go_ret
        exact ⟨_, U5, L5, rfl, HO5.out, HF5.out, by have := HLN5.out; have := HL.out; first | (simp at *; done) | (simp at *; omega), HR5.out.mono (by omega), HG5.out⟩
      · go_wp2_with fail
        refine (item_any R (p + 300000 + 1 + 1) 1 _ (by omega) (by omega) (by omega) HR3.out).mono ?_
        rintro e w7 ⟨i7, au, ac, rfl, hk7, hf7, hr7, hg7⟩
        obtain ⟨ik, inm, ics, int⟩ := i7
        have HLW7 := Lib.hid HO3.out.block_lt
        have HO7 := Lib.hid (HO3.out.grownR hg7 HLT.out); have HG7 := Lib.hid (grown_trans HG3.out hg7); have HR7 := Lib.hid hr7; have HF7 := Lib.hid hf7
        have HK7 := Lib.hid (show KeptC w7 w3.heap.size (some w7.heap.size) (.slice au ics.length ac) ics from fun w' h1 h2 => hk7 w' (fun b hb hl => h1 b hb hl (fun e => by injection e with e; omega)) h2)
        have hsz7 : w3.heap.size ≤ w7.heap.size := hg7.size
        clear hk7 hf7 hr7 hg7
        go_wp2_with (at_builtin; (refine append_G rfl _ _ rfl w.heap.size w3.heap.size (.slice (some ⟨g1, 0, none⟩) l1.length c1) (.slice (some ⟨w7.heap.size, 0, none⟩) 1 1) us1 ([.slice au ics.length ac] : List Value) l1 ([(ik, inm, ics, int)] : List It) rfl (HO7.out.al (.cells #[.int .i64 ik, .string inm, .slice au ics.length ac, .string int] 25)) rfl (lit_G1 (k := ik) (n := inm) (t := int) hsz7 HK7.out) ((lit_G1 (k := ik) (n := inm) (t := int) hsz7 HK7.out).later HG3.out.size HLW7.out) (by have := HL.out; first | (simp; done) | (simp; omega)) (grown_alloc HG7.out (.cells #[.int .i64 ik, .string inm, .slice au ics.length ac, .string int] 25)).size ?_); (intro v5 w5 ho5 hgr5 hat5; clear hat5; have HG5 := Lib.hid (grown_own (grown_alloc HG7.out (.cells #[.int .i64 ik, .string inm, .slice au ics.length ac, .string int] 25)) hgr5 (fun x hx => (((HO7.out.al (.cells #[.int .i64 ik, .string inm, .slice au ics.length ac, .string int] 25))).row.lt x hx).1)); have HR5 := Lib.hid ((HR7.out.kept (World.grownBy_alloc w7 (.cells #[.int .i64 ik, .string inm, .slice au ics.length ac, .string int] 25) none) (by simp)).kept hgr5 (fun x hx => by have := (((HO7.out.al (.cells #[.int .i64 ik, .string inm, .slice au ics.length ac, .string int] 25))).row.lt x hx).1; have := HLT.out; omega)); obtain ⟨L5, HL5⟩ : ∃ L : List It, Hid (L = l1 ++ ([(ik, inm, ics, int)] : List It)) := ⟨_, Lib.hid rfl⟩; obtain ⟨U5, HU5⟩ : ∃ L : List Value, Hid (L = us1 ++ ([.slice au ics.length ac] : List Value)) := ⟨_, Lib.hid rfl⟩; rw [← HL5.out, ← HU5.out] at ho5; have HO5 := Lib.hid ho5; have HF5 := Lib.hid (show ∀ i ∈ L5, FewI i by rw [HL5.out]; exact few_app HF1.out (few_one HF7.out)); have HLN5 := Lib.hid (show L5.length = (l1).length + (([(ik, inm, ics, int)] : List It)).length by rw [HL5.out, List.length_append]); obtain ⟨g5, c5, rfl⟩ := ho5.is; clear ho5 hgr5))
        go_wp2
        go_ret
        exact ⟨_, U5, L5, rfl, HO5.out, HF5.out, by have := HLN5.out; have := HL.out; first | (simp at *; done) | (simp at *; omega), HR5.out.mono (by omega), HG5.out⟩
      · go_wp2_with fail
        go_loopw [5, 6] (fun a i wr => ∃ (k : Nat) (us : List Value) (l : List It), k ≤ 5 ∧ i = .int .i64 (k : Int) ∧ OwnG wr w.heap.size a us l ∧ (∀ x ∈ l, FewI x) ∧ Hid (l.length ≤ 30 + 2 * k) ∧ Rdm wr R (p + 300000 + 1 + 1) ∧ w.grownBy wr (some R)) (fun _ i _ => 5 - (intOf i).toNat)
        case atStart => exact ⟨0, us1, l1, by omega, rfl, HO3.out, HF1.out, Lib.hid (by have := HL.out; omega), HR3.out, HG3.out⟩
        case round =>
          obtain ⟨k, us, l, hk, rfl, hown, hfew, HLL, hr, hg⟩ := hrel
          have HO := Lib.hid hown; have HF := Lib.hid hfew; have HR := Lib.hid hr; have HG := Lib.hid hg
          clear hown hfew hr hg
          obtain ⟨ag, ac0, rfl⟩ := HO.out.is
          by_cases hk4 : k = 5
          · subst hk4
            go_wp2
            go_ret
            exact ⟨_, us, l, rfl, HO.out, HF.out, by have := HLL.out; omega, HR.out.mono (by omega), HG.out⟩
          · have hkI : (k : Int) ≤ 4 := by omega
            have hwk : IntKind.i64.wrap ((k : Int) + 1) = ((k + 1 : Nat) : Int) := by rw [IntWalk.i64_in _ (by omega)]; omega
            go_wp2_with ((first | (at_builtin; (refine append_G rfl _ _ rfl w.heap.size w.heap.size (.slice (some ⟨wr.heap.size, 0, none⟩) 1 1) (.slice (some ⟨ag, 0, none⟩) l.length ac0) ([.slice none 0 0] : List Value) us ([(4, ⟨#[113]⟩, [], ⟨#[]⟩)] : List It) l rfl (lit_G1 (base := w.heap.size) (k := 4) (n := ⟨#[113]⟩) (t := ⟨#[]⟩) HG.out.size KeptC.nil) rfl (HO.out.al (.cells #[.int .i64 4, .string ⟨#[113]⟩, .slice none 0 0, .string ⟨#[]⟩] 25)) (HO.out.older (.cells #[.int .i64 4, .string ⟨#[113]⟩, .slice none 0 0, .string ⟨#[]⟩] 25)) (by have := HLL.out; simp; omega) (grown_alloc HG.out (.cells #[.int .i64 4, .string ⟨#[113]⟩, .slice none 0 0, .string ⟨#[]⟩] 25)).size ?_); (intro v5 w5 ho5 hgr5 hat5; clear hat5; have HG5 := Lib.hid (grown_own (grown_alloc HG.out (.cells #[.int .i64 4, .string ⟨#[113]⟩, .slice none 0 0, .string ⟨#[]⟩] 25)) hgr5 (fun x hx => (((lit_G1 (base := w.heap.size) (k := 4) (n := ⟨#[113]⟩) (t := ⟨#[]⟩) HG.out.size KeptC.nil)).row.lt x hx).1)); have HR5 := Lib.hid ((HR.out.kept (World.grownBy_alloc wr (.cells #[.int .i64 4, .string ⟨#[113]⟩, .slice none 0 0, .string ⟨#[]⟩] 25) none) (by simp)).kept hgr5 (fun x hx => by have := (((lit_G1 (base := w.heap.size) (k := 4) (n := ⟨#[113]⟩) (t := ⟨#[]⟩) HG.out.size KeptC.nil)).row.lt x hx).1; have := HLT.out; omega)); obtain ⟨L5, HL5⟩ : ∃ L : List It, Hid (L = ([(4, ⟨#[113]⟩, [], ⟨#[]⟩)] : List It) ++ l) := ⟨_, Lib.hid rfl⟩; obtain ⟨U5, HU5⟩ : ∃ L : List Value, Hid (L = ([.slice none 0 0] : List Value) ++ us) := ⟨_, Lib.hid rfl⟩; rw [← HL5.out, ← HU5.out] at ho5; have HO5 := Lib.hid ho5; have HF5 := Lib.hid (show ∀ i ∈ L5, FewI i by rw [HL5.out]; exact few_app (few_one (few_simple 4 (by decide))) HF.out); have HLN5 := Lib.hid (show L5.length = (([(4, ⟨#[113]⟩, [], ⟨#[]⟩)] : List It)).length + (l).length by rw [HL5.out, List.length_append]); obtain ⟨g5, c5, rfl⟩ := ho5.is; clear ho5 hgr5)) | (at_builtin; (refine append_G rfl _ _ rfl w.heap.size w5.heap.size (.slice (some ⟨g5, 0, none⟩) L5.length c5) (.slice (some ⟨w5.heap.size, 0, none⟩) 1 1) U5 ([.slice none 0 0] : List Value) L5 ([(5, ⟨#[]⟩, [], ⟨#[]⟩)] : List It) rfl (HO5.out.al (.cells #[.int .i64 5, .string ⟨#[]⟩, .slice none 0 0, .string ⟨#[]⟩] 25)) rfl (lit_G1 (base := w5.heap.size) (k := 5) (n := ⟨#[]⟩) (t := ⟨#[]⟩) (Nat.le_refl _) KeptC.nil) ((lit_G1 (base := w5.heap.size) (k := 5) (n := ⟨#[]⟩) (t := ⟨#[]⟩) (Nat.le_refl _) KeptC.nil).later HG5.out.size HO5.out.block_lt) (by have := HLL.out; have := HLN5.out; simp at *; omega) (grown_alloc HG5.out (.cells #[.int .i64 5, .string ⟨#[]⟩, .slice none 0 0, .string ⟨#[]⟩] 25)).size ?_); (intro v6 w6 ho6 hgr6 hat6; clear hat6; have HG6 := Lib.hid (grown_own (grown_alloc HG5.out (.cells #[.int .i64 5, .string ⟨#[]⟩, .slice none 0 0, .string ⟨#[]⟩] 25)) hgr6 (fun x hx => (((HO5.out.al (.cells #[.int .i64 5, .string ⟨#[]⟩, .slice none 0 0, .string ⟨#[]⟩] 25))).row.lt x hx).1)); have HR6 := Lib.hid ((HR5.out.kept (World.grownBy_alloc w5 (.cells #[.int .i64 5, .string ⟨#[]⟩, .slice none 0 0, .string ⟨#[]⟩] 25) none) (by simp)).kept hgr6 (fun x hx => by have := (((HO5.out.al (.cells #[.int .i64 5, .string ⟨#[]⟩, .slice none 0 0, .string ⟨#[]⟩] 25))).row.lt x hx).1; have := HLT.out; omega)); obtain ⟨L6, HL6⟩ : ∃ L : List It, Hid (L = L5 ++ ([(5, ⟨#[]⟩, [], ⟨#[]⟩)] : List It)) := ⟨_, Lib.hid rfl⟩; obtain ⟨U6, HU6⟩ : ∃ L : List Value, Hid (L = U5 ++ ([.slice none 0 0] : List Value)) := ⟨_, Lib.hid rfl⟩; rw [← HL6.out, ← HU6.out] at ho6; have HO6 := Lib.hid ho6; have HF6 := Lib.hid (show ∀ i ∈ L6, FewI i by rw [HL6.out]; exact few_app HF5.out (few_one (few_simple 5 (by decide)))); have HLN6 := Lib.hid (show L6.length = (L5).length + (([(5, ⟨#[]⟩, [], ⟨#[]⟩)] : List It)).length by rw [HL6.out, List.length_append]); obtain ⟨g6, c6, rfl⟩ := ho6.is; clear ho6 hgr6))))
            go_wp2
            go_roundw
            case rel => exact ⟨k + 1, U6, L6, by omega, by first | rw [hwk] | go_num, HO6.out, HF6.out, Lib.hid (by have := HLL.out; have := HLN5.out; have := HLN6.out; simp at *; omega), HR6.out, HG6.out⟩
            case measure => simp [intOf]; omega
      · go_wp2_with fail
        go_loopw [5] (fun a wr => ∃ (us : List Value) (l : List It), OwnG wr w.heap.size a us l ∧ (∀ x ∈ l, FewI x) ∧ Hid (l.length ≤ 31) ∧ Rdm wr R (p + 300000 + 1 + 1) ∧ w.grownBy wr (some R)) (fun a _ => 31 - lenO a)
        case atStart => exact ⟨us1, l1, HO3.out, HF1.out, Lib.hid (by have := HL.out; omega), HR3.out, HG3.out⟩
        case round =>
          obtain ⟨us, l, hown, hfew, HLL, hr, hg⟩ := hrel
          have HO := Lib.hid hown; have HF := Lib.hid hfew; have HR := Lib.hid hr; have HG := Lib.hid hg
          clear hown hfew hr hg
          obtain ⟨ag, ac0, rfl⟩ := HO.out.is
          by_cases hk4 : l.length ≤ 30
          · have hkI : (l.length : Int) ≤ 30 := by omega
            go_wp2_with (at_builtin; (refine append_G rfl _ _ rfl w.heap.size wr.heap.size (.slice (some ⟨ag, 0, none⟩) l.length ac0) (.slice (some ⟨wr.heap.size, 0, none⟩) 1 1) us ([.slice none 0 0] : List Value) l ([(1, ⟨#[]⟩, [], ⟨#[]⟩)] : List It) rfl (HO.out.al (.cells #[.int .i64 1, .string ⟨#[]⟩, .slice none 0 0, .string ⟨#[]⟩] 25)) rfl (lit_G1 (base := wr.heap.size) (k := 1) (n := ⟨#[]⟩) (t := ⟨#[]⟩) (Nat.le_refl _) KeptC.nil) ((lit_G1 (base := wr.heap.size) (k := 1) (n := ⟨#[]⟩) (t := ⟨#[]⟩) (Nat.le_refl _) KeptC.nil).later HG.out.size HO.out.block_lt) (by simp; omega) (grown_alloc HG.out (.cells #[.int .i64 1, .string ⟨#[]⟩, .slice none 0 0, .string ⟨#[]⟩] 25)).size ?_); (intro v5 w5 ho5 hgr5 hat5; clear hat5; have HG5 := Lib.hid (grown_own (grown_alloc HG.out (.cells #[.int .i64 1, .string ⟨#[]⟩, .slice none 0 0, .string ⟨#[]⟩] 25)) hgr5 (fun x hx => (((HO.out.al (.cells #[.int .i64 1, .string ⟨#[]⟩, .slice none 0 0, .string ⟨#[]⟩] 25))).row.lt x hx).1)); have HR5 := Lib.hid ((HR.out.kept (World.grownBy_alloc wr (.cells #[.int .i64 1, .string ⟨#[]⟩, .slice none 0 0, .string ⟨#[]⟩] 25) none) (by simp)).kept hgr5 (fun x hx => by have := (((HO.out.al (.cells #[.int .i64 1, .string ⟨#[]⟩, .slice none 0 0, .string ⟨#[]⟩] 25))).row.lt x hx).1; have := HLT.out; omega)); obtain ⟨L5, HL5⟩ : ∃ L : List It, Hid (L = l ++ ([(1, ⟨#[]⟩, [], ⟨#[]⟩)] : List It)) := ⟨_, Lib.hid rfl⟩; obtain ⟨U5, HU5⟩ : ∃ L : List Value, Hid (L = us ++ ([.slice none 0 0] : List Value)) := ⟨_, Lib.hid rfl⟩; rw [← HL5.out, ← HU5.out] at ho5; have HO5 := Lib.hid ho5; have HF5 := Lib.hid (show ∀ i ∈ L5, FewI i by rw [HL5.out]; exact few_app HF.out (few_one (few_simple 1 (by decide)))); have HLN5 := Lib.hid (show L5.length = (l).length + (([(1, ⟨#[]⟩, [], ⟨#[]⟩)] : List It)).length by rw [HL5.out, List.length_append]); obtain ⟨g5, c5, rfl⟩ := ho5.is; clear ho5 hgr5))
            go_wp2
            go_roundw
            case rel => exact ⟨U5, L5, HO5.out, HF5.out, Lib.hid (by have := HLN5.out; simp at *; omega), HR5.out, HG5.out⟩
            case measure => have := HLN5.out; simp [lenO] at *; omega
          · have hkI : ¬ (l.length : Int) ≤ 30 := by omega
            go_wp2
            go_ret
            exact ⟨_, us, l, rfl, HO.out, HF.out, by have := HLL.out; omega, HR.out.mono (by omega), HG.out⟩

end Go.Proofs.YtbmobgahokehmaaGreatDoor
