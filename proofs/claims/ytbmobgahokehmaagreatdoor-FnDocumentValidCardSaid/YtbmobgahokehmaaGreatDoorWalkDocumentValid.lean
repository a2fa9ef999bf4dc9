/-
  The walk of laws.FnDocumentValid.
-/
import Derived.Test.YtbmobgahokehmaaGreatDoorDrawDocumentValid
import Derived.Test.YtbmobgahokehmaaGreatDoorDocFew
import Derived.Test.YtbmobgahokehmaaGreatDoorBaseD
namespace Go.Proofs.YtbmobgahokehmaaGreatDoor
open Go.RowKit
set_option linter.unusedVariables false

theorem most_round {l : List It} {P : List Nat} {m : Int} {k : Nat} (h : docB l = true) (hP : dpD l = P) (hk : k < l.length) (hk' : k < P.length) (hm : mostD 0 0 l = mostD m (endD 0 (l.take k)) (l.drop k)) :
    mostD 0 0 l = mostD (if l[k].1 = 4 then max (max m (P[k] : Int)) ((P[k] : Int) + 1) else max m (P[k] : Int)) (endD 0 (l.take (k + 1))) (l.drop (k + 1)) := by
  have hn := ((docB_iff l).mp h).2.2
  have e : P = dps 0 l := by rw [← hP]; unfold dpD; rw [if_pos h]
  subst e
  rw [hm, dps_at hn k hk hk', depL_at l 0 k hk, endD_step l 0 k hk, List.drop_eq_getElem_cons hk]; rfl
theorem OwnG.below {w w' : World} {base : Nat} {v : Value} {us : List Value} {l : List It} (h : OwnG w base v us l) (hb : Below w.heap.size w w') : OwnG w' base v us l :=
  h.keep (fun b _ hl => hb.block b hl) hb.size

set_option maxRecDepth 100000 in
set_option maxHeartbeats 8000000 in
theorem fnDocumentValid_core (a0 : Option Addr) (len0 cap0 : Nat) (w : World) (hrow : CodeRow w a0 len0 cap0) (htab : Tab w) :
    Calls Tryz.prog 4 #[.slice a0 len0 cap0] w fun e w' => e = .returned (.bool true) ∧ Below w.heap.size w w' := by
  have hcap := hrow.1; have hmx := hrow.2.1
  unfold maxLen at hmx
  by_cases hl : len0 ≤ 1048576
  · have HD := Lib.hid (drawDocumentValid_any a0 len0 cap0 w hrow); have HT := Lib.hid htab
    clear hrow htab
    go_enter Tryz.func4, Tryz.ntmps4
    go_wp2_with fail
    refine HD.out.mono ?_
    rintro e w1 ⟨v1, us, l, rfl, ho1, hf, hlen, hb1⟩
    obtain ⟨g1, c1, rfl⟩ := ho1.is
    have HO1 := Lib.hid ho1; have HB1 := Lib.hid hb1; have HF := Lib.hid hf; have HLN := Lib.hid hlen
    have CV := Lib.hid (fun v w' hr ht => documentValid_impl v l w' hr (few_fitI hf) ht)
    have CS := Lib.hid (fun v w' hr => documentValid_spec v l w' hr (few_shortI hf) (by omega))
    have CI := Lib.hid (fun v w' hr ht => depthsOf_impl v l w' hr (few_fitI hf) ht)
    have CO := Lib.hid (fun v w' hr ht => documentValid_impl v (([] ++ l) ++ ([((4 : Int), (⟨#[113]⟩ : ByteArray), ([] : List Cl), (⟨#[]⟩ : ByteArray))] : List It)) w' hr (few_fitI (few_app (few_app (fun i hi => by cases hi) hf) (few_one (few_simple 4 (by decide))))) ht)
    have CB := Lib.hid (fun v w' hr ht => documentValid_impl v ((([((4 : Int), (⟨#[113]⟩ : ByteArray), ([] : List Cl), (⟨#[]⟩ : ByteArray))] : List It) ++ l) ++ ([((5 : Int), (⟨#[]⟩ : ByteArray), ([] : List Cl), (⟨#[]⟩ : ByteArray))] : List It)) w' hr (few_fitI (few_app (few_app (few_one (few_simple 4 (by decide))) hf) (few_one (few_simple 5 (by decide))))) ht)
    have HOP := Lib.hid (show docB (([] ++ l) ++ ([((4 : Int), (⟨#[113]⟩ : ByteArray), ([] : List Cl), (⟨#[]⟩ : ByteArray))] : List It)) = false from doc_open)
    clear ho1 hf hlen hb1
    go_wp2_with fail
    refine (CV.out _ _ HO1.out.reads (HT.out.keep HB1.out)).mono ?_
    rintro e w2 ⟨rfl, hb2⟩
    have HO2 := Lib.hid (HO1.out.below hb2); have HB2 := Lib.hid (HB1.out.trans (hb2.mono HB1.out.size))
    clear hb2
    go_wp2_with fail
    refine (CS.out _ _ HO2.out.reads).mono ?_
    rintro e w3 ⟨rfl, hb3⟩
    have HO3 := Lib.hid (HO2.out.below hb3); have HB3 := Lib.hid (HB2.out.trans (hb3.mono HB2.out.size))
    clear hb3
    obtain ⟨d, hd⟩ : ∃ d, docB l = d := ⟨_, rfl⟩
    rw [hd]
    have HD0 := Lib.hid hd; clear hd
    have hdd : (d != d) = false := by simp
    go_wp2_with ((first | (at_builtin; (refine append_G rfl _ _ rfl w.heap.size w.heap.size (.slice (some ⟨w3.heap.size, 0, none⟩) 0 0) (.slice (some ⟨g1, 0, none⟩) l.length c1) [] us [] l rfl ((lit_G w3).lower HB3.out.size) rfl (HO3.out.al (.cells #[] 25)) (HO3.out.older (.cells #[] 25)) (by have := HLN.out; simp; omega) (HB3.out.alloc HB3.out.size (.cells #[] 25)).size ?_); (intro v4 w4 ho4 hgr4 hat4; have HO4 := Lib.hid ho4; have HGR4 := Lib.hid hgr4; have HAT4 := Lib.hid hat4; obtain ⟨g4, c4, rfl⟩ := ho4.is; have HX4 := Lib.hid (show Below w3.heap.size w3 w4 from ((Below.refl w3.heap.size w3).alloc (Nat.le_refl _) (.cells #[] 25)).grown HGR4.out (by simp) (fun x hx => by have h9 : w3.heap.size = x := Option.some.inj hx; omega)); have HGE4 := Lib.hid (show w3.heap.size ≤ g4 from (HAT4.out g4 rfl).elim (fun h => Nat.le_of_eq (Option.some.inj h)) (fun h => by rw [h]; simp)); have HB4 := Lib.hid (HB3.out.trans (HX4.out.mono HB3.out.size)); clear ho4 hgr4 hat4)) | (at_builtin; (refine append_G rfl _ _ rfl w.heap.size w4.heap.size (.slice (some ⟨g4, 0, none⟩) ([] ++ l).length c4) (.slice (some ⟨w4.heap.size, 0, none⟩) 1 1) ([] ++ us) ([.slice none 0 0] : List Value) ([] ++ l) ([(4, ⟨#[113]⟩, [], ⟨#[]⟩)] : List It) rfl (HO4.out.al (.cells #[.int .i64 4, .string ⟨#[113]⟩, .slice none 0 0, .string ⟨#[]⟩] 25)) rfl (lit_G1 (base := w4.heap.size) (k := 4) (n := ⟨#[113]⟩) (t := ⟨#[]⟩) (Nat.le_refl _) KeptC.nil) ((lit_G1 (base := w4.heap.size) (k := 4) (n := ⟨#[113]⟩) (t := ⟨#[]⟩) (Nat.le_refl _) KeptC.nil).later HB4.out.size HO4.out.block_lt) (by have := HLN.out; simp; omega) (HB4.out.alloc HB4.out.size (.cells #[.int .i64 4, .string ⟨#[113]⟩, .slice none 0 0, .string ⟨#[]⟩] 25)).size ?_); (intro v5 w5 ho5 hgr5 hat5; have HO5 := Lib.hid ho5; have HGR5 := Lib.hid hgr5; have HAT5 := Lib.hid hat5; obtain ⟨g5, c5, rfl⟩ := ho5.is; have HX5 := Lib.hid (show Below w3.heap.size w3 w5 from (HX4.out.alloc HX4.out.size (.cells #[.int .i64 4, .string ⟨#[113]⟩, .slice none 0 0, .string ⟨#[]⟩] 25)).grown HGR5.out (by have := HX4.out.size; simp; omega) (fun x hx => by have h9 : g4 = x := Option.some.inj hx; have := HGE4.out; omega)); have HB5 := Lib.hid (HB3.out.trans (HX5.out.mono HB3.out.size)); clear ho5 hgr5 hat5))))
    have hr5 := HO5.out.reads
    have he5 : ((([] : List It) ++ l) ++ ([((4 : Int), (⟨#[113]⟩ : ByteArray), ([] : List Cl), (⟨#[]⟩ : ByteArray))] : List It)).length = l.length + 1 := by simp
    rw [he5] at hr5
    refine (CO.out _ _ hr5 (HT.out.keep HB5.out)).mono ?_
    rintro e w6 ⟨rfl, hb6⟩
    rw [HOP.out]
    have HX6 := Lib.hid (HX5.out.trans (hb6.mono HX5.out.size)); have HB6 := Lib.hid (HB5.out.trans (hb6.mono HB5.out.size))
    have HO6 := Lib.hid (HO3.out.below HX6.out)
    clear hb6 hr5 he5
    cases d with
    | false =>
      go_wp2_with fail
      refine (alive_any _).mono ?_
      rintro e w' ⟨rfl, rfl⟩
      go_wp2
      go_ret
      exact ⟨rfl, HB6.out⟩
    | true =>
      obtain ⟨P, hP⟩ : ∃ P, dpD l = P := ⟨_, rfl⟩
      rw [hP] at CI
      have HPE := Lib.hid hP; clear hP
      go_wp2_with fail
      refine (CI.out _ _ HO6.out.reads (HT.out.keep HB6.out)).mono ?_
      rintro e w7 ⟨v7, rfl, ho7, hb7⟩
      have X7 := Lib.hid (RowI.of_own ho7).1; have HO7 := Lib.hid (HO6.out.below hb7); have HB7 := Lib.hid (HB6.out.trans (hb7.mono HB6.out.size))
      clear ho7 hb7
      obtain ⟨hPl, hfacts⟩ := dep_facts HD0.out HPE.out
      have HFA := Lib.hid hfacts
      obtain ⟨a7, c7, rfl⟩ : ∃ a c, v7 = .slice a P.length c := by obtain ⟨a, c, h, -⟩ := X7.out; exact ⟨a, c, h⟩
      have HXC := Lib.hid (fun h0 => X7.out.at h0)
      have HKC := Lib.hid HO7.out.reads.kinds
      have HPL := Lib.hid hPl
      rw [hPl]
      clear hfacts hPl
      have hl41 : l.length ≤ 41 := HLN.out
      go_wp2_with fail
      go_loopw [6, 8] (fun mv i wr => ∃ (k : Nat) (m : Int), k ≤ l.length ∧ 0 ≤ m ∧ m ≤ 5 ∧ mv = .int .i64 m ∧ i = .int .i64 (k : Int) ∧ wr = w7 ∧ Hid (mostD 0 0 l = mostD m (endD 0 (l.take k)) (l.drop k))) (fun _ i _ => l.length - (intOf i).toNat)
      case atStart => exact ⟨0, 0, by omega, by omega, by omega, rfl, rfl, rfl, Lib.hid rfl⟩
      case round =>
        obtain ⟨k, m, hk, hm0, hm5, rfl, rfl, hwr, HMO⟩ := hrel
        subst hwr
        by_cases hlt : k < l.length
        · have hltI : (k : Int) < (l.length : Int) := by omega
          obtain ⟨b2, rfl, hxc⟩ := HXC.out (by have := HPL.out; omega)
          have hkP : k < P.length := by have := HPL.out; omega
          obtain ⟨h4, -, -⟩ := HFA.out k hlt hkP
          have d1 := hxc k hkP
          have d2 := HKC.out k hlt
          have hmr := most_round HD0.out HPE.out hlt hkP HMO.out
          have hx0 : (0 : Int) ≤ (P[k] : Int) := by omega
          generalize (P[k] : Int) = x at d1 h4 hx0 hmr
          generalize (l[k]).1 = kk at d2 hmr
          clear hxc
          have hwx : IntKind.i64.wrap (x + 1) = x + 1 := IntWalk.i64_in _ (by omega)
          by_cases hk4 : kk = 4
          · subst hk4
            rw [if_pos rfl] at hmr
            have HMR := Lib.hid hmr
            clear hmr
            go_wp2
            go_roundw
            case rel => exact ⟨k + 1, max m (max x (x + 1)), by omega, by omega, by omega, by first | rfl | (simp; done), by go_num, by trivial, Lib.hid (by rw [HMR.out]; congr 1; omega)⟩
            case measure => simp [intOf]; omega
          · rw [if_neg hk4] at hmr
            have HMR := Lib.hid hmr
            have hkb : (kk == 4) = false := beq_eq_false_iff_ne.mpr hk4
            clear hmr
            go_wp2
            go_roundw
            case rel => exact ⟨k + 1, max m x, by omega, by omega, by omega, by first | rfl | (simp; done), by go_num, by trivial, Lib.hid HMR.out⟩
            case measure => simp [intOf]; omega
        · obtain rfl : k = l.length := by omega
          have hmo : mostD 0 0 l = m := by
            have := HMO.out
            rw [List.drop_length] at this
            exact this
          have hbk : docB ((([((4 : Int), (⟨#[113]⟩ : ByteArray), ([] : List Cl), (⟨#[]⟩ : ByteArray))] : List It) ++ l) ++ ([((5 : Int), (⟨#[]⟩ : ByteArray), ([] : List Cl), (⟨#[]⟩ : ByteArray))] : List It)) = (decide (mostD 0 0 l < 4) && decide (l.length + 2 ≤ 30)) := doc_block (s := ⟨#[113]⟩) (by decide) HD0.out
          rw [hmo] at hbk
          clear hmo
          have hw2 : IntKind.i64.wrap ((l.length : Int) + 2) = (l.length : Int) + 2 := IntWalk.i64_in _ (by omega)
          have he9 : ((([((4 : Int), (⟨#[113]⟩ : ByteArray), ([] : List Cl), (⟨#[]⟩ : ByteArray))] : List It) ++ l) ++ ([((5 : Int), (⟨#[]⟩ : ByteArray), ([] : List Cl), (⟨#[]⟩ : ByteArray))] : List It)).length = l.length + 1 + 1 := by simp
          have HE9 := Lib.hid he9; clear he9
          have hcase : (m < 4 ∧ l.length + 2 ≤ 30) ∨ (m < 4 ∧ ¬ l.length + 2 ≤ 30) ∨ ¬ m < 4 := by omega
          rcases hcase with ⟨h1, h2⟩ | ⟨h1, h2⟩ | h1
          · have h1b : m < 4 := h1
            have h2I : (l.length : Int) + 2 ≤ 30 := by omega
            have HV := Lib.hid (hbk.trans (show (decide (m < 4) && decide (l.length + 2 ≤ 30)) = true by simp [h1, h2]))
            clear hbk
            go_wp2_with ((first | (at_builtin; (refine append_G rfl _ _ rfl w.heap.size w.heap.size (.slice (some ⟨wr.heap.size, 0, none⟩) 1 1) (.slice (some ⟨g1, 0, none⟩) l.length c1) ([.slice none 0 0] : List Value) us ([(4, ⟨#[113]⟩, [], ⟨#[]⟩)] : List It) l rfl (lit_G1 (base := w.heap.size) (k := 4) (n := ⟨#[113]⟩) (t := ⟨#[]⟩) HB7.out.size KeptC.nil) rfl (HO7.out.al (.cells #[.int .i64 4, .string ⟨#[113]⟩, .slice none 0 0, .string ⟨#[]⟩] 25)) (HO7.out.older (.cells #[.int .i64 4, .string ⟨#[113]⟩, .slice none 0 0, .string ⟨#[]⟩] 25)) (by have := HLN.out; simp; omega) (HB7.out.alloc HB7.out.size (.cells #[.int .i64 4, .string ⟨#[113]⟩, .slice none 0 0, .string ⟨#[]⟩] 25)).size ?_); (intro v8 w8 ho8 hgr8 hat8; have HO8 := Lib.hid ho8; have HGR8 := Lib.hid hgr8; have HAT8 := Lib.hid hat8; obtain ⟨g8, c8, rfl⟩ := ho8.is; have HB8 := Lib.hid ((HB7.out.alloc HB7.out.size (.cells #[.int .i64 4, .string ⟨#[113]⟩, .slice none 0 0, .string ⟨#[]⟩] 25)).grown HGR8.out (by have := HB7.out.size; simp; omega) (fun x hx => by have h9 : wr.heap.size = x := Option.some.inj hx; have := HB7.out.size; omega)); clear ho8 hgr8 hat8)) | (at_builtin; (refine append_G rfl _ _ rfl w.heap.size w8.heap.size (.slice (some ⟨g8, 0, none⟩) (([(4, ⟨#[113]⟩, [], ⟨#[]⟩)] : List It) ++ l).length c8) (.slice (some ⟨w8.heap.size, 0, none⟩) 1 1) (([.slice none 0 0] : List Value) ++ us) ([.slice none 0 0] : List Value) (([(4, ⟨#[113]⟩, [], ⟨#[]⟩)] : List It) ++ l) ([(5, ⟨#[]⟩, [], ⟨#[]⟩)] : List It) rfl (HO8.out.al (.cells #[.int .i64 5, .string ⟨#[]⟩, .slice none 0 0, .string ⟨#[]⟩] 25)) rfl (lit_G1 (base := w8.heap.size) (k := 5) (n := ⟨#[]⟩) (t := ⟨#[]⟩) (Nat.le_refl _) KeptC.nil) ((lit_G1 (base := w8.heap.size) (k := 5) (n := ⟨#[]⟩) (t := ⟨#[]⟩) (Nat.le_refl _) KeptC.nil).later HB8.out.size HO8.out.block_lt) (by have := HLN.out; simp; omega) (HB8.out.alloc HB8.out.size (.cells #[.int .i64 5, .string ⟨#[]⟩, .slice none 0 0, .string ⟨#[]⟩] 25)).size ?_); (intro v9 w9 ho9 hgr9 hat9; have HO9 := Lib.hid ho9; have HGR9 := Lib.hid hgr9; have HAT9 := Lib.hid hat9; obtain ⟨g9, c9, rfl⟩ := ho9.is; have HB9 := Lib.hid ((HB8.out.alloc HB8.out.size (.cells #[.int .i64 5, .string ⟨#[]⟩, .slice none 0 0, .string ⟨#[]⟩] 25)).grown HGR9.out (by have := HB8.out.size; simp; omega) (fun x hx => (HO8.out.row.lt x hx).1)); clear ho9 hgr9 hat9))))
            have hr9 := HO9.out.reads
            rw [HE9.out] at hr9
            refine (CB.out _ _ hr9 (HT.out.keep HB9.out)).mono ?_
            rintro e w10 ⟨rfl, hb10⟩
            rw [HV.out]
            have HB10 := Lib.hid (HB9.out.trans (hb10.mono HB9.out.size)); clear hb10 hr9
            go_wp2
            go_ret
            exact ⟨rfl, HB10.out⟩
          · have h2I : ¬ (l.length : Int) + 2 ≤ 30 := by omega
            have HV := Lib.hid (hbk.trans (by rw [decide_eq_false h2, Bool.and_false]))
            clear hbk
            go_wp2_with ((first | (at_builtin; (refine append_G rfl _ _ rfl w.heap.size w.heap.size (.slice (some ⟨wr.heap.size, 0, none⟩) 1 1) (.slice (some ⟨g1, 0, none⟩) l.length c1) ([.slice none 0 0] : List Value) us ([(4, ⟨#[113]⟩, [], ⟨#[]⟩)] : List It) l rfl (lit_G1 (base := w.heap.size) (k := 4) (n := ⟨#[113]⟩) (t := ⟨#[]⟩) HB7.out.size KeptC.nil) rfl (HO7.out.al (.cells #[.int .i64 4, .string ⟨#[113]⟩, .slice none 0 0, .string ⟨#[]⟩] 25)) (HO7.out.older (.cells #[.int .i64 4, .string ⟨#[113]⟩, .slice none 0 0, .string ⟨#[]⟩] 25)) (by have := HLN.out; simp; omega) (HB7.out.alloc HB7.out.size (.cells #[.int .i64 4, .string ⟨#[113]⟩, .slice none 0 0, .string ⟨#[]⟩] 25)).size ?_); (intro v8 w8 ho8 hgr8 hat8; have HO8 := Lib.hid ho8; have HGR8 := Lib.hid hgr8; have HAT8 := Lib.hid hat8; obtain ⟨g8, c8, rfl⟩ := ho8.is; have HB8 := Lib.hid ((HB7.out.alloc HB7.out.size (.cells #[.int .i64 4, .string ⟨#[113]⟩, .slice none 0 0, .string ⟨#[]⟩] 25)).grown HGR8.out (by have := HB7.out.size; simp; omega) (fun x hx => by have h9 : wr.heap.size = x := Option.some.inj hx; have := HB7.out.size; omega)); clear ho8 hgr8 hat8)) | (at_builtin; (refine append_G rfl _ _ rfl w.heap.size w8.heap.size (.slice (some ⟨g8, 0, none⟩) (([(4, ⟨#[113]⟩, [], ⟨#[]⟩)] : List It) ++ l).length c8) (.slice (some ⟨w8.heap.size, 0, none⟩) 1 1) (([.slice none 0 0] : List Value) ++ us) ([.slice none 0 0] : List Value) (([(4, ⟨#[113]⟩, [], ⟨#[]⟩)] : List It) ++ l) ([(5, ⟨#[]⟩, [], ⟨#[]⟩)] : List It) rfl (HO8.out.al (.cells #[.int .i64 5, .string ⟨#[]⟩, .slice none 0 0, .string ⟨#[]⟩] 25)) rfl (lit_G1 (base := w8.heap.size) (k := 5) (n := ⟨#[]⟩) (t := ⟨#[]⟩) (Nat.le_refl _) KeptC.nil) ((lit_G1 (base := w8.heap.size) (k := 5) (n := ⟨#[]⟩) (t := ⟨#[]⟩) (Nat.le_refl _) KeptC.nil).later HB8.out.size HO8.out.block_lt) (by have := HLN.out; simp; omega) (HB8.out.alloc HB8.out.size (.cells #[.int .i64 5, .string ⟨#[]⟩, .slice none 0 0, .string ⟨#[]⟩] 25)).size ?_); (intro v9 w9 ho9 hgr9 hat9; have HO9 := Lib.hid ho9; have HGR9 := Lib.hid hgr9; have HAT9 := Lib.hid hat9; obtain ⟨g9, c9, rfl⟩ := ho9.is; have HB9 := Lib.hid ((HB8.out.alloc HB8.out.size (.cells #[.int .i64 5, .string ⟨#[]⟩, .slice none 0 0, .string ⟨#[]⟩] 25)).grown HGR9.out (by have := HB8.out.size; simp; omega) (fun x hx => (HO8.out.row.lt x hx).1)); clear ho9 hgr9 hat9))))
            have hr9 := HO9.out.reads
            rw [HE9.out] at hr9
            refine (CB.out _ _ hr9 (HT.out.keep HB9.out)).mono ?_
            rintro e w10 ⟨rfl, hb10⟩
            rw [HV.out]
            have HB10 := Lib.hid (HB9.out.trans (hb10.mono HB9.out.size)); clear hb10 hr9
            go_wp2
            go_ret
            exact ⟨rfl, HB10.out⟩
          · have HV := Lib.hid (hbk.trans (by rw [decide_eq_false h1, Bool.false_and]))
            clear hbk
            go_wp2_with ((first | (at_builtin; (refine append_G rfl _ _ rfl w.heap.size w.heap.size (.slice (some ⟨wr.heap.size, 0, none⟩) 1 1) (.slice (some ⟨g1, 0, none⟩) l.length c1) ([.slice none 0 0] : List Value) us ([(4, ⟨#[113]⟩, [], ⟨#[]⟩)] : List It) l rfl (lit_G1 (base := w.heap.size) (k := 4) (n := ⟨#[113]⟩) (t := ⟨#[]⟩) HB7.out.size KeptC.nil) rfl (HO7.out.al (.cells #[.int .i64 4, .string ⟨#[113]⟩, .slice none 0 0, .string ⟨#[]⟩] 25)) (HO7.out.older (.cells #[.int .i64 4, .string ⟨#[113]⟩, .slice none 0 0, .string ⟨#[]⟩] 25)) (by have := HLN.out; simp; omega) (HB7.out.alloc HB7.out.size (.cells #[.int .i64 4, .string ⟨#[113]⟩, .slice none 0 0, .string ⟨#[]⟩] 25)).size ?_); (intro v8 w8 ho8 hgr8 hat8; have HO8 := Lib.hid ho8; have HGR8 := Lib.hid hgr8; have HAT8 := Lib.hid hat8; obtain ⟨g8, c8, rfl⟩ := ho8.is; have HB8 := Lib.hid ((HB7.out.alloc HB7.out.size (.cells #[.int .i64 4, .string ⟨#[113]⟩, .slice none 0 0, .string ⟨#[]⟩] 25)).grown HGR8.out (by have := HB7.out.size; simp; omega) (fun x hx => by have h9 : wr.heap.size = x := Option.some.inj hx; have := HB7.out.size; omega)); clear ho8 hgr8 hat8)) | (at_builtin; (refine append_G rfl _ _ rfl w.heap.size w8.heap.size (.slice (some ⟨g8, 0, none⟩) (([(4, ⟨#[113]⟩, [], ⟨#[]⟩)] : List It) ++ l).length c8) (.slice (some ⟨w8.heap.size, 0, none⟩) 1 1) (([.slice none 0 0] : List Value) ++ us) ([.slice none 0 0] : List Value) (([(4, ⟨#[113]⟩, [], ⟨#[]⟩)] : List It) ++ l) ([(5, ⟨#[]⟩, [], ⟨#[]⟩)] : List It) rfl (HO8.out.al (.cells #[.int .i64 5, .string ⟨#[]⟩, .slice none 0 0, .string ⟨#[]⟩] 25)) rfl (lit_G1 (base := w8.heap.size) (k := 5) (n := ⟨#[]⟩) (t := ⟨#[]⟩) (Nat.le_refl _) KeptC.nil) ((lit_G1 (base := w8.heap.size) (k := 5) (n := ⟨#[]⟩) (t := ⟨#[]⟩) (Nat.le_refl _) KeptC.nil).later HB8.out.size HO8.out.block_lt) (by have := HLN.out; simp; omega) (HB8.out.alloc HB8.out.size (.cells #[.int .i64 5, .string ⟨#[]⟩, .slice none 0 0, .string ⟨#[]⟩] 25)).size ?_); (intro v9 w9 ho9 hgr9 hat9; have HO9 := Lib.hid ho9; have HGR9 := Lib.hid hgr9; have HAT9 := Lib.hid hat9; obtain ⟨g9, c9, rfl⟩ := ho9.is; have HB9 := Lib.hid ((HB8.out.alloc HB8.out.size (.cells #[.int .i64 5, .string ⟨#[]⟩, .slice none 0 0, .string ⟨#[]⟩] 25)).grown HGR9.out (by have := HB8.out.size; simp; omega) (fun x hx => (HO8.out.row.lt x hx).1)); clear ho9 hgr9 hat9))))
            have hr9 := HO9.out.reads
            rw [HE9.out] at hr9
            refine (CB.out _ _ hr9 (HT.out.keep HB9.out)).mono ?_
            rintro e w10 ⟨rfl, hb10⟩
            rw [HV.out]
            have HB10 := Lib.hid (HB9.out.trans (hb10.mono HB9.out.size)); clear hb10 hr9
            go_wp2
            go_ret
            exact ⟨rfl, HB10.out⟩
  · go_enter Tryz.func4, Tryz.ntmps4
    go_wp2
    go_ret
    exact ⟨rfl, Below.refl _ _⟩

end Go.Proofs.YtbmobgahokehmaaGreatDoor
