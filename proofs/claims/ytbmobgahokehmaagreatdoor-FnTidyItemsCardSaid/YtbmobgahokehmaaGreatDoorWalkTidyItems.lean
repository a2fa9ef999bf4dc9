/-
  The walk of laws.FnTidyItems.
-/
import Derived.Test.YtbmobgahokehmaaGreatDoorDrawTidyItems
import Derived.Test.YtbmobgahokehmaaGreatDoorDocFew
import Derived.Test.YtbmobgahokehmaaGreatDoorTidI
import Derived.Test.YtbmobgahokehmaaGreatDoorTidS
import Derived.Test.YtbmobgahokehmaaGreatDoorCopyS
import Derived.Test.YtbmobgahokehmaaGreatDoorSameItems
import Derived.Test.YtbmobgahokehmaaGreatDoorBaseD
namespace Go.Proofs.YtbmobgahokehmaaGreatDoor
open Go.RowKit
set_option linter.unusedVariables false

theorem grown_two {w a b : World} {R : Nat} {row : Option Nat} (h : w.grownBy a (some R)) (hg : a.grownBy b row) (hr : ∀ q, row = some q → q = R ∨ w.heap.size ≤ q) : w.grownBy b (some R) :=
  ⟨hg.os.trans h.os, hg.tape.trans h.tape, hg.output.trans h.output, Nat.le_trans h.size hg.size, fun k hk hn => by
    rw [hg.block k (by have := h.size; omega) (fun e => by
      rcases hr k e.symm with h9 | h9
      · exact hn (by rw [h9])
      · omega)]
    exact h.block k hk hn⟩
/-- A row of one's own whose expressions lie in an older world. -/
structure RowF (W0 w : World) (v : Value) (us : List Value) (l : List It) : Prop where
  row : w.ownsRow W0.heap.size 25 4 v l.length (itF l us)
  len : us.length = l.length
  each : ∀ (k : Nat) (h : k < us.length) (h' : k < l.length), RowC W0 us[k] l[k].2.2.1
  is : ∃ g c, v = .slice (some ⟨g, 0, none⟩) l.length c
theorem RowF.keep {W0 w w' : World} {v : Value} {us : List Value} {l : List It} (h : RowF W0 w v us l) (hw : ∀ b, v.ownBlock = some b → w'.heap[b]? = w.heap[b]?) : RowF W0 w' v us l :=
  ⟨own_keep h.row (fun g hg => hw g hg), h.len, h.each, h.is⟩
theorem RowF.reads {W0 w : World} {v : Value} {us : List Value} {l : List It} (h : RowF W0 w v us l) (hb : Below W0.heap.size W0 w) : RowIt w v l := by
  obtain ⟨ao, cap, rfl⟩ := own_shape h.row
  have hl := h.len
  rcases h.row.2 with ⟨h1, h2⟩ | ⟨g, cp, cur, h1, hg, hh, hc1, hc2, _⟩
  · injection h1 with e1 e2 e3
    subst e1; subst e3
    exact ⟨none, 0, rfl, by omega, by unfold maxLen; omega, .inl (List.length_eq_zero_iff.mp h2)⟩
  · injection h1 with e1 e2 e3
    subst e1; subst e3
    refine ⟨_, cap, rfl, hc1, hc2, .inr ⟨g, 0, rfl, (h.row.lt g rfl).2, fun k hk => ?_⟩⟩
    obtain ⟨f0, f1, f2, f3⟩ := itF_at l us hl.symm k hk (by omega)
    refine ⟨us[k]'(by omega), ?_, ?_, ?_, ?_, (h.each k (by omega) hk).mono hb⟩
    · rw [Nat.zero_add, h.row.cellAt _ (by omega)]; exact f0
    · rw [Nat.zero_add, h.row.cellAt _ (by omega)]; exact f1
    · rw [Nat.zero_add, h.row.cellAt _ (by omega)]; exact f2
    · rw [Nat.zero_add, h.row.cellAt _ (by omega)]; exact f3
theorem lit_F (W0 w : World) (h : W0.heap.size ≤ w.heap.size) : RowF W0 (w.alloc (.cells #[] 25)) (.slice (some ⟨w.heap.size, 0, none⟩) 0 0) [] [] :=
  ⟨own_base (World.ownsRow_lit (e := 25) (size := 4) (base := w.heap.size) w #[] 0 (Nat.le_refl _) (by unfold maxLen; omega) rfl) (fun g hg => by
    have h9 : w.heap.size = g := Option.some.inj hg
    omega), rfl, fun k h => by simp at h, ⟨_, _, rfl⟩⟩
theorem append_F {W0 w : World} {ops : Array Oper} {rest : List Oper} {o : Oper} {A : Act} {Q : Exit → Act → World → Prop} (hgd : o.guard = none) (s x : Operand)
    (ho : o.op = .call { callee := .builtin .append, args := #[s, x], argTypes := #[30, 30] })
    (va : Value) (us : List Value) (l : List It) (k : Int) (n t : ByteArray) (u : Value) (cs : List Cl) (hs : A.eval s = va) (hA : RowF W0 w va us l) (hx : A.eval x = .slice (some ⟨w.heap.size, 0, none⟩) 1 1)
    (hc : RowC W0 u cs) (hlen : l.length ≤ 1000) (hbase : W0.heap.size ≤ w.heap.size)
    (h : ∀ v' w', RowF W0 w' v' (us ++ [u]) (l ++ [(k, n, cs, t)]) → (w.alloc (.cells #[.int .i64 k, .string n, u, .string t] 25)).grownBy w' va.ownBlock → (∀ b, v'.ownBlock = some b → va.ownBlock = some b ∨ w.heap.size < b) → wpList Tryz.prog ops Q rest (A.put o.dst v') w') :
    wpList Tryz.prog ops Q (o :: rest) A (w.alloc (.cells #[.int .i64 k, .string n, u, .string t] 25)) := by
  obtain ⟨i0, hi, hz0, hz1, hz2⟩ := info_parts infoIt
  have hl := hA.len
  have hu1 : u.oneCell' = true := by
    obtain ⟨a, c, e, -⟩ := hc
    rw [e]; rfl
  refine wpList_append_lies _ hgd s x 30 ho W0.heap.size 25 i0 (.agg #[.int .i64 0, .string ByteArray.empty, .slice none 0 0, .string ByteArray.empty]) 4 64 Tryz.underlying30 hi hz0 hz1 hz2 rfl (by decide) va l.length (itF l us) hs (hA.row.alloc _) ⟨w.heap.size, 0, none⟩ 1 1 [.int .i64 k, .string n, u, .string t] hx rfl (World.news_of_block (heap_alloc_new w _)) ?_ (by omega) (by unfold maxLen; omega) (by omega) (by simp; omega) (w.heap.size + 1) (by simp) ?_
  · intro y hy
    simp only [List.mem_cons, List.not_mem_nil, or_false] at hy
    rcases hy with rfl | rfl | rfl | rfl
    · rfl
    · rfl
    · exact hu1
    · rfl
  · intro gg c' w' hown hgrow hat hlt
    have hlen1 : (l ++ [(k, n, cs, t)]).length = l.length + 1 := by simp
    refine h _ w' ⟨?_, by simp [hl], ?_, ⟨gg, c', by rw [hlen1]⟩⟩ hgrow (fun b hb => ?_)
    · rw [hlen1, itF_append l us [(k, n, cs, t)] [u] hl.symm]
      exact hown
    · intro j h1 h2
      rw [List.length_append] at h1
      by_cases hj : j < us.length
      · have e : (us ++ [u])[j]'(by rw [List.length_append]; exact h1) = us[j] := List.getElem_append_left hj
        have e2 : (l ++ [(k, n, cs, t)])[j]'h2 = l[j]'(by omega) := List.getElem_append_left (by omega)
        rw [e, e2]
        exact hA.each j hj (by omega)
      · have hjl : j = us.length := by simp at h1; omega
        subst hjl
        have e : (us ++ [u])[us.length]'(by rw [List.length_append]; exact h1) = u := by simp
        have e2 : (l ++ [(k, n, cs, t)])[us.length]'h2 = (k, n, cs, t) := by simp [hl]
        rw [e, e2]
        exact hc
    · have e : gg = b := Option.some.inj hb
      subst e
      exact hat.imp id (fun e => by omega)
theorem full_take {l : List It} {k : Nat} (hk : k < l.length) : fullL (l.take (k + 1)) = fullL (l.take k) ++ (if l[k].1 = 1 then [] else [l[k]]) := by
  rw [List.take_succ_eq_append_getElem hk, fullL_snoc]
theorem RowIt.it {w W : World} {ao : Option Addr} {c : Nat} {l : List It} (h : RowIt w (.slice ao l.length c) l) (h0 : 0 < l.length) : ∃ b o, ao = some ⟨b, o, none⟩ ∧ ∀ (k : Nat) (hk : k < l.length), ∃ (a : Option Addr) (cc : Nat), RowC w (.slice a l[k].2.2.1.length cc) l[k].2.2.1 ∧
    ∀ (W : World), Below w.heap.size w W → W.cell? ⟨b, o + k * 4, none⟩ = some (.int .i64 l[k].1) ∧ W.cell? ⟨b, o + k * 4 + 1, none⟩ = some (.string l[k].2.1) ∧ W.cell? ⟨b, o + k * 4 + 2, none⟩ = some (.slice a l[k].2.2.1.length cc) ∧ W.cell? ⟨b, o + k * 4 + 3, none⟩ = some (.string l[k].2.2.2) := by
  obtain ⟨a1, c1, hv, q1, q2, q3⟩ := h
  injection hv with e1 e2 e3
  rcases q3 with q3 | ⟨b, o, ha, hb, hj⟩
  · subst q3; simp at h0
  · refine ⟨b, o, e1.trans ha, fun k hk => ?_⟩
    obtain ⟨u, hu⟩ := hj k hk
    obtain ⟨a, cc, e, -⟩ := hu.2.2.2.2
    subst e
    exact ⟨a, cc, hu.2.2.2.2, fun W hW => ⟨(hu.mono hb hW).1, (hu.mono hb hW).2.1, (hu.mono hb hW).2.2.1, (hu.mono hb hW).2.2.2.1⟩⟩

set_option maxRecDepth 100000 in
set_option maxHeartbeats 8000000 in
theorem fnTidyItems_core (a0 : Option Addr) (len0 cap0 : Nat) (w : World) (hrow : CodeRow w a0 len0 cap0) (htab : Tab w) :
    Calls Tryz.prog 6 #[.slice a0 len0 cap0] w fun e w' => e = .returned (.bool true) ∧ Below w.heap.size w w' := by
  have hcap := hrow.1; have hmx := hrow.2.1
  unfold maxLen at hmx
  by_cases hl : len0 ≤ 1048576
  · have HD := Lib.hid (drawTidyItems_any a0 len0 cap0 w hrow); have HT := Lib.hid htab
    clear hrow htab
    go_enter Tryz.func6, Tryz.ntmps6
    go_wp2_with fail
    refine HD.out.mono ?_
    rintro e w1 ⟨v1, us, l, rfl, ho1, hf, hlen, hb1⟩
    obtain ⟨g1, c1, rfl⟩ := ho1.is
    have HR1 := Lib.hid ho1.reads; have HB1 := Lib.hid hb1; have HLN := Lib.hid hlen; have HF := Lib.hid hf
    have CI := Lib.hid (fun v w' hr ht => tidyItems_impl v l w' hr (few_fitI hf) ht)
    have CS := Lib.hid (fun v w' hr => tidyItems_spec (fun u k nm t l w hr hl => l11Copy_any u k nm t l w hr hl) v l w' hr (few_shortI hf) (by omega))
    have CV := Lib.hid (fun v w' hr => documentValid_spec v l w' hr (few_shortI hf) (by omega))
    obtain ⟨X, hX⟩ : ∃ X, tidyD l = X := ⟨_, rfl⟩
    rw [hX] at CI CS
    have HXE := Lib.hid hX
    clear ho1 hf hlen hb1 hX
    go_wp2_with fail
    refine (CI.out _ _ HR1.out (HT.out.keep HB1.out)).mono ?_
    rintro e w2 ⟨v2, us2, rfl, ho2, hb2⟩
    have X2 := Lib.hid ho2.reads; have R2 := Lib.hid (HR1.out.mono hb2); have HB2 := Lib.hid (HB1.out.trans (hb2.mono HB1.out.size))
    clear ho2 hb2
    go_wp2_with fail
    refine (CS.out _ _ R2.out).mono ?_
    rintro e w3 ⟨v3, us3, rfl, ho3, hb3⟩
    have Y3 := Lib.hid ho3.reads; have X3 := Lib.hid (X2.out.mono hb3); have R3 := Lib.hid (R2.out.mono hb3); have HB3 := Lib.hid (HB2.out.trans (hb3.mono HB2.out.size))
    clear ho3 hb3
    go_wp2_with fail
    refine (sameItems_same v2 v3 X _ X3.out Y3.out).mono ?_
    rintro e w4 ⟨rfl, hb4⟩
    have X4 := Lib.hid (X3.out.mono hb4); have R4 := Lib.hid (R3.out.mono hb4); have HB4 := Lib.hid (HB3.out.trans (hb4.mono HB3.out.size))
    clear hb4
    go_wp2_with fail
    refine (CV.out _ _ R4.out).mono ?_
    rintro e w6 ⟨rfl, hb5⟩
    have X6 := Lib.hid (X4.out.mono hb5); have R6 := Lib.hid (R4.out.mono hb5); have HB6 := Lib.hid (HB4.out.trans (hb5.mono HB4.out.size))
    clear hb5 X2 X3 X4 Y3 R2 R3 R4 HB2 HB3 HB4 HR1
    obtain ⟨d, hd⟩ : ∃ d, docB l = d := ⟨_, rfl⟩
    rw [hd]
    cases d with
    | false =>
      have hP0 : X = [] := by rw [← HXE.out]; unfold tidyD; rw [if_neg (by rw [hd]; simp)]
      clear HXE hd
      obtain ⟨a2, c2, hv2, -⟩ := X6.out
      rw [hP0] at hv2
      subst hv2
      clear hP0
      go_wp2_with fail
      refine (alive_any _).mono ?_
      rintro e w' ⟨rfl, rfl⟩
      go_wp2
      go_ret
      exact ⟨rfl, HB6.out⟩
    | true =>
      have hXt : X = tidyL l := by rw [← HXE.out]; unfold tidyD; rw [if_pos hd]
      have HXT := Lib.hid hXt
      have HND := Lib.hid (show Neat X ∧ lastK X ≠ 1 by rw [hXt]; exact tidy_neat l)
      have HFU := Lib.hid (show fullL X = fullL l by rw [hXt]; exact tidy_full l)
      have HDX := Lib.hid (show docB X = true by rw [hXt]; exact tidy_doc hd)
      have HAG := Lib.hid (show tidyD X = X by unfold tidyD; rw [if_pos (show docB X = true by rw [hXt]; exact tidy_doc hd), hXt]; exact tidy_again l)
      have HFX := Lib.hid (show ∀ i ∈ X, FewI i by rw [hXt]; exact fun i hi => HF.out i (tidy_mem hi))
      have HXL := Lib.hid (show X.length ≤ 82 by rw [hXt]; exact Nat.le_trans (tidy_len l) HLN.out)
      have hl82 : l.length ≤ 82 := HLN.out
      have hx82 : X.length ≤ 82 := HXL.out
      obtain ⟨a2, c2, rfl⟩ : ∃ a c, v2 = .slice a X.length c := by obtain ⟨a, c, h, -⟩ := X6.out; exact ⟨a, c, h⟩
      clear hXt hd CI CS CV HXE
      have HA0 := Lib.hid ((lit_F w6 w6 (Nat.le_refl _)).keep (w' := (w6.alloc (.cells #[] 25)).alloc (.cells #[] 25)) (fun b hb => by have h9 : w6.heap.size = b := Option.some.inj hb; exact Below.heap_alloc _ _ _ (by simp; omega)))
      have HB0 := Lib.hid (lit_F w6 (w6.alloc (.cells #[] 25)) (by simp))
      have hws : (w6.alloc (.cells #[] 25)).heap.size = w6.heap.size + 1 := by simp
      rw [hws] at HB0
      obtain ⟨W7, hW7⟩ : ∃ W, W = (w6.alloc (.cells #[] 25)).alloc (.cells #[] 25) := ⟨_, rfl⟩
      have HS7 := Lib.hid (show W7.heap.size = w6.heap.size + 2 by rw [hW7]; simp)
      have HL7 := Lib.hid (show Below w6.heap.size w6 W7 by rw [hW7]; exact ((Below.refl w6.heap.size w6).alloc (Nat.le_refl _) _).alloc (by simp) _)
      rw [← hW7] at HA0 HB0
      go_wp2_with fail
      go_loopw [5, 7] (fun av i wr => ∃ (k : Nat) (ua : List Value) (la : List It), k ≤ l.length ∧ i = .int .i64 (k : Int) ∧ RowF w6 wr av ua la ∧ Hid (la = fullL (l.take k)) ∧ Hid (la.length ≤ k) ∧ (∀ q, av.ownBlock = some q → q = w6.heap.size ∨ W7.heap.size ≤ q) ∧ W7.grownBy wr (some w6.heap.size)) (fun _ i _ => l.length - (intOf i).toNat)
      case atStart => exact ⟨0, [], [], by omega, rfl, by first | exact HA0.out | (rw [← hW7]; exact HA0.out), Lib.hid rfl, Lib.hid (by simp), fun q hq => .inl (Option.some.inj hq).symm, by first | exact World.grownBy.refl _ _ | (rw [← hW7]; exact World.grownBy.refl _ _)⟩
      case round =>
        obtain ⟨k, ua, la, hk, rfl, hown, HLA, HLL, hnew, hg⟩ := hrel
        have HO := Lib.hid hown; have HV := Lib.hid hnew; have HG := Lib.hid hg
        clear hown hnew hg
        have HLB := Lib.hid (show Below w6.heap.size w6 wr from ⟨HG.out.os.trans HL7.out.os, HG.out.tape.trans HL7.out.tape, HG.out.output.trans HL7.out.output, Nat.le_trans HL7.out.size HG.out.size, fun b hb => by rw [HG.out.block b (by have := HS7.out; omega) (fun e => by have h9 : b = w6.heap.size := Option.some.inj e; omega), HL7.out.block b hb]⟩)
        obtain ⟨ag, ac0, rfl⟩ := HO.out.is
        by_cases hlt : k < l.length
        · have hltI : (k : Int) < (l.length : Int) := by omega
          obtain ⟨gb, go, hge, hc⟩ := R6.out.it (W := wr) (by omega)
          obtain ⟨ia, ic, hrc, hcell⟩ := hc k hlt
          obtain ⟨d0, d1, d2, d3⟩ := hcell wr HLB.out
          have hft := full_take hlt
          injection hge with hge
          injection hge with hg1 hg2 _
          subst hg1; subst hg2
          rw [Nat.zero_add] at d0 d1 d2 d3
          generalize l[k] = it at d0 d1 d2 d3 hrc hft
          obtain ⟨ik, inm, ics, int⟩ := it
          simp only at d0 d1 d2 d3 hrc hft
          have HRC := Lib.hid hrc; have HFT := Lib.hid hft
          clear hc hcell hrc hft
          by_cases hk1 : ik = 1
          · subst hk1
            have HN := Lib.hid (show la = fullL (l.take (k + 1)) by rw [HFT.out, if_pos rfl, List.append_nil]; exact HLA.out)
            go_wp2
            go_roundw
            case rel => exact ⟨k + 1, ua, la, by omega, by go_num, HO.out, Lib.hid HN.out, Lib.hid (by have := HLL.out; omega), HV.out, HG.out⟩
            case measure => simp [intOf]; omega
          · have hkb : (ik != 1) = true := by simp [hk1]
            have HN := Lib.hid (show la ++ [(ik, inm, ics, int)] = fullL (l.take (k + 1)) by rw [HFT.out, if_neg hk1, HLA.out])
            go_wp2_with (at_builtin; go_loud (refine append_F rfl _ _ rfl (.slice (some ⟨ag, 0, none⟩) la.length ac0) ua la ik inm int (.slice ia ics.length ic) ics rfl HO.out rfl HRC.out (by have := HLL.out; omega) HLB.out.size ?_); go_loud (intro v8 w8 ho8 hgr8 hat8; have HV8 := Lib.hid (show ∀ q, v8.ownBlock = some q → q = w6.heap.size ∨ W7.heap.size ≤ q from fun q hq => (hat8 q hq).elim (fun h => HV.out q h) (fun h => .inr (by have := HG.out.size; omega))); have HG8 := Lib.hid (grown_two (grown_alloc HG.out (.cells #[.int .i64 ik, .string inm, .slice ia ics.length ic, .string int] 25)) hgr8 (fun q hq => HV.out q hq)); obtain ⟨L8, HL8⟩ : ∃ L : List It, Hid (L = la ++ [(ik, inm, ics, int)]) := ⟨_, Lib.hid rfl⟩; rw [← HL8.out] at ho8; have HLN8 := Lib.hid (show L8.length = la.length + 1 by rw [HL8.out]; simp); have HO8 := Lib.hid ho8; obtain ⟨g8, c8, rfl⟩ := ho8.is; clear ho8 hgr8 hat8))
            have HO9 := HO8
            go_wp2
            go_roundw
            case rel => exact ⟨k + 1, _, L8, by omega, by go_num, HO9.out, Lib.hid (HL8.out.trans HN.out), Lib.hid (by have := HLL.out; have := HLN8.out; omega), HV8.out, HG8.out⟩
            case measure => simp [intOf]; omega
        · obtain rfl : k = l.length := by omega
          obtain ⟨W8, rfl⟩ : ∃ W8 : World, W8 = wr := ⟨_, rfl⟩
          have HLF := Lib.hid (show la = fullL l by have := HLA.out; rwa [List.take_length] at this)
          have HBB := Lib.hid (HB0.out.keep (w' := W8) (fun b hb => by
            have h9 : w6.heap.size + 1 = b := Option.some.inj hb
            exact HG.out.block b (by have := HS7.out; omega) (fun e => by have h8 : b = w6.heap.size := Option.some.inj e; omega)))
          have HSW := Lib.hid HG.out.size
          go_wp2_with fail
          go_loopw [6, 8] (fun bv i wr => ∃ (k : Nat) (ub : List Value) (lb : List It), k ≤ X.length ∧ i = .int .i64 (k : Int) ∧ RowF w6 wr bv ub lb ∧ Hid (lb = fullL (X.take k)) ∧ Hid (lb.length ≤ k) ∧ (∀ q, bv.ownBlock = some q → q = w6.heap.size + 1 ∨ W8.heap.size ≤ q) ∧ W8.grownBy wr (some (w6.heap.size + 1))) (fun _ i _ => X.length - (intOf i).toNat)
          case atStart => exact ⟨0, [], [], by omega, rfl, HBB.out, Lib.hid rfl, Lib.hid (by simp), fun q hq => .inl (Option.some.inj hq).symm, World.grownBy.refl _ _⟩
          case round =>
            obtain ⟨k, ub, lb, hk, rfl, hown, HLA2, HLL2, hnew, hg⟩ := hrel
            have HO2 := Lib.hid hown; have HV2 := Lib.hid hnew; have HG2 := Lib.hid hg
            clear hown hnew hg
            have HLB2 := Lib.hid (show Below w6.heap.size w6 wr from ⟨HG2.out.os.trans HLB.out.os, HG2.out.tape.trans HLB.out.tape, HG2.out.output.trans HLB.out.output, Nat.le_trans HLB.out.size HG2.out.size, fun b hb => by rw [HG2.out.block b (by have := HLB.out.size; omega) (fun e => by have h9 : b = w6.heap.size + 1 := Option.some.inj e; omega), HLB.out.block b hb]⟩)
            obtain ⟨bg, bc0, rfl⟩ := HO2.out.is
            by_cases hlt : k < X.length
            · have hltI : (k : Int) < (X.length : Int) := by omega
              obtain ⟨xb, xo, rfl, hc⟩ := X6.out.it (W := wr) (by omega)
              obtain ⟨ia, ic, hrc, hcell⟩ := hc k hlt
              obtain ⟨d0, d1, d2, d3⟩ := hcell wr HLB2.out
              have hft := full_take hlt
              have hbl := tidy_blank HND.out.1 HND.out.2 k hlt
              by_cases hk1 : X[k].1 = 1
              · obtain ⟨h0, h2, q1, q4, q5⟩ := hbl hk1
                obtain ⟨j, hj⟩ : ∃ j, j = k - 1 := ⟨_, rfl⟩
                obtain ⟨m, hm⟩ : ∃ m, m = k + 1 := ⟨_, rfl⟩
                have hjX : j < X.length := by omega
                have hmX : m < X.length := by omega
                have p1 : (X[j]'hjX).1 ≠ 1 := by subst hj; exact q1
                have p4 : (X[j]'hjX).1 ≠ 4 := by subst hj; exact q4
                have p5 : (X[m]'hmX).1 ≠ 5 := by subst hm; exact q5
                obtain ⟨_, _, -, ecell⟩ := hc j hjX
                obtain ⟨_, _, -, fcell⟩ := hc m hmX
                have e0 := (ecell wr HLB2.out).1
                have f0 := (fcell wr HLB2.out).1
                have HN := Lib.hid (show lb = fullL (X.take (k + 1)) by rw [hft, if_pos hk1, List.append_nil]; exact HLA2.out)
                rw [hk1] at d0
                clear hc hcell hrc hft hbl q1 q4 q5 ecell fcell d1 d2 d3
                obtain ⟨kj, hkj⟩ : ∃ kj, (X[j]'hjX).1 = kj := ⟨_, rfl⟩
                obtain ⟨km, hkm⟩ : ∃ km, (X[m]'hmX).1 = km := ⟨_, rfl⟩
                rw [hkj] at e0 p1 p4
                rw [hkm] at f0 p5
                clear hkj hkm
                have g0 : ((k : Int) == 0) = false := beq_eq_false_iff_ne.mpr (by omega)
                have hwl : IntKind.i64.wrap ((X.length : Int) - 1) = (X.length : Int) - 1 := IntWalk.i64_in _ (by omega)
                have g1 : ((k : Int) == (X.length : Int) - 1) = false := beq_eq_false_iff_ne.mpr (by omega)
                have hwj : IntKind.i64.wrap ((k : Int) - 1) = (j : Int) := by rw [IntWalk.i64_in _ (by omega)]; omega
                have hwm : IntKind.i64.wrap ((k : Int) + 1) = (m : Int) := by rw [IntWalk.i64_in _ (by omega)]; omega
                have b1 : (kj == 1) = false := beq_eq_false_iff_ne.mpr p1
                have b4 : (kj == 4) = false := beq_eq_false_iff_ne.mpr p4
                have b5 : (km == 5) = false := beq_eq_false_iff_ne.mpr p5
                have hjI : (j : Int) < (X.length : Int) := by omega
                have hmI : (m : Int) < (X.length : Int) := by omega
                have HM := Lib.hid hm
                have HJ := Lib.hid hj
                clear hm hj h0 h2 p1 p4 p5 hk1
                go_wp2
                go_roundw
                case rel => exact ⟨m, ub, lb, by omega, by first | rfl | go_num, HO2.out, Lib.hid (by rw [HM.out]; exact HN.out), Lib.hid (by have := HLL2.out; have := HM.out; omega), HV2.out, HG2.out⟩
                case measure => have := HM.out; simp [intOf]; omega
              · generalize X[k] = it at d0 d1 d2 d3 hrc hft hk1
                obtain ⟨ik, inm, ics, int⟩ := it
                simp only at d0 d1 d2 d3 hrc hft hk1
                have HRC := Lib.hid hrc
                have hkb : (ik != 1) = true := by simp [hk1]
                have HN := Lib.hid (show lb ++ [(ik, inm, ics, int)] = fullL (X.take (k + 1)) by rw [hft, if_neg hk1, HLA2.out])
                clear hc hcell hrc hft hbl
                go_wp2_with (at_builtin; go_loud (refine append_F rfl _ _ rfl (.slice (some ⟨bg, 0, none⟩) lb.length bc0) ub lb ik inm int (.slice ia ics.length ic) ics rfl HO2.out rfl HRC.out (by have := HLL2.out; omega) HLB2.out.size ?_); go_loud (intro v8 w8 ho8 hgr8 hat8; have HV8 := Lib.hid (show ∀ q, v8.ownBlock = some q → q = w6.heap.size + 1 ∨ W8.heap.size ≤ q from fun q hq => (hat8 q hq).elim (fun h => HV2.out q h) (fun h => .inr (by have := HG2.out.size; omega))); have HG8 := Lib.hid (grown_two (grown_alloc HG2.out (.cells #[.int .i64 ik, .string inm, .slice ia ics.length ic, .string int] 25)) hgr8 (fun q hq => HV2.out q hq)); obtain ⟨L8, HL8⟩ : ∃ L : List It, Hid (L = lb ++ [(ik, inm, ics, int)]) := ⟨_, Lib.hid rfl⟩; rw [← HL8.out] at ho8; have HLN8 := Lib.hid (show L8.length = lb.length + 1 by rw [HL8.out]; simp); have HO8 := Lib.hid ho8; obtain ⟨g8, c8, rfl⟩ := ho8.is; clear ho8 hgr8 hat8))
                go_wp2
                go_roundw
                case rel => exact ⟨k + 1, _, L8, by omega, by go_num, HO8.out, Lib.hid (HL8.out.trans HN.out), Lib.hid (by have := HLL2.out; have := HLN8.out; omega), HV8.out, HG8.out⟩
                case measure => simp [intOf]; omega
            · obtain rfl : k = X.length := by omega
              have hlb : lb = la := by
                have := HLA2.out
                rw [List.take_length] at this
                rw [this, HFU.out, HLF.out]
              subst hlb
              have HAR := Lib.hid ((HO.out.keep (w' := wr) (fun b hb => HG2.out.block b (HO.out.row.lt b hb).2 (fun e => by
                have h9 : b = w6.heap.size + 1 := Option.some.inj e
                have := HV.out b hb; have := HS7.out; omega))).reads HLB2.out)
              have HBR := Lib.hid (HO2.out.reads HLB2.out)
              have HXR := Lib.hid (X6.out.mono HLB2.out)
              have HBW := Lib.hid (HB6.out.trans (HLB2.out.mono HB6.out.size))
              have CD := Lib.hid (fun v w' hr ht => documentValid_impl v X w' hr (few_fitI HFX.out) ht)
              have CT := Lib.hid (fun v w' hr ht => tidyItems_impl v X w' hr (few_fitI HFX.out) ht)
              rw [HAG.out] at CT
              go_wp2_with fail
              refine (CD.out _ _ HXR.out (HT.out.keep HBW.out)).mono ?_
              rintro e w9 ⟨rfl, hb9⟩
              rw [HDX.out]
              have HXR9 := Lib.hid (HXR.out.mono hb9); have HAR9 := Lib.hid (HAR.out.mono hb9); have HBR9 := Lib.hid (HBR.out.mono hb9); have HBW9 := Lib.hid (HBW.out.trans (hb9.mono HBW.out.size))
              clear hb9
              go_wp2_with fail
              refine (sameItems_same _ _ lb _ HAR9.out HBR9.out).mono ?_
              rintro e w10 ⟨rfl, hb10⟩
              have HXR10 := Lib.hid (HXR9.out.mono hb10); have HBW10 := Lib.hid (HBW9.out.trans (hb10.mono HBW9.out.size))
              clear hb10
              go_wp2_with fail
              refine (CT.out _ _ HXR10.out (HT.out.keep HBW10.out)).mono ?_
              rintro e w11 ⟨v11, us11, rfl, ho11, hb11⟩
              have HXR11 := Lib.hid (HXR10.out.mono hb11); have HN11 := Lib.hid ho11.reads; have HBW11 := Lib.hid (HBW10.out.trans (hb11.mono HBW10.out.size))
              clear hb11 ho11
              go_wp2_with fail
              refine (sameItems_same _ _ X _ HN11.out HXR11.out).mono ?_
              rintro e w12 ⟨rfl, hb12⟩
              have HBW12 := Lib.hid (HBW11.out.trans (hb12.mono HBW11.out.size))
              clear hb12
              go_wp2
              go_ret
              exact ⟨rfl, HBW12.out⟩
  · go_enter Tryz.func6, Tryz.ntmps6
    go_wp2
    go_ret
    exact ⟨rfl, Below.refl _ _⟩

end Go.Proofs.YtbmobgahokehmaaGreatDoor
