/-
  impl's (*block).appendTidy, appendWhole, TidyItems, by their contracts.
-/
import Derived.Test.YtbmobgahokehmaaGreatDoorDepI
import Derived.Test.YtbmobgahokehmaaGreatDoorTidyTree
import Derived.Test.YtbmobgahokehmaaGreatDoorPushI
import Derived.Deep.QuietTactic
import Derived.BigQuiet
namespace Go.Proofs.YtbmobgahokehmaaGreatDoor
open Go.RowKit
set_option linter.unusedVariables false

/-- What of a single block is tidy. -/
def Whole (m T : List It) : Prop := (∃ i, m = [i] ∧ T = [i] ∧ i.1 ≠ 4 ∧ i.1 ≠ 5) ∨ (∃ o c inn R b, m = o :: (inn ++ [c]) ∧ o.1 = 4 ∧ c.1 = 5 ∧ Tdd inn R b ∧ T = o :: (R ++ [c]))
theorem Whole.len {m T : List It} (h : Whole m T) : T.length ≤ m.length := by
  rcases h with ⟨i, rfl, rfl, -⟩ | ⟨o, c, inn, R, b, rfl, -, -, h, rfl⟩
  · exact Nat.le_refl _
  · have := h.short; simp; omega
theorem Tdd.whole_app {a R m T : List It} {b : Bool} (h : Tdd a R b) (hw : Whole m T) (h1 : ∀ i, m.head? = some i → i.1 ≠ 1) : Tdd (a ++ m) ((R ++ waitL b) ++ T) false := by
  rcases hw with ⟨i, rfl, rfl, h4, h5⟩ | ⟨o, c, inn, R2, b2, rfl, h4, h5, h2, rfl⟩
  · exact h.item (h1 i rfl) h4 h5
  · exact h.blk h2 h4 h5
theorem drop_head {l r : List It} {f : Nat} {i : It} (h : l.drop f = i :: r) : ∃ hf : f < l.length, l[f] = i ∧ l.drop (f + 1) = r := by
  have hf : f < l.length := by
    rcases Nat.lt_or_ge f l.length with h1 | h1
    · exact h1
    · rw [List.drop_eq_nil_of_le h1] at h; cases h
  rw [List.drop_eq_getElem_cons hf] at h
  injection h with h1 h2
  exact ⟨hf, h1, h2⟩
theorem drop_mid {l a r : List It} {f : Nat} (h : l.drop f = a ++ r) : l.drop (f + a.length) = r := by
  have : l.drop (f + a.length) = (l.drop f).drop a.length := by rw [List.drop_drop]
  rw [this, h, List.drop_left]
/-- A block, its first item, and its last one. -/
theorem whole_data {W0 : World} {S : Nat → Prop} {P A d : Nat} {m l : List It} (h : TrD W0 S [P] A m d) (hl : ∃ post, l.drop A = m ++ post) :
    ∃ (U T : Nat) (v : Value) (qs : List Nat) (inn : List It) (i c : It), S P ∧ BlkD W0 P #[.int .i64 (A : Int), .int .i64 (U : Int), v] ∧ W0.ownsRow 0 57 1 v qs.length (ptrs qs) ∧ (∀ r, v.ownBlock = some r → S r) ∧ TrD W0 S qs (A + 1) inn (d + 1) ∧ inn.length < m.length ∧ (∃ post, l.drop (A + 1) = inn ++ post) ∧ U = A + m.length ∧ m.head? = some i ∧ (∃ hA : A < l.length, l[A] = i) ∧
      ((m = [i] ∧ inn = [] ∧ i.1 ≠ 4 ∧ i.1 ≠ 5 ∧ U = A + 1) ∨ (m = i :: (inn ++ [c]) ∧ i.1 = 4 ∧ c.1 = 5 ∧ U = T + 1 ∧ A + 1 < U ∧ ∃ hT : T < l.length, l[T] = c)) := by
  obtain ⟨post, hp⟩ := hl
  rcases h.inv with ⟨i, rfl, h4, h5, hN, hb⟩ | ⟨o, c, inn, v, qs, rfl, h4, h5, hd, hN, hb, ho, hr, h1⟩
  · obtain ⟨hA, hi, hd⟩ := drop_head (r := post) hp
    exact ⟨A + 1, 0, _, [], [], i, i, hN, hb, World.ownsRow_nil _ _ _ _, fun r h => by simp [Value.ownBlock] at h, .nil _ _, by simp, ⟨post, hd⟩, rfl, rfl, ⟨hA, hi⟩, .inl ⟨rfl, rfl, h4, h5, rfl⟩⟩
  · have hp2 : l.drop A = o :: (inn ++ c :: post) := by rw [hp]; simp
    obtain ⟨hA, hi, hd⟩ := drop_head hp2
    obtain ⟨hT, hc, -⟩ := drop_head (drop_mid hd)
    exact ⟨A + inn.length + 2, A + 1 + inn.length, v, qs, inn, o, c, hN, hb, ho, hr, h1, by simp; omega, ⟨_, hd⟩, by simp; omega, rfl, ⟨hA, hi⟩, .inr ⟨rfl, h4, h5, by omega, by omega, hT, hc⟩⟩
/-- What appendTidy does. -/
def TidyAll (W0 : World) (S : Nat → Prop) (l : List It) (v : Value) (j : Nat) : Prop := ∀ (N f d : Nat) (x0 x1 vq : Value) (qs : List Nat) (inn : List It) (va : Value) (us : List Value) (out : List It) (w : World), inn.length < j → out.length + inn.length ≤ 100 → S N → BlkD W0 N #[x0, x1, vq] → W0.ownsRow 0 57 1 vq qs.length (ptrs qs) → (∀ r, vq.ownBlock = some r → S r) → TrD W0 S qs f inn d → (∃ post, l.drop f = inn ++ post) →
  Below W0.heap.size W0 w → OwnI w W0.heap.size va us out →
  Calls Tryz.prog 51 #[.pointer (some ⟨N, 0, none⟩), va, v] w fun e w' => ∃ v' us' R b, e = .returned v' ∧ Tdd inn R b ∧ OwnI w' W0.heap.size v' us' (out ++ R) ∧ Below W0.heap.size W0 w'
/-- What appendWhole does. -/
def WholeAll (W0 : World) (S : Nat → Prop) (l : List It) (v : Value) (j : Nat) : Prop := ∀ (P A d : Nat) (m : List It) (va : Value) (us : List Value) (out : List It) (w : World), m.length ≤ j → out.length + m.length ≤ 100 → TrD W0 S [P] A m d → (∃ post, l.drop A = m ++ post) →
  Below W0.heap.size W0 w → OwnI w W0.heap.size va us out →
  Calls Tryz.prog 78 #[.pointer (some ⟨P, 0, none⟩), va, v] w fun e w' => ∃ v' us' T, e = .returned v' ∧ Whole m T ∧ OwnI w' W0.heap.size v' us' (out ++ T) ∧ Below W0.heap.size W0 w'
theorem own_cap {w : World} {base n c : Nat} {a : Option Addr} {us : List Value} {l : List It} (h : OwnI w base (.slice a n c) us l) : c ≤ 2 ^ 63 - 1 := by
  rcases h.row.2 with ⟨h1, h2⟩ | ⟨g, cap, cur, h1, _, _, _, h4, _⟩
  · injection h1 with _ _ h3; omega
  · injection h1 with _ _ h3; unfold maxLen at h4; omega

set_option maxRecDepth 100000 in
set_option maxHeartbeats 8000000 in
theorem appendWhole_of (W0 : World) (S : Nat → Prop) (l : List It) (v : Value) (hr : RowIt W0 v l) (hll : ∀ i ∈ l, i.2.2.1.length ≤ 1048576) (h30 : l.length ≤ 30) (j : Nat) (ih : TidyAll W0 S l v j) : WholeAll W0 S l v j := by
  obtain ⟨i0, hi, hz0, hz1, hz2⟩ := info_parts infoIt
  intro P A d m va us out w hm hlen ht hpost hB hown
  obtain ⟨U, T, vp, qs, inn, it, ct, hSP, hbk, hrow, hrS, htin, hil, hpin, hU, hhead, ⟨hA, hiA⟩, hcase⟩ := whole_data ht hpost
  obtain ⟨ao, cap, rfl, h1, h2, h3⟩ := hr
  unfold maxLen at h2
  obtain ⟨bl, o, rfl, hbl, cc⟩ := h3.resolve_left (by rintro rfl; simp at hA)
  obtain ⟨aa, ac, rfl⟩ := own_shape hown.row
  have hac := own_cap hown
  have hUL : U ≤ 1000 := by
    obtain ⟨post, hp⟩ := hpost
    have := congrArg List.length hp
    rw [List.length_append, List.length_drop] at this
    omega
  obtain ⟨uA, hu0⟩ := cc A hA
  rw [hiA] at hu0
  have hlA := hll _ (List.getElem_mem hA)
  rw [hiA] at hlA
  have HU0 := Lib.hid hu0
  obtain ⟨d0, d1, d2, d3, hrA⟩ := hu0.mono hbl hB
  have HRA := Lib.hid hrA
  have p0 : w.cell? ⟨P, 0, none⟩ = some (.int .i64 (A : Int)) := (hbk.keep hB).cell 0
  have HBK := Lib.hid hbk; have HB := Lib.hid hB; have HOWN := Lib.hid hown; have HCC := Lib.hid cc
  have HIH := Lib.hid (fun va2 us2 out2 w2 hl2 hB2 ho2 => ih P (A + 1) (d + 1) _ _ vp qs inn va2 us2 out2 w2 (by omega) hl2 hSP hbk hrow hrS htin hpin hB2 ho2)
  have HCASE := Lib.hid hcase
  have hsz0 := hB.size
  have hbA : (A : Int) < (l.length : Int) := by omega
  have hAU0 : A < U := by have := hU; omega
  have hUm : U ≤ A + m.length := by omega
  clear hU
  clear hu0 hrA hbk hB hown cc hcase ih hrow hrS htin hpin ht hpost h3 hSP hhead
  obtain ⟨ik, inm, ics, int⟩ := it
  simp only at d0 d1 d2 d3 hlA HRA
  obtain ⟨auA, cuA, rfl⟩ : ∃ au cu, uA = .slice au ics.length cu := by obtain ⟨au, cu, h, -⟩ := HRA.out; exact ⟨au, cu, h⟩
  go_enter Tryz.func78, Tryz.ntmps78
  go_wp2_with fail
  refine (copied_any _ ik inm int ics _ HRA.out hlA).mono ?_
  rintro e w1 ⟨u1, rfl, ho1, hb1⟩
  obtain ⟨a1, c1, rfl⟩ := own_shape ho1
  have HO1 := Lib.hid ho1; have HB1 := Lib.hid hb1
  have hrw : w1.ownsRow W0.heap.size 25 4 (.slice aa out.length ac) out.length (itF out us) := own_belowS HOWN.out.row hb1
  have HRW := Lib.hid hrw
  have hs1 := hb1.size
  clear ho1 hb1 hrw
  go_wp2_with (
     at_builtin; refine wpList_append_lies _ rfl _ _ 30 rfl W0.heap.size 25 i0 (.agg #[.int .i64 0, .string ByteArray.empty, .slice none 0 0, .string ByteArray.empty]) 4 64 Tryz.underlying30 hi hz0 hz1 hz2 rfl (by decide) (.slice aa out.length ac) out.length (itF out us) rfl (by exact (HRW.out.alloc _)) ⟨w1.heap.size, 0, none⟩ 1 1 [.int .i64 ik, .string inm, .slice a1 ics.length c1, .string int] rfl rfl (World.news_of_block (heap_alloc_new w1 _)) (by simp [Value.oneCell']) (by omega) (by unfold maxLen; omega) (by omega) (by simp; omega) (w1.heap.size + 1) (by simp) ?_; intro gg cap' w2 hown2 hgrow2 hat2 hlt2
     have hpp := HOWN.out.push (i := (ik, inm, ics, int)) hsz0 HB1.out HO1.out _ hgrow2 hown2 hat2
     have HP2 := Lib.hid hpp.1
     have HB2 := Lib.hid (HB.out.trans (hpp.2.mono (Nat.le_refl _)))
     clear hpp hown2 hgrow2 hat2 hlt2)
  refine (HIH.out _ _ (out ++ [(ik, inm, ics, int)]) _ (by rw [List.length_append]; simp; omega) HB2.out (by have := HP2.out; simpa using this)).mono ?_
  rintro e w3 ⟨v3, us3, R, b, rfl, htd, ho3, hB3⟩
  obtain ⟨O3, hO3⟩ : ∃ x, x = out ++ [(ik, inm, ics, int)] ++ R := ⟨_, rfl⟩
  rw [← hO3] at ho3
  obtain ⟨a3, c3, rfl⟩ := own_shape ho3.row
  have hac3 := own_cap ho3
  have hl3 : O3.length = out.length + 1 + R.length := by rw [hO3]; simp; omega
  have HOE := Lib.hid hO3
  have hRs0 : R.length ≤ inn.length := by have := htd.short; omega
  have hl3' : O3.length ≤ 200 := by omega
  clear hO3 hl3
  have hRs : R.length ≤ inn.length := by have := htd.short; omega
  have q0 : w3.cell? ⟨P, 0, none⟩ = some (.int .i64 (A : Int)) := (HBK.out.keep hB3).cell 0
  have q1 : w3.cell? ⟨P, 1, none⟩ = some (.int .i64 (U : Int)) := (HBK.out.keep hB3).cell 1
  have HTD := Lib.hid htd; have HO3 := Lib.hid ho3; have HB3 := Lib.hid hB3
  have hsz3 := hB3.size
  have hwr : IntKind.i64.wrap ((U : Int) - (A : Int)) = (U : Int) - (A : Int) := by rw [IntWalk.i64_in _ (by omega)]
  clear htd ho3 hB3
  rcases HCASE.out with ⟨hmi, hin, h4, h5, hUA⟩ | ⟨hmi, h4, h5, hUT, hAU, hT, hcT⟩
  · have hgt : decide (1 < (U : Int) - (A : Int)) = false := decide_eq_false (by omega)
    have HF := Lib.hid (show Whole m [(ik, inm, ics, int)] from .inl ⟨_, hmi, rfl, h4, h5⟩)
    have HR0 := Lib.hid (show O3 = out ++ [(ik, inm, ics, int)] by
      have h9 := HTD.out
      rw [hin] at h9
      rw [HOE.out, h9.nil_inv, List.append_nil])
    clear hmi hin h4 h5 hUA
    go_wp2_with fail
    go_quiet (fail)
    go_wp2
    go_ret
    exact ⟨_, us3, [(ik, inm, ics, int)], rfl, HF.out, by rw [← HR0.out]; exact HO3.out.below ⟨rfl, rfl, rfl, Nat.le_refl _, fun _ _ => rfl⟩, HB3.out.trans ⟨rfl, rfl, rfl, Nat.le_refl _, fun _ _ => rfl⟩⟩
  · have hgt : decide (1 < (U : Int) - (A : Int)) = true := decide_eq_true (by omega)
    have HF := Lib.hid (show Whole m ((ik, inm, ics, int) :: (R ++ [ct])) from .inr ⟨_, _, inn, R, b, hmi, h4, h5, HTD.out, rfl⟩)
    obtain ⟨uT, hut⟩ := HCC.out T hT
    rw [hcT] at hut
    have hlT := hll _ (List.getElem_mem hT)
    rw [hcT] at hlT
    obtain ⟨t0, t1, t2, t3, hrT⟩ := hut.mono hbl HB3.out
    have HRT := Lib.hid hrT
    have hUT2 : (U : Int) - 1 = (T : Int) := by omega
    have hwr2 : IntKind.i64.wrap ((U : Int) - 1) = (T : Int) := by rw [IntWalk.i64_in _ (by omega)]; exact hUT2
    have hbT : (T : Int) < (l.length : Int) := by omega
    clear hut hrT hmi hcT h4 h5 hUT
    obtain ⟨ck, cnm, ccs, cnt⟩ := ct
    simp only at t0 t1 t2 t3 hlT HRT
    obtain ⟨auT, cuT, rfl⟩ : ∃ au cu, uT = .slice au ccs.length cu := by obtain ⟨au, cu, h, -⟩ := HRT.out; exact ⟨au, cu, h⟩
    have HFO := Lib.hid (show out ++ ((ik, inm, ics, int) :: (R ++ [(ck, cnm, ccs, cnt)])) = O3 ++ [(ck, cnm, ccs, cnt)] by rw [HOE.out]; simp)
    go_wp2_with fail
    go_quiet (fail)
    go_wp2_with fail
    refine (copied_any _ ck cnm cnt ccs _ (HRT.out.drewN _) hlT).mono ?_
    rintro e w4 ⟨u4, rfl, ho4, hb4⟩
    obtain ⟨a4, c4, rfl⟩ := own_shape ho4
    have HOD := Lib.hid (show OwnI (w3.drewN nq) W0.heap.size (.slice a3 O3.length c3) us3 O3 from HO3.out.below ⟨rfl, rfl, rfl, Nat.le_refl _, fun _ _ => rfl⟩)
    have HBD := Lib.hid (show Below W0.heap.size W0 (w3.drewN nq) from HB3.out.trans ⟨rfl, rfl, rfl, Nat.le_refl _, fun _ _ => rfl⟩)
    have HO4 := Lib.hid ho4; have HB4 := Lib.hid hb4
    have hszd : W0.heap.size ≤ (w3.drewN nq).heap.size := hsz3
    have HRW4 := Lib.hid (own_belowS HOD.out.row hb4)
    have hs4 := hb4.size
    clear ho4 hb4
    go_wp2_with (
     at_builtin; refine wpList_append_lies _ rfl _ _ 30 rfl W0.heap.size 25 i0 (.agg #[.int .i64 0, .string ByteArray.empty, .slice none 0 0, .string ByteArray.empty]) 4 64 Tryz.underlying30 hi hz0 hz1 hz2 rfl (by decide) (.slice a3 O3.length c3) O3.length (itF O3 us3) rfl (by exact (HRW4.out.alloc _)) ⟨w4.heap.size, 0, none⟩ 1 1 [.int .i64 ck, .string cnm, .slice a4 ccs.length c4, .string cnt] rfl rfl (World.news_of_block (heap_alloc_new w4 _)) (by simp [Value.oneCell']) (by omega) (by unfold maxLen; omega) (by omega) (by simp; omega) (w4.heap.size + 1) (by simp) ?_; intro gg5 cap5 w5 hown5 hgrow5 hat5 hlt5
     have hpp := HOD.out.push (i := (ck, cnm, ccs, cnt)) hszd HB4.out HO4.out _ hgrow5 hown5 hat5
     have HP5 := Lib.hid hpp.1
     have HB5 := Lib.hid (HBD.out.trans (hpp.2.mono (Nat.le_refl _)))
     clear hpp hown5 hgrow5 hat5 hlt5)
    go_ret
    exact ⟨_, _, (ik, inm, ics, int) :: (R ++ [(ck, cnm, ccs, cnt)]), rfl, HF.out, by rw [HFO.out]; exact HP5.out, HB5.out⟩

theorem tidy_step {W0 : World} {S : Nat → Prop} {l inn a b : List It} {qs : List Nat} {f d k : Nat} (hval : l.all itemB = true) (hpost : ∃ post, l.drop f = inn ++ post) (hlt : k < qs.length) (hab : inn = a ++ b) (htb : TrD W0 S (qs.drop k) (f + a.length) b d) :
    ∃ (P A : Nat) (m b2 : List It) (it : It) (x1 vp : Value), qs[k] = P ∧ BlkD W0 P #[.int .i64 (A : Int), x1, vp] ∧ (∃ hA : A < l.length, l[A] = it) ∧ m.head? = some it ∧ (it.1 = 1 → m = [blankI]) ∧ inn = (a ++ m) ++ b2 ∧ TrD W0 S (qs.drop (k + 1)) (f + (a ++ m).length) b2 d ∧ a.length + m.length ≤ inn.length ∧ TrD W0 S [P] A m d ∧ ∃ post, l.drop A = m ++ post := by
  rw [List.drop_eq_getElem_cons hlt] at htb
  obtain ⟨m, b2, rfl, htm, htr⟩ := htb.head
  obtain ⟨post, hp⟩ := hpost
  have hp2 : l.drop (f + a.length) = m ++ (b2 ++ post) := by
    rw [hab] at hp
    have := drop_mid (a := a) (r := (m ++ b2) ++ post) (by rw [hp, List.append_assoc])
    rw [this, List.append_assoc]
  obtain ⟨U, T, v, qs', inn', i, c, hS, hbk, hrow, hrS, htin, hil, hpi, hU, hhead, ⟨hA, hi⟩, hcase⟩ := whole_data htm ⟨_, hp2⟩
  refine ⟨qs[k], f + a.length, m, b2, i, _, v, rfl, hbk, ⟨hA, hi⟩, hhead, fun h1 => ?_, by rw [hab, List.append_assoc], by rw [List.length_append, ← Nat.add_assoc]; exact htr, by rw [hab, List.length_append, List.length_append]; omega, htm, ⟨_, hp2⟩⟩
  rcases hcase with ⟨hm, -⟩ | ⟨-, h4, -⟩
  · rw [hm, blank_of (by rw [List.all_eq_true] at hval; rw [← hi]; exact hval _ (List.getElem_mem hA)) h1]
  · omega

set_option maxRecDepth 100000 in
set_option maxHeartbeats 8000000 in
theorem appendTidy_of (W0 : World) (S : Nat → Prop) (l : List It) (v : Value) (hr : RowIt W0 v l) (hval : l.all itemB = true) (j : Nat) (ih : WholeAll W0 S l v j) : TidyAll W0 S l v (j + 1) := by
  obtain ⟨i0, hi, hz0, hz1, hz2⟩ := info_parts infoIt
  intro N f d x0 x1 vq qs inn va us out w hj hlen hSN hbN hrow hrS ht hpost hB hown
  obtain ⟨ao, cap, rfl, h1, h2, h3⟩ := hr
  unfold maxLen at h2
  obtain ⟨aq, cq, rfl, k1, k2, k3⟩ := own_ptrD hrow
  unfold maxLen at k2
  have c2 : w.cell? ⟨N, 2, none⟩ = some (.slice aq qs.length cq) := (hbN.keep hB).cell 2
  have hql := ht.count
  have H3 := Lib.hid h3; have K3 := Lib.hid k3; have HT := Lib.hid ht; have HB := Lib.hid hB; have HOWN := Lib.hid hown; have IH := Lib.hid ih; have HPO := Lib.hid hpost; have HVAL := Lib.hid hval
  have hsz0 := hB.size
  clear h3 k3 ht hB hown ih hpost hbN hrow hrS hval
  go_enter Tryz.func51, Tryz.ntmps51
  go_wp2
  go_loopw [1, 7, 8, 10, 16] (fun t fi wa _ i wr => ∃ (k : Nat) (a b2 : List It) (us2 : List Value) (R : List It) (bb rr : Bool), k ≤ qs.length ∧ i = .int .i64 (k : Int) ∧ inn = a ++ b2 ∧ TrD W0 S (qs.drop k) (f + a.length) b2 d ∧ fi = .bool rr ∧ wa = .bool bb ∧ rr = R.isEmpty ∧ Tdd a R bb ∧ OwnI wr W0.heap.size t us2 (out ++ R) ∧ Below W0.heap.size W0 wr) (fun _ _ _ _ i _ => qs.length - (intOf i).toNat)
  case atStart => exact ⟨0, [], inn, us, [], false, true, Nat.zero_le _, rfl, rfl, HT.out, rfl, rfl, rfl, .nil, by rw [List.append_nil]; exact HOWN.out, HB.out⟩
  case round =>
    obtain ⟨k, a, b2, us2, R, bb, rr, hk, rfl, hab, htb, rfl, rfl, hrr, htd, hown, hbw⟩ := hrel
    by_cases hlt : k < qs.length
    · obtain ⟨P, A, m, b3, it, y1, vp, hP, hbk, ⟨hA, hiA⟩, hhead, hone, hinn, htr, hlm, htm, hpm⟩ := tidy_step HVAL.out HPO.out hlt hab htb
      obtain ⟨q, rfl, hbl, cc⟩ := K3.out.resolve_left (by rintro rfl; simp at hlt)
      have d1 := (hbw.cell (p := ⟨q, k, none⟩) hbl).trans (cc k hlt)
      rw [hP] at d1
      have p0 : wr.cell? ⟨P, 0, none⟩ = some (.int .i64 (A : Int)) := (hbk.keep hbw).cell 0
      obtain ⟨bl, o, rfl, hbl2, ccl⟩ := H3.out.resolve_left (by rintro rfl; simp at hA)
      obtain ⟨uA, hu0⟩ := ccl A hA
      rw [hiA] at hu0
      have e0 := (hu0.mono hbl2 hbw).1
      have hbA : (A : Int) < (l.length : Int) := by omega
      have HTD := Lib.hid htd; have HOW := Lib.hid hown; have HBW := Lib.hid hbw; have HINN := Lib.hid hinn; have HTR := Lib.hid htr
      have hszr := hbw.size
      by_cases hk1 : it.1 = 1
      · have HNX := Lib.hid (show Tdd (a ++ m) R (!R.isEmpty) by rw [hone hk1]; exact htd.blank)
        have HRR := Lib.hid hrr
        have e1 : (it.1 == 1) = true := by rw [hk1]; rfl
        clear hone hhead htd hown hbw hinn htr htm hpm hu0 ccl cc hiA hab htb hbk hP hk1 hrr
        generalize it.1 = kk at e0 e1
        go_wp2
        go_roundw
        case rel => exact ⟨k + 1, a ++ m, b3, us2, R, !rr, rr, by omega, by go_num, HINN.out, HTR.out, rfl, rfl, HRR.out, by rw [HRR.out]; exact HNX.out, HOW.out, HBW.out⟩
        case measure => simp [intOf]; omega
      · have e1 : (it.1 == 1) = false := beq_eq_false_iff_ne.mpr hk1
        have HNX := Lib.hid (fun T (hw : Whole m T) => htd.whole_app hw (fun i h => by rw [hhead] at h; injection h with h; rw [← h]; exact hk1))
        have hshort := htd.short
        have HLM := Lib.hid hlm
        have HCALL := Lib.hid (fun va3 us3 out3 w3 hl3 hB3 ho3 => IH.out P A d m va3 us3 out3 w3 (by omega) hl3 htm hpm hB3 ho3)
        have hml : m.length ≤ 100 := by omega
        have hol : out.length + R.length + (waitL bb).length + m.length ≤ 100 := by omega
        have HOL := Lib.hid hol
        have HEM := Lib.hid (show ∀ T, Whole m T → ((R ++ waitL bb) ++ T).isEmpty = false by
          intro T hw
          have : T ≠ [] := by rcases hw with ⟨i, -, rfl, -⟩ | ⟨o, c, inn, R2, b, -, -, -, -, rfl⟩ <;> simp
          rw [Bool.eq_false_iff]
          intro h
          have h9 := List.isEmpty_iff.mp h
          rw [List.append_eq_nil_iff] at h9
          exact this h9.2)
        clear hone hhead htd hbw hinn htr htm hpm hu0 ccl cc hiA hab htb hbk hP hk1 hrr hlm hshort hol
        generalize it.1 = kk at e0 e1
        cases bb with
        | false =>
          have HC := Lib.hid (HCALL.out _ us2 (out ++ R) wr (by have := HOL.out; rw [List.length_append]; simp [waitL] at this; omega) HBW.out HOW.out)
          clear hown
          go_wp2_with fail
          refine HC.out.mono ?_
          rintro e w3 ⟨v3, us3, T, rfl, hw, ho3, hB3⟩
          have HN3 := Lib.hid (HNX.out T hw); have HO3 := Lib.hid ho3; have HB3 := Lib.hid hB3; have HE3 := Lib.hid (HEM.out T hw)
          clear hw ho3 hB3
          go_wp2
          go_roundw
          case rel => exact ⟨k + 1, a ++ m, b3, us3, (R ++ waitL false) ++ T, false, false, by omega, by go_num, HINN.out, HTR.out, rfl, rfl, HE3.out.symm, HN3.out, by have := HO3.out; simpa [waitL] using this, HB3.out⟩
          case measure => simp [intOf]; omega
        | true =>
          obtain ⟨O3, hO3⟩ : ∃ x, x = out ++ R := ⟨_, rfl⟩
          rw [← hO3] at hown
          obtain ⟨a3, c3, rfl⟩ := own_shape hown.row
          have hac3 := own_cap hown
          have hl3' : O3.length ≤ 200 := by have := HOL.out; rw [hO3, List.length_append]; simp [waitL] at this; omega
          have HLX := Lib.hid (show (O3 ++ [blankI]).length + m.length ≤ 100 by have := HOL.out; rw [hO3]; simp [waitL] at this ⊢; omega)
          have HOE := Lib.hid (show ∀ T, (O3 ++ [blankI]) ++ T = out ++ ((R ++ waitL true) ++ T) by intro T; rw [hO3]; simp [waitL])
          have HO3 := Lib.hid hown
          have HRW := Lib.hid hown.row
          clear hO3 hown HOW
          go_wp2_with (
             at_builtin; refine wpList_append_lies _ rfl _ _ 30 rfl W0.heap.size 25 i0 (.agg #[.int .i64 0, .string ByteArray.empty, .slice none 0 0, .string ByteArray.empty]) 4 64 Tryz.underlying30 hi hz0 hz1 hz2 rfl (by decide) (.slice a3 O3.length c3) O3.length (itF O3 us2) rfl (by exact (HRW.out.alloc _)) ⟨wr.heap.size, 0, none⟩ 1 1 [.int .i64 1, .string ByteArray.empty, .slice none 0 0, .string ByteArray.empty] rfl rfl (World.news_of_block (heap_alloc_new wr _)) (by simp [Value.oneCell']) (by omega) (by unfold maxLen; omega) (by omega) (by simp; omega) (wr.heap.size + 1) (by simp) ?_; intro gg cap' w2 hown2 hgrow2 hat2 hlt2
             have hpp := HO3.out.push (i := blankI) (u := .slice none 0 0) hszr (Below.refl _ _) (World.ownsRow_nil _ _ _ _) _ hgrow2 hown2 hat2
             have HP2 := Lib.hid hpp.1
             have HB2 := Lib.hid (HBW.out.trans (hpp.2.mono (Nat.le_refl _)))
             clear hpp hown2 hgrow2 hat2 hlt2)
          refine (HCALL.out _ _ (O3 ++ [blankI]) _ HLX.out HB2.out (by have := HP2.out; simpa using this)).mono ?_
          rintro e w3 ⟨v3, us3, T, rfl, hw, ho3, hB3⟩
          rw [HOE.out] at ho3
          have HN3 := Lib.hid (HNX.out T hw); have HO4 := Lib.hid ho3; have HB3 := Lib.hid hB3; have HE3 := Lib.hid (HEM.out T hw)
          clear hw ho3 hB3
          go_wp2
          go_roundw
          case rel => exact ⟨k + 1, a ++ m, b3, us3, (R ++ waitL true) ++ T, false, false, by omega, by go_num, HINN.out, HTR.out, rfl, rfl, HE3.out.symm, HN3.out, HO4.out, HB3.out⟩
          case measure => simp [intOf]; omega
    · obtain rfl : k = qs.length := by omega
      have HFIN := Lib.hid (show Tdd inn R bb by
        rw [List.drop_length] at htb
        cases htb
        rw [hab, List.append_nil]; exact htd)
      have HO := Lib.hid hown; have HBW := Lib.hid hbw
      clear htb htd hown hbw hab hrr
      go_wp2
      go_ret
      exact ⟨_, us2, R, bb, rfl, HFIN.out, HO.out, HBW.out⟩

theorem tidy_all (W0 : World) (S : Nat → Prop) (l : List It) (v : Value) (hr : RowIt W0 v l) (hll : ∀ i ∈ l, i.2.2.1.length ≤ 1048576) (h30 : l.length ≤ 30) (hval : l.all itemB = true) (j : Nat) : TidyAll W0 S l v j := by
  induction j with
  | zero => intro N f d x0 x1 vq qs inn va us out w hj; omega
  | succ j ih => exact appendTidy_of W0 S l v hr hval j (appendWhole_of W0 S l v hr hll h30 j ih)

theorem okE_len {l : List Cl} (h : okE l = true) : l.length ≤ 60 := ((okE_iff l).mp h).1
theorem item_len {i : It} (h : itemB i = true) : i.2.2.1.length ≤ 1048576 := by
  obtain ⟨k, n, l, t⟩ := i
  show l.length ≤ _
  have he : l.isEmpty = true ∨ okE l = true := by
    unfold itemB at h
    simp only at h
    split at h
    · simp only [Bool.and_eq_true] at h; exact .inl h.2.1
    split at h
    · simp only [Bool.and_eq_true] at h; exact .inl h.2.1
    split at h
    · simp only [Bool.and_eq_true] at h; exact .inr h.2.1
    split at h
    · simp only [Bool.and_eq_true] at h; exact .inl h.2.1
    · cases h
  rcases he with he | he
  · rw [List.isEmpty_iff.mp he]; simp
  · have := okE_len he; omega

set_option maxRecDepth 100000 in
set_option maxHeartbeats 4000000 in
theorem tidyItems_impl (v : Value) (l : List It) (w : World) (hr : RowIt w v l) (hz : FitI l) (htab : Tab w) :
    Calls Tryz.prog 23 #[v] w (NewI (tidyD l) w) := by
  have HC := Lib.hid (documentTree_any v l w hr hz htab)
  have HR := Lib.hid hr
  obtain ⟨ao, cap, rfl, h1, h2, h3⟩ := hr
  clear h3 hz
  cases hok : docB l with
  | true =>
    obtain ⟨h30, hval, hnest⟩ := (docB_iff l).mp hok
    have HD := Lib.hid (show tidyD l = tidyL l by unfold tidyD; rw [if_pos hok])
    have HVAL := Lib.hid hval
    rw [HD.out]
    clear hval hnest
    go_enter Tryz.func23, Tryz.ntmps23
    go_wp2_with fail
    refine HC.out.mono ?_
    rintro e w1 ⟨hb1, ⟨N, vv, qs, rfl, -, hN, hbk, ho, ht⟩ | ⟨rfl, hno⟩⟩
    · have HCALL := Lib.hid (tidy_all w1 (fun b => N ≤ b ∧ b < w1.heap.size) l _ (HR.out.mono hb1) (fun i hi => item_len (by have := HVAL.out; rw [List.all_eq_true] at this; exact this i hi)) h30 HVAL.out (l.length + 1) N 0 0 _ _ vv qs l (.slice none 0 0) [] [] w1 (by omega) (by simp; omega) ⟨Nat.le_refl _, hbk.lt⟩ hbk (ho.mono (Nat.zero_le _)) (fun r hr => by have := ho.lt r hr; omega)
        (ht.keep (fun b hb hlt => rfl) (fun b hb hlt => by omega)) ⟨[], by simp⟩ (Below.refl _ _) (own_nilI _ _))
      have HB1 := Lib.hid hb1
      clear hb1 hbk ho ht
      go_wp2_with fail
      refine HCALL.out.mono ?_
      rintro e w2 ⟨v2, us2, R, b, rfl, htd, ho2, hb2⟩
      have HE := Lib.hid htd.whole
      rw [List.nil_append] at ho2
      have HO2 := Lib.hid (ho2.lower HB1.out.size); have HB2 := Lib.hid (HB1.out.trans (hb2.mono HB1.out.size))
      clear htd ho2 hb2
      go_wp2
      go_ret
      exact ⟨_, us2, rfl, by rw [HE.out]; exact HO2.out, HB2.out⟩
    · exact absurd hno (by rw [hok]; simp)
  | false =>
    have HD := Lib.hid (show tidyD l = [] by unfold tidyD; rw [if_neg (by rw [hok]; simp)])
    rw [HD.out]
    go_enter Tryz.func23, Tryz.ntmps23
    go_wp2_with fail
    refine HC.out.mono ?_
    rintro e w1 ⟨hb1, ⟨N, vv, qs, rfl, hyes, -⟩ | ⟨rfl, hno⟩⟩
    · exact absurd hyes (by rw [hok]; simp)
    · have HB1 := Lib.hid hb1; clear hb1
      go_wp2
      go_ret
      exact ⟨_, [], rfl, own_nilI _ _, HB1.out⟩

end Go.Proofs.YtbmobgahokehmaaGreatDoor
