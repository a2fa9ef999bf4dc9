/-
  impl.nodeValue, readValue, ValueValid, by their contracts.
-/
import Derived.Test.YtbnchmlapimmdaaGreatDoorVals
import Derived.Test.YtbnchmlapimmdaaGreatDoorOfV
namespace Go.Proofs.YtbnchmlapimmdaaGreatDoor
open Go.RowKit
set_option linter.unusedVariables false

/-- What nodeValue leaves. -/
def NodeV (l : List Cl) (f t : Nat) (w : World) (e : Ending) (w' : World) : Prop :=
  Below w.heap.size w w' ∧ ∃ u, e = .returned u ∧ VlS w' (fun b => w.heap.size ≤ b ∧ b < w'.heap.size) [u] [(l.drop f).take (t - f)]
theorem infoV : (Tryz.prog.info? 64).map (fun i => (i.zero, i.size, i.bytes)) = some (some .nilIface, 1, 16) := by kernel_rfl
theorem conc_num : Tryz.prog.concrete 131 = true := by kernel_rfl
theorem conc_text : Tryz.prog.concrete 132 = true := by kernel_rfl
theorem conc_truth : Tryz.prog.concrete 133 = true := by kernel_rfl
theorem conc_list : Tryz.prog.concrete 81 = true := by kernel_rfl
theorem truW_of {s : ByteArray} (h : s.data.toList = trueL ∨ s.data.toList = falseL) : truW (s.toList == [116, 114, 117, 101]) = s := by
  rcases h with h | h
  · rw [ls_yes (l := [116, 114, 117, 101]) h]; exact (strL h).symm
  · rw [ls_no (l := [116, 114, 117, 101]) (by rw [h]; decide)]; exact (strL h).symm
theorem VlS.iface {w : World} {S : Nat → Prop} {u : Value} {p : List Cl} (h : VlS w S [u] [p]) : ∃ T x, u = .iface T x := by
  cases h <;> exact ⟨_, _, rfl⟩
theorem made_nil (n : Nat) : (madeCells Value.nilIface.cells (n * 1)).toList = List.replicate n Value.nilIface := by
  have h : ∀ x : Nat, ([Value.nilIface][x % 1]?.getD default) = Value.nilIface := fun x => by rw [Nat.mod_one]; rfl
  simp only [madeCells, Value.cells]
  simp [h, List.map_const']
theorem sub_one {l : List Cl} {f : Nat} (h : f < l.length) : (l.drop f).take (f + 1 - f) = [l[f]] := by
  rw [List.drop_eq_getElem_cons h, show f + 1 - f = 1 by omega]; rfl

/-- What the loop over parts keeps. -/
def NInv (l : List Cl) (am : List Nat) (S : Nat → Prop) (w : World) (qs : List Nat) (f M k : Nat) (wr : World) : Prop :=
  ∃ (us : List Value) (ps : List (List Cl)) (g e0 : Nat), us.length = k ∧ VlS wr (fun b => w.heap.size ≤ b ∧ b ≠ M ∧ b < wr.heap.size) us ps ∧ ps.flatten = (l.drop (f + 1)).take (g - (f + 1)) ∧ f + 1 ≤ g ∧ TrS w am S (qs.take k) (f + 1) g e0 ∧
    wr.ownsRow w.heap.size 64 1 (.slice (some ⟨M, 0, none⟩) qs.length qs.length) qs.length (us ++ List.replicate (qs.length - k) .nilIface) ∧ Below w.heap.size w wr
theorem NInv.next {l : List Cl} {am : List Nat} {S : Nat → Prop} {w wr w1 : World} {qs : List Nat} {f M k g g' e1 : Nat} {us : List Value} {ps : List (List Cl)} {u : Value}
    (hk : k < qs.length) (hus : us.length = k) (hv : VlS wr (fun b => w.heap.size ≤ b ∧ b ≠ M ∧ b < wr.heap.size) us ps) (hp : ps.flatten = (l.drop (f + 1)).take (g - (f + 1))) (hfg : f + 1 ≤ g) (hgg : g ≤ g')
    (ht : TrS w am S (qs.take (k + 1)) (f + 1) g' e1) (ho : wr.ownsRow w.heap.size 64 1 (.slice (some ⟨M, 0, none⟩) qs.length qs.length) qs.length (us ++ List.replicate (qs.length - k) .nilIface)) (hb : Below w.heap.size w wr)
    (hb1 : Below wr.heap.size wr w1) (hu : VlS w1 (fun b => wr.heap.size ≤ b ∧ b < w1.heap.size) [u] [(l.drop g).take (g' - g)]) : NInv l am S w qs f M (k + 1) (w1.setCell ⟨M, k, none⟩ u) := by
  have hM := ho.lt M rfl
  have hsz : (w1.setCell ⟨M, k, none⟩ u).heap.size = w1.heap.size := by simp [World.setCell]
  have hs1 := hb1.size
  have hset : ∀ b, b ≠ M → (w1.setCell ⟨M, k, none⟩ u).heap[b]? = w1.heap[b]? := fun b hbn => Below.heap_setCell _ _ _ _ hbn
  have hbw := hb.size
  refine ⟨us ++ [u], ps ++ [(l.drop g).take (g' - g)], g', e1, by simp [hus], ?_, ?_, by omega, ht, ?_, ?_⟩
  · refine VlS.app (hv.keep ?_ ?_ (by rw [hsz]; omega)) (hu.keep ?_ ?_ (by rw [hsz]; omega))
    · rintro b ⟨h1, h2, h3⟩ -
      rw [hset b h2, hb1.block b h3]
    · rintro b ⟨h1, h2, h3⟩ -
      exact ⟨h1, h2, by rw [hsz]; omega⟩
    · rintro b ⟨h1, h2⟩ -
      rw [hset b (by omega)]
    · rintro b ⟨h1, h2⟩ -
      exact ⟨by omega, by omega, by rw [hsz]; omega⟩
  · rw [List.flatten_append, hp]
    simp only [List.flatten_cons, List.flatten_nil, List.append_nil]
    have : l.drop g = (l.drop (f + 1)).drop (g - (f + 1)) := by rw [List.drop_drop]; congr 1; omega
    rw [this, show g' - (f + 1) = (g - (f + 1)) + (g' - g) by omega, List.take_add]
  · have h1 := ((ho.kept (row := none) ⟨hb1.os, hb1.tape, hb1.output, hb1.size, fun i hi _ => hb1.block i hi⟩ (.inr (by simp [Value.ownBlock])))).stored k u
    have e : (us ++ List.replicate (qs.length - k) Value.nilIface).set k u = us ++ [u] ++ List.replicate (qs.length - (k + 1)) Value.nilIface := by
      rw [List.set_append_right _ _ (by omega), hus, Nat.sub_self, show qs.length - k = (qs.length - (k + 1)) + 1 by omega, List.replicate_succ, List.set_cons_zero, List.append_assoc]
      rfl
    rw [e] at h1
    exact h1.1
  · exact (hb.trans (hb1.mono hb.size)).setCell hM.1 _
theorem NInv.done {l : List Cl} {am : List Nat} {S : Nat → Prop} {w wr : World} {qs : List Nat} {f t M d : Nat} (h : NInv l am S w qs f M qs.length wr) (hx : Exs am qs.length (f + 1) t d) (hl : f < l.length) (h5 : l[f] = (5, ⟨#[]⟩, (qs.length : Int))) :
    NodeV l f t w (.returned (.iface 81 (.slice (some ⟨M, 0, none⟩) qs.length qs.length))) wr := by
  obtain ⟨us, ps, g, e0, hus, hv, hp, hfg, ht, ho, hb⟩ := h
  rw [List.take_of_length_le (Nat.le_refl _)] at ht
  obtain ⟨rfl, -⟩ := ht.exs.uniq hx
  have hM := ho.lt M rfl
  have hln := hv.len
  have e : (l.drop f).take (g - f) = listV ps := by
    rw [listV, hp, List.drop_eq_getElem_cons hl, show g - f = (g - (f + 1)) + 1 by omega, List.take_succ_cons, h5]
    congr 4; omega
  refine ⟨hb, _, rfl, ?_⟩
  rw [e]
  have hrep : us ++ List.replicate (qs.length - qs.length) Value.nilIface = us := by simp
  rw [hrep] at ho
  refine .list (us' := us) ?_ (hv.keep (fun _ _ _ => rfl) (fun b hb' _ => ⟨hb'.1, hb'.2.2⟩) (Nat.le_refl _)) .nil
  have hcm : qs.length ≤ maxLen := by
    rcases ho.2 with ⟨h1, _⟩ | ⟨g', cap, cur, h1, _, _, h3, h4, _⟩
    · cases h1
    · injection h1 with h1 h2 h5'; omega
  refine ⟨_, _, by rw [hus], by omega, hcm, .inr ⟨M, 0, rfl, ⟨hM.1, hM.2⟩, hM.2, fun k hk => ?_⟩⟩
  rw [Nat.zero_add, ho.cellAt k (by omega), List.getElem?_eq_getElem hk]

set_option maxRecDepth 100000 in
set_option maxHeartbeats 4000000 in
theorem nodeValue_any (v : Value) (l : List Cl) (h60 : l.length ≤ 60) (hok : l.all okVC = true) (S : Nat → Prop) (j : Nat) : ∀ (N f t d : Nat) (w : World), RowC w v l → TrS w (amL l) S [N] f t d → t - f ≤ j → Tab w →
    Calls Tryz.prog 83 #[v, .pointer (some ⟨N, 0, none⟩)] w (NodeV l f t w) := by
  induction j with
  | zero => intro N f t d w hr h hj; have := h.exs.le; simp at this; omega
  | succ j ih =>
    intro N f t d w hr h hj htab
    have HR := Lib.hid hr
    obtain ⟨m, e, v2, qs, hm, hS, hb, ho, hro, ht, rfl⟩ := h.inv
    have hle := ht.exs.le
    have htl : t ≤ (amL l).length := h.exs.le.2 (by simp)
    rw [amL_length] at htl
    have hql : qs.length = m := own_len ho
    subst hql
    have hNlt : N < w.heap.size := hb.lt
    have hlt : f < l.length := by omega
    obtain ⟨ao, cap, rfl, h1, h2, h3⟩ := hr
    obtain ⟨ao2, cap2, rfl, p1, p2, p3⟩ := own_ptr ho
    unfold maxLen at h2 p2
    obtain ⟨b, o, rfl, hbl, cc⟩ := h3.resolve_left (by rintro rfl; simp at hlt)
    obtain ⟨c0, c1, c2⟩ := cc f hlt
    have n0 : w.cell? ⟨N, 0, none⟩ = some (.int .i64 (f : Int)) := hb.cell 0
    have n2 : w.cell? ⟨N, 2, none⟩ = some (.slice ao2 qs.length cap2) := hb.cell 2
    have hvc : okVC l[f] = true := by rw [List.all_eq_true] at hok; exact hok _ (List.getElem_mem hlt)
    rw [amL_at l f hlt] at hm
    have hkd := okVC_kind hvc
    have hss : l[f].2.1.size ≤ 60 := okW_size (okVC_W hvc)
    have HLF := Lib.hid (show l[f] = (l[f].1, l[f].2.1, l[f].2.2) from rfl)
    have HSUB := Lib.hid (show t = f + 1 → (l.drop f).take (t - f) = [l[f]] from fun h => by subst h; exact sub_one hlt)
    have HMM := Lib.hid hm
    generalize l[f].1 = kk at c0 HLF hkd
    generalize l[f].2.1 = ss at c1 HLF hss
    generalize hmm : l[f].2.2 = mm at c2 HLF HMM
    rw [HLF.out] at hvc
    have HT := Lib.hid ht; have P3 := Lib.hid p3; have HO := Lib.hid ho
    have hlf : f + 1 ≤ t := by have := hle.1; omega
    have hleaf : mm = 0 → qs = [] ∧ t = f + 1 := by
      rintro rfl
      have h0 : qs.length = 0 := by have := HMM.out; simpa using this.symm
      have hq : qs = [] := List.length_eq_zero_iff.mp h0
      subst hq
      have := HT.out
      cases this
      exact ⟨rfl, rfl⟩
    clear hmm hm h3 cc p3 ho hro hb h ht
    rcases hkd with h1k | h2k | h3k | h5k
    · subst h1k
      rw [okVC_1, Bool.and_eq_true] at hvc
      obtain ⟨hrd, hmb⟩ := hvc
      obtain rfl : mm = 0 := by simpa [manyB] using hmb
      have HS1 := Lib.hid ((HSUB.out (hleaf rfl).2).trans (by rw [HLF.out]))
      have HRD := Lib.hid hrd
      have hnum := conc_num
      clear HSUB HLF hleaf hmb hrd HT P3 HO HMM
      go_enter Tryz.func83, Tryz.ntmps83
      go_wp2_with fail
      refine (readFraction_impl ss _ (by omega) (htab.al _)).mono ?_
      rintro e w1 ⟨rfl, hb1⟩
      have HB1 := Lib.hid (((Below.refl w.heap.size w).alloc (Nat.le_refl _) _).trans ((hb1.alloc hb1.size (.cells #[.int .i64 (rdT ss), .int .i64 (rdB ss)] 59)).mono (by simp))); clear hb1
      generalize hRT : rdT ss = RT at HB1 ⊢
      generalize hRB : rdB ss = RB at HB1 ⊢
      have HRT := Lib.hid hRT; have HRB := Lib.hid hRB; clear hRT hRB
      go_wp2
      go_ret
      refine ⟨HB1.out, _, rfl, ?_⟩
      rw [HS1.out, ← HRT.out, ← HRB.out]
      exact .num HRD.out .nil
    · subst h2k
      rw [okVC_2] at hvc
      obtain rfl : mm = 0 := by
        simp only [cellB, Bool.and_eq_true] at hvc
        simpa [manyB] using hvc.2
      have HS1 := Lib.hid ((HSUB.out (hleaf rfl).2).trans (by rw [HLF.out]))
      have HRD := Lib.hid (show okC (2, ss, 0) = true from hvc)
      have htxt := conc_text
      clear HSUB HLF hleaf hvc HT P3 HO HMM
      go_enter Tryz.func83, Tryz.ntmps83
      go_wp2
      go_ret
      refine ⟨(Below.refl w.heap.size w).alloc (Nat.le_refl _) _, _, rfl, ?_⟩
      rw [HS1.out]
      exact .text HRD.out .nil
    · subst h3k
      rw [okVC_3] at hvc
      obtain ⟨hw3, hm3⟩ : (ss.data.toList = trueL ∨ ss.data.toList = falseL) ∧ mm = 0 := by
        simp only [cellB, Bool.and_eq_true] at hvc
        refine ⟨?_, by simpa [manyB] using hvc.2⟩
        have := hvc.1
        simpa [wordB] using this
      subst hm3
      have HS1 := Lib.hid ((HSUB.out (hleaf rfl).2).trans (by rw [HLF.out]))
      have HTW := Lib.hid (truW_of hw3)
      have htru := conc_truth
      clear HSUB HLF hleaf hvc HT P3 HO HMM hw3
      go_enter Tryz.func83, Tryz.ntmps83
      go_wp2
      go_ret
      refine ⟨(Below.refl w.heap.size w).alloc (Nat.le_refl _) _, _, rfl, ?_⟩
      rw [HS1.out]
      have := VlS.truth (w := w.alloc (.cells #[.int .i64 3, .string ss, .int .i64 0] 27)) (S := fun b => w.heap.size ≤ b ∧ b < (w.alloc (.cells #[.int .i64 3, .string ss, .int .i64 0] 27)).heap.size) (b := ss.toList == [116, 114, 117, 101]) .nil
      rw [HTW.out] at this
      exact this
    · subst h5k
      rw [okVC_5] at hvc
      have hs0 : ss = ⟨#[]⟩ := by
        simp only [cellB, Bool.and_eq_true] at hvc
        have := hvc.1
        exact strL (l := []) (by simpa [wordB] using this)
      subst hs0
      have hmq : mm = (qs.length : Int) := by
        have h1 := many_bd 5 mm (by simp only [cellB, Bool.and_eq_true] at hvc; exact hvc.2)
        have h2 := HMM.out
        simp at h2; omega
      subst hmq
      have H5 := Lib.hid HLF.out
      have hlst := conc_list
      obtain ⟨i0, hi, hz0, hz1, hz2⟩ := info_parts infoV
      have hby : i0.bytes * qs.length ≤ 281474976710656 := by rw [hz2]; omega
      clear HSUB HLF hleaf hvc HMM hss
      have hB0 : Below w.heap.size w (w.alloc (.cells #[.int .i64 5, .string ⟨#[]⟩, .int .i64 (qs.length : Int)] 27)) := (Below.refl w.heap.size w).alloc (Nat.le_refl _) _
      have n2a : (w.alloc (.cells #[.int .i64 5, .string ⟨#[]⟩, .int .i64 (qs.length : Int)] 27)).cell? ⟨N, 2, none⟩ = some (.slice ao2 qs.length cap2) := (hB0.cell (p := ⟨N, 2, none⟩) hNlt).trans n2
      have HB0 := Lib.hid hB0; clear hB0
      go_enter Tryz.func83, Tryz.ntmps83
      go_wp2_with (at_make; refine wpList_make_full _ rfl _ _ 81 rfl w.heap.size 64 i0 .nilIface 1 Tryz.underlying81 hi hz0 hz1 .i64 .i64 (qs.length : Int) (qs.length : Int) qs.length rfl rfl rfl rfl hby (by unfold maxLen; omega) (by simp) ?_; intro w1 hown1 hgrow1; have n2b : w1.cell? ⟨N, 2, none⟩ = some (.slice ao2 qs.length cap2) := hgrow1.cell n2a (by simp))
      have HSTART := Lib.hid (show NInv l (amL l) S w qs f (w.heap.size + 1) 0 w1 from
        ⟨[], [], f + 1, 0, rfl, .nil, by simp, Nat.le_refl _, by rw [List.take_zero]; exact .nil _, by
          have e : (madeCells Value.nilIface.cells (qs.length * 1)).toList = List.replicate qs.length Value.nilIface := made_nil qs.length
          have h := hown1
          rw [e] at h
          simpa using h, HB0.out.grown hgrow1 (by simp) (by simp)⟩)
      have IH := Lib.hid ih; have H5L := Lib.hid (show l[f] = (5, ⟨#[]⟩, (qs.length : Int)) from H5.out)
      have hHB1 : w.heap.size + 1 ≤ w1.heap.size := by have := hgrow1.size; simp at this; omega
      clear hown1 hgrow1 ih hby
      go_wp2_with fail
      go_loopw [52] (fun i wr => ∃ k : Nat, k ≤ qs.length ∧ i = .int .i64 (k : Int) ∧ NInv l (amL l) S w qs f (w.heap.size + 1) k wr) (fun i _ => qs.length - (intOf i).toNat)
      case atStart => exact ⟨0, Nat.zero_le _, rfl, HSTART.out⟩
      case round =>
        obtain ⟨k, hk, rfl, hinv⟩ := hrel
        have HINV := Lib.hid hinv; clear hinv
        by_cases hlt2 : k < qs.length
        · obtain ⟨us, ps, g, e0, hus, hv, hp, hfg, htk, hown, hbw⟩ := HINV.out
          obtain ⟨b2, rfl, hbl2, cc2⟩ := P3.out.resolve_left (by rintro rfl; simp at hlt2)
          have d0 : wr.cell? ⟨b2, k, none⟩ = some (.pointer (some ⟨qs[k], 0, none⟩)) := (hbw.cell (p := ⟨b2, _, none⟩) hbl2).trans (cc2 k hlt2)
          obtain ⟨g1, g2, q0, q1, q2, j1, j2, j3, j4, -⟩ := HT.out.at k hlt2
          obtain ⟨rfl, -⟩ := htk.exs.uniq j1.exs
          have hx1 := j1.exs.le; have hx2 := j2.exs.le; have hx4 := j4.exs.le
          simp only [List.length_cons, List.length_nil] at hx2
          have hkeep := j2.keep (w' := wr) (S' := S) (fun b _ h => hbw.block b h) (fun b h _ => h)
          have HIK := Lib.hid (IH.out qs[k] g g2 q1 wr (HR.out.mono hbw) hkeep (by omega) (htab.keep hbw))
          have HNX := Lib.hid (fun w2 u hb1 hu => NInv.next (l := l) (am := amL l) (S := S) (w := w) (wr := wr) (w1 := w2) (u := u) hlt2 hus hv hp hfg (by omega) j3 hown hbw hb1 hu)
          have HOW := Lib.hid hown
          have hul : us.length + (qs.length - k) = qs.length := by omega
          clear cc2 hv hp htk hown j1 j2 j3 j4 hkeep HINV
          go_wp2_with fail
          refine HIK.out.mono ?_
          rintro e w2 ⟨hb2, u, rfl, hu⟩
          obtain ⟨T, x, rfl⟩ := hu.iface
          have HO2 := Lib.hid (HOW.out.kept (row := none) ⟨hb2.os, hb2.tape, hb2.output, hb2.size, fun i hi _ => hb2.block i hi⟩ (.inr (by simp [Value.ownBlock])))
          have HN2 := Lib.hid (HNX.out w2 _ hb2 hu)
          obtain ⟨u3, g3⟩ : ∃ u, w2.cell? ⟨w.heap.size + 1, k, none⟩ = some u := by
            rw [HO2.out.cellAt k (by omega), List.getElem?_eq_getElem (by have := HO2.out.1; omega)]; exact ⟨_, rfl⟩
          have z3 := HO2.out.frozenAt k
          clear hb2 hu
          go_wp2
          go_roundw
          case rel => exact ⟨k + 1, by omega, by go_num, HN2.out⟩
          case measure => simp [intOf]; omega
        · obtain rfl : k = qs.length := by omega
          have HD := Lib.hid (HINV.out.done HT.out.exs hlt H5L.out)
          go_wp2
          go_ret
          exact HD.out

/-- What readValue leaves. -/
def ReadV (l : List Cl) (w : World) (e : Ending) (w' : World) : Prop :=
  Below w.heap.size w w' ∧ ((∃ T x, e = .returned (.iface T x) ∧ okV l = true ∧ VlS w' (fun b => w.heap.size ≤ b ∧ b < w'.heap.size) [.iface T x] [l]) ∨ (e = .returned .nilIface ∧ okV l = false))

set_option maxRecDepth 100000 in
set_option maxHeartbeats 4000000 in
theorem readValue_any (v : Value) (l : List Cl) (w : World) (hr : RowC w v l) (hz : ShortC l) (htab : Tab w) :
    Calls Tryz.prog 51 #[v] w (ReadV l w) := by
  have HR := Lib.hid hr
  have HC := Lib.hid (valueTree_any v l w hr hz htab)
  obtain ⟨ao, cap, rfl, h1, h2, h3⟩ := hr
  unfold maxLen at h2
  clear h3 hz
  go_enter Tryz.func51, Tryz.ntmps51
  go_wp2_with fail
  refine HC.out.mono ?_
  rintro e w1 ⟨hb1, ⟨N, d, rfl, hok, hd, ht⟩ | ⟨rfl, hno⟩⟩
  · have hi := (okP_iff l).mp hok
    rw [okP_V] at hok
    have HOK := Lib.hid hok; have HB := Lib.hid hb1; have HT := Lib.hid ht; have HAL := Lib.hid hi.2.1
    have h60 := hi.1
    clear hok hb1 ht hi
    go_wp2_with fail
    refine (nodeValue_any _ l h60 HAL.out _ l.length N 0 l.length d _ (HR.out.mono HB.out) HT.out (by omega) (htab.keep HB.out)).mono ?_
    rintro e w2 ⟨hb2, u, rfl, hu⟩
    have HB2 := Lib.hid (HB.out.trans (hb2.mono HB.out.size))
    obtain ⟨T, x, rfl⟩ := hu.iface
    have HU := Lib.hid (show VlS w2 (fun b => w.heap.size ≤ b ∧ b < w2.heap.size) [.iface T x] [l] by
      have := hu.keep (w' := w2) (S' := fun b => w.heap.size ≤ b ∧ b < w2.heap.size) (fun _ _ _ => rfl) (fun b hb _ => ⟨by have := HB.out.size; omega, hb.2⟩) (Nat.le_refl _)
      simpa using this)
    clear hb2 hu
    go_wp2
    go_ret
    exact ⟨HB2.out, .inl ⟨T, x, rfl, HOK.out, HU.out⟩⟩
  · rw [okP_V] at hno
    have HOK := Lib.hid hno; have HB := Lib.hid hb1
    clear hno hb1
    go_wp2
    go_ret
    exact ⟨HB.out, .inr ⟨rfl, HOK.out⟩⟩

end Go.Proofs.YtbnchmlapimmdaaGreatDoor
