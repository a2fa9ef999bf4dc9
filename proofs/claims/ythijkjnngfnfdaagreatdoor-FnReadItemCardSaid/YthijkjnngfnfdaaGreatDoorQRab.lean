/-
  Part of the proof of FnReadItem.
-/
import Derived.Test.YthijkjnngfnfdaaGreatDoorQRaa
import Derived.Deep.RegionWith
import Derived.Deep.RegionHeld3
set_option linter.unusedVariables false
set_option maxHeartbeats 4000000
set_option maxRecDepth 100000
namespace Go.Proofs.YthijkjnngfnfdaaGreatDoor
open Go.RowKit
theorem xv (k m:Int) (s:ByteArray) (w:World):
  Calls Tryz.prog 161 #[.agg #[.int .i64 k, .string s, .int .i64 m]] w fun e w'=>e= .returned (.int .i64 (rkC (k,s,m)))∧Below w.heap.size w w':=by
 by_cases h9:k=9
 ·subst h9
  have hr:rkC (9,s,m)=1:=rfl;rw [hr];clear hr
  go_enter Tryz.func161,Tryz.ntmps161
  go_wp2;go_ret;exact ⟨rfl,(Below.refl _ _).alloc (ain _) _⟩
 by_cases h8:k=8
 ·subst h8
  have hr:rkC (8,s,m)=aj s.data.toList:=rfl;rw [hr];have HC:=aim (fun w'=>fV s w');generalize aj s.data.toList=q at HC;clear hr
  go_enter Tryz.func161,Tryz.ntmps161
  go_wp2_with fail;refine (HC.out _).mono ?_;rintro e w1 ⟨rfl,rfl⟩;go_wp2;go_ret;exact ⟨rfl,(Below.refl _ _).alloc (ain _) _⟩
 by_cases h7:k=7
 ·subst h7
  have hr:rkC (7,s,m)=7:=rfl;rw [hr];clear hr
  go_enter Tryz.func161,Tryz.ntmps161
  go_wp2;go_ret;exact ⟨rfl,(Below.refl _ _).alloc (ain _) _⟩
 ·have hr:rkC (k,s,m)=8:=by simp [rkC,h9,h8,h7]
  rw [hr];have n9:(k==9)=false:=beq_eq_false_iff_ne.mpr h9;have n8:(k==8)=false:=beq_eq_false_iff_ne.mpr h8;have n7:(k==7)=false:=beq_eq_false_iff_ne.mpr h7;clear hr h9 h8 h7
  go_enter Tryz.func161,Tryz.ntmps161
  go_wp2;go_ret;exact ⟨rfl,(Below.refl _ _).alloc (ain _) _⟩
theorem iN {l:List Cl} (hok:l.all okW=true) {m f t:Nat} {ks:List Pt} (hX:Tx l m f t ks) (k:Nat) (hk:k<m):
  ∃g g' x,eo ks k=x∧ks[k]? =some x∧Tx l 1 g g' [x]∧(ga (amL l) f m)[k]? =some g∧Tx l k f g (ks.take k)∧f≤g∧g<g'∧g'≤t∧x.2.length+8≤200*(g'-g)∧1≤x.1:=by
 obtain ⟨g1,g2,x,x1,x2,x3,x4,x5⟩:=hX.at k hk;obtain ⟨_,hx⟩:=x2.exs;obtain ⟨_,hy⟩:=x3.exs;obtain ⟨_,hz⟩:=x4.exs;have l1:=hx.le;have l2:=hy.le;have l3:=hz.le;have h1:=(x3.shortW hok).1;simp only [gV] at h1;exact ⟨g1,g2,x,by rw [eo,List.getD_eq_getElem?_getD,x1];rfl,x1,x3,x5,x2,by omega,by omega,by omega,by omega,(x3.rkW hok x (by simp)).1⟩
theorem kr {w:World} {bo:Option Addr} {L:List Nat} (h:L=[]∨ ∃b,bo=some ⟨b,0,none⟩∧b<w.heap.size∧ ∀k (h:k<L.length),w.cell? ⟨b,k,none⟩=some (.int .i64 (L[k]:Int))) (hl:0<L.length):
  ∃b,bo=some ⟨b,0,none⟩∧b<w.heap.size∧ ∀(k g:Nat),L[k]? =some g→w.cell? ⟨b,k,none⟩=some (.int .i64 (g:Int)):=by
 obtain ⟨b,hb,hlt,hc⟩:=h.resolve_left (by rintro rfl;simp at hl);refine ⟨b,hb,hlt,fun k g hg=> ?_⟩;obtain ⟨hk,he⟩:=List.getElem?_eq_some_iff.mp hg;rw [hc k hk,he]
def CpS (w:World) (g:Nat) (k:Int) (s:ByteArray) (m:Int):Prop:=g<w.heap.size∧w.cell? ⟨g,0,none⟩=some (.int .i64 k)∧w.cell? ⟨g,1,none⟩=some (.string s)∧w.cell? ⟨g,2,none⟩=some (.int .i64 m)
theorem CpS.keep {w w':World} {g:Nat} {k m:Int} {s:ByteArray} (h:CpS w g k s m) (hb:Below w.heap.size w w'):CpS w' g k s m:=by
 obtain ⟨h0,h1,h2,h3⟩:=h;exact ⟨Nat.lt_of_lt_of_le h0 hb.size,(hb.cell (p:=⟨g,0,none⟩) h0).trans h1,(hb.cell (p:=⟨g,1,none⟩) h0).trans h2,(hb.cell (p:=⟨g,2,none⟩) h0).trans h3⟩
theorem CpS.new (w:World) (k:Int) (s:ByteArray) (m:Int):CpS (w.alloc (.cells #[.int .i64 k, .string s, .int .i64 m] 120)) w.heap.size k s m:=by
 have h:=heap_alloc_new w (.cells #[.int .i64 k, .string s, .int .i64 m] 120)
 refine ⟨by simp, ?_, ?_, ?_⟩<;>(rw [cell_of_row _ _ _ _ _ (0,0) h];rfl)
def sW (v:Value) (l:List Cl) (j:Nat):Prop:= ∀(f t:Nat) (x:Pt) (w:World),Tx l 1 f t [x]→t-f≤j→RowC w v l→
 Calls Tryz.prog 89 #[v, .int .i64 (f:Int)] w fun e w'=>e= .returned (.string ⟨x.2.toArray⟩)∧Below w.heap.size w w'
def adf (v:Value) (l:List Cl) (j:Nat):Prop:= ∀(f t:Nat) (x:Pt) (r:Int) (w:World),Tx l 1 f t [x]→t-f≤j→RowC w v l→
 Calls Tryz.prog 132 #[v, .int .i64 (f:Int), .int .i64 r] w fun e w'=>e= .returned (.string ⟨(dE r x).toArray⟩)∧Below w.heap.size w w'
theorem aaG {v:Value} {l:List Cl} {j:Nat} (h60:l.length≤60) (hok:l.all okW=true) (ih:sW v l j):adf v l j:=by
 intro f t x r w hX hj hr;obtain ⟨⟨k,s,m⟩,ks,hc,hks,rfl⟩:=hX.inv;have hsh:=(hX.shortW hok).1;simp only [gV] at hsh;obtain ⟨hfl,he⟩:=List.getElem?_eq_some_iff.mp hc;have HX:=aim hX;have HR:=aim hr;have IH:=aim (fun w'=>ih f t _ w' hX hj);obtain ⟨ao,cap,rfl,h1,h2,h3⟩:=hr;unfold maxLen at h2;obtain ⟨b,o,rfl,hbl,cc⟩:=h3.resolve_left (by rintro rfl;simp at hfl);obtain ⟨c0,c1,c2⟩:=cc f hfl;rw [he] at c0 c1 c2;simp only at c0 c1 c2;have HK:=aim (fun w'=>xv k m s w');have HP:=aim (show dE r (rkC (k,s,m),bY (k,s,m) ks)=if rkC (k,s,m)<r then 40::(bY (k,s,m) ks++[41]) else bY (k,s,m) ks from rfl);generalize rkC (k,s,m)=rk at HK HP IH;generalize bY (k,s,m) ks=bt at HP IH hsh;have HC0:=aim c0;have HC1:=aim c1;have HC2:=aim c2;have hbs:(⟨bt.toArray⟩:ByteArray).size=bt.length:=rfl;generalize hSS:(⟨bt.toArray⟩:ByteArray)=S0 at IH hbs;have HSS:=aim hSS;clear cc h3 hc hks hX ih he c0 c1 c2 hSS
 have hle:t-f≤60:=by
  obtain ⟨_,h⟩:=HX.out.exs;have:=h.le.2 (by omega);rw [di] at this;omega
 have r1: ¬9223372036854775807<1+S0.size:=by omega
 have r2: ¬9223372036854775807<1+S0.size+1:=by omega
 go_enter Tryz.func132,Tryz.ntmps132
 go_wp2_with fail;refine (IH.out _ HR.out).mono ?_;rintro e w1 ⟨rfl,hb1⟩;have d0:=(hb1.cell (p:=⟨b,_,none⟩) hbl).trans HC0.out;have d1:=(hb1.cell (p:=⟨b,_,none⟩) hbl).trans HC1.out;have d2:=(hb1.cell (p:=⟨b,_,none⟩) hbl).trans HC2.out;have HB1:=aim hb1;clear hb1;go_wp2_with fail;refine (HK.out _).mono ?_;rintro e w2 ⟨rfl,hb2⟩;have HB2:=aim (HB1.out.trans (hb2.mono HB1.out.size));clear hb2 d0 d1 d2
 by_cases hlt:rk<r
 ·have HP2:=aim (HP.out.trans (if_pos hlt))
  go_wp2;go_ret;refine ⟨?_,HB2.out⟩;rw [HP2.out,←HSS.out];exact congrArg Ending.returned (congrArg Value.string (eI (by simp)))
 ·have HP2:=aim (HP.out.trans (if_neg hlt))
  go_wp2;go_ret;exact ⟨by rw [HP2.out,HSS.out];rfl,HB2.out⟩
theorem aaH {v : Value} {l : List Cl} {j : Nat} (h60 : l.length ≤ 60) (hok : l.all okW = true) (ih : sW v l j) (ihp : adf v l j) : sW v l (j + 1) := by
  intro f t x w hX hj hr;obtain ⟨⟨k, s, m⟩, ks, hc, hks, rfl⟩ := hX.inv;have hsh := (hks.shortW hok).1;obtain ⟨hfl, he⟩ := List.getElem?_eq_some_iff.mp hc
  have hokc : okW (k, s, m) = true := by rw [← he]; exact tG hok f hfl
  have hwl : s.size ≤ 60 := ae2 hokc;have hsl := bG s;obtain ⟨dk, hxk⟩ := hks.exs;have HKI := aim (fun w' hr' => pT v l f m.toNat t dk w' hr' h60 (ae3 hok) (qB hc) hxk)
  have hle : t - (f + 1) ≤ 60 := by
    obtain ⟨_, h⟩ := hX.exs;have := h.le.2 (by omega); rw [di] at this; omega
  have HIH := aim ih; have HIP := aim ihp; have HR := aim hr; have HX := aim hks; have HOK := aim hokc;obtain ⟨ao, cap, rfl, h1, h2, h3⟩ := hr;unfold maxLen at h2;obtain ⟨b, o, rfl, hbl, cc⟩ := h3.resolve_left (by rintro rfl; simp at hfl);obtain ⟨c0, c1, c2⟩ := cc f hfl;rw [he] at c0 c1 c2;simp only at c0 c1 c2
  have e2 : ¬ b = w.heap.size := by omega
  clear cc h3 hc hks hX ih ihp he hxk hokc
  go_enter Tryz.func89, Tryz.ntmps89
  have HCP := aim (CpS.new w k s m);have hbA := (Below.refl w.heap.size w).alloc (ain _) (.cells #[.int .i64 k, .string s, .int .i64 m] 120);have HBA := aim hbA;go_wp2_with fail;refine (HKI.out _ (HR.out.mono HBA.out)).mono ?_;rintro e1 w1 ⟨v1, rfl, hown1, hb1⟩;obtain ⟨hri, hrl⟩ := RowI.of_own hown1;have hLm : (ga (amL l) (f + 1) m.toNat).length = m.toNat := jS _ _ _;have HB1 := aim (HBA.out.trans (hb1.mono HBA.out.size));have HCP1 := aim (HCP.out.keep hb1);have HR1 := aim (HR.out.mono HB1.out);generalize hL : ga (amL l) (f + 1) m.toNat = L at hri hLm;have HL := aim hL; clear hL;obtain ⟨bo, cp, rfl, g1, g2, g3⟩ := hri;rw [hLm] at g1;rw [hLm];unfold maxLen at g2;have HG3 := aim g3;clear g3 hb1 hbA hown1 hrl HCP HBA c0 c1 c2 e2;have HRD := aim (show RowC w1.drew (.slice (some ⟨b, o, none⟩) l.length cap) l from HR1.out);generalize w.heap.size = CG at HCP1;obtain ⟨-, k0, k1, k2⟩ := HCP1.out
  by_cases h2 : k = 2
  · subst h2
    have HT := aim (show aT s = true by have := qz HOK.out (by decide); simp only [okC, aQ, aJ, Bool.and_eq_true] at this; have := this.1; simp at this; exact this.1);have HE := aim (show bY (2, s, m) ks = bB s.data.toList from rfl);have HQ := aim (show (cX s) = ⟨(bB s.data.toList).toArray⟩ by rw [cX, if_pos HT.out]);go_wp2_with fail;refine (im s _ (by unfold maxLen; omega)).mono ?_;rintro e w2 ⟨rfl, rfl⟩;go_wp2;go_ret;exact ⟨by rw [HE.out, ← HQ.out]; rfl, HB1.out⟩
  by_cases h7 : k = 7
  · subst h7
    have hm1 : m = 1 := by
      have := qz HOK.out (by decide);simp only [okC, aQ, bg, Bool.and_eq_true] at this
      simpa using this.2
    subst hm1;obtain ⟨g0, g0', x0, y0, -, z0, u0, -, b0, b0', b0'', s0, -⟩ := iN hok HX.out 0 (by decide);have HE := aim (show bY (7, s, 1) ks = s.data.toList ++ dE 7 x0 by rw [← y0]; rfl);obtain ⟨bk, rfl, hbk, hck⟩ := kr HG3.out (by rw [hLm]; decide);have q0 := hck 0 g0 (by rw [← HL.out]; exact u0);have HPC := aim (fun w' hr' => HIP.out g0 g0' x0 7 w' z0 (by omega) hr');have hpl := dY 7 x0;have hbs : (⟨(dE 7 x0).toArray⟩ : ByteArray).size = (dE 7 x0).length := rfl;generalize hSS : (⟨(dE 7 x0).toArray⟩ : ByteArray) = S0 at HPC hbs;have HSS := aim hSS;have hcg := HCP1.out.1
    have r1 : ¬ 9223372036854775807 < s.size + S0.size := by omega
    clear h2 y0 z0 u0 hck hSS HCP1 hbs;go_wp2_with fail
    go_region_held3 (fun w' => w'.cell? ⟨CG, 1, none⟩ = some (.string s) ∧ w'.cell? ⟨bk, 0, none⟩ = some (.int .i64 (g0 : Int)))
      (first
        | go_keep
        | (go_split_ands
           refine ⟨?_, ?_⟩
           · (rw [hb2.cell (by exact hcg)]; assumption)
           · (rw [hb2.cell (by exact hbk)]; assumption)))
      ((go_at_call 132; refine (HPC.out _ HRD.out).mono ?_; rintro e w2 ⟨rfl, hb2⟩))
    all_goals
      have HB2 := aim (HB1.out.drew.trans (hb2.mono HB1.out.size)); clear hb2;go_wp2;go_ret;refine ⟨?_, HB2.out⟩;rw [HE.out, ← HSS.out];exact congrArg Ending.returned (congrArg Value.string (eI (by simp)))
  by_cases h8 : k = 8
  · subst h8
    have hm2 : m = 2 := by
      have := qz HOK.out (by decide);simp only [okC, aQ, bg, Bool.and_eq_true] at this
      simpa using this.2
    subst hm2
    have hr2 : 2 ≤ aj s.data.toList ∧ aj s.data.toList ≤ 6 := by
      refine nr _ ?_;have := qz HOK.out (by decide);simp only [okC, aQ, aJ, Bool.and_eq_true] at this; simpa using this.1
    obtain ⟨g0, g0', x0, y0, -, z0, u0, -, b0, b0', b0'', s0, -⟩ := iN hok HX.out 0 (by decide);obtain ⟨g1, g1', x1, y1, -, z1, u1, -, b1, b1', b1'', s1, -⟩ := iN hok HX.out 1 (by decide);have HE := aim (show bY (8, s, 2) ks = dE (df (aj s.data.toList)) x0 ++ ([32] ++ s.data.toList ++ [32]) ++ dE (aj s.data.toList + 1) x1 by rw [← y0, ← y1]; rfl);have HBIN := aim (fun w' => fV s w');generalize aj s.data.toList = rk at HE HBIN hr2;obtain ⟨bk, rfl, hbk, hck⟩ := kr HG3.out (by rw [hLm]; decide);have q0 := hck 0 g0 (by rw [← HL.out]; exact u0);have q1 := hck 1 g1 (by rw [← HL.out]; exact u1);have HPC0 := aim (fun w' hr' => HIP.out g0 g0' x0 (df rk) w' z0 (by omega) hr');have HPC1 := aim (fun w' hr' => HIP.out g1 g1' x1 (rk + 1) w' z1 (by omega) hr');have hpl0 := dY (df rk) x0;have hpl1 := dY (rk + 1) x1;have hbs0 : (⟨(dE (df rk) x0).toArray⟩ : ByteArray).size = (dE (df rk) x0).length := rfl;have hbs1 : (⟨(dE (rk + 1) x1).toArray⟩ : ByteArray).size = (dE (rk + 1) x1).length := rfl;generalize hSS0 : (⟨(dE (df rk) x0).toArray⟩ : ByteArray) = S0 at HPC0 hbs0;generalize hSS1 : (⟨(dE (rk + 1) x1).toArray⟩ : ByteArray) = S1 at HPC1 hbs1;have HSS0 := aim hSS0; have HSS1 := aim hSS1;have hcg := HCP1.out.1
    have hS0 : S0.size ≤ 12010 := by omega
    have hS1 : S1.size ≤ 12010 := by omega
    have r1 : ¬ 9223372036854775807 < S0.size + 1 := by omega
    have r2 : ¬ 9223372036854775807 < S0.size + 1 + s.size := by omega
    have r3 : ¬ 9223372036854775807 < S0.size + 1 + s.size + 1 := by omega
    have r4 : ¬ 9223372036854775807 < S0.size + 1 + s.size + 1 + S1.size := by omega
    have hwr : IntKind.i64.wrap (rk + 1) = rk + 1 := IntWalk.i64_in _ (by omega)
    have hw5 : IntKind.i64.wrap 5 = 5 := by decide
    clear h2 h7 y0 z0 u0 y1 z1 u1 hck hSS0 hSS1 HCP1 hbs0 hbs1
    by_cases h4 : rk = 4
    · subst h4
      rw [show df 4 = 5 from rfl] at HPC0;rw [show (4 : Int) + 1 = 5 from rfl] at HPC1;clear hwr;go_wp2_with fail;refine (HBIN.out _).mono ?_;rintro e w' ⟨rfl, rfl⟩;go_wp2_with fail
      go_region_held3 (fun w' => w'.cell? ⟨CG, 1, none⟩ = some (.string s) ∧ w'.cell? ⟨bk, 0, none⟩ = some (.int .i64 (g0 : Int)) ∧ w'.cell? ⟨bk, 1, none⟩ = some (.int .i64 (g1 : Int)))
        (first
          | go_keep
          | (go_split_ands
             refine ⟨?_, ?_, ?_⟩
             · (first | (rw [hb3.cell (by first | exact hcg | exact hcg2 | exact hcg3)]; assumption) | (rw [hb2.cell (by first | exact hcg | exact hcg2 | exact hcg3)]; assumption))
             · (first | (rw [hb3.cell (by first | exact hbk | exact hbk2 | exact hbk3)]; assumption) | (rw [hb2.cell (by first | exact hbk | exact hbk2 | exact hbk3)]; assumption))
             · (first | (rw [hb3.cell (by first | exact hbk | exact hbk2 | exact hbk3)]; assumption) | (rw [hb2.cell (by first | exact hbk | exact hbk2 | exact hbk3)]; assumption))))
        (first
          | ((go_at_call 132; (with_reducible refine (HPC0.out _ HRD.out).mono ?_); rintro e w2 ⟨rfl, hb2⟩; have hcg2 := Nat.lt_of_lt_of_le hcg hb2.size; have hbk2 := Nat.lt_of_lt_of_le hbk hb2.size))
          | ((go_at_call 132; (with_reducible refine (HPC1.out _ (HRD.out.mono hb2)).mono ?_); rintro e w3 ⟨rfl, hb3⟩)))
      all_goals
        have HB2 := aim (HB1.out.drew.trans (hb2.mono HB1.out.size));have HB3 := aim (HB2.out.trans (hb3.mono HB2.out.size)); clear hb2 hb3;go_wp2;go_ret;refine ⟨?_, HB3.out⟩;rw [HE.out, ← HSS0.out, ← HSS1.out];exact congrArg Ending.returned (congrArg Value.string (eI (by simp)))
    · have h4' : (rk == 4) = false := beq_eq_false_iff_ne.mpr h4
      have hlr : df rk = rk := by rw [df, if_neg h4]
      rw [hlr] at HPC0;go_wp2_with fail;refine (HBIN.out _).mono ?_;rintro e w' ⟨rfl, rfl⟩;go_wp2_with fail
      go_region_held3 (fun w' => w'.cell? ⟨CG, 1, none⟩ = some (.string s) ∧ w'.cell? ⟨bk, 0, none⟩ = some (.int .i64 (g0 : Int)) ∧ w'.cell? ⟨bk, 1, none⟩ = some (.int .i64 (g1 : Int)))
        (first
          | go_keep
          | (go_split_ands
             refine ⟨?_, ?_, ?_⟩
             · (first | (rw [hb3.cell (by first | exact hcg | exact hcg2 | exact hcg3)]; assumption) | (rw [hb2.cell (by first | exact hcg | exact hcg2 | exact hcg3)]; assumption))
             · (first | (rw [hb3.cell (by first | exact hbk | exact hbk2 | exact hbk3)]; assumption) | (rw [hb2.cell (by first | exact hbk | exact hbk2 | exact hbk3)]; assumption))
             · (first | (rw [hb3.cell (by first | exact hbk | exact hbk2 | exact hbk3)]; assumption) | (rw [hb2.cell (by first | exact hbk | exact hbk2 | exact hbk3)]; assumption))))
        (first
          | ((go_at_call 132; (with_reducible refine (HPC0.out _ HRD.out).mono ?_); rintro e w2 ⟨rfl, hb2⟩; have hcg2 := Nat.lt_of_lt_of_le hcg hb2.size; have hbk2 := Nat.lt_of_lt_of_le hbk hb2.size))
          | ((go_at_call 132; (with_reducible refine (HPC1.out _ (HRD.out.mono hb2)).mono ?_); rintro e w3 ⟨rfl, hb3⟩)))
      all_goals
        have HB2 := aim (HB1.out.drew.trans (hb2.mono HB1.out.size));have HB3 := aim (HB2.out.trans (hb3.mono HB2.out.size)); clear hb2 hb3;go_wp2;go_ret;refine ⟨?_, HB3.out⟩;rw [HE.out, ← HSS0.out, ← HSS1.out];exact congrArg Ending.returned (congrArg Value.string (eI (by simp)))
  by_cases h9 : k = 9
  · subst h9
    have hm3 : m = 3 := by
      have := qz HOK.out (by decide);simp only [okC, aQ, bg, Bool.and_eq_true] at this
      simpa using this.2
    subst hm3;obtain ⟨g0, g0', x0, y0, -, z0, u0, -, b0, b0', b0'', s0, -⟩ := iN hok HX.out 0 (by decide);obtain ⟨g1, g1', x1, y1, -, z1, u1, -, b1, b1', b1'', s1, -⟩ := iN hok HX.out 1 (by decide);obtain ⟨g2, g2', x2, y2, -, z2, u2, -, b2, b2', b2'', s2, -⟩ := iN hok HX.out 2 (by decide);have HE := aim (show bY (9, s, 3) ks = dE 2 x0 ++ [32, 63, 32] ++ x1.2 ++ [32, 58, 32] ++ x2.2 by rw [← y0, ← y1, ← y2]; rfl);obtain ⟨bk, rfl, hbk, hck⟩ := kr HG3.out (by rw [hLm]; decide);have q0 := hck 0 g0 (by rw [← HL.out]; exact u0);have q1 := hck 1 g1 (by rw [← HL.out]; exact u1);have q2 := hck 2 g2 (by rw [← HL.out]; exact u2);have HPC0 := aim (fun w' hr' => HIP.out g0 g0' x0 2 w' z0 (by omega) hr');have HPC1 := aim (fun w' hr' => HIH.out g1 g1' x1 w' z1 (by omega) hr');have HPC2 := aim (fun w' hr' => HIH.out g2 g2' x2 w' z2 (by omega) hr');have hpl0 := dY 2 x0;have hbs0 : (⟨(dE 2 x0).toArray⟩ : ByteArray).size = (dE 2 x0).length := rfl;have hbs1 : (⟨x1.2.toArray⟩ : ByteArray).size = x1.2.length := rfl;have hbs2 : (⟨x2.2.toArray⟩ : ByteArray).size = x2.2.length := rfl;generalize hSS0 : (⟨(dE 2 x0).toArray⟩ : ByteArray) = S0 at HPC0 hbs0;generalize hSS1 : (⟨x1.2.toArray⟩ : ByteArray) = S1 at HPC1 hbs1;generalize hSS2 : (⟨x2.2.toArray⟩ : ByteArray) = S2 at HPC2 hbs2;have HSS0 := aim hSS0; have HSS1 := aim hSS1; have HSS2 := aim hSS2;have hcg := HCP1.out.1
    have hS0 : S0.size ≤ 12010 := by omega
    have hS1 : S1.size ≤ 12010 := by omega
    have hS2 : S2.size ≤ 12010 := by omega
    have r1 : ¬ 9223372036854775807 < S0.size + 3 := by omega
    have r2 : ¬ 9223372036854775807 < S0.size + 3 + S1.size := by omega
    have r3 : ¬ 9223372036854775807 < S0.size + 3 + S1.size + 3 := by omega
    have r4 : ¬ 9223372036854775807 < S0.size + 3 + S1.size + 3 + S2.size := by omega
    clear h2 h7 h8 y0 z0 u0 y1 z1 u1 y2 z2 u2 hck hSS0 hSS1 hSS2 HCP1 hbs0 hbs1 hbs2;go_wp2_with fail
    go_region_held3 (fun w' => w'.cell? ⟨bk, 0, none⟩ = some (.int .i64 (g0 : Int)) ∧ w'.cell? ⟨bk, 1, none⟩ = some (.int .i64 (g1 : Int)) ∧ w'.cell? ⟨bk, 2, none⟩ = some (.int .i64 (g2 : Int)))
      (first
        | go_keep
        | (go_split_ands
           refine ⟨?_, ?_, ?_⟩
           · (first | (rw [hb4.cell (by exact hbk3)]; assumption) | (rw [hb3.cell (by exact hbk2)]; assumption) | (rw [hb2.cell (by exact hbk)]; assumption))
           · (first | (rw [hb4.cell (by exact hbk3)]; assumption) | (rw [hb3.cell (by exact hbk2)]; assumption) | (rw [hb2.cell (by exact hbk)]; assumption))
           · (first | (rw [hb4.cell (by exact hbk3)]; assumption) | (rw [hb3.cell (by exact hbk2)]; assumption) | (rw [hb2.cell (by exact hbk)]; assumption))))
      (first
        | ((go_at_call 132; (with_reducible refine (HPC0.out _ HRD.out).mono ?_); rintro e w2 ⟨rfl, hb2⟩; have hbk2 := Nat.lt_of_lt_of_le hbk hb2.size))
        | ((go_at_call 89; (with_reducible refine (HPC1.out _ (HRD.out.mono hb2)).mono ?_); rintro e w3 ⟨rfl, hb3⟩; have hbk3 := Nat.lt_of_lt_of_le hbk2 hb3.size))
        | ((go_at_call 89; (with_reducible refine (HPC2.out _ ((HRD.out.mono hb2).mono hb3)).mono ?_); rintro e w4 ⟨rfl, hb4⟩)))
    all_goals
      have HB2 := aim (HB1.out.drew.trans (hb2.mono HB1.out.size));have HB3 := aim (HB2.out.trans (hb3.mono HB2.out.size));have HB4 := aim (HB3.out.trans (hb4.mono HB3.out.size)); clear hb2 hb3 hb4;go_wp2;go_ret;refine ⟨?_, HB4.out⟩;rw [HE.out, ← HSS0.out, ← HSS1.out, ← HSS2.out];exact congrArg Ending.returned (congrArg Value.string (eI (by simp)))
  by_cases h56 : k = 5 ∨ k = 6
  · have hk56 : (k == 5 || k == 6) = true := by rcases h56 with rfl | rfl <;> rfl
    have q2 : (k == 2) = false := beq_eq_false_iff_ne.mpr h2;have q7 : (k == 7) = false := beq_eq_false_iff_ne.mpr h7;have q8 : (k == 8) = false := beq_eq_false_iff_ne.mpr h8;have q9 : (k == 9) = false := beq_eq_false_iff_ne.mpr h9
    rcases h56 with rfl | rfl
    · have HE := aim (show bY (5, s, m) ks = 91 :: (dq ks ++ [93]) from rfl)
      clear h2 h7 h8 h9 q2 q7 q8 q9 hk56;generalize m.toNat = M at hLm g1 HX HL ⊢;go_wp2_with fail
      go_loopw [9, 10] (fun ou i wr => ∃ (k g : Nat) (O : ByteArray), k ≤ M ∧ i = .int .i64 (k : Int) ∧ ou = .string O ∧ O.data.toList = dq (ks.take k) ∧ Tx l k (f + 1) g (ks.take k) ∧ Below w1.heap.size w1 wr) (fun _ i _ => M - (intOf i).toNat)
      case atStart => exact ⟨0, f + 1, ⟨#[]⟩, air _, rfl, rfl, rfl, .nil _, Below.refl _ _⟩
      case round =>
        obtain ⟨k, g, O0, hk, rfl, rfl, hO, hXk, hBr⟩ := hrel;have HBr := aim hBr; have HXK := aim hXk; have HO := aim hO
        have hOs : O0.size ≤ 12000 := by
          have h1 := su ks k; have h2 := lM (ks.take k);rw [← bG, hO]; omega
        obtain ⟨-, kk0, kk1, kk2⟩ := HCP1.out.keep HBr.out
        by_cases hlt : k < M
        · obtain ⟨g0, g0', x0, y0, v0, z0, u0, t0, b0, b0', b0'', s0, -⟩ := iN hok HX.out k hlt
          obtain ⟨rfl, -⟩ := hXk.uniq t0;obtain ⟨bk, rfl, hbk, hck⟩ := kr HG3.out (by rw [hLm]; omega);have q0 : wr.cell? ⟨bk, k, none⟩ = some (.int .i64 (g : Int)) := (HBr.out.cell (p := ⟨bk, k, none⟩) hbk).trans (hck k g (by rw [← HL.out]; exact u0));have HPC := aim (HIH.out g g0' x0 wr z0 (by omega) (HR1.out.mono HBr.out));have HX2 := aim (hXk.snoc v0 z0);have HN := aim (mD ks k x0 v0);have hbs : (⟨x0.2.toArray⟩ : ByteArray).size = x0.2.length := rfl;generalize hSS : (⟨x0.2.toArray⟩ : ByteArray) = S0 at HPC hbs;have HSS := aim (show S0.data.toList = x0.2 by rw [← hSS])
          have hS0 : S0.size ≤ 12010 := by omega
          have r0 : ¬ 9223372036854775807 < O0.size + 2 := by omega
          have r1 : ¬ 9223372036854775807 < O0.size + S0.size := by omega
          have r2 : ¬ 9223372036854775807 < O0.size + 2 + S0.size := by omega
          clear y0 v0 z0 u0 t0 hck hSS hbs hXk hBr hO
          by_cases hk0 : k = 0
          · subst hk0
            go_wp2_with fail;refine HPC.out.mono ?_;rintro e w2 ⟨rfl, hb2⟩;have HB2 := aim (HBr.out.trans (hb2.mono HBr.out.size)); clear hb2;go_wp2;go_roundw
            case rel => exact ⟨1, g0', O0 ++ S0, by omega, by go_num, rfl, by rw [HN.out, ← HO.out, ← HSS.out]; simp, HX2.out, HB2.out⟩
            case measure => simp [intOf]; omega
          · have hk1 : (0 : Int) < (k : Int) := by omega
            go_wp2_with fail;refine HPC.out.mono ?_;rintro e w2 ⟨rfl, hb2⟩;have HB2 := aim (HBr.out.trans (hb2.mono HBr.out.size)); clear hb2;go_wp2;go_roundw
            case rel => exact ⟨k + 1, g0', O0 ++ ⟨#[44, 32]⟩ ++ S0, by omega, by go_num, rfl, by rw [HN.out, ← HO.out, ← HSS.out, if_neg hk0]; simp, HX2.out, HB2.out⟩
            case measure => simp [intOf]; omega
        · obtain rfl : k = M := by omega
          have HEK := aim (show O0.data.toList = dq ks by rw [HO.out, List.take_of_length_le (by rw [HX.out.len]; exact ain _)])
          have q1 : ¬ 9223372036854775807 < 1 + O0.size := by omega
          have q2' : ¬ 9223372036854775807 < 1 + O0.size + 1 := by omega
          clear hXk hBr hO;go_wp2;go_ret;refine ⟨?_, HB1.out.trans (HBr.out.mono HB1.out.size)⟩;rw [HE.out, ← HEK.out];exact congrArg Ending.returned (congrArg Value.string (eI (by simp)))
    · have HE := aim (show bY (6, s, m) ks = s.data.toList ++ (40 :: (dq ks ++ [41])) from rfl)
      clear h2 h7 h8 h9 q2 q7 q8 q9 hk56;generalize m.toNat = M at hLm g1 HX HL ⊢;go_wp2_with fail
      go_loopw [9, 10] (fun ou i wr => ∃ (k g : Nat) (O : ByteArray), k ≤ M ∧ i = .int .i64 (k : Int) ∧ ou = .string O ∧ O.data.toList = dq (ks.take k) ∧ Tx l k (f + 1) g (ks.take k) ∧ Below w1.heap.size w1 wr) (fun _ i _ => M - (intOf i).toNat)
      case atStart => exact ⟨0, f + 1, ⟨#[]⟩, air _, rfl, rfl, rfl, .nil _, Below.refl _ _⟩
      case round =>
        obtain ⟨k, g, O0, hk, rfl, rfl, hO, hXk, hBr⟩ := hrel;have HBr := aim hBr; have HXK := aim hXk; have HO := aim hO
        have hOs : O0.size ≤ 12000 := by
          have h1 := su ks k; have h2 := lM (ks.take k);rw [← bG, hO]; omega
        obtain ⟨-, kk0, kk1, kk2⟩ := HCP1.out.keep HBr.out
        by_cases hlt : k < M
        · obtain ⟨g0, g0', x0, y0, v0, z0, u0, t0, b0, b0', b0'', s0, -⟩ := iN hok HX.out k hlt
          obtain ⟨rfl, -⟩ := hXk.uniq t0;obtain ⟨bk, rfl, hbk, hck⟩ := kr HG3.out (by rw [hLm]; omega);have q0 : wr.cell? ⟨bk, k, none⟩ = some (.int .i64 (g : Int)) := (HBr.out.cell (p := ⟨bk, k, none⟩) hbk).trans (hck k g (by rw [← HL.out]; exact u0));have HPC := aim (HIH.out g g0' x0 wr z0 (by omega) (HR1.out.mono HBr.out));have HX2 := aim (hXk.snoc v0 z0);have HN := aim (mD ks k x0 v0);have hbs : (⟨x0.2.toArray⟩ : ByteArray).size = x0.2.length := rfl;generalize hSS : (⟨x0.2.toArray⟩ : ByteArray) = S0 at HPC hbs;have HSS := aim (show S0.data.toList = x0.2 by rw [← hSS])
          have hS0 : S0.size ≤ 12010 := by omega
          have r0 : ¬ 9223372036854775807 < O0.size + 2 := by omega
          have r1 : ¬ 9223372036854775807 < O0.size + S0.size := by omega
          have r2 : ¬ 9223372036854775807 < O0.size + 2 + S0.size := by omega
          clear y0 v0 z0 u0 t0 hck hSS hbs hXk hBr hO
          by_cases hk0 : k = 0
          · subst hk0
            go_wp2_with fail;refine HPC.out.mono ?_;rintro e w2 ⟨rfl, hb2⟩;have HB2 := aim (HBr.out.trans (hb2.mono HBr.out.size)); clear hb2;go_wp2;go_roundw
            case rel => exact ⟨1, g0', O0 ++ S0, by omega, by go_num, rfl, by rw [HN.out, ← HO.out, ← HSS.out]; simp, HX2.out, HB2.out⟩
            case measure => simp [intOf]; omega
          · have hk1 : (0 : Int) < (k : Int) := by omega
            go_wp2_with fail;refine HPC.out.mono ?_;rintro e w2 ⟨rfl, hb2⟩;have HB2 := aim (HBr.out.trans (hb2.mono HBr.out.size)); clear hb2;go_wp2;go_roundw
            case rel => exact ⟨k + 1, g0', O0 ++ ⟨#[44, 32]⟩ ++ S0, by omega, by go_num, rfl, by rw [HN.out, ← HO.out, ← HSS.out, if_neg hk0]; simp, HX2.out, HB2.out⟩
            case measure => simp [intOf]; omega
        · obtain rfl : k = M := by omega
          have HEK := aim (show O0.data.toList = dq ks by rw [HO.out, List.take_of_length_le (by rw [HX.out.len]; exact ain _)])
          have q1 : ¬ 9223372036854775807 < s.size + 1 := by omega
          have q1' : ¬ 9223372036854775807 < s.size + 1 + O0.size := by omega
          have q2' : ¬ 9223372036854775807 < s.size + 1 + O0.size + 1 := by omega
          clear hXk hBr hO;go_wp2;go_ret;refine ⟨?_, HB1.out.trans (HBr.out.mono HB1.out.size)⟩;rw [HE.out, ← HEK.out];exact congrArg Ending.returned (congrArg Value.string (eI (by simp)))
  have HE := aim (show bY (k, s, m) ks = s.data.toList by
    have h5 : k ≠ 5 := fun h => h56 (.inl h)
    have h6 : k ≠ 6 := fun h => h56 (.inr h)
    simp [bY, h2, h5, h6, h7, h8, h9])
  have q2 : (k == 2) = false := beq_eq_false_iff_ne.mpr h2;have q5 : (k == 5) = false := beq_eq_false_iff_ne.mpr (fun h => h56 (.inl h));have q6 : (k == 6) = false := beq_eq_false_iff_ne.mpr (fun h => h56 (.inr h));have q7 : (k == 7) = false := beq_eq_false_iff_ne.mpr h7;have q8 : (k == 8) = false := beq_eq_false_iff_ne.mpr h8;have q9 : (k == 9) = false := beq_eq_false_iff_ne.mpr h9;clear h2 h56 h7 h8 h9;go_wp2;go_ret;exact ⟨by rw [HE.out, gG]; rfl, HB1.out⟩
theorem adg {v:Value} {l:List Cl} (h60:l.length≤60) (hok:l.all okW=true): ∀j,sW v l j:=by
 intro j
 induction j with
 |zero=>
  intro f t x w hX hj;obtain ⟨_,h⟩:=hX.exs;have:=h.le;omega
 |succ j ih=>exact aaH h60 hok ih (aaG h60 hok ih)
end Go.Proofs.YthijkjnngfnfdaaGreatDoor
