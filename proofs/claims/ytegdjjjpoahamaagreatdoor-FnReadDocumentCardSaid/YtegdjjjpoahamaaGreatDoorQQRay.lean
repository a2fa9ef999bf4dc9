/-
  Part of the proof of FnReadDocument.
-/
import Derived.Test.YtegdjjjpoahamaaGreatDoorQQRap
import Derived.Test.YtegdjjjpoahamaaGreatDoorQQRbf
import Derived.Deep.RegionHeld3
import Derived.Deep.DeepCutAuto
set_option linter.unusedVariables false
set_option maxHeartbeats 4000000
set_option maxRecDepth 100000
namespace Go.Proofs.YtegdjjjpoahamaaGreatDoor
open Go.RowKit
theorem LwAt.later {B b:Nat} {T:List UInt8} {w w':World} (h:LwAt B b T w) (hb:Below w.heap.size w w'):LwAt B b T w':=by
 obtain ⟨p,v,hp,h1,h2,h3,h4⟩:=h;have Ab:b<w.heap.size:=LwV.lt ⟨h1,h2,h3,h4⟩;refine ⟨p,v,hp,h1,(hb.block b Ab).trans h2, ?_,h4⟩;exact h3.kept (row:=none) ⟨hb.os,hb.tape,hb.output,hb.size,fun i hi _=>hb.block i hi⟩ (by cases hv:v.ownBlock with|none=>exact .inl rfl|some x=>exact .inr (by simp))
def BxAt (w:World) (I:Nat) (k:Int) (n:ByteArray) (u:Value) (t:ByteArray):Prop:=w.heap[I]? =some (.cells #[.int .i64 k, .string n,u, .string t] 32 (0,0))
theorem BxAt.new (w:World) (k:Int) (n:ByteArray) (u:Value) (t:ByteArray):BxAt (w.alloc (.cells #[.int .i64 k, .string n,u, .string t] 32)) w.heap.size k n u t:=heap_alloc_new w _
theorem BxAt.kl {w w':World} {I:Nat} {k:Int} {n:ByteArray} {u:Value} {t:ByteArray} (h:BxAt w I k n u t) (hk:KL w w'):BxAt w' I k n u t:=hk _ _ _ _ h (by decide) (by decide)
theorem BxAt.cells {w:World} {I:Nat} {k:Int} {n:ByteArray} {u:Value} {t:ByteArray} (h:BxAt w I k n u t):w.cell? ⟨I,0,none⟩=some (.int .i64 k)∧w.cell? ⟨I,1,none⟩=some (.string n)∧w.cell? ⟨I,2,none⟩=some u∧w.cell? ⟨I,3,none⟩=some (.string t):=by
 refine ⟨?_, ?_, ?_, ?_⟩<;>(rw [Lib.cell_of_heap h];rfl)
def gL (k:Int) (t:ByteArray):List UInt8:=if emB t=true then [] else (if k=3 then [32,35] else [])++(32::t.data.toList)
theorem nG {t:ByteArray} (h:emB t=true) (k:Int):gL k t=[]:=if_pos h
def LwD (w0 w:World) (b:Nat) (T:List UInt8) (e:Ending) (w':World):Prop:=e= .returned (.tuple #[])∧LwAt w0.heap.size b T w'∧Below w0.heap.size w0 w'∧KL w w'
theorem lh (s:ByteArray):s.data.toList.length=s.size:=by rw [Array.length_toList];rfl
theorem qI (w0 w:World) (b:Nat) (T:List UInt8) (k:Int) (n t:ByteArray) (ua:Option Addr) (m c:Nat) (hb:Below w0.heap.size w0 w) (hw:LwAt w0.heap.size b T w) (Ai:T.length≤500000000) (ht:t.size≤1048576):
  Calls Tryz.prog 134 #[.pointer (some ⟨b,0,none⟩), .agg #[.int .i64 k, .string n, .slice ua m c, .string t]] w (LwD w0 w b (T++gL k t)):=by
 obtain ⟨bx,DY⟩: ∃o:Obj,o= .cells #[.int .i64 k, .string n, .slice ua m c, .string t] 32:=⟨_,rfl⟩
 have X1:=agC (BxAt.new w k n (.slice ua m c) t);have W1:=agC (hw.later ((Below.refl _ w).alloc (agD _) bx));have B1:=agC (hb.alloc hb.size bx);have K1:=agC (KL.alloc w bx);rw [DY] at W1 B1 K1;have BT:=lh t;clear DY
 cases Ee:emB t with
 |true=>
  obtain ⟨e1,e2,e3,e4⟩:=jh Ee;have HN:=agC (nG Ee k);clear Ee hw hb;obtain ⟨x0,x1,x2,x3⟩:=X1.out.cells
  go_enter Tryz.func134,Tryz.ntmps134
  go_wp2;go_end0;exact ⟨rfl,by rw [HN.out,List.append_nil];exact W1.out,B1.out,K1.out⟩
 |false=>
  obtain ⟨e1,e2,e3,e4⟩:=kG Ee;have HN:=agC (show gL k t=(if k=3 then [32,35] else [])++(32::t.data.toList) by unfold gL;rw [if_neg (by rw [Ee];simp)])
  have Cj: ¬9223372036854775807<1+t.size:=by omega
  have QH:(⟨#[32]⟩++t:ByteArray).size=1+t.size:=by rw [ByteArray.size_append];rfl
  have HL:=agC (show (⟨#[32]⟩++t:ByteArray).data.toList=32::t.data.toList by simp);clear Ee hw hb;obtain ⟨x0,x1,x2,x3⟩:=X1.out.cells
  by_cases hk:k=3
  ·subst hk
   go_enter Tryz.func134,Tryz.ntmps134
   go_wp2_with fail;refine (dw _ b _ _ _ W1.out (by rw [show (⟨#[32,35]⟩:ByteArray).size=2 from rfl];omega) B1.out.size).mono ?_;rintro e w2 ⟨rfl,h2,Ae,B8⟩;have W2:=agC h2;have B2:=agC (B1.out.trans Ae);have K2:=agC (K1.out.trans B8);have X2:=agC (X1.out.kl B8);clear h2 Ae B8 x0 x1 x2 x3;obtain ⟨x0,x1,x2,x3⟩:=X2.out.cells;have WD:=agC (W2.out.later (Below.refl w2.heap.size w2).drew);go_wp2_with fail
   go_region_with (go_at_call 132;(refine (dw _ b _ _ _ WD.out (by rw [QH];simp;omega) B2.out.drew.size).mono ?_);rintro e w3 ⟨rfl,h3,Ag,Bf⟩)
   all_goals
    have W3:=agC h3;have B3:=agC (B2.out.drew.trans Ag);have K3:=agC ((K2.out.trans (show KL w2 w2.drew from KL.refl w2)).trans Bf);clear h3 Ag Bf;go_wp2;go_end0;exact ⟨rfl,by have:=W3.out;rw [HL.out] at this;rw [HN.out];simpa using this,B3.out,K3.out⟩
  ·have MX:(k==3)=false:=beq_eq_false_iff_ne.mpr hk
   have WD:=agC (W1.out.later (Below.refl _ (w.alloc (.cells #[.int .i64 k, .string n, .slice ua m c, .string t] 32))).drew);have KD:=agC (K1.out.trans (show KL _ (w.alloc (.cells #[.int .i64 k, .string n, .slice ua m c, .string t] 32)).drew from KL.refl _))
   go_enter Tryz.func134,Tryz.ntmps134
   go_wp2_with fail
   go_region_with (go_at_call 132;(refine (dw _ b _ _ _ WD.out (by rw [QH];omega) B1.out.drew.size).mono ?_);rintro e w3 ⟨rfl,h3,Ag,Bf⟩)
   all_goals
    have W3:=agC h3;have B3:=agC (B1.out.drew.trans Ag);have K3:=agC (KD.out.trans Bf);clear h3 Ag Bf;go_wp2;go_end0;exact ⟨rfl,by have:=W3.out;rw [HL.out] at this;rw [HN.out,if_neg hk];simpa using this,B3.out,K3.out⟩
theorem adx (w0 w:World) (b:Nat) (T:List UInt8) (n t:ByteArray) (l:List Cl) (ua:Option Addr) (c D:Nat) (hb:Below w0.heap.size w0 w) (hw:LwAt w0.heap.size b T w) (hn:n.size≤1048576) (ht:t.size≤1048576) (hD:D≤4) (Ai:T.length≤400000000):
  Calls Tryz.prog 87 #[.pointer (some ⟨b,0,none⟩), .agg #[.int .i64 2, .string n, .slice ua l.length c, .string t], .int .i64 (D:Int)] w (LwD w0 w b (T++(spL (2*D)++(([35])++gL 2 t)))):=by
 have X1:=agC (BxAt.new w 2 n (.slice ua l.length c) t);have W1:=agC (hw.later ((Below.refl _ w).alloc (agD _) (.cells #[.int .i64 2, .string n, .slice ua l.length c, .string t] 32)));have B1:=agC (hb.alloc hb.size (.cells #[.int .i64 2, .string n, .slice ua l.length c, .string t] 32));have K1:=agC (KL.alloc w (.cells #[.int .i64 2, .string n, .slice ua l.length c, .string t] 32));have BT:=lh n
 have Dx:(baL (spL (2*D))).size≤8:=by rw [f9];omega
 have Js:(spL (2*D)).length≤8:=by simp [spL];omega
 have WD:=agC (W1.out.later (Below.refl _ (w.alloc (.cells #[.int .i64 2, .string n, .slice ua l.length c, .string t] 32))).drew);have KD:=agC (show KL (w.alloc (.cells #[.int .i64 2, .string n, .slice ua l.length c, .string t] 32)) (w.alloc (.cells #[.int .i64 2, .string n, .slice ua l.length c, .string t] 32)).drew from KL.refl _);clear hw hb;obtain ⟨x0,x1,x2,x3⟩:=X1.out.cells
 go_enter Tryz.func87,Tryz.ntmps87
 go_upto_region 2 with fail
 go_cut [4] (fun x wx=>x= .pointer (some ⟨w.heap.size,0,none⟩)∧LwAt w0.heap.size b (T++spL (2*D)) wx∧Below w0.heap.size w0 wx∧KL (w.alloc (.cells #[.int .i64 2, .string n, .slice ua l.length c, .string t] 32)) wx)
 case first=>
  go_region_with (first
   |(go_at_call 89;(refine (qA D hD _).mono ?_);rintro e wq ⟨rfl,D8⟩;subst D8)
   |(go_at_call 132;(refine (dw _ b _ _ _ WD.out (by omega) B1.out.drew.size).mono ?_);rintro e w3 ⟨rfl,h3,Ag,Bf⟩))
  all_goals (go_wp2_with fail;go_meet;exact ⟨rfl,h3,B1.out.drew.trans Ag,KD.out.trans Bf⟩)
 case rest=>
  obtain ⟨rfl,hW,hB,hK⟩:=hcut;have W2:=agC hW;have B2:=agC hB;have K2:=agC (K1.out.trans hK);have X2:=agC (X1.out.kl hK);clear hW hB hK x0 x1 x2 x3 W1 B1 K1 WD KD X1
  have Df:(T++spL (2*D)).length≤400000008:=by rw [agE];omega
  obtain ⟨T2,Bz⟩: ∃x,T++spL (2*D)=x:=⟨_,rfl⟩
  rw [Bz] at Df W2;have Ca:=agC Bz;clear Bz;have WD:=agC (W2.out.later (Below.refl wc.heap.size wc).drew);have KD:=agC (K2.out.trans (show KL wc wc.drew from KL.refl wc));generalize w.heap.size=IB at X2;obtain ⟨x0,x1,x2,x3⟩:=X2.out.cells;go_wp2_with fail;refine (mu _ b _ 35 35 (by decide) _ W2.out (by omega) B2.out.size).mono ?_;rintro e w3 ⟨rfl,h3,Ag,Bf⟩;have W3:=agC h3;have B3:=agC (B2.out.trans Ag);have K3:=agC (K2.out.trans Bf);have X3:=agC (X2.out.kl Bf);clear h3 Ag Bf x0 x1 x2 x3;obtain ⟨x0,x1,x2,x3⟩:=X3.out.cells;go_wp2_with fail;refine (qI w0 w3 b _ 2 n t ua l.length c B3.out W3.out (by simp;omega) ht).mono ?_;rintro e w4 ⟨rfl,h4,As,Ay⟩;have K4:=agC (K3.out.trans Ay);clear Ay;go_wp2;go_end0;exact ⟨rfl,by rw [←List.append_assoc T,Ca.out];simpa using h4,As,K4.out⟩
theorem ady (w0 w:World) (b:Nat) (T:List UInt8) (n t:ByteArray) (l:List Cl) (ua:Option Addr) (c D:Nat) (hb:Below w0.heap.size w0 w) (hw:LwAt w0.heap.size b T w) (hr:RowC w0 (.slice ua l.length c) l) (hz:ec l) (Al:Tab w0) (hn:n.size≤1048576) (ht:t.size≤1048576) (hD:D≤4) (Ai:T.length≤400000000):
 Calls Tryz.prog 87 #[.pointer (some ⟨b,0,none⟩), .agg #[.int .i64 3, .string n, .slice ua l.length c, .string t], .int .i64 (D:Int)] w (LwD w0 w b (T++(spL (2*D)++((n.data.toList++([32,61,32]++bh l))++gL 3 t)))):=by
 have X1:=agC (BxAt.new w 3 n (.slice ua l.length c) t);have W1:=agC (hw.later ((Below.refl _ w).alloc (agD _) (.cells #[.int .i64 3, .string n, .slice ua l.length c, .string t] 32)));have B1:=agC (hb.alloc hb.size (.cells #[.int .i64 3, .string n, .slice ua l.length c, .string t] 32));have K1:=agC (KL.alloc w (.cells #[.int .i64 3, .string n, .slice ua l.length c, .string t] 32));have BT:=lh n
 have Dx:(baL (spL (2*D))).size≤8:=by rw [f9];omega
 have Js:(spL (2*D)).length≤8:=by simp [spL];omega
 have WD:=agC (W1.out.later (Below.refl _ (w.alloc (.cells #[.int .i64 3, .string n, .slice ua l.length c, .string t] 32))).drew);have KD:=agC (show KL (w.alloc (.cells #[.int .i64 3, .string n, .slice ua l.length c, .string t] 32)) (w.alloc (.cells #[.int .i64 3, .string n, .slice ua l.length c, .string t] 32)).drew from KL.refl _);have QI:=agC (fun (w':World) (Dy:Below w0.heap.size w0 w')=>pj (.slice ua l.length c) l w' (hr.mono Dy) hz (Al.keep Dy))
 obtain ⟨E,hE⟩: ∃E:ByteArray,E=⟨(bh l).toArray⟩:=⟨_,rfl⟩
 rw [←hE] at QI
 have Vb:E.size≤13000:=by
  rw [hE];have:=gi l
  show (bh l).length≤13000
  omega
 have QJ:E.data.toList=bh l:=by rw [hE]
 have Cj: ¬9223372036854775807<n.size+3:=by omega
 have MY:(n++⟨#[32,61,32]⟩:ByteArray).size=n.size+3:=by rw [ByteArray.size_append];rfl
 have D7: ¬9223372036854775807<(n++⟨#[32,61,32]⟩:ByteArray).size+E.size:=by rw [MY];omega
 have BZ: ¬9223372036854775807<n.size+3+E.size:=by omega
 have Sz:(n++⟨#[32,61,32]⟩++E:ByteArray).size=n.size+3+E.size:=by rw [ByteArray.size_append,MY]
 have HL:=agC (show (n++⟨#[32,61,32]⟩++E:ByteArray).data.toList=n.data.toList++([32,61,32]++bh l) by simp [QJ]);clear hE QJ hr hz Al;clear hw hb;obtain ⟨x0,x1,x2,x3⟩:=X1.out.cells
 go_enter Tryz.func87,Tryz.ntmps87
 go_upto_region 2 with fail
 go_cut [4] (fun x wx=>x= .pointer (some ⟨w.heap.size,0,none⟩)∧LwAt w0.heap.size b (T++spL (2*D)) wx∧Below w0.heap.size w0 wx∧KL (w.alloc (.cells #[.int .i64 3, .string n, .slice ua l.length c, .string t] 32)) wx)
 case first=>
  go_region_with (first
   |(go_at_call 89;(refine (qA D hD _).mono ?_);rintro e wq ⟨rfl,D8⟩;subst D8)
   |(go_at_call 132;(refine (dw _ b _ _ _ WD.out (by omega) B1.out.drew.size).mono ?_);rintro e w3 ⟨rfl,h3,Ag,Bf⟩))
  all_goals (go_wp2_with fail;go_meet;exact ⟨rfl,h3,B1.out.drew.trans Ag,KD.out.trans Bf⟩)
 case rest=>
  obtain ⟨rfl,hW,hB,hK⟩:=hcut;have W2:=agC hW;have B2:=agC hB;have K2:=agC (K1.out.trans hK);have X2:=agC (X1.out.kl hK);clear hW hB hK x0 x1 x2 x3 W1 B1 K1 WD KD X1
  have Df:(T++spL (2*D)).length≤400000008:=by rw [agE];omega
  obtain ⟨T2,Bz⟩: ∃x,T++spL (2*D)=x:=⟨_,rfl⟩
  rw [Bz] at Df W2;have Ca:=agC Bz;clear Bz;have WD:=agC (W2.out.later (Below.refl wc.heap.size wc).drew);have KD:=agC (K2.out.trans (show KL wc wc.drew from KL.refl wc));generalize w.heap.size=IB at X2;obtain ⟨x0,x1,x2,x3⟩:=X2.out.cells;go_wp2_with fail;have DT:=agC B2.out.drew;have IM:=agC (show∀W',KL wc W'→W'.cell? ⟨IB,1,none⟩=some (.string n)∧W'.cell? ⟨IB,2,none⟩=some (.slice ua l.length c) from fun W' hk=>⟨(X2.out.kl hk).cells.2.1,(X2.out.kl hk).cells.2.2.1⟩);have Bo:KL wc wc.drew:=KL.refl wc;have Lm:=agC Bo;clear Bo
  go_region_held3 (fun W'=>W'.cell? ⟨IB,1,none⟩=some (.string n)∧W'.cell? ⟨IB,2,none⟩=some (.slice ua l.length c))
   (first|exact IM.out _ Cp.out|exact IM.out _ F0.out|exact IM.out _ Lm.out|go_keep)
   (first
     |(go_at_call 133;(with_reducible refine (QI.out _ DT.out).mono ?_);rintro e w3 ⟨rfl,Ag⟩;have F0:=agC (Lm.out.trans (KL.below Ag));have SA:=agC (WD.out.later Ag);have Ap:=agC (DT.out.trans (Ag.mono DT.out.size)))
     |(go_at_call 132;(refine (dw _ b _ _ _ SA.out (by rw [Sz];omega) Ap.out.size).mono ?_);rintro e w4 ⟨rfl,h4,As,Ay⟩;have Cp:=agC (F0.out.trans Ay)))
  all_goals
   have W3:=agC h4;have B3:=agC (Ap.out.trans As);have K3:=agC (K2.out.trans Cp.out);have X3:=agC (X2.out.kl Cp.out);clear h4 As Ay Ag x0 x1 x2 x3;obtain ⟨x0,x1,x2,x3⟩:=X3.out.cells;rw [HL.out] at W3;go_wp2_with fail;refine (qI w0 w4 b _ 3 n t ua l.length c B3.out W3.out (by have:=gi l;simp;omega) ht).mono ?_;rintro e w5 ⟨rfl,h5,AI,Dm⟩;have K5:=agC (K3.out.trans Dm);clear Dm;go_wp2;go_end0;exact ⟨rfl,by rw [←List.append_assoc T,Ca.out];simpa using h5,AI,K5.out⟩
theorem adz (w0 w:World) (b:Nat) (T:List UInt8) (n t:ByteArray) (l:List Cl) (ua:Option Addr) (c D:Nat) (hb:Below w0.heap.size w0 w) (hw:LwAt w0.heap.size b T w) (hn:n.size≤1048576) (ht:t.size≤1048576) (hD:D≤4) (Ai:T.length≤400000000):
  Calls Tryz.prog 87 #[.pointer (some ⟨b,0,none⟩), .agg #[.int .i64 4, .string n, .slice ua l.length c, .string t], .int .i64 (D:Int)] w (LwD w0 w b (T++(spL (2*D)++((n.data.toList++[32,123])++gL 4 t)))):=by
 have X1:=agC (BxAt.new w 4 n (.slice ua l.length c) t);have W1:=agC (hw.later ((Below.refl _ w).alloc (agD _) (.cells #[.int .i64 4, .string n, .slice ua l.length c, .string t] 32)));have B1:=agC (hb.alloc hb.size (.cells #[.int .i64 4, .string n, .slice ua l.length c, .string t] 32));have K1:=agC (KL.alloc w (.cells #[.int .i64 4, .string n, .slice ua l.length c, .string t] 32));have BT:=lh n
 have Dx:(baL (spL (2*D))).size≤8:=by rw [f9];omega
 have Js:(spL (2*D)).length≤8:=by simp [spL];omega
 have WD:=agC (W1.out.later (Below.refl _ (w.alloc (.cells #[.int .i64 4, .string n, .slice ua l.length c, .string t] 32))).drew);have KD:=agC (show KL (w.alloc (.cells #[.int .i64 4, .string n, .slice ua l.length c, .string t] 32)) (w.alloc (.cells #[.int .i64 4, .string n, .slice ua l.length c, .string t] 32)).drew from KL.refl _)
 have Cj: ¬9223372036854775807<n.size+2:=by omega
 have MY:(n++⟨#[32,123]⟩:ByteArray).size=n.size+2:=by rw [ByteArray.size_append];rfl
 have HL:=agC (show (n++⟨#[32,123]⟩:ByteArray).data.toList=n.data.toList++[32,123] by simp);clear hw hb;obtain ⟨x0,x1,x2,x3⟩:=X1.out.cells
 go_enter Tryz.func87,Tryz.ntmps87
 go_upto_region 2 with fail
 go_cut [4] (fun x wx=>x= .pointer (some ⟨w.heap.size,0,none⟩)∧LwAt w0.heap.size b (T++spL (2*D)) wx∧Below w0.heap.size w0 wx∧KL (w.alloc (.cells #[.int .i64 4, .string n, .slice ua l.length c, .string t] 32)) wx)
 case first=>
  go_region_with (first
   |(go_at_call 89;(refine (qA D hD _).mono ?_);rintro e wq ⟨rfl,D8⟩;subst D8)
   |(go_at_call 132;(refine (dw _ b _ _ _ WD.out (by omega) B1.out.drew.size).mono ?_);rintro e w3 ⟨rfl,h3,Ag,Bf⟩))
  all_goals (go_wp2_with fail;go_meet;exact ⟨rfl,h3,B1.out.drew.trans Ag,KD.out.trans Bf⟩)
 case rest=>
  obtain ⟨rfl,hW,hB,hK⟩:=hcut;have W2:=agC hW;have B2:=agC hB;have K2:=agC (K1.out.trans hK);have X2:=agC (X1.out.kl hK);clear hW hB hK x0 x1 x2 x3 W1 B1 K1 WD KD X1
  have Df:(T++spL (2*D)).length≤400000008:=by rw [agE];omega
  obtain ⟨T2,Bz⟩: ∃x,T++spL (2*D)=x:=⟨_,rfl⟩
  rw [Bz] at Df W2;have Ca:=agC Bz;clear Bz;have WD:=agC (W2.out.later (Below.refl wc.heap.size wc).drew);have KD:=agC (K2.out.trans (show KL wc wc.drew from KL.refl wc));generalize w.heap.size=IB at X2;obtain ⟨x0,x1,x2,x3⟩:=X2.out.cells;go_wp2_with fail
  go_region_with (go_at_call 132;(refine (dw _ b _ _ _ WD.out (by rw [MY];omega) B2.out.drew.size).mono ?_);rintro e w3 ⟨rfl,h3,Ag,Bf⟩)
  all_goals
   have W3:=agC h3;have B3:=agC (B2.out.drew.trans Ag);have K3:=agC (KD.out.trans Bf);have X3:=agC ((X2.out.kl (show KL wc wc.drew from KL.refl wc)).kl Bf);clear h3 Ag Bf x0 x1 x2 x3;obtain ⟨x0,x1,x2,x3⟩:=X3.out.cells;rw [HL.out] at W3;go_wp2_with fail;refine (qI w0 w3 b _ 4 n t ua l.length c B3.out W3.out (by simp;omega) ht).mono ?_;rintro e w4 ⟨rfl,h4,As,Ay⟩;have K4:=agC (K3.out.trans Ay);clear Ay;go_wp2;go_end0;exact ⟨rfl,by rw [←List.append_assoc T,Ca.out];simpa using h4,As,K4.out⟩
theorem adA (w0 w:World) (b:Nat) (T:List UInt8) (n t:ByteArray) (l:List Cl) (ua:Option Addr) (c D:Nat) (hb:Below w0.heap.size w0 w) (hw:LwAt w0.heap.size b T w) (hn:n.size≤1048576) (ht:t.size≤1048576) (hD:D≤4) (Ai:T.length≤400000000):
  Calls Tryz.prog 87 #[.pointer (some ⟨b,0,none⟩), .agg #[.int .i64 5, .string n, .slice ua l.length c, .string t], .int .i64 (D:Int)] w (LwD w0 w b (T++(spL (2*D)++(([125])++gL 5 t)))):=by
 have X1:=agC (BxAt.new w 5 n (.slice ua l.length c) t);have W1:=agC (hw.later ((Below.refl _ w).alloc (agD _) (.cells #[.int .i64 5, .string n, .slice ua l.length c, .string t] 32)));have B1:=agC (hb.alloc hb.size (.cells #[.int .i64 5, .string n, .slice ua l.length c, .string t] 32));have K1:=agC (KL.alloc w (.cells #[.int .i64 5, .string n, .slice ua l.length c, .string t] 32));have BT:=lh n
 have Dx:(baL (spL (2*D))).size≤8:=by rw [f9];omega
 have Js:(spL (2*D)).length≤8:=by simp [spL];omega
 have WD:=agC (W1.out.later (Below.refl _ (w.alloc (.cells #[.int .i64 5, .string n, .slice ua l.length c, .string t] 32))).drew);have KD:=agC (show KL (w.alloc (.cells #[.int .i64 5, .string n, .slice ua l.length c, .string t] 32)) (w.alloc (.cells #[.int .i64 5, .string n, .slice ua l.length c, .string t] 32)).drew from KL.refl _);clear hw hb;obtain ⟨x0,x1,x2,x3⟩:=X1.out.cells
 go_enter Tryz.func87,Tryz.ntmps87
 go_upto_region 2 with fail
 go_cut [4] (fun x wx=>x= .pointer (some ⟨w.heap.size,0,none⟩)∧LwAt w0.heap.size b (T++spL (2*D)) wx∧Below w0.heap.size w0 wx∧KL (w.alloc (.cells #[.int .i64 5, .string n, .slice ua l.length c, .string t] 32)) wx)
 case first=>
  go_region_with (first
   |(go_at_call 89;(refine (qA D hD _).mono ?_);rintro e wq ⟨rfl,D8⟩;subst D8)
   |(go_at_call 132;(refine (dw _ b _ _ _ WD.out (by omega) B1.out.drew.size).mono ?_);rintro e w3 ⟨rfl,h3,Ag,Bf⟩))
  all_goals (go_wp2_with fail;go_meet;exact ⟨rfl,h3,B1.out.drew.trans Ag,KD.out.trans Bf⟩)
 case rest=>
  obtain ⟨rfl,hW,hB,hK⟩:=hcut;have W2:=agC hW;have B2:=agC hB;have K2:=agC (K1.out.trans hK);have X2:=agC (X1.out.kl hK);clear hW hB hK x0 x1 x2 x3 W1 B1 K1 WD KD X1
  have Df:(T++spL (2*D)).length≤400000008:=by rw [agE];omega
  obtain ⟨T2,Bz⟩: ∃x,T++spL (2*D)=x:=⟨_,rfl⟩
  rw [Bz] at Df W2;have Ca:=agC Bz;clear Bz;have WD:=agC (W2.out.later (Below.refl wc.heap.size wc).drew);have KD:=agC (K2.out.trans (show KL wc wc.drew from KL.refl wc));generalize w.heap.size=IB at X2;obtain ⟨x0,x1,x2,x3⟩:=X2.out.cells;go_wp2_with fail;refine (mu _ b _ 125 125 (by decide) _ W2.out (by omega) B2.out.size).mono ?_;rintro e w3 ⟨rfl,h3,Ag,Bf⟩;have W3:=agC h3;have B3:=agC (B2.out.trans Ag);have K3:=agC (K2.out.trans Bf);have X3:=agC (X2.out.kl Bf);clear h3 Ag Bf x0 x1 x2 x3;obtain ⟨x0,x1,x2,x3⟩:=X3.out.cells;go_wp2_with fail;refine (qI w0 w3 b _ 5 n t ua l.length c B3.out W3.out (by simp;omega) ht).mono ?_;rintro e w4 ⟨rfl,h4,As,Ay⟩;have K4:=agC (K3.out.trans Ay);clear Ay;go_wp2;go_end0;exact ⟨rfl,by rw [←List.append_assoc T,Ca.out];simpa using h4,As,K4.out⟩
theorem adB (w0 w:World) (b:Nat) (T:List UInt8) (n t:ByteArray) (l:List Cl) (ua:Option Addr) (c D:Nat) (hb:Below w0.heap.size w0 w) (hw:LwAt w0.heap.size b T w):
  Calls Tryz.prog 87 #[.pointer (some ⟨b,0,none⟩), .agg #[.int .i64 1, .string n, .slice ua l.length c, .string t], .int .i64 (D:Int)] w (LwD w0 w b T):=by
 have W1:=agC (hw.later ((Below.refl _ w).alloc (agD _) (.cells #[.int .i64 1, .string n, .slice ua l.length c, .string t] 32)));have B1:=agC (hb.alloc hb.size (.cells #[.int .i64 1, .string n, .slice ua l.length c, .string t] 32));have K1:=agC (KL.alloc w (.cells #[.int .i64 1, .string n, .slice ua l.length c, .string t] 32));clear hw hb
 go_enter Tryz.func87,Tryz.ntmps87
 go_wp2;go_end0;exact ⟨rfl,W1.out,B1.out,K1.out⟩
theorem ae9 (w0 w:World) (b:Nat) (T:List UInt8) (i:It) (u:Value) (D:Nat) (hv:aP i=true∨i.1=3) (hb:Below w0.heap.size w0 w) (hw:LwAt w0.heap.size b T w) (hr:RowC w0 u i.2.2.1) (hz:ec i.2.2.1) (Al:Tab w0) (hn:i.2.1.size≤1048576) (ht:i.2.2.2.size≤1048576) (hD:D≤4) (Ai:T.length≤400000000):
  Calls Tryz.prog 87 #[.pointer (some ⟨b,0,none⟩), .agg #[.int .i64 i.1, .string i.2.1,u, .string i.2.2.2], .int .i64 (D:Int)] w (LwD w0 w b (T++bj i D 0)):=by
 obtain ⟨k,n,l,t⟩:=i;obtain ⟨ua,c,rfl,-⟩:=id hr;simp only at hr hz hn ht⊢
 have hk:k=1∨k=2∨k=3∨k=4∨k=5:=by
  rcases hv with hv|hv
  case inr=>simp only at hv;omega
  unfold aP at hv;simp only at hv
  by_cases h1:k=1; · omega
  by_cases h2:k=2; · omega
  by_cases h3:k=3; · omega
  by_cases h4:k=4; · omega
  by_cases h5:k=5; · omega
  rw [if_neg (by omega),if_neg h2,if_neg h3,if_neg h4] at hv;cases hv
 have Ln:spL (0-n.size)=[]:=by rw [Nat.zero_sub];rfl
 rcases hk with rfl|rfl|rfl|rfl|rfl
 ·have:=adB w0 w b T n t l ua c D hb hw
  rw [show T++bj (1,n,l,t) D 0=T by simp [bj]];exact this
 ·have:=adx w0 w b T n t l ua c D hb hw hn ht hD Ai
  rw [show bj (2,n,l,t) D 0=spL (2*D)++(([35])++gL 2 t) by simp [bj,de,gL]];exact this
 ·have:=ady w0 w b T n t l ua c D hb hw hr hz Al hn ht hD Ai
  rw [show bj (3,n,l,t) D 0=spL (2*D)++((n.data.toList++([32,61,32]++bh l))++gL 3 t) by simp [bj,de,gL,spL]];exact this
 ·have hv:=hv.resolve_right (by simp)
  have Ee:emB t=true:=by
   simp only [aP,show¬((4:Int)=1∨(4:Int)=5) by decide,show¬(4:Int)=2 by decide,show¬(4:Int)=3 by decide,if_false,if_true,Bool.and_eq_true] at hv;exact hv.2.2
  have:=adz w0 w b T n t l ua c D hb hw hn ht hD Ai;rw [show bj (4,n,l,t) D 0=spL (2*D)++((n.data.toList++[32,123])++gL 4 t) by simp [bj,de,nG Ee]];exact this
 ·have hv:=hv.resolve_right (by simp)
  have Ee:emB t=true:=by
   unfold aP at hv;rw [if_pos (.inr rfl)] at hv;simp only [Bool.and_eq_true] at hv;exact hv.2.2
  have:=adA w0 w b T n t l ua c D hb hw hn ht hD Ai;rw [show bj (5,n,l,t) D 0=spL (2*D)++(([125])++gL 5 t) by simp [bj,de,nG Ee]];exact this
end Go.Proofs.YtegdjjjpoahamaaGreatDoor
