/-
  impl's writer of lines of items: note, item.
-/
import Derived.Test.YtegdjjjpoahamaaGreatDoorLineW
import Derived.Test.YtegdjjjpoahamaaGreatDoorRepI
import Derived.Test.YtegdjjjpoahamaaGreatDoorBaseP
import Derived.Test.YtegdjjjpoahamaaGreatDoorReadLine
import Derived.Test.YtegdjjjpoahamaaGreatDoorItB
import Derived.Deep.RegionHeld3
import Derived.Deep.DeepCutAuto
set_option linter.unusedVariables false
set_option maxHeartbeats 4000000
set_option maxRecDepth 100000
namespace Go.Proofs.YtegdjjjpoahamaaGreatDoor
open Go.RowKit
theorem LwAt.later {B b:Nat} {T:List UInt8} {w w':World} (h:LwAt B b T w) (hb:Below w.heap.size w w'):LwAt B b T w':=by
 obtain ⟨p,v,hp,h1,h2,h3,h4⟩:=h
 have hlt:b<w.heap.size:=LwV.lt ⟨h1,h2,h3,h4⟩
 refine ⟨p,v,hp,h1,(hb.block b hlt).trans h2, ?_,h4⟩
 exact h3.kept (row:=none) ⟨hb.os,hb.tape,hb.output,hb.size,fun i hi _=>hb.block i hi⟩ (by cases hv:v.ownBlock with|none=>exact .inl rfl|some x=>exact .inr (by simp))
def BxAt (w:World) (I:Nat) (k:Int) (n:ByteArray) (u:Value) (t:ByteArray):Prop:=w.heap[I]? =some (.cells #[.int .i64 k, .string n,u, .string t] 32 (0,0))
theorem BxAt.new (w:World) (k:Int) (n:ByteArray) (u:Value) (t:ByteArray):BxAt (w.alloc (.cells #[.int .i64 k, .string n,u, .string t] 32)) w.heap.size k n u t:=heap_alloc_new w _
theorem BxAt.kl {w w':World} {I:Nat} {k:Int} {n:ByteArray} {u:Value} {t:ByteArray} (h:BxAt w I k n u t) (hk:KL w w'):BxAt w' I k n u t:=hk _ _ _ _ h (by decide) (by decide)
theorem BxAt.cells {w:World} {I:Nat} {k:Int} {n:ByteArray} {u:Value} {t:ByteArray} (h:BxAt w I k n u t):w.cell? ⟨I,0,none⟩=some (.int .i64 k)∧w.cell? ⟨I,1,none⟩=some (.string n)∧w.cell? ⟨I,2,none⟩=some u∧w.cell? ⟨I,3,none⟩=some (.string t):=by
 refine ⟨?_, ?_, ?_, ?_⟩<;>(rw [Lib.cell_of_heap h];rfl)
def noteT (k:Int) (t:ByteArray):List UInt8:=if emB t=true then [] else (if k=3 then [32,35] else [])++(32::t.data.toList)
theorem noteT_em {t:ByteArray} (h:emB t=true) (k:Int):noteT k t=[]:=if_pos h
theorem noteT_len (k:Int) (t:ByteArray):(noteT k t).length≤t.size+3:=by
 have h:t.data.toList.length=t.size:=by rw [Array.length_toList];rfl
 unfold noteT
 repeat' split
 all_goals simp
 all_goals omega
def LwD (w0 w:World) (b:Nat) (T:List UInt8) (e:Ending) (w':World):Prop:=e= .returned (.tuple #[])∧LwAt w0.heap.size b T w'∧Below w0.heap.size w0 w'∧KL w w'
theorem sz_list (s:ByteArray):s.data.toList.length=s.size:=by rw [Array.length_toList];rfl
theorem note_w (w0 w:World) (b:Nat) (T:List UInt8) (k:Int) (n t:ByteArray) (ua:Option Addr) (m c:Nat) (hb:Below w0.heap.size w0 w) (hw:LwAt w0.heap.size b T w) (hlen:T.length≤500000000) (ht:t.size≤1048576):
  Calls Tryz.prog 134 #[.pointer (some ⟨b,0,none⟩), .agg #[.int .i64 k, .string n, .slice ua m c, .string t]] w (LwD w0 w b (T++noteT k t)):=by
 obtain ⟨bx,hbx⟩: ∃o:Obj,o= .cells #[.int .i64 k, .string n, .slice ua m c, .string t] 32:=⟨_,rfl⟩
 have X1:=Lib.hid (BxAt.new w k n (.slice ua m c) t)
 have W1:=Lib.hid (hw.later ((Below.refl _ w).alloc (Nat.le_refl _) bx));have B1:=Lib.hid (hb.alloc hb.size bx);have K1:=Lib.hid (KL.alloc w bx)
 rw [hbx] at W1 B1 K1
 have hsl:=sz_list t
 clear hbx
 cases hem:emB t with
 |true=>
  obtain ⟨e1,e2,e3,e4⟩:=em_t hem
  have HN:=Lib.hid (noteT_em hem k)
  clear hem hw hb
  obtain ⟨x0,x1,x2,x3⟩:=X1.out.cells
  go_enter Tryz.func134,Tryz.ntmps134
  go_wp2
  go_end0
  exact ⟨rfl,by rw [HN.out,List.append_nil];exact W1.out,B1.out,K1.out⟩
 |false=>
  obtain ⟨e1,e2,e3,e4⟩:=em_f hem
  have HN:=Lib.hid (show noteT k t=(if k=3 then [32,35] else [])++(32::t.data.toList) by unfold noteT;rw [if_neg (by rw [hem];simp)])
  have hs1: ¬9223372036854775807<1+t.size:=by omega
  have hsb:(⟨#[32]⟩++t:ByteArray).size=1+t.size:=by rw [ByteArray.size_append];rfl
  have HL:=Lib.hid (show (⟨#[32]⟩++t:ByteArray).data.toList=32::t.data.toList by simp)
  clear hem hw hb
  obtain ⟨x0,x1,x2,x3⟩:=X1.out.cells
  by_cases hk:k=3
  ·subst hk
   go_enter Tryz.func134,Tryz.ntmps134
   go_wp2_with fail
   refine (lString_any _ b _ _ _ W1.out (by rw [show (⟨#[32,35]⟩:ByteArray).size=2 from rfl];omega) B1.out.size).mono ?_
   rintro e w2 ⟨rfl,h2,hb2,hk2⟩
   have W2:=Lib.hid h2;have B2:=Lib.hid (B1.out.trans hb2);have K2:=Lib.hid (K1.out.trans hk2);have X2:=Lib.hid (X1.out.kl hk2)
   clear h2 hb2 hk2 x0 x1 x2 x3
   obtain ⟨x0,x1,x2,x3⟩:=X2.out.cells
   have WD:=Lib.hid (W2.out.later (Below.refl w2.heap.size w2).drew)
   go_wp2_with fail
   go_region_with (go_at_call 132;(refine (lString_any _ b _ _ _ WD.out (by rw [hsb];simp;omega) B2.out.drew.size).mono ?_);rintro e w3 ⟨rfl,h3,hb3,hk3⟩)
   all_goals
    have W3:=Lib.hid h3;have B3:=Lib.hid (B2.out.drew.trans hb3);have K3:=Lib.hid ((K2.out.trans (show KL w2 w2.drew from KL.refl w2)).trans hk3)
    clear h3 hb3 hk3
    go_wp2
    go_end0
    exact ⟨rfl,by have:=W3.out;rw [HL.out] at this;rw [HN.out];simpa using this,B3.out,K3.out⟩
  ·have hkb:(k==3)=false:=beq_eq_false_iff_ne.mpr hk
   have WD:=Lib.hid (W1.out.later (Below.refl _ (w.alloc (.cells #[.int .i64 k, .string n, .slice ua m c, .string t] 32))).drew)
   have KD:=Lib.hid (K1.out.trans (show KL _ (w.alloc (.cells #[.int .i64 k, .string n, .slice ua m c, .string t] 32)).drew from KL.refl _))
   go_enter Tryz.func134,Tryz.ntmps134
   go_wp2_with fail
   go_region_with (go_at_call 132;(refine (lString_any _ b _ _ _ WD.out (by rw [hsb];omega) B1.out.drew.size).mono ?_);rintro e w3 ⟨rfl,h3,hb3,hk3⟩)
   all_goals
    have W3:=Lib.hid h3;have B3:=Lib.hid (B1.out.drew.trans hb3);have K3:=Lib.hid (KD.out.trans hk3)
    clear h3 hb3 hk3
    go_wp2
    go_end0
    exact ⟨rfl,by have:=W3.out;rw [HL.out] at this;rw [HN.out,if_neg hk];simpa using this,B3.out,K3.out⟩
theorem item_w2 (w0 w:World) (b:Nat) (T:List UInt8) (n t:ByteArray) (l:List Cl) (ua:Option Addr) (c D:Nat) (hb:Below w0.heap.size w0 w) (hw:LwAt w0.heap.size b T w) (hn:n.size≤1048576) (ht:t.size≤1048576) (hD:D≤4) (hlen:T.length≤400000000):
  Calls Tryz.prog 87 #[.pointer (some ⟨b,0,none⟩), .agg #[.int .i64 2, .string n, .slice ua l.length c, .string t], .int .i64 (D:Int)] w (LwD w0 w b (T++(spL (2*D)++(([35])++noteT 2 t)))):=by
 have X1:=Lib.hid (BxAt.new w 2 n (.slice ua l.length c) t)
 have W1:=Lib.hid (hw.later ((Below.refl _ w).alloc (Nat.le_refl _) (.cells #[.int .i64 2, .string n, .slice ua l.length c, .string t] 32)));have B1:=Lib.hid (hb.alloc hb.size (.cells #[.int .i64 2, .string n, .slice ua l.length c, .string t] 32));have K1:=Lib.hid (KL.alloc w (.cells #[.int .i64 2, .string n, .slice ua l.length c, .string t] 32))
 have hsl:=sz_list n
 have hsp:(baL (spL (2*D))).size≤8:=by rw [sp_size];omega
 have hspl:(spL (2*D)).length≤8:=by simp [spL];omega
 have WD:=Lib.hid (W1.out.later (Below.refl _ (w.alloc (.cells #[.int .i64 2, .string n, .slice ua l.length c, .string t] 32))).drew)
 have KD:=Lib.hid (show KL (w.alloc (.cells #[.int .i64 2, .string n, .slice ua l.length c, .string t] 32)) (w.alloc (.cells #[.int .i64 2, .string n, .slice ua l.length c, .string t] 32)).drew from KL.refl _)
 clear hw hb
 obtain ⟨x0,x1,x2,x3⟩:=X1.out.cells
 go_enter Tryz.func87,Tryz.ntmps87
 go_upto_region 2 with fail
 go_cut [4] (fun x wx=>x= .pointer (some ⟨w.heap.size,0,none⟩)∧LwAt w0.heap.size b (T++spL (2*D)) wx∧Below w0.heap.size w0 wx∧KL (w.alloc (.cells #[.int .i64 2, .string n, .slice ua l.length c, .string t] 32)) wx)
 case first=>
  go_region_with (first
   |(go_at_call 89;(refine (rep_sp D hD _).mono ?_);rintro e wq ⟨rfl,hwq⟩;subst hwq)
   |(go_at_call 132;(refine (lString_any _ b _ _ _ WD.out (by omega) B1.out.drew.size).mono ?_);rintro e w3 ⟨rfl,h3,hb3,hk3⟩))
  all_goals (go_wp2_with fail;go_meet;exact ⟨rfl,h3,B1.out.drew.trans hb3,KD.out.trans hk3⟩)
 case rest=>
  obtain ⟨rfl,hW,hB,hK⟩:=hcut
  have W2:=Lib.hid hW;have B2:=Lib.hid hB;have K2:=Lib.hid (K1.out.trans hK);have X2:=Lib.hid (X1.out.kl hK)
  clear hW hB hK x0 x1 x2 x3 W1 B1 K1 WD KD X1
  have hl2:(T++spL (2*D)).length≤400000008:=by rw [List.length_append];omega
  obtain ⟨T2,hT2⟩: ∃x,T++spL (2*D)=x:=⟨_,rfl⟩
  rw [hT2] at hl2 W2
  have HT2:=Lib.hid hT2;clear hT2
  have WD:=Lib.hid (W2.out.later (Below.refl wc.heap.size wc).drew)
  have KD:=Lib.hid (K2.out.trans (show KL wc wc.drew from KL.refl wc))
  generalize w.heap.size=IB at X2
  obtain ⟨x0,x1,x2,x3⟩:=X2.out.cells
  go_wp2_with fail
  refine (lByte_any _ b _ 35 35 (by decide) _ W2.out (by omega) B2.out.size).mono ?_
  rintro e w3 ⟨rfl,h3,hb3,hk3⟩
  have W3:=Lib.hid h3;have B3:=Lib.hid (B2.out.trans hb3);have K3:=Lib.hid (K2.out.trans hk3);have X3:=Lib.hid (X2.out.kl hk3)
  clear h3 hb3 hk3 x0 x1 x2 x3
  obtain ⟨x0,x1,x2,x3⟩:=X3.out.cells
  go_wp2_with fail
  refine (note_w w0 w3 b _ 2 n t ua l.length c B3.out W3.out (by simp;omega) ht).mono ?_
  rintro e w4 ⟨rfl,h4,hb4,hk4⟩
  have K4:=Lib.hid (K3.out.trans hk4);clear hk4
  go_wp2
  go_end0
  exact ⟨rfl,by rw [←List.append_assoc T,HT2.out];simpa using h4,hb4,K4.out⟩
theorem item_w3 (w0 w:World) (b:Nat) (T:List UInt8) (n t:ByteArray) (l:List Cl) (ua:Option Addr) (c D:Nat) (hb:Below w0.heap.size w0 w) (hw:LwAt w0.heap.size b T w) (hr:RowC w0 (.slice ua l.length c) l) (hz:SizedC l) (htab:Tab w0) (hn:n.size≤1048576) (ht:t.size≤1048576) (hD:D≤4) (hlen:T.length≤400000000):
 Calls Tryz.prog 87 #[.pointer (some ⟨b,0,none⟩), .agg #[.int .i64 3, .string n, .slice ua l.length c, .string t], .int .i64 (D:Int)] w (LwD w0 w b (T++(spL (2*D)++((n.data.toList++([32,61,32]++textE l))++noteT 3 t)))):=by
 have X1:=Lib.hid (BxAt.new w 3 n (.slice ua l.length c) t)
 have W1:=Lib.hid (hw.later ((Below.refl _ w).alloc (Nat.le_refl _) (.cells #[.int .i64 3, .string n, .slice ua l.length c, .string t] 32)));have B1:=Lib.hid (hb.alloc hb.size (.cells #[.int .i64 3, .string n, .slice ua l.length c, .string t] 32));have K1:=Lib.hid (KL.alloc w (.cells #[.int .i64 3, .string n, .slice ua l.length c, .string t] 32))
 have hsl:=sz_list n
 have hsp:(baL (spL (2*D))).size≤8:=by rw [sp_size];omega
 have hspl:(spL (2*D)).length≤8:=by simp [spL];omega
 have WD:=Lib.hid (W1.out.later (Below.refl _ (w.alloc (.cells #[.int .i64 3, .string n, .slice ua l.length c, .string t] 32))).drew)
 have KD:=Lib.hid (show KL (w.alloc (.cells #[.int .i64 3, .string n, .slice ua l.length c, .string t] 32)) (w.alloc (.cells #[.int .i64 3, .string n, .slice ua l.length c, .string t] 32)).drew from KL.refl _)
 have HE0:=Lib.hid (fun (w':World) (hb':Below w0.heap.size w0 w')=>exprText_impl (.slice ua l.length c) l w' (hr.mono hb') hz (htab.keep hb'))
 obtain ⟨E,hE⟩: ∃E:ByteArray,E=⟨(textE l).toArray⟩:=⟨_,rfl⟩
 rw [←hE] at HE0
 have hEs:E.size≤13000:=by
  rw [hE]
  have:=textE_len l
  show (textE l).length≤13000
  omega
 have hEl:E.data.toList=textE l:=by rw [hE]
 have hs1: ¬9223372036854775807<n.size+3:=by omega
 have hsn:(n++⟨#[32,61,32]⟩:ByteArray).size=n.size+3:=by rw [ByteArray.size_append];rfl
 have hs2: ¬9223372036854775807<(n++⟨#[32,61,32]⟩:ByteArray).size+E.size:=by rw [hsn];omega
 have hs3: ¬9223372036854775807<n.size+3+E.size:=by omega
 have hsa:(n++⟨#[32,61,32]⟩++E:ByteArray).size=n.size+3+E.size:=by rw [ByteArray.size_append,hsn]
 have HL:=Lib.hid (show (n++⟨#[32,61,32]⟩++E:ByteArray).data.toList=n.data.toList++([32,61,32]++textE l) by simp [hEl])
 clear hE hEl hr hz htab
 clear hw hb
 obtain ⟨x0,x1,x2,x3⟩:=X1.out.cells
 go_enter Tryz.func87,Tryz.ntmps87
 go_upto_region 2 with fail
 go_cut [4] (fun x wx=>x= .pointer (some ⟨w.heap.size,0,none⟩)∧LwAt w0.heap.size b (T++spL (2*D)) wx∧Below w0.heap.size w0 wx∧KL (w.alloc (.cells #[.int .i64 3, .string n, .slice ua l.length c, .string t] 32)) wx)
 case first=>
  go_region_with (first
   |(go_at_call 89;(refine (rep_sp D hD _).mono ?_);rintro e wq ⟨rfl,hwq⟩;subst hwq)
   |(go_at_call 132;(refine (lString_any _ b _ _ _ WD.out (by omega) B1.out.drew.size).mono ?_);rintro e w3 ⟨rfl,h3,hb3,hk3⟩))
  all_goals (go_wp2_with fail;go_meet;exact ⟨rfl,h3,B1.out.drew.trans hb3,KD.out.trans hk3⟩)
 case rest=>
  obtain ⟨rfl,hW,hB,hK⟩:=hcut
  have W2:=Lib.hid hW;have B2:=Lib.hid hB;have K2:=Lib.hid (K1.out.trans hK);have X2:=Lib.hid (X1.out.kl hK)
  clear hW hB hK x0 x1 x2 x3 W1 B1 K1 WD KD X1
  have hl2:(T++spL (2*D)).length≤400000008:=by rw [List.length_append];omega
  obtain ⟨T2,hT2⟩: ∃x,T++spL (2*D)=x:=⟨_,rfl⟩
  rw [hT2] at hl2 W2
  have HT2:=Lib.hid hT2;clear hT2
  have WD:=Lib.hid (W2.out.later (Below.refl wc.heap.size wc).drew)
  have KD:=Lib.hid (K2.out.trans (show KL wc wc.drew from KL.refl wc))
  generalize w.heap.size=IB at X2
  obtain ⟨x0,x1,x2,x3⟩:=X2.out.cells
  go_wp2_with fail
  have HBW:=Lib.hid B2.out.drew
  have HCE:=Lib.hid (show∀W',KL wc W'→W'.cell? ⟨IB,1,none⟩=some (.string n)∧W'.cell? ⟨IB,2,none⟩=some (.slice ua l.length c) from fun W' hk=>⟨(X2.out.kl hk).cells.2.1,(X2.out.kl hk).cells.2.2.1⟩)
  have hk0:KL wc wc.drew:=KL.refl wc
  have HK0:=Lib.hid hk0;clear hk0
  go_region_held3 (fun W'=>W'.cell? ⟨IB,1,none⟩=some (.string n)∧W'.cell? ⟨IB,2,none⟩=some (.slice ua l.length c))
   (first|exact HCE.out _ HK4.out|exact HCE.out _ HK3.out|exact HCE.out _ HK0.out|go_keep)
   (first
     |(go_at_call 133;(with_reducible refine (HE0.out _ HBW.out).mono ?_);rintro e w3 ⟨rfl,hb3⟩;have HK3:=Lib.hid (HK0.out.trans (KL.below hb3));have HW3:=Lib.hid (WD.out.later hb3);have HB3:=Lib.hid (HBW.out.trans (hb3.mono HBW.out.size)))
     |(go_at_call 132;(refine (lString_any _ b _ _ _ HW3.out (by rw [hsa];omega) HB3.out.size).mono ?_);rintro e w4 ⟨rfl,h4,hb4,hk4⟩;have HK4:=Lib.hid (HK3.out.trans hk4)))
  all_goals
   have W3:=Lib.hid h4;have B3:=Lib.hid (HB3.out.trans hb4);have K3:=Lib.hid (K2.out.trans HK4.out);have X3:=Lib.hid (X2.out.kl HK4.out)
   clear h4 hb4 hk4 hb3 x0 x1 x2 x3
   obtain ⟨x0,x1,x2,x3⟩:=X3.out.cells
   rw [HL.out] at W3
   go_wp2_with fail
   refine (note_w w0 w4 b _ 3 n t ua l.length c B3.out W3.out (by have:=textE_len l;simp;omega) ht).mono ?_
   rintro e w5 ⟨rfl,h5,hb5,hk5⟩
   have K5:=Lib.hid (K3.out.trans hk5);clear hk5
   go_wp2
   go_end0
   exact ⟨rfl,by rw [←List.append_assoc T,HT2.out];simpa using h5,hb5,K5.out⟩
theorem item_w4 (w0 w:World) (b:Nat) (T:List UInt8) (n t:ByteArray) (l:List Cl) (ua:Option Addr) (c D:Nat) (hb:Below w0.heap.size w0 w) (hw:LwAt w0.heap.size b T w) (hn:n.size≤1048576) (ht:t.size≤1048576) (hD:D≤4) (hlen:T.length≤400000000):
  Calls Tryz.prog 87 #[.pointer (some ⟨b,0,none⟩), .agg #[.int .i64 4, .string n, .slice ua l.length c, .string t], .int .i64 (D:Int)] w (LwD w0 w b (T++(spL (2*D)++((n.data.toList++[32,123])++noteT 4 t)))):=by
 have X1:=Lib.hid (BxAt.new w 4 n (.slice ua l.length c) t)
 have W1:=Lib.hid (hw.later ((Below.refl _ w).alloc (Nat.le_refl _) (.cells #[.int .i64 4, .string n, .slice ua l.length c, .string t] 32)));have B1:=Lib.hid (hb.alloc hb.size (.cells #[.int .i64 4, .string n, .slice ua l.length c, .string t] 32));have K1:=Lib.hid (KL.alloc w (.cells #[.int .i64 4, .string n, .slice ua l.length c, .string t] 32))
 have hsl:=sz_list n
 have hsp:(baL (spL (2*D))).size≤8:=by rw [sp_size];omega
 have hspl:(spL (2*D)).length≤8:=by simp [spL];omega
 have WD:=Lib.hid (W1.out.later (Below.refl _ (w.alloc (.cells #[.int .i64 4, .string n, .slice ua l.length c, .string t] 32))).drew)
 have KD:=Lib.hid (show KL (w.alloc (.cells #[.int .i64 4, .string n, .slice ua l.length c, .string t] 32)) (w.alloc (.cells #[.int .i64 4, .string n, .slice ua l.length c, .string t] 32)).drew from KL.refl _)
 have hs1: ¬9223372036854775807<n.size+2:=by omega
 have hsn:(n++⟨#[32,123]⟩:ByteArray).size=n.size+2:=by rw [ByteArray.size_append];rfl
 have HL:=Lib.hid (show (n++⟨#[32,123]⟩:ByteArray).data.toList=n.data.toList++[32,123] by simp)
 clear hw hb
 obtain ⟨x0,x1,x2,x3⟩:=X1.out.cells
 go_enter Tryz.func87,Tryz.ntmps87
 go_upto_region 2 with fail
 go_cut [4] (fun x wx=>x= .pointer (some ⟨w.heap.size,0,none⟩)∧LwAt w0.heap.size b (T++spL (2*D)) wx∧Below w0.heap.size w0 wx∧KL (w.alloc (.cells #[.int .i64 4, .string n, .slice ua l.length c, .string t] 32)) wx)
 case first=>
  go_region_with (first
   |(go_at_call 89;(refine (rep_sp D hD _).mono ?_);rintro e wq ⟨rfl,hwq⟩;subst hwq)
   |(go_at_call 132;(refine (lString_any _ b _ _ _ WD.out (by omega) B1.out.drew.size).mono ?_);rintro e w3 ⟨rfl,h3,hb3,hk3⟩))
  all_goals (go_wp2_with fail;go_meet;exact ⟨rfl,h3,B1.out.drew.trans hb3,KD.out.trans hk3⟩)
 case rest=>
  obtain ⟨rfl,hW,hB,hK⟩:=hcut
  have W2:=Lib.hid hW;have B2:=Lib.hid hB;have K2:=Lib.hid (K1.out.trans hK);have X2:=Lib.hid (X1.out.kl hK)
  clear hW hB hK x0 x1 x2 x3 W1 B1 K1 WD KD X1
  have hl2:(T++spL (2*D)).length≤400000008:=by rw [List.length_append];omega
  obtain ⟨T2,hT2⟩: ∃x,T++spL (2*D)=x:=⟨_,rfl⟩
  rw [hT2] at hl2 W2
  have HT2:=Lib.hid hT2;clear hT2
  have WD:=Lib.hid (W2.out.later (Below.refl wc.heap.size wc).drew)
  have KD:=Lib.hid (K2.out.trans (show KL wc wc.drew from KL.refl wc))
  generalize w.heap.size=IB at X2
  obtain ⟨x0,x1,x2,x3⟩:=X2.out.cells
  go_wp2_with fail
  go_region_with (go_at_call 132;(refine (lString_any _ b _ _ _ WD.out (by rw [hsn];omega) B2.out.drew.size).mono ?_);rintro e w3 ⟨rfl,h3,hb3,hk3⟩)
  all_goals
   have W3:=Lib.hid h3;have B3:=Lib.hid (B2.out.drew.trans hb3);have K3:=Lib.hid (KD.out.trans hk3);have X3:=Lib.hid ((X2.out.kl (show KL wc wc.drew from KL.refl wc)).kl hk3)
   clear h3 hb3 hk3 x0 x1 x2 x3
   obtain ⟨x0,x1,x2,x3⟩:=X3.out.cells
   rw [HL.out] at W3
   go_wp2_with fail
   refine (note_w w0 w3 b _ 4 n t ua l.length c B3.out W3.out (by simp;omega) ht).mono ?_
   rintro e w4 ⟨rfl,h4,hb4,hk4⟩
   have K4:=Lib.hid (K3.out.trans hk4);clear hk4
   go_wp2
   go_end0
   exact ⟨rfl,by rw [←List.append_assoc T,HT2.out];simpa using h4,hb4,K4.out⟩
theorem item_w5 (w0 w:World) (b:Nat) (T:List UInt8) (n t:ByteArray) (l:List Cl) (ua:Option Addr) (c D:Nat) (hb:Below w0.heap.size w0 w) (hw:LwAt w0.heap.size b T w) (hn:n.size≤1048576) (ht:t.size≤1048576) (hD:D≤4) (hlen:T.length≤400000000):
  Calls Tryz.prog 87 #[.pointer (some ⟨b,0,none⟩), .agg #[.int .i64 5, .string n, .slice ua l.length c, .string t], .int .i64 (D:Int)] w (LwD w0 w b (T++(spL (2*D)++(([125])++noteT 5 t)))):=by
 have X1:=Lib.hid (BxAt.new w 5 n (.slice ua l.length c) t)
 have W1:=Lib.hid (hw.later ((Below.refl _ w).alloc (Nat.le_refl _) (.cells #[.int .i64 5, .string n, .slice ua l.length c, .string t] 32)));have B1:=Lib.hid (hb.alloc hb.size (.cells #[.int .i64 5, .string n, .slice ua l.length c, .string t] 32));have K1:=Lib.hid (KL.alloc w (.cells #[.int .i64 5, .string n, .slice ua l.length c, .string t] 32))
 have hsl:=sz_list n
 have hsp:(baL (spL (2*D))).size≤8:=by rw [sp_size];omega
 have hspl:(spL (2*D)).length≤8:=by simp [spL];omega
 have WD:=Lib.hid (W1.out.later (Below.refl _ (w.alloc (.cells #[.int .i64 5, .string n, .slice ua l.length c, .string t] 32))).drew)
 have KD:=Lib.hid (show KL (w.alloc (.cells #[.int .i64 5, .string n, .slice ua l.length c, .string t] 32)) (w.alloc (.cells #[.int .i64 5, .string n, .slice ua l.length c, .string t] 32)).drew from KL.refl _)
 clear hw hb
 obtain ⟨x0,x1,x2,x3⟩:=X1.out.cells
 go_enter Tryz.func87,Tryz.ntmps87
 go_upto_region 2 with fail
 go_cut [4] (fun x wx=>x= .pointer (some ⟨w.heap.size,0,none⟩)∧LwAt w0.heap.size b (T++spL (2*D)) wx∧Below w0.heap.size w0 wx∧KL (w.alloc (.cells #[.int .i64 5, .string n, .slice ua l.length c, .string t] 32)) wx)
 case first=>
  go_region_with (first
   |(go_at_call 89;(refine (rep_sp D hD _).mono ?_);rintro e wq ⟨rfl,hwq⟩;subst hwq)
   |(go_at_call 132;(refine (lString_any _ b _ _ _ WD.out (by omega) B1.out.drew.size).mono ?_);rintro e w3 ⟨rfl,h3,hb3,hk3⟩))
  all_goals (go_wp2_with fail;go_meet;exact ⟨rfl,h3,B1.out.drew.trans hb3,KD.out.trans hk3⟩)
 case rest=>
  obtain ⟨rfl,hW,hB,hK⟩:=hcut
  have W2:=Lib.hid hW;have B2:=Lib.hid hB;have K2:=Lib.hid (K1.out.trans hK);have X2:=Lib.hid (X1.out.kl hK)
  clear hW hB hK x0 x1 x2 x3 W1 B1 K1 WD KD X1
  have hl2:(T++spL (2*D)).length≤400000008:=by rw [List.length_append];omega
  obtain ⟨T2,hT2⟩: ∃x,T++spL (2*D)=x:=⟨_,rfl⟩
  rw [hT2] at hl2 W2
  have HT2:=Lib.hid hT2;clear hT2
  have WD:=Lib.hid (W2.out.later (Below.refl wc.heap.size wc).drew)
  have KD:=Lib.hid (K2.out.trans (show KL wc wc.drew from KL.refl wc))
  generalize w.heap.size=IB at X2
  obtain ⟨x0,x1,x2,x3⟩:=X2.out.cells
  go_wp2_with fail
  refine (lByte_any _ b _ 125 125 (by decide) _ W2.out (by omega) B2.out.size).mono ?_
  rintro e w3 ⟨rfl,h3,hb3,hk3⟩
  have W3:=Lib.hid h3;have B3:=Lib.hid (B2.out.trans hb3);have K3:=Lib.hid (K2.out.trans hk3);have X3:=Lib.hid (X2.out.kl hk3)
  clear h3 hb3 hk3 x0 x1 x2 x3
  obtain ⟨x0,x1,x2,x3⟩:=X3.out.cells
  go_wp2_with fail
  refine (note_w w0 w3 b _ 5 n t ua l.length c B3.out W3.out (by simp;omega) ht).mono ?_
  rintro e w4 ⟨rfl,h4,hb4,hk4⟩
  have K4:=Lib.hid (K3.out.trans hk4);clear hk4
  go_wp2
  go_end0
  exact ⟨rfl,by rw [←List.append_assoc T,HT2.out];simpa using h4,hb4,K4.out⟩
theorem item_w1 (w0 w:World) (b:Nat) (T:List UInt8) (n t:ByteArray) (l:List Cl) (ua:Option Addr) (c D:Nat) (hb:Below w0.heap.size w0 w) (hw:LwAt w0.heap.size b T w):
  Calls Tryz.prog 87 #[.pointer (some ⟨b,0,none⟩), .agg #[.int .i64 1, .string n, .slice ua l.length c, .string t], .int .i64 (D:Int)] w (LwD w0 w b T):=by
 have W1:=Lib.hid (hw.later ((Below.refl _ w).alloc (Nat.le_refl _) (.cells #[.int .i64 1, .string n, .slice ua l.length c, .string t] 32)));have B1:=Lib.hid (hb.alloc hb.size (.cells #[.int .i64 1, .string n, .slice ua l.length c, .string t] 32));have K1:=Lib.hid (KL.alloc w (.cells #[.int .i64 1, .string n, .slice ua l.length c, .string t] 32))
 clear hw hb
 go_enter Tryz.func87,Tryz.ntmps87
 go_wp2
 go_end0
 exact ⟨rfl,W1.out,B1.out,K1.out⟩
theorem item_w (w0 w:World) (b:Nat) (T:List UInt8) (i:It) (u:Value) (D:Nat) (hv:itemB i=true∨i.1=3) (hb:Below w0.heap.size w0 w) (hw:LwAt w0.heap.size b T w) (hr:RowC w0 u i.2.2.1) (hz:SizedC i.2.2.1) (htab:Tab w0) (hn:i.2.1.size≤1048576) (ht:i.2.2.2.size≤1048576) (hD:D≤4) (hlen:T.length≤400000000):
  Calls Tryz.prog 87 #[.pointer (some ⟨b,0,none⟩), .agg #[.int .i64 i.1, .string i.2.1,u, .string i.2.2.2], .int .i64 (D:Int)] w (LwD w0 w b (T++lineI i D 0)):=by
 obtain ⟨k,n,l,t⟩:=i
 obtain ⟨ua,c,rfl,-⟩:=id hr
 simp only at hr hz hn ht⊢
 have hk:k=1∨k=2∨k=3∨k=4∨k=5:=by
  rcases hv with hv|hv
  case inr=>simp only at hv;omega
  unfold itemB at hv
  simp only at hv
  by_cases h1:k=1; · omega
  by_cases h2:k=2; · omega
  by_cases h3:k=3; · omega
  by_cases h4:k=4; · omega
  by_cases h5:k=5; · omega
  rw [if_neg (by omega),if_neg h2,if_neg h3,if_neg h4] at hv;cases hv
 have hs0:spL (0-n.size)=[]:=by rw [Nat.zero_sub];rfl
 rcases hk with rfl|rfl|rfl|rfl|rfl
 ·have:=item_w1 w0 w b T n t l ua c D hb hw
  rw [show T++lineI (1,n,l,t) D 0=T by simp [lineI]];exact this
 ·have:=item_w2 w0 w b T n t l ua c D hb hw hn ht hD hlen
  rw [show lineI (2,n,l,t) D 0=spL (2*D)++(([35])++noteT 2 t) by simp [lineI,coreI,noteT]];exact this
 ·have:=item_w3 w0 w b T n t l ua c D hb hw hr hz htab hn ht hD hlen
  rw [show lineI (3,n,l,t) D 0=spL (2*D)++((n.data.toList++([32,61,32]++textE l))++noteT 3 t) by simp [lineI,coreI,noteT,spL]];exact this
 ·have hv:=hv.resolve_right (by simp)
  have hem:emB t=true:=by
   simp only [itemB,show¬((4:Int)=1∨(4:Int)=5) by decide,show¬(4:Int)=2 by decide,show¬(4:Int)=3 by decide,if_false,if_true,Bool.and_eq_true] at hv
   exact hv.2.2
  have:=item_w4 w0 w b T n t l ua c D hb hw hn ht hD hlen
  rw [show lineI (4,n,l,t) D 0=spL (2*D)++((n.data.toList++[32,123])++noteT 4 t) by simp [lineI,coreI,noteT_em hem]];exact this
 ·have hv:=hv.resolve_right (by simp)
  have hem:emB t=true:=by
   unfold itemB at hv
   rw [if_pos (.inr rfl)] at hv
   simp only [Bool.and_eq_true] at hv
   exact hv.2.2
  have:=item_w5 w0 w b T n t l ua c D hb hw hn ht hD hlen
  rw [show lineI (5,n,l,t) D 0=spL (2*D)++(([125])++noteT 5 t) by simp [lineI,coreI,noteT_em hem]];exact this
end Go.Proofs.YtegdjjjpoahamaaGreatDoor
