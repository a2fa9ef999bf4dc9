/-
  Part of the proof of FnReadItem.
-/
import Derived.Test.YthijkjnngfnfdaaGreatDoorQRan
set_option linter.unusedVariables false
set_option maxHeartbeats 4000000
set_option maxRecDepth 100000
namespace Go.Proofs.YthijkjnngfnfdaaGreatDoor
open Go.RowKit
theorem adG {i:It} {d:Int} (h: ¬(aM i=true∧inI d 0 4=true)):fJ i d=⟨#[]⟩:=by unfold fJ;rw [if_neg h]
theorem aa5 {i:It} {D:Nat} (h:aM i=true) (hD:D≤4):fJ i (D:Int)=⟨(bv i D 0).toArray⟩:=by
 unfold fJ;rw [if_pos ⟨h,m5.mpr ⟨by omega,by omega⟩⟩];rfl
theorem qU (i:It) (u:Value) (d:Int) (w:World) (hr:RowC w u i.2.2.1) (hn:i.2.1.size≤1048576) (hz:em i.2.2.1) (ht:i.2.2.2.size≤1048576) (htab:Tab w):
  Calls Tryz.prog 11 #[.agg #[.int .i64 i.1, .string i.2.1,u, .string i.2.2.2], .int .i64 d] w fun e w'=>e= .returned (.string (fJ i d))∧Below w.heap.size w w':=by
 have HB1:=aim ((Below.refl w.heap.size w).alloc (ain _) (.cells #[.int .i64 i.1, .string i.2.1,u, .string i.2.2.2] 25));have HR1:=aim (hr.mono HB1.out);have HT1:=aim (htab.keep HB1.out);have HI1:=aim (It4.new w (.int .i64 i.1) (.string i.2.1) u (.string i.2.2.2) 25);have HC:=aim (fU i u _ HR1.out (by unfold maxLen;omega) hz (by unfold maxLen;omega) HT1.out);have HNO:=aim (adG (i:=i) (d:=d));have HLY:=aim (fun (D:Nat)=>aa5 (i:=i) (D:=D));have HIW:=aim (fun (w0 w1:World) (b:Nat) (D:Nat) (hv:aM i=true) (hb:Below w0.heap.size w0 w1) (hw:LwAt w0.heap.size b [] w1) (hr':RowC w0 u i.2.2.1) (ht':Tab w0) (hD:D≤4)=>aeD w0 w1 b [] i u D hv hb hw hr' hz ht' hn ht hD (by simp));obtain ⟨ao,cap,hu,-,-,-⟩:=hr;generalize hgv:aM i=V at*;generalize hgl:fJ i d=L at*;obtain ⟨k,n,l,t⟩:=i;simp only at hu HC HNO HLY HIW HI1 HB1 HR1 hn ht⊢;subst hu;clear hz htab hgv;obtain ⟨⟨z0,z1,z2,z3⟩,-,hz⟩:=HI1.out
 by_cases hd0:d<0
 ·have hL:=HNO.out (fun h=>by have:=(m5.mp h.2).1;omega)
  clear HNO HLY HIW HC hgl
  go_enter Tryz.func11,Tryz.ntmps11
  go_wp2;go_ret;exact ⟨by first|rfl|(rw [hL];rfl),HB1.out⟩
 by_cases hd4:4<d
 ·have hL:=HNO.out (fun h=>by have:=(m5.mp h.2).2;omega)
  clear HNO HLY HIW HC hgl
  go_enter Tryz.func11,Tryz.ntmps11
  go_wp2;go_ret;exact ⟨by first|rfl|(rw [hL];rfl),HB1.out⟩
 obtain ⟨D,rfl⟩: ∃D:Nat,d=(D:Int):=⟨d.toNat,by omega⟩
 cases V with
 |false=>
  have hL:=HNO.out (fun h=>by cases h.1);clear HNO HLY HIW hgl
  go_enter Tryz.func11,Tryz.ntmps11
  go_wp2_with fail;refine HC.out.mono ?_;rintro e w2 ⟨rfl,hb2⟩;have HB2:=aim (HB1.out.trans (hb2.mono HB1.out.size));clear hb2;go_wp2;go_ret;exact ⟨by first|rfl|(rw [hL];rfl),HB2.out⟩
 |true=>
  have HL:=aim (hgl.symm.trans (HLY.out D rfl (by omega)))
  have hD4:D≤4:=by omega
  clear HNO HLY hgl
  go_enter Tryz.func11,Tryz.ntmps11
  go_wp2_with fail;refine HC.out.mono ?_;rintro e w2 ⟨rfl,hb2⟩;have HB2:=aim (HB1.out.trans (hb2.mono HB1.out.size));have HR2:=aim (HR1.out.mono hb2);have HT2:=aim (HT1.out.keep hb2);have HI2:=aim ((HI1.out.keep hb2).al (.cells #[.pointer none, .slice none 0 0] 66));have HBW:=aim ((Below.refl w2.heap.size w2).alloc (ain _) (.cells #[.pointer none, .slice none 0 0] 66));clear hb2 z0 z1 z2 z3 hz;obtain ⟨⟨z0,z1,z2,z3⟩,-,hz⟩:=HI2.out;go_wp2_with fail;refine (HIW.out w2 _ w2.heap.size D (by simp) HBW.out (LwAt.new w2) HR2.out HT2.out hD4).mono ?_;rintro e w3 ⟨rfl,h3,hb3,-⟩;rw [List.nil_append] at h3;have H3:=aim h3;have HB3:=aim hb3;clear h3 hb3;go_wp2_with fail;refine (rh w2.heap.size w2.heap.size _ w3 H3.out HB3.out.size).mono ?_;rintro e w4 ⟨rfl,hb4⟩;have HB4:=aim (HB2.out.trans ((HB3.out.trans hb4).mono HB2.out.size));clear hb4;go_wp2;go_ret;exact ⟨by first|rfl|(rw [HL.out];rfl),HB4.out⟩
end Go.Proofs.YthijkjnngfnfdaaGreatDoor
