/-
  Part of the proof of FnReadDocument.
-/
import Derived.Test.YtegdjjjpoahamaaGreatDoorQQRbf
import Derived.Test.YtegdjjjpoahamaaGreatDoorQQRav
set_option linter.unusedVariables false
set_option maxHeartbeats 8000000
set_option maxRecDepth 100000
namespace Go.Proofs.YtegdjjjpoahamaaGreatDoor
open Go.RowKit
def AnyR (R p:Nat) (w:World) (e:Ending) (w':World):Prop:=
 ∃(v:Value) (l:List It),e= .returned v∧RowIt w' v l∧(∀i∈l,gH i)∧l.length≤100∧Rdm w' R (p+400000)∧w.grownBy w' (some R)
def tn:Prop:= ∀(R p:Nat) (n:Int) (w:World),p+500000<30000000→0≤n→n≤1000→Rdm w R p→
 Calls Tryz.prog 47 #[.pointer (some ⟨R,0,none⟩), .int .i64 n] w (AnyR R p w)
theorem oq {i:It} (h:gH i):i.2.1.size≤1048576∧co i.2.2.1∧i.2.2.1.length≤1048576∧i.2.2.2.size≤1048576:=
 ⟨by have:=h.1;omega,fun c hc=>by have:=h.2.1 c hc;omega,by have:=h.2.2.1;omega,by have:=h.2.2.2;omega⟩
theorem tp {l:List It} (h: ∀i∈l,gH i):fm l:=fun i hi=>oq (h i hi)
def LnD (s:ByteArray):Prop:=s.size≤20∨ ∃(i:It) (D:Nat),D≤4∧gH i∧aP i=true∧s=baL (bj i D 0)
def afA (R p:Nat) (w:World) (e:Ending) (w':World):Prop:=
 ∃s:ByteArray,e= .returned (.string s)∧LnD s∧Rdm w' R (p+3003)∧w.grownBy w' (some R)
theorem aco {i:It} (d:Int) (h:gH i):LnD (mL i d):=by
 unfold mL
 split
 ·rename_i hc
  have:=xG.mp hc.2;exact .inr ⟨i,d.toNat,by omega,h,hc.1,rfl⟩
 ·exact .inl (by show (⟨#[]⟩:ByteArray).size≤20;exact agH _)
theorem afB (m:Nat) (h:m<23): ∃t:ByteArray,t.size≤20∧(#[Value.string ⟨#[]⟩, .string ⟨#[32,32,32]⟩, .string ⟨#[125]⟩, .string ⟨#[32,125,32]⟩, .string ⟨#[35]⟩, .string ⟨#[35,120]⟩, .string ⟨#[113,32,123]⟩, .string ⟨#[113,123]⟩, .string ⟨#[113,32,32,123]⟩, .string ⟨#[97,61,49]⟩, .string ⟨#[97,32,61,32]⟩, .string ⟨#[97,32,61,61,32,49]⟩, .string ⟨#[65,32,61,32,49]⟩, .string ⟨#[113,46,97,32,61,32,49]⟩, .string ⟨#[97,32,61,32,49,32,35,32,120]⟩, .string ⟨#[97,32,61,32,34,35,34]⟩, .string ⟨#[97,32,61,32,34,120]⟩, .string ⟨#[125,32,120]⟩, .string ⟨#[123]⟩, .string ⟨#[97]⟩, .string ⟨#[116,114,117,101,32,61,32,49]⟩, .string ⟨#[97,32,61,32,49,32,35]⟩, .string ⟨#[97,32,123,32,35,32,120]⟩]:Array Value)[m]? =some (.string t):=by
 match m,h with
 |0,_=>exact ⟨_,by decide,rfl⟩
 |1,_=>exact ⟨_,by decide,rfl⟩
 |2,_=>exact ⟨_,by decide,rfl⟩
 |3,_=>exact ⟨_,by decide,rfl⟩
 |4,_=>exact ⟨_,by decide,rfl⟩
 |5,_=>exact ⟨_,by decide,rfl⟩
 |6,_=>exact ⟨_,by decide,rfl⟩
 |7,_=>exact ⟨_,by decide,rfl⟩
 |8,_=>exact ⟨_,by decide,rfl⟩
 |9,_=>exact ⟨_,by decide,rfl⟩
 |10,_=>exact ⟨_,by decide,rfl⟩
 |11,_=>exact ⟨_,by decide,rfl⟩
 |12,_=>exact ⟨_,by decide,rfl⟩
 |13,_=>exact ⟨_,by decide,rfl⟩
 |14,_=>exact ⟨_,by decide,rfl⟩
 |15,_=>exact ⟨_,by decide,rfl⟩
 |16,_=>exact ⟨_,by decide,rfl⟩
 |17,_=>exact ⟨_,by decide,rfl⟩
 |18,_=>exact ⟨_,by decide,rfl⟩
 |19,_=>exact ⟨_,by decide,rfl⟩
 |20,_=>exact ⟨_,by decide,rfl⟩
 |21,_=>exact ⟨_,by decide,rfl⟩
 |22,_=>exact ⟨_,by decide,rfl⟩
 |m+23,h=>omega
theorem tL (R p:Nat) (w:World) (hp:p+5000<100000000) (h:Rdm w R p):
  Calls Tryz.prog 100 #[.pointer (some ⟨R,0,none⟩)] w (afA R p w):=by
 have BG:=agC h.lt
 go_enter Tryz.func100,Tryz.ntmps100
 go_wp2_with fail;refine (oj R p 0 _ (by omega) (by omega) (by omega) h).mono ?_;rintro e w1 ⟨i,a,c,rfl,hk,hf,Ck,hg1⟩;have Cr:=agC hg1;have C7:=agC hk;have HF:=agC hf;have Er:=agC hg1.size;clear hg1 hk hf h;go_wp2_with fail;refine (aj R (p+3000) 3 _ (by omega) Ck).mono ?_;rintro e w2 ⟨j,rfl,Ed,CE,-,AM,hg2,D7⟩;have Ab:=BG.out;have Cj:=Er.out;have C8:=agC ((C7.out.keep (fun b hb hl=>hg2.block b hl (fun e=>by injection e with e;omega)) hg2.size).row);have Bi:=agC (af Cr.out hg2);have Mw:=agC (oq HF.out);clear hg2 D7 Ck CE;obtain ⟨k,n,l,t⟩:=i;have Ps:=agC (o7 (k,n,l,t) (.slice a l.length c) j w2 C8.out Mw.out.1 Mw.out.2.1 Mw.out.2.2.1 Mw.out.2.2.2);have DW:=agC (aco j HF.out);simp only at Ps;clear C7 C8 Mw HF;generalize mL (k,n,l,t) j=s at Ps DW;go_wp2_with fail;refine Ps.out.mono ?_;rintro e w3 ⟨rfl,Ag⟩;have AF:w2.grownBy w3 (some R):=⟨Ag.os,Ag.tape,Ag.output,Ag.size,fun i hi _=>Ag.block i hi⟩;have AR:Rdm w3 R (p+3001):=AM.kept (row:=none) ⟨Ag.os,Ag.tape,Ag.output,Ag.size,fun i hi _=>Ag.block i hi⟩ (by simp);have AE:=agC (af Bi.out AF);clear AF Ag AM;go_wp2_with fail;refine (fH R (p+3001) 3 _ (by omega) (by omega) (by omega) AR).mono ?_;rintro e w4 ⟨b,rfl,-,Bg,AW,FW⟩;have AV:=agC (af AE.out AW);clear AW FW AR
 cases b with
 |true=>
  go_wp2_with fail;refine (aj R (p+3002) 23 _ (by omega) (Bg.kept (agF w4 _ none) (by simp))).mono ?_;rintro e w5 ⟨m,rfl,GJ,Co,-,Bh,AS,FG⟩;have DZ:=Co (by omega);obtain ⟨m1,rfl⟩:=agG GJ;obtain ⟨t,ht,Aq⟩:=afB m1 (by omega);have hcell:=cX Bg.lt AS Aq;have Bk:=agC (af (bq AV.out _) AS);clear Co AS FG Aq Bg AV;go_wp2;go_ret;exact ⟨_,rfl, .inl ht,Bh.mono (by omega),Bk.out⟩
 |false=>
  go_wp2;go_ret;exact ⟨_,rfl,DW.out,Bg.mono (by omega),AV.out⟩
def aeP (R p K:Nat) (w:World) (e:Ending) (w':World):Prop:=
 ∃(v:Value) (l:List It),e= .returned v∧RowIt w' v l∧(∀i∈l,gH i)∧l.length≤100∧Rdm w' R (p+K)∧w.grownBy w' (some R)
def yh:Prop:= ∀(R p:Nat) (w:World),p+499000<30000000→Rdm w R p→
 Calls Tryz.prog 80 #[.pointer (some ⟨R,0,none⟩)] w (aeP R p 399000 w)
def aeQ:Prop:= ∀(R p:Nat) (n:Int) (w:World),p+499000<30000000→0≤n→n≤1000→Rdm w R p→
 Calls Tryz.prog 81 #[.pointer (some ⟨R,0,none⟩), .int .i64 n] w (aeP R p 399000 w)
theorem afX (hs:yh) (hd:aeQ):tn:=by
 intro R p n w hp Ch BO h;have HS:=agC hs;have HD:=agC hd;clear hs hd
 go_enter Tryz.func47,Tryz.ntmps47
 go_wp2_with fail;refine (aj R p 2 _ (by omega) h).mono ?_;rintro e w1 ⟨j,rfl,Ed,CE,-,Ck,hg1,Cj⟩;have Cr:=agC hg1;clear hg1 Cj h
 by_cases j0:j=0
 ·subst j0
  go_wp2_with fail;refine (HS.out R (p+1) w1 (by omega) Ck).mono ?_;rintro e w2 ⟨v,l,rfl,Be,hf,hl,AM,hg2⟩;have Bi:=agC (af Cr.out hg2);have HW:=agC Be;clear hg2 Be;go_wp2;go_ret;exact ⟨v,l,rfl,HW.out,hf,hl,AM.mono (by omega),Bi.out⟩
 ·have t0:(j==0)=false:=beq_eq_false_iff_ne.mpr j0
  go_wp2_with fail;refine (HD.out R (p+1) n w1 (by omega) Ch BO Ck).mono ?_;rintro e w2 ⟨v,l,rfl,Be,hf,hl,AM,hg2⟩;have Bi:=agC (af Cr.out hg2);have HW:=agC Be;clear hg2 Be;go_wp2;go_ret;exact ⟨v,l,rfl,HW.out,hf,hl,AM.mono (by omega),Bi.out⟩
end Go.Proofs.YtegdjjjpoahamaaGreatDoor
