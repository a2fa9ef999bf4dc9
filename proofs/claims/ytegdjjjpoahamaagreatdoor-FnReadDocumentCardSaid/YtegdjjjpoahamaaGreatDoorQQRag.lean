/-
  Part of the proof of FnReadDocument.
-/
import Derived.Test.YtegdjjjpoahamaaGreatDoorQQRad
import Derived.Test.YtegdjjjpoahamaaGreatDoorQQRae
import Derived.Test.YtegdjjjpoahamaaGreatDoorQQRaf
import Derived.Lib.Strings
import Derived.Lib.Builder
import Derived.Lib.UnsafeStr
import Derived.Lib.Hide
import Derived.WalkKit
import Derived.Laws.Externs
import Derived.Below
import Derived.Deep.QuietTactic
import Derived.BigQuiet
set_option linter.unusedVariables false
set_option maxHeartbeats 4000000
set_option maxRecDepth 100000
namespace Go.Proofs.YtegdjjjpoahamaaGreatDoor
abbrev It:=Int×ByteArray×List Cl×ByteArray
noncomputable def aP (i:It):Bool:=
 if i.1=1∨i.1=5 then emB i.2.1&&(i.2.2.1.isEmpty&&emB i.2.2.2)
 else if i.1=2 then emB i.2.1&&(i.2.2.1.isEmpty&&eG i.2.2.2)
 else if i.1=3 then fw i.2.1&&(okE i.2.2.1&&eG i.2.2.2)
 else if i.1=4 then fw i.2.1&&(i.2.2.1.isEmpty&&emB i.2.2.2)
 else false
def fq (d:Int) (i:It):Int:=if i.1=5 then d-1 else d
def dO (d:Int) (i:It):Int:=if i.1=4 then fq d i+1 else fq d i
def aZ:Int→List It→Option Int
 |d,[]=>some d
 |d,i::is=>if 0≤dO d i∧dO d i≤4 then aZ (dO d i) is else none
def dL:Int→List It→List Int
 |_,[]=>[]
 |d,i::is=>fq d i::dL (dO d i) is
def mZ:Int→List It→Int
 |d,[]=>d
 |d,i::is=>mZ (dO d i) is
noncomputable def dT (l:List It):Bool:=decide (l.length≤30)&&(l.all aP&&decide (aZ 0 l=some 0))
theorem bP (l:List It):dT l=true↔l.length≤30∧l.all aP=true∧aZ 0 l=some 0:=by
 unfold dT;simp only [Bool.and_eq_true,decide_eq_true_eq]
theorem hJ: ∀(a b:List It) (d:Int),aZ d (a++b)=(aZ d a).bind fun e=>aZ e b:=by
 intro a
 induction a with
 |nil=>intro b d;rfl
 |cons i a ih=>
  intro b d
  show (if _ then aZ (dO d i) (a++b) else none)=Option.bind (if _ then aZ (dO d i) a else none) _
  split
  ·exact ih b _
  ·rfl
theorem cj: ∀(l:List It) (d:Int),(dL d l).length=l.length:=by
 intro l
 induction l with
 |nil=>intro d;rfl
 |cons i l ih=>intro d;rw [dL,List.length_cons,List.length_cons,ih]
theorem nF: ∀(a b:List It) (d:Int),dL d (a++b)=dL d a++dL (mZ d a) b:=by
 intro a
 induction a with
 |nil=>intro b d;rfl
 |cons i a ih=>intro b d;show fq d i::dL (dO d i) (a++b)=_;rw [ih];rfl
theorem abg: ∀(a b:List It) (d:Int),mZ d (a++b)=mZ (mZ d a) b:=by
 intro a
 induction a with
 |nil=>intro b d;rfl
 |cons i a ih=>intro b d;exact ih b _
theorem jE: ∀(l:List It) (d e:Int),aZ d l=some e→mZ d l=e:=by
 intro l
 induction l with
 |nil=>intro d e h;injection h
 |cons i l ih=>
  intro d e h;rw [aZ] at h
  split at h
  ·exact ih _ _ h
  ·cases h
theorem sr {l:List It} {d e:Int} (h:aZ d l=some e) (k:Nat) (hk:k≤l.length):aZ d (l.take k)=some (mZ d (l.take k)):=by
 have:aZ d (l.take k++l.drop k)=some e:=by rw [List.take_append_drop];exact h
 rw [hJ] at this
 cases hp:aZ d (l.take k) with
 |none=>rw [hp] at this;cases this
 |some x=>rw [jE _ _ _ hp]
theorem xF: ∀(l:List It) (d e:Int),0≤d→d≤4→aZ d l=some e→0≤e∧e≤4:=by
 intro l
 induction l with
 |nil=>intro d e h0 h1 h;injection h with h;omega
 |cons i l ih=>
  intro d e h0 h1 h;rw [aZ] at h
  split at h
  ·rename_i hc;exact ih _ _ hc.1 hc.2 h
  ·cases h
theorem qH: ∀(l:List It) (d:Int) (k:Nat) (hk:k<l.length),(dL d l)[k]'(by rw [cj];exact hk)=fq (mZ d (l.take k)) l[k]:=by
 intro l
 induction l with
 |nil=>intro d k hk;simp at hk
 |cons i l ih=>
  intro d k hk
  cases k with
  |zero=>rfl
  |succ k=>exact ih (dO d i) k (by simpa using hk)
theorem yR (l:List It) (d:Int) (k:Nat) (hk:k<l.length):mZ d (l.take (k+1))=dO (mZ d (l.take k)) l[k]:=by
 rw [List.take_succ_eq_append_getElem hk,abg];rfl
theorem abh {l:List It} {d e:Int} (h:aZ d l=some e) (h0:0≤d) (h1:d≤4) (k:Nat) (hk:k<l.length):0≤fq (mZ d (l.take k)) l[k]∧fq (mZ d (l.take k)) l[k]≤4:=by
 have a:=sr h k (by omega);have b:=sr h (k+1) (by omega);have ra:=xF _ _ _ h0 h1 a;have rb:=xF _ _ _ h0 h1 b;rw [yR l d k hk] at rb;unfold dO at rb;unfold fq at rb⊢
 by_cases h5:l[k].1=5
 ·rw [if_pos h5,if_neg (by omega)] at rb;rw [if_pos h5];exact rb
 ·rw [if_neg h5];exact ra
theorem zk (c:UInt8):ba c≠[]:=by intro e;have:=(kK c).1;rw [e] at this;simp at this
theorem uY {b c:UInt8} {X Y:List UInt8} (h:ba b++X=ba c++Y):b=c∧X=Y:=by
 have h2:=congrArg (fun l=>cW (l++[34])) h;simp only [List.append_assoc] at h2;rw [mo _ _ (by simp),mo _ _ (by simp)] at h2;have SS:b=c:=(List.cons.inj h2).1;subst SS;exact ⟨rfl,List.append_cancel_left h⟩
theorem lB {a t r:List UInt8} (h:aM a++r=aM t): ∃t2,t=a++t2∧r=aM t2:=by
 induction a generalizing t with
 |nil=>exact ⟨t,rfl,by simpa [aM] using h⟩
 |cons b a ih=>
  rw [em,List.append_assoc] at h
  cases t with
  |nil=>
   exact absurd (List.append_eq_nil_iff.mp h).1 (zk b)
  |cons c t=>
   rw [em] at h;obtain ⟨rfl,h2⟩:=uY h;obtain ⟨t2,rfl,hr⟩:=ih h2;exact ⟨t2,rfl,hr⟩
theorem sP (c:UInt8) (l:List UInt8):okL (c::l)=(okI (c.toNat:Int)&&okL l):=by simp [okL]
theorem adL (a b:List UInt8):okL (a++b)=(okL a&&okL b):=by simp [okL]
def uZ (l:List UInt8):Prop:= ∀(c:UInt8) (t:List UInt8),okI (c.toNat:Int)=true→l≠ba c++t
def qP (l:List UInt8):Prop:= ∀t:List UInt8,t.length≤20000→okL t=true→l≠aM t
theorem adM {a r l:List UInt8} (h:l=aM a++r) (hr:r≠[]) (hn:uZ r):qP l:=by
 intro t h1 h2 e;obtain ⟨t2,rfl,AM⟩:=lB (h.symm.trans e)
 cases t2 with
 |nil=>exact hr AM
 |cons c t2=>
  rw [adL,sP] at h2;simp only [Bool.and_eq_true] at h2;exact hn c _ h2.2.1 (by rw [AM,em])
theorem adN {a r l:List UInt8} (h:l=aM a++r) (hr:r≠[]) (hn:a.length=20000):qP l:=by
 intro t h1 h2 e;obtain ⟨t2,rfl,AM⟩:=lB (h.symm.trans e)
 cases t2 with
 |nil=>exact hr AM
 |cons c t2=>simp at h1;omega
theorem lC {b:UInt8} {r:List UInt8} (h1:b=92→ ∀d r',r=d::r'→d≠34∧d≠92∧d≠110) (h2:b≠92→b=34∨b=10∨bV (b.toNat:Int)=false):uZ (b::r):=by
 intro c t hc e
 by_cases c10:c=10
 ·subst c10
  rw [show ba 10=[92,110] from rfl] at e;simp only [List.cons_append,List.nil_append,List.cons.injEq] at e;exact (h1 e.1 110 t e.2).2.2 rfl
 by_cases cq:c=34∨c=92
 ·have hq:ba c=[92,c]:=by unfold ba;rw [if_neg c10,if_pos cq]
  rw [hq] at e;simp only [List.cons_append,List.nil_append,List.cons.injEq] at e;have:=h1 e.1 c t e.2
  rcases cq with g|g
  ·exact this.1 g
  ·exact this.2.1 g
 ·have hq:ba c=[c]:=by unfold ba;rw [if_neg c10,if_neg cq]
  rw [hq] at e;simp only [List.cons_append,List.nil_append,List.cons.injEq] at e;obtain ⟨rfl,-⟩:=e
  rcases h2 (fun g=>cq (.inr g)) with g|g|g
  ·exact cq (.inl g)
  ·exact c10 g
  ·simp only [okI,g,Bool.or_false,beq_iff_eq] at hc
   exact c10 (UInt8.toNat_inj.mp (by rw [show (10:UInt8).toNat=10 from rfl];omega))
def iH (l:List UInt8) (c:Int) (n:Nat):Prop:=
 (c=0∧n=0∧uZ l)∨ ∃b:UInt8,c=(b.toNat:Int)∧n=(ba b).length∧okI (b.toNat:Int)=true∧l=ba b++l.drop n
theorem pV {d e:UInt8} {r:List UInt8} (h:ba e=[92,d]) (ho:okI (e.toNat:Int)=true):iH (92::d::r) (e.toNat:Int) 2:=by
 refine .inr ⟨e,rfl,by rw [h];rfl,ho, ?_⟩;rw [h];rfl
theorem zl {b:UInt8} {r:List UInt8} (h1:b≠92) (h2:b≠34) (h3:b≠10) (h4:bV (b.toNat:Int)=true):iH (b::r) (b.toNat:Int) 1:=by
 have hq:ba b=[b]:=by unfold ba;rw [if_neg h3,if_neg (by rintro (g|g);exact h2 g;exact h1 g)]
 refine .inr ⟨b,rfl,by rw [hq];rfl,by simp [okI,h4], ?_⟩;rw [hq];rfl
theorem ve {s:ByteArray} {l:List UInt8} (h:s.data.toList=34::(l++[34])):(∀t:List UInt8,t.length≤20000→okL t=true→l=aM t→bH s=true∧ga s=⟨t.toArray⟩)∧(qP l→bH s=false):=by
 refine ⟨fun t h1 h2 h3=> ?_,fun hn=>oc fun t h1 h2 h3=> ?_⟩
 ·refine vA (t:=⟨t.toArray⟩) ?_ ?_
  ·simp only [aD,h2,Bool.and_true,decide_eq_true_eq]
   simpa [ByteArray.size] using h1
  ·rw [iN,h,bc,h3]
 ·refine hn t h1 h2 ?_
  rw [h] at h3;unfold bc at h3;have h4:=(List.cons.inj h3).2;exact (List.append_cancel_right h4).symm
theorem abL {s:ByteArray} (h:Lib.hasPrefix s.data.toList [34]=false):bH s=false:=by
 refine oc fun t h1 h2 h3=> ?_
 rw [←h3] at h
 simp [Lib.hasPrefix,bc,List.isPrefixOf] at h
theorem abM {s:ByteArray} {r:List UInt8} (h0:s.data.toList=34::r) (h:Lib.hasSuffix r [34]=false):bH s=false:=by
 refine oc fun t h1 h2 h3=> ?_
 rw [h0] at h3;unfold bc at h3;have h4:=(List.cons.inj h3).2;rw [←h4] at h;have:([34]:List UInt8)<:+(aM t++[34]):=⟨aM t,rfl⟩;rw [Lib.hasSuffix,List.isSuffixOf_iff_suffix.mpr this] at h
 cases h
theorem vf {s:List UInt8} (h:Lib.hasPrefix s [34]=true):s=34::Lib.trimPrefix s [34]:=by
 unfold Lib.trimPrefix;rw [if_pos h];rw [Lib.hasPrefix,List.isPrefixOf_iff_prefix] at h;obtain ⟨r,rfl⟩:=h
 rfl
theorem vg {s:List UInt8} (h:Lib.hasSuffix s [34]=true):s=Lib.trimSuffix s [34]++[34]:=by
 unfold Lib.trimSuffix;rw [if_pos h];rw [Lib.hasSuffix,List.isSuffixOf_iff_suffix] at h;obtain ⟨r,rfl⟩:=h
 simp
theorem adU (c:UInt8) (r:List UInt8):clo false (ba c++r)=(ba c).length+clo false r:=by
 unfold ba
 split
 ·show clo false (92::110::r)=2+_
  simp only [clo];rw [if_neg (by decide),if_pos (by decide)];omega
 ·split
  ·show clo false (92::c::r)=2+_
   simp only [clo];rw [if_neg (by decide),if_pos (by decide)];omega
  ·rename_i h1 h2
   have a: ¬((c.toNat:Int)==34)=true:=by
    rw [beq_iff_eq];intro e;exact h2 (.inl (UInt8.toNat_inj.mp (by rw [show (34:UInt8).toNat=34 from rfl];omega)))
   have b: ¬((c.toNat:Int)==92)=true:=by
    rw [beq_iff_eq];intro e;exact h2 (.inr (UInt8.toNat_inj.mp (by rw [show (92:UInt8).toNat=92 from rfl];omega)))
   show clo false (c::r)=1+_
   simp only [clo];rw [if_neg a,if_neg b];omega
theorem zB (l r:List UInt8):clo false (aM l++r)=(aM l).length+clo false r:=by
 induction l with
 |nil=>simp [aM]
 |cons c l ih=>rw [em,List.append_assoc,adU,ih,agE];omega
theorem qU (c:UInt8) (h:okI (c.toNat:Int)=true):aq (ba c)=true:=by
 unfold ba
 split
 ·decide
 ·split
  ·rename_i h1 h2
   rcases h2 with e|e<;>rw [e]<;>decide
  ·rename_i h1 h2
   simp only [okI,Bool.or_eq_true,beq_iff_eq] at h
   have hp:bV (c.toNat:Int)=true:=by
    rcases h with h|h
    ·exact absurd (UInt8.toNat_inj.mp (by rw [show (10:UInt8).toNat=10 from rfl];omega)) h1
    ·exact h
   simp [aq,hp]
theorem qV (l:List UInt8) (h:okL l=true):aq (aM l)=true:=by
 induction l with
 |nil=>rfl
 |cons c l ih=>
  rw [sP] at h;simp only [Bool.and_eq_true] at h;have h1:=qU c h.1;have h2:=ih h.2;rw [em];simp only [aq,List.all_append,Bool.and_eq_true] at h1 h2⊢;exact ⟨h1,h2⟩
open Go.RowKit
theorem qn:(Tryz.prog.info? 62).map (·.size)=some 2:=by kernel_rfl
theorem agu:liesAt Tryz.prog Tryz.prog.depth 62 (2/Tryz.prog.cellsOf 62) 0 62 1=true:=by kernel_rfl
theorem oK:(Tryz.prog.info? 5).map (fun i=>(i.zero,i.size,i.bytes))=some (some (.int .u8 0),1,1):=by kernel_rfl
abbrev BAt (B b:Nat) (p:Value) (l:List UInt8) (w:World):Prop:=Lib.BuilderAt 62 5 B b p (Lib.byteCells l) w
abbrev BIs (B b:Nat) (l:List UInt8) (w:World):Prop:=Lib.IsBuilder 62 5 B b (Lib.byteCells l) w
theorem wS (b:Nat) (w:World) (h0:w.cell? ⟨b,0,none⟩=some (.pointer (some ⟨b,0,none⟩))):
  Calls Tryz.prog 135 #[.pointer (some ⟨b,0,none⟩)] w fun e w'=>e= .returned (.tuple #[])∧w=w':=by
 obtain ⟨j,hj,_⟩:=Option.map_eq_some_iff.1 qn;have hn:=Lib.run_neq_ptr_same (P:=Tryz.prog) w ⟨b,0,none⟩ Tryz.underlying60 hj;clear hj
 go_enter Tryz.func135,Tryz.ntmps135
 go_wp2;go_end0;exact ⟨rfl,rfl⟩
theorem tZ (b:Nat) (w:World) (h0:w.cell? ⟨b,0,none⟩=some (.pointer none)) (Ef:w.shape? b=some (62,2)) (hfz:w.frozen? ⟨b,0,none⟩=false):
  Calls Tryz.prog 135 #[.pointer (some ⟨b,0,none⟩)] w fun e w'=>e= .returned (.tuple #[])∧w.setCell ⟨b,0,none⟩ (.pointer (some ⟨b,0,none⟩))=w':=by
 obtain ⟨j,hj,Ml⟩:=Option.map_eq_some_iff.1 qn;have ET:=Lib.run_to_unsafe (P:=Tryz.prog) w ⟨b,0,none⟩ Tryz.underlying60 Tryz.underlying176 hj (by rw [Ml];decide) Ef (Nat.zero_lt_succ 1);have IY:=Lib.run_from_unsafe (P:=Tryz.prog) w ⟨b,0,none⟩ Tryz.underlying176 Tryz.underlying60 hj Ef agu
 have Mk:(callFunc 170 #[.pointer (some ⟨b,0,none⟩)]).run Tryz.prog w= .ok (.value (.pointer (some ⟨b,0,none⟩))) w:=by
  rw [run_callFunc_extern Tryz.func170 (by kernel_rfl) (by kernel_rfl) (by kernel_rfl) (e:=Extern.AbiNoEscape.same) (by kernel_rfl),Lib.run_noEscape]
  rfl
 clear hj
 go_enter Tryz.func135,Tryz.ntmps135
 go_wp2;go_end0;exact ⟨rfl,rfl⟩
theorem pl (B b:Nat) (l:List UInt8) (w:World) (h:BIs B b l w):
  Calls Tryz.prog 135 #[.pointer (some ⟨b,0,none⟩)] w fun e w'=>e= .returned (.tuple #[])∧BAt B b (.pointer (some ⟨b,0,none⟩)) l w'∧Below B w w':=by
 rcases h with h|h
 ·refine (tZ b w h.cell0 h.shape h.frozen0).mono ?_
  rintro e w' ⟨rfl,rfl⟩;exact ⟨rfl,h.used _,(Below.refl B w).setCell (p:=⟨b,0,none⟩) h.1 _⟩
 ·refine (wS b w h.cell0).mono ?_
  rintro e w' ⟨rfl,rfl⟩;exact ⟨rfl,h,Below.refl B _⟩
theorem kY (l:List UInt8) (c:UInt8):Lib.byteCells (l++[c])=Lib.byteCells l++[.int .u8 c.toNat]:=by rw [Lib.byteCells_append];rfl
theorem pn (B b:Nat) (l:List UInt8) (c:UInt8) (w:World) (h:BIs B b l w) (Ai:l.length≤1000000000) (D0:B≤w.heap.size):
  Calls Tryz.prog 88 #[.pointer (some ⟨b,0,none⟩), .int .u8 c.toNat] w fun e w'=>e= .returned .nilIface∧BIs B b (l++[c]) w'∧Below B w w':=by
 obtain ⟨i0,hi,Az,Ax,AC⟩:=info_parts oK;have HL:=agC (Lib.byteCells_length l);generalize hx:(c.toNat:Int)=x;have HX:=agC hx;clear hx
 go_enter Tryz.func88,Tryz.ntmps88
 go_wp2_with fail;refine (pl B b l _ h).mono ?_;rintro e w1 ⟨rfl,h1,Aa⟩;obtain ⟨hB,v,AJ,Ad,At⟩:=h1;have Au:=Aa.size
 have c1:w1.cell? ⟨b,1,none⟩=some v:=by rw [Lib.cell_of_heap AJ];rfl
 have Ab:b<w1.heap.size:=by
  by_cases hk:b<w1.heap.size
  ·exact hk
  ·rw [Array.getElem?_eq_none (by omega)] at AJ;cases AJ
 have DR:=agC AJ;have D2:=agC At;have Af:=agC Aa;clear AJ At Aa h
 go_wp2_with (at_builtin;refine wpList_append_own _ rfl _ _ 22 rfl B 5 i0 (.int .u8 0) 1 1 Tryz.underlying22 hi Az Ax AC rfl (by decide) _ _ _ rfl (Ad.alloc _) ⟨w1.heap.size,0,none⟩ 1 1 [.int .u8 x] rfl rfl ?c1 ?c2 ?c3 ?c4 ?c5 ?_)
 case c1=>
  intro j u hj
  match j,hj with
  |0,hj=>simp at hj;subst hj;simp [Addr.add]
 case c2=>intro u hu;simp at hu;subst hu;rfl
 case c3=>have:=HL.out;unfold maxLen;omega
 case c4=>have:=HL.out;omega
 case c5=>simp;omega
 intro v' w2 Ah Ac _
 have Ae:w2.heap[b]? =some (.cells #[.pointer (some ⟨b,0,none⟩),v] 62 (0,0)):=by
  rw [Ac.block b (by simp;omega) (fun e=>D2.out e.symm),Lib.alloc_old w1 _ b Ab];exact DR.out
 have d1:w2.cell? ⟨b,1,none⟩=some v:=by rw [Lib.cell_of_heap Ae];rfl
 have f1:w2.frozen? ⟨b,1,none⟩=false:=Lib.frozen_of_heap Ae 1;have Ak:=agC Ae;have HW:=agC Ah;have HG:=agC Ac;clear Ae Ac
 obtain ⟨g,cap,rfl⟩: ∃g cap,v'= .slice (some ⟨g,0,none⟩) ((Lib.byteCells l).length+1) cap:=by
  rcases Ah.2 with ⟨_,h0⟩|⟨g,cap,cur,hv,_⟩
  ·omega
  ·exact ⟨g,cap,hv⟩
 clear Ah hi Az Ax AC c1;go_wp2;go_ret;refine ⟨rfl, .inr ?_, ?_⟩
 ·rw [show Lib.byteCells (l++[c])=Lib.byteCells l++[.int .u8 x] by rw [kY,HX.out]]
  exact Lib.BuilderAt.put hB Ak.out (by simpa using HW.out) (by decide)
 ·exact ((Af.out.alloc (by omega) _).grown HG.out (by simp;omega) (fun k hk=>(Ad.lt k hk).1)).setCell (p:=⟨b,1,none⟩) hB _
theorem fd (B b:Nat) (l:List UInt8) (c:UInt8) (n:Int) (hn:(c.toNat:Int)=n) (w:World) (h:BIs B b l w) (Ai:l.length≤1000000000) (D0:B≤w.heap.size):
  Calls Tryz.prog 88 #[.pointer (some ⟨b,0,none⟩), .int .u8 n] w fun e w'=>e= .returned .nilIface∧BIs B b (l++[c]) w'∧Below B w w':=by
 subst hn;exact pn B b l c w h Ai D0
theorem BIs.new (w:World):BIs w.heap.size w.heap.size [] (w.alloc (.cells #[.pointer none, .slice none 0 0] 62)):=Lib.fresh_isBuilder _ _ w
theorem x8 (B b:Nat) (l:List UInt8) (w:World) (h:BIs B b l w) (D0:B≤w.heap.size):
  Calls Tryz.prog 91 #[.pointer (some ⟨b,0,none⟩)] w fun e w'=>e= .returned (.string ⟨l.toArray⟩)∧Below B w w':=Tryz.Builder_String_any B b l w h D0
def qbV (n:Int):Int:=if n=34∨n=92 then n else if n=10 then 110 else 0
theorem d7 (n:Int) (w:World):
  Calls Tryz.prog 232 #[.int .u8 n] w fun e w'=>e= .returned (.tuple #[.int .u8 (qbV n), .bool (jp n)])∧w=w':=by
 by_cases a:n=34
 ·subst a
  go_enter Tryz.func232,Tryz.ntmps232
  go_wp2;go_ret2;exact ⟨rfl,rfl⟩
 by_cases b:n=92
 ·subst b
  go_enter Tryz.func232,Tryz.ntmps232
  go_wp2;go_ret2;exact ⟨rfl,rfl⟩
 by_cases c:n=10
 ·subst c
  go_enter Tryz.func232,Tryz.ntmps232
  go_wp2;go_ret2;exact ⟨rfl,rfl⟩
 ·have e1:qbV n=0:=by simp [qbV,a,b,c]
  have e2:jp n=false:=by simp [jp,a,b,c]
  rw [e1,e2]
  have t1:(n==34)=false:=by simpa using a
  have t2:(n==92)=false:=by simpa using b
  have t3:(n==10)=false:=by simpa using c
  clear a b c e1 e2
  go_enter Tryz.func232,Tryz.ntmps232
  go_wp2;go_ret2;exact ⟨rfl,rfl⟩
theorem aaf {s:ByteArray} (h:aD s=false):cA s=⟨#[]⟩:=by unfold cA;rw [h];rfl
theorem wT {s:ByteArray} (h:aD s=true):s.size≤20000:=by
 simp only [aD,Bool.and_eq_true,decide_eq_true_eq] at h;exact h.1
theorem wU (s:ByteArray) (k:Nat) (h:k<s.size):aM (s.data.toList.take (k+1))=aM (s.data.toList.take k)++ba s[k]:=by
 rw [eu s k h,jn]
theorem acN (s:ByteArray) (k:Nat):(aM (s.data.toList.take k)).length≤2*k:=by
 have:=(iM (s.data.toList.take k)).2;rw [List.length_take] at this
 omega
theorem rq (c:UInt8):(jp (c.toNat:Int)=false∧ba c=[c])∨(jp (c.toNat:Int)=true∧ ∃d:UInt8,qbV (c.toNat:Int)=(d.toNat:Int)∧ba c=[92,d]):=by
 by_cases BU:c=10
 ·subst BU;exact .inr ⟨by decide,110,by decide,by decide⟩
 by_cases h34:c=34
 ·subst h34;exact .inr ⟨by decide,34,by decide,by decide⟩
 by_cases h92:c=92
 ·subst h92;exact .inr ⟨by decide,92,by decide,by decide⟩
 ·refine .inl ⟨?_,by simp [ba,BU,h34,h92]⟩
  have VX:c.toNat≠10:=fun e=>BU (UInt8.toNat_inj.mp e)
  have Qo:c.toNat≠34:=fun e=>h34 (UInt8.toNat_inj.mp e)
  have VY:c.toNat≠92:=fun e=>h92 (UInt8.toNat_inj.mp e)
  simp only [jp,decide_eq_false_iff_not];omega
theorem oL (s:ByteArray) (w:World) (hs:s.size≤maxLen):
  Calls Tryz.prog 218 #[.string s] w fun e w'=>e= .returned (.string (cA s))∧Below w.heap.size w w':=by
 cases ht:aD s with
 |false=>
  rw [aaf ht]
  go_enter Tryz.func218,Tryz.ntmps218
  go_wp2_with fail;refine (bW s _ hs).mono ?_;rintro e w' ⟨rfl,rfl⟩;rw [ht];go_wp2;go_ret;exact ⟨rfl,Below.refl _ _⟩
 |true=>
  have D7:=wT ht;have HS:=agC hs;have HT:=agC ht;clear ht hs
  go_enter Tryz.func218,Tryz.ntmps218
  go_wp2_with fail;refine (bW s _ HS.out).mono ?_;rintro e w' ⟨rfl,rfl⟩;rw [HT.out];go_wp2_with fail;refine (fd w.heap.size w.heap.size [] 34 34 (by decide) _ (BIs.new w) (by simp) (by simp)).mono ?_;rintro e w1 ⟨rfl,h1,Aa⟩;have H1:=agC h1;have Af:=agC (((Below.refl w.heap.size w).alloc (agD _) _).trans Aa);clear h1 Aa;go_wp2_with fail
  go_loopw [13] (fun i wr=> ∃k:Nat,k≤s.size∧i= .int .i64 k∧BIs w.heap.size w.heap.size (34::aM (s.data.toList.take k)) wr∧Below w.heap.size w wr) (fun i _=>s.size-(intOf i).toNat)
  case atStart=>exact ⟨0,agH _,rfl,H1.out,Af.out⟩
  case round=>
   obtain ⟨k,hk,rfl,hI,hB⟩:=hrel;have HI:=agC hI;have HB:=agC hB;have DB:=acN s k;clear hI hB
   by_cases Ab:k<s.size
   ·have Cu:(s[k].toNat:Int)≤255:=by have:=s[k].toNat_lt;omega
    have HQ:=agC (wU s k Ab);go_wp2_with fail;refine (d7 _ _).mono ?_;rintro e w' ⟨rfl,rfl⟩
    rcases rq s[k] with ⟨h1,h2⟩|⟨h1,d,h2,h3⟩
    ·rw [h1]
     have HC:=agC h2;clear h1 h2;go_wp2_with fail;refine (fd w.heap.size w.heap.size _ s[k] _ rfl _ HI.out (by simp;omega) HB.out.size).mono ?_;rintro e w2 ⟨rfl,h1,Aa⟩;have H2:=agC h1;have Ak:=agC (HB.out.trans Aa);clear h1 Aa;go_wp2;go_roundw
     case rel=>exact ⟨k+1,by omega,by go_num,by rw [HQ.out,HC.out];exact H2.out,Ak.out⟩
     case measure=>simp [intOf];omega
    ·rw [h1,h2]
     have HC:=agC h3;clear h1 h2 h3
     have hd:(d.toNat:Int)≤255:=by have:=d.toNat_lt;omega
     go_wp2_with fail;refine (fd w.heap.size w.heap.size _ 92 92 (by decide) _ HI.out (by simp;omega) HB.out.size).mono ?_;rintro e w2 ⟨rfl,h1,Aa⟩;have H2:=agC h1;have Ak:=agC (HB.out.trans Aa);clear h1 Aa;go_wp2_with fail;refine (fd w.heap.size w.heap.size _ d _ rfl _ H2.out (by simp;omega) Ak.out.size).mono ?_;rintro e w3 ⟨rfl,h1,Aa⟩;have H3:=agC h1;have Ap:=agC (Ak.out.trans Aa);clear h1 Aa;go_wp2;go_roundw
     case rel=>exact ⟨k+1,by omega,by go_num,by rw [HQ.out,HC.out];have:=H3.out;simpa using this,Ap.out⟩
     case measure=>simp [intOf];omega
   ·obtain rfl:k=s.size:=by omega
    go_wp2_with fail;refine (fd w.heap.size w.heap.size _ 34 34 (by decide) _ HI.out (by simp;omega) HB.out.size).mono ?_;rintro e w2 ⟨rfl,h1,Aa⟩;have H2:=agC h1;have Ak:=agC (HB.out.trans Aa);clear h1 Aa;go_wp2_with fail;refine (x8 w.heap.size w.heap.size _ _ H2.out Ak.out.size).mono ?_;rintro e w3 ⟨rfl,Ag⟩;have Ap:=agC (Ak.out.trans Ag);clear Ag;go_wp2;go_ret;refine ⟨?_,Ap.out⟩;unfold cA bc;rw [if_pos HT.out,List.take_of_length_le (by simp)]
    rfl
theorem bLen (B b:Nat) (l:List UInt8) (w:World) (h:BIs B b l w):
  Calls Tryz.prog 139 #[.pointer (some ⟨b,0,none⟩)] w fun e w'=>e= .returned (.int .i64 l.length)∧w=w':=
 (Tryz.Builder_Len B b _ w h).mono fun e w' ⟨he,hw⟩=>⟨by rw [he,Lib.byteCells_length],hw.symm⟩
theorem dQ (s:ByteArray):s.data.toList.length=s.size:=by rw [Array.length_toList];rfl
theorem acH (s:ByteArray) (h:s.size=1):s.data.toList=[s[0]]:=by
 have hl:=dQ s;have:s.data.toList=s.data.toList.drop 0:=rfl;rw [this,List.drop_eq_getElem_cons (by omega),List.drop_eq_nil_of_le (by omega)];rfl
theorem kW (s:ByteArray) (h:0<s.size):s.data.toList=s[0]::s.data.toList.drop 1:=by
 have hl:=dQ s;have:s.data.toList=s.data.toList.drop 0:=rfl
 conv=>lhs;rw [this,List.drop_eq_getElem_cons (by omega)]
 rfl
theorem acI (s:ByteArray) (h:1<s.size):s.data.toList=s[0]::s[1]::s.data.toList.drop 2:=by
 have hl:=dQ s;have:s.data.toList=s.data.toList.drop 0:=rfl
 conv=>lhs;rw [this,List.drop_eq_getElem_cons (by omega),List.drop_eq_getElem_cons (by omega)]
 rfl
def ubV (n:Int):Int:=if n=34∨n=92 then n else if n=110 then 10 else 0
theorem i5 (n:Int) (w:World):
  Calls Tryz.prog 270 #[.int .u8 n] w fun e w'=>e= .returned (.tuple #[.int .u8 (ubV n), .bool (mq n)])∧w=w':=by
 by_cases a:n=34
 ·subst a
  go_enter Tryz.func270,Tryz.ntmps270
  go_wp2;go_ret2;exact ⟨rfl,rfl⟩
 by_cases b:n=92
 ·subst b
  go_enter Tryz.func270,Tryz.ntmps270
  go_wp2;go_ret2;exact ⟨rfl,rfl⟩
 by_cases c:n=110
 ·subst c
  go_enter Tryz.func270,Tryz.ntmps270
  go_wp2;go_ret2;exact ⟨rfl,rfl⟩
 ·have e1:ubV n=0:=by simp [ubV,a,b,c]
  have e2:mq n=false:=by simp [mq,a,b,c]
  rw [e1,e2]
  have t1:(n==34)=false:=by simpa using a
  have t2:(n==92)=false:=by simpa using b
  have t3:(n==110)=false:=by simpa using c
  clear a b c e1 e2
  go_enter Tryz.func270,Tryz.ntmps270
  go_wp2;go_ret2;exact ⟨rfl,rfl⟩
theorem agr {c:UInt8} {d:UInt8} (h:c=d) (n:Int) (hn:(d.toNat:Int)=n):((c.toNat:Int)==n)=true:=by rw [h,hn];simp
theorem ags {c:UInt8} {d:UInt8} (h:c≠d) (n:Int) (hn:(d.toNat:Int)=n):((c.toNat:Int)==n)=false:=by
 rw [beq_eq_false_iff_ne];intro e;exact h (UInt8.toNat_inj.mp (by omega))
theorem tX (c:UInt8):jp (c.toNat:Int)=decide (c=34∨c=92∨c=10):=by
 unfold jp;have J8:(c.toNat:Int)=34↔c=34:=⟨fun e=>UInt8.toNat_inj.mp (by rw [show (34:UInt8).toNat=34 from rfl];omega),fun e=>by rw [e];rfl⟩;have J9:(c.toNat:Int)=92↔c=92:=⟨fun e=>UInt8.toNat_inj.mp (by rw [show (92:UInt8).toNat=92 from rfl];omega),fun e=>by rw [e];rfl⟩;have MZ:(c.toNat:Int)=10↔c=10:=⟨fun e=>UInt8.toNat_inj.mp (by rw [show (10:UInt8).toNat=10 from rfl];omega),fun e=>by rw [e];rfl⟩;exact decide_eq_decide.mpr (by rw [J8,J9,MZ])
theorem qm (c:UInt8):mq (c.toNat:Int)=decide (c=34∨c=92∨c=110):=by
 unfold mq;have J8:(c.toNat:Int)=34↔c=34:=⟨fun e=>UInt8.toNat_inj.mp (by rw [show (34:UInt8).toNat=34 from rfl];omega),fun e=>by rw [e];rfl⟩;have J9:(c.toNat:Int)=92↔c=92:=⟨fun e=>UInt8.toNat_inj.mp (by rw [show (92:UInt8).toNat=92 from rfl];omega),fun e=>by rw [e];rfl⟩;have PH:(c.toNat:Int)=110↔c=110:=⟨fun e=>UInt8.toNat_inj.mp (by rw [show (110:UInt8).toNat=110 from rfl];omega),fun e=>by rw [e];rfl⟩;exact decide_eq_decide.mpr (by rw [J8,J9,PH])
def afL (l:List UInt8) (e:Ending):Prop:= ∃(c:Int) (n:Nat),e= .returned (.tuple #[.int .u8 c, .int .i64 n])∧iH l c n
theorem pk (s:ByteArray) (w:World) (h0:0<s.size) (hs:s.size≤maxLen):
  Calls Tryz.prog 265 #[.string s] w fun e w'=>afL s.data.toList e∧w=w':=by
 unfold maxLen at hs
 have b0:(s[0].toNat:Int)≤255:=by have:=s[0].toNat_lt;omega
 by_cases h92:s[0]=92
 ·have t1:=agr h92 92 rfl
  by_cases h1:1<s.size
  ·have b1:(s[1].toNat:Int)≤255:=by have:=s[1].toNat_lt;omega
   have HL:=agC (acI s h1);have d1:decide ((1:Int)<(s.size:Int))=true:=decide_eq_true (by omega)
   cases hm:mq (s[1].toNat:Int) with
   |true=>
    have HF:Hid (iH s.data.toList (ubV (s[1].toNat:Int)) 2):=by
     apply agC
     rw [HL.out,h92];rw [qm,decide_eq_true_eq] at hm
     by_cases h110:s[1]=110
     ·rw [h110];exact pV (e:=10) rfl rfl
     ·have hq:s[1]=34∨s[1]=92:=by
       rcases hm with g|g|g
       ·exact .inl g
       ·exact .inr g
       ·exact absurd g h110
      have hv:ubV (s[1].toNat:Int)=(s[1].toNat:Int):=by rcases hq with g|g<;>rw [g]<;>rfl
      rw [hv];exact pV (by unfold ba;rw [if_neg (by rcases hq with g|g<;>rw [g]<;>decide),if_pos hq]) (by rcases hq with g|g<;>rw [g]<;>rfl)
    have HM:=agC hm;clear hm h92
    go_enter Tryz.func265,Tryz.ntmps265
    go_wp2_with fail;refine (i5 _ _).mono ?_;rintro e w' ⟨rfl,rfl⟩;rw [HM.out];go_wp2;go_ret2;exact ⟨⟨_,2,rfl,HF.out⟩,rfl⟩
   |false=>
    have HF:Hid (iH s.data.toList 0 0):=by
     apply agC
     rw [HL.out];rw [qm,decide_eq_false_iff_not] at hm;refine .inl ⟨rfl,rfl,lC (fun _ d r' e=> ?_) (fun g=>absurd h92 g)⟩;obtain ⟨rfl,-⟩:=List.cons.inj e;exact ⟨fun g=>hm (.inl g),fun g=>hm (.inr (.inl g)),fun g=>hm (.inr (.inr g))⟩
    have HM:=agC hm;have HP:=agC (show jp (s[0].toNat:Int)=true by rw [h92];rfl);clear hm h92
    go_enter Tryz.func265,Tryz.ntmps265
    go_wp2_with fail;refine (i5 _ _).mono ?_;rintro e w' ⟨rfl,rfl⟩;rw [HM.out];go_wp2_with fail;refine (d7 _ _).mono ?_;rintro e w' ⟨rfl,rfl⟩;rw [HP.out];go_wp2;go_ret2;exact ⟨⟨_,0,rfl,HF.out⟩,rfl⟩
  ·have d1:decide ((1:Int)<(s.size:Int))=false:=decide_eq_false (by omega)
   have HF:Hid (iH s.data.toList 0 0):=by
    apply agC
    rw [acH s (by omega)];exact .inl ⟨rfl,rfl,lC (fun _ d r' e=>by cases e) (fun g=>absurd h92 g)⟩
   have HP:=agC (show jp (s[0].toNat:Int)=true by rw [h92];rfl);clear h92
   go_enter Tryz.func265,Tryz.ntmps265
   go_wp2_with fail;refine (d7 _ _).mono ?_;rintro e w' ⟨rfl,rfl⟩;rw [HP.out];go_wp2;go_ret2;exact ⟨⟨_,0,rfl,HF.out⟩,rfl⟩
 ·have t1:=ags h92 92 rfl
  cases hp:jp (s[0].toNat:Int) with
  |true=>
   have HF:Hid (iH s.data.toList 0 0):=by
    apply agC
    rw [tX,decide_eq_true_eq] at hp;rw [kW s h0];refine .inl ⟨rfl,rfl,lC (fun g=>absurd g h92) (fun _=> ?_)⟩
    rcases hp with g|g|g
    ·exact .inl g
    ·exact absurd g h92
    ·exact .inr (.inl g)
   have HP:=agC hp;clear hp h92
   go_enter Tryz.func265,Tryz.ntmps265
   go_wp2_with fail;refine (d7 _ _).mono ?_;rintro e w' ⟨rfl,rfl⟩;rw [HP.out];go_wp2;go_ret2;exact ⟨⟨_,0,rfl,HF.out⟩,rfl⟩
  |false=>
   have HP:=agC hp;rw [tX,decide_eq_false_iff_not] at hp
   cases hq:bV (s[0].toNat:Int) with
   |true=>
    have HF:Hid (iH s.data.toList (s[0].toNat:Int) 1):=by
     apply agC
     rw [kW s h0];exact zl h92 (fun g=>hp (.inl g)) (fun g=>hp (.inr (.inr g))) hq
    have HQ:=agC hq;clear hp hq h92
    go_enter Tryz.func265,Tryz.ntmps265
    go_wp2_with fail;refine (d7 _ _).mono ?_;rintro e w' ⟨rfl,rfl⟩;rw [HP.out];go_wp2_with fail;refine (fE _ _ (by omega) (by omega)).mono ?_;rintro e w' ⟨rfl,rfl⟩;rw [HQ.out];go_wp2;go_ret2;exact ⟨⟨_,1,rfl,HF.out⟩,rfl⟩
   |false=>
    have HF:Hid (iH s.data.toList 0 0):=by
     apply agC
     rw [kW s h0];exact .inl ⟨rfl,rfl,lC (fun g=>absurd g h92) (fun _=> .inr (.inr hq))⟩
    have HQ:=agC hq;clear hp hq h92
    go_enter Tryz.func265,Tryz.ntmps265
    go_wp2_with fail;refine (d7 _ _).mono ?_;rintro e w' ⟨rfl,rfl⟩;rw [HP.out];go_wp2_with fail;refine (fE _ _ (by omega) (by omega)).mono ?_;rintro e w' ⟨rfl,rfl⟩;rw [HQ.out];go_wp2;go_ret2;exact ⟨⟨_,0,rfl,HF.out⟩,rfl⟩
def aeq (l:List UInt8) (e:Ending):Prop:=
 (∃t:List UInt8,e= .returned (.tuple #[.string ⟨t.toArray⟩, .bool true])∧l=aM t∧okL t=true∧t.length≤20000)∨(e= .returned (.tuple #[.string ⟨#[]⟩, .bool false])∧qP l)
def xZ (v:Value):Nat:=match v with| .string r=>r.size|_=>0
theorem aer (r:ByteArray) (h:0<r.size):r.data.toList≠[]:=by
 intro e;have:=dQ r;rw [e] at this;simp at this;omega
theorem acJ (r:ByteArray) (h: ¬0<r.size):r.data.toList=[]:=List.eq_nil_of_length_eq_zero (by rw [dQ];omega)
theorem acK (r:ByteArray) (n:Nat) (h:n≤r.size):(r.extract n r.size).data.toList=r.data.toList.drop n:=by
 rw [Lib.extract_data,List.take_of_length_le (by rw [List.length_drop,dQ];omega)]
theorem oJ (s:ByteArray) (w:World) (hs:s.size≤maxLen):
  Calls Tryz.prog 257 #[.string s] w fun e w'=>aeq s.data.toList e∧Below w.heap.size w w':=by
 unfold maxLen at hs
 go_enter Tryz.func257,Tryz.ntmps257
 go_wp2_with fail
 go_loopw [0] (fun v wr=> ∃(acc:List UInt8) (r:ByteArray),v= .string r∧s.data.toList=aM acc++r.data.toList∧okL acc=true∧acc.length≤20000∧r.size≤s.size∧BIs w.heap.size w.heap.size acc wr∧Below w.heap.size w wr) (fun v _=>xZ v)
 case atStart=>exact ⟨[],s,rfl,rfl,rfl,by simp,agD _,BIs.new w,(Below.refl _ _).alloc (agD _) _⟩
 case round=>
  obtain ⟨acc,r,rfl,Dx,Aj,DB,VU,hI,hB⟩:=hrel;have Ge:=agC Dx;have Bj:=agC Aj;have HI:=agC hI;have HB:=agC hB;clear Dx Aj hI hB
  by_cases h0:0<r.size
  ·have D2:=agC (aer r h0)
   go_wp2_with fail;refine (pk r _ h0 (by unfold maxLen;omega)).mono ?_;rintro e w' ⟨⟨c,n,rfl,hf⟩,rfl⟩
   rcases hf with ⟨rfl,rfl,Ar⟩|⟨b,rfl,hn,hb,hl⟩
   ·have HN:=agC (adM Ge.out D2.out Ar)
    clear Ar;go_wp2;go_ret2;exact ⟨.inr ⟨rfl,HN.out⟩,HB.out⟩
   ·have VT:(b.toNat:Int)≤255:=by have:=b.toNat_lt;omega
    have BO:=kK b
    have Um:n≤r.size:=by
     have:=congrArg List.length hl;rw [agE,dQ,List.length_drop,dQ] at this
     omega
    have DE:1≤n∧n≤2:=by omega
    have t0:((n:Int)==0)=false:=by rw [beq_eq_false_iff_ne];omega
    have HL:=agC hl;have M4:=agC hb;clear hl hb hn BO;go_wp2_with fail;refine (bLen w.heap.size w.heap.size acc _ HI.out).mono ?_;rintro e w' ⟨rfl,rfl⟩
    by_cases hfull:acc.length=20000
    ·have HN:=agC (adN Ge.out D2.out hfull)
     have t1:((acc.length:Int)==20000)=true:=by rw [hfull];rfl
     clear hfull;go_wp2;go_ret2;exact ⟨.inr ⟨rfl,HN.out⟩,HB.out⟩
    ·have t1:((acc.length:Int)==20000)=false:=by rw [beq_eq_false_iff_ne];omega
     go_wp2_with fail;refine (fd w.heap.size w.heap.size acc b _ rfl _ HI.out (by omega) HB.out.size).mono ?_;rintro e w2 ⟨rfl,h1,Aa⟩;have H2:=agC h1;have Ak:=agC (HB.out.trans Aa);have HC:=agC (acK r n Um);clear h1 Aa;go_wp2;go_roundw
     case rel=>
      refine ⟨acc++[b],_,rfl, ?_, ?_,by simp;omega,by rw [ByteArray.size_extract];omega,H2.out,Ak.out⟩
      ·rw [HC.out,jn,List.append_assoc,←HL.out];exact Ge.out
      ·rw [nY,Bj.out,M4.out];rfl
     case measure=>simp only [xZ,ByteArray.size_extract];omega
  ·have PI:=agC (acJ r h0)
   go_wp2_with fail;refine (x8 w.heap.size w.heap.size acc _ HI.out HB.out.size).mono ?_;rintro e w3 ⟨rfl,Ag⟩;have Ap:=agC (HB.out.trans Ag);clear Ag;go_wp2;go_ret2;exact ⟨.inl ⟨acc,rfl,by rw [Ge.out,PI.out];simp,Bj.out,DB⟩,Ap.out⟩
theorem tY (l:List UInt8) (s:ByteArray) (h:l.length≤s.data.toList.length):(⟨l.toArray⟩:ByteArray).size≤s.size:=by
 rw [←dQ];show l.toArray.size≤_;simpa using h
theorem mD (s:ByteArray) (w:World) (hs:s.size≤maxLen):
  Calls Tryz.prog 249 #[.string s] w fun e w'=>e= .returned (.tuple #[.string (ga s), .bool (bH s)])∧Below w.heap.size w w':=by
 unfold maxLen at hs;have cz:=tY (Lib.trimPrefix s.data.toList [34]) s (Lib.trimPrefix_le _ _)
 have cp: ∀w',Calls Tryz.prog 155 #[.string s, .string ⟨#[34]⟩] w' fun e w1=>e= .returned (.tuple #[.string ⟨(Lib.trimPrefix s.data.toList [34]).toArray⟩, .bool (Lib.hasPrefix s.data.toList [34])])∧w'=w1:=
  fun w'=>(Tryz.strings_CutPrefix s ⟨#[34]⟩ w').mono fun e w1 ⟨he,hw⟩=>⟨he,hw.symm⟩
 have cs: ∀w',Calls Tryz.prog 256 #[.string ⟨(Lib.trimPrefix s.data.toList [34]).toArray⟩, .string ⟨#[34]⟩] w' fun e w1=>e= .returned (.tuple #[.string ⟨(Lib.trimSuffix (Lib.trimPrefix s.data.toList [34]) [34]).toArray⟩, .bool (Lib.hasSuffix (Lib.trimPrefix s.data.toList [34]) [34])])∧w'=w1:=
  fun w'=>(Tryz.strings_CutSuffix ⟨(Lib.trimPrefix s.data.toList [34]).toArray⟩ ⟨#[34]⟩ w' (by omega)).mono fun e w1 ⟨he,hw⟩=>⟨he,hw.symm⟩
 have Nv:=tY (Lib.trimSuffix (Lib.trimPrefix s.data.toList [34]) [34]) s (Nat.le_trans (Lib.trimSuffix_le _ _) (Lib.trimPrefix_le _ _))
 have ci:=fun w'=>(oJ ⟨(Lib.trimSuffix (Lib.trimPrefix s.data.toList [34]) [34]).toArray⟩ w' (by unfold maxLen;omega))
 simp only at ci;have p1:Lib.hasPrefix s.data.toList [34]=true→s.data.toList=34::Lib.trimPrefix s.data.toList [34]:=vf;have p2:Lib.hasPrefix s.data.toList [34]=false→bH s=false:=abL;have p3:Lib.hasSuffix (Lib.trimPrefix s.data.toList [34]) [34]=true→Lib.trimPrefix s.data.toList [34]=Lib.trimSuffix (Lib.trimPrefix s.data.toList [34]) [34]++[34]:=vg;have p4:s.data.toList=34::Lib.trimPrefix s.data.toList [34]→Lib.hasSuffix (Lib.trimPrefix s.data.toList [34]) [34]=false→bH s=false:=abM;generalize Lib.hasSuffix (Lib.trimPrefix s.data.toList [34]) [34]=B2 at cs p3 p4;generalize Lib.trimSuffix (Lib.trimPrefix s.data.toList [34]) [34]=L2 at cs ci p3 Nv;generalize Lib.trimPrefix s.data.toList [34]=L1 at cp cs p1 p3 p4;generalize Lib.hasPrefix s.data.toList [34]=B1 at cp p1 p2
 cases B1 with
 |false=>
  have e:=p2 rfl;have CP:=agC cp;have CS:=agC cs;have HN:=agC (jo e);have HE:=agC e;clear p1 p2 p3 p4 ci cp cs e cz Nv
  go_enter Tryz.func249,Tryz.ntmps249
  go_wp2_with fail;refine (CP.out _).mono ?_;rintro e w' ⟨rfl,rfl⟩;go_wp2_with fail;refine (CS.out _).mono ?_;rintro e w' ⟨rfl,rfl⟩;go_wp2;go_ret2;exact ⟨by rw [HE.out,HN.out];rfl,Below.refl _ _⟩
 |true=>
  have e1:=p1 rfl
  cases B2 with
  |false=>
   have e:=p4 e1 rfl;have CP:=agC cp;have CS:=agC cs;have HN:=agC (jo e);have HE:=agC e;clear p1 p2 p3 p4 ci cp cs e e1 cz Nv
   go_enter Tryz.func249,Tryz.ntmps249
   go_wp2_with fail;refine (CP.out _).mono ?_;rintro e w' ⟨rfl,rfl⟩;go_wp2_with fail;refine (CS.out _).mono ?_;rintro e w' ⟨rfl,rfl⟩;go_wp2;go_ret2;exact ⟨by rw [HE.out,HN.out];rfl,Below.refl _ _⟩
  |true=>
   rw [p3 rfl] at e1;have CP:=agC cp;have CS:=agC cs;have CI:=agC ci;have HI:=agC (ve e1);clear p1 p2 p3 p4 ci cp cs e1 cz Nv
   go_enter Tryz.func249,Tryz.ntmps249
   go_wp2_with fail;refine (CP.out _).mono ?_;rintro e w' ⟨rfl,rfl⟩;go_wp2_with fail;refine (CS.out _).mono ?_;rintro e w' ⟨rfl,rfl⟩;go_wp2_with fail;refine (CI.out _).mono ?_;rintro e w2 ⟨he,hb⟩;have HB:=agC hb;clear hb
   rcases he with ⟨t,rfl,h1,h2,h3⟩|⟨rfl,hn⟩
   ·have HR:=agC (HI.out.1 t h3 h2 h1)
    clear h1 h2 h3;go_wp2;go_ret2;exact ⟨by rw [HR.out.1,HR.out.2];rfl,HB.out⟩
   ·have HR:=agC (HI.out.2 hn)
    clear hn;go_wp2;go_ret2;exact ⟨by rw [jo HR.out,HR.out];rfl,HB.out⟩
theorem ow (s:ByteArray) (k:Nat) (h:k<s.size):(s.extract k (k+1)).data.toList=[s[k]]:=by
 have hl:s.data.toList.length=s.size:=by rw [Array.length_toList];rfl
 rw [Lib.extract_data,List.drop_eq_getElem_cons (by omega),show k+1-k=1 by omega]
 rfl
theorem tC (s:ByteArray) (k:Nat) (h:k<s.size):aM (s.data.toList.take (k+1))=aM (s.data.toList.take k)++ba s[k]:=by
 rw [eu s k h,jn]
theorem mT {s:ByteArray} (h:aD s=false):cA s=⟨#[]⟩:=by unfold cA;rw [h];rfl
theorem ach {s:ByteArray} (h:aD s=true):s.size≤20000:=by
 simp only [aD,Bool.and_eq_true,decide_eq_true_eq] at h;exact h.1
theorem gq (s:ByteArray) (w:World) (hs:s.size≤maxLen):
  Calls Tryz.prog 141 #[.string s] w fun e w'=>e= .returned (.string (cA s))∧w=w':=by
 cases ht:aD s with
 |false=>
  rw [mT ht]
  go_enter Tryz.func141,Tryz.ntmps141
  go_wp2_with fail;refine (aG s _ hs).mono ?_;rintro e w' ⟨rfl,rfl⟩;rw [ht];go_wp2;go_ret;exact ⟨rfl,rfl⟩
 |true=>
  have D7:=ach ht;have HS:=agC hs;have HT:=agC ht;clear ht hs
  go_enter Tryz.func141,Tryz.ntmps141
  go_wp2_with fail;refine (aG s _ HS.out).mono ?_;rintro e w' ⟨rfl,rfl⟩;rw [HT.out];go_wp2_with fail
  go_loop [3,4] (fun o i=> ∃(k:Nat) (q:ByteArray),k≤s.size∧i= .int .i64 k∧o= .string q∧q.data.toList=34::aM (s.data.toList.take k)∧q.size≤2*k+1) (fun _ i=>s.size-(intOf i).toNat)
  case atStart=>exact ⟨0,_,agH _,rfl,rfl,rfl,by show (1:Nat)≤1;omega⟩
  case round=>
   obtain ⟨k,q,hk,rfl,rfl,hq,hz⟩:=hrel;have HQ:=agC hq;clear hq
   by_cases Ab:k<s.size
   ·have Cu:(s[k].toNat:Int)≤255:=by have:=s[k].toNat_lt;omega
    have HN:=agC (tC s k Ab);have HO:=agC (ow s k Ab)
    have K6:(s.extract k (k+1)).size=1:=by rw [ByteArray.size_extract];omega
    by_cases BU:s[k]=10
    ·have HC:=agC (show ba s[k]=[92,110] by rw [BU];rfl)
     have t1:((s[k].toNat:Int)==10)=true:=by rw [BU];rfl
     clear BU;go_wp2
     go_round
     case rel=>exact ⟨k+1,_,by omega,by go_num,rfl,by rw [HN.out,HC.out];have:=HQ.out;simp [this],by rw [ByteArray.size_append];show q.size+2≤_;omega⟩
     case measure=>simp [intOf];omega
    ·have t1:((s[k].toNat:Int)==10)=false:=by
      rw [beq_eq_false_iff_ne];intro e;exact BU (UInt8.toNat_inj.mp (by rw [show (10:UInt8).toNat=10 from rfl];omega))
     by_cases h34:s[k]=34∨s[k]=92
     ·have HC:=agC (show ba s[k]=[92,s[k]] by unfold ba;rw [if_neg BU,if_pos h34])
      by_cases h3:s[k]=34
      ·have t2:((s[k].toNat:Int)==34)=true:=by rw [h3];rfl
       clear BU h34 h3;go_wp2
       go_round
       case rel=>exact ⟨k+1,_,by omega,by go_num,rfl,by rw [HN.out,HC.out];have:=HQ.out;have h4:=HO.out;simp only [ByteArray.data_append,Array.toList_append,this,h4];simp,by simp only [ByteArray.size_append];rw [K6];show q.size+1+1≤_;omega⟩
       case measure=>simp [intOf];omega
      ·have t2:((s[k].toNat:Int)==34)=false:=by
        rw [beq_eq_false_iff_ne];intro e;exact h3 (UInt8.toNat_inj.mp (by rw [show (34:UInt8).toNat=34 from rfl];omega))
       have t3:((s[k].toNat:Int)==92)=true:=by rw [h34.resolve_left h3];rfl
       clear BU h34 h3;go_wp2
       go_round
       case rel=>exact ⟨k+1,_,by omega,by go_num,rfl,by rw [HN.out,HC.out];have:=HQ.out;have h4:=HO.out;simp only [ByteArray.data_append,Array.toList_append,this,h4];simp,by simp only [ByteArray.size_append];rw [K6];show q.size+1+1≤_;omega⟩
       case measure=>simp [intOf];omega
     ·have HC:=agC (show ba s[k]=[s[k]] by unfold ba;rw [if_neg BU,if_neg h34])
      have t2:((s[k].toNat:Int)==34)=false:=by
       rw [beq_eq_false_iff_ne];intro e;exact h34 (.inl (UInt8.toNat_inj.mp (by rw [show (34:UInt8).toNat=34 from rfl];omega)))
      have t3:((s[k].toNat:Int)==92)=false:=by
       rw [beq_eq_false_iff_ne];intro e;exact h34 (.inr (UInt8.toNat_inj.mp (by rw [show (92:UInt8).toNat=92 from rfl];omega)))
      clear BU h34;go_wp2
      go_round
      case rel=>exact ⟨k+1,_,by omega,by go_num,rfl,by rw [HN.out,HC.out];have:=HQ.out;have h4:=HO.out;simp only [ByteArray.data_append,Array.toList_append,this,h4];simp,by simp only [ByteArray.size_append];rw [K6];omega⟩
      case measure=>simp [intOf];omega
   ·obtain rfl:k=s.size:=by omega
    go_wp2;go_ret;have h5:=HQ.out;rw [List.take_of_length_le (by simp)] at h5
    have h6:cA s=q++⟨#[34]⟩:=by
     unfold cA bc;rw [if_pos HT.out];exact dW (by simp [h5])
    rw [h6];exact ⟨rfl,rfl⟩
theorem tS {l:List Cl} (h:l.isEmpty=true):((l.length:Int)==0)=true∧l.length=0:=by
 cases l with
 |nil=>exact ⟨rfl,rfl⟩
 |cons a l=>cases h
theorem tT {l:List Cl} (h:l.isEmpty=false):((l.length:Int)==0)=false∧l.length≠0:=by
 cases l with
 |nil=>cases h
 |cons a l=>exact ⟨beq_eq_false_iff_ne.mpr (by simp;omega),by simp⟩
theorem agp {w w1:World} {k:Int} {n t:ByteArray} {u:Value} {ty:TypeId} (hb:Below (w.alloc (.cells #[.int .i64 k, .string n,u, .string t] ty)).heap.size (w.alloc (.cells #[.int .i64 k, .string n,u, .string t] ty)) w1):
  w1.cell? ⟨w.heap.size,0,none⟩=some (.int .i64 k)∧w1.cell? ⟨w.heap.size,1,none⟩=some (.string n)∧w1.cell? ⟨w.heap.size,2,none⟩=some u∧w1.cell? ⟨w.heap.size,3,none⟩=some (.string t):=by
 refine ⟨?_, ?_, ?_, ?_⟩<;>(rw [hb.cell (by simp)];simp [go_sem])
def ItAt (w:World) (b o k:Nat) (i:It) (u:Value):Prop:=
 w.cell? ⟨b,o+k*4,none⟩=some (.int .i64 i.1)∧w.cell? ⟨b,o+k*4+1,none⟩=some (.string i.2.1)∧w.cell? ⟨b,o+k*4+2,none⟩=some u∧w.cell? ⟨b,o+k*4+3,none⟩=some (.string i.2.2.2)∧RowC w u i.2.2.1
theorem ItAt.mono {w w':World} {b o k:Nat} {i:It} {u:Value} (h:ItAt w b o k i u) (Ab:b<w.heap.size) (hb:Below w.heap.size w w'):ItAt w' b o k i u:=
 ⟨(hb.cell (p:=⟨b,_,none⟩) Ab).trans h.1,(hb.cell (p:=⟨b,_,none⟩) Ab).trans h.2.1,(hb.cell (p:=⟨b,_,none⟩) Ab).trans h.2.2.1,(hb.cell (p:=⟨b,_,none⟩) Ab).trans h.2.2.2.1,h.2.2.2.2.mono hb⟩
def RowIt (w:World) (v:Value) (l:List It):Prop:=
 ∃ao cap,v= .slice ao l.length cap∧l.length≤cap∧cap≤maxLen∧(l=[]∨ ∃b o,ao=some ⟨b,o,none⟩∧b<w.heap.size∧ ∀(k:Nat) (h:k<l.length),∃u,ItAt w b o k l[k] u)
theorem RowIt.mono {w w':World} {v:Value} {l:List It} (h:RowIt w v l) (hb:Below w.heap.size w w'):RowIt w' v l:=by
 obtain ⟨ao,cap,hv,h1,h2,h3⟩:=h;refine ⟨ao,cap,hv,h1,h2, ?_⟩
 rcases h3 with h3|⟨b,o,ha,Ab,hj⟩
 ·exact .inl h3
 ·refine .inr ⟨b,o,ha,Nat.lt_of_lt_of_le Ab hb.size,fun k hk=> ?_⟩
  obtain ⟨u,hu⟩:=hj k hk;exact ⟨u,hu.mono Ab hb⟩
def fm (l:List It):Prop:= ∀i∈l,i.2.1.size≤1048576∧co i.2.2.1∧i.2.2.1.length≤1048576∧i.2.2.2.size≤1048576
theorem acP (s:ByteArray) (h:0<s.size):s.data.toList.getLast? =some s[s.size-1]:=by
 have hl:s.data.toList.length=s.size:=by rw [Array.length_toList];rfl
 rw [List.getLast?_eq_getElem?,hl,List.getElem?_eq_getElem (by omega)];rfl
theorem acQ (s:ByteArray) (h:0<s.size):s.data.toList.head? =some s[0]:=by
 have hl:s.data.toList.length=s.size:=by rw [Array.length_toList];rfl
 rw [List.head?_eq_getElem?,List.getElem?_eq_getElem (by omega)];rfl
def eK (s:ByteArray):Bool:=s.data.toList.head? ==some 32||s.data.toList.getLast? ==some 32
theorem wV (s:ByteArray):eG s=(decide (s.size≤60)&&(aq s.data.toList&& !eK s)):=by
 unfold eG eK aD;rw [ii]
 by_cases h:s.size≤60
 ·rw [decide_eq_true h,decide_eq_true (show s.size≤20000 by omega)]
  simp only [Bool.true_and,Bool.not_or,bne];rw [Bool.and_assoc]
 ·rw [decide_eq_false h];simp
theorem qq (s:ByteArray) (h:0<s.size):eK s=((((s[0].toNat:Int))==32)||(((s[s.size-1].toNat:Int))==32)):=by
 unfold eK;rw [acQ s h,acP s h,show (32:Int)=((32:UInt8).toNat:Int) from rfl,nf,nf]
 rfl
theorem wW (s:ByteArray) (w:World) (hs:s.size≤maxLen):
  Calls Tryz.prog 161 #[.string s] w fun e w'=>e= .returned (.bool (eK s))∧w=w':=by
 unfold maxLen at hs
 cases h:emB s with
 |true=>
  obtain ⟨a1,a2,a3,a4⟩:=jh h
  have hz:s.data.toList=[]:=by rw [←ByteArray.toList_eq];exact a2
  rw [show eK s=false by unfold eK;rw [hz];rfl];clear hz
  go_enter Tryz.func161,Tryz.ntmps161
  go_wp2;go_ret;exact ⟨rfl,rfl⟩
 |false=>
  obtain ⟨a1,a2,a3,a4⟩:=kG h
  have hp:0<s.size:=by
   rcases Nat.eq_zero_or_pos s.size with e|e
   ·exfalso;unfold emB at h;rw [e] at h;cases h
   ·exact e
  rw [qq s hp]
  have e1:((s.size:Int)-1).toNat=s.size-1:=by omega
  cases h1:((s[0].toNat:Int)==32)
  ·cases h2:((s[s.size-1].toNat:Int)==32)
   all_goals
    go_enter Tryz.func161,Tryz.ntmps161
    go_wp2;go_ret;exact ⟨rfl,rfl⟩
  ·go_enter Tryz.func161,Tryz.ntmps161
   go_wp2;go_ret;exact ⟨rfl,rfl⟩
theorem qr (s:ByteArray) (w:World) (hs:s.size≤maxLen):
  Calls Tryz.prog 119 #[.string s] w fun e w'=>e= .returned (.bool (eG s))∧w=w':=by
 have Ds:=agC hs;unfold maxLen at hs;rw [wV]
 by_cases h:s.size≤60
 ·rw [decide_eq_true h,Bool.true_and]
  have z:decide ((s.size:Int)≤60)=true:=decide_eq_true (by omega)
  cases hp:aq s.data.toList with
  |false=>
   go_enter Tryz.func119,Tryz.ntmps119
   go_wp2_with fail;refine (fA s _ Ds.out).mono ?_;rintro e w' ⟨rfl,rfl⟩;rw [hp];go_wp2;go_ret;exact ⟨rfl,rfl⟩
  |true=>
   cases h9:eK s
   all_goals
    go_enter Tryz.func119,Tryz.ntmps119
    go_wp2_with fail;refine (fA s _ Ds.out).mono ?_;rintro e w' ⟨rfl,rfl⟩;rw [hp];go_wp2_with fail;refine (wW s _ Ds.out).mono ?_;rintro e w' ⟨rfl,rfl⟩;rw [h9];go_wp2;go_ret;exact ⟨rfl,rfl⟩
 ·rw [decide_eq_false h,Bool.false_and]
  have z:decide ((s.size:Int)≤60)=false:=decide_eq_false (by omega)
  go_enter Tryz.func119,Tryz.ntmps119
  go_wp2;go_ret;exact ⟨rfl,rfl⟩
def itF:List It→List Value→List Value
 |i::l,u::us=> .int .i64 i.1:: .string i.2.1::u:: .string i.2.2.2::itF l us
 |_,_=>[]
theorem oS: ∀(l:List It) (us:List Value),l.length=us.length→(itF l us).length=l.length*4:=by
 intro l
 induction l with
 |nil=>intro us h;rfl
 |cons b l ih=>
  intro us h
  cases us with
  |nil=>simp at h
  |cons u us=>simp only [itF,List.length_cons];rw [ih us (by simpa using h)];omega
theorem ac2: ∀(l:List It) (us:List Value),l.length=us.length→ ∀(k:Nat) (h:k<l.length) (h':k<us.length),(itF l us)[k*4]? =some (.int .i64 l[k].1)∧(itF l us)[k*4+1]? =some (.string l[k].2.1)∧(itF l us)[k*4+2]? =some us[k]∧(itF l us)[k*4+3]? =some (.string l[k].2.2.2):=by
 intro l
 induction l with
 |nil=>intro us _ k h;simp at h
 |cons b l ih=>
  intro us hl k h h'
  cases us with
  |nil=>simp at h'
  |cons u us=>
   cases k with
   |zero=>exact ⟨rfl,rfl,rfl,rfl⟩
   |succ k=>
    simp only [itF,show (k+1)*4=k*4+1+1+1+1 by omega,List.getElem?_cons_succ,List.getElem_cons_succ];exact ih us (by simpa using hl) k (by simpa using h) (by simpa using h')
theorem oT: ∀(l:List It) (us:List Value) (l':List It) (us':List Value),l.length=us.length→itF (l++l') (us++us')=itF l us++itF l' us':=by
 intro l
 induction l with
 |nil=>intro us l' us' h;cases us with
  |nil=>rfl
  |cons u us=>simp at h
 |cons b l ih=>
  intro us l' us' h
  cases us with
  |nil=>simp at h
  |cons u us=>simp only [List.cons_append,itF];rw [ih us l' us' (by simpa using h)]
structure OwnI (w:World) (base:Nat) (v:Value) (us:List Value) (l:List It):Prop where
 row:w.ownsRow base 32 4 v l.length (itF l us)
 len:us.length=l.length
 each: ∀(k:Nat) (h:k<us.length) (h':k<l.length),w.ownsRow base 110 3 us[k] l[k].2.2.1.length (ai l[k].2.2.1)
 far: ∀(k:Nat) (h:k<us.length) (b:Nat),us[k].ownBlock=some b→v.ownBlock≠some b
 apart: ∀(i j:Nat) (hi:i<us.length) (hj:j<us.length) (b:Nat),us[i].ownBlock=some b→us[j].ownBlock=some b→i=j
theorem OwnI.below {w w':World} {base:Nat} {v:Value} {us:List Value} {l:List It} (h:OwnI w base v us l) (hb:Below w.heap.size w w'):OwnI w' base v us l:=
 ⟨dB h.row hb,h.len,fun k h1 h2=>dB (h.each k h1 h2) hb,h.far,h.apart⟩
theorem OwnI.reads {w:World} {base:Nat} {v:Value} {us:List Value} {l:List It} (h:OwnI w base v us l):RowIt w v l:=by
 obtain ⟨ao,cap,rfl⟩:=aN h.row;have hl:=h.len
 rcases h.row.2 with ⟨h1,h2⟩|⟨g,cp,cur,h1,hg,hh,Es,DS,_⟩
 ·injection h1 with e1 e2 e3
  subst e1;subst e3;exact ⟨none,0,rfl,by omega,by unfold maxLen;omega, .inl (List.length_eq_zero_iff.mp h2)⟩
 ·injection h1 with e1 e2 e3
  subst e1;subst e3;refine ⟨_,cap,rfl,Es,DS, .inr ⟨g,0,rfl,(h.row.lt g rfl).2,fun k hk=> ?_⟩⟩;obtain ⟨f0,f1,f2,f3⟩:=ac2 l us hl.symm k hk (by omega);refine ⟨us[k]'(by omega), ?_, ?_, ?_, ?_,(RowC.of_own (h.each k (by omega) hk)).1⟩
  ·rw [Nat.zero_add,h.row.cellAt _ (by omega)];exact f0
  ·rw [Nat.zero_add,h.row.cellAt _ (by omega)];exact f1
  ·rw [Nat.zero_add,h.row.cellAt _ (by omega)];exact f2
  ·rw [Nat.zero_add,h.row.cellAt _ (by omega)];exact f3
theorem OwnI.lower {w:World} {base base':Nat} {v:Value} {us:List Value} {l:List It} (h:OwnI w base v us l) (hb:base'≤base):OwnI w base' v us l:=
 ⟨bX h.row (fun g hg=>Nat.le_trans hb (h.row.lt g hg).1),h.len,fun k h1 h2=>bX (h.each k h1 h2) (fun g hg=>Nat.le_trans hb ((h.each k h1 h2).lt g hg).1),h.far,h.apart⟩
def It4 (w:World) (B:Nat) (x0 x1 x2 x3:Value):Prop:=(w.cell? ⟨B,0,none⟩=some x0∧w.cell? ⟨B,1,none⟩=some x1∧w.cell? ⟨B,2,none⟩=some x2∧w.cell? ⟨B,3,none⟩=some x3)∧(w.frozen? ⟨B,0,none⟩=false∧w.frozen? ⟨B,1,none⟩=false∧w.frozen? ⟨B,2,none⟩=false∧w.frozen? ⟨B,3,none⟩=false)∧B<w.heap.size
theorem It4.keep {W w1:World} {B:Nat} {x0 x1 x2 x3:Value} (h:It4 W B x0 x1 x2 x3) (hb:Below W.heap.size W w1):It4 w1 B x0 x1 x2 x3:=by
 obtain ⟨⟨h1,h2,h3,h4⟩,⟨f1,f2,f3,f4⟩,h5⟩:=h
 have hc: ∀i,w1.cell? ⟨B,i,none⟩=W.cell? ⟨B,i,none⟩:=fun i=>hb.cell (p:=⟨B,i,none⟩) h5
 have hf: ∀i,w1.frozen? ⟨B,i,none⟩=W.frozen? ⟨B,i,none⟩:=fun i=>hb.frozen (p:=⟨B,i,none⟩) h5
 have hs:=hb.size;exact ⟨⟨(hc _).trans h1,(hc _).trans h2,(hc _).trans h3,(hc _).trans h4⟩,⟨(hf _).trans f1,(hf _).trans f2,(hf _).trans f3,(hf _).trans f4⟩,by omega⟩
theorem It4.new (W:World) (x0 x1 x2 x3:Value) (t:TypeId):It4 (W.alloc (.cells #[x0,x1,x2,x3] t)) W.heap.size x0 x1 x2 x3:=by
 refine ⟨⟨?_, ?_, ?_, ?_⟩,⟨?_, ?_, ?_, ?_⟩, ?_⟩<;>simp [go_sem]
theorem It4.al {W:World} {B:Nat} {x0 x1 x2 x3:Value} (h:It4 W B x0 x1 x2 x3) (o:Obj):It4 (W.alloc o) B x0 x1 x2 x3:=h.keep ((Below.refl _ W).alloc (agD _) _)
theorem It4.grown {W w1:World} {B:Nat} {x0 x1 x2 x3:Value} {row:Option Nat} (h:It4 W B x0 x1 x2 x3) (hg:W.grownBy w1 row) (hn:row≠some B):It4 w1 B x0 x1 x2 x3:=by
 obtain ⟨⟨h1,h2,h3,h4⟩,⟨f1,f2,f3,f4⟩,h5⟩:=h;have hb:w1.heap[B]? =W.heap[B]? :=hg.block B h5 (fun e=>hn e.symm)
 have hc: ∀i,w1.cell? ⟨B,i,none⟩=W.cell? ⟨B,i,none⟩:=fun i=>by simp [World.cell?,hb]
 have hf: ∀i,w1.frozen? ⟨B,i,none⟩=W.frozen? ⟨B,i,none⟩:=fun i=>by simp [World.frozen?,hb]
 have hs:=hg.size;exact ⟨⟨(hc _).trans h1,(hc _).trans h2,(hc _).trans h3,(hc _).trans h4⟩,⟨(hf _).trans f1,(hf _).trans f2,(hf _).trans f3,(hf _).trans f4⟩,by omega⟩
theorem wD:(Tryz.prog.info? 32).map (fun i=>(i.zero,i.size,i.bytes))=some (some (.agg #[.int .i64 0, .string ByteArray.empty, .slice none 0 0, .string ByteArray.empty]),4,64):=by kernel_rfl
theorem adH (s:ByteArray):eG s=(aD s&&(decide (s.size≤60)&&(!dV s.data.toList 10&& !eK s))):=by
 unfold eG eK;simp only [Bool.not_or,bne]
theorem pQ (s:ByteArray) (w:World) (hs:s.size≤maxLen):
  Calls Tryz.prog 82 #[.string s] w fun e w'=>e= .returned (.bool (eG s))∧w=w':=by
 have Ds:=agC hs;have M1:=agC (ev s 10 w hs (by omega) (by omega));unfold maxLen at hs;rw [adH]
 cases h0:aD s with
 |false=>
  go_enter Tryz.func82,Tryz.ntmps82
  go_wp2_with fail;refine (aG s _ Ds.out).mono ?_;rintro e w' ⟨rfl,rfl⟩;rw [h0];go_wp2;go_ret;exact ⟨rfl,rfl⟩
 |true=>
  by_cases h:s.size≤60
  ·rw [decide_eq_true h]
   have z:decide ((s.size:Int)≤60)=true:=decide_eq_true (by omega)
   cases hh:dV s.data.toList 10 with
   |true=>
    go_enter Tryz.func82,Tryz.ntmps82
    go_wp2_with fail;refine (aG s _ Ds.out).mono ?_;rintro e w' ⟨rfl,rfl⟩;rw [h0];go_wp2_with fail;refine M1.out.mono ?_;rintro e w' ⟨rfl,rfl⟩;rw [hh];go_wp2;go_ret;exact ⟨rfl,rfl⟩
   |false=>
    cases he:emB s with
    |true=>
     obtain ⟨a1,a2,a3,a4⟩:=jh he
     have hz:s.data.toList=[]:=by rw [←ByteArray.toList_eq];exact a2
     rw [show eK s=false by unfold eK;rw [hz];rfl];clear hz
     go_enter Tryz.func82,Tryz.ntmps82
     go_wp2_with fail;refine (aG s _ Ds.out).mono ?_;rintro e w' ⟨rfl,rfl⟩;rw [h0];go_wp2_with fail;refine M1.out.mono ?_;rintro e w' ⟨rfl,rfl⟩;rw [hh];go_wp2;go_ret;exact ⟨rfl,rfl⟩
    |false=>
     obtain ⟨a1,a2,a3,a4⟩:=kG he
     have hp:0<s.size:=by
      rcases Nat.eq_zero_or_pos s.size with e|e
      ·exfalso;unfold emB at he;rw [e] at he;cases he
      ·exact e
     rw [qq s hp]
     have e1:((s.size:Int)-1).toNat=s.size-1:=by omega
     cases h1:((s[0].toNat:Int)==32)
     ·have n1:((s[0].toNat:Int) !=32)=true:=by rw [bne,h1];rfl
      cases h2:((s[s.size-1].toNat:Int)==32)
      all_goals
       have n2:=congrArg Bool.not h2;rw [show (!((s[s.size-1].toNat:Int)==32))=((s[s.size-1].toNat:Int) !=32) from rfl] at n2;simp only [Bool.not_true,Bool.not_false] at n2
       go_enter Tryz.func82,Tryz.ntmps82
       go_wp2_with fail;refine (aG s _ Ds.out).mono ?_;rintro e w' ⟨rfl,rfl⟩;rw [h0];go_wp2_with fail;refine M1.out.mono ?_;rintro e w' ⟨rfl,rfl⟩;rw [hh];go_wp2;go_ret;exact ⟨rfl,rfl⟩
     ·have n1:((s[0].toNat:Int) !=32)=false:=by rw [bne,h1];rfl
      go_enter Tryz.func82,Tryz.ntmps82
      go_wp2_with fail;refine (aG s _ Ds.out).mono ?_;rintro e w' ⟨rfl,rfl⟩;rw [h0];go_wp2_with fail;refine M1.out.mono ?_;rintro e w' ⟨rfl,rfl⟩;rw [hh];go_wp2;go_ret;exact ⟨rfl,rfl⟩
  ·rw [decide_eq_false h]
   have z:decide ((s.size:Int)≤60)=false:=decide_eq_false (by omega)
   go_enter Tryz.func82,Tryz.ntmps82
   go_wp2_with fail;refine (aG s _ Ds.out).mono ?_;rintro e w' ⟨rfl,rfl⟩;rw [h0];go_wp2;go_ret;exact ⟨rfl,rfl⟩
theorem gv (w:World) (base:Nat):OwnI w base (.slice none 0 0) [] []:=⟨World.ownsRow_nil _ _ _ _,rfl,fun k h=>by simp at h,fun k h=>by simp at h,fun i j h=>by simp at h⟩
theorem aeN (w:World):OwnI (w.alloc (.cells #[] 32)) w.heap.size (.slice (some ⟨w.heap.size,0,none⟩) 0 0) [] []:=
 ⟨World.ownsRow_lit (e:=32) (size:=4) (base:=w.heap.size) w #[] 0 (agD _) (by unfold maxLen;omega) rfl,rfl,fun k h=>by simp at h,fun k h=>by simp at h,fun i j h=>by simp at h⟩
theorem OwnI.pushN {wr w1 w2:World} {base gg:Nat} {a v':Value} {us us2:List Value} {env env2:List It} (h:OwnI wr base a us env) (Bx:base≤wr.heap.size) (hW: ∀b,base≤b→b<wr.heap.size→w1.heap[b]? =wr.heap[b]?) (Cj:wr.heap.size≤w1.heap.size) (Df:us2.length=env2.length)
  (hu: ∀k (h1:k<us2.length) (h2:k<env2.length),w1.ownsRow wr.heap.size 110 3 us2[k] env2[k].2.2.1.length (ai env2[k].2.2.1)) (Gf: ∀i j (hi:i<us2.length) (hj:j<us2.length) b,us2[i].ownBlock=some b→us2[j].ownBlock=some b→i=j)
  (o:Obj) (Ac:(w1.alloc o).grownBy w2 a.ownBlock) (Be:w2.ownsRow base 32 4 v' (env.length+env2.length) (itF env us++itF env2 us2)) (GP:v'.ownBlock=some gg) (Bc:a.ownBlock=some gg∨gg=w1.heap.size+1):
  OwnI w2 base v' (us++us2) (env++env2):=by
 have hl:=h.len
 have En: ∀x,a.ownBlock=some x→base≤x∧x<wr.heap.size:=fun x hx=>h.row.lt x hx
 have Fl: ∀b,b<w1.heap.size→a.ownBlock≠some b→w2.heap[b]? =w1.heap[b]? :=fun b hb At=>by
  rw [Ac.block b (by simp;omega) (fun e=>At e.symm),Below.heap_alloc _ _ _ hb]
 have JP: ∀k (h1:k<us2.length) x,us2[k].ownBlock=some x→wr.heap.size≤x∧x<w1.heap.size:=fun k h1 x hx=>(hu k h1 (by omega)).lt x hx
 have Cs: ∀k (h1:k<us.length) x,us[k].ownBlock=some x→base≤x∧x<wr.heap.size:=fun k h1 x hx=>(h.each k h1 (by omega)).lt x hx
 have hcut: ∀k (h1:k<(us++us2).length),(∃h:k<us.length,(us++us2)[k]=us[k])∨(∃h:k-us.length<us2.length,us.length≤k∧(us++us2)[k]=us2[k-us.length]):=by
  intro k h1
  by_cases hk:k<us.length
  ·exact .inl ⟨hk,List.getElem_append_left hk⟩
  ·rw [agE] at h1
   exact .inr ⟨by omega,by omega,List.getElem_append_right (by omega)⟩
 refine ⟨?_,by simp [hl,Df], ?_, ?_, ?_⟩
 ·rw [agE,oT env us env2 us2 (by omega)]
  exact Be
 ·intro k h1 h2
  rcases hcut k h1 with ⟨hk,e⟩|⟨hk,hkl2,e⟩
  ·rw [e,List.getElem_append_left (by omega)]
   exact dI (h.each k hk (by omega)) (fun g hg=>by
    have h3:=Cs k hk g hg
    rw [Fl g (by omega) (h.far k hk g hg),hW g h3.1 h3.2])
  ·have e2:(env++env2)[k]=env2[k-us.length]'(by omega):=by
    rw [List.getElem_append_right (by omega)];congr 1;omega
   rw [e,e2];exact bX (dI (hu _ hk (by omega)) (fun g hg=>Fl g (JP _ hk g hg).2 (fun e=>by have:=En g e;have:=JP _ hk g hg;omega))) (fun g hg=>by have:=JP _ hk g hg;omega)
 ·intro k h1 b hb
  rw [GP];intro e0
  injection e0 with e0
  subst e0
  rcases hcut k h1 with ⟨hk,e⟩|⟨hk,hkl2,e⟩
  ·rw [e] at hb
   rcases Bc with Bc|Bc
   ·exact h.far k hk _ hb Bc
   ·have:=Cs k hk _ hb;omega
  ·rw [e] at hb
   have:=JP _ hk _ hb
   rcases Bc with Bc|Bc
   ·have:=En _ Bc;omega
   ·omega
 ·intro i j h1 h2 b hi hj
  rcases hcut i h1 with ⟨hki,ei⟩|⟨hki,hki2,ei⟩
  ·rw [ei] at hi
   rcases hcut j h2 with ⟨hkj,ej⟩|⟨hkj,hkj2,ej⟩
   ·rw [ej] at hj;exact h.apart i j hki hkj b hi hj
   ·rw [ej] at hj
    have:=Cs i hki b hi;have:=JP _ hkj b hj;omega
  ·rw [ei] at hi
   rcases hcut j h2 with ⟨hkj,ej⟩|⟨hkj,hkj2,ej⟩
   ·rw [ej] at hj
    have:=Cs j hkj b hj;have:=JP _ hki b hi;omega
   ·rw [ej] at hj
    have:=Gf _ _ hki hkj b hi hj;omega
theorem OwnI.push {wr w1 w2:World} {base gg c:Nat} {a u:Value} {us:List Value} {env:List It} {i:It} (h:OwnI wr base a us env) (Bx:base≤wr.heap.size) (Aa:Below wr.heap.size wr w1) (hu:w1.ownsRow wr.heap.size 110 3 u i.2.2.1.length (ai i.2.2.1))
  (o:Obj) (Ac:(w1.alloc o).grownBy w2 a.ownBlock) (Be:w2.ownsRow base 32 4 (.slice (some ⟨gg,0,none⟩) (env.length+1) c) (env.length+1) (itF env us++[.int .i64 i.1, .string i.2.1,u, .string i.2.2.2])) (Bc:a.ownBlock=some gg∨gg=w1.heap.size+1):
  OwnI w2 base (.slice (some ⟨gg,0,none⟩) (env.length+1) c) (us++[u]) (env++[i])∧Below base wr w2:=by
 refine ⟨h.pushN (us2:=[u]) (env2:=[i]) Bx (fun b _ hl=>Aa.block b hl) Aa.size rfl (fun k h1 h2=> ?_) (fun x y hx hy b _ _=>by simp at hx hy;omega) o Ac Be rfl Bc, ?_⟩
 ·have:k=0:=by simp at h1;omega
  subst this;exact hu
 ·exact ((Aa.mono Bx).alloc (Nat.le_trans Bx Aa.size) o).grown Ac (by have:=Aa.size;simp;omega) (fun x hx=>(h.row.lt x hx).1)
theorem ov (v1 v2:Value) (l:List Cl) (w:World) (h1:RowC w v1 l) (h2:RowC w v2 l):
  Calls Tryz.prog 96 #[v1,v2] w fun e w'=>e= .returned (.bool true)∧Below w.heap.size w w':=by
 obtain ⟨a1,c1,rfl,p1,q1,r1⟩:=h1;obtain ⟨a2,c2,rfl,p2,q2,r2⟩:=h2;unfold maxLen at q1 q2;have R1:=agC r1;have R2:=agC r2;clear r1 r2
 go_enter Tryz.func96,Tryz.ntmps96
 go_wp2_with fail
 go_loopw [5] (fun i wr=> ∃k:Nat,k≤l.length∧i= .int .i64 (k:Int)∧Below w.heap.size w wr) (fun i _=>l.length-(intOf i).toNat)
 case atStart=>exact ⟨0,agH _,rfl,Below.refl _ _⟩
 case round=>
  obtain ⟨k,hk,rfl,hb⟩:=hrel;have HB:=agC hb;clear hb
  by_cases Ab:k<l.length
  ·obtain ⟨b1,o1,rfl,FF,LL⟩:=R1.out.resolve_left (by rintro rfl;simp at Ab)
   obtain ⟨b2,o2,rfl,Df,Ce⟩:=R2.out.resolve_left (by rintro rfl;simp at Ab);obtain ⟨x0,x1,x2⟩:=LL k Ab;obtain ⟨y0,y1,y2⟩:=Ce k Ab;have d0:=(HB.out.cell (p:=⟨b1,_,none⟩) FF).trans x0;have d1:=(HB.out.cell (p:=⟨b1,_,none⟩) FF).trans x1;have d2:=(HB.out.cell (p:=⟨b1,_,none⟩) FF).trans x2;have e0:=(HB.out.cell (p:=⟨b2,_,none⟩) Df).trans y0;have e1:=(HB.out.cell (p:=⟨b2,_,none⟩) Df).trans y1;have e2:=(HB.out.cell (p:=⟨b2,_,none⟩) Df).trans y2;generalize l[k].1=kk at d0 e0;generalize l[k].2.1=ss at d1 e1;generalize l[k].2.2=mm at d2 e2;clear LL Ce x0 x1 x2 y0 y1 y2;go_wp2_with fail
   go_quiet (fail)
   have HQ:=agC (show Below w.heap.size w (wr.drewN nq) from HB.out.trans ⟨rfl,rfl,rfl,agD _,fun _ _=>rfl⟩);go_wp2;go_roundw
   case rel=>exact ⟨k+1,by omega,by go_num,HQ.out⟩
   case measure=>simp [intOf];omega
  ·obtain rfl:k=l.length:=by omega
   go_wp2;go_ret;exact ⟨rfl,HB.out⟩
end Go.Proofs.YtegdjjjpoahamaaGreatDoor
