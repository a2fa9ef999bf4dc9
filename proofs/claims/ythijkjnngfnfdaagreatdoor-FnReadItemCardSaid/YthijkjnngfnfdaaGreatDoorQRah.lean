/-
  Part of the proof of FnReadItem.
-/
import Derived.Test.YthijkjnngfnfdaaGreatDoorQRaa
import Derived.Test.YthijkjnngfnfdaaGreatDoorQRac
import Derived.WalkKit
import Derived.WalkSpells
import Derived.Lib.Hide
import Derived.IntWalk
import Derived.BigQuiet
import Derived.Deep.QuietTactic
import Derived.Below
import Derived.Laws.OwnMore
import Derived.OwnWalk
set_option linter.unusedVariables false
set_option maxHeartbeats 4000000
set_option maxRecDepth 100000
namespace Go.Proofs.YthijkjnngfnfdaaGreatDoor
open Go.RowKit
theorem fO (s:ByteArray):s.data.toList.length=s.size:=by rw [Array.length_toList];rfl
theorem act {s:ByteArray} (h:bZ s=true):2≤s.size:=by
 simp only [bZ,Bool.and_eq_true,decide_eq_true_eq] at h;have:=congrArg List.length h.2;rw [fO] at this
 simp [bB] at this
 omega
theorem zX {s:ByteArray} (h:bZ s=true) (hl:0<s.size):s[0]=34:=by
 simp only [bZ,Bool.and_eq_true,decide_eq_true_eq] at h
 have h2:s.data.toList[0]? =some 34:=by rw [←h.2];rfl
 rw [List.getElem?_eq_getElem (by rw [fO];omega)] at h2;exact Option.some.inj h2
theorem acu {s:ByteArray} (h:bZ s=true) (hl:s.size-1<s.size):s[s.size-1]=34:=by
 simp only [bZ,Bool.and_eq_true,decide_eq_true_eq] at h
 have h2:s.data.toList.getLast? =some 34:=by rw [←h.2];simp [bB,List.getLast?_cons]
 rw [List.getLast?_eq_getElem?,fO,List.getElem?_eq_getElem (by rw [fO];omega)] at h2;exact Option.some.inj h2
theorem zY {s:ByteArray} (h:s.size<2):bZ s=false:=by
 cases e:bZ s with
 |false=>rfl
 |true=>have:=act e;omega
theorem sy {s:ByteArray} (hl:0<s.size) (h:s[0]≠34):bZ s=false:=by
 cases e:bZ s with
 |false=>rfl
 |true=>exact absurd (zX e hl) h
theorem tJ {s:ByteArray} (hl:s.size-1<s.size) (h:s[s.size-1]≠34):bZ s=false:=by
 cases e:bZ s with
 |false=>rfl
 |true=>exact absurd (acu e hl) h
theorem tK (s:ByteArray) (k:Nat) (h:k+1<s.size):s.data.toList.drop k=s[k]::s[k+1]::s.data.toList.drop (k+2):=by
 rw [List.drop_eq_getElem_cons (by rw [fO];omega),List.drop_eq_getElem_cons (by rw [fO];omega)];rfl
theorem tL (s:ByteArray) (k:Nat) (h:k+1<s.size) (hc:s[k]≠92):dI (s.data.toList.drop k)=s[k]::dI (s.data.toList.drop (k+1)):=by
 rw [tK s k h,List.drop_eq_getElem_cons (i:=k+1) (by rw [fO];omega)];simp only [dI,hc,if_false];rfl
theorem wI (s:ByteArray) (k:Nat) (h:k+1<s.size) (hc:s[k]=92):dI (s.data.toList.drop k)=(if s[k+1]=110 then 10 else s[k+1])::dI (s.data.toList.drop (k+2)):=by
 rw [tK s k h];simp only [dI,hc,if_true]
theorem wJ (s:ByteArray) (k:Nat) (h: ¬k+1<s.size):dI (s.data.toList.drop k)=[]:=by
 have:(s.data.toList.drop k).length≤1:=by rw [List.length_drop,fO];omega
 generalize s.data.toList.drop k=l at this⊢
 match l,this with
 |[],_=>rfl
 |[_],_=>rfl
theorem zZ {s q:ByteArray} (hq:q.data.toList=oS s) (h:bZ s=true):cX q=s∧q=hY s:=by
 have hq':q=⟨(oS s).toArray⟩:=eI (by rw [jU,hq])
 have e:hY s=q:=by unfold hY;rw [if_pos h,hq']
 have:=so h;rw [e] at this;exact ⟨this.2,e.symm⟩
theorem ae8 {s q:ByteArray} (h2:2≤s.size) (hq:q.data.toList=oS s) (h:bZ s=false):((cX q).toList==s.toList)=false:=by
 rw [beq_eq_false_iff_ne];intro e;rw [ByteArray.toList_eq,ByteArray.toList_eq] at e;have hq':q=⟨(oS s).toArray⟩:=eI (by rw [jU,hq])
 cases ht:aT q with
 |false=>
  rw [oy ht] at e
  have:s.size=0:=by rw [←fO,←e];rfl
  omega
 |true=>
  have e1:bB q.data.toList=s.data.toList:=by unfold cX at e;rw [if_pos ht] at e;simpa using e
  rw [(yS ht e1).1] at h
  cases h
theorem ny (s:ByteArray) (w:World) (hs:s.size≤maxLen):
  Calls Tryz.prog 211 #[.string s] w fun e w'=>e= .returned (.tuple #[.string (hY s), .bool (bZ s)])∧w=w':=by
 have HMX:=aim hs;unfold maxLen at hs
 by_cases h2:s.size<2
 ·have e:=zY h2
  rw [kX e,e];clear e
  go_enter Tryz.func211,Tryz.ntmps211
  go_wp2;go_ret2;exact ⟨rfl,rfl⟩
 have q0:0<s.size:=by omega
 have q1:s.size-1<s.size:=by omega
 have b0:(s[0].toNat:Int)≤255:=by have:=s[0].toNat_lt;omega
 by_cases h3:s[0]=34
 case neg=>
  have e:=sy q0 h3;rw [kX e,e];clear e
  have t1:((s[0].toNat:Int) !=34)=true:=by
   rw [bne_iff_ne];intro e;exact h3 (UInt8.toNat_inj.mp (by rw [show (34:UInt8).toNat=34 from rfl];omega))
  clear h3
  go_enter Tryz.func211,Tryz.ntmps211
  go_wp2;go_ret2;exact ⟨rfl,rfl⟩
 have t1:((s[0].toNat:Int) !=34)=false:=by rw [h3];rfl
 clear h3
 have ei:((s.size:Int)-1).toNat=s.size-1:=by omega
 by_cases h4:s[s.size-1]=34
 case neg=>
  have e:=tJ q1 h4;rw [kX e,e];clear e
  have t2:((s[s.size-1].toNat:Int) !=34)=true:=by
   rw [bne_iff_ne];intro e;exact h4 (UInt8.toNat_inj.mp (by rw [show (34:UInt8).toNat=34 from rfl];omega))
  clear h4
  go_enter Tryz.func211,Tryz.ntmps211
  go_wp2;go_ret2;exact ⟨rfl,rfl⟩
 have t2:((s[s.size-1].toNat:Int) !=34)=false:=by rw [h4];rfl
 clear h4;have HU:=aim (show dI (s.data.toList.drop 1)=oS s from rfl);have t8:decide ((s.size:Int)<2)=false:=decide_eq_false (by omega);have t8':decide (s.size<2)=false:=decide_eq_false (by omega)
 go_enter Tryz.func211,Tryz.ntmps211
 go_wp2;clear t1 t2
 go_loop [4,5] (fun o i=> ∃(k:Nat) (q:ByteArray),1≤k∧k≤s.size∧i= .int .i64 k∧o= .string q∧q.data.toList++dI (s.data.toList.drop k)=oS s∧q.size≤k) (fun _ i=>s.size-(intOf i).toNat)
 case atStart=>exact ⟨1,⟨#[]⟩,ain _,by omega,rfl,rfl,by rw [HU.out];rfl,air _⟩
 case round=>
  obtain ⟨k,q,hk1,hk,rfl,rfl,hq,hz⟩:=hrel;have HQ:=aim hq;clear hq
  by_cases hlt:k+1<s.size
  ·have hlt0:k<s.size:=by omega
   have hb0:(s[k].toNat:Int)≤255:=by have:=s[k].toNat_lt;omega
   have HO:=aim (pd s k hlt0)
   have hoz:(s.extract k (k+1)).size=1:=by rw [ByteArray.size_extract];omega
   have t0:decide ((k:Int)<(s.size:Int)-1)=true:=decide_eq_true (by omega)
   by_cases h92:s[k]=92
   ·have HN:=aim (wI s k hlt h92)
    have t1:((s[k].toNat:Int) !=92)=false:=by rw [h92];rfl
    have hb1:(s[k+1].toNat:Int)≤255:=by have:=s[k+1].toNat_lt;omega
    have HO1:=aim (pd s (k+1) hlt)
    have hoz1:(s.extract (k+1) (k+1+1)).size=1:=by rw [ByteArray.size_extract];omega
    clear h92
    by_cases h110:s[k+1]=110
    ·have HC:=aim (show (if s[k+1]=110 then 10 else s[k+1])=(10:UInt8) by rw [if_pos h110])
     have t2:((s[k+1].toNat:Int)==110)=true:=by rw [h110];rfl
     clear h110;go_wp2
     go_round
     case rel=>exact ⟨k+2,_,by omega,by omega,by go_num,rfl,by have h5:=HQ.out;rw [HN.out,HC.out] at h5;rw [←h5];simp,by rw [ByteArray.size_append];show q.size+1≤_;omega⟩
     case measure=>simp [intOf];omega
    ·have HC:=aim (show (if s[k+1]=110 then 10 else s[k+1])=s[k+1] by rw [if_neg h110])
     have t2:((s[k+1].toNat:Int)==110)=false:=by
      rw [beq_eq_false_iff_ne];intro e;exact h110 (UInt8.toNat_inj.mp (by rw [show (110:UInt8).toNat=110 from rfl];omega))
     clear h110;go_wp2
     go_round
     case rel=>exact ⟨k+2,_,by omega,by omega,by go_num,rfl,by have h5:=HQ.out;have h6:=HO1.out;rw [HN.out,HC.out] at h5;rw [←h5];simp only [ByteArray.data_append,Array.toList_append,h6];simp,by rw [ByteArray.size_append,hoz1];omega⟩
     case measure=>simp [intOf];omega
   ·have HN:=aim (tL s k hlt h92)
    have t1:((s[k].toNat:Int) !=92)=true:=by
     rw [bne_iff_ne];intro e;exact h92 (UInt8.toNat_inj.mp (by rw [show (92:UInt8).toNat=92 from rfl];omega))
    clear h92;go_wp2
    go_round
    case rel=>exact ⟨k+1,_,by omega,by omega,by go_num,rfl,by have h5:=HQ.out;have h6:=HO.out;rw [HN.out] at h5;rw [←h5];simp only [ByteArray.data_append,Array.toList_append,h6];simp,by rw [ByteArray.size_append,hoz];omega⟩
    case measure=>simp [intOf];omega
  ·have t0:decide ((k:Int)<(s.size:Int)-1)=false:=decide_eq_false (by omega)
   have hqu:q.data.toList=oS s:=by have h5:=HQ.out;rw [wJ s k hlt] at h5;simpa using h5
   have hqz:q.size≤9223372036854775807:=by omega
   cases hok:bZ s with
   |true=>
    obtain ⟨g1,g2⟩:=zZ hqu hok;have G1:=aim g1;have G2:=aim g2;have HK:=aim hok;clear g1 g2 hqu hok;go_wp2_with fail;refine (im q _ (by unfold maxLen;omega)).mono ?_;rintro e w' ⟨rfl,rfl⟩
    have t3:((cX q).toList==s.toList)=true:=by rw [G1.out];simp
    go_wp2;go_ret2;exact ⟨by rw [HK.out,←G2.out];rfl,rfl⟩
   |false=>
    have t3:=ae8 (by omega) hqu hok;have G2:=aim (kX hok);have HK:=aim hok;clear hqu hok;go_wp2_with fail;refine (im q _ (by unfold maxLen;omega)).mono ?_;rintro e w' ⟨rfl,rfl⟩;go_wp2;go_ret2;exact ⟨by rw [HK.out,G2.out];rfl,rfl⟩
theorem oT:(Tryz.prog.info? 9).map (fun i=>(i.zero,i.size,i.bytes))=some (some (.string ByteArray.empty),1,16):=by kernel_rfl
def gH (l:List ByteArray):List Value:=l.map Value.string
theorem fB (a b:List ByteArray):gH (a++b)=gH a++gH b:=by simp [gH]
theorem eq (s:ByteArray) (k:Nat) (h:k<s.size):s.data.toList.drop k=s[k]::s.data.toList.drop (k+1):=by
 rw [List.drop_eq_getElem_cons (by simpa using h)];rfl
theorem iZ (s:ByteArray) (k:Nat) (h:s.size≤k):s.data.toList.drop k=[]:=List.drop_eq_nil_of_le (by rw [Array.length_toList];exact h)
def pq:Nat→UInt8×UInt8
 |0=>(60,61)
 |1=>(62,61)
 |2=>(61,61)
 |3=>(33,61)
 |4=>(38,38)
 |_=>(124,124)
theorem lit6 (m:Nat) (h:m<6): ∃t:ByteArray,t.data.toList=[(pq m).1,(pq m).2]∧(#[Value.string ⟨#[60,61]⟩, .string ⟨#[62,61]⟩, .string ⟨#[61,61]⟩, .string ⟨#[33,61]⟩, .string ⟨#[38,38]⟩, .string ⟨#[124,124]⟩]:Array Value)[m]? =some (.string t):=by
 match m,h with
 |0,_=>exact ⟨_,rfl,rfl⟩
 |1,_=>exact ⟨_,rfl,rfl⟩
 |2,_=>exact ⟨_,rfl,rfl⟩
 |3,_=>exact ⟨_,rfl,rfl⟩
 |4,_=>exact ⟨_,rfl,rfl⟩
 |5,_=>exact ⟨_,rfl,rfl⟩
def agL (B:Nat) (wr:World):Prop:= ∀(m:Nat) v,(#[Value.string ⟨#[60,61]⟩, .string ⟨#[62,61]⟩, .string ⟨#[61,61]⟩, .string ⟨#[33,61]⟩, .string ⟨#[38,38]⟩, .string ⟨#[124,124]⟩]:Array Value)[m]? =some v→wr.cell? ⟨B,m,none⟩=some v
theorem tN (w:World):agL w.heap.size (w.alloc (.cells #[Value.string ⟨#[60,61]⟩, .string ⟨#[62,61]⟩, .string ⟨#[61,61]⟩, .string ⟨#[33,61]⟩, .string ⟨#[38,38]⟩, .string ⟨#[124,124]⟩] 9)):=by
 intro m v h;simp only [World.cell?,heap_alloc_new];simpa using h
theorem ae9 (b c:UInt8) (j:Nat) (h:[b,c]=[(pq j).1,(pq j).2]):two (b.toNat:Int) (c.toNat:Int)=true:=by
 simp only [List.cons.injEq,and_true] at h;obtain ⟨rfl,rfl⟩:=h
 match j with
 |0=>decide
 |1=>decide
 |2=>decide
 |3=>decide
 |4=>decide
 |_+5=>simp only [pq];decide
theorem agM (b c:UInt8) (h: ∀j,j<6→[b,c]≠[(pq j).1,(pq j).2]):two (b.toNat:Int) (c.toNat:Int)=false:=by
 rw [Bool.eq_false_iff];intro e
 have key: ∀(x y:UInt8),(b.toNat:Int)=(x.toNat:Int)→(c.toNat:Int)=(y.toNat:Int)→[b,c]=[x,y]:=by
  intro x y h1 h2;rw [UInt8.toNat_inj.mp (show b.toNat=x.toNat by omega),UInt8.toNat_inj.mp (show c.toNat=y.toNat by omega)]
 simp only [two,Bool.or_eq_true,Bool.and_eq_true,beq_iff_eq] at e
 rcases e with (((((⟨e,g⟩|⟨e,g⟩)|⟨e,g⟩)|⟨e,g⟩)|⟨e,g⟩)|⟨e,g⟩)
 ·exact h 0 (by omega) (key 60 61 e g)
 ·exact h 1 (by omega) (key 62 61 e g)
 ·exact h 2 (by omega) (key 61 61 e g)
 ·exact h 3 (by omega) (key 33 61 e g)
 ·exact h 4 (by omega) (key 38 38 e g)
 ·exact h 5 (by omega) (key 124 124 e g)
theorem yY (n:Int):eH ({data:= #[33,45,42,47,37,43,60,62,63,58,40,41,91,93,44]}:ByteArray).data.toList n=one n:=by
 rw [Bool.eq_iff_iff];simp only [eH,one,List.any_cons,List.any_nil,Bool.or_eq_true,beq_iff_eq,Bool.or_false]
 constructor
 ·intro h;simp only [show ((33:UInt8).toNat:Int)=33 from rfl,show ((45:UInt8).toNat:Int)=45 from rfl,show ((42:UInt8).toNat:Int)=42 from rfl,show ((47:UInt8).toNat:Int)=47 from rfl,show ((37:UInt8).toNat:Int)=37 from rfl,show ((43:UInt8).toNat:Int)=43 from rfl,show ((60:UInt8).toNat:Int)=60 from rfl,show ((62:UInt8).toNat:Int)=62 from rfl,show ((63:UInt8).toNat:Int)=63 from rfl,show ((58:UInt8).toNat:Int)=58 from rfl,show ((40:UInt8).toNat:Int)=40 from rfl,show ((41:UInt8).toNat:Int)=41 from rfl,show ((91:UInt8).toNat:Int)=91 from rfl,show ((93:UInt8).toNat:Int)=93 from rfl,show ((44:UInt8).toNat:Int)=44 from rfl] at h;omega
 ·intro h;simp only [show ((33:UInt8).toNat:Int)=33 from rfl,show ((45:UInt8).toNat:Int)=45 from rfl,show ((42:UInt8).toNat:Int)=42 from rfl,show ((47:UInt8).toNat:Int)=47 from rfl,show ((37:UInt8).toNat:Int)=37 from rfl,show ((43:UInt8).toNat:Int)=43 from rfl,show ((60:UInt8).toNat:Int)=60 from rfl,show ((62:UInt8).toNat:Int)=62 from rfl,show ((63:UInt8).toNat:Int)=63 from rfl,show ((58:UInt8).toNat:Int)=58 from rfl,show ((40:UInt8).toNat:Int)=40 from rfl,show ((41:UInt8).toNat:Int)=41 from rfl,show ((91:UInt8).toNat:Int)=91 from rfl,show ((93:UInt8).toNat:Int)=93 from rfl,show ((44:UInt8).toNat:Int)=44 from rfl];omega
theorem afa (s:ByteArray) (a:Nat) (h:a+1<s.size):(s.extract a (a+2)).toList=[s[a],s[a+1]]:=by
 rw [ByteArray.toList_eq]
 have hl:s.data.toList.length=s.size:=by rw [Array.length_toList];rfl
 have e:(s.extract a (a+2)).data.toList=(s.data.toList.drop a).take 2:=by
  simp [ByteArray.data_extract]
 rw [e,eq s a (by omega),eq s (a+1) (by omega)];rfl
theorem acv (s:ByteArray) (a:Nat) (h:a+1<s.size):fk (s.data.toList.drop a)=if two (s[a].toNat:Int) (s[a+1].toNat:Int)=true then 2 else if one (s[a].toNat:Int)=true then 1 else 0:=by
 rw [eq s a (by omega),eq s (a+1) (by omega),fk]
theorem acw (s:ByteArray) (a:Nat) (h:a<s.size) (h1: ¬a+1<s.size):fk (s.data.toList.drop a)=if one (s[a].toNat:Int)=true then 1 else 0:=by
 rw [eq s a h,iZ s (a+1) (by omega),fk]
theorem wK (s:ByteArray) (a:Nat) (w:World) (hs:s.size≤20000) (ha:a<s.size):
  Calls Tryz.prog 173 #[.string s, .int .i64 (a:Int)] w fun e w'=>e= .returned (.int .i64 ((fk (s.data.toList.drop a):Nat):Int))∧Below w.heap.size w w':=by
 have hb0:(s[a].toNat:Int)≤255:=by have:=s[a].toNat_lt;omega
 by_cases h1:a+1<s.size
 ·have HS:=aim (acv s a h1)
  have HX:=aim (afa s a h1)
  go_enter Tryz.func173,Tryz.ntmps173
  go_wp2
  go_loopw [6] (fun i wr=> ∃(k:Nat),k≤6∧i= .int .i64 (k:Int)∧(∀j,j<k→[s[a],s[a+1]]≠[(pq j).1,(pq j).2])∧agL w.heap.size wr∧Below w.heap.size w wr) (fun i _=>6-(intOf i).toNat)
  case atStart=>exact ⟨0,by omega,rfl,fun j h=>by omega,tN w,(Below.refl _ _).alloc (ain _) _⟩
  case round=>
   obtain ⟨k,hk,rfl,hno,hlt6,hbel⟩:=hrel;have HNO:=aim hno;have HB:=aim hbel;have H6:=aim hlt6;clear hno hbel hlt6
   by_cases hlt:k<6
   ·obtain ⟨t,ht,hlit⟩:=lit6 k hlt
    have hc:wr.cell? ⟨w.heap.size,k,none⟩=some (.string t):=H6.out k _ hlit;have HT:=aim ht;clear ht hlit
    have q0:(0:Int)≤(k:Int):=by omega
    have q1:(k:Int)<6:=by omega
    have q2:(a:Int)≤(a:Int)+2:=by omega
    have q3:(a:Int)+2≤(s.size:Int):=by omega
    have q4:(0:Int)≤(a:Int)+2:=by omega
    have q5:((a:Int)+2).toNat=a+2:=by omega
    have q6:decide ((a:Int)+1<(s.size:Int))=true:=decide_eq_true (by omega);have r1:IntKind.i64.wrap ((a:Int)+1)=(a:Int)+1:=IntWalk.i64_in _ (by omega);have r2:IntKind.i64.wrap ((a:Int)+2)=(a:Int)+2:=IntWalk.i64_in _ (by omega)
    cases hE:((s.extract a (a+2)).toList==t.toList) with
    |true=>
     have HTW:=aim (show two (s[a].toNat:Int) (s[a+1].toNat:Int)=true by
      refine ae9 _ _ k ?_
      rw [beq_iff_eq,HX.out,ByteArray.toList_eq,HT.out] at hE;exact hE)
     go_wp2_with fail
     go_quiet (fail)
     clear r1 r2;go_wp2;go_ret;exact ⟨by rw [HS.out,if_pos HTW.out];rfl,HB.out.trans ⟨rfl,rfl,rfl,ain _,fun _ _=>rfl⟩⟩
    |false=>
     have HN2:=aim (show∀j,j<k+1→[s[a],s[a+1]]≠[(pq j).1,(pq j).2] by
      intro j hj
      by_cases hjk:j<k
      ·exact HNO.out j hjk
      ·obtain rfl:j=k:=by omega
       rw [beq_eq_false_iff_ne,HX.out,ByteArray.toList_eq,HT.out] at hE;exact hE)
     go_wp2_with fail
     go_quiet (fail)
     clear r1 r2;go_wp2;go_roundw
     case rel=>exact ⟨k+1,by omega,by go_num,HN2.out,H6.out,HB.out.trans ⟨rfl,rfl,rfl,ain _,fun _ _=>rfl⟩⟩
     case measure=>simp [intOf];omega
   ·have HTW:=aim (show two (s[a].toNat:Int) (s[a+1].toNat:Int)=false from agM _ _ (fun j hj=>HNO.out j (by omega)))
    have h6:k=6:=by omega
    subst h6
    cases ho:one (s[a].toNat:Int)
    all_goals
     have HO:=aim ho;clear ho;go_wp2_with fail;refine (fc _ _ _ (by decide) (by omega) (by omega)).mono ?_;rintro e w' ⟨rfl,rfl⟩;rw [yY,HO.out];go_wp2;go_ret;exact ⟨by rw [HS.out,HTW.out,HO.out];rfl,HB.out.trans ⟨rfl,rfl,rfl,ain _,fun _ _=>rfl⟩⟩
 ·have HS:=aim (acw s a ha h1)
  have q6:decide ((a:Int)+1<(s.size:Int))=false:=decide_eq_false (by omega)
  go_enter Tryz.func173,Tryz.ntmps173
  go_wp2
  go_loopw [6] (fun i wr=> ∃(k:Nat),k≤6∧i= .int .i64 (k:Int)∧agL w.heap.size wr∧Below w.heap.size w wr) (fun i _=>6-(intOf i).toNat)
  case atStart=>exact ⟨0,by omega,rfl,tN w,(Below.refl _ _).alloc (ain _) _⟩
  case round=>
   obtain ⟨k,hk,rfl,hlt6,hbel⟩:=hrel;have HB:=aim hbel;have H6:=aim hlt6;clear hbel hlt6
   by_cases hlt:k<6
   ·have r1:IntKind.i64.wrap ((a:Int)+1)=(a:Int)+1:=IntWalk.i64_in _ (by omega)
    have q0:(0:Int)≤(k:Int):=by omega
    have q1:(k:Int)<6:=by omega
    go_wp2_with fail
    go_quiet (fail)
    clear r1;go_wp2;go_roundw
    case rel=>exact ⟨k+1,by omega,by go_num,H6.out,HB.out.trans ⟨rfl,rfl,rfl,ain _,fun _ _=>rfl⟩⟩
    case measure=>simp [intOf];omega
   ·have h6:k=6:=by omega
    subst h6
    cases ho:one (s[a].toNat:Int)
    all_goals
     have HO:=aim ho;clear ho;go_wp2_with fail;refine (fc _ _ _ (by decide) (by omega) (by omega)).mono ?_;rintro e w' ⟨rfl,rfl⟩;rw [yY,HO.out];go_wp2;go_ret;exact ⟨by rw [HS.out,HO.out];rfl,HB.out.trans ⟨rfl,rfl,rfl,ain _,fun _ _=>rfl⟩⟩
theorem tO (p:Int→Bool) (s:ByteArray) (k:Nat) (h:k<s.size) (hp:p (s[k].toNat:Int)=true):gO p (s.data.toList.drop k)=gO p (s.data.toList.drop (k+1))+1:=by
 rw [eq s k h,gO,if_pos hp]
theorem yZ (p:Int→Bool) (s:ByteArray) (k:Nat) (h:k<s.size) (hp:p (s[k].toNat:Int)=false):gO p (s.data.toList.drop k)=0:=by
 rw [eq s k h,gO,if_neg (by rw [hp];simp)]
theorem tP (p:Int→Bool) (s:ByteArray) (k:Nat) (h:s.size≤k):gO p (s.data.toList.drop k)=0:=by rw [iZ s k h];rfl
theorem z5 (s:ByteArray) (a:Nat) (h:a<s.size) (hl:cA (s[a].toNat:Int)=true):fN (s.data.toList.drop a)=gO nmI (s.data.toList.drop a)∧fm (s.data.toList.drop a)=1:=by
 rw [eq s a h];simp [fN,fm,hl]
theorem acx (s:ByteArray) (a:Nat) (h:a<s.size) (hl:cA (s[a].toNat:Int)=false) (hd:cP (s[a].toNat:Int)=true):fN (s.data.toList.drop a)=gO nrI (s.data.toList.drop a)∧fm (s.data.toList.drop a)=2:=by
 rw [eq s a h];simp [fN,fm,hl,hd]
theorem z6 (s:ByteArray) (a:Nat) (h:a<s.size) (hl:cA (s[a].toNat:Int)=false) (hd:cP (s[a].toNat:Int)=false) (hq:((s[a].toNat:Int)==34)=true):
  fN (s.data.toList.drop a)=(if a+1+clo false (s.data.toList.drop (a+1))<s.size then clo false (s.data.toList.drop (a+1))+2 else 0)∧fm (s.data.toList.drop a)=(if a+1+clo false (s.data.toList.drop (a+1))<s.size then 3 else 0):=by
 have hl2:(s.data.toList.drop (a+1)).length=s.size-(a+1):=by rw [List.length_drop,Array.length_toList];rfl
 have e:clo false (s.data.toList.drop (a+1))<(s.data.toList.drop (a+1)).length↔a+1+clo false (s.data.toList.drop (a+1))<s.size:=by rw [hl2];omega
 rw [eq s a h];simp only [fN,fm,hl,hd,hq,Bool.false_eq_true,if_false,if_true,e,and_self]
theorem z7 (s:ByteArray) (a:Nat) (h:a<s.size) (hl:cA (s[a].toNat:Int)=false) (hd:cP (s[a].toNat:Int)=false) (hq:((s[a].toNat:Int)==34)=false):
  fN (s.data.toList.drop a)=fk (s.data.toList.drop a)∧fm (s.data.toList.drop a)=if fk (s.data.toList.drop a)=0 then 0 else 4:=by
 rw [eq s a h];simp only [fN,fm,hl,hd,hq,Bool.false_eq_true,if_false,and_self]
theorem acy (s:ByteArray) (k:Nat) (h:k<s.size) (hq:((s[k].toNat:Int)==34)=true):clo false (s.data.toList.drop k)=0:=by
 rw [eq s k h,clo,if_pos hq]
theorem afb (s:ByteArray) (k:Nat) (h:k<s.size) (hq:((s[k].toNat:Int)==34)=false) (hb:((s[k].toNat:Int)==92)=true):clo false (s.data.toList.drop k)=clo false (s.data.toList.drop (k+2))+2:=by
 rw [eq s k h,clo,if_neg (by rw [hq];simp),if_pos hb]
 by_cases h1:k+1<s.size
 ·rw [eq s (k+1) h1,clo]
 ·rw [iZ s (k+1) (by omega),iZ s (k+2) (by omega)];rfl
theorem acz (s:ByteArray) (k:Nat) (h:k<s.size) (hq:((s[k].toNat:Int)==34)=false) (hb:((s[k].toNat:Int)==92)=false):clo false (s.data.toList.drop k)=clo false (s.data.toList.drop (k+1))+1:=by
 rw [eq s k h,clo,if_neg (by rw [hq];simp),if_neg (by rw [hb];simp)]
theorem afc (s:ByteArray) (k:Nat) (h:s.size≤k):clo false (s.data.toList.drop k)=0:=by rw [iZ s k h];rfl
def rg (s:ByteArray) (a:Nat) (w:World) (e:Ending) (w':World):Prop:=
 e= .returned (.tuple #[.int .i64 ((a+fN (s.data.toList.drop a):Nat):Int), .int .i64 (fm (s.data.toList.drop a))])∧Below w.heap.size w w'
theorem gI {s:ByteArray} {a n:Nat} {k:Int} {w w':World} (h1:fN (s.data.toList.drop a)=n) (h2:fm (s.data.toList.drop a)=k) (hb:Below w.heap.size w w'):rg s a w (.returned (.tuple #[.int .i64 ((a+n:Nat):Int), .int .i64 k])) w':=by
 subst h1 h2;exact ⟨rfl,hb⟩
theorem wL (s:ByteArray) (a:Nat) (w:World) (hs:s.size≤20000) (ha:a<s.size) (hl:cA (s[a].toNat:Int)=true):
  Calls Tryz.prog 144 #[.string s, .int .i64 (a:Int)] w (rg s a w):=by
 have hb0:(s[a].toNat:Int)≤255:=by have:=s[a].toNat_lt;omega
 have HE:=aim (z5 s a ha hl);have HL:=aim hl;clear hl
 go_enter Tryz.func144,Tryz.ntmps144
 go_wp2_with fail;refine (bm _ _ (by omega) (by omega)).mono ?_;rintro e w' ⟨rfl,rfl⟩;rw [HL.out];go_wp2_with fail
 go_loop [6] (fun i=> ∃j:Nat,a+j≤s.size∧i= .int .i64 ((a+j:Nat):Int)∧j+gO nmI (s.data.toList.drop (a+j))=gO nmI (s.data.toList.drop a)) (fun i=>s.size-(intOf i).toNat)
 case atStart=>exact ⟨0,by omega,rfl,by simp⟩
 case round=>
  obtain ⟨j,hj,rfl,hr⟩:=hrel;have HR:=aim hr;clear hr
  by_cases hlt:a+j<s.size
  ·have hbk:(s[a+j].toNat:Int)≤255:=by have:=s[a+j].toNat_lt;omega
   have HY:=aim (tO nmI s (a+j) hlt);have HZ:=aim (yZ nmI s (a+j) hlt)
   cases hk1:cA (s[a+j].toNat:Int) with
   |true=>
    have HK1:=aim hk1;clear hk1;have HV:=aim (HY.out (by simp [nmI,dH,HK1.out]));clear HY HZ;go_wp2_with fail;refine (bm _ _ (by omega) (by omega)).mono ?_;rintro e w' ⟨rfl,rfl⟩;rw [HK1.out];go_wp2
    go_round
    case rel=>exact ⟨j+1,by omega,by go_num,by rw [←HR.out,HV.out,show a+(j+1)=a+j+1 by omega];omega⟩
    case measure=>simp [intOf];omega
   |false=>
    have HK1:=aim hk1;clear hk1
    cases hk2:cP (s[a+j].toNat:Int) with
    |true=>
     have HK2:=aim hk2;clear hk2;have HV:=aim (HY.out (by simp [nmI,dH,HK1.out,HK2.out]));clear HY HZ;go_wp2_with fail;refine (bm _ _ (by omega) (by omega)).mono ?_;rintro e w' ⟨rfl,rfl⟩;rw [HK1.out];go_wp2_with fail;refine (bH _ _ (by omega) (by omega)).mono ?_;rintro e w' ⟨rfl,rfl⟩;rw [HK2.out];go_wp2
     go_round
     case rel=>exact ⟨j+1,by omega,by go_num,by rw [←HR.out,HV.out,show a+(j+1)=a+j+1 by omega];omega⟩
     case measure=>simp [intOf];omega
    |false=>
     have HK2:=aim hk2;clear hk2
     cases hk3:((s[a+j].toNat:Int)==95) with
     |true=>
      have HV:=aim (HY.out (by simp only [nmI,dH,HK1.out,HK2.out,hk3];rfl));clear HY HZ;go_wp2_with fail;refine (bm _ _ (by omega) (by omega)).mono ?_;rintro e w' ⟨rfl,rfl⟩;rw [HK1.out];go_wp2_with fail;refine (bH _ _ (by omega) (by omega)).mono ?_;rintro e w' ⟨rfl,rfl⟩;rw [HK2.out];go_wp2
      go_round
      case rel=>exact ⟨j+1,by omega,by go_num,by rw [←HR.out,HV.out,show a+(j+1)=a+j+1 by omega];omega⟩
      case measure=>simp [intOf];omega
     |false=>
      cases hk4:((s[a+j].toNat:Int)==46) with
      |true=>
       have HV:=aim (HY.out (by simp only [nmI,dH,HK1.out,HK2.out,hk3,hk4];rfl));clear HY HZ;go_wp2_with fail;refine (bm _ _ (by omega) (by omega)).mono ?_;rintro e w' ⟨rfl,rfl⟩;rw [HK1.out];go_wp2_with fail;refine (bH _ _ (by omega) (by omega)).mono ?_;rintro e w' ⟨rfl,rfl⟩;rw [HK2.out];go_wp2
       go_round
       case rel=>exact ⟨j+1,by omega,by go_num,by rw [←HR.out,HV.out,show a+(j+1)=a+j+1 by omega];omega⟩
       case measure=>simp [intOf];omega
      |false=>
       have HV:=aim (HZ.out (by simp only [nmI,dH,HK1.out,HK2.out,hk3,hk4];rfl));clear HY HZ;have HQ:=aim (show fN (s.data.toList.drop a)=j by rw [HE.out.1,←HR.out,HV.out];rfl);go_wp2_with fail;refine (bm _ _ (by omega) (by omega)).mono ?_;rintro e w' ⟨rfl,rfl⟩;rw [HK1.out];go_wp2_with fail;refine (bH _ _ (by omega) (by omega)).mono ?_;rintro e w' ⟨rfl,rfl⟩;rw [HK2.out];go_wp2;go_ret2;exact gI HQ.out HE.out.2 (Below.refl _ _)
  ·have HZ:=aim (tP nmI s (a+j) (by omega))
   have HQ:=aim (show fN (s.data.toList.drop a)=j by rw [HE.out.1,←HR.out,HZ.out];rfl);go_wp2;go_ret2;exact gI HQ.out HE.out.2 (Below.refl _ _)
theorem z9 (s:ByteArray) (a:Nat) (w:World) (hs:s.size≤20000) (ha:a<s.size) (hl:cA (s[a].toNat:Int)=false) (hd:cP (s[a].toNat:Int)=true):
  Calls Tryz.prog 144 #[.string s, .int .i64 (a:Int)] w (rg s a w):=by
 have hb0:(s[a].toNat:Int)≤255:=by have:=s[a].toNat_lt;omega
 have HE:=aim (acx s a ha hl hd);have HL:=aim hl;have HD:=aim hd;clear hl hd
 go_enter Tryz.func144,Tryz.ntmps144
 go_wp2_with fail;refine (bm _ _ (by omega) (by omega)).mono ?_;rintro e w' ⟨rfl,rfl⟩;rw [HL.out];go_wp2_with fail;refine (bH _ _ (by omega) (by omega)).mono ?_;rintro e w' ⟨rfl,rfl⟩;rw [HD.out];go_wp2_with fail
 go_loop [6] (fun i=> ∃j:Nat,a+j≤s.size∧i= .int .i64 ((a+j:Nat):Int)∧j+gO nrI (s.data.toList.drop (a+j))=gO nrI (s.data.toList.drop a)) (fun i=>s.size-(intOf i).toNat)
 case atStart=>exact ⟨0,by omega,rfl,by simp⟩
 case round=>
  obtain ⟨j,hj,rfl,hr⟩:=hrel;have HR:=aim hr;clear hr
  by_cases hlt:a+j<s.size
  ·have hbk:(s[a+j].toNat:Int)≤255:=by have:=s[a+j].toNat_lt;omega
   have HY:=aim (tO nrI s (a+j) hlt);have HZ:=aim (yZ nrI s (a+j) hlt)
   cases hk2:cP (s[a+j].toNat:Int) with
   |true=>
    have HK2:=aim hk2;clear hk2;have HV:=aim (HY.out (by simp [nrI,HK2.out]));clear HY HZ;go_wp2_with fail;refine (bH _ _ (by omega) (by omega)).mono ?_;rintro e w' ⟨rfl,rfl⟩;rw [HK2.out];go_wp2
    go_round
    case rel=>exact ⟨j+1,by omega,by go_num,by rw [←HR.out,HV.out,show a+(j+1)=a+j+1 by omega];omega⟩
    case measure=>simp [intOf];omega
   |false=>
    have HK2:=aim hk2;clear hk2
    cases hk4:((s[a+j].toNat:Int)==46) with
    |true=>
     have HV:=aim (HY.out (by simp only [nrI,HK2.out,hk4];rfl));clear HY HZ;go_wp2_with fail;refine (bH _ _ (by omega) (by omega)).mono ?_;rintro e w' ⟨rfl,rfl⟩;rw [HK2.out];go_wp2
     go_round
     case rel=>exact ⟨j+1,by omega,by go_num,by rw [←HR.out,HV.out,show a+(j+1)=a+j+1 by omega];omega⟩
     case measure=>simp [intOf];omega
    |false=>
     have HV:=aim (HZ.out (by simp only [nrI,HK2.out,hk4];rfl));clear HY HZ;have HQ:=aim (show fN (s.data.toList.drop a)=j by rw [HE.out.1,←HR.out,HV.out];rfl);go_wp2_with fail;refine (bH _ _ (by omega) (by omega)).mono ?_;rintro e w' ⟨rfl,rfl⟩;rw [HK2.out];go_wp2;go_ret2;exact gI HQ.out HE.out.2 (Below.refl _ _)
  ·have HZ:=aim (tP nrI s (a+j) (by omega))
   have HQ:=aim (show fN (s.data.toList.drop a)=j by rw [HE.out.1,←HR.out,HZ.out];rfl);go_wp2;go_ret2;exact gI HQ.out HE.out.2 (Below.refl _ _)
theorem wM (s:ByteArray) (a:Nat) (w:World) (hs:s.size≤20000) (ha:a<s.size) (hl:cA (s[a].toNat:Int)=false) (hd:cP (s[a].toNat:Int)=false) (hq:((s[a].toNat:Int)==34)=true):
  Calls Tryz.prog 144 #[.string s, .int .i64 (a:Int)] w (rg s a w):=by
 have hb0:(s[a].toNat:Int)≤255:=by have:=s[a].toNat_lt;omega
 have HE:=aim (z6 s a ha hl hd hq);have HL:=aim hl;have HD:=aim hd;clear hl hd
 go_enter Tryz.func144,Tryz.ntmps144
 go_wp2_with fail;refine (bm _ _ (by omega) (by omega)).mono ?_;rintro e w' ⟨rfl,rfl⟩;rw [HL.out];go_wp2_with fail;refine (bH _ _ (by omega) (by omega)).mono ?_;rintro e w' ⟨rfl,rfl⟩;rw [HD.out];go_wp2_with fail
 go_loop [6] (fun i=> ∃k:Nat,a+1≤k∧k≤s.size+1∧i= .int .i64 (k:Int)∧k+clo false (s.data.toList.drop k)=a+1+clo false (s.data.toList.drop (a+1))) (fun i=>s.size+1-(intOf i).toNat)
 case atStart=>exact ⟨a+1,by omega,by omega,by go_num,rfl⟩
 case round=>
  obtain ⟨k,hk0,hk,rfl,hr⟩:=hrel;have HR:=aim hr;clear hr
  by_cases hlt:k<s.size
  ·have hbk:(s[k].toNat:Int)≤255:=by have:=s[k].toNat_lt;omega
   cases h34:((s[k].toNat:Int)==34) with
   |true=>
    have n34:((s[k].toNat:Int) !=34)=false:=by simp only [bne,h34];rfl
    have HZ:=aim (acy s k hlt h34);have HV:=aim (show a+1+clo false (s.data.toList.drop (a+1))=k by rw [←HR.out,HZ.out];rfl);have HQ:=aim (show fN (s.data.toList.drop a)=k+1-a by rw [HE.out.1,HV.out,if_pos hlt];have:=HV.out;omega);have HQ2:=aim (show fm (s.data.toList.drop a)=3 by rw [HE.out.2,HV.out,if_pos hlt]);have HX:=aim (show ((a+(k+1-a):Nat):Int)=(k:Int)+1 by omega);go_wp2;go_ret2;have:=gI (w:=w) HQ.out HQ2.out (Below.refl _ _);rw [HX.out] at this;exact this
   |false=>
    have n34:((s[k].toNat:Int) !=34)=true:=by simp only [bne,h34];rfl
    cases h92:((s[k].toNat:Int)==92) with
    |true=>
     have HV:=aim (afb s k hlt h34 h92);go_wp2
     go_round
     case rel=>exact ⟨k+2,by omega,by omega,by go_num,by rw [←HR.out,HV.out];omega⟩
     case measure=>simp [intOf];omega
    |false=>
     have HV:=aim (acz s k hlt h34 h92);go_wp2
     go_round
     case rel=>exact ⟨k+1,by omega,by omega,by go_num,by rw [←HR.out,HV.out];omega⟩
     case measure=>simp [intOf];omega
  ·have HZ:=aim (afc s k (by omega))
   have HV:=aim (show a+1+clo false (s.data.toList.drop (a+1))=k by rw [←HR.out,HZ.out];rfl);have HQ:=aim (show fN (s.data.toList.drop a)=0 by rw [HE.out.1,HV.out,if_neg hlt]);have HQ2:=aim (show fm (s.data.toList.drop a)=0 by rw [HE.out.2,HV.out,if_neg hlt]);go_wp2;go_ret2;exact gI HQ.out HQ2.out (Below.refl _ _)
theorem wN (s : ByteArray) (a : Nat) (w : World) (hs : s.size ≤ 20000) (ha : a < s.size) (hl : cA (s[a].toNat : Int) = false) (hd : cP (s[a].toNat : Int) = false) (hq : ((s[a].toNat : Int) == 34) = false) :
    Calls Tryz.prog 144 #[.string s, .int .i64 (a : Int)] w (rg s a w) := by
  have hb0 : (s[a].toNat : Int) ≤ 255 := by have := s[a].toNat_lt; omega
  have HE := aim (z7 s a ha hl hd hq); have HL := aim hl; have HD := aim hd; clear hl hd
  go_enter Tryz.func144, Tryz.ntmps144
  go_wp2_with fail;refine (bm _ _ (by omega) (by omega)).mono ?_;rintro e w' ⟨rfl, rfl⟩;rw [HL.out];go_wp2_with fail;refine (bH _ _ (by omega) (by omega)).mono ?_;rintro e w' ⟨rfl, rfl⟩;rw [HD.out];go_wp2_with fail;refine (wK s a _ hs ha).mono ?_;rintro e w1 ⟨rfl, hb1⟩;have HB1 := aim hb1; clear hb1
  have hle : fk (s.data.toList.drop a) ≤ 2 := by
    rw [eq s a ha]
    cases s.data.toList.drop (a + 1) with
    | nil => simp only [fk]; split <;> omega
    | cons c r => simp only [fk]; split
                  · omega
                  · split <;> omega
  generalize hn : fk (s.data.toList.drop a) = n at *
  by_cases hz : n = 0
  · have hz' : ((n : Int) == 0) = true := beq_iff_eq.mpr (by omega)
    have HQ := aim (show fN (s.data.toList.drop a) = 0 by rw [HE.out.1]; exact hz);have HQ2 := aim (show fm (s.data.toList.drop a) = 0 by rw [HE.out.2, if_pos hz]);clear hn hz;go_wp2;go_ret2;exact gI HQ.out HQ2.out HB1.out
  · have hz' : ((n : Int) == 0) = false := beq_eq_false_iff_ne.mpr (by omega)
    have HQ := aim HE.out.1;have HQ2 := aim (show fm (s.data.toList.drop a) = 4 by rw [HE.out.2, if_neg hz]);clear hn hz;go_wp2;go_ret2;exact gI HQ.out HQ2.out HB1.out
theorem aaa (s:ByteArray) (a:Nat) (w:World) (hs:s.size≤20000) (ha:a<s.size):
  Calls Tryz.prog 144 #[.string s, .int .i64 (a:Int)] w (rg s a w):=by
 cases hl:cA (s[a].toNat:Int) with
 |true=>exact wL s a w hs ha hl
 |false=>
  cases hd:cP (s[a].toNat:Int) with
  |true=>exact z9 s a w hs ha hl hd
  |false=>
   cases hq:((s[a].toNat:Int)==34) with
   |true=>exact wM s a w hs ha hl hd hq
   |false=>exact wN s a w hs ha hl hd hq
theorem afd (s:ByteArray):okT s=(aT s&& !eH s.data.toList 10&&fd (0,0,[]) 0 s.data.toList):=by
 rw [okT,jr,aT]
 cases decide (s.size≤20000)<;>simp
theorem acA (acc:List (Int×Nat×Nat)) (k:Nat):cL (0,0,acc) k []=(0,k,acc):=by
 unfold cL;rw [dD,cg,fK];rfl
theorem acB (s:ByteArray) (k:Nat) (acc:List (Int×Nat×Nat)) (h:k<s.size) (h32:((s[k].toNat:Int)==32)=true):cL (0,0,acc) k (s.data.toList.drop k)=cL (0,0,acc) (k+1) (s.data.toList.drop (k+1)):=by
 rw [eq s k h,lz _ _ _ _ _ (by simpa using h32),pV k 0]
theorem afe (s:ByteArray) (k:Nat) (acc:List (Int×Nat×Nat)) (h:k<s.size) (h32:((s[k].toNat:Int)==32)=false) (hk:fm (s.data.toList.drop k)≠0):
  1≤fN (s.data.toList.drop k)∧k+fN (s.data.toList.drop k)≤s.size∧cL (0,0,acc) k (s.data.toList.drop k)=cL (0,0,acc++[(fm (s.data.toList.drop k),k,k+fN (s.data.toList.drop k))]) (k+fN (s.data.toList.drop k)) (s.data.toList.drop (k+fN (s.data.toList.drop k))):=by
 have ht:TokAt (s.data.toList.drop k) (fN (s.data.toList.drop k)) (fm (s.data.toList.drop k)):=by
  rw [eq s k h] at hk⊢;exact xS _ _ (by simpa using h32) hk
 have h1:=ht.read 0 k acc;rw [List.drop_drop] at h1
 have hl:(s.data.toList.drop k).length=s.size-k:=by rw [List.length_drop,Array.length_toList];rfl
 obtain ⟨b,t,-,-,-,-,hle,-⟩:=ht;exact ⟨h1.1,by rw [hl] at hle;omega,h1.2⟩
theorem aab (s:ByteArray) (k:Nat) (acc:List (Int×Nat×Nat)) (h:k<s.size) (h32:((s[k].toNat:Int)==32)=false) (hk:fm (s.data.toList.drop k)=0):(cL (0,0,acc) k (s.data.toList.drop k)).1≠0:=by
 rw [eq s k h] at hk⊢;exact zy _ _ _ _ _ (by simpa using h32) hk
theorem qE (s:ByteArray) (w:World) (hs:s.size≤maxLen):
  Calls Tryz.prog 108 #[.string s] w (zA (okT s) (aV s) w):=by
 obtain ⟨i0,hi,hz0,hz1,hz2⟩:=info_parts zz;have HMX:=aim hs;unfold maxLen at hs;have HI:=aim (afd s)
 cases ht:aT s with
 |false=>
  have HT:=aim ht;have HR:=aim (show okT s=false by rw [HI.out,ht];rfl);have HL:=aim (show aV s=[] by rw [aV,HR.out];rfl);clear ht
  go_enter Tryz.func108,Tryz.ntmps108
  go_wp2_with fail;refine (aR s _ HMX.out).mono ?_;rintro e w' ⟨rfl,rfl⟩;rw [HT.out];go_wp2;refine bodyPost_ret (dw rfl _ _ _) rfl ?_;exact ⟨_,by rw [HR.out];rfl,by rw [HL.out];exact World.ownsRow_lit _ _ 0 (ain _) (by unfold maxLen;omega) rfl,(Below.refl _ _).alloc (ain _) _⟩
 |true=>
  have h20:s.size≤20000:=by simp only [aT,Bool.and_eq_true,decide_eq_true_eq] at ht;exact ht.1
  have HT:=aim ht
  cases hh:eH s.data.toList 10 with
  |true=>
   have HH:=aim hh;have HR:=aim (show okT s=false by rw [HI.out,hh];simp);have HL:=aim (show aV s=[] by rw [aV,HR.out];rfl);clear ht hh
   go_enter Tryz.func108,Tryz.ntmps108
   go_wp2_with fail;refine (aR s _ HMX.out).mono ?_;rintro e w' ⟨rfl,rfl⟩;rw [HT.out];go_wp2_with fail;refine (fc s 10 _ HMX.out (by omega) (by omega)).mono ?_;rintro e w' ⟨rfl,rfl⟩;rw [HH.out];go_wp2;refine bodyPost_ret (dw rfl _ _ _) rfl ?_;exact ⟨_,by rw [HR.out];rfl,by rw [HL.out];exact World.ownsRow_lit _ _ 0 (ain _) (by unfold maxLen;omega) rfl,(Below.refl _ _).alloc (ain _) _⟩
  |false=>
   have HH:=aim hh;have HR:=aim (show okT s=fd (0,0,[]) 0 s.data.toList by rw [HI.out,hh,ht];rfl);clear ht hh
   go_enter Tryz.func108,Tryz.ntmps108
   go_wp2_with fail;refine (aR s _ HMX.out).mono ?_;rintro e w' ⟨rfl,rfl⟩;rw [HT.out];go_wp2_with fail;refine (fc s 10 _ HMX.out (by omega) (by omega)).mono ?_;rintro e w' ⟨rfl,rfl⟩;rw [HH.out];go_wp2_with fail
   go_loopw [4,5] (fun v i wr=> ∃(k:Nat) (acc:List (Int×Nat×Nat)),k≤s.size∧acc.length≤k∧i= .int .i64 (k:Int)∧cL (0,0,acc) k (s.data.toList.drop k)=cL (0,0,[]) 0 s.data.toList∧wr.ownsRow w.heap.size 137 3 v acc.length (jl acc)∧Below w.heap.size w wr) (fun _ i _=>s.size-(intOf i).toNat)
   case atStart=>exact ⟨0,[],air _,air _,rfl,rfl,World.ownsRow_lit _ _ 0 (ain _) (by unfold maxLen;omega) rfl,(Below.refl _ _).alloc (ain _) _⟩
   case round=>
    obtain ⟨k,acc,hk,hal,rfl,hE,hown,hb⟩:=hrel;have HE:=aim hE;have HB:=aim hb;clear hE hb
    by_cases hlt:k<s.size
    ·have hb0:(s[k].toNat:Int)≤255:=by have:=s[k].toNat_lt;omega
     cases h32:((s[k].toNat:Int)==32) with
     |true=>
      have HS:=aim (acB s k acc hlt h32);go_wp2;go_roundw
      case rel=>exact ⟨k+1,acc,by omega,by omega,by go_num,by rw [←HS.out];exact HE.out,hown,HB.out⟩
      case measure=>simp [intOf];omega
     |false=>
      go_wp2_with fail;refine (aaa s k _ h20 hlt).mono ?_;rintro e w1 ⟨rfl,hb1⟩;have hgb:wr.grownBy w1 none:=⟨hb1.os,hb1.tape,hb1.output,hb1.size,fun i hi _=>hb1.block i hi⟩
      have hown1:=hown.kept hgb (by
       rcases hown.2 with ⟨rfl,_⟩|⟨g',cap,cur,rfl,_⟩
       ·exact .inl rfl
       ·exact .inr (by simp [Value.ownBlock]))
      have HB1:=aim (HB.out.trans (hb1.mono HB.out.size));clear hb1 hgb hown HB
      by_cases hk0:fm (s.data.toList.drop k)=0
      ·have HW:=aim (aab s k acc hlt h32 hk0)
       have HZ:=aim (show okT s=false by rw [HR.out,fd,←HE.out];exact decide_eq_false HW.out);have HL:=aim (show aV s=[] by rw [aV,HZ.out];rfl);rw [hk0];clear hk0;go_wp2;refine bodyPost_ret (dw rfl _ _ _) rfl ?_;exact ⟨_,by rw [HZ.out];rfl,by rw [HL.out];exact World.ownsRow_lit _ _ 0 HB1.out.size (by unfold maxLen;omega) rfl,HB1.out.alloc HB1.out.size _⟩
      ·obtain ⟨t1,t2,t3⟩:=afe s k acc hlt h32 hk0
       have hkz:(fm (s.data.toList.drop k)==0)=false:=beq_eq_false_iff_ne.mpr hk0;have HT3:=aim t3;clear hk0 t3;generalize hnn:fN (s.data.toList.drop k)=n at t1 t2 HT3⊢;generalize hkk:fm (s.data.toList.drop k)=kk at hkz HT3⊢;clear hnn hkk
       go_wp2_with (at_builtin;refine wpList_append_own _ rfl _ _ 131 rfl w.heap.size 137 i0 (.agg #[.int .i64 0, .int .i64 0, .int .i64 0]) 3 24 Tryz.underlying131 hi hz0 hz1 hz2 rfl (by decide) _ _ _ rfl (hown1.alloc _) ⟨w1.heap.size,0,none⟩ 1 1 [.int .i64 kk, .int .i64 (k:Int), .int .i64 ((k+n:Nat):Int)] rfl rfl (World.news_of_block (cs:= #[.int .i64 kk, .int .i64 (k:Int), .int .i64 ((k+n:Nat):Int)]) (t:=137) (fr:=(0,0)) (heap_alloc_new w1 _)) (by simp [Value.oneCell']) (by unfold maxLen;omega) (by omega) (by have:=HB1.out.size;simp;omega) ?_;intro v' w2 hown' hgrow hnil)
       go_roundw
       case rel=>
        refine ⟨k+n,acc++[(kk,k,k+n)],by omega,by simp;omega,rfl,by rw [←HT3.out];exact HE.out, ?_, ?_⟩
        ·rw [pW,aio];exact hown'
        ·exact (HB1.out.alloc HB1.out.size _).grown hgrow (by have:=HB1.out.size;simp;omega) (fun q hq=>(hown1.lt q hq).1)
       case measure=>simp [intOf];omega
    ·have HD:=aim (show cL (0,0,[]) 0 s.data.toList=(0,k,acc) by rw [←HE.out,iZ s k (by omega),acA])
     have HZ:=aim (show okT s=true by rw [HR.out,fd,HD.out];rfl);have HL:=aim (show aV s=acc by rw [aV,HZ.out,if_pos rfl,kE,fd,HD.out];simp);go_wp2;refine bodyPost_ret (dw rfl _ _ _) rfl ?_;exact ⟨_,by rw [HZ.out];rfl,by rw [HL.out];exact hown,HB.out⟩
end Go.Proofs.YthijkjnngfnfdaaGreatDoor
