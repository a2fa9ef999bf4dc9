/-
  Part of the proof of FnReadDocument.
-/
import Derived.Test.YtegdjjjpoahamaaGreatDoorQQRag
import Derived.WalkKit
import Derived.WalkSpells
import Derived.Lib.Hide
import Derived.IntWalk
import Derived.BigQuiet
import Derived.Deep.QuietTactic
import Derived.Below
import Derived.Laws.OwnMore
import Derived.OwnWalk
set_option linter.unusedVariables false
set_option maxHeartbeats 4000000
set_option maxRecDepth 100000
namespace Go.Proofs.YtegdjjjpoahamaaGreatDoor
open Go.RowKit
def RowOf (w:World) (v:Value) (L:List Value):Prop:=
 ∃ao cap,v= .slice ao L.length cap∧L.length≤cap∧cap≤maxLen∧(L=[]∨ ∃b off,ao=some ⟨b,off,none⟩∧b<w.heap.size∧ ∀(j:Nat) t,L[j]? =some t→w.cell? ⟨b,off+j,none⟩=some t)
theorem RowOf.of_own {w:World} {base:Nat} {e:TypeId} {v:Value} {n:Nat} {L:List Value} (h:w.ownsRow base e 1 v n L):RowOf w v L:=by
 have h0:=h;obtain ⟨hl,h2⟩:=h
 rcases h2 with ⟨rfl,rfl⟩|⟨g,cap,cur,rfl,hg,hh,h1,h2,_⟩
 ·obtain rfl:L=[]:=List.eq_nil_of_length_eq_zero (by omega)
  exact ⟨none,0,rfl,agD _,by unfold maxLen;omega, .inl rfl⟩
 ·obtain rfl:n=L.length:=by omega
  refine ⟨_,cap,rfl,h1,h2, .inr ⟨g,0,rfl, ?_, ?_⟩⟩
  ·by_cases hk:g<w.heap.size
   ·exact hk
   ·rw [Array.getElem?_eq_none (by omega)] at hh;cases hh
  ·intro j t ht
   have Ab:j<L.length:=by
    by_cases hk:j<L.length
    ·exact hk
    ·rw [List.getElem?_eq_none (by omega)] at ht;cases ht
   rw [Nat.zero_add,h0.cellAt j (by omega)];exact ht
theorem ff (s:ByteArray):s.data.toList.length=s.size:=by rw [Array.length_toList];rfl
theorem aaX {s:ByteArray} (h:bH s=true):2≤s.size:=by
 simp only [bH,Bool.and_eq_true,decide_eq_true_eq] at h;have:=congrArg List.length h.2;rw [ff] at this
 simp [bc] at this
 omega
theorem yx {s:ByteArray} (h:bH s=true) (hl:0<s.size):s[0]=34:=by
 simp only [bH,Bool.and_eq_true,decide_eq_true_eq] at h
 have h2:s.data.toList[0]? =some 34:=by rw [←h.2];rfl
 rw [List.getElem?_eq_getElem (by rw [ff];omega)] at h2;exact Option.some.inj h2
theorem aaY {s:ByteArray} (h:bH s=true) (hl:s.size-1<s.size):s[s.size-1]=34:=by
 simp only [bH,Bool.and_eq_true,decide_eq_true_eq] at h
 have h2:s.data.toList.getLast? =some 34:=by rw [←h.2];simp [bc,List.getLast?_cons]
 rw [List.getLast?_eq_getElem?,ff,List.getElem?_eq_getElem (by rw [ff];omega)] at h2;exact Option.some.inj h2
theorem yy {s:ByteArray} (h:s.size<2):bH s=false:=by
 cases e:bH s with
 |false=>rfl
 |true=>have:=aaX e;omega
theorem qG {s:ByteArray} (hl:0<s.size) (h:s[0]≠34):bH s=false:=by
 cases e:bH s with
 |false=>rfl
 |true=>exact absurd (yx e hl) h
theorem se {s:ByteArray} (hl:s.size-1<s.size) (h:s[s.size-1]≠34):bH s=false:=by
 cases e:bH s with
 |false=>rfl
 |true=>exact absurd (aaY e hl) h
theorem sf (s:ByteArray) (k:Nat) (h:k+1<s.size):s.data.toList.drop k=s[k]::s[k+1]::s.data.toList.drop (k+2):=by
 rw [List.drop_eq_getElem_cons (by rw [ff];omega),List.drop_eq_getElem_cons (by rw [ff];omega)];rfl
theorem sg (s:ByteArray) (k:Nat) (h:k+1<s.size) (hc:s[k]≠92):cW (s.data.toList.drop k)=s[k]::cW (s.data.toList.drop (k+1)):=by
 rw [sf s k h,List.drop_eq_getElem_cons (i:=k+1) (by rw [ff];omega)];simp only [cW,hc,if_false];rfl
theorem uD (s:ByteArray) (k:Nat) (h:k+1<s.size) (hc:s[k]=92):cW (s.data.toList.drop k)=(if s[k+1]=110 then 10 else s[k+1])::cW (s.data.toList.drop (k+2)):=by
 rw [sf s k h];simp only [cW,hc,if_true]
theorem uE (s:ByteArray) (k:Nat) (h: ¬k+1<s.size):cW (s.data.toList.drop k)=[]:=by
 have:(s.data.toList.drop k).length≤1:=by rw [List.length_drop,ff];omega
 generalize s.data.toList.drop k=l at this⊢
 match l,this with
 |[],_=>rfl
 |[_],_=>rfl
theorem yz {s q:ByteArray} (hq:q.data.toList=m0 s) (h:bH s=true):cA q=s∧q=ga s:=by
 have K0:q=⟨(m0 s).toArray⟩:=dW (by rw [iN,hq])
 have e:ga s=q:=by unfold ga;rw [if_pos h,K0]
 have:=pW h;rw [e] at this;exact ⟨this.2,e.symm⟩
theorem adn {s q:ByteArray} (h2:2≤s.size) (hq:q.data.toList=m0 s) (h:bH s=false):((cA q).toList==s.toList)=false:=by
 rw [beq_eq_false_iff_ne];intro e;rw [ByteArray.toList_eq,ByteArray.toList_eq] at e;have K0:q=⟨(m0 s).toArray⟩:=dW (by rw [iN,hq])
 cases ht:aD q with
 |false=>
  rw [mT ht] at e
  have:s.size=0:=by rw [←ff,←e];rfl
  omega
 |true=>
  have e1:bc q.data.toList=s.data.toList:=by unfold cA at e;rw [if_pos ht] at e;simpa using e
  rw [(vA ht e1).1] at h
  cases h
theorem ma (s:ByteArray) (w:World) (hs:s.size≤maxLen):
  Calls Tryz.prog 233 #[.string s] w fun e w'=>e= .returned (.tuple #[.string (ga s), .bool (bH s)])∧w=w':=by
 have Ds:=agC hs;unfold maxLen at hs
 by_cases h2:s.size<2
 ·have e:=yy h2
  rw [jo e,e];clear e
  go_enter Tryz.func233,Tryz.ntmps233
  go_wp2;go_ret2;exact ⟨rfl,rfl⟩
 have q0:0<s.size:=by omega
 have q1:s.size-1<s.size:=by omega
 have b0:(s[0].toNat:Int)≤255:=by have:=s[0].toNat_lt;omega
 by_cases h3:s[0]=34
 case neg=>
  have e:=qG q0 h3;rw [jo e,e];clear e
  have t1:((s[0].toNat:Int) !=34)=true:=by
   rw [bne_iff_ne];intro e;exact h3 (UInt8.toNat_inj.mp (by rw [show (34:UInt8).toNat=34 from rfl];omega))
  clear h3
  go_enter Tryz.func233,Tryz.ntmps233
  go_wp2;go_ret2;exact ⟨rfl,rfl⟩
 have t1:((s[0].toNat:Int) !=34)=false:=by rw [h3];rfl
 clear h3
 have ei:((s.size:Int)-1).toNat=s.size-1:=by omega
 by_cases h4:s[s.size-1]=34
 case neg=>
  have e:=se q1 h4;rw [jo e,e];clear e
  have t2:((s[s.size-1].toNat:Int) !=34)=true:=by
   rw [bne_iff_ne];intro e;exact h4 (UInt8.toNat_inj.mp (by rw [show (34:UInt8).toNat=34 from rfl];omega))
  clear h4
  go_enter Tryz.func233,Tryz.ntmps233
  go_wp2;go_ret2;exact ⟨rfl,rfl⟩
 have t2:((s[s.size-1].toNat:Int) !=34)=false:=by rw [h4];rfl
 clear h4;have HU:=agC (show cW (s.data.toList.drop 1)=m0 s from rfl);have t8:decide ((s.size:Int)<2)=false:=decide_eq_false (by omega);have U1:decide (s.size<2)=false:=decide_eq_false (by omega)
 go_enter Tryz.func233,Tryz.ntmps233
 go_wp2;clear t1 t2
 go_loop [4,5] (fun o i=> ∃(k:Nat) (q:ByteArray),1≤k∧k≤s.size∧i= .int .i64 k∧o= .string q∧q.data.toList++cW (s.data.toList.drop k)=m0 s∧q.size≤k) (fun _ i=>s.size-(intOf i).toNat)
 case atStart=>exact ⟨1,⟨#[]⟩,agD _,by omega,rfl,rfl,by rw [HU.out];rfl,agH _⟩
 case round=>
  obtain ⟨k,q,CB,hk,rfl,rfl,hq,hz⟩:=hrel;have HQ:=agC hq;clear hq
  by_cases Ab:k+1<s.size
  ·have N6:k<s.size:=by omega
   have Cu:(s[k].toNat:Int)≤255:=by have:=s[k].toNat_lt;omega
   have HO:=agC (ow s k N6)
   have K6:(s.extract k (k+1)).size=1:=by rw [ByteArray.size_extract];omega
   have t0:decide ((k:Int)<(s.size:Int)-1)=true:=decide_eq_true (by omega)
   by_cases h92:s[k]=92
   ·have HN:=agC (uD s k Ab h92)
    have t1:((s[k].toNat:Int) !=92)=false:=by rw [h92];rfl
    have Aa:(s[k+1].toNat:Int)≤255:=by have:=s[k+1].toNat_lt;omega
    have Sf:=agC (ow s (k+1) Ab)
    have N7:(s.extract (k+1) (k+1+1)).size=1:=by rw [ByteArray.size_extract];omega
    clear h92
    by_cases h110:s[k+1]=110
    ·have HC:=agC (show (if s[k+1]=110 then 10 else s[k+1])=(10:UInt8) by rw [if_pos h110])
     have t2:((s[k+1].toNat:Int)==110)=true:=by rw [h110];rfl
     clear h110;go_wp2
     go_round
     case rel=>exact ⟨k+2,_,by omega,by omega,by go_num,rfl,by have h5:=HQ.out;rw [HN.out,HC.out] at h5;rw [←h5];simp,by rw [ByteArray.size_append];show q.size+1≤_;omega⟩
     case measure=>simp [intOf];omega
    ·have HC:=agC (show (if s[k+1]=110 then 10 else s[k+1])=s[k+1] by rw [if_neg h110])
     have t2:((s[k+1].toNat:Int)==110)=false:=by
      rw [beq_eq_false_iff_ne];intro e;exact h110 (UInt8.toNat_inj.mp (by rw [show (110:UInt8).toNat=110 from rfl];omega))
     clear h110;go_wp2
     go_round
     case rel=>exact ⟨k+2,_,by omega,by omega,by go_num,rfl,by have h5:=HQ.out;have h6:=Sf.out;rw [HN.out,HC.out] at h5;rw [←h5];simp only [ByteArray.data_append,Array.toList_append,h6];simp,by rw [ByteArray.size_append,N7];omega⟩
     case measure=>simp [intOf];omega
   ·have HN:=agC (sg s k Ab h92)
    have t1:((s[k].toNat:Int) !=92)=true:=by
     rw [bne_iff_ne];intro e;exact h92 (UInt8.toNat_inj.mp (by rw [show (92:UInt8).toNat=92 from rfl];omega))
    clear h92;go_wp2
    go_round
    case rel=>exact ⟨k+1,_,by omega,by omega,by go_num,rfl,by have h5:=HQ.out;have h6:=HO.out;rw [HN.out] at h5;rw [←h5];simp only [ByteArray.data_append,Array.toList_append,h6];simp,by rw [ByteArray.size_append,K6];omega⟩
    case measure=>simp [intOf];omega
  ·have t0:decide ((k:Int)<(s.size:Int)-1)=false:=decide_eq_false (by omega)
   have MS:q.data.toList=m0 s:=by have h5:=HQ.out;rw [uE s k Ab] at h5;simpa using h5
   have Sg:q.size≤9223372036854775807:=by omega
   cases Aj:bH s with
   |true=>
    obtain ⟨g1,g2⟩:=yz MS Aj;have G1:=agC g1;have G2:=agC g2;have HK:=agC Aj;clear g1 g2 MS Aj;go_wp2_with fail;refine (gq q _ (by unfold maxLen;omega)).mono ?_;rintro e w' ⟨rfl,rfl⟩
    have t3:((cA q).toList==s.toList)=true:=by rw [G1.out];simp
    go_wp2;go_ret2;exact ⟨by rw [HK.out,←G2.out];rfl,rfl⟩
   |false=>
    have t3:=adn (by omega) MS Aj;have G2:=agC (jo Aj);have HK:=agC Aj;clear MS Aj;go_wp2_with fail;refine (gq q _ (by unfold maxLen;omega)).mono ?_;rintro e w' ⟨rfl,rfl⟩;go_wp2;go_ret2;exact ⟨by rw [HK.out,G2.out];rfl,rfl⟩
theorem m8:(Tryz.prog.info? 9).map (fun i=>(i.zero,i.size,i.bytes))=some (some (.string ByteArray.empty),1,16):=by kernel_rfl
def fN (l:List ByteArray):List Value:=l.map Value.string
theorem eg (l:List ByteArray):(fN l).length=l.length:=by simp [fN]
theorem eT (a b:List ByteArray):fN (a++b)=fN a++fN b:=by simp [fN]
theorem jb (t:ByteArray): ∀u∈[Value.string t],u.oneCell'=true:=by
 intro u hu;simp only [List.mem_singleton] at hu;subst hu;rfl
def sh (L:List ByteArray) (w:World) (e:Ending) (w':World):Prop:=
 ∃v,e= .returned v∧w'.ownsRow w.heap.size 9 1 v L.length (fN L)∧Below w.heap.size w w'
theorem dM (s:ByteArray) (k:Nat) (h:k<s.size):s.data.toList.drop k=s[k]::s.data.toList.drop (k+1):=by
 rw [List.drop_eq_getElem_cons (by simpa using h)];rfl
theorem gZ (s:ByteArray) (k:Nat) (h:s.size≤k):s.data.toList.drop k=[]:=List.drop_eq_nil_of_le (by rw [Array.length_toList];exact h)
def pq:Nat→UInt8×UInt8
 |0=>(60,61)
 |1=>(62,61)
 |2=>(61,61)
 |3=>(33,61)
 |4=>(38,38)
 |_=>(124,124)
theorem lit6 (m:Nat) (h:m<6): ∃t:ByteArray,t.data.toList=[(pq m).1,(pq m).2]∧(#[Value.string ⟨#[60,61]⟩, .string ⟨#[62,61]⟩, .string ⟨#[61,61]⟩, .string ⟨#[33,61]⟩, .string ⟨#[38,38]⟩, .string ⟨#[124,124]⟩]:Array Value)[m]? =some (.string t):=by
 match m,h with
 |0,_=>exact ⟨_,rfl,rfl⟩
 |1,_=>exact ⟨_,rfl,rfl⟩
 |2,_=>exact ⟨_,rfl,rfl⟩
 |3,_=>exact ⟨_,rfl,rfl⟩
 |4,_=>exact ⟨_,rfl,rfl⟩
 |5,_=>exact ⟨_,rfl,rfl⟩
def aeV (B:Nat) (wr:World):Prop:= ∀(m:Nat) v,(#[Value.string ⟨#[60,61]⟩, .string ⟨#[62,61]⟩, .string ⟨#[61,61]⟩, .string ⟨#[33,61]⟩, .string ⟨#[38,38]⟩, .string ⟨#[124,124]⟩]:Array Value)[m]? =some v→wr.cell? ⟨B,m,none⟩=some v
theorem si (w:World):aeV w.heap.size (w.alloc (.cells #[Value.string ⟨#[60,61]⟩, .string ⟨#[62,61]⟩, .string ⟨#[61,61]⟩, .string ⟨#[33,61]⟩, .string ⟨#[38,38]⟩, .string ⟨#[124,124]⟩] 9)):=by
 intro m v h;simp only [World.cell?,heap_alloc_new];simpa using h
theorem ado (b c:UInt8) (j:Nat) (h:[b,c]=[(pq j).1,(pq j).2]):two (b.toNat:Int) (c.toNat:Int)=true:=by
 simp only [List.cons.injEq,and_true] at h;obtain ⟨rfl,rfl⟩:=h
 match j with
 |0=>decide
 |1=>decide
 |2=>decide
 |3=>decide
 |4=>decide
 |_+5=>simp only [pq];decide
theorem aeW (b c:UInt8) (h: ∀j,j<6→[b,c]≠[(pq j).1,(pq j).2]):two (b.toNat:Int) (c.toNat:Int)=false:=by
 rw [Bool.eq_false_iff];intro e
 have key: ∀(x y:UInt8),(b.toNat:Int)=(x.toNat:Int)→(c.toNat:Int)=(y.toNat:Int)→[b,c]=[x,y]:=by
  intro x y h1 h2;rw [UInt8.toNat_inj.mp (show b.toNat=x.toNat by omega),UInt8.toNat_inj.mp (show c.toNat=y.toNat by omega)]
 simp only [two,Bool.or_eq_true,Bool.and_eq_true,beq_iff_eq] at e
 rcases e with (((((⟨e,g⟩|⟨e,g⟩)|⟨e,g⟩)|⟨e,g⟩)|⟨e,g⟩)|⟨e,g⟩)
 ·exact h 0 (by omega) (key 60 61 e g)
 ·exact h 1 (by omega) (key 62 61 e g)
 ·exact h 2 (by omega) (key 61 61 e g)
 ·exact h 3 (by omega) (key 33 61 e g)
 ·exact h 4 (by omega) (key 38 38 e g)
 ·exact h 5 (by omega) (key 124 124 e g)
theorem xz (n:Int):dV ({data:= #[33,45,42,47,37,43,60,62,63,58,40,41,91,93,44]}:ByteArray).data.toList n=one n:=by
 rw [Bool.eq_iff_iff];simp only [dV,one,List.any_cons,List.any_nil,Bool.or_eq_true,beq_iff_eq,Bool.or_false]
 constructor
 ·intro h;simp only [show ((33:UInt8).toNat:Int)=33 from rfl,show ((45:UInt8).toNat:Int)=45 from rfl,show ((42:UInt8).toNat:Int)=42 from rfl,show ((47:UInt8).toNat:Int)=47 from rfl,show ((37:UInt8).toNat:Int)=37 from rfl,show ((43:UInt8).toNat:Int)=43 from rfl,show ((60:UInt8).toNat:Int)=60 from rfl,show ((62:UInt8).toNat:Int)=62 from rfl,show ((63:UInt8).toNat:Int)=63 from rfl,show ((58:UInt8).toNat:Int)=58 from rfl,show ((40:UInt8).toNat:Int)=40 from rfl,show ((41:UInt8).toNat:Int)=41 from rfl,show ((91:UInt8).toNat:Int)=91 from rfl,show ((93:UInt8).toNat:Int)=93 from rfl,show ((44:UInt8).toNat:Int)=44 from rfl] at h;omega
 ·intro h;simp only [show ((33:UInt8).toNat:Int)=33 from rfl,show ((45:UInt8).toNat:Int)=45 from rfl,show ((42:UInt8).toNat:Int)=42 from rfl,show ((47:UInt8).toNat:Int)=47 from rfl,show ((37:UInt8).toNat:Int)=37 from rfl,show ((43:UInt8).toNat:Int)=43 from rfl,show ((60:UInt8).toNat:Int)=60 from rfl,show ((62:UInt8).toNat:Int)=62 from rfl,show ((63:UInt8).toNat:Int)=63 from rfl,show ((58:UInt8).toNat:Int)=58 from rfl,show ((40:UInt8).toNat:Int)=40 from rfl,show ((41:UInt8).toNat:Int)=41 from rfl,show ((91:UInt8).toNat:Int)=91 from rfl,show ((93:UInt8).toNat:Int)=93 from rfl,show ((44:UInt8).toNat:Int)=44 from rfl];omega
theorem adp (s:ByteArray) (a:Nat) (h:a+1<s.size):(s.extract a (a+2)).toList=[s[a],s[a+1]]:=by
 rw [ByteArray.toList_eq]
 have hl:s.data.toList.length=s.size:=by rw [Array.length_toList];rfl
 have e:(s.extract a (a+2)).data.toList=(s.data.toList.drop a).take 2:=by
  simp [ByteArray.data_extract]
 rw [e,dM s a (by omega),dM s (a+1) (by omega)];rfl
theorem aaZ (s:ByteArray) (a:Nat) (h:a+1<s.size):eB (s.data.toList.drop a)=if two (s[a].toNat:Int) (s[a+1].toNat:Int)=true then 2 else if one (s[a].toNat:Int)=true then 1 else 0:=by
 rw [dM s a (by omega),dM s (a+1) (by omega),eB]
theorem aa0 (s:ByteArray) (a:Nat) (h:a<s.size) (h1: ¬a+1<s.size):eB (s.data.toList.drop a)=if one (s[a].toNat:Int)=true then 1 else 0:=by
 rw [dM s a h,gZ s (a+1) (by omega),eB]
theorem uF (s:ByteArray) (a:Nat) (w:World) (hs:s.size≤20000) (ha:a<s.size):
  Calls Tryz.prog 197 #[.string s, .int .i64 (a:Int)] w fun e w'=>e= .returned (.int .i64 ((eB (s.data.toList.drop a):Nat):Int))∧Below w.heap.size w w':=by
 have Cu:(s[a].toNat:Int)≤255:=by have:=s[a].toNat_lt;omega
 by_cases h1:a+1<s.size
 ·have HS:=agC (aaZ s a h1)
  have HX:=agC (adp s a h1)
  go_enter Tryz.func197,Tryz.ntmps197
  go_wp2
  go_loopw [6] (fun i wr=> ∃(k:Nat),k≤6∧i= .int .i64 (k:Int)∧(∀j,j<k→[s[a],s[a+1]]≠[(pq j).1,(pq j).2])∧aeV w.heap.size wr∧Below w.heap.size w wr) (fun i _=>6-(intOf i).toNat)
  case atStart=>exact ⟨0,by omega,rfl,fun j h=>by omega,si w,(Below.refl _ _).alloc (agD _) _⟩
  case round=>
   obtain ⟨k,hk,rfl,Ar,Gl,Bd⟩:=hrel;have CO:=agC Ar;have HB:=agC Bd;have H6:=agC Gl;clear Ar Bd Gl
   by_cases Ab:k<6
   ·obtain ⟨t,ht,Aq⟩:=lit6 k Ab
    have hc:wr.cell? ⟨w.heap.size,k,none⟩=some (.string t):=H6.out k _ Aq;have HT:=agC ht;clear ht Aq
    have q0:(0:Int)≤(k:Int):=by omega
    have q1:(k:Int)<6:=by omega
    have q2:(a:Int)≤(a:Int)+2:=by omega
    have q3:(a:Int)+2≤(s.size:Int):=by omega
    have q4:(0:Int)≤(a:Int)+2:=by omega
    have q5:((a:Int)+2).toNat=a+2:=by omega
    have q6:decide ((a:Int)+1<(s.size:Int))=true:=decide_eq_true (by omega);have r1:IntKind.i64.wrap ((a:Int)+1)=(a:Int)+1:=IntWalk.i64_in _ (by omega);have r2:IntKind.i64.wrap ((a:Int)+2)=(a:Int)+2:=IntWalk.i64_in _ (by omega)
    cases hE:((s.extract a (a+2)).toList==t.toList) with
    |true=>
     have N8:=agC (show two (s[a].toNat:Int) (s[a+1].toNat:Int)=true by
      refine ado _ _ k ?_
      rw [beq_iff_eq,HX.out,ByteArray.toList_eq,HT.out] at hE;exact hE)
     go_wp2_with fail
     go_quiet (fail)
     clear r1 r2;go_wp2;go_ret;exact ⟨by rw [HS.out,if_pos N8.out];rfl,HB.out.trans ⟨rfl,rfl,rfl,agD _,fun _ _=>rfl⟩⟩
    |false=>
     have Gk:=agC (show∀j,j<k+1→[s[a],s[a+1]]≠[(pq j).1,(pq j).2] by
      intro j hj
      by_cases hjk:j<k
      ·exact CO.out j hjk
      ·obtain rfl:j=k:=by omega
       rw [beq_eq_false_iff_ne,HX.out,ByteArray.toList_eq,HT.out] at hE;exact hE)
     go_wp2_with fail
     go_quiet (fail)
     clear r1 r2;go_wp2;go_roundw
     case rel=>exact ⟨k+1,by omega,by go_num,Gk.out,H6.out,HB.out.trans ⟨rfl,rfl,rfl,agD _,fun _ _=>rfl⟩⟩
     case measure=>simp [intOf];omega
   ·have N8:=agC (show two (s[a].toNat:Int) (s[a+1].toNat:Int)=false from aeW _ _ (fun j hj=>CO.out j (by omega)))
    have h6:k=6:=by omega
    subst h6
    cases ho:one (s[a].toNat:Int)
    all_goals
     have HO:=agC ho;clear ho;go_wp2_with fail;refine (ev _ _ _ (by decide) (by omega) (by omega)).mono ?_;rintro e w' ⟨rfl,rfl⟩;rw [xz,HO.out];go_wp2;go_ret;exact ⟨by rw [HS.out,N8.out,HO.out];rfl,HB.out.trans ⟨rfl,rfl,rfl,agD _,fun _ _=>rfl⟩⟩
 ·have HS:=agC (aa0 s a ha h1)
  have q6:decide ((a:Int)+1<(s.size:Int))=false:=decide_eq_false (by omega)
  go_enter Tryz.func197,Tryz.ntmps197
  go_wp2
  go_loopw [6] (fun i wr=> ∃(k:Nat),k≤6∧i= .int .i64 (k:Int)∧aeV w.heap.size wr∧Below w.heap.size w wr) (fun i _=>6-(intOf i).toNat)
  case atStart=>exact ⟨0,by omega,rfl,si w,(Below.refl _ _).alloc (agD _) _⟩
  case round=>
   obtain ⟨k,hk,rfl,Gl,Bd⟩:=hrel;have HB:=agC Bd;have H6:=agC Gl;clear Bd Gl
   by_cases Ab:k<6
   ·have r1:IntKind.i64.wrap ((a:Int)+1)=(a:Int)+1:=IntWalk.i64_in _ (by omega)
    have q0:(0:Int)≤(k:Int):=by omega
    have q1:(k:Int)<6:=by omega
    go_wp2_with fail
    go_quiet (fail)
    clear r1;go_wp2;go_roundw
    case rel=>exact ⟨k+1,by omega,by go_num,H6.out,HB.out.trans ⟨rfl,rfl,rfl,agD _,fun _ _=>rfl⟩⟩
    case measure=>simp [intOf];omega
   ·have h6:k=6:=by omega
    subst h6
    cases ho:one (s[a].toNat:Int)
    all_goals
     have HO:=agC ho;clear ho;go_wp2_with fail;refine (ev _ _ _ (by decide) (by omega) (by omega)).mono ?_;rintro e w' ⟨rfl,rfl⟩;rw [xz,HO.out];go_wp2;go_ret;exact ⟨by rw [HS.out,HO.out];rfl,HB.out.trans ⟨rfl,rfl,rfl,agD _,fun _ _=>rfl⟩⟩
theorem sj (p:Int→Bool) (s:ByteArray) (k:Nat) (h:k<s.size) (hp:p (s[k].toNat:Int)=true):fM p (s.data.toList.drop k)=fM p (s.data.toList.drop (k+1))+1:=by
 rw [dM s k h,fM,if_pos hp]
theorem xA (p:Int→Bool) (s:ByteArray) (k:Nat) (h:k<s.size) (hp:p (s[k].toNat:Int)=false):fM p (s.data.toList.drop k)=0:=by
 rw [dM s k h,fM,if_neg (by rw [hp];simp)]
theorem sk (p:Int→Bool) (s:ByteArray) (k:Nat) (h:s.size≤k):fM p (s.data.toList.drop k)=0:=by rw [gZ s k h];rfl
theorem yA (s:ByteArray) (a:Nat) (h:a<s.size) (hl:bS (s[a].toNat:Int)=true):fe (s.data.toList.drop a)=fM nmI (s.data.toList.drop a)∧eC (s.data.toList.drop a)=1:=by
 rw [dM s a h];simp [fe,eC,hl]
theorem aa1 (s:ByteArray) (a:Nat) (h:a<s.size) (hl:bS (s[a].toNat:Int)=false) (hd:cf (s[a].toNat:Int)=true):fe (s.data.toList.drop a)=fM nrI (s.data.toList.drop a)∧eC (s.data.toList.drop a)=2:=by
 rw [dM s a h];simp [fe,eC,hl,hd]
theorem yB (s:ByteArray) (a:Nat) (h:a<s.size) (hl:bS (s[a].toNat:Int)=false) (hd:cf (s[a].toNat:Int)=false) (hq:((s[a].toNat:Int)==34)=true):
  fe (s.data.toList.drop a)=(if a+1+clo false (s.data.toList.drop (a+1))<s.size then clo false (s.data.toList.drop (a+1))+2 else 0)∧eC (s.data.toList.drop a)=(if a+1+clo false (s.data.toList.drop (a+1))<s.size then 3 else 0):=by
 have Df:(s.data.toList.drop (a+1)).length=s.size-(a+1):=by rw [List.length_drop,Array.length_toList];rfl
 have e:clo false (s.data.toList.drop (a+1))<(s.data.toList.drop (a+1)).length↔a+1+clo false (s.data.toList.drop (a+1))<s.size:=by rw [Df];omega
 rw [dM s a h];simp only [fe,eC,hl,hd,hq,Bool.false_eq_true,if_false,if_true,e,and_self]
theorem yC (s:ByteArray) (a:Nat) (h:a<s.size) (hl:bS (s[a].toNat:Int)=false) (hd:cf (s[a].toNat:Int)=false) (hq:((s[a].toNat:Int)==34)=false):
  fe (s.data.toList.drop a)=eB (s.data.toList.drop a)∧eC (s.data.toList.drop a)=if eB (s.data.toList.drop a)=0 then 0 else 4:=by
 rw [dM s a h];simp only [fe,eC,hl,hd,hq,Bool.false_eq_true,if_false,and_self]
theorem aa2 (s:ByteArray) (k:Nat) (h:k<s.size) (hq:((s[k].toNat:Int)==34)=true):clo false (s.data.toList.drop k)=0:=by
 rw [dM s k h,clo,if_pos hq]
theorem adq (s:ByteArray) (k:Nat) (h:k<s.size) (hq:((s[k].toNat:Int)==34)=false) (hb:((s[k].toNat:Int)==92)=true):clo false (s.data.toList.drop k)=clo false (s.data.toList.drop (k+2))+2:=by
 rw [dM s k h,clo,if_neg (by rw [hq];simp),if_pos hb]
 by_cases h1:k+1<s.size
 ·rw [dM s (k+1) h1,clo]
 ·rw [gZ s (k+1) (by omega),gZ s (k+2) (by omega)];rfl
theorem aa3 (s:ByteArray) (k:Nat) (h:k<s.size) (hq:((s[k].toNat:Int)==34)=false) (hb:((s[k].toNat:Int)==92)=false):clo false (s.data.toList.drop k)=clo false (s.data.toList.drop (k+1))+1:=by
 rw [dM s k h,clo,if_neg (by rw [hq];simp),if_neg (by rw [hb];simp)]
theorem adr (s:ByteArray) (k:Nat) (h:s.size≤k):clo false (s.data.toList.drop k)=0:=by rw [gZ s k h];rfl
def py (s:ByteArray) (a:Nat) (w:World) (e:Ending) (w':World):Prop:=
 e= .returned (.tuple #[.int .i64 ((a+fe (s.data.toList.drop a):Nat):Int), .int .i64 (eC (s.data.toList.drop a))])∧Below w.heap.size w w'
theorem fO {s:ByteArray} {a n:Nat} {k:Int} {w w':World} (h1:fe (s.data.toList.drop a)=n) (h2:eC (s.data.toList.drop a)=k) (hb:Below w.heap.size w w'):py s a w (.returned (.tuple #[.int .i64 ((a+n:Nat):Int), .int .i64 k])) w':=by
 subst h1 h2;exact ⟨rfl,hb⟩
theorem uG (s:ByteArray) (a:Nat) (w:World) (hs:s.size≤20000) (ha:a<s.size) (hl:bS (s[a].toNat:Int)=true):
  Calls Tryz.prog 176 #[.string s, .int .i64 (a:Int)] w (py s a w):=by
 have Cu:(s[a].toNat:Int)≤255:=by have:=s[a].toNat_lt;omega
 have HE:=agC (yA s a ha hl);have HL:=agC hl;clear hl
 go_enter Tryz.func176,Tryz.ntmps176
 go_wp2_with fail;refine (aT _ _ (by omega) (by omega)).mono ?_;rintro e w' ⟨rfl,rfl⟩;rw [HL.out];go_wp2_with fail
 go_loop [6] (fun i=> ∃j:Nat,a+j≤s.size∧i= .int .i64 ((a+j:Nat):Int)∧j+fM nmI (s.data.toList.drop (a+j))=fM nmI (s.data.toList.drop a)) (fun i=>s.size-(intOf i).toNat)
 case atStart=>exact ⟨0,by omega,rfl,by simp⟩
 case round=>
  obtain ⟨j,hj,rfl,hr⟩:=hrel;have HR:=agC hr;clear hr
  by_cases Ab:a+j<s.size
  ·have AJ:(s[a+j].toNat:Int)≤255:=by have:=s[a+j].toNat_lt;omega
   have HY:=agC (sj nmI s (a+j) Ab);have HZ:=agC (xA nmI s (a+j) Ab)
   cases CB:bS (s[a+j].toNat:Int) with
   |true=>
    have C7:=agC CB;clear CB;have HV:=agC (HY.out (by simp [nmI,cU,C7.out]));clear HY HZ;go_wp2_with fail;refine (aT _ _ (by omega) (by omega)).mono ?_;rintro e w' ⟨rfl,rfl⟩;rw [C7.out];go_wp2
    go_round
    case rel=>exact ⟨j+1,by omega,by go_num,by rw [←HR.out,HV.out,show a+(j+1)=a+j+1 by omega];omega⟩
    case measure=>simp [intOf];omega
   |false=>
    have C7:=agC CB;clear CB
    cases B8:cf (s[a+j].toNat:Int) with
    |true=>
     have C8:=agC B8;clear B8;have HV:=agC (HY.out (by simp [nmI,cU,C7.out,C8.out]));clear HY HZ;go_wp2_with fail;refine (aT _ _ (by omega) (by omega)).mono ?_;rintro e w' ⟨rfl,rfl⟩;rw [C7.out];go_wp2_with fail;refine (bp _ _ (by omega) (by omega)).mono ?_;rintro e w' ⟨rfl,rfl⟩;rw [C8.out];go_wp2
     go_round
     case rel=>exact ⟨j+1,by omega,by go_num,by rw [←HR.out,HV.out,show a+(j+1)=a+j+1 by omega];omega⟩
     case measure=>simp [intOf];omega
    |false=>
     have C8:=agC B8;clear B8
     cases Bf:((s[a+j].toNat:Int)==95) with
     |true=>
      have HV:=agC (HY.out (by simp only [nmI,cU,C7.out,C8.out,Bf];rfl));clear HY HZ;go_wp2_with fail;refine (aT _ _ (by omega) (by omega)).mono ?_;rintro e w' ⟨rfl,rfl⟩;rw [C7.out];go_wp2_with fail;refine (bp _ _ (by omega) (by omega)).mono ?_;rintro e w' ⟨rfl,rfl⟩;rw [C8.out];go_wp2
      go_round
      case rel=>exact ⟨j+1,by omega,by go_num,by rw [←HR.out,HV.out,show a+(j+1)=a+j+1 by omega];omega⟩
      case measure=>simp [intOf];omega
     |false=>
      cases Ay:((s[a+j].toNat:Int)==46) with
      |true=>
       have HV:=agC (HY.out (by simp only [nmI,cU,C7.out,C8.out,Bf,Ay];rfl));clear HY HZ;go_wp2_with fail;refine (aT _ _ (by omega) (by omega)).mono ?_;rintro e w' ⟨rfl,rfl⟩;rw [C7.out];go_wp2_with fail;refine (bp _ _ (by omega) (by omega)).mono ?_;rintro e w' ⟨rfl,rfl⟩;rw [C8.out];go_wp2
       go_round
       case rel=>exact ⟨j+1,by omega,by go_num,by rw [←HR.out,HV.out,show a+(j+1)=a+j+1 by omega];omega⟩
       case measure=>simp [intOf];omega
      |false=>
       have HV:=agC (HZ.out (by simp only [nmI,cU,C7.out,C8.out,Bf,Ay];rfl));clear HY HZ;have HQ:=agC (show fe (s.data.toList.drop a)=j by rw [HE.out.1,←HR.out,HV.out];rfl);go_wp2_with fail;refine (aT _ _ (by omega) (by omega)).mono ?_;rintro e w' ⟨rfl,rfl⟩;rw [C7.out];go_wp2_with fail;refine (bp _ _ (by omega) (by omega)).mono ?_;rintro e w' ⟨rfl,rfl⟩;rw [C8.out];go_wp2;go_ret2;exact fO HQ.out HE.out.2 (Below.refl _ _)
  ·have HZ:=agC (sk nmI s (a+j) (by omega))
   have HQ:=agC (show fe (s.data.toList.drop a)=j by rw [HE.out.1,←HR.out,HZ.out];rfl);go_wp2;go_ret2;exact fO HQ.out HE.out.2 (Below.refl _ _)
theorem yD (s:ByteArray) (a:Nat) (w:World) (hs:s.size≤20000) (ha:a<s.size) (hl:bS (s[a].toNat:Int)=false) (hd:cf (s[a].toNat:Int)=true):
  Calls Tryz.prog 176 #[.string s, .int .i64 (a:Int)] w (py s a w):=by
 have Cu:(s[a].toNat:Int)≤255:=by have:=s[a].toNat_lt;omega
 have HE:=agC (aa1 s a ha hl hd);have HL:=agC hl;have HD:=agC hd;clear hl hd
 go_enter Tryz.func176,Tryz.ntmps176
 go_wp2_with fail;refine (aT _ _ (by omega) (by omega)).mono ?_;rintro e w' ⟨rfl,rfl⟩;rw [HL.out];go_wp2_with fail;refine (bp _ _ (by omega) (by omega)).mono ?_;rintro e w' ⟨rfl,rfl⟩;rw [HD.out];go_wp2_with fail
 go_loop [6] (fun i=> ∃j:Nat,a+j≤s.size∧i= .int .i64 ((a+j:Nat):Int)∧j+fM nrI (s.data.toList.drop (a+j))=fM nrI (s.data.toList.drop a)) (fun i=>s.size-(intOf i).toNat)
 case atStart=>exact ⟨0,by omega,rfl,by simp⟩
 case round=>
  obtain ⟨j,hj,rfl,hr⟩:=hrel;have HR:=agC hr;clear hr
  by_cases Ab:a+j<s.size
  ·have AJ:(s[a+j].toNat:Int)≤255:=by have:=s[a+j].toNat_lt;omega
   have HY:=agC (sj nrI s (a+j) Ab);have HZ:=agC (xA nrI s (a+j) Ab)
   cases B8:cf (s[a+j].toNat:Int) with
   |true=>
    have C8:=agC B8;clear B8;have HV:=agC (HY.out (by simp [nrI,C8.out]));clear HY HZ;go_wp2_with fail;refine (bp _ _ (by omega) (by omega)).mono ?_;rintro e w' ⟨rfl,rfl⟩;rw [C8.out];go_wp2
    go_round
    case rel=>exact ⟨j+1,by omega,by go_num,by rw [←HR.out,HV.out,show a+(j+1)=a+j+1 by omega];omega⟩
    case measure=>simp [intOf];omega
   |false=>
    have C8:=agC B8;clear B8
    cases Ay:((s[a+j].toNat:Int)==46) with
    |true=>
     have HV:=agC (HY.out (by simp only [nrI,C8.out,Ay];rfl));clear HY HZ;go_wp2_with fail;refine (bp _ _ (by omega) (by omega)).mono ?_;rintro e w' ⟨rfl,rfl⟩;rw [C8.out];go_wp2
     go_round
     case rel=>exact ⟨j+1,by omega,by go_num,by rw [←HR.out,HV.out,show a+(j+1)=a+j+1 by omega];omega⟩
     case measure=>simp [intOf];omega
    |false=>
     have HV:=agC (HZ.out (by simp only [nrI,C8.out,Ay];rfl));clear HY HZ;have HQ:=agC (show fe (s.data.toList.drop a)=j by rw [HE.out.1,←HR.out,HV.out];rfl);go_wp2_with fail;refine (bp _ _ (by omega) (by omega)).mono ?_;rintro e w' ⟨rfl,rfl⟩;rw [C8.out];go_wp2;go_ret2;exact fO HQ.out HE.out.2 (Below.refl _ _)
  ·have HZ:=agC (sk nrI s (a+j) (by omega))
   have HQ:=agC (show fe (s.data.toList.drop a)=j by rw [HE.out.1,←HR.out,HZ.out];rfl);go_wp2;go_ret2;exact fO HQ.out HE.out.2 (Below.refl _ _)
theorem uH (s:ByteArray) (a:Nat) (w:World) (hs:s.size≤20000) (ha:a<s.size) (hl:bS (s[a].toNat:Int)=false) (hd:cf (s[a].toNat:Int)=false) (hq:((s[a].toNat:Int)==34)=true):
  Calls Tryz.prog 176 #[.string s, .int .i64 (a:Int)] w (py s a w):=by
 have Cu:(s[a].toNat:Int)≤255:=by have:=s[a].toNat_lt;omega
 have HE:=agC (yB s a ha hl hd hq);have HL:=agC hl;have HD:=agC hd;clear hl hd
 go_enter Tryz.func176,Tryz.ntmps176
 go_wp2_with fail;refine (aT _ _ (by omega) (by omega)).mono ?_;rintro e w' ⟨rfl,rfl⟩;rw [HL.out];go_wp2_with fail;refine (bp _ _ (by omega) (by omega)).mono ?_;rintro e w' ⟨rfl,rfl⟩;rw [HD.out];go_wp2_with fail
 go_loop [6] (fun i=> ∃k:Nat,a+1≤k∧k≤s.size+1∧i= .int .i64 (k:Int)∧k+clo false (s.data.toList.drop k)=a+1+clo false (s.data.toList.drop (a+1))) (fun i=>s.size+1-(intOf i).toNat)
 case atStart=>exact ⟨a+1,by omega,by omega,by go_num,rfl⟩
 case round=>
  obtain ⟨k,Bo,hk,rfl,hr⟩:=hrel;have HR:=agC hr;clear hr
  by_cases Ab:k<s.size
  ·have AJ:(s[k].toNat:Int)≤255:=by have:=s[k].toNat_lt;omega
   cases h34:((s[k].toNat:Int)==34) with
   |true=>
    have Qo:((s[k].toNat:Int) !=34)=false:=by simp only [bne,h34];rfl
    have HZ:=agC (aa2 s k Ab h34);have HV:=agC (show a+1+clo false (s.data.toList.drop (a+1))=k by rw [←HR.out,HZ.out];rfl);have HQ:=agC (show fe (s.data.toList.drop a)=k+1-a by rw [HE.out.1,HV.out,if_pos Ab];have:=HV.out;omega);have FX:=agC (show eC (s.data.toList.drop a)=3 by rw [HE.out.2,HV.out,if_pos Ab]);have HX:=agC (show ((a+(k+1-a):Nat):Int)=(k:Int)+1 by omega);go_wp2;go_ret2;have:=fO (w:=w) HQ.out FX.out (Below.refl _ _);rw [HX.out] at this;exact this
   |false=>
    have Qo:((s[k].toNat:Int) !=34)=true:=by simp only [bne,h34];rfl
    cases h92:((s[k].toNat:Int)==92) with
    |true=>
     have HV:=agC (adq s k Ab h34 h92);go_wp2
     go_round
     case rel=>exact ⟨k+2,by omega,by omega,by go_num,by rw [←HR.out,HV.out];omega⟩
     case measure=>simp [intOf];omega
    |false=>
     have HV:=agC (aa3 s k Ab h34 h92);go_wp2
     go_round
     case rel=>exact ⟨k+1,by omega,by omega,by go_num,by rw [←HR.out,HV.out];omega⟩
     case measure=>simp [intOf];omega
  ·have HZ:=agC (adr s k (by omega))
   have HV:=agC (show a+1+clo false (s.data.toList.drop (a+1))=k by rw [←HR.out,HZ.out];rfl);have HQ:=agC (show fe (s.data.toList.drop a)=0 by rw [HE.out.1,HV.out,if_neg Ab]);have FX:=agC (show eC (s.data.toList.drop a)=0 by rw [HE.out.2,HV.out,if_neg Ab]);go_wp2;go_ret2;exact fO HQ.out FX.out (Below.refl _ _)
theorem uI (s:ByteArray) (a:Nat) (w:World) (hs:s.size≤20000) (ha:a<s.size) (hl:bS (s[a].toNat:Int)=false) (hd:cf (s[a].toNat:Int)=false) (hq:((s[a].toNat:Int)==34)=false):
 Calls Tryz.prog 176 #[.string s, .int .i64 (a:Int)] w (py s a w):=by
 have Cu:(s[a].toNat:Int)≤255:=by have:=s[a].toNat_lt;omega
 have HE:=agC (yC s a ha hl hd hq);have HL:=agC hl;have HD:=agC hd;clear hl hd
 go_enter Tryz.func176,Tryz.ntmps176
 go_wp2_with fail;refine (aT _ _ (by omega) (by omega)).mono ?_;rintro e w' ⟨rfl,rfl⟩;rw [HL.out];go_wp2_with fail;refine (bp _ _ (by omega) (by omega)).mono ?_;rintro e w' ⟨rfl,rfl⟩;rw [HD.out];go_wp2_with fail;refine (uF s a _ hs ha).mono ?_;rintro e w1 ⟨rfl,Aa⟩;have Af:=agC Aa;clear Aa
 have CJ:eB (s.data.toList.drop a)≤2:=by
  rw [dM s a ha]
  cases s.data.toList.drop (a+1) with
  |nil=>simp only [eB];split<;>omega
  |cons c r=>simp only [eB];split
             ·omega
             ·split<;>omega
 generalize hn:eB (s.data.toList.drop a)=n at*
 by_cases hz:n=0
 ·have NM:((n:Int)==0)=true:=beq_iff_eq.mpr (by omega)
  have HQ:=agC (show fe (s.data.toList.drop a)=0 by rw [HE.out.1];exact hz);have FX:=agC (show eC (s.data.toList.drop a)=0 by rw [HE.out.2,if_pos hz]);clear hn hz;go_wp2;go_ret2;exact fO HQ.out FX.out Af.out
 ·have NM:((n:Int)==0)=false:=beq_eq_false_iff_ne.mpr (by omega)
  have HQ:=agC HE.out.1;have FX:=agC (show eC (s.data.toList.drop a)=4 by rw [HE.out.2,if_neg hz]);clear hn hz;go_wp2;go_ret2;exact fO HQ.out FX.out Af.out
theorem yE (s:ByteArray) (a:Nat) (w:World) (hs:s.size≤20000) (ha:a<s.size):
  Calls Tryz.prog 176 #[.string s, .int .i64 (a:Int)] w (py s a w):=by
 cases hl:bS (s[a].toNat:Int) with
 |true=>exact uG s a w hs ha hl
 |false=>
  cases hd:cf (s[a].toNat:Int) with
  |true=>exact yD s a w hs ha hl hd
  |false=>
   cases hq:((s[a].toNat:Int)==34) with
   |true=>exact uH s a w hs ha hl hd hq
   |false=>exact uI s a w hs ha hl hd hq
theorem ads (s:ByteArray):okT s=(aD s&& !dV s.data.toList 10&&ez (0,0,[]) 0 s.data.toList):=by
 rw [okT,ii,aD]
 cases decide (s.size≤20000)<;>simp
theorem aa4 (acc:List (Int×Nat×Nat)) (k:Nat):b6 (0,0,acc) k []=(0,k,acc):=by
 unfold b6;rw [cQ,bN,eS];rfl
theorem aa5 (s:ByteArray) (k:Nat) (acc:List (Int×Nat×Nat)) (h:k<s.size) (Fj:((s[k].toNat:Int)==32)=true):b6 (0,0,acc) k (s.data.toList.drop k)=b6 (0,0,acc) (k+1) (s.data.toList.drop (k+1)):=by
 rw [dM s k h,jC _ _ _ _ _ (by simpa using Fj),ns k 0]
theorem adt (s:ByteArray) (k:Nat) (acc:List (Int×Nat×Nat)) (h:k<s.size) (Fj:((s[k].toNat:Int)==32)=false) (hk:eC (s.data.toList.drop k)≠0):
  1≤fe (s.data.toList.drop k)∧k+fe (s.data.toList.drop k)≤s.size∧b6 (0,0,acc) k (s.data.toList.drop k)=b6 (0,0,acc++[(eC (s.data.toList.drop k),k,k+fe (s.data.toList.drop k))]) (k+fe (s.data.toList.drop k)) (s.data.toList.drop (k+fe (s.data.toList.drop k))):=by
 have ht:TokAt (s.data.toList.drop k) (fe (s.data.toList.drop k)) (eC (s.data.toList.drop k)):=by
  rw [dM s k h] at hk⊢;exact uA _ _ (by simpa using Fj) hk
 have h1:=ht.read 0 k acc;rw [List.drop_drop] at h1
 have hl:(s.data.toList.drop k).length=s.size-k:=by rw [List.length_drop,Array.length_toList];rfl
 obtain ⟨b,t,-,-,-,-,CJ,-⟩:=ht;exact ⟨h1.1,by rw [hl] at CJ;omega,h1.2⟩
theorem yF (s:ByteArray) (k:Nat) (acc:List (Int×Nat×Nat)) (h:k<s.size) (Fj:((s[k].toNat:Int)==32)=false) (hk:eC (s.data.toList.drop k)=0):(b6 (0,0,acc) k (s.data.toList.drop k)).1≠0:=by
 rw [dM s k h] at hk⊢;exact xq _ _ _ _ _ (by simpa using Fj) hk
theorem o6 (s:ByteArray) (w:World) (hs:s.size≤maxLen):
  Calls Tryz.prog 149 #[.string s] w (xt (okT s) (aI s) w):=by
 obtain ⟨i0,hi,Az,Ax,AC⟩:=info_parts xr;have Ds:=agC hs;unfold maxLen at hs;have HI:=agC (ads s)
 cases ht:aD s with
 |false=>
  have HT:=agC ht;have HR:=agC (show okT s=false by rw [HI.out,ht];rfl);have HL:=agC (show aI s=[] by rw [aI,HR.out];rfl);clear ht
  go_enter Tryz.func149,Tryz.ntmps149
  go_wp2_with fail;refine (aG s _ Ds.out).mono ?_;rintro e w' ⟨rfl,rfl⟩;rw [HT.out];go_wp2;refine bodyPost_ret (cM rfl _ _ _) rfl ?_;exact ⟨_,by rw [HR.out];rfl,by rw [HL.out];exact World.ownsRow_lit _ _ 0 (agD _) (by unfold maxLen;omega) rfl,(Below.refl _ _).alloc (agD _) _⟩
 |true=>
  have AP:s.size≤20000:=by simp only [aD,Bool.and_eq_true,decide_eq_true_eq] at ht;exact ht.1
  have HT:=agC ht
  cases hh:dV s.data.toList 10 with
  |true=>
   have HH:=agC hh;have HR:=agC (show okT s=false by rw [HI.out,hh];simp);have HL:=agC (show aI s=[] by rw [aI,HR.out];rfl);clear ht hh
   go_enter Tryz.func149,Tryz.ntmps149
   go_wp2_with fail;refine (aG s _ Ds.out).mono ?_;rintro e w' ⟨rfl,rfl⟩;rw [HT.out];go_wp2_with fail;refine (ev s 10 _ Ds.out (by omega) (by omega)).mono ?_;rintro e w' ⟨rfl,rfl⟩;rw [HH.out];go_wp2;refine bodyPost_ret (cM rfl _ _ _) rfl ?_;exact ⟨_,by rw [HR.out];rfl,by rw [HL.out];exact World.ownsRow_lit _ _ 0 (agD _) (by unfold maxLen;omega) rfl,(Below.refl _ _).alloc (agD _) _⟩
  |false=>
   have HH:=agC hh;have HR:=agC (show okT s=ez (0,0,[]) 0 s.data.toList by rw [HI.out,hh,ht];rfl);clear ht hh
   go_enter Tryz.func149,Tryz.ntmps149
   go_wp2_with fail;refine (aG s _ Ds.out).mono ?_;rintro e w' ⟨rfl,rfl⟩;rw [HT.out];go_wp2_with fail;refine (ev s 10 _ Ds.out (by omega) (by omega)).mono ?_;rintro e w' ⟨rfl,rfl⟩;rw [HH.out];go_wp2_with fail
   go_loopw [4,5] (fun v i wr=> ∃(k:Nat) (acc:List (Int×Nat×Nat)),k≤s.size∧acc.length≤k∧i= .int .i64 (k:Int)∧b6 (0,0,acc) k (s.data.toList.drop k)=b6 (0,0,[]) 0 s.data.toList∧wr.ownsRow w.heap.size 158 3 v acc.length (gX acc)∧Below w.heap.size w wr) (fun _ i _=>s.size-(intOf i).toNat)
   case atStart=>exact ⟨0,[],agH _,agH _,rfl,rfl,World.ownsRow_lit _ _ 0 (agD _) (by unfold maxLen;omega) rfl,(Below.refl _ _).alloc (agD _) _⟩
   case round=>
    obtain ⟨k,acc,hk,En,rfl,hE,Ad,hb⟩:=hrel;have HE:=agC hE;have HB:=agC hb;clear hE hb
    by_cases Ab:k<s.size
    ·have Cu:(s[k].toNat:Int)≤255:=by have:=s[k].toNat_lt;omega
     cases Fj:((s[k].toNat:Int)==32) with
     |true=>
      have HS:=agC (aa5 s k acc Ab Fj);go_wp2;go_roundw
      case rel=>exact ⟨k+1,acc,by omega,by omega,by go_num,by rw [←HS.out];exact HE.out,Ad,HB.out⟩
      case measure=>simp [intOf];omega
     |false=>
      go_wp2_with fail;refine (yE s k _ AP Ab).mono ?_;rintro e w1 ⟨rfl,Aa⟩;have Qp:wr.grownBy w1 none:=⟨Aa.os,Aa.tape,Aa.output,Aa.size,fun i hi _=>Aa.block i hi⟩
      have C9:=Ad.kept Qp (by
       rcases Ad.2 with ⟨rfl,_⟩|⟨g',cap,cur,rfl,_⟩
       ·exact .inl rfl
       ·exact .inr (by simp [Value.ownBlock]))
      have Af:=agC (HB.out.trans (Aa.mono HB.out.size));clear Aa Qp Ad HB
      by_cases Bo:eC (s.data.toList.drop k)=0
      ·have HW:=agC (yF s k acc Ab Fj Bo)
       have HZ:=agC (show okT s=false by rw [HR.out,ez,←HE.out];exact decide_eq_false HW.out);have HL:=agC (show aI s=[] by rw [aI,HZ.out];rfl);rw [Bo];clear Bo;go_wp2;refine bodyPost_ret (cM rfl _ _ _) rfl ?_;exact ⟨_,by rw [HZ.out];rfl,by rw [HL.out];exact World.ownsRow_lit _ _ 0 Af.out.size (by unfold maxLen;omega) rfl,Af.out.alloc Af.out.size _⟩
      ·obtain ⟨t1,t2,t3⟩:=adt s k acc Ab Fj Bo
       have Kf:(eC (s.data.toList.drop k)==0)=false:=beq_eq_false_iff_ne.mpr Bo;have Gd:=agC t3;clear Bo t3;generalize Hq:fe (s.data.toList.drop k)=n at t1 t2 Gd⊢;generalize EF:eC (s.data.toList.drop k)=kk at Kf Gd⊢;clear Hq EF
       go_wp2_with (at_builtin;refine wpList_append_own _ rfl _ _ 152 rfl w.heap.size 158 i0 (.agg #[.int .i64 0, .int .i64 0, .int .i64 0]) 3 24 Tryz.underlying152 hi Az Ax AC rfl (by decide) _ _ _ rfl (C9.alloc _) ⟨w1.heap.size,0,none⟩ 1 1 [.int .i64 kk, .int .i64 (k:Int), .int .i64 ((k+n:Nat):Int)] rfl rfl (World.news_of_block (cs:= #[.int .i64 kk, .int .i64 (k:Int), .int .i64 ((k+n:Nat):Int)]) (t:=158) (fr:=(0,0)) (heap_alloc_new w1 _)) (by simp [Value.oneCell']) (by unfold maxLen;omega) (by omega) (by have:=Af.out.size;simp;omega) ?_;intro v' w2 Ah Ac By)
       go_roundw
       case rel=>
        refine ⟨k+n,acc++[(kk,k,k+n)],by omega,by simp;omega,rfl,by rw [←Gd.out];exact HE.out, ?_, ?_⟩
        ·rw [nu,agE];exact Ah
        ·exact (Af.out.alloc Af.out.size _).grown Ac (by have:=Af.out.size;simp;omega) (fun q hq=>(C9.lt q hq).1)
       case measure=>simp [intOf];omega
    ·have HD:=agC (show b6 (0,0,[]) 0 s.data.toList=(0,k,acc) by rw [←HE.out,gZ s k (by omega),aa4])
     have HZ:=agC (show okT s=true by rw [HR.out,ez,HD.out];rfl);have HL:=agC (show aI s=acc by rw [aI,HZ.out,if_pos rfl,i8,ez,HD.out];simp);go_wp2;refine bodyPost_ret (cM rfl _ _ _) rfl ?_;exact ⟨_,by rw [HZ.out];rfl,by rw [HL.out];exact Ad,HB.out⟩
end Go.Proofs.YtegdjjjpoahamaaGreatDoor
