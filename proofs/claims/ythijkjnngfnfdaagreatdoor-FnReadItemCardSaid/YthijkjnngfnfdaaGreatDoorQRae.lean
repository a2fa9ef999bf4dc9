/-
  Part of the proof of FnReadItem.
-/
import Derived.Test.YthijkjnngfnfdaaGreatDoorQRaa
set_option linter.unusedVariables false
set_option maxHeartbeats 4000000
set_option maxRecDepth 100000
namespace Go.Proofs.YthijkjnngfnfdaaGreatDoor
open Go.RowKit
theorem ey (s:ByteArray):s.data.toList.length=s.size:=by rw [Array.length_toList];rfl
theorem aeU (s:ByteArray) (h:s.size=1):s.data.toList=[s[0]]:=by
 have hl:=ey s;have:s.data.toList=s.data.toList.drop 0:=rfl;rw [this,List.drop_eq_getElem_cons (by omega),List.drop_eq_nil_of_le (by omega)];rfl
theorem mB (s:ByteArray) (h:0<s.size):s.data.toList=s[0]::s.data.toList.drop 1:=by
 have hl:=ey s;have:s.data.toList=s.data.toList.drop 0:=rfl
 conv=>lhs;rw [this,List.drop_eq_getElem_cons (by omega)]
 rfl
theorem aeV (s:ByteArray) (h:1<s.size):s.data.toList=s[0]::s[1]::s.data.toList.drop 2:=by
 have hl:=ey s;have:s.data.toList=s.data.toList.drop 0:=rfl
 conv=>lhs;rw [this,List.drop_eq_getElem_cons (by omega),List.drop_eq_getElem_cons (by omega)]
 rfl
def ubV (n:Int):Int:=if n=34∨n=92 then n else if n=110 then 10 else 0
theorem j8 (n:Int) (w:World):
  Calls Tryz.prog 250 #[.int .u8 n] w fun e w'=>e= .returned (.tuple #[.int .u8 (ubV n), .bool (ov n)])∧w=w':=by
 by_cases a:n=34
 ·subst a
  go_enter Tryz.func250,Tryz.ntmps250
  go_wp2;go_ret2;exact ⟨rfl,rfl⟩
 by_cases b:n=92
 ·subst b
  go_enter Tryz.func250,Tryz.ntmps250
  go_wp2;go_ret2;exact ⟨rfl,rfl⟩
 by_cases c:n=110
 ·subst c
  go_enter Tryz.func250,Tryz.ntmps250
  go_wp2;go_ret2;exact ⟨rfl,rfl⟩
 ·have e1:ubV n=0:=by simp [ubV,a,b,c]
  have e2:ov n=false:=by simp [ov,a,b,c]
  rw [e1,e2]
  have t1:(n==34)=false:=by simpa using a
  have t2:(n==92)=false:=by simpa using b
  have t3:(n==110)=false:=by simpa using c
  clear a b c e1 e2
  go_enter Tryz.func250,Tryz.ntmps250
  go_wp2;go_ret2;exact ⟨rfl,rfl⟩
theorem aie {c:UInt8} {d:UInt8} (h:c=d) (n:Int) (hn:(d.toNat:Int)=n):((c.toNat:Int)==n)=true:=by rw [h,hn];simp
theorem aif {c:UInt8} {d:UInt8} (h:c≠d) (n:Int) (hn:(d.toNat:Int)=n):((c.toNat:Int)==n)=false:=by
 rw [beq_eq_false_iff_ne];intro e;exact h (UInt8.toNat_inj.mp (by omega))
theorem wv (c:UInt8):kY (c.toNat:Int)=decide (c=34∨c=92∨c=10):=by
 unfold kY;have e34:(c.toNat:Int)=34↔c=34:=⟨fun e=>UInt8.toNat_inj.mp (by rw [show (34:UInt8).toNat=34 from rfl];omega),fun e=>by rw [e];rfl⟩;have e92:(c.toNat:Int)=92↔c=92:=⟨fun e=>UInt8.toNat_inj.mp (by rw [show (92:UInt8).toNat=92 from rfl];omega),fun e=>by rw [e];rfl⟩;have e10:(c.toNat:Int)=10↔c=10:=⟨fun e=>UInt8.toNat_inj.mp (by rw [show (10:UInt8).toNat=10 from rfl];omega),fun e=>by rw [e];rfl⟩;exact decide_eq_decide.mpr (by rw [e34,e92,e10])
theorem sn (c:UInt8):ov (c.toNat:Int)=decide (c=34∨c=92∨c=110):=by
 unfold ov;have e34:(c.toNat:Int)=34↔c=34:=⟨fun e=>UInt8.toNat_inj.mp (by rw [show (34:UInt8).toNat=34 from rfl];omega),fun e=>by rw [e];rfl⟩;have e92:(c.toNat:Int)=92↔c=92:=⟨fun e=>UInt8.toNat_inj.mp (by rw [show (92:UInt8).toNat=92 from rfl];omega),fun e=>by rw [e];rfl⟩;have e110:(c.toNat:Int)=110↔c=110:=⟨fun e=>UInt8.toNat_inj.mp (by rw [show (110:UInt8).toNat=110 from rfl];omega),fun e=>by rw [e];rfl⟩;exact decide_eq_decide.mpr (by rw [e34,e92,e110])
def ahH (l:List UInt8) (e:Ending):Prop:= ∃(c:Int) (n:Nat),e= .returned (.tuple #[.int .u8 c, .int .i64 n])∧jM l c n
theorem rf (s:ByteArray) (w:World) (h0:0<s.size) (hs:s.size≤maxLen):
  Calls Tryz.prog 247 #[.string s] w fun e w'=>ahH s.data.toList e∧w=w':=by
 unfold maxLen at hs
 have b0:(s[0].toNat:Int)≤255:=by have:=s[0].toNat_lt;omega
 by_cases h92:s[0]=92
 ·have t1:=aie h92 92 rfl
  by_cases h1:1<s.size
  ·have b1:(s[1].toNat:Int)≤255:=by have:=s[1].toNat_lt;omega
   have HL:=aim (aeV s h1);have d1:decide ((1:Int)<(s.size:Int))=true:=decide_eq_true (by omega)
   cases hm:ov (s[1].toNat:Int) with
   |true=>
    have HF:Hid (jM s.data.toList (ubV (s[1].toNat:Int)) 2):=by
     apply aim
     rw [HL.out,h92];rw [sn,decide_eq_true_eq] at hm
     by_cases h110:s[1]=110
     ·rw [h110];exact sd (e:=10) rfl rfl
     ·have hq:s[1]=34∨s[1]=92:=by
       rcases hm with g|g|g
       ·exact .inl g
       ·exact .inr g
       ·exact absurd g h110
      have hv:ubV (s[1].toNat:Int)=(s[1].toNat:Int):=by rcases hq with g|g<;>rw [g]<;>rfl
      rw [hv];exact sd (by unfold bA;rw [if_neg (by rcases hq with g|g<;>rw [g]<;>decide),if_pos hq]) (by rcases hq with g|g<;>rw [g]<;>rfl)
    have HM:=aim hm;clear hm h92
    go_enter Tryz.func247,Tryz.ntmps247
    go_wp2_with fail;refine (j8 _ _).mono ?_;rintro e w' ⟨rfl,rfl⟩;rw [HM.out];go_wp2;go_ret2;exact ⟨⟨_,2,rfl,HF.out⟩,rfl⟩
   |false=>
    have HF:Hid (jM s.data.toList 0 0):=by
     apply aim
     rw [HL.out];rw [sn,decide_eq_false_iff_not] at hm;refine .inl ⟨rfl,rfl,nd (fun _ d r' e=> ?_) (fun g=>absurd h92 g)⟩;obtain ⟨rfl,-⟩:=List.cons.inj e;exact ⟨fun g=>hm (.inl g),fun g=>hm (.inr (.inl g)),fun g=>hm (.inr (.inr g))⟩
    have HM:=aim hm;have HP:=aim (show kY (s[0].toNat:Int)=true by rw [h92];rfl);clear hm h92
    go_enter Tryz.func247,Tryz.ntmps247
    go_wp2_with fail;refine (j8 _ _).mono ?_;rintro e w' ⟨rfl,rfl⟩;rw [HM.out];go_wp2_with fail;refine (eJ _ _).mono ?_;rintro e w' ⟨rfl,rfl⟩;rw [HP.out];go_wp2;go_ret2;exact ⟨⟨_,0,rfl,HF.out⟩,rfl⟩
  ·have d1:decide ((1:Int)<(s.size:Int))=false:=decide_eq_false (by omega)
   have HF:Hid (jM s.data.toList 0 0):=by
    apply aim
    rw [aeU s (by omega)];exact .inl ⟨rfl,rfl,nd (fun _ d r' e=>by cases e) (fun g=>absurd h92 g)⟩
   have HP:=aim (show kY (s[0].toNat:Int)=true by rw [h92];rfl);clear h92
   go_enter Tryz.func247,Tryz.ntmps247
   go_wp2_with fail;refine (eJ _ _).mono ?_;rintro e w' ⟨rfl,rfl⟩;rw [HP.out];go_wp2;go_ret2;exact ⟨⟨_,0,rfl,HF.out⟩,rfl⟩
 ·have t1:=aif h92 92 rfl
  cases hp:kY (s[0].toNat:Int) with
  |true=>
   have HF:Hid (jM s.data.toList 0 0):=by
    apply aim
    rw [wv,decide_eq_true_eq] at hp;rw [mB s h0];refine .inl ⟨rfl,rfl,nd (fun g=>absurd g h92) (fun _=> ?_)⟩
    rcases hp with g|g|g
    ·exact .inl g
    ·exact absurd g h92
    ·exact .inr (.inl g)
   have HP:=aim hp;clear hp h92
   go_enter Tryz.func247,Tryz.ntmps247
   go_wp2_with fail;refine (eJ _ _).mono ?_;rintro e w' ⟨rfl,rfl⟩;rw [HP.out];go_wp2;go_ret2;exact ⟨⟨_,0,rfl,HF.out⟩,rfl⟩
  |false=>
   have HP:=aim hp;rw [wv,decide_eq_false_iff_not] at hp
   cases hq:cC (s[0].toNat:Int) with
   |true=>
    have HF:Hid (jM s.data.toList (s[0].toNat:Int) 1):=by
     apply aim
     rw [mB s h0];exact abS h92 (fun g=>hp (.inl g)) (fun g=>hp (.inr (.inr g))) hq
    have HQ:=aim hq;clear hp hq h92
    go_enter Tryz.func247,Tryz.ntmps247
    go_wp2_with fail;refine (eJ _ _).mono ?_;rintro e w' ⟨rfl,rfl⟩;rw [HP.out];go_wp2_with fail;refine (gF _ _ (by omega) (by omega)).mono ?_;rintro e w' ⟨rfl,rfl⟩;rw [HQ.out];go_wp2;go_ret2;exact ⟨⟨_,1,rfl,HF.out⟩,rfl⟩
   |false=>
    have HF:Hid (jM s.data.toList 0 0):=by
     apply aim
     rw [mB s h0];exact .inl ⟨rfl,rfl,nd (fun g=>absurd g h92) (fun _=> .inr (.inr hq))⟩
    have HQ:=aim hq;clear hp hq h92
    go_enter Tryz.func247,Tryz.ntmps247
    go_wp2_with fail;refine (eJ _ _).mono ?_;rintro e w' ⟨rfl,rfl⟩;rw [HP.out];go_wp2_with fail;refine (gF _ _ (by omega) (by omega)).mono ?_;rintro e w' ⟨rfl,rfl⟩;rw [HQ.out];go_wp2;go_ret2;exact ⟨⟨_,0,rfl,HF.out⟩,rfl⟩
def agn (l:List UInt8) (e:Ending):Prop:=
 (∃t:List UInt8,e= .returned (.tuple #[.string ⟨t.toArray⟩, .bool true])∧l=aZ t∧okL t=true∧t.length≤20000)∨(e= .returned (.tuple #[.string ⟨#[]⟩, .bool false])∧tr l)
def zT (v:Value):Nat:=match v with| .string r=>r.size|_=>0
theorem ago (r:ByteArray) (h:0<r.size):r.data.toList≠[]:=by
 intro e;have:=ey r;rw [e] at this;simp at this;omega
theorem aeW (r:ByteArray) (h: ¬0<r.size):r.data.toList=[]:=List.eq_nil_of_length_eq_zero (by rw [ey];omega)
theorem aeX (r:ByteArray) (n:Nat) (h:n≤r.size):(r.extract n r.size).data.toList=r.data.toList.drop n:=by
 rw [Lib.extract_data,List.take_of_length_le (by rw [List.length_drop,ey];omega)]
theorem qy (s:ByteArray) (w:World) (hs:s.size≤maxLen):
  Calls Tryz.prog 242 #[.string s] w fun e w'=>agn s.data.toList e∧Below w.heap.size w w':=by
 unfold maxLen at hs
 go_enter Tryz.func242,Tryz.ntmps242
 go_wp2_with fail
 go_loopw [0] (fun v wr=> ∃(acc:List UInt8) (r:ByteArray),v= .string r∧s.data.toList=aZ acc++r.data.toList∧okL acc=true∧acc.length≤20000∧r.size≤s.size∧BIs w.heap.size w.heap.size acc wr∧Below w.heap.size w wr) (fun v _=>zT v)
 case atStart=>exact ⟨[],s,rfl,rfl,rfl,by simp,ain _,BIs.new w,(Below.refl _ _).alloc (ain _) _⟩
 case round=>
  obtain ⟨acc,r,rfl,hsp,hok,hln,hrs,hI,hB⟩:=hrel;have HSP:=aim hsp;have HOK:=aim hok;have HI:=aim hI;have HB:=aim hB;clear hsp hok hI hB
  by_cases h0:0<r.size
  ·have HNE:=aim (ago r h0)
   go_wp2_with fail;refine (rf r _ h0 (by unfold maxLen;omega)).mono ?_;rintro e w' ⟨⟨c,n,rfl,hf⟩,rfl⟩
   rcases hf with ⟨rfl,rfl,hno⟩|⟨b,rfl,hn,hb,hl⟩
   ·have HN:=aim (af5 HSP.out HNE.out hno)
    clear hno;go_wp2;go_ret2;exact ⟨.inr ⟨rfl,HN.out⟩,HB.out⟩
   ·have hbb:(b.toNat:Int)≤255:=by have:=b.toNat_lt;omega
    have hn1:=mC b
    have hnr:n≤r.size:=by
     have:=congrArg List.length hl;rw [aio,ey,List.length_drop,ey] at this
     omega
    have hn2:1≤n∧n≤2:=by omega
    have t0:((n:Int)==0)=false:=by rw [beq_eq_false_iff_ne];omega
    have HL:=aim hl;have HNB:=aim hb;clear hl hb hn hn1;go_wp2_with fail;refine (bLen w.heap.size w.heap.size acc _ HI.out).mono ?_;rintro e w' ⟨rfl,rfl⟩
    by_cases hfull:acc.length=20000
    ·have HN:=aim (af6 HSP.out HNE.out hfull)
     have t1:((acc.length:Int)==20000)=true:=by rw [hfull];rfl
     clear hfull;go_wp2;go_ret2;exact ⟨.inr ⟨rfl,HN.out⟩,HB.out⟩
    ·have t1:((acc.length:Int)==20000)=false:=by rw [beq_eq_false_iff_ne];omega
     go_wp2_with fail;refine (fD w.heap.size w.heap.size acc b _ rfl _ HI.out (by omega) HB.out.size).mono ?_;rintro e w2 ⟨rfl,h1,hb1⟩;have H2:=aim h1;have HB2:=aim (HB.out.trans hb1);have HC:=aim (aeX r n hnr);clear h1 hb1;go_wp2;go_roundw
     case rel=>
      refine ⟨acc++[b],_,rfl, ?_, ?_,by simp;omega,by rw [ByteArray.size_extract];omega,H2.out,HB2.out⟩
      ·rw [HC.out,kW,List.append_assoc,←HL.out];exact HSP.out
      ·rw [qn,HOK.out,HNB.out];rfl
     case measure=>simp only [zT,ByteArray.size_extract];omega
  ·have HNIL:=aim (aeW r h0)
   go_wp2_with fail;refine (y8 w.heap.size w.heap.size acc _ HI.out HB.out.size).mono ?_;rintro e w3 ⟨rfl,hb3⟩;have HB3:=aim (HB.out.trans hb3);clear hb3;go_wp2;go_ret2;exact ⟨.inl ⟨acc,rfl,by rw [HSP.out,HNIL.out];simp,HOK.out,hln⟩,HB3.out⟩
theorem wy (l:List UInt8) (s:ByteArray) (h:l.length≤s.data.toList.length):(⟨l.toArray⟩:ByteArray).size≤s.size:=by
 rw [←ey];show l.toArray.size≤_;simpa using h
theorem oo (s:ByteArray) (w:World) (hs:s.size≤maxLen):
  Calls Tryz.prog 232 #[.string s] w fun e w'=>e= .returned (.tuple #[.string (hY s), .bool (bZ s)])∧Below w.heap.size w w':=by
 unfold maxLen at hs;have cz:=wy (Lib.trimPrefix s.data.toList [34]) s (Lib.trimPrefix_le _ _)
 have cp: ∀w',Calls Tryz.prog 139 #[.string s, .string ⟨#[34]⟩] w' fun e w1=>e= .returned (.tuple #[.string ⟨(Lib.trimPrefix s.data.toList [34]).toArray⟩, .bool (Lib.hasPrefix s.data.toList [34])])∧w'=w1:=
  fun w'=>(Tryz.strings_CutPrefix s ⟨#[34]⟩ w').mono fun e w1 ⟨he,hw⟩=>⟨he,hw.symm⟩
 have cs: ∀w',Calls Tryz.prog 241 #[.string ⟨(Lib.trimPrefix s.data.toList [34]).toArray⟩, .string ⟨#[34]⟩] w' fun e w1=>e= .returned (.tuple #[.string ⟨(Lib.trimSuffix (Lib.trimPrefix s.data.toList [34]) [34]).toArray⟩, .bool (Lib.hasSuffix (Lib.trimPrefix s.data.toList [34]) [34])])∧w'=w1:=
  fun w'=>(Tryz.strings_CutSuffix ⟨(Lib.trimPrefix s.data.toList [34]).toArray⟩ ⟨#[34]⟩ w' (by omega)).mono fun e w1 ⟨he,hw⟩=>⟨he,hw.symm⟩
 have cz2:=wy (Lib.trimSuffix (Lib.trimPrefix s.data.toList [34]) [34]) s (Nat.le_trans (Lib.trimSuffix_le _ _) (Lib.trimPrefix_le _ _))
 have ci:=fun w'=>(qy ⟨(Lib.trimSuffix (Lib.trimPrefix s.data.toList [34]) [34]).toArray⟩ w' (by unfold maxLen;omega))
 simp only at ci;have p1:Lib.hasPrefix s.data.toList [34]=true→s.data.toList=34::Lib.trimPrefix s.data.toList [34]:=yx;have p2:Lib.hasPrefix s.data.toList [34]=false→bZ s=false:=aeo;have p3:Lib.hasSuffix (Lib.trimPrefix s.data.toList [34]) [34]=true→Lib.trimPrefix s.data.toList [34]=Lib.trimSuffix (Lib.trimPrefix s.data.toList [34]) [34]++[34]:=yy;have p4:s.data.toList=34::Lib.trimPrefix s.data.toList [34]→Lib.hasSuffix (Lib.trimPrefix s.data.toList [34]) [34]=false→bZ s=false:=aep;generalize Lib.hasSuffix (Lib.trimPrefix s.data.toList [34]) [34]=B2 at cs p3 p4;generalize Lib.trimSuffix (Lib.trimPrefix s.data.toList [34]) [34]=L2 at cs ci p3 cz2;generalize Lib.trimPrefix s.data.toList [34]=L1 at cp cs p1 p3 p4;generalize Lib.hasPrefix s.data.toList [34]=B1 at cp p1 p2
 cases B1 with
 |false=>
  have e:=p2 rfl;have CP:=aim cp;have CS:=aim cs;have HN:=aim (kX e);have HE:=aim e;clear p1 p2 p3 p4 ci cp cs e cz cz2
  go_enter Tryz.func232,Tryz.ntmps232
  go_wp2_with fail;refine (CP.out _).mono ?_;rintro e w' ⟨rfl,rfl⟩;go_wp2_with fail;refine (CS.out _).mono ?_;rintro e w' ⟨rfl,rfl⟩;go_wp2;go_ret2;exact ⟨by rw [HE.out,HN.out];rfl,Below.refl _ _⟩
 |true=>
  have e1:=p1 rfl
  cases B2 with
  |false=>
   have e:=p4 e1 rfl;have CP:=aim cp;have CS:=aim cs;have HN:=aim (kX e);have HE:=aim e;clear p1 p2 p3 p4 ci cp cs e e1 cz cz2
   go_enter Tryz.func232,Tryz.ntmps232
   go_wp2_with fail;refine (CP.out _).mono ?_;rintro e w' ⟨rfl,rfl⟩;go_wp2_with fail;refine (CS.out _).mono ?_;rintro e w' ⟨rfl,rfl⟩;go_wp2;go_ret2;exact ⟨by rw [HE.out,HN.out];rfl,Below.refl _ _⟩
  |true=>
   rw [p3 rfl] at e1;have CP:=aim cp;have CS:=aim cs;have CI:=aim ci;have HI:=aim (yw e1);clear p1 p2 p3 p4 ci cp cs e1 cz cz2
   go_enter Tryz.func232,Tryz.ntmps232
   go_wp2_with fail;refine (CP.out _).mono ?_;rintro e w' ⟨rfl,rfl⟩;go_wp2_with fail;refine (CS.out _).mono ?_;rintro e w' ⟨rfl,rfl⟩;go_wp2_with fail;refine (CI.out _).mono ?_;rintro e w2 ⟨he,hb⟩;have HB:=aim hb;clear hb
   rcases he with ⟨t,rfl,h1,h2,h3⟩|⟨rfl,hn⟩
   ·have HR:=aim (HI.out.1 t h3 h2 h1)
    clear h1 h2 h3;go_wp2;go_ret2;exact ⟨by rw [HR.out.1,HR.out.2];rfl,HB.out⟩
   ·have HR:=aim (HI.out.2 hn)
    clear hn;go_wp2;go_ret2;exact ⟨by rw [kX HR.out,HR.out];rfl,HB.out⟩
end Go.Proofs.YthijkjnngfnfdaaGreatDoor
