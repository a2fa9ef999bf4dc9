/-
  impl.UnquoteText, by its contract.
-/
import Derived.Test.YtegdjjjpoahamaaGreatDoorBaseJ
import Derived.Test.YtegdjjjpoahamaaGreatDoorBuilderL
import Derived.Test.YtegdjjjpoahamaaGreatDoorUnqPlain
set_option linter.unusedVariables false
set_option maxHeartbeats 4000000
set_option maxRecDepth 100000
namespace Go.Proofs.YtegdjjjpoahamaaGreatDoor
open Go.RowKit
theorem size_listU (s:ByteArray):s.data.toList.length=s.size:=by rw [Array.length_toList];rfl
theorem list_one (s:ByteArray) (h:s.size=1):s.data.toList=[s[0]]:=by
 have hl:=size_listU s
 have:s.data.toList=s.data.toList.drop 0:=rfl
 rw [this,List.drop_eq_getElem_cons (by omega),List.drop_eq_nil_of_le (by omega)];rfl
theorem list_first (s:ByteArray) (h:0<s.size):s.data.toList=s[0]::s.data.toList.drop 1:=by
 have hl:=size_listU s
 have:s.data.toList=s.data.toList.drop 0:=rfl
 conv=>lhs;rw [this,List.drop_eq_getElem_cons (by omega)]
 rfl
theorem list_two (s:ByteArray) (h:1<s.size):s.data.toList=s[0]::s[1]::s.data.toList.drop 2:=by
 have hl:=size_listU s
 have:s.data.toList=s.data.toList.drop 0:=rfl
 conv=>lhs;rw [this,List.drop_eq_getElem_cons (by omega),List.drop_eq_getElem_cons (by omega)]
 rfl
def ubV (n:Int):Int:=if n=34∨n=92 then n else if n=110 then 10 else 0
theorem unquoteByte_any (n:Int) (w:World):
  Calls Tryz.prog 270 #[.int .u8 n] w fun e w'=>e= .returned (.tuple #[.int .u8 (ubV n), .bool (meansI n)])∧w=w':=by
 by_cases a:n=34
 ·subst a
  go_enter Tryz.func270,Tryz.ntmps270
  go_wp2
  go_ret2
  exact ⟨rfl,rfl⟩
 by_cases b:n=92
 ·subst b
  go_enter Tryz.func270,Tryz.ntmps270
  go_wp2
  go_ret2
  exact ⟨rfl,rfl⟩
 by_cases c:n=110
 ·subst c
  go_enter Tryz.func270,Tryz.ntmps270
  go_wp2
  go_ret2
  exact ⟨rfl,rfl⟩
 ·have e1:ubV n=0:=by simp [ubV,a,b,c]
  have e2:meansI n=false:=by simp [meansI,a,b,c]
  rw [e1,e2]
  have t1:(n==34)=false:=by simpa using a
  have t2:(n==92)=false:=by simpa using b
  have t3:(n==110)=false:=by simpa using c
  clear a b c e1 e2
  go_enter Tryz.func270,Tryz.ntmps270
  go_wp2
  go_ret2
  exact ⟨rfl,rfl⟩
theorem byteE {c:UInt8} {d:UInt8} (h:c=d) (n:Int) (hn:(d.toNat:Int)=n):((c.toNat:Int)==n)=true:=by rw [h,hn];simp
theorem byteN {c:UInt8} {d:UInt8} (h:c≠d) (n:Int) (hn:(d.toNat:Int)=n):((c.toNat:Int)==n)=false:=by
 rw [beq_eq_false_iff_ne];intro e;exact h (UInt8.toNat_inj.mp (by omega))
theorem specI_of (c:UInt8):specI (c.toNat:Int)=decide (c=34∨c=92∨c=10):=by
 unfold specI
 have e34:(c.toNat:Int)=34↔c=34:=⟨fun e=>UInt8.toNat_inj.mp (by rw [show (34:UInt8).toNat=34 from rfl];omega),fun e=>by rw [e];rfl⟩
 have e92:(c.toNat:Int)=92↔c=92:=⟨fun e=>UInt8.toNat_inj.mp (by rw [show (92:UInt8).toNat=92 from rfl];omega),fun e=>by rw [e];rfl⟩
 have e10:(c.toNat:Int)=10↔c=10:=⟨fun e=>UInt8.toNat_inj.mp (by rw [show (10:UInt8).toNat=10 from rfl];omega),fun e=>by rw [e];rfl⟩
 exact decide_eq_decide.mpr (by rw [e34,e92,e10])
theorem meansI_of (c:UInt8):meansI (c.toNat:Int)=decide (c=34∨c=92∨c=110):=by
 unfold meansI
 have e34:(c.toNat:Int)=34↔c=34:=⟨fun e=>UInt8.toNat_inj.mp (by rw [show (34:UInt8).toNat=34 from rfl];omega),fun e=>by rw [e];rfl⟩
 have e92:(c.toNat:Int)=92↔c=92:=⟨fun e=>UInt8.toNat_inj.mp (by rw [show (92:UInt8).toNat=92 from rfl];omega),fun e=>by rw [e];rfl⟩
 have e110:(c.toNat:Int)=110↔c=110:=⟨fun e=>UInt8.toNat_inj.mp (by rw [show (110:UInt8).toNat=110 from rfl];omega),fun e=>by rw [e];rfl⟩
 exact decide_eq_decide.mpr (by rw [e34,e92,e110])
def FirstE (l:List UInt8) (e:Ending):Prop:= ∃(c:Int) (n:Nat),e= .returned (.tuple #[.int .u8 c, .int .i64 n])∧FirstB l c n
theorem firstByte_any (s:ByteArray) (w:World) (h0:0<s.size) (hs:s.size≤maxLen):
  Calls Tryz.prog 265 #[.string s] w fun e w'=>FirstE s.data.toList e∧w=w':=by
 unfold maxLen at hs
 have b0:(s[0].toNat:Int)≤255:=by have:=s[0].toNat_lt;omega
 by_cases h92:s[0]=92
 ·have t1:=byteE h92 92 rfl
  by_cases h1:1<s.size
  ·have b1:(s[1].toNat:Int)≤255:=by have:=s[1].toNat_lt;omega
   have HL:=Lib.hid (list_two s h1)
   have d1:decide ((1:Int)<(s.size:Int))=true:=decide_eq_true (by omega)
   cases hm:meansI (s[1].toNat:Int) with
   |true=>
    have HF:Hid (FirstB s.data.toList (ubV (s[1].toNat:Int)) 2):=by
     apply Lib.hid
     rw [HL.out,h92]
     rw [meansI_of,decide_eq_true_eq] at hm
     by_cases h110:s[1]=110
     ·rw [h110];exact first_two (e:=10) rfl rfl
     ·have hq:s[1]=34∨s[1]=92:=by
       rcases hm with g|g|g
       ·exact .inl g
       ·exact .inr g
       ·exact absurd g h110
      have hv:ubV (s[1].toNat:Int)=(s[1].toNat:Int):=by rcases hq with g|g<;>rw [g]<;>rfl
      rw [hv]
      exact first_two (by unfold quoteC;rw [if_neg (by rcases hq with g|g<;>rw [g]<;>decide),if_pos hq]) (by rcases hq with g|g<;>rw [g]<;>rfl)
    have HM:=Lib.hid hm
    clear hm h92
    go_enter Tryz.func265,Tryz.ntmps265
    go_wp2_with fail
    refine (unquoteByte_any _ _).mono ?_
    rintro e w' ⟨rfl,rfl⟩
    rw [HM.out]
    go_wp2
    go_ret2
    exact ⟨⟨_,2,rfl,HF.out⟩,rfl⟩
   |false=>
    have HF:Hid (FirstB s.data.toList 0 0):=by
     apply Lib.hid
     rw [HL.out]
     rw [meansI_of,decide_eq_false_iff_not] at hm
     refine .inl ⟨rfl,rfl,first_no (fun _ d r' e=> ?_) (fun g=>absurd h92 g)⟩
     obtain ⟨rfl,-⟩:=List.cons.inj e
     exact ⟨fun g=>hm (.inl g),fun g=>hm (.inr (.inl g)),fun g=>hm (.inr (.inr g))⟩
    have HM:=Lib.hid hm
    have HP:=Lib.hid (show specI (s[0].toNat:Int)=true by rw [h92];rfl)
    clear hm h92
    go_enter Tryz.func265,Tryz.ntmps265
    go_wp2_with fail
    refine (unquoteByte_any _ _).mono ?_
    rintro e w' ⟨rfl,rfl⟩
    rw [HM.out]
    go_wp2_with fail
    refine (quoteByte_any _ _).mono ?_
    rintro e w' ⟨rfl,rfl⟩
    rw [HP.out]
    go_wp2
    go_ret2
    exact ⟨⟨_,0,rfl,HF.out⟩,rfl⟩
  ·have d1:decide ((1:Int)<(s.size:Int))=false:=decide_eq_false (by omega)
   have HF:Hid (FirstB s.data.toList 0 0):=by
    apply Lib.hid
    rw [list_one s (by omega)]
    exact .inl ⟨rfl,rfl,first_no (fun _ d r' e=>by cases e) (fun g=>absurd h92 g)⟩
   have HP:=Lib.hid (show specI (s[0].toNat:Int)=true by rw [h92];rfl)
   clear h92
   go_enter Tryz.func265,Tryz.ntmps265
   go_wp2_with fail
   refine (quoteByte_any _ _).mono ?_
   rintro e w' ⟨rfl,rfl⟩
   rw [HP.out]
   go_wp2
   go_ret2
   exact ⟨⟨_,0,rfl,HF.out⟩,rfl⟩
 ·have t1:=byteN h92 92 rfl
  cases hp:specI (s[0].toNat:Int) with
  |true=>
   have HF:Hid (FirstB s.data.toList 0 0):=by
    apply Lib.hid
    rw [specI_of,decide_eq_true_eq] at hp
    rw [list_first s h0]
    refine .inl ⟨rfl,rfl,first_no (fun g=>absurd g h92) (fun _=> ?_)⟩
    rcases hp with g|g|g
    ·exact .inl g
    ·exact absurd g h92
    ·exact .inr (.inl g)
   have HP:=Lib.hid hp
   clear hp h92
   go_enter Tryz.func265,Tryz.ntmps265
   go_wp2_with fail
   refine (quoteByte_any _ _).mono ?_
   rintro e w' ⟨rfl,rfl⟩
   rw [HP.out]
   go_wp2
   go_ret2
   exact ⟨⟨_,0,rfl,HF.out⟩,rfl⟩
  |false=>
   have HP:=Lib.hid hp
   rw [specI_of,decide_eq_false_iff_not] at hp
   cases hq:plainI (s[0].toNat:Int) with
   |true=>
    have HF:Hid (FirstB s.data.toList (s[0].toNat:Int) 1):=by
     apply Lib.hid
     rw [list_first s h0]
     exact first_one h92 (fun g=>hp (.inl g)) (fun g=>hp (.inr (.inr g))) hq
    have HQ:=Lib.hid hq
    clear hp hq h92
    go_enter Tryz.func265,Tryz.ntmps265
    go_wp2_with fail
    refine (quoteByte_any _ _).mono ?_
    rintro e w' ⟨rfl,rfl⟩
    rw [HP.out]
    go_wp2_with fail
    refine (plainByte_any _ _ (by omega) (by omega)).mono ?_
    rintro e w' ⟨rfl,rfl⟩
    rw [HQ.out]
    go_wp2
    go_ret2
    exact ⟨⟨_,1,rfl,HF.out⟩,rfl⟩
   |false=>
    have HF:Hid (FirstB s.data.toList 0 0):=by
     apply Lib.hid
     rw [list_first s h0]
     exact .inl ⟨rfl,rfl,first_no (fun g=>absurd g h92) (fun _=> .inr (.inr hq))⟩
    have HQ:=Lib.hid hq
    clear hp hq h92
    go_enter Tryz.func265,Tryz.ntmps265
    go_wp2_with fail
    refine (quoteByte_any _ _).mono ?_
    rintro e w' ⟨rfl,rfl⟩
    rw [HP.out]
    go_wp2_with fail
    refine (plainByte_any _ _ (by omega) (by omega)).mono ?_
    rintro e w' ⟨rfl,rfl⟩
    rw [HQ.out]
    go_wp2
    go_ret2
    exact ⟨⟨_,0,rfl,HF.out⟩,rfl⟩
def InsideE (l:List UInt8) (e:Ending):Prop:=
 (∃t:List UInt8,e= .returned (.tuple #[.string ⟨t.toArray⟩, .bool true])∧l=quoteI t∧okL t=true∧t.length≤20000)∨(e= .returned (.tuple #[.string ⟨#[]⟩, .bool false])∧NoText l)
def sizeOfV (v:Value):Nat:=match v with| .string r=>r.size|_=>0
theorem list_ne (r:ByteArray) (h:0<r.size):r.data.toList≠[]:=by
 intro e;have:=size_listU r;rw [e] at this;simp at this;omega
theorem list_nil (r:ByteArray) (h: ¬0<r.size):r.data.toList=[]:=List.eq_nil_of_length_eq_zero (by rw [size_listU];omega)
theorem cut_rest (r:ByteArray) (n:Nat) (h:n≤r.size):(r.extract n r.size).data.toList=r.data.toList.drop n:=by
 rw [Lib.extract_data,List.take_of_length_le (by rw [List.length_drop,size_listU];omega)]
theorem textInside_any (s:ByteArray) (w:World) (hs:s.size≤maxLen):
  Calls Tryz.prog 257 #[.string s] w fun e w'=>InsideE s.data.toList e∧Below w.heap.size w w':=by
 unfold maxLen at hs
 go_enter Tryz.func257,Tryz.ntmps257
 go_wp2_with fail
 go_loopw [0] (fun v wr=> ∃(acc:List UInt8) (r:ByteArray),v= .string r∧s.data.toList=quoteI acc++r.data.toList∧okL acc=true∧acc.length≤20000∧r.size≤s.size∧BIs w.heap.size w.heap.size acc wr∧Below w.heap.size w wr) (fun v _=>sizeOfV v)
 case atStart=>exact ⟨[],s,rfl,rfl,rfl,by simp,Nat.le_refl _,BIs.new w,(Below.refl _ _).alloc (Nat.le_refl _) _⟩
 case round=>
  obtain ⟨acc,r,rfl,hsp,hok,hln,hrs,hI,hB⟩:=hrel
  have HSP:=Lib.hid hsp;have HOK:=Lib.hid hok;have HI:=Lib.hid hI;have HB:=Lib.hid hB
  clear hsp hok hI hB
  by_cases h0:0<r.size
  ·have HNE:=Lib.hid (list_ne r h0)
   go_wp2_with fail
   refine (firstByte_any r _ h0 (by unfold maxLen;omega)).mono ?_
   rintro e w' ⟨⟨c,n,rfl,hf⟩,rfl⟩
   rcases hf with ⟨rfl,rfl,hno⟩|⟨b,rfl,hn,hb,hl⟩
   ·have HN:=Lib.hid (no_byte HSP.out HNE.out hno)
    clear hno
    go_wp2
    go_ret2
    exact ⟨.inr ⟨rfl,HN.out⟩,HB.out⟩
   ·have hbb:(b.toNat:Int)≤255:=by have:=b.toNat_lt;omega
    have hn1:=quoteC_len b
    have hnr:n≤r.size:=by
     have:=congrArg List.length hl
     rw [List.length_append,size_listU,List.length_drop,size_listU] at this
     omega
    have hn2:1≤n∧n≤2:=by omega
    have t0:((n:Int)==0)=false:=by rw [beq_eq_false_iff_ne];omega
    have HL:=Lib.hid hl;have HNB:=Lib.hid hb
    clear hl hb hn hn1
    go_wp2_with fail
    refine (bLen w.heap.size w.heap.size acc _ HI.out).mono ?_
    rintro e w' ⟨rfl,rfl⟩
    by_cases hfull:acc.length=20000
    ·have HN:=Lib.hid (no_room HSP.out HNE.out hfull)
     have t1:((acc.length:Int)==20000)=true:=by rw [hfull];rfl
     clear hfull
     go_wp2
     go_ret2
     exact ⟨.inr ⟨rfl,HN.out⟩,HB.out⟩
    ·have t1:((acc.length:Int)==20000)=false:=by rw [beq_eq_false_iff_ne];omega
     go_wp2_with fail
     refine (writeByte_n w.heap.size w.heap.size acc b _ rfl _ HI.out (by omega) HB.out.size).mono ?_
     rintro e w2 ⟨rfl,h1,hb1⟩
     have H2:=Lib.hid h1;have HB2:=Lib.hid (HB.out.trans hb1)
     have HC:=Lib.hid (cut_rest r n hnr)
     clear h1 hb1
     go_wp2
     go_roundw
     case rel=>
      refine ⟨acc++[b],_,rfl, ?_, ?_,by simp;omega,by rw [ByteArray.size_extract];omega,H2.out,HB2.out⟩
      ·rw [HC.out,quoteI_snoc,List.append_assoc,←HL.out];exact HSP.out
      ·rw [okL_snoc,HOK.out,HNB.out];rfl
     case measure=>simp only [sizeOfV,ByteArray.size_extract];omega
  ·have HNIL:=Lib.hid (list_nil r h0)
   go_wp2_with fail
   refine (bString w.heap.size w.heap.size acc _ HI.out HB.out.size).mono ?_
   rintro e w3 ⟨rfl,hb3⟩
   have HB3:=Lib.hid (HB.out.trans hb3)
   clear hb3
   go_wp2
   go_ret2
   exact ⟨.inl ⟨acc,rfl,by rw [HSP.out,HNIL.out];simp,HOK.out,hln⟩,HB3.out⟩
theorem cut_size (l:List UInt8) (s:ByteArray) (h:l.length≤s.data.toList.length):(⟨l.toArray⟩:ByteArray).size≤s.size:=by
 rw [←size_listU];show l.toArray.size≤_;simpa using h
theorem unquoteText_impl (s:ByteArray) (w:World) (hs:s.size≤maxLen):
  Calls Tryz.prog 249 #[.string s] w fun e w'=>e= .returned (.tuple #[.string (unqT s), .bool (unqOK s)])∧Below w.heap.size w w':=by
 unfold maxLen at hs
 have cz:=cut_size (Lib.trimPrefix s.data.toList [34]) s (Lib.trimPrefix_le _ _)
 have cp: ∀w',Calls Tryz.prog 155 #[.string s, .string ⟨#[34]⟩] w' fun e w1=>e= .returned (.tuple #[.string ⟨(Lib.trimPrefix s.data.toList [34]).toArray⟩, .bool (Lib.hasPrefix s.data.toList [34])])∧w'=w1:=
  fun w'=>(Tryz.strings_CutPrefix s ⟨#[34]⟩ w').mono fun e w1 ⟨he,hw⟩=>⟨he,hw.symm⟩
 have cs: ∀w',Calls Tryz.prog 256 #[.string ⟨(Lib.trimPrefix s.data.toList [34]).toArray⟩, .string ⟨#[34]⟩] w' fun e w1=>e= .returned (.tuple #[.string ⟨(Lib.trimSuffix (Lib.trimPrefix s.data.toList [34]) [34]).toArray⟩, .bool (Lib.hasSuffix (Lib.trimPrefix s.data.toList [34]) [34])])∧w'=w1:=
  fun w'=>(Tryz.strings_CutSuffix ⟨(Lib.trimPrefix s.data.toList [34]).toArray⟩ ⟨#[34]⟩ w' (by omega)).mono fun e w1 ⟨he,hw⟩=>⟨he,hw.symm⟩
 have cz2:=cut_size (Lib.trimSuffix (Lib.trimPrefix s.data.toList [34]) [34]) s (Nat.le_trans (Lib.trimSuffix_le _ _) (Lib.trimPrefix_le _ _))
 have ci:=fun w'=>(textInside_any ⟨(Lib.trimSuffix (Lib.trimPrefix s.data.toList [34]) [34]).toArray⟩ w' (by unfold maxLen;omega))
 simp only at ci
 have p1:Lib.hasPrefix s.data.toList [34]=true→s.data.toList=34::Lib.trimPrefix s.data.toList [34]:=prefix_cut
 have p2:Lib.hasPrefix s.data.toList [34]=false→unqOK s=false:=unq_head
 have p3:Lib.hasSuffix (Lib.trimPrefix s.data.toList [34]) [34]=true→Lib.trimPrefix s.data.toList [34]=Lib.trimSuffix (Lib.trimPrefix s.data.toList [34]) [34]++[34]:=suffix_cut
 have p4:s.data.toList=34::Lib.trimPrefix s.data.toList [34]→Lib.hasSuffix (Lib.trimPrefix s.data.toList [34]) [34]=false→unqOK s=false:=unq_tail
 generalize Lib.hasSuffix (Lib.trimPrefix s.data.toList [34]) [34]=B2 at cs p3 p4
 generalize Lib.trimSuffix (Lib.trimPrefix s.data.toList [34]) [34]=L2 at cs ci p3 cz2
 generalize Lib.trimPrefix s.data.toList [34]=L1 at cp cs p1 p3 p4
 generalize Lib.hasPrefix s.data.toList [34]=B1 at cp p1 p2
 cases B1 with
 |false=>
  have e:=p2 rfl
  have CP:=Lib.hid cp;have CS:=Lib.hid cs
  have HN:=Lib.hid (unq_no e);have HE:=Lib.hid e
  clear p1 p2 p3 p4 ci cp cs e cz cz2
  go_enter Tryz.func249,Tryz.ntmps249
  go_wp2_with fail
  refine (CP.out _).mono ?_
  rintro e w' ⟨rfl,rfl⟩
  go_wp2_with fail
  refine (CS.out _).mono ?_
  rintro e w' ⟨rfl,rfl⟩
  go_wp2
  go_ret2
  exact ⟨by rw [HE.out,HN.out];rfl,Below.refl _ _⟩
 |true=>
  have e1:=p1 rfl
  cases B2 with
  |false=>
   have e:=p4 e1 rfl
   have CP:=Lib.hid cp;have CS:=Lib.hid cs
   have HN:=Lib.hid (unq_no e);have HE:=Lib.hid e
   clear p1 p2 p3 p4 ci cp cs e e1 cz cz2
   go_enter Tryz.func249,Tryz.ntmps249
   go_wp2_with fail
   refine (CP.out _).mono ?_
   rintro e w' ⟨rfl,rfl⟩
   go_wp2_with fail
   refine (CS.out _).mono ?_
   rintro e w' ⟨rfl,rfl⟩
   go_wp2
   go_ret2
   exact ⟨by rw [HE.out,HN.out];rfl,Below.refl _ _⟩
  |true=>
   rw [p3 rfl] at e1
   have CP:=Lib.hid cp;have CS:=Lib.hid cs;have CI:=Lib.hid ci;have HI:=Lib.hid (unq_inside e1)
   clear p1 p2 p3 p4 ci cp cs e1 cz cz2
   go_enter Tryz.func249,Tryz.ntmps249
   go_wp2_with fail
   refine (CP.out _).mono ?_
   rintro e w' ⟨rfl,rfl⟩
   go_wp2_with fail
   refine (CS.out _).mono ?_
   rintro e w' ⟨rfl,rfl⟩
   go_wp2_with fail
   refine (CI.out _).mono ?_
   rintro e w2 ⟨he,hb⟩
   have HB:=Lib.hid hb;clear hb
   rcases he with ⟨t,rfl,h1,h2,h3⟩|⟨rfl,hn⟩
   ·have HR:=Lib.hid (HI.out.1 t h3 h2 h1)
    clear h1 h2 h3
    go_wp2
    go_ret2
    exact ⟨by rw [HR.out.1,HR.out.2];rfl,HB.out⟩
   ·have HR:=Lib.hid (HI.out.2 hn)
    clear hn
    go_wp2
    go_ret2
    exact ⟨by rw [unq_no HR.out,HR.out];rfl,HB.out⟩
end Go.Proofs.YtegdjjjpoahamaaGreatDoor
