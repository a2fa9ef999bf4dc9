/-
  Several texts of the proof in one file: NamePlain, Bytes, NameI, NameV, BytesS, NameS, Plain, Texts, TextsSpec, Join, Has, NamP.
-/
import Derived.Lib.Bytealg
import Derived.Test.YtegdjjjpoahamaaGreatDoorRows
import Derived.WalkKit
import Derived.WalkSpells
import Derived.Lib.Hide
import Derived.BigQuiet
import Derived.Deep.QuietTactic
import Derived.Test.YtegdjjjpoahamaaGreatDoorBaseA
import Derived.Below
set_option linter.unusedVariables false
set_option maxHeartbeats 2000000
namespace Go.Proofs.YtegdjjjpoahamaaGreatDoor
theorem byte_eq (b c:UInt8):((b.toNat:Int)==(c.toNat:Int))=(b==c):=by
 rw [Bool.eq_iff_iff,beq_iff_eq,beq_iff_eq]
 constructor
 ·intro h;exact UInt8.toNat_inj.mp (by omega)
 ·rintro rfl;rfl
def ltrI (n:Int):Bool:=decide (97≤n)&&decide (n≤122)
def digI (n:Int):Bool:=decide (48≤n)&&decide (n≤57)
def parI (n:Int):Bool:=ltrI n||digI n||(n==95)
def partB (l:List UInt8):Bool:=match l with
 |[]=>false
 |b::t=>ltrI (b.toNat:Int)&&(t.all (fun b=>parI (b.toNat:Int))&&decide (t.length<12))
def badN (n:Nat) (b:Int):Bool:= !ltrI b&&((n==0)||(!digI b&&(b !=95)))
def nameR:Nat→List UInt8→Bool
 |n,[]=>decide (0<n)
 |n,b::t=>if (((b.toNat:Int)==46)&&decide (0<n))=true then nameR 0 t else if badN n (b.toNat:Int)=true then false else if 12<n+1 then false else nameR (n+1) t
def trueL:List UInt8:=[116,114,117,101]
def falseL:List UInt8:=[102,97,108,115,101]
def nameL (l:List UInt8):Bool:=nameR 0 l&&(l !=trueL&&l !=falseL)
theorem nameR_app (l q:List UInt8): ∀n,nameR n (l++46::q)=(nameR n l&&nameR 0 q):=by
 induction l with
 |nil=>
  intro n
  by_cases h:0<n
  ·simp [nameR,h]
  ·obtain rfl:n=0:=by omega
   simp [nameR,badN,ltrI]
 |cons b t ih=>
  intro n
  simp only [List.cons_append,nameR]
  split
  ·exact ih 0
  ·split
   ·rfl
   ·split
    ·rfl
    ·exact ih (n+1)
theorem badN_zero (b:Int):badN 0 b= !ltrI b:=by simp [badN]
theorem badN_more (n:Nat) (b:Int) (h:n≠0):badN n b= !parI b:=by
 have hz:(n==0)=false:=by simpa using h
 simp only [badN,hz,parI,bne,Bool.false_or,Bool.not_or,Bool.and_assoc]
theorem nameR_nodot (p:List UInt8): ∀n,(46:UInt8)∉p→n≤12→nameR n p=if n=0 then partB p else (p.all (fun b=>parI (b.toNat:Int))&&decide (n+p.length≤12)):=by
 induction p with
 |nil=>
  intro n _ hn
  by_cases h:n=0
  ·subst h;rfl
  ·rw [if_neg h];simp [nameR];omega
 |cons b t ih=>
  intro n hd hn
  simp only [List.mem_cons,not_or] at hd
  have hb:((b.toNat:Int)==46)=false:=by rw [show (46:Int)=((46:UInt8).toNat:Int) from rfl,byte_eq,beq_eq_false_iff_ne];exact Ne.symm hd.1
  simp only [nameR,hb,Bool.false_and,Bool.false_eq_true,if_false]
  by_cases h:n=0
  ·subst h
   rw [badN_zero,if_pos rfl]
   simp only [partB]
   cases hl:ltrI (b.toNat:Int)
   ·rfl
   ·simp only [Bool.not_true,Bool.false_eq_true,if_false,Bool.true_and]
    rw [if_neg (by omega),ih 1 hd.2 (by omega),if_neg (by omega)]
    congr 1
    rw [decide_eq_decide];omega
  ·rw [if_neg h,badN_more n _ h]
   simp only [List.all_cons,List.length_cons]
   cases parI (b.toNat:Int)
   ·simp
   ·simp only [Bool.not_true,Bool.false_eq_true,if_false,Bool.true_and]
    by_cases h12:12<n+1
    ·rw [if_pos h12,show decide (n+(t.length+1)≤12)=false by simp;omega,Bool.and_false]
    ·rw [if_neg h12,ih (n+1) hd.2 (by omega),if_neg (by omega)]
     congr 1
     rw [decide_eq_decide];omega
theorem nameR_part (p:List UInt8) (h:(46:UInt8)∉p):nameR 0 p=partB p:=by rw [nameR_nodot p 0 h (by omega),if_pos rfl]
theorem partB_iff (l:List UInt8):partB l=(decide (1≤l.length)&&decide (l.length≤12)&&(match l with|[]=>false|b::_=>ltrI (b.toNat:Int))&&l.all (fun b=>parI (b.toNat:Int))):=by
 cases l with
 |nil=>rfl
 |cons b t=>
  cases hl:ltrI (b.toNat:Int)
  ·simp [partB,hl]
  ·have hp:parI (b.toNat:Int)=true:=by simp [parI,hl]
   simp only [partB,hl,hp,List.all_cons,List.length_cons,Bool.true_and,Bool.and_true]
   cases t.all (fun b=>parI (b.toNat:Int))
   ·simp
   ·simp;omega
theorem name_more (l q:List UInt8) (h:nameL l=true) (hq:nameR 0 q=true):nameL (l++46::q)=true:=by
 simp only [nameL,Bool.and_eq_true] at h⊢
 refine ⟨by rw [nameR_app,h.1,hq];rfl, ?_, ?_⟩
 ·simp only [bne_iff_ne,ne_eq]
  intro e
  have:(46:UInt8)∈trueL:=by rw [←e];simp
  simp [trueL] at this
 ·simp only [bne_iff_ne,ne_eq]
  intro e
  have:(46:UInt8)∈falseL:=by rw [←e];simp
  simp [falseL] at this
theorem name_dot (l:List UInt8):nameL (l++[46])=false:=by
 unfold nameL;rw [nameR_app];simp [nameR]
open Go.RowKit
theorem smallLetter_any (n:Int) (w:World) (_h0:0≤n) (_h1:n≤255):
  Calls Tryz.prog 183 #[.int .u8 n] w fun e w'=>e= .returned (.bool (ltrI n))∧w=w':=by
 by_cases a:97≤n
 ·by_cases b:n≤122
  ·have hp:ltrI n=true:=by simp [ltrI,a,b]
   rw [hp];clear hp
   go_enter Tryz.func183,Tryz.ntmps183
   go_wp2
   go_ret
   exact ⟨rfl,rfl⟩
  ·have hp:ltrI n=false:=by simp [ltrI,b]
   rw [hp];clear hp
   go_enter Tryz.func183,Tryz.ntmps183
   go_wp2
   go_ret
   exact ⟨rfl,rfl⟩
 ·have hp:ltrI n=false:=by simp [ltrI,a]
  rw [hp];clear hp
  go_enter Tryz.func183,Tryz.ntmps183
  go_wp2
  go_ret
  exact ⟨rfl,rfl⟩
theorem digit_any (n:Int) (w:World) (_h0:0≤n) (_h1:n≤255):
  Calls Tryz.prog 184 #[.int .u8 n] w fun e w'=>e= .returned (.bool (digI n))∧w=w':=by
 by_cases a:48≤n
 ·by_cases b:n≤57
  ·have hp:digI n=true:=by simp [digI,a,b]
   rw [hp];clear hp
   go_enter Tryz.func184,Tryz.ntmps184
   go_wp2
   go_ret
   exact ⟨rfl,rfl⟩
  ·have hp:digI n=false:=by simp [digI,b]
   rw [hp];clear hp
   go_enter Tryz.func184,Tryz.ntmps184
   go_wp2
   go_ret
   exact ⟨rfl,rfl⟩
 ·have hp:digI n=false:=by simp [digI,a]
  rw [hp];clear hp
  go_enter Tryz.func184,Tryz.ntmps184
  go_wp2
  go_ret
  exact ⟨rfl,rfl⟩
theorem partByte_any (n:Int) (w:World) (h0:0≤n) (h1:n≤255):
  Calls Tryz.prog 156 #[.int .u8 n] w fun e w'=>e= .returned (.bool (parI n))∧w=w':=by
 cases hl:ltrI n with
 |true=>
  have HL:=Lib.hid hl
  rw [show parI n=true by simp [parI,hl]];clear hl
  go_enter Tryz.func156,Tryz.ntmps156
  go_wp2_with fail
  refine (smallLetter_any n _ h0 h1).mono ?_
  rintro e w' ⟨rfl,rfl⟩
  rw [HL.out]
  go_wp2
  go_ret
  exact ⟨rfl,rfl⟩
 |false=>
  have HL:=Lib.hid hl
  cases hd:digI n with
  |true=>
   have HD:=Lib.hid hd
   rw [show parI n=true by simp [parI,hd]];clear hl hd
   go_enter Tryz.func156,Tryz.ntmps156
   go_wp2_with fail
   refine (smallLetter_any n _ h0 h1).mono ?_
   rintro e w' ⟨rfl,rfl⟩
   rw [HL.out]
   go_wp2_with fail
   refine (digit_any n _ h0 h1).mono ?_
   rintro e w' ⟨rfl,rfl⟩
   rw [HD.out]
   go_wp2
   go_ret
   exact ⟨rfl,rfl⟩
  |false=>
   have HD:=Lib.hid hd
   have HP:=Lib.hid (show parI n=(n==95) by simp [parI,hl,hd]);clear hl hd
   go_enter Tryz.func156,Tryz.ntmps156
   go_wp2_with fail
   refine (smallLetter_any n _ h0 h1).mono ?_
   rintro e w' ⟨rfl,rfl⟩
   rw [HL.out]
   go_wp2_with fail
   refine (digit_any n _ h0 h1).mono ?_
   rintro e w' ⟨rfl,rfl⟩
   rw [HD.out]
   go_wp2
   go_ret
   exact ⟨by rw [HP.out];rfl,rfl⟩
theorem ret_boolN {a b:Bool} (h:a=b):Ending.returned (.bool a)= .returned (.bool b):=by rw [h]
theorem snoc_take (s:ByteArray) (k:Nat) (h:k<s.size):s.data.toList.take (k+1)=s.data.toList.take k++[s[k]]:=by
 rw [List.take_succ_eq_append_getElem (by simpa using h)];rfl
theorem part_size {l:List UInt8} (h:l.length=0∨12<l.length):partB l=false:=by
 rw [partB_iff]
 rcases h with h|h
 ·rw [decide_eq_false (show¬1≤l.length by omega)];rfl
 ·rw [decide_eq_false (show¬l.length≤12 by omega)];simp
theorem first_cons (s:ByteArray) (h:0<s.size): ∃t,s.data.toList=s[0]::t:=by
 have hl:0<s.data.toList.length:=by simpa using h
 refine ⟨s.data.toList.drop 1, ?_⟩
 rw [show s[0]=s.data.toList[0] from rfl]
 conv=>lhs;rw [←List.drop_zero (l:=s.data.toList)]
 rw [List.drop_eq_getElem_cons hl]
theorem part_first (s:ByteArray) (h:0<s.size) (hb:ltrI (s[0].toNat:Int)=false):partB s.data.toList=false:=by
 obtain ⟨t,e⟩:=first_cons s h
 rw [e];simp [partB,hb]
theorem part_all (s:ByteArray) (h:0<s.size) (h12:s.size≤12) (hb:ltrI (s[0].toNat:Int)=true):partB s.data.toList=s.data.toList.all (fun b=>parI (b.toNat:Int)):=by
 have hl:s.data.toList.length=s.size:=by rw [Array.length_toList];rfl
 obtain ⟨t,e⟩:=first_cons s h
 rw [e] at hl⊢
 have ht:t.length<12:=by simp only [List.length_cons] at hl;omega
 simp [partB,hb,ht,parI]
theorem namePart_any (s:ByteArray) (w:World) (hs:s.size≤maxLen):
  Calls Tryz.prog 162 #[.string s] w fun e w'=>e= .returned (.bool (partB s.data.toList))∧w=w':=by
 unfold maxLen at hs
 have hlen:s.data.toList.length=s.size:=by rw [Array.length_toList];rfl
 by_cases h0:s.size=0
 ·rw [part_size (.inl (by omega))]
  have z1:((s.size:Int)==0)=true:=beq_iff_eq.mpr (by omega)
  clear h0 hlen
  go_enter Tryz.func162,Tryz.ntmps162
  go_wp2
  go_ret
  exact ⟨rfl,rfl⟩
 ·have z1:((s.size:Int)==0)=false:=beq_eq_false_iff_ne.mpr (by omega)
  by_cases h12:s.size≤12
  ·have z2:decide (12<(s.size:Int))=false:=decide_eq_false (by omega)
   have z3:0<s.size:=by omega
   have hb0:(s[0].toNat:Int)≤255:=by have:=s[0].toNat_lt;omega
   cases hl:ltrI (s[0].toNat:Int) with
   |false=>
    rw [part_first s z3 hl]
    have HL:=Lib.hid hl;clear hl hlen h0
    go_enter Tryz.func162,Tryz.ntmps162
    go_wp2_with fail
    refine (smallLetter_any _ _ (by omega) (by omega)).mono ?_
    rintro e w' ⟨rfl,rfl⟩
    rw [HL.out]
    go_wp2
    go_ret
    exact ⟨rfl,rfl⟩
   |true=>
    have HA:=Lib.hid (part_all s z3 h12 hl)
    have HL:=Lib.hid hl;have HN:=Lib.hid hlen;clear hl hlen h0
    go_enter Tryz.func162,Tryz.ntmps162
    go_wp2_with fail
    refine (smallLetter_any _ _ (by omega) (by omega)).mono ?_
    rintro e w' ⟨rfl,rfl⟩
    rw [HL.out]
    go_wp2_with fail
    go_loop [3,20] (fun _ i=> ∃k:Nat,k≤s.size∧i= .int .i64 (k:Int)∧(s.data.toList.take k).all (fun b=>parI (b.toNat:Int))=true) (fun _ i=>s.size-(intOf i).toNat)
    case atStart=>exact ⟨0,Nat.zero_le _,rfl,rfl⟩
    case round=>
     obtain ⟨k,hk,rfl,hok⟩:=hrel
     have HK:=Lib.hid hok;clear hok
     by_cases hlt:k<s.size
     ·have hbk:(s[k].toNat:Int)≤255:=by have:=s[k].toNat_lt;omega
      cases hp:parI (s[k].toNat:Int) with
      |true=>
       have HP:=Lib.hid hp;clear hp
       have HQ:=Lib.hid (show (s.data.toList.take (k+1)).all (fun b=>parI (b.toNat:Int))=true by rw [snoc_take s k hlt,List.all_append,HK.out];simp [HP.out])
       go_wp2_with fail
       refine (partByte_any _ _ (by omega) (by omega)).mono ?_
       rintro e w' ⟨rfl,rfl⟩
       rw [HP.out]
       go_wp2
       go_round
       case rel=>exact ⟨k+1,by omega,by go_num,HQ.out⟩
       case measure=>simp [intOf];omega
      |false=>
       have HP:=Lib.hid hp;clear hp
       have HQ:=Lib.hid (show s.data.toList.all (fun b=>parI (b.toNat:Int))=false by
        rw [List.all_eq_false]
        exact ⟨s[k],by show s.data.toList[k]∈_;exact List.getElem_mem _,by rw [HP.out];simp⟩)
       go_wp2_with fail
       refine (partByte_any _ _ (by omega) (by omega)).mono ?_
       rintro e w' ⟨rfl,rfl⟩
       rw [HP.out]
       go_wp2
       go_ret
       exact ⟨ret_boolN (by rw [HA.out,HQ.out]),rfl⟩
     ·go_wp2
      go_ret
      exact ⟨ret_boolN (by rw [HA.out,←HK.out,List.take_of_length_le (by rw [HN.out];omega)]),rfl⟩
  ·rw [part_size (.inr (by omega))]
   have z2:decide (12<(s.size:Int))=true:=decide_eq_true (by omega)
   clear h0 hlen h12
   go_enter Tryz.func162,Tryz.ntmps162
   go_wp2
   go_ret
   exact ⟨rfl,rfl⟩
def strN:Value→Nat
 | .string s=>s.size
 |_=>0
def boolN:Value→Nat
 | .bool true=>1
 |_=>0
theorem cutP_le (s:ByteArray) (c:UInt8):(cutP s c).size≤s.size:=by
 unfold cutP;split
 ·exact Nat.le_refl _
 ·simp [ByteArray.size_extract];omega
theorem cutQ_le (s:ByteArray) (c:UInt8):(cutQ s c).size+boolN (.bool (cutB s c))≤s.size∧(cutQ s c).size≤s.size:=by
 have hl:s.data.toList.length=s.size:=by rw [Array.length_toList];rfl
 have hi:=indexByte_lt s.data.toList c
 unfold cutQ cutB
 by_cases h:Lib.indexByte s.data.toList c<0
 ·rw [if_pos h,decide_eq_true h]
  show (0:Nat)+0≤_∧(0:Nat)≤_
  omega
 ·rw [if_neg h,decide_eq_false h,ByteArray.size_extract]
  show _+1≤_∧_
  omega
theorem name_cut (s:ByteArray):nameR 0 s.data.toList=(partB (cutP s 46).data.toList&&(!cutB s 46||nameR 0 (cutQ s 46).data.toList)):=by
 have hl:s.data.toList.length=s.size:=by rw [Array.length_toList];rfl
 unfold cutP cutQ cutB
 rcases ixc_cases s.data.toList 46 with ⟨h1,h2⟩|⟨k,h1,h2,h3,h4⟩
 ·rw [h1,if_pos (by omega),nameR_part _ h2];simp
 ·rw [h1,if_neg (by omega),if_neg (by omega)]
  rw [show decide ((k:Int)<0)=false from decide_eq_false (by omega)]
  have e1:(s.extract 0 ((k:Int)).toNat).data.toList=s.data.toList.take k:=by simp [ByteArray.data_extract]
  have e2:(s.extract (((k:Int)).toNat+1) s.size).data.toList=s.data.toList.drop (k+1):=by
   simp [ByteArray.data_extract]
   exact List.take_of_length_le (by rw [List.length_drop];show _≤s.data.size-_;simp)
  rw [e1,e2]
  conv=>lhs;rw [h4,nameR_app,nameR_part _ h3]
  simp
theorem str_true (s:ByteArray):(s.toList==[116,114,117,101])=(s.data.toList==trueL):=by rw [ByteArray.toList_eq];rfl
theorem str_false (s:ByteArray):(s.toList==[102,97,108,115,101])=(s.data.toList==falseL):=by rw [ByteArray.toList_eq];rfl
theorem nameValid_impl (s:ByteArray) (w:World) (hs:s.size≤maxLen):
  Calls Tryz.prog 229 #[.string s] w fun e w'=>e= .returned (.bool (nameL s.data.toList))∧Below w.heap.size w w':=by
 have HMX:=Lib.hid hs
 unfold maxLen at hs
 cases ht:(s.toList==[116,114,117,101]) with
 |true=>
  have hn:nameL s.data.toList=false:=by rw [str_true] at ht;simp [nameL,bne,ht]
  rw [hn];clear hn
  go_enter Tryz.func229,Tryz.ntmps229
  go_wp2
  go_ret
  exact ⟨rfl,Below.refl _ _⟩
 |false=>
  cases hf:(s.toList==[102,97,108,115,101]) with
  |true=>
   have hn:nameL s.data.toList=false:=by rw [str_false] at hf;simp [nameL,bne,hf]
   rw [hn];clear hn
   go_enter Tryz.func229,Tryz.ntmps229
   go_wp2
   go_ret
   exact ⟨rfl,Below.refl _ _⟩
  |false=>
   have HN:=Lib.hid (show nameL s.data.toList=nameR 0 s.data.toList by
    rw [str_true] at ht;rw [str_false] at hf;simp [nameL,bne,ht,hf])
   have HC:=Lib.hid (name_cut s)
   have hz1:=cutP_le s 46
   have hz2:=(cutQ_le s 46).2
   go_enter Tryz.func229,Tryz.ntmps229
   go_wp2_with fail
   refine (cut_one s 46 _ HMX.out).mono ?_
   rintro e w1 ⟨rfl,hb1⟩
   have HB1:=Lib.hid hb1;clear hb1
   go_wp2_with fail
   go_loopw [3,4,5] (fun p r m wr=> ∃(a b:ByteArray) (c:Bool),p= .string a∧r= .string b∧m= .bool c∧a.size≤s.size∧b.size≤s.size∧nameR 0 s.data.toList=(partB a.data.toList&&(!c||nameR 0 b.data.toList))∧Below w.heap.size w wr) (fun _ r m _=>strN r+boolN m)
   case atStart=>exact ⟨_,_,_,rfl,rfl,rfl,hz1,hz2,HC.out,HB1.out⟩
   case round=>
    obtain ⟨a,b,c,rfl,rfl,rfl,ha,hb,hn,hbel⟩:=hrel
    have HX:=Lib.hid hn;have HB:=Lib.hid hbel;clear hn hbel
    cases c with
    |false=>
     go_wp2_with fail
     refine (namePart_any a _ (by unfold maxLen;omega)).mono ?_
     rintro e w' ⟨rfl,rfl⟩
     go_wp2
     go_ret
     exact ⟨ret_boolN (by rw [HN.out,HX.out];simp),HB.out⟩
    |true=>
     cases hp:partB a.data.toList with
     |false=>
      have HP:=Lib.hid hp;clear hp
      go_wp2_with fail
      refine (namePart_any a _ (by unfold maxLen;omega)).mono ?_
      rintro e w' ⟨rfl,rfl⟩
      rw [HP.out]
      go_wp2_with fail
      refine (namePart_any a _ (by unfold maxLen;omega)).mono ?_
      rintro e w' ⟨rfl,rfl⟩
      rw [HP.out]
      go_wp2
      go_ret
      exact ⟨ret_boolN (by rw [HN.out,HX.out,HP.out];rfl),HB.out⟩
     |true=>
      have HP:=Lib.hid hp;clear hp
      have q1:=cutP_le b 46
      have q2:=cutQ_le b 46
      go_wp2_with fail
      refine (namePart_any a _ (by unfold maxLen;omega)).mono ?_
      rintro e w' ⟨rfl,rfl⟩
      rw [HP.out]
      go_wp2_with fail
      refine (cut_one b 46 _ (by unfold maxLen;omega)).mono ?_
      rintro e w2 ⟨rfl,hb2⟩
      have HB2:=Lib.hid (HB.out.trans (hb2.mono HB.out.size));clear hb2
      go_wp2
      go_roundw
      case rel=>exact ⟨_,_,_,rfl,rfl,rfl,by omega,by omega,by rw [HX.out,HP.out,name_cut b];simp,HB2.out⟩
      case measure=>
       show (cutQ b 46).size+boolN (.bool (cutB b 46))<b.size+1
       omega
theorem l3Letter_any (n:Int) (w:World) (_h0:0≤n) (_h1:n≤255):
  Calls Tryz.prog 103 #[.int .u8 n] w fun e w'=>e= .returned (.bool (ltrI n))∧w=w':=by
 by_cases a:97≤n
 ·by_cases b:n≤122
  ·have hp:ltrI n=true:=by simp [ltrI,a,b]
   rw [hp];clear hp
   go_enter Tryz.func103,Tryz.ntmps103
   go_wp2
   go_ret
   exact ⟨rfl,rfl⟩
  ·have hp:ltrI n=false:=by simp [ltrI,b]
   rw [hp];clear hp
   go_enter Tryz.func103,Tryz.ntmps103
   go_wp2
   go_ret
   exact ⟨rfl,rfl⟩
 ·have hp:ltrI n=false:=by simp [ltrI,a]
  rw [hp];clear hp
  go_enter Tryz.func103,Tryz.ntmps103
  go_wp2
  go_ret
  exact ⟨rfl,rfl⟩
theorem l3Digit_any (n:Int) (w:World) (_h0:0≤n) (_h1:n≤255):
  Calls Tryz.prog 104 #[.int .u8 n] w fun e w'=>e= .returned (.bool (digI n))∧w=w':=by
 by_cases a:48≤n
 ·by_cases b:n≤57
  ·have hp:digI n=true:=by simp [digI,a,b]
   rw [hp];clear hp
   go_enter Tryz.func104,Tryz.ntmps104
   go_wp2
   go_ret
   exact ⟨rfl,rfl⟩
  ·have hp:digI n=false:=by simp [digI,b]
   rw [hp];clear hp
   go_enter Tryz.func104,Tryz.ntmps104
   go_wp2
   go_ret
   exact ⟨rfl,rfl⟩
 ·have hp:digI n=false:=by simp [digI,a]
  rw [hp];clear hp
  go_enter Tryz.func104,Tryz.ntmps104
  go_wp2
  go_ret
  exact ⟨rfl,rfl⟩
theorem ret_boolS {a b:Bool} (h:a=b):Ending.returned (.bool a)= .returned (.bool b):=by rw [h]
theorem drop_cons (s:ByteArray) (k:Nat) (h:k<s.size):s.data.toList.drop k=s[k]::s.data.toList.drop (k+1):=by
 rw [List.drop_eq_getElem_cons (by simpa using h)];rfl
theorem strS_true (s:ByteArray):(s.toList==[116,114,117,101])=(s.data.toList==trueL):=by rw [ByteArray.toList_eq];rfl
theorem strS_false (s:ByteArray):(s.toList==[102,97,108,115,101])=(s.data.toList==falseL):=by rw [ByteArray.toList_eq];rfl
theorem nameR_dot1 (s:ByteArray) (k n:Nat) (h:k<s.size) (h1:((s[k].toNat:Int)==46)=true) (h2:0<n):nameR n (s.data.toList.drop k)=nameR 0 (s.data.toList.drop (k+1)):=by
 rw [drop_cons s k h,nameR,if_pos (by rw [h1,decide_eq_true h2];rfl)]
theorem nameR_no (s:ByteArray) (k n:Nat) (h:k<s.size) (h1: ¬(((s[k].toNat:Int)==46)=true∧0<n)):nameR n (s.data.toList.drop k)=if badN n (s[k].toNat:Int)=true then false else if 12<n+1 then false else nameR (n+1) (s.data.toList.drop (k+1)):=by
 rw [drop_cons s k h,nameR,if_neg (by simpa using h1)]
theorem nameValid_spec (s:ByteArray) (w:World) (hs:s.size≤maxLen):
  Calls Tryz.prog 128 #[.string s] w fun e w'=>e= .returned (.bool (nameL s.data.toList))∧w=w':=by
 unfold maxLen at hs
 have hlen:s.data.toList.length=s.size:=by rw [Array.length_toList];rfl
 have HLEN:=Lib.hid hlen;clear hlen
 go_enter Tryz.func128,Tryz.ntmps128
 go_wp2
 go_loop [3,4] (fun z i=> ∃k n:Nat,k≤s.size∧n≤12∧i= .int .i64 (k:Int)∧z= .int .i64 (n:Int)∧nameR n (s.data.toList.drop k)=nameR 0 s.data.toList) (fun _ i=>s.size-(intOf i).toNat)
 case atStart=>exact ⟨0,0,Nat.zero_le _,by omega,rfl,rfl,rfl⟩
 case round=>
  obtain ⟨k,n,hk,hn12,rfl,rfl,hr⟩:=hrel
  have HR:=Lib.hid hr;clear hr
  by_cases hlt:k<s.size
  ·have hbk:(s[k].toNat:Int)≤255:=by have:=s[k].toNat_lt;omega
   by_cases hd:((s[k].toNat:Int)==46)=true∧0<n
   ·obtain ⟨d1,d2⟩:=hd
    have HQ:=Lib.hid (nameR_dot1 s k n hlt d1 d2)
    have d3:decide (0<(n:Int))=true:=decide_eq_true (by omega)
    go_wp2
    go_round
    case rel=>exact ⟨k+1,0,by omega,by omega,by go_num,rfl,by rw [←HQ.out];exact HR.out⟩
    case measure=>simp [intOf];omega
   ·have HQ:=Lib.hid (nameR_no s k n hlt hd)
    have HBN:=Lib.hid (show badN n (s[k].toNat:Int)=(!ltrI (s[k].toNat:Int)&&((n==0)||(!digI (s[k].toNat:Int)&&((s[k].toNat:Int) !=95)))) from rfl)
    have hff:nameR 0 s.data.toList=false→nameL s.data.toList=false:=fun h=>by simp [nameL,h]
    have HFF:=Lib.hid hff;clear hff
    cases hl:ltrI (s[k].toNat:Int) with
    |true=>
     have HL:=Lib.hid hl
     have HBF:=Lib.hid (show badN n (s[k].toNat:Int)=false by rw [HBN.out,hl];rfl)
     clear hl
     by_cases h46:((s[k].toNat:Int)==46)=true
     ·have hn0: ¬0<n:=fun h=>hd ⟨h46,h⟩
      have d3:decide (0<(n:Int))=false:=decide_eq_false (by omega)
      have d5:decide (0<n)=false:=decide_eq_false (by omega)
      exfalso
      rw [beq_iff_eq] at h46
      have:=HL.out
      rw [h46] at this
      simp [ltrI] at this
     ·have h46':=Bool.eq_false_iff.mpr h46
      clear h46 hd
      go_wp2_with fail
      refine (l3Letter_any _ _ (by omega) (by omega)).mono ?_
      rintro e w' ⟨rfl,rfl⟩
      rw [HL.out]
      by_cases h12:12<n+1
      ·have HZ:=Lib.hid (HFF.out (by rw [←HR.out,HQ.out,HBF.out,if_pos h12];rfl))
       go_wp2
       go_ret
       exact ⟨ret_boolS HZ.out.symm,rfl⟩
      ·have HZ:=Lib.hid (show nameR (n+1) (s.data.toList.drop (k+1))=nameR 0 s.data.toList by rw [←HR.out,HQ.out,HBF.out,if_neg h12];rfl)
       go_wp2
       go_round
       case rel=>exact ⟨k+1,n+1,by omega,by omega,by go_num,by go_num,HZ.out⟩
       case measure=>simp [intOf];omega
    |false=>
     have HL:=Lib.hid hl;clear hl
     by_cases hn0:n=0
     ·have HBF:=Lib.hid (show badN n (s[k].toNat:Int)=true by rw [HBN.out,HL.out,hn0];rfl)
      have HZ:=Lib.hid (HFF.out (by rw [←HR.out,HQ.out,HBF.out];rfl))
      have d3:decide (0<(n:Int))=false:=decide_eq_false (by omega)
      have d5:decide (0<n)=false:=decide_eq_false (by omega)
      have d4:((n:Int)==0)=true:=beq_iff_eq.mpr (by omega)
      clear hd hn0
      cases h46:((s[k].toNat:Int)==46)
      all_goals
       go_wp2_with fail
       refine (l3Letter_any _ _ (by omega) (by omega)).mono ?_
       rintro e w' ⟨rfl,rfl⟩
       rw [HL.out]
       go_wp2
       go_ret
       exact ⟨ret_boolS HZ.out.symm,rfl⟩
     ·have h46:((s[k].toNat:Int)==46)=false:=Bool.eq_false_iff.mpr (fun h=>hd ⟨h,by omega⟩)
      have d4:((n:Int)==0)=false:=beq_eq_false_iff_ne.mpr (by omega)
      have hz0:(n==0)=false:=beq_eq_false_iff_ne.mpr hn0
      have HNB:=Lib.hid (show badN n (s[k].toNat:Int)=(!digI (s[k].toNat:Int)&&((s[k].toNat:Int) !=95)) by rw [HBN.out,HL.out,hz0];rfl)
      clear hd hn0 hz0
      cases hdg:digI (s[k].toNat:Int) with
      |true=>
       have HD:=Lib.hid hdg;clear hdg
       have HBF:=Lib.hid (show badN n (s[k].toNat:Int)=false by rw [HNB.out,HD.out];rfl)
       go_wp2_with fail
       refine (l3Letter_any _ _ (by omega) (by omega)).mono ?_
       rintro e w' ⟨rfl,rfl⟩
       rw [HL.out]
       go_wp2_with fail
       refine (l3Digit_any _ _ (by omega) (by omega)).mono ?_
       rintro e w' ⟨rfl,rfl⟩
       rw [HD.out]
       by_cases h12:12<n+1
       ·have HZ:=Lib.hid (HFF.out (by rw [←HR.out,HQ.out,HBF.out,if_pos h12];rfl))
        go_wp2
        go_ret
        exact ⟨ret_boolS HZ.out.symm,rfl⟩
       ·have HZ:=Lib.hid (show nameR (n+1) (s.data.toList.drop (k+1))=nameR 0 s.data.toList by rw [←HR.out,HQ.out,HBF.out,if_neg h12];rfl)
        go_wp2
        go_round
        case rel=>exact ⟨k+1,n+1,by omega,by omega,by go_num,by go_num,HZ.out⟩
        case measure=>simp [intOf];omega
      |false=>
       have HD:=Lib.hid hdg;clear hdg
       have HB3:=Lib.hid (show badN n (s[k].toNat:Int)=((s[k].toNat:Int) !=95) by rw [HNB.out,HD.out];rfl)
       cases h95:((s[k].toNat:Int) !=95) with
       |true=>
        have HZ:=Lib.hid (HFF.out (by rw [←HR.out,HQ.out,HB3.out,h95];rfl))
        go_wp2_with fail
        refine (l3Letter_any _ _ (by omega) (by omega)).mono ?_
        rintro e w' ⟨rfl,rfl⟩
        rw [HL.out]
        go_wp2_with fail
        refine (l3Digit_any _ _ (by omega) (by omega)).mono ?_
        rintro e w' ⟨rfl,rfl⟩
        rw [HD.out]
        go_wp2
        go_ret
        exact ⟨ret_boolS HZ.out.symm,rfl⟩
       |false=>
        have HBF:=Lib.hid (show badN n (s[k].toNat:Int)=false by rw [HB3.out,h95])
        go_wp2_with fail
        refine (l3Letter_any _ _ (by omega) (by omega)).mono ?_
        rintro e w' ⟨rfl,rfl⟩
        rw [HL.out]
        go_wp2_with fail
        refine (l3Digit_any _ _ (by omega) (by omega)).mono ?_
        rintro e w' ⟨rfl,rfl⟩
        rw [HD.out]
        by_cases h12:12<n+1
        ·have HZ:=Lib.hid (HFF.out (by rw [←HR.out,HQ.out,HBF.out,if_pos h12];rfl))
         go_wp2
         go_ret
         exact ⟨ret_boolS HZ.out.symm,rfl⟩
        ·have HZ:=Lib.hid (show nameR (n+1) (s.data.toList.drop (k+1))=nameR 0 s.data.toList by rw [←HR.out,HQ.out,HBF.out,if_neg h12];rfl)
         go_wp2
         go_round
         case rel=>exact ⟨k+1,n+1,by omega,by omega,by go_num,by go_num,HZ.out⟩
         case measure=>simp [intOf];omega
  ·have HE:=Lib.hid (show nameR 0 s.data.toList=decide (0<n) by rw [←HR.out,List.drop_eq_nil_of_le (by rw [HLEN.out];omega),nameR])
   have HNL:=Lib.hid (show nameL s.data.toList=(decide (0<n)&&((!(s.toList==[116,114,117,101]))&&(!(s.toList==[102,97,108,115,101])))) by rw [strS_true,strS_false,nameL,HE.out];rfl)
   by_cases hn0:0<n
   ·have d3:decide (0<(n:Int))=true:=decide_eq_true (by omega)
    have HN1:=Lib.hid (show decide (0<n)=true from decide_eq_true hn0)
    cases ht:(s.toList==[116,114,117,101]) with
    |true=>
     go_wp2
     go_ret
     exact ⟨ret_boolS (by rw [HNL.out,HN1.out,ht];rfl),rfl⟩
    |false=>
     cases hf:(s.toList==[102,97,108,115,101])
     all_goals
      go_wp2
      go_ret
      exact ⟨ret_boolS (by rw [HNL.out,HN1.out,ht,hf];rfl),rfl⟩
   ·have d3:decide (0<(n:Int))=false:=decide_eq_false (by omega)
    have d5:decide (0<n)=false:=decide_eq_false (by omega)
    have HN1:=Lib.hid (show decide (0<n)=false from decide_eq_false hn0)
    go_wp2
    go_ret
    exact ⟨ret_boolS (by rw [HNL.out,HN1.out];rfl),rfl⟩
def plainI (n:Int):Bool:=decide (32≤n)&&decide (n≤126)
def okI (n:Int):Bool:=(n==10)||plainI n
def okL (l:List UInt8):Bool:=l.all fun b=>okI (b.toNat:Int)
def textB (s:ByteArray):Bool:=decide (s.size≤20000)&&okL s.data.toList
theorem take_snoc (s:ByteArray) (k:Nat) (h:k<s.size):s.data.toList.take (k+1)=s.data.toList.take k++[s[k]]:=by
 rw [List.take_succ_eq_append_getElem (by simpa using h)];rfl
theorem okL_snoc (l:List UInt8) (b:UInt8):okL (l++[b])=(okL l&&okI (b.toNat:Int)):=by
 simp [okL]
theorem okL_take_false (l:List UInt8) (k:Nat) (h:okL (l.take k)=false):okL l=false:=by
 simp only [okL,List.all_eq_false] at h⊢
 obtain ⟨x,hx,hn⟩:=h
 exact ⟨x,List.mem_of_mem_take hx,hn⟩
theorem okL_at (s:ByteArray) (k:Nat) (h:k<s.size) (hb:okI (s[k].toNat:Int)=false):okL s.data.toList=false:=by
 apply okL_take_false _ (k+1)
 rw [take_snoc s k h,okL_snoc,hb,Bool.and_false]
theorem plainByte_any (n:Int) (w:World) (_h0:0≤n) (_h1:n≤255):
  Calls Tryz.prog 86 #[.int .u8 n] w fun e w'=>e= .returned (.bool (plainI n))∧w=w':=by
 by_cases a:32≤n
 ·by_cases b:n≤126
  ·have hp:plainI n=true:=by simp [plainI,a,b]
   rw [hp];clear hp
   go_enter Tryz.func86,Tryz.ntmps86
   go_wp2
   go_ret
   exact ⟨rfl,rfl⟩
  ·have hp:plainI n=false:=by simp [plainI,b]
   rw [hp];clear hp
   go_enter Tryz.func86,Tryz.ntmps86
   go_wp2
   go_ret
   exact ⟨rfl,rfl⟩
 ·have hp:plainI n=false:=by simp [plainI,a]
  rw [hp];clear hp
  go_enter Tryz.func86,Tryz.ntmps86
  go_wp2
  go_ret
  exact ⟨rfl,rfl⟩
def inI (n lo hi:Int):Bool:=decide (lo≤n)&&decide (n≤hi)
theorem l1In_any (n lo hi:Int) (w:World):
  Calls Tryz.prog 85 #[.int .i64 n, .int .i64 lo, .int .i64 hi] w fun e w'=>e= .returned (.bool (inI n lo hi))∧w=w':=by
 by_cases a:lo≤n
 ·by_cases b:n≤hi
  ·have hp:inI n lo hi=true:=by simp [inI,a,b]
   rw [hp];clear hp
   go_enter Tryz.func85,Tryz.ntmps85
   go_wp2
   go_ret
   exact ⟨rfl,rfl⟩
  ·have hp:inI n lo hi=false:=by simp [inI,b]
   rw [hp];clear hp
   go_enter Tryz.func85,Tryz.ntmps85
   go_wp2
   go_ret
   exact ⟨rfl,rfl⟩
 ·have hp:inI n lo hi=false:=by simp [inI,a]
  rw [hp];clear hp
  go_enter Tryz.func85,Tryz.ntmps85
  go_wp2
  go_ret
  exact ⟨rfl,rfl⟩
theorem okI_ten {n:Int} (h:n=10):okI n=true:=by subst h;rfl
theorem okI_bad {n:Int} (h:(n !=10)=true∧(!plainI n)=true):okI n=false:=by
 obtain ⟨a,b⟩:=h
 simp only [bne_iff_ne,ne_eq,Bool.not_eq_true'] at a b
 simp [okI,a,b]
theorem okI_good {n:Int} (h:(n !=10)=false∨(!plainI n)=false):okI n=true:=by
 rcases h with h|h
 ·simp only [bne_eq_false_iff_eq] at h;exact okI_ten h
 ·simp only [Bool.not_eq_false'] at h;simp [okI,h]
theorem okI_bad' {n:Int} (h:(n !=10)=true∧(!inI n 32 126)=true):okI n=false:=okI_bad h
theorem okI_good' {n:Int} (h:(n !=10)=false∨(!inI n 32 126)=false):okI n=true:=okI_good h
theorem textB_bad (s:ByteArray) (k:Nat) (hk:k<s.size) (h:okI (s[k].toNat:Int)=false):textB s=false:=by
 simp [textB,okL_at s k hk h]
theorem textB_good (s:ByteArray) (hl:s.size≤20000) (k:Nat) (hk: ¬k<s.size) (h:okL (s.data.toList.take k)=true):textB s=true:=by
 rw [List.take_of_length_le (by simp;omega)] at h
 simp [textB,hl,h]
theorem textB_long (s:ByteArray) (hl: ¬s.size≤20000):textB s=false:=by simp [textB,hl]
theorem textB_all (s:ByteArray) (k:Nat) (hk: ¬k<s.size) (h:okL (s.data.toList.take k)=true):textB s=decide ((s.size:Int)≤20000):=by
 rw [List.take_of_length_le (by simp;omega)] at h
 rw [textB,h,Bool.and_true]
 by_cases a:s.size≤20000
 ·simp [a];omega
 ·simp [a];omega
theorem okL_next (s:ByteArray) (k:Nat) (hk:k<s.size) (h:okL (s.data.toList.take k)=true) (hb:okI (s[k].toNat:Int)=true):okL (s.data.toList.take (k+1))=true:=by
 rw [take_snoc s k hk,okL_snoc,h,hb];rfl
theorem ret_bool {a b:Bool} (h:a=b):Ending.returned (.bool a)= .returned (.bool b):=by rw [h]
theorem textValid_impl (s:ByteArray) (w:World) (hs:s.size≤maxLen):
  Calls Tryz.prog 53 #[.string s] w fun e w'=>e= .returned (.bool (textB s))∧w=w':=by
 unfold maxLen at hs
 by_cases hlen:s.size≤20000
 ·go_enter Tryz.func53,Tryz.ntmps53
  go_wp2
  go_loop [3,9] (fun _ i=> ∃k:Nat,k≤s.size∧i= .int .i64 k∧okL (s.data.toList.take k)=true) (fun _ i=>s.size-(intOf i).toNat)
  case atStart=>exact ⟨0,Nat.zero_le _,rfl,rfl⟩
  case round=>
   obtain ⟨k,hk,rfl,hok⟩:=hrel
   have HK:=Lib.hid hok;clear hok
   by_cases hlt:k<s.size
   ·have hb0:(s[k].toNat:Int)≤255:=by have:=s[k].toNat_lt;omega
    go_wp2_with (go_at_call 86;refine (plainByte_any _ _ (by omega) (by omega)).mono ?_;rintro e w' ⟨rfl,rfl⟩)
    ·go_round
     case rel=>exact ⟨k+1,by omega,by go_num,okL_next s k hlt HK.out (okI_ten (by assumption))⟩
     case measure=>simp [intOf];omega
    ·go_ret
     exact ⟨ret_bool (textB_bad s k hlt (okI_bad (by assumption))).symm,rfl⟩
    ·go_round
     case rel=>exact ⟨k+1,by omega,by go_num,okL_next s k hlt HK.out (okI_good (by assumption))⟩
     case measure=>simp [intOf];omega
   ·go_wp2
    go_ret
    exact ⟨ret_bool (textB_good s hlen k hlt HK.out).symm,rfl⟩
 ·rw [textB_long s hlen]
  go_enter Tryz.func53,Tryz.ntmps53
  go_wp2
  go_ret
  exact ⟨rfl,rfl⟩
theorem textValid_spec (s:ByteArray) (w:World) (hs:s.size≤maxLen):
  Calls Tryz.prog 70 #[.string s] w fun e w'=>e= .returned (.bool (textB s))∧w=w':=by
 unfold maxLen at hs
 go_enter Tryz.func70,Tryz.ntmps70
 go_wp2
 go_loop [3] (fun i=> ∃k:Nat,k≤s.size∧i= .int .i64 k∧okL (s.data.toList.take k)=true) (fun i=>s.size-(intOf i).toNat)
 case atStart=>exact ⟨0,Nat.zero_le _,rfl,rfl⟩
 case round=>
  obtain ⟨k,hk,rfl,hok⟩:=hrel
  have HK:=Lib.hid hok;clear hok
  by_cases hlt:k<s.size
  ·have hb0:(s[k].toNat:Int)≤255:=by have:=s[k].toNat_lt;omega
   go_wp2_with (go_at_call 85;refine (l1In_any _ _ _ _).mono ?_;rintro e w' ⟨rfl,rfl⟩)
   ·go_round
    case rel=>exact ⟨k+1,by omega,by go_num,okL_next s k hlt HK.out (okI_ten (by assumption))⟩
    case measure=>simp [intOf];omega
   ·go_ret
    exact ⟨ret_bool (textB_bad s k hlt (okI_bad' (by assumption))).symm,rfl⟩
   ·go_round
    case rel=>exact ⟨k+1,by omega,by go_num,okL_next s k hlt HK.out (okI_good' (by assumption))⟩
    case measure=>simp [intOf];omega
  ·go_wp2
   go_ret
   exact ⟨ret_bool (textB_all s k hlt HK.out).symm,rfl⟩
def plainL (l:List UInt8):Bool:=l.all fun b=>plainI (b.toNat:Int)
def hasL (l:List UInt8) (n:Int):Bool:=l.any fun b=>(b.toNat:Int)==n
def lineAt (L:List ByteArray) (k:Nat):ByteArray:=(L[k]?).getD ByteArray.empty
def accTo (L:List ByteArray):Nat→ByteArray
 |0=>ByteArray.empty
 |k+1=>accTo L k++lineAt L k++⟨#[10]⟩
def okAt (L:List ByteArray) (k:Nat):Bool:=plainL (lineAt L k).data.toList&&decide ((accTo L k).size+(lineAt L k).size+1≤20000)
def joinOk (L:List ByteArray):Bool:=(List.range L.length).all (okAt L)
def joinB (L:List ByteArray):ByteArray:=if joinOk L=true then accTo L L.length else ByteArray.empty
theorem plainL_snoc (l:List UInt8) (b:UInt8):plainL (l++[b])=(plainL l&&plainI (b.toNat:Int)):=by simp [plainL]
theorem hasL_snoc (l:List UInt8) (b:UInt8) (n:Int):hasL (l++[b]) n=(hasL l n||(b.toNat:Int)==n):=by simp [hasL]
theorem plainL_bad (s:ByteArray) (k:Nat) (h:k<s.size) (hb:plainI (s[k].toNat:Int)=false):plainL s.data.toList=false:=by
 have h1:plainL (s.data.toList.take (k+1))=false:=by rw [take_snoc s k h,plainL_snoc,hb,Bool.and_false]
 simp only [plainL,List.all_eq_false] at h1⊢
 obtain ⟨x,hx,hn⟩:=h1
 exact ⟨x,List.mem_of_mem_take hx,hn⟩
theorem plainL_next (s:ByteArray) (k:Nat) (hk:k<s.size) (h:plainL (s.data.toList.take k)=true) (hb:plainI (s[k].toNat:Int)=true):plainL (s.data.toList.take (k+1))=true:=by
 rw [take_snoc s k hk,plainL_snoc,h,hb];rfl
theorem hasL_good (s:ByteArray) (k:Nat) (n:Int) (h:k<s.size) (hb:((s[k].toNat:Int)==n)=true):hasL s.data.toList n=true:=by
 have h1:hasL (s.data.toList.take (k+1)) n=true:=by rw [take_snoc s k h,hasL_snoc,hb,Bool.or_true]
 simp only [hasL,List.any_eq_true] at h1⊢
 obtain ⟨x,hx,hn⟩:=h1
 exact ⟨x,List.mem_of_mem_take hx,hn⟩
theorem hasL_next (s:ByteArray) (k:Nat) (n:Int) (hk:k<s.size) (h:hasL (s.data.toList.take k) n=false) (hb:((s[k].toNat:Int)==n)=false):hasL (s.data.toList.take (k+1)) n=false:=by
 rw [take_snoc s k hk,hasL_snoc,h,hb];rfl
theorem plain_iff (l:List UInt8):plainL l=(okL l&& !hasL l 10):=by
 induction l with
 |nil=>rfl
 |cons b l ih=>
  have e1:plainL (b::l)=(plainI (b.toNat:Int)&&plainL l):=rfl
  have e2:okL (b::l)=(okI (b.toNat:Int)&&okL l):=rfl
  have e3:hasL (b::l) 10=(((b.toNat:Int)==10)||hasL l 10):=rfl
  rw [e1,e2,e3,ih]
  by_cases h10:(b.toNat:Int)=10
  ·have:plainI 10=false:=rfl
   simp [this,h10]
  ·have hb:((b.toNat:Int)==10)=false:=by simpa using h10
   simp only [okI,hb,Bool.false_or]
   cases plainI (b.toNat:Int)<;>simp
theorem accTo_size_next (L:List ByteArray) (k:Nat):(accTo L (k+1)).size=(accTo L k).size+(lineAt L k).size+1:=by
 show (accTo L k++lineAt L k++⟨#[10]⟩).size=_
 rw [ByteArray.size_append,ByteArray.size_append];rfl
theorem joinOk_bad (L:List ByteArray) (k:Nat) (hk:k<L.length) (h:okAt L k=false):joinOk L=false:=by
 simp only [joinOk,List.all_eq_false];exact ⟨k,List.mem_range.2 hk,by simp [h]⟩
theorem joinOk_good (L:List ByteArray) (h: ∀j,j<L.length→okAt L j=true):joinOk L=true:=by
 simp only [joinOk,List.all_eq_true];intro j hj;exact h j (List.mem_range.1 hj)
theorem acc_le (L:List ByteArray) (k:Nat) (h: ∀j,j<k→okAt L j=true):(accTo L k).size≤20000:=by
 cases k with
 |zero=>show (0:Nat)≤20000;omega
 |succ k=>
  rw [accTo_size_next]
  have:=h k (by omega)
  simp only [okAt,Bool.and_eq_true,decide_eq_true_eq] at this
  exact this.2
theorem l1Has_any (s:ByteArray) (n:Int) (w:World) (hs:s.size≤maxLen) (h0:0≤n) (h1:n≤255):
  Calls Tryz.prog 94 #[.string s, .int .u8 n] w fun e w'=>e= .returned (.bool (hasL s.data.toList n))∧w=w':=by
 unfold maxLen at hs
 go_enter Tryz.func94,Tryz.ntmps94
 go_wp2
 go_loop [5] (fun i=> ∃k:Nat,k≤s.size∧i= .int .i64 k∧hasL (s.data.toList.take k) n=false) (fun i=>s.size-(intOf i).toNat)
 case atStart=>exact ⟨0,Nat.zero_le _,rfl,rfl⟩
 case round=>
  obtain ⟨k,hk,rfl,hok⟩:=hrel
  have HK:=Lib.hid hok;clear hok
  by_cases hlt:k<s.size
  ·by_cases he:((s[k].toNat:Int)==n)=true
   ·have HE:=Lib.hid (hasL_good s k n hlt he)
    go_wp2
    go_ret
    exact ⟨ret_bool HE.out.symm,rfl⟩
   ·have he':((s[k].toNat:Int)==n)=false:=by simpa using he
    have HE:=Lib.hid (hasL_next s k n hlt HK.out he')
    clear he
    go_wp2
    go_round
    case rel=>exact ⟨k+1,by omega,by go_num,HE.out⟩
    case measure=>simp [intOf];omega
  ·go_wp2
   go_ret
   have:=HK.out
   rw [List.take_of_length_le (by simp;omega)] at this
   exact ⟨ret_bool this.symm,rfl⟩
def simpB (s:ByteArray):Bool:=nameL s.data.toList&& !hasL s.data.toList 46
theorem has_dot (l:List UInt8):hasL l 46=true↔(46:UInt8)∈l:=by
 unfold hasL
 rw [List.any_eq_true]
 constructor
 ·rintro ⟨b,hb,h⟩
  rw [show (46:Int)=((46:UInt8).toNat:Int) from rfl,byte_eq,beq_iff_eq] at h
  rw [←h];exact hb
 ·intro h;exact ⟨46,h,rfl⟩
theorem simp_part (l:List UInt8):(nameL l&& !hasL l 46)=(partB l&&(l !=trueL&&l !=falseL)):=by
 by_cases h:(46:UInt8)∈l
 ·rw [(has_dot l).mpr h]
  have:partB l=false:=by
   rw [partB_iff]
   have:l.all (fun b=>parI (b.toNat:Int))=false:=by
    rw [List.all_eq_false]
    exact ⟨46,h,by decide⟩
   rw [this,Bool.and_false]
  rw [this];simp
 ·have hh:hasL l 46=false:=by rw [Bool.eq_false_iff];exact fun k=>h ((has_dot l).mp k)
  rw [hh,Bool.not_false,Bool.and_true]
  unfold nameL
  rw [nameR_part l h]
theorem plainName_any (s:ByteArray) (w:World) (hs:s.size≤maxLen):
  Calls Tryz.prog 120 #[.string s] w fun e w'=>e= .returned (.bool (simpB s))∧w=w':=by
 have HP:=Lib.hid (simp_part s.data.toList)
 unfold simpB
 rw [HP.out]
 cases hp:partB s.data.toList with
 |false=>
  go_enter Tryz.func120,Tryz.ntmps120
  go_wp2_with fail
  refine (namePart_any s _ hs).mono ?_
  rintro e w' ⟨rfl,rfl⟩
  rw [hp]
  go_wp2
  go_ret
  exact ⟨rfl,rfl⟩
 |true=>
  cases ht:(s.toList==[116,114,117,101]) with
  |true=>
   have e1:(s.data.toList==trueL)=true:=by rw [←str_true];exact ht
   have HE:=Lib.hid (show (s.data.toList !=trueL&&s.data.toList !=falseL)=false by simp [bne,e1])
   rw [HE.out];clear e1
   go_enter Tryz.func120,Tryz.ntmps120
   go_wp2_with fail
   refine (namePart_any s _ hs).mono ?_
   rintro e w' ⟨rfl,rfl⟩
   rw [hp]
   go_wp2
   go_ret
   exact ⟨rfl,rfl⟩
  |false=>
   have e1:(s.data.toList==trueL)=false:=by rw [←str_true];exact ht
   cases hf:(s.toList==[102,97,108,115,101]) with
   |true=>
    have e2:(s.data.toList==falseL)=true:=by rw [←str_false];exact hf
    have HE:=Lib.hid (show (s.data.toList !=trueL&&s.data.toList !=falseL)=false by simp [bne,e1,e2])
    rw [HE.out];clear e1 e2
    go_enter Tryz.func120,Tryz.ntmps120
    go_wp2_with fail
    refine (namePart_any s _ hs).mono ?_
    rintro e w' ⟨rfl,rfl⟩
    rw [hp]
    go_wp2
    go_ret
    exact ⟨rfl,rfl⟩
   |false=>
    have e2:(s.data.toList==falseL)=false:=by rw [←str_false];exact hf
    have HE:=Lib.hid (show (s.data.toList !=trueL&&s.data.toList !=falseL)=true by simp [bne,e1,e2])
    rw [HE.out];clear e1 e2
    go_enter Tryz.func120,Tryz.ntmps120
    go_wp2_with fail
    refine (namePart_any s _ hs).mono ?_
    rintro e w' ⟨rfl,rfl⟩
    rw [hp]
    go_wp2
    go_ret
    exact ⟨rfl,rfl⟩
end Go.Proofs.YtegdjjjpoahamaaGreatDoor
