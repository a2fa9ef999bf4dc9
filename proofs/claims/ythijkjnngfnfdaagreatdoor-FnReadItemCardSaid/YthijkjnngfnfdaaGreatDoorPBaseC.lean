/-
  Several texts of the proof in one file: NamePlain, Bytes, NameI, NameV, BytesS, NameS, Plain, Texts, TextsSpec, Join, Has, NamP.
-/
import Derived.Test.YthijkjnngfnfdaaGreatDoorZz
import Derived.Lib.Bytealg
import Derived.Test.YthijkjnngfnfdaaGreatDoorRows
import Derived.WalkKit
import Derived.WalkSpells
import Derived.Lib.Hide
import Derived.BigQuiet
import Derived.Deep.QuietTactic
import Derived.Test.YthijkjnngfnfdaaGreatDoorPBaseA
import Derived.Below
set_option linter.unusedVariables false
set_option maxHeartbeats 2000000
namespace Go.Proofs.YthijkjnngfnfdaaGreatDoor
theorem o3 (b c:UInt8):((b.toNat:Int)==(c.toNat:Int))=(b==c):=by
 rw [Bool.eq_iff_iff,beq_iff_eq,beq_iff_eq]
 constructor
 ·intro h;exact UInt8.toNat_inj.mp (by omega)
 ·rintro rfl;rfl
def cA (n:Int):Bool:=decide (97≤n)&&decide (n≤122)
def cP (n:Int):Bool:=decide (48≤n)&&decide (n≤57)
def dH (n:Int):Bool:=cA n||cP n||(n==95)
def gh (l:List UInt8):Bool:=match l with
 |[]=>false
 |b::t=>cA (b.toNat:Int)&&(t.all (fun b=>dH (b.toNat:Int))&&decide (t.length<12))
def jN (n:Nat) (b:Int):Bool:= !cA b&&((n==0)||(!cP b&&(b !=95)))
def cB:Nat→List UInt8→Bool
 |n,[]=>decide (0<n)
 |n,b::t=>if (((b.toNat:Int)==46)&&decide (0<n))=true then cB 0 t else if jN n (b.toNat:Int)=true then false else if 12<n+1 then false else cB (n+1) t
def cN:List UInt8:=[116,114,117,101]
def bX:List UInt8:=[102,97,108,115,101]
def dn (l:List UInt8):Bool:=cB 0 l&&(l !=cN&&l !=bX)
theorem ab2 (l q:List UInt8): ∀n,cB n (l++46::q)=(cB n l&&cB 0 q):=by
 induction l with
 |nil=>
  intro n
  by_cases h:0<n
  ·simp [cB,h]
  ·obtain rfl:n=0:=by omega
   simp [cB,jN,cA]
 |cons b t ih=>
  intro n;simp only [List.cons_append,cB]
  split
  ·exact ih 0
  ·split
   ·rfl
   ·split
    ·rfl
    ·exact ih (n+1)
theorem ab3 (b:Int):jN 0 b= !cA b:=by simp [jN]
theorem ab4 (n:Nat) (b:Int) (h:n≠0):jN n b= !dH b:=by
 have hz:(n==0)=false:=by simpa using h
 simp only [jN,hz,dH,bne,Bool.false_or,Bool.not_or,Bool.and_assoc]
theorem we (p:List UInt8): ∀n,(46:UInt8)∉p→n≤12→cB n p=if n=0 then gh p else (p.all (fun b=>dH (b.toNat:Int))&&decide (n+p.length≤12)):=by
 induction p with
 |nil=>
  intro n _ hn
  by_cases h:n=0
  ·subst h;rfl
  ·rw [if_neg h];simp [cB];omega
 |cons b t ih=>
  intro n hd hn;simp only [List.mem_cons,not_or] at hd
  have hb:((b.toNat:Int)==46)=false:=by rw [show (46:Int)=((46:UInt8).toNat:Int) from rfl,o3,beq_eq_false_iff_ne];exact Ne.symm hd.1
  simp only [cB,hb,Bool.false_and,Bool.false_eq_true,if_false]
  by_cases h:n=0
  ·subst h
   rw [ab3,if_pos rfl];simp only [gh]
   cases hl:cA (b.toNat:Int)
   ·rfl
   ·simp only [Bool.not_true,Bool.false_eq_true,if_false,Bool.true_and]
    rw [if_neg (by omega),ih 1 hd.2 (by omega),if_neg (by omega)]
    congr 1
    rw [decide_eq_decide];omega
  ·rw [if_neg h,ab4 n _ h]
   simp only [List.all_cons,List.length_cons]
   cases dH (b.toNat:Int)
   ·simp
   ·simp only [Bool.not_true,Bool.false_eq_true,if_false,Bool.true_and]
    by_cases h12:12<n+1
    ·rw [if_pos h12,show decide (n+(t.length+1)≤12)=false by simp;omega,Bool.and_false]
    ·rw [if_neg h12,ih (n+1) hd.2 (by omega),if_neg (by omega)]
     congr 1
     rw [decide_eq_decide];omega
theorem jO (p:List UInt8) (h:(46:UInt8)∉p):cB 0 p=gh p:=by rw [we p 0 h (by omega),if_pos rfl]
theorem oi (l:List UInt8):gh l=(decide (1≤l.length)&&decide (l.length≤12)&&(match l with|[]=>false|b::_=>cA (b.toNat:Int))&&l.all (fun b=>dH (b.toNat:Int))):=by
 cases l with
 |nil=>rfl
 |cons b t=>
  cases hl:cA (b.toNat:Int)
  ·simp [gh,hl]
  ·have hp:dH (b.toNat:Int)=true:=by simp [dH,hl]
   simp only [gh,hl,hp,List.all_cons,List.length_cons,Bool.true_and,Bool.and_true]
   cases t.all (fun b=>dH (b.toNat:Int))
   ·simp
   ·simp;omega
open Go.RowKit
theorem aA (n:Int) (w:World) (_h0:0≤n) (_h1:n≤255):
  Calls Tryz.prog 147 #[.int .u8 n] w fun e w'=>e= .returned (.bool (cA n))∧w=w':=by
 by_cases a:97≤n
 ·by_cases b:n≤122
  ·have hp:cA n=true:=by simp [cA,a,b]
   rw [hp];clear hp
   go_enter Tryz.func147,Tryz.ntmps147
   go_wp2;go_ret;exact ⟨rfl,rfl⟩
  ·have hp:cA n=false:=by simp [cA,b]
   rw [hp];clear hp
   go_enter Tryz.func147,Tryz.ntmps147
   go_wp2;go_ret;exact ⟨rfl,rfl⟩
 ·have hp:cA n=false:=by simp [cA,a]
  rw [hp];clear hp
  go_enter Tryz.func147,Tryz.ntmps147
  go_wp2;go_ret;exact ⟨rfl,rfl⟩
theorem bc (n:Int) (w:World) (_h0:0≤n) (_h1:n≤255):
  Calls Tryz.prog 169 #[.int .u8 n] w fun e w'=>e= .returned (.bool (cP n))∧w=w':=by
 by_cases a:48≤n
 ·by_cases b:n≤57
  ·have hp:cP n=true:=by simp [cP,a,b]
   rw [hp];clear hp
   go_enter Tryz.func169,Tryz.ntmps169
   go_wp2;go_ret;exact ⟨rfl,rfl⟩
  ·have hp:cP n=false:=by simp [cP,b]
   rw [hp];clear hp
   go_enter Tryz.func169,Tryz.ntmps169
   go_wp2;go_ret;exact ⟨rfl,rfl⟩
 ·have hp:cP n=false:=by simp [cP,a]
  rw [hp];clear hp
  go_enter Tryz.func169,Tryz.ntmps169
  go_wp2;go_ret;exact ⟨rfl,rfl⟩
theorem fa (n:Int) (w:World) (h0:0≤n) (h1:n≤255):
  Calls Tryz.prog 140 #[.int .u8 n] w fun e w'=>e= .returned (.bool (dH n))∧w=w':=by
 cases hl:cA n with
 |true=>
  have HL:=aim hl;rw [show dH n=true by simp [dH,hl]];clear hl
  go_enter Tryz.func140,Tryz.ntmps140
  go_wp2_with fail;refine (aA n _ h0 h1).mono ?_;rintro e w' ⟨rfl,rfl⟩;rw [HL.out];go_wp2;go_ret;exact ⟨rfl,rfl⟩
 |false=>
  have HL:=aim hl
  cases hd:cP n with
  |true=>
   have HD:=aim hd;rw [show dH n=true by simp [dH,hd]];clear hl hd
   go_enter Tryz.func140,Tryz.ntmps140
   go_wp2_with fail;refine (aA n _ h0 h1).mono ?_;rintro e w' ⟨rfl,rfl⟩;rw [HL.out];go_wp2_with fail;refine (bc n _ h0 h1).mono ?_;rintro e w' ⟨rfl,rfl⟩;rw [HD.out];go_wp2;go_ret;exact ⟨rfl,rfl⟩
  |false=>
   have HD:=aim hd;have HP:=aim (show dH n=(n==95) by simp [dH,hl,hd]);clear hl hd
   go_enter Tryz.func140,Tryz.ntmps140
   go_wp2_with fail;refine (aA n _ h0 h1).mono ?_;rintro e w' ⟨rfl,rfl⟩;rw [HL.out];go_wp2_with fail;refine (bc n _ h0 h1).mono ?_;rintro e w' ⟨rfl,rfl⟩;rw [HD.out];go_wp2;go_ret;exact ⟨by rw [HP.out];rfl,rfl⟩
theorem lJ {a b:Bool} (h:a=b):Ending.returned (.bool a)= .returned (.bool b):=by rw [h]
theorem ab5 (s:ByteArray) (k:Nat) (h:k<s.size):s.data.toList.take (k+1)=s.data.toList.take k++[s[k]]:=by
 rw [List.take_succ_eq_append_getElem (by simpa using h)];rfl
theorem si {l:List UInt8} (h:l.length=0∨12<l.length):gh l=false:=by
 rw [oi]
 rcases h with h|h
 ·rw [decide_eq_false (show¬1≤l.length by omega)];rfl
 ·rw [decide_eq_false (show¬l.length≤12 by omega)];simp
theorem ql (s:ByteArray) (h:0<s.size): ∃t,s.data.toList=s[0]::t:=by
 have hl:0<s.data.toList.length:=by simpa using h
 refine ⟨s.data.toList.drop 1, ?_⟩;rw [show s[0]=s.data.toList[0] from rfl]
 conv=>lhs;rw [←List.drop_zero (l:=s.data.toList)]
 rw [List.drop_eq_getElem_cons hl]
theorem yI (s:ByteArray) (h:0<s.size) (hb:cA (s[0].toNat:Int)=false):gh s.data.toList=false:=by
 obtain ⟨t,e⟩:=ql s h;rw [e];simp [gh,hb]
theorem aeL (s:ByteArray) (h:0<s.size) (h12:s.size≤12) (hb:cA (s[0].toNat:Int)=true):gh s.data.toList=s.data.toList.all (fun b=>dH (b.toNat:Int)):=by
 have hl:s.data.toList.length=s.size:=by rw [Array.length_toList];rfl
 obtain ⟨t,e⟩:=ql s h;rw [e] at hl⊢
 have ht:t.length<12:=by simp only [List.length_cons] at hl;omega
 simp [gh,hb,ht,dH]
theorem dX (s:ByteArray) (w:World) (hs:s.size≤maxLen):
  Calls Tryz.prog 112 #[.string s] w fun e w'=>e= .returned (.bool (gh s.data.toList))∧w=w':=by
 unfold maxLen at hs
 have hlen:s.data.toList.length=s.size:=by rw [Array.length_toList];rfl
 by_cases h0:s.size=0
 ·rw [si (.inl (by omega))]
  have z1:((s.size:Int)==0)=true:=beq_iff_eq.mpr (by omega);clear h0 hlen
  go_enter Tryz.func112,Tryz.ntmps112
  go_wp2;go_ret;exact ⟨rfl,rfl⟩
 ·have z1:((s.size:Int)==0)=false:=beq_eq_false_iff_ne.mpr (by omega)
  by_cases h12:s.size≤12
  ·have z2:decide (12<(s.size:Int))=false:=decide_eq_false (by omega)
   have z3:0<s.size:=by omega
   have hb0:(s[0].toNat:Int)≤255:=by have:=s[0].toNat_lt;omega
   cases hl:cA (s[0].toNat:Int) with
   |false=>
    rw [yI s z3 hl];have HL:=aim hl;clear hl hlen h0
    go_enter Tryz.func112,Tryz.ntmps112
    go_wp2_with fail;refine (aA _ _ (by omega) (by omega)).mono ?_;rintro e w' ⟨rfl,rfl⟩;rw [HL.out];go_wp2;go_ret;exact ⟨rfl,rfl⟩
   |true=>
    have HA:=aim (aeL s z3 h12 hl);have HL:=aim hl;have HN:=aim hlen;clear hl hlen h0
    go_enter Tryz.func112,Tryz.ntmps112
    go_wp2_with fail;refine (aA _ _ (by omega) (by omega)).mono ?_;rintro e w' ⟨rfl,rfl⟩;rw [HL.out];go_wp2_with fail
    go_loop [3,20] (fun _ i=> ∃k:Nat,k≤s.size∧i= .int .i64 (k:Int)∧(s.data.toList.take k).all (fun b=>dH (b.toNat:Int))=true) (fun _ i=>s.size-(intOf i).toNat)
    case atStart=>exact ⟨0,air _,rfl,rfl⟩
    case round=>
     obtain ⟨k,hk,rfl,hok⟩:=hrel;have HK:=aim hok;clear hok
     by_cases hlt:k<s.size
     ·have hbk:(s[k].toNat:Int)≤255:=by have:=s[k].toNat_lt;omega
      cases hp:dH (s[k].toNat:Int) with
      |true=>
       have HP:=aim hp;clear hp;have HQ:=aim (show (s.data.toList.take (k+1)).all (fun b=>dH (b.toNat:Int))=true by rw [ab5 s k hlt,List.all_append,HK.out];simp [HP.out]);go_wp2_with fail;refine (fa _ _ (by omega) (by omega)).mono ?_;rintro e w' ⟨rfl,rfl⟩;rw [HP.out];go_wp2
       go_round
       case rel=>exact ⟨k+1,by omega,by go_num,HQ.out⟩
       case measure=>simp [intOf];omega
      |false=>
       have HP:=aim hp;clear hp
       have HQ:=aim (show s.data.toList.all (fun b=>dH (b.toNat:Int))=false by
        rw [List.all_eq_false]
        exact ⟨s[k],by show s.data.toList[k]∈_;exact List.getElem_mem _,by rw [HP.out];simp⟩)
       go_wp2_with fail;refine (fa _ _ (by omega) (by omega)).mono ?_;rintro e w' ⟨rfl,rfl⟩;rw [HP.out];go_wp2;go_ret;exact ⟨lJ (by rw [HA.out,HQ.out]),rfl⟩
     ·go_wp2
      go_ret;exact ⟨lJ (by rw [HA.out,←HK.out,List.take_of_length_le (by rw [HN.out];omega)]),rfl⟩
  ·rw [si (.inr (by omega))]
   have z2:decide (12<(s.size:Int))=true:=decide_eq_true (by omega);clear h0 hlen h12
   go_enter Tryz.func112,Tryz.ntmps112
   go_wp2;go_ret;exact ⟨rfl,rfl⟩
def strN:Value→Nat
 | .string s=>s.size
 |_=>0
def aeM:Value→Nat
 | .bool true=>1
 |_=>0
theorem zP (s:ByteArray) (c:UInt8):(fj s c).size≤s.size:=by
 unfold fj;split
 ·exact ain _
 ·simp [ByteArray.size_extract];omega
theorem zQ (s:ByteArray) (c:UInt8):(eV s c).size+aeM (.bool (gS s c))≤s.size∧(eV s c).size≤s.size:=by
 have hl:s.data.toList.length=s.size:=by rw [Array.length_toList];rfl
 have hi:=mT s.data.toList c;unfold eV gS
 by_cases h:Lib.indexByte s.data.toList c<0
 ·rw [if_pos h,decide_eq_true h]
  show (0:Nat)+0≤_∧(0:Nat)≤_
  omega
 ·rw [if_neg h,decide_eq_false h,ByteArray.size_extract]
  show _+1≤_∧_
  omega
theorem wg (s:ByteArray):cB 0 s.data.toList=(gh (fj s 46).data.toList&&(!gS s 46||cB 0 (eV s 46).data.toList)):=by
 have hl:s.data.toList.length=s.size:=by rw [Array.length_toList];rfl
 unfold fj eV gS
 rcases aaT s.data.toList 46 with ⟨h1,h2⟩|⟨k,h1,h2,h3,h4⟩
 ·rw [h1,if_pos (by omega),jO _ h2];simp
 ·rw [h1,if_neg (by omega),if_neg (by omega)]
  rw [show decide ((k:Int)<0)=false from decide_eq_false (by omega)]
  have e1:(s.extract 0 ((k:Int)).toNat).data.toList=s.data.toList.take k:=by simp [ByteArray.data_extract]
  have e2:(s.extract (((k:Int)).toNat+1) s.size).data.toList=s.data.toList.drop (k+1):=by
   simp [ByteArray.data_extract]
   exact List.take_of_length_le (by rw [List.length_drop];show _≤s.data.size-_;simp)
  rw [e1,e2]
  conv=>lhs;rw [h4,ab2,jO _ h3]
  simp
theorem nh (s:ByteArray):(s.toList==[116,114,117,101])=(s.data.toList==cN):=by rw [ByteArray.toList_eq];rfl
theorem lK (s:ByteArray):(s.toList==[102,97,108,115,101])=(s.data.toList==bX):=by rw [ByteArray.toList_eq];rfl
theorem qm (s:ByteArray) (w:World) (hs:s.size≤maxLen):
  Calls Tryz.prog 201 #[.string s] w fun e w'=>e= .returned (.bool (dn s.data.toList))∧Below w.heap.size w w':=by
 have HMX:=aim hs;unfold maxLen at hs
 cases ht:(s.toList==[116,114,117,101]) with
 |true=>
  have hn:dn s.data.toList=false:=by rw [nh] at ht;simp [dn,bne,ht]
  rw [hn];clear hn
  go_enter Tryz.func201,Tryz.ntmps201
  go_wp2;go_ret;exact ⟨rfl,Below.refl _ _⟩
 |false=>
  cases hf:(s.toList==[102,97,108,115,101]) with
  |true=>
   have hn:dn s.data.toList=false:=by rw [lK] at hf;simp [dn,bne,hf]
   rw [hn];clear hn
   go_enter Tryz.func201,Tryz.ntmps201
   go_wp2;go_ret;exact ⟨rfl,Below.refl _ _⟩
  |false=>
   have HN:=aim (show dn s.data.toList=cB 0 s.data.toList by
    rw [nh] at ht;rw [lK] at hf;simp [dn,bne,ht,hf])
   have HC:=aim (wg s);have hz1:=zP s 46;have hz2:=(zQ s 46).2
   go_enter Tryz.func201,Tryz.ntmps201
   go_wp2_with fail;refine (gz s 46 _ HMX.out).mono ?_;rintro e w1 ⟨rfl,hb1⟩;have HB1:=aim hb1;clear hb1;go_wp2_with fail
   go_loopw [3,4,5] (fun p r m wr=> ∃(a b:ByteArray) (c:Bool),p= .string a∧r= .string b∧m= .bool c∧a.size≤s.size∧b.size≤s.size∧cB 0 s.data.toList=(gh a.data.toList&&(!c||cB 0 b.data.toList))∧Below w.heap.size w wr) (fun _ r m _=>strN r+aeM m)
   case atStart=>exact ⟨_,_,_,rfl,rfl,rfl,hz1,hz2,HC.out,HB1.out⟩
   case round=>
    obtain ⟨a,b,c,rfl,rfl,rfl,ha,hb,hn,hbel⟩:=hrel;have HX:=aim hn;have HB:=aim hbel;clear hn hbel
    cases c with
    |false=>
     go_wp2_with fail;refine (dX a _ (by unfold maxLen;omega)).mono ?_;rintro e w' ⟨rfl,rfl⟩;go_wp2;go_ret;exact ⟨lJ (by rw [HN.out,HX.out];simp),HB.out⟩
    |true=>
     cases hp:gh a.data.toList with
     |false=>
      have HP:=aim hp;clear hp;go_wp2_with fail;refine (dX a _ (by unfold maxLen;omega)).mono ?_;rintro e w' ⟨rfl,rfl⟩;rw [HP.out];go_wp2_with fail;refine (dX a _ (by unfold maxLen;omega)).mono ?_;rintro e w' ⟨rfl,rfl⟩;rw [HP.out];go_wp2;go_ret;exact ⟨lJ (by rw [HN.out,HX.out,HP.out];rfl),HB.out⟩
     |true=>
      have HP:=aim hp;clear hp;have q1:=zP b 46;have q2:=zQ b 46;go_wp2_with fail;refine (dX a _ (by unfold maxLen;omega)).mono ?_;rintro e w' ⟨rfl,rfl⟩;rw [HP.out];go_wp2_with fail;refine (gz b 46 _ (by unfold maxLen;omega)).mono ?_;rintro e w2 ⟨rfl,hb2⟩;have HB2:=aim (HB.out.trans (hb2.mono HB.out.size));clear hb2;go_wp2;go_roundw
      case rel=>exact ⟨_,_,_,rfl,rfl,rfl,by omega,by omega,by rw [HX.out,HP.out,wg b];simp,HB2.out⟩
      case measure=>
       show (eV b 46).size+aeM (.bool (gS b 46))<b.size+1
       omega
theorem bm (n:Int) (w:World) (_h0:0≤n) (_h1:n≤255):
  Calls Tryz.prog 55 #[.int .u8 n] w fun e w'=>e= .returned (.bool (cA n))∧w=w':=by
 by_cases a:97≤n
 ·by_cases b:n≤122
  ·have hp:cA n=true:=by simp [cA,a,b]
   rw [hp];clear hp
   go_enter Tryz.func55,Tryz.ntmps55
   go_wp2;go_ret;exact ⟨rfl,rfl⟩
  ·have hp:cA n=false:=by simp [cA,b]
   rw [hp];clear hp
   go_enter Tryz.func55,Tryz.ntmps55
   go_wp2;go_ret;exact ⟨rfl,rfl⟩
 ·have hp:cA n=false:=by simp [cA,a]
  rw [hp];clear hp
  go_enter Tryz.func55,Tryz.ntmps55
  go_wp2;go_ret;exact ⟨rfl,rfl⟩
theorem bH (n:Int) (w:World) (_h0:0≤n) (_h1:n≤255):
  Calls Tryz.prog 56 #[.int .u8 n] w fun e w'=>e= .returned (.bool (cP n))∧w=w':=by
 by_cases a:48≤n
 ·by_cases b:n≤57
  ·have hp:cP n=true:=by simp [cP,a,b]
   rw [hp];clear hp
   go_enter Tryz.func56,Tryz.ntmps56
   go_wp2;go_ret;exact ⟨rfl,rfl⟩
  ·have hp:cP n=false:=by simp [cP,b]
   rw [hp];clear hp
   go_enter Tryz.func56,Tryz.ntmps56
   go_wp2;go_ret;exact ⟨rfl,rfl⟩
 ·have hp:cP n=false:=by simp [cP,a]
  rw [hp];clear hp
  go_enter Tryz.func56,Tryz.ntmps56
  go_wp2;go_ret;exact ⟨rfl,rfl⟩
theorem fM {a b:Bool} (h:a=b):Ending.returned (.bool a)= .returned (.bool b):=by rw [h]
theorem sj (s:ByteArray) (k:Nat) (h:k<s.size):s.data.toList.drop k=s[k]::s.data.toList.drop (k+1):=by
 rw [List.drop_eq_getElem_cons (by simpa using h)];rfl
theorem ab6 (s:ByteArray):(s.toList==[116,114,117,101])=(s.data.toList==cN):=by rw [ByteArray.toList_eq];rfl
theorem yJ (s:ByteArray):(s.toList==[102,97,108,115,101])=(s.data.toList==bX):=by rw [ByteArray.toList_eq];rfl
theorem yK (s:ByteArray) (k n:Nat) (h:k<s.size) (h1:((s[k].toNat:Int)==46)=true) (h2:0<n):cB n (s.data.toList.drop k)=cB 0 (s.data.toList.drop (k+1)):=by
 rw [sj s k h,cB,if_pos (by rw [h1,decide_eq_true h2];rfl)]
theorem aeN (s:ByteArray) (k n:Nat) (h:k<s.size) (h1: ¬(((s[k].toNat:Int)==46)=true∧0<n)):cB n (s.data.toList.drop k)=if jN n (s[k].toNat:Int)=true then false else if 12<n+1 then false else cB (n+1) (s.data.toList.drop (k+1)):=by
 rw [sj s k h,cB,if_neg (by simpa using h1)]
theorem cW (s:ByteArray) (w:World) (hs:s.size≤maxLen):
  Calls Tryz.prog 91 #[.string s] w fun e w'=>e= .returned (.bool (dn s.data.toList))∧w=w':=by
 unfold maxLen at hs
 have hlen:s.data.toList.length=s.size:=by rw [Array.length_toList];rfl
 have HLEN:=aim hlen;clear hlen
 go_enter Tryz.func91,Tryz.ntmps91
 go_wp2
 go_loop [3,4] (fun z i=> ∃k n:Nat,k≤s.size∧n≤12∧i= .int .i64 (k:Int)∧z= .int .i64 (n:Int)∧cB n (s.data.toList.drop k)=cB 0 s.data.toList) (fun _ i=>s.size-(intOf i).toNat)
 case atStart=>exact ⟨0,0,air _,by omega,rfl,rfl,rfl⟩
 case round=>
  obtain ⟨k,n,hk,hn12,rfl,rfl,hr⟩:=hrel;have HR:=aim hr;clear hr
  by_cases hlt:k<s.size
  ·have hbk:(s[k].toNat:Int)≤255:=by have:=s[k].toNat_lt;omega
   by_cases hd:((s[k].toNat:Int)==46)=true∧0<n
   ·obtain ⟨d1,d2⟩:=hd
    have HQ:=aim (yK s k n hlt d1 d2);have d3:decide (0<(n:Int))=true:=decide_eq_true (by omega);go_wp2
    go_round
    case rel=>exact ⟨k+1,0,by omega,by omega,by go_num,rfl,by rw [←HQ.out];exact HR.out⟩
    case measure=>simp [intOf];omega
   ·have HQ:=aim (aeN s k n hlt hd)
    have HBN:=aim (show jN n (s[k].toNat:Int)=(!cA (s[k].toNat:Int)&&((n==0)||(!cP (s[k].toNat:Int)&&((s[k].toNat:Int) !=95)))) from rfl)
    have hff:cB 0 s.data.toList=false→dn s.data.toList=false:=fun h=>by simp [dn,h]
    have HFF:=aim hff;clear hff
    cases hl:cA (s[k].toNat:Int) with
    |true=>
     have HL:=aim hl;have HBF:=aim (show jN n (s[k].toNat:Int)=false by rw [HBN.out,hl];rfl);clear hl
     by_cases h46:((s[k].toNat:Int)==46)=true
     ·have hn0: ¬0<n:=fun h=>hd ⟨h46,h⟩
      have d3:decide (0<(n:Int))=false:=decide_eq_false (by omega);have d5:decide (0<n)=false:=decide_eq_false (by omega)
      exfalso
      rw [beq_iff_eq] at h46;have:=HL.out;rw [h46] at this
      simp [cA] at this
     ·have h46':=Bool.eq_false_iff.mpr h46
      clear h46 hd;go_wp2_with fail;refine (bm _ _ (by omega) (by omega)).mono ?_;rintro e w' ⟨rfl,rfl⟩;rw [HL.out]
      by_cases h12:12<n+1
      ·have HZ:=aim (HFF.out (by rw [←HR.out,HQ.out,HBF.out,if_pos h12];rfl))
       go_wp2;go_ret;exact ⟨fM HZ.out.symm,rfl⟩
      ·have HZ:=aim (show cB (n+1) (s.data.toList.drop (k+1))=cB 0 s.data.toList by rw [←HR.out,HQ.out,HBF.out,if_neg h12];rfl)
       go_wp2
       go_round
       case rel=>exact ⟨k+1,n+1,by omega,by omega,by go_num,by go_num,HZ.out⟩
       case measure=>simp [intOf];omega
    |false=>
     have HL:=aim hl;clear hl
     by_cases hn0:n=0
     ·have HBF:=aim (show jN n (s[k].toNat:Int)=true by rw [HBN.out,HL.out,hn0];rfl)
      have HZ:=aim (HFF.out (by rw [←HR.out,HQ.out,HBF.out];rfl));have d3:decide (0<(n:Int))=false:=decide_eq_false (by omega);have d5:decide (0<n)=false:=decide_eq_false (by omega);have d4:((n:Int)==0)=true:=beq_iff_eq.mpr (by omega);clear hd hn0
      cases h46:((s[k].toNat:Int)==46)
      all_goals
       go_wp2_with fail;refine (bm _ _ (by omega) (by omega)).mono ?_;rintro e w' ⟨rfl,rfl⟩;rw [HL.out];go_wp2;go_ret;exact ⟨fM HZ.out.symm,rfl⟩
     ·have h46:((s[k].toNat:Int)==46)=false:=Bool.eq_false_iff.mpr (fun h=>hd ⟨h,by omega⟩)
      have d4:((n:Int)==0)=false:=beq_eq_false_iff_ne.mpr (by omega);have hz0:(n==0)=false:=beq_eq_false_iff_ne.mpr hn0;have HNB:=aim (show jN n (s[k].toNat:Int)=(!cP (s[k].toNat:Int)&&((s[k].toNat:Int) !=95)) by rw [HBN.out,HL.out,hz0];rfl);clear hd hn0 hz0
      cases hdg:cP (s[k].toNat:Int) with
      |true=>
       have HD:=aim hdg;clear hdg;have HBF:=aim (show jN n (s[k].toNat:Int)=false by rw [HNB.out,HD.out];rfl);go_wp2_with fail;refine (bm _ _ (by omega) (by omega)).mono ?_;rintro e w' ⟨rfl,rfl⟩;rw [HL.out];go_wp2_with fail;refine (bH _ _ (by omega) (by omega)).mono ?_;rintro e w' ⟨rfl,rfl⟩;rw [HD.out]
       by_cases h12:12<n+1
       ·have HZ:=aim (HFF.out (by rw [←HR.out,HQ.out,HBF.out,if_pos h12];rfl))
        go_wp2;go_ret;exact ⟨fM HZ.out.symm,rfl⟩
       ·have HZ:=aim (show cB (n+1) (s.data.toList.drop (k+1))=cB 0 s.data.toList by rw [←HR.out,HQ.out,HBF.out,if_neg h12];rfl)
        go_wp2
        go_round
        case rel=>exact ⟨k+1,n+1,by omega,by omega,by go_num,by go_num,HZ.out⟩
        case measure=>simp [intOf];omega
      |false=>
       have HD:=aim hdg;clear hdg;have HB3:=aim (show jN n (s[k].toNat:Int)=((s[k].toNat:Int) !=95) by rw [HNB.out,HD.out];rfl)
       cases h95:((s[k].toNat:Int) !=95) with
       |true=>
        have HZ:=aim (HFF.out (by rw [←HR.out,HQ.out,HB3.out,h95];rfl));go_wp2_with fail;refine (bm _ _ (by omega) (by omega)).mono ?_;rintro e w' ⟨rfl,rfl⟩;rw [HL.out];go_wp2_with fail;refine (bH _ _ (by omega) (by omega)).mono ?_;rintro e w' ⟨rfl,rfl⟩;rw [HD.out];go_wp2;go_ret;exact ⟨fM HZ.out.symm,rfl⟩
       |false=>
        have HBF:=aim (show jN n (s[k].toNat:Int)=false by rw [HB3.out,h95]);go_wp2_with fail;refine (bm _ _ (by omega) (by omega)).mono ?_;rintro e w' ⟨rfl,rfl⟩;rw [HL.out];go_wp2_with fail;refine (bH _ _ (by omega) (by omega)).mono ?_;rintro e w' ⟨rfl,rfl⟩;rw [HD.out]
        by_cases h12:12<n+1
        ·have HZ:=aim (HFF.out (by rw [←HR.out,HQ.out,HBF.out,if_pos h12];rfl))
         go_wp2;go_ret;exact ⟨fM HZ.out.symm,rfl⟩
        ·have HZ:=aim (show cB (n+1) (s.data.toList.drop (k+1))=cB 0 s.data.toList by rw [←HR.out,HQ.out,HBF.out,if_neg h12];rfl)
         go_wp2
         go_round
         case rel=>exact ⟨k+1,n+1,by omega,by omega,by go_num,by go_num,HZ.out⟩
         case measure=>simp [intOf];omega
  ·have HE:=aim (show cB 0 s.data.toList=decide (0<n) by rw [←HR.out,List.drop_eq_nil_of_le (by rw [HLEN.out];omega),cB])
   have HNL:=aim (show dn s.data.toList=(decide (0<n)&&((!(s.toList==[116,114,117,101]))&&(!(s.toList==[102,97,108,115,101])))) by rw [ab6,yJ,dn,HE.out];rfl)
   by_cases hn0:0<n
   ·have d3:decide (0<(n:Int))=true:=decide_eq_true (by omega)
    have HN1:=aim (show decide (0<n)=true from decide_eq_true hn0)
    cases ht:(s.toList==[116,114,117,101]) with
    |true=>
     go_wp2;go_ret;exact ⟨fM (by rw [HNL.out,HN1.out,ht];rfl),rfl⟩
    |false=>
     cases hf:(s.toList==[102,97,108,115,101])
     all_goals
      go_wp2;go_ret;exact ⟨fM (by rw [HNL.out,HN1.out,ht,hf];rfl),rfl⟩
   ·have d3:decide (0<(n:Int))=false:=decide_eq_false (by omega)
    have d5:decide (0<n)=false:=decide_eq_false (by omega);have HN1:=aim (show decide (0<n)=false from decide_eq_false hn0);go_wp2;go_ret;exact ⟨fM (by rw [HNL.out,HN1.out];rfl),rfl⟩
def cC (n:Int):Bool:=decide (32≤n)&&decide (n≤126)
def okI (n:Int):Bool:=(n==10)||cC n
def okL (l:List UInt8):Bool:=l.all fun b=>okI (b.toNat:Int)
def aT (s:ByteArray):Bool:=decide (s.size≤20000)&&okL s.data.toList
theorem fb (s:ByteArray) (k:Nat) (h:k<s.size):s.data.toList.take (k+1)=s.data.toList.take k++[s[k]]:=by
 rw [List.take_succ_eq_append_getElem (by simpa using h)];rfl
theorem qn (l:List UInt8) (b:UInt8):okL (l++[b])=(okL l&&okI (b.toNat:Int)):=by
 simp [okL]
theorem qo (l:List UInt8) (k:Nat) (h:okL (l.take k)=false):okL l=false:=by
 simp only [okL,List.all_eq_false] at h⊢;obtain ⟨x,hx,hn⟩:=h;exact ⟨x,List.mem_of_mem_take hx,hn⟩
theorem ahE (s:ByteArray) (k:Nat) (h:k<s.size) (hb:okI (s[k].toNat:Int)=false):okL s.data.toList=false:=by
 apply qo _ (k+1)
 rw [fb s k h,qn,hb,Bool.and_false]
theorem gF (n:Int) (w:World) (_h0:0≤n) (_h1:n≤255):
  Calls Tryz.prog 95 #[.int .u8 n] w fun e w'=>e= .returned (.bool (cC n))∧w=w':=by
 by_cases a:32≤n
 ·by_cases b:n≤126
  ·have hp:cC n=true:=by simp [cC,a,b]
   rw [hp];clear hp
   go_enter Tryz.func95,Tryz.ntmps95
   go_wp2;go_ret;exact ⟨rfl,rfl⟩
  ·have hp:cC n=false:=by simp [cC,b]
   rw [hp];clear hp
   go_enter Tryz.func95,Tryz.ntmps95
   go_wp2;go_ret;exact ⟨rfl,rfl⟩
 ·have hp:cC n=false:=by simp [cC,a]
  rw [hp];clear hp
  go_enter Tryz.func95,Tryz.ntmps95
  go_wp2;go_ret;exact ⟨rfl,rfl⟩
def inI (n lo hi:Int):Bool:=decide (lo≤n)&&decide (n≤hi)
theorem eh (n lo hi:Int) (w:World):
  Calls Tryz.prog 44 #[.int .i64 n, .int .i64 lo, .int .i64 hi] w fun e w'=>e= .returned (.bool (inI n lo hi))∧w=w':=by
 by_cases a:lo≤n
 ·by_cases b:n≤hi
  ·have hp:inI n lo hi=true:=by simp [inI,a,b]
   rw [hp];clear hp
   go_enter Tryz.func44,Tryz.ntmps44
   go_wp2;go_ret;exact ⟨rfl,rfl⟩
  ·have hp:inI n lo hi=false:=by simp [inI,b]
   rw [hp];clear hp
   go_enter Tryz.func44,Tryz.ntmps44
   go_wp2;go_ret;exact ⟨rfl,rfl⟩
 ·have hp:inI n lo hi=false:=by simp [inI,a]
  rw [hp];clear hp
  go_enter Tryz.func44,Tryz.ntmps44
  go_wp2;go_ret;exact ⟨rfl,rfl⟩
theorem tB {n:Int} (h:n=10):okI n=true:=by subst h;rfl
theorem zR {n:Int} (h:(n !=10)=true∧(!cC n)=true):okI n=false:=by
 obtain ⟨a,b⟩:=h;simp only [bne_iff_ne,ne_eq,Bool.not_eq_true'] at a b
 simp [okI,a,b]
theorem wh {n:Int} (h:(n !=10)=false∨(!cC n)=false):okI n=true:=by
 rcases h with h|h
 ·simp only [bne_eq_false_iff_eq] at h;exact tB h
 ·simp only [Bool.not_eq_false'] at h;simp [okI,h]
theorem aeO {n:Int} (h:(n !=10)=true∧(!inI n 32 126)=true):okI n=false:=zR h
theorem ab7 {n:Int} (h:(n !=10)=false∨(!inI n 32 126)=false):okI n=true:=wh h
theorem sk (s:ByteArray) (k:Nat) (hk:k<s.size) (h:okI (s[k].toNat:Int)=false):aT s=false:=by
 simp [aT,ahE s k hk h]
theorem yL (s:ByteArray) (hl:s.size≤20000) (k:Nat) (hk: ¬k<s.size) (h:okL (s.data.toList.take k)=true):aT s=true:=by
 rw [List.take_of_length_le (by simp;omega)] at h
 simp [aT,hl,h]
theorem yM (s:ByteArray) (hl: ¬s.size≤20000):aT s=false:=by simp [aT,hl]
theorem ab8 (s:ByteArray) (k:Nat) (hk: ¬k<s.size) (h:okL (s.data.toList.take k)=true):aT s=decide ((s.size:Int)≤20000):=by
 rw [List.take_of_length_le (by simp;omega)] at h;rw [aT,h,Bool.and_true]
 by_cases a:s.size≤20000
 ·simp [a];omega
 ·simp [a];omega
theorem ni (s:ByteArray) (k:Nat) (hk:k<s.size) (h:okL (s.data.toList.take k)=true) (hb:okI (s[k].toNat:Int)=true):okL (s.data.toList.take (k+1))=true:=by
 rw [fb s k hk,qn,h,hb];rfl
theorem f8 {a b:Bool} (h:a=b):Ending.returned (.bool a)= .returned (.bool b):=by rw [h]
theorem cI (s:ByteArray) (w:World) (hs:s.size≤maxLen):
  Calls Tryz.prog 49 #[.string s] w fun e w'=>e= .returned (.bool (aT s))∧w=w':=by
 unfold maxLen at hs
 by_cases hlen:s.size≤20000
 ·go_enter Tryz.func49,Tryz.ntmps49
  go_wp2
  go_loop [3,9] (fun _ i=> ∃k:Nat,k≤s.size∧i= .int .i64 k∧okL (s.data.toList.take k)=true) (fun _ i=>s.size-(intOf i).toNat)
  case atStart=>exact ⟨0,air _,rfl,rfl⟩
  case round=>
   obtain ⟨k,hk,rfl,hok⟩:=hrel;have HK:=aim hok;clear hok
   by_cases hlt:k<s.size
   ·have hb0:(s[k].toNat:Int)≤255:=by have:=s[k].toNat_lt;omega
    go_wp2_with (go_at_call 95;refine (gF _ _ (by omega) (by omega)).mono ?_;rintro e w' ⟨rfl,rfl⟩)
    ·go_round
     case rel=>exact ⟨k+1,by omega,by go_num,ni s k hlt HK.out (tB (by assumption))⟩
     case measure=>simp [intOf];omega
    ·go_ret
     exact ⟨f8 (sk s k hlt (zR (by assumption))).symm,rfl⟩
    ·go_round
     case rel=>exact ⟨k+1,by omega,by go_num,ni s k hlt HK.out (wh (by assumption))⟩
     case measure=>simp [intOf];omega
   ·go_wp2
    go_ret;exact ⟨f8 (yL s hlen k hlt HK.out).symm,rfl⟩
 ·rw [yM s hlen]
  go_enter Tryz.func49,Tryz.ntmps49
  go_wp2;go_ret;exact ⟨rfl,rfl⟩
theorem aR (s:ByteArray) (w:World) (hs:s.size≤maxLen):
  Calls Tryz.prog 71 #[.string s] w fun e w'=>e= .returned (.bool (aT s))∧w=w':=by
 unfold maxLen at hs
 go_enter Tryz.func71,Tryz.ntmps71
 go_wp2
 go_loop [3] (fun i=> ∃k:Nat,k≤s.size∧i= .int .i64 k∧okL (s.data.toList.take k)=true) (fun i=>s.size-(intOf i).toNat)
 case atStart=>exact ⟨0,air _,rfl,rfl⟩
 case round=>
  obtain ⟨k,hk,rfl,hok⟩:=hrel;have HK:=aim hok;clear hok
  by_cases hlt:k<s.size
  ·have hb0:(s[k].toNat:Int)≤255:=by have:=s[k].toNat_lt;omega
   go_wp2_with (go_at_call 44;refine (eh _ _ _ _).mono ?_;rintro e w' ⟨rfl,rfl⟩)
   ·go_round
    case rel=>exact ⟨k+1,by omega,by go_num,ni s k hlt HK.out (tB (by assumption))⟩
    case measure=>simp [intOf];omega
   ·go_ret
    exact ⟨f8 (sk s k hlt (aeO (by assumption))).symm,rfl⟩
   ·go_round
    case rel=>exact ⟨k+1,by omega,by go_num,ni s k hlt HK.out (ab7 (by assumption))⟩
    case measure=>simp [intOf];omega
  ·go_wp2
   go_ret;exact ⟨f8 (ab8 s k hlt HK.out).symm,rfl⟩
def aI (l:List UInt8):Bool:=l.all fun b=>cC (b.toNat:Int)
def eH (l:List UInt8) (n:Int):Bool:=l.any fun b=>(b.toNat:Int)==n
def eM (L:List ByteArray) (k:Nat):ByteArray:=(L[k]?).getD ByteArray.empty
def b8 (L:List ByteArray):Nat→ByteArray
 |0=>ByteArray.empty
 |k+1=>b8 L k++eM L k++⟨#[10]⟩
def jP (L:List ByteArray) (k:Nat):Bool:=aI (eM L k).data.toList&&decide ((b8 L k).size+(eM L k).size+1≤20000)
def f9 (L:List ByteArray):Bool:=(List.range L.length).all (jP L)
def gR (L:List ByteArray):ByteArray:=if f9 L=true then b8 L L.length else ByteArray.empty
theorem oH (l:List UInt8) (b:UInt8):aI (l++[b])=(aI l&&cC (b.toNat:Int)):=by simp [aI]
theorem sm (l:List UInt8) (b:UInt8) (n:Int):eH (l++[b]) n=(eH l n||(b.toNat:Int)==n):=by simp [eH]
theorem yN (s:ByteArray) (k:Nat) (h:k<s.size) (hb:cC (s[k].toNat:Int)=false):aI s.data.toList=false:=by
 have h1:aI (s.data.toList.take (k+1))=false:=by rw [fb s k h,oH,hb,Bool.and_false]
 simp only [aI,List.all_eq_false] at h1⊢;obtain ⟨x,hx,hn⟩:=h1;exact ⟨x,List.mem_of_mem_take hx,hn⟩
theorem wi (s:ByteArray) (k:Nat) (hk:k<s.size) (h:aI (s.data.toList.take k)=true) (hb:cC (s[k].toNat:Int)=true):aI (s.data.toList.take (k+1))=true:=by
 rw [fb s k hk,oH,h,hb];rfl
theorem ab9 (s:ByteArray) (k:Nat) (n:Int) (h:k<s.size) (hb:((s[k].toNat:Int)==n)=true):eH s.data.toList n=true:=by
 have h1:eH (s.data.toList.take (k+1)) n=true:=by rw [fb s k h,sm,hb,Bool.or_true]
 simp only [eH,List.any_eq_true] at h1⊢;obtain ⟨x,hx,hn⟩:=h1;exact ⟨x,List.mem_of_mem_take hx,hn⟩
theorem aca (s:ByteArray) (k:Nat) (n:Int) (hk:k<s.size) (h:eH (s.data.toList.take k) n=false) (hb:((s[k].toNat:Int)==n)=false):eH (s.data.toList.take (k+1)) n=false:=by
 rw [fb s k hk,sm,h,hb];rfl
theorem jr (l:List UInt8):aI l=(okL l&& !eH l 10):=by
 induction l with
 |nil=>rfl
 |cons b l ih=>
  have e1:aI (b::l)=(cC (b.toNat:Int)&&aI l):=rfl;have e2:okL (b::l)=(okI (b.toNat:Int)&&okL l):=rfl;have e3:eH (b::l) 10=(((b.toNat:Int)==10)||eH l 10):=rfl;rw [e1,e2,e3,ih]
  by_cases h10:(b.toNat:Int)=10
  ·have:cC 10=false:=rfl
   simp [this,h10]
  ·have hb:((b.toNat:Int)==10)=false:=by simpa using h10
   simp only [okI,hb,Bool.false_or]
   cases cC (b.toNat:Int)<;>simp
theorem gU (L:List ByteArray) (k:Nat):(b8 L (k+1)).size=(b8 L k).size+(eM L k).size+1:=by
 show (b8 L k++eM L k++⟨#[10]⟩).size=_
 rw [ByteArray.size_append,ByteArray.size_append];rfl
theorem yO (L:List ByteArray) (k:Nat) (hk:k<L.length) (h:jP L k=false):f9 L=false:=by
 simp only [f9,List.all_eq_false];exact ⟨k,List.mem_range.2 hk,by simp [h]⟩
theorem oI (L:List ByteArray) (h: ∀j,j<L.length→jP L j=true):f9 L=true:=by
 simp only [f9,List.all_eq_true];intro j hj;exact h j (List.mem_range.1 hj)
theorem aeP (L:List ByteArray) (k:Nat) (h: ∀j,j<k→jP L j=true):(b8 L k).size≤20000:=by
 cases k with
 |zero=>show (0:Nat)≤20000;omega
 |succ k=>
  rw [gU];have:=h k (by omega);simp only [jP,Bool.and_eq_true,decide_eq_true_eq] at this;exact this.2
theorem fc (s:ByteArray) (n:Int) (w:World) (hs:s.size≤maxLen) (h0:0≤n) (h1:n≤255):
  Calls Tryz.prog 90 #[.string s, .int .u8 n] w fun e w'=>e= .returned (.bool (eH s.data.toList n))∧w=w':=by
 unfold maxLen at hs
 go_enter Tryz.func90,Tryz.ntmps90
 go_wp2
 go_loop [5] (fun i=> ∃k:Nat,k≤s.size∧i= .int .i64 k∧eH (s.data.toList.take k) n=false) (fun i=>s.size-(intOf i).toNat)
 case atStart=>exact ⟨0,air _,rfl,rfl⟩
 case round=>
  obtain ⟨k,hk,rfl,hok⟩:=hrel;have HK:=aim hok;clear hok
  by_cases hlt:k<s.size
  ·by_cases he:((s[k].toNat:Int)==n)=true
   ·have HE:=aim (ab9 s k n hlt he)
    go_wp2;go_ret;exact ⟨f8 HE.out.symm,rfl⟩
   ·have he':((s[k].toNat:Int)==n)=false:=by simpa using he
    have HE:=aim (aca s k n hlt HK.out he');clear he;go_wp2
    go_round
    case rel=>exact ⟨k+1,by omega,by go_num,HE.out⟩
    case measure=>simp [intOf];omega
  ·go_wp2
   go_ret;have:=HK.out;rw [List.take_of_length_le (by simp;omega)] at this;exact ⟨f8 this.symm,rfl⟩
def gi (s:ByteArray):Bool:=dn s.data.toList&& !eH s.data.toList 46
theorem zS (l:List UInt8):eH l 46=true↔(46:UInt8)∈l:=by
 unfold eH;rw [List.any_eq_true]
 constructor
 ·rintro ⟨b,hb,h⟩
  rw [show (46:Int)=((46:UInt8).toNat:Int) from rfl,o3,beq_iff_eq] at h;rw [←h];exact hb
 ·intro h;exact ⟨46,h,rfl⟩
theorem acb (l:List UInt8):(dn l&& !eH l 46)=(gh l&&(l !=cN&&l !=bX)):=by
 by_cases h:(46:UInt8)∈l
 ·rw [(zS l).mpr h]
  have:gh l=false:=by
   rw [oi]
   have:l.all (fun b=>dH (b.toNat:Int))=false:=by
    rw [List.all_eq_false];exact ⟨46,h,by decide⟩
   rw [this,Bool.and_false]
  rw [this];simp
 ·have hh:eH l 46=false:=by rw [Bool.eq_false_iff];exact fun k=>h ((zS l).mp k)
  rw [hh,Bool.not_false,Bool.and_true];unfold dn;rw [jO l h]
theorem dB (s:ByteArray) (w:World) (hs:s.size≤maxLen):
  Calls Tryz.prog 60 #[.string s] w fun e w'=>e= .returned (.bool (gi s))∧w=w':=by
 have HP:=aim (acb s.data.toList);unfold gi;rw [HP.out]
 cases hp:gh s.data.toList with
 |false=>
  go_enter Tryz.func60,Tryz.ntmps60
  go_wp2_with fail;refine (dX s _ hs).mono ?_;rintro e w' ⟨rfl,rfl⟩;rw [hp];go_wp2;go_ret;exact ⟨rfl,rfl⟩
 |true=>
  cases ht:(s.toList==[116,114,117,101]) with
  |true=>
   have e1:(s.data.toList==cN)=true:=by rw [←nh];exact ht
   have HE:=aim (show (s.data.toList !=cN&&s.data.toList !=bX)=false by simp [bne,e1]);rw [HE.out];clear e1
   go_enter Tryz.func60,Tryz.ntmps60
   go_wp2_with fail;refine (dX s _ hs).mono ?_;rintro e w' ⟨rfl,rfl⟩;rw [hp];go_wp2;go_ret;exact ⟨rfl,rfl⟩
  |false=>
   have e1:(s.data.toList==cN)=false:=by rw [←nh];exact ht
   cases hf:(s.toList==[102,97,108,115,101]) with
   |true=>
    have e2:(s.data.toList==bX)=true:=by rw [←lK];exact hf
    have HE:=aim (show (s.data.toList !=cN&&s.data.toList !=bX)=false by simp [bne,e1,e2]);rw [HE.out];clear e1 e2
    go_enter Tryz.func60,Tryz.ntmps60
    go_wp2_with fail;refine (dX s _ hs).mono ?_;rintro e w' ⟨rfl,rfl⟩;rw [hp];go_wp2;go_ret;exact ⟨rfl,rfl⟩
   |false=>
    have e2:(s.data.toList==bX)=false:=by rw [←lK];exact hf
    have HE:=aim (show (s.data.toList !=cN&&s.data.toList !=bX)=true by simp [bne,e1,e2]);rw [HE.out];clear e1 e2
    go_enter Tryz.func60,Tryz.ntmps60
    go_wp2_with fail;refine (dX s _ hs).mono ?_;rintro e w' ⟨rfl,rfl⟩;rw [hp];go_wp2;go_ret;exact ⟨rfl,rfl⟩
end Go.Proofs.YthijkjnngfnfdaaGreatDoor
