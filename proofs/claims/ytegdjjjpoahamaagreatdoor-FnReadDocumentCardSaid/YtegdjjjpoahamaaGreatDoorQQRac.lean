/-
  Part of the proof of FnReadDocument.
-/
import Derived.Test.YtegdjjjpoahamaaGreatDoorQQRab
import Derived.Lib.Bytealg
import Derived.WalkKit
import Derived.WalkSpells
import Derived.Lib.Hide
import Derived.BigQuiet
import Derived.Deep.QuietTactic
import Derived.Below
set_option linter.unusedVariables false
set_option maxHeartbeats 2000000
namespace Go.Proofs.YtegdjjjpoahamaaGreatDoor
theorem nf (b c:UInt8):((b.toNat:Int)==(c.toNat:Int))=(b==c):=by
 rw [Bool.eq_iff_iff,beq_iff_eq,beq_iff_eq]
 constructor
 ·intro h;exact UInt8.toNat_inj.mp (by omega)
 ·rintro rfl;rfl
def bS (n:Int):Bool:=decide (97≤n)&&decide (n≤122)
def cf (n:Int):Bool:=decide (48≤n)&&decide (n≤57)
def cU (n:Int):Bool:=bS n||cf n||(n==95)
def fv (l:List UInt8):Bool:=match l with
 |[]=>false
 |b::t=>bS (b.toNat:Int)&&(t.all (fun b=>cU (b.toNat:Int))&&decide (t.length<12))
def iE (n:Nat) (b:Int):Bool:= !bS b&&((n==0)||(!cf b&&(b !=95)))
def bT:Nat→List UInt8→Bool
 |n,[]=>decide (0<n)
 |n,b::t=>if (((b.toNat:Int)==46)&&decide (0<n))=true then bT 0 t else if iE n (b.toNat:Int)=true then false else if 12<n+1 then false else bT (n+1) t
def b7:List UInt8:=[116,114,117,101]
def bE:List UInt8:=[102,97,108,115,101]
def cI (l:List UInt8):Bool:=bT 0 l&&(l !=b7&&l !=bE)
theorem y8 (l q:List UInt8): ∀n,bT n (l++46::q)=(bT n l&&bT 0 q):=by
 induction l with
 |nil=>
  intro n
  by_cases h:0<n
  ·simp [bT,h]
  ·obtain rfl:n=0:=by omega
   simp [bT,iE,bS]
 |cons b t ih=>
  intro n;simp only [List.cons_append,bT]
  split
  ·exact ih 0
  ·split
   ·rfl
   ·split
    ·rfl
    ·exact ih (n+1)
theorem y9 (b:Int):iE 0 b= !bS b:=by simp [iE]
theorem zc (n:Nat) (b:Int) (h:n≠0):iE n b= !cU b:=by
 have hz:(n==0)=false:=by simpa using h
 simp only [iE,hz,cU,bne,Bool.false_or,Bool.not_or,Bool.and_assoc]
theorem sL (p:List UInt8): ∀n,(46:UInt8)∉p→n≤12→bT n p=if n=0 then fv p else (p.all (fun b=>cU (b.toNat:Int))&&decide (n+p.length≤12)):=by
 induction p with
 |nil=>
  intro n _ hn
  by_cases h:n=0
  ·subst h;rfl
  ·rw [if_neg h];simp [bT];omega
 |cons b t ih=>
  intro n hd hn;simp only [List.mem_cons,not_or] at hd
  have hb:((b.toNat:Int)==46)=false:=by rw [show (46:Int)=((46:UInt8).toNat:Int) from rfl,nf,beq_eq_false_iff_ne];exact Ne.symm hd.1
  simp only [bT,hb,Bool.false_and,Bool.false_eq_true,if_false]
  by_cases h:n=0
  ·subst h
   rw [y9,if_pos rfl];simp only [fv]
   cases hl:bS (b.toNat:Int)
   ·rfl
   ·simp only [Bool.not_true,Bool.false_eq_true,if_false,Bool.true_and]
    rw [if_neg (by omega),ih 1 hd.2 (by omega),if_neg (by omega)]
    congr 1
    rw [decide_eq_decide];omega
  ·rw [if_neg h,zc n _ h]
   simp only [List.all_cons,List.length_cons]
   cases cU (b.toNat:Int)
   ·simp
   ·simp only [Bool.not_true,Bool.false_eq_true,if_false,Bool.true_and]
    by_cases EN:12<n+1
    ·rw [if_pos EN,show decide (n+(t.length+1)≤12)=false by simp;omega,Bool.and_false]
    ·rw [if_neg EN,ih (n+1) hd.2 (by omega),if_neg (by omega)]
     congr 1
     rw [decide_eq_decide];omega
theorem iF (p:List UInt8) (h:(46:UInt8)∉p):bT 0 p=fv p:=by rw [sL p 0 h (by omega),if_pos rfl]
theorem mi (l:List UInt8):fv l=(decide (1≤l.length)&&decide (l.length≤12)&&(match l with|[]=>false|b::_=>bS (b.toNat:Int))&&l.all (fun b=>cU (b.toNat:Int))):=by
 cases l with
 |nil=>rfl
 |cons b t=>
  cases hl:bS (b.toNat:Int)
  ·simp [fv,hl]
  ·have hp:cU (b.toNat:Int)=true:=by simp [cU,hl]
   simp only [fv,hl,hp,List.all_cons,List.length_cons,Bool.true_and,Bool.and_true]
   cases t.all (fun b=>cU (b.toNat:Int))
   ·simp
   ·simp;omega
open Go.RowKit
theorem bZ (n:Int) (w:World) (_h0:0≤n) (_h1:n≤255):
  Calls Tryz.prog 183 #[.int .u8 n] w fun e w'=>e= .returned (.bool (bS n))∧w=w':=by
 by_cases a:97≤n
 ·by_cases b:n≤122
  ·have hp:bS n=true:=by simp [bS,a,b]
   rw [hp];clear hp
   go_enter Tryz.func183,Tryz.ntmps183
   go_wp2;go_ret;exact ⟨rfl,rfl⟩
  ·have hp:bS n=false:=by simp [bS,b]
   rw [hp];clear hp
   go_enter Tryz.func183,Tryz.ntmps183
   go_wp2;go_ret;exact ⟨rfl,rfl⟩
 ·have hp:bS n=false:=by simp [bS,a]
  rw [hp];clear hp
  go_enter Tryz.func183,Tryz.ntmps183
  go_wp2;go_ret;exact ⟨rfl,rfl⟩
theorem gf (n:Int) (w:World) (_h0:0≤n) (_h1:n≤255):
  Calls Tryz.prog 184 #[.int .u8 n] w fun e w'=>e= .returned (.bool (cf n))∧w=w':=by
 by_cases a:48≤n
 ·by_cases b:n≤57
  ·have hp:cf n=true:=by simp [cf,a,b]
   rw [hp];clear hp
   go_enter Tryz.func184,Tryz.ntmps184
   go_wp2;go_ret;exact ⟨rfl,rfl⟩
  ·have hp:cf n=false:=by simp [cf,b]
   rw [hp];clear hp
   go_enter Tryz.func184,Tryz.ntmps184
   go_wp2;go_ret;exact ⟨rfl,rfl⟩
 ·have hp:cf n=false:=by simp [cf,a]
  rw [hp];clear hp
  go_enter Tryz.func184,Tryz.ntmps184
  go_wp2;go_ret;exact ⟨rfl,rfl⟩
theorem es (n:Int) (w:World) (h0:0≤n) (h1:n≤255):
  Calls Tryz.prog 156 #[.int .u8 n] w fun e w'=>e= .returned (.bool (cU n))∧w=w':=by
 cases hl:bS n with
 |true=>
  have HL:=agC hl;rw [show cU n=true by simp [cU,hl]];clear hl
  go_enter Tryz.func156,Tryz.ntmps156
  go_wp2_with fail;refine (bZ n _ h0 h1).mono ?_;rintro e w' ⟨rfl,rfl⟩;rw [HL.out];go_wp2;go_ret;exact ⟨rfl,rfl⟩
 |false=>
  have HL:=agC hl
  cases hd:cf n with
  |true=>
   have HD:=agC hd;rw [show cU n=true by simp [cU,hd]];clear hl hd
   go_enter Tryz.func156,Tryz.ntmps156
   go_wp2_with fail;refine (bZ n _ h0 h1).mono ?_;rintro e w' ⟨rfl,rfl⟩;rw [HL.out];go_wp2_with fail;refine (gf n _ h0 h1).mono ?_;rintro e w' ⟨rfl,rfl⟩;rw [HD.out];go_wp2;go_ret;exact ⟨rfl,rfl⟩
  |false=>
   have HD:=agC hd;have HP:=agC (show cU n=(n==95) by simp [cU,hl,hd]);clear hl hd
   go_enter Tryz.func156,Tryz.ntmps156
   go_wp2_with fail;refine (bZ n _ h0 h1).mono ?_;rintro e w' ⟨rfl,rfl⟩;rw [HL.out];go_wp2_with fail;refine (gf n _ h0 h1).mono ?_;rintro e w' ⟨rfl,rfl⟩;rw [HD.out];go_wp2;go_ret;exact ⟨by rw [HP.out];rfl,rfl⟩
theorem jI {a b:Bool} (h:a=b):Ending.returned (.bool a)= .returned (.bool b):=by rw [h]
theorem zd (s:ByteArray) (k:Nat) (h:k<s.size):s.data.toList.take (k+1)=s.data.toList.take k++[s[k]]:=by
 rw [List.take_succ_eq_append_getElem (by simpa using h)];rfl
theorem pR {l:List UInt8} (h:l.length=0∨12<l.length):fv l=false:=by
 rw [mi]
 rcases h with h|h
 ·rw [decide_eq_false (show¬1≤l.length by omega)];rfl
 ·rw [decide_eq_false (show¬l.length≤12 by omega)];simp
theorem nW (s:ByteArray) (h:0<s.size): ∃t,s.data.toList=s[0]::t:=by
 have hl:0<s.data.toList.length:=by simpa using h
 refine ⟨s.data.toList.drop 1, ?_⟩;rw [show s[0]=s.data.toList[0] from rfl]
 conv=>lhs;rw [←List.drop_zero (l:=s.data.toList)]
 rw [List.drop_eq_getElem_cons hl]
theorem uR (s:ByteArray) (h:0<s.size) (hb:bS (s[0].toNat:Int)=false):fv s.data.toList=false:=by
 obtain ⟨t,e⟩:=nW s h;rw [e];simp [fv,hb]
theorem abG (s:ByteArray) (h:0<s.size) (EN:s.size≤12) (hb:bS (s[0].toNat:Int)=true):fv s.data.toList=s.data.toList.all (fun b=>cU (b.toNat:Int)):=by
 have hl:s.data.toList.length=s.size:=by rw [Array.length_toList];rfl
 obtain ⟨t,e⟩:=nW s h;rw [e] at hl⊢
 have ht:t.length<12:=by simp only [List.length_cons] at hl;omega
 simp [fv,hb,ht,cU]
theorem dn (s:ByteArray) (w:World) (hs:s.size≤maxLen):
  Calls Tryz.prog 162 #[.string s] w fun e w'=>e= .returned (.bool (fv s.data.toList))∧w=w':=by
 unfold maxLen at hs
 have Ai:s.data.toList.length=s.size:=by rw [Array.length_toList];rfl
 by_cases h0:s.size=0
 ·rw [pR (.inl (by omega))]
  have z1:((s.size:Int)==0)=true:=beq_iff_eq.mpr (by omega);clear h0 Ai
  go_enter Tryz.func162,Tryz.ntmps162
  go_wp2;go_ret;exact ⟨rfl,rfl⟩
 ·have z1:((s.size:Int)==0)=false:=beq_eq_false_iff_ne.mpr (by omega)
  by_cases EN:s.size≤12
  ·have z2:decide (12<(s.size:Int))=false:=decide_eq_false (by omega)
   have z3:0<s.size:=by omega
   have Cu:(s[0].toNat:Int)≤255:=by have:=s[0].toNat_lt;omega
   cases hl:bS (s[0].toNat:Int) with
   |false=>
    rw [uR s z3 hl];have HL:=agC hl;clear hl Ai h0
    go_enter Tryz.func162,Tryz.ntmps162
    go_wp2_with fail;refine (bZ _ _ (by omega) (by omega)).mono ?_;rintro e w' ⟨rfl,rfl⟩;rw [HL.out];go_wp2;go_ret;exact ⟨rfl,rfl⟩
   |true=>
    have HA:=agC (abG s z3 EN hl);have HL:=agC hl;have HN:=agC Ai;clear hl Ai h0
    go_enter Tryz.func162,Tryz.ntmps162
    go_wp2_with fail;refine (bZ _ _ (by omega) (by omega)).mono ?_;rintro e w' ⟨rfl,rfl⟩;rw [HL.out];go_wp2_with fail
    go_loop [3,20] (fun _ i=> ∃k:Nat,k≤s.size∧i= .int .i64 (k:Int)∧(s.data.toList.take k).all (fun b=>cU (b.toNat:Int))=true) (fun _ i=>s.size-(intOf i).toNat)
    case atStart=>exact ⟨0,agH _,rfl,rfl⟩
    case round=>
     obtain ⟨k,hk,rfl,Aj⟩:=hrel;have HK:=agC Aj;clear Aj
     by_cases Ab:k<s.size
     ·have AJ:(s[k].toNat:Int)≤255:=by have:=s[k].toNat_lt;omega
      cases hp:cU (s[k].toNat:Int) with
      |true=>
       have HP:=agC hp;clear hp;have HQ:=agC (show (s.data.toList.take (k+1)).all (fun b=>cU (b.toNat:Int))=true by rw [zd s k Ab,List.all_append,HK.out];simp [HP.out]);go_wp2_with fail;refine (es _ _ (by omega) (by omega)).mono ?_;rintro e w' ⟨rfl,rfl⟩;rw [HP.out];go_wp2
       go_round
       case rel=>exact ⟨k+1,by omega,by go_num,HQ.out⟩
       case measure=>simp [intOf];omega
      |false=>
       have HP:=agC hp;clear hp
       have HQ:=agC (show s.data.toList.all (fun b=>cU (b.toNat:Int))=false by
        rw [List.all_eq_false]
        exact ⟨s[k],by show s.data.toList[k]∈_;exact List.getElem_mem _,by rw [HP.out];simp⟩)
       go_wp2_with fail;refine (es _ _ (by omega) (by omega)).mono ?_;rintro e w' ⟨rfl,rfl⟩;rw [HP.out];go_wp2;go_ret;exact ⟨jI (by rw [HA.out,HQ.out]),rfl⟩
     ·go_wp2
      go_ret;exact ⟨jI (by rw [HA.out,←HK.out,List.take_of_length_le (by rw [HN.out];omega)]),rfl⟩
  ·rw [pR (.inr (by omega))]
   have z2:decide (12<(s.size:Int))=true:=decide_eq_true (by omega);clear h0 Ai EN
   go_enter Tryz.func162,Tryz.ntmps162
   go_wp2;go_ret;exact ⟨rfl,rfl⟩
def strN:Value→Nat
 | .string s=>s.size
 |_=>0
def abH:Value→Nat
 | .bool true=>1
 |_=>0
theorem xN (s:ByteArray) (c:UInt8):(eE s c).size≤s.size:=by
 unfold eE;split
 ·exact agD _
 ·simp [ByteArray.size_extract];omega
theorem xO (s:ByteArray) (c:UInt8):(eo s c).size+abH (.bool (fW s c))≤s.size∧(eo s c).size≤s.size:=by
 have hl:s.data.toList.length=s.size:=by rw [Array.length_toList];rfl
 have hi:=lj s.data.toList c;unfold eo fW
 by_cases h:Lib.indexByte s.data.toList c<0
 ·rw [if_pos h,decide_eq_true h]
  show (0:Nat)+0≤_∧(0:Nat)≤_
  omega
 ·rw [if_neg h,decide_eq_false h,ByteArray.size_extract]
  show _+1≤_∧_
  omega
theorem sM (s:ByteArray):bT 0 s.data.toList=(fv (eE s 46).data.toList&&(!fW s 46||bT 0 (eo s 46).data.toList)):=by
 have hl:s.data.toList.length=s.size:=by rw [Array.length_toList];rfl
 unfold eE eo fW
 rcases yX s.data.toList 46 with ⟨h1,h2⟩|⟨k,h1,h2,h3,h4⟩
 ·rw [h1,if_pos (by omega),iF _ h2];simp
 ·rw [h1,if_neg (by omega),if_neg (by omega)]
  rw [show decide ((k:Int)<0)=false from decide_eq_false (by omega)]
  have e1:(s.extract 0 ((k:Int)).toNat).data.toList=s.data.toList.take k:=by simp [ByteArray.data_extract]
  have e2:(s.extract (((k:Int)).toNat+1) s.size).data.toList=s.data.toList.drop (k+1):=by
   simp [ByteArray.data_extract]
   exact List.take_of_length_le (by rw [List.length_drop];show _≤s.data.size-_;simp)
  rw [e1,e2]
  conv=>lhs;rw [h4,y8,iF _ h3]
  simp
theorem lw (s:ByteArray):(s.toList==[116,114,117,101])=(s.data.toList==b7):=by rw [ByteArray.toList_eq];rfl
theorem jJ (s:ByteArray):(s.toList==[102,97,108,115,101])=(s.data.toList==bE):=by rw [ByteArray.toList_eq];rfl
theorem nX (s:ByteArray) (w:World) (hs:s.size≤maxLen):
  Calls Tryz.prog 229 #[.string s] w fun e w'=>e= .returned (.bool (cI s.data.toList))∧Below w.heap.size w w':=by
 have Ds:=agC hs;unfold maxLen at hs
 cases ht:(s.toList==[116,114,117,101]) with
 |true=>
  have hn:cI s.data.toList=false:=by rw [lw] at ht;simp [cI,bne,ht]
  rw [hn];clear hn
  go_enter Tryz.func229,Tryz.ntmps229
  go_wp2;go_ret;exact ⟨rfl,Below.refl _ _⟩
 |false=>
  cases hf:(s.toList==[102,97,108,115,101]) with
  |true=>
   have hn:cI s.data.toList=false:=by rw [jJ] at hf;simp [cI,bne,hf]
   rw [hn];clear hn
   go_enter Tryz.func229,Tryz.ntmps229
   go_wp2;go_ret;exact ⟨rfl,Below.refl _ _⟩
  |false=>
   have HN:=agC (show cI s.data.toList=bT 0 s.data.toList by
    rw [lw] at ht;rw [jJ] at hf;simp [cI,bne,ht,hf])
   have HC:=agC (sM s);have Ax:=xN s 46;have AC:=(xO s 46).2
   go_enter Tryz.func229,Tryz.ntmps229
   go_wp2_with fail;refine (fC s 46 _ Ds.out).mono ?_;rintro e w1 ⟨rfl,Aa⟩;have Af:=agC Aa;clear Aa;go_wp2_with fail
   go_loopw [3,4,5] (fun p r m wr=> ∃(a b:ByteArray) (c:Bool),p= .string a∧r= .string b∧m= .bool c∧a.size≤s.size∧b.size≤s.size∧bT 0 s.data.toList=(fv a.data.toList&&(!c||bT 0 b.data.toList))∧Below w.heap.size w wr) (fun _ r m _=>strN r+abH m)
   case atStart=>exact ⟨_,_,_,rfl,rfl,rfl,Ax,AC,HC.out,Af.out⟩
   case round=>
    obtain ⟨a,b,c,rfl,rfl,rfl,ha,hb,hn,Bd⟩:=hrel;have HX:=agC hn;have HB:=agC Bd;clear hn Bd
    cases c with
    |false=>
     go_wp2_with fail;refine (dn a _ (by unfold maxLen;omega)).mono ?_;rintro e w' ⟨rfl,rfl⟩;go_wp2;go_ret;exact ⟨jI (by rw [HN.out,HX.out];simp),HB.out⟩
    |true=>
     cases hp:fv a.data.toList with
     |false=>
      have HP:=agC hp;clear hp;go_wp2_with fail;refine (dn a _ (by unfold maxLen;omega)).mono ?_;rintro e w' ⟨rfl,rfl⟩;rw [HP.out];go_wp2_with fail;refine (dn a _ (by unfold maxLen;omega)).mono ?_;rintro e w' ⟨rfl,rfl⟩;rw [HP.out];go_wp2;go_ret;exact ⟨jI (by rw [HN.out,HX.out,HP.out];rfl),HB.out⟩
     |true=>
      have HP:=agC hp;clear hp;have q1:=xN b 46;have q2:=xO b 46;go_wp2_with fail;refine (dn a _ (by unfold maxLen;omega)).mono ?_;rintro e w' ⟨rfl,rfl⟩;rw [HP.out];go_wp2_with fail;refine (fC b 46 _ (by unfold maxLen;omega)).mono ?_;rintro e w2 ⟨rfl,Ae⟩;have Ak:=agC (HB.out.trans (Ae.mono HB.out.size));clear Ae;go_wp2;go_roundw
      case rel=>exact ⟨_,_,_,rfl,rfl,rfl,by omega,by omega,by rw [HX.out,HP.out,sM b];simp,Ak.out⟩
      case measure=>
       show (eo b 46).size+abH (.bool (fW b 46))<b.size+1
       omega
theorem aT (n:Int) (w:World) (_h0:0≤n) (_h1:n≤255):
  Calls Tryz.prog 103 #[.int .u8 n] w fun e w'=>e= .returned (.bool (bS n))∧w=w':=by
 by_cases a:97≤n
 ·by_cases b:n≤122
  ·have hp:bS n=true:=by simp [bS,a,b]
   rw [hp];clear hp
   go_enter Tryz.func103,Tryz.ntmps103
   go_wp2;go_ret;exact ⟨rfl,rfl⟩
  ·have hp:bS n=false:=by simp [bS,b]
   rw [hp];clear hp
   go_enter Tryz.func103,Tryz.ntmps103
   go_wp2;go_ret;exact ⟨rfl,rfl⟩
 ·have hp:bS n=false:=by simp [bS,a]
  rw [hp];clear hp
  go_enter Tryz.func103,Tryz.ntmps103
  go_wp2;go_ret;exact ⟨rfl,rfl⟩
theorem bp (n:Int) (w:World) (_h0:0≤n) (_h1:n≤255):
  Calls Tryz.prog 104 #[.int .u8 n] w fun e w'=>e= .returned (.bool (cf n))∧w=w':=by
 by_cases a:48≤n
 ·by_cases b:n≤57
  ·have hp:cf n=true:=by simp [cf,a,b]
   rw [hp];clear hp
   go_enter Tryz.func104,Tryz.ntmps104
   go_wp2;go_ret;exact ⟨rfl,rfl⟩
  ·have hp:cf n=false:=by simp [cf,b]
   rw [hp];clear hp
   go_enter Tryz.func104,Tryz.ntmps104
   go_wp2;go_ret;exact ⟨rfl,rfl⟩
 ·have hp:cf n=false:=by simp [cf,a]
  rw [hp];clear hp
  go_enter Tryz.func104,Tryz.ntmps104
  go_wp2;go_ret;exact ⟨rfl,rfl⟩
theorem fa {a b:Bool} (h:a=b):Ending.returned (.bool a)= .returned (.bool b):=by rw [h]
theorem pS (s:ByteArray) (k:Nat) (h:k<s.size):s.data.toList.drop k=s[k]::s.data.toList.drop (k+1):=by
 rw [List.drop_eq_getElem_cons (by simpa using h)];rfl
theorem ze (s:ByteArray):(s.toList==[116,114,117,101])=(s.data.toList==b7):=by rw [ByteArray.toList_eq];rfl
theorem uS (s:ByteArray):(s.toList==[102,97,108,115,101])=(s.data.toList==bE):=by rw [ByteArray.toList_eq];rfl
theorem uT (s:ByteArray) (k n:Nat) (h:k<s.size) (h1:((s[k].toNat:Int)==46)=true) (h2:0<n):bT n (s.data.toList.drop k)=bT 0 (s.data.toList.drop (k+1)):=by
 rw [pS s k h,bT,if_pos (by rw [h1,decide_eq_true h2];rfl)]
theorem abI (s:ByteArray) (k n:Nat) (h:k<s.size) (h1: ¬(((s[k].toNat:Int)==46)=true∧0<n)):bT n (s.data.toList.drop k)=if iE n (s[k].toNat:Int)=true then false else if 12<n+1 then false else bT (n+1) (s.data.toList.drop (k+1)):=by
 rw [pS s k h,bT,if_neg (by simpa using h1)]
theorem cn (s:ByteArray) (w:World) (hs:s.size≤maxLen):
  Calls Tryz.prog 128 #[.string s] w fun e w'=>e= .returned (.bool (cI s.data.toList))∧w=w':=by
 unfold maxLen at hs
 have Ai:s.data.toList.length=s.size:=by rw [Array.length_toList];rfl
 have Ek:=agC Ai;clear Ai
 go_enter Tryz.func128,Tryz.ntmps128
 go_wp2
 go_loop [3,4] (fun z i=> ∃k n:Nat,k≤s.size∧n≤12∧i= .int .i64 (k:Int)∧z= .int .i64 (n:Int)∧bT n (s.data.toList.drop k)=bT 0 s.data.toList) (fun _ i=>s.size-(intOf i).toNat)
 case atStart=>exact ⟨0,0,agH _,by omega,rfl,rfl,rfl⟩
 case round=>
  obtain ⟨k,n,hk,SR,rfl,rfl,hr⟩:=hrel;have HR:=agC hr;clear hr
  by_cases Ab:k<s.size
  ·have AJ:(s[k].toNat:Int)≤255:=by have:=s[k].toNat_lt;omega
   by_cases hd:((s[k].toNat:Int)==46)=true∧0<n
   ·obtain ⟨d1,d2⟩:=hd
    have HQ:=agC (uT s k n Ab d1 d2);have d3:decide (0<(n:Int))=true:=decide_eq_true (by omega);go_wp2
    go_round
    case rel=>exact ⟨k+1,0,by omega,by omega,by go_num,rfl,by rw [←HQ.out];exact HR.out⟩
    case measure=>simp [intOf];omega
   ·have HQ:=agC (abI s k n Ab hd)
    have LD:=agC (show iE n (s[k].toNat:Int)=(!bS (s[k].toNat:Int)&&((n==0)||(!cf (s[k].toNat:Int)&&((s[k].toNat:Int) !=95)))) from rfl)
    have OD:bT 0 s.data.toList=false→cI s.data.toList=false:=fun h=>by simp [cI,h]
    have LE:=agC OD;clear OD
    cases hl:bS (s[k].toNat:Int) with
    |true=>
     have HL:=agC hl;have Ex:=agC (show iE n (s[k].toNat:Int)=false by rw [LD.out,hl];rfl);clear hl
     by_cases JB:((s[k].toNat:Int)==46)=true
     ·have Ch: ¬0<n:=fun h=>hd ⟨JB,h⟩
      have d3:decide (0<(n:Int))=false:=decide_eq_false (by omega);have d5:decide (0<n)=false:=decide_eq_false (by omega)
      exfalso
      rw [beq_iff_eq] at JB;have:=HL.out;rw [JB] at this
      simp [bS] at this
     ·have SN:=Bool.eq_false_iff.mpr JB
      clear JB hd;go_wp2_with fail;refine (aT _ _ (by omega) (by omega)).mono ?_;rintro e w' ⟨rfl,rfl⟩;rw [HL.out]
      by_cases EN:12<n+1
      ·have HZ:=agC (LE.out (by rw [←HR.out,HQ.out,Ex.out,if_pos EN];rfl))
       go_wp2;go_ret;exact ⟨fa HZ.out.symm,rfl⟩
      ·have HZ:=agC (show bT (n+1) (s.data.toList.drop (k+1))=bT 0 s.data.toList by rw [←HR.out,HQ.out,Ex.out,if_neg EN];rfl)
       go_wp2
       go_round
       case rel=>exact ⟨k+1,n+1,by omega,by omega,by go_num,by go_num,HZ.out⟩
       case measure=>simp [intOf];omega
    |false=>
     have HL:=agC hl;clear hl
     by_cases Ch:n=0
     ·have Ex:=agC (show iE n (s[k].toNat:Int)=true by rw [LD.out,HL.out,Ch];rfl)
      have HZ:=agC (LE.out (by rw [←HR.out,HQ.out,Ex.out];rfl));have d3:decide (0<(n:Int))=false:=decide_eq_false (by omega);have d5:decide (0<n)=false:=decide_eq_false (by omega);have d4:((n:Int)==0)=true:=beq_iff_eq.mpr (by omega);clear hd Ch
      cases JB:((s[k].toNat:Int)==46)
      all_goals
       go_wp2_with fail;refine (aT _ _ (by omega) (by omega)).mono ?_;rintro e w' ⟨rfl,rfl⟩;rw [HL.out];go_wp2;go_ret;exact ⟨fa HZ.out.symm,rfl⟩
     ·have JB:((s[k].toNat:Int)==46)=false:=Bool.eq_false_iff.mpr (fun h=>hd ⟨h,by omega⟩)
      have d4:((n:Int)==0)=false:=beq_eq_false_iff_ne.mpr (by omega);have Az:(n==0)=false:=beq_eq_false_iff_ne.mpr Ch;have M4:=agC (show iE n (s[k].toNat:Int)=(!cf (s[k].toNat:Int)&&((s[k].toNat:Int) !=95)) by rw [LD.out,HL.out,Az];rfl);clear hd Ch Az
      cases Ka:cf (s[k].toNat:Int) with
      |true=>
       have HD:=agC Ka;clear Ka;have Ex:=agC (show iE n (s[k].toNat:Int)=false by rw [M4.out,HD.out];rfl);go_wp2_with fail;refine (aT _ _ (by omega) (by omega)).mono ?_;rintro e w' ⟨rfl,rfl⟩;rw [HL.out];go_wp2_with fail;refine (bp _ _ (by omega) (by omega)).mono ?_;rintro e w' ⟨rfl,rfl⟩;rw [HD.out]
       by_cases EN:12<n+1
       ·have HZ:=agC (LE.out (by rw [←HR.out,HQ.out,Ex.out,if_pos EN];rfl))
        go_wp2;go_ret;exact ⟨fa HZ.out.symm,rfl⟩
       ·have HZ:=agC (show bT (n+1) (s.data.toList.drop (k+1))=bT 0 s.data.toList by rw [←HR.out,HQ.out,Ex.out,if_neg EN];rfl)
        go_wp2
        go_round
        case rel=>exact ⟨k+1,n+1,by omega,by omega,by go_num,by go_num,HZ.out⟩
        case measure=>simp [intOf];omega
      |false=>
       have HD:=agC Ka;clear Ka;have Ap:=agC (show iE n (s[k].toNat:Int)=((s[k].toNat:Int) !=95) by rw [M4.out,HD.out];rfl)
       cases Nx:((s[k].toNat:Int) !=95) with
       |true=>
        have HZ:=agC (LE.out (by rw [←HR.out,HQ.out,Ap.out,Nx];rfl));go_wp2_with fail;refine (aT _ _ (by omega) (by omega)).mono ?_;rintro e w' ⟨rfl,rfl⟩;rw [HL.out];go_wp2_with fail;refine (bp _ _ (by omega) (by omega)).mono ?_;rintro e w' ⟨rfl,rfl⟩;rw [HD.out];go_wp2;go_ret;exact ⟨fa HZ.out.symm,rfl⟩
       |false=>
        have Ex:=agC (show iE n (s[k].toNat:Int)=false by rw [Ap.out,Nx]);go_wp2_with fail;refine (aT _ _ (by omega) (by omega)).mono ?_;rintro e w' ⟨rfl,rfl⟩;rw [HL.out];go_wp2_with fail;refine (bp _ _ (by omega) (by omega)).mono ?_;rintro e w' ⟨rfl,rfl⟩;rw [HD.out]
        by_cases EN:12<n+1
        ·have HZ:=agC (LE.out (by rw [←HR.out,HQ.out,Ex.out,if_pos EN];rfl))
         go_wp2;go_ret;exact ⟨fa HZ.out.symm,rfl⟩
        ·have HZ:=agC (show bT (n+1) (s.data.toList.drop (k+1))=bT 0 s.data.toList by rw [←HR.out,HQ.out,Ex.out,if_neg EN];rfl)
         go_wp2
         go_round
         case rel=>exact ⟨k+1,n+1,by omega,by omega,by go_num,by go_num,HZ.out⟩
         case measure=>simp [intOf];omega
  ·have HE:=agC (show bT 0 s.data.toList=decide (0<n) by rw [←HR.out,List.drop_eq_nil_of_le (by rw [Ek.out];omega),bT])
   have LF:=agC (show cI s.data.toList=(decide (0<n)&&((!(s.toList==[116,114,117,101]))&&(!(s.toList==[102,97,108,115,101])))) by rw [ze,uS,cI,HE.out];rfl)
   by_cases Ch:0<n
   ·have d3:decide (0<(n:Int))=true:=decide_eq_true (by omega)
    have FB:=agC (show decide (0<n)=true from decide_eq_true Ch)
    cases ht:(s.toList==[116,114,117,101]) with
    |true=>
     go_wp2;go_ret;exact ⟨fa (by rw [LF.out,FB.out,ht];rfl),rfl⟩
    |false=>
     cases hf:(s.toList==[102,97,108,115,101])
     all_goals
      go_wp2;go_ret;exact ⟨fa (by rw [LF.out,FB.out,ht,hf];rfl),rfl⟩
   ·have d3:decide (0<(n:Int))=false:=decide_eq_false (by omega)
    have d5:decide (0<n)=false:=decide_eq_false (by omega);have FB:=agC (show decide (0<n)=false from decide_eq_false Ch);go_wp2;go_ret;exact ⟨fa (by rw [LF.out,FB.out];rfl),rfl⟩
def bV (n:Int):Bool:=decide (32≤n)&&decide (n≤126)
def okI (n:Int):Bool:=(n==10)||bV n
def okL (l:List UInt8):Bool:=l.all fun b=>okI (b.toNat:Int)
def aD (s:ByteArray):Bool:=decide (s.size≤20000)&&okL s.data.toList
theorem eu (s:ByteArray) (k:Nat) (h:k<s.size):s.data.toList.take (k+1)=s.data.toList.take k++[s[k]]:=by
 rw [List.take_succ_eq_append_getElem (by simpa using h)];rfl
theorem nY (l:List UInt8) (b:UInt8):okL (l++[b])=(okL l&&okI (b.toNat:Int)):=by
 simp [okL]
theorem nZ (l:List UInt8) (k:Nat) (h:okL (l.take k)=false):okL l=false:=by
 simp only [okL,List.all_eq_false] at h⊢;obtain ⟨x,hx,hn⟩:=h;exact ⟨x,List.mem_of_mem_take hx,hn⟩
theorem afi (s:ByteArray) (k:Nat) (h:k<s.size) (hb:okI (s[k].toNat:Int)=false):okL s.data.toList=false:=by
 apply nZ _ (k+1)
 rw [eu s k h,nY,hb,Bool.and_false]
theorem fE (n:Int) (w:World) (_h0:0≤n) (_h1:n≤255):
  Calls Tryz.prog 86 #[.int .u8 n] w fun e w'=>e= .returned (.bool (bV n))∧w=w':=by
 by_cases a:32≤n
 ·by_cases b:n≤126
  ·have hp:bV n=true:=by simp [bV,a,b]
   rw [hp];clear hp
   go_enter Tryz.func86,Tryz.ntmps86
   go_wp2;go_ret;exact ⟨rfl,rfl⟩
  ·have hp:bV n=false:=by simp [bV,b]
   rw [hp];clear hp
   go_enter Tryz.func86,Tryz.ntmps86
   go_wp2;go_ret;exact ⟨rfl,rfl⟩
 ·have hp:bV n=false:=by simp [bV,a]
  rw [hp];clear hp
  go_enter Tryz.func86,Tryz.ntmps86
  go_wp2;go_ret;exact ⟨rfl,rfl⟩
def inI (n lo hi:Int):Bool:=decide (lo≤n)&&decide (n≤hi)
theorem dG (n lo hi:Int) (w:World):
  Calls Tryz.prog 85 #[.int .i64 n, .int .i64 lo, .int .i64 hi] w fun e w'=>e= .returned (.bool (inI n lo hi))∧w=w':=by
 by_cases a:lo≤n
 ·by_cases b:n≤hi
  ·have hp:inI n lo hi=true:=by simp [inI,a,b]
   rw [hp];clear hp
   go_enter Tryz.func85,Tryz.ntmps85
   go_wp2;go_ret;exact ⟨rfl,rfl⟩
  ·have hp:inI n lo hi=false:=by simp [inI,b]
   rw [hp];clear hp
   go_enter Tryz.func85,Tryz.ntmps85
   go_wp2;go_ret;exact ⟨rfl,rfl⟩
 ·have hp:inI n lo hi=false:=by simp [inI,a]
  rw [hp];clear hp
  go_enter Tryz.func85,Tryz.ntmps85
  go_wp2;go_ret;exact ⟨rfl,rfl⟩
theorem qO {n:Int} (h:n=10):okI n=true:=by subst h;rfl
theorem xP {n:Int} (h:(n !=10)=true∧(!bV n)=true):okI n=false:=by
 obtain ⟨a,b⟩:=h;simp only [bne_iff_ne,ne_eq,Bool.not_eq_true'] at a b
 simp [okI,a,b]
theorem sN {n:Int} (h:(n !=10)=false∨(!bV n)=false):okI n=true:=by
 rcases h with h|h
 ·simp only [bne_eq_false_iff_eq] at h;exact qO h
 ·simp only [Bool.not_eq_false'] at h;simp [okI,h]
theorem abJ {n:Int} (h:(n !=10)=true∧(!inI n 32 126)=true):okI n=false:=xP h
theorem zf {n:Int} (h:(n !=10)=false∨(!inI n 32 126)=false):okI n=true:=sN h
theorem pT (s:ByteArray) (k:Nat) (hk:k<s.size) (h:okI (s[k].toNat:Int)=false):aD s=false:=by
 simp [aD,afi s k hk h]
theorem uU (s:ByteArray) (hl:s.size≤20000) (k:Nat) (hk: ¬k<s.size) (h:okL (s.data.toList.take k)=true):aD s=true:=by
 rw [List.take_of_length_le (by simp;omega)] at h
 simp [aD,hl,h]
theorem uV (s:ByteArray) (hl: ¬s.size≤20000):aD s=false:=by simp [aD,hl]
theorem zg (s:ByteArray) (k:Nat) (hk: ¬k<s.size) (h:okL (s.data.toList.take k)=true):aD s=decide ((s.size:Int)≤20000):=by
 rw [List.take_of_length_le (by simp;omega)] at h;rw [aD,h,Bool.and_true]
 by_cases a:s.size≤20000
 ·simp [a];omega
 ·simp [a];omega
theorem lA (s:ByteArray) (k:Nat) (hk:k<s.size) (h:okL (s.data.toList.take k)=true) (hb:okI (s[k].toNat:Int)=true):okL (s.data.toList.take (k+1))=true:=by
 rw [eu s k hk,nY,h,hb];rfl
theorem fg {a b:Bool} (h:a=b):Ending.returned (.bool a)= .returned (.bool b):=by rw [h]
theorem bW (s:ByteArray) (w:World) (hs:s.size≤maxLen):
  Calls Tryz.prog 53 #[.string s] w fun e w'=>e= .returned (.bool (aD s))∧w=w':=by
 unfold maxLen at hs
 by_cases Ai:s.size≤20000
 ·go_enter Tryz.func53,Tryz.ntmps53
  go_wp2
  go_loop [3,9] (fun _ i=> ∃k:Nat,k≤s.size∧i= .int .i64 k∧okL (s.data.toList.take k)=true) (fun _ i=>s.size-(intOf i).toNat)
  case atStart=>exact ⟨0,agH _,rfl,rfl⟩
  case round=>
   obtain ⟨k,hk,rfl,Aj⟩:=hrel;have HK:=agC Aj;clear Aj
   by_cases Ab:k<s.size
   ·have Cu:(s[k].toNat:Int)≤255:=by have:=s[k].toNat_lt;omega
    go_wp2_with (go_at_call 86;refine (fE _ _ (by omega) (by omega)).mono ?_;rintro e w' ⟨rfl,rfl⟩)
    ·go_round
     case rel=>exact ⟨k+1,by omega,by go_num,lA s k Ab HK.out (qO (by assumption))⟩
     case measure=>simp [intOf];omega
    ·go_ret
     exact ⟨fg (pT s k Ab (xP (by assumption))).symm,rfl⟩
    ·go_round
     case rel=>exact ⟨k+1,by omega,by go_num,lA s k Ab HK.out (sN (by assumption))⟩
     case measure=>simp [intOf];omega
   ·go_wp2
    go_ret;exact ⟨fg (uU s Ai k Ab HK.out).symm,rfl⟩
 ·rw [uV s Ai]
  go_enter Tryz.func53,Tryz.ntmps53
  go_wp2;go_ret;exact ⟨rfl,rfl⟩
theorem aG (s:ByteArray) (w:World) (hs:s.size≤maxLen):
  Calls Tryz.prog 70 #[.string s] w fun e w'=>e= .returned (.bool (aD s))∧w=w':=by
 unfold maxLen at hs
 go_enter Tryz.func70,Tryz.ntmps70
 go_wp2
 go_loop [3] (fun i=> ∃k:Nat,k≤s.size∧i= .int .i64 k∧okL (s.data.toList.take k)=true) (fun i=>s.size-(intOf i).toNat)
 case atStart=>exact ⟨0,agH _,rfl,rfl⟩
 case round=>
  obtain ⟨k,hk,rfl,Aj⟩:=hrel;have HK:=agC Aj;clear Aj
  by_cases Ab:k<s.size
  ·have Cu:(s[k].toNat:Int)≤255:=by have:=s[k].toNat_lt;omega
   go_wp2_with (go_at_call 85;refine (dG _ _ _ _).mono ?_;rintro e w' ⟨rfl,rfl⟩)
   ·go_round
    case rel=>exact ⟨k+1,by omega,by go_num,lA s k Ab HK.out (qO (by assumption))⟩
    case measure=>simp [intOf];omega
   ·go_ret
    exact ⟨fg (pT s k Ab (abJ (by assumption))).symm,rfl⟩
   ·go_round
    case rel=>exact ⟨k+1,by omega,by go_num,lA s k Ab HK.out (zf (by assumption))⟩
    case measure=>simp [intOf];omega
  ·go_wp2
   go_ret;exact ⟨fg (zg s k Ab HK.out).symm,rfl⟩
def aq (l:List UInt8):Bool:=l.all fun b=>bV (b.toNat:Int)
def dV (l:List UInt8) (n:Int):Bool:=l.any fun b=>(b.toNat:Int)==n
def d9 (L:List ByteArray) (k:Nat):ByteArray:=(L[k]?).getD ByteArray.empty
def bM (L:List ByteArray):Nat→ByteArray
 |0=>ByteArray.empty
 |k+1=>bM L k++d9 L k++⟨#[10]⟩
def iG (L:List ByteArray) (k:Nat):Bool:=aq (d9 L k).data.toList&&decide ((bM L k).size+(d9 L k).size+1≤20000)
def el (L:List ByteArray):Bool:=(List.range L.length).all (iG L)
def fS (L:List ByteArray):ByteArray:=if el L=true then bM L L.length else ByteArray.empty
theorem mQ (l:List UInt8) (b:UInt8):aq (l++[b])=(aq l&&bV (b.toNat:Int)):=by simp [aq]
theorem pU (l:List UInt8) (b:UInt8) (n:Int):dV (l++[b]) n=(dV l n||(b.toNat:Int)==n):=by simp [dV]
theorem uW (s:ByteArray) (k:Nat) (h:k<s.size) (hb:bV (s[k].toNat:Int)=false):aq s.data.toList=false:=by
 have h1:aq (s.data.toList.take (k+1))=false:=by rw [eu s k h,mQ,hb,Bool.and_false]
 simp only [aq,List.all_eq_false] at h1⊢;obtain ⟨x,hx,hn⟩:=h1;exact ⟨x,List.mem_of_mem_take hx,hn⟩
theorem sO (s:ByteArray) (k:Nat) (hk:k<s.size) (h:aq (s.data.toList.take k)=true) (hb:bV (s[k].toNat:Int)=true):aq (s.data.toList.take (k+1))=true:=by
 rw [eu s k hk,mQ,h,hb];rfl
theorem zh (s:ByteArray) (k:Nat) (n:Int) (h:k<s.size) (hb:((s[k].toNat:Int)==n)=true):dV s.data.toList n=true:=by
 have h1:dV (s.data.toList.take (k+1)) n=true:=by rw [eu s k h,pU,hb,Bool.or_true]
 simp only [dV,List.any_eq_true] at h1⊢;obtain ⟨x,hx,hn⟩:=h1;exact ⟨x,List.mem_of_mem_take hx,hn⟩
theorem zi (s:ByteArray) (k:Nat) (n:Int) (hk:k<s.size) (h:dV (s.data.toList.take k) n=false) (hb:((s[k].toNat:Int)==n)=false):dV (s.data.toList.take (k+1)) n=false:=by
 rw [eu s k hk,pU,h,hb];rfl
theorem ii (l:List UInt8):aq l=(okL l&& !dV l 10):=by
 induction l with
 |nil=>rfl
 |cons b l ih=>
  have e1:aq (b::l)=(bV (b.toNat:Int)&&aq l):=rfl;have e2:okL (b::l)=(okI (b.toNat:Int)&&okL l):=rfl;have e3:dV (b::l) 10=(((b.toNat:Int)==10)||dV l 10):=rfl;rw [e1,e2,e3,ih]
  by_cases BU:(b.toNat:Int)=10
  ·have:bV 10=false:=rfl
   simp [this,BU]
  ·have hb:((b.toNat:Int)==10)=false:=by simpa using BU
   simp only [okI,hb,Bool.false_or]
   cases bV (b.toNat:Int)<;>simp
theorem fX (L:List ByteArray) (k:Nat):(bM L (k+1)).size=(bM L k).size+(d9 L k).size+1:=by
 show (bM L k++d9 L k++⟨#[10]⟩).size=_
 rw [ByteArray.size_append,ByteArray.size_append];rfl
theorem uX (L:List ByteArray) (k:Nat) (hk:k<L.length) (h:iG L k=false):el L=false:=by
 simp only [el,List.all_eq_false];exact ⟨k,List.mem_range.2 hk,by simp [h]⟩
theorem mR (L:List ByteArray) (h: ∀j,j<L.length→iG L j=true):el L=true:=by
 simp only [el,List.all_eq_true];intro j hj;exact h j (List.mem_range.1 hj)
theorem abK (L:List ByteArray) (k:Nat) (h: ∀j,j<k→iG L j=true):(bM L k).size≤20000:=by
 cases k with
 |zero=>show (0:Nat)≤20000;omega
 |succ k=>
  rw [fX];have:=h k (by omega);simp only [iG,Bool.and_eq_true,decide_eq_true_eq] at this;exact this.2
theorem ev (s:ByteArray) (n:Int) (w:World) (hs:s.size≤maxLen) (h0:0≤n) (h1:n≤255):
  Calls Tryz.prog 94 #[.string s, .int .u8 n] w fun e w'=>e= .returned (.bool (dV s.data.toList n))∧w=w':=by
 unfold maxLen at hs
 go_enter Tryz.func94,Tryz.ntmps94
 go_wp2
 go_loop [5] (fun i=> ∃k:Nat,k≤s.size∧i= .int .i64 k∧dV (s.data.toList.take k) n=false) (fun i=>s.size-(intOf i).toNat)
 case atStart=>exact ⟨0,agH _,rfl,rfl⟩
 case round=>
  obtain ⟨k,hk,rfl,Aj⟩:=hrel;have HK:=agC Aj;clear Aj
  by_cases Ab:k<s.size
  ·by_cases he:((s[k].toNat:Int)==n)=true
   ·have HE:=agC (zh s k n Ab he)
    go_wp2;go_ret;exact ⟨fg HE.out.symm,rfl⟩
   ·have MR:((s[k].toNat:Int)==n)=false:=by simpa using he
    have HE:=agC (zi s k n Ab HK.out MR);clear he;go_wp2
    go_round
    case rel=>exact ⟨k+1,by omega,by go_num,HE.out⟩
    case measure=>simp [intOf];omega
  ·go_wp2
   go_ret;have:=HK.out;rw [List.take_of_length_le (by simp;omega)] at this;exact ⟨fg this.symm,rfl⟩
def fw (s:ByteArray):Bool:=cI s.data.toList&& !dV s.data.toList 46
theorem xQ (l:List UInt8):dV l 46=true↔(46:UInt8)∈l:=by
 unfold dV;rw [List.any_eq_true]
 constructor
 ·rintro ⟨b,hb,h⟩
  rw [show (46:Int)=((46:UInt8).toNat:Int) from rfl,nf,beq_iff_eq] at h;rw [←h];exact hb
 ·intro h;exact ⟨46,h,rfl⟩
theorem zj (l:List UInt8):(cI l&& !dV l 46)=(fv l&&(l !=b7&&l !=bE)):=by
 by_cases h:(46:UInt8)∈l
 ·rw [(xQ l).mpr h]
  have:fv l=false:=by
   rw [mi]
   have:l.all (fun b=>cU (b.toNat:Int))=false:=by
    rw [List.all_eq_false];exact ⟨46,h,by decide⟩
   rw [this,Bool.and_false]
  rw [this];simp
 ·have hh:dV l 46=false:=by rw [Bool.eq_false_iff];exact fun k=>h ((xQ l).mp k)
  rw [hh,Bool.not_false,Bool.and_true];unfold cI;rw [iF l h]
theorem cN (s:ByteArray) (w:World) (hs:s.size≤maxLen):
  Calls Tryz.prog 120 #[.string s] w fun e w'=>e= .returned (.bool (fw s))∧w=w':=by
 have HP:=agC (zj s.data.toList);unfold fw;rw [HP.out]
 cases hp:fv s.data.toList with
 |false=>
  go_enter Tryz.func120,Tryz.ntmps120
  go_wp2_with fail;refine (dn s _ hs).mono ?_;rintro e w' ⟨rfl,rfl⟩;rw [hp];go_wp2;go_ret;exact ⟨rfl,rfl⟩
 |true=>
  cases ht:(s.toList==[116,114,117,101]) with
  |true=>
   have e1:(s.data.toList==b7)=true:=by rw [←lw];exact ht
   have HE:=agC (show (s.data.toList !=b7&&s.data.toList !=bE)=false by simp [bne,e1]);rw [HE.out];clear e1
   go_enter Tryz.func120,Tryz.ntmps120
   go_wp2_with fail;refine (dn s _ hs).mono ?_;rintro e w' ⟨rfl,rfl⟩;rw [hp];go_wp2;go_ret;exact ⟨rfl,rfl⟩
  |false=>
   have e1:(s.data.toList==b7)=false:=by rw [←lw];exact ht
   cases hf:(s.toList==[102,97,108,115,101]) with
   |true=>
    have e2:(s.data.toList==bE)=true:=by rw [←jJ];exact hf
    have HE:=agC (show (s.data.toList !=b7&&s.data.toList !=bE)=false by simp [bne,e1,e2]);rw [HE.out];clear e1 e2
    go_enter Tryz.func120,Tryz.ntmps120
    go_wp2_with fail;refine (dn s _ hs).mono ?_;rintro e w' ⟨rfl,rfl⟩;rw [hp];go_wp2;go_ret;exact ⟨rfl,rfl⟩
   |false=>
    have e2:(s.data.toList==bE)=false:=by rw [←jJ];exact hf
    have HE:=agC (show (s.data.toList !=b7&&s.data.toList !=bE)=true by simp [bne,e1,e2]);rw [HE.out];clear e1 e2
    go_enter Tryz.func120,Tryz.ntmps120
    go_wp2_with fail;refine (dn s _ hs).mono ?_;rintro e w' ⟨rfl,rfl⟩;rw [hp];go_wp2;go_ret;exact ⟨rfl,rfl⟩
end Go.Proofs.YtegdjjjpoahamaaGreatDoor
