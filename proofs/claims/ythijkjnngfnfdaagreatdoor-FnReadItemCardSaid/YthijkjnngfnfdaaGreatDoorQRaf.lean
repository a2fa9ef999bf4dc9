/-
  Part of the proof of FnReadItem.
-/
import Derived.Test.YthijkjnngfnfdaaGreatDoorQRaa
import Derived.Test.YthijkjnngfnfdaaGreatDoorQRac
import Derived.Below
set_option linter.unusedVariables false
set_option maxHeartbeats 4000000
set_option maxRecDepth 100000
namespace Go.Proofs.YthijkjnngfnfdaaGreatDoor
theorem afS (c:UInt8) (r:List UInt8):clo false (bA c++r)=(bA c).length+clo false r:=by
 unfold bA
 split
 ·show clo false (92::110::r)=2+_
  simp only [clo];rw [if_neg (by decide),if_pos (by decide)];omega
 ·split
  ·show clo false (92::c::r)=2+_
   simp only [clo];rw [if_neg (by decide),if_pos (by decide)];omega
  ·rename_i h1 h2
   have a: ¬((c.toNat:Int)==34)=true:=by
    rw [beq_iff_eq];intro e;exact h2 (.inl (UInt8.toNat_inj.mp (by rw [show (34:UInt8).toNat=34 from rfl];omega)))
   have b: ¬((c.toNat:Int)==92)=true:=by
    rw [beq_iff_eq];intro e;exact h2 (.inr (UInt8.toNat_inj.mp (by rw [show (92:UInt8).toNat=92 from rfl];omega)))
   show clo false (c::r)=1+_
   simp only [clo];rw [if_neg a,if_neg b];omega
theorem abI (l r:List UInt8):clo false (aZ l++r)=(aZ l).length+clo false r:=by
 induction l with
 |nil=>simp [aZ]
 |cons c l ih=>rw [eU,List.append_assoc,afS,ih,aio];omega
theorem te (c:UInt8) (h:okI (c.toNat:Int)=true):aI (bA c)=true:=by
 unfold bA
 split
 ·decide
 ·split
  ·rename_i h1 h2
   rcases h2 with e|e<;>rw [e]<;>decide
  ·rename_i h1 h2
   simp only [okI,Bool.or_eq_true,beq_iff_eq] at h
   have hp:cC (c.toNat:Int)=true:=by
    rcases h with h|h
    ·exact absurd (UInt8.toNat_inj.mp (by rw [show (10:UInt8).toNat=10 from rfl];omega)) h1
    ·exact h
   simp [aI,hp]
theorem tg (l:List UInt8) (h:okL l=true):aI (aZ l)=true:=by
 induction l with
 |nil=>rfl
 |cons c l ih=>
  rw [vU] at h;simp only [Bool.and_eq_true] at h;have h1:=te c h.1;have h2:=ih h.2;rw [eU];simp only [aI,List.all_append,Bool.and_eq_true] at h1 h2⊢;exact ⟨h1,h2⟩
open Go.RowKit
theorem adh (s:ByteArray) (h:0<s.size):s.data.toList.getLast? =some s[s.size-1]:=by
 have hl:s.data.toList.length=s.size:=by rw [Array.length_toList];rfl
 rw [List.getLast?_eq_getElem?,hl,List.getElem?_eq_getElem (by omega)];rfl
theorem adi (s:ByteArray) (h:0<s.size):s.data.toList.head? =some s[0]:=by
 have hl:s.data.toList.length=s.size:=by rw [Array.length_toList];rfl
 rw [List.head?_eq_getElem?,List.getElem?_eq_getElem (by omega)];rfl
def fq (s:ByteArray):Bool:=s.data.toList.head? ==some 32||s.data.toList.getLast? ==some 32
theorem xw (s:ByteArray):eO s=(decide (s.size≤60)&&(aI s.data.toList&& !fq s)):=by
 unfold eO fq aT;rw [jr]
 by_cases h:s.size≤60
 ·rw [decide_eq_true h,decide_eq_true (show s.size≤20000 by omega)]
  simp only [Bool.true_and,Bool.not_or,bne];rw [Bool.and_assoc]
 ·rw [decide_eq_false h];simp
theorem rA (s:ByteArray) (h:0<s.size):fq s=((((s[0].toNat:Int))==32)||(((s[s.size-1].toNat:Int))==32)):=by
 unfold fq;rw [adi s h,adh s h,show (32:Int)=((32:UInt8).toNat:Int) from rfl,o3,o3]
 rfl
theorem xx (s:ByteArray) (w:World) (hs:s.size≤maxLen):
  Calls Tryz.prog 111 #[.string s] w fun e w'=>e= .returned (.bool (fq s))∧w=w':=by
 unfold maxLen at hs
 cases h:emB s with
 |true=>
  obtain ⟨a1,a2,a3,a4⟩:=kq h
  have hz:s.data.toList=[]:=by rw [←ByteArray.toList_eq];exact a2
  rw [show fq s=false by unfold fq;rw [hz];rfl];clear hz
  go_enter Tryz.func111,Tryz.ntmps111
  go_wp2;go_ret;exact ⟨rfl,rfl⟩
 |false=>
  obtain ⟨a1,a2,a3,a4⟩:=mh h
  have hp:0<s.size:=by
   rcases Nat.eq_zero_or_pos s.size with e|e
   ·exfalso;unfold emB at h;rw [e] at h;cases h
   ·exact e
  rw [rA s hp]
  have e1:((s.size:Int)-1).toNat=s.size-1:=by omega
  cases h1:((s[0].toNat:Int)==32)
  ·cases h2:((s[s.size-1].toNat:Int)==32)
   all_goals
    go_enter Tryz.func111,Tryz.ntmps111
    go_wp2;go_ret;exact ⟨rfl,rfl⟩
  ·go_enter Tryz.func111,Tryz.ntmps111
   go_wp2;go_ret;exact ⟨rfl,rfl⟩
theorem rB (s:ByteArray) (w:World) (hs:s.size≤maxLen):
  Calls Tryz.prog 59 #[.string s] w fun e w'=>e= .returned (.bool (eO s))∧w=w':=by
 have HMX:=aim hs;unfold maxLen at hs;rw [xw]
 by_cases h:s.size≤60
 ·rw [decide_eq_true h,Bool.true_and]
  have z:decide ((s.size:Int)≤60)=true:=decide_eq_true (by omega)
  cases hp:aI s.data.toList with
  |false=>
   go_enter Tryz.func59,Tryz.ntmps59
   go_wp2_with fail;refine (gE s _ HMX.out).mono ?_;rintro e w' ⟨rfl,rfl⟩;rw [hp];go_wp2;go_ret;exact ⟨rfl,rfl⟩
  |true=>
   cases h9:fq s
   all_goals
    go_enter Tryz.func59,Tryz.ntmps59
    go_wp2_with fail;refine (gE s _ HMX.out).mono ?_;rintro e w' ⟨rfl,rfl⟩;rw [hp];go_wp2_with fail;refine (xx s _ HMX.out).mono ?_;rintro e w' ⟨rfl,rfl⟩;rw [h9];go_wp2;go_ret;exact ⟨rfl,rfl⟩
 ·rw [decide_eq_false h,Bool.false_and]
  have z:decide ((s.size:Int)≤60)=false:=decide_eq_false (by omega)
  go_enter Tryz.func59,Tryz.ntmps59
  go_wp2;go_ret;exact ⟨rfl,rfl⟩
theorem af3 (s:ByteArray):eO s=(aT s&&(decide (s.size≤60)&&(!eH s.data.toList 10&& !fq s))):=by
 unfold eO fq;simp only [Bool.not_or,bne]
theorem sb (s:ByteArray) (w:World) (hs:s.size≤maxLen):
  Calls Tryz.prog 46 #[.string s] w fun e w'=>e= .returned (.bool (eO s))∧w=w':=by
 have HMX:=aim hs;have HHX:=aim (fc s 10 w hs (by omega) (by omega));unfold maxLen at hs;rw [af3]
 cases h0:aT s with
 |false=>
  go_enter Tryz.func46,Tryz.ntmps46
  go_wp2_with fail;refine (aR s _ HMX.out).mono ?_;rintro e w' ⟨rfl,rfl⟩;rw [h0];go_wp2;go_ret;exact ⟨rfl,rfl⟩
 |true=>
  by_cases h:s.size≤60
  ·rw [decide_eq_true h]
   have z:decide ((s.size:Int)≤60)=true:=decide_eq_true (by omega)
   cases hh:eH s.data.toList 10 with
   |true=>
    go_enter Tryz.func46,Tryz.ntmps46
    go_wp2_with fail;refine (aR s _ HMX.out).mono ?_;rintro e w' ⟨rfl,rfl⟩;rw [h0];go_wp2_with fail;refine HHX.out.mono ?_;rintro e w' ⟨rfl,rfl⟩;rw [hh];go_wp2;go_ret;exact ⟨rfl,rfl⟩
   |false=>
    cases he:emB s with
    |true=>
     obtain ⟨a1,a2,a3,a4⟩:=kq he
     have hz:s.data.toList=[]:=by rw [←ByteArray.toList_eq];exact a2
     rw [show fq s=false by unfold fq;rw [hz];rfl];clear hz
     go_enter Tryz.func46,Tryz.ntmps46
     go_wp2_with fail;refine (aR s _ HMX.out).mono ?_;rintro e w' ⟨rfl,rfl⟩;rw [h0];go_wp2_with fail;refine HHX.out.mono ?_;rintro e w' ⟨rfl,rfl⟩;rw [hh];go_wp2;go_ret;exact ⟨rfl,rfl⟩
    |false=>
     obtain ⟨a1,a2,a3,a4⟩:=mh he
     have hp:0<s.size:=by
      rcases Nat.eq_zero_or_pos s.size with e|e
      ·exfalso;unfold emB at he;rw [e] at he;cases he
      ·exact e
     rw [rA s hp]
     have e1:((s.size:Int)-1).toNat=s.size-1:=by omega
     cases h1:((s[0].toNat:Int)==32)
     ·have n1:((s[0].toNat:Int) !=32)=true:=by rw [bne,h1];rfl
      cases h2:((s[s.size-1].toNat:Int)==32)
      all_goals
       have n2:=congrArg Bool.not h2;rw [show (!((s[s.size-1].toNat:Int)==32))=((s[s.size-1].toNat:Int) !=32) from rfl] at n2;simp only [Bool.not_true,Bool.not_false] at n2
       go_enter Tryz.func46,Tryz.ntmps46
       go_wp2_with fail;refine (aR s _ HMX.out).mono ?_;rintro e w' ⟨rfl,rfl⟩;rw [h0];go_wp2_with fail;refine HHX.out.mono ?_;rintro e w' ⟨rfl,rfl⟩;rw [hh];go_wp2;go_ret;exact ⟨rfl,rfl⟩
     ·have n1:((s[0].toNat:Int) !=32)=false:=by rw [bne,h1];rfl
      go_enter Tryz.func46,Tryz.ntmps46
      go_wp2_with fail;refine (aR s _ HMX.out).mono ?_;rintro e w' ⟨rfl,rfl⟩;rw [h0];go_wp2_with fail;refine HHX.out.mono ?_;rintro e w' ⟨rfl,rfl⟩;rw [hh];go_wp2;go_ret;exact ⟨rfl,rfl⟩
  ·rw [decide_eq_false h]
   have z:decide ((s.size:Int)≤60)=false:=decide_eq_false (by omega)
   go_enter Tryz.func46,Tryz.ntmps46
   go_wp2_with fail;refine (aR s _ HMX.out).mono ?_;rintro e w' ⟨rfl,rfl⟩;rw [h0];go_wp2;go_ret;exact ⟨rfl,rfl⟩
theorem fw (s:ByteArray) (w:World) (hs:s.size≤maxLen):
  Calls Tryz.prog 47 #[.string s] w fun e w'=>e= .returned (.bool (gi s))∧w=w':=by
 unfold gi
 cases hp:dn s.data.toList with
 |false=>
  go_enter Tryz.func47,Tryz.ntmps47
  go_wp2_with fail;refine (cW s _ hs).mono ?_;rintro e w' ⟨rfl,rfl⟩;rw [hp];go_wp2;go_ret;exact ⟨rfl,rfl⟩
 |true=>
  have HH:=aim (fc s 46 w hs (by omega) (by omega))
  cases h9:eH s.data.toList 46
  all_goals
   go_enter Tryz.func47,Tryz.ntmps47
   go_wp2_with fail;refine (cW s _ hs).mono ?_;rintro e w' ⟨rfl,rfl⟩;rw [hp];go_wp2_with fail;refine HH.out.mono ?_;rintro e w' ⟨rfl,rfl⟩;rw [h9];go_wp2;go_ret;exact ⟨rfl,rfl⟩
theorem aec (n:ByteArray) (l:List Cl) (t:ByteArray) (u:Value) (w:World) (hr:RowC w u l) (hn:n.size≤maxLen) (hz:dQ l) (hl:l.length≤1048576) (ht:t.size≤maxLen):
  Calls Tryz.prog 13 #[.agg #[.int .i64 1, .string n,u, .string t]] w fun e w'=>e= .returned (.bool (emB n&&(l.isEmpty&&emB t)))∧Below w.heap.size w w':=by
 have HB0:=aim ((Below.refl w.heap.size w).alloc (ain _) (.cells #[.int .i64 1, .string n,u, .string t] 25));obtain ⟨ao,cap,rfl,-⟩:=hr
 cases h1:emB n with
 |false=>
  obtain ⟨a1,a2,a3,a4⟩:=mh h1;clear hz
  go_enter Tryz.func13,Tryz.ntmps13
  go_wp2;go_ret;exact ⟨rfl,HB0.out⟩
 |true=>
  obtain ⟨a1,a2,a3,a4⟩:=kq h1
  cases h2:l.isEmpty with
  |false=>
   have b1:=(uk h2).1;clear hz
   go_enter Tryz.func13,Tryz.ntmps13
   go_wp2;go_ret;exact ⟨rfl,HB0.out⟩
  |true=>
   have b1:=(uj h2).1
   cases h3:emB t with
   |false=>
    obtain ⟨c1,c2,c3,c4⟩:=mh h3;clear hz
    go_enter Tryz.func13,Tryz.ntmps13
    go_wp2;go_ret;exact ⟨rfl,HB0.out⟩
   |true=>
    obtain ⟨c1,c2,c3,c4⟩:=kq h3;clear hz
    go_enter Tryz.func13,Tryz.ntmps13
    go_wp2;go_ret;exact ⟨rfl,HB0.out⟩
theorem aed (n:ByteArray) (l:List Cl) (t:ByteArray) (u:Value) (w:World) (hr:RowC w u l) (hn:n.size≤maxLen) (hz:dQ l) (hl:l.length≤1048576) (ht:t.size≤maxLen):
  Calls Tryz.prog 13 #[.agg #[.int .i64 5, .string n,u, .string t]] w fun e w'=>e= .returned (.bool (emB n&&(l.isEmpty&&emB t)))∧Below w.heap.size w w':=by
 have HB0:=aim ((Below.refl w.heap.size w).alloc (ain _) (.cells #[.int .i64 5, .string n,u, .string t] 25));obtain ⟨ao,cap,rfl,-⟩:=hr
 cases h1:emB n with
 |false=>
  obtain ⟨a1,a2,a3,a4⟩:=mh h1;clear hz
  go_enter Tryz.func13,Tryz.ntmps13
  go_wp2;go_ret;exact ⟨rfl,HB0.out⟩
 |true=>
  obtain ⟨a1,a2,a3,a4⟩:=kq h1
  cases h2:l.isEmpty with
  |false=>
   have b1:=(uk h2).1;clear hz
   go_enter Tryz.func13,Tryz.ntmps13
   go_wp2;go_ret;exact ⟨rfl,HB0.out⟩
  |true=>
   have b1:=(uj h2).1
   cases h3:emB t with
   |false=>
    obtain ⟨c1,c2,c3,c4⟩:=mh h3;clear hz
    go_enter Tryz.func13,Tryz.ntmps13
    go_wp2;go_ret;exact ⟨rfl,HB0.out⟩
   |true=>
    obtain ⟨c1,c2,c3,c4⟩:=kq h3;clear hz
    go_enter Tryz.func13,Tryz.ntmps13
    go_wp2;go_ret;exact ⟨rfl,HB0.out⟩
theorem aee (n:ByteArray) (l:List Cl) (t:ByteArray) (u:Value) (w:World) (hr:RowC w u l) (hn:n.size≤maxLen) (hz:dQ l) (hl:l.length≤1048576) (ht:t.size≤maxLen):
  Calls Tryz.prog 13 #[.agg #[.int .i64 2, .string n,u, .string t]] w fun e w'=>e= .returned (.bool (emB n&&(l.isEmpty&&eO t)))∧Below w.heap.size w w':=by
 have HB0:=aim ((Below.refl w.heap.size w).alloc (ain _) (.cells #[.int .i64 2, .string n,u, .string t] 25));obtain ⟨ao,cap,rfl,-⟩:=hr
 cases h1:emB n with
 |false=>
  obtain ⟨a1,a2,a3,a4⟩:=mh h1;clear hz
  go_enter Tryz.func13,Tryz.ntmps13
  go_wp2;go_ret;exact ⟨rfl,HB0.out⟩
 |true=>
  obtain ⟨a1,a2,a3,a4⟩:=kq h1
  cases h2:l.isEmpty with
  |false=>
   have b1:=(uk h2).1;clear hz
   go_enter Tryz.func13,Tryz.ntmps13
   go_wp2;go_ret;exact ⟨rfl,HB0.out⟩
  |true=>
   have b1:=(uj h2).1;clear hz
   cases h9:eO t
   all_goals
    go_enter Tryz.func13,Tryz.ntmps13
    go_wp2_with fail;refine (sb t _ ht).mono ?_;rintro e w1 ⟨rfl,rfl⟩;rw [h9];go_wp2;go_ret;exact ⟨rfl,HB0.out⟩
theorem aef (n:ByteArray) (l:List Cl) (t:ByteArray) (u:Value) (w:World) (hr:RowC w u l) (hn:n.size≤maxLen) (hz:dQ l) (hl:l.length≤1048576) (ht:t.size≤maxLen):
  Calls Tryz.prog 13 #[.agg #[.int .i64 3, .string n,u, .string t]] w fun e w'=>e= .returned (.bool (gi n&&(okE l&&eO t)))∧Below w.heap.size w w':=by
 have HB0:=aim ((Below.refl w.heap.size w).alloc (ain _) (.cells #[.int .i64 3, .string n,u, .string t] 25));have HRX:=aim (hr.mono HB0.out);have HX:=aim (kC u l _ HRX.out hz hl);obtain ⟨ao,cap,rfl,-⟩:=hr;have HBX:=aim (fun w1 (h:Below (w.alloc (.cells #[.int .i64 3, .string n, .slice ao l.length cap, .string t] 25)).heap.size (w.alloc (.cells #[.int .i64 3, .string n, .slice ao l.length cap, .string t] 25)) w1)=>ahT h);clear hz
 cases h1:gi n with
 |false=>
  go_enter Tryz.func13,Tryz.ntmps13
  go_wp2_with fail;refine (fw n _ hn).mono ?_;rintro e w1 ⟨rfl,rfl⟩;rw [h1];go_wp2;go_ret;exact ⟨rfl,HB0.out⟩
 |true=>
  cases h2:okE l with
  |false=>
   go_enter Tryz.func13,Tryz.ntmps13
   go_wp2_with fail;refine (fw n _ hn).mono ?_;rintro e w1 ⟨rfl,rfl⟩;rw [h1];go_wp2_with fail;refine HX.out.mono ?_;rintro e w1 ⟨rfl,hb1⟩;have HB1:=aim (HB0.out.trans (hb1.mono HB0.out.size));clear hb1;rw [h2];go_wp2;go_ret;exact ⟨rfl,HB1.out⟩
  |true=>
   cases h9:eO t
   all_goals
    go_enter Tryz.func13,Tryz.ntmps13
    go_wp2_with fail;refine (fw n _ hn).mono ?_;rintro e w1 ⟨rfl,rfl⟩;rw [h1];go_wp2_with fail;refine HX.out.mono ?_;rintro e w1 ⟨rfl,hb1⟩;obtain ⟨d0,d1,d2,d3⟩:=HBX.out w1 hb1;have HB1:=aim (HB0.out.trans (hb1.mono HB0.out.size));clear hb1;rw [h2];go_wp2_with fail;refine (sb t _ ht).mono ?_;rintro e w2 ⟨rfl,rfl⟩;rw [h9];go_wp2;go_ret;exact ⟨rfl,HB1.out⟩
theorem aeg (n:ByteArray) (l:List Cl) (t:ByteArray) (u:Value) (w:World) (hr:RowC w u l) (hn:n.size≤maxLen) (hz:dQ l) (hl:l.length≤1048576) (ht:t.size≤maxLen):
  Calls Tryz.prog 13 #[.agg #[.int .i64 4, .string n,u, .string t]] w fun e w'=>e= .returned (.bool (gi n&&(l.isEmpty&&emB t)))∧Below w.heap.size w w':=by
 have HB0:=aim ((Below.refl w.heap.size w).alloc (ain _) (.cells #[.int .i64 4, .string n,u, .string t] 25));obtain ⟨ao,cap,rfl,-⟩:=hr;clear hz
 cases h1:gi n with
 |false=>
  go_enter Tryz.func13,Tryz.ntmps13
  go_wp2_with fail;refine (fw n _ hn).mono ?_;rintro e w1 ⟨rfl,rfl⟩;rw [h1];go_wp2;go_ret;exact ⟨rfl,HB0.out⟩
 |true=>
  cases h2:l.isEmpty with
  |false=>
   have b1:=(uk h2).1
   go_enter Tryz.func13,Tryz.ntmps13
   go_wp2_with fail;refine (fw n _ hn).mono ?_;rintro e w1 ⟨rfl,rfl⟩;rw [h1];go_wp2;go_ret;exact ⟨rfl,HB0.out⟩
  |true=>
   have b1:=(uj h2).1
   cases h3:emB t with
   |false=>
    obtain ⟨c1,c2,c3,c4⟩:=mh h3
    go_enter Tryz.func13,Tryz.ntmps13
    go_wp2_with fail;refine (fw n _ hn).mono ?_;rintro e w1 ⟨rfl,rfl⟩;rw [h1];go_wp2;go_ret;exact ⟨rfl,HB0.out⟩
   |true=>
    obtain ⟨c1,c2,c3,c4⟩:=kq h3
    go_enter Tryz.func13,Tryz.ntmps13
    go_wp2_with fail;refine (fw n _ hn).mono ?_;rintro e w1 ⟨rfl,rfl⟩;rw [h1];go_wp2;go_ret;exact ⟨rfl,HB0.out⟩
theorem aeh (k:Int) (h1:k≠1) (h2:k≠2) (h3:k≠3) (h4:k≠4) (h5:k≠5) (n:ByteArray) (l:List Cl) (t:ByteArray) (u:Value) (w:World) (hr:RowC w u l) (hn:n.size≤maxLen) (hz:dQ l) (hl:l.length≤1048576) (ht:t.size≤maxLen):
  Calls Tryz.prog 13 #[.agg #[.int .i64 k, .string n,u, .string t]] w fun e w'=>e= .returned (.bool (false))∧Below w.heap.size w w':=by
 have HB0:=aim ((Below.refl w.heap.size w).alloc (ain _) (.cells #[.int .i64 k, .string n,u, .string t] 25));obtain ⟨ao,cap,rfl,-⟩:=hr;clear hz;have a1:(k==1)=false:=beq_eq_false_iff_ne.mpr h1;have a2:(k==2)=false:=beq_eq_false_iff_ne.mpr h2;have a3:(k==3)=false:=beq_eq_false_iff_ne.mpr h3;have a4:(k==4)=false:=beq_eq_false_iff_ne.mpr h4;have a5:(k==5)=false:=beq_eq_false_iff_ne.mpr h5
 go_enter Tryz.func13,Tryz.ntmps13
 go_wp2;go_ret;exact ⟨rfl,HB0.out⟩
theorem bw (i:It) (u:Value) (w:World) (hr:RowC w u i.2.2.1) (hn:i.2.1.size≤maxLen) (hz:dQ i.2.2.1) (hl:i.2.2.1.length≤1048576) (ht:i.2.2.2.size≤maxLen):
  Calls Tryz.prog 13 #[.agg #[.int .i64 i.1, .string i.2.1,u, .string i.2.2.2]] w fun e w'=>e= .returned (.bool (aM i))∧Below w.heap.size w w':=by
 obtain ⟨k,n,l,t⟩:=i;simp only at hr hn hz ht hl⊢;unfold aM;simp only
 by_cases h1:k=1
 ·subst h1;rw [if_pos (.inl rfl)];exact aec n l t u w hr hn hz hl ht
 by_cases h5:k=5
 ·subst h5;rw [if_pos (.inr rfl)];exact aed n l t u w hr hn hz hl ht
 rw [if_neg (by omega)]
 by_cases h2:k=2
 ·subst h2;rw [if_pos rfl];exact aee n l t u w hr hn hz hl ht
 rw [if_neg h2]
 by_cases h3:k=3
 ·subst h3;rw [if_pos rfl];exact aef n l t u w hr hn hz hl ht
 rw [if_neg h3]
 by_cases h4:k=4
 ·subst h4;rw [if_pos rfl];exact aeg n l t u w hr hn hz hl ht
 rw [if_neg h4];exact aeh k h1 h2 h3 h4 h5 n l t u w hr hn hz hl ht
theorem adI (n:ByteArray) (l:List Cl) (t:ByteArray) (u:Value) (w:World) (hr:RowC w u l) (hn:n.size≤maxLen) (hz:em l) (ht:t.size≤maxLen) (htab:Tab w):
  Calls Tryz.prog 19 #[.agg #[.int .i64 1, .string n,u, .string t]] w fun e w'=>e= .returned (.bool (emB n&&(l.isEmpty&&emB t)))∧Below w.heap.size w w':=by
 have HB0:=aim ((Below.refl w.heap.size w).alloc (ain _) (.cells #[.int .i64 1, .string n,u, .string t] 25));obtain ⟨ao,cap,rfl,-⟩:=hr
 cases h1:emB n with
 |false=>
  obtain ⟨a1,a2,a3,a4⟩:=mh h1;clear hz
  go_enter Tryz.func19,Tryz.ntmps19
  go_wp2;go_ret;exact ⟨rfl,HB0.out⟩
 |true=>
  obtain ⟨a1,a2,a3,a4⟩:=kq h1
  cases h2:l.isEmpty with
  |false=>
   have b1:=(uk h2).1;clear hz
   go_enter Tryz.func19,Tryz.ntmps19
   go_wp2;go_ret;exact ⟨rfl,HB0.out⟩
  |true=>
   have b1:=(uj h2).1
   cases h3:emB t with
   |false=>
    obtain ⟨c1,c2,c3,c4⟩:=mh h3;clear hz
    go_enter Tryz.func19,Tryz.ntmps19
    go_wp2;go_ret;exact ⟨rfl,HB0.out⟩
   |true=>
    obtain ⟨c1,c2,c3,c4⟩:=kq h3;clear hz
    go_enter Tryz.func19,Tryz.ntmps19
    go_wp2;go_ret;exact ⟨rfl,HB0.out⟩
theorem adJ (n:ByteArray) (l:List Cl) (t:ByteArray) (u:Value) (w:World) (hr:RowC w u l) (hn:n.size≤maxLen) (hz:em l) (ht:t.size≤maxLen) (htab:Tab w):
  Calls Tryz.prog 19 #[.agg #[.int .i64 5, .string n,u, .string t]] w fun e w'=>e= .returned (.bool (emB n&&(l.isEmpty&&emB t)))∧Below w.heap.size w w':=by
 have HB0:=aim ((Below.refl w.heap.size w).alloc (ain _) (.cells #[.int .i64 5, .string n,u, .string t] 25));obtain ⟨ao,cap,rfl,-⟩:=hr
 cases h1:emB n with
 |false=>
  obtain ⟨a1,a2,a3,a4⟩:=mh h1;clear hz
  go_enter Tryz.func19,Tryz.ntmps19
  go_wp2;go_ret;exact ⟨rfl,HB0.out⟩
 |true=>
  obtain ⟨a1,a2,a3,a4⟩:=kq h1
  cases h2:l.isEmpty with
  |false=>
   have b1:=(uk h2).1;clear hz
   go_enter Tryz.func19,Tryz.ntmps19
   go_wp2;go_ret;exact ⟨rfl,HB0.out⟩
  |true=>
   have b1:=(uj h2).1
   cases h3:emB t with
   |false=>
    obtain ⟨c1,c2,c3,c4⟩:=mh h3;clear hz
    go_enter Tryz.func19,Tryz.ntmps19
    go_wp2;go_ret;exact ⟨rfl,HB0.out⟩
   |true=>
    obtain ⟨c1,c2,c3,c4⟩:=kq h3;clear hz
    go_enter Tryz.func19,Tryz.ntmps19
    go_wp2;go_ret;exact ⟨rfl,HB0.out⟩
theorem adK (n:ByteArray) (l:List Cl) (t:ByteArray) (u:Value) (w:World) (hr:RowC w u l) (hn:n.size≤maxLen) (hz:em l) (ht:t.size≤maxLen) (htab:Tab w):
  Calls Tryz.prog 19 #[.agg #[.int .i64 2, .string n,u, .string t]] w fun e w'=>e= .returned (.bool (emB n&&(l.isEmpty&&eO t)))∧Below w.heap.size w w':=by
 have HB0:=aim ((Below.refl w.heap.size w).alloc (ain _) (.cells #[.int .i64 2, .string n,u, .string t] 25));obtain ⟨ao,cap,rfl,-⟩:=hr
 cases h1:emB n with
 |false=>
  obtain ⟨a1,a2,a3,a4⟩:=mh h1;clear hz
  go_enter Tryz.func19,Tryz.ntmps19
  go_wp2;go_ret;exact ⟨rfl,HB0.out⟩
 |true=>
  obtain ⟨a1,a2,a3,a4⟩:=kq h1
  cases h2:l.isEmpty with
  |false=>
   have b1:=(uk h2).1;clear hz
   go_enter Tryz.func19,Tryz.ntmps19
   go_wp2;go_ret;exact ⟨rfl,HB0.out⟩
  |true=>
   have b1:=(uj h2).1;clear hz
   cases h9:eO t
   all_goals
    go_enter Tryz.func19,Tryz.ntmps19
    go_wp2_with fail;refine (rB t _ ht).mono ?_;rintro e w1 ⟨rfl,rfl⟩;rw [h9];go_wp2;go_ret;exact ⟨rfl,HB0.out⟩
theorem adL (n:ByteArray) (l:List Cl) (t:ByteArray) (u:Value) (w:World) (hr:RowC w u l) (hn:n.size≤maxLen) (hz:em l) (ht:t.size≤maxLen) (htab:Tab w):
  Calls Tryz.prog 19 #[.agg #[.int .i64 3, .string n,u, .string t]] w fun e w'=>e= .returned (.bool (gi n&&(okE l&&eO t)))∧Below w.heap.size w w':=by
 have HB0:=aim ((Below.refl w.heap.size w).alloc (ain _) (.cells #[.int .i64 3, .string n,u, .string t] 25));have HRX:=aim (hr.mono HB0.out);have HTX:=aim (htab.keep HB0.out);have HX:=aim (kL u l _ HRX.out hz HTX.out);obtain ⟨ao,cap,rfl,-⟩:=hr;have HBX:=aim (fun w1 (h:Below (w.alloc (.cells #[.int .i64 3, .string n, .slice ao l.length cap, .string t] 25)).heap.size (w.alloc (.cells #[.int .i64 3, .string n, .slice ao l.length cap, .string t] 25)) w1)=>ahT h);clear hz
 cases h1:gi n with
 |false=>
  go_enter Tryz.func19,Tryz.ntmps19
  go_wp2_with fail;refine (dB n _ hn).mono ?_;rintro e w1 ⟨rfl,rfl⟩;rw [h1];go_wp2;go_ret;exact ⟨rfl,HB0.out⟩
 |true=>
  cases h2:okE l with
  |false=>
   go_enter Tryz.func19,Tryz.ntmps19
   go_wp2_with fail;refine (dB n _ hn).mono ?_;rintro e w1 ⟨rfl,rfl⟩;rw [h1];go_wp2_with fail;refine HX.out.mono ?_;rintro e w1 ⟨rfl,hb1⟩;have HB1:=aim (HB0.out.trans (hb1.mono HB0.out.size));clear hb1;rw [h2];go_wp2;go_ret;exact ⟨rfl,HB1.out⟩
  |true=>
   cases h9:eO t
   all_goals
    go_enter Tryz.func19,Tryz.ntmps19
    go_wp2_with fail;refine (dB n _ hn).mono ?_;rintro e w1 ⟨rfl,rfl⟩;rw [h1];go_wp2_with fail;refine HX.out.mono ?_;rintro e w1 ⟨rfl,hb1⟩;obtain ⟨d0,d1,d2,d3⟩:=HBX.out w1 hb1;have HB1:=aim (HB0.out.trans (hb1.mono HB0.out.size));clear hb1;rw [h2];go_wp2_with fail;refine (rB t _ ht).mono ?_;rintro e w2 ⟨rfl,rfl⟩;rw [h9];go_wp2;go_ret;exact ⟨rfl,HB1.out⟩
theorem adM (n:ByteArray) (l:List Cl) (t:ByteArray) (u:Value) (w:World) (hr:RowC w u l) (hn:n.size≤maxLen) (hz:em l) (ht:t.size≤maxLen) (htab:Tab w):
  Calls Tryz.prog 19 #[.agg #[.int .i64 4, .string n,u, .string t]] w fun e w'=>e= .returned (.bool (gi n&&(l.isEmpty&&emB t)))∧Below w.heap.size w w':=by
 have HB0:=aim ((Below.refl w.heap.size w).alloc (ain _) (.cells #[.int .i64 4, .string n,u, .string t] 25));obtain ⟨ao,cap,rfl,-⟩:=hr;clear hz
 cases h1:gi n with
 |false=>
  go_enter Tryz.func19,Tryz.ntmps19
  go_wp2_with fail;refine (dB n _ hn).mono ?_;rintro e w1 ⟨rfl,rfl⟩;rw [h1];go_wp2;go_ret;exact ⟨rfl,HB0.out⟩
 |true=>
  cases h2:l.isEmpty with
  |false=>
   have b1:=(uk h2).1
   go_enter Tryz.func19,Tryz.ntmps19
   go_wp2_with fail;refine (dB n _ hn).mono ?_;rintro e w1 ⟨rfl,rfl⟩;rw [h1];go_wp2;go_ret;exact ⟨rfl,HB0.out⟩
  |true=>
   have b1:=(uj h2).1
   cases h3:emB t with
   |false=>
    obtain ⟨c1,c2,c3,c4⟩:=mh h3
    go_enter Tryz.func19,Tryz.ntmps19
    go_wp2_with fail;refine (dB n _ hn).mono ?_;rintro e w1 ⟨rfl,rfl⟩;rw [h1];go_wp2;go_ret;exact ⟨rfl,HB0.out⟩
   |true=>
    obtain ⟨c1,c2,c3,c4⟩:=kq h3
    go_enter Tryz.func19,Tryz.ntmps19
    go_wp2_with fail;refine (dB n _ hn).mono ?_;rintro e w1 ⟨rfl,rfl⟩;rw [h1];go_wp2;go_ret;exact ⟨rfl,HB0.out⟩
theorem adN (k:Int) (h1:k≠1) (h2:k≠2) (h3:k≠3) (h4:k≠4) (h5:k≠5) (n:ByteArray) (l:List Cl) (t:ByteArray) (u:Value) (w:World) (hr:RowC w u l) (hn:n.size≤maxLen) (hz:em l) (ht:t.size≤maxLen) (htab:Tab w):
  Calls Tryz.prog 19 #[.agg #[.int .i64 k, .string n,u, .string t]] w fun e w'=>e= .returned (.bool (false))∧Below w.heap.size w w':=by
 have HB0:=aim ((Below.refl w.heap.size w).alloc (ain _) (.cells #[.int .i64 k, .string n,u, .string t] 25));obtain ⟨ao,cap,rfl,-⟩:=hr;clear hz;have a1:(k==1)=false:=beq_eq_false_iff_ne.mpr h1;have a2:(k==2)=false:=beq_eq_false_iff_ne.mpr h2;have a3:(k==3)=false:=beq_eq_false_iff_ne.mpr h3;have a4:(k==4)=false:=beq_eq_false_iff_ne.mpr h4;have a5:(k==5)=false:=beq_eq_false_iff_ne.mpr h5
 go_enter Tryz.func19,Tryz.ntmps19
 go_wp2;go_ret;exact ⟨rfl,HB0.out⟩
theorem fU (i:It) (u:Value) (w:World) (hr:RowC w u i.2.2.1) (hn:i.2.1.size≤maxLen) (hz:em i.2.2.1) (ht:i.2.2.2.size≤maxLen) (htab:Tab w):
  Calls Tryz.prog 19 #[.agg #[.int .i64 i.1, .string i.2.1,u, .string i.2.2.2]] w fun e w'=>e= .returned (.bool (aM i))∧Below w.heap.size w w':=by
 obtain ⟨k,n,l,t⟩:=i;simp only at hr hn hz ht⊢;unfold aM;simp only
 by_cases h1:k=1
 ·subst h1;rw [if_pos (.inl rfl)];exact adI n l t u w hr hn hz ht htab
 by_cases h5:k=5
 ·subst h5;rw [if_pos (.inr rfl)];exact adJ n l t u w hr hn hz ht htab
 rw [if_neg (by omega)]
 by_cases h2:k=2
 ·subst h2;rw [if_pos rfl];exact adK n l t u w hr hn hz ht htab
 rw [if_neg h2]
 by_cases h3:k=3
 ·subst h3;rw [if_pos rfl];exact adL n l t u w hr hn hz ht htab
 rw [if_neg h3]
 by_cases h4:k=4
 ·subst h4;rw [if_pos rfl];exact adM n l t u w hr hn hz ht htab
 rw [if_neg h4];exact adN k h1 h2 h3 h4 h5 n l t u w hr hn hz ht htab
end Go.Proofs.YthijkjnngfnfdaaGreatDoor
