/-
  Part of the proof of FnItemLine.
-/
import Derived.Test.YthijkjnngfnfdaaGreatDoorRowIt
import Derived.Test.YthijkjnngfnfdaaGreatDoorReadLine
import Derived.Test.YthijkjnngfnfdaaGreatDoorToCellS
import Derived.Lib.Strings
import Derived.Below
import Derived.Lib.TrimByte
import Derived.IntWalk
import Derived.WalkKit
import Derived.WalkSpells
import Derived.Lib.Hide
import Derived.BigQuiet
import Derived.Deep.QuietTactic
import Derived.Laws.OwnMore
import Derived.OwnWalk
import Derived.Lib.SmallJoins
set_option linter.unusedVariables false
set_option maxHeartbeats 8000000
set_option maxRecDepth 100000
namespace Go.Proofs.YthijkjnngfnfdaaGreatDoor
open Go.RowKit
theorem one_list (s:ByteArray) (k:Nat) (h:k<s.size):(s.extract k (k+1)).data.toList=[s[k]]:=by
 have hl:s.data.toList.length=s.size:=by rw [Array.length_toList];rfl
 rw [Lib.extract_data,List.drop_eq_getElem_cons (by omega),show k+1-k=1 by omega]
 rfl
theorem quote_step' (s:ByteArray) (k:Nat) (h:k<s.size):quoteI (s.data.toList.take (k+1))=quoteI (s.data.toList.take k)++quoteC s[k]:=by
 rw [take_snoc s k h,quoteI_snoc]
theorem quoteT_none {s:ByteArray} (h:textB s=false):quoteT s=⟨#[]⟩:=by unfold quoteT;rw [h];rfl
theorem textB_sz {s:ByteArray} (h:textB s=true):s.size≤20000:=by
 simp only [textB,Bool.and_eq_true,decide_eq_true_eq] at h;exact h.1
theorem quoteText_spec (s:ByteArray) (w:World) (hs:s.size≤maxLen):
  Calls Tryz.prog 131 #[.string s] w fun e w'=>e= .returned (.string (quoteT s))∧w=w':=by
 cases ht:textB s with
 |false=>
  rw [quoteT_none ht]
  go_enter Tryz.func131,Tryz.ntmps131
  go_wp2_with fail
  refine (textValid_spec s _ hs).mono ?_
  rintro e w' ⟨rfl,rfl⟩
  rw [ht]
  go_wp2
  go_ret
  exact ⟨rfl,rfl⟩
 |true=>
  have hs2:=textB_sz ht
  have HS:=Lib.hid hs
  have HT:=Lib.hid ht
  clear ht hs
  go_enter Tryz.func131,Tryz.ntmps131
  go_wp2_with fail
  refine (textValid_spec s _ HS.out).mono ?_
  rintro e w' ⟨rfl,rfl⟩
  rw [HT.out]
  go_wp2_with fail
  go_loop [3,4] (fun o i=> ∃(k:Nat) (q:ByteArray),k≤s.size∧i= .int .i64 k∧o= .string q∧q.data.toList=34::quoteI (s.data.toList.take k)∧q.size≤2*k+1) (fun _ i=>s.size-(intOf i).toNat)
  case atStart=>exact ⟨0,_,Nat.zero_le _,rfl,rfl,rfl,by show (1:Nat)≤1;omega⟩
  case round=>
   obtain ⟨k,q,hk,rfl,rfl,hq,hz⟩:=hrel
   have HQ:=Lib.hid hq
   clear hq
   by_cases hlt:k<s.size
   ·have hb0:(s[k].toNat:Int)≤255:=by have:=s[k].toNat_lt;omega
    have HN:=Lib.hid (quote_step' s k hlt)
    have HO:=Lib.hid (one_list s k hlt)
    have hoz:(s.extract k (k+1)).size=1:=by rw [ByteArray.size_extract];omega
    by_cases h10:s[k]=10
    ·have HC:=Lib.hid (show quoteC s[k]=[92,110] by rw [h10];rfl)
     have t1:((s[k].toNat:Int)==10)=true:=by rw [h10];rfl
     clear h10
     go_wp2
     go_round
     case rel=>exact ⟨k+1,_,by omega,by go_num,rfl,by rw [HN.out,HC.out];have:=HQ.out;simp [this],by rw [ByteArray.size_append];show q.size+2≤_;omega⟩
     case measure=>simp [intOf];omega
    ·have t1:((s[k].toNat:Int)==10)=false:=by
      rw [beq_eq_false_iff_ne];intro e;exact h10 (UInt8.toNat_inj.mp (by rw [show (10:UInt8).toNat=10 from rfl];omega))
     by_cases h34:s[k]=34∨s[k]=92
     ·have HC:=Lib.hid (show quoteC s[k]=[92,s[k]] by unfold quoteC;rw [if_neg h10,if_pos h34])
      by_cases h3:s[k]=34
      ·have t2:((s[k].toNat:Int)==34)=true:=by rw [h3];rfl
       clear h10 h34 h3
       go_wp2
       go_round
       case rel=>exact ⟨k+1,_,by omega,by go_num,rfl,by rw [HN.out,HC.out];have:=HQ.out;have h4:=HO.out;simp only [ByteArray.data_append,Array.toList_append,this,h4];simp,by simp only [ByteArray.size_append];rw [hoz];show q.size+1+1≤_;omega⟩
       case measure=>simp [intOf];omega
      ·have t2:((s[k].toNat:Int)==34)=false:=by
        rw [beq_eq_false_iff_ne];intro e;exact h3 (UInt8.toNat_inj.mp (by rw [show (34:UInt8).toNat=34 from rfl];omega))
       have t3:((s[k].toNat:Int)==92)=true:=by rw [h34.resolve_left h3];rfl
       clear h10 h34 h3
       go_wp2
       go_round
       case rel=>exact ⟨k+1,_,by omega,by go_num,rfl,by rw [HN.out,HC.out];have:=HQ.out;have h4:=HO.out;simp only [ByteArray.data_append,Array.toList_append,this,h4];simp,by simp only [ByteArray.size_append];rw [hoz];show q.size+1+1≤_;omega⟩
       case measure=>simp [intOf];omega
     ·have HC:=Lib.hid (show quoteC s[k]=[s[k]] by unfold quoteC;rw [if_neg h10,if_neg h34])
      have t2:((s[k].toNat:Int)==34)=false:=by
       rw [beq_eq_false_iff_ne];intro e;exact h34 (.inl (UInt8.toNat_inj.mp (by rw [show (34:UInt8).toNat=34 from rfl];omega)))
      have t3:((s[k].toNat:Int)==92)=false:=by
       rw [beq_eq_false_iff_ne];intro e;exact h34 (.inr (UInt8.toNat_inj.mp (by rw [show (92:UInt8).toNat=92 from rfl];omega)))
      clear h10 h34
      go_wp2
      go_round
      case rel=>exact ⟨k+1,_,by omega,by go_num,rfl,by rw [HN.out,HC.out];have:=HQ.out;have h4:=HO.out;simp only [ByteArray.data_append,Array.toList_append,this,h4];simp,by simp only [ByteArray.size_append];rw [hoz];omega⟩
      case measure=>simp [intOf];omega
   ·obtain rfl:k=s.size:=by omega
    go_wp2
    go_ret
    have h5:=HQ.out
    rw [List.take_of_length_le (by simp)] at h5
    have h6:quoteT s=q++⟨#[34]⟩:=by
     unfold quoteT quoteL
     rw [if_pos HT.out]
     exact ba_eq (by simp [h5])
    rw [h6]
    exact ⟨rfl,rfl⟩
theorem last_get (s:ByteArray) (h:0<s.size):s.data.toList.getLast? =some s[s.size-1]:=by
 have hl:s.data.toList.length=s.size:=by rw [Array.length_toList];rfl
 rw [List.getLast?_eq_getElem?,hl,List.getElem?_eq_getElem (by omega)];rfl
theorem head_get (s:ByteArray) (h:0<s.size):s.data.toList.head? =some s[0]:=by
 have hl:s.data.toList.length=s.size:=by rw [Array.length_toList];rfl
 rw [List.head?_eq_getElem?,List.getElem?_eq_getElem (by omega)];rfl
def spacedB (s:ByteArray):Bool:=s.data.toList.head? ==some 32||s.data.toList.getLast? ==some 32
theorem note_plain (s:ByteArray):noteB s=(decide (s.size≤60)&&(plainL s.data.toList&& !spacedB s)):=by
 unfold noteB spacedB textB
 rw [plain_iff]
 by_cases h:s.size≤60
 ·rw [decide_eq_true h,decide_eq_true (show s.size≤20000 by omega)]
  simp only [Bool.true_and,Bool.not_or,bne]
  rw [Bool.and_assoc]
 ·rw [decide_eq_false h];simp
theorem spaced_at (s:ByteArray) (h:0<s.size):spacedB s=((((s[0].toNat:Int))==32)||(((s[s.size-1].toNat:Int))==32)):=by
 unfold spacedB
 rw [head_get s h,last_get s h,show (32:Int)=((32:UInt8).toNat:Int) from rfl,byte_eq,byte_eq]
 rfl
theorem spaced_any (s:ByteArray) (w:World) (hs:s.size≤maxLen):
  Calls Tryz.prog 111 #[.string s] w fun e w'=>e= .returned (.bool (spacedB s))∧w=w':=by
 unfold maxLen at hs
 cases h:emB s with
 |true=>
  obtain ⟨a1,a2,a3,a4⟩:=em_t h
  have hz:s.data.toList=[]:=by rw [←ByteArray.toList_eq];exact a2
  rw [show spacedB s=false by unfold spacedB;rw [hz];rfl]
  clear hz
  go_enter Tryz.func111,Tryz.ntmps111
  go_wp2
  go_ret
  exact ⟨rfl,rfl⟩
 |false=>
  obtain ⟨a1,a2,a3,a4⟩:=em_f h
  have hp:0<s.size:=by
   rcases Nat.eq_zero_or_pos s.size with e|e
   ·exfalso;unfold emB at h;rw [e] at h;cases h
   ·exact e
  rw [spaced_at s hp]
  have e1:((s.size:Int)-1).toNat=s.size-1:=by omega
  cases h1:((s[0].toNat:Int)==32)
  ·cases h2:((s[s.size-1].toNat:Int)==32)
   all_goals
    go_enter Tryz.func111,Tryz.ntmps111
    go_wp2
    go_ret
    exact ⟨rfl,rfl⟩
  ·go_enter Tryz.func111,Tryz.ntmps111
   go_wp2
   go_ret
   exact ⟨rfl,rfl⟩
theorem note_impl (s:ByteArray) (w:World) (hs:s.size≤maxLen):
  Calls Tryz.prog 59 #[.string s] w fun e w'=>e= .returned (.bool (noteB s))∧w=w':=by
 have HMX:=Lib.hid hs
 unfold maxLen at hs
 rw [note_plain]
 by_cases h:s.size≤60
 ·rw [decide_eq_true h,Bool.true_and]
  have z:decide ((s.size:Int)≤60)=true:=decide_eq_true (by omega)
  cases hp:plainL s.data.toList with
  |false=>
   go_enter Tryz.func59,Tryz.ntmps59
   go_wp2_with fail
   refine (plainLine_any s _ HMX.out).mono ?_
   rintro e w' ⟨rfl,rfl⟩
   rw [hp]
   go_wp2
   go_ret
   exact ⟨rfl,rfl⟩
  |true=>
   cases h9:spacedB s
   all_goals
    go_enter Tryz.func59,Tryz.ntmps59
    go_wp2_with fail
    refine (plainLine_any s _ HMX.out).mono ?_
    rintro e w' ⟨rfl,rfl⟩
    rw [hp]
    go_wp2_with fail
    refine (spaced_any s _ HMX.out).mono ?_
    rintro e w' ⟨rfl,rfl⟩
    rw [h9]
    go_wp2
    go_ret
    exact ⟨rfl,rfl⟩
 ·rw [decide_eq_false h,Bool.false_and]
  have z:decide ((s.size:Int)≤60)=false:=decide_eq_false (by omega)
  go_enter Tryz.func59,Tryz.ntmps59
  go_wp2
  go_ret
  exact ⟨rfl,rfl⟩
theorem note_of (s:ByteArray):noteB s=(textB s&&(decide (s.size≤60)&&(!hasL s.data.toList 10&& !spacedB s))):=by
 unfold noteB spacedB
 simp only [Bool.not_or,bne]
theorem note_spec (s:ByteArray) (w:World) (hs:s.size≤maxLen):
  Calls Tryz.prog 46 #[.string s] w fun e w'=>e= .returned (.bool (noteB s))∧w=w':=by
 have HMX:=Lib.hid hs
 have HHX:=Lib.hid (l1Has_any s 10 w hs (by omega) (by omega))
 unfold maxLen at hs
 rw [note_of]
 cases h0:textB s with
 |false=>
  go_enter Tryz.func46,Tryz.ntmps46
  go_wp2_with fail
  refine (textValid_spec s _ HMX.out).mono ?_
  rintro e w' ⟨rfl,rfl⟩
  rw [h0]
  go_wp2
  go_ret
  exact ⟨rfl,rfl⟩
 |true=>
  by_cases h:s.size≤60
  ·rw [decide_eq_true h]
   have z:decide ((s.size:Int)≤60)=true:=decide_eq_true (by omega)
   cases hh:hasL s.data.toList 10 with
   |true=>
    go_enter Tryz.func46,Tryz.ntmps46
    go_wp2_with fail
    refine (textValid_spec s _ HMX.out).mono ?_
    rintro e w' ⟨rfl,rfl⟩
    rw [h0]
    go_wp2_with fail
    refine HHX.out.mono ?_
    rintro e w' ⟨rfl,rfl⟩
    rw [hh]
    go_wp2
    go_ret
    exact ⟨rfl,rfl⟩
   |false=>
    cases he:emB s with
    |true=>
     obtain ⟨a1,a2,a3,a4⟩:=em_t he
     have hz:s.data.toList=[]:=by rw [←ByteArray.toList_eq];exact a2
     rw [show spacedB s=false by unfold spacedB;rw [hz];rfl]
     clear hz
     go_enter Tryz.func46,Tryz.ntmps46
     go_wp2_with fail
     refine (textValid_spec s _ HMX.out).mono ?_
     rintro e w' ⟨rfl,rfl⟩
     rw [h0]
     go_wp2_with fail
     refine HHX.out.mono ?_
     rintro e w' ⟨rfl,rfl⟩
     rw [hh]
     go_wp2
     go_ret
     exact ⟨rfl,rfl⟩
    |false=>
     obtain ⟨a1,a2,a3,a4⟩:=em_f he
     have hp:0<s.size:=by
      rcases Nat.eq_zero_or_pos s.size with e|e
      ·exfalso;unfold emB at he;rw [e] at he;cases he
      ·exact e
     rw [spaced_at s hp]
     have e1:((s.size:Int)-1).toNat=s.size-1:=by omega
     cases h1:((s[0].toNat:Int)==32)
     ·have n1:((s[0].toNat:Int) !=32)=true:=by rw [bne,h1];rfl
      cases h2:((s[s.size-1].toNat:Int)==32)
      all_goals
       have n2:=congrArg Bool.not h2
       rw [show (!((s[s.size-1].toNat:Int)==32))=((s[s.size-1].toNat:Int) !=32) from rfl] at n2
       simp only [Bool.not_true,Bool.not_false] at n2
       go_enter Tryz.func46,Tryz.ntmps46
       go_wp2_with fail
       refine (textValid_spec s _ HMX.out).mono ?_
       rintro e w' ⟨rfl,rfl⟩
       rw [h0]
       go_wp2_with fail
       refine HHX.out.mono ?_
       rintro e w' ⟨rfl,rfl⟩
       rw [hh]
       go_wp2
       go_ret
       exact ⟨rfl,rfl⟩
     ·have n1:((s[0].toNat:Int) !=32)=false:=by rw [bne,h1];rfl
      go_enter Tryz.func46,Tryz.ntmps46
      go_wp2_with fail
      refine (textValid_spec s _ HMX.out).mono ?_
      rintro e w' ⟨rfl,rfl⟩
      rw [h0]
      go_wp2_with fail
      refine HHX.out.mono ?_
      rintro e w' ⟨rfl,rfl⟩
      rw [hh]
      go_wp2
      go_ret
      exact ⟨rfl,rfl⟩
  ·rw [decide_eq_false h]
   have z:decide ((s.size:Int)≤60)=false:=decide_eq_false (by omega)
   go_enter Tryz.func46,Tryz.ntmps46
   go_wp2_with fail
   refine (textValid_spec s _ HMX.out).mono ?_
   rintro e w' ⟨rfl,rfl⟩
   rw [h0]
   go_wp2
   go_ret
   exact ⟨rfl,rfl⟩
theorem simple_any (s:ByteArray) (w:World) (hs:s.size≤maxLen):
  Calls Tryz.prog 47 #[.string s] w fun e w'=>e= .returned (.bool (simpB s))∧w=w':=by
 unfold simpB
 cases hp:nameL s.data.toList with
 |false=>
  go_enter Tryz.func47,Tryz.ntmps47
  go_wp2_with fail
  refine (nameValid_spec s _ hs).mono ?_
  rintro e w' ⟨rfl,rfl⟩
  rw [hp]
  go_wp2
  go_ret
  exact ⟨rfl,rfl⟩
 |true=>
  have HH:=Lib.hid (l1Has_any s 46 w hs (by omega) (by omega))
  cases h9:hasL s.data.toList 46
  all_goals
   go_enter Tryz.func47,Tryz.ntmps47
   go_wp2_with fail
   refine (nameValid_spec s _ hs).mono ?_
   rintro e w' ⟨rfl,rfl⟩
   rw [hp]
   go_wp2_with fail
   refine HH.out.mono ?_
   rintro e w' ⟨rfl,rfl⟩
   rw [h9]
   go_wp2
   go_ret
   exact ⟨rfl,rfl⟩
theorem itemS_k1 (n:ByteArray) (l:List Cl) (t:ByteArray) (u:Value) (w:World) (hr:RowC w u l) (hn:n.size≤maxLen) (hz:ShortC l) (hl:l.length≤1048576) (ht:t.size≤maxLen):
  Calls Tryz.prog 13 #[.agg #[.int .i64 1, .string n,u, .string t]] w fun e w'=>e= .returned (.bool (emB n&&(l.isEmpty&&emB t)))∧Below w.heap.size w w':=by
 have HB0:=Lib.hid ((Below.refl w.heap.size w).alloc (Nat.le_refl _) (.cells #[.int .i64 1, .string n,u, .string t] 25))
 obtain ⟨ao,cap,rfl,-⟩:=hr
 cases h1:emB n with
 |false=>
  obtain ⟨a1,a2,a3,a4⟩:=em_f h1
  clear hz
  go_enter Tryz.func13,Tryz.ntmps13
  go_wp2
  go_ret
  exact ⟨rfl,HB0.out⟩
 |true=>
  obtain ⟨a1,a2,a3,a4⟩:=em_t h1
  cases h2:l.isEmpty with
  |false=>
   have b1:=(le_f h2).1
   clear hz
   go_enter Tryz.func13,Tryz.ntmps13
   go_wp2
   go_ret
   exact ⟨rfl,HB0.out⟩
  |true=>
   have b1:=(le_t h2).1
   cases h3:emB t with
   |false=>
    obtain ⟨c1,c2,c3,c4⟩:=em_f h3
    clear hz
    go_enter Tryz.func13,Tryz.ntmps13
    go_wp2
    go_ret
    exact ⟨rfl,HB0.out⟩
   |true=>
    obtain ⟨c1,c2,c3,c4⟩:=em_t h3
    clear hz
    go_enter Tryz.func13,Tryz.ntmps13
    go_wp2
    go_ret
    exact ⟨rfl,HB0.out⟩
theorem itemS_k5 (n:ByteArray) (l:List Cl) (t:ByteArray) (u:Value) (w:World) (hr:RowC w u l) (hn:n.size≤maxLen) (hz:ShortC l) (hl:l.length≤1048576) (ht:t.size≤maxLen):
  Calls Tryz.prog 13 #[.agg #[.int .i64 5, .string n,u, .string t]] w fun e w'=>e= .returned (.bool (emB n&&(l.isEmpty&&emB t)))∧Below w.heap.size w w':=by
 have HB0:=Lib.hid ((Below.refl w.heap.size w).alloc (Nat.le_refl _) (.cells #[.int .i64 5, .string n,u, .string t] 25))
 obtain ⟨ao,cap,rfl,-⟩:=hr
 cases h1:emB n with
 |false=>
  obtain ⟨a1,a2,a3,a4⟩:=em_f h1
  clear hz
  go_enter Tryz.func13,Tryz.ntmps13
  go_wp2
  go_ret
  exact ⟨rfl,HB0.out⟩
 |true=>
  obtain ⟨a1,a2,a3,a4⟩:=em_t h1
  cases h2:l.isEmpty with
  |false=>
   have b1:=(le_f h2).1
   clear hz
   go_enter Tryz.func13,Tryz.ntmps13
   go_wp2
   go_ret
   exact ⟨rfl,HB0.out⟩
  |true=>
   have b1:=(le_t h2).1
   cases h3:emB t with
   |false=>
    obtain ⟨c1,c2,c3,c4⟩:=em_f h3
    clear hz
    go_enter Tryz.func13,Tryz.ntmps13
    go_wp2
    go_ret
    exact ⟨rfl,HB0.out⟩
   |true=>
    obtain ⟨c1,c2,c3,c4⟩:=em_t h3
    clear hz
    go_enter Tryz.func13,Tryz.ntmps13
    go_wp2
    go_ret
    exact ⟨rfl,HB0.out⟩
theorem itemS_k2 (n:ByteArray) (l:List Cl) (t:ByteArray) (u:Value) (w:World) (hr:RowC w u l) (hn:n.size≤maxLen) (hz:ShortC l) (hl:l.length≤1048576) (ht:t.size≤maxLen):
  Calls Tryz.prog 13 #[.agg #[.int .i64 2, .string n,u, .string t]] w fun e w'=>e= .returned (.bool (emB n&&(l.isEmpty&&noteB t)))∧Below w.heap.size w w':=by
 have HB0:=Lib.hid ((Below.refl w.heap.size w).alloc (Nat.le_refl _) (.cells #[.int .i64 2, .string n,u, .string t] 25))
 obtain ⟨ao,cap,rfl,-⟩:=hr
 cases h1:emB n with
 |false=>
  obtain ⟨a1,a2,a3,a4⟩:=em_f h1
  clear hz
  go_enter Tryz.func13,Tryz.ntmps13
  go_wp2
  go_ret
  exact ⟨rfl,HB0.out⟩
 |true=>
  obtain ⟨a1,a2,a3,a4⟩:=em_t h1
  cases h2:l.isEmpty with
  |false=>
   have b1:=(le_f h2).1
   clear hz
   go_enter Tryz.func13,Tryz.ntmps13
   go_wp2
   go_ret
   exact ⟨rfl,HB0.out⟩
  |true=>
   have b1:=(le_t h2).1
   clear hz
   cases h9:noteB t
   all_goals
    go_enter Tryz.func13,Tryz.ntmps13
    go_wp2_with fail
    refine (note_spec t _ ht).mono ?_
    rintro e w1 ⟨rfl,rfl⟩
    rw [h9]
    go_wp2
    go_ret
    exact ⟨rfl,HB0.out⟩
theorem itemS_k3 (n:ByteArray) (l:List Cl) (t:ByteArray) (u:Value) (w:World) (hr:RowC w u l) (hn:n.size≤maxLen) (hz:ShortC l) (hl:l.length≤1048576) (ht:t.size≤maxLen):
  Calls Tryz.prog 13 #[.agg #[.int .i64 3, .string n,u, .string t]] w fun e w'=>e= .returned (.bool (simpB n&&(okE l&&noteB t)))∧Below w.heap.size w w':=by
 have HB0:=Lib.hid ((Below.refl w.heap.size w).alloc (Nat.le_refl _) (.cells #[.int .i64 3, .string n,u, .string t] 25))
 have HRX:=Lib.hid (hr.mono HB0.out)
 have HX:=Lib.hid (exprValid_spec u l _ HRX.out hz hl)
 obtain ⟨ao,cap,rfl,-⟩:=hr
 have HBX:=Lib.hid (fun w1 (h:Below (w.alloc (.cells #[.int .i64 3, .string n, .slice ao l.length cap, .string t] 25)).heap.size (w.alloc (.cells #[.int .i64 3, .string n, .slice ao l.length cap, .string t] 25)) w1)=>boxI h)
 clear hz
 cases h1:simpB n with
 |false=>
  go_enter Tryz.func13,Tryz.ntmps13
  go_wp2_with fail
  refine (simple_any n _ hn).mono ?_
  rintro e w1 ⟨rfl,rfl⟩
  rw [h1]
  go_wp2
  go_ret
  exact ⟨rfl,HB0.out⟩
 |true=>
  cases h2:okE l with
  |false=>
   go_enter Tryz.func13,Tryz.ntmps13
   go_wp2_with fail
   refine (simple_any n _ hn).mono ?_
   rintro e w1 ⟨rfl,rfl⟩
   rw [h1]
   go_wp2_with fail
   refine HX.out.mono ?_
   rintro e w1 ⟨rfl,hb1⟩
   have HB1:=Lib.hid (HB0.out.trans (hb1.mono HB0.out.size));clear hb1
   rw [h2]
   go_wp2
   go_ret
   exact ⟨rfl,HB1.out⟩
  |true=>
   cases h9:noteB t
   all_goals
    go_enter Tryz.func13,Tryz.ntmps13
    go_wp2_with fail
    refine (simple_any n _ hn).mono ?_
    rintro e w1 ⟨rfl,rfl⟩
    rw [h1]
    go_wp2_with fail
    refine HX.out.mono ?_
    rintro e w1 ⟨rfl,hb1⟩
    obtain ⟨d0,d1,d2,d3⟩:=HBX.out w1 hb1
    have HB1:=Lib.hid (HB0.out.trans (hb1.mono HB0.out.size));clear hb1
    rw [h2]
    go_wp2_with fail
    refine (note_spec t _ ht).mono ?_
    rintro e w2 ⟨rfl,rfl⟩
    rw [h9]
    go_wp2
    go_ret
    exact ⟨rfl,HB1.out⟩
theorem itemS_k4 (n:ByteArray) (l:List Cl) (t:ByteArray) (u:Value) (w:World) (hr:RowC w u l) (hn:n.size≤maxLen) (hz:ShortC l) (hl:l.length≤1048576) (ht:t.size≤maxLen):
  Calls Tryz.prog 13 #[.agg #[.int .i64 4, .string n,u, .string t]] w fun e w'=>e= .returned (.bool (simpB n&&(l.isEmpty&&emB t)))∧Below w.heap.size w w':=by
 have HB0:=Lib.hid ((Below.refl w.heap.size w).alloc (Nat.le_refl _) (.cells #[.int .i64 4, .string n,u, .string t] 25))
 obtain ⟨ao,cap,rfl,-⟩:=hr
 clear hz
 cases h1:simpB n with
 |false=>
  go_enter Tryz.func13,Tryz.ntmps13
  go_wp2_with fail
  refine (simple_any n _ hn).mono ?_
  rintro e w1 ⟨rfl,rfl⟩
  rw [h1]
  go_wp2
  go_ret
  exact ⟨rfl,HB0.out⟩
 |true=>
  cases h2:l.isEmpty with
  |false=>
   have b1:=(le_f h2).1
   go_enter Tryz.func13,Tryz.ntmps13
   go_wp2_with fail
   refine (simple_any n _ hn).mono ?_
   rintro e w1 ⟨rfl,rfl⟩
   rw [h1]
   go_wp2
   go_ret
   exact ⟨rfl,HB0.out⟩
  |true=>
   have b1:=(le_t h2).1
   cases h3:emB t with
   |false=>
    obtain ⟨c1,c2,c3,c4⟩:=em_f h3
    go_enter Tryz.func13,Tryz.ntmps13
    go_wp2_with fail
    refine (simple_any n _ hn).mono ?_
    rintro e w1 ⟨rfl,rfl⟩
    rw [h1]
    go_wp2
    go_ret
    exact ⟨rfl,HB0.out⟩
   |true=>
    obtain ⟨c1,c2,c3,c4⟩:=em_t h3
    go_enter Tryz.func13,Tryz.ntmps13
    go_wp2_with fail
    refine (simple_any n _ hn).mono ?_
    rintro e w1 ⟨rfl,rfl⟩
    rw [h1]
    go_wp2
    go_ret
    exact ⟨rfl,HB0.out⟩
theorem itemS_ko (k:Int) (h1:k≠1) (h2:k≠2) (h3:k≠3) (h4:k≠4) (h5:k≠5) (n:ByteArray) (l:List Cl) (t:ByteArray) (u:Value) (w:World) (hr:RowC w u l) (hn:n.size≤maxLen) (hz:ShortC l) (hl:l.length≤1048576) (ht:t.size≤maxLen):
  Calls Tryz.prog 13 #[.agg #[.int .i64 k, .string n,u, .string t]] w fun e w'=>e= .returned (.bool (false))∧Below w.heap.size w w':=by
 have HB0:=Lib.hid ((Below.refl w.heap.size w).alloc (Nat.le_refl _) (.cells #[.int .i64 k, .string n,u, .string t] 25))
 obtain ⟨ao,cap,rfl,-⟩:=hr
 clear hz
 have a1:(k==1)=false:=beq_eq_false_iff_ne.mpr h1
 have a2:(k==2)=false:=beq_eq_false_iff_ne.mpr h2
 have a3:(k==3)=false:=beq_eq_false_iff_ne.mpr h3
 have a4:(k==4)=false:=beq_eq_false_iff_ne.mpr h4
 have a5:(k==5)=false:=beq_eq_false_iff_ne.mpr h5
 go_enter Tryz.func13,Tryz.ntmps13
 go_wp2
 go_ret
 exact ⟨rfl,HB0.out⟩
theorem itemValid_spec (i:It) (u:Value) (w:World) (hr:RowC w u i.2.2.1) (hn:i.2.1.size≤maxLen) (hz:ShortC i.2.2.1) (hl:i.2.2.1.length≤1048576) (ht:i.2.2.2.size≤maxLen):
  Calls Tryz.prog 13 #[.agg #[.int .i64 i.1, .string i.2.1,u, .string i.2.2.2]] w fun e w'=>e= .returned (.bool (itemB i))∧Below w.heap.size w w':=by
 obtain ⟨k,n,l,t⟩:=i
 simp only at hr hn hz ht hl⊢
 unfold itemB
 simp only
 by_cases h1:k=1
 ·subst h1;rw [if_pos (.inl rfl)];exact itemS_k1 n l t u w hr hn hz hl ht
 by_cases h5:k=5
 ·subst h5;rw [if_pos (.inr rfl)];exact itemS_k5 n l t u w hr hn hz hl ht
 rw [if_neg (by omega)]
 by_cases h2:k=2
 ·subst h2;rw [if_pos rfl];exact itemS_k2 n l t u w hr hn hz hl ht
 rw [if_neg h2]
 by_cases h3:k=3
 ·subst h3;rw [if_pos rfl];exact itemS_k3 n l t u w hr hn hz hl ht
 rw [if_neg h3]
 by_cases h4:k=4
 ·subst h4;rw [if_pos rfl];exact itemS_k4 n l t u w hr hn hz hl ht
 rw [if_neg h4]
 exact itemS_ko k h1 h2 h3 h4 h5 n l t u w hr hn hz hl ht
theorem trimB_eq (l:List UInt8):Lib.trimB l 32=trimL l:=by
 have e: ∀m:List UInt8,Lib.trimLeftB m 32=trL m:=fun _=>rfl
 have r: ∀m:List UInt8,Lib.trimRightB m 32=(trL m.reverse).reverse:=fun _=>rfl
 obtain ⟨a,b,h,h0,h1⟩:=trim_parts l
 generalize hm:trimL l=m at h h0 h1
 show Lib.trimLeftB (Lib.trimRightB l 32) 32=_
 rw [e,r,h,List.reverse_append,List.reverse_append,show (spL b).reverse=spL b by unfold spL;rw [List.reverse_replicate],show (spL a).reverse=spL a by unfold spL;rw [List.reverse_replicate],List.append_assoc,trL_sp]
 by_cases hz:m=[]
 ·subst hz
  rw [List.reverse_nil,List.nil_append,trL_only];rfl
 ·have e1:trL (m.reverse++spL a)=m.reverse++spL a:=by
   refine trL_not ?_
   have:m.reverse≠[]:=by simp [hz]
   obtain ⟨z,zs,hzs⟩:=List.exists_cons_of_ne_nil this
   rw [hzs,List.cons_append,List.head?_cons]
   have hl:m.getLast? =some z:=by rw [←List.head?_reverse,hzs];rfl
   rw [hl] at h1;exact h1
  rw [e1,List.reverse_append,List.reverse_reverse,show (spL a).reverse=spL a by unfold spL;rw [List.reverse_replicate],trL_sp,trL_not h0]
def cutH (l:List UInt8):List UInt8:=match hs 0 l with|some k=>l.take k|none=>l
def cutR (l:List UInt8):List UInt8:=match hs 0 l with|some k=>l.drop k|none=>[]
theorem hs_at: ∀(l:List UInt8) (s k:Nat),hs s l=some k→k<l.length∧l[k]? =some 35:=by
 intro l
 induction l with
 |nil=>intro s k h;cases h
 |cons b l ih=>
  intro s k h
  rw [hs] at h
  split at h
  ·rename_i hc
   injection h with h;subst h
   exact ⟨by simp,by rw [hc.2];rfl⟩
  ·rw [Option.map_eq_some_iff] at h
   obtain ⟨j,h1,rfl⟩:=h
   obtain ⟨k1,k2⟩:=ih _ _ h1
   exact ⟨by simpa using k1,by simpa using k2⟩
theorem code_cut (l:List UInt8):codeL l=trimL (cutH l):=by
 unfold codeL cutH
 cases hs 0 l<;>rfl
theorem cutR_head (l:List UInt8):(cutR l=[]∧behL l=[])∨ ∃t,cutR l=35::t∧behL l=trimL t:=by
 unfold cutR behL
 cases h:hs 0 l with
 |none=>exact .inl ⟨rfl,rfl⟩
 |some k=>
  obtain ⟨h1,h2⟩:=hs_at _ _ _ h
  rw [List.getElem?_eq_getElem h1] at h2
  injection h2 with h2
  refine .inr ⟨l.drop (k+1), ?_,rfl⟩
  show l.drop k=_
  rw [List.drop_eq_getElem_cons h1,h2]
theorem drop_lastL {l:List UInt8} (k:Nat) (h:l.getLast? ≠some 32):(l.drop k).getLast? ≠some 32:=by
 rw [List.getLast?_drop]
 split
 ·simp
 ·exact h
theorem nmQ_drop (l:List UInt8):nmQ l=l.drop (nmP l).length:=by
 unfold nmQ nmP
 induction l with
 |nil=>rfl
 |cons b l ih=>
  rw [List.dropWhile_cons,List.takeWhile_cons]
  split
  ·rw [ih];rfl
  ·rfl
theorem trL_drop (l:List UInt8): ∃k,trL l=l.drop k:=by
 induction l with
 |nil=>exact ⟨0,rfl⟩
 |cons b l ih=>
  rw [trL,List.dropWhile_cons]
  split
  ·obtain ⟨k,hk⟩:=ih;exact ⟨k+1,by rw [List.drop_succ_cons];exact hk⟩
  ·exact ⟨0,rfl⟩
theorem trL_trim {l:List UInt8} (h:l.getLast? ≠some 32):trL l=trimL l:=by
 have h1:(trL l).getLast? ≠some 32:=by
  obtain ⟨k,hk⟩:=trL_drop l
  rw [hk];exact drop_lastL k h
 unfold trimL
 rw [trL_not (l:=(trL l).reverse) (by rw [List.head?_reverse];exact h1),List.reverse_reverse]
theorem trimL_len (l:List UInt8):(trimL l).length≤l.length:=by
 obtain ⟨a,b,e,-,-⟩:=trim_parts l
 have:=congrArg List.length e
 rw [List.length_append,List.length_append] at this
 omega
def ScAt (w:World) (L:Nat) (l:List UInt8):Prop:=w.heap[L]? =some (.cells #[.string (baL l)] 75 (0,0))
section
variable {w w':World} {L:Nat} {l m:List UInt8}
theorem ScAt.lt (h:ScAt w L l):L<w.heap.size:=by
 rcases Nat.lt_or_ge L w.heap.size with hlt|hge
 ·exact hlt
 ·unfold ScAt at h;rw [Array.getElem?_eq_none hge] at h;cases h
theorem ScAt.cells (h:ScAt w L l):w.cell? ⟨L,0,none⟩=some (.string (baL l))∧w.frozen? ⟨L,0,none⟩=false:=by
 unfold ScAt at h
 constructor<;>simp [World.cell?,World.frozen?,h]
theorem ScAt.set (h:ScAt w L l):ScAt (w.setCell ⟨L,0,none⟩ (.string (baL m))) L m:=by
 unfold ScAt at h⊢;simp [World.setCell,Array.getElem?_modify,h]
theorem ScAt.below (h:ScAt w L l) (hb:Below w.heap.size w w'):ScAt w' L l:=(hb.block L h.lt).trans h
theorem ScAt.grown {r:Option Nat} (h:ScAt w L l) (hg:w.grownBy w' r) (hr:r≠some L):ScAt w' L l:=(hg.block L h.lt (fun e=>hr e.symm)).trans h
theorem ScAt.new (w:World) (l:List UInt8):ScAt (w.alloc (.cells #[.string (baL l)] 75)) w.heap.size l:=by
 exact heap_alloc_new w _
end
theorem scSt (w:World) (L:Nat) (u:Value):w.grownBy (w.setCell ⟨L,0,none⟩ u) (some L):=
 ⟨rfl,rfl,rfl,by simp [World.setCell],fun i hi hn=>Below.heap_setCell _ _ _ _ (fun e=>hn (by rw [e]))⟩
theorem scDr {w w':World} (h:w'=w∨w'=w.drew) (r:Option Nat):w.grownBy w' r:=by
 rcases h with rfl|rfl
 ·exact World.grownBy.refl _ _
 ·exact ⟨rfl,rfl,rfl,Nat.le_refl _,fun _ _ _=>rfl⟩
theorem scTr {a b c:World} {r:Option Nat} (h:a.grownBy b r) (k:b.grownBy c r):a.grownBy c r:=
 ⟨k.os.trans h.os,k.tape.trans h.tape,k.output.trans h.output,Nat.le_trans h.size k.size,fun i hi hn=>(k.block i (Nat.lt_of_lt_of_le hi h.size) hn).trans (h.block i hi hn)⟩
theorem ba_list2 (l:List UInt8):(⟨l.toArray⟩:ByteArray)=baL l:=rfl
def ScPost (L:Nat) (r:Value) (l:List UInt8) (w:World) (e:Ending) (w':World):Prop:=e= .returned r∧ScAt w' L l∧w.grownBy w' (some L)
theorem scTake (p:ByteArray) (l:List UInt8) (L:Nat) (w:World) (h:ScAt w L l):
  Calls Tryz.prog 103 #[.pointer (some ⟨L,0,none⟩), .string p] w (ScPost L (.bool (Lib.hasPrefix l p.data.toList)) (Lib.trimPrefix l p.data.toList) w):=by
 obtain ⟨c0,f0⟩:=h.cells
 have H:=Lib.hid h;clear h
 go_enter Tryz.func103,Tryz.ntmps103
 go_wp2_with fail
 refine (Tryz.strings_CutPrefix _ p _).mono ?_
 rintro e w1 ⟨rfl,rfl⟩
 rw [baL_list,ba_list2]
 go_wp2
 go_ret
 exact ⟨rfl,H.out.set,scSt _ _ _⟩
theorem scSkip (l:List UInt8) (L:Nat) (w:World) (h:ScAt w L l):
  Calls Tryz.prog 106 #[.pointer (some ⟨L,0,none⟩)] w (ScPost L (.tuple #[]) (trL l) w):=by
 obtain ⟨c0,f0⟩:=h.cells
 have H:=Lib.hid h;clear h
 go_enter Tryz.func106,Tryz.ntmps106
 go_wp2_with fail
 refine (Tryz.strings_TrimLeft_one _ 32 (by decide) _).mono ?_
 rintro e w1 ⟨rfl,rfl⟩
 rw [baL_list,ba_list2]
 go_wp2
 exact bodyPost_ret (v:= .tuple #[]) (by simp [results,Tryz.results106,go_sem]) rfl ⟨rfl,H.out.set,scSt _ _ _⟩
theorem scNote (l:List UInt8) (L:Nat) (w:World) (h:ScAt w L l) (hl:l.length≤2097152):
  Calls Tryz.prog 104 #[.pointer (some ⟨L,0,none⟩)] w (ScPost L (.string (baL (trimL l))) [] w):=by
 obtain ⟨c0,f0⟩:=h.cells
 have H:=Lib.hid h;clear h
 have hsz:(baL l).size=l.length:=by simp [baL,ByteArray.size]
 go_enter Tryz.func104,Tryz.ntmps104
 go_wp2_with fail
 refine (Tryz.strings_Trim_one _ 32 (by decide) _ (by omega)).mono ?_
 rintro e w1 ⟨rfl,hw1⟩
 rw [baL_list,trimB_eq,ba_list2]
 have HG:=Lib.hid (scDr hw1 (some L))
 have HS:=Lib.hid (show ScAt w1 L l from (scDr hw1 none|>fun hg=>H.out.grown hg (by simp)))
 obtain ⟨d0,e0⟩:=HS.out.cells
 clear hw1 c0 f0
 go_wp2
 go_ret
 exact ⟨rfl,HS.out.set (m:=[]),scTr HG.out (scSt _ _ _)⟩
theorem bl_size (l:List UInt8):(baL l).size=l.length:=by simp [baL,ByteArray.size]
theorem bl_at (l:List UInt8) (k:Nat) (h:k<(baL l).size):(baL l)[k]=l[k]'(by rw [bl_size] at h;exact h):=by
 rfl
theorem bl_take (l:List UInt8) (k:Nat):(baL l).extract 0 k=baL (l.take k):=by
 apply ByteArray.ext
 rw [ByteArray.data_extract]
 apply Array.toList_inj.mp
 rw [Array.toList_extract,List.extract_eq_take_drop]
 show ((l.toArray.toList).drop 0).take (k-0)=(l.take k).toArray.toList
 simp
theorem bl_drop (l:List UInt8) (k:Nat):(baL l).extract k (baL l).size=baL (l.drop k):=by
 apply ByteArray.ext
 rw [ByteArray.data_extract]
 apply Array.toList_inj.mp
 rw [Array.toList_extract,List.extract_eq_take_drop,bl_size]
 show (l.drop k).take (l.length-k)=l.drop k
 exact List.take_of_length_le (by rw [List.length_drop];omega)
theorem nm_take (l:List UInt8):nmP l=l.take (nmP l).length:=by
 unfold nmP
 induction l with
 |nil=>rfl
 |cons b l ih=>
  rw [List.takeWhile_cons]
  split
  ·rw [List.length_cons,List.take_succ_cons,←ih]
  ·rfl
theorem nm_in: ∀(l:List UInt8) (k:Nat),k<(nmP l).length→ ∃h:k<l.length,isNm l[k]=true:=by
 intro l
 induction l with
 |nil=>intro k h;simp [nmP] at h
 |cons b l ih=>
  intro k h
  unfold nmP at h
  rw [List.takeWhile_cons] at h
  split at h
  ·rename_i hb
   cases k with
   |zero=>exact ⟨by simp,hb⟩
   |succ k=>
    obtain ⟨h1,h2⟩:=ih k (by simpa [nmP] using h)
    exact ⟨by simpa using h1,by simpa using h2⟩
  ·simp at h
theorem nm_out: ∀(l:List UInt8) (h:(nmP l).length<l.length),isNm (l[(nmP l).length]'h)=false:=by
 intro l
 induction l with
 |nil=>intro h;simp at h
 |cons b l ih=>
  intro h
  by_cases hb:isNm b=true
  ·have e:nmP (b::l)=b::nmP l:=by unfold nmP;rw [List.takeWhile_cons,if_pos hb]
   have h2:(nmP l).length<l.length:=by rw [e] at h;simpa using h
   have:=ih h2
   simp only [e,List.length_cons,List.getElem_cons_succ]
   exact this
  ·have e:nmP (b::l)=[]:=by unfold nmP;rw [List.takeWhile_cons,if_neg hb]
   simp only [e,List.length_nil,List.getElem_cons_zero]
   simpa using hb
theorem scPart (l:List UInt8) (L:Nat) (w:World) (h:ScAt w L l) (hl:l.length≤2097152):
  Calls Tryz.prog 105 #[.pointer (some ⟨L,0,none⟩)] w (ScPost L (.string (baL (nmP l))) (nmQ l) w):=by
 obtain ⟨c0,f0⟩:=h.cells
 have H:=Lib.hid h;clear h
 have hz:=bl_size l
 have hn:(nmP l).length≤l.length:=by
  have:=congrArg List.length (nm_take l)
  rw [List.length_take] at this;omega
 obtain ⟨K,hn,HT,HQ,HIN,HOUT⟩: ∃K:Nat,K≤l.length∧Hid (nmP l=l.take K)∧Hid (nmQ l=l.drop K)∧Hid (∀k,k<K→ ∃h:k<l.length,isNm l[k]=true)∧Hid (∀h:K<l.length,isNm (l[K]'h)=false):=
  ⟨(nmP l).length,hn,Lib.hid (nm_take l),Lib.hid (nmQ_drop l),Lib.hid (nm_in l),Lib.hid (nm_out l)⟩
 go_enter Tryz.func105,Tryz.ntmps105
 go_wp2_with fail
 go_loopw [3] (fun i wr=> ∃k:Nat,k≤K∧i= .int .i64 (k:Int)∧wr=w) (fun i _=>K-(intOf i).toNat)
 case atStart=>exact ⟨0,Nat.zero_le _,rfl,rfl⟩
 case round=>
  obtain ⟨k,hk,rfl,hwr⟩:=hrel
  subst hwr
  by_cases hlt:k<l.length
  ·have hltI:(k:Int)<(l.length:Int):=by omega
   have hks:k<(baL l).size:=by omega
   have hb:=bl_at l k hks
   by_cases hkK:k<K
   ·obtain ⟨hx,hnm⟩:=HIN.out k hkK
    go_wp2_with fail
    refine (partByte_any (((baL l)[k]'hks).toNat:Int) _ (by omega) (by have:=((baL l)[k]'hks).toNat_lt;omega)).mono ?_
    rintro e w1 ⟨rfl,rfl⟩
    have hp:parI ((l[k]'hlt).toNat:Int)=true:=hnm
    go_wp2
    go_roundw
    case rel=>exact ⟨k+1,by omega,by go_num,by trivial⟩
    case measure=>simp [intOf];omega
   ·obtain rfl:k=K:=by omega
    have hnm:=HOUT.out hlt
    have HR:=Lib.hid (show baL (nmP l)=(baL l).extract 0 k by rw [bl_take,HT.out])
    have HD:=Lib.hid (show (baL l).extract k l.length=baL (nmQ l) by rw [←bl_size l,bl_drop,HQ.out])
    go_wp2_with fail
    refine (partByte_any (((baL l)[k]'hks).toNat:Int) _ (by omega) (by have:=((baL l)[k]'hks).toNat_lt;omega)).mono ?_
    rintro e w1 ⟨rfl,rfl⟩
    have hp:parI ((l[k]'hlt).toNat:Int)=false:=hnm
    go_wp2
    go_ret
    exact ⟨by rw [HR.out];rfl,by rw [HD.out];exact H.out.set,scSt _ _ _⟩
  ·obtain rfl:k=K:=by omega
   have HR:=Lib.hid (show baL (nmP l)=(baL l).extract 0 k by rw [bl_take,HT.out])
   have HD:=Lib.hid (show (baL l).extract k l.length=baL (nmQ l) by rw [←bl_size l,bl_drop,HQ.out])
   have hltI: ¬(k:Int)<(l.length:Int):=by omega
   go_wp2
   go_ret
   exact ⟨by rw [HR.out];rfl,by rw [HD.out];exact H.out.set,scSt _ _ _⟩
def CodeAt (l:List UInt8) (q:Bool) (k:Nat):Prop:=(k≤l.length∧hs 0 l=(hs (if q=true then 1 else 0) (l.drop k)).map (· +k))∨(k=l.length+1∧hs 0 l=none)
theorem CodeAt.zero (l:List UInt8):CodeAt l false 0:= .inl ⟨Nat.zero_le _,by simp⟩
theorem CodeAt.here {l:List UInt8} {q:Bool} {k:Nat} (h:CodeAt l q k) (hk:k<l.length):hs 0 l=(hs (if q=true then 1 else 0) (l[k]::l.drop (k+1))).map (· +k):=by
 rcases h with ⟨-,h⟩|⟨h,-⟩
 ·rw [h,List.drop_eq_getElem_cons hk]
 ·omega
theorem CodeAt.next {l:List UInt8} {q:Bool} {k:Nat} (h:CodeAt l q k) (hk:k<l.length) (q2:Bool) (hc: ¬((if q=true then 1 else 0)=0∧l[k]=35)) (hn:nx (if q=true then 1 else 0) l[k]=if q2=true then 1 else 0):CodeAt l q2 (k+1):=by
 have e:=h.here hk
 rw [hs,if_neg hc,hn,Option.map_map] at e
 refine .inl ⟨hk, ?_⟩
 rw [e]
 congr 1
 funext x;simp only [Function.comp];omega
theorem CodeAt.skip {l:List UInt8} {k:Nat} (h:CodeAt l true k) (hk:k<l.length) (hb:l[k]=92):CodeAt l true (k+1+1):=by
 have e:=h.here hk
 have h2:nx 1 (92:UInt8)=2:=by decide
 rw [if_pos rfl,hb,hs,if_neg (by simp),h2] at e
 by_cases hk1:k+1<l.length
 ·rw [List.drop_eq_getElem_cons hk1,hs,if_neg (by simp),show nx 2 l[k+1]=1 by simp [nx],Option.map_map,Option.map_map] at e
  refine .inl ⟨by omega, ?_⟩
  rw [if_pos rfl,e]
  congr 1
  funext x;simp only [Function.comp];omega
 ·rw [List.drop_of_length_le (by omega),hs] at e
  exact .inr ⟨by omega,e⟩
def codeK (l:List UInt8):Nat:=(hs 0 l).getD l.length
theorem CodeAt.end {l:List UInt8} {q:Bool} {k:Nat} (h:CodeAt l q k) (hk: ¬k<l.length):codeK l=l.length∧l.length≤k∧k≤l.length+1:=by
 rcases h with ⟨h1,h2⟩|⟨h1,h2⟩
 ·rw [List.drop_of_length_le (by omega),hs] at h2
  exact ⟨by rw [codeK,h2];rfl,by omega,by omega⟩
 ·exact ⟨by rw [codeK,h2];rfl,by omega,by omega⟩
theorem CodeAt.found {l:List UInt8} {k:Nat} (h:CodeAt l false k) (hk:k<l.length) (hb:l[k]=35):codeK l=k:=by
 have e:=h.here hk
 rw [if_neg (by simp),hb,hs,if_pos ⟨rfl,rfl⟩] at e
 rw [codeK,e];simp
theorem CodeAt.le {l:List UInt8} {q:Bool} {k:Nat} (h:CodeAt l q k):k≤l.length+1:=by
 rcases h with ⟨h1,-⟩|⟨h1,-⟩<;>omega
theorem code_take (l:List UInt8):cutH l=l.take (codeK l)∧cutR l=l.drop (codeK l):=by
 unfold cutH cutR codeK
 cases h:hs 0 l with
 |none=>exact ⟨by simp,by simp⟩
 |some k=>exact ⟨rfl,rfl⟩
theorem u8_eq {b:UInt8} {c:UInt8} (h:(b.toNat:Int)=(c.toNat:Int)):b=c:=UInt8.toNat_inj.mp (by omega)
theorem scCode (l:List UInt8) (L:Nat) (w:World) (h:ScAt w L l) (hl:l.length≤2097152):
  Calls Tryz.prog 143 #[.pointer (some ⟨L,0,none⟩)] w (ScPost L (.string (baL (cutH l))) (cutR l) w):=by
 obtain ⟨c0,f0⟩:=h.cells
 have H:=Lib.hid h;clear h
 have hz:=bl_size l
 have HR:=Lib.hid (show baL (cutH l)=(baL l).extract 0 (codeK l) by rw [bl_take,(code_take l).1])
 have HD:=Lib.hid (show (baL l).extract (codeK l) l.length=baL (cutR l) by rw [←bl_size l,bl_drop,(code_take l).2])
 go_enter Tryz.func143,Tryz.ntmps143
 go_wp2_with fail
 go_loopw [3,4] (fun x i wr=> ∃(q:Bool) (k:Nat),x= .bool q∧i= .int .i64 (k:Int)∧Hid (CodeAt l q k)∧wr=w) (fun _ i _=>l.length+1-(intOf i).toNat)
 case atStart=>exact ⟨false,0,rfl,rfl,Lib.hid (CodeAt.zero l),rfl⟩
 case round=>
  obtain ⟨q,k,rfl,rfl,HC,hwr⟩:=hrel
  subst hwr
  have hk1:=HC.out.le
  by_cases hlt:k<l.length
  case neg=>
   have hltI: ¬(k:Int)<(l.length:Int):=by omega
   obtain ⟨e1,e2,e3⟩:=HC.out.end hlt
   have hmin:min (k:Int) (l.length:Int)=(l.length:Int):=by omega
   have HK:=Lib.hid e1
   have HE:=Lib.hid (show (ByteArray.empty:ByteArray)=baL (cutR l) by rw [(code_take l).2,e1,List.drop_length];rfl)
   clear e1
   go_wp2
   go_ret
   exact ⟨by rw [HR.out,HK.out];rfl,by rw [HE.out];exact H.out.set,scSt _ _ _⟩
  have hltI:(k:Int)<(l.length:Int):=by omega
  have hb:=bl_at l k (by omega)
  by_cases h34:l[k]=34
  ·have t34:((l[k].toNat:Int)==34)=true:=by rw [h34];rfl
   have t35:((l[k].toNat:Int) !=35)=true:=by rw [h34];rfl
   cases q with
   |false=>
    have HN:=Lib.hid (HC.out.next hlt true (by rw [h34];simp) (by rw [h34];decide))
    clear h34
    go_wp2
    go_roundw
    case rel=>exact ⟨true,k+1,rfl,by go_num,HN,by trivial⟩
    case measure=>simp [intOf];omega
   |true=>
    have HN:=Lib.hid (HC.out.next hlt false (by simp) (by rw [h34];decide))
    clear h34
    go_wp2
    go_roundw
    case rel=>exact ⟨false,k+1,rfl,by go_num,HN,by trivial⟩
    case measure=>simp [intOf];omega
  have t34:((l[k].toNat:Int)==34)=false:=by rw [beq_eq_false_iff_ne];intro e;exact h34 (u8_eq (c:=34) e)
  cases q with
  |false=>
   by_cases h35:l[k]=35
   ·have t35:((l[k].toNat:Int) !=35)=false:=by rw [h35];rfl
    have HK:=Lib.hid (HC.out.found hlt h35)
    have hmin:min (k:Int) (l.length:Int)=(k:Int):=by omega
    clear h35
    go_wp2
    go_ret
    exact ⟨by rw [HR.out,HK.out];rfl,by rw [HK.out] at HD;rw [HD.out];exact H.out.set,scSt _ _ _⟩
   ·have t35:((l[k].toNat:Int) !=35)=true:=by rw [bne_iff_ne];intro e;exact h35 (u8_eq (c:=35) e)
    have HN:=Lib.hid (HC.out.next hlt false (by simp [h35]) (by simp [nx,h34]))
    by_cases h92:l[k]=92
    ·have t92:((l[k].toNat:Int)==92)=true:=by rw [h92];rfl
     clear h92
     go_wp2
     go_roundw
     case rel=>exact ⟨false,k+1,rfl,by go_num,HN,by trivial⟩
     case measure=>simp [intOf];omega
    ·have t92:((l[k].toNat:Int)==92)=false:=by rw [beq_eq_false_iff_ne];intro e;exact h92 (u8_eq (c:=92) e)
     go_wp2
     go_roundw
     case rel=>exact ⟨false,k+1,rfl,by go_num,HN,by trivial⟩
     case measure=>simp [intOf];omega
  |true=>
   by_cases h92:l[k]=92
   ·have t92:((l[k].toNat:Int)==92)=true:=by rw [h92];rfl
    have HN:=Lib.hid (HC.out.skip hlt h92)
    clear h92
    go_wp2
    go_roundw
    case rel=>exact ⟨true,k+1+1,rfl,by go_num,HN,by trivial⟩
    case measure=>simp [intOf];omega
   ·have t92:((l[k].toNat:Int)==92)=false:=by rw [beq_eq_false_iff_ne];intro e;exact h92 (u8_eq (c:=92) e)
    have HN:=Lib.hid (HC.out.next hlt true (by simp) (by simp [nx,h34,h92]))
    go_wp2
    go_roundw
    case rel=>exact ⟨true,k+1,rfl,by go_num,HN,by trivial⟩
    case measure=>simp [intOf];omega
noncomputable def rawP (R:ByteArray→List Cl) (l:List UInt8):It:=
 if l=[] then (1,⟨#[]⟩,[],⟨#[]⟩)
 else if l=[125] then (5,⟨#[]⟩,[],⟨#[]⟩)
 else if l.head? =some 35 then (2,⟨#[]⟩,[],baL (trimL (l.drop 1)))
 else if trL (nmQ l)=[123] then (4,baL (nmP l),[],⟨#[]⟩)
 else if (trL (nmQ l)).head? =some 61 then (3,baL (nmP l),R (baL (cutH ((trL (nmQ l)).drop 1))),baL (behL ((trL (nmQ l)).drop 1)))
 else (0,⟨#[]⟩,[],⟨#[]⟩)
noncomputable def readItP (R:ByteArray→List Cl) (s:ByteArray):Option It:=
 if itemB (rawP R (trimL s.data.toList))=true then some (rawP R (trimL s.data.toList)) else none
theorem item_zero (n:ByteArray):itemB (0,n,[],⟨#[]⟩)=false:=by simp [itemB]
theorem readItP_eq {R:ByteArray→List Cl} {B:Nat} (hR: ∀l:List UInt8,l.length≤B→R (baL l)=R (baL (trimL l))) {s:ByteArray} (hs:s.size≤B):readItP R s=readIt R s:=by
 obtain ⟨a,b,e,h0,h1⟩:=trim_parts s.data.toList
 have hl:(trimL s.data.toList).length≤B:=by
  have:=trimL_len s.data.toList
  have h2:s.data.toList.length=s.size:=by rw [Array.length_toList];rfl
  omega
 unfold readItP readIt
 generalize trimL s.data.toList=l at h0 h1 hl⊢
 have hq:trL (nmQ l)=trimL (nmQ l):=trL_trim (by rw [nmQ_drop];exact drop_lastL _ h1)
 by_cases c1:l=[]
 ·simp [rawP,rawI,c1]
 by_cases c2:l=[125]
 ·simp [rawP,rawI,c2]
 by_cases c3:l.head? =some 35
 ·have e1:rawP R l=rawI R l:=by rw [rawP,rawI,if_neg c1,if_neg c1,if_neg c2,if_neg c2,if_pos c3,if_pos c3]
  rw [e1]
 by_cases c4:trimL (nmQ l)=[123]
 ·have e1:rawP R l=rawI R l:=by rw [rawP,rawI,if_neg c1,if_neg c1,if_neg c2,if_neg c2,if_neg c3,if_neg c3,hq,if_pos c4,if_pos c4]
  rw [e1]
 by_cases c5:(trimL (nmQ l)).head? =some 61
 ·have e1:rawP R l=rawI R l:=by
   rw [rawP,rawI,if_neg c1,if_neg c1,if_neg c2,if_neg c2,if_neg c3,if_neg c3,hq,if_neg c4,if_neg c4,if_pos c5,if_pos c5,code_cut,hR]
   have h3:(cutH ((trimL (nmQ l)).drop 1)).length≤((trimL (nmQ l)).drop 1).length:=by
    unfold cutH
    split
    ·rw [List.length_take];omega
    ·exact Nat.le_refl _
   have h4:=trimL_len (nmQ l)
   have h5:(nmQ l).length≤l.length:=by rw [nmQ_drop,List.length_drop];omega
   rw [List.length_drop] at h3
   omega
  rw [e1]
 ·have e1:rawP R l=(0,⟨#[]⟩,[],⟨#[]⟩):=by rw [rawP,if_neg c1,if_neg c2,if_neg c3,hq,if_neg c4,if_neg c5]
  have e2:rawI R l=(0,baL (nmP l),[],⟨#[]⟩):=by rw [rawI,if_neg c1,if_neg c2,if_neg c3,if_neg c4,if_neg c5]
  rw [e1,e2,item_zero,item_zero]
  rfl
def rdTk (s:ByteArray):List Tk:=(toksT s).map fun x=>(x.1,s.extract x.2.1 x.2.2)
theorem sg_first {b:UInt8} (h:sgB b=true):6≤firstI (b.toNat:Int)∧firstI (b.toNat:Int)≤10:=by
 simp only [sgB,Bool.or_eq_true,beq_iff_eq] at h
 rcases h with ((((((((((((((((h|h)|h)|h)|h)|h)|h)|h)|h)|h)|h)|h)|h)|h)|h)|h)|h)|h
 all_goals (subst h;decide)
theorem sg_fin {st:Int} {t:List UInt8} (h1:6≤st) (h2:st≤10) (h:stays st t=true):fin st t=st∨fin st t=10:=by
 have e10: ∀n,nB 10 n=false:=fun n=>by simp [nB]
 cases t with
 |nil=>exact .inl rfl
 |cons c r=>
  right
  simp only [stays,Bool.and_eq_true] at h
  by_cases hst:st=10
  ·subst hst;rw [e10] at h;cases h.1
  ·have hn:nS st (c.toNat:Int)=10:=by
    have:st=6∨st=7∨st=8∨st=9:=by omega
    rcases this with rfl|rfl|rfl|rfl<;>rfl
   rw [fin,hn]
   rw [hn] at h
   cases r with
   |nil=>rfl
   |cons d r=>simp only [stays,Bool.and_eq_true,e10] at h;cases h.2.1
theorem kI_bd {st:Int} (h:kI st≠0):1≤kI st∧kI st≤4:=by
 unfold kI at h⊢
 repeat' split at h
 all_goals first|(exact absurd rfl h)|(repeat' split)<;>omega
theorem kI_sg {st:Int} (h1:6≤st) (h2:st≤10) (h:kI st≠0):kI st=4:=by
 have:st=6∨st=7∨st=8∨st=9∨st=10:=by omega
 rcases this with rfl|rfl|rfl|rfl|rfl
 ·rfl
 ·exact absurd rfl h
 ·exact absurd rfl h
 ·exact absurd rfl h
 ·rfl
theorem TokAt.kinds {l:List UInt8} {n:Nat} {k:Int} (h:TokAt l n k):1≤k∧k≤4∧(k≠4→ ∀b t,l.take n=b::t→sgB b=false):=by
 obtain ⟨b,t,ht,hs,hk,hk0,-⟩:=h
 subst hk
 refine ⟨(kI_bd hk0).1,(kI_bd hk0).2,fun h4 b' t' he=> ?_⟩
 rw [ht] at he
 injection he with e1 e2
 subst e1 e2
 cases hb:sgB b with
 |false=>rfl
 |true=>
  obtain ⟨f1,f2⟩:=sg_first hb
  rcases sg_fin f1 f2 hs with h|h
  ·rw [h] at h4 hk0;exact absurd (kI_sg f1 f2 hk0) h4
  ·rw [h] at h4;exact absurd rfl h4
theorem cover_kinds (ts:List (Int×Nat×Nat)): ∀(a:Nat) (l:List UInt8),Cover a l ts→ts.length≤l.length∧ ∀x∈ts,1≤x.1∧x.1≤4∧(x.1≠4→ ∀b t,(l.drop (x.2.1-a)).take (x.2.2-x.2.1)=b::t→sgB b=false):=by
 induction ts with
 |nil=>intro a l _;exact ⟨Nat.zero_le _,fun x hx=>by cases hx⟩
 |cons y ts ih=>
  intro a l h
  obtain ⟨k,f,t⟩:=y
  obtain ⟨j,n,rfl,rfl,h3,h4,h5,h6⟩:=h
  have hle:=h5.le
  rw [List.length_drop] at hle
  obtain ⟨i1,i2⟩:=ih _ _ h6
  rw [List.length_drop] at i1
  have hin:=cover_in ts _ _ h6
  refine ⟨by rw [List.length_cons];omega,fun x hx=> ?_⟩
  rcases List.mem_cons.mp hx with rfl|hx
  ·have:=h5.kinds
   simp only [Nat.add_sub_cancel_left] at this⊢
   exact this
  ·obtain ⟨k1,k2,k3⟩:=i2 x hx
   have h7:=(hin x hx).1
   refine ⟨k1,k2,fun h4' b t' he=>k3 h4' b t' ?_⟩
   rw [List.drop_drop,show j+n+(x.2.1-(a+j+n))=x.2.1-a by omega]
   exact he
theorem toks_cover {s:ByteArray}:Cover 0 s.data.toList (toksT s)∨toksT s=[]:=by
 by_cases h:okT s=true
 ·left
  rw [toksT,if_pos h]
  simp only [okT,Bool.and_eq_true] at h
  exact res_cover h.2
 ·right;rw [toksT,if_neg h]
theorem toks_len (s:ByteArray) (hs:s.size≤20000∨okT s=true):(toksT s).length≤20000∧(toksT s≠[]→s.size≤20000):=by
 have h20:okT s=true→s.size≤20000:=fun h=>by simp only [okT,Bool.and_eq_true,decide_eq_true_eq] at h;exact h.1.1
 by_cases h:okT s=true
 ·have:=h20 h
  rcases toks_cover (s:=s) with hc|hc
  ·have:=(cover_kinds _ _ _ hc).1
   rw [size_list] at this
   exact ⟨by omega,fun _=>by omega⟩
  ·rw [hc];exact ⟨Nat.zero_le _,fun _=>by omega⟩
 ·rw [toksT,if_neg h];exact ⟨Nat.zero_le _,fun h=>absurd rfl h⟩
theorem toks_facts (s:ByteArray):(toksT s).length≤20000∧(∀x∈toksT s,x.2.1≤x.2.2∧x.2.2≤s.size)∧Signed (rdTk s)∧ ∀x∈toksT s,1≤x.1∧x.1≤4:=by
 by_cases h:okT s=true
 ·refine ⟨(toks_len s (.inr h)).1, ?_⟩
  rcases toks_cover (s:=s) with hc|hc
  ·have hin:=cover_in _ _ _ hc
   obtain ⟨-,hk⟩:=cover_kinds _ _ _ hc
   refine ⟨fun x hx=> ?_, ?_,fun x hx=>⟨(hk x hx).1,(hk x hx).2.1⟩⟩
   ·have:=hin x hx;rw [size_list] at this;omega
   ·intro p k w hp hk4 b t hb
    simp only [rdTk,List.getElem?_map,Option.map_eq_some_iff] at hp
    obtain ⟨x,hx,he⟩:=hp
    injection he with e1 e2
    subst e1 e2
    have hm:=List.mem_of_getElem? hx
    refine (hk x hm).2.2 hk4 b t ?_
    rw [←hb,ByteArray.data_extract,Array.toList_extract,List.extract_eq_take_drop]
    simp
  ·rw [hc];exact ⟨(fun x hx=>by cases hx),(fun p k w hp=>by simp [rdTk,hc] at hp),(fun x hx=>by cases hx)⟩
 ·have hc:toksT s=[]:=by rw [toksT,if_neg h]
  rw [hc];exact ⟨Nat.zero_le _,(fun x hx=>by cases hx),(fun p k w hp=>by simp [rdTk,hc] at hp),(fun x hx=>by cases hx)⟩
def RowOf (w:World) (v:Value) (L:List Value):Prop:=
 ∃ao cap,v= .slice ao L.length cap∧L.length≤cap∧cap≤maxLen∧(L=[]∨ ∃b off,ao=some ⟨b,off,none⟩∧b<w.heap.size∧ ∀(j:Nat) t,L[j]? =some t→w.cell? ⟨b,off+j,none⟩=some t)
theorem RowOf.mono {w w':World} {v:Value} {L:List Value} (h:RowOf w v L) (hb:Below w.heap.size w w'):RowOf w' v L:=by
 obtain ⟨ao,cap,hv,h1,h2,h3⟩:=h
 refine ⟨ao,cap,hv,h1,h2, ?_⟩
 rcases h3 with h3|⟨b,off,ha,hlt,hj⟩
 ·exact .inl h3
 ·exact .inr ⟨b,off,ha,Nat.lt_of_lt_of_le hlt hb.size,fun j t ht=>by rw [hb.cell (by exact hlt)];exact hj j t ht⟩
theorem RowOf.drewN {w:World} {v:Value} {L:List Value} (h:RowOf w v L) (n:Nat):RowOf (w.drewN n) v L:=
 h.mono ⟨rfl,rfl,rfl,Nat.le_refl _,fun _ _=>rfl⟩
theorem RowOf.of_own {w:World} {base:Nat} {e:TypeId} {v:Value} {n:Nat} {L:List Value} (h:w.ownsRow base e 1 v n L):RowOf w v L:=by
 have h0:=h
 obtain ⟨hl,h2⟩:=h
 rcases h2 with ⟨rfl,rfl⟩|⟨g,cap,cur,rfl,hg,hh,h1,h2,_⟩
 ·obtain rfl:L=[]:=List.eq_nil_of_length_eq_zero (by omega)
  exact ⟨none,0,rfl,Nat.le_refl _,by unfold maxLen;omega, .inl rfl⟩
 ·obtain rfl:n=L.length:=by omega
  refine ⟨_,cap,rfl,h1,h2, .inr ⟨g,0,rfl, ?_, ?_⟩⟩
  ·by_cases hk:g<w.heap.size
   ·exact hk
   ·rw [Array.getElem?_eq_none (by omega)] at hh;cases hh
  ·intro j t ht
   have hlt:j<L.length:=by
    by_cases hk:j<L.length
    ·exact hk
    ·rw [List.getElem?_eq_none (by omega)] at ht;cases ht
   rw [Nat.zero_add,h0.cellAt j (by omega)]
   exact ht
def strs (l:List ByteArray):List Value:=l.map Value.string
def IsSlc (v:Value):Prop:= ∃a n c,v= .slice a n c
theorem own_keepC {w w1:World} {base:Nat} {e:TypeId} {size n:Nat} {v:Value} {xs:List Value} (h:w.ownsRow base e size v n xs) (hb:Below w.heap.size w w1):w1.ownsRow base e size v n xs:=
 h.kept (row:=none) ⟨hb.os,hb.tape,hb.output,hb.size,fun i hi _=>hb.block i hi⟩ (by cases hv:v.ownBlock with|none=>exact .inl rfl|some x=>exact .inr (by simp))
def RdOK (s:ByteArray) (c:List Cl):Prop:=(∃n,Rg (rdTk s) .choice 0 c (rdTk s).length 0 n∧n≤40)∧okE c=true
theorem RdOK.uniq {s:ByteArray} {c d:List Cl} (h:RdOK s c) (k:RdOK s d):c=d:=by
 obtain ⟨⟨n,h1,-⟩,-⟩:=h
 obtain ⟨⟨m,k1,-⟩,-⟩:=k
 exact (h1.uniq k1).1
def ReadPost (s:ByteArray) (w:World) (e:Ending) (w':World):Prop:=
 Below w.heap.size w w'∧((∃v c,e= .returned (.tuple #[v, .bool true])∧RdOK s c∧w'.ownsRow w.heap.size 120 3 v c.length (flatC c))∨(e= .returned (.tuple #[.slice none 0 0, .bool false])∧ ∀c,¬RdOK s c))
theorem RtB.cells {w:World} {lo N n:Nat} {c:List Cl} (h:RtB w lo N c n):1≤c.length:=by
 obtain ⟨k,s,v,qs,c1,rfl,-⟩:=h;simp
theorem unqT_size (s:ByteArray):(unqT s).size≤s.size:=by
 cases h:unqOK s with
 |false=>rw [unq_no h];exact Nat.zero_le _
 |true=>
  obtain ⟨h1,h2⟩:=unq_quote h
  have:s.data.toList=quoteL (unqT s).data.toList:=by
   have e:=congrArg (fun z:ByteArray=>z.data.toList) h2
   simp only [quoteT,if_pos h1] at e
   exact e.symm
  have hl:=(quoteI_len (unqT s).data.toList).1
  have e1:=size_list s;have e2:=size_list (unqT s)
  rw [this] at e1
  simp only [quoteL,List.length_cons,List.length_append,List.length_nil] at e1
  omega
theorem Rg.words {tk:List Tk} {B:Nat} (hB:60≤B) (ht: ∀(p:Nat) (k:Int) (s:ByteArray),tk[p]? =some (k,s)→s.size≤B) {j:GJob} {p:Nat} {c:List Cl} {q m n:Nat} (h:Rg tk j p c q m n):(∀x∈j.held,x.2.1.size≤B)→ ∀x∈c,x.2.1.size≤B:=by
 induction h with
 |one h1 h2 i=>exact i
 |three h1 h2 h3 h4 h5 i1 i2 i3=>
  intro hh x hx
  simp only [List.mem_cons,List.mem_append] at hx
  have hn: ∀x∈([]:List Cl),x.2.1.size≤B:=fun x hx=>by cases hx
  rcases hx with rfl|hx|hx|hx
  ·exact Nat.zero_le _
  ·exact i1 hn x hx
  ·exact i2 hn x hx
  ·exact i3 hn x hx
 |bin h1 h2 i1 i2=>intro hh;exact i2 (i1 hh)
 |stop h=>exact fun hh=>hh
 |more h1 h2 h3 h4 h5 h6 h7 i1 i2=>
  intro hh
  refine i2 (fun x hx=> ?_)
  simp only [GJob.held,List.mem_cons,List.mem_append] at hx
  rcases hx with rfl|hx|hx
  ·exact ht _ _ _ h4
  ·exact hh x hx
  ·exact i1 (fun x hx=>by cases hx) x hx
 |sign h1 h2 h3 i=>
  intro hh x hx
  rcases List.mem_cons.mp hx with rfl|hx
  ·exact ht _ _ _ h2
  ·exact i hh x hx
 |plain h1 h2 i=>exact i
 | @num p s h1 h2=>
  intro hh x hx
  simp only [List.mem_singleton] at hx
  subst hx
  have:(numWd s).size≤60:=by rw [←size_list];exact textF_len60 _ _
  show (numWd s).size≤B
  omega
 | @text p s h1 h2=>
  intro hh x hx
  simp only [List.mem_singleton] at hx
  subst hx
  exact Nat.le_trans (unqT_size s) (ht _ _ _ h1)
 |truth h1 h2=>intro hh x hx;simp only [List.mem_singleton] at hx;subst hx;exact ht _ _ _ h1
 |name h1 h2 h3 h4=>intro hh x hx;simp only [List.mem_singleton] at hx;subst hx;exact ht _ _ _ h1
 |call h1 h2 h3 h4 h5 i=>
  intro hh x hx
  rcases List.mem_cons.mp hx with rfl|hx
  ·exact ht _ _ _ h1
  ·exact i hh x hx
 |paren h1 h2 h3 i=>exact i
 |list h1 h2 i=>
  intro hh x hx
  rcases List.mem_cons.mp hx with rfl|hx
  ·exact Nat.zero_le _
  ·exact i hh x hx
 |close h=>exact fun hh=>hh
 |part h1 h2 h3 h4 h5 i1 i2=>
  intro hh
  refine i2 (fun x hx=> ?_)
  simp only [GJob.held,List.mem_append] at hx
  rcases hx with hx|hx
  ·exact hh x hx
  ·exact i1 (fun x hx=>by cases hx) x hx
theorem readExpr_impl (s:ByteArray) (w:World) (hs:s.size≤2097152) (htab:Tab w):
  Calls Tryz.prog 142 #[.string s] w (ReadPost s w):=by
 obtain ⟨f1,f2,f3,f4⟩:=toks_facts s
 have HF1:=Lib.hid f1;have HF2:=Lib.hid f2;have HF3:=Lib.hid f3;have HF4:=Lib.hid f4;have HT:=Lib.hid htab
 have hls:s.size≤maxLen:=by unfold maxLen;omega
 have HTK:=Lib.hid (tokensOf_impl s w hls)
 have HRK:=Lib.hid (show rdTk s=(toksT s).map fun x=>(x.1,s.extract x.2.1 x.2.2) from rfl)
 have hrl:(rdTk s).length=(toksT s).length:=by simp [rdTk]
 clear f1 f2 f3 f4 htab hls
 go_enter Tryz.func142,Tryz.ntmps142
 go_wp2_with fail
 refine HTK.out.mono ?_
 rintro e w2 ⟨tv,rfl,ho2,hb2⟩
 have hrow:=RowT.of_own ho2
 obtain ⟨-,ao,cap,rfl,-⟩:=hrow
 have HCX:=Lib.hid (show Cx w2 w2.heap.size s (.slice ao (toksT s).length cap) (toksT s) (rdTk s) from ⟨RowT.of_own ho2,HF1.out,HRK.out,HF2.out,hs,HF3.out,HF4.out,Nat.le_refl _⟩)
 have HTB:=Lib.hid (HT.out.keep hb2)
 have HB2:=Lib.hid hb2
 have HBA:=Lib.hid ((Below.refl w2.heap.size w2).alloc (Nat.le_refl _) (.cells #[.string s, .slice ao (toksT s).length cap, .int .i64 0, .int .i64 0] 195))
 have HRD:=Lib.hid (show RdAt (w2.alloc (.cells #[.string s, .slice ao (toksT s).length cap, .int .i64 0, .int .i64 0] 195)) w2.heap.size s (.slice ao (toksT s).length cap) 0 0 from heap_alloc_new w2 _)
 clear ho2 hb2
 go_wp2_with fail
 refine ((all_g HTB.out HCX.out (10*(rdTk s).length+8)).choice 0 0 _ HBA.out HRD.out (Nat.zero_le _) (by omega) (by omega)).mono ?_
 rintro e w4 ⟨hg4,q,hq,hr4,hres⟩
 have HB4:=Lib.hid (grown_bel HBA.out (show World.grownBy _ w4 (some w2.heap.size) from hg4) (Nat.le_refl _))
 have HBW:=Lib.hid (HB2.out.trans (HB4.out.mono HB2.out.size))
 have HR4:=Lib.hid hr4
 obtain ⟨⟨q0,q1,q2,q3⟩,-⟩:=hr4.cells
 have hs2:=HB2.out.size
 rcases hres with ⟨M,c,n,rfl,ht,hd⟩|⟨rfl,hno⟩
 ·obtain ⟨n4,-⟩:=ht.nest
  have hMl:=ht.lt
  have hnn:=hd.nest
  simp only at hnn
  have HT4:=Lib.hid (ht.tree (hi:=w4.heap.size) hMl.2);have HD:=Lib.hid hd
  have hcl:=hd.le.1
  simp only [GJob.held,List.length_nil] at hcl
  clear ht hd hg4 hr4
  have hf1:=HF1.out
  by_cases hql:q=(toksT s).length
  ·subst hql
   by_cases hn40:n≤40
   ·have hn40': ¬(40:Int)<(n:Int):=by omega
    have HSZ:=Lib.hid (show SizedC c from fun x hx=>by
     have:=HD.out.words (B:=2097152) (by omega) (fun p k wd hp=>by
      obtain ⟨_,wd',h1,-,-,h4⟩:=HCX.out.at (at_lt hp)
      rw [hp] at h1;injection h1 with h1;injection h1 with h1 h2;rw [h2];exact h4) (fun x hx=>by cases hx) x hx
     unfold maxLen;omega)
    go_wp2_with fail
    refine (appendTo_any w4 _ c.length w4.heap.size M c [] (.slice none 0 0) w4 HT4.out (Nat.le_refl _) (by simp;omega) (Below.refl _ _) (World.ownsRow_nil _ _ _ _)).mono ?_
    rintro e w5 ⟨v5,rfl,ho5,hb5⟩
    rw [List.nil_append] at ho5
    have HO5:=Lib.hid ho5
    have HB5:=Lib.hid (HBW.out.trans (hb5.mono HBW.out.size))
    have HRC:=Lib.hid (RowC.of_own ho5).1
    have HT5:=Lib.hid (HT.out.keep HB5.out)
    have hsl:IsSlc v5:=by
     obtain ⟨a,b,hv,-⟩:=HRC.out
     exact ⟨_,_,_,hv⟩
    clear ho5 hb5
    obtain ⟨va,vn,vc,rfl⟩:=hsl
    go_wp2_with fail
    refine (exprValid_impl _ c w5 HRC.out HSZ.out HT5.out).mono ?_
    rintro e w6 ⟨rfl,hb6⟩
    have HB6:=Lib.hid (HB5.out.trans (hb6.mono HB5.out.size))
    have HO6:=Lib.hid (own_keepC HO5.out hb6)
    clear hb6
    cases hok:okE c with
    |true=>
     have HDD:=Lib.hid (show RdOK s c from ⟨⟨n,by rw [hrl];exact HD.out,hn40⟩,hok⟩)
     clear hok
     go_wp2
     go_ret2
     exact ⟨HB6.out, .inl ⟨_,c,rfl,HDD.out,HO6.out.mono (by have:=HBW.out.size;omega)⟩⟩
    |false=>
     have HDD:=Lib.hid (show∀d,¬RdOK s d from fun d ⟨⟨n',h1,h2⟩,h3⟩=>by
      obtain ⟨rfl,-⟩:=HD.out.uniq h1
      rw [hok] at h3;cases h3)
     clear hok
     go_wp2
     go_ret2
     exact ⟨HB6.out, .inr ⟨rfl,HDD.out⟩⟩
   ·have hn40':(40:Int)<(n:Int):=by omega
    have HDD:=Lib.hid (show∀d,¬RdOK s d from fun d ⟨⟨n',h1,h2⟩,h3⟩=>by
     obtain ⟨-,-,-,rfl⟩:=HD.out.uniq h1
     exact hn40 h2)
    go_wp2
    go_ret2
    exact ⟨HBW.out, .inr ⟨rfl,HDD.out⟩⟩
  ·have hqi:(q:Int)<((toksT s).length:Int):=by omega
   have HDD:=Lib.hid (show∀d,¬RdOK s d from fun d ⟨⟨n',h1,h2⟩,h3⟩=>by
    obtain ⟨-,h,-⟩:=HD.out.uniq h1
    rw [hrl] at h
    exact hql h)
   go_wp2
   go_ret2
   exact ⟨HBW.out, .inr ⟨rfl,HDD.out⟩⟩
 ·have HDD:=Lib.hid (show∀d,¬RdOK s d from fun d ⟨⟨n',h1,h2⟩,h3⟩=>by have:=hno _ _ _ _ h1;omega)
  clear hno hg4 hr4
  go_wp2
  go_ret2
  exact ⟨HBW.out, .inr ⟨rfl,HDD.out⟩⟩
inductive Tz (l:List Cl):Nat→Nat→Nat→List Pz→Prop
 |nil (f:Nat):Tz l 0 f f []
 |cons {f g n t:Nat} {c:Cl} {ks xs:List Pz}:l[f]? =some c→Tz l c.2.2.toNat (f+1) g ks→Tz l n g t xs→Tz l (n+1) f t (mkPz c ks::xs)
theorem Tz.len {l:List Cl} {n f t:Nat} {xs:List Pz} (h:Tz l n f t xs):xs.length=n:=by
 induction h with
 |nil f=>rfl
 |cons hc h1 h2 i1 i2=>rw [List.length_cons,i2]
theorem Tz.tx {l:List Cl} {n f t:Nat} {xs:List Pz} (h:Tz l n f t xs):Tx l n f t (xs.map ptOf):=by
 induction h with
 |nil f=>exact .nil f
 |cons hc h1 h2 i1 i2=>exact .cons hc i1 i2
theorem Tz.of_exs {l:List Cl} {n f t d:Nat} (h:Exs (amL l) n f t d): ∃xs,Tz l n f t xs∧maxD xs=d:=by
 generalize ha:amL l=am at h
 induction h with
 |nil f=>exact ⟨[], .nil f,rfl⟩
 | @cons f m g d n t e hm h1 h2 i1 i2=>
  obtain ⟨ks,k1,k2⟩:=i1;obtain ⟨xs,k3,k4⟩:=i2
  subst ha
  obtain ⟨c,hc,rfl⟩:=amL_get hm
  refine ⟨_, .cons hc k1 k3, ?_⟩
  simp only [maxD,mkPz,k2,k4]
theorem Tz.good {l:List Cl} (hok:l.all okC=true) {n f t:Nat} {xs:List Pz} (h:Tz l n f t xs): ∀x∈xs,Good x:=by
 induction h with
 |nil f=>intro x hx;cases hx
 | @cons f g n t c ks xs hc h1 h2 i1 i2=>
  intro x hx
  rcases List.mem_cons.mp hx with rfl|hx
  ·obtain ⟨hl,he⟩:=List.getElem?_eq_some_iff.mp hc
   exact good_mk (by rw [←he];exact okC_all hok f hl) h1.len i1
  ·exact i2 x hx
theorem Tz.cells {l:List Cl} {n f t:Nat} {xs:List Pz} (h:Tz l n f t xs):xs.flatMap Pz.cl=(l.drop f).take (t-f)∧f≤t:=by
 induction h with
 |nil f=>simp
 | @cons f g n t c ks xs hc h1 h2 i1 i2=>
  obtain ⟨hl,he⟩:=List.getElem?_eq_some_iff.mp hc
  obtain ⟨e1,l1⟩:=i1
  obtain ⟨e2,l2⟩:=i2
  refine ⟨?_,by omega⟩
  have e0:l.drop f=c::l.drop (f+1):=by rw [List.drop_eq_getElem_cons hl,he]
  rw [List.flatMap_cons,e2]
  simp only [mkPz]
  rw [e1,e0,show t-f=(t-(f+1))+1 by omega,List.take_succ_cons,List.cons_append]
  congr 1
  have:l.drop g=(l.drop (f+1)).drop (g-(f+1)):=by rw [List.drop_drop];congr 1;omega
  rw [this,show t-(f+1)=(g-(f+1))+(t-g) by omega,List.take_add]
theorem pz_of {l:List Cl} (hok:okE l=true): ∃x:Pz,Good x∧x.tx=textE l∧x.cl=l∧x.dp≤12:=by
 obtain ⟨h60,hal,d,hd,hx⟩:=(okE_iff l).mp hok
 obtain ⟨xs,h,hm⟩:=Tz.of_exs hx
 have hl:=h.len
 match xs,hl,h,hm with
 |[x],_,h,hm=>
  refine ⟨x,h.good hal x (by simp), ?_, ?_, ?_⟩
  ·have:=textE_of hok (x:=ptOf x) h.tx
   rw [this];rfl
  ·have:=h.cells.1
   simpa using this
  ·simp only [maxD] at hm;omega
theorem lex_toks {tx:List UInt8} {tk:List Kw} (h:Lex tx tk) (hp:plainL tx=true) (hl:tx.length≤20000):rdTk ⟨tx.toArray⟩=tk.map fun x=>(x.1,(⟨x.2.toArray⟩:ByteArray)):=by
 obtain ⟨L,e1,b1,r1⟩:=h
 have he:endM (0,0,[]) 0 tx=(0,tx.length,L):=by
  have:=r1 [] rfl 0 []
  rw [List.append_nil,List.nil_append,Nat.zero_add] at this
  rw [this]
  have hz:L.map (shT 0)=L:=by
   have:shT 0=id:=by funext x;rfl
   rw [this,List.map_id]
  rw [hz]
  unfold endM
  rw [runM,step_zero,first_space];simp
 have hres:resB (0,0,[]) 0 tx=true:=by rw [resB,he];rfl
 have hok:okT ⟨tx.toArray⟩=true:=by
  rw [okT,ba_list,hp,hres]
  simp only [Bool.and_true,decide_eq_true_eq]
  show tx.toArray.size≤20000
  simpa using hl
 have ht:toksT ⟨tx.toArray⟩=L:=by
  rw [toksT,if_pos hok,ba_list,resL,if_pos hres,he]
 rw [rdTk,ht,←e1,List.map_map]
 apply List.map_congr_left
 intro x hx
 have hb:=b1 x hx
 simp only [Function.comp]
 congr 1
 apply ba_eq
 rw [ByteArray.data_extract,Array.toList_extract,List.extract_eq_take_drop]
theorem lex_at {tx:List UInt8} {tk:List Kw} (h:Lex tx tk) (hp:plainL tx=true) (hl:tx.length≤20000):AtK (rdTk ⟨tx.toArray⟩) 0 tk∧(rdTk ⟨tx.toArray⟩).length=tk.length:=by
 rw [lex_toks h hp hl]
 refine ⟨fun i hi=> ?_,by simp⟩
 rw [Nat.zero_add,List.getElem?_map,List.getElem?_eq_getElem hi];rfl
theorem end_isT (tk:List Tk) {q:Nat} (h:tk.length≤q) (w:List UInt8):isT tk q w=false∧rkT tk q=0:=by
 unfold isT rkT
 rw [List.getElem?_eq_none h];exact ⟨rfl,rfl⟩
theorem good_reads {x:Pz} (hg:Good x) (hd:x.dp≤20) (hl:x.tx.length≤20000) (hok:okE x.cl=true):RdOK ⟨x.tx.toArray⟩ x.cl:=by
 obtain ⟨ha,hlen⟩:=lex_at hg.lex hg.plain hl
 have he:=end_isT (rdTk ⟨x.tx.toArray⟩) (q:=0+x.tk.length) (by omega)
 obtain ⟨n,hn,hr⟩:=hg.chc _ 0 ha (he [40]).1 (he []).2 (he [63]).1
 have hdp:=hg.dp
 refine ⟨⟨n, ?_,by omega⟩,hok⟩
 rw [hlen]
 rwa [Nat.zero_add] at hr
theorem text_reads {l:List Cl} (hok:okE l=true):RdOK ⟨(textE l).toArray⟩ l:=by
 obtain ⟨x,hg,ht,hc,hd⟩:=pz_of hok
 have hl:=textE_len l
 rw [←ht] at hl⊢
 rw [←hc] at hok
 rw [←hc]
 exact good_reads hg (by omega) (by omega) hok
theorem itemI_k1 (n:ByteArray) (l:List Cl) (t:ByteArray) (u:Value) (w:World) (hr:RowC w u l) (hn:n.size≤maxLen) (hz:SizedC l) (ht:t.size≤maxLen) (htab:Tab w):
  Calls Tryz.prog 19 #[.agg #[.int .i64 1, .string n,u, .string t]] w fun e w'=>e= .returned (.bool (emB n&&(l.isEmpty&&emB t)))∧Below w.heap.size w w':=by
 have HB0:=Lib.hid ((Below.refl w.heap.size w).alloc (Nat.le_refl _) (.cells #[.int .i64 1, .string n,u, .string t] 25))
 obtain ⟨ao,cap,rfl,-⟩:=hr
 cases h1:emB n with
 |false=>
  obtain ⟨a1,a2,a3,a4⟩:=em_f h1
  clear hz
  go_enter Tryz.func19,Tryz.ntmps19
  go_wp2
  go_ret
  exact ⟨rfl,HB0.out⟩
 |true=>
  obtain ⟨a1,a2,a3,a4⟩:=em_t h1
  cases h2:l.isEmpty with
  |false=>
   have b1:=(le_f h2).1
   clear hz
   go_enter Tryz.func19,Tryz.ntmps19
   go_wp2
   go_ret
   exact ⟨rfl,HB0.out⟩
  |true=>
   have b1:=(le_t h2).1
   cases h3:emB t with
   |false=>
    obtain ⟨c1,c2,c3,c4⟩:=em_f h3
    clear hz
    go_enter Tryz.func19,Tryz.ntmps19
    go_wp2
    go_ret
    exact ⟨rfl,HB0.out⟩
   |true=>
    obtain ⟨c1,c2,c3,c4⟩:=em_t h3
    clear hz
    go_enter Tryz.func19,Tryz.ntmps19
    go_wp2
    go_ret
    exact ⟨rfl,HB0.out⟩
theorem itemI_k5 (n:ByteArray) (l:List Cl) (t:ByteArray) (u:Value) (w:World) (hr:RowC w u l) (hn:n.size≤maxLen) (hz:SizedC l) (ht:t.size≤maxLen) (htab:Tab w):
  Calls Tryz.prog 19 #[.agg #[.int .i64 5, .string n,u, .string t]] w fun e w'=>e= .returned (.bool (emB n&&(l.isEmpty&&emB t)))∧Below w.heap.size w w':=by
 have HB0:=Lib.hid ((Below.refl w.heap.size w).alloc (Nat.le_refl _) (.cells #[.int .i64 5, .string n,u, .string t] 25))
 obtain ⟨ao,cap,rfl,-⟩:=hr
 cases h1:emB n with
 |false=>
  obtain ⟨a1,a2,a3,a4⟩:=em_f h1
  clear hz
  go_enter Tryz.func19,Tryz.ntmps19
  go_wp2
  go_ret
  exact ⟨rfl,HB0.out⟩
 |true=>
  obtain ⟨a1,a2,a3,a4⟩:=em_t h1
  cases h2:l.isEmpty with
  |false=>
   have b1:=(le_f h2).1
   clear hz
   go_enter Tryz.func19,Tryz.ntmps19
   go_wp2
   go_ret
   exact ⟨rfl,HB0.out⟩
  |true=>
   have b1:=(le_t h2).1
   cases h3:emB t with
   |false=>
    obtain ⟨c1,c2,c3,c4⟩:=em_f h3
    clear hz
    go_enter Tryz.func19,Tryz.ntmps19
    go_wp2
    go_ret
    exact ⟨rfl,HB0.out⟩
   |true=>
    obtain ⟨c1,c2,c3,c4⟩:=em_t h3
    clear hz
    go_enter Tryz.func19,Tryz.ntmps19
    go_wp2
    go_ret
    exact ⟨rfl,HB0.out⟩
theorem itemI_k2 (n:ByteArray) (l:List Cl) (t:ByteArray) (u:Value) (w:World) (hr:RowC w u l) (hn:n.size≤maxLen) (hz:SizedC l) (ht:t.size≤maxLen) (htab:Tab w):
  Calls Tryz.prog 19 #[.agg #[.int .i64 2, .string n,u, .string t]] w fun e w'=>e= .returned (.bool (emB n&&(l.isEmpty&&noteB t)))∧Below w.heap.size w w':=by
 have HB0:=Lib.hid ((Below.refl w.heap.size w).alloc (Nat.le_refl _) (.cells #[.int .i64 2, .string n,u, .string t] 25))
 obtain ⟨ao,cap,rfl,-⟩:=hr
 cases h1:emB n with
 |false=>
  obtain ⟨a1,a2,a3,a4⟩:=em_f h1
  clear hz
  go_enter Tryz.func19,Tryz.ntmps19
  go_wp2
  go_ret
  exact ⟨rfl,HB0.out⟩
 |true=>
  obtain ⟨a1,a2,a3,a4⟩:=em_t h1
  cases h2:l.isEmpty with
  |false=>
   have b1:=(le_f h2).1
   clear hz
   go_enter Tryz.func19,Tryz.ntmps19
   go_wp2
   go_ret
   exact ⟨rfl,HB0.out⟩
  |true=>
   have b1:=(le_t h2).1
   clear hz
   cases h9:noteB t
   all_goals
    go_enter Tryz.func19,Tryz.ntmps19
    go_wp2_with fail
    refine (note_impl t _ ht).mono ?_
    rintro e w1 ⟨rfl,rfl⟩
    rw [h9]
    go_wp2
    go_ret
    exact ⟨rfl,HB0.out⟩
theorem itemI_k3 (n:ByteArray) (l:List Cl) (t:ByteArray) (u:Value) (w:World) (hr:RowC w u l) (hn:n.size≤maxLen) (hz:SizedC l) (ht:t.size≤maxLen) (htab:Tab w):
  Calls Tryz.prog 19 #[.agg #[.int .i64 3, .string n,u, .string t]] w fun e w'=>e= .returned (.bool (simpB n&&(okE l&&noteB t)))∧Below w.heap.size w w':=by
 have HB0:=Lib.hid ((Below.refl w.heap.size w).alloc (Nat.le_refl _) (.cells #[.int .i64 3, .string n,u, .string t] 25))
 have HRX:=Lib.hid (hr.mono HB0.out)
 have HTX:=Lib.hid (htab.keep HB0.out)
 have HX:=Lib.hid (exprValid_impl u l _ HRX.out hz HTX.out)
 obtain ⟨ao,cap,rfl,-⟩:=hr
 have HBX:=Lib.hid (fun w1 (h:Below (w.alloc (.cells #[.int .i64 3, .string n, .slice ao l.length cap, .string t] 25)).heap.size (w.alloc (.cells #[.int .i64 3, .string n, .slice ao l.length cap, .string t] 25)) w1)=>boxI h)
 clear hz
 cases h1:simpB n with
 |false=>
  go_enter Tryz.func19,Tryz.ntmps19
  go_wp2_with fail
  refine (plainName_any n _ hn).mono ?_
  rintro e w1 ⟨rfl,rfl⟩
  rw [h1]
  go_wp2
  go_ret
  exact ⟨rfl,HB0.out⟩
 |true=>
  cases h2:okE l with
  |false=>
   go_enter Tryz.func19,Tryz.ntmps19
   go_wp2_with fail
   refine (plainName_any n _ hn).mono ?_
   rintro e w1 ⟨rfl,rfl⟩
   rw [h1]
   go_wp2_with fail
   refine HX.out.mono ?_
   rintro e w1 ⟨rfl,hb1⟩
   have HB1:=Lib.hid (HB0.out.trans (hb1.mono HB0.out.size));clear hb1
   rw [h2]
   go_wp2
   go_ret
   exact ⟨rfl,HB1.out⟩
  |true=>
   cases h9:noteB t
   all_goals
    go_enter Tryz.func19,Tryz.ntmps19
    go_wp2_with fail
    refine (plainName_any n _ hn).mono ?_
    rintro e w1 ⟨rfl,rfl⟩
    rw [h1]
    go_wp2_with fail
    refine HX.out.mono ?_
    rintro e w1 ⟨rfl,hb1⟩
    obtain ⟨d0,d1,d2,d3⟩:=HBX.out w1 hb1
    have HB1:=Lib.hid (HB0.out.trans (hb1.mono HB0.out.size));clear hb1
    rw [h2]
    go_wp2_with fail
    refine (note_impl t _ ht).mono ?_
    rintro e w2 ⟨rfl,rfl⟩
    rw [h9]
    go_wp2
    go_ret
    exact ⟨rfl,HB1.out⟩
theorem itemI_k4 (n:ByteArray) (l:List Cl) (t:ByteArray) (u:Value) (w:World) (hr:RowC w u l) (hn:n.size≤maxLen) (hz:SizedC l) (ht:t.size≤maxLen) (htab:Tab w):
  Calls Tryz.prog 19 #[.agg #[.int .i64 4, .string n,u, .string t]] w fun e w'=>e= .returned (.bool (simpB n&&(l.isEmpty&&emB t)))∧Below w.heap.size w w':=by
 have HB0:=Lib.hid ((Below.refl w.heap.size w).alloc (Nat.le_refl _) (.cells #[.int .i64 4, .string n,u, .string t] 25))
 obtain ⟨ao,cap,rfl,-⟩:=hr
 clear hz
 cases h1:simpB n with
 |false=>
  go_enter Tryz.func19,Tryz.ntmps19
  go_wp2_with fail
  refine (plainName_any n _ hn).mono ?_
  rintro e w1 ⟨rfl,rfl⟩
  rw [h1]
  go_wp2
  go_ret
  exact ⟨rfl,HB0.out⟩
 |true=>
  cases h2:l.isEmpty with
  |false=>
   have b1:=(le_f h2).1
   go_enter Tryz.func19,Tryz.ntmps19
   go_wp2_with fail
   refine (plainName_any n _ hn).mono ?_
   rintro e w1 ⟨rfl,rfl⟩
   rw [h1]
   go_wp2
   go_ret
   exact ⟨rfl,HB0.out⟩
  |true=>
   have b1:=(le_t h2).1
   cases h3:emB t with
   |false=>
    obtain ⟨c1,c2,c3,c4⟩:=em_f h3
    go_enter Tryz.func19,Tryz.ntmps19
    go_wp2_with fail
    refine (plainName_any n _ hn).mono ?_
    rintro e w1 ⟨rfl,rfl⟩
    rw [h1]
    go_wp2
    go_ret
    exact ⟨rfl,HB0.out⟩
   |true=>
    obtain ⟨c1,c2,c3,c4⟩:=em_t h3
    go_enter Tryz.func19,Tryz.ntmps19
    go_wp2_with fail
    refine (plainName_any n _ hn).mono ?_
    rintro e w1 ⟨rfl,rfl⟩
    rw [h1]
    go_wp2
    go_ret
    exact ⟨rfl,HB0.out⟩
theorem itemI_ko (k:Int) (h1:k≠1) (h2:k≠2) (h3:k≠3) (h4:k≠4) (h5:k≠5) (n:ByteArray) (l:List Cl) (t:ByteArray) (u:Value) (w:World) (hr:RowC w u l) (hn:n.size≤maxLen) (hz:SizedC l) (ht:t.size≤maxLen) (htab:Tab w):
  Calls Tryz.prog 19 #[.agg #[.int .i64 k, .string n,u, .string t]] w fun e w'=>e= .returned (.bool (false))∧Below w.heap.size w w':=by
 have HB0:=Lib.hid ((Below.refl w.heap.size w).alloc (Nat.le_refl _) (.cells #[.int .i64 k, .string n,u, .string t] 25))
 obtain ⟨ao,cap,rfl,-⟩:=hr
 clear hz
 have a1:(k==1)=false:=beq_eq_false_iff_ne.mpr h1
 have a2:(k==2)=false:=beq_eq_false_iff_ne.mpr h2
 have a3:(k==3)=false:=beq_eq_false_iff_ne.mpr h3
 have a4:(k==4)=false:=beq_eq_false_iff_ne.mpr h4
 have a5:(k==5)=false:=beq_eq_false_iff_ne.mpr h5
 go_enter Tryz.func19,Tryz.ntmps19
 go_wp2
 go_ret
 exact ⟨rfl,HB0.out⟩
theorem itemValid_impl (i:It) (u:Value) (w:World) (hr:RowC w u i.2.2.1) (hn:i.2.1.size≤maxLen) (hz:SizedC i.2.2.1) (ht:i.2.2.2.size≤maxLen) (htab:Tab w):
  Calls Tryz.prog 19 #[.agg #[.int .i64 i.1, .string i.2.1,u, .string i.2.2.2]] w fun e w'=>e= .returned (.bool (itemB i))∧Below w.heap.size w w':=by
 obtain ⟨k,n,l,t⟩:=i
 simp only at hr hn hz ht⊢
 unfold itemB
 simp only
 by_cases h1:k=1
 ·subst h1;rw [if_pos (.inl rfl)];exact itemI_k1 n l t u w hr hn hz ht htab
 by_cases h5:k=5
 ·subst h5;rw [if_pos (.inr rfl)];exact itemI_k5 n l t u w hr hn hz ht htab
 rw [if_neg (by omega)]
 by_cases h2:k=2
 ·subst h2;rw [if_pos rfl];exact itemI_k2 n l t u w hr hn hz ht htab
 rw [if_neg h2]
 by_cases h3:k=3
 ·subst h3;rw [if_pos rfl];exact itemI_k3 n l t u w hr hn hz ht htab
 rw [if_neg h3]
 by_cases h4:k=4
 ·subst h4;rw [if_pos rfl];exact itemI_k4 n l t u w hr hn hz ht htab
 rw [if_neg h4]
 exact itemI_ko k h1 h2 h3 h4 h5 n l t u w hr hn hz ht htab
open Go.RowKit Go.ChangeShapes Go.WideShapes Go.Deep
def SizedI (i:It):Prop:=i.2.1.size≤maxLen∧SizedC i.2.2.1∧i.2.2.2.size≤maxLen
def ArgIs (w:World) (a:Option Addr) (len cap:Nat) (l:List It):Prop:=l.length=len∧RowIt w (.slice a len cap) l∧ ∀i∈l,SizedI i
theorem ArgIs.of {w:World} {x:Addr} {len cap:Nat} (f:Nat→It) (hl:len≤cap) (hm:cap≤maxLen)
  (hc: ∀i,i<len→ ∃u,w.cell? (x.add (i*4))=some (.int .i64 (f i).1)∧w.cell? (x.add (i*4+1))=some (.string (f i).2.1)∧w.cell? (x.add (i*4+2))=some u∧w.cell? (x.add (i*4+3))=some (.string (f i).2.2.2)∧RowC w u (f i).2.2.1∧SizedI (f i)):
  ArgIs w (some x) len cap ((List.range len).map f):=by
 have hlen:((List.range len).map f).length=len:=by simp
 refine ⟨hlen,⟨some x,cap,by rw [hlen],by rw [hlen];exact hl,hm, ?_⟩, ?_⟩
 ·by_cases h0:len=0
  ·left;subst h0;rfl
  ·right
   obtain ⟨b,off,spot⟩:=x
   obtain ⟨u0,g0,-⟩:=hc 0 (by omega)
   have hc0:=cell_low g0
   have hsp:spot=none:=by
    have:=hc0.1
    unfold Addr.add at this;split at this<;>simp_all
   subst hsp
   refine ⟨b,off,rfl,by have:=hc0.2;rw [addr_add] at this;exact this,fun k hk=> ?_⟩
   rw [hlen] at hk
   obtain ⟨u,c0,c1,c2,c3,c4,-⟩:=hc k hk
   rw [addr_add] at c0 c1 c2 c3
   simp only [List.getElem_map,List.getElem_range]
   exact ⟨u,c0,by rw [Nat.add_assoc];exact c1,by rw [Nat.add_assoc];exact c2,by rw [Nat.add_assoc];exact c3,c4⟩
 ·intro c hcm
  simp only [List.mem_map,List.mem_range] at hcm
  obtain ⟨i,hi,rfl⟩:=hcm
  obtain ⟨u,-,-,-,-,-,h⟩:=hc i hi
  exact h
theorem sameCells_same (v1 v2:Value) (l:List Cl) (w:World) (h1:RowC w v1 l) (h2:RowC w v2 l):
  Calls Tryz.prog 52 #[v1,v2] w fun e w'=>e= .returned (.bool true)∧Below w.heap.size w w':=by
 obtain ⟨a1,c1,rfl,p1,q1,r1⟩:=h1
 obtain ⟨a2,c2,rfl,p2,q2,r2⟩:=h2
 unfold maxLen at q1 q2
 have R1:=Lib.hid r1;have R2:=Lib.hid r2
 clear r1 r2
 go_enter Tryz.func52,Tryz.ntmps52
 go_wp2_with fail
 go_loopw [5] (fun i wr=> ∃k:Nat,k≤l.length∧i= .int .i64 (k:Int)∧Below w.heap.size w wr) (fun i _=>l.length-(intOf i).toNat)
 case atStart=>exact ⟨0,Nat.zero_le _,rfl,Below.refl _ _⟩
 case round=>
  obtain ⟨k,hk,rfl,hb⟩:=hrel
  have HB:=Lib.hid hb;clear hb
  by_cases hlt:k<l.length
  ·obtain ⟨b1,o1,rfl,hl1,cc1⟩:=R1.out.resolve_left (by rintro rfl;simp at hlt)
   obtain ⟨b2,o2,rfl,hl2,cc2⟩:=R2.out.resolve_left (by rintro rfl;simp at hlt)
   obtain ⟨x0,x1,x2⟩:=cc1 k hlt
   obtain ⟨y0,y1,y2⟩:=cc2 k hlt
   have d0:=(HB.out.cell (p:=⟨b1,_,none⟩) hl1).trans x0
   have d1:=(HB.out.cell (p:=⟨b1,_,none⟩) hl1).trans x1
   have d2:=(HB.out.cell (p:=⟨b1,_,none⟩) hl1).trans x2
   have e0:=(HB.out.cell (p:=⟨b2,_,none⟩) hl2).trans y0
   have e1:=(HB.out.cell (p:=⟨b2,_,none⟩) hl2).trans y1
   have e2:=(HB.out.cell (p:=⟨b2,_,none⟩) hl2).trans y2
   generalize l[k].1=kk at d0 e0
   generalize l[k].2.1=ss at d1 e1
   generalize l[k].2.2=mm at d2 e2
   clear cc1 cc2 x0 x1 x2 y0 y1 y2
   go_wp2_with fail
   go_quiet (fail)
   have HQ:=Lib.hid (show Below w.heap.size w (wr.drewN nq) from HB.out.trans ⟨rfl,rfl,rfl,Nat.le_refl _,fun _ _=>rfl⟩)
   go_wp2
   go_roundw
   case rel=>exact ⟨k+1,by omega,by go_num,HQ.out⟩
   case measure=>simp [intOf];omega
  ·obtain rfl:k=l.length:=by omega
   go_wp2
   go_ret
   exact ⟨rfl,HB.out⟩
theorem sameItem_same (k:Int) (s t:ByteArray) (u1 u2:Value) (l:List Cl) (w:World) (h1:RowC w u1 l) (h2:RowC w u2 l):
  Calls Tryz.prog 16 #[.agg #[.int .i64 k, .string s,u1, .string t], .agg #[.int .i64 k, .string s,u2, .string t]] w fun e w'=>e= .returned (.bool true)∧Below w.heap.size w w':=by
 have HB0:=Lib.hid (((Below.refl w.heap.size w).alloc (Nat.le_refl _) (.cells #[.int .i64 k, .string s,u1, .string t] 25)).alloc (by simp) (.cells #[.int .i64 k, .string s,u2, .string t] 25))
 have HC:=Lib.hid (sameCells_same u1 u2 l _ (h1.mono HB0.out) (h2.mono HB0.out))
 have HX0:=Lib.hid (fun w1 (h:Below ((w.alloc (.cells #[.int .i64 k, .string s,u1, .string t] 25)).alloc (.cells #[.int .i64 k, .string s,u2, .string t] 25)).heap.size ((w.alloc (.cells #[.int .i64 k, .string s,u1, .string t] 25)).alloc (.cells #[.int .i64 k, .string s,u2, .string t] 25)) w1)=>
  (show w1.cell? ⟨w.heap.size,3,none⟩=some (.string t) by rw [h.cell (by simp;omega)];simp [go_sem]))
 have HX1:=Lib.hid (fun w1 (h:Below ((w.alloc (.cells #[.int .i64 k, .string s,u1, .string t] 25)).alloc (.cells #[.int .i64 k, .string s,u2, .string t] 25)).heap.size ((w.alloc (.cells #[.int .i64 k, .string s,u1, .string t] 25)).alloc (.cells #[.int .i64 k, .string s,u2, .string t] 25)) w1)=>
  (show w1.cell? ⟨w.heap.size+1,3,none⟩=some (.string t) by rw [h.cell (by simp)];simp [go_sem]))
 obtain ⟨a1,c1,rfl,-⟩:=h1
 obtain ⟨a2,c2,rfl,-⟩:=h2
 have ht:(s.toList==s.toList)=true:=by simp
 have ht2:(t.toList==t.toList)=true:=by simp
 have hk:(k !=k)=false:=by simp
 go_enter Tryz.func16,Tryz.ntmps16
 go_wp2_with fail
 refine HC.out.mono ?_
 rintro e w1 ⟨rfl,hb1⟩
 have e0:=HX0.out w1 hb1
 have e1:=HX1.out w1 hb1
 have HB1:=Lib.hid (HB0.out.trans (hb1.mono HB0.out.size));clear hb1
 go_wp2
 go_ret
 exact ⟨rfl,HB1.out⟩
end Go.Proofs.YthijkjnngfnfdaaGreatDoor
