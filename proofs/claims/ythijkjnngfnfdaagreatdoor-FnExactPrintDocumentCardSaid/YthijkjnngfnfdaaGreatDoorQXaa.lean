/-
  Part of the proof of FnExactPrintDocument.
-/
import Derived.Test.YthijkjnngfnfdaaGreatDoorNoteI
import Derived.Test.YthijkjnngfnfdaaGreatDoorReadLine
import Derived.Test.YthijkjnngfnfdaaGreatDoorItB
import Derived.Lib.Strings
import Derived.WalkKit
import Derived.WalkSpells
import Derived.Lib.Hide
import Derived.IntWalk
import Derived.BigQuiet
import Derived.Deep.QuietTactic
import Derived.Below
import Derived.Laws.OwnMore
import Derived.OwnWalk
import Derived.Lib.TrimByte
import Derived.Deep.Slices
import Derived.Deep.Strs
import Derived.Deep.Fields
import Derived.ChangeSame
import Derived.Lib.SmallJoins
import Derived.Deep.RegionHeld3
import Derived.RegionTactic
import Derived.Deep.DrawnRows
import Derived.Laws.Rows
set_option linter.unusedVariables false
set_option maxHeartbeats 4000000
set_option maxRecDepth 100000
namespace Go.Proofs.YthijkjnngfnfdaaGreatDoor
open Go.RowKit
theorem one_list (s:ByteArray) (k:Nat) (h:k<s.size):(s.extract k (k+1)).data.toList=[s[k]]:=by
 have hl:s.data.toList.length=s.size:=by rw [Array.length_toList];rfl
 rw [Lib.extract_data,List.drop_eq_getElem_cons (by omega),show k+1-k=1 by omega]
 rfl
theorem quote_step' (s:ByteArray) (k:Nat) (h:k<s.size):quoteI (s.data.toList.take (k+1))=quoteI (s.data.toList.take k)++quoteC s[k]:=by
 rw [take_snoc s k h,quoteI_snoc]
theorem quoteT_none {s:ByteArray} (h:textB s=false):quoteT s=⟨#[]⟩:=by unfold quoteT;rw [h];rfl
theorem textB_sz {s:ByteArray} (h:textB s=true):s.size≤20000:=by
 simp only [textB,Bool.and_eq_true,decide_eq_true_eq] at h;exact h.1
theorem quoteText_spec (s:ByteArray) (w:World) (hs:s.size≤maxLen):
  Calls Tryz.prog 131 #[.string s] w fun e w'=>e= .returned (.string (quoteT s))∧w=w':=by
 cases ht:textB s with
 |false=>
  rw [quoteT_none ht]
  go_enter Tryz.func131,Tryz.ntmps131
  go_wp2_with fail
  refine (textValid_spec s _ hs).mono ?_
  rintro e w' ⟨rfl,rfl⟩
  rw [ht]
  go_wp2
  go_ret
  exact ⟨rfl,rfl⟩
 |true=>
  have hs2:=textB_sz ht
  have HS:=Lib.hid hs
  have HT:=Lib.hid ht
  clear ht hs
  go_enter Tryz.func131,Tryz.ntmps131
  go_wp2_with fail
  refine (textValid_spec s _ HS.out).mono ?_
  rintro e w' ⟨rfl,rfl⟩
  rw [HT.out]
  go_wp2_with fail
  go_loop [3,4] (fun o i=> ∃(k:Nat) (q:ByteArray),k≤s.size∧i= .int .i64 k∧o= .string q∧q.data.toList=34::quoteI (s.data.toList.take k)∧q.size≤2*k+1) (fun _ i=>s.size-(intOf i).toNat)
  case atStart=>exact ⟨0,_,Nat.zero_le _,rfl,rfl,rfl,by show (1:Nat)≤1;omega⟩
  case round=>
   obtain ⟨k,q,hk,rfl,rfl,hq,hz⟩:=hrel
   have HQ:=Lib.hid hq
   clear hq
   by_cases hlt:k<s.size
   ·have hb0:(s[k].toNat:Int)≤255:=by have:=s[k].toNat_lt;omega
    have HN:=Lib.hid (quote_step' s k hlt)
    have HO:=Lib.hid (one_list s k hlt)
    have hoz:(s.extract k (k+1)).size=1:=by rw [ByteArray.size_extract];omega
    by_cases h10:s[k]=10
    ·have HC:=Lib.hid (show quoteC s[k]=[92,110] by rw [h10];rfl)
     have t1:((s[k].toNat:Int)==10)=true:=by rw [h10];rfl
     clear h10
     go_wp2
     go_round
     case rel=>exact ⟨k+1,_,by omega,by go_num,rfl,by rw [HN.out,HC.out];have:=HQ.out;simp [this],by rw [ByteArray.size_append];show q.size+2≤_;omega⟩
     case measure=>simp [intOf];omega
    ·have t1:((s[k].toNat:Int)==10)=false:=by
      rw [beq_eq_false_iff_ne];intro e;exact h10 (UInt8.toNat_inj.mp (by rw [show (10:UInt8).toNat=10 from rfl];omega))
     by_cases h34:s[k]=34∨s[k]=92
     ·have HC:=Lib.hid (show quoteC s[k]=[92,s[k]] by unfold quoteC;rw [if_neg h10,if_pos h34])
      by_cases h3:s[k]=34
      ·have t2:((s[k].toNat:Int)==34)=true:=by rw [h3];rfl
       clear h10 h34 h3
       go_wp2
       go_round
       case rel=>exact ⟨k+1,_,by omega,by go_num,rfl,by rw [HN.out,HC.out];have:=HQ.out;have h4:=HO.out;simp only [ByteArray.data_append,Array.toList_append,this,h4];simp,by simp only [ByteArray.size_append];rw [hoz];show q.size+1+1≤_;omega⟩
       case measure=>simp [intOf];omega
      ·have t2:((s[k].toNat:Int)==34)=false:=by
        rw [beq_eq_false_iff_ne];intro e;exact h3 (UInt8.toNat_inj.mp (by rw [show (34:UInt8).toNat=34 from rfl];omega))
       have t3:((s[k].toNat:Int)==92)=true:=by rw [h34.resolve_left h3];rfl
       clear h10 h34 h3
       go_wp2
       go_round
       case rel=>exact ⟨k+1,_,by omega,by go_num,rfl,by rw [HN.out,HC.out];have:=HQ.out;have h4:=HO.out;simp only [ByteArray.data_append,Array.toList_append,this,h4];simp,by simp only [ByteArray.size_append];rw [hoz];show q.size+1+1≤_;omega⟩
       case measure=>simp [intOf];omega
     ·have HC:=Lib.hid (show quoteC s[k]=[s[k]] by unfold quoteC;rw [if_neg h10,if_neg h34])
      have t2:((s[k].toNat:Int)==34)=false:=by
       rw [beq_eq_false_iff_ne];intro e;exact h34 (.inl (UInt8.toNat_inj.mp (by rw [show (34:UInt8).toNat=34 from rfl];omega)))
      have t3:((s[k].toNat:Int)==92)=false:=by
       rw [beq_eq_false_iff_ne];intro e;exact h34 (.inr (UInt8.toNat_inj.mp (by rw [show (92:UInt8).toNat=92 from rfl];omega)))
      clear h10 h34
      go_wp2
      go_round
      case rel=>exact ⟨k+1,_,by omega,by go_num,rfl,by rw [HN.out,HC.out];have:=HQ.out;have h4:=HO.out;simp only [ByteArray.data_append,Array.toList_append,this,h4];simp,by simp only [ByteArray.size_append];rw [hoz];omega⟩
      case measure=>simp [intOf];omega
   ·obtain rfl:k=s.size:=by omega
    go_wp2
    go_ret
    have h5:=HQ.out
    rw [List.take_of_length_le (by simp)] at h5
    have h6:quoteT s=q++⟨#[34]⟩:=by
     unfold quoteT quoteL
     rw [if_pos HT.out]
     exact ba_eq (by simp [h5])
    rw [h6]
    exact ⟨rfl,rfl⟩
theorem note_of (s:ByteArray):noteB s=(textB s&&(decide (s.size≤60)&&(!hasL s.data.toList 10&& !spacedB s))):=by
 unfold noteB spacedB
 simp only [Bool.not_or,bne]
theorem note_spec (s:ByteArray) (w:World) (hs:s.size≤maxLen):
  Calls Tryz.prog 46 #[.string s] w fun e w'=>e= .returned (.bool (noteB s))∧w=w':=by
 have HMX:=Lib.hid hs
 have HHX:=Lib.hid (l1Has_any s 10 w hs (by omega) (by omega))
 unfold maxLen at hs
 rw [note_of]
 cases h0:textB s with
 |false=>
  go_enter Tryz.func46,Tryz.ntmps46
  go_wp2_with fail
  refine (textValid_spec s _ HMX.out).mono ?_
  rintro e w' ⟨rfl,rfl⟩
  rw [h0]
  go_wp2
  go_ret
  exact ⟨rfl,rfl⟩
 |true=>
  by_cases h:s.size≤60
  ·rw [decide_eq_true h]
   have z:decide ((s.size:Int)≤60)=true:=decide_eq_true (by omega)
   cases hh:hasL s.data.toList 10 with
   |true=>
    go_enter Tryz.func46,Tryz.ntmps46
    go_wp2_with fail
    refine (textValid_spec s _ HMX.out).mono ?_
    rintro e w' ⟨rfl,rfl⟩
    rw [h0]
    go_wp2_with fail
    refine HHX.out.mono ?_
    rintro e w' ⟨rfl,rfl⟩
    rw [hh]
    go_wp2
    go_ret
    exact ⟨rfl,rfl⟩
   |false=>
    cases he:emB s with
    |true=>
     obtain ⟨a1,a2,a3,a4⟩:=em_t he
     have hz:s.data.toList=[]:=by rw [←ByteArray.toList_eq];exact a2
     rw [show spacedB s=false by unfold spacedB;rw [hz];rfl]
     clear hz
     go_enter Tryz.func46,Tryz.ntmps46
     go_wp2_with fail
     refine (textValid_spec s _ HMX.out).mono ?_
     rintro e w' ⟨rfl,rfl⟩
     rw [h0]
     go_wp2_with fail
     refine HHX.out.mono ?_
     rintro e w' ⟨rfl,rfl⟩
     rw [hh]
     go_wp2
     go_ret
     exact ⟨rfl,rfl⟩
    |false=>
     obtain ⟨a1,a2,a3,a4⟩:=em_f he
     have hp:0<s.size:=by
      rcases Nat.eq_zero_or_pos s.size with e|e
      ·exfalso;unfold emB at he;rw [e] at he;cases he
      ·exact e
     rw [spaced_at s hp]
     have e1:((s.size:Int)-1).toNat=s.size-1:=by omega
     cases h1:((s[0].toNat:Int)==32)
     ·have n1:((s[0].toNat:Int) !=32)=true:=by rw [bne,h1];rfl
      cases h2:((s[s.size-1].toNat:Int)==32)
      all_goals
       have n2:=congrArg Bool.not h2
       rw [show (!((s[s.size-1].toNat:Int)==32))=((s[s.size-1].toNat:Int) !=32) from rfl] at n2
       simp only [Bool.not_true,Bool.not_false] at n2
       go_enter Tryz.func46,Tryz.ntmps46
       go_wp2_with fail
       refine (textValid_spec s _ HMX.out).mono ?_
       rintro e w' ⟨rfl,rfl⟩
       rw [h0]
       go_wp2_with fail
       refine HHX.out.mono ?_
       rintro e w' ⟨rfl,rfl⟩
       rw [hh]
       go_wp2
       go_ret
       exact ⟨rfl,rfl⟩
     ·have n1:((s[0].toNat:Int) !=32)=false:=by rw [bne,h1];rfl
      go_enter Tryz.func46,Tryz.ntmps46
      go_wp2_with fail
      refine (textValid_spec s _ HMX.out).mono ?_
      rintro e w' ⟨rfl,rfl⟩
      rw [h0]
      go_wp2_with fail
      refine HHX.out.mono ?_
      rintro e w' ⟨rfl,rfl⟩
      rw [hh]
      go_wp2
      go_ret
      exact ⟨rfl,rfl⟩
  ·rw [decide_eq_false h]
   have z:decide ((s.size:Int)≤60)=false:=decide_eq_false (by omega)
   go_enter Tryz.func46,Tryz.ntmps46
   go_wp2_with fail
   refine (textValid_spec s _ HMX.out).mono ?_
   rintro e w' ⟨rfl,rfl⟩
   rw [h0]
   go_wp2
   go_ret
   exact ⟨rfl,rfl⟩
theorem simple_any (s:ByteArray) (w:World) (hs:s.size≤maxLen):
  Calls Tryz.prog 47 #[.string s] w fun e w'=>e= .returned (.bool (simpB s))∧w=w':=by
 unfold simpB
 cases hp:nameL s.data.toList with
 |false=>
  go_enter Tryz.func47,Tryz.ntmps47
  go_wp2_with fail
  refine (nameValid_spec s _ hs).mono ?_
  rintro e w' ⟨rfl,rfl⟩
  rw [hp]
  go_wp2
  go_ret
  exact ⟨rfl,rfl⟩
 |true=>
  have HH:=Lib.hid (l1Has_any s 46 w hs (by omega) (by omega))
  cases h9:hasL s.data.toList 46
  all_goals
   go_enter Tryz.func47,Tryz.ntmps47
   go_wp2_with fail
   refine (nameValid_spec s _ hs).mono ?_
   rintro e w' ⟨rfl,rfl⟩
   rw [hp]
   go_wp2_with fail
   refine HH.out.mono ?_
   rintro e w' ⟨rfl,rfl⟩
   rw [h9]
   go_wp2
   go_ret
   exact ⟨rfl,rfl⟩
theorem itemS_k1 (n:ByteArray) (l:List Cl) (t:ByteArray) (u:Value) (w:World) (hr:RowC w u l) (hn:n.size≤maxLen) (hz:ShortC l) (hl:l.length≤1048576) (ht:t.size≤maxLen):
  Calls Tryz.prog 13 #[.agg #[.int .i64 1, .string n,u, .string t]] w fun e w'=>e= .returned (.bool (emB n&&(l.isEmpty&&emB t)))∧Below w.heap.size w w':=by
 have HB0:=Lib.hid ((Below.refl w.heap.size w).alloc (Nat.le_refl _) (.cells #[.int .i64 1, .string n,u, .string t] 25))
 obtain ⟨ao,cap,rfl,-⟩:=hr
 cases h1:emB n with
 |false=>
  obtain ⟨a1,a2,a3,a4⟩:=em_f h1
  clear hz
  go_enter Tryz.func13,Tryz.ntmps13
  go_wp2
  go_ret
  exact ⟨rfl,HB0.out⟩
 |true=>
  obtain ⟨a1,a2,a3,a4⟩:=em_t h1
  cases h2:l.isEmpty with
  |false=>
   have b1:=(le_f h2).1
   clear hz
   go_enter Tryz.func13,Tryz.ntmps13
   go_wp2
   go_ret
   exact ⟨rfl,HB0.out⟩
  |true=>
   have b1:=(le_t h2).1
   cases h3:emB t with
   |false=>
    obtain ⟨c1,c2,c3,c4⟩:=em_f h3
    clear hz
    go_enter Tryz.func13,Tryz.ntmps13
    go_wp2
    go_ret
    exact ⟨rfl,HB0.out⟩
   |true=>
    obtain ⟨c1,c2,c3,c4⟩:=em_t h3
    clear hz
    go_enter Tryz.func13,Tryz.ntmps13
    go_wp2
    go_ret
    exact ⟨rfl,HB0.out⟩
theorem itemS_k5 (n:ByteArray) (l:List Cl) (t:ByteArray) (u:Value) (w:World) (hr:RowC w u l) (hn:n.size≤maxLen) (hz:ShortC l) (hl:l.length≤1048576) (ht:t.size≤maxLen):
  Calls Tryz.prog 13 #[.agg #[.int .i64 5, .string n,u, .string t]] w fun e w'=>e= .returned (.bool (emB n&&(l.isEmpty&&emB t)))∧Below w.heap.size w w':=by
 have HB0:=Lib.hid ((Below.refl w.heap.size w).alloc (Nat.le_refl _) (.cells #[.int .i64 5, .string n,u, .string t] 25))
 obtain ⟨ao,cap,rfl,-⟩:=hr
 cases h1:emB n with
 |false=>
  obtain ⟨a1,a2,a3,a4⟩:=em_f h1
  clear hz
  go_enter Tryz.func13,Tryz.ntmps13
  go_wp2
  go_ret
  exact ⟨rfl,HB0.out⟩
 |true=>
  obtain ⟨a1,a2,a3,a4⟩:=em_t h1
  cases h2:l.isEmpty with
  |false=>
   have b1:=(le_f h2).1
   clear hz
   go_enter Tryz.func13,Tryz.ntmps13
   go_wp2
   go_ret
   exact ⟨rfl,HB0.out⟩
  |true=>
   have b1:=(le_t h2).1
   cases h3:emB t with
   |false=>
    obtain ⟨c1,c2,c3,c4⟩:=em_f h3
    clear hz
    go_enter Tryz.func13,Tryz.ntmps13
    go_wp2
    go_ret
    exact ⟨rfl,HB0.out⟩
   |true=>
    obtain ⟨c1,c2,c3,c4⟩:=em_t h3
    clear hz
    go_enter Tryz.func13,Tryz.ntmps13
    go_wp2
    go_ret
    exact ⟨rfl,HB0.out⟩
theorem itemS_k2 (n:ByteArray) (l:List Cl) (t:ByteArray) (u:Value) (w:World) (hr:RowC w u l) (hn:n.size≤maxLen) (hz:ShortC l) (hl:l.length≤1048576) (ht:t.size≤maxLen):
  Calls Tryz.prog 13 #[.agg #[.int .i64 2, .string n,u, .string t]] w fun e w'=>e= .returned (.bool (emB n&&(l.isEmpty&&noteB t)))∧Below w.heap.size w w':=by
 have HB0:=Lib.hid ((Below.refl w.heap.size w).alloc (Nat.le_refl _) (.cells #[.int .i64 2, .string n,u, .string t] 25))
 obtain ⟨ao,cap,rfl,-⟩:=hr
 cases h1:emB n with
 |false=>
  obtain ⟨a1,a2,a3,a4⟩:=em_f h1
  clear hz
  go_enter Tryz.func13,Tryz.ntmps13
  go_wp2
  go_ret
  exact ⟨rfl,HB0.out⟩
 |true=>
  obtain ⟨a1,a2,a3,a4⟩:=em_t h1
  cases h2:l.isEmpty with
  |false=>
   have b1:=(le_f h2).1
   clear hz
   go_enter Tryz.func13,Tryz.ntmps13
   go_wp2
   go_ret
   exact ⟨rfl,HB0.out⟩
  |true=>
   have b1:=(le_t h2).1
   clear hz
   cases h9:noteB t
   all_goals
    go_enter Tryz.func13,Tryz.ntmps13
    go_wp2_with fail
    refine (note_spec t _ ht).mono ?_
    rintro e w1 ⟨rfl,rfl⟩
    rw [h9]
    go_wp2
    go_ret
    exact ⟨rfl,HB0.out⟩
theorem itemS_k3 (n:ByteArray) (l:List Cl) (t:ByteArray) (u:Value) (w:World) (hr:RowC w u l) (hn:n.size≤maxLen) (hz:ShortC l) (hl:l.length≤1048576) (ht:t.size≤maxLen):
  Calls Tryz.prog 13 #[.agg #[.int .i64 3, .string n,u, .string t]] w fun e w'=>e= .returned (.bool (simpB n&&(okE l&&noteB t)))∧Below w.heap.size w w':=by
 have HB0:=Lib.hid ((Below.refl w.heap.size w).alloc (Nat.le_refl _) (.cells #[.int .i64 3, .string n,u, .string t] 25))
 have HRX:=Lib.hid (hr.mono HB0.out)
 have HX:=Lib.hid (exprValid_spec u l _ HRX.out hz hl)
 obtain ⟨ao,cap,rfl,-⟩:=hr
 have HBX:=Lib.hid (fun w1 (h:Below (w.alloc (.cells #[.int .i64 3, .string n, .slice ao l.length cap, .string t] 25)).heap.size (w.alloc (.cells #[.int .i64 3, .string n, .slice ao l.length cap, .string t] 25)) w1)=>boxI h)
 clear hz
 cases h1:simpB n with
 |false=>
  go_enter Tryz.func13,Tryz.ntmps13
  go_wp2_with fail
  refine (simple_any n _ hn).mono ?_
  rintro e w1 ⟨rfl,rfl⟩
  rw [h1]
  go_wp2
  go_ret
  exact ⟨rfl,HB0.out⟩
 |true=>
  cases h2:okE l with
  |false=>
   go_enter Tryz.func13,Tryz.ntmps13
   go_wp2_with fail
   refine (simple_any n _ hn).mono ?_
   rintro e w1 ⟨rfl,rfl⟩
   rw [h1]
   go_wp2_with fail
   refine HX.out.mono ?_
   rintro e w1 ⟨rfl,hb1⟩
   have HB1:=Lib.hid (HB0.out.trans (hb1.mono HB0.out.size));clear hb1
   rw [h2]
   go_wp2
   go_ret
   exact ⟨rfl,HB1.out⟩
  |true=>
   cases h9:noteB t
   all_goals
    go_enter Tryz.func13,Tryz.ntmps13
    go_wp2_with fail
    refine (simple_any n _ hn).mono ?_
    rintro e w1 ⟨rfl,rfl⟩
    rw [h1]
    go_wp2_with fail
    refine HX.out.mono ?_
    rintro e w1 ⟨rfl,hb1⟩
    obtain ⟨d0,d1,d2,d3⟩:=HBX.out w1 hb1
    have HB1:=Lib.hid (HB0.out.trans (hb1.mono HB0.out.size));clear hb1
    rw [h2]
    go_wp2_with fail
    refine (note_spec t _ ht).mono ?_
    rintro e w2 ⟨rfl,rfl⟩
    rw [h9]
    go_wp2
    go_ret
    exact ⟨rfl,HB1.out⟩
theorem itemS_k4 (n:ByteArray) (l:List Cl) (t:ByteArray) (u:Value) (w:World) (hr:RowC w u l) (hn:n.size≤maxLen) (hz:ShortC l) (hl:l.length≤1048576) (ht:t.size≤maxLen):
  Calls Tryz.prog 13 #[.agg #[.int .i64 4, .string n,u, .string t]] w fun e w'=>e= .returned (.bool (simpB n&&(l.isEmpty&&emB t)))∧Below w.heap.size w w':=by
 have HB0:=Lib.hid ((Below.refl w.heap.size w).alloc (Nat.le_refl _) (.cells #[.int .i64 4, .string n,u, .string t] 25))
 obtain ⟨ao,cap,rfl,-⟩:=hr
 clear hz
 cases h1:simpB n with
 |false=>
  go_enter Tryz.func13,Tryz.ntmps13
  go_wp2_with fail
  refine (simple_any n _ hn).mono ?_
  rintro e w1 ⟨rfl,rfl⟩
  rw [h1]
  go_wp2
  go_ret
  exact ⟨rfl,HB0.out⟩
 |true=>
  cases h2:l.isEmpty with
  |false=>
   have b1:=(le_f h2).1
   go_enter Tryz.func13,Tryz.ntmps13
   go_wp2_with fail
   refine (simple_any n _ hn).mono ?_
   rintro e w1 ⟨rfl,rfl⟩
   rw [h1]
   go_wp2
   go_ret
   exact ⟨rfl,HB0.out⟩
  |true=>
   have b1:=(le_t h2).1
   cases h3:emB t with
   |false=>
    obtain ⟨c1,c2,c3,c4⟩:=em_f h3
    go_enter Tryz.func13,Tryz.ntmps13
    go_wp2_with fail
    refine (simple_any n _ hn).mono ?_
    rintro e w1 ⟨rfl,rfl⟩
    rw [h1]
    go_wp2
    go_ret
    exact ⟨rfl,HB0.out⟩
   |true=>
    obtain ⟨c1,c2,c3,c4⟩:=em_t h3
    go_enter Tryz.func13,Tryz.ntmps13
    go_wp2_with fail
    refine (simple_any n _ hn).mono ?_
    rintro e w1 ⟨rfl,rfl⟩
    rw [h1]
    go_wp2
    go_ret
    exact ⟨rfl,HB0.out⟩
theorem itemS_ko (k:Int) (h1:k≠1) (h2:k≠2) (h3:k≠3) (h4:k≠4) (h5:k≠5) (n:ByteArray) (l:List Cl) (t:ByteArray) (u:Value) (w:World) (hr:RowC w u l) (hn:n.size≤maxLen) (hz:ShortC l) (hl:l.length≤1048576) (ht:t.size≤maxLen):
  Calls Tryz.prog 13 #[.agg #[.int .i64 k, .string n,u, .string t]] w fun e w'=>e= .returned (.bool (false))∧Below w.heap.size w w':=by
 have HB0:=Lib.hid ((Below.refl w.heap.size w).alloc (Nat.le_refl _) (.cells #[.int .i64 k, .string n,u, .string t] 25))
 obtain ⟨ao,cap,rfl,-⟩:=hr
 clear hz
 have a1:(k==1)=false:=beq_eq_false_iff_ne.mpr h1
 have a2:(k==2)=false:=beq_eq_false_iff_ne.mpr h2
 have a3:(k==3)=false:=beq_eq_false_iff_ne.mpr h3
 have a4:(k==4)=false:=beq_eq_false_iff_ne.mpr h4
 have a5:(k==5)=false:=beq_eq_false_iff_ne.mpr h5
 go_enter Tryz.func13,Tryz.ntmps13
 go_wp2
 go_ret
 exact ⟨rfl,HB0.out⟩
theorem itemValid_spec (i:It) (u:Value) (w:World) (hr:RowC w u i.2.2.1) (hn:i.2.1.size≤maxLen) (hz:ShortC i.2.2.1) (hl:i.2.2.1.length≤1048576) (ht:i.2.2.2.size≤maxLen):
  Calls Tryz.prog 13 #[.agg #[.int .i64 i.1, .string i.2.1,u, .string i.2.2.2]] w fun e w'=>e= .returned (.bool (itemB i))∧Below w.heap.size w w':=by
 obtain ⟨k,n,l,t⟩:=i
 simp only at hr hn hz ht hl⊢
 unfold itemB
 simp only
 by_cases h1:k=1
 ·subst h1;rw [if_pos (.inl rfl)];exact itemS_k1 n l t u w hr hn hz hl ht
 by_cases h5:k=5
 ·subst h5;rw [if_pos (.inr rfl)];exact itemS_k5 n l t u w hr hn hz hl ht
 rw [if_neg (by omega)]
 by_cases h2:k=2
 ·subst h2;rw [if_pos rfl];exact itemS_k2 n l t u w hr hn hz hl ht
 rw [if_neg h2]
 by_cases h3:k=3
 ·subst h3;rw [if_pos rfl];exact itemS_k3 n l t u w hr hn hz hl ht
 rw [if_neg h3]
 by_cases h4:k=4
 ·subst h4;rw [if_pos rfl];exact itemS_k4 n l t u w hr hn hz hl ht
 rw [if_neg h4]
 exact itemS_ko k h1 h2 h3 h4 h5 n l t u w hr hn hz hl ht
def lineN (l:List UInt8):Nat→Nat
 |0=>0
 |k+1=>if l[k]? =some 10 then lineN l k+1 else lineN l k
def fromN (l:List UInt8):Nat→Nat
 |0=>0
 |k+1=>if l[k]? =some 10 then k+1 else fromN l k
theorem fromN_le (l:List UInt8) (k:Nat):fromN l k≤k:=by
 induction k with
 |zero=>exact Nat.le_refl _
 |succ k ih=>simp only [fromN];split<;>omega
def linesTo (s:ByteArray):Nat→List ByteArray
 |0=>[]
 |k+1=>if s.data.toList[k]? =some 10 then linesTo s k++[s.extract (fromN s.data.toList k) k] else linesTo s k
def linesAll (s:ByteArray):List ByteArray:=
 if fromN s.data.toList s.size<s.size then linesTo s s.size++[s.extract (fromN s.data.toList s.size) s.size] else linesTo s s.size
def linesB (s:ByteArray):List ByteArray:=if textB s=true then linesAll s else []
def splitL:List UInt8→List UInt8→List (List UInt8)
 |acc,[]=>if acc=[] then [] else [acc]
 |acc,b::r=>if b=10 then acc::splitL [] r else splitL (acc++[b]) r
def bytesOf (L:List ByteArray):List (List UInt8):=L.map fun t=>t.data.toList
theorem bytesOf_inj {A B:List ByteArray} (h:bytesOf A=bytesOf B):A=B:=by
 refine (List.map_inj_right ?_).1 h
 intro x y hxy
 apply ByteArray.ext
 exact Array.toList_inj.1 hxy
theorem bytesOf_append (A B:List ByteArray):bytesOf (A++B)=bytesOf A++bytesOf B:=by simp [bytesOf]
theorem extract_bytes (s:ByteArray) (a b:Nat):(s.extract a b).data.toList=(s.data.toList.take b).drop a:=by
 simp [ByteArray.data_extract,List.extract,List.drop_take]
theorem split_upto (s:ByteArray) (k:Nat) (hk:k≤s.size):
  splitL [] s.data.toList=bytesOf (linesTo s k)++splitL ((s.data.toList.take k).drop (fromN s.data.toList k)) (s.data.toList.drop k):=by
 induction k with
 |zero=>simp [linesTo,bytesOf,fromN]
 |succ k ih=>
  have hlt:k<s.data.toList.length:=by simp;omega
  rw [ih (by omega)]
  have hd:s.data.toList.drop k=s.data.toList[k]::s.data.toList.drop (k+1):=List.drop_eq_getElem_cons hlt
  have hf:=fromN_le s.data.toList k
  rw [hd]
  simp only [linesTo,fromN,List.getElem?_eq_getElem hlt,Option.some.injEq]
  show bytesOf (linesTo s k)++(if s.data.toList[k]=10 then _ else _)=_
  by_cases h10:s.data.toList[k]=10
  ·rw [if_pos h10,if_pos h10,if_pos h10,bytesOf_append,List.append_assoc]
   congr 1
   have e1:bytesOf [s.extract (fromN s.data.toList k) k]=[(s.data.toList.take k).drop (fromN s.data.toList k)]:=by
    simp only [bytesOf,List.map_cons,List.map_nil,extract_bytes]
   have e2:(s.data.toList.take (k+1)).drop (k+1)=[]:=by
    apply List.drop_eq_nil_of_le;simp;omega
   rw [e1,e2];rfl
  ·rw [if_neg h10,if_neg h10,if_neg h10]
   congr 2
   rw [List.take_succ_eq_append_getElem hlt,List.drop_append_of_le_length (by simp;omega)]
theorem split_all (s:ByteArray):bytesOf (linesAll s)=splitL [] s.data.toList:=by
 have h:=split_upto s s.size (Nat.le_refl _)
 have hl:s.data.toList.length=s.size:=by simp
 have ht:s.data.toList.take s.size=s.data.toList:=List.take_of_length_le (by omega)
 have hd:s.data.toList.drop s.size=[]:=List.drop_eq_nil_of_le (by omega)
 have hf:=fromN_le s.data.toList s.size
 rw [h,ht,hd]
 show _=_++(if _ then _ else _)
 unfold linesAll
 by_cases hr:fromN s.data.toList s.size<s.size
 ·rw [if_pos hr,if_neg (by intro he;have:=congrArg List.length he;simp only [List.length_drop,List.length_nil,hl] at this;omega),bytesOf_append]
  congr 1
  simp only [bytesOf,List.map_cons,List.map_nil,extract_bytes,ht]
 ·rw [if_neg hr,if_pos (List.drop_eq_nil_of_le (by omega)),List.append_nil]
theorem split_line (acc t r:List UInt8) (h: ∀x∈t,x≠10):splitL acc (t++10::r)=(acc++t)::splitL [] r:=by
 induction t generalizing acc with
 |nil=>simp [splitL]
 |cons x t ih=>
  simp only [List.cons_append,splitL]
  rw [if_neg (h x (by simp)),ih _ (fun y hy=>h y (by simp [hy]))]
  simp
theorem accTo_bytes (L:List ByteArray) (k:Nat) (hk:k≤L.length):(accTo L k).data.toList=(((bytesOf L).take k).map (· ++[10])).flatten:=by
 induction k with
 |zero=>rfl
 |succ k ih=>
  have hlt:k<L.length:=by omega
  have e:accTo L (k+1)=accTo L k++lineAt L k++⟨#[10]⟩:=rfl
  have hl:lineAt L k=L[k]:=by simp [lineAt,List.getElem?_eq_getElem hlt]
  have hb:(bytesOf L).take (k+1)=(bytesOf L).take k++[L[k].data.toList]:=by
   rw [List.take_succ_eq_append_getElem (by simpa [bytesOf] using hlt)]
   simp [bytesOf]
  rw [e,hb,hl]
  simp only [ByteArray.data_append,Array.toList_append,ih (by omega),List.map_append,List.flatten_append,List.map_cons,List.map_nil,List.flatten_cons,List.flatten_nil,List.append_nil,List.append_assoc]
theorem accTo_all (L:List ByteArray):(accTo L L.length).data.toList=((bytesOf L).map (· ++[10])).flatten:=by
 rw [accTo_bytes L _ (Nat.le_refl _),List.take_of_length_le (by simp [bytesOf])]
theorem accTo_mono (L : List ByteArray) (j k : Nat) (h : j ≤ k) : (accTo L j).size ≤ (accTo L k).size := by
  induction k with
  | zero => obtain rfl : j = 0 := by omega
            exact Nat.le_refl _
  | succ k ih =>
    by_cases hj : j = k + 1
    · subst hj; exact Nat.le_refl _
    · have := ih (by omega); rw [accTo_size_next]; omega
theorem joinOk_of (L:List ByteArray) (hp: ∀t∈L,plainL t.data.toList=true) (hs:(accTo L L.length).size≤20000):joinOk L=true:=by
 apply joinOk_good
 intro j hj
 have hl:lineAt L j=L[j]:=by simp [lineAt,List.getElem?_eq_getElem hj]
 have h1:=accTo_size_next L j
 have h2:=accTo_mono L (j+1) L.length (by omega)
 rw [okAt,hl,hp _ (List.getElem_mem _)]
 rw [hl] at h1
 simp;omega
theorem size_bytes (s:ByteArray):s.size=s.data.toList.length:=by simp
theorem plain_ne_ten {l:List UInt8} (h:plainL l=true): ∀x∈l,x≠10:=by
 intro x hx he
 subst he
 simp only [plainL,List.all_eq_true] at h
 have:=h 10 hx
 simp [plainI] at this
theorem split_flat (M:List (List UInt8)) (h: ∀t∈M,∀x∈t,x≠10):splitL [] ((M.map (· ++[10])).flatten)=M:=by
 induction M with
 |nil=>rfl
 |cons t M ih=>
  simp only [List.map_cons,List.flatten_cons,List.append_assoc,List.cons_append,List.nil_append]
  rw [split_line [] t _ (h t (by simp)),ih (fun u hu=>h u (by simp [hu]))]
  rfl
theorem okL_flat (M:List (List UInt8)) (h: ∀t∈M,plainL t=true):okL ((M.map (· ++[10])).flatten)=true:=by
 induction M with
 |nil=>rfl
 |cons t M ih=>
  have h1:=h t (by simp)
  have h2:=ih (fun u hu=>h u (by simp [hu]))
  simp only [okL,plainL,List.all_eq_true] at h1 h2⊢
  intro x hx
  simp only [List.map_cons,List.flatten_cons,List.mem_append,List.mem_singleton] at hx
  rcases hx with (hx|rfl)|hx
  ·simp [okI,h1 x hx]
  ·rfl
  ·exact h2 x hx
theorem lines_join (L:List ByteArray) (h:joinOk L=true):textB (joinB L)=true∧linesB (joinB L)=L:=by
 have hj:joinB L=accTo L L.length:=by rw [joinB,if_pos h]
 have hall: ∀j,j<L.length→okAt L j=true:=by
  intro j hj';simp only [joinOk,List.all_eq_true] at h;exact h j (List.mem_range.2 hj')
 have hp: ∀t∈bytesOf L,plainL t=true:=by
  intro t ht
  obtain ⟨u,hu,rfl⟩:=List.mem_map.1 ht
  obtain ⟨j,hj',rfl⟩:=List.getElem_of_mem hu
  have:=hall j hj'
  have hl:lineAt L j=L[j]:=by simp [lineAt,List.getElem?_eq_getElem hj']
  rw [okAt,hl] at this
  simp only [Bool.and_eq_true] at this
  exact this.1
 have hb:=accTo_all L
 have ht:textB (accTo L L.length)=true:=by
  rw [textB,hb,okL_flat _ hp]
  have:=acc_le L L.length hall
  simp [this]
 rw [hj]
 refine ⟨ht, ?_⟩
 rw [linesB,if_pos ht]
 apply bytesOf_inj
 rw [split_all,hb]
 exact split_flat _ (fun t ht=>plain_ne_ten (hp t ht))
noncomputable def printG:Int→List It→List ByteArray
 |_,[]=>[]
 |d,i::is=>baL (lineI i (depS d i).toNat 0)::printG (depN d i) is
noncomputable def printL (l:List It):List ByteArray:=printG 0 l
theorem printG_length: ∀(l:List It) (d:Int),(printG d l).length=l.length:=by
 intro l
 induction l with
 |nil=>intro d;rfl
 |cons i l ih=>intro d;rw [printG,List.length_cons,List.length_cons,ih]
theorem printG_at: ∀(l:List It) (d:Int) (k:Nat) (hk:k<l.length),(printG d l)[k]'(by rw [printG_length];exact hk)=baL (lineI l[k] ((depL d l)[k]'(by rw [depL_length];exact hk)).toNat 0):=by
 intro l
 induction l with
 |nil=>intro d k hk;simp at hk
 |cons i l ih=>
  intro d k hk
  cases k with
  |zero=>rfl
  |succ k=>exact ih (depN d i) k (by simpa using hk)
noncomputable def printK (l:List It):Bool:=docB l&&joinOk (printL l)
noncomputable def printT (l:List It):ByteArray:=if printK l=true then joinB (printL l) else ⟨#[]⟩
theorem printK_iff (l:List It):printK l=true↔docB l=true∧joinOk (printL l)=true:=by rw [printK,Bool.and_eq_true]
def RowOf (w:World) (v:Value) (L:List Value):Prop:=
 ∃ao cap,v= .slice ao L.length cap∧L.length≤cap∧cap≤maxLen∧(L=[]∨ ∃b off,ao=some ⟨b,off,none⟩∧b<w.heap.size∧ ∀(j:Nat) t,L[j]? =some t→w.cell? ⟨b,off+j,none⟩=some t)
theorem RowOf.of_own {w:World} {base:Nat} {e:TypeId} {v:Value} {n:Nat} {L:List Value} (h:w.ownsRow base e 1 v n L):RowOf w v L:=by
 have h0:=h
 obtain ⟨hl,h2⟩:=h
 rcases h2 with ⟨rfl,rfl⟩|⟨g,cap,cur,rfl,hg,hh,h1,h2,_⟩
 ·obtain rfl:L=[]:=List.eq_nil_of_length_eq_zero (by omega)
  exact ⟨none,0,rfl,Nat.le_refl _,by unfold maxLen;omega, .inl rfl⟩
 ·obtain rfl:n=L.length:=by omega
  refine ⟨_,cap,rfl,h1,h2, .inr ⟨g,0,rfl, ?_, ?_⟩⟩
  ·by_cases hk:g<w.heap.size
   ·exact hk
   ·rw [Array.getElem?_eq_none (by omega)] at hh;cases hh
  ·intro j t ht
   have hlt:j<L.length:=by
    by_cases hk:j<L.length
    ·exact hk
    ·rw [List.getElem?_eq_none (by omega)] at ht;cases ht
   rw [Nat.zero_add,h0.cellAt j (by omega)]
   exact ht
theorem infoStr:(Tryz.prog.info? 9).map (fun i=>(i.zero,i.size,i.bytes))=some (some (.string ByteArray.empty),1,16):=by kernel_rfl
def strs (l:List ByteArray):List Value:=l.map Value.string
theorem strs_length (l:List ByteArray):(strs l).length=l.length:=by simp [strs]
theorem strs_append (a b:List ByteArray):strs (a++b)=strs a++strs b:=by simp [strs]
def Sized (L:List ByteArray):Prop:= ∀t∈L,t.size≤maxLen
theorem lineAt_get (L:List ByteArray) (k:Nat) (h:k<L.length):lineAt L k=L[k]:=by simp [lineAt,List.getElem?_eq_getElem h]
theorem textB_line (t:ByteArray) (n:Nat) (h:n+t.size+1≤20000):(textB t&& !hasL t.data.toList 10)=plainL t.data.toList:=by
 rw [plain_iff,textB]
 have:decide (t.size≤20000)=true:=by simp;omega
 rw [this,Bool.true_and]
def Joins (L:List ByteArray) (e:Ending):Prop:=e= .returned (.tuple #[.string (joinB L), .bool (joinOk L)])
theorem joins_bad (L:List ByteArray) (k:Nat) (hk:k<L.length) (h:okAt L k=false):Joins L (.returned (.tuple #[.string ⟨#[]⟩, .bool false])):=by
 have hb:=joinOk_bad L k hk h
 have hj:joinB L=⟨#[]⟩:=by rw [joinB,hb];rfl
 rw [Joins,hb,hj]
theorem joins_good (L:List ByteArray) (h: ∀j,j<L.length→okAt L j=true):Joins L (.returned (.tuple #[.string (accTo L L.length), .bool true])):=by
 have hb:=joinOk_good L h
 have hj:joinB L=accTo L L.length:=by rw [joinB,hb];rfl
 rw [Joins,hb,hj]
theorem linesText_spec (v:Value) (L:List ByteArray) (w:World) (h:RowOf w v (strs L)) (hz:Sized L):
  Calls Tryz.prog 67 #[v] w fun e w'=>Joins L e∧w=w':=by
 obtain ⟨ao,cap,rfl,h1,h2,h3⟩:=h
 simp only [strs_length] at h1⊢
 unfold maxLen at h2
 have H3:=Lib.hid h3;clear h3
 have HZ:=Lib.hid hz;clear hz
 go_enter Tryz.func67,Tryz.ntmps67
 go_wp2
 go_loop [4,5] (fun o i=> ∃k:Nat,k≤L.length∧i= .int .i64 k∧o= .string (accTo L k)∧(∀j,j<k→okAt L j=true)) (fun _ i=>L.length-(intOf i).toNat)
 case atStart=>exact ⟨0,Nat.zero_le _,rfl,rfl,fun j hj=>by omega⟩
 case round=>
  obtain ⟨k,hk,rfl,rfl,hok⟩:=hrel
  have HK:=Lib.hid hok
  have hacc:=acc_le L k hok
  clear hok
  by_cases hlt:k<L.length
  ·obtain ⟨b,o,hA,-,cc⟩:=H3.out.resolve_left (by intro h;have h':=congrArg List.length h;rw [strs_length] at h';simp only [List.length_nil] at h';omega)
   subst hA
   obtain ⟨t,ht⟩: ∃t,L[k]=t:=⟨_,rfl⟩
   have d1:=cc k (.string t) (by simp [strs,hlt,ht])
   have hts:t.size≤maxLen:=by rw [←ht];exact HZ.out _ (List.getElem_mem _)
   have HT:=Lib.hid (show lineAt L k=t by rw [lineAt_get L k hlt,ht])
   have hts':=hts
   unfold maxLen at hts'
   clear cc ht
   go_wp2_with fail
   refine (textValid_spec t _ hts).mono ?_
   rintro e w' ⟨rfl,rfl⟩
   by_cases hv:textB t=true
   ·rw [hv]
    have HV:=Lib.hid hv;clear hv
    go_wp2_with fail
    refine (l1Has_any t 10 _ hts (by omega) (by omega)).mono ?_
    rintro e w' ⟨rfl,rfl⟩
    by_cases hh:hasL t.data.toList 10=true
    ·rw [hh]
     have HO:=Lib.hid (show okAt L k=false by
      simp only [okAt,HT.out,plain_iff,hh];simp)
     clear hh
     go_wp2
     go_ret2
     exact ⟨joins_bad L k hlt HO.out,rfl⟩
    ·rw [Bool.eq_false_iff.mpr hh]
     have h20:t.size≤20000:=by have:=HV.out;simp only [textB,Bool.and_eq_true,decide_eq_true_eq] at this;exact this.1
     have HP:=Lib.hid (show plainL t.data.toList=true by
      have hv:=HV.out
      simp only [textB,Bool.and_eq_true] at hv
      rw [plain_iff,hv.2,Bool.eq_false_iff.mpr hh];rfl)
     clear hh
     by_cases hroom:(accTo L k).size+t.size+1≤20000
     ·have HO:=Lib.hid (show okAt L k=true by
       rw [okAt,HT.out,HP.out];simp;omega)
      have HA:=Lib.hid (show accTo L (k+1)=accTo L k++t++⟨#[10]⟩ by show accTo L k++lineAt L k++_=_;rw [HT.out])
      go_wp2
      go_round
      case rel=>exact ⟨k+1,by omega,by go_num,by rw [HA.out],fun j hj=>by
       by_cases hjk:j=k
       ·rw [hjk];exact HO.out
       ·exact HK.out j (by omega)⟩
      case measure=>simp [intOf];omega
     ·have HO:=Lib.hid (show okAt L k=false by
       rw [okAt,HT.out,HP.out];simp;omega)
      go_wp2
      go_ret2
      exact ⟨joins_bad L k hlt HO.out,rfl⟩
   ·rw [Bool.eq_false_iff.mpr hv]
    have HO:=Lib.hid (show okAt L k=false by
     rw [okAt,HT.out]
     by_cases hroom:(accTo L k).size+t.size+1≤20000
     ·rw [←textB_line t _ hroom,Bool.eq_false_iff.mpr hv];rfl
     ·simp only [hroom,decide_false,Bool.and_false])
    clear hv
    go_wp2
    go_ret2
    exact ⟨joins_bad L k hlt HO.out,rfl⟩
  ·obtain rfl:k=L.length:=by omega
   go_wp2
   go_ret2
   exact ⟨joins_good L HK.out,rfl⟩
theorem bl_size (l:List UInt8):(baL l).size=l.length:=by simp [baL,ByteArray.size]
inductive Tz (l:List Cl):Nat→Nat→Nat→List Pz→Prop
 |nil (f:Nat):Tz l 0 f f []
 |cons {f g n t:Nat} {c:Cl} {ks xs:List Pz}:l[f]? =some c→Tz l c.2.2.toNat (f+1) g ks→Tz l n g t xs→Tz l (n+1) f t (mkPz c ks::xs)
theorem Tz.len {l:List Cl} {n f t:Nat} {xs:List Pz} (h:Tz l n f t xs):xs.length=n:=by
 induction h with
 |nil f=>rfl
 |cons hc h1 h2 i1 i2=>rw [List.length_cons,i2]
theorem Tz.tx {l:List Cl} {n f t:Nat} {xs:List Pz} (h:Tz l n f t xs):Tx l n f t (xs.map ptOf):=by
 induction h with
 |nil f=>exact .nil f
 |cons hc h1 h2 i1 i2=>exact .cons hc i1 i2
theorem Tz.of_exs {l:List Cl} {n f t d:Nat} (h:Exs (amL l) n f t d): ∃xs,Tz l n f t xs∧maxD xs=d:=by
 generalize ha:amL l=am at h
 induction h with
 |nil f=>exact ⟨[], .nil f,rfl⟩
 | @cons f m g d n t e hm h1 h2 i1 i2=>
  obtain ⟨ks,k1,k2⟩:=i1;obtain ⟨xs,k3,k4⟩:=i2
  subst ha
  obtain ⟨c,hc,rfl⟩:=amL_get hm
  refine ⟨_, .cons hc k1 k3, ?_⟩
  simp only [maxD,mkPz,k2,k4]
theorem Tz.good {l:List Cl} (hok:l.all okC=true) {n f t:Nat} {xs:List Pz} (h:Tz l n f t xs): ∀x∈xs,Good x:=by
 induction h with
 |nil f=>intro x hx;cases hx
 | @cons f g n t c ks xs hc h1 h2 i1 i2=>
  intro x hx
  rcases List.mem_cons.mp hx with rfl|hx
  ·obtain ⟨hl,he⟩:=List.getElem?_eq_some_iff.mp hc
   exact good_mk (by rw [←he];exact okC_all hok f hl) h1.len i1
  ·exact i2 x hx
theorem Tz.cells {l:List Cl} {n f t:Nat} {xs:List Pz} (h:Tz l n f t xs):xs.flatMap Pz.cl=(l.drop f).take (t-f)∧f≤t:=by
 induction h with
 |nil f=>simp
 | @cons f g n t c ks xs hc h1 h2 i1 i2=>
  obtain ⟨hl,he⟩:=List.getElem?_eq_some_iff.mp hc
  obtain ⟨e1,l1⟩:=i1
  obtain ⟨e2,l2⟩:=i2
  refine ⟨?_,by omega⟩
  have e0:l.drop f=c::l.drop (f+1):=by rw [List.drop_eq_getElem_cons hl,he]
  rw [List.flatMap_cons,e2]
  simp only [mkPz]
  rw [e1,e0,show t-f=(t-(f+1))+1 by omega,List.take_succ_cons,List.cons_append]
  congr 1
  have:l.drop g=(l.drop (f+1)).drop (g-(f+1)):=by rw [List.drop_drop];congr 1;omega
  rw [this,show t-(f+1)=(g-(f+1))+(t-g) by omega,List.take_add]
theorem pz_of {l:List Cl} (hok:okE l=true): ∃x:Pz,Good x∧x.tx=textE l∧x.cl=l∧x.dp≤12:=by
 obtain ⟨h60,hal,d,hd,hx⟩:=(okE_iff l).mp hok
 obtain ⟨xs,h,hm⟩:=Tz.of_exs hx
 have hl:=h.len
 match xs,hl,h,hm with
 |[x],_,h,hm=>
  refine ⟨x,h.good hal x (by simp), ?_, ?_, ?_⟩
  ·have:=textE_of hok (x:=ptOf x) h.tx
   rw [this];rfl
  ·have:=h.cells.1
   simpa using this
  ·simp only [maxD] at hm;omega
theorem sp_plain (n:Nat):plainL (spL n)=true:=by
 unfold plainL spL
 rw [List.all_eq_true]
 intro b hb
 rw [List.eq_of_mem_replicate hb];decide
theorem nm_plainA {l:List UInt8} (h: ∀b∈l,isNm b=true):plainL l=true:=by
 unfold plainL
 rw [List.all_eq_true]
 intro b hb
 have:=h b hb
 simp only [isNm,parI,ltrI,digI,Bool.or_eq_true,Bool.and_eq_true,decide_eq_true_eq,beq_iff_eq] at this
 simp only [plainI,Bool.and_eq_true,decide_eq_true_eq]
 omega
theorem note_plainA {s:ByteArray} (h:noteB s=true):plainL s.data.toList=true:=by
 unfold noteB at h
 simp only [Bool.and_eq_true,Bool.not_eq_true'] at h
 obtain ⟨h1,-,h2,-⟩:=h
 unfold plainL
 rw [List.all_eq_true]
 intro b hb
 simp only [textB,Bool.and_eq_true] at h1
 have h3:=h1.2
 unfold okL at h3
 rw [List.all_eq_true] at h3
 have h4:=h3 b hb
 unfold okI at h4
 rw [Bool.or_eq_true] at h4
 rcases h4 with h4|h4
 ·exfalso
  unfold hasL at h2
  rw [List.any_eq_false] at h2
  exact h2 b hb h4
 ·exact h4
theorem textE_plain {l:List Cl} (h:okE l=true):plainL (textE l)=true:=by
 obtain ⟨x,hg,ht,-,-⟩:=pz_of h
 rw [←ht];exact hg.plain
theorem line_plain {i:It} (h:itemB i=true) (D W:Nat):plainL (lineI i D W)=true:=by
 obtain ⟨k,n,l,t⟩:=i
 have hnote: ∀t:ByteArray,(emB t=true∨noteB t=true)→plainL t.data.toList=true:=by
  rintro t (ht|ht)
  ·rw [emB_iff.mp ht];rfl
  ·exact note_plainA ht
 have c1:plainL [125]=true:=by decide
 have c2:plainL [32,123]=true:=by decide
 have c3:plainL [32,61,32]=true:=by decide
 have c4:plainL [32,35,32]=true:=by decide
 have c5:plainI ((35:UInt8).toNat:Int)=true:=by decide
 have c6:plainI ((32:UInt8).toNat:Int)=true:=by decide
 have c7:plainL []=true:=rfl
 unfold itemB at h
 simp only at h
 unfold lineI coreI
 simp only
 by_cases h1:k=1
 ·rw [if_pos h1];rfl
 rw [if_neg h1,plain_app,sp_plain,Bool.true_and]
 by_cases h5:k=5
 ·rw [if_pos h5];exact c1
 rw [if_neg (by omega)] at h
 rw [if_neg h5]
 by_cases h4:k=4
 ·rw [if_pos h4]
  subst h4
  simp only [show¬(4:Int)=2 by decide,show¬(4:Int)=3 by decide,if_false,if_true,Bool.and_eq_true] at h
  rw [plain_app,c2,nm_plainA (simp_parts h.1).2];rfl
 rw [if_neg h4]
 by_cases h2:k=2
 ·rw [if_pos h2]
  rw [if_pos h2] at h
  simp only [Bool.and_eq_true] at h
  rw [plain_cons,c5,Bool.true_and]
  split
  ·rfl
  ·rw [plain_cons,c6,Bool.true_and];exact note_plainA h.2.2
 rw [if_neg h2] at h⊢
 by_cases h3:k=3
 ·rw [if_pos h3] at h⊢
  simp only [Bool.and_eq_true] at h
  simp only [plain_app]
  rw [nm_plainA (simp_parts h.1).2,sp_plain,c3,textE_plain h.2.1]
  simp only [Bool.true_and]
  split
  ·rfl
  ·rw [plain_app,c4,note_plainA h.2.2];rfl
 ·rw [if_neg h3];rfl
open Go.RowKit Go.ChangeShapes Go.WideShapes Go.Deep
theorem open_cells {H:Type} {enc:TypeId×Value→H} {w:World} {base:Nat} {spare:Nat→Bool} {held:Bool} {fuel:Nat} {cs:List Value} {x:DataW H×List MemPlace}
  (h:DataW.trod enc Tryz.prog w base spare held fuel 48 cs=some x):
  cs=[.slice none 0 0]∨ ∃(a:Addr) (len cap:Nat) (f:Nat→Cl),cs=[.slice (some a) len cap]∧len≤cap∧cap≤maxLen∧
   ∀i,i<len→w.cell? (a.add (i*3))=some (.int .i64 (f i).1)∧w.cell? (a.add (i*3+1))=some (.string (f i).2.1)∧w.cell? (a.add (i*3+2))=some (.int .i64 (f i).2.2)∧(f i).2.1.size≤maxLen:=by
 have hC:Tryz.prog.cellsOf 150=3:=by kernel_rfl
 rcases open_slice Tryz.underlying48 h with ⟨h0,-⟩|⟨a,len,cap,m,n,D,Pl,hcs,hb,hl,hm,hmm,hx,hi⟩
 ·exact .inl h0
 ·refine .inr ⟨a,len,cap, ?_⟩
  have key: ∀i,∃c:Cl,i<len→w.cell? (a.add (i*3))=some (.int .i64 c.1)∧w.cell? (a.add (i*3+1))=some (.string c.2.1)∧w.cell? (a.add (i*3+2))=some (.int .i64 c.2.2)∧c.2.1.size≤maxLen:=by
   intro i
   by_cases hil:i<len
   ·have him:i<m:=by rw [hmm];split<;>omega
    obtain ⟨cs',hc,ht'⟩:=hi i him
    rw [hC] at hc
    obtain ⟨y0,y1,y2,n',-,hlen,g0,g1,g2⟩:=trod_struct3 Tryz.underlying150 ht'
    rw [hC] at hlen
    obtain ⟨_,-,hat⟩:=World.cells?_some hc
    match cs',hlen with
    |[z0,z1,z2],_=>
     obtain ⟨k,e0,-,-⟩:=DataW.trod_int Tryz.underlying3 g0
     obtain ⟨s,e1,-,hz⟩:=DataW.trod_string Tryz.underlying9 g1
     obtain ⟨q,e2,-,-⟩:=DataW.trod_int Tryz.underlying3 g2
     have r0:z0= .int .i64 k:=by
      have:([z0,z1,z2].drop 0).take (Tryz.prog.cellsOf 3)=[z0]:=by rw [show Tryz.prog.cellsOf 3=1 by kernel_rfl];rfl
      rw [this] at e0;simpa using e0
     have r1:z1= .string s:=by
      have:([z0,z1,z2].drop 1).take (Tryz.prog.cellsOf 9)=[z1]:=by rw [show Tryz.prog.cellsOf 9=1 by kernel_rfl];rfl
      rw [this] at e1;simpa using e1
     have r2:z2= .int .i64 q:=by
      have:([z0,z1,z2].drop 2).take (Tryz.prog.cellsOf 3)=[z2]:=by rw [show Tryz.prog.cellsOf 3=1 by kernel_rfl];rfl
      rw [this] at e2;simpa using e2
     refine ⟨(k,s,q),fun _=> ?_⟩
     have h0:=hat 0 (by omega);have h1:=hat 1 (by omega);have h2:=hat 2 (by omega)
     simp only [List.getElem?_cons_zero,List.getElem?_cons_succ,r0,r1,r2] at h0 h1 h2
     rw [Go.Deep.add_add] at h0 h1 h2
     exact ⟨h0,h1,h2,hz⟩
   ·exact ⟨(0,ByteArray.empty,0),fun h=>absurd h hil⟩
  refine ⟨fun i=>(key i).choose,hcs,hl,hm,fun i hil=>(key i).choose_spec hil⟩
def SizedI (i:It):Prop:=i.2.1.size≤maxLen∧SizedC i.2.2.1∧i.2.2.2.size≤maxLen
def ArgIs (w:World) (a:Option Addr) (len cap:Nat) (l:List It):Prop:=l.length=len∧RowIt w (.slice a len cap) l∧ ∀i∈l,SizedI i
theorem ArgIs.of_nil (w:World):ArgIs w none 0 0 []:=⟨rfl,⟨none,0,rfl,Nat.le_refl _,by unfold maxLen;omega, .inl rfl⟩,fun _ h=>by cases h⟩
theorem ArgIs.of {w:World} {x:Addr} {len cap:Nat} (f:Nat→It) (hl:len≤cap) (hm:cap≤maxLen)
  (hc: ∀i,i<len→ ∃u,w.cell? (x.add (i*4))=some (.int .i64 (f i).1)∧w.cell? (x.add (i*4+1))=some (.string (f i).2.1)∧w.cell? (x.add (i*4+2))=some u∧w.cell? (x.add (i*4+3))=some (.string (f i).2.2.2)∧RowC w u (f i).2.2.1∧SizedI (f i)):
  ArgIs w (some x) len cap ((List.range len).map f):=by
 have hlen:((List.range len).map f).length=len:=by simp
 refine ⟨hlen,⟨some x,cap,by rw [hlen],by rw [hlen];exact hl,hm, ?_⟩, ?_⟩
 ·by_cases h0:len=0
  ·left;subst h0;rfl
  ·right
   obtain ⟨b,off,spot⟩:=x
   obtain ⟨u0,g0,-⟩:=hc 0 (by omega)
   have hc0:=cell_low g0
   have hsp:spot=none:=by
    have:=hc0.1
    unfold Addr.add at this;split at this<;>simp_all
   subst hsp
   refine ⟨b,off,rfl,by have:=hc0.2;rw [addr_add] at this;exact this,fun k hk=> ?_⟩
   rw [hlen] at hk
   obtain ⟨u,c0,c1,c2,c3,c4,-⟩:=hc k hk
   rw [addr_add] at c0 c1 c2 c3
   simp only [List.getElem_map,List.getElem_range]
   exact ⟨u,c0,by rw [Nat.add_assoc];exact c1,by rw [Nat.add_assoc];exact c2,by rw [Nat.add_assoc];exact c3,c4⟩
 ·intro c hcm
  simp only [List.mem_map,List.mem_range] at hcm
  obtain ⟨i,hi,rfl⟩:=hcm
  obtain ⟨u,-,-,-,-,-,h⟩:=hc i hi
  exact h
theorem open_fields {H:Type} {enc:TypeId×Value→H} {w:World} {base:Nat} {spare:Nat→Bool} {held:Bool} {n:Nat} {z0 z1 z2 z3:Value} {y0 y1 y2 y3:DataW H×List MemPlace}
  (g0:DataW.trod enc Tryz.prog w base spare held n 3 [z0]=some y0) (g1:DataW.trod enc Tryz.prog w base spare held n 9 [z1]=some y1) (g2:DataW.trod enc Tryz.prog w base spare held n 48 [z2]=some y2) (g3:DataW.trod enc Tryz.prog w base spare held n 9 [z3]=some y3):
  ∃i:It,z0= .int .i64 i.1∧z1= .string i.2.1∧z3= .string i.2.2.2∧RowC w z2 i.2.2.1∧SizedI i:=by
 obtain ⟨k,e0,-,-⟩:=DataW.trod_int Tryz.underlying3 g0
 obtain ⟨s,e1,-,hz1⟩:=DataW.trod_string Tryz.underlying9 g1
 obtain ⟨t,e3,-,hz3⟩:=DataW.trod_string Tryz.underlying9 g3
 obtain rfl:z0= .int .i64 k:=by simpa using e0
 obtain rfl:z1= .string s:=by simpa using e1
 obtain rfl:z3= .string t:=by simpa using e3
 rcases open_cells g2 with hn|⟨a',len',cap',f,hs,hl',hm',hc'⟩
 ·obtain rfl:z2= .slice none 0 0:=by simpa using hn
  exact ⟨(k,s,[],t),rfl,rfl,rfl,(ArgRow.of_nil w).2.1,hz1,(ArgRow.of_nil w).2.2,hz3⟩
 ·obtain rfl:z2= .slice (some a') len' cap':=by simpa using hs
  have hA:=ArgRow.of f hl' hm' hc'
  exact ⟨(k,s,(List.range len').map f,t),rfl,rfl,rfl,hA.2.1,hz1,hA.2.2,hz3⟩
theorem open_items {H:Type} {enc:TypeId×Value→H} {w:World} {base:Nat} {spare:Nat→Bool} {held:Bool} {fuel:Nat} {cs:List Value} {x:DataW H×List MemPlace}
  (h:DataW.trod enc Tryz.prog w base spare held fuel 54 cs=some x):
  cs=[.slice none 0 0]∨ ∃(a:Addr) (len cap:Nat) (f:Nat→It),cs=[.slice (some a) len cap]∧len≤cap∧cap≤maxLen∧
   ∀i,i<len→ ∃u,w.cell? (a.add (i*4))=some (.int .i64 (f i).1)∧w.cell? (a.add (i*4+1))=some (.string (f i).2.1)∧w.cell? (a.add (i*4+2))=some u∧w.cell? (a.add (i*4+3))=some (.string (f i).2.2.2)∧RowC w u (f i).2.2.1∧SizedI (f i):=by
 have hC:Tryz.prog.cellsOf 50=4:=by kernel_rfl
 rcases open_slice Tryz.underlying54 h with ⟨h0,-⟩|⟨a,len,cap,m,n,D,Pl,hcs,hb,hl,hm,hmm,hx,hi⟩
 ·exact .inl h0
 ·refine .inr ⟨a,len,cap, ?_⟩
  have key: ∀i,∃c:It,i<len→ ∃u,w.cell? (a.add (i*4))=some (.int .i64 c.1)∧w.cell? (a.add (i*4+1))=some (.string c.2.1)∧w.cell? (a.add (i*4+2))=some u∧w.cell? (a.add (i*4+3))=some (.string c.2.2.2)∧RowC w u c.2.2.1∧SizedI c:=by
   intro i
   by_cases hil:i<len
   ·have him:i<m:=by rw [hmm];split<;>omega
    obtain ⟨cs',hc,ht'⟩:=hi i him
    rw [hC] at hc
    obtain ⟨y0,y1,y2,y3,n',-,hlen,g0,g1,g2,g3⟩:=Go.Joins.trod_struct4 Tryz.underlying50 ht'
    rw [hC] at hlen
    obtain ⟨_,-,hat⟩:=World.cells?_some hc
    match cs',hlen with
    |[z0,z1,z2,z3],_=>
     rw [show ([z0,z1,z2,z3].drop 0).take (Tryz.prog.cellsOf 3)=[z0] by rw [show Tryz.prog.cellsOf 3=1 by kernel_rfl];rfl] at g0
     rw [show ([z0,z1,z2,z3].drop 1).take (Tryz.prog.cellsOf 9)=[z1] by rw [show Tryz.prog.cellsOf 9=1 by kernel_rfl];rfl] at g1
     rw [show ([z0,z1,z2,z3].drop 2).take (Tryz.prog.cellsOf 48)=[z2] by rw [show Tryz.prog.cellsOf 48=1 by kernel_rfl];rfl] at g2
     rw [show ([z0,z1,z2,z3].drop 3).take (Tryz.prog.cellsOf 9)=[z3] by rw [show Tryz.prog.cellsOf 9=1 by kernel_rfl];rfl] at g3
     obtain ⟨c,r0,r1,r3,hr,hz⟩:=open_fields g0 g1 g2 g3
     have h0:=hat 0 (by omega);have h1:=hat 1 (by omega);have h2:=hat 2 (by omega);have h3:=hat 3 (by omega)
     simp only [List.getElem?_cons_zero,List.getElem?_cons_succ,r0,r1,r3] at h0 h1 h2 h3
     rw [Go.Deep.add_add] at h0 h1 h2 h3
     exact ⟨c,fun _=>⟨_,h0,h1,h2,h3,hr,hz⟩⟩
   ·exact ⟨(0,ByteArray.empty,[],ByteArray.empty),fun h=>absurd h hil⟩
  refine ⟨fun i=>(key i).choose,hcs,hl,hm,fun i hil=>(key i).choose_spec hil⟩
theorem szCell_any (k m:Int) (s:ByteArray) (n:Int) (w:World) (hs:s.size≤maxLen) (hn0:0≤n) (hn1:n≤1048576):
  Calls Tryz.prog 120 #[.agg #[.int .i64 k, .string s, .int .i64 m], .int .i64 n] w fun e w'=>e= .returned (.int .i64 (if (s.size:Int)≤n then n-s.size else-1))∧Below w.heap.size w w':=by
 unfold maxLen at hs
 by_cases h:(s.size:Int)≤n
 ·rw [if_pos h]
  go_enter Tryz.func120,Tryz.ntmps120
  go_wp2
  go_ret
  exact ⟨rfl,(Below.refl _ _).alloc (Nat.le_refl _) _⟩
 ·rw [if_neg h]
  go_enter Tryz.func120,Tryz.ntmps120
  go_wp2
  go_ret
  exact ⟨rfl,(Below.refl _ _).alloc (Nat.le_refl _) _⟩
theorem toCell_any (k m:Int) (s:ByteArray) (w:World):
  Calls Tryz.prog 121 #[.agg #[.int .i64 k, .string s, .int .i64 m]] w fun e w'=>e= .returned (.agg #[.int .i64 k, .string s, .int .i64 m])∧Below w.heap.size w w':=by
 go_enter Tryz.func121,Tryz.ntmps121
 go_wp2
 exact bodyPost_ret (v:= .agg #[.int .i64 k, .string s, .int .i64 m]) (by simp [results,Tryz.results121,go_sem]) rfl ⟨rfl,by (repeat' (first|exact Below.refl _ _|refine Below.setCell ?_ ?_ _|refine Below.alloc ?_ ?_ _))<;>first|exact Nat.le_refl _|(simp;done)|(simp;omega)⟩
def SzL (n:Int) (l:List Cl) (e:Ending):Prop:=
 ∃m:Int,e= .returned (.int .i64 m)∧(0≤m→m+(l.length:Int)≤n∧ ∀c∈l,(c.2.1.size:Int)≤n)
theorem szCellS_left (v:Value) (l:List Cl) (n:Int) (w:World) (hr:RowC w v l) (hz:SizedC l) (hn0:0≤n) (hn1:n≤1048576):
  Calls Tryz.prog 76 #[v, .int .i64 n] w fun e w'=>SzL n l e∧Below w.heap.size w w':=by
 obtain ⟨ao,cap,rfl,h1,h2,h3⟩:=hr
 unfold maxLen at h2
 have H3:=Lib.hid h3;have HZ:=Lib.hid hz;clear h3 hz
 by_cases hl:(l.length:Int)≤n
 ·go_enter Tryz.func76,Tryz.ntmps76
  go_wp2
  go_loopw [1,5] (fun a i wr=> ∃(k:Nat) (m:Int),k≤l.length∧i= .int .i64 k∧a= .int .i64 m∧0≤m∧m+(l.length:Int)≤n∧(∀c∈l.take k,(c.2.1.size:Int)≤n)∧Below w.heap.size w wr) (fun _ i _=>l.length-(intOf i).toNat)
  case atStart=>exact ⟨0,_,Nat.zero_le _,rfl,rfl,by omega,by omega,fun c hc=>by simp at hc,Below.refl _ _⟩
  case round=>
   obtain ⟨k,m,hk,rfl,rfl,hm0,hm1,hall,hb⟩:=hrel
   have HA:=Lib.hid hall;have HB:=Lib.hid hb;clear hall hb
   by_cases hlt:k<l.length
   ·obtain ⟨b,o,rfl,hbl,cc⟩:=H3.out.resolve_left (by rintro rfl;simp at hlt)
    obtain ⟨c0,c1,c2⟩:=cc k hlt
    have d0:wr.cell? ⟨b,o+k*3,none⟩=some (.int .i64 l[k].1):=(HB.out.cell (p:=⟨b,_,none⟩) hbl).trans c0
    have d1:wr.cell? ⟨b,o+k*3+1,none⟩=some (.string l[k].2.1):=(HB.out.cell (p:=⟨b,_,none⟩) hbl).trans c1
    have d2:wr.cell? ⟨b,o+k*3+2,none⟩=some (.int .i64 l[k].2.2):=(HB.out.cell (p:=⟨b,_,none⟩) hbl).trans c2
    have hzk:l[k].2.1.size≤maxLen:=HZ.out _ (List.getElem_mem _)
    have HT:=Lib.hid (List.take_succ_eq_append_getElem hlt)
    have HE:=Lib.hid (show l[k]=(l[k].1,l[k].2.1,l[k].2.2) from rfl)
    have HQ:=Lib.hid (show∀c∈[l[k]],(c.2.1.size:Int)≤n↔(l[k].2.1.size:Int)≤n by simp)
    have HNX:=Lib.hid (show (l[k].2.1.size:Int)≤n→ ∀c∈l.take (k+1),(c.2.1.size:Int)≤n by
     intro h c hc
     rw [HT.out,List.mem_append] at hc
     rcases hc with hc|hc
     ·exact HA.out c hc
     ·rw [List.mem_singleton] at hc;rw [hc];exact h)
    clear HQ HE HT
    generalize l[k].1=kk at d0
    generalize l[k].2.1=ss at d1 hzk HNX
    generalize l[k].2.2=mm at d2
    have HZK:=Lib.hid hzk
    clear cc c0 c1 c2 hzk
    go_wp2_with fail
    refine (szCell_any kk mm ss m _ HZK.out hm0 (by omega)).mono ?_
    rintro e w1 ⟨rfl,hb1⟩
    have HB1:=Lib.hid (HB.out.trans (hb1.mono HB.out.size));clear hb1
    by_cases hr:(ss.size:Int)≤m
    ·rw [if_pos hr]
     have r0:0≤m-(ss.size:Int):=by omega
     have r1:m-(ss.size:Int)+(l.length:Int)≤n:=by omega
     generalize m-(ss.size:Int)=q at r0 r1
     go_wp2
     go_roundw
     case rel=>exact ⟨k+1,q,by omega,by go_num,rfl,r0,r1,HNX.out (by omega),HB1.out⟩
     case measure=>simp [intOf];omega
    ·rw [if_neg hr]
     go_wp2
     go_ret
     exact ⟨⟨-1,rfl,by omega⟩,HB1.out⟩
   ·obtain rfl:k=l.length:=by omega
    have HAL:=Lib.hid (show∀c∈l,(c.2.1.size:Int)≤n by have:=HA.out;rwa [List.take_of_length_le (Nat.le_refl _)] at this)
    go_wp2
    go_ret
    exact ⟨⟨m,rfl,fun _=>⟨hm1,HAL.out⟩⟩,HB.out⟩
 ·go_enter Tryz.func76,Tryz.ntmps76
  go_wp2
  go_ret
  exact ⟨⟨-1,rfl,by omega⟩,Below.refl _ _⟩
def filledC (l:List Cl) (M:List Value) (k:Nat):List Value:=flatC (l.take k)++M.drop (k*3)
theorem filledC_length (l:List Cl) (M:List Value) (k:Nat) (hk:k≤l.length) (hM:M.length=l.length*3):(filledC l M k).length=l.length*3:=by
 rw [filledC,List.length_append,flatC_length,List.length_take,List.length_drop];omega
theorem set3 (A B:List Value) (n:Nat) (hA:A.length=n) (x y z a b c:Value):(((A++x::y::z::B).set n a).set (n+1) b).set (n+2) c=A++a::b::c::B:=by
 subst hA
 rw [List.set_append_right _ _ (Nat.le_refl _),Nat.sub_self,List.set_cons_zero,List.set_append_right _ _ (by omega),show A.length+1-A.length=1 by omega,List.set_cons_succ,List.set_cons_zero,
  List.set_append_right _ _ (by omega),show A.length+2-A.length=2 by omega,List.set_cons_succ,List.set_cons_succ,List.set_cons_zero]
theorem filledC_next (l:List Cl) (M:List Value) (k:Nat) (hk:k<l.length) (hM:M.length=l.length*3):
  (((filledC l M k).set (k*3) (.int .i64 l[k].1)).set (k*3+1) (.string l[k].2.1)).set (k*3+2) (.int .i64 l[k].2.2)=filledC l M (k+1):=by
 have hA:(flatC (l.take k)).length=k*3:=by rw [flatC_length,List.length_take];omega
 have hd:M.drop (k*3)=M[k*3]'(by omega)::M[k*3+1]'(by omega)::M[k*3+2]'(by omega)::M.drop (k*3+3):=by
  rw [List.drop_eq_getElem_cons (by omega),List.drop_eq_getElem_cons (i:=k*3+1) (by omega),List.drop_eq_getElem_cons (i:=k*3+1+1) (by omega)]
 rw [filledC,hd,set3 _ _ _ hA,filledC,List.take_succ_eq_append_getElem hk,flatC_append,show (k+1)*3=k*3+3 by omega,List.append_assoc]
 rfl
theorem toCellS_any (v:Value) (l:List Cl) (w:World) (hr:RowC w v l) (hl:l.length≤1048576):
  Calls Tryz.prog 77 #[v] w (NewCells l w):=by
 obtain ⟨i0,hi,hz0,hz1,hz2⟩:=info_parts infoC
 obtain ⟨ao,cap,rfl,h1,h2,h3⟩:=hr
 unfold maxLen at h2
 have H3:=Lib.hid h3;clear h3
 have hby:i0.bytes*l.length≤281474976710656:=by rw [hz2];omega
 go_enter Tryz.func77,Tryz.ntmps77
 go_wp2_with (at_make;refine wpList_make_full _ rfl _ _ 23 rfl w.heap.size 120 i0 (.agg #[.int .i64 0, .string ByteArray.empty, .int .i64 0]) 3 Tryz.underlying23 hi hz0 hz1 .i64 .i64 (l.length:Int) (l.length:Int) l.length rfl rfl rfl rfl hby (by unfold maxLen;omega) (Nat.le_refl _) ?_;intro w1 hown1 hgrow1)
 have hM:(madeCells (Value.agg #[.int .i64 0, .string ByteArray.empty, .int .i64 0]).cells (l.length*3)).toList.length=l.length*3:=by have:=hown1.1;omega
 generalize (madeCells (Value.agg #[.int .i64 0, .string ByteArray.empty, .int .i64 0]).cells (l.length*3)).toList=M at hown1 hM
 have B1:=Lib.hid ((Below.refl w.heap.size w).grown hgrow1 (Nat.le_refl _) (by simp))
 have HM:=Lib.hid hM
 have O1:=Lib.hid hown1
 clear hgrow1 hM hown1 hby
 go_wp2_with fail
 go_loopw [4] (fun i wr=> ∃k:Nat,k≤l.length∧i= .int .i64 k∧wr.ownsRow w.heap.size 120 3 (.slice (some ⟨w.heap.size,0,none⟩) l.length l.length) l.length (filledC l M k)∧Below w.heap.size w wr) (fun i _=>l.length-(intOf i).toNat)
 case atStart=>exact ⟨0,Nat.zero_le _,rfl,by have:=O1.out;simpa [filledC,flatC] using this,B1.out⟩
 case round=>
  obtain ⟨k,hk,rfl,hown,hb⟩:=hrel
  have HO:=Lib.hid hown;have HB:=Lib.hid hb
  clear hown hb
  by_cases hlt:k<l.length
  ·obtain ⟨b,o,rfl,hbl,cc⟩:=H3.out.resolve_left (by rintro rfl;simp at hlt)
   obtain ⟨c0,c1,c2⟩:=cc k hlt
   have d0:wr.cell? ⟨b,o+k*3,none⟩=some (.int .i64 l[k].1):=(HB.out.cell (p:=⟨b,_,none⟩) hbl).trans c0
   have d1:wr.cell? ⟨b,o+k*3+1,none⟩=some (.string l[k].2.1):=(HB.out.cell (p:=⟨b,_,none⟩) hbl).trans c1
   have d2:wr.cell? ⟨b,o+k*3+2,none⟩=some (.int .i64 l[k].2.2):=(HB.out.cell (p:=⟨b,_,none⟩) hbl).trans c2
   have HNX:=Lib.hid (filledC_next l M k hlt HM.out)
   generalize hC:l[k]=c at d0 d1 d2 HNX
   obtain ⟨kk,ss,mm⟩:=c
   simp only at d0 d1 d2 HNX
   clear cc c0 c1 c2 hC
   go_wp2_with fail
   refine (toCell_any kk mm ss _).mono ?_
   rintro e w2 ⟨rfl,hb2⟩
   have hgb:wr.grownBy w2 none:=⟨hb2.os,hb2.tape,hb2.output,hb2.size,fun i hi _=>hb2.block i hi⟩
   have HO2:=Lib.hid (HO.out.kept hgb (.inr (by simp [Value.ownBlock])))
   have HB2:=Lib.hid (HB.out.trans (hb2.mono HB.out.size))
   clear hgb hb2
   have hfl:=filledC_length l M k (by omega) HM.out
   have cc: ∀j,j<l.length*3→ ∃u,w2.cell? ⟨w.heap.size,j,none⟩=some u:=by
    intro j hj
    rw [HO2.out.cellAt j hj,List.getElem?_eq_getElem (by omega)];exact ⟨_,rfl⟩
   obtain ⟨u0,g0⟩:=cc (k*3) (by omega)
   obtain ⟨u1,g1⟩:=cc (k*3+1) (by omega)
   obtain ⟨u2,g2⟩:=cc (k*3+2) (by omega)
   have z0:=HO2.out.frozenAt (k*3)
   have z1:=HO2.out.frozenAt (k*3+1)
   have z2:=HO2.out.frozenAt (k*3+2)
   have S1:=Lib.hid (HO2.out.stored (k*3) (.int .i64 kk))
   have S2:=Lib.hid (S1.out.1.stored (k*3+1) (.string ss))
   have S3:=Lib.hid (S2.out.1.stored (k*3+2) (.int .i64 mm))
   have T3:=Lib.hid (show _ from HNX.out▸S3.out.1)
   have B3:=Lib.hid (((HB2.out.setCell (p:=⟨w.heap.size,k*3,none⟩) (Nat.le_refl _) (.int .i64 kk)).setCell (p:=⟨w.heap.size,k*3+1,none⟩) (Nat.le_refl _) (.string ss)).setCell (p:=⟨w.heap.size,k*3+2,none⟩) (Nat.le_refl _) (.int .i64 mm))
   clear S1 S2 S3 cc hfl
   go_wp2
   go_roundw
   case rel=>exact ⟨k+1,by omega,by go_num,T3.out,B3.out⟩
   case measure=>simp [intOf];omega
  ·obtain rfl:k=l.length:=by omega
   have HN:=Lib.hid (show filledC l M l.length=flatC l by rw [filledC,List.take_of_length_le (Nat.le_refl _),List.drop_eq_nil_of_le (by rw [HM.out];exact Nat.le_refl _),List.append_nil])
   go_wp2
   go_ret
   exact ⟨_,rfl,by rw [←HN.out];exact HO.out,HB.out⟩
theorem eqCell_same (k m:Int) (s:ByteArray) (w:World):
  Calls Tryz.prog 122 #[.agg #[.int .i64 k, .string s, .int .i64 m], .agg #[.int .i64 k, .string s, .int .i64 m]] w fun e w'=>e= .returned (.bool true)∧Below w.heap.size w w':=by
 have n1:(k !=k)=false:=by simp
 have n2:(!(s.toList==s.toList))=false:=by simp
 have n3:(m !=m)=false:=by simp
 go_enter Tryz.func122,Tryz.ntmps122
 go_wp2
 go_ret
 exact ⟨rfl,((Below.refl _ w).alloc (Nat.le_refl _) _).alloc (by simp) _⟩
theorem eqCellS_same (v1 v2 : Value) (l : List Cl) (w : World) (h1 : RowC w v1 l) (h2 : RowC w v2 l) :
    Calls Tryz.prog 78 #[v1, v2] w fun e w' => e = .returned (.bool true) ∧ Below w.heap.size w w' := by
  obtain ⟨a1, c1, rfl, l1, m1, r1⟩ := h1
  obtain ⟨a2, c2, rfl, l2, m2, r2⟩ := h2
  unfold maxLen at m1 m2
  have R1 := Lib.hid r1; have R2 := Lib.hid r2
  clear r1 r2
  go_enter Tryz.func78, Tryz.ntmps78
  go_wp2
  go_loopw [5] (fun i wr => ∃ k : Nat, k ≤ l.length ∧ i = .int .i64 (k : Int) ∧ Below w.heap.size w wr) (fun i _ => l.length - (intOf i).toNat)
  case atStart => exact ⟨0, Nat.zero_le _, rfl, Below.refl _ _⟩
  case round =>
    obtain ⟨k, hk, rfl, hb⟩ := hrel
    have HB := Lib.hid hb; clear hb
    by_cases hlt : k < l.length
    · obtain ⟨b1, o1, hA1, lt1, cc1⟩ := R1.out.resolve_left (by rintro rfl; simp at hlt)
      obtain ⟨b2, o2, hA2, lt2, cc2⟩ := R2.out.resolve_left (by rintro rfl; simp at hlt)
      subst hA1 hA2
      obtain ⟨p0, p1, p2⟩ := cc1 k hlt
      obtain ⟨q0, q1, q2⟩ := cc2 k hlt
      have d0 := (HB.out.cell (p := ⟨b1, _, none⟩) lt1).trans p0
      have d1 := (HB.out.cell (p := ⟨b1, _, none⟩) lt1).trans p1
      have d2 := (HB.out.cell (p := ⟨b1, _, none⟩) lt1).trans p2
      have g0 := (HB.out.cell (p := ⟨b2, _, none⟩) lt2).trans q0
      have g1 := (HB.out.cell (p := ⟨b2, _, none⟩) lt2).trans q1
      have g2 := (HB.out.cell (p := ⟨b2, _, none⟩) lt2).trans q2
      generalize l[k].1 = kk at d0 g0
      generalize l[k].2.1 = ss at d1 g1
      generalize l[k].2.2 = mm at d2 g2
      have hw1 : b1 < wr.heap.size := by have := HB.out.size; omega
      have hw2 : b2 < wr.heap.size := by have := HB.out.size; omega
      clear cc1 cc2 p0 p1 p2 q0 q1 q2
      have bk0 : (0 : Int) ≤ (k : Int) := by omega
      have bk1 : (k : Int) < (l.length : Int) := by omega
      go_wp2_with fail
      go_region_held3 (fun w' => w'.cell? ⟨b1, o1 + k * 3, none⟩ = some (.int .i64 kk) ∧ w'.cell? ⟨b1, o1 + k * 3 + 1, none⟩ = some (.string ss) ∧ w'.cell? ⟨b1, o1 + k * 3 + 2, none⟩ = some (.int .i64 mm) ∧ w'.cell? ⟨b2, o2 + k * 3, none⟩ = some (.int .i64 kk) ∧ w'.cell? ⟨b2, o2 + k * 3 + 1, none⟩ = some (.string ss) ∧ w'.cell? ⟨b2, o2 + k * 3 + 2, none⟩ = some (.int .i64 mm))
        (first
          | go_keep
          | (go_split_ands
             refine ⟨?_, ?_, ?_, ?_, ?_, ?_⟩
             · (rw [hb1.cell (by exact hw1)]; assumption)
             · (rw [hb1.cell (by exact hw1)]; assumption)
             · (rw [hb1.cell (by exact hw1)]; assumption)
             · (rw [hb1.cell (by exact hw2)]; assumption)
             · (rw [hb1.cell (by exact hw2)]; assumption)
             · (rw [hb1.cell (by exact hw2)]; assumption)))
        ((go_at_call 122; refine (eqCell_same _ _ _ _).mono ?_; rintro e w1 ⟨rfl, hb1⟩))
      go_wp2
      go_roundw
      case rel => exact ⟨k + 1, by omega, by go_num, HB.out.drew.trans (hb1.mono HB.out.size)⟩
      case measure => simp [intOf]; omega
    · go_wp2
      go_ret
      exact ⟨rfl, HB.out⟩
theorem drewB (w:World):Below w.heap.size w w.drew:=⟨rfl,rfl,rfl,Nat.le_refl _,fun _ _=>rfl⟩
def lenI (l:List It):Nat:=(l.map fun i=>i.2.2.1.length).sum
theorem lenI_take (l:List It) (k:Nat) (h:k<l.length):lenI (l.take (k+1))=lenI (l.take k)+l[k].2.2.1.length:=by
 simp only [lenI]
 rw [List.take_succ_eq_append_getElem h,List.map_append,List.sum_append]
 simp
theorem lenI_le (l:List It) (k:Nat):lenI (l.take k)≤lenI l:=by
 simp only [lenI]
 conv=>rhs;rw [←List.take_append_drop k l,List.map_append,List.sum_append]
 omega
theorem lenI_in (l:List It) (k:Nat) (h:k<l.length):l[k].2.2.1.length≤lenI l:=by
 have:=lenI_take l k h
 have:=lenI_le l (k+1)
 omega
def UptoI (n:Int) (i:It):Prop:=(i.2.1.size:Int)≤n∧(∀c∈i.2.2.1,(c.2.1.size:Int)≤n)∧(i.2.2.2.size:Int)≤n
def SzI1 (n:Int) (i:It) (e:Ending):Prop:=
 ∃q:Int,e= .returned (.int .i64 q)∧q≤n∧(0≤q→q+(i.2.2.1.length:Int)≤n∧UptoI n i)
def SzI (n:Int) (l:List It) (e:Ending):Prop:=
 ∃m:Int,e= .returned (.int .i64 m)∧(0≤m→m+((l.length:Int)+(lenI l:Int))≤n∧ ∀i∈l,UptoI n i)
theorem short_ofI {l:List It} {n:Int} (hn:n≤1048576) (hl: ∀i∈l,UptoI n i) (hs:(lenI l:Int)≤n):ShortI l:=by
 intro i hi
 obtain ⟨h1,h2,h3⟩:=hl i hi
 obtain ⟨k,hk,rfl⟩:=List.mem_iff_getElem.mp hi
 have:=lenI_in l k hk
 exact ⟨by omega,fun c hc=>by have:=h2 c hc;omega,by omega,by omega⟩
theorem szItem_any (u:Value) (i:It) (n:Int) (w:World) (hr:RowC w u i.2.2.1) (hz:SizedI i) (hn0:0≤n) (hn1:n≤1048576):
  Calls Tryz.prog 33 #[.agg #[.int .i64 i.1, .string i.2.1,u, .string i.2.2.2], .int .i64 n] w fun e w'=>SzI1 n i e∧Below w.heap.size w w':=by
 obtain ⟨k,nm,l,t⟩:=i
 obtain ⟨hs,hzc,hst⟩:=hz
 simp only at hr hs hzc hst⊢
 unfold maxLen at hs hst
 have HB0:=Lib.hid ((Below.refl w.heap.size w).alloc (Nat.le_refl _) (.cells #[.int .i64 k, .string nm,u, .string t] 50))
 have HR:=Lib.hid (hr.mono HB0.out);have HZ:=Lib.hid hzc
 have HBX:=Lib.hid (fun w1 (h:Below (w.alloc (.cells #[.int .i64 k, .string nm,u, .string t] 50)).heap.size (w.alloc (.cells #[.int .i64 k, .string nm,u, .string t] 50)) w1)=>boxI h)
 obtain ⟨ao,cap,rfl,-⟩:=hr
 clear hzc
 by_cases hl:(nm.size:Int)≤n
 ·go_enter Tryz.func33,Tryz.ntmps33
  go_wp2_with fail
  refine (szCellS_left _ l (n-(nm.size:Int)) _ HR.out HZ.out (by omega) (by omega)).mono ?_
  rintro e w1 ⟨⟨q,rfl,hq⟩,hb1⟩
  obtain ⟨d0,d1,d2,d3⟩:=HBX.out w1 hb1
  have HB1:=Lib.hid (HB0.out.trans (hb1.mono HB0.out.size));clear hb1
  by_cases h0:0≤q
  ·obtain ⟨q1,q2⟩:=hq h0
   by_cases h1:(t.size:Int)≤q
   ·have HU:=Lib.hid (show UptoI n (k,nm,l,t) from ⟨hl,fun c hc=>by have:=q2 c hc;omega,by show (t.size:Int)≤n;omega⟩)
    clear hq q2
    go_wp2
    go_ret
    exact ⟨⟨q-(t.size:Int),rfl,by omega,fun _=>⟨by show q-(t.size:Int)+(l.length:Int)≤n;omega,HU.out⟩⟩,HB1.out⟩
   ·clear hq q2
    go_wp2
    go_ret
    exact ⟨⟨-1,rfl,by omega,by omega⟩,HB1.out⟩
  ·clear hq
   go_wp2
   go_ret
   exact ⟨⟨-1,rfl,by omega,by omega⟩,HB1.out⟩
 ·go_enter Tryz.func33,Tryz.ntmps33
  go_wp2
  go_ret
  exact ⟨⟨-1,rfl,by omega,by omega⟩,HB0.out⟩
theorem szItemS_any (v:Value) (l:List It) (n:Int) (w:World) (hr:RowIt w v l) (hz: ∀i∈l,SizedI i) (hn0:0≤n) (hn1:n≤1048576):
  Calls Tryz.prog 36 #[v, .int .i64 n] w fun e w'=>SzI n l e∧Below w.heap.size w w':=by
 obtain ⟨ao,cap,rfl,h1,h2,h3⟩:=hr
 unfold maxLen at h2
 have H3:=Lib.hid h3;have HZ:=Lib.hid hz;clear h3 hz
 by_cases hl:(l.length:Int)≤n
 ·go_enter Tryz.func36,Tryz.ntmps36
  go_wp2
  go_loopw [1,5] (fun a i wr=> ∃(k:Nat) (m:Int),k≤l.length∧i= .int .i64 k∧a= .int .i64 m∧0≤m∧m+((l.length:Int)+(lenI (l.take k):Int))≤n∧(∀b∈l.take k,UptoI n b)∧Below w.heap.size w wr) (fun _ i _=>l.length-(intOf i).toNat)
  case atStart=>exact ⟨0,_,Nat.zero_le _,rfl,rfl,by omega,by simp [lenI],fun c hc=>by simp at hc,Below.refl _ _⟩
  case round=>
   obtain ⟨k,m,hk,rfl,rfl,hm0,hm1,hall,hb⟩:=hrel
   have HA:=Lib.hid hall;have HB:=Lib.hid hb;clear hall hb
   by_cases hlt:k<l.length
   ·obtain ⟨b,o,rfl,hbl,cc⟩:=H3.out.resolve_left (by rintro rfl;simp at hlt)
    obtain ⟨u,hu⟩:=cc k hlt
    obtain ⟨d0,d1,d2,d3,hru⟩:=hu.mono hbl HB.out
    have HC:=Lib.hid (szItem_any u l[k] m wr hru (HZ.out _ (List.getElem_mem hlt)) hm0 (by omega))
    have HTK:=Lib.hid (lenI_take l k hlt)
    have HNX:=Lib.hid (show UptoI n l[k]→ ∀b∈l.take (k+1),UptoI n b by
     intro h l1 hc
     rw [List.take_succ_eq_append_getElem hlt,List.mem_append] at hc
     rcases hc with hc|hc
     ·exact HA.out l1 hc
     ·rw [List.mem_singleton] at hc;rw [hc];exact h)
    clear cc hu hru
    have hmn:m≤1048576:=by omega
    have hmn2:m≤n:=by omega
    go_wp2_with fail
    refine HC.out.mono ?_
    rintro e w1 ⟨⟨q,rfl,hqm,hq⟩,hb1⟩
    have HB1:=Lib.hid (HB.out.trans (hb1.mono HB.out.size));clear hb1
    by_cases hr:0≤q
    ·obtain ⟨q1,q2,q3,q4⟩:=hq hr
     have HN:=Lib.hid (HNX.out ⟨by omega,fun c hc=>by have:=q3 c hc;omega,by omega⟩)
     have hq3:=HTK.out
     clear q2 q3 q4 hq
     go_wp2
     go_roundw
     case rel=>exact ⟨k+1,q,by omega,by go_num,rfl,hr,by omega,HN.out,HB1.out⟩
     case measure=>simp [intOf];omega
    ·clear hq
     go_wp2
     go_ret
     exact ⟨⟨-1,rfl,by omega⟩,HB1.out⟩
   ·obtain rfl:k=l.length:=by omega
    have HAL:=Lib.hid (show∀b∈l,UptoI n b by have:=HA.out;rwa [List.take_of_length_le (Nat.le_refl _)] at this)
    rw [List.take_of_length_le (Nat.le_refl _)] at hm1
    go_wp2
    go_ret
    exact ⟨⟨m,rfl,fun _=>⟨by omega,HAL.out⟩⟩,HB.out⟩
 ·go_enter Tryz.func36,Tryz.ntmps36
  go_wp2
  go_ret
  exact ⟨⟨-1,rfl,by omega⟩,Below.refl _ _⟩
theorem eqItem_same (k:Int) (s t:ByteArray) (u1 u2:Value) (l:List Cl) (w:World) (h1:RowC w u1 l) (h2:RowC w u2 l):
  Calls Tryz.prog 35 #[.agg #[.int .i64 k, .string s,u1, .string t], .agg #[.int .i64 k, .string s,u2, .string t]] w fun e w'=>e= .returned (.bool true)∧Below w.heap.size w w':=by
 have HB0:=Lib.hid (((Below.refl w.heap.size w).alloc (Nat.le_refl _) (.cells #[.int .i64 k, .string s,u1, .string t] 25)).alloc (by simp) (.cells #[.int .i64 k, .string s,u2, .string t] 25))
 have HC:=Lib.hid (eqCellS_same u1 u2 l _ (h1.mono HB0.out) (h2.mono HB0.out))
 have HX0:=Lib.hid (fun w1 (h:Below ((w.alloc (.cells #[.int .i64 k, .string s,u1, .string t] 25)).alloc (.cells #[.int .i64 k, .string s,u2, .string t] 25)).heap.size ((w.alloc (.cells #[.int .i64 k, .string s,u1, .string t] 25)).alloc (.cells #[.int .i64 k, .string s,u2, .string t] 25)) w1)=>
  (show w1.cell? ⟨w.heap.size,3,none⟩=some (.string t) by rw [h.cell (by simp;omega)];simp [go_sem]))
 have HX1:=Lib.hid (fun w1 (h:Below ((w.alloc (.cells #[.int .i64 k, .string s,u1, .string t] 25)).alloc (.cells #[.int .i64 k, .string s,u2, .string t] 25)).heap.size ((w.alloc (.cells #[.int .i64 k, .string s,u1, .string t] 25)).alloc (.cells #[.int .i64 k, .string s,u2, .string t] 25)) w1)=>
  (show w1.cell? ⟨w.heap.size+1,3,none⟩=some (.string t) by rw [h.cell (by simp)];simp [go_sem]))
 obtain ⟨a1,c1,rfl,-⟩:=h1
 obtain ⟨a2,c2,rfl,-⟩:=h2
 have ht:(s.toList==s.toList)=true:=by simp
 have ht2:(t.toList==t.toList)=true:=by simp
 have hk:(k !=k)=false:=by simp
 go_enter Tryz.func35,Tryz.ntmps35
 go_wp2_with fail
 refine HC.out.mono ?_
 rintro e w1 ⟨rfl,hb1⟩
 have e0:=HX0.out w1 hb1
 have e1:=HX1.out w1 hb1
 have HB1:=Lib.hid (HB0.out.trans (hb1.mono HB0.out.size));clear hb1
 go_wp2
 go_ret
 exact ⟨rfl,HB1.out⟩
theorem eqItemS_same (v1 v2:Value) (l:List It) (w:World) (h1:RowIt w v1 l) (h2:RowIt w v2 l):
  Calls Tryz.prog 38 #[v1,v2] w fun e w'=>e= .returned (.bool true)∧Below w.heap.size w w':=by
 obtain ⟨a1,c1,rfl,l1,m1,r1⟩:=h1
 obtain ⟨a2,c2,rfl,l2,m2,r2⟩:=h2
 unfold maxLen at m1 m2
 have R1:=Lib.hid r1;have R2:=Lib.hid r2
 clear r1 r2
 go_enter Tryz.func38,Tryz.ntmps38
 go_wp2
 go_loopw [5] (fun i wr=> ∃k:Nat,k≤l.length∧i= .int .i64 (k:Int)∧Below w.heap.size w wr) (fun i _=>l.length-(intOf i).toNat)
 case atStart=>exact ⟨0,Nat.zero_le _,rfl,Below.refl _ _⟩
 case round=>
  obtain ⟨k,hk,rfl,hb⟩:=hrel
  have HB:=Lib.hid hb;clear hb
  by_cases hlt:k<l.length
  ·obtain ⟨b1,o1,rfl,lt1,cc1⟩:=R1.out.resolve_left (by rintro rfl;simp at hlt)
   obtain ⟨b2,o2,rfl,lt2,cc2⟩:=R2.out.resolve_left (by rintro rfl;simp at hlt)
   obtain ⟨u1,p1⟩:=cc1 k hlt
   obtain ⟨u2,p2⟩:=cc2 k hlt
   obtain ⟨d0,d1,d2,d3,x1⟩:=p1.mono lt1 HB.out
   obtain ⟨f0,f1,f2,f3,x2⟩:=p2.mono lt2 HB.out
   have X1:=Lib.hid x1;have X2:=Lib.hid x2
   clear cc1 cc2 p1 p2 x1 x2
   have bk0:(0:Int)≤(k:Int):=by omega
   have bk1:(k:Int)<(l.length:Int):=by omega
   generalize l[k].1=kk at d0 f0
   generalize l[k].2.1=nk at d1 f1
   generalize l[k].2.2.1=lk at X1 X2
   generalize l[k].2.2.2=tk at d3 f3
   go_wp2_with fail
   go_region_with ((go_at_call 35;refine (eqItem_same _ _ _ _ _ lk _ (X1.out.mono (drewB wr)) (X2.out.mono (drewB wr))).mono ?_;rintro e w1 ⟨rfl,hb1⟩))
   all_goals
    have HB2:=Lib.hid (HB.out.trans (((drewB wr).trans hb1).mono HB.out.size))
    clear hb1
    (try go_wp2)
    go_roundw
    case rel=>exact ⟨k+1,by omega,by go_num,HB2.out⟩
    case measure=>simp [intOf];omega
  ·obtain rfl:k=l.length:=by omega
   go_wp2
   go_ret
   exact ⟨rfl,HB.out⟩
theorem toItem_any (u:Value) (k:Int) (nm t:ByteArray) (l:List Cl) (w:World) (hr:RowC w u l) (hl:l.length≤1048576):
  Calls Tryz.prog 34 #[.agg #[.int .i64 k, .string nm,u, .string t]] w fun e w'=> ∃u',e= .returned (.agg #[.int .i64 k, .string nm,u', .string t])∧w'.ownsRow w.heap.size 120 3 u' l.length (flatC l)∧Below w.heap.size w w':=by
 have HB0:=Lib.hid ((((Below.refl w.heap.size w).alloc (Nat.le_refl _) (.cells #[.int .i64 k, .string nm,u, .string t] 50)).alloc (by simp) (.cells #[.int .i64 0, .string ByteArray.empty, .slice none 0 0, .string ByteArray.empty] 25)).alloc (by simp;omega) (.cells #[.int .i64 k, .string nm, .slice none 0 0, .string ByteArray.empty] 25))
 have HC:=Lib.hid (toCellS_any u l _ (hr.mono HB0.out) hl)
 obtain ⟨ao,cap,rfl,-⟩:=hr
 go_enter Tryz.func34,Tryz.ntmps34
 go_wp2_with fail
 refine HC.out.mono ?_
 rintro e w2 ⟨v2,rfl,ho2,hb2⟩
 have hs2:=hb2.size
 have hs3:w.heap.size+3≤w2.heap.size:=by simpa using hs2
 obtain ⟨a2,c2,rfl⟩:=own_shape ho2
 obtain ⟨⟨x0,x1,x2,x3⟩,⟨f0,f1,f2,f3⟩,-⟩:It4 w2 (w.heap.size+1) (.int .i64 0) (.string ByteArray.empty) (.slice none 0 0) (.string ByteArray.empty):=by
  have:=((It4.new (w.alloc (.cells #[.int .i64 k, .string nm, .slice ao l.length cap, .string t] 50)) (.int .i64 0) (.string ByteArray.empty) (.slice none 0 0) (.string ByteArray.empty) 25).al (.cells #[.int .i64 k, .string nm, .slice none 0 0, .string ByteArray.empty] 25)).keep hb2
  simpa using this
 obtain ⟨⟨y0,y1,y2,y3⟩,⟨g0,g1,g2,g3⟩,-⟩:It4 w2 (w.heap.size+1+1) (.int .i64 k) (.string nm) (.slice none 0 0) (.string ByteArray.empty):=by
  have:=(It4.new ((w.alloc (.cells #[.int .i64 k, .string nm, .slice ao l.length cap, .string t] 50)).alloc (.cells #[.int .i64 0, .string ByteArray.empty, .slice none 0 0, .string ByteArray.empty] 25)) (.int .i64 k) (.string nm) (.slice none 0 0) (.string ByteArray.empty) 25).keep hb2
  simpa using this
 obtain ⟨⟨b0,b1,b2,b3⟩,-⟩:It4 w2 w.heap.size (.int .i64 k) (.string nm) (.slice ao l.length cap) (.string t):=by
  have:=(((It4.new w (.int .i64 k) (.string nm) (.slice ao l.length cap) (.string t) 50).al (.cells #[.int .i64 0, .string ByteArray.empty, .slice none 0 0, .string ByteArray.empty] 25)).al (.cells #[.int .i64 k, .string nm, .slice none 0 0, .string ByteArray.empty] 25)).keep hb2
  simpa using this
 have HB2:=Lib.hid (HB0.out.trans (hb2.mono (by simp;omega)))
 have hou: ∀g,(Value.slice a2 l.length c2).ownBlock=some g→w.heap.size+3≤g:=fun g hg=>by have:=(ho2.lt g hg).1;simpa using this
 have HOU:=Lib.hid hou
 have HO2:=Lib.hid ho2
 have HFIN:=Lib.hid (show∀w5:World,w5=(((((w2.setCell ⟨w.heap.size+1+1,2,none⟩ (.slice a2 l.length c2)).setCell ⟨w.heap.size+1+1,3,none⟩ (.string t)).setCell ⟨w.heap.size+1,0,none⟩ (.int .i64 k)).setCell ⟨w.heap.size+1,1,none⟩ (.string nm)).setCell ⟨w.heap.size+1,2,none⟩ (.slice a2 l.length c2)).setCell ⟨w.heap.size+1,3,none⟩ (.string t)→
   w5.ownsRow w.heap.size 120 3 (.slice a2 l.length c2) l.length (flatC l)∧Below w.heap.size w w5 by
  rintro w5 rfl
  refine ⟨own_base (own_keep HO2.out (fun g hg=>by
   have:=HOU.out g hg
   rw [Below.heap_setCell _ _ _ _ (show g≠w.heap.size+1 by omega),Below.heap_setCell _ _ _ _ (show g≠w.heap.size+1 by omega),Below.heap_setCell _ _ _ _ (show g≠w.heap.size+1 by omega),Below.heap_setCell _ _ _ _ (show g≠w.heap.size+1 by omega),Below.heap_setCell _ _ _ _ (show g≠w.heap.size+1+1 by omega),Below.heap_setCell _ _ _ _ (show g≠w.heap.size+1+1 by omega)])) (fun g hg=>by have:=HOU.out g hg;omega), ?_⟩
  have h1:w.heap.size≤w.heap.size+1:=by omega
  have h2:w.heap.size≤w.heap.size+1+1:=by omega
  exact (((((HB2.out.setCell (p:=⟨w.heap.size+1+1,2,none⟩) h2 _).setCell (p:=⟨w.heap.size+1+1,3,none⟩) h2 _).setCell (p:=⟨w.heap.size+1,0,none⟩) h1 _).setCell (p:=⟨w.heap.size+1,1,none⟩) h1 _).setCell (p:=⟨w.heap.size+1,2,none⟩) h1 _).setCell (p:=⟨w.heap.size+1,3,none⟩) h1 _)
 clear ho2 hb2 hou hs2
 go_wp2
 exact bodyPost_ret (v:= .agg #[.int .i64 k, .string nm, .slice a2 l.length c2, .string t]) (by simp [results,Tryz.results34,go_sem,x0,x1,x2,x3]) rfl ⟨_,rfl,(HFIN.out _ rfl).1,(HFIN.out _ rfl).2⟩
def FilledI (w:World) (B n:Nat) (us:List Value) (l:List It) (wr:World) (M:List Value) (k:Nat):Prop:=
 us.length=k∧wr.ownsRow B 25 4 (.slice (some ⟨B,0,none⟩) n n) n (itF (l.take k) us++M.drop (k*4))∧Below w.heap.size w wr∧(∀(j:Nat) (h:j<us.length) (h':j<l.length),wr.ownsRow (B+1) 120 3 us[j] l[j].2.2.1.length (flatC l[j].2.2.1))∧
  ∀(i j:Nat) (hi:i<us.length) (hj:j<us.length) (b:Nat),us[i].ownBlock=some b→us[j].ownBlock=some b→i=j
theorem set4 (A M:List Value) (k n:Nat) (x0 x1 x2 x3:Value) (hA:A.length=k*4) (hM:M.length=n*4) (hk:k<n):
  ((((A++M.drop (k*4)).set (k*4) x0).set (k*4+1) x1).set (k*4+2) x2).set (k*4+3) x3=(A++[x0,x1,x2,x3])++M.drop ((k+1)*4):=by
 have e:M.drop (k*4)=M[k*4]::M[k*4+1]::M[k*4+2]::M[k*4+3]::M.drop ((k+1)*4):=by
  rw [List.drop_eq_getElem_cons (by omega),List.drop_eq_getElem_cons (by omega),List.drop_eq_getElem_cons (by omega),List.drop_eq_getElem_cons (by omega),show (k+1)*4=k*4+1+1+1+1 by omega]
 rw [e,List.set_append_right _ _ (by omega),hA,Nat.sub_self,List.set_append_right _ _ (by omega),hA,show k*4+1-k*4=1 by omega,List.set_append_right _ _ (by omega),hA,show k*4+2-k*4=2 by omega,List.set_append_right _ _ (by omega),hA,show k*4+3-k*4=3 by omega]
 simp
theorem FilledI.next {w wr w1:World} {B n k:Nat} {us:List Value} {l:List It} {M:List Value} {u:Value} (h:FilledI w B n us l wr M k) (hk:k<n) (hkl:k<l.length) (hM:M.length=n*4) (hB:w.heap.size≤B) (hBl:B<wr.heap.size) (hb1:Below wr.heap.size wr w1)
  (hu:w1.ownsRow wr.heap.size 120 3 u l[k].2.2.1.length (flatC l[k].2.2.1)):FilledI w B n (us++[u]) l ((((w1.setCell ⟨B,k*4,none⟩ (.int .i64 l[k].1)).setCell ⟨B,k*4+1,none⟩ (.string l[k].2.1)).setCell ⟨B,k*4+2,none⟩ u).setCell ⟨B,k*4+3,none⟩ (.string l[k].2.2.2)) M (k+1):=by
 obtain ⟨h1,h2,h3,h4,h5⟩:=h
 have hs1:=hb1.size
 have hset: ∀b,b≠B→((((w1.setCell ⟨B,k*4,none⟩ (.int .i64 l[k].1)).setCell ⟨B,k*4+1,none⟩ (.string l[k].2.1)).setCell ⟨B,k*4+2,none⟩ u).setCell ⟨B,k*4+3,none⟩ (.string l[k].2.2.2)).heap[b]? =w1.heap[b]? :=fun b hbn=>(Below.heap_setCell _ _ _ _ hbn).trans ((Below.heap_setCell _ _ _ _ hbn).trans ((Below.heap_setCell _ _ _ _ hbn).trans (Below.heap_setCell _ _ _ _ hbn)))
 have hus: ∀j (hj:j<us.length) b,us[j].ownBlock=some b→B+1≤b∧b<wr.heap.size:=fun j hj b hb=>(h4 j hj (by omega)).lt b hb
 have hu1: ∀b,u.ownBlock=some b→wr.heap.size≤b∧b<w1.heap.size:=fun b hb=>hu.lt b hb
 have htl:(l.take k).length=us.length:=by rw [List.length_take];omega
 have hfl:(itF (l.take k) us).length=k*4:=by rw [itF_length _ _ htl,htl,h1]
 refine ⟨by simp [h1], ?_,((((h3.trans (hb1.mono h3.size)).setCell hB _).setCell hB _).setCell hB _).setCell hB _, ?_, ?_⟩
 ·have e:=set4 (itF (l.take k) us) M k n (.int .i64 l[k].1) (.string l[k].2.1) u (.string l[k].2.2.2) hfl hM hk
  have e2:itF (l.take (k+1)) (us++[u])=itF (l.take k) us++[.int .i64 l[k].1, .string l[k].2.1,u, .string l[k].2.2.2]:=by
   rw [List.take_succ_eq_append_getElem hkl,itF_append _ _ _ _ htl];rfl
  rw [e2,←e]
  exact ((((((own_belowS h2 hb1).stored (k*4) (.int .i64 l[k].1)).1).stored (k*4+1) (.string l[k].2.1)).1.stored (k*4+2) u).1.stored (k*4+3) (.string l[k].2.2.2)).1
 ·intro j hj hj'
  by_cases hlt:j<us.length
  ·rw [List.getElem_append_left hlt]
   exact own_keep (h4 j hlt hj') (fun g hg=>by rw [hset g (by have:=hus j hlt g hg;omega),hb1.block g (hus j hlt g hg).2])
  ·have:j=us.length:=by simp at hj;omega
   subst this
   simp only [List.getElem_append_right (Nat.le_refl _),Nat.sub_self,List.getElem_cons_zero]
   subst h1
   exact own_base (own_keep hu (fun g hg=>hset g (by have:=hu1 g hg;omega))) (fun g hg=>by have:=hu1 g hg;omega)
 ·intro i j hi hj b hbi hbj
  by_cases hli:i<us.length
  ·rw [List.getElem_append_left hli] at hbi
   by_cases hlj:j<us.length
   ·rw [List.getElem_append_left hlj] at hbj;exact h5 i j hli hlj b hbi hbj
   ·have:j=us.length:=by simp at hj;omega
    subst this
    simp only [List.getElem_append_right (Nat.le_refl _),Nat.sub_self,List.getElem_cons_zero] at hbj
    have:=hus i hli b hbi;have:=hu1 b hbj;omega
  ·have:i=us.length:=by simp at hi;omega
   subst this
   simp only [List.getElem_append_right (Nat.le_refl _),Nat.sub_self,List.getElem_cons_zero] at hbi
   by_cases hlj:j<us.length
   ·rw [List.getElem_append_left hlj] at hbj
    have:=hus j hlj b hbj;have:=hu1 b hbi;omega
   ·simp at hj;omega
theorem FilledI.done {w wr:World} {B n:Nat} {us:List Value} {l:List It} {M:List Value} (h:FilledI w B n us l wr M n) (hM:M.length=n*4) (hn:l.length=n) (hB:w.heap.size≤B):OwnI wr w.heap.size (.slice (some ⟨B,0,none⟩) n n) us l:=by
 obtain ⟨h1,h2,h3,h4,h5⟩:=h
 rw [List.drop_eq_nil_of_le (by omega),List.append_nil,List.take_of_length_le (by omega)] at h2
 refine ⟨by rw [hn];exact own_base h2 (fun g hg=>by have:=(h2.lt g hg).1;omega),by omega,fun k hk hk'=>own_base (h4 k hk hk') (fun g hg=>by have:=((h4 k hk hk').lt g hg).1;omega), ?_,h5⟩
 intro k hk b hb he
 have:B=b:=by simpa [Value.ownBlock] using he
 have:=((h4 k hk (by omega)).lt b hb).1
 omega
theorem toItemS_any (v:Value) (l:List It) (w:World) (hr:RowIt w v l) (hl:l.length≤1048576) (hll: ∀b∈l,b.2.2.1.length≤1048576):
  Calls Tryz.prog 37 #[v] w (NewI l w):=by
 obtain ⟨i0,hi,hz0,hz1,hz2⟩:=info_parts infoIt
 obtain ⟨ao,cap,rfl,h1,h2,h3⟩:=hr
 unfold maxLen at h2
 have H3:=Lib.hid h3;have HLL:=Lib.hid hll;clear h3 hll
 have hby:i0.bytes*l.length≤281474976710656:=by rw [hz2];omega
 go_enter Tryz.func37,Tryz.ntmps37
 go_wp2_with (at_make;refine wpList_make_full _ rfl _ _ 36 rfl w.heap.size 25 i0 (.agg #[.int .i64 0, .string ByteArray.empty, .slice none 0 0, .string ByteArray.empty]) 4 Tryz.underlying36 hi hz0 hz1 .i64 .i64 (l.length:Int) (l.length:Int) l.length rfl rfl rfl rfl hby (by unfold maxLen;omega) (Nat.le_refl _) ?_;intro w1 hown1 hgrow1)
 have hM:(madeCells (Value.agg #[.int .i64 0, .string ByteArray.empty, .slice none 0 0, .string ByteArray.empty]).cells (l.length*4)).toList.length=l.length*4:=by have:=hown1.1;omega
 generalize (madeCells (Value.agg #[.int .i64 0, .string ByteArray.empty, .slice none 0 0, .string ByteArray.empty]).cells (l.length*4)).toList=M at hown1 hM
 have B1:=Lib.hid ((Below.refl w.heap.size w).grown hgrow1 (Nat.le_refl _) (by simp))
 have HM:=Lib.hid hM
 have O1:=Lib.hid hown1
 clear hgrow1 hM hown1 hby
 go_wp2_with fail
 go_loopw [4] (fun i wr=> ∃(k:Nat) (us:List Value),k≤l.length∧i= .int .i64 (k:Int)∧FilledI w w.heap.size l.length us l wr M k) (fun i _=>l.length-(intOf i).toNat)
 case atStart=>exact ⟨0,[],Nat.zero_le _,rfl,rfl,by simpa [itF] using O1.out,B1.out,fun j h=>by simp at h,fun i j h=>by simp at h⟩
 case round=>
  obtain ⟨k,us,hk,rfl,hf⟩:=hrel
  have HF:=Lib.hid hf;clear hf
  by_cases hlt:k<l.length
  ·obtain ⟨b,o,rfl,hbl,cc⟩:=H3.out.resolve_left (by rintro rfl;simp at hlt)
   obtain ⟨u,hu⟩:=cc k hlt
   obtain ⟨hul,hro,hbw,-,-⟩:=HF.out
   obtain ⟨d0,d1,d2,d3,hru⟩:=hu.mono hbl hbw
   have HRU:=Lib.hid hru
   have hB:=(hro.lt w.heap.size rfl).2
   have HRO:=Lib.hid hro
   have HLK:=Lib.hid (HLL.out _ (List.getElem_mem hlt))
   have HNX:=Lib.hid (fun w1 u hb1 hu=>HF.out.next (w1:=w1) (u:=u) hlt hlt HM.out (Nat.le_refl _) hB hb1 hu)
   clear cc hu hru hro hbw hul
   go_wp2_with fail
   refine (toItem_any u l[k].1 l[k].2.1 l[k].2.2.2 l[k].2.2.1 _ HRU.out HLK.out).mono ?_
   rintro e w2 ⟨v2,rfl,ho2,hb2⟩
   obtain ⟨a2,c2,rfl⟩:=own_shape ho2
   have HO2:=Lib.hid (own_belowS HRO.out hb2)
   have ccw: ∀j,j<l.length*4→ ∃u,w2.cell? ⟨w.heap.size,j,none⟩=some u:=fun j hj=>by
    rw [HO2.out.cellAt j hj,List.getElem?_eq_getElem (by have:=HO2.out.1;omega)];exact ⟨_,rfl⟩
   obtain ⟨u3,g3⟩:=ccw (k*4) (by omega)
   obtain ⟨u4,g4⟩:=ccw (k*4+1) (by omega)
   obtain ⟨u5,g5⟩:=ccw (k*4+2) (by omega)
   obtain ⟨u6,g6⟩:=ccw (k*4+3) (by omega)
   have z3:=HO2.out.frozenAt (k*4)
   have z4:=HO2.out.frozenAt (k*4+1)
   have z5:=HO2.out.frozenAt (k*4+2)
   have z6:=HO2.out.frozenAt (k*4+3)
   have HN2:=Lib.hid (HNX.out w2 _ hb2 ho2)
   clear ho2 hb2 HNX ccw
   go_wp2
   go_roundw
   case rel=>exact ⟨k+1,us++[.slice a2 l[k].2.2.1.length c2],by omega,by go_num,HN2.out⟩
   case measure=>simp [intOf];omega
  ·obtain rfl:k=l.length:=by omega
   have HD:=Lib.hid (HF.out.done HM.out rfl (Nat.le_refl _))
   have HB:=Lib.hid HF.out.2.2.1
   go_wp2
   go_ret
   exact ⟨_,us,rfl,HD.out,HB.out⟩
end Go.Proofs.YthijkjnngfnfdaaGreatDoor
