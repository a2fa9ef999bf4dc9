/-
  spec.QuoteText, by its contract.
-/
import Derived.Test.YthijkjnngfnfdaaGreatDoorBaseC
import Derived.Test.YthijkjnngfnfdaaGreatDoorBaseE
import Derived.Lib.Strings
set_option linter.unusedVariables false
set_option maxHeartbeats 2000000
set_option maxRecDepth 100000
namespace Go.Proofs.YthijkjnngfnfdaaGreatDoor
open Go.RowKit
theorem one_list (s:ByteArray) (k:Nat) (h:k<s.size):(s.extract k (k+1)).data.toList=[s[k]]:=by
 have hl:s.data.toList.length=s.size:=by rw [Array.length_toList];rfl
 rw [Lib.extract_data,List.drop_eq_getElem_cons (by omega),show k+1-k=1 by omega]
 rfl
theorem byte_ne {c:UInt8} {n:Nat} (hn:n<256) (h:(c.toNat:Int)≠n):c≠UInt8.ofNat n:=by
 intro e;subst e;apply h;simp;omega
theorem quote_step' (s:ByteArray) (k:Nat) (h:k<s.size):quoteI (s.data.toList.take (k+1))=quoteI (s.data.toList.take k)++quoteC s[k]:=by
 rw [take_snoc s k h,quoteI_snoc]
theorem quoteT_none {s:ByteArray} (h:textB s=false):quoteT s=⟨#[]⟩:=by unfold quoteT;rw [h];rfl
theorem textB_sz {s:ByteArray} (h:textB s=true):s.size≤20000:=by
 simp only [textB,Bool.and_eq_true,decide_eq_true_eq] at h;exact h.1
theorem take_len' (s:ByteArray) (k:Nat):(quoteI (s.data.toList.take k)).length≤2*k:=by
 have:=(quoteI_len (s.data.toList.take k)).2
 rw [List.length_take] at this
 omega
theorem quoteText_spec (s:ByteArray) (w:World) (hs:s.size≤maxLen):
  Calls Tryz.prog 131 #[.string s] w fun e w'=>e= .returned (.string (quoteT s))∧w=w':=by
 cases ht:textB s with
 |false=>
  rw [quoteT_none ht]
  go_enter Tryz.func131,Tryz.ntmps131
  go_wp2_with fail
  refine (textValid_spec s _ hs).mono ?_
  rintro e w' ⟨rfl,rfl⟩
  rw [ht]
  go_wp2
  go_ret
  exact ⟨rfl,rfl⟩
 |true=>
  have hs2:=textB_sz ht
  have HS:=Lib.hid hs
  have HT:=Lib.hid ht
  clear ht hs
  go_enter Tryz.func131,Tryz.ntmps131
  go_wp2_with fail
  refine (textValid_spec s _ HS.out).mono ?_
  rintro e w' ⟨rfl,rfl⟩
  rw [HT.out]
  go_wp2_with fail
  go_loop [3,4] (fun o i=> ∃(k:Nat) (q:ByteArray),k≤s.size∧i= .int .i64 k∧o= .string q∧q.data.toList=34::quoteI (s.data.toList.take k)∧q.size≤2*k+1) (fun _ i=>s.size-(intOf i).toNat)
  case atStart=>exact ⟨0,_,Nat.zero_le _,rfl,rfl,rfl,by show (1:Nat)≤1;omega⟩
  case round=>
   obtain ⟨k,q,hk,rfl,rfl,hq,hz⟩:=hrel
   have HQ:=Lib.hid hq
   clear hq
   by_cases hlt:k<s.size
   ·have hb0:(s[k].toNat:Int)≤255:=by have:=s[k].toNat_lt;omega
    have HN:=Lib.hid (quote_step' s k hlt)
    have HO:=Lib.hid (one_list s k hlt)
    have hoz:(s.extract k (k+1)).size=1:=by rw [ByteArray.size_extract];omega
    by_cases h10:s[k]=10
    ·have HC:=Lib.hid (show quoteC s[k]=[92,110] by rw [h10];rfl)
     have t1:((s[k].toNat:Int)==10)=true:=by rw [h10];rfl
     clear h10
     go_wp2
     go_round
     case rel=>exact ⟨k+1,_,by omega,by go_num,rfl,by rw [HN.out,HC.out];have:=HQ.out;simp [this],by rw [ByteArray.size_append];show q.size+2≤_;omega⟩
     case measure=>simp [intOf];omega
    ·have t1:((s[k].toNat:Int)==10)=false:=by
      rw [beq_eq_false_iff_ne];intro e;exact h10 (UInt8.toNat_inj.mp (by rw [show (10:UInt8).toNat=10 from rfl];omega))
     by_cases h34:s[k]=34∨s[k]=92
     ·have HC:=Lib.hid (show quoteC s[k]=[92,s[k]] by unfold quoteC;rw [if_neg h10,if_pos h34])
      by_cases h3:s[k]=34
      ·have t2:((s[k].toNat:Int)==34)=true:=by rw [h3];rfl
       clear h10 h34 h3
       go_wp2
       go_round
       case rel=>exact ⟨k+1,_,by omega,by go_num,rfl,by rw [HN.out,HC.out];have:=HQ.out;have h4:=HO.out;simp only [ByteArray.data_append,Array.toList_append,this,h4];simp,by simp only [ByteArray.size_append];rw [hoz];show q.size+1+1≤_;omega⟩
       case measure=>simp [intOf];omega
      ·have t2:((s[k].toNat:Int)==34)=false:=by
        rw [beq_eq_false_iff_ne];intro e;exact h3 (UInt8.toNat_inj.mp (by rw [show (34:UInt8).toNat=34 from rfl];omega))
       have t3:((s[k].toNat:Int)==92)=true:=by rw [h34.resolve_left h3];rfl
       clear h10 h34 h3
       go_wp2
       go_round
       case rel=>exact ⟨k+1,_,by omega,by go_num,rfl,by rw [HN.out,HC.out];have:=HQ.out;have h4:=HO.out;simp only [ByteArray.data_append,Array.toList_append,this,h4];simp,by simp only [ByteArray.size_append];rw [hoz];show q.size+1+1≤_;omega⟩
       case measure=>simp [intOf];omega
     ·have HC:=Lib.hid (show quoteC s[k]=[s[k]] by unfold quoteC;rw [if_neg h10,if_neg h34])
      have t2:((s[k].toNat:Int)==34)=false:=by
       rw [beq_eq_false_iff_ne];intro e;exact h34 (.inl (UInt8.toNat_inj.mp (by rw [show (34:UInt8).toNat=34 from rfl];omega)))
      have t3:((s[k].toNat:Int)==92)=false:=by
       rw [beq_eq_false_iff_ne];intro e;exact h34 (.inr (UInt8.toNat_inj.mp (by rw [show (92:UInt8).toNat=92 from rfl];omega)))
      clear h10 h34
      go_wp2
      go_round
      case rel=>exact ⟨k+1,_,by omega,by go_num,rfl,by rw [HN.out,HC.out];have:=HQ.out;have h4:=HO.out;simp only [ByteArray.data_append,Array.toList_append,this,h4];simp,by simp only [ByteArray.size_append];rw [hoz];omega⟩
      case measure=>simp [intOf];omega
   ·obtain rfl:k=s.size:=by omega
    go_wp2
    go_ret
    have h5:=HQ.out
    rw [List.take_of_length_le (by simp)] at h5
    have h6:quoteT s=q++⟨#[34]⟩:=by
     unfold quoteT quoteL
     rw [if_pos HT.out]
     exact ba_eq (by simp [h5])
    rw [h6]
    exact ⟨rfl,rfl⟩
end Go.Proofs.YthijkjnngfnfdaaGreatDoor
