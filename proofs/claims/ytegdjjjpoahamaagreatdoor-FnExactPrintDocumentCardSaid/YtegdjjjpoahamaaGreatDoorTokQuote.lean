/-
  A quoted text is one token, plainly.
-/
import Derived.Test.YtegdjjjpoahamaaGreatDoorUnqPlain
import Derived.Test.YtegdjjjpoahamaaGreatDoorBaseT
set_option linter.unusedVariables false
namespace Go.Proofs.YtegdjjjpoahamaaGreatDoor
theorem clo_one (c:UInt8) (r:List UInt8):clo false (quoteC c++r)=(quoteC c).length+clo false r:=by
 unfold quoteC
 split
 ·show clo false (92::110::r)=2+_
  simp only [clo]
  rw [if_neg (by decide),if_pos (by decide)];omega
 ·split
  ·show clo false (92::c::r)=2+_
   simp only [clo]
   rw [if_neg (by decide),if_pos (by decide)];omega
  ·rename_i h1 h2
   have a: ¬((c.toNat:Int)==34)=true:=by
    rw [beq_iff_eq];intro e;exact h2 (.inl (UInt8.toNat_inj.mp (by rw [show (34:UInt8).toNat=34 from rfl];omega)))
   have b: ¬((c.toNat:Int)==92)=true:=by
    rw [beq_iff_eq];intro e;exact h2 (.inr (UInt8.toNat_inj.mp (by rw [show (92:UInt8).toNat=92 from rfl];omega)))
   show clo false (c::r)=1+_
   simp only [clo]
   rw [if_neg a,if_neg b];omega
theorem clo_quote (l r:List UInt8):clo false (quoteI l++r)=(quoteI l).length+clo false r:=by
 induction l with
 |nil=>simp [quoteI]
 |cons c l ih=>rw [quoteI_cons,List.append_assoc,clo_one,ih,List.length_append];omega
theorem tok_quote (l:List UInt8):endM (0,0,[]) 0 (quoteL l)=(0,(quoteL l).length,[(3,0,(quoteL l).length)]):=by
 have hc:clo false (quoteI l++[34])=(quoteI l).length:=by rw [clo_quote];rfl
 have hlt:clo false (quoteI l++[34])<(quoteI l++[34]).length:=by rw [hc];simp
 have hk:endK (quoteL l)=3:=by
  unfold quoteL
  simp only [endK]
  rw [if_neg (by decide),if_neg (by decide),if_pos (by decide),if_pos hlt]
 have hn:endN (quoteL l)=(quoteL l).length:=by
  unfold quoteL
  simp only [endN]
  rw [if_neg (by decide),if_neg (by decide),if_pos (by decide),if_pos hlt,hc]
  simp
 have ht:=end_ok 34 (quoteI l++[34]) (by decide) (by show endK (quoteL l)≠0;rw [hk];decide)
 have ha:=ht.alone
 have e1:endN (34::(quoteI l++[34]))=(quoteL l).length:=hn
 have e2:endK (34::(quoteI l++[34]))=3:=hk
 rw [e1,e2,show (34::(quoteI l++[34]):List UInt8)=quoteL l from rfl,List.take_length] at ha
 exact ha
theorem plain_quoteC (c:UInt8) (h:okI (c.toNat:Int)=true):plainL (quoteC c)=true:=by
 unfold quoteC
 split
 ·decide
 ·split
  ·rename_i h1 h2
   rcases h2 with e|e<;>rw [e]<;>decide
  ·rename_i h1 h2
   simp only [okI,Bool.or_eq_true,beq_iff_eq] at h
   have hp:plainI (c.toNat:Int)=true:=by
    rcases h with h|h
    ·exact absurd (UInt8.toNat_inj.mp (by rw [show (10:UInt8).toNat=10 from rfl];omega)) h1
    ·exact h
   simp [plainL,hp]
theorem plain_quoteI (l:List UInt8) (h:okL l=true):plainL (quoteI l)=true:=by
 induction l with
 |nil=>rfl
 |cons c l ih=>
  rw [okL_cons] at h
  simp only [Bool.and_eq_true] at h
  have h1:=plain_quoteC c h.1
  have h2:=ih h.2
  rw [quoteI_cons]
  simp only [plainL,List.all_append,Bool.and_eq_true] at h1 h2⊢
  exact ⟨h1,h2⟩
theorem tok_quoteT {s:ByteArray} (h:textB s=true) (hs:s.size≤9999):okT (quoteT s)=true∧toksT (quoteT s)=[(3,0,(quoteL s.data.toList).length)]:=by
 have hq:(quoteT s).data.toList=quoteL s.data.toList:=by unfold quoteT;rw [if_pos h]
 have hok:okL s.data.toList=true:=by simp only [textB,Bool.and_eq_true] at h;exact h.2
 have hsz:(quoteT s).size≤20000:=by
  have h1:(quoteT s).size=(quoteL s.data.toList).length:=by rw [←hq,Array.length_toList];rfl
  have h2:=(quoteI_len s.data.toList).2
  rw [show s.data.toList.length=s.size by rw [Array.length_toList];rfl] at h2
  rw [h1];simp only [quoteL,List.length_cons,List.length_append,List.length_nil];omega
 have hr:resB (0,0,[]) 0 (quoteT s).data.toList=true:=by rw [hq,resB,tok_quote];rfl
 have hp:plainL (quoteT s).data.toList=true:=by
  rw [hq]
  have:=plain_quoteI _ hok
  simp only [plainL,quoteL,List.all_cons,List.all_append,Bool.and_eq_true] at this⊢
  exact ⟨by decide,this,by decide⟩
 have ho:okT (quoteT s)=true:=by rw [okT,decide_eq_true hsz,hp,hr];rfl
 exact ⟨ho,by rw [toksT,if_pos ho,resL,if_pos hr,hq,tok_quote]⟩
end Go.Proofs.YtegdjjjpoahamaaGreatDoor
