/-
  What is read byte by byte between quotation marks, plainly.
-/
import Derived.Test.YtegdjjjpoahamaaGreatDoorBaseE
import Derived.Lib.Strings
set_option linter.unusedVariables false
namespace Go.Proofs.YtegdjjjpoahamaaGreatDoor
theorem quoteC_ne (c:UInt8):quoteC c≠[]:=by intro e;have:=(quoteC_len c).1;rw [e] at this;simp at this
theorem quoteC_inj {b c:UInt8} {X Y:List UInt8} (h:quoteC b++X=quoteC c++Y):b=c∧X=Y:=by
 have h2:=congrArg (fun l=>looseL (l++[34])) h
 simp only [List.append_assoc] at h2
 rw [loose_one _ _ (by simp),loose_one _ _ (by simp)] at h2
 have hbc:b=c:=(List.cons.inj h2).1
 subst hbc
 exact ⟨rfl,List.append_cancel_left h⟩
theorem quoteI_split {a t r:List UInt8} (h:quoteI a++r=quoteI t): ∃t2,t=a++t2∧r=quoteI t2:=by
 induction a generalizing t with
 |nil=>exact ⟨t,rfl,by simpa [quoteI] using h⟩
 |cons b a ih=>
  rw [quoteI_cons,List.append_assoc] at h
  cases t with
  |nil=>
   exact absurd (List.append_eq_nil_iff.mp h).1 (quoteC_ne b)
  |cons c t=>
   rw [quoteI_cons] at h
   obtain ⟨rfl,h2⟩:=quoteC_inj h
   obtain ⟨t2,rfl,hr⟩:=ih h2
   exact ⟨t2,rfl,hr⟩
theorem okL_cons (c:UInt8) (l:List UInt8):okL (c::l)=(okI (c.toNat:Int)&&okL l):=by simp [okL]
theorem okL_app (a b:List UInt8):okL (a++b)=(okL a&&okL b):=by simp [okL]
def NoByte (l:List UInt8):Prop:= ∀(c:UInt8) (t:List UInt8),okI (c.toNat:Int)=true→l≠quoteC c++t
def NoText (l:List UInt8):Prop:= ∀t:List UInt8,t.length≤20000→okL t=true→l≠quoteI t
theorem no_byte {a r l:List UInt8} (h:l=quoteI a++r) (hr:r≠[]) (hn:NoByte r):NoText l:=by
 intro t h1 h2 e
 obtain ⟨t2,rfl,hr2⟩:=quoteI_split (h.symm.trans e)
 cases t2 with
 |nil=>exact hr hr2
 |cons c t2=>
  rw [okL_app,okL_cons] at h2
  simp only [Bool.and_eq_true] at h2
  exact hn c _ h2.2.1 (by rw [hr2,quoteI_cons])
theorem no_room {a r l:List UInt8} (h:l=quoteI a++r) (hr:r≠[]) (hn:a.length=20000):NoText l:=by
 intro t h1 h2 e
 obtain ⟨t2,rfl,hr2⟩:=quoteI_split (h.symm.trans e)
 cases t2 with
 |nil=>exact hr hr2
 |cons c t2=>simp at h1;omega
theorem toNat_ne {c:UInt8} {d:UInt8} (h:c≠d):c.toNat≠d.toNat:=fun e=>h (UInt8.toNat_inj.mp e)
theorem first_no {b:UInt8} {r:List UInt8} (h1:b=92→ ∀d r',r=d::r'→d≠34∧d≠92∧d≠110) (h2:b≠92→b=34∨b=10∨plainI (b.toNat:Int)=false):NoByte (b::r):=by
 intro c t hc e
 by_cases c10:c=10
 ·subst c10
  rw [show quoteC 10=[92,110] from rfl] at e
  simp only [List.cons_append,List.nil_append,List.cons.injEq] at e
  exact (h1 e.1 110 t e.2).2.2 rfl
 by_cases cq:c=34∨c=92
 ·have hq:quoteC c=[92,c]:=by unfold quoteC;rw [if_neg c10,if_pos cq]
  rw [hq] at e
  simp only [List.cons_append,List.nil_append,List.cons.injEq] at e
  have:=h1 e.1 c t e.2
  rcases cq with g|g
  ·exact this.1 g
  ·exact this.2.1 g
 ·have hq:quoteC c=[c]:=by unfold quoteC;rw [if_neg c10,if_neg cq]
  rw [hq] at e
  simp only [List.cons_append,List.nil_append,List.cons.injEq] at e
  obtain ⟨rfl,-⟩:=e
  rcases h2 (fun g=>cq (.inr g)) with g|g|g
  ·exact cq (.inl g)
  ·exact c10 g
  ·simp only [okI,g,Bool.or_false,beq_iff_eq] at hc
   exact c10 (UInt8.toNat_inj.mp (by rw [show (10:UInt8).toNat=10 from rfl];omega))
def FirstB (l:List UInt8) (c:Int) (n:Nat):Prop:=
 (c=0∧n=0∧NoByte l)∨ ∃b:UInt8,c=(b.toNat:Int)∧n=(quoteC b).length∧okI (b.toNat:Int)=true∧l=quoteC b++l.drop n
theorem first_two {d e:UInt8} {r:List UInt8} (h:quoteC e=[92,d]) (ho:okI (e.toNat:Int)=true):FirstB (92::d::r) (e.toNat:Int) 2:=by
 refine .inr ⟨e,rfl,by rw [h];rfl,ho, ?_⟩
 rw [h];rfl
theorem first_one {b:UInt8} {r:List UInt8} (h1:b≠92) (h2:b≠34) (h3:b≠10) (h4:plainI (b.toNat:Int)=true):FirstB (b::r) (b.toNat:Int) 1:=by
 have hq:quoteC b=[b]:=by unfold quoteC;rw [if_neg h3,if_neg (by rintro (g|g);exact h2 g;exact h1 g)]
 refine .inr ⟨b,rfl,by rw [hq];rfl,by simp [okI,h4], ?_⟩
 rw [hq];rfl
theorem unq_inside {s:ByteArray} {l:List UInt8} (h:s.data.toList=34::(l++[34])):(∀t:List UInt8,t.length≤20000→okL t=true→l=quoteI t→unqOK s=true∧unqT s=⟨t.toArray⟩)∧(NoText l→unqOK s=false):=by
 refine ⟨fun t h1 h2 h3=> ?_,fun hn=>unq_none fun t h1 h2 h3=> ?_⟩
 ·refine unq_of (t:=⟨t.toArray⟩) ?_ ?_
  ·simp only [textB,h2,Bool.and_true,decide_eq_true_eq]
   simpa [ByteArray.size] using h1
  ·rw [ba_list,h,quoteL,h3]
 ·refine hn t h1 h2 ?_
  rw [h] at h3
  unfold quoteL at h3
  have h4:=(List.cons.inj h3).2
  exact (List.append_cancel_right h4).symm
theorem unq_head {s:ByteArray} (h:Lib.hasPrefix s.data.toList [34]=false):unqOK s=false:=by
 refine unq_none fun t h1 h2 h3=> ?_
 rw [←h3] at h
 simp [Lib.hasPrefix,quoteL,List.isPrefixOf] at h
theorem unq_tail {s:ByteArray} {r:List UInt8} (h0:s.data.toList=34::r) (h:Lib.hasSuffix r [34]=false):unqOK s=false:=by
 refine unq_none fun t h1 h2 h3=> ?_
 rw [h0] at h3
 unfold quoteL at h3
 have h4:=(List.cons.inj h3).2
 rw [←h4] at h
 have:([34]:List UInt8)<:+(quoteI t++[34]):=⟨quoteI t,rfl⟩
 rw [Lib.hasSuffix,List.isSuffixOf_iff_suffix.mpr this] at h
 cases h
theorem prefix_cut {s:List UInt8} (h:Lib.hasPrefix s [34]=true):s=34::Lib.trimPrefix s [34]:=by
 unfold Lib.trimPrefix
 rw [if_pos h]
 rw [Lib.hasPrefix,List.isPrefixOf_iff_prefix] at h
 obtain ⟨r,rfl⟩:=h
 rfl
theorem suffix_cut {s:List UInt8} (h:Lib.hasSuffix s [34]=true):s=Lib.trimSuffix s [34]++[34]:=by
 unfold Lib.trimSuffix
 rw [if_pos h]
 rw [Lib.hasSuffix,List.isSuffixOf_iff_suffix] at h
 obtain ⟨r,rfl⟩:=h
 simp
end Go.Proofs.YtegdjjjpoahamaaGreatDoor
