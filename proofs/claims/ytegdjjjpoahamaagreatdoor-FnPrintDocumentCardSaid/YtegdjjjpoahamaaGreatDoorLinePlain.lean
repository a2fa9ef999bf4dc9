/-
  Lines of items, plainly: spaces at the ends (trimL), where a note begins (hs), what a line stands for (readIt), the line of an item (lineI); lines of items are read as the items.
-/
import Derived.Test.YtegdjjjpoahamaaGreatDoorDocPlain
import Derived.Test.YtegdjjjpoahamaaGreatDoorLineOps
import Derived.Test.YtegdjjjpoahamaaGreatDoorBaseZ
set_option linter.unusedVariables false
namespace Go.Proofs.YtegdjjjpoahamaaGreatDoor
theorem rn_quoteI: ∀(l:List UInt8),rn 1 (quoteI l)=some 1:=by
 intro l
 induction l with
 |nil=>rfl
 |cons x l ih=>
  have e:quoteI (x::l)=quoteC x++quoteI l:=by simp [quoteI]
  rw [e,rn_app]
  have:rn 1 (quoteC x)=some 1:=by
   unfold quoteC
   by_cases h1:x=10
   ·rw [if_pos h1];rfl
   ·rw [if_neg h1]
    by_cases h2:x=34∨x=92
    ·rw [if_pos h2];rfl
    ·rw [if_neg h2]
     show (if _ then none else rn (nx 1 x) [])=_
     rw [if_neg (by omega)]
     have:nx 1 x=1:=by
      unfold nx
      rw [if_neg (by omega),if_pos rfl,if_neg (fun k=>h2 (.inr k)),if_neg (fun k=>h2 (.inl k))]
     rw [this];rfl
  rw [this];exact ih
theorem rn_quoteL (l:List UInt8):rn 0 (quoteL l)=some 0:=by
 unfold quoteL
 show rn 1 (quoteI l++[34])=_
 rw [rn_app,rn_quoteI];rfl
theorem text_noC {c:UInt8} (hd:isD c=false) (h1:c≠45) (h2:c≠46) (h3:c≠47) (t b:Int):c∉textF t b:=by
 have pos: ∀t b:Nat,0<b→c∉posText t b:=by
  intro t b hb
  have k1:=not_mem_digits (dec_digits (t/b)).1 c hd
  have k2:=not_mem_digits (dec_digits t).1 c hd
  have k3:=not_mem_digits (dec_digits b).1 c hd
  have k4:=not_mem_digits (frs_digits 6 (t % b) b (Nat.mod_lt _ hb)) c hd
  unfold posText decText
  split
  ·split
   ·simp [k1]
   ·simp [k1,k4,h2]
  ·simp [k2,k3,h3]
 unfold textF
 split
 ·rename_i hv
  obtain ⟨v1,v2,v3,v4⟩:=vB_bd hv
  unfold fracT
  split
  ·have:=pos (-t).toNat b.toNat (by omega)
   simp [this,h1]
  ·exact pos t.toNat b.toNat (by omega)
 ·simp
def Tight (l:List UInt8):Prop:=l≠[]∧l.head? ≠some 32∧l.getLast? ≠some 32
theorem tight_no {l:List UInt8} (h:l≠[]) (h32:(32:UInt8)∉l):Tight l:=
 ⟨h,fun k=>h32 (List.mem_of_head? k),fun k=>h32 (List.mem_of_getLast? k)⟩
theorem tight_ends {a m b:List UInt8} (ha:Tight a) (hb:Tight b):Tight (a++(m++b)):=by
 refine ⟨by simp [ha.1], ?_, ?_⟩
 ·cases a with
  |nil=>exact absurd rfl ha.1
  |cons x a=>exact ha.2.1
 ·rw [←List.append_assoc,List.getLast?_append]
  cases h:b.getLast? with
  |none=>exact absurd (List.getLast?_eq_none_iff.mp h) hb.1
  |some z=>have:=hb.2.2;rw [h] at this;exact this
def Calm (l:List UInt8):Prop:=rn 0 l=some 0∧Tight l
theorem calm_plain {l:List UInt8} (h:l≠[]) (h1: ∀b∈l,b≠34∧b≠35∧b≠32):Calm l:=
 ⟨rn_plain l fun b hb=>⟨(h1 b hb).1,(h1 b hb).2.1⟩,tight_no h fun k=>(h1 32 k).2.2 rfl⟩
theorem calm_app {a b:List UInt8} (ha:Calm a) (hb:Calm b) (m:List UInt8) (hm: ∀b∈m,b≠34∧b≠35):Calm (a++(m++b)):=
 ⟨by rw [rn_app,ha.1];show rn 0 (m++b)=_;rw [rn_app,rn_plain m hm];exact hb.1,tight_ends ha.2 hb.2⟩
theorem calm_quote (l:List UInt8):Calm (quoteL l):=by
 refine ⟨rn_quoteL l,by simp [quoteL],by simp [quoteL], ?_⟩
 unfold quoteL
 rw [←List.cons_append,List.getLast?_concat];decide
theorem calm_parT {x:Pt} (h:Calm x.2) (r:Int):Calm (parT r x):=by
 unfold parT
 split
 ·have h1:Calm ([40]:List UInt8):=calm_plain (by decide) (by decide)
  have h2:Calm ([41]:List UInt8):=calm_plain (by decide) (by decide)
  have:=calm_app (calm_app h1 h [] (by simp)) h2 [] (by simp)
  simpa using this
 ·exact h
theorem rn_join: ∀(xs:List Pt),(∀x∈xs,Calm x.2)→rn 0 (joinT xs)=some 0:=by
 have tail: ∀(xs:List Pt),(∀x∈xs,Calm x.2)→rn 0 (tailT xs)=some 0:=by
  intro xs
  induction xs with
  |nil=>intro _;rfl
  |cons x xs ih=>
   intro h
   have e:tailT (x::xs)=[44,32]++(x.2++tailT xs):=by simp [tailT]
   rw [e,rn_app,rn_plain [44,32] (by decide)]
   show rn 0 (x.2++tailT xs)=_
   rw [rn_app,(h x (List.mem_cons_self ..)).1]
   exact ih fun y hy=>h y (List.mem_cons_of_mem _ hy)
 intro xs h
 cases xs with
 |nil=>rfl
 |cons x xs=>
  rw [joinT,rn_app,(h x (List.mem_cons_self ..)).1]
  exact tail xs fun y hy=>h y (List.mem_cons_of_mem _ hy)
theorem nm_quiet {l:List UInt8} (h: ∀c∈l,nmI (c.toNat:Int)=true): ∀b∈l,b≠34∧b≠35∧b≠32:=by
 intro b hb
 have:=h b hb
 refine ⟨?_, ?_, ?_⟩<;>rintro rfl<;>exact absurd this (by decide)
theorem rank_quiet {l:List UInt8} (h:0<rankL l): ∀b∈[32]++l++[32],b≠34∧b≠35:=by
 have key: ∀{p:Prop} [Decidable p] {a b:Int} {Q:Prop},(p→Q)→(0<b→Q)→0<(if p then a else b)→Q:=by
  intro p _ a b Q ha hb h
  by_cases k:p
  ·exact ha k
  ·rw [if_neg k] at h;exact hb h
 revert h
 unfold rankL
 iterate 13 (refine key (by rintro rfl;decide) ?_)
 exact fun h=>absurd h (by decide)
theorem calm_bare {c:Cl} (hc:okC c=true) {ks:List Pt} (hk: ∀x∈ks,Calm x.2) (hlen:ks.length=c.2.2.toNat):Calm (bareT c ks):=by
 have hcc:=hc
 rw [okC,cellB,Bool.and_eq_true] at hcc
 obtain ⟨hw,hm⟩:=hcc
 have hat: ∀i,i<ks.length→Calm (ptAt ks i).2:=by
  intro i hi
  have:ptAt ks i=ks[i]:=by unfold ptAt;rw [List.getD_eq_getElem?_getD,List.getElem?_eq_getElem hi];rfl
  rw [this];exact hk _ (List.getElem_mem hi)
 unfold bareT
 by_cases h2:c.1=2
 ·rw [if_pos h2];exact calm_quote _
 rw [if_neg h2]
 by_cases h5:c.1=5
 ·rw [if_pos h5]
  refine ⟨?_,by simp,by simp, ?_⟩
  ·show rn 0 (joinT ks++[93])=_
   rw [rn_app,rn_join ks hk];rfl
  ·rw [←List.cons_append,List.getLast?_concat];decide
 rw [if_neg h5]
 by_cases h6:c.1=6
 ·rw [if_pos h6]
  rw [wordB,if_neg (by omega),if_neg h2,if_neg (by omega),if_neg (by omega),if_neg h5,if_pos h6,Bool.and_eq_true] at hw
  obtain ⟨b,t,e,hb,ht,-⟩:=name_word hw.1
  have hall: ∀x∈c.2.1.data.toList,nmI (x.toNat:Int)=true:=by
   have hw1:=hw.1
   unfold nameL at hw1
   rw [Bool.and_eq_true] at hw1
   exact name_in _ 0 hw1.1
  have hcn:=calm_plain (by rw [e];simp) (nm_quiet hall)
  refine ⟨?_,by simp, ?_, ?_⟩
  ·rw [rn_app,hcn.1]
   show rn 0 (joinT ks++[41])=_
   rw [rn_app,rn_join ks hk];rfl
  ·rw [e];have:=hcn.2.2.1;rw [e] at this;exact this
  ·rw [←List.cons_append,←List.append_assoc,List.getLast?_concat];decide
 rw [if_neg h6]
 by_cases h7:c.1=7
 ·rw [if_pos h7]
  rw [wordB,if_neg (by omega),if_neg h2,if_neg (by omega),if_neg (by omega),if_neg h5,if_neg h6,if_pos h7,Bool.or_eq_true,beq_iff_eq,beq_iff_eq] at hw
  rw [manyB,if_neg (by omega),if_neg (by omega),if_pos h7,beq_iff_eq] at hm
  have hcw:Calm c.2.1.data.toList:=by
   rcases hw with e|e<;>rw [e]<;>exact calm_plain (by decide) (by decide)
  have:=calm_app hcw (calm_parT (hat 0 (by omega)) 7) [] (by simp)
  simpa using this
 rw [if_neg h7]
 by_cases h8:c.1=8
 ·rw [if_pos h8]
  rw [wordB,if_neg (by omega),if_neg h2,if_neg (by omega),if_neg (by omega),if_neg h5,if_neg h6,if_neg h7,if_pos h8,decide_eq_true_eq] at hw
  rw [manyB,if_neg (by omega),if_neg (by omega),if_neg h7,if_pos h8,beq_iff_eq] at hm
  have hpl:=rank_quiet hw
  rw [List.append_assoc]
  exact calm_app (calm_parT (hat 0 (by omega)) _) (calm_parT (hat 1 (by omega)) _) _ hpl
 rw [if_neg h8]
 by_cases h9:c.1=9
 ·rw [if_pos h9]
  rw [manyB,if_neg (by omega),if_neg (by omega),if_neg h7,if_neg h8,if_pos h9,beq_iff_eq] at hm
  have a:=calm_app (calm_parT (hat 0 (by omega)) 2) (hat 1 (by omega)) [32,63,32] (by decide)
  have b:=calm_app a (hat 2 (by omega)) [32,58,32] (by decide)
  simpa using b
 rw [if_neg h9]
 have hk:c.1=1∨c.1=3∨c.1=4:=by
  unfold manyB at hm
  repeat' split at hm
  all_goals first|omega|(cases hm)
 rcases hk with k|k|k
 ·rw [wordB,if_pos k,numB,Bool.and_eq_true] at hw
  have e:=rd_text _ hw.1
  refine calm_plain ?_ ?_
  ·intro h
   obtain h0:c.2.1=⟨#[]⟩:=ByteArray.ext (by simpa using h)
   rw [h0] at hw;exact absurd hw.1 (by decide)
  ·intro b hb
   rw [←e] at hb
   refine ⟨?_, ?_, ?_⟩<;>rintro rfl<;>exact text_noC (by decide) (by decide) (by decide) (by decide) _ _ hb
 ·rw [wordB,if_neg (by omega),if_neg h2,if_pos k,Bool.or_eq_true,beq_iff_eq,beq_iff_eq] at hw
  rcases hw with e|e<;>rw [e]<;>exact calm_plain (by decide) (by decide)
 ·rw [wordB,if_neg (by omega),if_neg h2,if_neg (by omega),if_pos k,Bool.and_eq_true] at hw
  obtain ⟨b,t,e,-⟩:=name_word hw.1
  have hw1:=hw.1
  unfold nameL at hw1
  rw [Bool.and_eq_true] at hw1
  exact calm_plain (by rw [e];simp) (nm_quiet (name_in _ 0 hw1.1))
theorem Tx.calm {l:List Cl} (hok:l.all okC=true) {n f t:Nat} {xs:List Pt} (h:Tx l n f t xs): ∀x∈xs,Calm x.2:=by
 induction h with
 |nil f=>intro x hx;cases hx
 | @cons f g n t c ks xs hc h1 h2 i1 i2=>
  intro x hx
  rcases List.mem_cons.mp hx with rfl|hx
  ·exact calm_bare (List.all_eq_true.mp hok c (List.mem_of_getElem? hc)) i1 h1.len
  ·exact i2 x hx
theorem textE_calm {l:List Cl} (hok:okE l=true):Calm (textE l):=by
 obtain ⟨x,hx⟩:=okE_tx hok
 rw [textE_of hok hx]
 exact hx.calm ((okE_iff l).mp hok).2.1 x (List.mem_singleton.mpr rfl)
end Go.Proofs.YtegdjjjpoahamaaGreatDoor
