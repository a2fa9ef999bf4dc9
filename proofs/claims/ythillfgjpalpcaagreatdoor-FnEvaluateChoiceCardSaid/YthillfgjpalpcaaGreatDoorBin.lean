/-
  spec.l10Binary, by its contract.
-/
import Derived.Test.YthillfgjpalpcaaGreatDoorBinC
import Derived.Test.YthillfgjpalpcaaGreatDoorBinM
import Derived.Test.YthillfgjpalpcaaGreatDoorBinT
import Derived.Test.YthillfgjpalpcaaGreatDoorGFs
set_option linter.unusedVariables false
namespace Go.Proofs.YthillfgjpalpcaaGreatDoor
open Go.RowKit
theorem cmpI_3 (x y:Int):cmpI x y= -1∨cmpI x y=0∨cmpI x y=1:=by
 unfold cmpI;split
 ·exact .inl rfl
 ·split
  ·exact .inr (.inr rfl)
  ·exact .inr (.inl rfl)
theorem binK_no {k:Int} {a b:List Cl} (hk:3≤k) (h:kdV a≠1∨kdV b≠1) (h2:k=3→ ¬(kdV a=2∧kdV b=2)∧ ¬(kdV a=5∧kdV b=5)):binK k a b=none:=by
 unfold binK
 rw [if_neg (by omega),if_neg (by omega),if_neg (fun q=>(h2 q.1).1 q.2),if_neg (fun q=>(h2 q.1).2 q.2),if_pos h]
theorem binK_num {k:Int} {a b:List Cl} (hk:3≤k) (h1:kdV a=1) (h2:kdV b=1):binK k a b=
  (if k=3 then numO (mkOK (aT a*aB b+aT b*aB a) (aB a*aB b)) (mkT (aT a*aB b+aT b*aB a) (aB a*aB b)) (mkB (aT a*aB b+aT b*aB a) (aB a*aB b))
 else if k=4 then numO (mkOK (aT a*aB b+ -aT b*aB a) (aB a*aB b)) (mkT (aT a*aB b+ -aT b*aB a) (aB a*aB b)) (mkB (aT a*aB b+ -aT b*aB a) (aB a*aB b))
 else if k=5 then numO (mkOK (aT a*aT b) (aB a*aB b)) (mkT (aT a*aT b) (aB a*aB b)) (mkB (aT a*aT b) (aB a*aB b))
 else if k=6 then numO (decide (aT b≠0)&&mkOK (divT (aT a) (aT b) (aB b)) (divB (aB a) (aT b))) (mkT (divT (aT a) (aT b) (aB b)) (divB (aB a) (aT b))) (mkB (divT (aT a) (aT b) (aB b)) (divB (aB a) (aT b)))
 else if k=7 then (if aB a=1∧aB b=1∧0<aT b then some (numV (aT a % aT b) 1) else none)
 else some (truV (decide (k=8∧cmpV a b<0∨k=9∧cmpV a b≤0∨k=10∧0<cmpV a b∨k=11∧0≤cmpV a b)))):=by
 unfold binK
 rw [if_neg (by omega),if_neg (by omega),if_neg (by omega),if_neg (by omega),if_neg (by omega)]
theorem vBE_neg {t b:Int} (h:vB t b=true):vB (-t) b=true:=by
 rw [vB_iff] at h⊢
 rw [Int.neg_gcd]
 omega
theorem binary_any (s:ByteArray) (a b:Value) (la lb:List Cl) (w:World) (hra:RowC w a la) (hrb:RowC w b lb) (ha:okV la=true) (hb:okV lb=true) (hs:1≤signW s.data.toList∧signW s.data.toList≤11):
  Calls Tryz.prog 70 #[.string s,a,b] w (NewCB ((binV s la lb).getD []) (binV s la lb).isSome w):=by
 have hl:s.toList=s.data.toList:=ByteArray.toList_eq ..
 unfold binV
 generalize hk:signW s.data.toList=k at hs
 obtain ⟨w1,w2,w3,w4,w5,w6,w7,w8,w9,w10,w11⟩:=signW_is hk
 by_cases k1:k=1
 ·subst k1
  rw [show binK 1 la lb=some (truV (decide (la=lb))) by unfold binK;rw [if_pos rfl]]
  exact bin_eq s a b la lb w hra hrb (hl.trans (w1 rfl))
 by_cases k2:k=2
 ·subst k2
  rw [show binK 2 la lb=some (truV (!decide (la=lb))) by unfold binK;rw [if_neg (by decide),if_pos rfl];simp]
  exact bin_ne s a b la lb w hra hrb (hl.trans (w2 rfl))
 have hk3:3≤k:=by omega
 by_cases hn:kdV la=1∧kdV lb=1
 ·obtain ⟨h1,h2⟩:=hn
  have v1:=numE_ok ha h1
  have v2:=numE_ok hb h2
  obtain ⟨x1,x2,x3,x4,-⟩:=(vB_iff _ _).mp v1
  obtain ⟨y1,y2,y3,y4,-⟩:=(vB_iff _ _).mp v2
  rw [binK_num hk3 h1 h2]
  by_cases k3:k=3
  ·subst k3
   rw [if_pos rfl]
   refine bin_add s a b la lb w hra hrb ha hb h1 h2 (hl.trans (w3 rfl)) _ _ _ (fun w'=> ?_)
   have:=add_spec (aT la) (aB la) (aT lb) (aB lb) w'
   rwa [v1,v2,Bool.true_and,(op_true _ _).1,(op_true _ _).2.1,(op_true _ _).2.2] at this
  by_cases k4:k=4
  ·subst k4
   rw [if_neg (by decide),if_pos rfl]
   refine bin_sub s a b la lb w hra hrb ha hb h1 h2 (hl.trans (w4 rfl)) _ _ _ (fun w'=> ?_) y1 y2
   have:=add_spec (aT la) (aB la) (-aT lb) (aB lb) w'
   rwa [v1,vBE_neg v2,Bool.true_and,(op_true _ _).1,(op_true _ _).2.1,(op_true _ _).2.2] at this
  by_cases k5:k=5
  ·subst k5
   rw [if_neg (by decide),if_neg (by decide),if_pos rfl]
   refine bin_mul s a b la lb w hra hrb ha hb h1 h2 (hl.trans (w5 rfl)) _ _ _ (fun w'=> ?_)
   have:=mul_spec (aT la) (aB la) (aT lb) (aB lb) w'
   rwa [v1,v2,Bool.true_and,(op_true _ _).1,(op_true _ _).2.1,(op_true _ _).2.2] at this
  by_cases k6:k=6
  ·subst k6
   rw [if_neg (by decide),if_neg (by decide),if_neg (by decide),if_pos rfl]
   by_cases h0:aT lb=0
   ·rw [show numO (decide (aT lb≠0)&&mkOK (divT (aT la) (aT lb) (aB lb)) (divB (aB la) (aT lb))) (mkT (divT (aT la) (aT lb) (aB lb)) (divB (aB la) (aT lb))) (mkB (divT (aT la) (aT lb) (aB lb)) (divB (aB la) (aT lb)))=numO false 0 0 by rw [decide_eq_false (by omega)];rfl]
    refine bin_div s a b la lb w hra hrb ha hb h1 h2 (hl.trans (w6 rfl)) _ _ _ (fun w'=> ?_)
    have:=div_spec (aT la) (aB la) (aT lb) (aB lb) w'
    rwa [v1,v2,show (aT lb !=0)=false by rw [h0];rfl,Bool.and_false,(op_false _ _).1,(op_false _ _).2.1,(op_false _ _).2.2] at this
   ·rw [decide_eq_true h0,Bool.true_and]
    refine bin_div s a b la lb w hra hrb ha hb h1 h2 (hl.trans (w6 rfl)) _ _ _ (fun w'=> ?_)
    have:=div_spec (aT la) (aB la) (aT lb) (aB lb) w'
    rwa [v1,v2,show (aT lb !=0)=true from bne_iff_ne.mpr h0,Bool.and_true,Bool.and_true,(op_true _ _).1,(op_true _ _).2.1,(op_true _ _).2.2] at this
  by_cases k7:k=7
  ·subst k7
   rw [if_neg (by decide),if_neg (by decide),if_neg (by decide),if_neg (by decide),if_pos rfl]
   by_cases q1:aB la=1
   ·by_cases q2:aB lb=1
    ·by_cases q3:0<aT lb
     ·rw [if_pos ⟨q1,q2,q3⟩]
      exact bin_modY s a b la lb w hra hrb ha hb h1 h2 (hl.trans (w7 rfl)) (beq_iff_eq.mpr q1) (beq_iff_eq.mpr q2) q3 x1 x2 y2
     ·rw [if_neg (fun q=>q3 q.2.2)]
      exact bin_modN3 s a b la lb w hra hrb ha hb h1 h2 (hl.trans (w7 rfl)) (beq_iff_eq.mpr q1) (beq_iff_eq.mpr q2) q3
    ·rw [if_neg (fun q=>q2 q.2.1)]
     exact bin_modN2 s a b la lb w hra hrb ha hb h1 h2 (hl.trans (w7 rfl)) (beq_iff_eq.mpr q1) (beq_false_of_ne q2)
   ·rw [if_neg (fun q=>q1 q.1)]
    exact bin_modN1 s a b la lb w hra hrb ha hb h1 h2 (hl.trans (w7 rfl)) (beq_false_of_ne q1)
  rw [if_neg k3,if_neg k4,if_neg k5,if_neg k6,if_neg k7]
  have hc: ∀w',Calls Tryz.prog 103 #[.agg #[.int .i64 (aT la), .int .i64 (aB la)], .agg #[.int .i64 (aT lb), .int .i64 (aB lb)]] w' fun e w''=>e= .returned (.int .i64 (cmpV la lb))∧Below w'.heap.size w' w'':=fun w'=>by
   have:=cmp_spec (aT la) (aB la) (aT lb) (aB lb) w'
   rwa [v1,v2] at this
  have h3:=cmpI_3 (aT la*aB lb) (aT lb*aB la)
  by_cases k8:k=8
  ·subst k8
   rw [show decide ((8:Int)=8∧cmpV la lb<0∨(8:Int)=9∧cmpV la lb≤0∨(8:Int)=10∧0<cmpV la lb∨(8:Int)=11∧0≤cmpV la lb)=decide (cmpV la lb<0) by simp]
   exact bin_lt s a b la lb w hra hrb ha hb h1 h2 (hl.trans (w8 rfl)) _ h3 hc
  by_cases k9:k=9
  ·subst k9
   rw [show decide ((9:Int)=8∧cmpV la lb<0∨(9:Int)=9∧cmpV la lb≤0∨(9:Int)=10∧0<cmpV la lb∨(9:Int)=11∧0≤cmpV la lb)=decide (cmpV la lb≤0) by simp]
   exact bin_le s a b la lb w hra hrb ha hb h1 h2 (hl.trans (w9 rfl)) _ h3 hc
  by_cases k10:k=10
  ·subst k10
   rw [show decide ((10:Int)=8∧cmpV la lb<0∨(10:Int)=9∧cmpV la lb≤0∨(10:Int)=10∧0<cmpV la lb∨(10:Int)=11∧0≤cmpV la lb)=decide (0<cmpV la lb) by simp]
   exact bin_gt s a b la lb w hra hrb ha hb h1 h2 (hl.trans (w10 rfl)) _ h3 hc
  obtain rfl:k=11:=by omega
  rw [show decide ((11:Int)=8∧cmpV la lb<0∨(11:Int)=9∧cmpV la lb≤0∨(11:Int)=10∧0<cmpV la lb∨(11:Int)=11∧0≤cmpV la lb)=decide (0≤cmpV la lb) by simp]
  exact bin_ge s a b la lb w hra hrb ha hb h1 h2 (hl.trans (w11 rfl)) _ h3 hc
 ·have hn':kdV la≠1∨kdV lb≠1:=by omega
  by_cases k3:k=3
  ·subst k3
   have hs3:=hl.trans (w3 rfl)
   by_cases ht:kdV la=2∧kdV lb=2
   ·rw [show binK 3 la lb=texO (wdV la++wdV lb) by unfold binK;rw [if_neg (by decide),if_neg (by decide),if_pos ⟨rfl,ht⟩]]
    exact bin_text s a b la lb w hra hrb ha hb ht.1 ht.2 hs3
   by_cases hl5:kdV la=5∧kdV lb=5
   ·rw [show binK 3 la lb=lisO (partsV la++partsV lb) by unfold binK;rw [if_neg (by decide),if_neg (by decide),if_neg (fun q=>ht q.2),if_pos ⟨rfl,hl5⟩]]
    exact bin_list s a b la lb w hra hrb ha hb hl5.1 hl5.2 hs3
   rw [binK_no (by decide) hn' (fun _=>⟨ht,hl5⟩)]
   by_cases g2:kdV la=2
   ·exact bin_none2 s a b la lb w hra hrb ha hb hn' hs3 g2 (beq_false_of_ne (fun q=>ht ⟨g2,q⟩))
   by_cases g5:kdV la=5
   ·exact bin_none5 s a b la lb w hra hrb ha hb hn' hs3 g5 (beq_false_of_ne (fun q=>hl5 ⟨g5,q⟩))
   exact bin_noneP s a b la lb w hra hrb ha hb hn' hs3 (beq_false_of_ne g2) (beq_false_of_ne g5)
  ·rw [binK_no hk3 hn' (fun q=>absurd q k3)]
   refine bin_noneO s a b la lb w hra hrb ha hb hn' ?_ ?_ ?_<;>
   ·intro e
    rw [hl] at e
    rw [e] at hk
    simp [signW] at hk
    omega
end Go.Proofs.YthillfgjpalpcaaGreatDoor
