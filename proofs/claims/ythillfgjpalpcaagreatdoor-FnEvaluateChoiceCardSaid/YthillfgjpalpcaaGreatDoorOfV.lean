/-
  impl's (Cell).ofValue, by its contract: which cells may stand in a value.
-/
import Derived.Test.YthillfgjpalpcaaGreatDoorBaseX
set_option linter.unusedVariables false
set_option maxHeartbeats 4000000
set_option maxRecDepth 100000
namespace Go.Proofs.YthillfgjpalpcaaGreatDoor
open Go.RowKit
theorem okVC_1 (s:ByteArray) (m:Int):okVC (1,s,m)=(rdOK s&&manyB 1 m):=by
 simp only [okVC,vC,plC,if_true,okC,cellB]
 rw [wordB_zero,Bool.true_and]
theorem okVC_2 (s:ByteArray) (m:Int):okVC (2,s,m)=cellB 2 s m:=by simp [okVC,vC,plC,okC]
theorem okVC_3 (s:ByteArray) (m:Int):okVC (3,s,m)=cellB 3 s m:=by simp [okVC,vC,plC,okC]
theorem okVC_5 (s:ByteArray) (m:Int):okVC (5,s,m)=cellB 5 s m:=by simp [okVC,vC,plC,okC]
theorem okVC_no {k m:Int} {s:ByteArray} (h1:k≠1) (h2:k≠2) (h3:k≠3) (h5:k≠5):okVC (k,s,m)=false:=by
 simp [okVC,vC,h1,h2,h3,h5]
theorem ofValue_1 (m:Int) (s:ByteArray) (w:World) (hs:s.size≤1048576) (htab:Tab w):
  Calls Tryz.prog 63 #[.agg #[.int .i64 1, .string s, .int .i64 m]] w fun e w'=>e= .returned (.bool (okVC (1,s,m)))∧Below w.heap.size w w':=by
 rw [okVC_1]
 have ci:=fun w' (ht:Tab w')=>readFraction_impl s w' (by omega) ht
 generalize rdT s=T at ci
 generalize rdB s=B at ci
 cases ho:rdOK s with
 |true=>
  rw [ho] at ci
  rw [Bool.true_and]
  have CI:=zz ci;clear ci ho
  go_enter Tryz.func63,Tryz.ntmps63
  go_wp2_with fail
  refine (CI.out _ (htab.al _)).mono ?_
  rintro e w1 ⟨rfl,hb1⟩
  obtain ⟨d0,d1,d2⟩:=boxed (hb1.alloc hb1.size (.cells #[.int .i64 T, .int .i64 B] 94))
  have B1:=zz (((Below.refl w.heap.size w).alloc (Nat.le_refl _) _).trans ((hb1.alloc hb1.size (.cells #[.int .i64 T, .int .i64 B] 94)).mono (by simp)));clear hb1
  go_wp2_with fail
  refine (partsFit_any 1 m s _).mono ?_
  rintro e w2 ⟨rfl,hb2⟩
  have B2:=zz (B1.out.trans (hb2.mono B1.out.size));clear hb2
  go_wp2
  go_ret
  exact ⟨rfl,B2.out⟩
 |false=>
  rw [ho] at ci
  rw [Bool.false_and]
  have CI:=zz ci;clear ci ho
  go_enter Tryz.func63,Tryz.ntmps63
  go_wp2_with fail
  refine (CI.out _ (htab.al _)).mono ?_
  rintro e w1 ⟨rfl,hb1⟩
  have B1:=zz (((Below.refl w.heap.size w).alloc (Nat.le_refl _) _).trans ((hb1.alloc hb1.size (.cells #[.int .i64 T, .int .i64 B] 94)).mono (by simp)));clear hb1
  go_wp2
  go_ret
  exact ⟨rfl,B1.out⟩
theorem ofValue_2 (m:Int) (s:ByteArray) (w:World) (hs:s.size≤1048576) (htab:Tab w):
  Calls Tryz.prog 63 #[.agg #[.int .i64 2, .string s, .int .i64 m]] w fun e w'=>e= .returned (.bool (okVC (2,s,m)))∧Below w.heap.size w w':=by
 rw [okVC_2]
 have hs':s.size≤maxLen:=by unfold maxLen;omega
 go_enter Tryz.func63,Tryz.ntmps63
 go_wp2_with fail
 refine (cellValid_impl 2 m s _ hs' (htab.al _)).mono ?_
 rintro e w1 ⟨rfl,hb1⟩
 have B1:=zz (((Below.refl w.heap.size w).alloc (Nat.le_refl _) _).trans (hb1.mono (by simp)));clear hb1
 go_wp2
 go_ret
 exact ⟨rfl,B1.out⟩
theorem ofValue_3 (m:Int) (s:ByteArray) (w:World) (hs:s.size≤1048576) (htab:Tab w):
  Calls Tryz.prog 63 #[.agg #[.int .i64 3, .string s, .int .i64 m]] w fun e w'=>e= .returned (.bool (okVC (3,s,m)))∧Below w.heap.size w w':=by
 rw [okVC_3]
 have hs':s.size≤maxLen:=by unfold maxLen;omega
 go_enter Tryz.func63,Tryz.ntmps63
 go_wp2_with fail
 refine (cellValid_impl 3 m s _ hs' (htab.al _)).mono ?_
 rintro e w1 ⟨rfl,hb1⟩
 have B1:=zz (((Below.refl w.heap.size w).alloc (Nat.le_refl _) _).trans (hb1.mono (by simp)));clear hb1
 go_wp2
 go_ret
 exact ⟨rfl,B1.out⟩
theorem ofValue_5 (m:Int) (s:ByteArray) (w:World) (hs:s.size≤1048576) (htab:Tab w):
  Calls Tryz.prog 63 #[.agg #[.int .i64 5, .string s, .int .i64 m]] w fun e w'=>e= .returned (.bool (okVC (5,s,m)))∧Below w.heap.size w w':=by
 rw [okVC_5]
 have hs':s.size≤maxLen:=by unfold maxLen;omega
 go_enter Tryz.func63,Tryz.ntmps63
 go_wp2_with fail
 refine (cellValid_impl 5 m s _ hs' (htab.al _)).mono ?_
 rintro e w1 ⟨rfl,hb1⟩
 have B1:=zz (((Below.refl w.heap.size w).alloc (Nat.le_refl _) _).trans (hb1.mono (by simp)));clear hb1
 go_wp2
 go_ret
 exact ⟨rfl,B1.out⟩
theorem ofValue_no (k m:Int) (s:ByteArray) (w:World) (h1:k≠1) (h2:k≠2) (h3:k≠3) (h5:k≠5):
  Calls Tryz.prog 63 #[.agg #[.int .i64 k, .string s, .int .i64 m]] w fun e w'=>e= .returned (.bool (okVC (k,s,m)))∧Below w.heap.size w w':=by
 rw [okVC_no h1 h2 h3 h5]
 have n1:(k==1)=false:=beq_eq_false_iff_ne.mpr h1
 have n2:(k==2)=false:=beq_eq_false_iff_ne.mpr h2
 have n3:(k==3)=false:=beq_eq_false_iff_ne.mpr h3
 have n5:(k==5)=false:=beq_eq_false_iff_ne.mpr h5
 clear h1 h2 h3 h5
 go_enter Tryz.func63,Tryz.ntmps63
 go_wp2
 go_ret
 exact ⟨rfl,(Below.refl _ _).alloc (Nat.le_refl _) _⟩
theorem ofValue_asks:Asks 63 okVC 1048576:=by
 intro k m s w hs ht
 by_cases h1:k=1
 ·subst h1;exact ofValue_1 m s w hs ht
 by_cases h2:k=2
 ·subst h2;exact ofValue_2 m s w hs ht
 by_cases h3:k=3
 ·subst h3;exact ofValue_3 m s w hs ht
 by_cases h5:k=5
 ·subst h5;exact ofValue_5 m s w hs ht
 exact ofValue_no k m s w h1 h2 h3 h5
theorem okP_V (l:List Cl):okP okVC l=okV l:=by
 rw [Bool.eq_iff_iff,okP_iff,okV_iff]
theorem enter_ofValue: ∀args w,(callFunc 63 args).run Tryz.prog w= .ok (.enter 63 args) w:=enters_of Tryz.func63 (by kernel_rfl) rfl
theorem valueTree_any (v:Value) (l:List Cl) (w:World) (hr:RowC w v l) (hz:ShortC l) (htab:Tab w):
  Calls Tryz.prog 62 #[v, .func (.func 63) #[] #[]] w (TreeP okVC l w):=
 cellTree_any _ okVC 1048576 enter_ofValue ofValue_asks (fun c h=>okW_M (okVC_W h)) v l w hr hz htab
theorem valueValid_impl (v:Value) (l:List Cl) (w:World) (hr:RowC w v l) (hz:ShortC l) (htab:Tab w):
  Calls Tryz.prog 28 #[v] w fun e w'=>e= .returned (.bool (okV l))∧Below w.heap.size w w':=by
 have HC:=zz (valueTree_any v l w hr hz htab)
 obtain ⟨ao,cap,rfl,h1,h2,h3⟩:=hr
 unfold maxLen at h2
 clear h3 hz
 go_enter Tryz.func28,Tryz.ntmps28
 go_wp2_with fail
 refine HC.out.mono ?_
 rintro e w1 ⟨hb1,⟨N,d,rfl,hok,hd,ht⟩|⟨rfl,hno⟩⟩
 ·rw [okP_V] at hok
  have HOK:=zz hok;have HB:=zz hb1
  clear hok hb1 ht
  go_wp2
  go_ret
  exact ⟨ret_b HOK.out.symm,HB.out⟩
 ·rw [okP_V] at hno
  have HOK:=zz hno;have HB:=zz hb1
  clear hno hb1
  go_wp2
  go_ret
  exact ⟨ret_b HOK.out.symm,HB.out⟩
end Go.Proofs.YthillfgjpalpcaaGreatDoor
