/-
  spec.l10Binary where both values are numbers: + - * /.
-/
import Derived.Test.YthillfgjpalpcaaGreatDoorEvN
import Derived.Test.YthillfgjpalpcaaGreatDoorBaseB
set_option linter.unusedVariables false
set_option maxHeartbeats 4000000
set_option maxRecDepth 100000
namespace Go.Proofs.YthillfgjpalpcaaGreatDoor
open Go.RowKit
theorem signW_is {l:List UInt8} {k:Int} (h:signW l=k):(k=1→l=[61,61])∧(k=2→l=[33,61])∧(k=3→l=[43])∧(k=4→l=[45])∧(k=5→l=[42])∧(k=6→l=[47])∧(k=7→l=[37])∧(k=8→l=[60])∧(k=9→l=[60,61])∧(k=10→l=[62])∧(k=11→l=[62,61]):=by
 subst h
 unfold signW
 split<;>simp
theorem newCB_no {w w':World} {n:Nat} {r:List Cl} {b:Bool} (hb:Below w.heap.size w w') (hn:n=w'.heap.size) (hr:r=[]) (hbb:b=false):
  NewCB r b w (.returned (.tuple #[.slice (some ⟨n,0,none⟩) 0 0, .bool false])) (w'.alloc (.cells #[] 44)):=by
 subst hn;subst hr;subst hbb;exact NewCB.none _ _ hb
theorem numE_ok {l:List Cl} (h:okV l=true) (h1:kdV l=1):vB (aT l) (aB l)=true:=by
 exact rd_valid _ (num_read h h1).1
theorem bin_add (s:ByteArray) (a b:Value) (la lb:List Cl) (w:World) (hra:RowC w a la) (hrb:RowC w b lb) (ha:okV la=true) (hb:okV lb=true) (h1:kdV la=1) (h2:kdV lb=1) (hs:s.toList=[43]) (ok:Bool) (T B:Int)
  (hc: ∀w',Calls Tryz.prog 100 #[.agg #[.int .i64 (aT la), .int .i64 (aB la)], .agg #[.int .i64 (aT lb), .int .i64 (aB lb)]] w' fun e w''=>e=fr T B ok∧Below w'.heap.size w' w''):
  Calls Tryz.prog 70 #[.string s,a,b] w (NewCB ((numO ok T B).getD []) (numO ok T B).isSome w):=by
 have HN:=zz (numbers_yes a b la lb w hra hrb ha hb h1 h2)
 have HC:=zz hc;clear hc
 obtain ⟨b1,o1,c1,rfl,hl1,p0,p1,-⟩:=hra.headE (okV_len ha).1
 obtain ⟨b2,o2,c2,rfl,hl2,q0,q1,-⟩:=hrb.headE (okV_len hb).1
 have hp1:(0:Int)<(la.length:Int):=by have:=(okV_len ha).1;omega
 have hp2:(0:Int)<(lb.length:Int):=by have:=(okV_len hb).1;omega
 rw [h1] at p0;rw [h2] at q0
 have e1: ¬s.toList=[61,61]:=by rw [hs];decide
 have e2: ¬s.toList=[33,61]:=by rw [hs];decide
 have e3: ¬s.toList=[45]:=by rw [hs];decide
 have e4: ¬s.toList=[42]:=by rw [hs];decide
 have e5: ¬s.toList=[47]:=by rw [hs];decide
 have e6: ¬s.toList=[37]:=by rw [hs];decide
 have e7: ¬s.toList=[60]:=by rw [hs];decide
 have e8: ¬s.toList=[60,61]:=by rw [hs];decide
 have e9: ¬s.toList=[62]:=by rw [hs];decide
 have e10: ¬s.toList=[62,61]:=by rw [hs];decide
 clear hra hrb ha hb h1 h2
 generalize la.length=n1 at hp1 HN
 generalize lb.length=n2 at hp2 HN
 generalize aT la=xt at HN HC
 generalize aB la=xb at HN HC
 generalize aT lb=yt at HN HC
 generalize aB lb=yb at HN HC
 go_enter Tryz.func70,Tryz.ntmps70
 go_wp2_with fail
 refine HN.out.mono ?_
 rintro e w1 ⟨rfl,hb1⟩
 have HB1:=zz hb1
 have hw1:=hb1.size
 clear hb1 p0 p1 q0 q1
 go_wp2_with fail
 refine (HC.out _).mono ?_
 rintro e w2 ⟨rfl,hb2⟩
 have hz2:=hb2.size
 have hw2:w1.heap.size+3≤w2.heap.size:=by simpa using hz2
 obtain ⟨z0,z1,z2,z3,z4⟩:Fr2 w2 (w1.heap.size+1+1) 0 0:=by
  have:=(Fr2.new ((w1.alloc (.cells #[.int .i64 xt, .int .i64 xb] 94)).alloc (.cells #[.int .i64 yt, .int .i64 yb] 94)) 0 0 94).keep hb2
  simpa using this
 have HB2:=zz (show Below w.heap.size w w2 from (((HB1.out.alloc hw1 (.cells #[.int .i64 xt, .int .i64 xb] 94)).alloc (by simp;omega) (.cells #[.int .i64 yt, .int .i64 yb] 94)).alloc (by simp;omega) (.cells #[.int .i64 0, .int .i64 0] 94)).trans (hb2.mono (by simp;omega)))
 have HB2a:=zz ((HB2.out.setCell (p:=⟨w1.heap.size+1+1,0,none⟩) (by show w.heap.size≤w1.heap.size+1+1;omega) (.int .i64 T)).setCell (p:=⟨w1.heap.size+1+1,1,none⟩) (by show w.heap.size≤w1.heap.size+1+1;omega) (.int .i64 B))
 clear hb2 z4
 cases ok with
 |false=>
  go_wp2
  exact bodyPost_ret (v:= .tuple #[.slice (some ⟨w2.heap.size,0,none⟩) 0 0, .bool false]) (by simp [results,Tryz.results70,go_sem]) rfl (newCB_no HB2a.out (by simp) rfl rfl)
 |true=>
  go_wp2_with fail
  refine (l9Number_any T B _).mono ?_
  rintro e w4 ⟨u,rfl,hown,hb4⟩
  have HO:=zz (own_base (base':=w.heap.size) hown (fun g hg=>Nat.le_trans HB2a.out.size (hown.lt g hg).1))
  have HB4:=zz (HB2a.out.trans (hb4.mono HB2a.out.size))
  clear hown hb4
  go_wp2
  exact bodyPost_ret (v:= .tuple #[u, .bool true]) (by simp [results,Tryz.results70,go_sem]) rfl ⟨u,rfl,HO.out,HB4.out⟩
theorem bin_mul (s:ByteArray) (a b:Value) (la lb:List Cl) (w:World) (hra:RowC w a la) (hrb:RowC w b lb) (ha:okV la=true) (hb:okV lb=true) (h1:kdV la=1) (h2:kdV lb=1) (hs:s.toList=[42]) (ok:Bool) (T B:Int)
  (hc: ∀w',Calls Tryz.prog 101 #[.agg #[.int .i64 (aT la), .int .i64 (aB la)], .agg #[.int .i64 (aT lb), .int .i64 (aB lb)]] w' fun e w''=>e=fr T B ok∧Below w'.heap.size w' w''):
  Calls Tryz.prog 70 #[.string s,a,b] w (NewCB ((numO ok T B).getD []) (numO ok T B).isSome w):=by
 have HN:=zz (numbers_yes a b la lb w hra hrb ha hb h1 h2)
 have HC:=zz hc;clear hc
 obtain ⟨b1,o1,c1,rfl,hl1,p0,p1,-⟩:=hra.headE (okV_len ha).1
 obtain ⟨b2,o2,c2,rfl,hl2,q0,q1,-⟩:=hrb.headE (okV_len hb).1
 have hp1:(0:Int)<(la.length:Int):=by have:=(okV_len ha).1;omega
 have hp2:(0:Int)<(lb.length:Int):=by have:=(okV_len hb).1;omega
 rw [h1] at p0;rw [h2] at q0
 have e1: ¬s.toList=[61,61]:=by rw [hs];decide
 have e2: ¬s.toList=[33,61]:=by rw [hs];decide
 have e3: ¬s.toList=[43]:=by rw [hs];decide
 have e4: ¬s.toList=[45]:=by rw [hs];decide
 have e5: ¬s.toList=[47]:=by rw [hs];decide
 have e6: ¬s.toList=[37]:=by rw [hs];decide
 have e7: ¬s.toList=[60]:=by rw [hs];decide
 have e8: ¬s.toList=[60,61]:=by rw [hs];decide
 have e9: ¬s.toList=[62]:=by rw [hs];decide
 have e10: ¬s.toList=[62,61]:=by rw [hs];decide
 clear hra hrb ha hb h1 h2
 generalize la.length=n1 at hp1 HN
 generalize lb.length=n2 at hp2 HN
 generalize aT la=xt at HN HC
 generalize aB la=xb at HN HC
 generalize aT lb=yt at HN HC
 generalize aB lb=yb at HN HC
 go_enter Tryz.func70,Tryz.ntmps70
 go_wp2_with fail
 refine HN.out.mono ?_
 rintro e w1 ⟨rfl,hb1⟩
 have HB1:=zz hb1
 have hw1:=hb1.size
 clear hb1 p0 p1 q0 q1
 go_wp2_with fail
 refine (HC.out _).mono ?_
 rintro e w2 ⟨rfl,hb2⟩
 have hz2:=hb2.size
 have hw2:w1.heap.size+3≤w2.heap.size:=by simpa using hz2
 obtain ⟨z0,z1,z2,z3,z4⟩:Fr2 w2 (w1.heap.size+1+1) 0 0:=by
  have:=(Fr2.new ((w1.alloc (.cells #[.int .i64 xt, .int .i64 xb] 94)).alloc (.cells #[.int .i64 yt, .int .i64 yb] 94)) 0 0 94).keep hb2
  simpa using this
 have HB2:=zz (show Below w.heap.size w w2 from (((HB1.out.alloc hw1 (.cells #[.int .i64 xt, .int .i64 xb] 94)).alloc (by simp;omega) (.cells #[.int .i64 yt, .int .i64 yb] 94)).alloc (by simp;omega) (.cells #[.int .i64 0, .int .i64 0] 94)).trans (hb2.mono (by simp;omega)))
 have HB2a:=zz ((HB2.out.setCell (p:=⟨w1.heap.size+1+1,0,none⟩) (by show w.heap.size≤w1.heap.size+1+1;omega) (.int .i64 T)).setCell (p:=⟨w1.heap.size+1+1,1,none⟩) (by show w.heap.size≤w1.heap.size+1+1;omega) (.int .i64 B))
 clear hb2 z4
 cases ok with
 |false=>
  go_wp2
  exact bodyPost_ret (v:= .tuple #[.slice (some ⟨w2.heap.size,0,none⟩) 0 0, .bool false]) (by simp [results,Tryz.results70,go_sem]) rfl (newCB_no HB2a.out (by simp) rfl rfl)
 |true=>
  go_wp2_with fail
  refine (l9Number_any T B _).mono ?_
  rintro e w4 ⟨u,rfl,hown,hb4⟩
  have HO:=zz (own_base (base':=w.heap.size) hown (fun g hg=>Nat.le_trans HB2a.out.size (hown.lt g hg).1))
  have HB4:=zz (HB2a.out.trans (hb4.mono HB2a.out.size))
  clear hown hb4
  go_wp2
  exact bodyPost_ret (v:= .tuple #[u, .bool true]) (by simp [results,Tryz.results70,go_sem]) rfl ⟨u,rfl,HO.out,HB4.out⟩
theorem bin_div (s:ByteArray) (a b:Value) (la lb:List Cl) (w:World) (hra:RowC w a la) (hrb:RowC w b lb) (ha:okV la=true) (hb:okV lb=true) (h1:kdV la=1) (h2:kdV lb=1) (hs:s.toList=[47]) (ok:Bool) (T B:Int)
  (hc: ∀w',Calls Tryz.prog 102 #[.agg #[.int .i64 (aT la), .int .i64 (aB la)], .agg #[.int .i64 (aT lb), .int .i64 (aB lb)]] w' fun e w''=>e=fr T B ok∧Below w'.heap.size w' w''):
  Calls Tryz.prog 70 #[.string s,a,b] w (NewCB ((numO ok T B).getD []) (numO ok T B).isSome w):=by
 have HN:=zz (numbers_yes a b la lb w hra hrb ha hb h1 h2)
 have HC:=zz hc;clear hc
 obtain ⟨b1,o1,c1,rfl,hl1,p0,p1,-⟩:=hra.headE (okV_len ha).1
 obtain ⟨b2,o2,c2,rfl,hl2,q0,q1,-⟩:=hrb.headE (okV_len hb).1
 have hp1:(0:Int)<(la.length:Int):=by have:=(okV_len ha).1;omega
 have hp2:(0:Int)<(lb.length:Int):=by have:=(okV_len hb).1;omega
 rw [h1] at p0;rw [h2] at q0
 have e1: ¬s.toList=[61,61]:=by rw [hs];decide
 have e2: ¬s.toList=[33,61]:=by rw [hs];decide
 have e3: ¬s.toList=[43]:=by rw [hs];decide
 have e4: ¬s.toList=[45]:=by rw [hs];decide
 have e5: ¬s.toList=[42]:=by rw [hs];decide
 have e6: ¬s.toList=[37]:=by rw [hs];decide
 have e7: ¬s.toList=[60]:=by rw [hs];decide
 have e8: ¬s.toList=[60,61]:=by rw [hs];decide
 have e9: ¬s.toList=[62]:=by rw [hs];decide
 have e10: ¬s.toList=[62,61]:=by rw [hs];decide
 clear hra hrb ha hb h1 h2
 generalize la.length=n1 at hp1 HN
 generalize lb.length=n2 at hp2 HN
 generalize aT la=xt at HN HC
 generalize aB la=xb at HN HC
 generalize aT lb=yt at HN HC
 generalize aB lb=yb at HN HC
 go_enter Tryz.func70,Tryz.ntmps70
 go_wp2_with fail
 refine HN.out.mono ?_
 rintro e w1 ⟨rfl,hb1⟩
 have HB1:=zz hb1
 have hw1:=hb1.size
 clear hb1 p0 p1 q0 q1
 go_wp2_with fail
 refine (HC.out _).mono ?_
 rintro e w2 ⟨rfl,hb2⟩
 have hz2:=hb2.size
 have hw2:w1.heap.size+3≤w2.heap.size:=by simpa using hz2
 obtain ⟨z0,z1,z2,z3,z4⟩:Fr2 w2 (w1.heap.size+1+1) 0 0:=by
  have:=(Fr2.new ((w1.alloc (.cells #[.int .i64 xt, .int .i64 xb] 94)).alloc (.cells #[.int .i64 yt, .int .i64 yb] 94)) 0 0 94).keep hb2
  simpa using this
 have HB2:=zz (show Below w.heap.size w w2 from (((HB1.out.alloc hw1 (.cells #[.int .i64 xt, .int .i64 xb] 94)).alloc (by simp;omega) (.cells #[.int .i64 yt, .int .i64 yb] 94)).alloc (by simp;omega) (.cells #[.int .i64 0, .int .i64 0] 94)).trans (hb2.mono (by simp;omega)))
 have HB2a:=zz ((HB2.out.setCell (p:=⟨w1.heap.size+1+1,0,none⟩) (by show w.heap.size≤w1.heap.size+1+1;omega) (.int .i64 T)).setCell (p:=⟨w1.heap.size+1+1,1,none⟩) (by show w.heap.size≤w1.heap.size+1+1;omega) (.int .i64 B))
 clear hb2 z4
 cases ok with
 |false=>
  go_wp2
  exact bodyPost_ret (v:= .tuple #[.slice (some ⟨w2.heap.size,0,none⟩) 0 0, .bool false]) (by simp [results,Tryz.results70,go_sem]) rfl (newCB_no HB2a.out (by simp) rfl rfl)
 |true=>
  go_wp2_with fail
  refine (l9Number_any T B _).mono ?_
  rintro e w4 ⟨u,rfl,hown,hb4⟩
  have HO:=zz (own_base (base':=w.heap.size) hown (fun g hg=>Nat.le_trans HB2a.out.size (hown.lt g hg).1))
  have HB4:=zz (HB2a.out.trans (hb4.mono HB2a.out.size))
  clear hown hb4
  go_wp2
  exact bodyPost_ret (v:= .tuple #[u, .bool true]) (by simp [results,Tryz.results70,go_sem]) rfl ⟨u,rfl,HO.out,HB4.out⟩
theorem bin_sub (s:ByteArray) (a b:Value) (la lb:List Cl) (w:World) (hra:RowC w a la) (hrb:RowC w b lb) (ha:okV la=true) (hb:okV lb=true) (h1:kdV la=1) (h2:kdV lb=1) (hs:s.toList=[45]) (ok:Bool) (T B:Int)
  (hc: ∀w',Calls Tryz.prog 100 #[.agg #[.int .i64 (aT la), .int .i64 (aB la)], .agg #[.int .i64 (-aT lb), .int .i64 (aB lb)]] w' fun e w''=>e=fr T B ok∧Below w'.heap.size w' w'') (hy1: -1000000000≤aT lb) (hy2:aT lb≤1000000000):
  Calls Tryz.prog 70 #[.string s,a,b] w (NewCB ((numO ok T B).getD []) (numO ok T B).isSome w):=by
 have HN:=zz (numbers_yes a b la lb w hra hrb ha hb h1 h2)
 have HC:=zz hc;clear hc
 obtain ⟨b1,o1,c1,rfl,hl1,p0,p1,-⟩:=hra.headE (okV_len ha).1
 obtain ⟨b2,o2,c2,rfl,hl2,q0,q1,-⟩:=hrb.headE (okV_len hb).1
 have hp1:(0:Int)<(la.length:Int):=by have:=(okV_len ha).1;omega
 have hp2:(0:Int)<(lb.length:Int):=by have:=(okV_len hb).1;omega
 rw [h1] at p0;rw [h2] at q0
 have e1: ¬s.toList=[61,61]:=by rw [hs];decide
 have e2: ¬s.toList=[33,61]:=by rw [hs];decide
 have e3: ¬s.toList=[43]:=by rw [hs];decide
 have e4: ¬s.toList=[42]:=by rw [hs];decide
 have e5: ¬s.toList=[47]:=by rw [hs];decide
 have e6: ¬s.toList=[37]:=by rw [hs];decide
 have e7: ¬s.toList=[60]:=by rw [hs];decide
 have e8: ¬s.toList=[60,61]:=by rw [hs];decide
 have e9: ¬s.toList=[62]:=by rw [hs];decide
 have e10: ¬s.toList=[62,61]:=by rw [hs];decide
 clear hra hrb ha hb h1 h2
 generalize la.length=n1 at hp1 HN
 generalize lb.length=n2 at hp2 HN
 generalize aT la=xt at HN HC
 generalize aB la=xb at HN HC
 generalize aT lb=yt at HN HC hy1 hy2
 generalize aB lb=yb at HN HC
 go_enter Tryz.func70,Tryz.ntmps70
 go_wp2_with fail
 refine HN.out.mono ?_
 rintro e w1 ⟨rfl,hb1⟩
 have HB1:=zz hb1
 have hw1:=hb1.size
 clear hb1 p0 p1 q0 q1
 go_wp2_with fail
 refine (HC.out _).mono ?_
 rintro e w2 ⟨rfl,hb2⟩
 have hz2:=hb2.size
 have hw2:w1.heap.size+3≤w2.heap.size:=by simpa using hz2
 obtain ⟨z0,z1,z2,z3,z4⟩:Fr2 w2 (w1.heap.size+1+1) 0 0:=by
  have:=(Fr2.new ((w1.alloc (.cells #[.int .i64 xt, .int .i64 xb] 94)).alloc (.cells #[.int .i64 yt, .int .i64 yb] 94)) 0 0 94).keep hb2
  simpa using this
 have HB2:=zz (show Below w.heap.size w w2 from (((HB1.out.alloc hw1 (.cells #[.int .i64 xt, .int .i64 xb] 94)).alloc (by simp;omega) (.cells #[.int .i64 yt, .int .i64 yb] 94)).alloc (by simp;omega) (.cells #[.int .i64 0, .int .i64 0] 94)).trans (hb2.mono (by simp;omega)))
 have HB2a:=zz ((HB2.out.setCell (p:=⟨w1.heap.size+1+1,0,none⟩) (by show w.heap.size≤w1.heap.size+1+1;omega) (.int .i64 T)).setCell (p:=⟨w1.heap.size+1+1,1,none⟩) (by show w.heap.size≤w1.heap.size+1+1;omega) (.int .i64 B))
 clear hb2 z4
 cases ok with
 |false=>
  go_wp2
  exact bodyPost_ret (v:= .tuple #[.slice (some ⟨w2.heap.size,0,none⟩) 0 0, .bool false]) (by simp [results,Tryz.results70,go_sem]) rfl (newCB_no HB2a.out (by simp) rfl rfl)
 |true=>
  go_wp2_with fail
  refine (l9Number_any T B _).mono ?_
  rintro e w4 ⟨u,rfl,hown,hb4⟩
  have HO:=zz (own_base (base':=w.heap.size) hown (fun g hg=>Nat.le_trans HB2a.out.size (hown.lt g hg).1))
  have HB4:=zz (HB2a.out.trans (hb4.mono HB2a.out.size))
  clear hown hb4
  go_wp2
  exact bodyPost_ret (v:= .tuple #[u, .bool true]) (by simp [results,Tryz.results70,go_sem]) rfl ⟨u,rfl,HO.out,HB4.out⟩
end Go.Proofs.YthillfgjpalpcaaGreatDoor
