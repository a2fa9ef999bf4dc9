/-
  spec.l10Binary where both values are numbers: < <= > >=.
-/
import Derived.Test.YthillfgjpalpcaaGreatDoorBinN
set_option linter.unusedVariables false
set_option maxHeartbeats 4000000
set_option maxRecDepth 100000
namespace Go.Proofs.YthillfgjpalpcaaGreatDoor
open Go.RowKit
theorem bin_lt (s:ByteArray) (a b:Value) (la lb:List Cl) (w:World) (hra:RowC w a la) (hrb:RowC w b lb) (ha:okV la=true) (hb:okV lb=true) (h1:kdV la=1) (h2:kdV lb=1) (hs:s.toList=[60]) (c:Int) (h3:c= -1∨c=0∨c=1)
  (hc: ∀w',Calls Tryz.prog 103 #[.agg #[.int .i64 (aT la), .int .i64 (aB la)], .agg #[.int .i64 (aT lb), .int .i64 (aB lb)]] w' fun e w''=>e= .returned (.int .i64 c)∧Below w'.heap.size w' w''):
  Calls Tryz.prog 70 #[.string s,a,b] w (NewCB (truV (decide (c<0))) true w):=by
 have HN:=zz (numbers_yes a b la lb w hra hrb ha hb h1 h2)
 have HC:=zz hc;clear hc
 obtain ⟨b1,o1,c1,rfl,hl1,p0,p1,-⟩:=hra.headE (okV_len ha).1
 obtain ⟨b2,o2,c2,rfl,hl2,q0,q1,-⟩:=hrb.headE (okV_len hb).1
 have hp1:(0:Int)<(la.length:Int):=by have:=(okV_len ha).1;omega
 have hp2:(0:Int)<(lb.length:Int):=by have:=(okV_len hb).1;omega
 rw [h1] at p0;rw [h2] at q0
 have e1: ¬s.toList=[61,61]:=by rw [hs];decide
 have e2: ¬s.toList=[33,61]:=by rw [hs];decide
 have e3: ¬s.toList=[43]:=by rw [hs];decide
 have e4: ¬s.toList=[45]:=by rw [hs];decide
 have e5: ¬s.toList=[42]:=by rw [hs];decide
 have e6: ¬s.toList=[47]:=by rw [hs];decide
 have e7: ¬s.toList=[37]:=by rw [hs];decide
 have e8: ¬s.toList=[60,61]:=by rw [hs];decide
 have e9: ¬s.toList=[62]:=by rw [hs];decide
 have e10: ¬s.toList=[62,61]:=by rw [hs];decide
 clear hra hrb ha hb h1 h2
 generalize la.length=n1 at hp1 HN
 generalize lb.length=n2 at hp2 HN
 generalize aT la=xt at HN HC
 generalize aB la=xb at HN HC
 generalize aT lb=yt at HN HC
 generalize aB lb=yb at HN HC
 go_enter Tryz.func70,Tryz.ntmps70
 go_wp2_with fail
 refine HN.out.mono ?_
 rintro e w1 ⟨rfl,hb1⟩
 have HB1:=zz hb1
 have hw1:=hb1.size
 clear hb1 p0 p1 q0 q1
 go_wp2_with fail
 refine (HC.out _).mono ?_
 rintro e w2 ⟨rfl,hb2⟩
 have hz2:=hb2.size
 have hw2:w1.heap.size+3≤w2.heap.size:=by simpa using hz2
 have HB2:=zz (show Below w.heap.size w w2 from (((HB1.out.alloc hw1 (.cells #[.int .i64 xt, .int .i64 xb] 94)).alloc (by simp;omega) (.cells #[.int .i64 yt, .int .i64 yb] 94)).alloc (by simp;omega) (.cells #[.int .i64 0, .int .i64 0] 94)).trans (hb2.mono (by simp;omega)))
 clear hb2
 rcases h3 with rfl|rfl|rfl
 all_goals
  go_wp2_with fail
  refine (l9Truth_any _ _).mono ?_
  rintro e w4 ⟨u,rfl,hown,hb4⟩
  have HO:=zz (own_base (base':=w.heap.size) hown (fun g hg=>Nat.le_trans HB2.out.size (hown.lt g hg).1))
  have HB4:=zz (HB2.out.trans (hb4.mono HB2.out.size))
  clear hown hb4
  go_wp2
  exact bodyPost_ret (v:= .tuple #[u, .bool true]) (by simp [results,Tryz.results70,go_sem]) rfl ⟨u,rfl,HO.out,HB4.out⟩
theorem bin_le (s:ByteArray) (a b:Value) (la lb:List Cl) (w:World) (hra:RowC w a la) (hrb:RowC w b lb) (ha:okV la=true) (hb:okV lb=true) (h1:kdV la=1) (h2:kdV lb=1) (hs:s.toList=[60,61]) (c:Int) (h3:c= -1∨c=0∨c=1)
  (hc: ∀w',Calls Tryz.prog 103 #[.agg #[.int .i64 (aT la), .int .i64 (aB la)], .agg #[.int .i64 (aT lb), .int .i64 (aB lb)]] w' fun e w''=>e= .returned (.int .i64 c)∧Below w'.heap.size w' w''):
  Calls Tryz.prog 70 #[.string s,a,b] w (NewCB (truV (decide (c≤0))) true w):=by
 have HN:=zz (numbers_yes a b la lb w hra hrb ha hb h1 h2)
 have HC:=zz hc;clear hc
 obtain ⟨b1,o1,c1,rfl,hl1,p0,p1,-⟩:=hra.headE (okV_len ha).1
 obtain ⟨b2,o2,c2,rfl,hl2,q0,q1,-⟩:=hrb.headE (okV_len hb).1
 have hp1:(0:Int)<(la.length:Int):=by have:=(okV_len ha).1;omega
 have hp2:(0:Int)<(lb.length:Int):=by have:=(okV_len hb).1;omega
 rw [h1] at p0;rw [h2] at q0
 have e1: ¬s.toList=[61,61]:=by rw [hs];decide
 have e2: ¬s.toList=[33,61]:=by rw [hs];decide
 have e3: ¬s.toList=[43]:=by rw [hs];decide
 have e4: ¬s.toList=[45]:=by rw [hs];decide
 have e5: ¬s.toList=[42]:=by rw [hs];decide
 have e6: ¬s.toList=[47]:=by rw [hs];decide
 have e7: ¬s.toList=[37]:=by rw [hs];decide
 have e8: ¬s.toList=[60]:=by rw [hs];decide
 have e9: ¬s.toList=[62]:=by rw [hs];decide
 have e10: ¬s.toList=[62,61]:=by rw [hs];decide
 clear hra hrb ha hb h1 h2
 generalize la.length=n1 at hp1 HN
 generalize lb.length=n2 at hp2 HN
 generalize aT la=xt at HN HC
 generalize aB la=xb at HN HC
 generalize aT lb=yt at HN HC
 generalize aB lb=yb at HN HC
 go_enter Tryz.func70,Tryz.ntmps70
 go_wp2_with fail
 refine HN.out.mono ?_
 rintro e w1 ⟨rfl,hb1⟩
 have HB1:=zz hb1
 have hw1:=hb1.size
 clear hb1 p0 p1 q0 q1
 go_wp2_with fail
 refine (HC.out _).mono ?_
 rintro e w2 ⟨rfl,hb2⟩
 have hz2:=hb2.size
 have hw2:w1.heap.size+3≤w2.heap.size:=by simpa using hz2
 have HB2:=zz (show Below w.heap.size w w2 from (((HB1.out.alloc hw1 (.cells #[.int .i64 xt, .int .i64 xb] 94)).alloc (by simp;omega) (.cells #[.int .i64 yt, .int .i64 yb] 94)).alloc (by simp;omega) (.cells #[.int .i64 0, .int .i64 0] 94)).trans (hb2.mono (by simp;omega)))
 clear hb2
 rcases h3 with rfl|rfl|rfl
 all_goals
  go_wp2_with fail
  refine (l9Truth_any _ _).mono ?_
  rintro e w4 ⟨u,rfl,hown,hb4⟩
  have HO:=zz (own_base (base':=w.heap.size) hown (fun g hg=>Nat.le_trans HB2.out.size (hown.lt g hg).1))
  have HB4:=zz (HB2.out.trans (hb4.mono HB2.out.size))
  clear hown hb4
  go_wp2
  exact bodyPost_ret (v:= .tuple #[u, .bool true]) (by simp [results,Tryz.results70,go_sem]) rfl ⟨u,rfl,HO.out,HB4.out⟩
theorem bin_gt (s:ByteArray) (a b:Value) (la lb:List Cl) (w:World) (hra:RowC w a la) (hrb:RowC w b lb) (ha:okV la=true) (hb:okV lb=true) (h1:kdV la=1) (h2:kdV lb=1) (hs:s.toList=[62]) (c:Int) (h3:c= -1∨c=0∨c=1)
  (hc: ∀w',Calls Tryz.prog 103 #[.agg #[.int .i64 (aT la), .int .i64 (aB la)], .agg #[.int .i64 (aT lb), .int .i64 (aB lb)]] w' fun e w''=>e= .returned (.int .i64 c)∧Below w'.heap.size w' w''):
  Calls Tryz.prog 70 #[.string s,a,b] w (NewCB (truV (decide (0<c))) true w):=by
 have HN:=zz (numbers_yes a b la lb w hra hrb ha hb h1 h2)
 have HC:=zz hc;clear hc
 obtain ⟨b1,o1,c1,rfl,hl1,p0,p1,-⟩:=hra.headE (okV_len ha).1
 obtain ⟨b2,o2,c2,rfl,hl2,q0,q1,-⟩:=hrb.headE (okV_len hb).1
 have hp1:(0:Int)<(la.length:Int):=by have:=(okV_len ha).1;omega
 have hp2:(0:Int)<(lb.length:Int):=by have:=(okV_len hb).1;omega
 rw [h1] at p0;rw [h2] at q0
 have e1: ¬s.toList=[61,61]:=by rw [hs];decide
 have e2: ¬s.toList=[33,61]:=by rw [hs];decide
 have e3: ¬s.toList=[43]:=by rw [hs];decide
 have e4: ¬s.toList=[45]:=by rw [hs];decide
 have e5: ¬s.toList=[42]:=by rw [hs];decide
 have e6: ¬s.toList=[47]:=by rw [hs];decide
 have e7: ¬s.toList=[37]:=by rw [hs];decide
 have e8: ¬s.toList=[60]:=by rw [hs];decide
 have e9: ¬s.toList=[60,61]:=by rw [hs];decide
 have e10: ¬s.toList=[62,61]:=by rw [hs];decide
 clear hra hrb ha hb h1 h2
 generalize la.length=n1 at hp1 HN
 generalize lb.length=n2 at hp2 HN
 generalize aT la=xt at HN HC
 generalize aB la=xb at HN HC
 generalize aT lb=yt at HN HC
 generalize aB lb=yb at HN HC
 go_enter Tryz.func70,Tryz.ntmps70
 go_wp2_with fail
 refine HN.out.mono ?_
 rintro e w1 ⟨rfl,hb1⟩
 have HB1:=zz hb1
 have hw1:=hb1.size
 clear hb1 p0 p1 q0 q1
 go_wp2_with fail
 refine (HC.out _).mono ?_
 rintro e w2 ⟨rfl,hb2⟩
 have hz2:=hb2.size
 have hw2:w1.heap.size+3≤w2.heap.size:=by simpa using hz2
 have HB2:=zz (show Below w.heap.size w w2 from (((HB1.out.alloc hw1 (.cells #[.int .i64 xt, .int .i64 xb] 94)).alloc (by simp;omega) (.cells #[.int .i64 yt, .int .i64 yb] 94)).alloc (by simp;omega) (.cells #[.int .i64 0, .int .i64 0] 94)).trans (hb2.mono (by simp;omega)))
 clear hb2
 rcases h3 with rfl|rfl|rfl
 all_goals
  go_wp2_with fail
  refine (l9Truth_any _ _).mono ?_
  rintro e w4 ⟨u,rfl,hown,hb4⟩
  have HO:=zz (own_base (base':=w.heap.size) hown (fun g hg=>Nat.le_trans HB2.out.size (hown.lt g hg).1))
  have HB4:=zz (HB2.out.trans (hb4.mono HB2.out.size))
  clear hown hb4
  go_wp2
  exact bodyPost_ret (v:= .tuple #[u, .bool true]) (by simp [results,Tryz.results70,go_sem]) rfl ⟨u,rfl,HO.out,HB4.out⟩
theorem bin_ge (s:ByteArray) (a b:Value) (la lb:List Cl) (w:World) (hra:RowC w a la) (hrb:RowC w b lb) (ha:okV la=true) (hb:okV lb=true) (h1:kdV la=1) (h2:kdV lb=1) (hs:s.toList=[62,61]) (c:Int) (h3:c= -1∨c=0∨c=1)
  (hc: ∀w',Calls Tryz.prog 103 #[.agg #[.int .i64 (aT la), .int .i64 (aB la)], .agg #[.int .i64 (aT lb), .int .i64 (aB lb)]] w' fun e w''=>e= .returned (.int .i64 c)∧Below w'.heap.size w' w''):
  Calls Tryz.prog 70 #[.string s,a,b] w (NewCB (truV (decide (0≤c))) true w):=by
 have HN:=zz (numbers_yes a b la lb w hra hrb ha hb h1 h2)
 have HC:=zz hc;clear hc
 obtain ⟨b1,o1,c1,rfl,hl1,p0,p1,-⟩:=hra.headE (okV_len ha).1
 obtain ⟨b2,o2,c2,rfl,hl2,q0,q1,-⟩:=hrb.headE (okV_len hb).1
 have hp1:(0:Int)<(la.length:Int):=by have:=(okV_len ha).1;omega
 have hp2:(0:Int)<(lb.length:Int):=by have:=(okV_len hb).1;omega
 rw [h1] at p0;rw [h2] at q0
 have e1: ¬s.toList=[61,61]:=by rw [hs];decide
 have e2: ¬s.toList=[33,61]:=by rw [hs];decide
 have e3: ¬s.toList=[43]:=by rw [hs];decide
 have e4: ¬s.toList=[45]:=by rw [hs];decide
 have e5: ¬s.toList=[42]:=by rw [hs];decide
 have e6: ¬s.toList=[47]:=by rw [hs];decide
 have e7: ¬s.toList=[37]:=by rw [hs];decide
 have e8: ¬s.toList=[60]:=by rw [hs];decide
 have e9: ¬s.toList=[60,61]:=by rw [hs];decide
 have e10: ¬s.toList=[62]:=by rw [hs];decide
 clear hra hrb ha hb h1 h2
 generalize la.length=n1 at hp1 HN
 generalize lb.length=n2 at hp2 HN
 generalize aT la=xt at HN HC
 generalize aB la=xb at HN HC
 generalize aT lb=yt at HN HC
 generalize aB lb=yb at HN HC
 go_enter Tryz.func70,Tryz.ntmps70
 go_wp2_with fail
 refine HN.out.mono ?_
 rintro e w1 ⟨rfl,hb1⟩
 have HB1:=zz hb1
 have hw1:=hb1.size
 clear hb1 p0 p1 q0 q1
 go_wp2_with fail
 refine (HC.out _).mono ?_
 rintro e w2 ⟨rfl,hb2⟩
 have hz2:=hb2.size
 have hw2:w1.heap.size+3≤w2.heap.size:=by simpa using hz2
 have HB2:=zz (show Below w.heap.size w w2 from (((HB1.out.alloc hw1 (.cells #[.int .i64 xt, .int .i64 xb] 94)).alloc (by simp;omega) (.cells #[.int .i64 yt, .int .i64 yb] 94)).alloc (by simp;omega) (.cells #[.int .i64 0, .int .i64 0] 94)).trans (hb2.mono (by simp;omega)))
 clear hb2
 rcases h3 with rfl|rfl|rfl
 all_goals
  go_wp2_with fail
  refine (l9Truth_any _ _).mono ?_
  rintro e w4 ⟨u,rfl,hown,hb4⟩
  have HO:=zz (own_base (base':=w.heap.size) hown (fun g hg=>Nat.le_trans HB2.out.size (hown.lt g hg).1))
  have HB4:=zz (HB2.out.trans (hb4.mono HB2.out.size))
  clear hown hb4
  go_wp2
  exact bodyPost_ret (v:= .tuple #[u, .bool true]) (by simp [results,Tryz.results70,go_sem]) rfl ⟨u,rfl,HO.out,HB4.out⟩
end Go.Proofs.YthillfgjpalpcaaGreatDoor
