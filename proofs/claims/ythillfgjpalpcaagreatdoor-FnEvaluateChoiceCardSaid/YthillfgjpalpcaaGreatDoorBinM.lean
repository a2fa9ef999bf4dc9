/-
  spec.l10Binary where both values are numbers: %.
-/
import Derived.Test.YthillfgjpalpcaaGreatDoorBinN
set_option linter.unusedVariables false
set_option maxHeartbeats 4000000
set_option maxRecDepth 100000
namespace Go.Proofs.YthillfgjpalpcaaGreatDoor
open Go.RowKit
theorem tmod_mod {x y:Int} (hy:0<y):(x.tmod y<0→x % y=x.tmod y+y)∧(¬x.tmod y<0→x % y=x.tmod y)∧x.tmod y<y∧ -y<x.tmod y:=by
 have h1:=Int.tmod_lt_of_pos x hy
 have h2: -y<x.tmod y:=by
  have:=Int.tmod_lt_of_pos (-x) hy
  rw [Int.neg_tmod] at this;omega
 have h3:x % y=x.tmod y % y:=by
  have e:=Int.mul_tdiv_add_tmod x y
  conv=>lhs;rw [←e]
  rw [Int.mul_add_emod_self_left]
 refine ⟨fun h=> ?_,fun h=> ?_,h1,h2⟩
 ·rw [h3,←Int.add_emod_right]
  exact Int.emod_eq_of_lt (by omega) (by omega)
 ·rw [h3];exact Int.emod_eq_of_lt (by omega) (by omega)
theorem bin_modN1 (s:ByteArray) (a b:Value) (la lb:List Cl) (w:World) (hra:RowC w a la) (hrb:RowC w b lb) (ha:okV la=true) (hb:okV lb=true) (h1:kdV la=1) (h2:kdV lb=1) (hs:s.toList=[37]) (hq:(aB la==1)=false):
  Calls Tryz.prog 70 #[.string s,a,b] w (NewCB [] false w):=by
 have HN:=zz (numbers_yes a b la lb w hra hrb ha hb h1 h2)
 obtain ⟨b1,o1,c1,rfl,hl1,p0,p1,-⟩:=hra.headE (okV_len ha).1
 obtain ⟨b2,o2,c2,rfl,hl2,q0,q1,-⟩:=hrb.headE (okV_len hb).1
 have hp1:(0:Int)<(la.length:Int):=by have:=(okV_len ha).1;omega
 have hp2:(0:Int)<(lb.length:Int):=by have:=(okV_len hb).1;omega
 rw [h1] at p0;rw [h2] at q0
 have e1: ¬s.toList=[61,61]:=by rw [hs];decide
 have e2: ¬s.toList=[33,61]:=by rw [hs];decide
 have e3: ¬s.toList=[43]:=by rw [hs];decide
 have e4: ¬s.toList=[45]:=by rw [hs];decide
 have e5: ¬s.toList=[42]:=by rw [hs];decide
 have e6: ¬s.toList=[47]:=by rw [hs];decide
 have e7: ¬s.toList=[60]:=by rw [hs];decide
 have e8: ¬s.toList=[60,61]:=by rw [hs];decide
 have e9: ¬s.toList=[62]:=by rw [hs];decide
 have e10: ¬s.toList=[62,61]:=by rw [hs];decide
 clear hra hrb ha hb h1 h2
 generalize la.length=n1 at hp1 HN
 generalize lb.length=n2 at hp2 HN
 generalize aT la=xt at HN
 generalize aB la=xb at HN hq
 generalize aT lb=yt at HN
 generalize aB lb=yb at HN
 go_enter Tryz.func70,Tryz.ntmps70
 go_wp2_with fail
 refine HN.out.mono ?_
 rintro e w1 ⟨rfl,hb1⟩
 have HB1:=zz hb1
 have hw1:=hb1.size
 clear hb1 p0 p1 q0 q1
 have HB2:=zz (((HB1.out.alloc hw1 (.cells #[.int .i64 xt, .int .i64 xb] 94)).alloc (by simp;omega) (.cells #[.int .i64 yt, .int .i64 yb] 94)).alloc (by simp;omega) (.cells #[.int .i64 0, .int .i64 0] 94))
 go_wp2
 exact bodyPost_ret (v:= .tuple #[.slice (some ⟨_,0,none⟩) 0 0, .bool false]) (by simp [results,Tryz.results70,go_sem];rfl) rfl (newCB_no HB2.out (by simp) rfl rfl)
theorem bin_modN2 (s:ByteArray) (a b:Value) (la lb:List Cl) (w:World) (hra:RowC w a la) (hrb:RowC w b lb) (ha:okV la=true) (hb:okV lb=true) (h1:kdV la=1) (h2:kdV lb=1) (hs:s.toList=[37]) (hq:(aB la==1)=true) (hr:(aB lb==1)=false):
  Calls Tryz.prog 70 #[.string s,a,b] w (NewCB [] false w):=by
 have HN:=zz (numbers_yes a b la lb w hra hrb ha hb h1 h2)
 obtain ⟨b1,o1,c1,rfl,hl1,p0,p1,-⟩:=hra.headE (okV_len ha).1
 obtain ⟨b2,o2,c2,rfl,hl2,q0,q1,-⟩:=hrb.headE (okV_len hb).1
 have hp1:(0:Int)<(la.length:Int):=by have:=(okV_len ha).1;omega
 have hp2:(0:Int)<(lb.length:Int):=by have:=(okV_len hb).1;omega
 rw [h1] at p0;rw [h2] at q0
 have e1: ¬s.toList=[61,61]:=by rw [hs];decide
 have e2: ¬s.toList=[33,61]:=by rw [hs];decide
 have e3: ¬s.toList=[43]:=by rw [hs];decide
 have e4: ¬s.toList=[45]:=by rw [hs];decide
 have e5: ¬s.toList=[42]:=by rw [hs];decide
 have e6: ¬s.toList=[47]:=by rw [hs];decide
 have e7: ¬s.toList=[60]:=by rw [hs];decide
 have e8: ¬s.toList=[60,61]:=by rw [hs];decide
 have e9: ¬s.toList=[62]:=by rw [hs];decide
 have e10: ¬s.toList=[62,61]:=by rw [hs];decide
 clear hra hrb ha hb h1 h2
 generalize la.length=n1 at hp1 HN
 generalize lb.length=n2 at hp2 HN
 generalize aT la=xt at HN
 generalize aB la=xb at HN hq
 generalize aT lb=yt at HN
 generalize aB lb=yb at HN hr
 go_enter Tryz.func70,Tryz.ntmps70
 go_wp2_with fail
 refine HN.out.mono ?_
 rintro e w1 ⟨rfl,hb1⟩
 have HB1:=zz hb1
 have hw1:=hb1.size
 clear hb1 p0 p1 q0 q1
 have HB2:=zz (((HB1.out.alloc hw1 (.cells #[.int .i64 xt, .int .i64 xb] 94)).alloc (by simp;omega) (.cells #[.int .i64 yt, .int .i64 yb] 94)).alloc (by simp;omega) (.cells #[.int .i64 0, .int .i64 0] 94))
 go_wp2
 exact bodyPost_ret (v:= .tuple #[.slice (some ⟨_,0,none⟩) 0 0, .bool false]) (by simp [results,Tryz.results70,go_sem];rfl) rfl (newCB_no HB2.out (by simp) rfl rfl)
theorem bin_modN3 (s:ByteArray) (a b:Value) (la lb:List Cl) (w:World) (hra:RowC w a la) (hrb:RowC w b lb) (ha:okV la=true) (hb:okV lb=true) (h1:kdV la=1) (h2:kdV lb=1) (hs:s.toList=[37]) (hq:(aB la==1)=true) (hr:(aB lb==1)=true) (ht: ¬0<aT lb):
  Calls Tryz.prog 70 #[.string s,a,b] w (NewCB [] false w):=by
 have HN:=zz (numbers_yes a b la lb w hra hrb ha hb h1 h2)
 obtain ⟨b1,o1,c1,rfl,hl1,p0,p1,-⟩:=hra.headE (okV_len ha).1
 obtain ⟨b2,o2,c2,rfl,hl2,q0,q1,-⟩:=hrb.headE (okV_len hb).1
 have hp1:(0:Int)<(la.length:Int):=by have:=(okV_len ha).1;omega
 have hp2:(0:Int)<(lb.length:Int):=by have:=(okV_len hb).1;omega
 rw [h1] at p0;rw [h2] at q0
 have e1: ¬s.toList=[61,61]:=by rw [hs];decide
 have e2: ¬s.toList=[33,61]:=by rw [hs];decide
 have e3: ¬s.toList=[43]:=by rw [hs];decide
 have e4: ¬s.toList=[45]:=by rw [hs];decide
 have e5: ¬s.toList=[42]:=by rw [hs];decide
 have e6: ¬s.toList=[47]:=by rw [hs];decide
 have e7: ¬s.toList=[60]:=by rw [hs];decide
 have e8: ¬s.toList=[60,61]:=by rw [hs];decide
 have e9: ¬s.toList=[62]:=by rw [hs];decide
 have e10: ¬s.toList=[62,61]:=by rw [hs];decide
 clear hra hrb ha hb h1 h2
 generalize la.length=n1 at hp1 HN
 generalize lb.length=n2 at hp2 HN
 generalize aT la=xt at HN
 generalize aB la=xb at HN hq
 generalize aT lb=yt at HN ht
 generalize aB lb=yb at HN hr
 go_enter Tryz.func70,Tryz.ntmps70
 go_wp2_with fail
 refine HN.out.mono ?_
 rintro e w1 ⟨rfl,hb1⟩
 have HB1:=zz hb1
 have hw1:=hb1.size
 clear hb1 p0 p1 q0 q1
 have HB2:=zz (((HB1.out.alloc hw1 (.cells #[.int .i64 xt, .int .i64 xb] 94)).alloc (by simp;omega) (.cells #[.int .i64 yt, .int .i64 yb] 94)).alloc (by simp;omega) (.cells #[.int .i64 0, .int .i64 0] 94))
 go_wp2
 exact bodyPost_ret (v:= .tuple #[.slice (some ⟨_,0,none⟩) 0 0, .bool false]) (by simp [results,Tryz.results70,go_sem];rfl) rfl (newCB_no HB2.out (by simp) rfl rfl)
theorem bin_modY (s:ByteArray) (a b:Value) (la lb:List Cl) (w:World) (hra:RowC w a la) (hrb:RowC w b lb) (ha:okV la=true) (hb:okV lb=true) (h1:kdV la=1) (h2:kdV lb=1) (hs:s.toList=[37]) (hq:(aB la==1)=true) (hr:(aB lb==1)=true) (ht:0<aT lb) (hx1: -1000000000≤aT la) (hx2:aT la≤1000000000) (hy2:aT lb≤1000000000):
  Calls Tryz.prog 70 #[.string s,a,b] w (NewCB (numV (aT la % aT lb) 1) true w):=by
 have HN:=zz (numbers_yes a b la lb w hra hrb ha hb h1 h2)
 have HM:=zz (tmod_mod (x:=aT la) ht)
 obtain ⟨b1,o1,c1,rfl,hl1,p0,p1,-⟩:=hra.headE (okV_len ha).1
 obtain ⟨b2,o2,c2,rfl,hl2,q0,q1,-⟩:=hrb.headE (okV_len hb).1
 have hp1:(0:Int)<(la.length:Int):=by have:=(okV_len ha).1;omega
 have hp2:(0:Int)<(lb.length:Int):=by have:=(okV_len hb).1;omega
 rw [h1] at p0;rw [h2] at q0
 have e1: ¬s.toList=[61,61]:=by rw [hs];decide
 have e2: ¬s.toList=[33,61]:=by rw [hs];decide
 have e3: ¬s.toList=[43]:=by rw [hs];decide
 have e4: ¬s.toList=[45]:=by rw [hs];decide
 have e5: ¬s.toList=[42]:=by rw [hs];decide
 have e6: ¬s.toList=[47]:=by rw [hs];decide
 have e7: ¬s.toList=[60]:=by rw [hs];decide
 have e8: ¬s.toList=[60,61]:=by rw [hs];decide
 have e9: ¬s.toList=[62]:=by rw [hs];decide
 have e10: ¬s.toList=[62,61]:=by rw [hs];decide
 clear hra hrb ha hb h1 h2
 generalize la.length=n1 at hp1 HN
 generalize lb.length=n2 at hp2 HN
 generalize aT la=xt at HN hx1 hx2 HM
 generalize aB la=xb at HN hq
 generalize aT lb=yt at HN ht hy2 HM
 generalize aB lb=yb at HN hr
 go_enter Tryz.func70,Tryz.ntmps70
 go_wp2_with fail
 refine HN.out.mono ?_
 rintro e w1 ⟨rfl,hb1⟩
 have HB1:=zz hb1
 have hw1:=hb1.size
 clear hb1 p0 p1 q0 q1
 have HB2:=zz (((HB1.out.alloc hw1 (.cells #[.int .i64 xt, .int .i64 xb] 94)).alloc (by simp;omega) (.cells #[.int .i64 yt, .int .i64 yb] 94)).alloc (by simp;omega) (.cells #[.int .i64 0, .int .i64 0] 94))
 obtain ⟨hm1,hm2,hm3,hm4⟩:=HM.out
 have HBZ:=fun z:Int=>(((HB1.out.alloc hw1 (.cells #[.int .i64 xt, .int .i64 xb] 94)).alloc (by simp;omega) (.cells #[.int .i64 yt, .int .i64 yb] 94)).alloc (by simp;omega) (.cells #[.int .i64 z, .int .i64 1] 94))
 have HZ:=zz HBZ;clear HBZ
 have key: ∀z:Int,z=xt % yt→Calls Tryz.prog 69 #[.agg #[.int .i64 z, .int .i64 1]] (((w1.alloc (.cells #[.int .i64 xt, .int .i64 xb] 94)).alloc (.cells #[.int .i64 yt, .int .i64 yb] 94)).alloc (.cells #[.int .i64 z, .int .i64 1] 94)) fun e w'=> ∃u,e= .returned u∧w'.ownsRow w.heap.size 44 3 u (numV (xt % yt) 1).length (flatC (numV (xt % yt) 1))∧Below w.heap.size w w':=by
  rintro z rfl
  refine (l9Number_any _ 1 _).mono ?_
  rintro e w4 ⟨u,rfl,hown,hb4⟩
  have hz:=(HZ.out (xt % yt)).size
  exact ⟨u,rfl,own_base hown (fun g hg=>Nat.le_trans hz (hown.lt g hg).1),(HZ.out (xt % yt)).trans (hb4.mono hz)⟩
 have KEY:=zz key;clear key
 by_cases hneg:xt.tmod yt<0
 all_goals
  first|have hR:=hm1 hneg|have hR:=hm2 (by omega)
  clear hm1 hm2
  have HR:=zz hR;clear hR
  go_wp2_with fail
  refine (KEY.out _ HR.out.symm).mono ?_
  rintro e w4 ⟨u,rfl,hown,hb4⟩
  have HO:=zz hown
  have HB4:=zz hb4
  clear hown hb4
  go_wp2
  exact bodyPost_ret (v:= .tuple #[u, .bool true]) (by simp [results,Tryz.results70,go_sem]) rfl ⟨u,rfl,HO.out,HB4.out⟩
end Go.Proofs.YthillfgjpalpcaaGreatDoor
