/-
  spec.l10Numbers, by its contract.
-/
import Derived.Test.YthillfgjpalpcaaGreatDoorGEv
import Derived.Test.YthillfgjpalpcaaGreatDoorBaseI
import Derived.Test.YthillfgjpalpcaaGreatDoorGFr
set_option linter.unusedVariables false
set_option maxHeartbeats 4000000
set_option maxRecDepth 100000
namespace Go.Proofs.YthillfgjpalpcaaGreatDoor
open Go.RowKit
theorem RowC.headE {w:World} {v:Value} {l:List Cl} (h:RowC w v l) (hl:0<l.length): ∃b o cap,v= .slice (some ⟨b,o,none⟩) l.length cap∧b<w.heap.size∧w.cell? ⟨b,o,none⟩=some (.int .i64 (kdV l))∧w.cell? ⟨b,o+1,none⟩=some (.string (wdV l))∧w.cell? ⟨b,o+2,none⟩=some (.int .i64 (myV l)):=by
 obtain ⟨ao,cap,rfl,h1,h2,h3⟩:=h
 obtain ⟨b,o,rfl,hb,cc⟩:=h3.resolve_left (by rintro rfl;simp at hl)
 obtain ⟨c0,c1,c2⟩:=cc 0 hl
 rw [Nat.zero_mul,Nat.add_zero] at c0 c1 c2
 obtain ⟨c,t,rfl⟩: ∃c t,l=c::t:=by
  cases l with
  |nil=>simp at hl
  |cons c t=>exact ⟨c,t,rfl⟩
 exact ⟨b,o,cap,rfl,hb,c0,c1,c2⟩
theorem okV_len {l:List Cl} (h:okV l=true):0<l.length∧(wdV l).size≤60:=by
 obtain ⟨c,t,rfl⟩:=okV_cons h
 exact ⟨by simp,okVC_word (okV_head h)⟩
theorem numbers_no (a b:Value) (la lb:List Cl) (w:World) (hra:RowC w a la) (hrb:RowC w b lb) (ha:okV la=true) (hb:okV lb=true) (h:kdV la≠1∨kdV lb≠1):
  Calls Tryz.prog 99 #[a,b] w fun e w'=>e= .returned (.tuple #[.agg #[.int .i64 0, .int .i64 0], .agg #[.int .i64 0, .int .i64 0], .bool false])∧Below w.heap.size w w':=by
 obtain ⟨b1,o1,c1,rfl,hl1,p0,-,-⟩:=hra.headE (okV_len ha).1
 obtain ⟨b2,o2,c2,rfl,hl2,q0,-,-⟩:=hrb.headE (okV_len hb).1
 have hp1:(0:Int)<(la.length:Int):=by have:=(okV_len ha).1;omega
 have hp2:(0:Int)<(lb.length:Int):=by have:=(okV_len hb).1;omega
 generalize la.length=n1 at hp1
 generalize lb.length=n2 at hp2
 have HB0:=zz (((Below.refl w.heap.size w).alloc (Nat.le_refl _) (.cells #[.int .i64 0, .int .i64 0] 94)).alloc (by simp) (.cells #[.int .i64 0, .int .i64 0] 94))
 have p0:=(HB0.out.cell (p:=⟨b1,o1,none⟩) hl1).trans p0
 have q0:=(HB0.out.cell (p:=⟨b2,o2,none⟩) hl2).trans q0
 by_cases hk:kdV la=1
 ·have hk2:(kdV lb !=1)=true:=bne_iff_ne.mpr (by omega)
  have hk1:(kdV la !=1)=false:=by rw [hk];rfl
  generalize kdV la=k1 at p0 hk1
  generalize kdV lb=k2 at q0 hk2
  clear hra hrb ha hb h hk
  go_enter Tryz.func99,Tryz.ntmps99
  go_wp2
  exact bodyPost_ret (v:= .tuple #[.agg #[.int .i64 0, .int .i64 0], .agg #[.int .i64 0, .int .i64 0], .bool false]) (by simp [results,Tryz.results99,go_sem]) rfl ⟨rfl,HB0.out⟩
 ·have hk1:(kdV la !=1)=true:=bne_iff_ne.mpr hk
  generalize kdV la=k1 at p0 hk1
  clear hra hrb ha hb h hk q0
  go_enter Tryz.func99,Tryz.ntmps99
  go_wp2
  exact bodyPost_ret (v:= .tuple #[.agg #[.int .i64 0, .int .i64 0], .agg #[.int .i64 0, .int .i64 0], .bool false]) (by simp [results,Tryz.results99,go_sem]) rfl ⟨rfl,HB0.out⟩
theorem numbers_yes (a b:Value) (la lb:List Cl) (w:World) (hra:RowC w a la) (hrb:RowC w b lb) (ha:okV la=true) (hb:okV lb=true) (h1:kdV la=1) (h2:kdV lb=1):
  Calls Tryz.prog 99 #[a,b] w fun e w'=>e= .returned (.tuple #[.agg #[.int .i64 (aT la), .int .i64 (aB la)], .agg #[.int .i64 (aT lb), .int .i64 (aB lb)], .bool true])∧Below w.heap.size w w':=by
 obtain ⟨b1,o1,c1,rfl,hl1,p0,p1,-⟩:=hra.headE (okV_len ha).1
 obtain ⟨b2,o2,c2,rfl,hl2,q0,q1,-⟩:=hrb.headE (okV_len hb).1
 have hp1:(0:Int)<(la.length:Int):=by have:=(okV_len ha).1;omega
 have hp2:(0:Int)<(lb.length:Int):=by have:=(okV_len hb).1;omega
 have hs1:=(okV_len ha).2
 have hs2:=(okV_len hb).2
 unfold aT aB
 rw [h1] at p0;rw [h2] at q0
 clear hra hrb ha hb h1 h2
 generalize la.length=n1 at hp1
 generalize lb.length=n2 at hp2
 generalize wdV la=sa at p1 hs1
 generalize wdV lb=sb at q1 hs2
 have HB0:=zz (((Below.refl w.heap.size w).alloc (Nat.le_refl _) (.cells #[.int .i64 0, .int .i64 0] 94)).alloc (by simp) (.cells #[.int .i64 0, .int .i64 0] 94))
 have HFA:=zz ((Fr2.new w 0 0 94).al (.cells #[.int .i64 0, .int .i64 0] 94))
 have HFB:=zz (show Fr2 ((w.alloc (.cells #[.int .i64 0, .int .i64 0] 94)).alloc (.cells #[.int .i64 0, .int .i64 0] 94)) (w.heap.size+1) 0 0 by
  have:=Fr2.new (w.alloc (.cells #[.int .i64 0, .int .i64 0] 94)) 0 0 94
  simpa using this)
 have p0:=(HB0.out.cell (p:=⟨b1,o1,none⟩) hl1).trans p0
 have p1:=(HB0.out.cell (p:=⟨b1,o1+1,none⟩) hl1).trans p1
 have q0:=(HB0.out.cell (p:=⟨b2,o2,none⟩) hl2).trans q0
 have q1:=(HB0.out.cell (p:=⟨b2,o2+1,none⟩) hl2).trans q1
 go_enter Tryz.func99,Tryz.ntmps99
 go_wp2_with fail
 refine (readFraction_spec sa _ (by omega)).mono ?_
 rintro e w1 ⟨rfl,hb1⟩
 have hz0:=HB0.out.size
 have hz1:=hb1.size
 have HFA1:=zz (HFA.out.keep hb1)
 have HFB1:=zz (HFB.out.keep hb1)
 have HB1:=zz (HB0.out.trans (hb1.mono hz0))
 have hw1:w.heap.size+2≤w1.heap.size:=by simpa using hz1
 have HB1a:=zz (HB1.out.alloc HB1.out.size (.cells #[.int .i64 (rdT sa), .int .i64 (rdB sa)] 94))
 have HFX:=zz (Fr2.new w1 (rdT sa) (rdB sa) 94)
 have q1:=(((hb1.alloc (Nat.le_trans (Nat.le_refl _) hz1) (.cells #[.int .i64 (rdT sa), .int .i64 (rdB sa)] 94)).cell (p:=⟨b2,o2+1,none⟩) (Nat.lt_of_lt_of_le hl2 hz0))).trans q1
 clear p0 p1 q0 hb1
 go_wp2_with fail
 refine (readFraction_spec sb _ (by omega)).mono ?_
 rintro e w2 ⟨rfl,hb2⟩
 have hz2:=hb2.size
 have hw2:w1.heap.size+1≤w2.heap.size:=by simpa using hz2
 obtain ⟨a0,a1,a2,a3,-⟩:=((HFA1.out.al _).keep hb2).al (.cells #[.int .i64 (rdT sb), .int .i64 (rdB sb)] 94)
 obtain ⟨m0,m1,m2,m3,-⟩:=((HFB1.out.al _).keep hb2).al (.cells #[.int .i64 (rdT sb), .int .i64 (rdB sb)] 94)
 obtain ⟨x0,x1,-,-,-⟩:=(HFX.out.keep hb2).al (.cells #[.int .i64 (rdT sb), .int .i64 (rdB sb)] 94)
 obtain ⟨y0,y1,-,-,-⟩:=Fr2.new w2 (rdT sb) (rdB sb) 94
 have HB2:=zz (HB1a.out.trans (hb2.mono HB1a.out.size))
 have HB2a:=zz (HB2.out.alloc HB2.out.size (.cells #[.int .i64 (rdT sb), .int .i64 (rdB sb)] 94))
 have HBE:=zz ((((HB2a.out.setCell (p:=⟨w.heap.size,0,none⟩) (Nat.le_refl _) (.int .i64 (rdT sa))).setCell (p:=⟨w.heap.size,1,none⟩) (Nat.le_refl _) (.int .i64 (rdB sa))).setCell (p:=⟨w.heap.size+1,0,none⟩) (by simp) (.int .i64 (rdT sb))).setCell (p:=⟨w.heap.size+1,1,none⟩) (by simp) (.int .i64 (rdB sb)))
 have n1: ¬w1.heap.size=w.heap.size:=by omega
 have n2: ¬w1.heap.size=w.heap.size+1:=by omega
 have n3: ¬w2.heap.size=w.heap.size:=by omega
 have n4: ¬w2.heap.size=w.heap.size+1:=by omega
 clear hb2 q1
 go_wp2_with fail
 go_region
 go_wp2
 exact bodyPost_ret (v:= .tuple #[.agg #[.int .i64 (rdT sa), .int .i64 (rdB sa)], .agg #[.int .i64 (rdT sb), .int .i64 (rdB sb)], .bool true]) (by simp [results,Tryz.results99,go_sem,a0,a1,m0,m1]) rfl ⟨rfl,HBE.out.trans ⟨rfl,rfl,rfl,Nat.le_refl _,fun _ _=>rfl⟩⟩
end Go.Proofs.YthillfgjpalpcaaGreatDoor
