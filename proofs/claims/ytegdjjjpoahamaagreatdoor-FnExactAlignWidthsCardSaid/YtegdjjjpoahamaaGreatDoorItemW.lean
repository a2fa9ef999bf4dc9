/-
  laws.szItem, szItemS, eqItem, eqItemS, by their contracts.
-/
import Derived.Test.YtegdjjjpoahamaaGreatDoorRowIt
import Derived.Test.YtegdjjjpoahamaaGreatDoorOpenItems
import Derived.Test.YtegdjjjpoahamaaGreatDoorEqCellS
import Derived.Test.YtegdjjjpoahamaaGreatDoorToCellS
set_option linter.unusedVariables false
set_option maxHeartbeats 4000000
set_option maxRecDepth 100000
namespace Go.Proofs.YtegdjjjpoahamaaGreatDoor
open Go.RowKit
theorem drewB (w:World):Below w.heap.size w w.drew:=⟨rfl,rfl,rfl,Nat.le_refl _,fun _ _=>rfl⟩
def lenI (l:List It):Nat:=(l.map fun i=>i.2.2.1.length).sum
theorem lenI_take (l:List It) (k:Nat) (h:k<l.length):lenI (l.take (k+1))=lenI (l.take k)+l[k].2.2.1.length:=by
 simp only [lenI]
 rw [List.take_succ_eq_append_getElem h,List.map_append,List.sum_append]
 simp
theorem lenI_le (l:List It) (k:Nat):lenI (l.take k)≤lenI l:=by
 simp only [lenI]
 conv=>rhs;rw [←List.take_append_drop k l,List.map_append,List.sum_append]
 omega
theorem lenI_in (l:List It) (k:Nat) (h:k<l.length):l[k].2.2.1.length≤lenI l:=by
 have:=lenI_take l k h
 have:=lenI_le l (k+1)
 omega
def UptoI (n:Int) (i:It):Prop:=(i.2.1.size:Int)≤n∧(∀c∈i.2.2.1,(c.2.1.size:Int)≤n)∧(i.2.2.2.size:Int)≤n
def SzI1 (n:Int) (i:It) (e:Ending):Prop:=
 ∃q:Int,e= .returned (.int .i64 q)∧q≤n∧(0≤q→q+(i.2.2.1.length:Int)≤n∧UptoI n i)
def SzI (n:Int) (l:List It) (e:Ending):Prop:=
 ∃m:Int,e= .returned (.int .i64 m)∧(0≤m→m+((l.length:Int)+(lenI l:Int))≤n∧ ∀i∈l,UptoI n i)
theorem short_ofI {l:List It} {n:Int} (hn:n≤1048576) (hl: ∀i∈l,UptoI n i) (hs:(lenI l:Int)≤n):ShortI l:=by
 intro i hi
 obtain ⟨h1,h2,h3⟩:=hl i hi
 obtain ⟨k,hk,rfl⟩:=List.mem_iff_getElem.mp hi
 have:=lenI_in l k hk
 exact ⟨by omega,fun c hc=>by have:=h2 c hc;omega,by omega,by omega⟩
theorem szItem_any (u:Value) (i:It) (n:Int) (w:World) (hr:RowC w u i.2.2.1) (hz:SizedI i) (hn0:0≤n) (hn1:n≤1048576):
  Calls Tryz.prog 64 #[.agg #[.int .i64 i.1, .string i.2.1,u, .string i.2.2.2], .int .i64 n] w fun e w'=>SzI1 n i e∧Below w.heap.size w w':=by
 obtain ⟨k,nm,l,t⟩:=i
 obtain ⟨hs,hzc,hst⟩:=hz
 simp only at hr hs hzc hst⊢
 unfold maxLen at hs hst
 have HB0:=Lib.hid ((Below.refl w.heap.size w).alloc (Nat.le_refl _) (.cells #[.int .i64 k, .string nm,u, .string t] 77))
 have HR:=Lib.hid (hr.mono HB0.out);have HZ:=Lib.hid hzc
 have HBX:=Lib.hid (fun w1 (h:Below (w.alloc (.cells #[.int .i64 k, .string nm,u, .string t] 77)).heap.size (w.alloc (.cells #[.int .i64 k, .string nm,u, .string t] 77)) w1)=>boxI h)
 obtain ⟨ao,cap,rfl,-⟩:=hr
 clear hzc
 by_cases hl:(nm.size:Int)≤n
 ·go_enter Tryz.func64,Tryz.ntmps64
  go_wp2_with fail
  refine (szCellS_left _ l (n-(nm.size:Int)) _ HR.out HZ.out (by omega) (by omega)).mono ?_
  rintro e w1 ⟨⟨q,rfl,hq⟩,hb1⟩
  obtain ⟨d0,d1,d2,d3⟩:=HBX.out w1 hb1
  have HB1:=Lib.hid (HB0.out.trans (hb1.mono HB0.out.size));clear hb1
  by_cases h0:0≤q
  ·obtain ⟨q1,q2⟩:=hq h0
   by_cases h1:(t.size:Int)≤q
   ·have HU:=Lib.hid (show UptoI n (k,nm,l,t) from ⟨hl,fun c hc=>by have:=q2 c hc;omega,by show (t.size:Int)≤n;omega⟩)
    clear hq q2
    go_wp2
    go_ret
    exact ⟨⟨q-(t.size:Int),rfl,by omega,fun _=>⟨by show q-(t.size:Int)+(l.length:Int)≤n;omega,HU.out⟩⟩,HB1.out⟩
   ·clear hq q2
    go_wp2
    go_ret
    exact ⟨⟨-1,rfl,by omega,by omega⟩,HB1.out⟩
  ·clear hq
   go_wp2
   go_ret
   exact ⟨⟨-1,rfl,by omega,by omega⟩,HB1.out⟩
 ·go_enter Tryz.func64,Tryz.ntmps64
  go_wp2
  go_ret
  exact ⟨⟨-1,rfl,by omega,by omega⟩,HB0.out⟩
theorem szItemS_any (v:Value) (l:List It) (n:Int) (w:World) (hr:RowIt w v l) (hz: ∀i∈l,SizedI i) (hn0:0≤n) (hn1:n≤1048576):
  Calls Tryz.prog 31 #[v, .int .i64 n] w fun e w'=>SzI n l e∧Below w.heap.size w w':=by
 obtain ⟨ao,cap,rfl,h1,h2,h3⟩:=hr
 unfold maxLen at h2
 have H3:=Lib.hid h3;have HZ:=Lib.hid hz;clear h3 hz
 by_cases hl:(l.length:Int)≤n
 ·go_enter Tryz.func31,Tryz.ntmps31
  go_wp2
  go_loopw [1,5] (fun a i wr=> ∃(k:Nat) (m:Int),k≤l.length∧i= .int .i64 k∧a= .int .i64 m∧0≤m∧m+((l.length:Int)+(lenI (l.take k):Int))≤n∧(∀b∈l.take k,UptoI n b)∧Below w.heap.size w wr) (fun _ i _=>l.length-(intOf i).toNat)
  case atStart=>exact ⟨0,_,Nat.zero_le _,rfl,rfl,by omega,by simp [lenI],fun c hc=>by simp at hc,Below.refl _ _⟩
  case round=>
   obtain ⟨k,m,hk,rfl,rfl,hm0,hm1,hall,hb⟩:=hrel
   have HA:=Lib.hid hall;have HB:=Lib.hid hb;clear hall hb
   by_cases hlt:k<l.length
   ·obtain ⟨b,o,rfl,hbl,cc⟩:=H3.out.resolve_left (by rintro rfl;simp at hlt)
    obtain ⟨u,hu⟩:=cc k hlt
    obtain ⟨d0,d1,d2,d3,hru⟩:=hu.mono hbl HB.out
    have HC:=Lib.hid (szItem_any u l[k] m wr hru (HZ.out _ (List.getElem_mem hlt)) hm0 (by omega))
    have HTK:=Lib.hid (lenI_take l k hlt)
    have HNX:=Lib.hid (show UptoI n l[k]→ ∀b∈l.take (k+1),UptoI n b by
     intro h l1 hc
     rw [List.take_succ_eq_append_getElem hlt,List.mem_append] at hc
     rcases hc with hc|hc
     ·exact HA.out l1 hc
     ·rw [List.mem_singleton] at hc;rw [hc];exact h)
    clear cc hu hru
    have hmn:m≤1048576:=by omega
    have hmn2:m≤n:=by omega
    go_wp2_with fail
    refine HC.out.mono ?_
    rintro e w1 ⟨⟨q,rfl,hqm,hq⟩,hb1⟩
    have HB1:=Lib.hid (HB.out.trans (hb1.mono HB.out.size));clear hb1
    by_cases hr:0≤q
    ·obtain ⟨q1,q2,q3,q4⟩:=hq hr
     have HN:=Lib.hid (HNX.out ⟨by omega,fun c hc=>by have:=q3 c hc;omega,by omega⟩)
     have hq3:=HTK.out
     clear q2 q3 q4 hq
     go_wp2
     go_roundw
     case rel=>exact ⟨k+1,q,by omega,by go_num,rfl,hr,by omega,HN.out,HB1.out⟩
     case measure=>simp [intOf];omega
    ·clear hq
     go_wp2
     go_ret
     exact ⟨⟨-1,rfl,by omega⟩,HB1.out⟩
   ·obtain rfl:k=l.length:=by omega
    have HAL:=Lib.hid (show∀b∈l,UptoI n b by have:=HA.out;rwa [List.take_of_length_le (Nat.le_refl _)] at this)
    rw [List.take_of_length_le (Nat.le_refl _)] at hm1
    go_wp2
    go_ret
    exact ⟨⟨m,rfl,fun _=>⟨by omega,HAL.out⟩⟩,HB.out⟩
 ·go_enter Tryz.func31,Tryz.ntmps31
  go_wp2
  go_ret
  exact ⟨⟨-1,rfl,by omega⟩,Below.refl _ _⟩
theorem eqItem_same (k:Int) (s t:ByteArray) (u1 u2:Value) (l:List Cl) (w:World) (h1:RowC w u1 l) (h2:RowC w u2 l):
  Calls Tryz.prog 66 #[.agg #[.int .i64 k, .string s,u1, .string t], .agg #[.int .i64 k, .string s,u2, .string t]] w fun e w'=>e= .returned (.bool true)∧Below w.heap.size w w':=by
 have HB0:=Lib.hid (((Below.refl w.heap.size w).alloc (Nat.le_refl _) (.cells #[.int .i64 k, .string s,u1, .string t] 32)).alloc (by simp) (.cells #[.int .i64 k, .string s,u2, .string t] 32))
 have HC:=Lib.hid (eqCellS_same u1 u2 l _ (h1.mono HB0.out) (h2.mono HB0.out))
 have HX0:=Lib.hid (fun w1 (h:Below ((w.alloc (.cells #[.int .i64 k, .string s,u1, .string t] 32)).alloc (.cells #[.int .i64 k, .string s,u2, .string t] 32)).heap.size ((w.alloc (.cells #[.int .i64 k, .string s,u1, .string t] 32)).alloc (.cells #[.int .i64 k, .string s,u2, .string t] 32)) w1)=>
  (show w1.cell? ⟨w.heap.size,3,none⟩=some (.string t) by rw [h.cell (by simp;omega)];simp [go_sem]))
 have HX1:=Lib.hid (fun w1 (h:Below ((w.alloc (.cells #[.int .i64 k, .string s,u1, .string t] 32)).alloc (.cells #[.int .i64 k, .string s,u2, .string t] 32)).heap.size ((w.alloc (.cells #[.int .i64 k, .string s,u1, .string t] 32)).alloc (.cells #[.int .i64 k, .string s,u2, .string t] 32)) w1)=>
  (show w1.cell? ⟨w.heap.size+1,3,none⟩=some (.string t) by rw [h.cell (by simp)];simp [go_sem]))
 obtain ⟨a1,c1,rfl,-⟩:=h1
 obtain ⟨a2,c2,rfl,-⟩:=h2
 have ht:(s.toList==s.toList)=true:=by simp
 have ht2:(t.toList==t.toList)=true:=by simp
 have hk:(k !=k)=false:=by simp
 go_enter Tryz.func66,Tryz.ntmps66
 go_wp2_with fail
 refine HC.out.mono ?_
 rintro e w1 ⟨rfl,hb1⟩
 have e0:=HX0.out w1 hb1
 have e1:=HX1.out w1 hb1
 have HB1:=Lib.hid (HB0.out.trans (hb1.mono HB0.out.size));clear hb1
 go_wp2
 go_ret
 exact ⟨rfl,HB1.out⟩
theorem eqItemS_same (v1 v2:Value) (l:List It) (w:World) (h1:RowIt w v1 l) (h2:RowIt w v2 l):
  Calls Tryz.prog 34 #[v1,v2] w fun e w'=>e= .returned (.bool true)∧Below w.heap.size w w':=by
 obtain ⟨a1,c1,rfl,l1,m1,r1⟩:=h1
 obtain ⟨a2,c2,rfl,l2,m2,r2⟩:=h2
 unfold maxLen at m1 m2
 have R1:=Lib.hid r1;have R2:=Lib.hid r2
 clear r1 r2
 go_enter Tryz.func34,Tryz.ntmps34
 go_wp2
 go_loopw [5] (fun i wr=> ∃k:Nat,k≤l.length∧i= .int .i64 (k:Int)∧Below w.heap.size w wr) (fun i _=>l.length-(intOf i).toNat)
 case atStart=>exact ⟨0,Nat.zero_le _,rfl,Below.refl _ _⟩
 case round=>
  obtain ⟨k,hk,rfl,hb⟩:=hrel
  have HB:=Lib.hid hb;clear hb
  by_cases hlt:k<l.length
  ·obtain ⟨b1,o1,rfl,lt1,cc1⟩:=R1.out.resolve_left (by rintro rfl;simp at hlt)
   obtain ⟨b2,o2,rfl,lt2,cc2⟩:=R2.out.resolve_left (by rintro rfl;simp at hlt)
   obtain ⟨u1,p1⟩:=cc1 k hlt
   obtain ⟨u2,p2⟩:=cc2 k hlt
   obtain ⟨d0,d1,d2,d3,x1⟩:=p1.mono lt1 HB.out
   obtain ⟨f0,f1,f2,f3,x2⟩:=p2.mono lt2 HB.out
   have X1:=Lib.hid x1;have X2:=Lib.hid x2
   clear cc1 cc2 p1 p2 x1 x2
   have bk0:(0:Int)≤(k:Int):=by omega
   have bk1:(k:Int)<(l.length:Int):=by omega
   generalize l[k].1=kk at d0 f0
   generalize l[k].2.1=nk at d1 f1
   generalize l[k].2.2.1=lk at X1 X2
   generalize l[k].2.2.2=tk at d3 f3
   go_wp2_with fail
   go_region_with ((go_at_call 66;refine (eqItem_same _ _ _ _ _ lk _ (X1.out.mono (drewB wr)) (X2.out.mono (drewB wr))).mono ?_;rintro e w1 ⟨rfl,hb1⟩))
   all_goals
    have HB2:=Lib.hid (HB.out.trans (((drewB wr).trans hb1).mono HB.out.size))
    clear hb1
    (try go_wp2)
    go_roundw
    case rel=>exact ⟨k+1,by omega,by go_num,HB2.out⟩
    case measure=>simp [intOf];omega
  ·obtain rfl:k=l.length:=by omega
   go_wp2
   go_ret
   exact ⟨rfl,HB.out⟩
end Go.Proofs.YtegdjjjpoahamaaGreatDoor
