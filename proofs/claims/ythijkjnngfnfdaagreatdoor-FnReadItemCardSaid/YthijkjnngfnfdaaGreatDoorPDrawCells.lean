/-
  Drawn expressions: spec.l20Cells.
-/
import Derived.Test.YthijkjnngfnfdaaGreatDoorZz
import Derived.Test.YthijkjnngfnfdaaGreatDoorPDrawName
import Derived.Test.YthijkjnngfnfdaaGreatDoorPToCellS
import Derived.Test.YthijkjnngfnfdaaGreatDoorPBaseE
set_option linter.unusedVariables false
set_option maxHeartbeats 8000000
set_option maxRecDepth 100000
namespace Go.Proofs.YthijkjnngfnfdaaGreatDoor
open Go.RowKit
def kp:Nat→Nat
 |0=>8
 |d+1=>8+3*kp d
def cb:Nat→Nat
 |0=>1
 |d+1=>if d=0 then 1 else 1+3*cb d
theorem qj (d:Nat):8≤kp d:=by cases d<;>simp [kp]
theorem yH (d:Nat):1≤cb d:=by
 cases d with
 |zero=>simp [cb]
 |succ d=>rw [cb];split<;>omega
def CellsD (R p K C:Nat) (w:World) (e:Ending) (w':World):Prop:=
 ∃(v:Value) (l:List Cl),e= .returned v∧w'.ownsRow w.heap.size 120 3 v l.length (ap l)∧(∀c∈l,c.2.1.size≤60)∧1≤l.length∧l.length≤C∧Rdm w' R (p+K)∧w.grownBy w' (some R)
theorem CellsD.one {R p K C:Nat} {w w1:World} (k m:Int) (s:ByteArray) (hs:s.size≤60) (hC:1≤C) (hr:Rdm w1 R (p+K)) (hg:w.grownBy w1 (some R)):
  CellsD R p K C w (.returned (.slice (some ⟨w1.heap.size,0,none⟩) 1 1)) (w1.alloc (.cells #[.int .i64 k, .string s, .int .i64 m] 120)):=by
 refine ⟨_,[(k,s,m)],rfl,World.ownsRow_lit w1 _ 1 hg.size (by unfold maxLen;omega) rfl, ?_,ain _,hC,hr.kept (aip w1 _ none) (by simp),ae hg _⟩;intro c hc;rw [List.mem_singleton] at hc;subst hc;exact hs
theorem az {w a b:World} {R:Nat} {row:Option Nat} (h:w.grownBy a (some R)) (hg:a.grownBy b row) (hr: ∀q,row=some q→w.heap.size≤q):w.grownBy b (some R):=
 ⟨hg.os.trans h.os,hg.tape.trans h.tape,hg.output.trans h.output,Nat.le_trans h.size hg.size,fun k hk hn=>by
  rw [hg.block k (by have:=h.size;omega) (fun e=>by have:=hr k e.symm;omega)]
  exact h.block k hk hn⟩
theorem zK (m:Nat) (h:m<6): ∃t:ByteArray,t.size≤60∧(#[Value.string ⟨#[48]⟩, .string ⟨#[49]⟩, .string ⟨#[50]⟩, .string ⟨#[49,50]⟩, .string ⟨#[48,46,53]⟩, .string ⟨#[51,46,50,53]⟩]:Array Value)[m]? =some (.string t):=by
 match m,h with
 |0,_=>exact ⟨_,by decide,rfl⟩
 |1,_=>exact ⟨_,by decide,rfl⟩
 |2,_=>exact ⟨_,by decide,rfl⟩
 |3,_=>exact ⟨_,by decide,rfl⟩
 |4,_=>exact ⟨_,by decide,rfl⟩
 |5,_=>exact ⟨_,by decide,rfl⟩
theorem zL (m:Nat) (h:m<6): ∃t:ByteArray,t.size≤60∧(#[Value.string ⟨#[]⟩, .string ⟨#[97]⟩, .string ⟨#[65,98]⟩, .string ⟨#[120,10,121]⟩, .string ⟨#[34]⟩, .string ⟨#[35]⟩]:Array Value)[m]? =some (.string t):=by
 match m,h with
 |0,_=>exact ⟨_,by decide,rfl⟩
 |1,_=>exact ⟨_,by decide,rfl⟩
 |2,_=>exact ⟨_,by decide,rfl⟩
 |3,_=>exact ⟨_,by decide,rfl⟩
 |4,_=>exact ⟨_,by decide,rfl⟩
 |5,_=>exact ⟨_,by decide,rfl⟩
theorem zM (m:Nat) (h:m<2): ∃t:ByteArray,t.size≤60∧(#[Value.string ⟨#[116,114,117,101]⟩, .string ⟨#[102,97,108,115,101]⟩]:Array Value)[m]? =some (.string t):=by
 match m,h with
 |0,_=>exact ⟨_,by decide,rfl⟩
 |1,_=>exact ⟨_,by decide,rfl⟩
theorem agj (m:Nat) (h:m<9): ∃t:ByteArray,t.size≤60∧(#[Value.string ⟨#[108,101,110,103,116,104]⟩, .string ⟨#[117,112,112,101,114]⟩, .string ⟨#[109,105,110]⟩, .string ⟨#[109,97,120]⟩, .string ⟨#[102,105,114,115,116]⟩, .string ⟨#[114,101,118,101,114,115,101]⟩, .string ⟨#[99,111,110,116,97,105,110,115]⟩, .string ⟨#[106,111,105,110]⟩, .string ⟨#[102]⟩]:Array Value)[m]? =some (.string t):=by
 match m,h with
 |0,_=>exact ⟨_,by decide,rfl⟩
 |1,_=>exact ⟨_,by decide,rfl⟩
 |2,_=>exact ⟨_,by decide,rfl⟩
 |3,_=>exact ⟨_,by decide,rfl⟩
 |4,_=>exact ⟨_,by decide,rfl⟩
 |5,_=>exact ⟨_,by decide,rfl⟩
 |6,_=>exact ⟨_,by decide,rfl⟩
 |7,_=>exact ⟨_,by decide,rfl⟩
 |8,_=>exact ⟨_,by decide,rfl⟩
theorem agk (m:Nat) (h:m<2): ∃t:ByteArray,t.size≤60∧(#[Value.string ⟨#[33]⟩, .string ⟨#[45]⟩]:Array Value)[m]? =some (.string t):=by
 match m,h with
 |0,_=>exact ⟨_,by decide,rfl⟩
 |1,_=>exact ⟨_,by decide,rfl⟩
theorem agl (m:Nat) (h:m<15): ∃t:ByteArray,t.size≤60∧(#[Value.string ⟨#[124,124]⟩, .string ⟨#[38,38]⟩, .string ⟨#[61,61]⟩, .string ⟨#[33,61]⟩, .string ⟨#[60]⟩, .string ⟨#[60,61]⟩, .string ⟨#[62]⟩, .string ⟨#[62,61]⟩, .string ⟨#[43]⟩, .string ⟨#[45]⟩, .string ⟨#[42]⟩, .string ⟨#[47]⟩, .string ⟨#[37]⟩, .string ⟨#[38,38]⟩, .string ⟨#[43]⟩]:Array Value)[m]? =some (.string t):=by
 match m,h with
 |0,_=>exact ⟨_,by decide,rfl⟩
 |1,_=>exact ⟨_,by decide,rfl⟩
 |2,_=>exact ⟨_,by decide,rfl⟩
 |3,_=>exact ⟨_,by decide,rfl⟩
 |4,_=>exact ⟨_,by decide,rfl⟩
 |5,_=>exact ⟨_,by decide,rfl⟩
 |6,_=>exact ⟨_,by decide,rfl⟩
 |7,_=>exact ⟨_,by decide,rfl⟩
 |8,_=>exact ⟨_,by decide,rfl⟩
 |9,_=>exact ⟨_,by decide,rfl⟩
 |10,_=>exact ⟨_,by decide,rfl⟩
 |11,_=>exact ⟨_,by decide,rfl⟩
 |12,_=>exact ⟨_,by decide,rfl⟩
 |13,_=>exact ⟨_,by decide,rfl⟩
 |14,_=>exact ⟨_,by decide,rfl⟩
theorem zN (m:Nat) (h:m<13): ∃t:Nat,(1≤t∧t≤9)∧(#[Value.int .i64 1, .int .i64 2, .int .i64 3, .int .i64 4, .int .i64 4, .int .i64 5, .int .i64 6, .int .i64 7, .int .i64 7, .int .i64 8, .int .i64 8, .int .i64 8, .int .i64 9]:Array Value)[m]? =some (.int .i64 (t:Int)):=by
 match m,h with
 |0,_=>exact ⟨1,by decide,rfl⟩
 |1,_=>exact ⟨2,by decide,rfl⟩
 |2,_=>exact ⟨3,by decide,rfl⟩
 |3,_=>exact ⟨4,by decide,rfl⟩
 |4,_=>exact ⟨4,by decide,rfl⟩
 |5,_=>exact ⟨5,by decide,rfl⟩
 |6,_=>exact ⟨6,by decide,rfl⟩
 |7,_=>exact ⟨7,by decide,rfl⟩
 |8,_=>exact ⟨7,by decide,rfl⟩
 |9,_=>exact ⟨8,by decide,rfl⟩
 |10,_=>exact ⟨8,by decide,rfl⟩
 |11,_=>exact ⟨8,by decide,rfl⟩
 |12,_=>exact ⟨9,by decide,rfl⟩
theorem qk (deep R p K C:Nat) (w:World) (hd:deep≤1) (hp:p+8<1073741824) (hK:8≤K) (hC:1≤C) (h:Rdm w R p):
  Calls Tryz.prog 123 #[.pointer (some ⟨R,0,none⟩), .int .i64 (deep:Int)] w (CellsD R p K C w):=by
 have hdd:(deep:Int)≤1:=by omega
 go_enter Tryz.func123,Tryz.ntmps123
 go_wp2_with fail;refine (ah R p 13 _ (by omega) (h.kept (aip w _ none) (by simp))).mono ?_;rintro e w1 ⟨j,rfl,hj0,hj1,-,hr1,hg1,hs1⟩;have hj2:=hj1 (by omega);obtain ⟨j1,rfl⟩:=aiq hj0;obtain ⟨q,hq,hlit⟩:=zN j1 (by omega);have hcell:=aU h.lt hg1 hlit;have HG1:=aim (ab (aip w _ (some R)) hg1);clear hj1 hg1 hs1 hlit;go_wp2_with fail;refine (ah R (p+1) 4 _ (by omega) hr1).mono ?_;rintro e w2 ⟨i,rfl,hi0,hi1,-,hr2,hg2,hs2⟩;have hi2:=hi1 (by omega);obtain ⟨i1,rfl⟩:=aiq hi0;have HG2:=aim (ab HG1.out hg2);clear hi1 hg2 hs2 hcell
 have hi4:i1=0∨i1=1∨i1=2∨i1=3:=by omega
 clear hi0 hi2
 rcases hi4 with rfl|rfl|rfl|rfl
 ·go_wp2_with fail
  refine (ah R (p+1+1) 6 _ (by omega) (hr2.kept (aip w2 _ none) (by simp))).mono ?_;rintro e w9 ⟨i,rfl,hi0,hi1,-,hr9,hg9,hs9⟩;have hi2:=hi1 (by omega);obtain ⟨i1,rfl⟩:=aiq hi0;obtain ⟨t,ht,hlit⟩:=zK i1 (by omega);have hcell9:=aU hr2.lt hg9 hlit;have HG9:=aim (ab (ae HG2.out _) hg9);clear hi1 hg9 hs9 hlit;go_wp2;go_ret;exact CellsD.one 1 0 t ht hC (hr9.mono (by omega)) HG9.out
 ·go_wp2_with fail
  refine (ah R (p+1+1) 6 _ (by omega) (hr2.kept (aip w2 _ none) (by simp))).mono ?_;rintro e w9 ⟨i,rfl,hi0,hi1,-,hr9,hg9,hs9⟩;have hi2:=hi1 (by omega);obtain ⟨i1,rfl⟩:=aiq hi0;obtain ⟨t,ht,hlit⟩:=zL i1 (by omega);have hcell9:=aU hr2.lt hg9 hlit;have HG9:=aim (ab (ae HG2.out _) hg9);clear hi1 hg9 hs9 hlit;go_wp2;go_ret;exact CellsD.one 2 0 t ht hC (hr9.mono (by omega)) HG9.out
 ·go_wp2_with fail
  refine (ah R (p+1+1) 2 _ (by omega) (hr2.kept (aip w2 _ none) (by simp))).mono ?_;rintro e w9 ⟨i,rfl,hi0,hi1,-,hr9,hg9,hs9⟩;have hi2:=hi1 (by omega);obtain ⟨i1,rfl⟩:=aiq hi0;obtain ⟨t,ht,hlit⟩:=zM i1 (by omega);have hcell9:=aU hr2.lt hg9 hlit;have HG9:=aim (ab (ae HG2.out _) hg9);clear hi1 hg9 hs9 hlit;go_wp2;go_ret;exact CellsD.one 3 0 t ht hC (hr9.mono (by omega)) HG9.out
 ·go_wp2_with fail
  refine (uz R (p+1+1) 0 _ (by omega) (by omega) (by omega) hr2).mono ?_;rintro e w9 ⟨t,rfl,ht,hr9,hg9⟩;have HG9:=aim (ab HG2.out hg9);clear hg9;go_wp2;go_ret;exact CellsD.one 4 0 t (by omega) hC (hr9.mono (by omega)) HG9.out
theorem ab0 (deep:Nat): ∀(R p:Nat) (w:World),deep≤5→p+kp deep<1073741824→Rdm w R p→
  Calls Tryz.prog 123 #[.pointer (some ⟨R,0,none⟩), .int .i64 (deep:Int)] w (CellsD R p (kp deep) (cb deep) w):=by
 induction deep with
 |zero=>intro R p w _ hp h;exact qk 0 R p _ _ w (by omega) (by have:=qj 0;omega) (qj _) (yH _) h
 |succ d ih=>
  intro R p w hd5 hp h
  by_cases hd1:d+1≤1
  ·exact qk (d+1) R p _ _ w hd1 (by have:=qj (d+1);omega) (qj _) (yH _) h
  obtain ⟨i0,hi,hz0,hz1,hz2⟩:=info_parts gj;generalize hDD:((d+1:Nat):Int)=D
  have hD2:2≤D:=by omega
  have hD5:D≤5:=by omega
  have HDM:=aim (show D-1=(d:Int) by omega);clear hDD;have hC:=yH (d+1);have hK:=qj (d+1);have hkp:kp (d+1)=8+3*kp d:=rfl
  have hcb:cb (d+1)=1+3*cb d:=by rw [cb,if_neg (by omega)]
  have hcb5:cb d≤121:=by
   have:d=0∨d=1∨d=2∨d=3∨d=4:=by omega
   rcases this with rfl|rfl|rfl|rfl|rfl<;>decide
  have IH:=aim ih;clear ih;generalize hkd:kp d=kd at hkp;generalize hcd:cb d=cd at hcb hcb5;generalize hkD:kp (d+1)=kD at hkp hK hp;generalize hcD:cb (d+1)=cD at hcb hC;have HKD:=aim hkd;have HCD:=aim hcd;have HKP:=aim hkp;have HCB:=aim hcb;clear hkd hcd hkD hcD hkp hcb
  go_enter Tryz.func123,Tryz.ntmps123
  go_wp2_with fail;refine (ah R p 13 _ (by omega) (h.kept (aip w _ none) (by simp))).mono ?_;rintro e w1 ⟨j,rfl,hj0,hj1,-,hr1,hg1,hs1⟩;have hj2:=hj1 (by omega);obtain ⟨j1,rfl⟩:=aiq hj0;obtain ⟨q,hq,hlit⟩:=zN j1 (by omega);have hcell:=aU h.lt hg1 hlit;have HG1:=aim (ab (aip w _ (some R)) hg1);clear hj1 hg1 hs1 hlit
  have hq9:q=1∨q=2∨q=3∨q=4∨q=5∨q=6∨q=7∨q=8∨q=9:=by omega
  rcases hq9 with rfl|rfl|rfl|rfl|rfl|rfl|rfl|rfl|rfl
  ·go_wp2_with fail
   refine (ah R (p+1) 6 _ (by omega) (hr1.kept (aip w1 _ none) (by simp))).mono ?_;rintro e w9 ⟨i,rfl,hi0,hi1,-,hr9,hg9,hs9⟩;have hi2:=hi1 (by omega);obtain ⟨i1,rfl⟩:=aiq hi0;obtain ⟨t,ht,hlit⟩:=zK i1 (by omega);have hcell9:=aU hr1.lt hg9 hlit;have HG9:=aim (ab (ae HG1.out _) hg9);clear hi1 hg9 hs9 hlit;go_wp2;go_ret;exact CellsD.one 1 0 t ht hC (hr9.mono (by omega)) HG9.out
  ·go_wp2_with fail
   refine (ah R (p+1) 6 _ (by omega) (hr1.kept (aip w1 _ none) (by simp))).mono ?_;rintro e w9 ⟨i,rfl,hi0,hi1,-,hr9,hg9,hs9⟩;have hi2:=hi1 (by omega);obtain ⟨i1,rfl⟩:=aiq hi0;obtain ⟨t,ht,hlit⟩:=zL i1 (by omega);have hcell9:=aU hr1.lt hg9 hlit;have HG9:=aim (ab (ae HG1.out _) hg9);clear hi1 hg9 hs9 hlit;go_wp2;go_ret;exact CellsD.one 2 0 t ht hC (hr9.mono (by omega)) HG9.out
  ·go_wp2_with fail
   refine (ah R (p+1) 2 _ (by omega) (hr1.kept (aip w1 _ none) (by simp))).mono ?_;rintro e w9 ⟨i,rfl,hi0,hi1,-,hr9,hg9,hs9⟩;have hi2:=hi1 (by omega);obtain ⟨i1,rfl⟩:=aiq hi0;obtain ⟨t,ht,hlit⟩:=zM i1 (by omega);have hcell9:=aU hr1.lt hg9 hlit;have HG9:=aim (ab (ae HG1.out _) hg9);clear hi1 hg9 hs9 hlit;go_wp2;go_ret;exact CellsD.one 3 0 t ht hC (hr9.mono (by omega)) HG9.out
  ·go_wp2_with fail
   refine (uz R (p+1) 0 _ (by omega) (by omega) (by omega) hr1).mono ?_;rintro e w9 ⟨t,rfl,ht,hr9,hg9⟩;have HG9:=aim (ab HG1.out hg9);clear hg9;go_wp2;go_ret;exact CellsD.one 4 0 t (by omega) hC (hr9.mono (by omega)) HG9.out
  ·go_wp2_with fail
   refine (ah R (p+1) 3 _ (by omega) hr1).mono ?_;rintro e w2 ⟨i,rfl,hi0,hi1,-,hr2,hg2,hs2⟩;have hi2:=hi1 (by omega);obtain ⟨i1,rfl⟩:=aiq hi0;have HG2:=aim (ab HG1.out hg2);clear hi1 hg2 hs2 hcell;go_wp2_with fail;refine (ah R (p+1+1) 2 _ (by omega) hr2).mono ?_;rintro e w3 ⟨y,rfl,hy0,hy1,-,hr3,hg3,hs3⟩;have hy2:=hy1 (by omega);obtain ⟨y1,rfl⟩:=aiq hy0;have HG3:=aim (ab HG2.out hg3);have hr3':=hr3.kept (aip w3 (.cells #[.int .i64 0, .int .i64 0, .int .i64 0, .int .i64 0, .int .i64 0, .int .i64 (i1:Int), .int .i64 (1+(y1:Int)), .int .i64 1, .int .i64 2, .int .i64 3] 3) none) (by simp);have HG3':=aim (ae HG3.out (.cells #[.int .i64 0, .int .i64 0, .int .i64 0, .int .i64 0, .int .i64 0, .int .i64 (i1:Int), .int .i64 (1+(y1:Int)), .int .i64 1, .int .i64 2, .int .i64 3] 3));clear hy1 hg3 hs3 hr2 HG2;go_wp2_with fail
   have ht:(ByteArray.empty:ByteArray).size≤60:=by decide
   obtain ⟨M,hM⟩: ∃M:Nat,M=i1:=⟨_,rfl⟩
   have hMI:(i1:Int)=(M:Int):=by omega
   have HMI:=aim hMI;clear hMI
   have hM3:M≤3:=by omega
   have HOS:=aim (World.ownsRow_lit (base:=w.heap.size) (e:=120) (size:=3) _ #[.int .i64 5, .string ByteArray.empty, .int .i64 (i1:Int)] 1 HG3'.out.size (by unfold maxLen;omega) rfl);have HOS:=aim (show _ from (show (w3.alloc (.cells #[.int .i64 0, .int .i64 0, .int .i64 0, .int .i64 0, .int .i64 0, .int .i64 (i1:Int), .int .i64 (1+(y1:Int)), .int .i64 1, .int .i64 2, .int .i64 3] 3)).heap.size=w3.heap.size+1 by simp)▸HOS.out);have HGS:=aim (ae HG3'.out (.cells #[.int .i64 5, .string ByteArray.empty, .int .i64 (i1:Int)] 120));have HRS:=aim ((hr3'.kept (aip _ (.cells #[.int .i64 5, .string ByteArray.empty, .int .i64 (i1:Int)] 120) none) (by simp)).mono (show _≤p+4+0*kd by omega));have HLT:=aim h.lt
   go_loopw [8,9] (fun out i wr=> ∃(k:Nat) (l':List Cl),k≤M∧i= .int .i64 (k:Int)∧wr.ownsRow w.heap.size 120 3 out l'.length (ap l')∧(∀c∈l',c.2.1.size≤60)∧1≤l'.length∧l'.length≤1+k*cd∧Rdm wr R (p+4+k*kd)∧w.grownBy wr (some R)) (fun _ i _=>M-(intOf i).toNat)
   case atStart=>exact ⟨0,[(5,ByteArray.empty,(i1:Int))],air _,rfl,HOS.out,(fun c hc=>by rw [List.mem_singleton] at hc;subst hc;exact ht),ain _,by simp,HRS.out,HGS.out⟩
   case round=>
    obtain ⟨k,l',hk,rfl,hown,hsh,hl1,hlc,hr,hg⟩:=hrel;have HO:=aim hown;have HSH:=aim hsh;have HR:=aim hr;have HG:=aim hg;clear hown hsh hr hg;have hkc:k*cd≤3*cd:=Nat.mul_le_mul_right _ (by omega);have hkk:k*kd≤3*kd:=Nat.mul_le_mul_right _ (by omega);have HS1:=aim (show (k+1)*cd=k*cd+cd from Nat.succ_mul k cd);have HS2:=aim (show (k+1)*kd=k*kd+kd from Nat.succ_mul k kd)
    by_cases hlt:k<M
    ·have hltI:(k:Int)<(i1:Int):=by have:=HMI.out;omega
     have hkk1:(k+1)*kd≤3*kd:=Nat.mul_le_mul_right _ (by omega)
     have hb1:p+4+k*kd+kd<1073741824:=by have:=HS2.out;have:=HKP.out;omega
     go_wp2_with fail;rw [HDM.out];refine (IH.out R (p+4+k*kd) _ (by omega) (by rw [HKD.out];exact hb1) HR.out).mono ?_;rintro e w5 ⟨v5,l5,rfl,ho5,hsh5,h15,hc5,hr5,hg5⟩;rw [HKD.out] at hr5;rw [HCD.out] at hc5;have HO5:=aim (HO.out.kept hg5 (.inr (by intro he;have:=(HO.out.lt _ he).1;have:=HLT.out;omega)));have HG5:=aim (ab HG.out hg5);have HP5:=aim ho5;have HSH5:=aim hsh5;have HR5:=aim hr5;clear ho5 hsh5 hr5 hg5
     have hll:l'.length+l5.length≤1000:=by omega
     go_wp2_with (at_builtin;refine aK rfl _ _ 23 rfl w.heap.size 120 i0 (.agg #[.int .i64 0, .string ByteArray.empty, .int .i64 0]) 3 32 Tryz.underlying23 hi hz0 hz1 hz2 rfl (by decide) _ _ _ rfl HO5.out _ _ _ _ rfl HP5.out (aE _) (by unfold maxLen;omega) (by omega) HG5.out.size ?_;intro v6 w6 hown6 hgrow6;have HO6:=aim hown6;have HG6:=aim (az HG5.out hgrow6 (fun q hq=>(HO5.out.lt q hq).1));have HR6:=aim (HR5.out.kept hgrow6 (fun q hq=>by have:=(HO5.out.lt q hq).1;have:=HLT.out;omega));clear hown6 hgrow6)
     go_roundw
     case rel=>exact ⟨k+1,l'++l5,by omega,by go_num,by rw [aio,aB];exact HO6.out,(fun c hc=>by rw [List.mem_append] at hc;exact hc.elim (HSH.out c) (HSH5.out c)),by rw [aio];omega,by rw [aio];have:=HS1.out;omega,HR6.out.mono (by have:=HS2.out;omega),HG6.out⟩
     case measure=>simp [intOf];omega
    ·obtain rfl:k=M:=by omega
     have hltI: ¬(k:Int)<(i1:Int):=by have:=HMI.out;omega
     go_wp2;go_ret;exact ⟨_,l',rfl,HO.out,HSH.out,hl1,by have:=HCB.out;omega,HR.out.mono (by have:=HKP.out;omega),HG.out⟩
  ·go_wp2_with fail
   refine (ah R (p+1) 3 _ (by omega) hr1).mono ?_;rintro e w2 ⟨i,rfl,hi0,hi1,-,hr2,hg2,hs2⟩;have hi2:=hi1 (by omega);obtain ⟨i1,rfl⟩:=aiq hi0;have HG2:=aim (ab HG1.out hg2);clear hi1 hg2 hs2 hcell;go_wp2_with fail;refine (ah R (p+1+1) 2 _ (by omega) hr2).mono ?_;rintro e w3 ⟨y,rfl,hy0,hy1,-,hr3,hg3,hs3⟩;have hy2:=hy1 (by omega);obtain ⟨y1,rfl⟩:=aiq hy0;have HG3:=aim (ab HG2.out hg3);have hr3':=hr3.kept (aip w3 (.cells #[.int .i64 0, .int .i64 0, .int .i64 0, .int .i64 0, .int .i64 0, .int .i64 (i1:Int), .int .i64 (1+(y1:Int)), .int .i64 1, .int .i64 2, .int .i64 3] 3) none) (by simp);have HG3':=aim (ae HG3.out (.cells #[.int .i64 0, .int .i64 0, .int .i64 0, .int .i64 0, .int .i64 0, .int .i64 (i1:Int), .int .i64 (1+(y1:Int)), .int .i64 1, .int .i64 2, .int .i64 3] 3));clear hy1 hg3 hs3 hr2 HG2;go_wp2_with fail;refine (ah R (p+1+1+1) 9 _ (by omega) (hr3'.kept (aip _ _ none) (by simp))).mono ?_;rintro e w9 ⟨x,rfl,hx0,hx1,-,hr9,hg9,hs9⟩;have hx2:=hx1 (by omega);obtain ⟨x1,rfl⟩:=aiq hx0;obtain ⟨t,ht,hlit⟩:=agj x1 (by omega);have hcell9:=ib hr3.lt hg9 hlit;have HG9:=aim (ab (ae HG3'.out _) hg9);clear hx1 hg9 hs9 hlit;go_wp2_with fail
   obtain ⟨M,hM⟩: ∃M:Nat,M=(1+y1):=⟨_,rfl⟩
   have hMI:(1+(y1:Int))=(M:Int):=by omega
   have HMI:=aim hMI;clear hMI
   have hM3:M≤3:=by omega
   have HOS:=aim (World.ownsRow_lit (base:=w.heap.size) (e:=120) (size:=3) _ #[.int .i64 6, .string t, .int .i64 (1+(y1:Int))] 1 HG9.out.size (by unfold maxLen;omega) rfl);have HGS:=aim (ae HG9.out (.cells #[.int .i64 6, .string t, .int .i64 (1+(y1:Int))] 120));have HRS:=aim ((hr9.kept (aip _ (.cells #[.int .i64 6, .string t, .int .i64 (1+(y1:Int))] 120) none) (by simp)).mono (show _≤p+4+0*kd by omega));have HLT:=aim h.lt
   go_loopw [8,9] (fun out i wr=> ∃(k:Nat) (l':List Cl),k≤M∧i= .int .i64 (k:Int)∧wr.ownsRow w.heap.size 120 3 out l'.length (ap l')∧(∀c∈l',c.2.1.size≤60)∧1≤l'.length∧l'.length≤1+k*cd∧Rdm wr R (p+4+k*kd)∧w.grownBy wr (some R)) (fun _ i _=>M-(intOf i).toNat)
   case atStart=>exact ⟨0,[(6,t,(1+(y1:Int)))],air _,rfl,HOS.out,(fun c hc=>by rw [List.mem_singleton] at hc;subst hc;exact ht),ain _,by simp,HRS.out,HGS.out⟩
   case round=>
    obtain ⟨k,l',hk,rfl,hown,hsh,hl1,hlc,hr,hg⟩:=hrel;have HO:=aim hown;have HSH:=aim hsh;have HR:=aim hr;have HG:=aim hg;clear hown hsh hr hg;have hkc:k*cd≤3*cd:=Nat.mul_le_mul_right _ (by omega);have hkk:k*kd≤3*kd:=Nat.mul_le_mul_right _ (by omega);have HS1:=aim (show (k+1)*cd=k*cd+cd from Nat.succ_mul k cd);have HS2:=aim (show (k+1)*kd=k*kd+kd from Nat.succ_mul k kd)
    by_cases hlt:k<M
    ·have hltI:(k:Int)<(1+(y1:Int)):=by have:=HMI.out;omega
     have hkk1:(k+1)*kd≤3*kd:=Nat.mul_le_mul_right _ (by omega)
     have hb1:p+4+k*kd+kd<1073741824:=by have:=HS2.out;have:=HKP.out;omega
     go_wp2_with fail;rw [HDM.out];refine (IH.out R (p+4+k*kd) _ (by omega) (by rw [HKD.out];exact hb1) HR.out).mono ?_;rintro e w5 ⟨v5,l5,rfl,ho5,hsh5,h15,hc5,hr5,hg5⟩;rw [HKD.out] at hr5;rw [HCD.out] at hc5;have HO5:=aim (HO.out.kept hg5 (.inr (by intro he;have:=(HO.out.lt _ he).1;have:=HLT.out;omega)));have HG5:=aim (ab HG.out hg5);have HP5:=aim ho5;have HSH5:=aim hsh5;have HR5:=aim hr5;clear ho5 hsh5 hr5 hg5
     have hll:l'.length+l5.length≤1000:=by omega
     go_wp2_with (at_builtin;refine aK rfl _ _ 23 rfl w.heap.size 120 i0 (.agg #[.int .i64 0, .string ByteArray.empty, .int .i64 0]) 3 32 Tryz.underlying23 hi hz0 hz1 hz2 rfl (by decide) _ _ _ rfl HO5.out _ _ _ _ rfl HP5.out (aE _) (by unfold maxLen;omega) (by omega) HG5.out.size ?_;intro v6 w6 hown6 hgrow6;have HO6:=aim hown6;have HG6:=aim (az HG5.out hgrow6 (fun q hq=>(HO5.out.lt q hq).1));have HR6:=aim (HR5.out.kept hgrow6 (fun q hq=>by have:=(HO5.out.lt q hq).1;have:=HLT.out;omega));clear hown6 hgrow6)
     go_roundw
     case rel=>exact ⟨k+1,l'++l5,by omega,by go_num,by rw [aio,aB];exact HO6.out,(fun c hc=>by rw [List.mem_append] at hc;exact hc.elim (HSH.out c) (HSH5.out c)),by rw [aio];omega,by rw [aio];have:=HS1.out;omega,HR6.out.mono (by have:=HS2.out;omega),HG6.out⟩
     case measure=>simp [intOf];omega
    ·obtain rfl:k=M:=by omega
     have hltI: ¬(k:Int)<(1+(y1:Int)):=by have:=HMI.out;omega
     go_wp2;go_ret;exact ⟨_,l',rfl,HO.out,HSH.out,hl1,by have:=HCB.out;omega,HR.out.mono (by have:=HKP.out;omega),HG.out⟩
  ·go_wp2_with fail
   refine (ah R (p+1) 3 _ (by omega) hr1).mono ?_;rintro e w2 ⟨i,rfl,hi0,hi1,-,hr2,hg2,hs2⟩;have hi2:=hi1 (by omega);obtain ⟨i1,rfl⟩:=aiq hi0;have HG2:=aim (ab HG1.out hg2);clear hi1 hg2 hs2 hcell;go_wp2_with fail;refine (ah R (p+1+1) 2 _ (by omega) hr2).mono ?_;rintro e w3 ⟨y,rfl,hy0,hy1,-,hr3,hg3,hs3⟩;have hy2:=hy1 (by omega);obtain ⟨y1,rfl⟩:=aiq hy0;have HG3:=aim (ab HG2.out hg3);have hr3':=hr3.kept (aip w3 (.cells #[.int .i64 0, .int .i64 0, .int .i64 0, .int .i64 0, .int .i64 0, .int .i64 (i1:Int), .int .i64 (1+(y1:Int)), .int .i64 1, .int .i64 2, .int .i64 3] 3) none) (by simp);have HG3':=aim (ae HG3.out (.cells #[.int .i64 0, .int .i64 0, .int .i64 0, .int .i64 0, .int .i64 0, .int .i64 (i1:Int), .int .i64 (1+(y1:Int)), .int .i64 1, .int .i64 2, .int .i64 3] 3));clear hy1 hg3 hs3 hr2 HG2;go_wp2_with fail;refine (ah R (p+1+1+1) 2 _ (by omega) (hr3'.kept (aip _ _ none) (by simp))).mono ?_;rintro e w9 ⟨x,rfl,hx0,hx1,-,hr9,hg9,hs9⟩;have hx2:=hx1 (by omega);obtain ⟨x1,rfl⟩:=aiq hx0;obtain ⟨t,ht,hlit⟩:=agk x1 (by omega);have hcell9:=ib hr3.lt hg9 hlit;have HG9:=aim (ab (ae HG3'.out _) hg9);clear hx1 hg9 hs9 hlit;go_wp2_with fail
   obtain ⟨M,hM⟩: ∃M:Nat,M=1:=⟨_,rfl⟩
   have hMI:1=(M:Int):=by omega
   have HMI:=aim hMI;clear hMI
   have hM3:M≤3:=by omega
   have HOS:=aim (World.ownsRow_lit (base:=w.heap.size) (e:=120) (size:=3) _ #[.int .i64 7, .string t, .int .i64 1] 1 HG9.out.size (by unfold maxLen;omega) rfl);have HGS:=aim (ae HG9.out (.cells #[.int .i64 7, .string t, .int .i64 1] 120));have HRS:=aim ((hr9.kept (aip _ (.cells #[.int .i64 7, .string t, .int .i64 1] 120) none) (by simp)).mono (show _≤p+4+0*kd by omega));have HLT:=aim h.lt
   go_loopw [8,9] (fun out i wr=> ∃(k:Nat) (l':List Cl),k≤M∧i= .int .i64 (k:Int)∧wr.ownsRow w.heap.size 120 3 out l'.length (ap l')∧(∀c∈l',c.2.1.size≤60)∧1≤l'.length∧l'.length≤1+k*cd∧Rdm wr R (p+4+k*kd)∧w.grownBy wr (some R)) (fun _ i _=>M-(intOf i).toNat)
   case atStart=>exact ⟨0,[(7,t,1)],air _,rfl,HOS.out,(fun c hc=>by rw [List.mem_singleton] at hc;subst hc;exact ht),ain _,by simp,HRS.out,HGS.out⟩
   case round=>
    obtain ⟨k,l',hk,rfl,hown,hsh,hl1,hlc,hr,hg⟩:=hrel;have HO:=aim hown;have HSH:=aim hsh;have HR:=aim hr;have HG:=aim hg;clear hown hsh hr hg;have hkc:k*cd≤3*cd:=Nat.mul_le_mul_right _ (by omega);have hkk:k*kd≤3*kd:=Nat.mul_le_mul_right _ (by omega);have HS1:=aim (show (k+1)*cd=k*cd+cd from Nat.succ_mul k cd);have HS2:=aim (show (k+1)*kd=k*kd+kd from Nat.succ_mul k kd)
    by_cases hlt:k<M
    ·have hltI:(k:Int)<1:=by have:=HMI.out;omega
     have hkk1:(k+1)*kd≤3*kd:=Nat.mul_le_mul_right _ (by omega)
     have hb1:p+4+k*kd+kd<1073741824:=by have:=HS2.out;have:=HKP.out;omega
     go_wp2_with fail;rw [HDM.out];refine (IH.out R (p+4+k*kd) _ (by omega) (by rw [HKD.out];exact hb1) HR.out).mono ?_;rintro e w5 ⟨v5,l5,rfl,ho5,hsh5,h15,hc5,hr5,hg5⟩;rw [HKD.out] at hr5;rw [HCD.out] at hc5;have HO5:=aim (HO.out.kept hg5 (.inr (by intro he;have:=(HO.out.lt _ he).1;have:=HLT.out;omega)));have HG5:=aim (ab HG.out hg5);have HP5:=aim ho5;have HSH5:=aim hsh5;have HR5:=aim hr5;clear ho5 hsh5 hr5 hg5
     have hll:l'.length+l5.length≤1000:=by omega
     go_wp2_with (at_builtin;refine aK rfl _ _ 23 rfl w.heap.size 120 i0 (.agg #[.int .i64 0, .string ByteArray.empty, .int .i64 0]) 3 32 Tryz.underlying23 hi hz0 hz1 hz2 rfl (by decide) _ _ _ rfl HO5.out _ _ _ _ rfl HP5.out (aE _) (by unfold maxLen;omega) (by omega) HG5.out.size ?_;intro v6 w6 hown6 hgrow6;have HO6:=aim hown6;have HG6:=aim (az HG5.out hgrow6 (fun q hq=>(HO5.out.lt q hq).1));have HR6:=aim (HR5.out.kept hgrow6 (fun q hq=>by have:=(HO5.out.lt q hq).1;have:=HLT.out;omega));clear hown6 hgrow6)
     go_roundw
     case rel=>exact ⟨k+1,l'++l5,by omega,by go_num,by rw [aio,aB];exact HO6.out,(fun c hc=>by rw [List.mem_append] at hc;exact hc.elim (HSH.out c) (HSH5.out c)),by rw [aio];omega,by rw [aio];have:=HS1.out;omega,HR6.out.mono (by have:=HS2.out;omega),HG6.out⟩
     case measure=>simp [intOf];omega
    ·obtain rfl:k=M:=by omega
     have hltI: ¬(k:Int)<1:=by have:=HMI.out;omega
     go_wp2;go_ret;exact ⟨_,l',rfl,HO.out,HSH.out,hl1,by have:=HCB.out;omega,HR.out.mono (by have:=HKP.out;omega),HG.out⟩
  ·go_wp2_with fail
   refine (ah R (p+1) 3 _ (by omega) hr1).mono ?_;rintro e w2 ⟨i,rfl,hi0,hi1,-,hr2,hg2,hs2⟩;have hi2:=hi1 (by omega);obtain ⟨i1,rfl⟩:=aiq hi0;have HG2:=aim (ab HG1.out hg2);clear hi1 hg2 hs2 hcell;go_wp2_with fail;refine (ah R (p+1+1) 2 _ (by omega) hr2).mono ?_;rintro e w3 ⟨y,rfl,hy0,hy1,-,hr3,hg3,hs3⟩;have hy2:=hy1 (by omega);obtain ⟨y1,rfl⟩:=aiq hy0;have HG3:=aim (ab HG2.out hg3);have hr3':=hr3.kept (aip w3 (.cells #[.int .i64 0, .int .i64 0, .int .i64 0, .int .i64 0, .int .i64 0, .int .i64 (i1:Int), .int .i64 (1+(y1:Int)), .int .i64 1, .int .i64 2, .int .i64 3] 3) none) (by simp);have HG3':=aim (ae HG3.out (.cells #[.int .i64 0, .int .i64 0, .int .i64 0, .int .i64 0, .int .i64 0, .int .i64 (i1:Int), .int .i64 (1+(y1:Int)), .int .i64 1, .int .i64 2, .int .i64 3] 3));clear hy1 hg3 hs3 hr2 HG2;go_wp2_with fail;refine (ah R (p+1+1+1) 15 _ (by omega) (hr3'.kept (aip _ _ none) (by simp))).mono ?_;rintro e w9 ⟨x,rfl,hx0,hx1,-,hr9,hg9,hs9⟩;have hx2:=hx1 (by omega);obtain ⟨x1,rfl⟩:=aiq hx0;obtain ⟨t,ht,hlit⟩:=agl x1 (by omega);have hcell9:=ib hr3.lt hg9 hlit;have HG9:=aim (ab (ae HG3'.out _) hg9);clear hx1 hg9 hs9 hlit;go_wp2_with fail
   obtain ⟨M,hM⟩: ∃M:Nat,M=2:=⟨_,rfl⟩
   have hMI:2=(M:Int):=by omega
   have HMI:=aim hMI;clear hMI
   have hM3:M≤3:=by omega
   have HOS:=aim (World.ownsRow_lit (base:=w.heap.size) (e:=120) (size:=3) _ #[.int .i64 8, .string t, .int .i64 2] 1 HG9.out.size (by unfold maxLen;omega) rfl);have HGS:=aim (ae HG9.out (.cells #[.int .i64 8, .string t, .int .i64 2] 120));have HRS:=aim ((hr9.kept (aip _ (.cells #[.int .i64 8, .string t, .int .i64 2] 120) none) (by simp)).mono (show _≤p+4+0*kd by omega));have HLT:=aim h.lt
   go_loopw [8,9] (fun out i wr=> ∃(k:Nat) (l':List Cl),k≤M∧i= .int .i64 (k:Int)∧wr.ownsRow w.heap.size 120 3 out l'.length (ap l')∧(∀c∈l',c.2.1.size≤60)∧1≤l'.length∧l'.length≤1+k*cd∧Rdm wr R (p+4+k*kd)∧w.grownBy wr (some R)) (fun _ i _=>M-(intOf i).toNat)
   case atStart=>exact ⟨0,[(8,t,2)],air _,rfl,HOS.out,(fun c hc=>by rw [List.mem_singleton] at hc;subst hc;exact ht),ain _,by simp,HRS.out,HGS.out⟩
   case round=>
    obtain ⟨k,l',hk,rfl,hown,hsh,hl1,hlc,hr,hg⟩:=hrel;have HO:=aim hown;have HSH:=aim hsh;have HR:=aim hr;have HG:=aim hg;clear hown hsh hr hg;have hkc:k*cd≤3*cd:=Nat.mul_le_mul_right _ (by omega);have hkk:k*kd≤3*kd:=Nat.mul_le_mul_right _ (by omega);have HS1:=aim (show (k+1)*cd=k*cd+cd from Nat.succ_mul k cd);have HS2:=aim (show (k+1)*kd=k*kd+kd from Nat.succ_mul k kd)
    by_cases hlt:k<M
    ·have hltI:(k:Int)<2:=by have:=HMI.out;omega
     have hkk1:(k+1)*kd≤3*kd:=Nat.mul_le_mul_right _ (by omega)
     have hb1:p+4+k*kd+kd<1073741824:=by have:=HS2.out;have:=HKP.out;omega
     go_wp2_with fail;rw [HDM.out];refine (IH.out R (p+4+k*kd) _ (by omega) (by rw [HKD.out];exact hb1) HR.out).mono ?_;rintro e w5 ⟨v5,l5,rfl,ho5,hsh5,h15,hc5,hr5,hg5⟩;rw [HKD.out] at hr5;rw [HCD.out] at hc5;have HO5:=aim (HO.out.kept hg5 (.inr (by intro he;have:=(HO.out.lt _ he).1;have:=HLT.out;omega)));have HG5:=aim (ab HG.out hg5);have HP5:=aim ho5;have HSH5:=aim hsh5;have HR5:=aim hr5;clear ho5 hsh5 hr5 hg5
     have hll:l'.length+l5.length≤1000:=by omega
     go_wp2_with (at_builtin;refine aK rfl _ _ 23 rfl w.heap.size 120 i0 (.agg #[.int .i64 0, .string ByteArray.empty, .int .i64 0]) 3 32 Tryz.underlying23 hi hz0 hz1 hz2 rfl (by decide) _ _ _ rfl HO5.out _ _ _ _ rfl HP5.out (aE _) (by unfold maxLen;omega) (by omega) HG5.out.size ?_;intro v6 w6 hown6 hgrow6;have HO6:=aim hown6;have HG6:=aim (az HG5.out hgrow6 (fun q hq=>(HO5.out.lt q hq).1));have HR6:=aim (HR5.out.kept hgrow6 (fun q hq=>by have:=(HO5.out.lt q hq).1;have:=HLT.out;omega));clear hown6 hgrow6)
     go_roundw
     case rel=>exact ⟨k+1,l'++l5,by omega,by go_num,by rw [aio,aB];exact HO6.out,(fun c hc=>by rw [List.mem_append] at hc;exact hc.elim (HSH.out c) (HSH5.out c)),by rw [aio];omega,by rw [aio];have:=HS1.out;omega,HR6.out.mono (by have:=HS2.out;omega),HG6.out⟩
     case measure=>simp [intOf];omega
    ·obtain rfl:k=M:=by omega
     have hltI: ¬(k:Int)<2:=by have:=HMI.out;omega
     go_wp2;go_ret;exact ⟨_,l',rfl,HO.out,HSH.out,hl1,by have:=HCB.out;omega,HR.out.mono (by have:=HKP.out;omega),HG.out⟩
  ·go_wp2_with fail
   refine (ah R (p+1) 3 _ (by omega) hr1).mono ?_;rintro e w2 ⟨i,rfl,hi0,hi1,-,hr2,hg2,hs2⟩;have hi2:=hi1 (by omega);obtain ⟨i1,rfl⟩:=aiq hi0;have HG2:=aim (ab HG1.out hg2);clear hi1 hg2 hs2 hcell;go_wp2_with fail;refine (ah R (p+1+1) 2 _ (by omega) hr2).mono ?_;rintro e w3 ⟨y,rfl,hy0,hy1,-,hr3,hg3,hs3⟩;have hy2:=hy1 (by omega);obtain ⟨y1,rfl⟩:=aiq hy0;have HG3:=aim (ab HG2.out hg3);have hr3':=hr3.kept (aip w3 (.cells #[.int .i64 0, .int .i64 0, .int .i64 0, .int .i64 0, .int .i64 0, .int .i64 (i1:Int), .int .i64 (1+(y1:Int)), .int .i64 1, .int .i64 2, .int .i64 3] 3) none) (by simp);have HG3':=aim (ae HG3.out (.cells #[.int .i64 0, .int .i64 0, .int .i64 0, .int .i64 0, .int .i64 0, .int .i64 (i1:Int), .int .i64 (1+(y1:Int)), .int .i64 1, .int .i64 2, .int .i64 3] 3));clear hy1 hg3 hs3 hr2 HG2;go_wp2_with fail
   have ht:(ByteArray.empty:ByteArray).size≤60:=by decide
   obtain ⟨M,hM⟩: ∃M:Nat,M=3:=⟨_,rfl⟩
   have hMI:3=(M:Int):=by omega
   have HMI:=aim hMI;clear hMI
   have hM3:M≤3:=by omega
   have HOS:=aim (World.ownsRow_lit (base:=w.heap.size) (e:=120) (size:=3) _ #[.int .i64 9, .string ByteArray.empty, .int .i64 3] 1 HG3'.out.size (by unfold maxLen;omega) rfl);have HOS:=aim (show _ from (show (w3.alloc (.cells #[.int .i64 0, .int .i64 0, .int .i64 0, .int .i64 0, .int .i64 0, .int .i64 (i1:Int), .int .i64 (1+(y1:Int)), .int .i64 1, .int .i64 2, .int .i64 3] 3)).heap.size=w3.heap.size+1 by simp)▸HOS.out);have HGS:=aim (ae HG3'.out (.cells #[.int .i64 9, .string ByteArray.empty, .int .i64 3] 120));have HRS:=aim ((hr3'.kept (aip _ (.cells #[.int .i64 9, .string ByteArray.empty, .int .i64 3] 120) none) (by simp)).mono (show _≤p+4+0*kd by omega));have HLT:=aim h.lt
   go_loopw [8,9] (fun out i wr=> ∃(k:Nat) (l':List Cl),k≤M∧i= .int .i64 (k:Int)∧wr.ownsRow w.heap.size 120 3 out l'.length (ap l')∧(∀c∈l',c.2.1.size≤60)∧1≤l'.length∧l'.length≤1+k*cd∧Rdm wr R (p+4+k*kd)∧w.grownBy wr (some R)) (fun _ i _=>M-(intOf i).toNat)
   case atStart=>exact ⟨0,[(9,ByteArray.empty,3)],air _,rfl,HOS.out,(fun c hc=>by rw [List.mem_singleton] at hc;subst hc;exact ht),ain _,by simp,HRS.out,HGS.out⟩
   case round=>
    obtain ⟨k,l',hk,rfl,hown,hsh,hl1,hlc,hr,hg⟩:=hrel;have HO:=aim hown;have HSH:=aim hsh;have HR:=aim hr;have HG:=aim hg;clear hown hsh hr hg;have hkc:k*cd≤3*cd:=Nat.mul_le_mul_right _ (by omega);have hkk:k*kd≤3*kd:=Nat.mul_le_mul_right _ (by omega);have HS1:=aim (show (k+1)*cd=k*cd+cd from Nat.succ_mul k cd);have HS2:=aim (show (k+1)*kd=k*kd+kd from Nat.succ_mul k kd)
    by_cases hlt:k<M
    ·have hltI:(k:Int)<3:=by have:=HMI.out;omega
     have hkk1:(k+1)*kd≤3*kd:=Nat.mul_le_mul_right _ (by omega)
     have hb1:p+4+k*kd+kd<1073741824:=by have:=HS2.out;have:=HKP.out;omega
     go_wp2_with fail;rw [HDM.out];refine (IH.out R (p+4+k*kd) _ (by omega) (by rw [HKD.out];exact hb1) HR.out).mono ?_;rintro e w5 ⟨v5,l5,rfl,ho5,hsh5,h15,hc5,hr5,hg5⟩;rw [HKD.out] at hr5;rw [HCD.out] at hc5;have HO5:=aim (HO.out.kept hg5 (.inr (by intro he;have:=(HO.out.lt _ he).1;have:=HLT.out;omega)));have HG5:=aim (ab HG.out hg5);have HP5:=aim ho5;have HSH5:=aim hsh5;have HR5:=aim hr5;clear ho5 hsh5 hr5 hg5
     have hll:l'.length+l5.length≤1000:=by omega
     go_wp2_with (at_builtin;refine aK rfl _ _ 23 rfl w.heap.size 120 i0 (.agg #[.int .i64 0, .string ByteArray.empty, .int .i64 0]) 3 32 Tryz.underlying23 hi hz0 hz1 hz2 rfl (by decide) _ _ _ rfl HO5.out _ _ _ _ rfl HP5.out (aE _) (by unfold maxLen;omega) (by omega) HG5.out.size ?_;intro v6 w6 hown6 hgrow6;have HO6:=aim hown6;have HG6:=aim (az HG5.out hgrow6 (fun q hq=>(HO5.out.lt q hq).1));have HR6:=aim (HR5.out.kept hgrow6 (fun q hq=>by have:=(HO5.out.lt q hq).1;have:=HLT.out;omega));clear hown6 hgrow6)
     go_roundw
     case rel=>exact ⟨k+1,l'++l5,by omega,by go_num,by rw [aio,aB];exact HO6.out,(fun c hc=>by rw [List.mem_append] at hc;exact hc.elim (HSH.out c) (HSH5.out c)),by rw [aio];omega,by rw [aio];have:=HS1.out;omega,HR6.out.mono (by have:=HS2.out;omega),HG6.out⟩
     case measure=>simp [intOf];omega
    ·obtain rfl:k=M:=by omega
     have hltI: ¬(k:Int)<3:=by have:=HMI.out;omega
     go_wp2;go_ret;exact ⟨_,l',rfl,HO.out,HSH.out,hl1,by have:=HCB.out;omega,HR.out.mono (by have:=HKP.out;omega),HG.out⟩
end Go.Proofs.YthijkjnngfnfdaaGreatDoor
