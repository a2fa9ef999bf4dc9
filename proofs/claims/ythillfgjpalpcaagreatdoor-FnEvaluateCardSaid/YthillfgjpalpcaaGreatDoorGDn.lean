/-
  Several texts of the proof in one file: DrawNameN, DrawCellsN, DrawExprN.
-/
import Derived.Test.YthillfgjpalpcaaGreatDoorBaseD
import Derived.Test.YthillfgjpalpcaaGreatDoorBaseL
import Derived.Deep.Onto
set_option linter.unusedVariables false
set_option maxHeartbeats 8000000
set_option maxRecDepth 100000
namespace Go.Proofs.YthillfgjpalpcaaGreatDoor
open Go.RowKit
def wdN (t:ByteArray):Bool:=decide (t.size≤60)&&t.data.toList !=[110,111,119,104,101,114,101]
theorem wdN_size {t:ByteArray} (h:wdN t=true):t.size≤60:=by
 unfold wdN at h
 rw [Bool.and_eq_true,decide_eq_true_eq] at h
 exact h.1
theorem wdN_ne {t:ByteArray} (h:wdN t=true):t≠⟨#[110,111,119,104,101,114,101]⟩:=by
 rintro rfl
 exact absurd h (by decide)
theorem wdN_few {t:ByteArray} (h:t.size≤5):wdN t=true:=by
 unfold wdN
 rw [Bool.and_eq_true,decide_eq_true_eq]
 refine ⟨by omega, ?_⟩
 rw [bne_iff_ne]
 intro e
 have:=congrArg List.length e
 rw [Array.length_toList] at this
 have h2:t.size=7:=this
 omega
def Names (R p:Nat) (w:World) (e:Ending) (w':World):Prop:=
 ∃s:ByteArray,e= .returned (.string s)∧wdN s=true∧Rdm w' R (p+2)∧w.grownBy w' (some R)
theorem lit_cell2 {w w':World} {R:Nat} {C:Array Value} {t:TypeId} {o:Obj} {m:Nat} {v:Value} (hR:R<w.heap.size) (hg:((w.alloc (.cells C t)).alloc o).grownBy w' (some R)) (hv:C[m]? =some v):w'.cell? ⟨w.heap.size,m,none⟩=some v:=by
 refine hg.cell (a:=⟨w.heap.size,m,none⟩) ((World.grownBy_alloc _ o none).cell (a:=⟨w.heap.size,m,none⟩) ?_ (by simp)) (by intro e;simp only [Option.some.injEq] at e;omega)
 simp only [World.cell?,heap_alloc_new]
 simpa using hv
theorem lit_cell1 {w w':World} {R:Nat} {C:Array Value} {t:TypeId} {o:Obj} {m:Nat} {v:Value} (hR:R<w.heap.size) (hg:((w.alloc o).alloc (.cells C t)).grownBy w' (some R)) (hv:C[m]? =some v):w'.cell? ⟨w.heap.size+1,m,none⟩=some v:=by
 have hs:(w.alloc o).heap.size=w.heap.size+1:=by simp
 rw [←hs]
 exact lit_cell (by omega) hg hv
theorem name12 (m:Nat) (h:m<12): ∃t:ByteArray,wdN t=true∧(#[Value.string ⟨#[]⟩, .string ⟨#[65]⟩, .string ⟨#[49,97]⟩, .string ⟨#[95,97]⟩, .string ⟨#[97,46]⟩, .string ⟨#[46,97]⟩, .string ⟨#[97,46,46,98]⟩, .string ⟨#[116,114,117,101]⟩, .string ⟨#[102,97,108,115,101]⟩, .string ⟨#[97,98,99,100,101,102,103,104,105,106,107,108,109]⟩, .string ⟨#[97,32,98]⟩, .string ⟨#[97,45,98]⟩]:Array Value)[m]? =some (.string t):=by
 match m,h with
 |0,_=>exact ⟨_,by decide,rfl⟩
 |1,_=>exact ⟨_,by decide,rfl⟩
 |2,_=>exact ⟨_,by decide,rfl⟩
 |3,_=>exact ⟨_,by decide,rfl⟩
 |4,_=>exact ⟨_,by decide,rfl⟩
 |5,_=>exact ⟨_,by decide,rfl⟩
 |6,_=>exact ⟨_,by decide,rfl⟩
 |7,_=>exact ⟨_,by decide,rfl⟩
 |8,_=>exact ⟨_,by decide,rfl⟩
 |9,_=>exact ⟨_,by decide,rfl⟩
 |10,_=>exact ⟨_,by decide,rfl⟩
 |11,_=>exact ⟨_,by decide,rfl⟩
theorem name10 (m:Nat) (h:m<10): ∃t:ByteArray,wdN t=true∧(#[Value.string ⟨#[97]⟩, .string ⟨#[98]⟩, .string ⟨#[99]⟩, .string ⟨#[120,49]⟩, .string ⟨#[108,111,110,103,95,110,97,109,101]⟩, .string ⟨#[113,46,97]⟩, .string ⟨#[113,46,98]⟩, .string ⟨#[113,46,115,46,97]⟩, .string ⟨#[97,98,99,100,101,102,103,104,105,106,107,108]⟩, .string ⟨#[116,114,117,116,104]⟩]:Array Value)[m]? =some (.string t):=by
 match m,h with
 |0,_=>exact ⟨_,by decide,rfl⟩
 |1,_=>exact ⟨_,by decide,rfl⟩
 |2,_=>exact ⟨_,by decide,rfl⟩
 |3,_=>exact ⟨_,by decide,rfl⟩
 |4,_=>exact ⟨_,by decide,rfl⟩
 |5,_=>exact ⟨_,by decide,rfl⟩
 |6,_=>exact ⟨_,by decide,rfl⟩
 |7,_=>exact ⟨_,by decide,rfl⟩
 |8,_=>exact ⟨_,by decide,rfl⟩
 |9,_=>exact ⟨_,by decide,rfl⟩
theorem name13 (m:Nat) (h:m<13): ∃t:Nat,t<10∧(#[Value.int .i64 0, .int .i64 0, .int .i64 1, .int .i64 1, .int .i64 2, .int .i64 2, .int .i64 3, .int .i64 4, .int .i64 5, .int .i64 6, .int .i64 7, .int .i64 8, .int .i64 9]:Array Value)[m]? =some (.int .i64 (t:Int)):=by
 match m,h with
 |0,_=>exact ⟨0,by decide,rfl⟩
 |1,_=>exact ⟨0,by decide,rfl⟩
 |2,_=>exact ⟨1,by decide,rfl⟩
 |3,_=>exact ⟨1,by decide,rfl⟩
 |4,_=>exact ⟨2,by decide,rfl⟩
 |5,_=>exact ⟨2,by decide,rfl⟩
 |6,_=>exact ⟨3,by decide,rfl⟩
 |7,_=>exact ⟨4,by decide,rfl⟩
 |8,_=>exact ⟨5,by decide,rfl⟩
 |9,_=>exact ⟨6,by decide,rfl⟩
 |10,_=>exact ⟨7,by decide,rfl⟩
 |11,_=>exact ⟨8,by decide,rfl⟩
 |12,_=>exact ⟨9,by decide,rfl⟩
theorem name_any (R p:Nat) (n:Int) (w:World) (hp:p<1073741824) (hn0:0≤n) (hn1:n≤1000) (h:Rdm w R p):
  Calls Tryz.prog 116 #[.pointer (some ⟨R,0,none⟩), .int .i64 n] w (Names R p w):=by
 go_enter Tryz.func116,Tryz.ntmps116
 go_wp2_with fail
 refine (odd_any R p n _ (by omega) (by omega) (by omega) h).mono ?_
 rintro e w2 ⟨b,rfl,-,hr2,hg2,hs2⟩
 have HG2:=zz hg2
 clear hg2 hs2 h
 cases b with
 |true=>
  go_wp2_with fail
  refine (pick_any R (p+1) 12 _ (by omega) (hr2.kept (World.grownBy_alloc w2 _ none) (by simp))).mono ?_
  rintro e w3 ⟨j,rfl,hj0,hj1,-,hr3,hg3,hs3⟩
  have hj2:=hj1 (by omega)
  obtain ⟨j1,rfl⟩:=Int.eq_ofNat_of_zero_le hj0
  obtain ⟨t,ht,hlit⟩:=name12 j1 (by omega)
  have hcell:=lit_cell hr2.lt hg3 hlit
  have HG3:=zz (grown_trans (grown_alloc HG2.out _) hg3)
  clear hj1 hg3 hs3 hlit hr2 HG2
  go_wp2
  go_ret
  exact ⟨_,rfl,ht,hr3.mono (by omega),HG3.out⟩
 |false=>
  go_wp2_with fail
  refine (pick_any R (p+1) 13 _ (by omega) ((hr2.kept (World.grownBy_alloc w2 _ none) (by simp)).kept (World.grownBy_alloc _ _ none) (by simp))).mono ?_
  rintro e w3 ⟨j,rfl,hj0,hj1,-,hr3,hg3,hs3⟩
  have hj2:=hj1 (by omega)
  obtain ⟨j1,rfl⟩:=Int.eq_ofNat_of_zero_le hj0
  obtain ⟨q,hq,hlit⟩:=name13 j1 (by omega)
  obtain ⟨t,ht,hlit2⟩:=name10 q (by omega)
  have hcell:=lit_cell1 hr2.lt hg3 hlit
  have hcell2:=lit_cell2 hr2.lt hg3 hlit2
  have HG3:=zz (grown_trans (grown_alloc (grown_alloc HG2.out _) _) hg3)
  clear hj1 hg3 hs3 hlit hr2 HG2 hlit2
  go_wp2
  go_ret
  exact ⟨_,rfl,ht,hr3.mono (by omega),HG3.out⟩
def kp:Nat→Nat
 |0=>8
 |d+1=>8+3*kp d
def cb:Nat→Nat
 |0=>1
 |d+1=>if d=0 then 1 else 1+3*cb d
theorem kp_pos (d:Nat):8≤kp d:=by cases d<;>simp [kp]
theorem cb_pos (d:Nat):1≤cb d:=by
 cases d with
 |zero=>simp [cb]
 |succ d=>rw [cb];split<;>omega
def CellsD (R p K C:Nat) (w:World) (e:Ending) (w':World):Prop:=
 ∃(v:Value) (l:List Cl),e= .returned v∧w'.ownsRow w.heap.size 44 3 v l.length (flatC l)∧(∀c∈l,wdN c.2.1=true)∧1≤l.length∧l.length≤C∧Rdm w' R (p+K)∧w.grownBy w' (some R)
theorem CellsD.mono {R p K C K' C':Nat} {w w':World} {e:Ending} (h:CellsD R p K C w e w') (hK:K≤K') (hC:C≤C'):CellsD R p K' C' w e w':=by
 obtain ⟨v,l,h1,h2,h3,h4,h5,h6,h7⟩:=h
 exact ⟨v,l,h1,h2,h3,h4,by omega,h6.mono (by omega),h7⟩
theorem CellsD.one {R p K C:Nat} {w w1:World} (k m:Int) (s:ByteArray) (hs:wdN s=true) (hC:1≤C) (hr:Rdm w1 R (p+K)) (hg:w.grownBy w1 (some R)):
  CellsD R p K C w (.returned (.slice (some ⟨w1.heap.size,0,none⟩) 1 1)) (w1.alloc (.cells #[.int .i64 k, .string s, .int .i64 m] 44)):=by
 refine ⟨_,[(k,s,m)],rfl,World.ownsRow_lit w1 _ 1 hg.size (by unfold maxLen;omega) rfl, ?_,Nat.le_refl _,hC,hr.kept (World.grownBy_alloc w1 _ none) (by simp),grown_alloc hg _⟩
 intro c hc
 rw [List.mem_singleton] at hc;subst hc;exact hs
theorem grown_own {w a b:World} {R:Nat} {row:Option Nat} (h:w.grownBy a (some R)) (hg:a.grownBy b row) (hr: ∀q,row=some q→w.heap.size≤q):w.grownBy b (some R):=
 ⟨hg.os.trans h.os,hg.tape.trans h.tape,hg.output.trans h.output,Nat.le_trans h.size hg.size,fun k hk hn=>by
  rw [hg.block k (by have:=h.size;omega) (fun e=>by have:=hr k e.symm;omega)]
  exact h.block k hk hn⟩
theorem lit_num (m:Nat) (h:m<6): ∃t:ByteArray,wdN t=true∧(#[Value.string ⟨#[48]⟩, .string ⟨#[49]⟩, .string ⟨#[50]⟩, .string ⟨#[49,50]⟩, .string ⟨#[48,46,53]⟩, .string ⟨#[51,46,50,53]⟩]:Array Value)[m]? =some (.string t):=by
 match m,h with
 |0,_=>exact ⟨_,by decide,rfl⟩
 |1,_=>exact ⟨_,by decide,rfl⟩
 |2,_=>exact ⟨_,by decide,rfl⟩
 |3,_=>exact ⟨_,by decide,rfl⟩
 |4,_=>exact ⟨_,by decide,rfl⟩
 |5,_=>exact ⟨_,by decide,rfl⟩
theorem lit_txt (m:Nat) (h:m<6): ∃t:ByteArray,wdN t=true∧(#[Value.string ⟨#[]⟩, .string ⟨#[97]⟩, .string ⟨#[65,98]⟩, .string ⟨#[120,10,121]⟩, .string ⟨#[34]⟩, .string ⟨#[35]⟩]:Array Value)[m]? =some (.string t):=by
 match m,h with
 |0,_=>exact ⟨_,by decide,rfl⟩
 |1,_=>exact ⟨_,by decide,rfl⟩
 |2,_=>exact ⟨_,by decide,rfl⟩
 |3,_=>exact ⟨_,by decide,rfl⟩
 |4,_=>exact ⟨_,by decide,rfl⟩
 |5,_=>exact ⟨_,by decide,rfl⟩
theorem lit_tru (m:Nat) (h:m<2): ∃t:ByteArray,wdN t=true∧(#[Value.string ⟨#[116,114,117,101]⟩, .string ⟨#[102,97,108,115,101]⟩]:Array Value)[m]? =some (.string t):=by
 match m,h with
 |0,_=>exact ⟨_,by decide,rfl⟩
 |1,_=>exact ⟨_,by decide,rfl⟩
theorem lit_cal (m:Nat) (h:m<9): ∃t:ByteArray,wdN t=true∧(#[Value.string ⟨#[108,101,110,103,116,104]⟩, .string ⟨#[117,112,112,101,114]⟩, .string ⟨#[109,105,110]⟩, .string ⟨#[109,97,120]⟩, .string ⟨#[102,105,114,115,116]⟩, .string ⟨#[114,101,118,101,114,115,101]⟩, .string ⟨#[99,111,110,116,97,105,110,115]⟩, .string ⟨#[106,111,105,110]⟩, .string ⟨#[102]⟩]:Array Value)[m]? =some (.string t):=by
 match m,h with
 |0,_=>exact ⟨_,by decide,rfl⟩
 |1,_=>exact ⟨_,by decide,rfl⟩
 |2,_=>exact ⟨_,by decide,rfl⟩
 |3,_=>exact ⟨_,by decide,rfl⟩
 |4,_=>exact ⟨_,by decide,rfl⟩
 |5,_=>exact ⟨_,by decide,rfl⟩
 |6,_=>exact ⟨_,by decide,rfl⟩
 |7,_=>exact ⟨_,by decide,rfl⟩
 |8,_=>exact ⟨_,by decide,rfl⟩
theorem lit_una (m:Nat) (h:m<2): ∃t:ByteArray,wdN t=true∧(#[Value.string ⟨#[33]⟩, .string ⟨#[45]⟩]:Array Value)[m]? =some (.string t):=by
 match m,h with
 |0,_=>exact ⟨_,by decide,rfl⟩
 |1,_=>exact ⟨_,by decide,rfl⟩
theorem lit_bin (m:Nat) (h:m<15): ∃t:ByteArray,wdN t=true∧(#[Value.string ⟨#[124,124]⟩, .string ⟨#[38,38]⟩, .string ⟨#[61,61]⟩, .string ⟨#[33,61]⟩, .string ⟨#[60]⟩, .string ⟨#[60,61]⟩, .string ⟨#[62]⟩, .string ⟨#[62,61]⟩, .string ⟨#[43]⟩, .string ⟨#[45]⟩, .string ⟨#[42]⟩, .string ⟨#[47]⟩, .string ⟨#[37]⟩, .string ⟨#[38,38]⟩, .string ⟨#[43]⟩]:Array Value)[m]? =some (.string t):=by
 match m,h with
 |0,_=>exact ⟨_,by decide,rfl⟩
 |1,_=>exact ⟨_,by decide,rfl⟩
 |2,_=>exact ⟨_,by decide,rfl⟩
 |3,_=>exact ⟨_,by decide,rfl⟩
 |4,_=>exact ⟨_,by decide,rfl⟩
 |5,_=>exact ⟨_,by decide,rfl⟩
 |6,_=>exact ⟨_,by decide,rfl⟩
 |7,_=>exact ⟨_,by decide,rfl⟩
 |8,_=>exact ⟨_,by decide,rfl⟩
 |9,_=>exact ⟨_,by decide,rfl⟩
 |10,_=>exact ⟨_,by decide,rfl⟩
 |11,_=>exact ⟨_,by decide,rfl⟩
 |12,_=>exact ⟨_,by decide,rfl⟩
 |13,_=>exact ⟨_,by decide,rfl⟩
 |14,_=>exact ⟨_,by decide,rfl⟩
theorem lit_knd (m:Nat) (h:m<13): ∃t:Nat,(1≤t∧t≤9)∧(#[Value.int .i64 1, .int .i64 2, .int .i64 3, .int .i64 4, .int .i64 4, .int .i64 5, .int .i64 6, .int .i64 7, .int .i64 7, .int .i64 8, .int .i64 8, .int .i64 8, .int .i64 9]:Array Value)[m]? =some (.int .i64 (t:Int)):=by
 match m,h with
 |0,_=>exact ⟨1,by decide,rfl⟩
 |1,_=>exact ⟨2,by decide,rfl⟩
 |2,_=>exact ⟨3,by decide,rfl⟩
 |3,_=>exact ⟨4,by decide,rfl⟩
 |4,_=>exact ⟨4,by decide,rfl⟩
 |5,_=>exact ⟨5,by decide,rfl⟩
 |6,_=>exact ⟨6,by decide,rfl⟩
 |7,_=>exact ⟨7,by decide,rfl⟩
 |8,_=>exact ⟨7,by decide,rfl⟩
 |9,_=>exact ⟨8,by decide,rfl⟩
 |10,_=>exact ⟨8,by decide,rfl⟩
 |11,_=>exact ⟨8,by decide,rfl⟩
 |12,_=>exact ⟨9,by decide,rfl⟩
theorem cells_leaf (deep R p K C:Nat) (w:World) (hd:deep≤1) (hp:p+8<1073741824) (hK:8≤K) (hC:1≤C) (h:Rdm w R p):
  Calls Tryz.prog 80 #[.pointer (some ⟨R,0,none⟩), .int .i64 (deep:Int)] w (CellsD R p K C w):=by
 have hdd:(deep:Int)≤1:=by omega
 go_enter Tryz.func80,Tryz.ntmps80
 go_wp2_with fail
 refine (pick_any R p 13 _ (by omega) (h.kept (World.grownBy_alloc w _ none) (by simp))).mono ?_
 rintro e w1 ⟨j,rfl,hj0,hj1,-,hr1,hg1,hs1⟩
 have hj2:=hj1 (by omega)
 obtain ⟨j1,rfl⟩:=Int.eq_ofNat_of_zero_le hj0
 obtain ⟨q,hq,hlit⟩:=lit_knd j1 (by omega)
 have hcell:=lit_cell h.lt hg1 hlit
 have HG1:=zz (grown_trans (World.grownBy_alloc w _ (some R)) hg1)
 clear hj1 hg1 hs1 hlit
 go_wp2_with fail
 refine (pick_any R (p+1) 4 _ (by omega) hr1).mono ?_
 rintro e w2 ⟨i,rfl,hi0,hi1,-,hr2,hg2,hs2⟩
 have hi2:=hi1 (by omega)
 obtain ⟨i1,rfl⟩:=Int.eq_ofNat_of_zero_le hi0
 have HG2:=zz (grown_trans HG1.out hg2)
 clear hi1 hg2 hs2 hcell
 have hi4:i1=0∨i1=1∨i1=2∨i1=3:=by omega
 clear hi0 hi2
 rcases hi4 with rfl|rfl|rfl|rfl
 ·go_wp2_with fail
  refine (pick_any R (p+1+1) 6 _ (by omega) (hr2.kept (World.grownBy_alloc w2 _ none) (by simp))).mono ?_
  rintro e w9 ⟨i,rfl,hi0,hi1,-,hr9,hg9,hs9⟩
  have hi2:=hi1 (by omega)
  obtain ⟨i1,rfl⟩:=Int.eq_ofNat_of_zero_le hi0
  obtain ⟨t,ht,hlit⟩:=lit_num i1 (by omega)
  have hcell9:=lit_cell hr2.lt hg9 hlit
  have HG9:=zz (grown_trans (grown_alloc HG2.out _) hg9)
  clear hi1 hg9 hs9 hlit
  go_wp2
  go_ret
  exact CellsD.one 1 0 t ht hC (hr9.mono (by omega)) HG9.out
 ·go_wp2_with fail
  refine (pick_any R (p+1+1) 6 _ (by omega) (hr2.kept (World.grownBy_alloc w2 _ none) (by simp))).mono ?_
  rintro e w9 ⟨i,rfl,hi0,hi1,-,hr9,hg9,hs9⟩
  have hi2:=hi1 (by omega)
  obtain ⟨i1,rfl⟩:=Int.eq_ofNat_of_zero_le hi0
  obtain ⟨t,ht,hlit⟩:=lit_txt i1 (by omega)
  have hcell9:=lit_cell hr2.lt hg9 hlit
  have HG9:=zz (grown_trans (grown_alloc HG2.out _) hg9)
  clear hi1 hg9 hs9 hlit
  go_wp2
  go_ret
  exact CellsD.one 2 0 t ht hC (hr9.mono (by omega)) HG9.out
 ·go_wp2_with fail
  refine (pick_any R (p+1+1) 2 _ (by omega) (hr2.kept (World.grownBy_alloc w2 _ none) (by simp))).mono ?_
  rintro e w9 ⟨i,rfl,hi0,hi1,-,hr9,hg9,hs9⟩
  have hi2:=hi1 (by omega)
  obtain ⟨i1,rfl⟩:=Int.eq_ofNat_of_zero_le hi0
  obtain ⟨t,ht,hlit⟩:=lit_tru i1 (by omega)
  have hcell9:=lit_cell hr2.lt hg9 hlit
  have HG9:=zz (grown_trans (grown_alloc HG2.out _) hg9)
  clear hi1 hg9 hs9 hlit
  go_wp2
  go_ret
  exact CellsD.one 3 0 t ht hC (hr9.mono (by omega)) HG9.out
 ·go_wp2_with fail
  refine (name_any R (p+1+1) 0 _ (by omega) (by omega) (by omega) hr2).mono ?_
  rintro e w9 ⟨t,rfl,ht,hr9,hg9⟩
  have HG9:=zz (grown_trans HG2.out hg9)
  clear hg9
  go_wp2
  go_ret
  exact CellsD.one 4 0 t ht hC (hr9.mono (by omega)) HG9.out
theorem cells_any (deep:Nat): ∀(R p:Nat) (w:World),deep≤5→p+kp deep<1073741824→Rdm w R p→
  Calls Tryz.prog 80 #[.pointer (some ⟨R,0,none⟩), .int .i64 (deep:Int)] w (CellsD R p (kp deep) (cb deep) w):=by
 induction deep with
 |zero=>intro R p w _ hp h;exact cells_leaf 0 R p _ _ w (by omega) (by have:=kp_pos 0;omega) (kp_pos _) (cb_pos _) h
 |succ d ih=>
  intro R p w hd5 hp h
  by_cases hd1:d+1≤1
  ·exact cells_leaf (d+1) R p _ _ w hd1 (by have:=kp_pos (d+1);omega) (kp_pos _) (cb_pos _) h
  obtain ⟨i0,hi,hz0,hz1,hz2⟩:=info_parts infoC
  generalize hDD:((d+1:Nat):Int)=D
  have hD2:2≤D:=by omega
  have hD5:D≤5:=by omega
  have HDM:=zz (show D-1=(d:Int) by omega)
  clear hDD
  have hC:=cb_pos (d+1)
  have hK:=kp_pos (d+1)
  have hkp:kp (d+1)=8+3*kp d:=rfl
  have hcb:cb (d+1)=1+3*cb d:=by rw [cb,if_neg (by omega)]
  have hcb5:cb d≤121:=by
   have:d=0∨d=1∨d=2∨d=3∨d=4:=by omega
   rcases this with rfl|rfl|rfl|rfl|rfl<;>decide
  have IH:=zz ih;clear ih
  generalize hkd:kp d=kd at hkp
  generalize hcd:cb d=cd at hcb hcb5
  generalize hkD:kp (d+1)=kD at hkp hK hp
  generalize hcD:cb (d+1)=cD at hcb hC
  have HKD:=zz hkd;have HCD:=zz hcd;have HKP:=zz hkp;have HCB:=zz hcb
  clear hkd hcd hkD hcD hkp hcb
  go_enter Tryz.func80,Tryz.ntmps80
  go_wp2_with fail
  refine (pick_any R p 13 _ (by omega) (h.kept (World.grownBy_alloc w _ none) (by simp))).mono ?_
  rintro e w1 ⟨j,rfl,hj0,hj1,-,hr1,hg1,hs1⟩
  have hj2:=hj1 (by omega)
  obtain ⟨j1,rfl⟩:=Int.eq_ofNat_of_zero_le hj0
  obtain ⟨q,hq,hlit⟩:=lit_knd j1 (by omega)
  have hcell:=lit_cell h.lt hg1 hlit
  have HG1:=zz (grown_trans (World.grownBy_alloc w _ (some R)) hg1)
  clear hj1 hg1 hs1 hlit
  have hq9:q=1∨q=2∨q=3∨q=4∨q=5∨q=6∨q=7∨q=8∨q=9:=by omega
  rcases hq9 with rfl|rfl|rfl|rfl|rfl|rfl|rfl|rfl|rfl
  ·go_wp2_with fail
   refine (pick_any R (p+1) 6 _ (by omega) (hr1.kept (World.grownBy_alloc w1 _ none) (by simp))).mono ?_
   rintro e w9 ⟨i,rfl,hi0,hi1,-,hr9,hg9,hs9⟩
   have hi2:=hi1 (by omega)
   obtain ⟨i1,rfl⟩:=Int.eq_ofNat_of_zero_le hi0
   obtain ⟨t,ht,hlit⟩:=lit_num i1 (by omega)
   have hcell9:=lit_cell hr1.lt hg9 hlit
   have HG9:=zz (grown_trans (grown_alloc HG1.out _) hg9)
   clear hi1 hg9 hs9 hlit
   go_wp2
   go_ret
   exact CellsD.one 1 0 t ht hC (hr9.mono (by omega)) HG9.out
  ·go_wp2_with fail
   refine (pick_any R (p+1) 6 _ (by omega) (hr1.kept (World.grownBy_alloc w1 _ none) (by simp))).mono ?_
   rintro e w9 ⟨i,rfl,hi0,hi1,-,hr9,hg9,hs9⟩
   have hi2:=hi1 (by omega)
   obtain ⟨i1,rfl⟩:=Int.eq_ofNat_of_zero_le hi0
   obtain ⟨t,ht,hlit⟩:=lit_txt i1 (by omega)
   have hcell9:=lit_cell hr1.lt hg9 hlit
   have HG9:=zz (grown_trans (grown_alloc HG1.out _) hg9)
   clear hi1 hg9 hs9 hlit
   go_wp2
   go_ret
   exact CellsD.one 2 0 t ht hC (hr9.mono (by omega)) HG9.out
  ·go_wp2_with fail
   refine (pick_any R (p+1) 2 _ (by omega) (hr1.kept (World.grownBy_alloc w1 _ none) (by simp))).mono ?_
   rintro e w9 ⟨i,rfl,hi0,hi1,-,hr9,hg9,hs9⟩
   have hi2:=hi1 (by omega)
   obtain ⟨i1,rfl⟩:=Int.eq_ofNat_of_zero_le hi0
   obtain ⟨t,ht,hlit⟩:=lit_tru i1 (by omega)
   have hcell9:=lit_cell hr1.lt hg9 hlit
   have HG9:=zz (grown_trans (grown_alloc HG1.out _) hg9)
   clear hi1 hg9 hs9 hlit
   go_wp2
   go_ret
   exact CellsD.one 3 0 t ht hC (hr9.mono (by omega)) HG9.out
  ·go_wp2_with fail
   refine (name_any R (p+1) 0 _ (by omega) (by omega) (by omega) hr1).mono ?_
   rintro e w9 ⟨t,rfl,ht,hr9,hg9⟩
   have HG9:=zz (grown_trans HG1.out hg9)
   clear hg9
   go_wp2
   go_ret
   exact CellsD.one 4 0 t ht hC (hr9.mono (by omega)) HG9.out
  ·go_wp2_with fail
   refine (pick_any R (p+1) 3 _ (by omega) hr1).mono ?_
   rintro e w2 ⟨i,rfl,hi0,hi1,-,hr2,hg2,hs2⟩
   have hi2:=hi1 (by omega)
   obtain ⟨i1,rfl⟩:=Int.eq_ofNat_of_zero_le hi0
   have HG2:=zz (grown_trans HG1.out hg2)
   clear hi1 hg2 hs2 hcell
   go_wp2_with fail
   refine (pick_any R (p+1+1) 2 _ (by omega) hr2).mono ?_
   rintro e w3 ⟨y,rfl,hy0,hy1,-,hr3,hg3,hs3⟩
   have hy2:=hy1 (by omega)
   obtain ⟨y1,rfl⟩:=Int.eq_ofNat_of_zero_le hy0
   have HG3:=zz (grown_trans HG2.out hg3)
   have hr3':=hr3.kept (World.grownBy_alloc w3 (.cells #[.int .i64 0, .int .i64 0, .int .i64 0, .int .i64 0, .int .i64 0, .int .i64 (i1:Int), .int .i64 (1+(y1:Int)), .int .i64 1, .int .i64 2, .int .i64 3] 3) none) (by simp)
   have HG3':=zz (grown_alloc HG3.out (.cells #[.int .i64 0, .int .i64 0, .int .i64 0, .int .i64 0, .int .i64 0, .int .i64 (i1:Int), .int .i64 (1+(y1:Int)), .int .i64 1, .int .i64 2, .int .i64 3] 3))
   clear hy1 hg3 hs3 hr2 HG2
   go_wp2_with fail
   have ht:wdN (ByteArray.empty:ByteArray)=true:=by decide
   obtain ⟨M,hM⟩: ∃M:Nat,M=i1:=⟨_,rfl⟩
   have hMI:(i1:Int)=(M:Int):=by omega
   have HMI:=zz hMI;clear hMI
   have hM3:M≤3:=by omega
   have HOS:=zz (World.ownsRow_lit (base:=w.heap.size) (e:=44) (size:=3) _ #[.int .i64 5, .string ByteArray.empty, .int .i64 (i1:Int)] 1 HG3'.out.size (by unfold maxLen;omega) rfl)
   have HOS:=zz (show _ from (show (w3.alloc (.cells #[.int .i64 0, .int .i64 0, .int .i64 0, .int .i64 0, .int .i64 0, .int .i64 (i1:Int), .int .i64 (1+(y1:Int)), .int .i64 1, .int .i64 2, .int .i64 3] 3)).heap.size=w3.heap.size+1 by simp)▸HOS.out)
   have HGS:=zz (grown_alloc HG3'.out (.cells #[.int .i64 5, .string ByteArray.empty, .int .i64 (i1:Int)] 44))
   have HRS:=zz ((hr3'.kept (World.grownBy_alloc _ (.cells #[.int .i64 5, .string ByteArray.empty, .int .i64 (i1:Int)] 44) none) (by simp)).mono (show _≤p+4+0*kd by omega))
   have HLT:=zz h.lt
   go_loopw [8,9] (fun out i wr=> ∃(k:Nat) (l':List Cl),k≤M∧i= .int .i64 (k:Int)∧wr.ownsRow w.heap.size 44 3 out l'.length (flatC l')∧(∀c∈l',wdN c.2.1=true)∧1≤l'.length∧l'.length≤1+k*cd∧Rdm wr R (p+4+k*kd)∧w.grownBy wr (some R)) (fun _ i _=>M-(intOf i).toNat)
   case atStart=>exact ⟨0,[(5,ByteArray.empty,(i1:Int))],Nat.zero_le _,rfl,HOS.out,(fun c hc=>by rw [List.mem_singleton] at hc;subst hc;exact ht),Nat.le_refl _,by simp,HRS.out,HGS.out⟩
   case round=>
    obtain ⟨k,l',hk,rfl,hown,hsh,hl1,hlc,hr,hg⟩:=hrel
    have HO:=zz hown;have HSH:=zz hsh;have HR:=zz hr;have HG:=zz hg
    clear hown hsh hr hg
    have hkc:k*cd≤3*cd:=Nat.mul_le_mul_right _ (by omega)
    have hkk:k*kd≤3*kd:=Nat.mul_le_mul_right _ (by omega)
    have HS1:=zz (show (k+1)*cd=k*cd+cd from Nat.succ_mul k cd);have HS2:=zz (show (k+1)*kd=k*kd+kd from Nat.succ_mul k kd)
    by_cases hlt:k<M
    ·have hltI:(k:Int)<(i1:Int):=by have:=HMI.out;omega
     have hkk1:(k+1)*kd≤3*kd:=Nat.mul_le_mul_right _ (by omega)
     have hb1:p+4+k*kd+kd<1073741824:=by have:=HS2.out;have:=HKP.out;omega
     go_wp2_with fail
     rw [HDM.out]
     refine (IH.out R (p+4+k*kd) _ (by omega) (by rw [HKD.out];exact hb1) HR.out).mono ?_
     rintro e w5 ⟨v5,l5,rfl,ho5,hsh5,h15,hc5,hr5,hg5⟩
     rw [HKD.out] at hr5;rw [HCD.out] at hc5
     have HO5:=zz (HO.out.kept hg5 (.inr (by intro he;have:=(HO.out.lt _ he).1;have:=HLT.out;omega)))
     have HG5:=zz (grown_trans HG.out hg5)
     have HP5:=zz ho5;have HSH5:=zz hsh5;have HR5:=zz hr5
     clear ho5 hsh5 hr5 hg5
     have hll:l'.length+l5.length≤1000:=by omega
     go_wp2_with (at_builtin;refine append_rows rfl _ _ 26 rfl w.heap.size 44 i0 (.agg #[.int .i64 0, .string ByteArray.empty, .int .i64 0]) 3 32 Tryz.underlying26 hi hz0 hz1 hz2 rfl (by decide) _ _ _ rfl HO5.out _ _ _ _ rfl HP5.out (flatC_one _) (by unfold maxLen;omega) (by omega) HG5.out.size ?_;intro v6 w6 hown6 hgrow6;have HO6:=zz hown6;have HG6:=zz (grown_own HG5.out hgrow6 (fun q hq=>(HO5.out.lt q hq).1));have HR6:=zz (HR5.out.kept hgrow6 (fun q hq=>by have:=(HO5.out.lt q hq).1;have:=HLT.out;omega));clear hown6 hgrow6)
     go_roundw
     case rel=>exact ⟨k+1,l'++l5,by omega,by go_num,by rw [List.length_append,flatC_append];exact HO6.out,(fun c hc=>by rw [List.mem_append] at hc;exact hc.elim (HSH.out c) (HSH5.out c)),by rw [List.length_append];omega,by rw [List.length_append];have:=HS1.out;omega,HR6.out.mono (by have:=HS2.out;omega),HG6.out⟩
     case measure=>simp [intOf];omega
    ·obtain rfl:k=M:=by omega
     have hltI: ¬(k:Int)<(i1:Int):=by have:=HMI.out;omega
     go_wp2
     go_ret
     exact ⟨_,l',rfl,HO.out,HSH.out,hl1,by have:=HCB.out;omega,HR.out.mono (by have:=HKP.out;omega),HG.out⟩
  ·go_wp2_with fail
   refine (pick_any R (p+1) 3 _ (by omega) hr1).mono ?_
   rintro e w2 ⟨i,rfl,hi0,hi1,-,hr2,hg2,hs2⟩
   have hi2:=hi1 (by omega)
   obtain ⟨i1,rfl⟩:=Int.eq_ofNat_of_zero_le hi0
   have HG2:=zz (grown_trans HG1.out hg2)
   clear hi1 hg2 hs2 hcell
   go_wp2_with fail
   refine (pick_any R (p+1+1) 2 _ (by omega) hr2).mono ?_
   rintro e w3 ⟨y,rfl,hy0,hy1,-,hr3,hg3,hs3⟩
   have hy2:=hy1 (by omega)
   obtain ⟨y1,rfl⟩:=Int.eq_ofNat_of_zero_le hy0
   have HG3:=zz (grown_trans HG2.out hg3)
   have hr3':=hr3.kept (World.grownBy_alloc w3 (.cells #[.int .i64 0, .int .i64 0, .int .i64 0, .int .i64 0, .int .i64 0, .int .i64 (i1:Int), .int .i64 (1+(y1:Int)), .int .i64 1, .int .i64 2, .int .i64 3] 3) none) (by simp)
   have HG3':=zz (grown_alloc HG3.out (.cells #[.int .i64 0, .int .i64 0, .int .i64 0, .int .i64 0, .int .i64 0, .int .i64 (i1:Int), .int .i64 (1+(y1:Int)), .int .i64 1, .int .i64 2, .int .i64 3] 3))
   clear hy1 hg3 hs3 hr2 HG2
   go_wp2_with fail
   refine (pick_any R (p+1+1+1) 9 _ (by omega) (hr3'.kept (World.grownBy_alloc _ _ none) (by simp))).mono ?_
   rintro e w9 ⟨x,rfl,hx0,hx1,-,hr9,hg9,hs9⟩
   have hx2:=hx1 (by omega)
   obtain ⟨x1,rfl⟩:=Int.eq_ofNat_of_zero_le hx0
   obtain ⟨t,ht,hlit⟩:=lit_cal x1 (by omega)
   have hcell9:=lit_cell1 hr3.lt hg9 hlit
   have HG9:=zz (grown_trans (grown_alloc HG3'.out _) hg9)
   clear hx1 hg9 hs9 hlit
   go_wp2_with fail
   obtain ⟨M,hM⟩: ∃M:Nat,M=(1+y1):=⟨_,rfl⟩
   have hMI:(1+(y1:Int))=(M:Int):=by omega
   have HMI:=zz hMI;clear hMI
   have hM3:M≤3:=by omega
   have HOS:=zz (World.ownsRow_lit (base:=w.heap.size) (e:=44) (size:=3) _ #[.int .i64 6, .string t, .int .i64 (1+(y1:Int))] 1 HG9.out.size (by unfold maxLen;omega) rfl)
   have HGS:=zz (grown_alloc HG9.out (.cells #[.int .i64 6, .string t, .int .i64 (1+(y1:Int))] 44))
   have HRS:=zz ((hr9.kept (World.grownBy_alloc _ (.cells #[.int .i64 6, .string t, .int .i64 (1+(y1:Int))] 44) none) (by simp)).mono (show _≤p+4+0*kd by omega))
   have HLT:=zz h.lt
   go_loopw [8,9] (fun out i wr=> ∃(k:Nat) (l':List Cl),k≤M∧i= .int .i64 (k:Int)∧wr.ownsRow w.heap.size 44 3 out l'.length (flatC l')∧(∀c∈l',wdN c.2.1=true)∧1≤l'.length∧l'.length≤1+k*cd∧Rdm wr R (p+4+k*kd)∧w.grownBy wr (some R)) (fun _ i _=>M-(intOf i).toNat)
   case atStart=>exact ⟨0,[(6,t,(1+(y1:Int)))],Nat.zero_le _,rfl,HOS.out,(fun c hc=>by rw [List.mem_singleton] at hc;subst hc;exact ht),Nat.le_refl _,by simp,HRS.out,HGS.out⟩
   case round=>
    obtain ⟨k,l',hk,rfl,hown,hsh,hl1,hlc,hr,hg⟩:=hrel
    have HO:=zz hown;have HSH:=zz hsh;have HR:=zz hr;have HG:=zz hg
    clear hown hsh hr hg
    have hkc:k*cd≤3*cd:=Nat.mul_le_mul_right _ (by omega)
    have hkk:k*kd≤3*kd:=Nat.mul_le_mul_right _ (by omega)
    have HS1:=zz (show (k+1)*cd=k*cd+cd from Nat.succ_mul k cd);have HS2:=zz (show (k+1)*kd=k*kd+kd from Nat.succ_mul k kd)
    by_cases hlt:k<M
    ·have hltI:(k:Int)<(1+(y1:Int)):=by have:=HMI.out;omega
     have hkk1:(k+1)*kd≤3*kd:=Nat.mul_le_mul_right _ (by omega)
     have hb1:p+4+k*kd+kd<1073741824:=by have:=HS2.out;have:=HKP.out;omega
     go_wp2_with fail
     rw [HDM.out]
     refine (IH.out R (p+4+k*kd) _ (by omega) (by rw [HKD.out];exact hb1) HR.out).mono ?_
     rintro e w5 ⟨v5,l5,rfl,ho5,hsh5,h15,hc5,hr5,hg5⟩
     rw [HKD.out] at hr5;rw [HCD.out] at hc5
     have HO5:=zz (HO.out.kept hg5 (.inr (by intro he;have:=(HO.out.lt _ he).1;have:=HLT.out;omega)))
     have HG5:=zz (grown_trans HG.out hg5)
     have HP5:=zz ho5;have HSH5:=zz hsh5;have HR5:=zz hr5
     clear ho5 hsh5 hr5 hg5
     have hll:l'.length+l5.length≤1000:=by omega
     go_wp2_with (at_builtin;refine append_rows rfl _ _ 26 rfl w.heap.size 44 i0 (.agg #[.int .i64 0, .string ByteArray.empty, .int .i64 0]) 3 32 Tryz.underlying26 hi hz0 hz1 hz2 rfl (by decide) _ _ _ rfl HO5.out _ _ _ _ rfl HP5.out (flatC_one _) (by unfold maxLen;omega) (by omega) HG5.out.size ?_;intro v6 w6 hown6 hgrow6;have HO6:=zz hown6;have HG6:=zz (grown_own HG5.out hgrow6 (fun q hq=>(HO5.out.lt q hq).1));have HR6:=zz (HR5.out.kept hgrow6 (fun q hq=>by have:=(HO5.out.lt q hq).1;have:=HLT.out;omega));clear hown6 hgrow6)
     go_roundw
     case rel=>exact ⟨k+1,l'++l5,by omega,by go_num,by rw [List.length_append,flatC_append];exact HO6.out,(fun c hc=>by rw [List.mem_append] at hc;exact hc.elim (HSH.out c) (HSH5.out c)),by rw [List.length_append];omega,by rw [List.length_append];have:=HS1.out;omega,HR6.out.mono (by have:=HS2.out;omega),HG6.out⟩
     case measure=>simp [intOf];omega
    ·obtain rfl:k=M:=by omega
     have hltI: ¬(k:Int)<(1+(y1:Int)):=by have:=HMI.out;omega
     go_wp2
     go_ret
     exact ⟨_,l',rfl,HO.out,HSH.out,hl1,by have:=HCB.out;omega,HR.out.mono (by have:=HKP.out;omega),HG.out⟩
  ·go_wp2_with fail
   refine (pick_any R (p+1) 3 _ (by omega) hr1).mono ?_
   rintro e w2 ⟨i,rfl,hi0,hi1,-,hr2,hg2,hs2⟩
   have hi2:=hi1 (by omega)
   obtain ⟨i1,rfl⟩:=Int.eq_ofNat_of_zero_le hi0
   have HG2:=zz (grown_trans HG1.out hg2)
   clear hi1 hg2 hs2 hcell
   go_wp2_with fail
   refine (pick_any R (p+1+1) 2 _ (by omega) hr2).mono ?_
   rintro e w3 ⟨y,rfl,hy0,hy1,-,hr3,hg3,hs3⟩
   have hy2:=hy1 (by omega)
   obtain ⟨y1,rfl⟩:=Int.eq_ofNat_of_zero_le hy0
   have HG3:=zz (grown_trans HG2.out hg3)
   have hr3':=hr3.kept (World.grownBy_alloc w3 (.cells #[.int .i64 0, .int .i64 0, .int .i64 0, .int .i64 0, .int .i64 0, .int .i64 (i1:Int), .int .i64 (1+(y1:Int)), .int .i64 1, .int .i64 2, .int .i64 3] 3) none) (by simp)
   have HG3':=zz (grown_alloc HG3.out (.cells #[.int .i64 0, .int .i64 0, .int .i64 0, .int .i64 0, .int .i64 0, .int .i64 (i1:Int), .int .i64 (1+(y1:Int)), .int .i64 1, .int .i64 2, .int .i64 3] 3))
   clear hy1 hg3 hs3 hr2 HG2
   go_wp2_with fail
   refine (pick_any R (p+1+1+1) 2 _ (by omega) (hr3'.kept (World.grownBy_alloc _ _ none) (by simp))).mono ?_
   rintro e w9 ⟨x,rfl,hx0,hx1,-,hr9,hg9,hs9⟩
   have hx2:=hx1 (by omega)
   obtain ⟨x1,rfl⟩:=Int.eq_ofNat_of_zero_le hx0
   obtain ⟨t,ht,hlit⟩:=lit_una x1 (by omega)
   have hcell9:=lit_cell1 hr3.lt hg9 hlit
   have HG9:=zz (grown_trans (grown_alloc HG3'.out _) hg9)
   clear hx1 hg9 hs9 hlit
   go_wp2_with fail
   obtain ⟨M,hM⟩: ∃M:Nat,M=1:=⟨_,rfl⟩
   have hMI:1=(M:Int):=by omega
   have HMI:=zz hMI;clear hMI
   have hM3:M≤3:=by omega
   have HOS:=zz (World.ownsRow_lit (base:=w.heap.size) (e:=44) (size:=3) _ #[.int .i64 7, .string t, .int .i64 1] 1 HG9.out.size (by unfold maxLen;omega) rfl)
   have HGS:=zz (grown_alloc HG9.out (.cells #[.int .i64 7, .string t, .int .i64 1] 44))
   have HRS:=zz ((hr9.kept (World.grownBy_alloc _ (.cells #[.int .i64 7, .string t, .int .i64 1] 44) none) (by simp)).mono (show _≤p+4+0*kd by omega))
   have HLT:=zz h.lt
   go_loopw [8,9] (fun out i wr=> ∃(k:Nat) (l':List Cl),k≤M∧i= .int .i64 (k:Int)∧wr.ownsRow w.heap.size 44 3 out l'.length (flatC l')∧(∀c∈l',wdN c.2.1=true)∧1≤l'.length∧l'.length≤1+k*cd∧Rdm wr R (p+4+k*kd)∧w.grownBy wr (some R)) (fun _ i _=>M-(intOf i).toNat)
   case atStart=>exact ⟨0,[(7,t,1)],Nat.zero_le _,rfl,HOS.out,(fun c hc=>by rw [List.mem_singleton] at hc;subst hc;exact ht),Nat.le_refl _,by simp,HRS.out,HGS.out⟩
   case round=>
    obtain ⟨k,l',hk,rfl,hown,hsh,hl1,hlc,hr,hg⟩:=hrel
    have HO:=zz hown;have HSH:=zz hsh;have HR:=zz hr;have HG:=zz hg
    clear hown hsh hr hg
    have hkc:k*cd≤3*cd:=Nat.mul_le_mul_right _ (by omega)
    have hkk:k*kd≤3*kd:=Nat.mul_le_mul_right _ (by omega)
    have HS1:=zz (show (k+1)*cd=k*cd+cd from Nat.succ_mul k cd);have HS2:=zz (show (k+1)*kd=k*kd+kd from Nat.succ_mul k kd)
    by_cases hlt:k<M
    ·have hltI:(k:Int)<1:=by have:=HMI.out;omega
     have hkk1:(k+1)*kd≤3*kd:=Nat.mul_le_mul_right _ (by omega)
     have hb1:p+4+k*kd+kd<1073741824:=by have:=HS2.out;have:=HKP.out;omega
     go_wp2_with fail
     rw [HDM.out]
     refine (IH.out R (p+4+k*kd) _ (by omega) (by rw [HKD.out];exact hb1) HR.out).mono ?_
     rintro e w5 ⟨v5,l5,rfl,ho5,hsh5,h15,hc5,hr5,hg5⟩
     rw [HKD.out] at hr5;rw [HCD.out] at hc5
     have HO5:=zz (HO.out.kept hg5 (.inr (by intro he;have:=(HO.out.lt _ he).1;have:=HLT.out;omega)))
     have HG5:=zz (grown_trans HG.out hg5)
     have HP5:=zz ho5;have HSH5:=zz hsh5;have HR5:=zz hr5
     clear ho5 hsh5 hr5 hg5
     have hll:l'.length+l5.length≤1000:=by omega
     go_wp2_with (at_builtin;refine append_rows rfl _ _ 26 rfl w.heap.size 44 i0 (.agg #[.int .i64 0, .string ByteArray.empty, .int .i64 0]) 3 32 Tryz.underlying26 hi hz0 hz1 hz2 rfl (by decide) _ _ _ rfl HO5.out _ _ _ _ rfl HP5.out (flatC_one _) (by unfold maxLen;omega) (by omega) HG5.out.size ?_;intro v6 w6 hown6 hgrow6;have HO6:=zz hown6;have HG6:=zz (grown_own HG5.out hgrow6 (fun q hq=>(HO5.out.lt q hq).1));have HR6:=zz (HR5.out.kept hgrow6 (fun q hq=>by have:=(HO5.out.lt q hq).1;have:=HLT.out;omega));clear hown6 hgrow6)
     go_roundw
     case rel=>exact ⟨k+1,l'++l5,by omega,by go_num,by rw [List.length_append,flatC_append];exact HO6.out,(fun c hc=>by rw [List.mem_append] at hc;exact hc.elim (HSH.out c) (HSH5.out c)),by rw [List.length_append];omega,by rw [List.length_append];have:=HS1.out;omega,HR6.out.mono (by have:=HS2.out;omega),HG6.out⟩
     case measure=>simp [intOf];omega
    ·obtain rfl:k=M:=by omega
     have hltI: ¬(k:Int)<1:=by have:=HMI.out;omega
     go_wp2
     go_ret
     exact ⟨_,l',rfl,HO.out,HSH.out,hl1,by have:=HCB.out;omega,HR.out.mono (by have:=HKP.out;omega),HG.out⟩
  ·go_wp2_with fail
   refine (pick_any R (p+1) 3 _ (by omega) hr1).mono ?_
   rintro e w2 ⟨i,rfl,hi0,hi1,-,hr2,hg2,hs2⟩
   have hi2:=hi1 (by omega)
   obtain ⟨i1,rfl⟩:=Int.eq_ofNat_of_zero_le hi0
   have HG2:=zz (grown_trans HG1.out hg2)
   clear hi1 hg2 hs2 hcell
   go_wp2_with fail
   refine (pick_any R (p+1+1) 2 _ (by omega) hr2).mono ?_
   rintro e w3 ⟨y,rfl,hy0,hy1,-,hr3,hg3,hs3⟩
   have hy2:=hy1 (by omega)
   obtain ⟨y1,rfl⟩:=Int.eq_ofNat_of_zero_le hy0
   have HG3:=zz (grown_trans HG2.out hg3)
   have hr3':=hr3.kept (World.grownBy_alloc w3 (.cells #[.int .i64 0, .int .i64 0, .int .i64 0, .int .i64 0, .int .i64 0, .int .i64 (i1:Int), .int .i64 (1+(y1:Int)), .int .i64 1, .int .i64 2, .int .i64 3] 3) none) (by simp)
   have HG3':=zz (grown_alloc HG3.out (.cells #[.int .i64 0, .int .i64 0, .int .i64 0, .int .i64 0, .int .i64 0, .int .i64 (i1:Int), .int .i64 (1+(y1:Int)), .int .i64 1, .int .i64 2, .int .i64 3] 3))
   clear hy1 hg3 hs3 hr2 HG2
   go_wp2_with fail
   refine (pick_any R (p+1+1+1) 15 _ (by omega) (hr3'.kept (World.grownBy_alloc _ _ none) (by simp))).mono ?_
   rintro e w9 ⟨x,rfl,hx0,hx1,-,hr9,hg9,hs9⟩
   have hx2:=hx1 (by omega)
   obtain ⟨x1,rfl⟩:=Int.eq_ofNat_of_zero_le hx0
   obtain ⟨t,ht,hlit⟩:=lit_bin x1 (by omega)
   have hcell9:=lit_cell1 hr3.lt hg9 hlit
   have HG9:=zz (grown_trans (grown_alloc HG3'.out _) hg9)
   clear hx1 hg9 hs9 hlit
   go_wp2_with fail
   obtain ⟨M,hM⟩: ∃M:Nat,M=2:=⟨_,rfl⟩
   have hMI:2=(M:Int):=by omega
   have HMI:=zz hMI;clear hMI
   have hM3:M≤3:=by omega
   have HOS:=zz (World.ownsRow_lit (base:=w.heap.size) (e:=44) (size:=3) _ #[.int .i64 8, .string t, .int .i64 2] 1 HG9.out.size (by unfold maxLen;omega) rfl)
   have HGS:=zz (grown_alloc HG9.out (.cells #[.int .i64 8, .string t, .int .i64 2] 44))
   have HRS:=zz ((hr9.kept (World.grownBy_alloc _ (.cells #[.int .i64 8, .string t, .int .i64 2] 44) none) (by simp)).mono (show _≤p+4+0*kd by omega))
   have HLT:=zz h.lt
   go_loopw [8,9] (fun out i wr=> ∃(k:Nat) (l':List Cl),k≤M∧i= .int .i64 (k:Int)∧wr.ownsRow w.heap.size 44 3 out l'.length (flatC l')∧(∀c∈l',wdN c.2.1=true)∧1≤l'.length∧l'.length≤1+k*cd∧Rdm wr R (p+4+k*kd)∧w.grownBy wr (some R)) (fun _ i _=>M-(intOf i).toNat)
   case atStart=>exact ⟨0,[(8,t,2)],Nat.zero_le _,rfl,HOS.out,(fun c hc=>by rw [List.mem_singleton] at hc;subst hc;exact ht),Nat.le_refl _,by simp,HRS.out,HGS.out⟩
   case round=>
    obtain ⟨k,l',hk,rfl,hown,hsh,hl1,hlc,hr,hg⟩:=hrel
    have HO:=zz hown;have HSH:=zz hsh;have HR:=zz hr;have HG:=zz hg
    clear hown hsh hr hg
    have hkc:k*cd≤3*cd:=Nat.mul_le_mul_right _ (by omega)
    have hkk:k*kd≤3*kd:=Nat.mul_le_mul_right _ (by omega)
    have HS1:=zz (show (k+1)*cd=k*cd+cd from Nat.succ_mul k cd);have HS2:=zz (show (k+1)*kd=k*kd+kd from Nat.succ_mul k kd)
    by_cases hlt:k<M
    ·have hltI:(k:Int)<2:=by have:=HMI.out;omega
     have hkk1:(k+1)*kd≤3*kd:=Nat.mul_le_mul_right _ (by omega)
     have hb1:p+4+k*kd+kd<1073741824:=by have:=HS2.out;have:=HKP.out;omega
     go_wp2_with fail
     rw [HDM.out]
     refine (IH.out R (p+4+k*kd) _ (by omega) (by rw [HKD.out];exact hb1) HR.out).mono ?_
     rintro e w5 ⟨v5,l5,rfl,ho5,hsh5,h15,hc5,hr5,hg5⟩
     rw [HKD.out] at hr5;rw [HCD.out] at hc5
     have HO5:=zz (HO.out.kept hg5 (.inr (by intro he;have:=(HO.out.lt _ he).1;have:=HLT.out;omega)))
     have HG5:=zz (grown_trans HG.out hg5)
     have HP5:=zz ho5;have HSH5:=zz hsh5;have HR5:=zz hr5
     clear ho5 hsh5 hr5 hg5
     have hll:l'.length+l5.length≤1000:=by omega
     go_wp2_with (at_builtin;refine append_rows rfl _ _ 26 rfl w.heap.size 44 i0 (.agg #[.int .i64 0, .string ByteArray.empty, .int .i64 0]) 3 32 Tryz.underlying26 hi hz0 hz1 hz2 rfl (by decide) _ _ _ rfl HO5.out _ _ _ _ rfl HP5.out (flatC_one _) (by unfold maxLen;omega) (by omega) HG5.out.size ?_;intro v6 w6 hown6 hgrow6;have HO6:=zz hown6;have HG6:=zz (grown_own HG5.out hgrow6 (fun q hq=>(HO5.out.lt q hq).1));have HR6:=zz (HR5.out.kept hgrow6 (fun q hq=>by have:=(HO5.out.lt q hq).1;have:=HLT.out;omega));clear hown6 hgrow6)
     go_roundw
     case rel=>exact ⟨k+1,l'++l5,by omega,by go_num,by rw [List.length_append,flatC_append];exact HO6.out,(fun c hc=>by rw [List.mem_append] at hc;exact hc.elim (HSH.out c) (HSH5.out c)),by rw [List.length_append];omega,by rw [List.length_append];have:=HS1.out;omega,HR6.out.mono (by have:=HS2.out;omega),HG6.out⟩
     case measure=>simp [intOf];omega
    ·obtain rfl:k=M:=by omega
     have hltI: ¬(k:Int)<2:=by have:=HMI.out;omega
     go_wp2
     go_ret
     exact ⟨_,l',rfl,HO.out,HSH.out,hl1,by have:=HCB.out;omega,HR.out.mono (by have:=HKP.out;omega),HG.out⟩
  ·go_wp2_with fail
   refine (pick_any R (p+1) 3 _ (by omega) hr1).mono ?_
   rintro e w2 ⟨i,rfl,hi0,hi1,-,hr2,hg2,hs2⟩
   have hi2:=hi1 (by omega)
   obtain ⟨i1,rfl⟩:=Int.eq_ofNat_of_zero_le hi0
   have HG2:=zz (grown_trans HG1.out hg2)
   clear hi1 hg2 hs2 hcell
   go_wp2_with fail
   refine (pick_any R (p+1+1) 2 _ (by omega) hr2).mono ?_
   rintro e w3 ⟨y,rfl,hy0,hy1,-,hr3,hg3,hs3⟩
   have hy2:=hy1 (by omega)
   obtain ⟨y1,rfl⟩:=Int.eq_ofNat_of_zero_le hy0
   have HG3:=zz (grown_trans HG2.out hg3)
   have hr3':=hr3.kept (World.grownBy_alloc w3 (.cells #[.int .i64 0, .int .i64 0, .int .i64 0, .int .i64 0, .int .i64 0, .int .i64 (i1:Int), .int .i64 (1+(y1:Int)), .int .i64 1, .int .i64 2, .int .i64 3] 3) none) (by simp)
   have HG3':=zz (grown_alloc HG3.out (.cells #[.int .i64 0, .int .i64 0, .int .i64 0, .int .i64 0, .int .i64 0, .int .i64 (i1:Int), .int .i64 (1+(y1:Int)), .int .i64 1, .int .i64 2, .int .i64 3] 3))
   clear hy1 hg3 hs3 hr2 HG2
   go_wp2_with fail
   have ht:wdN (ByteArray.empty:ByteArray)=true:=by decide
   obtain ⟨M,hM⟩: ∃M:Nat,M=3:=⟨_,rfl⟩
   have hMI:3=(M:Int):=by omega
   have HMI:=zz hMI;clear hMI
   have hM3:M≤3:=by omega
   have HOS:=zz (World.ownsRow_lit (base:=w.heap.size) (e:=44) (size:=3) _ #[.int .i64 9, .string ByteArray.empty, .int .i64 3] 1 HG3'.out.size (by unfold maxLen;omega) rfl)
   have HOS:=zz (show _ from (show (w3.alloc (.cells #[.int .i64 0, .int .i64 0, .int .i64 0, .int .i64 0, .int .i64 0, .int .i64 (i1:Int), .int .i64 (1+(y1:Int)), .int .i64 1, .int .i64 2, .int .i64 3] 3)).heap.size=w3.heap.size+1 by simp)▸HOS.out)
   have HGS:=zz (grown_alloc HG3'.out (.cells #[.int .i64 9, .string ByteArray.empty, .int .i64 3] 44))
   have HRS:=zz ((hr3'.kept (World.grownBy_alloc _ (.cells #[.int .i64 9, .string ByteArray.empty, .int .i64 3] 44) none) (by simp)).mono (show _≤p+4+0*kd by omega))
   have HLT:=zz h.lt
   go_loopw [8,9] (fun out i wr=> ∃(k:Nat) (l':List Cl),k≤M∧i= .int .i64 (k:Int)∧wr.ownsRow w.heap.size 44 3 out l'.length (flatC l')∧(∀c∈l',wdN c.2.1=true)∧1≤l'.length∧l'.length≤1+k*cd∧Rdm wr R (p+4+k*kd)∧w.grownBy wr (some R)) (fun _ i _=>M-(intOf i).toNat)
   case atStart=>exact ⟨0,[(9,ByteArray.empty,3)],Nat.zero_le _,rfl,HOS.out,(fun c hc=>by rw [List.mem_singleton] at hc;subst hc;exact ht),Nat.le_refl _,by simp,HRS.out,HGS.out⟩
   case round=>
    obtain ⟨k,l',hk,rfl,hown,hsh,hl1,hlc,hr,hg⟩:=hrel
    have HO:=zz hown;have HSH:=zz hsh;have HR:=zz hr;have HG:=zz hg
    clear hown hsh hr hg
    have hkc:k*cd≤3*cd:=Nat.mul_le_mul_right _ (by omega)
    have hkk:k*kd≤3*kd:=Nat.mul_le_mul_right _ (by omega)
    have HS1:=zz (show (k+1)*cd=k*cd+cd from Nat.succ_mul k cd);have HS2:=zz (show (k+1)*kd=k*kd+kd from Nat.succ_mul k kd)
    by_cases hlt:k<M
    ·have hltI:(k:Int)<3:=by have:=HMI.out;omega
     have hkk1:(k+1)*kd≤3*kd:=Nat.mul_le_mul_right _ (by omega)
     have hb1:p+4+k*kd+kd<1073741824:=by have:=HS2.out;have:=HKP.out;omega
     go_wp2_with fail
     rw [HDM.out]
     refine (IH.out R (p+4+k*kd) _ (by omega) (by rw [HKD.out];exact hb1) HR.out).mono ?_
     rintro e w5 ⟨v5,l5,rfl,ho5,hsh5,h15,hc5,hr5,hg5⟩
     rw [HKD.out] at hr5;rw [HCD.out] at hc5
     have HO5:=zz (HO.out.kept hg5 (.inr (by intro he;have:=(HO.out.lt _ he).1;have:=HLT.out;omega)))
     have HG5:=zz (grown_trans HG.out hg5)
     have HP5:=zz ho5;have HSH5:=zz hsh5;have HR5:=zz hr5
     clear ho5 hsh5 hr5 hg5
     have hll:l'.length+l5.length≤1000:=by omega
     go_wp2_with (at_builtin;refine append_rows rfl _ _ 26 rfl w.heap.size 44 i0 (.agg #[.int .i64 0, .string ByteArray.empty, .int .i64 0]) 3 32 Tryz.underlying26 hi hz0 hz1 hz2 rfl (by decide) _ _ _ rfl HO5.out _ _ _ _ rfl HP5.out (flatC_one _) (by unfold maxLen;omega) (by omega) HG5.out.size ?_;intro v6 w6 hown6 hgrow6;have HO6:=zz hown6;have HG6:=zz (grown_own HG5.out hgrow6 (fun q hq=>(HO5.out.lt q hq).1));have HR6:=zz (HR5.out.kept hgrow6 (fun q hq=>by have:=(HO5.out.lt q hq).1;have:=HLT.out;omega));clear hown6 hgrow6)
     go_roundw
     case rel=>exact ⟨k+1,l'++l5,by omega,by go_num,by rw [List.length_append,flatC_append];exact HO6.out,(fun c hc=>by rw [List.mem_append] at hc;exact hc.elim (HSH.out c) (HSH5.out c)),by rw [List.length_append];omega,by rw [List.length_append];have:=HS1.out;omega,HR6.out.mono (by have:=HS2.out;omega),HG6.out⟩
     case measure=>simp [intOf];omega
    ·obtain rfl:k=M:=by omega
     have hltI: ¬(k:Int)<3:=by have:=HMI.out;omega
     go_wp2
     go_ret
     exact ⟨_,l',rfl,HO.out,HSH.out,hl1,by have:=HCB.out;omega,HR.out.mono (by have:=HKP.out;omega),HG.out⟩
theorem flatC_cons (a:Cl) (t:List Cl):flatC (a::t)= .int .i64 a.1:: .string a.2.1:: .int .i64 a.2.2::flatC t:=by simp [flatC]
theorem flatC_set0 (l:List Cl): ∀(k:Nat) (h:k<l.length) (x:Int),(flatC l).set (k*3) (.int .i64 x)=flatC (l.set k (x,l[k].2.1,l[k].2.2)):=by
 induction l with
 |nil=>intro k h;simp at h
 |cons a t ih=>
  intro k h x
  cases k with
  |zero=>simp only [flatC_cons,List.set_cons_zero,List.getElem_cons_zero,Nat.zero_mul]
  |succ k=>
   have hk:k<t.length:=by simpa using h
   simp only [flatC_cons,show (k+1)*3=(k*3)+1+1+1 by omega,List.set_cons_succ,List.getElem_cons_succ,ih k hk x]
theorem flatC_set1 (l:List Cl): ∀(k:Nat) (h:k<l.length) (x:ByteArray),(flatC l).set (k*3+1) (.string x)=flatC (l.set k (l[k].1,x,l[k].2.2)):=by
 induction l with
 |nil=>intro k h;simp at h
 |cons a t ih=>
  intro k h x
  cases k with
  |zero=>simp only [flatC_cons,List.set_cons_zero,List.getElem_cons_zero,Nat.zero_mul,Nat.zero_add,List.set_cons_succ]
  |succ k=>
   have hk:k<t.length:=by simpa using h
   simp only [flatC_cons,show (k+1)*3+1=(k*3+1)+1+1+1 by omega,List.set_cons_succ,List.getElem_cons_succ,ih k hk x]
theorem flatC_set2 (l:List Cl): ∀(k:Nat) (h:k<l.length) (x:Int),(flatC l).set (k*3+2) (.int .i64 x)=flatC (l.set k (l[k].1,l[k].2.1,x)):=by
 induction l with
 |nil=>intro k h;simp at h
 |cons a t ih=>
  intro k h x
  cases k with
  |zero=>simp only [flatC_cons,List.set_cons_zero,List.getElem_cons_zero,Nat.zero_mul,Nat.zero_add,List.set_cons_succ]
  |succ k=>
   have hk:k<t.length:=by simpa using h
   simp only [flatC_cons,show (k+1)*3+2=(k*3+2)+1+1+1 by omega,List.set_cons_succ,List.getElem_cons_succ,ih k hk x]
theorem short_set {l:List Cl} (h: ∀c∈l,wdN c.2.1=true) (k:Nat) (c:Cl) (hc:wdN c.2.1=true): ∀d∈l.set k c,wdN d.2.1=true:=by
 intro d hd
 rcases List.mem_or_eq_of_mem_set hd with hd|rfl
 ·exact h d hd
 ·exact hc
theorem short_cons {l:List Cl} (h: ∀c∈l,wdN c.2.1=true) (c:Cl) (hc:wdN c.2.1=true): ∀d∈c::l,wdN d.2.1=true:=by
 intro d hd
 rw [List.mem_cons] at hd
 rcases hd with rfl|hd
 ·exact hc
 ·exact h d hd
def RowK (B:Nat) (w:World) (v:Value) (l:List Cl):Prop:= ∀w':World,(∀b,B≤b→b<w.heap.size→w'.heap[b]? =w.heap[b]?)→w.heap.size≤w'.heap.size→RowC w' v l
theorem RowK.row {B:Nat} {w:World} {v:Value} {l:List Cl} (h:RowK B w v l):RowC w v l:=h w (fun _ _ _=>rfl) (Nat.le_refl _)
theorem RowK.of_own {B b m:Nat} {w:World} {v:Value} {l:List Cl} (h:w.ownsRow b 44 3 v m (flatC l)) (hb:B≤b):RowK B w v l:=fun w' hw hs=>
 (RowC.of_own (own_keep h (fun g hg=>hw g (Nat.le_trans hb (h.lt g hg).1) (h.lt g hg).2))).1
theorem RowK.keep {B:Nat} {w w1:World} {v:Value} {l:List Cl} (h:RowK B w v l) (hw: ∀b,B≤b→b<w.heap.size→w1.heap[b]? =w.heap[b]?) (hs:w.heap.size≤w1.heap.size):RowK B w1 v l:=fun w' h1 h2=>
 h w' (fun b hb hlt=>(h1 b hb (by omega)).trans (hw b hb hlt)) (by omega)
theorem RowK.lower {B B':Nat} {w:World} {v:Value} {l:List Cl} (h:RowK B w v l) (hb:B'≤B):RowK B' w v l:=fun w' h1 h2=>h w' (fun b hb' hlt=>h1 b (by omega) hlt) h2
def ExprD (R p:Nat) (n:Int) (w:World) (e:Ending) (w':World):Prop:=
 ∃(v:Value) (l:List Cl),e= .returned v∧RowK w.heap.size w' v l∧(∀c∈l,wdN c.2.1=true)∧l.length≤60∧(n<1→1≤l.length)∧Rdm w' R (p+1000)∧w.grownBy w' (some R)
theorem ExprD.of_own {R p q m:Nat} {n:Int} {w w':World} {v:Value} {l:List Cl} (h:w'.ownsRow w.heap.size 44 3 v m (flatC l)) (hRb:R<w.heap.size) (hs: ∀c∈l,wdN c.2.1=true) (hl:l.length≤60) (hn:1≤l.length) (hr:Rdm w' R q) (hq:q≤p+1000) (hg:w.grownBy w' (some R)):
  ExprD R p n w (.returned v) w':=⟨v,l,rfl,RowK.of_own h (Nat.le_refl _),hs,hl,fun _=>hn,hr.mono hq,hg⟩
theorem three (m:Nat) (h:m<3): ∃t:Int,(#[Value.int .i64 (-1), .int .i64 4, .int .i64 9]:Array Value)[m]? =some (.int .i64 t):=by
 match m,h with
 |0,_=>exact ⟨_,rfl⟩
 |1,_=>exact ⟨_,rfl⟩
 |2,_=>exact ⟨_,rfl⟩
theorem slice_form {w:World} {b m:Nat} {v:Value} {l:List Cl} (h:w.ownsRow b 44 3 v m (flatC l)) (hl:1≤l.length): ∃g cap,v= .slice (some ⟨g,0,none⟩) l.length cap∧m=l.length∧b≤g∧g<w.heap.size∧l.length≤cap∧cap≤maxLen:=by
 have hm:=(RowC.of_own h).2
 subst hm
 rcases h.2 with ⟨rfl,h0⟩|⟨g,cap,cur,rfl,hb,hh,h1,h2,_⟩
 ·omega
 ·exact ⟨g,cap,rfl,rfl,hb,(h.lt g rfl).2,h1,h2⟩
theorem expr_any (R p:Nat) (n:Int) (w:World) (hp:p<100000000) (hn0:0≤n) (hn1:n≤1000) (h:Rdm w R p):
  Calls Tryz.prog 54 #[.pointer (some ⟨R,0,none⟩), .int .i64 n] w (ExprD R p n w):=by
 obtain ⟨i0,hi,hz0,hz1,hz2⟩:=info_parts infoC
 have HLT:=zz h.lt
 go_enter Tryz.func54,Tryz.ntmps54
 go_wp2_with fail
 refine (pick_any R p 4 _ (by omega) h).mono ?_
 rintro e w1 ⟨i,rfl,hi0,hi1,-,hr1,hg1,hs1⟩
 have hi2:=hi1 (by omega)
 obtain ⟨i1,rfl⟩:=Int.eq_ofNat_of_zero_le hi0
 have HG1:=zz hg1
 have HDE:=zz (show 1+(i1:Int)=((1+i1:Nat):Int) by omega)
 have hd4:1+i1=1∨1+i1=2∨1+i1=3∨1+i1=4:=by omega
 have hkp:kp (1+i1)≤968:=by rcases hd4 with h|h|h|h<;>rw [h]<;>decide
 have hcb:cb (1+i1)≤40:=by rcases hd4 with h|h|h|h<;>rw [h]<;>decide
 clear hi1 hg1 hs1 h hd4
 go_wp2_with fail
 rw [HDE.out]
 refine (cells_any (1+i1) R (p+1) _ (by omega) (by omega) hr1).mono ?_
 rintro e w2 ⟨v,l,rfl,hown,hsh,hl1,hlc,hr2,hg2⟩
 obtain ⟨g,cap,rfl,-,hbg,hgl,hcap,hcm⟩:=slice_form hown hl1
 unfold maxLen at hcm
 have hl40:l.length≤40:=by omega
 have hR:w.heap.size≤w1.heap.size:=HG1.out.size
 have HO:=zz (hown.mono hR);have HSH:=zz hsh
 have HG2:=zz (grown_trans HG1.out hg2)
 have hr2':Rdm w2 R (p+970):=hr2.mono (by omega)
 have hgw:w.heap.size≤g:=by omega
 have hRg:R<g:=by have:=HLT.out;omega
 clear hown hsh hlc hr2 hg2 hr1 HG1 hbg hkp hcb
 go_wp2_with fail
 refine (odd_any R (p+970) n _ (by omega) (by omega) (by omega) hr2').mono ?_
 rintro e w3 ⟨b,rfl,hbn,hr3,hg3,hs3⟩
 have HO3:=zz (HO.out.kept hg3 (.inr (by simp [Value.ownBlock];omega)))
 have HG3:=zz (grown_trans HG2.out hg3)
 clear hg3 hs3 hr2' HO HG2
 cases b with
 |false=>
  go_wp2
  go_ret
  exact ExprD.of_own HO3.out HLT.out HSH.out (by omega) hl1 hr3 (by omega) HG3.out
 |true=>
  have hn: ¬n<1:=fun h=>by have:=hbn h;cases this
  clear hbn
  go_wp2_with fail
  refine (pick_any R (p+970+1) 6 _ (by omega) hr3).mono ?_
  rintro e w4 ⟨y,rfl,hy0,hy1,-,hr4,hg4,hs4⟩
  have hy2:=hy1 (by omega)
  obtain ⟨y1,rfl⟩:=Int.eq_ofNat_of_zero_le hy0
  have HO4:=zz (HO3.out.kept hg4 (.inr (by simp [Value.ownBlock];omega)))
  have HG4:=zz (grown_trans HG3.out hg4)
  have HR4:=zz (hr4.mono (show _≤p+972 by omega))
  clear hy1 hg4 hs4 hr3 HO3 HG3 hr4
  have hy6:y1=0∨y1=1∨y1=2∨y1=3∨y1=4∨y1=5:=by omega
  clear hy2
  rcases hy6 with rfl|rfl|rfl|rfl|rfl|rfl
  ·go_wp2_with (at_builtin;refine wpList_append_own _ rfl _ _ 26 rfl w.heap.size 44 i0 (.agg #[.int .i64 0, .string ByteArray.empty, .int .i64 0]) 3 32 Tryz.underlying26 hi hz0 hz1 hz2 rfl (by decide) _ _ _ rfl (HO4.out.alloc _) ⟨w4.heap.size,0,none⟩ 1 1 [.int .i64 1, .string ⟨#[49]⟩, .int .i64 0] rfl rfl (World.news_of_block (cs:= #[.int .i64 1, .string ⟨#[49]⟩, .int .i64 0]) (t:=44) (fr:=(0,0)) (heap_alloc_new w4 _)) (by simp [Value.oneCell']) (by unfold maxLen;omega) (by omega) (by have:=HG4.out.size;simp;omega) ?_;intro v6 w6 hown6 hgrow6 hnil6;have HO6:=zz hown6;have HG6:=zz (grown_own (grown_alloc HG4.out _) hgrow6 (fun q hq=>(HO4.out.lt q hq).1));have HR6:=zz ((HR4.out.kept (World.grownBy_alloc w4 _ none) (by simp)).kept hgrow6 (fun q hq=>by have:=(HO4.out.lt q hq).1;have:=HLT.out;omega));clear hown6 hgrow6 hnil6)
   go_ret
   refine ExprD.of_own (l:=l++[(1,⟨#[49]⟩,0)]) (m:=l.length+1) ?_ HLT.out ?_ ?_ ?_ HR6.out (by omega) HG6.out
   ·rw [flatC_append];exact HO6.out
   ·intro c hc
    rw [List.mem_append,List.mem_singleton] at hc
    rcases hc with hc|rfl
    ·exact HSH.out c hc
    ·decide
   ·rw [List.length_append,List.length_singleton];omega
   ·rw [List.length_append,List.length_singleton];omega
  ·have HRC:=zz (RowK.of_own HO4.out (Nat.le_refl _))
   by_cases hc1:cap=1
   ·subst hc1
    have hll:l.length=1:=by omega
    go_wp2
    go_ret
    refine ⟨_,[],rfl, ?_,fun c hc=>by simp at hc,by simp,fun h=>by omega,HR4.out.mono (by omega),HG4.out⟩
    exact fun _ _ _=>⟨_,0,rfl,Nat.le_refl _,by unfold maxLen;omega, .inl rfl⟩
   ·have hcc: ¬(cap:Int)=1:=by omega
    have HSB:=zz (fun w' hg hs=>(HRC.out w' hg hs).sub 1 l.length hl1 (Nat.le_refl _))
    go_wp2
    go_ret
    refine ⟨_,(l.take l.length).drop 1,rfl, ?_,fun c hc=>HSH.out c (List.mem_of_mem_take (List.mem_of_mem_drop hc)),by rw [List.length_drop,List.length_take];omega,fun h=>by omega,HR4.out.mono (by omega),HG4.out⟩
    exact HSB.out
  ·go_wp2_with fail
   refine (pick_any R (p+972) (l.length:Int) _ (by omega) HR4.out).mono ?_
   rintro e w5 ⟨x,rfl,hx0,hx1,-,hr5,hg5,hs5⟩
   have hx2:=hx1 (by omega)
   obtain ⟨k,rfl⟩:=Int.eq_ofNat_of_zero_le hx0
   have hkl:k<l.length:=by omega
   have HO5:=zz (HO4.out.kept hg5 (.inr (by simp [Value.ownBlock];omega)))
   have HG5:=zz (grown_trans HG4.out hg5)
   clear hx1 hg5 hs5 HO4 HG4
   go_wp2_with fail
   refine (pick_any R (p+972+1) 11 _ (by omega) hr5).mono ?_
   rintro e w6 ⟨t,rfl,-,-,-,hr6,hg6,hs6⟩
   have HO6:=zz (HO5.out.kept hg6 (.inr (by simp [Value.ownBlock];omega)))
   have HG6:=zz (grown_trans HG5.out hg6)
   clear hg6 hs6 HO5 HG5
   obtain ⟨u,hu⟩: ∃u,w6.cell? ⟨g,k*3,none⟩=some u:=by
    rw [HO6.out.cellAt (k*3) (by omega),List.getElem?_eq_getElem (by rw [flatC_length];omega)];exact ⟨_,rfl⟩
   have hfz:=HO6.out.frozenAt (k*3)
   have HS:=zz (HO6.out.stored (k*3) (.int .i64 t))
   have HNW:=zz (flatC_set0 l k hkl t)
   go_wp2
   go_ret
   refine ExprD.of_own (l:=l.set k (t,l[k].2.1,l[k].2.2)) (m:=l.length) ?_ HLT.out ?_ ?_ ?_ (hr6.kept HS.out.2 (by intro q hq;simp only [Option.some.injEq] at hq;omega)) (by omega) (grown_own HG6.out HS.out.2 (by intro q hq;simp only [Option.some.injEq] at hq;omega))
   ·rw [←HNW.out];exact HS.out.1
   ·exact short_set HSH.out k _ (show wdN l[k].2.1=true from HSH.out _ (List.getElem_mem hkl))
   ·rw [List.length_set];omega
   ·rw [List.length_set];omega
  ·go_wp2_with fail
   refine (pick_any R (p+972) (l.length:Int) _ (by omega) HR4.out).mono ?_
   rintro e w5 ⟨x,rfl,hx0,hx1,-,hr5,hg5,hs5⟩
   have hx2:=hx1 (by omega)
   obtain ⟨k,rfl⟩:=Int.eq_ofNat_of_zero_le hx0
   have hkl:k<l.length:=by omega
   have HO5:=zz (HO4.out.kept hg5 (.inr (by simp [Value.ownBlock];omega)))
   have HG5:=zz (grown_trans HG4.out hg5)
   clear hx1 hg5 hs5 HO4 HG4
   have hr5':=hr5.kept (World.grownBy_alloc w5 (.cells #[.int .i64 (-1), .int .i64 4, .int .i64 9] 3) none) (by simp)
   go_wp2_with fail
   refine (pick_any R (p+972+1) 3 _ (by omega) hr5').mono ?_
   rintro e w6 ⟨z,rfl,hz0',hz1',-,hr6,hg6,hs6⟩
   have hz2':=hz1' (by omega)
   obtain ⟨z1,rfl⟩:=Int.eq_ofNat_of_zero_le hz0'
   obtain ⟨t,hlit⟩:=three z1 (by omega)
   have hcell9:=lit_cell hr5.lt hg6 hlit
   have HO6:=zz ((HO5.out.alloc _).kept hg6 (.inr (by simp [Value.ownBlock];omega)))
   have HG6:=zz (grown_trans (grown_alloc HG5.out _) hg6)
   clear hz1' hg6 hs6 HO5 HG5 hlit
   obtain ⟨u,hu⟩: ∃u,w6.cell? ⟨g,k*3+2,none⟩=some u:=by
    rw [HO6.out.cellAt (k*3+2) (by omega),List.getElem?_eq_getElem (by rw [flatC_length];omega)];exact ⟨_,rfl⟩
   have hfz:=HO6.out.frozenAt (k*3+2)
   have HS:=zz (HO6.out.stored (k*3+2) (.int .i64 t))
   have HNW:=zz (flatC_set2 l k hkl t)
   go_wp2
   go_ret
   refine ExprD.of_own (l:=l.set k (l[k].1,l[k].2.1,t)) (m:=l.length) ?_ HLT.out ?_ ?_ ?_ (hr6.kept HS.out.2 (by intro q hq;simp only [Option.some.injEq] at hq;omega)) (by omega) (grown_own HG6.out HS.out.2 (by intro q hq;simp only [Option.some.injEq] at hq;omega))
   ·rw [←HNW.out];exact HS.out.1
   ·exact short_set HSH.out k _ (show wdN l[k].2.1=true from HSH.out _ (List.getElem_mem hkl))
   ·rw [List.length_set];omega
   ·rw [List.length_set];omega
  ·go_wp2_with fail
   go_loopw [5,6] (fun out i wr=> ∃(k:Nat) (l':List Cl),k≤12∧i= .int .i64 (k:Int)∧wr.ownsRow w.heap.size 44 3 out l'.length (flatC l')∧(∀c∈l',wdN c.2.1=true)∧1≤l'.length∧l'.length≤40+k∧Rdm wr R (p+972)∧w.grownBy wr (some R)) (fun _ i _=>12-(intOf i).toNat)
   case atStart=>exact ⟨0,l,Nat.zero_le _,rfl,HO4.out,HSH.out,hl1,by omega,HR4.out,HG4.out⟩
   case round=>
    obtain ⟨k,l',hk,rfl,hown,hsh,hl1',hlc,hr,hg⟩:=hrel
    have HO:=zz hown;have HSH':=zz hsh;have HR:=zz hr;have HG:=zz hg
    clear hown hsh hr hg
    by_cases hlt:k<12
    ·have HLIT:=zz (World.ownsRow_lit (base:=w.heap.size) (e:=44) (size:=3) wr #[.int .i64 7, .string ⟨#[33]⟩, .int .i64 1] 1 HG.out.size (by unfold maxLen;omega) rfl)
     have HOA:=zz (HO.out.alloc (.cells #[.int .i64 7, .string ⟨#[33]⟩, .int .i64 1] 44))
     have hws:w.heap.size≤wr.heap.size:=HG.out.size
     go_wp2_with (at_builtin;refine append_rows rfl _ _ 26 rfl w.heap.size 44 i0 (.agg #[.int .i64 0, .string ByteArray.empty, .int .i64 0]) 3 32 Tryz.underlying26 hi hz0 hz1 hz2 rfl (by decide) _ _ _ rfl HLIT.out _ _ _ _ rfl HOA.out (flatC_one _) (by unfold maxLen;omega) (by omega) (by simp;omega) ?_;intro v6 w6 hown6 hgrow6)
     have HO6:=zz hown6
     have HG6:=zz (grown_own (grown_alloc HG.out _) hgrow6 (fun q hq=>(HLIT.out.lt q hq).1))
     have HR6:=zz ((HR.out.kept (World.grownBy_alloc wr _ none) (by simp)).kept hgrow6 (fun q hq=>by have:=(HLIT.out.lt q hq).1;have:=HLT.out;omega))
     clear hown6 hgrow6
     go_roundw
     case rel=>exact ⟨k+1,(7,⟨#[33]⟩,1)::l',by omega,by go_num,by rw [List.length_cons,flatC_cons,Nat.add_comm];exact HO6.out,short_cons HSH'.out _ (show wdN (⟨#[33]⟩:ByteArray)=true by decide),by rw [List.length_cons];omega,by rw [List.length_cons];omega,HR6.out,HG6.out⟩
     case measure=>simp [intOf];omega
    ·go_wp2
     go_ret
     exact ExprD.of_own HO.out HLT.out HSH'.out (by omega) hl1' HR.out (by omega) HG.out
  ·go_wp2_with fail
   refine (pick_any R (p+972) (l.length:Int) _ (by omega) HR4.out).mono ?_
   rintro e w5 ⟨x,rfl,hx0,hx1,-,hr5,hg5,hs5⟩
   have hx2:=hx1 (by omega)
   obtain ⟨k,rfl⟩:=Int.eq_ofNat_of_zero_le hx0
   have hkl:k<l.length:=by omega
   have HO5:=zz (HO4.out.kept hg5 (.inr (by simp [Value.ownBlock];omega)))
   have HG5:=zz (grown_trans HG4.out hg5)
   clear hx1 hg5 hs5 HO4 HG4
   obtain ⟨u,hu⟩: ∃u,w5.cell? ⟨g,k*3+1,none⟩=some u:=by
    rw [HO5.out.cellAt (k*3+1) (by omega),List.getElem?_eq_getElem (by rw [flatC_length];omega)];exact ⟨_,rfl⟩
   have hfz:=HO5.out.frozenAt (k*3+1)
   have HS:=zz (HO5.out.stored (k*3+1) (.string ⟨#[63]⟩))
   have HNW:=zz (flatC_set1 l k hkl ⟨#[63]⟩)
   go_wp2
   go_ret
   refine ExprD.of_own (l:=l.set k (l[k].1,⟨#[63]⟩,l[k].2.2)) (m:=l.length) ?_ HLT.out ?_ ?_ ?_ (hr5.kept HS.out.2 (by intro q hq;simp only [Option.some.injEq] at hq;omega)) (by omega) (grown_own HG5.out HS.out.2 (by intro q hq;simp only [Option.some.injEq] at hq;omega))
   ·rw [←HNW.out];exact HS.out.1
   ·exact short_set HSH.out k _ (by show wdN (⟨#[63]⟩:ByteArray)=true;decide)
   ·rw [List.length_set];omega
   ·rw [List.length_set];omega
end Go.Proofs.YthillfgjpalpcaaGreatDoor
