/-
  Drawn names: spec.l20Name.
-/
import Derived.Test.YtegdjjjpoahamaaGreatDoorBaseD
set_option linter.unusedVariables false
set_option maxHeartbeats 2000000
set_option maxRecDepth 100000
namespace Go.Proofs.YtegdjjjpoahamaaGreatDoor
open Go.RowKit
def Names (R p:Nat) (w:World) (e:Ending) (w':World):Prop:=
 ∃s:ByteArray,e= .returned (.string s)∧s.size≤13∧Rdm w' R (p+2)∧w.grownBy w' (some R)
theorem lit_cell2 {w w':World} {R:Nat} {C:Array Value} {t:TypeId} {o:Obj} {m:Nat} {v:Value} (hR:R<w.heap.size) (hg:((w.alloc (.cells C t)).alloc o).grownBy w' (some R)) (hv:C[m]? =some v):w'.cell? ⟨w.heap.size,m,none⟩=some v:=by
 refine hg.cell (a:=⟨w.heap.size,m,none⟩) ((World.grownBy_alloc _ o none).cell (a:=⟨w.heap.size,m,none⟩) ?_ (by simp)) (by intro e;simp only [Option.some.injEq] at e;omega)
 simp only [World.cell?,heap_alloc_new]
 simpa using hv
theorem lit_cell1 {w w':World} {R:Nat} {C:Array Value} {t:TypeId} {o:Obj} {m:Nat} {v:Value} (hR:R<w.heap.size) (hg:((w.alloc o).alloc (.cells C t)).grownBy w' (some R)) (hv:C[m]? =some v):w'.cell? ⟨w.heap.size+1,m,none⟩=some v:=by
 have hs:(w.alloc o).heap.size=w.heap.size+1:=by simp
 rw [←hs]
 exact lit_cell (by omega) hg hv
theorem name12 (m:Nat) (h:m<12): ∃t:ByteArray,t.size≤13∧(#[Value.string ⟨#[]⟩, .string ⟨#[65]⟩, .string ⟨#[49,97]⟩, .string ⟨#[95,97]⟩, .string ⟨#[97,46]⟩, .string ⟨#[46,97]⟩, .string ⟨#[97,46,46,98]⟩, .string ⟨#[116,114,117,101]⟩, .string ⟨#[102,97,108,115,101]⟩, .string ⟨#[97,98,99,100,101,102,103,104,105,106,107,108,109]⟩, .string ⟨#[97,32,98]⟩, .string ⟨#[97,45,98]⟩]:Array Value)[m]? =some (.string t):=by
 match m,h with
 |0,_=>exact ⟨_,by decide,rfl⟩
 |1,_=>exact ⟨_,by decide,rfl⟩
 |2,_=>exact ⟨_,by decide,rfl⟩
 |3,_=>exact ⟨_,by decide,rfl⟩
 |4,_=>exact ⟨_,by decide,rfl⟩
 |5,_=>exact ⟨_,by decide,rfl⟩
 |6,_=>exact ⟨_,by decide,rfl⟩
 |7,_=>exact ⟨_,by decide,rfl⟩
 |8,_=>exact ⟨_,by decide,rfl⟩
 |9,_=>exact ⟨_,by decide,rfl⟩
 |10,_=>exact ⟨_,by decide,rfl⟩
 |11,_=>exact ⟨_,by decide,rfl⟩
theorem name10 (m:Nat) (h:m<10): ∃t:ByteArray,t.size≤13∧(#[Value.string ⟨#[97]⟩, .string ⟨#[98]⟩, .string ⟨#[99]⟩, .string ⟨#[120,49]⟩, .string ⟨#[108,111,110,103,95,110,97,109,101]⟩, .string ⟨#[113,46,97]⟩, .string ⟨#[113,46,98]⟩, .string ⟨#[113,46,115,46,97]⟩, .string ⟨#[97,98,99,100,101,102,103,104,105,106,107,108]⟩, .string ⟨#[116,114,117,116,104]⟩]:Array Value)[m]? =some (.string t):=by
 match m,h with
 |0,_=>exact ⟨_,by decide,rfl⟩
 |1,_=>exact ⟨_,by decide,rfl⟩
 |2,_=>exact ⟨_,by decide,rfl⟩
 |3,_=>exact ⟨_,by decide,rfl⟩
 |4,_=>exact ⟨_,by decide,rfl⟩
 |5,_=>exact ⟨_,by decide,rfl⟩
 |6,_=>exact ⟨_,by decide,rfl⟩
 |7,_=>exact ⟨_,by decide,rfl⟩
 |8,_=>exact ⟨_,by decide,rfl⟩
 |9,_=>exact ⟨_,by decide,rfl⟩
theorem name13 (m:Nat) (h:m<13): ∃t:Nat,t<10∧(#[Value.int .i64 0, .int .i64 0, .int .i64 1, .int .i64 1, .int .i64 2, .int .i64 2, .int .i64 3, .int .i64 4, .int .i64 5, .int .i64 6, .int .i64 7, .int .i64 8, .int .i64 9]:Array Value)[m]? =some (.int .i64 (t:Int)):=by
 match m,h with
 |0,_=>exact ⟨0,by decide,rfl⟩
 |1,_=>exact ⟨0,by decide,rfl⟩
 |2,_=>exact ⟨1,by decide,rfl⟩
 |3,_=>exact ⟨1,by decide,rfl⟩
 |4,_=>exact ⟨2,by decide,rfl⟩
 |5,_=>exact ⟨2,by decide,rfl⟩
 |6,_=>exact ⟨3,by decide,rfl⟩
 |7,_=>exact ⟨4,by decide,rfl⟩
 |8,_=>exact ⟨5,by decide,rfl⟩
 |9,_=>exact ⟨6,by decide,rfl⟩
 |10,_=>exact ⟨7,by decide,rfl⟩
 |11,_=>exact ⟨8,by decide,rfl⟩
 |12,_=>exact ⟨9,by decide,rfl⟩
theorem name_any (R p:Nat) (n:Int) (w:World) (hp:p<1073741824) (hn0:0≤n) (hn1:n≤1000) (h:Rdm w R p):
  Calls Tryz.prog 213 #[.pointer (some ⟨R,0,none⟩), .int .i64 n] w (Names R p w):=by
 go_enter Tryz.func213,Tryz.ntmps213
 go_wp2_with fail
 refine (odd_any R p n _ (by omega) (by omega) (by omega) h).mono ?_
 rintro e w2 ⟨b,rfl,-,hr2,hg2,hs2⟩
 have HG2:=Lib.hid hg2
 clear hg2 hs2 h
 cases b with
 |true=>
  go_wp2_with fail
  refine (pick_any R (p+1) 12 _ (by omega) (hr2.kept (World.grownBy_alloc w2 _ none) (by simp))).mono ?_
  rintro e w3 ⟨j,rfl,hj0,hj1,-,hr3,hg3,hs3⟩
  have hj2:=hj1 (by omega)
  obtain ⟨j1,rfl⟩:=Int.eq_ofNat_of_zero_le hj0
  obtain ⟨t,ht,hlit⟩:=name12 j1 (by omega)
  have hcell:=lit_cell hr2.lt hg3 hlit
  have HG3:=Lib.hid (grown_trans (grown_alloc HG2.out _) hg3)
  clear hj1 hg3 hs3 hlit hr2 HG2
  go_wp2
  go_ret
  exact ⟨_,rfl,ht,hr3.mono (by omega),HG3.out⟩
 |false=>
  go_wp2_with fail
  refine (pick_any R (p+1) 13 _ (by omega) ((hr2.kept (World.grownBy_alloc w2 _ none) (by simp)).kept (World.grownBy_alloc _ _ none) (by simp))).mono ?_
  rintro e w3 ⟨j,rfl,hj0,hj1,-,hr3,hg3,hs3⟩
  have hj2:=hj1 (by omega)
  obtain ⟨j1,rfl⟩:=Int.eq_ofNat_of_zero_le hj0
  obtain ⟨q,hq,hlit⟩:=name13 j1 (by omega)
  obtain ⟨t,ht,hlit2⟩:=name10 q (by omega)
  have hcell:=lit_cell1 hr2.lt hg3 hlit
  have hcell2:=lit_cell2 hr2.lt hg3 hlit2
  have HG3:=Lib.hid (grown_trans (grown_alloc (grown_alloc HG2.out _) _) hg3)
  clear hj1 hg3 hs3 hlit hr2 HG2 hlit2
  go_wp2
  go_ret
  exact ⟨_,rfl,ht,hr3.mono (by omega),HG3.out⟩
end Go.Proofs.YtegdjjjpoahamaaGreatDoor
