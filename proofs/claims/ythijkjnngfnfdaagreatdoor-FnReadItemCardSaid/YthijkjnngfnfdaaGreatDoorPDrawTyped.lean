/-
  Drawn expressions of a type: spec.l20Typed.
-/
import Derived.Test.YthijkjnngfnfdaaGreatDoorZz
import Derived.Test.YthijkjnngfnfdaaGreatDoorPDrawCells
import Derived.Deep.RegionLaw
import Derived.Deep.AppendLies
set_option linter.unusedVariables false
set_option maxHeartbeats 4000000
set_option maxRecDepth 100000
namespace Go.Proofs.YthijkjnngfnfdaaGreatDoor
open Go.RowKit
def kt:Nat→Nat
 |0=>4
 |d+1=>5+3*kt d
def ct:Nat→Nat
 |0=>1
 |d+1=>if d=0 then 1 else 1+3*ct d
theorem yA (d:Nat):4≤kt d:=by
 cases d with
 |zero=>simp [kt]
 |succ d=>rw [kt];omega
theorem yB (d:Nat):1≤ct d:=by
 cases d with
 |zero=>simp [ct]
 |succ d=>rw [ct];split<;>omega
def TypD (R p K C:Nat) (w:World) (e:Ending) (w':World):Prop:=
 ∃(v:Value) (l:List Cl),e= .returned v∧w'.ownsRow w.heap.size 120 3 v l.length (ap l)∧(∀c∈l,c.2.1.size≤5)∧1≤l.length∧l.length≤C∧Rdm w' R (p+K)∧w.grownBy w' (some R)
theorem TypD.one {R p K C:Nat} {w w1:World} (k m:Int) (s:ByteArray) (hs:s.size≤5) (hC:1≤C) (hr:Rdm w1 R (p+K)) (hg:w.grownBy w1 (some R)):
  TypD R p K C w (.returned (.slice (some ⟨w1.heap.size,0,none⟩) 1 1)) (w1.alloc (.cells #[.int .i64 k, .string s, .int .i64 m] 120)):=by
 refine ⟨_,[(k,s,m)],rfl,World.ownsRow_lit w1 _ 1 hg.size (by unfold maxLen;omega) rfl, ?_,ain _,hC,hr.kept (aip w1 _ none) (by simp),ae hg _⟩;intro c hc;rw [List.mem_singleton] at hc;subst hc;exact hs
theorem fY {l:List Cl} {c:Cl} (hc:c.2.1.size≤5) (h: ∀c∈l,c.2.1.size≤5): ∀x∈[c]++l,x.2.1.size≤5:=by
 intro x hx;rw [List.mem_append,List.mem_singleton] at hx
 rcases hx with rfl|hx
 ·exact hc
 ·exact h x hx
theorem ea {l m:List Cl} (h: ∀c∈l,c.2.1.size≤5) (h': ∀c∈m,c.2.1.size≤5): ∀x∈l++m,x.2.1.size≤5:=by
 intro x hx;rw [List.mem_append] at hx;exact hx.elim (h x) (h' x)
theorem aeu (m:Nat) (h:m<5): ∃t:ByteArray,t.size≤5∧(#[Value.string ⟨#[48]⟩, .string ⟨#[49]⟩, .string ⟨#[50]⟩, .string ⟨#[53]⟩, .string ⟨#[48,46,53]⟩]:Array Value)[m]? =some (.string t):=by
 match m,h with
 |0,_=>exact ⟨_,by decide,rfl⟩
 |1,_=>exact ⟨_,by decide,rfl⟩
 |2,_=>exact ⟨_,by decide,rfl⟩
 |3,_=>exact ⟨_,by decide,rfl⟩
 |4,_=>exact ⟨_,by decide,rfl⟩
theorem aev (m:Nat) (h:m<2): ∃t:ByteArray,t.size≤5∧(#[Value.string ⟨#[116,114,117,101]⟩, .string ⟨#[102,97,108,115,101]⟩]:Array Value)[m]? =some (.string t):=by
 match m,h with
 |0,_=>exact ⟨_,by decide,rfl⟩
 |1,_=>exact ⟨_,by decide,rfl⟩
theorem aew (m:Nat) (h:m<3): ∃t:ByteArray,t.size≤5∧(#[Value.string ⟨#[]⟩, .string ⟨#[97]⟩, .string ⟨#[66,99]⟩]:Array Value)[m]? =some (.string t):=by
 match m,h with
 |0,_=>exact ⟨_,by decide,rfl⟩
 |1,_=>exact ⟨_,by decide,rfl⟩
 |2,_=>exact ⟨_,by decide,rfl⟩
theorem aex (deep R p K C:Nat) (w:World) (hd:deep≤1) (hp:p+4<1073741824) (hK:4≤K) (hC:1≤C) (h:Rdm w R p):
  Calls Tryz.prog 81 #[.pointer (some ⟨R,0,none⟩), .int .i64 (deep:Int), .int .i64 0] w (TypD R p K C w):=by
 have hdd:(deep:Int)≤1:=by omega
 go_enter Tryz.func81,Tryz.ntmps81
 go_wp2_with fail;refine (ah R (p) 5 _ (by omega) (h.kept (aip w _ none) (by simp))).mono ?_;rintro e w9 ⟨i,rfl,hi0,hi1,-,hr9,hg9,hs9⟩;have hi2:=hi1 (by omega);obtain ⟨i1,rfl⟩:=aiq hi0;obtain ⟨t,ht,hlit⟩:=aeu i1 (by omega);have hcell9:=aU h.lt hg9 hlit;have HG9:=aim (ab (aip w _ (some R)) hg9);clear hi1 hg9 hs9 hlit;go_wp2;go_ret;exact TypD.one 1 0 t ht hC (hr9.mono (by omega)) HG9.out
theorem aey (deep R p K C:Nat) (w:World) (hd:deep≤1) (hp:p+4<1073741824) (hK:4≤K) (hC:1≤C) (h:Rdm w R p):
  Calls Tryz.prog 81 #[.pointer (some ⟨R,0,none⟩), .int .i64 (deep:Int), .int .i64 1] w (TypD R p K C w):=by
 have hdd:(deep:Int)≤1:=by omega
 go_enter Tryz.func81,Tryz.ntmps81
 go_wp2_with fail;refine (ah R (p) 2 _ (by omega) (h.kept (aip w _ none) (by simp))).mono ?_;rintro e w9 ⟨i,rfl,hi0,hi1,-,hr9,hg9,hs9⟩;have hi2:=hi1 (by omega);obtain ⟨i1,rfl⟩:=aiq hi0;obtain ⟨t,ht,hlit⟩:=aev i1 (by omega);have hcell9:=aU h.lt hg9 hlit;have HG9:=aim (ab (aip w _ (some R)) hg9);clear hi1 hg9 hs9 hlit;go_wp2;go_ret;exact TypD.one 3 0 t ht hC (hr9.mono (by omega)) HG9.out
theorem aez (deep R p K C:Nat) (w:World) (hd:deep≤1) (hp:p+4<1073741824) (hK:4≤K) (hC:1≤C) (h:Rdm w R p):
  Calls Tryz.prog 81 #[.pointer (some ⟨R,0,none⟩), .int .i64 (deep:Int), .int .i64 2] w (TypD R p K C w):=by
 have hdd:(deep:Int)≤1:=by omega
 go_enter Tryz.func81,Tryz.ntmps81
 go_wp2_with fail;refine (ah R (p) 3 _ (by omega) (h.kept (aip w _ none) (by simp))).mono ?_;rintro e w9 ⟨i,rfl,hi0,hi1,-,hr9,hg9,hs9⟩;have hi2:=hi1 (by omega);obtain ⟨i1,rfl⟩:=aiq hi0;obtain ⟨t,ht,hlit⟩:=aew i1 (by omega);have hcell9:=aU h.lt hg9 hlit;have HG9:=aim (ab (aip w _ (some R)) hg9);clear hi1 hg9 hs9 hlit;go_wp2;go_ret;exact TypD.one 2 0 t ht hC (hr9.mono (by omega)) HG9.out
theorem ahz {w0 w wp:World} {R:Nat} {o:Obj} (h:w0.grownBy w (some R)) (hg:(w.alloc o).drew.grownBy wp (some R)):w0.grownBy wp (some R):=
 ab (ae h o) ⟨hg.os,hg.tape,hg.output,hg.size,hg.block⟩
theorem ahA {w0 w wp:World} {R:Nat} (h:w0.grownBy w (some R)) (hg:w.drew.grownBy wp (some R)):w0.grownBy wp (some R):=
 ab h ⟨hg.os,hg.tape,hg.output,hg.size,hg.block⟩
theorem ahB {w w':World} {R:Nat} {C:Array Value} {t:TypeId} {m:Nat} {v:Value} (hR:R<w.heap.size) (hg:(w.alloc (.cells C t)).drew.grownBy w' (some R)) (hv:C[m]? =some v):w'.cell? ⟨w.heap.size,m,none⟩=some v:=
 aU hR ⟨hg.os,hg.tape,hg.output,hg.size,hg.block⟩ hv
theorem abV {w:World} {C:Array Value} {t:TypeId} {m:Nat} {v:Value} (hv:C[m]? =some v):(w.alloc (.cells C t)).cell? ⟨w.heap.size,m,none⟩=some v:=by
 simp only [World.cell?,heap_alloc_new]
 simpa using hv
theorem bQ {P:Program} {w:World} {ops:Array Oper} {o:Oper} {a:Act} {K:Act→World→Prop} {Q:Exit→Act→World→Prop} {E:Prop} (hgd:o.guard=none) (s x:Operand) (t:TypeId)
  (ho:o.op= .call {callee:= .builtin .append,args:= #[s,x],argTypes:= #[t,t]})
  (base:Nat) (e:TypeId) (i:TypeInfo) (z:Value) (size bytes:Nat) (ht:P.underlying t=some (.slice e)) (hi:P.info? e=some i) (hz:i.zero=some z)
  (hsize:i.size=size) (hby:i.bytes=bytes) (hzs:z.cells.size=size) (hsz:0<size)
  (v:Value) (n:Nat) (xs:List Value) (hs:a.eval s=v) (hown:w.ownsRow base e size v n xs)
  (base2:Nat) (u:Value) (m:Nat) (ys:List Value) (hx:a.eval x=u) (hsrc:w.ownsRow base2 e size u m ys) (h1: ∀u∈ys,u.oneCell'=true)
  (h63:n+m≤maxLen) (hbytes:(n+m)*bytes≤140737488355328) (hbase:base≤w.heap.size)
  (h: ∀v' w',w'.ownsRow base e size v' (n+m) (xs++ys)→w.grownBy w' v.ownBlock→K (a.put o.dst v') w'):
  if Region.wanted o (yielded ops a.tmps)=true then Oper.wp P o a w K Q else E:=by
 have hw:Region.wanted o (yielded ops a.tmps)=true:=by simp [Region.wanted,hgd]
 rw [if_pos hw]
 rcases hsrc.2 with ⟨rfl,rfl⟩|⟨g,cap,cur,rfl,-⟩
 ·have hy:ys=[]:=List.eq_nil_of_length_eq_zero (by have:=hsrc.1;omega)
  subst hy;have hrun:=run_append_owned_none (P:=P) (w:=w) base t o.type e i size ht hi v n xs hown;unfold Oper.wp
  simp [execOp,ho,resolve,invoke,builtin,hs,hx,hrun,Result.andThen]
  exact h v w (by simpa using hown) (World.grownBy.refl _ _)
 ·refine wp_append_own w s x t ho base e i z size bytes ht hi hz hsize hby hzs hsz v n xs hs hown ⟨g,0,none⟩ m cap ys hx hsrc.1 ?_ h1 h63 hbytes hbase (fun v' w' a1 a2 _=>h v' w' a1 a2)
  intro j y hj
  have hlt:j<ys.length:=by
   by_cases hk:j<ys.length
   ·exact hk
   ·rw [List.getElem?_eq_none (by omega)] at hj;cases hj
  rw [agr,hsrc.cellAt j (by have:=hsrc.1;omega)];exact hj
abbrev af8 (d:Nat):Prop:= ∀(k:Int),k=0∨k=1∨k=2→ ∀(R p:Nat) (w:World),p+kt d<1073741824→Rdm w R p→
  Calls Tryz.prog 81 #[.pointer (some ⟨R,0,none⟩), .int .i64 (d:Int), .int .i64 k] w (TypD R p (kt d) (ct d) w)
theorem aeA (m:Nat) (h:m<7): ∃t:ByteArray,t.size≤5∧(#[Value.string ⟨#[43]⟩, .string ⟨#[45]⟩, .string ⟨#[42]⟩, .string ⟨#[47]⟩, .string ⟨#[37]⟩, .string ⟨#[43]⟩, .string ⟨#[42]⟩]:Array Value)[m]? =some (.string t):=by
 match m,h with
 |0,_=>exact ⟨_,by decide,rfl⟩
 |1,_=>exact ⟨_,by decide,rfl⟩
 |2,_=>exact ⟨_,by decide,rfl⟩
 |3,_=>exact ⟨_,by decide,rfl⟩
 |4,_=>exact ⟨_,by decide,rfl⟩
 |5,_=>exact ⟨_,by decide,rfl⟩
 |6,_=>exact ⟨_,by decide,rfl⟩
theorem aeB (m:Nat) (h:m<6): ∃t:ByteArray,t.size≤5∧(#[Value.string ⟨#[60]⟩, .string ⟨#[60,61]⟩, .string ⟨#[62]⟩, .string ⟨#[62,61]⟩, .string ⟨#[61,61]⟩, .string ⟨#[33,61]⟩]:Array Value)[m]? =some (.string t):=by
 match m,h with
 |0,_=>exact ⟨_,by decide,rfl⟩
 |1,_=>exact ⟨_,by decide,rfl⟩
 |2,_=>exact ⟨_,by decide,rfl⟩
 |3,_=>exact ⟨_,by decide,rfl⟩
 |4,_=>exact ⟨_,by decide,rfl⟩
 |5,_=>exact ⟨_,by decide,rfl⟩
theorem aeC (m:Nat) (h:m<2): ∃t:ByteArray,t.size≤5∧(#[Value.string ⟨#[38,38]⟩, .string ⟨#[124,124]⟩]:Array Value)[m]? =some (.string t):=by
 match m,h with
 |0,_=>exact ⟨_,by decide,rfl⟩
 |1,_=>exact ⟨_,by decide,rfl⟩
end Go.Proofs.YthijkjnngfnfdaaGreatDoor
