/-
  Part of the proof of FnReadDocument.
-/
import Derived.Test.YtegdjjjpoahamaaGreatDoorQQRak
import Derived.Test.YtegdjjjpoahamaaGreatDoorQQRag
import Derived.Deep.Draws
import Derived.Deep.AppendLies
import Derived.Deep.RegionHeld3
import Derived.RegionTactic
import Derived.Deep.RegionLaw
import Derived.Deep.DrawnRows
import Derived.Lib.SmallJoins
import Derived.Deep.Slices
import Derived.Deep.Strs
import Derived.Deep.Fields
import Derived.ChangeSame
import Derived.Laws.OwnMore
import Derived.Laws.Rows
set_option linter.unusedVariables false
set_option maxHeartbeats 4000000
set_option maxRecDepth 100000
namespace Go.Proofs.YtegdjjjpoahamaaGreatDoor
open Go.RowKit
theorem acB (n:ByteArray) (l:List Cl) (t:ByteArray) (u:Value) (w:World) (hr:RowC w u l) (hn:n.size≤maxLen) (hz:ec l) (ht:t.size≤maxLen) (Al:Tab w):
  Calls Tryz.prog 75 #[.agg #[.int .i64 1, .string n,u, .string t]] w fun e w'=>e= .returned (.bool (emB n&&(l.isEmpty&&emB t)))∧Below w.heap.size w w':=by
 have AK:=agC ((Below.refl w.heap.size w).alloc (agD _) (.cells #[.int .i64 1, .string n,u, .string t] 32));obtain ⟨ao,cap,rfl,-⟩:=hr
 cases h1:emB n with
 |false=>
  obtain ⟨a1,a2,a3,a4⟩:=kG h1;clear hz
  go_enter Tryz.func75,Tryz.ntmps75
  go_wp2;go_ret;exact ⟨rfl,AK.out⟩
 |true=>
  obtain ⟨a1,a2,a3,a4⟩:=jh h1
  cases h2:l.isEmpty with
  |false=>
   have b1:=(tT h2).1;clear hz
   go_enter Tryz.func75,Tryz.ntmps75
   go_wp2;go_ret;exact ⟨rfl,AK.out⟩
  |true=>
   have b1:=(tS h2).1
   cases h3:emB t with
   |false=>
    obtain ⟨c1,c2,c3,c4⟩:=kG h3;clear hz
    go_enter Tryz.func75,Tryz.ntmps75
    go_wp2;go_ret;exact ⟨rfl,AK.out⟩
   |true=>
    obtain ⟨c1,c2,c3,c4⟩:=jh h3;clear hz
    go_enter Tryz.func75,Tryz.ntmps75
    go_wp2;go_ret;exact ⟨rfl,AK.out⟩
theorem acC (n:ByteArray) (l:List Cl) (t:ByteArray) (u:Value) (w:World) (hr:RowC w u l) (hn:n.size≤maxLen) (hz:ec l) (ht:t.size≤maxLen) (Al:Tab w):
  Calls Tryz.prog 75 #[.agg #[.int .i64 5, .string n,u, .string t]] w fun e w'=>e= .returned (.bool (emB n&&(l.isEmpty&&emB t)))∧Below w.heap.size w w':=by
 have AK:=agC ((Below.refl w.heap.size w).alloc (agD _) (.cells #[.int .i64 5, .string n,u, .string t] 32));obtain ⟨ao,cap,rfl,-⟩:=hr
 cases h1:emB n with
 |false=>
  obtain ⟨a1,a2,a3,a4⟩:=kG h1;clear hz
  go_enter Tryz.func75,Tryz.ntmps75
  go_wp2;go_ret;exact ⟨rfl,AK.out⟩
 |true=>
  obtain ⟨a1,a2,a3,a4⟩:=jh h1
  cases h2:l.isEmpty with
  |false=>
   have b1:=(tT h2).1;clear hz
   go_enter Tryz.func75,Tryz.ntmps75
   go_wp2;go_ret;exact ⟨rfl,AK.out⟩
  |true=>
   have b1:=(tS h2).1
   cases h3:emB t with
   |false=>
    obtain ⟨c1,c2,c3,c4⟩:=kG h3;clear hz
    go_enter Tryz.func75,Tryz.ntmps75
    go_wp2;go_ret;exact ⟨rfl,AK.out⟩
   |true=>
    obtain ⟨c1,c2,c3,c4⟩:=jh h3;clear hz
    go_enter Tryz.func75,Tryz.ntmps75
    go_wp2;go_ret;exact ⟨rfl,AK.out⟩
theorem acD (n:ByteArray) (l:List Cl) (t:ByteArray) (u:Value) (w:World) (hr:RowC w u l) (hn:n.size≤maxLen) (hz:ec l) (ht:t.size≤maxLen) (Al:Tab w):
  Calls Tryz.prog 75 #[.agg #[.int .i64 2, .string n,u, .string t]] w fun e w'=>e= .returned (.bool (emB n&&(l.isEmpty&&eG t)))∧Below w.heap.size w w':=by
 have AK:=agC ((Below.refl w.heap.size w).alloc (agD _) (.cells #[.int .i64 2, .string n,u, .string t] 32));obtain ⟨ao,cap,rfl,-⟩:=hr
 cases h1:emB n with
 |false=>
  obtain ⟨a1,a2,a3,a4⟩:=kG h1;clear hz
  go_enter Tryz.func75,Tryz.ntmps75
  go_wp2;go_ret;exact ⟨rfl,AK.out⟩
 |true=>
  obtain ⟨a1,a2,a3,a4⟩:=jh h1
  cases h2:l.isEmpty with
  |false=>
   have b1:=(tT h2).1;clear hz
   go_enter Tryz.func75,Tryz.ntmps75
   go_wp2;go_ret;exact ⟨rfl,AK.out⟩
  |true=>
   have b1:=(tS h2).1;clear hz
   cases h9:eG t
   all_goals
    go_enter Tryz.func75,Tryz.ntmps75
    go_wp2_with fail;refine (qr t _ ht).mono ?_;rintro e w1 ⟨rfl,rfl⟩;rw [h9];go_wp2;go_ret;exact ⟨rfl,AK.out⟩
theorem acE (n:ByteArray) (l:List Cl) (t:ByteArray) (u:Value) (w:World) (hr:RowC w u l) (hn:n.size≤maxLen) (hz:ec l) (ht:t.size≤maxLen) (Al:Tab w):
  Calls Tryz.prog 75 #[.agg #[.int .i64 3, .string n,u, .string t]] w fun e w'=>e= .returned (.bool (fw n&&(okE l&&eG t)))∧Below w.heap.size w w':=by
 have AK:=agC ((Below.refl w.heap.size w).alloc (agD _) (.cells #[.int .i64 3, .string n,u, .string t] 32));have Hy:=agC (hr.mono AK.out);have La:=agC (Al.keep AK.out);have HX:=agC (jv u l _ Hy.out hz La.out);obtain ⟨ao,cap,rfl,-⟩:=hr;have DF:=agC (fun w1 (h:Below (w.alloc (.cells #[.int .i64 3, .string n, .slice ao l.length cap, .string t] 32)).heap.size (w.alloc (.cells #[.int .i64 3, .string n, .slice ao l.length cap, .string t] 32)) w1)=>agp h);clear hz
 cases h1:fw n with
 |false=>
  go_enter Tryz.func75,Tryz.ntmps75
  go_wp2_with fail;refine (cN n _ hn).mono ?_;rintro e w1 ⟨rfl,rfl⟩;rw [h1];go_wp2;go_ret;exact ⟨rfl,AK.out⟩
 |true=>
  cases h2:okE l with
  |false=>
   go_enter Tryz.func75,Tryz.ntmps75
   go_wp2_with fail;refine (cN n _ hn).mono ?_;rintro e w1 ⟨rfl,rfl⟩;rw [h1];go_wp2_with fail;refine HX.out.mono ?_;rintro e w1 ⟨rfl,Aa⟩;have Af:=agC (AK.out.trans (Aa.mono AK.out.size));clear Aa;rw [h2];go_wp2;go_ret;exact ⟨rfl,Af.out⟩
  |true=>
   cases h9:eG t
   all_goals
    go_enter Tryz.func75,Tryz.ntmps75
    go_wp2_with fail;refine (cN n _ hn).mono ?_;rintro e w1 ⟨rfl,rfl⟩;rw [h1];go_wp2_with fail;refine HX.out.mono ?_;rintro e w1 ⟨rfl,Aa⟩;obtain ⟨d0,d1,d2,d3⟩:=DF.out w1 Aa;have Af:=agC (AK.out.trans (Aa.mono AK.out.size));clear Aa;rw [h2];go_wp2_with fail;refine (qr t _ ht).mono ?_;rintro e w2 ⟨rfl,rfl⟩;rw [h9];go_wp2;go_ret;exact ⟨rfl,Af.out⟩
theorem acF (n:ByteArray) (l:List Cl) (t:ByteArray) (u:Value) (w:World) (hr:RowC w u l) (hn:n.size≤maxLen) (hz:ec l) (ht:t.size≤maxLen) (Al:Tab w):
  Calls Tryz.prog 75 #[.agg #[.int .i64 4, .string n,u, .string t]] w fun e w'=>e= .returned (.bool (fw n&&(l.isEmpty&&emB t)))∧Below w.heap.size w w':=by
 have AK:=agC ((Below.refl w.heap.size w).alloc (agD _) (.cells #[.int .i64 4, .string n,u, .string t] 32));obtain ⟨ao,cap,rfl,-⟩:=hr;clear hz
 cases h1:fw n with
 |false=>
  go_enter Tryz.func75,Tryz.ntmps75
  go_wp2_with fail;refine (cN n _ hn).mono ?_;rintro e w1 ⟨rfl,rfl⟩;rw [h1];go_wp2;go_ret;exact ⟨rfl,AK.out⟩
 |true=>
  cases h2:l.isEmpty with
  |false=>
   have b1:=(tT h2).1
   go_enter Tryz.func75,Tryz.ntmps75
   go_wp2_with fail;refine (cN n _ hn).mono ?_;rintro e w1 ⟨rfl,rfl⟩;rw [h1];go_wp2;go_ret;exact ⟨rfl,AK.out⟩
  |true=>
   have b1:=(tS h2).1
   cases h3:emB t with
   |false=>
    obtain ⟨c1,c2,c3,c4⟩:=kG h3
    go_enter Tryz.func75,Tryz.ntmps75
    go_wp2_with fail;refine (cN n _ hn).mono ?_;rintro e w1 ⟨rfl,rfl⟩;rw [h1];go_wp2;go_ret;exact ⟨rfl,AK.out⟩
   |true=>
    obtain ⟨c1,c2,c3,c4⟩:=jh h3
    go_enter Tryz.func75,Tryz.ntmps75
    go_wp2_with fail;refine (cN n _ hn).mono ?_;rintro e w1 ⟨rfl,rfl⟩;rw [h1];go_wp2;go_ret;exact ⟨rfl,AK.out⟩
theorem acG (k:Int) (h1:k≠1) (h2:k≠2) (h3:k≠3) (h4:k≠4) (h5:k≠5) (n:ByteArray) (l:List Cl) (t:ByteArray) (u:Value) (w:World) (hr:RowC w u l) (hn:n.size≤maxLen) (hz:ec l) (ht:t.size≤maxLen) (Al:Tab w):
  Calls Tryz.prog 75 #[.agg #[.int .i64 k, .string n,u, .string t]] w fun e w'=>e= .returned (.bool (false))∧Below w.heap.size w w':=by
 have AK:=agC ((Below.refl w.heap.size w).alloc (agD _) (.cells #[.int .i64 k, .string n,u, .string t] 32));obtain ⟨ao,cap,rfl,-⟩:=hr;clear hz;have a1:(k==1)=false:=beq_eq_false_iff_ne.mpr h1;have a2:(k==2)=false:=beq_eq_false_iff_ne.mpr h2;have a3:(k==3)=false:=beq_eq_false_iff_ne.mpr h3;have a4:(k==4)=false:=beq_eq_false_iff_ne.mpr h4;have a5:(k==5)=false:=beq_eq_false_iff_ne.mpr h5
 go_enter Tryz.func75,Tryz.ntmps75
 go_wp2;go_ret;exact ⟨rfl,AK.out⟩
theorem jy (i:It) (u:Value) (w:World) (hr:RowC w u i.2.2.1) (hn:i.2.1.size≤maxLen) (hz:ec i.2.2.1) (ht:i.2.2.2.size≤maxLen) (Al:Tab w):
  Calls Tryz.prog 75 #[.agg #[.int .i64 i.1, .string i.2.1,u, .string i.2.2.2]] w fun e w'=>e= .returned (.bool (aP i))∧Below w.heap.size w w':=by
 obtain ⟨k,n,l,t⟩:=i;simp only at hr hn hz ht⊢;unfold aP;simp only
 by_cases h1:k=1
 ·subst h1;rw [if_pos (.inl rfl)];exact acB n l t u w hr hn hz ht Al
 by_cases h5:k=5
 ·subst h5;rw [if_pos (.inr rfl)];exact acC n l t u w hr hn hz ht Al
 rw [if_neg (by omega)]
 by_cases h2:k=2
 ·subst h2;rw [if_pos rfl];exact acD n l t u w hr hn hz ht Al
 rw [if_neg h2]
 by_cases h3:k=3
 ·subst h3;rw [if_pos rfl];exact acE n l t u w hr hn hz ht Al
 rw [if_neg h3]
 by_cases h4:k=4
 ·subst h4;rw [if_pos rfl];exact acF n l t u w hr hn hz ht Al
 rw [if_neg h4];exact acG k h1 h2 h3 h4 h5 n l t u w hr hn hz ht Al
inductive PtD:Nat→List It→Prop
 |nil (d:Nat):PtD d []
 |leaf {d:Nat} {i:It} {l:List It}:i.1≠4→i.1≠5→PtD d l→PtD d (i::l)
 |blk {d:Nat} {o c:It} {inn l:List It}:o.1=4→c.1=5→d<4→PtD (d+1) inn→PtD d l→PtD d (o::(inn++c::l))
theorem eL (d:Int) (i:It) (l:List It):aZ d (i::l)=if 0≤dO d i∧dO d i≤4 then aZ (dO d i) l else none:=rfl
theorem pB {d:Int} {i:It} (h4:i.1≠4) (h5:i.1≠5):dO d i=d:=by unfold dO fq;rw [if_neg h4,if_neg h5]
theorem hH {d:Int} {i:It} (h:i.1=4):dO d i=d+1:=by unfold dO fq;rw [if_pos h,if_neg (by omega)]
theorem kE {d:Int} {i:It} (h:i.1=5):dO d i=d-1:=by unfold dO fq;rw [if_neg (by omega),if_pos h]
theorem pC {d:Int} {i:It} (h5:i.1≠5):fq d i=d:=by unfold fq;rw [if_neg h5]
theorem uL {d:Int} {i:It} (h:i.1=5):fq d i=d-1:=by unfold fq;rw [if_pos h]
theorem PtD.nest {d:Nat} {l:List It} (h:PtD d l):d≤4→ ∀rest,aZ (d:Int) (l++rest)=aZ (d:Int) rest:=by
 induction h with
 |nil d=>intro _ rest;rfl
 | @leaf d i l h4 h5 _ ih=>
  intro hd rest;rw [List.cons_append,eL,pB h4 h5,if_pos (by omega)];exact ih hd rest
 | @blk d o c inn l h4 h5 F9 _ _ ih1 ih2=>
  intro hd rest;rw [List.cons_append,eL,hH h4,if_pos (by omega),List.append_assoc,show (d:Int)+1=((d+1:Nat):Int) by omega,ih1 (by omega),List.cons_append,eL,kE h5,if_pos (by omega),show ((d+1:Nat):Int)-1=(d:Int) by omega];exact ih2 hd rest
theorem PtD.self {d:Nat} {l:List It} (h:PtD d l) (hd:d≤4):aZ (d:Int) l=some (d:Int):=by
 have:=h.nest hd []
 rwa [List.append_nil] at this
theorem yP {d:Int} {i:It} {l:List It} (h4:i.1≠4) (h5:i.1≠5):dL d (i::l)=d::dL d l:=by
 show fq d i::dL (dO d i) l=_
 rw [pB h4 h5,pC h5]
theorem abc {d:Nat} {o c:It} {inn l:List It} (h4:o.1=4) (h5:c.1=5) (hd:d<4) (h:PtD (d+1) inn):
  dL (d:Int) (o::(inn++c::l))=(d:Int)::(dL ((d+1:Nat):Int) inn++(d:Int)::dL (d:Int) l):=by
 show fq _ o::dL (dO _ o) _=_
 rw [hH h4,pC (by omega),show (d:Int)+1=((d+1:Nat):Int) by omega,nF,jE _ _ _ (h.self (by omega))]
 show _::(_++fq _ c::dL (dO _ c) l)=_
 rw [kE h5,uL h5,show ((d+1:Nat):Int)-1=(d:Int) by omega]
def BadN (d:Nat) (l:List It):Prop:= ∀e,aZ (d:Int) l=some e→(d:Int)<e
theorem BadN.pre {d:Nat} {a l:List It} (h:PtD d a) (hd:d≤4) (hb:BadN d l):BadN d (a++l):=by
 intro e he;rw [h.nest hd] at he;exact hb e he
theorem BadN.deep {o:It} {l:List It} (h:o.1=4):BadN 4 (o::l):=by
 intro e he;rw [eL,hH h,if_neg (by omega)] at he
 cases he
theorem BadN.inn {d:Nat} {o:It} {l:List It} (h:o.1=4) (hd:d<4) (hb:BadN (d+1) l):BadN d (o::l):=by
 intro e he;rw [eL,hH h,if_pos (by omega),show (d:Int)+1=((d+1:Nat):Int) by omega] at he;have:=hb e he
 omega
theorem BadN.left {d:Nat} {o:It} {l:List It} (h:o.1=4) (hd:d<4) (hp:PtD (d+1) l):BadN d (o::l):=by
 intro e he;rw [eL,hH h,if_pos (by omega),show (d:Int)+1=((d+1:Nat):Int) by omega,hp.self (by omega)] at he
 injection he with he
 omega
def BlkD (w:World) (g:Nat) (cs:Array Value):Prop:=w.heap[g]? =some (.cells cs 129 (0,0))
section
variable {w w':World} {g:Nat} {cs:Array Value}
theorem BlkD.lt (h:BlkD w g cs):g<w.heap.size:=by
 rcases Nat.lt_or_ge g w.heap.size with Ab|DQ
 ·exact Ab
 ·unfold BlkD at h;rw [Array.getElem?_eq_none DQ] at h;cases h
theorem BlkD.cell (h:BlkD w g cs) (i:Nat):w.cell? ⟨g,i,none⟩=cs[i]? :=cell_of_row w g i cs _ (0,0) h
theorem BlkD.frozen (h:BlkD w g cs) (i:Nat):w.frozen? ⟨g,i,none⟩=false:=by
 unfold BlkD at h
 simp [World.frozen?,h]
theorem BlkD.new (w:World) (cs:Array Value):BlkD (w.alloc (.cells cs 129)) w.heap.size cs:=heap_alloc_new w _
theorem BlkD.keep (h:BlkD w g cs) (hb:Below w.heap.size w w'):BlkD w' g cs:=(hb.block g h.lt).trans h
theorem BlkD.alloc (h:BlkD w g cs) (o:Obj):BlkD (w.alloc o) g cs:=(Below.heap_alloc w o g h.lt).trans h
theorem BlkD.set_ (h:BlkD w g cs) (i:Nat) (u:Value):BlkD (w.setCell ⟨g,i,none⟩ u) g (cs.setIfInBounds i u):=by
 unfold BlkD at h⊢
 simp [World.setCell,Array.getElem?_modify,h]
theorem BlkD.grown {row:Option Nat} (h:BlkD w g cs) (hb:w.grownBy w' row) (hg:some g≠row):BlkD w' g cs:=(hb.block g h.lt hg).trans h
end
inductive TrD (w:World) (S:Nat→Prop):List Nat→Nat→List It→Nat→Prop
 |nil (f d:Nat):TrD w S [] f [] d
 |leaf {N f d:Nat} {ps:List Nat} {i:It} {seg:List It}:i.1≠4→i.1≠5→S N→BlkD w N #[.int .i64 (f:Int), .int .i64 ((f+1:Nat):Int), .slice none 0 0]→TrD w S ps (f+1) seg d→TrD w S (N::ps) f (i::seg) d
 |blk {N f g d:Nat} {ps qs:List Nat} {v:Value} {o c:It} {inn seg:List It}:o.1=4→c.1=5→d<4→S N→g=f+inn.length+2→BlkD w N #[.int .i64 (f:Int), .int .i64 (g:Int),v]→w.ownsRow 0 86 1 v qs.length (ef qs)→
   (∀r,v.ownBlock=some r→S r)→TrD w S qs (f+1) inn (d+1)→TrD w S ps g seg d→TrD w S (N::ps) f (o::(inn++c::seg)) d
theorem TrD.pt {w:World} {S:Nat→Prop} {ps:List Nat} {f d:Nat} {seg:List It} (h:TrD w S ps f seg d):PtD d seg:=by
 induction h with
 |nil f d=>exact .nil d
 |leaf h4 h5 _ _ _ ih=>exact .leaf h4 h5 ih
 |blk h4 h5 hd _ _ _ _ _ _ _ i1 i2=>exact .blk h4 h5 hd i1 i2
theorem TrD.keep {w w':World} {S S':Nat→Prop} {ps:List Nat} {f d:Nat} {seg:List It} (h:TrD w S ps f seg d) (hw: ∀b,S b→b<w.heap.size→w'.heap[b]? =w.heap[b]?) (hS: ∀b,S b→b<w.heap.size→S' b):TrD w' S' ps f seg d:=by
 induction h with
 |nil f d=>exact .nil f d
 |leaf h4 h5 hN hb _ ih=>exact .leaf h4 h5 (hS _ hN hb.lt) ((hw _ hN hb.lt).trans hb) ih
 | @blk N f g d ps qs v o c inn seg h4 h5 hd hN hg hb ho hr h1 h2 i1 i2=>
  refine .blk h4 h5 hd (hS _ hN hb.lt) hg ((hw _ hN hb.lt).trans hb) ?_ (fun r h=>hS r (hr r h) (ho.lt r h).2) i1 i2;refine ⟨ho.1, ?_⟩
  rcases ho.2 with hn|⟨g',cap,cur,rfl,Dy,DV,rest⟩
  ·exact .inl hn
  ·refine .inr ⟨g',cap,cur,rfl,Dy, ?_,rest⟩
   rw [hw g' (hr g' rfl) (ho.lt g' rfl).2];exact DV
theorem TrD.app {w:World} {S:Nat→Prop} {ps:List Nat} {f d:Nat} {a:List It} (h:TrD w S ps f a d): ∀{qs:List Nat} {b:List It},TrD w S qs (f+a.length) b d→TrD w S (ps++qs) f (a++b) d:=by
 induction h with
 |nil f d=>intro qs b k;simpa using k
 | @leaf N f d ps i seg h4 h5 hN hb _ ih=>
  intro qs b k;refine .leaf h4 h5 hN hb (ih ?_)
  rwa [List.length_cons,show f+(seg.length+1)=f+1+seg.length by omega] at k
 | @blk N f g d ps qs' v o c inn seg h4 h5 hd hN hg hb ho hr h1 h2 i1 i2=>
  intro qs b k
  have:=TrD.blk (c:=c) (ps:=ps++qs) (seg:=seg++b) h4 h5 hd hN hg hb ho hr h1 (i2 (by
   rw [List.length_cons,agE,List.length_cons] at k
   rwa [hg,show f+inn.length+2+seg.length=f+(inn.length+(seg.length+1)+1) by omega]))
  simpa using this
theorem TrD.inv {w:World} {S:Nat→Prop} {N f d:Nat} {seg:List It} (h:TrD w S [N] f seg d):
  (∃i,seg=[i]∧i.1≠4∧i.1≠5∧S N∧BlkD w N #[.int .i64 (f:Int), .int .i64 ((f+1:Nat):Int), .slice none 0 0])∨
  (∃o c inn v qs,seg=o::(inn++[c])∧o.1=4∧c.1=5∧d<4∧S N∧BlkD w N #[.int .i64 (f:Int), .int .i64 ((f+inn.length+2:Nat):Int),v]∧w.ownsRow 0 86 1 v qs.length (ef qs)∧(∀r,v.ownBlock=some r→S r)∧TrD w S qs (f+1) inn (d+1)):=by
 cases h with
 | @leaf _ _ _ _ i seg h4 h5 hN hb h=>
  cases h
  exact .inl ⟨i,rfl,h4,h5,hN,hb⟩
 | @blk _ _ g _ _ qs v o c inn seg h4 h5 hd hN hg hb ho hr h1 h2=>
  cases h2
  subst hg;exact .inr ⟨o,c,inn,v,qs,rfl,h4,h5,hd,hN,hb,ho,hr,h1⟩
theorem TrD.root {w:World} {S:Nat→Prop} {N f d:Nat} {seg:List It} (h:TrD w S [N] f seg d):S N∧0<seg.length∧ ∃v qs inn,BlkD w N #[.int .i64 (f:Int), .int .i64 ((f+seg.length:Nat):Int),v]∧w.ownsRow 0 86 1 v qs.length (ef qs)∧(∀r,v.ownBlock=some r→S r)∧TrD w S qs (f+1) inn (d+1)∧inn.length<seg.length:=by
 rcases h.inv with ⟨i,rfl,h4,h5,hN,hb⟩|⟨o,c,inn,v,qs,rfl,h4,h5,hd,hN,hb,ho,hr,h1⟩
 ·exact ⟨hN,by simp,_,[],[],hb,World.ownsRow_nil _ _ _ _,fun r h=>by simp [Value.ownBlock] at h, .nil _ _,by simp⟩
 ·refine ⟨hN,by simp,v,qs,inn, ?_,ho,hr,h1,by simp;omega⟩
  rw [show f+(o::(inn++[c])).length=f+inn.length+2 by simp;omega];exact hb
theorem TrD.at {w:World} {S:Nat→Prop} {ps:List Nat} {f d:Nat} {seg:List It} (h:TrD w S ps f seg d): ∀k,(hk:k<ps.length)→ ∃a m b,seg=a++(m++b)∧TrD w S (ps.take k) f a d∧TrD w S [ps[k]] (f+a.length) m d∧TrD w S (ps.drop (k+1)) (f+a.length+m.length) b d:=by
 induction h with
 |nil f d=>intro k hk;simp at hk
 | @leaf N f d ps i seg h4 h5 hN hb h ih=>
  intro k hk
  cases k with
  |zero=>exact ⟨[],[i],seg,rfl, .nil _ _, .leaf h4 h5 hN hb (.nil _ _),h⟩
  |succ k=>
   obtain ⟨a,m,b,e,t1,t2,t3⟩:=ih k (by simpa using hk);refine ⟨i::a,m,b,by rw [e];rfl, .leaf h4 h5 hN hb t1, ?_, ?_⟩
   ·rw [List.length_cons,show f+(a.length+1)=f+1+a.length by omega];exact t2
   ·rw [List.length_cons,show f+(a.length+1)=f+1+a.length by omega];exact t3
 | @blk N f g d ps qs v o c inn seg h4 h5 hd hN hg hb ho hr h1 h2 i1 i2=>
  intro k hk
  cases k with
  |zero=>
   refine ⟨[],o::(inn++[c]),seg,by simp, .nil _ _, .blk h4 h5 hd hN hg hb ho hr h1 (.nil _ _), ?_⟩;rw [show f+([]:List It).length+(o::(inn++[c])).length=g by simp;omega];exact h2
  |succ k=>
   obtain ⟨a,m,b,e,t1,t2,t3⟩:=i2 k (by simpa using hk)
   have hl:f+(o::(inn++c::a)).length=g+a.length:=by simp;omega
   refine ⟨o::(inn++c::a),m,b,by rw [e];simp, .blk h4 h5 hd hN hg hb ho hr h1 t1, ?_, ?_⟩
   ·rw [hl];exact t2
   ·rw [hl];exact t3
theorem abd {w:World} {v:Value} {qs:List Nat} {base:Nat} (ho:w.ownsRow base 86 1 v qs.length (ef qs)):
  ∃ao cap,v= .slice ao qs.length cap∧qs.length≤cap∧cap≤maxLen∧(qs=[]∨ ∃b,ao=some ⟨b,0,none⟩∧b<w.heap.size∧ ∀k (h:k<qs.length),w.cell? ⟨b,k,none⟩=some (.pointer (some ⟨qs[k],0,none⟩))):=by
 rcases ho.2 with ⟨rfl,h0⟩|⟨g,cap,cur,rfl,hg,hh,h1,h2,_⟩
 ·exact ⟨none,0,by rw [h0],by omega,by unfold maxLen;omega, .inl (List.length_eq_zero_iff.mp h0)⟩
 ·refine ⟨_,cap,rfl,h1,h2, .inr ⟨g,rfl,(ho.lt g rfl).2,fun k hk=> ?_⟩⟩
  rw [ho.cellAt k (by omega)];exact qY qs k hk
theorem ac3:(Tryz.prog.info? 86).map (fun i=>(i.zero,i.size,i.bytes))=some (some (.pointer none),1,8):=by kernel_rfl
def ac4 (w:World) (a:Addr):Nat:=match w.cell? a with
 |some (.int _ n)=>n.toNat
 |_=>0
theorem um {w:World} {a:Addr} {n:Nat} (h:w.cell? a=some (.int .i64 (n:Int))):ac4 w a=n:=by unfold ac4;rw [h];rfl
def rH (l:List It) (f d:Nat) (w:World) (e:Ending) (w':World):Prop:=
 Below w.heap.size w w'∧((∃(seg post:List It) (v:Value) (qs:List Nat),e= .returned (.pointer (some ⟨w.heap.size,0,none⟩))∧l.drop f=seg++post∧(∀i,post.head? =some i→i.1=5)∧BlkD w' w.heap.size #[.int .i64 (f:Int), .int .i64 ((f+seg.length:Nat):Int),v]∧w'.ownsRow (w.heap.size+1) 86 1 v qs.length (ef qs)∧
  TrD w' (fun b=>w.heap.size<b∧b<w'.heap.size∧v.ownBlock≠some b) qs f seg d)∨(e= .returned (.pointer none)∧BadN d (l.drop f)))
def xk (l:List It) (f d:Nat) (w:World) (e:Ending) (w':World):Prop:=
 Below w.heap.size w w'∧((∃(N:Nat) (seg post:List It),e= .returned (.pointer (some ⟨N,0,none⟩))∧l.drop f=seg++post∧TrD w' (fun b=>w.heap.size≤b∧b<w'.heap.size) [N] f seg d)∨(e= .returned (.pointer none)∧BadN d (l.drop f)))
def GInvD (l:List It) (w:World) (f d:Nat) (seg:List It) (wr:World):Prop:=
 ∃(v:Value) (ps:List Nat),BlkD wr w.heap.size #[.int .i64 (f:Int), .int .i64 ((f+seg.length:Nat):Int),v]∧wr.ownsRow (w.heap.size+1) 86 1 v ps.length (ef ps)∧TrD wr (fun b=>w.heap.size<b∧b<wr.heap.size∧v.ownBlock≠some b) ps f seg d∧Below w.heap.size w wr∧l.drop f=seg++l.drop (f+seg.length)∧f+seg.length≤l.length
theorem GInvD.start (l:List It) (w:World) (f d:Nat) (hf:f≤l.length):GInvD l w f d [] (w.alloc (.cells #[.int .i64 (f:Int), .int .i64 (f:Int), .slice none 0 0] 129)):=
 ⟨_,[],BlkD.new _ _,World.ownsRow_nil _ _ _ _, .nil _ _,(Below.refl _ _).alloc (agD _) _,by simp,hf⟩
theorem GInvD.done {l:List It} {w wr:World} {f d:Nat} {seg:List It} (h:GInvD l w f d seg wr) (hp: ∀i,(l.drop (f+seg.length)).head? =some i→i.1=5):rH l f d w (.returned (.pointer (some ⟨w.heap.size,0,none⟩))) wr:=by
 obtain ⟨v,ps,hb,ho,ht,hB,he,hl⟩:=h;exact ⟨hB, .inl ⟨seg,_,v,ps,rfl,he,hp,hb,ho,ht⟩⟩
theorem GInvD.fail {l:List It} {w wr w1:World} {f d:Nat} {seg:List It} (h:GInvD l w f d seg wr) (hd:d≤4) (hB:Below wr.heap.size wr w1) (Ar:BadN d (l.drop (f+seg.length))):rH l f d w (.returned (.pointer none)) w1:=by
 obtain ⟨v,ps,hb,ho,ht,D0,he,hl⟩:=h;exact ⟨D0.trans (hB.mono D0.size), .inr ⟨rfl,by rw [he];exact Ar.pre ht.pt hd⟩⟩
theorem aas {l a b p:List It} {f g:Nat} (h:l.drop f=a++l.drop g) (hg:g=f+a.length) (h2:l.drop g=b++p) (CJ:g≤l.length):l.drop f=(a++b)++l.drop (f+(a++b).length)∧f+(a++b).length≤l.length:=by
 have hl:l.drop (g+b.length)=p:=by
  have:l.drop (g+b.length)=(l.drop g).drop b.length:=by rw [List.drop_drop]
  rw [this,h2,List.drop_left]
 have h3:=congrArg List.length h2;rw [agE,List.length_drop] at h3;refine ⟨?_,by rw [agE];omega⟩;rw [agE,show f+(a.length+b.length)=g+b.length by omega,hl,h,h2,List.append_assoc]
theorem GInvD.next {l:List It} {w wr w1 w2:World} {f g d N1 gg cap':Nat} {vv:Value} {ps:List Nat} {seg Cg post1:List It} (hg:g=f+seg.length)
  (Bd:Below w.heap.size w wr) (hb:BlkD wr w.heap.size #[.int .i64 (f:Int), .int .i64 (g:Int),vv]) (ho:wr.ownsRow (w.heap.size+1) 86 1 vv ps.length (ef ps))
  (ht:TrD wr (fun b=>w.heap.size<b∧b<wr.heap.size∧vv.ownBlock≠some b) ps f seg d) (Aa:Below wr.heap.size wr w1) (ht1:TrD w1 (fun b=>wr.heap.size≤b∧b<w1.heap.size) [N1] g Cg d)
  (o:Obj) (Ac:(w1.alloc o).grownBy w2 vv.ownBlock) (Bc:vv.ownBlock=some gg∨gg=w1.heap.size+1)
  (Ah:w2.ownsRow (w.heap.size+1) 86 1 (.slice (some ⟨gg,0,none⟩) (ps.length+1) cap') (ps.length+1) (ef ps++[.pointer (some ⟨N1,0,none⟩)])) (B8:BlkD w2 w.heap.size #[.int .i64 (f:Int), .int .i64 (g:Int),vv])
  (he:l.drop f=seg++l.drop g) (IP:l.drop g=Cg++post1) (CJ:g≤l.length):
  GInvD l w f d (seg++Cg) ((w2.setCell ⟨w.heap.size,2,none⟩ (.slice (some ⟨gg,0,none⟩) (ps.length+1) cap')).setCell ⟨w.heap.size,1,none⟩ (.int .i64 ((g+Cg.length:Nat):Int))):=by
 have Cj:=Aa.size
 have D7:w1.heap.size+1≤w2.heap.size:=by have:=Ac.size;simpa using this
 have Jk:=hb.lt;have DV:w.heap.size+1≤gg∧gg<w2.heap.size:=Ah.lt gg rfl
 have Me: ∀r,vv.ownBlock=some r→r<wr.heap.size:=fun r hr=>(ho.lt r hr).2
 have Au:((w2.setCell ⟨w.heap.size,2,none⟩ (.slice (some ⟨gg,0,none⟩) (ps.length+1) cap')).setCell ⟨w.heap.size,1,none⟩ (.int .i64 ((g+Cg.length:Nat):Int))).heap.size=w2.heap.size:=by simp [World.setCell]
 have DP: ∀b,b≠w.heap.size→((w2.setCell ⟨w.heap.size,2,none⟩ (.slice (some ⟨gg,0,none⟩) (ps.length+1) cap')).setCell ⟨w.heap.size,1,none⟩ (.int .i64 ((g+Cg.length:Nat):Int))).heap[b]? =w2.heap[b]? :=fun b C6=>by
  rw [Below.heap_setCell _ _ _ _ C6,Below.heap_setCell _ _ _ _ C6]
 have Ai:(ps++[N1]).length=ps.length+1:=by simp
 refine ⟨.slice (some ⟨gg,0,none⟩) (ps.length+1) cap',ps++[N1], ?_, ?_, ?_, ?_,aas he hg IP CJ⟩
 ·have:=(B8.set_ 2 (.slice (some ⟨gg,0,none⟩) (ps.length+1) cap')).set_ 1 (.int .i64 ((g+Cg.length:Nat):Int))
  rw [agE,show f+(seg.length+Cg.length)=g+Cg.length by omega];exact this
 ·rw [qc,Ai]
  refine Ah.kept (row:=some w.heap.size) ⟨rfl,rfl,rfl,by rw [Au];exact agD _,fun b _ hn=>DP b (fun e=>hn (by rw [e]))⟩ (.inr ?_);intro he
  have he:gg=w.heap.size:=by simpa [Value.ownBlock] using he
  omega
 ·refine TrD.app (ht.keep ?_ ?_) (show TrD _ _ [N1] (f+seg.length) Cg d from hg▸ht1.keep ?_ ?_)
  ·rintro b ⟨h1,h2,h3⟩-
   rw [DP b (by omega),Ac.block b (by simp;omega) (fun e=>h3 e.symm),Below.heap_alloc _ _ _ (by omega),Aa.block b h2]
  ·rintro b ⟨h1,h2,h3⟩-
   refine ⟨h1,by rw [Au];omega,fun he=> ?_⟩
   have he:gg=b:=by simpa [Value.ownBlock] using he
   subst he
   rcases Bc with h|h
   ·exact h3 h
   ·omega
  ·rintro b ⟨h1,h2⟩-
   rw [DP b (by omega),Ac.block b (by simp;omega) (fun e=>by have:=Me b e.symm;omega),Below.heap_alloc _ _ _ (by omega)]
  ·rintro b ⟨h1,h2⟩-
   refine ⟨by omega,by rw [Au];omega,fun he=> ?_⟩
   have he:gg=b:=by simpa [Value.ownBlock] using he
   subst he
   rcases Bc with h|h
   ·have:=Me _ h;omega
   ·omega
 ·exact ((((Bd.trans (Aa.mono Bd.size)).alloc (by have:=Bd.size;omega) _).grown Ac (by simp;have:=Bd.size;omega) (fun r hr=>by have:=(ho.lt r hr).1;omega)).setCell (agD _) _).setCell (agD _) _
def rI (v:Value) (l:List It) (f d:Nat):Prop:= ∀w:World,RowIt w v l→Calls Tryz.prog 122 #[v, .int .i64 (f:Int), .int .i64 (d:Int)] w (rH l f d w)
theorem rJ (v:Value) (l:List It) (Ci:l.length≤30) (f d:Nat) (hf:f<l.length) (hd:d≤4) (h5:l[f].1≠5) (hP:d<4→rI v l (f+1) (d+1)) (w:World) (hr:RowIt w v l):
  Calls Tryz.prog 164 #[v, .int .i64 (f:Int), .int .i64 (d:Int)] w (xk l f d w):=by
 have HR:=agC hr;obtain ⟨ao,cap,rfl,h1,h2,h3⟩:=hr;unfold maxLen at h2;obtain ⟨b,o,rfl,Av,hc⟩:=h3.resolve_left (by rintro rfl;simp at hf);obtain ⟨u,c0,-⟩:=hc f hf;have DN:=agC (show l.drop f=l[f]::l.drop (f+1) from List.drop_eq_getElem_cons hf);have H5:=agC h5;generalize l[f]=it at c0 DN H5;have HP:=agC hP;clear hP h5 hc
 by_cases h4:it.1=4
 ·have e4:(it.1 !=4)=false:=by rw [h4];rfl
  by_cases F9:d<4
  ·have ed:((d:Int)==4)=false:=beq_eq_false_iff_ne.mpr (by omega)
   have HC:=agC (HP.out F9 w HR.out);rw [show ((f+1:Nat):Int)=(f:Int)+1 by omega,show ((d+1:Nat):Int)=(d:Int)+1 by omega] at HC;have H4:=agC h4;clear h4
   go_enter Tryz.func164,Tryz.ntmps164
   go_wp2_with fail;refine HC.out.mono ?_;rintro e w1 ⟨Aa,⟨seg,post,vv,qs,rfl,he,hp,AJ,ho,ht⟩|⟨rfl,Eb⟩⟩
   ·have Af:=agC Aa;have DR:=agC AJ;have HO:=agC ho;have HT:=agC ht;have HE:=agC he
    have Ai:f+1+seg.length+post.length=l.length:=by
     have:=congrArg List.length he;rw [agE,List.length_drop] at this
     omega
    have d1:w1.cell? ⟨w.heap.size,1,none⟩=some (.int .i64 ((f+1+seg.length:Nat):Int)):=AJ.cell 1;have d0:w1.cell? ⟨w.heap.size,0,none⟩=some (.int .i64 ((f+1:Nat):Int)):=AJ.cell 0;have f0:w1.frozen? ⟨w.heap.size,0,none⟩=false:=AJ.frozen 0;have f1:w1.frozen? ⟨w.heap.size,1,none⟩=false:=AJ.frozen 1
    cases post with
    |nil=>
     have hz:f+1+seg.length=l.length:=by simpa using Ai
     have Hc:=agC (show BadN d (it::l.drop (f+1)) by
      have e2:l.drop (f+1)=seg:=by rw [HE.out,List.append_nil]
      rw [e2];exact BadN.left H4.out F9 HT.out.pt)
     rw [hz] at d1;clear Aa AJ ho ht he hp Ai;go_wp2;go_ret;exact ⟨Af.out, .inr ⟨rfl,by rw [DN.out];exact Hc.out⟩⟩
    |cons c post=>
     have UK:=agC (hp c rfl)
     have hz:((f+1+seg.length:Nat):Int)≠(l.length:Int):=by simp at Ai;omega
     have Ax:(((f+1+seg.length:Nat):Int)==(l.length:Int))=false:=beq_eq_false_iff_ne.mpr hz
     have Cb:=agC (show∀w2,w2=(w1.setCell ⟨w.heap.size,0,none⟩ (.int .i64 (f:Int))).setCell ⟨w.heap.size,1,none⟩ (.int .i64 ((f+1+seg.length:Nat)+1:Int))→xk l f d w (.returned (.pointer (some ⟨w.heap.size,0,none⟩))) w2 by
      rintro w2 rfl;have Cj:=Af.out.size
      have Au:((w1.setCell ⟨w.heap.size,0,none⟩ (.int .i64 (f:Int))).setCell ⟨w.heap.size,1,none⟩ (.int .i64 ((f+1+seg.length:Nat)+1:Int))).heap.size=w1.heap.size:=by simp [World.setCell]
      have DP: ∀b,b≠w.heap.size→((w1.setCell ⟨w.heap.size,0,none⟩ (.int .i64 (f:Int))).setCell ⟨w.heap.size,1,none⟩ (.int .i64 ((f+1+seg.length:Nat)+1:Int))).heap[b]? =w1.heap[b]? :=fun b C6=>by
       rw [Below.heap_setCell _ _ _ _ C6,Below.heap_setCell _ _ _ _ C6]
      refine ⟨(Af.out.setCell (agD _) _).setCell (agD _) _, .inl ⟨w.heap.size,it::(seg++[c]),post,rfl,by rw [DN.out,HE.out];simp, ?_⟩⟩;refine TrD.blk (qs:=qs) (v:=vv) (g:=f+seg.length+2) H4.out UK.out F9 ⟨agD _,by rw [Au];exact DR.out.lt⟩ rfl ?_ ?_ ?_ (HT.out.keep ?_ ?_) (.nil _ _)
      ·have:=(DR.out.set_ 0 (.int .i64 (f:Int))).set_ 1 (.int .i64 ((f+1+seg.length:Nat)+1:Int))
       rw [show ((f+seg.length+2:Nat):Int)=((f+1+seg.length:Nat)+1:Int) by omega];exact this
      ·exact (bX (dI HO.out (fun g hg=>DP g (by have:=(HO.out.lt g hg).1;omega))) (fun g hg=>agH _))
      ·intro r hr
       have:=HO.out.lt r hr;exact ⟨by omega,by rw [Au];omega⟩
      ·rintro b ⟨k1,k2,k3⟩-;exact DP b (by omega)
      ·rintro b ⟨k1,k2,k3⟩-;exact ⟨by omega,by rw [Au];exact k2⟩)
     have UL:f+1+seg.length<40:=by simp at Ai;omega
     clear Aa AJ ho ht he hp Ai;generalize f+1+seg.length=T at d1 hz Ax Cb UL;go_wp2;go_ret;exact Cb.out _ rfl
   ·have Af:=agC Aa
    have Hc:=agC (BadN.inn (o:=it) H4.out F9 Eb);clear Aa Eb;go_wp2;go_ret;exact ⟨Af.out, .inr ⟨rfl,by rw [DN.out];exact Hc.out⟩⟩
  ·have Hc:=agC (show BadN d (it::l.drop (f+1)) by
    obtain rfl:d=4:=by omega
    exact BadN.deep h4)
   have ed:((d:Int)==4)=true:=beq_iff_eq.mpr (by omega);clear h4
   go_enter Tryz.func164,Tryz.ntmps164
   go_wp2;go_ret;exact ⟨Below.refl _ _, .inr ⟨rfl,by rw [DN.out];exact Hc.out⟩⟩
 ·have e4:(it.1 !=4)=true:=bne_iff_ne.mpr h4
  have H4:=agC h4;clear h4
  have Cb:=agC (show∀w2,w2=w.alloc (.cells #[.int .i64 (f:Int), .int .i64 ((f:Int)+1), .slice none 0 0] 129)→xk l f d w (.returned (.pointer (some ⟨w.heap.size,0,none⟩))) w2 by
   rintro w2 rfl;refine ⟨(Below.refl _ _).alloc (agD _) _, .inl ⟨w.heap.size,[it],_,rfl,DN.out, .leaf H4.out H5.out ⟨agD _,by simp⟩ ?_ (.nil _ _)⟩⟩;rw [show ((f+1:Nat):Int)=(f:Int)+1 by omega]
   exact BlkD.new _ _)
  go_enter Tryz.func164,Tryz.ntmps164
  go_wp2;go_ret;exact Cb.out _ rfl
theorem lV (v:Value) (l:List It) (Ci:l.length≤30) (f d:Nat) (hf:f≤l.length) (hd:d≤4) (hP: ∀g,f≤g→g<l.length→d<4→rI v l (g+1) (d+1)) (w:World) (hr:RowIt w v l):
  Calls Tryz.prog 122 #[v, .int .i64 (f:Int), .int .i64 (d:Int)] w (rH l f d w):=by
 obtain ⟨i0,hi,Az,Ax,AC⟩:=info_parts ac3;have HR:=agC hr;obtain ⟨ao,cap,rfl,h1,h2,h3⟩:=hr;unfold maxLen at h2;have H3:=agC h3;have HP:=agC hP;clear h3 hP;have EM:=agC (GInvD.start l w f d hf)
 go_enter Tryz.func122,Tryz.ntmps122
 go_wp2
 go_loopw [8] (fun _ wr=> ∃seg:List It,GInvD l w f d seg wr) (fun _ wr=>l.length-ac4 wr ⟨w.heap.size,1,none⟩)
 case atStart=>exact ⟨[],EM.out⟩
 case round=>
  obtain ⟨seg,hG⟩:=hrel;have HG:=agC hG;obtain ⟨vv,ps,hb,Ad,ht,hB,he,CJ⟩:=hG;have V1:=agC (Eq.refl (f+seg.length));generalize Cq:f+seg.length=g at hb he CJ;have DO:=agC Cq;have e0:wr.cell? ⟨w.heap.size,1,none⟩=some (.int .i64 (g:Int)):=hb.cell 1;have HB:=agC hb;have HO:=agC Ad;have HT:=agC ht;have FN:=agC hB;have HE:=agC he
  have UM:f≤g:=by omega
  clear hb Ad ht hB he Cq
  by_cases IV:g<l.length
  ·obtain ⟨b,o,rfl,Av,cc⟩:=H3.out.resolve_left (by rintro rfl;simp at IV)
   obtain ⟨u,c0,-⟩:=cc g IV;have k0:wr.cell? ⟨b,o+g*4,none⟩=some (.int .i64 l[g].1):=(FN.out.cell (p:=⟨b,_,none⟩) Av).trans c0;clear cc c0
   by_cases h5:l[g].1=5
   ·have e5:(l[g].1 !=5)=false:=by rw [h5];rfl
    have HD:=agC (HG.out.done (by
     rw [DO.out,List.drop_eq_getElem_cons IV];intro i hi;have hi:l[g]=i:=Option.some.inj hi
     rw [←hi];exact h5))
    clear h5;generalize l[g].1=kk at k0 e5;go_wp2;go_ret;exact HD.out
   ·have e5:(l[g].1 !=5)=true:=bne_iff_ne.mpr h5
    have HC:=agC (rJ _ l Ci g d IV hd h5 (HP.out g UM IV) wr (HR.out.mono FN.out));clear h5;generalize l[g].1=kk at k0 e5;go_wp2_with fail;refine HC.out.mono ?_;rintro e w1 ⟨Aa,⟨N1,Cg,post1,rfl,IP,ht1⟩|⟨rfl,Ar⟩⟩
    ·obtain ⟨KA,KS,v1,Ra,UP,Dg,-⟩:=ht1.root
     have hT:g+Cg.length≤l.length:=by
      have:=congrArg List.length IP;rw [agE,List.length_drop] at this
      omega
     have cN1:w1.cell? ⟨N1,1,none⟩=some (.int .i64 ((g+Cg.length:Nat):Int)):=Dg.cell 1
     have Mg:w.heap.size<N1:=by have:=HB.out.lt;omega
     have GM:wr.grownBy w1 none:=⟨Aa.os,Aa.tape,Aa.output,Aa.size,fun i hi _=>Aa.block i hi⟩;have EC:=HO.out.kept GM (by cases hv:vv.ownBlock<;>simp);have K1:=HB.out.keep Aa;have hM:=K1.lt;have c1:w1.cell? ⟨w.heap.size,1,none⟩=some (.int .i64 (g:Int)):=K1.cell 1;have c2:w1.cell? ⟨w.heap.size,2,none⟩=some vv:=K1.cell 2;have f1:w1.frozen? ⟨w.heap.size,1,none⟩=false:=K1.frozen 1;have f2:w1.frozen? ⟨w.heap.size,2,none⟩=false:=K1.frozen 2
     have At:vv.ownBlock≠some w.heap.size:=fun he=>by have:=(EC.lt _ he).1;omega
     have NE:=agC At;have C7:=agC K1;have FB:=agC Dg;have GN:=agC ht1;have Af:=agC Aa;have UN:=agC IP;have Er:=agC KA;clear GM K1 At Aa ht1 Dg KA e0 IP
     obtain ⟨av,cv,hv,UQ⟩: ∃a c,vv= .slice a ps.length c∧c≤maxLen:=by
      rcases EC.2 with ⟨rfl,h0⟩|⟨g',cap',cur,rfl,_,_,_,hq,_⟩
      ·exact ⟨none,0,by rw [h0],by unfold maxLen;omega⟩
      ·exact ⟨_,_,rfl,hq⟩
     subst hv;unfold maxLen at UQ
     have AN:ps.length≤1000:=by
      have: ∀{ps:List Nat} {f d:Nat} {seg:List It} {w:World} {S:Nat→Prop},TrD w S ps f seg d→ps.length≤seg.length:=by
       intro ps f d seg w S h
       induction h with
       |nil=>simp
       |leaf _ _ _ _ _ ih=>simp;omega
       |blk _ _ _ _ _ _ _ _ _ _ _ ih=>simp;omega
      have:=this HT.out;have:=DO.out
      omega
     have E2: ∀r,(Value.slice av ps.length cv).ownBlock=some r→r<N1:=fun r hr=>by have h1:=Er.out;have h2:=(HO.out.lt r hr).2;omega
     have Mh:(Value.slice av ps.length cv).ownBlock≠some N1:=fun he=>by have:=E2 _ he;omega
     have BO: ¬N1=w.heap.size:=by omega
     have DE: ¬w.heap.size=N1:=by omega
     have NR:=agC Mh;have FAR:=agC E2;clear E2 Mh;have Hs:=agC (Eq.refl (g+Cg.length));generalize hTd:g+Cg.length=T at cN1 hT;have NK:=agC hTd;clear hTd;have D1:=agC EC
     go_wp2_with (at_builtin;refine wpList_append_lies _ rfl _ _ 127 rfl (w.heap.size+1) 86 i0 (.pointer none) 1 8 Tryz.underlying127 hi Az Ax AC rfl (by decide) (.slice av ps.length cv) ps.length _ rfl (EC.alloc _) ⟨w1.heap.size,0,none⟩ 1 1 [.pointer (some ⟨N1,0,none⟩)] rfl rfl (World.news_of_block (cs:= #[.pointer (some ⟨N1,0,none⟩)]) (t:=86) (fr:=(0,0)) (heap_alloc_new w1 _)) (by simp [Value.oneCell']) (by omega) (by unfold maxLen;omega) (by omega) (by simp;omega) (w1.heap.size+1) (by simp) ?_;intro gg cap' w2 Ah Ac Bc ES;have hfz:w2.frozen? ⟨w.heap.size,2,none⟩=false:=((Ac.frozen_far _ (by simp;omega) (fun hq=>NE.out hq.symm)).trans (((agF w1 _ none).frozen_far ⟨w.heap.size,2,none⟩ hM (by simp)).trans f2));have K2:=BlkD.grown (C7.out.alloc _) Ac (fun hq=>NE.out hq.symm);have M2:=BlkD.grown (FB.out.alloc _) Ac (fun hq=>NR.out hq.symm);have DS:w2.cell? ⟨w.heap.size,2,none⟩=some (.slice av ps.length cv):=K2.cell 2;have Es:w2.cell? ⟨w.heap.size,1,none⟩=some (.int .i64 (g:Int)):=K2.cell 1;have LQ:w2.frozen? ⟨w.heap.size,1,none⟩=false:=K2.frozen 1;have M8:w2.cell? ⟨N1,1,none⟩=some (.int .i64 (T:Int)):=by {rw [←NK.out];exact M2.cell 1};have KK2:=agC K2;have Cc:=agC Ah;have Bi:=agC Ac;have He:=agC Bc;clear K2 M2 Ah Ac Bc)
     have BV:=agC (show GInvD l w f d (seg++Cg) ((w2.setCell ⟨w.heap.size,2,none⟩ (.slice (some ⟨gg,0,none⟩) (ps.length+1) cap')).setCell ⟨w.heap.size,1,none⟩ (.int .i64 (T:Int))) by
      have:=GInvD.next DO.out.symm FN.out HB.out HO.out HT.out Af.out GN.out _ Bi.out He.out Cc.out KK2.out HE.out UN.out CJ
      rwa [NK.out] at this)
     have UO:=agC (show f+(seg++Cg).length=T by rw [agE];have:=NK.out;have:=DO.out;omega);go_roundw
     case rel=>exact ⟨_,BV.out⟩
     case measure=>
      obtain ⟨v9,V2,Dh,-⟩:=BV.out;rw [UO.out] at Dh;rw [um (n:=T) (Dh.cell 1),um (n:=g) (HB.out.cell 1)];have:=NK.out
      omega
    ·have HF:=agC (HG.out.fail hd Aa (by rw [DO.out];exact Ar))
     clear Ar Aa;go_wp2;go_ret;exact HF.out
  ·obtain rfl:g=l.length:=by omega
   have HD:=agC (HG.out.done (by
    rw [DO.out,List.drop_length]
    intro i hi;cases hi))
   go_wp2;go_ret;exact HD.out
theorem pp (v:Value) (l:List It) (Ci:l.length≤30) (j:Nat): ∀(f d:Nat),f≤l.length→d≤4→l.length-f≤j→rI v l f d:=by
 induction j with
 |zero=>
  intro f d hf hd hj w hr;exact lV v l Ci f d hf hd (fun g h1 h2=>by omega) w hr
 |succ j ih=>
  intro f d hf hd hj w hr;exact lV v l Ci f d hf hd (fun g h1 h2 F9=>ih (g+1) (d+1) (by omega) (by omega) (by omega)) w hr
def aea (l:List It):Prop:= ∀i∈l,i.2.1.size≤maxLen∧ec i.2.2.1∧i.2.2.2.size≤maxLen
def aeM (l:List It) (w:World) (e:Ending) (w':World):Prop:=
 Below w.heap.size w w'∧((∃(N:Nat) (v:Value) (qs:List Nat),e= .returned (.pointer (some ⟨N,0,none⟩))∧dT l=true∧w.heap.size≤N∧BlkD w' N #[.int .i64 0, .int .i64 (l.length:Int),v]∧w'.ownsRow (N+1) 86 1 v qs.length (ef qs)∧TrD w' (fun b=>N<b∧b<w'.heap.size) qs 0 l 0)∨(e= .returned (.pointer none)∧dT l=false))
theorem aeb {l:List It} (h: ¬l.length≤30):dT l=false:=by rw [Bool.eq_false_iff];intro k;exact h ((bP l).mp k).1
theorem aci {l:List It} (h: ¬l.all aP=true):dT l=false:=by rw [Bool.eq_false_iff];intro k;exact h ((bP l).mp k).2.1
theorem tE {l:List It} (h:aZ 0 l≠some 0):dT l=false:=by rw [Bool.eq_false_iff];intro k;exact h ((bP l).mp k).2.2
theorem zQ {l:List It} {k:Nat} (h:k<l.length):(l.take (k+1)).all aP=((l.take k).all aP&&aP l[k]):=by
 rw [List.take_succ_eq_append_getElem h,List.all_append];simp
theorem aec {l:List It} (h:BadN 0 (l.drop 0)):dT l=false:=by
 refine tE fun k=> ?_
 have:=h 0 k
 omega
theorem zR {l seg:List It} {c:It} {post:List It} (he:l.drop 0=seg++c::post) (hp:PtD 0 seg) (hc:c.1=5):dT l=false:=by
 refine tE fun k=> ?_
 have e:l=seg++c::post:=he;rw [e] at k;have h2:=hp.nest (by omega) (c::post);rw [show ((0:Nat):Int)=0 from rfl] at h2;rw [h2,eL,kE hc,if_neg (by omega)] at k
 cases k
theorem zS {l seg:List It} (he:l.drop 0=seg++[]) (hp:PtD 0 seg) (Ep:l.length≤30) (hi:l.all aP=true):dT l=true:=by
 have e:l=seg:=by simpa using he
 rw [bP,e];exact ⟨e▸Ep,e▸hi,hp.self (by omega)⟩
theorem iq (v:Value) (l:List It) (w:World) (hr:RowIt w v l) (hz:aea l) (Al:Tab w):
  Calls Tryz.prog 76 #[v] w (aeM l w):=by
 have HR:=agC hr;obtain ⟨ao,cap,rfl,h1,h2,h3⟩:=hr;unfold maxLen at h2;have H3:=agC h3;have HZ:=agC hz;have JX:=agC Al;clear h3 hz Al
 by_cases Ep:l.length≤30
 ·go_enter Tryz.func76,Tryz.ntmps76
  go_wp2
  go_loopw [4,11] (fun _ i wr=> ∃k:Nat,k≤l.length∧i= .int .i64 (k:Int)∧(l.take k).all aP=true∧Below w.heap.size w wr) (fun _ i _=>l.length-(intOf i).toNat)
  case atStart=>exact ⟨0,agH _,rfl,rfl,Below.refl _ _⟩
  case round=>
   obtain ⟨k,hk,rfl,Aj,hb⟩:=hrel;have Bj:=agC Aj;have HB:=agC hb;clear Aj hb
   by_cases Ab:k<l.length
   ·obtain ⟨b,o,rfl,Av,cc⟩:=H3.out.resolve_left (by rintro rfl;simp at Ab)
    obtain ⟨u,hu⟩:=cc k Ab;have TK:=hu.mono Av HB.out;obtain ⟨d0,d1,d2,d3,Ei⟩:=TK;obtain ⟨z1,z2,z3⟩:=HZ.out _ (List.getElem_mem Ab)
    obtain ⟨au,cu,TM,-⟩: ∃au cu,u= .slice au l[k].2.2.1.length cu∧True:=by obtain ⟨au,cu,h,-⟩:=Ei;exact ⟨au,cu,h,trivial⟩
    have BR:=agC (HB.out.alloc HB.out.size (.cells #[.int .i64 l[k].1, .string l[k].2.1,u, .string l[k].2.2.2] 32));have HI:=agC (jy l[k] u (wr.alloc (.cells #[.int .i64 l[k].1, .string l[k].2.1,u, .string l[k].2.2.2] 32)) (Ei.al _) z1 z2 z3 (JX.out.keep BR.out));have HT:=agC (zQ Ab);have TL:=agC (List.getElem_mem Ab);clear cc hu Ei z1 z2 z3;subst TM;generalize l[k]=it at*;obtain ⟨kk,nn,cc,tt⟩:=it;simp only at d0 d1 d2 d3 HI BR
    cases DL:aP (kk,nn,cc,tt) with
    |true=>
     have HN:=agC (show (l.take (k+1)).all aP=true by rw [HT.out,Bj.out,DL];rfl);go_wp2_with fail;refine HI.out.mono ?_;rintro e w1 ⟨rfl,Aa⟩;have Af:=agC (BR.out.trans (Aa.mono (by have:=HB.out.size;simp;omega)));clear Aa;rw [DL];go_wp2;go_roundw
     case rel=>exact ⟨k+1,by omega,by go_num,HN.out,Af.out⟩
     case measure=>simp [intOf];omega
    |false=>
     have HN:=agC (aci (l:=l) (fun h=>by
      rw [List.all_eq_true] at h;have:=h _ TL.out
      rw [DL] at this;cases this))
     go_wp2_with fail;refine HI.out.mono ?_;rintro e w1 ⟨rfl,Aa⟩;have Af:=agC (BR.out.trans (Aa.mono (by have:=HB.out.size;simp;omega)));clear Aa;rw [DL];go_wp2;go_ret;exact ⟨Af.out, .inr ⟨rfl,HN.out⟩⟩
   ·obtain rfl:k=l.length:=by omega
    have BS:=agC (show l.all aP=true by have:=Bj.out;rwa [List.take_of_length_le (agD _)] at this);have HG:=agC (pp _ l Ep l.length 0 0 (agH _) (by omega) (by omega) wr (HR.out.mono HB.out));rw [show ((0:Nat):Int)=0 from rfl] at HG;go_wp2_with fail;refine HG.out.mono ?_;rintro e w1 ⟨Aa,⟨seg,post,vv,qs,rfl,he,hp,AJ,ho,ht⟩|⟨rfl,Eb⟩⟩
    ·have Af:=agC (HB.out.trans (Aa.mono HB.out.size))
     have d1:w1.cell? ⟨wr.heap.size,1,none⟩=some (.int .i64 ((0+seg.length:Nat):Int)):=AJ.cell 1
     have Ai:seg.length+post.length=l.length:=by
      have:=congrArg List.length he;rw [agE,List.length_drop] at this
      omega
     rw [Nat.zero_add] at d1 AJ
     cases post with
     |nil=>
      have hz:seg.length=l.length:=by simpa using Ai
      have HD:=agC (zS he ht.pt Ep BS.out);have Au:=HB.out.size
      have e2:seg=l:=by have h9:=he;rw [List.append_nil,List.drop_zero] at h9;exact h9.symm
      subst e2
      have HF:=agC (show aeM seg w (.returned (.pointer (some ⟨wr.heap.size,0,none⟩))) w1 from
       ⟨Af.out, .inl ⟨wr.heap.size,vv,qs,rfl,HD.out,Au,AJ,ho,ht.keep (fun _ _ _=>rfl) (fun b hb _=>⟨hb.1,hb.2.1⟩)⟩⟩)
      clear Aa AJ ho ht he hp Ai;go_wp2;go_ret;exact HF.out
     |cons c post=>
      have hz:(seg.length:Int)<(l.length:Int):=by simp at Ai;omega
      have HD:=agC (zR he ht.pt (hp c rfl));clear Aa AJ ho ht he hp Ai;go_wp2;go_ret;exact ⟨Af.out, .inr ⟨rfl,HD.out⟩⟩
    ·have Af:=agC (HB.out.trans (Aa.mono HB.out.size))
     have HD:=agC (aec Eb);clear Aa Eb;go_wp2;go_ret;exact ⟨Af.out, .inr ⟨rfl,HD.out⟩⟩
 ·have HD:=agC (aeb (l:=l) Ep)
  go_enter Tryz.func76,Tryz.ntmps76
  go_wp2;go_ret;exact ⟨Below.refl _ _, .inr ⟨rfl,HD.out⟩⟩
theorem gu (v:Value) (l:List It) (w:World) (hr:RowIt w v l) (hz:aea l) (Al:Tab w):
  Calls Tryz.prog 43 #[v] w fun e w'=>e= .returned (.bool (dT l))∧Below w.heap.size w w':=by
 have HC:=agC (iq v l w hr hz Al);obtain ⟨ao,cap,rfl,h1,h2,h3⟩:=hr;clear h3 hz
 go_enter Tryz.func43,Tryz.ntmps43
 go_wp2_with fail;refine HC.out.mono ?_;rintro e w1 ⟨Aa,⟨N,vv,qs,rfl,Aj,-⟩|⟨rfl,Ar⟩⟩
 ·have Bj:=agC Aj;have HB:=agC Aa
  clear Aj Aa;go_wp2;go_ret;exact ⟨eU Bj.out.symm,HB.out⟩
 ·have Bj:=agC Ar;have HB:=agC Aa
  clear Ar Aa;go_wp2;go_ret;exact ⟨eU Bj.out.symm,HB.out⟩
def dps (d:Nat) (l:List It):List Nat:=(dL (d:Int) l).map Int.toNat
theorem iA (d:Nat) (l:List It):(dps d l).length=l.length:=by unfold dps;rw [List.length_map,cj]
theorem nz {d:Nat} {i:It} (l:List It) (h4:i.1≠4) (h5:i.1≠5):dps d (i::l)=d::dps d l:=by
 unfold dps;rw [yP h4 h5,List.map_cons,Int.toNat_natCast]
theorem adk {d:Nat} {o c:It} {inn:List It} (l:List It) (h4:o.1=4) (h5:c.1=5) (hd:d<4) (h:PtD (d+1) inn):dps d (o::(inn++c::l))=d::(dps (d+1) inn++d::dps d l):=by
 unfold dps;rw [abc h4 h5 hd h]
 simp
theorem adl {d:Nat} {a:List It} (b:List It) (h:PtD d a) (hd:d≤4):dps d (a++b)=dps d a++dps d b:=by
 unfold dps;rw [nF,jE _ _ _ (h.self hd),List.map_append]
theorem PtD.deep {d:Nat} {a:List It} (h:PtD d a) (hd:4<d) (b:List It):dps d (a++b)=dps d a++dps d b:=by
 induction h with
 |nil d=>rfl
 |leaf h4 h5 h ih=>rw [List.cons_append,nz _ h4 h5,nz _ h4 h5,ih hd];rfl
 |blk h4 h5 F9 h1 h2 i1 i2=>omega
theorem aaN {d:Nat} {a:List It} (b:List It) (h:PtD d a):dps d (a++b)=dps d a++dps d b:=by
 by_cases hd:d≤4
 ·exact adl b h hd
 ·exact h.deep (by omega) b
theorem TrD.head {w:World} {S:Nat→Prop} {N f d:Nat} {ps:List Nat} {seg:List It} (h:TrD w S (N::ps) f seg d): ∃m b,seg=m++b∧TrD w S [N] f m d∧TrD w S ps (f+m.length) b d:=by
 obtain ⟨a,m,b,e,h1,h2,h3⟩:=h.at 0 (by simp)
 cases h1
 exact ⟨m,b,by simpa using e,by simpa using h2,by simpa using h3⟩
def aeU (d f:Nat) (m inn:List It):Prop:= ∀P Q:List Nat,P.length=f→m.length≤Q.length→
 (((P++Q).set f d).set (f+m.length-1) d).take (f+1)++(dps (d+1) inn++(((P++Q).set f d).set (f+m.length-1) d).drop (f+1+inn.length))=P++(dps d m++Q.drop m.length)
theorem yr {d f:Nat} {i:It} (h4:i.1≠4) (h5:i.1≠5):aeU d f [i] []:=by
 intro P Q hP hQ
 cases Q with
 |nil=>simp at hQ
 |cons q Q=>
  have e1:(P++q::Q).set f d=P++d::Q:=by rw [List.set_append_right _ _ (by omega),hP,Nat.sub_self];rfl
  rw [show f+[i].length-1=f by simp,e1,List.set_append_right _ _ (by omega),hP,Nat.sub_self,nz _ h4 h5]
  have e2:P++d::Q=(P++[d])++Q:=by simp
  rw [List.set_cons_zero,e2,List.take_left' (by simp;omega),List.drop_left' (by simp;omega)]
  simp [dps,dL]
theorem aaO {d f:Nat} {o c:It} {inn:List It} (h4:o.1=4) (h5:c.1=5) (hd:d<4) (h:PtD (d+1) inn):aeU d f (o::(inn++[c])) inn:=by
 intro P Q hP hQ
 have KP:inn.length+2≤Q.length:=by simpa using hQ
 obtain ⟨q0,Q1,rfl⟩: ∃q0 Q1,Q=q0::Q1:=by cases Q with
  |nil=>simp at KP
  |cons a b=>exact ⟨a,b,rfl⟩
 have UY:inn.length+1≤Q1.length:=by simp at KP;omega
 have hs:Q1=Q1.take inn.length++Q1[inn.length]::Q1.drop (inn.length+1):=by
  rw [←List.drop_eq_getElem_cons (by omega),List.take_append_drop]
 generalize Q1.take inn.length=M at hs
 have hM:M.length=inn.length:=by
  have:=congrArg List.length hs;rw [agE,List.length_cons,List.length_drop] at this
  omega
 generalize Q1[inn.length]=q1 at hs;generalize Q1.drop (inn.length+1)=Q2 at hs;subst hs
 have e0:f+(o::(inn++[c])).length-1=f+1+inn.length:=by simp;omega
 have e1:(P++q0::(M++q1::Q2)).set f d=(P++d::M)++q1::Q2:=by rw [List.set_append_right _ _ (by omega),hP,Nat.sub_self];simp
 have hl:(P++d::M).length=f+1+inn.length:=by simp;omega
 have e2:((P++d::M)++q1::Q2).set (f+1+inn.length) d=(P++d::M)++d::Q2:=by rw [List.set_append_right _ _ (by omega),hl,Nat.sub_self];rfl
 rw [e0,e1,e2,adk _ h4 h5 hd h]
 have e3:((P++d::M)++d::Q2).take (f+1)=P++[d]:=by
  rw [show (P++d::M)++d::Q2=(P++[d])++(M++d::Q2) by simp,List.take_left' (by simp;omega)]
 have e4:((P++d::M)++d::Q2).drop (f+1+inn.length)=d::Q2:=List.drop_left' hl
 have e5:(q0::(M++q1::Q2)).drop (o::(inn++[c])).length=Q2:=by
  rw [show q0::(M++q1::Q2)=(q0::(M++[q1]))++Q2 by simp];exact List.drop_left' (by simp;omega)
 rw [e3,e4,e5]
 simp [dps,dL]
theorem TrD.fill {w:World} {S:Nat→Prop} {N f d:Nat} {m:List It} (h:TrD w S [N] f m d):S N∧0<m.length∧ ∃v qs inn,BlkD w N #[.int .i64 (f:Int), .int .i64 ((f+m.length:Nat):Int),v]∧w.ownsRow 0 86 1 v qs.length (ef qs)∧(∀r,v.ownBlock=some r→S r)∧TrD w S qs (f+1) inn (d+1)∧inn.length<m.length∧aeU d f m inn:=by
 rcases h.inv with ⟨i,rfl,h4,h5,hN,hb⟩|⟨o,c,inn,v,qs,rfl,h4,h5,hd,hN,hb,ho,hr,h1⟩
 ·exact ⟨hN,by simp,_,[],[],hb,World.ownsRow_nil _ _ _ _,fun r h=>by simp [Value.ownBlock] at h, .nil _ _,by simp,yr h4 h5⟩
 ·refine ⟨hN,by simp,v,qs,inn, ?_,ho,hr,h1,by simp;omega,aaO h4 h5 hd h1.pt⟩
  rw [show f+(o::(inn++[c])).length=f+inn.length+2 by simp;omega];exact hb
theorem rY (L:List Nat) (k x:Nat):(fu L).set k (.int .i64 (x:Int))=fu (L.set k x):=by unfold fu;rw [List.map_set]
theorem PtD.app {d:Nat} {a b:List It} (h:PtD d a):PtD d b→PtD d (a++b):=by
 induction h with
 |nil d=>intro k;exact k
 |leaf h4 h5 _ ih=>intro k;exact .leaf h4 h5 (ih k)
 |blk h4 h5 hd h1 _ _ i2=>
  intro k;have:=PtD.blk h4 h5 hd h1 (i2 k)
  simpa using this
theorem TrD.count {w:World} {S:Nat→Prop} {ps:List Nat} {f d:Nat} {seg:List It} (h:TrD w S ps f seg d):ps.length≤seg.length:=by
 induction h with
 |nil=>simp
 |leaf _ _ _ _ _ ih=>simp;omega
 |blk _ _ _ _ _ _ _ _ _ _ _ ih=>simp;omega
def qD (D base n N f d:Nat) (inn:List It) (L:List Nat) (w:World):Prop:=
 Calls Tryz.prog 90 #[.pointer (some ⟨N,0,none⟩), .slice (some ⟨D,0,none⟩) n n, .int .i64 (d:Int)] w fun e w'=>e= .returned (.tuple #[])∧w.grownBy w' (some D)∧w'.ownsRow base 3 1 (.slice (some ⟨D,0,none⟩) n n) n (fu (L.take f++(dps d inn++L.drop (f+inn.length))))
def xv (S:Nat→Prop) (D base n j:Nat):Prop:= ∀(N f d:Nat) (x0 x1 v:Value) (qs:List Nat) (inn:List It) (L:List Nat) (w:World),inn.length<j→d+inn.length≤100→f+inn.length≤n→S N→BlkD w N #[x0,x1,v]→w.ownsRow 0 86 1 v qs.length (ef qs)→(∀r,v.ownBlock=some r→S r)→TrD w S qs f inn d→L.length=n→
  w.ownsRow base 3 1 (.slice (some ⟨D,0,none⟩) n n) n (fu L)→qD D base n N f d inn L w
theorem aaP {S:Nat→Prop} {D base n j f d k:Nat} (hn:n≤1000) (hD: ¬S D) {w wr:World} {qs:List Nat} {inn a b:List It} {L:List Nat} (ih:xv S D base n j) (hj:inn.length<j+1) (hd:d+inn.length≤100) (hf:f+inn.length≤n) (hL:L.length=n)
  (Ab:k<qs.length) (Kg:inn=a++b) (KV:PtD d a) (IE:TrD w S (qs.drop k) (f+a.length) b d) (hg:w.grownBy wr (some D)) (FV:wr.ownsRow base 3 1 (.slice (some ⟨D,0,none⟩) n n) n (fu (L.take f++(dps d a++L.drop (f+a.length))))):
  ∃(P A T U:Nat) (m b2:List It) (X:List Nat),qs[k]=P∧P≠D∧wr.cell? ⟨P,0,none⟩=some (.int .i64 (A:Int))∧wr.cell? ⟨P,1,none⟩=some (.int .i64 (U:Int))∧(U:Int)-1=(T:Int)∧U≤1000∧A<n∧T<n∧
   wr.ownsRow base 3 1 (.slice (some ⟨D,0,none⟩) n n) n (fu X)∧(∀ww,wr.grownBy ww (some D)→ww.ownsRow base 3 1 (.slice (some ⟨D,0,none⟩) n n) n (fu ((X.set A d).set T d))→
    Calls Tryz.prog 90 #[.pointer (some ⟨P,0,none⟩), .slice (some ⟨D,0,none⟩) n n, .int .i64 ((d:Int)+1)] ww fun e w'=>e= .returned (.tuple #[])∧ww.grownBy w' (some D)∧w'.ownsRow base 3 1 (.slice (some ⟨D,0,none⟩) n n) n (fu (L.take f++(dps d (a++m)++L.drop (f+(a++m).length)))))∧
   inn=(a++m)++b2∧PtD d (a++m)∧TrD w S (qs.drop (k+1)) (f+(a++m).length) b2 d:=by
 rw [List.drop_eq_getElem_cons Ab] at IE;obtain ⟨m,b2,Ae,Qj,H9⟩:=IE.head;obtain ⟨Qk,KS,v',qs',inn',AJ,Be,Ql,N4,U0,KU⟩:=Qj.fill
 have KQ:qs[k]≠D:=fun e=>hD (e▸Qk)
 have KR:=AJ.grown hg (by intro e;injection e with e;exact KQ e)
 have Ai:a.length+m.length+b2.length=inn.length:=by rw [Kg,Ae,agE,agE];omega
 have Dr:=KU (L.take f++dps d a) (L.drop (f+a.length)) (by rw [agE,List.length_take,iA];omega) (by rw [List.length_drop];omega);rw [List.append_assoc] at Dr;refine ⟨qs[k],f+a.length,f+a.length+m.length-1,f+a.length+m.length,m,b2,_,rfl,KQ,KR.cell 0,KR.cell 1,by omega,by omega,by omega,by omega,FV, ?_,by rw [Kg,Ae,List.append_assoc],KV.app Qj.pt,by rw [agE,←Nat.add_assoc];exact H9⟩;intro ww hw MQ;have DV:=iO hg hw;have B8:=AJ.grown DV (by intro e;injection e with e;exact KQ e)
 have h3:=ih qs[k] (f+a.length+1) (d+1) _ _ v' qs' inn' _ ww (by omega) (by omega) (by omega) Qk B8 (dI Be (fun g Qm=>DV.block g (Be.lt g Qm).2 (fun e=>by injection e with e;exact hD (e▸Ql g Qm)))) Ql
  (N4.keep (fun b hb Ab=>DV.block b Ab (fun e=>by injection e with e;exact hD (e▸hb))) (fun b hb _=>hb)) (by rw [List.length_set,List.length_set,agE,agE,List.length_take,iA,List.length_drop];omega) MQ
 unfold qD at h3;rw [Dr,show ((d+1:Nat):Int)=(d:Int)+1 by omega] at h3;rw [aaN m KV,agE,show f+(a.length+m.length)=f+a.length+m.length by omega];rw [List.drop_drop,List.append_assoc] at h3;rw [List.append_assoc];exact h3
theorem o3 (S:Nat→Prop) (D base n:Nat) (hn:n≤1000) (hD: ¬S D) (j:Nat):xv S D base n j:=by
 induction j with
 |zero=>intro N f d x0 x1 v qs inn L w hj;omega
 |succ j ih=>
  intro N f d x0 x1 v qs inn L w hj hd hf hN hb ho hr ht hL Ad;obtain ⟨ao,cap,rfl,h1,h2,h3⟩:=abd ho;unfold maxLen at h2;have c2:w.cell? ⟨N,2,none⟩=some (.slice ao qs.length cap):=hb.cell 2
  have UZ:N≠D:=fun e=>hD (e▸hN)
  have H3:=agC h3;have HT:=agC ht;have IH:=agC ih;have HO:=agC Ad;have N2:=agC hr;have Fk:=ht.count;clear h3 ht ih hb ho hr Ad;unfold qD
  go_enter Tryz.func90,Tryz.ntmps90
  go_wp2
  go_loopw [7,13] (fun _ i wr=> ∃(k:Nat) (a b:List It),k≤qs.length∧i= .int .i64 (k:Int)∧inn=a++b∧PtD d a∧TrD w S (qs.drop k) (f+a.length) b d∧w.grownBy wr (some D)∧wr.ownsRow base 3 1 (.slice (some ⟨D,0,none⟩) n n) n (fu (L.take f++(dps d a++L.drop (f+a.length))))) (fun _ i _=>qs.length-(intOf i).toNat)
  case atStart=>exact ⟨0,[],inn,agH _,rfl,rfl, .nil _,HT.out,World.grownBy.refl _ _,by simp only [dps,dL,List.map_nil,List.length_nil,Nat.add_zero,List.nil_append,List.take_append_drop];exact HO.out⟩
  case round=>
   obtain ⟨k,a,b,hk,rfl,Kg,KV,IE,hg,FV⟩:=hrel
   by_cases Ab:k<qs.length
   ·obtain ⟨q,rfl,Av,cc⟩:=H3.out.resolve_left (by rintro rfl;simp at Ab)
    have R6:q≠D:=fun e=>hD (e▸N2.out q rfl)
    have d1:=(hg.cell (a:=⟨q,k,none⟩) (cc k Ab) (by intro e;injection e with e;exact R6 e));obtain ⟨P,A,T,U,m,b2,X,hP,KQ,p0,p1,N5,hU,hA,hT,Qn,IF,KW,Jl,H9⟩:=aaP hn hD IH.out hj hd hf hL Ab Kg KV IE hg FV;rw [hP] at d1;have HG:=agC hg;have Hy:=agC Qn;have C5:=agC IF;have N3:=agC KW;have Hg:=agC Jl;have Hz:=agC H9
    have R7: ¬D=P:=fun e=>KQ e.symm
    have ccw: ∀i,i<n→(∃u,wr.cell? ⟨D,i,none⟩=some u)∧wr.frozen? ⟨D,i,none⟩=false:=by
     intro i hi;refine ⟨?_,Hy.out.frozenAt i⟩;rw [Hy.out.cellAt i (by omega),List.getElem?_eq_getElem (by have:=Hy.out.1;omega)];exact ⟨_,rfl⟩
    obtain ⟨⟨y0,g0⟩,z0⟩:=ccw A (by omega);obtain ⟨⟨y1,g1⟩,z1⟩:=ccw T (by omega);have S1:=Hy.out.stored A (.int .i64 (d:Int));have S2:=S1.1.stored T (.int .i64 (d:Int));have T1:=Hy.out.stored T (.int .i64 (d:Int))
    obtain ⟨y2,g2⟩: ∃u,(wr.setCell ⟨D,A,none⟩ (.int .i64 (d:Int))).cell? ⟨D,T,none⟩=some u:=by
     rw [S1.1.cellAt T (by omega),List.getElem?_eq_getElem (by have:=S1.1.1;omega)];exact ⟨_,rfl⟩
    have z2:(wr.setCell ⟨D,A,none⟩ (.int .i64 (d:Int))).frozen? ⟨D,T,none⟩=false:=S1.1.frozenAt T;have g2d:(wr.setCell ⟨D,A,none⟩ (.int .i64 (d:Int))).drew.cell? ⟨D,T,none⟩=some y2:=g2;have z2d:(wr.setCell ⟨D,A,none⟩ (.int .i64 (d:Int))).drew.frozen? ⟨D,T,none⟩=false:=z2;have g3d:(wr.drew.setCell ⟨D,A,none⟩ (.int .i64 (d:Int))).cell? ⟨D,T,none⟩=some y2:=g2;have z3d:(wr.drew.setCell ⟨D,A,none⟩ (.int .i64 (d:Int))).frozen? ⟨D,T,none⟩=false:=z2;have T2:=T1.1.stored A (.int .i64 (d:Int));rw [rY,rY] at S2 T2
    rw [show (X.set T d).set A d=(X.set A d).set T d by
     by_cases e:T=A
     ·subst e;rfl
     ·rw [List.set_comm _ _ e]] at T2
    have Cq: ∀x:World,wr.grownBy x (some D)→wr.grownBy x.drew (some D):=fun x h=>⟨h.os,h.tape,h.output,h.size,h.block⟩
    have Jj:=agC (C5.out ((wr.setCell ⟨D,A,none⟩ (.int .i64 (d:Int))).setCell ⟨D,T,none⟩ (.int .i64 (d:Int))).drew (Cq _ (iO S1.2 S2.2)) S2.1);have R8:=agC (iO HG.out (Cq _ (iO S1.2 S2.2)));have Ca:=agC (C5.out ((wr.setCell ⟨D,T,none⟩ (.int .i64 (d:Int))).setCell ⟨D,A,none⟩ (.int .i64 (d:Int))).drew (Cq _ (iO T1.2 T2.2)) T2.1);have R9:=agC (iO HG.out (Cq _ (iO T1.2 T2.2)))
    have Sa:(0:Int)≤(A:Int):=by omega
    have Sb:(A:Int)<(n:Int):=by omega
    have Sc:(0:Int)≤(T:Int):=by omega
    have Sd:(T:Int)<(n:Int):=by omega
    clear Cq S1 S2 T1 T2 ccw cc hP Qn IF KW Jl H9 Kg KV IE hg FV
    have EG:IntKind.i64.wrap ((U:Int)-1)=(T:Int):=by rw [IntWalk.i64_in _ (by omega)];exact N5
    go_upto_region 3 with (fail)
    go_region
    all_goals
     (try go_wp2_with fail)
     first
      |(refine Jj.out.mono ?_
        rintro e w3 ⟨rfl,AF,CQ⟩;have AE:=agC (iO R8.out AF);have BY:=agC CQ
        clear AF CQ)
      |(refine Ca.out.mono ?_
        rintro e w3 ⟨rfl,AF,CQ⟩;have AE:=agC (iO R9.out AF);have BY:=agC CQ
        clear AF CQ)
     go_wp2;go_roundw
     case rel=>exact ⟨k+1,a++m,b2,by omega,by go_num,N3.out,Hg.out,Hz.out,AE.out,BY.out⟩
     case measure=>simp [intOf];omega
   ·obtain rfl:k=qs.length:=by omega
    have Cb:=agC (show wr.ownsRow base 3 1 (.slice (some ⟨D,0,none⟩) n n) n (fu (L.take f++(dps d inn++L.drop (f+inn.length)))) by
     rw [List.drop_length] at IE
     cases IE
     rw [Kg,List.append_nil];exact FV)
    have HG:=agC hg;clear hg FV IE;go_wp2;refine bodyPost_end (results_none rfl _ _ _) rfl ?_;exact ⟨rfl,HG.out,Cb.out⟩
noncomputable def dpD (l:List It):List Nat:=if dT l=true then dps 0 l else []
theorem af1:(Tryz.prog.info? 3).map (fun i=>(i.zero,i.size,i.bytes))=some (some (.int .i64 0),1,8):=by kernel_rfl
theorem o4 (v:Value) (l:List It) (w:World) (hr:RowIt w v l) (hz:aea l) (Al:Tab w):
  Calls Tryz.prog 56 #[v] w (yi (dpD l) w):=by
 obtain ⟨i0,hi,Az,Ax,AC⟩:=info_parts af1;have HC:=agC (iq v l w hr hz Al);obtain ⟨ao,cap,rfl,h1,h2,h3⟩:=hr;clear h3 hz
 cases Aj:dT l with
 |true=>
  have Ep:=((bP l).mp Aj).1;have HD:=agC (show dpD l=dps 0 l by unfold dpD;rw [if_pos Aj]);rw [HD.out]
  have H0:i0.bytes*l.length≤281474976710656:=by rw [AC];omega
  go_enter Tryz.func56,Tryz.ntmps56
  go_wp2_with fail;refine HC.out.mono ?_;rintro e w1 ⟨Aa,⟨N,vv,qs,rfl,-,hN,AJ,ho,ht⟩|⟨rfl,Ar⟩⟩
  ·have Af:=agC Aa;have DR:=agC AJ;have HO:=agC ho;have HT:=agC ht
   have Jk:=AJ.lt;clear Aa AJ ho ht
   go_wp2_with (at_make;refine wpList_make_full _ rfl _ _ 25 rfl w1.heap.size 3 i0 (.int .i64 0) 1 Tryz.underlying25 hi Az Ax .i64 .i64 (l.length:Int) (l.length:Int) l.length rfl rfl rfl rfl H0 (by unfold maxLen;omega) (agD _) ?_;intro w2 DU B7)
   have hM:(madeCells (Value.int .i64 0).cells (l.length*1)).toList=fu (List.replicate l.length 0):=by
    apply List.ext_getElem?
    intro k
    by_cases hk:k<l.length<;>simp [madeCells,fu,Value.cells,Nat.mod_one,hk]
   rw [hM] at DU;have hg2:Below w1.heap.size w1 w2:=(Below.refl w1.heap.size w1).grown B7 (agD _) (by simp)
   have C5:=agC (o3 (fun b=>N≤b∧b<w1.heap.size) w1.heap.size w1.heap.size l.length (by omega) (by intro h;omega) (l.length+1) N 0 0 _ _ vv qs l (List.replicate l.length 0) w2 (by omega) (by omega) (by omega) ⟨agD _,Jk⟩ (DR.out.keep hg2) (bX (dB HO.out hg2) (fun g _=>agH _)) (fun r hr=>by have:=HO.out.lt r hr;omega)
    (HT.out.keep (fun b hb Ab=>hg2.block b Ab) (fun b hb Ab=>by omega)) (by simp) DU)
   have Bi:=agC hg2
   have B6:=agC (show (List.replicate l.length 0).take 0++(dps 0 l++(List.replicate l.length 0).drop (0+l.length))=dps 0 l by
    rw [List.take_zero,List.nil_append,Nat.zero_add,List.drop_eq_nil_of_le (by simp),List.append_nil])
   have Cj:=Af.out.size;clear DU B7 hg2 hM;unfold qD at C5;rw [B6.out,show ((0:Nat):Int)=0 from rfl] at C5;go_wp2_with fail;refine C5.out.mono ?_;rintro e w3 ⟨rfl,AF,CQ⟩;have BY:=agC (bX CQ (fun g hg=>by have:=(CQ.lt g hg).1;omega):w3.ownsRow w.heap.size 3 1 (.slice (some ⟨w1.heap.size,0,none⟩) l.length l.length) l.length (fu (dps 0 l)));have Ap:=agC ((Af.out.trans (Bi.out.mono Cj)).grown AF (by have:=Bi.out.size;omega) (fun r hr=>by injection hr with hr;omega));clear AF CQ;go_wp2;go_ret;exact ⟨_,rfl,by rw [iA];exact BY.out,Ap.out⟩
  ·exact absurd Ar (by rw [Aj];simp)
 |false=>
  have HD:=agC (show dpD l=[] by unfold dpD;rw [if_neg (by rw [Aj];simp)]);rw [HD.out]
  go_enter Tryz.func56,Tryz.ntmps56
  go_wp2_with fail;refine HC.out.mono ?_;rintro e w1 ⟨Aa,⟨N,vv,qs,rfl,D3,-⟩|⟨rfl,Ar⟩⟩
  ·exact absurd D3 (by rw [Aj];simp)
  ·have Af:=agC Aa;clear Aa
   go_wp2;go_ret;exact ⟨_,rfl,World.ownsRow_nil _ _ _ _,Af.out⟩
theorem abB (w:World):Below w.heap.size w w.drew:=⟨rfl,rfl,rfl,agD _,fun _ _=>rfl⟩
theorem pd (k:Int) (s t:ByteArray) (u1 u2:Value) (l:List Cl) (w:World) (h1:RowC w u1 l) (h2:RowC w u2 l):
  Calls Tryz.prog 63 #[.agg #[.int .i64 k, .string s,u1, .string t], .agg #[.int .i64 k, .string s,u2, .string t]] w fun e w'=>e= .returned (.bool true)∧Below w.heap.size w w':=by
 have AK:=agC (((Below.refl w.heap.size w).alloc (agD _) (.cells #[.int .i64 k, .string s,u1, .string t] 32)).alloc (by simp) (.cells #[.int .i64 k, .string s,u2, .string t] 32));have HC:=agC (ov u1 u2 l _ (h1.mono AK.out) (h2.mono AK.out))
 have S8:=agC (fun w1 (h:Below ((w.alloc (.cells #[.int .i64 k, .string s,u1, .string t] 32)).alloc (.cells #[.int .i64 k, .string s,u2, .string t] 32)).heap.size ((w.alloc (.cells #[.int .i64 k, .string s,u1, .string t] 32)).alloc (.cells #[.int .i64 k, .string s,u2, .string t] 32)) w1)=>
  (show w1.cell? ⟨w.heap.size,3,none⟩=some (.string t) by rw [h.cell (by simp;omega)];simp [go_sem]))
 have S9:=agC (fun w1 (h:Below ((w.alloc (.cells #[.int .i64 k, .string s,u1, .string t] 32)).alloc (.cells #[.int .i64 k, .string s,u2, .string t] 32)).heap.size ((w.alloc (.cells #[.int .i64 k, .string s,u1, .string t] 32)).alloc (.cells #[.int .i64 k, .string s,u2, .string t] 32)) w1)=>
  (show w1.cell? ⟨w.heap.size+1,3,none⟩=some (.string t) by rw [h.cell (by simp)];simp [go_sem]))
 obtain ⟨a1,c1,rfl,-⟩:=h1;obtain ⟨a2,c2,rfl,-⟩:=h2
 have ht:(s.toList==s.toList)=true:=by simp
 have ht2:(t.toList==t.toList)=true:=by simp
 have hk:(k !=k)=false:=by simp
 go_enter Tryz.func63,Tryz.ntmps63
 go_wp2_with fail;refine HC.out.mono ?_;rintro e w1 ⟨rfl,Aa⟩;have e0:=S8.out w1 Aa;have e1:=S9.out w1 Aa;have Af:=agC (AK.out.trans (Aa.mono AK.out.size));clear Aa;go_wp2;go_ret;exact ⟨rfl,Af.out⟩
theorem ji (v1 v2:Value) (l:List It) (w:World) (h1:RowIt w v1 l) (h2:RowIt w v2 l):
  Calls Tryz.prog 26 #[v1,v2] w fun e w'=>e= .returned (.bool true)∧Below w.heap.size w w':=by
 obtain ⟨a1,c1,rfl,l1,m1,r1⟩:=h1;obtain ⟨a2,c2,rfl,l2,m2,r2⟩:=h2;unfold maxLen at m1 m2;have R1:=agC r1;have R2:=agC r2;clear r1 r2
 go_enter Tryz.func26,Tryz.ntmps26
 go_wp2
 go_loopw [5] (fun i wr=> ∃k:Nat,k≤l.length∧i= .int .i64 (k:Int)∧Below w.heap.size w wr) (fun i _=>l.length-(intOf i).toNat)
 case atStart=>exact ⟨0,agH _,rfl,Below.refl _ _⟩
 case round=>
  obtain ⟨k,hk,rfl,hb⟩:=hrel;have HB:=agC hb;clear hb
  by_cases Ab:k<l.length
  ·obtain ⟨b1,o1,rfl,KN,LL⟩:=R1.out.resolve_left (by rintro rfl;simp at Ab)
   obtain ⟨b2,o2,rfl,Ta,Ce⟩:=R2.out.resolve_left (by rintro rfl;simp at Ab);obtain ⟨u1,p1⟩:=LL k Ab;obtain ⟨u2,p2⟩:=Ce k Ab;obtain ⟨d0,d1,d2,d3,x1⟩:=p1.mono KN HB.out;obtain ⟨f0,f1,f2,f3,x2⟩:=p2.mono Ta HB.out;have X1:=agC x1;have X2:=agC x2;clear LL Ce p1 p2 x1 x2
   have Qf:(0:Int)≤(k:Int):=by omega
   have Qg:(k:Int)<(l.length:Int):=by omega
   generalize l[k].1=kk at d0 f0;generalize l[k].2.1=nk at d1 f1;generalize l[k].2.2.1=lk at X1 X2;generalize l[k].2.2.2=tk at d3 f3;go_wp2_with fail
   go_region_with ((go_at_call 63;refine (pd _ _ _ _ _ lk _ (X1.out.mono (abB wr)) (X2.out.mono (abB wr))).mono ?_;rintro e w1 ⟨rfl,Aa⟩))
   all_goals
    have Ak:=agC (HB.out.trans (((abB wr).trans Aa).mono HB.out.size));clear Aa
    (try go_wp2)
    go_roundw
    case rel=>exact ⟨k+1,by omega,by go_num,Ak.out⟩
    case measure=>simp [intOf];omega
  ·obtain rfl:k=l.length:=by omega
   go_wp2;go_ret;exact ⟨rfl,HB.out⟩
end Go.Proofs.YtegdjjjpoahamaaGreatDoor
