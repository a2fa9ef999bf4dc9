/-
  Part of the proof of FnPrintDocument.
-/
import Derived.Test.YthijkjnngfnfdaaGreatDoorQPab
import Derived.Test.YthijkjnngfnfdaaGreatDoorQPae
import Derived.WalkKit
import Derived.WalkSpells
import Derived.Lib.Hide
import Derived.IntWalk
import Derived.BigQuiet
import Derived.Deep.QuietTactic
import Derived.Below
import Derived.Laws.OwnMore
import Derived.OwnWalk
import Derived.Deep.RegionHeld3
import Derived.Deep.AppendLies
set_option linter.unusedVariables false
set_option maxHeartbeats 4000000
set_option maxRecDepth 100000
namespace Go.Proofs.YthijkjnngfnfdaaGreatDoor
theorem afS (c:UInt8) (r:List UInt8):clo false (bA c++r)=(bA c).length+clo false r:=by
 unfold bA
 split
 ·show clo false (92::110::r)=2+_
  simp only [clo];rw [if_neg (by decide),if_pos (by decide)];omega
 ·split
  ·show clo false (92::c::r)=2+_
   simp only [clo];rw [if_neg (by decide),if_pos (by decide)];omega
  ·rename_i h1 h2
   have a: ¬((c.toNat:Int)==34)=true:=by
    rw [beq_iff_eq];intro e;exact h2 (.inl (UInt8.toNat_inj.mp (by rw [show (34:UInt8).toNat=34 from rfl];omega)))
   have b: ¬((c.toNat:Int)==92)=true:=by
    rw [beq_iff_eq];intro e;exact h2 (.inr (UInt8.toNat_inj.mp (by rw [show (92:UInt8).toNat=92 from rfl];omega)))
   show clo false (c::r)=1+_
   simp only [clo];rw [if_neg a,if_neg b];omega
theorem abI (l r:List UInt8):clo false (aZ l++r)=(aZ l).length+clo false r:=by
 induction l with
 |nil=>simp [aZ]
 |cons c l ih=>rw [eU,List.append_assoc,afS,ih,aio];omega
theorem te (c:UInt8) (h:okI (c.toNat:Int)=true):aI (bA c)=true:=by
 unfold bA
 split
 ·decide
 ·split
  ·rename_i h1 h2
   rcases h2 with e|e<;>rw [e]<;>decide
  ·rename_i h1 h2
   simp only [okI,Bool.or_eq_true,beq_iff_eq] at h
   have hp:cC (c.toNat:Int)=true:=by
    rcases h with h|h
    ·exact absurd (UInt8.toNat_inj.mp (by rw [show (10:UInt8).toNat=10 from rfl];omega)) h1
    ·exact h
   simp [aI,hp]
theorem tg (l:List UInt8) (h:okL l=true):aI (aZ l)=true:=by
 induction l with
 |nil=>rfl
 |cons c l ih=>
  rw [vU] at h;simp only [Bool.and_eq_true] at h;have h1:=te c h.1;have h2:=ih h.2;rw [eU];simp only [aI,List.all_append,Bool.and_eq_true] at h1 h2⊢;exact ⟨h1,h2⟩
open Go.RowKit
def RowOf (w:World) (v:Value) (L:List Value):Prop:=
 ∃ao cap,v= .slice ao L.length cap∧L.length≤cap∧cap≤maxLen∧(L=[]∨ ∃b off,ao=some ⟨b,off,none⟩∧b<w.heap.size∧ ∀(j:Nat) t,L[j]? =some t→w.cell? ⟨b,off+j,none⟩=some t)
theorem RowOf.of_own {w:World} {base:Nat} {e:TypeId} {v:Value} {n:Nat} {L:List Value} (h:w.ownsRow base e 1 v n L):RowOf w v L:=by
 have h0:=h;obtain ⟨hl,h2⟩:=h
 rcases h2 with ⟨rfl,rfl⟩|⟨g,cap,cur,rfl,hg,hh,h1,h2,_⟩
 ·obtain rfl:L=[]:=List.eq_nil_of_length_eq_zero (by omega)
  exact ⟨none,0,rfl,ain _,by unfold maxLen;omega, .inl rfl⟩
 ·obtain rfl:n=L.length:=by omega
  refine ⟨_,cap,rfl,h1,h2, .inr ⟨g,0,rfl, ?_, ?_⟩⟩
  ·by_cases hk:g<w.heap.size
   ·exact hk
   ·rw [Array.getElem?_eq_none (by omega)] at hh;cases hh
  ·intro j t ht
   have hlt:j<L.length:=by
    by_cases hk:j<L.length
    ·exact hk
    ·rw [List.getElem?_eq_none (by omega)] at ht;cases ht
   rw [Nat.zero_add,h0.cellAt j (by omega)];exact ht
theorem oT:(Tryz.prog.info? 9).map (fun i=>(i.zero,i.size,i.bytes))=some (some (.string ByteArray.empty),1,16):=by kernel_rfl
def gH (l:List ByteArray):List Value:=l.map Value.string
theorem eN (l:List ByteArray):(gH l).length=l.length:=by simp [gH]
theorem fB (a b:List ByteArray):gH (a++b)=gH a++gH b:=by simp [gH]
theorem kg (t:ByteArray): ∀u∈[Value.string t],u.oneCell'=true:=by
 intro u hu;simp only [List.mem_singleton] at hu;subst hu;rfl
def tM (L:List ByteArray) (w:World) (e:Ending) (w':World):Prop:=
 ∃v,e= .returned v∧w'.ownsRow w.heap.size 9 1 v L.length (gH L)∧Below w.heap.size w w'
theorem adh (s:ByteArray) (h:0<s.size):s.data.toList.getLast? =some s[s.size-1]:=by
 have hl:s.data.toList.length=s.size:=by rw [Array.length_toList];rfl
 rw [List.getLast?_eq_getElem?,hl,List.getElem?_eq_getElem (by omega)];rfl
theorem adi (s:ByteArray) (h:0<s.size):s.data.toList.head? =some s[0]:=by
 have hl:s.data.toList.length=s.size:=by rw [Array.length_toList];rfl
 rw [List.head?_eq_getElem?,List.getElem?_eq_getElem (by omega)];rfl
def fq (s:ByteArray):Bool:=s.data.toList.head? ==some 32||s.data.toList.getLast? ==some 32
theorem xw (s:ByteArray):eO s=(decide (s.size≤60)&&(aI s.data.toList&& !fq s)):=by
 unfold eO fq aT;rw [jr]
 by_cases h:s.size≤60
 ·rw [decide_eq_true h,decide_eq_true (show s.size≤20000 by omega)]
  simp only [Bool.true_and,Bool.not_or,bne];rw [Bool.and_assoc]
 ·rw [decide_eq_false h];simp
theorem rA (s:ByteArray) (h:0<s.size):fq s=((((s[0].toNat:Int))==32)||(((s[s.size-1].toNat:Int))==32)):=by
 unfold fq;rw [adi s h,adh s h,show (32:Int)=((32:UInt8).toNat:Int) from rfl,o3,o3]
 rfl
theorem xx (s:ByteArray) (w:World) (hs:s.size≤maxLen):
  Calls Tryz.prog 111 #[.string s] w fun e w'=>e= .returned (.bool (fq s))∧w=w':=by
 unfold maxLen at hs
 cases h:emB s with
 |true=>
  obtain ⟨a1,a2,a3,a4⟩:=kq h
  have hz:s.data.toList=[]:=by rw [←ByteArray.toList_eq];exact a2
  rw [show fq s=false by unfold fq;rw [hz];rfl];clear hz
  go_enter Tryz.func111,Tryz.ntmps111
  go_wp2;go_ret;exact ⟨rfl,rfl⟩
 |false=>
  obtain ⟨a1,a2,a3,a4⟩:=mh h
  have hp:0<s.size:=by
   rcases Nat.eq_zero_or_pos s.size with e|e
   ·exfalso;unfold emB at h;rw [e] at h;cases h
   ·exact e
  rw [rA s hp]
  have e1:((s.size:Int)-1).toNat=s.size-1:=by omega
  cases h1:((s[0].toNat:Int)==32)
  ·cases h2:((s[s.size-1].toNat:Int)==32)
   all_goals
    go_enter Tryz.func111,Tryz.ntmps111
    go_wp2;go_ret;exact ⟨rfl,rfl⟩
  ·go_enter Tryz.func111,Tryz.ntmps111
   go_wp2;go_ret;exact ⟨rfl,rfl⟩
theorem rB (s:ByteArray) (w:World) (hs:s.size≤maxLen):
  Calls Tryz.prog 59 #[.string s] w fun e w'=>e= .returned (.bool (eO s))∧w=w':=by
 have HMX:=aim hs;unfold maxLen at hs;rw [xw]
 by_cases h:s.size≤60
 ·rw [decide_eq_true h,Bool.true_and]
  have z:decide ((s.size:Int)≤60)=true:=decide_eq_true (by omega)
  cases hp:aI s.data.toList with
  |false=>
   go_enter Tryz.func59,Tryz.ntmps59
   go_wp2_with fail;refine (gE s _ HMX.out).mono ?_;rintro e w' ⟨rfl,rfl⟩;rw [hp];go_wp2;go_ret;exact ⟨rfl,rfl⟩
  |true=>
   cases h9:fq s
   all_goals
    go_enter Tryz.func59,Tryz.ntmps59
    go_wp2_with fail;refine (gE s _ HMX.out).mono ?_;rintro e w' ⟨rfl,rfl⟩;rw [hp];go_wp2_with fail;refine (xx s _ HMX.out).mono ?_;rintro e w' ⟨rfl,rfl⟩;rw [h9];go_wp2;go_ret;exact ⟨rfl,rfl⟩
 ·rw [decide_eq_false h,Bool.false_and]
  have z:decide ((s.size:Int)≤60)=false:=decide_eq_false (by omega)
  go_enter Tryz.func59,Tryz.ntmps59
  go_wp2;go_ret;exact ⟨rfl,rfl⟩
theorem adI (n:ByteArray) (l:List Cl) (t:ByteArray) (u:Value) (w:World) (hr:RowC w u l) (hn:n.size≤maxLen) (hz:em l) (ht:t.size≤maxLen) (htab:Tab w):
  Calls Tryz.prog 19 #[.agg #[.int .i64 1, .string n,u, .string t]] w fun e w'=>e= .returned (.bool (emB n&&(l.isEmpty&&emB t)))∧Below w.heap.size w w':=by
 have HB0:=aim ((Below.refl w.heap.size w).alloc (ain _) (.cells #[.int .i64 1, .string n,u, .string t] 25));obtain ⟨ao,cap,rfl,-⟩:=hr
 cases h1:emB n with
 |false=>
  obtain ⟨a1,a2,a3,a4⟩:=mh h1;clear hz
  go_enter Tryz.func19,Tryz.ntmps19
  go_wp2;go_ret;exact ⟨rfl,HB0.out⟩
 |true=>
  obtain ⟨a1,a2,a3,a4⟩:=kq h1
  cases h2:l.isEmpty with
  |false=>
   have b1:=(uk h2).1;clear hz
   go_enter Tryz.func19,Tryz.ntmps19
   go_wp2;go_ret;exact ⟨rfl,HB0.out⟩
  |true=>
   have b1:=(uj h2).1
   cases h3:emB t with
   |false=>
    obtain ⟨c1,c2,c3,c4⟩:=mh h3;clear hz
    go_enter Tryz.func19,Tryz.ntmps19
    go_wp2;go_ret;exact ⟨rfl,HB0.out⟩
   |true=>
    obtain ⟨c1,c2,c3,c4⟩:=kq h3;clear hz
    go_enter Tryz.func19,Tryz.ntmps19
    go_wp2;go_ret;exact ⟨rfl,HB0.out⟩
theorem adJ (n:ByteArray) (l:List Cl) (t:ByteArray) (u:Value) (w:World) (hr:RowC w u l) (hn:n.size≤maxLen) (hz:em l) (ht:t.size≤maxLen) (htab:Tab w):
  Calls Tryz.prog 19 #[.agg #[.int .i64 5, .string n,u, .string t]] w fun e w'=>e= .returned (.bool (emB n&&(l.isEmpty&&emB t)))∧Below w.heap.size w w':=by
 have HB0:=aim ((Below.refl w.heap.size w).alloc (ain _) (.cells #[.int .i64 5, .string n,u, .string t] 25));obtain ⟨ao,cap,rfl,-⟩:=hr
 cases h1:emB n with
 |false=>
  obtain ⟨a1,a2,a3,a4⟩:=mh h1;clear hz
  go_enter Tryz.func19,Tryz.ntmps19
  go_wp2;go_ret;exact ⟨rfl,HB0.out⟩
 |true=>
  obtain ⟨a1,a2,a3,a4⟩:=kq h1
  cases h2:l.isEmpty with
  |false=>
   have b1:=(uk h2).1;clear hz
   go_enter Tryz.func19,Tryz.ntmps19
   go_wp2;go_ret;exact ⟨rfl,HB0.out⟩
  |true=>
   have b1:=(uj h2).1
   cases h3:emB t with
   |false=>
    obtain ⟨c1,c2,c3,c4⟩:=mh h3;clear hz
    go_enter Tryz.func19,Tryz.ntmps19
    go_wp2;go_ret;exact ⟨rfl,HB0.out⟩
   |true=>
    obtain ⟨c1,c2,c3,c4⟩:=kq h3;clear hz
    go_enter Tryz.func19,Tryz.ntmps19
    go_wp2;go_ret;exact ⟨rfl,HB0.out⟩
theorem adK (n:ByteArray) (l:List Cl) (t:ByteArray) (u:Value) (w:World) (hr:RowC w u l) (hn:n.size≤maxLen) (hz:em l) (ht:t.size≤maxLen) (htab:Tab w):
  Calls Tryz.prog 19 #[.agg #[.int .i64 2, .string n,u, .string t]] w fun e w'=>e= .returned (.bool (emB n&&(l.isEmpty&&eO t)))∧Below w.heap.size w w':=by
 have HB0:=aim ((Below.refl w.heap.size w).alloc (ain _) (.cells #[.int .i64 2, .string n,u, .string t] 25));obtain ⟨ao,cap,rfl,-⟩:=hr
 cases h1:emB n with
 |false=>
  obtain ⟨a1,a2,a3,a4⟩:=mh h1;clear hz
  go_enter Tryz.func19,Tryz.ntmps19
  go_wp2;go_ret;exact ⟨rfl,HB0.out⟩
 |true=>
  obtain ⟨a1,a2,a3,a4⟩:=kq h1
  cases h2:l.isEmpty with
  |false=>
   have b1:=(uk h2).1;clear hz
   go_enter Tryz.func19,Tryz.ntmps19
   go_wp2;go_ret;exact ⟨rfl,HB0.out⟩
  |true=>
   have b1:=(uj h2).1;clear hz
   cases h9:eO t
   all_goals
    go_enter Tryz.func19,Tryz.ntmps19
    go_wp2_with fail;refine (rB t _ ht).mono ?_;rintro e w1 ⟨rfl,rfl⟩;rw [h9];go_wp2;go_ret;exact ⟨rfl,HB0.out⟩
theorem adL (n:ByteArray) (l:List Cl) (t:ByteArray) (u:Value) (w:World) (hr:RowC w u l) (hn:n.size≤maxLen) (hz:em l) (ht:t.size≤maxLen) (htab:Tab w):
  Calls Tryz.prog 19 #[.agg #[.int .i64 3, .string n,u, .string t]] w fun e w'=>e= .returned (.bool (gi n&&(okE l&&eO t)))∧Below w.heap.size w w':=by
 have HB0:=aim ((Below.refl w.heap.size w).alloc (ain _) (.cells #[.int .i64 3, .string n,u, .string t] 25));have HRX:=aim (hr.mono HB0.out);have HTX:=aim (htab.keep HB0.out);have HX:=aim (kL u l _ HRX.out hz HTX.out);obtain ⟨ao,cap,rfl,-⟩:=hr;have HBX:=aim (fun w1 (h:Below (w.alloc (.cells #[.int .i64 3, .string n, .slice ao l.length cap, .string t] 25)).heap.size (w.alloc (.cells #[.int .i64 3, .string n, .slice ao l.length cap, .string t] 25)) w1)=>ahT h);clear hz
 cases h1:gi n with
 |false=>
  go_enter Tryz.func19,Tryz.ntmps19
  go_wp2_with fail;refine (dB n _ hn).mono ?_;rintro e w1 ⟨rfl,rfl⟩;rw [h1];go_wp2;go_ret;exact ⟨rfl,HB0.out⟩
 |true=>
  cases h2:okE l with
  |false=>
   go_enter Tryz.func19,Tryz.ntmps19
   go_wp2_with fail;refine (dB n _ hn).mono ?_;rintro e w1 ⟨rfl,rfl⟩;rw [h1];go_wp2_with fail;refine HX.out.mono ?_;rintro e w1 ⟨rfl,hb1⟩;have HB1:=aim (HB0.out.trans (hb1.mono HB0.out.size));clear hb1;rw [h2];go_wp2;go_ret;exact ⟨rfl,HB1.out⟩
  |true=>
   cases h9:eO t
   all_goals
    go_enter Tryz.func19,Tryz.ntmps19
    go_wp2_with fail;refine (dB n _ hn).mono ?_;rintro e w1 ⟨rfl,rfl⟩;rw [h1];go_wp2_with fail;refine HX.out.mono ?_;rintro e w1 ⟨rfl,hb1⟩;obtain ⟨d0,d1,d2,d3⟩:=HBX.out w1 hb1;have HB1:=aim (HB0.out.trans (hb1.mono HB0.out.size));clear hb1;rw [h2];go_wp2_with fail;refine (rB t _ ht).mono ?_;rintro e w2 ⟨rfl,rfl⟩;rw [h9];go_wp2;go_ret;exact ⟨rfl,HB1.out⟩
theorem adM (n:ByteArray) (l:List Cl) (t:ByteArray) (u:Value) (w:World) (hr:RowC w u l) (hn:n.size≤maxLen) (hz:em l) (ht:t.size≤maxLen) (htab:Tab w):
  Calls Tryz.prog 19 #[.agg #[.int .i64 4, .string n,u, .string t]] w fun e w'=>e= .returned (.bool (gi n&&(l.isEmpty&&emB t)))∧Below w.heap.size w w':=by
 have HB0:=aim ((Below.refl w.heap.size w).alloc (ain _) (.cells #[.int .i64 4, .string n,u, .string t] 25));obtain ⟨ao,cap,rfl,-⟩:=hr;clear hz
 cases h1:gi n with
 |false=>
  go_enter Tryz.func19,Tryz.ntmps19
  go_wp2_with fail;refine (dB n _ hn).mono ?_;rintro e w1 ⟨rfl,rfl⟩;rw [h1];go_wp2;go_ret;exact ⟨rfl,HB0.out⟩
 |true=>
  cases h2:l.isEmpty with
  |false=>
   have b1:=(uk h2).1
   go_enter Tryz.func19,Tryz.ntmps19
   go_wp2_with fail;refine (dB n _ hn).mono ?_;rintro e w1 ⟨rfl,rfl⟩;rw [h1];go_wp2;go_ret;exact ⟨rfl,HB0.out⟩
  |true=>
   have b1:=(uj h2).1
   cases h3:emB t with
   |false=>
    obtain ⟨c1,c2,c3,c4⟩:=mh h3
    go_enter Tryz.func19,Tryz.ntmps19
    go_wp2_with fail;refine (dB n _ hn).mono ?_;rintro e w1 ⟨rfl,rfl⟩;rw [h1];go_wp2;go_ret;exact ⟨rfl,HB0.out⟩
   |true=>
    obtain ⟨c1,c2,c3,c4⟩:=kq h3
    go_enter Tryz.func19,Tryz.ntmps19
    go_wp2_with fail;refine (dB n _ hn).mono ?_;rintro e w1 ⟨rfl,rfl⟩;rw [h1];go_wp2;go_ret;exact ⟨rfl,HB0.out⟩
theorem adN (k:Int) (h1:k≠1) (h2:k≠2) (h3:k≠3) (h4:k≠4) (h5:k≠5) (n:ByteArray) (l:List Cl) (t:ByteArray) (u:Value) (w:World) (hr:RowC w u l) (hn:n.size≤maxLen) (hz:em l) (ht:t.size≤maxLen) (htab:Tab w):
  Calls Tryz.prog 19 #[.agg #[.int .i64 k, .string n,u, .string t]] w fun e w'=>e= .returned (.bool (false))∧Below w.heap.size w w':=by
 have HB0:=aim ((Below.refl w.heap.size w).alloc (ain _) (.cells #[.int .i64 k, .string n,u, .string t] 25));obtain ⟨ao,cap,rfl,-⟩:=hr;clear hz;have a1:(k==1)=false:=beq_eq_false_iff_ne.mpr h1;have a2:(k==2)=false:=beq_eq_false_iff_ne.mpr h2;have a3:(k==3)=false:=beq_eq_false_iff_ne.mpr h3;have a4:(k==4)=false:=beq_eq_false_iff_ne.mpr h4;have a5:(k==5)=false:=beq_eq_false_iff_ne.mpr h5
 go_enter Tryz.func19,Tryz.ntmps19
 go_wp2;go_ret;exact ⟨rfl,HB0.out⟩
theorem fU (i:It) (u:Value) (w:World) (hr:RowC w u i.2.2.1) (hn:i.2.1.size≤maxLen) (hz:em i.2.2.1) (ht:i.2.2.2.size≤maxLen) (htab:Tab w):
  Calls Tryz.prog 19 #[.agg #[.int .i64 i.1, .string i.2.1,u, .string i.2.2.2]] w fun e w'=>e= .returned (.bool (aM i))∧Below w.heap.size w w':=by
 obtain ⟨k,n,l,t⟩:=i;simp only at hr hn hz ht⊢;unfold aM;simp only
 by_cases h1:k=1
 ·subst h1;rw [if_pos (.inl rfl)];exact adI n l t u w hr hn hz ht htab
 by_cases h5:k=5
 ·subst h5;rw [if_pos (.inr rfl)];exact adJ n l t u w hr hn hz ht htab
 rw [if_neg (by omega)]
 by_cases h2:k=2
 ·subst h2;rw [if_pos rfl];exact adK n l t u w hr hn hz ht htab
 rw [if_neg h2]
 by_cases h3:k=3
 ·subst h3;rw [if_pos rfl];exact adL n l t u w hr hn hz ht htab
 rw [if_neg h3]
 by_cases h4:k=4
 ·subst h4;rw [if_pos rfl];exact adM n l t u w hr hn hz ht htab
 rw [if_neg h4];exact adN k h1 h2 h3 h4 h5 n l t u w hr hn hz ht htab
theorem af3 (s:ByteArray):eO s=(aT s&&(decide (s.size≤60)&&(!eH s.data.toList 10&& !fq s))):=by
 unfold eO fq;simp only [Bool.not_or,bne]
theorem sb (s:ByteArray) (w:World) (hs:s.size≤maxLen):
  Calls Tryz.prog 46 #[.string s] w fun e w'=>e= .returned (.bool (eO s))∧w=w':=by
 have HMX:=aim hs;have HHX:=aim (fc s 10 w hs (by omega) (by omega));unfold maxLen at hs;rw [af3]
 cases h0:aT s with
 |false=>
  go_enter Tryz.func46,Tryz.ntmps46
  go_wp2_with fail;refine (aR s _ HMX.out).mono ?_;rintro e w' ⟨rfl,rfl⟩;rw [h0];go_wp2;go_ret;exact ⟨rfl,rfl⟩
 |true=>
  by_cases h:s.size≤60
  ·rw [decide_eq_true h]
   have z:decide ((s.size:Int)≤60)=true:=decide_eq_true (by omega)
   cases hh:eH s.data.toList 10 with
   |true=>
    go_enter Tryz.func46,Tryz.ntmps46
    go_wp2_with fail;refine (aR s _ HMX.out).mono ?_;rintro e w' ⟨rfl,rfl⟩;rw [h0];go_wp2_with fail;refine HHX.out.mono ?_;rintro e w' ⟨rfl,rfl⟩;rw [hh];go_wp2;go_ret;exact ⟨rfl,rfl⟩
   |false=>
    cases he:emB s with
    |true=>
     obtain ⟨a1,a2,a3,a4⟩:=kq he
     have hz:s.data.toList=[]:=by rw [←ByteArray.toList_eq];exact a2
     rw [show fq s=false by unfold fq;rw [hz];rfl];clear hz
     go_enter Tryz.func46,Tryz.ntmps46
     go_wp2_with fail;refine (aR s _ HMX.out).mono ?_;rintro e w' ⟨rfl,rfl⟩;rw [h0];go_wp2_with fail;refine HHX.out.mono ?_;rintro e w' ⟨rfl,rfl⟩;rw [hh];go_wp2;go_ret;exact ⟨rfl,rfl⟩
    |false=>
     obtain ⟨a1,a2,a3,a4⟩:=mh he
     have hp:0<s.size:=by
      rcases Nat.eq_zero_or_pos s.size with e|e
      ·exfalso;unfold emB at he;rw [e] at he;cases he
      ·exact e
     rw [rA s hp]
     have e1:((s.size:Int)-1).toNat=s.size-1:=by omega
     cases h1:((s[0].toNat:Int)==32)
     ·have n1:((s[0].toNat:Int) !=32)=true:=by rw [bne,h1];rfl
      cases h2:((s[s.size-1].toNat:Int)==32)
      all_goals
       have n2:=congrArg Bool.not h2;rw [show (!((s[s.size-1].toNat:Int)==32))=((s[s.size-1].toNat:Int) !=32) from rfl] at n2;simp only [Bool.not_true,Bool.not_false] at n2
       go_enter Tryz.func46,Tryz.ntmps46
       go_wp2_with fail;refine (aR s _ HMX.out).mono ?_;rintro e w' ⟨rfl,rfl⟩;rw [h0];go_wp2_with fail;refine HHX.out.mono ?_;rintro e w' ⟨rfl,rfl⟩;rw [hh];go_wp2;go_ret;exact ⟨rfl,rfl⟩
     ·have n1:((s[0].toNat:Int) !=32)=false:=by rw [bne,h1];rfl
      go_enter Tryz.func46,Tryz.ntmps46
      go_wp2_with fail;refine (aR s _ HMX.out).mono ?_;rintro e w' ⟨rfl,rfl⟩;rw [h0];go_wp2_with fail;refine HHX.out.mono ?_;rintro e w' ⟨rfl,rfl⟩;rw [hh];go_wp2;go_ret;exact ⟨rfl,rfl⟩
  ·rw [decide_eq_false h]
   have z:decide ((s.size:Int)≤60)=false:=decide_eq_false (by omega)
   go_enter Tryz.func46,Tryz.ntmps46
   go_wp2_with fail;refine (aR s _ HMX.out).mono ?_;rintro e w' ⟨rfl,rfl⟩;rw [h0];go_wp2;go_ret;exact ⟨rfl,rfl⟩
theorem fw (s:ByteArray) (w:World) (hs:s.size≤maxLen):
  Calls Tryz.prog 47 #[.string s] w fun e w'=>e= .returned (.bool (gi s))∧w=w':=by
 unfold gi
 cases hp:dn s.data.toList with
 |false=>
  go_enter Tryz.func47,Tryz.ntmps47
  go_wp2_with fail;refine (cW s _ hs).mono ?_;rintro e w' ⟨rfl,rfl⟩;rw [hp];go_wp2;go_ret;exact ⟨rfl,rfl⟩
 |true=>
  have HH:=aim (fc s 46 w hs (by omega) (by omega))
  cases h9:eH s.data.toList 46
  all_goals
   go_enter Tryz.func47,Tryz.ntmps47
   go_wp2_with fail;refine (cW s _ hs).mono ?_;rintro e w' ⟨rfl,rfl⟩;rw [hp];go_wp2_with fail;refine HH.out.mono ?_;rintro e w' ⟨rfl,rfl⟩;rw [h9];go_wp2;go_ret;exact ⟨rfl,rfl⟩
theorem aec (n:ByteArray) (l:List Cl) (t:ByteArray) (u:Value) (w:World) (hr:RowC w u l) (hn:n.size≤maxLen) (hz:dQ l) (hl:l.length≤1048576) (ht:t.size≤maxLen):
  Calls Tryz.prog 13 #[.agg #[.int .i64 1, .string n,u, .string t]] w fun e w'=>e= .returned (.bool (emB n&&(l.isEmpty&&emB t)))∧Below w.heap.size w w':=by
 have HB0:=aim ((Below.refl w.heap.size w).alloc (ain _) (.cells #[.int .i64 1, .string n,u, .string t] 25));obtain ⟨ao,cap,rfl,-⟩:=hr
 cases h1:emB n with
 |false=>
  obtain ⟨a1,a2,a3,a4⟩:=mh h1;clear hz
  go_enter Tryz.func13,Tryz.ntmps13
  go_wp2;go_ret;exact ⟨rfl,HB0.out⟩
 |true=>
  obtain ⟨a1,a2,a3,a4⟩:=kq h1
  cases h2:l.isEmpty with
  |false=>
   have b1:=(uk h2).1;clear hz
   go_enter Tryz.func13,Tryz.ntmps13
   go_wp2;go_ret;exact ⟨rfl,HB0.out⟩
  |true=>
   have b1:=(uj h2).1
   cases h3:emB t with
   |false=>
    obtain ⟨c1,c2,c3,c4⟩:=mh h3;clear hz
    go_enter Tryz.func13,Tryz.ntmps13
    go_wp2;go_ret;exact ⟨rfl,HB0.out⟩
   |true=>
    obtain ⟨c1,c2,c3,c4⟩:=kq h3;clear hz
    go_enter Tryz.func13,Tryz.ntmps13
    go_wp2;go_ret;exact ⟨rfl,HB0.out⟩
theorem aed (n:ByteArray) (l:List Cl) (t:ByteArray) (u:Value) (w:World) (hr:RowC w u l) (hn:n.size≤maxLen) (hz:dQ l) (hl:l.length≤1048576) (ht:t.size≤maxLen):
  Calls Tryz.prog 13 #[.agg #[.int .i64 5, .string n,u, .string t]] w fun e w'=>e= .returned (.bool (emB n&&(l.isEmpty&&emB t)))∧Below w.heap.size w w':=by
 have HB0:=aim ((Below.refl w.heap.size w).alloc (ain _) (.cells #[.int .i64 5, .string n,u, .string t] 25));obtain ⟨ao,cap,rfl,-⟩:=hr
 cases h1:emB n with
 |false=>
  obtain ⟨a1,a2,a3,a4⟩:=mh h1;clear hz
  go_enter Tryz.func13,Tryz.ntmps13
  go_wp2;go_ret;exact ⟨rfl,HB0.out⟩
 |true=>
  obtain ⟨a1,a2,a3,a4⟩:=kq h1
  cases h2:l.isEmpty with
  |false=>
   have b1:=(uk h2).1;clear hz
   go_enter Tryz.func13,Tryz.ntmps13
   go_wp2;go_ret;exact ⟨rfl,HB0.out⟩
  |true=>
   have b1:=(uj h2).1
   cases h3:emB t with
   |false=>
    obtain ⟨c1,c2,c3,c4⟩:=mh h3;clear hz
    go_enter Tryz.func13,Tryz.ntmps13
    go_wp2;go_ret;exact ⟨rfl,HB0.out⟩
   |true=>
    obtain ⟨c1,c2,c3,c4⟩:=kq h3;clear hz
    go_enter Tryz.func13,Tryz.ntmps13
    go_wp2;go_ret;exact ⟨rfl,HB0.out⟩
theorem aee (n:ByteArray) (l:List Cl) (t:ByteArray) (u:Value) (w:World) (hr:RowC w u l) (hn:n.size≤maxLen) (hz:dQ l) (hl:l.length≤1048576) (ht:t.size≤maxLen):
  Calls Tryz.prog 13 #[.agg #[.int .i64 2, .string n,u, .string t]] w fun e w'=>e= .returned (.bool (emB n&&(l.isEmpty&&eO t)))∧Below w.heap.size w w':=by
 have HB0:=aim ((Below.refl w.heap.size w).alloc (ain _) (.cells #[.int .i64 2, .string n,u, .string t] 25));obtain ⟨ao,cap,rfl,-⟩:=hr
 cases h1:emB n with
 |false=>
  obtain ⟨a1,a2,a3,a4⟩:=mh h1;clear hz
  go_enter Tryz.func13,Tryz.ntmps13
  go_wp2;go_ret;exact ⟨rfl,HB0.out⟩
 |true=>
  obtain ⟨a1,a2,a3,a4⟩:=kq h1
  cases h2:l.isEmpty with
  |false=>
   have b1:=(uk h2).1;clear hz
   go_enter Tryz.func13,Tryz.ntmps13
   go_wp2;go_ret;exact ⟨rfl,HB0.out⟩
  |true=>
   have b1:=(uj h2).1;clear hz
   cases h9:eO t
   all_goals
    go_enter Tryz.func13,Tryz.ntmps13
    go_wp2_with fail;refine (sb t _ ht).mono ?_;rintro e w1 ⟨rfl,rfl⟩;rw [h9];go_wp2;go_ret;exact ⟨rfl,HB0.out⟩
theorem aef (n:ByteArray) (l:List Cl) (t:ByteArray) (u:Value) (w:World) (hr:RowC w u l) (hn:n.size≤maxLen) (hz:dQ l) (hl:l.length≤1048576) (ht:t.size≤maxLen):
  Calls Tryz.prog 13 #[.agg #[.int .i64 3, .string n,u, .string t]] w fun e w'=>e= .returned (.bool (gi n&&(okE l&&eO t)))∧Below w.heap.size w w':=by
 have HB0:=aim ((Below.refl w.heap.size w).alloc (ain _) (.cells #[.int .i64 3, .string n,u, .string t] 25));have HRX:=aim (hr.mono HB0.out);have HX:=aim (kC u l _ HRX.out hz hl);obtain ⟨ao,cap,rfl,-⟩:=hr;have HBX:=aim (fun w1 (h:Below (w.alloc (.cells #[.int .i64 3, .string n, .slice ao l.length cap, .string t] 25)).heap.size (w.alloc (.cells #[.int .i64 3, .string n, .slice ao l.length cap, .string t] 25)) w1)=>ahT h);clear hz
 cases h1:gi n with
 |false=>
  go_enter Tryz.func13,Tryz.ntmps13
  go_wp2_with fail;refine (fw n _ hn).mono ?_;rintro e w1 ⟨rfl,rfl⟩;rw [h1];go_wp2;go_ret;exact ⟨rfl,HB0.out⟩
 |true=>
  cases h2:okE l with
  |false=>
   go_enter Tryz.func13,Tryz.ntmps13
   go_wp2_with fail;refine (fw n _ hn).mono ?_;rintro e w1 ⟨rfl,rfl⟩;rw [h1];go_wp2_with fail;refine HX.out.mono ?_;rintro e w1 ⟨rfl,hb1⟩;have HB1:=aim (HB0.out.trans (hb1.mono HB0.out.size));clear hb1;rw [h2];go_wp2;go_ret;exact ⟨rfl,HB1.out⟩
  |true=>
   cases h9:eO t
   all_goals
    go_enter Tryz.func13,Tryz.ntmps13
    go_wp2_with fail;refine (fw n _ hn).mono ?_;rintro e w1 ⟨rfl,rfl⟩;rw [h1];go_wp2_with fail;refine HX.out.mono ?_;rintro e w1 ⟨rfl,hb1⟩;obtain ⟨d0,d1,d2,d3⟩:=HBX.out w1 hb1;have HB1:=aim (HB0.out.trans (hb1.mono HB0.out.size));clear hb1;rw [h2];go_wp2_with fail;refine (sb t _ ht).mono ?_;rintro e w2 ⟨rfl,rfl⟩;rw [h9];go_wp2;go_ret;exact ⟨rfl,HB1.out⟩
theorem aeg (n:ByteArray) (l:List Cl) (t:ByteArray) (u:Value) (w:World) (hr:RowC w u l) (hn:n.size≤maxLen) (hz:dQ l) (hl:l.length≤1048576) (ht:t.size≤maxLen):
  Calls Tryz.prog 13 #[.agg #[.int .i64 4, .string n,u, .string t]] w fun e w'=>e= .returned (.bool (gi n&&(l.isEmpty&&emB t)))∧Below w.heap.size w w':=by
 have HB0:=aim ((Below.refl w.heap.size w).alloc (ain _) (.cells #[.int .i64 4, .string n,u, .string t] 25));obtain ⟨ao,cap,rfl,-⟩:=hr;clear hz
 cases h1:gi n with
 |false=>
  go_enter Tryz.func13,Tryz.ntmps13
  go_wp2_with fail;refine (fw n _ hn).mono ?_;rintro e w1 ⟨rfl,rfl⟩;rw [h1];go_wp2;go_ret;exact ⟨rfl,HB0.out⟩
 |true=>
  cases h2:l.isEmpty with
  |false=>
   have b1:=(uk h2).1
   go_enter Tryz.func13,Tryz.ntmps13
   go_wp2_with fail;refine (fw n _ hn).mono ?_;rintro e w1 ⟨rfl,rfl⟩;rw [h1];go_wp2;go_ret;exact ⟨rfl,HB0.out⟩
  |true=>
   have b1:=(uj h2).1
   cases h3:emB t with
   |false=>
    obtain ⟨c1,c2,c3,c4⟩:=mh h3
    go_enter Tryz.func13,Tryz.ntmps13
    go_wp2_with fail;refine (fw n _ hn).mono ?_;rintro e w1 ⟨rfl,rfl⟩;rw [h1];go_wp2;go_ret;exact ⟨rfl,HB0.out⟩
   |true=>
    obtain ⟨c1,c2,c3,c4⟩:=kq h3
    go_enter Tryz.func13,Tryz.ntmps13
    go_wp2_with fail;refine (fw n _ hn).mono ?_;rintro e w1 ⟨rfl,rfl⟩;rw [h1];go_wp2;go_ret;exact ⟨rfl,HB0.out⟩
theorem aeh (k:Int) (h1:k≠1) (h2:k≠2) (h3:k≠3) (h4:k≠4) (h5:k≠5) (n:ByteArray) (l:List Cl) (t:ByteArray) (u:Value) (w:World) (hr:RowC w u l) (hn:n.size≤maxLen) (hz:dQ l) (hl:l.length≤1048576) (ht:t.size≤maxLen):
  Calls Tryz.prog 13 #[.agg #[.int .i64 k, .string n,u, .string t]] w fun e w'=>e= .returned (.bool (false))∧Below w.heap.size w w':=by
 have HB0:=aim ((Below.refl w.heap.size w).alloc (ain _) (.cells #[.int .i64 k, .string n,u, .string t] 25));obtain ⟨ao,cap,rfl,-⟩:=hr;clear hz;have a1:(k==1)=false:=beq_eq_false_iff_ne.mpr h1;have a2:(k==2)=false:=beq_eq_false_iff_ne.mpr h2;have a3:(k==3)=false:=beq_eq_false_iff_ne.mpr h3;have a4:(k==4)=false:=beq_eq_false_iff_ne.mpr h4;have a5:(k==5)=false:=beq_eq_false_iff_ne.mpr h5
 go_enter Tryz.func13,Tryz.ntmps13
 go_wp2;go_ret;exact ⟨rfl,HB0.out⟩
theorem bw (i:It) (u:Value) (w:World) (hr:RowC w u i.2.2.1) (hn:i.2.1.size≤maxLen) (hz:dQ i.2.2.1) (hl:i.2.2.1.length≤1048576) (ht:i.2.2.2.size≤maxLen):
  Calls Tryz.prog 13 #[.agg #[.int .i64 i.1, .string i.2.1,u, .string i.2.2.2]] w fun e w'=>e= .returned (.bool (aM i))∧Below w.heap.size w w':=by
 obtain ⟨k,n,l,t⟩:=i;simp only at hr hn hz ht hl⊢;unfold aM;simp only
 by_cases h1:k=1
 ·subst h1;rw [if_pos (.inl rfl)];exact aec n l t u w hr hn hz hl ht
 by_cases h5:k=5
 ·subst h5;rw [if_pos (.inr rfl)];exact aed n l t u w hr hn hz hl ht
 rw [if_neg (by omega)]
 by_cases h2:k=2
 ·subst h2;rw [if_pos rfl];exact aee n l t u w hr hn hz hl ht
 rw [if_neg h2]
 by_cases h3:k=3
 ·subst h3;rw [if_pos rfl];exact aef n l t u w hr hn hz hl ht
 rw [if_neg h3]
 by_cases h4:k=4
 ·subst h4;rw [if_pos rfl];exact aeg n l t u w hr hn hz hl ht
 rw [if_neg h4];exact aeh k h1 h2 h3 h4 h5 n l t u w hr hn hz hl ht
theorem vT {w:World} {b b':Nat} {e:TypeId} {size:Nat} {v:Value} {n:Nat} {xs:List Value} (h:w.ownsRow b e size v n xs) (hb:b'≤b):w.ownsRow b' e size v n xs:=by
 refine ⟨h.1, ?_⟩
 rcases h.2 with h2|⟨g,cap,cur,hv,hg,r⟩
 ·exact .inl h2
 ·exact .inr ⟨g,cap,cur,hv,by omega,r⟩
theorem jL (s : ByteArray) (w : World) (hs : s.size ≤ maxLen) :
    Calls Tryz.prog 25 #[.string s] w (tM (bS s) w) := by
  obtain ⟨i0, hi, hz0, hz1, hz2⟩ := info_parts oT
  by_cases ht : aT s = true
  · have h20 : s.size ≤ 20000 := by simp only [aT, Bool.and_eq_true, decide_eq_true_eq] at ht; exact ht.1
    have HL := aim (show bS s = dG s by rw [bS, if_pos ht]);have HT := aim ht; clear ht
    go_enter Tryz.func25, Tryz.ntmps25
    go_wp2_with fail;refine (cI s _ hs).mono ?_;rintro e w' ⟨rfl, hw1⟩;rw [HT.out];subst hw1;go_wp2_with fail;refine (qw s _ h20).mono ?_;rintro e w1 ⟨g, cap, rfl, hc1, hc2, hg0, hg1, hcells, hb1⟩;have HC := aim hcells; have HB1 := aim hb1;unfold maxLen at hc2;have hln := qe s.data.toList s.size;clear hcells hb1;go_wp2_with fail
    go_loopw [5, 6, 16] (fun v _ i wr => ∃ k : Nat, k ≤ fo s.data.toList s.size ∧ i = .int .i64 k ∧ wr.ownsRow w1.heap.size 9 1 v k (gH ((bj s s.size).take k)) ∧ Below w1.heap.size w1 wr) (fun _ _ i _ => fo s.data.toList s.size - (intOf i).toNat)
    case atStart => exact ⟨0, air _, rfl, World.ownsRow_nil _ _ _ _, Below.refl _ _⟩
    case round =>
      obtain ⟨k, hk, rfl, hown, hb⟩ := hrel;have HB := aim hb; clear hb
      by_cases hlt : k < fo s.data.toList s.size
      · have hsl := dA s.data.toList s.size
        obtain ⟨a, ha⟩ : ∃ a, (cH s.data.toList s.size)[k]? = some a := ⟨_, List.getElem?_eq_getElem (by omega)⟩
        obtain ⟨b, hb⟩ : ∃ b, (cH s.data.toList s.size)[k + 1]? = some b := ⟨_, List.getElem?_eq_getElem (by omega)⟩
        obtain ⟨q1, q2, q3, q4⟩ := yG s s.size k a b ha hb;have ca : wr.cell? ⟨g, k, none⟩ = some (.int .i64 (a : Int)) := (HB.out.cell (p := ⟨g, k, none⟩) hg1).trans (HC.out k a ha);have cb : wr.cell? ⟨g, k + 1, none⟩ = some (.int .i64 (b : Int)) := (HB.out.cell (p := ⟨g, k + 1, none⟩) hg1).trans (HC.out (k + 1) b hb);have HQ := aim q4;clear ha hb hsl q4;have e1 : IntKind.i64.wrap ((k : Int) + 1) = (k : Int) + 1 := IntWalk.i64_in _ (by omega);have e2 : IntKind.i64.wrap ((b : Int) - 1) = (b : Int) - 1 := IntWalk.i64_in _ (by omega)
        have e3 : 0 ≤ (k : Int) + 1 := by omega
        have e4 : ((k : Int) + 1).toNat = k + 1 := by omega
        have ag : ∀ q, u5.ownBlock = some q → q ≠ g := fun q hq => by have := (hown.lt q hq).1; omega
        have AG := aim ag; clear ag
        have hgw : g < wr.heap.size := by have := HB.out.size; omega
        have bk3 : (a : Int) ≤ (b : Int) - 1 := by omega
        have bk4 : (b : Int) - 1 ≤ (s.size : Int) := by omega
        have bk5 : 0 ≤ (b : Int) - 1 := by omega
        have bk6 : ((b : Int) - 1).toNat = b - 1 := by omega
        have bk0 : (0 : Int) ≤ (k : Int) := by omega
        have bk1 : (k : Int) < (fo s.data.toList s.size : Int) + 1 := by omega
        have bk2 : (k : Int) + 1 < (fo s.data.toList s.size : Int) + 1 := by omega
        go_wp2_with fail
        go_region_held3 (fun w' => w'.cell? ⟨g, k, none⟩ = some (.int .i64 (a : Int)) ∧ w'.cell? ⟨g, k + 1, none⟩ = some (.int .i64 (b : Int)))
          (first
            | go_keep
            | (go_split_ands
               refine ⟨?_, ?_⟩
               · (rw [hgrow.cell_far _ (by simp; omega) (fun hq => AG.out _ hq.symm rfl)]; assumption)
               · (rw [hgrow.cell_far _ (by simp; omega) (fun hq => AG.out _ hq.symm rfl)]; assumption)))
          ((refine step_append_lies _ (by rfl) _ _ _ (by rfl) w1.heap.size 9 i0 _ 1 16 Tryz.underlying43 hi hz0 hz1 hz2 rfl (by omega) u5 k _ (by rfl) ((hown.alloc _).drew)
              ⟨wr.heap.size, 0, none⟩ 1 1 [.string (s.extract a (b - 1))] (by rfl) (by rfl) (World.news_of_block (cs := #[.string (s.extract a (b - 1))]) (t := 9) (fr := (0, 0)) (heap_alloc_new wr _)) (by simp [Value.oneCell'])
              (by omega) (by unfold maxLen; omega) (by omega) (by have := HB.out.size; simp; omega) (wr.heap.size + 1) (by simp) ?_; intro gg cap' w2 hown' hgrow hat hlt'))
        have HT2 := aim (show (bj s s.size).take (k + 1) = (bj s s.size).take k ++ [s.extract a (b - 1)] by rw [List.take_add_one, HQ.out]; rfl);go_wp2;go_roundw
        case rel =>
          refine ⟨k + 1, by omega, by go_num, ?_, ?_⟩
          · rw [HT2.out, fB]; exact hown'
          · exact ((HB.out.alloc HB.out.size _).drew).grown hgrow (by have := HB.out.size; simp; omega) (fun q hq => (hown.lt q hq).1)
        case measure => simp [intOf]; omega
      · obtain rfl : k = fo s.data.toList s.size := by omega
        have HT2 := aim (show (bj s s.size).take (fo s.data.toList s.size) = bj s s.size by rw [List.take_of_length_le (by rw [eg]; omega)]);rw [HT2.out] at hown;have HLL := aim (eg s s.size);have hfl := kN s.data.toList s.size;have ca : wr.cell? ⟨g, fo s.data.toList s.size, none⟩ = some (.int .i64 (de s.data.toList s.size : Nat)) := (HB.out.cell (p := ⟨g, _, none⟩) hg1).trans (HC.out _ _ (oF s.data.toList s.size));have HW := aim (HB1.out.trans (HB.out.mono HB1.out.size))
        by_cases hrest : de s.data.toList s.size < s.size
        · have HA := aim (show dG s = bj s s.size ++ [s.extract (de s.data.toList s.size) s.size] by rw [dG, if_pos hrest])
          go_wp2_with (at_builtin; refine wpList_append_own _ rfl _ _ 43 rfl w1.heap.size 9 i0 (.string ByteArray.empty) 1 16 Tryz.underlying43 hi hz0 hz1 hz2 rfl (by decide) _ _ _ rfl (hown.alloc _) ⟨wr.heap.size, 0, none⟩ 1 1 [.string (s.extract (de s.data.toList s.size) s.size)] rfl rfl (cell_one_new _ _ _) (kg _) (by unfold maxLen; omega) (by omega) (by have := HB.out.size; simp; omega) ?_; intro v' w2 hown' hgrow hnil)
          go_ret;refine ⟨_, rfl, ?_, ?_⟩
          · rw [HL.out, HA.out, fB, aio, HLL.out]; exact vT hown' HB1.out.size
          · exact (HW.out.alloc HW.out.size _).grown hgrow (by have := HW.out.size; simp; omega) (fun q hq => Nat.le_trans HB1.out.size (hown.lt q hq).1)
        · have HA := aim (show dG s = bj s s.size by rw [dG, if_neg hrest])
          go_wp2;go_ret;exact ⟨_, rfl, by rw [HL.out, HA.out, HLL.out]; exact vT hown HB1.out.size, HW.out⟩
  · have HL := aim (show bS s = [] by rw [bS, if_neg ht])
    go_enter Tryz.func25, Tryz.ntmps25
    go_wp2_with fail;refine (cI s _ hs).mono ?_;rintro e w' ⟨rfl, hw1⟩;rw [Bool.eq_false_iff.mpr ht];subst hw1;clear ht;go_wp2;go_ret;exact ⟨_, rfl, by rw [HL.out]; exact World.ownsRow_nil _ _ _ _, Below.refl _ _⟩
def aa7 (l:List It):Prop:= ∀i∈l,i.2.1.size≤maxLen∧em i.2.2.1∧i.2.2.2.size≤maxLen
def agE (l:List It) (w:World) (e:Ending) (w':World):Prop:=
 Below w.heap.size w w'∧((∃(N:Nat) (v:Value) (qs:List Nat),e= .returned (.pointer (some ⟨N,0,none⟩))∧dO l=true∧w.heap.size≤N∧BlkD w' N #[.int .i64 0, .int .i64 (l.length:Int),v]∧w'.ownsRow (N+1) 94 1 v qs.length (eG qs)∧TrD w' (fun b=>N<b∧b<w'.heap.size) qs 0 l 0)∨(e= .returned (.pointer none)∧dO l=false))
theorem afI {l:List It} (h: ¬l.length≤30):dO l=false:=by rw [Bool.eq_false_iff];intro k;exact h ((bf l).mp k).1
theorem adO {l:List It} (h: ¬l.all aM=true):dO l=false:=by rw [Bool.eq_false_iff];intro k;exact h ((bf l).mp k).2.1
theorem uP {l:List It} (h:bn 0 l≠some 0):dO l=false:=by rw [Bool.eq_false_iff];intro k;exact h ((bf l).mp k).2.2
theorem aa8 {l:List It} {k:Nat} (h:k<l.length):(l.take (k+1)).all aM=((l.take k).all aM&&aM l[k]):=by
 rw [List.take_succ_eq_append_getElem h,List.all_append];simp
theorem afJ {l:List It} (h:BadN 0 (l.drop 0)):dO l=false:=by
 refine uP fun k=> ?_
 have:=h 0 k
 omega
theorem aa9 {l seg:List It} {c:It} {post:List It} (he:l.drop 0=seg++c::post) (hp:PtD 0 seg) (hc:c.1=5):dO l=false:=by
 refine uP fun k=> ?_
 have e:l=seg++c::post:=he;rw [e] at k;have h2:=hp.nest (by omega) (c::post);rw [show ((0:Nat):Int)=0 from rfl] at h2;rw [h2,fx,mx hc,if_neg (by omega)] at k
 cases k
theorem aba {l seg:List It} (he:l.drop 0=seg++[]) (hp:PtD 0 seg) (h30:l.length≤30) (hi:l.all aM=true):dO l=true:=by
 have e:l=seg:=by simpa using he
 rw [bf,e];exact ⟨e▸h30,e▸hi,hp.self (by omega)⟩
theorem go (v:Value) (l:List It) (w:World) (hr:RowIt w v l) (hz:aa7 l) (htab:Tab w):
  Calls Tryz.prog 73 #[v] w (agE l w):=by
 have HR:=aim hr;obtain ⟨ao,cap,rfl,h1,h2,h3⟩:=hr;unfold maxLen at h2;have H3:=aim h3;have HZ:=aim hz;have HTAB:=aim htab;clear h3 hz htab
 by_cases h30:l.length≤30
 ·go_enter Tryz.func73,Tryz.ntmps73
  go_wp2
  go_loopw [4,11] (fun _ i wr=> ∃k:Nat,k≤l.length∧i= .int .i64 (k:Int)∧(l.take k).all aM=true∧Below w.heap.size w wr) (fun _ i _=>l.length-(intOf i).toNat)
  case atStart=>exact ⟨0,air _,rfl,rfl,Below.refl _ _⟩
  case round=>
   obtain ⟨k,hk,rfl,hok,hb⟩:=hrel;have HOK:=aim hok;have HB:=aim hb;clear hok hb
   by_cases hlt:k<l.length
   ·obtain ⟨b,o,rfl,hbl,cc⟩:=H3.out.resolve_left (by rintro rfl;simp at hlt)
    obtain ⟨u,hu⟩:=cc k hlt;have hu2:=hu.mono hbl HB.out;obtain ⟨d0,d1,d2,d3,hru⟩:=hu2;obtain ⟨z1,z2,z3⟩:=HZ.out _ (List.getElem_mem hlt)
    obtain ⟨au,cu,hue,-⟩: ∃au cu,u= .slice au l[k].2.2.1.length cu∧True:=by obtain ⟨au,cu,h,-⟩:=hru;exact ⟨au,cu,h,trivial⟩
    have HBA:=aim (HB.out.alloc HB.out.size (.cells #[.int .i64 l[k].1, .string l[k].2.1,u, .string l[k].2.2.2] 25));have HI:=aim (fU l[k] u (wr.alloc (.cells #[.int .i64 l[k].1, .string l[k].2.1,u, .string l[k].2.2.2] 25)) (hru.al _) z1 z2 z3 (HTAB.out.keep HBA.out));have HT:=aim (aa8 hlt);have HMI:=aim (List.getElem_mem hlt);clear cc hu hru z1 z2 z3;subst hue;generalize l[k]=it at*;obtain ⟨kk,nn,cc,tt⟩:=it;simp only at d0 d1 d2 d3 HI HBA
    cases hcb:aM (kk,nn,cc,tt) with
    |true=>
     have HN:=aim (show (l.take (k+1)).all aM=true by rw [HT.out,HOK.out,hcb];rfl);go_wp2_with fail;refine HI.out.mono ?_;rintro e w1 ⟨rfl,hb1⟩;have HB1:=aim (HBA.out.trans (hb1.mono (by have:=HB.out.size;simp;omega)));clear hb1;rw [hcb];go_wp2;go_roundw
     case rel=>exact ⟨k+1,by omega,by go_num,HN.out,HB1.out⟩
     case measure=>simp [intOf];omega
    |false=>
     have HN:=aim (adO (l:=l) (fun h=>by
      rw [List.all_eq_true] at h;have:=h _ HMI.out
      rw [hcb] at this;cases this))
     go_wp2_with fail;refine HI.out.mono ?_;rintro e w1 ⟨rfl,hb1⟩;have HB1:=aim (HBA.out.trans (hb1.mono (by have:=HB.out.size;simp;omega)));clear hb1;rw [hcb];go_wp2;go_ret;exact ⟨HB1.out, .inr ⟨rfl,HN.out⟩⟩
   ·obtain rfl:k=l.length:=by omega
    have HAL:=aim (show l.all aM=true by have:=HOK.out;rwa [List.take_of_length_le (ain _)] at this);have HG:=aim (qI _ l h30 l.length 0 0 (air _) (by omega) (by omega) wr (HR.out.mono HB.out));rw [show ((0:Nat):Int)=0 from rfl] at HG;go_wp2_with fail;refine HG.out.mono ?_;rintro e w1 ⟨hb1,⟨seg,post,vv,qs,rfl,he,hp,hbk,ho,ht⟩|⟨rfl,hbad⟩⟩
    ·have HB1:=aim (HB.out.trans (hb1.mono HB.out.size))
     have d1:w1.cell? ⟨wr.heap.size,1,none⟩=some (.int .i64 ((0+seg.length:Nat):Int)):=hbk.cell 1
     have hlen:seg.length+post.length=l.length:=by
      have:=congrArg List.length he;rw [aio,List.length_drop] at this
      omega
     rw [Nat.zero_add] at d1 hbk
     cases post with
     |nil=>
      have hz:seg.length=l.length:=by simpa using hlen
      have HD:=aim (aba he ht.pt h30 HAL.out);have hsz:=HB.out.size
      have e2:seg=l:=by have h9:=he;rw [List.append_nil,List.drop_zero] at h9;exact h9.symm
      subst e2
      have HF:=aim (show agE seg w (.returned (.pointer (some ⟨wr.heap.size,0,none⟩))) w1 from
       ⟨HB1.out, .inl ⟨wr.heap.size,vv,qs,rfl,HD.out,hsz,hbk,ho,ht.keep (fun _ _ _=>rfl) (fun b hb _=>⟨hb.1,hb.2.1⟩)⟩⟩)
      clear hb1 hbk ho ht he hp hlen;go_wp2;go_ret;exact HF.out
     |cons c post=>
      have hz:(seg.length:Int)<(l.length:Int):=by simp at hlen;omega
      have HD:=aim (aa9 he ht.pt (hp c rfl));clear hb1 hbk ho ht he hp hlen;go_wp2;go_ret;exact ⟨HB1.out, .inr ⟨rfl,HD.out⟩⟩
    ·have HB1:=aim (HB.out.trans (hb1.mono HB.out.size))
     have HD:=aim (afJ hbad);clear hb1 hbad;go_wp2;go_ret;exact ⟨HB1.out, .inr ⟨rfl,HD.out⟩⟩
 ·have HD:=aim (afI (l:=l) h30)
  go_enter Tryz.func73,Tryz.ntmps73
  go_wp2;go_ret;exact ⟨Below.refl _ _, .inr ⟨rfl,HD.out⟩⟩
theorem iw (v:Value) (l:List It) (w:World) (hr:RowIt w v l) (hz:aa7 l) (htab:Tab w):
  Calls Tryz.prog 28 #[v] w fun e w'=>e= .returned (.bool (dO l))∧Below w.heap.size w w':=by
 have HC:=aim (go v l w hr hz htab);obtain ⟨ao,cap,rfl,h1,h2,h3⟩:=hr;clear h3 hz
 go_enter Tryz.func28,Tryz.ntmps28
 go_wp2_with fail;refine HC.out.mono ?_;rintro e w1 ⟨hb1,⟨N,vv,qs,rfl,hok,-⟩|⟨rfl,hno⟩⟩
 ·have HOK:=aim hok;have HB:=aim hb1
  clear hok hb1;go_wp2;go_ret;exact ⟨fE HOK.out.symm,HB.out⟩
 ·have HOK:=aim hno;have HB:=aim hb1
  clear hno hb1;go_wp2;go_ret;exact ⟨fE HOK.out.symm,HB.out⟩
def oz (L:List Int):List Value:=L.map fun n=>Value.int .i64 n
theorem jF (L:List Int):(oz L).length=L.length:=by simp [oz]
theorem ir (L:List Int) (n:Int):oz (L++[n])=oz L++[.int .i64 n]:=by simp [oz]
def ahY (l:List It) (w:World) (e:Ending) (w':World):Prop:=
 ∃(v:Value) (d:Int) (L:List Int),e= .returned (.tuple #[v, .int .i64 d])∧w'.ownsRow w.heap.size 3 1 v L.length (oz L)∧Below w.heap.size w w'∧((bn 0 l=some d∧L=ew 0 l)∨(bn 0 l=none∧d= -1))
theorem aaJ {l:List It} {k:Nat} {d:Int} (hk:k<l.length) (h:bn 0 (l.take k)=some d):bn 0 (l.take (k+1))=if 0≤ef d l[k]∧ef d l[k]≤4 then some (ef d l[k]) else none:=by
 rw [List.take_succ_eq_append_getElem hk,jm,h];rfl
theorem rz {l:List It} {k:Nat} (h:bn 0 (l.take k)=none):bn 0 l=none:=by
 have:bn 0 (l.take k++l.drop k)=none:=by rw [jm,h];rfl
 rwa [List.take_append_drop] at this
theorem aaK {l:List It} {k:Nat} {d:Int} (hk:k<l.length) (h:bn 0 (l.take k)=some d):ew 0 (l.take (k+1))=ew 0 (l.take k)++[fW d l[k]]:=by
 rw [List.take_succ_eq_append_getElem hk,pY,lA _ _ _ h];rfl
theorem ku (v:Value) (l:List It) (w:World) (hr:RowIt w v l) (hl:l.length≤1048576):
  Calls Tryz.prog 66 #[v] w (ahY l w):=by
 obtain ⟨i0,hi,hz0,hz1,hz2⟩:=info_parts adZ;obtain ⟨ao,cap,rfl,h1,h2,h3⟩:=hr;unfold maxLen at h2;have H3:=aim h3;clear h3
 go_enter Tryz.func66,Tryz.ntmps66
 go_wp2
 go_loopw [4,5,6] (fun out dp i wr=> ∃(k:Nat) (d:Int),k≤l.length∧i= .int .i64 (k:Int)∧dp= .int .i64 d∧0≤d∧d≤4∧bn 0 (l.take k)=some d∧wr.ownsRow w.heap.size 3 1 out k (oz (ew 0 (l.take k)))∧Below w.heap.size w wr) (fun _ _ i _=>l.length-(intOf i).toNat)
 case atStart=>exact ⟨0,0,air _,rfl,rfl,by omega,by omega,rfl,World.ownsRow_lit _ _ 0 (ain _) (by unfold maxLen;omega) rfl,(Below.refl _ _).alloc (ain _) _⟩
 case round=>
  obtain ⟨k,d,hk,rfl,rfl,hd0,hd4,hn,hown,hb⟩:=hrel;have HB:=aim hb;have HN:=aim hn;have hs0:=hb.size;clear hb hn
  by_cases hlt:k<l.length
  ·obtain ⟨b,o,rfl,hbl,cc⟩:=H3.out.resolve_left (by rintro rfl;simp at hlt)
   obtain ⟨u,hu⟩:=cc k hlt;have d0:=(hu.mono hbl HB.out).1;have HK:=aim (aaJ hlt HN.out);have HL:=aim (aaK hlt HN.out);clear cc hu;generalize l[k]=it at d0 HK HL
   have hkc:it.1=5∨it.1=4∨(it.1≠4∧it.1≠5):=by omega
   have hD: ∀s:Int,fW d it=s→ew 0 (l.take (k+1))=ew 0 (l.take k)++[s]:=fun s h=>by rw [HL.out,h]
   have HD:=aim hD;clear hD
   rcases hkc with h5|h4|⟨h4,h5⟩
   ·have e5:(it.1==5)=true:=by rw [h5];rfl
    have e4:(it.1==4)=false:=by rw [h5];rfl
    have HS:=aim (HD.out (d-1) (by unfold fW;rw [if_pos h5]))
    have hdn:ef d it=d-1:=by unfold ef fW;rw [if_neg (by omega),if_pos h5]
    rw [hdn] at HK;clear h5 hdn;generalize it.1=kk at d0 e5 e4
    by_cases hin:0≤d-1
    ·have HKN:=aim (show bn 0 (l.take (k+1))=some (d-1) by rw [HK.out,if_pos (by omega)])
     have HI:=aim (show inI (d-1) 0 4=true by simp [inI];omega)
     go_wp2_with (at_builtin;refine wpList_append_own _ rfl _ _ 87 rfl w.heap.size 3 i0 (.int .i64 0) 1 8 Tryz.underlying87 hi hz0 hz1 hz2 rfl (by decide) _ _ _ rfl (hown.alloc _) ⟨wr.heap.size,0,none⟩ 1 1 [.int .i64 (d-1)] rfl rfl (World.news_of_block (cs:= #[.int .i64 (d-1)]) (t:=3) (fr:=(0,0)) (heap_alloc_new wr _)) (by simp [Value.oneCell']) (by unfold maxLen;omega) (by omega) (by simp;omega) ?_;intro v' w2 hown' hgrow hnil;have HB2:=aim ((HB.out.alloc HB.out.size _).grown hgrow (by have:=HB.out.size;simp;omega) (fun q hq=>(hown.lt q hq).1));have HO2:=aim hown';have c0:=(HB2.out.cell (p:=⟨b,_,none⟩) hbl).trans ((HB.out.cell (p:=⟨b,_,none⟩) hbl).symm.trans d0);clear hown' hgrow hnil)
     refine (eh _ _ _ _).mono ?_;rintro e w' ⟨rfl,rfl⟩;rw [HI.out];go_wp2;go_roundw
     case rel=>exact ⟨k+1,d-1,by omega,by go_num,rfl,by omega,by omega,HKN.out,by rw [HS.out,ir];exact HO2.out,HB2.out⟩
     case measure=>simp [intOf];omega
    ·have HKN:=aim (rz (l:=l) (k:=k+1) (by rw [HK.out,if_neg (by omega)]))
     have HI:=aim (show inI (d-1) 0 4=false by simp [inI];omega)
     go_wp2_with (at_builtin;refine wpList_append_own _ rfl _ _ 87 rfl w.heap.size 3 i0 (.int .i64 0) 1 8 Tryz.underlying87 hi hz0 hz1 hz2 rfl (by decide) _ _ _ rfl (hown.alloc _) ⟨wr.heap.size,0,none⟩ 1 1 [.int .i64 (d-1)] rfl rfl (World.news_of_block (cs:= #[.int .i64 (d-1)]) (t:=3) (fr:=(0,0)) (heap_alloc_new wr _)) (by simp [Value.oneCell']) (by unfold maxLen;omega) (by omega) (by simp;omega) ?_;intro v' w2 hown' hgrow hnil;have HB2:=aim ((HB.out.alloc HB.out.size _).grown hgrow (by have:=HB.out.size;simp;omega) (fun q hq=>(hown.lt q hq).1));have HO2:=aim hown';have c0:=(HB2.out.cell (p:=⟨b,_,none⟩) hbl).trans ((HB.out.cell (p:=⟨b,_,none⟩) hbl).symm.trans d0);clear hown' hgrow hnil)
     refine (eh _ _ _ _).mono ?_;rintro e w' ⟨rfl,rfl⟩;rw [HI.out];have HLN:=aim (show (ew 0 (l.take (k+1))).length=k+1 by rw [cU,List.length_take];omega);go_wp2;exact bodyPost_ret (v:= .tuple #[v', .int .i64 (-1)]) (by simp [results,Tryz.results66,go_sem]) rfl ⟨_,_,ew 0 (l.take (k+1)),rfl,by rw [HLN.out,HS.out,ir];exact HO2.out,HB2.out, .inr ⟨HKN.out,rfl⟩⟩
   ·have e5:(it.1==5)=false:=by rw [h4];rfl
    have e4:(it.1==4)=true:=by rw [h4];rfl
    have HS:=aim (HD.out d (by unfold fW;rw [if_neg (by omega)]))
    have hdn:ef d it=d+1:=by unfold ef fW;rw [if_pos h4,if_neg (by omega)]
    rw [hdn] at HK;clear h4 hdn;generalize it.1=kk at d0 e5 e4
    by_cases hin:d+1≤4
    ·have HKN:=aim (show bn 0 (l.take (k+1))=some (d+1) by rw [HK.out,if_pos (by omega)])
     have HI:=aim (show inI (d+1) 0 4=true by simp [inI];omega)
     go_wp2_with (at_builtin;refine wpList_append_own _ rfl _ _ 87 rfl w.heap.size 3 i0 (.int .i64 0) 1 8 Tryz.underlying87 hi hz0 hz1 hz2 rfl (by decide) _ _ _ rfl (hown.alloc _) ⟨wr.heap.size,0,none⟩ 1 1 [.int .i64 d] rfl rfl (World.news_of_block (cs:= #[.int .i64 d]) (t:=3) (fr:=(0,0)) (heap_alloc_new wr _)) (by simp [Value.oneCell']) (by unfold maxLen;omega) (by omega) (by simp;omega) ?_;intro v' w2 hown' hgrow hnil;have HB2:=aim ((HB.out.alloc HB.out.size _).grown hgrow (by have:=HB.out.size;simp;omega) (fun q hq=>(hown.lt q hq).1));have HO2:=aim hown';have c0:=(HB2.out.cell (p:=⟨b,_,none⟩) hbl).trans ((HB.out.cell (p:=⟨b,_,none⟩) hbl).symm.trans d0);clear hown' hgrow hnil)
     refine (eh _ _ _ _).mono ?_;rintro e w' ⟨rfl,rfl⟩;rw [HI.out];go_wp2;go_roundw
     case rel=>exact ⟨k+1,d+1,by omega,by go_num,rfl,by omega,by omega,HKN.out,by rw [HS.out,ir];exact HO2.out,HB2.out⟩
     case measure=>simp [intOf];omega
    ·have HKN:=aim (rz (l:=l) (k:=k+1) (by rw [HK.out,if_neg (by omega)]))
     have HI:=aim (show inI (d+1) 0 4=false by simp [inI];omega)
     go_wp2_with (at_builtin;refine wpList_append_own _ rfl _ _ 87 rfl w.heap.size 3 i0 (.int .i64 0) 1 8 Tryz.underlying87 hi hz0 hz1 hz2 rfl (by decide) _ _ _ rfl (hown.alloc _) ⟨wr.heap.size,0,none⟩ 1 1 [.int .i64 d] rfl rfl (World.news_of_block (cs:= #[.int .i64 d]) (t:=3) (fr:=(0,0)) (heap_alloc_new wr _)) (by simp [Value.oneCell']) (by unfold maxLen;omega) (by omega) (by simp;omega) ?_;intro v' w2 hown' hgrow hnil;have HB2:=aim ((HB.out.alloc HB.out.size _).grown hgrow (by have:=HB.out.size;simp;omega) (fun q hq=>(hown.lt q hq).1));have HO2:=aim hown';have c0:=(HB2.out.cell (p:=⟨b,_,none⟩) hbl).trans ((HB.out.cell (p:=⟨b,_,none⟩) hbl).symm.trans d0);clear hown' hgrow hnil)
     refine (eh _ _ _ _).mono ?_;rintro e w' ⟨rfl,rfl⟩;rw [HI.out];have HLN:=aim (show (ew 0 (l.take (k+1))).length=k+1 by rw [cU,List.length_take];omega);go_wp2;exact bodyPost_ret (v:= .tuple #[v', .int .i64 (-1)]) (by simp [results,Tryz.results66,go_sem]) rfl ⟨_,_,ew 0 (l.take (k+1)),rfl,by rw [HLN.out,HS.out,ir];exact HO2.out,HB2.out, .inr ⟨HKN.out,rfl⟩⟩
   ·have e5:(it.1==5)=false:=beq_eq_false_iff_ne.mpr h5
    have e4:(it.1==4)=false:=beq_eq_false_iff_ne.mpr h4;have HS:=aim (HD.out d (by unfold fW;rw [if_neg h5]))
    have hdn:ef d it=d:=by unfold ef fW;rw [if_neg h4,if_neg h5]
    rw [hdn] at HK;clear h4 h5 hdn;generalize it.1=kk at d0 e5 e4;have HKN:=aim (show bn 0 (l.take (k+1))=some d by rw [HK.out,if_pos (by omega)]);have HI:=aim (show inI d 0 4=true by simp [inI];omega)
    go_wp2_with (at_builtin;refine wpList_append_own _ rfl _ _ 87 rfl w.heap.size 3 i0 (.int .i64 0) 1 8 Tryz.underlying87 hi hz0 hz1 hz2 rfl (by decide) _ _ _ rfl (hown.alloc _) ⟨wr.heap.size,0,none⟩ 1 1 [.int .i64 d] rfl rfl (World.news_of_block (cs:= #[.int .i64 d]) (t:=3) (fr:=(0,0)) (heap_alloc_new wr _)) (by simp [Value.oneCell']) (by unfold maxLen;omega) (by omega) (by simp;omega) ?_;intro v' w2 hown' hgrow hnil;have HB2:=aim ((HB.out.alloc HB.out.size _).grown hgrow (by have:=HB.out.size;simp;omega) (fun q hq=>(hown.lt q hq).1));have HO2:=aim hown';have c0:=(HB2.out.cell (p:=⟨b,_,none⟩) hbl).trans ((HB.out.cell (p:=⟨b,_,none⟩) hbl).symm.trans d0);clear hown' hgrow hnil)
    refine (eh _ _ _ _).mono ?_;rintro e w' ⟨rfl,rfl⟩;rw [HI.out];go_wp2;go_roundw
    case rel=>exact ⟨k+1,d,by omega,by go_num,rfl,by omega,by omega,HKN.out,by rw [HS.out,ir];exact HO2.out,HB2.out⟩
    case measure=>simp [intOf];omega
  ·obtain rfl:k=l.length:=by omega
   have HNL:=aim (show bn 0 l=some d by have:=HN.out;rwa [List.take_of_length_le (ain _)] at this);rw [List.take_of_length_le (ain _)] at hown;obtain ⟨a9,c9,rfl⟩:=ai hown;have HO:=aim hown;clear hown;go_wp2;exact bodyPost_ret (v:= .tuple #[.slice a9 l.length c9, .int .i64 d]) (by simp [results,Tryz.results66,go_sem]) rfl ⟨_,_,ew 0 l,rfl,by rw [cU];exact HO.out,HB.out, .inl ⟨HNL.out,rfl⟩⟩
theorem sX {l:List It} {k:Nat} (hk:k<l.length) (h:aM l[k]=false):dO l=false:=by
 rw [Bool.eq_false_iff];intro hh;have:=((bf l).mp hh).2.1;rw [List.all_eq_true] at this;have:=this _ (List.getElem_mem hk)
 rw [h] at this;cases this
theorem ft (v:Value) (l:List It) (w:World) (hr:RowIt w v l) (hz:dZ l) (hl:l.length≤1048576):
  Calls Tryz.prog 65 #[v] w fun e w'=>e= .returned (.bool (dO l))∧Below w.heap.size w w':=by
 have HR:=aim hr;obtain ⟨ao,cap,rfl,h1,h2,h3⟩:=hr;unfold maxLen at h2;have H3:=aim h3;have HZ:=aim hz;clear h3 hz
 go_enter Tryz.func65,Tryz.ntmps65
 go_wp2
 go_loopw [3] (fun i wr=> ∃k:Nat,k≤l.length∧i= .int .i64 (k:Int)∧(l.take k).all aM=true∧Below w.heap.size w wr) (fun i _=>l.length-(intOf i).toNat)
 case atStart=>exact ⟨0,air _,rfl,rfl,Below.refl _ _⟩
 case round=>
  obtain ⟨k,hk,rfl,hok,hb⟩:=hrel;have HOK:=aim hok;have HB:=aim hb;clear hok hb
  by_cases hlt:k<l.length
  ·obtain ⟨b,o,rfl,hbl,cc⟩:=H3.out.resolve_left (by rintro rfl;simp at hlt)
   obtain ⟨u,hu⟩:=cc k hlt;obtain ⟨d0,d1,d2,d3,hru⟩:=hu.mono hbl HB.out;obtain ⟨z1,z2,z3,z4⟩:=HZ.out _ (List.getElem_mem hlt);have HI:=aim (bw l[k] u wr hru (by unfold maxLen;omega) z2 z3 (by unfold maxLen;omega));have HT:=aim (show (l.take (k+1)).all aM=((l.take k).all aM&&aM l[k]) by rw [List.take_succ_eq_append_getElem hlt,List.all_append];simp);have HBD:=aim (fun h=>sX hlt h);clear cc hu hru z1 z2 z3 z4;generalize l[k]=it at*;obtain ⟨kk,nn,cc,tt⟩:=it;simp only at d0 d1 d2 d3 HI
   cases hcb:aM (kk,nn,cc,tt) with
   |true=>
    have HN:=aim (show (l.take (k+1)).all aM=true by rw [HT.out,HOK.out,hcb];rfl);go_wp2_with fail;refine HI.out.mono ?_;rintro e w1 ⟨rfl,hb1⟩;have HB1:=aim (HB.out.trans (hb1.mono HB.out.size));clear hb1;rw [hcb];go_wp2;go_roundw
    case rel=>exact ⟨k+1,by omega,by go_num,HN.out,HB1.out⟩
    case measure=>simp [intOf];omega
   |false=>
    have HN:=aim (HBD.out hcb);go_wp2_with fail;refine HI.out.mono ?_;rintro e w1 ⟨rfl,hb1⟩;have HB1:=aim (HB.out.trans (hb1.mono HB.out.size));clear hb1;rw [hcb];go_wp2;go_ret;exact ⟨fE HN.out.symm,HB1.out⟩
  ·obtain rfl:k=l.length:=by omega
   have HAL:=aim (show l.all aM=true by have:=HOK.out;rwa [List.take_of_length_le (ain _)] at this);go_wp2_with fail;refine (ku _ l _ (HR.out.mono HB.out) hl).mono ?_;rintro e w1 ⟨vv,d,L,rfl,ho,hb1,hn⟩;have HB1:=aim (HB.out.trans (hb1.mono HB.out.size));have HN:=aim hn;clear ho hb1 hn
   by_cases h30:l.length≤30
   ·by_cases hd:d=0
    ·have HD:=aim (show dO l=true by
      rw [bf];refine ⟨h30,HAL.out, ?_⟩
      rcases HN.out with ⟨h,-⟩|⟨-,h⟩
      ·rw [h,hd]
      ·omega)
     subst hd;go_wp2;go_ret;exact ⟨fE HD.out.symm,HB1.out⟩
    ·have HD:=aim (show dO l=false by
      rw [Bool.eq_false_iff];intro hh;have h9:=((bf l).mp hh).2.2
      rcases HN.out with ⟨h,-⟩|⟨h,-⟩
      ·rw [h] at h9;injection h9 with h9;exact hd h9
      ·rw [h] at h9;cases h9)
     have hd0:(d==0)=false:=beq_eq_false_iff_ne.mpr hd;go_wp2;go_ret;exact ⟨fE HD.out.symm,HB1.out⟩
   ·have HD:=aim (show dO l=false by rw [Bool.eq_false_iff];intro hh;exact h30 ((bf l).mp hh).1)
    go_wp2;go_ret;exact ⟨fE HD.out.symm,HB1.out⟩
def agF (L:List ByteArray):Prop:= ∀t∈L,t.size≤maxLen
theorem mv (L:List ByteArray) (k:Nat) (h:k<L.length):eM L k=L[k]:=by simp [eM,List.getElem?_eq_getElem h]
theorem xQ (t:ByteArray) (n:Nat) (h:n+t.size+1≤20000):(aT t&& !eH t.data.toList 10)=aI t.data.toList:=by
 rw [jr,aT]
 have:decide (t.size≤20000)=true:=by simp;omega
 rw [this,Bool.true_and]
def rR (L:List ByteArray) (e:Ending):Prop:=e= .returned (.tuple #[.string (gR L), .bool (f9 L)])
theorem oc (L:List ByteArray) (k:Nat) (hk:k<L.length) (h:jP L k=false):rR L (.returned (.tuple #[.string ⟨#[]⟩, .bool false])):=by
 have hb:=yO L k hk h
 have hj:gR L=⟨#[]⟩:=by rw [gR,hb];rfl
 rw [rR,hb,hj]
theorem xR (L:List ByteArray) (h: ∀j,j<L.length→jP L j=true):rR L (.returned (.tuple #[.string (b8 L L.length), .bool true])):=by
 have hb:=oI L h
 have hj:gR L=b8 L L.length:=by rw [gR,hb];rfl
 rw [rR,hb,hj]
theorem pU (v:Value) (L:List ByteArray) (w:World) (h:RowOf w v (gH L)) (hz:agF L):
  Calls Tryz.prog 67 #[v] w fun e w'=>rR L e∧w=w':=by
 obtain ⟨ao,cap,rfl,h1,h2,h3⟩:=h;simp only [eN] at h1⊢;unfold maxLen at h2;have H3:=aim h3;clear h3;have HZ:=aim hz;clear hz
 go_enter Tryz.func67,Tryz.ntmps67
 go_wp2
 go_loop [4,5] (fun o i=> ∃k:Nat,k≤L.length∧i= .int .i64 k∧o= .string (b8 L k)∧(∀j,j<k→jP L j=true)) (fun _ i=>L.length-(intOf i).toNat)
 case atStart=>exact ⟨0,air _,rfl,rfl,fun j hj=>by omega⟩
 case round=>
  obtain ⟨k,hk,rfl,rfl,hok⟩:=hrel;have HK:=aim hok;have hacc:=aeP L k hok;clear hok
  by_cases hlt:k<L.length
  ·obtain ⟨b,o,hA,-,cc⟩:=H3.out.resolve_left (by intro h;have h':=congrArg List.length h;rw [eN] at h';simp only [List.length_nil] at h';omega)
   subst hA
   obtain ⟨t,ht⟩: ∃t,L[k]=t:=⟨_,rfl⟩
   have d1:=cc k (.string t) (by simp [gH,hlt,ht])
   have hts:t.size≤maxLen:=by rw [←ht];exact HZ.out _ (List.getElem_mem _)
   have HT:=aim (show eM L k=t by rw [mv L k hlt,ht]);have hts':=hts;unfold maxLen at hts';clear cc ht;go_wp2_with fail;refine (aR t _ hts).mono ?_;rintro e w' ⟨rfl,rfl⟩
   by_cases hv:aT t=true
   ·rw [hv]
    have HV:=aim hv;clear hv;go_wp2_with fail;refine (fc t 10 _ hts (by omega) (by omega)).mono ?_;rintro e w' ⟨rfl,rfl⟩
    by_cases hh:eH t.data.toList 10=true
    ·rw [hh]
     have HO:=aim (show jP L k=false by
      simp only [jP,HT.out,jr,hh];simp)
     clear hh;go_wp2;go_ret2;exact ⟨oc L k hlt HO.out,rfl⟩
    ·rw [Bool.eq_false_iff.mpr hh]
     have h20:t.size≤20000:=by have:=HV.out;simp only [aT,Bool.and_eq_true,decide_eq_true_eq] at this;exact this.1
     have HP:=aim (show aI t.data.toList=true by
      have hv:=HV.out;simp only [aT,Bool.and_eq_true] at hv
      rw [jr,hv.2,Bool.eq_false_iff.mpr hh];rfl)
     clear hh
     by_cases hroom:(b8 L k).size+t.size+1≤20000
     ·have HO:=aim (show jP L k=true by
       rw [jP,HT.out,HP.out];simp;omega)
      have HA:=aim (show b8 L (k+1)=b8 L k++t++⟨#[10]⟩ by show b8 L k++eM L k++_=_;rw [HT.out]);go_wp2
      go_round
      case rel=>exact ⟨k+1,by omega,by go_num,by rw [HA.out],fun j hj=>by
       by_cases hjk:j=k
       ·rw [hjk];exact HO.out
       ·exact HK.out j (by omega)⟩
      case measure=>simp [intOf];omega
     ·have HO:=aim (show jP L k=false by
       rw [jP,HT.out,HP.out];simp;omega)
      go_wp2;go_ret2;exact ⟨oc L k hlt HO.out,rfl⟩
   ·rw [Bool.eq_false_iff.mpr hv]
    have HO:=aim (show jP L k=false by
     rw [jP,HT.out]
     by_cases hroom:(b8 L k).size+t.size+1≤20000
     ·rw [←xQ t _ hroom,Bool.eq_false_iff.mpr hv];rfl
     ·simp only [hroom,decide_false,Bool.and_false])
    clear hv;go_wp2;go_ret2;exact ⟨oc L k hlt HO.out,rfl⟩
  ·obtain rfl:k=L.length:=by omega
   go_wp2;go_ret2;exact ⟨xR L HK.out,rfl⟩
end Go.Proofs.YthijkjnngfnfdaaGreatDoor
