/-
  Part of the proof of FnReadDocument.
-/
import Derived.Test.YtegdjjjpoahamaaGreatDoorZz
import Derived.Test.YtegdjjjpoahamaaGreatDoorShelf
import Derived.WalkKit
import Derived.WalkSpells
import Derived.Lib.Hide
import Derived.IntWalk
import Derived.BigQuiet
import Derived.Deep.QuietTactic
import Derived.Below
import Derived.RegionTactic
import Derived.ChangeAlike
import Derived.BigRegion
import Derived.Lib.Bytealg
import Derived.Shelf.Strings.Search1
import Derived.Lib.ItoaNum
import Derived.Lib.ItoaLen
import Derived.Lib.ItoaMem
import Derived.Lib.TrimByte
import Derived.Lib.AppendIntMem
import Derived.Deep.RegionHeld3
import Derived.Laws.BytesArg
set_option linter.unusedVariables false
set_option maxHeartbeats 8000000
set_option maxRecDepth 100000
namespace Go.Proofs.YtegdjjjpoahamaaGreatDoor
def vB (t b:Int):Bool:=decide (-1000000000≤t)&&decide (t≤1000000000)&&decide (1≤b)&&decide (b≤1000000)&&((Int.gcd t b:Nat)==1)
def fP (t b:Int):Bool:=vB (t.tdiv (Int.gcd t b:Nat)) (b.tdiv (Int.gcd t b:Nat))
def mkT (t b:Int):Int:=if fP t b=true then t.tdiv (Int.gcd t b:Nat) else 0
def mkB (t b:Int):Int:=if fP t b=true then b.tdiv (Int.gcd t b:Nat) else 0
theorem gS (t b:Int):vB t b=true↔ -1000000000≤t∧t≤1000000000∧1≤b∧b≤1000000∧Int.gcd t b=1:=by
 simp [vB,and_assoc]
theorem nH (t b:Int) (hb:1≤b):1≤Int.gcd t b:=by
 have:0<Int.gcd t b:=Int.gcd_pos_of_ne_zero_right t (by omega)
 omega
theorem nI {q q' p:Int} (h:q∣p*q') (hg:Int.gcd p q=1):q∣q':=by
 rw [←Int.natAbs_dvd_natAbs] at h⊢;rw [Int.natAbs_mul] at h;exact Nat.Coprime.dvd_of_dvd_mul_left (Nat.Coprime.symm hg) h
theorem nJ {p q p' q':Int} (h:p*q'=p'*q) (hg:Int.gcd p q=1) (Gu:Int.gcd p' q'=1) (hq:1≤q) (K0:1≤q'):p=p'∧q=q':=by
 have d1:q∣q':=by
  have:q∣p*q':=⟨p',by rw [h,Int.mul_comm]⟩;exact nI this hg
 have d2:q'∣q:=by
  have:q'∣p'*q:=⟨p,by rw [←h,Int.mul_comm]⟩;exact nI this Gu
 have e:q=q':=by
  have l1:=Int.le_of_dvd (by omega) d1;have l2:=Int.le_of_dvd (by omega) d2
  omega
 subst e;exact ⟨Int.eq_of_mul_eq_mul_right (by omega) h,rfl⟩
theorem sv (t b:Int) (hb:1≤b):t=t.tdiv (Int.gcd t b:Nat)*(Int.gcd t b:Nat)∧b=b.tdiv (Int.gcd t b:Nat)*(Int.gcd t b:Nat)∧Int.gcd (t.tdiv (Int.gcd t b:Nat)) (b.tdiv (Int.gcd t b:Nat))=1∧1≤b.tdiv (Int.gcd t b:Nat):=by
 have hg:=nH t b hb;have h1:((Int.gcd t b:Nat):Int)∣t:=Int.gcd_dvd_left _ _;have h2:((Int.gcd t b:Nat):Int)∣b:=Int.gcd_dvd_right _ _;have e1:=(Int.tdiv_mul_cancel h1).symm;have e2:=(Int.tdiv_mul_cancel h2).symm;refine ⟨e1,e2, ?_, ?_⟩
 ·rw [Int.tdiv_eq_ediv_of_dvd h1,Int.tdiv_eq_ediv_of_dvd h2]
  exact Int.gcd_ediv_gcd_ediv_gcd (by omega)
 ·by_cases hx:1≤b.tdiv (Int.gcd t b:Nat)
  ·exact hx
  ·have:b.tdiv (Int.gcd t b:Nat)*(Int.gcd t b:Nat)≤0:=Int.mul_nonpos_of_nonpos_of_nonneg (by omega) (by omega)
   omega
theorem sw {t b:Int} (hb:1≤b) (h:fP t b=true):vB (mkT t b) (mkB t b)=true∧mkT t b*b=t*mkB t b:=by
 obtain ⟨e1,e2,e3,e4⟩:=sv t b hb;simp only [mkT,mkB,h,if_true];refine ⟨h, ?_⟩;generalize t.tdiv (Int.gcd t b:Nat)=p at*;generalize b.tdiv (Int.gcd t b:Nat)=q at*;generalize ((Int.gcd t b:Nat):Int)=g at*;rw [e1,e2];grind
theorem xH {t b p q:Int} (hb:1≤b) (hv:vB p q=true) (h:p*b=t*q):fP t b=true∧mkT t b=p∧mkB t b=q:=by
 obtain ⟨e1,e2,e3,e4⟩:=sv t b hb;obtain ⟨v1,v2,v3,v4,v5⟩:=(gS p q).mp hv;have hg:=nH t b hb
 have key:p*b.tdiv (Int.gcd t b:Nat)=t.tdiv (Int.gcd t b:Nat)*q:=by
  generalize t.tdiv (Int.gcd t b:Nat)=x at*;generalize b.tdiv (Int.gcd t b:Nat)=y at*
  have Gu:((Int.gcd t b:Nat):Int)≠0:=by omega
  generalize ((Int.gcd t b:Nat):Int)=g at*;refine Int.eq_of_mul_eq_mul_right Gu ?_;rw [e1,e2] at h
  grind
 obtain ⟨a1,a2⟩:=nJ key v5 e3 v3 e4
 have ok:fP t b=true:=by unfold fP;rw [←a1,←a2];exact hv
 exact ⟨ok,by simp [mkT,ok,a1],by simp [mkB,ok,a2]⟩
theorem nK {t b:Int} (h:fP t b=false):mkT t b=0∧mkB t b=0:=by simp [mkT,mkB,h]
open Go.RowKit
theorem li {k:IntKind} {a b:Int} (h:a=b):Ending.returned (.int k a)= .returned (.int k b):=by rw [h]
theorem eU {a b:Bool} (h:a=b):Ending.returned (.bool a)= .returned (.bool b):=by rw [h]
theorem sy (a b:Nat) (w:World) (ha:a<4611686018427387904) (hb:b<4611686018427387904):
  Calls Tryz.prog 258 #[.int .i64 a, .int .i64 b] w fun e w'=>e= .returned (.int .i64 (Nat.gcd a b:Nat))∧ ∃n,w'=w.drewN n:=by
 go_enter Tryz.func258,Tryz.ntmps258
 go_wp2
 go_loopw [0,1] (fun u v wr=> ∃x y:Nat,u= .int .i64 x∧v= .int .i64 y∧x<4611686018427387904∧y<4611686018427387904∧Nat.gcd x y=Nat.gcd a b∧ ∃n,wr=w.drewN n) (fun _ v _=>(intOf v).toNat)
 case atStart=>exact ⟨a,b,rfl,rfl,ha,hb,rfl,0,rfl⟩
 case round=>
  obtain ⟨x,y,rfl,rfl,hx,hy,hg,n,rfl⟩:=hrel;have HG:=agC hg;clear hg
  by_cases h0:y=0
  ·subst h0
   go_wp2;go_ret;exact ⟨li (by rw [←HG.out,Nat.gcd_zero_right]),n,rfl⟩
  ·have At:((y:Int) !=0)=true:=by simp;omega
   have Lo:((y:Int)==0)=false:=by simp;omega
   have e1:(x:Int).tmod y=((x % y:Nat):Int):=by rw [Int.tmod_eq_emod_of_nonneg (by omega),Int.natCast_emod]
   have hm:x % y<y:=Nat.mod_lt _ (by omega)
   have Lp:Nat.gcd y (x % y)=Nat.gcd x y:=by rw [Nat.gcd_comm x y,Nat.gcd_rec y x,Nat.gcd_comm]
   have HM:=agC Lp;clear Lp;go_wp2
   go_quiet (fail)
   go_wp2;go_roundw
   case rel=>exact ⟨y,x % y,rfl,by first|rfl|(rw [←e1]),hy,by omega,by rw [HM.out,HG.out],n+nq,by rw [World.drewN_drewN]⟩
   case measure=>simp [intOf];omega
theorem nL (a b:Int) (w:World) (ha:a.natAbs<4611686018427387904) (hb:b.natAbs<4611686018427387904):
  Calls Tryz.prog 231 #[.int .i64 a, .int .i64 b] w fun e w'=>e= .returned (.int .i64 (Int.gcd a b:Nat))∧w=w':=by
 go_enter Tryz.func231,Tryz.ntmps231
 go_wp2
 go_loop [0,1,5] (fun u v _=> ∃x y:Int,u= .int .i64 x∧v= .int .i64 y∧x.natAbs<4611686018427387904∧y.natAbs<4611686018427387904∧Int.gcd x y=Int.gcd a b) (fun _ v _=>(intOf v).natAbs)
 case atStart=>exact ⟨a,b,rfl,rfl,ha,hb,rfl⟩
 case round=>
  obtain ⟨x,y,rfl,rfl,hx,hy,hg⟩:=hrel;have HG:=agC hg;clear hg
  have DH: -4611686018427387904≤x:=by omega
  have Cw:x≤4611686018427387904:=by omega
  by_cases h0:y=0
  ·subst h0
   have Gv:Int.gcd x 0=x.natAbs:=by simp [Int.gcd]
   have HX:=agC Gv;clear Gv
   by_cases hs:0≤x
   ·go_wp2
    go_ret;exact ⟨li (by rw [←HG.out,HX.out];omega),rfl⟩
   ·go_wp2
    go_ret;exact ⟨li (by rw [←HG.out,HX.out];omega),rfl⟩
  ·have At:(y !=0)=true:=by simp;omega
   have Lo:(y==0)=false:=by simp;omega
   have hm:(x.tmod y).natAbs<y.natAbs:=by rw [Int.natAbs_tmod];exact Nat.mod_lt _ (by omega)
   have Lp:Int.gcd y (x.tmod y)=Int.gcd x y:=by
    unfold Int.gcd;rw [Int.natAbs_tmod,Nat.gcd_comm x.natAbs,Nat.gcd_rec y.natAbs x.natAbs,Nat.gcd_comm]
   have HM:=agC Lp;clear Lp;have ID:=agC hm;clear hm;go_wp2
   go_round
   case rel=>exact ⟨y,x.tmod y,rfl,rfl,hy,by have:=ID.out;omega,by rw [HM.out,HG.out]⟩
   case measure=>simp only [intOf];exact ID.out
theorem nM (n:Int) (w:World) (h0: -4611686018427387904≤n) (h1:n≤4611686018427387904):
  Calls Tryz.prog 259 #[.int .i64 n] w fun e w'=>e= .returned (.int .i64 (n.natAbs:Nat))∧w=w':=by
 by_cases h:n<0
 ·go_enter Tryz.func259,Tryz.ntmps259
  go_wp2;go_ret;exact ⟨li (by omega),rfl⟩
 ·go_enter Tryz.func259,Tryz.ntmps259
  go_wp2;go_ret;exact ⟨li (by omega),rfl⟩
def inF (n lo hi:Int):Bool:=decide (lo≤n)&&decide (n≤hi)
theorem mb (n lo hi:Int) (w:World):
  Calls Tryz.prog 85 #[.int .i64 n, .int .i64 lo, .int .i64 hi] w fun e w'=>e= .returned (.bool (inF n lo hi))∧w=w':=by
 by_cases a:lo≤n
 ·by_cases b:n≤hi
  ·have hp:inF n lo hi=true:=by simp [inF,a,b]
   rw [hp];clear hp
   go_enter Tryz.func85,Tryz.ntmps85
   go_wp2;go_ret;exact ⟨rfl,rfl⟩
  ·have hp:inF n lo hi=false:=by simp [inF,b]
   rw [hp];clear hp
   go_enter Tryz.func85,Tryz.ntmps85
   go_wp2;go_ret;exact ⟨rfl,rfl⟩
 ·have hp:inF n lo hi=false:=by simp [inF,a]
  rw [hp];clear hp
  go_enter Tryz.func85,Tryz.ntmps85
  go_wp2;go_ret;exact ⟨rfl,rfl⟩
theorem abj {t b:Int} (a1: -1000000000≤t) (a2:t≤1000000000) (a3:1≤b) (a4:b≤1000000):vB t b=(((Int.gcd t b:Nat):Int)==1):=by
 rw [Bool.eq_iff_iff,gS];simp [a1,a2,a3,a4];omega
theorem aeH {t b:Int} (h:inF t (-1000000000) 1000000000=false∨inF b 1 1000000=false):vB t b=false:=by
 rw [Bool.eq_false_iff];intro hv;rw [gS] at hv
 simp [inF] at h;omega
theorem eM (t b:Int) (w:World):
  Calls Tryz.prog 215 #[.agg #[.int .i64 t, .int .i64 b]] w fun e w'=>e= .returned (.bool (vB t b))∧Below w.heap.size w w':=by
 by_cases h1:inF t (-1000000000) 1000000000=true
 ·by_cases h2:inF b 1 1000000=true
  ·have b1:=h1;have b2:=h2
   simp only [inF,Bool.and_eq_true,decide_eq_true_eq] at b1 b2;rw [abj b1.1 b1.2 b2.1 b2.2];obtain ⟨Vd,Ve⟩:=b1;obtain ⟨Vf,Vg⟩:=b2
   go_enter Tryz.func215,Tryz.ntmps215
   go_wp2_with (first
    |(go_at_call 85;refine (mb _ _ _ _).mono ?_;rintro e w' ⟨rfl,rfl⟩)
    |(go_at_call 231;refine (nL _ _ _ (by omega) (by omega)).mono ?_;rintro e w' ⟨rfl,rfl⟩))
   go_ret;exact ⟨rfl,(Below.refl _ _).alloc (agD _) _⟩
  ·have SB:=Bool.eq_false_iff.mpr h2
   rw [aeH (.inr SB)];clear h2
   go_enter Tryz.func215,Tryz.ntmps215
   go_wp2_with (first
    |(go_at_call 85;refine (mb _ _ _ _).mono ?_;rintro e w' ⟨rfl,rfl⟩))
   go_ret;exact ⟨rfl,(Below.refl _ _).alloc (agD _) _⟩
 ·have Oj:=Bool.eq_false_iff.mpr h1
  rw [aeH (.inl Oj)];clear h1
  go_enter Tryz.func215,Tryz.ntmps215
  go_wp2_with (first
   |(go_at_call 85;refine (mb _ _ _ _).mono ?_;rintro e w' ⟨rfl,rfl⟩))
  go_ret;exact ⟨rfl,(Below.refl _ _).alloc (agD _) _⟩
theorem dP {B:Nat} {a w:World} (h:Below B a w) (n:Nat):Below B a (w.drewN n):=h.trans ⟨rfl,rfl,rfl,agD _,fun _ _=>rfl⟩
theorem f6 (t b:Int) (w:World):
  Calls Tryz.prog 251 #[.agg #[.int .i64 t, .int .i64 b]] w fun e w'=>e= .returned (.bool (vB t b))∧Below w.heap.size w w':=by
 by_cases a1: -1000000000≤t
 ·by_cases a2:t≤1000000000
  ·by_cases a3:1≤b
   ·by_cases a4:b≤1000000
    ·rw [abj a1 a2 a3 a4]
     obtain ⟨m,rfl⟩:=agG (show 0≤b by omega);have DV:(Int.gcd t (m:Int):Nat)=Nat.gcd t.natAbs m:=rfl;rw [DV];clear DV
     go_enter Tryz.func251,Tryz.ntmps251
     go_wp2
     go_quiet (first
      |(go_at_call 259;exact Calls.quiet_of_same ((nM _ _ (by omega) (by omega)).mono fun e w' h=>⟨h.1,h.2.symm⟩))
      |(go_at_call 258;exact Calls.quiet_of (sy _ _ _ (by omega) (by omega))))
     go_wp2;go_ret;exact ⟨rfl,dP ((Below.refl _ _).alloc (agD _) _) _⟩
    ·have hv:vB t b=false:=by rw [Bool.eq_false_iff];intro hv;rw [gS] at hv;omega
     rw [hv];clear hv
     have hd:decide (b≤1000000)=false:=by simpa using a4
     go_enter Tryz.func251,Tryz.ntmps251
     go_wp2
     go_quiet (fail)
     go_wp2;go_ret;exact ⟨rfl,dP ((Below.refl _ _).alloc (agD _) _) _⟩
   ·have hv:vB t b=false:=by rw [Bool.eq_false_iff];intro hv;rw [gS] at hv;omega
    rw [hv];clear hv
    have hd:decide (1≤b)=false:=by simpa using a3
    go_enter Tryz.func251,Tryz.ntmps251
    go_wp2
    go_quiet (fail)
    go_wp2;go_ret;exact ⟨rfl,dP ((Below.refl _ _).alloc (agD _) _) _⟩
  ·have hv:vB t b=false:=by rw [Bool.eq_false_iff];intro hv;rw [gS] at hv;omega
   rw [hv];clear hv
   have hd:decide (t≤1000000000)=false:=by simpa using a2
   go_enter Tryz.func251,Tryz.ntmps251
   go_wp2
   go_quiet (fail)
   go_wp2;go_ret;exact ⟨rfl,dP ((Below.refl _ _).alloc (agD _) _) _⟩
 ·have hv:vB t b=false:=by rw [Bool.eq_false_iff];intro hv;rw [gS] at hv;omega
  rw [hv];clear hv
  have hd:decide (-1000000000≤t)=false:=by simpa using a1
  go_enter Tryz.func251,Tryz.ntmps251
  go_wp2
  go_quiet (fail)
  go_wp2;go_ret;exact ⟨rfl,dP ((Below.refl _ _).alloc (agD _) _) _⟩
abbrev fr (t b:Int) (ok:Bool):Ending:= .returned (.tuple #[.agg #[.int .i64 t, .int .i64 b], .bool ok])
theorem afb {t b:Int} (h:fP t b=true):mkT t b=t.tdiv (Int.gcd t b:Nat)∧mkB t b=b.tdiv (Int.gcd t b:Nat):=by simp [mkT,mkB,h]
theorem pE {W w1:World} (hb:Below W.heap.size W w1):(∀b o,b<W.heap.size→w1.cell? ⟨b,o,none⟩=W.cell? ⟨b,o,none⟩)∧(∀b o,b<W.heap.size→w1.frozen? ⟨b,o,none⟩=W.frozen? ⟨b,o,none⟩):=
 ⟨fun b o h=>hb.cell (p:=⟨b,o,none⟩) h,fun b o h=>hb.frozen (p:=⟨b,o,none⟩) h⟩
theorem jF (t:Int) (g:Nat):(t.tdiv g).natAbs≤t.natAbs:=by rw [Int.natAbs_tdiv];exact Nat.div_le_self _ _
theorem sA (t b:Int) (hb:1≤b): ∃g:Nat,1≤g∧g≤b.natAbs∧Hid (Int.gcd t b=g)∧fP t b=vB (t.tdiv g) (b.tdiv g)∧(fP t b=true→mkT t b=t.tdiv g∧mkB t b=b.tdiv g):=
 ⟨Int.gcd t b,nH t b hb,Int.gcd_le_natAbs_right _ (by omega),rfl,rfl,afb⟩
theorem pF (t b:Int) (w:World) (ht:t.natAbs<4611686018427387904) (hb:1≤b) (Aa:b<4611686018427387904):
  Calls Tryz.prog 214 #[.int .i64 t, .int .i64 b] w fun e w'=>e=fr (mkT t b) (mkB t b) (fP t b)∧Below w.heap.size w w':=by
 obtain ⟨g,hg,hg1,HG,If,D3⟩:=sA t b hb
 have hg0:((g:Int)==0)=false:=by simp;omega
 have s1:=jF t g;have s2:=jF b g
 by_cases ho:fP t b=true
 ·obtain ⟨e1,e2⟩:=D3 ho
  have HV:=agC (If.symm.trans ho);rw [ho,e1,e2];clear ho e1 e2 If D3
  go_enter Tryz.func214,Tryz.ntmps214
  go_wp2_with fail;refine (nL _ _ _ ht (by omega)).mono ?_;rintro e w' ⟨rfl,rfl⟩;rw [HG.out];go_wp2
  go_region
  go_wp2_with fail;refine (eM _ _ _).mono ?_;rintro e w1 ⟨rfl,Aa⟩;obtain ⟨hc,hf⟩:=pE Aa
  have hz:w.heap.size+1<w1.heap.size:=by have:=Aa.size;simp at this;omega
  have HB:=agC (dP (((Below.refl _ w).alloc (agD _) _).alloc (by simp) _) 1|>.trans (Aa.mono (by first|(simp;done)|(simp;omega))));clear Aa
  have k0:w1.cell? ⟨w.heap.size,0,none⟩=some (.int .i64 0):=by rw [hc _ _ (by first|(simp;done)|(simp;omega))];simp [go_sem]
  have k1:w1.cell? ⟨w.heap.size,1,none⟩=some (.int .i64 0):=by rw [hc _ _ (by first|(simp;done)|(simp;omega))];simp [go_sem]
  rw [HV.out];go_wp2;exact bodyPost_ret (v:= .tuple #[.agg #[.int .i64 (t.tdiv g), .int .i64 (b.tdiv g)], .bool true]) (by simp [results,Tryz.results214,go_sem,k0,k1]) rfl ⟨rfl,HB.out.setCell (agD _) _|>.setCell (agD _) _⟩
 ·have Gw:=Bool.eq_false_iff.mpr ho
  obtain ⟨e1,e2⟩:=nK Gw;have HV:=agC (If.symm.trans Gw);rw [Gw,e1,e2];clear ho Gw e1 e2 If D3
  go_enter Tryz.func214,Tryz.ntmps214
  go_wp2_with fail;refine (nL _ _ _ ht (by omega)).mono ?_;rintro e w' ⟨rfl,rfl⟩;rw [HG.out];go_wp2
  go_region
  go_wp2_with fail;refine (eM _ _ _).mono ?_;rintro e w1 ⟨rfl,Aa⟩;obtain ⟨hc,hf⟩:=pE Aa
  have hz:w.heap.size+1<w1.heap.size:=by have:=Aa.size;simp at this;omega
  have HB:=agC (dP (((Below.refl _ w).alloc (agD _) _).alloc (by simp) _) 1|>.trans (Aa.mono (by first|(simp;done)|(simp;omega))));clear Aa
  have k0:w1.cell? ⟨w.heap.size,0,none⟩=some (.int .i64 0):=by rw [hc _ _ (by first|(simp;done)|(simp;omega))];simp [go_sem]
  have k1:w1.cell? ⟨w.heap.size,1,none⟩=some (.int .i64 0):=by rw [hc _ _ (by first|(simp;done)|(simp;omega))];simp [go_sem]
  rw [HV.out];go_wp2;exact bodyPost_ret (v:= .tuple #[.agg #[.int .i64 0, .int .i64 0], .bool false]) (by simp [results,Tryz.results214,go_sem,k0,k1]) rfl ⟨rfl,HB.out.setCell (agD _) _|>.setCell (agD _) _⟩
theorem aeI (t b:Int) (w:World) (ht:t.natAbs<4611686018427387904) (hb:1≤b) (Aa:b<4611686018427387904):
  Calls Tryz.prog 258 #[.int .i64 (t.natAbs:Nat), .int .i64 b] w fun e w'=>e= .returned (.int .i64 (Int.gcd t b:Nat))∧ ∃n,w'=w.drewN n:=by
 obtain ⟨m,rfl⟩:=agG (show 0≤b by omega);exact sy t.natAbs m w ht (by omega)
theorem mN (t b:Int) (w:World) (ht:t.natAbs<4611686018427387904) (hb:1≤b) (Aa:b<4611686018427387904):
  Calls Tryz.prog 255 #[.agg #[.int .i64 t, .int .i64 b]] w fun e w'=>e=fr (mkT t b) (mkB t b) (fP t b)∧Below w.heap.size w w':=by
 obtain ⟨g,hg,hg1,HG,If,D3⟩:=sA t b (by omega)
 have hg0:((g:Int)==0)=false:=by simp;omega
 have s1:=jF t g;have s2:=jF b g
 by_cases ho:fP t b=true
 ·obtain ⟨e1,e2⟩:=D3 ho
  have HV:=agC (If.symm.trans ho);rw [ho,e1,e2];clear ho e1 e2 If D3
  go_enter Tryz.func255,Tryz.ntmps255
  go_wp2
  go_quiet (first
   |(go_at_call 259;exact Calls.quiet_of_same ((nM _ _ (by omega) (by omega)).mono fun e w' h=>⟨h.1,h.2.symm⟩))
   |(go_at_call 258;exact Calls.quiet_of (aeI _ _ _ (by omega) (by omega) (by omega))))
  go_wp2;rw [HG.out]
  go_region
  go_wp2_with fail;refine (f6 _ _ _).mono ?_;rintro e w1 ⟨rfl,Aa⟩;obtain ⟨hc,hf⟩:=pE Aa
  have hz:w.heap.size+2<w1.heap.size:=by have:=Aa.size;simp at this;omega
  have HB:=agC (((dP ((((Below.refl _ w).alloc (agD _) _).alloc (by simp) _).alloc (by first|(simp;done)|(simp;omega)) _) nq).drew).trans (Aa.mono (by first|(simp;done)|(simp;omega))));clear Aa
  have k0:w1.cell? ⟨w.heap.size+1,0,none⟩=some (.int .i64 0):=by rw [hc _ _ (by first|(simp;done)|(simp;omega))];simp [go_sem]
  have k1:w1.cell? ⟨w.heap.size+1,1,none⟩=some (.int .i64 0):=by rw [hc _ _ (by first|(simp;done)|(simp;omega))];simp [go_sem]
  rw [HV.out];go_wp2;exact bodyPost_ret (v:= .tuple #[.agg #[.int .i64 (t.tdiv g), .int .i64 (b.tdiv g)], .bool true]) (by simp [results,Tryz.results255,go_sem,k0,k1]) rfl ⟨rfl,HB.out.setCell (by simp) _|>.setCell (by simp) _⟩
 ·have Gw:=Bool.eq_false_iff.mpr ho
  obtain ⟨e1,e2⟩:=nK Gw;have HV:=agC (If.symm.trans Gw);rw [Gw,e1,e2];clear ho Gw e1 e2 If D3
  go_enter Tryz.func255,Tryz.ntmps255
  go_wp2
  go_quiet (first
   |(go_at_call 259;exact Calls.quiet_of_same ((nM _ _ (by omega) (by omega)).mono fun e w' h=>⟨h.1,h.2.symm⟩))
   |(go_at_call 258;exact Calls.quiet_of (aeI _ _ _ (by omega) (by omega) (by omega))))
  go_wp2;rw [HG.out]
  go_region
  go_wp2_with fail;refine (f6 _ _ _).mono ?_;rintro e w1 ⟨rfl,Aa⟩;obtain ⟨hc,hf⟩:=pE Aa
  have hz:w.heap.size+2<w1.heap.size:=by have:=Aa.size;simp at this;omega
  have HB:=agC (((dP ((((Below.refl _ w).alloc (agD _) _).alloc (by simp) _).alloc (by first|(simp;done)|(simp;omega)) _) nq).drew).trans (Aa.mono (by first|(simp;done)|(simp;omega))));clear Aa
  have k0:w1.cell? ⟨w.heap.size+1,0,none⟩=some (.int .i64 0):=by rw [hc _ _ (by first|(simp;done)|(simp;omega))];simp [go_sem]
  have k1:w1.cell? ⟨w.heap.size+1,1,none⟩=some (.int .i64 0):=by rw [hc _ _ (by first|(simp;done)|(simp;omega))];simp [go_sem]
  rw [HV.out];go_wp2;exact bodyPost_ret (v:= .tuple #[.agg #[.int .i64 0, .int .i64 0], .bool false]) (by simp [results,Tryz.results255,go_sem,k0,k1]) rfl ⟨rfl,HB.out.setCell (by simp) _|>.setCell (by simp) _⟩
theorem sB {P:List UInt8→Prop} (h0:P []) (h1: ∀l b,P l→P (l++[b])) (l:List UInt8):P l:=by
 have: ∀r:List UInt8,P r.reverse:=by
  intro r
  induction r with
  |nil=>exact h0
  |cons a t ih=>rw [List.reverse_cons];exact h1 _ _ ih
 have h:=this l.reverse
 rwa [List.reverse_reverse] at h
def isD (b:UInt8):Bool:=decide (48≤b.toNat)&&decide (b.toNat≤57)
def d8 (l:List UInt8):Bool:=l.all isD
def bI (l:List UInt8):Nat:=l.foldl (fun n b=>n*10+(b.toNat-48)) 0
theorem abk:bI []=0:=rfl
theorem eV (l:List UInt8) (b:UInt8):bI (l++[b])=bI l*10+(b.toNat-48):=by simp [bI]
theorem hY (l:List UInt8) (b:UInt8):d8 (l++[b])=(d8 l&&isD b):=by simp [d8]
theorem adC (l:List UInt8):d8 l=true→bI l<10^l.length:=by
 refine sB (P:=fun l=>d8 l=true→bI l<10^l.length) (by simp [bI]) ?_ l;intro l b ih h;rw [hY] at h;simp only [Bool.and_eq_true,isD,decide_eq_true_eq] at h;have:=ih h.1;rw [eV,agE,List.length_singleton,Nat.pow_succ]
 omega
theorem yS {n:Nat} (h:n≤10):10^n≤10000000000:=by
 have:=Nat.pow_le_pow_right (show 0<10 by omega) h;omega
theorem fB (l:List UInt8) (h:d8 l=true) (hl:l.length≤10):bI l<10000000000:=Nat.lt_of_lt_of_le (adC l h) (yS hl)
theorem pG (l:List UInt8) (k:Nat) (h:d8 l=true):d8 (l.take k)=true:=by
 simp only [d8,List.all_eq_true] at h⊢;exact fun x hx=>h x (List.mem_of_mem_take hx)
def dOK (l:List UInt8) (most:Nat):Bool:=decide (1≤l.length)&&decide (l.length≤most)&&d8 l
def dN (l:List UInt8) (most:Nat):Nat:=if dOK l most=true then bI l else 0
def eh:List UInt8→Nat→Nat
 |[],_=>0
 |_::_,0=>0
 |b::l,m+1=>if isD b=true then eh l m+1 else 0
theorem gM (l:List UInt8): ∀m,eh l m≤l.length∧eh l m≤m:=by
 induction l with
 |nil=>intro m;simp [eh]
 |cons b t ih=>
  intro m
  cases m with
  |zero=>simp [eh]
  |succ m=>simp only [eh];split<;>simp [ih m]
theorem eW (l:List UInt8): ∀m,d8 (l.take (eh l m))=true:=by
 induction l with
 |nil=>intro m;simp [eh,d8]
 |cons b t ih=>
  intro m
  cases m with
  |zero=>simp [eh,d8]
  |succ m=>
   simp only [eh];split
   ·rename_i h;have:=ih m;simp only [d8,List.take_succ_cons,List.all_cons,h,Bool.true_and];exact this
   ·simp [d8]
theorem yT (l:List UInt8): ∀m,eh l m=l.length∨eh l m=m∨ ∃b,l[eh l m]? =some b∧isD b=false:=by
 induction l with
 |nil=>intro m;simp [eh]
 |cons b t ih=>
  intro m
  cases m with
  |zero=>simp [eh]
  |succ m=>
   simp only [eh];split
   ·rcases ih m with h|h|⟨x,h1,h2⟩
    ·left;simp [h]
    ·right;left;omega
    ·right;right;exact ⟨x,by simpa using h1,h2⟩
   ·rename_i h;right;right;exact ⟨b,by simp,by simpa using h⟩
theorem eZ {l:List UInt8} {m k:Nat} (h1:k≤l.length) (h2:k≤m) (h3:d8 (l.take k)=true) (h4:k=l.length∨k=m∨ ∃b,l[k]? =some b∧isD b=false):eh l m=k:=by
 have at_of: ∀{l:List UInt8} {i j:Nat},d8 (l.take j)=true→i<j→j≤l.length→ ∃b,l[i]? =some b∧isD b=true:=by
  intro l i j h hi hj;simp only [d8,List.all_eq_true] at h;refine ⟨l[i],List.getElem?_eq_getElem (by omega),h _ ?_⟩;rw [List.mem_take_iff_getElem];exact ⟨i,by omega,rfl⟩
 obtain ⟨g1,g2⟩:=gM l m;have g3:=eW l m;have g4:=yT l m
 rcases Nat.lt_trichotomy (eh l m) k with h|h|h
 ·obtain ⟨b,hb,hd⟩:=at_of h3 h h1
  rcases g4 with g|g|⟨x,hx,EJ⟩
  ·omega
  ·omega
  ·rw [hb] at hx;cases hx;rw [hd] at EJ;cases EJ
 ·exact h
 ·obtain ⟨b,hb,hd⟩:=at_of g3 h g1
  rcases h4 with g|g|⟨x,hx,EJ⟩
  ·omega
  ·omega
  ·rw [hb] at hx;cases hx;rw [hd] at EJ;cases EJ
def fs (v:Bool) (x y:Int):Bool:=v&&fP x y
def opT (v:Bool) (x y:Int):Int:=if v=true then mkT x y else 0
def opB (v:Bool) (x y:Int):Int:=if v=true then mkB x y else 0
theorem cZ (x y:Int):opT true x y=mkT x y∧opB true x y=mkB x y∧fs true x y=fP x y:=by simp [opT,opB,fs]
theorem bQ (x y:Int):opT false x y=0∧opB false x y=0∧fs false x y=false:=by simp [opT,opB,fs]
theorem gN {t b:Int} (h:vB t b=true): -1000000000≤t∧t≤1000000000∧1≤b∧b≤1000000:=by
 rw [gS] at h;omega
theorem abl (l:List UInt8) (c:UInt8): -1≤Lib.indexByte l c∧Lib.indexByte l c<l.length:=by
 induction l with
 |nil=>simp [Lib.indexByte]
 |cons b t ih=>
  simp only [Lib.indexByte]
  split
  ·simp only [List.length_cons];omega
  ·split
   ·simp only [List.length_cons];omega
   ·rename_i h1 h2
    have:Lib.indexByte t c≠ -1:=by simpa using h2
    simp only [List.length_cons];omega
theorem m9 (l:List UInt8) (c:UInt8) (h:c∉l):Lib.indexByte l c= -1:=by
 induction l with
 |nil=>rfl
 |cons b t ih=>
  simp only [List.mem_cons,not_or] at h;simp only [Lib.indexByte];rw [if_neg (by simpa using Ne.symm h.1),if_pos (by simpa using ih h.2)]
theorem abm (l:List UInt8) (c:UInt8): ∀k:Nat,l[k]? =some c→c∉l.take k→Lib.indexByte l c=k:=by
 induction l with
 |nil=>intro k h;simp at h
 |cons b t ih=>
  intro k h hn
  cases k with
  |zero=>
   simp only [List.getElem?_cons_zero,Option.some.injEq] at h
   simp [Lib.indexByte,h]
  |succ k=>
   simp only [List.getElem?_cons_succ] at h;simp only [List.take_succ_cons,List.mem_cons,not_or] at hn;have e:=ih k h hn.2;simp only [Lib.indexByte];rw [if_neg (by simpa using Ne.symm hn.1),e,if_neg (by rw [beq_iff_eq];omega)];omega
theorem abn (l:List UInt8) (c:UInt8): ∀k:Nat,Lib.indexByte l c=k→l[k]? =some c∧c∉l.take k:=by
 induction l with
 |nil=>intro k h;simp only [Lib.indexByte] at h;omega
 |cons b t ih=>
  intro k h;simp only [Lib.indexByte] at h
  split at h
  ·rename_i hb
   obtain rfl:k=0:=by omega
   simp at hb
   simp [hb]
  ·rename_i hb
   split at h
   ·omega
   ·rename_i Ae
    have Aa:=abl t c
    have Ag:Lib.indexByte t c≠ -1:=by simpa using Ae
    cases k with
    |zero=>omega
    |succ k=>
     obtain ⟨h1,h2⟩:=ih k (by omega);simp only [List.getElem?_cons_succ,h1,true_and,List.take_succ_cons,List.mem_cons,not_or];exact ⟨by rintro rfl;simp at hb,h2⟩
theorem pH {l:List UInt8} (h:d8 l=true):(46:UInt8)∉l:=by
 intro hm;simp only [d8,List.all_eq_true] at h;have:=h 46 hm
 simp [isD] at this
def eD (l:List UInt8):List UInt8:=if Lib.indexByte l 46<0 then l else l.take (Lib.indexByte l 46).toNat
def db (l:List UInt8):List UInt8:=if Lib.indexByte l 46<0 then [48] else l.drop ((Lib.indexByte l 46).toNat+1)
def bu (l:List UInt8):Bool:=dOK (eD l) 10&&dOK (db l) 6
def aW (l:List UInt8):Int:=((bI (eD l)*10^(db l).length+bI (db l):Nat):Int)
def aX (l:List UInt8):Int:=((10^(db l).length:Nat):Int)
theorem abo (t b k:Int) (hb:1≤b) (hk:1≤k):fP (t*k) (b*k)=fP t b∧mkT (t*k) (b*k)=mkT t b∧mkB (t*k) (b*k)=mkB t b:=by
 have AJ:1≤b*k:=by have:=Int.mul_pos (show 0<b by omega) (show 0<k by omega);omega
 by_cases h:fP t b=true
 ·obtain ⟨v,e⟩:=sw hb h
  obtain ⟨o,p,q⟩:=xH (t:=t*k) AJ v (by rw [←Int.mul_assoc,e];grind);exact ⟨o.trans h.symm,p,q⟩
 ·have h':=Bool.eq_false_iff.mpr h
  have g:fP (t*k) (b*k)=false:=by
   rw [Bool.eq_false_iff];intro g;obtain ⟨v,e⟩:=sw AJ g;refine h (xH hb v (Int.eq_of_mul_eq_mul_right (show k≠0 by omega) ?_)).1;generalize mkT (t*k) (b*k)=p at*;generalize mkB (t*k) (b*k)=q at*
   grind
  rw [(nK h').1,(nK h').2,(nK g).1,(nK g).2,g,h'];exact ⟨rfl,rfl,rfl⟩
theorem eJ (l:List UInt8) (m:Nat):dOK l m=true↔1≤l.length∧l.length≤m∧d8 l=true:=by
 simp [dOK,and_assoc]
theorem nN {l:List UInt8} {m:Nat} (h:d8 l=true) (hm:l.length≤m):eh l m=l.length:=
 eZ (agD _) hm (by rw [List.take_length];exact h) (.inl rfl)
theorem afc {l:List UInt8} (h:eh l 10=0):bu l=false:=by
 rw [Bool.eq_false_iff];intro hv;simp only [bu,Bool.and_eq_true,eJ] at hv;obtain ⟨⟨h1,h2,h3⟩,-⟩:=hv;unfold eD at h1 h2 h3
 split at h1
 ·rename_i hi
  simp only [hi,if_true] at h2 h3;have:=nN h3 h2;omega
 ·rename_i hi
  simp only [hi,if_false] at h2 h3;have hb:=abl l 46;obtain ⟨k,hk⟩:=agG (show 0≤Lib.indexByte l 46 by omega);rw [hk,Int.toNat_natCast] at h1 h2 h3;have hy:=abn l 46 k hk;rw [List.length_take] at h1 h2;have:eh l 10=k:=eZ (by omega) (by omega) h3 (.inr (.inr ⟨46,hy.1,by decide⟩))
  omega
theorem abp {l:List UInt8} {k:Nat} (h:eh l 10=k) (hk:1≤k) (hp:l[k]? =some 46):eD l=l.take k∧db l=l.drop (k+1)∧dOK (eD l) 10=true:=by
 have ht:=eW l 10;have hl:=gM l 10;rw [h] at ht hl;have e:=abm l 46 k hp (pH ht)
 have e1:eD l=l.take k:=by unfold eD;rw [if_neg (by omega),e];rfl
 have e2:db l=l.drop (k+1):=by unfold db;rw [if_neg (by omega),e];rfl
 refine ⟨e1,e2, ?_⟩;rw [e1,eJ,List.length_take];exact ⟨by omega,by omega,ht⟩
theorem nO {l:List UInt8} {k j:Nat} (h:eh l 10=k) (hk:1≤k) (hp:l[k]? =some 46) (hj:eh (l.drop (k+1)) 7=j) (hb: ¬(1≤j∧j≤6)∨k+1+j≠l.length):bu l=false:=by
 obtain ⟨e1,e2,e3⟩:=abp h hk hp;rw [Bool.eq_false_iff];intro hv;simp only [bu,Bool.and_eq_true,eJ,e2] at hv;obtain ⟨-,g1,g2,g3⟩:=hv;have:=nN g3 (show (l.drop (k+1)).length≤7 by omega);rw [List.length_drop] at*
 have Cs:k<l.length:=by
  by_cases q:k<l.length
  ·exact q
  ·rw [List.getElem?_eq_none (by omega)] at hp;cases hp
 omega
theorem sC {l:List UInt8} {k j:Nat} (h:eh l 10=k) (hk:1≤k) (hp:l[k]? =some 46) (hj:eh (l.drop (k+1)) 7=j) (h1:1≤j) (h6:j≤6) (he:k+1+j=l.length):
  bu l=true∧aW l=((bI (l.take k)*10^j+bI ((l.drop (k+1)).take j):Nat):Int)∧aX l=((10^j:Nat):Int):=by
 obtain ⟨e1,e2,e3⟩:=abp h hk hp
 have Ai:(l.drop (k+1)).length=j:=by rw [List.length_drop];omega
 have ht:=eW (l.drop (k+1)) 7;rw [hj,List.take_of_length_le (by omega)] at ht;refine ⟨?_, ?_, ?_⟩
 ·simp only [bu,e3,Bool.true_and,eJ,e2,Ai];exact ⟨h1,h6,ht⟩
 ·unfold aW;rw [e1,e2,Ai,List.take_of_length_le (show (l.drop (k+1)).length≤j by omega)]
 ·unfold aX;rw [e2,Ai]
theorem uO {l:List UInt8} {k:Nat} (h:eh l 10=k) (hp:l[k]? ≠some 46) (he:k≠l.length):bu l=false:=by
 rw [Bool.eq_false_iff];intro hv;simp only [bu,Bool.and_eq_true,eJ] at hv;obtain ⟨⟨h1,h2,h3⟩,-⟩:=hv;unfold eD at h1 h2 h3
 split at h1
 ·rename_i hi
  simp only [hi,if_true] at h2 h3;have:=nN h3 h2;omega
 ·rename_i hi
  simp only [hi,if_false] at h2 h3;have hb:=abl l 46;obtain ⟨i,hk⟩:=agG (show 0≤Lib.indexByte l 46 by omega);rw [hk,Int.toNat_natCast] at h1 h2 h3;have hy:=abn l 46 i hk;rw [List.length_take] at h1 h2;have:eh l 10=i:=eZ (by omega) (by omega) h3 (.inr (.inr ⟨46,hy.1,by decide⟩));rw [h] at this;subst this;exact hp hy.1
theorem sD {l:List UInt8} {k:Nat} (h:eh l 10=k) (hk:1≤k) (he:k=l.length):
  bu l=true∧aW l=((bI (l.take k):Nat):Int)*10∧aX l=1*10:=by
 have ht:=eW l 10;have hl:=gM l 10;rw [h] at ht hl;rw [List.take_of_length_le (by omega)] at ht⊢;have e:=m9 l 46 (pH ht)
 have e1:eD l=l:=by unfold eD;rw [if_pos (by omega)]
 have e2:db l=[48]:=by unfold db;rw [if_pos (by omega)]
 refine ⟨?_, ?_, ?_⟩
 ·simp only [bu,e1,e2,Bool.and_eq_true,eJ];exact ⟨⟨by omega,by omega,ht⟩,by decide⟩
 ·unfold aW;rw [e1,e2];simp [bI]
 ·unfold aX;rw [e2];rfl
theorem nb (s:ByteArray) (k:Nat) (h:k<s.size):s.data.toList.take (k+1)=s.data.toList.take k++[s[k]]:=by
 rw [List.take_succ_eq_append_getElem (by simpa using h)];rfl
theorem sE {l:List UInt8} {m:Nat} (h:l.length=0∨m<l.length):dOK l m=false:=by
 simp only [dOK,Bool.and_eq_false_imp,Bool.and_eq_true,decide_eq_true_eq];omega
theorem afd {b:UInt8} (h:(b.toNat:Int)<48):isD b=false:=by simp [isD];omega
theorem afe {b:UInt8} (h:57<(b.toNat:Int)):isD b=false:=by simp [isD];omega
theorem abq {b:UInt8} (h0:48≤(b.toNat:Int)) (h1:(b.toNat:Int)≤57):isD b=true:=by simp [isD];omega
theorem aB (s:ByteArray) (most:Nat) (w:World) (hs:s.size≤maxLen) (hm:most≤10):
  Calls Tryz.prog 254 #[.string s, .int .i64 (most:Int)] w fun e w'=>e= .returned (.tuple #[.int .i64 (dN s.data.toList most:Nat), .bool (dOK s.data.toList most)])∧w=w':=by
 unfold maxLen at hs
 have Ai:s.data.toList.length=s.size:=by rw [Array.length_toList];rfl
 by_cases Au:1≤s.size∧s.size≤most
 ·obtain ⟨h1,h2⟩:=Au
  by_cases hall:d8 s.data.toList=true
  ·have ho:dOK s.data.toList most=true:=by simp [dOK,Ai,h1,h2,hall]
   rw [ho,show dN s.data.toList most=bI s.data.toList by simp [dN,ho]];have HA:=agC hall;have HL:=agC Ai;clear ho hall Ai
   have z1:((s.size:Int)==0)=false:=by rw [beq_eq_false_iff_ne];omega
   have z2:decide (most<s.size)=false:=by simp;omega
   go_enter Tryz.func254,Tryz.ntmps254
   go_wp2
   go_loop [6,7,19] (fun n _ i=> ∃k:Nat,k≤s.size∧i= .int .i64 (k:Int)∧n= .int .i64 ((bI (s.data.toList.take k):Nat):Int)) (fun _ _ i=>s.size-(intOf i).toNat)
   case atStart=>exact ⟨0,agH _,rfl,rfl⟩
   case round=>
    obtain ⟨k,hk,rfl,rfl⟩:=hrel
    by_cases Ab:k<s.size
    ·have hd:isD s[k]=true:=by
      have:=pG _ (k+1) HA.out;rw [nb s k Ab,hY] at this;simp only [Bool.and_eq_true] at this;exact this.2
     have Kp:48≤(s[k].toNat:Int)∧(s[k].toNat:Int)≤57:=by simp [isD] at hd;omega
     obtain ⟨d1,d2⟩:=Kp;have hv:=fB (s.data.toList.take k) (pG _ k HA.out) (by rw [List.length_take,HL.out];omega);have HS:=agC (show bI (s.data.toList.take (k+1))=bI (s.data.toList.take k)*10+(s[k].toNat-48) by rw [nb s k Ab,eV]);clear hd;generalize bI (s.data.toList.take k)=v at hv HS⊢;go_wp2
     go_round
     case rel=>exact ⟨k+1,by omega,by go_num,by rw [HS.out];go_num⟩
     case measure=>simp [intOf];omega
    ·obtain rfl:k=s.size:=by omega
     rw [show s.data.toList.take s.size=s.data.toList from List.take_of_length_le (by rw [HL.out];exact agD _)];go_wp2;go_ret2;exact ⟨rfl,rfl⟩
  ·have Gx:=Bool.eq_false_iff.mpr hall
   have ho:dOK s.data.toList most=false:=by simp [dOK,Gx]
   rw [ho,show dN s.data.toList most=0 by simp [dN,ho]];have HA:=agC Gx;have HL:=agC Ai;clear ho hall Gx Ai
   have z1:((s.size:Int)==0)=false:=by rw [beq_eq_false_iff_ne];omega
   have z2:decide (most<s.size)=false:=by simp;omega
   go_enter Tryz.func254,Tryz.ntmps254
   go_wp2
   go_loop [6,7,19] (fun n _ i=> ∃k:Nat,k≤s.size∧i= .int .i64 (k:Int)∧d8 (s.data.toList.take k)=true∧n= .int .i64 ((bI (s.data.toList.take k):Nat):Int)) (fun _ _ i=>s.size-(intOf i).toNat)
   case atStart=>exact ⟨0,agH _,rfl,rfl,rfl⟩
   case round=>
    obtain ⟨k,hk,rfl,Lw,rfl⟩:=hrel;have HK:=agC Lw;clear Lw
    have Ab:k<s.size:=by
     by_cases h:k<s.size
     ·exact h
     ·have h1:=HK.out;have h2:=HA.out
      rw [List.take_of_length_le (by rw [HL.out];omega),h2] at h1;cases h1
    have hv:=fB (s.data.toList.take k) HK.out (by rw [List.length_take,HL.out];omega)
    have Cu:(s[k].toNat:Int)≤255:=by have:=s[k].toNat_lt;omega
    have HS:=agC (show bI (s.data.toList.take (k+1))=bI (s.data.toList.take k)*10+(s[k].toNat-48) by rw [nb s k Ab,eV])
    by_cases d1:48≤(s[k].toNat:Int)
    ·by_cases d2:(s[k].toNat:Int)≤57
     ·have HD:=agC (show d8 (s.data.toList.take (k+1))=true by rw [nb s k Ab,hY,HK.out,abq d1 d2];rfl)
      generalize bI (s.data.toList.take k)=v at hv HS⊢;go_wp2
      go_round
      case rel=>exact ⟨k+1,by omega,by go_num,HD.out,by rw [HS.out];go_num⟩
      case measure=>simp [intOf];omega
     ·generalize bI (s.data.toList.take k)=v at hv HS⊢
      go_wp2;go_ret2;exact ⟨rfl,rfl⟩
    ·generalize bI (s.data.toList.take k)=v at hv HS⊢
     go_wp2;go_ret2;exact ⟨rfl,rfl⟩
 ·have ho:dOK s.data.toList most=false:=sE (by rw [Ai];omega)
  rw [ho,show dN s.data.toList most=0 by simp [dN,ho]];clear ho Ai
  by_cases h0:s.size=0
  ·have z1:((s.size:Int)==0)=true:=beq_iff_eq.mpr (by omega)
   clear Au h0
   go_enter Tryz.func254,Tryz.ntmps254
   go_wp2;go_ret2;exact ⟨rfl,rfl⟩
  ·have z1:((s.size:Int)==0)=false:=by rw [beq_eq_false_iff_ne];omega
   have z2:decide (most<s.size)=true:=by simp;omega
   clear Au h0
   go_enter Tryz.func254,Tryz.ntmps254
   go_wp2;go_ret2;exact ⟨rfl,rfl⟩
def hZ (s:ByteArray) (Dc most:Nat):Nat:=eh (s.data.toList.drop Dc) most
def bm (s:ByteArray) (Dc k:Nat):Nat:=bI ((s.data.toList.drop Dc).take k)
theorem pI (s:ByteArray) (a k:Nat) (h:a+k<s.size):(s.data.toList.drop a).take (k+1)=(s.data.toList.drop a).take k++[s[a+k]]:=by
 have hl:s.data.toList.length=s.size:=by rw [Array.length_toList];rfl
 rw [List.take_succ_eq_append_getElem (by rw [List.length_drop];omega),List.getElem_drop];rfl
theorem adD (s:ByteArray) (a k:Nat) (h:a+k<s.size):(s.data.toList.drop a)[k]? =some s[a+k]:=by
 have hl:s.data.toList.length=s.size:=by rw [Array.length_toList];rfl
 rw [List.getElem?_drop,List.getElem?_eq_getElem (by omega)];rfl
theorem f8 (s:ByteArray) (a most:Nat) (w:World) (hs:s.size≤2097152) (ha:a≤s.size) (hm:most≤10):
  Calls Tryz.prog 192 #[.string s, .int .i64 (a:Int), .int .i64 (most:Int)] w fun e w'=>e= .returned (.tuple #[.int .i64 ((bm s a (hZ s a most):Nat):Int), .int .i64 ((a+hZ s a most:Nat):Int)])∧w=w':=by
 have hl:s.data.toList.length=s.size:=by rw [Array.length_toList];rfl
 have QK:(s.data.toList.drop a).length=s.size-a:=by rw [List.length_drop,hl]
 have HL:=agC QK;clear hl QK
 go_enter Tryz.func192,Tryz.ntmps192
 go_wp2
 go_loop [8,1] (fun n i=> ∃k:Nat,a+k≤s.size∧k≤most∧i= .int .i64 ((a+k:Nat):Int)∧d8 ((s.data.toList.drop a).take k)=true∧n= .int .i64 ((bm s a k:Nat):Int)) (fun _ i=>s.size-(intOf i).toNat)
 case atStart=>exact ⟨0,by omega,by omega,rfl,by simp [d8],by simp [bm,bI]⟩
 case round=>
  obtain ⟨k,hk,Oy,rfl,Lw,rfl⟩:=hrel;have HK:=agC Lw;clear Lw;have hv:bm s a k<10000000000:=fB _ HK.out (by rw [List.length_take];omega)
  have fin:(k=s.size-a∨k=most∨ ∃b,(s.data.toList.drop a)[k]? =some b∧isD b=false)→hZ s a most=k:=fun h=>eZ (by rw [HL.out];omega) Oy HK.out (by rw [HL.out];exact h)
  have HF:=agC fin;clear fin
  by_cases Ab:a+k<s.size
  ·have Cu:(s[a+k].toNat:Int)≤255:=by have:=s[a+k].toNat_lt;omega
   have HD:=agC (adD s a k Ab)
   by_cases Cs:k<most
   ·by_cases d1:48≤(s[a+k].toNat:Int)
    ·by_cases d2:(s[a+k].toNat:Int)≤57
     ·have HN:=agC (show d8 ((s.data.toList.drop a).take (k+1))=true by rw [pI s a k Ab,hY,HK.out,abq d1 d2];rfl)
      have HV:=agC (show bm s a (k+1)=bm s a k*10+(s[a+k].toNat-48) by unfold bm;rw [pI s a k Ab,eV]);generalize bm s a k=v at hv HV⊢;go_wp2
      go_round
      case rel=>exact ⟨k+1,by omega,by omega,by go_num,HN.out,by rw [HV.out];go_num⟩
      case measure=>simp [intOf];omega
     ·have HR:=agC (HF.out (.inr (.inr ⟨_,HD.out,afe (by omega)⟩)))
      go_wp2;go_ret2;exact ⟨by rw [HR.out];go_num,rfl⟩
    ·have HR:=agC (HF.out (.inr (.inr ⟨_,HD.out,afd (by omega)⟩)))
     go_wp2;go_ret2;exact ⟨by rw [HR.out];go_num,rfl⟩
   ·have HR:=agC (HF.out (.inr (.inl (by omega))))
    by_cases d1:48≤(s[a+k].toNat:Int)
    ·by_cases d2:(s[a+k].toNat:Int)≤57
     ·go_wp2
      go_ret2;exact ⟨by rw [HR.out];go_num,rfl⟩
     ·go_wp2
      go_ret2;exact ⟨by rw [HR.out];go_num,rfl⟩
    ·go_wp2
     go_ret2;exact ⟨by rw [HR.out];go_num,rfl⟩
  ·have HR:=agC (HF.out (.inl (by omega)))
   go_wp2;go_ret2;exact ⟨by rw [HR.out];go_num,rfl⟩
theorem o8 (s:ByteArray) (c:Int) (w:World):
  Calls Tryz.prog 95 #[.string s, .int .u8 c] w fun e w'=>e= .returned (.int .i64 (Lib.indexByte s.data.toList c.toNat.toUInt8))∧w=w':=by
 go_enter Tryz.func95,Tryz.ntmps95
 go_wp2;rw [run_callFunc_extern Tryz.func144 (by kernel_rfl) (by kernel_rfl) (by kernel_rfl) (e:=Extern.BytealgIndexByte.indexByte) (by kernel_rfl),Lib.run_indexByteString];simp only [Result.andThen];rw [Oper.upon_value];go_wp2;go_ret;exact ⟨rfl,rfl⟩
theorem sF (s:ByteArray):s.toList=s.data.toList:=by rw [ByteArray.toList_eq]
theorem abr (c:UInt8) (h:0<({data:= #[c]}:ByteArray).size):((({data:= #[c]}:ByteArray)[0].toNat:Nat):Int)=(c.toNat:Int):=rfl
theorem pJ (s:ByteArray) (c:UInt8) (w:World) (hs:s.size≤maxLen):
  Calls Tryz.prog 253 #[.string s, .string ⟨#[c]⟩] w fun e w'=>e= .returned (.int .i64 (Lib.indexByte s.data.toList c))∧w=w':=by
 unfold maxLen at hs
 by_cases hb:([c]==s.toList)=true
 ·have hl:s.data.toList=[c]:=by rw [←sF];simpa using (beq_iff_eq.mp hb).symm
  rw [hl,show Lib.indexByte [c] c=0 by simp [Lib.indexByte]];clear hl
  go_enter Tryz.func253,Tryz.ntmps253
  go_wp2;go_ret;exact ⟨rfl,rfl⟩
 ·have Dy:([c]==s.toList)=false:=Bool.eq_false_iff.mpr hb
  clear hb
  go_enter Tryz.func253,Tryz.ntmps253
  go_wp2_with fail;refine (o8 _ _ _).mono ?_;rintro e w' ⟨rfl,rfl⟩;rw [abr,show ((c.toNat:Int)).toNat.toUInt8=c by simp];go_wp2;go_ret;exact ⟨rfl,rfl⟩
def eE (s:ByteArray) (c:UInt8):ByteArray:=if Lib.indexByte s.data.toList c<0 then s else s.extract 0 (Lib.indexByte s.data.toList c).toNat
def eo (s:ByteArray) (c:UInt8):ByteArray:=if Lib.indexByte s.data.toList c<0 then ⟨#[]⟩ else s.extract ((Lib.indexByte s.data.toList c).toNat+1) s.size
def fW (s:ByteArray) (c:UInt8):Bool:= !decide (Lib.indexByte s.data.toList c<0)
theorem lj (l:List UInt8) (c:UInt8): -1≤Lib.indexByte l c∧Lib.indexByte l c<l.length:=by
 induction l with
 |nil=>simp [Lib.indexByte]
 |cons b t ih=>
  simp only [Lib.indexByte]
  split
  ·simp only [List.length_cons];omega
  ·split
   ·simp only [List.length_cons];omega
   ·rename_i h1 h2
    have:Lib.indexByte t c≠ -1:=by simpa using h2
    simp only [List.length_cons];omega
theorem yU (s:ByteArray) (c:UInt8) (w:World) (hs:s.size≤maxLen):
  Calls Tryz.prog 247 #[.string s, .string ⟨#[c]⟩] w fun e w'=>e= .returned (.tuple #[.string (eE s c), .string (eo s c), .bool (fW s c)])∧ ∃n,w'=w.drewN n:=by
 have hi:=lj s.data.toList c
 have Au:s.data.toList.length=s.size:=by rw [Array.length_toList];rfl
 by_cases hn:Lib.indexByte s.data.toList c<0
 ·rw [show eE s c=s by simp [eE,hn],show eo s c=⟨#[]⟩ by simp [eo,hn],show fW s c=false by simp [fW,hn]]
  have HC:=agC (show Lib.indexByte s.data.toList c= -1 by omega);clear hn hi Au
  go_enter Tryz.func247,Tryz.ntmps247
  go_wp2_with fail;refine (pJ s c _ hs).mono ?_;rintro e w' ⟨rfl,rfl⟩;rw [HC.out];go_wp2;exact bodyPost_ret (v:= .tuple #[.string s, .string ⟨#[]⟩, .bool false]) (by simp [results,Tryz.results247,go_sem]) rfl ⟨rfl,0,rfl⟩
 ·obtain ⟨k,hk⟩:=agG (show 0≤Lib.indexByte s.data.toList c by omega)
  have HC:=agC hk
  have Cm:k<s.size:=by omega
  rw [show eE s c=s.extract 0 k by rw [eE,if_neg hn,hk];rfl,show eo s c=s.extract (k+1) s.size by rw [eo,if_neg hn,hk];rfl,show fW s c=true by simp [fW];omega];unfold maxLen at hs;clear hn hi Au hk
  have r1:(0:Int)≤(k:Int):=by omega
  have r2:(k:Int)≤(s.size:Int):=by omega
  have r3:(k:Int)+1≤(s.size:Int):=by omega
  have r4:(0:Int)≤(k:Int)+1:=by omega
  have r5:((k:Int)+1).toNat=k+1:=by omega
  have r6:IntKind.i64.wrap ((k:Int)+1)=(k:Int)+1:=IntWalk.i64_in _ (by omega)
  go_enter Tryz.func247,Tryz.ntmps247
  go_wp2_with fail;refine (pJ s c _ (by unfold maxLen;exact hs)).mono ?_;rintro e w' ⟨rfl,rfl⟩;rw [HC.out];go_wp2
  go_quiet (fail)
  go_wp2;exact bodyPost_ret (v:= .tuple #[.string (s.extract 0 k), .string (s.extract (k+1) s.size), .bool true]) (by simp [results,Tryz.results247,go_sem]) rfl ⟨rfl,_,rfl⟩
theorem fC (s:ByteArray) (c:UInt8) (w:World) (hs:s.size≤maxLen):
  Calls Tryz.prog 240 #[.string s, .string ⟨#[c]⟩] w fun e w'=>e= .returned (.tuple #[.string (eE s c), .string (eo s c), .bool (fW s c)])∧Below w.heap.size w w':=by
 go_enter Tryz.func240,Tryz.ntmps240
 go_wp2_with fail;refine (yU s c _ hs).mono ?_;rintro e w1 ⟨rfl,n,rfl⟩;go_wp2;exact bodyPost_ret (v:= .tuple #[.string (eE s c), .string (eo s c), .bool (fW s c)]) (by simp [results,Tryz.results240,go_sem]) rfl ⟨rfl,(Below.refl _ w).trans ⟨rfl,rfl,rfl,agD _,fun _ _=>rfl⟩⟩
def TwoF (w':World) (N B:Nat) (x y:Int):Prop:=
 N<B∧B<w'.heap.size∧w'.cell? ⟨N,0,none⟩=some (.int .i64 0)∧w'.cell? ⟨N,1,none⟩=some (.int .i64 0)∧w'.frozen? ⟨N,0,none⟩=false∧w'.frozen? ⟨N,1,none⟩=false∧
 w'.cell? ⟨B,0,none⟩=some (.int .i64 x)∧w'.cell? ⟨B,1,none⟩=some (.int .i64 y)∧w'.frozen? ⟨B,0,none⟩=false∧w'.frozen? ⟨B,1,none⟩=false
theorem dU {w:World} {b b' o o':Nat} {u:Value} (h:b≠b'):(w.setCell ⟨b,o,none⟩ u).cell? ⟨b',o',none⟩=w.cell? ⟨b',o',none⟩∧(w.setCell ⟨b,o,none⟩ u).frozen? ⟨b',o',none⟩=w.frozen? ⟨b',o',none⟩:=
 ⟨World.cell?_of_block (w:=w) (Below.heap_setCell _ _ _ _ (by show b'≠b;omega)),World.frozen?_of_block (w:=w) (Below.heap_setCell _ _ _ _ (by show b'≠b;omega))⟩
theorem TwoF.set {w':World} {N B:Nat} {x y:Int} (h:TwoF w' N B x y) (u v:Int):TwoF ((w'.setCell ⟨B,0,none⟩ (.int .i64 u)).setCell ⟨B,1,none⟩ (.int .i64 v)) N B u v:=by
 obtain ⟨h0,h1,h2,h3,h4,h5,h6,h7,h8,h9⟩:=h;refine ⟨h0,by simpa [World.setCell] using h1, ?_, ?_, ?_, ?_, ?_, ?_, ?_, ?_⟩
 ·rw [(dU (by omega)).1,(dU (by omega)).1];exact h2
 ·rw [(dU (by omega)).1,(dU (by omega)).1];exact h3
 ·rw [(dU (by omega)).2,(dU (by omega)).2];exact h4
 ·rw [(dU (by omega)).2,(dU (by omega)).2];exact h5
 ·simp [go_sem,h6]
 ·simp [go_sem,h7]
 ·simp [go_sem,h8]
 ·simp [go_sem,h9]
theorem TwoF.keep {W w1:World} {N B:Nat} {x y:Int} (h:TwoF W N B x y) (hb:Below W.heap.size W w1):TwoF w1 N B x y:=by
 obtain ⟨h0,h1,h2,h3,h4,h5,h6,h7,h8,h9⟩:=h;obtain ⟨hc,hf⟩:=pE hb;have hs:=hb.size;exact ⟨h0,by omega,(hc _ _ (by omega)).trans h2,(hc _ _ (by omega)).trans h3,(hf _ _ (by omega)).trans h4,(hf _ _ (by omega)).trans h5,(hc _ _ (by omega)).trans h6,(hc _ _ (by omega)).trans h7,(hf _ _ (by omega)).trans h8,(hf _ _ (by omega)).trans h9⟩
def ep (s:ByteArray):ByteArray:=if fW s 46=true then eo s 46 else ⟨#[48]⟩
theorem pK (s:ByteArray):(eE s 46).data.toList=eD s.data.toList:=by
 unfold eE eD;split
 ·rfl
 ·simp [ByteArray.extract,ByteArray.copySlice]
theorem mO (s:ByteArray):(ep s).data.toList=db s.data.toList:=by
 unfold ep fW eo db
 by_cases h:Lib.indexByte s.data.toList 46<0
 ·simp [h]
 ·simp only [h,decide_false,Bool.not_false,if_true,if_false]
  simp [ByteArray.extract,ByteArray.copySlice]
  exact List.take_of_length_le (by rw [List.length_drop,Array.length_toList];exact agD _)
theorem pL (s:ByteArray):(eE s 46).size≤s.size:=by
 unfold eE;split
 ·exact agD _
 ·simp [ByteArray.size_extract];omega
theorem mP (s:ByteArray):(ep s).size≤s.size+1:=by
 unfold ep eo;split
 ·split
  ·show (0:Nat)≤_;omega
  ·simp [ByteArray.size_extract];omega
 ·show (1:Nat)≤_;omega
theorem uP {v k:Nat} {x:Int} (h:x=((v*10^k:Nat):Int)) (hv:v<10000000000) (hk:k≤6):0≤x∧x≤10000000000000000:=by
 have h1:10^k≤1000000:=by have:=Nat.pow_le_pow_right (show 0<10 by omega) hk;omega
 have h2:v*10^k≤10000000000*1000000:=Nat.mul_le_mul (by omega) h1
 omega
theorem nc {k:Nat} {y:Int} (h:y=((10^k:Nat):Int)) (hk:k≤6):0≤y∧y≤1000000:=by
 have h1:10^k≤1000000:=by have:=Nat.pow_le_pow_right (show 0<10 by omega) hk;omega
 subst h;generalize 10^k=z at*;omega
theorem nP {k:Nat} {y:Int} (h:y=((10^k:Nat):Int)):1≤y:=by
 have h1:0<10^k:=Nat.pow_pos (by omega);subst h;generalize 10^k=z at*;omega
theorem TwoF.set0 {w':World} {N B:Nat} {x y:Int} (h:TwoF w' N B x y) (u:Int):TwoF (w'.setCell ⟨B,0,none⟩ (.int .i64 u)) N B u y:=by
 obtain ⟨h0,h1,h2,h3,h4,h5,h6,h7,h8,h9⟩:=h;refine ⟨h0,by simpa [World.setCell] using h1, ?_, ?_, ?_, ?_, ?_, ?_, ?_, ?_⟩
 ·rw [(dU (by omega)).1];exact h2
 ·rw [(dU (by omega)).1];exact h3
 ·rw [(dU (by omega)).2];exact h4
 ·rw [(dU (by omega)).2];exact h5
 ·simp [go_sem,h6]
 ·simp [go_sem,h7]
 ·simp [go_sem,h8]
 ·simp [go_sem,h9]
theorem lm (s:ByteArray) (w:World) (hs:s.size≤2097152) (hP:dOK (eD s.data.toList) 10=true) (hQ:dOK (db s.data.toList) 6=true):
  Calls Tryz.prog 248 #[.string s] w fun e w'=>e=fr (mkT (aW s.data.toList) (aX s.data.toList)) (mkB (aW s.data.toList) (aX s.data.toList)) (fP (aW s.data.toList) (aX s.data.toList))∧Below w.heap.size w w':=by
 obtain ⟨p1,p2,p3⟩:=(eJ _ _).mp hP;obtain ⟨r1,r2,r3⟩:=(eJ _ _).mp hQ;have QL:=fB _ p3 p2;have Vc:=fB _ r3 (by omega);have Fr:=agC hP;have IN:=agC hQ;have HP:=agC (pK s);have Ax:=pL s;have AC:=mP s;have Av:=mO s
 have Hi:(ep s).size=(db s.data.toList).length:=by rw [←Av,Array.length_toList];rfl
 clear hP hQ p3 r3
 by_cases hB:fW s 46=true
 ·have Gy:ep s=eo s 46:=by simp [ep,hB]
  rw [Gy] at AC Av Hi;have Ie:=agC hB;have HQ:=agC Av;have HZ:=agC Hi;clear hB Gy Av Hi
  go_enter Tryz.func248,Tryz.ntmps248
  go_wp2_with fail;refine (fC s 46 _ (by unfold maxLen;omega)).mono ?_;rintro e w1 ⟨rfl,Aa⟩;rw [Ie.out]
  have q0:w1.cell? ⟨w.heap.size,0,none⟩=some (.int .i64 0):=by rw [Aa.cell (by simp)];simp [go_sem]
  have q1:w1.cell? ⟨w.heap.size,1,none⟩=some (.int .i64 0):=by rw [Aa.cell (by simp)];simp [go_sem]
  have q2:w1.frozen? ⟨w.heap.size,0,none⟩=false:=by rw [Aa.frozen (by simp)];simp [go_sem]
  have q3:w1.frozen? ⟨w.heap.size,1,none⟩=false:=by rw [Aa.frozen (by simp)];simp [go_sem]
  have hN:w.heap.size<w1.heap.size:=by have:=Aa.size;simp at this;omega
  have Af:=agC (((Below.refl _ w).alloc (agD _) _).trans (Aa.mono (by simp)));clear Aa;go_wp2_with fail;refine (aB (eE s 46) 10 _ (by unfold maxLen;omega) (by omega)).mono ?_;rintro e w' ⟨rfl,rfl⟩;rw [HP.out];go_wp2_with fail;refine (aB (eo s 46) 6 _ (by unfold maxLen;omega) (by omega)).mono ?_;rintro e w' ⟨rfl,rfl⟩;rw [HQ.out];rw [show dN (eD s.data.toList) 10=bI (eD s.data.toList) by simp [dN,Fr.out],show dN (db s.data.toList) 6=bI (db s.data.toList) by simp [dN,IN.out],Fr.out,IN.out];go_wp2_with fail
  go_loopw [41] (fun i wr=> ∃(k:Nat) (x y:Int),k≤(db s.data.toList).length∧i= .int .i64 (k:Int)∧x=((bI (eD s.data.toList)*10^k:Nat):Int)∧y=((10^k:Nat):Int)∧TwoF wr w.heap.size w1.heap.size x y∧Below w.heap.size w wr) (fun i _=>(db s.data.toList).length-(intOf i).toNat)
  case atStart=>
   refine ⟨0,_,_,agH _,rfl,by rw [Nat.pow_zero,Nat.mul_one],rfl, ?_,Af.out.alloc Af.out.size _⟩;refine ⟨hN,by simp, ?_, ?_, ?_, ?_,by simp [go_sem],by simp [go_sem],by simp [go_sem],by simp [go_sem]⟩
   ·simpa [go_sem,hN,Nat.ne_of_lt hN] using q0
   ·simpa [go_sem,hN,Nat.ne_of_lt hN] using q1
   ·simpa [go_sem,hN,Nat.ne_of_lt hN] using q2
   ·simpa [go_sem,hN,Nat.ne_of_lt hN] using q3
  case round=>
   obtain ⟨k,x,y,hk,rfl,hx,hy,hT,Lx⟩:=hrel;have bx:0≤x∧x≤10000000000000000:=uP hx QL (by omega)
   have by':0≤y∧y≤1000000:=nc hy (by omega)
   obtain ⟨Oz,OA⟩:=bx;obtain ⟨SK,SL⟩:=by'
   have HX:=agC hx;have HY:=agC hy;have HT:=agC hT;have HW:=agC Lx;clear hx hy hT Lx;obtain ⟨t0,t1,t2,t3,t4,t5,t6,t7,t8,t9⟩:=HT.out
   by_cases Ab:k<(db s.data.toList).length
   ·have Gg:k<(eo s 46:ByteArray).size:=by rw [HZ.out];exact Ab
    go_wp2;go_roundw
    case rel=>exact ⟨k+1,_,_,by omega,by go_num,by rw [HX.out,Nat.pow_succ,←Nat.mul_assoc];go_num,by rw [HY.out,Nat.pow_succ];go_num,HT.out.set _ _,(HW.out.setCell (by show _≤w1.heap.size;omega) _).setCell (by show _≤w1.heap.size;omega) _⟩
    case measure=>simp [intOf];omega
   ·have Gg: ¬k<(eo s 46:ByteArray).size:=by rw [HZ.out];exact Ab
    obtain rfl:k=(db s.data.toList).length:=by omega
    have Lq:Hid (x+((bI (db s.data.toList):Nat):Int)=aW s.data.toList):=by show _=_;rw [HX.out];unfold aW;rw [Int.natCast_add]
    have Gz:Hid (y=aX s.data.toList):=HY.out;have y1:=nP HY.out;go_wp2_with fail;refine (mN (x+((bI (db s.data.toList):Nat):Int)) y _ (by omega) (by omega) (by omega)).mono ?_;rintro e w2 ⟨rfl,Ae⟩;have Ca:=agC ((HT.out.set0 _).keep Ae);have Ak:=agC ((HW.out.setCell (by show _≤w1.heap.size;omega) _).trans (Ae.mono (by have:=HW.out.size;simpa [World.setCell] using this)));clear Ae t0 t1 t2 t3 t4 t5 t6 t7 t8 t9;obtain ⟨u0,u1,u2,u3,u4,u5,u6,u7,u8,u9⟩:=Ca.out;rw [Lq.out,Gz.out];go_wp2;exact bodyPost_ret (v:= .tuple #[.agg #[.int .i64 (mkT (aW s.data.toList) (aX s.data.toList)), .int .i64 (mkB (aW s.data.toList) (aX s.data.toList))], .bool (fP (aW s.data.toList) (aX s.data.toList))]) (by simp [results,Tryz.results248,go_sem,u2,u3]) rfl ⟨rfl,(Ak.out.setCell (agD _) _).setCell (agD _) _⟩
 ·have Jt:=Bool.eq_false_iff.mpr hB
  have Gy:ep s=⟨#[48]⟩:=by simp [ep,Jt]
  rw [Gy] at AC Av Hi;have Ie:=agC Jt;have HQ:=agC Av;have HZ:=agC Hi;have Cn:(db s.data.toList).length=1:=Hi.symm;clear hB Jt Gy Av Hi
  have CL:(db s.data.toList).length≤1:=by omega
  have Kq:1≤(db s.data.toList).length:=by omega
  clear Cn
  go_enter Tryz.func248,Tryz.ntmps248
  go_wp2_with fail;refine (fC s 46 _ (by unfold maxLen;omega)).mono ?_;rintro e w1 ⟨rfl,Aa⟩;rw [Ie.out]
  have q0:w1.cell? ⟨w.heap.size,0,none⟩=some (.int .i64 0):=by rw [Aa.cell (by simp)];simp [go_sem]
  have q1:w1.cell? ⟨w.heap.size,1,none⟩=some (.int .i64 0):=by rw [Aa.cell (by simp)];simp [go_sem]
  have q2:w1.frozen? ⟨w.heap.size,0,none⟩=false:=by rw [Aa.frozen (by simp)];simp [go_sem]
  have q3:w1.frozen? ⟨w.heap.size,1,none⟩=false:=by rw [Aa.frozen (by simp)];simp [go_sem]
  have hN:w.heap.size<w1.heap.size:=by have:=Aa.size;simp at this;omega
  have Af:=agC (((Below.refl _ w).alloc (agD _) _).trans (Aa.mono (by simp)));clear Aa;go_wp2_with fail;refine (aB (eE s 46) 10 _ (by unfold maxLen;omega) (by omega)).mono ?_;rintro e w' ⟨rfl,rfl⟩;rw [HP.out];go_wp2_with fail;refine (aB ⟨#[48]⟩ 6 _ (by unfold maxLen;omega) (by omega)).mono ?_;rintro e w' ⟨rfl,rfl⟩;rw [HQ.out];rw [show dN (eD s.data.toList) 10=bI (eD s.data.toList) by simp [dN,Fr.out],show dN (db s.data.toList) 6=bI (db s.data.toList) by simp [dN,IN.out],Fr.out,IN.out];go_wp2_with fail
  go_loopw [41] (fun i wr=> ∃(k:Nat) (x y:Int),k≤(db s.data.toList).length∧i= .int .i64 (k:Int)∧x=((bI (eD s.data.toList)*10^k:Nat):Int)∧y=((10^k:Nat):Int)∧TwoF wr w.heap.size w1.heap.size x y∧Below w.heap.size w wr) (fun i _=>(db s.data.toList).length-(intOf i).toNat)
  case atStart=>
   refine ⟨0,_,_,agH _,rfl,by rw [Nat.pow_zero,Nat.mul_one],rfl, ?_,Af.out.alloc Af.out.size _⟩;refine ⟨hN,by simp, ?_, ?_, ?_, ?_,by simp [go_sem],by simp [go_sem],by simp [go_sem],by simp [go_sem]⟩
   ·simpa [go_sem,hN,Nat.ne_of_lt hN] using q0
   ·simpa [go_sem,hN,Nat.ne_of_lt hN] using q1
   ·simpa [go_sem,hN,Nat.ne_of_lt hN] using q2
   ·simpa [go_sem,hN,Nat.ne_of_lt hN] using q3
  case round=>
   obtain ⟨k,x,y,hk,rfl,hx,hy,hT,Lx⟩:=hrel;have bx:0≤x∧x≤10000000000000000:=uP hx QL (by omega)
   have by':0≤y∧y≤1000000:=nc hy (by omega)
   obtain ⟨Oz,OA⟩:=bx;obtain ⟨SK,SL⟩:=by'
   have HX:=agC hx;have HY:=agC hy;have HT:=agC hT;have HW:=agC Lx;clear hx hy hT Lx;obtain ⟨t0,t1,t2,t3,t4,t5,t6,t7,t8,t9⟩:=HT.out
   by_cases Ab:k<(db s.data.toList).length
   ·have Gg:k<1:=by omega
    go_wp2;go_roundw
    case rel=>exact ⟨k+1,_,_,by omega,by go_num,by rw [HX.out,Nat.pow_succ,←Nat.mul_assoc];go_num,by rw [HY.out,Nat.pow_succ];go_num,HT.out.set _ _,(HW.out.setCell (by show _≤w1.heap.size;omega) _).setCell (by show _≤w1.heap.size;omega) _⟩
    case measure=>simp [intOf];omega
   ·have Gg: ¬k<1:=by omega
    obtain rfl:k=(db s.data.toList).length:=by omega
    have Lq:Hid (x+((bI (db s.data.toList):Nat):Int)=aW s.data.toList):=by show _=_;rw [HX.out];unfold aW;rw [Int.natCast_add]
    have Gz:Hid (y=aX s.data.toList):=HY.out;have y1:=nP HY.out;go_wp2_with fail;refine (mN (x+((bI (db s.data.toList):Nat):Int)) y _ (by omega) (by omega) (by omega)).mono ?_;rintro e w2 ⟨rfl,Ae⟩;have Ca:=agC ((HT.out.set0 _).keep Ae);have Ak:=agC ((HW.out.setCell (by show _≤w1.heap.size;omega) _).trans (Ae.mono (by have:=HW.out.size;simpa [World.setCell] using this)));clear Ae t0 t1 t2 t3 t4 t5 t6 t7 t8 t9;obtain ⟨u0,u1,u2,u3,u4,u5,u6,u7,u8,u9⟩:=Ca.out;rw [Lq.out,Gz.out];go_wp2;exact bodyPost_ret (v:= .tuple #[.agg #[.int .i64 (mkT (aW s.data.toList) (aX s.data.toList)), .int .i64 (mkB (aW s.data.toList) (aX s.data.toList))], .bool (fP (aW s.data.toList) (aX s.data.toList))]) (by simp [results,Tryz.results248,go_sem,u2,u3]) rfl ⟨rfl,(Ak.out.setCell (agD _) _).setCell (agD _) _⟩
theorem ia (s:ByteArray) (w:World) (hs:s.size≤2097152) (h:dOK (eD s.data.toList) 10=false∨(dOK (eD s.data.toList) 10=true∧dOK (db s.data.toList) 6=false)):
  Calls Tryz.prog 248 #[.string s] w fun e w'=>e=fr 0 0 false∧Below w.heap.size w w':=by
 have HP:=agC (pK s);have Ax:=pL s;have AC:=mP s;have Av:=mO s
 by_cases hB:fW s 46=true
 ·have Gy:ep s=eo s 46:=by simp [ep,hB]
  rw [Gy] at AC Av;have Ie:=agC hB;have HQ:=agC Av;clear hB Gy Av
  rcases h with h|⟨h,h'⟩
  ·have Fr:=agC h;clear h
   go_enter Tryz.func248,Tryz.ntmps248
   go_wp2_with fail;refine (fC s 46 _ (by unfold maxLen;omega)).mono ?_;rintro e w1 ⟨rfl,Aa⟩;rw [Ie.out]
   have q0:w1.cell? ⟨w.heap.size,0,none⟩=some (.int .i64 0):=by rw [Aa.cell (by simp)];simp [go_sem]
   have q1:w1.cell? ⟨w.heap.size,1,none⟩=some (.int .i64 0):=by rw [Aa.cell (by simp)];simp [go_sem]
   have q2:w1.frozen? ⟨w.heap.size,0,none⟩=false:=by rw [Aa.frozen (by simp)];simp [go_sem]
   have q3:w1.frozen? ⟨w.heap.size,1,none⟩=false:=by rw [Aa.frozen (by simp)];simp [go_sem]
   have hN:w.heap.size<w1.heap.size:=by have:=Aa.size;simp at this;omega
   have Af:=agC (((Below.refl _ w).alloc (agD _) _).trans (Aa.mono (by simp)));clear Aa;go_wp2_with fail;refine (aB (eE s 46) 10 _ (by unfold maxLen;omega) (by omega)).mono ?_;rintro e w' ⟨rfl,rfl⟩;rw [HP.out];go_wp2_with fail;refine (aB (eo s 46) 6 _ (by unfold maxLen;omega) (by omega)).mono ?_;rintro e w' ⟨rfl,rfl⟩;rw [HQ.out];rw [Fr.out];generalize dN (eD s.data.toList) 10=n1;generalize dN (db s.data.toList) 6=n2;generalize dOK (db s.data.toList) 6=o2;go_wp2;exact bodyPost_ret (v:= .tuple #[.agg #[.int .i64 0, .int .i64 0], .bool false]) (by simp [results,Tryz.results248,go_sem,q0,q1]) rfl ⟨rfl,(Af.out.setCell (agD _) _).setCell (agD _) _⟩
  ·have Fr:=agC h;have IN:=agC h';clear h h'
   go_enter Tryz.func248,Tryz.ntmps248
   go_wp2_with fail;refine (fC s 46 _ (by unfold maxLen;omega)).mono ?_;rintro e w1 ⟨rfl,Aa⟩;rw [Ie.out]
   have q0:w1.cell? ⟨w.heap.size,0,none⟩=some (.int .i64 0):=by rw [Aa.cell (by simp)];simp [go_sem]
   have q1:w1.cell? ⟨w.heap.size,1,none⟩=some (.int .i64 0):=by rw [Aa.cell (by simp)];simp [go_sem]
   have q2:w1.frozen? ⟨w.heap.size,0,none⟩=false:=by rw [Aa.frozen (by simp)];simp [go_sem]
   have q3:w1.frozen? ⟨w.heap.size,1,none⟩=false:=by rw [Aa.frozen (by simp)];simp [go_sem]
   have hN:w.heap.size<w1.heap.size:=by have:=Aa.size;simp at this;omega
   have Af:=agC (((Below.refl _ w).alloc (agD _) _).trans (Aa.mono (by simp)));clear Aa;go_wp2_with fail;refine (aB (eE s 46) 10 _ (by unfold maxLen;omega) (by omega)).mono ?_;rintro e w' ⟨rfl,rfl⟩;rw [HP.out];go_wp2_with fail;refine (aB (eo s 46) 6 _ (by unfold maxLen;omega) (by omega)).mono ?_;rintro e w' ⟨rfl,rfl⟩;rw [HQ.out];rw [Fr.out,IN.out];generalize dN (eD s.data.toList) 10=n1;generalize dN (db s.data.toList) 6=n2;go_wp2;exact bodyPost_ret (v:= .tuple #[.agg #[.int .i64 0, .int .i64 0], .bool false]) (by simp [results,Tryz.results248,go_sem,q0,q1]) rfl ⟨rfl,(Af.out.setCell (agD _) _).setCell (agD _) _⟩
 ·have Jt:=Bool.eq_false_iff.mpr hB
  have Gy:ep s=⟨#[48]⟩:=by simp [ep,Jt]
  rw [Gy] at AC Av;have Ie:=agC Jt;have HQ:=agC Av;clear hB Jt Gy Av
  rcases h with h|⟨h,h'⟩
  ·have Fr:=agC h;clear h
   go_enter Tryz.func248,Tryz.ntmps248
   go_wp2_with fail;refine (fC s 46 _ (by unfold maxLen;omega)).mono ?_;rintro e w1 ⟨rfl,Aa⟩;rw [Ie.out]
   have q0:w1.cell? ⟨w.heap.size,0,none⟩=some (.int .i64 0):=by rw [Aa.cell (by simp)];simp [go_sem]
   have q1:w1.cell? ⟨w.heap.size,1,none⟩=some (.int .i64 0):=by rw [Aa.cell (by simp)];simp [go_sem]
   have q2:w1.frozen? ⟨w.heap.size,0,none⟩=false:=by rw [Aa.frozen (by simp)];simp [go_sem]
   have q3:w1.frozen? ⟨w.heap.size,1,none⟩=false:=by rw [Aa.frozen (by simp)];simp [go_sem]
   have hN:w.heap.size<w1.heap.size:=by have:=Aa.size;simp at this;omega
   have Af:=agC (((Below.refl _ w).alloc (agD _) _).trans (Aa.mono (by simp)));clear Aa;go_wp2_with fail;refine (aB (eE s 46) 10 _ (by unfold maxLen;omega) (by omega)).mono ?_;rintro e w' ⟨rfl,rfl⟩;rw [HP.out];go_wp2_with fail;refine (aB ⟨#[48]⟩ 6 _ (by unfold maxLen;omega) (by omega)).mono ?_;rintro e w' ⟨rfl,rfl⟩;rw [HQ.out];rw [Fr.out];generalize dN (eD s.data.toList) 10=n1;generalize dN (db s.data.toList) 6=n2;generalize dOK (db s.data.toList) 6=o2;go_wp2;exact bodyPost_ret (v:= .tuple #[.agg #[.int .i64 0, .int .i64 0], .bool false]) (by simp [results,Tryz.results248,go_sem,q0,q1]) rfl ⟨rfl,(Af.out.setCell (agD _) _).setCell (agD _) _⟩
  ·have Fr:=agC h;have IN:=agC h';clear h h'
   go_enter Tryz.func248,Tryz.ntmps248
   go_wp2_with fail;refine (fC s 46 _ (by unfold maxLen;omega)).mono ?_;rintro e w1 ⟨rfl,Aa⟩;rw [Ie.out]
   have q0:w1.cell? ⟨w.heap.size,0,none⟩=some (.int .i64 0):=by rw [Aa.cell (by simp)];simp [go_sem]
   have q1:w1.cell? ⟨w.heap.size,1,none⟩=some (.int .i64 0):=by rw [Aa.cell (by simp)];simp [go_sem]
   have q2:w1.frozen? ⟨w.heap.size,0,none⟩=false:=by rw [Aa.frozen (by simp)];simp [go_sem]
   have q3:w1.frozen? ⟨w.heap.size,1,none⟩=false:=by rw [Aa.frozen (by simp)];simp [go_sem]
   have hN:w.heap.size<w1.heap.size:=by have:=Aa.size;simp at this;omega
   have Af:=agC (((Below.refl _ w).alloc (agD _) _).trans (Aa.mono (by simp)));clear Aa;go_wp2_with fail;refine (aB (eE s 46) 10 _ (by unfold maxLen;omega) (by omega)).mono ?_;rintro e w' ⟨rfl,rfl⟩;rw [HP.out];go_wp2_with fail;refine (aB ⟨#[48]⟩ 6 _ (by unfold maxLen;omega) (by omega)).mono ?_;rintro e w' ⟨rfl,rfl⟩;rw [HQ.out];rw [Fr.out,IN.out];generalize dN (eD s.data.toList) 10=n1;generalize dN (db s.data.toList) 6=n2;go_wp2;exact bodyPost_ret (v:= .tuple #[.agg #[.int .i64 0, .int .i64 0], .bool false]) (by simp [results,Tryz.results248,go_sem,q0,q1]) rfl ⟨rfl,(Af.out.setCell (agD _) _).setCell (agD _) _⟩
theorem lp (s:ByteArray) (w:World) (hs:s.size≤2097152):
  Calls Tryz.prog 248 #[.string s] w fun e w'=>e=fr (opT (bu s.data.toList) (aW s.data.toList) (aX s.data.toList)) (opB (bu s.data.toList) (aW s.data.toList) (aX s.data.toList)) (fs (bu s.data.toList) (aW s.data.toList) (aX s.data.toList))∧Below w.heap.size w w':=by
 unfold bu
 by_cases hP:dOK (eD s.data.toList) 10=true
 ·by_cases hQ:dOK (db s.data.toList) 6=true
  ·rw [hP,hQ,show (true&&true)=true from rfl,(cZ _ _).1,(cZ _ _).2.1,(cZ _ _).2.2]
   exact lm s w hs hP hQ
  ·have KP:=Bool.eq_false_iff.mpr hQ
   rw [hP,KP,show (true&&false)=false from rfl,(bQ _ _).1,(bQ _ _).2.1,(bQ _ _).2.2];exact ia s w hs (.inr ⟨hP,KP⟩)
 ·have QM:=Bool.eq_false_iff.mpr hP
  rw [QM,show (false&&dOK (db s.data.toList) 6)=false from rfl,(bQ _ _).1,(bQ _ _).2.1,(bQ _ _).2.2];exact ia s w hs (.inl QM)
def dgt (n:Nat):UInt8:=UInt8.ofNat (48+n)
theorem e8 {n:Nat} (h:n<10):Lib.decDigits n=[dgt n]:=by rw [Lib.decDigits,dif_pos h];rfl
theorem jG {n:Nat} (h: ¬n<10):Lib.decDigits n=Lib.decDigits (n/10)++[dgt (n % 10)]:=by
 conv=>lhs;rw [Lib.decDigits,dif_neg h]
 rfl
theorem nQ (n:Nat):Lib.decDigits n≠[]:=by
 by_cases h:n<10
 ·rw [e8 h];simp
 ·rw [jG h];simp
theorem fD (n:Nat) (h:n≤9223372036854775807):(Lib.decDigits n).length≤21:=by
 have:=Lib.itoa_length_le (n:Int) (by omega) (by omega);rw [Lib.itoa_nonneg] at this;exact this
def o9:Nat→Nat→List UInt8
 |0,_=>[]
 |k+1,y=>o9 k (y/10)++[dgt (y % 10)]
theorem adE (k:Nat): ∀x,x<10^k→Lib.decDigits (10^k+x)=49::o9 k x:=by
 induction k with
 |zero=>
  intro x h
  have hx:x=0:=by simpa using h
  subst hx;rw [e8 (by decide)];rfl
 |succ k ih=>
  intro x h;have hp:0<10^k:=Nat.pow_pos (by omega);rw [Nat.pow_succ] at h⊢;rw [jG (by omega),show (10^k*10+x)/10=10^k+x/10 by omega,ih (x/10) (by omega),show (10^k*10+x) % 10=x % 10 by omega]
  rfl
theorem abs (k:Nat): ∀y,y<10^(k+1)→o9 (k+1) y=dgt (y/10^k)::o9 k (y % 10^k):=by
 induction k with
 |zero=>intro y h;simp only [o9,Nat.pow_zero,Nat.div_one,List.nil_append];rw [Nat.mod_eq_of_lt (by simpa using h)]
 |succ k ih=>
  intro y h;have e:o9 (k+1+1) y=o9 (k+1) (y/10)++[dgt (y % 10)]:=rfl;have e2:o9 (k+1) (y % 10^(k+1))=o9 k (y % 10^(k+1)/10)++[dgt (y % 10^(k+1) % 10)]:=rfl;rw [e,ih (y/10) (by rw [Nat.pow_succ] at h;omega),e2]
  have BU:10^(k+1)=10*10^k:=by rw [Nat.pow_succ,Nat.mul_comm]
  rw [BU,Nat.mod_mul_right_div_self,Nat.mod_mul_right_mod,Nat.div_div_eq_div_mul]
  rfl
theorem yV (a:UInt8) (l:List UInt8) (c:UInt8):Lib.trimRightB (a::l) c=if Lib.trimRightB l c=[] then (if a=c then [] else [a]) else a::Lib.trimRightB l c:=by
 unfold Lib.trimRightB;rw [List.reverse_cons,List.dropWhile_append]
 by_cases h:(l.reverse.dropWhile (· ==c))=[]
 ·simp only [h,List.isEmpty_nil,if_true,List.reverse_nil]
  by_cases ha:a=c
  ·simp [ha]
  ·simp [ha]
 ·have h':(l.reverse.dropWhile (· ==c)).isEmpty=false:=by cases hx:l.reverse.dropWhile (· ==c) with
   |nil=>exact absurd hx h
   |cons _ _=>rfl
  rw [h']
  simp [h]
def frs:Nat→Nat→Nat→List UInt8
 |0,_,_=>[]
 |f+1,r,b=>if r=0 then [] else dgt (10*r/b)::frs f (10*r % b) b
theorem abt {q:Nat} (h:q<10) (hz:q≠0):dgt q≠48:=by
 intro e;have:=congrArg UInt8.toNat e;unfold dgt at this;rw [UInt8.toNat_ofNat_of_lt' (by simp [UInt8.size];omega)] at this
 simp at this
 omega
theorem abu (b m:Nat) (Dz:b*m=1000000) (k:Nat): ∀y r,k≤6→y<10^k→r<b→r*m=y*10^(6-k)→Lib.trimRightB (o9 k y) 48=frs k r b:=by
 have hm:0<m:=by rcases Nat.eq_zero_or_pos m with h|h;(subst h;omega);exact h
 have hb:0<b:=by rcases Nat.eq_zero_or_pos b with h|h;(subst h;omega);exact h
 induction k with
 |zero=>intro y r _ _ _ _;rfl
 |succ k ih=>
  intro y r hk hy hr h
  have hE:10^(6-k)=10*10^(6-(k+1)):=by rw [show 6-k=(6-(k+1))+1 by omega,Nat.pow_succ,Nat.mul_comm]
  have SC:0<10^(6-k):=Nat.pow_pos (by omega)
  have Kr:10^k*10^(6-k)=1000000:=by rw [←Nat.pow_add,show k+(6-k)=6 by omega]
  have BU:10*r*m=y*10^(6-k):=by rw [hE,Nat.mul_assoc,h,←Nat.mul_assoc,←Nat.mul_assoc,Nat.mul_comm 10 y]
  have Ok:10*r/b=y/10^k:=by
   rw [←Nat.mul_div_mul_right (10*r) b hm,BU,Dz,←Kr,Nat.mul_div_mul_right _ _ SC]
  have GA:(10*r % b)*m=(y % 10^k)*10^(6-k):=by
   rw [←Nat.mul_mod_mul_right,BU,Dz,←Kr,Nat.mul_mod_mul_right]
  have M0:0<10^k:=Nat.pow_pos (by omega);rw [abs k y hy,yV,ih (y % 10^k) (10*r % b) (by omega) (Nat.mod_lt _ M0) (Nat.mod_lt _ hb) GA]
  have hq:y/10^k<10:=by
   rw [Nat.div_lt_iff_lt_mul M0,Nat.mul_comm,←Nat.pow_succ];exact hy
  by_cases Dq:r=0
  ·subst Dq
   have Fo:y=0:=by
    have:y*10^(6-(k+1))=0:=by rw [←h];simp
    rcases Nat.mul_eq_zero.mp this with h|h
    ·exact h
    ·have:0<10^(6-(k+1)):=Nat.pow_pos (by omega)
     omega
   subst Fo
   have e:frs k (10*0 % b) b=[]:=by
    rw [Nat.mul_zero,Nat.zero_mod];cases k<;>simp [frs]
   rw [e,Nat.zero_div];rfl
  ·have e:frs (k+1) r b=dgt (10*r/b)::frs k (10*r % b) b:=by rw [frs,if_neg Dq]
   rw [e,Ok]
   by_cases hn:frs k (10*r % b) b=[]
   ·rw [if_pos hn,hn]
    have Ck:10*r % b=0∨k=0:=by
     cases k with
     |zero=>exact .inr rfl
     |succ k=>
      left
      rw [frs] at hn
      by_cases hz:10*r % b=0
      ·exact hz
      ·rw [if_neg hz] at hn;cases hn
    have Fo:y % 10^k=0:=by
     rcases Ck with h|h
     ·rw [h,Nat.zero_mul] at GA
      rcases Nat.mul_eq_zero.mp GA.symm with h|h
      ·exact h
      ·omega
     ·subst h;simp [Nat.mod_one]
    have SD:y/10^k≠0:=by
     intro hz;have h1:=Nat.div_add_mod y (10^k);rw [hz,Fo,Nat.mul_zero] at h1
     have:r*m=0:=by rw [h,←h1,Nat.zero_mul]
     rcases Nat.mul_eq_zero.mp this with h|h
     ·exact Dq h
     ·omega
    rw [if_neg (abt hq SD)]
   ·rw [if_neg hn]
def aO (t b:Nat):List UInt8:=Lib.decDigits (t/b)++(if t % b=0 then [] else 46::frs 6 (t % b) b)
def aA (t b:Nat):List UInt8:=if 1000000 % b=0 then aO t b else Lib.decDigits t++47::Lib.decDigits b
def fQ (t b:Int):List UInt8:=if t<0 then 45::aA (-t).toNat b.toNat else aA t.toNat b.toNat
def aJ (t b:Int):List UInt8:=if vB t b=true then fQ t b else []
theorem abv (t b:Nat) (hb:1≤b) (hd:1000000 % b=0):Lib.trimRightB ((Lib.decDigits (1000000+t % b*(1000000/b))).drop 1) 48=frs 6 (t % b) b:=by
 have Dz:b*(1000000/b)=1000000:=by have:=Nat.div_add_mod 1000000 b;omega
 have hr:t % b<b:=Nat.mod_lt _ (by omega)
 have hx:t % b*(1000000/b)<10^6:=by
  have h1:(t % b+1)*(1000000/b)≤b*(1000000/b):=Nat.mul_le_mul_right _ (by omega);rw [Nat.add_mul,Nat.one_mul] at h1
  have hm:0<1000000/b:=by rcases Nat.eq_zero_or_pos (1000000/b) with h|h;(rw [h] at Dz;omega);exact h
  omega
 have:=adE 6 _ hx;rw [show (10:Nat)^6=1000000 by decide] at this;rw [this];exact abu b (1000000/b) Dz 6 _ (t % b) (agD _) hx hr (by simp)
theorem nd (f:Nat): ∀r b,(frs f r b).length≤f:=by
 induction f with
 |zero=>intro r b;simp [frs]
 |succ f ih=>intro r b;rw [frs];split
             ·simp
             ·simp only [List.length_cons];have:=ih (10*r % b) b;omega
def Tab (w:World):Prop:=Lib.TabIs Tryz.prog w "internal/strconv.uint64pow10" .u64 Lib.pow10Tab
theorem Tab.keep {w w':World} (h:Tab w) (hb:Below w.heap.size w w'):Tab w':=Lib.tabBelow_of_tabIs h w' hb
theorem Tab.al {w:World} (h:Tab w) (o:Obj):Tab (w.alloc o):=h.keep ((Below.refl _ _).alloc (agD _) _)
theorem Tab.drew {w:World} (h:Tab w):Tab w.drew:=h.keep ⟨rfl,rfl,rfl,agD _,fun _ _=>rfl⟩
def dh (n:Nat):ByteArray:=⟨(Lib.decDigits n).toArray⟩
theorem yW (n:Nat):(dh n).data.toList=Lib.decDigits n:=by simp [dh]
theorem di (n:Nat) (h:n≤1000000000000):(dh n).size≤21:=by
 have:=fD n (by omega)
 show (Lib.decDigits n).toArray.size≤21
 simpa using this
theorem jc (n:Nat) (hn:n≤1000000000000) (w:World) (ht:Tab w):
  Calls Tryz.prog 262 #[.int .i64 (n:Int)] w fun e w'=>e= .returned (.string (dh n))∧Below w.heap.size w w':=by
 refine (Tryz.strconv_Itoa (n:Int) (by omega) (by omega) w ht).mono ?_;rintro e w' ⟨rfl,k,os,rfl⟩;rw [Lib.itoa_nonneg];exact ⟨rfl,Lib.below_grow _ w (agD _) k os⟩
def FrAt (w':World) (B:Nat) (x y:Int):Prop:=w'.cell? ⟨B,0,none⟩=some (.int .i64 x)∧w'.cell? ⟨B,1,none⟩=some (.int .i64 y)
theorem FrAt.keep {W w1:World} {B:Nat} {x y:Int} (h:FrAt W B x y) (hb:Below W.heap.size W w1):FrAt w1 B x y:=
 ⟨by rw [hb.cell (World.block_lt_of_cell? W _ h.1)];exact h.1,by rw [hb.cell (World.block_lt_of_cell? W _ h.2)];exact h.2⟩
theorem FrAt.al {W:World} {B:Nat} {x y:Int} (h:FrAt W B x y) (o:Obj):FrAt (W.alloc o) B x y:=
 h.keep ((Below.refl _ W).alloc (agD _) _)
theorem FrAt.lt {W:World} {B:Nat} {x y:Int} (h:FrAt W B x y):B<W.heap.size:=World.block_lt_of_cell? W _ h.1
theorem FrAt.new (W:World) (x y:Int) (t:TypeId):FrAt (W.alloc (.cells #[.int .i64 x, .int .i64 y] t)) W.heap.size x y:=⟨by simp [go_sem],by simp [go_sem]⟩
theorem td (t b:Nat):(t:Int).tdiv (b:Int)=((t/b:Nat):Int):=by rw [Int.tdiv_eq_ediv_of_nonneg (by omega),Int.natCast_ediv]
theorem tm (t b:Nat):(t:Int).tmod (b:Int)=((t % b:Nat):Int):=by rw [Int.tmod_eq_emod_of_nonneg (by omega),Int.natCast_emod]
theorem mc (t:Int) (b:Nat) (w:World) (hb:1≤b):
  Calls Tryz.prog 239 #[.agg #[.int .i64 t, .int .i64 (b:Int)]] w fun e w'=>e= .returned (.bool (decide (1000000 % b=0)))∧Below w.heap.size w w':=by
 have e1:(1000000:Int).tmod (b:Int)=((1000000 % b:Nat):Int):=tm 1000000 b;have e0:((b:Int)==0)=false:=beq_eq_false_iff_ne.mpr (by omega)
 by_cases h:1000000 % b=0
 ·rw [decide_eq_true h]
  have e2:(((1000000 % b:Nat):Int)==0)=true:=beq_iff_eq.mpr (by omega);generalize 1000000 % b=q at e1 e2;clear h
  go_enter Tryz.func239,Tryz.ntmps239
  go_wp2;go_ret;exact ⟨rfl,(Below.refl _ _).alloc (agD _) _⟩
 ·rw [decide_eq_false h]
  have e2:(((1000000 % b:Nat):Int)==0)=false:=beq_eq_false_iff_ne.mpr (by omega);generalize 1000000 % b=q at e1 e2;clear h
  go_enter Tryz.func239,Tryz.ntmps239
  go_wp2;go_ret;exact ⟨rfl,(Below.refl _ _).alloc (agD _) _⟩
theorem ke {s:ByteArray} {l:List UInt8} (h:s.data.toList=l):s=⟨l.toArray⟩:=by
 apply ByteArray.ext;rw [←h]
theorem pa (t b:Nat) (w:World) (ht:t≤1000000000) (hb:1≤b) (Aa:b≤1000000) (hd:1000000 % b=0) (Al:Tab w):
  Calls Tryz.prog 261 #[.agg #[.int .i64 (t:Int), .int .i64 (b:Int)]] w fun e w'=>e= .returned (.string ⟨(aO t b).toArray⟩)∧Below w.heap.size w w':=by
 have e0:((b:Int)==0)=false:=beq_eq_false_iff_ne.mpr (by omega);have e1:=td t b;have e2:=tm t b;have e3:(1000000:Int).tdiv (b:Int)=((1000000/b:Nat):Int):=td 1000000 b;have SE:=agC (abv t b hb hd);have Fs:=agC (show aO t b=Lib.decDigits (t/b)++(if t % b=0 then [] else 46::frs 6 (t % b) b) from rfl);have q1:t/b≤1000000000:=Nat.le_trans (Nat.div_le_self _ _) ht;have Ft:t % b<b:=Nat.mod_lt _ (by omega)
 have q2:t % b<1000000:=by omega
 have q3:1000000/b≤1000000:=Nat.div_le_self _ _
 have q4:t % b*(1000000/b)<1000000:=by
  have Dz:b*(1000000/b)=1000000:=by have:=Nat.div_add_mod 1000000 b;omega
  have h1:(t % b+1)*(1000000/b)≤b*(1000000/b):=Nat.mul_le_mul_right _ (by omega);rw [Nat.add_mul,Nat.one_mul] at h1
  have hm:0<1000000/b:=by rcases Nat.eq_zero_or_pos (1000000/b) with h|h;(rw [h] at Dz;omega);exact h
  omega
 clear hd Ft;generalize t/b=Q at*;generalize t % b=r at*;generalize 1000000/b=m at*;have z1:=di Q (by omega)
 by_cases hr:r=0
 ·subst hr
  rw [if_pos rfl,List.append_nil] at Fs
  go_enter Tryz.func261,Tryz.ntmps261
  go_wp2_with fail;refine (jc Q (by omega) _ (Al.al _)).mono ?_;rintro e w1 ⟨rfl,AO⟩;have F1:Hid (FrAt w1 w.heap.size (t:Int) (b:Int)):=FrAt.keep (FrAt.new _ _ _ _) AO;obtain ⟨d0,d1⟩:=F1.out;have Af:=agC (((Below.refl _ w).alloc (agD _) _).trans (AO.mono (by simp)));clear AO;go_wp2;go_ret;exact ⟨by rw [Fs.out];rfl,Af.out⟩
 ·have er:((r:Int)==0)=false:=beq_eq_false_iff_ne.mpr (by omega)
  rw [if_neg hr] at Fs;clear hr
  have SF:(r:Int)*(m:Int)=((r*m:Nat):Int):=by rw [Int.natCast_mul]
  generalize hx:r*m=x at*;have HX:=agC hx;clear hx;have z2:=di (1000000+x) (by omega)
  have At:1≤(dh (1000000+x)).size:=by
   show 1≤(Lib.decDigits (1000000+x)).toArray.size
   have:=List.length_pos_iff.mpr (nQ (1000000+x))
   simp;omega
  go_enter Tryz.func261,Tryz.ntmps261
  go_wp2_with fail;refine (jc Q (by omega) _ (Al.al _)).mono ?_;rintro e w1 ⟨rfl,AO⟩;have F1:Hid (FrAt w1 w.heap.size (t:Int) (b:Int)):=FrAt.keep (FrAt.new _ _ _ _) AO;have T1:=agC ((Al.al _).keep AO);obtain ⟨d0,d1⟩:=F1.out;have Af:=agC (((Below.refl _ w).alloc (agD _) _).trans (AO.mono (by simp)));clear AO;go_wp2_with fail;rw [show (1000000:Int)+(x:Int)=((1000000+x:Nat):Int) by omega];refine (jc (1000000+x) (by omega) _ T1.out).mono ?_;rintro e w2 ⟨rfl,Ae⟩;have Ak:=agC (Af.out.trans (Ae.mono Af.out.size));clear Ae;go_wp2_with fail;refine (Tryz.strings_TrimRight_one _ 48 (by decide) _ (by rw [ByteArray.size_extract];omega)).mono ?_;rintro e w' ⟨rfl,rfl⟩
  have QN:(⟨(Lib.trimRightB ((dh (1000000+x)).extract 1 (dh (1000000+x)).size).data.toList 48).toArray⟩:ByteArray)=⟨(frs 6 r b).toArray⟩:=by
   have e:((dh (1000000+x)).extract 1 (dh (1000000+x)).size).data.toList=(Lib.decDigits (1000000+x)).drop 1:=by
    have e1:((dh (1000000+x)).extract 1 (dh (1000000+x)).size).data.toList=((dh (1000000+x)).data.toList.drop 1).take ((dh (1000000+x)).size-1):=by simp [ByteArray.data_extract]
    rw [e1,List.take_of_length_le (by rw [List.length_drop,Array.length_toList];exact agD _),yW]
   rw [e,SE.out]
  rw [QN]
  have z4:(⟨(frs 6 r b).toArray⟩:ByteArray).size≤6:=by
   have:=nd 6 r b
   show (frs 6 r b).toArray.size≤6
   simpa using this
  have HR:=agC (show (dh Q++⟨#[46]⟩++⟨(frs 6 r b).toArray⟩:ByteArray)=⟨(aO t b).toArray⟩ by
   rw [Fs.out];apply ke;simp [dh])
  generalize (⟨(frs 6 r b).toArray⟩:ByteArray)=Z at*;clear QN;go_wp2;go_ret;exact ⟨by rw [←HR.out];rfl,Ak.out⟩
theorem sG (t b:Nat) (w:World) (ht:t≤1000000000) (hb:1≤b) (Aa:b≤1000000) (Al:Tab w):
 Calls Tryz.prog 252 #[.agg #[.int .i64 (t:Int), .int .i64 (b:Int)]] w fun e w'=>e= .returned (.string ⟨(aA t b).toArray⟩)∧Below w.heap.size w w':=by
 have f0:decide ((t:Int)<0)=false:=decide_eq_false (by omega)
 by_cases hd:1000000 % b=0
 ·have HD:=agC hd
  have HP:=agC (show aA t b=aO t b by rw [aA,if_pos hd]);clear hd
  go_enter Tryz.func252,Tryz.ntmps252
  go_wp2_with fail;refine (mc (t:Int) b _ hb).mono ?_;rintro e w1 ⟨rfl,AO⟩;rw [decide_eq_true HD.out];have F1:Hid (FrAt w1 w.heap.size (t:Int) (b:Int)):=FrAt.keep (FrAt.new _ _ _ _) AO;have T1:=agC ((Al.al _).keep AO);obtain ⟨d0,d1⟩:=F1.out;have Af:=agC (((Below.refl _ w).alloc (agD _) _).trans (AO.mono (by simp)));clear AO;go_wp2_with fail;refine (pa t b _ ht hb Aa HD.out T1.out).mono ?_;rintro e w2 ⟨rfl,Ae⟩;have Ak:=agC (Af.out.trans (Ae.mono Af.out.size));clear Ae;go_wp2;go_ret;exact ⟨by rw [HP.out];rfl,Ak.out⟩
 ·have HD:=agC hd
  have HP:=agC (show (dh t++⟨#[47]⟩++dh b:ByteArray)=⟨(aA t b).toArray⟩ by
   rw [aA,if_neg hd];apply ke;simp [dh])
  clear hd;have z1:=di t (by omega);have z2:=di b (by omega)
  have r1: ¬9223372036854775807<(dh t).size+1:=by omega
  have r2: ¬9223372036854775807<(dh t).size+1+(dh b).size:=by omega
  go_enter Tryz.func252,Tryz.ntmps252
  go_wp2_with fail;refine (mc (t:Int) b _ hb).mono ?_;rintro e w1 ⟨rfl,AO⟩;rw [decide_eq_false HD.out];have F1:Hid (FrAt w1 w.heap.size (t:Int) (b:Int)):=FrAt.keep (FrAt.new _ _ _ _) AO;have T1:=agC ((Al.al _).keep AO);obtain ⟨d0,d1⟩:=F1.out;have AU:w.heap.size<w1.heap.size:=F1.out.lt;have Af:=agC (((Below.refl _ w).alloc (agD _) _).trans (AO.mono (by simp)));clear AO;go_wp2_with fail
  go_region_held3 (fun w'=>w'.cell? ⟨w.heap.size,0,none⟩=some (.int .i64 (t:Int))∧w'.cell? ⟨w.heap.size,1,none⟩=some (.int .i64 (b:Int)))
   (first
     |go_keep
     |(go_split_ands
       refine ⟨?_, ?_⟩
       ·(first|(rw [Ag.cell (by show w.heap.size<_;have:=Ae.size;simp at this;omega)];assumption)|(rw [Ae.cell (by exact AU)];assumption))
       ·(first|(rw [Ag.cell (by show w.heap.size<_;have:=Ae.size;simp at this;omega)];assumption)|(rw [Ae.cell (by exact AU)];assumption))))
   (first
     |((go_at_call 262;(with_reducible refine (jc t (by omega) _ ?_).mono ?_);(focus (first|exact T1.out|exact T1.out.drew|exact T1.out.drew.keep Ae|exact T1.out.keep Ae));(first|(rintro e w2 ⟨rfl,Ae⟩;done)|rintro e w2 ⟨rfl,Ae⟩)))
     |((go_at_call 262;(with_reducible refine (jc b (by omega) _ ?_).mono ?_);(focus (first|exact T1.out|exact T1.out.drew|exact T1.out.drew.keep Ae|exact T1.out.keep Ae));rintro e w3 ⟨rfl,Ag⟩)))
  have Ap:=agC (Af.out.drew.trans ((Ae.mono Af.out.size).trans (Ag.mono (by have:=Af.out.size;have:=Ae.size;simp at this;omega))));clear Ae Ag;go_wp2;go_ret;exact ⟨by rw [←HP.out];rfl,Ap.out⟩
theorem qJ (t b:Int) (w:World) (ht: -1000000000≤t∧t≤1000000000) (hb:1≤b∧b≤1000000):
  Calls Tryz.prog 260 #[.agg #[.int .i64 t, .int .i64 b]] w fun e w'=>e= .returned (.agg #[.int .i64 (-t), .int .i64 b])∧Below w.heap.size w w':=by
 obtain ⟨Vh,EN⟩:=ht;obtain ⟨Vi,Vj⟩:=hb
 go_enter Tryz.func260,Tryz.ntmps260
 go_wp2;exact bodyPost_ret (v:= .agg #[.int .i64 (-t), .int .i64 b]) (by simp [results,Tryz.results260,go_sem]) rfl ⟨rfl,(((Below.refl _ w).alloc (agD _) _).alloc (by simp) _)⟩
theorem abw (t b:Int) (w:World) (hv:vB t b=true) (Al:Tab w):
  Calls Tryz.prog 252 #[.agg #[.int .i64 t, .int .i64 b]] w fun e w'=>e= .returned (.string ⟨(fQ t b).toArray⟩)∧Below w.heap.size w w':=by
 obtain ⟨v1,v2,v3,v4⟩:=gN hv;obtain ⟨b',rfl⟩:=agG (show 0≤b by omega)
 by_cases hn:t<0
 ·obtain ⟨t',Hl⟩:=agG (show 0≤ -t by omega)
  have Ai:(aA t' b').length≤100:=by
   unfold aA aO;have l1:=fD (t'/b') (by have:=Nat.div_le_self t' b';omega);have l2:=fD t' (by omega);have l3:=fD b' (by omega);have l4:=nd 6 (t' % b') b'
   split
   ·split
    ·simp;omega
    ·simp;omega
   ·simp;omega
  have Au:(⟨(aA t' b').toArray⟩:ByteArray).size≤100:=by show (aA t' b').toArray.size≤100;simpa using Ai
  have HR:=agC (show (⟨#[45]⟩++⟨(aA t' b').toArray⟩:ByteArray)=⟨(fQ t b').toArray⟩ by
   rw [fQ,if_pos hn,Hl];apply ke;simp)
  have hc:=fun w' (h:Tab w')=>sG t' b' w' (by omega) (by omega) (by omega) h
  generalize (⟨(aA t' b').toArray⟩:ByteArray)=Z at*;have HC:=agC hc;clear hc Ai;have SG:=agC Hl
  go_enter Tryz.func252,Tryz.ntmps252
  clear Hl;go_wp2_with fail;refine (qJ t (b':Int) _ (by omega) (by omega)).mono ?_;rintro e w0 ⟨rfl,Cu⟩;have T0:=agC ((Al.al _).keep Cu);have AK:=agC (((Below.refl _ w).alloc (agD _) _).trans (Cu.mono (by simp)));clear Cu;rw [SG.out];go_wp2_with fail;refine (HC.out _ T0.out).mono ?_;rintro e w1 ⟨rfl,Aa⟩;have Af:=agC (AK.out.trans (Aa.mono AK.out.size));clear Aa;go_wp2;go_ret;exact ⟨by rw [←HR.out];rfl,Af.out⟩
 ·obtain ⟨t',rfl⟩:=agG (show 0≤t by omega)
  have:=sG t' b' w (by omega) (by omega) (by omega) Al;rw [fQ,if_neg hn];exact this
theorem gO (t b:Int) (w:World) (Al:Tab w):
  Calls Tryz.prog 246 #[.agg #[.int .i64 t, .int .i64 b]] w fun e w'=>e= .returned (.string ⟨(aJ t b).toArray⟩)∧Below w.heap.size w w':=by
 cases hv:vB t b with
 |true=>
  have HV:=agC hv;have HT:=agC (show aJ t b=fQ t b by rw [aJ,if_pos hv]);clear hv
  go_enter Tryz.func246,Tryz.ntmps246
  go_wp2_with fail;refine (f6 t b _).mono ?_;rintro e w1 ⟨rfl,Aa⟩;rw [HV.out];have F1:Hid (FrAt w1 w.heap.size t b):=FrAt.keep (FrAt.new _ _ _ _) Aa;have T1:=agC ((Al.al _).keep Aa);obtain ⟨d0,d1⟩:=F1.out;have Af:=agC (((Below.refl _ w).alloc (agD _) _).trans (Aa.mono (by simp)));clear Aa;go_wp2_with fail;refine (abw t b _ HV.out T1.out).mono ?_;rintro e w2 ⟨rfl,Ae⟩;have Ak:=agC (Af.out.trans (Ae.mono Af.out.size));clear Ae;go_wp2;go_ret;exact ⟨by rw [HT.out];rfl,Ak.out⟩
 |false=>
  have HV:=agC hv;have HT:=agC (show aJ t b=[] by rw [aJ,hv];rfl);clear hv
  go_enter Tryz.func246,Tryz.ntmps246
  go_wp2_with fail;refine (f6 t b _).mono ?_;rintro e w1 ⟨rfl,Aa⟩;rw [HV.out];have Af:=agC (((Below.refl _ w).alloc (agD _) _).trans (Aa.mono (by simp)));clear Aa;go_wp2;go_ret;exact ⟨by rw [HT.out];rfl,Af.out⟩
def lq (p q:List UInt8):Bool:=dOK p 10&&dOK q 10
def slT (p q:List UInt8):Int:=if lq p q=true then ((bI p:Nat):Int) else 0
def slB (p q:List UInt8):Int:=if lq p q=true then ((bI q:Nat):Int) else 0
def ZeroF (w':World) (N:Nat):Prop:=w'.cell? ⟨N,0,none⟩=some (.int .i64 0)∧w'.cell? ⟨N,1,none⟩=some (.int .i64 0)∧w'.frozen? ⟨N,0,none⟩=false∧w'.frozen? ⟨N,1,none⟩=false∧N<w'.heap.size
theorem ZeroF.new (w:World) (t:TypeId):ZeroF (w.alloc (.cells #[.int .i64 0, .int .i64 0] t)) w.heap.size:=by refine ⟨?_, ?_, ?_, ?_, ?_⟩<;>simp [go_sem]
theorem ZeroF.keep {W w1:World} {N:Nat} (h:ZeroF W N) (hb:Below W.heap.size W w1):ZeroF w1 N:=by
 obtain ⟨h0,h1,h2,h3,h4⟩:=h;obtain ⟨hc,hf⟩:=pE hb;have hs:=hb.size;exact ⟨(hc _ _ h4).trans h0,(hc _ _ h4).trans h1,(hf _ _ h4).trans h2,(hf _ _ h4).trans h3,by omega⟩
theorem ZeroF.al {W:World} {N:Nat} (h:ZeroF W N) (o:Obj):ZeroF (W.alloc o) N:=h.keep ((Below.refl _ W).alloc (agD _) _)
theorem pb (p q:ByteArray) (w:World) (hp:p.size≤maxLen) (hq:q.size≤maxLen):
  Calls Tryz.prog 250 #[.string p, .string q] w fun e w'=>e=fr (slT p.data.toList q.data.toList) (slB p.data.toList q.data.toList) (lq p.data.toList q.data.toList)∧Below w.heap.size w w':=by
 have HP:=agC hp;have HQ:=agC hq;clear hp hq
 cases h1:dOK p.data.toList 10 with
 |true=>
  cases h2:dOK q.data.toList 10 with
  |true=>
   have HO:=agC (show lq p.data.toList q.data.toList=true by simp [lq,h1,h2]);have HT:=agC (show slT p.data.toList q.data.toList=((dN p.data.toList 10:Nat):Int) by rw [slT,if_pos HO.out,dN,if_pos h1]);have HB:=agC (show slB p.data.toList q.data.toList=((dN q.data.toList 10:Nat):Int) by rw [slB,if_pos HO.out,dN,if_pos h2]);rw [HO.out,HT.out,HB.out];have H1:=agC h1;have H2:=agC h2;clear h1 h2
   go_enter Tryz.func250,Tryz.ntmps250
   go_wp2_with fail;refine (aB p 10 _ HP.out (by omega)).mono ?_;rintro e w' ⟨rfl,rfl⟩;rw [H1.out];go_wp2_with fail;refine (aB q 10 _ HQ.out (by omega)).mono ?_;rintro e w' ⟨rfl,rfl⟩;rw [H2.out];generalize BO:dN p.data.toList 10=n1;generalize DE:dN q.data.toList 10=n2;have FB:=agC BO;have Gk:=agC DE;clear BO DE;go_wp2;exact bodyPost_ret (v:= .tuple #[.agg #[.int .i64 (n1:Int), .int .i64 (n2:Int)], .bool true]) (by simp [results,Tryz.results250,go_sem]) rfl ⟨by rw [FB.out,Gk.out],(Below.refl _ w).alloc (agD _) _⟩
  |false=>
   have HO:=agC (show lq p.data.toList q.data.toList=false by simp [lq,h2]);rw [HO.out,show slT p.data.toList q.data.toList=0 by simp [slT,HO.out],show slB p.data.toList q.data.toList=0 by simp [slB,HO.out]];have H1:=agC h1;have H2:=agC h2;clear h1 h2
   go_enter Tryz.func250,Tryz.ntmps250
   go_wp2_with fail;refine (aB p 10 _ HP.out (by omega)).mono ?_;rintro e w' ⟨rfl,rfl⟩;rw [H1.out];go_wp2_with fail;refine (aB q 10 _ HQ.out (by omega)).mono ?_;rintro e w' ⟨rfl,rfl⟩;rw [H2.out];generalize dN p.data.toList 10=n1;generalize dN q.data.toList 10=n2;go_wp2;exact bodyPost_ret (v:= .tuple #[.agg #[.int .i64 0, .int .i64 0], .bool false]) (by simp [results,Tryz.results250,go_sem]) rfl ⟨rfl,(Below.refl _ w).alloc (agD _) _⟩
 |false=>
  have HO:=agC (show lq p.data.toList q.data.toList=false by simp [lq,h1]);rw [HO.out,show slT p.data.toList q.data.toList=0 by simp [slT,HO.out],show slB p.data.toList q.data.toList=0 by simp [slB,HO.out]];have H1:=agC h1;clear h1
  go_enter Tryz.func250,Tryz.ntmps250
  go_wp2_with fail;refine (aB p 10 _ HP.out (by omega)).mono ?_;rintro e w' ⟨rfl,rfl⟩;rw [H1.out];go_wp2_with fail;refine (aB q 10 _ HQ.out (by omega)).mono ?_;rintro e w' ⟨rfl,rfl⟩;generalize dN p.data.toList 10=n1;generalize dN q.data.toList 10=n2;generalize dOK q.data.toList 10=o2;go_wp2;exact bodyPost_ret (v:= .tuple #[.agg #[.int .i64 0, .int .i64 0], .bool false]) (by simp [results,Tryz.results250,go_sem]) rfl ⟨rfl,(Below.refl _ w).alloc (agD _) _⟩
def unT (s:ByteArray):Int:=if fW s 47=true then slT (eE s 47).data.toList (eo s 47).data.toList else opT (bu s.data.toList) (aW s.data.toList) (aX s.data.toList)
def unB (s:ByteArray):Int:=if fW s 47=true then slB (eE s 47).data.toList (eo s 47).data.toList else opB (bu s.data.toList) (aW s.data.toList) (aX s.data.toList)
def pc (s:ByteArray):Bool:=if fW s 47=true then lq (eE s 47).data.toList (eo s 47).data.toList else fs (bu s.data.toList) (aW s.data.toList) (aX s.data.toList)
theorem abx (s:ByteArray):(eE s 47).size≤s.size∧(eo s 47).size≤s.size:=by
 unfold eE eo
 constructor
 ·split
  ·exact agD _
  ·rw [ByteArray.size_extract];omega
 ·split
  ·show (0:Nat)≤_;omega
  ·rw [ByteArray.size_extract];omega
theorem md (s:ByteArray) (w:World) (hs:s.size≤2097152):
  Calls Tryz.prog 245 #[.string s] w fun e w'=>e=fr (unT s) (unB s) (pc s)∧Below w.heap.size w w':=by
 obtain ⟨z1,z2⟩:=abx s;unfold unT unB pc
 cases hc:fW s 47 with
 |true=>
  have HC:=agC hc;clear hc;simp only [if_true]
  have cr:=fun w'=>pb (eE s 47) (eo s 47) w' (by unfold maxLen;omega) (by unfold maxLen;omega)
  generalize slT (eE s 47).data.toList (eo s 47).data.toList=T at*;generalize slB (eE s 47).data.toList (eo s 47).data.toList=B at*;generalize lq (eE s 47).data.toList (eo s 47).data.toList=ok at*;have CR:=agC cr;clear cr
  go_enter Tryz.func245,Tryz.ntmps245
  go_wp2_with fail;refine (fC s 47 _ (by unfold maxLen;omega)).mono ?_;rintro e w1 ⟨rfl,Aa⟩;rw [HC.out];have Z1:=agC ((ZeroF.new w 170).keep Aa);have Af:=agC (((Below.refl _ w).alloc (agD _) _).trans (Aa.mono (by simp)));clear Aa;go_wp2_with fail;refine (CR.out _).mono ?_;rintro e w2 ⟨rfl,Ae⟩;have Z2:=agC (Z1.out.keep Ae);have Ak:=agC (Af.out.trans (Ae.mono Af.out.size));clear Ae Z1;obtain ⟨u0,u1,u2,u3,u4⟩:=Z2.out;go_wp2;exact bodyPost_ret (v:= .tuple #[.agg #[.int .i64 T, .int .i64 B], .bool ok]) (by simp [results,Tryz.results245,go_sem,u0,u1]) rfl ⟨rfl,(Ak.out.setCell (agD _) _).setCell (agD _) _⟩
 |false=>
  have HC:=agC hc;clear hc;simp only [Bool.false_eq_true,if_false]
  have cr:=fun w'=>lp s w' hs
  generalize opT (bu s.data.toList) (aW s.data.toList) (aX s.data.toList)=T at*;generalize opB (bu s.data.toList) (aW s.data.toList) (aX s.data.toList)=B at*;generalize fs (bu s.data.toList) (aW s.data.toList) (aX s.data.toList)=ok at*;have CR:=agC cr;clear cr
  go_enter Tryz.func245,Tryz.ntmps245
  go_wp2_with fail;refine (fC s 47 _ (by unfold maxLen;omega)).mono ?_;rintro e w1 ⟨rfl,Aa⟩;rw [HC.out];have Z1:=agC ((ZeroF.new w 170).keep Aa);have Af:=agC (((Below.refl _ w).alloc (agD _) _).trans (Aa.mono (by simp)));clear Aa;go_wp2_with fail;refine (CR.out _).mono ?_;rintro e w2 ⟨rfl,Ae⟩;have Z2:=agC (Z1.out.keep Ae);have Ak:=agC (Af.out.trans (Ae.mono Af.out.size));clear Ae Z1;obtain ⟨u0,u1,u2,u3,u4⟩:=Z2.out;go_wp2;exact bodyPost_ret (v:= .tuple #[.agg #[.int .i64 T, .int .i64 B], .bool ok]) (by simp [results,Tryz.results245,go_sem,u0,u1]) rfl ⟨rfl,(Ak.out.setCell (agD _) _).setCell (agD _) _⟩
def ae (s:ByteArray):ByteArray:=⟨(Lib.trimPrefix s.data.toList [45]).toArray⟩
def ft (s:ByteArray):Bool:=Lib.hasPrefix s.data.toList [45]
def ib (s:ByteArray):Int:=if ft s=true then-unT (ae s) else unT (ae s)
def fx (s:ByteArray):Bool:=pc (ae s)&&(aJ (ib s) (unB (ae s))==s.data.toList)
def rdT (s:ByteArray):Int:=if fx s=true then ib s else 0
def rdB (s:ByteArray):Int:=if fx s=true then unB (ae s) else 0
theorem gn (s:ByteArray):(ae s).size≤s.size:=by
 show (Lib.trimPrefix s.data.toList [45]).toArray.size≤_
 have hl:s.data.toList.length=s.size:=by rw [Array.length_toList];rfl
 unfold Lib.trimPrefix
 split
 ·simp only [List.size_toArray,List.length_drop];omega
 ·simp only [List.size_toArray];omega
theorem eqL (l:List UInt8) (s:ByteArray):((⟨l.toArray⟩:ByteArray).toList==s.toList)=(l==s.data.toList):=by
 rw [ByteArray.toList_eq,ByteArray.toList_eq]
theorem aff (s:ByteArray): -10000000000≤unT s∧unT s≤10000000000:=by
 unfold unT
 split
 ·unfold slT
  split
  ·rename_i h
   simp only [lq,Bool.and_eq_true,eJ] at h;have:=fB _ h.1.2.2 h.1.2.1
   omega
  ·omega
 ·unfold opT
  split
  ·unfold mkT
   split
   ·rename_i h
    have:=gN h
    omega
   ·omega
  ·omega
theorem lr (s:ByteArray) (w:World) (hs:s.size≤2097152) (Al:Tab w):
  Calls Tryz.prog 238 #[.string s] w fun e w'=>e=fr (rdT s) (rdB s) (fx s)∧Below w.heap.size w w':=by
 have zb:=gn s;obtain ⟨y1,y2⟩:=aff (ae s);have SH:=agC (show ib s=if ft s=true then-unT (ae s) else unT (ae s) from rfl);have Bj:=agC (show fx s=(pc (ae s)&&(aJ (ib s) (unB (ae s))==s.data.toList)) from rfl);have Ji:=agC (show rdT s=if fx s=true then ib s else 0 from rfl);have Jn:=agC (show rdB s=if fx s=true then unB (ae s) else 0 from rfl);have CU:=agC (fun w'=>md (ae s) w' (by omega));have BA:=agC (eqL (aJ (ib s) (unB (ae s))) s);have CT:=agC (fun w' (h:Tab w')=>gO (ib s) (unB (ae s)) w' h);have Lr:=agC (show (⟨(Lib.trimPrefix s.data.toList ({data:= #[45]}:ByteArray).data.toList).toArray⟩:ByteArray)=ae s from rfl);have GB:=agC (show Lib.hasPrefix s.data.toList ({data:= #[45]}:ByteArray).data.toList=ft s from rfl);clear zb;generalize unT (ae s)=T at*;generalize unB (ae s)=B at*;generalize pc (ae s)=ok at*;generalize ib s=TT at*;generalize fx s=good at*;generalize rdT s=RT at*;generalize rdB s=RB at*
 have goal1: ∀(neg:Bool),ft s=neg→Calls Tryz.prog 238 #[.string s] w fun e w'=>e=fr RT RB good∧Below w.heap.size w w':=by
  intro neg Jz;have Ol:=agC Jz
  have Ls:TT=if neg=true then-T else T:=by rw [SH.out,Jz]
  clear Jz
  cases ok with
  |false=>
   have hg:good=false:=by rw [Bj.out];rfl
   have hr:RT=0:=by rw [Ji.out,hg];rfl
   have Ft:RB=0:=by rw [Jn.out,hg];rfl
   rw [hg,hr,Ft];clear hg hr Ft Ls
   cases neg
   all_goals
    go_enter Tryz.func238,Tryz.ntmps238
    go_wp2_with fail;refine (Tryz.strings_CutPrefix s ⟨#[45]⟩ _).mono ?_;rintro e w1 ⟨rfl,AU⟩;subst AU;rw [Lr.out,GB.out,Ol.out];go_wp2_with fail;refine (CU.out _).mono ?_;rintro e w2 ⟨rfl,Ae⟩;have Z2:=agC ((ZeroF.new w 170).keep Ae);have hN:w.heap.size<w2.heap.size:=Z2.out.2.2.2.2
    have Dg:w.heap.size≠w2.heap.size:=by omega
    have Ak:=agC (((Below.refl _ w).alloc (agD _) _).trans (Ae.mono (by simp)));clear Ae;obtain ⟨u0,u1,u2,u3,u4⟩:=Z2.out;go_wp2
    have rd: ∀(x y:Value) (o:Obj) (k:Nat),(((w2.setCell ⟨w.heap.size,0,none⟩ x).setCell ⟨w.heap.size,1,none⟩ y).alloc o).cell? ⟨w.heap.size,k,none⟩=((w2.setCell ⟨w.heap.size,0,none⟩ x).setCell ⟨w.heap.size,1,none⟩ y).cell? ⟨w.heap.size,k,none⟩:=fun x y o k=>World.cell?_alloc_lt _ _ _ (by simpa [World.setCell] using hN)
    refine bodyPost_ret (v:= .tuple #[.agg #[.int .i64 0, .int .i64 0], .bool false]) (by simp [results,Tryz.results238,go_sem,rd,u0,u1]) rfl ⟨rfl, ?_⟩;exact ((Ak.out.setCell (agD _) _).setCell (agD _) _).alloc (by have:=Ak.out.size;simpa [World.setCell] using this) _
  |true=>
   cases hE:(aJ TT B==s.data.toList) with
   |false=>
    have hg:good=false:=by rw [Bj.out,hE];rfl
    have hr:RT=0:=by rw [Ji.out,hg];rfl
    have Ft:RB=0:=by rw [Jn.out,hg];rfl
    rw [hg,hr,Ft];rw [hE] at BA;clear hg hr Ft hE;generalize (⟨(aJ TT B).toArray⟩:ByteArray)=Z at*;have FC:(Z.toList==s.toList)=false:=BA.out
    cases neg
    all_goals
     simp only [Bool.false_eq_true,if_false,if_true] at Ls;subst Ls
     go_enter Tryz.func238,Tryz.ntmps238
     go_wp2_with fail;refine (Tryz.strings_CutPrefix s ⟨#[45]⟩ _).mono ?_;rintro e w1 ⟨rfl,AU⟩;subst AU;rw [Lr.out,GB.out,Ol.out];go_wp2_with fail;refine (CU.out _).mono ?_;rintro e w2 ⟨rfl,Ae⟩;have Z2:=agC ((ZeroF.new w 170).keep Ae);have T2:=agC ((Al.al _).keep Ae);have Ak:=agC (((Below.refl _ w).alloc (agD _) _).trans (Ae.mono (by simp)));clear Ae;go_wp2_with fail;refine (CT.out _ (T2.out.al _)).mono ?_;rintro e w3 ⟨rfl,Ag⟩;have Z3:=agC ((Z2.out.al _).keep Ag);have Ap:=agC ((Ak.out.alloc Ak.out.size _).trans (Ag.mono (by have:=Ak.out.size;simp;omega)));clear Ag;obtain ⟨u0,u1,u2,u3,u4⟩:=Z3.out;go_wp2;exact bodyPost_ret (v:= .tuple #[.agg #[.int .i64 0, .int .i64 0], .bool false]) (by simp [results,Tryz.results238,go_sem,u0,u1]) rfl ⟨rfl,(Ap.out.setCell (agD _) _).setCell (agD _) _⟩
   |true=>
    have hg:good=true:=by rw [Bj.out,hE];rfl
    have hr:RT=TT:=by rw [Ji.out,hg];rfl
    have Ft:RB=B:=by rw [Jn.out,hg];rfl
    rw [hg,hr,Ft];rw [hE] at BA;clear hg hr Ft hE;generalize (⟨(aJ TT B).toArray⟩:ByteArray)=Z at*;have FC:(Z.toList==s.toList)=true:=BA.out
    cases neg
    all_goals
     simp only [Bool.false_eq_true,if_false,if_true] at Ls;subst Ls
     go_enter Tryz.func238,Tryz.ntmps238
     go_wp2_with fail;refine (Tryz.strings_CutPrefix s ⟨#[45]⟩ _).mono ?_;rintro e w1 ⟨rfl,AU⟩;subst AU;rw [Lr.out,GB.out,Ol.out];go_wp2_with fail;refine (CU.out _).mono ?_;rintro e w2 ⟨rfl,Ae⟩;have Z2:=agC ((ZeroF.new w 170).keep Ae);have T2:=agC ((Al.al _).keep Ae);have Ak:=agC (((Below.refl _ w).alloc (agD _) _).trans (Ae.mono (by simp)));clear Ae;go_wp2_with fail;refine (CT.out _ (T2.out.al _)).mono ?_;rintro e w3 ⟨rfl,Ag⟩;have Z3:=agC ((Z2.out.al _).keep Ag);have F3:=agC (FrAt.keep (FrAt.new _ _ _ _) Ag);have Ap:=agC ((Ak.out.alloc Ak.out.size _).trans (Ag.mono (by have:=Ak.out.size;simp;omega)));clear Ag;obtain ⟨u0,u1,u2,u3,u4⟩:=Z3.out;obtain ⟨d0,d1⟩:=F3.out;go_wp2;exact bodyPost_ret (v:= .tuple #[.agg #[.int .i64 _, .int .i64 B], .bool true]) (by simp [results,Tryz.results238,go_sem,u0,u1]) rfl ⟨rfl,(Ap.out.setCell (agD _) _).setCell (agD _) _⟩
 exact goal1 (ft s) rfl
theorem yX (l:List UInt8) (c:UInt8):(Lib.indexByte l c= -1∧c∉l)∨ ∃k:Nat,Lib.indexByte l c=k∧k<l.length∧c∉l.take k∧l=l.take k++c::l.drop (k+1):=by
 induction l with
 |nil=>left;simp [Lib.indexByte]
 |cons b t ih=>
  simp only [Lib.indexByte]
  by_cases hb:(b==c)=true
  ·right
   refine ⟨0, ?_,by simp,by simp, ?_⟩
   ·rw [if_pos hb];rfl
   ·simp at hb;simp [hb]
  ·rw [if_neg hb]
   have Dy:c≠b:=by intro e;apply hb;simp [e]
   rcases ih with ⟨h1,h2⟩|⟨k,h1,h2,h3,h4⟩
   ·left
    rw [if_pos (by rw [h1];rfl)];exact ⟨rfl,by simp [Dy,h2]⟩
   ·right
    refine ⟨k+1, ?_,by simp [h2],by simp [Dy,h3], ?_⟩
    ·rw [if_neg (by rw [h1,beq_iff_eq];omega),h1];omega
    ·simp only [List.take_succ_cons,List.drop_succ_cons,List.cons_append]
     rw [←h4]
theorem jH {n:Nat} (h:n<10):isD (dgt n)=true∧(dgt n).toNat-48=n:=by
 have e:(dgt n).toNat=48+n:=by unfold dgt;rw [UInt8.toNat_ofNat_of_lt' (by simp [UInt8.size];omega)]
 refine ⟨?_,by omega⟩
 simp [isD,e];omega
theorem cd (n:Nat):d8 (Lib.decDigits n)=true∧bI (Lib.decDigits n)=n:=by
 induction n using Nat.strongRecOn with
 |ind n ih=>
  by_cases h:n<10
  ·rw [e8 h]
   refine ⟨by simp [d8,(jH h).1], ?_⟩;have:=eV [] (dgt n);rw [List.nil_append] at this;rw [this,abk,(jH h).2];omega
  ·have hm:n % 10<10:=Nat.mod_lt _ (by omega)
   obtain ⟨i1,i2⟩:=ih (n/10) (by omega);rw [jG h,hY,eV,i1,i2,(jH hm).1,(jH hm).2];exact ⟨rfl,by omega⟩
theorem me (k:Nat): ∀n,n<10^(k+1)→(Lib.decDigits n).length≤k+1:=by
 induction k with
 |zero=>intro n h;rw [e8 (by simpa using h)];simp
 |succ k ih=>
  intro n h
  by_cases h9:n<10
  ·rw [e8 h9];simp
  ·rw [jG h9,agE]
   have:=ih (n/10) (by rw [Nat.pow_succ] at h;omega)
   simp;omega
theorem qK {n m k:Nat} (h:n<10^(k+1)) (hk:k+1≤m):dOK (Lib.decDigits n) m=true:=by
 rw [eJ];exact ⟨List.length_pos_iff.mpr (nQ n),Nat.le_trans (me k n h) hk,(cd n).1⟩
theorem iD (f:Nat): ∀r b,r<b→d8 (frs f r b)=true:=by
 induction f with
 |zero=>intro r b _;rfl
 |succ f ih=>
  intro r b h;rw [frs]
  split
  ·rfl
  ·have hq:10*r/b<10:=by rw [Nat.div_lt_iff_lt_mul (by omega)];omega
   have:=ih (10*r % b) b (Nat.mod_lt _ (by omega));simp only [d8,List.all_cons,(jH hq).1,Bool.true_and] at this⊢;exact this
theorem yY (a:UInt8) (l:List UInt8):bI (a::l)=(a.toNat-48)*10^l.length+bI l:=by
 refine sB (P:=fun l=>bI (a::l)=(a.toNat-48)*10^l.length+bI l) ?_ ?_ l
 ·simp [bI]
 ·intro l b ih
  rw [←List.cons_append,eV,ih,eV,agE,List.length_singleton,Nat.pow_succ];rw [Nat.add_mul,Nat.mul_assoc,Nat.add_assoc]
theorem adF (b m:Nat) (Dz:b*m=1000000) (f:Nat): ∀r y,f≤6→r<b→y<10^f→r*m=y*10^(6-f)→bI (frs f r b)*b=r*10^(frs f r b).length:=by
 have hm:0<m:=by rcases Nat.eq_zero_or_pos m with h|h;(subst h;omega);exact h
 induction f with
 |zero=>
  intro r y _ hr hy h
  have Fo:y=0:=by simpa using hy
  subst Fo;rw [Nat.zero_mul] at h
  have:r=0:=by
   rcases Nat.mul_eq_zero.mp h with h|h
   ·exact h
   ·omega
  subst this;simp [frs,bI]
 |succ f ih=>
  intro r y hf hr hy h
  by_cases Dq:r=0
  ·subst Dq;simp [frs,bI]
  ·have hE:10^(6-f)=10*10^(6-(f+1)):=by rw [show 6-f=(6-(f+1))+1 by omega,Nat.pow_succ,Nat.mul_comm]
   have Kr:10^f*10^(6-f)=1000000:=by rw [←Nat.pow_add,show f+(6-f)=6 by omega]
   have BU:10*r*m=y*10^(6-f):=by rw [hE,Nat.mul_assoc,h,←Nat.mul_assoc,←Nat.mul_assoc,Nat.mul_comm 10 y]
   have GA:(10*r % b)*m=(y % 10^f)*10^(6-f):=by rw [←Nat.mul_mod_mul_right,BU,Dz,←Kr,Nat.mul_mod_mul_right]
   have i:=ih (10*r % b) (y % 10^f) (by omega) (Nat.mod_lt _ (by omega)) (Nat.mod_lt _ (Nat.pow_pos (by omega))) GA
   have hq:10*r/b<10:=by rw [Nat.div_lt_iff_lt_mul (by omega)];omega
   have Om:=Nat.div_add_mod (10*r) b;rw [frs,if_neg Dq,yY,(jH hq).2,List.length_cons,Nat.pow_succ,Nat.add_mul,i];generalize 10^(frs f (10*r % b) b).length=P;generalize 10*r/b=q at*;generalize 10*r % b=r2 at*
   have:q*P*b+r2*P=(b*q+r2)*P:=by rw [Nat.add_mul,Nat.mul_right_comm,Nat.mul_comm q b]
   rw [this,Om,Nat.mul_comm 10 r,Nat.mul_assoc,Nat.mul_comm 10 P]
theorem bD {l:List UInt8} (h:d8 l=true) (c:UInt8) (hc:isD c=false):c∉l:=by
 intro hm;simp only [d8,List.all_eq_true] at h;have:=h c hm
 rw [hc] at this;cases this
theorem nR (t b:Nat) (hv:vB (t:Int) (b:Int)=true) (hd:1000000 % b=0):bu (aO t b)=true∧fP (aW (aO t b)) (aX (aO t b))=true∧mkT (aW (aO t b)) (aX (aO t b))=(t:Int)∧mkB (aW (aO t b)) (aX (aO t b))=(b:Int):=by
 obtain ⟨v1,v2,v3,v4⟩:=gN hv
 have Dz:b*(1000000/b)=1000000:=by have:=Nat.div_add_mod 1000000 b;omega
 have On:t/b<10^(9+1):=Nat.lt_of_le_of_lt (Nat.div_le_self _ _) (by omega);have hr:t % b<b:=Nat.mod_lt _ (by omega);have Om:=Nat.div_add_mod t b;obtain ⟨w1,w2⟩:=cd (t/b);have Aj:=qK (m:=10) On (by omega);have Ar:=bD w1 46 (by decide)
 by_cases h0:t % b=0
 ·have e:aO t b=Lib.decDigits (t/b):=by rw [aO,if_pos h0,List.append_nil]
  have ei:=m9 _ 46 Ar
  have eP:eD (aO t b)=Lib.decDigits (t/b):=by unfold eD;rw [e,ei,if_pos (by omega)]
  have eQ:db (aO t b)=[48]:=by unfold db;rw [e,ei,if_pos (by omega)]
  have eX:aW (aO t b)=(((t/b)*10:Nat):Int):=by unfold aW;rw [eP,eQ,w2];simp [bI]
  have eY:aX (aO t b)=10:=by unfold aX;rw [eQ];rfl
  refine ⟨by unfold bu;rw [eP,eQ,Aj];decide, ?_⟩;rw [eX,eY];refine xH (by omega) hv ?_
  have:b*(t/b)=t:=by omega
  have h2:(t:Int)=(b:Int)*((t/b:Nat):Int):=by rw [←Int.natCast_mul,this]
  rw [h2,Int.natCast_mul];generalize ((t/b:Nat):Int)=q
  grind
 ·have Ju:t % b*(1000000/b)<10^6:=by
   have h1:(t % b+1)*(1000000/b)≤b*(1000000/b):=Nat.mul_le_mul_right _ (by omega);rw [Nat.add_mul,Nat.one_mul] at h1
   have hm:0<1000000/b:=by rcases Nat.eq_zero_or_pos (1000000/b) with h|h;(rw [h] at Dz;omega);exact h
   omega
  have hval:=adF b (1000000/b) Dz 6 (t % b) _ (agD _) hr Ju (by simp);have SI:=iD 6 (t % b) b hr;have Dr:=nd 6 (t % b) b
  have hfn:1≤(frs 6 (t % b) b).length:=by rw [frs,if_neg h0];simp
  have e:aO t b=Lib.decDigits (t/b)++46::frs 6 (t % b) b:=by rw [aO,if_neg h0]
  generalize frs 6 (t % b) b=G at*
  have ei:Lib.indexByte (aO t b) 46=((Lib.decDigits (t/b)).length:Nat):=by
   refine abm _ 46 _ ?_ ?_
   ·rw [e,List.getElem?_append_right (agD _)];simp
   ·rw [e,List.take_left];exact Ar
  have eP:eD (aO t b)=Lib.decDigits (t/b):=by
   unfold eD;rw [ei,if_neg (by omega),Int.toNat_natCast,e,List.take_left]
  have eQ:db (aO t b)=G:=by
   unfold db;rw [ei,if_neg (by omega),Int.toNat_natCast,e,←List.drop_drop,List.drop_left];rfl
  have Oo:dOK G 6=true:=by rw [eJ];exact ⟨hfn,Dr,SI⟩
  refine ⟨by unfold bu;rw [eP,eQ,Aj,Oo];rfl, ?_⟩
  have hy:1≤aX (aO t b):=by unfold aX;have:0<10^(db (aO t b)).length:=Nat.pow_pos (by omega);omega
  refine xH hy hv ?_;unfold aW aX;rw [eP,eQ,w2]
  have key:t*10^G.length=(t/b*10^G.length+bI G)*b:=by
   rw [Nat.add_mul,hval];generalize 10^G.length=P
   have:t/b*P*b=b*(t/b)*P:=by rw [Nat.mul_right_comm,Nat.mul_comm (t/b) b]
   rw [this,←Nat.add_mul,Om]
  rw [←Int.natCast_mul,key,Int.natCast_mul]
theorem afg (s:ByteArray) (p q:List UInt8) (h:s.data.toList=p++47::q) (hp:(47:UInt8)∉p):fW s 47=true∧(eE s 47).data.toList=p∧(eo s 47).data.toList=q:=by
 have ei:Lib.indexByte s.data.toList 47=(p.length:Nat):=by
  refine abm _ 47 _ ?_ ?_
  ·rw [h,List.getElem?_append_right (agD _)];simp
  ·rw [h,List.take_left];exact hp
 have hl:s.data.toList.length=s.size:=by rw [Array.length_toList];rfl
 unfold fW eE eo;rw [ei,decide_eq_false (by omega),if_neg (by omega),if_neg (by omega),Int.toNat_natCast];refine ⟨rfl, ?_, ?_⟩
 ·have e:(s.extract 0 p.length).data.toList=s.data.toList.take p.length:=by simp [ByteArray.data_extract]
  rw [e,h,List.take_left]
 ·have e:(s.extract (p.length+1) s.size).data.toList=(s.data.toList.drop (p.length+1)).take (s.size-(p.length+1)):=by simp [ByteArray.data_extract]
  rw [e,List.take_of_length_le (by rw [List.length_drop,hl];exact agD _),h,←List.drop_drop,List.drop_left];rfl
theorem aby (s:ByteArray) (h:(47:UInt8)∉s.data.toList):fW s 47=false:=by
 unfold fW;rw [m9 _ 47 h];rfl
theorem af7 (t b:Nat) (hb:1≤b):(47:UInt8)∉aO t b:=by
 have h1:=bD (cd (t/b)).1 47 (by decide);have h2:=bD (iD 6 (t % b) b (Nat.mod_lt _ (by omega))) 47 (by decide);unfold aO
 split
 ·simpa using h1
 ·simp [h1,h2]
theorem xI (s:ByteArray) (t b:Nat) (hv:vB (t:Int) (b:Int)=true) (h:s.data.toList=aA t b):pc s=true∧unT s=(t:Int)∧unB s=(b:Int):=by
 obtain ⟨v1,v2,v3,v4⟩:=gN hv;unfold pc unT unB
 by_cases hd:1000000 % b=0
 ·rw [aA,if_pos hd] at h
  have hc:fW s 47=false:=aby s (by rw [h];exact af7 t b (by omega));obtain ⟨d1,d2,d3,d4⟩:=nR t b hv hd;rw [hc,h,d1];simp only [Bool.false_eq_true,if_false];rw [(cZ _ _).1,(cZ _ _).2.1,(cZ _ _).2.2];exact ⟨d2,d3,d4⟩
 ·rw [aA,if_neg hd] at h
  obtain ⟨c1,c2,c3⟩:=afg s _ _ h (bD (cd t).1 47 (by decide));have o1:dOK (Lib.decDigits t) 10=true:=qK (k:=9) (by omega) (by omega);have o2:dOK (Lib.decDigits b) 10=true:=qK (k:=9) (by omega) (by omega)
  have ho:lq (Lib.decDigits t) (Lib.decDigits b)=true:=by simp [lq,o1,o2]
  rw [c1,c2,c3];simp only [if_true];refine ⟨ho, ?_, ?_⟩
  ·rw [slT,if_pos ho,(cd t).2]
  ·rw [slB,if_pos ho,(cd b).2]
theorem nT (n:Nat): ∃c l,Lib.decDigits n=c::l∧isD c=true:=by
 have h:=(cd n).1
 cases hl:Lib.decDigits n with
 |nil=>exact absurd hl (nQ n)
 |cons c l=>
  rw [hl] at h;simp only [d8,List.all_cons,Bool.and_eq_true] at h;exact ⟨c,l,rfl,h.1⟩
theorem abz (t b:Nat): ∃c l,aA t b=c::l∧isD c=true:=by
 unfold aA aO
 split
 ·obtain ⟨c,l,e,h⟩:=nT (t/b)
  exact ⟨c,_,by rw [e];rfl,h⟩
 ·obtain ⟨c,l,e,h⟩:=nT t
  exact ⟨c,_,by rw [e];rfl,h⟩
theorem pM (t b:Nat):Lib.hasPrefix (aA t b) [45]=false:=by
 obtain ⟨c,l,e,h⟩:=abz t b;rw [e]
 have hc:c≠45:=by rintro rfl;cases h
 unfold Lib.hasPrefix
 simp [List.isPrefixOf]
 exact fun h=>hc h.symm
theorem yZ (s:ByteArray) (t b:Int) (hv:vB t b=true) (h:s.data.toList=fQ t b):fx s=true∧rdT s=t∧rdB s=b:=by
 obtain ⟨v1,v2,v3,v4⟩:=gN hv;obtain ⟨b',rfl⟩:=agG (show 0≤b by omega)
 have key:pc (ae s)=true∧ib s=t∧unB (ae s)=(b':Int):=by
  by_cases hn:t<0
  ·obtain ⟨t',Hl⟩:=agG (show 0≤ -t by omega)
   obtain rfl:t= -(t':Int):=by omega
   rw [fQ,if_pos hn,show (- -(t':Int)).toNat=t' by omega,show ((b':Int)).toNat=b' by omega] at h
   have hp:Lib.hasPrefix s.data.toList [45]=true:=by rw [h];unfold Lib.hasPrefix;simp [List.isPrefixOf]
   have AX:ft s=true:=hp
   have Dt:(ae s).data.toList=aA t' b':=by
    unfold ae Lib.trimPrefix;rw [hp,if_pos rfl,h];simp
   have Jv:vB (t':Int) (b':Int)=true:=by
    rw [gS] at hv⊢;refine ⟨by omega,by omega,hv.2.2.1,hv.2.2.2.1, ?_⟩;have:=hv.2.2.2.2
    rwa [Int.neg_gcd] at this
   obtain ⟨r1,r2,r3⟩:=xI (ae s) t' b' Jv Dt;exact ⟨r1,by rw [ib,AX,if_pos rfl,r2],r3⟩
  ·obtain ⟨t',rfl⟩:=agG (show 0≤t by omega)
   rw [fQ,if_neg hn,show ((t':Int)).toNat=t' by omega,show ((b':Int)).toNat=b' by omega] at h
   have hp:Lib.hasPrefix s.data.toList [45]=false:=by rw [h];exact pM t' b'
   have AX:ft s=false:=hp
   have Dt:(ae s).data.toList=aA t' b':=by
    unfold ae Lib.trimPrefix;rw [hp];simp [h]
   obtain ⟨r1,r2,r3⟩:=xI (ae s) t' b' hv Dt;exact ⟨r1,by rw [ib,AX];simpa using r2,r3⟩
 obtain ⟨k1,k2,k3⟩:=key
 have ho:fx s=true:=by
  rw [fx,k1,k2,k3,h,aJ,if_pos hv];simp
 exact ⟨ho,by rw [rdT,if_pos ho,k2],by rw [rdB,if_pos ho,k3]⟩
def spK (s:ByteArray):Nat:=hZ s 0 10
def spJ (s:ByteArray):Nat:=hZ s (spK s+1) 7
def qL (s:ByteArray):Bool:=decide (0<spK s)&&decide (spK s<s.size)&&(s.data.toList[spK s]? ==some 47)
def ic (s:ByteArray):Bool:=qL s&&decide (spK s+1+spJ s=s.size)&&decide (0<bm s (spK s+1) (spJ s))
def spO (s:ByteArray):Bool:=fs (bu s.data.toList) (aW s.data.toList) (aX s.data.toList)
def spT (s:ByteArray):Int:=if spO s=true then opT (bu s.data.toList) (aW s.data.toList) (aX s.data.toList) else if 0<spK s∧spK s=s.size then ((bm s 0 (spK s):Nat):Int) else if ic s=true then ((bm s 0 (spK s):Nat):Int) else 0
def spB (s:ByteArray):Int:=if spO s=true then opB (bu s.data.toList) (aW s.data.toList) (aX s.data.toList) else if 0<spK s∧spK s=s.size then 1 else if ic s=true then ((bm s (spK s+1) (spJ s):Nat):Int) else 0
theorem xJ (s:ByteArray) (t b:Nat) (hv:vB (t:Int) (b:Int)=true) (h:s.data.toList=aA t b):spT s=(t:Int)∧spB s=(b:Int):=by
 obtain ⟨v1,v2,v3,v4⟩:=gN hv
 have hl:s.data.toList.length=s.size:=by rw [Array.length_toList];rfl
 by_cases hd:1000000 % b=0
 ·rw [aA,if_pos hd] at h
  obtain ⟨d1,d2,d3,d4⟩:=nR t b hv hd
  have ho:spO s=true:=by unfold spO;rw [h,d1,(cZ _ _).2.2];exact d2
  unfold spT spB;rw [ho,if_pos rfl,if_pos rfl,h,d1,(cZ _ _).1,(cZ _ _).2.1];exact ⟨d3,d4⟩
 ·rw [aA,if_neg hd] at h
  obtain ⟨w1,w2⟩:=cd t;obtain ⟨w3,w4⟩:=cd b;have s1:=me 9 t (by omega);have s2:=me 6 b (by omega)
  have Ai:s.size=(Lib.decDigits t).length+1+(Lib.decDigits b).length:=by rw [←hl,h];simp;omega
  have p1:0<(Lib.decDigits t).length:=List.length_pos_iff.mpr (nQ t)
  have hk:spK s=(Lib.decDigits t).length:=by
   unfold spK hZ;rw [List.drop_zero,h];refine eZ (by simp) s1 (by rw [List.take_left];exact w1) (.inr (.inr ⟨47, ?_,by decide⟩));rw [List.getElem?_append_right (agD _)];simp
  have QO:s.data.toList.drop ((Lib.decDigits t).length+1)=Lib.decDigits b:=by
   rw [h,←List.drop_drop,List.drop_left];rfl
  have hj:spJ s=(Lib.decDigits b).length:=by
   unfold spJ hZ;rw [hk,QO];exact eZ (agD _) s2 (by rw [List.take_length];exact w3) (.inl rfl)
  have Ar:bu s.data.toList=false:=by
   rw [Bool.eq_false_iff];intro Jv;simp only [bu,Bool.and_eq_true,eJ] at Jv
   have SJ:(46:UInt8)∉s.data.toList:=by
    rw [h];simp [bD w1 46 (by decide),bD w3 46 (by decide)]
   have eP:eD s.data.toList=s.data.toList:=by unfold eD;rw [m9 _ 46 SJ,if_pos (by omega)]
   rw [eP] at Jv;exact bD Jv.1.2.2 47 (by decide) (by rw [h];simp)
  have ho:spO s=false:=by unfold spO;rw [Ar];exact (bQ _ _).2.2
  have t1:bm s 0 (spK s)=t:=by unfold bm;rw [List.drop_zero,hk,h,List.take_left];exact w2
  have t2:bm s (spK s+1) (spJ s)=b:=by unfold bm;rw [hk,QO,hj,List.take_length];exact w4
  have BT:qL s=true:=by
   unfold qL;rw [hk,decide_eq_true p1,decide_eq_true (by omega),h,List.getElem?_append_right (agD _)]
   simp
  have B5:ic s=true:=by
   unfold ic;rw [BT,t2,hk,hj,decide_eq_true (by omega),decide_eq_true (by omega)];rfl
  unfold spT spB;rw [ho,B5,t1,t2];simp only [Bool.false_eq_true,if_false,if_true];rw [if_neg (by rw [hk];omega),if_neg (by rw [hk];omega)];exact ⟨rfl,rfl⟩
def iY (s:ByteArray):Int:=if ft s=true then-spT (ae s) else spT (ae s)
def uQ (s:ByteArray):Bool:= !s.data.toList.isEmpty&&(aJ (iY s) (spB (ae s))==s.data.toList)
theorem adG (s:ByteArray) (t b:Int) (hv:vB t b=true) (h:s.data.toList=fQ t b):iY s=t∧spB (ae s)=b:=by
 obtain ⟨v1,v2,v3,v4⟩:=gN hv;obtain ⟨b',rfl⟩:=agG (show 0≤b by omega)
 by_cases hn:t<0
 ·obtain ⟨t',Hl⟩:=agG (show 0≤ -t by omega)
  obtain rfl:t= -(t':Int):=by omega
  rw [fQ,if_pos hn,show (- -(t':Int)).toNat=t' by omega,show ((b':Int)).toNat=b' by omega] at h
  have hp:Lib.hasPrefix s.data.toList [45]=true:=by rw [h];unfold Lib.hasPrefix;simp [List.isPrefixOf]
  have AX:ft s=true:=hp
  have Dt:(ae s).data.toList=aA t' b':=by
   unfold ae Lib.trimPrefix;rw [hp,if_pos rfl,h];simp
  have Jv:vB (t':Int) (b':Int)=true:=by
   rw [gS] at hv⊢;refine ⟨by omega,by omega,hv.2.2.1,hv.2.2.2.1, ?_⟩;have:=hv.2.2.2.2
   rwa [Int.neg_gcd] at this
  obtain ⟨r2,r3⟩:=xJ (ae s) t' b' Jv Dt;exact ⟨by rw [iY,AX,if_pos rfl,r2],r3⟩
 ·obtain ⟨t',rfl⟩:=agG (show 0≤t by omega)
  rw [fQ,if_neg hn,show ((t':Int)).toNat=t' by omega,show ((b':Int)).toNat=b' by omega] at h
  have hp:Lib.hasPrefix s.data.toList [45]=false:=by rw [h];exact pM t' b'
  have AX:ft s=false:=hp
  have Dt:(ae s).data.toList=aA t' b':=by
   unfold ae Lib.trimPrefix;rw [hp];simp [h]
  obtain ⟨r2,r3⟩:=xJ (ae s) t' b' hv Dt;exact ⟨by rw [iY,AX];simpa using r2,r3⟩
theorem y4 (s:ByteArray):uQ s=fx s∧(fx s=true→iY s=ib s∧spB (ae s)=unB (ae s)):=by
 have ofText: ∀(t b:Int),aJ t b=s.data.toList→s.data.toList≠[]→vB t b=true∧s.data.toList=fQ t b:=by
  intro t b h At
  cases hv:vB t b with
  |false=>rw [aJ,hv] at h;exact absurd h.symm At
  |true=>rw [aJ,if_pos hv] at h;exact ⟨rfl,h.symm⟩
 have h1:fx s=true→uQ s=true∧iY s=ib s∧spB (ae s)=unB (ae s):=by
  intro h;simp only [fx,Bool.and_eq_true,beq_iff_eq] at h
  have At:s.data.toList≠[]:=by
   intro h0
   have:pc (ae s)=false:=by
    have hb:(ae s).data.toList=[]:=by unfold ae Lib.trimPrefix;rw [h0];simp [Lib.hasPrefix,List.isPrefixOf]
    unfold pc;rw [aby _ (by rw [hb];simp),hb,if_neg (by simp)];decide
   rw [this] at h;exact absurd h.1 (by simp)
  obtain ⟨hv,hf⟩:=ofText _ _ h.2 At;obtain ⟨e1,e2⟩:=adG s _ _ hv hf;refine ⟨?_,e1,e2⟩;simp only [uQ,Bool.and_eq_true,beq_iff_eq,e1,e2];refine ⟨?_,h.2⟩
  cases hx:s.data.toList with
  |nil=>exact absurd hx At
  |cons _ _=>rfl
 have h2:uQ s=true→fx s=true:=by
  intro h;simp only [uQ,Bool.and_eq_true,beq_iff_eq] at h
  have At:s.data.toList≠[]:=by
   intro h0;rw [h0] at h;exact absurd h.1 (by simp)
  obtain ⟨hv,hf⟩:=ofText _ _ h.2 At;exact (yZ s _ _ hv hf).1
 refine ⟨?_,fun h=>(h1 h).2⟩;rw [Bool.eq_iff_iff];exact ⟨h2,fun h=>(h1 h).1⟩
theorem eq (s:ByteArray) (k:Nat) (w:World) (hs:s.size≤2097152) (hk:eh s.data.toList 10=k):
  Calls Tryz.prog 192 #[.string s, .int .i64 0, .int .i64 10] w fun e w'=>e= .returned (.tuple #[.int .i64 ((bI (s.data.toList.take k):Nat):Int), .int .i64 (k:Int)])∧w=w':=by
 have h:=f8 s 0 10 w hs (by omega) (by omega)
 have e:hZ s 0 10=k:=by unfold hZ;rw [List.drop_zero];exact hk
 rw [e] at h;refine h.mono ?_;rintro e w' ⟨rfl,rfl⟩;refine ⟨?_,rfl⟩;rw [show bm s 0 k=bI (s.data.toList.take k) by unfold bm;rw [List.drop_zero],Nat.zero_add]
theorem jd (s:ByteArray) (k j:Nat) (w:World) (hs:s.size≤2097152) (hk:k<s.size) (hj:eh (s.data.toList.drop (k+1)) 7=j):
  Calls Tryz.prog 192 #[.string s, .int .i64 ((k:Int)+1), .int .i64 7] w fun e w'=>e= .returned (.tuple #[.int .i64 ((bI ((s.data.toList.drop (k+1)).take j):Nat):Int), .int .i64 ((k:Int)+1+(j:Int))])∧w=w':=by
 have h:=f8 s (k+1) 7 w hs (by omega) (by omega);have e:hZ s (k+1) 7=j:=hj;rw [e] at h;refine h.mono ?_;rintro e w' ⟨rfl,rfl⟩;refine ⟨?_,rfl⟩;rw [show ((k+1+j:Nat):Int)=(k:Int)+1+(j:Int) by omega];rfl
theorem xK (s:ByteArray) (k:Nat) (h:k<s.size):s.data.toList[k]? =some s[k]:=by
 have hl:s.data.toList.length=s.size:=by rw [Array.length_toList];rfl
 rw [List.getElem?_eq_getElem (by omega)];rfl
theorem bv (s:ByteArray) (w:World) (hs:s.size≤2097152):
  Calls Tryz.prog 191 #[.string s] w fun e w'=>e=fr (opT (bu s.data.toList) (aW s.data.toList) (aX s.data.toList)) (opB (bu s.data.toList) (aW s.data.toList) (aX s.data.toList)) (fs (bu s.data.toList) (aW s.data.toList) (aX s.data.toList))∧Below w.heap.size w w':=by
 have hl:s.data.toList.length=s.size:=by rw [Array.length_toList];rfl
 obtain ⟨k,hk⟩: ∃k,k=eh s.data.toList 10:=⟨_,rfl⟩
 have MX:=gM s.data.toList 10;rw [←hk,hl] at MX;obtain ⟨CB,B8⟩:=MX;have hv1:bI (s.data.toList.take k)<10000000000:=fB _ (by rw [hk];exact eW _ _) (by rw [List.length_take];omega)
 by_cases h0:k=0
 ·rw [afc (by omega:eh s.data.toList 10=0),(bQ _ _).1,(bQ _ _).2.1,(bQ _ _).2.2]
  have HX:Hid True:=trivial;have HK:=agC hk;clear hk hl;have Lt:((k:Int)==0)=true:=beq_iff_eq.mpr (by omega);clear h0
  go_enter Tryz.func191,Tryz.ntmps191
  go_wp2_with fail;refine (eq s k _ hs HK.out.symm).mono ?_;rintro e w' ⟨rfl,rfl⟩;generalize bI (s.data.toList.take k)=v1 at hv1 HX⊢;go_wp2;exact bodyPost_ret (v:= .tuple #[.agg #[.int .i64 0, .int .i64 0], .bool false]) (by simp [results,Tryz.results191,go_sem]) rfl ⟨rfl,((Below.refl _ w).alloc (agD _) _)⟩
 ·by_cases hp:s.data.toList[k]? =some 46
  ·have Cs:k<s.size:=by
    by_cases q:k<s.size
    ·exact q
    ·rw [List.getElem?_eq_none (by omega)] at hp;cases hp
   have Lu:((s[k].toNat:Int)==46)=true:=by rw [xK s k Cs] at hp;simp only [Option.some.injEq] at hp;rw [hp];rfl
   obtain ⟨j,hj⟩: ∃j,j=eh (s.data.toList.drop (k+1)) 7:=⟨_,rfl⟩
   have MW:=gM (s.data.toList.drop (k+1)) 7;rw [←hj,List.length_drop,hl] at MW;obtain ⟨CE,Hj⟩:=MW;have hv2:bI ((s.data.toList.drop (k+1)).take j)<10000000000:=fB _ (by rw [hj];exact eW _ _) (by rw [List.length_take];omega)
   by_cases CN:1≤j∧j≤6
   ·obtain ⟨i1,i2⟩:=CN
    have Jw:inF ((k:Int)+1+(j:Int)-(k:Int)-1) 1 6=true:=by simp only [inF,Bool.and_eq_true,decide_eq_true_eq];omega
    by_cases he:k+1+j=s.size
    ·obtain ⟨d1,d2,d3⟩:=sC hk.symm (by omega) hp hj.symm i1 i2 (by omega)
     rw [d1,(cZ _ _).1,(cZ _ _).2.1,(cZ _ _).2.2];have HX:=agC d2;have HY:=agC d3;have HI:=agC Jw;have HK:=agC hk;have HJ:=agC hj;have HE:=agC he
     have IP:(k:Int)+1+(j:Int)≤s.size:=by omega
     have Lt:((k:Int)==0)=false:=by rw [beq_eq_false_iff_ne];omega
     clear d1 d2 d3 hp Jw hk hj hl he h0
     go_enter Tryz.func191,Tryz.ntmps191
     go_wp2_with fail;refine (eq s k _ hs HK.out.symm).mono ?_;rintro e w' ⟨rfl,rfl⟩;generalize bI (s.data.toList.take k)=v1 at hv1 HX⊢;go_wp2_with fail;refine (jd s k j _ hs Cs HJ.out.symm).mono ?_;rintro e w' ⟨rfl,rfl⟩;generalize bI ((s.data.toList.drop (k+1)).take j)=v2 at hv2 HX⊢;go_wp2_with fail;refine (mb _ _ _ _).mono ?_;rintro e w' ⟨rfl,rfl⟩;rw [HI.out];go_wp2_with fail
     go_loop [7,10] (fun sc i=> ∃(m:Nat) (x:Int),m≤j∧i= .int .i64 ((k:Int)+1+(m:Int))∧x=((10^m:Nat):Int)∧sc= .int .i64 x) (fun _ i=>s.size+9-(intOf i).toNat)
     case atStart=>exact ⟨0,1,by omega,by first|rfl|(simp;done),rfl,rfl⟩
     case round=>
      obtain ⟨m,x,hm,rfl,hx,rfl⟩:=hrel;obtain ⟨Oz,OA⟩:=nc hx (by omega);have Ks:=agC hx;clear hx
      by_cases Ab:m<j
      ·go_wp2
       go_round
       case rel=>exact ⟨m+1,10*x,by omega,by go_num,by rw [Ks.out,Nat.pow_succ];go_num,rfl⟩
       case measure=>simp [intOf];omega
      ·obtain rfl:m=j:=by omega
       have Op:(((k:Int)+1+(m:Int)) !=(s.size:Int))=false:=by rw [bne_eq_false_iff_eq];have:=HE.out;omega
       have pm:(v1:Int)*x=((v1*10^m:Nat):Int):=by rw [Ks.out,Int.natCast_mul]
       obtain ⟨Vk,Vl⟩:=uP pm hv1 (by omega);have x1:=nP Ks.out
       have Lq:Hid ((v1:Int)*x+(v2:Int)=aW s.data.toList):=by show _=_;rw [HX.out,pm,Int.natCast_add]
       have Gz:Hid (x=aX s.data.toList):=by show _=_;rw [HY.out,Ks.out]
       clear pm;go_wp2_with fail;refine (pF ((v1:Int)*x+(v2:Int)) x _ (by omega) (by omega) (by omega)).mono ?_;rintro e w2 ⟨rfl,Ae⟩
       have q0:w2.cell? ⟨w.heap.size,0,none⟩=some (.int .i64 0):=by rw [Ae.cell (by simp)];simp [go_sem]
       have q1:w2.cell? ⟨w.heap.size,1,none⟩=some (.int .i64 0):=by rw [Ae.cell (by simp)];simp [go_sem]
       have q2:w2.frozen? ⟨w.heap.size,0,none⟩=false:=by rw [Ae.frozen (by simp)];simp [go_sem]
       have q3:w2.frozen? ⟨w.heap.size,1,none⟩=false:=by rw [Ae.frozen (by simp)];simp [go_sem]
       have Ak:=agC (((Below.refl _ w).alloc (agD _) _).trans (Ae.mono (by simp)));clear Ae;rw [Lq.out,Gz.out];go_wp2;exact bodyPost_ret (v:= .tuple #[.agg #[.int .i64 (mkT (aW s.data.toList) (aX s.data.toList)), .int .i64 (mkB (aW s.data.toList) (aX s.data.toList))], .bool (fP (aW s.data.toList) (aX s.data.toList))]) (by simp [results,Tryz.results191,go_sem,q0,q1]) rfl ⟨rfl,(Ak.out.setCell (agD _) _).setCell (agD _) _⟩
    ·rw [nO hk.symm (by omega) hp hj.symm (.inr (by omega)),(bQ _ _).1,(bQ _ _).2.1,(bQ _ _).2.2]
     have HX:Hid True:=trivial;have HK:=agC hk;have HJ:=agC hj;have HI:=agC Jw
     have Lt:((k:Int)==0)=false:=by rw [beq_eq_false_iff_ne];omega
     have Op:(((k:Int)+1+(j:Int)) !=(s.size:Int))=true:=by rw [bne_iff_ne];omega
     have IP:(k:Int)+1+(j:Int)≤s.size:=by omega
     clear hp Jw hk hj hl he h0
     go_enter Tryz.func191,Tryz.ntmps191
     go_wp2_with fail;refine (eq s k _ hs HK.out.symm).mono ?_;rintro e w' ⟨rfl,rfl⟩;generalize bI (s.data.toList.take k)=v1 at hv1 HX⊢;go_wp2_with fail;refine (jd s k j _ hs Cs HJ.out.symm).mono ?_;rintro e w' ⟨rfl,rfl⟩;generalize bI ((s.data.toList.drop (k+1)).take j)=v2 at hv2 HX⊢;go_wp2_with fail;refine (mb _ _ _ _).mono ?_;rintro e w' ⟨rfl,rfl⟩;rw [HI.out];go_wp2_with fail
     go_loop [7,10] (fun sc i=> ∃(m:Nat) (x:Int),m≤j∧i= .int .i64 ((k:Int)+1+(m:Int))∧x=((10^m:Nat):Int)∧sc= .int .i64 x) (fun _ i=>s.size+9-(intOf i).toNat)
     case atStart=>exact ⟨0,1,by omega,by first|rfl|(simp;done),rfl,rfl⟩
     case round=>
      obtain ⟨m,x,hm,rfl,hx,rfl⟩:=hrel;obtain ⟨Oz,OA⟩:=nc hx (by omega);have Ks:=agC hx;clear hx
      by_cases Ab:m<j
      ·go_wp2
       go_round
       case rel=>exact ⟨m+1,10*x,by omega,by go_num,by rw [Ks.out,Nat.pow_succ];go_num,rfl⟩
       case measure=>simp [intOf];omega
      ·obtain rfl:m=j:=by omega
       go_wp2;exact bodyPost_ret (v:= .tuple #[.agg #[.int .i64 0, .int .i64 0], .bool false]) (by simp [results,Tryz.results191,go_sem]) rfl ⟨rfl,((Below.refl _ w).alloc (agD _) _)⟩
   ·rw [nO hk.symm (by omega) hp hj.symm (.inl CN),(bQ _ _).1,(bQ _ _).2.1,(bQ _ _).2.2]
    have Jw:inF ((k:Int)+1+(j:Int)-(k:Int)-1) 1 6=false:=by rw [Bool.eq_false_iff];simp only [inF,ne_eq,Bool.and_eq_true,decide_eq_true_eq];omega
    have HX:Hid True:=trivial;have HK:=agC hk;have HJ:=agC hj;have HI:=agC Jw
    have Lt:((k:Int)==0)=false:=by rw [beq_eq_false_iff_ne];omega
    have IP:(k:Int)+1+(j:Int)≤s.size:=by omega
    clear hp Jw hk hj hl h0 CN
    go_enter Tryz.func191,Tryz.ntmps191
    go_wp2_with fail;refine (eq s k _ hs HK.out.symm).mono ?_;rintro e w' ⟨rfl,rfl⟩;generalize bI (s.data.toList.take k)=v1 at hv1 HX⊢;go_wp2_with fail;refine (jd s k j _ hs Cs HJ.out.symm).mono ?_;rintro e w' ⟨rfl,rfl⟩;generalize bI ((s.data.toList.drop (k+1)).take j)=v2 at hv2 HX⊢;go_wp2_with fail;refine (mb _ _ _ _).mono ?_;rintro e w' ⟨rfl,rfl⟩;rw [HI.out];go_wp2;exact bodyPost_ret (v:= .tuple #[.agg #[.int .i64 0, .int .i64 0], .bool false]) (by simp [results,Tryz.results191,go_sem]) rfl ⟨rfl,((Below.refl _ w).alloc (agD _) _)⟩
  ·by_cases he:k=s.size
   ·obtain ⟨d1,d2,d3⟩:=sD hk.symm (by omega) (by omega)
    obtain ⟨m1,m2,m3⟩:=abo ((bI (s.data.toList.take k):Nat):Int) 1 10 (by omega) (by omega);rw [d1,(cZ _ _).1,(cZ _ _).2.1,(cZ _ _).2.2,d2,d3,m1,m2,m3]
    have Op:((k:Int) !=(s.size:Int))=false:=by rw [bne_eq_false_iff_eq];omega
    have Oq:decide (k<s.size)=false:=by simp;omega
    have HX:Hid True:=trivial;have HK:=agC hk
    have Lt:((k:Int)==0)=false:=by rw [beq_eq_false_iff_ne];omega
    clear hp hk hl h0 he d1 d2 d3 m1 m2 m3
    go_enter Tryz.func191,Tryz.ntmps191
    go_wp2_with fail;refine (eq s k _ hs HK.out.symm).mono ?_;rintro e w' ⟨rfl,rfl⟩;go_wp2_with fail;refine (pF ((bI (s.data.toList.take k):Nat):Int) 1 _ (by omega) (by omega) (by omega)).mono ?_;rintro e w2 ⟨rfl,Ae⟩
    have q0:w2.cell? ⟨w.heap.size,0,none⟩=some (.int .i64 0):=by rw [Ae.cell (by simp)];simp [go_sem]
    have q1:w2.cell? ⟨w.heap.size,1,none⟩=some (.int .i64 0):=by rw [Ae.cell (by simp)];simp [go_sem]
    have q2:w2.frozen? ⟨w.heap.size,0,none⟩=false:=by rw [Ae.frozen (by simp)];simp [go_sem]
    have q3:w2.frozen? ⟨w.heap.size,1,none⟩=false:=by rw [Ae.frozen (by simp)];simp [go_sem]
    have Ak:=agC (((Below.refl _ w).alloc (agD _) _).trans (Ae.mono (by simp)));clear Ae;go_wp2;exact bodyPost_ret (v:= .tuple #[.agg #[.int .i64 (mkT ((bI (s.data.toList.take k):Nat):Int) 1), .int .i64 (mkB ((bI (s.data.toList.take k):Nat):Int) 1)], .bool (fP ((bI (s.data.toList.take k):Nat):Int) 1)]) (by simp [results,Tryz.results191,go_sem,q0,q1]) rfl ⟨rfl,(Ak.out.setCell (agD _) _).setCell (agD _) _⟩
   ·rw [uO hk.symm hp (by omega),(bQ _ _).1,(bQ _ _).2.1,(bQ _ _).2.2]
    have Cs:k<s.size:=by omega
    have Lu:((s[k].toNat:Int)==46)=false:=by
     rw [beq_eq_false_iff_ne];intro hq
     apply hp;rw [xK s k Cs]
     have:s[k].toNat=(46:UInt8).toNat:=by simp;omega
     rw [UInt8.toNat_inj.mp this]
    have Op:((k:Int) !=(s.size:Int))=true:=by rw [bne_iff_ne];omega
    have HX:Hid True:=trivial;have HK:=agC hk
    have Lt:((k:Int)==0)=false:=by rw [beq_eq_false_iff_ne];omega
    clear hp hk hl h0 he
    go_enter Tryz.func191,Tryz.ntmps191
    go_wp2_with fail;refine (eq s k _ hs HK.out.symm).mono ?_;rintro e w' ⟨rfl,rfl⟩;generalize bI (s.data.toList.take k)=v1 at hv1 HX⊢;go_wp2;exact bodyPost_ret (v:= .tuple #[.agg #[.int .i64 0, .int .i64 0], .bool false]) (by simp [results,Tryz.results191,go_sem]) rfl ⟨rfl,((Below.refl _ w).alloc (agD _) _)⟩
theorem abA (w:World) (C:Int):(convert 22 9 (.slice (some ⟨w.heap.size,0,none⟩) 1 1)).run Tryz.prog (w.alloc (.cells #[.int .u8 C] 5))= .ok (.string ⟨#[UInt8.ofNat C.toNat]⟩) (w.alloc (.cells #[.int .u8 C] 5)):=by
 rw [run_convert_bytes_arg (P:=Tryz.prog) (w.alloc (.cells #[.int .u8 C] 5)) 22 5 Tryz.underlying22 Tryz.underlying5 w.heap.size 0 1 1 [C] rfl ?_ 9 Tryz.underlying9]
 ·rfl
 ·intro i hi
  obtain rfl:i=0:=by omega
  simp only [World.cell?,Nat.add_zero,heap_alloc_new];rfl
theorem xL (q:Nat):48+UInt8.ofNat q=dgt q:=by unfold dgt;rw [UInt8.ofNat_add];rfl
theorem dm (n:Nat) (w:World) (hn:n≤1000000000000):
  Calls Tryz.prog 216 #[.int .i64 (n:Int)] w fun e w'=>e= .returned (.string (dh n))∧Below w.heap.size w w':=by
 have kc:=abA;have DB:=fD n (by omega)
 go_enter Tryz.func216,Tryz.ntmps216
 go_wp2
 go_loopw [0,3] (fun a o wr=> ∃(v:Nat) (acc:List UInt8),a= .int .i64 (v:Int)∧o= .string ⟨acc.toArray⟩∧v≤n∧acc.length≤21∧(if 9<v then Lib.decDigits (v/10) else [])++acc=Lib.decDigits n∧Below w.heap.size w wr) (fun a _ _=>(intOf a).toNat)
 case atStart=>
  refine ⟨n,[dgt (n % 10)],rfl,congrArg Value.string (by first|rfl|(rw [←xL];rfl)|simp [dgt]),agD _,by simp, ?_,(Below.refl _ _).alloc (agD _) _⟩
  by_cases h:n<10
  ·rw [if_neg (by omega),e8 h,Nat.mod_eq_of_lt h];rfl
  ·rw [if_pos (by omega),jG h]
 case round=>
  obtain ⟨v,acc,rfl,rfl,hv,Ly,hd,hb⟩:=hrel;have HD:=agC hd;have HB:=agC hb;clear hd hb
  by_cases h9:9<v
  ·have Ai:acc.length<21:=by
    have:=congrArg List.length HD.out;rw [if_pos h9,agE] at this;have h1:0<(Lib.decDigits (v/10)).length:=List.length_pos_iff.mpr (nQ _)
    omega
   have Au:({data:=acc.toArray}:ByteArray).size=acc.length:=by show acc.toArray.size=_;simp
   have Ot:({data:=acc.toArray}:ByteArray).size≤21:=by omega
   clear Au;go_wp2;go_roundw
   case rel=>
    refine ⟨v/10,dgt (v/10 % 10)::acc,by go_num, ?_,by omega,by simp only [List.length_cons];omega, ?_,HB.out.alloc HB.out.size _⟩
    ·refine congrArg Value.string ?_
     rw [←xL]
     apply ByteArray.ext;simp
    ·rw [←HD.out,if_pos h9]
     by_cases h:v/10<10
     ·rw [if_neg (by omega),e8 h,Nat.mod_eq_of_lt h];rfl
     ·rw [if_pos (by omega),jG h];simp
   case measure=>simp [intOf];omega
  ·go_wp2
   go_ret;refine ⟨?_,HB.out⟩;have:=HD.out;rw [if_neg h9,List.nil_append] at this;rw [dh,←this]
   rfl
def af8:Value→Nat
 | .string s=>s.size
 |_=>0
theorem pN {b m r f y:Nat} (hm:0<m) (hy:y<10^f) (h:r*m=y*10^(6-f)) (hf:f=0):r=0:=by
 subst hf
 have:y=0:=by simpa using hy
 subst this;rw [Nat.zero_mul] at h
 rcases Nat.mul_eq_zero.mp h with h|h
 ·exact h
 ·omega
theorem pO {b m r f y:Nat} (Dz:b*m=1000000) (hf:f+1≤6) (hy:y<10^(f+1)) (h:r*m=y*10^(6-(f+1))):(10*r % b)*m=(y % 10^f)*10^(6-f):=by
 have hE:10^(6-f)=10*10^(6-(f+1)):=by rw [show 6-f=(6-(f+1))+1 by omega,Nat.pow_succ,Nat.mul_comm]
 have Kr:10^f*10^(6-f)=1000000:=by rw [←Nat.pow_add,show f+(6-f)=6 by omega]
 have BU:10*r*m=y*10^(6-f):=by rw [hE,Nat.mul_assoc,h,←Nat.mul_assoc,←Nat.mul_assoc,Nat.mul_comm 10 y]
 rw [←Nat.mul_mod_mul_right,BU,Dz,←Kr,Nat.mul_mod_mul_right]
theorem pP {q:Nat} (h:q<10):dh q=⟨#[dgt q]⟩:=by unfold dh;rw [e8 h]
theorem qM (acc:List UInt8):(⟨acc.toArray⟩:ByteArray).size=acc.length:=by show acc.toArray.size=_;simp
theorem ls {a b:ByteArray} (h:a=b):Ending.returned (.string a)= .returned (.string b):=by rw [h]
theorem lu (f b:Nat):frs f 0 b=[]:=by cases f<;>simp [frs]
theorem sH {f r b:Nat} (h:r≠0):frs (f+1) r b=dgt (10*r/b)::frs f (10*r % b) b:=by rw [frs,if_neg h]
theorem mf (t b:Nat) (w:World) (hv:vB (t:Int) (b:Int)=true):
 Calls Tryz.prog 193 #[.agg #[.int .i64 (t:Int), .int .i64 (b:Int)]] w fun e w'=>e= .returned (.string ⟨([]++aA t b).toArray⟩)∧Below w.heap.size w w':=by
 obtain ⟨v1,v2,v3,v4⟩:=gN hv;have HV:=agC hv;clear hv;have f0:decide ((t:Int)<0)=false:=decide_eq_false (by omega);have e0:((b:Int)==0)=false:=beq_eq_false_iff_ne.mpr (by omega);have e6:(1000000:Int).tmod (b:Int)=((1000000 % b:Nat):Int):=tm 1000000 b;have z1:=di t (by omega);have z2:=di b (by omega)
 by_cases hd:1000000 % b=0
 ·have e7:(((1000000 % b:Nat):Int) !=0)=false:=by rw [hd];rfl
  have Fs:=agC (show []++aA t b=[]++(Lib.decDigits (t/b)++(if t % b=0 then [] else 46::frs 6 (t % b) b)) by rw [aA,if_pos hd,aO])
  have Dz:b*(1000000/b)=1000000:=by have:=Nat.div_add_mod 1000000 b;omega
  have Ou:0<1000000/b:=by rcases Nat.eq_zero_or_pos (1000000/b) with h|h;(rw [h] at Dz;omega);exact h
  have Ov:=agC Dz;have e1:=td t b;have e2:=tm t b;have q1:t/b≤1000000000:=Nat.le_trans (Nat.div_le_self _ _) (by omega);have Ft:t % b<b:=Nat.mod_lt _ (by omega)
  have Ju:t % b*(1000000/b)<10^6:=by
   have h1:(t % b+1)*(1000000/b)≤b*(1000000/b):=Nat.mul_le_mul_right _ (by omega);rw [Nat.add_mul,Nat.one_mul] at h1
   omega
  have Ow:=agC Ju;clear Ju Dz;generalize 1000000 % b=u at*;generalize t/b=Q at*;generalize t % b=r at*;generalize 1000000/b=m at*;clear hd;have z3:=di Q (by omega);have l3:=fD Q (by omega)
  have start: ∀(acc:List UInt8) (wr:World) (o:ByteArray),acc++frs 6 r b=[]++aA t b→acc.length≤30→o.data.toList=acc→FrAt wr w.heap.size (t:Int) (b:Int)→Below w.heap.size w wr→
   ∃(f r' y:Nat) (ac:List UInt8),f≤6∧Value.string o= .string ⟨ac.toArray⟩∧Value.int .i64 (r:Int)= .int .i64 (r':Int)∧r'<b∧ac++frs f r' b=[]++aA t b∧ac.length+f≤40∧y<10^f∧r'*m=y*10^(6-f)∧FrAt wr w.heap.size (t:Int) (b:Int)∧Below w.heap.size w wr:=by
   intro acc wr o h1 h2 h3 h4 h5;exact ⟨6,r,r*m,acc,agD _,congrArg Value.string (ke h3),rfl,Ft,h1,by omega,Ow.out,by simp,h4,h5⟩
  have ST:=agC start;clear start
  by_cases hr:r=0
  case' pos=>
   have g0:decide (0<r)=false:=decide_eq_false (by omega);have g1:decide ((0:Int)<(r:Int))=false:=decide_eq_false (by omega);rw [if_pos hr,List.append_nil] at Fs;have EM:=agC (show ([]++Lib.decDigits Q)++frs 6 r b=[]++aA t b by rw [Fs.out,hr,lu,List.append_nil]);clear hr
  case' neg=>
   have g0:decide (0<r)=true:=decide_eq_true (by omega);have g1:decide ((0:Int)<(r:Int))=true:=decide_eq_true (by omega);rw [if_neg hr] at Fs;have EM:=agC (show ([]++Lib.decDigits Q++[46])++frs 6 r b=[]++aA t b by rw [Fs.out];simp);clear hr
  all_goals
   go_enter Tryz.func193,Tryz.ntmps193
   go_wp2_with fail;refine (eM (t:Int) (b:Int) _).mono ?_;rintro e w1 ⟨rfl,AO⟩;rw [HV.out];have F1:Hid (FrAt w1 w.heap.size (t:Int) (b:Int)):=FrAt.keep (FrAt.new _ _ _ _) AO;obtain ⟨d0,d1⟩:=F1.out;have AU:w.heap.size<w1.heap.size:=F1.out.lt;have Af:=agC (((Below.refl _ w).alloc (agD _) _).trans (AO.mono (by simp)));clear AO;go_wp2_with fail;refine (dm Q _ (by omega)).mono ?_;rintro e w2 ⟨rfl,Ae⟩;have F2:Hid (FrAt w2 w.heap.size (t:Int) (b:Int)):=F1.out.keep Ae;obtain ⟨k0,k1⟩:=F2.out;have Ak:=agC (Af.out.trans (Ae.mono Af.out.size));clear Ae d0 d1;go_wp2_with fail
   go_loopw [3,5] (fun o i wr=> ∃(f r' y:Nat) (ac:List UInt8),f≤6∧o= .string ⟨ac.toArray⟩∧i= .int .i64 (r':Int)∧r'<b∧ac++frs f r' b=[]++aA t b∧ac.length+f≤40∧y<10^f∧r'*m=y*10^(6-f)∧FrAt wr w.heap.size (t:Int) (b:Int)∧Below w.heap.size w wr) (fun o _ _=>200-af8 o)
   case atStart=>exact ST.out _ _ _ EM.out (by simp;omega) (by simp [dh]) F2.out Ak.out
   case round=>
    obtain ⟨f,r',y,ac,hf,rfl,rfl,OB,Lz,Ai,hy,LA,LB,Bd⟩:=hrel;have Lv:=agC Lz;have HY:=agC LA;have Kt:=agC LB;have Fm:=agC Bd;have Gz:=agC hy;clear Lz LA Bd hy;obtain ⟨c0,c1⟩:=LB
    have Au:(⟨ac.toArray⟩:ByteArray).size≤40:=by rw [qM];omega
    have Fu:=agC (qM ac)
    by_cases Dq:r'=0
    ·subst Dq
     have HE:=agC (show ac=[]++aA t b by rw [←Lv.out,lu,List.append_nil]);go_wp2;go_ret;exact ⟨ls (by rw [HE.out];rfl),Fm.out⟩
    ·have QP:f≠0:=fun h=>Dq (pN (b:=b) Ou Gz.out HY.out h)
     obtain ⟨f',rfl⟩: ∃f',f=f'+1:=⟨f-1,by omega⟩
     have HN:=agC (pO Ov.out (by omega) Gz.out HY.out);have HS:=agC (sH (f:=f') (b:=b) Dq)
     have Jx:10*r'/b<10:=by rw [Nat.div_lt_iff_lt_mul (by omega)];omega
     have Jy:10*r' % b<b:=Nat.mod_lt _ (by omega)
     have e4:((10:Int)*(r':Int)).tdiv (b:Int)=((10*r'/b:Nat):Int):=by rw [show (10:Int)*(r':Int)=((10*r':Nat):Int) by omega];exact td _ _
     have e5:((10:Int)*(r':Int)).tmod (b:Int)=((10*r' % b:Nat):Int):=by rw [show (10:Int)*(r':Int)=((10*r':Nat):Int) by omega];exact tm _ _
     generalize Kd:10*r'/b=q at*;generalize hmm:10*r' % b=r2 at*;clear Kd hmm;have HQ:=agC (pP Jx);have Ox:(dh q).size≤21:=di q (by omega);go_wp2_with fail;refine (dm q _ (by omega)).mono ?_;rintro e w3 ⟨rfl,Ag⟩;have F3:Hid (FrAt w3 w.heap.size (t:Int) (b:Int)):=Kt.out.keep Ag;obtain ⟨k2,k3⟩:=F3.out;have Ap:=agC (Fm.out.trans (Ag.mono Fm.out.size));clear Ag c0 c1;go_wp2;go_roundw
     case rel=>
      refine ⟨f',r2,y % 10^f',ac++[dgt q],by omega,congrArg Value.string ?_,rfl,Jy, ?_,by simp;omega,Nat.mod_lt _ (Nat.pow_pos (by omega)),HN.out,F3.out,Ap.out⟩
      ·rw [HQ.out];apply ke;simp
      ·rw [←Lv.out,HS.out];simp
     case measure=>
      show 200-(⟨ac.toArray⟩++dh q:ByteArray).size<200-(⟨ac.toArray⟩:ByteArray).size
      rw [HQ.out,ByteArray.size_append,Fu.out]
      show 200-(ac.length+1)<200-ac.length
      omega
 ·have e7:(((1000000 % b:Nat):Int) !=0)=true:=bne_iff_ne.mpr (by omega)
  have HP:=agC (show (⟨#[]⟩++dh t++⟨#[47]⟩++dh b:ByteArray)=⟨([]++aA t b).toArray⟩ by
   rw [aA,if_neg hd];apply ke;simp [dh])
  generalize 1000000 % b=u at*;clear hd
  have r1: ¬9223372036854775807<(dh t).size:=by omega
  have r2: ¬9223372036854775807<(dh t).size+1:=by omega
  have r3: ¬9223372036854775807<(dh t).size+1+(dh b).size:=by omega
  go_enter Tryz.func193,Tryz.ntmps193
  go_wp2_with fail;refine (eM (t:Int) (b:Int) _).mono ?_;rintro e w1 ⟨rfl,AO⟩;rw [HV.out];have F1:Hid (FrAt w1 w.heap.size (t:Int) (b:Int)):=FrAt.keep (FrAt.new _ _ _ _) AO;obtain ⟨d0,d1⟩:=F1.out;have AU:w.heap.size<w1.heap.size:=F1.out.lt;have Af:=agC (((Below.refl _ w).alloc (agD _) _).trans (AO.mono (by simp)));clear AO;go_wp2_with fail
  go_region_held3 (fun w'=>w'.cell? ⟨w.heap.size,1,none⟩=some (.int .i64 (b:Int)))
   (first
     |go_keep
     |(first|(rw [Ag.cell (by show w.heap.size<_;have:=Ae.size;simp at this;omega)];assumption)|(rw [Ae.cell (by exact AU)];assumption)))
   (first
     |((go_at_call 216;(with_reducible refine (dm t _ (by omega)).mono ?_);rintro e w2 ⟨rfl,Ae⟩))
     |((go_at_call 216;(with_reducible refine (dm b _ (by omega)).mono ?_);rintro e w3 ⟨rfl,Ag⟩)))
  have Ap:=agC (Af.out.drew.trans ((Ae.mono Af.out.size).trans (Ag.mono (by have:=Af.out.size;have:=Ae.size;simp at this;omega))));clear Ae Ag;go_wp2;go_ret;exact ⟨ls (HP.out.trans rfl),Ap.out⟩
theorem mg (t b:Nat) (w:World) (hn:1≤t) (hv:vB (-(t:Int)) (b:Int)=true):
 Calls Tryz.prog 193 #[.agg #[.int .i64 (-(t:Int)), .int .i64 (b:Int)]] w fun e w'=>e= .returned (.string ⟨([45]++aA t b).toArray⟩)∧Below w.heap.size w w':=by
 obtain ⟨v1,v2,v3,v4⟩:=gN hv;have HV:=agC hv;clear hv;have f0:decide (-(t:Int)<0)=true:=decide_eq_true (by omega)
 have f1: -(t:Int)<0:=by omega
 have f2: - -(t:Int)=(t:Int):=by omega
 have e0:((b:Int)==0)=false:=beq_eq_false_iff_ne.mpr (by omega);have e6:(1000000:Int).tmod (b:Int)=((1000000 % b:Nat):Int):=tm 1000000 b;have z1:=di t (by omega);have z2:=di b (by omega)
 by_cases hd:1000000 % b=0
 ·have e7:(((1000000 % b:Nat):Int) !=0)=false:=by rw [hd];rfl
  have Fs:=agC (show [45]++aA t b=[45]++(Lib.decDigits (t/b)++(if t % b=0 then [] else 46::frs 6 (t % b) b)) by rw [aA,if_pos hd,aO])
  have Dz:b*(1000000/b)=1000000:=by have:=Nat.div_add_mod 1000000 b;omega
  have Ou:0<1000000/b:=by rcases Nat.eq_zero_or_pos (1000000/b) with h|h;(rw [h] at Dz;omega);exact h
  have Ov:=agC Dz;have e1:=td t b;have e2:=tm t b;have q1:t/b≤1000000000:=Nat.le_trans (Nat.div_le_self _ _) (by omega);have Ft:t % b<b:=Nat.mod_lt _ (by omega)
  have Ju:t % b*(1000000/b)<10^6:=by
   have h1:(t % b+1)*(1000000/b)≤b*(1000000/b):=Nat.mul_le_mul_right _ (by omega);rw [Nat.add_mul,Nat.one_mul] at h1
   omega
  have Ow:=agC Ju;clear Ju Dz;generalize 1000000 % b=u at*;generalize t/b=Q at*;generalize t % b=r at*;generalize 1000000/b=m at*;clear hd;have z3:=di Q (by omega);have l3:=fD Q (by omega)
  have start: ∀(acc:List UInt8) (wr:World) (o:ByteArray),acc++frs 6 r b=[45]++aA t b→acc.length≤30→o.data.toList=acc→FrAt wr w.heap.size (-(t:Int)) (b:Int)→Below w.heap.size w wr→
   ∃(f r' y:Nat) (ac:List UInt8),f≤6∧Value.string o= .string ⟨ac.toArray⟩∧Value.int .i64 (r:Int)= .int .i64 (r':Int)∧r'<b∧ac++frs f r' b=[45]++aA t b∧ac.length+f≤40∧y<10^f∧r'*m=y*10^(6-f)∧FrAt wr w.heap.size (-(t:Int)) (b:Int)∧Below w.heap.size w wr:=by
   intro acc wr o h1 h2 h3 h4 h5;exact ⟨6,r,r*m,acc,agD _,congrArg Value.string (ke h3),rfl,Ft,h1,by omega,Ow.out,by simp,h4,h5⟩
  have ST:=agC start;clear start
  by_cases hr:r=0
  case' pos=>
   have g0:decide (0<r)=false:=decide_eq_false (by omega);have g1:decide ((0:Int)<(r:Int))=false:=decide_eq_false (by omega);rw [if_pos hr,List.append_nil] at Fs;have EM:=agC (show ([45]++Lib.decDigits Q)++frs 6 r b=[45]++aA t b by rw [Fs.out,hr,lu,List.append_nil]);clear hr
  case' neg=>
   have g0:decide (0<r)=true:=decide_eq_true (by omega);have g1:decide ((0:Int)<(r:Int))=true:=decide_eq_true (by omega);rw [if_neg hr] at Fs;have EM:=agC (show ([45]++Lib.decDigits Q++[46])++frs 6 r b=[45]++aA t b by rw [Fs.out];simp);clear hr
  all_goals
   go_enter Tryz.func193,Tryz.ntmps193
   go_wp2_with fail;refine (eM (-(t:Int)) (b:Int) _).mono ?_;rintro e w1 ⟨rfl,AO⟩;rw [HV.out];have F1:Hid (FrAt w1 w.heap.size (-(t:Int)) (b:Int)):=FrAt.keep (FrAt.new _ _ _ _) AO;obtain ⟨d0,d1⟩:=F1.out;have AU:w.heap.size<w1.heap.size:=F1.out.lt;have Af:=agC (((Below.refl _ w).alloc (agD _) _).trans (AO.mono (by simp)));clear AO;go_wp2_with fail;refine (dm Q _ (by omega)).mono ?_;rintro e w2 ⟨rfl,Ae⟩;have F2:Hid (FrAt w2 w.heap.size (-(t:Int)) (b:Int)):=F1.out.keep Ae;obtain ⟨k0,k1⟩:=F2.out;have Ak:=agC (Af.out.trans (Ae.mono Af.out.size));clear Ae d0 d1;go_wp2_with fail
   go_loopw [3,5] (fun o i wr=> ∃(f r' y:Nat) (ac:List UInt8),f≤6∧o= .string ⟨ac.toArray⟩∧i= .int .i64 (r':Int)∧r'<b∧ac++frs f r' b=[45]++aA t b∧ac.length+f≤40∧y<10^f∧r'*m=y*10^(6-f)∧FrAt wr w.heap.size (-(t:Int)) (b:Int)∧Below w.heap.size w wr) (fun o _ _=>200-af8 o)
   case atStart=>exact ST.out _ _ _ EM.out (by simp;omega) (by simp [dh]) F2.out Ak.out
   case round=>
    obtain ⟨f,r',y,ac,hf,rfl,rfl,OB,Lz,Ai,hy,LA,LB,Bd⟩:=hrel;have Lv:=agC Lz;have HY:=agC LA;have Kt:=agC LB;have Fm:=agC Bd;have Gz:=agC hy;clear Lz LA Bd hy;obtain ⟨c0,c1⟩:=LB
    have Au:(⟨ac.toArray⟩:ByteArray).size≤40:=by rw [qM];omega
    have Fu:=agC (qM ac)
    by_cases Dq:r'=0
    ·subst Dq
     have HE:=agC (show ac=[45]++aA t b by rw [←Lv.out,lu,List.append_nil]);go_wp2;go_ret;exact ⟨ls (by rw [HE.out];rfl),Fm.out⟩
    ·have QP:f≠0:=fun h=>Dq (pN (b:=b) Ou Gz.out HY.out h)
     obtain ⟨f',rfl⟩: ∃f',f=f'+1:=⟨f-1,by omega⟩
     have HN:=agC (pO Ov.out (by omega) Gz.out HY.out);have HS:=agC (sH (f:=f') (b:=b) Dq)
     have Jx:10*r'/b<10:=by rw [Nat.div_lt_iff_lt_mul (by omega)];omega
     have Jy:10*r' % b<b:=Nat.mod_lt _ (by omega)
     have e4:((10:Int)*(r':Int)).tdiv (b:Int)=((10*r'/b:Nat):Int):=by rw [show (10:Int)*(r':Int)=((10*r':Nat):Int) by omega];exact td _ _
     have e5:((10:Int)*(r':Int)).tmod (b:Int)=((10*r' % b:Nat):Int):=by rw [show (10:Int)*(r':Int)=((10*r':Nat):Int) by omega];exact tm _ _
     generalize Kd:10*r'/b=q at*;generalize hmm:10*r' % b=r2 at*;clear Kd hmm;have HQ:=agC (pP Jx);have Ox:(dh q).size≤21:=di q (by omega);go_wp2_with fail;refine (dm q _ (by omega)).mono ?_;rintro e w3 ⟨rfl,Ag⟩;have F3:Hid (FrAt w3 w.heap.size (-(t:Int)) (b:Int)):=Kt.out.keep Ag;obtain ⟨k2,k3⟩:=F3.out;have Ap:=agC (Fm.out.trans (Ag.mono Fm.out.size));clear Ag c0 c1;go_wp2;go_roundw
     case rel=>
      refine ⟨f',r2,y % 10^f',ac++[dgt q],by omega,congrArg Value.string ?_,rfl,Jy, ?_,by simp;omega,Nat.mod_lt _ (Nat.pow_pos (by omega)),HN.out,F3.out,Ap.out⟩
      ·rw [HQ.out];apply ke;simp
      ·rw [←Lv.out,HS.out];simp
     case measure=>
      show 200-(⟨ac.toArray⟩++dh q:ByteArray).size<200-(⟨ac.toArray⟩:ByteArray).size
      rw [HQ.out,ByteArray.size_append,Fu.out]
      show 200-(ac.length+1)<200-ac.length
      omega
 ·have e7:(((1000000 % b:Nat):Int) !=0)=true:=bne_iff_ne.mpr (by omega)
  have HP:=agC (show (⟨#[45]⟩++dh t++⟨#[47]⟩++dh b:ByteArray)=⟨([45]++aA t b).toArray⟩ by
   rw [aA,if_neg hd];apply ke;simp [dh])
  generalize 1000000 % b=u at*;clear hd
  have r1: ¬9223372036854775807<1+(dh t).size:=by omega
  have r2: ¬9223372036854775807<1+(dh t).size+1:=by omega
  have r3: ¬9223372036854775807<1+(dh t).size+1+(dh b).size:=by omega
  go_enter Tryz.func193,Tryz.ntmps193
  go_wp2_with fail;refine (eM (-(t:Int)) (b:Int) _).mono ?_;rintro e w1 ⟨rfl,AO⟩;rw [HV.out];have F1:Hid (FrAt w1 w.heap.size (-(t:Int)) (b:Int)):=FrAt.keep (FrAt.new _ _ _ _) AO;obtain ⟨d0,d1⟩:=F1.out;have AU:w.heap.size<w1.heap.size:=F1.out.lt;have Af:=agC (((Below.refl _ w).alloc (agD _) _).trans (AO.mono (by simp)));clear AO;go_wp2_with fail
  go_region_held3 (fun w'=>w'.cell? ⟨w.heap.size,1,none⟩=some (.int .i64 (b:Int)))
   (first
     |go_keep
     |(first|(rw [Ag.cell (by show w.heap.size<_;have:=Ae.size;simp at this;omega)];assumption)|(rw [Ae.cell (by exact AU)];assumption)))
   (first
     |((go_at_call 216;(with_reducible refine (dm t _ (by omega)).mono ?_);rintro e w2 ⟨rfl,Ae⟩))
     |((go_at_call 216;(with_reducible refine (dm b _ (by omega)).mono ?_);rintro e w3 ⟨rfl,Ag⟩)))
  have Ap:=agC (Af.out.drew.trans ((Ae.mono Af.out.size).trans (Ag.mono (by have:=Af.out.size;have:=Ae.size;simp at this;omega))));clear Ae Ag;go_wp2;go_ret;exact ⟨ls (HP.out.trans rfl),Ap.out⟩
theorem aK (t b:Int) (w:World):
  Calls Tryz.prog 193 #[.agg #[.int .i64 t, .int .i64 b]] w fun e w'=>e= .returned (.string ⟨(aJ t b).toArray⟩)∧Below w.heap.size w w':=by
 cases hv:vB t b with
 |true=>
  obtain ⟨v1,v2,v3,v4⟩:=gN hv;obtain ⟨b',rfl⟩:=agG (show 0≤b by omega);rw [aJ,if_pos hv,fQ]
  by_cases hn:t<0
  ·obtain ⟨t',Hl⟩:=agG (show 0≤ -t by omega)
   obtain rfl:t= -(t':Int):=by omega
   rw [if_pos hn,show (- -(t':Int)).toNat=t' by omega];exact mg t' b' w (by omega) hv
  ·obtain ⟨t',rfl⟩:=agG (show 0≤t by omega)
   rw [if_neg hn];exact mf t' b' w hv
 |false=>
  have HV:=agC hv;have HT:=agC (show aJ t b=[] by rw [aJ,hv];rfl);clear hv
  go_enter Tryz.func193,Tryz.ntmps193
  go_wp2_with fail;refine (eM t b _).mono ?_;rintro e w1 ⟨rfl,Aa⟩;rw [HV.out];have Af:=agC (((Below.refl _ w).alloc (agD _) _).trans (Aa.mono (by simp)));clear Aa;go_wp2;go_ret;exact ⟨by rw [HT.out];rfl,Af.out⟩
end Go.Proofs.YtegdjjjpoahamaaGreatDoor
