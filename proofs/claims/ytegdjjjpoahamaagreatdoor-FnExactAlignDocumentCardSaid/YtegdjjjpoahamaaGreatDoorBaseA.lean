/-
  Several texts of the proof in one file: FracPlain, Frac, FracValid, FracMake, FracRed, DigitsPlain, FracOps, DecPlain, Digits, Cut, DecImpl, TextPlain, DoorTab, FracHeld, FracAt, TextI, ReadI, CutPlain, ReadPlain, ReadBack, ReadSPlain, DecSpec, NumS, TextS.
-/
import Derived.Test.YtegdjjjpoahamaaGreatDoorRows
import Derived.WalkKit
import Derived.WalkSpells
import Derived.Lib.Hide
import Derived.IntWalk
import Derived.BigQuiet
import Derived.Deep.QuietTactic
import Derived.Below
import Derived.RegionTactic
import Derived.ChangeAlike
import Derived.BigRegion
import Derived.Lib.Bytealg
import Derived.Shelf.Strings.Search1
import Derived.Lib.ItoaNum
import Derived.Lib.ItoaLen
import Derived.Lib.ItoaMem
import Derived.Lib.TrimByte
import Derived.Test.YtegdjjjpoahamaaGreatDoorShelf
import Derived.Lib.AppendIntMem
import Derived.Deep.RegionHeld3
import Derived.Laws.BytesArg
set_option linter.unusedVariables false
set_option maxHeartbeats 8000000
set_option maxRecDepth 100000
namespace Go.Proofs.YtegdjjjpoahamaaGreatDoor
def vB (t b:Int):Bool:=decide (-1000000000≤t)&&decide (t≤1000000000)&&decide (1≤b)&&decide (b≤1000000)&&((Int.gcd t b:Nat)==1)
def mkOK (t b:Int):Bool:=vB (t.tdiv (Int.gcd t b:Nat)) (b.tdiv (Int.gcd t b:Nat))
def mkT (t b:Int):Int:=if mkOK t b=true then t.tdiv (Int.gcd t b:Nat) else 0
def mkB (t b:Int):Int:=if mkOK t b=true then b.tdiv (Int.gcd t b:Nat) else 0
theorem vB_iff (t b:Int):vB t b=true↔ -1000000000≤t∧t≤1000000000∧1≤b∧b≤1000000∧Int.gcd t b=1:=by
 simp [vB,and_assoc]
theorem gcd_pos' (t b:Int) (hb:1≤b):1≤Int.gcd t b:=by
 have:0<Int.gcd t b:=Int.gcd_pos_of_ne_zero_right t (by omega)
 omega
theorem dvd_cancel {q q' p:Int} (h:q∣p*q') (hg:Int.gcd p q=1):q∣q':=by
 rw [←Int.natAbs_dvd_natAbs] at h⊢
 rw [Int.natAbs_mul] at h
 exact Nat.Coprime.dvd_of_dvd_mul_left (Nat.Coprime.symm hg) h
theorem reduced_unique {p q p' q':Int} (h:p*q'=p'*q) (hg:Int.gcd p q=1) (hg':Int.gcd p' q'=1) (hq:1≤q) (hq':1≤q'):p=p'∧q=q':=by
 have d1:q∣q':=by
  have:q∣p*q':=⟨p',by rw [h,Int.mul_comm]⟩
  exact dvd_cancel this hg
 have d2:q'∣q:=by
  have:q'∣p'*q:=⟨p,by rw [←h,Int.mul_comm]⟩
  exact dvd_cancel this hg'
 have e:q=q':=by
  have l1:=Int.le_of_dvd (by omega) d1
  have l2:=Int.le_of_dvd (by omega) d2
  omega
 subst e
 exact ⟨Int.eq_of_mul_eq_mul_right (by omega) h,rfl⟩
theorem mk_parts (t b:Int) (hb:1≤b):t=t.tdiv (Int.gcd t b:Nat)*(Int.gcd t b:Nat)∧b=b.tdiv (Int.gcd t b:Nat)*(Int.gcd t b:Nat)∧Int.gcd (t.tdiv (Int.gcd t b:Nat)) (b.tdiv (Int.gcd t b:Nat))=1∧1≤b.tdiv (Int.gcd t b:Nat):=by
 have hg:=gcd_pos' t b hb
 have h1:((Int.gcd t b:Nat):Int)∣t:=Int.gcd_dvd_left _ _
 have h2:((Int.gcd t b:Nat):Int)∣b:=Int.gcd_dvd_right _ _
 have e1:=(Int.tdiv_mul_cancel h1).symm
 have e2:=(Int.tdiv_mul_cancel h2).symm
 refine ⟨e1,e2, ?_, ?_⟩
 ·rw [Int.tdiv_eq_ediv_of_dvd h1,Int.tdiv_eq_ediv_of_dvd h2]
  exact Int.gcd_ediv_gcd_ediv_gcd (by omega)
 ·by_cases hx:1≤b.tdiv (Int.gcd t b:Nat)
  ·exact hx
  ·have:b.tdiv (Int.gcd t b:Nat)*(Int.gcd t b:Nat)≤0:=Int.mul_nonpos_of_nonpos_of_nonneg (by omega) (by omega)
   omega
theorem mk_value {t b:Int} (hb:1≤b) (h:mkOK t b=true):vB (mkT t b) (mkB t b)=true∧mkT t b*b=t*mkB t b:=by
 obtain ⟨e1,e2,e3,e4⟩:=mk_parts t b hb
 simp only [mkT,mkB,h,if_true]
 refine ⟨h, ?_⟩
 generalize t.tdiv (Int.gcd t b:Nat)=p at*
 generalize b.tdiv (Int.gcd t b:Nat)=q at*
 generalize ((Int.gcd t b:Nat):Int)=g at*
 rw [e1,e2];grind
theorem mk_of {t b p q:Int} (hb:1≤b) (hv:vB p q=true) (h:p*b=t*q):mkOK t b=true∧mkT t b=p∧mkB t b=q:=by
 obtain ⟨e1,e2,e3,e4⟩:=mk_parts t b hb
 obtain ⟨v1,v2,v3,v4,v5⟩:=(vB_iff p q).mp hv
 have hg:=gcd_pos' t b hb
 have key:p*b.tdiv (Int.gcd t b:Nat)=t.tdiv (Int.gcd t b:Nat)*q:=by
  generalize t.tdiv (Int.gcd t b:Nat)=x at*
  generalize b.tdiv (Int.gcd t b:Nat)=y at*
  have hg':((Int.gcd t b:Nat):Int)≠0:=by omega
  generalize ((Int.gcd t b:Nat):Int)=g at*
  refine Int.eq_of_mul_eq_mul_right hg' ?_
  rw [e1,e2] at h
  grind
 obtain ⟨a1,a2⟩:=reduced_unique key v5 e3 v3 e4
 have ok:mkOK t b=true:=by unfold mkOK;rw [←a1,←a2];exact hv
 exact ⟨ok,by simp [mkT,ok,a1],by simp [mkB,ok,a2]⟩
theorem mk_no {t b:Int} (h:mkOK t b=false):mkT t b=0∧mkB t b=0:=by simp [mkT,mkB,h]
open Go.RowKit
theorem ret_int {k:IntKind} {a b:Int} (h:a=b):Ending.returned (.int k a)= .returned (.int k b):=by rw [h]
theorem ret_b {a b:Bool} (h:a=b):Ending.returned (.bool a)= .returned (.bool b):=by rw [h]
theorem gcd_impl (a b:Nat) (w:World) (ha:a<4611686018427387904) (hb:b<4611686018427387904):
  Calls Tryz.prog 258 #[.int .i64 a, .int .i64 b] w fun e w'=>e= .returned (.int .i64 (Nat.gcd a b:Nat))∧ ∃n,w'=w.drewN n:=by
 go_enter Tryz.func258,Tryz.ntmps258
 go_wp2
 go_loopw [0,1] (fun u v wr=> ∃x y:Nat,u= .int .i64 x∧v= .int .i64 y∧x<4611686018427387904∧y<4611686018427387904∧Nat.gcd x y=Nat.gcd a b∧ ∃n,wr=w.drewN n) (fun _ v _=>(intOf v).toNat)
 case atStart=>exact ⟨a,b,rfl,rfl,ha,hb,rfl,0,rfl⟩
 case round=>
  obtain ⟨x,y,rfl,rfl,hx,hy,hg,n,rfl⟩:=hrel
  have HG:=Lib.hid hg;clear hg
  by_cases h0:y=0
  ·subst h0
   go_wp2
   go_ret
   exact ⟨ret_int (by rw [←HG.out,Nat.gcd_zero_right]),n,rfl⟩
  ·have hne:((y:Int) !=0)=true:=by simp;omega
   have hne':((y:Int)==0)=false:=by simp;omega
   have e1:(x:Int).tmod y=((x % y:Nat):Int):=by rw [Int.tmod_eq_emod_of_nonneg (by omega),Int.natCast_emod]
   have hm:x % y<y:=Nat.mod_lt _ (by omega)
   have hgm:Nat.gcd y (x % y)=Nat.gcd x y:=by rw [Nat.gcd_comm x y,Nat.gcd_rec y x,Nat.gcd_comm]
   have HM:=Lib.hid hgm;clear hgm
   go_wp2
   go_quiet (fail)
   go_wp2
   go_roundw
   case rel=>exact ⟨y,x % y,rfl,by first|rfl|(rw [←e1]),hy,by omega,by rw [HM.out,HG.out],n+nq,by rw [World.drewN_drewN]⟩
   case measure=>simp [intOf];omega
theorem gcd_spec (a b:Int) (w:World) (ha:a.natAbs<4611686018427387904) (hb:b.natAbs<4611686018427387904):
  Calls Tryz.prog 231 #[.int .i64 a, .int .i64 b] w fun e w'=>e= .returned (.int .i64 (Int.gcd a b:Nat))∧w=w':=by
 go_enter Tryz.func231,Tryz.ntmps231
 go_wp2
 go_loop [0,1,5] (fun u v _=> ∃x y:Int,u= .int .i64 x∧v= .int .i64 y∧x.natAbs<4611686018427387904∧y.natAbs<4611686018427387904∧Int.gcd x y=Int.gcd a b) (fun _ v _=>(intOf v).natAbs)
 case atStart=>exact ⟨a,b,rfl,rfl,ha,hb,rfl⟩
 case round=>
  obtain ⟨x,y,rfl,rfl,hx,hy,hg⟩:=hrel
  have HG:=Lib.hid hg;clear hg
  have hx0: -4611686018427387904≤x:=by omega
  have hx1:x≤4611686018427387904:=by omega
  by_cases h0:y=0
  ·subst h0
   have hgx:Int.gcd x 0=x.natAbs:=by simp [Int.gcd]
   have HX:=Lib.hid hgx;clear hgx
   by_cases hs:0≤x
   ·go_wp2
    go_ret
    exact ⟨ret_int (by rw [←HG.out,HX.out];omega),rfl⟩
   ·go_wp2
    go_ret
    exact ⟨ret_int (by rw [←HG.out,HX.out];omega),rfl⟩
  ·have hne:(y !=0)=true:=by simp;omega
   have hne':(y==0)=false:=by simp;omega
   have hm:(x.tmod y).natAbs<y.natAbs:=by rw [Int.natAbs_tmod];exact Nat.mod_lt _ (by omega)
   have hgm:Int.gcd y (x.tmod y)=Int.gcd x y:=by
    unfold Int.gcd;rw [Int.natAbs_tmod,Nat.gcd_comm x.natAbs,Nat.gcd_rec y.natAbs x.natAbs,Nat.gcd_comm]
   have HM:=Lib.hid hgm;clear hgm
   have HMM:=Lib.hid hm;clear hm
   go_wp2
   go_round
   case rel=>exact ⟨y,x.tmod y,rfl,rfl,hy,by have:=HMM.out;omega,by rw [HM.out,HG.out]⟩
   case measure=>simp only [intOf];exact HMM.out
theorem size_any (n:Int) (w:World) (h0: -4611686018427387904≤n) (h1:n≤4611686018427387904):
  Calls Tryz.prog 259 #[.int .i64 n] w fun e w'=>e= .returned (.int .i64 (n.natAbs:Nat))∧w=w':=by
 by_cases h:n<0
 ·go_enter Tryz.func259,Tryz.ntmps259
  go_wp2
  go_ret
  exact ⟨ret_int (by omega),rfl⟩
 ·go_enter Tryz.func259,Tryz.ntmps259
  go_wp2
  go_ret
  exact ⟨ret_int (by omega),rfl⟩
def inF (n lo hi:Int):Bool:=decide (lo≤n)&&decide (n≤hi)
theorem l1In_f (n lo hi:Int) (w:World):
  Calls Tryz.prog 85 #[.int .i64 n, .int .i64 lo, .int .i64 hi] w fun e w'=>e= .returned (.bool (inF n lo hi))∧w=w':=by
 by_cases a:lo≤n
 ·by_cases b:n≤hi
  ·have hp:inF n lo hi=true:=by simp [inF,a,b]
   rw [hp];clear hp
   go_enter Tryz.func85,Tryz.ntmps85
   go_wp2
   go_ret
   exact ⟨rfl,rfl⟩
  ·have hp:inF n lo hi=false:=by simp [inF,b]
   rw [hp];clear hp
   go_enter Tryz.func85,Tryz.ntmps85
   go_wp2
   go_ret
   exact ⟨rfl,rfl⟩
 ·have hp:inF n lo hi=false:=by simp [inF,a]
  rw [hp];clear hp
  go_enter Tryz.func85,Tryz.ntmps85
  go_wp2
  go_ret
  exact ⟨rfl,rfl⟩
theorem vB_gcd {t b:Int} (a1: -1000000000≤t) (a2:t≤1000000000) (a3:1≤b) (a4:b≤1000000):vB t b=(((Int.gcd t b:Nat):Int)==1):=by
 rw [Bool.eq_iff_iff,vB_iff];simp [a1,a2,a3,a4];omega
theorem vB_no {t b:Int} (h:inF t (-1000000000) 1000000000=false∨inF b 1 1000000=false):vB t b=false:=by
 rw [Bool.eq_false_iff];intro hv;rw [vB_iff] at hv
 simp [inF] at h;omega
theorem valid_spec (t b:Int) (w:World):
  Calls Tryz.prog 215 #[.agg #[.int .i64 t, .int .i64 b]] w fun e w'=>e= .returned (.bool (vB t b))∧Below w.heap.size w w':=by
 by_cases h1:inF t (-1000000000) 1000000000=true
 ·by_cases h2:inF b 1 1000000=true
  ·have b1:=h1;have b2:=h2
   simp only [inF,Bool.and_eq_true,decide_eq_true_eq] at b1 b2
   rw [vB_gcd b1.1 b1.2 b2.1 b2.2]
   obtain ⟨b11,b12⟩:=b1;obtain ⟨b21,b22⟩:=b2
   go_enter Tryz.func215,Tryz.ntmps215
   go_wp2_with (first
    |(go_at_call 85;refine (l1In_f _ _ _ _).mono ?_;rintro e w' ⟨rfl,rfl⟩)
    |(go_at_call 231;refine (gcd_spec _ _ _ (by omega) (by omega)).mono ?_;rintro e w' ⟨rfl,rfl⟩))
   go_ret
   exact ⟨rfl,(Below.refl _ _).alloc (Nat.le_refl _) _⟩
  ·have h2':=Bool.eq_false_iff.mpr h2
   rw [vB_no (.inr h2')];clear h2
   go_enter Tryz.func215,Tryz.ntmps215
   go_wp2_with (first
    |(go_at_call 85;refine (l1In_f _ _ _ _).mono ?_;rintro e w' ⟨rfl,rfl⟩))
   go_ret
   exact ⟨rfl,(Below.refl _ _).alloc (Nat.le_refl _) _⟩
 ·have h1':=Bool.eq_false_iff.mpr h1
  rw [vB_no (.inl h1')];clear h1
  go_enter Tryz.func215,Tryz.ntmps215
  go_wp2_with (first
   |(go_at_call 85;refine (l1In_f _ _ _ _).mono ?_;rintro e w' ⟨rfl,rfl⟩))
  go_ret
  exact ⟨rfl,(Below.refl _ _).alloc (Nat.le_refl _) _⟩
theorem drew_below {B:Nat} {a w:World} (h:Below B a w) (n:Nat):Below B a (w.drewN n):=h.trans ⟨rfl,rfl,rfl,Nat.le_refl _,fun _ _=>rfl⟩
theorem valid_method (t b:Int) (w:World):
  Calls Tryz.prog 251 #[.agg #[.int .i64 t, .int .i64 b]] w fun e w'=>e= .returned (.bool (vB t b))∧Below w.heap.size w w':=by
 by_cases a1: -1000000000≤t
 ·by_cases a2:t≤1000000000
  ·by_cases a3:1≤b
   ·by_cases a4:b≤1000000
    ·rw [vB_gcd a1 a2 a3 a4]
     obtain ⟨m,rfl⟩:=Int.eq_ofNat_of_zero_le (show 0≤b by omega)
     have hgg:(Int.gcd t (m:Int):Nat)=Nat.gcd t.natAbs m:=rfl
     rw [hgg]
     clear hgg
     go_enter Tryz.func251,Tryz.ntmps251
     go_wp2
     go_quiet (first
      |(go_at_call 259;exact Calls.quiet_of_same ((size_any _ _ (by omega) (by omega)).mono fun e w' h=>⟨h.1,h.2.symm⟩))
      |(go_at_call 258;exact Calls.quiet_of (gcd_impl _ _ _ (by omega) (by omega))))
     go_wp2
     go_ret
     exact ⟨rfl,drew_below ((Below.refl _ _).alloc (Nat.le_refl _) _) _⟩
    ·have hv:vB t b=false:=by rw [Bool.eq_false_iff];intro hv;rw [vB_iff] at hv;omega
     rw [hv];clear hv
     have hd:decide (b≤1000000)=false:=by simpa using a4
     go_enter Tryz.func251,Tryz.ntmps251
     go_wp2
     go_quiet (fail)
     go_wp2
     go_ret
     exact ⟨rfl,drew_below ((Below.refl _ _).alloc (Nat.le_refl _) _) _⟩
   ·have hv:vB t b=false:=by rw [Bool.eq_false_iff];intro hv;rw [vB_iff] at hv;omega
    rw [hv];clear hv
    have hd:decide (1≤b)=false:=by simpa using a3
    go_enter Tryz.func251,Tryz.ntmps251
    go_wp2
    go_quiet (fail)
    go_wp2
    go_ret
    exact ⟨rfl,drew_below ((Below.refl _ _).alloc (Nat.le_refl _) _) _⟩
  ·have hv:vB t b=false:=by rw [Bool.eq_false_iff];intro hv;rw [vB_iff] at hv;omega
   rw [hv];clear hv
   have hd:decide (t≤1000000000)=false:=by simpa using a2
   go_enter Tryz.func251,Tryz.ntmps251
   go_wp2
   go_quiet (fail)
   go_wp2
   go_ret
   exact ⟨rfl,drew_below ((Below.refl _ _).alloc (Nat.le_refl _) _) _⟩
 ·have hv:vB t b=false:=by rw [Bool.eq_false_iff];intro hv;rw [vB_iff] at hv;omega
  rw [hv];clear hv
  have hd:decide (-1000000000≤t)=false:=by simpa using a1
  go_enter Tryz.func251,Tryz.ntmps251
  go_wp2
  go_quiet (fail)
  go_wp2
  go_ret
  exact ⟨rfl,drew_below ((Below.refl _ _).alloc (Nat.le_refl _) _) _⟩
abbrev fr (t b:Int) (ok:Bool):Ending:= .returned (.tuple #[.agg #[.int .i64 t, .int .i64 b], .bool ok])
theorem mk_yes {t b:Int} (h:mkOK t b=true):mkT t b=t.tdiv (Int.gcd t b:Nat)∧mkB t b=b.tdiv (Int.gcd t b:Nat):=by simp [mkT,mkB,h]
theorem bcell {W w1:World} (hb:Below W.heap.size W w1):(∀b o,b<W.heap.size→w1.cell? ⟨b,o,none⟩=W.cell? ⟨b,o,none⟩)∧(∀b o,b<W.heap.size→w1.frozen? ⟨b,o,none⟩=W.frozen? ⟨b,o,none⟩):=
 ⟨fun b o h=>hb.cell (p:=⟨b,o,none⟩) h,fun b o h=>hb.frozen (p:=⟨b,o,none⟩) h⟩
theorem tdiv_size (t:Int) (g:Nat):(t.tdiv g).natAbs≤t.natAbs:=by rw [Int.natAbs_tdiv];exact Nat.div_le_self _ _
theorem mk_ready (t b:Int) (hb:1≤b): ∃g:Nat,1≤g∧g≤b.natAbs∧Hid (Int.gcd t b=g)∧mkOK t b=vB (t.tdiv g) (b.tdiv g)∧(mkOK t b=true→mkT t b=t.tdiv g∧mkB t b=b.tdiv g):=
 ⟨Int.gcd t b,gcd_pos' t b hb,Int.gcd_le_natAbs_right _ (by omega),rfl,rfl,mk_yes⟩
theorem make_spec (t b:Int) (w:World) (ht:t.natAbs<4611686018427387904) (hb:1≤b) (hb1:b<4611686018427387904):
  Calls Tryz.prog 214 #[.int .i64 t, .int .i64 b] w fun e w'=>e=fr (mkT t b) (mkB t b) (mkOK t b)∧Below w.heap.size w w':=by
 obtain ⟨g,hg,hg1,HG,hmk,hyes⟩:=mk_ready t b hb
 have hg0:((g:Int)==0)=false:=by simp;omega
 have s1:=tdiv_size t g
 have s2:=tdiv_size b g
 by_cases ho:mkOK t b=true
 ·obtain ⟨e1,e2⟩:=hyes ho
  have HV:=Lib.hid (hmk.symm.trans ho)
  rw [ho,e1,e2]
  clear ho e1 e2 hmk hyes
  go_enter Tryz.func214,Tryz.ntmps214
  go_wp2_with fail
  refine (gcd_spec _ _ _ ht (by omega)).mono ?_
  rintro e w' ⟨rfl,rfl⟩
  rw [HG.out]
  go_wp2
  go_region
  go_wp2_with fail
  refine (valid_spec _ _ _).mono ?_
  rintro e w1 ⟨rfl,hb1⟩
  obtain ⟨hc,hf⟩:=bcell hb1
  have hz:w.heap.size+1<w1.heap.size:=by have:=hb1.size;simp at this;omega
  have HB:=Lib.hid (drew_below (((Below.refl _ w).alloc (Nat.le_refl _) _).alloc (by simp) _) 1|>.trans (hb1.mono (by first|(simp;done)|(simp;omega))));clear hb1
  have k0:w1.cell? ⟨w.heap.size,0,none⟩=some (.int .i64 0):=by rw [hc _ _ (by first|(simp;done)|(simp;omega))];simp [go_sem]
  have k1:w1.cell? ⟨w.heap.size,1,none⟩=some (.int .i64 0):=by rw [hc _ _ (by first|(simp;done)|(simp;omega))];simp [go_sem]
  rw [HV.out]
  go_wp2
  exact bodyPost_ret (v:= .tuple #[.agg #[.int .i64 (t.tdiv g), .int .i64 (b.tdiv g)], .bool true]) (by simp [results,Tryz.results214,go_sem,k0,k1]) rfl ⟨rfl,HB.out.setCell (Nat.le_refl _) _|>.setCell (Nat.le_refl _) _⟩
 ·have ho':=Bool.eq_false_iff.mpr ho
  obtain ⟨e1,e2⟩:=mk_no ho'
  have HV:=Lib.hid (hmk.symm.trans ho')
  rw [ho',e1,e2]
  clear ho ho' e1 e2 hmk hyes
  go_enter Tryz.func214,Tryz.ntmps214
  go_wp2_with fail
  refine (gcd_spec _ _ _ ht (by omega)).mono ?_
  rintro e w' ⟨rfl,rfl⟩
  rw [HG.out]
  go_wp2
  go_region
  go_wp2_with fail
  refine (valid_spec _ _ _).mono ?_
  rintro e w1 ⟨rfl,hb1⟩
  obtain ⟨hc,hf⟩:=bcell hb1
  have hz:w.heap.size+1<w1.heap.size:=by have:=hb1.size;simp at this;omega
  have HB:=Lib.hid (drew_below (((Below.refl _ w).alloc (Nat.le_refl _) _).alloc (by simp) _) 1|>.trans (hb1.mono (by first|(simp;done)|(simp;omega))));clear hb1
  have k0:w1.cell? ⟨w.heap.size,0,none⟩=some (.int .i64 0):=by rw [hc _ _ (by first|(simp;done)|(simp;omega))];simp [go_sem]
  have k1:w1.cell? ⟨w.heap.size,1,none⟩=some (.int .i64 0):=by rw [hc _ _ (by first|(simp;done)|(simp;omega))];simp [go_sem]
  rw [HV.out]
  go_wp2
  exact bodyPost_ret (v:= .tuple #[.agg #[.int .i64 0, .int .i64 0], .bool false]) (by simp [results,Tryz.results214,go_sem,k0,k1]) rfl ⟨rfl,HB.out.setCell (Nat.le_refl _) _|>.setCell (Nat.le_refl _) _⟩
theorem gcd_i (t b:Int) (w:World) (ht:t.natAbs<4611686018427387904) (hb:1≤b) (hb1:b<4611686018427387904):
  Calls Tryz.prog 258 #[.int .i64 (t.natAbs:Nat), .int .i64 b] w fun e w'=>e= .returned (.int .i64 (Int.gcd t b:Nat))∧ ∃n,w'=w.drewN n:=by
 obtain ⟨m,rfl⟩:=Int.eq_ofNat_of_zero_le (show 0≤b by omega)
 exact gcd_impl t.natAbs m w ht (by omega)
theorem reduced_any (t b:Int) (w:World) (ht:t.natAbs<4611686018427387904) (hb:1≤b) (hb1:b<4611686018427387904):
  Calls Tryz.prog 255 #[.agg #[.int .i64 t, .int .i64 b]] w fun e w'=>e=fr (mkT t b) (mkB t b) (mkOK t b)∧Below w.heap.size w w':=by
 obtain ⟨g,hg,hg1,HG,hmk,hyes⟩:=mk_ready t b (by omega)
 have hg0:((g:Int)==0)=false:=by simp;omega
 have s1:=tdiv_size t g
 have s2:=tdiv_size b g
 by_cases ho:mkOK t b=true
 ·obtain ⟨e1,e2⟩:=hyes ho
  have HV:=Lib.hid (hmk.symm.trans ho)
  rw [ho,e1,e2]
  clear ho e1 e2 hmk hyes
  go_enter Tryz.func255,Tryz.ntmps255
  go_wp2
  go_quiet (first
   |(go_at_call 259;exact Calls.quiet_of_same ((size_any _ _ (by omega) (by omega)).mono fun e w' h=>⟨h.1,h.2.symm⟩))
   |(go_at_call 258;exact Calls.quiet_of (gcd_i _ _ _ (by omega) (by omega) (by omega))))
  go_wp2
  rw [HG.out]
  go_region
  go_wp2_with fail
  refine (valid_method _ _ _).mono ?_
  rintro e w1 ⟨rfl,hb1⟩
  obtain ⟨hc,hf⟩:=bcell hb1
  have hz:w.heap.size+2<w1.heap.size:=by have:=hb1.size;simp at this;omega
  have HB:=Lib.hid (((drew_below ((((Below.refl _ w).alloc (Nat.le_refl _) _).alloc (by simp) _).alloc (by first|(simp;done)|(simp;omega)) _) nq).drew).trans (hb1.mono (by first|(simp;done)|(simp;omega))));clear hb1
  have k0:w1.cell? ⟨w.heap.size+1,0,none⟩=some (.int .i64 0):=by rw [hc _ _ (by first|(simp;done)|(simp;omega))];simp [go_sem]
  have k1:w1.cell? ⟨w.heap.size+1,1,none⟩=some (.int .i64 0):=by rw [hc _ _ (by first|(simp;done)|(simp;omega))];simp [go_sem]
  rw [HV.out]
  go_wp2
  exact bodyPost_ret (v:= .tuple #[.agg #[.int .i64 (t.tdiv g), .int .i64 (b.tdiv g)], .bool true]) (by simp [results,Tryz.results255,go_sem,k0,k1]) rfl ⟨rfl,HB.out.setCell (by simp) _|>.setCell (by simp) _⟩
 ·have ho':=Bool.eq_false_iff.mpr ho
  obtain ⟨e1,e2⟩:=mk_no ho'
  have HV:=Lib.hid (hmk.symm.trans ho')
  rw [ho',e1,e2]
  clear ho ho' e1 e2 hmk hyes
  go_enter Tryz.func255,Tryz.ntmps255
  go_wp2
  go_quiet (first
   |(go_at_call 259;exact Calls.quiet_of_same ((size_any _ _ (by omega) (by omega)).mono fun e w' h=>⟨h.1,h.2.symm⟩))
   |(go_at_call 258;exact Calls.quiet_of (gcd_i _ _ _ (by omega) (by omega) (by omega))))
  go_wp2
  rw [HG.out]
  go_region
  go_wp2_with fail
  refine (valid_method _ _ _).mono ?_
  rintro e w1 ⟨rfl,hb1⟩
  obtain ⟨hc,hf⟩:=bcell hb1
  have hz:w.heap.size+2<w1.heap.size:=by have:=hb1.size;simp at this;omega
  have HB:=Lib.hid (((drew_below ((((Below.refl _ w).alloc (Nat.le_refl _) _).alloc (by simp) _).alloc (by first|(simp;done)|(simp;omega)) _) nq).drew).trans (hb1.mono (by first|(simp;done)|(simp;omega))));clear hb1
  have k0:w1.cell? ⟨w.heap.size+1,0,none⟩=some (.int .i64 0):=by rw [hc _ _ (by first|(simp;done)|(simp;omega))];simp [go_sem]
  have k1:w1.cell? ⟨w.heap.size+1,1,none⟩=some (.int .i64 0):=by rw [hc _ _ (by first|(simp;done)|(simp;omega))];simp [go_sem]
  rw [HV.out]
  go_wp2
  exact bodyPost_ret (v:= .tuple #[.agg #[.int .i64 0, .int .i64 0], .bool false]) (by simp [results,Tryz.results255,go_sem,k0,k1]) rfl ⟨rfl,HB.out.setCell (by simp) _|>.setCell (by simp) _⟩
theorem snoc_ind {P:List UInt8→Prop} (h0:P []) (h1: ∀l b,P l→P (l++[b])) (l:List UInt8):P l:=by
 have: ∀r:List UInt8,P r.reverse:=by
  intro r
  induction r with
  |nil=>exact h0
  |cons a t ih=>rw [List.reverse_cons];exact h1 _ _ ih
 have h:=this l.reverse
 rwa [List.reverse_reverse] at h
def isD (b:UInt8):Bool:=decide (48≤b.toNat)&&decide (b.toNat≤57)
def allD (l:List UInt8):Bool:=l.all isD
def valD (l:List UInt8):Nat:=l.foldl (fun n b=>n*10+(b.toNat-48)) 0
theorem valD_nil:valD []=0:=rfl
theorem valD_snoc (l:List UInt8) (b:UInt8):valD (l++[b])=valD l*10+(b.toNat-48):=by simp [valD]
theorem allD_snoc (l:List UInt8) (b:UInt8):allD (l++[b])=(allD l&&isD b):=by simp [allD]
theorem valD_lt (l:List UInt8):allD l=true→valD l<10^l.length:=by
 refine snoc_ind (P:=fun l=>allD l=true→valD l<10^l.length) (by simp [valD]) ?_ l
 intro l b ih h
 rw [allD_snoc] at h
 simp only [Bool.and_eq_true,isD,decide_eq_true_eq] at h
 have:=ih h.1
 rw [valD_snoc,List.length_append,List.length_singleton,Nat.pow_succ]
 omega
theorem pow_le_10 {n:Nat} (h:n≤10):10^n≤10000000000:=by
 have:=Nat.pow_le_pow_right (show 0<10 by omega) h;omega
theorem valD_bd (l:List UInt8) (h:allD l=true) (hl:l.length≤10):valD l<10000000000:=Nat.lt_of_lt_of_le (valD_lt l h) (pow_le_10 hl)
theorem allD_take (l:List UInt8) (k:Nat) (h:allD l=true):allD (l.take k)=true:=by
 simp only [allD,List.all_eq_true] at h⊢;exact fun x hx=>h x (List.mem_of_mem_take hx)
theorem allD_take_false (l:List UInt8) (k:Nat) (h:allD (l.take k)=false):allD l=false:=by
 rw [Bool.eq_false_iff] at h⊢;exact fun g=>h (allD_take l k g)
def dOK (l:List UInt8) (most:Nat):Bool:=decide (1≤l.length)&&decide (l.length≤most)&&allD l
def dN (l:List UInt8) (most:Nat):Nat:=if dOK l most=true then valD l else 0
def runD:List UInt8→Nat→Nat
 |[],_=>0
 |_::_,0=>0
 |b::l,m+1=>if isD b=true then runD l m+1 else 0
theorem runD_le (l:List UInt8): ∀m,runD l m≤l.length∧runD l m≤m:=by
 induction l with
 |nil=>intro m;simp [runD]
 |cons b t ih=>
  intro m
  cases m with
  |zero=>simp [runD]
  |succ m=>simp only [runD];split<;>simp [ih m]
theorem runD_take (l:List UInt8): ∀m,allD (l.take (runD l m))=true:=by
 induction l with
 |nil=>intro m;simp [runD,allD]
 |cons b t ih=>
  intro m
  cases m with
  |zero=>simp [runD,allD]
  |succ m=>
   simp only [runD];split
   ·rename_i h;have:=ih m;simp only [allD,List.take_succ_cons,List.all_cons,h,Bool.true_and];exact this
   ·simp [allD]
theorem runD_stop (l:List UInt8): ∀m,runD l m=l.length∨runD l m=m∨ ∃b,l[runD l m]? =some b∧isD b=false:=by
 induction l with
 |nil=>intro m;simp [runD]
 |cons b t ih=>
  intro m
  cases m with
  |zero=>simp [runD]
  |succ m=>
   simp only [runD];split
   ·rcases ih m with h|h|⟨x,h1,h2⟩
    ·left;simp [h]
    ·right;left;omega
    ·right;right;exact ⟨x,by simpa using h1,h2⟩
   ·rename_i h;right;right;exact ⟨b,by simp,by simpa using h⟩
theorem runD_unique {l:List UInt8} {m k:Nat} (h1:k≤l.length) (h2:k≤m) (h3:allD (l.take k)=true) (h4:k=l.length∨k=m∨ ∃b,l[k]? =some b∧isD b=false):runD l m=k:=by
 have at_of: ∀{l:List UInt8} {i j:Nat},allD (l.take j)=true→i<j→j≤l.length→ ∃b,l[i]? =some b∧isD b=true:=by
  intro l i j h hi hj
  simp only [allD,List.all_eq_true] at h
  refine ⟨l[i],List.getElem?_eq_getElem (by omega),h _ ?_⟩
  rw [List.mem_take_iff_getElem]
  exact ⟨i,by omega,rfl⟩
 obtain ⟨g1,g2⟩:=runD_le l m
 have g3:=runD_take l m
 have g4:=runD_stop l m
 rcases Nat.lt_trichotomy (runD l m) k with h|h|h
 ·obtain ⟨b,hb,hd⟩:=at_of h3 h h1
  rcases g4 with g|g|⟨x,hx,hx2⟩
  ·omega
  ·omega
  ·rw [hb] at hx;cases hx;rw [hd] at hx2;cases hx2
 ·exact h
 ·obtain ⟨b,hb,hd⟩:=at_of g3 h g1
  rcases h4 with g|g|⟨x,hx,hx2⟩
  ·omega
  ·omega
  ·rw [hb] at hx;cases hx;rw [hd] at hx2;cases hx2
def opOK (v:Bool) (x y:Int):Bool:=v&&mkOK x y
def opT (v:Bool) (x y:Int):Int:=if v=true then mkT x y else 0
def opB (v:Bool) (x y:Int):Int:=if v=true then mkB x y else 0
theorem op_true (x y:Int):opT true x y=mkT x y∧opB true x y=mkB x y∧opOK true x y=mkOK x y:=by simp [opT,opB,opOK]
theorem op_false (x y:Int):opT false x y=0∧opB false x y=0∧opOK false x y=false:=by simp [opT,opB,opOK]
def cmpI (x y:Int):Int:=if x<y then-1 else if y<x then 1 else 0
def cmpF (v:Bool) (x y:Int):Int:=if v=true then cmpI x y else 2
def divT (a bT bB:Int):Int:=if bT<0 then-(a*bB) else a*bB
def divB (aB bT:Int):Int:=if bT<0 then-(aB*bT) else aB*bT
theorem mul_bd (x y:Int) (A B C:Nat) (hC:A*B=C) (hx:x.natAbs≤A) (hy:y.natAbs≤B): -(C:Int)≤x*y∧x*y≤(C:Int):=by
 have h:(x*y).natAbs≤C:=by rw [Int.natAbs_mul,←hC];exact Nat.mul_le_mul hx hy
 omega
theorem mul_15 {x y:Int} (hx0: -1000000000≤x) (hx1:x≤1000000000) (hy0:1≤y) (hy1:y≤1000000): -1000000000000000≤x*y∧x*y≤1000000000000000:=by
 have:=mul_bd x y 1000000000 1000000 1000000000000000 rfl (by omega) (by omega);omega
theorem mul_18 {x y:Int} (hx0: -1000000000≤x) (hx1:x≤1000000000) (hy0: -1000000000≤y) (hy1:y≤1000000000): -1000000000000000000≤x*y∧x*y≤1000000000000000000:=by
 have:=mul_bd x y 1000000000 1000000000 1000000000000000000 rfl (by omega) (by omega);omega
theorem mul_12 {x y:Int} (hx0:1≤x) (hx1:x≤1000000) (hy0:1≤y) (hy1:y≤1000000):1≤x*y∧x*y≤1000000000000:=by
 have:=mul_bd x y 1000000 1000000 1000000000000 rfl (by omega) (by omega)
 have:=Int.mul_pos (show 0<x by omega) (show 0<y by omega);omega
theorem vB_bd {t b:Int} (h:vB t b=true): -1000000000≤t∧t≤1000000000∧1≤b∧b≤1000000:=by
 rw [vB_iff] at h;omega
theorem ix_bd (l:List UInt8) (c:UInt8): -1≤Lib.indexByte l c∧Lib.indexByte l c<l.length:=by
 induction l with
 |nil=>simp [Lib.indexByte]
 |cons b t ih=>
  simp only [Lib.indexByte]
  split
  ·simp only [List.length_cons];omega
  ·split
   ·simp only [List.length_cons];omega
   ·rename_i h1 h2
    have:Lib.indexByte t c≠ -1:=by simpa using h2
    simp only [List.length_cons];omega
theorem ix_none (l:List UInt8) (c:UInt8) (h:c∉l):Lib.indexByte l c= -1:=by
 induction l with
 |nil=>rfl
 |cons b t ih=>
  simp only [List.mem_cons,not_or] at h
  simp only [Lib.indexByte]
  rw [if_neg (by simpa using Ne.symm h.1),if_pos (by simpa using ih h.2)]
theorem ix_at (l:List UInt8) (c:UInt8): ∀k:Nat,l[k]? =some c→c∉l.take k→Lib.indexByte l c=k:=by
 induction l with
 |nil=>intro k h;simp at h
 |cons b t ih=>
  intro k h hn
  cases k with
  |zero=>
   simp only [List.getElem?_cons_zero,Option.some.injEq] at h
   simp [Lib.indexByte,h]
  |succ k=>
   simp only [List.getElem?_cons_succ] at h
   simp only [List.take_succ_cons,List.mem_cons,not_or] at hn
   have e:=ih k h hn.2
   simp only [Lib.indexByte]
   rw [if_neg (by simpa using Ne.symm hn.1),e,if_neg (by rw [beq_iff_eq];omega)];omega
theorem ix_yes (l:List UInt8) (c:UInt8): ∀k:Nat,Lib.indexByte l c=k→l[k]? =some c∧c∉l.take k:=by
 induction l with
 |nil=>intro k h;simp only [Lib.indexByte] at h;omega
 |cons b t ih=>
  intro k h
  simp only [Lib.indexByte] at h
  split at h
  ·rename_i hb
   obtain rfl:k=0:=by omega
   simp at hb
   simp [hb]
  ·rename_i hb
   split at h
   ·omega
   ·rename_i hb2
    have hb1:=ix_bd t c
    have hb3:Lib.indexByte t c≠ -1:=by simpa using hb2
    cases k with
    |zero=>omega
    |succ k=>
     obtain ⟨h1,h2⟩:=ih k (by omega)
     simp only [List.getElem?_cons_succ,h1,true_and,List.take_succ_cons,List.mem_cons,not_or]
     exact ⟨by rintro rfl;simp at hb,h2⟩
theorem dot_digit {l:List UInt8} (h:allD l=true):(46:UInt8)∉l:=by
 intro hm
 simp only [allD,List.all_eq_true] at h
 have:=h 46 hm
 simp [isD] at this
def decP (l:List UInt8):List UInt8:=if Lib.indexByte l 46<0 then l else l.take (Lib.indexByte l 46).toNat
def decQ (l:List UInt8):List UInt8:=if Lib.indexByte l 46<0 then [48] else l.drop ((Lib.indexByte l 46).toNat+1)
def decV (l:List UInt8):Bool:=dOK (decP l) 10&&dOK (decQ l) 6
def decX (l:List UInt8):Int:=((valD (decP l)*10^(decQ l).length+valD (decQ l):Nat):Int)
def decY (l:List UInt8):Int:=((10^(decQ l).length:Nat):Int)
theorem mk_scale (t b k:Int) (hb:1≤b) (hk:1≤k):mkOK (t*k) (b*k)=mkOK t b∧mkT (t*k) (b*k)=mkT t b∧mkB (t*k) (b*k)=mkB t b:=by
 have hbk:1≤b*k:=by have:=Int.mul_pos (show 0<b by omega) (show 0<k by omega);omega
 by_cases h:mkOK t b=true
 ·obtain ⟨v,e⟩:=mk_value hb h
  obtain ⟨o,p,q⟩:=mk_of (t:=t*k) hbk v (by rw [←Int.mul_assoc,e];grind)
  exact ⟨o.trans h.symm,p,q⟩
 ·have h':=Bool.eq_false_iff.mpr h
  have g:mkOK (t*k) (b*k)=false:=by
   rw [Bool.eq_false_iff];intro g
   obtain ⟨v,e⟩:=mk_value hbk g
   refine h (mk_of hb v (Int.eq_of_mul_eq_mul_right (show k≠0 by omega) ?_)).1
   generalize mkT (t*k) (b*k)=p at*
   generalize mkB (t*k) (b*k)=q at*
   grind
  rw [(mk_no h').1,(mk_no h').2,(mk_no g).1,(mk_no g).2,g,h'];exact ⟨rfl,rfl,rfl⟩
theorem dOK_iff (l:List UInt8) (m:Nat):dOK l m=true↔1≤l.length∧l.length≤m∧allD l=true:=by
 simp [dOK,and_assoc]
theorem run_full {l:List UInt8} {m:Nat} (h:allD l=true) (hm:l.length≤m):runD l m=l.length:=
 runD_unique (Nat.le_refl _) hm (by rw [List.take_length];exact h) (.inl rfl)
theorem dec_s1 {l:List UInt8} (h:runD l 10=0):decV l=false:=by
 rw [Bool.eq_false_iff];intro hv
 simp only [decV,Bool.and_eq_true,dOK_iff] at hv
 obtain ⟨⟨h1,h2,h3⟩,-⟩:=hv
 unfold decP at h1 h2 h3
 split at h1
 ·rename_i hi
  simp only [hi,if_true] at h2 h3
  have:=run_full h3 h2;omega
 ·rename_i hi
  simp only [hi,if_false] at h2 h3
  have hb:=ix_bd l 46
  obtain ⟨k,hk⟩:=Int.eq_ofNat_of_zero_le (show 0≤Lib.indexByte l 46 by omega)
  rw [hk,Int.toNat_natCast] at h1 h2 h3
  have hy:=ix_yes l 46 k hk
  rw [List.length_take] at h1 h2
  have:runD l 10=k:=runD_unique (by omega) (by omega) h3 (.inr (.inr ⟨46,hy.1,by decide⟩))
  omega
theorem dec_s2 {l:List UInt8} {k:Nat} (h:runD l 10=k) (hk:1≤k) (hp:l[k]? =some 46):decP l=l.take k∧decQ l=l.drop (k+1)∧dOK (decP l) 10=true:=by
 have ht:=runD_take l 10
 have hl:=runD_le l 10
 rw [h] at ht hl
 have e:=ix_at l 46 k hp (dot_digit ht)
 have e1:decP l=l.take k:=by unfold decP;rw [if_neg (by omega),e];rfl
 have e2:decQ l=l.drop (k+1):=by unfold decQ;rw [if_neg (by omega),e];rfl
 refine ⟨e1,e2, ?_⟩
 rw [e1,dOK_iff,List.length_take]
 exact ⟨by omega,by omega,ht⟩
theorem dec_s2_bad {l:List UInt8} {k j:Nat} (h:runD l 10=k) (hk:1≤k) (hp:l[k]? =some 46) (hj:runD (l.drop (k+1)) 7=j) (hb: ¬(1≤j∧j≤6)∨k+1+j≠l.length):decV l=false:=by
 obtain ⟨e1,e2,e3⟩:=dec_s2 h hk hp
 rw [Bool.eq_false_iff];intro hv
 simp only [decV,Bool.and_eq_true,dOK_iff,e2] at hv
 obtain ⟨-,g1,g2,g3⟩:=hv
 have:=run_full g3 (show (l.drop (k+1)).length≤7 by omega)
 rw [List.length_drop] at*
 have hkl:k<l.length:=by
  by_cases q:k<l.length
  ·exact q
  ·rw [List.getElem?_eq_none (by omega)] at hp;cases hp
 omega
theorem dec_s2_good {l:List UInt8} {k j:Nat} (h:runD l 10=k) (hk:1≤k) (hp:l[k]? =some 46) (hj:runD (l.drop (k+1)) 7=j) (h1:1≤j) (h6:j≤6) (he:k+1+j=l.length):
  decV l=true∧decX l=((valD (l.take k)*10^j+valD ((l.drop (k+1)).take j):Nat):Int)∧decY l=((10^j:Nat):Int):=by
 obtain ⟨e1,e2,e3⟩:=dec_s2 h hk hp
 have hlen:(l.drop (k+1)).length=j:=by rw [List.length_drop];omega
 have ht:=runD_take (l.drop (k+1)) 7
 rw [hj,List.take_of_length_le (by omega)] at ht
 refine ⟨?_, ?_, ?_⟩
 ·simp only [decV,e3,Bool.true_and,dOK_iff,e2,hlen];exact ⟨h1,h6,ht⟩
 ·unfold decX;rw [e1,e2,hlen,List.take_of_length_le (show (l.drop (k+1)).length≤j by omega)]
 ·unfold decY;rw [e2,hlen]
theorem dec_s3_bad {l:List UInt8} {k:Nat} (h:runD l 10=k) (hp:l[k]? ≠some 46) (he:k≠l.length):decV l=false:=by
 rw [Bool.eq_false_iff];intro hv
 simp only [decV,Bool.and_eq_true,dOK_iff] at hv
 obtain ⟨⟨h1,h2,h3⟩,-⟩:=hv
 unfold decP at h1 h2 h3
 split at h1
 ·rename_i hi
  simp only [hi,if_true] at h2 h3
  have:=run_full h3 h2;omega
 ·rename_i hi
  simp only [hi,if_false] at h2 h3
  have hb:=ix_bd l 46
  obtain ⟨i,hk⟩:=Int.eq_ofNat_of_zero_le (show 0≤Lib.indexByte l 46 by omega)
  rw [hk,Int.toNat_natCast] at h1 h2 h3
  have hy:=ix_yes l 46 i hk
  rw [List.length_take] at h1 h2
  have:runD l 10=i:=runD_unique (by omega) (by omega) h3 (.inr (.inr ⟨46,hy.1,by decide⟩))
  rw [h] at this;subst this;exact hp hy.1
theorem dec_s3_good {l:List UInt8} {k:Nat} (h:runD l 10=k) (hk:1≤k) (he:k=l.length):
  decV l=true∧decX l=((valD (l.take k):Nat):Int)*10∧decY l=1*10:=by
 have ht:=runD_take l 10
 have hl:=runD_le l 10
 rw [h] at ht hl
 rw [List.take_of_length_le (by omega)] at ht⊢
 have e:=ix_none l 46 (dot_digit ht)
 have e1:decP l=l:=by unfold decP;rw [if_pos (by omega)]
 have e2:decQ l=[48]:=by unfold decQ;rw [if_pos (by omega)]
 refine ⟨?_, ?_, ?_⟩
 ·simp only [decV,e1,e2,Bool.and_eq_true,dOK_iff];exact ⟨⟨by omega,by omega,ht⟩,by decide⟩
 ·unfold decX;rw [e1,e2];simp [valD]
 ·unfold decY;rw [e2];rfl
theorem tk_snoc (s:ByteArray) (k:Nat) (h:k<s.size):s.data.toList.take (k+1)=s.data.toList.take k++[s[k]]:=by
 rw [List.take_succ_eq_append_getElem (by simpa using h)];rfl
theorem dOK_no_size {l:List UInt8} {m:Nat} (h:l.length=0∨m<l.length):dOK l m=false:=by
 simp only [dOK,Bool.and_eq_false_imp,Bool.and_eq_true,decide_eq_true_eq];omega
theorem dOK_no_digit (s:ByteArray) (m k:Nat) (hk:k<s.size) (h:isD s[k]=false):dOK s.data.toList m=false:=by
 have:allD s.data.toList=false:=allD_take_false _ (k+1) (by rw [tk_snoc s k hk,allD_snoc,h,Bool.and_false])
 simp [dOK,this]
theorem isD_lo {b:UInt8} (h:(b.toNat:Int)<48):isD b=false:=by simp [isD];omega
theorem isD_hi {b:UInt8} (h:57<(b.toNat:Int)):isD b=false:=by simp [isD];omega
theorem isD_in {b:UInt8} (h0:48≤(b.toNat:Int)) (h1:(b.toNat:Int)≤57):isD b=true:=by simp [isD];omega
theorem digitsNumber_any (s:ByteArray) (most:Nat) (w:World) (hs:s.size≤maxLen) (hm:most≤10):
  Calls Tryz.prog 254 #[.string s, .int .i64 (most:Int)] w fun e w'=>e= .returned (.tuple #[.int .i64 (dN s.data.toList most:Nat), .bool (dOK s.data.toList most)])∧w=w':=by
 unfold maxLen at hs
 have hlen:s.data.toList.length=s.size:=by rw [Array.length_toList];rfl
 by_cases hsz:1≤s.size∧s.size≤most
 ·obtain ⟨h1,h2⟩:=hsz
  by_cases hall:allD s.data.toList=true
  ·have ho:dOK s.data.toList most=true:=by simp [dOK,hlen,h1,h2,hall]
   rw [ho,show dN s.data.toList most=valD s.data.toList by simp [dN,ho]]
   have HA:=Lib.hid hall;have HL:=Lib.hid hlen
   clear ho hall hlen
   have z1:((s.size:Int)==0)=false:=by rw [beq_eq_false_iff_ne];omega
   have z2:decide (most<s.size)=false:=by simp;omega
   go_enter Tryz.func254,Tryz.ntmps254
   go_wp2
   go_loop [6,7,19] (fun n _ i=> ∃k:Nat,k≤s.size∧i= .int .i64 (k:Int)∧n= .int .i64 ((valD (s.data.toList.take k):Nat):Int)) (fun _ _ i=>s.size-(intOf i).toNat)
   case atStart=>exact ⟨0,Nat.zero_le _,rfl,rfl⟩
   case round=>
    obtain ⟨k,hk,rfl,rfl⟩:=hrel
    by_cases hlt:k<s.size
    ·have hd:isD s[k]=true:=by
      have:=allD_take _ (k+1) HA.out;rw [tk_snoc s k hlt,allD_snoc] at this;simp only [Bool.and_eq_true] at this;exact this.2
     have hdd:48≤(s[k].toNat:Int)∧(s[k].toNat:Int)≤57:=by simp [isD] at hd;omega
     obtain ⟨d1,d2⟩:=hdd
     have hv:=valD_bd (s.data.toList.take k) (allD_take _ k HA.out) (by rw [List.length_take,HL.out];omega)
     have HS:=Lib.hid (show valD (s.data.toList.take (k+1))=valD (s.data.toList.take k)*10+(s[k].toNat-48) by rw [tk_snoc s k hlt,valD_snoc])
     clear hd
     generalize valD (s.data.toList.take k)=v at hv HS⊢
     go_wp2
     go_round
     case rel=>exact ⟨k+1,by omega,by go_num,by rw [HS.out];go_num⟩
     case measure=>simp [intOf];omega
    ·obtain rfl:k=s.size:=by omega
     rw [show s.data.toList.take s.size=s.data.toList from List.take_of_length_le (by rw [HL.out];exact Nat.le_refl _)]
     go_wp2
     go_ret2
     exact ⟨rfl,rfl⟩
  ·have hall':=Bool.eq_false_iff.mpr hall
   have ho:dOK s.data.toList most=false:=by simp [dOK,hall']
   rw [ho,show dN s.data.toList most=0 by simp [dN,ho]]
   have HA:=Lib.hid hall';have HL:=Lib.hid hlen
   clear ho hall hall' hlen
   have z1:((s.size:Int)==0)=false:=by rw [beq_eq_false_iff_ne];omega
   have z2:decide (most<s.size)=false:=by simp;omega
   go_enter Tryz.func254,Tryz.ntmps254
   go_wp2
   go_loop [6,7,19] (fun n _ i=> ∃k:Nat,k≤s.size∧i= .int .i64 (k:Int)∧allD (s.data.toList.take k)=true∧n= .int .i64 ((valD (s.data.toList.take k):Nat):Int)) (fun _ _ i=>s.size-(intOf i).toNat)
   case atStart=>exact ⟨0,Nat.zero_le _,rfl,rfl,rfl⟩
   case round=>
    obtain ⟨k,hk,rfl,hkd,rfl⟩:=hrel
    have HK:=Lib.hid hkd;clear hkd
    have hlt:k<s.size:=by
     by_cases h:k<s.size
     ·exact h
     ·have h1:=HK.out;have h2:=HA.out
      rw [List.take_of_length_le (by rw [HL.out];omega),h2] at h1;cases h1
    have hv:=valD_bd (s.data.toList.take k) HK.out (by rw [List.length_take,HL.out];omega)
    have hb0:(s[k].toNat:Int)≤255:=by have:=s[k].toNat_lt;omega
    have HS:=Lib.hid (show valD (s.data.toList.take (k+1))=valD (s.data.toList.take k)*10+(s[k].toNat-48) by rw [tk_snoc s k hlt,valD_snoc])
    by_cases d1:48≤(s[k].toNat:Int)
    ·by_cases d2:(s[k].toNat:Int)≤57
     ·have HD:=Lib.hid (show allD (s.data.toList.take (k+1))=true by rw [tk_snoc s k hlt,allD_snoc,HK.out,isD_in d1 d2];rfl)
      generalize valD (s.data.toList.take k)=v at hv HS⊢
      go_wp2
      go_round
      case rel=>exact ⟨k+1,by omega,by go_num,HD.out,by rw [HS.out];go_num⟩
      case measure=>simp [intOf];omega
     ·generalize valD (s.data.toList.take k)=v at hv HS⊢
      go_wp2
      go_ret2
      exact ⟨rfl,rfl⟩
    ·generalize valD (s.data.toList.take k)=v at hv HS⊢
     go_wp2
     go_ret2
     exact ⟨rfl,rfl⟩
 ·have ho:dOK s.data.toList most=false:=dOK_no_size (by rw [hlen];omega)
  rw [ho,show dN s.data.toList most=0 by simp [dN,ho]]
  clear ho hlen
  by_cases h0:s.size=0
  ·have z1:((s.size:Int)==0)=true:=beq_iff_eq.mpr (by omega)
   clear hsz h0
   go_enter Tryz.func254,Tryz.ntmps254
   go_wp2
   go_ret2
   exact ⟨rfl,rfl⟩
  ·have z1:((s.size:Int)==0)=false:=by rw [beq_eq_false_iff_ne];omega
   have z2:decide (most<s.size)=true:=by simp;omega
   clear hsz h0
   go_enter Tryz.func254,Tryz.ntmps254
   go_wp2
   go_ret2
   exact ⟨rfl,rfl⟩
def runAt (s:ByteArray) (at0 most:Nat):Nat:=runD (s.data.toList.drop at0) most
def valAt (s:ByteArray) (at0 k:Nat):Nat:=valD ((s.data.toList.drop at0).take k)
theorem drop_snoc (s:ByteArray) (a k:Nat) (h:a+k<s.size):(s.data.toList.drop a).take (k+1)=(s.data.toList.drop a).take k++[s[a+k]]:=by
 have hl:s.data.toList.length=s.size:=by rw [Array.length_toList];rfl
 rw [List.take_succ_eq_append_getElem (by rw [List.length_drop];omega),List.getElem_drop];rfl
theorem drop_at (s:ByteArray) (a k:Nat) (h:a+k<s.size):(s.data.toList.drop a)[k]? =some s[a+k]:=by
 have hl:s.data.toList.length=s.size:=by rw [Array.length_toList];rfl
 rw [List.getElem?_drop,List.getElem?_eq_getElem (by omega)];rfl
theorem l2Digits_any (s:ByteArray) (a most:Nat) (w:World) (hs:s.size≤2097152) (ha:a≤s.size) (hm:most≤10):
  Calls Tryz.prog 192 #[.string s, .int .i64 (a:Int), .int .i64 (most:Int)] w fun e w'=>e= .returned (.tuple #[.int .i64 ((valAt s a (runAt s a most):Nat):Int), .int .i64 ((a+runAt s a most:Nat):Int)])∧w=w':=by
 have hl:s.data.toList.length=s.size:=by rw [Array.length_toList];rfl
 have hld:(s.data.toList.drop a).length=s.size-a:=by rw [List.length_drop,hl]
 have HL:=Lib.hid hld;clear hl hld
 go_enter Tryz.func192,Tryz.ntmps192
 go_wp2
 go_loop [8,1] (fun n i=> ∃k:Nat,a+k≤s.size∧k≤most∧i= .int .i64 ((a+k:Nat):Int)∧allD ((s.data.toList.drop a).take k)=true∧n= .int .i64 ((valAt s a k:Nat):Int)) (fun _ i=>s.size-(intOf i).toNat)
 case atStart=>exact ⟨0,by omega,by omega,rfl,by simp [allD],by simp [valAt,valD]⟩
 case round=>
  obtain ⟨k,hk,hkm,rfl,hkd,rfl⟩:=hrel
  have HK:=Lib.hid hkd;clear hkd
  have hv:valAt s a k<10000000000:=valD_bd _ HK.out (by rw [List.length_take];omega)
  have fin:(k=s.size-a∨k=most∨ ∃b,(s.data.toList.drop a)[k]? =some b∧isD b=false)→runAt s a most=k:=fun h=>runD_unique (by rw [HL.out];omega) hkm HK.out (by rw [HL.out];exact h)
  have HF:=Lib.hid fin;clear fin
  by_cases hlt:a+k<s.size
  ·have hb0:(s[a+k].toNat:Int)≤255:=by have:=s[a+k].toNat_lt;omega
   have HD:=Lib.hid (drop_at s a k hlt)
   by_cases hkl:k<most
   ·by_cases d1:48≤(s[a+k].toNat:Int)
    ·by_cases d2:(s[a+k].toNat:Int)≤57
     ·have HN:=Lib.hid (show allD ((s.data.toList.drop a).take (k+1))=true by rw [drop_snoc s a k hlt,allD_snoc,HK.out,isD_in d1 d2];rfl)
      have HV:=Lib.hid (show valAt s a (k+1)=valAt s a k*10+(s[a+k].toNat-48) by unfold valAt;rw [drop_snoc s a k hlt,valD_snoc])
      generalize valAt s a k=v at hv HV⊢
      go_wp2
      go_round
      case rel=>exact ⟨k+1,by omega,by omega,by go_num,HN.out,by rw [HV.out];go_num⟩
      case measure=>simp [intOf];omega
     ·have HR:=Lib.hid (HF.out (.inr (.inr ⟨_,HD.out,isD_hi (by omega)⟩)))
      go_wp2
      go_ret2
      exact ⟨by rw [HR.out];go_num,rfl⟩
    ·have HR:=Lib.hid (HF.out (.inr (.inr ⟨_,HD.out,isD_lo (by omega)⟩)))
     go_wp2
     go_ret2
     exact ⟨by rw [HR.out];go_num,rfl⟩
   ·have HR:=Lib.hid (HF.out (.inr (.inl (by omega))))
    by_cases d1:48≤(s[a+k].toNat:Int)
    ·by_cases d2:(s[a+k].toNat:Int)≤57
     ·go_wp2
      go_ret2
      exact ⟨by rw [HR.out];go_num,rfl⟩
     ·go_wp2
      go_ret2
      exact ⟨by rw [HR.out];go_num,rfl⟩
    ·go_wp2
     go_ret2
     exact ⟨by rw [HR.out];go_num,rfl⟩
  ·have HR:=Lib.hid (HF.out (.inl (by omega)))
   go_wp2
   go_ret2
   exact ⟨by rw [HR.out];go_num,rfl⟩
theorem indexByte_any (s:ByteArray) (c:Int) (w:World):
  Calls Tryz.prog 95 #[.string s, .int .u8 c] w fun e w'=>e= .returned (.int .i64 (Lib.indexByte s.data.toList c.toNat.toUInt8))∧w=w':=by
 go_enter Tryz.func95,Tryz.ntmps95
 go_wp2
 rw [run_callFunc_extern Tryz.func144 (by kernel_rfl) (by kernel_rfl) (by kernel_rfl) (e:=Extern.BytealgIndexByte.indexByte) (by kernel_rfl),Lib.run_indexByteString]
 simp only [Result.andThen]
 rw [Oper.upon_value]
 go_wp2
 go_ret
 exact ⟨rfl,rfl⟩
theorem toList_data (s:ByteArray):s.toList=s.data.toList:=by rw [ByteArray.toList_eq]
theorem one_byte (c:UInt8) (h:0<({data:= #[c]}:ByteArray).size):((({data:= #[c]}:ByteArray)[0].toNat:Nat):Int)=(c.toNat:Int):=rfl
theorem index_one (s:ByteArray) (c:UInt8) (w:World) (hs:s.size≤maxLen):
  Calls Tryz.prog 253 #[.string s, .string ⟨#[c]⟩] w fun e w'=>e= .returned (.int .i64 (Lib.indexByte s.data.toList c))∧w=w':=by
 unfold maxLen at hs
 by_cases hb:([c]==s.toList)=true
 ·have hl:s.data.toList=[c]:=by rw [←toList_data];simpa using (beq_iff_eq.mp hb).symm
  rw [hl,show Lib.indexByte [c] c=0 by simp [Lib.indexByte]]
  clear hl
  go_enter Tryz.func253,Tryz.ntmps253
  go_wp2
  go_ret
  exact ⟨rfl,rfl⟩
 ·have hb':([c]==s.toList)=false:=Bool.eq_false_iff.mpr hb
  clear hb
  go_enter Tryz.func253,Tryz.ntmps253
  go_wp2_with fail
  refine (indexByte_any _ _ _).mono ?_
  rintro e w' ⟨rfl,rfl⟩
  rw [one_byte,show ((c.toNat:Int)).toNat.toUInt8=c by simp]
  go_wp2
  go_ret
  exact ⟨rfl,rfl⟩
def cutP (s:ByteArray) (c:UInt8):ByteArray:=if Lib.indexByte s.data.toList c<0 then s else s.extract 0 (Lib.indexByte s.data.toList c).toNat
def cutQ (s:ByteArray) (c:UInt8):ByteArray:=if Lib.indexByte s.data.toList c<0 then ⟨#[]⟩ else s.extract ((Lib.indexByte s.data.toList c).toNat+1) s.size
def cutB (s:ByteArray) (c:UInt8):Bool:= !decide (Lib.indexByte s.data.toList c<0)
theorem indexByte_lt (l:List UInt8) (c:UInt8): -1≤Lib.indexByte l c∧Lib.indexByte l c<l.length:=by
 induction l with
 |nil=>simp [Lib.indexByte]
 |cons b t ih=>
  simp only [Lib.indexByte]
  split
  ·simp only [List.length_cons];omega
  ·split
   ·simp only [List.length_cons];omega
   ·rename_i h1 h2
    have:Lib.indexByte t c≠ -1:=by simpa using h2
    simp only [List.length_cons];omega
theorem slcut_one (s:ByteArray) (c:UInt8) (w:World) (hs:s.size≤maxLen):
  Calls Tryz.prog 247 #[.string s, .string ⟨#[c]⟩] w fun e w'=>e= .returned (.tuple #[.string (cutP s c), .string (cutQ s c), .bool (cutB s c)])∧ ∃n,w'=w.drewN n:=by
 have hi:=indexByte_lt s.data.toList c
 have hsz:s.data.toList.length=s.size:=by rw [Array.length_toList];rfl
 by_cases hn:Lib.indexByte s.data.toList c<0
 ·rw [show cutP s c=s by simp [cutP,hn],show cutQ s c=⟨#[]⟩ by simp [cutQ,hn],show cutB s c=false by simp [cutB,hn]]
  have HC:=Lib.hid (show Lib.indexByte s.data.toList c= -1 by omega)
  clear hn hi hsz
  go_enter Tryz.func247,Tryz.ntmps247
  go_wp2_with fail
  refine (index_one s c _ hs).mono ?_
  rintro e w' ⟨rfl,rfl⟩
  rw [HC.out]
  go_wp2
  exact bodyPost_ret (v:= .tuple #[.string s, .string ⟨#[]⟩, .bool false]) (by simp [results,Tryz.results247,go_sem]) rfl ⟨rfl,0,rfl⟩
 ·obtain ⟨k,hk⟩:=Int.eq_ofNat_of_zero_le (show 0≤Lib.indexByte s.data.toList c by omega)
  have HC:=Lib.hid hk
  have hks:k<s.size:=by omega
  rw [show cutP s c=s.extract 0 k by rw [cutP,if_neg hn,hk];rfl,show cutQ s c=s.extract (k+1) s.size by rw [cutQ,if_neg hn,hk];rfl,show cutB s c=true by simp [cutB];omega]
  unfold maxLen at hs
  clear hn hi hsz hk
  have r1:(0:Int)≤(k:Int):=by omega
  have r2:(k:Int)≤(s.size:Int):=by omega
  have r3:(k:Int)+1≤(s.size:Int):=by omega
  have r4:(0:Int)≤(k:Int)+1:=by omega
  have r5:((k:Int)+1).toNat=k+1:=by omega
  have r6:IntKind.i64.wrap ((k:Int)+1)=(k:Int)+1:=IntWalk.i64_in _ (by omega)
  go_enter Tryz.func247,Tryz.ntmps247
  go_wp2_with fail
  refine (index_one s c _ (by unfold maxLen;exact hs)).mono ?_
  rintro e w' ⟨rfl,rfl⟩
  rw [HC.out]
  go_wp2
  go_quiet (fail)
  go_wp2
  exact bodyPost_ret (v:= .tuple #[.string (s.extract 0 k), .string (s.extract (k+1) s.size), .bool true]) (by simp [results,Tryz.results247,go_sem]) rfl ⟨rfl,_,rfl⟩
theorem cut_one (s:ByteArray) (c:UInt8) (w:World) (hs:s.size≤maxLen):
  Calls Tryz.prog 240 #[.string s, .string ⟨#[c]⟩] w fun e w'=>e= .returned (.tuple #[.string (cutP s c), .string (cutQ s c), .bool (cutB s c)])∧Below w.heap.size w w':=by
 go_enter Tryz.func240,Tryz.ntmps240
 go_wp2_with fail
 refine (slcut_one s c _ hs).mono ?_
 rintro e w1 ⟨rfl,n,rfl⟩
 go_wp2
 exact bodyPost_ret (v:= .tuple #[.string (cutP s c), .string (cutQ s c), .bool (cutB s c)]) (by simp [results,Tryz.results240,go_sem]) rfl ⟨rfl,(Below.refl _ w).trans ⟨rfl,rfl,rfl,Nat.le_refl _,fun _ _=>rfl⟩⟩
def TwoF (w':World) (N B:Nat) (x y:Int):Prop:=
 N<B∧B<w'.heap.size∧w'.cell? ⟨N,0,none⟩=some (.int .i64 0)∧w'.cell? ⟨N,1,none⟩=some (.int .i64 0)∧w'.frozen? ⟨N,0,none⟩=false∧w'.frozen? ⟨N,1,none⟩=false∧
 w'.cell? ⟨B,0,none⟩=some (.int .i64 x)∧w'.cell? ⟨B,1,none⟩=some (.int .i64 y)∧w'.frozen? ⟨B,0,none⟩=false∧w'.frozen? ⟨B,1,none⟩=false
theorem far_cell {w:World} {b b' o o':Nat} {u:Value} (h:b≠b'):(w.setCell ⟨b,o,none⟩ u).cell? ⟨b',o',none⟩=w.cell? ⟨b',o',none⟩∧(w.setCell ⟨b,o,none⟩ u).frozen? ⟨b',o',none⟩=w.frozen? ⟨b',o',none⟩:=
 ⟨World.cell?_of_block (w:=w) (Below.heap_setCell _ _ _ _ (by show b'≠b;omega)),World.frozen?_of_block (w:=w) (Below.heap_setCell _ _ _ _ (by show b'≠b;omega))⟩
theorem TwoF.set {w':World} {N B:Nat} {x y:Int} (h:TwoF w' N B x y) (u v:Int):TwoF ((w'.setCell ⟨B,0,none⟩ (.int .i64 u)).setCell ⟨B,1,none⟩ (.int .i64 v)) N B u v:=by
 obtain ⟨h0,h1,h2,h3,h4,h5,h6,h7,h8,h9⟩:=h
 refine ⟨h0,by simpa [World.setCell] using h1, ?_, ?_, ?_, ?_, ?_, ?_, ?_, ?_⟩
 ·rw [(far_cell (by omega)).1,(far_cell (by omega)).1];exact h2
 ·rw [(far_cell (by omega)).1,(far_cell (by omega)).1];exact h3
 ·rw [(far_cell (by omega)).2,(far_cell (by omega)).2];exact h4
 ·rw [(far_cell (by omega)).2,(far_cell (by omega)).2];exact h5
 ·simp [go_sem,h6]
 ·simp [go_sem,h7]
 ·simp [go_sem,h8]
 ·simp [go_sem,h9]
theorem TwoF.keep {W w1:World} {N B:Nat} {x y:Int} (h:TwoF W N B x y) (hb:Below W.heap.size W w1):TwoF w1 N B x y:=by
 obtain ⟨h0,h1,h2,h3,h4,h5,h6,h7,h8,h9⟩:=h
 obtain ⟨hc,hf⟩:=bcell hb
 have hs:=hb.size
 exact ⟨h0,by omega,(hc _ _ (by omega)).trans h2,(hc _ _ (by omega)).trans h3,(hf _ _ (by omega)).trans h4,(hf _ _ (by omega)).trans h5,(hc _ _ (by omega)).trans h6,(hc _ _ (by omega)).trans h7,(hf _ _ (by omega)).trans h8,(hf _ _ (by omega)).trans h9⟩
def behindS (s:ByteArray):ByteArray:=if cutB s 46=true then cutQ s 46 else ⟨#[48]⟩
theorem cutP_list (s:ByteArray):(cutP s 46).data.toList=decP s.data.toList:=by
 unfold cutP decP;split
 ·rfl
 ·simp [ByteArray.extract,ByteArray.copySlice]
theorem behind_list (s:ByteArray):(behindS s).data.toList=decQ s.data.toList:=by
 unfold behindS cutB cutQ decQ
 by_cases h:Lib.indexByte s.data.toList 46<0
 ·simp [h]
 ·simp only [h,decide_false,Bool.not_false,if_true,if_false]
  simp [ByteArray.extract,ByteArray.copySlice]
  exact List.take_of_length_le (by rw [List.length_drop,Array.length_toList];exact Nat.le_refl _)
theorem cutP_size (s:ByteArray):(cutP s 46).size≤s.size:=by
 unfold cutP;split
 ·exact Nat.le_refl _
 ·simp [ByteArray.size_extract];omega
theorem behind_size (s:ByteArray):(behindS s).size≤s.size+1:=by
 unfold behindS cutQ;split
 ·split
  ·show (0:Nat)≤_;omega
  ·simp [ByteArray.size_extract];omega
 ·show (1:Nat)≤_;omega
theorem pow_bd {v k:Nat} {x:Int} (h:x=((v*10^k:Nat):Int)) (hv:v<10000000000) (hk:k≤6):0≤x∧x≤10000000000000000:=by
 have h1:10^k≤1000000:=by have:=Nat.pow_le_pow_right (show 0<10 by omega) hk;omega
 have h2:v*10^k≤10000000000*1000000:=Nat.mul_le_mul (by omega) h1
 omega
theorem pow_bd1 {k:Nat} {y:Int} (h:y=((10^k:Nat):Int)) (hk:k≤6):0≤y∧y≤1000000:=by
 have h1:10^k≤1000000:=by have:=Nat.pow_le_pow_right (show 0<10 by omega) hk;omega
 subst h;generalize 10^k=z at*;omega
theorem pow_pos1 {k:Nat} {y:Int} (h:y=((10^k:Nat):Int)):1≤y:=by
 have h1:0<10^k:=Nat.pow_pos (by omega)
 subst h;generalize 10^k=z at*;omega
theorem TwoF.set0 {w':World} {N B:Nat} {x y:Int} (h:TwoF w' N B x y) (u:Int):TwoF (w'.setCell ⟨B,0,none⟩ (.int .i64 u)) N B u y:=by
 obtain ⟨h0,h1,h2,h3,h4,h5,h6,h7,h8,h9⟩:=h
 refine ⟨h0,by simpa [World.setCell] using h1, ?_, ?_, ?_, ?_, ?_, ?_, ?_, ?_⟩
 ·rw [(far_cell (by omega)).1];exact h2
 ·rw [(far_cell (by omega)).1];exact h3
 ·rw [(far_cell (by omega)).2];exact h4
 ·rw [(far_cell (by omega)).2];exact h5
 ·simp [go_sem,h6]
 ·simp [go_sem,h7]
 ·simp [go_sem,h8]
 ·simp [go_sem,h9]
theorem decimal_impl_good (s:ByteArray) (w:World) (hs:s.size≤2097152) (hP:dOK (decP s.data.toList) 10=true) (hQ:dOK (decQ s.data.toList) 6=true):
  Calls Tryz.prog 248 #[.string s] w fun e w'=>e=fr (mkT (decX s.data.toList) (decY s.data.toList)) (mkB (decX s.data.toList) (decY s.data.toList)) (mkOK (decX s.data.toList) (decY s.data.toList))∧Below w.heap.size w w':=by
 obtain ⟨p1,p2,p3⟩:=(dOK_iff _ _).mp hP
 obtain ⟨r1,r2,r3⟩:=(dOK_iff _ _).mp hQ
 have hvP:=valD_bd _ p3 p2
 have hvQ:=valD_bd _ r3 (by omega)
 have HOP:=Lib.hid hP;have HOQ:=Lib.hid hQ
 have HP:=Lib.hid (cutP_list s)
 have hz1:=cutP_size s;have hz2:=behind_size s
 have hbl:=behind_list s
 have hzb:(behindS s).size=(decQ s.data.toList).length:=by rw [←hbl,Array.length_toList];rfl
 clear hP hQ p3 r3
 by_cases hB:cutB s 46=true
 ·have hbe:behindS s=cutQ s 46:=by simp [behindS,hB]
  rw [hbe] at hz2 hbl hzb
  have HCB:=Lib.hid hB;have HQ:=Lib.hid hbl;have HZ:=Lib.hid hzb
  clear hB hbe hbl hzb
  go_enter Tryz.func248,Tryz.ntmps248
  go_wp2_with fail
  refine (cut_one s 46 _ (by unfold maxLen;omega)).mono ?_
  rintro e w1 ⟨rfl,hb1⟩
  rw [HCB.out]
  have q0:w1.cell? ⟨w.heap.size,0,none⟩=some (.int .i64 0):=by rw [hb1.cell (by simp)];simp [go_sem]
  have q1:w1.cell? ⟨w.heap.size,1,none⟩=some (.int .i64 0):=by rw [hb1.cell (by simp)];simp [go_sem]
  have q2:w1.frozen? ⟨w.heap.size,0,none⟩=false:=by rw [hb1.frozen (by simp)];simp [go_sem]
  have q3:w1.frozen? ⟨w.heap.size,1,none⟩=false:=by rw [hb1.frozen (by simp)];simp [go_sem]
  have hN:w.heap.size<w1.heap.size:=by have:=hb1.size;simp at this;omega
  have HB1:=Lib.hid (((Below.refl _ w).alloc (Nat.le_refl _) _).trans (hb1.mono (by simp)));clear hb1
  go_wp2_with fail
  refine (digitsNumber_any (cutP s 46) 10 _ (by unfold maxLen;omega) (by omega)).mono ?_
  rintro e w' ⟨rfl,rfl⟩
  rw [HP.out]
  go_wp2_with fail
  refine (digitsNumber_any (cutQ s 46) 6 _ (by unfold maxLen;omega) (by omega)).mono ?_
  rintro e w' ⟨rfl,rfl⟩
  rw [HQ.out]
  rw [show dN (decP s.data.toList) 10=valD (decP s.data.toList) by simp [dN,HOP.out],show dN (decQ s.data.toList) 6=valD (decQ s.data.toList) by simp [dN,HOQ.out],HOP.out,HOQ.out]
  go_wp2_with fail
  go_loopw [41] (fun i wr=> ∃(k:Nat) (x y:Int),k≤(decQ s.data.toList).length∧i= .int .i64 (k:Int)∧x=((valD (decP s.data.toList)*10^k:Nat):Int)∧y=((10^k:Nat):Int)∧TwoF wr w.heap.size w1.heap.size x y∧Below w.heap.size w wr) (fun i _=>(decQ s.data.toList).length-(intOf i).toNat)
  case atStart=>
   refine ⟨0,_,_,Nat.zero_le _,rfl,by rw [Nat.pow_zero,Nat.mul_one],rfl, ?_,HB1.out.alloc HB1.out.size _⟩
   refine ⟨hN,by simp, ?_, ?_, ?_, ?_,by simp [go_sem],by simp [go_sem],by simp [go_sem],by simp [go_sem]⟩
   ·simpa [go_sem,hN,Nat.ne_of_lt hN] using q0
   ·simpa [go_sem,hN,Nat.ne_of_lt hN] using q1
   ·simpa [go_sem,hN,Nat.ne_of_lt hN] using q2
   ·simpa [go_sem,hN,Nat.ne_of_lt hN] using q3
  case round=>
   obtain ⟨k,x,y,hk,rfl,hx,hy,hT,hbw⟩:=hrel
   have bx:0≤x∧x≤10000000000000000:=pow_bd hx hvP (by omega)
   have by':0≤y∧y≤1000000:=pow_bd1 hy (by omega)
   obtain ⟨bx0,bx1⟩:=bx;obtain ⟨by0,by1⟩:=by'
   have HX:=Lib.hid hx;have HY:=Lib.hid hy;have HT:=Lib.hid hT;have HW:=Lib.hid hbw
   clear hx hy hT hbw
   obtain ⟨t0,t1,t2,t3,t4,t5,t6,t7,t8,t9⟩:=HT.out
   by_cases hlt:k<(decQ s.data.toList).length
   ·have hlt2:k<(cutQ s 46:ByteArray).size:=by rw [HZ.out];exact hlt
    go_wp2
    go_roundw
    case rel=>exact ⟨k+1,_,_,by omega,by go_num,by rw [HX.out,Nat.pow_succ,←Nat.mul_assoc];go_num,by rw [HY.out,Nat.pow_succ];go_num,HT.out.set _ _,(HW.out.setCell (by show _≤w1.heap.size;omega) _).setCell (by show _≤w1.heap.size;omega) _⟩
    case measure=>simp [intOf];omega
   ·have hlt2: ¬k<(cutQ s 46:ByteArray).size:=by rw [HZ.out];exact hlt
    obtain rfl:k=(decQ s.data.toList).length:=by omega
    have HXX:Hid (x+((valD (decQ s.data.toList):Nat):Int)=decX s.data.toList):=by show _=_;rw [HX.out];unfold decX;rw [Int.natCast_add]
    have HYY:Hid (y=decY s.data.toList):=HY.out
    have y1:=pow_pos1 HY.out
    go_wp2_with fail
    refine (reduced_any (x+((valD (decQ s.data.toList):Nat):Int)) y _ (by omega) (by omega) (by omega)).mono ?_
    rintro e w2 ⟨rfl,hb2⟩
    have HT2:=Lib.hid ((HT.out.set0 _).keep hb2)
    have HB2:=Lib.hid ((HW.out.setCell (by show _≤w1.heap.size;omega) _).trans (hb2.mono (by have:=HW.out.size;simpa [World.setCell] using this)))
    clear hb2 t0 t1 t2 t3 t4 t5 t6 t7 t8 t9
    obtain ⟨u0,u1,u2,u3,u4,u5,u6,u7,u8,u9⟩:=HT2.out
    rw [HXX.out,HYY.out]
    go_wp2
    exact bodyPost_ret (v:= .tuple #[.agg #[.int .i64 (mkT (decX s.data.toList) (decY s.data.toList)), .int .i64 (mkB (decX s.data.toList) (decY s.data.toList))], .bool (mkOK (decX s.data.toList) (decY s.data.toList))]) (by simp [results,Tryz.results248,go_sem,u2,u3]) rfl ⟨rfl,(HB2.out.setCell (Nat.le_refl _) _).setCell (Nat.le_refl _) _⟩
 ·have hB':=Bool.eq_false_iff.mpr hB
  have hbe:behindS s=⟨#[48]⟩:=by simp [behindS,hB']
  rw [hbe] at hz2 hbl hzb
  have HCB:=Lib.hid hB';have HQ:=Lib.hid hbl;have HZ:=Lib.hid hzb
  have hq1:(decQ s.data.toList).length=1:=hzb.symm
  clear hB hB' hbe hbl hzb
  have hq2:(decQ s.data.toList).length≤1:=by omega
  have hq3:1≤(decQ s.data.toList).length:=by omega
  clear hq1
  go_enter Tryz.func248,Tryz.ntmps248
  go_wp2_with fail
  refine (cut_one s 46 _ (by unfold maxLen;omega)).mono ?_
  rintro e w1 ⟨rfl,hb1⟩
  rw [HCB.out]
  have q0:w1.cell? ⟨w.heap.size,0,none⟩=some (.int .i64 0):=by rw [hb1.cell (by simp)];simp [go_sem]
  have q1:w1.cell? ⟨w.heap.size,1,none⟩=some (.int .i64 0):=by rw [hb1.cell (by simp)];simp [go_sem]
  have q2:w1.frozen? ⟨w.heap.size,0,none⟩=false:=by rw [hb1.frozen (by simp)];simp [go_sem]
  have q3:w1.frozen? ⟨w.heap.size,1,none⟩=false:=by rw [hb1.frozen (by simp)];simp [go_sem]
  have hN:w.heap.size<w1.heap.size:=by have:=hb1.size;simp at this;omega
  have HB1:=Lib.hid (((Below.refl _ w).alloc (Nat.le_refl _) _).trans (hb1.mono (by simp)));clear hb1
  go_wp2_with fail
  refine (digitsNumber_any (cutP s 46) 10 _ (by unfold maxLen;omega) (by omega)).mono ?_
  rintro e w' ⟨rfl,rfl⟩
  rw [HP.out]
  go_wp2_with fail
  refine (digitsNumber_any ⟨#[48]⟩ 6 _ (by unfold maxLen;omega) (by omega)).mono ?_
  rintro e w' ⟨rfl,rfl⟩
  rw [HQ.out]
  rw [show dN (decP s.data.toList) 10=valD (decP s.data.toList) by simp [dN,HOP.out],show dN (decQ s.data.toList) 6=valD (decQ s.data.toList) by simp [dN,HOQ.out],HOP.out,HOQ.out]
  go_wp2_with fail
  go_loopw [41] (fun i wr=> ∃(k:Nat) (x y:Int),k≤(decQ s.data.toList).length∧i= .int .i64 (k:Int)∧x=((valD (decP s.data.toList)*10^k:Nat):Int)∧y=((10^k:Nat):Int)∧TwoF wr w.heap.size w1.heap.size x y∧Below w.heap.size w wr) (fun i _=>(decQ s.data.toList).length-(intOf i).toNat)
  case atStart=>
   refine ⟨0,_,_,Nat.zero_le _,rfl,by rw [Nat.pow_zero,Nat.mul_one],rfl, ?_,HB1.out.alloc HB1.out.size _⟩
   refine ⟨hN,by simp, ?_, ?_, ?_, ?_,by simp [go_sem],by simp [go_sem],by simp [go_sem],by simp [go_sem]⟩
   ·simpa [go_sem,hN,Nat.ne_of_lt hN] using q0
   ·simpa [go_sem,hN,Nat.ne_of_lt hN] using q1
   ·simpa [go_sem,hN,Nat.ne_of_lt hN] using q2
   ·simpa [go_sem,hN,Nat.ne_of_lt hN] using q3
  case round=>
   obtain ⟨k,x,y,hk,rfl,hx,hy,hT,hbw⟩:=hrel
   have bx:0≤x∧x≤10000000000000000:=pow_bd hx hvP (by omega)
   have by':0≤y∧y≤1000000:=pow_bd1 hy (by omega)
   obtain ⟨bx0,bx1⟩:=bx;obtain ⟨by0,by1⟩:=by'
   have HX:=Lib.hid hx;have HY:=Lib.hid hy;have HT:=Lib.hid hT;have HW:=Lib.hid hbw
   clear hx hy hT hbw
   obtain ⟨t0,t1,t2,t3,t4,t5,t6,t7,t8,t9⟩:=HT.out
   by_cases hlt:k<(decQ s.data.toList).length
   ·have hlt2:k<1:=by omega
    go_wp2
    go_roundw
    case rel=>exact ⟨k+1,_,_,by omega,by go_num,by rw [HX.out,Nat.pow_succ,←Nat.mul_assoc];go_num,by rw [HY.out,Nat.pow_succ];go_num,HT.out.set _ _,(HW.out.setCell (by show _≤w1.heap.size;omega) _).setCell (by show _≤w1.heap.size;omega) _⟩
    case measure=>simp [intOf];omega
   ·have hlt2: ¬k<1:=by omega
    obtain rfl:k=(decQ s.data.toList).length:=by omega
    have HXX:Hid (x+((valD (decQ s.data.toList):Nat):Int)=decX s.data.toList):=by show _=_;rw [HX.out];unfold decX;rw [Int.natCast_add]
    have HYY:Hid (y=decY s.data.toList):=HY.out
    have y1:=pow_pos1 HY.out
    go_wp2_with fail
    refine (reduced_any (x+((valD (decQ s.data.toList):Nat):Int)) y _ (by omega) (by omega) (by omega)).mono ?_
    rintro e w2 ⟨rfl,hb2⟩
    have HT2:=Lib.hid ((HT.out.set0 _).keep hb2)
    have HB2:=Lib.hid ((HW.out.setCell (by show _≤w1.heap.size;omega) _).trans (hb2.mono (by have:=HW.out.size;simpa [World.setCell] using this)))
    clear hb2 t0 t1 t2 t3 t4 t5 t6 t7 t8 t9
    obtain ⟨u0,u1,u2,u3,u4,u5,u6,u7,u8,u9⟩:=HT2.out
    rw [HXX.out,HYY.out]
    go_wp2
    exact bodyPost_ret (v:= .tuple #[.agg #[.int .i64 (mkT (decX s.data.toList) (decY s.data.toList)), .int .i64 (mkB (decX s.data.toList) (decY s.data.toList))], .bool (mkOK (decX s.data.toList) (decY s.data.toList))]) (by simp [results,Tryz.results248,go_sem,u2,u3]) rfl ⟨rfl,(HB2.out.setCell (Nat.le_refl _) _).setCell (Nat.le_refl _) _⟩
theorem decimal_impl_bad (s:ByteArray) (w:World) (hs:s.size≤2097152) (h:dOK (decP s.data.toList) 10=false∨(dOK (decP s.data.toList) 10=true∧dOK (decQ s.data.toList) 6=false)):
  Calls Tryz.prog 248 #[.string s] w fun e w'=>e=fr 0 0 false∧Below w.heap.size w w':=by
 have HP:=Lib.hid (cutP_list s)
 have hz1:=cutP_size s;have hz2:=behind_size s
 have hbl:=behind_list s
 by_cases hB:cutB s 46=true
 ·have hbe:behindS s=cutQ s 46:=by simp [behindS,hB]
  rw [hbe] at hz2 hbl
  have HCB:=Lib.hid hB;have HQ:=Lib.hid hbl
  clear hB hbe hbl
  rcases h with h|⟨h,h'⟩
  ·have HOP:=Lib.hid h;clear h
   go_enter Tryz.func248,Tryz.ntmps248
   go_wp2_with fail
   refine (cut_one s 46 _ (by unfold maxLen;omega)).mono ?_
   rintro e w1 ⟨rfl,hb1⟩
   rw [HCB.out]
   have q0:w1.cell? ⟨w.heap.size,0,none⟩=some (.int .i64 0):=by rw [hb1.cell (by simp)];simp [go_sem]
   have q1:w1.cell? ⟨w.heap.size,1,none⟩=some (.int .i64 0):=by rw [hb1.cell (by simp)];simp [go_sem]
   have q2:w1.frozen? ⟨w.heap.size,0,none⟩=false:=by rw [hb1.frozen (by simp)];simp [go_sem]
   have q3:w1.frozen? ⟨w.heap.size,1,none⟩=false:=by rw [hb1.frozen (by simp)];simp [go_sem]
   have hN:w.heap.size<w1.heap.size:=by have:=hb1.size;simp at this;omega
   have HB1:=Lib.hid (((Below.refl _ w).alloc (Nat.le_refl _) _).trans (hb1.mono (by simp)));clear hb1
   go_wp2_with fail
   refine (digitsNumber_any (cutP s 46) 10 _ (by unfold maxLen;omega) (by omega)).mono ?_
   rintro e w' ⟨rfl,rfl⟩
   rw [HP.out]
   go_wp2_with fail
   refine (digitsNumber_any (cutQ s 46) 6 _ (by unfold maxLen;omega) (by omega)).mono ?_
   rintro e w' ⟨rfl,rfl⟩
   rw [HQ.out]
   rw [HOP.out]
   generalize dN (decP s.data.toList) 10=n1
   generalize dN (decQ s.data.toList) 6=n2
   generalize dOK (decQ s.data.toList) 6=o2
   go_wp2
   exact bodyPost_ret (v:= .tuple #[.agg #[.int .i64 0, .int .i64 0], .bool false]) (by simp [results,Tryz.results248,go_sem,q0,q1]) rfl ⟨rfl,(HB1.out.setCell (Nat.le_refl _) _).setCell (Nat.le_refl _) _⟩
  ·have HOP:=Lib.hid h;have HOQ:=Lib.hid h';clear h h'
   go_enter Tryz.func248,Tryz.ntmps248
   go_wp2_with fail
   refine (cut_one s 46 _ (by unfold maxLen;omega)).mono ?_
   rintro e w1 ⟨rfl,hb1⟩
   rw [HCB.out]
   have q0:w1.cell? ⟨w.heap.size,0,none⟩=some (.int .i64 0):=by rw [hb1.cell (by simp)];simp [go_sem]
   have q1:w1.cell? ⟨w.heap.size,1,none⟩=some (.int .i64 0):=by rw [hb1.cell (by simp)];simp [go_sem]
   have q2:w1.frozen? ⟨w.heap.size,0,none⟩=false:=by rw [hb1.frozen (by simp)];simp [go_sem]
   have q3:w1.frozen? ⟨w.heap.size,1,none⟩=false:=by rw [hb1.frozen (by simp)];simp [go_sem]
   have hN:w.heap.size<w1.heap.size:=by have:=hb1.size;simp at this;omega
   have HB1:=Lib.hid (((Below.refl _ w).alloc (Nat.le_refl _) _).trans (hb1.mono (by simp)));clear hb1
   go_wp2_with fail
   refine (digitsNumber_any (cutP s 46) 10 _ (by unfold maxLen;omega) (by omega)).mono ?_
   rintro e w' ⟨rfl,rfl⟩
   rw [HP.out]
   go_wp2_with fail
   refine (digitsNumber_any (cutQ s 46) 6 _ (by unfold maxLen;omega) (by omega)).mono ?_
   rintro e w' ⟨rfl,rfl⟩
   rw [HQ.out]
   rw [HOP.out,HOQ.out]
   generalize dN (decP s.data.toList) 10=n1
   generalize dN (decQ s.data.toList) 6=n2
   go_wp2
   exact bodyPost_ret (v:= .tuple #[.agg #[.int .i64 0, .int .i64 0], .bool false]) (by simp [results,Tryz.results248,go_sem,q0,q1]) rfl ⟨rfl,(HB1.out.setCell (Nat.le_refl _) _).setCell (Nat.le_refl _) _⟩
 ·have hB':=Bool.eq_false_iff.mpr hB
  have hbe:behindS s=⟨#[48]⟩:=by simp [behindS,hB']
  rw [hbe] at hz2 hbl
  have HCB:=Lib.hid hB';have HQ:=Lib.hid hbl
  clear hB hB' hbe hbl
  rcases h with h|⟨h,h'⟩
  ·have HOP:=Lib.hid h;clear h
   go_enter Tryz.func248,Tryz.ntmps248
   go_wp2_with fail
   refine (cut_one s 46 _ (by unfold maxLen;omega)).mono ?_
   rintro e w1 ⟨rfl,hb1⟩
   rw [HCB.out]
   have q0:w1.cell? ⟨w.heap.size,0,none⟩=some (.int .i64 0):=by rw [hb1.cell (by simp)];simp [go_sem]
   have q1:w1.cell? ⟨w.heap.size,1,none⟩=some (.int .i64 0):=by rw [hb1.cell (by simp)];simp [go_sem]
   have q2:w1.frozen? ⟨w.heap.size,0,none⟩=false:=by rw [hb1.frozen (by simp)];simp [go_sem]
   have q3:w1.frozen? ⟨w.heap.size,1,none⟩=false:=by rw [hb1.frozen (by simp)];simp [go_sem]
   have hN:w.heap.size<w1.heap.size:=by have:=hb1.size;simp at this;omega
   have HB1:=Lib.hid (((Below.refl _ w).alloc (Nat.le_refl _) _).trans (hb1.mono (by simp)));clear hb1
   go_wp2_with fail
   refine (digitsNumber_any (cutP s 46) 10 _ (by unfold maxLen;omega) (by omega)).mono ?_
   rintro e w' ⟨rfl,rfl⟩
   rw [HP.out]
   go_wp2_with fail
   refine (digitsNumber_any ⟨#[48]⟩ 6 _ (by unfold maxLen;omega) (by omega)).mono ?_
   rintro e w' ⟨rfl,rfl⟩
   rw [HQ.out]
   rw [HOP.out]
   generalize dN (decP s.data.toList) 10=n1
   generalize dN (decQ s.data.toList) 6=n2
   generalize dOK (decQ s.data.toList) 6=o2
   go_wp2
   exact bodyPost_ret (v:= .tuple #[.agg #[.int .i64 0, .int .i64 0], .bool false]) (by simp [results,Tryz.results248,go_sem,q0,q1]) rfl ⟨rfl,(HB1.out.setCell (Nat.le_refl _) _).setCell (Nat.le_refl _) _⟩
  ·have HOP:=Lib.hid h;have HOQ:=Lib.hid h';clear h h'
   go_enter Tryz.func248,Tryz.ntmps248
   go_wp2_with fail
   refine (cut_one s 46 _ (by unfold maxLen;omega)).mono ?_
   rintro e w1 ⟨rfl,hb1⟩
   rw [HCB.out]
   have q0:w1.cell? ⟨w.heap.size,0,none⟩=some (.int .i64 0):=by rw [hb1.cell (by simp)];simp [go_sem]
   have q1:w1.cell? ⟨w.heap.size,1,none⟩=some (.int .i64 0):=by rw [hb1.cell (by simp)];simp [go_sem]
   have q2:w1.frozen? ⟨w.heap.size,0,none⟩=false:=by rw [hb1.frozen (by simp)];simp [go_sem]
   have q3:w1.frozen? ⟨w.heap.size,1,none⟩=false:=by rw [hb1.frozen (by simp)];simp [go_sem]
   have hN:w.heap.size<w1.heap.size:=by have:=hb1.size;simp at this;omega
   have HB1:=Lib.hid (((Below.refl _ w).alloc (Nat.le_refl _) _).trans (hb1.mono (by simp)));clear hb1
   go_wp2_with fail
   refine (digitsNumber_any (cutP s 46) 10 _ (by unfold maxLen;omega) (by omega)).mono ?_
   rintro e w' ⟨rfl,rfl⟩
   rw [HP.out]
   go_wp2_with fail
   refine (digitsNumber_any ⟨#[48]⟩ 6 _ (by unfold maxLen;omega) (by omega)).mono ?_
   rintro e w' ⟨rfl,rfl⟩
   rw [HQ.out]
   rw [HOP.out,HOQ.out]
   generalize dN (decP s.data.toList) 10=n1
   generalize dN (decQ s.data.toList) 6=n2
   go_wp2
   exact bodyPost_ret (v:= .tuple #[.agg #[.int .i64 0, .int .i64 0], .bool false]) (by simp [results,Tryz.results248,go_sem,q0,q1]) rfl ⟨rfl,(HB1.out.setCell (Nat.le_refl _) _).setCell (Nat.le_refl _) _⟩
theorem decimal_impl (s:ByteArray) (w:World) (hs:s.size≤2097152):
  Calls Tryz.prog 248 #[.string s] w fun e w'=>e=fr (opT (decV s.data.toList) (decX s.data.toList) (decY s.data.toList)) (opB (decV s.data.toList) (decX s.data.toList) (decY s.data.toList)) (opOK (decV s.data.toList) (decX s.data.toList) (decY s.data.toList))∧Below w.heap.size w w':=by
 unfold decV
 by_cases hP:dOK (decP s.data.toList) 10=true
 ·by_cases hQ:dOK (decQ s.data.toList) 6=true
  ·rw [hP,hQ,show (true&&true)=true from rfl,(op_true _ _).1,(op_true _ _).2.1,(op_true _ _).2.2]
   exact decimal_impl_good s w hs hP hQ
  ·have hQ':=Bool.eq_false_iff.mpr hQ
   rw [hP,hQ',show (true&&false)=false from rfl,(op_false _ _).1,(op_false _ _).2.1,(op_false _ _).2.2]
   exact decimal_impl_bad s w hs (.inr ⟨hP,hQ'⟩)
 ·have hP':=Bool.eq_false_iff.mpr hP
  rw [hP',show (false&&dOK (decQ s.data.toList) 6)=false from rfl,(op_false _ _).1,(op_false _ _).2.1,(op_false _ _).2.2]
  exact decimal_impl_bad s w hs (.inl hP')
def dgt (n:Nat):UInt8:=UInt8.ofNat (48+n)
theorem dec_small {n:Nat} (h:n<10):Lib.decDigits n=[dgt n]:=by rw [Lib.decDigits,dif_pos h];rfl
theorem dec_big {n:Nat} (h: ¬n<10):Lib.decDigits n=Lib.decDigits (n/10)++[dgt (n % 10)]:=by
 conv=>lhs;rw [Lib.decDigits,dif_neg h]
 rfl
theorem dec_ne (n:Nat):Lib.decDigits n≠[]:=by
 by_cases h:n<10
 ·rw [dec_small h];simp
 ·rw [dec_big h];simp
theorem dec_len (n:Nat) (h:n≤9223372036854775807):(Lib.decDigits n).length≤21:=by
 have:=Lib.itoa_length_le (n:Int) (by omega) (by omega)
 rw [Lib.itoa_nonneg] at this;exact this
def padS:Nat→Nat→List UInt8
 |0,_=>[]
 |k+1,y=>padS k (y/10)++[dgt (y % 10)]
theorem dec_pad (k:Nat): ∀x,x<10^k→Lib.decDigits (10^k+x)=49::padS k x:=by
 induction k with
 |zero=>
  intro x h
  have hx:x=0:=by simpa using h
  subst hx
  rw [dec_small (by decide)];rfl
 |succ k ih=>
  intro x h
  have hp:0<10^k:=Nat.pow_pos (by omega)
  rw [Nat.pow_succ] at h⊢
  rw [dec_big (by omega),show (10^k*10+x)/10=10^k+x/10 by omega,ih (x/10) (by omega),show (10^k*10+x) % 10=x % 10 by omega]
  rfl
theorem pad_head (k:Nat): ∀y,y<10^(k+1)→padS (k+1) y=dgt (y/10^k)::padS k (y % 10^k):=by
 induction k with
 |zero=>intro y h;simp only [padS,Nat.pow_zero,Nat.div_one,List.nil_append];rw [Nat.mod_eq_of_lt (by simpa using h)]
 |succ k ih=>
  intro y h
  have e:padS (k+1+1) y=padS (k+1) (y/10)++[dgt (y % 10)]:=rfl
  have e2:padS (k+1) (y % 10^(k+1))=padS k (y % 10^(k+1)/10)++[dgt (y % 10^(k+1) % 10)]:=rfl
  rw [e,ih (y/10) (by rw [Nat.pow_succ] at h;omega),e2]
  have h10:10^(k+1)=10*10^k:=by rw [Nat.pow_succ,Nat.mul_comm]
  rw [h10,Nat.mod_mul_right_div_self,Nat.mod_mul_right_mod,Nat.div_div_eq_div_mul]
  rfl
theorem trim_nil (c:UInt8):Lib.trimRightB [] c=[]:=rfl
theorem trim_cons (a:UInt8) (l:List UInt8) (c:UInt8):Lib.trimRightB (a::l) c=if Lib.trimRightB l c=[] then (if a=c then [] else [a]) else a::Lib.trimRightB l c:=by
 unfold Lib.trimRightB
 rw [List.reverse_cons,List.dropWhile_append]
 by_cases h:(l.reverse.dropWhile (· ==c))=[]
 ·simp only [h,List.isEmpty_nil,if_true,List.reverse_nil]
  by_cases ha:a=c
  ·simp [ha]
  ·simp [ha]
 ·have h':(l.reverse.dropWhile (· ==c)).isEmpty=false:=by cases hx:l.reverse.dropWhile (· ==c) with
   |nil=>exact absurd hx h
   |cons _ _=>rfl
  rw [h']
  simp [h]
def frs:Nat→Nat→Nat→List UInt8
 |0,_,_=>[]
 |f+1,r,b=>if r=0 then [] else dgt (10*r/b)::frs f (10*r % b) b
theorem dgt_zero {q:Nat} (h:q<10) (hz:q≠0):dgt q≠48:=by
 intro e
 have:=congrArg UInt8.toNat e
 unfold dgt at this
 rw [UInt8.toNat_ofNat_of_lt' (by simp [UInt8.size];omega)] at this
 simp at this
 omega
theorem trim_frs (b m:Nat) (hbm:b*m=1000000) (k:Nat): ∀y r,k≤6→y<10^k→r<b→r*m=y*10^(6-k)→Lib.trimRightB (padS k y) 48=frs k r b:=by
 have hm:0<m:=by rcases Nat.eq_zero_or_pos m with h|h;(subst h;omega);exact h
 have hb:0<b:=by rcases Nat.eq_zero_or_pos b with h|h;(subst h;omega);exact h
 induction k with
 |zero=>intro y r _ _ _ _;rfl
 |succ k ih=>
  intro y r hk hy hr h
  have hE:10^(6-k)=10*10^(6-(k+1)):=by rw [show 6-k=(6-(k+1))+1 by omega,Nat.pow_succ,Nat.mul_comm]
  have hEp:0<10^(6-k):=Nat.pow_pos (by omega)
  have hE2:10^k*10^(6-k)=1000000:=by rw [←Nat.pow_add,show k+(6-k)=6 by omega]
  have h10:10*r*m=y*10^(6-k):=by rw [hE,Nat.mul_assoc,h,←Nat.mul_assoc,←Nat.mul_assoc,Nat.mul_comm 10 y]
  have hdiv:10*r/b=y/10^k:=by
   rw [←Nat.mul_div_mul_right (10*r) b hm,h10,hbm,←hE2,Nat.mul_div_mul_right _ _ hEp]
  have hmod:(10*r % b)*m=(y % 10^k)*10^(6-k):=by
   rw [←Nat.mul_mod_mul_right,h10,hbm,←hE2,Nat.mul_mod_mul_right]
  have hkp:0<10^k:=Nat.pow_pos (by omega)
  rw [pad_head k y hy,trim_cons,ih (y % 10^k) (10*r % b) (by omega) (Nat.mod_lt _ hkp) (Nat.mod_lt _ hb) hmod]
  have hq:y/10^k<10:=by
   rw [Nat.div_lt_iff_lt_mul hkp,Nat.mul_comm,←Nat.pow_succ];exact hy
  by_cases hr0:r=0
  ·subst hr0
   have hy0:y=0:=by
    have:y*10^(6-(k+1))=0:=by rw [←h];simp
    rcases Nat.mul_eq_zero.mp this with h|h
    ·exact h
    ·have:0<10^(6-(k+1)):=Nat.pow_pos (by omega)
     omega
   subst hy0
   have e:frs k (10*0 % b) b=[]:=by
    rw [Nat.mul_zero,Nat.zero_mod];cases k<;>simp [frs]
   rw [e,Nat.zero_div];rfl
  ·have e:frs (k+1) r b=dgt (10*r/b)::frs k (10*r % b) b:=by rw [frs,if_neg hr0]
   rw [e,hdiv]
   by_cases hn:frs k (10*r % b) b=[]
   ·rw [if_pos hn,hn]
    have hr1:10*r % b=0∨k=0:=by
     cases k with
     |zero=>exact .inr rfl
     |succ k=>
      left
      rw [frs] at hn
      by_cases hz:10*r % b=0
      ·exact hz
      ·rw [if_neg hz] at hn;cases hn
    have hy0:y % 10^k=0:=by
     rcases hr1 with h|h
     ·rw [h,Nat.zero_mul] at hmod
      rcases Nat.mul_eq_zero.mp hmod.symm with h|h
      ·exact h
      ·omega
     ·subst h;simp [Nat.mod_one]
    have hyz:y/10^k≠0:=by
     intro hz
     have h1:=Nat.div_add_mod y (10^k)
     rw [hz,hy0,Nat.mul_zero] at h1
     have:r*m=0:=by rw [h,←h1,Nat.zero_mul]
     rcases Nat.mul_eq_zero.mp this with h|h
     ·exact hr0 h
     ·omega
    rw [if_neg (dgt_zero hq hyz)]
   ·rw [if_neg hn]
def decText (t b:Nat):List UInt8:=Lib.decDigits (t/b)++(if t % b=0 then [] else 46::frs 6 (t % b) b)
def posText (t b:Nat):List UInt8:=if 1000000 % b=0 then decText t b else Lib.decDigits t++47::Lib.decDigits b
def fracT (t b:Int):List UInt8:=if t<0 then 45::posText (-t).toNat b.toNat else posText t.toNat b.toNat
def textF (t b:Int):List UInt8:=if vB t b=true then fracT t b else []
theorem frs_impl (t b:Nat) (hb:1≤b) (hd:1000000 % b=0):Lib.trimRightB ((Lib.decDigits (1000000+t % b*(1000000/b))).drop 1) 48=frs 6 (t % b) b:=by
 have hbm:b*(1000000/b)=1000000:=by have:=Nat.div_add_mod 1000000 b;omega
 have hr:t % b<b:=Nat.mod_lt _ (by omega)
 have hx:t % b*(1000000/b)<10^6:=by
  have h1:(t % b+1)*(1000000/b)≤b*(1000000/b):=Nat.mul_le_mul_right _ (by omega)
  rw [Nat.add_mul,Nat.one_mul] at h1
  have hm:0<1000000/b:=by rcases Nat.eq_zero_or_pos (1000000/b) with h|h;(rw [h] at hbm;omega);exact h
  omega
 have:=dec_pad 6 _ hx
 rw [show (10:Nat)^6=1000000 by decide] at this
 rw [this]
 exact trim_frs b (1000000/b) hbm 6 _ (t % b) (Nat.le_refl _) hx hr (by simp)
theorem frs_len (f:Nat): ∀r b,(frs f r b).length≤f:=by
 induction f with
 |zero=>intro r b;simp [frs]
 |succ f ih=>intro r b;rw [frs];split
             ·simp
             ·simp only [List.length_cons];have:=ih (10*r % b) b;omega
def Tab (w:World):Prop:=Lib.TabIs Tryz.prog w "internal/strconv.uint64pow10" .u64 Lib.pow10Tab
theorem Tab.keep {w w':World} (h:Tab w) (hb:Below w.heap.size w w'):Tab w':=Lib.tabBelow_of_tabIs h w' hb
theorem Tab.al {w:World} (h:Tab w) (o:Obj):Tab (w.alloc o):=h.keep ((Below.refl _ _).alloc (Nat.le_refl _) _)
theorem Tab.drewN {w:World} (h:Tab w) (n:Nat):Tab (w.drewN n):=h.keep ⟨rfl,rfl,rfl,Nat.le_refl _,fun _ _=>rfl⟩
theorem Tab.drew {w:World} (h:Tab w):Tab w.drew:=h.keep ⟨rfl,rfl,rfl,Nat.le_refl _,fun _ _=>rfl⟩
def numS (n:Nat):ByteArray:=⟨(Lib.decDigits n).toArray⟩
theorem numS_list (n:Nat):(numS n).data.toList=Lib.decDigits n:=by simp [numS]
theorem numS_size (n:Nat) (h:n≤1000000000000):(numS n).size≤21:=by
 have:=dec_len n (by omega)
 show (Lib.decDigits n).toArray.size≤21
 simpa using this
theorem itoa_any (n:Nat) (hn:n≤1000000000000) (w:World) (ht:Tab w):
  Calls Tryz.prog 262 #[.int .i64 (n:Int)] w fun e w'=>e= .returned (.string (numS n))∧Below w.heap.size w w':=by
 refine (Tryz.strconv_Itoa (n:Int) (by omega) (by omega) w ht).mono ?_
 rintro e w' ⟨rfl,k,os,rfl⟩
 rw [Lib.itoa_nonneg]
 exact ⟨rfl,Lib.below_grow _ w (Nat.le_refl _) k os⟩
def Held3 (w':World) (N:Nat) (aT aB bT bB:Int):Prop:=
 N+1+1<w'.heap.size∧w'.cell? ⟨N,0,none⟩=some (.int .i64 aT)∧w'.cell? ⟨N,1,none⟩=some (.int .i64 aB)∧w'.cell? ⟨N+1,0,none⟩=some (.int .i64 bT)∧w'.cell? ⟨N+1,1,none⟩=some (.int .i64 bB)∧
 w'.cell? ⟨N+1+1,0,none⟩=some (.int .i64 0)∧w'.cell? ⟨N+1+1,1,none⟩=some (.int .i64 0)∧w'.frozen? ⟨N+1+1,0,none⟩=false∧w'.frozen? ⟨N+1+1,1,none⟩=false
theorem Held3.keep {W w1:World} {N:Nat} {aT aB bT bB:Int} (h:Held3 W N aT aB bT bB) (hb:Below W.heap.size W w1):Held3 w1 N aT aB bT bB:=by
 obtain ⟨h0,h1,h2,h3,h4,h5,h6,h7,h8⟩:=h
 obtain ⟨hc,hf⟩:=bcell hb
 have hs:=hb.size
 exact ⟨by omega,(hc _ _ (by omega)).trans h1,(hc _ _ (by omega)).trans h2,(hc _ _ (by omega)).trans h3,(hc _ _ (by omega)).trans h4,(hc _ _ (by omega)).trans h5,(hc _ _ (by omega)).trans h6,(hf _ _ (by omega)).trans h7,(hf _ _ (by omega)).trans h8⟩
def FrAt (w':World) (B:Nat) (x y:Int):Prop:=w'.cell? ⟨B,0,none⟩=some (.int .i64 x)∧w'.cell? ⟨B,1,none⟩=some (.int .i64 y)
theorem FrAt.keep {W w1:World} {B:Nat} {x y:Int} (h:FrAt W B x y) (hb:Below W.heap.size W w1):FrAt w1 B x y:=
 ⟨by rw [hb.cell (World.block_lt_of_cell? W _ h.1)];exact h.1,by rw [hb.cell (World.block_lt_of_cell? W _ h.2)];exact h.2⟩
theorem FrAt.al {W:World} {B:Nat} {x y:Int} (h:FrAt W B x y) (o:Obj):FrAt (W.alloc o) B x y:=
 h.keep ((Below.refl _ W).alloc (Nat.le_refl _) _)
theorem FrAt.lt {W:World} {B:Nat} {x y:Int} (h:FrAt W B x y):B<W.heap.size:=World.block_lt_of_cell? W _ h.1
theorem FrAt.new (W:World) (x y:Int) (t:TypeId):FrAt (W.alloc (.cells #[.int .i64 x, .int .i64 y] t)) W.heap.size x y:=⟨by simp [go_sem],by simp [go_sem]⟩
theorem td (t b:Nat):(t:Int).tdiv (b:Int)=((t/b:Nat):Int):=by rw [Int.tdiv_eq_ediv_of_nonneg (by omega),Int.natCast_ediv]
theorem tm (t b:Nat):(t:Int).tmod (b:Int)=((t % b:Nat):Int):=by rw [Int.tmod_eq_emod_of_nonneg (by omega),Int.natCast_emod]
theorem decimal_m (t:Int) (b:Nat) (w:World) (hb:1≤b):
  Calls Tryz.prog 239 #[.agg #[.int .i64 t, .int .i64 (b:Int)]] w fun e w'=>e= .returned (.bool (decide (1000000 % b=0)))∧Below w.heap.size w w':=by
 have e1:(1000000:Int).tmod (b:Int)=((1000000 % b:Nat):Int):=tm 1000000 b
 have e0:((b:Int)==0)=false:=beq_eq_false_iff_ne.mpr (by omega)
 by_cases h:1000000 % b=0
 ·rw [decide_eq_true h]
  have e2:(((1000000 % b:Nat):Int)==0)=true:=beq_iff_eq.mpr (by omega)
  generalize 1000000 % b=q at e1 e2
  clear h
  go_enter Tryz.func239,Tryz.ntmps239
  go_wp2
  go_ret
  exact ⟨rfl,(Below.refl _ _).alloc (Nat.le_refl _) _⟩
 ·rw [decide_eq_false h]
  have e2:(((1000000 % b:Nat):Int)==0)=false:=beq_eq_false_iff_ne.mpr (by omega)
  generalize 1000000 % b=q at e1 e2
  clear h
  go_enter Tryz.func239,Tryz.ntmps239
  go_wp2
  go_ret
  exact ⟨rfl,(Below.refl _ _).alloc (Nat.le_refl _) _⟩
theorem strL {s:ByteArray} {l:List UInt8} (h:s.data.toList=l):s=⟨l.toArray⟩:=by
 apply ByteArray.ext;rw [←h]
theorem decimalText_m (t b:Nat) (w:World) (ht:t≤1000000000) (hb:1≤b) (hb1:b≤1000000) (hd:1000000 % b=0) (htab:Tab w):
  Calls Tryz.prog 261 #[.agg #[.int .i64 (t:Int), .int .i64 (b:Int)]] w fun e w'=>e= .returned (.string ⟨(decText t b).toArray⟩)∧Below w.heap.size w w':=by
 have e0:((b:Int)==0)=false:=beq_eq_false_iff_ne.mpr (by omega)
 have e1:=td t b
 have e2:=tm t b
 have e3:(1000000:Int).tdiv (b:Int)=((1000000/b:Nat):Int):=td 1000000 b
 have HFI:=Lib.hid (frs_impl t b hb hd)
 have HDT:=Lib.hid (show decText t b=Lib.decDigits (t/b)++(if t % b=0 then [] else 46::frs 6 (t % b) b) from rfl)
 have q1:t/b≤1000000000:=Nat.le_trans (Nat.div_le_self _ _) ht
 have hrb:t % b<b:=Nat.mod_lt _ (by omega)
 have q2:t % b<1000000:=by omega
 have q3:1000000/b≤1000000:=Nat.div_le_self _ _
 have q4:t % b*(1000000/b)<1000000:=by
  have hbm:b*(1000000/b)=1000000:=by have:=Nat.div_add_mod 1000000 b;omega
  have h1:(t % b+1)*(1000000/b)≤b*(1000000/b):=Nat.mul_le_mul_right _ (by omega)
  rw [Nat.add_mul,Nat.one_mul] at h1
  have hm:0<1000000/b:=by rcases Nat.eq_zero_or_pos (1000000/b) with h|h;(rw [h] at hbm;omega);exact h
  omega
 clear hd hrb
 generalize t/b=Q at*
 generalize t % b=r at*
 generalize 1000000/b=m at*
 have z1:=numS_size Q (by omega)
 by_cases hr:r=0
 ·subst hr
  rw [if_pos rfl,List.append_nil] at HDT
  go_enter Tryz.func261,Tryz.ntmps261
  go_wp2_with fail
  refine (itoa_any Q (by omega) _ (htab.al _)).mono ?_
  rintro e w1 ⟨rfl,hb1'⟩
  have F1:Hid (FrAt w1 w.heap.size (t:Int) (b:Int)):=FrAt.keep (FrAt.new _ _ _ _) hb1'
  obtain ⟨d0,d1⟩:=F1.out
  have HB1:=Lib.hid (((Below.refl _ w).alloc (Nat.le_refl _) _).trans (hb1'.mono (by simp)));clear hb1'
  go_wp2
  go_ret
  exact ⟨by rw [HDT.out];rfl,HB1.out⟩
 ·have er:((r:Int)==0)=false:=beq_eq_false_iff_ne.mpr (by omega)
  rw [if_neg hr] at HDT
  clear hr
  have hmul:(r:Int)*(m:Int)=((r*m:Nat):Int):=by rw [Int.natCast_mul]
  generalize hx:r*m=x at*
  have HX:=Lib.hid hx;clear hx
  have z2:=numS_size (1000000+x) (by omega)
  have hne:1≤(numS (1000000+x)).size:=by
   show 1≤(Lib.decDigits (1000000+x)).toArray.size
   have:=List.length_pos_iff.mpr (dec_ne (1000000+x))
   simp;omega
  go_enter Tryz.func261,Tryz.ntmps261
  go_wp2_with fail
  refine (itoa_any Q (by omega) _ (htab.al _)).mono ?_
  rintro e w1 ⟨rfl,hb1'⟩
  have F1:Hid (FrAt w1 w.heap.size (t:Int) (b:Int)):=FrAt.keep (FrAt.new _ _ _ _) hb1'
  have T1:=Lib.hid ((htab.al _).keep hb1')
  obtain ⟨d0,d1⟩:=F1.out
  have HB1:=Lib.hid (((Below.refl _ w).alloc (Nat.le_refl _) _).trans (hb1'.mono (by simp)));clear hb1'
  go_wp2_with fail
  rw [show (1000000:Int)+(x:Int)=((1000000+x:Nat):Int) by omega]
  refine (itoa_any (1000000+x) (by omega) _ T1.out).mono ?_
  rintro e w2 ⟨rfl,hb2⟩
  have HB2:=Lib.hid (HB1.out.trans (hb2.mono HB1.out.size));clear hb2
  go_wp2_with fail
  refine (Tryz.strings_TrimRight_one _ 48 (by decide) _ (by rw [ByteArray.size_extract];omega)).mono ?_
  rintro e w' ⟨rfl,rfl⟩
  have hz3:(⟨(Lib.trimRightB ((numS (1000000+x)).extract 1 (numS (1000000+x)).size).data.toList 48).toArray⟩:ByteArray)=⟨(frs 6 r b).toArray⟩:=by
   have e:((numS (1000000+x)).extract 1 (numS (1000000+x)).size).data.toList=(Lib.decDigits (1000000+x)).drop 1:=by
    have e1:((numS (1000000+x)).extract 1 (numS (1000000+x)).size).data.toList=((numS (1000000+x)).data.toList.drop 1).take ((numS (1000000+x)).size-1):=by simp [ByteArray.data_extract]
    rw [e1,List.take_of_length_le (by rw [List.length_drop,Array.length_toList];exact Nat.le_refl _),numS_list]
   rw [e,HFI.out]
  rw [hz3]
  have z4:(⟨(frs 6 r b).toArray⟩:ByteArray).size≤6:=by
   have:=frs_len 6 r b
   show (frs 6 r b).toArray.size≤6
   simpa using this
  have HR:=Lib.hid (show (numS Q++⟨#[46]⟩++⟨(frs 6 r b).toArray⟩:ByteArray)=⟨(decText t b).toArray⟩ by
   rw [HDT.out];apply strL;simp [numS])
  generalize (⟨(frs 6 r b).toArray⟩:ByteArray)=Z at*
  clear hz3
  go_wp2
  go_ret
  exact ⟨by rw [←HR.out];rfl,HB2.out⟩
theorem text_pos (t b:Nat) (w:World) (ht:t≤1000000000) (hb:1≤b) (hb1:b≤1000000) (htab:Tab w):
 Calls Tryz.prog 252 #[.agg #[.int .i64 (t:Int), .int .i64 (b:Int)]] w fun e w'=>e= .returned (.string ⟨(posText t b).toArray⟩)∧Below w.heap.size w w':=by
 have f0:decide ((t:Int)<0)=false:=decide_eq_false (by omega)
 by_cases hd:1000000 % b=0
 ·have HD:=Lib.hid hd
  have HP:=Lib.hid (show posText t b=decText t b by rw [posText,if_pos hd])
  clear hd
  go_enter Tryz.func252,Tryz.ntmps252
  go_wp2_with fail
  refine (decimal_m (t:Int) b _ hb).mono ?_
  rintro e w1 ⟨rfl,hb1'⟩
  rw [decide_eq_true HD.out]
  have F1:Hid (FrAt w1 w.heap.size (t:Int) (b:Int)):=FrAt.keep (FrAt.new _ _ _ _) hb1'
  have T1:=Lib.hid ((htab.al _).keep hb1')
  obtain ⟨d0,d1⟩:=F1.out
  have HB1:=Lib.hid (((Below.refl _ w).alloc (Nat.le_refl _) _).trans (hb1'.mono (by simp)));clear hb1'
  go_wp2_with fail
  refine (decimalText_m t b _ ht hb hb1 HD.out T1.out).mono ?_
  rintro e w2 ⟨rfl,hb2⟩
  have HB2:=Lib.hid (HB1.out.trans (hb2.mono HB1.out.size));clear hb2
  go_wp2
  go_ret
  exact ⟨by rw [HP.out];rfl,HB2.out⟩
 ·have HD:=Lib.hid hd
  have HP:=Lib.hid (show (numS t++⟨#[47]⟩++numS b:ByteArray)=⟨(posText t b).toArray⟩ by
   rw [posText,if_neg hd];apply strL;simp [numS])
  clear hd
  have z1:=numS_size t (by omega)
  have z2:=numS_size b (by omega)
  have r1: ¬9223372036854775807<(numS t).size+1:=by omega
  have r2: ¬9223372036854775807<(numS t).size+1+(numS b).size:=by omega
  go_enter Tryz.func252,Tryz.ntmps252
  go_wp2_with fail
  refine (decimal_m (t:Int) b _ hb).mono ?_
  rintro e w1 ⟨rfl,hb1'⟩
  rw [decide_eq_false HD.out]
  have F1:Hid (FrAt w1 w.heap.size (t:Int) (b:Int)):=FrAt.keep (FrAt.new _ _ _ _) hb1'
  have T1:=Lib.hid ((htab.al _).keep hb1')
  obtain ⟨d0,d1⟩:=F1.out
  have hw1:w.heap.size<w1.heap.size:=F1.out.lt
  have HB1:=Lib.hid (((Below.refl _ w).alloc (Nat.le_refl _) _).trans (hb1'.mono (by simp)));clear hb1'
  go_wp2_with fail
  go_region_held3 (fun w'=>w'.cell? ⟨w.heap.size,0,none⟩=some (.int .i64 (t:Int))∧w'.cell? ⟨w.heap.size,1,none⟩=some (.int .i64 (b:Int)))
   (first
     |go_keep
     |(go_split_ands
       refine ⟨?_, ?_⟩
       ·(first|(rw [hb3.cell (by show w.heap.size<_;have:=hb2.size;simp at this;omega)];assumption)|(rw [hb2.cell (by exact hw1)];assumption))
       ·(first|(rw [hb3.cell (by show w.heap.size<_;have:=hb2.size;simp at this;omega)];assumption)|(rw [hb2.cell (by exact hw1)];assumption))))
   (first
     |((go_at_call 262;(with_reducible refine (itoa_any t (by omega) _ ?_).mono ?_);(focus (first|exact T1.out|exact T1.out.drew|exact T1.out.drew.keep hb2|exact T1.out.keep hb2));(first|(rintro e w2 ⟨rfl,hb2⟩;done)|rintro e w2 ⟨rfl,hb2⟩)))
     |((go_at_call 262;(with_reducible refine (itoa_any b (by omega) _ ?_).mono ?_);(focus (first|exact T1.out|exact T1.out.drew|exact T1.out.drew.keep hb2|exact T1.out.keep hb2));rintro e w3 ⟨rfl,hb3⟩)))
  have HB3:=Lib.hid (HB1.out.drew.trans ((hb2.mono HB1.out.size).trans (hb3.mono (by have:=HB1.out.size;have:=hb2.size;simp at this;omega))))
  clear hb2 hb3
  go_wp2
  go_ret
  exact ⟨by rw [←HP.out];rfl,HB3.out⟩
theorem opposite_any (t b:Int) (w:World) (ht: -1000000000≤t∧t≤1000000000) (hb:1≤b∧b≤1000000):
  Calls Tryz.prog 260 #[.agg #[.int .i64 t, .int .i64 b]] w fun e w'=>e= .returned (.agg #[.int .i64 (-t), .int .i64 b])∧Below w.heap.size w w':=by
 obtain ⟨h11,h12⟩:=ht;obtain ⟨h21,h22⟩:=hb
 go_enter Tryz.func260,Tryz.ntmps260
 go_wp2
 exact bodyPost_ret (v:= .agg #[.int .i64 (-t), .int .i64 b]) (by simp [results,Tryz.results260,go_sem]) rfl ⟨rfl,(((Below.refl _ w).alloc (Nat.le_refl _) _).alloc (by simp) _)⟩
theorem text_any (t b:Int) (w:World) (hv:vB t b=true) (htab:Tab w):
  Calls Tryz.prog 252 #[.agg #[.int .i64 t, .int .i64 b]] w fun e w'=>e= .returned (.string ⟨(fracT t b).toArray⟩)∧Below w.heap.size w w':=by
 obtain ⟨v1,v2,v3,v4⟩:=vB_bd hv
 obtain ⟨b',rfl⟩:=Int.eq_ofNat_of_zero_le (show 0≤b by omega)
 by_cases hn:t<0
 ·obtain ⟨t',ht'⟩:=Int.eq_ofNat_of_zero_le (show 0≤ -t by omega)
  have hlen:(posText t' b').length≤100:=by
   unfold posText decText
   have l1:=dec_len (t'/b') (by have:=Nat.div_le_self t' b';omega)
   have l2:=dec_len t' (by omega)
   have l3:=dec_len b' (by omega)
   have l4:=frs_len 6 (t' % b') b'
   split
   ·split
    ·simp;omega
    ·simp;omega
   ·simp;omega
  have hsz:(⟨(posText t' b').toArray⟩:ByteArray).size≤100:=by show (posText t' b').toArray.size≤100;simpa using hlen
  have HR:=Lib.hid (show (⟨#[45]⟩++⟨(posText t' b').toArray⟩:ByteArray)=⟨(fracT t b').toArray⟩ by
   rw [fracT,if_pos hn,ht'];apply strL;simp)
  have hc:=fun w' (h:Tab w')=>text_pos t' b' w' (by omega) (by omega) (by omega) h
  generalize (⟨(posText t' b').toArray⟩:ByteArray)=Z at*
  have HC:=Lib.hid hc;clear hc hlen
  have HT':=Lib.hid ht'
  go_enter Tryz.func252,Tryz.ntmps252
  clear ht'
  go_wp2_with fail
  refine (opposite_any t (b':Int) _ (by omega) (by omega)).mono ?_
  rintro e w0 ⟨rfl,hb0⟩
  have T0:=Lib.hid ((htab.al _).keep hb0)
  have HB0:=Lib.hid (((Below.refl _ w).alloc (Nat.le_refl _) _).trans (hb0.mono (by simp)));clear hb0
  rw [HT'.out]
  go_wp2_with fail
  refine (HC.out _ T0.out).mono ?_
  rintro e w1 ⟨rfl,hb1⟩
  have HB1:=Lib.hid (HB0.out.trans (hb1.mono HB0.out.size));clear hb1
  go_wp2
  go_ret
  exact ⟨by rw [←HR.out];rfl,HB1.out⟩
 ·obtain ⟨t',rfl⟩:=Int.eq_ofNat_of_zero_le (show 0≤t by omega)
  have:=text_pos t' b' w (by omega) (by omega) (by omega) htab
  rw [fracT,if_neg hn]
  exact this
theorem fractionText_impl (t b:Int) (w:World) (htab:Tab w):
  Calls Tryz.prog 246 #[.agg #[.int .i64 t, .int .i64 b]] w fun e w'=>e= .returned (.string ⟨(textF t b).toArray⟩)∧Below w.heap.size w w':=by
 cases hv:vB t b with
 |true=>
  have HV:=Lib.hid hv
  have HT:=Lib.hid (show textF t b=fracT t b by rw [textF,if_pos hv])
  clear hv
  go_enter Tryz.func246,Tryz.ntmps246
  go_wp2_with fail
  refine (valid_method t b _).mono ?_
  rintro e w1 ⟨rfl,hb1⟩
  rw [HV.out]
  have F1:Hid (FrAt w1 w.heap.size t b):=FrAt.keep (FrAt.new _ _ _ _) hb1
  have T1:=Lib.hid ((htab.al _).keep hb1)
  obtain ⟨d0,d1⟩:=F1.out
  have HB1:=Lib.hid (((Below.refl _ w).alloc (Nat.le_refl _) _).trans (hb1.mono (by simp)));clear hb1
  go_wp2_with fail
  refine (text_any t b _ HV.out T1.out).mono ?_
  rintro e w2 ⟨rfl,hb2⟩
  have HB2:=Lib.hid (HB1.out.trans (hb2.mono HB1.out.size));clear hb2
  go_wp2
  go_ret
  exact ⟨by rw [HT.out];rfl,HB2.out⟩
 |false=>
  have HV:=Lib.hid hv
  have HT:=Lib.hid (show textF t b=[] by rw [textF,hv];rfl)
  clear hv
  go_enter Tryz.func246,Tryz.ntmps246
  go_wp2_with fail
  refine (valid_method t b _).mono ?_
  rintro e w1 ⟨rfl,hb1⟩
  rw [HV.out]
  have HB1:=Lib.hid (((Below.refl _ w).alloc (Nat.le_refl _) _).trans (hb1.mono (by simp)));clear hb1
  go_wp2
  go_ret
  exact ⟨by rw [HT.out];rfl,HB1.out⟩
def slOK (p q:List UInt8):Bool:=dOK p 10&&dOK q 10
def slT (p q:List UInt8):Int:=if slOK p q=true then ((valD p:Nat):Int) else 0
def slB (p q:List UInt8):Int:=if slOK p q=true then ((valD q:Nat):Int) else 0
def ZeroF (w':World) (N:Nat):Prop:=w'.cell? ⟨N,0,none⟩=some (.int .i64 0)∧w'.cell? ⟨N,1,none⟩=some (.int .i64 0)∧w'.frozen? ⟨N,0,none⟩=false∧w'.frozen? ⟨N,1,none⟩=false∧N<w'.heap.size
theorem ZeroF.new (w:World) (t:TypeId):ZeroF (w.alloc (.cells #[.int .i64 0, .int .i64 0] t)) w.heap.size:=by refine ⟨?_, ?_, ?_, ?_, ?_⟩<;>simp [go_sem]
theorem ZeroF.keep {W w1:World} {N:Nat} (h:ZeroF W N) (hb:Below W.heap.size W w1):ZeroF w1 N:=by
 obtain ⟨h0,h1,h2,h3,h4⟩:=h
 obtain ⟨hc,hf⟩:=bcell hb
 have hs:=hb.size
 exact ⟨(hc _ _ h4).trans h0,(hc _ _ h4).trans h1,(hf _ _ h4).trans h2,(hf _ _ h4).trans h3,by omega⟩
theorem ZeroF.al {W:World} {N:Nat} (h:ZeroF W N) (o:Obj):ZeroF (W.alloc o) N:=h.keep ((Below.refl _ W).alloc (Nat.le_refl _) _)
theorem readSlash_any (p q:ByteArray) (w:World) (hp:p.size≤maxLen) (hq:q.size≤maxLen):
  Calls Tryz.prog 250 #[.string p, .string q] w fun e w'=>e=fr (slT p.data.toList q.data.toList) (slB p.data.toList q.data.toList) (slOK p.data.toList q.data.toList)∧Below w.heap.size w w':=by
 have HP:=Lib.hid hp;have HQ:=Lib.hid hq;clear hp hq
 cases h1:dOK p.data.toList 10 with
 |true=>
  cases h2:dOK q.data.toList 10 with
  |true=>
   have HO:=Lib.hid (show slOK p.data.toList q.data.toList=true by simp [slOK,h1,h2])
   have HT:=Lib.hid (show slT p.data.toList q.data.toList=((dN p.data.toList 10:Nat):Int) by rw [slT,if_pos HO.out,dN,if_pos h1])
   have HB:=Lib.hid (show slB p.data.toList q.data.toList=((dN q.data.toList 10:Nat):Int) by rw [slB,if_pos HO.out,dN,if_pos h2])
   rw [HO.out,HT.out,HB.out]
   have H1:=Lib.hid h1;have H2:=Lib.hid h2;clear h1 h2
   go_enter Tryz.func250,Tryz.ntmps250
   go_wp2_with fail
   refine (digitsNumber_any p 10 _ HP.out (by omega)).mono ?_
   rintro e w' ⟨rfl,rfl⟩
   rw [H1.out]
   go_wp2_with fail
   refine (digitsNumber_any q 10 _ HQ.out (by omega)).mono ?_
   rintro e w' ⟨rfl,rfl⟩
   rw [H2.out]
   generalize hn1:dN p.data.toList 10=n1
   generalize hn2:dN q.data.toList 10=n2
   have HN1:=Lib.hid hn1;have HN2:=Lib.hid hn2;clear hn1 hn2
   go_wp2
   exact bodyPost_ret (v:= .tuple #[.agg #[.int .i64 (n1:Int), .int .i64 (n2:Int)], .bool true]) (by simp [results,Tryz.results250,go_sem]) rfl ⟨by rw [HN1.out,HN2.out],(Below.refl _ w).alloc (Nat.le_refl _) _⟩
  |false=>
   have HO:=Lib.hid (show slOK p.data.toList q.data.toList=false by simp [slOK,h2])
   rw [HO.out,show slT p.data.toList q.data.toList=0 by simp [slT,HO.out],show slB p.data.toList q.data.toList=0 by simp [slB,HO.out]]
   have H1:=Lib.hid h1;have H2:=Lib.hid h2;clear h1 h2
   go_enter Tryz.func250,Tryz.ntmps250
   go_wp2_with fail
   refine (digitsNumber_any p 10 _ HP.out (by omega)).mono ?_
   rintro e w' ⟨rfl,rfl⟩
   rw [H1.out]
   go_wp2_with fail
   refine (digitsNumber_any q 10 _ HQ.out (by omega)).mono ?_
   rintro e w' ⟨rfl,rfl⟩
   rw [H2.out]
   generalize dN p.data.toList 10=n1
   generalize dN q.data.toList 10=n2
   go_wp2
   exact bodyPost_ret (v:= .tuple #[.agg #[.int .i64 0, .int .i64 0], .bool false]) (by simp [results,Tryz.results250,go_sem]) rfl ⟨rfl,(Below.refl _ w).alloc (Nat.le_refl _) _⟩
 |false=>
  have HO:=Lib.hid (show slOK p.data.toList q.data.toList=false by simp [slOK,h1])
  rw [HO.out,show slT p.data.toList q.data.toList=0 by simp [slT,HO.out],show slB p.data.toList q.data.toList=0 by simp [slB,HO.out]]
  have H1:=Lib.hid h1;clear h1
  go_enter Tryz.func250,Tryz.ntmps250
  go_wp2_with fail
  refine (digitsNumber_any p 10 _ HP.out (by omega)).mono ?_
  rintro e w' ⟨rfl,rfl⟩
  rw [H1.out]
  go_wp2_with fail
  refine (digitsNumber_any q 10 _ HQ.out (by omega)).mono ?_
  rintro e w' ⟨rfl,rfl⟩
  generalize dN p.data.toList 10=n1
  generalize dN q.data.toList 10=n2
  generalize dOK q.data.toList 10=o2
  go_wp2
  exact bodyPost_ret (v:= .tuple #[.agg #[.int .i64 0, .int .i64 0], .bool false]) (by simp [results,Tryz.results250,go_sem]) rfl ⟨rfl,(Below.refl _ w).alloc (Nat.le_refl _) _⟩
def unT (s:ByteArray):Int:=if cutB s 47=true then slT (cutP s 47).data.toList (cutQ s 47).data.toList else opT (decV s.data.toList) (decX s.data.toList) (decY s.data.toList)
def unB (s:ByteArray):Int:=if cutB s 47=true then slB (cutP s 47).data.toList (cutQ s 47).data.toList else opB (decV s.data.toList) (decX s.data.toList) (decY s.data.toList)
def unOK (s:ByteArray):Bool:=if cutB s 47=true then slOK (cutP s 47).data.toList (cutQ s 47).data.toList else opOK (decV s.data.toList) (decX s.data.toList) (decY s.data.toList)
theorem cut47_le (s:ByteArray):(cutP s 47).size≤s.size∧(cutQ s 47).size≤s.size:=by
 unfold cutP cutQ
 constructor
 ·split
  ·exact Nat.le_refl _
  ·rw [ByteArray.size_extract];omega
 ·split
  ·show (0:Nat)≤_;omega
  ·rw [ByteArray.size_extract];omega
theorem readUnsigned_any (s:ByteArray) (w:World) (hs:s.size≤2097152):
  Calls Tryz.prog 245 #[.string s] w fun e w'=>e=fr (unT s) (unB s) (unOK s)∧Below w.heap.size w w':=by
 obtain ⟨z1,z2⟩:=cut47_le s
 unfold unT unB unOK
 cases hc:cutB s 47 with
 |true=>
  have HC:=Lib.hid hc;clear hc
  simp only [if_true]
  have cr:=fun w'=>readSlash_any (cutP s 47) (cutQ s 47) w' (by unfold maxLen;omega) (by unfold maxLen;omega)
  generalize slT (cutP s 47).data.toList (cutQ s 47).data.toList=T at*
  generalize slB (cutP s 47).data.toList (cutQ s 47).data.toList=B at*
  generalize slOK (cutP s 47).data.toList (cutQ s 47).data.toList=ok at*
  have CR:=Lib.hid cr;clear cr
  go_enter Tryz.func245,Tryz.ntmps245
  go_wp2_with fail
  refine (cut_one s 47 _ (by unfold maxLen;omega)).mono ?_
  rintro e w1 ⟨rfl,hb1⟩
  rw [HC.out]
  have Z1:=Lib.hid ((ZeroF.new w 170).keep hb1)
  have HB1:=Lib.hid (((Below.refl _ w).alloc (Nat.le_refl _) _).trans (hb1.mono (by simp)));clear hb1
  go_wp2_with fail
  refine (CR.out _).mono ?_
  rintro e w2 ⟨rfl,hb2⟩
  have Z2:=Lib.hid (Z1.out.keep hb2)
  have HB2:=Lib.hid (HB1.out.trans (hb2.mono HB1.out.size));clear hb2 Z1
  obtain ⟨u0,u1,u2,u3,u4⟩:=Z2.out
  go_wp2
  exact bodyPost_ret (v:= .tuple #[.agg #[.int .i64 T, .int .i64 B], .bool ok]) (by simp [results,Tryz.results245,go_sem,u0,u1]) rfl ⟨rfl,(HB2.out.setCell (Nat.le_refl _) _).setCell (Nat.le_refl _) _⟩
 |false=>
  have HC:=Lib.hid hc;clear hc
  simp only [Bool.false_eq_true,if_false]
  have cr:=fun w'=>decimal_impl s w' hs
  generalize opT (decV s.data.toList) (decX s.data.toList) (decY s.data.toList)=T at*
  generalize opB (decV s.data.toList) (decX s.data.toList) (decY s.data.toList)=B at*
  generalize opOK (decV s.data.toList) (decX s.data.toList) (decY s.data.toList)=ok at*
  have CR:=Lib.hid cr;clear cr
  go_enter Tryz.func245,Tryz.ntmps245
  go_wp2_with fail
  refine (cut_one s 47 _ (by unfold maxLen;omega)).mono ?_
  rintro e w1 ⟨rfl,hb1⟩
  rw [HC.out]
  have Z1:=Lib.hid ((ZeroF.new w 170).keep hb1)
  have HB1:=Lib.hid (((Below.refl _ w).alloc (Nat.le_refl _) _).trans (hb1.mono (by simp)));clear hb1
  go_wp2_with fail
  refine (CR.out _).mono ?_
  rintro e w2 ⟨rfl,hb2⟩
  have Z2:=Lib.hid (Z1.out.keep hb2)
  have HB2:=Lib.hid (HB1.out.trans (hb2.mono HB1.out.size));clear hb2 Z1
  obtain ⟨u0,u1,u2,u3,u4⟩:=Z2.out
  go_wp2
  exact bodyPost_ret (v:= .tuple #[.agg #[.int .i64 T, .int .i64 B], .bool ok]) (by simp [results,Tryz.results245,go_sem,u0,u1]) rfl ⟨rfl,(HB2.out.setCell (Nat.le_refl _) _).setCell (Nat.le_refl _) _⟩
def bodyS (s:ByteArray):ByteArray:=⟨(Lib.trimPrefix s.data.toList [45]).toArray⟩
def negS (s:ByteArray):Bool:=Lib.hasPrefix s.data.toList [45]
def rdTop (s:ByteArray):Int:=if negS s=true then-unT (bodyS s) else unT (bodyS s)
def rdOK (s:ByteArray):Bool:=unOK (bodyS s)&&(textF (rdTop s) (unB (bodyS s))==s.data.toList)
def rdT (s:ByteArray):Int:=if rdOK s=true then rdTop s else 0
def rdB (s:ByteArray):Int:=if rdOK s=true then unB (bodyS s) else 0
theorem bodyS_le (s:ByteArray):(bodyS s).size≤s.size:=by
 show (Lib.trimPrefix s.data.toList [45]).toArray.size≤_
 have hl:s.data.toList.length=s.size:=by rw [Array.length_toList];rfl
 unfold Lib.trimPrefix
 split
 ·simp only [List.size_toArray,List.length_drop];omega
 ·simp only [List.size_toArray];omega
theorem eqL (l:List UInt8) (s:ByteArray):((⟨l.toArray⟩:ByteArray).toList==s.toList)=(l==s.data.toList):=by
 rw [ByteArray.toList_eq,ByteArray.toList_eq]
theorem unT_bd (s:ByteArray): -10000000000≤unT s∧unT s≤10000000000:=by
 unfold unT
 split
 ·unfold slT
  split
  ·rename_i h
   simp only [slOK,Bool.and_eq_true,dOK_iff] at h
   have:=valD_bd _ h.1.2.2 h.1.2.1
   omega
  ·omega
 ·unfold opT
  split
  ·unfold mkT
   split
   ·rename_i h
    have:=vB_bd h
    omega
   ·omega
  ·omega
theorem readFraction_impl (s:ByteArray) (w:World) (hs:s.size≤2097152) (htab:Tab w):
  Calls Tryz.prog 238 #[.string s] w fun e w'=>e=fr (rdT s) (rdB s) (rdOK s)∧Below w.heap.size w w':=by
 have zb:=bodyS_le s
 obtain ⟨y1,y2⟩:=unT_bd (bodyS s)
 have HTP:=Lib.hid (show rdTop s=if negS s=true then-unT (bodyS s) else unT (bodyS s) from rfl)
 have HOK:=Lib.hid (show rdOK s=(unOK (bodyS s)&&(textF (rdTop s) (unB (bodyS s))==s.data.toList)) from rfl)
 have HRT:=Lib.hid (show rdT s=if rdOK s=true then rdTop s else 0 from rfl)
 have HRB:=Lib.hid (show rdB s=if rdOK s=true then unB (bodyS s) else 0 from rfl)
 have CU:=Lib.hid (fun w'=>readUnsigned_any (bodyS s) w' (by omega))
 have HEQ:=Lib.hid (eqL (textF (rdTop s) (unB (bodyS s))) s)
 have CT:=Lib.hid (fun w' (h:Tab w')=>fractionText_impl (rdTop s) (unB (bodyS s)) w' h)
 have HBS:=Lib.hid (show (⟨(Lib.trimPrefix s.data.toList ({data:= #[45]}:ByteArray).data.toList).toArray⟩:ByteArray)=bodyS s from rfl)
 have HNS:=Lib.hid (show Lib.hasPrefix s.data.toList ({data:= #[45]}:ByteArray).data.toList=negS s from rfl)
 clear zb
 generalize unT (bodyS s)=T at*
 generalize unB (bodyS s)=B at*
 generalize unOK (bodyS s)=ok at*
 generalize rdTop s=TT at*
 generalize rdOK s=good at*
 generalize rdT s=RT at*
 generalize rdB s=RB at*
 have goal1: ∀(neg:Bool),negS s=neg→Calls Tryz.prog 238 #[.string s] w fun e w'=>e=fr RT RB good∧Below w.heap.size w w':=by
  intro neg hneg
  have HNG:=Lib.hid hneg
  have hTT:TT=if neg=true then-T else T:=by rw [HTP.out,hneg]
  clear hneg
  cases ok with
  |false=>
   have hg:good=false:=by rw [HOK.out];rfl
   have hr:RT=0:=by rw [HRT.out,hg];rfl
   have hrb:RB=0:=by rw [HRB.out,hg];rfl
   rw [hg,hr,hrb]
   clear hg hr hrb hTT
   cases neg
   all_goals
    go_enter Tryz.func238,Tryz.ntmps238
    go_wp2_with fail
    refine (Tryz.strings_CutPrefix s ⟨#[45]⟩ _).mono ?_
    rintro e w1 ⟨rfl,hw1⟩
    subst hw1
    rw [HBS.out,HNS.out,HNG.out]
    go_wp2_with fail
    refine (CU.out _).mono ?_
    rintro e w2 ⟨rfl,hb2⟩
    have Z2:=Lib.hid ((ZeroF.new w 170).keep hb2)
    have hN:w.heap.size<w2.heap.size:=Z2.out.2.2.2.2
    have hN1:w.heap.size≠w2.heap.size:=by omega
    have HB2:=Lib.hid (((Below.refl _ w).alloc (Nat.le_refl _) _).trans (hb2.mono (by simp)));clear hb2
    obtain ⟨u0,u1,u2,u3,u4⟩:=Z2.out
    go_wp2
    have rd: ∀(x y:Value) (o:Obj) (k:Nat),(((w2.setCell ⟨w.heap.size,0,none⟩ x).setCell ⟨w.heap.size,1,none⟩ y).alloc o).cell? ⟨w.heap.size,k,none⟩=((w2.setCell ⟨w.heap.size,0,none⟩ x).setCell ⟨w.heap.size,1,none⟩ y).cell? ⟨w.heap.size,k,none⟩:=fun x y o k=>World.cell?_alloc_lt _ _ _ (by simpa [World.setCell] using hN)
    refine bodyPost_ret (v:= .tuple #[.agg #[.int .i64 0, .int .i64 0], .bool false]) (by simp [results,Tryz.results238,go_sem,rd,u0,u1]) rfl ⟨rfl, ?_⟩
    exact ((HB2.out.setCell (Nat.le_refl _) _).setCell (Nat.le_refl _) _).alloc (by have:=HB2.out.size;simpa [World.setCell] using this) _
  |true=>
   cases hE:(textF TT B==s.data.toList) with
   |false=>
    have hg:good=false:=by rw [HOK.out,hE];rfl
    have hr:RT=0:=by rw [HRT.out,hg];rfl
    have hrb:RB=0:=by rw [HRB.out,hg];rfl
    rw [hg,hr,hrb]
    rw [hE] at HEQ
    clear hg hr hrb hE
    generalize (⟨(textF TT B).toArray⟩:ByteArray)=Z at*
    have hEE:(Z.toList==s.toList)=false:=HEQ.out
    cases neg
    all_goals
     simp only [Bool.false_eq_true,if_false,if_true] at hTT
     subst hTT
     go_enter Tryz.func238,Tryz.ntmps238
     go_wp2_with fail
     refine (Tryz.strings_CutPrefix s ⟨#[45]⟩ _).mono ?_
     rintro e w1 ⟨rfl,hw1⟩
     subst hw1
     rw [HBS.out,HNS.out,HNG.out]
     go_wp2_with fail
     refine (CU.out _).mono ?_
     rintro e w2 ⟨rfl,hb2⟩
     have Z2:=Lib.hid ((ZeroF.new w 170).keep hb2)
     have T2:=Lib.hid ((htab.al _).keep hb2)
     have HB2:=Lib.hid (((Below.refl _ w).alloc (Nat.le_refl _) _).trans (hb2.mono (by simp)));clear hb2
     go_wp2_with fail
     refine (CT.out _ (T2.out.al _)).mono ?_
     rintro e w3 ⟨rfl,hb3⟩
     have Z3:=Lib.hid ((Z2.out.al _).keep hb3)
     have HB3:=Lib.hid ((HB2.out.alloc HB2.out.size _).trans (hb3.mono (by have:=HB2.out.size;simp;omega)));clear hb3
     obtain ⟨u0,u1,u2,u3,u4⟩:=Z3.out
     go_wp2
     exact bodyPost_ret (v:= .tuple #[.agg #[.int .i64 0, .int .i64 0], .bool false]) (by simp [results,Tryz.results238,go_sem,u0,u1]) rfl ⟨rfl,(HB3.out.setCell (Nat.le_refl _) _).setCell (Nat.le_refl _) _⟩
   |true=>
    have hg:good=true:=by rw [HOK.out,hE];rfl
    have hr:RT=TT:=by rw [HRT.out,hg];rfl
    have hrb:RB=B:=by rw [HRB.out,hg];rfl
    rw [hg,hr,hrb]
    rw [hE] at HEQ
    clear hg hr hrb hE
    generalize (⟨(textF TT B).toArray⟩:ByteArray)=Z at*
    have hEE:(Z.toList==s.toList)=true:=HEQ.out
    cases neg
    all_goals
     simp only [Bool.false_eq_true,if_false,if_true] at hTT
     subst hTT
     go_enter Tryz.func238,Tryz.ntmps238
     go_wp2_with fail
     refine (Tryz.strings_CutPrefix s ⟨#[45]⟩ _).mono ?_
     rintro e w1 ⟨rfl,hw1⟩
     subst hw1
     rw [HBS.out,HNS.out,HNG.out]
     go_wp2_with fail
     refine (CU.out _).mono ?_
     rintro e w2 ⟨rfl,hb2⟩
     have Z2:=Lib.hid ((ZeroF.new w 170).keep hb2)
     have T2:=Lib.hid ((htab.al _).keep hb2)
     have HB2:=Lib.hid (((Below.refl _ w).alloc (Nat.le_refl _) _).trans (hb2.mono (by simp)));clear hb2
     go_wp2_with fail
     refine (CT.out _ (T2.out.al _)).mono ?_
     rintro e w3 ⟨rfl,hb3⟩
     have Z3:=Lib.hid ((Z2.out.al _).keep hb3)
     have F3:=Lib.hid (FrAt.keep (FrAt.new _ _ _ _) hb3)
     have HB3:=Lib.hid ((HB2.out.alloc HB2.out.size _).trans (hb3.mono (by have:=HB2.out.size;simp;omega)));clear hb3
     obtain ⟨u0,u1,u2,u3,u4⟩:=Z3.out
     obtain ⟨d0,d1⟩:=F3.out
     go_wp2
     exact bodyPost_ret (v:= .tuple #[.agg #[.int .i64 _, .int .i64 B], .bool true]) (by simp [results,Tryz.results238,go_sem,u0,u1]) rfl ⟨rfl,(HB3.out.setCell (Nat.le_refl _) _).setCell (Nat.le_refl _) _⟩
 exact goal1 (negS s) rfl
theorem ixc_cases (l:List UInt8) (c:UInt8):(Lib.indexByte l c= -1∧c∉l)∨ ∃k:Nat,Lib.indexByte l c=k∧k<l.length∧c∉l.take k∧l=l.take k++c::l.drop (k+1):=by
 induction l with
 |nil=>left;simp [Lib.indexByte]
 |cons b t ih=>
  simp only [Lib.indexByte]
  by_cases hb:(b==c)=true
  ·right
   refine ⟨0, ?_,by simp,by simp, ?_⟩
   ·rw [if_pos hb];rfl
   ·simp at hb;simp [hb]
  ·rw [if_neg hb]
   have hb':c≠b:=by intro e;apply hb;simp [e]
   rcases ih with ⟨h1,h2⟩|⟨k,h1,h2,h3,h4⟩
   ·left
    rw [if_pos (by rw [h1];rfl)]
    exact ⟨rfl,by simp [hb',h2]⟩
   ·right
    refine ⟨k+1, ?_,by simp [h2],by simp [hb',h3], ?_⟩
    ·rw [if_neg (by rw [h1,beq_iff_eq];omega),h1];omega
    ·simp only [List.take_succ_cons,List.drop_succ_cons,List.cons_append]
     rw [←h4]
theorem dgt_isD {n:Nat} (h:n<10):isD (dgt n)=true∧(dgt n).toNat-48=n:=by
 have e:(dgt n).toNat=48+n:=by unfold dgt;rw [UInt8.toNat_ofNat_of_lt' (by simp [UInt8.size];omega)]
 refine ⟨?_,by omega⟩
 simp [isD,e];omega
theorem dec_digits (n:Nat):allD (Lib.decDigits n)=true∧valD (Lib.decDigits n)=n:=by
 induction n using Nat.strongRecOn with
 |ind n ih=>
  by_cases h:n<10
  ·rw [dec_small h]
   refine ⟨by simp [allD,(dgt_isD h).1], ?_⟩
   have:=valD_snoc [] (dgt n)
   rw [List.nil_append] at this
   rw [this,valD_nil,(dgt_isD h).2];omega
  ·have hm:n % 10<10:=Nat.mod_lt _ (by omega)
   obtain ⟨i1,i2⟩:=ih (n/10) (by omega)
   rw [dec_big h,allD_snoc,valD_snoc,i1,i2,(dgt_isD hm).1,(dgt_isD hm).2]
   exact ⟨rfl,by omega⟩
theorem dec_short (k:Nat): ∀n,n<10^(k+1)→(Lib.decDigits n).length≤k+1:=by
 induction k with
 |zero=>intro n h;rw [dec_small (by simpa using h)];simp
 |succ k ih=>
  intro n h
  by_cases h9:n<10
  ·rw [dec_small h9];simp
  ·rw [dec_big h9,List.length_append]
   have:=ih (n/10) (by rw [Nat.pow_succ] at h;omega)
   simp;omega
theorem dec_dOK {n m k:Nat} (h:n<10^(k+1)) (hk:k+1≤m):dOK (Lib.decDigits n) m=true:=by
 rw [dOK_iff]
 exact ⟨List.length_pos_iff.mpr (dec_ne n),Nat.le_trans (dec_short k n h) hk,(dec_digits n).1⟩
theorem frs_digits (f:Nat): ∀r b,r<b→allD (frs f r b)=true:=by
 induction f with
 |zero=>intro r b _;rfl
 |succ f ih=>
  intro r b h
  rw [frs]
  split
  ·rfl
  ·have hq:10*r/b<10:=by rw [Nat.div_lt_iff_lt_mul (by omega)];omega
   have:=ih (10*r % b) b (Nat.mod_lt _ (by omega))
   simp only [allD,List.all_cons,(dgt_isD hq).1,Bool.true_and] at this⊢
   exact this
theorem valD_cons (a:UInt8) (l:List UInt8):valD (a::l)=(a.toNat-48)*10^l.length+valD l:=by
 refine snoc_ind (P:=fun l=>valD (a::l)=(a.toNat-48)*10^l.length+valD l) ?_ ?_ l
 ·simp [valD]
 ·intro l b ih
  rw [←List.cons_append,valD_snoc,ih,valD_snoc,List.length_append,List.length_singleton,Nat.pow_succ]
  rw [Nat.add_mul,Nat.mul_assoc,Nat.add_assoc]
theorem frs_val (b m:Nat) (hbm:b*m=1000000) (f:Nat): ∀r y,f≤6→r<b→y<10^f→r*m=y*10^(6-f)→valD (frs f r b)*b=r*10^(frs f r b).length:=by
 have hm:0<m:=by rcases Nat.eq_zero_or_pos m with h|h;(subst h;omega);exact h
 induction f with
 |zero=>
  intro r y _ hr hy h
  have hy0:y=0:=by simpa using hy
  subst hy0
  rw [Nat.zero_mul] at h
  have:r=0:=by
   rcases Nat.mul_eq_zero.mp h with h|h
   ·exact h
   ·omega
  subst this;simp [frs,valD]
 |succ f ih=>
  intro r y hf hr hy h
  by_cases hr0:r=0
  ·subst hr0;simp [frs,valD]
  ·have hE:10^(6-f)=10*10^(6-(f+1)):=by rw [show 6-f=(6-(f+1))+1 by omega,Nat.pow_succ,Nat.mul_comm]
   have hE2:10^f*10^(6-f)=1000000:=by rw [←Nat.pow_add,show f+(6-f)=6 by omega]
   have h10:10*r*m=y*10^(6-f):=by rw [hE,Nat.mul_assoc,h,←Nat.mul_assoc,←Nat.mul_assoc,Nat.mul_comm 10 y]
   have hmod:(10*r % b)*m=(y % 10^f)*10^(6-f):=by rw [←Nat.mul_mod_mul_right,h10,hbm,←hE2,Nat.mul_mod_mul_right]
   have i:=ih (10*r % b) (y % 10^f) (by omega) (Nat.mod_lt _ (by omega)) (Nat.mod_lt _ (Nat.pow_pos (by omega))) hmod
   have hq:10*r/b<10:=by rw [Nat.div_lt_iff_lt_mul (by omega)];omega
   have hdm:=Nat.div_add_mod (10*r) b
   rw [frs,if_neg hr0,valD_cons,(dgt_isD hq).2,List.length_cons,Nat.pow_succ,Nat.add_mul,i]
   generalize 10^(frs f (10*r % b) b).length=P
   generalize 10*r/b=q at*
   generalize 10*r % b=r2 at*
   have:q*P*b+r2*P=(b*q+r2)*P:=by rw [Nat.add_mul,Nat.mul_right_comm,Nat.mul_comm q b]
   rw [this,hdm,Nat.mul_comm 10 r,Nat.mul_assoc,Nat.mul_comm 10 P]
theorem not_mem_digits {l:List UInt8} (h:allD l=true) (c:UInt8) (hc:isD c=false):c∉l:=by
 intro hm
 simp only [allD,List.all_eq_true] at h
 have:=h c hm
 rw [hc] at this;cases this
theorem dec_read (t b:Nat) (hv:vB (t:Int) (b:Int)=true) (hd:1000000 % b=0):decV (decText t b)=true∧mkOK (decX (decText t b)) (decY (decText t b))=true∧mkT (decX (decText t b)) (decY (decText t b))=(t:Int)∧mkB (decX (decText t b)) (decY (decText t b))=(b:Int):=by
 obtain ⟨v1,v2,v3,v4⟩:=vB_bd hv
 have hbm:b*(1000000/b)=1000000:=by have:=Nat.div_add_mod 1000000 b;omega
 have hq9:t/b<10^(9+1):=Nat.lt_of_le_of_lt (Nat.div_le_self _ _) (by omega)
 have hr:t % b<b:=Nat.mod_lt _ (by omega)
 have hdm:=Nat.div_add_mod t b
 obtain ⟨w1,w2⟩:=dec_digits (t/b)
 have hok:=dec_dOK (m:=10) hq9 (by omega)
 have hno:=not_mem_digits w1 46 (by decide)
 by_cases h0:t % b=0
 ·have e:decText t b=Lib.decDigits (t/b):=by rw [decText,if_pos h0,List.append_nil]
  have ei:=ix_none _ 46 hno
  have eP:decP (decText t b)=Lib.decDigits (t/b):=by unfold decP;rw [e,ei,if_pos (by omega)]
  have eQ:decQ (decText t b)=[48]:=by unfold decQ;rw [e,ei,if_pos (by omega)]
  have eX:decX (decText t b)=(((t/b)*10:Nat):Int):=by unfold decX;rw [eP,eQ,w2];simp [valD]
  have eY:decY (decText t b)=10:=by unfold decY;rw [eQ];rfl
  refine ⟨by unfold decV;rw [eP,eQ,hok];decide, ?_⟩
  rw [eX,eY]
  refine mk_of (by omega) hv ?_
  have:b*(t/b)=t:=by omega
  have h2:(t:Int)=(b:Int)*((t/b:Nat):Int):=by rw [←Int.natCast_mul,this]
  rw [h2,Int.natCast_mul]
  generalize ((t/b:Nat):Int)=q
  grind
 ·have hx6:t % b*(1000000/b)<10^6:=by
   have h1:(t % b+1)*(1000000/b)≤b*(1000000/b):=Nat.mul_le_mul_right _ (by omega)
   rw [Nat.add_mul,Nat.one_mul] at h1
   have hm:0<1000000/b:=by rcases Nat.eq_zero_or_pos (1000000/b) with h|h;(rw [h] at hbm;omega);exact h
   omega
  have hval:=frs_val b (1000000/b) hbm 6 (t % b) _ (Nat.le_refl _) hr hx6 (by simp)
  have hfd:=frs_digits 6 (t % b) b hr
  have hfl:=frs_len 6 (t % b) b
  have hfn:1≤(frs 6 (t % b) b).length:=by rw [frs,if_neg h0];simp
  have e:decText t b=Lib.decDigits (t/b)++46::frs 6 (t % b) b:=by rw [decText,if_neg h0]
  generalize frs 6 (t % b) b=G at*
  have ei:Lib.indexByte (decText t b) 46=((Lib.decDigits (t/b)).length:Nat):=by
   refine ix_at _ 46 _ ?_ ?_
   ·rw [e,List.getElem?_append_right (Nat.le_refl _)];simp
   ·rw [e,List.take_left];exact hno
  have eP:decP (decText t b)=Lib.decDigits (t/b):=by
   unfold decP;rw [ei,if_neg (by omega),Int.toNat_natCast,e,List.take_left]
  have eQ:decQ (decText t b)=G:=by
   unfold decQ;rw [ei,if_neg (by omega),Int.toNat_natCast,e,←List.drop_drop,List.drop_left];rfl
  have hokG:dOK G 6=true:=by rw [dOK_iff];exact ⟨hfn,hfl,hfd⟩
  refine ⟨by unfold decV;rw [eP,eQ,hok,hokG];rfl, ?_⟩
  have hy:1≤decY (decText t b):=by unfold decY;have:0<10^(decQ (decText t b)).length:=Nat.pow_pos (by omega);omega
  refine mk_of hy hv ?_
  unfold decX decY
  rw [eP,eQ,w2]
  have key:t*10^G.length=(t/b*10^G.length+valD G)*b:=by
   rw [Nat.add_mul,hval]
   generalize 10^G.length=P
   have:t/b*P*b=b*(t/b)*P:=by rw [Nat.mul_right_comm,Nat.mul_comm (t/b) b]
   rw [this,←Nat.add_mul,hdm]
  rw [←Int.natCast_mul,key,Int.natCast_mul]
theorem cut_at (s:ByteArray) (p q:List UInt8) (h:s.data.toList=p++47::q) (hp:(47:UInt8)∉p):cutB s 47=true∧(cutP s 47).data.toList=p∧(cutQ s 47).data.toList=q:=by
 have ei:Lib.indexByte s.data.toList 47=(p.length:Nat):=by
  refine ix_at _ 47 _ ?_ ?_
  ·rw [h,List.getElem?_append_right (Nat.le_refl _)];simp
  ·rw [h,List.take_left];exact hp
 have hl:s.data.toList.length=s.size:=by rw [Array.length_toList];rfl
 unfold cutB cutP cutQ
 rw [ei,decide_eq_false (by omega),if_neg (by omega),if_neg (by omega),Int.toNat_natCast]
 refine ⟨rfl, ?_, ?_⟩
 ·have e:(s.extract 0 p.length).data.toList=s.data.toList.take p.length:=by simp [ByteArray.data_extract]
  rw [e,h,List.take_left]
 ·have e:(s.extract (p.length+1) s.size).data.toList=(s.data.toList.drop (p.length+1)).take (s.size-(p.length+1)):=by simp [ByteArray.data_extract]
  rw [e,List.take_of_length_le (by rw [List.length_drop,hl];exact Nat.le_refl _),h,←List.drop_drop,List.drop_left];rfl
theorem cut_no (s:ByteArray) (h:(47:UInt8)∉s.data.toList):cutB s 47=false:=by
 unfold cutB;rw [ix_none _ 47 h];rfl
theorem dec47 (t b:Nat) (hb:1≤b):(47:UInt8)∉decText t b:=by
 have h1:=not_mem_digits (dec_digits (t/b)).1 47 (by decide)
 have h2:=not_mem_digits (frs_digits 6 (t % b) b (Nat.mod_lt _ (by omega))) 47 (by decide)
 unfold decText
 split
 ·simpa using h1
 ·simp [h1,h2]
theorem un_read (s:ByteArray) (t b:Nat) (hv:vB (t:Int) (b:Int)=true) (h:s.data.toList=posText t b):unOK s=true∧unT s=(t:Int)∧unB s=(b:Int):=by
 obtain ⟨v1,v2,v3,v4⟩:=vB_bd hv
 unfold unOK unT unB
 by_cases hd:1000000 % b=0
 ·rw [posText,if_pos hd] at h
  have hc:cutB s 47=false:=cut_no s (by rw [h];exact dec47 t b (by omega))
  obtain ⟨d1,d2,d3,d4⟩:=dec_read t b hv hd
  rw [hc,h,d1]
  simp only [Bool.false_eq_true,if_false]
  rw [(op_true _ _).1,(op_true _ _).2.1,(op_true _ _).2.2]
  exact ⟨d2,d3,d4⟩
 ·rw [posText,if_neg hd] at h
  obtain ⟨c1,c2,c3⟩:=cut_at s _ _ h (not_mem_digits (dec_digits t).1 47 (by decide))
  have o1:dOK (Lib.decDigits t) 10=true:=dec_dOK (k:=9) (by omega) (by omega)
  have o2:dOK (Lib.decDigits b) 10=true:=dec_dOK (k:=9) (by omega) (by omega)
  have ho:slOK (Lib.decDigits t) (Lib.decDigits b)=true:=by simp [slOK,o1,o2]
  rw [c1,c2,c3]
  simp only [if_true]
  refine ⟨ho, ?_, ?_⟩
  ·rw [slT,if_pos ho,(dec_digits t).2]
  ·rw [slB,if_pos ho,(dec_digits b).2]
theorem dec_head (n:Nat): ∃c l,Lib.decDigits n=c::l∧isD c=true:=by
 have h:=(dec_digits n).1
 cases hl:Lib.decDigits n with
 |nil=>exact absurd hl (dec_ne n)
 |cons c l=>
  rw [hl] at h
  simp only [allD,List.all_cons,Bool.and_eq_true] at h
  exact ⟨c,l,rfl,h.1⟩
theorem pos_head (t b:Nat): ∃c l,posText t b=c::l∧isD c=true:=by
 unfold posText decText
 split
 ·obtain ⟨c,l,e,h⟩:=dec_head (t/b)
  exact ⟨c,_,by rw [e];rfl,h⟩
 ·obtain ⟨c,l,e,h⟩:=dec_head t
  exact ⟨c,_,by rw [e];rfl,h⟩
theorem pos_noneg (t b:Nat):Lib.hasPrefix (posText t b) [45]=false:=by
 obtain ⟨c,l,e,h⟩:=pos_head t b
 rw [e]
 have hc:c≠45:=by rintro rfl;cases h
 unfold Lib.hasPrefix
 simp [List.isPrefixOf]
 exact fun h=>hc h.symm
theorem read_back (s:ByteArray) (t b:Int) (hv:vB t b=true) (h:s.data.toList=fracT t b):rdOK s=true∧rdT s=t∧rdB s=b:=by
 obtain ⟨v1,v2,v3,v4⟩:=vB_bd hv
 obtain ⟨b',rfl⟩:=Int.eq_ofNat_of_zero_le (show 0≤b by omega)
 have key:unOK (bodyS s)=true∧rdTop s=t∧unB (bodyS s)=(b':Int):=by
  by_cases hn:t<0
  ·obtain ⟨t',ht'⟩:=Int.eq_ofNat_of_zero_le (show 0≤ -t by omega)
   obtain rfl:t= -(t':Int):=by omega
   rw [fracT,if_pos hn,show (- -(t':Int)).toNat=t' by omega,show ((b':Int)).toNat=b' by omega] at h
   have hp:Lib.hasPrefix s.data.toList [45]=true:=by rw [h];unfold Lib.hasPrefix;simp [List.isPrefixOf]
   have hng:negS s=true:=hp
   have hbd:(bodyS s).data.toList=posText t' b':=by
    unfold bodyS Lib.trimPrefix;rw [hp,if_pos rfl,h];simp
   have hv':vB (t':Int) (b':Int)=true:=by
    rw [vB_iff] at hv⊢
    refine ⟨by omega,by omega,hv.2.2.1,hv.2.2.2.1, ?_⟩
    have:=hv.2.2.2.2
    rwa [Int.neg_gcd] at this
   obtain ⟨r1,r2,r3⟩:=un_read (bodyS s) t' b' hv' hbd
   exact ⟨r1,by rw [rdTop,hng,if_pos rfl,r2],r3⟩
  ·obtain ⟨t',rfl⟩:=Int.eq_ofNat_of_zero_le (show 0≤t by omega)
   rw [fracT,if_neg hn,show ((t':Int)).toNat=t' by omega,show ((b':Int)).toNat=b' by omega] at h
   have hp:Lib.hasPrefix s.data.toList [45]=false:=by rw [h];exact pos_noneg t' b'
   have hng:negS s=false:=hp
   have hbd:(bodyS s).data.toList=posText t' b':=by
    unfold bodyS Lib.trimPrefix;rw [hp];simp [h]
   obtain ⟨r1,r2,r3⟩:=un_read (bodyS s) t' b' hv hbd
   exact ⟨r1,by rw [rdTop,hng];simpa using r2,r3⟩
 obtain ⟨k1,k2,k3⟩:=key
 have ho:rdOK s=true:=by
  rw [rdOK,k1,k2,k3,h,textF,if_pos hv];simp
 exact ⟨ho,by rw [rdT,if_pos ho,k2],by rw [rdB,if_pos ho,k3]⟩
theorem frac_ne (t b:Int):fracT t b≠[]:=by
 unfold fracT
 split
 ·simp
 ·obtain ⟨c,l,e,_⟩:=pos_head t.toNat b.toNat
  rw [e];simp
def spK (s:ByteArray):Nat:=runAt s 0 10
def spJ (s:ByteArray):Nat:=runAt s (spK s+1) 7
def spSl (s:ByteArray):Bool:=decide (0<spK s)&&decide (spK s<s.size)&&(s.data.toList[spK s]? ==some 47)
def spGo (s:ByteArray):Bool:=spSl s&&decide (spK s+1+spJ s=s.size)&&decide (0<valAt s (spK s+1) (spJ s))
def spO (s:ByteArray):Bool:=opOK (decV s.data.toList) (decX s.data.toList) (decY s.data.toList)
def spT (s:ByteArray):Int:=if spO s=true then opT (decV s.data.toList) (decX s.data.toList) (decY s.data.toList) else if 0<spK s∧spK s=s.size then ((valAt s 0 (spK s):Nat):Int) else if spGo s=true then ((valAt s 0 (spK s):Nat):Int) else 0
def spB (s:ByteArray):Int:=if spO s=true then opB (decV s.data.toList) (decX s.data.toList) (decY s.data.toList) else if 0<spK s∧spK s=s.size then 1 else if spGo s=true then ((valAt s (spK s+1) (spJ s):Nat):Int) else 0
theorem sp_read (s:ByteArray) (t b:Nat) (hv:vB (t:Int) (b:Int)=true) (h:s.data.toList=posText t b):spT s=(t:Int)∧spB s=(b:Int):=by
 obtain ⟨v1,v2,v3,v4⟩:=vB_bd hv
 have hl:s.data.toList.length=s.size:=by rw [Array.length_toList];rfl
 by_cases hd:1000000 % b=0
 ·rw [posText,if_pos hd] at h
  obtain ⟨d1,d2,d3,d4⟩:=dec_read t b hv hd
  have ho:spO s=true:=by unfold spO;rw [h,d1,(op_true _ _).2.2];exact d2
  unfold spT spB
  rw [ho,if_pos rfl,if_pos rfl,h,d1,(op_true _ _).1,(op_true _ _).2.1]
  exact ⟨d3,d4⟩
 ·rw [posText,if_neg hd] at h
  obtain ⟨w1,w2⟩:=dec_digits t
  obtain ⟨w3,w4⟩:=dec_digits b
  have s1:=dec_short 9 t (by omega)
  have s2:=dec_short 6 b (by omega)
  have hlen:s.size=(Lib.decDigits t).length+1+(Lib.decDigits b).length:=by rw [←hl,h];simp;omega
  have p1:0<(Lib.decDigits t).length:=List.length_pos_iff.mpr (dec_ne t)
  have hk:spK s=(Lib.decDigits t).length:=by
   unfold spK runAt
   rw [List.drop_zero,h]
   refine runD_unique (by simp) s1 (by rw [List.take_left];exact w1) (.inr (.inr ⟨47, ?_,by decide⟩))
   rw [List.getElem?_append_right (Nat.le_refl _)];simp
  have hdr:s.data.toList.drop ((Lib.decDigits t).length+1)=Lib.decDigits b:=by
   rw [h,←List.drop_drop,List.drop_left];rfl
  have hj:spJ s=(Lib.decDigits b).length:=by
   unfold spJ runAt
   rw [hk,hdr]
   exact runD_unique (Nat.le_refl _) s2 (by rw [List.take_length];exact w3) (.inl rfl)
  have hno:decV s.data.toList=false:=by
   rw [Bool.eq_false_iff];intro hv'
   simp only [decV,Bool.and_eq_true,dOK_iff] at hv'
   have h47:(46:UInt8)∉s.data.toList:=by
    rw [h];simp [not_mem_digits w1 46 (by decide),not_mem_digits w3 46 (by decide)]
   have eP:decP s.data.toList=s.data.toList:=by unfold decP;rw [ix_none _ 46 h47,if_pos (by omega)]
   rw [eP] at hv'
   exact not_mem_digits hv'.1.2.2 47 (by decide) (by rw [h];simp)
  have ho:spO s=false:=by unfold spO;rw [hno];exact (op_false _ _).2.2
  have t1:valAt s 0 (spK s)=t:=by unfold valAt;rw [List.drop_zero,hk,h,List.take_left];exact w2
  have t2:valAt s (spK s+1) (spJ s)=b:=by unfold valAt;rw [hk,hdr,hj,List.take_length];exact w4
  have hsl:spSl s=true:=by
   unfold spSl
   rw [hk,decide_eq_true p1,decide_eq_true (by omega),h,List.getElem?_append_right (Nat.le_refl _)]
   simp
  have hgo:spGo s=true:=by
   unfold spGo
   rw [hsl,t2,hk,hj,decide_eq_true (by omega),decide_eq_true (by omega)];rfl
  unfold spT spB
  rw [ho,hgo,t1,t2]
  simp only [Bool.false_eq_true,if_false,if_true]
  rw [if_neg (by rw [hk];omega),if_neg (by rw [hk];omega)]
  exact ⟨rfl,rfl⟩
def sdTop (s:ByteArray):Int:=if negS s=true then-spT (bodyS s) else spT (bodyS s)
def sdOK (s:ByteArray):Bool:= !s.data.toList.isEmpty&&(textF (sdTop s) (spB (bodyS s))==s.data.toList)
theorem sd_back (s:ByteArray) (t b:Int) (hv:vB t b=true) (h:s.data.toList=fracT t b):sdTop s=t∧spB (bodyS s)=b:=by
 obtain ⟨v1,v2,v3,v4⟩:=vB_bd hv
 obtain ⟨b',rfl⟩:=Int.eq_ofNat_of_zero_le (show 0≤b by omega)
 by_cases hn:t<0
 ·obtain ⟨t',ht'⟩:=Int.eq_ofNat_of_zero_le (show 0≤ -t by omega)
  obtain rfl:t= -(t':Int):=by omega
  rw [fracT,if_pos hn,show (- -(t':Int)).toNat=t' by omega,show ((b':Int)).toNat=b' by omega] at h
  have hp:Lib.hasPrefix s.data.toList [45]=true:=by rw [h];unfold Lib.hasPrefix;simp [List.isPrefixOf]
  have hng:negS s=true:=hp
  have hbd:(bodyS s).data.toList=posText t' b':=by
   unfold bodyS Lib.trimPrefix;rw [hp,if_pos rfl,h];simp
  have hv':vB (t':Int) (b':Int)=true:=by
   rw [vB_iff] at hv⊢
   refine ⟨by omega,by omega,hv.2.2.1,hv.2.2.2.1, ?_⟩
   have:=hv.2.2.2.2
   rwa [Int.neg_gcd] at this
  obtain ⟨r2,r3⟩:=sp_read (bodyS s) t' b' hv' hbd
  exact ⟨by rw [sdTop,hng,if_pos rfl,r2],r3⟩
 ·obtain ⟨t',rfl⟩:=Int.eq_ofNat_of_zero_le (show 0≤t by omega)
  rw [fracT,if_neg hn,show ((t':Int)).toNat=t' by omega,show ((b':Int)).toNat=b' by omega] at h
  have hp:Lib.hasPrefix s.data.toList [45]=false:=by rw [h];exact pos_noneg t' b'
  have hng:negS s=false:=hp
  have hbd:(bodyS s).data.toList=posText t' b':=by
   unfold bodyS Lib.trimPrefix;rw [hp];simp [h]
  obtain ⟨r2,r3⟩:=sp_read (bodyS s) t' b' hv hbd
  exact ⟨by rw [sdTop,hng];simpa using r2,r3⟩
theorem read_same (s:ByteArray):sdOK s=rdOK s∧(rdOK s=true→sdTop s=rdTop s∧spB (bodyS s)=unB (bodyS s)):=by
 have ofText: ∀(t b:Int),textF t b=s.data.toList→s.data.toList≠[]→vB t b=true∧s.data.toList=fracT t b:=by
  intro t b h hne
  cases hv:vB t b with
  |false=>rw [textF,hv] at h;exact absurd h.symm hne
  |true=>rw [textF,if_pos hv] at h;exact ⟨rfl,h.symm⟩
 have h1:rdOK s=true→sdOK s=true∧sdTop s=rdTop s∧spB (bodyS s)=unB (bodyS s):=by
  intro h
  simp only [rdOK,Bool.and_eq_true,beq_iff_eq] at h
  have hne:s.data.toList≠[]:=by
   intro h0
   have:unOK (bodyS s)=false:=by
    have hb:(bodyS s).data.toList=[]:=by unfold bodyS Lib.trimPrefix;rw [h0];simp [Lib.hasPrefix,List.isPrefixOf]
    unfold unOK
    rw [cut_no _ (by rw [hb];simp),hb,if_neg (by simp)];decide
   rw [this] at h;exact absurd h.1 (by simp)
  obtain ⟨hv,hf⟩:=ofText _ _ h.2 hne
  obtain ⟨e1,e2⟩:=sd_back s _ _ hv hf
  refine ⟨?_,e1,e2⟩
  simp only [sdOK,Bool.and_eq_true,beq_iff_eq,e1,e2]
  refine ⟨?_,h.2⟩
  cases hx:s.data.toList with
  |nil=>exact absurd hx hne
  |cons _ _=>rfl
 have h2:sdOK s=true→rdOK s=true:=by
  intro h
  simp only [sdOK,Bool.and_eq_true,beq_iff_eq] at h
  have hne:s.data.toList≠[]:=by
   intro h0;rw [h0] at h;exact absurd h.1 (by simp)
  obtain ⟨hv,hf⟩:=ofText _ _ h.2 hne
  exact (read_back s _ _ hv hf).1
 refine ⟨?_,fun h=>(h1 h).2⟩
 rw [Bool.eq_iff_iff]
 exact ⟨h2,fun h=>(h1 h).1⟩
theorem digits_first (s:ByteArray) (k:Nat) (w:World) (hs:s.size≤2097152) (hk:runD s.data.toList 10=k):
  Calls Tryz.prog 192 #[.string s, .int .i64 0, .int .i64 10] w fun e w'=>e= .returned (.tuple #[.int .i64 ((valD (s.data.toList.take k):Nat):Int), .int .i64 (k:Int)])∧w=w':=by
 have h:=l2Digits_any s 0 10 w hs (by omega) (by omega)
 have e:runAt s 0 10=k:=by unfold runAt;rw [List.drop_zero];exact hk
 rw [e] at h
 refine h.mono ?_
 rintro e w' ⟨rfl,rfl⟩
 refine ⟨?_,rfl⟩
 rw [show valAt s 0 k=valD (s.data.toList.take k) by unfold valAt;rw [List.drop_zero],Nat.zero_add]
theorem digits_next (s:ByteArray) (k j:Nat) (w:World) (hs:s.size≤2097152) (hk:k<s.size) (hj:runD (s.data.toList.drop (k+1)) 7=j):
  Calls Tryz.prog 192 #[.string s, .int .i64 ((k:Int)+1), .int .i64 7] w fun e w'=>e= .returned (.tuple #[.int .i64 ((valD ((s.data.toList.drop (k+1)).take j):Nat):Int), .int .i64 ((k:Int)+1+(j:Int))])∧w=w':=by
 have h:=l2Digits_any s (k+1) 7 w hs (by omega) (by omega)
 have e:runAt s (k+1) 7=j:=hj
 rw [e] at h
 refine h.mono ?_
 rintro e w' ⟨rfl,rfl⟩
 refine ⟨?_,rfl⟩
 rw [show ((k+1+j:Nat):Int)=(k:Int)+1+(j:Int) by omega];rfl
theorem list_at (s:ByteArray) (k:Nat) (h:k<s.size):s.data.toList[k]? =some s[k]:=by
 have hl:s.data.toList.length=s.size:=by rw [Array.length_toList];rfl
 rw [List.getElem?_eq_getElem (by omega)];rfl
theorem decimal_spec (s:ByteArray) (w:World) (hs:s.size≤2097152):
  Calls Tryz.prog 191 #[.string s] w fun e w'=>e=fr (opT (decV s.data.toList) (decX s.data.toList) (decY s.data.toList)) (opB (decV s.data.toList) (decX s.data.toList) (decY s.data.toList)) (opOK (decV s.data.toList) (decX s.data.toList) (decY s.data.toList))∧Below w.heap.size w w':=by
 have hl:s.data.toList.length=s.size:=by rw [Array.length_toList];rfl
 obtain ⟨k,hk⟩: ∃k,k=runD s.data.toList 10:=⟨_,rfl⟩
 have hkb:=runD_le s.data.toList 10
 rw [←hk,hl] at hkb
 obtain ⟨hk1,hk2⟩:=hkb
 have hv1:valD (s.data.toList.take k)<10000000000:=valD_bd _ (by rw [hk];exact runD_take _ _) (by rw [List.length_take];omega)
 by_cases h0:k=0
 ·rw [dec_s1 (by omega:runD s.data.toList 10=0),(op_false _ _).1,(op_false _ _).2.1,(op_false _ _).2.2]
  have HX:Hid True:=trivial
  have HK:=Lib.hid hk;clear hk hl
  have h0b:((k:Int)==0)=true:=beq_iff_eq.mpr (by omega)
  clear h0
  go_enter Tryz.func191,Tryz.ntmps191
  go_wp2_with fail
  refine (digits_first s k _ hs HK.out.symm).mono ?_
  rintro e w' ⟨rfl,rfl⟩
  generalize valD (s.data.toList.take k)=v1 at hv1 HX⊢
  go_wp2
  exact bodyPost_ret (v:= .tuple #[.agg #[.int .i64 0, .int .i64 0], .bool false]) (by simp [results,Tryz.results191,go_sem]) rfl ⟨rfl,((Below.refl _ w).alloc (Nat.le_refl _) _)⟩
 ·by_cases hp:s.data.toList[k]? =some 46
  ·have hkl:k<s.size:=by
    by_cases q:k<s.size
    ·exact q
    ·rw [List.getElem?_eq_none (by omega)] at hp;cases hp
   have hbyte:((s[k].toNat:Int)==46)=true:=by rw [list_at s k hkl] at hp;simp only [Option.some.injEq] at hp;rw [hp];rfl
   obtain ⟨j,hj⟩: ∃j,j=runD (s.data.toList.drop (k+1)) 7:=⟨_,rfl⟩
   have hjb:=runD_le (s.data.toList.drop (k+1)) 7
   rw [←hj,List.length_drop,hl] at hjb
   obtain ⟨hj1,hj2⟩:=hjb
   have hv2:valD ((s.data.toList.drop (k+1)).take j)<10000000000:=valD_bd _ (by rw [hj];exact runD_take _ _) (by rw [List.length_take];omega)
   by_cases hin:1≤j∧j≤6
   ·obtain ⟨i1,i2⟩:=hin
    have hIn:inF ((k:Int)+1+(j:Int)-(k:Int)-1) 1 6=true:=by simp only [inF,Bool.and_eq_true,decide_eq_true_eq];omega
    by_cases he:k+1+j=s.size
    ·obtain ⟨d1,d2,d3⟩:=dec_s2_good hk.symm (by omega) hp hj.symm i1 i2 (by omega)
     rw [d1,(op_true _ _).1,(op_true _ _).2.1,(op_true _ _).2.2]
     have HX:=Lib.hid d2;have HY:=Lib.hid d3;have HI:=Lib.hid hIn;have HK:=Lib.hid hk;have HJ:=Lib.hid hj;have HE:=Lib.hid he
     have he1:(k:Int)+1+(j:Int)≤s.size:=by omega
     have h0b:((k:Int)==0)=false:=by rw [beq_eq_false_iff_ne];omega
     clear d1 d2 d3 hp hIn hk hj hl he h0
     go_enter Tryz.func191,Tryz.ntmps191
     go_wp2_with fail
     refine (digits_first s k _ hs HK.out.symm).mono ?_
     rintro e w' ⟨rfl,rfl⟩
     generalize valD (s.data.toList.take k)=v1 at hv1 HX⊢
     go_wp2_with fail
     refine (digits_next s k j _ hs hkl HJ.out.symm).mono ?_
     rintro e w' ⟨rfl,rfl⟩
     generalize valD ((s.data.toList.drop (k+1)).take j)=v2 at hv2 HX⊢
     go_wp2_with fail
     refine (l1In_f _ _ _ _).mono ?_
     rintro e w' ⟨rfl,rfl⟩
     rw [HI.out]
     go_wp2_with fail
     go_loop [7,10] (fun sc i=> ∃(m:Nat) (x:Int),m≤j∧i= .int .i64 ((k:Int)+1+(m:Int))∧x=((10^m:Nat):Int)∧sc= .int .i64 x) (fun _ i=>s.size+9-(intOf i).toNat)
     case atStart=>exact ⟨0,1,by omega,by first|rfl|(simp;done),rfl,rfl⟩
     case round=>
      obtain ⟨m,x,hm,rfl,hx,rfl⟩:=hrel
      obtain ⟨bx0,bx1⟩:=pow_bd1 hx (by omega)
      have HXM:=Lib.hid hx;clear hx
      by_cases hlt:m<j
      ·go_wp2
       go_round
       case rel=>exact ⟨m+1,10*x,by omega,by go_num,by rw [HXM.out,Nat.pow_succ];go_num,rfl⟩
       case measure=>simp [intOf];omega
      ·obtain rfl:m=j:=by omega
       have heb:(((k:Int)+1+(m:Int)) !=(s.size:Int))=false:=by rw [bne_eq_false_iff_eq];have:=HE.out;omega
       have pm:(v1:Int)*x=((v1*10^m:Nat):Int):=by rw [HXM.out,Int.natCast_mul]
       obtain ⟨pm0,pm1⟩:=pow_bd pm hv1 (by omega)
       have x1:=pow_pos1 HXM.out
       have HXX:Hid ((v1:Int)*x+(v2:Int)=decX s.data.toList):=by show _=_;rw [HX.out,pm,Int.natCast_add]
       have HYY:Hid (x=decY s.data.toList):=by show _=_;rw [HY.out,HXM.out]
       clear pm
       go_wp2_with fail
       refine (make_spec ((v1:Int)*x+(v2:Int)) x _ (by omega) (by omega) (by omega)).mono ?_
       rintro e w2 ⟨rfl,hb2⟩
       have q0:w2.cell? ⟨w.heap.size,0,none⟩=some (.int .i64 0):=by rw [hb2.cell (by simp)];simp [go_sem]
       have q1:w2.cell? ⟨w.heap.size,1,none⟩=some (.int .i64 0):=by rw [hb2.cell (by simp)];simp [go_sem]
       have q2:w2.frozen? ⟨w.heap.size,0,none⟩=false:=by rw [hb2.frozen (by simp)];simp [go_sem]
       have q3:w2.frozen? ⟨w.heap.size,1,none⟩=false:=by rw [hb2.frozen (by simp)];simp [go_sem]
       have HB2:=Lib.hid (((Below.refl _ w).alloc (Nat.le_refl _) _).trans (hb2.mono (by simp)));clear hb2
       rw [HXX.out,HYY.out]
       go_wp2
       exact bodyPost_ret (v:= .tuple #[.agg #[.int .i64 (mkT (decX s.data.toList) (decY s.data.toList)), .int .i64 (mkB (decX s.data.toList) (decY s.data.toList))], .bool (mkOK (decX s.data.toList) (decY s.data.toList))]) (by simp [results,Tryz.results191,go_sem,q0,q1]) rfl ⟨rfl,(HB2.out.setCell (Nat.le_refl _) _).setCell (Nat.le_refl _) _⟩
    ·rw [dec_s2_bad hk.symm (by omega) hp hj.symm (.inr (by omega)),(op_false _ _).1,(op_false _ _).2.1,(op_false _ _).2.2]
     have HX:Hid True:=trivial;have HK:=Lib.hid hk;have HJ:=Lib.hid hj;have HI:=Lib.hid hIn
     have h0b:((k:Int)==0)=false:=by rw [beq_eq_false_iff_ne];omega
     have heb:(((k:Int)+1+(j:Int)) !=(s.size:Int))=true:=by rw [bne_iff_ne];omega
     have he1:(k:Int)+1+(j:Int)≤s.size:=by omega
     clear hp hIn hk hj hl he h0
     go_enter Tryz.func191,Tryz.ntmps191
     go_wp2_with fail
     refine (digits_first s k _ hs HK.out.symm).mono ?_
     rintro e w' ⟨rfl,rfl⟩
     generalize valD (s.data.toList.take k)=v1 at hv1 HX⊢
     go_wp2_with fail
     refine (digits_next s k j _ hs hkl HJ.out.symm).mono ?_
     rintro e w' ⟨rfl,rfl⟩
     generalize valD ((s.data.toList.drop (k+1)).take j)=v2 at hv2 HX⊢
     go_wp2_with fail
     refine (l1In_f _ _ _ _).mono ?_
     rintro e w' ⟨rfl,rfl⟩
     rw [HI.out]
     go_wp2_with fail
     go_loop [7,10] (fun sc i=> ∃(m:Nat) (x:Int),m≤j∧i= .int .i64 ((k:Int)+1+(m:Int))∧x=((10^m:Nat):Int)∧sc= .int .i64 x) (fun _ i=>s.size+9-(intOf i).toNat)
     case atStart=>exact ⟨0,1,by omega,by first|rfl|(simp;done),rfl,rfl⟩
     case round=>
      obtain ⟨m,x,hm,rfl,hx,rfl⟩:=hrel
      obtain ⟨bx0,bx1⟩:=pow_bd1 hx (by omega)
      have HXM:=Lib.hid hx;clear hx
      by_cases hlt:m<j
      ·go_wp2
       go_round
       case rel=>exact ⟨m+1,10*x,by omega,by go_num,by rw [HXM.out,Nat.pow_succ];go_num,rfl⟩
       case measure=>simp [intOf];omega
      ·obtain rfl:m=j:=by omega
       go_wp2
       exact bodyPost_ret (v:= .tuple #[.agg #[.int .i64 0, .int .i64 0], .bool false]) (by simp [results,Tryz.results191,go_sem]) rfl ⟨rfl,((Below.refl _ w).alloc (Nat.le_refl _) _)⟩
   ·rw [dec_s2_bad hk.symm (by omega) hp hj.symm (.inl hin),(op_false _ _).1,(op_false _ _).2.1,(op_false _ _).2.2]
    have hIn:inF ((k:Int)+1+(j:Int)-(k:Int)-1) 1 6=false:=by rw [Bool.eq_false_iff];simp only [inF,ne_eq,Bool.and_eq_true,decide_eq_true_eq];omega
    have HX:Hid True:=trivial;have HK:=Lib.hid hk;have HJ:=Lib.hid hj;have HI:=Lib.hid hIn
    have h0b:((k:Int)==0)=false:=by rw [beq_eq_false_iff_ne];omega
    have he1:(k:Int)+1+(j:Int)≤s.size:=by omega
    clear hp hIn hk hj hl h0 hin
    go_enter Tryz.func191,Tryz.ntmps191
    go_wp2_with fail
    refine (digits_first s k _ hs HK.out.symm).mono ?_
    rintro e w' ⟨rfl,rfl⟩
    generalize valD (s.data.toList.take k)=v1 at hv1 HX⊢
    go_wp2_with fail
    refine (digits_next s k j _ hs hkl HJ.out.symm).mono ?_
    rintro e w' ⟨rfl,rfl⟩
    generalize valD ((s.data.toList.drop (k+1)).take j)=v2 at hv2 HX⊢
    go_wp2_with fail
    refine (l1In_f _ _ _ _).mono ?_
    rintro e w' ⟨rfl,rfl⟩
    rw [HI.out]
    go_wp2
    exact bodyPost_ret (v:= .tuple #[.agg #[.int .i64 0, .int .i64 0], .bool false]) (by simp [results,Tryz.results191,go_sem]) rfl ⟨rfl,((Below.refl _ w).alloc (Nat.le_refl _) _)⟩
  ·by_cases he:k=s.size
   ·obtain ⟨d1,d2,d3⟩:=dec_s3_good hk.symm (by omega) (by omega)
    obtain ⟨m1,m2,m3⟩:=mk_scale ((valD (s.data.toList.take k):Nat):Int) 1 10 (by omega) (by omega)
    rw [d1,(op_true _ _).1,(op_true _ _).2.1,(op_true _ _).2.2,d2,d3,m1,m2,m3]
    have heb:((k:Int) !=(s.size:Int))=false:=by rw [bne_eq_false_iff_eq];omega
    have hlb:decide (k<s.size)=false:=by simp;omega
    have HX:Hid True:=trivial;have HK:=Lib.hid hk
    have h0b:((k:Int)==0)=false:=by rw [beq_eq_false_iff_ne];omega
    clear hp hk hl h0 he d1 d2 d3 m1 m2 m3
    go_enter Tryz.func191,Tryz.ntmps191
    go_wp2_with fail
    refine (digits_first s k _ hs HK.out.symm).mono ?_
    rintro e w' ⟨rfl,rfl⟩
    go_wp2_with fail
    refine (make_spec ((valD (s.data.toList.take k):Nat):Int) 1 _ (by omega) (by omega) (by omega)).mono ?_
    rintro e w2 ⟨rfl,hb2⟩
    have q0:w2.cell? ⟨w.heap.size,0,none⟩=some (.int .i64 0):=by rw [hb2.cell (by simp)];simp [go_sem]
    have q1:w2.cell? ⟨w.heap.size,1,none⟩=some (.int .i64 0):=by rw [hb2.cell (by simp)];simp [go_sem]
    have q2:w2.frozen? ⟨w.heap.size,0,none⟩=false:=by rw [hb2.frozen (by simp)];simp [go_sem]
    have q3:w2.frozen? ⟨w.heap.size,1,none⟩=false:=by rw [hb2.frozen (by simp)];simp [go_sem]
    have HB2:=Lib.hid (((Below.refl _ w).alloc (Nat.le_refl _) _).trans (hb2.mono (by simp)));clear hb2
    go_wp2
    exact bodyPost_ret (v:= .tuple #[.agg #[.int .i64 (mkT ((valD (s.data.toList.take k):Nat):Int) 1), .int .i64 (mkB ((valD (s.data.toList.take k):Nat):Int) 1)], .bool (mkOK ((valD (s.data.toList.take k):Nat):Int) 1)]) (by simp [results,Tryz.results191,go_sem,q0,q1]) rfl ⟨rfl,(HB2.out.setCell (Nat.le_refl _) _).setCell (Nat.le_refl _) _⟩
   ·rw [dec_s3_bad hk.symm hp (by omega),(op_false _ _).1,(op_false _ _).2.1,(op_false _ _).2.2]
    have hkl:k<s.size:=by omega
    have hbyte:((s[k].toNat:Int)==46)=false:=by
     rw [beq_eq_false_iff_ne];intro hq
     apply hp;rw [list_at s k hkl]
     have:s[k].toNat=(46:UInt8).toNat:=by simp;omega
     rw [UInt8.toNat_inj.mp this]
    have heb:((k:Int) !=(s.size:Int))=true:=by rw [bne_iff_ne];omega
    have HX:Hid True:=trivial;have HK:=Lib.hid hk
    have h0b:((k:Int)==0)=false:=by rw [beq_eq_false_iff_ne];omega
    clear hp hk hl h0 he
    go_enter Tryz.func191,Tryz.ntmps191
    go_wp2_with fail
    refine (digits_first s k _ hs HK.out.symm).mono ?_
    rintro e w' ⟨rfl,rfl⟩
    generalize valD (s.data.toList.take k)=v1 at hv1 HX⊢
    go_wp2
    exact bodyPost_ret (v:= .tuple #[.agg #[.int .i64 0, .int .i64 0], .bool false]) (by simp [results,Tryz.results191,go_sem]) rfl ⟨rfl,((Below.refl _ w).alloc (Nat.le_refl _) _)⟩
theorem convOne1 (w:World) (C:Int):(convert 22 9 (.slice (some ⟨w.heap.size,0,none⟩) 1 1)).run Tryz.prog (w.alloc (.cells #[.int .u8 C] 5))= .ok (.string ⟨#[UInt8.ofNat C.toNat]⟩) (w.alloc (.cells #[.int .u8 C] 5)):=by
 rw [run_convert_bytes_arg (P:=Tryz.prog) (w.alloc (.cells #[.int .u8 C] 5)) 22 5 Tryz.underlying22 Tryz.underlying5 w.heap.size 0 1 1 [C] rfl ?_ 9 Tryz.underlying9]
 ·rfl
 ·intro i hi
  obtain rfl:i=0:=by omega
  simp only [World.cell?,Nat.add_zero,heap_alloc_new];rfl
theorem dgt_add (q:Nat):48+UInt8.ofNat q=dgt q:=by unfold dgt;rw [UInt8.ofNat_add];rfl
theorem l2Number_any (n:Nat) (w:World) (hn:n≤1000000000000):
  Calls Tryz.prog 216 #[.int .i64 (n:Int)] w fun e w'=>e= .returned (.string (numS n))∧Below w.heap.size w w':=by
 have kc:=convOne1
 have hln:=dec_len n (by omega)
 go_enter Tryz.func216,Tryz.ntmps216
 go_wp2
 go_loopw [0,3] (fun a o wr=> ∃(v:Nat) (acc:List UInt8),a= .int .i64 (v:Int)∧o= .string ⟨acc.toArray⟩∧v≤n∧acc.length≤21∧(if 9<v then Lib.decDigits (v/10) else [])++acc=Lib.decDigits n∧Below w.heap.size w wr) (fun a _ _=>(intOf a).toNat)
 case atStart=>
  refine ⟨n,[dgt (n % 10)],rfl,congrArg Value.string (by first|rfl|(rw [←dgt_add];rfl)|simp [dgt]),Nat.le_refl _,by simp, ?_,(Below.refl _ _).alloc (Nat.le_refl _) _⟩
  by_cases h:n<10
  ·rw [if_neg (by omega),dec_small h,Nat.mod_eq_of_lt h];rfl
  ·rw [if_pos (by omega),dec_big h]
 case round=>
  obtain ⟨v,acc,rfl,rfl,hv,hacc,hd,hb⟩:=hrel
  have HD:=Lib.hid hd;have HB:=Lib.hid hb;clear hd hb
  by_cases h9:9<v
  ·have hlen:acc.length<21:=by
    have:=congrArg List.length HD.out
    rw [if_pos h9,List.length_append] at this
    have h1:0<(Lib.decDigits (v/10)).length:=List.length_pos_iff.mpr (dec_ne _)
    omega
   have hsz:({data:=acc.toArray}:ByteArray).size=acc.length:=by show acc.toArray.size=_;simp
   have hsz1:({data:=acc.toArray}:ByteArray).size≤21:=by omega
   clear hsz
   go_wp2
   go_roundw
   case rel=>
    refine ⟨v/10,dgt (v/10 % 10)::acc,by go_num, ?_,by omega,by simp only [List.length_cons];omega, ?_,HB.out.alloc HB.out.size _⟩
    ·refine congrArg Value.string ?_
     rw [←dgt_add]
     apply ByteArray.ext;simp
    ·rw [←HD.out,if_pos h9]
     by_cases h:v/10<10
     ·rw [if_neg (by omega),dec_small h,Nat.mod_eq_of_lt h];rfl
     ·rw [if_pos (by omega),dec_big h];simp
   case measure=>simp [intOf];omega
  ·go_wp2
   go_ret
   refine ⟨?_,HB.out⟩
   have:=HD.out
   rw [if_neg h9,List.nil_append] at this
   rw [numS,←this]
   rfl
def strZ:Value→Nat
 | .string s=>s.size
 |_=>0
def sgn (t:Int):List UInt8:=if t<0 then [45] else []
def absN (t:Int):Nat:=t.natAbs
theorem fracT_abs (t:Int) (b:Nat):fracT t (b:Int)=sgn t++posText (absN t) b:=by
 unfold fracT sgn absN
 by_cases h:t<0
 ·rw [if_pos h,if_pos h,show (-t).toNat=t.natAbs by omega];rfl
 ·rw [if_neg h,if_neg h,show t.toNat=t.natAbs by omega];rfl
theorem sgn_len (t:Int):(sgn t).length≤1:=by unfold sgn;split<;>simp
theorem rest_zero {b m r f y:Nat} (hm:0<m) (hy:y<10^f) (h:r*m=y*10^(6-f)) (hf:f=0):r=0:=by
 subst hf
 have:y=0:=by simpa using hy
 subst this
 rw [Nat.zero_mul] at h
 rcases Nat.mul_eq_zero.mp h with h|h
 ·exact h
 ·omega
theorem rest_next {b m r f y:Nat} (hbm:b*m=1000000) (hf:f+1≤6) (hy:y<10^(f+1)) (h:r*m=y*10^(6-(f+1))):(10*r % b)*m=(y % 10^f)*10^(6-f):=by
 have hE:10^(6-f)=10*10^(6-(f+1)):=by rw [show 6-f=(6-(f+1))+1 by omega,Nat.pow_succ,Nat.mul_comm]
 have hE2:10^f*10^(6-f)=1000000:=by rw [←Nat.pow_add,show f+(6-f)=6 by omega]
 have h10:10*r*m=y*10^(6-f):=by rw [hE,Nat.mul_assoc,h,←Nat.mul_assoc,←Nat.mul_assoc,Nat.mul_comm 10 y]
 rw [←Nat.mul_mod_mul_right,h10,hbm,←hE2,Nat.mul_mod_mul_right]
theorem num_digit {q:Nat} (h:q<10):numS q=⟨#[dgt q]⟩:=by unfold numS;rw [dec_small h]
theorem S_app (acc l:List UInt8):(⟨acc.toArray⟩++⟨l.toArray⟩:ByteArray)=⟨(acc++l).toArray⟩:=by apply strL;simp
theorem S_size (acc:List UInt8):(⟨acc.toArray⟩:ByteArray).size=acc.length:=by show acc.toArray.size=_;simp
theorem ret_strT {a b:ByteArray} (h:a=b):Ending.returned (.string a)= .returned (.string b):=by rw [h]
theorem frs_zero (f b:Nat):frs f 0 b=[]:=by cases f<;>simp [frs]
theorem frs_step {f r b:Nat} (h:r≠0):frs (f+1) r b=dgt (10*r/b)::frs f (10*r % b) b:=by rw [frs,if_neg h]
theorem fractionText_nat (t b:Nat) (w:World) (hv:vB (t:Int) (b:Int)=true):
 Calls Tryz.prog 193 #[.agg #[.int .i64 (t:Int), .int .i64 (b:Int)]] w fun e w'=>e= .returned (.string ⟨([]++posText t b).toArray⟩)∧Below w.heap.size w w':=by
 obtain ⟨v1,v2,v3,v4⟩:=vB_bd hv
 have HV:=Lib.hid hv;clear hv
 have f0:decide ((t:Int)<0)=false:=decide_eq_false (by omega)
 have e0:((b:Int)==0)=false:=beq_eq_false_iff_ne.mpr (by omega)
 have e6:(1000000:Int).tmod (b:Int)=((1000000 % b:Nat):Int):=tm 1000000 b
 have z1:=numS_size t (by omega)
 have z2:=numS_size b (by omega)
 by_cases hd:1000000 % b=0
 ·have e7:(((1000000 % b:Nat):Int) !=0)=false:=by rw [hd];rfl
  have HDT:=Lib.hid (show []++posText t b=[]++(Lib.decDigits (t/b)++(if t % b=0 then [] else 46::frs 6 (t % b) b)) by rw [posText,if_pos hd,decText])
  have hbm:b*(1000000/b)=1000000:=by have:=Nat.div_add_mod 1000000 b;omega
  have hmp:0<1000000/b:=by rcases Nat.eq_zero_or_pos (1000000/b) with h|h;(rw [h] at hbm;omega);exact h
  have HBM:=Lib.hid hbm
  have e1:=td t b
  have e2:=tm t b
  have q1:t/b≤1000000000:=Nat.le_trans (Nat.div_le_self _ _) (by omega)
  have hrb:t % b<b:=Nat.mod_lt _ (by omega)
  have hx6:t % b*(1000000/b)<10^6:=by
   have h1:(t % b+1)*(1000000/b)≤b*(1000000/b):=Nat.mul_le_mul_right _ (by omega)
   rw [Nat.add_mul,Nat.one_mul] at h1
   omega
  have HX6:=Lib.hid hx6
  clear hx6 hbm
  generalize 1000000 % b=u at*
  generalize t/b=Q at*
  generalize t % b=r at*
  generalize 1000000/b=m at*
  clear hd
  have z3:=numS_size Q (by omega)
  have l3:=dec_len Q (by omega)
  have start: ∀(acc:List UInt8) (wr:World) (o:ByteArray),acc++frs 6 r b=[]++posText t b→acc.length≤30→o.data.toList=acc→FrAt wr w.heap.size (t:Int) (b:Int)→Below w.heap.size w wr→
   ∃(f r' y:Nat) (ac:List UInt8),f≤6∧Value.string o= .string ⟨ac.toArray⟩∧Value.int .i64 (r:Int)= .int .i64 (r':Int)∧r'<b∧ac++frs f r' b=[]++posText t b∧ac.length+f≤40∧y<10^f∧r'*m=y*10^(6-f)∧FrAt wr w.heap.size (t:Int) (b:Int)∧Below w.heap.size w wr:=by
   intro acc wr o h1 h2 h3 h4 h5
   exact ⟨6,r,r*m,acc,Nat.le_refl _,congrArg Value.string (strL h3),rfl,hrb,h1,by omega,HX6.out,by simp,h4,h5⟩
  have ST:=Lib.hid start;clear start
  by_cases hr:r=0
  case' pos=>
   have g0:decide (0<r)=false:=decide_eq_false (by omega)
   have g1:decide ((0:Int)<(r:Int))=false:=decide_eq_false (by omega)
   rw [if_pos hr,List.append_nil] at HDT
   have HST:=Lib.hid (show ([]++Lib.decDigits Q)++frs 6 r b=[]++posText t b by rw [HDT.out,hr,frs_zero,List.append_nil])
   clear hr
  case' neg=>
   have g0:decide (0<r)=true:=decide_eq_true (by omega)
   have g1:decide ((0:Int)<(r:Int))=true:=decide_eq_true (by omega)
   rw [if_neg hr] at HDT
   have HST:=Lib.hid (show ([]++Lib.decDigits Q++[46])++frs 6 r b=[]++posText t b by rw [HDT.out];simp)
   clear hr
  all_goals
   go_enter Tryz.func193,Tryz.ntmps193
   go_wp2_with fail
   refine (valid_spec (t:Int) (b:Int) _).mono ?_
   rintro e w1 ⟨rfl,hb1'⟩
   rw [HV.out]
   have F1:Hid (FrAt w1 w.heap.size (t:Int) (b:Int)):=FrAt.keep (FrAt.new _ _ _ _) hb1'
   obtain ⟨d0,d1⟩:=F1.out
   have hw1:w.heap.size<w1.heap.size:=F1.out.lt
   have HB1:=Lib.hid (((Below.refl _ w).alloc (Nat.le_refl _) _).trans (hb1'.mono (by simp)));clear hb1'
   go_wp2_with fail
   refine (l2Number_any Q _ (by omega)).mono ?_
   rintro e w2 ⟨rfl,hb2⟩
   have F2:Hid (FrAt w2 w.heap.size (t:Int) (b:Int)):=F1.out.keep hb2
   obtain ⟨k0,k1⟩:=F2.out
   have HB2:=Lib.hid (HB1.out.trans (hb2.mono HB1.out.size));clear hb2 d0 d1
   go_wp2_with fail
   go_loopw [3,5] (fun o i wr=> ∃(f r' y:Nat) (ac:List UInt8),f≤6∧o= .string ⟨ac.toArray⟩∧i= .int .i64 (r':Int)∧r'<b∧ac++frs f r' b=[]++posText t b∧ac.length+f≤40∧y<10^f∧r'*m=y*10^(6-f)∧FrAt wr w.heap.size (t:Int) (b:Int)∧Below w.heap.size w wr) (fun o _ _=>200-strZ o)
   case atStart=>exact ST.out _ _ _ HST.out (by simp;omega) (by simp [numS]) F2.out HB2.out
   case round=>
    obtain ⟨f,r',y,ac,hf,rfl,rfl,hrb',hac,hlen,hy,hry,hfr,hbel⟩:=hrel
    have HAC:=Lib.hid hac;have HY:=Lib.hid hry;have HFR:=Lib.hid hfr;have HBL:=Lib.hid hbel;have HYY:=Lib.hid hy
    clear hac hry hbel hy
    obtain ⟨c0,c1⟩:=hfr
    have hsz:(⟨ac.toArray⟩:ByteArray).size≤40:=by rw [S_size];omega
    have HSZ:=Lib.hid (S_size ac)
    by_cases hr0:r'=0
    ·subst hr0
     have HE:=Lib.hid (show ac=[]++posText t b by rw [←HAC.out,frs_zero,List.append_nil])
     go_wp2
     go_ret
     exact ⟨ret_strT (by rw [HE.out];rfl),HBL.out⟩
    ·have hf0:f≠0:=fun h=>hr0 (rest_zero (b:=b) hmp HYY.out HY.out h)
     obtain ⟨f',rfl⟩: ∃f',f=f'+1:=⟨f-1,by omega⟩
     have HN:=Lib.hid (rest_next HBM.out (by omega) HYY.out HY.out)
     have HS:=Lib.hid (frs_step (f:=f') (b:=b) hr0)
     have hq10:10*r'/b<10:=by rw [Nat.div_lt_iff_lt_mul (by omega)];omega
     have hm10:10*r' % b<b:=Nat.mod_lt _ (by omega)
     have e4:((10:Int)*(r':Int)).tdiv (b:Int)=((10*r'/b:Nat):Int):=by rw [show (10:Int)*(r':Int)=((10*r':Nat):Int) by omega];exact td _ _
     have e5:((10:Int)*(r':Int)).tmod (b:Int)=((10*r' % b:Nat):Int):=by rw [show (10:Int)*(r':Int)=((10*r':Nat):Int) by omega];exact tm _ _
     generalize hqq:10*r'/b=q at*
     generalize hmm:10*r' % b=r2 at*
     clear hqq hmm
     have HQ:=Lib.hid (num_digit hq10)
     have hqs:(numS q).size≤21:=numS_size q (by omega)
     go_wp2_with fail
     refine (l2Number_any q _ (by omega)).mono ?_
     rintro e w3 ⟨rfl,hb3⟩
     have F3:Hid (FrAt w3 w.heap.size (t:Int) (b:Int)):=HFR.out.keep hb3
     obtain ⟨k2,k3⟩:=F3.out
     have HB3:=Lib.hid (HBL.out.trans (hb3.mono HBL.out.size));clear hb3 c0 c1
     go_wp2
     go_roundw
     case rel=>
      refine ⟨f',r2,y % 10^f',ac++[dgt q],by omega,congrArg Value.string ?_,rfl,hm10, ?_,by simp;omega,Nat.mod_lt _ (Nat.pow_pos (by omega)),HN.out,F3.out,HB3.out⟩
      ·rw [HQ.out];apply strL;simp
      ·rw [←HAC.out,HS.out];simp
     case measure=>
      show 200-(⟨ac.toArray⟩++numS q:ByteArray).size<200-(⟨ac.toArray⟩:ByteArray).size
      rw [HQ.out,ByteArray.size_append,HSZ.out]
      show 200-(ac.length+1)<200-ac.length
      omega
 ·have e7:(((1000000 % b:Nat):Int) !=0)=true:=bne_iff_ne.mpr (by omega)
  have HP:=Lib.hid (show (⟨#[]⟩++numS t++⟨#[47]⟩++numS b:ByteArray)=⟨([]++posText t b).toArray⟩ by
   rw [posText,if_neg hd];apply strL;simp [numS])
  generalize 1000000 % b=u at*
  clear hd
  have r1: ¬9223372036854775807<(numS t).size:=by omega
  have r2: ¬9223372036854775807<(numS t).size+1:=by omega
  have r3: ¬9223372036854775807<(numS t).size+1+(numS b).size:=by omega
  go_enter Tryz.func193,Tryz.ntmps193
  go_wp2_with fail
  refine (valid_spec (t:Int) (b:Int) _).mono ?_
  rintro e w1 ⟨rfl,hb1'⟩
  rw [HV.out]
  have F1:Hid (FrAt w1 w.heap.size (t:Int) (b:Int)):=FrAt.keep (FrAt.new _ _ _ _) hb1'
  obtain ⟨d0,d1⟩:=F1.out
  have hw1:w.heap.size<w1.heap.size:=F1.out.lt
  have HB1:=Lib.hid (((Below.refl _ w).alloc (Nat.le_refl _) _).trans (hb1'.mono (by simp)));clear hb1'
  go_wp2_with fail
  go_region_held3 (fun w'=>w'.cell? ⟨w.heap.size,1,none⟩=some (.int .i64 (b:Int)))
   (first
     |go_keep
     |(first|(rw [hb3.cell (by show w.heap.size<_;have:=hb2.size;simp at this;omega)];assumption)|(rw [hb2.cell (by exact hw1)];assumption)))
   (first
     |((go_at_call 216;(with_reducible refine (l2Number_any t _ (by omega)).mono ?_);rintro e w2 ⟨rfl,hb2⟩))
     |((go_at_call 216;(with_reducible refine (l2Number_any b _ (by omega)).mono ?_);rintro e w3 ⟨rfl,hb3⟩)))
  have HB3:=Lib.hid (HB1.out.drew.trans ((hb2.mono HB1.out.size).trans (hb3.mono (by have:=HB1.out.size;have:=hb2.size;simp at this;omega))))
  clear hb2 hb3
  go_wp2
  go_ret
  exact ⟨ret_strT (HP.out.trans rfl),HB3.out⟩
theorem fractionText_neg (t b:Nat) (w:World) (hn:1≤t) (hv:vB (-(t:Int)) (b:Int)=true):
 Calls Tryz.prog 193 #[.agg #[.int .i64 (-(t:Int)), .int .i64 (b:Int)]] w fun e w'=>e= .returned (.string ⟨([45]++posText t b).toArray⟩)∧Below w.heap.size w w':=by
 obtain ⟨v1,v2,v3,v4⟩:=vB_bd hv
 have HV:=Lib.hid hv;clear hv
 have f0:decide (-(t:Int)<0)=true:=decide_eq_true (by omega)
 have f1: -(t:Int)<0:=by omega
 have f2: - -(t:Int)=(t:Int):=by omega
 have e0:((b:Int)==0)=false:=beq_eq_false_iff_ne.mpr (by omega)
 have e6:(1000000:Int).tmod (b:Int)=((1000000 % b:Nat):Int):=tm 1000000 b
 have z1:=numS_size t (by omega)
 have z2:=numS_size b (by omega)
 by_cases hd:1000000 % b=0
 ·have e7:(((1000000 % b:Nat):Int) !=0)=false:=by rw [hd];rfl
  have HDT:=Lib.hid (show [45]++posText t b=[45]++(Lib.decDigits (t/b)++(if t % b=0 then [] else 46::frs 6 (t % b) b)) by rw [posText,if_pos hd,decText])
  have hbm:b*(1000000/b)=1000000:=by have:=Nat.div_add_mod 1000000 b;omega
  have hmp:0<1000000/b:=by rcases Nat.eq_zero_or_pos (1000000/b) with h|h;(rw [h] at hbm;omega);exact h
  have HBM:=Lib.hid hbm
  have e1:=td t b
  have e2:=tm t b
  have q1:t/b≤1000000000:=Nat.le_trans (Nat.div_le_self _ _) (by omega)
  have hrb:t % b<b:=Nat.mod_lt _ (by omega)
  have hx6:t % b*(1000000/b)<10^6:=by
   have h1:(t % b+1)*(1000000/b)≤b*(1000000/b):=Nat.mul_le_mul_right _ (by omega)
   rw [Nat.add_mul,Nat.one_mul] at h1
   omega
  have HX6:=Lib.hid hx6
  clear hx6 hbm
  generalize 1000000 % b=u at*
  generalize t/b=Q at*
  generalize t % b=r at*
  generalize 1000000/b=m at*
  clear hd
  have z3:=numS_size Q (by omega)
  have l3:=dec_len Q (by omega)
  have start: ∀(acc:List UInt8) (wr:World) (o:ByteArray),acc++frs 6 r b=[45]++posText t b→acc.length≤30→o.data.toList=acc→FrAt wr w.heap.size (-(t:Int)) (b:Int)→Below w.heap.size w wr→
   ∃(f r' y:Nat) (ac:List UInt8),f≤6∧Value.string o= .string ⟨ac.toArray⟩∧Value.int .i64 (r:Int)= .int .i64 (r':Int)∧r'<b∧ac++frs f r' b=[45]++posText t b∧ac.length+f≤40∧y<10^f∧r'*m=y*10^(6-f)∧FrAt wr w.heap.size (-(t:Int)) (b:Int)∧Below w.heap.size w wr:=by
   intro acc wr o h1 h2 h3 h4 h5
   exact ⟨6,r,r*m,acc,Nat.le_refl _,congrArg Value.string (strL h3),rfl,hrb,h1,by omega,HX6.out,by simp,h4,h5⟩
  have ST:=Lib.hid start;clear start
  by_cases hr:r=0
  case' pos=>
   have g0:decide (0<r)=false:=decide_eq_false (by omega)
   have g1:decide ((0:Int)<(r:Int))=false:=decide_eq_false (by omega)
   rw [if_pos hr,List.append_nil] at HDT
   have HST:=Lib.hid (show ([45]++Lib.decDigits Q)++frs 6 r b=[45]++posText t b by rw [HDT.out,hr,frs_zero,List.append_nil])
   clear hr
  case' neg=>
   have g0:decide (0<r)=true:=decide_eq_true (by omega)
   have g1:decide ((0:Int)<(r:Int))=true:=decide_eq_true (by omega)
   rw [if_neg hr] at HDT
   have HST:=Lib.hid (show ([45]++Lib.decDigits Q++[46])++frs 6 r b=[45]++posText t b by rw [HDT.out];simp)
   clear hr
  all_goals
   go_enter Tryz.func193,Tryz.ntmps193
   go_wp2_with fail
   refine (valid_spec (-(t:Int)) (b:Int) _).mono ?_
   rintro e w1 ⟨rfl,hb1'⟩
   rw [HV.out]
   have F1:Hid (FrAt w1 w.heap.size (-(t:Int)) (b:Int)):=FrAt.keep (FrAt.new _ _ _ _) hb1'
   obtain ⟨d0,d1⟩:=F1.out
   have hw1:w.heap.size<w1.heap.size:=F1.out.lt
   have HB1:=Lib.hid (((Below.refl _ w).alloc (Nat.le_refl _) _).trans (hb1'.mono (by simp)));clear hb1'
   go_wp2_with fail
   refine (l2Number_any Q _ (by omega)).mono ?_
   rintro e w2 ⟨rfl,hb2⟩
   have F2:Hid (FrAt w2 w.heap.size (-(t:Int)) (b:Int)):=F1.out.keep hb2
   obtain ⟨k0,k1⟩:=F2.out
   have HB2:=Lib.hid (HB1.out.trans (hb2.mono HB1.out.size));clear hb2 d0 d1
   go_wp2_with fail
   go_loopw [3,5] (fun o i wr=> ∃(f r' y:Nat) (ac:List UInt8),f≤6∧o= .string ⟨ac.toArray⟩∧i= .int .i64 (r':Int)∧r'<b∧ac++frs f r' b=[45]++posText t b∧ac.length+f≤40∧y<10^f∧r'*m=y*10^(6-f)∧FrAt wr w.heap.size (-(t:Int)) (b:Int)∧Below w.heap.size w wr) (fun o _ _=>200-strZ o)
   case atStart=>exact ST.out _ _ _ HST.out (by simp;omega) (by simp [numS]) F2.out HB2.out
   case round=>
    obtain ⟨f,r',y,ac,hf,rfl,rfl,hrb',hac,hlen,hy,hry,hfr,hbel⟩:=hrel
    have HAC:=Lib.hid hac;have HY:=Lib.hid hry;have HFR:=Lib.hid hfr;have HBL:=Lib.hid hbel;have HYY:=Lib.hid hy
    clear hac hry hbel hy
    obtain ⟨c0,c1⟩:=hfr
    have hsz:(⟨ac.toArray⟩:ByteArray).size≤40:=by rw [S_size];omega
    have HSZ:=Lib.hid (S_size ac)
    by_cases hr0:r'=0
    ·subst hr0
     have HE:=Lib.hid (show ac=[45]++posText t b by rw [←HAC.out,frs_zero,List.append_nil])
     go_wp2
     go_ret
     exact ⟨ret_strT (by rw [HE.out];rfl),HBL.out⟩
    ·have hf0:f≠0:=fun h=>hr0 (rest_zero (b:=b) hmp HYY.out HY.out h)
     obtain ⟨f',rfl⟩: ∃f',f=f'+1:=⟨f-1,by omega⟩
     have HN:=Lib.hid (rest_next HBM.out (by omega) HYY.out HY.out)
     have HS:=Lib.hid (frs_step (f:=f') (b:=b) hr0)
     have hq10:10*r'/b<10:=by rw [Nat.div_lt_iff_lt_mul (by omega)];omega
     have hm10:10*r' % b<b:=Nat.mod_lt _ (by omega)
     have e4:((10:Int)*(r':Int)).tdiv (b:Int)=((10*r'/b:Nat):Int):=by rw [show (10:Int)*(r':Int)=((10*r':Nat):Int) by omega];exact td _ _
     have e5:((10:Int)*(r':Int)).tmod (b:Int)=((10*r' % b:Nat):Int):=by rw [show (10:Int)*(r':Int)=((10*r':Nat):Int) by omega];exact tm _ _
     generalize hqq:10*r'/b=q at*
     generalize hmm:10*r' % b=r2 at*
     clear hqq hmm
     have HQ:=Lib.hid (num_digit hq10)
     have hqs:(numS q).size≤21:=numS_size q (by omega)
     go_wp2_with fail
     refine (l2Number_any q _ (by omega)).mono ?_
     rintro e w3 ⟨rfl,hb3⟩
     have F3:Hid (FrAt w3 w.heap.size (-(t:Int)) (b:Int)):=HFR.out.keep hb3
     obtain ⟨k2,k3⟩:=F3.out
     have HB3:=Lib.hid (HBL.out.trans (hb3.mono HBL.out.size));clear hb3 c0 c1
     go_wp2
     go_roundw
     case rel=>
      refine ⟨f',r2,y % 10^f',ac++[dgt q],by omega,congrArg Value.string ?_,rfl,hm10, ?_,by simp;omega,Nat.mod_lt _ (Nat.pow_pos (by omega)),HN.out,F3.out,HB3.out⟩
      ·rw [HQ.out];apply strL;simp
      ·rw [←HAC.out,HS.out];simp
     case measure=>
      show 200-(⟨ac.toArray⟩++numS q:ByteArray).size<200-(⟨ac.toArray⟩:ByteArray).size
      rw [HQ.out,ByteArray.size_append,HSZ.out]
      show 200-(ac.length+1)<200-ac.length
      omega
 ·have e7:(((1000000 % b:Nat):Int) !=0)=true:=bne_iff_ne.mpr (by omega)
  have HP:=Lib.hid (show (⟨#[45]⟩++numS t++⟨#[47]⟩++numS b:ByteArray)=⟨([45]++posText t b).toArray⟩ by
   rw [posText,if_neg hd];apply strL;simp [numS])
  generalize 1000000 % b=u at*
  clear hd
  have r1: ¬9223372036854775807<1+(numS t).size:=by omega
  have r2: ¬9223372036854775807<1+(numS t).size+1:=by omega
  have r3: ¬9223372036854775807<1+(numS t).size+1+(numS b).size:=by omega
  go_enter Tryz.func193,Tryz.ntmps193
  go_wp2_with fail
  refine (valid_spec (-(t:Int)) (b:Int) _).mono ?_
  rintro e w1 ⟨rfl,hb1'⟩
  rw [HV.out]
  have F1:Hid (FrAt w1 w.heap.size (-(t:Int)) (b:Int)):=FrAt.keep (FrAt.new _ _ _ _) hb1'
  obtain ⟨d0,d1⟩:=F1.out
  have hw1:w.heap.size<w1.heap.size:=F1.out.lt
  have HB1:=Lib.hid (((Below.refl _ w).alloc (Nat.le_refl _) _).trans (hb1'.mono (by simp)));clear hb1'
  go_wp2_with fail
  go_region_held3 (fun w'=>w'.cell? ⟨w.heap.size,1,none⟩=some (.int .i64 (b:Int)))
   (first
     |go_keep
     |(first|(rw [hb3.cell (by show w.heap.size<_;have:=hb2.size;simp at this;omega)];assumption)|(rw [hb2.cell (by exact hw1)];assumption)))
   (first
     |((go_at_call 216;(with_reducible refine (l2Number_any t _ (by omega)).mono ?_);rintro e w2 ⟨rfl,hb2⟩))
     |((go_at_call 216;(with_reducible refine (l2Number_any b _ (by omega)).mono ?_);rintro e w3 ⟨rfl,hb3⟩)))
  have HB3:=Lib.hid (HB1.out.drew.trans ((hb2.mono HB1.out.size).trans (hb3.mono (by have:=HB1.out.size;have:=hb2.size;simp at this;omega))))
  clear hb2 hb3
  go_wp2
  go_ret
  exact ⟨ret_strT (HP.out.trans rfl),HB3.out⟩
theorem fractionText_spec (t b:Int) (w:World):
  Calls Tryz.prog 193 #[.agg #[.int .i64 t, .int .i64 b]] w fun e w'=>e= .returned (.string ⟨(textF t b).toArray⟩)∧Below w.heap.size w w':=by
 cases hv:vB t b with
 |true=>
  obtain ⟨v1,v2,v3,v4⟩:=vB_bd hv
  obtain ⟨b',rfl⟩:=Int.eq_ofNat_of_zero_le (show 0≤b by omega)
  rw [textF,if_pos hv,fracT]
  by_cases hn:t<0
  ·obtain ⟨t',ht'⟩:=Int.eq_ofNat_of_zero_le (show 0≤ -t by omega)
   obtain rfl:t= -(t':Int):=by omega
   rw [if_pos hn,show (- -(t':Int)).toNat=t' by omega]
   exact fractionText_neg t' b' w (by omega) hv
  ·obtain ⟨t',rfl⟩:=Int.eq_ofNat_of_zero_le (show 0≤t by omega)
   rw [if_neg hn]
   exact fractionText_nat t' b' w hv
 |false=>
  have HV:=Lib.hid hv
  have HT:=Lib.hid (show textF t b=[] by rw [textF,hv];rfl)
  clear hv
  go_enter Tryz.func193,Tryz.ntmps193
  go_wp2_with fail
  refine (valid_spec t b _).mono ?_
  rintro e w1 ⟨rfl,hb1⟩
  rw [HV.out]
  have HB1:=Lib.hid (((Below.refl _ w).alloc (Nat.le_refl _) _).trans (hb1.mono (by simp)));clear hb1
  go_wp2
  go_ret
  exact ⟨by rw [HT.out];rfl,HB1.out⟩
end Go.Proofs.YtegdjjjpoahamaaGreatDoor
