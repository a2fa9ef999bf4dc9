/-
  Part of the proof of FnReadItem.
-/
import Derived.Test.YthijkjnngfnfdaaGreatDoorQRat
import Derived.Test.YthijkjnngfnfdaaGreatDoorQRao
import Derived.Deep.AppendLies
import Derived.Deep.RegionHeld3
import Derived.Deep.Draws
import Derived.RegionTactic
import Derived.Deep.RegionLaw
import Derived.Deep.DrawnRows
set_option linter.unusedVariables false
set_option maxHeartbeats 8000000
set_option maxRecDepth 100000
namespace Go.Proofs.YthijkjnngfnfdaaGreatDoor
open Go.RowKit
theorem wQ (l:List UInt8) (hl:l.length≤1048576):(cV rdS l).2.1.size≤1048576∧dQ (cV rdS l).2.2.1∧(cV rdS l).2.2.1.length≤1048576∧(cV rdS l).2.2.2.size≤1048576:=by
 have h1:(nmP l).length≤l.length:=by
  have:=congrArg List.length (iU l);rw [List.length_take] at this;omega
 have h2:=mP l;have h3:=b6 (nmQ l);have e0:(⟨#[]⟩:ByteArray).size≤1048576:=air _;unfold cV
 split
 ·exact ⟨e0,bD,air _,e0⟩
 split
 ·exact ⟨e0,bD,air _,e0⟩
 split
 ·refine ⟨e0,bD,air _, ?_⟩
  show (baL (aD (l.drop 1))).size≤_
  rw [aN];have:=b6 (l.drop 1);rw [List.length_drop] at this;omega
 split
 ·exact ⟨by show (baL (nmP l)).size≤_;rw [aN];omega,bD,air _,e0⟩
 split
 ·have h4:=ol (baL (dS ((aD (nmQ l)).drop 1)))
  refine ⟨by show (baL (nmP l)).size≤_;rw [aN];omega,h4.1,Nat.le_trans h4.2 (by omega), ?_⟩
  show (baL (es ((aD (nmQ l)).drop 1))).size≤_
  rw [aN];have:=nl ((aD (nmQ l)).drop 1);rw [List.length_drop] at this;omega
 ·exact ⟨by show (baL (nmP l)).size≤_;rw [aN];omega,bD,air _,e0⟩
theorem jy {s:ByteArray} {i:It} (h:aC rdS s=some i) (hs:s.size≤1048576):i.2.1.size≤1048576∧dQ i.2.2.1∧i.2.2.1.length≤1048576∧i.2.2.2.size≤1048576:=by
 unfold aC at h
 split at h
 ·injection h with h
  rw [←h];refine wQ _ ?_;have h1:=b6 s.data.toList
  have h2:s.data.toList.length=s.size:=by rw [Array.length_toList];rfl
  omega
 ·cases h
theorem acQ {l:List UInt8} (h:l.length≤40):cV rdI l=cV rdS l:=by
 have e:rdS (baL (dS ((aD (nmQ l)).drop 1)))=rdI (baL (dS ((aD (nmQ l)).drop 1))):=agi (by
  have h1:=om ((aD (nmQ l)).drop 1);have h2:=b6 (nmQ l);have h3:=mP l;have h4:nbB (baL (dS ((aD (nmQ l)).drop 1)))≤(dS ((aD (nmQ l)).drop 1)).length:=List.countP_le_length;rw [List.length_drop] at h1
  omega)
 unfold cV;rw [e]
theorem nK {s:ByteArray} (h:s.size≤40):aC rdI s=aC rdS s:=by
 unfold aC
 rw [acQ (by
  have h1:=b6 s.data.toList
  have h2:s.data.toList.length=s.size:=by rw [Array.length_toList];rfl
  omega)]
theorem jA {i:It} (h:aM i=true) (D W:Nat):aC rdI (baL (bv i D W))=aC rdS (baL (bv i D W)):=by
 rw [iC (fun l hl=>iF hl) h D W (bK _),iC (fun l hl=>aeH hl) h D W (bK _)]
theorem nA (a:Option Addr) (len cap:Nat) (w:World) (h:CodeRow w a len cap):
  Calls Tryz.prog 17 #[.slice a len cap] w fun e w'=> ∃s:ByteArray,e= .returned (.string s)∧LnD s∧Below w.heap.size w w':=by
 go_enter Tryz.func17,Tryz.ntmps17
 go_wp2_with fail;refine (jD a len cap _ h).mono ?_;rintro e w1 ⟨rfl,hr1,hb1,hs1⟩;have HB:=aim hb1;have HS:=aim hs1;clear hb1 hs1;go_wp2_with fail;refine (pb w.heap.size 0 _ (by omega) hr1).mono ?_;rintro e w2 ⟨s,rfl,hs,hr2,hg2⟩;have HB2:=aim (HB.out.trans (iM hg2 (by have:=HS.out;omega) (ain _)));clear hg2 hr2 HB HS hr1;go_wp2;go_ret;exact ⟨s,rfl,hs,HB2.out⟩
theorem afh {R:ByteArray→List Cl} {s:ByteArray} {i:It} (h:aC R s=some i):i.2.1.size≤s.size:=by
 have key: ∀l:List UInt8,(cV R l).2.1.size≤l.length:=by
  intro l
  have h1:(nmP l).length≤l.length:=by
   have:=congrArg List.length (iU l);rw [List.length_take] at this;omega
  have e0:(⟨#[]⟩:ByteArray).size≤l.length:=air _
  have e1:(baL (nmP l)).size≤l.length:=by rw [aN];exact h1
  unfold cV
  repeat' split
  all_goals first|exact e0|exact e1
 unfold aC at h
 split at h
 ·injection h with h
  rw [←h];have h1:=key (aD s.data.toList);have h2:=b6 s.data.toList
  have h3:s.data.toList.length=s.size:=by rw [Array.length_toList];rfl
  omega
 ·cases h
theorem afi {i:It} (h:aM i=true):i.2.2.2.size≤60:=by
 have he: ∀t:ByteArray,emB t=true→t.size≤60:=fun t ht=>by rw [fX.mp ht];exact air _
 have hn: ∀t:ByteArray,eO t=true→t.size≤60:=fun t ht=>by
  unfold eO at ht;simp only [Bool.and_eq_true,decide_eq_true_eq] at ht;exact ht.2.1
 unfold aM at h
 repeat' split at h
 all_goals first
  |(simp only [Bool.and_eq_true] at h;first|exact he _ h.2.2|exact hn _ h.2.2)
  |cases h
theorem afj {s:ByteArray} (h:LnD s):aC rdI s=aC rdS s∧s.size≤13000∧ ∀i,aC rdI s=some i→i.2.1.size≤20∧i.2.2.2.size≤60∧aM i=true∧dQ i.2.2.1:=by
 have hag:aC rdI s=aC rdS s:=by
  rcases h with h|⟨i,D,hD,hf,hv,rfl⟩
  ·exact nK (by omega)
  ·exact jA hv D 0
 have hsz:s.size≤13000:=by
  rcases h with h|⟨i,D,hD,hf,-,rfl⟩
  ·omega
  ·rw [aN]
   have h1:=qp i D 0;have h2:=hf.1;have h3:=hf.2.2.2
   omega
 refine ⟨hag,hsz,fun i hi=> ?_⟩;have hv:=rX hi;refine ⟨?_,afi hv,hv,(jy (hag▸hi) (by omega)).2.1⟩
 rcases h with h|⟨j,D,hD,hf,hv',rfl⟩
 ·have:=afh hi;omega
 ·rw [iC (fun l hl=>iF hl) hv' D 0 (bK _)] at hi
  injection hi with hi
  have:=hf.1;rw [←hi];omega
theorem oL (a0:Option Addr) (len0 cap0:Nat) (w:World) (hrow:CodeRow w a0 len0 cap0) (htab:Tab w):
  Calls Tryz.prog 4 #[.slice a0 len0 cap0] w fun e w'=>e= .returned (.bool true)∧Below w.heap.size w w':=by
 have hcap:=hrow.1;have hmx:=hrow.2.1;unfold maxLen at hmx
 by_cases hl:len0≤1048576
 ·have HD:=aim (nA a0 len0 cap0 w hrow);have HT:=aim htab
  clear hrow htab
  go_enter Tryz.func4,Tryz.ntmps4
  go_wp2_with fail;refine HD.out.mono ?_;rintro e w1 ⟨s,rfl,hln,hb1⟩;have HB1:=aim hb1;obtain ⟨hag,hsz,hall⟩:=afj hln;have HALL:=aim hall;have HRI:=aim (fun (w':World) (ht:Tab w')=>(iB (B:=20000) (fun l hl=>kO hl) (show s.size≤20000 by omega))▸fp s w' (by omega) ht);have HRS:=aim (fun (w':World)=>hag.symm▸mc s w' (by omega))
  have hs1: ¬9223372036854775807<1+s.size:=by omega
  have hs2: ¬9223372036854775807<(⟨#[32]⟩++s:ByteArray).size+2:=by rw [ByteArray.size_append];show¬9223372036854775807<1+s.size+2;omega
  have HPD:=aim (fun (w':World) (ht:Tab w')=>show Calls Tryz.prog 15 #[.string (⟨#[32]⟩++s++⟨#[32,32]⟩)] w' (qt (aC rdI s) w') from by
   have hz:(⟨#[32]⟩++s++⟨#[32,32]⟩:ByteArray).size≤20000:=by
    rw [ByteArray.size_append,ByteArray.size_append]
    show 1+s.size+2≤20000;omega
   have:=fp (⟨#[32]⟩++s++⟨#[32,32]⟩) w' (by omega) ht;rw [iB (B:=20000) (fun l hl=>kO hl) hz,xV (s:=s) (a:=1) (b:=2) (by simp [spL,List.replicate])] at this
   exact this)
  generalize aC rdI s=o at HALL HRI HRS HPD;clear hb1 hln hag hall;go_wp2_with fail;refine (HRI.out _ (HT.out.keep HB1.out)).mono ?_;rintro e w2 ⟨v2,rfl,ho2,hb2⟩;obtain ⟨a2,c2,rfl⟩:=ai ho2
  cases o with
  |none=>
   simp only [Option.getD_none,Option.isSome_none] at ho2 HRS⊢;clear HRI HPD HALL;have HI2:=aim (It4.new w2 (.int .i64 cE.1) (.string cE.2.1) (.slice a2 cE.2.2.1.length c2) (.string cE.2.2.2) 25);have HB2:=aim ((HB1.out.trans (hb2.mono HB1.out.size)).alloc (by have:=HB1.out.size;have:=hb2.size;omega) (.cells #[.int .i64 cE.1, .string cE.2.1, .slice a2 cE.2.2.1.length c2, .string cE.2.2.2] 25));have R2:=aim ((RowC.of_own ho2).1.al (.cells #[.int .i64 cE.1, .string cE.2.1, .slice a2 cE.2.2.1.length c2, .string cE.2.2.2] 25));clear hb2 ho2;go_wp2_with fail;refine (HRS.out _).mono ?_;rintro e w3 ⟨v3,rfl,ho3,hb3⟩;simp only [Option.getD_none,Option.isSome_none] at ho3⊢;obtain ⟨a3,c3,rfl⟩:=ai ho3;have HI3:=aim ((HI2.out.keep hb3).al (.cells #[.int .i64 cE.1, .string cE.2.1, .slice a3 cE.2.2.1.length c3, .string cE.2.2.2] 25));have HJ3:=aim (It4.new w3 (.int .i64 cE.1) (.string cE.2.1) (.slice a3 cE.2.2.1.length c3) (.string cE.2.2.2) 25);have HB3:=aim ((HB2.out.trans (hb3.mono HB2.out.size)).alloc (by have:=HB2.out.size;have:=hb3.size;omega) (.cells #[.int .i64 cE.1, .string cE.2.1, .slice a3 cE.2.2.1.length c3, .string cE.2.2.2] 25));have R3:=aim ((R2.out.mono hb3).al (.cells #[.int .i64 cE.1, .string cE.2.1, .slice a3 cE.2.2.1.length c3, .string cE.2.2.2] 25));have S3:=aim ((RowC.of_own ho3).1.al (.cells #[.int .i64 cE.1, .string cE.2.1, .slice a3 cE.2.2.1.length c3, .string cE.2.2.2] 25));clear hb3 ho3 HI2 HB2 R2;obtain ⟨⟨z0,z1,z2,z3⟩,-,hz⟩:=HI3.out;obtain ⟨⟨y0,y1,y2,y3⟩,-,hy⟩:=HJ3.out;go_wp2_with fail;refine (ff _ _ _ _ _ cE.2.2.1 _ R3.out S3.out).mono ?_;rintro e w4 ⟨rfl,hb4⟩;have HB4:=aim (HB3.out.trans (hb4.mono HB3.out.size));have HI4:=aim (HI3.out.keep hb4);clear hb4 z0 z1 z2 z3 hz y0 y1 y2 y3 hy;obtain ⟨⟨z0,z1,z2,z3⟩,-,hz⟩:=HI4.out;have hk0:(cE.1==0)=true:=rfl;go_wp2_with fail;refine (li _).mono ?_;rintro e w' ⟨rfl,rfl⟩;go_wp2;go_ret;exact ⟨rfl,HB4.out⟩
  |some i=>
   obtain ⟨hn,ht,hv,hsc⟩:=HALL.out i rfl;obtain ⟨k,n,l,t⟩:=i;simp only [Option.getD_some,Option.isSome_some] at ho2 HRS hn ht hv hsc⊢;have HVV:=aim hv;have HSC:=aim (show em l from fun c hc=>by have:=hsc c hc;unfold maxLen;omega);have HLI:=aim (fun (w':World) (u:Value) (hr:RowC w' u l) (ht':Tab w')=>qU (k,n,l,t) u 2 w' hr (by show n.size≤_;omega) HSC.out (by show t.size≤_;omega) ht')
   have hL2:fJ (k,n,l,t) 2=baL (bv (k,n,l,t) 2 0):=by unfold fJ;rw [if_pos ⟨hv,by decide⟩];rfl
   have HRL:=aim (fun (w':World) (ht':Tab w')=>show Calls Tryz.prog 15 #[.string (fJ (k,n,l,t) 2)] w' (qt (some (k,n,l,t)) w') from by
    have hz:(fJ (k,n,l,t) 2).size≤20000:=by
     have h1:=qp (k,n,l,t) 2 0;rw [hL2,aN];simp only at h1;omega
    have:=fp (fJ (k,n,l,t) 2) w' (by omega) ht';rw [iB (B:=20000) (fun l hl=>kO hl) hz,iC (fun l hl=>iF hl) hv 2 0 (by rw [hL2];exact bK _)] at this
    exact this)
   have HIV:=aim (fun (w':World) (u:Value) (hr:RowC w' u l) (ht':Tab w')=>fU (k,n,l,t) u w' hr (by unfold maxLen;show n.size≤_;omega) HSC.out (by unfold maxLen;show t.size≤_;omega) ht');generalize fJ (k,n,l,t) 2=L2 at HLI HRL;rw [HVV.out] at HIV;clear hn ht hv hsc hL2 HALL HRI HVV;have HI2:=aim (It4.new w2 (.int .i64 k) (.string n) (.slice a2 l.length c2) (.string t) 25);have HB2:=aim ((HB1.out.trans (hb2.mono HB1.out.size)).alloc (by have:=HB1.out.size;have:=hb2.size;omega) (.cells #[.int .i64 k, .string n, .slice a2 l.length c2, .string t] 25));have R2:=aim ((RowC.of_own ho2).1.al (.cells #[.int .i64 k, .string n, .slice a2 l.length c2, .string t] 25));clear hb2 ho2;go_wp2_with fail;refine (HRS.out _).mono ?_;rintro e w3 ⟨v3,rfl,ho3,hb3⟩;simp only [Option.getD_some,Option.isSome_some] at ho3⊢;obtain ⟨a3,c3,rfl⟩:=ai ho3;have HI3:=aim ((HI2.out.keep hb3).al (.cells #[.int .i64 k, .string n, .slice a3 l.length c3, .string t] 25));have HJ3:=aim (It4.new w3 (.int .i64 k) (.string n) (.slice a3 l.length c3) (.string t) 25);have HB3:=aim ((HB2.out.trans (hb3.mono HB2.out.size)).alloc (by have:=HB2.out.size;have:=hb3.size;omega) (.cells #[.int .i64 k, .string n, .slice a3 l.length c3, .string t] 25));have R3:=aim ((R2.out.mono hb3).al (.cells #[.int .i64 k, .string n, .slice a3 l.length c3, .string t] 25));have S3:=aim ((RowC.of_own ho3).1.al (.cells #[.int .i64 k, .string n, .slice a3 l.length c3, .string t] 25));clear hb3 ho3 HI2 HB2 R2;obtain ⟨⟨z0,z1,z2,z3⟩,-,hz⟩:=HI3.out;obtain ⟨⟨y0,y1,y2,y3⟩,-,hy⟩:=HJ3.out;go_wp2_with fail;refine (ff k n t _ _ l _ R3.out S3.out).mono ?_;rintro e w4 ⟨rfl,hb4⟩;have HB4:=aim (HB3.out.trans (hb4.mono HB3.out.size));have HI4:=aim (HI3.out.keep hb4);have R4:=aim (R3.out.mono hb4);clear hb4 z0 z1 z2 z3 hz y0 y1 y2 y3 hy;obtain ⟨⟨z0,z1,z2,z3⟩,-,hz⟩:=HI4.out;go_wp2_with fail;refine (HLI.out _ _ R4.out (HT.out.keep HB4.out)).mono ?_;rintro e w5 ⟨rfl,hb5⟩;have HB5:=aim (HB4.out.trans (hb5.mono HB4.out.size));have HI5:=aim (HI4.out.keep hb5);have R5:=aim (R4.out.mono hb5);clear hb5 z0 z1 z2 z3 hz;go_wp2_with fail;refine (HRL.out _ (HT.out.keep HB5.out)).mono ?_;rintro e w6 ⟨v6,rfl,ho6,hb6⟩;simp only [Option.getD_some,Option.isSome_some] at ho6⊢;obtain ⟨a6,c6,rfl⟩:=ai ho6;have HI6:=aim ((HI5.out.keep hb6).al (.cells #[.int .i64 k, .string n, .slice a6 l.length c6, .string t] 25));have HA6:=aim (It4.new w6 (.int .i64 k) (.string n) (.slice a6 l.length c6) (.string t) 25);have HB6:=aim ((HB5.out.trans (hb6.mono HB5.out.size)).alloc (by have:=HB5.out.size;have:=hb6.size;omega) (.cells #[.int .i64 k, .string n, .slice a6 l.length c6, .string t] 25));have R6:=aim ((R5.out.mono hb6).al (.cells #[.int .i64 k, .string n, .slice a6 l.length c6, .string t] 25));have A6:=aim ((RowC.of_own ho6).1.al (.cells #[.int .i64 k, .string n, .slice a6 l.length c6, .string t] 25));clear hb6 ho6;go_wp2_with fail;refine (HPD.out _ (HT.out.keep HB6.out)).mono ?_;rintro e w7 ⟨v7,rfl,ho7,hb7⟩;simp only [Option.getD_some,Option.isSome_some] at ho7⊢;obtain ⟨a7,c7,rfl⟩:=ai ho7;have HI7:=aim ((HI6.out.keep hb7).al (.cells #[.int .i64 k, .string n, .slice a7 l.length c7, .string t] 25));have HA7:=aim ((HA6.out.keep hb7).al (.cells #[.int .i64 k, .string n, .slice a7 l.length c7, .string t] 25));have HC7:=aim (It4.new w7 (.int .i64 k) (.string n) (.slice a7 l.length c7) (.string t) 25);have HB7:=aim ((HB6.out.trans (hb7.mono HB6.out.size)).alloc (by have:=HB6.out.size;have:=hb7.size;omega) (.cells #[.int .i64 k, .string n, .slice a7 l.length c7, .string t] 25));have R7:=aim ((R6.out.mono hb7).al (.cells #[.int .i64 k, .string n, .slice a7 l.length c7, .string t] 25));have A7:=aim ((A6.out.mono hb7).al (.cells #[.int .i64 k, .string n, .slice a7 l.length c7, .string t] 25));have C7:=aim ((RowC.of_own ho7).1.al (.cells #[.int .i64 k, .string n, .slice a7 l.length c7, .string t] 25));clear hb7 ho7 HI3 HJ3 HI4 HI5 HI6 HA6 R3 S3 R4 R5 R6 A6;obtain ⟨⟨z0,z1,z2,z3⟩,-,hz⟩:=HI7.out;go_wp2_with fail;refine (HIV.out _ _ R7.out (HT.out.keep HB7.out)).mono ?_;rintro e w8 ⟨rfl,hb8⟩;have HB8:=aim (HB7.out.trans (hb8.mono HB7.out.size));have HI8:=aim (HI7.out.keep hb8);have HA8:=aim (HA7.out.keep hb8);have HC8:=aim (HC7.out.keep hb8);have R8:=aim (R7.out.mono hb8);have A8:=aim (A7.out.mono hb8);have C8:=aim (C7.out.mono hb8);clear hb8 z0 z1 z2 z3 hz;obtain ⟨⟨z0,z1,z2,z3⟩,-,hz⟩:=HI8.out;obtain ⟨⟨y0,y1,y2,y3⟩,-,hy⟩:=HA8.out;go_wp2_with fail;refine (ff k n t _ _ l _ A8.out R8.out).mono ?_;rintro e w9 ⟨rfl,hb9⟩;have HB9:=aim (HB8.out.trans (hb9.mono HB8.out.size));have HI9:=aim (HI8.out.keep hb9);have HC9:=aim (HC8.out.keep hb9);have R9:=aim (R8.out.mono hb9);have C9:=aim (C8.out.mono hb9);clear hb9 z0 z1 z2 z3 hz y0 y1 y2 y3 hy;obtain ⟨⟨z0,z1,z2,z3⟩,-,hz⟩:=HI9.out;obtain ⟨⟨y0,y1,y2,y3⟩,-,hy⟩:=HC9.out;go_wp2_with fail;refine (ff k n t _ _ l _ C9.out R9.out).mono ?_;rintro e w10 ⟨rfl,hb10⟩;have HB10:=aim (HB9.out.trans (hb10.mono HB9.out.size));clear hb10;go_wp2;go_ret;exact ⟨rfl,HB10.out⟩
 ·clear hrow htab
  go_enter Tryz.func4,Tryz.ntmps4
  go_wp2;go_ret;exact ⟨rfl,Below.refl _ _⟩
end Go.Proofs.YthijkjnngfnfdaaGreatDoor
