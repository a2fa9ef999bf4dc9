/-
  Part of the proof of FnReadDocument.
-/
import Derived.Test.YtegdjjjpoahamaaGreatDoorQQRah
import Derived.Test.YtegdjjjpoahamaaGreatDoorQQRai
import Derived.Deep.RegionHeld3
import Derived.Deep.AppendLies
set_option linter.unusedVariables false
set_option maxHeartbeats 4000000
set_option maxRecDepth 100000
namespace Go.Proofs.YtegdjjjpoahamaaGreatDoor
open Go.RowKit
theorem eR (s:ByteArray) (w:World) (hs:s.size≤maxLen):
  Calls Tryz.prog 83 #[.string s] w fun e w'=>e= .returned (.bool (fw s))∧w=w':=by
 unfold fw
 cases hp:cI s.data.toList with
 |false=>
  go_enter Tryz.func83,Tryz.ntmps83
  go_wp2_with fail;refine (cn s _ hs).mono ?_;rintro e w' ⟨rfl,rfl⟩;rw [hp];go_wp2;go_ret;exact ⟨rfl,rfl⟩
 |true=>
  have HH:=agC (ev s 46 w hs (by omega) (by omega))
  cases h9:dV s.data.toList 46
  all_goals
   go_enter Tryz.func83,Tryz.ntmps83
   go_wp2_with fail;refine (cn s _ hs).mono ?_;rintro e w' ⟨rfl,rfl⟩;rw [hp];go_wp2_with fail;refine HH.out.mono ?_;rintro e w' ⟨rfl,rfl⟩;rw [h9];go_wp2;go_ret;exact ⟨rfl,rfl⟩
theorem ac5 (n:ByteArray) (l:List Cl) (t:ByteArray) (u:Value) (w:World) (hr:RowC w u l) (hn:n.size≤maxLen) (hz:co l) (hl:l.length≤1048576) (ht:t.size≤maxLen):
  Calls Tryz.prog 51 #[.agg #[.int .i64 1, .string n,u, .string t]] w fun e w'=>e= .returned (.bool (emB n&&(l.isEmpty&&emB t)))∧Below w.heap.size w w':=by
 have AK:=agC ((Below.refl w.heap.size w).alloc (agD _) (.cells #[.int .i64 1, .string n,u, .string t] 32));obtain ⟨ao,cap,rfl,-⟩:=hr
 cases h1:emB n with
 |false=>
  obtain ⟨a1,a2,a3,a4⟩:=kG h1;clear hz
  go_enter Tryz.func51,Tryz.ntmps51
  go_wp2;go_ret;exact ⟨rfl,AK.out⟩
 |true=>
  obtain ⟨a1,a2,a3,a4⟩:=jh h1
  cases h2:l.isEmpty with
  |false=>
   have b1:=(tT h2).1;clear hz
   go_enter Tryz.func51,Tryz.ntmps51
   go_wp2;go_ret;exact ⟨rfl,AK.out⟩
  |true=>
   have b1:=(tS h2).1
   cases h3:emB t with
   |false=>
    obtain ⟨c1,c2,c3,c4⟩:=kG h3;clear hz
    go_enter Tryz.func51,Tryz.ntmps51
    go_wp2;go_ret;exact ⟨rfl,AK.out⟩
   |true=>
    obtain ⟨c1,c2,c3,c4⟩:=jh h3;clear hz
    go_enter Tryz.func51,Tryz.ntmps51
    go_wp2;go_ret;exact ⟨rfl,AK.out⟩
theorem ac6 (n:ByteArray) (l:List Cl) (t:ByteArray) (u:Value) (w:World) (hr:RowC w u l) (hn:n.size≤maxLen) (hz:co l) (hl:l.length≤1048576) (ht:t.size≤maxLen):
  Calls Tryz.prog 51 #[.agg #[.int .i64 5, .string n,u, .string t]] w fun e w'=>e= .returned (.bool (emB n&&(l.isEmpty&&emB t)))∧Below w.heap.size w w':=by
 have AK:=agC ((Below.refl w.heap.size w).alloc (agD _) (.cells #[.int .i64 5, .string n,u, .string t] 32));obtain ⟨ao,cap,rfl,-⟩:=hr
 cases h1:emB n with
 |false=>
  obtain ⟨a1,a2,a3,a4⟩:=kG h1;clear hz
  go_enter Tryz.func51,Tryz.ntmps51
  go_wp2;go_ret;exact ⟨rfl,AK.out⟩
 |true=>
  obtain ⟨a1,a2,a3,a4⟩:=jh h1
  cases h2:l.isEmpty with
  |false=>
   have b1:=(tT h2).1;clear hz
   go_enter Tryz.func51,Tryz.ntmps51
   go_wp2;go_ret;exact ⟨rfl,AK.out⟩
  |true=>
   have b1:=(tS h2).1
   cases h3:emB t with
   |false=>
    obtain ⟨c1,c2,c3,c4⟩:=kG h3;clear hz
    go_enter Tryz.func51,Tryz.ntmps51
    go_wp2;go_ret;exact ⟨rfl,AK.out⟩
   |true=>
    obtain ⟨c1,c2,c3,c4⟩:=jh h3;clear hz
    go_enter Tryz.func51,Tryz.ntmps51
    go_wp2;go_ret;exact ⟨rfl,AK.out⟩
theorem ac7 (n:ByteArray) (l:List Cl) (t:ByteArray) (u:Value) (w:World) (hr:RowC w u l) (hn:n.size≤maxLen) (hz:co l) (hl:l.length≤1048576) (ht:t.size≤maxLen):
  Calls Tryz.prog 51 #[.agg #[.int .i64 2, .string n,u, .string t]] w fun e w'=>e= .returned (.bool (emB n&&(l.isEmpty&&eG t)))∧Below w.heap.size w w':=by
 have AK:=agC ((Below.refl w.heap.size w).alloc (agD _) (.cells #[.int .i64 2, .string n,u, .string t] 32));obtain ⟨ao,cap,rfl,-⟩:=hr
 cases h1:emB n with
 |false=>
  obtain ⟨a1,a2,a3,a4⟩:=kG h1;clear hz
  go_enter Tryz.func51,Tryz.ntmps51
  go_wp2;go_ret;exact ⟨rfl,AK.out⟩
 |true=>
  obtain ⟨a1,a2,a3,a4⟩:=jh h1
  cases h2:l.isEmpty with
  |false=>
   have b1:=(tT h2).1;clear hz
   go_enter Tryz.func51,Tryz.ntmps51
   go_wp2;go_ret;exact ⟨rfl,AK.out⟩
  |true=>
   have b1:=(tS h2).1;clear hz
   cases h9:eG t
   all_goals
    go_enter Tryz.func51,Tryz.ntmps51
    go_wp2_with fail;refine (pQ t _ ht).mono ?_;rintro e w1 ⟨rfl,rfl⟩;rw [h9];go_wp2;go_ret;exact ⟨rfl,AK.out⟩
theorem ac8 (n:ByteArray) (l:List Cl) (t:ByteArray) (u:Value) (w:World) (hr:RowC w u l) (hn:n.size≤maxLen) (hz:co l) (hl:l.length≤1048576) (ht:t.size≤maxLen):
  Calls Tryz.prog 51 #[.agg #[.int .i64 3, .string n,u, .string t]] w fun e w'=>e= .returned (.bool (fw n&&(okE l&&eG t)))∧Below w.heap.size w w':=by
 have AK:=agC ((Below.refl w.heap.size w).alloc (agD _) (.cells #[.int .i64 3, .string n,u, .string t] 32));have Hy:=agC (hr.mono AK.out);have HX:=agC (jB u l _ Hy.out hz hl);obtain ⟨ao,cap,rfl,-⟩:=hr;have DF:=agC (fun w1 (h:Below (w.alloc (.cells #[.int .i64 3, .string n, .slice ao l.length cap, .string t] 32)).heap.size (w.alloc (.cells #[.int .i64 3, .string n, .slice ao l.length cap, .string t] 32)) w1)=>agp h);clear hz
 cases h1:fw n with
 |false=>
  go_enter Tryz.func51,Tryz.ntmps51
  go_wp2_with fail;refine (eR n _ hn).mono ?_;rintro e w1 ⟨rfl,rfl⟩;rw [h1];go_wp2;go_ret;exact ⟨rfl,AK.out⟩
 |true=>
  cases h2:okE l with
  |false=>
   go_enter Tryz.func51,Tryz.ntmps51
   go_wp2_with fail;refine (eR n _ hn).mono ?_;rintro e w1 ⟨rfl,rfl⟩;rw [h1];go_wp2_with fail;refine HX.out.mono ?_;rintro e w1 ⟨rfl,Aa⟩;have Af:=agC (AK.out.trans (Aa.mono AK.out.size));clear Aa;rw [h2];go_wp2;go_ret;exact ⟨rfl,Af.out⟩
  |true=>
   cases h9:eG t
   all_goals
    go_enter Tryz.func51,Tryz.ntmps51
    go_wp2_with fail;refine (eR n _ hn).mono ?_;rintro e w1 ⟨rfl,rfl⟩;rw [h1];go_wp2_with fail;refine HX.out.mono ?_;rintro e w1 ⟨rfl,Aa⟩;obtain ⟨d0,d1,d2,d3⟩:=DF.out w1 Aa;have Af:=agC (AK.out.trans (Aa.mono AK.out.size));clear Aa;rw [h2];go_wp2_with fail;refine (pQ t _ ht).mono ?_;rintro e w2 ⟨rfl,rfl⟩;rw [h9];go_wp2;go_ret;exact ⟨rfl,Af.out⟩
theorem ac9 (n:ByteArray) (l:List Cl) (t:ByteArray) (u:Value) (w:World) (hr:RowC w u l) (hn:n.size≤maxLen) (hz:co l) (hl:l.length≤1048576) (ht:t.size≤maxLen):
  Calls Tryz.prog 51 #[.agg #[.int .i64 4, .string n,u, .string t]] w fun e w'=>e= .returned (.bool (fw n&&(l.isEmpty&&emB t)))∧Below w.heap.size w w':=by
 have AK:=agC ((Below.refl w.heap.size w).alloc (agD _) (.cells #[.int .i64 4, .string n,u, .string t] 32));obtain ⟨ao,cap,rfl,-⟩:=hr;clear hz
 cases h1:fw n with
 |false=>
  go_enter Tryz.func51,Tryz.ntmps51
  go_wp2_with fail;refine (eR n _ hn).mono ?_;rintro e w1 ⟨rfl,rfl⟩;rw [h1];go_wp2;go_ret;exact ⟨rfl,AK.out⟩
 |true=>
  cases h2:l.isEmpty with
  |false=>
   have b1:=(tT h2).1
   go_enter Tryz.func51,Tryz.ntmps51
   go_wp2_with fail;refine (eR n _ hn).mono ?_;rintro e w1 ⟨rfl,rfl⟩;rw [h1];go_wp2;go_ret;exact ⟨rfl,AK.out⟩
  |true=>
   have b1:=(tS h2).1
   cases h3:emB t with
   |false=>
    obtain ⟨c1,c2,c3,c4⟩:=kG h3
    go_enter Tryz.func51,Tryz.ntmps51
    go_wp2_with fail;refine (eR n _ hn).mono ?_;rintro e w1 ⟨rfl,rfl⟩;rw [h1];go_wp2;go_ret;exact ⟨rfl,AK.out⟩
   |true=>
    obtain ⟨c1,c2,c3,c4⟩:=jh h3
    go_enter Tryz.func51,Tryz.ntmps51
    go_wp2_with fail;refine (eR n _ hn).mono ?_;rintro e w1 ⟨rfl,rfl⟩;rw [h1];go_wp2;go_ret;exact ⟨rfl,AK.out⟩
theorem ada (k:Int) (h1:k≠1) (h2:k≠2) (h3:k≠3) (h4:k≠4) (h5:k≠5) (n:ByteArray) (l:List Cl) (t:ByteArray) (u:Value) (w:World) (hr:RowC w u l) (hn:n.size≤maxLen) (hz:co l) (hl:l.length≤1048576) (ht:t.size≤maxLen):
  Calls Tryz.prog 51 #[.agg #[.int .i64 k, .string n,u, .string t]] w fun e w'=>e= .returned (.bool (false))∧Below w.heap.size w w':=by
 have AK:=agC ((Below.refl w.heap.size w).alloc (agD _) (.cells #[.int .i64 k, .string n,u, .string t] 32));obtain ⟨ao,cap,rfl,-⟩:=hr;clear hz;have a1:(k==1)=false:=beq_eq_false_iff_ne.mpr h1;have a2:(k==2)=false:=beq_eq_false_iff_ne.mpr h2;have a3:(k==3)=false:=beq_eq_false_iff_ne.mpr h3;have a4:(k==4)=false:=beq_eq_false_iff_ne.mpr h4;have a5:(k==5)=false:=beq_eq_false_iff_ne.mpr h5
 go_enter Tryz.func51,Tryz.ntmps51
 go_wp2;go_ret;exact ⟨rfl,AK.out⟩
theorem gF (i:It) (u:Value) (w:World) (hr:RowC w u i.2.2.1) (hn:i.2.1.size≤maxLen) (hz:co i.2.2.1) (hl:i.2.2.1.length≤1048576) (ht:i.2.2.2.size≤maxLen):
  Calls Tryz.prog 51 #[.agg #[.int .i64 i.1, .string i.2.1,u, .string i.2.2.2]] w fun e w'=>e= .returned (.bool (aP i))∧Below w.heap.size w w':=by
 obtain ⟨k,n,l,t⟩:=i;simp only at hr hn hz ht hl⊢;unfold aP;simp only
 by_cases h1:k=1
 ·subst h1;rw [if_pos (.inl rfl)];exact ac5 n l t u w hr hn hz hl ht
 by_cases h5:k=5
 ·subst h5;rw [if_pos (.inr rfl)];exact ac6 n l t u w hr hn hz hl ht
 rw [if_neg (by omega)]
 by_cases h2:k=2
 ·subst h2;rw [if_pos rfl];exact ac7 n l t u w hr hn hz hl ht
 rw [if_neg h2]
 by_cases h3:k=3
 ·subst h3;rw [if_pos rfl];exact ac8 n l t u w hr hn hz hl ht
 rw [if_neg h3]
 by_cases h4:k=4
 ·subst h4;rw [if_pos rfl];exact ac9 n l t u w hr hn hz hl ht
 rw [if_neg h4];exact ada k h1 h2 h3 h4 h5 n l t u w hr hn hz hl ht
theorem qB (s:ByteArray) (w:World) (hs:s.size≤maxLen):
  Calls Tryz.prog 71 #[.string s] w (sh (bC s) w):=by
 obtain ⟨i0,hi,Az,Ax,AC⟩:=info_parts m8
 by_cases ht:aD s=true
 ·have AP:s.size≤20000:=by simp only [aD,Bool.and_eq_true,decide_eq_true_eq] at ht;exact ht.1
  have HL:=agC (show bC s=cT s by rw [bC,if_pos ht]);have HT:=agC ht;clear ht
  go_enter Tryz.func71,Tryz.ntmps71
  go_wp2_with fail;refine (aG s _ hs).mono ?_;rintro e w' ⟨rfl,AU⟩;rw [HT.out];subst AU;go_wp2_with fail
  go_loopw [3,4,5] (fun v a i wr=> ∃k:Nat,k≤s.size∧i= .int .i64 k∧a= .int .i64 (cF s.data.toList k:Nat)∧wr.ownsRow w.heap.size 9 1 v (aS s k).length (fN (aS s k))∧Below w.heap.size w wr) (fun _ _ i _=>s.size-(intOf i).toNat)
  case atStart=>exact ⟨0,agH _,rfl,rfl,World.ownsRow_lit _ _ 0 (agD _) (by unfold maxLen;omega) rfl,(Below.refl _ _).alloc (agD _) _⟩
  case round=>
   obtain ⟨k,hk,rfl,rfl,Ad,hb⟩:=hrel;have HB:=agC hb;clear hb;have NL:=oU s.data.toList k;have Dr:=jA s.data.toList k;have Je:=agC (dF s k)
   by_cases Ab:k<s.size
   ·have Cu:(s[k].toNat:Int)≤255:=by have:=s[k].toNat_lt;omega
    by_cases hten:((s[k].toNat:Int)==10)=true
    ·have HS:=agC (show aS s (k+1)=aS s k++[s.extract (cF s.data.toList k) k] by simp only [aS];rw [if_pos (oD s k Ab hten)])
     have HF:=agC (show cF s.data.toList (k+1)=k+1 by simp only [cF];rw [if_pos (oD s k Ab hten)])
     go_wp2_with (at_builtin;refine wpList_append_own _ rfl _ _ 38 rfl w.heap.size 9 i0 (.string ByteArray.empty) 1 16 Tryz.underlying38 hi Az Ax AC rfl (by decide) _ _ _ rfl (Ad.alloc _) ⟨wr.heap.size,0,none⟩ 1 1 [.string (s.extract (cF s.data.toList k) k)] rfl rfl (cell_one_new _ _ _) (jb _) (by have:=Je.out;unfold maxLen;omega) (by have:=Je.out;omega) (by have:=HB.out.size;simp;omega) ?_;intro v' w1 Ah Ac By)
     go_roundw
     case rel=>
      refine ⟨k+1,by omega,by go_num,by rw [HF.out];go_num, ?_, ?_⟩
      ·rw [HS.out,eT,agE];exact Ah
      ·exact (HB.out.alloc HB.out.size _).grown Ac (by have:=HB.out.size;simp;omega) (fun q hq=>(Ad.lt q hq).1)
     case measure=>simp [intOf];omega
    ·have Fi:((s[k].toNat:Int)==10)=false:=by simpa using hten
     have HS:=agC (show aS s (k+1)=aS s k by simp only [aS];rw [if_neg (kV s k Ab Fi)]);have HF:=agC (show cF s.data.toList (k+1)=cF s.data.toList k by simp only [cF];rw [if_neg (kV s k Ab Fi)]);clear hten;go_wp2;go_roundw
     case rel=>exact ⟨k+1,by omega,by go_num,by rw [HF.out],by rw [HS.out];exact Ad,HB.out⟩
     case measure=>simp [intOf];omega
   ·obtain rfl:k=s.size:=by omega
    by_cases hrest:cF s.data.toList s.size<s.size
    ·have HA:=agC (show cT s=aS s s.size++[s.extract (cF s.data.toList s.size) s.size] by rw [cT,if_pos hrest])
     go_wp2_with (at_builtin;refine wpList_append_own _ rfl _ _ 38 rfl w.heap.size 9 i0 (.string ByteArray.empty) 1 16 Tryz.underlying38 hi Az Ax AC rfl (by decide) _ _ _ rfl (Ad.alloc _) ⟨wr.heap.size,0,none⟩ 1 1 [.string (s.extract (cF s.data.toList s.size) s.size)] rfl rfl (cell_one_new _ _ _) (jb _) (by have:=Je.out;unfold maxLen;omega) (by have:=Je.out;omega) (by have:=HB.out.size;simp;omega) ?_;intro v' w1 Ah Ac By)
     go_ret;refine ⟨_,rfl, ?_, ?_⟩
     ·rw [HL.out,HA.out,eT,agE];exact Ah
     ·exact (HB.out.alloc HB.out.size _).grown Ac (by have:=HB.out.size;simp;omega) (fun q hq=>(Ad.lt q hq).1)
    ·have HA:=agC (show cT s=aS s s.size by rw [cT,if_neg hrest])
     go_wp2;go_ret;exact ⟨_,rfl,by rw [HL.out,HA.out];exact Ad,HB.out⟩
 ·have HL:=agC (show bC s=[] by rw [bC,if_neg ht])
  go_enter Tryz.func71,Tryz.ntmps71
  go_wp2_with fail;refine (aG s _ hs).mono ?_;rintro e w' ⟨rfl,AU⟩;rw [Bool.eq_false_iff.mpr ht];subst AU;clear ht;go_wp2;go_ret;exact ⟨_,rfl,by rw [HL.out];exact World.ownsRow_lit _ _ 0 (agD _) (by unfold maxLen;omega) rfl,(Below.refl _ _).alloc (agD _) _⟩
theorem tF {w:World} {b b':Nat} {e:TypeId} {size:Nat} {v:Value} {n:Nat} {xs:List Value} (h:w.ownsRow b e size v n xs) (hb:b'≤b):w.ownsRow b' e size v n xs:=by
 refine ⟨h.1, ?_⟩
 rcases h.2 with h2|⟨g,cap,cur,hv,hg,r⟩
 ·exact .inl h2
 ·exact .inr ⟨g,cap,cur,hv,by omega,r⟩
theorem lL (s:ByteArray) (w:World) (hs:s.size≤maxLen):
 Calls Tryz.prog 24 #[.string s] w (sh (bC s) w):=by
 obtain ⟨i0,hi,Az,Ax,AC⟩:=info_parts m8
 by_cases ht:aD s=true
 ·have AP:s.size≤20000:=by simp only [aD,Bool.and_eq_true,decide_eq_true_eq] at ht;exact ht.1
  have HL:=agC (show bC s=cT s by rw [bC,if_pos ht]);have HT:=agC ht;clear ht
  go_enter Tryz.func24,Tryz.ntmps24
  go_wp2_with fail;refine (bW s _ hs).mono ?_;rintro e w' ⟨rfl,AU⟩;rw [HT.out];subst AU;go_wp2_with fail;refine (oE s _ AP).mono ?_;rintro e w1 ⟨g,cap,rfl,Es,DS,hg0,hg1,GQ,Aa⟩;have HC:=agC GQ;have Af:=agC Aa;unfold maxLen at DS;have DB:=oU s.data.toList s.size;clear GQ Aa;go_wp2_with fail
  go_loopw [5,6,16] (fun v _ i wr=> ∃k:Nat,k≤eI s.data.toList s.size∧i= .int .i64 k∧wr.ownsRow w1.heap.size 9 1 v k (fN ((aS s s.size).take k))∧Below w1.heap.size w1 wr) (fun _ _ i _=>eI s.data.toList s.size-(intOf i).toNat)
  case atStart=>exact ⟨0,agH _,rfl,World.ownsRow_nil _ _ _ _,Below.refl _ _⟩
  case round=>
   obtain ⟨k,hk,rfl,Ad,hb⟩:=hrel;have HB:=agC hb;clear hb
   by_cases Ab:k<eI s.data.toList s.size
   ·have BT:=cP s.data.toList s.size
    obtain ⟨a,ha⟩: ∃a,(bY s.data.toList s.size)[k]? =some a:=⟨_,List.getElem?_eq_getElem (by omega)⟩
    obtain ⟨b,hb⟩: ∃b,(bY s.data.toList s.size)[k+1]? =some b:=⟨_,List.getElem?_eq_getElem (by omega)⟩
    obtain ⟨q1,q2,q3,q4⟩:=uN s s.size k a b ha hb;have ca:wr.cell? ⟨g,k,none⟩=some (.int .i64 (a:Int)):=(HB.out.cell (p:=⟨g,k,none⟩) hg1).trans (HC.out k a ha);have cb:wr.cell? ⟨g,k+1,none⟩=some (.int .i64 (b:Int)):=(HB.out.cell (p:=⟨g,k+1,none⟩) hg1).trans (HC.out (k+1) b hb);have HQ:=agC q4;clear ha hb BT q4;have e1:IntKind.i64.wrap ((k:Int)+1)=(k:Int)+1:=IntWalk.i64_in _ (by omega);have e2:IntKind.i64.wrap ((b:Int)-1)=(b:Int)-1:=IntWalk.i64_in _ (by omega)
    have e3:0≤(k:Int)+1:=by omega
    have e4:((k:Int)+1).toNat=k+1:=by omega
    have ag: ∀q,u5.ownBlock=some q→q≠g:=fun q hq=>by have:=(Ad.lt q hq).1;omega
    have AG:=agC ag;clear ag
    have SZ:g<wr.heap.size:=by have:=HB.out.size;omega
    have RW:(a:Int)≤(b:Int)-1:=by omega
    have RX:(b:Int)-1≤(s.size:Int):=by omega
    have VH:0≤(b:Int)-1:=by omega
    have VI:((b:Int)-1).toNat=b-1:=by omega
    have Qf:(0:Int)≤(k:Int):=by omega
    have Qg:(k:Int)<(eI s.data.toList s.size:Int)+1:=by omega
    have RV:(k:Int)+1<(eI s.data.toList s.size:Int)+1:=by omega
    go_wp2_with fail
    go_region_held3 (fun w'=>w'.cell? ⟨g,k,none⟩=some (.int .i64 (a:Int))∧w'.cell? ⟨g,k+1,none⟩=some (.int .i64 (b:Int)))
     (first
       |go_keep
       |(go_split_ands
         refine ⟨?_, ?_⟩
         ·(rw [Ac.cell_far _ (by simp;omega) (fun hq=>AG.out _ hq.symm rfl)];assumption)
         ·(rw [Ac.cell_far _ (by simp;omega) (fun hq=>AG.out _ hq.symm rfl)];assumption)))
     ((refine step_append_lies _ (by rfl) _ _ _ (by rfl) w1.heap.size 9 i0 _ 1 16 Tryz.underlying38 hi Az Ax AC rfl (by omega) u5 k _ (by rfl) ((Ad.alloc _).drew)
        ⟨wr.heap.size,0,none⟩ 1 1 [.string (s.extract a (b-1))] (by rfl) (by rfl) (World.news_of_block (cs:= #[.string (s.extract a (b-1))]) (t:=9) (fr:=(0,0)) (heap_alloc_new wr _)) (by simp [Value.oneCell'])
        (by omega) (by unfold maxLen;omega) (by omega) (by have:=HB.out.size;simp;omega) (wr.heap.size+1) (by simp) ?_;intro gg cap' w2 Ah Ac Bc ES))
    have Ca:=agC (show (aS s s.size).take (k+1)=(aS s s.size).take k++[s.extract a (b-1)] by rw [List.take_add_one,HQ.out];rfl);go_wp2;go_roundw
    case rel=>
     refine ⟨k+1,by omega,by go_num, ?_, ?_⟩
     ·rw [Ca.out,eT];exact Ah
     ·exact ((HB.out.alloc HB.out.size _).drew).grown Ac (by have:=HB.out.size;simp;omega) (fun q hq=>(Ad.lt q hq).1)
    case measure=>simp [intOf];omega
   ·obtain rfl:k=eI s.data.toList s.size:=by omega
    have Ca:=agC (show (aS s s.size).take (eI s.data.toList s.size)=aS s s.size by rw [List.take_of_length_le (by rw [dF];omega)]);rw [Ca.out] at Ad;have FO:=agC (dF s s.size);have Dr:=jA s.data.toList s.size;have ca:wr.cell? ⟨g,eI s.data.toList s.size,none⟩=some (.int .i64 (cF s.data.toList s.size:Nat)):=(HB.out.cell (p:=⟨g,_,none⟩) hg1).trans (HC.out _ _ (mX s.data.toList s.size));have HW:=agC (Af.out.trans (HB.out.mono Af.out.size))
    by_cases hrest:cF s.data.toList s.size<s.size
    ·have HA:=agC (show cT s=aS s s.size++[s.extract (cF s.data.toList s.size) s.size] by rw [cT,if_pos hrest])
     go_wp2_with (at_builtin;refine wpList_append_own _ rfl _ _ 38 rfl w1.heap.size 9 i0 (.string ByteArray.empty) 1 16 Tryz.underlying38 hi Az Ax AC rfl (by decide) _ _ _ rfl (Ad.alloc _) ⟨wr.heap.size,0,none⟩ 1 1 [.string (s.extract (cF s.data.toList s.size) s.size)] rfl rfl (cell_one_new _ _ _) (jb _) (by unfold maxLen;omega) (by omega) (by have:=HB.out.size;simp;omega) ?_;intro v' w2 Ah Ac By)
     go_ret;refine ⟨_,rfl, ?_, ?_⟩
     ·rw [HL.out,HA.out,eT,agE,FO.out];exact tF Ah Af.out.size
     ·exact (HW.out.alloc HW.out.size _).grown Ac (by have:=HW.out.size;simp;omega) (fun q hq=>Nat.le_trans Af.out.size (Ad.lt q hq).1)
    ·have HA:=agC (show cT s=aS s s.size by rw [cT,if_neg hrest])
     go_wp2;go_ret;exact ⟨_,rfl,by rw [HL.out,HA.out,FO.out];exact tF Ad Af.out.size,HW.out⟩
 ·have HL:=agC (show bC s=[] by rw [bC,if_neg ht])
  go_enter Tryz.func24,Tryz.ntmps24
  go_wp2_with fail;refine (bW s _ hs).mono ?_;rintro e w' ⟨rfl,AU⟩;rw [Bool.eq_false_iff.mpr ht];subst AU;clear ht;go_wp2;go_ret;exact ⟨_,rfl,by rw [HL.out];exact World.ownsRow_nil _ _ _ _,Below.refl _ _⟩
def mW (L:List Int):List Value:=L.map fun n=>Value.int .i64 n
theorem iV (L:List Int):(mW L).length=L.length:=by simp [mW]
theorem gB (L:List Int) (n:Int):mW (L++[n])=mW L++[.int .i64 n]:=by simp [mW]
def agy (l:List It) (w:World) (e:Ending) (w':World):Prop:=
 ∃(v:Value) (d:Int) (L:List Int),e= .returned (.tuple #[v, .int .i64 d])∧w'.ownsRow w.heap.size 3 1 v L.length (mW L)∧Below w.heap.size w w'∧((aZ 0 l=some d∧L=dL 0 l)∨(aZ 0 l=none∧d= -1))
theorem aag {l:List It} {k:Nat} {d:Int} (hk:k<l.length) (h:aZ 0 (l.take k)=some d):aZ 0 (l.take (k+1))=if 0≤dO d l[k]∧dO d l[k]≤4 then some (dO d l[k]) else none:=by
 rw [List.take_succ_eq_append_getElem hk,hJ,h];rfl
theorem qu {l:List It} {k:Nat} (h:aZ 0 (l.take k)=none):aZ 0 l=none:=by
 have:aZ 0 (l.take k++l.drop k)=none:=by rw [hJ,h];rfl
 rwa [List.take_append_drop] at this
theorem aah {l:List It} {k:Nat} {d:Int} (hk:k<l.length) (h:aZ 0 (l.take k)=some d):dL 0 (l.take (k+1))=dL 0 (l.take k)++[fq d l[k]]:=by
 rw [List.take_succ_eq_append_getElem hk,nF,jE _ _ _ h];rfl
theorem jz (v:Value) (l:List It) (w:World) (hr:RowIt w v l) (hl:l.length≤1048576):
  Calls Tryz.prog 52 #[v] w (agy l w):=by
 obtain ⟨i0,hi,Az,Ax,AC⟩:=info_parts ade;obtain ⟨ao,cap,rfl,h1,h2,h3⟩:=hr;unfold maxLen at h2;have H3:=agC h3;clear h3
 go_enter Tryz.func52,Tryz.ntmps52
 go_wp2
 go_loopw [4,5,6] (fun out dp i wr=> ∃(k:Nat) (d:Int),k≤l.length∧i= .int .i64 (k:Int)∧dp= .int .i64 d∧0≤d∧d≤4∧aZ 0 (l.take k)=some d∧wr.ownsRow w.heap.size 3 1 out k (mW (dL 0 (l.take k)))∧Below w.heap.size w wr) (fun _ _ i _=>l.length-(intOf i).toNat)
 case atStart=>exact ⟨0,0,agH _,rfl,rfl,by omega,by omega,rfl,World.ownsRow_lit _ _ 0 (agD _) (by unfold maxLen;omega) rfl,(Below.refl _ _).alloc (agD _) _⟩
 case round=>
  obtain ⟨k,d,hk,rfl,rfl,hd0,F9,hn,Ad,hb⟩:=hrel;have HB:=agC hb;have HN:=agC hn;have Ln:=hb.size;clear hb hn
  by_cases Ab:k<l.length
  ·obtain ⟨b,o,rfl,Av,cc⟩:=H3.out.resolve_left (by rintro rfl;simp at Ab)
   obtain ⟨u,hu⟩:=cc k Ab;have d0:=(hu.mono Av HB.out).1;have HK:=agC (aag Ab HN.out);have HL:=agC (aah Ab HN.out);clear cc hu;generalize l[k]=it at d0 HK HL
   have Ux:it.1=5∨it.1=4∨(it.1≠4∧it.1≠5):=by omega
   have hD: ∀s:Int,fq d it=s→dL 0 (l.take (k+1))=dL 0 (l.take k)++[s]:=fun s h=>by rw [HL.out,h]
   have HD:=agC hD;clear hD
   rcases Ux with h5|h4|⟨h4,h5⟩
   ·have e5:(it.1==5)=true:=by rw [h5];rfl
    have e4:(it.1==4)=false:=by rw [h5];rfl
    have HS:=agC (HD.out (d-1) (by unfold fq;rw [if_pos h5]))
    have I9:dO d it=d-1:=by unfold dO fq;rw [if_neg (by omega),if_pos h5]
    rw [I9] at HK;clear h5 I9;generalize it.1=kk at d0 e5 e4
    by_cases CN:0≤d-1
    ·have Iz:=agC (show aZ 0 (l.take (k+1))=some (d-1) by rw [HK.out,if_pos (by omega)])
     have HI:=agC (show inI (d-1) 0 4=true by simp [inI];omega)
     go_wp2_with (at_builtin;refine wpList_append_own _ rfl _ _ 25 rfl w.heap.size 3 i0 (.int .i64 0) 1 8 Tryz.underlying25 hi Az Ax AC rfl (by decide) _ _ _ rfl (Ad.alloc _) ⟨wr.heap.size,0,none⟩ 1 1 [.int .i64 (d-1)] rfl rfl (World.news_of_block (cs:= #[.int .i64 (d-1)]) (t:=3) (fr:=(0,0)) (heap_alloc_new wr _)) (by simp [Value.oneCell']) (by unfold maxLen;omega) (by omega) (by simp;omega) ?_;intro v' w2 Ah Ac By;have Ak:=agC ((HB.out.alloc HB.out.size _).grown Ac (by have:=HB.out.size;simp;omega) (fun q hq=>(Ad.lt q hq).1));have Cc:=agC Ah;have c0:=(Ak.out.cell (p:=⟨b,_,none⟩) Av).trans ((HB.out.cell (p:=⟨b,_,none⟩) Av).symm.trans d0);clear Ah Ac By)
     refine (dG _ _ _ _).mono ?_;rintro e w' ⟨rfl,rfl⟩;rw [HI.out];go_wp2;go_roundw
     case rel=>exact ⟨k+1,d-1,by omega,by go_num,rfl,by omega,by omega,Iz.out,by rw [HS.out,gB];exact Cc.out,Ak.out⟩
     case measure=>simp [intOf];omega
    ·have Iz:=agC (qu (l:=l) (k:=k+1) (by rw [HK.out,if_neg (by omega)]))
     have HI:=agC (show inI (d-1) 0 4=false by simp [inI];omega)
     go_wp2_with (at_builtin;refine wpList_append_own _ rfl _ _ 25 rfl w.heap.size 3 i0 (.int .i64 0) 1 8 Tryz.underlying25 hi Az Ax AC rfl (by decide) _ _ _ rfl (Ad.alloc _) ⟨wr.heap.size,0,none⟩ 1 1 [.int .i64 (d-1)] rfl rfl (World.news_of_block (cs:= #[.int .i64 (d-1)]) (t:=3) (fr:=(0,0)) (heap_alloc_new wr _)) (by simp [Value.oneCell']) (by unfold maxLen;omega) (by omega) (by simp;omega) ?_;intro v' w2 Ah Ac By;have Ak:=agC ((HB.out.alloc HB.out.size _).grown Ac (by have:=HB.out.size;simp;omega) (fun q hq=>(Ad.lt q hq).1));have Cc:=agC Ah;have c0:=(Ak.out.cell (p:=⟨b,_,none⟩) Av).trans ((HB.out.cell (p:=⟨b,_,none⟩) Av).symm.trans d0);clear Ah Ac By)
     refine (dG _ _ _ _).mono ?_;rintro e w' ⟨rfl,rfl⟩;rw [HI.out];have DW:=agC (show (dL 0 (l.take (k+1))).length=k+1 by rw [cj,List.length_take];omega);go_wp2;exact bodyPost_ret (v:= .tuple #[v', .int .i64 (-1)]) (by simp [results,Tryz.results52,go_sem]) rfl ⟨_,_,dL 0 (l.take (k+1)),rfl,by rw [DW.out,HS.out,gB];exact Cc.out,Ak.out, .inr ⟨Iz.out,rfl⟩⟩
   ·have e5:(it.1==5)=false:=by rw [h4];rfl
    have e4:(it.1==4)=true:=by rw [h4];rfl
    have HS:=agC (HD.out d (by unfold fq;rw [if_neg (by omega)]))
    have I9:dO d it=d+1:=by unfold dO fq;rw [if_pos h4,if_neg (by omega)]
    rw [I9] at HK;clear h4 I9;generalize it.1=kk at d0 e5 e4
    by_cases CN:d+1≤4
    ·have Iz:=agC (show aZ 0 (l.take (k+1))=some (d+1) by rw [HK.out,if_pos (by omega)])
     have HI:=agC (show inI (d+1) 0 4=true by simp [inI];omega)
     go_wp2_with (at_builtin;refine wpList_append_own _ rfl _ _ 25 rfl w.heap.size 3 i0 (.int .i64 0) 1 8 Tryz.underlying25 hi Az Ax AC rfl (by decide) _ _ _ rfl (Ad.alloc _) ⟨wr.heap.size,0,none⟩ 1 1 [.int .i64 d] rfl rfl (World.news_of_block (cs:= #[.int .i64 d]) (t:=3) (fr:=(0,0)) (heap_alloc_new wr _)) (by simp [Value.oneCell']) (by unfold maxLen;omega) (by omega) (by simp;omega) ?_;intro v' w2 Ah Ac By;have Ak:=agC ((HB.out.alloc HB.out.size _).grown Ac (by have:=HB.out.size;simp;omega) (fun q hq=>(Ad.lt q hq).1));have Cc:=agC Ah;have c0:=(Ak.out.cell (p:=⟨b,_,none⟩) Av).trans ((HB.out.cell (p:=⟨b,_,none⟩) Av).symm.trans d0);clear Ah Ac By)
     refine (dG _ _ _ _).mono ?_;rintro e w' ⟨rfl,rfl⟩;rw [HI.out];go_wp2;go_roundw
     case rel=>exact ⟨k+1,d+1,by omega,by go_num,rfl,by omega,by omega,Iz.out,by rw [HS.out,gB];exact Cc.out,Ak.out⟩
     case measure=>simp [intOf];omega
    ·have Iz:=agC (qu (l:=l) (k:=k+1) (by rw [HK.out,if_neg (by omega)]))
     have HI:=agC (show inI (d+1) 0 4=false by simp [inI];omega)
     go_wp2_with (at_builtin;refine wpList_append_own _ rfl _ _ 25 rfl w.heap.size 3 i0 (.int .i64 0) 1 8 Tryz.underlying25 hi Az Ax AC rfl (by decide) _ _ _ rfl (Ad.alloc _) ⟨wr.heap.size,0,none⟩ 1 1 [.int .i64 d] rfl rfl (World.news_of_block (cs:= #[.int .i64 d]) (t:=3) (fr:=(0,0)) (heap_alloc_new wr _)) (by simp [Value.oneCell']) (by unfold maxLen;omega) (by omega) (by simp;omega) ?_;intro v' w2 Ah Ac By;have Ak:=agC ((HB.out.alloc HB.out.size _).grown Ac (by have:=HB.out.size;simp;omega) (fun q hq=>(Ad.lt q hq).1));have Cc:=agC Ah;have c0:=(Ak.out.cell (p:=⟨b,_,none⟩) Av).trans ((HB.out.cell (p:=⟨b,_,none⟩) Av).symm.trans d0);clear Ah Ac By)
     refine (dG _ _ _ _).mono ?_;rintro e w' ⟨rfl,rfl⟩;rw [HI.out];have DW:=agC (show (dL 0 (l.take (k+1))).length=k+1 by rw [cj,List.length_take];omega);go_wp2;exact bodyPost_ret (v:= .tuple #[v', .int .i64 (-1)]) (by simp [results,Tryz.results52,go_sem]) rfl ⟨_,_,dL 0 (l.take (k+1)),rfl,by rw [DW.out,HS.out,gB];exact Cc.out,Ak.out, .inr ⟨Iz.out,rfl⟩⟩
   ·have e5:(it.1==5)=false:=beq_eq_false_iff_ne.mpr h5
    have e4:(it.1==4)=false:=beq_eq_false_iff_ne.mpr h4;have HS:=agC (HD.out d (by unfold fq;rw [if_neg h5]))
    have I9:dO d it=d:=by unfold dO fq;rw [if_neg h4,if_neg h5]
    rw [I9] at HK;clear h4 h5 I9;generalize it.1=kk at d0 e5 e4;have Iz:=agC (show aZ 0 (l.take (k+1))=some d by rw [HK.out,if_pos (by omega)]);have HI:=agC (show inI d 0 4=true by simp [inI];omega)
    go_wp2_with (at_builtin;refine wpList_append_own _ rfl _ _ 25 rfl w.heap.size 3 i0 (.int .i64 0) 1 8 Tryz.underlying25 hi Az Ax AC rfl (by decide) _ _ _ rfl (Ad.alloc _) ⟨wr.heap.size,0,none⟩ 1 1 [.int .i64 d] rfl rfl (World.news_of_block (cs:= #[.int .i64 d]) (t:=3) (fr:=(0,0)) (heap_alloc_new wr _)) (by simp [Value.oneCell']) (by unfold maxLen;omega) (by omega) (by simp;omega) ?_;intro v' w2 Ah Ac By;have Ak:=agC ((HB.out.alloc HB.out.size _).grown Ac (by have:=HB.out.size;simp;omega) (fun q hq=>(Ad.lt q hq).1));have Cc:=agC Ah;have c0:=(Ak.out.cell (p:=⟨b,_,none⟩) Av).trans ((HB.out.cell (p:=⟨b,_,none⟩) Av).symm.trans d0);clear Ah Ac By)
    refine (dG _ _ _ _).mono ?_;rintro e w' ⟨rfl,rfl⟩;rw [HI.out];go_wp2;go_roundw
    case rel=>exact ⟨k+1,d,by omega,by go_num,rfl,by omega,by omega,Iz.out,by rw [HS.out,gB];exact Cc.out,Ak.out⟩
    case measure=>simp [intOf];omega
  ·obtain rfl:k=l.length:=by omega
   have LF:=agC (show aZ 0 l=some d by have:=HN.out;rwa [List.take_of_length_le (agD _)] at this);rw [List.take_of_length_le (agD _)] at Ad;obtain ⟨a9,c9,rfl⟩:=aN Ad;have HO:=agC Ad;clear Ad;go_wp2;exact bodyPost_ret (v:= .tuple #[.slice a9 l.length c9, .int .i64 d]) (by simp [results,Tryz.results52,go_sem]) rfl ⟨_,_,dL 0 l,rfl,by rw [cj];exact HO.out,HB.out, .inl ⟨LF.out,rfl⟩⟩
theorem ru {l:List It} {k:Nat} (hk:k<l.length) (h:aP l[k]=false):dT l=false:=by
 rw [Bool.eq_false_iff];intro hh;have:=((bP l).mp hh).2.1;rw [List.all_eq_true] at this;have:=this _ (List.getElem_mem hk)
 rw [h] at this;cases this
theorem gC (v:Value) (l:List It) (w:World) (hr:RowIt w v l) (hz:fm l) (hl:l.length≤1048576):
  Calls Tryz.prog 18 #[v] w fun e w'=>e= .returned (.bool (dT l))∧Below w.heap.size w w':=by
 have HR:=agC hr;obtain ⟨ao,cap,rfl,h1,h2,h3⟩:=hr;unfold maxLen at h2;have H3:=agC h3;have HZ:=agC hz;clear h3 hz
 go_enter Tryz.func18,Tryz.ntmps18
 go_wp2
 go_loopw [3] (fun i wr=> ∃k:Nat,k≤l.length∧i= .int .i64 (k:Int)∧(l.take k).all aP=true∧Below w.heap.size w wr) (fun i _=>l.length-(intOf i).toNat)
 case atStart=>exact ⟨0,agH _,rfl,rfl,Below.refl _ _⟩
 case round=>
  obtain ⟨k,hk,rfl,Aj,hb⟩:=hrel;have Bj:=agC Aj;have HB:=agC hb;clear Aj hb
  by_cases Ab:k<l.length
  ·obtain ⟨b,o,rfl,Av,cc⟩:=H3.out.resolve_left (by rintro rfl;simp at Ab)
   obtain ⟨u,hu⟩:=cc k Ab;obtain ⟨d0,d1,d2,d3,Ei⟩:=hu.mono Av HB.out;obtain ⟨z1,z2,z3,z4⟩:=HZ.out _ (List.getElem_mem Ab);have HI:=agC (gF l[k] u wr Ei (by unfold maxLen;omega) z2 z3 (by unfold maxLen;omega));have HT:=agC (show (l.take (k+1)).all aP=((l.take k).all aP&&aP l[k]) by rw [List.take_succ_eq_append_getElem Ab,List.all_append];simp);have Uy:=agC (fun h=>ru Ab h);clear cc hu Ei z1 z2 z3 z4;generalize l[k]=it at*;obtain ⟨kk,nn,cc,tt⟩:=it;simp only at d0 d1 d2 d3 HI
   cases DL:aP (kk,nn,cc,tt) with
   |true=>
    have HN:=agC (show (l.take (k+1)).all aP=true by rw [HT.out,Bj.out,DL];rfl);go_wp2_with fail;refine HI.out.mono ?_;rintro e w1 ⟨rfl,Aa⟩;have Af:=agC (HB.out.trans (Aa.mono HB.out.size));clear Aa;rw [DL];go_wp2;go_roundw
    case rel=>exact ⟨k+1,by omega,by go_num,HN.out,Af.out⟩
    case measure=>simp [intOf];omega
   |false=>
    have HN:=agC (Uy.out DL);go_wp2_with fail;refine HI.out.mono ?_;rintro e w1 ⟨rfl,Aa⟩;have Af:=agC (HB.out.trans (Aa.mono HB.out.size));clear Aa;rw [DL];go_wp2;go_ret;exact ⟨eU HN.out.symm,Af.out⟩
  ·obtain rfl:k=l.length:=by omega
   have BS:=agC (show l.all aP=true by have:=Bj.out;rwa [List.take_of_length_le (agD _)] at this);go_wp2_with fail;refine (jz _ l _ (HR.out.mono HB.out) hl).mono ?_;rintro e w1 ⟨vv,d,L,rfl,ho,Aa,hn⟩;have Af:=agC (HB.out.trans (Aa.mono HB.out.size));have HN:=agC hn;clear ho Aa hn
   by_cases Ep:l.length≤30
   ·by_cases hd:d=0
    ·have HD:=agC (show dT l=true by
      rw [bP];refine ⟨Ep,BS.out, ?_⟩
      rcases HN.out with ⟨h,-⟩|⟨-,h⟩
      ·rw [h,hd]
      ·omega)
     subst hd;go_wp2;go_ret;exact ⟨eU HD.out.symm,Af.out⟩
    ·have HD:=agC (show dT l=false by
      rw [Bool.eq_false_iff];intro hh;have h9:=((bP l).mp hh).2.2
      rcases HN.out with ⟨h,-⟩|⟨h,-⟩
      ·rw [h] at h9;injection h9 with h9;exact hd h9
      ·rw [h] at h9;cases h9)
     have hd0:(d==0)=false:=beq_eq_false_iff_ne.mpr hd;go_wp2;go_ret;exact ⟨eU HD.out.symm,Af.out⟩
   ·have HD:=agC (show dT l=false by rw [Bool.eq_false_iff];intro hh;exact Ep ((bP l).mp hh).1)
    go_wp2;go_ret;exact ⟨eU HD.out.symm,Af.out⟩
def ab6 (L:List ByteArray):Prop:= ∀t∈L,t.size≤maxLen
theorem kM (L:List ByteArray) (k:Nat) (h:k<L.length):d9 L k=L[k]:=by simp [d9,List.getElem?_eq_getElem h]
theorem vE (t:ByteArray) (n:Nat) (h:n+t.size+1≤20000):(aD t&& !dV t.data.toList 10)=aq t.data.toList:=by
 rw [ii,aD]
 have:decide (t.size≤20000)=true:=by simp;omega
 rw [this,Bool.true_and]
def qa (L:List ByteArray) (e:Ending):Prop:=e= .returned (.tuple #[.string (fS L), .bool (el L)])
theorem mr (L:List ByteArray) (k:Nat) (hk:k<L.length) (h:iG L k=false):qa L (.returned (.tuple #[.string ⟨#[]⟩, .bool false])):=by
 have hb:=uX L k hk h
 have hj:fS L=⟨#[]⟩:=by rw [fS,hb];rfl
 rw [qa,hb,hj]
theorem vF (L:List ByteArray) (h: ∀j,j<L.length→iG L j=true):qa L (.returned (.tuple #[.string (bM L L.length), .bool true])):=by
 have hb:=mR L h
 have hj:fS L=bM L L.length:=by rw [fS,hb];rfl
 rw [qa,hb,hj]
theorem ol (v:Value) (L:List ByteArray) (w:World) (h:RowOf w v (fN L)) (hz:ab6 L):
  Calls Tryz.prog 59 #[v] w fun e w'=>qa L e∧w=w':=by
 obtain ⟨ao,cap,rfl,h1,h2,h3⟩:=h;simp only [eg] at h1⊢;unfold maxLen at h2;have H3:=agC h3;clear h3;have HZ:=agC hz;clear hz
 go_enter Tryz.func59,Tryz.ntmps59
 go_wp2
 go_loop [4,5] (fun o i=> ∃k:Nat,k≤L.length∧i= .int .i64 k∧o= .string (bM L k)∧(∀j,j<k→iG L j=true)) (fun _ i=>L.length-(intOf i).toNat)
 case atStart=>exact ⟨0,agH _,rfl,rfl,fun j hj=>by omega⟩
 case round=>
  obtain ⟨k,hk,rfl,rfl,Aj⟩:=hrel;have HK:=agC Aj;have Ly:=abK L k Aj;clear Aj
  by_cases Ab:k<L.length
  ·obtain ⟨b,o,hA,-,cc⟩:=H3.out.resolve_left (by intro h;have h':=congrArg List.length h;rw [eg] at h';simp only [List.length_nil] at h';omega)
   subst hA
   obtain ⟨t,ht⟩: ∃t,L[k]=t:=⟨_,rfl⟩
   have d1:=cc k (.string t) (by simp [fN,Ab,ht])
   have O3:t.size≤maxLen:=by rw [←ht];exact HZ.out _ (List.getElem_mem _)
   have HT:=agC (show d9 L k=t by rw [kM L k Ab,ht]);have O4:=O3;unfold maxLen at O4;clear cc ht;go_wp2_with fail;refine (aG t _ O3).mono ?_;rintro e w' ⟨rfl,rfl⟩
   by_cases hv:aD t=true
   ·rw [hv]
    have HV:=agC hv;clear hv;go_wp2_with fail;refine (ev t 10 _ O3 (by omega) (by omega)).mono ?_;rintro e w' ⟨rfl,rfl⟩
    by_cases hh:dV t.data.toList 10=true
    ·rw [hh]
     have HO:=agC (show iG L k=false by
      simp only [iG,HT.out,ii,hh];simp)
     clear hh;go_wp2;go_ret2;exact ⟨mr L k Ab HO.out,rfl⟩
    ·rw [Bool.eq_false_iff.mpr hh]
     have AP:t.size≤20000:=by have:=HV.out;simp only [aD,Bool.and_eq_true,decide_eq_true_eq] at this;exact this.1
     have HP:=agC (show aq t.data.toList=true by
      have hv:=HV.out;simp only [aD,Bool.and_eq_true] at hv
      rw [ii,hv.2,Bool.eq_false_iff.mpr hh];rfl)
     clear hh
     by_cases hroom:(bM L k).size+t.size+1≤20000
     ·have HO:=agC (show iG L k=true by
       rw [iG,HT.out,HP.out];simp;omega)
      have HA:=agC (show bM L (k+1)=bM L k++t++⟨#[10]⟩ by show bM L k++d9 L k++_=_;rw [HT.out]);go_wp2
      go_round
      case rel=>exact ⟨k+1,by omega,by go_num,by rw [HA.out],fun j hj=>by
       by_cases hjk:j=k
       ·rw [hjk];exact HO.out
       ·exact HK.out j (by omega)⟩
      case measure=>simp [intOf];omega
     ·have HO:=agC (show iG L k=false by
       rw [iG,HT.out,HP.out];simp;omega)
      go_wp2;go_ret2;exact ⟨mr L k Ab HO.out,rfl⟩
   ·rw [Bool.eq_false_iff.mpr hv]
    have HO:=agC (show iG L k=false by
     rw [iG,HT.out]
     by_cases hroom:(bM L k).size+t.size+1≤20000
     ·rw [←vE t _ hroom,Bool.eq_false_iff.mpr hv];rfl
     ·simp only [hroom,decide_false,Bool.and_false])
    clear hv;go_wp2;go_ret2;exact ⟨mr L k Ab HO.out,rfl⟩
  ·obtain rfl:k=L.length:=by omega
   go_wp2;go_ret2;exact ⟨vF L HK.out,rfl⟩
end Go.Proofs.YtegdjjjpoahamaaGreatDoor
