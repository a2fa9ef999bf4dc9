/-
  Part of the proof of FnReadDocument.
-/
import Derived.Test.YtegdjjjpoahamaaGreatDoorQQRao
import Derived.Deep.RegionLaw
import Derived.Deep.AppendLies
set_option linter.unusedVariables false
set_option maxHeartbeats 8000000
set_option maxRecDepth 100000
namespace Go.Proofs.YtegdjjjpoahamaaGreatDoor
open Go.RowKit
def kt:Nat→Nat
 |0=>4
 |d+1=>5+3*kt d
def ct:Nat→Nat
 |0=>1
 |d+1=>if d=0 then 1 else 1+3*ct d
abbrev abf:=zG 5
theorem ae3 (m:Nat) (h:m<5): ∃t:ByteArray,t.size≤5∧(#[Value.string ⟨#[48]⟩, .string ⟨#[49]⟩, .string ⟨#[50]⟩, .string ⟨#[53]⟩, .string ⟨#[48,46,53]⟩]:Array Value)[m]? =some (.string t):=by
 match m,h with
 |0,_=>exact ⟨_,by decide,rfl⟩
 |1,_=>exact ⟨_,by decide,rfl⟩
 |2,_=>exact ⟨_,by decide,rfl⟩
 |3,_=>exact ⟨_,by decide,rfl⟩
 |4,_=>exact ⟨_,by decide,rfl⟩
theorem ae4 (m:Nat) (h:m<2): ∃t:ByteArray,t.size≤5∧(#[Value.string ⟨#[116,114,117,101]⟩, .string ⟨#[102,97,108,115,101]⟩]:Array Value)[m]? =some (.string t):=by
 match m,h with
 |0,_=>exact ⟨_,by decide,rfl⟩
 |1,_=>exact ⟨_,by decide,rfl⟩
theorem ae5 (m:Nat) (h:m<3): ∃t:ByteArray,t.size≤5∧(#[Value.string ⟨#[]⟩, .string ⟨#[97]⟩, .string ⟨#[66,99]⟩]:Array Value)[m]? =some (.string t):=by
 match m,h with
 |0,_=>exact ⟨_,by decide,rfl⟩
 |1,_=>exact ⟨_,by decide,rfl⟩
 |2,_=>exact ⟨_,by decide,rfl⟩
theorem ae6 (m:Nat) (h:m<7): ∃t:ByteArray,t.size≤5∧(#[Value.string ⟨#[43]⟩, .string ⟨#[45]⟩, .string ⟨#[42]⟩, .string ⟨#[47]⟩, .string ⟨#[37]⟩, .string ⟨#[43]⟩, .string ⟨#[42]⟩]:Array Value)[m]? =some (.string t):=by
 match m,h with
 |0,_=>exact ⟨_,by decide,rfl⟩
 |1,_=>exact ⟨_,by decide,rfl⟩
 |2,_=>exact ⟨_,by decide,rfl⟩
 |3,_=>exact ⟨_,by decide,rfl⟩
 |4,_=>exact ⟨_,by decide,rfl⟩
 |5,_=>exact ⟨_,by decide,rfl⟩
 |6,_=>exact ⟨_,by decide,rfl⟩
theorem ae7 (m:Nat) (h:m<6): ∃t:ByteArray,t.size≤5∧(#[Value.string ⟨#[60]⟩, .string ⟨#[60,61]⟩, .string ⟨#[62]⟩, .string ⟨#[62,61]⟩, .string ⟨#[61,61]⟩, .string ⟨#[33,61]⟩]:Array Value)[m]? =some (.string t):=by
 match m,h with
 |0,_=>exact ⟨_,by decide,rfl⟩
 |1,_=>exact ⟨_,by decide,rfl⟩
 |2,_=>exact ⟨_,by decide,rfl⟩
 |3,_=>exact ⟨_,by decide,rfl⟩
 |4,_=>exact ⟨_,by decide,rfl⟩
 |5,_=>exact ⟨_,by decide,rfl⟩
theorem ae8 (m:Nat) (h:m<2): ∃t:ByteArray,t.size≤5∧(#[Value.string ⟨#[38,38]⟩, .string ⟨#[124,124]⟩]:Array Value)[m]? =some (.string t):=by
 match m,h with
 |0,_=>exact ⟨_,by decide,rfl⟩
 |1,_=>exact ⟨_,by decide,rfl⟩
theorem lg {P:Program} {w:World} {ops:Array Oper} {o:Oper} {a:Act} {K:Act→World→Prop} {Q:Exit→Act→World→Prop} {E:Prop} (Cq:o.guard=none) (s x:Operand) (t:TypeId)
  (ho:o.op= .call {callee:= .builtin .append,args:= #[s,x],argTypes:= #[t,t]})
  (base:Nat) (e:TypeId) (i:TypeInfo) (z:Value) (size bytes:Nat) (ht:P.underlying t=some (.slice e)) (hi:P.info? e=some i) (hz:i.zero=some z)
  (Dl:i.size=size) (H0:i.bytes=bytes) (Hk:z.cells.size=size) (Au:0<size)
  (v:Value) (n:Nat) (xs:List Value) (hs:a.eval s=v) (Ad:w.ownsRow base e size v n xs)
  (base2:Nat) (u:Value) (m:Nat) (ys:List Value) (hx:a.eval x=u) (BM:w.ownsRow base2 e size u m ys) (h1: ∀u∈ys,u.oneCell'=true)
  (EV:n+m≤maxLen) (Cy:(n+m)*bytes≤140737488355328) (Bx:base≤w.heap.size)
  (h: ∀v' w',w'.ownsRow base e size v' (n+m) (xs++ys)→w.grownBy w' v.ownBlock→K (a.put o.dst v') w'):
  if Region.wanted o (yielded ops a.tmps)=true then Oper.wp P o a w K Q else E:=by
 have hw:Region.wanted o (yielded ops a.tmps)=true:=by simp [Region.wanted,Cq]
 rw [if_pos hw]
 rcases BM.2 with ⟨rfl,rfl⟩|⟨g,cap,cur,rfl,-⟩
 ·have hy:ys=[]:=List.eq_nil_of_length_eq_zero (by have:=BM.1;omega)
  subst hy;have Gs:=run_append_owned_none (P:=P) (w:=w) base t o.type e i size ht hi v n xs Ad;unfold Oper.wp
  simp [execOp,ho,resolve,invoke,builtin,hs,hx,Gs,Result.andThen]
  exact h v w (by simpa using Ad) (World.grownBy.refl _ _)
 ·refine wp_append_own w s x t ho base e i z size bytes ht hi hz Dl H0 Hk Au v n xs hs Ad ⟨g,0,none⟩ m cap ys hx BM.1 ?_ h1 EV Cy Bx (fun v' w' a1 a2 _=>h v' w' a1 a2)
  intro j y hj
  have Ab:j<ys.length:=by
   by_cases hk:j<ys.length
   ·exact hk
   ·rw [List.getElem?_eq_none (by omega)] at hj;cases hj
  rw [adR,BM.cellAt j (by have:=BM.1;omega)];exact hj
theorem uM {ops:Array Oper} {o:Oper} {K:Act→World→Prop} {Q:Exit→Act→World→Prop} {E:Prop} {A:Act} {B R P P' c c':Nat} {w wr:World} {va vb:Value} {l k:List Cl} (Cq:o.guard=none) (hA:AfT B R w wr va l P c) (hB:AfT B R w wr vb k P' c') (s x:Operand)
  (ho:o.op= .call {callee:= .builtin .append,args:= #[s,x],argTypes:= #[30,30]}) (hs:A.eval s=va) (hx:A.eval x=vb) (hc:c+c'≤1000)
  (h: ∀g n l' w',AfT B R w w' (.slice g l'.length n) l' P (c+c')→K (A.put o.dst (.slice g l'.length n)) w'):if Region.wanted o (yielded ops A.tmps)=true then Oper.wp Tryz.prog o A wr K Q else E:=by
 obtain ⟨i0,hi,Az,Ax,AC⟩:=info_parts f5;have h1:=hA.len;have h2:=hB.len;refine lg Cq s x 30 ho w.heap.size 110 i0 (.agg #[.int .i64 0, .string ByteArray.empty, .int .i64 0]) 3 32 Tryz.underlying30 hi Az Ax AC rfl (by decide) va l.length (ai l) hs hA.own w.heap.size vb k.length (ai k) hx hB.own (bU _) (by unfold maxLen;omega) (by omega) hA.gr.size ?_;intro v' w' Ad Ac;rw [←agE,←dt] at Ad;obtain ⟨a,n,rfl⟩:=aN Ad;have ha:=hA.lt;exact h a n (l++k) w' ⟨⟨hA.rd.kept Ac (fun q hq=>by have:=(hA.own.lt q hq).1;omega),dZ hA.gr Ac (fun q hq=>(hA.own.lt q hq).1),ha⟩,Ad,fun c hc=>(List.mem_append.mp hc).elim (hA.few c) (hB.few c),by rw [agE];have:=hA.pos;omega,by rw [agE];omega⟩
theorem sq (D:Int) (K C:Nat) (Va:1≤D) (Sw:D≤5) (hC:C≤19)
 (ih:1<D→ ∀(k:Int),k=0∨k=1∨k=2→ ∀(R p:Nat) (w:World),p+K<1073741824→Rdm w R p→Calls Tryz.prog 125 #[.pointer (some ⟨R,0,none⟩), .int .i64 (D-1), .int .i64 k] w (abf R p K C w))
 (k:Int) (hk:k=0∨k=1∨k=2) (R p:Nat) (w:World) (hp:p+(5+3*K)<1073741824) (h:Rdm w R p):
 Calls Tryz.prog 125 #[.pointer (some ⟨R,0,none⟩), .int .i64 D, .int .i64 k] w (abf R p (5+3*K) (1+3*C) w):=by
 have IH:=agC ih;clear ih;have B0:=agC (show BfT R w w p from ⟨h,World.grownBy.refl _ _,h.lt⟩);clear h;have HK:=agC hk;have EG:IntKind.i64.wrap (D-1)=D-1:=IntWalk.i64_in _ (by omega)
 go_enter Tryz.func125,Tryz.ntmps125
 by_cases hb: ∃w1,D≤1∧w1=w
 case' pos=>
  obtain ⟨w1,hd,hw⟩:=hb;have B1:=agC (show BfT R w w1 (p+1) by rw [hw];exact B0.out.more (by omega));subst hw
 case' neg=>
  have hd1:1<D:=by
   by_cases hd:D≤1
   ·exact absurd ⟨w,hd,rfl⟩ hb
   ·omega
  clear hb;go_wp2_with fail;refine (aj R p 4 _ (by omega) B0.out.rd).mono ?_;rintro e w1 ⟨j,rfl,-,-,-,hr,hg,-⟩;have B1:=agC (B0.out.to hr hg);clear hr hg
  by_cases hj:j=0
  case' pos=>subst hj
  case neg=>
   have MW:(j==0)=false:=beq_eq_false_iff_ne.mpr hj;go_wp2_with fail;refine (aj R (p+1) _ _ (by omega) (B1.out.al _).rd).mono ?_;rintro e w2 ⟨x,rfl,-,-,-,hr,hg,-⟩;have B2:=agC ((B1.out.al _).to hr hg);clear hr hg
   by_cases hx:x=0
   case pos=>
    subst hx;go_wp2_with fail;have H1:=agC (B2.out.one (B:=5) 9 3 ByteArray.empty (by decide));refine (IH.out hd1 _ (by first|exact .inl rfl|exact .inr (.inl rfl)|exact .inr (.inr rfl)) R _ _ (by omega) H1.out.rd).mono ?_;intro e w2a hd;obtain ⟨u2,k2,rfl,ha,hb⟩:=H1.out.call hd;have Jr:=agC ha;have Ak:=agC hb;clear ha hb hd
    go_wp2_with (at_builtin;refine lK rfl Jr.out Ak.out _ _ rfl rfl rfl (by omega) ?_;intro g2 n2 l2 w2 a2;have H2:=agC a2;have Oh: ¬(60:Int)<(l2.length:Int):=(by have:=a2.len;omega);clear a2)
    refine (IH.out hd1 _ (HK.out) R _ _ (by omega) H2.out.rd).mono ?_;intro e w3a hd;obtain ⟨u3,k3,rfl,ha,hb⟩:=H2.out.call hd;have Kj:=agC ha;have Ap:=agC hb;clear ha hb hd
    go_wp2_with (at_builtin;refine lK rfl Kj.out Ap.out _ _ rfl rfl rfl (by omega) ?_;intro g3 n3 l3 w3 a3;have H3:=agC a3;have St: ¬(60:Int)<(l3.length:Int):=(by have:=a3.len;omega);clear a3)
    refine (IH.out hd1 _ (HK.out) R _ _ (by omega) H3.out.rd).mono ?_;intro e w4a hd;obtain ⟨u4,k4,rfl,ha,hb⟩:=H3.out.call hd;have Hh:=agC ha;have Aw:=agC hb;clear ha hb hd
    go_wp2_with (at_builtin;refine lK rfl Hh.out Aw.out _ _ rfl rfl rfl (by omega) ?_;intro g4 n4 l4 w4 a4;have H4:=agC a4;have U8: ¬(60:Int)<(l4.length:Int):=(by have:=a4.len;omega);clear a4)
    go_wp2;go_ret;exact H4.out.done (by omega) (by omega)
   case neg=>
    have Qv:(x==0)=false:=beq_eq_false_iff_ne.mpr hx;clear HK
    rcases hk with rfl|rfl|rfl
    case inr.inr=>
     go_wp2_with fail;have H1:=agC (B2.out.one (B:=5) 8 2 ⟨#[43]⟩ (by decide));refine (IH.out hd1 _ (by first|exact .inl rfl|exact .inr (.inl rfl)|exact .inr (.inr rfl)) R _ _ (by omega) H1.out.rd).mono ?_;intro e w2a hd;obtain ⟨u2,k2,rfl,ha,hb⟩:=H1.out.call hd;have Jr:=agC ha;have Ak:=agC hb;clear ha hb hd
     go_wp2_with (at_builtin;refine lK rfl Jr.out Ak.out _ _ rfl rfl rfl (by omega) ?_;intro g2 n2 l2 w2 a2;have H2:=agC a2;have Oh: ¬(60:Int)<(l2.length:Int):=(by have:=a2.len;omega);clear a2)
     refine (IH.out hd1 _ (by first|exact .inl rfl|exact .inr (.inl rfl)|exact .inr (.inr rfl)) R _ _ (by omega) H2.out.rd).mono ?_;intro e w3a hd;obtain ⟨u3,k3,rfl,ha,hb⟩:=H2.out.call hd;have Kj:=agC ha;have Ap:=agC hb;clear ha hb hd
     go_wp2_with (at_builtin;refine lK rfl Kj.out Ap.out _ _ rfl rfl rfl (by omega) ?_;intro g3 n3 l3 w3 a3;have H3:=agC a3;have St: ¬(60:Int)<(l3.length:Int):=(by have:=a3.len;omega);clear a3)
     go_wp2;go_ret;exact H3.out.done (by omega) (by omega)
    case' inl=>
     go_wp2_with fail;refine (aj R (p+2) _ _ (by omega) B2.out.rd).mono ?_;rintro e w3 ⟨y,rfl,-,-,-,hr,hg,-⟩;have B3:=agC (B2.out.to hr hg);clear hr hg
     by_cases hy:y=0
     case' neg=>have QE:(y==0)=false:=beq_eq_false_iff_ne.mpr hy
     case pos=>
      subst hy;go_wp2_with fail;have H1:=agC (B3.out.one (B:=5) 7 1 ⟨#[45]⟩ (by decide));refine (IH.out hd1 _ (by first|exact .inl rfl|exact .inr (.inl rfl)|exact .inr (.inr rfl)) R _ _ (by omega) H1.out.rd).mono ?_;intro e w2a hd;obtain ⟨u2,k2,rfl,ha,hb⟩:=H1.out.call hd;have Jr:=agC ha;have Ak:=agC hb;clear ha hb hd
      go_wp2_with (at_builtin;refine lK rfl Jr.out Ak.out _ _ rfl rfl rfl (by omega) ?_;intro g2 n2 l2 w2 a2;have H2:=agC a2;have Oh: ¬(60:Int)<(l2.length:Int):=(by have:=a2.len;omega);clear a2)
      go_wp2;go_ret;exact H2.out.done (by omega) (by omega)
     case' neg=>obtain ⟨w4,IK,B4⟩: ∃w4,w4=w3∧Hid (BfT R w w4 (p+2+1+1)):=⟨w3,rfl,agC (B3.out.more (by omega))⟩
     case' neg=>subst IK
    case' inr.inl=>
     go_wp2_with fail;refine (aj R (p+2) _ _ (by omega) B2.out.rd).mono ?_;rintro e w3 ⟨y,rfl,-,-,-,hr,hg,-⟩;have B3:=agC (B2.out.to hr hg);clear hr hg
     by_cases hy:y=0
     case' neg=>have QE:(y==0)=false:=beq_eq_false_iff_ne.mpr hy
     case pos=>
      subst hy;go_wp2_with fail;have H1:=agC (B3.out.one (B:=5) 7 1 ⟨#[33]⟩ (by decide));refine (IH.out hd1 _ (by first|exact .inl rfl|exact .inr (.inl rfl)|exact .inr (.inr rfl)) R _ _ (by omega) H1.out.rd).mono ?_;intro e w2a hd;obtain ⟨u2,k2,rfl,ha,hb⟩:=H1.out.call hd;have Jr:=agC ha;have Ak:=agC hb;clear ha hb hd
      go_wp2_with (at_builtin;refine lK rfl Jr.out Ak.out _ _ rfl rfl rfl (by omega) ?_;intro g2 n2 l2 w2 a2;have H2:=agC a2;have Oh: ¬(60:Int)<(l2.length:Int):=(by have:=a2.len;omega);clear a2)
      go_wp2;go_ret;exact H2.out.done (by omega) (by omega)
     case' neg=>
      go_wp2_with fail;refine (aj R (p+2+1) _ _ (by omega) B3.out.rd).mono ?_;rintro e w4 ⟨z,rfl,-,-,-,hr,hg,-⟩;have B4:=agC (B3.out.to hr hg);clear hr hg
      by_cases hz:z=0
      case' pos=>subst hz
      case' neg=>have Hi:(z==0)=false:=beq_eq_false_iff_ne.mpr hz
    all_goals
     have Dd:=B4.out.rd.lt;go_wp2_with fail
     go_region_law
      ((first
        |(go_simp;go_at_call 79;(with_reducible refine (aj R (p+2+1+1) _ _ ?_ ?_).mono ?_);(focus omega);(focus (first|exact (B4.out.al _).dr.rd|exact B4.out.dr.rd));rintro e wp ⟨i,rfl,Fp,DX,-,hr,hg,-⟩;have Gt:=DX (by omega);obtain ⟨i1,rfl⟩:=agG Fp;(first|(have hm:i1<2:=(by omega);obtain ⟨t,ht,Aq⟩:=ae8 i1 hm)|(have hm:i1<6:=(by omega);obtain ⟨t,ht,Aq⟩:=ae7 i1 hm)|(have hm:i1<7:=(by omega);obtain ⟨t,ht,Aq⟩:=ae6 i1 hm));(first|(have Oi:=litC Dd hg Aq;have Kl: ¬w4.heap.size=R:=(by omega);have BP:=agC ((B4.out.al _).dr.to hr hg))|(have Oi:=agl (w:=wp) (t:=9) Aq;have Kl: ¬wp.heap.size=R:=(by have:=hr.lt;omega);have BP:=agC (B4.out.dr.to hr hg)));have Su:=agC Aq;clear DX hg hr Aq)
        |(go_simp;go_at_call 125;(with_reducible refine (IH.out hd1 _ ?_ R (p+2+1+1+1) _ ?_ ?_).mono ?_);(focus (first|exact .inl rfl|exact .inr (.inl rfl)));(focus omega);(focus (first|exact BP.out.rd|exact (BP.out.al _).rd|exact ((BP.out.al _).al _).rd));intro e w5 hd;(first|(obtain ⟨v5,l5,rfl,ta,tb⟩:=AfT.call (BP.out.one 8 2 t ht) hd;have H8:=agC ta;have H5:=agC tb;clear ta tb)|(obtain ⟨v5,l5,rfl,ta,tb⟩:=AfT.call ((BP.out.al _).one 8 2 t ht) hd;rw [show∀o,(wp.alloc o).heap.size=wp.heap.size+1 from fun o=>by simp] at ta;have H8:=agC ta;have H5:=agC tb;clear ta tb)|(obtain ⟨v5,l5,rfl,tb⟩:=BfT.call BP.out hd;have H5:=agC tb;clear tb;(first|have QF:=tq hd Oi Kl|have QF:=agl (w:=w5) (t:=9) Su.out))|(obtain ⟨v5,l5,rfl,tb⟩:=BfT.call (BP.out.al _) hd;have H5:=agC tb;clear tb;have QF:=tq hd Oi Kl));clear hd)
        |((first|refine uM (by rfl) H8.out H5.out _ _ (by rfl) (by rfl) (by rfl) (by omega) ?_|refine uM (by rfl) (H5.out.toBfT.one 8 2 t ht) (H5.out.al _) _ _ (by rfl) (by rfl) (by rfl) (by omega) ?_|refine uM (by rfl) ((H5.out.toBfT.al _).one 8 2 t ht) ((H5.out.al _).al _) _ _ (by rfl) (by rw [show∀o,(w5.alloc o).heap.size=w5.heap.size+1 from fun o=>by simp];rfl) (by rfl) (by omega) ?_);intro g6 n6 l6 w6 a6;have H6:=agC a6;clear a6)))
    all_goals
     (try go_wp2_with fail)
     refine (IH.out hd1 _ (by first|exact .inl rfl|exact .inr (.inl rfl)|exact .inr (.inr rfl)) R _ _ (by omega) H6.out.rd).mono ?_;intro e w7a hd;obtain ⟨u7,k7,rfl,ha,hb⟩:=H6.out.call hd;have Sv:=agC ha;have Em:=agC hb;clear ha hb hd
     go_wp2_with (at_builtin;refine lK rfl Sv.out Em.out _ _ rfl rfl rfl (by omega) ?_;intro g7 n7 l7 w7 a7;have H7:=agC a7;have Km: ¬(60:Int)<(l7.length:Int):=(by have:=a7.len;omega);clear a7)
     go_wp2;go_ret;exact H7.out.done (by omega) (by omega)
 all_goals
  clear HK
  rcases hk with rfl|rfl|rfl
 all_goals
  go_wp2_with fail;refine (aj R (p+1) _ _ (by omega) (B1.out.al _).rd).mono ?_;rintro e w9 ⟨i,rfl,Fp,DX,-,hr,hg,-⟩;have Gt:=DX (by omega);obtain ⟨i1,rfl⟩:=agG Fp
  first
   |have hm:i1<2:=by omega
    obtain ⟨t,ht,Aq⟩:=ae4 i1 hm
   |have hm:i1<3:=by omega
    obtain ⟨t,ht,Aq⟩:=ae5 i1 hm
   |have hm:i1<5:=by omega
    obtain ⟨t,ht,Aq⟩:=ae3 i1 hm
  have hcell:=cX B1.out.rd.lt hg Aq;have B9:=agC ((B1.out.al _).to hr hg);clear DX hg hr Aq;go_wp2;go_ret;exact (B9.out.one _ _ t ht).done (by omega) (by omega)
abbrev TypA (d:Nat):Prop:= ∀(k:Int),k=0∨k=1∨k=2→ ∀(R p:Nat) (w:World),p+kt d<1073741824→Rdm w R p→
  Calls Tryz.prog 125 #[.pointer (some ⟨R,0,none⟩), .int .i64 (d:Int), .int .i64 k] w (abf R p (kt d) (ct d) w)
theorem xE (d:Nat) (h1:1≤d) (h4:d≤4):TypA d:=by
 induction d with
 |zero=>omega
 |succ d ih=>
  intro k hk R p w hp hr
  by_cases hd:d=0
  ·subst hd
   exact sq 1 4 0 (by omega) (by omega) (by omega) (fun h=>absurd h (by omega)) k hk R p w hp hr
  ·have hc:ct (d+1)=1+3*ct d:=by rw [ct,if_neg hd]
   have h3:ct d≤19:=by
    have:d=1∨d=2∨d=3:=by omega
    rcases this with rfl|rfl|rfl<;>decide
   rw [hc]
   have e:((d+1:Nat):Int)-1=(d:Int):=by omega
   exact sq ((d+1:Nat):Int) (kt d) (ct d) (by omega) (by omega) h3 (fun _=>by rw [e];exact ih (by omega) (by omega)) k hk R p w hp hr
theorem yQ (d:Nat) (h1:1≤d∧d≤4) (k:Int) (hk:0≤k∧k<3) (R p:Nat) (w:World) (hp:p+800<1073741824) (h:Rdm w R p):
  Calls Tryz.prog 125 #[.pointer (some ⟨R,0,none⟩), .int .i64 (d:Int), .int .i64 k] w (abf R p 800 60 w):=by
 have hK:kt d≤800∧ct d≤60:=by
  have:d=1∨d=2∨d=3∨d=4:=by omega
  rcases this with rfl|rfl|rfl|rfl<;>decide
 refine (xE d h1.1 h1.2 k (by omega) R p w (by omega) h).mono ?_;rintro e w' ⟨v,l,he,ho,hs,hl,hc,hr,hg⟩;exact ⟨v,l,he,ho,hs,hl,by omega,hr.mono (by omega),hg⟩
end Go.Proofs.YtegdjjjpoahamaaGreatDoor
