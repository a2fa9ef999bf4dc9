/-
  Part of the proof of FnReadDocument.
-/
import Derived.Test.YtegdjjjpoahamaaGreatDoorQQRbc
import Derived.Test.YtegdjjjpoahamaaGreatDoorQQRbf
import Derived.Test.YtegdjjjpoahamaaGreatDoorQQRam
import Derived.Deep.AppendLies
set_option linter.unusedVariables false
set_option maxHeartbeats 8000000
set_option maxRecDepth 100000
namespace Go.Proofs.YtegdjjjpoahamaaGreatDoor
open Go.RowKit
def SpOK (s:ByteArray) (c:List Cl):Prop:=Rs (cg s) .choice 0 0 c (cg s).length 0∧okE c=true
theorem yo (l:List Int) (k:Nat) (h:k<l.length):(l.map (Value.int .i64))[k]? =some (.int .i64 l[k]):=by simp [h]
theorem yp (l:List ByteArray) (k:Nat) (h:k<l.length):(fN l)[k]? =some (.string l[k]):=by simp [fN,h]
theorem RowTk.of_own {w:World} {B:Nat} {e1 e2:TypeId} {vW vK:Value} {tk:List Tk} (h1:w.ownsRow B e1 1 vW tk.length (fN (tk.map (·.2)))) (h2:w.ownsRow B e2 1 vK tk.length ((tk.map (·.1)).map (Value.int .i64))):RowTk w vW vK tk:=by
 constructor
 ·rcases h1.2 with ⟨rfl,h0⟩|⟨g,cap,cur,rfl,hg,hh,q1,q2,_⟩
  ·exact ⟨none,0,by rw [h0],by omega,by unfold maxLen;omega, .inl (List.length_eq_zero_iff.mp h0)⟩
  ·refine ⟨_,cap,rfl,q1,q2, .inr ⟨g,rfl,(h1.lt g rfl).2,fun k hk=> ?_⟩⟩
   rw [h1.cellAt k (by omega),yp _ k (by simpa using hk)];simp
 ·rcases h2.2 with ⟨rfl,h0⟩|⟨g,cap,cur,rfl,hg,hh,q1,q2,_⟩
  ·exact ⟨none,0,by rw [h0],by omega,by unfold maxLen;omega, .inl (List.length_eq_zero_iff.mp h0)⟩
  ·refine ⟨_,cap,rfl,q1,q2, .inr ⟨g,rfl,(h2.lt g rfl).2,fun k hk=> ?_⟩⟩
   rw [h2.cellAt k (by omega),yo _ k (by simpa using hk)];simp
theorem kD {w w':World} {B n:Nat} {e:TypeId} {s:Nat} {v u:Value} {xs:List Value} (h:w.ownsRow B e s v n xs) (Gf: ∀x,u.ownBlock=some x→v.ownBlock≠some x) (hg:w.grownBy w' u.ownBlock):w'.ownsRow B e s v n xs:=
 h.kept hg (by
  cases hv:v.ownBlock with
  |none=>exact .inl rfl
  |some x=>exact .inr (fun he=>Gf x he.symm hv))
theorem aaM {w:World} {g:Nat} (hg:w.heap.size=g) (o:Obj):(w.alloc o).heap[g]? =some o:=by subst hg;exact heap_alloc_new w o
theorem yq {wr:World} {B n:Nat} {e:TypeId} {sz:Nat} {vW vK:Value} {xs:List Value} {gg:Nat} (Gf: ∀x,vW.ownBlock=some x→vK.ownBlock≠some x) (hK:wr.ownsRow B e sz vK n xs) (Bc:vW.ownBlock=some gg∨gg=wr.heap.size+1):vK.ownBlock≠some gg:=by
 rcases Bc with h|h
 ·exact Gf gg h
 ·intro he
  have:=(hK.lt gg he).2
  omega
def TkL (tk:List Tk) (w1:World) (i:Value) (wr:World):Prop:=
 ∃(k:Nat) (vW vK:Value),i= .int .i64 (k:Int)∧k≤tk.length∧BlkS wr w1.heap.size #[vW,vK, .int .i64 0, .int .i64 0]∧wr.ownsRow (w1.heap.size+1) 9 1 vW k (fN ((tk.take k).map (·.2)))∧wr.ownsRow (w1.heap.size+1) 3 1 vK k (((tk.take k).map (·.1)).map (Value.int .i64))∧
  (∀x,vW.ownBlock=some x→vK.ownBlock≠some x)∧Below w1.heap.size w1 wr
theorem TkL.start (tk:List Tk) (w1:World):TkL tk w1 (.int .i64 0) (w1.alloc (.cells #[.slice none 0 0, .slice none 0 0, .int .i64 0, .int .i64 0] 156)):=
 ⟨0,_,_,rfl,agH _,BlkS.new w1 _,World.ownsRow_nil _ _ _ _,World.ownsRow_nil _ _ _ _,fun x hx=>by simp [Value.ownBlock] at hx,(Below.refl _ _).alloc (agD _) _⟩
theorem uB (s:ByteArray):(cg s).length=(aI s).length:=by simp [cg]
theorem af0 {s:ByteArray} {k:Nat} (h:k<(aI s).length):(cg s).take (k+1)=(cg s).take k++[((aI s)[k].1,s.extract (aI s)[k].2.1 (aI s)[k].2.2)]:=by
 rw [List.take_succ_eq_append_getElem (by rw [uB];exact h)];simp [cg]
theorem SpOK.uniq {s:ByteArray} {c d:List Cl} (h:SpOK s c) (k:SpOK s d):c=d:=(h.1.uniq k.1).1
theorem SpOK.some {s:ByteArray} {c:List Cl} (h:SpOK s c):fineC c:=by
 obtain ⟨Ci,En,-⟩:=(dE c).mp h.2;exact ⟨Ci,fun x hx=>by rw [List.all_eq_true] at En;exact En x hx⟩
theorem adi {s:ByteArray} (h:aI s=[]) (c:List Cl): ¬SpOK s c:=by
 rintro ⟨h1,h2⟩;have:=h1.le.1;rw [uB,h] at this;simp only [Job.held,List.length_nil] at this;have:c=[]:=List.length_eq_zero_iff.mp (by omega);subst this;obtain ⟨-,-,d,-,hx⟩:=(dE []).mp h2;generalize hn:(1:Nat)=n at hx
 cases hx with
 |nil=>cases hn
 |cons hm=>simp [amL] at hm
theorem ny (s:ByteArray):(∀x∈cg s,x.2.size≤20000)∧ ∀x∈cg s,1≤x.1∧x.1≤4:=by
 obtain ⟨f1,f2,f3,f4⟩:=gm s
 have AP:aI s≠[]→s.size≤20000:=by
  intro h
  by_cases hk:okT s=true
  ·exact (su s (.inr hk)).2 h
  ·exact absurd (by rw [aI,if_neg hk]) h
 constructor
 ·intro x hx
  simp only [cg,List.mem_map] at hx;obtain ⟨y,hy,rfl⟩:=hx;have:=AP (List.ne_nil_of_mem hy);have:=f2 y hy;simp only [ByteArray.size_extract];omega
 ·intro x hx
  simp only [cg,List.mem_map] at hx;obtain ⟨y,hy,rfl⟩:=hx;exact f4 y hy
theorem rX {s:ByteArray} {l:List Cl} (h:Rs (cg s) .choice 0 0 l (cg s).length 0):co l:=by
 obtain ⟨n,hn⟩:=h.strength (by rw [xw (agD _)];decide);intro c hc;have:=hn.words (B:=20000) (by omega) (fun p k w hp=>(ny s).1 _ (List.mem_of_getElem? hp)) (fun x hx=>by cases hx) c hc
 omega
theorem adj {w X:World} {g:Nat} (hg:g=X.heap.size) (hb:w.heap.size≤X.heap.size):(X.alloc (.cells #[] 110)).ownsRow w.heap.size 110 3 (.slice (some ⟨g,0,none⟩) 0 0) 0 (ai []):=by
 subst hg;exact ⟨rfl, .inr ⟨X.heap.size,0, #[],rfl,hb,heap_alloc_new X _,agD _,agH _,rfl,rfl⟩⟩
theorem qC (s:ByteArray) (w:World) (hs:s.size≤2097152):
 Calls Tryz.prog 106 #[.string s] w fun e w'=>Below w.heap.size w w'∧((∃v c,e= .returned (.tuple #[v, .bool true])∧SpOK s c∧w'.ownsRow w.heap.size 110 3 v c.length (ai c)∧c.length≤60)∨((∃v,e= .returned (.tuple #[v, .bool false])∧w'.ownsRow w.heap.size 110 3 v 0 (ai []))∧ ∀c,¬SpOK s c)):=by
 go_enter Tryz.func106,Tryz.ntmps106
 go_wp2_with fail;refine (o6 s _ (by unfold maxLen;omega)).mono ?_;rintro e w1 ⟨v,rfl,Eo,Aa⟩;obtain ⟨h0,ao,cap,rfl,t1,t2,t3⟩:=RowT.of_own Eo;have Af:=agC Aa;have Gd:=agC t3;clear Eo Aa t3;unfold maxLen at t2;go_wp2_with fail;have Du:=uB s;obtain ⟨f1,f2,f3,f4⟩:=gm s;have NO:=agC f2;have HP:=agC (fun w' (h:Below w1.heap.size w1 w')=>(Af.out.trans (h.mono Af.out.size)));obtain ⟨iS,R4,NV,NW,NX⟩:=info_parts m8;obtain ⟨iI,R5,NY,NZ,N0⟩:=info_parts ade
 go_loopw [7] (fun i wr=>TkL (cg s) w1 i wr) (fun i _=>20001-(intOf i).toNat)
 case atStart=>exact TkL.start _ _
 case round=>
  obtain ⟨k,vW,vK,rfl,hk,DD,Qh,Qi,Gf,hb⟩:=hrel;have DR:=agC DD;have D1:=agC Qh;have Bj:=agC Qi;have Jg:=agC Gf;have HB:=agC hb;clear DD Qh Qi Gf hb;rw [Du] at hk;obtain ⟨⟨g0,g1,g2,g3⟩,y0,y1,y2,y3⟩:=DR.out.all;have UU:=DR.out.lt
  by_cases Ab:k<(aI s).length
  ·obtain ⟨b,rfl,KN,cc⟩:=Gd.out.resolve_left (by omega)
   obtain ⟨e0,e1,e2⟩:=rV _ k Ab;have NP:=cc _ _ e0;have d1:=(HB.out.cell (p:=⟨b,k*3+1,none⟩) KN).trans (cc _ _ e1);have d2:=(HB.out.cell (p:=⟨b,k*3+2,none⟩) KN).trans (cc _ _ e2);have CN:=NO.out _ (List.getElem_mem Ab);have MN:=agC (af0 Ab);clear cc e0 e1 e2;generalize (aI s)[k]=x at*;obtain ⟨x1,x2,x3⟩:=x;simp only at NP d1 d2 CN MN;obtain ⟨q1,q2⟩:=CN
   have Qf:(0:Int)≤(k:Int):=by omega
   have Qg:(k:Int)<((aI s).length:Int):=by omega
   have RV:(x2:Int)≤(x3:Int):=by omega
   have RW:(x3:Int)≤(s.size:Int):=by omega
   have RX:(0:Int)≤(x2:Int):=by omega
   have RY:=agC (show∀w',Below w1.heap.size w1 w'→w'.cell? ⟨b,k*3,none⟩=some (.int .i64 x1) from fun w' h=>(h.cell (p:=⟨b,k*3,none⟩) KN).trans NP)
   have UV: ¬b=w1.heap.size:=by omega
   have UW: ¬w1.heap.size=b:=by omega
   clear NP;go_wp2_with fail
   go_region_law
    ((refine step_append_lies _ (by rfl) _ _ _ (by rfl) (w1.heap.size+1) 9 iS _ 1 16 Tryz.underlying38 R4 NV NW NX rfl (by omega) vW k _ (by rfl) ((D1.out.alloc _).drew)
       ⟨wr.heap.size,0,none⟩ 1 1 [.string (s.extract x2 x3)] (by rfl) (by rfl) (World.news_of_block (cs:= #[.string (s.extract x2 x3)]) (t:=9) (fr:=(0,0)) (heap_alloc_new wr _)) (by simp [Value.oneCell'])
       (by omega) (by unfold maxLen;omega) (by omega) (by simp;omega) (wr.heap.size+1) (by simp) ?_;intro gg cap' w2 Ah Ac Bc ES;obtain ⟨⟨j0,j1,j2,j3⟩,z0,z1,z2,z3⟩:=(((DR.out.alloc _).drew).grown Ac (fun he=>by have:=(D1.out.lt _ he.symm).1;omega)).all))
   all_goals
    have He:=agC (yq Jg.out Bj.out Bc);have Ak:=agC (((HB.out.alloc HB.out.size (.cells #[.string (s.extract x2 x3)] 9)).drew).grown Ac (by have:=HB.out.size;simp;omega) (fun q hq=>by have:=(D1.out.lt _ hq).1;omega));have Jh:=agC ((((DR.out.alloc (.cells #[.string (s.extract x2 x3)] 9)).drew).grown Ac (fun he=>by have:=(D1.out.lt _ he.symm).1;omega)).set_ 0 (.slice (some ⟨gg,0,none⟩) (k+1) cap'));have NQ:=agC (gy Ah 0 (.slice (some ⟨gg,0,none⟩) (k+1) cap'));have Hw:=agC (gy (kD ((Bj.out.alloc (.cells #[.string (s.extract x2 x3)] 9)).drew) Jg.out Ac) 0 (.slice (some ⟨gg,0,none⟩) (k+1) cap'));have BG:=agC ES
    have UX:w1.heap.size<w2.heap.size:=by have:=Jh.out.lt;simpa [World.setCell] using this
    have dk:=RY.out w2 Ak.out;clear Ah Ac Bc;go_wp2_with fail
    go_region_law
     ((refine step_append_lies _ (by rfl) _ _ _ (by rfl) (w1.heap.size+1) 3 iI _ 1 8 Tryz.underlying25 R5 NY NZ N0 rfl (by omega) vK k _ (by rfl) ((Hw.out.alloc _).drew)
        ⟨w2.heap.size,0,none⟩ 1 1 [.int .i64 x1] (by rfl) (by rfl) (World.news_of_block (cs:= #[.int .i64 x1]) (t:=3) (fr:=(0,0)) (aaM (by simp [World.setCell]) _)) (by simp [Value.oneCell'])
        (by omega) (by unfold maxLen;omega) (by omega) (by simp [World.setCell];omega) (w2.heap.size+1) (by simp [World.setCell]) ?_;intro g2 Hx w4 DU B7 KO Gg;obtain ⟨⟨l0,l1,l2,l3⟩,v0,v1,v2,v3⟩:=(((Jh.out.alloc _).drew).grown B7 (fun he=>by have:=(Hw.out.lt _ he.symm).1;omega)).all))
    all_goals
     have KM:=MN.out
     have NS:=agC (gy (kD ((NQ.out.alloc (.cells #[.int .i64 x1] 3)).drew) (fun x hx hy=>by
      have hg:gg=x:=by simpa [Value.ownBlock] using hy
      subst hg
      exact He.out hx) B7) 1 (.slice (some ⟨g2,0,none⟩) (k+1) Hx))
     have Cp:=agC (gy DU 1 (.slice (some ⟨g2,0,none⟩) (k+1) Hx));have NT:=agC ((((Jh.out.alloc (.cells #[.int .i64 x1] 3)).drew).grown B7 (fun he=>by have:=(Hw.out.lt _ he.symm).1;omega)).set_ 1 (.slice (some ⟨g2,0,none⟩) (k+1) Hx));have Aw:=agC (((((Ak.out.setCell (p:=⟨w1.heap.size,0,none⟩) (agD _) (.slice (some ⟨gg,0,none⟩) (k+1) cap')).alloc (by have:=Ak.out.size;simpa [World.setCell] using this) (.cells #[.int .i64 x1] 3)).drew).grown B7 (by have:=Ak.out.size;simp [World.setCell];omega) (fun q hq=>by have:=(Hw.out.lt _ hq).1;omega)).setCell (p:=⟨w1.heap.size,1,none⟩) (agD _) (.slice (some ⟨g2,0,none⟩) (k+1) Hx))
     have D2:=agC (show¬g2=gg from fun he=>by
      subst he
      rcases KO with h|h
      ·exact He.out h
      ·have:=BG.out;omega)
     clear DU B7 KO Gg;go_wp2;go_roundw
     case rel=>
      refine ⟨k+1,_,_,by go_num,by rw [Du];omega,NT.out, ?_, ?_, ?_,Aw.out⟩
      ·rw [KM,List.map_append,eT];exact NS.out
      ·rw [KM,List.map_append,List.map_append];exact Cp.out
      ·intro x hx hy
       simp only [Value.ownBlock,Option.some.injEq] at hx hy;exact D2.out (hy.trans hx.symm)
     case measure=>simp [intOf];omega
  ·obtain rfl:k=(aI s).length:=by omega
   have EF:(cg s).take (aI s).length=cg s:=by rw [←Du];exact List.take_length
   have Ji:=agC (show RowTk wr vW vK (cg s) from RowTk.of_own (by have:=D1.out;rw [EF] at this;rw [Du];exact this) (by have:=Bj.out;rw [EF] at this;rw [Du];exact this));have DT:=agC (HP.out wr HB.out);obtain ⟨⟨wa,wn,wc,rfl⟩,⟨ka,kn,kc,rfl⟩⟩:=Ji.out.sl;clear D1 Bj Jg
   have AJ: ¬((aI s).length:Int)<((aI s).length:Int):=by omega
   cases Aj:okT s with
   |false=>
    have CO:=agC (adi (s:=s) (by rw [aI,Aj];rfl));clear Aj;go_wp2;go_ret2;refine ⟨DT.out.alloc DT.out.size _, .inr ⟨⟨_,rfl, ?_⟩,CO.out⟩⟩;exact adj rfl DT.out.size
   |true=>
    clear Aj;have Au:=ny s;go_wp2_with fail;refine ((show Calls Tryz.prog 150 #[.agg #[.slice wa wn wc, .slice ka kn kc, .int .i64 0, .int .i64 0]] _ _ from (af4 (cg s) (by rw [Du];omega) Au.1 Au.2 (10*(cg s).length+8)).choice 0 0 _ _ _ (agH _) (by omega) (by omega) Ji.out)).mono ?_;rintro e w5 ⟨v2,W2,K2,l,q,d2,Hf,⟨⟨Bp,BE,Bq,rfl⟩,⟨Br,Bs,Bt,rfl⟩⟩,rfl,Bu,Gh,CL,AI,Am⟩;have AQ:=agC (DT.out.trans (AI.mono DT.out.size));have BQ:=agC Bu;have B6:=agC Am;clear Bu AI Am
    cases Hf with
    |false=>
     have CO:=agC (show∀c,¬SpOK s c from fun c hc=>(B6.out.elim (fun ⟨a,_⟩=>by cases a) (fun ⟨_,b⟩=>b):NoRd (cg s) .choice 0 0) ⟨c,_,_,hc.1,hc.some,by omega⟩);clear B6;go_wp2;go_ret2;refine ⟨(AQ.out.alloc AQ.out.size _).alloc (by have:=AQ.out.size;simp;omega) _, .inr ⟨⟨_,rfl, ?_⟩,CO.out⟩⟩;exact adj (by simp) (by have:=AQ.out.size;simp;omega)
    |true=>
     obtain ⟨-,hW,hK,hd2,De⟩:=B6.out.resolve_right (fun h=>by cases h.1);simp only [Value.slice.injEq] at hW hK;obtain ⟨rfl,rfl,rfl⟩:=hW;obtain ⟨rfl,rfl,rfl⟩:=hK;obtain ⟨⟨wo,wcap,hv,-⟩,-⟩:=Ji.out;simp only [Value.slice.injEq] at hv;obtain ⟨rfl,rfl,rfl⟩:=hv;have AT:=agC De;clear B6 De hd2
     have RZ:l.length≤20000:=by omega
     by_cases Fk:q=(cg s).length
     ·subst Fk
      have DC:=agC (rX AT.out);have MO:=agC (BQ.out.alloc (.cells #[.slice Bp (aI s).length Bq, .slice Br Bs Bt, .int .i64 ((aI s).length:Int), .int .i64 d2] 156));have MP:=agC (DT.out.size);have El:=agC (((RowC.of_own BQ.out).1).mono ((Below.refl w5.heap.size w5).alloc (agD _) (.cells #[.slice Bp (aI s).length Bq, .slice Br Bs Bt, .int .i64 ((aI s).length:Int), .int .i64 d2] 156)));have CK:=agC (AQ.out.alloc AQ.out.size (.cells #[.slice Bp (aI s).length Bq, .slice Br Bs Bt, .int .i64 ((aI s).length:Int), .int .i64 d2] 156));clear BQ AQ;go_wp2_with fail;refine (jB v2 l _ El.out DC.out (by omega)).mono ?_;rintro e w7 ⟨rfl,BK⟩;have Em:=agC (CK.out.trans (BK.mono CK.out.size));have R0:=agC (bX (base':=w.heap.size) (cD MO.out BK) (fun g hg=>Nat.le_trans MP.out (MO.out.lt g hg).1));clear BK
      cases II:okE l with
      |true=>
       have Ge:=agC (show SpOK s l from ⟨AT.out,II⟩);clear II;go_wp2;go_ret2;exact ⟨Em.out, .inl ⟨_,l,rfl,Ge.out,R0.out,Ge.out.some.1⟩⟩
      |false=>
       have CO:=agC (show∀c,¬SpOK s c from fun c hc=>by
        obtain ⟨rfl,-⟩:=AT.out.uniq hc.1;have:=hc.2
        rw [II] at this;cases this)
       clear II;go_wp2;go_ret2;refine ⟨Em.out.alloc Em.out.size _, .inr ⟨⟨_,rfl, ?_⟩,CO.out⟩⟩;exact adj rfl Em.out.size
     ·have NU:((q:Int) !=((cg s).length:Int))=true:=by simp;omega
      have R3:((q:Int)==((cg s).length:Int))=false:=by simp;omega
      have CO:=agC (show∀c,¬SpOK s c from fun c hc=>by
       obtain ⟨-,h,-⟩:=AT.out.uniq hc.1
       exact Fk h)
      go_wp2;go_ret2;refine ⟨(AQ.out.alloc AQ.out.size _).alloc (by have:=AQ.out.size;simp;omega) _, .inr ⟨⟨_,rfl, ?_⟩,CO.out⟩⟩;exact adj (by simp) (by have:=AQ.out.size;simp;omega)
theorem ab8 {s:ByteArray} (h:nbB s≤40) (c:List Cl):SpOK s c↔RdOK s c:=by
 constructor
 ·rintro ⟨h1,h2⟩
  exact ⟨sd (Nat.le_trans (yw s) h) h1,h2⟩
 ·rintro ⟨⟨n,h1,h3⟩,h2⟩
  exact ⟨mK h1 h3,h2⟩
theorem agf {s:ByteArray} {c:List Cl} (h:RdOK s c):SpOK s c:=by
 obtain ⟨⟨n,h1,h3⟩,h2⟩:=h;exact ⟨mK h1 h3,h2⟩
theorem aai (m:Int×Nat×List (Int×Nat×Nat)) (a b:Nat) (h:(bJ (bJ m a 32) b 32).1=0):(bJ m a 32).1=0:=by
 obtain ⟨st,f,X⟩:=m
 by_cases h1:nB st 32=true
 ·exfalso
  have Md:st=3∨st=4∨st=11:=by
   unfold nB at h1
   by_cases a1:st=1
   ·subst a1;exact absurd h1 (by decide)
   by_cases a2:st=2
   ·subst a2;exact absurd h1 (by decide)
   by_cases a3:st=3
   ·exact .inl a3
   by_cases a4:st=4
   ·exact .inr (.inl a4)
   by_cases Ns:st=11
   ·exact .inr (.inr Ns)
   rw [if_neg a1,if_neg a2,if_neg (by omega)] at h1
   repeat' split at h1
   all_goals first|omega|(exact absurd h1 (by decide))|(exact absurd (of_decide_eq_true h1) Ns)
  rcases Md with rfl|rfl|rfl
  ·simp [bJ,nB,nS,dl] at h
  ·simp [bJ,nB,nS,dl] at h
  ·simp [bJ,nB,nS] at h
 ·by_cases h2:st=0
  ·subst h2;rw [bN];exact eS
  ·by_cases h3:kI st=0
   ·exfalso
    have e:bJ (st,f,X) a 32=(11,f,X):=by simp [bJ,h1,h2,h3]
    rw [e,iz] at h
    simp at h
   ·rw [lY st f a X 32 h3 (by simpa using h1)];exact eS
theorem uf (l:List UInt8):b6 (0,0,[]) 0 (l++[32])=bJ (b6 (0,0,[]) 0 l) (l.length+1) 32:=by
 unfold b6;rw [pr,agE,Nat.zero_add,Nat.zero_add]
 rfl
theorem acR (l:List UInt8):ez (0,0,[]) 0 (l++[32])=ez (0,0,[]) 0 l∧i8 (0,0,[]) 0 (l++[32])=i8 (0,0,[]) 0 l:=by
 by_cases h:(b6 (0,0,[]) 0 l).1=0
 ·have e:b6 (0,0,[]) 0 (l++[32])=(0,l.length+1,(b6 (0,0,[]) 0 l).2.2):=by
   rw [uf];generalize b6 (0,0,[]) 0 l=m at h⊢;obtain ⟨st,f,X⟩:=m;simp only at h;subst h;rw [bN,eS]
  have r1:ez (0,0,[]) 0 l=true:=by rw [ez,h];rfl
  have r2:ez (0,0,[]) 0 (l++[32])=true:=by rw [ez,e];rfl
  exact ⟨by rw [r1,r2],by rw [i8,if_pos r2,i8,if_pos r1,e]⟩
 ·have h': ¬(b6 (0,0,[]) 0 (l++[32])).1=0:=by
   intro k;rw [uf] at k;exact h (aai (cQ (0,0,[]) 0 l) _ _ k)
  have r1:ez (0,0,[]) 0 l=false:=by rw [ez,decide_eq_false h]
  have r2:ez (0,0,[]) 0 (l++[32])=false:=by rw [ez,decide_eq_false h']
  exact ⟨by rw [r1,r2],by rw [i8,r2,i8,r1];rfl⟩
theorem acS (l:List UInt8):ez (0,0,[]) 0 (32::l)=ez (0,0,[]) 0 l∧i8 (0,0,[]) 0 (32::l)=(i8 (0,0,[]) 0 l).map (shT 1):=by
 have e:b6 (0,0,[]) 0 (32::l)=shM 1 [] (b6 (0,0,[]) 0 l):=by
  rw [jC _ _ _ _ _ (by decide),ns];have:=aeT 1 [] l (0,0,[]) 0
  simpa [shM] using this
 have h1:ez (0,0,[]) 0 (32::l)=ez (0,0,[]) 0 l:=by rw [ez,e,ez];rfl
 refine ⟨h1, ?_⟩;rw [i8,h1,i8,e]
 cases ez (0,0,[]) 0 l with
 |false=>rfl
 |true=>simp [shM]
theorem yb (l:List UInt8):(baL l).size=l.length:=by simp [baL,ByteArray.size]
theorem rv (l:List UInt8):okT (baL l)=(decide (l.length≤20000)&&aq l&&ez (0,0,[]) 0 l):=by rw [okT,yb,bK]
theorem acT (l:List UInt8) (hl:l.length+1≤20000):cg (baL (l++[32]))=cg (baL l):=by
 obtain ⟨r1,r2⟩:=acR l
 have Aj:okT (baL (l++[32]))=okT (baL l):=by
  rw [rv,rv,r1,cE,agE];have e1:decide (l.length+[(32:UInt8)].length≤20000)=true:=decide_eq_true hl;have e2:decide (l.length≤20000)=true:=decide_eq_true (by omega)
  have e3:aq [32]=true:=by decide
  rw [e1,e2,e3,Bool.and_true]
 have C4:aI (baL (l++[32]))=aI (baL l):=by
  rw [aI,Aj,aI]
  cases okT (baL l) with
  |false=>rfl
  |true=>rw [if_pos rfl,if_pos rfl,bK,bK,r2]
 have CN:=(gm (baL l)).2.1;rw [cg,cg,C4]
 apply List.map_congr_left
 intro x hx;obtain ⟨q1,q2⟩:=CN x hx;rw [yb] at q2
 congr 1
 apply dW
 rw [ByteArray.data_extract,ByteArray.data_extract,Array.toList_extract,Array.toList_extract,List.extract_eq_take_drop,List.extract_eq_take_drop,bK,bK,List.drop_append_of_le_length (by omega),List.take_append_of_le_length (by rw [List.length_drop];omega)]
theorem aeu (l:List UInt8) (hl:l.length+1≤20000):cg (baL (32::l))=cg (baL l):=by
 obtain ⟨r1,r2⟩:=acS l
 have Aj:okT (baL (32::l))=okT (baL l):=by
  rw [rv,rv,r1,cH,List.length_cons];have e1:decide (l.length+1≤20000)=true:=decide_eq_true hl;have e2:decide (l.length≤20000)=true:=decide_eq_true (by omega)
  have e3:bV (((32:UInt8).toNat:Nat):Int)=true:=by decide
  rw [e1,e2,e3,Bool.true_and]
 have C4:aI (baL (32::l))=(aI (baL l)).map (shT 1):=by
  rw [aI,Aj,aI]
  cases okT (baL l) with
  |false=>rfl
  |true=>rw [if_pos rfl,if_pos rfl,bK,bK,r2]
 have CN:=(gm (baL l)).2.1;rw [cg,cg,C4,List.map_map]
 apply List.map_congr_left
 intro x hx;obtain ⟨q1,q2⟩:=CN x hx;simp only [Function.comp,shT]
 congr 1
 apply dW
 rw [ByteArray.data_extract,ByteArray.data_extract,Array.toList_extract,Array.toList_extract,List.extract_eq_take_drop,List.extract_eq_take_drop,bK,bK,show x.2.2+1-(x.2.1+1)=x.2.2-x.2.1 by omega,List.drop_succ_cons]
theorem afQ: ∀(a b:Nat) (l:List UInt8),a+(l.length+b)≤20000→cg (baL (spL a++(l++spL b)))=cg (baL l):=by
 intro a
 induction a with
 |zero=>
  intro b
  induction b with
  |zero=>intro l _;rw [show spL 0=[] from rfl,List.nil_append,List.append_nil]
  |succ b ih=>
   intro l h
   have e:spL 0++(l++spL (b+1))=(spL 0++(l++spL b))++[32]:=by
    rw [show spL (b+1)=spL b++[32] by unfold spL;exact List.replicate_succ',show spL 0=[] from rfl]
    simp
   rw [e,acT _ (by simp [spL];omega)];exact ih l (by omega)
 |succ a ih=>
  intro b l h;have e:spL (a+1)++(l++spL b)=32::(spL a++(l++spL b)):=rfl;rw [e,aeu _ (by simp [spL];omega)];exact ih b l (by omega)
theorem aev (l:List UInt8) (h:l.length≤20000):cg (baL l)=cg (baL (ah l)):=by
 obtain ⟨a,b,e,-,-⟩:=gp l;have hl:=congrArg List.length e;rw [agE,agE,show (spL a).length=a by simp [spL],show (spL b).length=b by simp [spL]] at hl;have:=afQ a b (ah l) (by omega);rw [←e] at this;exact this
theorem yd {l:List UInt8} (h:l.length≤20000) (c:List Cl):RdOK (baL l) c↔RdOK (baL (ah l)) c:=by
 unfold RdOK;rw [aev l h]
open Classical in
noncomputable def rdI (s:ByteArray):List Cl:=if h: ∃c,RdOK s c then h.choose else []
open Classical in
noncomputable def rdS (s:ByteArray):List Cl:=if h: ∃c,SpOK s c then h.choose else []
theorem mG {s:ByteArray} {c:List Cl} (h:RdOK s c):rdI s=c:=by
 have hx: ∃c,RdOK s c:=⟨c,h⟩
 unfold rdI;rw [dif_pos hx];exact hx.choose_spec.uniq h
theorem oN {s:ByteArray} (h: ∀c,¬RdOK s c):rdI s=[]:=by
 unfold rdI;rw [dif_neg];rintro ⟨c,hc⟩;exact h c hc
theorem ug {l:List UInt8} (h:l.length≤20000):rdI (baL l)=rdI (baL (ah l)):=by
 by_cases hx: ∃c,RdOK (baL l) c
 ·obtain ⟨c,hc⟩:=hx
  rw [mG hc,mG ((yd h c).mp hc)]
 ·rw [oN (fun c hc=>hx ⟨c,hc⟩),oN (fun c hc=>hx ⟨c,(yd h c).mpr hc⟩)]
theorem rx {s:ByteArray} {c:List Cl} (h:SpOK s c):rdS s=c:=by
 have hx: ∃c,SpOK s c:=⟨c,h⟩
 unfold rdS;rw [dif_pos hx];exact hx.choose_spec.uniq h
theorem xd {s:ByteArray} (h: ∀c,¬SpOK s c):rdS s=[]:=by
 unfold rdS;rw [dif_neg];rintro ⟨c,hc⟩;exact h c hc
theorem aew {s:ByteArray} (h:nbB s≤40):rdS s=rdI s:=by
 by_cases hx: ∃c,RdOK s c
 ·obtain ⟨c,hc⟩:=hx
  rw [mG hc,rx ((ab8 h c).mpr hc)]
 ·rw [oN (fun c hc=>hx ⟨c,hc⟩),xd (fun c hc=>hx ⟨c,(ab8 h c).mp hc⟩)]
theorem acU {l:List Cl} (h:okE l=true):rdS (baL (bh l))=l:=rx (agf (oV h))
theorem uh {l:List Cl} (h:okE l=true):rdI (baL (bh l))=l:=mG (oV h)
theorem afR (s:ByteArray):rdI s=[]∨RdOK s (rdI s):=by
 by_cases hx: ∃c,RdOK s c
 ·obtain ⟨c,hc⟩:=hx
  rw [mG hc];exact .inr hc
 ·exact .inl (oN (fun c hc=>hx ⟨c,hc⟩))
theorem rZ (s:ByteArray):ec (rdI s)∧(rdI s).length≤60:=by
 rcases afR s with h|h
 ·rw [h];exact ⟨fun c hc=>(by cases hc),by simp⟩
 ·refine ⟨?_,((dE _).mp h.2).1⟩
  obtain ⟨⟨n,hn,-⟩,-⟩:=h;intro x hx;have:=hn.words (B:=20000) (by omega) (fun p k w hp=>(ny s).1 _ (List.mem_of_getElem? hp)) (fun x hx=>by cases hx) x hx;unfold maxLen;omega
theorem aeE {W w w':World} {L:Nat} (hb:Below W.heap.size W w) (hg:w.grownBy w' (some L)) (hL:W.heap.size≤L):Below W.heap.size W w':=
 hb.grown hg hb.size (fun r hr=>by injection hr with hr;omega)
theorem aaQ {w w':World} {base n L:Nat} {e:TypeId} {size:Nat} {v:Value} {xs:List Value} (h:w.ownsRow base e size v n xs) (hg:w.grownBy w' (some L)) (hL:L<base):w'.ownsRow base e size v n xs:=
 dI h (fun g hg2=>hg.block g (h.lt g hg2).2 (fun e=>by injection e with e;have:=(h.lt g hg2).1;omega))
def aaR (i:It) (w:World) (e:Ending) (w':World):Prop:=
 ∃v,e= .returned (.agg #[.int .i64 i.1, .string i.2.1,v, .string i.2.2.2])∧w'.ownsRow w.heap.size 110 3 v i.2.2.1.length (ai i.2.2.1)
theorem yt (c:List UInt8):ah (Lib.trimPrefix (mh c) [35])=ey c:=by
 rcases y6 c with ⟨h1,h2⟩|⟨t,h1,h2⟩
 ·rw [h1,h2];rfl
 ·rw [h1,h2]
  unfold Lib.trimPrefix Lib.hasPrefix;rw [if_pos (by simp)];rfl
theorem yu (c p:List UInt8):(Lib.trimPrefix c p).length≤c.length:=by
 unfold Lib.trimPrefix
 split
 ·rw [List.length_drop];omega
 ·exact agD _
theorem r7 (c:List UInt8):(mh c).length≤c.length∧(ie c).length≤c.length:=by
 rw [(ij c).1,(ij c).2,List.length_drop,List.length_take];omega
theorem aaS {w w4:World} {L len:Nat} {v y0 y1 y2 y3:Value} {xs:List Value} (hg:w.grownBy w4 (some L)) (ho:w4.ownsRow (w.heap.size+1) 110 3 v len xs):
  ((((w4.setCell ⟨w.heap.size,0,none⟩ y0).setCell ⟨w.heap.size,1,none⟩ y1).setCell ⟨w.heap.size,2,none⟩ y2).setCell ⟨w.heap.size,3,none⟩ y3).ownsRow w.heap.size 110 3 v len xs∧
  w.grownBy ((((w4.setCell ⟨w.heap.size,0,none⟩ y0).setCell ⟨w.heap.size,1,none⟩ y1).setCell ⟨w.heap.size,2,none⟩ y2).setCell ⟨w.heap.size,3,none⟩ y3) (some L):=by
 have hs: ∀(x:World) (j:Nat) (y:Value),(x.setCell ⟨w.heap.size,j,none⟩ y).heap.size=x.heap.size:=fun x j y=>by simp [World.setCell]
 refine ⟨bX (dI ho (fun g hg=> ?_)) (fun g hg=> ?_), ?_⟩
 ·have C6:g≠w.heap.size:=by have:=(ho.lt g hg).1;omega
  rw [Below.heap_setCell _ _ _ _ C6,Below.heap_setCell _ _ _ _ C6,Below.heap_setCell _ _ _ _ C6,Below.heap_setCell _ _ _ _ C6]
 ·have:=(ho.lt g hg).1;omega
 ·refine ⟨hg.os,hg.tape,hg.output, ?_,fun b hb hn=> ?_⟩
  ·rw [hs,hs,hs,hs];exact hg.size
  ·have C6:b≠w.heap.size:=by omega
   rw [Below.heap_setCell _ _ _ _ C6,Below.heap_setCell _ _ _ _ C6,Below.heap_setCell _ _ _ _ C6,Below.heap_setCell _ _ _ _ C6];exact hg.block b hb hn
theorem adm (W:World) (nm:ByteArray) (l:List UInt8) (L:Nat) (w:World) (h:ScAt w L l) (hl:l.length≤2097152) (hb:Below W.heap.size W w) (hL:W.heap.size≤L) (Al:Tab W):
  Calls Tryz.prog 118 #[.pointer (some ⟨L,0,none⟩), .string nm] w fun e w'=>aaR (3,nm,rdI (baL (ie l)),baL (ey l)) w e w'∧w.grownBy w' (some L):=by
 have BG:=agC h.lt;have BR:=agC (agF w (.cells #[.int .i64 0, .string ⟨#[]⟩, .slice none 0 0, .string ⟨#[]⟩] 32) (some L));have HZ:=agC (It4.new w (.int .i64 0) (.string ⟨#[]⟩) (.slice none 0 0) (.string ⟨#[]⟩) 32);have HC:=agC (afj l L (w.alloc (.cells #[.int .i64 0, .string ⟨#[]⟩, .slice none 0 0, .string ⟨#[]⟩] 32)) (h.below ((Below.refl _ _).alloc (agD _) _)) hl);have HB:=agC hb;have HT:=agC Al;obtain ⟨Es,DS⟩:=r7 l;clear h hb Al
 go_enter Tryz.func118,Tryz.ntmps118
 go_wp2_with fail;refine HC.out.mono ?_;rintro e w1 ⟨rfl,Cj,hg1⟩;have Cr:=agC (mB BR.out hg1);have Er:=agC Cj;have EH:=agC (HZ.out.grown hg1 (by have:=BG.out;intro e;injection e with e;omega));clear Cj hg1;go_wp2_with fail;refine (pe (baL (ie l)) w1 (by rw [aR];omega) (HT.out.keep (aeE HB.out Cr.out hL))).mono ?_;rintro e w2 ⟨Ae,Am⟩
 obtain ⟨v,ok,rfl,Ad⟩: ∃(v:Value) (ok:Bool),e= .returned (.tuple #[v, .bool ok])∧w2.ownsRow w1.heap.size 110 3 v (rdI (baL (ie l))).length (ai (rdI (baL (ie l)))):=by
  rcases Am with ⟨v,c,rfl,hc,ho⟩|⟨rfl,Ar⟩
  ·rw [mG hc];exact ⟨v,true,rfl,ho⟩
  ·rw [oN Ar];exact ⟨_,false,rfl,World.ownsRow_nil _ _ _ _⟩
 obtain ⟨va,vc,rfl⟩:=aN Ad;have Bi:=agC (mB Cr.out (show w1.grownBy w2 (some L) from ⟨Ae.os,Ae.tape,Ae.output,Ae.size,fun i hi _=>Ae.block i hi⟩));have Jj:=agC (Er.out.below Ae);have Gi:=agC (EH.out.keep Ae);have Cc:=agC Ad;have Jm:=agC (show L<w1.heap.size from Er.out.lt);have Se:=agC (show w.heap.size<w1.heap.size from by have:=EH.out.2.2;exact this);clear Am Ad Ae Er EH;go_wp2_with fail;refine (wO ⟨#[35]⟩ _ L w2 Jj.out).mono ?_;rintro e w3 ⟨rfl,BZ,AF⟩;have AE:=agC (mB Bi.out AF);have Kh:=agC BZ;have BY:=agC (aaQ Cc.out AF Jm.out);have Gj:=agC (Gi.out.grown AF (by have:=BG.out;intro e;injection e with e;omega));have h3:=yu (mh l) [35];clear BZ AF Jj Cc Gi;go_wp2_with fail;refine (acu (Lib.trimPrefix (mh l) [35]) L w3 Kh.out (by omega)).mono ?_;rintro e w4 ⟨rfl,FW,AW⟩;have AV:=agC (mB AE.out AW);have Cd:=agC (aaQ BY.out AW Jm.out);have IG:=agC (Gj.out.grown AW (by have:=BG.out;intro e;injection e with e;omega));rw [yt];clear FW AW Kh BY Gj;obtain ⟨⟨z0,z1,z2,z3⟩,⟨y0,y1,y2,y3⟩,hz⟩:=IG.out;have Cb:=agC (fun y0 y1 y2 y3=>aaS (y0:=y0) (y1:=y1) (y2:=y2) (y3:=y3) AV.out (bX Cd.out (fun g hg=>by have:=(Cd.out.lt g hg).1;have:=Se.out;omega)));go_wp2;exact bodyPost_ret (v:= .agg #[.int .i64 3, .string nm, .slice va (rdI (baL (ie l))).length vc, .string (baL (ey l))]) (by simp [results,Tryz.results118,go_sem,z0,z1,z2,z3]) rfl ⟨⟨_,rfl,(Cb.out _ _ _ _).1⟩,(Cb.out _ _ _ _).2⟩
theorem gk (l:List UInt8) (b:UInt8):Lib.hasPrefix l [b]=decide (l.head? =some b):=by
 cases l with
 |nil=>simp [Lib.hasPrefix,List.isPrefixOf]
 |cons a l=>
  by_cases h:a=b
  ·subst h;simp [Lib.hasPrefix,List.isPrefixOf]
  ·have h': ¬b=a:=fun e=>h e.symm
   simp [Lib.hasPrefix,List.isPrefixOf,h,h']
theorem qy {l:List UInt8} {b:UInt8} (h:l.head? =some b):Lib.trimPrefix l [b]=l.drop 1:=by
 unfold Lib.trimPrefix;rw [gk,if_pos (by simpa using h)];rfl
theorem adb {l:List UInt8} {b:UInt8} (h:l.head? ≠some b):Lib.trimPrefix l [b]=l:=by
 unfold Lib.trimPrefix;rw [gk,if_neg (by simpa using h)]
theorem nr (l:List UInt8):(nmQ l).length≤l.length:=by rw [ig,List.length_drop];omega
theorem yg (l:List UInt8):(trL l).length≤l.length:=by
 obtain ⟨k,hk⟩:=sK l;rw [hk,List.length_drop];omega
theorem lW {w w':World} (k:Int) (n t:ByteArray):aaR (k,n,[],t) w (.returned (.agg #[.int .i64 k, .string n, .slice none 0 0, .string t])) w':=⟨_,rfl,World.ownsRow_nil _ _ _ _⟩
theorem iW {w w4:World} {L:Nat} {y0 y1 y2 y3:Value} (hg:w.grownBy w4 (some L)):w.grownBy ((((w4.setCell ⟨w.heap.size,0,none⟩ y0).setCell ⟨w.heap.size,1,none⟩ y1).setCell ⟨w.heap.size,2,none⟩ y2).setCell ⟨w.heap.size,3,none⟩ y3) (some L):=
 (aaS hg (World.ownsRow_nil w4 (w.heap.size+1) 110 3)).2
theorem afV (W:World) (l:List UInt8) (L:Nat) (w:World) (h:ScAt w L l) (hl:l.length≤2097152) (hb:Below W.heap.size W w) (hL:W.heap.size≤L) (Al:Tab W):
  Calls Tryz.prog 74 #[.pointer (some ⟨L,0,none⟩)] w fun e w'=>aaR (eA rdI l) w e w'∧w.grownBy w' (some L):=by
 have BG:=agC h.lt;have BR:=agC (agF w (.cells #[.int .i64 0, .string ⟨#[]⟩, .slice none 0 0, .string ⟨#[]⟩] 32) (some L));have HZ:=agC (It4.new w (.int .i64 0) (.string ⟨#[]⟩) (.slice none 0 0) (.string ⟨#[]⟩) 32);have NI:=agC (h.below ((Below.refl w.heap.size w).alloc (agD _) (.cells #[.int .i64 0, .string ⟨#[]⟩, .slice none 0 0, .string ⟨#[]⟩] 32)));have HB:=agC hb;have HT:=agC Al;have FO:=agC hL;obtain ⟨d0,-⟩:=NI.out.cells;clear h hb Al hL
 by_cases c1:l=[]
 ·subst c1
  have HR:=agC (show eA rdI []=(1,⟨#[]⟩,[],⟨#[]⟩) by rw [eA,if_pos rfl]);have e0:(baL ([]:List UInt8)).toList=[]:=ByteArray.toList_eq _
  go_enter Tryz.func74,Tryz.ntmps74
  go_wp2;exact bodyPost_ret (v:= .agg #[.int .i64 1, .string ⟨#[]⟩, .slice none 0 0, .string ⟨#[]⟩]) (by simp [results,Tryz.results74,go_sem]) rfl ⟨by rw [HR.out];exact lW _ _ _,agF _ _ _⟩
 by_cases c2:l=[125]
 ·subst c2
  have HR:=agC (show eA rdI [125]=(5,⟨#[]⟩,[],⟨#[]⟩) by rw [eA,if_neg (by simp),if_pos rfl]);have e0:(baL ([125]:List UInt8)).toList=[125]:=ByteArray.toList_eq _
  go_enter Tryz.func74,Tryz.ntmps74
  go_wp2;exact bodyPost_ret (v:= .agg #[.int .i64 5, .string ⟨#[]⟩, .slice none 0 0, .string ⟨#[]⟩]) (by simp [results,Tryz.results74,go_sem]) rfl ⟨by rw [HR.out];exact lW _ _ _,agF _ _ _⟩
 have t1:((baL l).toList==[])=false:=by rw [beq_eq_false_iff_ne,ByteArray.toList_eq];exact c1
 have t2:((baL l).toList==[125])=false:=by rw [beq_eq_false_iff_ne,ByteArray.toList_eq];exact c2
 have Cz:=agC (wO ⟨#[35]⟩ l L (w.alloc (.cells #[.int .i64 0, .string ⟨#[]⟩, .slice none 0 0, .string ⟨#[]⟩] 32)) NI.out)
 by_cases c3:l.head? =some 35
 ·have HR:=agC (show eA rdI l=(2,⟨#[]⟩,[],baL (ah (l.drop 1))) by rw [eA,if_neg c1,if_neg c2,if_pos c3])
  rw [show (⟨#[35]⟩:ByteArray).data.toList=[35] from rfl,gk,qy c3,decide_eq_true c3] at Cz;clear c1 c2 c3
  go_enter Tryz.func74,Tryz.ntmps74
  go_wp2_with fail;refine Cz.out.mono ?_;rintro e w1 ⟨rfl,Cj,hg1⟩;have Cr:=agC (mB BR.out hg1);have Er:=agC Cj;have EH:=agC (HZ.out.grown hg1 (by have:=BG.out;intro e;injection e with e;omega));clear Cj hg1 Cz d0;go_wp2_with fail;refine (acu _ L w1 Er.out (by rw [List.length_drop];omega)).mono ?_;rintro e w2 ⟨rfl,D7,hg2⟩;have Bi:=agC (mB Cr.out hg2);have Gi:=agC (EH.out.grown hg2 (by have:=BG.out;intro e;injection e with e;omega));obtain ⟨⟨z0,z1,z2,z3⟩,⟨y0,y1,y2,y3⟩,hz⟩:=Gi.out;clear D7 hg2 Er EH;generalize baL (ah (l.drop 1))=nt at HR;go_wp2;exact bodyPost_ret (v:= .agg #[.int .i64 2, .string ⟨#[]⟩, .slice none 0 0, .string nt]) (by simp [results,Tryz.results74,go_sem,z0,z1,z2,z3]) rfl ⟨by rw [HR.out];exact lW _ _ _,iW Bi.out⟩
 rw [show (⟨#[35]⟩:ByteArray).data.toList=[35] from rfl,gk,adb c3,decide_eq_false c3] at Cz;have Cn:=nr l;have CL:=yg (nmQ l);have HC:=agC (And.intro c1 (And.intro c2 c3));clear c1 c2 c3
 go_enter Tryz.func74,Tryz.ntmps74
 go_wp2_with fail;refine Cz.out.mono ?_;rintro e w1 ⟨rfl,Cj,hg1⟩;have Cr:=agC (mB BR.out hg1);have Er:=agC Cj;have EH:=agC (HZ.out.grown hg1 (by have:=BG.out;intro e;injection e with e;omega));clear Cj hg1 Cz d0 t1 t2;go_wp2_with fail;refine (ae2 l L w1 Er.out hl).mono ?_;rintro e w2 ⟨rfl,D7,hg2⟩;have Bi:=agC (mB Cr.out hg2);have Jj:=agC D7;have Gi:=agC (EH.out.grown hg2 (by have:=BG.out;intro e;injection e with e;omega));clear D7 hg2 Er EH;go_wp2_with fail;refine (afH (nmQ l) L w2 Jj.out).mono ?_;rintro e w3 ⟨rfl,BZ,AF⟩;have AE:=agC (mB Bi.out AF);have Kh:=agC BZ;have Gj:=agC (Gi.out.grown AF (by have:=BG.out;intro e;injection e with e;omega));clear BZ AF Jj Gi;obtain ⟨d3,-⟩:=Kh.out.cells;obtain ⟨⟨z0,z1,z2,z3⟩,⟨y0,y1,y2,y3⟩,hz⟩:=Gj.out;have FQ:=agC (wO ⟨#[61]⟩ (trL (nmQ l)) L w3 Kh.out);have AT:=agC (show eA rdI l=if trL (nmQ l)=[123] then (4,baL (nmP l),[],⟨#[]⟩) else if (trL (nmQ l)).head? =some 61 then (3,baL (nmP l),rdI (baL (ie ((trL (nmQ l)).drop 1))),baL (ey ((trL (nmQ l)).drop 1))) else (0,⟨#[]⟩,[],⟨#[]⟩) by rw [eA,if_neg HC.out.1,if_neg HC.out.2.1,if_neg HC.out.2.2]);generalize trL (nmQ l)=q at d3 FQ AT CL;generalize baL (nmP l)=nm at AT;clear Kh HC
 by_cases c4:q=[123]
 ·subst c4
  have e0:(baL ([123]:List UInt8)).toList=[123]:=ByteArray.toList_eq _;have HR:=agC (show eA rdI l=(4,nm,[],⟨#[]⟩) by rw [AT.out,if_pos rfl]);go_wp2;exact bodyPost_ret (v:= .agg #[.int .i64 4, .string nm, .slice none 0 0, .string ⟨#[]⟩]) (by simp [results,Tryz.results74,go_sem,z0,z1,z2,z3]) rfl ⟨by rw [HR.out];exact lW _ _ _,iW AE.out⟩
 have t4:((baL q).toList==[123])=false:=by rw [beq_eq_false_iff_ne,ByteArray.toList_eq];exact c4
 by_cases c5:q.head? =some 61
 ·have HR:=agC (show eA rdI l=(3,nm,rdI (baL (ie (q.drop 1))),baL (ey (q.drop 1))) by rw [AT.out,if_neg c4,if_pos c5])
  rw [show (⟨#[61]⟩:ByteArray).data.toList=[61] from rfl,gk,qy c5,decide_eq_true c5] at FQ;clear c4 c5 z0 z1 z2 z3 y0 y1 y2 y3 hz;go_wp2_with fail;refine FQ.out.mono ?_;rintro e w4 ⟨rfl,FW,AW⟩;have AV:=agC (mB AE.out AW);have RR:=agC FW;have IG:=agC (Gj.out.grown AW (by have:=BG.out;intro e;injection e with e;omega));have NS:=agC (show w.heap.size<w4.heap.size from IG.out.2.2);clear FW AW FQ d3 t4 Gj;go_wp2_with fail;refine (adm W nm (q.drop 1) L w4 RR.out (by rw [List.length_drop];omega) (aeE HB.out AV.out FO.out) FO.out HT.out).mono ?_;rintro e w5 ⟨⟨v,rfl,DK⟩,AS⟩;simp only at DK;obtain ⟨va,vc,rfl⟩:=aN DK;have Bk:=agC (mB AV.out AS);have BQ:=agC (bX (base':=w.heap.size+1) DK (fun g hg=>by have:=(DK.lt g hg).1;have:=NS.out;omega));obtain ⟨⟨z0,z1,z2,z3⟩,⟨y0,y1,y2,y3⟩,hz⟩:=IG.out.grown AS (by have:=BG.out;intro e;injection e with e;omega);clear DK AS RR IG;generalize rdI (baL (ie (q.drop 1)))=R at HR BQ;generalize baL (ey (q.drop 1))=nt at HR;have Cb:=agC (fun y0 y1 y2 y3=>aaS (y0:=y0) (y1:=y1) (y2:=y2) (y3:=y3) Bk.out BQ.out);go_wp2;exact bodyPost_ret (v:= .agg #[.int .i64 3, .string nm, .slice va R.length vc, .string nt]) (by simp [results,Tryz.results74,go_sem,z0,z1,z2,z3]) rfl ⟨by rw [HR.out];exact ⟨_,rfl,(Cb.out _ _ _ _).1⟩,(Cb.out _ _ _ _).2⟩
 ·have HR:=agC (show eA rdI l=(0,⟨#[]⟩,[],⟨#[]⟩) by rw [AT.out,if_neg c4,if_neg c5])
  rw [show (⟨#[61]⟩:ByteArray).data.toList=[61] from rfl,gk,decide_eq_false c5] at FQ;clear c4 c5 z0 z1 z2 z3 y0 y1 y2 y3 hz;go_wp2_with fail;refine FQ.out.mono ?_;rintro e w4 ⟨rfl,FW,AW⟩;have AV:=agC (mB AE.out AW);obtain ⟨⟨z0,z1,z2,z3⟩,⟨y0,y1,y2,y3⟩,hz⟩:=Gj.out.grown AW (by have:=BG.out;intro e;injection e with e;omega);clear FW AW FQ d3 t4 Gj;go_wp2;exact bodyPost_ret (v:= .agg #[.int .i64 0, .string ⟨#[]⟩, .slice none 0 0, .string ⟨#[]⟩]) (by simp [results,Tryz.results74,go_sem,z0,z1,z2,z3]) rfl ⟨by rw [HR.out];exact lW _ _ _,iW AV.out⟩
theorem y5 (l:List UInt8) (hl:l.length≤2097152):(eA rdI l).2.1.size≤2097152∧ec (eA rdI l).2.2.1∧(eA rdI l).2.2.1.length≤60∧(eA rdI l).2.2.2.size≤2097152:=by
 have h1:(nmP l).length≤l.length:=by
  have:=congrArg List.length (jD l);rw [List.length_take] at this;omega
 have h2:=nr l;have h3:=yg (nmQ l)
 have hz:ec []:=fun c hc=>by cases hc
 have e0:(⟨#[]⟩:ByteArray).size=0:=rfl;unfold eA
 split
 ·exact ⟨by show (⟨#[]⟩:ByteArray).size≤_;omega,hz,by simp,by show (⟨#[]⟩:ByteArray).size≤_;omega⟩
 split
 ·exact ⟨by show (⟨#[]⟩:ByteArray).size≤_;omega,hz,by simp,by show (⟨#[]⟩:ByteArray).size≤_;omega⟩
 split
 ·refine ⟨by show (⟨#[]⟩:ByteArray).size≤_;omega,hz,by simp, ?_⟩
  show (baL (ah (l.drop 1))).size≤_
  rw [aR];have:=ce (l.drop 1);rw [List.length_drop] at this;omega
 split
 ·exact ⟨by show (baL (nmP l)).size≤_;rw [aR];omega,hz,by simp,by show (⟨#[]⟩:ByteArray).size≤_;omega⟩
 split
 ·refine ⟨by show (baL (nmP l)).size≤_;rw [aR];omega,(rZ _).1,(rZ _).2, ?_⟩
  show (baL (ey ((trL (nmQ l)).drop 1))).size≤_
  rw [aR]
  have: ∀m:List UInt8,(ey m).length≤m.length:=fun m=>by
   unfold ey
   split
   ·rename_i k _
    have:=ce (m.drop (k+1));rw [List.length_drop] at this;omega
   ·simp
  have:=this ((trL (nmQ l)).drop 1);rw [List.length_drop] at this;omega
 ·exact ⟨by show (⟨#[]⟩:ByteArray).size≤_;omega,hz,by simp,by show (⟨#[]⟩:ByteArray).size≤_;omega⟩
def nU (o:Option It) (w:World) (e:Ending) (w':World):Prop:=
 ∃v,e= .returned (.tuple #[.agg #[.int .i64 (o.getD qe).1, .string (o.getD qe).2.1,v, .string (o.getD qe).2.2.2], .bool o.isSome])∧w'.ownsRow w.heap.size 110 3 v (o.getD qe).2.2.1.length (ai (o.getD qe).2.2.1)∧Below w.heap.size w w'
theorem qN {w w4:World} {len:Nat} {v y0 y1 y2 y3:Value} {xs:List Value} (hg:Below w.heap.size w w4) (ho:w4.ownsRow (w.heap.size+1) 110 3 v len xs):
  ((((w4.setCell ⟨w.heap.size,0,none⟩ y0).setCell ⟨w.heap.size,1,none⟩ y1).setCell ⟨w.heap.size,2,none⟩ y2).setCell ⟨w.heap.size,3,none⟩ y3).ownsRow w.heap.size 110 3 v len xs∧
  Below w.heap.size w ((((w4.setCell ⟨w.heap.size,0,none⟩ y0).setCell ⟨w.heap.size,1,none⟩ y1).setCell ⟨w.heap.size,2,none⟩ y2).setCell ⟨w.heap.size,3,none⟩ y3):=by
 refine ⟨bX (dI ho (fun g hg=> ?_)) (fun g hg=> ?_), ?_⟩
 ·have C6:g≠w.heap.size:=by have:=(ho.lt g hg).1;omega
  rw [Below.heap_setCell _ _ _ _ C6,Below.heap_setCell _ _ _ _ C6,Below.heap_setCell _ _ _ _ C6,Below.heap_setCell _ _ _ _ C6]
 ·have:=(ho.lt g hg).1;omega
 ·exact (((hg.setCell (p:=⟨w.heap.size,0,none⟩) (agD _) _).setCell (p:=⟨w.heap.size,1,none⟩) (agD _) _).setCell (p:=⟨w.heap.size,2,none⟩) (agD _) _).setCell (p:=⟨w.heap.size,3,none⟩) (agD _) _
theorem kj (s:ByteArray) (w:World) (hs:s.size≤2097152) (Al:Tab w):
  Calls Tryz.prog 42 #[.string s] w (nU (iQ rdI s) w):=by
 have hl:s.data.toList.length≤2097152:=by rw [Array.length_toList];exact hs
 have Ab:=ce s.data.toList;have BR:=agC ((Below.refl w.heap.size w).alloc (agD _) (.cells #[.int .i64 0, .string ⟨#[]⟩, .slice none 0 0, .string ⟨#[]⟩] 32));have HZ:=agC (It4.new w (.int .i64 0) (.string ⟨#[]⟩) (.slice none 0 0) (.string ⟨#[]⟩) 32);have HT:=agC Al
 have Au:(w.alloc (.cells #[.int .i64 0, .string ⟨#[]⟩, .slice none 0 0, .string ⟨#[]⟩] 32)).heap.size=w.heap.size+1:=by simp
 have Fu:=agC Au;have El:=agC (show iQ rdI s=if aP (eA rdI (ah s.data.toList))=true then some (eA rdI (ah s.data.toList)) else none from rfl);have Ig:=agC (y5 (ah s.data.toList) (by omega));clear Al Au
 go_enter Tryz.func42,Tryz.ntmps42
 go_wp2_with fail;refine (Tryz.strings_Trim_one s 32 (by decide) _ (by omega)).mono ?_;rintro e w1 ⟨rfl,AU⟩;rw [sI,lP];have Cr:=agC (afG AU none)
 have Cj:w1.heap.size=w.heap.size+1:=by
  rcases AU with rfl|rfl
  ·exact Fu.out
  ·exact Fu.out
 have Er:=agC Cj;have EH:=agC (HZ.out.grown Cr.out (by simp));have Af:=agC (BR.out.grown Cr.out (by simp) (fun r hr=>by cases hr));clear AU Cj;have Ih:=agC (ScAt.new w1 (ah s.data.toList));have Ak:=agC (Af.out.alloc Af.out.size (.cells #[.string (baL (ah s.data.toList))] 84));have Gi:=agC (EH.out.al (.cells #[.string (baL (ah s.data.toList))] 84));have IQ:=agC (afV w (ah s.data.toList) w1.heap.size _ Ih.out (by omega) Ak.out Af.out.size HT.out);generalize ah s.data.toList=l at IQ El Ig Ak Gi Ih⊢;generalize eA rdI l=i at IQ El Ig;clear HZ Cr Ih Ab;go_wp2_with fail;refine IQ.out.mono ?_;rintro e w3 ⟨⟨v,rfl,CQ⟩,AF⟩;obtain ⟨k,n,x,t⟩:=i;simp only at CQ;obtain ⟨va,vc,rfl⟩:=aN CQ;have Ap:=agC (Ak.out.grown AF Ak.out.size (fun r hr=>by injection hr with hr;have:=Af.out.size;omega));have Gj:=agC (Gi.out.grown AF (by intro e;injection e with e;have:=Er.out;omega));have BY:=agC (bX (base':=w.heap.size+1) CQ (fun g hg=>by have h1:=(CQ.lt g hg).1;have h2:=Er.out;simp at h1;omega));clear CQ AF IQ Gi Ak Af EH Er;have IG:=agC (Gj.out.al (.cells #[.int .i64 k, .string n, .slice va x.length vc, .string t] 32));have Aw:=agC (Ap.out.alloc Ap.out.size (.cells #[.int .i64 k, .string n, .slice va x.length vc, .string t] 32));have QQ:=agC (It4.new w3 (.int .i64 k) (.string n) (.slice va x.length vc) (.string t) 32);have Cd:=agC (BY.out.alloc (.cells #[.int .i64 k, .string n, .slice va x.length vc, .string t] 32));have JA:=agC (jy (k,n,x,t) (.slice va x.length vc) _ (RowC.of_own Cd.out).1 (by have:=Ig.out.1;show n.size≤maxLen;unfold maxLen;simp only at this;omega) Ig.out.2.1 (by have:=Ig.out.2.2.2;show t.size≤maxLen;unfold maxLen;simp only at this;omega) (HT.out.keep Aw.out));simp only at JA;generalize Aj:aP (k,n,x,t)=ok at JA El;clear Aj;go_wp2_with fail;refine JA.out.mono ?_;rintro e w5 ⟨rfl,AI⟩;have AQ:=agC (Aw.out.trans (AI.mono Aw.out.size));have SM:=agC (IG.out.keep AI);have LC:=agC (QQ.out.keep AI);have BQ:=agC (Cd.out.kept (row:=none) ⟨AI.os,AI.tape,AI.output,AI.size,fun i hi _=>AI.block i hi⟩ (by cases hv:Value.ownBlock (.slice va x.length vc) with|none=>exact .inl rfl|some x=>exact .inr (by simp)));have D2:=agC (show w.heap.size≠w3.heap.size by have:=Gj.out.2.2;omega);obtain ⟨⟨z0,z1,z2,z3⟩,⟨y0,y1,y2,y3⟩,hz⟩:=SM.out;obtain ⟨⟨i0,i1,i2,i3⟩,⟨j0,j1,j2,j3⟩,hi⟩:=LC.out;have Cb:=agC (fun y0 y1 y2 y3=>qN (y0:=y0) (y1:=y1) (y2:=y2) (y3:=y3) AQ.out BQ.out);have OC:=agC (fun y0 y1 y2 y3=>qN (y0:=y0) (y1:=y1) (y2:=y2) (y3:=y3) AQ.out (World.ownsRow_nil w5 (w.heap.size+1) 110 3));clear AI Aw IG QQ Cd JA Ig
 cases ok with
 |false=>
  have HR:=agC (show iQ rdI s=none by rw [El.out,if_neg (by simp)]);go_wp2;exact bodyPost_ret (v:= .tuple #[.agg #[.int .i64 0, .string ⟨#[]⟩, .slice none 0 0, .string ⟨#[]⟩], .bool false]) (by simp [results,Tryz.results42,go_sem,z0,z1,z2,z3]) rfl (by rw [HR.out];exact ⟨_,rfl,OC.out _ _ _ _⟩)
 |true=>
  have HR:=agC (show iQ rdI s=some (k,n,x,t) by rw [El.out,if_pos rfl]);go_wp2;exact bodyPost_ret (v:= .tuple #[.agg #[.int .i64 k, .string n, .slice va x.length vc, .string t], .bool true]) (by simp [results,Tryz.results42,go_sem,z0,z1,z2,z3]) rfl (by rw [HR.out];exact ⟨_,rfl,Cb.out _ _ _ _⟩)
theorem afN (s:ByteArray):rdS s=[]∨SpOK s (rdS s):=by
 by_cases h: ∃c,SpOK s c
 ·obtain ⟨c,hc⟩:=h
  rw [rx hc];exact .inr hc
 ·exact .inl (xd (fun c hc=>h ⟨c,hc⟩))
theorem qo (s:ByteArray):co (rdS s)∧(rdS s).length≤60:=by
 rcases afN s with h|h
 ·rw [h];exact ⟨fun c hc=>(by cases hc),by simp⟩
 ·exact ⟨rX h.1,h.some.1⟩
theorem cY:co []:=fun c hc=>by cases hc
theorem ud (m:List UInt8):(ey m).length≤m.length:=by
 unfold ey
 split
 ·rename_i k _
  have:=ce (m.drop (k+1));rw [List.length_drop] at this;omega
 ·simp
theorem qp (m:List UInt8):(dX m).length≤m.length:=by
 rw [sJ];have h1:=ce (ie m);have h2:=(r7 m).2
 omega
theorem acO (s:ByteArray) (l:List UInt8) (h:s=baL l) (w:World) (hl:l.length≤2097152):
  Calls Tryz.prog 105 #[.string s] w fun e w'=>e= .returned (.tuple #[.string (baL (dX l)), .string (baL (ey l))])∧Below w.heap.size w w':=by
 subst h;exact wt l w hl
theorem x9 (s:ByteArray) (l:List UInt8) (h:s=baL l) (w:World) (hl:l.length≤2097152):
  Calls Tryz.prog 102 #[.string s] w fun e w'=>e= .returned (.string (baL (ah l)))∧w=w':=by
 subst h;have:=jX (baL l) w (by rw [aR];unfold maxLen;omega);rw [bK] at this;exact this
theorem It4.off {W:World} {B B':Nat} {x0 x1 x2 x3:Value} (h:It4 W B x0 x1 x2 x3) (hn:B'≠B) (j:Nat) (y:Value):It4 (W.setCell ⟨B',j,none⟩ y) B x0 x1 x2 x3:=
 h.grown (row:=some B') ⟨rfl,rfl,rfl,by simp [World.setCell],fun b _ hb=>Below.heap_setCell _ _ _ _ (fun e=>hb (by rw [e]))⟩ (by intro e;injection e with e;exact hn e)
theorem It4.s2 {W:World} {B:Nat} {x0 x1 x2 x3:Value} (h:It4 W B x0 x1 x2 x3) (y:Value):It4 (W.setCell ⟨B,2,none⟩ y) B x0 x1 y x3:=by
 obtain ⟨⟨h1,h2,h3,h4⟩,⟨f1,f2,f3,f4⟩,h5⟩:=h;refine ⟨⟨?_, ?_, ?_, ?_⟩,⟨?_, ?_, ?_, ?_⟩, ?_⟩
 all_goals simp [go_sem, *]
theorem It4.s3 {W:World} {B:Nat} {x0 x1 x2 x3:Value} (h:It4 W B x0 x1 x2 x3) (y:Value):It4 (W.setCell ⟨B,3,none⟩ y) B x0 x1 x2 y:=by
 obtain ⟨⟨h1,h2,h3,h4⟩,⟨f1,f2,f3,f4⟩,h5⟩:=h;refine ⟨⟨?_, ?_, ?_, ?_⟩,⟨?_, ?_, ?_, ?_⟩, ?_⟩
 all_goals simp [go_sem, *]
structure SpIt (w X:World) (k:Int) (n:ByteArray) (v:Value) (x:List Cl) (t:ByteArray):Prop where
 b:Below w.heap.size w X
 z:It4 X w.heap.size (.int .i64 0) (.string ⟨#[]⟩) (.slice none 0 0) (.string ⟨#[]⟩)
 i:It4 X (w.heap.size+1) (.int .i64 k) (.string n) v (.string t)
 o:X.ownsRow (w.heap.size+2) 110 3 v x.length (ai x)
section
variable {w X:World} {k:Int} {n t:ByteArray} {v:Value} {x:List Cl}
theorem SpIt.row (h:SpIt w X k n v x t) (j:Nat) (y:Value) (B:Nat) (hB:B<w.heap.size+2):(X.setCell ⟨B,j,none⟩ y).ownsRow (w.heap.size+2) 110 3 v x.length (ai x):=
 dI h.o (fun g hg=>Below.heap_setCell _ _ _ _ (fun e=>by have:=(h.o.lt g hg).1;dsimp only at e;omega))
theorem SpIt.setT (h:SpIt w X k n v x t) (t':ByteArray):SpIt w (X.setCell ⟨w.heap.size+1,3,none⟩ (.string t')) k n v x t':=
 ⟨h.b.setCell (p:=⟨w.heap.size+1,3,none⟩) (Nat.le_succ _) _,h.z.off (by omega) _ _,h.i.s3 _,h.row _ _ _ (by omega)⟩
theorem SpIt.setV (h:SpIt w X k n v x t) {v':Value} {x':List Cl} (ho:X.ownsRow (w.heap.size+2) 110 3 v' x'.length (ai x')):SpIt w (X.setCell ⟨w.heap.size+1,2,none⟩ v') k n v' x' t:=
 ⟨h.b.setCell (p:=⟨w.heap.size+1,2,none⟩) (Nat.le_succ _) _,h.z.off (by omega) _ _,h.i.s2 _,dI ho (fun g hg=>Below.heap_setCell _ _ _ _ (fun e=>by have:=(ho.lt g hg).1;dsimp only at e;omega))⟩
theorem SpIt.keep (h:SpIt w X k n v x t) {Y:World} (hb:Below X.heap.size X Y):SpIt w Y k n v x t:=
 ⟨h.b.trans (hb.mono h.b.size),h.z.keep hb,h.i.keep hb,cD h.o hb⟩
theorem SpIt.base (h:SpIt w X k n v x t):w.heap.size+2≤X.heap.size:=h.i.2.2
theorem SpIt.start (w:World) (k:Int) (n t:ByteArray):SpIt w ((w.alloc (.cells #[.int .i64 0, .string ⟨#[]⟩, .slice none 0 0, .string ⟨#[]⟩] 32)).alloc (.cells #[.int .i64 k, .string n, .slice none 0 0, .string t] 32)) k n (.slice none 0 0) [] t:=by
 refine ⟨((Below.refl _ w).alloc (agD _) _).alloc (by simp) _,(It4.new w _ _ _ _ _).al _, ?_,World.ownsRow_nil _ _ _ _⟩;have:=It4.new (w.alloc (.cells #[.int .i64 0, .string ⟨#[]⟩, .slice none 0 0, .string ⟨#[]⟩] 32)) (.int .i64 k) (.string n) (.slice none 0 0) (.string t) 32
 simpa using this
theorem SpIt.valid (h:SpIt w X k n v x t) (hf:n.size≤maxLen∧co x∧x.length≤1048576∧t.size≤maxLen):
  ∃ok,Hid (aP (k,n,x,t)=ok)∧Calls Tryz.prog 51 #[.agg #[.int .i64 k, .string n,v, .string t]] X fun e w'=>e= .returned (.bool ok)∧Below X.heap.size X w':=
 ⟨_,agC rfl,gF (k,n,x,t) v _ (RowC.of_own h.o).1 hf.1 hf.2.1 hf.2.2.1 hf.2.2.2⟩
theorem SpIt.fin (h:SpIt w X k n v x t) {s:ByteArray} (hr:aH rdS s=some (k,n,x,t)):
  nU (aH rdS s) w (.returned (.tuple #[.agg #[.int .i64 k, .string n,v, .string t], .bool true])) ((((X.setCell ⟨w.heap.size,0,none⟩ (.int .i64 k)).setCell ⟨w.heap.size,1,none⟩ (.string n)).setCell ⟨w.heap.size,2,none⟩ v).setCell ⟨w.heap.size,3,none⟩ (.string t)):=by
 rw [hr];exact ⟨_,rfl,qN h.b (bX (base':=w.heap.size+1) h.o (fun g hg=>by have:=(h.o.lt g hg).1;omega))⟩
theorem SpIt.non (h:SpIt w X k n v x t) {s:ByteArray} (hr:aH rdS s=none):
  nU (aH rdS s) w (.returned (.tuple #[.agg #[.int .i64 0, .string ⟨#[]⟩, .slice none 0 0, .string ⟨#[]⟩], .bool false])) ((((X.setCell ⟨w.heap.size,0,none⟩ (.int .i64 0)).setCell ⟨w.heap.size,1,none⟩ (.string ⟨#[]⟩)).setCell ⟨w.heap.size,2,none⟩ (.slice none 0 0)).setCell ⟨w.heap.size,3,none⟩ (.string ⟨#[]⟩)):=by
 rw [hr];exact ⟨_,rfl,qN h.b (World.ownsRow_nil X (w.heap.size+1) 110 3)⟩
end
theorem po (s:ByteArray) (w:World) (hs:s.size≤2097152):
  Calls Tryz.prog 72 #[.string s] w (nU (aH rdS s) w):=by
 have hl:s.data.toList.length≤2097152:=by rw [Array.length_toList];exact hs
 have Ab:=ce s.data.toList;have El:=agC (show aH rdS s=if aP (dD rdS (ah s.data.toList))=true then some (dD rdS (ah s.data.toList)) else none from rfl)
 go_enter Tryz.func72,Tryz.ntmps72
 go_wp2_with fail;refine (jX s _ (by unfold maxLen;omega)).mono ?_;rintro e w1 ⟨rfl,AU⟩;subst AU;generalize ah s.data.toList=l at*;have hz:=aR l
 by_cases c1:l=[]
 case' pos=>
  subst c1;have HV:=agC (show dD rdS []=(1,⟨#[]⟩,[],⟨#[]⟩) by rw [dD,if_pos rfl]);have e0:(baL ([]:List UInt8)).toList=[]:=ByteArray.toList_eq _;have HI:=agC (SpIt.start w 1 ⟨#[]⟩ ⟨#[]⟩);have HF:=agC (show (⟨#[]⟩:ByteArray).size≤maxLen∧co ([]:List Cl)∧([]:List Cl).length≤1048576∧(⟨#[]⟩:ByteArray).size≤maxLen from ⟨(by show (⟨#[]⟩:ByteArray).size≤maxLen;unfold maxLen;exact agH _),cY,agH _,(by show (⟨#[]⟩:ByteArray).size≤maxLen;unfold maxLen;exact agH _)⟩)
 case' neg=>
  by_cases c2:l=[125]
  case' pos=>
   subst c2;have HV:=agC (show dD rdS [125]=(5,⟨#[]⟩,[],⟨#[]⟩) by rw [dD,if_neg (by simp),if_pos rfl]);have e0:(baL ([125]:List UInt8)).toList=[125]:=ByteArray.toList_eq _;have HI:=agC (SpIt.start w 5 ⟨#[]⟩ ⟨#[]⟩);have HF:=agC (show (⟨#[]⟩:ByteArray).size≤maxLen∧co ([]:List Cl)∧([]:List Cl).length≤1048576∧(⟨#[]⟩:ByteArray).size≤maxLen from ⟨(by show (⟨#[]⟩:ByteArray).size≤maxLen;unfold maxLen;exact agH _),cY,agH _,(by show (⟨#[]⟩:ByteArray).size≤maxLen;unfold maxLen;exact agH _)⟩)
  case' neg=>
   have t1:((baL l).toList==[])=false:=by rw [beq_eq_false_iff_ne,ByteArray.toList_eq];exact c1
   have t2:((baL l).toList==[125])=false:=by rw [beq_eq_false_iff_ne,ByteArray.toList_eq];exact c2
   have Iq:0<l.length:=List.length_pos_iff.mpr c1
   have hh:l.head? =some (l[0]'Iq):=by rw [List.head?_eq_getElem?,List.getElem?_eq_getElem Iq]
   have Cu:=pD l 0 (by omega)
   by_cases c3:l[0]'Iq=35
   case' pos=>
    have HV:=agC (show dD rdS l=(2,⟨#[]⟩,[],baL (ah (l.drop 1))) by rw [dD,if_neg c1,if_neg c2,if_pos (by rw [hh,c3])])
    have t3:(((l[0]'Iq).toNat:Int)==35)=true:=by rw [c3];rfl
    have HD:=agC (show (baL l).extract 1 l.length=baL (l.drop 1) by rw [←aR l,iC])
    have h1:(l.drop 1).length≤2097152:=by rw [List.length_drop];omega
    have JL:(baL (ah (l.drop 1))).size≤maxLen:=by have:=ce (l.drop 1);rw [aR];unfold maxLen;omega
    have MN:=agC (fun W=>x9 _ (l.drop 1) HD.out W h1);clear c1 c2 c3 hh;generalize baL (ah (l.drop 1))=nt at*;go_wp2_with fail;refine (MN.out _).mono ?_;rintro e w1 ⟨rfl,AU⟩;subst AU;have HI:=agC (SpIt.start w 2 ⟨#[]⟩ nt);have HF:=agC (show (⟨#[]⟩:ByteArray).size≤maxLen∧co ([]:List Cl)∧([]:List Cl).length≤1048576∧(nt:ByteArray).size≤maxLen from ⟨(by show (⟨#[]⟩:ByteArray).size≤maxLen;unfold maxLen;exact agH _),cY,agH _,JL⟩)
   case neg=>
    have t3:(((l[0]'Iq).toNat:Int)==35)=false:=by
     rw [beq_eq_false_iff_ne];intro h;exact c3 (ko (c:=35) h)
    have NU:(nmQ l).length≤2097152:=by rw [ig,List.length_drop];omega
    obtain ⟨q,FQ,hq⟩: ∃q,Hid (ah (nmQ l)=q)∧q.length≤2097152:=⟨_,agC rfl,Nat.le_trans (ce _) NU⟩
    have AT:=agC (show dD rdS l=if q=[123] then (4,baL (nmP l),[],⟨#[]⟩) else if q.head? =some 61 then (3,baL (nmP l),rdS (baL (dX (q.drop 1))),baL (ey (q.drop 1))) else (0,baL (nmP l),[],⟨#[]⟩) by rw [dD,if_neg c1,if_neg c2,if_neg (by rw [hh];simpa using c3),FQ.out])
    have Ch:(nmP l).length≤l.length:=by
     have:=congrArg List.length (jD l);rw [List.length_take] at this;omega
    obtain ⟨K,hn,HT,HQ,Id,Jq⟩: ∃K:Nat,K≤l.length∧Hid (nmP l=l.take K)∧Hid (nmQ l=l.drop K)∧Hid (∀k,k<K→ ∃h:k<l.length,jt l[k]=true)∧Hid (∀h:K<l.length,jt (l[K]'h)=false):=
     ⟨(nmP l).length,Ch,agC (jD l),agC (ig l),agC (aeF l),agC (abe l)⟩
    clear c1 c2 c3 hh Ch;go_wp2_with fail
    go_loopw [6] (fun i wr=> ∃k:Nat,k≤K∧i= .int .i64 (k:Int)∧wr=(w.alloc (.cells #[.int .i64 0, .string ⟨#[]⟩, .slice none 0 0, .string ⟨#[]⟩] 32)).alloc (.cells #[.int .i64 0, .string ⟨#[]⟩, .slice none 0 0, .string ⟨#[]⟩] 32)) (fun i _=>K-(intOf i).toNat)
    case atStart=>exact ⟨0,agH _,rfl,rfl⟩
    case round=>
     obtain ⟨k,hk,rfl,EG⟩:=hrel;subst EG;clear Cu t1 t2 t3
     by_cases Ab:k<l.length
     case' pos=>
      have Bm:(k:Int)<(l.length:Int):=by omega
      have Cm:k<(baL l).size:=by omega
      have hb:=pD l k Cm
      have hu:((l[k]'Ab).toNat:Int)≤255:=by have:=(l[k]'Ab).toNat_lt;omega
      have Kv:=agC (show jt (l[k]'Ab)=(bS ((l[k]'Ab).toNat:Int)||cf ((l[k]'Ab).toNat:Int)||(((l[k]'Ab).toNat:Int)==95)) from rfl)
      by_cases Ng:k<K
      case pos=>
       obtain ⟨hx,EK⟩:=Id.out k Ng;rw [Kv.out] at EK
       cases JH:bS ((l[k]'Ab).toNat:Int) with
       |true=>
        clear EK;go_wp2_with fail;refine (aT (((baL l)[k]'Cm).toNat:Int) _ (by omega) (by rw [hb];exact hu)).mono ?_;rintro e w1 ⟨rfl,rfl⟩;go_wp2;go_roundw
        case rel=>exact ⟨k+1,by omega,by go_num,by trivial⟩
        case measure=>simp [intOf];omega
       |false=>
        go_wp2_with fail;refine (aT (((baL l)[k]'Cm).toNat:Int) _ (by omega) (by rw [hb];exact hu)).mono ?_;rintro e w1 ⟨rfl,rfl⟩
        cases Ka:cf ((l[k]'Ab).toNat:Int) with
        |true=>
         clear EK;go_wp2_with fail;refine (bp (((baL l)[k]'Cm).toNat:Int) _ (by omega) (by rw [hb];exact hu)).mono ?_;rintro e w1 ⟨rfl,rfl⟩;go_wp2;go_roundw
         case rel=>exact ⟨k+1,by omega,by go_num,by trivial⟩
         case measure=>simp [intOf];omega
        |false=>
         have Nx:(((l[k]'Ab).toNat:Int)==95)=true:=by rw [JH,Ka] at EK;simpa using EK
         clear EK;go_wp2_with fail;refine (bp (((baL l)[k]'Cm).toNat:Int) _ (by omega) (by rw [hb];exact hu)).mono ?_;rintro e w1 ⟨rfl,rfl⟩;go_wp2;go_roundw
         case rel=>exact ⟨k+1,by omega,by go_num,by trivial⟩
         case measure=>simp [intOf];omega
      case' neg=>
       obtain rfl:k=K:=by omega
       have EK:=Jq.out Ab;rw [Kv.out] at EK;simp only [Bool.or_eq_false_iff] at EK;obtain ⟨⟨JH,Ka⟩,Nx⟩:=EK;go_wp2_with fail;refine (aT (((baL l)[k]'Cm).toNat:Int) _ (by omega) (by rw [hb];exact hu)).mono ?_;rintro e w1 ⟨rfl,rfl⟩;go_wp2_with fail;refine (bp (((baL l)[k]'Cm).toNat:Int) _ (by omega) (by rw [hb];exact hu)).mono ?_;rintro e w1 ⟨rfl,rfl⟩
     case' neg=>
      obtain rfl:k=K:=by omega
      have Bm: ¬(k:Int)<(l.length:Int):=by omega
     all_goals
      have HN:=agC (show baL (nmP l)=((baL l).extract 0 k) by rw [iB,HT.out]);have HD:=agC (show (baL l).extract k l.length=baL (nmQ l) by rw [←aR l,iC,HQ.out])
      have Iw:(((baL l).extract 0 k):ByteArray).size≤maxLen:=by rw [iB,aR,List.length_take];unfold maxLen;omega
      go_wp2_with fail;refine (x9 _ (nmQ l) HD.out _ (by omega)).mono ?_;rintro e w1 ⟨he,AU⟩;subst AU;rw [FQ.out] at he;subst he
      by_cases c4:q=[123]
      case' pos=>
       have HV:=agC (show dD rdS l=(4,((baL l).extract 0 k),[],⟨#[]⟩) by rw [AT.out,if_pos c4,HN.out]);subst c4;have e0:(baL ([123]:List UInt8)).toList=[123]:=ByteArray.toList_eq _;have HI:=agC (SpIt.start w 4 ((baL l).extract 0 k) ⟨#[]⟩);have HF:=agC (show (((baL l).extract 0 k):ByteArray).size≤maxLen∧co ([]:List Cl)∧([]:List Cl).length≤1048576∧(⟨#[]⟩:ByteArray).size≤maxLen from ⟨Iw,cY,agH _,(by show (⟨#[]⟩:ByteArray).size≤maxLen;unfold maxLen;exact agH _)⟩)
      case' neg=>
       have t4:((baL q).toList==[123])=false:=by rw [beq_eq_false_iff_ne,ByteArray.toList_eq];exact c4
       by_cases c6:q=[]
       case' pos=>
        have HV:=agC (show dD rdS l=(0,((baL l).extract 0 k),[],⟨#[]⟩) by rw [AT.out,if_neg c4,if_neg (by rw [c6];simp),HN.out]);subst c6;have e0:(baL ([]:List UInt8)).toList=[]:=ByteArray.toList_eq _;have HI:=agC (SpIt.start w 0 ((baL l).extract 0 k) ⟨#[]⟩);have HF:=agC (show (((baL l).extract 0 k):ByteArray).size≤maxLen∧co ([]:List Cl)∧([]:List Cl).length≤1048576∧(⟨#[]⟩:ByteArray).size≤maxLen from ⟨Iw,cY,agH _,(by show (⟨#[]⟩:ByteArray).size≤maxLen;unfold maxLen;exact agH _)⟩)
       case' neg=>
        have KB:0<q.length:=List.length_pos_iff.mpr c6;have Sg:=aR q;have Uq:=pD q 0 (by omega)
        have t5:((baL q).toList==[])=false:=by rw [beq_eq_false_iff_ne,ByteArray.toList_eq];exact c6
        have t7:((baL q).toList !=[])=true:=by rw [bne,t5];rfl
        have hh:q.head? =some (q[0]'KB):=by rw [List.head?_eq_getElem?,List.getElem?_eq_getElem KB]
        have Gn:=agC c6;have Gm:=agC c4;clear c6 c4
        by_cases c5:q[0]'KB=61
        case' pos=>
         have HV:=agC (show dD rdS l=(3,((baL l).extract 0 k),rdS (baL (dX (q.drop 1))),baL (ey (q.drop 1))) by rw [AT.out,if_neg Gm.out,if_pos (by rw [hh,c5]),HN.out])
         have t6:(((q[0]'KB).toNat:Int)==61)=true:=by rw [c5];rfl
         have Ur:=agC (show (baL q).extract 1 q.length=baL (q.drop 1) by rw [←aR q,iC])
         have Cn:(q.drop 1).length≤2097152:=by rw [List.length_drop];omega
         have Aa:=ud (q.drop 1);have Es:=qp (q.drop 1);clear hh c5;go_wp2_with fail;refine (acO _ (q.drop 1) Ur.out _ Cn).mono ?_;rintro e w5 ⟨rfl,AI⟩;have LC:=agC ((SpIt.start w 3 ((baL l).extract 0 k) ⟨#[]⟩).keep AI);obtain ⟨⟨i0,i1,i2,i3⟩,⟨j0,j1,j2,j3⟩,Nz⟩:=LC.out.i;have Ny:=agC (LC.out.setT (baL (ey (q.drop 1))));clear AI Uq t6
         have JL:(baL (ey (q.drop 1))).size≤maxLen:=by rw [aR];unfold maxLen;omega
         have Nf:(baL (dX (q.drop 1))).size≤2097152:=by rw [aR];omega
         generalize baL (ey (q.drop 1))=nt at*;generalize baL (dX (q.drop 1))=sx at*;go_wp2_with fail;refine (qC sx _ Nf).mono ?_;rintro e w7 ⟨BK,Am⟩
         obtain ⟨v,ok,rfl,Ad⟩: ∃(v:Value) (ok:Bool),e= .returned (.tuple #[v, .bool ok])∧w7.ownsRow (w.heap.size+2) 110 3 v (rdS sx).length (ai (rdS sx)):=by
          rcases Am with ⟨v,c,rfl,hc,ho,-⟩|⟨⟨v,rfl,ho⟩,Ar⟩
          ·rw [rx hc];exact ⟨v,true,rfl,bX ho (fun g hg=>Nat.le_trans Ny.out.base (ho.lt g hg).1)⟩
          ·rw [xd Ar];exact ⟨v,false,rfl,bX ho (fun g hg=>Nat.le_trans Ny.out.base (ho.lt g hg).1)⟩
         obtain ⟨va,vc,rfl⟩:=aN Ad;have Ig:=agC (qo sx);have PR:=agC (Ny.out.keep BK);have HI:=agC (PR.out.setV Ad);clear i0 i1 i2 i3 j0 j1 j2 j3 Nz;obtain ⟨⟨i0,i1,i2,i3⟩,⟨j0,j1,j2,j3⟩,Nz⟩:=PR.out.i;clear BK Am Ad Ny LC PR;generalize rdS sx=R at*;have HF:=agC (show (((baL l).extract 0 k):ByteArray).size≤maxLen∧co (R:List Cl)∧(R:List Cl).length≤1048576∧(nt:ByteArray).size≤maxLen from ⟨Iw,Ig.out.1,by have:=Ig.out.2;omega,JL⟩)
        case' neg=>
         have HV:=agC (show dD rdS l=(0,((baL l).extract 0 k),[],⟨#[]⟩) by rw [AT.out,if_neg Gm.out,if_neg (by rw [hh];simpa using c5),HN.out])
         have t6:(((q[0]'KB).toNat:Int)==61)=false:=by
          rw [beq_eq_false_iff_ne];intro h;exact c5 (ko (c:=61) h)
         have HI:=agC (SpIt.start w 0 ((baL l).extract 0 k) ⟨#[]⟩);clear hh c5;have HF:=agC (show (((baL l).extract 0 k):ByteArray).size≤maxLen∧co ([]:List Cl)∧([]:List Cl).length≤1048576∧(⟨#[]⟩:ByteArray).size≤maxLen from ⟨Iw,cY,agH _,(by show (⟨#[]⟩:ByteArray).size≤maxLen;unfold maxLen;exact agH _)⟩)
      all_goals
       obtain ⟨ok,Bj,hc⟩:=HI.out.valid HF.out;have HC:=agC hc;clear hc
       (try go_wp2_with fail)
       refine HC.out.mono ?_;rintro e w9 ⟨rfl,Dh⟩;have Ix:=agC (HI.out.keep Dh);clear Dh HI HC;obtain ⟨⟨z0,z1,z2,z3⟩,⟨y0,y1,y2,y3⟩,QG⟩:=Ix.out.z;obtain ⟨⟨i0,i1,i2,i3⟩,⟨j0,j1,j2,j3⟩,Nz⟩:=Ix.out.i
       cases ok with
       |false=>
        have HN:=agC (Ix.out.non (s:=s) (by rw [El.out,HV.out,Bj.out,if_neg (by simp)]));go_wp2;exact bodyPost_ret (by simp [results,Tryz.results72,go_sem,z0,z1,z2,z3]) rfl HN.out
       |true=>
        have HN:=agC (Ix.out.fin (s:=s) (by rw [El.out,HV.out,Bj.out,if_pos rfl]));go_wp2;exact bodyPost_ret (by simp [results,Tryz.results72,go_sem,z0,z1,z2,z3]) rfl HN.out
 all_goals
  obtain ⟨ok,Bj,hc⟩:=HI.out.valid HF.out;have HC:=agC hc;clear hc
  (try go_wp2_with fail)
  refine HC.out.mono ?_;rintro e w9 ⟨rfl,Dh⟩;have Ix:=agC (HI.out.keep Dh);clear Dh HI HC;obtain ⟨⟨z0,z1,z2,z3⟩,⟨y0,y1,y2,y3⟩,QG⟩:=Ix.out.z;obtain ⟨⟨i0,i1,i2,i3⟩,⟨j0,j1,j2,j3⟩,Nz⟩:=Ix.out.i
  cases ok with
  |false=>
   have HN:=agC (Ix.out.non (s:=s) (by rw [El.out,HV.out,Bj.out,if_neg (by simp)]));go_wp2;exact bodyPost_ret (by simp [results,Tryz.results72,go_sem,z0,z1,z2,z3]) rfl HN.out
  |true=>
   have HN:=agC (Ix.out.fin (s:=s) (by rw [El.out,HV.out,Bj.out,if_pos rfl]));go_wp2;exact bodyPost_ret (by simp [results,Tryz.results72,go_sem,z0,z1,z2,z3]) rfl HN.out
def stI (k:Int):Int:=if k=4 then 1 else if k=5 then-1 else 0
theorem adY (d:Int) (i:It):dO d i=d+stI i.1:=by
 unfold dO fq stI
 by_cases h4:i.1=4
 ·rw [if_pos h4,if_pos h4,if_neg (by omega)]
 ·rw [if_neg h4,if_neg h4]
  split<;>omega
theorem ku (k:Int) (n t:ByteArray) (a:Option Addr) (m c:Nat) (w:World):
  Calls Tryz.prog 60 #[.agg #[.int .i64 k, .string n, .slice a m c, .string t]] w fun e w'=>e= .returned (.int .i64 (stI k))∧Below w.heap.size w w':=by
 have HB:=agC ((Below.refl w.heap.size w).alloc (agD _) (.cells #[.int .i64 k, .string n, .slice a m c, .string t] 32));unfold stI
 by_cases h4:k=4
 ·subst h4
  go_enter Tryz.func60,Tryz.ntmps60
  go_wp2;go_ret;exact ⟨rfl,HB.out⟩
 by_cases h5:k=5
 ·subst h5
  go_enter Tryz.func60,Tryz.ntmps60
  go_wp2;go_ret;exact ⟨rfl,HB.out⟩
 rw [if_neg h4,if_neg h5];have t4:(k==4)=false:=beq_eq_false_iff_ne.mpr h4;have t5:(k==5)=false:=beq_eq_false_iff_ne.mpr h5
 go_enter Tryz.func60,Tryz.ntmps60
 go_wp2;go_ret;exact ⟨rfl,HB.out⟩
def afo (r:List It×Int) (w:World) (e:Ending) (w':World):Prop:=
 ∃(v:Value) (us:List Value),e= .returned (.tuple #[v, .int .i64 r.2])∧OwnI w' w.heap.size v us r.1∧Below w.heap.size w w'
theorem kx {R:ByteArray→List Cl} {acc:List It} {s:ByteArray} {ss:List ByteArray} (h:aH R s=none):goD R acc (s::ss)=(none,acc.length):=by rw [goD,h]
theorem iR {R:ByteArray→List Cl} {acc:List It} {s:ByteArray} {ss:List ByteArray} {i:It} (h:aH R s=some i) (hn: ¬(aZ 0 (acc++[i])≠none∧acc.length≠30)):goD R acc (s::ss)=(none,acc.length):=by
 rw [goD,h];simp only [if_neg hn]
theorem s8 {R:ByteArray→List Cl} {acc:List It} {s:ByteArray} {ss:List ByteArray} {i:It} (h:aH R s=some i) (hn:aZ 0 (acc++[i])≠none∧acc.length≠30):goD R acc (s::ss)=goD R (acc++[i]) ss:=by
 rw [goD,h];simp only [if_pos hn]
theorem s9 {acc:List It} {op:Int} (h:aZ 0 acc=some op) (i:It):aZ 0 (acc++[i])=if 0≤op+stI i.1∧op+stI i.1≤4 then some (op+stI i.1) else none:=by
 rw [hJ,h]
 show aZ op [i]=_
 show (if 0≤dO op i∧dO op i≤4 then aZ (dO op i) [] else none)=_
 rw [adY];rfl
theorem fT {R:ByteArray→List Cl} {ss:List ByteArray} {n:Nat} (h:goD R [] ss=(none,n)):cV R ss=([],(n:Int)):=by
 unfold cV;rw [h]
theorem tc {R:ByteArray→List Cl} {ss:List ByteArray} {acc:List It} {n:Nat} {op:Int} (h:goD R [] ss=(some acc,n)) (hl:acc.length≤30) (hv:acc.all aP=true) (ho:aZ 0 acc=some op):cV R ss=if op=0 then (acc,-1) else ([],(ss.length:Int)):=by
 unfold cV;rw [h];simp only
 by_cases h0:op=0
 ·rw [if_pos ((bP acc).mpr ⟨hl,hv,by rw [ho,h0]⟩),if_pos h0]
 ·rw [if_neg (fun k=>h0 (by have:=((bP acc).mp k).2.2;rw [ho] at this;injection this)),if_neg h0]
theorem gQ (s:ByteArray) (w:World) (hs:s.size≤2097152) (Al:Tab w):
  Calls Tryz.prog 23 #[.string s] w (afo (bi rdI s) w):=by
 have hm:s.size≤maxLen:=by unfold maxLen;omega
 by_cases ht:aD s=true
 case neg=>
  have HR:=agC (show bi rdI s=([],0) by unfold bi;rw [if_neg ht])
  have Hl:aD s=false:=by simpa using ht
  go_enter Tryz.func23,Tryz.ntmps23
  go_wp2_with fail;refine (bW s _ hm).mono ?_;rintro e w1 ⟨rfl,rfl⟩;rw [Hl];go_wp2;go_ret2;exact ⟨_,[],by rw [HR.out];rfl,by rw [HR.out];exact gv _ _,Below.refl _ _⟩
 have AP:s.size≤20000:=by simp only [aD,Bool.and_eq_true,decide_eq_true_eq] at ht;exact ht.1
 have AT:=agC (show bi rdI s=cV rdI (bC s) by unfold bi;rw [if_pos ht]);have Fu:=agC (fun (t:ByteArray) (h:t∈bC s)=>Nat.le_trans (iK s t h) AP);have HT:=agC Al;clear Al;obtain ⟨i0,hi,Az,Ax,AC⟩:=info_parts wD
 go_enter Tryz.func23,Tryz.ntmps23
 go_wp2_with fail;refine (bW s _ hm).mono ?_;rintro e w1 ⟨rfl,rfl⟩;rw [ht];go_wp2_with fail;refine (lL s _ hm).mono ?_;rintro e w1 ⟨v1,rfl,Eo,Aa⟩;generalize bC s=ss at AT Fu Eo;have Jm:=agC (RowOf.of_own Eo);have Af:=agC Aa;obtain ⟨va,vc,rfl⟩:=aN Eo;clear Eo Aa;go_wp2_with fail
 go_loopw [5,6,18] (fun a op i wr=> ∃(k:Nat) (o:Int) (us:List Value) (acc:List It),k≤ss.length∧i= .int .i64 (k:Int)∧op= .int .i64 o∧(0≤o∧o≤4)∧k≤30∧Hid (acc.length=k)∧OwnI wr w1.heap.size a us acc∧Hid (aZ 0 acc=some o)∧Hid (acc.all aP=true)∧Hid (goD rdI [] ss=goD rdI acc (ss.drop k))∧Below w1.heap.size w1 wr) (fun _ _ i _=>ss.length-(intOf i).toNat)
 case atStart=>exact ⟨0,0,[],[],agH _,rfl,rfl,by omega,by omega,agC rfl,gv _ _,agC rfl,agC rfl,agC (by rw [List.drop_zero]),Below.refl _ _⟩
 case round=>
  obtain ⟨k,o,us,acc,hk,rfl,rfl,ho,O1,BS,Ad,D2,Ip,DO,FD⟩:=hrel;have HO:=agC Ad;have BI:=agC FD;obtain ⟨aa,ac,rfl⟩:=aN Ad.row;clear Ad FD
  by_cases Ab:k<ss.length
  case neg=>
   have Bm: ¬(k:Int)<(ss.length:Int):=by omega
   have Dk:=agC (show bi rdI s=if o=0 then (acc,-1) else ([],(ss.length:Int)) from by
    rw [AT.out];refine tc (n:=acc.length) ?_ (by have:=BS.out;omega) Ip.out D2.out
    rw [DO.out,List.drop_of_length_le (by omega)];rfl)
   have Ex:=agC (Af.out.trans (BI.out.mono Af.out.size))
   by_cases h0:o=0
   ·subst h0
    have Do:=agC (show bi rdI s=(acc,-1) by rw [Dk.out,if_pos rfl]);go_wp2;go_ret2;exact ⟨_,us,by rw [Do.out];rfl,by rw [Do.out];exact HO.out.lower Af.out.size,Ex.out⟩
   ·have KS:(0:Int)<o:=by omega
    have Do:=agC (show bi rdI s=([],(ss.length:Int)) by rw [Dk.out,if_neg h0]);go_wp2;go_ret2;exact ⟨_,[],by rw [Do.out];rfl,by rw [Do.out];exact gv _ _,Ex.out⟩
  have Bm:(k:Int)<(ss.length:Int):=by omega
  obtain ⟨bo,bcap,BT,g1,g2,g3⟩:=Jm.out;rw [eg] at BT g1;simp only [Value.slice.injEq] at BT;obtain ⟨rfl,-,rfl⟩:=BT;unfold maxLen at g2;obtain ⟨b,off,rfl,Av,IU⟩:=g3.resolve_left (fun e=>by have:=congrArg List.length e;rw [eg,List.length_nil] at this;omega);have d0:wr.cell? ⟨b,off+k,none⟩=some (.string ss[k]):=(BI.out.cell (p:=⟨b,_,none⟩) Av).trans (IU k _ (by simp [fN,Ab]));have Au:=Fu.out ss[k] (List.getElem_mem Ab);have DJ:=agC (kj ss[k] wr (by omega) (HT.out.keep (Af.out.trans (BI.out.mono Af.out.size))));rw [oh (B:=20000) (fun l hl=>ug hl) Au] at DJ;have DN:=agC (List.drop_eq_getElem_cons Ab);generalize ss[k]=line at d0 DJ DN;clear IU g3 Au
  have Mc:acc.length≤30:=by have:=BS.out;omega
  have AK:=agC (Af.out.trans (BI.out.mono Af.out.size))
  cases Eg:aH rdI line with
  |none=>
   have Dk:=agC (show bi rdI s=([],(k:Int)) from by rw [AT.out];exact fT (by rw [DO.out,DN.out,kx Eg,BS.out]));have F8:=agC (show Calls Tryz.prog 42 #[.string line] wr (fun e w'=> ∃v,e= .returned (.tuple #[.agg #[.int .i64 0, .string ⟨#[]⟩,v, .string ⟨#[]⟩], .bool false])∧w'.ownsRow wr.heap.size 110 3 v 0 []∧Below wr.heap.size wr w') from by have:=DJ.out;rw [Eg] at this;exact this);clear Eg DJ DN DO D2 Ip;go_wp2_with fail;refine F8.out.mono ?_;rintro e w2 ⟨v2,rfl,Bu,Ae⟩;obtain ⟨a2,c2,rfl⟩:=aN Bu;have Ak:=agC (AK.out.trans (Ae.mono AK.out.size));have Ea:=agC (Ak.out.alloc Ak.out.size (.cells #[.int .i64 0, .string ⟨#[]⟩, .slice a2 0 c2, .string ⟨#[]⟩] 32));clear Bu Ae F8;go_wp2_with fail;refine (ku _ _ _ _ _ _ _).mono ?_;rintro e w3 ⟨rfl,Ag⟩;have Ap:=agC (Ea.out.trans (Ag.mono Ea.out.size))
   have e0:stI 0=0:=by decide
   rw [e0];clear Ag;go_wp2;go_ret2;exact ⟨_,[],by rw [Dk.out];rfl,by rw [Dk.out];exact gv _ _,Ap.out⟩
  |some i=>
   have F8:=agC (show Calls Tryz.prog 42 #[.string line] wr (fun e w'=> ∃v,e= .returned (.tuple #[.agg #[.int .i64 i.1, .string i.2.1,v, .string i.2.2.2], .bool true])∧w'.ownsRow wr.heap.size 110 3 v i.2.2.1.length (ai i.2.2.1)∧Below wr.heap.size wr w') from by have:=DJ.out;rw [Eg] at this;exact this);have JA:=agC (zI Eg);have FB:=agC (s9 D2.out i);have JM:=agC Eg;clear Eg DJ;obtain ⟨ki,n,x,t⟩:=i;go_wp2_with fail;refine F8.out.mono ?_;rintro e w2 ⟨v2,rfl,Bu,Ae⟩
   (try simp only at Bu)
   obtain ⟨a2,c2,rfl⟩:=aN Bu;have Ak:=agC Ae;have Cc:=agC Bu;have Ko:=agC (It4.new w2 (.int .i64 ki) (.string n) (.slice a2 x.length c2) (.string t) 32);have Ea:=agC (Ak.out.alloc Ak.out.size (.cells #[.int .i64 ki, .string n, .slice a2 x.length c2, .string t] 32));have GK:=agC (Cc.out.alloc (.cells #[.int .i64 ki, .string n, .slice a2 x.length c2, .string t] 32));clear Bu Ae F8;go_wp2_with fail;refine (ku _ _ _ _ _ _ _).mono ?_;rintro e w3 ⟨rfl,Ag⟩;have Ap:=agC (Ea.out.trans (Ag.mono Ea.out.size));have Tw:=agC (Ko.out.keep Ag);have BY:=agC (dB GK.out Ag)
   have Md: -1≤stI ki∧stI ki≤1:=by unfold stI;split;omega;split<;>omega
   have Gk:=agC (show aZ 0 (acc++[(ki,n,x,t)])=if 0≤o+stI ki∧o+stI ki≤4 then some (o+stI ki) else none from FB.out);generalize stI ki=st at Md Gk⊢;have Ex:=agC (AK.out.trans (Ap.out.mono AK.out.size));have Q7:IntKind.i64.wrap (o+st)=o+st:=IntWalk.i64_in _ (by omega);have HW:=agC Q7;clear Ag Ea Ko GK Ak Cc FB Q7
   by_cases hg:0≤o+st∧o+st≤4∧k≠30
   case neg=>
    have Dk:=agC (show bi rdI s=([],(k:Int)) from by
     rw [AT.out];refine fT ?_;rw [DO.out,DN.out,iR JM.out (fun hq=>hg ?_),BS.out];have h1:=hq.1;rw [Gk.out] at h1
     by_cases hc:0≤o+st∧o+st≤4
     ·exact ⟨hc.1,hc.2,by have:=BS.out;have:=hq.2;omega⟩
     ·rw [if_neg hc] at h1;exact absurd rfl h1)
    have h3:(o+st<0)∨(0≤o+st∧4<o+st)∨(0≤o+st∧o+st≤4∧(k:Int)=30):=by omega
    clear hg DN DO D2 Ip
    rcases h3 with q1|⟨q0,q1⟩|⟨q0,q1,q2⟩
    ·go_wp2
     go_ret2;exact ⟨_,[],by rw [Dk.out];rfl,by rw [Dk.out];exact gv _ _,Ex.out⟩
    ·go_wp2
     go_ret2;exact ⟨_,[],by rw [Dk.out];rfl,by rw [Dk.out];exact gv _ _,Ex.out⟩
    ·have q3:((k:Int)==30)=true:=beq_iff_eq.mpr q2
     clear q2;go_wp2;go_ret2;exact ⟨_,[],by rw [Dk.out];rfl,by rw [Dk.out];exact gv _ _,Ex.out⟩
   obtain ⟨q0,q1,q2⟩:=hg;have q3:((k:Int)==30)=false:=beq_eq_false_iff_ne.mpr (by omega)
   have Ty:k<30:=by omega
   have OZ:=agC (show goD rdI [] ss=goD rdI (acc++[(ki,n,x,t)]) (ss.drop (k+1)) from by
    rw [DO.out,DN.out,s8 JM.out ⟨by rw [Gk.out,if_pos ⟨q0,q1⟩];simp,by have:=BS.out;omega⟩])
   have EY:=agC (show aZ 0 (acc++[(ki,n,x,t)])=some (o+st) from by rw [Gk.out,if_pos ⟨q0,q1⟩]);have Li:=agC (show (acc++[(ki,n,x,t)]).all aP=true from by rw [List.all_append,Ip.out];simp [JA.out]);have DW:=agC (show (acc++[(ki,n,x,t)]).length=k+1 from by rw [agE,BS.out];rfl);obtain ⟨⟨z0,z1,z2,z3⟩,-,hz⟩:=Tw.out
   have At: ¬w2.heap.size=w3.heap.size:=by omega
   have El:=agC (show w3.ownsRow w1.heap.size 32 4 (.slice aa acc.length ac) acc.length (itF acc us) from dB HO.out.row Ap.out);have BZ:w1.heap.size≤w3.heap.size:=Nat.le_trans BI.out.size Ap.out.size;clear q2 DN DO D2 Ip Gk JM JA BS
   go_wp2_with (at_builtin;refine wpList_append_lies _ rfl _ _ 23 rfl w1.heap.size 32 i0 (.agg #[.int .i64 0, .string ByteArray.empty, .slice none 0 0, .string ByteArray.empty]) 4 64 Tryz.underlying23 hi Az Ax AC rfl (by decide) (.slice aa acc.length ac) acc.length (itF acc us) rfl (by exact (El.out.alloc _)) ⟨w3.heap.size,0,none⟩ 1 1 [.int .i64 ki, .string n, .slice a2 x.length c2, .string t] rfl rfl (World.news_of_block (heap_alloc_new w3 _)) (by simp [Value.oneCell']) (by omega) (by unfold maxLen;omega) (by omega) (by simp;omega) (w3.heap.size+1) (by simp) ?_;intro gg cap' w4 Db BN EB Dd)
   have JN:=HO.out.push (i:=(ki,n,x,t)) BI.out.size Ap.out BY.out _ BN Db EB;have JO:=agC JN.1;have Aw:=agC (BI.out.trans (JN.2.mono (agD _)));clear JN Db BN EB Dd;go_wp2;go_roundw
   case rel=>exact ⟨k+1,o+st,us++[.slice a2 x.length c2],acc++[(ki,n,x,t)],by omega,by go_num,by first|rfl|rw [HW.out],⟨q0,q1⟩,by omega,DW,JO.out,EY,Li,OZ,Aw.out⟩
   case measure=>simp [intOf];omega
theorem xh (l:List UInt8) (hl:l.length≤1048576):(dD rdS l).2.1.size≤1048576∧co (dD rdS l).2.2.1∧(dD rdS l).2.2.1.length≤1048576∧(dD rdS l).2.2.2.size≤1048576:=by
 have h1:(nmP l).length≤l.length:=by
  have:=congrArg List.length (jD l);rw [List.length_take] at this;omega
 have h2:=nr l;have h3:=ce (nmQ l);have e0:(⟨#[]⟩:ByteArray).size≤1048576:=agH _;unfold dD
 split
 ·exact ⟨e0,cY,agH _,e0⟩
 split
 ·exact ⟨e0,cY,agH _,e0⟩
 split
 ·refine ⟨e0,cY,agH _, ?_⟩
  show (baL (ah (l.drop 1))).size≤_
  rw [aR];have:=ce (l.drop 1);rw [List.length_drop] at this;omega
 split
 ·exact ⟨by show (baL (nmP l)).size≤_;rw [aR];omega,cY,agH _,e0⟩
 split
 ·have h4:=qo (baL (dX ((ah (nmQ l)).drop 1)))
  refine ⟨by show (baL (nmP l)).size≤_;rw [aR];omega,h4.1,Nat.le_trans h4.2 (by omega), ?_⟩
  show (baL (ey ((ah (nmQ l)).drop 1))).size≤_
  rw [aR];have:=ud ((ah (nmQ l)).drop 1);rw [List.length_drop] at this;omega
 ·exact ⟨by show (baL (nmP l)).size≤_;rw [aR];omega,cY,agH _,e0⟩
theorem lT {s:ByteArray} {i:It} (h:aH rdS s=some i) (hs:s.size≤1048576):i.2.1.size≤1048576∧co i.2.2.1∧i.2.2.1.length≤1048576∧i.2.2.2.size≤1048576:=by
 unfold aH at h
 split at h
 ·injection h with h
  rw [←h];refine xh _ ?_;have h1:=ce s.data.toList
  have h2:s.data.toList.length=s.size:=by rw [Array.length_toList];rfl
  omega
 ·cases h
theorem ul {l:List It} {i:It} (h:fm l) (hi:i.2.1.size≤1048576∧co i.2.2.1∧i.2.2.1.length≤1048576∧i.2.2.2.size≤1048576):fm (l++[i]):=by
 intro j hj
 rcases List.mem_append.mp hj with h1|h1
 ·exact h j h1
 ·rw [List.mem_singleton.mp h1];exact hi
theorem xi {R:ByteArray→List Cl} {ss:List ByteArray} {acc:List It} {n:Nat} (h:goD R [] ss=(some acc,n)):cV R ss=if dT acc=true then (acc,-1) else ([],(ss.length:Int)):=by
 unfold cV;rw [h]
theorem xj {w:World} {B m n:Nat} {e:TypeId} {v:Value} {xs:List Value} (h:w.ownsRow B e m v n xs): ∃a c,v= .slice a n c:=by
 rcases h.2 with ⟨rfl,rfl⟩|⟨g,cap,cur,rfl,_⟩
 ·exact ⟨_,_,rfl⟩
 ·exact ⟨_,_,rfl⟩
theorem rG {w X:World} {g:Nat} (hg:g=X.heap.size) (hb:w.heap.size≤X.heap.size):OwnI (X.alloc (.cells #[] 32)) w.heap.size (.slice (some ⟨g,0,none⟩) 0 0) [] []:=by
 subst hg;exact (aeN X).lower hb
theorem lU (s:ByteArray) (w:World) (hs:s.size≤2097152):
  Calls Tryz.prog 41 #[.string s] w (afo (bi rdS s) w):=by
 have hm:s.size≤maxLen:=by unfold maxLen;omega
 have AK:=agC ((Below.refl w.heap.size w).alloc (agD _) (.cells #[] 32));have FY:=agC (aeN w)
 have Ln:(w.alloc (.cells #[] 32)).heap.size=w.heap.size+1:=by simp
 by_cases ht:aD s=true
 case neg=>
  have HR:=agC (show bi rdS s=([],0) by unfold bi;rw [if_neg ht])
  have Hl:aD s=false:=by simpa using ht
  go_enter Tryz.func41,Tryz.ntmps41
  go_wp2_with fail;refine (aG s _ hm).mono ?_;rintro e w1 ⟨rfl,hw⟩;subst hw;rw [Hl];go_wp2;go_ret2;exact ⟨_,[],by rw [HR.out];rfl,by rw [HR.out];exact FY.out,AK.out⟩
 have AP:s.size≤20000:=by simp only [aD,Bool.and_eq_true,decide_eq_true_eq] at ht;exact ht.1
 have AT:=agC (show bi rdS s=cV rdS (bC s) by unfold bi;rw [if_pos ht]);have Fu:=agC (fun (t:ByteArray) (h:t∈bC s)=>Nat.le_trans (iK s t h) AP);obtain ⟨i0,hi,Az,Ax,AC⟩:=info_parts wD;have NI:=agC Ln;clear Ln
 go_enter Tryz.func41,Tryz.ntmps41
 go_wp2_with fail;refine (aG s _ hm).mono ?_;rintro e w1 ⟨rfl,hw⟩;subst hw;rw [ht];go_wp2_with fail;refine (qB s _ hm).mono ?_;rintro e w1 ⟨v1,rfl,Eo,Aa⟩;generalize bC s=ss at AT Fu Eo;rw [NI.out] at Eo;obtain ⟨va,vc,rfl⟩:=aN Eo;have Jm:=agC Eo;have Af:=agC (AK.out.trans (Aa.mono AK.out.size));have Fq:=agC (FY.out.below Aa);clear Eo Aa;go_wp2_with fail
 go_loopw [4,6] (fun a i wr=> ∃(k:Nat) (o:Int) (us:List Value) (acc:List It),k≤ss.length∧i= .int .i64 (k:Int)∧k≤30∧Hid (acc.length=k)∧OwnI wr w.heap.size a us acc∧Hid (aZ 0 acc=some o)∧Hid (fm acc)∧Hid (goD rdS [] ss=goD rdS acc (ss.drop k))∧Below w.heap.size w wr∧wr.ownsRow (w.heap.size+1) 9 1 (.slice va ss.length vc) ss.length (fN ss)∧(∀x,a.ownBlock=some x→Value.ownBlock (.slice va ss.length vc)≠some x)) (fun _ i _=>ss.length-(intOf i).toNat)
 case atStart=>exact ⟨0,0,[],[],agH _,rfl,by omega,agC rfl,Fq.out,agC rfl,agC (fun i hi=>by cases hi),agC (by rw [List.drop_zero]),Af.out,Jm.out,fun x hx hy=>by
  have h1:w.heap.size=x:=by simpa [Value.ownBlock] using hx
  have h2:=(Jm.out.lt x hy).1
  omega⟩
 case round=>
  obtain ⟨k,o,us,acc,hk,rfl,O1,BS,Ad,D2,Ip,DO,FD,JH,Gf⟩:=hrel;have HO:=agC Ad;have BI:=agC FD;have MJ:=agC JH;have Jg:=agC Gf;obtain ⟨aa,ac,rfl⟩:=aN Ad.row;clear Ad FD JH Gf
  by_cases Ab:k<ss.length
  case neg=>
   have Bm: ¬(k:Int)<(ss.length:Int):=by omega
   have Dk:=agC (show bi rdS s=if dT acc=true then (acc,-1) else ([],(ss.length:Int)) from by
    rw [AT.out];refine xi (n:=acc.length) ?_
    rw [DO.out,List.drop_of_length_le (by omega)];rfl)
   go_wp2_with fail;refine (gC _ acc wr HO.out.reads Ip.out (by have:=BS.out;omega)).mono ?_;rintro e w2 ⟨rfl,Ae⟩;have Ak:=agC (BI.out.trans (Ae.mono BI.out.size));have Cc:=agC (HO.out.below Ae);clear Ae
   cases hd:dT acc with
   |true=>
    have Do:=agC (show bi rdS s=(acc,-1) by rw [Dk.out,if_pos hd]);clear hd;go_wp2;go_ret2;exact ⟨_,us,by rw [Do.out];rfl,by rw [Do.out];exact Cc.out,Ak.out⟩
   |false=>
    have Do:=agC (show bi rdS s=([],(ss.length:Int)) by rw [Dk.out,if_neg (by rw [hd];simp)]);clear hd;go_wp2;go_ret2;exact ⟨_,[],by rw [Do.out];rfl,by rw [Do.out];exact rG rfl Ak.out.size,Ak.out.alloc Ak.out.size _⟩
  have Bm:(k:Int)<(ss.length:Int):=by omega
  have d0: ∃b off,va=some ⟨b,off,none⟩∧wr.cell? ⟨b,off+k,none⟩=some (.string ss[k]):=by
   have MC:=RowOf.of_own MJ.out;obtain ⟨bo,bcap,BT,g1,g2,g3⟩:=MC;rw [eg] at BT g1;simp only [Value.slice.injEq] at BT;obtain ⟨rfl,-,rfl⟩:=BT;obtain ⟨b,off,rfl,Av,IU⟩:=g3.resolve_left (fun e=>by have:=congrArg List.length e;rw [eg,List.length_nil] at this;omega);exact ⟨b,off,rfl,IU k _ (by simp [fN,Ab])⟩
  have hg2:ss.length≤vc∧vc≤maxLen:=by
   obtain ⟨bo,bcap,BT,g1,g2,g3⟩:=RowOf.of_own MJ.out;rw [eg] at BT g1;simp only [Value.slice.injEq] at BT;obtain ⟨rfl,-,rfl⟩:=BT;exact ⟨g1,g2⟩
  unfold maxLen at hg2;obtain ⟨g1,g2⟩:=hg2;obtain ⟨b,off,rfl,d0⟩:=d0;have Au:=Fu.out ss[k] (List.getElem_mem Ab);have DJ:=agC (po ss[k] wr (by omega));have DC:=agC (fun i (h:aH rdS ss[k]=some i)=>lT h (by omega));have DN:=agC (List.drop_eq_getElem_cons Ab);generalize ss[k]=line at d0 DJ DN DC;clear Au;generalize FV:aH rdS line=ro at DJ DC;have NJ:=agC FV;clear FV;go_wp2_with fail;refine DJ.out.mono ?_;rintro e w2 ⟨v2,rfl,Bu,Ae⟩;generalize LH:ro.getD qe=it at Bu⊢;have IQ:=agC LH;clear LH;generalize Nt:ro.isSome=ok;have RP:=agC Nt;clear Nt;obtain ⟨ki,n,x,t⟩:=it
  (try simp only at Bu⊢)
  obtain ⟨a2,c2,rfl⟩:=aN Bu;have Ak:=agC Ae;have Cc:=agC Bu;have Ea:=agC (Ak.out.alloc Ak.out.size (.cells #[.int .i64 ki, .string n, .slice a2 x.length c2, .string t] 32));have GK:=agC (Cc.out.alloc (.cells #[.int .i64 ki, .string n, .slice a2 x.length c2, .string t] 32));have El:=agC ((dB HO.out.row Ak.out).alloc (.cells #[.int .i64 ki, .string n, .slice a2 x.length c2, .string t] 32));have BZ:w.heap.size≤w2.heap.size:=Nat.le_trans BI.out.size Ak.out.size
  have Mc:acc.length≤30:=by have:=BS.out;omega
  clear Bu Ae DJ d0
  go_wp2_with (at_builtin;refine wpList_append_lies _ rfl _ _ 23 rfl w.heap.size 32 i0 (.agg #[.int .i64 0, .string ByteArray.empty, .slice none 0 0, .string ByteArray.empty]) 4 64 Tryz.underlying23 hi Az Ax AC rfl (by decide) (.slice aa acc.length ac) acc.length (itF acc us) rfl (by exact (El.out.alloc _)) ⟨w2.heap.size+1,0,none⟩ 1 1 [.int .i64 ki, .string n, .slice a2 x.length c2, .string t] rfl rfl (World.news_of_block (aaM (by simp) _)) (by simp [Value.oneCell']) (by omega) (by unfold maxLen;omega) (by omega) (by simp;omega) (w2.heap.size+2) (by simp) ?_;intro gg cap' w4 Db BN EB Dd)
  have JN:=HO.out.push (i:=(ki,n,x,t)) BI.out.size Ea.out GK.out _ BN Db (by simpa using EB);have JO:=agC JN.1;have Aw:=agC (BI.out.trans (JN.2.mono (agD _)))
  have Qb:=agC (show∀y,Value.ownBlock (.slice (some ⟨gg,0,none⟩) (acc.length+1) cap')=some y→Value.ownBlock (.slice (some ⟨b,off,none⟩) ss.length vc)≠some y from fun y hy hz=>by
   have hg:gg=y:=by simpa [Value.ownBlock] using hy
   subst hg
   rcases EB with h|h
   ·exact Jg.out _ h hz
   ·have h1:=(MJ.out.lt _ hz).2
    have h2:=Ak.out.size
    (try simp at h);omega)
  have MK:=agC (kD (((dB (dB MJ.out Ak.out) ((Below.refl _ w2).alloc (agD _) (.cells #[.int .i64 ki, .string n, .slice a2 x.length c2, .string t] 32)))).alloc _) Jg.out BN);clear JN Db BN EB Dd MJ Jg El Cc GK Ak Ea HO BI;go_wp2_with fail;refine (jz _ (acc++[(ki,n,x,t)]) w4 JO.out.reads (by rw [agE,List.length_singleton];omega)).mono ?_;rintro e w5 ⟨vd,d,L,rfl,KI,AI,hn⟩;obtain ⟨da,dc,rfl⟩:=xj KI;have AQ:=agC (Aw.out.trans (AI.mono Aw.out.size));have MH:=agC (JO.out.below AI);have Qc:=agC (dB MK.out AI);have HN:=agC hn;clear KI AI hn Aw JO MK;have CO:=agC (s9 D2.out (ki,n,x,t))
  cases ok with
  |false=>
   have Dq:ro=none:=by have:=RP.out;cases ro with|none=>rfl|some i=>cases this
   have Dk:=agC (show bi rdS s=([],(k:Int)) from by rw [AT.out];exact fT (by rw [DO.out,DN.out,kx (NJ.out.trans Dq),BS.out]));clear Dq;go_wp2;go_ret2;exact ⟨_,[],by rw [Dk.out];rfl,by rw [Dk.out];exact rG rfl AQ.out.size,AQ.out.alloc AQ.out.size _⟩
  |true=>
   have DJ:=agC (show aH rdS line=some (ki,n,x,t) from by
    rw [NJ.out];have h1:=RP.out;have h2:=IQ.out
    cases ro with
    |none=>cases h1
    |some i=>rw [←h2];rfl)
   by_cases hd:d<0
   ·have Dk:=agC (show bi rdS s=([],(k:Int)) from by
     rw [AT.out];refine fT ?_;rw [DO.out,DN.out,iR DJ.out (fun hq=>hq.1 ?_),BS.out]
     rcases HN.out with ⟨h,-⟩|⟨h,-⟩
     ·rw [CO.out] at h
      split at h
      ·rename_i hc;injection h with h;omega
      ·cases h
     ·exact h)
    go_wp2;go_ret2;exact ⟨_,[],by rw [Dk.out];rfl,by rw [Dk.out];exact rG rfl AQ.out.size,AQ.out.alloc AQ.out.size _⟩
   ·have RQ:=agC (show aZ 0 (acc++[(ki,n,x,t)])=some d from by
     rcases HN.out with ⟨h,-⟩|⟨-,h⟩
     ·exact h
     ·omega)
    by_cases Ep:k=30
    ·have Dk:=agC (show bi rdS s=([],(k:Int)) from by
      rw [AT.out];refine fT ?_
      rw [DO.out,DN.out,iR DJ.out (fun hq=>hq.2 (by rw [BS.out,Ep])),BS.out])
     have q3:((k:Int)==30)=true:=beq_iff_eq.mpr (by omega);clear Ep;go_wp2;go_ret2;exact ⟨_,[],by rw [Dk.out];rfl,by rw [Dk.out];exact rG rfl AQ.out.size,AQ.out.alloc AQ.out.size _⟩
    ·have q3:((k:Int)==30)=false:=beq_eq_false_iff_ne.mpr (by omega)
     have OZ:=agC (show goD rdS [] ss=goD rdS (acc++[(ki,n,x,t)]) (ss.drop (k+1)) from by
      rw [DO.out,DN.out,s8 DJ.out ⟨by rw [RQ.out];simp,by have:=BS.out;omega⟩])
     have DW:=agC (show (acc++[(ki,n,x,t)]).length=k+1 from by rw [agE,BS.out];rfl);have UJ:=agC (ul Ip.out (DC.out _ (NJ.out.symm.trans DJ.out)));clear DN DO D2 Ip HN CO DJ DC NJ BS;go_wp2;go_roundw
     case rel=>exact ⟨k+1,d,us++[.slice a2 x.length c2],acc++[(ki,n,x,t)],by omega,by go_num,by omega,DW,by rw [agE] at*;exact MH.out,RQ,UJ,OZ,AQ.out,Qc.out,Qb.out⟩
     case measure=>simp [intOf];omega
end Go.Proofs.YtegdjjjpoahamaaGreatDoor
