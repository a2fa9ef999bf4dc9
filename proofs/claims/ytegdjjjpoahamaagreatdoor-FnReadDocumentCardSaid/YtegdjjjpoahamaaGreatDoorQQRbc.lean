/-
  Part of the proof of FnReadDocument.
-/
import Derived.Test.YtegdjjjpoahamaaGreatDoorQQRbb
import Derived.Test.YtegdjjjpoahamaaGreatDoorQQRai
set_option linter.unusedVariables false
set_option maxHeartbeats 1000000
set_option maxRecDepth 100000
namespace Go.Proofs.YtegdjjjpoahamaaGreatDoor
open Go.RowKit
theorem sm {tk:List Tk} {p:Nat} (h: ¬p<tk.length) (w:List UInt8):isT tk p w=false:=by
 unfold isT;rw [List.getElem?_eq_none (by omega)]
theorem aa6 {tk:List Tk} {p d:Nat} (h: ¬p<tk.length):NoRd tk .atom p d:=by
 rintro ⟨c,q,m,k,-,-⟩
 cases k with
 |paren k1 k2 k3=>exact tf k1 (sm h _)
 |list k1 k2=>exact tf k1 (sm h _)
 |num k1 k2=>exact h (df k1)
 |text k1 k2=>exact h (df k1)
 |truth k1 k2=>exact h (df k1)
 |name k1 k2 k3 k4=>exact h (df k1)
 |call k1 k2 k3 k4 k5=>exact h (df k1)
theorem aC {tk:List Tk} {p:Nat} {k k':Int} {s s':ByteArray} (h:tk[p]? =some (k,s)) (h':tk[p]? =some (k',s')):k=k'∧s=s':=by
 rw [h] at h';simpa using h'
theorem aeY {tk:List Tk} {p d:Nat} {s:ByteArray} (h:tk[p]? =some (2,s)) (hn:iw s=false):NoRd tk .atom p d:=by
 rintro ⟨c,q,m,k,-,-⟩
 cases k with
 |num k1 k2=>obtain ⟨-,rfl⟩:=aC h k1;rw [hn] at k2;cases k2
 |paren k1 k2 k3=>exact bL k1 h (by decide)
 |list k1 k2=>exact bL k1 h (by decide)
 |text k1 k2=>exact absurd (aC h k1).1 (by decide)
 |truth k1 k2=>exact absurd (aC h k1).1 (by decide)
 |name k1 k2 k3 k4=>exact absurd (aC h k1).1 (by decide)
 |call k1 k2 k3 k4 k5=>exact absurd (aC h k1).1 (by decide)
theorem adu {tk:List Tk} {p d:Nat} {s:ByteArray} (h:tk[p]? =some (3,s)) (hn:bH s=false):NoRd tk .atom p d:=by
 rintro ⟨c,q,m,k,-,-⟩
 cases k with
 |text k1 k2=>obtain ⟨-,rfl⟩:=aC h k1;rw [hn] at k2;cases k2
 |paren k1 k2 k3=>exact bL k1 h (by decide)
 |list k1 k2=>exact bL k1 h (by decide)
 |num k1 k2=>exact absurd (aC h k1).1 (by decide)
 |truth k1 k2=>exact absurd (aC h k1).1 (by decide)
 |name k1 k2 k3 k4=>exact absurd (aC h k1).1 (by decide)
 |call k1 k2 k3 k4 k5=>exact absurd (aC h k1).1 (by decide)
theorem adv {tk:List Tk} {p d:Nat} {s:ByteArray} (h:tk[p]? =some (1,s)) (ht:s.data.toList≠b7) (hf:s.data.toList≠bE) (hp:isT tk (p+1) [40]=true) (hn:NoRd tk (.parts [41] 0 []) (p+2) d):NoRd tk .atom p d:=by
 rintro ⟨c,q,m,k,hc,hm⟩
 cases k with
 |call k1 k2 k3 k4 k5=>
  refine hn ⟨_,_,_,k5,hc.sub (by simp) (fun x hx=>by simp [hx]), ?_⟩;have:=hc.2 _ (List.mem_cons_self ..);have:=(jl this).2;simp only at this;omega
 |truth k1 k2=>obtain ⟨-,rfl⟩:=aC h k1;rcases k2 with k2|k2;exact ht k2;exact hf k2
 |name k1 k2 k3 k4=>exact tf hp k4
 |paren k1 k2 k3=>exact bL k1 h (by decide)
 |list k1 k2=>exact bL k1 h (by decide)
 |num k1 k2=>exact absurd (aC h k1).1 (by decide)
 |text k1 k2=>exact absurd (aC h k1).1 (by decide)
theorem adw {tk:List Tk} {p d:Nat} (h:isT tk p [91]=true) (hn:NoRd tk (.parts [93] 0 []) (p+1) d):NoRd tk .atom p d:=by
 obtain ⟨s,hs,e⟩:=dK h;rintro ⟨c,q,m,k,hc,hm⟩
 cases k with
 |list k1 k2=>
  refine hn ⟨_,_,_,k2,hc.sub (by simp) (fun x hx=>by simp [hx]), ?_⟩;have:=hc.2 _ (List.mem_cons_self ..);have:=(jl this).2;simp only at this;omega
 |paren k1 k2 k3=>exact gY k1 h (by decide)
 |num k1 k2=>exact absurd (aC hs k1).1 (by decide)
 |text k1 k2=>exact absurd (aC hs k1).1 (by decide)
 |truth k1 k2=>exact absurd (aC hs k1).1 (by decide)
 |name k1 k2 k3 k4=>exact absurd (aC hs k1).1 (by decide)
 |call k1 k2 k3 k4 k5=>exact absurd (aC hs k1).1 (by decide)
theorem aa7 {tk:List Tk} {p d:Nat} (h:isT tk p [40]=true) (hn:NoRd tk .choice (p+1) d):NoRd tk .atom p d:=by
 obtain ⟨s,hs,e⟩:=dK h;rintro ⟨c,q,m,k,hc,hm⟩
 cases k with
 |paren k1 k2 k3=>exact hn.use k2 hc (by rw [k2.zero (by intros;simp)];omega)
 |list k1 k2=>exact gY k1 h (by decide)
 |num k1 k2=>exact absurd (aC hs k1).1 (by decide)
 |text k1 k2=>exact absurd (aC hs k1).1 (by decide)
 |truth k1 k2=>exact absurd (aC hs k1).1 (by decide)
 |name k1 k2 k3 k4=>exact absurd (aC hs k1).1 (by decide)
 |call k1 k2 k3 k4 k5=>exact absurd (aC hs k1).1 (by decide)
theorem uJ {tk:List Tk} {p d:Nat} {a:List Cl} {q m:Nat} (h:isT tk p [40]=true) (hr:Rs tk .choice (p+1) d a q m) (hn:isT tk q [41]=false):NoRd tk .atom p d:=by
 obtain ⟨s,hs,e⟩:=dK h;rintro ⟨c,q',m',k,hc,hm⟩
 cases k with
 |paren k1 k2 k3=>obtain ⟨rfl,rfl,-⟩:=hr.uniq k2;exact tf k3 hn
 |list k1 k2=>exact gY k1 h (by decide)
 |num k1 k2=>exact absurd (aC hs k1).1 (by decide)
 |text k1 k2=>exact absurd (aC hs k1).1 (by decide)
 |truth k1 k2=>exact absurd (aC hs k1).1 (by decide)
 |name k1 k2 k3 k4=>exact absurd (aC hs k1).1 (by decide)
 |call k1 k2 k3 k4 k5=>exact absurd (aC hs k1).1 (by decide)
theorem yG {tk:List Tk} {p d:Nat} {s:ByteArray} (h:tk[p]? =some (4,s)) (h1:isT tk p [40]=false) (h2:isT tk p [91]=false):NoRd tk .atom p d:=by
 rintro ⟨c,q,m,k,-,-⟩
 cases k with
 |paren k1 k2 k3=>exact tf k1 h1
 |list k1 k2=>exact tf k1 h2
 |num k1 k2=>exact absurd (aC h k1).1 (by decide)
 |text k1 k2=>exact absurd (aC h k1).1 (by decide)
 |truth k1 k2=>exact absurd (aC h k1).1 (by decide)
 |name k1 k2 k3 k4=>exact absurd (aC h k1).1 (by decide)
 |call k1 k2 k3 k4 k5=>exact absurd (aC h k1).1 (by decide)
theorem xC {w w4:World} {a0 a1 a2 a3:Value} (h:BlkS w4 (w.heap.size+1) #[a0,a1,a2,a3]) (hb:Below w.heap.size w w4) (x0 x1 x2 x3 c0 c1 c2:Value):
  BlkS ((((((w4.setCell ⟨w.heap.size+1,0,none⟩ x0).setCell ⟨w.heap.size+1,1,none⟩ x1).setCell ⟨w.heap.size+1,2,none⟩ x2).setCell ⟨w.heap.size+1,3,none⟩ x3).alloc (.cells #[c0,c1,c2] 110)).drew) (w.heap.size+1) #[x0,x1,x2,x3]∧
  Below w.heap.size w ((((((w4.setCell ⟨w.heap.size+1,0,none⟩ x0).setCell ⟨w.heap.size+1,1,none⟩ x1).setCell ⟨w.heap.size+1,2,none⟩ x2).setCell ⟨w.heap.size+1,3,none⟩ x3).alloc (.cells #[c0,c1,c2] 110)).drew)∧
  World.ownsRow ((((((w4.setCell ⟨w.heap.size+1,0,none⟩ x0).setCell ⟨w.heap.size+1,1,none⟩ x1).setCell ⟨w.heap.size+1,2,none⟩ x2).setCell ⟨w.heap.size+1,3,none⟩ x3).alloc (.cells #[c0,c1,c2] 110)).drew) w.heap.size 110 3 (.slice (some ⟨w4.heap.size,0,none⟩) 1 1) 1 [c0,c1,c2]:=by
 have AI:=br hb (g:=w.heap.size+1) (by omega) x0 x1 x2 x3;exact ⟨((h.put4 x0 x1 x2 x3).alloc _).drew,(AI.alloc AI.size _).drew,iU AI.size (by simp [World.setCell])⟩
theorem aa8 {w w4:World} {a0 a1 a2 a3:Value} (h:BlkS w4 (w.heap.size+1) #[a0,a1,a2,a3]) (hb:Below w.heap.size w w4) (x0 x1 x2 x3 c0 c1 c2:Value):
  BlkS (((((w4.setCell ⟨w.heap.size+1,0,none⟩ x0).setCell ⟨w.heap.size+1,1,none⟩ x1).setCell ⟨w.heap.size+1,2,none⟩ x2).setCell ⟨w.heap.size+1,3,none⟩ x3).alloc (.cells #[c0,c1,c2] 110)) (w.heap.size+1) #[x0,x1,x2,x3]∧
  Below w.heap.size w (((((w4.setCell ⟨w.heap.size+1,0,none⟩ x0).setCell ⟨w.heap.size+1,1,none⟩ x1).setCell ⟨w.heap.size+1,2,none⟩ x2).setCell ⟨w.heap.size+1,3,none⟩ x3).alloc (.cells #[c0,c1,c2] 110))∧
  World.ownsRow (((((w4.setCell ⟨w.heap.size+1,0,none⟩ x0).setCell ⟨w.heap.size+1,1,none⟩ x1).setCell ⟨w.heap.size+1,2,none⟩ x2).setCell ⟨w.heap.size+1,3,none⟩ x3).alloc (.cells #[c0,c1,c2] 110)) w.heap.size 110 3 (.slice (some ⟨w4.heap.size,0,none⟩) 1 1) 1 [c0,c1,c2]:=by
 have AI:=br hb (g:=w.heap.size+1) (by omega) x0 x1 x2 x3
 have hs:((((w4.setCell ⟨w.heap.size+1,0,none⟩ x0).setCell ⟨w.heap.size+1,1,none⟩ x1).setCell ⟨w.heap.size+1,2,none⟩ x2).setCell ⟨w.heap.size+1,3,none⟩ x3).heap.size=w4.heap.size:=by simp [World.setCell]
 exact ⟨(h.put4 x0 x1 x2 x3).alloc _,AI.alloc AI.size _,(rg hs).mono hb.size⟩
theorem aa9 (tk:List Tk) (N:Nat) (ih:AllR tk N) (AP:tk.length≤20000) (p d:Nat) (W K:Value) (w:World) (hN:10*(tk.length-p)≤N+1) (hd:d≤41) (hr:RowTk w W K tk) (s:ByteArray) (Ec:s.size≤20000) (hs:tk[p]? =some (2,s)):
 Calls Tryz.prog 222 #[StV W K p d] w (dJ tk .atom p d W K w):=by
 obtain ⟨i0,hi,Az,Ax,AC⟩:=info_parts f5;have HR:=agC hr;have IH:=agC ih;have Dv:=agC hs;have AN:=df hs;obtain ⟨⟨ao,cap,rfl,q1,q2,q3⟩,bo,cp,rfl,k1,k2,k3⟩:=hr;unfold maxLen at q2 k2;obtain ⟨b,rfl,Av,cc⟩:=q3.resolve_left (by rintro rfl;simp at AN);obtain ⟨b2,rfl,D5,Ce⟩:=k3.resolve_left (by rintro rfl;simp at AN)
 have CF:tk[p]=(2,s):=by rw [List.getElem?_eq_getElem AN] at hs;injection hs
 have C1:=cc p AN;have C2:=Ce p AN;rw [CF] at C1 C2;obtain ⟨hA,hB,hC,hD⟩:=cB w #[.slice (some ⟨b,0,none⟩) tk.length cap, .slice (some ⟨b2,0,none⟩) tk.length cp, .int .i64 ((p:Int)+1), .int .i64 (d:Int)] #[.slice none 0 0, .slice none 0 0, .int .i64 0, .int .i64 0];have HA:=agC hA;have HB:=agC hB;have HC:=agC hC;have HD:=agC hD
 have IJ:(p:Int)<(tk.length:Int):=by omega
 clear cc Ce CF hs q3 k3 ih hA hB hC hD
 go_enter Tryz.func222,Tryz.ntmps222
 go_wp2_with fail;refine (bv s _ (by omega)).mono ?_;rintro e w3 ⟨rfl,Ag⟩;have Kj:=agC (HA.out.below Ag);have Ap:=agC (HB.out.below Ag);have Qq:=agC (HC.out.trans (Ag.mono HC.out.size));clear Ag HA HB HC
 have HF:=agC (show (iw s=true∧Rs tk .atom p d [(1,kB s,0)] (p+1) 0)∨(iw s=false∧NoRd tk .atom p d) from by
  cases hn:iw s with
  |true=>exact .inl ⟨rfl, .num Dv.out hn⟩
  |false=>exact .inr ⟨rfl,aeY Dv.out hn⟩)
 unfold iw kB at HF;generalize fs (bu s.data.toList) (aW s.data.toList) (aX s.data.toList)=OK at HF⊢;generalize opT (bu s.data.toList) (aW s.data.toList) (aX s.data.toList)=T at HF⊢;generalize opB (bu s.data.toList) (aW s.data.toList) (aX s.data.toList)=B at HF⊢;have BS:=agC (show∀(o:Obj),BlkS (w3.alloc o) w.heap.size _ from fun o=>Kj.out.alloc o);have Fm:=agC (show∀(o:Obj),BlkS (w3.alloc o) (w.heap.size+1) _ from fun o=>Ap.out.alloc o);have MU:=agC (show∀(o:Obj),Below w.heap.size w (w3.alloc o) from fun o=>Qq.out.alloc Qq.out.size o);obtain ⟨⟨s0,s1,s2,s3⟩,-⟩:=Kj.out.all;have l1:w.heap.size+1<w3.heap.size:=Ap.out.lt
 have l2:w.heap.size<w3.heap.size:=by omega
 have n1: ¬w.heap.size=w3.heap.size:=by omega
 have n2: ¬w.heap.size+1=w3.heap.size:=by omega
 go_wp2_with fail
 go_region_with
  ((go_at_call 193;refine (aK T B _).mono ?_;rintro e w4 ⟨rfl,As⟩;have Hh:=agC (show BlkS w4 w.heap.size _ from by first|exact (BS.out _).below As|exact ((BS.out _).drew).below As);have Aw:=agC (show BlkS w4 (w.heap.size+1) _ from by first|exact (Fm.out _).below As|exact ((Fm.out _).drew).below As);have Gm:=agC (show Below w.heap.size w w4 from by first|exact (MU.out _).trans (As.mono (MU.out _).size)|exact ((MU.out _).drew).trans (As.mono (MU.out _).size));obtain ⟨⟨t0,t1,t2,t3⟩,-⟩:=Hh.out.all;obtain ⟨⟨r0,r1,r2,r3⟩,z0,z1,z2,z3⟩:=Aw.out.all;have l3:w.heap.size+1<w4.heap.size:=Aw.out.lt;have l4:w.heap.size<w4.heap.size:=(by omega);have n3: ¬w.heap.size=w4.heap.size:=(by omega);have n4: ¬w.heap.size+1=w4.heap.size:=(by omega)))
 all_goals
  obtain ⟨hE,hB,hO⟩:=aa8 Aw.out Gm.out (.slice (some ⟨b,0,none⟩) tk.length cap) (.slice (some ⟨b2,0,none⟩) tk.length cp) (.int .i64 ((p:Int)+1)) (.int .i64 (d:Int)) (.int .i64 1) (.string ⟨(aJ T B).toArray⟩) (.int .i64 0)
  first
   |(obtain ⟨⟨e0,e1,e2,e3⟩,-⟩:=hE.all
     go_wp2
     exact bodyPost_ret (v:= .tuple #[.slice (some ⟨w4.heap.size,0,none⟩) 1 1, .agg #[.slice (some ⟨b,0,none⟩) tk.length cap, .slice (some ⟨b2,0,none⟩) tk.length cp, .int .i64 ((p:Int)+1), .int .i64 (d:Int)], .bool OK]) (by simp [results,Tryz.results222,go_sem,e0,e1,e2,e3]) rfl
      ⟨_,_,_,[(1,⟨(aJ T B).toArray⟩,0)],p+1,(d:Int),OK,⟨⟨_,_,_,rfl⟩,⟨_,_,_,rfl⟩⟩,rfl,hO,by simp only [List.length_singleton];omega,AN,hB,HF.out.elim (fun ⟨a,b⟩=> .inl ⟨a,rfl,rfl,rfl,b⟩) .inr⟩)
   |(obtain ⟨⟨e0,e1,e2,e3⟩,-⟩:=hE.drew.all
     go_wp2
     exact bodyPost_ret (v:= .tuple #[.slice (some ⟨w4.heap.size,0,none⟩) 1 1, .agg #[.slice (some ⟨b,0,none⟩) tk.length cap, .slice (some ⟨b2,0,none⟩) tk.length cp, .int .i64 ((p:Int)+1), .int .i64 (d:Int)], .bool OK]) (by simp [results,Tryz.results222,go_sem,e0,e1,e2,e3]) rfl
      ⟨_,_,_,[(1,⟨(aJ T B).toArray⟩,0)],p+1,(d:Int),OK,⟨⟨_,_,_,rfl⟩,⟨_,_,_,rfl⟩⟩,rfl,hO.drew,by simp only [List.length_singleton];omega,AN,hB.drew,HF.out.elim (fun ⟨a,b⟩=> .inl ⟨a,rfl,rfl,rfl,b⟩) .inr⟩)
theorem yH (tk:List Tk) (N:Nat) (ih:AllR tk N) (AP:tk.length≤20000) (p d:Nat) (W K:Value) (w:World) (hN:10*(tk.length-p)≤N+1) (hd:d≤41) (hr:RowTk w W K tk) (s:ByteArray) (Ec:s.size≤20000) (hs:tk[p]? =some (3,s)):
  Calls Tryz.prog 222 #[StV W K p d] w (dJ tk .atom p d W K w):=by
 obtain ⟨i0,hi,Az,Ax,AC⟩:=info_parts f5;have HR:=agC hr;have IH:=agC ih;have Dv:=agC hs;have AN:=df hs;obtain ⟨⟨ao,cap,rfl,q1,q2,q3⟩,bo,cp,rfl,k1,k2,k3⟩:=hr;unfold maxLen at q2 k2;obtain ⟨b,rfl,Av,cc⟩:=q3.resolve_left (by rintro rfl;simp at AN);obtain ⟨b2,rfl,D5,Ce⟩:=k3.resolve_left (by rintro rfl;simp at AN)
 have CF:tk[p]=(3,s):=by rw [List.getElem?_eq_getElem AN] at hs;injection hs
 have C1:=cc p AN;have C2:=Ce p AN;rw [CF] at C1 C2;obtain ⟨hA,hB,hC,hD⟩:=cB w #[.slice (some ⟨b,0,none⟩) tk.length cap, .slice (some ⟨b2,0,none⟩) tk.length cp, .int .i64 ((p:Int)+1), .int .i64 (d:Int)] #[.slice none 0 0, .slice none 0 0, .int .i64 0, .int .i64 0];have HA:=agC hA;have HB:=agC hB;have HC:=agC hC;have HD:=agC hD
 have IJ:(p:Int)<(tk.length:Int):=by omega
 clear cc Ce CF hs q3 k3 ih hA hB hC hD
 go_enter Tryz.func222,Tryz.ntmps222
 go_wp2_with fail;refine (ma s _ (by unfold maxLen;omega)).mono ?_;rintro e w4 ⟨rfl,IK⟩;have Hh:=agC (IK▸HA.out);have Aw:=agC (IK▸HB.out);have Gm:=agC (IK▸HC.out);clear HA HB HC HD IK;obtain ⟨⟨s0,s1,s2,s3⟩,-⟩:=Hh.out.all
 have HF:=agC (show (bH s=true∧Rs tk .atom p d [(2,ga s,0)] (p+1) 0)∨(bH s=false∧NoRd tk .atom p d) from by
  cases hn:bH s with
  |true=>exact .inl ⟨rfl, .text Dv.out hn⟩
  |false=>exact .inr ⟨rfl,adu Dv.out hn⟩)
 generalize bH s=OK at HF⊢;generalize ga s=WD at HF⊢;obtain ⟨⟨r0,r1,r2,r3⟩,z0,z1,z2,z3⟩:=Aw.out.all;have l1:w.heap.size+1<w4.heap.size:=Aw.out.lt
 have l2:w.heap.size<w4.heap.size:=by omega
 have n1: ¬w.heap.size=w4.heap.size:=by omega
 have n2: ¬w.heap.size+1=w4.heap.size:=by omega
 go_wp2_with fail
 go_region
 all_goals
  obtain ⟨hE,hB,hO⟩:=xC Aw.out Gm.out (.slice (some ⟨b,0,none⟩) tk.length cap) (.slice (some ⟨b2,0,none⟩) tk.length cp) (.int .i64 ((p:Int)+1)) (.int .i64 (d:Int)) (.int .i64 2) (.string WD) (.int .i64 0);obtain ⟨⟨e0,e1,e2,e3⟩,-⟩:=hE.all;go_wp2
  exact bodyPost_ret (v:= .tuple #[.slice (some ⟨w4.heap.size,0,none⟩) 1 1, .agg #[.slice (some ⟨b,0,none⟩) tk.length cap, .slice (some ⟨b2,0,none⟩) tk.length cp, .int .i64 ((p:Int)+1), .int .i64 (d:Int)], .bool OK]) (by simp [results,Tryz.results222,go_sem,e0,e1,e2,e3]) rfl
   ⟨_,_,_,[(2,WD,0)],p+1,(d:Int),OK,⟨⟨_,_,_,rfl⟩,⟨_,_,_,rfl⟩⟩,rfl,hO,by simp only [List.length_singleton];omega,AN,hB,HF.out.elim (fun ⟨a,b⟩=> .inl ⟨a,rfl,rfl,rfl,b⟩) .inr⟩
theorem nD (tk:List Tk) (N:Nat) (ih:AllR tk N) (AP:tk.length≤20000) (p d:Nat) (W K:Value) (w:World) (hN:10*(tk.length-p)≤N+1) (hd:d≤41) (hr:RowTk w W K tk) (s:ByteArray) (Ec:s.size≤20000) (hs:tk[p]? =some (1,s)) (ht:s.data.toList=b7∨s.data.toList=bE):
  Calls Tryz.prog 222 #[StV W K p d] w (dJ tk .atom p d W K w):=by
 obtain ⟨i0,hi,Az,Ax,AC⟩:=info_parts f5;have HR:=agC hr;have IH:=agC ih;have Dv:=agC hs;have AN:=df hs;obtain ⟨⟨ao,cap,rfl,q1,q2,q3⟩,bo,cp,rfl,k1,k2,k3⟩:=hr;unfold maxLen at q2 k2;obtain ⟨b,rfl,Av,cc⟩:=q3.resolve_left (by rintro rfl;simp at AN);obtain ⟨b2,rfl,D5,Ce⟩:=k3.resolve_left (by rintro rfl;simp at AN)
 have CF:tk[p]=(1,s):=by rw [List.getElem?_eq_getElem AN] at hs;injection hs
 have C1:=cc p AN;have C2:=Ce p AN;rw [CF] at C1 C2;obtain ⟨hA,hB,hC,hD⟩:=cB w #[.slice (some ⟨b,0,none⟩) tk.length cap, .slice (some ⟨b2,0,none⟩) tk.length cp, .int .i64 ((p:Int)+1), .int .i64 (d:Int)] #[.slice none 0 0, .slice none 0 0, .int .i64 0, .int .i64 0];have HA:=agC hA;have HB:=agC hB;have HC:=agC hC;have HD:=agC hD
 have IJ:(p:Int)<(tk.length:Int):=by omega
 clear cc Ce CF hs q3 k3 ih hA hB hC hD
 go_enter Tryz.func222,Tryz.ntmps222
 have Cj:s=⟨#[116,114,117,101]⟩∨s=⟨#[102,97,108,115,101]⟩:=by
  rcases ht with ht|ht
  ·left;exact ke ht
  ·right;exact ke ht
 have HF:=agC (Rs.truth (d:=d) Dv.out ht)
 rcases Cj with rfl|rfl
 ·go_wp2_with fail
  have n1: ¬w.heap.size=w.heap.size+1:=by omega
  go_region
  all_goals
   go_wp2;obtain ⟨-,Cv,Jo,Ob⟩:=cB w #[.slice (some ⟨b,0,none⟩) tk.length cap, .slice (some ⟨b2,0,none⟩) tk.length cp, .int .i64 ((p:Int)+1), .int .i64 (d:Int)] #[.slice (some ⟨b,0,none⟩) tk.length cap, .slice (some ⟨b2,0,none⟩) tk.length cp, .int .i64 ((p:Int)+1), .int .i64 (d:Int)];obtain ⟨⟨e0,e1,e2,e3⟩,-⟩:=((Cv.alloc (.cells #[.int .i64 3, .string ⟨#[116,114,117,101]⟩, .int .i64 0] 110)).drew).all
   exact bodyPost_ret (v:= .tuple #[.slice (some ⟨w.heap.size+1+1,0,none⟩) 1 1, .agg #[.slice (some ⟨b,0,none⟩) tk.length cap, .slice (some ⟨b2,0,none⟩) tk.length cp, .int .i64 ((p:Int)+1), .int .i64 (d:Int)], .bool true]) (by simp [results,Tryz.results222,go_sem,e0,e1,e2,e3]) rfl
    ⟨_,_,_,[(3,⟨#[116,114,117,101]⟩,0)],p+1,(d:Int),true,⟨⟨_,_,_,rfl⟩,⟨_,_,_,rfl⟩⟩,rfl,iU Jo.size Ob,by simp only [List.length_singleton];omega,AN,(Jo.alloc Jo.size _).drew, .inl ⟨rfl,rfl,rfl,rfl,HF.out⟩⟩
 ·go_wp2_with fail
  have n1: ¬w.heap.size=w.heap.size+1:=by omega
  go_region
  all_goals
   go_wp2;obtain ⟨-,Cv,Jo,Ob⟩:=cB w #[.slice (some ⟨b,0,none⟩) tk.length cap, .slice (some ⟨b2,0,none⟩) tk.length cp, .int .i64 ((p:Int)+1), .int .i64 (d:Int)] #[.slice (some ⟨b,0,none⟩) tk.length cap, .slice (some ⟨b2,0,none⟩) tk.length cp, .int .i64 ((p:Int)+1), .int .i64 (d:Int)];obtain ⟨⟨e0,e1,e2,e3⟩,-⟩:=((Cv.alloc (.cells #[.int .i64 3, .string ⟨#[102,97,108,115,101]⟩, .int .i64 0] 110)).drew).all
   exact bodyPost_ret (v:= .tuple #[.slice (some ⟨w.heap.size+1+1,0,none⟩) 1 1, .agg #[.slice (some ⟨b,0,none⟩) tk.length cap, .slice (some ⟨b2,0,none⟩) tk.length cp, .int .i64 ((p:Int)+1), .int .i64 (d:Int)], .bool true]) (by simp [results,Tryz.results222,go_sem,e0,e1,e2,e3]) rfl
    ⟨_,_,_,[(3,⟨#[102,97,108,115,101]⟩,0)],p+1,(d:Int),true,⟨⟨_,_,_,rfl⟩,⟨_,_,_,rfl⟩⟩,rfl,iU Jo.size Ob,by simp only [List.length_singleton];omega,AN,(Jo.alloc Jo.size _).drew, .inl ⟨rfl,rfl,rfl,rfl,HF.out⟩⟩
theorem yI (tk:List Tk) (N:Nat) (ih:AllR tk N) (AP:tk.length≤20000) (p d:Nat) (W K:Value) (w:World) (hN:10*(tk.length-p)≤N+1) (hd:d≤41) (hr:RowTk w W K tk) (s:ByteArray) (Ec:s.size≤20000) (hs:tk[p]? =some (1,s)) (ht:s.data.toList≠b7) (hf:s.data.toList≠bE) (Fz:isT tk (p+1) [40]=false):
  Calls Tryz.prog 222 #[StV W K p d] w (dJ tk .atom p d W K w):=by
 obtain ⟨i0,hi,Az,Ax,AC⟩:=info_parts f5;have HR:=agC hr;have IH:=agC ih;have Dv:=agC hs;have AN:=df hs;obtain ⟨⟨ao,cap,rfl,q1,q2,q3⟩,bo,cp,rfl,k1,k2,k3⟩:=hr;unfold maxLen at q2 k2;obtain ⟨b,rfl,Av,cc⟩:=q3.resolve_left (by rintro rfl;simp at AN);obtain ⟨b2,rfl,D5,Ce⟩:=k3.resolve_left (by rintro rfl;simp at AN)
 have CF:tk[p]=(1,s):=by rw [List.getElem?_eq_getElem AN] at hs;injection hs
 have C1:=cc p AN;have C2:=Ce p AN;rw [CF] at C1 C2;obtain ⟨hA,hB,hC,hD⟩:=cB w #[.slice (some ⟨b,0,none⟩) tk.length cap, .slice (some ⟨b2,0,none⟩) tk.length cp, .int .i64 ((p:Int)+1), .int .i64 (d:Int)] #[.slice none 0 0, .slice none 0 0, .int .i64 0, .int .i64 0];have HA:=agC hA;have HB:=agC hB;have HC:=agC hC;have HD:=agC hD
 have IJ:(p:Int)<(tk.length:Int):=by omega
 clear cc Ce CF hs q3 k3 ih hA hB hC hD;have t1:(s.toList==[116,114,117,101])=false:=dg ht;have t2:(s.toList==[102,97,108,115,101])=false:=dg hf;have HF:=agC (Rs.name (d:=d) Dv.out ht hf Fz);have Eu:=agC Fz;clear ht hf Fz
 go_enter Tryz.func222,Tryz.ntmps222
 go_wp2_with fail;refine ((show Calls Tryz.prog 178 #[.agg #[.slice _ _ _, .slice _ _ _, .int .i64 ((p:Int)+1), .int .i64 (d:Int)], .string _] _ _ from cK _ _ tk (p+1) d ⟨#[40]⟩ _ (HR.out.mono HC.out) (by omega))).mono ?_;rintro e w4 ⟨rfl,As⟩;rw [Eu.out];have Hh:=agC (HA.out.below As);have Aw:=agC (HB.out.below As);have Gm:=agC (HC.out.trans (As.mono HC.out.size));clear As HA HB HC HD;obtain ⟨⟨s0,s1,s2,s3⟩,-⟩:=Hh.out.all;obtain ⟨⟨r0,r1,r2,r3⟩,z0,z1,z2,z3⟩:=Aw.out.all;have l1:w.heap.size+1<w4.heap.size:=Aw.out.lt
 have l2:w.heap.size<w4.heap.size:=by omega
 have n1: ¬w.heap.size=w4.heap.size:=by omega
 have n2: ¬w.heap.size+1=w4.heap.size:=by omega
 go_wp2_with fail
 go_region
 all_goals
  obtain ⟨hE,hB,hO⟩:=xC Aw.out Gm.out (.slice (some ⟨b,0,none⟩) tk.length cap) (.slice (some ⟨b2,0,none⟩) tk.length cp) (.int .i64 ((p:Int)+1)) (.int .i64 (d:Int)) (.int .i64 4) (.string s) (.int .i64 0);obtain ⟨⟨e0,e1,e2,e3⟩,-⟩:=hE.all;go_wp2
  exact bodyPost_ret (v:= .tuple #[.slice (some ⟨w4.heap.size,0,none⟩) 1 1, .agg #[.slice (some ⟨b,0,none⟩) tk.length cap, .slice (some ⟨b2,0,none⟩) tk.length cp, .int .i64 ((p:Int)+1), .int .i64 (d:Int)], .bool true]) (by simp [results,Tryz.results222,go_sem,e0,e1,e2,e3]) rfl
   ⟨_,_,_,[(4,s,0)],p+1,(d:Int),true,⟨⟨_,_,_,rfl⟩,⟨_,_,_,rfl⟩⟩,rfl,hO,by simp only [List.length_singleton];omega,AN,hB, .inl ⟨rfl,rfl,rfl,rfl,HF.out⟩⟩
theorem yJ (tk:List Tk) (N:Nat) (ih:AllR tk N) (AP:tk.length≤20000) (p d:Nat) (W K:Value) (w:World) (hN:10*(tk.length-p)≤N+1) (hd:d≤41) (hr:RowTk w W K tk) (s:ByteArray) (Ec:s.size≤20000) (hs:tk[p]? =some (1,s)) (ht:s.data.toList≠b7) (hf:s.data.toList≠bE) (Fz:isT tk (p+1) [40]=true):
  Calls Tryz.prog 222 #[StV W K p d] w (dJ tk .atom p d W K w):=by
 obtain ⟨i0,hi,Az,Ax,AC⟩:=info_parts f5;have HR:=agC hr;have IH:=agC ih;have Dv:=agC hs;have AN:=df hs;obtain ⟨⟨ao,cap,rfl,q1,q2,q3⟩,bo,cp,rfl,k1,k2,k3⟩:=hr;unfold maxLen at q2 k2;obtain ⟨b,rfl,Av,cc⟩:=q3.resolve_left (by rintro rfl;simp at AN);obtain ⟨b2,rfl,D5,Ce⟩:=k3.resolve_left (by rintro rfl;simp at AN)
 have CF:tk[p]=(1,s):=by rw [List.getElem?_eq_getElem AN] at hs;injection hs
 have C1:=cc p AN;have C2:=Ce p AN;rw [CF] at C1 C2;obtain ⟨hA,hB,hC,hD⟩:=cB w #[.slice (some ⟨b,0,none⟩) tk.length cap, .slice (some ⟨b2,0,none⟩) tk.length cp, .int .i64 ((p:Int)+1), .int .i64 (d:Int)] #[.slice none 0 0, .slice none 0 0, .int .i64 0, .int .i64 0];have HA:=agC hA;have HB:=agC hB;have HC:=agC hC;have HD:=agC hD
 have IJ:(p:Int)<(tk.length:Int):=by omega
 clear cc Ce CF hs q3 k3 ih hA hB hC hD;have t1:(s.toList==[116,114,117,101])=false:=dg ht;have t2:(s.toList==[102,97,108,115,101])=false:=dg hf;have HF:=agC (And.intro ht hf);have Eu:=agC Fz;have MT:=bG Fz;clear ht hf Fz
 go_enter Tryz.func222,Tryz.ntmps222
 go_wp2_with fail;refine ((show Calls Tryz.prog 178 #[.agg #[.slice _ _ _, .slice _ _ _, .int .i64 ((p:Int)+1), .int .i64 (d:Int)], .string _] _ _ from cK _ _ tk (p+1) d ⟨#[40]⟩ _ (HR.out.mono HC.out) (by omega))).mono ?_;rintro e w4 ⟨rfl,As⟩;rw [Eu.out];have Hh:=agC (HA.out.below As);have Aw:=agC (HB.out.below As);have Gm:=agC (HC.out.trans (As.mono HC.out.size));clear As HA HB HC HD;obtain ⟨⟨s0,s1,s2,s3⟩,y0,y1,y2,y3⟩:=Hh.out.all;have DF:=agC (BlkS.far Aw.out (f:=w.heap.size) 2 (.int .i64 ((p:Int)+1+1)) (by omega));have Fn:=agC (Gm.out.setCell (p:=⟨w.heap.size,2,none⟩) (agD _) (.int .i64 ((p:Int)+1+1)));clear Hh Aw Gm;go_wp2_with fail;refine ((show Calls Tryz.prog 234 #[.agg #[.slice _ _ _, .slice _ _ _, .int .i64 ((p:Int)+1+1), .int .i64 (d:Int)], .string _] _ _ from IH.out.parts (p+2) d ⟨#[41]⟩ _ _ _ (by omega) (by omega) hd (HR.out.mono Fn.out))).mono ?_;rintro e w6 ⟨v,W',K',l,q,m,d',ok,⟨⟨aw,nw,cw,rfl⟩,⟨ak,nk,ck,rfl⟩⟩,rfl,ho,DG,hq,Bv,Am⟩;have CK:=agC (DF.out.below Bv);have Gn:=agC (Fn.out.trans (Bv.mono Fn.out.size));have B6:=agC Am;obtain ⟨k1,k2,k3,k4,k5⟩:=BlkS.inner CK.out Gn.out rfl Gn.out.size (ho.mono (base':=w.heap.size) Fn.out.size) (.slice aw nw cw) (.slice ak nk ck) (.int .i64 (q:Int)) (.int .i64 d') rfl;have BR4:=agC k1;have BI4:=agC k2;have Aw:=agC k3;have Cd:=agC k4;obtain ⟨⟨g0,g1,g2,g3⟩,-⟩:=k2.all;obtain ⟨⟨r0,r1,r2,r3⟩,z0,z1,z2,z3⟩:=k1.all;have l6:w.heap.size+1<w6.heap.size:=CK.out.lt;clear k1 k2 k3 k4 Bv ho Am CK Gn DF Fn
 have Ai:l.length≤20000:=by omega
 go_wp2_with fail
 go_region_law
  ((refine cS (by rfl) _ _ _ (by rfl) (w.heap.size+2) 110 i0 (.agg #[.int .i64 0, .string ByteArray.empty, .int .i64 0]) 3 32 Tryz.underlying30 hi Az Ax AC rfl (by decide) _ 1 [.int .i64 6, .string s, .int .i64 (m:Int)] (by rfl) (iU (by omega) k5) _ v l.length (ai l) (by rfl) ((Cd.out.alloc _).drew) (bU _) (by unfold maxLen;omega) (by omega) (by simp;omega) ?_;intro v5 w5 Bw AD;obtain ⟨⟨a0,a1,a2,a3⟩,-⟩:=(BI4.out.appended k5 AD).all;obtain ⟨⟨b0,b1,b2,b3⟩,y0,y1,y2,y3⟩:=(BR4.out.appended k5 AD).all))
 all_goals
  have BQ:=agC Bw;have Bk:=agC AD;clear Bw AD;have AQ:=agC (fj Aw.out (by omega) k5 Bk.out);have HE:=agC (br AQ.out (g:=w.heap.size+1) (by omega) (.slice aw nw cw) (.slice ak nk ck) (.int .i64 (q:Int)) (.int .i64 d'));have Ib:=agC ((cL BQ.out (g:=w.heap.size+1) (by omega) (.slice aw nw cw) (.slice ak nk ck) (.int .i64 (q:Int)) (.int .i64 d')).mono (base':=w.heap.size) (by omega));obtain ⟨⟨e0,e1,e2,e3⟩,-⟩:=((BR4.out.appended k5 Bk.out).put4 (.slice aw nw cw) (.slice ak nk ck) (.int .i64 (q:Int)) (.int .i64 d')).all;go_wp2
  exact bodyPost_ret (v:= .tuple #[v5, .agg #[.slice aw nw cw, .slice ak nk ck, .int .i64 (q:Int), .int .i64 d'], .bool ok]) (by simp [results,Tryz.results222,go_sem,e0,e1,e2,e3]) rfl
   ⟨v5,_,_,(6,s,(m:Int))::l,q,d',ok,⟨⟨_,_,_,rfl⟩,⟨_,_,_,rfl⟩⟩,rfl,(lN Ib.out),by simp only [List.length_cons];omega,hq,HE.out,
    B6.out.elim (fun ⟨a,b,c,e,f⟩=> .inl ⟨a,b,c,e, .call Dv.out HF.out.1 HF.out.2 Eu.out f⟩) (fun ⟨a,b⟩=> .inr ⟨a,adv Dv.out HF.out.1 HF.out.2 Eu.out b⟩)⟩
theorem yK (tk:List Tk) (N:Nat) (ih:AllR tk N) (AP:tk.length≤20000) (p d:Nat) (W K:Value) (w:World) (hN:10*(tk.length-p)≤N+1) (hd:d≤41) (hr:RowTk w W K tk) (s:ByteArray) (Ec:s.size≤20000) (hs:tk[p]? =some (4,s)) (Fz:isT tk p [91]=true) (KY:s=⟨#[91]⟩):
  Calls Tryz.prog 222 #[StV W K p d] w (dJ tk .atom p d W K w):=by
 obtain ⟨i0,hi,Az,Ax,AC⟩:=info_parts f5;have HR:=agC hr;have IH:=agC ih;have Dv:=agC hs;have AN:=df hs;obtain ⟨⟨ao,cap,rfl,q1,q2,q3⟩,bo,cp,rfl,k1,k2,k3⟩:=hr;unfold maxLen at q2 k2;obtain ⟨b,rfl,Av,cc⟩:=q3.resolve_left (by rintro rfl;simp at AN);obtain ⟨b2,rfl,D5,Ce⟩:=k3.resolve_left (by rintro rfl;simp at AN)
 have CF:tk[p]=(4,s):=by rw [List.getElem?_eq_getElem AN] at hs;injection hs
 have C1:=cc p AN;have C2:=Ce p AN;rw [CF] at C1 C2;obtain ⟨hA,hB,hC,hD⟩:=cB w #[.slice (some ⟨b,0,none⟩) tk.length cap, .slice (some ⟨b2,0,none⟩) tk.length cp, .int .i64 ((p:Int)+1), .int .i64 (d:Int)] #[.slice none 0 0, .slice none 0 0, .int .i64 0, .int .i64 0];have HA:=agC hA;have HB:=agC hB;have HC:=agC hC;have HD:=agC hD
 have IJ:(p:Int)<(tk.length:Int):=by omega
 clear cc Ce CF hs q3 k3 ih hA hB hC hD;have Eu:=agC Fz;clear Fz;subst KY
 go_enter Tryz.func222,Tryz.ntmps222
 have DF:=HB;have Fn:=HC;clear HA HB HC;go_wp2_with fail;refine ((show Calls Tryz.prog 234 #[.agg #[.slice _ _ _, .slice _ _ _, .int .i64 ((p:Int)+1), .int .i64 (d:Int)], .string _] _ _ from IH.out.parts (p+1) d ⟨#[93]⟩ _ _ _ (by omega) (by omega) hd (HR.out.mono Fn.out))).mono ?_;rintro e w6 ⟨v,W',K',l,q,m,d',ok,⟨⟨aw,nw,cw,rfl⟩,⟨ak,nk,ck,rfl⟩⟩,rfl,ho,DG,hq,Bv,Am⟩;have CK:=agC (DF.out.below Bv);have Gn:=agC (Fn.out.trans (Bv.mono Fn.out.size));have B6:=agC Am;obtain ⟨k1,k2,k3,k4,k5⟩:=BlkS.inner CK.out Gn.out rfl Gn.out.size (ho.mono (base':=w.heap.size) Fn.out.size) (.slice aw nw cw) (.slice ak nk ck) (.int .i64 (q:Int)) (.int .i64 d') rfl;have BR4:=agC k1;have BI4:=agC k2;have Aw:=agC k3;have Cd:=agC k4;obtain ⟨⟨g0,g1,g2,g3⟩,-⟩:=k2.all;obtain ⟨⟨r0,r1,r2,r3⟩,z0,z1,z2,z3⟩:=k1.all;have l6:w.heap.size+1<w6.heap.size:=CK.out.lt;clear k1 k2 k3 k4 Bv ho Am CK Gn DF Fn
 have Ai:l.length≤20000:=by omega
 go_wp2_with fail
 go_region_law
  ((refine cS (by rfl) _ _ _ (by rfl) (w.heap.size+2) 110 i0 (.agg #[.int .i64 0, .string ByteArray.empty, .int .i64 0]) 3 32 Tryz.underlying30 hi Az Ax AC rfl (by decide) _ 1 [.int .i64 5, .string ⟨#[]⟩, .int .i64 (m:Int)] (by rfl) (iU (by omega) k5) _ v l.length (ai l) (by rfl) ((Cd.out.alloc _).drew) (bU _) (by unfold maxLen;omega) (by omega) (by simp;omega) ?_;intro v5 w5 Bw AD;obtain ⟨⟨a0,a1,a2,a3⟩,-⟩:=(BI4.out.appended k5 AD).all;obtain ⟨⟨b0,b1,b2,b3⟩,y0,y1,y2,y3⟩:=(BR4.out.appended k5 AD).all))
 all_goals
  have BQ:=agC Bw;have Bk:=agC AD;clear Bw AD;have AQ:=agC (fj Aw.out (by omega) k5 Bk.out);have HE:=agC (br AQ.out (g:=w.heap.size+1) (by omega) (.slice aw nw cw) (.slice ak nk ck) (.int .i64 (q:Int)) (.int .i64 d'));have Ib:=agC ((cL BQ.out (g:=w.heap.size+1) (by omega) (.slice aw nw cw) (.slice ak nk ck) (.int .i64 (q:Int)) (.int .i64 d')).mono (base':=w.heap.size) (by omega));obtain ⟨⟨e0,e1,e2,e3⟩,-⟩:=((BR4.out.appended k5 Bk.out).put4 (.slice aw nw cw) (.slice ak nk ck) (.int .i64 (q:Int)) (.int .i64 d')).all;go_wp2
  exact bodyPost_ret (v:= .tuple #[v5, .agg #[.slice aw nw cw, .slice ak nk ck, .int .i64 (q:Int), .int .i64 d'], .bool ok]) (by simp [results,Tryz.results222,go_sem,e0,e1,e2,e3]) rfl
   ⟨v5,_,_,(5,⟨#[]⟩,(m:Int))::l,q,d',ok,⟨⟨_,_,_,rfl⟩,⟨_,_,_,rfl⟩⟩,rfl,(lN Ib.out),by simp only [List.length_cons];omega,hq,HE.out,
    B6.out.elim (fun ⟨a,b,c,e,f⟩=> .inl ⟨a,b,c,e, .list Eu.out f⟩) (fun ⟨a,b⟩=> .inr ⟨a,adw Eu.out b⟩)⟩
theorem yL {w w4:World} {a0 a1 a2 a3:Value} (h:BlkS w4 (w.heap.size+1) #[a0,a1,a2,a3]) (hb:Below w.heap.size w w4) (x0 x1 x2 x3:Value):
  BlkS (((((((w4.setCell ⟨w.heap.size+1,0,none⟩ x0).setCell ⟨w.heap.size+1,1,none⟩ x1).setCell ⟨w.heap.size+1,2,none⟩ x2).setCell ⟨w.heap.size+1,3,none⟩ x3).alloc (.cells #[x0,x1,x2,x3] 156)).alloc (.cells #[] 110)).drew) (w.heap.size+1) #[x0,x1,x2,x3]∧
  Below w.heap.size w (((((((w4.setCell ⟨w.heap.size+1,0,none⟩ x0).setCell ⟨w.heap.size+1,1,none⟩ x1).setCell ⟨w.heap.size+1,2,none⟩ x2).setCell ⟨w.heap.size+1,3,none⟩ x3).alloc (.cells #[x0,x1,x2,x3] 156)).alloc (.cells #[] 110)).drew)∧
  World.ownsRow (((((((w4.setCell ⟨w.heap.size+1,0,none⟩ x0).setCell ⟨w.heap.size+1,1,none⟩ x1).setCell ⟨w.heap.size+1,2,none⟩ x2).setCell ⟨w.heap.size+1,3,none⟩ x3).alloc (.cells #[x0,x1,x2,x3] 156)).alloc (.cells #[] 110)).drew) w.heap.size 110 3 (.slice (some ⟨w4.heap.size+1,0,none⟩) 0 0) 0 (ai []):=by
 have AI:=br hb (g:=w.heap.size+1) (by omega) x0 x1 x2 x3;have Bv:=AI.alloc AI.size (.cells #[x0,x1,x2,x3] 156);have hs:=hb.size;exact ⟨(((h.put4 x0 x1 x2 x3).alloc _).alloc _).drew,(Bv.alloc Bv.size _).drew,gw (by simp [World.setCell]) (by omega)⟩
theorem yM (tk:List Tk) (N:Nat) (ih:AllR tk N) (AP:tk.length≤20000) (p d:Nat) (W K:Value) (w:World) (hN:10*(tk.length-p)≤N+1) (hd:d≤41) (hr:RowTk w W K tk) (s:ByteArray) (Ec:s.size≤20000) (hs:tk[p]? =some (4,s)) (BO:isT tk p [40]=false) (DE:isT tk p [91]=false):
  Calls Tryz.prog 222 #[StV W K p d] w (dJ tk .atom p d W K w):=by
 obtain ⟨i0,hi,Az,Ax,AC⟩:=info_parts f5;have HR:=agC hr;have IH:=agC ih;have Dv:=agC hs;have AN:=df hs;obtain ⟨⟨ao,cap,rfl,q1,q2,q3⟩,bo,cp,rfl,k1,k2,k3⟩:=hr;unfold maxLen at q2 k2;obtain ⟨b,rfl,Av,cc⟩:=q3.resolve_left (by rintro rfl;simp at AN);obtain ⟨b2,rfl,D5,Ce⟩:=k3.resolve_left (by rintro rfl;simp at AN)
 have CF:tk[p]=(4,s):=by rw [List.getElem?_eq_getElem AN] at hs;injection hs
 have C1:=cc p AN;have C2:=Ce p AN;rw [CF] at C1 C2;obtain ⟨hA,hB,hC,hD⟩:=cB w #[.slice (some ⟨b,0,none⟩) tk.length cap, .slice (some ⟨b2,0,none⟩) tk.length cp, .int .i64 ((p:Int)+1), .int .i64 (d:Int)] #[.slice none 0 0, .slice none 0 0, .int .i64 0, .int .i64 0];have HA:=agC hA;have HB:=agC hB;have HC:=agC hC;have HD:=agC hD
 have IJ:(p:Int)<(tk.length:Int):=by omega
 clear cc Ce CF hs q3 k3 ih hA hB hC hD;have HN:=agC (yG (p:=p) (d:=d) Dv.out BO DE)
 have t1:(s.toList==[40])=false:=by rw [lsS];unfold isT at BO;rw [Dv.out] at BO;simpa using BO
 have t2:(s.toList==[91])=false:=by rw [lsS];unfold isT at DE;rw [Dv.out] at DE;simpa using DE
 clear BO DE
 go_enter Tryz.func222,Tryz.ntmps222
 go_wp2_with fail
 have n1: ¬w.heap.size=w.heap.size+1:=by omega
 go_region
 all_goals
  go_wp2;obtain ⟨hA,hB,hC,hD⟩:=cB w #[.slice (some ⟨b,0,none⟩) tk.length cap, .slice (some ⟨b2,0,none⟩) tk.length cp, .int .i64 ((p:Int)+1), .int .i64 (d:Int)] #[.slice (some ⟨b,0,none⟩) tk.length cap, .slice (some ⟨b2,0,none⟩) tk.length cp, .int .i64 ((p:Int)+1), .int .i64 (d:Int)];obtain ⟨⟨e0,e1,e2,e3⟩,-⟩:=((hB.alloc (.cells #[] 110)).drew).all
  exact bodyPost_ret (v:= .tuple #[.slice (some ⟨w.heap.size+1+1,0,none⟩) 0 0, .agg #[.slice (some ⟨b,0,none⟩) tk.length cap, .slice (some ⟨b2,0,none⟩) tk.length cp, .int .i64 ((p:Int)+1), .int .i64 (d:Int)], .bool false]) (by simp [results,Tryz.results222,go_sem,e0,e1,e2,e3]) rfl
   ⟨_,_,_,[],p+1,(d:Int),false,⟨⟨_,_,_,rfl⟩,⟨_,_,_,rfl⟩⟩,rfl,gw hD (by omega),by simp only [List.length_nil];omega,AN,(hC.alloc hC.size _).drew, .inr ⟨rfl,HN.out⟩⟩
theorem pA (tk:List Tk) (AP:tk.length≤20000) (p d:Nat) (W K:Value) (w:World) (hp:p=tk.length) (hr:RowTk w W K tk):
  Calls Tryz.prog 222 #[StV W K p d] w (dJ tk .atom p d W K w):=by
 obtain ⟨⟨ao,cap,rfl,q1,q2,q3⟩,bo,cp,rfl,k1,k2,k3⟩:=hr;unfold maxLen at q2 k2;have HN:=agC (aa6 (tk:=tk) (p:=p) (d:=d) (by omega))
 have U2:tk.length≤p:=by omega
 have N9:p≤tk.length:=by omega
 have IJ:((tk.length:Nat):Int)≤(p:Int):=by omega
 clear q3 k3 hp
 go_enter Tryz.func222,Tryz.ntmps222
 go_wp2_with fail
 have n1: ¬w.heap.size=w.heap.size+1:=by omega
 go_region
 all_goals
  go_wp2;obtain ⟨hA,hB,hC,hD⟩:=cB w #[.slice ao tk.length cap, .slice bo tk.length cp, .int .i64 (p:Int), .int .i64 (d:Int)] #[.slice ao tk.length cap, .slice bo tk.length cp, .int .i64 (p:Int), .int .i64 (d:Int)];obtain ⟨⟨e0,e1,e2,e3⟩,-⟩:=((hB.alloc (.cells #[] 110)).drew).all
  exact bodyPost_ret (v:= .tuple #[.slice (some ⟨w.heap.size+1+1,0,none⟩) 0 0, .agg #[.slice ao tk.length cap, .slice bo tk.length cp, .int .i64 (p:Int), .int .i64 (d:Int)], .bool false]) (by simp [results,Tryz.results222,go_sem,e0,e1,e2,e3]) rfl
   ⟨_,_,_,[],p,(d:Int),false,⟨⟨_,_,_,rfl⟩,⟨_,_,_,rfl⟩⟩,rfl,gw hD (by omega),by simp only [List.length_nil];omega,N9,(hC.alloc hC.size _).drew, .inr ⟨rfl,HN.out⟩⟩
theorem uK (tk:List Tk) (N:Nat) (ih:AllR tk N) (AP:tk.length≤20000) (p d:Nat) (W K:Value) (w:World) (hN:10*(tk.length-p)≤N+1) (hd:d≤41) (hr:RowTk w W K tk) (s:ByteArray) (Ec:s.size≤20000) (hs:tk[p]? =some (4,s)) (Fz:isT tk p [40]=true) (KY:s=⟨#[40]⟩):
  Calls Tryz.prog 222 #[StV W K p d] w (dJ tk .atom p d W K w):=by
 obtain ⟨i0,hi,Az,Ax,AC⟩:=info_parts f5;have HR:=agC hr;have IH:=agC ih;have Dv:=agC hs;have AN:=df hs;obtain ⟨⟨ao,cap,rfl,q1,q2,q3⟩,bo,cp,rfl,k1,k2,k3⟩:=hr;unfold maxLen at q2 k2;obtain ⟨b,rfl,Av,cc⟩:=q3.resolve_left (by rintro rfl;simp at AN);obtain ⟨b2,rfl,D5,Ce⟩:=k3.resolve_left (by rintro rfl;simp at AN)
 have CF:tk[p]=(4,s):=by rw [List.getElem?_eq_getElem AN] at hs;injection hs
 have C1:=cc p AN;have C2:=Ce p AN;rw [CF] at C1 C2;obtain ⟨hA,hB,hC,hD⟩:=cB w #[.slice (some ⟨b,0,none⟩) tk.length cap, .slice (some ⟨b2,0,none⟩) tk.length cp, .int .i64 ((p:Int)+1), .int .i64 (d:Int)] #[.slice none 0 0, .slice none 0 0, .int .i64 0, .int .i64 0];have HA:=agC hA;have HB:=agC hB;have HC:=agC hC;have HD:=agC hD
 have IJ:(p:Int)<(tk.length:Int):=by omega
 clear cc Ce CF hs q3 k3 ih hA hB hC hD;have Eu:=agC Fz;clear Fz;subst KY
 go_enter Tryz.func222,Tryz.ntmps222
 go_wp2_with fail;refine ((show Calls Tryz.prog 150 #[.agg #[.slice _ _ _, .slice _ _ _, .int .i64 ((p:Int)+1), .int .i64 (d:Int)]] _ _ from IH.out.choice (p+1) d _ _ _ (by omega) (by omega) hd (HR.out.mono HC.out))).mono ?_;rintro e w6 ⟨v,W',K',l,q,d',ok,⟨⟨aw,nw,cw,rfl⟩,⟨ak,nk,ck,rfl⟩⟩,rfl,ho,DG,hq,Bv,Am⟩;have HI:=agC (ChI.first rfl Bv ho (.slice aw nw cw) (.slice ak nk ck) (.int .i64 (q:Int)) (.int .i64 d'));have CK:=agC (HB.out.below Bv);have Gn:=agC (HC.out.trans (Bv.mono HC.out.size));have l6:w.heap.size+1<w6.heap.size:=CK.out.lt
 have n1: ¬w6.heap.size=w.heap.size+1:=by omega
 have n2: ¬w.heap.size+1=w6.heap.size:=by omega
 have n5: ¬w.heap.size+1=w6.heap.size+1:=by omega
 have l9:w.heap.size+1<w6.heap.size+1:=by omega
 clear Bv ho HA HB HC HD
 rcases Am with ⟨rfl,hW,hK,Dw,De⟩|⟨rfl,hn⟩
 rotate_left
 ·have HN:=agC (aa7 Eu.out hn)
  clear hn HI;obtain ⟨⟨r0,r1,r2,r3⟩,z0,z1,z2,z3⟩:=CK.out.all;go_wp2_with fail
  go_region
  all_goals
   obtain ⟨hE,hB,hO⟩:=yL CK.out Gn.out (.slice aw nw cw) (.slice ak nk ck) (.int .i64 (q:Int)) (.int .i64 d');obtain ⟨⟨e0,e1,e2,e3⟩,-⟩:=hE.all;go_wp2
   exact bodyPost_ret (v:= .tuple #[.slice (some ⟨w6.heap.size+1,0,none⟩) 0 0, .agg #[.slice aw nw cw, .slice ak nk ck, .int .i64 (q:Int), .int .i64 d'], .bool false]) (by simp [results,Tryz.results222,go_sem,e0,e1,e2,e3]) rfl
    ⟨_,_,_,[],q,d',false,⟨⟨_,_,_,rfl⟩,⟨_,_,_,rfl⟩⟩,rfl,hO,by simp only [List.length_nil];omega,hq,hB, .inr ⟨rfl,HN.out⟩⟩
 ·simp only [Value.slice.injEq] at hW hK
  obtain ⟨rfl,rfl,rfl⟩:=hW;obtain ⟨rfl,rfl,rfl⟩:=hK
  replace Dw:d'=(d:Int):=Dw
  subst Dw;have AT:=agC De;clear De CK Gn;go_wp2_with fail;refine ((show Calls Tryz.prog 178 #[.agg #[.slice _ _ _, .slice _ _ _, .int .i64 (q:Int), .int .i64 (d:Int)], .string _] _ _ from cK _ _ tk q d ⟨#[41]⟩ _ (HR.out.mono HI.out.below) (by omega))).mono ?_;rintro e w7 ⟨rfl,BK⟩;have HJ:=agC (HI.out.later BK);clear BK HI;obtain ⟨⟨g0,g1,g2,g3⟩,y0,y1,y2,y3⟩:=HJ.out.inn.all;obtain ⟨⟨r0,r1,r2,r3⟩,z0,z1,z2,z3⟩:=HJ.out.ans.all;have l7:=HJ.out.inn.lt
  have l8:w.heap.size+1<w7.heap.size:=by omega
  have n8: ¬w.heap.size+1=w7.heap.size:=by omega
  cases hc:isT tk q [41] with
  |false=>
   have HN:=agC (uJ Eu.out AT.out hc);clear hc;go_wp2_with fail
   go_region
   all_goals
    obtain ⟨hE,hB,hO⟩:=HJ.out.fail (.slice (some ⟨b,0,none⟩) tk.length cw) (.slice (some ⟨b2,0,none⟩) tk.length ck) (.int .i64 (q:Int)) (.int .i64 (d:Int)) (g:=w7.heap.size) rfl;obtain ⟨⟨e0,e1,e2,e3⟩,-⟩:=hE.all;go_wp2
    exact bodyPost_ret (v:= .tuple #[.slice (some ⟨w7.heap.size,0,none⟩) 0 0, .agg #[.slice (some ⟨b,0,none⟩) tk.length cw, .slice (some ⟨b2,0,none⟩) tk.length ck, .int .i64 (q:Int), .int .i64 (d:Int)], .bool false]) (by simp [results,Tryz.results222,go_sem,e0,e1,e2,e3]) rfl
     ⟨_,_,_,[],q,(d:Int),false,⟨⟨_,_,_,rfl⟩,⟨_,_,_,rfl⟩⟩,rfl,hO,by simp only [List.length_nil];omega,hq,hB, .inr ⟨rfl,HN.out⟩⟩
  |true=>
   have Fk:=bG hc;have Oa:=agC hc;clear hc;go_wp2_with fail
   go_region
   all_goals
    obtain ⟨hE,hB,hO⟩:=(HJ.out.seti (.int .i64 ((q:Int)+1))).last (.slice (some ⟨b,0,none⟩) tk.length cw) (.slice (some ⟨b2,0,none⟩) tk.length ck) (.int .i64 ((q:Int)+1)) (.int .i64 (d:Int));obtain ⟨⟨e0,e1,e2,e3⟩,-⟩:=hE.all;go_wp2
    exact bodyPost_ret (v:= .tuple #[v, .agg #[.slice (some ⟨b,0,none⟩) tk.length cw, .slice (some ⟨b2,0,none⟩) tk.length ck, .int .i64 ((q:Int)+1), .int .i64 (d:Int)], .bool true]) (by simp [results,Tryz.results222,go_sem,e0,e1,e2,e3]) rfl
     ⟨v,_,_,l,q+1,(d:Int),true,⟨⟨_,_,_,rfl⟩,⟨_,_,_,rfl⟩⟩,rfl,hO.drew,by omega,Fk,hB.drew, .inl ⟨rfl,rfl,rfl,rfl, .paren Eu.out AT.out Oa.out⟩⟩
theorem yN (tk:List Tk) (N:Nat) (ih:AllR tk N) (AP:tk.length≤20000) (Au: ∀x∈tk,x.2.size≤20000) (Ay: ∀x∈tk,1≤x.1∧x.1≤4) (p d:Nat) (W K:Value) (w:World) (hp:p≤tk.length) (hN:10*(tk.length-p)≤N+1) (hd:d≤41) (hr:RowTk w W K tk):
  Calls Tryz.prog 222 #[StV W K p d] w (dJ tk .atom p d W K w):=by
 by_cases AN:p<tk.length
 ·have hs:tk[p]? =some (tk[p].1,tk[p].2):=List.getElem?_eq_getElem AN
  have Ec:=Au _ (List.getElem_mem AN);have EF:=Ay _ (List.getElem_mem AN);generalize tk[p].1=k at hs EF;generalize tk[p].2=s at hs Ec
  have h4:k=1∨k=2∨k=3∨k=4:=by omega
  rcases h4 with rfl|rfl|rfl|rfl
  ·by_cases ht:s.data.toList=b7
   ·exact nD tk N ih AP p d W K w hN hd hr s Ec hs (.inl ht)
   ·by_cases hf:s.data.toList=bE
    ·exact nD tk N ih AP p d W K w hN hd hr s Ec hs (.inr hf)
    ·cases hc:isT tk (p+1) [40] with
     |true=>exact yJ tk N ih AP p d W K w hN hd hr s Ec hs ht hf hc
     |false=>exact yI tk N ih AP p d W K w hN hd hr s Ec hs ht hf hc
  ·exact aa9 tk N ih AP p d W K w hN hd hr s Ec hs
  ·exact yH tk N ih AP p d W K w hN hd hr s Ec hs
  ·cases h1:isT tk p [40] with
   |true=>
    obtain ⟨s',Oc,e⟩:=dK h1;obtain ⟨-,rfl⟩:=aC hs Oc;exact uK tk N ih AP p d W K w hN hd hr s Ec hs h1 (ke e)
   |false=>
    cases h2:isT tk p [91] with
    |true=>
     obtain ⟨s',Oc,e⟩:=dK h2;obtain ⟨-,rfl⟩:=aC hs Oc;exact yK tk N ih AP p d W K w hN hd hr s Ec hs h2 (ke e)
    |false=>exact yM tk N ih AP p d W K w hN hd hr s Ec hs h1 h2
 ·exact pA tk AP p d W K w (by omega) hr
theorem sn (tk:List Tk) (N:Nat) (ih:AllR tk N) (AP:tk.length≤20000) (p d:Nat) (W K:Value) (w:World) (hp:p≤tk.length) (hN:10*(tk.length-p)+7≤N) (hd:d≤41) (hr:RowTk w W K tk):
  Calls Tryz.prog 150 #[StV W K p d] w (dJ tk .choice p d W K w):=by
 by_cases hd1:d+1≤41
 ·by_cases h: ∃a q m,Rs tk (.level 2) p (d+1) a q m∧isT tk q [63]=true
  ·obtain ⟨a,q,m,h1,h2⟩:=h
   exact lO tk N ih AP p d W K w hp hN hd1 hr (fun a' q' m' h'=>by obtain ⟨-,rfl,-⟩:=h1.uniq h';exact h2)
  ·exact m7 tk N ih AP p d W K w hp hN hd1 hr (fun a q m h1=>by
    cases h2:isT tk q [63] with
    |true=>exact absurd ⟨a,q,m,h1,h2⟩ h
    |false=>rfl)
 ·exact my tk AP p d W K w hp hd hd1 hr
theorem af4 (tk:List Tk) (AP:tk.length≤20000) (Au: ∀x∈tk,x.2.size≤20000) (Ay: ∀x∈tk,1≤x.1∧x.1≤4): ∀N,AllR tk N:=by
 have hz:AllR tk 0→ ∀N,AllR tk N:=by
  intro h0 N
  induction N with
  |zero=>exact h0
  |succ N ih=>
   refine ⟨fun p d W K w hp hN hd hr=>sn tk N ih AP p d W K w hp (by omega) hd hr,fun r p d W K w h2 h7 hp hN hd hr=> ?_,fun p d W K w hp hN hd hr=>wF tk N ih AP p d W K w hp (by omega) hd hr,fun p d W K w hp hN hd hr=>yN tk N ih AP Au Ay p d W K w hp (by omega) hd hr,fun p d c W K w hp hN hd hr=>wI tk N ih AP p d c W K w hp (by omega) hd hr⟩
   by_cases EI:r=7
   ·subst EI
    exact tK tk N ih AP p d W K w hp (by omega) hd hr
   ·exact wH tk N ih AP r p d W K w h2 (by omega) hp (by omega) hd hr
 refine hz ⟨fun p d W K w hp hN hd hr=>absurd hN (by omega),fun r p d W K w h2 h7 hp hN hd hr=>absurd hN (by omega),fun p d W K w hp hN hd hr=>absurd hN (by omega),fun p d W K w hp hN hd hr=> ?_,fun p d c W K w hp hN hd hr=>absurd hN (by omega)⟩;exact pA tk AP p d W K w (by omega) hr
end Go.Proofs.YtegdjjjpoahamaaGreatDoor
