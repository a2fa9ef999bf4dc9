/-
  Part of the proof of FnReadItem.
-/
import Derived.Test.YthijkjnngfnfdaaGreatDoorQRap
import Derived.Test.YthijkjnngfnfdaaGreatDoorQRah
set_option linter.unusedVariables false
set_option maxHeartbeats 1000000
set_option maxRecDepth 100000
namespace Go.Proofs.YthijkjnngfnfdaaGreatDoor
open Go.RowKit
theorem uN {tk:List Tk} {p:Nat} (h: ¬p<tk.length) (w:List UInt8):isT tk p w=false:=by
 unfold isT;rw [List.getElem?_eq_none (by omega)]
theorem adC {tk:List Tk} {p d:Nat} (h: ¬p<tk.length):NoRd tk .atom p d:=by
 rintro ⟨c,q,m,k,-,-⟩
 cases k with
 |paren k1 k2 k3=>exact tf k1 (uN h _)
 |list k1 k2=>exact tf k1 (uN h _)
 |num k1 k2=>exact h (dP k1)
 |text k1 k2=>exact h (dP k1)
 |truth k1 k2=>exact h (dP k1)
 |name k1 k2 k3 k4=>exact h (dP k1)
 |call k1 k2 k3 k4 k5=>exact h (dP k1)
theorem aP {tk:List Tk} {p:Nat} {k k':Int} {s s':ByteArray} (h:tk[p]? =some (k,s)) (h':tk[p]? =some (k',s')):k=k'∧s=s':=by
 rw [h] at h';simpa using h'
theorem ahf {tk:List Tk} {p d:Nat} {s:ByteArray} (h:tk[p]? =some (2,s)) (hn:i6 s=false):NoRd tk .atom p d:=by
 rintro ⟨c,q,m,k,-,-⟩
 cases k with
 |num k1 k2=>obtain ⟨-,rfl⟩:=aP h k1;rw [hn] at k2;cases k2
 |paren k1 k2 k3=>exact ce k1 h (by decide)
 |list k1 k2=>exact ce k1 h (by decide)
 |text k1 k2=>exact absurd (aP h k1).1 (by decide)
 |truth k1 k2=>exact absurd (aP h k1).1 (by decide)
 |name k1 k2 k3 k4=>exact absurd (aP h k1).1 (by decide)
 |call k1 k2 k3 k4 k5=>exact absurd (aP h k1).1 (by decide)
theorem afE {tk:List Tk} {p d:Nat} {s:ByteArray} (h:tk[p]? =some (3,s)) (hn:bZ s=false):NoRd tk .atom p d:=by
 rintro ⟨c,q,m,k,-,-⟩
 cases k with
 |text k1 k2=>obtain ⟨-,rfl⟩:=aP h k1;rw [hn] at k2;cases k2
 |paren k1 k2 k3=>exact ce k1 h (by decide)
 |list k1 k2=>exact ce k1 h (by decide)
 |num k1 k2=>exact absurd (aP h k1).1 (by decide)
 |truth k1 k2=>exact absurd (aP h k1).1 (by decide)
 |name k1 k2 k3 k4=>exact absurd (aP h k1).1 (by decide)
 |call k1 k2 k3 k4 k5=>exact absurd (aP h k1).1 (by decide)
theorem afF {tk:List Tk} {p d:Nat} {s:ByteArray} (h:tk[p]? =some (1,s)) (ht:s.data.toList≠cN) (hf:s.data.toList≠bX) (hp:isT tk (p+1) [40]=true) (hn:NoRd tk (.parts [41] 0 []) (p+2) d):NoRd tk .atom p d:=by
 rintro ⟨c,q,m,k,hc,hm⟩
 cases k with
 |call k1 k2 k3 k4 k5=>
  refine hn ⟨_,_,_,k5,hc.sub (by simp) (fun x hx=>by simp [hx]), ?_⟩;have:=hc.2 _ (List.mem_cons_self ..);have:=(kU this).2;simp only at this;omega
 |truth k1 k2=>obtain ⟨-,rfl⟩:=aP h k1;rcases k2 with k2|k2;exact ht k2;exact hf k2
 |name k1 k2 k3 k4=>exact tf hp k4
 |paren k1 k2 k3=>exact ce k1 h (by decide)
 |list k1 k2=>exact ce k1 h (by decide)
 |num k1 k2=>exact absurd (aP h k1).1 (by decide)
 |text k1 k2=>exact absurd (aP h k1).1 (by decide)
theorem afG {tk:List Tk} {p d:Nat} (h:isT tk p [91]=true) (hn:NoRd tk (.parts [93] 0 []) (p+1) d):NoRd tk .atom p d:=by
 obtain ⟨s,hs,e⟩:=ee h;rintro ⟨c,q,m,k,hc,hm⟩
 cases k with
 |list k1 k2=>
  refine hn ⟨_,_,_,k2,hc.sub (by simp) (fun x hx=>by simp [hx]), ?_⟩;have:=hc.2 _ (List.mem_cons_self ..);have:=(kU this).2;simp only at this;omega
 |paren k1 k2 k3=>exact jh k1 h (by decide)
 |num k1 k2=>exact absurd (aP hs k1).1 (by decide)
 |text k1 k2=>exact absurd (aP hs k1).1 (by decide)
 |truth k1 k2=>exact absurd (aP hs k1).1 (by decide)
 |name k1 k2 k3 k4=>exact absurd (aP hs k1).1 (by decide)
 |call k1 k2 k3 k4 k5=>exact absurd (aP hs k1).1 (by decide)
theorem adD {tk:List Tk} {p d:Nat} (h:isT tk p [40]=true) (hn:NoRd tk .choice (p+1) d):NoRd tk .atom p d:=by
 obtain ⟨s,hs,e⟩:=ee h;rintro ⟨c,q,m,k,hc,hm⟩
 cases k with
 |paren k1 k2 k3=>exact hn.use k2 hc (by rw [k2.zero (by intros;simp)];omega)
 |list k1 k2=>exact jh k1 h (by decide)
 |num k1 k2=>exact absurd (aP hs k1).1 (by decide)
 |text k1 k2=>exact absurd (aP hs k1).1 (by decide)
 |truth k1 k2=>exact absurd (aP hs k1).1 (by decide)
 |name k1 k2 k3 k4=>exact absurd (aP hs k1).1 (by decide)
 |call k1 k2 k3 k4 k5=>exact absurd (aP hs k1).1 (by decide)
theorem xG {tk:List Tk} {p d:Nat} {a:List Cl} {q m:Nat} (h:isT tk p [40]=true) (hr:Rs tk .choice (p+1) d a q m) (hn:isT tk q [41]=false):NoRd tk .atom p d:=by
 obtain ⟨s,hs,e⟩:=ee h;rintro ⟨c,q',m',k,hc,hm⟩
 cases k with
 |paren k1 k2 k3=>obtain ⟨rfl,rfl,-⟩:=hr.uniq k2;exact tf k3 hn
 |list k1 k2=>exact jh k1 h (by decide)
 |num k1 k2=>exact absurd (aP hs k1).1 (by decide)
 |text k1 k2=>exact absurd (aP hs k1).1 (by decide)
 |truth k1 k2=>exact absurd (aP hs k1).1 (by decide)
 |name k1 k2 k3 k4=>exact absurd (aP hs k1).1 (by decide)
 |call k1 k2 k3 k4 k5=>exact absurd (aP hs k1).1 (by decide)
theorem aaX {tk:List Tk} {p d:Nat} {s:ByteArray} (h:tk[p]? =some (4,s)) (h1:isT tk p [40]=false) (h2:isT tk p [91]=false):NoRd tk .atom p d:=by
 rintro ⟨c,q,m,k,-,-⟩
 cases k with
 |paren k1 k2 k3=>exact tf k1 h1
 |list k1 k2=>exact tf k1 h2
 |num k1 k2=>exact absurd (aP h k1).1 (by decide)
 |text k1 k2=>exact absurd (aP h k1).1 (by decide)
 |truth k1 k2=>exact absurd (aP h k1).1 (by decide)
 |name k1 k2 k3 k4=>exact absurd (aP h k1).1 (by decide)
 |call k1 k2 k3 k4 k5=>exact absurd (aP h k1).1 (by decide)
theorem zp {w w4:World} {a0 a1 a2 a3:Value} (h:BlkS w4 (w.heap.size+1) #[a0,a1,a2,a3]) (hb:Below w.heap.size w w4) (x0 x1 x2 x3 c0 c1 c2:Value):
  BlkS ((((((w4.setCell ⟨w.heap.size+1,0,none⟩ x0).setCell ⟨w.heap.size+1,1,none⟩ x1).setCell ⟨w.heap.size+1,2,none⟩ x2).setCell ⟨w.heap.size+1,3,none⟩ x3).alloc (.cells #[c0,c1,c2] 120)).drew) (w.heap.size+1) #[x0,x1,x2,x3]∧
  Below w.heap.size w ((((((w4.setCell ⟨w.heap.size+1,0,none⟩ x0).setCell ⟨w.heap.size+1,1,none⟩ x1).setCell ⟨w.heap.size+1,2,none⟩ x2).setCell ⟨w.heap.size+1,3,none⟩ x3).alloc (.cells #[c0,c1,c2] 120)).drew)∧
  World.ownsRow ((((((w4.setCell ⟨w.heap.size+1,0,none⟩ x0).setCell ⟨w.heap.size+1,1,none⟩ x1).setCell ⟨w.heap.size+1,2,none⟩ x2).setCell ⟨w.heap.size+1,3,none⟩ x3).alloc (.cells #[c0,c1,c2] 120)).drew) w.heap.size 120 3 (.slice (some ⟨w4.heap.size,0,none⟩) 1 1) 1 [c0,c1,c2]:=by
 have hb5:=bI hb (g:=w.heap.size+1) (by omega) x0 x1 x2 x3;exact ⟨((h.put4 x0 x1 x2 x3).alloc _).drew,(hb5.alloc hb5.size _).drew,jz hb5.size (by simp [World.setCell])⟩
theorem adE {w w4:World} {a0 a1 a2 a3:Value} (h:BlkS w4 (w.heap.size+1) #[a0,a1,a2,a3]) (hb:Below w.heap.size w w4) (x0 x1 x2 x3 c0 c1 c2:Value):
  BlkS (((((w4.setCell ⟨w.heap.size+1,0,none⟩ x0).setCell ⟨w.heap.size+1,1,none⟩ x1).setCell ⟨w.heap.size+1,2,none⟩ x2).setCell ⟨w.heap.size+1,3,none⟩ x3).alloc (.cells #[c0,c1,c2] 120)) (w.heap.size+1) #[x0,x1,x2,x3]∧
  Below w.heap.size w (((((w4.setCell ⟨w.heap.size+1,0,none⟩ x0).setCell ⟨w.heap.size+1,1,none⟩ x1).setCell ⟨w.heap.size+1,2,none⟩ x2).setCell ⟨w.heap.size+1,3,none⟩ x3).alloc (.cells #[c0,c1,c2] 120))∧
  World.ownsRow (((((w4.setCell ⟨w.heap.size+1,0,none⟩ x0).setCell ⟨w.heap.size+1,1,none⟩ x1).setCell ⟨w.heap.size+1,2,none⟩ x2).setCell ⟨w.heap.size+1,3,none⟩ x3).alloc (.cells #[c0,c1,c2] 120)) w.heap.size 120 3 (.slice (some ⟨w4.heap.size,0,none⟩) 1 1) 1 [c0,c1,c2]:=by
 have hb5:=bI hb (g:=w.heap.size+1) (by omega) x0 x1 x2 x3
 have hs:((((w4.setCell ⟨w.heap.size+1,0,none⟩ x0).setCell ⟨w.heap.size+1,1,none⟩ x1).setCell ⟨w.heap.size+1,2,none⟩ x2).setCell ⟨w.heap.size+1,3,none⟩ x3).heap.size=w4.heap.size:=by simp [World.setCell]
 exact ⟨(h.put4 x0 x1 x2 x3).alloc _,hb5.alloc hb5.size _,(sE hs).mono hb.size⟩
theorem adF (tk : List Tk) (N : Nat) (ih : AllR tk N) (h20 : tk.length ≤ 20000) (p d : Nat) (W K : Value) (w : World) (hN : 10 * (tk.length - p) ≤ N + 1) (hd : d ≤ 41) (hr : RowTk w W K tk) (s : ByteArray) (hsw : s.size ≤ 20000) (hs : tk[p]? = some (2, s)) :
    Calls Tryz.prog 199 #[StV W K p d] w (ec tk .atom p d W K w) := by
  obtain ⟨i0, hi, hz0, hz1, hz2⟩ := info_parts gj;have HR := aim hr; have IH := aim ih; have HSK := aim hs;have hpl := dP hs;obtain ⟨⟨ao, cap, rfl, q1, q2, q3⟩, bo, cp, rfl, k1, k2, k3⟩ := hr;unfold maxLen at q2 k2;obtain ⟨b, rfl, hbl, cc⟩ := q3.resolve_left (by rintro rfl; simp at hpl);obtain ⟨b2, rfl, hbl2, cc2⟩ := k3.resolve_left (by rintro rfl; simp at hpl)
  have hgs : tk[p] = (2, s) := by rw [List.getElem?_eq_getElem hpl] at hs; injection hs
  have C1 := cc p hpl; have C2 := cc2 p hpl;rw [hgs] at C1 C2;obtain ⟨hA, hB, hC, hD⟩ := cT w #[.slice (some ⟨b, 0, none⟩) tk.length cap, .slice (some ⟨b2, 0, none⟩) tk.length cp, .int .i64 ((p : Int) + 1), .int .i64 (d : Int)] #[.slice none 0 0, .slice none 0 0, .int .i64 0, .int .i64 0];have HA := aim hA; have HB := aim hB; have HC := aim hC; have HD := aim hD
  have hpi : (p : Int) < (tk.length : Int) := by omega
  clear cc cc2 hgs hs q3 k3 ih hA hB hC hD
  go_enter Tryz.func199, Tryz.ntmps199
  go_wp2_with fail;refine (bN s _ (by omega)).mono ?_;rintro e w3 ⟨rfl, hb3⟩;have HA3 := aim (HA.out.below hb3); have HB3 := aim (HB.out.below hb3); have HC3 := aim (HC.out.trans (hb3.mono HC.out.size));clear hb3 HA HB HC
  have HF := aim (show (i6 s = true ∧ Rs tk .atom p d [(1, lS s, 0)] (p + 1) 0) ∨ (i6 s = false ∧ NoRd tk .atom p d) from by
    cases hn : i6 s with
    | true => exact .inl ⟨rfl, .num HSK.out hn⟩
    | false => exact .inr ⟨rfl, ahf HSK.out hn⟩)
  unfold i6 lS at HF;generalize gd (bM s.data.toList) (bq s.data.toList) (br s.data.toList) = OK at HF ⊢;generalize opT (bM s.data.toList) (bq s.data.toList) (br s.data.toList) = T at HF ⊢;generalize opB (bM s.data.toList) (bq s.data.toList) (br s.data.toList) = B at HF ⊢;have HAL := aim (show ∀ (o : Obj), BlkS (w3.alloc o) w.heap.size _ from fun o => HA3.out.alloc o);have HBL := aim (show ∀ (o : Obj), BlkS (w3.alloc o) (w.heap.size + 1) _ from fun o => HB3.out.alloc o);have HCL := aim (show ∀ (o : Obj), Below w.heap.size w (w3.alloc o) from fun o => HC3.out.alloc HC3.out.size o);obtain ⟨⟨s0, s1, s2, s3⟩, -⟩ := HA3.out.all;have l1 : w.heap.size + 1 < w3.heap.size := HB3.out.lt
  have l2 : w.heap.size < w3.heap.size := by omega
  have n1 : ¬ w.heap.size = w3.heap.size := by omega
  have n2 : ¬ w.heap.size + 1 = w3.heap.size := by omega
  go_wp2_with fail
  go_region_with
    ((go_at_call 164; refine (aX T B _).mono ?_; rintro e w4 ⟨rfl, hb4⟩; have HA4 := aim (show BlkS w4 w.heap.size _ from by first | exact (HAL.out _).below hb4 | exact ((HAL.out _).drew).below hb4); have HB4 := aim (show BlkS w4 (w.heap.size + 1) _ from by first | exact (HBL.out _).below hb4 | exact ((HBL.out _).drew).below hb4); have HC4 := aim (show Below w.heap.size w w4 from by first | exact (HCL.out _).trans (hb4.mono (HCL.out _).size) | exact ((HCL.out _).drew).trans (hb4.mono (HCL.out _).size)); obtain ⟨⟨t0, t1, t2, t3⟩, -⟩ := HA4.out.all; obtain ⟨⟨r0, r1, r2, r3⟩, z0, z1, z2, z3⟩ := HB4.out.all; have l3 : w.heap.size + 1 < w4.heap.size := HB4.out.lt; have l4 : w.heap.size < w4.heap.size := (by omega); have n3 : ¬ w.heap.size = w4.heap.size := (by omega); have n4 : ¬ w.heap.size + 1 = w4.heap.size := (by omega)))
  all_goals
    obtain ⟨hE, hB, hO⟩ := adE HB4.out HC4.out (.slice (some ⟨b, 0, none⟩) tk.length cap) (.slice (some ⟨b2, 0, none⟩) tk.length cp) (.int .i64 ((p : Int) + 1)) (.int .i64 (d : Int)) (.int .i64 1) (.string ⟨(aW T B).toArray⟩) (.int .i64 0)
    first
      | (obtain ⟨⟨e0, e1, e2, e3⟩, -⟩ := hE.all
         go_wp2
         exact bodyPost_ret (v := .tuple #[.slice (some ⟨w4.heap.size, 0, none⟩) 1 1, .agg #[.slice (some ⟨b, 0, none⟩) tk.length cap, .slice (some ⟨b2, 0, none⟩) tk.length cp, .int .i64 ((p : Int) + 1), .int .i64 (d : Int)], .bool OK]) (by simp [results, Tryz.results199, go_sem, e0, e1, e2, e3]) rfl
           ⟨_, _, _, [(1, ⟨(aW T B).toArray⟩, 0)], p + 1, (d : Int), OK, ⟨⟨_, _, _, rfl⟩, ⟨_, _, _, rfl⟩⟩, rfl, hO, by simp only [List.length_singleton]; omega, hpl, hB, HF.out.elim (fun ⟨a, b⟩ => .inl ⟨a, rfl, rfl, rfl, b⟩) .inr⟩)
      | (obtain ⟨⟨e0, e1, e2, e3⟩, -⟩ := hE.drew.all
         go_wp2
         exact bodyPost_ret (v := .tuple #[.slice (some ⟨w4.heap.size, 0, none⟩) 1 1, .agg #[.slice (some ⟨b, 0, none⟩) tk.length cap, .slice (some ⟨b2, 0, none⟩) tk.length cp, .int .i64 ((p : Int) + 1), .int .i64 (d : Int)], .bool OK]) (by simp [results, Tryz.results199, go_sem, e0, e1, e2, e3]) rfl
           ⟨_, _, _, [(1, ⟨(aW T B).toArray⟩, 0)], p + 1, (d : Int), OK, ⟨⟨_, _, _, rfl⟩, ⟨_, _, _, rfl⟩⟩, rfl, hO.drew, by simp only [List.length_singleton]; omega, hpl, hB.drew, HF.out.elim (fun ⟨a, b⟩ => .inl ⟨a, rfl, rfl, rfl, b⟩) .inr⟩)
theorem aaY (tk:List Tk) (N:Nat) (ih:AllR tk N) (h20:tk.length≤20000) (p d:Nat) (W K:Value) (w:World) (hN:10*(tk.length-p)≤N+1) (hd:d≤41) (hr:RowTk w W K tk) (s:ByteArray) (hsw:s.size≤20000) (hs:tk[p]? =some (3,s)):
  Calls Tryz.prog 199 #[StV W K p d] w (ec tk .atom p d W K w):=by
 obtain ⟨i0,hi,hz0,hz1,hz2⟩:=info_parts gj;have HR:=aim hr;have IH:=aim ih;have HSK:=aim hs;have hpl:=dP hs;obtain ⟨⟨ao,cap,rfl,q1,q2,q3⟩,bo,cp,rfl,k1,k2,k3⟩:=hr;unfold maxLen at q2 k2;obtain ⟨b,rfl,hbl,cc⟩:=q3.resolve_left (by rintro rfl;simp at hpl);obtain ⟨b2,rfl,hbl2,cc2⟩:=k3.resolve_left (by rintro rfl;simp at hpl)
 have hgs:tk[p]=(3,s):=by rw [List.getElem?_eq_getElem hpl] at hs;injection hs
 have C1:=cc p hpl;have C2:=cc2 p hpl;rw [hgs] at C1 C2;obtain ⟨hA,hB,hC,hD⟩:=cT w #[.slice (some ⟨b,0,none⟩) tk.length cap, .slice (some ⟨b2,0,none⟩) tk.length cp, .int .i64 ((p:Int)+1), .int .i64 (d:Int)] #[.slice none 0 0, .slice none 0 0, .int .i64 0, .int .i64 0];have HA:=aim hA;have HB:=aim hB;have HC:=aim hC;have HD:=aim hD
 have hpi:(p:Int)<(tk.length:Int):=by omega
 clear cc cc2 hgs hs q3 k3 ih hA hB hC hD
 go_enter Tryz.func199,Tryz.ntmps199
 go_wp2_with fail;refine (ny s _ (by unfold maxLen;omega)).mono ?_;rintro e w4 ⟨rfl,hw4⟩;have HA4:=aim (hw4▸HA.out);have HB4:=aim (hw4▸HB.out);have HC4:=aim (hw4▸HC.out);clear HA HB HC HD hw4;obtain ⟨⟨s0,s1,s2,s3⟩,-⟩:=HA4.out.all
 have HF:=aim (show (bZ s=true∧Rs tk .atom p d [(2,hY s,0)] (p+1) 0)∨(bZ s=false∧NoRd tk .atom p d) from by
  cases hn:bZ s with
  |true=>exact .inl ⟨rfl, .text HSK.out hn⟩
  |false=>exact .inr ⟨rfl,afE HSK.out hn⟩)
 generalize bZ s=OK at HF⊢;generalize hY s=WD at HF⊢;obtain ⟨⟨r0,r1,r2,r3⟩,z0,z1,z2,z3⟩:=HB4.out.all;have l1:w.heap.size+1<w4.heap.size:=HB4.out.lt
 have l2:w.heap.size<w4.heap.size:=by omega
 have n1: ¬w.heap.size=w4.heap.size:=by omega
 have n2: ¬w.heap.size+1=w4.heap.size:=by omega
 go_wp2_with fail
 go_region
 all_goals
  obtain ⟨hE,hB,hO⟩:=zp HB4.out HC4.out (.slice (some ⟨b,0,none⟩) tk.length cap) (.slice (some ⟨b2,0,none⟩) tk.length cp) (.int .i64 ((p:Int)+1)) (.int .i64 (d:Int)) (.int .i64 2) (.string WD) (.int .i64 0);obtain ⟨⟨e0,e1,e2,e3⟩,-⟩:=hE.all;go_wp2
  exact bodyPost_ret (v:= .tuple #[.slice (some ⟨w4.heap.size,0,none⟩) 1 1, .agg #[.slice (some ⟨b,0,none⟩) tk.length cap, .slice (some ⟨b2,0,none⟩) tk.length cp, .int .i64 ((p:Int)+1), .int .i64 (d:Int)], .bool OK]) (by simp [results,Tryz.results199,go_sem,e0,e1,e2,e3]) rfl
   ⟨_,_,_,[(2,WD,0)],p+1,(d:Int),OK,⟨⟨_,_,_,rfl⟩,⟨_,_,_,rfl⟩⟩,rfl,hO,by simp only [List.length_singleton];omega,hpl,hB,HF.out.elim (fun ⟨a,b⟩=> .inl ⟨a,rfl,rfl,rfl,b⟩) .inr⟩
theorem pK (tk:List Tk) (N:Nat) (ih:AllR tk N) (h20:tk.length≤20000) (p d:Nat) (W K:Value) (w:World) (hN:10*(tk.length-p)≤N+1) (hd:d≤41) (hr:RowTk w W K tk) (s:ByteArray) (hsw:s.size≤20000) (hs:tk[p]? =some (1,s)) (ht:s.data.toList=cN∨s.data.toList=bX):
  Calls Tryz.prog 199 #[StV W K p d] w (ec tk .atom p d W K w):=by
 obtain ⟨i0,hi,hz0,hz1,hz2⟩:=info_parts gj;have HR:=aim hr;have IH:=aim ih;have HSK:=aim hs;have hpl:=dP hs;obtain ⟨⟨ao,cap,rfl,q1,q2,q3⟩,bo,cp,rfl,k1,k2,k3⟩:=hr;unfold maxLen at q2 k2;obtain ⟨b,rfl,hbl,cc⟩:=q3.resolve_left (by rintro rfl;simp at hpl);obtain ⟨b2,rfl,hbl2,cc2⟩:=k3.resolve_left (by rintro rfl;simp at hpl)
 have hgs:tk[p]=(1,s):=by rw [List.getElem?_eq_getElem hpl] at hs;injection hs
 have C1:=cc p hpl;have C2:=cc2 p hpl;rw [hgs] at C1 C2;obtain ⟨hA,hB,hC,hD⟩:=cT w #[.slice (some ⟨b,0,none⟩) tk.length cap, .slice (some ⟨b2,0,none⟩) tk.length cp, .int .i64 ((p:Int)+1), .int .i64 (d:Int)] #[.slice none 0 0, .slice none 0 0, .int .i64 0, .int .i64 0];have HA:=aim hA;have HB:=aim hB;have HC:=aim hC;have HD:=aim hD
 have hpi:(p:Int)<(tk.length:Int):=by omega
 clear cc cc2 hgs hs q3 k3 ih hA hB hC hD
 go_enter Tryz.func199,Tryz.ntmps199
 have hs1:s=⟨#[116,114,117,101]⟩∨s=⟨#[102,97,108,115,101]⟩:=by
  rcases ht with ht|ht
  ·left;exact kb ht
  ·right;exact kb ht
 have HF:=aim (Rs.truth (d:=d) HSK.out ht)
 rcases hs1 with rfl|rfl
 ·go_wp2_with fail
  have n1: ¬w.heap.size=w.heap.size+1:=by omega
  go_region
  all_goals
   go_wp2;obtain ⟨-,hB2,hC2,hD2⟩:=cT w #[.slice (some ⟨b,0,none⟩) tk.length cap, .slice (some ⟨b2,0,none⟩) tk.length cp, .int .i64 ((p:Int)+1), .int .i64 (d:Int)] #[.slice (some ⟨b,0,none⟩) tk.length cap, .slice (some ⟨b2,0,none⟩) tk.length cp, .int .i64 ((p:Int)+1), .int .i64 (d:Int)];obtain ⟨⟨e0,e1,e2,e3⟩,-⟩:=((hB2.alloc (.cells #[.int .i64 3, .string ⟨#[116,114,117,101]⟩, .int .i64 0] 120)).drew).all
   exact bodyPost_ret (v:= .tuple #[.slice (some ⟨w.heap.size+1+1,0,none⟩) 1 1, .agg #[.slice (some ⟨b,0,none⟩) tk.length cap, .slice (some ⟨b2,0,none⟩) tk.length cp, .int .i64 ((p:Int)+1), .int .i64 (d:Int)], .bool true]) (by simp [results,Tryz.results199,go_sem,e0,e1,e2,e3]) rfl
    ⟨_,_,_,[(3,⟨#[116,114,117,101]⟩,0)],p+1,(d:Int),true,⟨⟨_,_,_,rfl⟩,⟨_,_,_,rfl⟩⟩,rfl,jz hC2.size hD2,by simp only [List.length_singleton];omega,hpl,(hC2.alloc hC2.size _).drew, .inl ⟨rfl,rfl,rfl,rfl,HF.out⟩⟩
 ·go_wp2_with fail
  have n1: ¬w.heap.size=w.heap.size+1:=by omega
  go_region
  all_goals
   go_wp2;obtain ⟨-,hB2,hC2,hD2⟩:=cT w #[.slice (some ⟨b,0,none⟩) tk.length cap, .slice (some ⟨b2,0,none⟩) tk.length cp, .int .i64 ((p:Int)+1), .int .i64 (d:Int)] #[.slice (some ⟨b,0,none⟩) tk.length cap, .slice (some ⟨b2,0,none⟩) tk.length cp, .int .i64 ((p:Int)+1), .int .i64 (d:Int)];obtain ⟨⟨e0,e1,e2,e3⟩,-⟩:=((hB2.alloc (.cells #[.int .i64 3, .string ⟨#[102,97,108,115,101]⟩, .int .i64 0] 120)).drew).all
   exact bodyPost_ret (v:= .tuple #[.slice (some ⟨w.heap.size+1+1,0,none⟩) 1 1, .agg #[.slice (some ⟨b,0,none⟩) tk.length cap, .slice (some ⟨b2,0,none⟩) tk.length cp, .int .i64 ((p:Int)+1), .int .i64 (d:Int)], .bool true]) (by simp [results,Tryz.results199,go_sem,e0,e1,e2,e3]) rfl
    ⟨_,_,_,[(3,⟨#[102,97,108,115,101]⟩,0)],p+1,(d:Int),true,⟨⟨_,_,_,rfl⟩,⟨_,_,_,rfl⟩⟩,rfl,jz hC2.size hD2,by simp only [List.length_singleton];omega,hpl,(hC2.alloc hC2.size _).drew, .inl ⟨rfl,rfl,rfl,rfl,HF.out⟩⟩
theorem aaZ (tk:List Tk) (N:Nat) (ih:AllR tk N) (h20:tk.length≤20000) (p d:Nat) (W K:Value) (w:World) (hN:10*(tk.length-p)≤N+1) (hd:d≤41) (hr:RowTk w W K tk) (s:ByteArray) (hsw:s.size≤20000) (hs:tk[p]? =some (1,s)) (ht:s.data.toList≠cN) (hf:s.data.toList≠bX) (hp1:isT tk (p+1) [40]=false):
  Calls Tryz.prog 199 #[StV W K p d] w (ec tk .atom p d W K w):=by
 obtain ⟨i0,hi,hz0,hz1,hz2⟩:=info_parts gj;have HR:=aim hr;have IH:=aim ih;have HSK:=aim hs;have hpl:=dP hs;obtain ⟨⟨ao,cap,rfl,q1,q2,q3⟩,bo,cp,rfl,k1,k2,k3⟩:=hr;unfold maxLen at q2 k2;obtain ⟨b,rfl,hbl,cc⟩:=q3.resolve_left (by rintro rfl;simp at hpl);obtain ⟨b2,rfl,hbl2,cc2⟩:=k3.resolve_left (by rintro rfl;simp at hpl)
 have hgs:tk[p]=(1,s):=by rw [List.getElem?_eq_getElem hpl] at hs;injection hs
 have C1:=cc p hpl;have C2:=cc2 p hpl;rw [hgs] at C1 C2;obtain ⟨hA,hB,hC,hD⟩:=cT w #[.slice (some ⟨b,0,none⟩) tk.length cap, .slice (some ⟨b2,0,none⟩) tk.length cp, .int .i64 ((p:Int)+1), .int .i64 (d:Int)] #[.slice none 0 0, .slice none 0 0, .int .i64 0, .int .i64 0];have HA:=aim hA;have HB:=aim hB;have HC:=aim hC;have HD:=aim hD
 have hpi:(p:Int)<(tk.length:Int):=by omega
 clear cc cc2 hgs hs q3 k3 ih hA hB hC hD;have t1:(s.toList==[116,114,117,101])=false:=af ht;have t2:(s.toList==[102,97,108,115,101])=false:=af hf;have HF:=aim (Rs.name (d:=d) HSK.out ht hf hp1);have HP1:=aim hp1;clear ht hf hp1
 go_enter Tryz.func199,Tryz.ntmps199
 go_wp2_with fail;refine ((show Calls Tryz.prog 146 #[.agg #[.slice _ _ _, .slice _ _ _, .int .i64 ((p:Int)+1), .int .i64 (d:Int)], .string _] _ _ from dl _ _ tk (p+1) d ⟨#[40]⟩ _ (HR.out.mono HC.out) (by omega))).mono ?_;rintro e w4 ⟨rfl,hb4⟩;rw [HP1.out];have HA4:=aim (HA.out.below hb4);have HB4:=aim (HB.out.below hb4);have HC4:=aim (HC.out.trans (hb4.mono HC.out.size));clear hb4 HA HB HC HD;obtain ⟨⟨s0,s1,s2,s3⟩,-⟩:=HA4.out.all;obtain ⟨⟨r0,r1,r2,r3⟩,z0,z1,z2,z3⟩:=HB4.out.all;have l1:w.heap.size+1<w4.heap.size:=HB4.out.lt
 have l2:w.heap.size<w4.heap.size:=by omega
 have n1: ¬w.heap.size=w4.heap.size:=by omega
 have n2: ¬w.heap.size+1=w4.heap.size:=by omega
 go_wp2_with fail
 go_region
 all_goals
  obtain ⟨hE,hB,hO⟩:=zp HB4.out HC4.out (.slice (some ⟨b,0,none⟩) tk.length cap) (.slice (some ⟨b2,0,none⟩) tk.length cp) (.int .i64 ((p:Int)+1)) (.int .i64 (d:Int)) (.int .i64 4) (.string s) (.int .i64 0);obtain ⟨⟨e0,e1,e2,e3⟩,-⟩:=hE.all;go_wp2
  exact bodyPost_ret (v:= .tuple #[.slice (some ⟨w4.heap.size,0,none⟩) 1 1, .agg #[.slice (some ⟨b,0,none⟩) tk.length cap, .slice (some ⟨b2,0,none⟩) tk.length cp, .int .i64 ((p:Int)+1), .int .i64 (d:Int)], .bool true]) (by simp [results,Tryz.results199,go_sem,e0,e1,e2,e3]) rfl
   ⟨_,_,_,[(4,s,0)],p+1,(d:Int),true,⟨⟨_,_,_,rfl⟩,⟨_,_,_,rfl⟩⟩,rfl,hO,by simp only [List.length_singleton];omega,hpl,hB, .inl ⟨rfl,rfl,rfl,rfl,HF.out⟩⟩
theorem aa0 (tk:List Tk) (N:Nat) (ih:AllR tk N) (h20:tk.length≤20000) (p d:Nat) (W K:Value) (w:World) (hN:10*(tk.length-p)≤N+1) (hd:d≤41) (hr:RowTk w W K tk) (s:ByteArray) (hsw:s.size≤20000) (hs:tk[p]? =some (1,s)) (ht:s.data.toList≠cN) (hf:s.data.toList≠bX) (hp1:isT tk (p+1) [40]=true):
  Calls Tryz.prog 199 #[StV W K p d] w (ec tk .atom p d W K w):=by
 obtain ⟨i0,hi,hz0,hz1,hz2⟩:=info_parts gj;have HR:=aim hr;have IH:=aim ih;have HSK:=aim hs;have hpl:=dP hs;obtain ⟨⟨ao,cap,rfl,q1,q2,q3⟩,bo,cp,rfl,k1,k2,k3⟩:=hr;unfold maxLen at q2 k2;obtain ⟨b,rfl,hbl,cc⟩:=q3.resolve_left (by rintro rfl;simp at hpl);obtain ⟨b2,rfl,hbl2,cc2⟩:=k3.resolve_left (by rintro rfl;simp at hpl)
 have hgs:tk[p]=(1,s):=by rw [List.getElem?_eq_getElem hpl] at hs;injection hs
 have C1:=cc p hpl;have C2:=cc2 p hpl;rw [hgs] at C1 C2;obtain ⟨hA,hB,hC,hD⟩:=cT w #[.slice (some ⟨b,0,none⟩) tk.length cap, .slice (some ⟨b2,0,none⟩) tk.length cp, .int .i64 ((p:Int)+1), .int .i64 (d:Int)] #[.slice none 0 0, .slice none 0 0, .int .i64 0, .int .i64 0];have HA:=aim hA;have HB:=aim hB;have HC:=aim hC;have HD:=aim hD
 have hpi:(p:Int)<(tk.length:Int):=by omega
 clear cc cc2 hgs hs q3 k3 ih hA hB hC hD;have t1:(s.toList==[116,114,117,101])=false:=af ht;have t2:(s.toList==[102,97,108,115,101])=false:=af hf;have HF:=aim (And.intro ht hf);have HP1:=aim hp1;have hp2:=bV hp1;clear ht hf hp1
 go_enter Tryz.func199,Tryz.ntmps199
 go_wp2_with fail;refine ((show Calls Tryz.prog 146 #[.agg #[.slice _ _ _, .slice _ _ _, .int .i64 ((p:Int)+1), .int .i64 (d:Int)], .string _] _ _ from dl _ _ tk (p+1) d ⟨#[40]⟩ _ (HR.out.mono HC.out) (by omega))).mono ?_;rintro e w4 ⟨rfl,hb4⟩;rw [HP1.out];have HA4:=aim (HA.out.below hb4);have HB4:=aim (HB.out.below hb4);have HC4:=aim (HC.out.trans (hb4.mono HC.out.size));clear hb4 HA HB HC HD;obtain ⟨⟨s0,s1,s2,s3⟩,y0,y1,y2,y3⟩:=HA4.out.all;have HBX:=aim (BlkS.far HB4.out (f:=w.heap.size) 2 (.int .i64 ((p:Int)+1+1)) (by omega));have HCX:=aim (HC4.out.setCell (p:=⟨w.heap.size,2,none⟩) (ain _) (.int .i64 ((p:Int)+1+1)));clear HA4 HB4 HC4;go_wp2_with fail;refine ((show Calls Tryz.prog 212 #[.agg #[.slice _ _ _, .slice _ _ _, .int .i64 ((p:Int)+1+1), .int .i64 (d:Int)], .string _] _ _ from IH.out.parts (p+2) d ⟨#[41]⟩ _ _ _ (by omega) (by omega) hd (HR.out.mono HCX.out))).mono ?_;rintro e w6 ⟨v,W',K',l,q,m,d',ok,⟨⟨aw,nw,cw,rfl⟩,⟨ak,nk,ck,rfl⟩⟩,rfl,ho,hlq,hq,hb6,hres⟩;have HB6:=aim (HBX.out.below hb6);have HC6:=aim (HCX.out.trans (hb6.mono HCX.out.size));have HRES:=aim hres;obtain ⟨k1,k2,k3,k4,k5⟩:=BlkS.inner HB6.out HC6.out rfl HC6.out.size (ho.mono (base':=w.heap.size) HCX.out.size) (.slice aw nw cw) (.slice ak nk ck) (.int .i64 (q:Int)) (.int .i64 d') rfl;have BR4:=aim k1;have BI4:=aim k2;have HB4:=aim k3;have HO4:=aim k4;obtain ⟨⟨g0,g1,g2,g3⟩,-⟩:=k2.all;obtain ⟨⟨r0,r1,r2,r3⟩,z0,z1,z2,z3⟩:=k1.all;have l6:w.heap.size+1<w6.heap.size:=HB6.out.lt;clear k1 k2 k3 k4 hb6 ho hres HB6 HC6 HBX HCX
 have hlen:l.length≤20000:=by omega
 go_wp2_with fail
 go_region_law
  ((refine dC (by rfl) _ _ _ (by rfl) (w.heap.size+2) 120 i0 (.agg #[.int .i64 0, .string ByteArray.empty, .int .i64 0]) 3 32 Tryz.underlying23 hi hz0 hz1 hz2 rfl (by decide) _ 1 [.int .i64 6, .string s, .int .i64 (m:Int)] (by rfl) (jz (by omega) k5) _ v l.length (ap l) (by rfl) ((HO4.out.alloc _).drew) (aE _) (by unfold maxLen;omega) (by omega) (by simp;omega) ?_;intro v5 w5 hown5 hgrow5;obtain ⟨⟨a0,a1,a2,a3⟩,-⟩:=(BI4.out.appended k5 hgrow5).all;obtain ⟨⟨b0,b1,b2,b3⟩,y0,y1,y2,y3⟩:=(BR4.out.appended k5 hgrow5).all))
 all_goals
  have HO5:=aim hown5;have HG5:=aim hgrow5;clear hown5 hgrow5;have HB5:=aim (fR HB4.out (by omega) k5 HG5.out);have HE:=aim (bI HB5.out (g:=w.heap.size+1) (by omega) (.slice aw nw cw) (.slice ak nk ck) (.int .i64 (q:Int)) (.int .i64 d'));have HOO:=aim ((dm HO5.out (g:=w.heap.size+1) (by omega) (.slice aw nw cw) (.slice ak nk ck) (.int .i64 (q:Int)) (.int .i64 d')).mono (base':=w.heap.size) (by omega));obtain ⟨⟨e0,e1,e2,e3⟩,-⟩:=((BR4.out.appended k5 HG5.out).put4 (.slice aw nw cw) (.slice ak nk ck) (.int .i64 (q:Int)) (.int .i64 d')).all;go_wp2
  exact bodyPost_ret (v:= .tuple #[v5, .agg #[.slice aw nw cw, .slice ak nk ck, .int .i64 (q:Int), .int .i64 d'], .bool ok]) (by simp [results,Tryz.results199,go_sem,e0,e1,e2,e3]) rfl
   ⟨v5,_,_,(6,s,(m:Int))::l,q,d',ok,⟨⟨_,_,_,rfl⟩,⟨_,_,_,rfl⟩⟩,rfl,(mI HOO.out),by simp only [List.length_cons];omega,hq,HE.out,
    HRES.out.elim (fun ⟨a,b,c,e,f⟩=> .inl ⟨a,b,c,e, .call HSK.out HF.out.1 HF.out.2 HP1.out f⟩) (fun ⟨a,b⟩=> .inr ⟨a,afF HSK.out HF.out.1 HF.out.2 HP1.out b⟩)⟩
theorem aa1 (tk:List Tk) (N:Nat) (ih:AllR tk N) (h20:tk.length≤20000) (p d:Nat) (W K:Value) (w:World) (hN:10*(tk.length-p)≤N+1) (hd:d≤41) (hr:RowTk w W K tk) (s:ByteArray) (hsw:s.size≤20000) (hs:tk[p]? =some (4,s)) (hp1:isT tk p [91]=true) (hp0:s=⟨#[91]⟩):
  Calls Tryz.prog 199 #[StV W K p d] w (ec tk .atom p d W K w):=by
 obtain ⟨i0,hi,hz0,hz1,hz2⟩:=info_parts gj;have HR:=aim hr;have IH:=aim ih;have HSK:=aim hs;have hpl:=dP hs;obtain ⟨⟨ao,cap,rfl,q1,q2,q3⟩,bo,cp,rfl,k1,k2,k3⟩:=hr;unfold maxLen at q2 k2;obtain ⟨b,rfl,hbl,cc⟩:=q3.resolve_left (by rintro rfl;simp at hpl);obtain ⟨b2,rfl,hbl2,cc2⟩:=k3.resolve_left (by rintro rfl;simp at hpl)
 have hgs:tk[p]=(4,s):=by rw [List.getElem?_eq_getElem hpl] at hs;injection hs
 have C1:=cc p hpl;have C2:=cc2 p hpl;rw [hgs] at C1 C2;obtain ⟨hA,hB,hC,hD⟩:=cT w #[.slice (some ⟨b,0,none⟩) tk.length cap, .slice (some ⟨b2,0,none⟩) tk.length cp, .int .i64 ((p:Int)+1), .int .i64 (d:Int)] #[.slice none 0 0, .slice none 0 0, .int .i64 0, .int .i64 0];have HA:=aim hA;have HB:=aim hB;have HC:=aim hC;have HD:=aim hD
 have hpi:(p:Int)<(tk.length:Int):=by omega
 clear cc cc2 hgs hs q3 k3 ih hA hB hC hD;have HP1:=aim hp1;clear hp1;subst hp0
 go_enter Tryz.func199,Tryz.ntmps199
 have HBX:=HB;have HCX:=HC;clear HA HB HC;go_wp2_with fail;refine ((show Calls Tryz.prog 212 #[.agg #[.slice _ _ _, .slice _ _ _, .int .i64 ((p:Int)+1), .int .i64 (d:Int)], .string _] _ _ from IH.out.parts (p+1) d ⟨#[93]⟩ _ _ _ (by omega) (by omega) hd (HR.out.mono HCX.out))).mono ?_;rintro e w6 ⟨v,W',K',l,q,m,d',ok,⟨⟨aw,nw,cw,rfl⟩,⟨ak,nk,ck,rfl⟩⟩,rfl,ho,hlq,hq,hb6,hres⟩;have HB6:=aim (HBX.out.below hb6);have HC6:=aim (HCX.out.trans (hb6.mono HCX.out.size));have HRES:=aim hres;obtain ⟨k1,k2,k3,k4,k5⟩:=BlkS.inner HB6.out HC6.out rfl HC6.out.size (ho.mono (base':=w.heap.size) HCX.out.size) (.slice aw nw cw) (.slice ak nk ck) (.int .i64 (q:Int)) (.int .i64 d') rfl;have BR4:=aim k1;have BI4:=aim k2;have HB4:=aim k3;have HO4:=aim k4;obtain ⟨⟨g0,g1,g2,g3⟩,-⟩:=k2.all;obtain ⟨⟨r0,r1,r2,r3⟩,z0,z1,z2,z3⟩:=k1.all;have l6:w.heap.size+1<w6.heap.size:=HB6.out.lt;clear k1 k2 k3 k4 hb6 ho hres HB6 HC6 HBX HCX
 have hlen:l.length≤20000:=by omega
 go_wp2_with fail
 go_region_law
  ((refine dC (by rfl) _ _ _ (by rfl) (w.heap.size+2) 120 i0 (.agg #[.int .i64 0, .string ByteArray.empty, .int .i64 0]) 3 32 Tryz.underlying23 hi hz0 hz1 hz2 rfl (by decide) _ 1 [.int .i64 5, .string ⟨#[]⟩, .int .i64 (m:Int)] (by rfl) (jz (by omega) k5) _ v l.length (ap l) (by rfl) ((HO4.out.alloc _).drew) (aE _) (by unfold maxLen;omega) (by omega) (by simp;omega) ?_;intro v5 w5 hown5 hgrow5;obtain ⟨⟨a0,a1,a2,a3⟩,-⟩:=(BI4.out.appended k5 hgrow5).all;obtain ⟨⟨b0,b1,b2,b3⟩,y0,y1,y2,y3⟩:=(BR4.out.appended k5 hgrow5).all))
 all_goals
  have HO5:=aim hown5;have HG5:=aim hgrow5;clear hown5 hgrow5;have HB5:=aim (fR HB4.out (by omega) k5 HG5.out);have HE:=aim (bI HB5.out (g:=w.heap.size+1) (by omega) (.slice aw nw cw) (.slice ak nk ck) (.int .i64 (q:Int)) (.int .i64 d'));have HOO:=aim ((dm HO5.out (g:=w.heap.size+1) (by omega) (.slice aw nw cw) (.slice ak nk ck) (.int .i64 (q:Int)) (.int .i64 d')).mono (base':=w.heap.size) (by omega));obtain ⟨⟨e0,e1,e2,e3⟩,-⟩:=((BR4.out.appended k5 HG5.out).put4 (.slice aw nw cw) (.slice ak nk ck) (.int .i64 (q:Int)) (.int .i64 d')).all;go_wp2
  exact bodyPost_ret (v:= .tuple #[v5, .agg #[.slice aw nw cw, .slice ak nk ck, .int .i64 (q:Int), .int .i64 d'], .bool ok]) (by simp [results,Tryz.results199,go_sem,e0,e1,e2,e3]) rfl
   ⟨v5,_,_,(5,⟨#[]⟩,(m:Int))::l,q,d',ok,⟨⟨_,_,_,rfl⟩,⟨_,_,_,rfl⟩⟩,rfl,(mI HOO.out),by simp only [List.length_cons];omega,hq,HE.out,
    HRES.out.elim (fun ⟨a,b,c,e,f⟩=> .inl ⟨a,b,c,e, .list HP1.out f⟩) (fun ⟨a,b⟩=> .inr ⟨a,afG HP1.out b⟩)⟩
theorem aa2 {w w4:World} {a0 a1 a2 a3:Value} (h:BlkS w4 (w.heap.size+1) #[a0,a1,a2,a3]) (hb:Below w.heap.size w w4) (x0 x1 x2 x3:Value):
  BlkS (((((((w4.setCell ⟨w.heap.size+1,0,none⟩ x0).setCell ⟨w.heap.size+1,1,none⟩ x1).setCell ⟨w.heap.size+1,2,none⟩ x2).setCell ⟨w.heap.size+1,3,none⟩ x3).alloc (.cells #[x0,x1,x2,x3] 135)).alloc (.cells #[] 120)).drew) (w.heap.size+1) #[x0,x1,x2,x3]∧
  Below w.heap.size w (((((((w4.setCell ⟨w.heap.size+1,0,none⟩ x0).setCell ⟨w.heap.size+1,1,none⟩ x1).setCell ⟨w.heap.size+1,2,none⟩ x2).setCell ⟨w.heap.size+1,3,none⟩ x3).alloc (.cells #[x0,x1,x2,x3] 135)).alloc (.cells #[] 120)).drew)∧
  World.ownsRow (((((((w4.setCell ⟨w.heap.size+1,0,none⟩ x0).setCell ⟨w.heap.size+1,1,none⟩ x1).setCell ⟨w.heap.size+1,2,none⟩ x2).setCell ⟨w.heap.size+1,3,none⟩ x3).alloc (.cells #[x0,x1,x2,x3] 135)).alloc (.cells #[] 120)).drew) w.heap.size 120 3 (.slice (some ⟨w4.heap.size+1,0,none⟩) 0 0) 0 (ap []):=by
 have hb5:=bI hb (g:=w.heap.size+1) (by omega) x0 x1 x2 x3;have hb6:=hb5.alloc hb5.size (.cells #[x0,x1,x2,x3] 135);have hs:=hb.size;exact ⟨(((h.put4 x0 x1 x2 x3).alloc _).alloc _).drew,(hb6.alloc hb6.size _).drew,ij (by simp [World.setCell]) (by omega)⟩
theorem aa3 (tk:List Tk) (N:Nat) (ih:AllR tk N) (h20:tk.length≤20000) (p d:Nat) (W K:Value) (w:World) (hN:10*(tk.length-p)≤N+1) (hd:d≤41) (hr:RowTk w W K tk) (s:ByteArray) (hsw:s.size≤20000) (hs:tk[p]? =some (4,s)) (hn1:isT tk p [40]=false) (hn2:isT tk p [91]=false):
  Calls Tryz.prog 199 #[StV W K p d] w (ec tk .atom p d W K w):=by
 obtain ⟨i0,hi,hz0,hz1,hz2⟩:=info_parts gj;have HR:=aim hr;have IH:=aim ih;have HSK:=aim hs;have hpl:=dP hs;obtain ⟨⟨ao,cap,rfl,q1,q2,q3⟩,bo,cp,rfl,k1,k2,k3⟩:=hr;unfold maxLen at q2 k2;obtain ⟨b,rfl,hbl,cc⟩:=q3.resolve_left (by rintro rfl;simp at hpl);obtain ⟨b2,rfl,hbl2,cc2⟩:=k3.resolve_left (by rintro rfl;simp at hpl)
 have hgs:tk[p]=(4,s):=by rw [List.getElem?_eq_getElem hpl] at hs;injection hs
 have C1:=cc p hpl;have C2:=cc2 p hpl;rw [hgs] at C1 C2;obtain ⟨hA,hB,hC,hD⟩:=cT w #[.slice (some ⟨b,0,none⟩) tk.length cap, .slice (some ⟨b2,0,none⟩) tk.length cp, .int .i64 ((p:Int)+1), .int .i64 (d:Int)] #[.slice none 0 0, .slice none 0 0, .int .i64 0, .int .i64 0];have HA:=aim hA;have HB:=aim hB;have HC:=aim hC;have HD:=aim hD
 have hpi:(p:Int)<(tk.length:Int):=by omega
 clear cc cc2 hgs hs q3 k3 ih hA hB hC hD;have HN:=aim (aaX (p:=p) (d:=d) HSK.out hn1 hn2)
 have t1:(s.toList==[40])=false:=by rw [lsS];unfold isT at hn1;rw [HSK.out] at hn1;simpa using hn1
 have t2:(s.toList==[91])=false:=by rw [lsS];unfold isT at hn2;rw [HSK.out] at hn2;simpa using hn2
 clear hn1 hn2
 go_enter Tryz.func199,Tryz.ntmps199
 go_wp2_with fail
 have n1: ¬w.heap.size=w.heap.size+1:=by omega
 go_region
 all_goals
  go_wp2;obtain ⟨hA,hB,hC,hD⟩:=cT w #[.slice (some ⟨b,0,none⟩) tk.length cap, .slice (some ⟨b2,0,none⟩) tk.length cp, .int .i64 ((p:Int)+1), .int .i64 (d:Int)] #[.slice (some ⟨b,0,none⟩) tk.length cap, .slice (some ⟨b2,0,none⟩) tk.length cp, .int .i64 ((p:Int)+1), .int .i64 (d:Int)];obtain ⟨⟨e0,e1,e2,e3⟩,-⟩:=((hB.alloc (.cells #[] 120)).drew).all
  exact bodyPost_ret (v:= .tuple #[.slice (some ⟨w.heap.size+1+1,0,none⟩) 0 0, .agg #[.slice (some ⟨b,0,none⟩) tk.length cap, .slice (some ⟨b2,0,none⟩) tk.length cp, .int .i64 ((p:Int)+1), .int .i64 (d:Int)], .bool false]) (by simp [results,Tryz.results199,go_sem,e0,e1,e2,e3]) rfl
   ⟨_,_,_,[],p+1,(d:Int),false,⟨⟨_,_,_,rfl⟩,⟨_,_,_,rfl⟩⟩,rfl,ij hD (by omega),by simp only [List.length_nil];omega,hpl,(hC.alloc hC.size _).drew, .inr ⟨rfl,HN.out⟩⟩
theorem rL (tk:List Tk) (h20:tk.length≤20000) (p d:Nat) (W K:Value) (w:World) (hp:p=tk.length) (hr:RowTk w W K tk):
  Calls Tryz.prog 199 #[StV W K p d] w (ec tk .atom p d W K w):=by
 obtain ⟨⟨ao,cap,rfl,q1,q2,q3⟩,bo,cp,rfl,k1,k2,k3⟩:=hr;unfold maxLen at q2 k2;have HN:=aim (adC (tk:=tk) (p:=p) (d:=d) (by omega))
 have hpe:tk.length≤p:=by omega
 have hpe2:p≤tk.length:=by omega
 have hpi:((tk.length:Nat):Int)≤(p:Int):=by omega
 clear q3 k3 hp
 go_enter Tryz.func199,Tryz.ntmps199
 go_wp2_with fail
 have n1: ¬w.heap.size=w.heap.size+1:=by omega
 go_region
 all_goals
  go_wp2;obtain ⟨hA,hB,hC,hD⟩:=cT w #[.slice ao tk.length cap, .slice bo tk.length cp, .int .i64 (p:Int), .int .i64 (d:Int)] #[.slice ao tk.length cap, .slice bo tk.length cp, .int .i64 (p:Int), .int .i64 (d:Int)];obtain ⟨⟨e0,e1,e2,e3⟩,-⟩:=((hB.alloc (.cells #[] 120)).drew).all
  exact bodyPost_ret (v:= .tuple #[.slice (some ⟨w.heap.size+1+1,0,none⟩) 0 0, .agg #[.slice ao tk.length cap, .slice bo tk.length cp, .int .i64 (p:Int), .int .i64 (d:Int)], .bool false]) (by simp [results,Tryz.results199,go_sem,e0,e1,e2,e3]) rfl
   ⟨_,_,_,[],p,(d:Int),false,⟨⟨_,_,_,rfl⟩,⟨_,_,_,rfl⟩⟩,rfl,ij hD (by omega),by simp only [List.length_nil];omega,hpe2,(hC.alloc hC.size _).drew, .inr ⟨rfl,HN.out⟩⟩
theorem xH (tk:List Tk) (N:Nat) (ih:AllR tk N) (h20:tk.length≤20000) (p d:Nat) (W K:Value) (w:World) (hN:10*(tk.length-p)≤N+1) (hd:d≤41) (hr:RowTk w W K tk) (s:ByteArray) (hsw:s.size≤20000) (hs:tk[p]? =some (4,s)) (hp1:isT tk p [40]=true) (hp0:s=⟨#[40]⟩):
  Calls Tryz.prog 199 #[StV W K p d] w (ec tk .atom p d W K w):=by
 obtain ⟨i0,hi,hz0,hz1,hz2⟩:=info_parts gj;have HR:=aim hr;have IH:=aim ih;have HSK:=aim hs;have hpl:=dP hs;obtain ⟨⟨ao,cap,rfl,q1,q2,q3⟩,bo,cp,rfl,k1,k2,k3⟩:=hr;unfold maxLen at q2 k2;obtain ⟨b,rfl,hbl,cc⟩:=q3.resolve_left (by rintro rfl;simp at hpl);obtain ⟨b2,rfl,hbl2,cc2⟩:=k3.resolve_left (by rintro rfl;simp at hpl)
 have hgs:tk[p]=(4,s):=by rw [List.getElem?_eq_getElem hpl] at hs;injection hs
 have C1:=cc p hpl;have C2:=cc2 p hpl;rw [hgs] at C1 C2;obtain ⟨hA,hB,hC,hD⟩:=cT w #[.slice (some ⟨b,0,none⟩) tk.length cap, .slice (some ⟨b2,0,none⟩) tk.length cp, .int .i64 ((p:Int)+1), .int .i64 (d:Int)] #[.slice none 0 0, .slice none 0 0, .int .i64 0, .int .i64 0];have HA:=aim hA;have HB:=aim hB;have HC:=aim hC;have HD:=aim hD
 have hpi:(p:Int)<(tk.length:Int):=by omega
 clear cc cc2 hgs hs q3 k3 ih hA hB hC hD;have HP1:=aim hp1;clear hp1;subst hp0
 go_enter Tryz.func199,Tryz.ntmps199
 go_wp2_with fail;refine ((show Calls Tryz.prog 109 #[.agg #[.slice _ _ _, .slice _ _ _, .int .i64 ((p:Int)+1), .int .i64 (d:Int)]] _ _ from IH.out.choice (p+1) d _ _ _ (by omega) (by omega) hd (HR.out.mono HC.out))).mono ?_;rintro e w6 ⟨v,W',K',l,q,d',ok,⟨⟨aw,nw,cw,rfl⟩,⟨ak,nk,ck,rfl⟩⟩,rfl,ho,hlq,hq,hb6,hres⟩;have HI:=aim (ChI.first rfl hb6 ho (.slice aw nw cw) (.slice ak nk ck) (.int .i64 (q:Int)) (.int .i64 d'));have HB6:=aim (HB.out.below hb6);have HC6:=aim (HC.out.trans (hb6.mono HC.out.size));have l6:w.heap.size+1<w6.heap.size:=HB6.out.lt
 have n1: ¬w6.heap.size=w.heap.size+1:=by omega
 have n2: ¬w.heap.size+1=w6.heap.size:=by omega
 have n5: ¬w.heap.size+1=w6.heap.size+1:=by omega
 have l9:w.heap.size+1<w6.heap.size+1:=by omega
 clear hb6 ho HA HB HC HD
 rcases hres with ⟨rfl,hW,hK,hd',hrd⟩|⟨rfl,hn⟩
 rotate_left
 ·have HN:=aim (adD HP1.out hn)
  clear hn HI;obtain ⟨⟨r0,r1,r2,r3⟩,z0,z1,z2,z3⟩:=HB6.out.all;go_wp2_with fail
  go_region
  all_goals
   obtain ⟨hE,hB,hO⟩:=aa2 HB6.out HC6.out (.slice aw nw cw) (.slice ak nk ck) (.int .i64 (q:Int)) (.int .i64 d');obtain ⟨⟨e0,e1,e2,e3⟩,-⟩:=hE.all;go_wp2
   exact bodyPost_ret (v:= .tuple #[.slice (some ⟨w6.heap.size+1,0,none⟩) 0 0, .agg #[.slice aw nw cw, .slice ak nk ck, .int .i64 (q:Int), .int .i64 d'], .bool false]) (by simp [results,Tryz.results199,go_sem,e0,e1,e2,e3]) rfl
    ⟨_,_,_,[],q,d',false,⟨⟨_,_,_,rfl⟩,⟨_,_,_,rfl⟩⟩,rfl,hO,by simp only [List.length_nil];omega,hq,hB, .inr ⟨rfl,HN.out⟩⟩
 ·simp only [Value.slice.injEq] at hW hK
  obtain ⟨rfl,rfl,rfl⟩:=hW;obtain ⟨rfl,rfl,rfl⟩:=hK
  replace hd':d'=(d:Int):=hd'
  subst hd';have HRD:=aim hrd;clear hrd HB6 HC6;go_wp2_with fail;refine ((show Calls Tryz.prog 146 #[.agg #[.slice _ _ _, .slice _ _ _, .int .i64 (q:Int), .int .i64 (d:Int)], .string _] _ _ from dl _ _ tk q d ⟨#[41]⟩ _ (HR.out.mono HI.out.below) (by omega))).mono ?_;rintro e w7 ⟨rfl,hb7⟩;have HJ:=aim (HI.out.later hb7);clear hb7 HI;obtain ⟨⟨g0,g1,g2,g3⟩,y0,y1,y2,y3⟩:=HJ.out.inn.all;obtain ⟨⟨r0,r1,r2,r3⟩,z0,z1,z2,z3⟩:=HJ.out.ans.all;have l7:=HJ.out.inn.lt
  have l8:w.heap.size+1<w7.heap.size:=by omega
  have n8: ¬w.heap.size+1=w7.heap.size:=by omega
  cases hc:isT tk q [41] with
  |false=>
   have HN:=aim (xG HP1.out HRD.out hc);clear hc;go_wp2_with fail
   go_region
   all_goals
    obtain ⟨hE,hB,hO⟩:=HJ.out.fail (.slice (some ⟨b,0,none⟩) tk.length cw) (.slice (some ⟨b2,0,none⟩) tk.length ck) (.int .i64 (q:Int)) (.int .i64 (d:Int)) (g:=w7.heap.size) rfl;obtain ⟨⟨e0,e1,e2,e3⟩,-⟩:=hE.all;go_wp2
    exact bodyPost_ret (v:= .tuple #[.slice (some ⟨w7.heap.size,0,none⟩) 0 0, .agg #[.slice (some ⟨b,0,none⟩) tk.length cw, .slice (some ⟨b2,0,none⟩) tk.length ck, .int .i64 (q:Int), .int .i64 (d:Int)], .bool false]) (by simp [results,Tryz.results199,go_sem,e0,e1,e2,e3]) rfl
     ⟨_,_,_,[],q,(d:Int),false,⟨⟨_,_,_,rfl⟩,⟨_,_,_,rfl⟩⟩,rfl,hO,by simp only [List.length_nil];omega,hq,hB, .inr ⟨rfl,HN.out⟩⟩
  |true=>
   have hql:=bV hc;have HCC:=aim hc;clear hc;go_wp2_with fail
   go_region
   all_goals
    obtain ⟨hE,hB,hO⟩:=(HJ.out.seti (.int .i64 ((q:Int)+1))).last (.slice (some ⟨b,0,none⟩) tk.length cw) (.slice (some ⟨b2,0,none⟩) tk.length ck) (.int .i64 ((q:Int)+1)) (.int .i64 (d:Int));obtain ⟨⟨e0,e1,e2,e3⟩,-⟩:=hE.all;go_wp2
    exact bodyPost_ret (v:= .tuple #[v, .agg #[.slice (some ⟨b,0,none⟩) tk.length cw, .slice (some ⟨b2,0,none⟩) tk.length ck, .int .i64 ((q:Int)+1), .int .i64 (d:Int)], .bool true]) (by simp [results,Tryz.results199,go_sem,e0,e1,e2,e3]) rfl
     ⟨v,_,_,l,q+1,(d:Int),true,⟨⟨_,_,_,rfl⟩,⟨_,_,_,rfl⟩⟩,rfl,hO.drew,by omega,hql,hB.drew, .inl ⟨rfl,rfl,rfl,rfl, .paren HP1.out HRD.out HCC.out⟩⟩
theorem aa4 (tk:List Tk) (N:Nat) (ih:AllR tk N) (h20:tk.length≤20000) (hsz: ∀x∈tk,x.2.size≤20000) (hk4: ∀x∈tk,1≤x.1∧x.1≤4) (p d:Nat) (W K:Value) (w:World) (hp:p≤tk.length) (hN:10*(tk.length-p)≤N+1) (hd:d≤41) (hr:RowTk w W K tk):
  Calls Tryz.prog 199 #[StV W K p d] w (ec tk .atom p d W K w):=by
 by_cases hpl:p<tk.length
 ·have hs:tk[p]? =some (tk[p].1,tk[p].2):=List.getElem?_eq_getElem hpl
  have hsw:=hsz _ (List.getElem_mem hpl);have hkk:=hk4 _ (List.getElem_mem hpl);generalize tk[p].1=k at hs hkk;generalize tk[p].2=s at hs hsw
  have h4:k=1∨k=2∨k=3∨k=4:=by omega
  rcases h4 with rfl|rfl|rfl|rfl
  ·by_cases ht:s.data.toList=cN
   ·exact pK tk N ih h20 p d W K w hN hd hr s hsw hs (.inl ht)
   ·by_cases hf:s.data.toList=bX
    ·exact pK tk N ih h20 p d W K w hN hd hr s hsw hs (.inr hf)
    ·cases hc:isT tk (p+1) [40] with
     |true=>exact aa0 tk N ih h20 p d W K w hN hd hr s hsw hs ht hf hc
     |false=>exact aaZ tk N ih h20 p d W K w hN hd hr s hsw hs ht hf hc
  ·exact adF tk N ih h20 p d W K w hN hd hr s hsw hs
  ·exact aaY tk N ih h20 p d W K w hN hd hr s hsw hs
  ·cases h1:isT tk p [40] with
   |true=>
    obtain ⟨s',hs',e⟩:=ee h1;obtain ⟨-,rfl⟩:=aP hs hs';exact xH tk N ih h20 p d W K w hN hd hr s hsw hs h1 (kb e)
   |false=>
    cases h2:isT tk p [91] with
    |true=>
     obtain ⟨s',hs',e⟩:=ee h2;obtain ⟨-,rfl⟩:=aP hs hs';exact aa1 tk N ih h20 p d W K w hN hd hr s hsw hs h2 (kb e)
    |false=>exact aa3 tk N ih h20 p d W K w hN hd hr s hsw hs h1 h2
 ·exact rL tk h20 p d W K w (by omega) hr
theorem uO (tk:List Tk) (N:Nat) (ih:AllR tk N) (h20:tk.length≤20000) (p d:Nat) (W K:Value) (w:World) (hp:p≤tk.length) (hN:10*(tk.length-p)+7≤N) (hd:d≤41) (hr:RowTk w W K tk):
  Calls Tryz.prog 109 #[StV W K p d] w (ec tk .choice p d W K w):=by
 by_cases hd1:d+1≤41
 ·by_cases h: ∃a q m,Rs tk (.level 2) p (d+1) a q m∧isT tk q [63]=true
  ·obtain ⟨a,q,m,h1,h2⟩:=h
   exact mJ tk N ih h20 p d W K w hp hN hd1 hr (fun a' q' m' h'=>by obtain ⟨-,rfl,-⟩:=h1.uniq h';exact h2)
  ·exact oO tk N ih h20 p d W K w hp hN hd1 hr (fun a q m h1=>by
    cases h2:isT tk q [63] with
    |true=>exact absurd ⟨a,q,m,h1,h2⟩ h
    |false=>rfl)
 ·exact nF tk h20 p d W K w hp hd hd1 hr
theorem ah0 (tk:List Tk) (h20:tk.length≤20000) (hsz: ∀x∈tk,x.2.size≤20000) (hk4: ∀x∈tk,1≤x.1∧x.1≤4): ∀N,AllR tk N:=by
 have hz:AllR tk 0→ ∀N,AllR tk N:=by
  intro h0 N
  induction N with
  |zero=>exact h0
  |succ N ih=>
   refine ⟨fun p d W K w hp hN hd hr=>uO tk N ih h20 p d W K w hp (by omega) hd hr,fun r p d W K w h2 h7 hp hN hd hr=> ?_,fun p d W K w hp hN hd hr=>wU tk N ih h20 p d W K w hp (by omega) hd hr,fun p d W K w hp hN hd hr=>aa4 tk N ih h20 hsz hk4 p d W K w hp (by omega) hd hr,fun p d c W K w hp hN hd hr=>wY tk N ih h20 p d c W K w hp (by omega) hd hr⟩
   by_cases hr7:r=7
   ·subst hr7
    exact tX tk N ih h20 p d W K w hp (by omega) hd hr
   ·exact wW tk N ih h20 r p d W K w h2 (by omega) hp (by omega) hd hr
 refine hz ⟨fun p d W K w hp hN hd hr=>absurd hN (by omega),fun r p d W K w h2 h7 hp hN hd hr=>absurd hN (by omega),fun p d W K w hp hN hd hr=>absurd hN (by omega),fun p d W K w hp hN hd hr=> ?_,fun p d c W K w hp hN hd hr=>absurd hN (by omega)⟩;exact rL tk h20 p d W K w (by omega) hr
end Go.Proofs.YthijkjnngfnfdaaGreatDoor
