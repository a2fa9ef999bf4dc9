/-
  Part of the proof of FnReadItem.
-/
import Derived.Test.YthijkjnngfnfdaaGreatDoorQRaq
import Derived.Deep.AppendLies
set_option linter.unusedVariables false
set_option maxHeartbeats 1000000
set_option maxRecDepth 100000
namespace Go.Proofs.YthijkjnngfnfdaaGreatDoor
open Go.RowKit
def SpOK (s:ByteArray) (c:List Cl):Prop:=Rs (cS s) .choice 0 0 c (cS s).length 0∧okE c=true
theorem acn (l:List Int) (k:Nat) (h:k<l.length):(l.map (Value.int .i64))[k]? =some (.int .i64 l[k]):=by simp [h]
theorem aco (l:List ByteArray) (k:Nat) (h:k<l.length):(gH l)[k]? =some (.string l[k]):=by simp [gH,h]
theorem RowTk.of_own {w:World} {B:Nat} {e1 e2:TypeId} {vW vK:Value} {tk:List Tk} (h1:w.ownsRow B e1 1 vW tk.length (gH (tk.map (·.2)))) (h2:w.ownsRow B e2 1 vK tk.length ((tk.map (·.1)).map (Value.int .i64))):RowTk w vW vK tk:=by
 constructor
 ·rcases h1.2 with ⟨rfl,h0⟩|⟨g,cap,cur,rfl,hg,hh,q1,q2,_⟩
  ·exact ⟨none,0,by rw [h0],by omega,by unfold maxLen;omega, .inl (List.length_eq_zero_iff.mp h0)⟩
  ·refine ⟨_,cap,rfl,q1,q2, .inr ⟨g,rfl,(h1.lt g rfl).2,fun k hk=> ?_⟩⟩
   rw [h1.cellAt k (by omega),aco _ k (by simpa using hk)];simp
 ·rcases h2.2 with ⟨rfl,h0⟩|⟨g,cap,cur,rfl,hg,hh,q1,q2,_⟩
  ·exact ⟨none,0,by rw [h0],by omega,by unfold maxLen;omega, .inl (List.length_eq_zero_iff.mp h0)⟩
  ·refine ⟨_,cap,rfl,q1,q2, .inr ⟨g,rfl,(h2.lt g rfl).2,fun k hk=> ?_⟩⟩
   rw [h2.cellAt k (by omega),acn _ k (by simpa using hk)];simp
theorem mE {w w':World} {B n:Nat} {e:TypeId} {s:Nat} {v u:Value} {xs:List Value} (h:w.ownsRow B e s v n xs) (hap: ∀x,u.ownBlock=some x→v.ownBlock≠some x) (hg:w.grownBy w' u.ownBlock):w'.ownsRow B e s v n xs:=
 h.kept hg (by
  cases hv:v.ownBlock with
  |none=>exact .inl rfl
  |some x=>exact .inr (fun he=>hap x he.symm hv))
theorem ae6 {w:World} {g:Nat} (hg:w.heap.size=g) (o:Obj):(w.alloc o).heap[g]? =some o:=by subst hg;exact heap_alloc_new w o
theorem acp {wr:World} {B n:Nat} {e:TypeId} {sz:Nat} {vW vK:Value} {xs:List Value} {gg:Nat} (hap: ∀x,vW.ownBlock=some x→vK.ownBlock≠some x) (hK:wr.ownsRow B e sz vK n xs) (hat:vW.ownBlock=some gg∨gg=wr.heap.size+1):vK.ownBlock≠some gg:=by
 rcases hat with h|h
 ·exact hap gg h
 ·intro he
  have:=(hK.lt gg he).2
  omega
def TkL (tk:List Tk) (w1:World) (i:Value) (wr:World):Prop:=
 ∃(k:Nat) (vW vK:Value),i= .int .i64 (k:Int)∧k≤tk.length∧BlkS wr w1.heap.size #[vW,vK, .int .i64 0, .int .i64 0]∧wr.ownsRow (w1.heap.size+1) 9 1 vW k (gH ((tk.take k).map (·.2)))∧wr.ownsRow (w1.heap.size+1) 3 1 vK k (((tk.take k).map (·.1)).map (Value.int .i64))∧
  (∀x,vW.ownBlock=some x→vK.ownBlock≠some x)∧Below w1.heap.size w1 wr
theorem TkL.start (tk:List Tk) (w1:World):TkL tk w1 (.int .i64 0) (w1.alloc (.cells #[.slice none 0 0, .slice none 0 0, .int .i64 0, .int .i64 0] 135)):=
 ⟨0,_,_,rfl,air _,BlkS.new w1 _,World.ownsRow_nil _ _ _ _,World.ownsRow_nil _ _ _ _,fun x hx=>by simp [Value.ownBlock] at hx,(Below.refl _ _).alloc (ain _) _⟩
theorem yW (s:ByteArray):(cS s).length=(aV s).length:=by simp [cS]
theorem aik {s:ByteArray} {k:Nat} (h:k<(aV s).length):(cS s).take (k+1)=(cS s).take k++[((aV s)[k].1,s.extract (aV s)[k].2.1 (aV s)[k].2.2)]:=by
 rw [List.take_succ_eq_append_getElem (by rw [yW];exact h)];simp [cS]
theorem SpOK.uniq {s:ByteArray} {c d:List Cl} (h:SpOK s c) (k:SpOK s d):c=d:=(h.1.uniq k.1).1
theorem SpOK.some {s:ByteArray} {c:List Cl} (h:SpOK s c):fineC c:=by
 obtain ⟨h60,hal,-⟩:=(dL c).mp h.2;exact ⟨h60,fun x hx=>by rw [List.all_eq_true] at hal;exact hal x hx⟩
theorem agu {s:ByteArray} (h:aV s=[]) (c:List Cl): ¬SpOK s c:=by
 rintro ⟨h1,h2⟩;have:=h1.le.1;rw [yW,h] at this;simp only [Job.held,List.length_nil] at this;have:c=[]:=List.length_eq_zero_iff.mp (by omega);subst this;obtain ⟨-,-,d,-,hx⟩:=(dL []).mp h2;generalize hn:(1:Nat)=n at hx
 cases hx with
 |nil=>cases hn
 |cons hm=>simp [amL] at hm
theorem nu (s:ByteArray):(∀x∈cS s,x.2.size≤20000)∧ ∀x∈cS s,1≤x.1∧x.1≤4:=by
 obtain ⟨f1,f2,f3,f4⟩:=iE s
 have h20:aV s≠[]→s.size≤20000:=by
  intro h
  by_cases hk:okT s=true
  ·exact (vX s (.inr hk)).2 h
  ·exact absurd (by rw [aV,if_neg hk]) h
 constructor
 ·intro x hx
  simp only [cS,List.mem_map] at hx;obtain ⟨y,hy,rfl⟩:=hx;have:=h20 (List.ne_nil_of_mem hy);have:=f2 y hy;simp only [ByteArray.size_extract];omega
 ·intro x hx
  simp only [cS,List.mem_map] at hx;obtain ⟨y,hy,rfl⟩:=hx;exact f4 y hy
theorem wF {s:ByteArray} {l:List Cl} (h:Rs (cS s) .choice 0 0 l (cS s).length 0):dQ l:=by
 obtain ⟨n,hn⟩:=h.strength (by rw [zq (ain _)];decide);intro c hc;have:=hn.words (B:=20000) (by omega) (fun p k w hp=>(nu s).1 _ (List.mem_of_getElem? hp)) (fun x hx=>by cases hx) c hc
 omega
theorem agv {w X:World} {g:Nat} (hg:g=X.heap.size) (hb:w.heap.size≤X.heap.size):(X.alloc (.cells #[] 120)).ownsRow w.heap.size 120 3 (.slice (some ⟨g,0,none⟩) 0 0) 0 (ap []):=by
 subst hg;exact ⟨rfl, .inr ⟨X.heap.size,0, #[],rfl,hb,heap_alloc_new X _,ain _,air _,rfl,rfl⟩⟩
theorem nv (s : ByteArray) (w : World) (hs : s.size ≤ 2097152) :
    Calls Tryz.prog 58 #[.string s] w fun e w' => Below w.heap.size w w' ∧ ((∃ v c, e = .returned (.tuple #[v, .bool true]) ∧ SpOK s c ∧ w'.ownsRow w.heap.size 120 3 v c.length (ap c) ∧ c.length ≤ 60) ∨ ((∃ v, e = .returned (.tuple #[v, .bool false]) ∧ w'.ownsRow w.heap.size 120 3 v 0 (ap [])) ∧ ∀ c, ¬ SpOK s c)) := by
  go_enter Tryz.func58, Tryz.ntmps58
  go_wp2_with fail;refine (qE s _ (by unfold maxLen; omega)).mono ?_;rintro e w1 ⟨v, rfl, ho1, hb1⟩;obtain ⟨h0, ao, cap, rfl, t1, t2, t3⟩ := RowT.of_own ho1;have HB1 := aim hb1; have HT3 := aim t3;clear ho1 hb1 t3;unfold maxLen at t2;go_wp2_with fail;have htl := yW s;obtain ⟨f1, f2, f3, f4⟩ := iE s;have HF2 := aim f2;have HP := aim (fun w' (h : Below w1.heap.size w1 w') => (HB1.out.trans (h.mono HB1.out.size)));obtain ⟨iS, hiS, hzS0, hzS1, hzS2⟩ := info_parts oT;obtain ⟨iI, hiI, hzI0, hzI1, hzI2⟩ := info_parts adZ
  go_loopw [7] (fun i wr => TkL (cS s) w1 i wr) (fun i _ => 20001 - (intOf i).toNat)
  case atStart => exact TkL.start _ _
  case round =>
    obtain ⟨k, vW, vK, rfl, hk, hblk, hoW, hoK, hap, hb⟩ := hrel;have HBK := aim hblk; have HOW := aim hoW; have HOK := aim hoK; have HAP := aim hap; have HB := aim hb;clear hblk hoW hoK hap hb;rw [htl] at hk;obtain ⟨⟨g0, g1, g2, g3⟩, y0, y1, y2, y3⟩ := HBK.out.all;have hPl := HBK.out.lt
    by_cases hlt : k < (aV s).length
    · obtain ⟨b, rfl, lt1, cc⟩ := HT3.out.resolve_left (by omega)
      obtain ⟨e0, e1, e2⟩ := vC _ k hlt;have dc0 := cc _ _ e0;have d1 := (HB.out.cell (p := ⟨b, k * 3 + 1, none⟩) lt1).trans (cc _ _ e1);have d2 := (HB.out.cell (p := ⟨b, k * 3 + 2, none⟩) lt1).trans (cc _ _ e2);have hin := HF2.out _ (List.getElem_mem hlt);have HTA := aim (aik hlt);clear cc e0 e1 e2;generalize (aV s)[k] = x at *;obtain ⟨x1, x2, x3⟩ := x;simp only at dc0 d1 d2 hin HTA;obtain ⟨q1, q2⟩ := hin
      have bk0 : (0 : Int) ≤ (k : Int) := by omega
      have bk1 : (k : Int) < ((aV s).length : Int) := by omega
      have bk2 : (x2 : Int) ≤ (x3 : Int) := by omega
      have bk3 : (x3 : Int) ≤ (s.size : Int) := by omega
      have bk4 : (0 : Int) ≤ (x2 : Int) := by omega
      have HD0 := aim (show ∀ w', Below w1.heap.size w1 w' → w'.cell? ⟨b, k * 3, none⟩ = some (.int .i64 x1) from fun w' h => (h.cell (p := ⟨b, k * 3, none⟩) lt1).trans dc0)
      have nb1 : ¬ b = w1.heap.size := by omega
      have nb2 : ¬ w1.heap.size = b := by omega
      clear dc0;go_wp2_with fail
      go_region_law
        ((refine step_append_lies _ (by rfl) _ _ _ (by rfl) (w1.heap.size + 1) 9 iS _ 1 16 Tryz.underlying43 hiS hzS0 hzS1 hzS2 rfl (by omega) vW k _ (by rfl) ((HOW.out.alloc _).drew)
            ⟨wr.heap.size, 0, none⟩ 1 1 [.string (s.extract x2 x3)] (by rfl) (by rfl) (World.news_of_block (cs := #[.string (s.extract x2 x3)]) (t := 9) (fr := (0, 0)) (heap_alloc_new wr _)) (by simp [Value.oneCell'])
            (by omega) (by unfold maxLen; omega) (by omega) (by simp; omega) (wr.heap.size + 1) (by simp) ?_; intro gg cap' w2 hown' hgrow hat hlt'; obtain ⟨⟨j0, j1, j2, j3⟩, z0, z1, z2, z3⟩ := (((HBK.out.alloc _).drew).grown hgrow (fun he => by have := (HOW.out.lt _ he.symm).1; omega)).all))
      all_goals
        have HAT := aim (acp HAP.out HOK.out hat);have HB2 := aim (((HB.out.alloc HB.out.size (.cells #[.string (s.extract x2 x3)] 9)).drew).grown hgrow (by have := HB.out.size; simp; omega) (fun q hq => by have := (HOW.out.lt _ hq).1; omega));have HBK2 := aim ((((HBK.out.alloc (.cells #[.string (s.extract x2 x3)] 9)).drew).grown hgrow (fun he => by have := (HOW.out.lt _ he.symm).1; omega)).set_ 0 (.slice (some ⟨gg, 0, none⟩) (k + 1) cap'));have HOW2 := aim (il hown' 0 (.slice (some ⟨gg, 0, none⟩) (k + 1) cap'));have HOK2 := aim (il (mE ((HOK.out.alloc (.cells #[.string (s.extract x2 x3)] 9)).drew) HAP.out hgrow) 0 (.slice (some ⟨gg, 0, none⟩) (k + 1) cap'));have HLT := aim hlt'
        have hP2 : w1.heap.size < w2.heap.size := by have := HBK2.out.lt; simpa [World.setCell] using this
        have dk := HD0.out w2 HB2.out;clear hown' hgrow hat;go_wp2_with fail
        go_region_law
          ((refine step_append_lies _ (by rfl) _ _ _ (by rfl) (w1.heap.size + 1) 3 iI _ 1 8 Tryz.underlying87 hiI hzI0 hzI1 hzI2 rfl (by omega) vK k _ (by rfl) ((HOK2.out.alloc _).drew)
              ⟨w2.heap.size, 0, none⟩ 1 1 [.int .i64 x1] (by rfl) (by rfl) (World.news_of_block (cs := #[.int .i64 x1]) (t := 3) (fr := (0, 0)) (ae6 (by simp [World.setCell]) _)) (by simp [Value.oneCell'])
              (by omega) (by unfold maxLen; omega) (by omega) (by simp [World.setCell]; omega) (w2.heap.size + 1) (by simp [World.setCell]) ?_; intro g2 cap2 w4 hown2 hgrow2 hat2 hlt2; obtain ⟨⟨l0, l1, l2, l3⟩, v0, v1, v2, v3⟩ := (((HBK2.out.alloc _).drew).grown hgrow2 (fun he => by have := (HOK2.out.lt _ he.symm).1; omega)).all))
        all_goals
          have HTA2 := HTA.out
          have HW4 := aim (il (mE ((HOW2.out.alloc (.cells #[.int .i64 x1] 3)).drew) (fun x hx hy => by
            have hg : gg = x := by simpa [Value.ownBlock] using hy
            subst hg
            exact HAT.out hx) hgrow2) 1 (.slice (some ⟨g2, 0, none⟩) (k + 1) cap2))
          have HK4 := aim (il hown2 1 (.slice (some ⟨g2, 0, none⟩) (k + 1) cap2));have HBK4 := aim ((((HBK2.out.alloc (.cells #[.int .i64 x1] 3)).drew).grown hgrow2 (fun he => by have := (HOK2.out.lt _ he.symm).1; omega)).set_ 1 (.slice (some ⟨g2, 0, none⟩) (k + 1) cap2));have HB4 := aim (((((HB2.out.setCell (p := ⟨w1.heap.size, 0, none⟩) (ain _) (.slice (some ⟨gg, 0, none⟩) (k + 1) cap')).alloc (by have := HB2.out.size; simpa [World.setCell] using this) (.cells #[.int .i64 x1] 3)).drew).grown hgrow2 (by have := HB2.out.size; simp [World.setCell]; omega) (fun q hq => by have := (HOK2.out.lt _ hq).1; omega)).setCell (p := ⟨w1.heap.size, 1, none⟩) (ain _) (.slice (some ⟨g2, 0, none⟩) (k + 1) cap2))
          have HNE := aim (show ¬ g2 = gg from fun he => by
            subst he
            rcases hat2 with h | h
            · exact HAT.out h
            · have := HLT.out; omega)
          clear hown2 hgrow2 hat2 hlt2;go_wp2;go_roundw
          case rel =>
            refine ⟨k + 1, _, _, by go_num, by rw [htl]; omega, HBK4.out, ?_, ?_, ?_, HB4.out⟩
            · rw [HTA2, List.map_append, fB]; exact HW4.out
            · rw [HTA2, List.map_append, List.map_append]; exact HK4.out
            · intro x hx hy
              simp only [Value.ownBlock, Option.some.injEq] at hx hy;exact HNE.out (hy.trans hx.symm)
          case measure => simp [intOf]; omega
    · obtain rfl : k = (aV s).length := by omega
      have hkk : (cS s).take (aV s).length = cS s := by rw [← htl]; exact List.take_length
      have HRT := aim (show RowTk wr vW vK (cS s) from RowTk.of_own (by have := HOW.out; rw [hkk] at this; rw [htl]; exact this) (by have := HOK.out; rw [hkk] at this; rw [htl]; exact this));have HBW := aim (HP.out wr HB.out);obtain ⟨⟨wa, wn, wc, rfl⟩, ⟨ka, kn, kc, rfl⟩⟩ := HRT.out.sl;clear HOW HOK HAP
      have hbk : ¬ ((aV s).length : Int) < ((aV s).length : Int) := by omega
      cases hok : okT s with
      | false =>
        have HNO := aim (agu (s := s) (by rw [aV, hok]; rfl));clear hok;go_wp2;go_ret2;refine ⟨HBW.out.alloc HBW.out.size _, .inr ⟨⟨_, rfl, ?_⟩, HNO.out⟩⟩;exact agv rfl HBW.out.size
      | true =>
        clear hok;have hsz := nu s;go_wp2_with fail;refine ((show Calls Tryz.prog 109 #[.agg #[.slice wa wn wc, .slice ka kn kc, .int .i64 0, .int .i64 0]] _ _ from (ah0 (cS s) (by rw [htl]; omega) hsz.1 hsz.2 (10 * (cS s).length + 8)).choice 0 0 _ _ _ (air _) (by omega) (by omega) HRT.out)).mono ?_;rintro e w5 ⟨v2, W2, K2, l, q, d2, ok2, ⟨⟨aw2, nw2, cw2, rfl⟩, ⟨ak2, nk2, ck2, rfl⟩⟩, rfl, ho2, hlq2, hq2, hb5, hres⟩;have HB5 := aim (HBW.out.trans (hb5.mono HBW.out.size));have HO5 := aim ho2; have HRES := aim hres;clear ho2 hb5 hres
        cases ok2 with
        | false =>
          have HNO := aim (show ∀ c, ¬ SpOK s c from fun c hc => (HRES.out.elim (fun ⟨a, _⟩ => by cases a) (fun ⟨_, b⟩ => b) : NoRd (cS s) .choice 0 0) ⟨c, _, _, hc.1, hc.some, by omega⟩);clear HRES;go_wp2;go_ret2;refine ⟨(HB5.out.alloc HB5.out.size _).alloc (by have := HB5.out.size; simp; omega) _, .inr ⟨⟨_, rfl, ?_⟩, HNO.out⟩⟩;exact agv (by simp) (by have := HB5.out.size; simp; omega)
        | true =>
          obtain ⟨-, hW, hK, hd2, hrd⟩ := HRES.out.resolve_right (fun h => by cases h.1);simp only [Value.slice.injEq] at hW hK;obtain ⟨rfl, rfl, rfl⟩ := hW;obtain ⟨rfl, rfl, rfl⟩ := hK;obtain ⟨⟨wo, wcap, hv, -⟩, -⟩ := HRT.out;simp only [Value.slice.injEq] at hv;obtain ⟨rfl, rfl, rfl⟩ := hv;have HRD := aim hrd;clear HRES hrd hd2
          have hl20 : l.length ≤ 20000 := by omega
          by_cases hql : q = (cS s).length
          · subst hql
            have HSH := aim (wF HRD.out);have HOA := aim (HO5.out.alloc (.cells #[.slice aw2 (aV s).length cw2, .slice ak2 nk2 ck2, .int .i64 ((aV s).length : Int), .int .i64 d2] 135));have HWR := aim (HBW.out.size);have HRW := aim (((RowC.of_own HO5.out).1).mono ((Below.refl w5.heap.size w5).alloc (ain _) (.cells #[.slice aw2 (aV s).length cw2, .slice ak2 nk2 ck2, .int .i64 ((aV s).length : Int), .int .i64 d2] 135)));have HB6 := aim (HB5.out.alloc HB5.out.size (.cells #[.slice aw2 (aV s).length cw2, .slice ak2 nk2 ck2, .int .i64 ((aV s).length : Int), .int .i64 d2] 135));clear HO5 HB5;go_wp2_with fail;refine (kC v2 l _ HRW.out HSH.out (by omega)).mono ?_;rintro e w7 ⟨rfl, hb7⟩;have HB7 := aim (HB6.out.trans (hb7.mono HB6.out.size)); have HR7 := aim (ba (base' := w.heap.size) (cY HOA.out hb7) (fun g hg => Nat.le_trans HWR.out (HOA.out.lt g hg).1));clear hb7
            cases hoe : okE l with
            | true =>
              have HSP := aim (show SpOK s l from ⟨HRD.out, hoe⟩);clear hoe;go_wp2;go_ret2;exact ⟨HB7.out, .inl ⟨_, l, rfl, HSP.out, HR7.out, HSP.out.some.1⟩⟩
            | false =>
              have HNO := aim (show ∀ c, ¬ SpOK s c from fun c hc => by
                obtain ⟨rfl, -⟩ := HRD.out.uniq hc.1;have := hc.2
                rw [hoe] at this; cases this)
              clear hoe;go_wp2;go_ret2;refine ⟨HB7.out.alloc HB7.out.size _, .inr ⟨⟨_, rfl, ?_⟩, HNO.out⟩⟩;exact agv rfl HB7.out.size
          · have hqn : ((q : Int) != ((cS s).length : Int)) = true := by simp; omega
            have hqn2 : ((q : Int) == ((cS s).length : Int)) = false := by simp; omega
            have HNO := aim (show ∀ c, ¬ SpOK s c from fun c hc => by
              obtain ⟨-, h, -⟩ := HRD.out.uniq hc.1
              exact hql h)
            go_wp2;go_ret2;refine ⟨(HB5.out.alloc HB5.out.size _).alloc (by have := HB5.out.size; simp; omega) _, .inr ⟨⟨_, rfl, ?_⟩, HNO.out⟩⟩;exact agv (by simp) (by have := HB5.out.size; simp; omega)
end Go.Proofs.YthijkjnngfnfdaaGreatDoor
