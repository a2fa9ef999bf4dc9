/-
  spec.l10Binary: equality; texts; lists; no answer.
-/
import Derived.Test.YthillfgjpalpcaaGreatDoorBinN
set_option linter.unusedVariables false
set_option maxHeartbeats 4000000
set_option maxRecDepth 100000
namespace Go.Proofs.YthillfgjpalpcaaGreatDoor
open Go.RowKit
theorem conSS {w w':World} {base b2:Nat} {v1 v2 v':Value} {us1 us2:List Value} {ls1 ls2:List (List Cl)} (h1:OwnSS w base v1 us1 ls1) (h2:OwnSS w b2 v2 us2 ls2) (hlt: ∀g,v1.ownBlock=some g→g<b2)
  (hg:w.grownBy w' v1.ownBlock) (ho:w'.ownsRow base 26 1 v' (ls1.length+ls2.length) (us1++us2)):RowLs w' v' (ls1++ls2):=by
 have key: ∀(us:List Value) (ls:List (List Cl)),us.length=ls.length→(∀(k:Nat) (h:k<us.length) (h':k<ls.length),RowC w' us[k] ls[k])→RowsC w' us ls:=by
  intro us
  induction us with
  |nil=>intro ls h _;cases ls with
   |nil=>trivial
   |cons a t=>simp at h
  |cons u us ih=>intro ls h hh;cases ls with
   |nil=>simp at h
   |cons a t=>exact ⟨hh 0 (by simp) (by simp),ih t (by simpa using h) (fun k h1 h2=>by have:=hh (k+1) (by simpa using h1) (by simpa using h2);simpa using this)⟩
 have l1:=h1.len;have l2:=h2.len
 refine (RowLs.of_own ho (key _ _ (by simp [l1,l2]) fun k hk hk'=> ?_)).1
 by_cases hlt1:k<us1.length
 ·rw [List.getElem_append_left hlt1,List.getElem_append_left (by omega)]
  exact (RowC.of_own (own_keep (h1.each k hlt1 (by omega)) (fun g hgv=>hg.block g ((h1.each k hlt1 (by omega)).lt g hgv).2 (fun he=>h1.far k hlt1 g hgv he.symm)))).1
 ·rw [List.getElem_append_right (by omega),List.getElem_append_right (by omega)]
  have hk2:k-us1.length<us2.length:=by simp at hk;omega
  have hk2':k-us1.length<ls2.length:=by omega
  have e:ls2[k-ls1.length]'(by omega)=ls2[k-us1.length]:=by simp [l1]
  rw [e]
  exact (RowC.of_own (own_keep (h2.each _ hk2 hk2') (fun g hgv=>hg.block g ((h2.each _ hk2 hk2').lt g hgv).2 (fun he=>by
   have:=hlt g he.symm
   have:=((h2.each _ hk2 hk2').lt g hgv).1
   omega)))).1
theorem bin_eq (s:ByteArray) (a b:Value) (la lb:List Cl) (w:World) (hra:RowC w a la) (hrb:RowC w b lb) (hs:s.toList=[61,61]):
  Calls Tryz.prog 70 #[.string s,a,b] w (NewCB (truV (decide (la=lb))) true w):=by
 have HN:=zz (l8Same_any a b la lb w hra hrb)
 have e1: ¬s.toList=[33,61]:=by rw [hs];decide
 have e2: ¬s.toList=[43]:=by rw [hs];decide
 have e3: ¬s.toList=[45]:=by rw [hs];decide
 have e4: ¬s.toList=[42]:=by rw [hs];decide
 have e5: ¬s.toList=[47]:=by rw [hs];decide
 have e6: ¬s.toList=[37]:=by rw [hs];decide
 have e7: ¬s.toList=[60]:=by rw [hs];decide
 have e8: ¬s.toList=[60,61]:=by rw [hs];decide
 have e9: ¬s.toList=[62]:=by rw [hs];decide
 have e10: ¬s.toList=[62,61]:=by rw [hs];decide
 clear hra hrb
 cases hd:decide (la=lb)
 all_goals
  rw [hd] at HN
  go_enter Tryz.func70,Tryz.ntmps70
  go_wp2_with fail
  refine HN.out.mono ?_
  rintro e w1 ⟨rfl,hb1⟩
  have HB1:=zz hb1;clear hb1
  go_wp2_with fail
  refine (l9Truth_any _ _).mono ?_
  rintro e w4 ⟨u,rfl,hown,hb4⟩
  have HO:=zz (own_base (base':=w.heap.size) hown (fun g hg=>Nat.le_trans HB1.out.size (hown.lt g hg).1))
  have HB4:=zz (HB1.out.trans (hb4.mono HB1.out.size))
  clear hown hb4
  go_wp2
  exact bodyPost_ret (v:= .tuple #[u, .bool true]) (by simp [results,Tryz.results70,go_sem]) rfl ⟨u,rfl,HO.out,HB4.out⟩
theorem bin_ne (s:ByteArray) (a b:Value) (la lb:List Cl) (w:World) (hra:RowC w a la) (hrb:RowC w b lb) (hs:s.toList=[33,61]):
  Calls Tryz.prog 70 #[.string s,a,b] w (NewCB (truV (!decide (la=lb))) true w):=by
 have HN:=zz (l8Same_any a b la lb w hra hrb)
 have e1: ¬s.toList=[61,61]:=by rw [hs];decide
 have e2: ¬s.toList=[43]:=by rw [hs];decide
 have e3: ¬s.toList=[45]:=by rw [hs];decide
 have e4: ¬s.toList=[42]:=by rw [hs];decide
 have e5: ¬s.toList=[47]:=by rw [hs];decide
 have e6: ¬s.toList=[37]:=by rw [hs];decide
 have e7: ¬s.toList=[60]:=by rw [hs];decide
 have e8: ¬s.toList=[60,61]:=by rw [hs];decide
 have e9: ¬s.toList=[62]:=by rw [hs];decide
 have e10: ¬s.toList=[62,61]:=by rw [hs];decide
 clear hra hrb
 cases hd:decide (la=lb)
 all_goals
  rw [hd] at HN
  go_enter Tryz.func70,Tryz.ntmps70
  go_wp2_with fail
  refine HN.out.mono ?_
  rintro e w1 ⟨rfl,hb1⟩
  have HB1:=zz hb1;clear hb1
  go_wp2_with fail
  refine (l9Truth_any _ _).mono ?_
  rintro e w4 ⟨u,rfl,hown,hb4⟩
  have HO:=zz (own_base (base':=w.heap.size) hown (fun g hg=>Nat.le_trans HB1.out.size (hown.lt g hg).1))
  have HB4:=zz (HB1.out.trans (hb4.mono HB1.out.size))
  clear hown hb4
  go_wp2
  exact bodyPost_ret (v:= .tuple #[u, .bool true]) (by simp [results,Tryz.results70,go_sem]) rfl ⟨u,rfl,HO.out,HB4.out⟩
theorem bin_noneO (s:ByteArray) (a b:Value) (la lb:List Cl) (w:World) (hra:RowC w a la) (hrb:RowC w b lb) (ha:okV la=true) (hb:okV lb=true) (h:kdV la≠1∨kdV lb≠1) (e1: ¬s.toList=[61,61]) (e2: ¬s.toList=[33,61]) (e3: ¬s.toList=[43]):
  Calls Tryz.prog 70 #[.string s,a,b] w (NewCB [] false w):=by
 have HN:=zz (numbers_no a b la lb w hra hrb ha hb h)
 obtain ⟨b1,o1,c1,rfl,hl1,p0,p1,-⟩:=hra.headE (okV_len ha).1
 obtain ⟨b2,o2,c2,rfl,hl2,q0,q1,-⟩:=hrb.headE (okV_len hb).1
 have hp1:(0:Int)<(la.length:Int):=by have:=(okV_len ha).1;omega
 have hp2:(0:Int)<(lb.length:Int):=by have:=(okV_len hb).1;omega
 have f1:(s.toList==[61,61])=false:=beq_false_of_ne e1
 have f2:(s.toList==[33,61])=false:=beq_false_of_ne e2
 have f3:(s.toList==[43])=false:=beq_false_of_ne e3
 clear hra hrb ha hb h
 generalize la.length=n1 at hp1 HN
 generalize lb.length=n2 at hp2 HN
 go_enter Tryz.func70,Tryz.ntmps70
 go_wp2_with fail
 refine HN.out.mono ?_
 rintro e w1 ⟨rfl,hb1⟩
 have hw1:=hb1.size
 have HB2:=zz ((hb1.alloc hw1 (.cells #[.int .i64 0, .int .i64 0] 94)).alloc (by simp;omega) (.cells #[.int .i64 0, .int .i64 0] 94))
 clear hb1 p0 p1 q0 q1
 go_wp2
 exact bodyPost_ret (v:= .tuple #[.slice (some ⟨_,0,none⟩) 0 0, .bool false]) (by simp [results,Tryz.results70,go_sem];rfl) rfl (newCB_no HB2.out (by simp) rfl rfl)
theorem bin_none2 (s:ByteArray) (a b:Value) (la lb:List Cl) (w:World) (hra:RowC w a la) (hrb:RowC w b lb) (ha:okV la=true) (hb:okV lb=true) (h:kdV la≠1∨kdV lb≠1) (hs:s.toList=[43]) (h1:kdV la=2) (h2:(kdV lb==2)=false):
  Calls Tryz.prog 70 #[.string s,a,b] w (NewCB [] false w):=by
 have HN:=zz (numbers_no a b la lb w hra hrb ha hb h)
 obtain ⟨b1,o1,c1,rfl,hl1,p0,p1,-⟩:=hra.headE (okV_len ha).1
 obtain ⟨b2,o2,c2,rfl,hl2,q0,q1,-⟩:=hrb.headE (okV_len hb).1
 have hp1:(0:Int)<(la.length:Int):=by have:=(okV_len ha).1;omega
 have hp2:(0:Int)<(lb.length:Int):=by have:=(okV_len hb).1;omega
 have e1: ¬s.toList=[61,61]:=by rw [hs];decide
 have e2: ¬s.toList=[33,61]:=by rw [hs];decide
 rw [h1] at p0
 clear hra hrb ha hb h
 generalize la.length=n1 at hp1 HN
 generalize lb.length=n2 at hp2 HN
 generalize kdV lb=k2 at q0 h2
 go_enter Tryz.func70,Tryz.ntmps70
 go_wp2_with fail
 refine HN.out.mono ?_
 rintro e w1 ⟨rfl,hb1⟩
 have hw1:=hb1.size
 have HB2:=zz ((hb1.alloc hw1 (.cells #[.int .i64 0, .int .i64 0] 94)).alloc (by simp;omega) (.cells #[.int .i64 0, .int .i64 0] 94))
 clear hb1 p0 p1 q0 q1
 go_wp2
 exact bodyPost_ret (v:= .tuple #[.slice (some ⟨_,0,none⟩) 0 0, .bool false]) (by simp [results,Tryz.results70,go_sem];rfl) rfl (newCB_no HB2.out (by simp) rfl rfl)
theorem bin_none5 (s:ByteArray) (a b:Value) (la lb:List Cl) (w:World) (hra:RowC w a la) (hrb:RowC w b lb) (ha:okV la=true) (hb:okV lb=true) (h:kdV la≠1∨kdV lb≠1) (hs:s.toList=[43]) (h1:kdV la=5) (h2:(kdV lb==5)=false):
  Calls Tryz.prog 70 #[.string s,a,b] w (NewCB [] false w):=by
 have HN:=zz (numbers_no a b la lb w hra hrb ha hb h)
 obtain ⟨b1,o1,c1,rfl,hl1,p0,p1,-⟩:=hra.headE (okV_len ha).1
 obtain ⟨b2,o2,c2,rfl,hl2,q0,q1,-⟩:=hrb.headE (okV_len hb).1
 have hp1:(0:Int)<(la.length:Int):=by have:=(okV_len ha).1;omega
 have hp2:(0:Int)<(lb.length:Int):=by have:=(okV_len hb).1;omega
 have e1: ¬s.toList=[61,61]:=by rw [hs];decide
 have e2: ¬s.toList=[33,61]:=by rw [hs];decide
 rw [h1] at p0
 clear hra hrb ha hb h
 generalize la.length=n1 at hp1 HN
 generalize lb.length=n2 at hp2 HN
 generalize kdV lb=k2 at q0 h2
 go_enter Tryz.func70,Tryz.ntmps70
 go_wp2_with fail
 refine HN.out.mono ?_
 rintro e w1 ⟨rfl,hb1⟩
 have hw1:=hb1.size
 have HB2:=zz ((hb1.alloc hw1 (.cells #[.int .i64 0, .int .i64 0] 94)).alloc (by simp;omega) (.cells #[.int .i64 0, .int .i64 0] 94))
 clear hb1 p0 p1 q0 q1
 go_wp2
 exact bodyPost_ret (v:= .tuple #[.slice (some ⟨_,0,none⟩) 0 0, .bool false]) (by simp [results,Tryz.results70,go_sem];rfl) rfl (newCB_no HB2.out (by simp) rfl rfl)
theorem bin_noneP (s:ByteArray) (a b:Value) (la lb:List Cl) (w:World) (hra:RowC w a la) (hrb:RowC w b lb) (ha:okV la=true) (hb:okV lb=true) (h:kdV la≠1∨kdV lb≠1) (hs:s.toList=[43]) (h1:(kdV la==2)=false) (h2:(kdV la==5)=false):
  Calls Tryz.prog 70 #[.string s,a,b] w (NewCB [] false w):=by
 have HN:=zz (numbers_no a b la lb w hra hrb ha hb h)
 obtain ⟨b1,o1,c1,rfl,hl1,p0,p1,-⟩:=hra.headE (okV_len ha).1
 obtain ⟨b2,o2,c2,rfl,hl2,q0,q1,-⟩:=hrb.headE (okV_len hb).1
 have hp1:(0:Int)<(la.length:Int):=by have:=(okV_len ha).1;omega
 have hp2:(0:Int)<(lb.length:Int):=by have:=(okV_len hb).1;omega
 have e1: ¬s.toList=[61,61]:=by rw [hs];decide
 have e2: ¬s.toList=[33,61]:=by rw [hs];decide
 clear hra hrb ha hb h
 generalize la.length=n1 at hp1 HN
 generalize lb.length=n2 at hp2 HN
 generalize kdV la=k1 at p0 h1 h2
 go_enter Tryz.func70,Tryz.ntmps70
 go_wp2_with fail
 refine HN.out.mono ?_
 rintro e w1 ⟨rfl,hb1⟩
 have hw1:=hb1.size
 have HB2:=zz ((hb1.alloc hw1 (.cells #[.int .i64 0, .int .i64 0] 94)).alloc (by simp;omega) (.cells #[.int .i64 0, .int .i64 0] 94))
 clear hb1 p0 p1 q0 q1
 go_wp2
 exact bodyPost_ret (v:= .tuple #[.slice (some ⟨_,0,none⟩) 0 0, .bool false]) (by simp [results,Tryz.results70,go_sem];rfl) rfl (newCB_no HB2.out (by simp) rfl rfl)
theorem bin_text (s : ByteArray) (a b : Value) (la lb : List Cl) (w : World) (hra : RowC w a la) (hrb : RowC w b lb) (ha : okV la = true) (hb : okV lb = true) (h1 : kdV la = 2) (h2 : kdV lb = 2) (hs : s.toList = [43]) :
    Calls Tryz.prog 70 #[.string s, a, b] w (NewCB ((texO (wdV la ++ wdV lb)).getD []) (texO (wdV la ++ wdV lb)).isSome w) := by
  obtain ⟨b1, o1, c1, rfl, hl1, p0, p1, -⟩ := hra.headE (okV_len ha).1
  obtain ⟨b2, o2, c2, rfl, hl2, q0, q1, -⟩ := hrb.headE (okV_len hb).1
  have hp1 : (0 : Int) < (la.length : Int) := by have := (okV_len ha).1; omega
  have hp2 : (0 : Int) < (lb.length : Int) := by have := (okV_len hb).1; omega
  have e1 : ¬ s.toList = [61, 61] := by rw [hs]; decide
  have e2 : ¬ s.toList = [33, 61] := by rw [hs]; decide
  have hs1 := (okV_len ha).2
  have hs2 := (okV_len hb).2
  rw [h1] at p0; rw [h2] at q0
  clear hra hrb ha hb h1 h2
  obtain ⟨m1, hm1⟩ : ∃ m, la.length = m + 1 := ⟨la.length - 1, by omega⟩
  obtain ⟨m2, hm2⟩ : ∃ m, lb.length = m + 1 := ⟨lb.length - 1, by omega⟩
  rw [hm1] at hp1 ⊢; rw [hm2] at hp2 ⊢
  have hp3 : (0 : Int) < (m1 : Int) + 1 := by omega
  have hp4 : (0 : Int) < (m2 : Int) + 1 := by omega
  clear hm1 hm2
  have HWD := zz (show Below w.heap.size w w.drew from ⟨rfl, rfl, rfl, Nat.le_refl _, fun _ _ => rfl⟩)
  generalize wdV la = sa at p1 hs1
  generalize wdV lb = sb at q1 hs2
  have r1 : ¬ 9223372036854775807 < sa.size + sb.size := by omega
  have HT := zz (fun w' => l9Text_any (sa ++ sb) w' (by rw [ByteArray.size_append]; omega))
  generalize (texO (sa ++ sb)).isSome = ok at HT
  generalize (texO (sa ++ sb)).getD [] = r at HT
  go_enter Tryz.func70, Tryz.ntmps70
  go_wp2_with fail
  go_region_held3 (fun w' => w'.cell? ⟨b1, o1 + 1, none⟩ = some (.string sa) ∧ w'.cell? ⟨b2, o2 + 1, none⟩ = some (.string sb))
    (first
      | go_keep
      | (go_split_ands
         refine ⟨?_, ?_⟩
         · (rw [hb2.cell (by exact hl1)]; assumption)
         · (rw [hb2.cell (by exact hl2)]; assumption)))
    ((go_at_call 97; refine (HT.out _).mono ?_; rintro e w2 ⟨u, rfl, hown, hb2⟩))
  all_goals
    have HO := zz hown
    have HB2 := zz (HWD.out.trans hb2)
    clear hown hb2
    go_wp2
    exact bodyPost_ret (v := .tuple #[u, .bool ok]) (by simp [results, Tryz.results70, go_sem]) rfl ⟨u, rfl, HO.out, HB2.out⟩
theorem parts_fact {l:List Cl} (hok:okV l=true) (h5:kdV l=5):(∀p∈partsV l,okV p=true)∧(partsV l).length≤8∧lenSS (partsV l)≤60:=by
 obtain ⟨c,t,hl⟩:=okV_cons hok
 have hc5:c.1=5:=by rw [←(kd_cons c t).1,←hl];exact h5
 obtain ⟨k1,k2,k3⟩:=list_partsV hok hl hc5
 have h60:=((okV_iff l).mp hok).1
 have hm:=many9 hok
 have h8:myV l=c.2.2:=by rw [hl];rfl
 have hlen:=listV_len (partsV l)
 rw [k1] at hlen
 exact ⟨k2,by omega,by omega⟩
theorem own_one {w:World} {base:Nat} {v:Value} {us:List Value} {ls:List (List Cl)} (h:OwnSS w base v us ls): ∀u∈us,u.oneCell'=true:=by
 intro u hu
 obtain ⟨k,hk,rfl⟩:=List.mem_iff_getElem.mp hu
 obtain ⟨a,c,he⟩:=own_shape (h.each k hk (by rw [←h.len];exact hk))
 rw [he];rfl
theorem lisE_one (ls:List (List Cl)):(lisO ls).getD []=oneR ls∧(lisO ls).isSome=okV (listV ls):=by
 unfold lisO oneR
 by_cases h:okV (listV ls)=true
 ·rw [if_pos h,if_pos h,h];exact ⟨rfl,rfl⟩
 ·rw [if_neg h,if_neg h];exact ⟨rfl,by rw [Bool.not_eq_true] at h;rw [h];rfl⟩
theorem lenSS_app (a b:List (List Cl)):lenSS (a++b)=lenSS a+lenSS b:=by simp [lenSS]
theorem infoCSB:(Tryz.prog.info? 26).map (fun i=>(i.zero,i.size,i.bytes))=some (some (.slice none 0 0),1,24):=by kernel_rfl
theorem bin_list (s:ByteArray) (a b:Value) (la lb:List Cl) (w:World) (hra:RowC w a la) (hrb:RowC w b lb) (ha:okV la=true) (hb:okV lb=true) (h1:kdV la=5) (h2:kdV lb=5) (hs:s.toList=[43]):
  Calls Tryz.prog 70 #[.string s,a,b] w (NewCB ((lisO (partsV la++partsV lb)).getD []) (lisO (partsV la++partsV lb)).isSome w):=by
 obtain ⟨j0,hj,hy0,hy1,hy2⟩:=info_parts infoCSB
 have HPA:=zz (l8Parts_val a la w hra ha h1)
 have HPB:=zz (fun w' (h:Below w.heap.size w w')=>l8Parts_val b lb w' (hrb.mono h) hb h2)
 obtain ⟨k1,k2,k3⟩:=parts_fact ha h1
 obtain ⟨k4,k5,k6⟩:=parts_fact hb h2
 have HSH:=zz (show∀l∈partsV la++partsV lb,ShortC l from fun l hl=>okV_short ((List.mem_append.mp hl).elim (k1 l) (k4 l)))
 have HLE:=zz (show (partsV la++partsV lb).length+lenSS (partsV la++partsV lb)≤1048576 by rw [lenSS_app,List.length_append];omega)
 rw [(lisE_one _).1,(lisE_one _).2]
 obtain ⟨b1,o1,c1,rfl,hl1,p0,p1,-⟩:=hra.headE (okV_len ha).1
 obtain ⟨b2,o2,c2,rfl,hl2,q0,q1,-⟩:=hrb.headE (okV_len hb).1
 have hp1:(0:Int)<(la.length:Int):=by have:=(okV_len ha).1;omega
 have hp2:(0:Int)<(lb.length:Int):=by have:=(okV_len hb).1;omega
 have e1: ¬s.toList=[61,61]:=by rw [hs];decide
 have e2: ¬s.toList=[33,61]:=by rw [hs];decide
 rw [h1] at p0;rw [h2] at q0
 clear hra hrb ha hb h1 h2 k1 k4 k3 k6
 generalize partsV la=xs at*
 generalize partsV lb=ys at*
 generalize la.length=n1 at hp1 HPA
 generalize lb.length=n2 at hp2 HPB
 go_enter Tryz.func70,Tryz.ntmps70
 go_wp2_with fail
 refine HPA.out.mono ?_
 rintro e w1 ⟨v1,us1,rfl,hS1,hb1⟩
 have HS1:=zz hS1;have HB1:=zz hb1
 clear hS1 hb1 p0 q0
 go_wp2_with fail
 refine (HPB.out _ HB1.out).mono ?_
 rintro e w2 ⟨v2,us2,rfl,hS2,hb2⟩
 have HS2:=zz hS2
 have HB2:=zz (HB1.out.trans (hb2.mono HB1.out.size))
 have HS3:=zz (HS1.out.below hb2)
 have HLT:=zz (fun g (hg:v1.ownBlock=some g)=>(HS1.out.row.lt g hg).2)
 clear hb2 hS2
 go_wp2_with (at_builtin;refine append_rows rfl _ _ 99 rfl w.heap.size 26 j0 (.slice none 0 0) 1 24 Tryz.underlying99 hj hy0 hy1 hy2 rfl (by decide) _ _ _ rfl HS3.out.row _ _ _ _ rfl HS2.out.row (own_one HS2.out) (by unfold maxLen;omega) (by omega) HB2.out.size ?_;intro v6 w6 hown6 hgrow6;have HR6:=zz (conSS HS3.out HS2.out HLT.out hgrow6 hown6);have HB6:=zz (HB2.out.grown hgrow6 HB2.out.size (fun q hq=>(HS3.out.row.lt q hq).1));clear hown6 hgrow6)
 refine (l8List_any _ _ _ HR6.out HSH.out HLE.out).mono ?_
 rintro e w7 ⟨u,rfl,hown,hb7⟩
 have HO:=zz (own_base (base':=w.heap.size) hown (fun g hg=>Nat.le_trans HB6.out.size (hown.lt g hg).1))
 have HB7:=zz (HB6.out.trans (hb7.mono HB6.out.size))
 clear hown hb7
 go_wp2
 exact bodyPost_ret (v:= .tuple #[u, .bool (okV (listV (xs++ys)))]) (by simp [results,Tryz.results70,go_sem]) rfl ⟨u,rfl,HO.out,HB7.out⟩
end Go.Proofs.YthillfgjpalpcaaGreatDoor
