/-
  Part of the proof of FnItemLine.
-/
import Derived.Test.YthijkjnngfnfdaaGreatDoorQIab
import Derived.Test.YthijkjnngfnfdaaGreatDoorDrawItem
import Derived.Test.YthijkjnngfnfdaaGreatDoorLineI
set_option linter.unusedVariables false
set_option maxHeartbeats 8000000
set_option maxRecDepth 100000
namespace Go.Proofs.YthijkjnngfnfdaaGreatDoor
open Go.RowKit
theorem txt_any {u:Value} {l:List Cl} (hok:okE l=true) (w:World) (hr:RowC w u l):
  Calls Tryz.prog 89 #[u, .int .i64 0] w fun e w'=>e= .returned (.string ⟨(textE l).toArray⟩)∧Below w.heap.size w w':=by
 obtain ⟨x,hx⟩:=okE_tx hok
 have hoi:=(okE_iff l).mp hok
 rw [textE_of hok hx]
 exact text_all hoi.1 (allW_of hoi.2.1) l.length 0 l.length x w hx (by omega) hr
theorem em_no {s:ByteArray} (h:emB s=false):(s.toList==[])=false∧(s.toList !=[])=true:=by
 have: ¬s.toList=[]:=by
  intro k
  rw [ByteArray.toList_eq] at k
  have h2:s.size=0:=by rw [←ByteArray.size_data,←Array.length_toList,k];rfl
  rw [emB,h2] at h;cases h
 exact ⟨beq_eq_false_iff_ne.mpr this,bne_iff_ne.mpr this⟩
theorem em_yes {s:ByteArray} (h:emB s=true):(s.toList !=[])=false:=by rw [bne,(em_t h).1];rfl
theorem line_spec (i : It) (u : Value) (deep W : Nat) (w : World) (hv : itemB i = true) (hr : RowC w u i.2.2.1) (hn : i.2.1.size ≤ 1048576) (ht : i.2.2.2.size ≤ 1048576) (hd : deep ≤ 4) (hW : W ≤ 1000) :
    Calls Tryz.prog 45 #[.agg #[.int .i64 i.1, .string i.2.1, u, .string i.2.2.2], .int .i64 (deep : Int), .int .i64 (W : Int)] w fun e w' => e = .returned (.string (baL (lineI i deep W))) ∧ Below w.heap.size w w' := by
  obtain ⟨k, n, l, t⟩ := i
  simp only at hr hn ht ⊢
  have HV := Lib.hid hv; clear hv
  have HR := Lib.hid hr
  obtain ⟨ao, cap, rfl, hc1, h2, h3⟩ := hr
  clear h3
  unfold maxLen at h2
  have hto : (2 * (deep : Int)).toNat = 2 * deep := by omega
  have HB1 := Lib.hid ((Below.refl w.heap.size w).alloc (Nat.le_refl _) (.cells #[.int .i64 k, .string n, .slice ao l.length cap, .string t] 25))
  have hss := sp_size (2 * deep)
  obtain ⟨S, HS, hS⟩ : ∃ S : ByteArray, Hid (baL (spL (2 * deep)) = S) ∧ S.size = 2 * deep := ⟨_, Lib.hid rfl, hss⟩
  clear hss
  by_cases h1 : k = 1
  · subst h1
    have HL := Lib.hid (show baL (lineI (1, n, l, t) deep W) = ⟨#[]⟩ from ba_eq (by simp [lineI, baL]))
    go_enter Tryz.func45, Tryz.ntmps45
    go_wp2_with fail
    refine (spaces_spec _ _ (by omega)).mono ?_
    rintro e w1 ⟨rfl, hw1⟩
    subst hw1
    rw [hto, HS.out]
    go_wp2
    go_ret
    exact ⟨by rw [HL.out]; rfl, HB1.out⟩
  by_cases h5 : k = 5
  · subst h5
    have HL := Lib.hid (show baL (lineI (5, n, l, t) deep W) = S ++ ⟨#[125]⟩ from by rw [← HS.out]; exact ba_eq (by simp [lineI, coreI, baL]))
    have r0 : ¬ 9223372036854775807 < S.size + 1 := by omega
    go_enter Tryz.func45, Tryz.ntmps45
    go_wp2_with fail
    refine (spaces_spec _ _ (by omega)).mono ?_
    rintro e w1 ⟨rfl, hw1⟩
    subst hw1
    rw [hto, HS.out]
    go_wp2
    go_ret
    exact ⟨by rw [HL.out]; rfl, HB1.out⟩
  by_cases h4 : k = 4
  · subst h4
    have HL := Lib.hid (show baL (lineI (4, n, l, t) deep W) = S ++ n ++ ⟨#[32, 123]⟩ from by rw [← HS.out]; exact ba_eq (by simp [lineI, coreI, baL]))
    have r0 : ¬ 9223372036854775807 < S.size + n.size := by omega
    have r1 : ¬ 9223372036854775807 < S.size + n.size + 2 := by omega
    go_enter Tryz.func45, Tryz.ntmps45
    go_wp2_with fail
    refine (spaces_spec _ _ (by omega)).mono ?_
    rintro e w1 ⟨rfl, hw1⟩
    subst hw1
    rw [hto, HS.out]
    go_wp2
    go_ret
    exact ⟨by rw [HL.out]; rfl, HB1.out⟩
  cases hem : emB t with
  | true =>
    have e1 := (em_t hem).1
    have e2 := em_yes hem
    have HEM := Lib.hid hem; clear hem
    by_cases hk2 : k = 2
    · subst hk2
      have HL := Lib.hid (show baL (lineI (2, n, l, t) deep W) = S ++ ⟨#[35]⟩ from by rw [← HS.out]; exact ba_eq (by simp [lineI, coreI, baL, HEM.out]))
      have r0 : ¬ 9223372036854775807 < S.size + 1 := by omega
      go_enter Tryz.func45, Tryz.ntmps45
      go_wp2_with fail
      refine (spaces_spec _ _ (by omega)).mono ?_
      rintro e w1 ⟨rfl, hw1⟩
      subst hw1
      rw [hto, HS.out]
      go_wp2
      go_ret
      exact ⟨by rw [HL.out]; rfl, HB1.out⟩
    · skip
      have hk3 : k = 3 := by
        have := HV.out
        unfold itemB at this
        simp only at this
        rw [if_neg (by omega), if_neg hk2] at this
        by_cases h : k = 3
        · exact h
        · rw [if_neg h, if_neg h4] at this; cases this
      subst hk3
      have hoe : okE l = true := by
        have := HV.out
        simp only [itemB] at this
        simp at this
        exact this.2.1
      obtain ⟨P, HP, hP⟩ : ∃ P : ByteArray, Hid (baL (spL (W - n.size)) = P) ∧ P.size = W - n.size := ⟨_, Lib.hid rfl, sp_size _⟩
      obtain ⟨X, HX, hX⟩ : ∃ X : ByteArray, Hid ((⟨(textE l).toArray⟩ : ByteArray) = X) ∧ X.size ≤ 12000 := ⟨_, Lib.hid rfl, textE_len l⟩
      have HSP := Lib.hid (show ∀ w', Calls Tryz.prog 88 #[.int .i64 (IntKind.i64.wrap ((W : Int) - (n.size : Int)))] w' (fun e w2 => e = .returned (.string P) ∧ w' = w2) from fun w' => by
        rw [show IntKind.i64.wrap ((W : Int) - (n.size : Int)) = (W : Int) - (n.size : Int) from IntWalk.i64_in _ (by omega), ← HP.out, show W - n.size = ((W : Int) - (n.size : Int)).toNat by omega]
        exact spaces_spec _ w' (by omega))
      have hp2 : P.size ≤ 1000 := by omega
      have HL := Lib.hid (show baL (lineI (3, n, l, t) deep W) = S ++ n ++ P ++ ⟨#[32, 61, 32]⟩ ++ X from by rw [← HS.out, ← HP.out, ← HX.out]; exact ba_eq (by simp [lineI, coreI, baL, HEM.out]))
      have HTX := Lib.hid (fun w' hr' => txt_any (u := .slice ao l.length cap) hoe w' hr')
      have HRB := Lib.hid (HR.out.mono HB1.out)
      have HRD := Lib.hid (show RowC (w.alloc (.cells #[.int .i64 3, .string n, .slice ao l.length cap, .string t] 25)).drew (.slice ao l.length cap) l from HRB.out.drewN 1)
      have r0 : ¬ 9223372036854775807 < S.size + n.size := by omega
      have r1 : ¬ 9223372036854775807 < S.size + n.size + P.size := by omega
      have r2 : ¬ 9223372036854775807 < S.size + n.size + P.size + 3 := by omega
      have r3 : ¬ 9223372036854775807 < S.size + n.size + P.size + 3 + X.size := by omega
      have hlt : w.heap.size < (w.alloc (.cells #[.int .i64 3, .string n, .slice ao l.length cap, .string t] 25)).drew.heap.size := by simp
      clear h4 hk2 h5 h1
      go_enter Tryz.func45, Tryz.ntmps45
      go_wp2_with fail
      refine (spaces_spec _ _ (by omega)).mono ?_
      rintro e w1 ⟨rfl, hw1⟩
      subst hw1
      rw [hto, HS.out]
      clear hS hP hp2 hX hto h2 hc1 ht
      go_wp2_with fail
      go_region_held3 (fun w' => w'.cell? ⟨w.heap.size, 1, none⟩ = some (.string n) ∧ w'.cell? ⟨w.heap.size, 2, none⟩ = some (.slice ao l.length cap) ∧ w'.cell? ⟨w.heap.size, 3, none⟩ = some (.string t))
        (first
          | go_keep
          | (go_split_ands
             refine ⟨?_, ?_, ?_⟩
             · (rw [hb3.cell (by exact hlt)]; assumption)
             · (rw [hb3.cell (by exact hlt)]; assumption)
             · (rw [hb3.cell (by exact hlt)]; assumption)))
        (first
          | ((go_at_call 88; (with_reducible refine (HSP.out _).mono ?_); rintro e w2 ⟨rfl, hw2⟩; subst hw2))
          | ((go_at_call 89; (with_reducible refine (HTX.out _ HRD.out).mono ?_); rintro e w3 ⟨rfl, hb3⟩; rw [HX.out])))
      all_goals
        have HB3 := Lib.hid (HB1.out.drew.trans (hb3.mono HB1.out.size)); clear hb3
        go_wp2
        go_ret
        exact ⟨by rw [HL.out]; rfl, HB3.out⟩
  | false =>
    obtain ⟨e1, e2⟩ := em_no hem
    have HEM := Lib.hid hem; clear hem
    by_cases hk2 : k = 2
    · subst hk2
      have HL := Lib.hid (show baL (lineI (2, n, l, t) deep W) = S ++ ⟨#[35]⟩ ++ ⟨#[32]⟩ ++ t from by rw [← HS.out]; exact ba_eq (by simp [lineI, coreI, baL, HEM.out]))
      have r0 : ¬ 9223372036854775807 < S.size + 1 := by omega
      have r1 : ¬ 9223372036854775807 < S.size + 1 + 1 := by omega
      have r2 : ¬ 9223372036854775807 < S.size + 1 + 1 + t.size := by omega
      go_enter Tryz.func45, Tryz.ntmps45
      go_wp2_with fail
      refine (spaces_spec _ _ (by omega)).mono ?_
      rintro e w1 ⟨rfl, hw1⟩
      subst hw1
      rw [hto, HS.out]
      go_wp2
      go_ret
      exact ⟨by rw [HL.out]; rfl, HB1.out⟩
    · skip
      have hk3 : k = 3 := by
        have := HV.out
        unfold itemB at this
        simp only at this
        rw [if_neg (by omega), if_neg hk2] at this
        by_cases h : k = 3
        · exact h
        · rw [if_neg h, if_neg h4] at this; cases this
      subst hk3
      have hoe : okE l = true := by
        have := HV.out
        simp only [itemB] at this
        simp at this
        exact this.2.1
      obtain ⟨P, HP, hP⟩ : ∃ P : ByteArray, Hid (baL (spL (W - n.size)) = P) ∧ P.size = W - n.size := ⟨_, Lib.hid rfl, sp_size _⟩
      obtain ⟨X, HX, hX⟩ : ∃ X : ByteArray, Hid ((⟨(textE l).toArray⟩ : ByteArray) = X) ∧ X.size ≤ 12000 := ⟨_, Lib.hid rfl, textE_len l⟩
      have HSP := Lib.hid (show ∀ w', Calls Tryz.prog 88 #[.int .i64 (IntKind.i64.wrap ((W : Int) - (n.size : Int)))] w' (fun e w2 => e = .returned (.string P) ∧ w' = w2) from fun w' => by
        rw [show IntKind.i64.wrap ((W : Int) - (n.size : Int)) = (W : Int) - (n.size : Int) from IntWalk.i64_in _ (by omega), ← HP.out, show W - n.size = ((W : Int) - (n.size : Int)).toNat by omega]
        exact spaces_spec _ w' (by omega))
      have hp2 : P.size ≤ 1000 := by omega
      have HL := Lib.hid (show baL (lineI (3, n, l, t) deep W) = S ++ n ++ P ++ ⟨#[32, 61, 32]⟩ ++ X ++ ⟨#[32, 35]⟩ ++ ⟨#[32]⟩ ++ t from by rw [← HS.out, ← HP.out, ← HX.out]; exact ba_eq (by simp [lineI, coreI, baL, HEM.out]))
      have HTX := Lib.hid (fun w' hr' => txt_any (u := .slice ao l.length cap) hoe w' hr')
      have HRB := Lib.hid (HR.out.mono HB1.out)
      have HRD := Lib.hid (show RowC (w.alloc (.cells #[.int .i64 3, .string n, .slice ao l.length cap, .string t] 25)).drew (.slice ao l.length cap) l from HRB.out.drewN 1)
      have r0 : ¬ 9223372036854775807 < S.size + n.size := by omega
      have r1 : ¬ 9223372036854775807 < S.size + n.size + P.size := by omega
      have r2 : ¬ 9223372036854775807 < S.size + n.size + P.size + 3 := by omega
      have r3 : ¬ 9223372036854775807 < S.size + n.size + P.size + 3 + X.size := by omega
      have r4 : ¬ 9223372036854775807 < S.size + n.size + P.size + 3 + X.size + 2 := by omega
      have r5 : ¬ 9223372036854775807 < S.size + n.size + P.size + 3 + X.size + 2 + 1 := by omega
      have r6 : ¬ 9223372036854775807 < S.size + n.size + P.size + 3 + X.size + 2 + 1 + t.size := by omega
      have hlt : w.heap.size < (w.alloc (.cells #[.int .i64 3, .string n, .slice ao l.length cap, .string t] 25)).drew.heap.size := by simp
      clear h4 hk2 h5 h1
      go_enter Tryz.func45, Tryz.ntmps45
      go_wp2_with fail
      refine (spaces_spec _ _ (by omega)).mono ?_
      rintro e w1 ⟨rfl, hw1⟩
      subst hw1
      rw [hto, HS.out]
      clear hS hP hp2 hX hto h2 hc1 ht
      go_wp2_with fail
      go_region_held3 (fun w' => w'.cell? ⟨w.heap.size, 1, none⟩ = some (.string n) ∧ w'.cell? ⟨w.heap.size, 2, none⟩ = some (.slice ao l.length cap) ∧ w'.cell? ⟨w.heap.size, 3, none⟩ = some (.string t))
        (first
          | go_keep
          | (go_split_ands
             refine ⟨?_, ?_, ?_⟩
             · (rw [hb3.cell (by exact hlt)]; assumption)
             · (rw [hb3.cell (by exact hlt)]; assumption)
             · (rw [hb3.cell (by exact hlt)]; assumption)))
        (first
          | ((go_at_call 88; (with_reducible refine (HSP.out _).mono ?_); rintro e w2 ⟨rfl, hw2⟩; subst hw2))
          | ((go_at_call 89; (with_reducible refine (HTX.out _ HRD.out).mono ?_); rintro e w3 ⟨rfl, hb3⟩; rw [HX.out])))
      all_goals
        have HB3 := Lib.hid (HB1.out.drew.trans (hb3.mono HB1.out.size)); clear hb3
        go_wp2
        go_ret
        exact ⟨by rw [HL.out]; rfl, HB3.out⟩
noncomputable def lineD (i:It) (d:Int):ByteArray:=if itemB i=true∧inI d 0 4=true then baL (lineI i d.toNat 0) else ⟨#[]⟩
theorem inI_iff {n lo hi:Int}:inI n lo hi=true↔lo≤n∧n≤hi:=by simp [inI]
theorem itemLine_spec (i:It) (u:Value) (d:Int) (w:World) (hr:RowC w u i.2.2.1) (hn:i.2.1.size≤1048576) (hz:ShortC i.2.2.1) (hl:i.2.2.1.length≤1048576) (ht:i.2.2.2.size≤1048576):
  Calls Tryz.prog 12 #[.agg #[.int .i64 i.1, .string i.2.1,u, .string i.2.2.2], .int .i64 d] w fun e w'=>e= .returned (.string (lineD i d))∧Below w.heap.size w w':=by
 have HB1:=Lib.hid ((Below.refl w.heap.size w).alloc (Nat.le_refl _) (.cells #[.int .i64 i.1, .string i.2.1,u, .string i.2.2.2] 25))
 have HR1:=Lib.hid (hr.mono HB1.out)
 have HI1:=Lib.hid (It4.new w (.int .i64 i.1) (.string i.2.1) u (.string i.2.2.2) 25)
 have HC:=Lib.hid (itemValid_spec i u _ HR1.out (by unfold maxLen;omega) hz hl (by unfold maxLen;omega))
 have HLN:=Lib.hid (fun (w':World) (hv:itemB i=true) (deep:Nat) (hd:deep≤4) (hr':RowC w' u i.2.2.1)=>line_spec i u deep 0 w' hv hr' hn ht hd (by omega))
 obtain ⟨ao,cap,hu,-,-,-⟩:=hr
 have HLD:=Lib.hid (show lineD i d=if itemB i=true∧inI d 0 4=true then baL (lineI i d.toNat 0) else ⟨#[]⟩ from rfl)
 obtain ⟨k,n,l,t⟩:=i
 simp only at hu HC HLN HI1 HB1 HR1 hn ht⊢
 subst hu
 clear hz
 cases hv:itemB (k,n,l,t) with
 |false=>
  have HL:=Lib.hid (show lineD (k,n,l,t) d=⟨#[]⟩ by rw [HLD.out,if_neg (by rw [hv];simp)])
  rw [hv] at HC
  clear hv
  go_enter Tryz.func12,Tryz.ntmps12
  go_wp2_with fail
  refine HC.out.mono ?_
  rintro e w2 ⟨rfl,hb2⟩
  have HB2:=Lib.hid (HB1.out.trans (hb2.mono HB1.out.size));clear hb2
  go_wp2
  go_ret
  exact ⟨by rw [HL.out];rfl,HB2.out⟩
 |true=>
  have HLV:=Lib.hid (HLN.out · hv)
  have HVV:=Lib.hid hv
  rw [hv] at HC
  clear hv
  go_enter Tryz.func12,Tryz.ntmps12
  go_wp2_with fail
  refine HC.out.mono ?_
  rintro e w2 ⟨rfl,hb2⟩
  have HB2:=Lib.hid (HB1.out.trans (hb2.mono HB1.out.size));have HI2:=Lib.hid (HI1.out.keep hb2);have HR2:=Lib.hid (HR1.out.mono hb2);clear hb2
  go_wp2_with fail
  refine (l1In_any d 0 4 _).mono ?_
  rintro e w3 ⟨rfl,hw3⟩
  subst hw3
  cases hd:inI d 0 4 with
  |false=>
   have HL:=Lib.hid (show lineD (k,n,l,t) d=⟨#[]⟩ by rw [HLD.out,if_neg (by rw [hd];simp)])
   clear hd
   go_wp2
   go_ret
   exact ⟨by rw [HL.out];rfl,HB2.out⟩
  |true=>
   have HL:=Lib.hid (show lineD (k,n,l,t) d=baL (lineI (k,n,l,t) d.toNat 0) by rw [HLD.out,if_pos ⟨HVV.out,hd⟩])
   obtain ⟨d0,d4⟩:=inI_iff.mp hd
   obtain ⟨D,rfl⟩: ∃D:Nat,d=(D:Int):=⟨d.toNat,by omega⟩
   obtain ⟨⟨z0,z1,z2,z3⟩,-,hzz⟩:=HI2.out
   clear hd
   go_wp2_with fail
   refine (HLV.out w2 D (by omega) HR2.out).mono ?_
   rintro e w4 ⟨rfl,hb4⟩
   have HB4:=Lib.hid (HB2.out.trans (hb4.mono HB2.out.size));clear hb4
   go_wp2
   go_ret
   exact ⟨by rw [HL.out];rfl,HB4.out⟩
theorem fewI_short {i:It} (h:FewI i):i.2.1.size≤1048576∧ShortC i.2.2.1∧i.2.2.1.length≤1048576∧i.2.2.2.size≤1048576:=
 ⟨by have:=h.1;omega,fun c hc=>by have:=h.2.1 c hc;omega,by have:=h.2.2.1;omega,by have:=h.2.2.2;omega⟩
theorem lineD_no {i:It} {d:Int} (h: ¬(itemB i=true∧inI d 0 4=true)):lineD i d=⟨#[]⟩:=by unfold lineD;rw [if_neg h]
theorem lineD_yes {i:It} {D:Nat} (h:itemB i=true) (hD:D≤4):lineD i (D:Int)=⟨(lineI i D 0).toArray⟩:=by
 unfold lineD
 rw [if_pos ⟨h,inI_iff.mpr ⟨by omega,by omega⟩⟩];rfl
theorem itemLine_impl (i:It) (u:Value) (d:Int) (w:World) (hr:RowC w u i.2.2.1) (hn:i.2.1.size≤1048576) (hz:SizedC i.2.2.1) (ht:i.2.2.2.size≤1048576) (htab:Tab w):
  Calls Tryz.prog 11 #[.agg #[.int .i64 i.1, .string i.2.1,u, .string i.2.2.2], .int .i64 d] w fun e w'=>e= .returned (.string (lineD i d))∧Below w.heap.size w w':=by
 have HB1:=Lib.hid ((Below.refl w.heap.size w).alloc (Nat.le_refl _) (.cells #[.int .i64 i.1, .string i.2.1,u, .string i.2.2.2] 25))
 have HR1:=Lib.hid (hr.mono HB1.out)
 have HT1:=Lib.hid (htab.keep HB1.out)
 have HI1:=Lib.hid (It4.new w (.int .i64 i.1) (.string i.2.1) u (.string i.2.2.2) 25)
 have HC:=Lib.hid (itemValid_impl i u _ HR1.out (by unfold maxLen;omega) hz (by unfold maxLen;omega) HT1.out)
 have HNO:=Lib.hid (lineD_no (i:=i) (d:=d))
 have HLY:=Lib.hid (fun (D:Nat)=>lineD_yes (i:=i) (D:=D))
 have HIW:=Lib.hid (fun (w0 w1:World) (b:Nat) (D:Nat) (hv:itemB i=true) (hb:Below w0.heap.size w0 w1) (hw:LwAt w0.heap.size b [] w1) (hr':RowC w0 u i.2.2.1) (ht':Tab w0) (hD:D≤4)=>item_w w0 w1 b [] i u D hv hb hw hr' hz ht' hn ht hD (by simp))
 obtain ⟨ao,cap,hu,-,-,-⟩:=hr
 generalize hgv:itemB i=V at*
 generalize hgl:lineD i d=L at*
 obtain ⟨k,n,l,t⟩:=i
 simp only at hu HC HNO HLY HIW HI1 HB1 HR1 hn ht⊢
 subst hu
 clear hz htab hgv
 obtain ⟨⟨z0,z1,z2,z3⟩,-,hz⟩:=HI1.out
 by_cases hd0:d<0
 ·have hL:=HNO.out (fun h=>by have:=(inI_iff.mp h.2).1;omega)
  clear HNO HLY HIW HC hgl
  go_enter Tryz.func11,Tryz.ntmps11
  go_wp2
  go_ret
  exact ⟨by first|rfl|(rw [hL];rfl),HB1.out⟩
 by_cases hd4:4<d
 ·have hL:=HNO.out (fun h=>by have:=(inI_iff.mp h.2).2;omega)
  clear HNO HLY HIW HC hgl
  go_enter Tryz.func11,Tryz.ntmps11
  go_wp2
  go_ret
  exact ⟨by first|rfl|(rw [hL];rfl),HB1.out⟩
 obtain ⟨D,rfl⟩: ∃D:Nat,d=(D:Int):=⟨d.toNat,by omega⟩
 cases V with
 |false=>
  have hL:=HNO.out (fun h=>by cases h.1)
  clear HNO HLY HIW hgl
  go_enter Tryz.func11,Tryz.ntmps11
  go_wp2_with fail
  refine HC.out.mono ?_
  rintro e w2 ⟨rfl,hb2⟩
  have HB2:=Lib.hid (HB1.out.trans (hb2.mono HB1.out.size));clear hb2
  go_wp2
  go_ret
  exact ⟨by first|rfl|(rw [hL];rfl),HB2.out⟩
 |true=>
  have HL:=Lib.hid (hgl.symm.trans (HLY.out D rfl (by omega)))
  have hD4:D≤4:=by omega
  clear HNO HLY hgl
  go_enter Tryz.func11,Tryz.ntmps11
  go_wp2_with fail
  refine HC.out.mono ?_
  rintro e w2 ⟨rfl,hb2⟩
  have HB2:=Lib.hid (HB1.out.trans (hb2.mono HB1.out.size));have HR2:=Lib.hid (HR1.out.mono hb2);have HT2:=Lib.hid (HT1.out.keep hb2)
  have HI2:=Lib.hid ((HI1.out.keep hb2).al (.cells #[.pointer none, .slice none 0 0] 66))
  have HBW:=Lib.hid ((Below.refl w2.heap.size w2).alloc (Nat.le_refl _) (.cells #[.pointer none, .slice none 0 0] 66))
  clear hb2 z0 z1 z2 z3 hz
  obtain ⟨⟨z0,z1,z2,z3⟩,-,hz⟩:=HI2.out
  go_wp2_with fail
  refine (HIW.out w2 _ w2.heap.size D (by simp) HBW.out (LwAt.new w2) HR2.out HT2.out hD4).mono ?_
  rintro e w3 ⟨rfl,h3,hb3,-⟩
  rw [List.nil_append] at h3
  have H3:=Lib.hid h3;have HB3:=Lib.hid hb3
  clear h3 hb3
  go_wp2_with fail
  refine (lText_all w2.heap.size w2.heap.size _ w3 H3.out HB3.out.size).mono ?_
  rintro e w4 ⟨rfl,hb4⟩
  have HB4:=Lib.hid (HB2.out.trans ((HB3.out.trans hb4).mono HB2.out.size));clear hb4
  go_wp2
  go_ret
  exact ⟨by first|rfl|(rw [HL.out];rfl),HB4.out⟩
end Go.Proofs.YthijkjnngfnfdaaGreatDoor
