/-
  Part of the proof of FnExactPrintDocument.
-/
import Derived.Test.YthijkjnngfnfdaaGreatDoorQXab
import Derived.Test.YthijkjnngfnfdaaGreatDoorQXac
import Derived.Test.YthijkjnngfnfdaaGreatDoorLineI
import Derived.Test.YthijkjnngfnfdaaGreatDoorDepI
import Derived.WalkKit
import Derived.WalkSpells
import Derived.Lib.Hide
import Derived.Deep.QuietTactic
import Derived.BigQuiet
import Derived.Lib.TrimByte
import Derived.Deep.AppendLies
import Derived.Below
import Derived.Deep.Onto
import Derived.Deep.Draws
import Derived.Deep.RegionHeld3
import Derived.RegionTactic
import Derived.Deep.RegionLaw
import Derived.Deep.DrawnRows
import Derived.StillTailTactics
import Derived.IntWalk
set_option linter.unusedVariables false
set_option maxHeartbeats 8000000
set_option maxRecDepth 100000
namespace Go.Proofs.YthijkjnngfnfdaaGreatDoor
open Go.RowKit
theorem txt_any {u:Value} {l:List Cl} (hok:okE l=true) (w:World) (hr:RowC w u l):
  Calls Tryz.prog 89 #[u, .int .i64 0] w fun e w'=>e= .returned (.string ⟨(textE l).toArray⟩)∧Below w.heap.size w w':=by
 obtain ⟨x,hx⟩:=okE_tx hok
 have hoi:=(okE_iff l).mp hok
 rw [textE_of hok hx]
 exact text_all hoi.1 (allW_of hoi.2.1) l.length 0 l.length x w hx (by omega) hr
theorem em_no {s:ByteArray} (h:emB s=false):(s.toList==[])=false∧(s.toList !=[])=true:=by
 have: ¬s.toList=[]:=by
  intro k
  rw [ByteArray.toList_eq] at k
  have h2:s.size=0:=by rw [←ByteArray.size_data,←Array.length_toList,k];rfl
  rw [emB,h2] at h;cases h
 exact ⟨beq_eq_false_iff_ne.mpr this,bne_iff_ne.mpr this⟩
theorem em_yes {s:ByteArray} (h:emB s=true):(s.toList !=[])=false:=by rw [bne,(em_t h).1];rfl
theorem line_spec (i : It) (u : Value) (deep W : Nat) (w : World) (hv : itemB i = true) (hr : RowC w u i.2.2.1) (hn : i.2.1.size ≤ 1048576) (ht : i.2.2.2.size ≤ 1048576) (hd : deep ≤ 4) (hW : W ≤ 1000) :
    Calls Tryz.prog 45 #[.agg #[.int .i64 i.1, .string i.2.1, u, .string i.2.2.2], .int .i64 (deep : Int), .int .i64 (W : Int)] w fun e w' => e = .returned (.string (baL (lineI i deep W))) ∧ Below w.heap.size w w' := by
  obtain ⟨k, n, l, t⟩ := i
  simp only at hr hn ht ⊢
  have HV := Lib.hid hv; clear hv
  have HR := Lib.hid hr
  obtain ⟨ao, cap, rfl, hc1, h2, h3⟩ := hr
  clear h3
  unfold maxLen at h2
  have hto : (2 * (deep : Int)).toNat = 2 * deep := by omega
  have HB1 := Lib.hid ((Below.refl w.heap.size w).alloc (Nat.le_refl _) (.cells #[.int .i64 k, .string n, .slice ao l.length cap, .string t] 25))
  have hss := sp_size (2 * deep)
  obtain ⟨S, HS, hS⟩ : ∃ S : ByteArray, Hid (baL (spL (2 * deep)) = S) ∧ S.size = 2 * deep := ⟨_, Lib.hid rfl, hss⟩
  clear hss
  by_cases h1 : k = 1
  · subst h1
    have HL := Lib.hid (show baL (lineI (1, n, l, t) deep W) = ⟨#[]⟩ from ba_eq (by simp [lineI, baL]))
    go_enter Tryz.func45, Tryz.ntmps45
    go_wp2_with fail
    refine (spaces_spec _ _ (by omega)).mono ?_
    rintro e w1 ⟨rfl, hw1⟩
    subst hw1
    rw [hto, HS.out]
    go_wp2
    go_ret
    exact ⟨by rw [HL.out]; rfl, HB1.out⟩
  by_cases h5 : k = 5
  · subst h5
    have HL := Lib.hid (show baL (lineI (5, n, l, t) deep W) = S ++ ⟨#[125]⟩ from by rw [← HS.out]; exact ba_eq (by simp [lineI, coreI, baL]))
    have r0 : ¬ 9223372036854775807 < S.size + 1 := by omega
    go_enter Tryz.func45, Tryz.ntmps45
    go_wp2_with fail
    refine (spaces_spec _ _ (by omega)).mono ?_
    rintro e w1 ⟨rfl, hw1⟩
    subst hw1
    rw [hto, HS.out]
    go_wp2
    go_ret
    exact ⟨by rw [HL.out]; rfl, HB1.out⟩
  by_cases h4 : k = 4
  · subst h4
    have HL := Lib.hid (show baL (lineI (4, n, l, t) deep W) = S ++ n ++ ⟨#[32, 123]⟩ from by rw [← HS.out]; exact ba_eq (by simp [lineI, coreI, baL]))
    have r0 : ¬ 9223372036854775807 < S.size + n.size := by omega
    have r1 : ¬ 9223372036854775807 < S.size + n.size + 2 := by omega
    go_enter Tryz.func45, Tryz.ntmps45
    go_wp2_with fail
    refine (spaces_spec _ _ (by omega)).mono ?_
    rintro e w1 ⟨rfl, hw1⟩
    subst hw1
    rw [hto, HS.out]
    go_wp2
    go_ret
    exact ⟨by rw [HL.out]; rfl, HB1.out⟩
  cases hem : emB t with
  | true =>
    have e1 := (em_t hem).1
    have e2 := em_yes hem
    have HEM := Lib.hid hem; clear hem
    by_cases hk2 : k = 2
    · subst hk2
      have HL := Lib.hid (show baL (lineI (2, n, l, t) deep W) = S ++ ⟨#[35]⟩ from by rw [← HS.out]; exact ba_eq (by simp [lineI, coreI, baL, HEM.out]))
      have r0 : ¬ 9223372036854775807 < S.size + 1 := by omega
      go_enter Tryz.func45, Tryz.ntmps45
      go_wp2_with fail
      refine (spaces_spec _ _ (by omega)).mono ?_
      rintro e w1 ⟨rfl, hw1⟩
      subst hw1
      rw [hto, HS.out]
      go_wp2
      go_ret
      exact ⟨by rw [HL.out]; rfl, HB1.out⟩
    · skip
      have hk3 : k = 3 := by
        have := HV.out
        unfold itemB at this
        simp only at this
        rw [if_neg (by omega), if_neg hk2] at this
        by_cases h : k = 3
        · exact h
        · rw [if_neg h, if_neg h4] at this; cases this
      subst hk3
      have hoe : okE l = true := by
        have := HV.out
        simp only [itemB] at this
        simp at this
        exact this.2.1
      obtain ⟨P, HP, hP⟩ : ∃ P : ByteArray, Hid (baL (spL (W - n.size)) = P) ∧ P.size = W - n.size := ⟨_, Lib.hid rfl, sp_size _⟩
      obtain ⟨X, HX, hX⟩ : ∃ X : ByteArray, Hid ((⟨(textE l).toArray⟩ : ByteArray) = X) ∧ X.size ≤ 12000 := ⟨_, Lib.hid rfl, textE_len l⟩
      have HSP := Lib.hid (show ∀ w', Calls Tryz.prog 88 #[.int .i64 (IntKind.i64.wrap ((W : Int) - (n.size : Int)))] w' (fun e w2 => e = .returned (.string P) ∧ w' = w2) from fun w' => by
        rw [show IntKind.i64.wrap ((W : Int) - (n.size : Int)) = (W : Int) - (n.size : Int) from IntWalk.i64_in _ (by omega), ← HP.out, show W - n.size = ((W : Int) - (n.size : Int)).toNat by omega]
        exact spaces_spec _ w' (by omega))
      have hp2 : P.size ≤ 1000 := by omega
      have HL := Lib.hid (show baL (lineI (3, n, l, t) deep W) = S ++ n ++ P ++ ⟨#[32, 61, 32]⟩ ++ X from by rw [← HS.out, ← HP.out, ← HX.out]; exact ba_eq (by simp [lineI, coreI, baL, HEM.out]))
      have HTX := Lib.hid (fun w' hr' => txt_any (u := .slice ao l.length cap) hoe w' hr')
      have HRB := Lib.hid (HR.out.mono HB1.out)
      have HRD := Lib.hid (show RowC (w.alloc (.cells #[.int .i64 3, .string n, .slice ao l.length cap, .string t] 25)).drew (.slice ao l.length cap) l from HRB.out.drewN 1)
      have r0 : ¬ 9223372036854775807 < S.size + n.size := by omega
      have r1 : ¬ 9223372036854775807 < S.size + n.size + P.size := by omega
      have r2 : ¬ 9223372036854775807 < S.size + n.size + P.size + 3 := by omega
      have r3 : ¬ 9223372036854775807 < S.size + n.size + P.size + 3 + X.size := by omega
      have hlt : w.heap.size < (w.alloc (.cells #[.int .i64 3, .string n, .slice ao l.length cap, .string t] 25)).drew.heap.size := by simp
      clear h4 hk2 h5 h1
      go_enter Tryz.func45, Tryz.ntmps45
      go_wp2_with fail
      refine (spaces_spec _ _ (by omega)).mono ?_
      rintro e w1 ⟨rfl, hw1⟩
      subst hw1
      rw [hto, HS.out]
      clear hS hP hp2 hX hto h2 hc1 ht
      go_wp2_with fail
      go_region_held3 (fun w' => w'.cell? ⟨w.heap.size, 1, none⟩ = some (.string n) ∧ w'.cell? ⟨w.heap.size, 2, none⟩ = some (.slice ao l.length cap) ∧ w'.cell? ⟨w.heap.size, 3, none⟩ = some (.string t))
        (first
          | go_keep
          | (go_split_ands
             refine ⟨?_, ?_, ?_⟩
             · (rw [hb3.cell (by exact hlt)]; assumption)
             · (rw [hb3.cell (by exact hlt)]; assumption)
             · (rw [hb3.cell (by exact hlt)]; assumption)))
        (first
          | ((go_at_call 88; (with_reducible refine (HSP.out _).mono ?_); rintro e w2 ⟨rfl, hw2⟩; subst hw2))
          | ((go_at_call 89; (with_reducible refine (HTX.out _ HRD.out).mono ?_); rintro e w3 ⟨rfl, hb3⟩; rw [HX.out])))
      all_goals
        have HB3 := Lib.hid (HB1.out.drew.trans (hb3.mono HB1.out.size)); clear hb3
        go_wp2
        go_ret
        exact ⟨by rw [HL.out]; rfl, HB3.out⟩
  | false =>
    obtain ⟨e1, e2⟩ := em_no hem
    have HEM := Lib.hid hem; clear hem
    by_cases hk2 : k = 2
    · subst hk2
      have HL := Lib.hid (show baL (lineI (2, n, l, t) deep W) = S ++ ⟨#[35]⟩ ++ ⟨#[32]⟩ ++ t from by rw [← HS.out]; exact ba_eq (by simp [lineI, coreI, baL, HEM.out]))
      have r0 : ¬ 9223372036854775807 < S.size + 1 := by omega
      have r1 : ¬ 9223372036854775807 < S.size + 1 + 1 := by omega
      have r2 : ¬ 9223372036854775807 < S.size + 1 + 1 + t.size := by omega
      go_enter Tryz.func45, Tryz.ntmps45
      go_wp2_with fail
      refine (spaces_spec _ _ (by omega)).mono ?_
      rintro e w1 ⟨rfl, hw1⟩
      subst hw1
      rw [hto, HS.out]
      go_wp2
      go_ret
      exact ⟨by rw [HL.out]; rfl, HB1.out⟩
    · skip
      have hk3 : k = 3 := by
        have := HV.out
        unfold itemB at this
        simp only at this
        rw [if_neg (by omega), if_neg hk2] at this
        by_cases h : k = 3
        · exact h
        · rw [if_neg h, if_neg h4] at this; cases this
      subst hk3
      have hoe : okE l = true := by
        have := HV.out
        simp only [itemB] at this
        simp at this
        exact this.2.1
      obtain ⟨P, HP, hP⟩ : ∃ P : ByteArray, Hid (baL (spL (W - n.size)) = P) ∧ P.size = W - n.size := ⟨_, Lib.hid rfl, sp_size _⟩
      obtain ⟨X, HX, hX⟩ : ∃ X : ByteArray, Hid ((⟨(textE l).toArray⟩ : ByteArray) = X) ∧ X.size ≤ 12000 := ⟨_, Lib.hid rfl, textE_len l⟩
      have HSP := Lib.hid (show ∀ w', Calls Tryz.prog 88 #[.int .i64 (IntKind.i64.wrap ((W : Int) - (n.size : Int)))] w' (fun e w2 => e = .returned (.string P) ∧ w' = w2) from fun w' => by
        rw [show IntKind.i64.wrap ((W : Int) - (n.size : Int)) = (W : Int) - (n.size : Int) from IntWalk.i64_in _ (by omega), ← HP.out, show W - n.size = ((W : Int) - (n.size : Int)).toNat by omega]
        exact spaces_spec _ w' (by omega))
      have hp2 : P.size ≤ 1000 := by omega
      have HL := Lib.hid (show baL (lineI (3, n, l, t) deep W) = S ++ n ++ P ++ ⟨#[32, 61, 32]⟩ ++ X ++ ⟨#[32, 35]⟩ ++ ⟨#[32]⟩ ++ t from by rw [← HS.out, ← HP.out, ← HX.out]; exact ba_eq (by simp [lineI, coreI, baL, HEM.out]))
      have HTX := Lib.hid (fun w' hr' => txt_any (u := .slice ao l.length cap) hoe w' hr')
      have HRB := Lib.hid (HR.out.mono HB1.out)
      have HRD := Lib.hid (show RowC (w.alloc (.cells #[.int .i64 3, .string n, .slice ao l.length cap, .string t] 25)).drew (.slice ao l.length cap) l from HRB.out.drewN 1)
      have r0 : ¬ 9223372036854775807 < S.size + n.size := by omega
      have r1 : ¬ 9223372036854775807 < S.size + n.size + P.size := by omega
      have r2 : ¬ 9223372036854775807 < S.size + n.size + P.size + 3 := by omega
      have r3 : ¬ 9223372036854775807 < S.size + n.size + P.size + 3 + X.size := by omega
      have r4 : ¬ 9223372036854775807 < S.size + n.size + P.size + 3 + X.size + 2 := by omega
      have r5 : ¬ 9223372036854775807 < S.size + n.size + P.size + 3 + X.size + 2 + 1 := by omega
      have r6 : ¬ 9223372036854775807 < S.size + n.size + P.size + 3 + X.size + 2 + 1 + t.size := by omega
      have hlt : w.heap.size < (w.alloc (.cells #[.int .i64 3, .string n, .slice ao l.length cap, .string t] 25)).drew.heap.size := by simp
      clear h4 hk2 h5 h1
      go_enter Tryz.func45, Tryz.ntmps45
      go_wp2_with fail
      refine (spaces_spec _ _ (by omega)).mono ?_
      rintro e w1 ⟨rfl, hw1⟩
      subst hw1
      rw [hto, HS.out]
      clear hS hP hp2 hX hto h2 hc1 ht
      go_wp2_with fail
      go_region_held3 (fun w' => w'.cell? ⟨w.heap.size, 1, none⟩ = some (.string n) ∧ w'.cell? ⟨w.heap.size, 2, none⟩ = some (.slice ao l.length cap) ∧ w'.cell? ⟨w.heap.size, 3, none⟩ = some (.string t))
        (first
          | go_keep
          | (go_split_ands
             refine ⟨?_, ?_, ?_⟩
             · (rw [hb3.cell (by exact hlt)]; assumption)
             · (rw [hb3.cell (by exact hlt)]; assumption)
             · (rw [hb3.cell (by exact hlt)]; assumption)))
        (first
          | ((go_at_call 88; (with_reducible refine (HSP.out _).mono ?_); rintro e w2 ⟨rfl, hw2⟩; subst hw2))
          | ((go_at_call 89; (with_reducible refine (HTX.out _ HRD.out).mono ?_); rintro e w3 ⟨rfl, hb3⟩; rw [HX.out])))
      all_goals
        have HB3 := Lib.hid (HB1.out.drew.trans (hb3.mono HB1.out.size)); clear hb3
        go_wp2
        go_ret
        exact ⟨by rw [HL.out]; rfl, HB3.out⟩
theorem own_shape1 {w:World} {B m n:Nat} {e:TypeId} {v:Value} {xs:List Value} (h:w.ownsRow B e m v n xs): ∃a c,v= .slice a n c:=by
 rcases h.2 with ⟨rfl,rfl⟩|⟨g,cap,cur,rfl,_⟩
 ·exact ⟨_,_,rfl⟩
 ·exact ⟨_,_,rfl⟩
theorem line_spec0 {k:Int} {n t:ByteArray} {l:List Cl} {u:Value} {D:Nat} (w:World) (hv:itemB (k,n,l,t)=true) (hr:RowC w u l) (hn:n.size≤1048576) (ht:t.size≤1048576) (hd:D≤4):
  Calls Tryz.prog 45 #[.agg #[.int .i64 k, .string n,u, .string t], .int .i64 (D:Int), .int .i64 0] w fun e w'=>e= .returned (.string (baL (lineI (k,n,l,t) D 0)))∧Below w.heap.size w w':=
 line_spec (k,n,l,t) u D 0 w hv hr hn ht hd (by omega)
theorem lineI_len (i:It) (D W:Nat):(lineI i D W).length≤2*D+i.2.1.size+W+i.2.2.2.size+12020:=by
 have h1:i.2.1.data.toList.length=i.2.1.size:=by rw [Array.length_toList];rfl
 have h2:i.2.2.2.data.toList.length=i.2.2.2.size:=by rw [Array.length_toList];rfl
 have h3:=textE_len i.2.2.1
 have h4: ∀n,(spL n).length=n:=fun n=>by simp [spL]
 unfold lineI coreI
 repeat' split
 all_goals simp only [List.length_append,List.length_cons,List.length_nil,h4,h1,h2]
 all_goals omega
theorem printT_join {l:List It} (h:docB l=true):printK l=joinOk (printL l)∧printT l=joinB (printL l):=by
 have hk:printK l=joinOk (printL l):=by unfold printK;rw [h];rfl
 refine ⟨hk, ?_⟩
 unfold printT
 rw [hk]
 by_cases hj:joinOk (printL l)=true
 ·rw [if_pos hj]
 ·rw [if_neg hj,joinB,if_neg hj];rfl
theorem printT_no {l:List It} (h:docB l=false):printK l=false∧printT l=⟨#[]⟩:=by
 have hk:printK l=false:=by unfold printK;rw [h];rfl
 exact ⟨hk,by unfold printT;rw [hk];rfl⟩
theorem printL_length (l:List It):(printL l).length=l.length:=printG_length l 0
theorem print_line {l:List It} (h:docB l=true) (k:Nat) (hk:k<l.length): ∃D:Nat,(depL 0 l)[k]? =some (D:Int)∧D≤4∧(printL l).take (k+1)=(printL l).take k++[baL (lineI l[k] D 0)]:=by
 have hn:=((docB_iff l).mp h).2.2
 have hd:=dep_in hn (by omega) (by omega) k hk
 rw [←depL_at l 0 k hk] at hd
 have hl:=depL_length l 0
 refine ⟨((depL 0 l)[k]'(by omega)).toNat, ?_,by omega, ?_⟩
 ·rw [List.getElem?_eq_getElem (by omega),Int.toNat_of_nonneg hd.1]
 ·rw [List.take_succ_eq_append_getElem (by rw [printL_length];exact hk)]
  congr 1
  exact congrArg (fun x=>[x]) (printG_at l 0 k hk)
theorem print_sized {l:List It} (h:ShortI l) (hd:docB l=true):Sized (printL l):=by
 intro t ht
 obtain ⟨k,hk,rfl⟩:=List.getElem_of_mem ht
 rw [printL_length] at hk
 have hk0:k<(printG 0 l).length:=by rw [printG_length];exact hk
 have e:=printG_at l 0 k hk
 have hn:=((docB_iff l).mp hd).2.2
 have hdd:=dep_in hn (by omega) (by omega) k hk
 rw [←depL_at l 0 k hk] at hdd
 obtain ⟨z1,z2,z3,z4⟩:=h _ (List.getElem_mem hk)
 show ((printG 0 l)[k]'hk0).size≤maxLen
 rw [e,bl_size]
 have:=lineI_len l[k] ((depL 0 l)[k]'(by rw [depL_length];exact hk)).toNat 0
 unfold maxLen
 omega
theorem printDocument_spec (v : Value) (l : List It) (w : World) (hr : RowIt w v l) (hz : ShortI l) (hl : l.length ≤ 1048576) :
    Calls Tryz.prog 22 #[v] w fun e w' => e = .returned (.tuple #[.string (printT l), .bool (printK l)]) ∧ Below w.heap.size w w' := by
  have HC := Lib.hid (documentValid_spec v l w hr hz hl)
  have HR := Lib.hid hr
  obtain ⟨ao, cap, rfl, h1, h2, h3⟩ := hr
  unfold maxLen at h2
  have H3 := Lib.hid h3; have HZ := Lib.hid hz
  clear h3 hz
  obtain ⟨i0, hi, hz0, hz1, hz2⟩ := info_parts infoStr
  cases hok : docB l with
  | false =>
    obtain ⟨hk, ht⟩ := printT_no hok
    rw [hk, ht]
    clear hk ht
    go_enter Tryz.func22, Tryz.ntmps22
    go_wp2_with fail
    refine HC.out.mono ?_
    rintro e w1 ⟨rfl, hb1⟩
    have HB1 := Lib.hid hb1; clear hb1
    rw [hok]
    clear hok
    go_wp2
    go_ret2
    exact ⟨rfl, HB1.out⟩
  | true =>
    have h30 := ((docB_iff l).mp hok).1
    have HAL := Lib.hid ((docB_iff l).mp hok).2.1
    have HN := Lib.hid ((docB_iff l).mp hok).2.2
    have HPT := Lib.hid (printT_join hok)
    have HPL := Lib.hid (print_line hok)
    have HPS := Lib.hid (print_sized HZ.out hok)
    have HLL := Lib.hid (printL_length l)
    rw [HPT.out.1, HPT.out.2]
    go_enter Tryz.func22, Tryz.ntmps22
    go_wp2_with fail
    refine HC.out.mono ?_
    rintro e w1 ⟨rfl, hb1⟩
    have HB1 := Lib.hid hb1; clear hb1
    rw [hok]
    clear hok
    go_wp2_with fail
    refine (l11Nest_any _ l _ (HR.out.mono HB1.out) hl).mono ?_
    rintro e w2 ⟨vd, d, L, rfl, hoL, hb2, hnn⟩
    have hLd : L = depL 0 l := by
      rcases hnn with ⟨-, h⟩ | ⟨h, -⟩
      · exact h
      · rw [HN.out] at h; cases h
    have HDC := Lib.hid (RowOf.of_own hoL)
    obtain ⟨da, dc, rfl⟩ := own_shape1 hoL
    have hLl : L.length = l.length := by rw [hLd, depL_length]
    have HLD := Lib.hid hLd
    have HB2 := Lib.hid (HB1.out.trans (hb2.mono HB1.out.size))
    clear hoL hb2 hnn hLd
    have HLI := Lib.hid (World.ownsRow_lit (base := w2.heap.size) (size := 1) (e := 9) w2 #[] 0 (Nat.le_refl _) (by unfold maxLen; omega) rfl)
    have HBL := Lib.hid ((Below.refl w2.heap.size w2).alloc (Nat.le_refl _) (.cells #[] 9))
    go_wp2_with fail
    go_loopw [6, 7] (fun a i wr => ∃ k : Nat, k ≤ l.length ∧ i = .int .i64 (k : Int) ∧ wr.ownsRow w2.heap.size 9 1 a k (strs ((printL l).take k)) ∧ Below w2.heap.size w2 wr) (fun _ i _ => l.length - (intOf i).toNat)
    case atStart => exact ⟨0, Nat.zero_le _, rfl, HLI.out, HBL.out⟩
    case round =>
      obtain ⟨k, hk, rfl, hown, hbr⟩ := hrel
      have HOW := Lib.hid hown; have HBR := Lib.hid hbr
      have HBW := Lib.hid (HB2.out.trans (hbr.mono HB2.out.size))
      obtain ⟨aa, ac, rfl⟩ := own_shape1 hown
      clear hown hbr
      by_cases hlt : k < l.length
      · have hltI : (k : Int) < (l.length : Int) := by omega
        obtain ⟨b, o, rfl, hbl, cc⟩ := H3.out.resolve_left (by rintro rfl; simp at hlt)
        obtain ⟨u, hu⟩ := cc k hlt
        obtain ⟨d0, d1, d2, d3, hru⟩ := hu.mono hbl HBW.out
        obtain ⟨z1, z2, z3, z4⟩ := HZ.out _ (List.getElem_mem hlt)
        obtain ⟨D, hD, hD4, hTK⟩ := HPL.out k hlt
        have hvi : itemB l[k] = true := by have := HAL.out; rw [List.all_eq_true] at this; exact this _ (List.getElem_mem hlt)
        have hDc : ∃ bd od, da = some ⟨bd, od, none⟩ ∧ bd < w2.heap.size ∧ wr.cell? ⟨bd, od + k, none⟩ = some (.int .i64 (D : Int)) := by
          obtain ⟨bo, bcap, hsl, g1, g2, g3⟩ := HDC.out
          rw [intsZ_length] at hsl g1
          simp only [Value.slice.injEq] at hsl
          obtain ⟨rfl, -, rfl⟩ := hsl
          obtain ⟨bd, od, rfl, hbd, hcd⟩ := g3.resolve_left (fun e => by have := congrArg List.length e; rw [intsZ_length, List.length_nil] at this; omega)
          refine ⟨bd, od, rfl, hbd, (HBR.out.cell (p := ⟨bd, _, none⟩) hbd).trans (hcd k _ ?_)⟩
          rw [← HLD.out] at hD
          simp [intsZ, hD]
        obtain ⟨bd, od, rfl, hbdl, dd⟩ := hDc
        have hdc : L.length ≤ dc := by
          obtain ⟨bo, bcap, hsl, g1, g2, g3⟩ := HDC.out
          rw [intsZ_length] at hsl g1
          simp only [Value.slice.injEq] at hsl
          obtain ⟨-, -, rfl⟩ := hsl
          exact g1
        generalize l[k] = it at d0 d1 d2 d3 hru hTK hvi z1 z4
        obtain ⟨ik, inm, ics, int⟩ := it
        simp only at d0 d1 d2 d3 hru z1 z4
        obtain ⟨au, cu, rfl⟩ : ∃ au cu, u = .slice au ics.length cu := by obtain ⟨au, cu, h, -⟩ := hru; exact ⟨au, cu, h⟩
        have HTK := Lib.hid hTK
        have HLN := Lib.hid (fun ww hh => line_spec0 (u := .slice au ics.length cu) (D := D) ww hvi hh z1 z4 hD4)
        have HRD := Lib.hid (show RowC wr.drew (.slice au ics.length cu) ics from hru.drewN 1)
        have HOD := Lib.hid (show wr.drew.ownsRow w2.heap.size 9 1 (.slice aa k ac) k (strs ((printL l).take k)) from HOW.out.drew)
        have hs2 := HBR.out.size
        clear cc hu hru hTK hvi z1 z2 z3 z4 hD
        generalize baL (lineI (ik, inm, ics, int) D 0) = LN at HTK HLN
        have hbk0 : (0 : Int) ≤ (k : Int) := by omega
        have hbkL : (k : Int) < (L.length : Int) := by omega
        have HCE := Lib.hid (show ∀ W', Below w2.heap.size w2 W' → W'.cell? ⟨b, o + k * 4, none⟩ = some (.int .i64 ik) ∧ W'.cell? ⟨b, o + k * 4 + 1, none⟩ = some (.string inm) ∧ W'.cell? ⟨b, o + k * 4 + 2, none⟩ = some (.slice au ics.length cu) ∧ W'.cell? ⟨b, o + k * 4 + 3, none⟩ = some (.string int) ∧ W'.cell? ⟨bd, od + k, none⟩ = some (.int .i64 (D : Int)) from fun W' hb' =>
          have hbl' : b < w2.heap.size := Nat.lt_of_lt_of_le hbl HB2.out.size
          have cc : ∀ (bb j : Nat), bb < w2.heap.size → W'.cell? ⟨bb, j, none⟩ = wr.cell? ⟨bb, j, none⟩ := fun bb j h => (hb'.cell (p := ⟨bb, j, none⟩) h).trans (HBR.out.cell (p := ⟨bb, j, none⟩) h).symm
          ⟨(cc b _ hbl').trans d0, (cc b _ hbl').trans d1, (cc b _ hbl').trans d2, (cc b _ hbl').trans d3, (cc bd _ hbdl).trans dd⟩)
        go_wp2_with fail
        go_region_held3 (fun W' => W'.cell? ⟨b, o + k * 4, none⟩ = some (.int .i64 ik) ∧ W'.cell? ⟨b, o + k * 4 + 1, none⟩ = some (.string inm) ∧ W'.cell? ⟨b, o + k * 4 + 2, none⟩ = some (.slice au ics.length cu) ∧ W'.cell? ⟨b, o + k * 4 + 3, none⟩ = some (.string int) ∧ W'.cell? ⟨bd, od + k, none⟩ = some (.int .i64 (D : Int)))
          (first | exact HCE.out _ HB4.out | exact HCE.out _ HB3.out | exact HCE.out _ HBR.out.drew | exact HCE.out _ HBR.out | go_keep)
          (first
            | ((go_at_call 45; (with_reducible refine (HLN.out _ HRD.out).mono ?_); rintro e w3 ⟨rfl, hb3⟩; have hs3 := hb3.size; have HB3 := Lib.hid (HBR.out.drew.trans (hb3.mono HBR.out.size))))
            | (refine step_append_lies _ (by rfl) _ _ _ (by rfl) w2.heap.size 9 i0 _ 1 16 Tryz.underlying43 hi hz0 hz1 hz2 rfl (by omega) (.slice aa k ac) k _ (by rfl) (by exact ((own_belowS HOD.out hb3).alloc _))
                ⟨w3.heap.size, 0, none⟩ 1 1 [.string LN] (by rfl) (by rfl) (World.news_of_block (cs := #[.string LN]) (t := 9) (fr := (0, 0)) (heap_alloc_new w3 _)) (by simp [Value.oneCell'])
                (by omega) (by unfold maxLen; omega) (by omega) (by simp; exact Nat.le_succ_of_le (Nat.le_trans HBR.out.size hs3)) (w3.heap.size + 1) (by simp) ?_; intro gg cap' w4 hown4 hgrow4 hat4 hlt4; have HB4 := Lib.hid ((HB3.out.alloc (Nat.le_trans HBR.out.size hs3) (.cells #[.string LN] 9)).grown hgrow4 (by simp; exact Nat.le_succ_of_le (Nat.le_trans HBR.out.size hs3)) (fun q hq => (HOW.out.lt q hq).1))))
        all_goals
          have HO4 := Lib.hid hown4
          clear hown4 hgrow4 hat4 hlt4 hb3
          go_wp2
          go_roundw
          case rel => exact ⟨k + 1, by omega, by go_num, by rw [HTK.out, strs_append]; exact HO4.out, HB4.out⟩
          case measure => simp [intOf]; omega
      · obtain rfl : k = l.length := by omega
        have hltI : ¬ (l.length : Int) < (l.length : Int) := by omega
        have HFU := Lib.hid (show RowOf wr (.slice aa l.length ac) (strs (printL l)) from by
          have := RowOf.of_own HOW.out
          rw [List.take_of_length_le (Nat.le_of_eq HLL.out)] at this
          exact this)
        go_wp2_with fail
        refine (linesText_spec _ (printL l) wr HFU.out HPS.out).mono ?_
        rintro e w5 ⟨hj, hw5⟩
        subst hw5
        unfold Joins at hj
        subst hj
        go_wp2
        go_ret2
        exact ⟨rfl, HBW.out⟩
theorem sizedC_of_short {l:List Cl} (h:ShortC l):SizedC l:=fun c hc=>by have:=h c hc;unfold maxLen;omega
theorem fitI_of_short {l:List It} (h:ShortI l):FitI l:=fun i hi=>by
 obtain ⟨h1,h2,h3,h4⟩:=h i hi
 exact ⟨by unfold maxLen;omega,sizedC_of_short h2,by unfold maxLen;omega⟩
theorem own_kl {w W':World} {B n:Nat} {u:Value} {xs:List Value} (h:w.ownsRow B 3 1 u n xs) (hk:KL w W'):W'.ownsRow B 3 1 u n xs:=by
 refine own_keep h fun g hg=> ?_
 rcases h.2 with ⟨rfl,-⟩|⟨g',cap,cur,rfl,hbg,hh,-⟩
 ·simp [Value.ownBlock] at hg
 ·obtain rfl:g'=g:=by simpa [Value.ownBlock] using hg
  rw [hh];exact hk _ _ _ _ hh (by decide) (by decide)
theorem own_at {w:World} {B:Nat} {l:List It} {ua:Option Addr} {uc:Nat} (h:w.ownsRow B 3 1 (.slice ua l.length uc) l.length (ints (dps 0 l))) (h0:0<l.length):
  ∃bd,ua=some ⟨bd,0,none⟩∧ ∀W',KL w W'→ ∀k,k<l.length→ ∀D:Nat,(depL 0 l)[k]? =some (D:Int)→W'.cell? ⟨bd,k,none⟩=some (.int .i64 (D:Int)):=by
 rcases h.2 with ⟨h1,h2⟩|⟨g,cap,cur,h1,hbg,hh,-⟩
 ·omega
 ·injection h1 with e1 e2 e3
  subst e1
  refine ⟨g,rfl,fun W' hk k hlt D hD=> ?_⟩
  rw [(own_kl h hk).cellAt k (by omega)]
  have hd:(dps 0 l)[k]? =some D:=by
   unfold dps
   rw [List.getElem?_map,show ((0:Nat):Int)=0 from rfl,hD]
   rfl
  simp [ints,hd]
theorem print_text {l:List It} (hd:docB l=true):textB (accTo (printL l) l.length)=printK l∧(printK l=true→accTo (printL l) l.length=printT l):=by
 have hlen:=printL_length l
 by_cases hk:printK l=true
 ·obtain ⟨-,hj⟩:=(printK_iff l).mp hk
  have e:printT l=accTo (printL l) l.length:=by rw [printT,if_pos hk,joinB,if_pos hj,hlen]
  have e2:joinB (printL l)=accTo (printL l) l.length:=by rw [joinB,if_pos hj,hlen]
  have k1:=(lines_join _ hj).1
  rw [e2] at k1
  exact ⟨by rw [k1,hk],fun _=>e.symm⟩
 ·refine ⟨?_,fun h=>absurd h hk⟩
  rw [Bool.eq_false_iff.mpr hk,Bool.eq_false_iff]
  intro ht
  apply hk
  rw [printK_iff]
  refine ⟨hd,joinOk_of _ (fun t ht'=> ?_) ?_⟩
  ·obtain ⟨k,hk',rfl⟩:=List.getElem_of_mem ht'
   have hk2:k<l.length:=by omega
   rw [show (printL l)[k]=_ from printG_at l 0 k hk2,baL_list]
   have hv:=((docB_iff l).mp hd).2.1
   rw [List.all_eq_true] at hv
   exact line_plain (hv _ (List.getElem_mem hk2)) _ 0
  ·rw [hlen]
   simp only [textB,Bool.and_eq_true,decide_eq_true_eq] at ht
   exact ht.1
theorem acc_next {l:List It} (k:Nat) (hk:k<l.length) (D:Nat) (hD:(depL 0 l)[k]? =some (D:Int)):
  (accTo (printL l) (k+1)).data.toList=(accTo (printL l) k).data.toList++lineI l[k] D 0++[10]:=by
 have hk2:k<(printL l).length:=by rw [printL_length];exact hk
 have hln:(lineAt (printL l) k).data.toList=lineI l[k] D 0:=by
  rw [lineAt_get _ _ hk2]
  have:=congrArg (fun t:ByteArray=>t.data.toList) (printG_at l 0 k hk)
  have hd:=depL_at l 0 k hk
  have e:((depL 0 l)[k]'(by rw [depL_length];exact hk)).toNat=D:=by
   rw [List.getElem?_eq_getElem (by rw [depL_length];exact hk)] at hD
   injection hD with hD
   rw [hD];rfl
  rw [e] at this
  exact this.trans (baL_list _)
 rw [accTo,ByteArray.data_append,ByteArray.data_append,Array.toList_append,Array.toList_append,hln]
theorem acc_len {l:List It} (hz:ShortI l) (hd:docB l=true): ∀k,k≤l.length→(accTo (printL l) k).data.toList.length≤k*2200000:=by
 intro k
 induction k with
 |zero=>intro _;exact Nat.le_refl _
 |succ k ih=>
  intro hk
  obtain ⟨D,hD,hD4,-⟩:=print_line hd k (by omega)
  rw [acc_next k (by omega) D hD,List.length_append,List.length_append,List.length_singleton]
  have h1:=ih (by omega)
  have h2:=lineI_len l[k] D 0
  obtain ⟨z1,-,-,z4⟩:=hz _ (List.getElem_mem (show k<l.length by omega))
  omega
theorem document_w (w0 w:World) (b:Nat) (v u:Value) (l:List It) (hb:Below w0.heap.size w0 w) (hw:LwAt w0.heap.size b [] w) (hr:RowIt w0 v l) (hz:ShortI l) (hd:docB l=true) (htab:Tab w0)
  (hu: ∃B,w.ownsRow B 3 1 u l.length (ints (dps 0 l))):
  Calls Tryz.prog 63 #[.pointer (some ⟨b,0,none⟩),v,u] w (LwD w0 w b (accTo (printL l) l.length).data.toList):=by
 have h30:=((docB_iff l).mp hd).1
 have HAL:=Lib.hid ((docB_iff l).mp hd).2.1
 have HPL:=Lib.hid (print_line hd)
 have HAN:=Lib.hid (fun (k:Nat) (hk:k<l.length) (D:Nat)=>acc_next (l:=l) k hk D)
 have HLE:=Lib.hid (acc_len hz hd)
 have HZ:=Lib.hid hz;have HT:=Lib.hid htab;have HB:=Lib.hid hb;have HW:=Lib.hid hw;have HR:=Lib.hid hr
 obtain ⟨ao,cap,rfl,h1,h2,h3⟩:=hr
 obtain ⟨B,hu⟩:=hu
 have HU:=Lib.hid hu
 obtain ⟨ua,uc,rfl⟩:=own_shape1 hu
 have H3:=Lib.hid h3
 unfold maxLen at h2
 clear hz htab hb hw hu h3
 go_enter Tryz.func63,Tryz.ntmps63
 go_wp2_with fail
 go_loopw [10] (fun i wr=> ∃k:Nat,k≤l.length∧i= .int .i64 (k:Int)∧LwAt w0.heap.size b (accTo (printL l) k).data.toList wr∧Below w0.heap.size w0 wr∧KL w wr) (fun i _=>l.length-(intOf i).toNat)
 case atStart=>exact ⟨0,Nat.zero_le _,rfl,HW.out,HB.out,KL.refl w⟩
 case round=>
  obtain ⟨k,hk,rfl,hW,hB,hK⟩:=hrel
  have HWR:=Lib.hid hW;have HBR:=Lib.hid hB;have HKR:=Lib.hid hK
  clear hW hB hK
  by_cases hlt:k<l.length
  ·have hltI:(k:Int)<(l.length:Int):=by omega
   have hk0:(0:Int)≤(k:Int):=by omega
   obtain ⟨bl,o,rfl,hbl,cc⟩:=H3.out.resolve_left (by rintro rfl;simp at hlt)
   obtain ⟨u,hu⟩:=cc k hlt
   obtain ⟨d0,d1,d2,d3,hru⟩:=hu.mono hbl HBR.out
   have HRU:=Lib.hid hu.2.2.2.2
   obtain ⟨z1,z2,z3,z4⟩:=HZ.out _ (List.getElem_mem hlt)
   obtain ⟨D,hD,hD4,-⟩:=HPL.out k hlt
   have hvi:itemB l[k]=true:=by have:=HAL.out;rw [List.all_eq_true] at this;exact this _ (List.getElem_mem hlt)
   have HNX:=Lib.hid (HAN.out k hlt D hD)
   have hacc:=HLE.out k hk
   obtain ⟨bd,hbd,hdd⟩:=own_at HU.out (by omega:0<l.length)
   subst hbd
   have HDD:=Lib.hid (fun (W':World) (hk':KL w W')=>hdd W' hk' k hlt D hD)
   clear hdd
   generalize l[k]=it at d0 d1 d2 d3 hru HRU hvi z1 z2 z4 HNX
   obtain ⟨ik,inm,ics,int⟩:=it
   simp only at d0 d1 d2 d3 hru HRU z1 z2 z4
   obtain ⟨au,cu,rfl⟩: ∃au cu,u= .slice au ics.length cu:=by obtain ⟨au,cu,h,-⟩:=hru;exact ⟨au,cu,h⟩
   have X1:=Lib.hid (BxAt.new wr ik inm (.slice au ics.length cu) int)
   have BX:=Lib.hid ((Below.refl wr.heap.size wr).alloc (Nat.le_refl _) (.cells #[.int .i64 ik, .string inm, .slice au ics.length cu, .string int] 25))
   have WD:=Lib.hid (HWR.out.later BX.out.drew)
   have BD:=Lib.hid (HBR.out.trans (BX.out.drew.mono HBR.out.size))
   have KX:=Lib.hid (HKR.out.trans (KL.alloc wr (.cells #[.int .i64 ik, .string inm, .slice au ics.length cu, .string int] 25)))
   have KD:=Lib.hid (KX.out.trans (show KL _ (wr.alloc (.cells #[.int .i64 ik, .string inm, .slice au ics.length cu, .string int] 25)).drew from KL.refl _))
   have dd:=HDD.out _ KX.out
   obtain ⟨x0,x1,x2,x3⟩:=X1.out.cells
   have HIT:=Lib.hid (fun (w':World) (hb:Below w0.heap.size w0 w') (hw:LwAt w0.heap.size b (accTo (printL l) k).data.toList w')=>item_w w0 w' b _ (ik,inm,ics,int) (.slice au ics.length cu) D hvi hb hw HRU.out (sizedC_of_short z2) HT.out z1 z4 hD4 (by omega))
   clear hvi z1 z2 z3 z4 hru hD
   have hbk0:(k:Int)<(l.length:Int):=hltI
   go_wp2_with fail
   go_region_with (go_at_call 42;(refine (HIT.out _ BD.out WD.out).mono ?_);rintro e w3 ⟨rfl,h3,hb3,hk3⟩)
   all_goals
    have W3:=Lib.hid h3;have B3:=Lib.hid hb3;have K3:=Lib.hid (KD.out.trans hk3)
    have hln:=HNX.out
    clear h3 hb3 hk3 d0 d1 d2 d3 x0 x1 x2 x3 dd
    have hlen3:((accTo (printL l) k).data.toList++lineI (ik,inm,ics,int) D 0).length≤100000000:=by
     have:=lineI_len (ik,inm,ics,int) D 0
     have h8:=HLE.out (k+1) (by omega)
     rw [hln,List.length_append,List.length_singleton] at h8
     omega
    have HNY:=Lib.hid hln
    clear hln
    go_wp2_with fail
    refine (lByte_any _ b _ 10 10 (by decide) _ W3.out (by omega) B3.out.size).mono ?_
    rintro e w4 ⟨rfl,h4,hb4,hk4⟩
    have W4:=Lib.hid h4;have B4:=Lib.hid (B3.out.trans hb4);have K4:=Lib.hid (K3.out.trans hk4)
    clear h4 hb4 hk4
    go_wp2
    go_roundw
    case rel=>exact ⟨k+1,by omega,by go_num,by rw [HNY.out];exact W4.out,B4.out,K4.out⟩
    case measure=>simp [intOf];omega
  ·obtain rfl:k=l.length:=by omega
   have hltI: ¬(l.length:Int)<(l.length:Int):=by omega
   go_wp2
   go_end0
   exact ⟨rfl,HWR.out,HBR.out,HKR.out⟩
theorem printDocument_impl (v:Value) (l:List It) (w:World) (hr:RowIt w v l) (hz:ShortI l) (hl:l.length≤1048576) (htab:Tab w):
  Calls Tryz.prog 21 #[v] w fun e w'=>e= .returned (.tuple #[.string (printT l), .bool (printK l)])∧Below w.heap.size w w':=by
 have HC:=Lib.hid (documentValid_impl v l w hr (fitI_of_short hz) htab)
 have HR:=Lib.hid hr;have HT:=Lib.hid htab;have HZ:=Lib.hid hz
 obtain ⟨ao,cap,rfl,h1,h2,h3⟩:=hr
 clear h3 hz htab
 cases hok:docB l with
 |false=>
  obtain ⟨hk,ht⟩:=printT_no hok
  rw [hk,ht]
  rw [hok] at HC
  clear hk ht hok
  go_enter Tryz.func21,Tryz.ntmps21
  go_wp2_with fail
  refine HC.out.mono ?_
  rintro e w1 ⟨rfl,hb1⟩
  have HB1:=Lib.hid hb1;clear hb1
  go_wp2
  go_ret2
  exact ⟨rfl,HB1.out⟩
 |true=>
  have HPT:=Lib.hid (print_text hok)
  have HNO:=Lib.hid (show printK l=false→printT l=⟨#[]⟩ from fun h=>by rw [printT,if_neg (by rw [h];simp)])
  have HDW:=Lib.hid (fun (w0 w1:World) (b:Nat) (v u:Value) (hb:Below w0.heap.size w0 w1) (hw:LwAt w0.heap.size b [] w1) (hr:RowIt w0 v l) (ht:Tab w0) (hu: ∃B,w1.ownsRow B 3 1 u l.length (ints (dps 0 l)))=>document_w w0 w1 b v u l hb hw hr HZ.out hok ht hu)
  have HDP:=Lib.hid (fun (w':World) (v:Value) (hr:RowIt w' v l) (ht:Tab w')=>depthsOf_impl v l w' hr (fitI_of_short HZ.out) ht)
  have HDD:=Lib.hid (show dpD l=dps 0 l by unfold dpD;rw [if_pos hok])
  have hlen:(accTo (printL l) l.length).size≤100000000:=by
   have h30:=((docB_iff l).mp hok).1
   have:=acc_len HZ.out hok l.length (Nat.le_refl _)
   rw [size_bytes];omega
  rw [hok] at HC
  obtain ⟨A,hA⟩: ∃A,A=accTo (printL l) l.length:=⟨_,rfl⟩
  rw [←hA] at HDW HPT hlen
  clear hok hA
  go_enter Tryz.func21,Tryz.ntmps21
  go_wp2_with fail
  refine HC.out.mono ?_
  rintro e w1 ⟨rfl,hb1⟩
  have HB1:=Lib.hid hb1;have HR1:=Lib.hid (HR.out.mono hb1);have HT1:=Lib.hid (HT.out.keep hb1)
  have BX:=Lib.hid ((Below.refl w1.heap.size w1).alloc (Nat.le_refl _) (.cells #[.pointer none, .slice none 0 0] 66))
  clear hb1
  go_wp2_with fail
  refine (HDP.out _ _ (HR1.out.mono BX.out) (HT1.out.keep BX.out)).mono ?_
  rintro e w2 ⟨u,rfl,ho2,hb2⟩
  rw [HDD.out,dps_length] at ho2
  have W2:=Lib.hid ((LwAt.new w1).later hb2)
  have B2:=Lib.hid (BX.out.trans (hb2.mono (by simp)))
  have O2:=Lib.hid ho2
  obtain ⟨ua,uc,rfl⟩:=own_shape1 ho2
  clear hb2 ho2
  go_wp2_with fail
  refine (HDW.out w1 w2 w1.heap.size _ _ B2.out W2.out HR1.out HT1.out ⟨_,O2.out⟩).mono ?_
  rintro e w3 ⟨rfl,h3,hb3,-⟩
  have W3:=Lib.hid h3;have B3:=Lib.hid hb3
  clear h3 hb3
  go_wp2_with fail
  refine (lText_all w1.heap.size w1.heap.size _ w3 W3.out B3.out.size).mono ?_
  rintro e w4 ⟨rfl,hb4⟩
  rw [show (⟨A.data.toList.toArray⟩:ByteArray)=A from ByteArray.ext (by simp)]
  have HB4:=Lib.hid (HB1.out.trans ((B3.out.trans hb4).mono HB1.out.size));clear hb4
  go_wp2_with fail
  refine (textValid_impl A _ (by unfold maxLen;omega)).mono ?_
  rintro e w5 ⟨rfl,hw5⟩
  subst hw5
  rw [HPT.out.1]
  have HEQ:=Lib.hid HPT.out.2
  cases hk:printK l with
  |false=>
   have HK:=Lib.hid hk
   clear hk
   go_wp2
   go_ret2
   exact ⟨by rw [HNO.out HK.out,HK.out];rfl,HB4.out⟩
  |true=>
   have HK:=Lib.hid hk
   clear hk
   go_wp2
   go_ret2
   exact ⟨by rw [←HEQ.out HK.out,HK.out];rfl,HB4.out⟩
theorem fnExactPrintDocument_core (a0:Option Addr) (len0 cap0:Nat) (l:List It) (w:World) (hrow:ArgIs w a0 len0 cap0 l) (htab:Tab w):
  Calls Tryz.prog 9 #[.slice a0 len0 cap0] w fun e w'=>e= .returned (.bool true)∧Below w.heap.size w w':=by
 obtain ⟨hlen,hr,hz⟩:=hrow
 have HR:=Lib.hid hr;have HZ:=Lib.hid hz;have HT:=Lib.hid htab
 clear hr hz htab
 go_enter Tryz.func9,Tryz.ntmps9
 go_wp2_with fail
 refine (szItemS_any _ l 1048576 _ HR.out HZ.out (by omega) (by omega)).mono ?_
 rintro e w1 ⟨⟨m,rfl,hm⟩,hb1⟩
 have HB1:=Lib.hid hb1;clear hb1
 by_cases hm0:0≤m
 ·obtain ⟨hl,hsh⟩:=hm hm0
  have HSB:=Lib.hid (short_ofI (n:=1048576) (by omega) hsh (by omega))
  have hl1:l.length≤1048576:=by omega
  have HLL:=Lib.hid (show∀b∈l,b.2.2.1.length≤1048576 from fun b hb=>(HSB.out b hb).2.2.1)
  clear hm hsh
  go_wp2_with fail
  refine (toItemS_any _ l _ (HR.out.mono HB1.out) hl1 HLL.out).mono ?_
  rintro e w2 ⟨v2,us2,rfl,ho2,hb2⟩
  have R2:=Lib.hid ho2.reads;have HB2:=Lib.hid (HB1.out.trans (hb2.mono HB1.out.size));clear ho2 hb2
  go_wp2_with fail
  refine (printDocument_spec v2 l _ R2.out HSB.out hl1).mono ?_
  rintro e w3 ⟨rfl,hb3⟩
  have HB3:=Lib.hid (HB2.out.trans (hb3.mono HB2.out.size));clear hb3
  go_wp2_with fail
  refine (toItemS_any _ l _ (HR.out.mono HB3.out) hl1 HLL.out).mono ?_
  rintro e w4 ⟨v4,us4,rfl,ho4,hb4⟩
  have R4:=Lib.hid ho4.reads;have HB4:=Lib.hid (HB3.out.trans (hb4.mono HB3.out.size));clear ho4 hb4
  go_wp2_with fail
  refine (printDocument_impl v4 l _ R4.out HSB.out hl1 (HT.out.keep HB4.out)).mono ?_
  rintro e w5 ⟨rfl,hb5⟩
  have R5:=Lib.hid (R4.out.mono hb5)
  have HB5:=Lib.hid (HB4.out.trans (hb5.mono HB4.out.size));clear hb5
  generalize printT l=T
  generalize printK l=ok
  cases ok
  all_goals
   go_wp2_with fail
   refine (toItemS_any _ l _ (HR.out.mono HB5.out) hl1 HLL.out).mono ?_
   rintro e w6 ⟨v6,us6,rfl,ho6,hb6⟩
   have R6:=Lib.hid ho6.reads;have HB6:=Lib.hid (HB5.out.trans (hb6.mono HB5.out.size))
   have R56:=Lib.hid (R5.out.mono hb6)
   clear ho6 hb6
   go_wp2_with fail
   refine (eqItemS_same _ _ l _ R56.out R6.out).mono ?_
   rintro e w7 ⟨rfl,hb7⟩
   have HB7:=Lib.hid (HB6.out.trans (hb7.mono HB6.out.size));clear hb7
   go_wp2
   go_ret
   exact ⟨rfl,HB7.out⟩
 ·clear hm
  go_wp2
  go_ret
  exact ⟨rfl,HB1.out⟩
end Go.Proofs.YthijkjnngfnfdaaGreatDoor
