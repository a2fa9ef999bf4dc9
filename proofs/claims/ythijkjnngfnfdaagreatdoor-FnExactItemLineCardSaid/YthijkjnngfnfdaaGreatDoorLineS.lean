/-
  spec.l13Line, by its contract.
-/
import Derived.Test.YthijkjnngfnfdaaGreatDoorSpacesS
import Derived.Test.YthijkjnngfnfdaaGreatDoorPrintS
import Derived.Test.YthijkjnngfnfdaaGreatDoorReadLine
import Derived.Test.YthijkjnngfnfdaaGreatDoorNotePlain
set_option linter.unusedVariables false
set_option maxHeartbeats 8000000
set_option maxRecDepth 100000
namespace Go.Proofs.YthijkjnngfnfdaaGreatDoor
open Go.RowKit
theorem txt_any {u:Value} {l:List Cl} (hok:okE l=true) (w:World) (hr:RowC w u l):
  Calls Tryz.prog 89 #[u, .int .i64 0] w fun e w'=>e= .returned (.string ⟨(textE l).toArray⟩)∧Below w.heap.size w w':=by
 obtain ⟨x,hx⟩:=okE_tx hok
 have hoi:=(okE_iff l).mp hok
 rw [textE_of hok hx]
 exact text_all hoi.1 (allW_of hoi.2.1) l.length 0 l.length x w hx (by omega) hr
theorem em_no {s:ByteArray} (h:emB s=false):(s.toList==[])=false∧(s.toList !=[])=true:=by
 have: ¬s.toList=[]:=by
  intro k
  rw [ByteArray.toList_eq] at k
  have h2:s.size=0:=by rw [←ByteArray.size_data,←Array.length_toList,k];rfl
  rw [emB,h2] at h;cases h
 exact ⟨beq_eq_false_iff_ne.mpr this,bne_iff_ne.mpr this⟩
theorem em_yes {s:ByteArray} (h:emB s=true):(s.toList !=[])=false:=by rw [bne,(em_t h).1];rfl
theorem line_spec (i : It) (u : Value) (deep W : Nat) (w : World) (hv : itemB i = true) (hr : RowC w u i.2.2.1) (hn : i.2.1.size ≤ 1048576) (ht : i.2.2.2.size ≤ 1048576) (hd : deep ≤ 4) (hW : W ≤ 1000) :
    Calls Tryz.prog 45 #[.agg #[.int .i64 i.1, .string i.2.1, u, .string i.2.2.2], .int .i64 (deep : Int), .int .i64 (W : Int)] w fun e w' => e = .returned (.string (baL (lineI i deep W))) ∧ Below w.heap.size w w' := by
  obtain ⟨k, n, l, t⟩ := i
  simp only at hr hn ht ⊢
  have HV := Lib.hid hv; clear hv
  have HR := Lib.hid hr
  obtain ⟨ao, cap, rfl, hc1, h2, h3⟩ := hr
  clear h3
  unfold maxLen at h2
  have hto : (2 * (deep : Int)).toNat = 2 * deep := by omega
  have HB1 := Lib.hid ((Below.refl w.heap.size w).alloc (Nat.le_refl _) (.cells #[.int .i64 k, .string n, .slice ao l.length cap, .string t] 25))
  have hss := sp_size (2 * deep)
  obtain ⟨S, HS, hS⟩ : ∃ S : ByteArray, Hid (baL (spL (2 * deep)) = S) ∧ S.size = 2 * deep := ⟨_, Lib.hid rfl, hss⟩
  clear hss
  by_cases h1 : k = 1
  · subst h1
    have HL := Lib.hid (show baL (lineI (1, n, l, t) deep W) = ⟨#[]⟩ from ba_eq (by simp [lineI, baL]))
    go_enter Tryz.func45, Tryz.ntmps45
    go_wp2_with fail
    refine (spaces_spec _ _ (by omega)).mono ?_
    rintro e w1 ⟨rfl, hw1⟩
    subst hw1
    rw [hto, HS.out]
    go_wp2
    go_ret
    exact ⟨by rw [HL.out]; rfl, HB1.out⟩
  by_cases h5 : k = 5
  · subst h5
    have HL := Lib.hid (show baL (lineI (5, n, l, t) deep W) = S ++ ⟨#[125]⟩ from by rw [← HS.out]; exact ba_eq (by simp [lineI, coreI, baL]))
    have r0 : ¬ 9223372036854775807 < S.size + 1 := by omega
    go_enter Tryz.func45, Tryz.ntmps45
    go_wp2_with fail
    refine (spaces_spec _ _ (by omega)).mono ?_
    rintro e w1 ⟨rfl, hw1⟩
    subst hw1
    rw [hto, HS.out]
    go_wp2
    go_ret
    exact ⟨by rw [HL.out]; rfl, HB1.out⟩
  by_cases h4 : k = 4
  · subst h4
    have HL := Lib.hid (show baL (lineI (4, n, l, t) deep W) = S ++ n ++ ⟨#[32, 123]⟩ from by rw [← HS.out]; exact ba_eq (by simp [lineI, coreI, baL]))
    have r0 : ¬ 9223372036854775807 < S.size + n.size := by omega
    have r1 : ¬ 9223372036854775807 < S.size + n.size + 2 := by omega
    go_enter Tryz.func45, Tryz.ntmps45
    go_wp2_with fail
    refine (spaces_spec _ _ (by omega)).mono ?_
    rintro e w1 ⟨rfl, hw1⟩
    subst hw1
    rw [hto, HS.out]
    go_wp2
    go_ret
    exact ⟨by rw [HL.out]; rfl, HB1.out⟩
  cases hem : emB t with
  | true =>
    have e1 := (em_t hem).1
    have e2 := em_yes hem
    have HEM := Lib.hid hem; clear hem
    by_cases hk2 : k = 2
    · subst hk2
      have HL := Lib.hid (show baL (lineI (2, n, l, t) deep W) = S ++ ⟨#[35]⟩ from by rw [← HS.out]; exact ba_eq (by simp [lineI, coreI, baL, HEM.out]))
      have r0 : ¬ 9223372036854775807 < S.size + 1 := by omega
      go_enter Tryz.func45, Tryz.ntmps45
      go_wp2_with fail
      refine (spaces_spec _ _ (by omega)).mono ?_
      rintro e w1 ⟨rfl, hw1⟩
      subst hw1
      rw [hto, HS.out]
      go_wp2
      go_ret
      exact ⟨by rw [HL.out]; rfl, HB1.out⟩
    · skip
      have hk3 : k = 3 := by
        have := HV.out
        unfold itemB at this
        simp only at this
        rw [if_neg (by omega), if_neg hk2] at this
        by_cases h : k = 3
        · exact h
        · rw [if_neg h, if_neg h4] at this; cases this
      subst hk3
      have hoe : okE l = true := by
        have := HV.out
        simp only [itemB] at this
        simp at this
        exact this.2.1
      obtain ⟨P, HP, hP⟩ : ∃ P : ByteArray, Hid (baL (spL (W - n.size)) = P) ∧ P.size = W - n.size := ⟨_, Lib.hid rfl, sp_size _⟩
      obtain ⟨X, HX, hX⟩ : ∃ X : ByteArray, Hid ((⟨(textE l).toArray⟩ : ByteArray) = X) ∧ X.size ≤ 12000 := ⟨_, Lib.hid rfl, textE_len l⟩
      have HSP := Lib.hid (show ∀ w', Calls Tryz.prog 88 #[.int .i64 (IntKind.i64.wrap ((W : Int) - (n.size : Int)))] w' (fun e w2 => e = .returned (.string P) ∧ w' = w2) from fun w' => by
        rw [show IntKind.i64.wrap ((W : Int) - (n.size : Int)) = (W : Int) - (n.size : Int) from IntWalk.i64_in _ (by omega), ← HP.out, show W - n.size = ((W : Int) - (n.size : Int)).toNat by omega]
        exact spaces_spec _ w' (by omega))
      have hp2 : P.size ≤ 1000 := by omega
      have HL := Lib.hid (show baL (lineI (3, n, l, t) deep W) = S ++ n ++ P ++ ⟨#[32, 61, 32]⟩ ++ X from by rw [← HS.out, ← HP.out, ← HX.out]; exact ba_eq (by simp [lineI, coreI, baL, HEM.out]))
      have HTX := Lib.hid (fun w' hr' => txt_any (u := .slice ao l.length cap) hoe w' hr')
      have HRB := Lib.hid (HR.out.mono HB1.out)
      have HRD := Lib.hid (show RowC (w.alloc (.cells #[.int .i64 3, .string n, .slice ao l.length cap, .string t] 25)).drew (.slice ao l.length cap) l from HRB.out.drewN 1)
      have r0 : ¬ 9223372036854775807 < S.size + n.size := by omega
      have r1 : ¬ 9223372036854775807 < S.size + n.size + P.size := by omega
      have r2 : ¬ 9223372036854775807 < S.size + n.size + P.size + 3 := by omega
      have r3 : ¬ 9223372036854775807 < S.size + n.size + P.size + 3 + X.size := by omega
      have hlt : w.heap.size < (w.alloc (.cells #[.int .i64 3, .string n, .slice ao l.length cap, .string t] 25)).drew.heap.size := by simp
      clear h4 hk2 h5 h1
      go_enter Tryz.func45, Tryz.ntmps45
      go_wp2_with fail
      refine (spaces_spec _ _ (by omega)).mono ?_
      rintro e w1 ⟨rfl, hw1⟩
      subst hw1
      rw [hto, HS.out]
      clear hS hP hp2 hX hto h2 hc1 ht
      go_wp2_with fail
      go_region_held3 (fun w' => w'.cell? ⟨w.heap.size, 1, none⟩ = some (.string n) ∧ w'.cell? ⟨w.heap.size, 2, none⟩ = some (.slice ao l.length cap) ∧ w'.cell? ⟨w.heap.size, 3, none⟩ = some (.string t))
        (first
          | go_keep
          | (go_split_ands
             refine ⟨?_, ?_, ?_⟩
             · (rw [hb3.cell (by exact hlt)]; assumption)
             · (rw [hb3.cell (by exact hlt)]; assumption)
             · (rw [hb3.cell (by exact hlt)]; assumption)))
        (first
          | ((go_at_call 88; (with_reducible refine (HSP.out _).mono ?_); rintro e w2 ⟨rfl, hw2⟩; subst hw2))
          | ((go_at_call 89; (with_reducible refine (HTX.out _ HRD.out).mono ?_); rintro e w3 ⟨rfl, hb3⟩; rw [HX.out])))
      all_goals
        have HB3 := Lib.hid (HB1.out.drew.trans (hb3.mono HB1.out.size)); clear hb3
        go_wp2
        go_ret
        exact ⟨by rw [HL.out]; rfl, HB3.out⟩
  | false =>
    obtain ⟨e1, e2⟩ := em_no hem
    have HEM := Lib.hid hem; clear hem
    by_cases hk2 : k = 2
    · subst hk2
      have HL := Lib.hid (show baL (lineI (2, n, l, t) deep W) = S ++ ⟨#[35]⟩ ++ ⟨#[32]⟩ ++ t from by rw [← HS.out]; exact ba_eq (by simp [lineI, coreI, baL, HEM.out]))
      have r0 : ¬ 9223372036854775807 < S.size + 1 := by omega
      have r1 : ¬ 9223372036854775807 < S.size + 1 + 1 := by omega
      have r2 : ¬ 9223372036854775807 < S.size + 1 + 1 + t.size := by omega
      go_enter Tryz.func45, Tryz.ntmps45
      go_wp2_with fail
      refine (spaces_spec _ _ (by omega)).mono ?_
      rintro e w1 ⟨rfl, hw1⟩
      subst hw1
      rw [hto, HS.out]
      go_wp2
      go_ret
      exact ⟨by rw [HL.out]; rfl, HB1.out⟩
    · skip
      have hk3 : k = 3 := by
        have := HV.out
        unfold itemB at this
        simp only at this
        rw [if_neg (by omega), if_neg hk2] at this
        by_cases h : k = 3
        · exact h
        · rw [if_neg h, if_neg h4] at this; cases this
      subst hk3
      have hoe : okE l = true := by
        have := HV.out
        simp only [itemB] at this
        simp at this
        exact this.2.1
      obtain ⟨P, HP, hP⟩ : ∃ P : ByteArray, Hid (baL (spL (W - n.size)) = P) ∧ P.size = W - n.size := ⟨_, Lib.hid rfl, sp_size _⟩
      obtain ⟨X, HX, hX⟩ : ∃ X : ByteArray, Hid ((⟨(textE l).toArray⟩ : ByteArray) = X) ∧ X.size ≤ 12000 := ⟨_, Lib.hid rfl, textE_len l⟩
      have HSP := Lib.hid (show ∀ w', Calls Tryz.prog 88 #[.int .i64 (IntKind.i64.wrap ((W : Int) - (n.size : Int)))] w' (fun e w2 => e = .returned (.string P) ∧ w' = w2) from fun w' => by
        rw [show IntKind.i64.wrap ((W : Int) - (n.size : Int)) = (W : Int) - (n.size : Int) from IntWalk.i64_in _ (by omega), ← HP.out, show W - n.size = ((W : Int) - (n.size : Int)).toNat by omega]
        exact spaces_spec _ w' (by omega))
      have hp2 : P.size ≤ 1000 := by omega
      have HL := Lib.hid (show baL (lineI (3, n, l, t) deep W) = S ++ n ++ P ++ ⟨#[32, 61, 32]⟩ ++ X ++ ⟨#[32, 35]⟩ ++ ⟨#[32]⟩ ++ t from by rw [← HS.out, ← HP.out, ← HX.out]; exact ba_eq (by simp [lineI, coreI, baL, HEM.out]))
      have HTX := Lib.hid (fun w' hr' => txt_any (u := .slice ao l.length cap) hoe w' hr')
      have HRB := Lib.hid (HR.out.mono HB1.out)
      have HRD := Lib.hid (show RowC (w.alloc (.cells #[.int .i64 3, .string n, .slice ao l.length cap, .string t] 25)).drew (.slice ao l.length cap) l from HRB.out.drewN 1)
      have r0 : ¬ 9223372036854775807 < S.size + n.size := by omega
      have r1 : ¬ 9223372036854775807 < S.size + n.size + P.size := by omega
      have r2 : ¬ 9223372036854775807 < S.size + n.size + P.size + 3 := by omega
      have r3 : ¬ 9223372036854775807 < S.size + n.size + P.size + 3 + X.size := by omega
      have r4 : ¬ 9223372036854775807 < S.size + n.size + P.size + 3 + X.size + 2 := by omega
      have r5 : ¬ 9223372036854775807 < S.size + n.size + P.size + 3 + X.size + 2 + 1 := by omega
      have r6 : ¬ 9223372036854775807 < S.size + n.size + P.size + 3 + X.size + 2 + 1 + t.size := by omega
      have hlt : w.heap.size < (w.alloc (.cells #[.int .i64 3, .string n, .slice ao l.length cap, .string t] 25)).drew.heap.size := by simp
      clear h4 hk2 h5 h1
      go_enter Tryz.func45, Tryz.ntmps45
      go_wp2_with fail
      refine (spaces_spec _ _ (by omega)).mono ?_
      rintro e w1 ⟨rfl, hw1⟩
      subst hw1
      rw [hto, HS.out]
      clear hS hP hp2 hX hto h2 hc1 ht
      go_wp2_with fail
      go_region_held3 (fun w' => w'.cell? ⟨w.heap.size, 1, none⟩ = some (.string n) ∧ w'.cell? ⟨w.heap.size, 2, none⟩ = some (.slice ao l.length cap) ∧ w'.cell? ⟨w.heap.size, 3, none⟩ = some (.string t))
        (first
          | go_keep
          | (go_split_ands
             refine ⟨?_, ?_, ?_⟩
             · (rw [hb3.cell (by exact hlt)]; assumption)
             · (rw [hb3.cell (by exact hlt)]; assumption)
             · (rw [hb3.cell (by exact hlt)]; assumption)))
        (first
          | ((go_at_call 88; (with_reducible refine (HSP.out _).mono ?_); rintro e w2 ⟨rfl, hw2⟩; subst hw2))
          | ((go_at_call 89; (with_reducible refine (HTX.out _ HRD.out).mono ?_); rintro e w3 ⟨rfl, hb3⟩; rw [HX.out])))
      all_goals
        have HB3 := Lib.hid (HB1.out.drew.trans (hb3.mono HB1.out.size)); clear hb3
        go_wp2
        go_ret
        exact ⟨by rw [HL.out]; rfl, HB3.out⟩
end Go.Proofs.YthijkjnngfnfdaaGreatDoor
