/-
  The map of all functions, by its contract.
-/
import Derived.Test.YtipmkbahlfkfoaaGreatDoorFunM
import Derived.Test.YtipmkbahlfkfoaaGreatDoorFunR
import Derived.Test.YtipmkbahlfkfoaaGreatDoorFunJ
import Derived.Test.YtipmkbahlfkfoaaGreatDoorMapL
namespace Go.Proofs.YtipmkbahlfkfoaaGreatDoor
open Go.RowKit
set_option linter.unusedVariables false

/-- What every function does. -/
noncomputable def tableF : List (ByteArray × (List (List Cl) → Option (List Cl))) :=
  [(nmLength, oneL lenR), (nmUpper, oneL (textR (mapB upC))), (nmLower, oneL (textR (mapB loC))), (nmMin, numR true), (nmMax, numR false), (nmFirst, oneL (listR5 firstR)), (nmReverse, oneL (listR5 revR)), (nmContains, twoL conR), (nmJoin, twoL joinR)]
theorem table_all (ls : List (List Cl)) : ∀ q ∈ tableF, callF q.1 ls = q.2 ls := by
  intro q hq
  simp only [tableF, List.mem_cons, List.not_mem_nil, or_false] at hq
  rcases hq with rfl | rfl | rfl | rfl | rfl | rfl | rfl | rfl | rfl
  · rw [callF_len]; match ls with
    | [] => rfl
    | [v] => rfl
    | a :: b :: r => rfl
  · rw [callF_up]; match ls with
    | [] => rfl
    | [v] => rfl
    | a :: b :: r => rfl
  · rw [callF_lo]; match ls with
    | [] => rfl
    | [v] => rfl
    | a :: b :: r => rfl
  · rw [callF_min]; match ls with
    | [] => rfl
    | v :: vs => simp only [numR]
  · rw [callF_max]; match ls with
    | [] => rfl
    | v :: vs => simp only [numR]
  · rw [callF_first]; match ls with
    | [] => rfl
    | [v] =>
      show (if kdV v = 5 then (partsV v)[0]? else none) = (if kdV v = 5 then (if kdV v = 5 then (partsV v)[0]? else none) else none)
      split <;> rfl
    | a :: b :: r => rfl
  · rw [callF_rev]; match ls with
    | [] => rfl
    | [v] =>
      show (if kdV v = 5 then lisO (partsV v).reverse else none) = (if kdV v = 5 then (if kdV v = 5 then lisO (partsV v).reverse else none) else none)
      split <;> rfl
    | a :: b :: r => rfl
  · rw [callF_conL]; match ls with
    | [] => rfl
    | [v] => rfl
    | [v, x] => rfl
    | a :: b :: c :: r => rfl
  · rw [callF_join]; match ls with
    | [] => rfl
    | [v] => rfl
    | [v, x] => rfl
    | a :: b :: c :: r => rfl
theorem table_none {nm : ByteArray} (h : ∀ q ∈ tableF, q.1 ≠ nm) (ls : List (List Cl)) : callF nm ls = none := by
  have g : ∀ s, s ∈ tableF.map (·.1) → nm ≠ s := fun s hm e => by
    obtain ⟨q, hq, rfl⟩ := List.mem_map.mp hm
    exact h q hq e.symm
  exact callF_other ⟨g nmLength (by simp [tableF]), g nmUpper (by simp [tableF]), g nmLower (by simp [tableF]), g nmMin (by simp [tableF]), g nmMax (by simp [tableF]), g nmFirst (by simp [tableF]), g nmReverse (by simp [tableF]), g nmContains (by simp [tableF]), g nmJoin (by simp [tableF])⟩

/-- The map so far: names, function values, what they do. -/
def FT (w wi : World) (es : List (ByteArray × Value × (List (List Cl) → Option (List Cl)))) : Prop :=
  MapIs wi w.heap.size (es.map fun p => (p.1, p.2.1)) ∧ (∀ p ∈ es, DoesL p.2.1 w.heap.size wi p.2.2) ∧ Below w.heap.size w wi
theorem FT.lt {w wi : World} {es : List (ByteArray × Value × (List (List Cl) → Option (List Cl)))} (h : FT w wi es) : w.heap.size < wi.heap.size := h.1.lt
theorem FT.call {w wi w' : World} {es : List (ByteArray × Value × (List (List Cl) → Option (List Cl)))} (h : FT w wi es) (hb : Below wi.heap.size wi w') : FT w w' es :=
  ⟨h.1.keep hb, fun p hp => (h.2.1 p hp).keep (Up.of hb), h.2.2.trans (hb.mono h.2.2.size)⟩
theorem FT.add {w wi w' : World} {es : List (ByteArray × Value × (List (List Cl) → Option (List Cl)))} {nm : ByteArray} {F : Value} {R : List (List Cl) → Option (List Cl)} (h : FT w wi es) (hF : DoesL F w.heap.size wi R) (hm : MapIs w' w.heap.size ((es.map fun p => (p.1, p.2.1)) ++ [(nm, F)])) (hg : wi.grownBy w' (some w.heap.size)) :
    FT w w' (es ++ [(nm, F, R)]) := by
  refine ⟨by rw [List.map_append]; exact hm, fun p hp => ?_, h.2.2.grown hg h.2.2.size (fun j hj => by cases hj; exact Nat.le_refl _)⟩
  rw [List.mem_append, List.mem_singleton] at hp
  rcases hp with hp | rfl
  · exact (h.2.1 p hp).keep (Up.grown hg)
  · exact hF.keep (Up.grown hg)
theorem ns_small {es : List (ByteArray × Value × (List (List Cl) → Option (List Cl)))} (names : List ByteArray) (h : es.map (·.1) = names) (ha : ∀ s ∈ names, s.size ≤ 1000) : ∀ p ∈ es.map (fun p => (p.1, p.2.1)), p.1.size ≤ maxLen := by
  intro p hp
  obtain ⟨q, hq, rfl⟩ := List.mem_map.mp hp
  have := ha q.1 (by rw [← h]; exact List.mem_map.mpr ⟨q, hq, rfl⟩)
  unfold maxLen; show q.1.size ≤ _; omega
theorem ns_new {es : List (ByteArray × Value × (List (List Cl) → Option (List Cl)))} (names : List ByteArray) (h : es.map (·.1) = names) {key : ByteArray} (ha : ∀ s ∈ names, s ≠ key) : ∀ p ∈ es.map (fun p => (p.1, p.2.1)), p.1 ≠ key := by
  intro p hp
  obtain ⟨q, hq, rfl⟩ := List.mem_map.mp hp
  exact ha q.1 (by rw [← h]; exact List.mem_map.mpr ⟨q, hq, rfl⟩)
theorem upper_b : ∀ n : Nat, n < 256 → Lib.upperB (UInt8.ofNat n) = upC (UInt8.ofNat n) := by decide +kernel
theorem lower_b : ∀ n : Nat, n < 256 → Lib.lowerB (UInt8.ofNat n) = loC (UInt8.ofNat n) := by decide +kernel
theorem upper_is (s : ByteArray) : (⟨(Lib.toUpperA s.data.toList).toArray⟩ : ByteArray) = mapB upC s := by
  unfold mapB Lib.toUpperA
  congr 2
  refine List.map_congr_left fun c _ => ?_
  have h := upper_b c.toNat c.toNat_lt
  rwa [UInt8.ofNat_toNat] at h
theorem lower_is (s : ByteArray) : (⟨(Lib.toLowerA s.data.toList).toArray⟩ : ByteArray) = mapB loC s := by
  unfold mapB Lib.toLowerA
  congr 2
  refine List.map_congr_left fun c _ => ?_
  have h := lower_b c.toNat c.toNat_lt
  rwa [UInt8.ofNat_toNat] at h
theorem plain_all : ∀ n : Nat, n < 256 → okI ((UInt8.ofNat n).toNat : Int) = true → (UInt8.ofNat n).toNat < 128 := by decide +kernel
theorem plain_ascii {s : ByteArray} (h : okC (2, s, 0) = true) : s.size ≤ 60 ∧ ∀ (j : Nat) (b : UInt8), s.data.toList[j]? = some b → b.toNat < 128 := by
  obtain ⟨htb, hsz⟩ : textB s = true ∧ s.size ≤ 60 := by
    simpa [okC, cellB, wordB, manyB] using h
  refine ⟨hsz, fun j b hb => ?_⟩
  rw [textB, Bool.and_eq_true, okL, List.all_eq_true] at htb
  have h1 := htb.2 b (List.mem_of_getElem? hb)
  have h2 := plain_all b.toNat b.toNat_lt
  rw [UInt8.ofNat_toNat] at h2
  exact h2 h1

theorem enter_len : ∀ args w, (callFunc 83 args).run Tryz.prog w = .ok (.enter 83 args) w := enters_of Tryz.func83 (by kernel_rfl) rfl
theorem enter_fst : ∀ args w, (callFunc 91 args).run Tryz.prog w = .ok (.enter 91 args) w := enters_of Tryz.func91 (by kernel_rfl) rfl
theorem enter_rvl : ∀ args w, (callFunc 92 args).run Tryz.prog w = .ok (.enter 92 args) w := enters_of Tryz.func92 (by kernel_rfl) rfl
theorem enter_cnp : ∀ args w, (callFunc 94 args).run Tryz.prog w = .ok (.enter 94 args) w := enters_of Tryz.func94 (by kernel_rfl) rfl
theorem enter_jnt : ∀ args w, (callFunc 95 args).run Tryz.prog w = .ok (.enter 95 args) w := enters_of Tryz.func95 (by kernel_rfl) rfl
theorem enter_lst : ∀ args w, (callFunc 88 args).run Tryz.prog w = .ok (.enter 88 args) w := enters_of Tryz.func88 (by kernel_rfl) rfl
theorem enter_grt : ∀ args w, (callFunc 89 args).run Tryz.prog w = .ok (.enter 89 args) w := enters_of Tryz.func89 (by kernel_rfl) rfl
theorem enter_upp : ∀ args w, (callFunc 85 args).run Tryz.prog w = .ok (.enter 85 args) w := enters_of Tryz.func85 (by kernel_rfl) rfl
theorem enter_low : ∀ args w, (callFunc 86 args).run Tryz.prog w = .ok (.enter 86 args) w := enters_of Tryz.func86 (by kernel_rfl) rfl
theorem does_len (B : Nat) (w : World) : DoesV (.func (.func 83) #[] #[]) B w lenR := ⟨_, _, rfl, enter_len, fun w' u p _ ht hv hok => lengthOf_any u p w' hv hok ht⟩
theorem does_upper (B : Nat) (w : World) : DoesS (.func (.func 85) #[] #[]) B w (mapB upC) := ⟨_, rfl, enter_upp, mapB_size upC, fun w' s _ hs => by
  obtain ⟨h1, h2⟩ := plain_ascii hs
  have h := Tryz.strings_ToUpper_ascii s w' (by omega) h2
  rw [upper_is] at h; exact h⟩
theorem does_lower (B : Nat) (w : World) : DoesS (.func (.func 86) #[] #[]) B w (mapB loC) := ⟨_, rfl, enter_low, mapB_size loC, fun w' s _ hs => by
  obtain ⟨h1, h2⟩ := plain_ascii hs
  have h := Tryz.strings_ToLower_ascii s w' (by omega) h2
  rw [lower_is] at h; exact h⟩
theorem does_min (B : Nat) (w : World) : DoesF (.func (.func 88) #[] #[]) B w true := ⟨_, rfl, enter_lst, fun b o cap v vs w' _ hl hr hv => least_any b o cap v vs w' hl hr hv⟩
theorem does_max (B : Nat) (w : World) : DoesF (.func (.func 89) #[] #[]) B w false := ⟨_, rfl, enter_grt, fun b o cap v vs w' _ hl hr hv => greatest_any b o cap v vs w' hl hr hv⟩
theorem does_first (B : Nat) (w : World) : DoesP (.func (.func 91) #[] #[]) B w firstR := ⟨_, rfl, enter_fst, fun w' v us ps _ ht hr hv hok => firstPart_any v us ps w' hr hv hok ht⟩
theorem does_rev (B : Nat) (w : World) : DoesP (.func (.func 92) #[] #[]) B w revR := ⟨_, rfl, enter_rvl, fun w' v us ps _ ht hr hv hok => reversedList_any v us ps w' hr hv hok ht⟩
theorem does_con (B : Nat) (w : World) : DoesVV (.func (.func 94) #[] #[]) B w conR := ⟨_, rfl, enter_cnp, fun w' u p u' p' _ ht hv hok hv' hok' => containsPart_any u u' p p' w' hv hok hv' hok' ht⟩
theorem does_join (B : Nat) (w : World) : DoesVV (.func (.func 95) #[] #[]) B w joinR := ⟨_, rfl, enter_jnt, fun w' u p u' p' _ ht hv hok hv' hok' => joinedTexts_any u u' p p' w' hv hok hv' hok' ht⟩

/-- What functions() leaves. -/
def FunTab (w : World) (e : Ending) (w' : World) : Prop := ∃ es, e = .returned (.map (some w.heap.size)) ∧ FT w w' es ∧ es.map (fun p => (p.1, p.2.2)) = tableF

set_option maxRecDepth 100000 in
set_option maxHeartbeats 4000000 in
theorem functions_any (w : World) :
    Calls Tryz.prog 44 #[] w (FunTab w) := by
  have hmm := @run_makeMap Tryz.prog
  have H0 := Lib.hid (show FT w (w.alloc (.map #[] 0)) [] from ⟨MapIs.made w, fun p hp => (by cases hp), (Below.refl _ _).alloc (Nat.le_refl _) _⟩)
  go_enter Tryz.func44, Tryz.ntmps44
  go_wp2_with fail
  refine (ofOne_any w.heap.size _ lenR _ H0.out.lt (does_len _ _)).mono ?_
  rintro e w0a ⟨F0, rfl, hd, hb⟩
  have H0a := Lib.hid (H0.out.call hb); have D0 := Lib.hid hd; clear hb hd H0
  go_wp2_with (refine wpList_ins _ rfl _ _ _ 64 rfl 9 62 Tryz.underlying9 Tryz.underlying64 w.heap.size _ rfl H0a.out.1 nmLength F0 rfl rfl (by unfold maxLen; decide) (ns_small [] rfl (by decide)) (ns_new [] rfl (by decide)) ?_; intro w0b hm hg; have H1 := Lib.hid (H0a.out.add D0.out hm hg); clear hm hg)
  refine (ofText_any w.heap.size _ (mapB upC) _ H1.out.lt (does_upper _ _)).mono ?_
  rintro e w1a ⟨F1, rfl, hd, hb⟩
  have H1a := Lib.hid (H1.out.call hb); have D1 := Lib.hid hd; clear hb hd H1
  go_wp2_with (refine wpList_ins _ rfl _ _ _ 64 rfl 9 62 Tryz.underlying9 Tryz.underlying64 w.heap.size _ rfl H1a.out.1 nmUpper F1 rfl rfl (by unfold maxLen; decide) (ns_small [nmLength] rfl (by decide)) (ns_new [nmLength] rfl (by decide)) ?_; intro w1b hm hg; have H2 := Lib.hid (H1a.out.add D1.out hm hg); clear hm hg)
  refine (ofText_any w.heap.size _ (mapB loC) _ H2.out.lt (does_lower _ _)).mono ?_
  rintro e w2a ⟨F2, rfl, hd, hb⟩
  have H2a := Lib.hid (H2.out.call hb); have D2 := Lib.hid hd; clear hb hd H2
  go_wp2_with (refine wpList_ins _ rfl _ _ _ 64 rfl 9 62 Tryz.underlying9 Tryz.underlying64 w.heap.size _ rfl H2a.out.1 nmLower F2 rfl rfl (by unfold maxLen; decide) (ns_small [nmLength, nmUpper] rfl (by decide)) (ns_new [nmLength, nmUpper] rfl (by decide)) ?_; intro w2b hm hg; have H3 := Lib.hid (H2a.out.add D2.out hm hg); clear hm hg)
  refine (ofNumbers_any w.heap.size _ true _ H3.out.lt (does_min _ _)).mono ?_
  rintro e w3a ⟨F3, rfl, hd, hb⟩
  have H3a := Lib.hid (H3.out.call hb); have D3 := Lib.hid hd; clear hb hd H3
  go_wp2_with (refine wpList_ins _ rfl _ _ _ 64 rfl 9 62 Tryz.underlying9 Tryz.underlying64 w.heap.size _ rfl H3a.out.1 nmMin F3 rfl rfl (by unfold maxLen; decide) (ns_small [nmLength, nmUpper, nmLower] rfl (by decide)) (ns_new [nmLength, nmUpper, nmLower] rfl (by decide)) ?_; intro w3b hm hg; have H4 := Lib.hid (H3a.out.add D3.out hm hg); clear hm hg)
  refine (ofNumbers_any w.heap.size _ false _ H4.out.lt (does_max _ _)).mono ?_
  rintro e w4a ⟨F4, rfl, hd, hb⟩
  have H4a := Lib.hid (H4.out.call hb); have D4 := Lib.hid hd; clear hb hd H4
  go_wp2_with (refine wpList_ins _ rfl _ _ _ 64 rfl 9 62 Tryz.underlying9 Tryz.underlying64 w.heap.size _ rfl H4a.out.1 nmMax F4 rfl rfl (by unfold maxLen; decide) (ns_small [nmLength, nmUpper, nmLower, nmMin] rfl (by decide)) (ns_new [nmLength, nmUpper, nmLower, nmMin] rfl (by decide)) ?_; intro w4b hm hg; have H5 := Lib.hid (H4a.out.add D4.out hm hg); clear hm hg)
  refine (ofList_any w.heap.size _ firstR _ H5.out.lt (does_first _ _)).mono ?_
  rintro e w5a ⟨F5, rfl, hd, hb⟩
  have H5a := Lib.hid (H5.out.call hb); have D5 := Lib.hid hd; clear hb hd H5
  go_wp2_with (refine wpList_ins _ rfl _ _ _ 64 rfl 9 62 Tryz.underlying9 Tryz.underlying64 w.heap.size _ rfl H5a.out.1 nmFirst F5 rfl rfl (by unfold maxLen; decide) (ns_small [nmLength, nmUpper, nmLower, nmMin, nmMax] rfl (by decide)) (ns_new [nmLength, nmUpper, nmLower, nmMin, nmMax] rfl (by decide)) ?_; intro w5b hm hg; have H6 := Lib.hid (H5a.out.add D5.out hm hg); clear hm hg)
  refine (ofList_any w.heap.size _ revR _ H6.out.lt (does_rev _ _)).mono ?_
  rintro e w6a ⟨F6, rfl, hd, hb⟩
  have H6a := Lib.hid (H6.out.call hb); have D6 := Lib.hid hd; clear hb hd H6
  go_wp2_with (refine wpList_ins _ rfl _ _ _ 64 rfl 9 62 Tryz.underlying9 Tryz.underlying64 w.heap.size _ rfl H6a.out.1 nmReverse F6 rfl rfl (by unfold maxLen; decide) (ns_small [nmLength, nmUpper, nmLower, nmMin, nmMax, nmFirst] rfl (by decide)) (ns_new [nmLength, nmUpper, nmLower, nmMin, nmMax, nmFirst] rfl (by decide)) ?_; intro w6b hm hg; have H7 := Lib.hid (H6a.out.add D6.out hm hg); clear hm hg)
  refine (ofTwo_any w.heap.size _ conR _ H7.out.lt (does_con _ _)).mono ?_
  rintro e w7a ⟨F7, rfl, hd, hb⟩
  have H7a := Lib.hid (H7.out.call hb); have D7 := Lib.hid hd; clear hb hd H7
  go_wp2_with (refine wpList_ins _ rfl _ _ _ 64 rfl 9 62 Tryz.underlying9 Tryz.underlying64 w.heap.size _ rfl H7a.out.1 nmContains F7 rfl rfl (by unfold maxLen; decide) (ns_small [nmLength, nmUpper, nmLower, nmMin, nmMax, nmFirst, nmReverse] rfl (by decide)) (ns_new [nmLength, nmUpper, nmLower, nmMin, nmMax, nmFirst, nmReverse] rfl (by decide)) ?_; intro w7b hm hg; have H8 := Lib.hid (H7a.out.add D7.out hm hg); clear hm hg)
  refine (ofTwo_any w.heap.size _ joinR _ H8.out.lt (does_join _ _)).mono ?_
  rintro e w8a ⟨F8, rfl, hd, hb⟩
  have H8a := Lib.hid (H8.out.call hb); have D8 := Lib.hid hd; clear hb hd H8
  go_wp2_with (refine wpList_ins _ rfl _ _ _ 64 rfl 9 62 Tryz.underlying9 Tryz.underlying64 w.heap.size _ rfl H8a.out.1 nmJoin F8 rfl rfl (by unfold maxLen; decide) (ns_small [nmLength, nmUpper, nmLower, nmMin, nmMax, nmFirst, nmReverse, nmContains] rfl (by decide)) (ns_new [nmLength, nmUpper, nmLower, nmMin, nmMax, nmFirst, nmReverse, nmContains] rfl (by decide)) ?_; intro w8b hm hg; have H9 := Lib.hid (H8a.out.add D8.out hm hg); clear hm hg)
  go_ret
  exact ⟨_, rfl, H9.out, rfl⟩

end Go.Proofs.YtipmkbahlfkfoaaGreatDoor
