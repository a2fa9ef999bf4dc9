/-
  The walk of laws.FnWrapGreedy.
-/
import Derived.Test.YtbddokfcohnndaaDrawWrapGreedy
import Derived.Test.YtbddokfcohnndaaWrapGI
import Derived.Test.YtbddokfcohnndaaWrapGS
import Derived.Test.YtbddokfcohnndaaWrapCI
import Derived.Test.YtbddokfcohnndaaWrapLen
import Derived.Test.YtbddokfcohnndaaSameInts
import Derived.Test.YtbddokfcohnndaaAlive
import Derived.Test.YtbddokfcohnndaaWrapFew
namespace Go.Proofs.Ytbddokfcohnndaa
open Go.RowKit
set_option linter.unusedVariables false

theorem ints_isZ (L : List Nat) : ints L = intsZ (L.map fun (n : Nat) => (n : Int)) := by simp [ints, intsZ]
theorem greedy_cost {L : List ByteArray} {x : Int} (h : fitB L x = true) : 0 ≤ costW L x ((glB L x).map fun (n : Nat) => (n : Int)) := by
  obtain ⟨n, rfl, h3, h4, h5⟩ := fit_S h
  obtain ⟨c, hc⟩ := gl_ok _ _ rfl h5
  rw [costW_at h (r := some c) (by unfold glB; rw [if_pos h]; exact costZ_some hc)]
  show (0 : Int) ≤ (c : Int)
  omega
/-- The lines, one after another. -/
theorem greedy_at {n : Nat} {S : List Nat} (hf : FitS n S) : ∀ (P : List Nat), ∀ p, p ≤ S.length → gl n (S.drop p) = P → ∀ k (hk : k < P.length), p + (P.take k).sum < S.length ∧ P[k] = fuA n (S.drop (p + (P.take k).sum)) := by
  intro P
  induction P with
  | nil => intro p _ _ k hk; simp at hk
  | cons a P ih =>
    intro p hp hg k hk
    have hne : S.drop p ≠ [] := by intro h; rw [h, gl_nil] at hg; cases hg
    have hpl : p < S.length := by
      by_cases h : p < S.length
      · exact h
      · exact absurd (List.drop_eq_nil_of_le (by omega)) hne
    rw [gl_cons (hf.drop p) hne] at hg
    injection hg with h1 h2
    cases k with
    | zero => simp; exact ⟨hpl, h1.symm⟩
    | succ k =>
      rw [List.drop_drop] at h2
      have hfl := fu_le n (S.drop p)
      rw [List.length_drop] at hfl
      have := ih (p + fuA n (S.drop p)) (by omega) h2 k (by simpa using hk)
      simp only [List.take_succ_cons, List.sum_cons, List.getElem_cons_succ]
      rw [h1] at this
      rw [← Nat.add_assoc]
      exact this
theorem greedy_sum {n : Nat} {S : List Nat} (hf : FitS n S) : (gl n S).sum = S.length := by
  obtain ⟨c, hc⟩ := gl_ok _ _ rfl hf
  obtain ⟨h1, h2, -⟩ := costR_sum _ _ _ _ hc
  have := congrArg List.length h1
  rw [List.length_drop, List.length_nil] at this
  omega

set_option maxRecDepth 100000 in
set_option maxHeartbeats 8000000 in
theorem fnWrapGreedy_core (a0 : Option Addr) (len0 cap0 : Nat) (w : World) (hrow : CodeRow w a0 len0 cap0) :
    Calls Try.prog 9 #[.slice a0 len0 cap0] w fun e w' => e = .returned (.bool true) ∧ Below w.heap.size w w' := by
  have hcap := hrow.1; have hmx := hrow.2.1
  unfold maxLen at hmx
  by_cases hl : len0 ≤ 1048576
  · go_enter Try.func9, Try.ntmps9
    go_wp2_with fail
    refine (drawWrapGreedy_any a0 len0 cap0 _ hrow).mono ?_
    rintro e w1 ⟨L, x, v1, rfl, hL, hsz, hx0, hx1, hown1, hb⟩
    have B1 := Lib.hid hb; have R1 := Lib.hid (RowOf.of_own hown1)
    have Z := Lib.hid (few_sized hsz)
    obtain ⟨a1, c1, rfl⟩ := own_shape hown1
    have hg20 := glB_len L x
    clear hb hrow hown1 hsz
    go_wp2_with fail
    refine (wrapGreedy_impl _ L x _ R1.out Z.out).mono ?_
    rintro e w2 ⟨v2, rfl, hown2, hb2⟩
    obtain ⟨a2, c2, rfl⟩ := own_shape hown2
    have O2 := Lib.hid (RowI.of_own hown2).1; have Q2 := Lib.hid (RowOf.of_own hown2); have R2 := Lib.hid (R1.out.mono hb2); have B2 := Lib.hid (B1.out.trans (hb2.mono B1.out.size))
    clear hown2 hb2 R1 B1
    go_wp2_with fail
    refine (wrapGreedy_spec _ L x _ R2.out Z.out).mono ?_
    rintro e w3 ⟨v3, rfl, hown3, hb3⟩
    obtain ⟨a3, c3, rfl⟩ := own_shape hown3
    have O3 := Lib.hid (RowI.of_own hown3).1; have P3 := Lib.hid (O2.out.mono hb3); have Q3 := Lib.hid (Q2.out.mono hb3); have R3 := Lib.hid (R2.out.mono hb3); have B3 := Lib.hid (B2.out.trans (hb3.mono B2.out.size))
    clear hown3 hb3 R2 B2 O2 Q2
    go_wp2_with fail
    refine (sameInts_same _ _ (glB L x) _ P3.out O3.out).mono ?_
    rintro e w4 ⟨rfl, hb4⟩
    have R4 := Lib.hid (R3.out.mono hb4); have P4 := Lib.hid (P3.out.mono hb4); have Q4 := Lib.hid (Q3.out.mono hb4); have B4 := Lib.hid (B3.out.trans (hb4.mono B3.out.size))
    clear hb4 R3 B3 O3 P3 Q3
    go_wp2_with fail
    refine (wordsFit_spec _ L x _ R4.out Z.out).mono ?_
    rintro e w' ⟨rfl, hw'⟩
    subst hw'
    cases hf : fitB L x with
    | false =>
      have hP : glB L x = [] := by rw [glB, hf]; rfl
      have h0 : (glB L x).length = 0 := by rw [hP]; rfl
      generalize glB L x = P at *
      subst hP
      clear hf
      go_wp2_with fail
      refine (alive_any _).mono ?_
      rintro e w' ⟨rfl, hw'⟩
      subst hw'
      go_wp2
      go_ret
      exact ⟨rfl, B4.out⟩
    | true =>
      have HC := Lib.hid (greedy_cost hf)
      have HCI := Lib.hid (fun w' (h1 : RowOf w' (.slice a1 L.length c1) (strs L)) (h2 : RowOf w' (.slice a2 (glB L x).length c2) (intsZ ((glB L x).map fun (n : Nat) => (n : Int)))) => wrapCost_impl _ _ L x ((glB L x).map fun (n : Nat) => (n : Int)) w' h1 Z.out h2)
      rw [ints_isZ] at Q4
      have hl20 := fit_len hf
      have HZ := Lib.hid (show ∀ k, (hk : k < L.length) → L[k].size ≤ 40 from fun k hk => (fit_sz hf hk).2)
      obtain ⟨n, rfl, hn1, hn40, hfs⟩ := fit_S hf
      have HFS := Lib.hid hfs
      have hgl : glB L (n : Int) = gl n (szW L) := by rw [glB, hf]; rfl
      have HAT := Lib.hid (show ∀ k, (hk : k < (glB L (n : Int)).length) → ((glB L (n : Int)).take k).sum < L.length ∧ (glB L (n : Int))[k] = fuA n ((szW L).drop ((glB L (n : Int)).take k).sum) from fun k hk => by
        have := greedy_at hfs (glB L (n : Int)) 0 (Nat.zero_le _) hgl.symm k hk
        rw [szW_len] at this
        simpa using this)
      have HSUM := Lib.hid (show (glB L (n : Int)).sum = L.length by rw [hgl, greedy_sum hfs, szW_len])
      generalize glB L (n : Int) = P at *
      obtain ⟨ao4, cap4, hv4, q1, q2, q3⟩ := P4.out
      injection hv4 with e1 e2 e3
      subst e1 e3
      have P5 := Lib.hid q3
      obtain ⟨ao5, cap5, hv5, s1, s2, s3⟩ := R4.out
      injection hv5 with e4 e5 e6
      subst e4 e6
      have R5 := Lib.hid s3
      rw [strs_length] at s1
      unfold maxLen at q2 s2
      clear hf hgl q3 s3 hfs e2 e5 P4
      go_wp2
      go_loop [6, 7, 8, 9] (fun a k _ _ => ∃ q : Nat, q ≤ P.length ∧ k = .int .i64 (q : Int) ∧ a = .int .i64 ((P.take q).sum : Int)) (fun _ k _ _ => P.length - (intOf k).toNat)
      case atStart => exact ⟨0, Nat.zero_le _, rfl, rfl⟩
      case round =>
        obtain ⟨q, hq, rfl, rfl⟩ := hrel
        by_cases hlt : q < P.length
        · obtain ⟨b, rfl, hbl, cc⟩ := P5.out.resolve_left (by rintro rfl; simp at hlt)
          have d1 := cc q hlt
          obtain ⟨hp, hf⟩ := HAT.out q hlt
          have HNS := Lib.hid (show (P.take (q + 1)).sum = (P.take q).sum + P[q] by rw [List.take_succ_eq_append_getElem hlt, List.sum_append]; simp)
          obtain ⟨b2, o2, rfl, hb2, cc2⟩ := R5.out.resolve_left (by intro h; have h' := congrArg List.length h; rw [strs_length] at h'; simp only [List.length_nil] at h'; omega)
          generalize hp' : (P.take q).sum = p at *
          clear hp'
          have hfl : fuA n ((szW L).drop p) ≤ L.length - p := by have := fu_le n ((szW L).drop p); rwa [List.length_drop, szW_len] at this
          have hf1 := (HFS.out.drop p).pos (by intro h; have := congrArg List.length h; rw [List.length_drop, szW_len, List.length_nil] at this; omega)
          have hsn := fu_len (w := n) (S := (szW L).drop p) (k := fuA n ((szW L).drop p)) (Nat.le_refl _) (by omega)
          have HNX := Lib.hid (show fuA n ((szW L).drop p) < L.length - p → ¬ slen ((szW L).drop p) (fuA n ((szW L).drop p) + 1) ≤ n from fun h h' => by
            have := (fu_next (w := n) (S := (szW L).drop p) (k := fuA n ((szW L).drop p)) (by rw [List.length_drop, szW_len]; exact h)).mpr h'
            omega)
          rw [← hf] at hfl hf1 hsn HNX
          clear hf
          generalize P[q] = f at d1 HNS hfl hf1 hsn HNX
          have HSL := Lib.hid (show ∀ i, (hi : p + i < L.length) → slen ((szW L).drop p) (i + 1) = slen ((szW L).drop p) i + L[p + i].size + 1 from fun i hi => by
            have := slen_next (L := L.drop p) (k := i) (by rw [List.length_drop]; omega)
            rw [szW_drop] at this
            rw [this, List.getElem_drop])
          have HC2 := Lib.hid (show ∀ i, (hi : i < L.length) → w4.cell? ⟨b2, o2 + i, none⟩ = some (.string L[i]) from fun i hi => cc2 i (.string L[i]) (by simp [strs, hi]))
          have hs0 : slen ((szW L).drop p) 0 = -1 := by simp [slen]
          have HS0 := Lib.hid hs0
          clear cc cc2 hs0
          go_wp2
          go_loop [8, 9] (fun z j => ∃ i : Nat, i ≤ f ∧ j = .int .i64 ((p + i : Nat) : Int) ∧ z = .int .i64 (slen ((szW L).drop p) i)) (fun _ j => p + f - (intOf j).toNat)
          case atStart => exact ⟨0, Nat.zero_le _, rfl, by rw [HS0.out]⟩
          case round =>
            obtain ⟨i, hif, rfl, rfl⟩ := hrel
            have hsb := slen_le (L := L.drop p) (k := i) (fun s hs => by
              obtain ⟨y, hy, rfl⟩ := List.mem_iff_getElem.mp hs
              rw [List.getElem_drop]; exact HZ.out _ (by rw [List.length_drop] at hy; omega))
            rw [szW_drop] at hsb
            by_cases hil : i < f
            · have hpi : p + i < L.length := by omega
              have HN := Lib.hid (HSL.out i hpi)
              have d2 := HC2.out (p + i) hpi
              have ht := HZ.out (p + i) hpi
              generalize L[p + i] = t at HN d2 ht
              obtain ⟨y, hy⟩ : ∃ y, slen ((szW L).drop p) i = y := ⟨_, rfl⟩
              rw [hy] at hsb HN ⊢
              clear hy
              go_wp2
              go_round
              case rel => exact ⟨i + 1, by omega, by go_num, by rw [HN.out]⟩
              case measure => simp [intOf]; omega
            · obtain rfl : i = f := by omega
              by_cases hpe : p + i < L.length
              · have HN := Lib.hid (HSL.out i hpe)
                have d2 := HC2.out (p + i) hpe
                have ht := HZ.out (p + i) hpe
                have hno := HNX.out (by omega)
                rw [HN.out] at hno
                generalize L[p + i] = t at HN d2 ht hno
                obtain ⟨y, hy⟩ : ∃ y, slen ((szW L).drop p) i = y := ⟨_, rfl⟩
                rw [hy] at hsb HN hsn hno ⊢
                clear hy
                go_wp2
                go_round
                case rel => exact ⟨q + 1, by omega, by go_num, by rw [HNS.out]; go_num⟩
                case measure => simp [intOf]; omega
              · have hpe' : p + i = L.length := by omega
                obtain ⟨y, hy⟩ : ∃ y, slen ((szW L).drop p) i = y := ⟨_, rfl⟩
                rw [hy] at hsb hsn ⊢
                clear hy hpe'
                go_wp2
                go_round
                case rel => exact ⟨q + 1, by omega, by go_num, by rw [HNS.out]; go_num⟩
                case measure => simp [intOf]; omega
        · have hsum : (P.take q).sum = L.length := by rw [List.take_of_length_le (by omega)]; exact HSUM.out
          rw [hsum]
          clear hsum
          have hcost := HC.out
          have HCX := Lib.hid (HCI.out w4 R4.out Q4.out)
          generalize costW L (n : Int) (P.map fun (n : Nat) => (n : Int)) = z at hcost HCX
          have hLL : ((L.length : Int) == (L.length : Int)) = true := by simp
          go_wp2_with fail
          refine HCX.out.mono ?_
          rintro e w' ⟨rfl, hw'⟩
          subst hw'
          go_wp2
          go_ret
          exact ⟨rfl, B4.out⟩
  · go_enter Try.func9, Try.ntmps9
    go_wp2
    go_ret
    exact ⟨rfl, Below.refl _ _⟩

end Go.Proofs.Ytbddokfcohnndaa
