/-
  The walk of laws.FnWordsFit.
-/
import Derived.Test.YtbddokfcohnndaaDrawWordsFit
import Derived.Test.YtbddokfcohnndaaWrapFI
import Derived.Test.YtbddokfcohnndaaWrapFS
import Derived.Test.YtbddokfcohnndaaAlive
import Derived.Test.YtbddokfcohnndaaWrapFew
import Derived.Test.YtbddokfcohnndaaOwnK
import Derived.Deep.AppendLies
namespace Go.Proofs.Ytbddokfcohnndaa
open Go.RowKit
set_option linter.unusedVariables false

/-- append to a row of one's own, as a guarded step. -/
theorem wpList_append_liesG {P : Program} {w : World} {ops : Array Oper} {rest : List Oper} {o : Oper} {a : Act} {Q : Exit → Act → World → Prop} (hw : Region.wanted o (yielded ops a.tmps) = true) (s x : Operand) (t : TypeId)
    (ho : o.op = .call { callee := .builtin .append, args := #[s, x], argTypes := #[t, t] })
    (base : Nat) (e : TypeId) (i : TypeInfo) (z : Value) (size bytes : Nat) (ht : P.underlying t = some (.slice e)) (hi : P.info? e = some i) (hz : i.zero = some z)
    (hsize : i.size = size) (hby : i.bytes = bytes) (hzs : z.cells.size = size) (hsz : 0 < size)
    (v : Value) (n : Nat) (xs : List Value) (hs : a.eval s = v) (hown : w.ownsRow base e size v n xs)
    (ad : Addr) (m c : Nat) (news : List Value) (hx : a.eval x = .slice (some ad) m c) (hl : news.length = m * size) (hnews : ∀ j u, news[j]? = some u → w.cell? (ad.add j) = some u) (h1 : ∀ u ∈ news, u.oneCell' = true)
    (hm : 0 < m) (h63 : n + m ≤ maxLen) (hbytes : (n + m) * bytes ≤ 140737488355328) (hbase : base ≤ w.heap.size) (H : Nat) (hH : w.heap.size = H)
    (h : ∀ g cap w', w'.ownsRow base e size (.slice (some ⟨g, 0, none⟩) (n + m) cap) (n + m) (xs ++ news) → w.grownBy w' v.ownBlock → (v.ownBlock = some g ∨ g = H) → g < w'.heap.size → wpList P ops Q rest (a.put o.dst (.slice (some ⟨g, 0, none⟩) (n + m) cap)) w') : wpList P ops Q (o :: rest) a w :=
  wpList_step fun K hK => by
    rw [if_pos hw]
    exact wp_append_lies w s x t ho base e i z size bytes ht hi hz hsize hby hzs hsz v n xs hs hown ad m c news hx hl hnews h1 hm h63 hbytes hbase H hH fun g cap w' h2 h3 h4 h5 => hK _ _ (h g cap w' h2 h3 h4 h5)
theorem strs_one (L : List ByteArray) : ∀ u ∈ strs L, u.oneCell' = true := by
  intro u hu; obtain ⟨t, -, rfl⟩ := List.mem_map.mp hu; rfl

set_option maxRecDepth 100000 in
set_option maxHeartbeats 4000000 in
theorem fnWordsFit_core (a0 : Option Addr) (len0 cap0 : Nat) (w : World) (hrow : CodeRow w a0 len0 cap0) :
    Calls Try.prog 7 #[.slice a0 len0 cap0] w fun e w' => e = .returned (.bool true) ∧ Below w.heap.size w w' := by
  have hcap := hrow.1; have hmx := hrow.2.1
  unfold maxLen at hmx
  by_cases hl : len0 ≤ 1048576
  · go_enter Try.func7, Try.ntmps7
    go_wp2_with fail
    refine (drawWordsFit_any a0 len0 cap0 _ hrow).mono ?_
    rintro e w1 ⟨L, x, v1, rfl, hL, hsz, hx0, hx1, hown1, hb⟩
    have B1 := Lib.hid hb; have R1 := Lib.hid (RowOf.of_own hown1)
    have Z := Lib.hid (few_sized hsz)
    obtain ⟨a1, c1, rfl⟩ := own_shape hown1
    clear hb hrow hown1 hsz
    go_wp2_with fail
    refine (wordsFit_impl _ L x _ R1.out Z.out).mono ?_
    rintro e w' ⟨rfl, hw'⟩
    subst hw'
    go_wp2_with fail
    refine (wordsFit_spec _ L x _ R1.out Z.out).mono ?_
    rintro e w' ⟨rfl, hw'⟩
    subst hw'
    obtain ⟨i0, hi, hz0, hz1, hz2⟩ := info_parts infoStr
    have HL0 := Lib.hid (World.ownsRow_lit (base := w1.heap.size) (size := 1) (e := 9) w1 #[] 0 (Nat.le_refl _) (by unfold maxLen; omega) rfl)
    have HB1 := Lib.hid ((Below.refl w1.heap.size w1).alloc (Nat.le_refl _) (.cells #[] 9))
    have HFE := Lib.hid (show fitB (L ++ [(⟨#[]⟩ : ByteArray)]) x = false from fitB_empty L x)
    have Z2 := Lib.hid (show Sized (L ++ [(⟨#[]⟩ : ByteArray)]) from fun t ht => by
      rcases List.mem_append.mp ht with h | h
      · exact Z.out t h
      · simp only [List.mem_singleton] at h; subst h; decide)
    by_cases hL0 : 0 < L.length
    · obtain ⟨ao, cp, hv, s1, s2, s3⟩ := R1.out
      injection hv with e1 e2 e3
      subst e1 e3
      rw [strs_length] at s1
      unfold maxLen at s2
      obtain ⟨b, off, rfl, hbl, cc⟩ := s3.resolve_left (by intro h; have h' := congrArg List.length h; rw [strs_length, List.length_nil] at h'; omega)
      have HNW := Lib.hid (show ∀ j u, (strs L)[j]? = some u → (w1.alloc (.cells #[] 9)).cell? ((⟨b, off, none⟩ : Addr).add j) = some u from fun j u hj => by
        rw [show (⟨b, off, none⟩ : Addr).add j = ⟨b, off + j, none⟩ by unfold Addr.add; split <;> simp_all]
        rw [HB1.out.cell (p := ⟨b, off + j, none⟩) hbl]; exact cc j u hj)
      clear s3 e2 cc
      cases hf : fitB L x with
      | false =>
        clear hf
        go_wp2_with (first
          | (at_builtin; refine wpList_append_liesG (by kernel_rfl) _ _ 22 rfl w1.heap.size 9 i0 (.string ByteArray.empty) 1 16 Try.underlying22 hi hz0 hz1 hz2 rfl (by decide) (.slice (some ⟨w1.heap.size, 0, none⟩) 0 0) 0 [] rfl HL0.out ⟨b, off, none⟩ L.length c1 (strs L) rfl (by rw [strs_length, Nat.mul_one]) HNW.out (strs_one L) (by omega) (by unfold maxLen; omega) (by omega) (by simp) (w1.heap.size + 1) (by simp) ?_; intro g2 cap2 w2 hown2 hgrow2 hat2 hlt2; have HO2 := Lib.hid (show w2.ownsRow w1.heap.size 9 1 (.slice (some ⟨g2, 0, none⟩) L.length cap2) L.length (strs L) by simpa using hown2); have HB2 := Lib.hid (HB1.out.grown hgrow2 (by simp) (fun y hy => (HL0.out.lt y hy).1)); clear hown2 hgrow2 hat2 hlt2)
          | (at_builtin; refine wpList_append_liesG (by kernel_rfl) _ _ 22 rfl w1.heap.size 9 i0 (.string ByteArray.empty) 1 16 Try.underlying22 hi hz0 hz1 hz2 rfl (by decide) (.slice (some ⟨g2, 0, none⟩) L.length cap2) L.length (strs L) rfl (HO2.out.alloc _) ⟨w2.heap.size, 0, none⟩ 1 1 [.string ⟨#[]⟩] rfl rfl (World.news_of_block (cs := #[.string ⟨#[]⟩]) (t := 9) (fr := (0, 0)) (heap_alloc_new w2 _)) (str_oneCell _) (by omega) (by unfold maxLen; omega) (by omega) (by simp; exact Nat.le_succ_of_le HB2.out.size) (w2.heap.size + 1) (by simp) ?_; intro g3 cap3 w3 hown3 hgrow3 hat3 hlt3; have R3 := Lib.hid (show RowOf w3 _ (strs (L ++ [⟨#[]⟩])) by rw [strs_append]; exact RowOf.of_own hown3); have HB3 := Lib.hid ((HB2.out.alloc HB2.out.size _).grown hgrow3 (by simp; exact Nat.le_succ_of_le HB2.out.size) (fun y hy => (HO2.out.lt y hy).1)); clear hown3 hgrow3 hat3 hlt3))
        refine (wordsFit_impl _ (L ++ [⟨#[]⟩]) x _ R3.out Z2.out).mono ?_
        rintro e w' ⟨rfl, hw'⟩
        subst hw'
        rw [HFE.out]
        go_wp2_with fail
        refine (alive_any _).mono ?_
        rintro e w' ⟨rfl, hw'⟩
        subst hw'
        go_wp2
        go_ret
        exact ⟨rfl, B1.out.trans (HB3.out.mono B1.out.size)⟩
      | true =>
        by_cases h40 : x = 40
        · have h40b : (x == 40) = true := by simpa using h40
          clear hf h40
          go_wp2_with (first
            | (at_builtin; refine wpList_append_liesG (by kernel_rfl) _ _ 22 rfl w1.heap.size 9 i0 (.string ByteArray.empty) 1 16 Try.underlying22 hi hz0 hz1 hz2 rfl (by decide) (.slice (some ⟨w1.heap.size, 0, none⟩) 0 0) 0 [] rfl HL0.out ⟨b, off, none⟩ L.length c1 (strs L) rfl (by rw [strs_length, Nat.mul_one]) HNW.out (strs_one L) (by omega) (by unfold maxLen; omega) (by omega) (by simp) (w1.heap.size + 1) (by simp) ?_; intro g2 cap2 w2 hown2 hgrow2 hat2 hlt2; have HO2 := Lib.hid (show w2.ownsRow w1.heap.size 9 1 (.slice (some ⟨g2, 0, none⟩) L.length cap2) L.length (strs L) by simpa using hown2); have HB2 := Lib.hid (HB1.out.grown hgrow2 (by simp) (fun y hy => (HL0.out.lt y hy).1)); clear hown2 hgrow2 hat2 hlt2)
            | (at_builtin; refine wpList_append_liesG (by kernel_rfl) _ _ 22 rfl w1.heap.size 9 i0 (.string ByteArray.empty) 1 16 Try.underlying22 hi hz0 hz1 hz2 rfl (by decide) (.slice (some ⟨g2, 0, none⟩) L.length cap2) L.length (strs L) rfl (HO2.out.alloc _) ⟨w2.heap.size, 0, none⟩ 1 1 [.string ⟨#[]⟩] rfl rfl (World.news_of_block (cs := #[.string ⟨#[]⟩]) (t := 9) (fr := (0, 0)) (heap_alloc_new w2 _)) (str_oneCell _) (by omega) (by unfold maxLen; omega) (by omega) (by simp; exact Nat.le_succ_of_le HB2.out.size) (w2.heap.size + 1) (by simp) ?_; intro g3 cap3 w3 hown3 hgrow3 hat3 hlt3; have R3 := Lib.hid (show RowOf w3 _ (strs (L ++ [⟨#[]⟩])) by rw [strs_append]; exact RowOf.of_own hown3); have HB3 := Lib.hid ((HB2.out.alloc HB2.out.size _).grown hgrow3 (by simp; exact Nat.le_succ_of_le HB2.out.size) (fun y hy => (HO2.out.lt y hy).1)); clear hown3 hgrow3 hat3 hlt3))
          refine (wordsFit_impl _ (L ++ [⟨#[]⟩]) x _ R3.out Z2.out).mono ?_
          rintro e w' ⟨rfl, hw'⟩
          subst hw'
          rw [HFE.out]
          go_wp2_with fail
          refine (alive_any _).mono ?_
          rintro e w' ⟨rfl, hw'⟩
          subst hw'
          go_wp2
          go_ret
          exact ⟨rfl, B1.out.trans (HB3.out.mono B1.out.size)⟩
        · have h40b : (x == 40) = false := by simpa using h40
          have HMO := Lib.hid (fitB_more hf h40)
          clear hf
          go_wp2_with fail
          refine (wordsFit_impl _ L (x + 1) _ R1.out Z.out).mono ?_
          rintro e w' ⟨rfl, hw'⟩
          subst hw'
          rw [HMO.out]
          go_wp2_with (first
            | (at_builtin; refine wpList_append_liesG (by kernel_rfl) _ _ 22 rfl w1.heap.size 9 i0 (.string ByteArray.empty) 1 16 Try.underlying22 hi hz0 hz1 hz2 rfl (by decide) (.slice (some ⟨w1.heap.size, 0, none⟩) 0 0) 0 [] rfl HL0.out ⟨b, off, none⟩ L.length c1 (strs L) rfl (by rw [strs_length, Nat.mul_one]) HNW.out (strs_one L) (by omega) (by unfold maxLen; omega) (by omega) (by simp) (w1.heap.size + 1) (by simp) ?_; intro g2 cap2 w2 hown2 hgrow2 hat2 hlt2; have HO2 := Lib.hid (show w2.ownsRow w1.heap.size 9 1 (.slice (some ⟨g2, 0, none⟩) L.length cap2) L.length (strs L) by simpa using hown2); have HB2 := Lib.hid (HB1.out.grown hgrow2 (by simp) (fun y hy => (HL0.out.lt y hy).1)); clear hown2 hgrow2 hat2 hlt2)
            | (at_builtin; refine wpList_append_liesG (by kernel_rfl) _ _ 22 rfl w1.heap.size 9 i0 (.string ByteArray.empty) 1 16 Try.underlying22 hi hz0 hz1 hz2 rfl (by decide) (.slice (some ⟨g2, 0, none⟩) L.length cap2) L.length (strs L) rfl (HO2.out.alloc _) ⟨w2.heap.size, 0, none⟩ 1 1 [.string ⟨#[]⟩] rfl rfl (World.news_of_block (cs := #[.string ⟨#[]⟩]) (t := 9) (fr := (0, 0)) (heap_alloc_new w2 _)) (str_oneCell _) (by omega) (by unfold maxLen; omega) (by omega) (by simp; exact Nat.le_succ_of_le HB2.out.size) (w2.heap.size + 1) (by simp) ?_; intro g3 cap3 w3 hown3 hgrow3 hat3 hlt3; have R3 := Lib.hid (show RowOf w3 _ (strs (L ++ [⟨#[]⟩])) by rw [strs_append]; exact RowOf.of_own hown3); have HB3 := Lib.hid ((HB2.out.alloc HB2.out.size _).grown hgrow3 (by simp; exact Nat.le_succ_of_le HB2.out.size) (fun y hy => (HO2.out.lt y hy).1)); clear hown3 hgrow3 hat3 hlt3))
          refine (wordsFit_impl _ (L ++ [⟨#[]⟩]) x _ R3.out Z2.out).mono ?_
          rintro e w' ⟨rfl, hw'⟩
          subst hw'
          rw [HFE.out]
          go_wp2_with fail
          refine (alive_any _).mono ?_
          rintro e w' ⟨rfl, hw'⟩
          subst hw'
          go_wp2
          go_ret
          exact ⟨rfl, B1.out.trans (HB3.out.mono B1.out.size)⟩
    · obtain rfl : L = [] := List.eq_nil_of_length_eq_zero (by omega)
      clear hL0
      have HN2 := Lib.hid (show ((w1.alloc (.cells #[] 9)).alloc (.cells #[.string ⟨#[]⟩] 9)).heap[w1.heap.size + 1]? = some (.cells #[.string ⟨#[]⟩] 9 (0, 0)) by
        have := heap_alloc_new (w1.alloc (.cells #[] 9)) (.cells #[.string ⟨#[]⟩] 9)
        simpa using this)
      cases a1 with
      | none =>
        cases hf : fitB [] x with
        | false =>
          clear hf
          go_wp2_with (at_builtin; refine wpList_append_liesG (by kernel_rfl) _ _ 22 rfl w1.heap.size 9 i0 (.string ByteArray.empty) 1 16 Try.underlying22 hi hz0 hz1 hz2 rfl (by decide) (.slice (some ⟨w1.heap.size, 0, none⟩) 0 0) 0 [] rfl (HL0.out.alloc _) ⟨w1.heap.size + 1, 0, none⟩ 1 1 [.string ⟨#[]⟩] rfl rfl (World.news_of_block (cs := #[.string ⟨#[]⟩]) (t := 9) (fr := (0, 0)) HN2.out) (str_oneCell _) (by omega) (by unfold maxLen; omega) (by omega) (by simp; omega) (w1.heap.size + 2) (by simp) ?_; intro g3 cap3 w3 hown3 hgrow3 hat3 hlt3; have R3 := Lib.hid (show RowOf w3 _ (strs ([] ++ [⟨#[]⟩])) from RowOf.of_own hown3); have HB3 := Lib.hid ((HB1.out.alloc HB1.out.size _).grown hgrow3 (by simp; omega) (fun y hy => (HL0.out.lt y hy).1)); clear hown3 hgrow3 hat3 hlt3)
          refine (wordsFit_impl _ ([] ++ [⟨#[]⟩]) x _ R3.out Z2.out).mono ?_
          rintro e w' ⟨rfl, hw'⟩
          subst hw'
          rw [HFE.out]
          go_wp2_with fail
          refine (alive_any _).mono ?_
          rintro e w' ⟨rfl, hw'⟩
          subst hw'
          go_wp2
          go_ret
          exact ⟨rfl, B1.out.trans (HB3.out.mono B1.out.size)⟩
        | true =>
          by_cases h40 : x = 40
          · have h40b : (x == 40) = true := by simpa using h40
            clear hf h40
            go_wp2_with (at_builtin; refine wpList_append_liesG (by kernel_rfl) _ _ 22 rfl w1.heap.size 9 i0 (.string ByteArray.empty) 1 16 Try.underlying22 hi hz0 hz1 hz2 rfl (by decide) (.slice (some ⟨w1.heap.size, 0, none⟩) 0 0) 0 [] rfl (HL0.out.alloc _) ⟨w1.heap.size + 1, 0, none⟩ 1 1 [.string ⟨#[]⟩] rfl rfl (World.news_of_block (cs := #[.string ⟨#[]⟩]) (t := 9) (fr := (0, 0)) HN2.out) (str_oneCell _) (by omega) (by unfold maxLen; omega) (by omega) (by simp; omega) (w1.heap.size + 2) (by simp) ?_; intro g3 cap3 w3 hown3 hgrow3 hat3 hlt3; have R3 := Lib.hid (show RowOf w3 _ (strs ([] ++ [⟨#[]⟩])) from RowOf.of_own hown3); have HB3 := Lib.hid ((HB1.out.alloc HB1.out.size _).grown hgrow3 (by simp; omega) (fun y hy => (HL0.out.lt y hy).1)); clear hown3 hgrow3 hat3 hlt3)
            refine (wordsFit_impl _ ([] ++ [⟨#[]⟩]) x _ R3.out Z2.out).mono ?_
            rintro e w' ⟨rfl, hw'⟩
            subst hw'
            rw [HFE.out]
            go_wp2_with fail
            refine (alive_any _).mono ?_
            rintro e w' ⟨rfl, hw'⟩
            subst hw'
            go_wp2
            go_ret
            exact ⟨rfl, B1.out.trans (HB3.out.mono B1.out.size)⟩
          · have h40b : (x == 40) = false := by simpa using h40
            have HMO := Lib.hid (fitB_more hf h40)
            clear hf
            go_wp2_with fail
            refine (wordsFit_impl _ [] (x + 1) _ R1.out Z.out).mono ?_
            rintro e w' ⟨rfl, hw'⟩
            subst hw'
            rw [HMO.out]
            go_wp2_with (at_builtin; refine wpList_append_liesG (by kernel_rfl) _ _ 22 rfl w1.heap.size 9 i0 (.string ByteArray.empty) 1 16 Try.underlying22 hi hz0 hz1 hz2 rfl (by decide) (.slice (some ⟨w1.heap.size, 0, none⟩) 0 0) 0 [] rfl (HL0.out.alloc _) ⟨w1.heap.size + 1, 0, none⟩ 1 1 [.string ⟨#[]⟩] rfl rfl (World.news_of_block (cs := #[.string ⟨#[]⟩]) (t := 9) (fr := (0, 0)) HN2.out) (str_oneCell _) (by omega) (by unfold maxLen; omega) (by omega) (by simp; omega) (w1.heap.size + 2) (by simp) ?_; intro g3 cap3 w3 hown3 hgrow3 hat3 hlt3; have R3 := Lib.hid (show RowOf w3 _ (strs ([] ++ [⟨#[]⟩])) from RowOf.of_own hown3); have HB3 := Lib.hid ((HB1.out.alloc HB1.out.size _).grown hgrow3 (by simp; omega) (fun y hy => (HL0.out.lt y hy).1)); clear hown3 hgrow3 hat3 hlt3)
            refine (wordsFit_impl _ ([] ++ [⟨#[]⟩]) x _ R3.out Z2.out).mono ?_
            rintro e w' ⟨rfl, hw'⟩
            subst hw'
            rw [HFE.out]
            go_wp2_with fail
            refine (alive_any _).mono ?_
            rintro e w' ⟨rfl, hw'⟩
            subst hw'
            go_wp2
            go_ret
            exact ⟨rfl, B1.out.trans (HB3.out.mono B1.out.size)⟩
      | some ad =>
        cases hf : fitB [] x with
        | false =>
          clear hf
          go_wp2_with (at_builtin; refine wpList_append_liesG (by kernel_rfl) _ _ 22 rfl w1.heap.size 9 i0 (.string ByteArray.empty) 1 16 Try.underlying22 hi hz0 hz1 hz2 rfl (by decide) (.slice (some ⟨w1.heap.size, 0, none⟩) 0 0) 0 [] rfl (HL0.out.alloc _) ⟨w1.heap.size + 1, 0, none⟩ 1 1 [.string ⟨#[]⟩] rfl rfl (World.news_of_block (cs := #[.string ⟨#[]⟩]) (t := 9) (fr := (0, 0)) HN2.out) (str_oneCell _) (by omega) (by unfold maxLen; omega) (by omega) (by simp; omega) (w1.heap.size + 2) (by simp) ?_; intro g3 cap3 w3 hown3 hgrow3 hat3 hlt3; have R3 := Lib.hid (show RowOf w3 _ (strs ([] ++ [⟨#[]⟩])) from RowOf.of_own hown3); have HB3 := Lib.hid ((HB1.out.alloc HB1.out.size _).grown hgrow3 (by simp; omega) (fun y hy => (HL0.out.lt y hy).1)); clear hown3 hgrow3 hat3 hlt3)
          refine (wordsFit_impl _ ([] ++ [⟨#[]⟩]) x _ R3.out Z2.out).mono ?_
          rintro e w' ⟨rfl, hw'⟩
          subst hw'
          rw [HFE.out]
          go_wp2_with fail
          refine (alive_any _).mono ?_
          rintro e w' ⟨rfl, hw'⟩
          subst hw'
          go_wp2
          go_ret
          exact ⟨rfl, B1.out.trans (HB3.out.mono B1.out.size)⟩
        | true =>
          by_cases h40 : x = 40
          · have h40b : (x == 40) = true := by simpa using h40
            clear hf h40
            go_wp2_with (at_builtin; refine wpList_append_liesG (by kernel_rfl) _ _ 22 rfl w1.heap.size 9 i0 (.string ByteArray.empty) 1 16 Try.underlying22 hi hz0 hz1 hz2 rfl (by decide) (.slice (some ⟨w1.heap.size, 0, none⟩) 0 0) 0 [] rfl (HL0.out.alloc _) ⟨w1.heap.size + 1, 0, none⟩ 1 1 [.string ⟨#[]⟩] rfl rfl (World.news_of_block (cs := #[.string ⟨#[]⟩]) (t := 9) (fr := (0, 0)) HN2.out) (str_oneCell _) (by omega) (by unfold maxLen; omega) (by omega) (by simp; omega) (w1.heap.size + 2) (by simp) ?_; intro g3 cap3 w3 hown3 hgrow3 hat3 hlt3; have R3 := Lib.hid (show RowOf w3 _ (strs ([] ++ [⟨#[]⟩])) from RowOf.of_own hown3); have HB3 := Lib.hid ((HB1.out.alloc HB1.out.size _).grown hgrow3 (by simp; omega) (fun y hy => (HL0.out.lt y hy).1)); clear hown3 hgrow3 hat3 hlt3)
            refine (wordsFit_impl _ ([] ++ [⟨#[]⟩]) x _ R3.out Z2.out).mono ?_
            rintro e w' ⟨rfl, hw'⟩
            subst hw'
            rw [HFE.out]
            go_wp2_with fail
            refine (alive_any _).mono ?_
            rintro e w' ⟨rfl, hw'⟩
            subst hw'
            go_wp2
            go_ret
            exact ⟨rfl, B1.out.trans (HB3.out.mono B1.out.size)⟩
          · have h40b : (x == 40) = false := by simpa using h40
            have HMO := Lib.hid (fitB_more hf h40)
            clear hf
            go_wp2_with fail
            refine (wordsFit_impl _ [] (x + 1) _ R1.out Z.out).mono ?_
            rintro e w' ⟨rfl, hw'⟩
            subst hw'
            rw [HMO.out]
            go_wp2_with (at_builtin; refine wpList_append_liesG (by kernel_rfl) _ _ 22 rfl w1.heap.size 9 i0 (.string ByteArray.empty) 1 16 Try.underlying22 hi hz0 hz1 hz2 rfl (by decide) (.slice (some ⟨w1.heap.size, 0, none⟩) 0 0) 0 [] rfl (HL0.out.alloc _) ⟨w1.heap.size + 1, 0, none⟩ 1 1 [.string ⟨#[]⟩] rfl rfl (World.news_of_block (cs := #[.string ⟨#[]⟩]) (t := 9) (fr := (0, 0)) HN2.out) (str_oneCell _) (by omega) (by unfold maxLen; omega) (by omega) (by simp; omega) (w1.heap.size + 2) (by simp) ?_; intro g3 cap3 w3 hown3 hgrow3 hat3 hlt3; have R3 := Lib.hid (show RowOf w3 _ (strs ([] ++ [⟨#[]⟩])) from RowOf.of_own hown3); have HB3 := Lib.hid ((HB1.out.alloc HB1.out.size _).grown hgrow3 (by simp; omega) (fun y hy => (HL0.out.lt y hy).1)); clear hown3 hgrow3 hat3 hlt3)
            refine (wordsFit_impl _ ([] ++ [⟨#[]⟩]) x _ R3.out Z2.out).mono ?_
            rintro e w' ⟨rfl, hw'⟩
            subst hw'
            rw [HFE.out]
            go_wp2_with fail
            refine (alive_any _).mono ?_
            rintro e w' ⟨rfl, hw'⟩
            subst hw'
            go_wp2
            go_ret
            exact ⟨rfl, B1.out.trans (HB3.out.mono B1.out.size)⟩
  · go_enter Try.func7, Try.ntmps7
    go_wp2
    go_ret
    exact ⟨rfl, Below.refl _ _⟩

end Go.Proofs.Ytbddokfcohnndaa
