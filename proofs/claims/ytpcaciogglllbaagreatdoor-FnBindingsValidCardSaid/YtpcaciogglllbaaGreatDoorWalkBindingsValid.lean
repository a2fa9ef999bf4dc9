/-
  The walk of laws.FnBindingsValid.
-/
import Derived.Test.YtpcaciogglllbaaGreatDoorBValI
import Derived.Test.YtpcaciogglllbaaGreatDoorBindS
import Derived.Test.YtpcaciogglllbaaGreatDoorDrawBinds
import Derived.Test.YtpcaciogglllbaaGreatDoorBaseD
import Derived.Deep.RegionLaw
import Derived.Deep.AppendLies
namespace Go.Proofs.YtpcaciogglllbaaGreatDoor
open Go.RowKit
set_option linter.unusedVariables false

/-- Drawn bindings. -/
def DrawnB (w : World) (e : Ending) (w' : World) : Prop :=
  ∃ (v : Value) (us : List Value) (env : List Bd), e = .returned v ∧ OwnB w' w.heap.size v us env ∧ (∀ b ∈ env, FewB b) ∧ env.length ≤ 7 ∧ Below w.heap.size w w'

set_option maxHeartbeats 1000000 in
theorem drawBindingsValid_any (a : Option Addr) (len cap : Nat) (w : World) (h : CodeRow w a len cap) :
    Calls Tryz.prog 31 #[.slice a len cap] w (DrawnB w) := by
  go_enter Tryz.func31, Tryz.ntmps31
  go_wp2_with fail
  refine (open_codes a len cap _ h).mono ?_
  rintro e w1 ⟨rfl, hr1, hb1, hs1⟩
  have HB := Lib.hid hb1; have HS := Lib.hid hs1
  clear hb1 hs1
  go_wp2_with fail
  refine (bindings_any w.heap.size 0 2 _ (by omega) (by omega) (by omega) hr1).mono ?_
  rintro e w2 ⟨v, us, env, rfl, hown, hfew, hl, hr2, hg2⟩
  have HB2 := Lib.hid (HB.out.trans (grown_below hg2 (by have := HS.out; omega) (Nat.le_refl _)))
  have HO := Lib.hid (hown.lower (base' := w.heap.size) (by have := HS.out; omega)); have HF := Lib.hid hfew
  clear hg2 hr2 HB HS hr1 hown hfew
  go_wp2
  go_ret
  exact ⟨v, us, env, rfl, HO.out, HF.out, hl, HB2.out⟩

theorem shortB_few {env : List Bd} (h : ∀ b ∈ env, FewB b) : ShortB env := fun b hb => by
  obtain ⟨h1, h2, h3⟩ := h b hb
  exact ⟨by omega, fun c hc => by have := h2 c hc; omega, by omega⟩
/-- A row of bindings that is known cell by cell. -/
theorem rowB_own {w : World} {base : Nat} {v : Value} {us : List Value} {env : List Bd} (h : w.ownsRow base 46 2 v env.length (bindF env us)) (hl : us.length = env.length) (hc : ∀ (k : Nat) (h : k < us.length) (h' : k < env.length), RowC w us[k] env[k].2) : RowB w v env := by
  obtain ⟨ao, cap, rfl⟩ := own_shape h
  rcases h.2 with ⟨h1, h2⟩ | ⟨g, cp, cur, h1, hg, hh, hc1, hc2, _⟩
  · injection h1 with e1 e2 e3
    subst e1; subst e3
    exact ⟨none, 0, rfl, by omega, by unfold maxLen; omega, .inl (List.length_eq_zero_iff.mp h2)⟩
  · injection h1 with e1 e2 e3
    subst e1; subst e3
    refine ⟨_, cap, rfl, hc1, hc2, .inr ⟨g, 0, rfl, (h.lt g rfl).2, fun k hk => ?_⟩⟩
    obtain ⟨f0, f1⟩ := bindF_at env us hl.symm k hk (by omega)
    refine ⟨us[k]'(by omega), ?_, ?_, hc k (by omega) hk⟩
    · rw [Nat.zero_add, h.cellAt _ (by omega)]; exact f0
    · rw [Nat.zero_add, h.cellAt _ (by omega)]; exact f1
/-- The part behind the first binding. -/
theorem RowB.tail {w : World} {g o cap : Nat} {b : Bd} {env : List Bd} (h : RowB w (.slice (some ⟨g, o, none⟩) (env.length + 1) cap) (b :: env)) : RowB w (.slice (some ⟨g, o + 2, none⟩) env.length (cap - 1)) env := by
  obtain ⟨ao, cap', hv, h1, h2, h3⟩ := h
  simp only [Value.slice.injEq] at hv
  obtain ⟨rfl, -, rfl⟩ := hv
  rw [List.length_cons] at h1
  refine ⟨_, _, rfl, by omega, by unfold maxLen at h2 ⊢; omega, ?_⟩
  rcases h3 with h3 | ⟨b', o', hA, hlt, hc⟩
  · cases h3
  · simp only [Option.some.injEq, Addr.mk.injEq, and_true] at hA
    obtain ⟨rfl, rfl⟩ := hA
    refine .inr ⟨_, _, rfl, hlt, fun k hk => ?_⟩
    obtain ⟨u, c0, c1, c2⟩ := hc (k + 1) (by rw [List.length_cons]; omega)
    exact ⟨u, by rw [show o + 2 + k * 2 = o + (k + 1) * 2 by omega]; exact c0, by rw [show o + 2 + k * 2 + 1 = o + (k + 1) * 2 + 1 by omega]; exact c1, c2⟩
theorem rowB_nil (w : World) (ao : Option Addr) (cap : Nat) (h : cap ≤ maxLen) : RowB w (.slice ao 0 cap) [] := ⟨ao, cap, rfl, Nat.zero_le _, h, .inl rfl⟩

/-- append of a whole row to a row of one's own, as a guarded step of a region that draws its order. -/
theorem step_append_rowsG {P : Program} {w : World} {ops : Array Oper} {o : Oper} {a : Act} {K : Act → World → Prop} {Q : Exit → Act → World → Prop} {E : Prop} (hw : Region.wanted o (yielded ops a.tmps) = true) (s x : Operand) (t : TypeId)
    (ho : o.op = .call { callee := .builtin .append, args := #[s, x], argTypes := #[t, t] })
    (base : Nat) (e : TypeId) (i : TypeInfo) (z : Value) (size bytes : Nat) (ht : P.underlying t = some (.slice e)) (hi : P.info? e = some i) (hz : i.zero = some z)
    (hsize : i.size = size) (hby : i.bytes = bytes) (hzs : z.cells.size = size) (hsz : 0 < size)
    (v : Value) (n : Nat) (xs : List Value) (hs : a.eval s = v) (hown : w.ownsRow base e size v n xs)
    (ad : Addr) (m c : Nat) (news : List Value) (hx : a.eval x = .slice (some ad) m c) (hl : news.length = m * size) (hnews : ∀ j u, news[j]? = some u → w.cell? (ad.add j) = some u) (h1 : ∀ u ∈ news, u.oneCell' = true)
    (hm : 0 < m) (h63 : n + m ≤ maxLen) (hbytes : (n + m) * bytes ≤ 140737488355328) (hbase : base ≤ w.heap.size) (H : Nat) (hH : w.heap.size = H)
    (h : ∀ g cap w', w'.ownsRow base e size (.slice (some ⟨g, 0, none⟩) (n + m) cap) (n + m) (xs ++ news) → w.grownBy w' v.ownBlock → (v.ownBlock = some g ∨ g = H) → g < w'.heap.size → K (a.put o.dst (.slice (some ⟨g, 0, none⟩) (n + m) cap)) w') :
    if Region.wanted o (yielded ops a.tmps) = true then Oper.wp P o a w K Q else E := by
  rw [if_pos hw]
  exact wp_append_lies w s x t ho base e i z size bytes ht hi hz hsize hby hzs hsz v n xs hs hown ad m c news hx hl hnews h1 hm h63 hbytes hbase H hH h

theorem lit_ownB {X : World} {base g : Nat} (h : X.heap[g]? = some (.cells #[] 46)) (hb : base ≤ g) : X.ownsRow base 46 2 (.slice (some ⟨g, 0, none⟩) 0 0) 0 [] :=
  ⟨rfl, .inr ⟨g, 0, #[], rfl, hb, h, Nat.le_refl _, by unfold maxLen; omega, rfl, rfl⟩⟩
theorem own_newsB {w : World} {base n cap g : Nat} {e : TypeId} {size : Nat} {xs : List Value} (h : w.ownsRow base e size (.slice (some ⟨g, 0, none⟩) n cap) n xs) (hlt : xs.length = n * size) : ∀ j u, xs[j]? = some u → w.cell? ((⟨g, 0, none⟩ : Addr).add j) = some u := fun j u hj => by
  have hlt2 : j < xs.length := by
    by_cases hk : j < xs.length
    · exact hk
    · rw [List.getElem?_eq_none (by omega)] at hj; cases hj
  rw [addz, h.cellAt j (by omega)]; exact hj
theorem bindF_one {w : World} {base : Nat} {v : Value} {us : List Value} {env : List Bd} (h : OwnB w base v us env) : ∀ u ∈ bindF env us, u.oneCell' = true := by
  have key : ∀ (env : List Bd) (us : List Value), (∀ u ∈ us, u.oneCell' = true) → ∀ u ∈ bindF env us, u.oneCell' = true := by
    intro env
    induction env with
    | nil => intro us _ u hu; cases us <;> cases hu
    | cons b env ih =>
      intro us hus u hu
      cases us with
      | nil => cases hu
      | cons x us =>
        simp only [bindF, List.mem_cons] at hu
        rcases hu with rfl | rfl | hu
        · rfl
        · exact hus u (List.mem_cons_self ..)
        · exact ih us (fun y hy => hus y (List.mem_cons_of_mem _ hy)) u hu
  refine key env us (fun u hu => ?_)
  obtain ⟨k, hk, rfl⟩ := List.mem_iff_getElem.mp hu
  obtain ⟨a, c, e⟩ := own_shape (h.each k hk (by have := h.len; omega))
  rw [e]; rfl

theorem RowB.tail2 {w : World} {g cap : Nat} {b : Bd} {env : List Bd} (h : RowB w (.slice (some ⟨g, 0, none⟩) (env.length + 1) cap) (b :: env)) : RowB w (.slice (if cap = 1 then some ⟨g, 0, none⟩ else some ⟨g, 2, none⟩) env.length (cap - 1)) env := by
  have hc : env.length + 1 ≤ cap ∧ cap ≤ maxLen := by
    obtain ⟨ao, cap', hv, h1, h2, h3⟩ := h
    simp only [Value.slice.injEq] at hv
    obtain ⟨rfl, -, rfl⟩ := hv
    exact ⟨h1, h2⟩
  split
  · have h0 : env = [] := List.eq_nil_of_length_eq_zero (by omega)
    subst h0
    exact rowB_nil w _ _ (by have := hc.2; omega)
  · have := h.tail
    rwa [Nat.zero_add] at this
/-- The bindings, and the first one once more. -/
theorem twice_row {w3 w8 : World} {base b8 : Nat} {v v8 u0 : Value} {us : List Value} {b : Bd} {bs : List Bd} (h : OwnB w3 base v (u0 :: us) (b :: bs)) (hb : Below w3.heap.size w3 w8) (h8 : w8.ownsRow b8 46 2 v8 (bs.length + 1 + 1) (bindF (b :: bs) (u0 :: us) ++ [.string b.1, u0])) : RowB w8 v8 ((b :: bs) ++ [b]) := by
  have hl : us.length = bs.length := by have := h.len; simpa using this
  have hlen : ((b :: bs) ++ [b]).length = bs.length + 1 + 1 := by simp
  have key : ∀ (k : Nat) (h1 : k < (u0 :: us).length) (h2 : k < (b :: bs).length), RowC w8 (u0 :: us)[k] (b :: bs)[k].2 := fun k h1 h2 => (RowC.of_own (h.each k h1 h2)).1.mono hb
  refine rowB_own (base := b8) (us := (u0 :: us) ++ [u0]) ?_ (by simp [hl]) (fun k h1 h2 => ?_)
  · rw [hlen, bindF_append _ _ _ _ (by simp [hl])]
    exact h8
  · rw [hlen] at h2
    by_cases hk : k < bs.length + 1
    · rw [List.getElem_append_left (by simp; omega), List.getElem_append_left (by simp; omega)]
      exact key k _ _
    · obtain rfl : k = bs.length + 1 := by omega
      rw [List.getElem_append_right (by simp; omega), List.getElem_append_right (by simp)]
      simp only [List.getElem_singleton]
      exact key 0 (by simp) (by simp)
theorem heap2_new (w : World) (o1 o2 : Obj) : ((w.alloc o1).alloc o2).heap[w.heap.size + 1]? = some o2 := by
  have := heap_alloc_new (w.alloc o1) o2
  simpa using this
theorem heap2_fst (w : World) (o1 o2 : Obj) : ((w.alloc o1).alloc o2).heap[w.heap.size]? = some o1 := by
  rw [Below.heap_alloc _ _ _ (by simp)]; exact heap_alloc_new w o1
theorem news_mono {w X : World} {g B : Nat} {xs : List Value} (h : ∀ j u, xs[j]? = some u → w.cell? ((⟨g, 0, none⟩ : Addr).add j) = some u) (hb : Below B w X) (hg : g < B) : ∀ j u, xs[j]? = some u → X.cell? ((⟨g, 0, none⟩ : Addr).add j) = some u := fun j u hj => by
  have := h j u hj
  rw [addz] at this ⊢
  exact (hb.cell (p := ⟨g, j, none⟩) hg).trans this
theorem drewBV (w : World) : Below w.heap.size w w.drew := ⟨rfl, rfl, rfl, Nat.le_refl _, fun _ _ => rfl⟩

set_option maxRecDepth 100000 in
set_option maxHeartbeats 8000000 in
theorem fnBindingsValid_core (a0 : Option Addr) (len0 cap0 : Nat) (w : World) (hrow : CodeRow w a0 len0 cap0) (htab : Tab w) :
    Calls Tryz.prog 9 #[.slice a0 len0 cap0] w fun e w' => e = .returned (.bool true) ∧ Below w.heap.size w w' := by
  have hcap := hrow.1; have hmx := hrow.2.1
  unfold maxLen at hmx
  by_cases hl : len0 ≤ 1048576
  case neg =>
    clear hrow htab
    go_enter Tryz.func9, Tryz.ntmps9
    go_wp2
    go_ret
    exact ⟨rfl, Below.refl _ _⟩
  have HTAB := Lib.hid htab; clear htab
  obtain ⟨j0, hj, hy0, hy1, hy2⟩ := info_parts infoBd
  go_enter Tryz.func9, Tryz.ntmps9
  go_wp2_with fail
  refine (drawBindingsValid_any a0 len0 cap0 _ hrow).mono ?_
  rintro e w1 ⟨v, us, env, rfl, hown, hfew, hl7, hb1⟩
  have HB1 := Lib.hid hb1; have HO1 := Lib.hid hown; have HF := Lib.hid hfew; have HSB := Lib.hid (shortB_few hfew)
  clear hrow hb1 hown hfew
  obtain ⟨aa, ac, rfl⟩ := own_shape HO1.out.row
  go_wp2_with fail
  refine (bindingsValid_impl _ env w1 HO1.out.reads HSB.out (HTAB.out.keep HB1.out)).mono ?_
  rintro e w2 ⟨rfl, hb2⟩
  have HO2 := Lib.hid (HO1.out.below hb2)
  have HB2 := Lib.hid (HB1.out.trans (hb2.mono HB1.out.size)); clear hb2 HO1
  go_wp2_with fail
  refine (bindingsValid_spec _ env w2 HO2.out.reads HSB.out).mono ?_
  rintro e w3 ⟨rfl, hb3⟩
  have HO3 := Lib.hid (HO2.out.below hb3)
  have HB3 := Lib.hid (HB2.out.trans (hb3.mono HB2.out.size)); clear hb3 HO2
  have HOK := Lib.hid (show bindOK env = true → ∀ b bs, env = b :: bs → bindOK bs = true ∧ bindOK ((b :: bs) ++ [b]) = false from fun h b bs e => ⟨bindOK_tail (by rw [← e]; exact h), bindOK_twice⟩)
  generalize hok : bindOK env = ok at HOK
  clear hok
  cases ok with
  | false =>
    go_wp2_with fail
    refine (alive_any _).mono ?_
    rintro e w' ⟨rfl, rfl⟩
    go_wp2
    go_ret
    exact ⟨rfl, HB3.out⟩
  | true =>
    cases env with
    | nil =>
      go_wp2_with fail
      refine (alive_any _).mono ?_
      rintro e w' ⟨rfl, rfl⟩
      go_wp2
      go_ret
      exact ⟨rfl, HB3.out⟩
    | cons b bs =>
      obtain ⟨h0, h1⟩ := HOK.out rfl b bs rfl
      have H0 := Lib.hid h0; have H1 := Lib.hid h1
      clear h0 h1 HOK
      obtain ⟨u0, us, rfl⟩ : ∃ u0 us', us = u0 :: us' := by
        cases us with
        | nil => have := HO3.out.len; simp at this
        | cons x y => exact ⟨x, y, rfl⟩
      have hl6 : bs.length ≤ 6 := by rw [List.length_cons] at hl7; omega
      obtain ⟨g, rfl, hc1, hc2, hgb, hgl⟩ : ∃ g, aa = some ⟨g, 0, none⟩ ∧ bs.length + 1 ≤ ac ∧ ac ≤ maxLen ∧ w.heap.size ≤ g ∧ g < w3.heap.size := by
        rcases HO3.out.row.2 with ⟨h1, h2⟩ | ⟨g, cp, cur, h1, hg, hh, hc1, hc2, _⟩
        · cases h2
        · injection h1 with e1 e2 e3
          subst e1; subst e3
          exact ⟨g, rfl, by rw [List.length_cons] at hc1; exact hc1, hc2, hg, (HO3.out.row.lt g rfl).2⟩
      unfold maxLen at hc2
      have d0 : w3.cell? ⟨g, 0, none⟩ = some (.string b.1) := (HO3.out.row.cellAt 0 (by simp)).trans rfl
      have d1 : w3.cell? ⟨g, 1, none⟩ = some u0 := (HO3.out.row.cellAt 1 (by simp; omega)).trans rfl
      obtain ⟨ua, uc, rfl⟩ : ∃ a c, u0 = .slice a b.2.length c := own_shape (HO3.out.each 0 (by simp) (by simp))
      have HR3 := Lib.hid (show RowB w3 (.slice (some ⟨g, 0, none⟩) (bs.length + 1) ac) (b :: bs) from HO3.out.reads)
      have HSBT := Lib.hid (show ShortB bs from fun x hx => HSB.out x (List.mem_cons_of_mem _ hx))
      have HSB1 := Lib.hid (show ShortB ((b :: bs) ++ [b]) from fun x hx => by
        rw [List.mem_append, List.mem_singleton] at hx
        rcases hx with hx | rfl
        · exact HSB.out x hx
        · exact HSB.out x (List.mem_cons_self ..))
      have h1I : (1 : Int) ≤ (bs.length : Int) + 1 := by omega
      have h0I : (0 : Int) < (bs.length : Int) + 1 := by omega
      have HTT := Lib.hid (fun w' (hr : RowB w' (.slice (if ac = 1 then some ⟨g, 0, none⟩ else some ⟨g, 2, none⟩) bs.length (ac - 1)) bs) (ht : Tab w') => (show Calls Tryz.prog 30 #[.slice (if ac = 1 then some ⟨g, 0, none⟩ else some ⟨g, 2, none⟩) bs.length (ac - 1)] w' fun e w'' => e = .returned (.bool true) ∧ Below w'.heap.size w' w'' from by
        have := bindingsValid_impl _ bs w' hr HSBT.out ht
        rw [H0.out] at this; exact this))
      have HTF := Lib.hid (fun w' v' (hr : RowB w' v' ((b :: bs) ++ [b])) (ht : Tab w') => (show Calls Tryz.prog 30 #[v'] w' fun e w'' => e = .returned (.bool false) ∧ Below w'.heap.size w' w'' from by
        have := bindingsValid_impl _ _ w' hr HSB1.out ht
        rw [H1.out] at this; exact this))
      have HNW := Lib.hid (own_newsB HO3.out.row (bindF_length _ _ HO3.out.len.symm))
      have HNL := Lib.hid (show (bindF (b :: bs) (.slice ua b.2.length uc :: us)).length = (bs.length + 1) * 2 from bindF_length _ _ HO3.out.len.symm)
      have HN1 := Lib.hid (bindF_one HO3.out)
      have HT3 := Lib.hid (HTAB.out.keep HB3.out)
      have HWS := Lib.hid HB3.out.size
      clear H0 H1
      go_wp2_with fail
      go_region_law
        ((first
          | (refine step_append_rowsG (w := (w4.alloc (.cells #[] 46))) (by kernel_rfl) _ _ _ (by rfl) w4.heap.size 46 j0 (.agg #[.string ByteArray.empty, .slice none 0 0]) 2 40 Tryz.underlying30 hj hy0 hy1 hy2 rfl (by decide) (.slice (some ⟨w4.heap.size, 0, none⟩) 0 0) 0 [] (by rfl) (lit_ownB (heap_alloc_new w4 _) (by omega)) ⟨g, 0, none⟩ (bs.length + 1) ac (bindF (b :: bs) (.slice ua b.2.length uc :: us)) (by rfl) HNL.out (news_mono HNW.out (hb4.alloc (by omega) _) hgl) HN1.out (by omega) (by unfold maxLen; omega) (by omega) (by simp; try omega) (w4.heap.size + 1) (by simp) ?_; intro gg cap7 w7 hown7 hgrow7 hat7 hlt7; replace hown7 : w7.ownsRow w4.heap.size 46 2 (.slice (some ⟨gg, 0, none⟩) (bs.length + 1) cap7) (bs.length + 1) (bindF (b :: bs) (.slice ua b.2.length uc :: us)) := (by simpa using hown7); have hb7 : Below w3.heap.size w3 w7 := (hb4.alloc (by omega) _).grown hgrow7 (by simp; omega) (fun q hq => by have := hq; simp [Value.ownBlock] at this; omega); have HB7 := Lib.hid hb7; have f0 : w7.cell? ⟨g, 0, none⟩ = some (.string b.1) := (hb7.cell (p := ⟨g, 0, none⟩) hgl).trans d0; have f1 : w7.cell? ⟨g, 1, none⟩ = some (.slice ua b.2.length uc) := (hb7.cell (p := ⟨g, 1, none⟩) hgl).trans d1; have hg7 : g < w7.heap.size := Nat.lt_of_lt_of_le hgl hb7.size; have hne7 : ¬ g = w7.heap.size := (by omega); have HO7 := Lib.hid hown7; have HS7 := Lib.hid (show w4.heap.size ≤ w7.heap.size from by have := hgrow7.size; simp at this; omega); clear hown7 hgrow7 hat7 hb7)
          | (refine step_append_rowsG (w := ((w4.alloc (.cells #[] 46)).alloc (.cells #[.string b.1, .slice ua b.2.length uc] 46))) (by kernel_rfl) _ _ _ (by rfl) w4.heap.size 46 j0 (.agg #[.string ByteArray.empty, .slice none 0 0]) 2 40 Tryz.underlying30 hj hy0 hy1 hy2 rfl (by decide) (.slice (some ⟨w4.heap.size, 0, none⟩) 0 0) 0 [] (by rfl) (lit_ownB (heap2_fst w4 _ _) (by omega)) ⟨g, 0, none⟩ (bs.length + 1) ac (bindF (b :: bs) (.slice ua b.2.length uc :: us)) (by rfl) HNL.out (news_mono HNW.out ((hb4.alloc (by omega) _).alloc (by simp; omega) _) hgl) HN1.out (by omega) (by unfold maxLen; omega) (by omega) (by simp; try omega) (w4.heap.size + 2) (by simp) ?_; intro gg cap7 w7 hown7 hgrow7 hat7 hlt7; replace hown7 : w7.ownsRow w4.heap.size 46 2 (.slice (some ⟨gg, 0, none⟩) (bs.length + 1) cap7) (bs.length + 1) (bindF (b :: bs) (.slice ua b.2.length uc :: us)) := (by simpa using hown7); have hb7 : Below w3.heap.size w3 w7 := ((hb4.alloc (by omega) _).alloc (by simp; omega) _).grown hgrow7 (by simp; omega) (fun q hq => by have := hq; simp [Value.ownBlock] at this; omega); have HB7 := Lib.hid hb7; have f0 : w7.cell? ⟨g, 0, none⟩ = some (.string b.1) := (hb7.cell (p := ⟨g, 0, none⟩) hgl).trans d0; have f1 : w7.cell? ⟨g, 1, none⟩ = some (.slice ua b.2.length uc) := (hb7.cell (p := ⟨g, 1, none⟩) hgl).trans d1; have hg7 : g < w7.heap.size := Nat.lt_of_lt_of_le hgl hb7.size; have hne7 : ¬ g = w7.heap.size := (by omega); have HO7 := Lib.hid hown7; have HS7 := Lib.hid (show w4.heap.size ≤ w7.heap.size from by have := hgrow7.size; simp at this; omega); have HC7 := Lib.hid (show w7.heap[w4.heap.size + 1]? = some (.cells #[.string b.1, .slice ua b.2.length uc] 46) from (hgrow7.block (w4.heap.size + 1) (by simp) (by simp [Value.ownBlock])).trans (heap2_new w4 _ _)); clear hown7 hgrow7 hat7 hb7)
          | (refine step_append_rowsG (w := ((w4.alloc (.cells #[.string b.1, .slice ua b.2.length uc] 46)).alloc (.cells #[] 46))) (by kernel_rfl) _ _ _ (by rfl) w4.heap.size 46 j0 (.agg #[.string ByteArray.empty, .slice none 0 0]) 2 40 Tryz.underlying30 hj hy0 hy1 hy2 rfl (by decide) (.slice (some ⟨w4.heap.size + 1, 0, none⟩) 0 0) 0 [] (by rfl) (lit_ownB (heap2_new w4 _ _) (by omega)) ⟨g, 0, none⟩ (bs.length + 1) ac (bindF (b :: bs) (.slice ua b.2.length uc :: us)) (by rfl) HNL.out (news_mono HNW.out ((hb4.alloc (by omega) _).alloc (by simp; omega) _) hgl) HN1.out (by omega) (by unfold maxLen; omega) (by omega) (by simp; try omega) (w4.heap.size + 2) (by simp) ?_; intro gg cap7 w7 hown7 hgrow7 hat7 hlt7; replace hown7 : w7.ownsRow w4.heap.size 46 2 (.slice (some ⟨gg, 0, none⟩) (bs.length + 1) cap7) (bs.length + 1) (bindF (b :: bs) (.slice ua b.2.length uc :: us)) := (by simpa using hown7); have hb7 : Below w3.heap.size w3 w7 := ((hb4.alloc (by omega) _).alloc (by simp; omega) _).grown hgrow7 (by simp; omega) (fun q hq => by have := hq; simp [Value.ownBlock] at this; omega); have HB7 := Lib.hid hb7; have f0 : w7.cell? ⟨g, 0, none⟩ = some (.string b.1) := (hb7.cell (p := ⟨g, 0, none⟩) hgl).trans d0; have f1 : w7.cell? ⟨g, 1, none⟩ = some (.slice ua b.2.length uc) := (hb7.cell (p := ⟨g, 1, none⟩) hgl).trans d1; have hg7 : g < w7.heap.size := Nat.lt_of_lt_of_le hgl hb7.size; have hne7 : ¬ g = w7.heap.size := (by omega); have HO7 := Lib.hid hown7; have HS7 := Lib.hid (show w4.heap.size ≤ w7.heap.size from by have := hgrow7.size; simp at this; omega); have HC7 := Lib.hid (show w7.heap[w4.heap.size]? = some (.cells #[.string b.1, .slice ua b.2.length uc] 46) from (hgrow7.block w4.heap.size (by simp; omega) (by simp [Value.ownBlock])).trans (heap2_fst w4 _ _)); clear hown7 hgrow7 hat7 hb7)
          | (refine step_append_rowsG (w := (w7.alloc (.cells #[.string b.1, .slice ua b.2.length uc] 46))) (by kernel_rfl) _ _ _ (by rfl) w4.heap.size 46 j0 (.agg #[.string ByteArray.empty, .slice none 0 0]) 2 40 Tryz.underlying30 hj hy0 hy1 hy2 rfl (by decide) (.slice (some ⟨gg, 0, none⟩) (bs.length + 1) cap7) (bs.length + 1) (bindF (b :: bs) (.slice ua b.2.length uc :: us)) (by rfl) (HO7.out.alloc _) ⟨w7.heap.size, 0, none⟩ 1 1 [.string b.1, .slice ua b.2.length uc] (by rfl) rfl (World.news_of_block (heap_alloc_new w7 _)) (by simp [Value.oneCell']) (by omega) (by unfold maxLen; omega) (by omega) (by first | exact HS7.out | (have := HS7.out; simp; omega)) (w7.heap.size + 1) (by simp) ?_; intro g8 cap8 w8 hown8 hgrow8 hat8 hlt8; have HB8 := Lib.hid (show Below w3.heap.size w3 w8 from (by first | exact HB7.out.grown hgrow8 HB7.out.size (fun q hq => by have := (HO7.out.lt q hq).1; omega) | exact (HB7.out.alloc HB7.out.size _).grown hgrow8 (by have := HB7.out.size; simp; omega) (fun q hq => by have := (HO7.out.lt q hq).1; omega))); have HR8 := Lib.hid (twice_row HO3.out HB8.out hown8); clear hown8 hgrow8 hat8)
          | (refine step_append_rowsG (w := w7) (by kernel_rfl) _ _ _ (by rfl) w4.heap.size 46 j0 (.agg #[.string ByteArray.empty, .slice none 0 0]) 2 40 Tryz.underlying30 hj hy0 hy1 hy2 rfl (by decide) (.slice (some ⟨gg, 0, none⟩) (bs.length + 1) cap7) (bs.length + 1) (bindF (b :: bs) (.slice ua b.2.length uc :: us)) (by rfl) HO7.out ⟨w4.heap.size + 1, 0, none⟩ 1 1 [.string b.1, .slice ua b.2.length uc] (by rfl) rfl (World.news_of_block HC7.out) (by simp [Value.oneCell']) (by omega) (by unfold maxLen; omega) (by omega) (by first | exact HS7.out | (have := HS7.out; simp; omega)) (w7.heap.size) (by simp) ?_; intro g8 cap8 w8 hown8 hgrow8 hat8 hlt8; have HB8 := Lib.hid (show Below w3.heap.size w3 w8 from (by first | exact HB7.out.grown hgrow8 HB7.out.size (fun q hq => by have := (HO7.out.lt q hq).1; omega) | exact (HB7.out.alloc HB7.out.size _).grown hgrow8 (by have := HB7.out.size; simp; omega) (fun q hq => by have := (HO7.out.lt q hq).1; omega))); have HR8 := Lib.hid (twice_row HO3.out HB8.out hown8); clear hown8 hgrow8 hat8)
          | (refine step_append_rowsG (w := w7) (by kernel_rfl) _ _ _ (by rfl) w4.heap.size 46 j0 (.agg #[.string ByteArray.empty, .slice none 0 0]) 2 40 Tryz.underlying30 hj hy0 hy1 hy2 rfl (by decide) (.slice (some ⟨gg, 0, none⟩) (bs.length + 1) cap7) (bs.length + 1) (bindF (b :: bs) (.slice ua b.2.length uc :: us)) (by rfl) HO7.out ⟨w4.heap.size, 0, none⟩ 1 1 [.string b.1, .slice ua b.2.length uc] (by rfl) rfl (World.news_of_block HC7.out) (by simp [Value.oneCell']) (by omega) (by unfold maxLen; omega) (by omega) (by first | exact HS7.out | (have := HS7.out; simp; omega)) (w7.heap.size) (by simp) ?_; intro g8 cap8 w8 hown8 hgrow8 hat8 hlt8; have HB8 := Lib.hid (show Below w3.heap.size w3 w8 from (by first | exact HB7.out.grown hgrow8 HB7.out.size (fun q hq => by have := (HO7.out.lt q hq).1; omega) | exact (HB7.out.alloc HB7.out.size _).grown hgrow8 (by have := HB7.out.size; simp; omega) (fun q hq => by have := (HO7.out.lt q hq).1; omega))); have HR8 := Lib.hid (twice_row HO3.out HB8.out hown8); clear hown8 hgrow8 hat8)
          | (go_simp; go_at_call 30; (first
              | ((with_reducible refine (HTT.out _ ?_ ?_).mono ?_); (focus (exact (HR3.out.mono (drewBV w3)).tail2)); (focus (exact HT3.out.drew)); rintro e w4 ⟨rfl, hb4⟩; replace hb4 : Below w3.heap.size w3 w4 := (drewBV w3).trans hb4; have e0 : w4.cell? ⟨g, 0, none⟩ = some (.string b.1) := (hb4.cell (p := ⟨g, 0, none⟩) hgl).trans d0; have e1 : w4.cell? ⟨g, 1, none⟩ = some (.slice ua b.2.length uc) := (hb4.cell (p := ⟨g, 1, none⟩) hgl).trans d1; have hs4 : w3.heap.size ≤ w4.heap.size := hb4.size; have hg4 : g < w4.heap.size := (by omega); have hne4 : ¬ g = w4.heap.size := (by omega))
              | ((with_reducible refine (HTF.out _ _ HR8.out ?_).mono ?_); (focus (exact HT3.out.keep HB8.out)); rintro e w9 ⟨rfl, hb9⟩)))))
      all_goals
        go_wp2
        all_goals
          go_ret
          exact ⟨rfl, (HB3.out.trans (HB8.out.mono HB3.out.size)).trans (hb9.mono (Nat.le_trans HB3.out.size HB8.out.size))⟩

end Go.Proofs.YtpcaciogglllbaaGreatDoor
