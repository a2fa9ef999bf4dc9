/-
  The walk of laws.FnTokenCount.
-/
import Derived.Test.YtiehdnompeibiaaWordsAgain
import Derived.Test.YtiehdnompeibiaaSameTexts
import Derived.Test.YtiehdnompeibiaaAlive
import Derived.Test.YtiehdnompeibiaaDrawTokensOf
import Derived.Laws.AppendOwnNone
namespace Go.Proofs.Ytiehdnompeibiaa
open Go.RowKit
set_option linter.unusedVariables false

theorem strsT_oneCell (L : List ByteArray) : ∀ u ∈ strs L, u.oneCell' = true := by
  intro u hu
  obtain ⟨t, _, rfl⟩ := List.mem_map.1 hu
  rfl
theorem add0 (b j : Nat) : (⟨b, 0, none⟩ : Addr).add j = ⟨b, j, none⟩ := by
  unfold Addr.add; split <;> simp_all
/-- append of all of one own row to another, nil or not. -/
theorem append_row {P : Program} {w : World} {ops : Array Oper} {rest : List Oper} {o : Oper} {a : Act} {Q : Exit → Act → World → Prop} (hgd : o.guard = none) (s x : Operand) (t : TypeId)
    (ho : o.op = .call { callee := .builtin .append, args := #[s, x], argTypes := #[t, t] })
    (base : Nat) (e : TypeId) (i : TypeInfo) (z : Value) (bytes : Nat) (ht : P.underlying t = some (.slice e)) (hi : P.info? e = some i) (hz : i.zero = some z)
    (hsize : i.size = 1) (hby : i.bytes = bytes) (hzs : z.cells.size = 1)
    (v : Value) (n : Nat) (xs : List Value) (hs : a.eval s = v) (hown : w.ownsRow base e 1 v n xs)
    (base2 : Nat) (u : Value) (m : Nat) (ys : List Value) (hx : a.eval x = u) (hsrc : w.ownsRow base2 e 1 u m ys) (h1 : ∀ u ∈ ys, u.oneCell' = true)
    (h63 : n + m ≤ maxLen) (hbytes : (n + m) * bytes ≤ 140737488355328) (hbase : base ≤ w.heap.size)
    (h : ∀ v' w', w'.ownsRow base e 1 v' (n + m) (xs ++ ys) → w.grownBy w' v.ownBlock → wpList P ops Q rest (a.put o.dst v') w') : wpList P ops Q (o :: rest) a w := by
  rcases hsrc.2 with ⟨rfl, rfl⟩ | ⟨g, cap, cur, rfl, -⟩
  · have hy : ys = [] := List.eq_nil_of_length_eq_zero (by have := hsrc.1; omega)
    subst hy
    refine wpList_append_own_none hgd s x t ho base e i 1 ht hi v n xs hs hown hx ?_
    exact h v w (by simpa using hown) (World.grownBy.refl _ _)
  · refine wpList_append_own _ hgd s x t ho base e i z 1 bytes ht hi hz hsize hby hzs (by omega) v n xs hs hown ⟨g, 0, none⟩ m cap ys hx hsrc.1 ?_ h1 h63 hbytes hbase (fun v' w' a1 a2 _ => h v' w' a1 a2)
    intro j y hj
    have hlt : j < ys.length := by
      by_cases hk : j < ys.length
      · exact hk
      · rw [List.getElem?_eq_none (by omega)] at hj; cases hj
    rw [add0, hsrc.cellAt j (by have := hsrc.1; omega)]; exact hj
theorem joined_list (a b : ByteArray) : (a ++ ⟨#[32]⟩ ++ b : ByteArray).data.toList = a.data.toList ++ 32 :: b.data.toList := by simp
theorem joined_size (a b : ByteArray) : (a ++ ⟨#[32]⟩ ++ b : ByteArray).size = a.size + 1 + b.size := by rw [ByteArray.size_append, ByteArray.size_append]; rfl
theorem kept_below {w w1 : World} {base : Nat} {e : TypeId} {size n : Nat} {v : Value} {xs : List Value} (h : w.ownsRow base e size v n xs) (hb : Below w.heap.size w w1) : w1.ownsRow base e size v n xs :=
  h.kept (row := none) ⟨hb.os, hb.tape, hb.output, hb.size, fun i hi _ => hb.block i hi⟩ (by cases hv : v.ownBlock with | none => exact .inl rfl | some x => exact .inr (by simp))

set_option maxRecDepth 100000 in
set_option maxHeartbeats 4000000 in
theorem fnTokenCount_core (a0 : Option Addr) (len0 cap0 : Nat) (a1 : Option Addr) (len1 cap1 : Nat) (w : World) (hrow0 : CodeRow w a0 len0 cap0) (hrow1 : CodeRow w a1 len1 cap1) :
    Calls Try.prog 9 #[.slice a0 len0 cap0, .slice a1 len1 cap1] w fun e w' => e = .returned (.bool true) ∧ Below w.heap.size w w' := by
  obtain ⟨i0, hi, hz0, hz1, hz2⟩ := info_parts infoStr
  have hcap := hrow0.1; have hmx := hrow0.2.1
  have hcap1 := hrow1.1; have hmx1 := hrow1.2.1
  unfold maxLen at hmx hmx1
  by_cases hl : len0 ≤ 1048576
  rotate_left
  · have b0 : decide ((1048576 : Int) < (len0 : Int)) = true := decide_eq_true (by omega)
    go_enter Try.func9, Try.ntmps9
    go_wp2
    go_ret
    exact ⟨rfl, Below.refl _ _⟩
  by_cases hl1 : len1 ≤ 1048576
  rotate_left
  · have b0 : decide ((1048576 : Int) < (len0 : Int)) = false := decide_eq_false (by omega)
    have b1 : decide ((1048576 : Int) < (len1 : Int)) = true := decide_eq_true (by omega)
    go_enter Try.func9, Try.ntmps9
    go_wp2
    go_ret
    exact ⟨rfl, Below.refl _ _⟩
  have b0 : decide ((1048576 : Int) < (len0 : Int)) = false := decide_eq_false (by omega)
  have b1 : decide ((1048576 : Int) < (len1 : Int)) = false := decide_eq_false (by omega)
  go_enter Try.func9, Try.ntmps9
  go_wp2_with fail
  refine (drawTokensOf_any a0 len0 cap0 _ hrow0).mono ?_
  rintro e w1 ⟨s, rfl, hs, hb⟩
  have HB := Lib.hid hb; have HR1 := Lib.hid (hrow1.mono hb)
  clear hb hrow0 hrow1
  have hsm : s.size ≤ maxLen := by unfold maxLen; omega
  go_wp2_with fail
  refine (tokensOf_impl s _ hsm).mono ?_
  rintro e w2 ⟨v2, rfl, hown2, hb2⟩
  obtain ⟨-, ao2, cp2, rfl, -⟩ := RowT.of_own hown2
  have B2 := Lib.hid (HB.out.trans (hb2.mono HB.out.size)); have HR2 := Lib.hid (HR1.out.mono hb2)
  clear hown2 hb2 HB HR1
  go_wp2_with fail
  refine (tokensOf_spec s _ hsm).mono ?_
  rintro e w3 ⟨v3, rfl, hown3, hb3⟩
  obtain ⟨-, ao3, cp3, rfl, -⟩ := RowT.of_own hown3
  have B3 := Lib.hid (B2.out.trans (hb3.mono B2.out.size)); have HR3 := Lib.hid (HR2.out.mono hb3)
  clear hown3 hb3 B2 HR2
  generalize (toksT s).length = n1
  have ee : ∀ b : Bool, (b != b) = false := by intro b; cases b <;> rfl
  have EE := Lib.hid ee; clear ee
  cases hos : okT s with
  | false =>
    clear hos
    go_wp2_with fail
    refine (drawTokensOf_any a1 len1 cap1 _ HR3.out).mono ?_
    rintro e w5 ⟨t, rfl, ht, hb5⟩
    have B5 := Lib.hid (B3.out.trans (hb5.mono B3.out.size))
    clear hb5 B3 HR3
    have htm : t.size ≤ maxLen := by unfold maxLen; omega
    go_wp2_with fail
    refine (tokensOf_impl t _ htm).mono ?_
    rintro e w6 ⟨v6, rfl, hown6, hb6⟩
    have B6 := Lib.hid (B5.out.trans (hb6.mono B5.out.size))
    clear hown6 hb6 B5
    generalize okT t = okt
    go_wp2_with fail
    refine (alive_any _).mono ?_
    rintro e w' ⟨rfl, rfl⟩
    go_wp2
    go_ret
    exact ⟨rfl, B6.out⟩
  | true =>
    have HOS := Lib.hid hos; clear hos
    go_wp2_with fail
    refine (drawTokensOf_any a1 len1 cap1 _ HR3.out).mono ?_
    rintro e w5 ⟨t, rfl, ht, hb5⟩
    have B5 := Lib.hid (B3.out.trans (hb5.mono B3.out.size))
    clear hb5 B3 HR3
    have htm : t.size ≤ maxLen := by unfold maxLen; omega
    go_wp2_with fail
    refine (tokensOf_impl t _ htm).mono ?_
    rintro e w6 ⟨v6, rfl, hown6, hb6⟩
    have B6 := Lib.hid (B5.out.trans (hb6.mono B5.out.size))
    clear hown6 hb6 B5
    cases hot : okT t with
    | false =>
      clear hot
      go_wp2_with fail
      refine (alive_any _).mono ?_
      rintro e w' ⟨rfl, rfl⟩
      go_wp2
      go_ret
      exact ⟨rfl, B6.out⟩
    | true =>
      have HOT := Lib.hid hot; clear hot
      have hjs := joined_size s t
      have HJ := Lib.hid (words_both s t (s ++ ⟨#[32]⟩ ++ t) HOS.out HOT.out (by omega) (joined_list s t))
      have hjm : (s ++ ⟨#[32]⟩ ++ t : ByteArray).size ≤ maxLen := by unfold maxLen; omega
      have n1' := wordsT_small s
      have n2' := wordsT_small t
      clear hjs
      have HJM := Lib.hid hjm; clear hjm
      go_wp2_with fail
      refine (wordsOf_impl _ _ (by exact HJM.out)).mono ?_
      rintro e w7 ⟨v7, rfl, hown7, hb7⟩
      rw [HJ.out] at hown7
      have S7 := Lib.hid (RowOf.of_own hown7); have B7 := Lib.hid (B6.out.trans (hb7.mono B6.out.size))
      clear hown7 hb7 B6
      go_wp2_with fail
      refine (wordsOf_impl s _ hsm).mono ?_
      rintro e w8 ⟨v8, rfl, hown8, hb8⟩
      have hz8 : w7.heap.size + 1 ≤ w8.heap.size := by have := hb8.size; simpa using this
      have O8 := Lib.hid (kept_below (World.ownsRow_lit (base := w7.heap.size) (e := 9) (size := 1) w7 #[] 0 (Nat.le_refl _) (by unfold maxLen; omega) rfl) hb8)
      have C8 := Lib.hid (((Below.refl _ w7).alloc (Nat.le_refl _) _).trans (hb8.mono (by simp)))
      have P8 := Lib.hid hown8
      clear hown8 hb8
      go_wp2_with (at_builtin; refine append_row rfl (.tmp 62) (.tmp 64) 34 rfl w7.heap.size 9 i0 (.string ByteArray.empty) 16 Try.underlying34 hi hz0 hz1 hz2 rfl _ 0 _ rfl O8.out _ _ _ _ rfl P8.out (strsT_oneCell _) (by unfold maxLen; omega) (by omega) C8.out.size ?_; intro v9 w9 hown9 hgrow9; refine Hid.out ?_)
      have O9 := Lib.hid (show w9.ownsRow w7.heap.size 9 1 v9 (wordsT s).length (strs (wordsT s)) by simpa using hown9)
      have C9 := Lib.hid (C8.out.grown hgrow9 C8.out.size (fun q hq => by cases hq; exact Nat.le_refl _))
      clear hown9 hgrow9 O8 C8 P8
      refine Lib.hid ?_
      go_wp2_with fail
      refine (wordsOf_impl t _ htm).mono ?_
      rintro e w10 ⟨v10, rfl, hown10, hb10⟩
      have O10 := Lib.hid (kept_below O9.out hb10)
      have C10 := Lib.hid (C9.out.trans (hb10.mono C9.out.size))
      have P10 := Lib.hid hown10
      clear hown10 hb10 O9 C9
      go_wp2_with (at_builtin; refine append_row rfl (.tmp 65) (.tmp 67) 34 rfl w7.heap.size 9 i0 (.string ByteArray.empty) 16 Try.underlying34 hi hz0 hz1 hz2 rfl _ _ _ rfl O10.out _ _ _ _ rfl P10.out (strsT_oneCell _) (by unfold maxLen; omega) (by omega) C10.out.size ?_; intro v11 w11 hown11 hgrow11; refine Hid.out ?_)
      have C11 := Lib.hid (C10.out.grown hgrow11 C10.out.size (fun q hq => (O10.out.lt q hq).1))
      have R11 := Lib.hid (show RowOf w11 v11 (strs (wordsT s ++ wordsT t)) by rw [strs_append]; exact RowOf.of_own hown11)
      have S11 := Lib.hid (S7.out.mono C11.out)
      have B11 := Lib.hid (B7.out.trans (C11.out.mono B7.out.size))
      clear hown11 hgrow11 O10 C10 P10
      refine Lib.hid ?_
      go_wp2_with fail
      refine (sameTexts_any _ _ _ _ _ S11.out R11.out).mono ?_
      rintro e w12 ⟨rfl, n12, hw12⟩
      have B12 := Lib.hid (show Below w.heap.size w w12 by rw [hw12]; exact B11.out.trans ⟨rfl, rfl, rfl, Nat.le_refl _, fun _ _ => rfl⟩)
      clear hw12
      rw [show decide (wordsT s ++ wordsT t = wordsT s ++ wordsT t) = true by simp]
      go_wp2
      go_ret
      exact ⟨rfl, B12.out⟩

end Go.Proofs.Ytiehdnompeibiaa
