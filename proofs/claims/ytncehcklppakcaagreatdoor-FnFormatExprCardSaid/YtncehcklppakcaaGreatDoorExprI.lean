/-
  impl's cellTree, exprTree, ExprValid, by their contracts.
-/
import Derived.Test.YtncehcklppakcaaGreatDoorGrow
import Derived.Test.YtncehcklppakcaaGreatDoorDepth
import Derived.Test.YtncehcklppakcaaGreatDoorCellI
namespace Go.Proofs.YtncehcklppakcaaGreatDoor
open Go.RowKit
set_option linter.unusedVariables false

open Classical in
/-- An expression whose cells all have p. -/
noncomputable def okP (p : Cl → Bool) (l : List Cl) : Bool := decide (l.length ≤ 60) && (l.all p && decide (∃ d, d ≤ 12 ∧ Exs (amL l) 1 0 l.length d))
theorem okP_iff {p : Cl → Bool} (l : List Cl) : okP p l = true ↔ l.length ≤ 60 ∧ l.all p = true ∧ ∃ d, d ≤ 12 ∧ Exs (amL l) 1 0 l.length d := by
  simp only [okP, Bool.and_eq_true, decide_eq_true_eq]
theorem okP_E (l : List Cl) : okP okC l = okE l := by
  rw [Bool.eq_iff_iff, okP_iff, okE_iff]
theorem okP_len {p : Cl → Bool} {l : List Cl} (h : ¬ l.length ≤ 60) : okP p l = false := by
  rw [Bool.eq_false_iff]; intro h'; exact h ((okP_iff l).mp h').1
theorem okP_cell {p : Cl → Bool} {l : List Cl} (h : ¬ l.all p = true) : okP p l = false := by
  rw [Bool.eq_false_iff]; intro h'; exact h ((okP_iff l).mp h').2.1
theorem okP_of {p : Cl → Bool} {l : List Cl} {t d : Nat} (hx : Exs (amL l) 1 0 t d) (h60 : l.length ≤ 60) (hok : l.all p = true) : okP p l = true ↔ t = l.length ∧ d ≤ 12 := by
  rw [okP_iff]
  constructor
  · rintro ⟨-, -, d', hd, hx'⟩
    obtain ⟨rfl, rfl⟩ := hx.uniq hx'
    exact ⟨rfl, hd⟩
  · rintro ⟨rfl, hd⟩
    exact ⟨h60, hok, d, hd, hx⟩
theorem okP_none {p : Cl → Bool} {l : List Cl} (h : ¬ ∃ t d, Exs (amL l) 1 0 t d) : okP p l = false := by
  rw [Bool.eq_false_iff]; intro h'
  obtain ⟨-, -, d, -, hx⟩ := (okP_iff l).mp h'
  exact h ⟨_, d, hx⟩

/-- What cellTree leaves. -/
def TreeP (p : Cl → Bool) (l : List Cl) (w : World) (e : Ending) (w' : World) : Prop :=
  Below w.heap.size w w' ∧ ((∃ N d, e = .returned (.pointer (some ⟨N, 0, none⟩)) ∧ okP p l = true ∧ d ≤ 12 ∧ TrS w' (amL l) (fun b => w.heap.size ≤ b ∧ b < w'.heap.size) [N] 0 l.length d) ∨ (e = .returned (.pointer none) ∧ okP p l = false))
/-- What exprTree leaves. -/
def Tree (l : List Cl) (w : World) (e : Ending) (w' : World) : Prop :=
  Below w.heap.size w w' ∧ ((∃ N d, e = .returned (.pointer (some ⟨N, 0, none⟩)) ∧ okE l = true ∧ d ≤ 12 ∧ TrS w' (amL l) (fun b => w.heap.size ≤ b ∧ b < w'.heap.size) [N] 0 l.length d) ∨ (e = .returned (.pointer none) ∧ okE l = false))
/-- A function of cells that answers p. -/
def Asks (F : FuncId) (p : Cl → Bool) (Z : Nat) : Prop :=
  ∀ (k m : Int) (s : ByteArray) (w : World), s.size ≤ Z → Tab w → Calls Tryz.prog F #[.agg #[.int .i64 k, .string s, .int .i64 m]] w fun e w' => e = .returned (.bool (p (k, s, m))) ∧ Below w.heap.size w w'

theorem allP_take {p : Cl → Bool} {l : List Cl} {k : Nat} (h : k < l.length) : (l.take (k + 1)).all p = ((l.take k).all p && p l[k]) := by
  rw [List.take_succ_eq_append_getElem h, List.all_append]; simp

set_option maxRecDepth 100000 in
set_option maxHeartbeats 4000000 in
theorem cellTree_any (F : FuncId) (p : Cl → Bool) (Z : Nat) (eF : ∀ args w, (callFunc F args).run Tryz.prog w = .ok (.enter F args) w) (hF : Asks F p Z) (hpM : ∀ c, p c = true → okM c = true) (v : Value) (l : List Cl) (w : World) (hr : RowC w v l) (hz : ∀ c ∈ l, c.2.1.size ≤ Z) (htab : Tab w) :
    Calls Tryz.prog 54 #[v, .func (.func F) #[] #[]] w (TreeP p l w) := by
  have HR := Lib.hid hr
  obtain ⟨ao, cap, rfl, h1, h2, h3⟩ := hr
  unfold maxLen at h2
  have H3 := Lib.hid h3; have HZ := Lib.hid hz; have HF := Lib.hid hF; have HPM := Lib.hid hpM; clear h3 hz hF hpM
  by_cases h60 : l.length ≤ 60
  · go_enter Tryz.func54, Tryz.ntmps54
    go_wp2
    go_loopw [13] (fun i wr => ∃ k : Nat, k ≤ l.length ∧ i = .int .i64 (k : Int) ∧ (l.take k).all p = true ∧ Below w.heap.size w wr) (fun i _ => l.length - (intOf i).toNat)
    case atStart => exact ⟨0, Nat.zero_le _, rfl, rfl, Below.refl _ _⟩
    case round =>
      obtain ⟨k, hk, rfl, hok, hb⟩ := hrel
      have HOK := Lib.hid hok; have HB := Lib.hid hb; clear hok hb
      by_cases hlt : k < l.length
      · obtain ⟨b, o, rfl, hbl, cc⟩ := H3.out.resolve_left (by rintro rfl; simp at hlt)
        obtain ⟨c0, c1, c2⟩ := cc k hlt
        have d0 : wr.cell? ⟨b, o + k * 3, none⟩ = some (.int .i64 l[k].1) := (HB.out.cell (p := ⟨b, _, none⟩) hbl).trans c0
        have d1 : wr.cell? ⟨b, o + k * 3 + 1, none⟩ = some (.string l[k].2.1) := (HB.out.cell (p := ⟨b, _, none⟩) hbl).trans c1
        have d2 : wr.cell? ⟨b, o + k * 3 + 2, none⟩ = some (.int .i64 l[k].2.2) := (HB.out.cell (p := ⟨b, _, none⟩) hbl).trans c2
        have hzk : l[k].2.1.size ≤ Z := HZ.out _ (List.getElem_mem _)
        have HT := Lib.hid (allP_take (p := p) hlt)
        have HC := Lib.hid (show p l[k] = p (l[k].1, l[k].2.1, l[k].2.2) from rfl)
        generalize l[k].1 = kk at d0 HC
        generalize l[k].2.1 = ss at d1 HC hzk
        generalize l[k].2.2 = mm at d2 HC
        have HZK := Lib.hid hzk
        clear cc c0 c1 c2 hzk
        go_wp2_with fail
        refine (HF.out kk mm ss _ HZK.out ((htab.keep HB.out).al _)).mono ?_
        rintro e w1 ⟨rfl, hb1⟩
        have HB1 := Lib.hid ((HB.out.alloc HB.out.size _).trans (hb1.mono (by have := HB.out.size; simp; omega))); clear hb1
        cases hcb : p (kk, ss, mm) with
        | true =>
          have HN := Lib.hid (show (l.take (k + 1)).all p = true by rw [HT.out, HOK.out, HC.out, hcb]; rfl)
          clear hcb
          go_wp2
          go_roundw
          case rel => exact ⟨k + 1, by omega, by go_num, HN.out, HB1.out⟩
          case measure => simp [intOf]; omega
        | false =>
          have HN := Lib.hid (okP_cell (p := p) (l := l) (fun h => by
            rw [List.all_eq_true] at h
            have := h _ (List.getElem_mem hlt)
            rw [HC.out, hcb] at this; cases this))
          clear hcb
          go_wp2
          go_ret
          exact ⟨HB1.out, .inr ⟨rfl, HN.out⟩⟩
      · obtain rfl : k = l.length := by omega
        have HAL := Lib.hid (show l.all p = true by have := HOK.out; rwa [List.take_of_length_le (Nat.le_refl _)] at this)
        have HAM := Lib.hid (show l.all okM = true by have := HAL.out; rw [List.all_eq_true] at this ⊢; exact fun c hc => HPM.out c (this c hc))
        go_wp2_with fail
        refine (grow_any _ l h60 HAM.out l.length 0 _ (Nat.zero_le _) (by omega) (HR.out.mono HB.out)).mono ?_
        rintro e w1 ⟨hb1, ⟨N, t, d, rfl, ht⟩ | ⟨rfl, hno⟩⟩
        · have HB1 := Lib.hid (HB.out.trans (hb1.mono HB.out.size))
          have HX := Lib.hid (okP_of (p := p) ht.exs h60 HAL.out)
          obtain ⟨m1, e1, v1, qs1, -, -, hN1, -⟩ := ht.inv
          have d1 : w1.cell? ⟨N, 1, none⟩ = some (.int .i64 (t : Int)) := hN1.cell 1
          have HT := Lib.hid ht
          have HTK := Lib.hid (ht.keep (S' := fun b => w.heap.size ≤ b ∧ b < w1.heap.size) (fun _ _ _ => rfl) (fun b hb _ => ⟨by have := HB.out.size; omega, hb.2⟩))
          have hdep := ht.exs.dep
          have hle := ht.exs.le.2 (by simp)
          rw [amL_length] at hle
          clear hb1 ht hN1
          have ham : (amL l).length ≤ 60 := by rw [amL_length]; exact h60
          by_cases htl : t = l.length
          · subst htl
            by_cases hd : d ≤ 12
            · have HK := Lib.hid (HX.out.mpr ⟨rfl, hd⟩)
              have hd' : decide (12 < d) = false := decide_eq_false (by omega)
              go_wp2_with fail
              refine (depth_any (amL l) ham _ _ l.length N 0 l.length d HT.out (by omega)).mono ?_
              rintro e w' ⟨rfl, rfl⟩
              go_wp2
              go_ret
              exact ⟨HB1.out, .inl ⟨N, d, rfl, HK.out, hd, HTK.out⟩⟩
            · have HK := Lib.hid (show okP p l = false by rw [Bool.eq_false_iff]; exact fun h => hd (HX.out.mp h).2)
              go_wp2_with fail
              refine (depth_any (amL l) ham _ _ l.length N 0 l.length d HT.out (by omega)).mono ?_
              rintro e w' ⟨rfl, rfl⟩
              go_wp2
              go_ret
              exact ⟨HB1.out, .inr ⟨rfl, HK.out⟩⟩
          · have HK := Lib.hid (show okP p l = false by rw [Bool.eq_false_iff]; exact fun h => htl (HX.out.mp h).1)
            have hne : ((t : Int) != (l.length : Int)) = true := bne_iff_ne.mpr (by omega)
            go_wp2
            go_ret
            exact ⟨HB1.out, .inr ⟨rfl, HK.out⟩⟩
        · have HK := Lib.hid (okP_none (p := p) hno)
          have HB1 := Lib.hid (HB.out.trans (hb1.mono HB.out.size))
          clear hno hb1
          go_wp2
          go_ret
          exact ⟨HB1.out, .inr ⟨rfl, HK.out⟩⟩
  · have HN := Lib.hid (okP_len (p := p) h60)
    go_enter Tryz.func54, Tryz.ntmps54
    go_wp2
    go_ret
    exact ⟨Below.refl _ _, .inr ⟨rfl, HN.out⟩⟩

theorem enter_cellValid : ∀ args w, (callFunc 55 args).run Tryz.prog w = .ok (.enter 55 args) w := enters_of Tryz.func55 (by kernel_rfl) rfl

set_option maxRecDepth 100000 in
set_option maxHeartbeats 4000000 in
theorem exprTree_any (v : Value) (l : List Cl) (w : World) (hr : RowC w v l) (hz : SizedC l) (htab : Tab w) :
    Calls Tryz.prog 32 #[v] w (Tree l w) := by
  have HC := Lib.hid (cellTree_any _ okC maxLen enter_cellValid (fun k m s w hs ht => cellValid_impl k m s w hs ht) (fun c h => okM_of h) v l w hr hz htab)
  obtain ⟨ao, cap, rfl, h1, h2, h3⟩ := hr
  unfold maxLen at h2
  clear h3 hz
  go_enter Tryz.func32, Tryz.ntmps32
  go_wp2_with fail
  refine HC.out.mono ?_
  rintro e w1 ⟨hb1, ⟨N, d, rfl, hok, hd, ht⟩ | ⟨rfl, hno⟩⟩
  · rw [okP_E] at hok
    have HOK := Lib.hid hok; have HB := Lib.hid hb1; have HT := Lib.hid ht
    clear hok hb1 ht
    go_wp2
    go_ret
    exact ⟨HB.out, .inl ⟨N, d, rfl, HOK.out, hd, HT.out⟩⟩
  · rw [okP_E] at hno
    have HOK := Lib.hid hno; have HB := Lib.hid hb1
    clear hno hb1
    go_wp2
    go_ret
    exact ⟨HB.out, .inr ⟨rfl, HOK.out⟩⟩

set_option maxRecDepth 100000 in
set_option maxHeartbeats 4000000 in
theorem exprValid_impl (v : Value) (l : List Cl) (w : World) (hr : RowC w v l) (hz : SizedC l) (htab : Tab w) :
    Calls Tryz.prog 21 #[v] w fun e w' => e = .returned (.bool (okE l)) ∧ Below w.heap.size w w' := by
  have HC := Lib.hid (exprTree_any v l w hr hz htab)
  obtain ⟨ao, cap, rfl, h1, h2, h3⟩ := hr
  unfold maxLen at h2
  clear h3 hz
  go_enter Tryz.func21, Tryz.ntmps21
  go_wp2_with fail
  refine HC.out.mono ?_
  rintro e w1 ⟨hb1, ⟨N, d, rfl, hok, hd, ht⟩ | ⟨rfl, hno⟩⟩
  · have HOK := Lib.hid hok; have HB := Lib.hid hb1
    clear hok hb1 ht
    go_wp2
    go_ret
    exact ⟨ret_b HOK.out.symm, HB.out⟩
  · have HOK := Lib.hid hno; have HB := Lib.hid hb1
    clear hno hb1
    go_wp2
    go_ret
    exact ⟨ret_b HOK.out.symm, HB.out⟩

end Go.Proofs.YtncehcklppakcaaGreatDoor
