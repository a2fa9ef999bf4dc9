/-
  Several texts of the proof in one file: ReadES, Form, RdPad.
-/
import Derived.Test.YtncehcklppakcaaGreatDoorBaseY
import Derived.Test.YtncehcklppakcaaGreatDoorBaseQ
import Derived.Test.YtncehcklppakcaaGreatDoorBaseK
import Derived.Test.YtncehcklppakcaaGreatDoorBaseV
import Derived.Test.YtncehcklppakcaaGreatDoorExprS2
import Derived.Deep.AppendLies
import Derived.Test.YtncehcklppakcaaGreatDoorPrintST
import Derived.Test.YtncehcklppakcaaGreatDoorBaseP
import Derived.Test.YtncehcklppakcaaGreatDoorBaseW
/-
  spec.ReadExpr, spec.ExprSound, spec.FormatExpr, by their contracts.
-/
namespace Go.Proofs.YtncehcklppakcaaGreatDoor
open Go.RowKit
set_option linter.unusedVariables false

/-- A text is read as these cells, level by level. -/
def SpOK (s : ByteArray) (c : List Cl) : Prop := Rs (rdTk s) .choice 0 0 c (rdTk s).length 0 ∧ okE c = true

theorem ints_cell (l : List Int) (k : Nat) (h : k < l.length) : (l.map (Value.int .i64))[k]? = some (.int .i64 l[k]) := by simp [h]
theorem strs_cell (l : List ByteArray) (k : Nat) (h : k < l.length) : (strs l)[k]? = some (.string l[k]) := by simp [strs, h]
/-- Rows of one's own read as words and kinds. -/
theorem RowTk.of_own {w : World} {B : Nat} {e1 e2 : TypeId} {vW vK : Value} {tk : List Tk} (h1 : w.ownsRow B e1 1 vW tk.length (strs (tk.map (·.2)))) (h2 : w.ownsRow B e2 1 vK tk.length ((tk.map (·.1)).map (Value.int .i64))) : RowTk w vW vK tk := by
  constructor
  · rcases h1.2 with ⟨rfl, h0⟩ | ⟨g, cap, cur, rfl, hg, hh, q1, q2, _⟩
    · exact ⟨none, 0, by rw [h0], by omega, by unfold maxLen; omega, .inl (List.length_eq_zero_iff.mp h0)⟩
    · refine ⟨_, cap, rfl, q1, q2, .inr ⟨g, rfl, (h1.lt g rfl).2, fun k hk => ?_⟩⟩
      rw [h1.cellAt k (by omega), strs_cell _ k (by simpa using hk)]; simp
  · rcases h2.2 with ⟨rfl, h0⟩ | ⟨g, cap, cur, rfl, hg, hh, q1, q2, _⟩
    · exact ⟨none, 0, by rw [h0], by omega, by unfold maxLen; omega, .inl (List.length_eq_zero_iff.mp h0)⟩
    · refine ⟨_, cap, rfl, q1, q2, .inr ⟨g, rfl, (h2.lt g rfl).2, fun k hk => ?_⟩⟩
      rw [h2.cellAt k (by omega), ints_cell _ k (by simpa using hk)]; simp
theorem row_beside {w w' : World} {B n : Nat} {e : TypeId} {s : Nat} {v u : Value} {xs : List Value} (h : w.ownsRow B e s v n xs) (hap : ∀ x, u.ownBlock = some x → v.ownBlock ≠ some x) (hg : w.grownBy w' u.ownBlock) : w'.ownsRow B e s v n xs :=
  h.kept hg (by
    cases hv : v.ownBlock with
    | none => exact .inl rfl
    | some x => exact .inr (fun he => hap x he.symm hv))
theorem new_at {w : World} {g : Nat} (hg : w.heap.size = g) (o : Obj) : (w.alloc o).heap[g]? = some o := by subst hg; exact heap_alloc_new w o
theorem apart_new {wr : World} {B n : Nat} {e : TypeId} {sz : Nat} {vW vK : Value} {xs : List Value} {gg : Nat} (hap : ∀ x, vW.ownBlock = some x → vK.ownBlock ≠ some x) (hK : wr.ownsRow B e sz vK n xs) (hat : vW.ownBlock = some gg ∨ gg = wr.heap.size + 1) : vK.ownBlock ≠ some gg := by
  rcases hat with h | h
  · exact hap gg h
  · intro he
    have := (hK.lt gg he).2
    omega
/-- Words and kinds of the first tokens, gathered. -/
def TkL (tk : List Tk) (w1 : World) (i : Value) (wr : World) : Prop :=
  ∃ (k : Nat) (vW vK : Value), i = .int .i64 (k : Int) ∧ k ≤ tk.length ∧ BlkS wr w1.heap.size #[vW, vK, .int .i64 0, .int .i64 0] ∧ wr.ownsRow (w1.heap.size + 1) 9 1 vW k (strs ((tk.take k).map (·.2))) ∧ wr.ownsRow (w1.heap.size + 1) 3 1 vK k (((tk.take k).map (·.1)).map (Value.int .i64)) ∧
    (∀ x, vW.ownBlock = some x → vK.ownBlock ≠ some x) ∧ Below w1.heap.size w1 wr
theorem TkL.start (tk : List Tk) (w1 : World) : TkL tk w1 (.int .i64 0) (w1.alloc (.cells #[.slice none 0 0, .slice none 0 0, .int .i64 0, .int .i64 0] 79)) :=
  ⟨0, _, _, rfl, Nat.zero_le _, BlkS.new w1 _, World.ownsRow_nil _ _ _ _, World.ownsRow_nil _ _ _ _, fun x hx => by simp [Value.ownBlock] at hx, (Below.refl _ _).alloc (Nat.le_refl _) _⟩
theorem tk_len (s : ByteArray) : (rdTk s).length = (toksT s).length := by simp [rdTk]
theorem tk_at {s : ByteArray} {k : Nat} (h : k < (toksT s).length) : (rdTk s).take (k + 1) = (rdTk s).take k ++ [((toksT s)[k].1, s.extract (toksT s)[k].2.1 (toksT s)[k].2.2)] := by
  rw [List.take_succ_eq_append_getElem (by rw [tk_len]; exact h)]; simp [rdTk]
theorem SpOK.uniq {s : ByteArray} {c d : List Cl} (h : SpOK s c) (k : SpOK s d) : c = d := (h.1.uniq k.1).1
theorem SpOK.some {s : ByteArray} {c : List Cl} (h : SpOK s c) : fineC c := by
  obtain ⟨h60, hal, -⟩ := (okE_iff c).mp h.2
  exact ⟨h60, fun x hx => by rw [List.all_eq_true] at hal; exact hal x hx⟩
theorem sp_none {s : ByteArray} (h : toksT s = []) (c : List Cl) : ¬ SpOK s c := by
  rintro ⟨h1, h2⟩
  have := h1.le.1
  rw [tk_len, h] at this
  simp only [Job.held, List.length_nil] at this
  have : c = [] := List.length_eq_zero_iff.mp (by omega)
  subst this
  obtain ⟨-, -, d, -, hx⟩ := (okE_iff []).mp h2
  generalize hn : (1 : Nat) = n at hx
  cases hx with
  | nil => cases hn
  | cons hm => simp [amL] at hm

theorem sp_sizes (s : ByteArray) : (∀ x ∈ rdTk s, x.2.size ≤ 20000) ∧ ∀ x ∈ rdTk s, 1 ≤ x.1 ∧ x.1 ≤ 4 := by
  obtain ⟨f1, f2, f3, f4⟩ := toks_facts s
  have h20 : toksT s ≠ [] → s.size ≤ 20000 := by
    intro h
    by_cases hk : okT s = true
    · exact (toks_len s (.inr hk)).2 h
    · exact absurd (by rw [toksT, if_neg hk]) h
  constructor
  · intro x hx
    simp only [rdTk, List.mem_map] at hx
    obtain ⟨y, hy, rfl⟩ := hx
    have := h20 (List.ne_nil_of_mem hy)
    have := f2 y hy
    simp only [ByteArray.size_extract]; omega
  · intro x hx
    simp only [rdTk, List.mem_map] at hx
    obtain ⟨y, hy, rfl⟩ := hx
    exact f4 y hy

theorem sp_short {s : ByteArray} {l : List Cl} (h : Rs (rdTk s) .choice 0 0 l (rdTk s).length 0) : ShortC l := by
  obtain ⟨n, hn⟩ := h.strength (by rw [rkT_end (Nat.le_refl _)]; decide)
  intro c hc
  have := hn.words (B := 20000) (by omega) (fun p k w hp => (sp_sizes s).1 _ (List.mem_of_getElem? hp)) (fun x hx => by cases hx) c hc
  omega
set_option maxRecDepth 100000 in
set_option maxHeartbeats 1000000 in
theorem readExpr_spec (s : ByteArray) (w : World) (hs : s.size ≤ 2097152) :
    Calls Tryz.prog 20 #[.string s] w fun e w' => Below w.heap.size w w' ∧ ((∃ v c, e = .returned (.tuple #[v, .bool true]) ∧ SpOK s c ∧ RowC w' v c ∧ c.length ≤ 60) ∨ ((∃ v, e = .returned (.tuple #[v, .bool false]) ∧ RowC w' v []) ∧ ∀ c, ¬ SpOK s c)) := by
  go_enter Tryz.func20, Tryz.ntmps20
  go_wp2_with fail
  refine (tokensOf_spec s _ (by unfold maxLen; omega)).mono ?_
  rintro e w1 ⟨v, rfl, ho1, hb1⟩
  obtain ⟨h0, ao, cap, rfl, t1, t2, t3⟩ := RowT.of_own ho1
  have HB1 := Lib.hid hb1; have HT3 := Lib.hid t3
  clear ho1 hb1 t3
  unfold maxLen at t2
  go_wp2_with fail
  have htl := tk_len s
  obtain ⟨f1, f2, f3, f4⟩ := toks_facts s
  have HF2 := Lib.hid f2
  have HP := Lib.hid (fun w' (h : Below w1.heap.size w1 w') => (HB1.out.trans (h.mono HB1.out.size)))
  obtain ⟨iS, hiS, hzS0, hzS1, hzS2⟩ := info_parts infoStr
  obtain ⟨iI, hiI, hzI0, hzI1, hzI2⟩ := info_parts infoI
  go_loopw [7] (fun i wr => TkL (rdTk s) w1 i wr) (fun i _ => 20001 - (intOf i).toNat)
  case atStart => exact TkL.start _ _
  case round =>
    obtain ⟨k, vW, vK, rfl, hk, hblk, hoW, hoK, hap, hb⟩ := hrel
    have HBK := Lib.hid hblk; have HOW := Lib.hid hoW; have HOK := Lib.hid hoK; have HAP := Lib.hid hap; have HB := Lib.hid hb
    clear hblk hoW hoK hap hb
    rw [htl] at hk
    obtain ⟨⟨g0, g1, g2, g3⟩, y0, y1, y2, y3⟩ := HBK.out.all
    have hPl := HBK.out.lt
    by_cases hlt : k < (toksT s).length
    · obtain ⟨b, rfl, lt1, cc⟩ := HT3.out.resolve_left (by omega)
      obtain ⟨e0, e1, e2⟩ := flatT_at _ k hlt
      have dc0 := cc _ _ e0
      have d1 := (HB.out.cell (p := ⟨b, k * 3 + 1, none⟩) lt1).trans (cc _ _ e1)
      have d2 := (HB.out.cell (p := ⟨b, k * 3 + 2, none⟩) lt1).trans (cc _ _ e2)
      have hin := HF2.out _ (List.getElem_mem hlt)
      have HTA := Lib.hid (tk_at hlt)
      clear cc e0 e1 e2
      generalize (toksT s)[k] = x at *
      obtain ⟨x1, x2, x3⟩ := x
      simp only at dc0 d1 d2 hin HTA
      obtain ⟨q1, q2⟩ := hin
      have bk0 : (0 : Int) ≤ (k : Int) := by omega
      have bk1 : (k : Int) < ((toksT s).length : Int) := by omega
      have bk2 : (x2 : Int) ≤ (x3 : Int) := by omega
      have bk3 : (x3 : Int) ≤ (s.size : Int) := by omega
      have bk4 : (0 : Int) ≤ (x2 : Int) := by omega
      have HD0 := Lib.hid (show ∀ w', Below w1.heap.size w1 w' → w'.cell? ⟨b, k * 3, none⟩ = some (.int .i64 x1) from fun w' h => (h.cell (p := ⟨b, k * 3, none⟩) lt1).trans dc0)
      have nb1 : ¬ b = w1.heap.size := by omega
      have nb2 : ¬ w1.heap.size = b := by omega
      clear dc0
      go_wp2_with fail
      go_region_law
        ((refine step_append_lies _ (by rfl) _ _ _ (by rfl) (w1.heap.size + 1) 9 iS _ 1 16 Tryz.underlying39 hiS hzS0 hzS1 hzS2 rfl (by omega) vW k _ (by rfl) ((HOW.out.alloc _).drew)
            ⟨wr.heap.size, 0, none⟩ 1 1 [.string (s.extract x2 x3)] (by rfl) (by rfl) (World.news_of_block (cs := #[.string (s.extract x2 x3)]) (t := 9) (fr := (0, 0)) (heap_alloc_new wr _)) (by simp [Value.oneCell'])
            (by omega) (by unfold maxLen; omega) (by omega) (by simp; omega) (wr.heap.size + 1) (by simp) ?_; intro gg cap' w2 hown' hgrow hat hlt'; obtain ⟨⟨j0, j1, j2, j3⟩, z0, z1, z2, z3⟩ := (((HBK.out.alloc _).drew).grown hgrow (fun he => by have := (HOW.out.lt _ he.symm).1; omega)).all))
      all_goals
        have HAT := Lib.hid (apart_new HAP.out HOK.out hat)
        have HB2 := Lib.hid (((HB.out.alloc HB.out.size (.cells #[.string (s.extract x2 x3)] 9)).drew).grown hgrow (by have := HB.out.size; simp; omega) (fun q hq => by have := (HOW.out.lt _ hq).1; omega))
        have HBK2 := Lib.hid ((((HBK.out.alloc (.cells #[.string (s.extract x2 x3)] 9)).drew).grown hgrow (fun he => by have := (HOW.out.lt _ he.symm).1; omega)).set_ 0 (.slice (some ⟨gg, 0, none⟩) (k + 1) cap'))
        have HOW2 := Lib.hid (own_seti hown' 0 (.slice (some ⟨gg, 0, none⟩) (k + 1) cap'))
        have HOK2 := Lib.hid (own_seti (row_beside ((HOK.out.alloc (.cells #[.string (s.extract x2 x3)] 9)).drew) HAP.out hgrow) 0 (.slice (some ⟨gg, 0, none⟩) (k + 1) cap'))
        have HLT := Lib.hid hlt'
        have hP2 : w1.heap.size < w2.heap.size := by have := HBK2.out.lt; simpa [World.setCell] using this
        have dk := HD0.out w2 HB2.out
        clear hown' hgrow hat
        go_wp2_with fail
        go_region_law
          ((refine step_append_lies _ (by rfl) _ _ _ (by rfl) (w1.heap.size + 1) 3 iI _ 1 8 Tryz.underlying77 hiI hzI0 hzI1 hzI2 rfl (by omega) vK k _ (by rfl) ((HOK2.out.alloc _).drew)
              ⟨w2.heap.size, 0, none⟩ 1 1 [.int .i64 x1] (by rfl) (by rfl) (World.news_of_block (cs := #[.int .i64 x1]) (t := 3) (fr := (0, 0)) (new_at (by simp [World.setCell]) _)) (by simp [Value.oneCell'])
              (by omega) (by unfold maxLen; omega) (by omega) (by simp [World.setCell]; omega) (w2.heap.size + 1) (by simp [World.setCell]) ?_; intro g2 cap2 w4 hown2 hgrow2 hat2 hlt2; obtain ⟨⟨l0, l1, l2, l3⟩, v0, v1, v2, v3⟩ := (((HBK2.out.alloc _).drew).grown hgrow2 (fun he => by have := (HOK2.out.lt _ he.symm).1; omega)).all))
        all_goals
          have HTA2 := HTA.out
          have HW4 := Lib.hid (own_seti (row_beside ((HOW2.out.alloc (.cells #[.int .i64 x1] 3)).drew) (fun x hx hy => by
            have hg : gg = x := by simpa [Value.ownBlock] using hy
            subst hg
            exact HAT.out hx) hgrow2) 1 (.slice (some ⟨g2, 0, none⟩) (k + 1) cap2))
          have HK4 := Lib.hid (own_seti hown2 1 (.slice (some ⟨g2, 0, none⟩) (k + 1) cap2))
          have HBK4 := Lib.hid ((((HBK2.out.alloc (.cells #[.int .i64 x1] 3)).drew).grown hgrow2 (fun he => by have := (HOK2.out.lt _ he.symm).1; omega)).set_ 1 (.slice (some ⟨g2, 0, none⟩) (k + 1) cap2))
          have HB4 := Lib.hid (((((HB2.out.setCell (p := ⟨w1.heap.size, 0, none⟩) (Nat.le_refl _) (.slice (some ⟨gg, 0, none⟩) (k + 1) cap')).alloc (by have := HB2.out.size; simpa [World.setCell] using this) (.cells #[.int .i64 x1] 3)).drew).grown hgrow2 (by have := HB2.out.size; simp [World.setCell]; omega) (fun q hq => by have := (HOK2.out.lt _ hq).1; omega)).setCell (p := ⟨w1.heap.size, 1, none⟩) (Nat.le_refl _) (.slice (some ⟨g2, 0, none⟩) (k + 1) cap2))
          have HNE := Lib.hid (show ¬ g2 = gg from fun he => by
            subst he
            rcases hat2 with h | h
            · exact HAT.out h
            · have := HLT.out; omega)
          clear hown2 hgrow2 hat2 hlt2
          go_wp2
          go_roundw
          case rel =>
            refine ⟨k + 1, _, _, by go_num, by rw [htl]; omega, HBK4.out, ?_, ?_, ?_, HB4.out⟩
            · rw [HTA2, List.map_append, strs_append]; exact HW4.out
            · rw [HTA2, List.map_append, List.map_append]; exact HK4.out
            · intro x hx hy
              simp only [Value.ownBlock, Option.some.injEq] at hx hy
              exact HNE.out (hy.trans hx.symm)
          case measure => simp [intOf]; omega
    · obtain rfl : k = (toksT s).length := by omega
      have hkk : (rdTk s).take (toksT s).length = rdTk s := by rw [← htl]; exact List.take_length
      have HRT := Lib.hid (show RowTk wr vW vK (rdTk s) from RowTk.of_own (by have := HOW.out; rw [hkk] at this; rw [htl]; exact this) (by have := HOK.out; rw [hkk] at this; rw [htl]; exact this))
      have HBW := Lib.hid (HP.out wr HB.out)
      obtain ⟨⟨wa, wn, wc, rfl⟩, ⟨ka, kn, kc, rfl⟩⟩ := HRT.out.sl
      clear HOW HOK HAP
      have hbk : ¬ ((toksT s).length : Int) < ((toksT s).length : Int) := by omega
      cases hok : okT s with
      | false =>
        have HNO := Lib.hid (sp_none (s := s) (by rw [toksT, hok]; rfl))
        clear hok
        go_wp2
        go_ret2
        refine ⟨HBW.out.alloc HBW.out.size _, .inr ⟨⟨_, rfl, ?_⟩, HNO.out⟩⟩
        exact ⟨_, 0, rfl, Nat.le_refl _, by unfold maxLen; omega, .inl rfl⟩
      | true =>
        clear hok
        have hsz := sp_sizes s
        go_wp2_with fail
        refine ((show Calls Tryz.prog 48 #[.agg #[.slice wa wn wc, .slice ka kn kc, .int .i64 0, .int .i64 0]] _ _ from (all_r (rdTk s) (by rw [htl]; omega) hsz.1 hsz.2 (10 * (rdTk s).length + 8)).choice 0 0 _ _ _ (Nat.zero_le _) (by omega) (by omega) HRT.out)).mono ?_
        rintro e w5 ⟨v2, W2, K2, l, q, d2, ok2, ⟨⟨aw2, nw2, cw2, rfl⟩, ⟨ak2, nk2, ck2, rfl⟩⟩, rfl, ho2, hlq2, hq2, hb5, hres⟩
        have HB5 := Lib.hid (HBW.out.trans (hb5.mono HBW.out.size))
        have HO5 := Lib.hid ho2; have HRES := Lib.hid hres
        clear ho2 hb5 hres
        cases ok2 with
        | false =>
          have HNO := Lib.hid (show ∀ c, ¬ SpOK s c from fun c hc => (HRES.out.elim (fun ⟨a, _⟩ => by cases a) (fun ⟨_, b⟩ => b) : NoRd (rdTk s) .choice 0 0) ⟨c, _, _, hc.1, hc.some, by omega⟩)
          clear HRES
          go_wp2
          go_ret2
          refine ⟨(HB5.out.alloc HB5.out.size _).alloc (by have := HB5.out.size; simp; omega) _, .inr ⟨⟨_, rfl, ?_⟩, HNO.out⟩⟩
          exact ⟨_, 0, rfl, Nat.le_refl _, by unfold maxLen; omega, .inl rfl⟩
        | true =>
          obtain ⟨-, hW, hK, hd2, hrd⟩ := HRES.out.resolve_right (fun h => by cases h.1)
          simp only [Value.slice.injEq] at hW hK
          obtain ⟨rfl, rfl, rfl⟩ := hW
          obtain ⟨rfl, rfl, rfl⟩ := hK
          obtain ⟨⟨wo, wcap, hv, -⟩, -⟩ := HRT.out
          simp only [Value.slice.injEq] at hv
          obtain ⟨rfl, rfl, rfl⟩ := hv
          have HRD := Lib.hid hrd
          clear HRES hrd hd2
          have hl20 : l.length ≤ 20000 := by omega
          by_cases hql : q = (rdTk s).length
          · subst hql
            have HSH := Lib.hid (sp_short HRD.out)
            have HRW := Lib.hid (((RowC.of_own HO5.out).1).mono ((Below.refl w5.heap.size w5).alloc (Nat.le_refl _) (.cells #[.slice aw2 (toksT s).length cw2, .slice ak2 nk2 ck2, .int .i64 ((toksT s).length : Int), .int .i64 d2] 79)))
            have HB6 := Lib.hid (HB5.out.alloc HB5.out.size (.cells #[.slice aw2 (toksT s).length cw2, .slice ak2 nk2 ck2, .int .i64 ((toksT s).length : Int), .int .i64 d2] 79))
            clear HO5 HB5
            go_wp2_with fail
            refine (exprValid_spec v2 l _ HRW.out HSH.out (by omega)).mono ?_
            rintro e w7 ⟨rfl, hb7⟩
            have HB7 := Lib.hid (HB6.out.trans (hb7.mono HB6.out.size)); have HR7 := Lib.hid (HRW.out.mono hb7)
            clear hb7
            cases hoe : okE l with
            | true =>
              have HSP := Lib.hid (show SpOK s l from ⟨HRD.out, hoe⟩)
              clear hoe
              go_wp2
              go_ret2
              exact ⟨HB7.out, .inl ⟨_, l, rfl, HSP.out, HR7.out, HSP.out.some.1⟩⟩
            | false =>
              have HNO := Lib.hid (show ∀ c, ¬ SpOK s c from fun c hc => by
                obtain ⟨rfl, -⟩ := HRD.out.uniq hc.1
                have := hc.2
                rw [hoe] at this; cases this)
              clear hoe
              go_wp2
              go_ret2
              refine ⟨HB7.out.alloc HB7.out.size _, .inr ⟨⟨_, rfl, ?_⟩, HNO.out⟩⟩
              exact ⟨_, 0, rfl, Nat.le_refl _, by unfold maxLen; omega, .inl rfl⟩
          · have hqn : ((q : Int) != ((rdTk s).length : Int)) = true := by simp; omega
            have hqn2 : ((q : Int) == ((rdTk s).length : Int)) = false := by simp; omega
            have HNO := Lib.hid (show ∀ c, ¬ SpOK s c from fun c hc => by
              obtain ⟨-, h, -⟩ := HRD.out.uniq hc.1
              exact hql h)
            go_wp2
            go_ret2
            refine ⟨(HB5.out.alloc HB5.out.size _).alloc (by have := HB5.out.size; simp; omega) _, .inr ⟨⟨_, rfl, ?_⟩, HNO.out⟩⟩
            exact ⟨_, 0, rfl, Nat.le_refl _, by unfold maxLen; omega, .inl rfl⟩


end Go.Proofs.YtncehcklppakcaaGreatDoor

/-
  ExprSound and FormatExpr on both sides, by their contracts.
-/
namespace Go.Proofs.YtncehcklppakcaaGreatDoor
open Go.RowKit
set_option linter.unusedVariables false

theorem textE_nil : textE [] = [] := by
  refine textE_no ?_
  cases h : okE [] with
  | false => rfl
  | true =>
    obtain ⟨-, -, d, -, hx⟩ := (okE_iff []).mp h
    generalize hn : (1 : Nat) = n at hx
    cases hx with
    | nil => cases hn
    | cons hm => simp [amL] at hm
theorem RdOK.sized {s : ByteArray} {c : List Cl} (h : RdOK s c) : SizedC c := by
  obtain ⟨⟨n, hn, -⟩, -⟩ := h
  intro x hx
  have := hn.words (B := 20000) (by omega) (fun p k w hp => (sp_sizes s).1 _ (List.mem_of_getElem? hp)) (fun x hx => by cases hx) x hx
  unfold maxLen; omega

theorem exprSound_spec (s : ByteArray) (w : World) (hs : s.size ≤ 2097152) :
    Calls Tryz.prog 24 #[.string s] w fun e w' => Below w.heap.size w w' ∧ ∃ ok, e = .returned (.bool ok) ∧ (ok = true ↔ ∃ c, SpOK s c) := by
  have HC := Lib.hid (readExpr_spec s w hs)
  go_enter Tryz.func24, Tryz.ntmps24
  go_wp2_with fail
  refine HC.out.mono ?_
  rintro e w1 ⟨hb1, ⟨v, c, rfl, hok, -, -⟩ | ⟨⟨v, rfl, -⟩, hno⟩⟩
  · have HB := Lib.hid hb1; have HO := Lib.hid (show ∃ c, SpOK s c from ⟨c, hok⟩)
    clear hb1 hok
    go_wp2
    go_ret
    exact ⟨HB.out, true, rfl, fun _ => HO.out, fun _ => rfl⟩
  · have HB := Lib.hid hb1; have HO := Lib.hid (show ¬ ∃ c, SpOK s c from fun ⟨c, h⟩ => hno c h)
    clear hb1 hno
    go_wp2
    go_ret
    exact ⟨HB.out, false, rfl, fun h => (by cases h), fun h => absurd h HO.out⟩

set_option maxRecDepth 100000 in
set_option maxHeartbeats 1000000 in
theorem formatExpr_spec (s : ByteArray) (w : World) (hs : s.size ≤ 2097152) :
    Calls Tryz.prog 28 #[.string s] w fun e w' => Below w.heap.size w w' ∧ ((∃ c, SpOK s c ∧ e = .returned (.tuple #[.string ⟨(textE c).toArray⟩, .bool true])) ∨ (e = .returned (.tuple #[.string ⟨#[]⟩, .bool false]) ∧ ∀ c, ¬ SpOK s c)) := by
  have HC := Lib.hid (readExpr_spec s w hs)
  go_enter Tryz.func28, Tryz.ntmps28
  go_wp2_with fail
  refine HC.out.mono ?_
  rintro e w1 ⟨hb1, ⟨v, c, rfl, hok, hr, hl⟩ | ⟨⟨v, rfl, -⟩, hno⟩⟩
  · have HB := Lib.hid hb1; have HO := Lib.hid hok; have HR := Lib.hid hr
    clear hb1 hok hr
    go_wp2_with fail
    refine (exprText_spec v c _ HR.out (sp_short HO.out.1) (by omega)).mono ?_
    rintro e w2 ⟨rfl, hb2⟩
    have HB2 := Lib.hid (HB.out.trans (hb2.mono HB.out.size))
    clear hb2
    go_wp2
    go_ret2
    exact ⟨HB2.out, .inl ⟨c, HO.out, rfl⟩⟩
  · have HB := Lib.hid hb1; have HO := Lib.hid hno
    clear hb1 hno
    go_wp2
    go_ret2
    exact ⟨HB.out, .inr ⟨rfl, HO.out⟩⟩

set_option maxRecDepth 100000 in
set_option maxHeartbeats 1000000 in
theorem formatExpr_impl (s : ByteArray) (w : World) (hs : s.size ≤ 2097152) (htab : Tab w) :
    Calls Tryz.prog 27 #[.string s] w fun e w' => Below w.heap.size w w' ∧ ((∃ c, RdOK s c ∧ e = .returned (.tuple #[.string ⟨(textE c).toArray⟩, .bool true])) ∨ (e = .returned (.tuple #[.string ⟨#[]⟩, .bool false]) ∧ ∀ c, ¬ RdOK s c)) := by
  have HC := Lib.hid (readExpr_impl s w hs htab); have HT := Lib.hid htab
  clear htab
  go_enter Tryz.func27, Tryz.ntmps27
  go_wp2_with fail
  refine HC.out.mono ?_
  rintro e w1 ⟨hb1, ⟨v, c, rfl, hok, ho⟩ | ⟨rfl, hno⟩⟩
  · have HB := Lib.hid hb1; have HO := Lib.hid hok; have HR := Lib.hid (RowC.of_own ho).1
    clear hb1 hok ho
    go_wp2_with fail
    refine (exprText_impl v c _ HR.out HO.out.sized (HT.out.keep HB.out)).mono ?_
    rintro e w2 ⟨rfl, hb2⟩
    have HB2 := Lib.hid (HB.out.trans (hb2.mono HB.out.size))
    clear hb2
    go_wp2
    go_ret2
    exact ⟨HB2.out, .inl ⟨c, HO.out, rfl⟩⟩
  · have HB := Lib.hid hb1; have HO := Lib.hid hno
    clear hb1 hno
    have HR := Lib.hid (show RowC w1 (.slice none 0 0) [] from ⟨none, 0, rfl, Nat.le_refl _, by unfold maxLen; omega, .inl rfl⟩)
    go_wp2_with fail
    refine (exprText_impl (.slice none 0 0) [] _ HR.out (fun x hx => by cases hx) (HT.out.keep HB.out)).mono ?_
    rintro e w2 ⟨rfl, hb2⟩
    have HB2 := Lib.hid (HB.out.trans (hb2.mono HB.out.size))
    clear hb2
    rw [textE_nil]
    go_wp2
    go_ret2
    exact ⟨HB2.out, .inr ⟨rfl, HO.out⟩⟩

end Go.Proofs.YtncehcklppakcaaGreatDoor

/-
  Texts with spaces around them, between parentheses, between brackets are read alike; where both ways of reading accept: plainly.
-/
namespace Go.Proofs.YtncehcklppakcaaGreatDoor
set_option linter.unusedVariables false

/-- Where few signs nest, both accept the same. -/
theorem sp_iff {s : ByteArray} (h : nbB s ≤ 40) (c : List Cl) : SpOK s c ↔ RdOK s c := by
  constructor
  · rintro ⟨h1, h2⟩
    exact ⟨levels_read (Nat.le_trans (rdTk_nest s) h) h1, h2⟩
  · rintro ⟨⟨n, h1, h3⟩, h2⟩
    exact ⟨read_levels h1 h3, h2⟩
theorem sp_of {s : ByteArray} {c : List Cl} (h : RdOK s c) : SpOK s c := by
  obtain ⟨⟨n, h1, h3⟩, h2⟩ := h
  exact ⟨read_levels h1 h3, h2⟩

/-- Spaces around a text. -/
theorem end_pad (l : List UInt8) (h : resB (0, 0, []) 0 l = true) : resB (0, 0, []) 0 (32 :: 32 :: (l ++ [32])) = true ∧ resL (0, 0, []) 0 (32 :: 32 :: (l ++ [32])) = (resL (0, 0, []) 0 l).map (shT 2) := by
  have h0 : (endM (0, 0, []) 0 l).1 = 0 := by simpa [resB] using h
  have e1 := end_both l [] 32 (by decide) h0
  have e2 : endM (0, 0, []) 0 (32 :: 32 :: (l ++ [32])) = shM 2 [] (endM (0, 0, []) 0 (l ++ [32])) := by
    rw [end_space _ _ _ _ _ (by decide), end_space _ _ _ _ _ (by decide), end_from]
    have := end_sh 2 [] (l ++ [32]) (0, 0, []) 0
    simpa [shM] using this
  have e3 : endM (0, 0, []) 0 ([] : List UInt8) = (0, 0, []) := by
    unfold endM; rw [runM, step_zero, first_space]; simp
  rw [e3] at e1
  have h2 : resB (0, 0, []) 0 (32 :: 32 :: (l ++ [32])) = true := by
    rw [resB, e2, e1]; simp [shM]
  refine ⟨h2, ?_⟩
  rw [resL, if_pos h2, e2, e1, resL, if_pos h]
  simp [shM]
theorem pad_toks {s : ByteArray} (hs : s.size ≤ 19000) (h : okT s = true) : rdTk ((⟨#[32, 32]⟩ ++ s) ++ ⟨#[32]⟩) = rdTk s := by
  have hl : ((⟨#[32, 32]⟩ ++ s) ++ ⟨#[32]⟩ : ByteArray).data.toList = 32 :: 32 :: (s.data.toList ++ [32]) := by
    simp [ByteArray.data_append]
  have hsz : ((⟨#[32, 32]⟩ ++ s) ++ ⟨#[32]⟩ : ByteArray).size = s.size + 3 := by
    simp only [ByteArray.size_append]
    have e1 : (⟨#[32, 32]⟩ : ByteArray).size = 2 := rfl
    have e2 : (⟨#[32]⟩ : ByteArray).size = 1 := rfl
    omega
  simp only [okT, Bool.and_eq_true, decide_eq_true_eq] at h
  obtain ⟨⟨h20, hp⟩, hr⟩ := h
  obtain ⟨p1, p2⟩ := end_pad s.data.toList hr
  have hok : okT ((⟨#[32, 32]⟩ ++ s) ++ ⟨#[32]⟩) = true := by
    rw [okT, hl, p1, hsz]
    simp only [Bool.and_eq_true, decide_eq_true_eq, Bool.and_true]
    refine ⟨by omega, ?_⟩
    rw [plain_cons, plain_cons, plain_app, hp]; decide
  have hokS : okT s = true := by rw [okT, hr]; simp [h20, hp]
  have htk : toksT ((⟨#[32, 32]⟩ ++ s) ++ ⟨#[32]⟩) = (toksT s).map (shT 2) := by
    rw [toksT, if_pos hok, hl, p2, toksT, if_pos hokS]
  have hin := (toks_facts s).2.1
  rw [rdTk, rdTk, htk, List.map_map]
  apply List.map_congr_left
  intro x hx
  obtain ⟨q1, q2⟩ := hin x hx
  simp only [Function.comp, shT]
  congr 1
  apply ba_eq
  rw [ByteArray.data_extract, ByteArray.data_extract, Array.toList_extract, Array.toList_extract, List.extract_eq_take_drop, List.extract_eq_take_drop, hl, show x.2.2 + 2 - (x.2.1 + 2) = x.2.2 - x.2.1 by omega]
  rw [List.drop_succ_cons, List.drop_succ_cons, List.drop_append_of_le_length (by rw [size_list]; omega), List.take_append_of_le_length (by rw [List.length_drop, size_list]; omega)]
theorem RdOK.okT {s : ByteArray} {c : List Cl} (h : RdOK s c) : okT s = true := by
  cases hk : Go.Proofs.YtncehcklppakcaaGreatDoor.okT s with
  | true => rfl
  | false => exact absurd (sp_of h) (sp_none (by rw [toksT, hk]; rfl) c)
theorem pad_reads {s : ByteArray} (hs : s.size ≤ 19000) {c : List Cl} (h : RdOK s c) : RdOK ((⟨#[32, 32]⟩ ++ s) ++ ⟨#[32]⟩) c := by
  have e := pad_toks hs h.okT
  obtain ⟨h1, h2⟩ := h
  exact ⟨by rw [e]; exact h1, h2⟩
/-- The text of an expression between parentheses. -/
theorem paren_reads {l : List Cl} (hok : okE l = true) : RdOK ((⟨#[40]⟩ ++ ⟨(textE l).toArray⟩) ++ ⟨#[41]⟩) l := by
  have hlen := textE_len l
  obtain ⟨x, gx, tx, cx, dx⟩ := pz_of hok
  have he : ((⟨#[40]⟩ ++ ⟨(textE l).toArray⟩) ++ ⟨#[41]⟩ : ByteArray) = ⟨(40 :: (x.tx ++ [41]) : List UInt8).toArray⟩ := by
    apply ba_eq
    simp [ByteArray.data_append, tx]
  rw [he]
  rw [← tx] at hlen
  have hlex : Lex (40 :: (x.tx ++ [41])) ((4, [40]) :: (x.tk ++ [(4, [41])])) := lex_hard (by decide) (gx.lex.app (lex_hard1 (by decide)) (by simp) rfl)
  have hpl : plainL (40 :: (x.tx ++ [41])) = true := by rw [plain_cons, plain_app, gx.plain]; decide
  have hl2 := lex_at hlex hpl (by simp only [List.length_cons, List.length_append, List.length_nil]; omega)
  refine ⟨?_, hok⟩
  generalize rdTk ⟨(40 :: (x.tx ++ [41]) : List UInt8).toArray⟩ = tk at hl2 ⊢
  obtain ⟨hat, hl3⟩ := hl2
  have h0 := hat.head
  have h1 := hat.tail
  have t2 := h1.right.head
  have hq : tk.length = 0 + 1 + x.tk.length + 1 := by rw [hl3]; simp; omega
  have hend := end_isT tk (q := 0 + 1 + x.tk.length + 1) (by omega)
  obtain ⟨na, hna, ra⟩ := gx.chc tk (0 + 1) h1.left (by rw [head_isT t2]; decide) (by rw [head_rk t2]; exact lb_rank.2.1) (by rw [head_isT t2]; decide)
  have pa : Rg tk .single 0 x.cl (0 + 1 + x.tk.length + 1) 0 (na + 1) := .paren (by rw [head_isT h0]; decide) ra (by rw [head_isT t2]; decide)
  have ua : unaryT tk 0 = false := by rw [unaryT, head_isT h0, head_isT h0]; decide
  have dx1 := gx.dp
  rw [← cx, hq]
  exact ⟨na + 1, .one (.bin (.plain ua pa) (.stop (by rw [(hend []).2]; decide))) (hend [63]).1, by omega⟩
/-- The text of an expression between brackets: a list with one part. -/
theorem brk_reads {l : List Cl} (hok : okE l = true) (hroom : okE ((5, ⟨#[]⟩, 1) :: l) = true) : RdOK ((⟨#[91]⟩ ++ ⟨(textE l).toArray⟩) ++ ⟨#[93]⟩) ((5, ⟨#[]⟩, 1) :: l) := by
  have hlen := textE_len l
  obtain ⟨x, gx, tx, cx, dx⟩ := pz_of hok
  have he : ((⟨#[91]⟩ ++ ⟨(textE l).toArray⟩) ++ ⟨#[93]⟩ : ByteArray) = ⟨(91 :: (x.tx ++ [93]) : List UInt8).toArray⟩ := by
    apply ba_eq
    simp [ByteArray.data_append, tx]
  rw [he]
  rw [← tx] at hlen
  have hlex : Lex (91 :: (x.tx ++ [93])) ((4, [91]) :: (x.tk ++ [(4, [93])])) := lex_hard (by decide) (gx.lex.app (lex_hard1 (by decide)) (by simp) rfl)
  have hpl : plainL (91 :: (x.tx ++ [93])) = true := by rw [plain_cons, plain_app, gx.plain]; decide
  have hl2 := lex_at hlex hpl (by simp only [List.length_cons, List.length_append, List.length_nil]; omega)
  refine ⟨?_, hroom⟩
  generalize rdTk ⟨(91 :: (x.tx ++ [93]) : List UInt8).toArray⟩ = tk at hl2 ⊢
  obtain ⟨hat, hl3⟩ := hl2
  have h0 := hat.head
  have h1 := hat.tail
  have t2 := h1.right.head
  have hq : tk.length = 0 + 1 + x.tk.length + 1 := by rw [hl3]; simp; omega
  have hend := end_isT tk (q := 0 + 1 + x.tk.length + 1) (by omega)
  obtain ⟨na, hna, ra⟩ := gx.chc tk (0 + 1) h1.left (by rw [head_isT t2]; decide) (by rw [head_rk t2]; decide) (by rw [head_isT t2]; decide)
  have hfirst : isT tk (0 + 1) [93] = false := by
    obtain ⟨k, w, r, hk, hw⟩ := gx.headK
    have h2 := h1.left
    rw [hk] at h2
    have h3 := h2.head
    by_cases hk4 : k = 4
    · subst hk4
      rw [head_isT h3]
      rcases hw rfl with rfl | rfl | rfl | rfl <;> decide
    · exact (head_other h3 hk4).1
  have pa : Rg tk .single 0 ((5, ⟨#[]⟩, ((1 : Nat) : Int)) :: x.cl) (0 + 1 + x.tk.length + 1) 0 (max 0 na + 1) :=
    .list (by rw [head_isT h0]; decide) (.part hfirst (fun _ => rfl) (fun h => absurd rfl h) ra (.close (by rw [head_isT t2]; decide)))
  have ua : unaryT tk 0 = false := by rw [unaryT, head_isT h0, head_isT h0]; decide
  have dx1 := gx.dp
  rw [← cx, hq]
  exact ⟨max 0 na + 1, .one (.bin (.plain ua pa) (.stop (by rw [(hend []).2]; decide))) (hend [63]).1, by omega⟩

end Go.Proofs.YtncehcklppakcaaGreatDoor
