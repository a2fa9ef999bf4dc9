/-
  Several texts of the proof in one file: ReadE, TextRead, ReadSo.
-/
import Derived.Test.YtncehcklppakcaaGreatDoorBaseR
import Derived.Test.YtncehcklppakcaaGreatDoorRgTok
import Derived.Test.YtncehcklppakcaaGreatDoorExprI
import Derived.Test.YtncehcklppakcaaGreatDoorBaseZ
/-
  impl.ReadExpr and impl.ExprSound, by their contracts.
-/
namespace Go.Proofs.YtncehcklppakcaaGreatDoor
open Go.RowKit
set_option linter.unusedVariables false

def IsSlc (v : Value) : Prop := ∃ a n c, v = .slice a n c
theorem own_keepC {w w1 : World} {base : Nat} {e : TypeId} {size n : Nat} {v : Value} {xs : List Value} (h : w.ownsRow base e size v n xs) (hb : Below w.heap.size w w1) : w1.ownsRow base e size v n xs :=
  h.kept (row := none) ⟨hb.os, hb.tape, hb.output, hb.size, fun i hi _ => hb.block i hi⟩ (by cases hv : v.ownBlock with | none => exact .inl rfl | some x => exact .inr (by simp))
/-- A text is read as these cells. -/
def RdOK (s : ByteArray) (c : List Cl) : Prop := (∃ n, Rg (rdTk s) .choice 0 c (rdTk s).length 0 n ∧ n ≤ 40) ∧ okE c = true
theorem RdOK.uniq {s : ByteArray} {c d : List Cl} (h : RdOK s c) (k : RdOK s d) : c = d := by
  obtain ⟨⟨n, h1, -⟩, -⟩ := h
  obtain ⟨⟨m, k1, -⟩, -⟩ := k
  exact (h1.uniq k1).1
/-- What ReadExpr leaves. -/
def ReadPost (s : ByteArray) (w : World) (e : Ending) (w' : World) : Prop :=
  Below w.heap.size w w' ∧ ((∃ v c, e = .returned (.tuple #[v, .bool true]) ∧ RdOK s c ∧ w'.ownsRow w.heap.size 41 3 v c.length (flatC c)) ∨ (e = .returned (.tuple #[.slice none 0 0, .bool false]) ∧ ∀ c, ¬ RdOK s c))
theorem RtB.cells {w : World} {lo N n : Nat} {c : List Cl} (h : RtB w lo N c n) : 1 ≤ c.length := by
  obtain ⟨k, s, v, qs, c1, rfl, -⟩ := h; simp

theorem unqT_size (s : ByteArray) : (unqT s).size ≤ s.size := by
  cases h : unqOK s with
  | false => rw [unq_no h]; exact Nat.zero_le _
  | true =>
    obtain ⟨h1, h2⟩ := unq_quote h
    have : s.data.toList = quoteL (unqT s).data.toList := by
      have e := congrArg (fun z : ByteArray => z.data.toList) h2
      simp only [quoteT, if_pos h1] at e
      exact e.symm
    have hl := (quoteI_len (unqT s).data.toList).1
    have e1 := size_list s; have e2 := size_list (unqT s)
    rw [this] at e1
    simp only [quoteL, List.length_cons, List.length_append, List.length_nil] at e1
    omega
/-- No word is long. -/
theorem Rg.words {tk : List Tk} {B : Nat} (hB : 60 ≤ B) (ht : ∀ (p : Nat) (k : Int) (s : ByteArray), tk[p]? = some (k, s) → s.size ≤ B) {j : GJob} {p : Nat} {c : List Cl} {q m n : Nat} (h : Rg tk j p c q m n) : (∀ x ∈ j.held, x.2.1.size ≤ B) → ∀ x ∈ c, x.2.1.size ≤ B := by
  induction h with
  | one h1 h2 i => exact i
  | three h1 h2 h3 h4 h5 i1 i2 i3 =>
    intro hh x hx
    simp only [List.mem_cons, List.mem_append] at hx
    have hn : ∀ x ∈ ([] : List Cl), x.2.1.size ≤ B := fun x hx => by cases hx
    rcases hx with rfl | hx | hx | hx
    · exact Nat.zero_le _
    · exact i1 hn x hx
    · exact i2 hn x hx
    · exact i3 hn x hx
  | bin h1 h2 i1 i2 => intro hh; exact i2 (i1 hh)
  | stop h => exact fun hh => hh
  | more h1 h2 h3 h4 h5 h6 h7 i1 i2 =>
    intro hh
    refine i2 (fun x hx => ?_)
    simp only [GJob.held, List.mem_cons, List.mem_append] at hx
    rcases hx with rfl | hx | hx
    · exact ht _ _ _ h4
    · exact hh x hx
    · exact i1 (fun x hx => by cases hx) x hx
  | sign h1 h2 h3 i =>
    intro hh x hx
    rcases List.mem_cons.mp hx with rfl | hx
    · exact ht _ _ _ h2
    · exact i hh x hx
  | plain h1 h2 i => exact i
  | @num p s h1 h2 =>
    intro hh x hx
    simp only [List.mem_singleton] at hx
    subst hx
    have : (numWd s).size ≤ 60 := by rw [← size_list]; exact textF_len60 _ _
    show (numWd s).size ≤ B
    omega
  | @text p s h1 h2 =>
    intro hh x hx
    simp only [List.mem_singleton] at hx
    subst hx
    exact Nat.le_trans (unqT_size s) (ht _ _ _ h1)
  | truth h1 h2 => intro hh x hx; simp only [List.mem_singleton] at hx; subst hx; exact ht _ _ _ h1
  | name h1 h2 h3 h4 => intro hh x hx; simp only [List.mem_singleton] at hx; subst hx; exact ht _ _ _ h1
  | call h1 h2 h3 h4 h5 i =>
    intro hh x hx
    rcases List.mem_cons.mp hx with rfl | hx
    · exact ht _ _ _ h1
    · exact i hh x hx
  | paren h1 h2 h3 i => exact i
  | list h1 h2 i =>
    intro hh x hx
    rcases List.mem_cons.mp hx with rfl | hx
    · exact Nat.zero_le _
    · exact i hh x hx
  | close h => exact fun hh => hh
  | part h1 h2 h3 h4 h5 i1 i2 =>
    intro hh
    refine i2 (fun x hx => ?_)
    simp only [GJob.held, List.mem_append] at hx
    rcases hx with hx | hx
    · exact hh x hx
    · exact i1 (fun x hx => by cases hx) x hx

set_option maxRecDepth 100000 in
set_option maxHeartbeats 4000000 in
theorem readExpr_impl (s : ByteArray) (w : World) (hs : s.size ≤ 2097152) (htab : Tab w) :
    Calls Tryz.prog 17 #[.string s] w (ReadPost s w) := by
  obtain ⟨f1, f2, f3, f4⟩ := toks_facts s
  have HF1 := Lib.hid f1; have HF2 := Lib.hid f2; have HF3 := Lib.hid f3; have HF4 := Lib.hid f4; have HT := Lib.hid htab
  have hls : s.size ≤ maxLen := by unfold maxLen; omega
  have HTK := Lib.hid (tokensOf_impl s w hls)
  have HRK := Lib.hid (show rdTk s = (toksT s).map fun x => (x.1, s.extract x.2.1 x.2.2) from rfl)
  have hrl : (rdTk s).length = (toksT s).length := by simp [rdTk]
  clear f1 f2 f3 f4 htab hls
  go_enter Tryz.func17, Tryz.ntmps17
  go_wp2_with fail
  refine HTK.out.mono ?_
  rintro e w2 ⟨tv, rfl, ho2, hb2⟩
  have hrow := RowT.of_own ho2
  obtain ⟨-, ao, cap, rfl, -⟩ := hrow
  have HCX := Lib.hid (show Cx w2 w2.heap.size s (.slice ao (toksT s).length cap) (toksT s) (rdTk s) from ⟨RowT.of_own ho2, HF1.out, HRK.out, HF2.out, hs, HF3.out, HF4.out, Nat.le_refl _⟩)
  have HTB := Lib.hid (HT.out.keep hb2)
  have HB2 := Lib.hid hb2
  have HBA := Lib.hid ((Below.refl w2.heap.size w2).alloc (Nat.le_refl _) (.cells #[.string s, .slice ao (toksT s).length cap, .int .i64 0, .int .i64 0] 69))
  have HRD := Lib.hid (show RdAt (w2.alloc (.cells #[.string s, .slice ao (toksT s).length cap, .int .i64 0, .int .i64 0] 69)) w2.heap.size s (.slice ao (toksT s).length cap) 0 0 from heap_alloc_new w2 _)
  clear ho2 hb2
  go_wp2_with fail
  refine ((all_g HTB.out HCX.out (10 * (rdTk s).length + 8)).choice 0 0 _ HBA.out HRD.out (Nat.zero_le _) (by omega) (by omega)).mono ?_
  rintro e w4 ⟨hg4, q, hq, hr4, hres⟩
  have HB4 := Lib.hid (grown_bel HBA.out (show World.grownBy _ w4 (some w2.heap.size) from hg4) (Nat.le_refl _))
  have HBW := Lib.hid (HB2.out.trans (HB4.out.mono HB2.out.size))
  have HR4 := Lib.hid hr4
  obtain ⟨⟨q0, q1, q2, q3⟩, -⟩ := hr4.cells
  have hs2 := HB2.out.size
  rcases hres with ⟨M, c, n, rfl, ht, hd⟩ | ⟨rfl, hno⟩
  · obtain ⟨n4, -⟩ := ht.nest
    have hMl := ht.lt
    have hnn := hd.nest
    simp only at hnn
    have HT4 := Lib.hid (ht.tree (hi := w4.heap.size) hMl.2); have HD := Lib.hid hd
    have hcl := hd.le.1
    simp only [GJob.held, List.length_nil] at hcl
    clear ht hd hg4 hr4
    have hf1 := HF1.out
    by_cases hql : q = (toksT s).length
    · subst hql
      by_cases hn40 : n ≤ 40
      · have hn40' : ¬ (40 : Int) < (n : Int) := by omega
        have HSZ := Lib.hid (show SizedC c from fun x hx => by
          have := HD.out.words (B := 2097152) (by omega) (fun p k wd hp => by
            obtain ⟨_, wd', h1, -, -, h4⟩ := HCX.out.at (at_lt hp)
            rw [hp] at h1; injection h1 with h1; injection h1 with h1 h2; rw [h2]; exact h4) (fun x hx => by cases hx) x hx
          unfold maxLen; omega)
        go_wp2_with fail
        refine (appendTo_any w4 _ c.length w4.heap.size M c [] (.slice none 0 0) w4 HT4.out (Nat.le_refl _) (by simp; omega) (Below.refl _ _) (World.ownsRow_nil _ _ _ _)).mono ?_
        rintro e w5 ⟨v5, rfl, ho5, hb5⟩
        rw [List.nil_append] at ho5
        have HO5 := Lib.hid ho5
        have HB5 := Lib.hid (HBW.out.trans (hb5.mono HBW.out.size))
        have HRC := Lib.hid (RowC.of_own ho5).1
        have HT5 := Lib.hid (HT.out.keep HB5.out)
        have hsl : IsSlc v5 := by
          obtain ⟨a, b, hv, -⟩ := HRC.out
          exact ⟨_, _, _, hv⟩
        clear ho5 hb5
        obtain ⟨va, vn, vc, rfl⟩ := hsl
        go_wp2_with fail
        refine (exprValid_impl _ c w5 HRC.out HSZ.out HT5.out).mono ?_
        rintro e w6 ⟨rfl, hb6⟩
        have HB6 := Lib.hid (HB5.out.trans (hb6.mono HB5.out.size))
        have HO6 := Lib.hid (own_keepC HO5.out hb6)
        clear hb6
        cases hok : okE c with
        | true =>
          have HDD := Lib.hid (show RdOK s c from ⟨⟨n, by rw [hrl]; exact HD.out, hn40⟩, hok⟩)
          clear hok
          go_wp2
          go_ret2
          exact ⟨HB6.out, .inl ⟨_, c, rfl, HDD.out, HO6.out.mono (by have := HBW.out.size; omega)⟩⟩
        | false =>
          have HDD := Lib.hid (show ∀ d, ¬ RdOK s d from fun d ⟨⟨n', h1, h2⟩, h3⟩ => by
            obtain ⟨rfl, -⟩ := HD.out.uniq h1
            rw [hok] at h3; cases h3)
          clear hok
          go_wp2
          go_ret2
          exact ⟨HB6.out, .inr ⟨rfl, HDD.out⟩⟩
      · have hn40' : (40 : Int) < (n : Int) := by omega
        have HDD := Lib.hid (show ∀ d, ¬ RdOK s d from fun d ⟨⟨n', h1, h2⟩, h3⟩ => by
          obtain ⟨-, -, -, rfl⟩ := HD.out.uniq h1
          exact hn40 h2)
        go_wp2
        go_ret2
        exact ⟨HBW.out, .inr ⟨rfl, HDD.out⟩⟩
    · have hqi : (q : Int) < ((toksT s).length : Int) := by omega
      have HDD := Lib.hid (show ∀ d, ¬ RdOK s d from fun d ⟨⟨n', h1, h2⟩, h3⟩ => by
        obtain ⟨-, h, -⟩ := HD.out.uniq h1
        rw [hrl] at h
        exact hql h)
      go_wp2
      go_ret2
      exact ⟨HBW.out, .inr ⟨rfl, HDD.out⟩⟩
  · have HDD := Lib.hid (show ∀ d, ¬ RdOK s d from fun d ⟨⟨n', h1, h2⟩, h3⟩ => by have := hno _ _ _ _ h1; omega)
    clear hno hg4 hr4
    go_wp2
    go_ret2
    exact ⟨HBW.out, .inr ⟨rfl, HDD.out⟩⟩

end Go.Proofs.YtncehcklppakcaaGreatDoor

/-
  The text of a valid expression is read as the expression: plainly.
-/
namespace Go.Proofs.YtncehcklppakcaaGreatDoor
set_option linter.unusedVariables false

/-- n expressions side by side from f up to t, printed. -/
inductive Tz (l : List Cl) : Nat → Nat → Nat → List Pz → Prop
  | nil (f : Nat) : Tz l 0 f f []
  | cons {f g n t : Nat} {c : Cl} {ks xs : List Pz} : l[f]? = some c → Tz l c.2.2.toNat (f + 1) g ks → Tz l n g t xs → Tz l (n + 1) f t (mkPz c ks :: xs)
theorem Tz.len {l : List Cl} {n f t : Nat} {xs : List Pz} (h : Tz l n f t xs) : xs.length = n := by
  induction h with
  | nil f => rfl
  | cons hc h1 h2 i1 i2 => rw [List.length_cons, i2]
theorem Tz.tx {l : List Cl} {n f t : Nat} {xs : List Pz} (h : Tz l n f t xs) : Tx l n f t (xs.map ptOf) := by
  induction h with
  | nil f => exact .nil f
  | cons hc h1 h2 i1 i2 => exact .cons hc i1 i2
theorem Tz.of_exs {l : List Cl} {n f t d : Nat} (h : Exs (amL l) n f t d) : ∃ xs, Tz l n f t xs ∧ maxD xs = d := by
  generalize ha : amL l = am at h
  induction h with
  | nil f => exact ⟨[], .nil f, rfl⟩
  | @cons f m g d n t e hm h1 h2 i1 i2 =>
    obtain ⟨ks, k1, k2⟩ := i1; obtain ⟨xs, k3, k4⟩ := i2
    subst ha
    obtain ⟨c, hc, rfl⟩ := amL_get hm
    refine ⟨_, .cons hc k1 k3, ?_⟩
    simp only [maxD, mkPz, k2, k4]
theorem Tz.good {l : List Cl} (hok : l.all okC = true) {n f t : Nat} {xs : List Pz} (h : Tz l n f t xs) : ∀ x ∈ xs, Good x := by
  induction h with
  | nil f => intro x hx; cases hx
  | @cons f g n t c ks xs hc h1 h2 i1 i2 =>
    intro x hx
    rcases List.mem_cons.mp hx with rfl | hx
    · obtain ⟨hl, he⟩ := List.getElem?_eq_some_iff.mp hc
      exact good_mk (by rw [← he]; exact okC_all hok f hl) h1.len i1
    · exact i2 x hx
theorem Tz.cells {l : List Cl} {n f t : Nat} {xs : List Pz} (h : Tz l n f t xs) : xs.flatMap Pz.cl = (l.drop f).take (t - f) ∧ f ≤ t := by
  induction h with
  | nil f => simp
  | @cons f g n t c ks xs hc h1 h2 i1 i2 =>
    obtain ⟨hl, he⟩ := List.getElem?_eq_some_iff.mp hc
    obtain ⟨e1, l1⟩ := i1
    obtain ⟨e2, l2⟩ := i2
    refine ⟨?_, by omega⟩
    have e0 : l.drop f = c :: l.drop (f + 1) := by rw [List.drop_eq_getElem_cons hl, he]
    rw [List.flatMap_cons, e2]
    simp only [mkPz]
    rw [e1, e0, show t - f = (t - (f + 1)) + 1 by omega, List.take_succ_cons, List.cons_append]
    congr 1
    have : l.drop g = (l.drop (f + 1)).drop (g - (f + 1)) := by rw [List.drop_drop]; congr 1; omega
    rw [this, show t - (f + 1) = (g - (f + 1)) + (t - g) by omega, List.take_add]
/-- A valid expression, printed. -/
theorem pz_of {l : List Cl} (hok : okE l = true) : ∃ x : Pz, Good x ∧ x.tx = textE l ∧ x.cl = l ∧ x.dp ≤ 12 := by
  obtain ⟨h60, hal, d, hd, hx⟩ := (okE_iff l).mp hok
  obtain ⟨xs, h, hm⟩ := Tz.of_exs hx
  have hl := h.len
  match xs, hl, h, hm with
  | [x], _, h, hm =>
    refine ⟨x, h.good hal x (by simp), ?_, ?_, ?_⟩
    · have := textE_of hok (x := ptOf x) h.tx
      rw [this]; rfl
    · have := h.cells.1
      simpa using this
    · simp only [maxD] at hm; omega

/-- The tokens of a text that is divided by itself. -/
theorem lex_toks {tx : List UInt8} {tk : List Kw} (h : Lex tx tk) (hp : plainL tx = true) (hl : tx.length ≤ 20000) : rdTk ⟨tx.toArray⟩ = tk.map fun x => (x.1, (⟨x.2.toArray⟩ : ByteArray)) := by
  obtain ⟨L, e1, b1, r1⟩ := h
  have he : endM (0, 0, []) 0 tx = (0, tx.length, L) := by
    have := r1 [] rfl 0 []
    rw [List.append_nil, List.nil_append, Nat.zero_add] at this
    rw [this]
    have hz : L.map (shT 0) = L := by
      have : shT 0 = id := by funext x; rfl
      rw [this, List.map_id]
    rw [hz]
    unfold endM
    rw [runM, step_zero, first_space]; simp
  have hres : resB (0, 0, []) 0 tx = true := by rw [resB, he]; rfl
  have hok : okT ⟨tx.toArray⟩ = true := by
    rw [okT, ba_list, hp, hres]
    simp only [Bool.and_true, decide_eq_true_eq]
    show tx.toArray.size ≤ 20000
    simpa using hl
  have ht : toksT ⟨tx.toArray⟩ = L := by
    rw [toksT, if_pos hok, ba_list, resL, if_pos hres, he]
  rw [rdTk, ht, ← e1, List.map_map]
  apply List.map_congr_left
  intro x hx
  have hb := b1 x hx
  simp only [Function.comp]
  congr 1
  apply ba_eq
  rw [ByteArray.data_extract, Array.toList_extract, List.extract_eq_take_drop]
theorem lex_at {tx : List UInt8} {tk : List Kw} (h : Lex tx tk) (hp : plainL tx = true) (hl : tx.length ≤ 20000) : AtK (rdTk ⟨tx.toArray⟩) 0 tk ∧ (rdTk ⟨tx.toArray⟩).length = tk.length := by
  rw [lex_toks h hp hl]
  refine ⟨fun i hi => ?_, by simp⟩
  rw [Nat.zero_add, List.getElem?_map, List.getElem?_eq_getElem hi]; rfl
theorem end_isT (tk : List Tk) {q : Nat} (h : tk.length ≤ q) (w : List UInt8) : isT tk q w = false ∧ rkT tk q = 0 := by
  unfold isT rkT
  rw [List.getElem?_eq_none h]; exact ⟨rfl, rfl⟩
/-- What is printed is read as what it is. -/
theorem good_reads {x : Pz} (hg : Good x) (hd : x.dp ≤ 20) (hl : x.tx.length ≤ 20000) (hok : okE x.cl = true) : RdOK ⟨x.tx.toArray⟩ x.cl := by
  obtain ⟨ha, hlen⟩ := lex_at hg.lex hg.plain hl
  have he := end_isT (rdTk ⟨x.tx.toArray⟩) (q := 0 + x.tk.length) (by omega)
  obtain ⟨n, hn, hr⟩ := hg.chc _ 0 ha (he [40]).1 (he []).2 (he [63]).1
  have hdp := hg.dp
  refine ⟨⟨n, ?_, by omega⟩, hok⟩
  rw [hlen]
  rwa [Nat.zero_add] at hr
theorem text_reads {l : List Cl} (hok : okE l = true) : RdOK ⟨(textE l).toArray⟩ l := by
  obtain ⟨x, hg, ht, hc, hd⟩ := pz_of hok
  have hl := textE_len l
  rw [← ht] at hl ⊢
  rw [← hc] at hok
  rw [← hc]
  exact good_reads hg (by omega) (by omega) hok
theorem textE_short {l : List Cl} (hok : okE l = true) : (textE l).length ≤ 200 * l.length := by
  obtain ⟨x, h⟩ := okE_tx hok
  obtain ⟨h60, hal, -⟩ := (okE_iff l).mp hok
  have := (h.short hal).1
  rw [textE_of hok h]
  simp only [sumT] at this; omega
/-- Two expressions in parentheses with a sign between them. -/
theorem both_reads {a b both : List Cl} {w : ByteArray} (ha : okE a = true) (hb : okE b = true) (hw : 0 < rankL w.data.toList) (hboth : both = (8, w, 2) :: (a ++ b)) (hok : okE both = true) :
    RdOK ⟨(40 :: (textE a ++ (41 :: (w.data.toList ++ (40 :: (textE b ++ [41]))))) : List UInt8).toArray⟩ both := by
  have h60 := ((okE_iff both).mp hok).1
  have sa := textE_short ha; have sb := textE_short hb
  obtain ⟨x, gx, tx, cx, dx⟩ := pz_of ha
  obtain ⟨y, gy, ty, cy, dy⟩ := pz_of hb
  have hwl := rank_pos _ hw
  have hk26 := rankL_in _ hw
  rw [← tx] at sa ⊢
  rw [← ty] at sb ⊢
  have hlex : Lex (40 :: (x.tx ++ (41 :: (w.data.toList ++ (40 :: (y.tx ++ [41]))))) : List UInt8) ((4, [40]) :: (x.tk ++ ((4, [41]) :: ([(4, w.data.toList)] ++ ((4, [40]) :: (y.tk ++ [(4, [41])])))))) :=
    lex_hard (by decide) (gx.lex.app (lex_hard (by decide) ((lex_bin hw).app (lex_hard (by decide) (gy.lex.app (lex_hard1 (by decide)) (by simp) (by decide))) (by simp) rfl)) (by simp) rfl)
  have hpl : plainL (40 :: (x.tx ++ (41 :: (w.data.toList ++ (40 :: (y.tx ++ [41]))))) : List UInt8) = true := by
    simp only [plain_app, plain_cons, gx.plain, gy.plain, signs_plain hw]; decide
  have hll : (40 :: (x.tx ++ (41 :: (w.data.toList ++ (40 :: (y.tx ++ [41]))))) : List UInt8).length ≤ 20000 := by
    rw [hboth] at h60
    simp only [List.length_cons, List.length_append, List.length_nil] at h60 ⊢; omega
  have hl2 := lex_at hlex hpl hll
  refine ⟨?_, hok⟩
  generalize rdTk ⟨(40 :: (x.tx ++ (41 :: (w.data.toList ++ (40 :: (y.tx ++ [41]))))) : List UInt8).toArray⟩ = tk at hl2 ⊢
  obtain ⟨hat, hlen⟩ := hl2
  have h0 := hat.head
  have h1 := hat.tail
  have h2 := h1.right
  have t2 := h2.head
  have h3 : AtK tk (0 + 1 + x.tk.length + 1) ((4, w.data.toList) :: ((4, [40]) :: (y.tk ++ [(4, [41])]))) := h2.tail
  have t3 := h3.head
  have h4 := h3.tail
  have t4 := h4.head
  have h5 := h4.tail
  have t6 := h5.right.head
  obtain ⟨na, hna, ra⟩ := gx.chc tk (0 + 1) h1.left (by rw [head_isT t2]; decide) (by rw [head_rk t2]; exact lb_rank.2.1) (by rw [head_isT t2]; decide)
  obtain ⟨nb, hnb, rb⟩ := gy.chc tk (0 + 1 + x.tk.length + 1 + 1 + 1) h5.left (by rw [head_isT t6]; decide) (by rw [head_rk t6]; exact lb_rank.2.1) (by rw [head_isT t6]; decide)
  have pa : Rg tk .single 0 x.cl (0 + 1 + x.tk.length + 1) 0 (na + 1) := .paren (by rw [head_isT h0]; decide) ra (by rw [head_isT t2]; decide)
  have pb : Rg tk .single (0 + 1 + x.tk.length + 1 + 1) y.cl (0 + 1 + x.tk.length + 1 + 1 + 1 + y.tk.length + 1) 0 (nb + 1) := .paren (by rw [head_isT t4]; decide) rb (by rw [head_isT t6]; decide)
  have ua : unaryT tk 0 = false := by rw [unaryT, head_isT h0, head_isT h0]; decide
  have ub : unaryT tk (0 + 1 + x.tk.length + 1 + 1) = false := by rw [unaryT, head_isT t4, head_isT t4]; decide
  have hq : tk.length = 0 + 1 + x.tk.length + 1 + 1 + 1 + y.tk.length + 1 := by rw [hlen]; simp; omega
  have he := end_isT tk (q := 0 + 1 + x.tk.length + 1 + 1 + 1 + y.tk.length + 1) (by omega)
  obtain ⟨kk, hkk⟩ := Int.eq_ofNat_of_zero_le (show 0 ≤ rankL w.data.toList by omega)
  have hrk : rkT tk (0 + 1 + x.tk.length + 1) = (kk : Int) := by rw [head_rk t3, hkk]
  have bb : Rg tk (.bin (kk + 1)) (0 + 1 + x.tk.length + 1 + 1) y.cl (0 + 1 + x.tk.length + 1 + 1 + 1 + y.tk.length + 1) 0 (nb + 1) := .bin (.plain ub pb) (.stop (by rw [(he []).2]; omega))
  simp only [ba_self] at t3
  have dx1 := gx.dp; have dy1 := gy.dp
  rw [hboth, ← cx, ← cy, hq]
  exact ⟨max (na + 1) (nb + 1), .one (.bin (.plain ua pa) (.more (k := kk) hrk (by omega) (by omega) t3 bb (fun h => by rw [(he []).2] at h; omega) (.stop (by rw [(he []).2]; omega)))) (he [63]).1, by omega⟩

end Go.Proofs.YtncehcklppakcaaGreatDoor

/-
  impl.ExprSound, by its contract.
-/
namespace Go.Proofs.YtncehcklppakcaaGreatDoor
open Go.RowKit
set_option linter.unusedVariables false

/-- What ExprSound answers. -/
theorem exprSound_impl (s : ByteArray) (w : World) (hs : s.size ≤ 2097152) (htab : Tab w) :
    Calls Tryz.prog 23 #[.string s] w fun e w' => Below w.heap.size w w' ∧ ∃ ok, e = .returned (.bool ok) ∧ (ok = true ↔ ∃ c, RdOK s c) := by
  have HC := Lib.hid (readExpr_impl s w hs htab)
  clear htab
  go_enter Tryz.func23, Tryz.ntmps23
  go_wp2_with fail
  refine HC.out.mono ?_
  rintro e w1 ⟨hb1, ⟨v, c, rfl, hok, ho⟩ | ⟨rfl, hno⟩⟩
  · have HB := Lib.hid hb1; have HO := Lib.hid (show ∃ c, RdOK s c from ⟨c, hok⟩)
    clear hb1 hok ho
    go_wp2
    go_ret
    exact ⟨HB.out, true, rfl, fun _ => HO.out, fun _ => rfl⟩
  · have HB := Lib.hid hb1; have HO := Lib.hid (show ¬ ∃ c, RdOK s c from fun ⟨c, h⟩ => hno c h)
    clear hb1 hno
    go_wp2
    go_ret
    exact ⟨HB.out, false, rfl, fun h => (by cases h), fun h => absurd h HO.out⟩

end Go.Proofs.YtncehcklppakcaaGreatDoor
