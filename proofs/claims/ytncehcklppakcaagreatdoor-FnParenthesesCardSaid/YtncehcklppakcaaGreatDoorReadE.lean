/-
  impl.ReadExpr and impl.ExprSound, by their contracts.
-/
import Derived.Test.YtncehcklppakcaaGreatDoorBaseR
import Derived.Test.YtncehcklppakcaaGreatDoorRgTok
import Derived.Test.YtncehcklppakcaaGreatDoorExprI
namespace Go.Proofs.YtncehcklppakcaaGreatDoor
open Go.RowKit
set_option linter.unusedVariables false

def IsSlc (v : Value) : Prop := ∃ a n c, v = .slice a n c
theorem own_keepC {w w1 : World} {base : Nat} {e : TypeId} {size n : Nat} {v : Value} {xs : List Value} (h : w.ownsRow base e size v n xs) (hb : Below w.heap.size w w1) : w1.ownsRow base e size v n xs :=
  h.kept (row := none) ⟨hb.os, hb.tape, hb.output, hb.size, fun i hi _ => hb.block i hi⟩ (by cases hv : v.ownBlock with | none => exact .inl rfl | some x => exact .inr (by simp))
/-- A text is read as these cells. -/
def RdOK (s : ByteArray) (c : List Cl) : Prop := (∃ n, Rg (rdTk s) .choice 0 c (rdTk s).length 0 n ∧ n ≤ 40) ∧ okE c = true
theorem RdOK.uniq {s : ByteArray} {c d : List Cl} (h : RdOK s c) (k : RdOK s d) : c = d := by
  obtain ⟨⟨n, h1, -⟩, -⟩ := h
  obtain ⟨⟨m, k1, -⟩, -⟩ := k
  exact (h1.uniq k1).1
/-- What ReadExpr leaves. -/
def ReadPost (s : ByteArray) (w : World) (e : Ending) (w' : World) : Prop :=
  Below w.heap.size w w' ∧ ((∃ v c, e = .returned (.tuple #[v, .bool true]) ∧ RdOK s c ∧ w'.ownsRow w.heap.size 41 3 v c.length (flatC c)) ∨ (e = .returned (.tuple #[.slice none 0 0, .bool false]) ∧ ∀ c, ¬ RdOK s c))
theorem RtB.cells {w : World} {lo N n : Nat} {c : List Cl} (h : RtB w lo N c n) : 1 ≤ c.length := by
  obtain ⟨k, s, v, qs, c1, rfl, -⟩ := h; simp

theorem unqT_size (s : ByteArray) : (unqT s).size ≤ s.size := by
  cases h : unqOK s with
  | false => rw [unq_no h]; exact Nat.zero_le _
  | true =>
    obtain ⟨h1, h2⟩ := unq_quote h
    have : s.data.toList = quoteL (unqT s).data.toList := by
      have e := congrArg (fun z : ByteArray => z.data.toList) h2
      simp only [quoteT, if_pos h1] at e
      exact e.symm
    have hl := (quoteI_len (unqT s).data.toList).1
    have e1 := size_list s; have e2 := size_list (unqT s)
    rw [this] at e1
    simp only [quoteL, List.length_cons, List.length_append, List.length_nil] at e1
    omega
/-- No word is long. -/
theorem Rg.words {tk : List Tk} {B : Nat} (hB : 60 ≤ B) (ht : ∀ (p : Nat) (k : Int) (s : ByteArray), tk[p]? = some (k, s) → s.size ≤ B) {j : GJob} {p : Nat} {c : List Cl} {q m n : Nat} (h : Rg tk j p c q m n) : (∀ x ∈ j.held, x.2.1.size ≤ B) → ∀ x ∈ c, x.2.1.size ≤ B := by
  induction h with
  | one h1 h2 i => exact i
  | three h1 h2 h3 h4 h5 i1 i2 i3 =>
    intro hh x hx
    simp only [List.mem_cons, List.mem_append] at hx
    have hn : ∀ x ∈ ([] : List Cl), x.2.1.size ≤ B := fun x hx => by cases hx
    rcases hx with rfl | hx | hx | hx
    · exact Nat.zero_le _
    · exact i1 hn x hx
    · exact i2 hn x hx
    · exact i3 hn x hx
  | bin h1 h2 i1 i2 => intro hh; exact i2 (i1 hh)
  | stop h => exact fun hh => hh
  | more h1 h2 h3 h4 h5 h6 h7 i1 i2 =>
    intro hh
    refine i2 (fun x hx => ?_)
    simp only [GJob.held, List.mem_cons, List.mem_append] at hx
    rcases hx with rfl | hx | hx
    · exact ht _ _ _ h4
    · exact hh x hx
    · exact i1 (fun x hx => by cases hx) x hx
  | sign h1 h2 h3 i =>
    intro hh x hx
    rcases List.mem_cons.mp hx with rfl | hx
    · exact ht _ _ _ h2
    · exact i hh x hx
  | plain h1 h2 i => exact i
  | @num p s h1 h2 =>
    intro hh x hx
    simp only [List.mem_singleton] at hx
    subst hx
    have : (numWd s).size ≤ 60 := by rw [← size_list]; exact textF_len60 _ _
    show (numWd s).size ≤ B
    omega
  | @text p s h1 h2 =>
    intro hh x hx
    simp only [List.mem_singleton] at hx
    subst hx
    exact Nat.le_trans (unqT_size s) (ht _ _ _ h1)
  | truth h1 h2 => intro hh x hx; simp only [List.mem_singleton] at hx; subst hx; exact ht _ _ _ h1
  | name h1 h2 h3 h4 => intro hh x hx; simp only [List.mem_singleton] at hx; subst hx; exact ht _ _ _ h1
  | call h1 h2 h3 h4 h5 i =>
    intro hh x hx
    rcases List.mem_cons.mp hx with rfl | hx
    · exact ht _ _ _ h1
    · exact i hh x hx
  | paren h1 h2 h3 i => exact i
  | list h1 h2 i =>
    intro hh x hx
    rcases List.mem_cons.mp hx with rfl | hx
    · exact Nat.zero_le _
    · exact i hh x hx
  | close h => exact fun hh => hh
  | part h1 h2 h3 h4 h5 i1 i2 =>
    intro hh
    refine i2 (fun x hx => ?_)
    simp only [GJob.held, List.mem_append] at hx
    rcases hx with hx | hx
    · exact hh x hx
    · exact i1 (fun x hx => by cases hx) x hx

set_option maxRecDepth 100000 in
set_option maxHeartbeats 4000000 in
theorem readExpr_impl (s : ByteArray) (w : World) (hs : s.size ≤ 2097152) (htab : Tab w) :
    Calls Tryz.prog 17 #[.string s] w (ReadPost s w) := by
  obtain ⟨f1, f2, f3, f4⟩ := toks_facts s
  have HF1 := Lib.hid f1; have HF2 := Lib.hid f2; have HF3 := Lib.hid f3; have HF4 := Lib.hid f4; have HT := Lib.hid htab
  have hls : s.size ≤ maxLen := by unfold maxLen; omega
  have HTK := Lib.hid (tokensOf_impl s w hls)
  have HRK := Lib.hid (show rdTk s = (toksT s).map fun x => (x.1, s.extract x.2.1 x.2.2) from rfl)
  have hrl : (rdTk s).length = (toksT s).length := by simp [rdTk]
  clear f1 f2 f3 f4 htab hls
  go_enter Tryz.func17, Tryz.ntmps17
  go_wp2_with fail
  refine HTK.out.mono ?_
  rintro e w2 ⟨tv, rfl, ho2, hb2⟩
  have hrow := RowT.of_own ho2
  obtain ⟨-, ao, cap, rfl, -⟩ := hrow
  have HCX := Lib.hid (show Cx w2 w2.heap.size s (.slice ao (toksT s).length cap) (toksT s) (rdTk s) from ⟨RowT.of_own ho2, HF1.out, HRK.out, HF2.out, hs, HF3.out, HF4.out, Nat.le_refl _⟩)
  have HTB := Lib.hid (HT.out.keep hb2)
  have HB2 := Lib.hid hb2
  have HBA := Lib.hid ((Below.refl w2.heap.size w2).alloc (Nat.le_refl _) (.cells #[.string s, .slice ao (toksT s).length cap, .int .i64 0, .int .i64 0] 69))
  have HRD := Lib.hid (show RdAt (w2.alloc (.cells #[.string s, .slice ao (toksT s).length cap, .int .i64 0, .int .i64 0] 69)) w2.heap.size s (.slice ao (toksT s).length cap) 0 0 from heap_alloc_new w2 _)
  clear ho2 hb2
  go_wp2_with fail
  refine ((all_g HTB.out HCX.out (10 * (rdTk s).length + 8)).choice 0 0 _ HBA.out HRD.out (Nat.zero_le _) (by omega) (by omega)).mono ?_
  rintro e w4 ⟨hg4, q, hq, hr4, hres⟩
  have HB4 := Lib.hid (grown_bel HBA.out (show World.grownBy _ w4 (some w2.heap.size) from hg4) (Nat.le_refl _))
  have HBW := Lib.hid (HB2.out.trans (HB4.out.mono HB2.out.size))
  have HR4 := Lib.hid hr4
  obtain ⟨⟨q0, q1, q2, q3⟩, -⟩ := hr4.cells
  have hs2 := HB2.out.size
  rcases hres with ⟨M, c, n, rfl, ht, hd⟩ | ⟨rfl, hno⟩
  · obtain ⟨n4, -⟩ := ht.nest
    have hMl := ht.lt
    have hnn := hd.nest
    simp only at hnn
    have HT4 := Lib.hid (ht.tree (hi := w4.heap.size) hMl.2); have HD := Lib.hid hd
    have hcl := hd.le.1
    simp only [GJob.held, List.length_nil] at hcl
    clear ht hd hg4 hr4
    have hf1 := HF1.out
    by_cases hql : q = (toksT s).length
    · subst hql
      by_cases hn40 : n ≤ 40
      · have hn40' : ¬ (40 : Int) < (n : Int) := by omega
        have HSZ := Lib.hid (show SizedC c from fun x hx => by
          have := HD.out.words (B := 2097152) (by omega) (fun p k wd hp => by
            obtain ⟨_, wd', h1, -, -, h4⟩ := HCX.out.at (at_lt hp)
            rw [hp] at h1; injection h1 with h1; injection h1 with h1 h2; rw [h2]; exact h4) (fun x hx => by cases hx) x hx
          unfold maxLen; omega)
        go_wp2_with fail
        refine (appendTo_any w4 _ c.length w4.heap.size M c [] (.slice none 0 0) w4 HT4.out (Nat.le_refl _) (by simp; omega) (Below.refl _ _) (World.ownsRow_nil _ _ _ _)).mono ?_
        rintro e w5 ⟨v5, rfl, ho5, hb5⟩
        rw [List.nil_append] at ho5
        have HO5 := Lib.hid ho5
        have HB5 := Lib.hid (HBW.out.trans (hb5.mono HBW.out.size))
        have HRC := Lib.hid (RowC.of_own ho5).1
        have HT5 := Lib.hid (HT.out.keep HB5.out)
        have hsl : IsSlc v5 := by
          obtain ⟨a, b, hv, -⟩ := HRC.out
          exact ⟨_, _, _, hv⟩
        clear ho5 hb5
        obtain ⟨va, vn, vc, rfl⟩ := hsl
        go_wp2_with fail
        refine (exprValid_impl _ c w5 HRC.out HSZ.out HT5.out).mono ?_
        rintro e w6 ⟨rfl, hb6⟩
        have HB6 := Lib.hid (HB5.out.trans (hb6.mono HB5.out.size))
        have HO6 := Lib.hid (own_keepC HO5.out hb6)
        clear hb6
        cases hok : okE c with
        | true =>
          have HDD := Lib.hid (show RdOK s c from ⟨⟨n, by rw [hrl]; exact HD.out, hn40⟩, hok⟩)
          clear hok
          go_wp2
          go_ret2
          exact ⟨HB6.out, .inl ⟨_, c, rfl, HDD.out, HO6.out.mono (by have := HBW.out.size; omega)⟩⟩
        | false =>
          have HDD := Lib.hid (show ∀ d, ¬ RdOK s d from fun d ⟨⟨n', h1, h2⟩, h3⟩ => by
            obtain ⟨rfl, -⟩ := HD.out.uniq h1
            rw [hok] at h3; cases h3)
          clear hok
          go_wp2
          go_ret2
          exact ⟨HB6.out, .inr ⟨rfl, HDD.out⟩⟩
      · have hn40' : (40 : Int) < (n : Int) := by omega
        have HDD := Lib.hid (show ∀ d, ¬ RdOK s d from fun d ⟨⟨n', h1, h2⟩, h3⟩ => by
          obtain ⟨-, -, -, rfl⟩ := HD.out.uniq h1
          exact hn40 h2)
        go_wp2
        go_ret2
        exact ⟨HBW.out, .inr ⟨rfl, HDD.out⟩⟩
    · have hqi : (q : Int) < ((toksT s).length : Int) := by omega
      have HDD := Lib.hid (show ∀ d, ¬ RdOK s d from fun d ⟨⟨n', h1, h2⟩, h3⟩ => by
        obtain ⟨-, h, -⟩ := HD.out.uniq h1
        rw [hrl] at h
        exact hql h)
      go_wp2
      go_ret2
      exact ⟨HBW.out, .inr ⟨rfl, HDD.out⟩⟩
  · have HDD := Lib.hid (show ∀ d, ¬ RdOK s d from fun d ⟨⟨n', h1, h2⟩, h3⟩ => by have := hno _ _ _ _ h1; omega)
    clear hno hg4 hr4
    go_wp2
    go_ret2
    exact ⟨HBW.out, .inr ⟨rfl, HDD.out⟩⟩

end Go.Proofs.YtncehcklppakcaaGreatDoor
