/-
  impl's readSlash, readUnsigned, ReadFraction, by their contracts.
-/
import Derived.Test.YtpgbfagacpondaaDoorDecImpl
import Derived.Test.YtpgbfagacpondaaDoorTextI
namespace Go.Proofs.YtpgbfagacpondaaDoor
open Go.RowKit
set_option linter.unusedVariables false

/-- What readSlash reads. -/
def slOK (p q : List UInt8) : Bool := dOK p 10 && dOK q 10
def slT (p q : List UInt8) : Int := if slOK p q = true then ((valD p : Nat) : Int) else 0
def slB (p q : List UInt8) : Int := if slOK p q = true then ((valD q : Nat) : Int) else 0

/-- A block of two numbers, the answer. -/
def ZeroF (w' : World) (N : Nat) : Prop := w'.cell? ⟨N, 0, none⟩ = some (.int .i64 0) ∧ w'.cell? ⟨N, 1, none⟩ = some (.int .i64 0) ∧ w'.frozen? ⟨N, 0, none⟩ = false ∧ w'.frozen? ⟨N, 1, none⟩ = false ∧ N < w'.heap.size
theorem ZeroF.new (w : World) (t : TypeId) : ZeroF (w.alloc (.cells #[.int .i64 0, .int .i64 0] t)) w.heap.size := by refine ⟨?_, ?_, ?_, ?_, ?_⟩ <;> simp [go_sem]
theorem ZeroF.keep {W w1 : World} {N : Nat} (h : ZeroF W N) (hb : Below W.heap.size W w1) : ZeroF w1 N := by
  obtain ⟨h0, h1, h2, h3, h4⟩ := h
  obtain ⟨hc, hf⟩ := bcell hb
  have hs := hb.size
  exact ⟨(hc _ _ h4).trans h0, (hc _ _ h4).trans h1, (hf _ _ h4).trans h2, (hf _ _ h4).trans h3, by omega⟩
theorem ZeroF.al {W : World} {N : Nat} (h : ZeroF W N) (o : Obj) : ZeroF (W.alloc o) N := h.keep ((Below.refl _ W).alloc (Nat.le_refl _) _)

set_option maxRecDepth 100000 in
set_option maxHeartbeats 4000000 in
theorem readSlash_any (p q : ByteArray) (w : World) (hp : p.size ≤ maxLen) (hq : q.size ≤ maxLen) :
    Calls Tryd.prog 41 #[.string p, .string q] w fun e w' => e = fr (slT p.data.toList q.data.toList) (slB p.data.toList q.data.toList) (slOK p.data.toList q.data.toList) ∧ Below w.heap.size w w' := by
  have HP := Lib.hid hp; have HQ := Lib.hid hq; clear hp hq
  cases h1 : dOK p.data.toList 10 with
  | true =>
    cases h2 : dOK q.data.toList 10 with
    | true =>
      have HO := Lib.hid (show slOK p.data.toList q.data.toList = true by simp [slOK, h1, h2])
      have HT := Lib.hid (show slT p.data.toList q.data.toList = ((dN p.data.toList 10 : Nat) : Int) by rw [slT, if_pos HO.out, dN, if_pos h1])
      have HB := Lib.hid (show slB p.data.toList q.data.toList = ((dN q.data.toList 10 : Nat) : Int) by rw [slB, if_pos HO.out, dN, if_pos h2])
      rw [HO.out, HT.out, HB.out]
      have H1 := Lib.hid h1; have H2 := Lib.hid h2; clear h1 h2
      go_enter Tryd.func41, Tryd.ntmps41
      go_wp2_with fail
      refine (digitsNumber_any p 10 _ HP.out (by omega)).mono ?_
      rintro e w' ⟨rfl, rfl⟩
      rw [H1.out]
      go_wp2_with fail
      refine (digitsNumber_any q 10 _ HQ.out (by omega)).mono ?_
      rintro e w' ⟨rfl, rfl⟩
      rw [H2.out]
      generalize hn1 : dN p.data.toList 10 = n1
      generalize hn2 : dN q.data.toList 10 = n2
      have HN1 := Lib.hid hn1; have HN2 := Lib.hid hn2; clear hn1 hn2
      go_wp2
      exact bodyPost_ret (v := .tuple #[.agg #[.int .i64 (n1 : Int), .int .i64 (n2 : Int)], .bool true]) (by simp [results, Tryd.results41, go_sem]) rfl ⟨by rw [HN1.out, HN2.out], (Below.refl _ w).alloc (Nat.le_refl _) _⟩
    | false =>
      have HO := Lib.hid (show slOK p.data.toList q.data.toList = false by simp [slOK, h2])
      rw [HO.out, show slT p.data.toList q.data.toList = 0 by simp [slT, HO.out], show slB p.data.toList q.data.toList = 0 by simp [slB, HO.out]]
      have H1 := Lib.hid h1; have H2 := Lib.hid h2; clear h1 h2
      go_enter Tryd.func41, Tryd.ntmps41
      go_wp2_with fail
      refine (digitsNumber_any p 10 _ HP.out (by omega)).mono ?_
      rintro e w' ⟨rfl, rfl⟩
      rw [H1.out]
      go_wp2_with fail
      refine (digitsNumber_any q 10 _ HQ.out (by omega)).mono ?_
      rintro e w' ⟨rfl, rfl⟩
      rw [H2.out]
      generalize dN p.data.toList 10 = n1
      generalize dN q.data.toList 10 = n2
      go_wp2
      exact bodyPost_ret (v := .tuple #[.agg #[.int .i64 0, .int .i64 0], .bool false]) (by simp [results, Tryd.results41, go_sem]) rfl ⟨rfl, (Below.refl _ w).alloc (Nat.le_refl _) _⟩
  | false =>
    have HO := Lib.hid (show slOK p.data.toList q.data.toList = false by simp [slOK, h1])
    rw [HO.out, show slT p.data.toList q.data.toList = 0 by simp [slT, HO.out], show slB p.data.toList q.data.toList = 0 by simp [slB, HO.out]]
    have H1 := Lib.hid h1; clear h1
    go_enter Tryd.func41, Tryd.ntmps41
    go_wp2_with fail
    refine (digitsNumber_any p 10 _ HP.out (by omega)).mono ?_
    rintro e w' ⟨rfl, rfl⟩
    rw [H1.out]
    go_wp2_with fail
    refine (digitsNumber_any q 10 _ HQ.out (by omega)).mono ?_
    rintro e w' ⟨rfl, rfl⟩
    generalize dN p.data.toList 10 = n1
    generalize dN q.data.toList 10 = n2
    generalize dOK q.data.toList 10 = o2
    go_wp2
    exact bodyPost_ret (v := .tuple #[.agg #[.int .i64 0, .int .i64 0], .bool false]) (by simp [results, Tryd.results41, go_sem]) rfl ⟨rfl, (Below.refl _ w).alloc (Nat.le_refl _) _⟩

/-- What readUnsigned reads. -/
def unT (s : ByteArray) : Int := if cutB s 47 = true then slT (cutP s 47).data.toList (cutQ s 47).data.toList else opT (decV s.data.toList) (decX s.data.toList) (decY s.data.toList)
def unB (s : ByteArray) : Int := if cutB s 47 = true then slB (cutP s 47).data.toList (cutQ s 47).data.toList else opB (decV s.data.toList) (decX s.data.toList) (decY s.data.toList)
def unOK (s : ByteArray) : Bool := if cutB s 47 = true then slOK (cutP s 47).data.toList (cutQ s 47).data.toList else opOK (decV s.data.toList) (decX s.data.toList) (decY s.data.toList)
theorem cut47_le (s : ByteArray) : (cutP s 47).size ≤ s.size ∧ (cutQ s 47).size ≤ s.size := by
  unfold cutP cutQ
  constructor
  · split
    · exact Nat.le_refl _
    · rw [ByteArray.size_extract]; omega
  · split
    · show (0 : Nat) ≤ _; omega
    · rw [ByteArray.size_extract]; omega

set_option maxRecDepth 100000 in
set_option maxHeartbeats 4000000 in
theorem readUnsigned_any (s : ByteArray) (w : World) (hs : s.size ≤ 2097152) :
    Calls Tryd.prog 26 #[.string s] w fun e w' => e = fr (unT s) (unB s) (unOK s) ∧ Below w.heap.size w w' := by
  obtain ⟨z1, z2⟩ := cut47_le s
  unfold unT unB unOK
  cases hc : cutB s 47 with
  | true =>
    have HC := Lib.hid hc; clear hc
    simp only [if_true]
    have cr := fun w' => readSlash_any (cutP s 47) (cutQ s 47) w' (by unfold maxLen; omega) (by unfold maxLen; omega)
    generalize slT (cutP s 47).data.toList (cutQ s 47).data.toList = T at *
    generalize slB (cutP s 47).data.toList (cutQ s 47).data.toList = B at *
    generalize slOK (cutP s 47).data.toList (cutQ s 47).data.toList = ok at *
    have CR := Lib.hid cr; clear cr
    go_enter Tryd.func26, Tryd.ntmps26
    go_wp2_with fail
    refine (cut_one s 47 _ (by unfold maxLen; omega)).mono ?_
    rintro e w1 ⟨rfl, hb1⟩
    rw [HC.out]
    have Z1 := Lib.hid ((ZeroF.new w 25).keep hb1)
    have HB1 := Lib.hid (((Below.refl _ w).alloc (Nat.le_refl _) _).trans (hb1.mono (by simp))); clear hb1
    go_wp2_with fail
    refine (CR.out _).mono ?_
    rintro e w2 ⟨rfl, hb2⟩
    have Z2 := Lib.hid (Z1.out.keep hb2)
    have HB2 := Lib.hid (HB1.out.trans (hb2.mono HB1.out.size)); clear hb2 Z1
    obtain ⟨u0, u1, u2, u3, u4⟩ := Z2.out
    go_wp2
    exact bodyPost_ret (v := .tuple #[.agg #[.int .i64 T, .int .i64 B], .bool ok]) (by simp [results, Tryd.results26, go_sem, u0, u1]) rfl ⟨rfl, (HB2.out.setCell (Nat.le_refl _) _).setCell (Nat.le_refl _) _⟩
  | false =>
    have HC := Lib.hid hc; clear hc
    simp only [Bool.false_eq_true, if_false]
    have cr := fun w' => decimal_impl s w' hs
    generalize opT (decV s.data.toList) (decX s.data.toList) (decY s.data.toList) = T at *
    generalize opB (decV s.data.toList) (decX s.data.toList) (decY s.data.toList) = B at *
    generalize opOK (decV s.data.toList) (decX s.data.toList) (decY s.data.toList) = ok at *
    have CR := Lib.hid cr; clear cr
    go_enter Tryd.func26, Tryd.ntmps26
    go_wp2_with fail
    refine (cut_one s 47 _ (by unfold maxLen; omega)).mono ?_
    rintro e w1 ⟨rfl, hb1⟩
    rw [HC.out]
    have Z1 := Lib.hid ((ZeroF.new w 25).keep hb1)
    have HB1 := Lib.hid (((Below.refl _ w).alloc (Nat.le_refl _) _).trans (hb1.mono (by simp))); clear hb1
    go_wp2_with fail
    refine (CR.out _).mono ?_
    rintro e w2 ⟨rfl, hb2⟩
    have Z2 := Lib.hid (Z1.out.keep hb2)
    have HB2 := Lib.hid (HB1.out.trans (hb2.mono HB1.out.size)); clear hb2 Z1
    obtain ⟨u0, u1, u2, u3, u4⟩ := Z2.out
    go_wp2
    exact bodyPost_ret (v := .tuple #[.agg #[.int .i64 T, .int .i64 B], .bool ok]) (by simp [results, Tryd.results26, go_sem, u0, u1]) rfl ⟨rfl, (HB2.out.setCell (Nat.le_refl _) _).setCell (Nat.le_refl _) _⟩

/-- What ReadFraction reads: the sign, the rest, and whether the text is the fraction's. -/
def bodyS (s : ByteArray) : ByteArray := ⟨(Lib.trimPrefix s.data.toList [45]).toArray⟩
def negS (s : ByteArray) : Bool := Lib.hasPrefix s.data.toList [45]
def rdTop (s : ByteArray) : Int := if negS s = true then -unT (bodyS s) else unT (bodyS s)
def rdOK (s : ByteArray) : Bool := unOK (bodyS s) && (textF (rdTop s) (unB (bodyS s)) == s.data.toList)
def rdT (s : ByteArray) : Int := if rdOK s = true then rdTop s else 0
def rdB (s : ByteArray) : Int := if rdOK s = true then unB (bodyS s) else 0
theorem bodyS_le (s : ByteArray) : (bodyS s).size ≤ s.size := by
  show (Lib.trimPrefix s.data.toList [45]).toArray.size ≤ _
  have hl : s.data.toList.length = s.size := by rw [Array.length_toList]; rfl
  unfold Lib.trimPrefix
  split
  · simp only [List.size_toArray, List.length_drop]; omega
  · simp only [List.size_toArray]; omega
theorem eqL (l : List UInt8) (s : ByteArray) : ((⟨l.toArray⟩ : ByteArray).toList == s.toList) = (l == s.data.toList) := by
  rw [ByteArray.toList_eq, ByteArray.toList_eq]
theorem unT_bd (s : ByteArray) : -10000000000 ≤ unT s ∧ unT s ≤ 10000000000 := by
  unfold unT
  split
  · unfold slT
    split
    · rename_i h
      simp only [slOK, Bool.and_eq_true, dOK_iff] at h
      have := valD_bd _ h.1.2.2 h.1.2.1
      omega
    · omega
  · unfold opT
    split
    · unfold mkT
      split
      · rename_i h
        have := vB_bd h
        omega
      · omega
    · omega

set_option maxRecDepth 100000 in
set_option maxHeartbeats 8000000 in
theorem readFraction_impl (s : ByteArray) (w : World) (hs : s.size ≤ 2097152) (htab : Tab w) :
    Calls Tryd.prog 13 #[.string s] w fun e w' => e = fr (rdT s) (rdB s) (rdOK s) ∧ Below w.heap.size w w' := by
  have zb := bodyS_le s
  obtain ⟨y1, y2⟩ := unT_bd (bodyS s)
  have HTP := Lib.hid (show rdTop s = if negS s = true then -unT (bodyS s) else unT (bodyS s) from rfl)
  have HOK := Lib.hid (show rdOK s = (unOK (bodyS s) && (textF (rdTop s) (unB (bodyS s)) == s.data.toList)) from rfl)
  have HRT := Lib.hid (show rdT s = if rdOK s = true then rdTop s else 0 from rfl)
  have HRB := Lib.hid (show rdB s = if rdOK s = true then unB (bodyS s) else 0 from rfl)
  have CU := Lib.hid (fun w' => readUnsigned_any (bodyS s) w' (by omega))
  have HEQ := Lib.hid (eqL (textF (rdTop s) (unB (bodyS s))) s)
  have CT := Lib.hid (fun w' (h : Tab w') => fractionText_impl (rdTop s) (unB (bodyS s)) w' h)
  have HBS := Lib.hid (show (⟨(Lib.trimPrefix s.data.toList ({ data := #[45] } : ByteArray).data.toList).toArray⟩ : ByteArray) = bodyS s from rfl)
  have HNS := Lib.hid (show Lib.hasPrefix s.data.toList ({ data := #[45] } : ByteArray).data.toList = negS s from rfl)
  clear zb
  generalize unT (bodyS s) = T at *
  generalize unB (bodyS s) = B at *
  generalize unOK (bodyS s) = ok at *
  generalize rdTop s = TT at *
  generalize rdOK s = good at *
  generalize rdT s = RT at *
  generalize rdB s = RB at *
  have goal1 : ∀ (neg : Bool), negS s = neg → Calls Tryd.prog 13 #[.string s] w fun e w' => e = fr RT RB good ∧ Below w.heap.size w w' := by
    intro neg hneg
    have HNG := Lib.hid hneg
    have hTT : TT = if neg = true then -T else T := by rw [HTP.out, hneg]
    clear hneg
    cases ok with
    | false =>
      have hg : good = false := by rw [HOK.out]; rfl
      have hr : RT = 0 := by rw [HRT.out, hg]; rfl
      have hrb : RB = 0 := by rw [HRB.out, hg]; rfl
      rw [hg, hr, hrb]
      clear hg hr hrb hTT
      cases neg
      all_goals
        go_enter Tryd.func13, Tryd.ntmps13
        go_wp2_with fail
        refine (Tryd.strings_CutPrefix s ⟨#[45]⟩ _).mono ?_
        rintro e w1 ⟨rfl, hw1⟩
        subst hw1
        rw [HBS.out, HNS.out, HNG.out]
        go_wp2_with fail
        refine (CU.out _).mono ?_
        rintro e w2 ⟨rfl, hb2⟩
        have Z2 := Lib.hid ((ZeroF.new w 25).keep hb2)
        have hN : w.heap.size < w2.heap.size := Z2.out.2.2.2.2
        have hN1 : w.heap.size ≠ w2.heap.size := by omega
        have HB2 := Lib.hid (((Below.refl _ w).alloc (Nat.le_refl _) _).trans (hb2.mono (by simp))); clear hb2
        obtain ⟨u0, u1, u2, u3, u4⟩ := Z2.out
        go_wp2
        have rd : ∀ (x y : Value) (o : Obj) (k : Nat), (((w2.setCell ⟨w.heap.size, 0, none⟩ x).setCell ⟨w.heap.size, 1, none⟩ y).alloc o).cell? ⟨w.heap.size, k, none⟩ = ((w2.setCell ⟨w.heap.size, 0, none⟩ x).setCell ⟨w.heap.size, 1, none⟩ y).cell? ⟨w.heap.size, k, none⟩ := fun x y o k => World.cell?_alloc_lt _ _ _ (by simpa [World.setCell] using hN)
        refine bodyPost_ret (v := .tuple #[.agg #[.int .i64 0, .int .i64 0], .bool false]) (by simp [results, Tryd.results13, go_sem, rd, u0, u1]) rfl ⟨rfl, ?_⟩
        exact ((HB2.out.setCell (Nat.le_refl _) _).setCell (Nat.le_refl _) _).alloc (by have := HB2.out.size; simpa [World.setCell] using this) _
    | true =>
      cases hE : (textF TT B == s.data.toList) with
      | false =>
        have hg : good = false := by rw [HOK.out, hE]; rfl
        have hr : RT = 0 := by rw [HRT.out, hg]; rfl
        have hrb : RB = 0 := by rw [HRB.out, hg]; rfl
        rw [hg, hr, hrb]
        rw [hE] at HEQ
        clear hg hr hrb hE
        generalize (⟨(textF TT B).toArray⟩ : ByteArray) = Z at *
        have hEE : (Z.toList == s.toList) = false := HEQ.out
        cases neg
        all_goals
          simp only [Bool.false_eq_true, if_false, if_true] at hTT
          subst hTT
          go_enter Tryd.func13, Tryd.ntmps13
          go_wp2_with fail
          refine (Tryd.strings_CutPrefix s ⟨#[45]⟩ _).mono ?_
          rintro e w1 ⟨rfl, hw1⟩
          subst hw1
          rw [HBS.out, HNS.out, HNG.out]
          go_wp2_with fail
          refine (CU.out _).mono ?_
          rintro e w2 ⟨rfl, hb2⟩
          have Z2 := Lib.hid ((ZeroF.new w 25).keep hb2)
          have T2 := Lib.hid ((htab.al _).keep hb2)
          have HB2 := Lib.hid (((Below.refl _ w).alloc (Nat.le_refl _) _).trans (hb2.mono (by simp))); clear hb2
          go_wp2_with fail
          refine (CT.out _ (T2.out.al _)).mono ?_
          rintro e w3 ⟨rfl, hb3⟩
          have Z3 := Lib.hid ((Z2.out.al _).keep hb3)
          have HB3 := Lib.hid ((HB2.out.alloc HB2.out.size _).trans (hb3.mono (by have := HB2.out.size; simp; omega))); clear hb3
          obtain ⟨u0, u1, u2, u3, u4⟩ := Z3.out
          go_wp2
          exact bodyPost_ret (v := .tuple #[.agg #[.int .i64 0, .int .i64 0], .bool false]) (by simp [results, Tryd.results13, go_sem, u0, u1]) rfl ⟨rfl, (HB3.out.setCell (Nat.le_refl _) _).setCell (Nat.le_refl _) _⟩
      | true =>
        have hg : good = true := by rw [HOK.out, hE]; rfl
        have hr : RT = TT := by rw [HRT.out, hg]; rfl
        have hrb : RB = B := by rw [HRB.out, hg]; rfl
        rw [hg, hr, hrb]
        rw [hE] at HEQ
        clear hg hr hrb hE
        generalize (⟨(textF TT B).toArray⟩ : ByteArray) = Z at *
        have hEE : (Z.toList == s.toList) = true := HEQ.out
        cases neg
        all_goals
          simp only [Bool.false_eq_true, if_false, if_true] at hTT
          subst hTT
          go_enter Tryd.func13, Tryd.ntmps13
          go_wp2_with fail
          refine (Tryd.strings_CutPrefix s ⟨#[45]⟩ _).mono ?_
          rintro e w1 ⟨rfl, hw1⟩
          subst hw1
          rw [HBS.out, HNS.out, HNG.out]
          go_wp2_with fail
          refine (CU.out _).mono ?_
          rintro e w2 ⟨rfl, hb2⟩
          have Z2 := Lib.hid ((ZeroF.new w 25).keep hb2)
          have T2 := Lib.hid ((htab.al _).keep hb2)
          have HB2 := Lib.hid (((Below.refl _ w).alloc (Nat.le_refl _) _).trans (hb2.mono (by simp))); clear hb2
          go_wp2_with fail
          refine (CT.out _ (T2.out.al _)).mono ?_
          rintro e w3 ⟨rfl, hb3⟩
          have Z3 := Lib.hid ((Z2.out.al _).keep hb3)
          have F3 := Lib.hid (FrAt.keep (FrAt.new _ _ _ _) hb3)
          have HB3 := Lib.hid ((HB2.out.alloc HB2.out.size _).trans (hb3.mono (by have := HB2.out.size; simp; omega))); clear hb3
          obtain ⟨u0, u1, u2, u3, u4⟩ := Z3.out
          obtain ⟨d0, d1⟩ := F3.out
          go_wp2
          exact bodyPost_ret (v := .tuple #[.agg #[.int .i64 _, .int .i64 B], .bool true]) (by simp [results, Tryd.results13, go_sem, u0, u1]) rfl ⟨rfl, (HB3.out.setCell (Nat.le_refl _) _).setCell (Nat.le_refl _) _⟩
  exact goal1 (negS s) rfl

end Go.Proofs.YtpgbfagacpondaaDoor
