/-
  impl.TokensOf, by its contract.
-/
import Derived.Test.YtffpaabpicdpeaaTokMach
import Derived.Test.YtffpaabpicdpeaaPlainLine
namespace Go.Proofs.Ytffpaabpicdpeaa
open Go.RowKit
set_option linter.unusedVariables false

/-- The tokens of a text, and whether there are any. -/
def okT (s : ByteArray) : Bool := decide (s.size ≤ 20000) && plainL s.data.toList && resB (0, 0, []) 0 s.data.toList
def toksT (s : ByteArray) : List (Int × Nat × Nat) := if okT s = true then resL (0, 0, []) 0 s.data.toList else []
/-- New tokens: a row of the call's own. -/
def NewToks (ok : Bool) (L : List (Int × Nat × Nat)) (w : World) (e : Ending) (w' : World) : Prop :=
  ∃ v, e = .returned (.tuple #[v, .bool ok]) ∧ w'.ownsRow w.heap.size 33 3 v L.length (flatT L) ∧ Below w.heap.size w w'

theorem runM_len (l : List UInt8) : ∀ m a, (runM m a l).2.2.length ≤ m.2.2.length + l.length := by
  induction l with
  | nil => intro m a; simp [runM]
  | cons b t ih =>
    intro m a
    rw [runM]
    have h1 := ih (stepM m a (b.toNat : Int)) (a + 1)
    have h2 : (stepM m a (b.toNat : Int)).2.2.length ≤ m.2.2.length + 1 := by
      unfold stepM
      split
      · simp
      · split
        · simp
        · split <;> simp
    rw [List.length_cons]; omega
theorem inText_bd (n : Int) : 0 ≤ inTextI n ∧ inTextI n ≤ 11 := by
  unfold inTextI; split
  · omega
  · split <;> omega
theorem nS_bd (st n : Int) : 0 ≤ nS st n ∧ nS st n ≤ 11 := by
  have := inText_bd n
  unfold nS; repeat' split
  all_goals omega
theorem first_bd (n : Int) : 0 ≤ firstI n ∧ firstI n ≤ 11 := by
  unfold firstI; repeat' split
  all_goals omega
theorem stepM_bd (m : Int × Nat × List (Int × Nat × Nat)) (a : Nat) (n : Int) : 0 ≤ (stepM m a n).1 ∧ (stepM m a n).1 ≤ 11 := by
  have h1 := nS_bd m.1 n; have h2 := first_bd n
  unfold stepM
  split
  · exact h1
  · split
    · exact h2
    · split
      · simp
      · exact h2
theorem runM_bd (l : List UInt8) : ∀ m a, 0 ≤ m.1 → m.1 ≤ 11 → 0 ≤ (runM m a l).1 ∧ (runM m a l).1 ≤ 11 := by
  induction l with
  | nil => intro m a h0 h1; exact ⟨h0, h1⟩
  | cons b t ih => intro m a h0 h1; rw [runM]; exact ih _ _ (stepM_bd _ _ _).1 (stepM_bd _ _ _).2
theorem runM_next (s : ByteArray) (k : Nat) (h : k < s.size) : runM (0, 0, []) 0 (s.data.toList.take (k + 1)) = stepM (runM (0, 0, []) 0 (s.data.toList.take k)) k (s[k].toNat : Int) := by
  have hl : s.data.toList.length = s.size := by rw [Array.length_toList]; rfl
  rw [take_snoc s k h, runM_snoc, List.length_take, Nat.min_eq_left (by omega)]

theorem results_tmp2' {fn : Func} {t u : Tmp} (h : fn.results = #[.tmp t, .tmp u]) (tmps : Array Value) (P : Program) (w : World) :
    (results fn tmps).run P w = .ok (.tuple #[tmps.getD t undef, tmps.getD u undef]) w := by simp [results, h]

set_option maxRecDepth 100000 in
set_option maxHeartbeats 4000000 in
theorem tokensOf_impl (s : ByteArray) (w : World) (hs : s.size ≤ maxLen) :
    Calls Try.prog 13 #[.string s] w (NewToks (okT s) (toksT s) w) := by
  have HMX := Lib.hid hs
  unfold maxLen at hs
  have hlen : s.data.toList.length = s.size := by rw [Array.length_toList]; rfl
  by_cases h20 : s.size ≤ 20000
  · cases hp : plainL s.data.toList with
    | true =>
      have HP := Lib.hid hp
      have HOK := Lib.hid (show okT s = resB (0, 0, []) 0 s.data.toList by rw [okT, hp, decide_eq_true h20]; rfl)
      have HLEN := Lib.hid hlen
      clear hp hlen
      go_enter Try.func13, Try.ntmps13
      go_wp2_with fail
      refine (plainLine_any s _ HMX.out).mono ?_
      rintro e w' ⟨rfl, rfl⟩
      rw [HP.out]
      go_wp2_with fail
      go_loopw [5, 16] (fun _ i wr => ∃ k : Nat, k ≤ s.size ∧ i = .int .i64 (k : Int) ∧ Mach w.heap.size wr w.heap.size (runM (0, 0, []) 0 (s.data.toList.take k)) ∧ Below w.heap.size w wr) (fun _ i _ => s.size - (intOf i).toNat)
      case atStart =>
        refine ⟨0, Nat.zero_le _, rfl, ⟨_, BlkM.new w _ _, World.ownsRow_nil _ _ _ _, Nat.le_refl _⟩, (Below.refl _ _).alloc (Nat.le_refl _) _⟩
      case round =>
        obtain ⟨k, hk, rfl, hm, hbel⟩ := hrel
        have HB := Lib.hid hbel; clear hbel
        have HM := Lib.hid hm; clear hm
        have hbd := runM_bd (s.data.toList.take k) (0, 0, []) 0 (by simp) (by simp)
        have hln := runM_len (s.data.toList.take k) (0, 0, []) 0
        rw [List.length_take, HLEN.out] at hln
        simp only [List.length_nil] at hln
        have hln' : (runM (0, 0, []) 0 (s.data.toList.take k)).2.2.length ≤ 100000 := by omega
        clear hln
        by_cases hlt : k < s.size
        · have hb0 : (s[k].toNat : Int) ≤ 255 := by have := s[k].toNat_lt; omega
          have HN := Lib.hid (runM_next s k hlt)
          go_wp2_with fail
          refine (step_any w.heap.size w.heap.size k (s[k].toNat : Int) _ _ HM.out hbd.1 hbd.2 (by omega) (by omega) hln').mono ?_
          rintro e w1 ⟨rfl, hm1, hb1⟩
          have HM1 := Lib.hid hm1; have HB1 := Lib.hid (HB.out.trans hb1)
          clear hm1 hb1
          go_wp2
          go_roundw
          case rel => exact ⟨k + 1, by omega, by go_num, by rw [HN.out]; exact HM1.out, HB1.out⟩
          case measure => simp [intOf]; omega
        · obtain rfl : k = s.size := by omega
          have HT := Lib.hid (show s.data.toList.take s.size = s.data.toList from List.take_of_length_le (by rw [HLEN.out]; exact Nat.le_refl _))
          rw [HT.out] at HM hbd hln'
          go_wp2_with fail
          refine (step_any w.heap.size w.heap.size s.size 32 _ _ HM.out hbd.1 hbd.2 (by omega) (by omega) hln').mono ?_
          rintro e w1 ⟨rfl, hm1, hb1⟩
          have HB1 := Lib.hid (HB.out.trans hb1)
          have HE := Lib.hid (show stepM (runM (0, 0, []) 0 s.data.toList) s.size 32 = endM (0, 0, []) 0 s.data.toList by unfold endM; rw [HLEN.out, Nat.zero_add])
          rw [HE.out] at hm1
          clear hb1
          generalize hm : endM (0, 0, []) 0 s.data.toList = m at hm1
          have HMM := Lib.hid hm; clear hm
          obtain ⟨st, f, acc⟩ := m
          obtain ⟨d0, g0, d1, g1⟩ := hm1.cells
          obtain ⟨v, hbk, hown, -⟩ := hm1
          have d2 : w1.cell? ⟨w.heap.size, 2, none⟩ = some v := hbk.cell 2
          have HO := Lib.hid hown
          obtain ⟨av, cv, hv⟩ : ∃ a c, v = .slice a acc.length c := by
            rcases hown.2 with ⟨rfl, h0⟩ | ⟨g', cap, cur, rfl, _⟩
            · exact ⟨none, 0, by rw [h0]⟩
            · exact ⟨_, _, rfl⟩
          subst hv
          clear hbk hown
          by_cases hz : st = 0
          · subst hz
            have HR := Lib.hid (show okT s = true by rw [HOK.out, resB, HMM.out]; rfl)
            have HL := Lib.hid (show toksT s = acc by rw [toksT, HR.out, if_pos rfl, resL, resB, HMM.out]; simp)
            go_wp2
            refine bodyPost_ret (results_tmp2' rfl _ _ _) rfl ?_
            exact ⟨_, by rw [HR.out]; rfl, by rw [HL.out]; exact HO.out, HB1.out⟩
          · have hz' : (st != 0) = true := bne_iff_ne.mpr hz
            have HR := Lib.hid (show okT s = false by rw [HOK.out, resB, HMM.out]; simp [hz])
            have HL := Lib.hid (show toksT s = [] by rw [toksT, HR.out]; rfl)
            clear hz
            go_wp2
            refine bodyPost_ret (results_tmp2' rfl _ _ _) rfl ?_
            exact ⟨_, by rw [HR.out]; rfl, by rw [HL.out]; exact World.ownsRow_nil _ _ _ _, HB1.out⟩
    | false =>
      have HP := Lib.hid hp
      have HR := Lib.hid (show okT s = false by rw [okT, hp]; simp)
      have HL := Lib.hid (show toksT s = [] by rw [toksT, HR.out]; rfl)
      clear hp hlen
      go_enter Try.func13, Try.ntmps13
      go_wp2_with fail
      refine (plainLine_any s _ HMX.out).mono ?_
      rintro e w' ⟨rfl, rfl⟩
      rw [HP.out]
      go_wp2
      refine bodyPost_ret (results_tmp2' rfl _ _ _) rfl ?_
      exact ⟨_, by rw [HR.out]; rfl, by rw [HL.out]; exact World.ownsRow_nil _ _ _ _, Below.refl _ _⟩
  · have HR := Lib.hid (show okT s = false by rw [okT, decide_eq_false h20]; rfl)
    have HL := Lib.hid (show toksT s = [] by rw [toksT, HR.out]; rfl)
    clear hlen
    go_enter Try.func13, Try.ntmps13
    go_wp2
    refine bodyPost_ret (results_tmp2' rfl _ _ _) rfl ?_
    exact ⟨_, by rw [HR.out]; rfl, by rw [HL.out]; exact World.ownsRow_nil _ _ _ _, Below.refl _ _⟩

end Go.Proofs.Ytffpaabpicdpeaa
