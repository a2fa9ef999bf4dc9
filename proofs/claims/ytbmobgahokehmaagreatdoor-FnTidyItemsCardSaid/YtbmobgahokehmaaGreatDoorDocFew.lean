/-
  Drawn items are short enough; what FnDepthsOf asks of the depths of a document.
-/
import Derived.Test.YtbmobgahokehmaaGreatDoorDrawItems
import Derived.Test.YtbmobgahokehmaaGreatDoorDepI
import Derived.Test.YtbmobgahokehmaaGreatDoorDepS
namespace Go.Proofs.YtbmobgahokehmaaGreatDoor
open Go.RowKit
set_option linter.unusedVariables false

theorem few_shortI {l : List It} (h : ∀ i ∈ l, FewI i) : ShortI l := fun i hi => by
  obtain ⟨h1, h2, h3, h4⟩ := h i hi
  exact ⟨by omega, fun c hc => by have := h2 c hc; omega, by omega, by omega⟩
theorem few_fitI {l : List It} (h : ∀ i ∈ l, FewI i) : FitI l := fun i hi => by
  obtain ⟨h1, h2, h3, h4⟩ := h i hi
  exact ⟨by unfold maxLen; omega, fun c hc => by have := h2 c hc; unfold maxLen; omega, by unfold maxLen; omega⟩
theorem RowIt.kinds {w : World} {g c : Nat} {l : List It} (h : RowIt w (.slice (some ⟨g, 0, none⟩) l.length c) l) : ∀ (k : Nat) (hk : k < l.length), w.cell? ⟨g, k * 4, none⟩ = some (.int .i64 l[k].1) := by
  intro k hk
  obtain ⟨ao, cap, hv, q1, q2, q3⟩ := h
  injection hv with e1 e2 e3
  rcases q3 with q3 | ⟨b, o, ha, hb, hj⟩
  · subst q3; simp at hk
  · rw [ha] at e1
    injection e1 with e1
    injection e1 with e4 e5
    subst e4; subst e5
    obtain ⟨u, hu⟩ := hj k hk
    have := hu.1
    rwa [Nat.zero_add] at this
theorem RowI.at {w : World} {a : Option Addr} {c : Nat} {L : List Nat} (h : RowI w (.slice a L.length c) L) (h0 : 0 < L.length) : ∃ b, a = some ⟨b, 0, none⟩ ∧ ∀ (k : Nat) (hk : k < L.length), w.cell? ⟨b, k, none⟩ = some (.int .i64 (L[k] : Int)) := by
  obtain ⟨ao, cap, hv, q1, q2, q3⟩ := h
  injection hv with e1 e2 e3
  rcases q3 with q3 | ⟨b, ha, hb, hj⟩
  · subst q3; simp at h0
  · exact ⟨b, e1.trans ha, hj⟩
theorem dps_at {l : List It} (h : nestO 0 l = some 0) (k : Nat) (hk : k < l.length) (hk' : k < (dps 0 l).length) : (((dps 0 l)[k] : Nat) : Int) = (depL 0 l)[k]'(by rw [depL_length]; exact hk) := by
  have q : (dps 0 l)[k]? = ((depL 0 l)[k]?).map Int.toNat := List.getElem?_map
  rw [List.getElem?_eq_getElem hk', List.getElem?_eq_getElem (by rw [depL_length]; exact hk)] at q
  have e : (dps 0 l)[k] = ((depL 0 l)[k]'(by rw [depL_length]; exact hk)).toNat := Option.some.inj q
  rw [e, Int.toNat_of_nonneg]
  rw [depL_at l 0 k hk]; exact (dep_in h (by omega) (by omega) k hk).1
/-- What FnDepthsOf asks of the depths. -/
theorem dep_facts {l : List It} {P : List Nat} (h : docB l = true) (hP : dpD l = P) : P.length = l.length ∧ ∀ (k : Nat) (hk : k < l.length) (hk' : k < P.length), (P[k] : Int) ≤ 4 ∧ (k = 0 → (P[k] : Int) = 0) ∧
    ∀ (j : Nat) (hj : j + 1 = k), (P[k] : Int) = (P[j]'(by omega) : Int) + (if (l[j]'(by omega)).1 = 4 then 1 else 0) - (if l[k].1 = 5 then 1 else 0) := by
  have hn := ((docB_iff l).mp h).2.2
  have e : P = dps 0 l := by rw [← hP]; unfold dpD; rw [if_pos h]
  subst e
  refine ⟨dps_length 0 l, fun k hk hk' => ⟨?_, ?_, ?_⟩⟩
  · rw [dps_at hn k hk hk', depL_at l 0 k hk]
    exact (dep_in hn (by omega) (by omega) k hk).2
  · intro hk0
    subst hk0
    rw [dps_at hn 0 hk hk', depL_first hn hk]
  · intro j hj
    subst hj
    rw [dps_at hn (j + 1) hk hk', dps_at hn j (by omega) (by omega)]
    exact depL_next j hk

end Go.Proofs.YtbmobgahokehmaaGreatDoor
