/-
  Parts of expressions, alone; an expression without its last cell; with a sign before it.
-/
import Derived.Test.YtiolpmpbjdclnaaGreatDoorExprID
import Derived.Test.YtiolpmpbjdclnaaGreatDoorRowSub
namespace Go.Proofs.YtiolpmpbjdclnaaGreatDoor
open Go.RowKit
set_option linter.unusedVariables false

theorem sub_at (l : List Cl) (k t i : Nat) (h1 : k ≤ i) (h2 : i < t) : (amL ((l.take t).drop k))[i - k]? = (amL l)[i]? := by
  simp only [amL, List.map_drop, List.map_take, List.getElem?_drop]
  rw [show k + (i - k) = i by omega, List.getElem?_take, if_pos h2]
theorem take_at (l : List Cl) (t i : Nat) (h2 : i < t) : (amL (l.take t))[i]? = (amL l)[i]? := by
  simp only [amL, List.map_take]
  rw [List.getElem?_take, if_pos h2]
theorem okE_sub {l : List Cl} (hok : okE l = true) {k t e : Nat} (hx : Exs (amL l) 1 k t e) (he : e ≤ 12) : okE ((l.take t).drop k) = true ∧ depI ((l.take t).drop k) = (e : Int) := by
  obtain ⟨h60, hal, -⟩ := (okE_iff l).mp hok
  have hle := hx.le
  have htl := hle.2 (by omega)
  rw [amL_length] at htl
  have hlen : ((l.take t).drop k).length = t - k := by rw [List.length_drop, List.length_take]; omega
  have hs : Exs (amL ((l.take t).drop k)) 1 (k - k) (t - k) e := hx.shift k (Nat.le_refl _) (fun i h1 h2 => sub_at l k t i h1 h2)
  rw [Nat.sub_self] at hs
  have hok' : okE ((l.take t).drop k) = true := by
    rw [okE_iff]
    refine ⟨by rw [hlen]; omega, ?_, e, he, by rw [hlen]; exact hs⟩
    rw [List.all_eq_true] at hal ⊢
    exact fun c hc => hal c (List.mem_of_mem_take (List.mem_of_mem_drop hc))
  exact ⟨hok', by rw [depI, if_pos hok', hs.depE]⟩
theorem okE_init {l : List Cl} (hok : okE l = true) : okE (l.take (l.length - 1)) = false := by
  obtain ⟨h60, hal, d, hd, hx⟩ := (okE_iff l).mp hok
  have hle := hx.le
  rw [Bool.eq_false_iff]
  intro h
  obtain ⟨-, -, d', hd', hx'⟩ := (okE_iff _).mp h
  have hlen : (l.take (l.length - 1)).length = l.length - 1 := by rw [List.length_take]; omega
  rw [hlen] at hx'
  have hle' := hx'.le
  have hs : Exs (amL l) 1 (0 - 0) (l.length - 1 - 0) d' := hx'.shift 0 (Nat.le_refl _) (fun i h1 h2 => (take_at l (l.length - 1) i h2).symm)
  have := (hs.uniq hx).1
  omega
theorem okE_not {l : List Cl} (hok : okE l = true) : okE ((7, ⟨#[33]⟩, 1) :: l) = (decide ((l.length : Int) < 60) && decide (depI l < 12)) := by
  obtain ⟨h60, hal, d, hd, hx⟩ := (okE_iff l).mp hok
  have hD : depI l = (d : Int) := by rw [depI, if_pos hok, hx.depE]
  have hc : okC (7, ⟨#[33]⟩, 1) = true := by decide
  have hu : Exs (amL ((7, ⟨#[33]⟩, 1) :: l)) 1 (0 + 1) (l.length + 1) d := hx.up 1 (fun i h1 h2 => by simp [amL])
  have hx' : Exs (amL ((7, ⟨#[33]⟩, 1) :: l)) 1 0 (l.length + 1) (d + 1) := Exs.one (m := 1) rfl hu
  rw [hD, Bool.eq_iff_iff, okE_iff, Bool.and_eq_true, decide_eq_true_eq, decide_eq_true_eq]
  constructor
  · rintro ⟨h1, -, d', hd', hx2⟩
    rw [List.length_cons] at h1 hx2
    obtain ⟨-, rfl⟩ := hx'.uniq hx2
    omega
  · rintro ⟨h1, h2⟩
    refine ⟨by rw [List.length_cons]; omega, ?_, d + 1, by omega, by rw [List.length_cons]; exact hx'⟩
    rw [List.all_cons, hc, hal]; rfl
theorem depI_bd {l : List Cl} (hok : okE l = true) : 0 ≤ depI l ∧ depI l ≤ 12 := by
  obtain ⟨h60, hal, d, hd, hx⟩ := (okE_iff l).mp hok
  rw [depI, if_pos hok, hx.depE]; omega
theorem depI_no {l : List Cl} (h : okE l = false) : depI l = -1 := by rw [depI, h]; rfl

end Go.Proofs.YtiolpmpbjdclnaaGreatDoor
