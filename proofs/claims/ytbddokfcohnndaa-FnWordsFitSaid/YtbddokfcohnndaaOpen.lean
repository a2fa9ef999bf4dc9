/-
  A code that came in: spec.l20Open.
-/
import Derived.Test.YtbddokfcohnndaaRead
import Derived.Test.YtbddokfcohnndaaPlain
namespace Go.Proofs.Ytbddokfcohnndaa
open Go.RowKit
set_option linter.unusedVariables false

/-- A slice of bytes that came in. -/
def CodeRow (w : World) (a : Option Addr) (len cap : Nat) : Prop :=
  len ≤ cap ∧ cap ≤ maxLen ∧ (len = 0 ∨ ∃ b off, a = some ⟨b, off, none⟩ ∧ b < w.heap.size ∧ ∀ j, j < len → ∃ z : Int, 0 ≤ z ∧ z ≤ 255 ∧ w.cell? ⟨b, off + j, none⟩ = some (.int .u8 z))

theorem CodeRow.mono {w w' : World} {a : Option Addr} {len cap : Nat} (h : CodeRow w a len cap) (hb : Below w.heap.size w w') : CodeRow w' a len cap := by
  obtain ⟨h1, h2, h3⟩ := h
  refine ⟨h1, h2, ?_⟩
  rcases h3 with h3 | ⟨b, off, ha, hlt, hj⟩
  · exact .inl h3
  · refine .inr ⟨b, off, ha, Nat.lt_of_lt_of_le hlt hb.size, fun j hjn => ?_⟩
    obtain ⟨z, z0, z1, hz⟩ := hj j hjn
    exact ⟨z, z0, z1, by rw [hb.cell (by exact hlt)]; exact hz⟩

theorem add_plain (b off j : Nat) : (⟨b, off, none⟩ : Addr).add j = ⟨b, off + j, none⟩ := by
  unfold Addr.add; split <;> simp_all
theorem plain_of_cell {w : World} {x : Addr} {v : Value} (h : w.cell? x = some v) : x.spot = none ∧ x.block < w.heap.size := by
  unfold World.cell? at h
  split at h
  · rename_i c e fr hh
    refine ⟨?_, ?_⟩
    · cases hs : x.spot with
      | none => rfl
      | some s => rw [hs] at h; simp at h
    · by_cases hk : x.block < w.heap.size
      · exact hk
      · rw [Array.getElem?_eq_none (by omega)] at hh; cases hh
  · cases h

theorem CodeRow.of {w : World} {a : Option Addr} {len cap : Nat} {zs : List Int}
    (h : (a = none ∧ len = 0 ∧ cap = 0 ∧ zs = []) ∨ ∃ x, a = some x ∧ len ≤ cap ∧ cap ≤ maxLen ∧ zs.length = cap ∧ (∀ i, i < zs.length → w.cell? (x.add i) = some (.int .u8 (zs.getD i 0))) ∧ ∀ n ∈ zs, (Lit.int .u8 n).wf = true) :
    CodeRow w a len cap := by
  rcases h with ⟨rfl, rfl, rfl, rfl⟩ | ⟨x, rfl, hl, hm, hz, hc, hw⟩
  · exact ⟨Nat.le_refl _, by unfold maxLen; omega, .inl rfl⟩
  · refine ⟨hl, hm, ?_⟩
    by_cases h0 : len = 0
    · exact .inl h0
    obtain ⟨b, off, spot⟩ := x
    have hc0 := plain_of_cell (hc 0 (by omega))
    have hsp : spot = none := by have := hc0.1; unfold Addr.add at this; split at this <;> simp_all
    subst hsp
    have hlt : b < w.heap.size := by have := hc0.2; rw [add_plain] at this; exact this
    refine .inr ⟨b, off, rfl, hlt, fun j hj => ?_⟩
    have hcj := hc j (by omega)
    rw [add_plain] at hcj
    have hmem : zs.getD j 0 ∈ zs := by rw [List.getD_eq_getElem?_getD, List.getElem?_eq_getElem (by omega)]; exact List.getElem_mem _
    have hwf := hw _ hmem
    have hx : 0 ≤ zs.getD j 0 ∧ zs.getD j 0 ≤ 255 := by simpa [Lit.wf, IntKind.min, IntKind.max, IntKind.signed, IntKind.bits] using hwf
    exact ⟨_, hx.1, hx.2, hcj⟩

def CodeCells (w : World) (a : Option Addr) (len : Nat) : Prop :=
  len = 0 ∨ ∃ b off, a = some ⟨b, off, none⟩ ∧ b < w.heap.size ∧ ∀ j, j < len → ∃ z : Int, 0 ≤ z ∧ z ≤ 255 ∧ w.cell? ⟨b, off + j, none⟩ = some (.int .u8 z)
theorem cut_codes {w : World} {a : Option Addr} {len k : Nat} (hk : k ≤ len) (h : CodeCells w a len) : CodeCells w a k := by
  rcases h with h | ⟨b, off, ha, hlt, hj⟩
  · exact .inl (by omega)
  · exact .inr ⟨b, off, ha, hlt, fun j hjn => hj j (by omega)⟩
theorem Rd.new (w : World) (a : Option Addr) (len cap : Nat) (hl : len ≤ 2000) (h : CodeCells w a len) :
    Rd (w.alloc (.cells #[.slice a len cap, .int .i64 0] 60)) w.heap.size 0 := by
  refine ⟨a, len, cap, heap_alloc_new _ _, hl, ?_⟩
  rcases h with h | ⟨b, off, ha, hlt, hj⟩
  · exact .inl h
  · refine .inr ⟨b, off, ha, hlt, fun j hjn => ?_⟩
    obtain ⟨z, z0, z1, hz⟩ := hj j hjn
    exact ⟨z, z0, z1, (World.grownBy_alloc w _ none).cell hz (by simp)⟩

set_option maxHeartbeats 1000000 in
theorem open_codes (a : Option Addr) (len cap : Nat) (w : World) (h : CodeRow w a len cap) :
    Calls Try.prog 43 #[.slice a len cap] w fun e w' => e = .returned (.pointer (some ⟨w.heap.size, 0, none⟩)) ∧ Rdm w' w.heap.size 0 ∧ Below w.heap.size w w' ∧ w'.heap.size = w.heap.size + 1 := by
  obtain ⟨h1, h2, h3⟩ := h
  unfold maxLen at h2
  have H3 := Lib.hid h3; clear h3
  by_cases hl : len ≤ 2000
  · go_enter Try.func43, Try.ntmps43
    go_wp2
    go_ret
    exact ⟨rfl, ⟨0, Nat.le_refl _, Rd.new _ _ _ _ hl H3.out⟩, (Below.refl _ _).alloc (Nat.le_refl _) _, by simp⟩
  · go_enter Try.func43, Try.ntmps43
    go_wp2
    go_ret
    exact ⟨rfl, ⟨0, Nat.le_refl _, Rd.new _ _ _ _ (Nat.le_refl _) (cut_codes (by omega) H3.out)⟩, (Below.refl _ _).alloc (Nat.le_refl _) _, by simp⟩

theorem lit_cell {w w' : World} {R : Nat} {C : Array Value} {t : TypeId} {m : Nat} {v : Value} (hR : R < w.heap.size) (hg : (w.alloc (.cells C t)).grownBy w' (some R)) (hv : C[m]? = some v) : w'.cell? ⟨w.heap.size, m, none⟩ = some v := by
  refine hg.cell ?_ (by intro e; simp only [Option.some.injEq] at e; omega)
  simp only [World.cell?, heap_alloc_new]
  simpa using hv

end Go.Proofs.Ytbddokfcohnndaa
