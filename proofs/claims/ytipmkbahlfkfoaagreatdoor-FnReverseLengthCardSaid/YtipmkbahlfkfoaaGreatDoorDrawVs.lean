/-
  spec.l20Values: at most three lists of short cells.
-/
import Derived.Test.YtipmkbahlfkfoaaGreatDoorBaseD
import Derived.Test.YtipmkbahlfkfoaaGreatDoorBaseE
namespace Go.Proofs.YtipmkbahlfkfoaaGreatDoor
open Go.RowKit
set_option linter.unusedVariables false

theorem infoCS3 : (Tryz.prog.info? 24).map (fun i => (i.zero, i.size, i.bytes)) = some (some (.slice none 0 0), 1, 24) := by kernel_rfl
/-- Short cells, a few. -/
def FewC (l : List Cl) : Prop := (∀ c ∈ l, c.2.1.size ≤ 60) ∧ 1 ≤ l.length ∧ l.length ≤ 5
/-- What l20Values leaves. -/
def ValsD (R p : Nat) (w : World) (e : Ending) (w' : World) : Prop :=
  ∃ (v : Value) (us : List Value) (ls : List (List Cl)), e = .returned v ∧ OwnSS w' w.heap.size v us ls ∧ (∀ l ∈ ls, FewC l) ∧ ls.length ≤ 3 ∧ Rdm w' R (p + 800) ∧ w.grownBy w' (some R)
theorem few_snoc {ls : List (List Cl)} {l : List Cl} (h : ∀ l ∈ ls, FewC l) (hl : FewC l) : ∀ x ∈ ls ++ [l], FewC x := by
  intro x hx
  rw [List.mem_append, List.mem_singleton] at hx
  rcases hx with hx | rfl
  · exact h x hx
  · exact hl
theorem lit_SS (w : World) : OwnSS (w.alloc (.cells #[] 24)) w.heap.size (.slice (some ⟨w.heap.size, 0, none⟩) 0 0) [] [] :=
  ⟨World.ownsRow_lit (e := 24) (size := 1) (base := w.heap.size) w #[] 0 (Nat.le_refl _) (by unfold maxLen; omega) rfl, rfl, fun k h => by simp at h, fun k h => by simp at h, fun i j h => by simp at h⟩
theorem OwnSS.grownR {w w' : World} {base R : Nat} {v : Value} {us : List Value} {ls : List (List Cl)} (h : OwnSS w base v us ls) (hg : w.grownBy w' (some R)) (hR : R < base) : OwnSS w' base v us ls :=
  h.keep (fun b hb hlt => hg.block b hlt (fun e => by cases e; omega))

set_option maxRecDepth 100000 in
set_option maxHeartbeats 4000000 in
theorem values_any (R p : Nat) (n : Int) (w : World) (hp : p + 1000 < 1073741824) (hn0 : 0 ≤ n) (hn1 : n ≤ 1000) (h : Rdm w R p) :
    Calls Tryz.prog 50 #[.pointer (some ⟨R, 0, none⟩), .int .i64 n] w (ValsD R p w) := by
  have HLT := Lib.hid h.lt
  obtain ⟨j0, hj, hy0, hy1, hy2⟩ := info_parts infoCS3
  have HSS := Lib.hid (lit_SS w)
  go_enter Tryz.func50, Tryz.ntmps50
  go_wp2_with fail
  refine (pick_any R p 4 _ (by omega) (h.kept (World.grownBy_alloc w (.cells #[] 24) none) (by simp))).mono ?_
  rintro e w1 ⟨m, rfl, hm0, hm1, -, hr1, hg1, -⟩
  have hm2 := hm1 (by omega)
  obtain ⟨M, rfl⟩ := Int.eq_ofNat_of_zero_le hm0
  have HO1 := Lib.hid (HSS.out.grownR hg1 HLT.out)
  have HG1 := Lib.hid (grown_trans (World.grownBy_alloc w (.cells #[] 24) (some R)) hg1)
  have HR1 := Lib.hid hr1
  have hM3 : M ≤ 3 := by omega
  clear hm1 hg1 hr1 h
  go_wp2_with fail
  go_loopw [5, 6] (fun a i wr => ∃ (j : Nat) (us : List Value) (ls : List (List Cl)), j ≤ M ∧ i = .int .i64 ((M - j : Nat) : Int) ∧ ls.length = j ∧ OwnSS wr w.heap.size a us ls ∧ (∀ l ∈ ls, FewC l) ∧ Rdm wr R (p + 1 + j * 260) ∧ w.grownBy wr (some R)) (fun _ i _ => (intOf i).toNat)
  case atStart => exact ⟨0, [], [], Nat.zero_le _, rfl, rfl, HO1.out, fun l h => by simp at h, HR1.out.mono (by omega), HG1.out⟩
  case round =>
    obtain ⟨j, us, ls, hjM, rfl, hjl, hown, hfew, hr, hg⟩ := hrel
    have HO := Lib.hid hown; have HF := Lib.hid hfew; have HR := Lib.hid hr; have HG := Lib.hid hg
    have HJL := Lib.hid hjl
    clear hown hfew hr hg hjl
    obtain ⟨D, hD⟩ : ∃ D : Nat, D = M - j := ⟨_, rfl⟩
    rw [← hD]
    have HD := Lib.hid hD; clear hD
    by_cases hlt : 0 < D
    · obtain ⟨E, rfl⟩ : ∃ E, D = E + 1 := ⟨D - 1, by omega⟩
      have hltI : (0 : Int) < ((E + 1 : Nat) : Int) := by omega
      have hE3 : E ≤ 2 := by have := HD.out; omega
      have hjM2 : j < M := by have := HD.out; omega
      have hOR := HO.out.row
      rw [HJL.out] at hOR
      obtain ⟨aa, ac, rfl⟩ := own_shape hOR
      have HOR := Lib.hid hOR
      have hbw : w.heap.size ≤ wr.heap.size := HG.out.size
      clear hOR
      go_wp2_with fail
      refine (value_all 1 (by omega) R (p + 1 + j * 260) n _ (by have : kv (1 + 1) = 260 := by decide
                                                                 omega) hn0 hn1 HR.out).mono ?_
      rintro e w5 ⟨v5, l5, rfl, ho5, hsh5, h15, ⟨hc5, -, -⟩, hr5, hg5⟩
      have e4 : cv (1 + 1) = 4 := by decide
      have e260 : kv (1 + 1) = 260 := by decide
      rw [e4] at hc5
      rw [e260] at hr5
      have HFW := Lib.hid (few_snoc HF.out (show FewC l5 from ⟨hsh5, h15, hc5⟩))
      obtain ⟨a5, c5, rfl⟩ := own_shape ho5
      have HO5 := Lib.hid ho5; have HG5 := Lib.hid hg5; have HR5 := Lib.hid hr5
      have hown6 := own_keep HOR.out (fun x hx => hg5.block x (HOR.out.lt x hx).2 (fun e => by cases e; have := (HOR.out.lt R hx).1; have := HLT.out; omega))
      have hs5 : wr.heap.size ≤ w5.heap.size := hg5.size
      clear ho5 hsh5 hr5 hg5 h15
      go_wp2_with (at_builtin; refine wpList_append_lies _ rfl _ _ 27 rfl w.heap.size 24 j0 (.slice none 0 0) 1 24 Tryz.underlying27 hj hy0 hy1 hy2 rfl (by decide) (.slice aa j ac) j us rfl (hown6.alloc _) ⟨w5.heap.size, 0, none⟩ 1 1 [.slice a5 l5.length c5] rfl rfl (World.news_of_block (heap_alloc_new w5 _)) (by simp [Value.oneCell']) (by omega) (by unfold maxLen; omega) (by omega) (by simp; omega) (w5.heap.size + 1) (by simp) ?_; intro gg cap' w6 hown' hgrow hat hlt'; have HN := Lib.hid (HO.out.pushR (gg := gg) (fun b hb hlt => HG5.out.block b hlt (fun e => (by cases e; have := HLT.out; omega))) hs5 HO5.out _ hgrow (show w6.ownsRow w.heap.size 24 1 _ (ls.length + 1) _ by rw [HJL.out]; exact hown') rfl hat hbw); have HG6 := Lib.hid (grown_ownV (grown_alloc (grown_trans HG.out HG5.out) (.cells #[.slice a5 l5.length c5] 24)) hgrow (fun x hx => (HOR.out.lt x hx).1)); have HR6 := Lib.hid ((HR5.out.kept (World.grownBy_alloc w5 (.cells #[.slice a5 l5.length c5] 24) none) (by simp)).kept hgrow (fun x hx => (by have := (HOR.out.lt x hx).1; have := HLT.out; omega))); clear hown' hgrow hat)
      go_roundw
      case rel => exact ⟨j + 1, us ++ [.slice a5 l5.length c5], ls ++ [l5], by omega, by rw [show M - (j + 1) = E by have := HD.out; omega], by rw [List.length_append, HJL.out]; rfl, HN.out, HFW.out, HR6.out.mono (by omega), HG6.out⟩
      case measure => simp [intOf]
    · have hD0 : D = 0 := by omega
      subst hD0
      have hl3 : ls.length ≤ 3 := by have := HJL.out; omega
      go_wp2
      go_ret
      exact ⟨_, us, ls, rfl, HO.out, HF.out, hl3, HR.out.mono (by omega), HG.out⟩

end Go.Proofs.YtipmkbahlfkfoaaGreatDoor
