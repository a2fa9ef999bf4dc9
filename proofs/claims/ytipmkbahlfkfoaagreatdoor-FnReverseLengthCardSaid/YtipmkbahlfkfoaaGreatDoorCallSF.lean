/-
  spec.CallFunction, by its contract.
-/
import Derived.Test.YtipmkbahlfkfoaaGreatDoorBaseB
namespace Go.Proofs.YtipmkbahlfkfoaaGreatDoor
open Go.RowKit
set_option linter.unusedVariables false

set_option maxRecDepth 100000 in
set_option maxHeartbeats 4000000 in
theorem callFunction_spec (nm : ByteArray) (v : Value) (ls : List (List Cl)) (w : World) (hnm : nm.size ≤ 1048576) (hr : RowLs w v ls) (hz : ∀ l ∈ ls, ShortC l) (hl : ls.length + lenSS ls ≤ 1048576) :
    Calls Tryz.prog 12 #[.string nm, v] w (NewCB (callRR nm ls) (callRK nm ls) w) := by
  have HR := Lib.hid hr; have HZ := Lib.hid hz
  obtain ⟨ao, cap, rfl, h1, h2, h3⟩ := hr
  unfold maxLen at h2
  have H3 := Lib.hid h3
  clear h3 hz
  go_enter Tryz.func12, Tryz.ntmps12
  go_wp2_with fail
  go_loopw [6] (fun i wr => ∃ k : Nat, k ≤ ls.length ∧ i = .int .i64 (k : Int) ∧ (∀ l ∈ ls.take k, okV l = true) ∧ Below w.heap.size w wr) (fun i _ => ls.length - (intOf i).toNat)
  case atStart => exact ⟨0, Nat.zero_le _, rfl, fun l h => by simp at h, Below.refl _ _⟩
  case round =>
    obtain ⟨k, hk, rfl, hok, hb⟩ := hrel
    have HOK := Lib.hid hok; have HB := Lib.hid hb
    clear hok hb
    by_cases hlt : k < ls.length
    · obtain ⟨b, o, rfl, hbl, cc⟩ := H3.out.resolve_left (by rintro rfl; simp at hlt)
      obtain ⟨u, c0, hru⟩ := cc k hlt
      have d0 : wr.cell? ⟨b, o + k, none⟩ = some u := (HB.out.cell (p := ⟨b, _, none⟩) hbl).trans c0
      have HRU := Lib.hid (hru.mono HB.out)
      have HZK := Lib.hid (HZ.out _ (List.getElem_mem hlt))
      have hlk : ls[k].length ≤ 1048576 := by have := lenSS_in ls k hlt; omega
      have HNX := Lib.hid (show okV ls[k] = true → ∀ l ∈ ls.take (k + 1), okV l = true from fun h l hl => by
        rw [List.take_succ_eq_append_getElem hlt, List.mem_append, List.mem_singleton] at hl
        rcases hl with hl | rfl
        · exact HOK.out l hl
        · exact h)
      have HNO := Lib.hid (show okV ls[k] = false → callRK nm ls = false ∧ callRR nm ls = [] from fun h => callRK_no (List.getElem_mem hlt) h)
      generalize ls[k] = sub at HRU HZK hlk HNX HNO
      clear cc c0 hru
      cases hsub : okV sub with
      | true =>
        have HS := Lib.hid hsub; have HN := Lib.hid (HNX.out hsub); clear hsub HNX HNO
        go_wp2_with fail
        refine (valueValid_spec _ sub _ HRU.out HZK.out hlk).mono ?_
        rintro e w2 ⟨rfl, hb2⟩
        rw [HS.out]
        have HB2 := Lib.hid (HB.out.trans (hb2.mono HB.out.size)); clear hb2
        go_wp2
        go_roundw
        case rel => exact ⟨k + 1, by omega, by go_num, HN.out, HB2.out⟩
        case measure => simp [intOf]; omega
      | false =>
        have HS := Lib.hid hsub; have HN := Lib.hid (HNO.out hsub); clear hsub HNX HNO
        go_wp2_with fail
        refine (valueValid_spec _ sub _ HRU.out HZK.out hlk).mono ?_
        rintro e w2 ⟨rfl, hb2⟩
        rw [HS.out]
        have HB2 := Lib.hid (HB.out.trans (hb2.mono HB.out.size)); clear hb2
        go_wp2
        exact bodyPost_ret (v := .tuple #[.slice (some ⟨w2.heap.size, 0, none⟩) 0 0, .bool false]) (by simp [results, Tryz.results12, go_sem]) rfl (by rw [HN.out.1, HN.out.2]; exact NewCB.none _ _ HB2.out)
    · obtain rfl : k = ls.length := by omega
      have HAL := Lib.hid (show ∀ l ∈ ls, okV l = true by have := HOK.out; rwa [List.take_of_length_le (Nat.le_refl _)] at this)
      obtain ⟨e1, e2⟩ := callRK_yes (nm := nm) HAL.out
      have HE := Lib.hid e1; have HE2 := Lib.hid e2; clear e1 e2
      go_wp2_with fail
      refine (l9Call_any nm _ ls _ (HR.out.mono HB.out) HAL.out).mono ?_
      rintro e w2 ⟨v2, rfl, ho2, hb2⟩
      have HO2 := Lib.hid ho2; have HB2 := Lib.hid (HB.out.trans (hb2.mono HB.out.size)); have hbs := HB.out.size; clear ho2 hb2
      go_wp2
      exact bodyPost_ret (v := .tuple #[v2, .bool (callOK nm ls)]) (by simp [results, Tryz.results12, go_sem]) rfl ⟨v2, by rw [HE.out], by rw [HE2.out]; exact own_base HO2.out (fun g hg => Nat.le_trans hbs (HO2.out.lt g hg).1), HB2.out⟩

end Go.Proofs.YtipmkbahlfkfoaaGreatDoor
