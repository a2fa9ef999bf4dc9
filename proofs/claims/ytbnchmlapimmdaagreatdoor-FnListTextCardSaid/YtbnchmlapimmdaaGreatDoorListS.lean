/-
  spec.l8List, ListValue, by their contracts.
-/
import Derived.Test.YtbnchmlapimmdaaGreatDoorValS
import Derived.Test.YtbnchmlapimmdaaGreatDoorOwnSS
namespace Go.Proofs.YtbnchmlapimmdaaGreatDoor
open Go.RowKit
set_option linter.unusedVariables false

/-- Whether values make a list that is a value, and that list (or nothing). -/
noncomputable def listOK (ls : List (List Cl)) : Bool := ls.all okV && okV (listV ls)
noncomputable def listR (ls : List (List Cl)) : List Cl := if listOK ls = true then listV ls else []
theorem listOK_yes {ls : List (List Cl)} (h1 : ∀ l ∈ ls, okV l = true) (h2 : okV (listV ls) = true) : listOK ls = true ∧ listR ls = listV ls := by
  have h : listOK ls = true := by rw [listOK, Bool.and_eq_true, List.all_eq_true]; exact ⟨h1, h2⟩
  exact ⟨h, by rw [listR, if_pos h]⟩
theorem listOK_no {ls : List (List Cl)} (h : ¬ ((∀ l ∈ ls, okV l = true) ∧ okV (listV ls) = true)) : listOK ls = false ∧ listR ls = [] := by
  have h' : listOK ls = false := by
    rw [Bool.eq_false_iff]; intro hh
    rw [listOK, Bool.and_eq_true, List.all_eq_true] at hh
    exact h hh
  exact ⟨h', by rw [listR, h']; rfl⟩
/-- The list of values, if it is a value. -/
noncomputable def oneR (ls : List (List Cl)) : List Cl := if okV (listV ls) = true then listV ls else []
/-- Cells of the call's own, and an answer. -/
def NewCB (r : List Cl) (b : Bool) (w : World) (e : Ending) (w' : World) : Prop :=
  ∃ v, e = .returned (.tuple #[v, .bool b]) ∧ w'.ownsRow w.heap.size 27 3 v r.length (flatC r) ∧ Below w.heap.size w w'
theorem NewCB.none (w w' : World) (hb : Below w.heap.size w w') : NewCB [] false w (.returned (.tuple #[.slice (some ⟨w'.heap.size, 0, none⟩) 0 0, .bool false])) (w'.alloc (.cells #[] 27)) :=
  ⟨_, rfl, World.ownsRow_lit (e := 27) (size := 3) (base := w.heap.size) w' #[] 0 hb.size (by unfold maxLen; omega) rfl, hb.alloc hb.size _⟩
theorem short_listV {ls : List (List Cl)} (h : ∀ l ∈ ls, ShortC l) : ShortC (listV ls) := by
  intro c hc
  rcases List.mem_cons.mp hc with rfl | hc
  · show (⟨#[]⟩ : ByteArray).size ≤ 1048576
    decide
  · obtain ⟨p, hp, hcp⟩ := List.mem_flatten.mp hc
    exact h p hp c hcp
theorem listV_len (ls : List (List Cl)) : (listV ls).length = 1 + lenSS ls := by simp [listV, lenSS]; omega

set_option maxRecDepth 100000 in
set_option maxHeartbeats 4000000 in
theorem l8List_any (v : Value) (ls : List (List Cl)) (w : World) (hr : RowLs w v ls) (hz : ∀ l ∈ ls, ShortC l) (hl : ls.length + lenSS ls ≤ 1048576) :
    Calls Tryz.prog 62 #[v] w (NewCB (oneR ls) (okV (listV ls)) w) := by
  obtain ⟨i0, hi, hz0, hz1, hz2⟩ := info_parts infoC
  have HZ := Lib.hid (short_listV hz)
  have HLV := Lib.hid (show listV ls = [((5 : Int), (⟨#[]⟩ : ByteArray), (ls.length : Int))] ++ ls.flatten from rfl)
  have hll : (listV ls).length ≤ 1048576 := by
    rw [listV_len]
    cases ls with
    | nil => simp [lenSS]
    | cons a t => simp only [List.length_cons] at hl; omega
  have HLL := Lib.hid hll
  obtain ⟨ao, cap, rfl, h1, h2, h3⟩ := hr
  unfold maxLen at h2
  have H3 := Lib.hid h3
  have O0 := Lib.hid (show (w.alloc (.cells #[.int .i64 5, .string ⟨#[]⟩, .int .i64 (ls.length : Int)] 27)).ownsRow w.heap.size 27 3 (.slice (some ⟨w.heap.size, 0, none⟩) 1 1) ([((5 : Int), (⟨#[]⟩ : ByteArray), (ls.length : Int))] ++ (ls.take 0).flatten).length (flatC ([((5 : Int), (⟨#[]⟩ : ByteArray), (ls.length : Int))] ++ (ls.take 0).flatten)) by
    have h := World.ownsRow_lit (e := 27) (size := 3) (base := w.heap.size) w #[.int .i64 5, .string ⟨#[]⟩, .int .i64 (ls.length : Int)] 1 (Nat.le_refl _) (by unfold maxLen; omega) rfl
    simpa [flatC] using h)
  have B0 := Lib.hid (show Below w.heap.size w (w.alloc (.cells #[.int .i64 5, .string ⟨#[]⟩, .int .i64 (ls.length : Int)] 27)) from (Below.refl w.heap.size w).alloc (Nat.le_refl _) _)
  clear h3 hz hll
  go_enter Tryz.func62, Tryz.ntmps62
  go_wp2_with fail
  go_loopw [4, 5] (fun a i wr => ∃ k : Nat, k ≤ ls.length ∧ i = .int .i64 (k : Int) ∧ wr.ownsRow w.heap.size 27 3 a ([((5 : Int), (⟨#[]⟩ : ByteArray), (ls.length : Int))] ++ (ls.take k).flatten).length (flatC ([((5 : Int), (⟨#[]⟩ : ByteArray), (ls.length : Int))] ++ (ls.take k).flatten)) ∧ Below w.heap.size w wr) (fun _ i _ => ls.length - (intOf i).toNat)
  case atStart => exact ⟨0, Nat.zero_le _, rfl, O0.out, B0.out⟩
  case round =>
    obtain ⟨k, hk, rfl, hown, hb⟩ := hrel
    have HO := Lib.hid hown; have HB := Lib.hid hb
    clear hown hb
    by_cases hlt : k < ls.length
    · obtain ⟨b, o, rfl, hbl, cc⟩ := H3.out.resolve_left (by rintro rfl; simp at hlt)
      obtain ⟨u, c0, hru⟩ := cc k hlt
      have d0 : wr.cell? ⟨b, o + k, none⟩ = some u := (HB.out.cell (p := ⟨b, _, none⟩) hbl).trans c0
      have HRU := Lib.hid (hru.mono HB.out)
      have hfl : (ls.take (k + 1)).flatten = (ls.take k).flatten ++ ls[k] := by
        rw [List.take_succ_eq_append_getElem hlt, List.flatten_append]; simp
      have hle : ([((5 : Int), (⟨#[]⟩ : ByteArray), (ls.length : Int))] ++ (ls.take k).flatten).length + ls[k].length ≤ 1048577 := by
        have h4 := lenSS_take ls k hlt
        have h5 := lenSS_le ls (k + 1)
        simp only [lenSS] at h4 h5 hl
        simp only [List.length_append, List.length_cons, List.length_nil]; omega
      have HNX := Lib.hid (show ∀ (w' : World) (v' : Value), w'.ownsRow w.heap.size 27 3 v' (([((5 : Int), (⟨#[]⟩ : ByteArray), (ls.length : Int))] ++ (ls.take k).flatten).length + ls[k].length) (flatC ([((5 : Int), (⟨#[]⟩ : ByteArray), (ls.length : Int))] ++ (ls.take k).flatten) ++ flatC ls[k]) →
          w'.ownsRow w.heap.size 27 3 v' ([((5 : Int), (⟨#[]⟩ : ByteArray), (ls.length : Int))] ++ (ls.take (k + 1)).flatten).length (flatC ([((5 : Int), (⟨#[]⟩ : ByteArray), (ls.length : Int))] ++ (ls.take (k + 1)).flatten)) from fun w' v' h => by
        rw [hfl, ← List.append_assoc, flatC_append, List.length_append]; exact h)
      generalize ([((5 : Int), (⟨#[]⟩ : ByteArray), (ls.length : Int))] ++ (ls.take k).flatten) = acc at HO HNX hle
      generalize ls[k] = sub at HRU HNX hle
      have hbw : w.heap.size ≤ wr.heap.size := HB.out.size
      clear cc c0 hru hfl
      go_wp2_with (at_builtin; refine append_rowC rfl _ _ 23 rfl w.heap.size 27 i0 (.agg #[.int .i64 0, .string ByteArray.empty, .int .i64 0]) 32 Tryz.underlying23 hi hz0 hz1 hz2 (by decide) _ acc.length (flatC acc) rfl HO.out u sub rfl HRU.out (by unfold maxLen; omega) (by omega) hbw ?_; intro v2 w2 hown2 hgrow2; have HO2 := Lib.hid (HNX.out w2 v2 hown2); have HB2 := Lib.hid (HB.out.grown hgrow2 hbw (fun x hx => (HO.out.lt x hx).1)); clear hown2 hgrow2)
      go_roundw
      case rel => exact ⟨k + 1, by omega, by go_num, HO2.out, HB2.out⟩
      case measure => simp [intOf]; omega
    · obtain rfl : k = ls.length := by omega
      have HO2 := Lib.hid (show wr.ownsRow w.heap.size 27 3 _ (listV ls).length (flatC (listV ls)) by
        have h := HO.out
        rw [List.take_of_length_le (Nat.le_refl _)] at h
        rw [HLV.out]; exact h)
      clear HO
      cases hok : okV (listV ls) with
      | true =>
        have HOK := Lib.hid hok; clear hok
        go_wp2_with fail
        refine (valueValid_spec _ (listV ls) _ (RowC.of_own HO2.out).1 HZ.out HLL.out).mono ?_
        rintro e w2 ⟨rfl, hb2⟩
        rw [HOK.out]
        have HO3 := Lib.hid (own_belowS HO2.out hb2)
        have HB2 := Lib.hid (HB.out.trans (hb2.mono HB.out.size)); clear hb2
        have HR1 := Lib.hid (show oneR ls = listV ls by rw [oneR, if_pos HOK.out])
        go_wp2
        exact bodyPost_ret (v := .tuple #[_, .bool true]) (by simp [results, Tryz.results62, go_sem]; rfl) rfl ⟨_, by rw [HOK.out], by rw [HR1.out]; exact HO3.out, HB2.out⟩
      | false =>
        have HOK := Lib.hid hok; clear hok
        go_wp2_with fail
        refine (valueValid_spec _ (listV ls) _ (RowC.of_own HO2.out).1 HZ.out HLL.out).mono ?_
        rintro e w2 ⟨rfl, hb2⟩
        rw [HOK.out]
        have HB2 := Lib.hid (HB.out.trans (hb2.mono HB.out.size)); clear hb2
        have HR1 := Lib.hid (show oneR ls = [] by rw [oneR, if_neg (by rw [HOK.out]; decide)])
        go_wp2
        exact bodyPost_ret (v := .tuple #[.slice (some ⟨w2.heap.size, 0, none⟩) 0 0, .bool false]) (by simp [results, Tryz.results62, go_sem]) rfl (by rw [HR1.out, HOK.out]; exact NewCB.none _ _ HB2.out)

set_option maxRecDepth 100000 in
set_option maxHeartbeats 4000000 in
theorem listValue_spec (v : Value) (ls : List (List Cl)) (w : World) (hr : RowLs w v ls) (hz : ∀ l ∈ ls, ShortC l) (hl : ls.length + lenSS ls ≤ 1048576) :
    Calls Tryz.prog 29 #[v] w (NewCB (listR ls) (listOK ls) w) := by
  have HR := Lib.hid hr; have HZ := Lib.hid hz
  obtain ⟨ao, cap, rfl, h1, h2, h3⟩ := hr
  unfold maxLen at h2
  have H3 := Lib.hid h3
  have HL8 := Lib.hid (fun w' (h : RowLs w' (.slice ao ls.length cap) ls) => l8List_any _ ls w' h hz hl)
  clear h3 hz
  go_enter Tryz.func29, Tryz.ntmps29
  go_wp2_with fail
  go_loopw [4] (fun i wr => ∃ k : Nat, k ≤ ls.length ∧ i = .int .i64 (k : Int) ∧ (∀ l ∈ ls.take k, okV l = true) ∧ Below w.heap.size w wr) (fun i _ => ls.length - (intOf i).toNat)
  case atStart => exact ⟨0, Nat.zero_le _, rfl, fun l h => by simp at h, Below.refl _ _⟩
  case round =>
    obtain ⟨k, hk, rfl, hok, hb⟩ := hrel
    have HOK := Lib.hid hok; have HB := Lib.hid hb
    clear hok hb
    by_cases hlt : k < ls.length
    · obtain ⟨b, o, rfl, hbl, cc⟩ := H3.out.resolve_left (by rintro rfl; simp at hlt)
      obtain ⟨u, c0, hru⟩ := cc k hlt
      have d0 : wr.cell? ⟨b, o + k, none⟩ = some u := (HB.out.cell (p := ⟨b, _, none⟩) hbl).trans c0
      have HRU := Lib.hid (hru.mono HB.out)
      have HZK := Lib.hid (HZ.out _ (List.getElem_mem hlt))
      have hlk : ls[k].length ≤ 1048576 := by have := lenSS_in ls k hlt; omega
      have HNX := Lib.hid (show okV ls[k] = true → ∀ l ∈ ls.take (k + 1), okV l = true from fun h l hl => by
        rw [List.take_succ_eq_append_getElem hlt, List.mem_append, List.mem_singleton] at hl
        rcases hl with hl | rfl
        · exact HOK.out l hl
        · exact h)
      have HNO := Lib.hid (show okV ls[k] = false → listOK ls = false ∧ listR ls = [] from fun h => listOK_no (fun hh => by have := hh.1 _ (List.getElem_mem hlt); rw [h] at this; cases this))
      generalize ls[k] = sub at HRU HZK hlk HNX HNO
      clear cc c0 hru
      cases hsub : okV sub with
      | true =>
        have HS := Lib.hid hsub; have HN := Lib.hid (HNX.out hsub); clear hsub HNX HNO
        go_wp2_with fail
        refine (valueValid_spec _ sub _ HRU.out HZK.out hlk).mono ?_
        rintro e w2 ⟨rfl, hb2⟩
        rw [HS.out]
        have HB2 := Lib.hid (HB.out.trans (hb2.mono HB.out.size)); clear hb2
        go_wp2
        go_roundw
        case rel => exact ⟨k + 1, by omega, by go_num, HN.out, HB2.out⟩
        case measure => simp [intOf]; omega
      | false =>
        have HS := Lib.hid hsub; have HN := Lib.hid (HNO.out hsub); clear hsub HNX HNO
        go_wp2_with fail
        refine (valueValid_spec _ sub _ HRU.out HZK.out hlk).mono ?_
        rintro e w2 ⟨rfl, hb2⟩
        rw [HS.out]
        have HB2 := Lib.hid (HB.out.trans (hb2.mono HB.out.size)); clear hb2
        go_wp2
        exact bodyPost_ret (v := .tuple #[.slice (some ⟨w2.heap.size, 0, none⟩) 0 0, .bool false]) (by simp [results, Tryz.results29, go_sem]) rfl (by rw [HN.out.1, HN.out.2]; exact NewCB.none _ _ HB2.out)
    · obtain rfl : k = ls.length := by omega
      have HAL := Lib.hid (show ∀ l ∈ ls, okV l = true by have := HOK.out; rwa [List.take_of_length_le (Nat.le_refl _)] at this)
      have HLR := Lib.hid (show oneR ls = listR ls ∧ okV (listV ls) = listOK ls by
        by_cases h : okV (listV ls) = true
        · obtain ⟨a1, a2⟩ := listOK_yes HAL.out h
          exact ⟨by rw [oneR, if_pos h, a2], by rw [h, a1]⟩
        · obtain ⟨a1, a2⟩ := listOK_no (ls := ls) (fun hh => h hh.2)
          exact ⟨by rw [oneR, if_neg h, a2], by rw [a1]; simpa using h⟩)
      go_wp2_with fail
      refine (HL8.out _ (HR.out.mono HB.out)).mono ?_
      rintro e w2 ⟨v2, rfl, ho2, hb2⟩
      have HO2 := Lib.hid ho2; have HB2 := Lib.hid (HB.out.trans (hb2.mono HB.out.size)); have hbs := HB.out.size; clear ho2 hb2
      go_wp2
      exact bodyPost_ret (v := .tuple #[v2, .bool (okV (listV ls))]) (by simp [results, Tryz.results29, go_sem]) rfl ⟨v2, by rw [HLR.out.2], by rw [← HLR.out.1]; exact own_base HO2.out (fun g hg => Nat.le_trans hbs (HO2.out.lt g hg).1), HB2.out⟩

end Go.Proofs.YtbnchmlapimmdaaGreatDoor
