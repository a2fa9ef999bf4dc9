/-
  lengthOf, firstPart and reversedList, by their contracts.
-/
import Derived.Test.YtipmkbahlfkfoaaGreatDoorFunD
import Derived.Test.YtipmkbahlfkfoaaGreatDoorSlicesG
namespace Go.Proofs.YtipmkbahlfkfoaaGreatDoor
open Go.RowKit
set_option linter.unusedVariables false

theorem taL_num (x : Value) (w : World) : (Instr.typeAssert (.iface 152 x) 67 86 true).run Tryz.prog w = .ok (.tuple #[.slice none 0 0, .bool false]) w := by kernel_rfl
theorem taL_text (x : Value) (w : World) : (Instr.typeAssert (.iface 151 x) 67 86 true).run Tryz.prog w = .ok (.tuple #[.slice none 0 0, .bool false]) w := by kernel_rfl
theorem taL_truth (x : Value) (w : World) : (Instr.typeAssert (.iface 169 x) 67 86 true).run Tryz.prog w = .ok (.tuple #[.slice none 0 0, .bool false]) w := by kernel_rfl
theorem taL_list (x : Value) (w : World) : (Instr.typeAssert (.iface 86 x) 67 86 true).run Tryz.prog w = .ok (.tuple #[x, .bool true]) w := by kernel_rfl
theorem taT_num (x : Value) (w : World) : (Instr.typeAssert (.iface 152 x) 67 151 true).run Tryz.prog w = .ok (.tuple #[.string ByteArray.empty, .bool false]) w := by kernel_rfl
theorem taT_text (x : Value) (w : World) : (Instr.typeAssert (.iface 151 x) 67 151 true).run Tryz.prog w = .ok (.tuple #[x, .bool true]) w := by kernel_rfl
theorem taT_truth (x : Value) (w : World) : (Instr.typeAssert (.iface 169 x) 67 151 true).run Tryz.prog w = .ok (.tuple #[.string ByteArray.empty, .bool false]) w := by kernel_rfl
theorem taT_list (x : Value) (w : World) : (Instr.typeAssert (.iface 86 x) 67 151 true).run Tryz.prog w = .ok (.tuple #[.string ByteArray.empty, .bool false]) w := by kernel_rfl
theorem taN_num (x : Value) (w : World) : (Instr.typeAssert (.iface 152 x) 67 152 true).run Tryz.prog w = .ok (.tuple #[x, .bool true]) w := by kernel_rfl
theorem taN_text (x : Value) (w : World) : (Instr.typeAssert (.iface 151 x) 67 152 true).run Tryz.prog w = .ok (.tuple #[.agg #[.int .i64 0, .int .i64 0], .bool false]) w := by kernel_rfl
theorem taN_truth (x : Value) (w : World) : (Instr.typeAssert (.iface 169 x) 67 152 true).run Tryz.prog w = .ok (.tuple #[.agg #[.int .i64 0, .int .i64 0], .bool false]) w := by kernel_rfl
theorem taN_list (x : Value) (w : World) : (Instr.typeAssert (.iface 86 x) 67 152 true).run Tryz.prog w = .ok (.tuple #[.agg #[.int .i64 0, .int .i64 0], .bool false]) w := by kernel_rfl

/-- A small number is a value, and how it lies in memory. -/
theorem num_vls (w : World) (S : Nat → Prop) (n : Int) (h0 : 0 ≤ n) (h1 : n ≤ 1000000000) : VlS w S [.iface 152 (.agg #[.int .i64 n, .int .i64 1])] [numV n 1] := by
  have hv : vB n 1 = true := by
    simp only [vB, Bool.and_eq_true, decide_eq_true_eq, beq_iff_eq]
    refine ⟨⟨⟨⟨by omega, h1⟩, by omega⟩, by omega⟩, ?_⟩
    simp
  obtain ⟨k1, k2, k3⟩ := read_back ⟨(textF n 1).toArray⟩ n 1 hv (by simp [textF, hv])
  have h := VlS.num (w := w) (S := S) k1 .nil
  rw [k2, k3] at h
  exact h
/-- What lengthOf tells. -/
noncomputable def lenR (p : List Cl) : Option (List Cl) := if kdV p = 2 then some (numV ((wdV p).size : Int) 1) else if kdV p = 5 then some (numV (myV p) 1) else none
theorem lenR_of (k m : Int) (s : ByteArray) (t : List Cl) : lenR ((k, s, m) :: t) = if k = 2 then some (numV (s.size : Int) 1) else if k = 5 then some (numV m 1) else none := rfl
noncomputable def firstR (p : List Cl) : Option (List Cl) := if kdV p = 5 then (partsV p)[0]? else none
noncomputable def revR (p : List Cl) : Option (List Cl) := if kdV p = 5 then lisO (partsV p).reverse else none

set_option maxRecDepth 100000 in
set_option maxHeartbeats 4000000 in
theorem lengthOf_any (u : Value) (p : List Cl) (w : World) (hv : VlS w (fun _ => True) [u] [p]) (hok : okV p = true) (htab : Tab w) :
    Calls Tryz.prog 83 #[u] w (Res (lenR p) w) := by
  rcases hv.one hok with ⟨s, hs, rfl, rfl⟩ | ⟨s, hs, rfl, rfl⟩ | ⟨b, rfl, rfl⟩ | ⟨v, us, ps, rfl, rfl, hr, hvs, hps, hpv⟩
  · have a1 := fun w => taT_num (.agg #[.int .i64 (rdT s), .int .i64 (rdB s)]) w
    have a2 := fun w => taL_num (.agg #[.int .i64 (rdT s), .int .i64 (rdB s)]) w
    go_enter Tryz.func83, Tryz.ntmps83
    go_wp2
    go_ret
    exact Res.nil (Below.refl _ _) (by rw [lenR_of, if_neg (by decide), if_neg (by decide)])
  · have a1 := fun w => taT_text (.string s) w
    have hsz : s.size ≤ 60 := by
      have := okVC_word (okV_head hok); exact this
    have HN := Lib.hid (num_vls w (fun _ => True) (s.size : Int) (by omega) (by omega))
    have HT := Lib.hid htab
    have HL := Lib.hid (show lenR [(2, s, 0)] = some (numV (s.size : Int) 1) by rw [lenR_of, if_pos rfl])
    clear htab hv
    go_enter Tryz.func83, Tryz.ntmps83
    go_wp2
    go_ret
    exact Res.val (Below.refl _ _) HN.out HT.out (num_ok (by omega) (by omega)) HL.out
  · have a1 := fun w => taT_truth (.bool b) w
    have a2 := fun w => taL_truth (.bool b) w
    go_enter Tryz.func83, Tryz.ntmps83
    go_wp2
    go_ret
    exact Res.nil (Below.refl _ _) (by rw [lenR_of, if_neg (by decide), if_neg (by decide)])
  · have hm := okVC_many (okV_head hok)
    have hm2 : (0 : Int) ≤ (ps.length : Int) ∧ (ps.length : Int) ≤ 8 := hm
    have HN := Lib.hid (num_vls w (fun _ => True) (ps.length : Int) (by omega) (by omega))
    have HT := Lib.hid htab
    have HL := Lib.hid (show lenR (listV ps) = some (numV (ps.length : Int) 1) by rw [listV, lenR_of, if_neg (by decide), if_pos rfl])
    have hlen := hvs.len
    obtain ⟨ao, cap, rfl, h1, h2, h3⟩ := hr
    rw [hlen] at h1 ⊢
    have a1 := fun w => taT_list (.slice ao ps.length cap) w
    have a2 := fun w => taL_list (.slice ao ps.length cap) w
    clear htab hv h3 h2 hvs
    go_enter Tryz.func83, Tryz.ntmps83
    go_wp2
    go_ret
    exact Res.val (Below.refl _ _) HN.out HT.out (num_ok (by omega) (by omega)) HL.out

set_option maxRecDepth 100000 in
set_option maxHeartbeats 4000000 in
theorem firstPart_any (v : Value) (us : List Value) (ps : List (List Cl)) (w : World) (hr : RowV w (fun _ => True) v us) (hv : VlS w (fun _ => True) us ps) (hok : okV (listV ps) = true) (htab : Tab w) :
    Calls Tryz.prog 91 #[v] w (Res (firstR (listV ps)) w) := by
  obtain ⟨hps, hpv⟩ := okV_parts hv.exs hok
  have HL := Lib.hid (show firstR (listV ps) = ps[0]? by rw [firstR, if_pos (show kdV (listV ps) = 5 from rfl), hpv])
  have hlen := hv.len
  have HT := Lib.hid htab; have HV := Lib.hid hv; have HPS := Lib.hid hps
  obtain ⟨ao, cap, rfl, h1, h2, h3⟩ := hr
  unfold maxLen at h2
  clear htab hv hps hpv
  cases hus : us with
  | nil =>
    subst hus
    have HN := Lib.hid (show ps[0]? = none by
      have : ps = [] := List.length_eq_zero_iff.mp (by rw [← hlen]; rfl)
      rw [this]; rfl)
    clear h3 hlen h1
    go_enter Tryz.func91, Tryz.ntmps91
    go_wp2
    go_ret
    exact Res.nil (Below.refl _ _) (by rw [HL.out, HN.out])
  | cons u0 us0 =>
    obtain ⟨b, o, rfl, -, hbl, cc⟩ := h3.resolve_left (by rw [hus]; simp)
    have hl0 : 0 < us.length := by rw [hus]; simp
    have hlp : 0 < ps.length := by omega
    have d0 : w.cell? ⟨b, o, none⟩ = some us[0] := cc 0 hl0
    have HV0 := Lib.hid (HV.out.at 0 hl0 hlp)
    obtain ⟨T, x, hT⟩ := HV0.out.iface
    rw [hT] at d0
    have HVT := Lib.hid (show VlS w (fun _ => True) [.iface T x] [ps[0]] by rw [← hT]; exact HV0.out)
    have HN := Lib.hid (show ps[0]? = some ps[0] from List.getElem?_eq_getElem hlp)
    have HO := Lib.hid (HPS.out ps[0] (List.getElem_mem hlp))
    have hi : (0 : Int) < (us.length : Int) := by omega
    have hne : ((us.length : Int) == 0) = false := by rw [beq_eq_false_iff_ne]; omega
    generalize us.length = n at hi hne h1
    clear cc hT hus hl0 hlen HV HV0
    go_enter Tryz.func91, Tryz.ntmps91
    go_wp2
    go_ret
    exact Res.val (Below.refl _ _) HVT.out HT.out HO.out (by rw [HL.out, HN.out])

set_option maxRecDepth 100000 in
set_option maxHeartbeats 4000000 in
theorem clone_nil (w : World) :
    Calls Tryz.prog 143 #[.slice none 0 0] w fun e w' => e = .returned (.slice none 0 0) ∧ w = w' := by
  have hq : ∀ w, (binOp BinOp.eql 86 (.slice none 0 0) (.slice none 0 0)).run Tryz.prog w = .ok (.bool true) w := fun w => by kernel_rfl
  go_enter Tryz.func143, Tryz.ntmps143
  go_wp2
  go_ret
  exact ⟨rfl, rfl⟩

end Go.Proofs.YtipmkbahlfkfoaaGreatDoor
