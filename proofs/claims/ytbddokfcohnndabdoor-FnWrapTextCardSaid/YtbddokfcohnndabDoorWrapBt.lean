/-
  impl's wrapping: longer, better, by their contracts.
-/
import Derived.Test.YtbddokfcohnndabDoorWrapCmp
import Derived.Test.YtbddokfcohnndabDoorOwnK
import Derived.Test.YtbddokfcohnndabDoorWrapI
import Derived.Deep.RegionHeld3
import Derived.RegionTactic
import Derived.Deep.QuietTactic
import Derived.Deep.Draws
import Derived.BigRegion
import Derived.Deep.RegionLaw
import Derived.Deep.DrawnRows
import Derived.Deep.DeepCutAuto
namespace Go.Proofs.YtbddokfcohnndabDoor
open Go.RowKit
set_option linter.unusedVariables false

theorem ints_Z (L : List Nat) : ints L = (L.map fun (n : Nat) => (n : Int)).map (Value.int .i64) := by simp [ints]

set_option maxRecDepth 100000 in
set_option maxHeartbeats 4000000 in
theorem better_any (v u : Value) (A B : List Nat) (c d : Nat) (w : World) (hv : RowOf w v (ints A)) (hu : RowOf w u (ints B)) (hc : c ≤ 100000) (hd : d ≤ 100000) :
    Calls Tryd.prog 38 #[.agg #[v, .int .i64 (c : Int)], .agg #[u, .int .i64 (d : Int)]] w fun e w' => e = .returned (.bool (bett (A, c) (B, d))) ∧ Below w.heap.size w w' := by
  have HC := Lib.hid (fun w' h1 h2 => compare_any v u A B w' h1 h2)
  have HV := Lib.hid hv; have HU := Lib.hid hu
  obtain ⟨ao, cap, rfl, h1, h2, -⟩ := hv
  obtain ⟨au, cu, rfl, g1, g2, -⟩ := hu
  simp only [ints_length] at h1 g1 HC HV HU ⊢
  unfold maxLen at h2 g2
  have HB1 := Lib.hid (((Below.refl w.heap.size w).alloc (Nat.le_refl _) (.cells #[.slice ao A.length cap, .int .i64 (c : Int)] 53)).alloc (by simp) (.cells #[.slice au B.length cu, .int .i64 (d : Int)] 53))
  by_cases hb : B.length = 0
  · obtain rfl : B = [] := List.eq_nil_of_length_eq_zero hb
    have e : bett (A, c) ([], d) = true := rfl
    rw [e]
    clear e hb
    go_enter Tryd.func38, Tryd.ntmps38
    go_wp2
    go_ret
    exact ⟨rfl, HB1.out⟩
  · have hb0 : ((B.length : Int) == 0) = false := by rw [beq_eq_false_iff_ne]; omega
    have hne : (B : List Nat).isEmpty = false := by cases B with | nil => simp at hb | cons _ _ => rfl
    by_cases hcd : c = d
    · subst hcd
      have HE := Lib.hid (show bett (A, c) (B, c) = decide (0 < cmpL A B) by rw [bett]; simp only [hne, Bool.false_or, if_true])
      have hcc : ((c : Int) != (c : Int)) = false := by simp
      clear hne
      go_enter Tryd.func38, Tryd.ntmps38
      go_wp2_with fail
      refine (HC.out _ (HV.out.mono HB1.out) (HU.out.mono HB1.out)).mono ?_
      rintro e w' ⟨rfl, rfl⟩
      go_wp2
      go_ret
      exact ⟨by rw [HE.out]; rfl, HB1.out⟩
    · have HE := Lib.hid (show bett (A, c) (B, d) = decide (c < d) by rw [bett]; simp only [hne, Bool.false_or, if_neg hcd])
      have hcc : ((c : Int) != (d : Int)) = true := by simp; omega
      clear hne hcd
      by_cases hlt : c < d
      · have HR := Lib.hid (show bett (A, c) (B, d) = true by rw [HE.out]; simp [hlt])
        go_enter Tryd.func38, Tryd.ntmps38
        go_wp2
        go_ret
        exact ⟨by rw [HR.out]; rfl, HB1.out⟩
      · have HR := Lib.hid (show bett (A, c) (B, d) = false by rw [HE.out]; simp [hlt])
        go_enter Tryd.func38, Tryd.ntmps38
        go_wp2
        go_ret
        exact ⟨by rw [HR.out]; rfl, HB1.out⟩

theorem pair_new (w : World) (x y : Value) (t : TypeId) : (w.alloc (.cells #[x, y] t)).cell? ⟨w.heap.size, 0, none⟩ = some x ∧ (w.alloc (.cells #[x, y] t)).cell? ⟨w.heap.size, 1, none⟩ = some y ∧ ∀ j, (w.alloc (.cells #[x, y] t)).frozen? ⟨w.heap.size, j, none⟩ = false := by
  refine ⟨?_, ?_, fun j => ?_⟩
  · simp only [World.cell?, heap_alloc_new]; rfl
  · simp only [World.cell?, heap_alloc_new]; rfl
  · simp only [World.frozen?, heap_alloc_new]; simp
theorem le_al {n : Nat} {w : World} (o : Obj) (h : n ≤ w.heap.size) : n ≤ (w.alloc o).heap.size := by simp; omega
theorem sz_al (w : World) (o : Obj) : (w.alloc o).heap.size = w.heap.size + 1 := by simp
theorem one_int (m : Int) : ∀ u ∈ [Value.int .i64 m], u.oneCell' = true := by simp [Value.oneCell']
theorem set_other {w : World} {b j b' k : Nat} {v x : Value} (h : b' ≠ b) (hx : w.cell? ⟨b', k, none⟩ = some x) : (w.setCell ⟨b, j, none⟩ v).cell? ⟨b', k, none⟩ = some x := by
  rw [World.cell?_of_block (w := w) (a := ⟨b', k, none⟩) (Below.heap_setCell _ _ _ _ h)]; exact hx
theorem clone_own (v : Value) (A : List Nat) (w : World) (hv : RowOf w v (ints A)) (hnil : A = [] → v = .slice none 0 0) (h20 : A.length ≤ 20) :
    Calls Tryd.prog 47 #[v] w fun e w' => ∃ v', e = .returned v' ∧ w'.ownsRow w.heap.size 3 1 v' A.length (ints A) ∧ Below w.heap.size w w' := by
  by_cases h0 : A = []
  · obtain rfl := hnil h0
    subst h0
    refine (Tryd.slices_Clone_int_nil 0 0 w).mono ?_
    rintro e w' ⟨rfl, rfl⟩
    exact ⟨_, rfl, World.ownsRow_nil _ _ _ _, Below.refl _ _⟩
  · obtain ⟨ao, cap, rfl, h1, h2, h3⟩ := hv
    obtain ⟨b, off, rfl, hlt, hc⟩ := h3.resolve_left (by intro h; have h' := congrArg List.length h; rw [ints_length, List.length_nil] at h'; exact h0 (List.eq_nil_of_length_eq_zero h'))
    rw [ints_length]
    refine (Tryd.slices_Clone_int b off A.length cap (A.map fun (n : Nat) => (n : Int)) w (by simp) (by omega) ?_).mono ?_
    · intro j hj
      rw [List.length_map] at hj
      rw [hc j _ (ints_at A j hj)]
      simp [hj]
    · rintro e w' ⟨v', rfl, ho, -, hb⟩
      refine ⟨v', rfl, ?_, hb⟩
      rw [List.take_of_length_le (by simp)] at ho
      rwa [ints_Z]

set_option maxRecDepth 100000 in
set_option maxHeartbeats 4000000 in
theorem longer_any (v : Value) (A : List Nat) (c m k : Nat) (w : World) (hv : RowOf w v (ints A)) (hnil : A = [] → v = .slice none 0 0) (h20 : A.length ≤ 20) (hc : c ≤ 100000) (hm : m ≤ 100000) (hk : k ≤ 100000) :
    Calls Tryd.prog 36 #[.agg #[v, .int .i64 (c : Int)], .int .i64 (m : Int), .int .i64 (k : Int)] w fun e w' => ∃ v', e = .returned (.agg #[v', .int .i64 ((c + k : Nat) : Int)]) ∧ w'.ownsRow w.heap.size 3 1 v' (A ++ [m]).length (ints (A ++ [m])) ∧ Below w.heap.size w w' := by
  obtain ⟨i0, hi, hz0, hz1, hz2⟩ := info_parts infoI
  have HCL := Lib.hid (fun (W : World) (hb : Below w.heap.size w W) => clone_own v A W (hv.mono hb) hnil h20)
  have HB1 := Lib.hid (((Below.refl w.heap.size w).alloc (Nat.le_refl _) (.cells #[v, .int .i64 (c : Int)] 53)).alloc (by simp) (.cells #[.slice none 0 0, .int .i64 0] 53))
  have e0 : ((w.alloc (.cells #[v, .int .i64 (c : Int)] 53)).alloc (.cells #[.slice none 0 0, .int .i64 0] 53)).cell? ⟨w.heap.size, 0, none⟩ = some v := by simp [go_sem]
  have e1 : ((w.alloc (.cells #[v, .int .i64 (c : Int)] 53)).alloc (.cells #[.slice none 0 0, .int .i64 0] 53)).cell? ⟨w.heap.size, 1, none⟩ = some (.int .i64 (c : Int)) := by simp [go_sem]
  have hs1 : (w.alloc (.cells #[v, .int .i64 (c : Int)] 53)).heap.size = w.heap.size + 1 := by simp
  obtain ⟨y0, y1, f0⟩ := pair_new (w.alloc (.cells #[v, .int .i64 (c : Int)] 53)) (.slice none 0 0) (.int .i64 0) 53
  rw [hs1] at y0 y1 f0
  have hWs : ((w.alloc (.cells #[v, .int .i64 (c : Int)] 53)).alloc (.cells #[.slice none 0 0, .int .i64 0] 53)).heap.size = w.heap.size + 2 := by simp
  clear hv hnil
  go_enter Tryd.func36, Tryd.ntmps36
  go_upto_region 1 with (fail)
  generalize hW : ((w.alloc (.cells #[v, .int .i64 (c : Int)] 53)).alloc (.cells #[.slice none 0 0, .int .i64 0] 53)) = W at HB1 e0 e1 y0 y1 f0 hWs ⊢
  have Y0 := Lib.hid y0; have Y1 := Lib.hid y1; have F0 := Lib.hid f0; have HWS := Lib.hid hWs
  have HBD := Lib.hid HB1.out.drew
  have hA1 : A.length + 1 ≤ maxLen := by unfold maxLen; omega
  have hA2 : (A.length + 1) * 8 ≤ 140737488355328 := by omega
  have HR1 := Lib.hid (show w.heap.size + 1 < W.heap.size by omega)
  have hck : IntKind.i64.wrap ((c : Int) + k) = ((c + k : Nat) : Int) := by rw [IntWalk.i64_in _ (by omega)]; omega
  have HKE := Lib.hid (show ∀ W', Below W.heap.size W W' → W'.cell? ⟨w.heap.size, 0, none⟩ = some v ∧ W'.cell? ⟨w.heap.size, 1, none⟩ = some (.int .i64 (c : Int)) from fun W' hb => ⟨(hb.cell (p := ⟨w.heap.size, 0, none⟩) (show w.heap.size < W.heap.size by omega)).trans e0, (hb.cell (p := ⟨w.heap.size, 1, none⟩) (show w.heap.size < W.heap.size by omega)).trans e1⟩)
  have HKST := Lib.hid (show ∀ (W' : World), (W'.cell? ⟨w.heap.size, 0, none⟩ = some v ∧ W'.cell? ⟨w.heap.size, 1, none⟩ = some (.int .i64 (c : Int))) → ∀ (x y : Value), ((W'.setCell ⟨w.heap.size + 1, 0, none⟩ x).setCell ⟨w.heap.size + 1, 1, none⟩ y).cell? ⟨w.heap.size, 0, none⟩ = some v ∧ ((W'.setCell ⟨w.heap.size + 1, 0, none⟩ x).setCell ⟨w.heap.size + 1, 1, none⟩ y).cell? ⟨w.heap.size, 1, none⟩ = some (.int .i64 (c : Int)) from fun W' h x y => ⟨set_other (Nat.ne_of_lt (Nat.lt_succ_self _)) (set_other (Nat.ne_of_lt (Nat.lt_succ_self _)) h.1), set_other (Nat.ne_of_lt (Nat.lt_succ_self _)) (set_other (Nat.ne_of_lt (Nat.lt_succ_self _)) h.2)⟩)
  have HWD := Lib.hid (show Below W.heap.size W W.drew from (Below.refl W.heap.size W).drew)
  have HWR := Lib.hid (Below.refl W.heap.size W)
  have HWA := Lib.hid ((Below.refl W.heap.size W).alloc (Nat.le_refl _) (.cells #[.int .i64 (m : Int)] 3))
  have HWAD := Lib.hid (show Below W.heap.size W (W.alloc (.cells #[.int .i64 (m : Int)] 3)).drew from HWA.out.drew)
  have HBDA := Lib.hid (show Below w.heap.size w (W.alloc (.cells #[.int .i64 (m : Int)] 3)).drew from HB1.out.trans (HWAD.out.mono (by omega)))
  have HLOWB := Lib.hid (fun (w3 : World) (u : Value) (h : w3.ownsRow W.drew.heap.size 3 1 u A.length (ints A)) => (show w3.ownsRow W.heap.size 3 1 u A.length (ints A) from h))
  have HBEB := Lib.hid (fun (w3 : World) (h : Below W.drew.heap.size W.drew w3) => (show Below W.heap.size W w3 from HWD.out.trans h))
  have HLOWA := Lib.hid (fun (w3 : World) (u : Value) (h : w3.ownsRow (W.alloc (.cells #[.int .i64 (m : Int)] 3)).drew.heap.size 3 1 u A.length (ints A)) => own_base (base' := W.heap.size) h (fun g hg => Nat.le_trans HWAD.out.size (h.lt g hg).1))
  have HBEA := Lib.hid (fun (w3 : World) (h : Below (W.alloc (.cells #[.int .i64 (m : Int)] 3)).drew.heap.size (W.alloc (.cells #[.int .i64 (m : Int)] 3)).drew w3) => HWAD.out.trans (h.mono HWAD.out.size))
  have HLI := Lib.hid (fun (w3 : World) (h : Below (W.alloc (.cells #[.int .i64 (m : Int)] 3)).drew.heap.size (W.alloc (.cells #[.int .i64 (m : Int)] 3)).drew w3) => World.news_of_block (w := w3) (B := W.heap.size) (cs := #[.int .i64 (m : Int)]) (t := 3) (fr := (0, 0)) ((h.block W.heap.size (by show W.heap.size < (W.alloc (.cells #[.int .i64 (m : Int)] 3)).heap.size; rw [sz_al]; omega)).trans (heap_alloc_new W _)))
  clear hW y0 y1 f0 hWs
  go_region_held3 (fun w' => w'.cell? ⟨w.heap.size, 0, none⟩ = some v ∧ w'.cell? ⟨w.heap.size, 1, none⟩ = some (.int .i64 (c : Int)))
    (first | exact HKST.out _ (HKE.out _ HB4.out) _ _ | exact HKE.out _ HB4.out | exact HKE.out _ (HB3.out.alloc HB3.out.size _) | exact HKE.out _ HB3.out | exact HKE.out _ HWD.out | exact HKE.out _ HWA.out | exact HKE.out _ HWAD.out | exact HKE.out _ HWR.out | fail)
    (first
      | (go_at_call 47; (with_reducible refine (HCL.out _ HBD.out).mono ?_); rintro e w3 ⟨v3, rfl, ho3, hb3⟩; obtain ⟨a3, c3, rfl⟩ := own_shape ho3; have HO3 := Lib.hid (HLOWB.out w3 _ ho3); have HB3 := Lib.hid (HBEB.out w3 hb3); clear ho3 hb3)
      | (go_at_call 47; (with_reducible refine (HCL.out _ HBDA.out).mono ?_); rintro e w3 ⟨v3, rfl, ho3, hb3⟩; obtain ⟨a3, c3, rfl⟩ := own_shape ho3; have HO3 := Lib.hid (HLOWA.out w3 _ ho3); have HB3 := Lib.hid (HBEA.out w3 hb3); have HLIT := Lib.hid (HLI.out w3 hb3); clear ho3 hb3)
      | (refine step_append_lies _ (by rfl) _ _ _ (by rfl) W.heap.size 3 i0 _ 1 8 Tryd.underlying33 hi hz0 hz1 hz2 rfl Nat.one_pos (.slice a3 A.length c3) A.length _ (by rfl) HO3.out ⟨W.heap.size, 0, none⟩ 1 1 [.int .i64 (m : Int)] (by rfl) rfl HLIT.out (one_int m) Nat.one_pos hA1 hA2 HB3.out.size w3.heap.size rfl ?_; intro gg cap' w4 hown4 hgrow4 hat4 hlt4; have HO4 := Lib.hid hown4; have HB4 := Lib.hid (HB3.out.grown hgrow4 HB3.out.size (fun q hq => (HO3.out.lt q hq).1)); clear hown4 hgrow4 hat4 hlt4; have z0 := (HB4.out.cell (p := ⟨w.heap.size + 1, 0, none⟩) HR1.out).trans Y0.out; have z1 := (HB4.out.cell (p := ⟨w.heap.size + 1, 1, none⟩) HR1.out).trans Y1.out; have g0 := (HB4.out.frozen (p := ⟨w.heap.size + 1, 0, none⟩) HR1.out).trans (F0.out 0); have g1 := (HB4.out.frozen (p := ⟨w.heap.size + 1, 1, none⟩) HR1.out).trans (F0.out 1))
      | (refine step_append_lies _ (by rfl) _ _ _ (by rfl) W.heap.size 3 i0 _ 1 8 Tryd.underlying33 hi hz0 hz1 hz2 rfl Nat.one_pos (.slice a3 A.length c3) A.length _ (by rfl) (HO3.out.alloc _) ⟨w3.heap.size, 0, none⟩ 1 1 [.int .i64 (m : Int)] (by rfl) rfl (World.news_of_block (cs := #[.int .i64 (m : Int)]) (t := 3) (fr := (0, 0)) (heap_alloc_new w3 _)) (one_int m) Nat.one_pos hA1 hA2 (le_al _ HB3.out.size) (w3.heap.size + 1) (sz_al _ _) ?_; intro gg cap' w4 hown4 hgrow4 hat4 hlt4; have HO4 := Lib.hid hown4; have HB4 := Lib.hid ((HB3.out.alloc HB3.out.size _).grown hgrow4 (le_al _ HB3.out.size) (fun q hq => (HO3.out.lt q hq).1)); clear hown4 hgrow4 hat4 hlt4; have z0 := (HB4.out.cell (p := ⟨w.heap.size + 1, 0, none⟩) HR1.out).trans Y0.out; have z1 := (HB4.out.cell (p := ⟨w.heap.size + 1, 1, none⟩) HR1.out).trans Y1.out; have g0 := (HB4.out.frozen (p := ⟨w.heap.size + 1, 0, none⟩) HR1.out).trans (F0.out 0); have g1 := (HB4.out.frozen (p := ⟨w.heap.size + 1, 1, none⟩) HR1.out).trans (F0.out 1)))
  all_goals
    (try go_wp2)
    have hgg := (HO4.out.lt gg rfl).1
    have hne1 : ∀ g, (Value.slice (some ⟨gg, 0, none⟩) (A.length + 1) cap').ownBlock = some g → g ≠ w.heap.size + 1 := fun g hg => by
      have h1 := (HO4.out.lt g hg).1; have h2 := HR1.out; omega
    have HOX := Lib.hid (show ((w4.setCell ⟨w.heap.size + 1, 0, none⟩ (.slice (some ⟨gg, 0, none⟩) (A.length + 1) cap')).setCell ⟨w.heap.size + 1, 1, none⟩ (.int .i64 ((c : Int) + k))).ownsRow w.heap.size 3 1 (.slice (some ⟨gg, 0, none⟩) (A.length + 1) cap') (A ++ [m]).length (ints (A ++ [m])) from
      own_base (own_keep (by rw [List.length_append, ints_snoc]; exact HO4.out) (fun g hg => by
        have := hne1 g hg
        rw [Below.heap_setCell _ _ _ _ this, Below.heap_setCell _ _ _ _ this])) (fun g hg => by have h1 := (HO4.out.lt g hg).1; have h2 := HR1.out; omega))
    have HBX := Lib.hid (show Below w.heap.size w ((w4.setCell ⟨w.heap.size + 1, 0, none⟩ (.slice (some ⟨gg, 0, none⟩) (A.length + 1) cap')).setCell ⟨w.heap.size + 1, 1, none⟩ (.int .i64 ((c : Int) + k))) from
      ((HB1.out.trans (HB4.out.mono (by have := HR1.out; omega))).setCell (p := ⟨w.heap.size + 1, 0, none⟩) (Nat.le_succ _) _).setCell (p := ⟨w.heap.size + 1, 1, none⟩) (Nat.le_succ _) _)
    refine bodyPost_ret (v := .agg #[.slice (some ⟨gg, 0, none⟩) (A.length + 1) cap', .int .i64 ((c : Int) + k)]) (by simp [results, Tryd.results36, go_sem, z0, z1]) rfl ⟨_, by rw [Int.natCast_add], HOX.out, ?_⟩
    exact ⟨HBX.out.os, HBX.out.tape, HBX.out.output, HBX.out.size, HBX.out.block⟩

end Go.Proofs.YtbddokfcohnndabDoor
