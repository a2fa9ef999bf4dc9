/-
  spec.DepthsOf, by its contract.
-/
import Derived.Test.YtbmobgahokehmaaGreatDoorDocS
import Derived.Test.YtbmobgahokehmaaGreatDoorDepI
namespace Go.Proofs.YtbmobgahokehmaaGreatDoor
open Go.RowKit
set_option linter.unusedVariables false

theorem dep_nat {l : List It} (h : nestO 0 l = some 0) : intsZ (depL 0 l) = ints (dps 0 l) := by
  have hl := depL_length l 0
  apply List.ext_getElem?
  intro k
  by_cases hk : k < l.length
  · have h1 := dep_in h (by omega) (by omega) k hk
    have h2 := depL_at l 0 k hk
    have e1 : (intsZ (depL 0 l))[k]? = some (.int .i64 ((depL 0 l)[k]'(by omega))) := by simp [intsZ, hl, hk]
    have e2 : (ints (dps 0 l))[k]? = some (.int .i64 ((((depL 0 l)[k]'(by omega)).toNat : Nat) : Int)) := by simp [ints, dps, hl, hk]
    rw [e1, e2, h2, Int.toNat_of_nonneg h1.1]
  · rw [List.getElem?_eq_none (by rw [intsZ_length, hl]; omega), List.getElem?_eq_none (by rw [ints_length, dps_length]; omega)]

set_option maxRecDepth 100000 in
set_option maxHeartbeats 4000000 in
theorem depthsOf_spec (v : Value) (l : List It) (w : World) (hr : RowIt w v l) (hz : ShortI l) (hl : l.length ≤ 1048576) :
    Calls Tryz.prog 21 #[v] w (NewInts (dpD l) w) := by
  have HC := Lib.hid (documentValid_spec v l w hr hz hl)
  have HR := Lib.hid hr
  obtain ⟨ao, cap, rfl, h1, h2, h3⟩ := hr
  clear h3 hz
  cases hok : docB l with
  | true =>
    have hn := ((docB_iff l).mp hok).2.2
    have HD := Lib.hid (show dpD l = dps 0 l by unfold dpD; rw [if_pos hok])
    rw [HD.out]
    have HN := Lib.hid hn; clear hn
    go_enter Tryz.func21, Tryz.ntmps21
    go_wp2_with fail
    refine HC.out.mono ?_
    rintro e w1 ⟨rfl, hb1⟩
    have HB1 := Lib.hid hb1; clear hb1
    rw [hok]
    go_wp2_with fail
    refine (l11Nest_any _ l _ (HR.out.mono HB1.out) hl).mono ?_
    rintro e w2 ⟨vv, d, L, rfl, ho, hb2, hn⟩
    have HF := Lib.hid (show w2.ownsRow w.heap.size 3 1 vv (dps 0 l).length (ints (dps 0 l)) by
      rcases hn with ⟨-, rfl⟩ | ⟨h, -⟩
      · rw [depL_length, dep_nat HN.out] at ho
        rw [dps_length]
        exact own_base ho (fun g hg => by have := (ho.lt g hg).1; have := HB1.out.size; omega)
      · rw [HN.out] at h; cases h)
    have HB2 := Lib.hid (HB1.out.trans (hb2.mono HB1.out.size))
    clear ho hb2 hn
    go_wp2
    go_ret
    exact ⟨_, rfl, HF.out, HB2.out⟩
  | false =>
    have HD := Lib.hid (show dpD l = [] by unfold dpD; rw [if_neg (by rw [hok]; simp)])
    rw [HD.out]
    go_enter Tryz.func21, Tryz.ntmps21
    go_wp2_with fail
    refine HC.out.mono ?_
    rintro e w1 ⟨rfl, hb1⟩
    have HB1 := Lib.hid hb1; clear hb1
    rw [hok]
    go_wp2
    go_ret
    exact ⟨_, rfl, World.ownsRow_lit _ _ 0 HB1.out.size (by unfold maxLen; omega) rfl, HB1.out.alloc HB1.out.size _⟩

end Go.Proofs.YtbmobgahokehmaaGreatDoor
