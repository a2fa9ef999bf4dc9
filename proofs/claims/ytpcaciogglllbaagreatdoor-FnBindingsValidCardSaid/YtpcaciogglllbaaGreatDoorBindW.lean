/-
  laws.szBindingS, eqBindingS, by their contracts.
-/
import Derived.Test.YtpcaciogglllbaaGreatDoorOwnB
import Derived.Test.YtpcaciogglllbaaGreatDoorBaseL
namespace Go.Proofs.YtpcaciogglllbaaGreatDoor
open Go.RowKit
set_option linter.unusedVariables false

theorem drewB (w : World) : Below w.heap.size w w.drew := ⟨rfl, rfl, rfl, Nat.le_refl _, fun _ _ => rfl⟩
def lenB (env : List Bd) : Nat := (env.map fun b => b.2.length).sum
theorem lenB_take (env : List Bd) (k : Nat) (h : k < env.length) : lenB (env.take (k + 1)) = lenB (env.take k) + env[k].2.length := by
  simp only [lenB]
  rw [List.take_succ_eq_append_getElem h, List.map_append, List.sum_append]
  simp
theorem lenB_le (env : List Bd) (k : Nat) : lenB (env.take k) ≤ lenB env := by
  simp only [lenB]
  conv => rhs; rw [← List.take_append_drop k env, List.map_append, List.sum_append]
  omega
theorem lenB_in (env : List Bd) (k : Nat) (h : k < env.length) : env[k].2.length ≤ lenB env := by
  have := lenB_take env k h
  have := lenB_le env (k + 1)
  omega
/-- What is left of n behind a binding. -/
def SzB1 (n : Int) (b : Bd) (e : Ending) : Prop :=
  ∃ q : Int, e = .returned (.int .i64 q) ∧ (0 ≤ q → q + (b.2.length : Int) ≤ n ∧ (b.1.size : Int) ≤ n ∧ ∀ c ∈ b.2, (c.2.1.size : Int) ≤ n)
/-- What is left of n behind bindings. -/
def SzB (n : Int) (env : List Bd) (e : Ending) : Prop :=
  ∃ m : Int, e = .returned (.int .i64 m) ∧ (0 ≤ m → m + ((env.length : Int) + (lenB env : Int)) ≤ n ∧ ∀ b ∈ env, (b.1.size : Int) ≤ n ∧ ∀ c ∈ b.2, (c.2.1.size : Int) ≤ n)

set_option maxRecDepth 100000 in
set_option maxHeartbeats 2000000 in
theorem szBinding_any (u : Value) (b : Bd) (n : Int) (w : World) (hr : RowC w u b.2) (hz : SizedC b.2) (hs : b.1.size ≤ maxLen) (hn0 : 0 ≤ n) (hn1 : n ≤ 1048576) :
    Calls Tryz.prog 40 #[.agg #[.string b.1, u], .int .i64 n] w fun e w' => SzB1 n b e ∧ Below w.heap.size w w' := by
  obtain ⟨nm, l⟩ := b
  simp only at hr hz hs ⊢
  unfold maxLen at hs
  have HB0 := Lib.hid ((Below.refl w.heap.size w).alloc (Nat.le_refl _) (.cells #[.string nm, u] 60))
  have HR := Lib.hid (hr.mono HB0.out); have HZ := Lib.hid hz
  obtain ⟨ao, cap, rfl, -⟩ := hr
  clear hz
  by_cases hl : (nm.size : Int) ≤ n
  · go_enter Tryz.func40, Tryz.ntmps40
    go_wp2_with fail
    refine (szCellS_left _ l (n - (nm.size : Int)) _ HR.out HZ.out (by omega) (by omega)).mono ?_
    rintro e w1 ⟨⟨q, rfl, hq⟩, hb1⟩
    have HB1 := Lib.hid (HB0.out.trans (hb1.mono HB0.out.size)); clear hb1
    by_cases h0 : 0 ≤ q
    · have HQ := Lib.hid (hq h0)
      clear hq
      go_wp2
      go_ret
      obtain ⟨q1, q2⟩ := HQ.out
      exact ⟨⟨q, rfl, fun _ => ⟨by show q + (l.length : Int) ≤ n; omega, hl, fun c hc => by have := q2 c hc; omega⟩⟩, HB1.out⟩
    · clear hq
      go_wp2
      go_ret
      exact ⟨⟨-1, rfl, by omega⟩, HB1.out⟩
  · go_enter Tryz.func40, Tryz.ntmps40
    go_wp2
    go_ret
    exact ⟨⟨-1, rfl, by omega⟩, HB0.out⟩

set_option maxRecDepth 100000 in
set_option maxHeartbeats 2000000 in
theorem szBindingS_any (v : Value) (env : List Bd) (n : Int) (w : World) (hr : RowB w v env) (hz : ∀ b ∈ env, b.1.size ≤ maxLen ∧ SizedC b.2) (hn0 : 0 ≤ n) (hn1 : n ≤ 1048576) :
    Calls Tryz.prog 13 #[v, .int .i64 n] w fun e w' => SzB n env e ∧ Below w.heap.size w w' := by
  obtain ⟨ao, cap, rfl, h1, h2, h3⟩ := hr
  unfold maxLen at h2
  have H3 := Lib.hid h3; have HZ := Lib.hid hz; clear h3 hz
  by_cases hl : (env.length : Int) ≤ n
  · go_enter Tryz.func13, Tryz.ntmps13
    go_wp2
    go_loopw [1, 5] (fun a i wr => ∃ (k : Nat) (m : Int), k ≤ env.length ∧ i = .int .i64 k ∧ a = .int .i64 m ∧ 0 ≤ m ∧ m + ((env.length : Int) + (lenB (env.take k) : Int)) ≤ n ∧ (∀ b ∈ env.take k, (b.1.size : Int) ≤ n ∧ ∀ c ∈ b.2, (c.2.1.size : Int) ≤ n) ∧ Below w.heap.size w wr) (fun _ i _ => env.length - (intOf i).toNat)
    case atStart => exact ⟨0, _, Nat.zero_le _, rfl, rfl, by omega, by simp [lenB], fun c hc => by simp at hc, Below.refl _ _⟩
    case round =>
      obtain ⟨k, m, hk, rfl, rfl, hm0, hm1, hall, hb⟩ := hrel
      have HA := Lib.hid hall; have HB := Lib.hid hb; clear hall hb
      by_cases hlt : k < env.length
      · obtain ⟨b, o, rfl, hbl, cc⟩ := H3.out.resolve_left (by rintro rfl; simp at hlt)
        obtain ⟨u, c0, c1, hru⟩ := cc k hlt
        have d0 := (HB.out.cell (p := ⟨b, _, none⟩) hbl).trans c0
        have d1 := (HB.out.cell (p := ⟨b, _, none⟩) hbl).trans c1
        obtain ⟨hs, hzk⟩ := HZ.out _ (List.getElem_mem hlt)
        have HC := Lib.hid (szBinding_any u env[k] m wr (hru.mono HB.out) hzk hs hm0 (by omega))
        have HTK := Lib.hid (lenB_take env k hlt)
        have HNX := Lib.hid (show ((env[k].1.size : Int) ≤ n ∧ ∀ c ∈ env[k].2, (c.2.1.size : Int) ≤ n) → ∀ b ∈ env.take (k + 1), (b.1.size : Int) ≤ n ∧ ∀ c ∈ b.2, (c.2.1.size : Int) ≤ n by
          intro h l hc
          rw [List.take_succ_eq_append_getElem hlt, List.mem_append] at hc
          rcases hc with hc | hc
          · exact HA.out l hc
          · rw [List.mem_singleton] at hc; rw [hc]; exact h)
        clear cc c0 c1 hru hzk hs
        have hmn : m ≤ 1048576 := by omega
        have hmn2 : m ≤ n := by omega
        go_wp2_with fail
        refine HC.out.mono ?_
        rintro e w1 ⟨⟨q, rfl, hq⟩, hb1⟩
        have HB1 := Lib.hid (HB.out.trans (hb1.mono HB.out.size)); clear hb1
        by_cases hr : 0 ≤ q
        · obtain ⟨q1, q2, q3⟩ := hq hr
          have HN := Lib.hid (HNX.out ⟨by omega, fun c hc => by have := q3 c hc; omega⟩)
          have hq3 := HTK.out
          clear q2 q3 hq
          go_wp2
          go_roundw
          case rel => exact ⟨k + 1, q, by omega, by go_num, rfl, hr, by omega, HN.out, HB1.out⟩
          case measure => simp [intOf]; omega
        · clear hq
          go_wp2
          go_ret
          exact ⟨⟨-1, rfl, by omega⟩, HB1.out⟩
      · obtain rfl : k = env.length := by omega
        have HAL := Lib.hid (show ∀ b ∈ env, (b.1.size : Int) ≤ n ∧ ∀ c ∈ b.2, (c.2.1.size : Int) ≤ n by have := HA.out; rwa [List.take_of_length_le (Nat.le_refl _)] at this)
        rw [List.take_of_length_le (Nat.le_refl _)] at hm1
        go_wp2
        go_ret
        exact ⟨⟨m, rfl, fun _ => ⟨by omega, HAL.out⟩⟩, HB.out⟩
  · go_enter Tryz.func13, Tryz.ntmps13
    go_wp2
    go_ret
    exact ⟨⟨-1, rfl, by omega⟩, Below.refl _ _⟩

set_option maxRecDepth 100000 in
set_option maxHeartbeats 2000000 in
theorem eqBinding_same (s : ByteArray) (u1 u2 : Value) (l : List Cl) (w : World) (h1 : RowC w u1 l) (h2 : RowC w u2 l) :
    Calls Tryz.prog 48 #[.agg #[.string s, u1], .agg #[.string s, u2]] w fun e w' => e = .returned (.bool true) ∧ Below w.heap.size w w' := by
  have HB0 := Lib.hid (((Below.refl w.heap.size w).alloc (Nat.le_refl _) (.cells #[.string s, u1] 46)).alloc (by simp) (.cells #[.string s, u2] 46))
  have HC := Lib.hid (eqCellS_same u1 u2 l _ (h1.mono HB0.out) (h2.mono HB0.out))
  obtain ⟨a1, c1, rfl, -⟩ := h1
  obtain ⟨a2, c2, rfl, -⟩ := h2
  have ht : (s.toList == s.toList) = true := by simp
  go_enter Tryz.func48, Tryz.ntmps48
  go_wp2_with fail
  refine HC.out.mono ?_
  rintro e w1 ⟨rfl, hb1⟩
  have HB1 := Lib.hid (HB0.out.trans (hb1.mono HB0.out.size)); clear hb1
  go_wp2
  go_ret
  exact ⟨rfl, HB1.out⟩

set_option maxRecDepth 100000 in
set_option maxHeartbeats 4000000 in
theorem eqBindingS_same (v1 v2 : Value) (env : List Bd) (w : World) (h1 : RowB w v1 env) (h2 : RowB w v2 env) :
    Calls Tryz.prog 19 #[v1, v2] w fun e w' => e = .returned (.bool true) ∧ Below w.heap.size w w' := by
  obtain ⟨a1, c1, rfl, l1, m1, r1⟩ := h1
  obtain ⟨a2, c2, rfl, l2, m2, r2⟩ := h2
  unfold maxLen at m1 m2
  have R1 := Lib.hid r1; have R2 := Lib.hid r2
  clear r1 r2
  go_enter Tryz.func19, Tryz.ntmps19
  go_wp2
  go_loopw [5] (fun i wr => ∃ k : Nat, k ≤ env.length ∧ i = .int .i64 (k : Int) ∧ Below w.heap.size w wr) (fun i _ => env.length - (intOf i).toNat)
  case atStart => exact ⟨0, Nat.zero_le _, rfl, Below.refl _ _⟩
  case round =>
    obtain ⟨k, hk, rfl, hb⟩ := hrel
    have HB := Lib.hid hb; clear hb
    by_cases hlt : k < env.length
    · obtain ⟨b1, o1, rfl, lt1, cc1⟩ := R1.out.resolve_left (by rintro rfl; simp at hlt)
      obtain ⟨b2, o2, rfl, lt2, cc2⟩ := R2.out.resolve_left (by rintro rfl; simp at hlt)
      obtain ⟨u1, p1, p1', x1⟩ := cc1 k hlt
      obtain ⟨u2, p2, p2', x2⟩ := cc2 k hlt
      have d1 := (HB.out.cell (p := ⟨b1, _, none⟩) lt1).trans p1
      have d2 := (HB.out.cell (p := ⟨b2, _, none⟩) lt2).trans p2
      have d3 := (HB.out.cell (p := ⟨b1, _, none⟩) lt1).trans p1'
      have d4 := (HB.out.cell (p := ⟨b2, _, none⟩) lt2).trans p2'
      have X1 := Lib.hid (x1.mono HB.out); have X2 := Lib.hid (x2.mono HB.out)
      clear cc1 cc2 p1 p2 p1' p2' x1 x2
      have bk0 : (0 : Int) ≤ (k : Int) := by omega
      have bk1 : (k : Int) < (env.length : Int) := by omega
      generalize env[k].1 = nk at d1 d2
      generalize env[k].2 = lk at X1 X2
      go_wp2_with fail
      go_region_with ((go_at_call 48; refine (eqBinding_same _ _ _ lk _ (X1.out.mono (drewB wr)) (X2.out.mono (drewB wr))).mono ?_; rintro e w1 ⟨rfl, hb1⟩))
      all_goals
        have HB2 := Lib.hid (HB.out.trans (((drewB wr).trans hb1).mono HB.out.size))
        clear hb1
        (try go_wp2)
        go_roundw
        case rel => exact ⟨k + 1, by omega, by go_num, HB2.out⟩
        case measure => simp [intOf]; omega
    · obtain rfl : k = env.length := by omega
      go_wp2
      go_ret
      exact ⟨rfl, HB.out⟩

end Go.Proofs.YtpcaciogglllbaaGreatDoor
