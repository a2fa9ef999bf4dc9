/- Part of the proof of FnExactEvaluate. -/
import Derived.Test.YtpcaciogglllbaaGreatDoorQEvaI
import Derived.Test.YtpcaciogglllbaaGreatDoorQBi
import Derived.Test.YtpcaciogglllbaaGreatDoorQBaseL
namespace Go.Proofs.YtpcaciogglllbaaGreatDoor
open Go.RowKit
set_option linter.unusedVariables false

theorem own_belowE {w w1 : World} {base : Nat} {e : TypeId} {size n : Nat} {v : Value} {xs : List Value} (h : w.ownsRow base e size v n xs) (hb : Below w.heap.size w w1) : w1.ownsRow base e size v n xs :=
  h.kept (row := none) ⟨hb.os, hb.tape, hb.output, hb.size, fun i hi _ => hb.block i hi⟩ (by cases hv : v.ownBlock with | none => exact .inl rfl | some x => exact .inr (by simp))
theorem own_keepE {w w' : World} {base : Nat} {e : TypeId} {size n : Nat} {v : Value} {xs : List Value} (h : w.ownsRow base e size v n xs) (hw : ∀ g, v.ownBlock = some g → w'.heap[g]? = w.heap[g]?) : w'.ownsRow base e size v n xs := own_keep h hw
theorem evalR_len (l : List Cl) (env : List Bd) : ((evalV l env).getD []).length ≤ 60 := by
  cases h : evalV l env with
  | none => simp
  | some v => exact ((okV_iff v).mp (evalV_ok h).1).1
theorem short_of {env : List Bd} {n : Int} (hn : n ≤ 1048576) (hl : ∀ b ∈ env, (b.1.size : Int) ≤ n ∧ ∀ c ∈ b.2, (c.2.1.size : Int) ≤ n) (hs : (lenB env : Int) ≤ n) : ShortB env := by
  intro b hb
  obtain ⟨h1, h2⟩ := hl b hb
  obtain ⟨k, hk, rfl⟩ := List.mem_iff_getElem.mp hb
  have := lenB_in env k hk
  exact ⟨by omega, fun c hc => by have := h2 c hc; omega, by omega⟩

set_option maxRecDepth 100000 in
set_option maxHeartbeats 8000000 in
theorem fnExactEvaluate_core (a0 : Option Addr) (len0 cap0 : Nat) (l : List Cl) (a1 : Option Addr) (len1 cap1 : Nat) (env : List Bd) (w : World) (hrow : ArgRow w a0 len0 cap0 l) (hrowb : ArgBs w a1 len1 cap1 env) (htab : Tab w) :
    Calls Tryz.prog 3 #[.slice a0 len0 cap0, .slice a1 len1 cap1] w fun e w' => e = .returned (.bool true) ∧ Below w.heap.size w w' := by
  obtain ⟨hlen, hr, hz⟩ := hrow
  obtain ⟨hlen1, hrb, hzb⟩ := hrowb
  have HR := Lib.hid hr; have HZ := Lib.hid hz; have HRB := Lib.hid hrb; have HZB := Lib.hid hzb; have HT := Lib.hid htab
  clear hr hz hrb hzb htab
  go_enter Tryz.func3, Tryz.ntmps3
  go_wp2_with fail
  refine (szCellS_left _ l 1048576 _ HR.out HZ.out (by omega) (by omega)).mono ?_
  rintro e w1 ⟨⟨m, rfl, hm⟩, hb1⟩
  have HB1 := Lib.hid hb1; clear hb1
  by_cases hm0 : 0 ≤ m
  case neg =>
    clear hm
    go_wp2
    go_ret
    exact ⟨rfl, HB1.out⟩
  obtain ⟨hl, hsh⟩ := hm hm0
  have HSH := Lib.hid (show ShortC l from fun c hc => by have := hsh c hc; omega)
  have hl' : l.length ≤ 1048576 := by omega
  have hm1 : m ≤ 1048576 := by omega
  clear hm hsh
  go_wp2_with fail
  refine (szBindingS_any _ env m _ (HRB.out.mono HB1.out) HZB.out hm0 hm1).mono ?_
  rintro e w2 ⟨⟨m2, rfl, hm⟩, hb2⟩
  have HB_2 := Lib.hid (HB1.out.trans (hb2.mono HB1.out.size)); clear hb2
  by_cases hm2 : 0 ≤ m2
  case neg =>
    clear hm
    go_wp2
    go_ret
    exact ⟨rfl, HB_2.out⟩
  obtain ⟨hlb, hshb⟩ := hm hm2
  have HSB := Lib.hid (short_of (n := m) hm1 hshb (by omega))
  have hlb1 : env.length ≤ 1048576 := by omega
  have hlb2 : lenB env ≤ 1048576 := by omega
  clear hm hshb hlb
  have HLL := Lib.hid (show ∀ b ∈ env, b.2.length ≤ 1048576 from fun b hb => (HSB.out b hb).2.2)
  have HES := Lib.hid (fun v ev w' hr hrb => evaluate_spec v ev l env w' hr hrb HSH.out hl' HSB.out)
  have HEI := Lib.hid (fun v ev w' hr hrb ht => evaluate_impl v ev l env w' hr hrb HZ.out HSB.out ht)
  have HR60 := Lib.hid (evalR_len l env)
  generalize (evalV l env).getD [] = R at HES HEI HR60
  generalize (evalV l env).isSome = ok at HES HEI
  have hR60 := HR60.out
  have hok : (ok != ok) = false := by simp
  clear HR60
  go_wp2_with fail
  refine (toCellS_any _ l _ (HR.out.mono HB_2.out) hl').mono ?_
  rintro e w3 ⟨v3, rfl, ho3, hb3⟩
  have A3 := Lib.hid (RowC.of_own ho3).1; clear ho3
  have HB_3 := Lib.hid (HB_2.out.trans (hb3.mono HB_2.out.size))
  clear hb3
  clear HB_2
  have A_3 := A3; clear A3
  go_wp2_with fail
  refine (toBindingS_any _ env _ (HRB.out.mono HB_3.out) hlb1 HLL.out).mono ?_
  rintro e w4 ⟨v4, us4, rfl, ho4, hb4⟩
  have HB_4 := Lib.hid (HB_3.out.trans (hb4.mono HB_3.out.size))
  have A_4 := Lib.hid (A_3.out.mono hb4)
  clear hb4
  clear HB_3 A_3
  have B_4 := Lib.hid ho4.reads; clear ho4
  go_wp2_with fail
  refine (HES.out v3 v4 _ A_4.out B_4.out).mono ?_
  rintro e w5 ⟨v5, rfl, ho5, hb5⟩
  clear A_4 B_4
  have HB_5 := Lib.hid (HB_4.out.trans (hb5.mono HB_4.out.size))
  clear hb5
  clear HB_4
  have W_5 := Lib.hid (RowC.of_own ho5).1; have HW := W_5; have HB5S := Lib.hid HB_5.out.size; clear ho5 HES
  have X_5 := Lib.hid (Below.refl w5.heap.size w5)
  go_wp2_with fail
  refine (toCellS_any _ l _ (HR.out.mono HB_5.out) hl').mono ?_
  rintro e w6 ⟨v6, rfl, ho6, hb6⟩
  have HB_6 := Lib.hid (HB_5.out.trans (hb6.mono HB_5.out.size))
  have W_6 := Lib.hid (W_5.out.mono hb6)
  have X_6 := Lib.hid (X_5.out.trans (hb6.mono X_5.out.size))
  clear hb6
  clear HB_5 W_5 X_5
  have C_6 := Lib.hid ho6; have HC6 := C_6; clear ho6
  have h65 : w5.heap.size ≤ w6.heap.size := X_6.out.size
  have Y_6 := Lib.hid (Below.refl w6.heap.size w6)
  go_wp2_with fail
  refine (toBindingS_any _ env _ (HRB.out.mono HB_6.out) hlb1 HLL.out).mono ?_
  rintro e w7 ⟨v7, us7, rfl, ho7, hb7⟩
  have HB_7 := Lib.hid (HB_6.out.trans (hb7.mono HB_6.out.size))
  have W_7 := Lib.hid (W_6.out.mono hb7)
  have X_7 := Lib.hid (X_6.out.trans (hb7.mono X_6.out.size))
  have C_7 := Lib.hid (own_belowE C_6.out hb7)
  have Y_7 := Lib.hid (Y_6.out.trans (hb7.mono Y_6.out.size))
  clear hb7
  clear HB_6 W_6 X_6 C_6 Y_6
  have D_7 := Lib.hid ho7; clear ho7
  have h76 : w6.heap.size ≤ w7.heap.size := Y_7.out.size
  have HC7 := C_7; have HD7 := D_7
  have Z_7 := Lib.hid (Below.refl w7.heap.size w7)
  go_wp2_with fail
  refine (HEI.out v6 v7 _ (RowC.of_own C_7.out).1 D_7.out.reads (HT.out.keep HB_7.out)).mono ?_
  rintro e w8 ⟨v8, rfl, ho8, hb8⟩
  have HB_8 := Lib.hid (HB_7.out.trans (hb8.mono HB_7.out.size))
  have W_8 := Lib.hid (W_7.out.mono hb8)
  have X_8 := Lib.hid (X_7.out.trans (hb8.mono X_7.out.size))
  have C_8 := Lib.hid (own_belowE C_7.out hb8)
  have Y_8 := Lib.hid (Y_7.out.trans (hb8.mono Y_7.out.size))
  have D_8 := Lib.hid (D_7.out.below hb8)
  have Z_8 := Lib.hid (Z_7.out.trans (hb8.mono Z_7.out.size))
  clear hb8
  clear HB_7 W_7 X_7 C_7 Y_7 D_7 Z_7
  have G_8 := Lib.hid ho8; clear ho8
  go_wp2_with fail
  refine (eqCellS_same v8 v5 R _ (RowC.of_own G_8.out).1 W_8.out).mono ?_
  rintro e w9 ⟨rfl, hb9⟩
  have HB_9 := Lib.hid (HB_8.out.trans (hb9.mono HB_8.out.size))
  have W_9 := Lib.hid (W_8.out.mono hb9)
  have X_9 := Lib.hid (X_8.out.trans (hb9.mono X_8.out.size))
  have C_9 := Lib.hid (own_belowE C_8.out hb9)
  have Y_9 := Lib.hid (Y_8.out.trans (hb9.mono Y_8.out.size))
  have D_9 := Lib.hid (D_8.out.below hb9)
  have Z_9 := Lib.hid (Z_8.out.trans (hb9.mono Z_8.out.size))
  have G_9 := Lib.hid (own_belowE G_8.out hb9)
  clear hb9
  clear HB_8 W_8 X_8 C_8 Y_8 D_8 Z_8 G_8
  go_wp2_with fail
  refine (toCellS_any _ l _ (HR.out.mono HB_9.out) hl').mono ?_
  rintro e w10 ⟨v10, rfl, ho10, hb10⟩
  have HB_10 := Lib.hid (HB_9.out.trans (hb10.mono HB_9.out.size))
  have W_10 := Lib.hid (W_9.out.mono hb10)
  have X_10 := Lib.hid (X_9.out.trans (hb10.mono X_9.out.size))
  have C_10 := Lib.hid (own_belowE C_9.out hb10)
  have Y_10 := Lib.hid (Y_9.out.trans (hb10.mono Y_9.out.size))
  have D_10 := Lib.hid (D_9.out.below hb10)
  have Z_10 := Lib.hid (Z_9.out.trans (hb10.mono Z_9.out.size))
  have G_10 := Lib.hid (own_belowE G_9.out hb10)
  clear hb10
  clear HB_9 W_9 X_9 C_9 Y_9 D_9 Z_9 G_9
  have R10 := Lib.hid (RowC.of_own ho10).1; clear ho10
  go_wp2_with fail
  refine (eqCellS_same v6 v10 l _ (RowC.of_own C_10.out).1 R10.out).mono ?_
  rintro e w11 ⟨rfl, hb11⟩
  have HB_11 := Lib.hid (HB_10.out.trans (hb11.mono HB_10.out.size))
  have W_11 := Lib.hid (W_10.out.mono hb11)
  have X_11 := Lib.hid (X_10.out.trans (hb11.mono X_10.out.size))
  have C_11 := Lib.hid (own_belowE C_10.out hb11)
  have Y_11 := Lib.hid (Y_10.out.trans (hb11.mono Y_10.out.size))
  have D_11 := Lib.hid (D_10.out.below hb11)
  have Z_11 := Lib.hid (Z_10.out.trans (hb11.mono Z_10.out.size))
  have G_11 := Lib.hid (own_belowE G_10.out hb11)
  clear hb11
  clear HB_10 W_10 X_10 C_10 Y_10 D_10 Z_10 G_10
  clear R10
  go_wp2_with fail
  refine (toBindingS_any _ env _ (HRB.out.mono HB_11.out) hlb1 HLL.out).mono ?_
  rintro e w12 ⟨v12, us12, rfl, ho12, hb12⟩
  have HB_12 := Lib.hid (HB_11.out.trans (hb12.mono HB_11.out.size))
  have W_12 := Lib.hid (W_11.out.mono hb12)
  have X_12 := Lib.hid (X_11.out.trans (hb12.mono X_11.out.size))
  have C_12 := Lib.hid (own_belowE C_11.out hb12)
  have Y_12 := Lib.hid (Y_11.out.trans (hb12.mono Y_11.out.size))
  have D_12 := Lib.hid (D_11.out.below hb12)
  have Z_12 := Lib.hid (Z_11.out.trans (hb12.mono Z_11.out.size))
  have G_12 := Lib.hid (own_belowE G_11.out hb12)
  clear hb12
  clear HB_11 W_11 X_11 C_11 Y_11 D_11 Z_11 G_11
  have R12 := Lib.hid ho12.reads; clear ho12
  go_wp2_with fail
  refine (eqBindingS_same v7 v12 env _ D_12.out.reads R12.out).mono ?_
  rintro e w13 ⟨rfl, hb13⟩
  have HB_13 := Lib.hid (HB_12.out.trans (hb13.mono HB_12.out.size))
  have W_13 := Lib.hid (W_12.out.mono hb13)
  have X_13 := Lib.hid (X_12.out.trans (hb13.mono X_12.out.size))
  have C_13 := Lib.hid (own_belowE C_12.out hb13)
  have Y_13 := Lib.hid (Y_12.out.trans (hb13.mono Y_12.out.size))
  have D_13 := Lib.hid (D_12.out.below hb13)
  have Z_13 := Lib.hid (Z_12.out.trans (hb13.mono Z_12.out.size))
  have G_13 := Lib.hid (own_belowE G_12.out hb13)
  clear hb13
  clear HB_12 W_12 X_12 C_12 Y_12 D_12 Z_12 G_12
  clear R12
  go_wp2_with fail
  refine (markCellS_full _ 1 v6 l _ (by omega) hl' C_13.out).mono ?_
  rintro e w14 ⟨rfl, -, hg14⟩
  have HB_14 := Lib.hid (HB_13.out.grown hg14 HB_13.out.size (fun q hq => by have h1 := (C_13.out.lt q hq).1; have := HB5S.out; omega))
  have X_14 := Lib.hid (X_13.out.grown hg14 X_13.out.size (fun q hq => (C_13.out.lt q hq).1))
  have D_14 := Lib.hid (D_13.out.keep (fun b hb hl => hg14.block b hl (fun he => by have h1 := (HC7.out.lt b he.symm).2; have h2 := (HC6.out.lt b he.symm).2; omega)))
  have G_14 := Lib.hid (own_keepE G_13.out (fun g hg => hg14.block g (G_13.out.lt g hg).2 (fun he => by have h1 := (HC7.out.lt g he.symm).2; have h2 := (G_13.out.lt g hg).1; omega)))
  have hs14 := hg14.size
  clear hg14
  have k14 : 1 + l.length * 3 ≤ 10000000 := by omega
  generalize hn14 : 1 + l.length * 3 = n14 at k14 ⊢
  have hn14' : (0 : Int) ≤ (n14 : Int) := by omega
  clear hn14
  go_wp2_with fail
  refine (markBindingS_any w6.heap.size n14 v7 us7 env _ k14 hlb2 hlb1 (by have := Y_13.out.size; omega) D_14.out).mono ?_
  rintro e w15 ⟨rfl, -, hf15⟩
  have HB_15 := Lib.hid (HB_14.out.trans (hf15.below.mono (by have := HB5S.out; omega)))
  have X_15 := Lib.hid (X_14.out.trans (hf15.below.mono h65))
  have G_15 := Lib.hid (own_keepE G_14.out (fun g hg => hf15.rest g (G_14.out.lt g hg).2 (fun he => by have h1 := (HD7.out.row.lt g he).2; have h2 := (G_14.out.lt g hg).1; omega) (fun u hu he => by
    obtain ⟨j, hj, rfl⟩ := List.mem_iff_getElem.mp hu
    have h1 := ((HD7.out.each j hj (by rw [← HD7.out.len]; exact hj)).lt g he).2; have h2 := (G_14.out.lt g hg).1; omega)))
  have W_15 := Lib.hid (HW.out.mono X_15.out)
  clear hf15 HB_14 X_14 D_14 G_14 HB_13 X_13 W_13 C_13 Y_13 D_13 Z_13 G_13
  have hk15 : (0 : Int) ≤ ((n14 + env.length + lenB env * 3 : Nat) : Int) := by omega
  generalize ((n14 + env.length + lenB env * 3 : Nat) : Int) = n15 at hk15 ⊢
  go_wp2_with fail
  refine (eqCellS_same v8 v5 R _ (RowC.of_own G_15.out).1 W_15.out).mono ?_
  rintro e w16 ⟨rfl, hb16⟩
  have HB_16 := Lib.hid (HB_15.out.trans (hb16.mono HB_15.out.size))
  have W_16 := Lib.hid (W_15.out.mono hb16)
  have X_16 := Lib.hid (X_15.out.trans (hb16.mono X_15.out.size))
  have G_16 := Lib.hid (own_belowE G_15.out hb16)
  clear hb16
  clear HB_15 W_15 X_15 G_15
  go_wp2_with fail
  refine (markCellS_full _ 1 v8 R _ (by omega) (by omega) G_16.out).mono ?_
  rintro e w17 ⟨rfl, ho17, hg17⟩
  have HB_17 := Lib.hid (HB_16.out.grown hg17 HB_16.out.size (fun q hq => by have h1 := (G_16.out.lt q hq).1; have := HB5S.out; omega))
  have X_17 := Lib.hid (X_16.out.grown hg17 X_16.out.size (fun q hq => by have h1 := (G_16.out.lt q hq).1; omega))
  have M_17 := Lib.hid (RowC.of_own (show w17.ownsRow w7.heap.size 44 3 v8 (marksC 1 R.length).length (flatC (marksC 1 R.length)) by rw [marksC_length]; exact ho17)).1
  clear hg17 ho17 HB_16 X_16 G_16 W_16
  generalize hnq : ((1 + R.length * 3 : Nat) : Int) = nq
  have hnq0 : 0 ≤ nq := by omega
  have hnn : (nq != nq) = false := by simp
  have HNQ := Lib.hid hnq; clear hnq
  go_wp2_with fail
  refine (heldCellS_any 1 R.length v8 _ (by omega) (by omega) M_17.out).mono ?_
  rintro e w18 ⟨rfl, hb18⟩
  rw [HNQ.out]
  have HB_18 := Lib.hid (HB_17.out.trans (hb18.mono HB_17.out.size))
  have X_18 := Lib.hid (X_17.out.trans (hb18.mono X_17.out.size))
  have M_18 := Lib.hid (M_17.out.mono hb18)
  clear hb18
  clear HB_17 X_17 M_17
  go_wp2_with fail
  refine (toCellS_any _ l _ (HR.out.mono HB_18.out) hl').mono ?_
  rintro e w19 ⟨v19, rfl, ho19, hb19⟩
  have HB_19 := Lib.hid (HB_18.out.trans (hb19.mono HB_18.out.size))
  have X_19 := Lib.hid (X_18.out.trans (hb19.mono X_18.out.size))
  have M_19 := Lib.hid (M_18.out.mono hb19)
  clear hb19
  clear HB_18 X_18 M_18
  have A_19 := Lib.hid (RowC.of_own ho19).1; clear ho19
  go_wp2_with fail
  refine (toBindingS_any _ env _ (HRB.out.mono HB_19.out) hlb1 HLL.out).mono ?_
  rintro e w20 ⟨v20, us20, rfl, ho20, hb20⟩
  have HB_20 := Lib.hid (HB_19.out.trans (hb20.mono HB_19.out.size))
  have X_20 := Lib.hid (X_19.out.trans (hb20.mono X_19.out.size))
  have M_20 := Lib.hid (M_19.out.mono hb20)
  have A_20 := Lib.hid (A_19.out.mono hb20)
  clear hb20
  clear HB_19 X_19 M_19 A_19
  have B_20 := Lib.hid ho20.reads; clear ho20
  go_wp2_with fail
  refine (HEI.out v19 v20 _ A_20.out B_20.out (HT.out.keep HB_20.out)).mono ?_
  rintro e w21 ⟨v21, rfl, ho21, hb21⟩
  clear A_20 B_20
  have HB_21 := Lib.hid (HB_20.out.trans (hb21.mono HB_20.out.size))
  have X_21 := Lib.hid (X_20.out.trans (hb21.mono X_20.out.size))
  have M_21 := Lib.hid (M_20.out.mono hb21)
  clear hb21
  clear HB_20 X_20 M_20
  have N21 := Lib.hid (RowC.of_own ho21).1; clear ho21
  go_wp2_with fail
  refine (eqCellS_same v21 v5 R _ N21.out (HW.out.mono X_21.out)).mono ?_
  rintro e w22 ⟨rfl, hb22⟩
  have HB_22 := Lib.hid (HB_21.out.trans (hb22.mono HB_21.out.size))
  have X_22 := Lib.hid (X_21.out.trans (hb22.mono X_21.out.size))
  have M_22 := Lib.hid (M_21.out.mono hb22)
  clear hb22
  clear HB_21 X_21 M_21
  clear N21
  go_wp2_with fail
  refine (heldCellS_any 1 R.length v8 _ (by omega) (by omega) M_22.out).mono ?_
  rintro e w23 ⟨rfl, hb23⟩
  rw [HNQ.out]
  have HB_23 := Lib.hid (HB_22.out.trans (hb23.mono HB_22.out.size))
  have X_23 := Lib.hid (X_22.out.trans (hb23.mono X_22.out.size))
  have M_23 := Lib.hid (M_22.out.mono hb23)
  clear hb23
  clear HB_22 X_22 M_22
  go_wp2
  go_ret
  exact ⟨rfl, HB_23.out⟩

end Go.Proofs.YtpcaciogglllbaaGreatDoor
