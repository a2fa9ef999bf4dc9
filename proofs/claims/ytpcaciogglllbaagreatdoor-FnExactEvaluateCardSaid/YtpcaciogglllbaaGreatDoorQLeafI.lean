/- Part of the proof of FnExactEvaluate. -/
import Derived.Test.YtpcaciogglllbaaGreatDoorQResI
namespace Go.Proofs.YtpcaciogglllbaaGreatDoor
open Go.RowKit
set_option linter.unusedVariables false

set_option maxRecDepth 100000 in
set_option maxHeartbeats 4000000 in
theorem leaf_num {S : Nat → Prop} (N b o sn scp f : Nat) (s : ByteArray) (w : World) (n0 : w.cell? ⟨N, 0, none⟩ = some (.int .i64 (f : Int))) (hf : f < sn) (h60 : sn ≤ 60) (hsc : sn ≤ scp) (hcm : scp ≤ maxLen) (c0 : w.cell? ⟨b, o + f * 3, none⟩ = some (.int .i64 1)) (c1 : w.cell? ⟨b, o + f * 3 + 1, none⟩ = some (.string s)) (c2 : w.cell? ⟨b, o + f * 3 + 2, none⟩ = some (.int .i64 0)) (htab : Tab w) (hrd : rdOK s = true) (hss : s.size ≤ 60) (hok : okV [(1, s, 0)] = true) :
    Calls Tryz.prog 107 #[.slice (some ⟨b, o, none⟩) sn scp, .pointer (some ⟨N, 0, none⟩)] w (Res S (some [(1, s, 0)]) w) := by
  have HT := Lib.hid htab
  have hfI : (f : Int) < (sn : Int) := by omega
  have hf0 : (0 : Int) ≤ (f : Int) := by omega
  unfold maxLen at hcm
  have HRD := Lib.hid hrd; have HOK := Lib.hid hok
  have hnum := conc_num
  clear hrd hok
  go_enter Tryz.func107, Tryz.ntmps107
  go_wp2_with fail
  refine (readFraction_impl s _ (by omega) (HT.out.al _)).mono ?_
  rintro e w1 ⟨rfl, hb1⟩
  have HB1 := Lib.hid (((Below.refl w.heap.size w).alloc (Nat.le_refl _) _).trans ((hb1.alloc hb1.size (.cells #[.int .i64 (rdT s), .int .i64 (rdB s)] 94)).mono (by simp))); clear hb1
  generalize hRT : rdT s = RT at HB1 ⊢
  generalize hRB : rdB s = RB at HB1 ⊢
  have HRT := Lib.hid hRT; have HRB := Lib.hid hRB; clear hRT hRB
  go_wp2
  go_ret
  refine Res.val (r := [(1, s, 0)]) HB1.out ?_ (HT.out.keep HB1.out) HOK.out rfl
  rw [← HRT.out, ← HRB.out]
  exact .num HRD.out .nil

set_option maxRecDepth 100000 in
set_option maxHeartbeats 4000000 in
theorem leaf_text {S : Nat → Prop} (N b o sn scp f : Nat) (s : ByteArray) (w : World) (n0 : w.cell? ⟨N, 0, none⟩ = some (.int .i64 (f : Int))) (hf : f < sn) (h60 : sn ≤ 60) (hsc : sn ≤ scp) (hcm : scp ≤ maxLen) (c0 : w.cell? ⟨b, o + f * 3, none⟩ = some (.int .i64 2)) (c1 : w.cell? ⟨b, o + f * 3 + 1, none⟩ = some (.string s)) (c2 : w.cell? ⟨b, o + f * 3 + 2, none⟩ = some (.int .i64 0)) (htab : Tab w) (hrd : okC (2, s, 0) = true) (hok : okV [(2, s, 0)] = true) :
    Calls Tryz.prog 107 #[.slice (some ⟨b, o, none⟩) sn scp, .pointer (some ⟨N, 0, none⟩)] w (Res S (some [(2, s, 0)]) w) := by
  have HT := Lib.hid htab
  have hfI : (f : Int) < (sn : Int) := by omega
  have hf0 : (0 : Int) ≤ (f : Int) := by omega
  unfold maxLen at hcm
  have HRD := Lib.hid hrd; have HOK := Lib.hid hok
  have htxt := conc_text
  clear hrd hok
  go_enter Tryz.func107, Tryz.ntmps107
  go_wp2
  go_ret
  exact Res.val (r := [(2, s, 0)]) ((Below.refl w.heap.size w).alloc (Nat.le_refl _) _) (.text HRD.out .nil) (HT.out.al _) HOK.out rfl

set_option maxRecDepth 100000 in
set_option maxHeartbeats 4000000 in
theorem leaf_truth {S : Nat → Prop} (N b o sn scp f : Nat) (s : ByteArray) (w : World) (n0 : w.cell? ⟨N, 0, none⟩ = some (.int .i64 (f : Int))) (hf : f < sn) (h60 : sn ≤ 60) (hsc : sn ≤ scp) (hcm : scp ≤ maxLen) (c0 : w.cell? ⟨b, o + f * 3, none⟩ = some (.int .i64 3)) (c1 : w.cell? ⟨b, o + f * 3 + 1, none⟩ = some (.string s)) (c2 : w.cell? ⟨b, o + f * 3 + 2, none⟩ = some (.int .i64 0)) (htab : Tab w) (hw3 : s.data.toList = trueL ∨ s.data.toList = falseL) :
    Calls Tryz.prog 107 #[.slice (some ⟨b, o, none⟩) sn scp, .pointer (some ⟨N, 0, none⟩)] w (Res S (some [(3, s, 0)]) w) := by
  have HT := Lib.hid htab
  have hfI : (f : Int) < (sn : Int) := by omega
  have hf0 : (0 : Int) ≤ (f : Int) := by omega
  unfold maxLen at hcm
  have HTW := Lib.hid (truW_of hw3)
  have htru := conc_truth
  clear hw3
  go_enter Tryz.func107, Tryz.ntmps107
  go_wp2
  go_ret
  exact Res.tru ((Below.refl w.heap.size w).alloc (Nat.le_refl _) _) (HT.out.al _) (s.toList == [116, 114, 117, 101]) (by
    have h := HTW.out
    show some [((3 : Int), s, (0 : Int))] = some [(3, truW (s.toList == [116, 114, 117, 101]), 0)]
    rw [h])

set_option maxRecDepth 100000 in
set_option maxHeartbeats 4000000 in
theorem result_leaf_num (N B : Nat) (env : List Bd) (qs : List Nat) (b o sn scp f : Nat) (s : ByteArray) (S : Nat → Prop) (w : World) (hn : NodeP w N qs) (n0 : w.cell? ⟨N, 0, none⟩ = some (.int .i64 (f : Int))) (hf : f < sn) (h60 : sn ≤ 60) (hsc : sn ≤ scp) (hcm : scp ≤ maxLen) (c0 : w.cell? ⟨b, o + f * 3, none⟩ = some (.int .i64 1)) (c1 : w.cell? ⟨b, o + f * 3 + 1, none⟩ = some (.string s)) (c2 : w.cell? ⟨b, o + f * 3 + 2, none⟩ = some (.int .i64 0)) (hS : Hi w.heap.size S) (he : EnvV w S B env) (htab : Tab w) (hrd : rdOK s = true) (hss : s.size ≤ 60) (hok : okV [(1, s, 0)] = true) :
    Calls Tryz.prog 76 #[.pointer (some ⟨N, 0, none⟩), .agg #[.slice (some ⟨b, o, none⟩) sn scp, .map (some B)]] w (Res S (some [(1, s, 0)]) w) := by
  have HH := Lib.hid (show rdOK s = true ∧ s.size ≤ 60 ∧ okV [(1, s, 0)] = true from ⟨hrd, hss, hok⟩)
  clear hrd hss hok
  have hN : N < w.heap.size := World.block_lt_of_cell? w _ n0
  have hbl : b < w.heap.size := World.block_lt_of_cell? w _ c0
  have HNP := Lib.hid hn; have HS := Lib.hid hS; have HE := Lib.hid he; have HT := Lib.hid htab
  have HBA := Lib.hid ((Below.refl w.heap.size w).alloc (Nat.le_refl _) (.cells #[.slice (some ⟨b, o, none⟩) sn scp, .map (some B)] 73))
  obtain ⟨s0, s1⟩ := scp_new w (some ⟨b, o, none⟩) sn scp B
  have m0 : (w.alloc (.cells #[.slice (some ⟨b, o, none⟩) sn scp, .map (some B)] 73)).cell? ⟨N, 0, none⟩ = some (.int .i64 (f : Int)) := (HBA.out.cell (p := ⟨N, 0, none⟩) hN).trans n0
  have d0 : (w.alloc (.cells #[.slice (some ⟨b, o, none⟩) sn scp, .map (some B)] 73)).cell? ⟨b, o + f * 3, none⟩ = some (.int .i64 1) := (HBA.out.cell (p := ⟨b, _, none⟩) hbl).trans c0
  have d1 : (w.alloc (.cells #[.slice (some ⟨b, o, none⟩) sn scp, .map (some B)] 73)).cell? ⟨b, o + f * 3 + 1, none⟩ = some (.string s) := (HBA.out.cell (p := ⟨b, _, none⟩) hbl).trans c1
  have d2 : (w.alloc (.cells #[.slice (some ⟨b, o, none⟩) sn scp, .map (some B)] 73)).cell? ⟨b, o + f * 3 + 2, none⟩ = some (.int .i64 0) := (HBA.out.cell (p := ⟨b, _, none⟩) hbl).trans c2
  have hfI : (f : Int) < (sn : Int) := by omega
  have hf0 : (0 : Int) ≤ (f : Int) := by omega
  unfold maxLen at hcm
  clear hn hS he htab n0 c0 c1 c2
  go_enter Tryz.func76, Tryz.ntmps76
  go_wp2_with fail
  generalize w.alloc (.cells #[.slice (some ⟨b, o, none⟩) sn scp, .map (some B)] 73) = wa at HBA s0 s1 m0 d0 d1 d2 ⊢
  have l1 : N < wa.heap.size := World.block_lt_of_cell? wa _ m0
  have l2 : b < wa.heap.size := World.block_lt_of_cell? wa _ d0
  have l3 : w.heap.size < wa.heap.size := World.block_lt_of_cell? wa _ s0
  have l4 : ¬ N = wa.heap.size := by omega
  have l5 : ¬ b = wa.heap.size := by omega
  have l6 : ¬ w.heap.size = wa.heap.size := by omega
  go_region
  have HB2 := Lib.hid (show Below w.heap.size w (wa.alloc (.cells #[.int .i64 1, .string s, .int .i64 0] 44)).drew from (HBA.out.alloc HBA.out.size _).drew)
  obtain ⟨z0, z1⟩ : (wa.alloc (.cells #[.int .i64 1, .string s, .int .i64 0] 44)).drew.cell? ⟨w.heap.size, 0, none⟩ = some (.slice (some ⟨b, o, none⟩) sn scp) ∧ (wa.alloc (.cells #[.int .i64 1, .string s, .int .i64 0] 44)).drew.cell? ⟨w.heap.size, 1, none⟩ = some (.map (some B)) := ⟨kept ((Below.refl _ wa).alloc (Nat.le_refl _) _).drew s0, kept ((Below.refl _ wa).alloc (Nat.le_refl _) _).drew s1⟩
  have k0 : (wa.alloc (.cells #[.int .i64 1, .string s, .int .i64 0] 44)).drew.cell? ⟨N, 0, none⟩ = some (.int .i64 (f : Int)) := kept ((Below.refl _ wa).alloc (Nat.le_refl _) _).drew m0
  have k1 : (wa.alloc (.cells #[.int .i64 1, .string s, .int .i64 0] 44)).drew.cell? ⟨b, o + f * 3, none⟩ = some (.int .i64 1) := kept ((Below.refl _ wa).alloc (Nat.le_refl _) _).drew d0
  have k2 : (wa.alloc (.cells #[.int .i64 1, .string s, .int .i64 0] 44)).drew.cell? ⟨b, o + f * 3 + 1, none⟩ = some (.string s) := kept ((Below.refl _ wa).alloc (Nat.le_refl _) _).drew d1
  have k3 : (wa.alloc (.cells #[.int .i64 1, .string s, .int .i64 0] 44)).drew.cell? ⟨b, o + f * 3 + 2, none⟩ = some (.int .i64 0) := kept ((Below.refl _ wa).alloc (Nat.le_refl _) _).drew d2
  have HLF := Lib.hid (leaf_num (S := S) N b o sn scp f s _ k0 hf h60 hsc (by unfold maxLen; exact hcm) k1 k2 k3 (HT.out.keep HB2.out) HH.out.1 HH.out.2.1 HH.out.2.2)
  clear k0 k1 k2 k3
  go_wp2_with fail
  refine HLF.out.mono ?_
  intro e w1 hr
  obtain ⟨r, rfl, hres⟩ := hr.ret
  have HR := Lib.hid (hres.from HB2.out)
  clear hr hres
  go_wp2
  go_ret
  exact HR.out

set_option maxRecDepth 100000 in
set_option maxHeartbeats 4000000 in
theorem result_leaf_text (N B : Nat) (env : List Bd) (qs : List Nat) (b o sn scp f : Nat) (s : ByteArray) (S : Nat → Prop) (w : World) (hn : NodeP w N qs) (n0 : w.cell? ⟨N, 0, none⟩ = some (.int .i64 (f : Int))) (hf : f < sn) (h60 : sn ≤ 60) (hsc : sn ≤ scp) (hcm : scp ≤ maxLen) (c0 : w.cell? ⟨b, o + f * 3, none⟩ = some (.int .i64 2)) (c1 : w.cell? ⟨b, o + f * 3 + 1, none⟩ = some (.string s)) (c2 : w.cell? ⟨b, o + f * 3 + 2, none⟩ = some (.int .i64 0)) (hS : Hi w.heap.size S) (he : EnvV w S B env) (htab : Tab w) (hrd : okC (2, s, 0) = true) (hok : okV [(2, s, 0)] = true) :
    Calls Tryz.prog 76 #[.pointer (some ⟨N, 0, none⟩), .agg #[.slice (some ⟨b, o, none⟩) sn scp, .map (some B)]] w (Res S (some [(2, s, 0)]) w) := by
  have HH := Lib.hid (show okC (2, s, 0) = true ∧ okV [(2, s, 0)] = true from ⟨hrd, hok⟩)
  clear hrd hok
  have hN : N < w.heap.size := World.block_lt_of_cell? w _ n0
  have hbl : b < w.heap.size := World.block_lt_of_cell? w _ c0
  have HNP := Lib.hid hn; have HS := Lib.hid hS; have HE := Lib.hid he; have HT := Lib.hid htab
  have HBA := Lib.hid ((Below.refl w.heap.size w).alloc (Nat.le_refl _) (.cells #[.slice (some ⟨b, o, none⟩) sn scp, .map (some B)] 73))
  obtain ⟨s0, s1⟩ := scp_new w (some ⟨b, o, none⟩) sn scp B
  have m0 : (w.alloc (.cells #[.slice (some ⟨b, o, none⟩) sn scp, .map (some B)] 73)).cell? ⟨N, 0, none⟩ = some (.int .i64 (f : Int)) := (HBA.out.cell (p := ⟨N, 0, none⟩) hN).trans n0
  have d0 : (w.alloc (.cells #[.slice (some ⟨b, o, none⟩) sn scp, .map (some B)] 73)).cell? ⟨b, o + f * 3, none⟩ = some (.int .i64 2) := (HBA.out.cell (p := ⟨b, _, none⟩) hbl).trans c0
  have d1 : (w.alloc (.cells #[.slice (some ⟨b, o, none⟩) sn scp, .map (some B)] 73)).cell? ⟨b, o + f * 3 + 1, none⟩ = some (.string s) := (HBA.out.cell (p := ⟨b, _, none⟩) hbl).trans c1
  have d2 : (w.alloc (.cells #[.slice (some ⟨b, o, none⟩) sn scp, .map (some B)] 73)).cell? ⟨b, o + f * 3 + 2, none⟩ = some (.int .i64 0) := (HBA.out.cell (p := ⟨b, _, none⟩) hbl).trans c2
  have hfI : (f : Int) < (sn : Int) := by omega
  have hf0 : (0 : Int) ≤ (f : Int) := by omega
  unfold maxLen at hcm
  clear hn hS he htab n0 c0 c1 c2
  go_enter Tryz.func76, Tryz.ntmps76
  go_wp2_with fail
  generalize w.alloc (.cells #[.slice (some ⟨b, o, none⟩) sn scp, .map (some B)] 73) = wa at HBA s0 s1 m0 d0 d1 d2 ⊢
  have l1 : N < wa.heap.size := World.block_lt_of_cell? wa _ m0
  have l2 : b < wa.heap.size := World.block_lt_of_cell? wa _ d0
  have l3 : w.heap.size < wa.heap.size := World.block_lt_of_cell? wa _ s0
  have l4 : ¬ N = wa.heap.size := by omega
  have l5 : ¬ b = wa.heap.size := by omega
  have l6 : ¬ w.heap.size = wa.heap.size := by omega
  go_region
  have HB2 := Lib.hid (show Below w.heap.size w (wa.alloc (.cells #[.int .i64 2, .string s, .int .i64 0] 44)).drew from (HBA.out.alloc HBA.out.size _).drew)
  obtain ⟨z0, z1⟩ : (wa.alloc (.cells #[.int .i64 2, .string s, .int .i64 0] 44)).drew.cell? ⟨w.heap.size, 0, none⟩ = some (.slice (some ⟨b, o, none⟩) sn scp) ∧ (wa.alloc (.cells #[.int .i64 2, .string s, .int .i64 0] 44)).drew.cell? ⟨w.heap.size, 1, none⟩ = some (.map (some B)) := ⟨kept ((Below.refl _ wa).alloc (Nat.le_refl _) _).drew s0, kept ((Below.refl _ wa).alloc (Nat.le_refl _) _).drew s1⟩
  have k0 : (wa.alloc (.cells #[.int .i64 2, .string s, .int .i64 0] 44)).drew.cell? ⟨N, 0, none⟩ = some (.int .i64 (f : Int)) := kept ((Below.refl _ wa).alloc (Nat.le_refl _) _).drew m0
  have k1 : (wa.alloc (.cells #[.int .i64 2, .string s, .int .i64 0] 44)).drew.cell? ⟨b, o + f * 3, none⟩ = some (.int .i64 2) := kept ((Below.refl _ wa).alloc (Nat.le_refl _) _).drew d0
  have k2 : (wa.alloc (.cells #[.int .i64 2, .string s, .int .i64 0] 44)).drew.cell? ⟨b, o + f * 3 + 1, none⟩ = some (.string s) := kept ((Below.refl _ wa).alloc (Nat.le_refl _) _).drew d1
  have k3 : (wa.alloc (.cells #[.int .i64 2, .string s, .int .i64 0] 44)).drew.cell? ⟨b, o + f * 3 + 2, none⟩ = some (.int .i64 0) := kept ((Below.refl _ wa).alloc (Nat.le_refl _) _).drew d2
  have HLF := Lib.hid (leaf_text (S := S) N b o sn scp f s _ k0 hf h60 hsc (by unfold maxLen; exact hcm) k1 k2 k3 (HT.out.keep HB2.out) HH.out.1 HH.out.2)
  clear k0 k1 k2 k3
  go_wp2_with fail
  refine HLF.out.mono ?_
  intro e w1 hr
  obtain ⟨r, rfl, hres⟩ := hr.ret
  have HR := Lib.hid (hres.from HB2.out)
  clear hr hres
  go_wp2
  go_ret
  exact HR.out

set_option maxRecDepth 100000 in
set_option maxHeartbeats 4000000 in
theorem result_leaf_truth (N B : Nat) (env : List Bd) (qs : List Nat) (b o sn scp f : Nat) (s : ByteArray) (S : Nat → Prop) (w : World) (hn : NodeP w N qs) (n0 : w.cell? ⟨N, 0, none⟩ = some (.int .i64 (f : Int))) (hf : f < sn) (h60 : sn ≤ 60) (hsc : sn ≤ scp) (hcm : scp ≤ maxLen) (c0 : w.cell? ⟨b, o + f * 3, none⟩ = some (.int .i64 3)) (c1 : w.cell? ⟨b, o + f * 3 + 1, none⟩ = some (.string s)) (c2 : w.cell? ⟨b, o + f * 3 + 2, none⟩ = some (.int .i64 0)) (hS : Hi w.heap.size S) (he : EnvV w S B env) (htab : Tab w) (hw3 : s.data.toList = trueL ∨ s.data.toList = falseL) :
    Calls Tryz.prog 76 #[.pointer (some ⟨N, 0, none⟩), .agg #[.slice (some ⟨b, o, none⟩) sn scp, .map (some B)]] w (Res S (some [(3, s, 0)]) w) := by
  have HH := Lib.hid hw3; clear hw3
  have hN : N < w.heap.size := World.block_lt_of_cell? w _ n0
  have hbl : b < w.heap.size := World.block_lt_of_cell? w _ c0
  have HNP := Lib.hid hn; have HS := Lib.hid hS; have HE := Lib.hid he; have HT := Lib.hid htab
  have HBA := Lib.hid ((Below.refl w.heap.size w).alloc (Nat.le_refl _) (.cells #[.slice (some ⟨b, o, none⟩) sn scp, .map (some B)] 73))
  obtain ⟨s0, s1⟩ := scp_new w (some ⟨b, o, none⟩) sn scp B
  have m0 : (w.alloc (.cells #[.slice (some ⟨b, o, none⟩) sn scp, .map (some B)] 73)).cell? ⟨N, 0, none⟩ = some (.int .i64 (f : Int)) := (HBA.out.cell (p := ⟨N, 0, none⟩) hN).trans n0
  have d0 : (w.alloc (.cells #[.slice (some ⟨b, o, none⟩) sn scp, .map (some B)] 73)).cell? ⟨b, o + f * 3, none⟩ = some (.int .i64 3) := (HBA.out.cell (p := ⟨b, _, none⟩) hbl).trans c0
  have d1 : (w.alloc (.cells #[.slice (some ⟨b, o, none⟩) sn scp, .map (some B)] 73)).cell? ⟨b, o + f * 3 + 1, none⟩ = some (.string s) := (HBA.out.cell (p := ⟨b, _, none⟩) hbl).trans c1
  have d2 : (w.alloc (.cells #[.slice (some ⟨b, o, none⟩) sn scp, .map (some B)] 73)).cell? ⟨b, o + f * 3 + 2, none⟩ = some (.int .i64 0) := (HBA.out.cell (p := ⟨b, _, none⟩) hbl).trans c2
  have hfI : (f : Int) < (sn : Int) := by omega
  have hf0 : (0 : Int) ≤ (f : Int) := by omega
  unfold maxLen at hcm
  clear hn hS he htab n0 c0 c1 c2
  go_enter Tryz.func76, Tryz.ntmps76
  go_wp2_with fail
  generalize w.alloc (.cells #[.slice (some ⟨b, o, none⟩) sn scp, .map (some B)] 73) = wa at HBA s0 s1 m0 d0 d1 d2 ⊢
  have l1 : N < wa.heap.size := World.block_lt_of_cell? wa _ m0
  have l2 : b < wa.heap.size := World.block_lt_of_cell? wa _ d0
  have l3 : w.heap.size < wa.heap.size := World.block_lt_of_cell? wa _ s0
  have l4 : ¬ N = wa.heap.size := by omega
  have l5 : ¬ b = wa.heap.size := by omega
  have l6 : ¬ w.heap.size = wa.heap.size := by omega
  go_region
  have HB2 := Lib.hid (show Below w.heap.size w (wa.alloc (.cells #[.int .i64 3, .string s, .int .i64 0] 44)).drew from (HBA.out.alloc HBA.out.size _).drew)
  obtain ⟨z0, z1⟩ : (wa.alloc (.cells #[.int .i64 3, .string s, .int .i64 0] 44)).drew.cell? ⟨w.heap.size, 0, none⟩ = some (.slice (some ⟨b, o, none⟩) sn scp) ∧ (wa.alloc (.cells #[.int .i64 3, .string s, .int .i64 0] 44)).drew.cell? ⟨w.heap.size, 1, none⟩ = some (.map (some B)) := ⟨kept ((Below.refl _ wa).alloc (Nat.le_refl _) _).drew s0, kept ((Below.refl _ wa).alloc (Nat.le_refl _) _).drew s1⟩
  have k0 : (wa.alloc (.cells #[.int .i64 3, .string s, .int .i64 0] 44)).drew.cell? ⟨N, 0, none⟩ = some (.int .i64 (f : Int)) := kept ((Below.refl _ wa).alloc (Nat.le_refl _) _).drew m0
  have k1 : (wa.alloc (.cells #[.int .i64 3, .string s, .int .i64 0] 44)).drew.cell? ⟨b, o + f * 3, none⟩ = some (.int .i64 3) := kept ((Below.refl _ wa).alloc (Nat.le_refl _) _).drew d0
  have k2 : (wa.alloc (.cells #[.int .i64 3, .string s, .int .i64 0] 44)).drew.cell? ⟨b, o + f * 3 + 1, none⟩ = some (.string s) := kept ((Below.refl _ wa).alloc (Nat.le_refl _) _).drew d1
  have k3 : (wa.alloc (.cells #[.int .i64 3, .string s, .int .i64 0] 44)).drew.cell? ⟨b, o + f * 3 + 2, none⟩ = some (.int .i64 0) := kept ((Below.refl _ wa).alloc (Nat.le_refl _) _).drew d2
  have HLF := Lib.hid (leaf_truth (S := S) N b o sn scp f s _ k0 hf h60 hsc (by unfold maxLen; exact hcm) k1 k2 k3 (HT.out.keep HB2.out) HH.out)
  clear k0 k1 k2 k3
  go_wp2_with fail
  refine HLF.out.mono ?_
  intro e w1 hr
  obtain ⟨r, rfl, hres⟩ := hr.ret
  have HR := Lib.hid (hres.from HB2.out)
  clear hr hres
  go_wp2
  go_ret
  exact HR.out

end Go.Proofs.YtpcaciogglllbaaGreatDoor
