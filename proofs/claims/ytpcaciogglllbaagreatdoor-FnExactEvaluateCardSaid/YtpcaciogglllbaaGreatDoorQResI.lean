/- Part of the proof of FnExactEvaluate. -/
import Derived.Test.YtpcaciogglllbaaGreatDoorQEvI5
import Derived.Test.YtpcaciogglllbaaGreatDoorQBoundI
namespace Go.Proofs.YtpcaciogglllbaaGreatDoor
open Go.RowKit
set_option linter.unusedVariables false

def ValO (S : Nat → Prop) (o : Option (List Cl)) (u : Value) (w : World) : Prop := (u = .nilIface ∧ o = none) ∨ ∃ r, VlS w S [u] [r] ∧ okV r = true ∧ o = some r
theorem ResE.shape {S : Nat → Prop} {o : Option (List Cl)} {w w' : World} {e : Ending} (h : ResE S o w e w') : ∃ u, e = .returned u ∧ ValO S o u w' := by
  obtain ⟨hb, ⟨rfl, ho⟩ | ⟨u, r, rfl, hv, hok, ho⟩⟩ := h
  · exact ⟨_, rfl, .inl ⟨rfl, ho⟩⟩
  · exact ⟨_, rfl, .inr ⟨r, hv, hok, ho⟩⟩
theorem unary_both {S : Nat → Prop} (s : ByteArray) (u : Value) (o : Option (List Cl)) (w : World) (h : ValO S o u w) (htab : Tab w) :
    Calls Tryz.prog 112 #[.string s, u] w (Res S (unaO s o) w) := by
  rcases h with ⟨rfl, rfl⟩ | ⟨r, hv, hok, rfl⟩
  · exact unary_nil s w
  · exact unary_any s u r w hv hok htab

set_option maxRecDepth 100000 in
set_option maxHeartbeats 4000000 in
theorem result_choice (o0 o1 o2 : Option (List Cl)) (N B : Nat) (env : List Bd) (qs : List Nat) (b o sn scp f : Nat) (s : ByteArray) (m : Int) (S : Nat → Prop) (w : World) (hn : NodeP w N qs) (n0 : w.cell? ⟨N, 0, none⟩ = some (.int .i64 (f : Int))) (hf : f < sn) (h60 : sn ≤ 60) (hsc : sn ≤ scp) (hcm : scp ≤ maxLen) (c0 : w.cell? ⟨b, o + f * 3, none⟩ = some (.int .i64 9)) (c1 : w.cell? ⟨b, o + f * 3 + 1, none⟩ = some (.string s)) (c2 : w.cell? ⟨b, o + f * 3 + 2, none⟩ = some (.int .i64 m)) (hS : Hi w.heap.size S) (he : EnvV w S B env) (htab : Tab w) (hp : PartsE w B env qs (.agg #[.slice (some ⟨b, o, none⟩) sn scp, .map (some B)]) [o0, o1, o2]) :
    Calls Tryz.prog 76 #[.pointer (some ⟨N, 0, none⟩), .agg #[.slice (some ⟨b, o, none⟩) sn scp, .map (some B)]] w (Res S (choO o0 o1 o2) w) := by
  have HP := Lib.hid hp; clear hp
  have hN : N < w.heap.size := World.block_lt_of_cell? w _ n0
  have hbl : b < w.heap.size := World.block_lt_of_cell? w _ c0
  have HNP := Lib.hid hn; have HS := Lib.hid hS; have HE := Lib.hid he; have HT := Lib.hid htab
  have HBA := Lib.hid ((Below.refl w.heap.size w).alloc (Nat.le_refl _) (.cells #[.slice (some ⟨b, o, none⟩) sn scp, .map (some B)] 73))
  obtain ⟨s0, s1⟩ := scp_new w (some ⟨b, o, none⟩) sn scp B
  have m0 : (w.alloc (.cells #[.slice (some ⟨b, o, none⟩) sn scp, .map (some B)] 73)).cell? ⟨N, 0, none⟩ = some (.int .i64 (f : Int)) := (HBA.out.cell (p := ⟨N, 0, none⟩) hN).trans n0
  have d0 : (w.alloc (.cells #[.slice (some ⟨b, o, none⟩) sn scp, .map (some B)] 73)).cell? ⟨b, o + f * 3, none⟩ = some (.int .i64 9) := (HBA.out.cell (p := ⟨b, _, none⟩) hbl).trans c0
  have d1 : (w.alloc (.cells #[.slice (some ⟨b, o, none⟩) sn scp, .map (some B)] 73)).cell? ⟨b, o + f * 3 + 1, none⟩ = some (.string s) := (HBA.out.cell (p := ⟨b, _, none⟩) hbl).trans c1
  have d2 : (w.alloc (.cells #[.slice (some ⟨b, o, none⟩) sn scp, .map (some B)] 73)).cell? ⟨b, o + f * 3 + 2, none⟩ = some (.int .i64 m) := (HBA.out.cell (p := ⟨b, _, none⟩) hbl).trans c2
  have hfI : (f : Int) < (sn : Int) := by omega
  have hf0 : (0 : Int) ≤ (f : Int) := by omega
  unfold maxLen at hcm
  clear hn hS he htab n0 c0 c1 c2
  go_enter Tryz.func76, Tryz.ntmps76
  go_wp2_with fail
  generalize w.alloc (.cells #[.slice (some ⟨b, o, none⟩) sn scp, .map (some B)] 73) = wa at HBA s0 s1 m0 d0 d1 d2 ⊢
  have l1 : N < wa.heap.size := World.block_lt_of_cell? wa _ m0
  have l2 : b < wa.heap.size := World.block_lt_of_cell? wa _ d0
  have l3 : w.heap.size < wa.heap.size := World.block_lt_of_cell? wa _ s0
  have l4 : ¬ N = wa.heap.size := by omega
  have l5 : ¬ b = wa.heap.size := by omega
  have l6 : ¬ w.heap.size = wa.heap.size := by omega
  go_region
  have HB2 := Lib.hid (show Below w.heap.size w (wa.alloc (.cells #[.int .i64 9, .string s, .int .i64 m] 44)).drew from (HBA.out.alloc HBA.out.size _).drew)
  obtain ⟨z0, z1⟩ : (wa.alloc (.cells #[.int .i64 9, .string s, .int .i64 m] 44)).drew.cell? ⟨w.heap.size, 0, none⟩ = some (.slice (some ⟨b, o, none⟩) sn scp) ∧ (wa.alloc (.cells #[.int .i64 9, .string s, .int .i64 m] 44)).drew.cell? ⟨w.heap.size, 1, none⟩ = some (.map (some B)) := ⟨kept ((Below.refl _ wa).alloc (Nat.le_refl _) _).drew s0, kept ((Below.refl _ wa).alloc (Nat.le_refl _) _).drew s1⟩
  go_wp2_with fail
  refine (choice_node N B env qs (some ⟨b, o, none⟩) sn scp o0 o1 o2 S _ (HNP.out.keep HB2.out) (HP.out.keep HB2.out) (HS.out.mono HB2.out.size) (HE.out.low HB2.out) (HT.out.keep HB2.out)).mono ?_
  intro e w1 hr
  obtain ⟨r, rfl, hres⟩ := hr.ret
  have HR := Lib.hid (hres.from HB2.out)
  clear hr hres
  go_wp2
  go_ret
  exact HR.out

set_option maxRecDepth 100000 in
set_option maxHeartbeats 4000000 in
theorem result_list (ks : List (Option (List Cl))) (N B : Nat) (env : List Bd) (qs : List Nat) (b o sn scp f : Nat) (s : ByteArray) (m : Int) (S : Nat → Prop) (w : World) (hn : NodeP w N qs) (n0 : w.cell? ⟨N, 0, none⟩ = some (.int .i64 (f : Int))) (hf : f < sn) (h60 : sn ≤ 60) (hsc : sn ≤ scp) (hcm : scp ≤ maxLen) (c0 : w.cell? ⟨b, o + f * 3, none⟩ = some (.int .i64 5)) (c1 : w.cell? ⟨b, o + f * 3 + 1, none⟩ = some (.string s)) (c2 : w.cell? ⟨b, o + f * 3 + 2, none⟩ = some (.int .i64 m)) (hS : Hi w.heap.size S) (he : EnvV w S B env) (htab : Tab w) (hp : PartsE w B env qs (.agg #[.slice (some ⟨b, o, none⟩) sn scp, .map (some B)]) ks) (hq : qs.length ≤ 8) :
    Calls Tryz.prog 76 #[.pointer (some ⟨N, 0, none⟩), .agg #[.slice (some ⟨b, o, none⟩) sn scp, .map (some B)]] w (Res S ((allO ks).bind lisO) w) := by
  have HP := Lib.hid hp; clear hp
  have hN : N < w.heap.size := World.block_lt_of_cell? w _ n0
  have hbl : b < w.heap.size := World.block_lt_of_cell? w _ c0
  have HNP := Lib.hid hn; have HS := Lib.hid hS; have HE := Lib.hid he; have HT := Lib.hid htab
  have HBA := Lib.hid ((Below.refl w.heap.size w).alloc (Nat.le_refl _) (.cells #[.slice (some ⟨b, o, none⟩) sn scp, .map (some B)] 73))
  obtain ⟨s0, s1⟩ := scp_new w (some ⟨b, o, none⟩) sn scp B
  have m0 : (w.alloc (.cells #[.slice (some ⟨b, o, none⟩) sn scp, .map (some B)] 73)).cell? ⟨N, 0, none⟩ = some (.int .i64 (f : Int)) := (HBA.out.cell (p := ⟨N, 0, none⟩) hN).trans n0
  have d0 : (w.alloc (.cells #[.slice (some ⟨b, o, none⟩) sn scp, .map (some B)] 73)).cell? ⟨b, o + f * 3, none⟩ = some (.int .i64 5) := (HBA.out.cell (p := ⟨b, _, none⟩) hbl).trans c0
  have d1 : (w.alloc (.cells #[.slice (some ⟨b, o, none⟩) sn scp, .map (some B)] 73)).cell? ⟨b, o + f * 3 + 1, none⟩ = some (.string s) := (HBA.out.cell (p := ⟨b, _, none⟩) hbl).trans c1
  have d2 : (w.alloc (.cells #[.slice (some ⟨b, o, none⟩) sn scp, .map (some B)] 73)).cell? ⟨b, o + f * 3 + 2, none⟩ = some (.int .i64 m) := (HBA.out.cell (p := ⟨b, _, none⟩) hbl).trans c2
  have hfI : (f : Int) < (sn : Int) := by omega
  have hf0 : (0 : Int) ≤ (f : Int) := by omega
  unfold maxLen at hcm
  clear hn hS he htab n0 c0 c1 c2
  go_enter Tryz.func76, Tryz.ntmps76
  go_wp2_with fail
  generalize w.alloc (.cells #[.slice (some ⟨b, o, none⟩) sn scp, .map (some B)] 73) = wa at HBA s0 s1 m0 d0 d1 d2 ⊢
  have l1 : N < wa.heap.size := World.block_lt_of_cell? wa _ m0
  have l2 : b < wa.heap.size := World.block_lt_of_cell? wa _ d0
  have l3 : w.heap.size < wa.heap.size := World.block_lt_of_cell? wa _ s0
  have l4 : ¬ N = wa.heap.size := by omega
  have l5 : ¬ b = wa.heap.size := by omega
  have l6 : ¬ w.heap.size = wa.heap.size := by omega
  go_region
  have HB2 := Lib.hid (show Below w.heap.size w (wa.alloc (.cells #[.int .i64 5, .string s, .int .i64 m] 44)).drew from (HBA.out.alloc HBA.out.size _).drew)
  obtain ⟨z0, z1⟩ : (wa.alloc (.cells #[.int .i64 5, .string s, .int .i64 m] 44)).drew.cell? ⟨w.heap.size, 0, none⟩ = some (.slice (some ⟨b, o, none⟩) sn scp) ∧ (wa.alloc (.cells #[.int .i64 5, .string s, .int .i64 m] 44)).drew.cell? ⟨w.heap.size, 1, none⟩ = some (.map (some B)) := ⟨kept ((Below.refl _ wa).alloc (Nat.le_refl _) _).drew s0, kept ((Below.refl _ wa).alloc (Nat.le_refl _) _).drew s1⟩
  go_wp2_with fail
  refine (list_any N B env qs (some ⟨b, o, none⟩) sn scp ks S _ (HNP.out.keep HB2.out) hq (HP.out.keep HB2.out) (HS.out.mono HB2.out.size) (HE.out.low HB2.out) (HT.out.keep HB2.out)).mono ?_
  intro e w1 hr
  obtain ⟨r, rfl, hres⟩ := hr.ret
  have HR := Lib.hid (hres.from HB2.out)
  clear hr hres
  go_wp2
  go_ret
  exact HR.out

set_option maxRecDepth 100000 in
set_option maxHeartbeats 4000000 in
theorem result_call (ks : List (Option (List Cl))) (N B : Nat) (env : List Bd) (qs : List Nat) (b o sn scp f : Nat) (s : ByteArray) (m : Int) (S : Nat → Prop) (w : World) (hn : NodeP w N qs) (n0 : w.cell? ⟨N, 0, none⟩ = some (.int .i64 (f : Int))) (hf : f < sn) (h60 : sn ≤ 60) (hsc : sn ≤ scp) (hcm : scp ≤ maxLen) (c0 : w.cell? ⟨b, o + f * 3, none⟩ = some (.int .i64 6)) (c1 : w.cell? ⟨b, o + f * 3 + 1, none⟩ = some (.string s)) (c2 : w.cell? ⟨b, o + f * 3 + 2, none⟩ = some (.int .i64 m)) (hS : Hi w.heap.size S) (he : EnvV w S B env) (htab : Tab w) (hp : PartsE w B env qs (.agg #[.slice (some ⟨b, o, none⟩) sn scp, .map (some B)]) ks) (hq : qs.length ≤ 8) (hnm : s.size ≤ 60) :
    Calls Tryz.prog 76 #[.pointer (some ⟨N, 0, none⟩), .agg #[.slice (some ⟨b, o, none⟩) sn scp, .map (some B)]] w (Res S ((allO ks).bind (callF s)) w) := by
  have HP := Lib.hid hp; clear hp
  have hN : N < w.heap.size := World.block_lt_of_cell? w _ n0
  have hbl : b < w.heap.size := World.block_lt_of_cell? w _ c0
  have HNP := Lib.hid hn; have HS := Lib.hid hS; have HE := Lib.hid he; have HT := Lib.hid htab
  have HBA := Lib.hid ((Below.refl w.heap.size w).alloc (Nat.le_refl _) (.cells #[.slice (some ⟨b, o, none⟩) sn scp, .map (some B)] 73))
  obtain ⟨s0, s1⟩ := scp_new w (some ⟨b, o, none⟩) sn scp B
  have m0 : (w.alloc (.cells #[.slice (some ⟨b, o, none⟩) sn scp, .map (some B)] 73)).cell? ⟨N, 0, none⟩ = some (.int .i64 (f : Int)) := (HBA.out.cell (p := ⟨N, 0, none⟩) hN).trans n0
  have d0 : (w.alloc (.cells #[.slice (some ⟨b, o, none⟩) sn scp, .map (some B)] 73)).cell? ⟨b, o + f * 3, none⟩ = some (.int .i64 6) := (HBA.out.cell (p := ⟨b, _, none⟩) hbl).trans c0
  have d1 : (w.alloc (.cells #[.slice (some ⟨b, o, none⟩) sn scp, .map (some B)] 73)).cell? ⟨b, o + f * 3 + 1, none⟩ = some (.string s) := (HBA.out.cell (p := ⟨b, _, none⟩) hbl).trans c1
  have d2 : (w.alloc (.cells #[.slice (some ⟨b, o, none⟩) sn scp, .map (some B)] 73)).cell? ⟨b, o + f * 3 + 2, none⟩ = some (.int .i64 m) := (HBA.out.cell (p := ⟨b, _, none⟩) hbl).trans c2
  have hfI : (f : Int) < (sn : Int) := by omega
  have hf0 : (0 : Int) ≤ (f : Int) := by omega
  unfold maxLen at hcm
  clear hn hS he htab n0 c0 c1 c2
  go_enter Tryz.func76, Tryz.ntmps76
  go_wp2_with fail
  generalize w.alloc (.cells #[.slice (some ⟨b, o, none⟩) sn scp, .map (some B)] 73) = wa at HBA s0 s1 m0 d0 d1 d2 ⊢
  have l1 : N < wa.heap.size := World.block_lt_of_cell? wa _ m0
  have l2 : b < wa.heap.size := World.block_lt_of_cell? wa _ d0
  have l3 : w.heap.size < wa.heap.size := World.block_lt_of_cell? wa _ s0
  have l4 : ¬ N = wa.heap.size := by omega
  have l5 : ¬ b = wa.heap.size := by omega
  have l6 : ¬ w.heap.size = wa.heap.size := by omega
  go_region
  have HB2 := Lib.hid (show Below w.heap.size w (wa.alloc (.cells #[.int .i64 6, .string s, .int .i64 m] 44)).drew from (HBA.out.alloc HBA.out.size _).drew)
  obtain ⟨z0, z1⟩ : (wa.alloc (.cells #[.int .i64 6, .string s, .int .i64 m] 44)).drew.cell? ⟨w.heap.size, 0, none⟩ = some (.slice (some ⟨b, o, none⟩) sn scp) ∧ (wa.alloc (.cells #[.int .i64 6, .string s, .int .i64 m] 44)).drew.cell? ⟨w.heap.size, 1, none⟩ = some (.map (some B)) := ⟨kept ((Below.refl _ wa).alloc (Nat.le_refl _) _).drew s0, kept ((Below.refl _ wa).alloc (Nat.le_refl _) _).drew s1⟩
  go_wp2_with fail
  refine (call_any N B env qs (some ⟨b, o, none⟩) sn scp s ks S _ (HNP.out.keep HB2.out) hq (by omega) (HP.out.keep HB2.out) (HS.out.mono HB2.out.size) (HE.out.low HB2.out) (HT.out.keep HB2.out)).mono ?_
  intro e w1 hr
  obtain ⟨r, rfl, hres⟩ := hr.ret
  have HR := Lib.hid (hres.from HB2.out)
  clear hr hres
  go_wp2
  go_ret
  exact HR.out

set_option maxRecDepth 100000 in
set_option maxHeartbeats 4000000 in
theorem result_binary (o0 o1 : Option (List Cl)) (N B : Nat) (env : List Bd) (qs : List Nat) (b o sn scp f : Nat) (s : ByteArray) (m : Int) (S : Nat → Prop) (w : World) (hn : NodeP w N qs) (n0 : w.cell? ⟨N, 0, none⟩ = some (.int .i64 (f : Int))) (hf : f < sn) (h60 : sn ≤ 60) (hsc : sn ≤ scp) (hcm : scp ≤ maxLen) (c0 : w.cell? ⟨b, o + f * 3, none⟩ = some (.int .i64 8)) (c1 : w.cell? ⟨b, o + f * 3 + 1, none⟩ = some (.string s)) (c2 : w.cell? ⟨b, o + f * 3 + 2, none⟩ = some (.int .i64 m)) (hS : Hi w.heap.size S) (he : EnvV w S B env) (htab : Tab w) (hp : PartsE w B env qs (.agg #[.slice (some ⟨b, o, none⟩) sn scp, .map (some B)]) [o0, o1]) (hsg : 1 ≤ signW s.data.toList ∧ signW s.data.toList ≤ 13) :
    Calls Tryz.prog 76 #[.pointer (some ⟨N, 0, none⟩), .agg #[.slice (some ⟨b, o, none⟩) sn scp, .map (some B)]] w (Res S (binO s o0 o1) w) := by
  have HP := Lib.hid hp; clear hp
  have HSG := Lib.hid hsg; clear hsg
  have hN : N < w.heap.size := World.block_lt_of_cell? w _ n0
  have hbl : b < w.heap.size := World.block_lt_of_cell? w _ c0
  have HNP := Lib.hid hn; have HS := Lib.hid hS; have HE := Lib.hid he; have HT := Lib.hid htab
  have HBA := Lib.hid ((Below.refl w.heap.size w).alloc (Nat.le_refl _) (.cells #[.slice (some ⟨b, o, none⟩) sn scp, .map (some B)] 73))
  obtain ⟨s0, s1⟩ := scp_new w (some ⟨b, o, none⟩) sn scp B
  have m0 : (w.alloc (.cells #[.slice (some ⟨b, o, none⟩) sn scp, .map (some B)] 73)).cell? ⟨N, 0, none⟩ = some (.int .i64 (f : Int)) := (HBA.out.cell (p := ⟨N, 0, none⟩) hN).trans n0
  have d0 : (w.alloc (.cells #[.slice (some ⟨b, o, none⟩) sn scp, .map (some B)] 73)).cell? ⟨b, o + f * 3, none⟩ = some (.int .i64 8) := (HBA.out.cell (p := ⟨b, _, none⟩) hbl).trans c0
  have d1 : (w.alloc (.cells #[.slice (some ⟨b, o, none⟩) sn scp, .map (some B)] 73)).cell? ⟨b, o + f * 3 + 1, none⟩ = some (.string s) := (HBA.out.cell (p := ⟨b, _, none⟩) hbl).trans c1
  have d2 : (w.alloc (.cells #[.slice (some ⟨b, o, none⟩) sn scp, .map (some B)] 73)).cell? ⟨b, o + f * 3 + 2, none⟩ = some (.int .i64 m) := (HBA.out.cell (p := ⟨b, _, none⟩) hbl).trans c2
  have hfI : (f : Int) < (sn : Int) := by omega
  have hf0 : (0 : Int) ≤ (f : Int) := by omega
  unfold maxLen at hcm
  clear hn hS he htab n0 c0 c1 c2
  go_enter Tryz.func76, Tryz.ntmps76
  go_wp2_with fail
  generalize w.alloc (.cells #[.slice (some ⟨b, o, none⟩) sn scp, .map (some B)] 73) = wa at HBA s0 s1 m0 d0 d1 d2 ⊢
  have l1 : N < wa.heap.size := World.block_lt_of_cell? wa _ m0
  have l2 : b < wa.heap.size := World.block_lt_of_cell? wa _ d0
  have l3 : w.heap.size < wa.heap.size := World.block_lt_of_cell? wa _ s0
  have l4 : ¬ N = wa.heap.size := by omega
  have l5 : ¬ b = wa.heap.size := by omega
  have l6 : ¬ w.heap.size = wa.heap.size := by omega
  go_region
  have HB2 := Lib.hid (show Below w.heap.size w (wa.alloc (.cells #[.int .i64 8, .string s, .int .i64 m] 44)).drew from (HBA.out.alloc HBA.out.size _).drew)
  obtain ⟨z0, z1⟩ : (wa.alloc (.cells #[.int .i64 8, .string s, .int .i64 m] 44)).drew.cell? ⟨w.heap.size, 0, none⟩ = some (.slice (some ⟨b, o, none⟩) sn scp) ∧ (wa.alloc (.cells #[.int .i64 8, .string s, .int .i64 m] 44)).drew.cell? ⟨w.heap.size, 1, none⟩ = some (.map (some B)) := ⟨kept ((Below.refl _ wa).alloc (Nat.le_refl _) _).drew s0, kept ((Below.refl _ wa).alloc (Nat.le_refl _) _).drew s1⟩
  go_wp2_with fail
  refine (binary_node N B env qs (some ⟨b, o, none⟩) sn scp s o0 o1 S _ (HNP.out.keep HB2.out) (HP.out.keep HB2.out) (HS.out.mono HB2.out.size) (HE.out.low HB2.out) HSG.out (HT.out.keep HB2.out)).mono ?_
  intro e w1 hr
  obtain ⟨r, rfl, hres⟩ := hr.ret
  have HR := Lib.hid (hres.from HB2.out)
  clear hr hres
  go_wp2
  go_ret
  exact HR.out

set_option maxRecDepth 100000 in
set_option maxHeartbeats 4000000 in
theorem result_name (N B : Nat) (env : List Bd) (qs : List Nat) (b o sn scp f : Nat) (s : ByteArray) (m : Int) (S : Nat → Prop) (w : World) (hn : NodeP w N qs) (n0 : w.cell? ⟨N, 0, none⟩ = some (.int .i64 (f : Int))) (hf : f < sn) (h60 : sn ≤ 60) (hsc : sn ≤ scp) (hcm : scp ≤ maxLen) (c0 : w.cell? ⟨b, o + f * 3, none⟩ = some (.int .i64 4)) (c1 : w.cell? ⟨b, o + f * 3 + 1, none⟩ = some (.string s)) (c2 : w.cell? ⟨b, o + f * 3 + 2, none⟩ = some (.int .i64 m)) (hS : Hi w.heap.size S) (he : EnvV w S B env) (htab : Tab w) (hd : diffB env) (hz : ShortB env) (hok : ∀ b ∈ env, nmL b.1 = true ∧ okV b.2 = true) (hss : s.size ≤ 60) :
    Calls Tryz.prog 76 #[.pointer (some ⟨N, 0, none⟩), .agg #[.slice (some ⟨b, o, none⟩) sn scp, .map (some B)]] w (Res S (envO env s) w) := by
  have HD := Lib.hid hd; have HZ := Lib.hid hz; have HOK := Lib.hid hok; clear hd hz hok
  have hzero : ∀ w, (zeroValue 70).run Tryz.prog w = .ok .nilIface w := fun w => by kernel_rfl
  have hN : N < w.heap.size := World.block_lt_of_cell? w _ n0
  have hbl : b < w.heap.size := World.block_lt_of_cell? w _ c0
  have HNP := Lib.hid hn; have HS := Lib.hid hS; have HE := Lib.hid he; have HT := Lib.hid htab
  have HBA := Lib.hid ((Below.refl w.heap.size w).alloc (Nat.le_refl _) (.cells #[.slice (some ⟨b, o, none⟩) sn scp, .map (some B)] 73))
  obtain ⟨s0, s1⟩ := scp_new w (some ⟨b, o, none⟩) sn scp B
  have m0 : (w.alloc (.cells #[.slice (some ⟨b, o, none⟩) sn scp, .map (some B)] 73)).cell? ⟨N, 0, none⟩ = some (.int .i64 (f : Int)) := (HBA.out.cell (p := ⟨N, 0, none⟩) hN).trans n0
  have d0 : (w.alloc (.cells #[.slice (some ⟨b, o, none⟩) sn scp, .map (some B)] 73)).cell? ⟨b, o + f * 3, none⟩ = some (.int .i64 4) := (HBA.out.cell (p := ⟨b, _, none⟩) hbl).trans c0
  have d1 : (w.alloc (.cells #[.slice (some ⟨b, o, none⟩) sn scp, .map (some B)] 73)).cell? ⟨b, o + f * 3 + 1, none⟩ = some (.string s) := (HBA.out.cell (p := ⟨b, _, none⟩) hbl).trans c1
  have d2 : (w.alloc (.cells #[.slice (some ⟨b, o, none⟩) sn scp, .map (some B)] 73)).cell? ⟨b, o + f * 3 + 2, none⟩ = some (.int .i64 m) := (HBA.out.cell (p := ⟨b, _, none⟩) hbl).trans c2
  have hfI : (f : Int) < (sn : Int) := by omega
  have hf0 : (0 : Int) ≤ (f : Int) := by omega
  unfold maxLen at hcm
  clear hn hS he htab n0 c0 c1 c2
  go_enter Tryz.func76, Tryz.ntmps76
  go_wp2_with fail
  generalize w.alloc (.cells #[.slice (some ⟨b, o, none⟩) sn scp, .map (some B)] 73) = wa at HBA s0 s1 m0 d0 d1 d2 ⊢
  have l1 : N < wa.heap.size := World.block_lt_of_cell? wa _ m0
  have l2 : b < wa.heap.size := World.block_lt_of_cell? wa _ d0
  have l3 : w.heap.size < wa.heap.size := World.block_lt_of_cell? wa _ s0
  have l4 : ¬ N = wa.heap.size := by omega
  have l5 : ¬ b = wa.heap.size := by omega
  have l6 : ¬ w.heap.size = wa.heap.size := by omega
  go_region
  have HB2 := Lib.hid (show Below w.heap.size w (wa.alloc (.cells #[.int .i64 4, .string s, .int .i64 m] 44)).drew from (HBA.out.alloc HBA.out.size _).drew)
  obtain ⟨z0, z1⟩ : (wa.alloc (.cells #[.int .i64 4, .string s, .int .i64 m] 44)).drew.cell? ⟨w.heap.size, 0, none⟩ = some (.slice (some ⟨b, o, none⟩) sn scp) ∧ (wa.alloc (.cells #[.int .i64 4, .string s, .int .i64 m] 44)).drew.cell? ⟨w.heap.size, 1, none⟩ = some (.map (some B)) := ⟨kept ((Below.refl _ wa).alloc (Nat.le_refl _) _).drew s0, kept ((Below.refl _ wa).alloc (Nat.le_refl _) _).drew s1⟩
  obtain ⟨us, hm, hv⟩ := HE.out.low HB2.out
  have hlook := hm.look1 (P := Tryz.prog) Tryz.underlying9 Tryz.underlying66 (hzero _) s (by unfold maxLen; omega) (by
    have h9 := zip_small (env := env) (us := us) (k := env.length) HZ.out
    rwa [List.take_of_length_le (Nat.le_refl _)] at h9)
  rcases hlook with ⟨u, hmem, hrun⟩ | ⟨hnone, hrun⟩
  · obtain ⟨p, hp, hvu⟩ := EnvV.at HD.out hv hmem
    have HN := Lib.hid hp
    have HV := Lib.hid hvu
    have HPO := Lib.hid (envO_ok HOK.out hp)
    obtain ⟨T, x, rfl⟩ := hvu.iface
    clear hm hv hmem hp hvu
    go_wp2
    go_ret
    exact Res.val HB2.out HV.out (HT.out.keep HB2.out) HPO.out HN.out
  · have HN := Lib.hid (EnvV.not (env := env) (us := us) (by have := hv.len; rwa [List.length_map] at this) hnone)
    clear hm hv hnone
    go_wp2
    go_ret
    exact Res.nil HB2.out HN.out

set_option maxRecDepth 100000 in
set_option maxHeartbeats 4000000 in
theorem result_unary (o0 : Option (List Cl)) (N B : Nat) (env : List Bd) (qs : List Nat) (b o sn scp f : Nat) (s : ByteArray) (m : Int) (S : Nat → Prop) (w : World) (hn : NodeP w N qs) (n0 : w.cell? ⟨N, 0, none⟩ = some (.int .i64 (f : Int))) (hf : f < sn) (h60 : sn ≤ 60) (hsc : sn ≤ scp) (hcm : scp ≤ maxLen) (c0 : w.cell? ⟨b, o + f * 3, none⟩ = some (.int .i64 7)) (c1 : w.cell? ⟨b, o + f * 3 + 1, none⟩ = some (.string s)) (c2 : w.cell? ⟨b, o + f * 3 + 2, none⟩ = some (.int .i64 m)) (hS : Hi w.heap.size S) (he : EnvV w S B env) (htab : Tab w) (hp : PartsE w B env qs (.agg #[.slice (some ⟨b, o, none⟩) sn scp, .map (some B)]) [o0]) :
    Calls Tryz.prog 76 #[.pointer (some ⟨N, 0, none⟩), .agg #[.slice (some ⟨b, o, none⟩) sn scp, .map (some B)]] w (Res S (unaO s o0) w) := by
  have HP := Lib.hid hp; clear hp
  have hN : N < w.heap.size := World.block_lt_of_cell? w _ n0
  have hbl : b < w.heap.size := World.block_lt_of_cell? w _ c0
  have HNP := Lib.hid hn; have HS := Lib.hid hS; have HE := Lib.hid he; have HT := Lib.hid htab
  have HBA := Lib.hid ((Below.refl w.heap.size w).alloc (Nat.le_refl _) (.cells #[.slice (some ⟨b, o, none⟩) sn scp, .map (some B)] 73))
  obtain ⟨s0, s1⟩ := scp_new w (some ⟨b, o, none⟩) sn scp B
  have m0 : (w.alloc (.cells #[.slice (some ⟨b, o, none⟩) sn scp, .map (some B)] 73)).cell? ⟨N, 0, none⟩ = some (.int .i64 (f : Int)) := (HBA.out.cell (p := ⟨N, 0, none⟩) hN).trans n0
  have d0 : (w.alloc (.cells #[.slice (some ⟨b, o, none⟩) sn scp, .map (some B)] 73)).cell? ⟨b, o + f * 3, none⟩ = some (.int .i64 7) := (HBA.out.cell (p := ⟨b, _, none⟩) hbl).trans c0
  have d1 : (w.alloc (.cells #[.slice (some ⟨b, o, none⟩) sn scp, .map (some B)] 73)).cell? ⟨b, o + f * 3 + 1, none⟩ = some (.string s) := (HBA.out.cell (p := ⟨b, _, none⟩) hbl).trans c1
  have d2 : (w.alloc (.cells #[.slice (some ⟨b, o, none⟩) sn scp, .map (some B)] 73)).cell? ⟨b, o + f * 3 + 2, none⟩ = some (.int .i64 m) := (HBA.out.cell (p := ⟨b, _, none⟩) hbl).trans c2
  have hfI : (f : Int) < (sn : Int) := by omega
  have hf0 : (0 : Int) ≤ (f : Int) := by omega
  unfold maxLen at hcm
  clear hn hS he htab n0 c0 c1 c2
  go_enter Tryz.func76, Tryz.ntmps76
  go_wp2_with fail
  generalize w.alloc (.cells #[.slice (some ⟨b, o, none⟩) sn scp, .map (some B)] 73) = wa at HBA s0 s1 m0 d0 d1 d2 ⊢
  have l1 : N < wa.heap.size := World.block_lt_of_cell? wa _ m0
  have l2 : b < wa.heap.size := World.block_lt_of_cell? wa _ d0
  have l3 : w.heap.size < wa.heap.size := World.block_lt_of_cell? wa _ s0
  have l4 : ¬ N = wa.heap.size := by omega
  have l5 : ¬ b = wa.heap.size := by omega
  have l6 : ¬ w.heap.size = wa.heap.size := by omega
  go_region
  have HB2 := Lib.hid (show Below w.heap.size w (wa.alloc (.cells #[.int .i64 7, .string s, .int .i64 m] 44)).drew from (HBA.out.alloc HBA.out.size _).drew)
  obtain ⟨z0, z1⟩ : (wa.alloc (.cells #[.int .i64 7, .string s, .int .i64 m] 44)).drew.cell? ⟨w.heap.size, 0, none⟩ = some (.slice (some ⟨b, o, none⟩) sn scp) ∧ (wa.alloc (.cells #[.int .i64 7, .string s, .int .i64 m] 44)).drew.cell? ⟨w.heap.size, 1, none⟩ = some (.map (some B)) := ⟨kept ((Below.refl _ wa).alloc (Nat.le_refl _) _).drew s0, kept ((Below.refl _ wa).alloc (Nat.le_refl _) _).drew s1⟩
  have hq1 : qs.length = 1 := HP.out.1
  obtain ⟨ao, cap, n2, -, p1, p2, p3⟩ := HNP.out.keep HB2.out
  obtain ⟨g, rfl, hgl, cc⟩ := p3.resolve_left (by rintro rfl; simp at hq1)
  have a0 := cc 0 (by omega)
  generalize hq0 : qs[0] = q0 at a0
  have HQ0 := Lib.hid (show ∀ h : 0 < qs.length, qs[0] = q0 from fun _ => hq0)
  have HL := Lib.hid hq1
  rw [hq1] at n2 p1
  clear hq0 cc p3 s0 s1 m0 d0 d1 d2
  clear hq1
  unfold maxLen at p2
  have y1 : (wa.alloc (.cells #[.int .i64 7, .string s, .int .i64 m] 44)).drew.cell? ⟨wa.heap.size, 1, none⟩ = some (.string s) := by simp [go_sem]
  have y0 : (wa.alloc (.cells #[.int .i64 7, .string s, .int .i64 m] 44)).drew.cell? ⟨wa.heap.size, 0, none⟩ = some (.int .i64 7) := by simp [go_sem]
  have hwa : wa.heap.size < (wa.alloc (.cells #[.int .i64 7, .string s, .int .i64 m] 44)).drew.heap.size := by simp
  generalize wa.heap.size = gc at y0 y1 hwa ⊢
  generalize (wa.alloc (.cells #[.int .i64 7, .string s, .int .i64 m] 44)).drew = w2 at HB2 z0 z1 n2 a0 hgl y0 y1 hwa ⊢
  have HW := Lib.hid (show Below w.heap.size w w2.drew from HB2.out.drew)
  have HEV := Lib.hid (HP.out.2 0 (by have := HL.out; omega) (by simp) w2.drew S HW.out (HS.out.mono HW.out.size) (HE.out.low HW.out) (HT.out.keep HW.out))
  rw [HQ0.out] at HEV
  go_wp2_with fail
  go_region_held3 (fun w' => w'.cell? ⟨gc, 1, none⟩ = some (.string s) ∧ w'.cell? ⟨N, 2, none⟩ = some (.slice (some ⟨g, 0, none⟩) 1 cap) ∧ w'.cell? ⟨g, 0, none⟩ = some (.pointer (some ⟨q0, 0, none⟩)) ∧ w'.cell? ⟨w.heap.size, 0, none⟩ = some (.slice (some ⟨b, o, none⟩) sn scp) ∧ w'.cell? ⟨w.heap.size, 1, none⟩ = some (.map (some B)))
    (first
      | go_keep
      | (go_split_ands; exact ⟨kept hb4.out (by assumption), kept hb4.out (by assumption), kept hb4.out (by assumption), kept hb4.out (by assumption), kept hb4.out (by assumption)⟩)
      | (go_split_ands; exact ⟨kept hb3.out (by assumption), kept hb3.out (by assumption), kept hb3.out (by assumption), kept hb3.out (by assumption), kept hb3.out (by assumption)⟩))
    (first
      | (go_at_call 46; refine HEV.out.mono ?_; rintro e w3 h3; obtain ⟨u, rfl, hu3⟩ := ResE.shape h3; have hb3 := Lib.hid h3.1; have hh3 := Lib.hid hu3; clear h3 hu3)
      | (go_at_call 112; refine (unary_both s _ _ _ hh3.out (HT.out.keep (HW.out.trans (hb3.out.mono HW.out.size)))).mono ?_; rintro e w4 h4; obtain ⟨r, rfl, hres⟩ := h4.ret; have hb4 := Lib.hid hres.1; have hr4 := Lib.hid hres; clear h4 hres))
  have HR := Lib.hid (hr4.out.from (HW.out.trans (hb3.out.mono HW.out.size)))
  clear hr4 hh3 hb3 hb4
  go_wp2
  go_ret
  exact HR.out

end Go.Proofs.YtpcaciogglllbaaGreatDoor
