/-
  spec.l11Copy, by its contract.
-/
import Derived.Test.YtbmobgahokehmaaGreatDoorPushI
import Derived.Deep.Draws
import Derived.Deep.AppendLies
import Derived.RegionTactic
import Derived.BigRegion
import Derived.Deep.RegionLaw
import Derived.Deep.RegionHeld3
import Derived.Deep.DrawnRows
namespace Go.Proofs.YtbmobgahokehmaaGreatDoor
open Go.RowKit
set_option linter.unusedVariables false

theorem step_append_rowC {P : Program} {w : World} {ops : Array Oper} {o : Oper} {a : Act} {K : Act → World → Prop} {Q : Exit → Act → World → Prop} {E : Prop} (hgd : o.guard = none) (s x : Operand) (t : TypeId)
    (ho : o.op = .call { callee := .builtin .append, args := #[s, x], argTypes := #[t, t] })
    (base : Nat) (e : TypeId) (i : TypeInfo) (z : Value) (bytes : Nat) (ht : P.underlying t = some (.slice e)) (hi : P.info? e = some i) (hz : i.zero = some z)
    (hsize : i.size = 3) (hby : i.bytes = bytes) (hzs : z.cells.size = 3)
    (v : Value) (n : Nat) (xs : List Value) (hs : a.eval s = v) (hown : w.ownsRow base e 3 v n xs)
    (u : Value) (ys : List Cl) (hx : a.eval x = u) (hsrc : RowC w u ys)
    (h63 : n + ys.length ≤ maxLen) (hbytes : (n + ys.length) * bytes ≤ 140737488355328) (hbase : base ≤ w.heap.size)
    (h : ∀ v' w', w'.ownsRow base e 3 v' (n + ys.length) (xs ++ flatC ys) → w.grownBy w' v.ownBlock → K (a.put o.dst v') w') :
    if Region.wanted o (yielded ops a.tmps) = true then Oper.wp P o a w K Q else E := by
  have hw : Region.wanted o (yielded ops a.tmps) = true := by simp [Region.wanted, hgd]
  rw [if_pos hw]
  obtain ⟨ao, cap, rfl, h1, h2, h3⟩ := hsrc
  cases ao with
  | none =>
    have hy : ys = [] := by
      rcases h3 with h3 | ⟨b, o', hc, -⟩
      · exact h3
      · cases hc
    subst hy
    have hrun := run_append_nothing (P := P) (w := w) base t o.type e i 3 ht hi v n xs hown cap
    unfold Oper.wp
    simp only [List.length_nil] at hx
    simp [execOp, ho, resolve, invoke, builtin, hs, hx, hrun, Result.andThen]
    exact h v w (by simpa [flatC] using hown) (World.grownBy.refl _ _)
  | some ad =>
    refine wp_append_own w s x t ho base e i z 3 bytes ht hi hz hsize hby hzs (by decide) v n xs hs hown ad ys.length cap (flatC ys) hx (flatC_length ys) ?_ (flatC_one ys) h63 hbytes hbase (fun v' w' a1 a2 _ => h v' w' a1 a2)
    intro j y hj
    rcases h3 with rfl | ⟨b, o', hc, hbl, cc⟩
    · simp [flatC] at hj
    · injection hc with hc
      subst hc
      exact newsC cc j y hj

/-- Two items' blocks behind an append. -/
theorem It4.grown {W w1 : World} {B : Nat} {x0 x1 x2 x3 : Value} {row : Option Nat} (h : It4 W B x0 x1 x2 x3) (hg : W.grownBy w1 row) (hn : row ≠ some B) : It4 w1 B x0 x1 x2 x3 := by
  obtain ⟨⟨h1, h2, h3, h4⟩, ⟨f1, f2, f3, f4⟩, h5⟩ := h
  have hb : w1.heap[B]? = W.heap[B]? := hg.block B h5 (fun e => hn e.symm)
  have hc : ∀ i, w1.cell? ⟨B, i, none⟩ = W.cell? ⟨B, i, none⟩ := fun i => by simp [World.cell?, hb]
  have hf : ∀ i, w1.frozen? ⟨B, i, none⟩ = W.frozen? ⟨B, i, none⟩ := fun i => by simp [World.frozen?, hb]
  have hs := hg.size
  exact ⟨⟨(hc _).trans h1, (hc _).trans h2, (hc _).trans h3, (hc _).trans h4⟩, ⟨(hf _).trans f1, (hf _).trans f2, (hf _).trans f3, (hf _).trans f4⟩, by omega⟩

set_option maxRecDepth 100000 in
set_option maxHeartbeats 8000000 in
theorem l11Copy_any (u : Value) (k : Int) (nm t : ByteArray) (l : List Cl) (w : World) (hr : RowC w u l) (hl : l.length ≤ 1048576) :
    Calls Tryz.prog 53 #[.agg #[.int .i64 k, .string nm, u, .string t]] w fun e w' => ∃ u', e = .returned (.agg #[.int .i64 k, .string nm, u', .string t]) ∧ w'.ownsRow w.heap.size 82 3 u' l.length (flatC l) ∧ Below w.heap.size w w' := by
  obtain ⟨i0, hi, hz0, hz1, hz2⟩ := info_parts infoCI
  have HB0 := Lib.hid (((Below.refl w.heap.size w).alloc (Nat.le_refl _) (.cells #[.int .i64 k, .string nm, u, .string t] 25)).alloc (by simp) (.cells #[.int .i64 0, .string ⟨#[]⟩, .slice none 0 0, .string ⟨#[]⟩] 25))
  have HR := Lib.hid (hr.mono HB0.out)
  have X0 := Lib.hid ((It4.new w (.int .i64 k) (.string nm) u (.string t) 25).al (.cells #[.int .i64 0, .string ⟨#[]⟩, .slice none 0 0, .string ⟨#[]⟩] 25))
  have Y0 := Lib.hid (show It4 ((w.alloc (.cells #[.int .i64 k, .string nm, u, .string t] 25)).alloc (.cells #[.int .i64 0, .string ⟨#[]⟩, .slice none 0 0, .string ⟨#[]⟩] 25)) (w.heap.size + 1) (.int .i64 0) (.string ⟨#[]⟩) (.slice none 0 0) (.string ⟨#[]⟩) by
    have := It4.new (w.alloc (.cells #[.int .i64 k, .string nm, u, .string t] 25)) (.int .i64 0) (.string ⟨#[]⟩) (.slice none 0 0) (.string ⟨#[]⟩) 25
    simpa using this)
  obtain ⟨ao, cap, rfl, -⟩ := hr
  have HSZ := Lib.hid (show ((w.alloc (.cells #[.int .i64 k, .string nm, .slice ao l.length cap, .string t] 25)).alloc (.cells #[.int .i64 0, .string ⟨#[]⟩, .slice none 0 0, .string ⟨#[]⟩] 25)).heap.size = w.heap.size + 2 by simp)
  go_enter Tryz.func53, Tryz.ntmps53
  go_upto_region 1 with (fail)
  generalize hW : ((w.alloc (.cells #[.int .i64 k, .string nm, .slice ao l.length cap, .string t] 25)).alloc (.cells #[.int .i64 0, .string ⟨#[]⟩, .slice none 0 0, .string ⟨#[]⟩] 25)) = W at HB0 HR X0 Y0 HSZ ⊢
  have HL := Lib.hid (show ((W.alloc (.cells #[] 82)).drew).ownsRow (w.heap.size + 2) 82 3 (.slice (some ⟨W.heap.size, 0, none⟩) 0 0) 0 [] from (World.ownsRow_lit (e := 82) (size := 3) (base := w.heap.size + 2) W #[] 0 (by rw [HSZ.out]; exact Nat.le_refl _) (by unfold maxLen; omega) rfl).drew)
  have HRD := Lib.hid (show RowC ((W.alloc (.cells #[] 82)).drew) (.slice ao l.length cap) l from (HR.out.al _).mono ⟨rfl, rfl, rfl, Nat.le_refl _, fun _ _ => rfl⟩)
  have HBD := Lib.hid (show Below w.heap.size w ((W.alloc (.cells #[] 82)).drew) from (HB0.out.alloc HB0.out.size _).trans ⟨rfl, rfl, rfl, Nat.le_refl _, fun _ _ => rfl⟩)
  have XD := Lib.hid (show It4 ((W.alloc (.cells #[] 82)).drew) w.heap.size (.int .i64 k) (.string nm) (.slice ao l.length cap) (.string t) from (X0.out.al _).keep ⟨rfl, rfl, rfl, Nat.le_refl _, fun _ _ => rfl⟩)
  have YD := Lib.hid (show It4 ((W.alloc (.cells #[] 82)).drew) (w.heap.size + 1) (.int .i64 0) (.string ⟨#[]⟩) (.slice none 0 0) (.string ⟨#[]⟩) from (Y0.out.al _).keep ⟨rfl, rfl, rfl, Nat.le_refl _, fun _ _ => rfl⟩)
  have HLE := Lib.hid (show w.heap.size + 2 ≤ ((W.alloc (.cells #[] 82)).drew).heap.size by have h1 := HSZ.out; have h2 := ((Below.refl W.heap.size W).alloc (Nat.le_refl _) (.cells #[] 82)).size; show _ ≤ (W.alloc (.cells #[] 82)).heap.size; omega)
  have HOB := Lib.hid (show (Value.slice (some ⟨W.heap.size, 0, none⟩) 0 0).ownBlock ≠ some w.heap.size ∧ (Value.slice (some ⟨W.heap.size, 0, none⟩) 0 0).ownBlock ≠ some (w.heap.size + 1) ∧ ∀ x, (Value.slice (some ⟨W.heap.size, 0, none⟩) 0 0).ownBlock = some x → w.heap.size ≤ x from by
    have h1 := HSZ.out
    refine ⟨fun h => ?_, fun h => ?_, fun x h => ?_⟩ <;> (simp only [Value.ownBlock, Option.some.injEq] at h; omega))
  obtain ⟨⟨x0, x1, x2, x3⟩, -⟩ := X0.out
  obtain ⟨⟨y0, y1, y2, y3⟩, ⟨g0, g1, g2, g3⟩, -⟩ := Y0.out
  obtain ⟨⟨xd0, xd1, xd2, xd3⟩, -⟩ := XD.out
  clear hW
  go_region_held3 (fun w' => w'.cell? ⟨w.heap.size, 0, none⟩ = some (.int .i64 k) ∧ w'.cell? ⟨w.heap.size, 1, none⟩ = some (.string nm) ∧ w'.cell? ⟨w.heap.size, 2, none⟩ = some (.slice ao l.length cap) ∧ w'.cell? ⟨w.heap.size, 3, none⟩ = some (.string t))
    (first
      | exact ⟨x0, x1, x2, x3⟩
      | exact ⟨xd0, xd1, xd2, xd3⟩
      | exact ⟨z0, z1, z2, z3⟩
      | go_keep)
    ((first
      | (refine step_append_rowC (by rfl) _ _ 23 (by rfl) (w.heap.size + 2) 82 i0 (.agg #[.int .i64 0, .string ByteArray.empty, .int .i64 0]) 32 Tryz.underlying23 hi hz0 hz1 hz2 (by decide) _ 0 [] (by rfl) (by exact HL.out) _ l (by rfl) (by exact HRD.out) (by unfold maxLen; omega) (by omega) (by exact HLE.out) ?_; intro v1 w1 hown1 hgrow1
         rw [List.nil_append, Nat.zero_add] at hown1
         obtain ⟨⟨z0, z1, z2, z3⟩, -⟩ := XD.out.grown hgrow1 HOB.out.1
         obtain ⟨⟨y0, y1, y2, y3⟩, ⟨g0, g1, g2, g3⟩, hlt1⟩ := YD.out.grown hgrow1 HOB.out.2.1
         have HB1 := Lib.hid (HBD.out.grown hgrow1 (by have := HLE.out; omega) HOB.out.2.2)
         obtain ⟨a2, c2, rfl⟩ := own_shape hown1
         have HO1 := Lib.hid hown1
         clear hown1 hgrow1)))
  all_goals
    (try go_wp2)
    have hne1 : ∀ g, (Value.slice a2 l.length c2).ownBlock = some g → g ≠ w.heap.size + 1 := fun g hg => by have := (HO1.out.lt g hg).1; omega
    have h1 : w.heap.size ≤ w.heap.size + 1 := by omega
    have HOX := Lib.hid (show ((((w1.setCell ⟨w.heap.size + 1, 0, none⟩ (.int .i64 k)).setCell ⟨w.heap.size + 1, 1, none⟩ (.string nm)).setCell ⟨w.heap.size + 1, 2, none⟩ (.slice a2 l.length c2)).setCell ⟨w.heap.size + 1, 3, none⟩ (.string t)).ownsRow w.heap.size 82 3 (.slice a2 l.length c2) l.length (flatC l) from
      own_base (own_keep HO1.out (fun g hg => by
        have := hne1 g hg
        rw [Below.heap_setCell _ _ _ _ this, Below.heap_setCell _ _ _ _ this, Below.heap_setCell _ _ _ _ this, Below.heap_setCell _ _ _ _ this])) (fun g hg => by have := (HO1.out.lt g hg).1; omega))
    have HBX := Lib.hid ((((HB1.out.setCell (p := ⟨w.heap.size + 1, 0, none⟩) h1 (.int .i64 k)).setCell (p := ⟨w.heap.size + 1, 1, none⟩) h1 (.string nm)).setCell (p := ⟨w.heap.size + 1, 2, none⟩) h1 (.slice a2 l.length c2)).setCell (p := ⟨w.heap.size + 1, 3, none⟩) h1 (.string t))
    refine bodyPost_ret (v := .agg #[.int .i64 k, .string nm, .slice a2 l.length c2, .string t]) (by simp [results, Tryz.results53, go_sem, y0, y1, y2, y3]) rfl ⟨_, rfl, ?_, ?_⟩
    · exact HOX.out
    · exact ⟨HBX.out.os, HBX.out.tape, HBX.out.output, HBX.out.size, HBX.out.block⟩

end Go.Proofs.YtbmobgahokehmaaGreatDoor
