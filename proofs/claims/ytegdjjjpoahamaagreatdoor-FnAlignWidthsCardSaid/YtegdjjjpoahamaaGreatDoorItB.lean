/-
  An item in a block of its own (It4).
-/
import Derived.Test.YtegdjjjpoahamaaGreatDoorOwnI
import Derived.Below
set_option linter.unusedVariables false
namespace Go.Proofs.YtegdjjjpoahamaaGreatDoor
open Go.RowKit
def It4 (w:World) (B:Nat) (x0 x1 x2 x3:Value):Prop:=(w.cell? ⟨B,0,none⟩=some x0∧w.cell? ⟨B,1,none⟩=some x1∧w.cell? ⟨B,2,none⟩=some x2∧w.cell? ⟨B,3,none⟩=some x3)∧(w.frozen? ⟨B,0,none⟩=false∧w.frozen? ⟨B,1,none⟩=false∧w.frozen? ⟨B,2,none⟩=false∧w.frozen? ⟨B,3,none⟩=false)∧B<w.heap.size
theorem It4.keep {W w1:World} {B:Nat} {x0 x1 x2 x3:Value} (h:It4 W B x0 x1 x2 x3) (hb:Below W.heap.size W w1):It4 w1 B x0 x1 x2 x3:=by
 obtain ⟨⟨h1,h2,h3,h4⟩,⟨f1,f2,f3,f4⟩,h5⟩:=h
 have hc: ∀i,w1.cell? ⟨B,i,none⟩=W.cell? ⟨B,i,none⟩:=fun i=>hb.cell (p:=⟨B,i,none⟩) h5
 have hf: ∀i,w1.frozen? ⟨B,i,none⟩=W.frozen? ⟨B,i,none⟩:=fun i=>hb.frozen (p:=⟨B,i,none⟩) h5
 have hs:=hb.size
 exact ⟨⟨(hc _).trans h1,(hc _).trans h2,(hc _).trans h3,(hc _).trans h4⟩,⟨(hf _).trans f1,(hf _).trans f2,(hf _).trans f3,(hf _).trans f4⟩,by omega⟩
theorem It4.new (W:World) (x0 x1 x2 x3:Value) (t:TypeId):It4 (W.alloc (.cells #[x0,x1,x2,x3] t)) W.heap.size x0 x1 x2 x3:=by
 refine ⟨⟨?_, ?_, ?_, ?_⟩,⟨?_, ?_, ?_, ?_⟩, ?_⟩<;>simp [go_sem]
theorem It4.al {W:World} {B:Nat} {x0 x1 x2 x3:Value} (h:It4 W B x0 x1 x2 x3) (o:Obj):It4 (W.alloc o) B x0 x1 x2 x3:=h.keep ((Below.refl _ W).alloc (Nat.le_refl _) _)
theorem It4.grown {W w1:World} {B:Nat} {x0 x1 x2 x3:Value} {row:Option Nat} (h:It4 W B x0 x1 x2 x3) (hg:W.grownBy w1 row) (hn:row≠some B):It4 w1 B x0 x1 x2 x3:=by
 obtain ⟨⟨h1,h2,h3,h4⟩,⟨f1,f2,f3,f4⟩,h5⟩:=h
 have hb:w1.heap[B]? =W.heap[B]? :=hg.block B h5 (fun e=>hn e.symm)
 have hc: ∀i,w1.cell? ⟨B,i,none⟩=W.cell? ⟨B,i,none⟩:=fun i=>by simp [World.cell?,hb]
 have hf: ∀i,w1.frozen? ⟨B,i,none⟩=W.frozen? ⟨B,i,none⟩:=fun i=>by simp [World.frozen?,hb]
 have hs:=hg.size
 exact ⟨⟨(hc _).trans h1,(hc _).trans h2,(hc _).trans h3,(hc _).trans h4⟩,⟨(hf _).trans f1,(hf _).trans f2,(hf _).trans f3,(hf _).trans f4⟩,by omega⟩
theorem infoIt:(Tryz.prog.info? 32).map (fun i=>(i.zero,i.size,i.bytes))=some (some (.agg #[.int .i64 0, .string ByteArray.empty, .slice none 0 0, .string ByteArray.empty]),4,64):=by kernel_rfl
end Go.Proofs.YtegdjjjpoahamaaGreatDoor
