/-
  spec.ItemLine, by its contract.
-/
import Derived.Test.YthijkjnngfnfdaaGreatDoorLineS
import Derived.Test.YthijkjnngfnfdaaGreatDoorItemS
import Derived.Test.YthijkjnngfnfdaaGreatDoorItB
set_option linter.unusedVariables false
set_option maxHeartbeats 4000000
set_option maxRecDepth 100000
namespace Go.Proofs.YthijkjnngfnfdaaGreatDoor
open Go.RowKit
noncomputable def lineD (i:It) (d:Int):ByteArray:=if itemB i=true∧inI d 0 4=true then baL (lineI i d.toNat 0) else ⟨#[]⟩
theorem inI_iff {n lo hi:Int}:inI n lo hi=true↔lo≤n∧n≤hi:=by simp [inI]
theorem itemLine_spec (i:It) (u:Value) (d:Int) (w:World) (hr:RowC w u i.2.2.1) (hn:i.2.1.size≤1048576) (hz:ShortC i.2.2.1) (hl:i.2.2.1.length≤1048576) (ht:i.2.2.2.size≤1048576):
  Calls Tryz.prog 12 #[.agg #[.int .i64 i.1, .string i.2.1,u, .string i.2.2.2], .int .i64 d] w fun e w'=>e= .returned (.string (lineD i d))∧Below w.heap.size w w':=by
 have HB1:=Lib.hid ((Below.refl w.heap.size w).alloc (Nat.le_refl _) (.cells #[.int .i64 i.1, .string i.2.1,u, .string i.2.2.2] 25))
 have HR1:=Lib.hid (hr.mono HB1.out)
 have HI1:=Lib.hid (It4.new w (.int .i64 i.1) (.string i.2.1) u (.string i.2.2.2) 25)
 have HC:=Lib.hid (itemValid_spec i u _ HR1.out (by unfold maxLen;omega) hz hl (by unfold maxLen;omega))
 have HLN:=Lib.hid (fun (w':World) (hv:itemB i=true) (deep:Nat) (hd:deep≤4) (hr':RowC w' u i.2.2.1)=>line_spec i u deep 0 w' hv hr' hn ht hd (by omega))
 obtain ⟨ao,cap,hu,-,-,-⟩:=hr
 have HLD:=Lib.hid (show lineD i d=if itemB i=true∧inI d 0 4=true then baL (lineI i d.toNat 0) else ⟨#[]⟩ from rfl)
 obtain ⟨k,n,l,t⟩:=i
 simp only at hu HC HLN HI1 HB1 HR1 hn ht⊢
 subst hu
 clear hz
 cases hv:itemB (k,n,l,t) with
 |false=>
  have HL:=Lib.hid (show lineD (k,n,l,t) d=⟨#[]⟩ by rw [HLD.out,if_neg (by rw [hv];simp)])
  rw [hv] at HC
  clear hv
  go_enter Tryz.func12,Tryz.ntmps12
  go_wp2_with fail
  refine HC.out.mono ?_
  rintro e w2 ⟨rfl,hb2⟩
  have HB2:=Lib.hid (HB1.out.trans (hb2.mono HB1.out.size));clear hb2
  go_wp2
  go_ret
  exact ⟨by rw [HL.out];rfl,HB2.out⟩
 |true=>
  have HLV:=Lib.hid (HLN.out · hv)
  have HVV:=Lib.hid hv
  rw [hv] at HC
  clear hv
  go_enter Tryz.func12,Tryz.ntmps12
  go_wp2_with fail
  refine HC.out.mono ?_
  rintro e w2 ⟨rfl,hb2⟩
  have HB2:=Lib.hid (HB1.out.trans (hb2.mono HB1.out.size));have HI2:=Lib.hid (HI1.out.keep hb2);have HR2:=Lib.hid (HR1.out.mono hb2);clear hb2
  go_wp2_with fail
  refine (l1In_any d 0 4 _).mono ?_
  rintro e w3 ⟨rfl,hw3⟩
  subst hw3
  cases hd:inI d 0 4 with
  |false=>
   have HL:=Lib.hid (show lineD (k,n,l,t) d=⟨#[]⟩ by rw [HLD.out,if_neg (by rw [hd];simp)])
   clear hd
   go_wp2
   go_ret
   exact ⟨by rw [HL.out];rfl,HB2.out⟩
  |true=>
   have HL:=Lib.hid (show lineD (k,n,l,t) d=baL (lineI (k,n,l,t) d.toNat 0) by rw [HLD.out,if_pos ⟨HVV.out,hd⟩])
   obtain ⟨d0,d4⟩:=inI_iff.mp hd
   obtain ⟨D,rfl⟩: ∃D:Nat,d=(D:Int):=⟨d.toNat,by omega⟩
   obtain ⟨⟨z0,z1,z2,z3⟩,-,hzz⟩:=HI2.out
   clear hd
   go_wp2_with fail
   refine (HLV.out w2 D (by omega) HR2.out).mono ?_
   rintro e w4 ⟨rfl,hb4⟩
   have HB4:=Lib.hid (HB2.out.trans (hb4.mono HB2.out.size));clear hb4
   go_wp2
   go_ret
   exact ⟨by rw [HL.out];rfl,HB4.out⟩
end Go.Proofs.YthijkjnngfnfdaaGreatDoor
