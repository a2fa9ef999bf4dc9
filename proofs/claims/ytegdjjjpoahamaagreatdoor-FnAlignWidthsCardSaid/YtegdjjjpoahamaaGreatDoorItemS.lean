/-
  spec.ItemValid, by its contract.
-/
import Derived.Test.YtegdjjjpoahamaaGreatDoorBaseI
import Derived.Test.YtegdjjjpoahamaaGreatDoorBaseC
import Derived.Test.YtegdjjjpoahamaaGreatDoorRowIt
import Derived.Test.YtegdjjjpoahamaaGreatDoorNoteS
set_option linter.unusedVariables false
set_option maxHeartbeats 4000000
set_option maxRecDepth 100000
namespace Go.Proofs.YtegdjjjpoahamaaGreatDoor
open Go.RowKit
theorem simple_any (s:ByteArray) (w:World) (hs:s.size≤maxLen):
  Calls Tryz.prog 83 #[.string s] w fun e w'=>e= .returned (.bool (simpB s))∧w=w':=by
 unfold simpB
 cases hp:nameL s.data.toList with
 |false=>
  go_enter Tryz.func83,Tryz.ntmps83
  go_wp2_with fail
  refine (nameValid_spec s _ hs).mono ?_
  rintro e w' ⟨rfl,rfl⟩
  rw [hp]
  go_wp2
  go_ret
  exact ⟨rfl,rfl⟩
 |true=>
  have HH:=Lib.hid (l1Has_any s 46 w hs (by omega) (by omega))
  cases h9:hasL s.data.toList 46
  all_goals
   go_enter Tryz.func83,Tryz.ntmps83
   go_wp2_with fail
   refine (nameValid_spec s _ hs).mono ?_
   rintro e w' ⟨rfl,rfl⟩
   rw [hp]
   go_wp2_with fail
   refine HH.out.mono ?_
   rintro e w' ⟨rfl,rfl⟩
   rw [h9]
   go_wp2
   go_ret
   exact ⟨rfl,rfl⟩
theorem itemS_k1 (n:ByteArray) (l:List Cl) (t:ByteArray) (u:Value) (w:World) (hr:RowC w u l) (hn:n.size≤maxLen) (hz:ShortC l) (hl:l.length≤1048576) (ht:t.size≤maxLen):
  Calls Tryz.prog 51 #[.agg #[.int .i64 1, .string n,u, .string t]] w fun e w'=>e= .returned (.bool (emB n&&(l.isEmpty&&emB t)))∧Below w.heap.size w w':=by
 have HB0:=Lib.hid ((Below.refl w.heap.size w).alloc (Nat.le_refl _) (.cells #[.int .i64 1, .string n,u, .string t] 32))
 obtain ⟨ao,cap,rfl,-⟩:=hr
 cases h1:emB n with
 |false=>
  obtain ⟨a1,a2,a3,a4⟩:=em_f h1
  clear hz
  go_enter Tryz.func51,Tryz.ntmps51
  go_wp2
  go_ret
  exact ⟨rfl,HB0.out⟩
 |true=>
  obtain ⟨a1,a2,a3,a4⟩:=em_t h1
  cases h2:l.isEmpty with
  |false=>
   have b1:=(le_f h2).1
   clear hz
   go_enter Tryz.func51,Tryz.ntmps51
   go_wp2
   go_ret
   exact ⟨rfl,HB0.out⟩
  |true=>
   have b1:=(le_t h2).1
   cases h3:emB t with
   |false=>
    obtain ⟨c1,c2,c3,c4⟩:=em_f h3
    clear hz
    go_enter Tryz.func51,Tryz.ntmps51
    go_wp2
    go_ret
    exact ⟨rfl,HB0.out⟩
   |true=>
    obtain ⟨c1,c2,c3,c4⟩:=em_t h3
    clear hz
    go_enter Tryz.func51,Tryz.ntmps51
    go_wp2
    go_ret
    exact ⟨rfl,HB0.out⟩
theorem itemS_k5 (n:ByteArray) (l:List Cl) (t:ByteArray) (u:Value) (w:World) (hr:RowC w u l) (hn:n.size≤maxLen) (hz:ShortC l) (hl:l.length≤1048576) (ht:t.size≤maxLen):
  Calls Tryz.prog 51 #[.agg #[.int .i64 5, .string n,u, .string t]] w fun e w'=>e= .returned (.bool (emB n&&(l.isEmpty&&emB t)))∧Below w.heap.size w w':=by
 have HB0:=Lib.hid ((Below.refl w.heap.size w).alloc (Nat.le_refl _) (.cells #[.int .i64 5, .string n,u, .string t] 32))
 obtain ⟨ao,cap,rfl,-⟩:=hr
 cases h1:emB n with
 |false=>
  obtain ⟨a1,a2,a3,a4⟩:=em_f h1
  clear hz
  go_enter Tryz.func51,Tryz.ntmps51
  go_wp2
  go_ret
  exact ⟨rfl,HB0.out⟩
 |true=>
  obtain ⟨a1,a2,a3,a4⟩:=em_t h1
  cases h2:l.isEmpty with
  |false=>
   have b1:=(le_f h2).1
   clear hz
   go_enter Tryz.func51,Tryz.ntmps51
   go_wp2
   go_ret
   exact ⟨rfl,HB0.out⟩
  |true=>
   have b1:=(le_t h2).1
   cases h3:emB t with
   |false=>
    obtain ⟨c1,c2,c3,c4⟩:=em_f h3
    clear hz
    go_enter Tryz.func51,Tryz.ntmps51
    go_wp2
    go_ret
    exact ⟨rfl,HB0.out⟩
   |true=>
    obtain ⟨c1,c2,c3,c4⟩:=em_t h3
    clear hz
    go_enter Tryz.func51,Tryz.ntmps51
    go_wp2
    go_ret
    exact ⟨rfl,HB0.out⟩
theorem itemS_k2 (n:ByteArray) (l:List Cl) (t:ByteArray) (u:Value) (w:World) (hr:RowC w u l) (hn:n.size≤maxLen) (hz:ShortC l) (hl:l.length≤1048576) (ht:t.size≤maxLen):
  Calls Tryz.prog 51 #[.agg #[.int .i64 2, .string n,u, .string t]] w fun e w'=>e= .returned (.bool (emB n&&(l.isEmpty&&noteB t)))∧Below w.heap.size w w':=by
 have HB0:=Lib.hid ((Below.refl w.heap.size w).alloc (Nat.le_refl _) (.cells #[.int .i64 2, .string n,u, .string t] 32))
 obtain ⟨ao,cap,rfl,-⟩:=hr
 cases h1:emB n with
 |false=>
  obtain ⟨a1,a2,a3,a4⟩:=em_f h1
  clear hz
  go_enter Tryz.func51,Tryz.ntmps51
  go_wp2
  go_ret
  exact ⟨rfl,HB0.out⟩
 |true=>
  obtain ⟨a1,a2,a3,a4⟩:=em_t h1
  cases h2:l.isEmpty with
  |false=>
   have b1:=(le_f h2).1
   clear hz
   go_enter Tryz.func51,Tryz.ntmps51
   go_wp2
   go_ret
   exact ⟨rfl,HB0.out⟩
  |true=>
   have b1:=(le_t h2).1
   clear hz
   cases h9:noteB t
   all_goals
    go_enter Tryz.func51,Tryz.ntmps51
    go_wp2_with fail
    refine (note_spec t _ ht).mono ?_
    rintro e w1 ⟨rfl,rfl⟩
    rw [h9]
    go_wp2
    go_ret
    exact ⟨rfl,HB0.out⟩
theorem itemS_k3 (n:ByteArray) (l:List Cl) (t:ByteArray) (u:Value) (w:World) (hr:RowC w u l) (hn:n.size≤maxLen) (hz:ShortC l) (hl:l.length≤1048576) (ht:t.size≤maxLen):
  Calls Tryz.prog 51 #[.agg #[.int .i64 3, .string n,u, .string t]] w fun e w'=>e= .returned (.bool (simpB n&&(okE l&&noteB t)))∧Below w.heap.size w w':=by
 have HB0:=Lib.hid ((Below.refl w.heap.size w).alloc (Nat.le_refl _) (.cells #[.int .i64 3, .string n,u, .string t] 32))
 have HRX:=Lib.hid (hr.mono HB0.out)
 have HX:=Lib.hid (exprValid_spec u l _ HRX.out hz hl)
 obtain ⟨ao,cap,rfl,-⟩:=hr
 have HBX:=Lib.hid (fun w1 (h:Below (w.alloc (.cells #[.int .i64 3, .string n, .slice ao l.length cap, .string t] 32)).heap.size (w.alloc (.cells #[.int .i64 3, .string n, .slice ao l.length cap, .string t] 32)) w1)=>boxI h)
 clear hz
 cases h1:simpB n with
 |false=>
  go_enter Tryz.func51,Tryz.ntmps51
  go_wp2_with fail
  refine (simple_any n _ hn).mono ?_
  rintro e w1 ⟨rfl,rfl⟩
  rw [h1]
  go_wp2
  go_ret
  exact ⟨rfl,HB0.out⟩
 |true=>
  cases h2:okE l with
  |false=>
   go_enter Tryz.func51,Tryz.ntmps51
   go_wp2_with fail
   refine (simple_any n _ hn).mono ?_
   rintro e w1 ⟨rfl,rfl⟩
   rw [h1]
   go_wp2_with fail
   refine HX.out.mono ?_
   rintro e w1 ⟨rfl,hb1⟩
   have HB1:=Lib.hid (HB0.out.trans (hb1.mono HB0.out.size));clear hb1
   rw [h2]
   go_wp2
   go_ret
   exact ⟨rfl,HB1.out⟩
  |true=>
   cases h9:noteB t
   all_goals
    go_enter Tryz.func51,Tryz.ntmps51
    go_wp2_with fail
    refine (simple_any n _ hn).mono ?_
    rintro e w1 ⟨rfl,rfl⟩
    rw [h1]
    go_wp2_with fail
    refine HX.out.mono ?_
    rintro e w1 ⟨rfl,hb1⟩
    obtain ⟨d0,d1,d2,d3⟩:=HBX.out w1 hb1
    have HB1:=Lib.hid (HB0.out.trans (hb1.mono HB0.out.size));clear hb1
    rw [h2]
    go_wp2_with fail
    refine (note_spec t _ ht).mono ?_
    rintro e w2 ⟨rfl,rfl⟩
    rw [h9]
    go_wp2
    go_ret
    exact ⟨rfl,HB1.out⟩
theorem itemS_k4 (n:ByteArray) (l:List Cl) (t:ByteArray) (u:Value) (w:World) (hr:RowC w u l) (hn:n.size≤maxLen) (hz:ShortC l) (hl:l.length≤1048576) (ht:t.size≤maxLen):
  Calls Tryz.prog 51 #[.agg #[.int .i64 4, .string n,u, .string t]] w fun e w'=>e= .returned (.bool (simpB n&&(l.isEmpty&&emB t)))∧Below w.heap.size w w':=by
 have HB0:=Lib.hid ((Below.refl w.heap.size w).alloc (Nat.le_refl _) (.cells #[.int .i64 4, .string n,u, .string t] 32))
 obtain ⟨ao,cap,rfl,-⟩:=hr
 clear hz
 cases h1:simpB n with
 |false=>
  go_enter Tryz.func51,Tryz.ntmps51
  go_wp2_with fail
  refine (simple_any n _ hn).mono ?_
  rintro e w1 ⟨rfl,rfl⟩
  rw [h1]
  go_wp2
  go_ret
  exact ⟨rfl,HB0.out⟩
 |true=>
  cases h2:l.isEmpty with
  |false=>
   have b1:=(le_f h2).1
   go_enter Tryz.func51,Tryz.ntmps51
   go_wp2_with fail
   refine (simple_any n _ hn).mono ?_
   rintro e w1 ⟨rfl,rfl⟩
   rw [h1]
   go_wp2
   go_ret
   exact ⟨rfl,HB0.out⟩
  |true=>
   have b1:=(le_t h2).1
   cases h3:emB t with
   |false=>
    obtain ⟨c1,c2,c3,c4⟩:=em_f h3
    go_enter Tryz.func51,Tryz.ntmps51
    go_wp2_with fail
    refine (simple_any n _ hn).mono ?_
    rintro e w1 ⟨rfl,rfl⟩
    rw [h1]
    go_wp2
    go_ret
    exact ⟨rfl,HB0.out⟩
   |true=>
    obtain ⟨c1,c2,c3,c4⟩:=em_t h3
    go_enter Tryz.func51,Tryz.ntmps51
    go_wp2_with fail
    refine (simple_any n _ hn).mono ?_
    rintro e w1 ⟨rfl,rfl⟩
    rw [h1]
    go_wp2
    go_ret
    exact ⟨rfl,HB0.out⟩
theorem itemS_ko (k:Int) (h1:k≠1) (h2:k≠2) (h3:k≠3) (h4:k≠4) (h5:k≠5) (n:ByteArray) (l:List Cl) (t:ByteArray) (u:Value) (w:World) (hr:RowC w u l) (hn:n.size≤maxLen) (hz:ShortC l) (hl:l.length≤1048576) (ht:t.size≤maxLen):
  Calls Tryz.prog 51 #[.agg #[.int .i64 k, .string n,u, .string t]] w fun e w'=>e= .returned (.bool (false))∧Below w.heap.size w w':=by
 have HB0:=Lib.hid ((Below.refl w.heap.size w).alloc (Nat.le_refl _) (.cells #[.int .i64 k, .string n,u, .string t] 32))
 obtain ⟨ao,cap,rfl,-⟩:=hr
 clear hz
 have a1:(k==1)=false:=beq_eq_false_iff_ne.mpr h1
 have a2:(k==2)=false:=beq_eq_false_iff_ne.mpr h2
 have a3:(k==3)=false:=beq_eq_false_iff_ne.mpr h3
 have a4:(k==4)=false:=beq_eq_false_iff_ne.mpr h4
 have a5:(k==5)=false:=beq_eq_false_iff_ne.mpr h5
 go_enter Tryz.func51,Tryz.ntmps51
 go_wp2
 go_ret
 exact ⟨rfl,HB0.out⟩
theorem itemValid_spec (i:It) (u:Value) (w:World) (hr:RowC w u i.2.2.1) (hn:i.2.1.size≤maxLen) (hz:ShortC i.2.2.1) (hl:i.2.2.1.length≤1048576) (ht:i.2.2.2.size≤maxLen):
  Calls Tryz.prog 51 #[.agg #[.int .i64 i.1, .string i.2.1,u, .string i.2.2.2]] w fun e w'=>e= .returned (.bool (itemB i))∧Below w.heap.size w w':=by
 obtain ⟨k,n,l,t⟩:=i
 simp only at hr hn hz ht hl⊢
 unfold itemB
 simp only
 by_cases h1:k=1
 ·subst h1;rw [if_pos (.inl rfl)];exact itemS_k1 n l t u w hr hn hz hl ht
 by_cases h5:k=5
 ·subst h5;rw [if_pos (.inr rfl)];exact itemS_k5 n l t u w hr hn hz hl ht
 rw [if_neg (by omega)]
 by_cases h2:k=2
 ·subst h2;rw [if_pos rfl];exact itemS_k2 n l t u w hr hn hz hl ht
 rw [if_neg h2]
 by_cases h3:k=3
 ·subst h3;rw [if_pos rfl];exact itemS_k3 n l t u w hr hn hz hl ht
 rw [if_neg h3]
 by_cases h4:k=4
 ·subst h4;rw [if_pos rfl];exact itemS_k4 n l t u w hr hn hz hl ht
 rw [if_neg h4]
 exact itemS_ko k h1 h2 h3 h4 h5 n l t u w hr hn hz hl ht
end Go.Proofs.YtegdjjjpoahamaaGreatDoor
