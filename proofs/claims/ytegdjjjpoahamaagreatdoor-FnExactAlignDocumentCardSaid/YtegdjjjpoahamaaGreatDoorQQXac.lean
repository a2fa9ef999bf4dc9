/-
  Part of the proof of UX.
-/
import Derived.Test.YtegdjjjpoahamaaGreatDoorQQXab
import Derived.Test.YtegdjjjpoahamaaGreatDoorItB
import Derived.WalkKit
import Derived.WalkSpells
import Derived.Lib.Hide
import Derived.IntWalk
import Derived.BigQuiet
import Derived.Deep.QuietTactic
import Derived.Deep.Slices
import Derived.Deep.Strs
import Derived.Deep.Fields
import Derived.ChangeSame
import Derived.Lib.SmallJoins
import Derived.Deep.RegionHeld3
import Derived.RegionTactic
import Derived.Deep.DrawnRows
import Derived.Laws.OwnMore
import Derived.Laws.Rows
set_option linter.unusedVariables false
set_option maxHeartbeats 8000000
set_option maxRecDepth 100000
namespace Go.Proofs.YtegdjjjpoahamaaGreatDoor
open Go.RowKit
theorem simple_any (s:ByteArray) (w:World) (hs:s.size≤maxLen):
  Calls Tryz.prog 83 #[.string s] w fun e w'=>e= .returned (.bool (simpB s))∧w=w':=by
 unfold simpB
 cases hp:nameL s.data.toList with
 |false=>
  go_enter Tryz.func83,Tryz.ntmps83
  go_wp2_with fail
  refine (nameValid_spec s _ hs).mono ?_
  rintro e w' ⟨rfl,rfl⟩
  rw [hp]
  go_wp2
  go_ret
  exact ⟨rfl,rfl⟩
 |true=>
  have HH:=Lib.hid (l1Has_any s 46 w hs (by omega) (by omega))
  cases h9:hasL s.data.toList 46
  all_goals
   go_enter Tryz.func83,Tryz.ntmps83
   go_wp2_with fail
   refine (nameValid_spec s _ hs).mono ?_
   rintro e w' ⟨rfl,rfl⟩
   rw [hp]
   go_wp2_with fail
   refine HH.out.mono ?_
   rintro e w' ⟨rfl,rfl⟩
   rw [h9]
   go_wp2
   go_ret
   exact ⟨rfl,rfl⟩
theorem itemS_k1 (n:ByteArray) (l:List Cl) (t:ByteArray) (u:Value) (w:World) (hr:RowC w u l) (hn:n.size≤maxLen) (hz:ShortC l) (hl:l.length≤1048576) (ht:t.size≤maxLen):
  Calls Tryz.prog 51 #[.agg #[.int .i64 1, .string n,u, .string t]] w fun e w'=>e= .returned (.bool (emB n&&(l.isEmpty&&emB t)))∧Below w.heap.size w w':=by
 have HB0:=Lib.hid ((Below.refl w.heap.size w).alloc (Nat.le_refl _) (.cells #[.int .i64 1, .string n,u, .string t] 32))
 obtain ⟨ao,cap,rfl,-⟩:=hr
 cases h1:emB n with
 |false=>
  obtain ⟨a1,a2,a3,a4⟩:=em_f h1
  clear hz
  go_enter Tryz.func51,Tryz.ntmps51
  go_wp2
  go_ret
  exact ⟨rfl,HB0.out⟩
 |true=>
  obtain ⟨a1,a2,a3,a4⟩:=em_t h1
  cases h2:l.isEmpty with
  |false=>
   have b1:=(le_f h2).1
   clear hz
   go_enter Tryz.func51,Tryz.ntmps51
   go_wp2
   go_ret
   exact ⟨rfl,HB0.out⟩
  |true=>
   have b1:=(le_t h2).1
   cases h3:emB t with
   |false=>
    obtain ⟨c1,c2,c3,c4⟩:=em_f h3
    clear hz
    go_enter Tryz.func51,Tryz.ntmps51
    go_wp2
    go_ret
    exact ⟨rfl,HB0.out⟩
   |true=>
    obtain ⟨c1,c2,c3,c4⟩:=em_t h3
    clear hz
    go_enter Tryz.func51,Tryz.ntmps51
    go_wp2
    go_ret
    exact ⟨rfl,HB0.out⟩
theorem itemS_k5 (n:ByteArray) (l:List Cl) (t:ByteArray) (u:Value) (w:World) (hr:RowC w u l) (hn:n.size≤maxLen) (hz:ShortC l) (hl:l.length≤1048576) (ht:t.size≤maxLen):
  Calls Tryz.prog 51 #[.agg #[.int .i64 5, .string n,u, .string t]] w fun e w'=>e= .returned (.bool (emB n&&(l.isEmpty&&emB t)))∧Below w.heap.size w w':=by
 have HB0:=Lib.hid ((Below.refl w.heap.size w).alloc (Nat.le_refl _) (.cells #[.int .i64 5, .string n,u, .string t] 32))
 obtain ⟨ao,cap,rfl,-⟩:=hr
 cases h1:emB n with
 |false=>
  obtain ⟨a1,a2,a3,a4⟩:=em_f h1
  clear hz
  go_enter Tryz.func51,Tryz.ntmps51
  go_wp2
  go_ret
  exact ⟨rfl,HB0.out⟩
 |true=>
  obtain ⟨a1,a2,a3,a4⟩:=em_t h1
  cases h2:l.isEmpty with
  |false=>
   have b1:=(le_f h2).1
   clear hz
   go_enter Tryz.func51,Tryz.ntmps51
   go_wp2
   go_ret
   exact ⟨rfl,HB0.out⟩
  |true=>
   have b1:=(le_t h2).1
   cases h3:emB t with
   |false=>
    obtain ⟨c1,c2,c3,c4⟩:=em_f h3
    clear hz
    go_enter Tryz.func51,Tryz.ntmps51
    go_wp2
    go_ret
    exact ⟨rfl,HB0.out⟩
   |true=>
    obtain ⟨c1,c2,c3,c4⟩:=em_t h3
    clear hz
    go_enter Tryz.func51,Tryz.ntmps51
    go_wp2
    go_ret
    exact ⟨rfl,HB0.out⟩
theorem itemS_k2 (n:ByteArray) (l:List Cl) (t:ByteArray) (u:Value) (w:World) (hr:RowC w u l) (hn:n.size≤maxLen) (hz:ShortC l) (hl:l.length≤1048576) (ht:t.size≤maxLen):
  Calls Tryz.prog 51 #[.agg #[.int .i64 2, .string n,u, .string t]] w fun e w'=>e= .returned (.bool (emB n&&(l.isEmpty&&noteB t)))∧Below w.heap.size w w':=by
 have HB0:=Lib.hid ((Below.refl w.heap.size w).alloc (Nat.le_refl _) (.cells #[.int .i64 2, .string n,u, .string t] 32))
 obtain ⟨ao,cap,rfl,-⟩:=hr
 cases h1:emB n with
 |false=>
  obtain ⟨a1,a2,a3,a4⟩:=em_f h1
  clear hz
  go_enter Tryz.func51,Tryz.ntmps51
  go_wp2
  go_ret
  exact ⟨rfl,HB0.out⟩
 |true=>
  obtain ⟨a1,a2,a3,a4⟩:=em_t h1
  cases h2:l.isEmpty with
  |false=>
   have b1:=(le_f h2).1
   clear hz
   go_enter Tryz.func51,Tryz.ntmps51
   go_wp2
   go_ret
   exact ⟨rfl,HB0.out⟩
  |true=>
   have b1:=(le_t h2).1
   clear hz
   cases h9:noteB t
   all_goals
    go_enter Tryz.func51,Tryz.ntmps51
    go_wp2_with fail
    refine (note_spec t _ ht).mono ?_
    rintro e w1 ⟨rfl,rfl⟩
    rw [h9]
    go_wp2
    go_ret
    exact ⟨rfl,HB0.out⟩
theorem itemS_k3 (n:ByteArray) (l:List Cl) (t:ByteArray) (u:Value) (w:World) (hr:RowC w u l) (hn:n.size≤maxLen) (hz:ShortC l) (hl:l.length≤1048576) (ht:t.size≤maxLen):
  Calls Tryz.prog 51 #[.agg #[.int .i64 3, .string n,u, .string t]] w fun e w'=>e= .returned (.bool (simpB n&&(okE l&&noteB t)))∧Below w.heap.size w w':=by
 have HB0:=Lib.hid ((Below.refl w.heap.size w).alloc (Nat.le_refl _) (.cells #[.int .i64 3, .string n,u, .string t] 32))
 have HRX:=Lib.hid (hr.mono HB0.out)
 have HX:=Lib.hid (exprValid_spec u l _ HRX.out hz hl)
 obtain ⟨ao,cap,rfl,-⟩:=hr
 have HBX:=Lib.hid (fun w1 (h:Below (w.alloc (.cells #[.int .i64 3, .string n, .slice ao l.length cap, .string t] 32)).heap.size (w.alloc (.cells #[.int .i64 3, .string n, .slice ao l.length cap, .string t] 32)) w1)=>boxI h)
 clear hz
 cases h1:simpB n with
 |false=>
  go_enter Tryz.func51,Tryz.ntmps51
  go_wp2_with fail
  refine (simple_any n _ hn).mono ?_
  rintro e w1 ⟨rfl,rfl⟩
  rw [h1]
  go_wp2
  go_ret
  exact ⟨rfl,HB0.out⟩
 |true=>
  cases h2:okE l with
  |false=>
   go_enter Tryz.func51,Tryz.ntmps51
   go_wp2_with fail
   refine (simple_any n _ hn).mono ?_
   rintro e w1 ⟨rfl,rfl⟩
   rw [h1]
   go_wp2_with fail
   refine HX.out.mono ?_
   rintro e w1 ⟨rfl,hb1⟩
   have HB1:=Lib.hid (HB0.out.trans (hb1.mono HB0.out.size));clear hb1
   rw [h2]
   go_wp2
   go_ret
   exact ⟨rfl,HB1.out⟩
  |true=>
   cases h9:noteB t
   all_goals
    go_enter Tryz.func51,Tryz.ntmps51
    go_wp2_with fail
    refine (simple_any n _ hn).mono ?_
    rintro e w1 ⟨rfl,rfl⟩
    rw [h1]
    go_wp2_with fail
    refine HX.out.mono ?_
    rintro e w1 ⟨rfl,hb1⟩
    obtain ⟨d0,d1,d2,d3⟩:=HBX.out w1 hb1
    have HB1:=Lib.hid (HB0.out.trans (hb1.mono HB0.out.size));clear hb1
    rw [h2]
    go_wp2_with fail
    refine (note_spec t _ ht).mono ?_
    rintro e w2 ⟨rfl,rfl⟩
    rw [h9]
    go_wp2
    go_ret
    exact ⟨rfl,HB1.out⟩
theorem itemS_k4 (n:ByteArray) (l:List Cl) (t:ByteArray) (u:Value) (w:World) (hr:RowC w u l) (hn:n.size≤maxLen) (hz:ShortC l) (hl:l.length≤1048576) (ht:t.size≤maxLen):
  Calls Tryz.prog 51 #[.agg #[.int .i64 4, .string n,u, .string t]] w fun e w'=>e= .returned (.bool (simpB n&&(l.isEmpty&&emB t)))∧Below w.heap.size w w':=by
 have HB0:=Lib.hid ((Below.refl w.heap.size w).alloc (Nat.le_refl _) (.cells #[.int .i64 4, .string n,u, .string t] 32))
 obtain ⟨ao,cap,rfl,-⟩:=hr
 clear hz
 cases h1:simpB n with
 |false=>
  go_enter Tryz.func51,Tryz.ntmps51
  go_wp2_with fail
  refine (simple_any n _ hn).mono ?_
  rintro e w1 ⟨rfl,rfl⟩
  rw [h1]
  go_wp2
  go_ret
  exact ⟨rfl,HB0.out⟩
 |true=>
  cases h2:l.isEmpty with
  |false=>
   have b1:=(le_f h2).1
   go_enter Tryz.func51,Tryz.ntmps51
   go_wp2_with fail
   refine (simple_any n _ hn).mono ?_
   rintro e w1 ⟨rfl,rfl⟩
   rw [h1]
   go_wp2
   go_ret
   exact ⟨rfl,HB0.out⟩
  |true=>
   have b1:=(le_t h2).1
   cases h3:emB t with
   |false=>
    obtain ⟨c1,c2,c3,c4⟩:=em_f h3
    go_enter Tryz.func51,Tryz.ntmps51
    go_wp2_with fail
    refine (simple_any n _ hn).mono ?_
    rintro e w1 ⟨rfl,rfl⟩
    rw [h1]
    go_wp2
    go_ret
    exact ⟨rfl,HB0.out⟩
   |true=>
    obtain ⟨c1,c2,c3,c4⟩:=em_t h3
    go_enter Tryz.func51,Tryz.ntmps51
    go_wp2_with fail
    refine (simple_any n _ hn).mono ?_
    rintro e w1 ⟨rfl,rfl⟩
    rw [h1]
    go_wp2
    go_ret
    exact ⟨rfl,HB0.out⟩
theorem itemS_ko (k:Int) (h1:k≠1) (h2:k≠2) (h3:k≠3) (h4:k≠4) (h5:k≠5) (n:ByteArray) (l:List Cl) (t:ByteArray) (u:Value) (w:World) (hr:RowC w u l) (hn:n.size≤maxLen) (hz:ShortC l) (hl:l.length≤1048576) (ht:t.size≤maxLen):
  Calls Tryz.prog 51 #[.agg #[.int .i64 k, .string n,u, .string t]] w fun e w'=>e= .returned (.bool (false))∧Below w.heap.size w w':=by
 have HB0:=Lib.hid ((Below.refl w.heap.size w).alloc (Nat.le_refl _) (.cells #[.int .i64 k, .string n,u, .string t] 32))
 obtain ⟨ao,cap,rfl,-⟩:=hr
 clear hz
 have a1:(k==1)=false:=beq_eq_false_iff_ne.mpr h1
 have a2:(k==2)=false:=beq_eq_false_iff_ne.mpr h2
 have a3:(k==3)=false:=beq_eq_false_iff_ne.mpr h3
 have a4:(k==4)=false:=beq_eq_false_iff_ne.mpr h4
 have a5:(k==5)=false:=beq_eq_false_iff_ne.mpr h5
 go_enter Tryz.func51,Tryz.ntmps51
 go_wp2
 go_ret
 exact ⟨rfl,HB0.out⟩
theorem itemValid_spec (i:It) (u:Value) (w:World) (hr:RowC w u i.2.2.1) (hn:i.2.1.size≤maxLen) (hz:ShortC i.2.2.1) (hl:i.2.2.1.length≤1048576) (ht:i.2.2.2.size≤maxLen):
  Calls Tryz.prog 51 #[.agg #[.int .i64 i.1, .string i.2.1,u, .string i.2.2.2]] w fun e w'=>e= .returned (.bool (itemB i))∧Below w.heap.size w w':=by
 obtain ⟨k,n,l,t⟩:=i
 simp only at hr hn hz ht hl⊢
 unfold itemB
 simp only
 by_cases h1:k=1
 ·subst h1;rw [if_pos (.inl rfl)];exact itemS_k1 n l t u w hr hn hz hl ht
 by_cases h5:k=5
 ·subst h5;rw [if_pos (.inr rfl)];exact itemS_k5 n l t u w hr hn hz hl ht
 rw [if_neg (by omega)]
 by_cases h2:k=2
 ·subst h2;rw [if_pos rfl];exact itemS_k2 n l t u w hr hn hz hl ht
 rw [if_neg h2]
 by_cases h3:k=3
 ·subst h3;rw [if_pos rfl];exact itemS_k3 n l t u w hr hn hz hl ht
 rw [if_neg h3]
 by_cases h4:k=4
 ·subst h4;rw [if_pos rfl];exact itemS_k4 n l t u w hr hn hz hl ht
 rw [if_neg h4]
 exact itemS_ko k h1 h2 h3 h4 h5 n l t u w hr hn hz hl ht
def splitL:List UInt8→List UInt8→List (List UInt8)
 |acc,[]=>if acc=[] then [] else [acc]
 |acc,b::r=>if b=10 then acc::splitL [] r else splitL (acc++[b]) r
def bytesOf (L:List ByteArray):List (List UInt8):=L.map fun t=>t.data.toList
theorem bytesOf_inj {A B:List ByteArray} (h:bytesOf A=bytesOf B):A=B:=by
 refine (List.map_inj_right ?_).1 h
 intro x y hxy
 apply ByteArray.ext
 exact Array.toList_inj.1 hxy
theorem bytesOf_append (A B:List ByteArray):bytesOf (A++B)=bytesOf A++bytesOf B:=by simp [bytesOf]
theorem extract_bytes (s:ByteArray) (a b:Nat):(s.extract a b).data.toList=(s.data.toList.take b).drop a:=by
 simp [ByteArray.data_extract,List.extract,List.drop_take]
theorem split_upto (s:ByteArray) (k:Nat) (hk:k≤s.size):
  splitL [] s.data.toList=bytesOf (linesTo s k)++splitL ((s.data.toList.take k).drop (fromN s.data.toList k)) (s.data.toList.drop k):=by
 induction k with
 |zero=>simp [linesTo,bytesOf,fromN]
 |succ k ih=>
  have hlt:k<s.data.toList.length:=by simp;omega
  rw [ih (by omega)]
  have hd:s.data.toList.drop k=s.data.toList[k]::s.data.toList.drop (k+1):=List.drop_eq_getElem_cons hlt
  have hf:=fromN_le s.data.toList k
  rw [hd]
  simp only [linesTo,fromN,List.getElem?_eq_getElem hlt,Option.some.injEq]
  show bytesOf (linesTo s k)++(if s.data.toList[k]=10 then _ else _)=_
  by_cases h10:s.data.toList[k]=10
  ·rw [if_pos h10,if_pos h10,if_pos h10,bytesOf_append,List.append_assoc]
   congr 1
   have e1:bytesOf [s.extract (fromN s.data.toList k) k]=[(s.data.toList.take k).drop (fromN s.data.toList k)]:=by
    simp only [bytesOf,List.map_cons,List.map_nil,extract_bytes]
   have e2:(s.data.toList.take (k+1)).drop (k+1)=[]:=by
    apply List.drop_eq_nil_of_le;simp;omega
   rw [e1,e2];rfl
  ·rw [if_neg h10,if_neg h10,if_neg h10]
   congr 2
   rw [List.take_succ_eq_append_getElem hlt,List.drop_append_of_le_length (by simp;omega)]
theorem split_all (s:ByteArray):bytesOf (linesAll s)=splitL [] s.data.toList:=by
 have h:=split_upto s s.size (Nat.le_refl _)
 have hl:s.data.toList.length=s.size:=by simp
 have ht:s.data.toList.take s.size=s.data.toList:=List.take_of_length_le (by omega)
 have hd:s.data.toList.drop s.size=[]:=List.drop_eq_nil_of_le (by omega)
 have hf:=fromN_le s.data.toList s.size
 rw [h,ht,hd]
 show _=_++(if _ then _ else _)
 unfold linesAll
 by_cases hr:fromN s.data.toList s.size<s.size
 ·rw [if_pos hr,if_neg (by intro he;have:=congrArg List.length he;simp only [List.length_drop,List.length_nil,hl] at this;omega),bytesOf_append]
  congr 1
  simp only [bytesOf,List.map_cons,List.map_nil,extract_bytes,ht]
 ·rw [if_neg hr,if_pos (List.drop_eq_nil_of_le (by omega)),List.append_nil]
theorem split_line (acc t r:List UInt8) (h: ∀x∈t,x≠10):splitL acc (t++10::r)=(acc++t)::splitL [] r:=by
 induction t generalizing acc with
 |nil=>simp [splitL]
 |cons x t ih=>
  simp only [List.cons_append,splitL]
  rw [if_neg (h x (by simp)),ih _ (fun y hy=>h y (by simp [hy]))]
  simp
theorem accTo_bytes (L:List ByteArray) (k:Nat) (hk:k≤L.length):(accTo L k).data.toList=(((bytesOf L).take k).map (· ++[10])).flatten:=by
 induction k with
 |zero=>rfl
 |succ k ih=>
  have hlt:k<L.length:=by omega
  have e:accTo L (k+1)=accTo L k++lineAt L k++⟨#[10]⟩:=rfl
  have hl:lineAt L k=L[k]:=by simp [lineAt,List.getElem?_eq_getElem hlt]
  have hb:(bytesOf L).take (k+1)=(bytesOf L).take k++[L[k].data.toList]:=by
   rw [List.take_succ_eq_append_getElem (by simpa [bytesOf] using hlt)]
   simp [bytesOf]
  rw [e,hb,hl]
  simp only [ByteArray.data_append,Array.toList_append,ih (by omega),List.map_append,List.flatten_append,List.map_cons,List.map_nil,List.flatten_cons,List.flatten_nil,List.append_nil,List.append_assoc]
theorem accTo_all (L:List ByteArray):(accTo L L.length).data.toList=((bytesOf L).map (· ++[10])).flatten:=by
 rw [accTo_bytes L _ (Nat.le_refl _),List.take_of_length_le (by simp [bytesOf])]
theorem accTo_mono (L:List ByteArray) (j k:Nat) (h:j≤k):(accTo L j).size≤(accTo L k).size:=by
 induction k with
 |zero=>obtain rfl:j=0:=by omega
        exact Nat.le_refl _
 |succ k ih=>
  by_cases hj:j=k+1
  ·subst hj;exact Nat.le_refl _
  ·have:=ih (by omega);rw [accTo_size_next];omega
theorem joinOk_of (L:List ByteArray) (hp: ∀t∈L,plainL t.data.toList=true) (hs:(accTo L L.length).size≤20000):joinOk L=true:=by
 apply joinOk_good
 intro j hj
 have hl:lineAt L j=L[j]:=by simp [lineAt,List.getElem?_eq_getElem hj]
 have h1:=accTo_size_next L j
 have h2:=accTo_mono L (j+1) L.length (by omega)
 rw [okAt,hl,hp _ (List.getElem_mem _)]
 rw [hl] at h1
 simp;omega
theorem size_bytes (s:ByteArray):s.size=s.data.toList.length:=by simp
theorem plain_ne_ten {l:List UInt8} (h:plainL l=true): ∀x∈l,x≠10:=by
 intro x hx he
 subst he
 simp only [plainL,List.all_eq_true] at h
 have:=h 10 hx
 simp [plainI] at this
theorem split_flat (M:List (List UInt8)) (h: ∀t∈M,∀x∈t,x≠10):splitL [] ((M.map (· ++[10])).flatten)=M:=by
 induction M with
 |nil=>rfl
 |cons t M ih=>
  simp only [List.map_cons,List.flatten_cons,List.append_assoc,List.cons_append,List.nil_append]
  rw [split_line [] t _ (h t (by simp)),ih (fun u hu=>h u (by simp [hu]))]
  rfl
theorem okL_flat (M:List (List UInt8)) (h: ∀t∈M,plainL t=true):okL ((M.map (· ++[10])).flatten)=true:=by
 induction M with
 |nil=>rfl
 |cons t M ih=>
  have h1:=h t (by simp)
  have h2:=ih (fun u hu=>h u (by simp [hu]))
  simp only [okL,plainL,List.all_eq_true] at h1 h2⊢
  intro x hx
  simp only [List.map_cons,List.flatten_cons,List.mem_append,List.mem_singleton] at hx
  rcases hx with (hx|rfl)|hx
  ·simp [okI,h1 x hx]
  ·rfl
  ·exact h2 x hx
theorem lines_join (L:List ByteArray) (h:joinOk L=true):textB (joinB L)=true∧linesB (joinB L)=L:=by
 have hj:joinB L=accTo L L.length:=by rw [joinB,if_pos h]
 have hall: ∀j,j<L.length→okAt L j=true:=by
  intro j hj';simp only [joinOk,List.all_eq_true] at h;exact h j (List.mem_range.2 hj')
 have hp: ∀t∈bytesOf L,plainL t=true:=by
  intro t ht
  obtain ⟨u,hu,rfl⟩:=List.mem_map.1 ht
  obtain ⟨j,hj',rfl⟩:=List.getElem_of_mem hu
  have:=hall j hj'
  have hl:lineAt L j=L[j]:=by simp [lineAt,List.getElem?_eq_getElem hj']
  rw [okAt,hl] at this
  simp only [Bool.and_eq_true] at this
  exact this.1
 have hb:=accTo_all L
 have ht:textB (accTo L L.length)=true:=by
  rw [textB,hb,okL_flat _ hp]
  have:=acc_le L L.length hall
  simp [this]
 rw [hj]
 refine ⟨ht, ?_⟩
 rw [linesB,if_pos ht]
 apply bytesOf_inj
 rw [split_all,hb]
 exact split_flat _ (fun t ht=>plain_ne_ten (hp t ht))
noncomputable def printG:Int→List It→List ByteArray
 |_,[]=>[]
 |d,i::is=>baL (lineI i (depS d i).toNat 0)::printG (depN d i) is
noncomputable def printL (l:List It):List ByteArray:=printG 0 l
theorem printG_length: ∀(l:List It) (d:Int),(printG d l).length=l.length:=by
 intro l
 induction l with
 |nil=>intro d;rfl
 |cons i l ih=>intro d;rw [printG,List.length_cons,List.length_cons,ih]
theorem printG_at: ∀(l:List It) (d:Int) (k:Nat) (hk:k<l.length),(printG d l)[k]'(by rw [printG_length];exact hk)=baL (lineI l[k] ((depL d l)[k]'(by rw [depL_length];exact hk)).toNat 0):=by
 intro l
 induction l with
 |nil=>intro d k hk;simp at hk
 |cons i l ih=>
  intro d k hk
  cases k with
  |zero=>rfl
  |succ k=>exact ih (depN d i) k (by simpa using hk)
noncomputable def printK (l:List It):Bool:=docB l&&joinOk (printL l)
noncomputable def printT (l:List It):ByteArray:=if printK l=true then joinB (printL l) else ⟨#[]⟩
def intsZ (L:List Int):List Value:=L.map fun n=>Value.int .i64 n
theorem intsZ_length (L:List Int):(intsZ L).length=L.length:=by simp [intsZ]
theorem intsZ_snoc (L:List Int) (n:Int):intsZ (L++[n])=intsZ L++[.int .i64 n]:=by simp [intsZ]
def NestC (l:List It) (w:World) (e:Ending) (w':World):Prop:=
 ∃(v:Value) (d:Int) (L:List Int),e= .returned (.tuple #[v, .int .i64 d])∧w'.ownsRow w.heap.size 3 1 v L.length (intsZ L)∧Below w.heap.size w w'∧((nestO 0 l=some d∧L=depL 0 l)∨(nestO 0 l=none∧d= -1))
theorem nest_take {l:List It} {k:Nat} {d:Int} (hk:k<l.length) (h:nestO 0 (l.take k)=some d):nestO 0 (l.take (k+1))=if 0≤depN d l[k]∧depN d l[k]≤4 then some (depN d l[k]) else none:=by
 rw [List.take_succ_eq_append_getElem hk,nestO_app,h];rfl
theorem nest_none {l:List It} {k:Nat} (h:nestO 0 (l.take k)=none):nestO 0 l=none:=by
 have:nestO 0 (l.take k++l.drop k)=none:=by rw [nestO_app,h];rfl
 rwa [List.take_append_drop] at this
theorem depL_take {l:List It} {k:Nat} {d:Int} (hk:k<l.length) (h:nestO 0 (l.take k)=some d):depL 0 (l.take (k+1))=depL 0 (l.take k)++[depS d l[k]]:=by
 rw [List.take_succ_eq_append_getElem hk,depL_app,nestO_end _ _ _ h];rfl
theorem l11Nest_any (v:Value) (l:List It) (w:World) (hr:RowIt w v l) (hl:l.length≤1048576):
  Calls Tryz.prog 52 #[v] w (NestC l w):=by
 obtain ⟨i0,hi,hz0,hz1,hz2⟩:=info_parts infoI
 obtain ⟨ao,cap,rfl,h1,h2,h3⟩:=hr
 unfold maxLen at h2
 have H3:=Lib.hid h3;clear h3
 go_enter Tryz.func52,Tryz.ntmps52
 go_wp2
 go_loopw [4,5,6] (fun out dp i wr=> ∃(k:Nat) (d:Int),k≤l.length∧i= .int .i64 (k:Int)∧dp= .int .i64 d∧0≤d∧d≤4∧nestO 0 (l.take k)=some d∧wr.ownsRow w.heap.size 3 1 out k (intsZ (depL 0 (l.take k)))∧Below w.heap.size w wr) (fun _ _ i _=>l.length-(intOf i).toNat)
 case atStart=>exact ⟨0,0,Nat.zero_le _,rfl,rfl,by omega,by omega,rfl,World.ownsRow_lit _ _ 0 (Nat.le_refl _) (by unfold maxLen;omega) rfl,(Below.refl _ _).alloc (Nat.le_refl _) _⟩
 case round=>
  obtain ⟨k,d,hk,rfl,rfl,hd0,hd4,hn,hown,hb⟩:=hrel
  have HB:=Lib.hid hb;have HN:=Lib.hid hn
  have hs0:=hb.size
  clear hb hn
  by_cases hlt:k<l.length
  ·obtain ⟨b,o,rfl,hbl,cc⟩:=H3.out.resolve_left (by rintro rfl;simp at hlt)
   obtain ⟨u,hu⟩:=cc k hlt
   have d0:=(hu.mono hbl HB.out).1
   have HK:=Lib.hid (nest_take hlt HN.out)
   have HL:=Lib.hid (depL_take hlt HN.out)
   clear cc hu
   generalize l[k]=it at d0 HK HL
   have hkc:it.1=5∨it.1=4∨(it.1≠4∧it.1≠5):=by omega
   have hD: ∀s:Int,depS d it=s→depL 0 (l.take (k+1))=depL 0 (l.take k)++[s]:=fun s h=>by rw [HL.out,h]
   have HD:=Lib.hid hD;clear hD
   rcases hkc with h5|h4|⟨h4,h5⟩
   ·have e5:(it.1==5)=true:=by rw [h5];rfl
    have e4:(it.1==4)=false:=by rw [h5];rfl
    have HS:=Lib.hid (HD.out (d-1) (by unfold depS;rw [if_pos h5]))
    have hdn:depN d it=d-1:=by unfold depN depS;rw [if_neg (by omega),if_pos h5]
    rw [hdn] at HK
    clear h5 hdn
    generalize it.1=kk at d0 e5 e4
    by_cases hin:0≤d-1
    ·have HKN:=Lib.hid (show nestO 0 (l.take (k+1))=some (d-1) by rw [HK.out,if_pos (by omega)])
     have HI:=Lib.hid (show inI (d-1) 0 4=true by simp [inI];omega)
     go_wp2_with (at_builtin;refine wpList_append_own _ rfl _ _ 25 rfl w.heap.size 3 i0 (.int .i64 0) 1 8 Tryz.underlying25 hi hz0 hz1 hz2 rfl (by decide) _ _ _ rfl (hown.alloc _) ⟨wr.heap.size,0,none⟩ 1 1 [.int .i64 (d-1)] rfl rfl (World.news_of_block (cs:= #[.int .i64 (d-1)]) (t:=3) (fr:=(0,0)) (heap_alloc_new wr _)) (by simp [Value.oneCell']) (by unfold maxLen;omega) (by omega) (by simp;omega) ?_;intro v' w2 hown' hgrow hnil;have HB2:=Lib.hid ((HB.out.alloc HB.out.size _).grown hgrow (by have:=HB.out.size;simp;omega) (fun q hq=>(hown.lt q hq).1));have HO2:=Lib.hid hown';have c0:=(HB2.out.cell (p:=⟨b,_,none⟩) hbl).trans ((HB.out.cell (p:=⟨b,_,none⟩) hbl).symm.trans d0);clear hown' hgrow hnil)
     refine (l1In_any _ _ _ _).mono ?_
     rintro e w' ⟨rfl,rfl⟩
     rw [HI.out]
     go_wp2
     go_roundw
     case rel=>exact ⟨k+1,d-1,by omega,by go_num,rfl,by omega,by omega,HKN.out,by rw [HS.out,intsZ_snoc];exact HO2.out,HB2.out⟩
     case measure=>simp [intOf];omega
    ·have HKN:=Lib.hid (nest_none (l:=l) (k:=k+1) (by rw [HK.out,if_neg (by omega)]))
     have HI:=Lib.hid (show inI (d-1) 0 4=false by simp [inI];omega)
     go_wp2_with (at_builtin;refine wpList_append_own _ rfl _ _ 25 rfl w.heap.size 3 i0 (.int .i64 0) 1 8 Tryz.underlying25 hi hz0 hz1 hz2 rfl (by decide) _ _ _ rfl (hown.alloc _) ⟨wr.heap.size,0,none⟩ 1 1 [.int .i64 (d-1)] rfl rfl (World.news_of_block (cs:= #[.int .i64 (d-1)]) (t:=3) (fr:=(0,0)) (heap_alloc_new wr _)) (by simp [Value.oneCell']) (by unfold maxLen;omega) (by omega) (by simp;omega) ?_;intro v' w2 hown' hgrow hnil;have HB2:=Lib.hid ((HB.out.alloc HB.out.size _).grown hgrow (by have:=HB.out.size;simp;omega) (fun q hq=>(hown.lt q hq).1));have HO2:=Lib.hid hown';have c0:=(HB2.out.cell (p:=⟨b,_,none⟩) hbl).trans ((HB.out.cell (p:=⟨b,_,none⟩) hbl).symm.trans d0);clear hown' hgrow hnil)
     refine (l1In_any _ _ _ _).mono ?_
     rintro e w' ⟨rfl,rfl⟩
     rw [HI.out]
     have HLN:=Lib.hid (show (depL 0 (l.take (k+1))).length=k+1 by rw [depL_length,List.length_take];omega)
     go_wp2
     exact bodyPost_ret (v:= .tuple #[v', .int .i64 (-1)]) (by simp [results,Tryz.results52,go_sem]) rfl ⟨_,_,depL 0 (l.take (k+1)),rfl,by rw [HLN.out,HS.out,intsZ_snoc];exact HO2.out,HB2.out, .inr ⟨HKN.out,rfl⟩⟩
   ·have e5:(it.1==5)=false:=by rw [h4];rfl
    have e4:(it.1==4)=true:=by rw [h4];rfl
    have HS:=Lib.hid (HD.out d (by unfold depS;rw [if_neg (by omega)]))
    have hdn:depN d it=d+1:=by unfold depN depS;rw [if_pos h4,if_neg (by omega)]
    rw [hdn] at HK
    clear h4 hdn
    generalize it.1=kk at d0 e5 e4
    by_cases hin:d+1≤4
    ·have HKN:=Lib.hid (show nestO 0 (l.take (k+1))=some (d+1) by rw [HK.out,if_pos (by omega)])
     have HI:=Lib.hid (show inI (d+1) 0 4=true by simp [inI];omega)
     go_wp2_with (at_builtin;refine wpList_append_own _ rfl _ _ 25 rfl w.heap.size 3 i0 (.int .i64 0) 1 8 Tryz.underlying25 hi hz0 hz1 hz2 rfl (by decide) _ _ _ rfl (hown.alloc _) ⟨wr.heap.size,0,none⟩ 1 1 [.int .i64 d] rfl rfl (World.news_of_block (cs:= #[.int .i64 d]) (t:=3) (fr:=(0,0)) (heap_alloc_new wr _)) (by simp [Value.oneCell']) (by unfold maxLen;omega) (by omega) (by simp;omega) ?_;intro v' w2 hown' hgrow hnil;have HB2:=Lib.hid ((HB.out.alloc HB.out.size _).grown hgrow (by have:=HB.out.size;simp;omega) (fun q hq=>(hown.lt q hq).1));have HO2:=Lib.hid hown';have c0:=(HB2.out.cell (p:=⟨b,_,none⟩) hbl).trans ((HB.out.cell (p:=⟨b,_,none⟩) hbl).symm.trans d0);clear hown' hgrow hnil)
     refine (l1In_any _ _ _ _).mono ?_
     rintro e w' ⟨rfl,rfl⟩
     rw [HI.out]
     go_wp2
     go_roundw
     case rel=>exact ⟨k+1,d+1,by omega,by go_num,rfl,by omega,by omega,HKN.out,by rw [HS.out,intsZ_snoc];exact HO2.out,HB2.out⟩
     case measure=>simp [intOf];omega
    ·have HKN:=Lib.hid (nest_none (l:=l) (k:=k+1) (by rw [HK.out,if_neg (by omega)]))
     have HI:=Lib.hid (show inI (d+1) 0 4=false by simp [inI];omega)
     go_wp2_with (at_builtin;refine wpList_append_own _ rfl _ _ 25 rfl w.heap.size 3 i0 (.int .i64 0) 1 8 Tryz.underlying25 hi hz0 hz1 hz2 rfl (by decide) _ _ _ rfl (hown.alloc _) ⟨wr.heap.size,0,none⟩ 1 1 [.int .i64 d] rfl rfl (World.news_of_block (cs:= #[.int .i64 d]) (t:=3) (fr:=(0,0)) (heap_alloc_new wr _)) (by simp [Value.oneCell']) (by unfold maxLen;omega) (by omega) (by simp;omega) ?_;intro v' w2 hown' hgrow hnil;have HB2:=Lib.hid ((HB.out.alloc HB.out.size _).grown hgrow (by have:=HB.out.size;simp;omega) (fun q hq=>(hown.lt q hq).1));have HO2:=Lib.hid hown';have c0:=(HB2.out.cell (p:=⟨b,_,none⟩) hbl).trans ((HB.out.cell (p:=⟨b,_,none⟩) hbl).symm.trans d0);clear hown' hgrow hnil)
     refine (l1In_any _ _ _ _).mono ?_
     rintro e w' ⟨rfl,rfl⟩
     rw [HI.out]
     have HLN:=Lib.hid (show (depL 0 (l.take (k+1))).length=k+1 by rw [depL_length,List.length_take];omega)
     go_wp2
     exact bodyPost_ret (v:= .tuple #[v', .int .i64 (-1)]) (by simp [results,Tryz.results52,go_sem]) rfl ⟨_,_,depL 0 (l.take (k+1)),rfl,by rw [HLN.out,HS.out,intsZ_snoc];exact HO2.out,HB2.out, .inr ⟨HKN.out,rfl⟩⟩
   ·have e5:(it.1==5)=false:=beq_eq_false_iff_ne.mpr h5
    have e4:(it.1==4)=false:=beq_eq_false_iff_ne.mpr h4
    have HS:=Lib.hid (HD.out d (by unfold depS;rw [if_neg h5]))
    have hdn:depN d it=d:=by unfold depN depS;rw [if_neg h4,if_neg h5]
    rw [hdn] at HK
    clear h4 h5 hdn
    generalize it.1=kk at d0 e5 e4
    have HKN:=Lib.hid (show nestO 0 (l.take (k+1))=some d by rw [HK.out,if_pos (by omega)])
    have HI:=Lib.hid (show inI d 0 4=true by simp [inI];omega)
    go_wp2_with (at_builtin;refine wpList_append_own _ rfl _ _ 25 rfl w.heap.size 3 i0 (.int .i64 0) 1 8 Tryz.underlying25 hi hz0 hz1 hz2 rfl (by decide) _ _ _ rfl (hown.alloc _) ⟨wr.heap.size,0,none⟩ 1 1 [.int .i64 d] rfl rfl (World.news_of_block (cs:= #[.int .i64 d]) (t:=3) (fr:=(0,0)) (heap_alloc_new wr _)) (by simp [Value.oneCell']) (by unfold maxLen;omega) (by omega) (by simp;omega) ?_;intro v' w2 hown' hgrow hnil;have HB2:=Lib.hid ((HB.out.alloc HB.out.size _).grown hgrow (by have:=HB.out.size;simp;omega) (fun q hq=>(hown.lt q hq).1));have HO2:=Lib.hid hown';have c0:=(HB2.out.cell (p:=⟨b,_,none⟩) hbl).trans ((HB.out.cell (p:=⟨b,_,none⟩) hbl).symm.trans d0);clear hown' hgrow hnil)
    refine (l1In_any _ _ _ _).mono ?_
    rintro e w' ⟨rfl,rfl⟩
    rw [HI.out]
    go_wp2
    go_roundw
    case rel=>exact ⟨k+1,d,by omega,by go_num,rfl,by omega,by omega,HKN.out,by rw [HS.out,intsZ_snoc];exact HO2.out,HB2.out⟩
    case measure=>simp [intOf];omega
  ·obtain rfl:k=l.length:=by omega
   have HNL:=Lib.hid (show nestO 0 l=some d by have:=HN.out;rwa [List.take_of_length_le (Nat.le_refl _)] at this)
   rw [List.take_of_length_le (Nat.le_refl _)] at hown
   obtain ⟨a9,c9,rfl⟩:=own_shape hown
   have HO:=Lib.hid hown;clear hown
   go_wp2
   exact bodyPost_ret (v:= .tuple #[.slice a9 l.length c9, .int .i64 d]) (by simp [results,Tryz.results52,go_sem]) rfl ⟨_,_,depL 0 l,rfl,by rw [depL_length];exact HO.out,HB.out, .inl ⟨HNL.out,rfl⟩⟩
theorem doc_bad_item {l:List It} {k:Nat} (hk:k<l.length) (h:itemB l[k]=false):docB l=false:=by
 rw [Bool.eq_false_iff];intro hh
 have:=((docB_iff l).mp hh).2.1
 rw [List.all_eq_true] at this
 have:=this _ (List.getElem_mem hk)
 rw [h] at this;cases this
theorem documentValid_spec (v:Value) (l:List It) (w:World) (hr:RowIt w v l) (hz:ShortI l) (hl:l.length≤1048576):
  Calls Tryz.prog 18 #[v] w fun e w'=>e= .returned (.bool (docB l))∧Below w.heap.size w w':=by
 have HR:=Lib.hid hr
 obtain ⟨ao,cap,rfl,h1,h2,h3⟩:=hr
 unfold maxLen at h2
 have H3:=Lib.hid h3;have HZ:=Lib.hid hz;clear h3 hz
 go_enter Tryz.func18,Tryz.ntmps18
 go_wp2
 go_loopw [3] (fun i wr=> ∃k:Nat,k≤l.length∧i= .int .i64 (k:Int)∧(l.take k).all itemB=true∧Below w.heap.size w wr) (fun i _=>l.length-(intOf i).toNat)
 case atStart=>exact ⟨0,Nat.zero_le _,rfl,rfl,Below.refl _ _⟩
 case round=>
  obtain ⟨k,hk,rfl,hok,hb⟩:=hrel
  have HOK:=Lib.hid hok;have HB:=Lib.hid hb;clear hok hb
  by_cases hlt:k<l.length
  ·obtain ⟨b,o,rfl,hbl,cc⟩:=H3.out.resolve_left (by rintro rfl;simp at hlt)
   obtain ⟨u,hu⟩:=cc k hlt
   obtain ⟨d0,d1,d2,d3,hru⟩:=hu.mono hbl HB.out
   obtain ⟨z1,z2,z3,z4⟩:=HZ.out _ (List.getElem_mem hlt)
   have HI:=Lib.hid (itemValid_spec l[k] u wr hru (by unfold maxLen;omega) z2 z3 (by unfold maxLen;omega))
   have HT:=Lib.hid (show (l.take (k+1)).all itemB=((l.take k).all itemB&&itemB l[k]) by rw [List.take_succ_eq_append_getElem hlt,List.all_append];simp)
   have HBD:=Lib.hid (fun h=>doc_bad_item hlt h)
   clear cc hu hru z1 z2 z3 z4
   generalize l[k]=it at*
   obtain ⟨kk,nn,cc,tt⟩:=it
   simp only at d0 d1 d2 d3 HI
   cases hcb:itemB (kk,nn,cc,tt) with
   |true=>
    have HN:=Lib.hid (show (l.take (k+1)).all itemB=true by rw [HT.out,HOK.out,hcb];rfl)
    go_wp2_with fail
    refine HI.out.mono ?_
    rintro e w1 ⟨rfl,hb1⟩
    have HB1:=Lib.hid (HB.out.trans (hb1.mono HB.out.size));clear hb1
    rw [hcb]
    go_wp2
    go_roundw
    case rel=>exact ⟨k+1,by omega,by go_num,HN.out,HB1.out⟩
    case measure=>simp [intOf];omega
   |false=>
    have HN:=Lib.hid (HBD.out hcb)
    go_wp2_with fail
    refine HI.out.mono ?_
    rintro e w1 ⟨rfl,hb1⟩
    have HB1:=Lib.hid (HB.out.trans (hb1.mono HB.out.size));clear hb1
    rw [hcb]
    go_wp2
    go_ret
    exact ⟨ret_b HN.out.symm,HB1.out⟩
  ·obtain rfl:k=l.length:=by omega
   have HAL:=Lib.hid (show l.all itemB=true by have:=HOK.out;rwa [List.take_of_length_le (Nat.le_refl _)] at this)
   go_wp2_with fail
   refine (l11Nest_any _ l _ (HR.out.mono HB.out) hl).mono ?_
   rintro e w1 ⟨vv,d,L,rfl,ho,hb1,hn⟩
   have HB1:=Lib.hid (HB.out.trans (hb1.mono HB.out.size))
   have HN:=Lib.hid hn
   clear ho hb1 hn
   by_cases h30:l.length≤30
   ·by_cases hd:d=0
    ·have HD:=Lib.hid (show docB l=true by
      rw [docB_iff]
      refine ⟨h30,HAL.out, ?_⟩
      rcases HN.out with ⟨h,-⟩|⟨-,h⟩
      ·rw [h,hd]
      ·omega)
     subst hd
     go_wp2
     go_ret
     exact ⟨ret_b HD.out.symm,HB1.out⟩
    ·have HD:=Lib.hid (show docB l=false by
      rw [Bool.eq_false_iff];intro hh
      have h9:=((docB_iff l).mp hh).2.2
      rcases HN.out with ⟨h,-⟩|⟨h,-⟩
      ·rw [h] at h9;injection h9 with h9;exact hd h9
      ·rw [h] at h9;cases h9)
     have hd0:(d==0)=false:=beq_eq_false_iff_ne.mpr hd
     go_wp2
     go_ret
     exact ⟨ret_b HD.out.symm,HB1.out⟩
   ·have HD:=Lib.hid (show docB l=false by rw [Bool.eq_false_iff];intro hh;exact h30 ((docB_iff l).mp hh).1)
    go_wp2
    go_ret
    exact ⟨ret_b HD.out.symm,HB1.out⟩
def Sized (L:List ByteArray):Prop:= ∀t∈L,t.size≤maxLen
theorem lineAt_get (L:List ByteArray) (k:Nat) (h:k<L.length):lineAt L k=L[k]:=by simp [lineAt,List.getElem?_eq_getElem h]
theorem textB_line (t:ByteArray) (n:Nat) (h:n+t.size+1≤20000):(textB t&& !hasL t.data.toList 10)=plainL t.data.toList:=by
 rw [plain_iff,textB]
 have:decide (t.size≤20000)=true:=by simp;omega
 rw [this,Bool.true_and]
def Joins (L:List ByteArray) (e:Ending):Prop:=e= .returned (.tuple #[.string (joinB L), .bool (joinOk L)])
theorem joins_bad (L:List ByteArray) (k:Nat) (hk:k<L.length) (h:okAt L k=false):Joins L (.returned (.tuple #[.string ⟨#[]⟩, .bool false])):=by
 have hb:=joinOk_bad L k hk h
 have hj:joinB L=⟨#[]⟩:=by rw [joinB,hb];rfl
 rw [Joins,hb,hj]
theorem joins_good (L:List ByteArray) (h: ∀j,j<L.length→okAt L j=true):Joins L (.returned (.tuple #[.string (accTo L L.length), .bool true])):=by
 have hb:=joinOk_good L h
 have hj:joinB L=accTo L L.length:=by rw [joinB,hb];rfl
 rw [Joins,hb,hj]
theorem linesText_spec (v:Value) (L:List ByteArray) (w:World) (h:RowOf w v (strs L)) (hz:Sized L):
  Calls Tryz.prog 59 #[v] w fun e w'=>Joins L e∧w=w':=by
 obtain ⟨ao,cap,rfl,h1,h2,h3⟩:=h
 simp only [strs_length] at h1⊢
 unfold maxLen at h2
 have H3:=Lib.hid h3;clear h3
 have HZ:=Lib.hid hz;clear hz
 go_enter Tryz.func59,Tryz.ntmps59
 go_wp2
 go_loop [4,5] (fun o i=> ∃k:Nat,k≤L.length∧i= .int .i64 k∧o= .string (accTo L k)∧(∀j,j<k→okAt L j=true)) (fun _ i=>L.length-(intOf i).toNat)
 case atStart=>exact ⟨0,Nat.zero_le _,rfl,rfl,fun j hj=>by omega⟩
 case round=>
  obtain ⟨k,hk,rfl,rfl,hok⟩:=hrel
  have HK:=Lib.hid hok
  have hacc:=acc_le L k hok
  clear hok
  by_cases hlt:k<L.length
  ·obtain ⟨b,o,hA,-,cc⟩:=H3.out.resolve_left (by intro h;have h':=congrArg List.length h;rw [strs_length] at h';simp only [List.length_nil] at h';omega)
   subst hA
   obtain ⟨t,ht⟩: ∃t,L[k]=t:=⟨_,rfl⟩
   have d1:=cc k (.string t) (by simp [strs,hlt,ht])
   have hts:t.size≤maxLen:=by rw [←ht];exact HZ.out _ (List.getElem_mem _)
   have HT:=Lib.hid (show lineAt L k=t by rw [lineAt_get L k hlt,ht])
   have hts':=hts
   unfold maxLen at hts'
   clear cc ht
   go_wp2_with fail
   refine (textValid_spec t _ hts).mono ?_
   rintro e w' ⟨rfl,rfl⟩
   by_cases hv:textB t=true
   ·rw [hv]
    have HV:=Lib.hid hv;clear hv
    go_wp2_with fail
    refine (l1Has_any t 10 _ hts (by omega) (by omega)).mono ?_
    rintro e w' ⟨rfl,rfl⟩
    by_cases hh:hasL t.data.toList 10=true
    ·rw [hh]
     have HO:=Lib.hid (show okAt L k=false by
      simp only [okAt,HT.out,plain_iff,hh];simp)
     clear hh
     go_wp2
     go_ret2
     exact ⟨joins_bad L k hlt HO.out,rfl⟩
    ·rw [Bool.eq_false_iff.mpr hh]
     have h20:t.size≤20000:=by have:=HV.out;simp only [textB,Bool.and_eq_true,decide_eq_true_eq] at this;exact this.1
     have HP:=Lib.hid (show plainL t.data.toList=true by
      have hv:=HV.out
      simp only [textB,Bool.and_eq_true] at hv
      rw [plain_iff,hv.2,Bool.eq_false_iff.mpr hh];rfl)
     clear hh
     by_cases hroom:(accTo L k).size+t.size+1≤20000
     ·have HO:=Lib.hid (show okAt L k=true by
       rw [okAt,HT.out,HP.out];simp;omega)
      have HA:=Lib.hid (show accTo L (k+1)=accTo L k++t++⟨#[10]⟩ by show accTo L k++lineAt L k++_=_;rw [HT.out])
      go_wp2
      go_round
      case rel=>exact ⟨k+1,by omega,by go_num,by rw [HA.out],fun j hj=>by
       by_cases hjk:j=k
       ·rw [hjk];exact HO.out
       ·exact HK.out j (by omega)⟩
      case measure=>simp [intOf];omega
     ·have HO:=Lib.hid (show okAt L k=false by
       rw [okAt,HT.out,HP.out];simp;omega)
      go_wp2
      go_ret2
      exact ⟨joins_bad L k hlt HO.out,rfl⟩
   ·rw [Bool.eq_false_iff.mpr hv]
    have HO:=Lib.hid (show okAt L k=false by
     rw [okAt,HT.out]
     by_cases hroom:(accTo L k).size+t.size+1≤20000
     ·rw [←textB_line t _ hroom,Bool.eq_false_iff.mpr hv];rfl
     ·simp only [hroom,decide_false,Bool.and_false])
    clear hv
    go_wp2
    go_ret2
    exact ⟨joins_bad L k hlt HO.out,rfl⟩
  ·obtain rfl:k=L.length:=by omega
   go_wp2
   go_ret2
   exact ⟨joins_good L HK.out,rfl⟩
theorem line_spec0 {k:Int} {n t:ByteArray} {l:List Cl} {u:Value} {D:Nat} (w:World) (hv:itemB (k,n,l,t)=true) (hr:RowC w u l) (hn:n.size≤1048576) (ht:t.size≤1048576) (hd:D≤4):
  Calls Tryz.prog 58 #[.agg #[.int .i64 k, .string n,u, .string t], .int .i64 (D:Int), .int .i64 0] w fun e w'=>e= .returned (.string (baL (lineI (k,n,l,t) D 0)))∧Below w.heap.size w w':=
 line_spec (k,n,l,t) u D 0 w hv hr hn ht hd (by omega)
theorem lineI_len (i:It) (D W:Nat):(lineI i D W).length≤2*D+i.2.1.size+W+i.2.2.2.size+12020:=by
 have h1:i.2.1.data.toList.length=i.2.1.size:=by rw [Array.length_toList];rfl
 have h2:i.2.2.2.data.toList.length=i.2.2.2.size:=by rw [Array.length_toList];rfl
 have h3:=textE_len i.2.2.1
 have h4: ∀n,(spL n).length=n:=fun n=>by simp [spL]
 unfold lineI coreI
 repeat' split
 all_goals simp only [List.length_append,List.length_cons,List.length_nil,h4,h1,h2]
 all_goals omega
theorem printT_join {l:List It} (h:docB l=true):printK l=joinOk (printL l)∧printT l=joinB (printL l):=by
 have hk:printK l=joinOk (printL l):=by unfold printK;rw [h];rfl
 refine ⟨hk, ?_⟩
 unfold printT
 rw [hk]
 by_cases hj:joinOk (printL l)=true
 ·rw [if_pos hj]
 ·rw [if_neg hj,joinB,if_neg hj];rfl
theorem printT_no {l:List It} (h:docB l=false):printK l=false∧printT l=⟨#[]⟩:=by
 have hk:printK l=false:=by unfold printK;rw [h];rfl
 exact ⟨hk,by unfold printT;rw [hk];rfl⟩
theorem printL_length (l:List It):(printL l).length=l.length:=printG_length l 0
theorem nest_line {l:List It} (hn:nestO 0 l=some 0) (k:Nat) (hk:k<l.length): ∃D:Nat,(depL 0 l)[k]? =some (D:Int)∧D≤4∧(printL l).take (k+1)=(printL l).take k++[baL (lineI l[k] D 0)]:=by
 have hd:=dep_in hn (by omega) (by omega) k hk
 rw [←depL_at l 0 k hk] at hd
 have hl:=depL_length l 0
 refine ⟨((depL 0 l)[k]'(by omega)).toNat, ?_,by omega, ?_⟩
 ·rw [List.getElem?_eq_getElem (by omega),Int.toNat_of_nonneg hd.1]
 ·rw [List.take_succ_eq_append_getElem (by rw [printL_length];exact hk)]
  congr 1
  exact congrArg (fun x=>[x]) (printG_at l 0 k hk)
theorem print_line {l:List It} (h:docB l=true) (k:Nat) (hk:k<l.length): ∃D:Nat,(depL 0 l)[k]? =some (D:Int)∧D≤4∧(printL l).take (k+1)=(printL l).take k++[baL (lineI l[k] D 0)]:=nest_line ((docB_iff l).mp h).2.2 k hk
theorem bl_len (l:List UInt8):(baL l).size=l.length:=rfl
theorem nest_sized {l:List It} (h:ShortI l) (hn:nestO 0 l=some 0):Sized (printL l):=by
 intro t ht
 obtain ⟨k,hk,rfl⟩:=List.getElem_of_mem ht
 rw [printL_length] at hk
 have hk0:k<(printG 0 l).length:=by rw [printG_length];exact hk
 have e:=printG_at l 0 k hk
 have hdd:=dep_in hn (by omega) (by omega) k hk
 rw [←depL_at l 0 k hk] at hdd
 obtain ⟨z1,z2,z3,z4⟩:=h _ (List.getElem_mem hk)
 show ((printG 0 l)[k]'hk0).size≤maxLen
 rw [e,bl_len]
 have:=lineI_len l[k] ((depL 0 l)[k]'(by rw [depL_length];exact hk)).toNat 0
 unfold maxLen
 omega
theorem print_sized {l:List It} (h:ShortI l) (hd:docB l=true):Sized (printL l):=nest_sized h ((docB_iff l).mp hd).2.2
theorem printDocument_spec (v:Value) (l:List It) (w:World) (hr:RowIt w v l) (hz:ShortI l) (hl:l.length≤1048576):
 Calls Tryz.prog 39 #[v] w fun e w'=>e= .returned (.tuple #[.string (printT l), .bool (printK l)])∧Below w.heap.size w w':=by
 have HC:=Lib.hid (documentValid_spec v l w hr hz hl)
 have HR:=Lib.hid hr
 obtain ⟨ao,cap,rfl,h1,h2,h3⟩:=hr
 unfold maxLen at h2
 have H3:=Lib.hid h3;have HZ:=Lib.hid hz
 clear h3 hz
 obtain ⟨i0,hi,hz0,hz1,hz2⟩:=info_parts infoStr
 cases hok:docB l with
 |false=>
  obtain ⟨hk,ht⟩:=printT_no hok
  rw [hk,ht]
  clear hk ht
  go_enter Tryz.func39,Tryz.ntmps39
  go_wp2_with fail
  refine HC.out.mono ?_
  rintro e w1 ⟨rfl,hb1⟩
  have HB1:=Lib.hid hb1;clear hb1
  rw [hok]
  clear hok
  go_wp2
  go_ret2
  exact ⟨rfl,HB1.out⟩
 |true=>
  have h30:=((docB_iff l).mp hok).1
  have HAL:=Lib.hid ((docB_iff l).mp hok).2.1
  have HN:=Lib.hid ((docB_iff l).mp hok).2.2
  have HPT:=Lib.hid (printT_join hok)
  have HPL:=Lib.hid (print_line hok)
  have HPS:=Lib.hid (print_sized HZ.out hok)
  have HLL:=Lib.hid (printL_length l)
  rw [HPT.out.1,HPT.out.2]
  go_enter Tryz.func39,Tryz.ntmps39
  go_wp2_with fail
  refine HC.out.mono ?_
  rintro e w1 ⟨rfl,hb1⟩
  have HB1:=Lib.hid hb1;clear hb1
  rw [hok]
  clear hok
  go_wp2_with fail
  refine (l11Nest_any _ l _ (HR.out.mono HB1.out) hl).mono ?_
  rintro e w2 ⟨vd,d,L,rfl,hoL,hb2,hnn⟩
  have hLd:L=depL 0 l:=by
   rcases hnn with ⟨-,h⟩|⟨h,-⟩
   ·exact h
   ·rw [HN.out] at h;cases h
  have HDC:=Lib.hid (RowOf.of_own hoL)
  obtain ⟨da,dc,rfl⟩:=own_shape hoL
  have hLl:L.length=l.length:=by rw [hLd,depL_length]
  have HLD:=Lib.hid hLd
  have HB2:=Lib.hid (HB1.out.trans (hb2.mono HB1.out.size))
  clear hoL hb2 hnn hLd
  have HLI:=Lib.hid (World.ownsRow_lit (base:=w2.heap.size) (size:=1) (e:=9) w2 #[] 0 (Nat.le_refl _) (by unfold maxLen;omega) rfl)
  have HBL:=Lib.hid ((Below.refl w2.heap.size w2).alloc (Nat.le_refl _) (.cells #[] 9))
  go_wp2_with fail
  go_loopw [6,7] (fun a i wr=> ∃k:Nat,k≤l.length∧i= .int .i64 (k:Int)∧wr.ownsRow w2.heap.size 9 1 a k (strs ((printL l).take k))∧Below w2.heap.size w2 wr) (fun _ i _=>l.length-(intOf i).toNat)
  case atStart=>exact ⟨0,Nat.zero_le _,rfl,HLI.out,HBL.out⟩
  case round=>
   obtain ⟨k,hk,rfl,hown,hbr⟩:=hrel
   have HOW:=Lib.hid hown;have HBR:=Lib.hid hbr
   have HBW:=Lib.hid (HB2.out.trans (hbr.mono HB2.out.size))
   obtain ⟨aa,ac,rfl⟩:=own_shape hown
   clear hown hbr
   by_cases hlt:k<l.length
   ·have hltI:(k:Int)<(l.length:Int):=by omega
    obtain ⟨b,o,rfl,hbl,cc⟩:=H3.out.resolve_left (by rintro rfl;simp at hlt)
    obtain ⟨u,hu⟩:=cc k hlt
    obtain ⟨d0,d1,d2,d3,hru⟩:=hu.mono hbl HBW.out
    obtain ⟨z1,z2,z3,z4⟩:=HZ.out _ (List.getElem_mem hlt)
    obtain ⟨D,hD,hD4,hTK⟩:=HPL.out k hlt
    have hvi:itemB l[k]=true:=by have:=HAL.out;rw [List.all_eq_true] at this;exact this _ (List.getElem_mem hlt)
    have hDc: ∃bd od,da=some ⟨bd,od,none⟩∧bd<w2.heap.size∧wr.cell? ⟨bd,od+k,none⟩=some (.int .i64 (D:Int)):=by
     obtain ⟨bo,bcap,hsl,g1,g2,g3⟩:=HDC.out
     rw [intsZ_length] at hsl g1
     simp only [Value.slice.injEq] at hsl
     obtain ⟨rfl,-,rfl⟩:=hsl
     obtain ⟨bd,od,rfl,hbd,hcd⟩:=g3.resolve_left (fun e=>by have:=congrArg List.length e;rw [intsZ_length,List.length_nil] at this;omega)
     refine ⟨bd,od,rfl,hbd,(HBR.out.cell (p:=⟨bd,_,none⟩) hbd).trans (hcd k _ ?_)⟩
     rw [←HLD.out] at hD
     simp [intsZ,hD]
    obtain ⟨bd,od,rfl,hbdl,dd⟩:=hDc
    have hdc:L.length≤dc:=by
     obtain ⟨bo,bcap,hsl,g1,g2,g3⟩:=HDC.out
     rw [intsZ_length] at hsl g1
     simp only [Value.slice.injEq] at hsl
     obtain ⟨-,-,rfl⟩:=hsl
     exact g1
    generalize l[k]=it at d0 d1 d2 d3 hru hTK hvi z1 z4
    obtain ⟨ik,inm,ics,int⟩:=it
    simp only at d0 d1 d2 d3 hru z1 z4
    obtain ⟨au,cu,rfl⟩: ∃au cu,u= .slice au ics.length cu:=by obtain ⟨au,cu,h,-⟩:=hru;exact ⟨au,cu,h⟩
    have HTK:=Lib.hid hTK
    have HLN:=Lib.hid (fun ww hh=>line_spec0 (u:= .slice au ics.length cu) (D:=D) ww hvi hh z1 z4 hD4)
    have HRD:=Lib.hid (show RowC wr.drew (.slice au ics.length cu) ics from hru.drewN 1)
    have HOD:=Lib.hid (show wr.drew.ownsRow w2.heap.size 9 1 (.slice aa k ac) k (strs ((printL l).take k)) from HOW.out.drew)
    have hs2:=HBR.out.size
    clear cc hu hru hTK hvi z1 z2 z3 z4 hD
    generalize baL (lineI (ik,inm,ics,int) D 0)=LN at HTK HLN
    have hbk0:(0:Int)≤(k:Int):=by omega
    have hbkL:(k:Int)<(L.length:Int):=by omega
    have HCE:=Lib.hid (show∀W',Below w2.heap.size w2 W'→W'.cell? ⟨b,o+k*4,none⟩=some (.int .i64 ik)∧W'.cell? ⟨b,o+k*4+1,none⟩=some (.string inm)∧W'.cell? ⟨b,o+k*4+2,none⟩=some (.slice au ics.length cu)∧W'.cell? ⟨b,o+k*4+3,none⟩=some (.string int)∧W'.cell? ⟨bd,od+k,none⟩=some (.int .i64 (D:Int)) from fun W' hb'=>
     have hbl':b<w2.heap.size:=Nat.lt_of_lt_of_le hbl HB2.out.size
     have cc: ∀(bb j:Nat),bb<w2.heap.size→W'.cell? ⟨bb,j,none⟩=wr.cell? ⟨bb,j,none⟩:=fun bb j h=>(hb'.cell (p:=⟨bb,j,none⟩) h).trans (HBR.out.cell (p:=⟨bb,j,none⟩) h).symm
     ⟨(cc b _ hbl').trans d0,(cc b _ hbl').trans d1,(cc b _ hbl').trans d2,(cc b _ hbl').trans d3,(cc bd _ hbdl).trans dd⟩)
    go_wp2_with fail
    go_region_held3 (fun W'=>W'.cell? ⟨b,o+k*4,none⟩=some (.int .i64 ik)∧W'.cell? ⟨b,o+k*4+1,none⟩=some (.string inm)∧W'.cell? ⟨b,o+k*4+2,none⟩=some (.slice au ics.length cu)∧W'.cell? ⟨b,o+k*4+3,none⟩=some (.string int)∧W'.cell? ⟨bd,od+k,none⟩=some (.int .i64 (D:Int)))
     (first|exact HCE.out _ HB4.out|exact HCE.out _ HB3.out|exact HCE.out _ HBR.out.drew|exact HCE.out _ HBR.out|go_keep)
     (first
       |((go_at_call 58;(with_reducible refine (HLN.out _ HRD.out).mono ?_);rintro e w3 ⟨rfl,hb3⟩;have hs3:=hb3.size;have HB3:=Lib.hid (HBR.out.drew.trans (hb3.mono HBR.out.size))))
       |(refine step_append_lies _ (by rfl) _ _ _ (by rfl) w2.heap.size 9 i0 _ 1 16 Tryz.underlying38 hi hz0 hz1 hz2 rfl (by omega) (.slice aa k ac) k _ (by rfl) (by exact ((own_belowS HOD.out hb3).alloc _))
          ⟨w3.heap.size,0,none⟩ 1 1 [.string LN] (by rfl) (by rfl) (World.news_of_block (cs:= #[.string LN]) (t:=9) (fr:=(0,0)) (heap_alloc_new w3 _)) (by simp [Value.oneCell'])
          (by omega) (by unfold maxLen;omega) (by omega) (by simp;exact Nat.le_succ_of_le (Nat.le_trans HBR.out.size hs3)) (w3.heap.size+1) (by simp) ?_;intro gg cap' w4 hown4 hgrow4 hat4 hlt4;have HB4:=Lib.hid ((HB3.out.alloc (Nat.le_trans HBR.out.size hs3) (.cells #[.string LN] 9)).grown hgrow4 (by simp;exact Nat.le_succ_of_le (Nat.le_trans HBR.out.size hs3)) (fun q hq=>(HOW.out.lt q hq).1))))
    all_goals
     have HO4:=Lib.hid hown4
     clear hown4 hgrow4 hat4 hlt4 hb3
     go_wp2
     go_roundw
     case rel=>exact ⟨k+1,by omega,by go_num,by rw [HTK.out,strs_append];exact HO4.out,HB4.out⟩
     case measure=>simp [intOf];omega
   ·obtain rfl:k=l.length:=by omega
    have hltI: ¬(l.length:Int)<(l.length:Int):=by omega
    have HFU:=Lib.hid (show RowOf wr (.slice aa l.length ac) (strs (printL l)) from by
     have:=RowOf.of_own HOW.out
     rw [List.take_of_length_le (Nat.le_of_eq HLL.out)] at this
     exact this)
    go_wp2_with fail
    refine (linesText_spec _ (printL l) wr HFU.out HPS.out).mono ?_
    rintro e w5 ⟨hj,hw5⟩
    subst hw5
    unfold Joins at hj
    subst hj
    go_wp2
    go_ret2
    exact ⟨rfl,HBW.out⟩
theorem sp_plain (n:Nat):plainL (spL n)=true:=by
 unfold plainL spL
 rw [List.all_eq_true]
 intro b hb
 rw [List.eq_of_mem_replicate hb];decide
theorem nm_plainA {l:List UInt8} (h: ∀b∈l,isNm b=true):plainL l=true:=by
 unfold plainL
 rw [List.all_eq_true]
 intro b hb
 have:=h b hb
 simp only [isNm,parI,ltrI,digI,Bool.or_eq_true,Bool.and_eq_true,decide_eq_true_eq,beq_iff_eq] at this
 simp only [plainI,Bool.and_eq_true,decide_eq_true_eq]
 omega
theorem note_plainA {s:ByteArray} (h:noteB s=true):plainL s.data.toList=true:=by
 unfold noteB at h
 simp only [Bool.and_eq_true,Bool.not_eq_true'] at h
 obtain ⟨h1,-,h2,-⟩:=h
 unfold plainL
 rw [List.all_eq_true]
 intro b hb
 simp only [textB,Bool.and_eq_true] at h1
 have h3:=h1.2
 unfold okL at h3
 rw [List.all_eq_true] at h3
 have h4:=h3 b hb
 unfold okI at h4
 rw [Bool.or_eq_true] at h4
 rcases h4 with h4|h4
 ·exfalso
  unfold hasL at h2
  rw [List.any_eq_false] at h2
  exact h2 b hb h4
 ·exact h4
theorem textE_plain {l:List Cl} (h:okE l=true):plainL (textE l)=true:=by
 obtain ⟨x,hg,ht,-,-⟩:=pz_of h
 rw [←ht];exact hg.plain
theorem line_plain {i:It} (h:itemB i=true) (D W:Nat):plainL (lineI i D W)=true:=by
 obtain ⟨k,n,l,t⟩:=i
 have hnote: ∀t:ByteArray,(emB t=true∨noteB t=true)→plainL t.data.toList=true:=by
  rintro t (ht|ht)
  ·rw [emB_iff.mp ht];rfl
  ·exact note_plainA ht
 have c1:plainL [125]=true:=by decide
 have c2:plainL [32,123]=true:=by decide
 have c3:plainL [32,61,32]=true:=by decide
 have c4:plainL [32,35,32]=true:=by decide
 have c5:plainI ((35:UInt8).toNat:Int)=true:=by decide
 have c6:plainI ((32:UInt8).toNat:Int)=true:=by decide
 have c7:plainL []=true:=rfl
 unfold itemB at h
 simp only at h
 unfold lineI coreI
 simp only
 by_cases h1:k=1
 ·rw [if_pos h1];rfl
 rw [if_neg h1,plain_app,sp_plain,Bool.true_and]
 by_cases h5:k=5
 ·rw [if_pos h5];exact c1
 rw [if_neg (by omega)] at h
 rw [if_neg h5]
 by_cases h4:k=4
 ·rw [if_pos h4]
  subst h4
  simp only [show¬(4:Int)=2 by decide,show¬(4:Int)=3 by decide,if_false,if_true,Bool.and_eq_true] at h
  rw [plain_app,c2,nm_plainA (simp_parts h.1).2];rfl
 rw [if_neg h4]
 by_cases h2:k=2
 ·rw [if_pos h2]
  rw [if_pos h2] at h
  simp only [Bool.and_eq_true] at h
  rw [plain_cons,c5,Bool.true_and]
  split
  ·rfl
  ·rw [plain_cons,c6,Bool.true_and];exact note_plainA h.2.2
 rw [if_neg h2] at h⊢
 by_cases h3:k=3
 ·rw [if_pos h3] at h⊢
  simp only [Bool.and_eq_true] at h
  simp only [plain_app]
  rw [nm_plainA (simp_parts h.1).2,sp_plain,c3,textE_plain h.2.1]
  simp only [Bool.true_and]
  split
  ·rfl
  ·rw [plain_app,c4,note_plainA h.2.2];rfl
 ·rw [if_neg h3];rfl
open Go.RowKit Go.ChangeShapes Go.WideShapes Go.Deep
theorem open_cells {H:Type} {enc:TypeId×Value→H} {w:World} {base:Nat} {spare:Nat→Bool} {held:Bool} {fuel:Nat} {cs:List Value} {x:DataW H×List MemPlace}
  (h:DataW.trod enc Tryz.prog w base spare held fuel 75 cs=some x):
  cs=[.slice none 0 0]∨ ∃(a:Addr) (len cap:Nat) (f:Nat→Cl),cs=[.slice (some a) len cap]∧len≤cap∧cap≤maxLen∧
   ∀i,i<len→w.cell? (a.add (i*3))=some (.int .i64 (f i).1)∧w.cell? (a.add (i*3+1))=some (.string (f i).2.1)∧w.cell? (a.add (i*3+2))=some (.int .i64 (f i).2.2)∧(f i).2.1.size≤maxLen:=by
 have hC:Tryz.prog.cellsOf 148=3:=by kernel_rfl
 rcases open_slice Tryz.underlying75 h with ⟨h0,-⟩|⟨a,len,cap,m,n,D,Pl,hcs,hb,hl,hm,hmm,hx,hi⟩
 ·exact .inl h0
 ·refine .inr ⟨a,len,cap, ?_⟩
  have key: ∀i,∃c:Cl,i<len→w.cell? (a.add (i*3))=some (.int .i64 c.1)∧w.cell? (a.add (i*3+1))=some (.string c.2.1)∧w.cell? (a.add (i*3+2))=some (.int .i64 c.2.2)∧c.2.1.size≤maxLen:=by
   intro i
   by_cases hil:i<len
   ·have him:i<m:=by rw [hmm];split<;>omega
    obtain ⟨cs',hc,ht'⟩:=hi i him
    rw [hC] at hc
    obtain ⟨y0,y1,y2,n',-,hlen,g0,g1,g2⟩:=trod_struct3 Tryz.underlying148 ht'
    rw [hC] at hlen
    obtain ⟨_,-,hat⟩:=World.cells?_some hc
    match cs',hlen with
    |[z0,z1,z2],_=>
     obtain ⟨k,e0,-,-⟩:=DataW.trod_int Tryz.underlying3 g0
     obtain ⟨s,e1,-,hz⟩:=DataW.trod_string Tryz.underlying9 g1
     obtain ⟨q,e2,-,-⟩:=DataW.trod_int Tryz.underlying3 g2
     have r0:z0= .int .i64 k:=by
      have:([z0,z1,z2].drop 0).take (Tryz.prog.cellsOf 3)=[z0]:=by rw [show Tryz.prog.cellsOf 3=1 by kernel_rfl];rfl
      rw [this] at e0;simpa using e0
     have r1:z1= .string s:=by
      have:([z0,z1,z2].drop 1).take (Tryz.prog.cellsOf 9)=[z1]:=by rw [show Tryz.prog.cellsOf 9=1 by kernel_rfl];rfl
      rw [this] at e1;simpa using e1
     have r2:z2= .int .i64 q:=by
      have:([z0,z1,z2].drop 2).take (Tryz.prog.cellsOf 3)=[z2]:=by rw [show Tryz.prog.cellsOf 3=1 by kernel_rfl];rfl
      rw [this] at e2;simpa using e2
     refine ⟨(k,s,q),fun _=> ?_⟩
     have h0:=hat 0 (by omega);have h1:=hat 1 (by omega);have h2:=hat 2 (by omega)
     simp only [List.getElem?_cons_zero,List.getElem?_cons_succ,r0,r1,r2] at h0 h1 h2
     rw [Go.Deep.add_add] at h0 h1 h2
     exact ⟨h0,h1,h2,hz⟩
   ·exact ⟨(0,ByteArray.empty,0),fun h=>absurd h hil⟩
  refine ⟨fun i=>(key i).choose,hcs,hl,hm,fun i hil=>(key i).choose_spec hil⟩
def SizedI (i:It):Prop:=i.2.1.size≤maxLen∧SizedC i.2.2.1∧i.2.2.2.size≤maxLen
def ArgIs (w:World) (a:Option Addr) (len cap:Nat) (l:List It):Prop:=l.length=len∧RowIt w (.slice a len cap) l∧ ∀i∈l,SizedI i
theorem ArgIs.of_nil (w:World):ArgIs w none 0 0 []:=⟨rfl,⟨none,0,rfl,Nat.le_refl _,by unfold maxLen;omega, .inl rfl⟩,fun _ h=>by cases h⟩
theorem ArgIs.of {w:World} {x:Addr} {len cap:Nat} (f:Nat→It) (hl:len≤cap) (hm:cap≤maxLen)
  (hc: ∀i,i<len→ ∃u,w.cell? (x.add (i*4))=some (.int .i64 (f i).1)∧w.cell? (x.add (i*4+1))=some (.string (f i).2.1)∧w.cell? (x.add (i*4+2))=some u∧w.cell? (x.add (i*4+3))=some (.string (f i).2.2.2)∧RowC w u (f i).2.2.1∧SizedI (f i)):
  ArgIs w (some x) len cap ((List.range len).map f):=by
 have hlen:((List.range len).map f).length=len:=by simp
 refine ⟨hlen,⟨some x,cap,by rw [hlen],by rw [hlen];exact hl,hm, ?_⟩, ?_⟩
 ·by_cases h0:len=0
  ·left;subst h0;rfl
  ·right
   obtain ⟨b,off,spot⟩:=x
   obtain ⟨u0,g0,-⟩:=hc 0 (by omega)
   have hc0:=cell_low g0
   have hsp:spot=none:=by
    have:=hc0.1
    unfold Addr.add at this;split at this<;>simp_all
   subst hsp
   refine ⟨b,off,rfl,by have:=hc0.2;rw [addr_add] at this;exact this,fun k hk=> ?_⟩
   rw [hlen] at hk
   obtain ⟨u,c0,c1,c2,c3,c4,-⟩:=hc k hk
   rw [addr_add] at c0 c1 c2 c3
   simp only [List.getElem_map,List.getElem_range]
   exact ⟨u,c0,by rw [Nat.add_assoc];exact c1,by rw [Nat.add_assoc];exact c2,by rw [Nat.add_assoc];exact c3,c4⟩
 ·intro c hcm
  simp only [List.mem_map,List.mem_range] at hcm
  obtain ⟨i,hi,rfl⟩:=hcm
  obtain ⟨u,-,-,-,-,-,h⟩:=hc i hi
  exact h
theorem open_fields {H:Type} {enc:TypeId×Value→H} {w:World} {base:Nat} {spare:Nat→Bool} {held:Bool} {n:Nat} {z0 z1 z2 z3:Value} {y0 y1 y2 y3:DataW H×List MemPlace}
  (g0:DataW.trod enc Tryz.prog w base spare held n 3 [z0]=some y0) (g1:DataW.trod enc Tryz.prog w base spare held n 9 [z1]=some y1) (g2:DataW.trod enc Tryz.prog w base spare held n 75 [z2]=some y2) (g3:DataW.trod enc Tryz.prog w base spare held n 9 [z3]=some y3):
  ∃i:It,z0= .int .i64 i.1∧z1= .string i.2.1∧z3= .string i.2.2.2∧RowC w z2 i.2.2.1∧SizedI i:=by
 obtain ⟨k,e0,-,-⟩:=DataW.trod_int Tryz.underlying3 g0
 obtain ⟨s,e1,-,hz1⟩:=DataW.trod_string Tryz.underlying9 g1
 obtain ⟨t,e3,-,hz3⟩:=DataW.trod_string Tryz.underlying9 g3
 obtain rfl:z0= .int .i64 k:=by simpa using e0
 obtain rfl:z1= .string s:=by simpa using e1
 obtain rfl:z3= .string t:=by simpa using e3
 rcases open_cells g2 with hn|⟨a',len',cap',f,hs,hl',hm',hc'⟩
 ·obtain rfl:z2= .slice none 0 0:=by simpa using hn
  exact ⟨(k,s,[],t),rfl,rfl,rfl,(ArgRow.of_nil w).2.1,hz1,(ArgRow.of_nil w).2.2,hz3⟩
 ·obtain rfl:z2= .slice (some a') len' cap':=by simpa using hs
  have hA:=ArgRow.of f hl' hm' hc'
  exact ⟨(k,s,(List.range len').map f,t),rfl,rfl,rfl,hA.2.1,hz1,hA.2.2,hz3⟩
theorem open_items {H:Type} {enc:TypeId×Value→H} {w:World} {base:Nat} {spare:Nat→Bool} {held:Bool} {fuel:Nat} {cs:List Value} {x:DataW H×List MemPlace}
  (h:DataW.trod enc Tryz.prog w base spare held fuel 42 cs=some x):
  cs=[.slice none 0 0]∨ ∃(a:Addr) (len cap:Nat) (f:Nat→It),cs=[.slice (some a) len cap]∧len≤cap∧cap≤maxLen∧
   ∀i,i<len→ ∃u,w.cell? (a.add (i*4))=some (.int .i64 (f i).1)∧w.cell? (a.add (i*4+1))=some (.string (f i).2.1)∧w.cell? (a.add (i*4+2))=some u∧w.cell? (a.add (i*4+3))=some (.string (f i).2.2.2)∧RowC w u (f i).2.2.1∧SizedI (f i):=by
 have hC:Tryz.prog.cellsOf 77=4:=by kernel_rfl
 rcases open_slice Tryz.underlying42 h with ⟨h0,-⟩|⟨a,len,cap,m,n,D,Pl,hcs,hb,hl,hm,hmm,hx,hi⟩
 ·exact .inl h0
 ·refine .inr ⟨a,len,cap, ?_⟩
  have key: ∀i,∃c:It,i<len→ ∃u,w.cell? (a.add (i*4))=some (.int .i64 c.1)∧w.cell? (a.add (i*4+1))=some (.string c.2.1)∧w.cell? (a.add (i*4+2))=some u∧w.cell? (a.add (i*4+3))=some (.string c.2.2.2)∧RowC w u c.2.2.1∧SizedI c:=by
   intro i
   by_cases hil:i<len
   ·have him:i<m:=by rw [hmm];split<;>omega
    obtain ⟨cs',hc,ht'⟩:=hi i him
    rw [hC] at hc
    obtain ⟨y0,y1,y2,y3,n',-,hlen,g0,g1,g2,g3⟩:=Go.Joins.trod_struct4 Tryz.underlying77 ht'
    rw [hC] at hlen
    obtain ⟨_,-,hat⟩:=World.cells?_some hc
    match cs',hlen with
    |[z0,z1,z2,z3],_=>
     rw [show ([z0,z1,z2,z3].drop 0).take (Tryz.prog.cellsOf 3)=[z0] by rw [show Tryz.prog.cellsOf 3=1 by kernel_rfl];rfl] at g0
     rw [show ([z0,z1,z2,z3].drop 1).take (Tryz.prog.cellsOf 9)=[z1] by rw [show Tryz.prog.cellsOf 9=1 by kernel_rfl];rfl] at g1
     rw [show ([z0,z1,z2,z3].drop 2).take (Tryz.prog.cellsOf 75)=[z2] by rw [show Tryz.prog.cellsOf 75=1 by kernel_rfl];rfl] at g2
     rw [show ([z0,z1,z2,z3].drop 3).take (Tryz.prog.cellsOf 9)=[z3] by rw [show Tryz.prog.cellsOf 9=1 by kernel_rfl];rfl] at g3
     obtain ⟨c,r0,r1,r3,hr,hz⟩:=open_fields g0 g1 g2 g3
     have h0:=hat 0 (by omega);have h1:=hat 1 (by omega);have h2:=hat 2 (by omega);have h3:=hat 3 (by omega)
     simp only [List.getElem?_cons_zero,List.getElem?_cons_succ,r0,r1,r3] at h0 h1 h2 h3
     rw [Go.Deep.add_add] at h0 h1 h2 h3
     exact ⟨c,fun _=>⟨_,h0,h1,h2,h3,hr,hz⟩⟩
   ·exact ⟨(0,ByteArray.empty,[],ByteArray.empty),fun h=>absurd h hil⟩
  refine ⟨fun i=>(key i).choose,hcs,hl,hm,fun i hil=>(key i).choose_spec hil⟩
theorem szCell_any (k m:Int) (s:ByteArray) (n:Int) (w:World) (hs:s.size≤maxLen) (hn0:0≤n) (hn1:n≤1048576):
  Calls Tryz.prog 145 #[.agg #[.int .i64 k, .string s, .int .i64 m], .int .i64 n] w fun e w'=>e= .returned (.int .i64 (if (s.size:Int)≤n then n-s.size else-1))∧Below w.heap.size w w':=by
 unfold maxLen at hs
 by_cases h:(s.size:Int)≤n
 ·rw [if_pos h]
  go_enter Tryz.func145,Tryz.ntmps145
  go_wp2
  go_ret
  exact ⟨rfl,(Below.refl _ _).alloc (Nat.le_refl _) _⟩
 ·rw [if_neg h]
  go_enter Tryz.func145,Tryz.ntmps145
  go_wp2
  go_ret
  exact ⟨rfl,(Below.refl _ _).alloc (Nat.le_refl _) _⟩
theorem toCell_any (k m:Int) (s:ByteArray) (w:World):
  Calls Tryz.prog 146 #[.agg #[.int .i64 k, .string s, .int .i64 m]] w fun e w'=>e= .returned (.agg #[.int .i64 k, .string s, .int .i64 m])∧Below w.heap.size w w':=by
 go_enter Tryz.func146,Tryz.ntmps146
 go_wp2
 exact bodyPost_ret (v:= .agg #[.int .i64 k, .string s, .int .i64 m]) (by simp [results,Tryz.results146,go_sem]) rfl ⟨rfl,by (repeat' (first|exact Below.refl _ _|refine Below.setCell ?_ ?_ _|refine Below.alloc ?_ ?_ _))<;>first|exact Nat.le_refl _|(simp;done)|(simp;omega)⟩
end Go.Proofs.YtegdjjjpoahamaaGreatDoor
