/-
  Part of the proof of FnAlignDocument.
-/
import Derived.Test.YtegdjjjpoahamaaGreatDoorSpacesS
import Derived.Test.YtegdjjjpoahamaaGreatDoorQQAab
import Derived.Test.YtegdjjjpoahamaaGreatDoorReadLine
import Derived.WalkKit
import Derived.WalkSpells
import Derived.Lib.Hide
import Derived.IntWalk
import Derived.BigQuiet
import Derived.Deep.QuietTactic
import Derived.Below
import Derived.Laws.OwnMore
import Derived.OwnWalk
set_option linter.unusedVariables false
set_option maxHeartbeats 8000000
set_option maxRecDepth 100000
namespace Go.Proofs.YtegdjjjpoahamaaGreatDoor
open Go.RowKit
theorem txt_any {u:Value} {l:List Cl} (hok:okE l=true) (w:World) (hr:RowC w u l):
  Calls Tryz.prog 93 #[u, .int .i64 0] w fun e w'=>e= .returned (.string ⟨(textE l).toArray⟩)∧Below w.heap.size w w':=by
 obtain ⟨x,hx⟩:=okE_tx hok
 have hoi:=(okE_iff l).mp hok
 rw [textE_of hok hx]
 exact text_all hoi.1 (allW_of hoi.2.1) l.length 0 l.length x w hx (by omega) hr
theorem em_no {s:ByteArray} (h:emB s=false):(s.toList==[])=false∧(s.toList !=[])=true:=by
 have: ¬s.toList=[]:=by
  intro k
  rw [ByteArray.toList_eq] at k
  have h2:s.size=0:=by rw [←ByteArray.size_data,←Array.length_toList,k];rfl
  rw [emB,h2] at h;cases h
 exact ⟨beq_eq_false_iff_ne.mpr this,bne_iff_ne.mpr this⟩
theorem em_yes {s:ByteArray} (h:emB s=true):(s.toList !=[])=false:=by rw [bne,(em_t h).1];rfl
theorem line_spec (i:It) (u:Value) (deep W:Nat) (w:World) (hv:itemB i=true) (hr:RowC w u i.2.2.1) (hn:i.2.1.size≤1048576) (ht:i.2.2.2.size≤1048576) (hd:deep≤4) (hW:W≤1000):
 Calls Tryz.prog 58 #[.agg #[.int .i64 i.1, .string i.2.1,u, .string i.2.2.2], .int .i64 (deep:Int), .int .i64 (W:Int)] w fun e w'=>e= .returned (.string (baL (lineI i deep W)))∧Below w.heap.size w w':=by
 obtain ⟨k,n,l,t⟩:=i
 simp only at hr hn ht⊢
 have HV:=Lib.hid hv;clear hv
 have HR:=Lib.hid hr
 obtain ⟨ao,cap,rfl,hc1,h2,h3⟩:=hr
 clear h3
 unfold maxLen at h2
 have hto:(2*(deep:Int)).toNat=2*deep:=by omega
 have HB1:=Lib.hid ((Below.refl w.heap.size w).alloc (Nat.le_refl _) (.cells #[.int .i64 k, .string n, .slice ao l.length cap, .string t] 32))
 have hss:=sp_size (2*deep)
 obtain ⟨S,HS,hS⟩: ∃S:ByteArray,Hid (baL (spL (2*deep))=S)∧S.size=2*deep:=⟨_,Lib.hid rfl,hss⟩
 clear hss
 by_cases h1:k=1
 ·subst h1
  have HL:=Lib.hid (show baL (lineI (1,n,l,t) deep W)=⟨#[]⟩ from ba_eq (by simp [lineI,baL]))
  go_enter Tryz.func58,Tryz.ntmps58
  go_wp2_with fail
  refine (spaces_spec _ _ (by omega)).mono ?_
  rintro e w1 ⟨rfl,hw1⟩
  subst hw1
  rw [hto,HS.out]
  go_wp2
  go_ret
  exact ⟨by rw [HL.out];rfl,HB1.out⟩
 by_cases h5:k=5
 ·subst h5
  have HL:=Lib.hid (show baL (lineI (5,n,l,t) deep W)=S++⟨#[125]⟩ from by rw [←HS.out];exact ba_eq (by simp [lineI,coreI,baL]))
  have r0: ¬9223372036854775807<S.size+1:=by omega
  go_enter Tryz.func58,Tryz.ntmps58
  go_wp2_with fail
  refine (spaces_spec _ _ (by omega)).mono ?_
  rintro e w1 ⟨rfl,hw1⟩
  subst hw1
  rw [hto,HS.out]
  go_wp2
  go_ret
  exact ⟨by rw [HL.out];rfl,HB1.out⟩
 by_cases h4:k=4
 ·subst h4
  have HL:=Lib.hid (show baL (lineI (4,n,l,t) deep W)=S++n++⟨#[32,123]⟩ from by rw [←HS.out];exact ba_eq (by simp [lineI,coreI,baL]))
  have r0: ¬9223372036854775807<S.size+n.size:=by omega
  have r1: ¬9223372036854775807<S.size+n.size+2:=by omega
  go_enter Tryz.func58,Tryz.ntmps58
  go_wp2_with fail
  refine (spaces_spec _ _ (by omega)).mono ?_
  rintro e w1 ⟨rfl,hw1⟩
  subst hw1
  rw [hto,HS.out]
  go_wp2
  go_ret
  exact ⟨by rw [HL.out];rfl,HB1.out⟩
 cases hem:emB t with
 |true=>
  have e1:=(em_t hem).1
  have e2:=em_yes hem
  have HEM:=Lib.hid hem;clear hem
  by_cases hk2:k=2
  ·subst hk2
   have HL:=Lib.hid (show baL (lineI (2,n,l,t) deep W)=S++⟨#[35]⟩ from by rw [←HS.out];exact ba_eq (by simp [lineI,coreI,baL,HEM.out]))
   have r0: ¬9223372036854775807<S.size+1:=by omega
   go_enter Tryz.func58,Tryz.ntmps58
   go_wp2_with fail
   refine (spaces_spec _ _ (by omega)).mono ?_
   rintro e w1 ⟨rfl,hw1⟩
   subst hw1
   rw [hto,HS.out]
   go_wp2
   go_ret
   exact ⟨by rw [HL.out];rfl,HB1.out⟩
  ·skip
   have hk3:k=3:=by
    have:=HV.out
    unfold itemB at this
    simp only at this
    rw [if_neg (by omega),if_neg hk2] at this
    by_cases h:k=3
    ·exact h
    ·rw [if_neg h,if_neg h4] at this;cases this
   subst hk3
   have hoe:okE l=true:=by
    have:=HV.out
    simp only [itemB] at this
    simp at this
    exact this.2.1
   obtain ⟨P,HP,hP⟩: ∃P:ByteArray,Hid (baL (spL (W-n.size))=P)∧P.size=W-n.size:=⟨_,Lib.hid rfl,sp_size _⟩
   obtain ⟨X,HX,hX⟩: ∃X:ByteArray,Hid ((⟨(textE l).toArray⟩:ByteArray)=X)∧X.size≤12000:=⟨_,Lib.hid rfl,textE_len l⟩
   have HSP:=Lib.hid (show∀w',Calls Tryz.prog 92 #[.int .i64 (IntKind.i64.wrap ((W:Int)-(n.size:Int)))] w' (fun e w2=>e= .returned (.string P)∧w'=w2) from fun w'=>by
    rw [show IntKind.i64.wrap ((W:Int)-(n.size:Int))=(W:Int)-(n.size:Int) from IntWalk.i64_in _ (by omega),←HP.out,show W-n.size=((W:Int)-(n.size:Int)).toNat by omega]
    exact spaces_spec _ w' (by omega))
   have hp2:P.size≤1000:=by omega
   have HL:=Lib.hid (show baL (lineI (3,n,l,t) deep W)=S++n++P++⟨#[32,61,32]⟩++X from by rw [←HS.out,←HP.out,←HX.out];exact ba_eq (by simp [lineI,coreI,baL,HEM.out]))
   have HTX:=Lib.hid (fun w' hr'=>txt_any (u:= .slice ao l.length cap) hoe w' hr')
   have HRB:=Lib.hid (HR.out.mono HB1.out)
   have HRD:=Lib.hid (show RowC (w.alloc (.cells #[.int .i64 3, .string n, .slice ao l.length cap, .string t] 32)).drew (.slice ao l.length cap) l from HRB.out.drewN 1)
   have r0: ¬9223372036854775807<S.size+n.size:=by omega
   have r1: ¬9223372036854775807<S.size+n.size+P.size:=by omega
   have r2: ¬9223372036854775807<S.size+n.size+P.size+3:=by omega
   have r3: ¬9223372036854775807<S.size+n.size+P.size+3+X.size:=by omega
   have hlt:w.heap.size<(w.alloc (.cells #[.int .i64 3, .string n, .slice ao l.length cap, .string t] 32)).drew.heap.size:=by simp
   clear h4 hk2 h5 h1
   go_enter Tryz.func58,Tryz.ntmps58
   go_wp2_with fail
   refine (spaces_spec _ _ (by omega)).mono ?_
   rintro e w1 ⟨rfl,hw1⟩
   subst hw1
   rw [hto,HS.out]
   clear hS hP hp2 hX hto h2 hc1 ht
   go_wp2_with fail
   go_region_held3 (fun w'=>w'.cell? ⟨w.heap.size,1,none⟩=some (.string n)∧w'.cell? ⟨w.heap.size,2,none⟩=some (.slice ao l.length cap)∧w'.cell? ⟨w.heap.size,3,none⟩=some (.string t))
    (first
      |go_keep
      |(go_split_ands
        refine ⟨?_, ?_, ?_⟩
        ·(rw [hb3.cell (by exact hlt)];assumption)
        ·(rw [hb3.cell (by exact hlt)];assumption)
        ·(rw [hb3.cell (by exact hlt)];assumption)))
    (first
      |((go_at_call 92;(with_reducible refine (HSP.out _).mono ?_);rintro e w2 ⟨rfl,hw2⟩;subst hw2))
      |((go_at_call 93;(with_reducible refine (HTX.out _ HRD.out).mono ?_);rintro e w3 ⟨rfl,hb3⟩;rw [HX.out])))
   all_goals
    have HB3:=Lib.hid (HB1.out.drew.trans (hb3.mono HB1.out.size));clear hb3
    go_wp2
    go_ret
    exact ⟨by rw [HL.out];rfl,HB3.out⟩
 |false=>
  obtain ⟨e1,e2⟩:=em_no hem
  have HEM:=Lib.hid hem;clear hem
  by_cases hk2:k=2
  ·subst hk2
   have HL:=Lib.hid (show baL (lineI (2,n,l,t) deep W)=S++⟨#[35]⟩++⟨#[32]⟩++t from by rw [←HS.out];exact ba_eq (by simp [lineI,coreI,baL,HEM.out]))
   have r0: ¬9223372036854775807<S.size+1:=by omega
   have r1: ¬9223372036854775807<S.size+1+1:=by omega
   have r2: ¬9223372036854775807<S.size+1+1+t.size:=by omega
   go_enter Tryz.func58,Tryz.ntmps58
   go_wp2_with fail
   refine (spaces_spec _ _ (by omega)).mono ?_
   rintro e w1 ⟨rfl,hw1⟩
   subst hw1
   rw [hto,HS.out]
   go_wp2
   go_ret
   exact ⟨by rw [HL.out];rfl,HB1.out⟩
  ·skip
   have hk3:k=3:=by
    have:=HV.out
    unfold itemB at this
    simp only at this
    rw [if_neg (by omega),if_neg hk2] at this
    by_cases h:k=3
    ·exact h
    ·rw [if_neg h,if_neg h4] at this;cases this
   subst hk3
   have hoe:okE l=true:=by
    have:=HV.out
    simp only [itemB] at this
    simp at this
    exact this.2.1
   obtain ⟨P,HP,hP⟩: ∃P:ByteArray,Hid (baL (spL (W-n.size))=P)∧P.size=W-n.size:=⟨_,Lib.hid rfl,sp_size _⟩
   obtain ⟨X,HX,hX⟩: ∃X:ByteArray,Hid ((⟨(textE l).toArray⟩:ByteArray)=X)∧X.size≤12000:=⟨_,Lib.hid rfl,textE_len l⟩
   have HSP:=Lib.hid (show∀w',Calls Tryz.prog 92 #[.int .i64 (IntKind.i64.wrap ((W:Int)-(n.size:Int)))] w' (fun e w2=>e= .returned (.string P)∧w'=w2) from fun w'=>by
    rw [show IntKind.i64.wrap ((W:Int)-(n.size:Int))=(W:Int)-(n.size:Int) from IntWalk.i64_in _ (by omega),←HP.out,show W-n.size=((W:Int)-(n.size:Int)).toNat by omega]
    exact spaces_spec _ w' (by omega))
   have hp2:P.size≤1000:=by omega
   have HL:=Lib.hid (show baL (lineI (3,n,l,t) deep W)=S++n++P++⟨#[32,61,32]⟩++X++⟨#[32,35]⟩++⟨#[32]⟩++t from by rw [←HS.out,←HP.out,←HX.out];exact ba_eq (by simp [lineI,coreI,baL,HEM.out]))
   have HTX:=Lib.hid (fun w' hr'=>txt_any (u:= .slice ao l.length cap) hoe w' hr')
   have HRB:=Lib.hid (HR.out.mono HB1.out)
   have HRD:=Lib.hid (show RowC (w.alloc (.cells #[.int .i64 3, .string n, .slice ao l.length cap, .string t] 32)).drew (.slice ao l.length cap) l from HRB.out.drewN 1)
   have r0: ¬9223372036854775807<S.size+n.size:=by omega
   have r1: ¬9223372036854775807<S.size+n.size+P.size:=by omega
   have r2: ¬9223372036854775807<S.size+n.size+P.size+3:=by omega
   have r3: ¬9223372036854775807<S.size+n.size+P.size+3+X.size:=by omega
   have r4: ¬9223372036854775807<S.size+n.size+P.size+3+X.size+2:=by omega
   have r5: ¬9223372036854775807<S.size+n.size+P.size+3+X.size+2+1:=by omega
   have r6: ¬9223372036854775807<S.size+n.size+P.size+3+X.size+2+1+t.size:=by omega
   have hlt:w.heap.size<(w.alloc (.cells #[.int .i64 3, .string n, .slice ao l.length cap, .string t] 32)).drew.heap.size:=by simp
   clear h4 hk2 h5 h1
   go_enter Tryz.func58,Tryz.ntmps58
   go_wp2_with fail
   refine (spaces_spec _ _ (by omega)).mono ?_
   rintro e w1 ⟨rfl,hw1⟩
   subst hw1
   rw [hto,HS.out]
   clear hS hP hp2 hX hto h2 hc1 ht
   go_wp2_with fail
   go_region_held3 (fun w'=>w'.cell? ⟨w.heap.size,1,none⟩=some (.string n)∧w'.cell? ⟨w.heap.size,2,none⟩=some (.slice ao l.length cap)∧w'.cell? ⟨w.heap.size,3,none⟩=some (.string t))
    (first
      |go_keep
      |(go_split_ands
        refine ⟨?_, ?_, ?_⟩
        ·(rw [hb3.cell (by exact hlt)];assumption)
        ·(rw [hb3.cell (by exact hlt)];assumption)
        ·(rw [hb3.cell (by exact hlt)];assumption)))
    (first
      |((go_at_call 92;(with_reducible refine (HSP.out _).mono ?_);rintro e w2 ⟨rfl,hw2⟩;subst hw2))
      |((go_at_call 93;(with_reducible refine (HTX.out _ HRD.out).mono ?_);rintro e w3 ⟨rfl,hb3⟩;rw [HX.out])))
   all_goals
    have HB3:=Lib.hid (HB1.out.drew.trans (hb3.mono HB1.out.size));clear hb3
    go_wp2
    go_ret
    exact ⟨by rw [HL.out];rfl,HB3.out⟩
theorem note_of (s:ByteArray):noteB s=(textB s&&(decide (s.size≤60)&&(!hasL s.data.toList 10&& !spacedB s))):=by
 unfold noteB spacedB
 simp only [Bool.not_or,bne]
theorem note_spec (s:ByteArray) (w:World) (hs:s.size≤maxLen):
  Calls Tryz.prog 82 #[.string s] w fun e w'=>e= .returned (.bool (noteB s))∧w=w':=by
 have HMX:=Lib.hid hs
 have HHX:=Lib.hid (l1Has_any s 10 w hs (by omega) (by omega))
 unfold maxLen at hs
 rw [note_of]
 cases h0:textB s with
 |false=>
  go_enter Tryz.func82,Tryz.ntmps82
  go_wp2_with fail
  refine (textValid_spec s _ HMX.out).mono ?_
  rintro e w' ⟨rfl,rfl⟩
  rw [h0]
  go_wp2
  go_ret
  exact ⟨rfl,rfl⟩
 |true=>
  by_cases h:s.size≤60
  ·rw [decide_eq_true h]
   have z:decide ((s.size:Int)≤60)=true:=decide_eq_true (by omega)
   cases hh:hasL s.data.toList 10 with
   |true=>
    go_enter Tryz.func82,Tryz.ntmps82
    go_wp2_with fail
    refine (textValid_spec s _ HMX.out).mono ?_
    rintro e w' ⟨rfl,rfl⟩
    rw [h0]
    go_wp2_with fail
    refine HHX.out.mono ?_
    rintro e w' ⟨rfl,rfl⟩
    rw [hh]
    go_wp2
    go_ret
    exact ⟨rfl,rfl⟩
   |false=>
    cases he:emB s with
    |true=>
     obtain ⟨a1,a2,a3,a4⟩:=em_t he
     have hz:s.data.toList=[]:=by rw [←ByteArray.toList_eq];exact a2
     rw [show spacedB s=false by unfold spacedB;rw [hz];rfl]
     clear hz
     go_enter Tryz.func82,Tryz.ntmps82
     go_wp2_with fail
     refine (textValid_spec s _ HMX.out).mono ?_
     rintro e w' ⟨rfl,rfl⟩
     rw [h0]
     go_wp2_with fail
     refine HHX.out.mono ?_
     rintro e w' ⟨rfl,rfl⟩
     rw [hh]
     go_wp2
     go_ret
     exact ⟨rfl,rfl⟩
    |false=>
     obtain ⟨a1,a2,a3,a4⟩:=em_f he
     have hp:0<s.size:=by
      rcases Nat.eq_zero_or_pos s.size with e|e
      ·exfalso;unfold emB at he;rw [e] at he;cases he
      ·exact e
     rw [spaced_at s hp]
     have e1:((s.size:Int)-1).toNat=s.size-1:=by omega
     cases h1:((s[0].toNat:Int)==32)
     ·have n1:((s[0].toNat:Int) !=32)=true:=by rw [bne,h1];rfl
      cases h2:((s[s.size-1].toNat:Int)==32)
      all_goals
       have n2:=congrArg Bool.not h2
       rw [show (!((s[s.size-1].toNat:Int)==32))=((s[s.size-1].toNat:Int) !=32) from rfl] at n2
       simp only [Bool.not_true,Bool.not_false] at n2
       go_enter Tryz.func82,Tryz.ntmps82
       go_wp2_with fail
       refine (textValid_spec s _ HMX.out).mono ?_
       rintro e w' ⟨rfl,rfl⟩
       rw [h0]
       go_wp2_with fail
       refine HHX.out.mono ?_
       rintro e w' ⟨rfl,rfl⟩
       rw [hh]
       go_wp2
       go_ret
       exact ⟨rfl,rfl⟩
     ·have n1:((s[0].toNat:Int) !=32)=false:=by rw [bne,h1];rfl
      go_enter Tryz.func82,Tryz.ntmps82
      go_wp2_with fail
      refine (textValid_spec s _ HMX.out).mono ?_
      rintro e w' ⟨rfl,rfl⟩
      rw [h0]
      go_wp2_with fail
      refine HHX.out.mono ?_
      rintro e w' ⟨rfl,rfl⟩
      rw [hh]
      go_wp2
      go_ret
      exact ⟨rfl,rfl⟩
  ·rw [decide_eq_false h]
   have z:decide ((s.size:Int)≤60)=false:=decide_eq_false (by omega)
   go_enter Tryz.func82,Tryz.ntmps82
   go_wp2_with fail
   refine (textValid_spec s _ HMX.out).mono ?_
   rintro e w' ⟨rfl,rfl⟩
   rw [h0]
   go_wp2
   go_ret
   exact ⟨rfl,rfl⟩
theorem simple_any (s:ByteArray) (w:World) (hs:s.size≤maxLen):
  Calls Tryz.prog 83 #[.string s] w fun e w'=>e= .returned (.bool (simpB s))∧w=w':=by
 unfold simpB
 cases hp:nameL s.data.toList with
 |false=>
  go_enter Tryz.func83,Tryz.ntmps83
  go_wp2_with fail
  refine (nameValid_spec s _ hs).mono ?_
  rintro e w' ⟨rfl,rfl⟩
  rw [hp]
  go_wp2
  go_ret
  exact ⟨rfl,rfl⟩
 |true=>
  have HH:=Lib.hid (l1Has_any s 46 w hs (by omega) (by omega))
  cases h9:hasL s.data.toList 46
  all_goals
   go_enter Tryz.func83,Tryz.ntmps83
   go_wp2_with fail
   refine (nameValid_spec s _ hs).mono ?_
   rintro e w' ⟨rfl,rfl⟩
   rw [hp]
   go_wp2_with fail
   refine HH.out.mono ?_
   rintro e w' ⟨rfl,rfl⟩
   rw [h9]
   go_wp2
   go_ret
   exact ⟨rfl,rfl⟩
theorem itemS_k1 (n:ByteArray) (l:List Cl) (t:ByteArray) (u:Value) (w:World) (hr:RowC w u l) (hn:n.size≤maxLen) (hz:ShortC l) (hl:l.length≤1048576) (ht:t.size≤maxLen):
  Calls Tryz.prog 51 #[.agg #[.int .i64 1, .string n,u, .string t]] w fun e w'=>e= .returned (.bool (emB n&&(l.isEmpty&&emB t)))∧Below w.heap.size w w':=by
 have HB0:=Lib.hid ((Below.refl w.heap.size w).alloc (Nat.le_refl _) (.cells #[.int .i64 1, .string n,u, .string t] 32))
 obtain ⟨ao,cap,rfl,-⟩:=hr
 cases h1:emB n with
 |false=>
  obtain ⟨a1,a2,a3,a4⟩:=em_f h1
  clear hz
  go_enter Tryz.func51,Tryz.ntmps51
  go_wp2
  go_ret
  exact ⟨rfl,HB0.out⟩
 |true=>
  obtain ⟨a1,a2,a3,a4⟩:=em_t h1
  cases h2:l.isEmpty with
  |false=>
   have b1:=(le_f h2).1
   clear hz
   go_enter Tryz.func51,Tryz.ntmps51
   go_wp2
   go_ret
   exact ⟨rfl,HB0.out⟩
  |true=>
   have b1:=(le_t h2).1
   cases h3:emB t with
   |false=>
    obtain ⟨c1,c2,c3,c4⟩:=em_f h3
    clear hz
    go_enter Tryz.func51,Tryz.ntmps51
    go_wp2
    go_ret
    exact ⟨rfl,HB0.out⟩
   |true=>
    obtain ⟨c1,c2,c3,c4⟩:=em_t h3
    clear hz
    go_enter Tryz.func51,Tryz.ntmps51
    go_wp2
    go_ret
    exact ⟨rfl,HB0.out⟩
theorem itemS_k5 (n:ByteArray) (l:List Cl) (t:ByteArray) (u:Value) (w:World) (hr:RowC w u l) (hn:n.size≤maxLen) (hz:ShortC l) (hl:l.length≤1048576) (ht:t.size≤maxLen):
  Calls Tryz.prog 51 #[.agg #[.int .i64 5, .string n,u, .string t]] w fun e w'=>e= .returned (.bool (emB n&&(l.isEmpty&&emB t)))∧Below w.heap.size w w':=by
 have HB0:=Lib.hid ((Below.refl w.heap.size w).alloc (Nat.le_refl _) (.cells #[.int .i64 5, .string n,u, .string t] 32))
 obtain ⟨ao,cap,rfl,-⟩:=hr
 cases h1:emB n with
 |false=>
  obtain ⟨a1,a2,a3,a4⟩:=em_f h1
  clear hz
  go_enter Tryz.func51,Tryz.ntmps51
  go_wp2
  go_ret
  exact ⟨rfl,HB0.out⟩
 |true=>
  obtain ⟨a1,a2,a3,a4⟩:=em_t h1
  cases h2:l.isEmpty with
  |false=>
   have b1:=(le_f h2).1
   clear hz
   go_enter Tryz.func51,Tryz.ntmps51
   go_wp2
   go_ret
   exact ⟨rfl,HB0.out⟩
  |true=>
   have b1:=(le_t h2).1
   cases h3:emB t with
   |false=>
    obtain ⟨c1,c2,c3,c4⟩:=em_f h3
    clear hz
    go_enter Tryz.func51,Tryz.ntmps51
    go_wp2
    go_ret
    exact ⟨rfl,HB0.out⟩
   |true=>
    obtain ⟨c1,c2,c3,c4⟩:=em_t h3
    clear hz
    go_enter Tryz.func51,Tryz.ntmps51
    go_wp2
    go_ret
    exact ⟨rfl,HB0.out⟩
theorem itemS_k2 (n:ByteArray) (l:List Cl) (t:ByteArray) (u:Value) (w:World) (hr:RowC w u l) (hn:n.size≤maxLen) (hz:ShortC l) (hl:l.length≤1048576) (ht:t.size≤maxLen):
  Calls Tryz.prog 51 #[.agg #[.int .i64 2, .string n,u, .string t]] w fun e w'=>e= .returned (.bool (emB n&&(l.isEmpty&&noteB t)))∧Below w.heap.size w w':=by
 have HB0:=Lib.hid ((Below.refl w.heap.size w).alloc (Nat.le_refl _) (.cells #[.int .i64 2, .string n,u, .string t] 32))
 obtain ⟨ao,cap,rfl,-⟩:=hr
 cases h1:emB n with
 |false=>
  obtain ⟨a1,a2,a3,a4⟩:=em_f h1
  clear hz
  go_enter Tryz.func51,Tryz.ntmps51
  go_wp2
  go_ret
  exact ⟨rfl,HB0.out⟩
 |true=>
  obtain ⟨a1,a2,a3,a4⟩:=em_t h1
  cases h2:l.isEmpty with
  |false=>
   have b1:=(le_f h2).1
   clear hz
   go_enter Tryz.func51,Tryz.ntmps51
   go_wp2
   go_ret
   exact ⟨rfl,HB0.out⟩
  |true=>
   have b1:=(le_t h2).1
   clear hz
   cases h9:noteB t
   all_goals
    go_enter Tryz.func51,Tryz.ntmps51
    go_wp2_with fail
    refine (note_spec t _ ht).mono ?_
    rintro e w1 ⟨rfl,rfl⟩
    rw [h9]
    go_wp2
    go_ret
    exact ⟨rfl,HB0.out⟩
theorem itemS_k3 (n:ByteArray) (l:List Cl) (t:ByteArray) (u:Value) (w:World) (hr:RowC w u l) (hn:n.size≤maxLen) (hz:ShortC l) (hl:l.length≤1048576) (ht:t.size≤maxLen):
  Calls Tryz.prog 51 #[.agg #[.int .i64 3, .string n,u, .string t]] w fun e w'=>e= .returned (.bool (simpB n&&(okE l&&noteB t)))∧Below w.heap.size w w':=by
 have HB0:=Lib.hid ((Below.refl w.heap.size w).alloc (Nat.le_refl _) (.cells #[.int .i64 3, .string n,u, .string t] 32))
 have HRX:=Lib.hid (hr.mono HB0.out)
 have HX:=Lib.hid (exprValid_spec u l _ HRX.out hz hl)
 obtain ⟨ao,cap,rfl,-⟩:=hr
 have HBX:=Lib.hid (fun w1 (h:Below (w.alloc (.cells #[.int .i64 3, .string n, .slice ao l.length cap, .string t] 32)).heap.size (w.alloc (.cells #[.int .i64 3, .string n, .slice ao l.length cap, .string t] 32)) w1)=>boxI h)
 clear hz
 cases h1:simpB n with
 |false=>
  go_enter Tryz.func51,Tryz.ntmps51
  go_wp2_with fail
  refine (simple_any n _ hn).mono ?_
  rintro e w1 ⟨rfl,rfl⟩
  rw [h1]
  go_wp2
  go_ret
  exact ⟨rfl,HB0.out⟩
 |true=>
  cases h2:okE l with
  |false=>
   go_enter Tryz.func51,Tryz.ntmps51
   go_wp2_with fail
   refine (simple_any n _ hn).mono ?_
   rintro e w1 ⟨rfl,rfl⟩
   rw [h1]
   go_wp2_with fail
   refine HX.out.mono ?_
   rintro e w1 ⟨rfl,hb1⟩
   have HB1:=Lib.hid (HB0.out.trans (hb1.mono HB0.out.size));clear hb1
   rw [h2]
   go_wp2
   go_ret
   exact ⟨rfl,HB1.out⟩
  |true=>
   cases h9:noteB t
   all_goals
    go_enter Tryz.func51,Tryz.ntmps51
    go_wp2_with fail
    refine (simple_any n _ hn).mono ?_
    rintro e w1 ⟨rfl,rfl⟩
    rw [h1]
    go_wp2_with fail
    refine HX.out.mono ?_
    rintro e w1 ⟨rfl,hb1⟩
    obtain ⟨d0,d1,d2,d3⟩:=HBX.out w1 hb1
    have HB1:=Lib.hid (HB0.out.trans (hb1.mono HB0.out.size));clear hb1
    rw [h2]
    go_wp2_with fail
    refine (note_spec t _ ht).mono ?_
    rintro e w2 ⟨rfl,rfl⟩
    rw [h9]
    go_wp2
    go_ret
    exact ⟨rfl,HB1.out⟩
theorem itemS_k4 (n:ByteArray) (l:List Cl) (t:ByteArray) (u:Value) (w:World) (hr:RowC w u l) (hn:n.size≤maxLen) (hz:ShortC l) (hl:l.length≤1048576) (ht:t.size≤maxLen):
  Calls Tryz.prog 51 #[.agg #[.int .i64 4, .string n,u, .string t]] w fun e w'=>e= .returned (.bool (simpB n&&(l.isEmpty&&emB t)))∧Below w.heap.size w w':=by
 have HB0:=Lib.hid ((Below.refl w.heap.size w).alloc (Nat.le_refl _) (.cells #[.int .i64 4, .string n,u, .string t] 32))
 obtain ⟨ao,cap,rfl,-⟩:=hr
 clear hz
 cases h1:simpB n with
 |false=>
  go_enter Tryz.func51,Tryz.ntmps51
  go_wp2_with fail
  refine (simple_any n _ hn).mono ?_
  rintro e w1 ⟨rfl,rfl⟩
  rw [h1]
  go_wp2
  go_ret
  exact ⟨rfl,HB0.out⟩
 |true=>
  cases h2:l.isEmpty with
  |false=>
   have b1:=(le_f h2).1
   go_enter Tryz.func51,Tryz.ntmps51
   go_wp2_with fail
   refine (simple_any n _ hn).mono ?_
   rintro e w1 ⟨rfl,rfl⟩
   rw [h1]
   go_wp2
   go_ret
   exact ⟨rfl,HB0.out⟩
  |true=>
   have b1:=(le_t h2).1
   cases h3:emB t with
   |false=>
    obtain ⟨c1,c2,c3,c4⟩:=em_f h3
    go_enter Tryz.func51,Tryz.ntmps51
    go_wp2_with fail
    refine (simple_any n _ hn).mono ?_
    rintro e w1 ⟨rfl,rfl⟩
    rw [h1]
    go_wp2
    go_ret
    exact ⟨rfl,HB0.out⟩
   |true=>
    obtain ⟨c1,c2,c3,c4⟩:=em_t h3
    go_enter Tryz.func51,Tryz.ntmps51
    go_wp2_with fail
    refine (simple_any n _ hn).mono ?_
    rintro e w1 ⟨rfl,rfl⟩
    rw [h1]
    go_wp2
    go_ret
    exact ⟨rfl,HB0.out⟩
theorem itemS_ko (k:Int) (h1:k≠1) (h2:k≠2) (h3:k≠3) (h4:k≠4) (h5:k≠5) (n:ByteArray) (l:List Cl) (t:ByteArray) (u:Value) (w:World) (hr:RowC w u l) (hn:n.size≤maxLen) (hz:ShortC l) (hl:l.length≤1048576) (ht:t.size≤maxLen):
  Calls Tryz.prog 51 #[.agg #[.int .i64 k, .string n,u, .string t]] w fun e w'=>e= .returned (.bool (false))∧Below w.heap.size w w':=by
 have HB0:=Lib.hid ((Below.refl w.heap.size w).alloc (Nat.le_refl _) (.cells #[.int .i64 k, .string n,u, .string t] 32))
 obtain ⟨ao,cap,rfl,-⟩:=hr
 clear hz
 have a1:(k==1)=false:=beq_eq_false_iff_ne.mpr h1
 have a2:(k==2)=false:=beq_eq_false_iff_ne.mpr h2
 have a3:(k==3)=false:=beq_eq_false_iff_ne.mpr h3
 have a4:(k==4)=false:=beq_eq_false_iff_ne.mpr h4
 have a5:(k==5)=false:=beq_eq_false_iff_ne.mpr h5
 go_enter Tryz.func51,Tryz.ntmps51
 go_wp2
 go_ret
 exact ⟨rfl,HB0.out⟩
theorem itemValid_spec (i:It) (u:Value) (w:World) (hr:RowC w u i.2.2.1) (hn:i.2.1.size≤maxLen) (hz:ShortC i.2.2.1) (hl:i.2.2.1.length≤1048576) (ht:i.2.2.2.size≤maxLen):
  Calls Tryz.prog 51 #[.agg #[.int .i64 i.1, .string i.2.1,u, .string i.2.2.2]] w fun e w'=>e= .returned (.bool (itemB i))∧Below w.heap.size w w':=by
 obtain ⟨k,n,l,t⟩:=i
 simp only at hr hn hz ht hl⊢
 unfold itemB
 simp only
 by_cases h1:k=1
 ·subst h1;rw [if_pos (.inl rfl)];exact itemS_k1 n l t u w hr hn hz hl ht
 by_cases h5:k=5
 ·subst h5;rw [if_pos (.inr rfl)];exact itemS_k5 n l t u w hr hn hz hl ht
 rw [if_neg (by omega)]
 by_cases h2:k=2
 ·subst h2;rw [if_pos rfl];exact itemS_k2 n l t u w hr hn hz hl ht
 rw [if_neg h2]
 by_cases h3:k=3
 ·subst h3;rw [if_pos rfl];exact itemS_k3 n l t u w hr hn hz hl ht
 rw [if_neg h3]
 by_cases h4:k=4
 ·subst h4;rw [if_pos rfl];exact itemS_k4 n l t u w hr hn hz hl ht
 rw [if_neg h4]
 exact itemS_ko k h1 h2 h3 h4 h5 n l t u w hr hn hz hl ht
def linesTo (s:ByteArray):Nat→List ByteArray
 |0=>[]
 |k+1=>if s.data.toList[k]? =some 10 then linesTo s k++[s.extract (fromN s.data.toList k) k] else linesTo s k
def linesAll (s:ByteArray):List ByteArray:=
 if fromN s.data.toList s.size<s.size then linesTo s s.size++[s.extract (fromN s.data.toList s.size) s.size] else linesTo s s.size
def linesB (s:ByteArray):List ByteArray:=if textB s=true then linesAll s else []
theorem linesTo_length (s:ByteArray) (k:Nat):(linesTo s k).length=lineN s.data.toList k:=by
 induction k with
 |zero=>rfl
 |succ k ih=>simp only [linesTo,lineN];split<;>simp [ih]
theorem linesTo_at (s:ByteArray) (n k a b:Nat) (ha:(starts s.data.toList n)[k]? =some a) (hb:(starts s.data.toList n)[k+1]? =some b):
  1≤b∧a≤b-1∧b≤n∧(linesTo s n)[k]? =some (s.extract a (b-1)):=by
 induction n generalizing k a b with
 |zero=>simp [starts] at hb
 |succ n ih=>
  simp only [starts,linesTo] at ha hb⊢
  split at ha
  ·rename_i h10
   rw [if_pos h10] at hb⊢
   have hlen:=starts_length s.data.toList n
   have hlt:k+1<(starts s.data.toList n++[n+1]).length:=by
    by_cases hk:k+1<(starts s.data.toList n++[n+1]).length
    ·exact hk
    ·rw [List.getElem?_eq_none (by omega)] at hb;cases hb
   simp only [List.length_append,List.length_cons,List.length_nil] at hlt
   rw [List.getElem?_append_left (by omega)] at ha
   by_cases hk:k+1<(starts s.data.toList n).length
   ·rw [List.getElem?_append_left (by omega)] at hb
    obtain ⟨h1,h2,h3,h4⟩:=ih k a b ha hb
    refine ⟨h1,h2,by omega, ?_⟩
    rw [List.getElem?_append_left (by rw [linesTo_length];omega)]
    exact h4
   ·have hkk:k=lineN s.data.toList n:=by omega
    rw [List.getElem?_append_right (by omega)] at hb
    rw [show k+1-(starts s.data.toList n).length=0 from by omega] at hb
    simp only [List.getElem?_cons_zero,Option.some.injEq] at hb
    subst hb
    rw [hkk,starts_last] at ha
    simp only [Option.some.injEq] at ha
    subst ha
    have hfl:=fromN_le s.data.toList n
    refine ⟨by omega,by omega,by omega, ?_⟩
    rw [List.getElem?_append_right (by rw [linesTo_length];omega),linesTo_length,hkk]
    simp
  ·rename_i h10
   rw [if_neg h10] at hb⊢
   obtain ⟨h1,h2,h3,h4⟩:=ih k a b ha hb
   exact ⟨h1,h2,by omega,h4⟩
def splitL:List UInt8→List UInt8→List (List UInt8)
 |acc,[]=>if acc=[] then [] else [acc]
 |acc,b::r=>if b=10 then acc::splitL [] r else splitL (acc++[b]) r
def bytesOf (L:List ByteArray):List (List UInt8):=L.map fun t=>t.data.toList
theorem bytesOf_inj {A B:List ByteArray} (h:bytesOf A=bytesOf B):A=B:=by
 refine (List.map_inj_right ?_).1 h
 intro x y hxy
 apply ByteArray.ext
 exact Array.toList_inj.1 hxy
theorem bytesOf_append (A B:List ByteArray):bytesOf (A++B)=bytesOf A++bytesOf B:=by simp [bytesOf]
theorem extract_bytes (s:ByteArray) (a b:Nat):(s.extract a b).data.toList=(s.data.toList.take b).drop a:=by
 simp [ByteArray.data_extract,List.extract,List.drop_take]
theorem split_upto (s:ByteArray) (k:Nat) (hk:k≤s.size):
  splitL [] s.data.toList=bytesOf (linesTo s k)++splitL ((s.data.toList.take k).drop (fromN s.data.toList k)) (s.data.toList.drop k):=by
 induction k with
 |zero=>simp [linesTo,bytesOf,fromN]
 |succ k ih=>
  have hlt:k<s.data.toList.length:=by simp;omega
  rw [ih (by omega)]
  have hd:s.data.toList.drop k=s.data.toList[k]::s.data.toList.drop (k+1):=List.drop_eq_getElem_cons hlt
  have hf:=fromN_le s.data.toList k
  rw [hd]
  simp only [linesTo,fromN,List.getElem?_eq_getElem hlt,Option.some.injEq]
  show bytesOf (linesTo s k)++(if s.data.toList[k]=10 then _ else _)=_
  by_cases h10:s.data.toList[k]=10
  ·rw [if_pos h10,if_pos h10,if_pos h10,bytesOf_append,List.append_assoc]
   congr 1
   have e1:bytesOf [s.extract (fromN s.data.toList k) k]=[(s.data.toList.take k).drop (fromN s.data.toList k)]:=by
    simp only [bytesOf,List.map_cons,List.map_nil,extract_bytes]
   have e2:(s.data.toList.take (k+1)).drop (k+1)=[]:=by
    apply List.drop_eq_nil_of_le;simp;omega
   rw [e1,e2];rfl
  ·rw [if_neg h10,if_neg h10,if_neg h10]
   congr 2
   rw [List.take_succ_eq_append_getElem hlt,List.drop_append_of_le_length (by simp;omega)]
theorem split_all (s:ByteArray):bytesOf (linesAll s)=splitL [] s.data.toList:=by
 have h:=split_upto s s.size (Nat.le_refl _)
 have hl:s.data.toList.length=s.size:=by simp
 have ht:s.data.toList.take s.size=s.data.toList:=List.take_of_length_le (by omega)
 have hd:s.data.toList.drop s.size=[]:=List.drop_eq_nil_of_le (by omega)
 have hf:=fromN_le s.data.toList s.size
 rw [h,ht,hd]
 show _=_++(if _ then _ else _)
 unfold linesAll
 by_cases hr:fromN s.data.toList s.size<s.size
 ·rw [if_pos hr,if_neg (by intro he;have:=congrArg List.length he;simp only [List.length_drop,List.length_nil,hl] at this;omega),bytesOf_append]
  congr 1
  simp only [bytesOf,List.map_cons,List.map_nil,extract_bytes,ht]
 ·rw [if_neg hr,if_pos (List.drop_eq_nil_of_le (by omega)),List.append_nil]
theorem split_line (acc t r:List UInt8) (h: ∀x∈t,x≠10):splitL acc (t++10::r)=(acc++t)::splitL [] r:=by
 induction t generalizing acc with
 |nil=>simp [splitL]
 |cons x t ih=>
  simp only [List.cons_append,splitL]
  rw [if_neg (h x (by simp)),ih _ (fun y hy=>h y (by simp [hy]))]
  simp
theorem accTo_bytes (L:List ByteArray) (k:Nat) (hk:k≤L.length):(accTo L k).data.toList=(((bytesOf L).take k).map (· ++[10])).flatten:=by
 induction k with
 |zero=>rfl
 |succ k ih=>
  have hlt:k<L.length:=by omega
  have e:accTo L (k+1)=accTo L k++lineAt L k++⟨#[10]⟩:=rfl
  have hl:lineAt L k=L[k]:=by simp [lineAt,List.getElem?_eq_getElem hlt]
  have hb:(bytesOf L).take (k+1)=(bytesOf L).take k++[L[k].data.toList]:=by
   rw [List.take_succ_eq_append_getElem (by simpa [bytesOf] using hlt)]
   simp [bytesOf]
  rw [e,hb,hl]
  simp only [ByteArray.data_append,Array.toList_append,ih (by omega),List.map_append,List.flatten_append,List.map_cons,List.map_nil,List.flatten_cons,List.flatten_nil,List.append_nil,List.append_assoc]
theorem accTo_all (L:List ByteArray):(accTo L L.length).data.toList=((bytesOf L).map (· ++[10])).flatten:=by
 rw [accTo_bytes L _ (Nat.le_refl _),List.take_of_length_le (by simp [bytesOf])]
theorem accTo_mono (L:List ByteArray) (j k:Nat) (h:j≤k):(accTo L j).size≤(accTo L k).size:=by
 induction k with
 |zero=>obtain rfl:j=0:=by omega
        exact Nat.le_refl _
 |succ k ih=>
  by_cases hj:j=k+1
  ·subst hj;exact Nat.le_refl _
  ·have:=ih (by omega);rw [accTo_size_next];omega
theorem joinOk_of (L:List ByteArray) (hp: ∀t∈L,plainL t.data.toList=true) (hs:(accTo L L.length).size≤20000):joinOk L=true:=by
 apply joinOk_good
 intro j hj
 have hl:lineAt L j=L[j]:=by simp [lineAt,List.getElem?_eq_getElem hj]
 have h1:=accTo_size_next L j
 have h2:=accTo_mono L (j+1) L.length (by omega)
 rw [okAt,hl,hp _ (List.getElem_mem _)]
 rw [hl] at h1
 simp;omega
theorem size_bytes (s:ByteArray):s.size=s.data.toList.length:=by simp
theorem plain_ne_ten {l:List UInt8} (h:plainL l=true): ∀x∈l,x≠10:=by
 intro x hx he
 subst he
 simp only [plainL,List.all_eq_true] at h
 have:=h 10 hx
 simp [plainI] at this
theorem split_flat (M:List (List UInt8)) (h: ∀t∈M,∀x∈t,x≠10):splitL [] ((M.map (· ++[10])).flatten)=M:=by
 induction M with
 |nil=>rfl
 |cons t M ih=>
  simp only [List.map_cons,List.flatten_cons,List.append_assoc,List.cons_append,List.nil_append]
  rw [split_line [] t _ (h t (by simp)),ih (fun u hu=>h u (by simp [hu]))]
  rfl
theorem okL_flat (M:List (List UInt8)) (h: ∀t∈M,plainL t=true):okL ((M.map (· ++[10])).flatten)=true:=by
 induction M with
 |nil=>rfl
 |cons t M ih=>
  have h1:=h t (by simp)
  have h2:=ih (fun u hu=>h u (by simp [hu]))
  simp only [okL,plainL,List.all_eq_true] at h1 h2⊢
  intro x hx
  simp only [List.map_cons,List.flatten_cons,List.mem_append,List.mem_singleton] at hx
  rcases hx with (hx|rfl)|hx
  ·simp [okI,h1 x hx]
  ·rfl
  ·exact h2 x hx
theorem lines_join (L:List ByteArray) (h:joinOk L=true):textB (joinB L)=true∧linesB (joinB L)=L:=by
 have hj:joinB L=accTo L L.length:=by rw [joinB,if_pos h]
 have hall: ∀j,j<L.length→okAt L j=true:=by
  intro j hj';simp only [joinOk,List.all_eq_true] at h;exact h j (List.mem_range.2 hj')
 have hp: ∀t∈bytesOf L,plainL t=true:=by
  intro t ht
  obtain ⟨u,hu,rfl⟩:=List.mem_map.1 ht
  obtain ⟨j,hj',rfl⟩:=List.getElem_of_mem hu
  have:=hall j hj'
  have hl:lineAt L j=L[j]:=by simp [lineAt,List.getElem?_eq_getElem hj']
  rw [okAt,hl] at this
  simp only [Bool.and_eq_true] at this
  exact this.1
 have hb:=accTo_all L
 have ht:textB (accTo L L.length)=true:=by
  rw [textB,hb,okL_flat _ hp]
  have:=acc_le L L.length hall
  simp [this]
 rw [hj]
 refine ⟨ht, ?_⟩
 rw [linesB,if_pos ht]
 apply bytesOf_inj
 rw [split_all,hb]
 exact split_flat _ (fun t ht=>plain_ne_ten (hp t ht))
noncomputable def printG:Int→List It→List ByteArray
 |_,[]=>[]
 |d,i::is=>baL (lineI i (depS d i).toNat 0)::printG (depN d i) is
noncomputable def printL (l:List It):List ByteArray:=printG 0 l
theorem printG_length: ∀(l:List It) (d:Int),(printG d l).length=l.length:=by
 intro l
 induction l with
 |nil=>intro d;rfl
 |cons i l ih=>intro d;rw [printG,List.length_cons,List.length_cons,ih]
theorem printG_at: ∀(l:List It) (d:Int) (k:Nat) (hk:k<l.length),(printG d l)[k]'(by rw [printG_length];exact hk)=baL (lineI l[k] ((depL d l)[k]'(by rw [depL_length];exact hk)).toNat 0):=by
 intro l
 induction l with
 |nil=>intro d k hk;simp at hk
 |cons i l ih=>
  intro d k hk
  cases k with
  |zero=>rfl
  |succ k=>exact ih (depN d i) k (by simpa using hk)
noncomputable def goD (R:ByteArray→List Cl):List It→List ByteArray→Option (List It)×Nat
 |acc,[]=>(some acc,acc.length)
 |acc,s::ss=>match readIt R s with
  |some i=>if nestO 0 (acc++[i])≠none∧acc.length≠30 then goD R (acc++[i]) ss else (none,acc.length)
  |none=>(none,acc.length)
noncomputable def readDL (R:ByteArray→List Cl) (ss:List ByteArray):List It×Int:=
 match (goD R [] ss).1 with
 |some l=>if docB l=true then (l,-1) else ([],(ss.length:Int))
 |none=>([],((goD R [] ss).2:Int))
noncomputable def readD (R:ByteArray→List Cl) (s:ByteArray):List It×Int:=if textB s=true then readDL R (linesB s) else ([],0)
theorem goD_reads {R:ByteArray→List Cl}: ∀(l acc:List It) (ss:List ByteArray) (e:Int),nestO 0 (acc++l)=some e→acc.length+l.length≤30→ss.length=l.length→(∀k,(h1:k<ss.length)→(h2:k<l.length)→readIt R ss[k]=some l[k])→(goD R acc ss).1=some (acc++l):=by
 intro l
 induction l with
 |nil=>
  intro acc ss e _ _ hl _
  obtain rfl:ss=[]:=List.length_eq_zero_iff.mp hl
  simp [goD]
 |cons i l ih=>
  intro acc ss e hn hle hl hr
  cases ss with
  |nil=>simp at hl
  |cons s ss=>
   have h0:readIt R s=some i:=hr 0 (by simp) (by simp)
   rw [goD,h0]
   simp only
   have hn1:nestO 0 (acc++[i])≠none:=by
    intro hno
    have:acc++i::l=(acc++[i])++l:=by simp
    rw [this,nestO_app,hno] at hn;cases hn
   have hne:acc.length≠30:=by simp only [List.length_cons] at hle;omega
   rw [if_pos ⟨hn1,hne⟩,ih (acc++[i]) ss e (by simpa using hn) (by simp only [List.length_append,List.length_cons,List.length_nil] at hle⊢;omega) (by simpa using hl) (fun k h1 h2=>hr (k+1) (by simpa using h1) (by simpa using h2))]
   simp
theorem lines_read {R:ByteArray→List Cl} (hR: ∀l,okE l=true→R (baL (textE l))=l) {l:List It} (h:docB l=true) (ss:List ByteArray) (hl:ss.length=l.length) (hs: ∀k,(h1:k<ss.length)→(h2:k<l.length)→ ∃d w,ss[k].data.toList=lineI l[k] d w):readDL R ss=(l,-1):=by
 obtain ⟨h1,h2,h3⟩:=(docB_iff l).mp h
 have e:=goD_reads (R:=R) l [] ss 0 (by simpa using h3) (by simpa using h1) hl (fun k k1 k2=>by
  obtain ⟨d,w,e⟩:=hs k k1 k2
  exact line_reads hR (List.all_eq_true.mp h2 _ (List.getElem_mem k2)) d w e)
 rw [List.nil_append] at e
 unfold readDL
 rw [e];simp only [if_pos h]
def intsZ (L:List Int):List Value:=L.map fun n=>Value.int .i64 n
theorem intsZ_length (L:List Int):(intsZ L).length=L.length:=by simp [intsZ]
theorem intsZ_snoc (L:List Int) (n:Int):intsZ (L++[n])=intsZ L++[.int .i64 n]:=by simp [intsZ]
def NestC (l:List It) (w:World) (e:Ending) (w':World):Prop:=
 ∃(v:Value) (d:Int) (L:List Int),e= .returned (.tuple #[v, .int .i64 d])∧w'.ownsRow w.heap.size 3 1 v L.length (intsZ L)∧Below w.heap.size w w'∧((nestO 0 l=some d∧L=depL 0 l)∨(nestO 0 l=none∧d= -1))
theorem nest_take {l:List It} {k:Nat} {d:Int} (hk:k<l.length) (h:nestO 0 (l.take k)=some d):nestO 0 (l.take (k+1))=if 0≤depN d l[k]∧depN d l[k]≤4 then some (depN d l[k]) else none:=by
 rw [List.take_succ_eq_append_getElem hk,nestO_app,h];rfl
theorem nest_none {l:List It} {k:Nat} (h:nestO 0 (l.take k)=none):nestO 0 l=none:=by
 have:nestO 0 (l.take k++l.drop k)=none:=by rw [nestO_app,h];rfl
 rwa [List.take_append_drop] at this
theorem depL_take {l:List It} {k:Nat} {d:Int} (hk:k<l.length) (h:nestO 0 (l.take k)=some d):depL 0 (l.take (k+1))=depL 0 (l.take k)++[depS d l[k]]:=by
 rw [List.take_succ_eq_append_getElem hk,depL_app,nestO_end _ _ _ h];rfl
theorem l11Nest_any (v:Value) (l:List It) (w:World) (hr:RowIt w v l) (hl:l.length≤1048576):
  Calls Tryz.prog 52 #[v] w (NestC l w):=by
 obtain ⟨i0,hi,hz0,hz1,hz2⟩:=info_parts infoI
 obtain ⟨ao,cap,rfl,h1,h2,h3⟩:=hr
 unfold maxLen at h2
 have H3:=Lib.hid h3;clear h3
 go_enter Tryz.func52,Tryz.ntmps52
 go_wp2
 go_loopw [4,5,6] (fun out dp i wr=> ∃(k:Nat) (d:Int),k≤l.length∧i= .int .i64 (k:Int)∧dp= .int .i64 d∧0≤d∧d≤4∧nestO 0 (l.take k)=some d∧wr.ownsRow w.heap.size 3 1 out k (intsZ (depL 0 (l.take k)))∧Below w.heap.size w wr) (fun _ _ i _=>l.length-(intOf i).toNat)
 case atStart=>exact ⟨0,0,Nat.zero_le _,rfl,rfl,by omega,by omega,rfl,World.ownsRow_lit _ _ 0 (Nat.le_refl _) (by unfold maxLen;omega) rfl,(Below.refl _ _).alloc (Nat.le_refl _) _⟩
 case round=>
  obtain ⟨k,d,hk,rfl,rfl,hd0,hd4,hn,hown,hb⟩:=hrel
  have HB:=Lib.hid hb;have HN:=Lib.hid hn
  have hs0:=hb.size
  clear hb hn
  by_cases hlt:k<l.length
  ·obtain ⟨b,o,rfl,hbl,cc⟩:=H3.out.resolve_left (by rintro rfl;simp at hlt)
   obtain ⟨u,hu⟩:=cc k hlt
   have d0:=(hu.mono hbl HB.out).1
   have HK:=Lib.hid (nest_take hlt HN.out)
   have HL:=Lib.hid (depL_take hlt HN.out)
   clear cc hu
   generalize l[k]=it at d0 HK HL
   have hkc:it.1=5∨it.1=4∨(it.1≠4∧it.1≠5):=by omega
   have hD: ∀s:Int,depS d it=s→depL 0 (l.take (k+1))=depL 0 (l.take k)++[s]:=fun s h=>by rw [HL.out,h]
   have HD:=Lib.hid hD;clear hD
   rcases hkc with h5|h4|⟨h4,h5⟩
   ·have e5:(it.1==5)=true:=by rw [h5];rfl
    have e4:(it.1==4)=false:=by rw [h5];rfl
    have HS:=Lib.hid (HD.out (d-1) (by unfold depS;rw [if_pos h5]))
    have hdn:depN d it=d-1:=by unfold depN depS;rw [if_neg (by omega),if_pos h5]
    rw [hdn] at HK
    clear h5 hdn
    generalize it.1=kk at d0 e5 e4
    by_cases hin:0≤d-1
    ·have HKN:=Lib.hid (show nestO 0 (l.take (k+1))=some (d-1) by rw [HK.out,if_pos (by omega)])
     have HI:=Lib.hid (show inI (d-1) 0 4=true by simp [inI];omega)
     go_wp2_with (at_builtin;refine wpList_append_own _ rfl _ _ 25 rfl w.heap.size 3 i0 (.int .i64 0) 1 8 Tryz.underlying25 hi hz0 hz1 hz2 rfl (by decide) _ _ _ rfl (hown.alloc _) ⟨wr.heap.size,0,none⟩ 1 1 [.int .i64 (d-1)] rfl rfl (World.news_of_block (cs:= #[.int .i64 (d-1)]) (t:=3) (fr:=(0,0)) (heap_alloc_new wr _)) (by simp [Value.oneCell']) (by unfold maxLen;omega) (by omega) (by simp;omega) ?_;intro v' w2 hown' hgrow hnil;have HB2:=Lib.hid ((HB.out.alloc HB.out.size _).grown hgrow (by have:=HB.out.size;simp;omega) (fun q hq=>(hown.lt q hq).1));have HO2:=Lib.hid hown';have c0:=(HB2.out.cell (p:=⟨b,_,none⟩) hbl).trans ((HB.out.cell (p:=⟨b,_,none⟩) hbl).symm.trans d0);clear hown' hgrow hnil)
     refine (l1In_any _ _ _ _).mono ?_
     rintro e w' ⟨rfl,rfl⟩
     rw [HI.out]
     go_wp2
     go_roundw
     case rel=>exact ⟨k+1,d-1,by omega,by go_num,rfl,by omega,by omega,HKN.out,by rw [HS.out,intsZ_snoc];exact HO2.out,HB2.out⟩
     case measure=>simp [intOf];omega
    ·have HKN:=Lib.hid (nest_none (l:=l) (k:=k+1) (by rw [HK.out,if_neg (by omega)]))
     have HI:=Lib.hid (show inI (d-1) 0 4=false by simp [inI];omega)
     go_wp2_with (at_builtin;refine wpList_append_own _ rfl _ _ 25 rfl w.heap.size 3 i0 (.int .i64 0) 1 8 Tryz.underlying25 hi hz0 hz1 hz2 rfl (by decide) _ _ _ rfl (hown.alloc _) ⟨wr.heap.size,0,none⟩ 1 1 [.int .i64 (d-1)] rfl rfl (World.news_of_block (cs:= #[.int .i64 (d-1)]) (t:=3) (fr:=(0,0)) (heap_alloc_new wr _)) (by simp [Value.oneCell']) (by unfold maxLen;omega) (by omega) (by simp;omega) ?_;intro v' w2 hown' hgrow hnil;have HB2:=Lib.hid ((HB.out.alloc HB.out.size _).grown hgrow (by have:=HB.out.size;simp;omega) (fun q hq=>(hown.lt q hq).1));have HO2:=Lib.hid hown';have c0:=(HB2.out.cell (p:=⟨b,_,none⟩) hbl).trans ((HB.out.cell (p:=⟨b,_,none⟩) hbl).symm.trans d0);clear hown' hgrow hnil)
     refine (l1In_any _ _ _ _).mono ?_
     rintro e w' ⟨rfl,rfl⟩
     rw [HI.out]
     have HLN:=Lib.hid (show (depL 0 (l.take (k+1))).length=k+1 by rw [depL_length,List.length_take];omega)
     go_wp2
     exact bodyPost_ret (v:= .tuple #[v', .int .i64 (-1)]) (by simp [results,Tryz.results52,go_sem]) rfl ⟨_,_,depL 0 (l.take (k+1)),rfl,by rw [HLN.out,HS.out,intsZ_snoc];exact HO2.out,HB2.out, .inr ⟨HKN.out,rfl⟩⟩
   ·have e5:(it.1==5)=false:=by rw [h4];rfl
    have e4:(it.1==4)=true:=by rw [h4];rfl
    have HS:=Lib.hid (HD.out d (by unfold depS;rw [if_neg (by omega)]))
    have hdn:depN d it=d+1:=by unfold depN depS;rw [if_pos h4,if_neg (by omega)]
    rw [hdn] at HK
    clear h4 hdn
    generalize it.1=kk at d0 e5 e4
    by_cases hin:d+1≤4
    ·have HKN:=Lib.hid (show nestO 0 (l.take (k+1))=some (d+1) by rw [HK.out,if_pos (by omega)])
     have HI:=Lib.hid (show inI (d+1) 0 4=true by simp [inI];omega)
     go_wp2_with (at_builtin;refine wpList_append_own _ rfl _ _ 25 rfl w.heap.size 3 i0 (.int .i64 0) 1 8 Tryz.underlying25 hi hz0 hz1 hz2 rfl (by decide) _ _ _ rfl (hown.alloc _) ⟨wr.heap.size,0,none⟩ 1 1 [.int .i64 d] rfl rfl (World.news_of_block (cs:= #[.int .i64 d]) (t:=3) (fr:=(0,0)) (heap_alloc_new wr _)) (by simp [Value.oneCell']) (by unfold maxLen;omega) (by omega) (by simp;omega) ?_;intro v' w2 hown' hgrow hnil;have HB2:=Lib.hid ((HB.out.alloc HB.out.size _).grown hgrow (by have:=HB.out.size;simp;omega) (fun q hq=>(hown.lt q hq).1));have HO2:=Lib.hid hown';have c0:=(HB2.out.cell (p:=⟨b,_,none⟩) hbl).trans ((HB.out.cell (p:=⟨b,_,none⟩) hbl).symm.trans d0);clear hown' hgrow hnil)
     refine (l1In_any _ _ _ _).mono ?_
     rintro e w' ⟨rfl,rfl⟩
     rw [HI.out]
     go_wp2
     go_roundw
     case rel=>exact ⟨k+1,d+1,by omega,by go_num,rfl,by omega,by omega,HKN.out,by rw [HS.out,intsZ_snoc];exact HO2.out,HB2.out⟩
     case measure=>simp [intOf];omega
    ·have HKN:=Lib.hid (nest_none (l:=l) (k:=k+1) (by rw [HK.out,if_neg (by omega)]))
     have HI:=Lib.hid (show inI (d+1) 0 4=false by simp [inI];omega)
     go_wp2_with (at_builtin;refine wpList_append_own _ rfl _ _ 25 rfl w.heap.size 3 i0 (.int .i64 0) 1 8 Tryz.underlying25 hi hz0 hz1 hz2 rfl (by decide) _ _ _ rfl (hown.alloc _) ⟨wr.heap.size,0,none⟩ 1 1 [.int .i64 d] rfl rfl (World.news_of_block (cs:= #[.int .i64 d]) (t:=3) (fr:=(0,0)) (heap_alloc_new wr _)) (by simp [Value.oneCell']) (by unfold maxLen;omega) (by omega) (by simp;omega) ?_;intro v' w2 hown' hgrow hnil;have HB2:=Lib.hid ((HB.out.alloc HB.out.size _).grown hgrow (by have:=HB.out.size;simp;omega) (fun q hq=>(hown.lt q hq).1));have HO2:=Lib.hid hown';have c0:=(HB2.out.cell (p:=⟨b,_,none⟩) hbl).trans ((HB.out.cell (p:=⟨b,_,none⟩) hbl).symm.trans d0);clear hown' hgrow hnil)
     refine (l1In_any _ _ _ _).mono ?_
     rintro e w' ⟨rfl,rfl⟩
     rw [HI.out]
     have HLN:=Lib.hid (show (depL 0 (l.take (k+1))).length=k+1 by rw [depL_length,List.length_take];omega)
     go_wp2
     exact bodyPost_ret (v:= .tuple #[v', .int .i64 (-1)]) (by simp [results,Tryz.results52,go_sem]) rfl ⟨_,_,depL 0 (l.take (k+1)),rfl,by rw [HLN.out,HS.out,intsZ_snoc];exact HO2.out,HB2.out, .inr ⟨HKN.out,rfl⟩⟩
   ·have e5:(it.1==5)=false:=beq_eq_false_iff_ne.mpr h5
    have e4:(it.1==4)=false:=beq_eq_false_iff_ne.mpr h4
    have HS:=Lib.hid (HD.out d (by unfold depS;rw [if_neg h5]))
    have hdn:depN d it=d:=by unfold depN depS;rw [if_neg h4,if_neg h5]
    rw [hdn] at HK
    clear h4 h5 hdn
    generalize it.1=kk at d0 e5 e4
    have HKN:=Lib.hid (show nestO 0 (l.take (k+1))=some d by rw [HK.out,if_pos (by omega)])
    have HI:=Lib.hid (show inI d 0 4=true by simp [inI];omega)
    go_wp2_with (at_builtin;refine wpList_append_own _ rfl _ _ 25 rfl w.heap.size 3 i0 (.int .i64 0) 1 8 Tryz.underlying25 hi hz0 hz1 hz2 rfl (by decide) _ _ _ rfl (hown.alloc _) ⟨wr.heap.size,0,none⟩ 1 1 [.int .i64 d] rfl rfl (World.news_of_block (cs:= #[.int .i64 d]) (t:=3) (fr:=(0,0)) (heap_alloc_new wr _)) (by simp [Value.oneCell']) (by unfold maxLen;omega) (by omega) (by simp;omega) ?_;intro v' w2 hown' hgrow hnil;have HB2:=Lib.hid ((HB.out.alloc HB.out.size _).grown hgrow (by have:=HB.out.size;simp;omega) (fun q hq=>(hown.lt q hq).1));have HO2:=Lib.hid hown';have c0:=(HB2.out.cell (p:=⟨b,_,none⟩) hbl).trans ((HB.out.cell (p:=⟨b,_,none⟩) hbl).symm.trans d0);clear hown' hgrow hnil)
    refine (l1In_any _ _ _ _).mono ?_
    rintro e w' ⟨rfl,rfl⟩
    rw [HI.out]
    go_wp2
    go_roundw
    case rel=>exact ⟨k+1,d,by omega,by go_num,rfl,by omega,by omega,HKN.out,by rw [HS.out,intsZ_snoc];exact HO2.out,HB2.out⟩
    case measure=>simp [intOf];omega
  ·obtain rfl:k=l.length:=by omega
   have HNL:=Lib.hid (show nestO 0 l=some d by have:=HN.out;rwa [List.take_of_length_le (Nat.le_refl _)] at this)
   rw [List.take_of_length_le (Nat.le_refl _)] at hown
   obtain ⟨a9,c9,rfl⟩:=own_shape hown
   have HO:=Lib.hid hown;clear hown
   go_wp2
   exact bodyPost_ret (v:= .tuple #[.slice a9 l.length c9, .int .i64 d]) (by simp [results,Tryz.results52,go_sem]) rfl ⟨_,_,depL 0 l,rfl,by rw [depL_length];exact HO.out,HB.out, .inl ⟨HNL.out,rfl⟩⟩
theorem doc_bad_item {l:List It} {k:Nat} (hk:k<l.length) (h:itemB l[k]=false):docB l=false:=by
 rw [Bool.eq_false_iff];intro hh
 have:=((docB_iff l).mp hh).2.1
 rw [List.all_eq_true] at this
 have:=this _ (List.getElem_mem hk)
 rw [h] at this;cases this
theorem documentValid_spec (v:Value) (l:List It) (w:World) (hr:RowIt w v l) (hz:ShortI l) (hl:l.length≤1048576):
  Calls Tryz.prog 18 #[v] w fun e w'=>e= .returned (.bool (docB l))∧Below w.heap.size w w':=by
 have HR:=Lib.hid hr
 obtain ⟨ao,cap,rfl,h1,h2,h3⟩:=hr
 unfold maxLen at h2
 have H3:=Lib.hid h3;have HZ:=Lib.hid hz;clear h3 hz
 go_enter Tryz.func18,Tryz.ntmps18
 go_wp2
 go_loopw [3] (fun i wr=> ∃k:Nat,k≤l.length∧i= .int .i64 (k:Int)∧(l.take k).all itemB=true∧Below w.heap.size w wr) (fun i _=>l.length-(intOf i).toNat)
 case atStart=>exact ⟨0,Nat.zero_le _,rfl,rfl,Below.refl _ _⟩
 case round=>
  obtain ⟨k,hk,rfl,hok,hb⟩:=hrel
  have HOK:=Lib.hid hok;have HB:=Lib.hid hb;clear hok hb
  by_cases hlt:k<l.length
  ·obtain ⟨b,o,rfl,hbl,cc⟩:=H3.out.resolve_left (by rintro rfl;simp at hlt)
   obtain ⟨u,hu⟩:=cc k hlt
   obtain ⟨d0,d1,d2,d3,hru⟩:=hu.mono hbl HB.out
   obtain ⟨z1,z2,z3,z4⟩:=HZ.out _ (List.getElem_mem hlt)
   have HI:=Lib.hid (itemValid_spec l[k] u wr hru (by unfold maxLen;omega) z2 z3 (by unfold maxLen;omega))
   have HT:=Lib.hid (show (l.take (k+1)).all itemB=((l.take k).all itemB&&itemB l[k]) by rw [List.take_succ_eq_append_getElem hlt,List.all_append];simp)
   have HBD:=Lib.hid (fun h=>doc_bad_item hlt h)
   clear cc hu hru z1 z2 z3 z4
   generalize l[k]=it at*
   obtain ⟨kk,nn,cc,tt⟩:=it
   simp only at d0 d1 d2 d3 HI
   cases hcb:itemB (kk,nn,cc,tt) with
   |true=>
    have HN:=Lib.hid (show (l.take (k+1)).all itemB=true by rw [HT.out,HOK.out,hcb];rfl)
    go_wp2_with fail
    refine HI.out.mono ?_
    rintro e w1 ⟨rfl,hb1⟩
    have HB1:=Lib.hid (HB.out.trans (hb1.mono HB.out.size));clear hb1
    rw [hcb]
    go_wp2
    go_roundw
    case rel=>exact ⟨k+1,by omega,by go_num,HN.out,HB1.out⟩
    case measure=>simp [intOf];omega
   |false=>
    have HN:=Lib.hid (HBD.out hcb)
    go_wp2_with fail
    refine HI.out.mono ?_
    rintro e w1 ⟨rfl,hb1⟩
    have HB1:=Lib.hid (HB.out.trans (hb1.mono HB.out.size));clear hb1
    rw [hcb]
    go_wp2
    go_ret
    exact ⟨ret_b HN.out.symm,HB1.out⟩
  ·obtain rfl:k=l.length:=by omega
   have HAL:=Lib.hid (show l.all itemB=true by have:=HOK.out;rwa [List.take_of_length_le (Nat.le_refl _)] at this)
   go_wp2_with fail
   refine (l11Nest_any _ l _ (HR.out.mono HB.out) hl).mono ?_
   rintro e w1 ⟨vv,d,L,rfl,ho,hb1,hn⟩
   have HB1:=Lib.hid (HB.out.trans (hb1.mono HB.out.size))
   have HN:=Lib.hid hn
   clear ho hb1 hn
   by_cases h30:l.length≤30
   ·by_cases hd:d=0
    ·have HD:=Lib.hid (show docB l=true by
      rw [docB_iff]
      refine ⟨h30,HAL.out, ?_⟩
      rcases HN.out with ⟨h,-⟩|⟨-,h⟩
      ·rw [h,hd]
      ·omega)
     subst hd
     go_wp2
     go_ret
     exact ⟨ret_b HD.out.symm,HB1.out⟩
    ·have HD:=Lib.hid (show docB l=false by
      rw [Bool.eq_false_iff];intro hh
      have h9:=((docB_iff l).mp hh).2.2
      rcases HN.out with ⟨h,-⟩|⟨h,-⟩
      ·rw [h] at h9;injection h9 with h9;exact hd h9
      ·rw [h] at h9;cases h9)
     have hd0:(d==0)=false:=beq_eq_false_iff_ne.mpr hd
     go_wp2
     go_ret
     exact ⟨ret_b HD.out.symm,HB1.out⟩
   ·have HD:=Lib.hid (show docB l=false by rw [Bool.eq_false_iff];intro hh;exact h30 ((docB_iff l).mp hh).1)
    go_wp2
    go_ret
    exact ⟨ret_b HD.out.symm,HB1.out⟩
theorem infoInt:(Tryz.prog.info? 3).map (fun i=>(i.zero,i.size,i.bytes))=some (some (.int .i64 0),1,8):=by kernel_rfl
def intsS (l:List Nat):List Value:=l.map fun (x:Nat)=>Value.int .i64 (x:Int)
theorem intsS_append (a b:List Nat):intsS (a++b)=intsS a++intsS b:=by simp [intsS]
theorem byte_ten (s:ByteArray) (k:Nat) (h:k<s.size) (e:((s[k].toNat:Int)==10)=true):s.data.toList[k]? =some 10:=by
 have:s[k]=10:=by
  simp only [beq_iff_eq] at e
  exact UInt8.toNat_inj.1 (by show s[k].toNat=10;omega)
 rw [List.getElem?_eq_getElem (by simpa using h)]
 exact congrArg some this
theorem byte_other (s:ByteArray) (k:Nat) (h:k<s.size) (e:((s[k].toNat:Int)==10)=false): ¬s.data.toList[k]? =some 10:=by
 intro hc
 rw [List.getElem?_eq_getElem (by simpa using h)] at hc
 have:s[k]=10:=Option.some.inj hc
 rw [this] at e
 simp at e
def Starts (s:ByteArray) (w:World) (e:Ending) (w':World):Prop:=
 ∃g cap,e= .returned (.slice (some ⟨g,0,none⟩) (lineN s.data.toList s.size+1) cap)∧lineN s.data.toList s.size+1≤cap∧cap≤maxLen∧w.heap.size≤g∧g<w'.heap.size∧
  (∀(j x:Nat),(starts s.data.toList s.size)[j]? =some x→w'.cell? ⟨g,j,none⟩=some (.int .i64 (x:Int)))∧Below w.heap.size w w'
theorem starts_of_own {s:ByteArray} {w w':World} {v:Value} (h:w'.ownsRow w.heap.size 3 1 v (starts s.data.toList s.size).length (intsS (starts s.data.toList s.size))) (hb:Below w.heap.size w w'):Starts s w (.returned v) w':=by
 have h0:=h
 rcases h.2 with ⟨_,h'⟩|⟨g,cap,cur,rfl,hg,hh,h1,h2,_⟩
 ·rw [starts_length] at h';omega
 ·refine ⟨g,cap,by rw [starts_length],by rw [starts_length] at h1;exact h1,h2,hg, ?_, ?_,hb⟩
  ·by_cases hk:g<w'.heap.size
   ·exact hk
   ·rw [Array.getElem?_eq_none (by omega)] at hh;cases hh
  ·intro j x hj
   have hlt:j<(starts s.data.toList s.size).length:=by
    by_cases hk:j<(starts s.data.toList s.size).length
    ·exact hk
    ·rw [List.getElem?_eq_none (by omega)] at hj;cases hj
   rw [h0.cellAt j (by omega)]
   simp [intsS,hj]
theorem lineStarts_any (s:ByteArray) (w:World) (hs:s.size≤20000):
  Calls Tryz.prog 61 #[.string s] w (Starts s w):=by
 obtain ⟨i0,hi,hz0,hz1,hz2⟩:=info_parts infoInt
 go_enter Tryz.func61,Tryz.ntmps61
 go_wp2
 go_loopw [3,4,8] (fun v _ i wr=> ∃k:Nat,k≤s.size∧i= .int .i64 k∧wr.ownsRow w.heap.size 3 1 v (starts s.data.toList k).length (intsS (starts s.data.toList k))∧Below w.heap.size w wr) (fun _ _ i _=>s.size-(intOf i).toNat)
 case atStart=>exact ⟨0,Nat.zero_le _,rfl,World.ownsRow_lit _ _ 1 (Nat.le_refl _) (by unfold maxLen;omega) rfl,(Below.refl _ _).alloc (Nat.le_refl _) _⟩
 case round=>
  obtain ⟨k,hk,rfl,hown,hb⟩:=hrel
  have HB:=Lib.hid hb;clear hb
  by_cases hlt:k<s.size
  ·have hb0:(s[k].toNat:Int)≤255:=by have:=s[k].toNat_lt;omega
   have hll:=lineN_le s.data.toList k
   have hsl:=starts_length s.data.toList k
   have HSL:=Lib.hid hsl;clear hsl
   by_cases hten:((s[k].toNat:Int)==10)=true
   ·have HS:=Lib.hid (show starts s.data.toList (k+1)=starts s.data.toList k++[k+1] by simp only [starts];rw [if_pos (byte_ten s k hlt hten)])
    go_wp2_with (at_builtin;refine wpList_append_own _ rfl _ _ 25 rfl w.heap.size 3 i0 (.int .i64 0) 1 8 Tryz.underlying25 hi hz0 hz1 hz2 rfl (by decide) _ _ _ rfl (hown.alloc _) ⟨wr.heap.size,0,none⟩ 1 1 [.int .i64 ((k:Int)+1)] rfl rfl (cell_one_new _ _ _) (ints_oneCell .i64 [(k:Int)+1]) (by have:=HSL.out;unfold maxLen;omega) (by have:=HSL.out;omega) (by have:=HB.out.size;simp;omega) ?_;intro v' w1 hown' hgrow hnil)
    go_roundw
    case rel=>
     refine ⟨k+1,by omega,by go_num, ?_, ?_⟩
     ·rw [HS.out,intsS_append,List.length_append];exact hown'
     ·exact (HB.out.alloc HB.out.size _).grown hgrow (by have:=HB.out.size;simp;omega) (fun q hq=>(hown.lt q hq).1)
    case measure=>simp [intOf];omega
   ·have hten':((s[k].toNat:Int)==10)=false:=by simpa using hten
    have HS:=Lib.hid (show starts s.data.toList (k+1)=starts s.data.toList k by simp only [starts];rw [if_neg (byte_other s k hlt hten')])
    clear hten
    go_wp2
    go_roundw
    case rel=>exact ⟨k+1,by omega,by go_num,by rw [HS.out];exact hown,HB.out⟩
    case measure=>simp [intOf];omega
  ·go_wp2
   go_ret
   obtain rfl:k=s.size:=by omega
   exact starts_of_own hown HB.out
def RowOf (w:World) (v:Value) (L:List Value):Prop:=
 ∃ao cap,v= .slice ao L.length cap∧L.length≤cap∧cap≤maxLen∧(L=[]∨ ∃b off,ao=some ⟨b,off,none⟩∧b<w.heap.size∧ ∀(j:Nat) t,L[j]? =some t→w.cell? ⟨b,off+j,none⟩=some t)
theorem RowOf.mono {w w':World} {v:Value} {L:List Value} (h:RowOf w v L) (hb:Below w.heap.size w w'):RowOf w' v L:=by
 obtain ⟨ao,cap,hv,h1,h2,h3⟩:=h
 refine ⟨ao,cap,hv,h1,h2, ?_⟩
 rcases h3 with h3|⟨b,off,ha,hlt,hj⟩
 ·exact .inl h3
 ·exact .inr ⟨b,off,ha,Nat.lt_of_lt_of_le hlt hb.size,fun j t ht=>by rw [hb.cell (by exact hlt)];exact hj j t ht⟩
theorem RowOf.of_own {w:World} {base:Nat} {e:TypeId} {v:Value} {n:Nat} {L:List Value} (h:w.ownsRow base e 1 v n L):RowOf w v L:=by
 have h0:=h
 obtain ⟨hl,h2⟩:=h
 rcases h2 with ⟨rfl,rfl⟩|⟨g,cap,cur,rfl,hg,hh,h1,h2,_⟩
 ·obtain rfl:L=[]:=List.eq_nil_of_length_eq_zero (by omega)
  exact ⟨none,0,rfl,Nat.le_refl _,by unfold maxLen;omega, .inl rfl⟩
 ·obtain rfl:n=L.length:=by omega
  refine ⟨_,cap,rfl,h1,h2, .inr ⟨g,0,rfl, ?_, ?_⟩⟩
  ·by_cases hk:g<w.heap.size
   ·exact hk
   ·rw [Array.getElem?_eq_none (by omega)] at hh;cases hh
  ·intro j t ht
   have hlt:j<L.length:=by
    by_cases hk:j<L.length
    ·exact hk
    ·rw [List.getElem?_eq_none (by omega)] at ht;cases ht
   rw [Nat.zero_add,h0.cellAt j (by omega)]
   exact ht
theorem infoStr:(Tryz.prog.info? 9).map (fun i=>(i.zero,i.size,i.bytes))=some (some (.string ByteArray.empty),1,16):=by kernel_rfl
def strs (l:List ByteArray):List Value:=l.map Value.string
theorem strs_length (l:List ByteArray):(strs l).length=l.length:=by simp [strs]
theorem strs_append (a b:List ByteArray):strs (a++b)=strs a++strs b:=by simp [strs]
theorem str_oneCell (t:ByteArray): ∀u∈[Value.string t],u.oneCell'=true:=by
 intro u hu;simp only [List.mem_singleton] at hu;subst hu;rfl
def NewTexts (L:List ByteArray) (w:World) (e:Ending) (w':World):Prop:=
 ∃v,e= .returned v∧w'.ownsRow w.heap.size 9 1 v L.length (strs L)∧Below w.heap.size w w'
inductive Tz (l:List Cl):Nat→Nat→Nat→List Pz→Prop
 |nil (f:Nat):Tz l 0 f f []
 |cons {f g n t:Nat} {c:Cl} {ks xs:List Pz}:l[f]? =some c→Tz l c.2.2.toNat (f+1) g ks→Tz l n g t xs→Tz l (n+1) f t (mkPz c ks::xs)
theorem Tz.len {l:List Cl} {n f t:Nat} {xs:List Pz} (h:Tz l n f t xs):xs.length=n:=by
 induction h with
 |nil f=>rfl
 |cons hc h1 h2 i1 i2=>rw [List.length_cons,i2]
theorem Tz.tx {l:List Cl} {n f t:Nat} {xs:List Pz} (h:Tz l n f t xs):Tx l n f t (xs.map ptOf):=by
 induction h with
 |nil f=>exact .nil f
 |cons hc h1 h2 i1 i2=>exact .cons hc i1 i2
theorem Tz.of_exs {l:List Cl} {n f t d:Nat} (h:Exs (amL l) n f t d): ∃xs,Tz l n f t xs∧maxD xs=d:=by
 generalize ha:amL l=am at h
 induction h with
 |nil f=>exact ⟨[], .nil f,rfl⟩
 | @cons f m g d n t e hm h1 h2 i1 i2=>
  obtain ⟨ks,k1,k2⟩:=i1;obtain ⟨xs,k3,k4⟩:=i2
  subst ha
  obtain ⟨c,hc,rfl⟩:=amL_get hm
  refine ⟨_, .cons hc k1 k3, ?_⟩
  simp only [maxD,mkPz,k2,k4]
theorem Tz.good {l:List Cl} (hok:l.all okC=true) {n f t:Nat} {xs:List Pz} (h:Tz l n f t xs): ∀x∈xs,Good x:=by
 induction h with
 |nil f=>intro x hx;cases hx
 | @cons f g n t c ks xs hc h1 h2 i1 i2=>
  intro x hx
  rcases List.mem_cons.mp hx with rfl|hx
  ·obtain ⟨hl,he⟩:=List.getElem?_eq_some_iff.mp hc
   exact good_mk (by rw [←he];exact okC_all hok f hl) h1.len i1
  ·exact i2 x hx
theorem Tz.cells {l:List Cl} {n f t:Nat} {xs:List Pz} (h:Tz l n f t xs):xs.flatMap Pz.cl=(l.drop f).take (t-f)∧f≤t:=by
 induction h with
 |nil f=>simp
 | @cons f g n t c ks xs hc h1 h2 i1 i2=>
  obtain ⟨hl,he⟩:=List.getElem?_eq_some_iff.mp hc
  obtain ⟨e1,l1⟩:=i1
  obtain ⟨e2,l2⟩:=i2
  refine ⟨?_,by omega⟩
  have e0:l.drop f=c::l.drop (f+1):=by rw [List.drop_eq_getElem_cons hl,he]
  rw [List.flatMap_cons,e2]
  simp only [mkPz]
  rw [e1,e0,show t-f=(t-(f+1))+1 by omega,List.take_succ_cons,List.cons_append]
  congr 1
  have:l.drop g=(l.drop (f+1)).drop (g-(f+1)):=by rw [List.drop_drop];congr 1;omega
  rw [this,show t-(f+1)=(g-(f+1))+(t-g) by omega,List.take_add]
theorem pz_of {l:List Cl} (hok:okE l=true): ∃x:Pz,Good x∧x.tx=textE l∧x.cl=l∧x.dp≤12:=by
 obtain ⟨h60,hal,d,hd,hx⟩:=(okE_iff l).mp hok
 obtain ⟨xs,h,hm⟩:=Tz.of_exs hx
 have hl:=h.len
 match xs,hl,h,hm with
 |[x],_,h,hm=>
  refine ⟨x,h.good hal x (by simp), ?_, ?_, ?_⟩
  ·have:=textE_of hok (x:=ptOf x) h.tx
   rw [this];rfl
  ·have:=h.cells.1
   simpa using this
  ·simp only [maxD] at hm;omega
end Go.Proofs.YtegdjjjpoahamaaGreatDoor
