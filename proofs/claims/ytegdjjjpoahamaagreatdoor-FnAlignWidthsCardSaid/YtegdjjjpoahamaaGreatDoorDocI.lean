/-
  impl.documentTree, DocumentValid, by their contracts.
-/
import Derived.Test.YtegdjjjpoahamaaGreatDoorGrowD
import Derived.Test.YtegdjjjpoahamaaGreatDoorItemI
set_option linter.unusedVariables false
set_option maxHeartbeats 4000000
set_option maxRecDepth 100000
namespace Go.Proofs.YtegdjjjpoahamaaGreatDoor
open Go.RowKit
def FitI (l:List It):Prop:= ∀i∈l,i.2.1.size≤maxLen∧SizedC i.2.2.1∧i.2.2.2.size≤maxLen
def TreeL (l:List It) (w:World) (e:Ending) (w':World):Prop:=
 Below w.heap.size w w'∧((∃(N:Nat) (v:Value) (qs:List Nat),e= .returned (.pointer (some ⟨N,0,none⟩))∧docB l=true∧w.heap.size≤N∧BlkD w' N #[.int .i64 0, .int .i64 (l.length:Int),v]∧w'.ownsRow (N+1) 86 1 v qs.length (ptrs qs)∧TrD w' (fun b=>N<b∧b<w'.heap.size) qs 0 l 0)∨(e= .returned (.pointer none)∧docB l=false))
theorem doc_len {l:List It} (h: ¬l.length≤30):docB l=false:=by rw [Bool.eq_false_iff];intro k;exact h ((docB_iff l).mp k).1
theorem doc_item {l:List It} (h: ¬l.all itemB=true):docB l=false:=by rw [Bool.eq_false_iff];intro k;exact h ((docB_iff l).mp k).2.1
theorem doc_nest {l:List It} (h:nestO 0 l≠some 0):docB l=false:=by rw [Bool.eq_false_iff];intro k;exact h ((docB_iff l).mp k).2.2
theorem allI_take {l:List It} {k:Nat} (h:k<l.length):(l.take (k+1)).all itemB=((l.take k).all itemB&&itemB l[k]):=by
 rw [List.take_succ_eq_append_getElem h,List.all_append];simp
theorem ItAt.agg {w:World} {b o k:Nat} {i:It} {u:Value} (h:ItAt w b o k i u):RowC w u i.2.2.1:=h.2.2.2.2
theorem bad_doc {l:List It} (h:BadN 0 (l.drop 0)):docB l=false:=by
 refine doc_nest fun k=> ?_
 have:=h 0 k
 omega
theorem close_doc {l seg:List It} {c:It} {post:List It} (he:l.drop 0=seg++c::post) (hp:PtD 0 seg) (hc:c.1=5):docB l=false:=by
 refine doc_nest fun k=> ?_
 have e:l=seg++c::post:=he
 rw [e] at k
 have h2:=hp.nest (by omega) (c::post)
 rw [show ((0:Nat):Int)=0 from rfl] at h2
 rw [h2,nestO_cons,depN_close hc,if_neg (by omega)] at k
 cases k
theorem whole_doc {l seg:List It} (he:l.drop 0=seg++[]) (hp:PtD 0 seg) (h30:l.length≤30) (hi:l.all itemB=true):docB l=true:=by
 have e:l=seg:=by simpa using he
 rw [docB_iff,e]
 exact ⟨e▸h30,e▸hi,hp.self (by omega)⟩
theorem documentTree_any (v:Value) (l:List It) (w:World) (hr:RowIt w v l) (hz:FitI l) (htab:Tab w):
  Calls Tryz.prog 76 #[v] w (TreeL l w):=by
 have HR:=Lib.hid hr
 obtain ⟨ao,cap,rfl,h1,h2,h3⟩:=hr
 unfold maxLen at h2
 have H3:=Lib.hid h3;have HZ:=Lib.hid hz;have HTAB:=Lib.hid htab
 clear h3 hz htab
 by_cases h30:l.length≤30
 ·go_enter Tryz.func76,Tryz.ntmps76
  go_wp2
  go_loopw [4,11] (fun _ i wr=> ∃k:Nat,k≤l.length∧i= .int .i64 (k:Int)∧(l.take k).all itemB=true∧Below w.heap.size w wr) (fun _ i _=>l.length-(intOf i).toNat)
  case atStart=>exact ⟨0,Nat.zero_le _,rfl,rfl,Below.refl _ _⟩
  case round=>
   obtain ⟨k,hk,rfl,hok,hb⟩:=hrel
   have HOK:=Lib.hid hok;have HB:=Lib.hid hb;clear hok hb
   by_cases hlt:k<l.length
   ·obtain ⟨b,o,rfl,hbl,cc⟩:=H3.out.resolve_left (by rintro rfl;simp at hlt)
    obtain ⟨u,hu⟩:=cc k hlt
    have hu2:=hu.mono hbl HB.out
    obtain ⟨d0,d1,d2,d3,hru⟩:=hu2
    obtain ⟨z1,z2,z3⟩:=HZ.out _ (List.getElem_mem hlt)
    obtain ⟨au,cu,hue,-⟩: ∃au cu,u= .slice au l[k].2.2.1.length cu∧True:=by obtain ⟨au,cu,h,-⟩:=hru;exact ⟨au,cu,h,trivial⟩
    have HBA:=Lib.hid (HB.out.alloc HB.out.size (.cells #[.int .i64 l[k].1, .string l[k].2.1,u, .string l[k].2.2.2] 32))
    have HI:=Lib.hid (itemValid_impl l[k] u (wr.alloc (.cells #[.int .i64 l[k].1, .string l[k].2.1,u, .string l[k].2.2.2] 32)) (hru.al _) z1 z2 z3 (HTAB.out.keep HBA.out))
    have HT:=Lib.hid (allI_take hlt)
    have HMI:=Lib.hid (List.getElem_mem hlt)
    clear cc hu hru z1 z2 z3
    subst hue
    generalize l[k]=it at*
    obtain ⟨kk,nn,cc,tt⟩:=it
    simp only at d0 d1 d2 d3 HI HBA
    cases hcb:itemB (kk,nn,cc,tt) with
    |true=>
     have HN:=Lib.hid (show (l.take (k+1)).all itemB=true by rw [HT.out,HOK.out,hcb];rfl)
     go_wp2_with fail
     refine HI.out.mono ?_
     rintro e w1 ⟨rfl,hb1⟩
     have HB1:=Lib.hid (HBA.out.trans (hb1.mono (by have:=HB.out.size;simp;omega)));clear hb1
     rw [hcb]
     go_wp2
     go_roundw
     case rel=>exact ⟨k+1,by omega,by go_num,HN.out,HB1.out⟩
     case measure=>simp [intOf];omega
    |false=>
     have HN:=Lib.hid (doc_item (l:=l) (fun h=>by
      rw [List.all_eq_true] at h
      have:=h _ HMI.out
      rw [hcb] at this;cases this))
     go_wp2_with fail
     refine HI.out.mono ?_
     rintro e w1 ⟨rfl,hb1⟩
     have HB1:=Lib.hid (HBA.out.trans (hb1.mono (by have:=HB.out.size;simp;omega)));clear hb1
     rw [hcb]
     go_wp2
     go_ret
     exact ⟨HB1.out, .inr ⟨rfl,HN.out⟩⟩
   ·obtain rfl:k=l.length:=by omega
    have HAL:=Lib.hid (show l.all itemB=true by have:=HOK.out;rwa [List.take_of_length_le (Nat.le_refl _)] at this)
    have HG:=Lib.hid (growParts_any _ l h30 l.length 0 0 (Nat.zero_le _) (by omega) (by omega) wr (HR.out.mono HB.out))
    rw [show ((0:Nat):Int)=0 from rfl] at HG
    go_wp2_with fail
    refine HG.out.mono ?_
    rintro e w1 ⟨hb1,⟨seg,post,vv,qs,rfl,he,hp,hbk,ho,ht⟩|⟨rfl,hbad⟩⟩
    ·have HB1:=Lib.hid (HB.out.trans (hb1.mono HB.out.size))
     have d1:w1.cell? ⟨wr.heap.size,1,none⟩=some (.int .i64 ((0+seg.length:Nat):Int)):=hbk.cell 1
     have hlen:seg.length+post.length=l.length:=by
      have:=congrArg List.length he
      rw [List.length_append,List.length_drop] at this
      omega
     rw [Nat.zero_add] at d1 hbk
     cases post with
     |nil=>
      have hz:seg.length=l.length:=by simpa using hlen
      have HD:=Lib.hid (whole_doc he ht.pt h30 HAL.out)
      have hsz:=HB.out.size
      have e2:seg=l:=by have h9:=he;rw [List.append_nil,List.drop_zero] at h9;exact h9.symm
      subst e2
      have HF:=Lib.hid (show TreeL seg w (.returned (.pointer (some ⟨wr.heap.size,0,none⟩))) w1 from
       ⟨HB1.out, .inl ⟨wr.heap.size,vv,qs,rfl,HD.out,hsz,hbk,ho,ht.keep (fun _ _ _=>rfl) (fun b hb _=>⟨hb.1,hb.2.1⟩)⟩⟩)
      clear hb1 hbk ho ht he hp hlen
      go_wp2
      go_ret
      exact HF.out
     |cons c post=>
      have hz:(seg.length:Int)<(l.length:Int):=by simp at hlen;omega
      have HD:=Lib.hid (close_doc he ht.pt (hp c rfl))
      clear hb1 hbk ho ht he hp hlen
      go_wp2
      go_ret
      exact ⟨HB1.out, .inr ⟨rfl,HD.out⟩⟩
    ·have HB1:=Lib.hid (HB.out.trans (hb1.mono HB.out.size))
     have HD:=Lib.hid (bad_doc hbad)
     clear hb1 hbad
     go_wp2
     go_ret
     exact ⟨HB1.out, .inr ⟨rfl,HD.out⟩⟩
 ·have HD:=Lib.hid (doc_len (l:=l) h30)
  go_enter Tryz.func76,Tryz.ntmps76
  go_wp2
  go_ret
  exact ⟨Below.refl _ _, .inr ⟨rfl,HD.out⟩⟩
theorem documentValid_impl (v:Value) (l:List It) (w:World) (hr:RowIt w v l) (hz:FitI l) (htab:Tab w):
  Calls Tryz.prog 43 #[v] w fun e w'=>e= .returned (.bool (docB l))∧Below w.heap.size w w':=by
 have HC:=Lib.hid (documentTree_any v l w hr hz htab)
 obtain ⟨ao,cap,rfl,h1,h2,h3⟩:=hr
 clear h3 hz
 go_enter Tryz.func43,Tryz.ntmps43
 go_wp2_with fail
 refine HC.out.mono ?_
 rintro e w1 ⟨hb1,⟨N,vv,qs,rfl,hok,-⟩|⟨rfl,hno⟩⟩
 ·have HOK:=Lib.hid hok;have HB:=Lib.hid hb1
  clear hok hb1
  go_wp2
  go_ret
  exact ⟨ret_b HOK.out.symm,HB.out⟩
 ·have HOK:=Lib.hid hno;have HB:=Lib.hid hb1
  clear hno hb1
  go_wp2
  go_ret
  exact ⟨ret_b HOK.out.symm,HB.out⟩
end Go.Proofs.YtegdjjjpoahamaaGreatDoor
