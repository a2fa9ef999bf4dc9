/-
  Several texts of the proof in one file: Builder, QuoteImpl.
-/
import Derived.Test.YtegdjjjpoahamaaGreatDoorShelf
import Derived.Test.YtegdjjjpoahamaaGreatDoorRows
import Derived.Lib.Builder
import Derived.Lib.UnsafeStr
import Derived.Lib.Hide
import Derived.WalkKit
import Derived.Laws.Externs
import Derived.Test.YtegdjjjpoahamaaGreatDoorBaseC
import Derived.Test.YtegdjjjpoahamaaGreatDoorBaseE
set_option linter.unusedVariables false
set_option maxHeartbeats 2000000
set_option maxRecDepth 100000
namespace Go.Proofs.YtegdjjjpoahamaaGreatDoor
open Go.RowKit
theorem bInfo:(Tryz.prog.info? 62).map (·.size)=some 2:=by kernel_rfl
theorem bLies:liesAt Tryz.prog Tryz.prog.depth 62 (2/Tryz.prog.cellsOf 62) 0 62 1=true:=by kernel_rfl
theorem u8Info:(Tryz.prog.info? 5).map (fun i=>(i.zero,i.size,i.bytes))=some (some (.int .u8 0),1,1):=by kernel_rfl
abbrev BAt (B b:Nat) (p:Value) (l:List UInt8) (w:World):Prop:=Lib.BuilderAt 62 5 B b p (Lib.byteCells l) w
abbrev BIs (B b:Nat) (l:List UInt8) (w:World):Prop:=Lib.IsBuilder 62 5 B b (Lib.byteCells l) w
theorem check_used (b:Nat) (w:World) (h0:w.cell? ⟨b,0,none⟩=some (.pointer (some ⟨b,0,none⟩))):
  Calls Tryz.prog 135 #[.pointer (some ⟨b,0,none⟩)] w fun e w'=>e= .returned (.tuple #[])∧w=w':=by
 obtain ⟨j,hj,_⟩:=Option.map_eq_some_iff.1 bInfo
 have hn:=Lib.run_neq_ptr_same (P:=Tryz.prog) w ⟨b,0,none⟩ Tryz.underlying60 hj
 clear hj
 go_enter Tryz.func135,Tryz.ntmps135
 go_wp2
 go_end0
 exact ⟨rfl,rfl⟩
theorem check_fresh (b:Nat) (w:World) (h0:w.cell? ⟨b,0,none⟩=some (.pointer none)) (hsh:w.shape? b=some (62,2)) (hfz:w.frozen? ⟨b,0,none⟩=false):
  Calls Tryz.prog 135 #[.pointer (some ⟨b,0,none⟩)] w fun e w'=>e= .returned (.tuple #[])∧w.setCell ⟨b,0,none⟩ (.pointer (some ⟨b,0,none⟩))=w':=by
 obtain ⟨j,hj,hjs⟩:=Option.map_eq_some_iff.1 bInfo
 have hto:=Lib.run_to_unsafe (P:=Tryz.prog) w ⟨b,0,none⟩ Tryz.underlying60 Tryz.underlying176 hj (by rw [hjs];decide) hsh (Nat.zero_lt_succ 1)
 have hfrom:=Lib.run_from_unsafe (P:=Tryz.prog) w ⟨b,0,none⟩ Tryz.underlying176 Tryz.underlying60 hj hsh bLies
 have hext:(callFunc 170 #[.pointer (some ⟨b,0,none⟩)]).run Tryz.prog w= .ok (.value (.pointer (some ⟨b,0,none⟩))) w:=by
  rw [run_callFunc_extern Tryz.func170 (by kernel_rfl) (by kernel_rfl) (by kernel_rfl) (e:=Extern.AbiNoEscape.same) (by kernel_rfl),Lib.run_noEscape]
  rfl
 clear hj
 go_enter Tryz.func135,Tryz.ntmps135
 go_wp2
 go_end0
 exact ⟨rfl,rfl⟩
theorem copyCheck_any (B b:Nat) (l:List UInt8) (w:World) (h:BIs B b l w):
  Calls Tryz.prog 135 #[.pointer (some ⟨b,0,none⟩)] w fun e w'=>e= .returned (.tuple #[])∧BAt B b (.pointer (some ⟨b,0,none⟩)) l w'∧Below B w w':=by
 rcases h with h|h
 ·refine (check_fresh b w h.cell0 h.shape h.frozen0).mono ?_
  rintro e w' ⟨rfl,rfl⟩
  exact ⟨rfl,h.used _,(Below.refl B w).setCell (p:=⟨b,0,none⟩) h.1 _⟩
 ·refine (check_used b w h.cell0).mono ?_
  rintro e w' ⟨rfl,rfl⟩
  exact ⟨rfl,h,Below.refl B _⟩
theorem cells_snoc (l:List UInt8) (c:UInt8):Lib.byteCells (l++[c])=Lib.byteCells l++[.int .u8 c.toNat]:=by rw [Lib.byteCells_append];rfl
theorem writeByte_any (B b:Nat) (l:List UInt8) (c:UInt8) (w:World) (h:BIs B b l w) (hlen:l.length≤1000000000) (hBw:B≤w.heap.size):
  Calls Tryz.prog 88 #[.pointer (some ⟨b,0,none⟩), .int .u8 c.toNat] w fun e w'=>e= .returned .nilIface∧BIs B b (l++[c]) w'∧Below B w w':=by
 obtain ⟨i0,hi,hz0,hz1,hz2⟩:=info_parts u8Info
 have HL:=Lib.hid (Lib.byteCells_length l)
 generalize hx:(c.toNat:Int)=x
 have HX:=Lib.hid hx;clear hx
 go_enter Tryz.func88,Tryz.ntmps88
 go_wp2_with fail
 refine (copyCheck_any B b l _ h).mono ?_
 rintro e w1 ⟨rfl,h1,hb1⟩
 obtain ⟨hB,v,hbk,hown,hne⟩:=h1
 have hsz:=hb1.size
 have c1:w1.cell? ⟨b,1,none⟩=some v:=by rw [Lib.cell_of_heap hbk];rfl
 have hlt:b<w1.heap.size:=by
  by_cases hk:b<w1.heap.size
  ·exact hk
  ·rw [Array.getElem?_eq_none (by omega)] at hbk;cases hbk
 have HBK:=Lib.hid hbk;have HNE:=Lib.hid hne;have HB1:=Lib.hid hb1
 clear hbk hne hb1 h
 go_wp2_with (at_builtin;refine wpList_append_own _ rfl _ _ 22 rfl B 5 i0 (.int .u8 0) 1 1 Tryz.underlying22 hi hz0 hz1 hz2 rfl (by decide) _ _ _ rfl (hown.alloc _) ⟨w1.heap.size,0,none⟩ 1 1 [.int .u8 x] rfl rfl ?c1 ?c2 ?c3 ?c4 ?c5 ?_)
 case c1=>
  intro j u hj
  match j,hj with
  |0,hj=>simp at hj;subst hj;simp [Addr.add]
 case c2=>intro u hu;simp at hu;subst hu;rfl
 case c3=>have:=HL.out;unfold maxLen;omega
 case c4=>have:=HL.out;omega
 case c5=>simp;omega
 intro v' w2 hown' hgrow _
 have hb2:w2.heap[b]? =some (.cells #[.pointer (some ⟨b,0,none⟩),v] 62 (0,0)):=by
  rw [hgrow.block b (by simp;omega) (fun e=>HNE.out e.symm),Lib.alloc_old w1 _ b hlt]
  exact HBK.out
 have d1:w2.cell? ⟨b,1,none⟩=some v:=by rw [Lib.cell_of_heap hb2];rfl
 have f1:w2.frozen? ⟨b,1,none⟩=false:=Lib.frozen_of_heap hb2 1
 have HB2:=Lib.hid hb2;have HW:=Lib.hid hown';have HG:=Lib.hid hgrow
 clear hb2 hgrow
 obtain ⟨g,cap,rfl⟩: ∃g cap,v'= .slice (some ⟨g,0,none⟩) ((Lib.byteCells l).length+1) cap:=by
  rcases hown'.2 with ⟨_,h0⟩|⟨g,cap,cur,hv,_⟩
  ·omega
  ·exact ⟨g,cap,hv⟩
 clear hown' hi hz0 hz1 hz2 c1
 go_wp2
 go_ret
 refine ⟨rfl, .inr ?_, ?_⟩
 ·rw [show Lib.byteCells (l++[c])=Lib.byteCells l++[.int .u8 x] by rw [cells_snoc,HX.out]]
  exact Lib.BuilderAt.put hB HB2.out (by simpa using HW.out) (by decide)
 ·exact ((HB1.out.alloc (by omega) _).grown HG.out (by simp;omega) (fun k hk=>(hown.lt k hk).1)).setCell (p:=⟨b,1,none⟩) hB _
theorem writeByte_n (B b:Nat) (l:List UInt8) (c:UInt8) (n:Int) (hn:(c.toNat:Int)=n) (w:World) (h:BIs B b l w) (hlen:l.length≤1000000000) (hBw:B≤w.heap.size):
  Calls Tryz.prog 88 #[.pointer (some ⟨b,0,none⟩), .int .u8 n] w fun e w'=>e= .returned .nilIface∧BIs B b (l++[c]) w'∧Below B w w':=by
 subst hn;exact writeByte_any B b l c w h hlen hBw
theorem BIs.keepIn {B b:Nat} {l:List UInt8} {w:World} (h:BIs B b l w):B≤b∧b<w.heap.size:=by
 rcases h with h|h
 ·exact ⟨h.1,h.lt⟩
 ·exact ⟨h.1,h.lt⟩
theorem BIs.new (w:World):BIs w.heap.size w.heap.size [] (w.alloc (.cells #[.pointer none, .slice none 0 0] 62)):=Lib.fresh_isBuilder _ _ w
theorem bString (B b:Nat) (l:List UInt8) (w:World) (h:BIs B b l w) (hBw:B≤w.heap.size):
  Calls Tryz.prog 91 #[.pointer (some ⟨b,0,none⟩)] w fun e w'=>e= .returned (.string ⟨l.toArray⟩)∧Below B w w':=Tryz.Builder_String_any B b l w h hBw
def qbV (n:Int):Int:=if n=34∨n=92 then n else if n=10 then 110 else 0
theorem quoteByte_any (n:Int) (w:World):
  Calls Tryz.prog 232 #[.int .u8 n] w fun e w'=>e= .returned (.tuple #[.int .u8 (qbV n), .bool (specI n)])∧w=w':=by
 by_cases a:n=34
 ·subst a
  go_enter Tryz.func232,Tryz.ntmps232
  go_wp2
  go_ret2
  exact ⟨rfl,rfl⟩
 by_cases b:n=92
 ·subst b
  go_enter Tryz.func232,Tryz.ntmps232
  go_wp2
  go_ret2
  exact ⟨rfl,rfl⟩
 by_cases c:n=10
 ·subst c
  go_enter Tryz.func232,Tryz.ntmps232
  go_wp2
  go_ret2
  exact ⟨rfl,rfl⟩
 ·have e1:qbV n=0:=by simp [qbV,a,b,c]
  have e2:specI n=false:=by simp [specI,a,b,c]
  rw [e1,e2]
  have t1:(n==34)=false:=by simpa using a
  have t2:(n==92)=false:=by simpa using b
  have t3:(n==10)=false:=by simpa using c
  clear a b c e1 e2
  go_enter Tryz.func232,Tryz.ntmps232
  go_wp2
  go_ret2
  exact ⟨rfl,rfl⟩
theorem quoteT_no {s:ByteArray} (h:textB s=false):quoteT s=⟨#[]⟩:=by unfold quoteT;rw [h];rfl
theorem textB_size {s:ByteArray} (h:textB s=true):s.size≤20000:=by
 simp only [textB,Bool.and_eq_true,decide_eq_true_eq] at h;exact h.1
theorem quote_step (s:ByteArray) (k:Nat) (h:k<s.size):quoteI (s.data.toList.take (k+1))=quoteI (s.data.toList.take k)++quoteC s[k]:=by
 rw [take_snoc s k h,quoteI_snoc]
theorem take_len (s:ByteArray) (k:Nat):(quoteI (s.data.toList.take k)).length≤2*k:=by
 have:=(quoteI_len (s.data.toList.take k)).2
 rw [List.length_take] at this
 omega
theorem quoteC_cases (c:UInt8):(specI (c.toNat:Int)=false∧quoteC c=[c])∨(specI (c.toNat:Int)=true∧ ∃d:UInt8,qbV (c.toNat:Int)=(d.toNat:Int)∧quoteC c=[92,d]):=by
 by_cases h10:c=10
 ·subst h10;exact .inr ⟨by decide,110,by decide,by decide⟩
 by_cases h34:c=34
 ·subst h34;exact .inr ⟨by decide,34,by decide,by decide⟩
 by_cases h92:c=92
 ·subst h92;exact .inr ⟨by decide,92,by decide,by decide⟩
 ·refine .inl ⟨?_,by simp [quoteC,h10,h34,h92]⟩
  have n10:c.toNat≠10:=fun e=>h10 (UInt8.toNat_inj.mp e)
  have n34:c.toNat≠34:=fun e=>h34 (UInt8.toNat_inj.mp e)
  have n92:c.toNat≠92:=fun e=>h92 (UInt8.toNat_inj.mp e)
  simp only [specI,decide_eq_false_iff_not];omega
theorem quoteText_impl (s:ByteArray) (w:World) (hs:s.size≤maxLen):
  Calls Tryz.prog 218 #[.string s] w fun e w'=>e= .returned (.string (quoteT s))∧Below w.heap.size w w':=by
 cases ht:textB s with
 |false=>
  rw [quoteT_no ht]
  go_enter Tryz.func218,Tryz.ntmps218
  go_wp2_with fail
  refine (textValid_impl s _ hs).mono ?_
  rintro e w' ⟨rfl,rfl⟩
  rw [ht]
  go_wp2
  go_ret
  exact ⟨rfl,Below.refl _ _⟩
 |true=>
  have hs2:=textB_size ht
  have HS:=Lib.hid hs
  have HT:=Lib.hid ht
  clear ht hs
  go_enter Tryz.func218,Tryz.ntmps218
  go_wp2_with fail
  refine (textValid_impl s _ HS.out).mono ?_
  rintro e w' ⟨rfl,rfl⟩
  rw [HT.out]
  go_wp2_with fail
  refine (writeByte_n w.heap.size w.heap.size [] 34 34 (by decide) _ (BIs.new w) (by simp) (by simp)).mono ?_
  rintro e w1 ⟨rfl,h1,hb1⟩
  have H1:=Lib.hid h1
  have HB1:=Lib.hid (((Below.refl w.heap.size w).alloc (Nat.le_refl _) _).trans hb1)
  clear h1 hb1
  go_wp2_with fail
  go_loopw [13] (fun i wr=> ∃k:Nat,k≤s.size∧i= .int .i64 k∧BIs w.heap.size w.heap.size (34::quoteI (s.data.toList.take k)) wr∧Below w.heap.size w wr) (fun i _=>s.size-(intOf i).toNat)
  case atStart=>exact ⟨0,Nat.zero_le _,rfl,H1.out,HB1.out⟩
  case round=>
   obtain ⟨k,hk,rfl,hI,hB⟩:=hrel
   have HI:=Lib.hid hI;have HB:=Lib.hid hB
   have hln:=take_len s k
   clear hI hB
   by_cases hlt:k<s.size
   ·have hb0:(s[k].toNat:Int)≤255:=by have:=s[k].toNat_lt;omega
    have HQ:=Lib.hid (quote_step s k hlt)
    go_wp2_with fail
    refine (quoteByte_any _ _).mono ?_
    rintro e w' ⟨rfl,rfl⟩
    rcases quoteC_cases s[k] with ⟨h1,h2⟩|⟨h1,d,h2,h3⟩
    ·rw [h1]
     have HC:=Lib.hid h2
     clear h1 h2
     go_wp2_with fail
     refine (writeByte_n w.heap.size w.heap.size _ s[k] _ rfl _ HI.out (by simp;omega) HB.out.size).mono ?_
     rintro e w2 ⟨rfl,h1,hb1⟩
     have H2:=Lib.hid h1;have HB2:=Lib.hid (HB.out.trans hb1)
     clear h1 hb1
     go_wp2
     go_roundw
     case rel=>exact ⟨k+1,by omega,by go_num,by rw [HQ.out,HC.out];exact H2.out,HB2.out⟩
     case measure=>simp [intOf];omega
    ·rw [h1,h2]
     have HC:=Lib.hid h3
     clear h1 h2 h3
     have hd:(d.toNat:Int)≤255:=by have:=d.toNat_lt;omega
     go_wp2_with fail
     refine (writeByte_n w.heap.size w.heap.size _ 92 92 (by decide) _ HI.out (by simp;omega) HB.out.size).mono ?_
     rintro e w2 ⟨rfl,h1,hb1⟩
     have H2:=Lib.hid h1;have HB2:=Lib.hid (HB.out.trans hb1)
     clear h1 hb1
     go_wp2_with fail
     refine (writeByte_n w.heap.size w.heap.size _ d _ rfl _ H2.out (by simp;omega) HB2.out.size).mono ?_
     rintro e w3 ⟨rfl,h1,hb1⟩
     have H3:=Lib.hid h1;have HB3:=Lib.hid (HB2.out.trans hb1)
     clear h1 hb1
     go_wp2
     go_roundw
     case rel=>exact ⟨k+1,by omega,by go_num,by rw [HQ.out,HC.out];have:=H3.out;simpa using this,HB3.out⟩
     case measure=>simp [intOf];omega
   ·obtain rfl:k=s.size:=by omega
    go_wp2_with fail
    refine (writeByte_n w.heap.size w.heap.size _ 34 34 (by decide) _ HI.out (by simp;omega) HB.out.size).mono ?_
    rintro e w2 ⟨rfl,h1,hb1⟩
    have H2:=Lib.hid h1;have HB2:=Lib.hid (HB.out.trans hb1)
    clear h1 hb1
    go_wp2_with fail
    refine (bString w.heap.size w.heap.size _ _ H2.out HB2.out.size).mono ?_
    rintro e w3 ⟨rfl,hb3⟩
    have HB3:=Lib.hid (HB2.out.trans hb3)
    clear hb3
    go_wp2
    go_ret
    refine ⟨?_,HB3.out⟩
    unfold quoteT quoteL
    rw [if_pos HT.out,List.take_of_length_le (by simp)]
    rfl
end Go.Proofs.YtegdjjjpoahamaaGreatDoor
