/-
  Several texts of the proof in one file: CallH, Case, Same8, CallS, CallS1, CallS2, CallS3, CallS4, CallSA.
-/
import Derived.Test.YthillfgjpalpcaaGreatDoorBaseG
import Derived.Test.YthillfgjpalpcaaGreatDoorBaseVS
import Derived.Test.YthillfgjpalpcaaGreatDoorGFr
import Derived.Lib.AppendStr
import Derived.Laws.IdiomStrings
import Derived.Laws.BytesArg
import Derived.Deep.QuietTactic
import Derived.BigQuiet
set_option linter.unusedVariables false
set_option maxHeartbeats 4000000
set_option maxRecDepth 100000
namespace Go.Proofs.YthillfgjpalpcaaGreatDoor
open Go.RowKit
theorem own_lit1 (w w':World) (k m:Int) (s:ByteArray) (hb:Below w.heap.size w w'):(w'.alloc (.cells #[.int .i64 k, .string s, .int .i64 m] 44)).ownsRow w.heap.size 44 3 (.slice (some ⟨w'.heap.size,0,none⟩) 1 1) [((k,s,m):Cl)].length (flatC [((k,s,m):Cl)]):=
 World.ownsRow_lit (base:=w.heap.size) w' #[.int .i64 k, .string s, .int .i64 m] 1 hb.size (by unfold maxLen;omega) rfl
theorem l9Number_any (t b:Int) (w:World):
  Calls Tryz.prog 69 #[.agg #[.int .i64 t, .int .i64 b]] w (NewCells (numV t b) w):=by
 go_enter Tryz.func69,Tryz.ntmps69
 go_wp2_with fail
 refine (fractionText_spec t b _).mono ?_
 rintro e w1 ⟨rfl,hb1⟩
 have HB:=zz (show Below w.heap.size w w1 from by first|exact hb1|exact ((Below.refl _ w).alloc (Nat.le_refl _) _).trans (hb1.mono (by simp)))
 clear hb1
 go_wp2
 go_ret
 exact ⟨_,rfl,own_lit1 w w1 1 0 _ HB.out,HB.out.alloc HB.out.size _⟩
theorem l9Truth_any (b:Bool) (w:World):
  Calls Tryz.prog 67 #[.bool b] w (NewCells (truV b) w):=by
 cases b<;>
 ·go_enter Tryz.func67,Tryz.ntmps67
  go_wp2
  go_ret
  exact ⟨_,rfl,own_lit1 w w 3 0 _ (Below.refl _ _),(Below.refl _ _).alloc (Nat.le_refl _) _⟩
theorem texO_yes {s:ByteArray} (h:okV [(2,s,0)]=true):texO s=some [(2,s,0)]:=by unfold texO;rw [if_pos h]
theorem texO_no {s:ByteArray} (h:okV [(2,s,0)]=false):texO s=none:=by unfold texO;rw [if_neg (by rw [h];decide)]
theorem l9Text_any (s:ByteArray) (w:World) (hs:s.size≤1048576):
  Calls Tryz.prog 97 #[.string s] w (NewCB ((texO s).getD []) (texO s).isSome w):=by
 have HO:=zz (own_lit1 w w 2 0 s (Below.refl _ _))
 have HB0:=zz (show Below w.heap.size w (w.alloc (.cells #[.int .i64 2, .string s, .int .i64 0] 44)) from (Below.refl _ _).alloc (Nat.le_refl _) _)
 have HZ:=zz (show ShortC [((2:Int),s,(0:Int))] from fun c hc=>by rw [List.mem_singleton] at hc;subst hc;exact hs)
 go_enter Tryz.func97,Tryz.ntmps97
 go_wp2_with fail
 refine (valueValid_spec _ [(2,s,0)] _ (RowC.of_own HO.out).1 HZ.out (by simp)).mono ?_
 rintro e w1 ⟨rfl,hb1⟩
 have HO1:=zz (own_belowS HO.out hb1)
 have HB1:=zz (HB0.out.trans (hb1.mono HB0.out.size));clear hb1
 cases hok:okV [(2,s,0)] with
 |true=>
  have HT:=zz (texO_yes hok)
  clear hok
  go_wp2
  exact bodyPost_ret (v:= .tuple #[_, .bool true]) (by simp [results,Tryz.results97,go_sem];rfl) rfl ⟨_,by rw [HT.out];rfl,by rw [HT.out];exact HO1.out,HB1.out⟩
 |false=>
  have HT:=zz (texO_no hok)
  clear hok
  go_wp2
  exact bodyPost_ret (v:= .tuple #[.slice (some ⟨w1.heap.size,0,none⟩) 0 0, .bool false]) (by simp [results,Tryz.results97,go_sem]) rfl (by rw [HT.out];exact NewCB.none _ _ HB1.out)
def kindsB (ls:List (List Cl)) (k:Int):Bool:=ls.all fun l=>kdV l==k
theorem l9Kinds_any (v:Value) (ls:List (List Cl)) (n:Int) (w:World) (hr:RowLs w v ls) (h0: ∀l∈ls,0<l.length):
  Calls Tryz.prog 104 #[v, .int .i64 n] w fun e w'=>e= .returned (.bool (kindsB ls n))∧w=w':=by
 obtain ⟨ao,cap,rfl,h1,h2,h3⟩:=hr
 unfold maxLen at h2
 have H3:=zz h3;have H0:=zz h0
 clear h3 h0
 go_enter Tryz.func104,Tryz.ntmps104
 go_wp2_with fail
 go_loop [5] (fun i=> ∃k:Nat,k≤ls.length∧i= .int .i64 (k:Int)∧ ∀j (h:j<ls.length),j<k→kdV ls[j]=n) (fun i=>ls.length-(intOf i).toNat)
 case atStart=>exact ⟨0,Nat.zero_le _,rfl,fun j _ h=>by omega⟩
 case round=>
  obtain ⟨k,hk,rfl,hok⟩:=hrel
  have HK:=zz hok;clear hok
  by_cases hlt:k<ls.length
  ·obtain ⟨b,o,rfl,hbl,cc⟩:=H3.out.resolve_left (by rintro rfl;simp at hlt)
   obtain ⟨u,c0,hru⟩:=cc k hlt
   have hl0:=H0.out _ (List.getElem_mem hlt)
   obtain ⟨ub,uo,ucap,rfl,g1,g2,hub,g3⟩: ∃ub uo ucap,u= .slice (some ⟨ub,uo,none⟩) ls[k].length ucap∧ls[k].length≤ucap∧ucap≤maxLen∧ub<w.heap.size∧w.cell? ⟨ub,uo,none⟩=some (.int .i64 (kdV ls[k])):=by
    obtain ⟨a2,cp2,rfl,g1,g2,g3⟩:=hru
    obtain ⟨b2,o2,rfl,hb2,c2⟩:=g3.resolve_left (by intro e;rw [e] at hl0;simp at hl0)
    obtain ⟨x0,-,-⟩:=c2 0 hl0
    rw [Nat.zero_mul,Nat.add_zero] at x0
    refine ⟨b2,o2,cp2,rfl,g1,g2,hb2,x0.trans ?_⟩
    rw [kdV,List.getElem?_eq_getElem hl0];rfl
   unfold maxLen at g2
   clear cc hru
   by_cases he:kdV ls[k]=n
   ·have HN:=zz (show∀j (h:j<ls.length),j<k+1→kdV ls[j]=n from fun j h hj=>by
     by_cases hjk:j=k
     ·subst hjk;exact he
     ·exact HK.out j h (by omega))
    have t0:(kdV ls[k] !=n)=false:=by rw [he];simp
    clear he
    generalize kdV ls[k]=kk at g3 t0
    generalize ls[k].length=lk at hl0 g1 c0
    go_wp2
    go_round
    case rel=>exact ⟨k+1,by omega,by go_num,HN.out⟩
    case measure=>simp [intOf];omega
   ·have hB:kindsB ls n=false:=by
     rw [kindsB,List.all_eq_false]
     exact ⟨_,List.getElem_mem hlt,by rw [beq_iff_eq];exact he⟩
    have t0:(kdV ls[k] !=n)=true:=bne_iff_ne.mpr he
    clear he
    generalize kdV ls[k]=kk at g3 t0
    generalize ls[k].length=lk at hl0 g1 c0
    go_wp2
    go_ret
    exact ⟨by first|rfl|(rw [hB];rfl),rfl⟩
  ·obtain rfl:k=ls.length:=by omega
   have hB:kindsB ls n=true:=by
    rw [kindsB,List.all_eq_true]
    intro l hl
    obtain ⟨j,hj,rfl⟩:=List.getElem_of_mem hl
    rw [beq_iff_eq];exact HK.out j hj hj
   go_wp2
   go_ret
   exact ⟨by first|rfl|(rw [hB];rfl),rfl⟩
theorem infoByte9:(Tryz.prog.info? 5).map (fun i=>(i.zero,i.size,i.bytes))=some (some (.int .u8 0),1,1):=by kernel_rfl
theorem conv_own9 {w:World} {base g n cap:Nat} {s:ByteArray} (h:w.ownsRow base 5 1 (.slice (some ⟨g,0,none⟩) n cap) n (Lib.strCells s)):
  (convert 37 9 (.slice (some ⟨g,0,none⟩) n cap)).run Tryz.prog w= .ok (.string s) w:=by
 have hl:n=s.data.toList.length:=by have:=h.1;rw [Lib.strCells_length] at this;simp;show n=s.size;omega
 subst hl
 rw [run_convert_bytes_back (P:=Tryz.prog) w 37 9 5 ⟨g,0,none⟩ cap s.data.toList Tryz.underlying37 Tryz.underlying5 Tryz.underlying9 ?_]
 intro j hj
 have hadd:(⟨g,0,none⟩:Addr).add j=⟨g,j,none⟩:=by unfold Addr.add;split<;>simp_all
 rw [hadd,h.cellAt j (by omega)]
 simp only [Lib.strCells,List.getElem?_map,List.getElem?_eq_getElem hj,Option.map_some]
theorem conv_nil9 (w:World):(convert 37 9 (.slice none 0 0)).run Tryz.prog w= .ok (.string ⟨#[]⟩) w:=
 run_convert_bytes_nil (P:=Tryz.prog) w 37 5 Tryz.underlying37 Tryz.underlying5 0 0 9 Tryz.underlying9
def accF (f:UInt8→UInt8) (s:ByteArray) (k:Nat):ByteArray:=mapB f (s.extract 0 k)
theorem accF_size (f:UInt8→UInt8) (s:ByteArray) (k:Nat) (h:k≤s.size):(accF f s k).size=k:=by
 rw [accF,mapB_size,ByteArray.size_extract];omega
theorem accF_all (f:UInt8→UInt8) (s:ByteArray):accF f s s.size=mapB f s:=by
 rw [accF,ByteArray.extract_zero_size]
theorem extract_bytes9 (s:ByteArray) (a b:Nat):(s.extract a b).data.toList=(s.data.toList.take b).drop a:=by
 simp [ByteArray.data_extract,List.extract,List.drop_take]
theorem accF_next (f:UInt8→UInt8) (s:ByteArray) (k:Nat) (h:k<s.size):Lib.strCells (accF f s (k+1))=Lib.strCells (accF f s k)++[.int .u8 ((f s[k]).toNat:Int)]:=by
 have e:(s.extract 0 (k+1)).data.toList=(s.extract 0 k).data.toList++[s[k]]:=by
  rw [extract_bytes9,extract_bytes9,List.drop_zero,List.drop_zero,List.take_succ_eq_append_getElem (by simpa using h)]
  rfl
 have e2:(accF f s (k+1)).data.toList=(accF f s k).data.toList++[f s[k]]:=by
  simp only [accF,mapB,e,List.map_append,List.map_cons,List.map_nil]
 simp only [Lib.strCells,e2,List.map_append,List.map_cons,List.map_nil]
theorem l9Case_any (s:ByteArray) (lo hi:Nat) (mv:Int) (f:UInt8→UInt8) (w:World) (hs:s.size≤1048576) (hm: -100≤mv∧mv≤100)
  (hin: ∀c:UInt8,lo≤c.toNat→c.toNat≤hi→((f c).toNat:Int)=(c.toNat:Int)+mv) (hout: ∀c:UInt8,¬(lo≤c.toNat∧c.toNat≤hi)→f c=c):
  Calls Tryz.prog 105 #[.string s, .int .u8 (lo:Int), .int .u8 (hi:Int), .int .i64 mv] w fun e w'=>e= .returned (.string (mapB f s))∧Below w.heap.size w w':=by
 obtain ⟨i0,hi0,hz0,hz1,hz2⟩:=info_parts infoByte9
 obtain ⟨hm1,hm2⟩:=hm
 have HIN:=zz hin;have HOUT:=zz hout;clear hin hout
 have O0:=zz (show (w.alloc (.cells #[] 5)).ownsRow w.heap.size 5 1 (.slice (some ⟨w.heap.size,0,none⟩) 0 0) (accF f s 0).size (Lib.strCells (accF f s 0)) by
  have h:=World.ownsRow_lit (e:=5) (size:=1) (base:=w.heap.size) w #[] 0 (Nat.le_refl _) (by unfold maxLen;omega) rfl
  have e:accF f s 0=⟨#[]⟩:=by
   apply ByteArray.ext;apply Array.eq_empty_of_size_eq_zero;exact accF_size f s 0 (Nat.zero_le _)
  rw [e];exact h)
 go_enter Tryz.func105,Tryz.ntmps105
 go_wp2_with fail
 go_loopw [9,10] (fun a i wr=> ∃k:Nat,k≤s.size∧i= .int .i64 (k:Int)∧wr.ownsRow w.heap.size 5 1 a (accF f s k).size (Lib.strCells (accF f s k))∧Below w.heap.size w wr) (fun _ i _=>s.size-(intOf i).toNat)
 case atStart=>exact ⟨0,Nat.zero_le _,rfl,O0.out,(Below.refl _ _).alloc (Nat.le_refl _) _⟩
 case round=>
  obtain ⟨k,hk,rfl,hown,hb⟩:=hrel
  have HB:=zz hb;clear hb
  have hz:=accF_size f s k hk
  rw [hz] at hown
  clear hz
  obtain ⟨va,vc,hv,hvc⟩: ∃va vc,u9= .slice va k vc∧vc≤maxLen:=by
   rcases hown.2 with ⟨r1,r2⟩|⟨g,c,cur,r1,_,_,_,r2,_⟩
   ·exact ⟨none,0,by rw [r1,r2],by unfold maxLen;omega⟩
   ·exact ⟨_,c,r1,r2⟩
  subst hv
  have hbs:=HB.out.size
  by_cases hlt:k<s.size
  ·have hb0:(s[k].toNat:Int)≤255:=by have:=s[k].toNat_lt;omega
   have HAC:=zz (accF_next f s k hlt)
   have HSZ:=zz (accF_size f s (k+1) (by omega))
   by_cases hr:lo≤s[k].toNat∧s[k].toNat≤hi
   ·obtain ⟨hr1,hr2⟩:=hr
    have HF:=zz (HIN.out s[k] hr1 hr2)
    have hf0:(0:Int)≤(s[k].toNat:Int)+mv:=by rw [←HF.out];omega
    have hf1:(s[k].toNat:Int)+mv≤255:=by rw [←HF.out];have:=(f s[k]).toNat_lt;omega
    have t1:(lo:Int)≤(s[k].toNat:Int):=by omega
    have t2:(s[k].toNat:Int)≤(hi:Int):=by omega
    clear hr1 hr2
    go_wp2_with (at_builtin;refine wpList_append_own _ rfl _ _ 37 rfl w.heap.size 5 i0 (.int .u8 0) 1 1 Tryz.underlying37 hi0 hz0 hz1 hz2 rfl (by decide) _ _ _ rfl (hown.alloc _) ⟨wr.heap.size,0,none⟩ 1 1 [.int .u8 ((s[k].toNat:Int)+mv)] rfl rfl (cell_one_new _ _ _) (ints_oneCell .u8 [(s[k].toNat:Int)+mv]) (by unfold maxLen;omega) (by omega) (by simp;omega) ?_;intro v2 w2 hown2 hgrow2 hnil2)
    have HO2:=zz (show w2.ownsRow w.heap.size 5 1 v2 (accF f s (k+1)).size (Lib.strCells (accF f s (k+1))) by rw [HSZ.out,HAC.out,HF.out];exact hown2)
    have HB2:=zz ((HB.out.alloc hbs _).grown hgrow2 (by simp;omega) (fun q hq=>(hown.lt q hq).1))
    clear hown2 hgrow2
    go_roundw
    case rel=>exact ⟨k+1,by omega,by go_num,HO2.out,HB2.out⟩
    case measure=>simp [intOf];omega
   ·have HF:=zz (HOUT.out s[k] hr)
    rw [HF.out] at HAC
    by_cases hr1:lo≤s[k].toNat
    ·have t1:(lo:Int)≤(s[k].toNat:Int):=by omega
     have t2: ¬(s[k].toNat:Int)≤(hi:Int):=by omega
     clear hr hr1
     go_wp2_with (at_builtin;refine wpList_append_own _ rfl _ _ 37 rfl w.heap.size 5 i0 (.int .u8 0) 1 1 Tryz.underlying37 hi0 hz0 hz1 hz2 rfl (by decide) _ _ _ rfl (hown.alloc _) ⟨wr.heap.size,0,none⟩ 1 1 [.int .u8 (s[k].toNat:Int)] rfl rfl (cell_one_new _ _ _) (ints_oneCell .u8 [(s[k].toNat:Int)]) (by unfold maxLen;omega) (by omega) (by simp;omega) ?_;intro v2 w2 hown2 hgrow2 hnil2)
     have HO2:=zz (show w2.ownsRow w.heap.size 5 1 v2 (accF f s (k+1)).size (Lib.strCells (accF f s (k+1))) by rw [HSZ.out,HAC.out];exact hown2)
     have HB2:=zz ((HB.out.alloc hbs _).grown hgrow2 (by simp;omega) (fun q hq=>(hown.lt q hq).1))
     clear hown2 hgrow2
     go_roundw
     case rel=>exact ⟨k+1,by omega,by go_num,HO2.out,HB2.out⟩
     case measure=>simp [intOf];omega
    ·have t1: ¬(lo:Int)≤(s[k].toNat:Int):=by omega
     clear hr hr1
     go_wp2_with (at_builtin;refine wpList_append_own _ rfl _ _ 37 rfl w.heap.size 5 i0 (.int .u8 0) 1 1 Tryz.underlying37 hi0 hz0 hz1 hz2 rfl (by decide) _ _ _ rfl (hown.alloc _) ⟨wr.heap.size,0,none⟩ 1 1 [.int .u8 (s[k].toNat:Int)] rfl rfl (cell_one_new _ _ _) (ints_oneCell .u8 [(s[k].toNat:Int)]) (by unfold maxLen;omega) (by omega) (by simp;omega) ?_;intro v2 w2 hown2 hgrow2 hnil2)
     have HO2:=zz (show w2.ownsRow w.heap.size 5 1 v2 (accF f s (k+1)).size (Lib.strCells (accF f s (k+1))) by rw [HSZ.out,HAC.out];exact hown2)
     have HB2:=zz ((HB.out.alloc hbs _).grown hgrow2 (by simp;omega) (fun q hq=>(hown.lt q hq).1))
     clear hown2 hgrow2
     go_roundw
     case rel=>exact ⟨k+1,by omega,by go_num,HO2.out,HB2.out⟩
     case measure=>simp [intOf];omega
  ·obtain rfl:k=s.size:=by omega
   have hown':wr.ownsRow w.heap.size 5 1 (.slice va s.size vc) s.size (Lib.strCells (mapB f s)):=by rw [←accF_all];exact hown
   have hconv:(convert 37 9 (.slice va s.size vc)).run Tryz.prog wr= .ok (.string (mapB f s)) wr:=by
    rcases hown'.2 with ⟨r1,r2⟩|⟨g,c,cur,r1,_⟩
    ·rw [r1]
     have:mapB f s=⟨#[]⟩:=by
      apply ByteArray.ext;apply Array.eq_empty_of_size_eq_zero
      have:=mapB_size f s;rw [r2] at this;exact this
     rw [this];exact conv_nil9 wr
    ·injection r1 with r1 _ r3
     subst r1;subst r3
     exact conv_own9 hown'
   clear hown hown'
   go_wp2
   go_ret
   exact ⟨rfl,HB.out⟩
theorem up_in (c:UInt8) (h1:97≤c.toNat) (h2:c.toNat≤122):((upC c).toNat:Int)=(c.toNat:Int)+(-32):=by
 rw [upC,if_pos ⟨h1,h2⟩,UInt8.toNat_sub_of_le _ _ (by rw [UInt8.le_iff_toNat_le];show 32≤c.toNat;omega)]
 show ((c.toNat-32:Nat):Int)=_;omega
theorem up_out (c:UInt8) (h: ¬(97≤c.toNat∧c.toNat≤122)):upC c=c:=by rw [upC,if_neg h]
theorem lo_in (c:UInt8) (h1:65≤c.toNat) (h2:c.toNat≤90):((loC c).toNat:Int)=(c.toNat:Int)+32:=by
 rw [loC,if_pos ⟨h1,h2⟩,UInt8.toNat_add]
 show (((c.toNat+32) % 256:Nat):Int)=_;omega
theorem lo_out (c:UInt8) (h: ¬(65≤c.toNat∧c.toNat≤90)):loC c=c:=by rw [loC,if_neg h]
theorem beq_list (a b:ByteArray):(a.toList==b.toList)=decide (a=b):=by
 by_cases h:a=b
 ·subst h;simp
 ·rw [decide_eq_false h,beq_eq_false_iff_ne,ByteArray.toList_eq,ByteArray.toList_eq]
  intro e;exact h (ByteArray.ext (by simpa using e))
theorem l8Same_q (v1 v2:Value) (l1 l2:List Cl) (w:World) (h1:RowC w v1 l1) (h2:RowC w v2 l2):
  Calls Tryz.prog 96 #[v1,v2] w fun e w'=>e= .returned (.bool (decide (l1=l2)))∧ ∃n,w'=w.drewN n:=by
 obtain ⟨a1,c1,rfl,p1,q1,r1⟩:=h1
 obtain ⟨a2,c2,rfl,p2,q2,r2⟩:=h2
 unfold maxLen at q1 q2
 have R1:=zz r1;have R2:=zz r2
 clear r1 r2
 by_cases hlen:l1.length=l2.length
 case neg=>
  have hD:=decide_eq_false (show¬l1=l2 from fun e=>hlen (by rw [e]))
  have hne:((l1.length:Int) !=(l2.length:Int))=true:=bne_iff_ne.mpr (by omega)
  go_enter Tryz.func96,Tryz.ntmps96
  go_wp2
  go_ret
  exact ⟨by rw [hD];rfl,0,rfl⟩
 go_enter Tryz.func96,Tryz.ntmps96
 have hne:((l1.length:Int) !=(l2.length:Int))=false:=by rw [hlen];simp
 go_wp2_with fail
 go_loopw [5] (fun i wr=> ∃k:Nat,k≤l1.length∧i= .int .i64 (k:Int)∧(∀j (h:j<l1.length) (h':j<l2.length),j<k→l1[j]=l2[j])∧ ∃n,wr=w.drewN n) (fun i _=>l1.length-(intOf i).toNat)
 case atStart=>exact ⟨0,Nat.zero_le _,rfl,fun j _ _ h=>by omega,0,rfl⟩
 case round=>
  obtain ⟨k,hk,rfl,hsame,hn⟩:=hrel
  have HN0:=zz hn
  have HB:=zz (show Below w.heap.size w wr by obtain ⟨n,rfl⟩:=hn;exact ⟨rfl,rfl,rfl,Nat.le_refl _,fun _ _=>rfl⟩);have HS:=zz hsame;clear hn hsame
  by_cases hlt:k<l1.length
  ·have hlt2:k<l2.length:=by omega
   obtain ⟨b1,o1,rfl,hl1,cc1⟩:=R1.out.resolve_left (by rintro rfl;simp at hlt)
   obtain ⟨b2,o2,rfl,hl2,cc2⟩:=R2.out.resolve_left (by rintro rfl;simp at hlt2)
   obtain ⟨x0,x1,x2⟩:=cc1 k hlt
   obtain ⟨y0,y1,y2⟩:=cc2 k hlt2
   have d0:=(HB.out.cell (p:=⟨b1,_,none⟩) hl1).trans x0
   have d1:=(HB.out.cell (p:=⟨b1,_,none⟩) hl1).trans x1
   have d2:=(HB.out.cell (p:=⟨b1,_,none⟩) hl1).trans x2
   have e0:=(HB.out.cell (p:=⟨b2,_,none⟩) hl2).trans y0
   have e1:=(HB.out.cell (p:=⟨b2,_,none⟩) hl2).trans y1
   have e2:=(HB.out.cell (p:=⟨b2,_,none⟩) hl2).trans y2
   have HNX:=zz (show l1[k]=l2[k]→ ∀j (h:j<l1.length) (h':j<l2.length),j<k+1→l1[j]=l2[j] from fun e j h h' hj=>by
    by_cases hjk:j=k
    ·subst hjk;exact e
    ·exact HS.out j h h' (by omega))
   have HNO:=zz (show l1[k]≠l2[k]→decide (l1=l2)=false from fun e=>decide_eq_false (by rintro rfl;exact e rfl))
   have HEX:=zz (show l1[k].1=l2[k].1→l1[k].2.1=l2[k].2.1→l1[k].2.2=l2[k].2.2→l1[k]=l2[k] from fun a b c=>Prod.ext a (Prod.ext b c))
   clear cc1 cc2 x0 x1 x2 y0 y1 y2
   have b1:=beq_list l1[k].2.1 l2[k].2.1
   by_cases g0:l1[k].1=l2[k].1
   ·by_cases g1:l1[k].2.1=l2[k].2.1
    ·by_cases g2:l1[k].2.2=l2[k].2.2
     ·have HN:=zz (HNX.out (HEX.out g0 g1 g2))
      rw [←g0] at e0;rw [←g1] at e1;rw [←g2] at e2
      clear HNX HNO HEX g0 g1 g2 b1
      generalize l1[k].1=kk at d0 e0
      generalize l1[k].2.1=ss at d1 e1
      generalize l1[k].2.2=mm at d2 e2
      go_wp2_with fail
      go_quiet (fail)
      have HQ:=zz (show∃n,wr.drewN nq=w.drewN n by obtain ⟨n,h⟩:=HN0.out;exact ⟨n+nq,by rw [h,World.drewN_drewN]⟩)
      go_wp2
      go_roundw
      case rel=>exact ⟨k+1,by omega,by go_num,HN.out,HQ.out⟩
      case measure=>simp [intOf];omega
     ·have HN:=zz (HNO.out (fun e=>g2 (by rw [e])))
      have t2:(l1[k].2.2==l2[k].2.2)=false:=by rw [beq_eq_false_iff_ne];exact g2
      rw [←g0] at e0;rw [←g1] at e1
      clear HNX HNO HEX g0 g1 g2 b1
      generalize l1[k].1=kk at d0 e0
      generalize l1[k].2.1=ss at d1 e1
      generalize l1[k].2.2=mm at d2 t2
      generalize l2[k].2.2=mm2 at e2 t2
      go_wp2_with fail
      go_quiet (fail)
      have HQ:=zz (show∃n,wr.drewN nq=w.drewN n by obtain ⟨n,h⟩:=HN0.out;exact ⟨n+nq,by rw [h,World.drewN_drewN]⟩)
      go_wp2
      go_ret
      exact ⟨by rw [HN.out];rfl,HQ.out⟩
    ·have HN:=zz (HNO.out (fun e=>g1 (by rw [e])))
     have t1:(l1[k].2.1.toList==l2[k].2.1.toList)=false:=by rw [b1];exact decide_eq_false g1
     rw [←g0] at e0
     clear HNX HNO HEX g0 g1 b1
     generalize l1[k].1=kk at d0 e0
     generalize l1[k].2.1=ss at d1 t1
     generalize l2[k].2.1=ss2 at e1 t1
     generalize l1[k].2.2=mm at d2
     generalize l2[k].2.2=mm2 at e2
     go_wp2_with fail
     go_quiet (fail)
     have HQ:=zz (show∃n,wr.drewN nq=w.drewN n by obtain ⟨n,h⟩:=HN0.out;exact ⟨n+nq,by rw [h,World.drewN_drewN]⟩)
     go_wp2
     go_ret
     exact ⟨by rw [HN.out];rfl,HQ.out⟩
   ·have HN:=zz (HNO.out (fun e=>g0 (by rw [e])))
    have t0:(l1[k].1==l2[k].1)=false:=by rw [beq_eq_false_iff_ne];exact g0
    clear HNX HNO HEX g0 b1
    generalize l1[k].1=kk at d0 t0
    generalize l2[k].1=kk2 at e0 t0
    generalize l1[k].2.1=ss at d1
    generalize l2[k].2.1=ss2 at e1
    generalize l1[k].2.2=mm at d2
    generalize l2[k].2.2=mm2 at e2
    go_wp2_with fail
    go_quiet (fail)
    have HQ:=zz (show∃n,wr.drewN nq=w.drewN n by obtain ⟨n,h⟩:=HN0.out;exact ⟨n+nq,by rw [h,World.drewN_drewN]⟩)
    go_wp2
    go_ret
    exact ⟨by rw [HN.out];rfl,HQ.out⟩
  ·obtain rfl:k=l1.length:=by omega
   have hD:=decide_eq_true (show l1=l2 from List.ext_getElem hlen fun j h h'=>HS.out j h h' (by omega))
   go_wp2
   go_ret
   exact ⟨by rw [hD];rfl,HN0.out⟩
theorem l8Same_any (v1 v2:Value) (l1 l2:List Cl) (w:World) (h1:RowC w v1 l1) (h2:RowC w v2 l2):
  Calls Tryz.prog 96 #[v1,v2] w fun e w'=>e= .returned (.bool (decide (l1=l2)))∧Below w.heap.size w w':=
 (l8Same_q v1 v2 l1 l2 w h1 h2).mono fun e w' ⟨he,n,hn⟩=>⟨he,by subst hn;exact ⟨rfl,rfl,rfl,Nat.le_refl _,fun _ _=>rfl⟩⟩
theorem toList_ne {nm:ByteArray} {l:List UInt8} (h:nm≠⟨l.toArray⟩): ¬nm.toList=l:=by
 rw [ByteArray.toList_eq]
 intro e;exact h (ByteArray.ext (by rw [←e]))
theorem isLength {nm:ByteArray} (h:nm=nmLength):nm.toList=[108,101,110,103,116,104]∧ ¬nm.toList=[117,112,112,101,114]∧ ¬nm.toList=[108,111,119,101,114]∧ ¬nm.toList=[109,105,110]∧ ¬nm.toList=[109,97,120]∧ ¬nm.toList=[102,105,114,115,116]∧ ¬nm.toList=[114,101,118,101,114,115,101]∧ ¬nm.toList=[99,111,110,116,97,105,110,115]∧ ¬nm.toList=[106,111,105,110]:=by
 subst h;decide+kernel
theorem isUpper {nm:ByteArray} (h:nm=nmUpper): ¬nm.toList=[108,101,110,103,116,104]∧nm.toList=[117,112,112,101,114]∧ ¬nm.toList=[108,111,119,101,114]∧ ¬nm.toList=[109,105,110]∧ ¬nm.toList=[109,97,120]∧ ¬nm.toList=[102,105,114,115,116]∧ ¬nm.toList=[114,101,118,101,114,115,101]∧ ¬nm.toList=[99,111,110,116,97,105,110,115]∧ ¬nm.toList=[106,111,105,110]:=by
 subst h;decide+kernel
theorem isLower {nm:ByteArray} (h:nm=nmLower): ¬nm.toList=[108,101,110,103,116,104]∧ ¬nm.toList=[117,112,112,101,114]∧nm.toList=[108,111,119,101,114]∧ ¬nm.toList=[109,105,110]∧ ¬nm.toList=[109,97,120]∧ ¬nm.toList=[102,105,114,115,116]∧ ¬nm.toList=[114,101,118,101,114,115,101]∧ ¬nm.toList=[99,111,110,116,97,105,110,115]∧ ¬nm.toList=[106,111,105,110]:=by
 subst h;decide+kernel
theorem isMin {nm:ByteArray} (h:nm=nmMin): ¬nm.toList=[108,101,110,103,116,104]∧ ¬nm.toList=[117,112,112,101,114]∧ ¬nm.toList=[108,111,119,101,114]∧nm.toList=[109,105,110]∧ ¬nm.toList=[109,97,120]∧ ¬nm.toList=[102,105,114,115,116]∧ ¬nm.toList=[114,101,118,101,114,115,101]∧ ¬nm.toList=[99,111,110,116,97,105,110,115]∧ ¬nm.toList=[106,111,105,110]:=by
 subst h;decide+kernel
theorem isMax {nm:ByteArray} (h:nm=nmMax): ¬nm.toList=[108,101,110,103,116,104]∧ ¬nm.toList=[117,112,112,101,114]∧ ¬nm.toList=[108,111,119,101,114]∧ ¬nm.toList=[109,105,110]∧nm.toList=[109,97,120]∧ ¬nm.toList=[102,105,114,115,116]∧ ¬nm.toList=[114,101,118,101,114,115,101]∧ ¬nm.toList=[99,111,110,116,97,105,110,115]∧ ¬nm.toList=[106,111,105,110]:=by
 subst h;decide+kernel
theorem isFirst {nm:ByteArray} (h:nm=nmFirst): ¬nm.toList=[108,101,110,103,116,104]∧ ¬nm.toList=[117,112,112,101,114]∧ ¬nm.toList=[108,111,119,101,114]∧ ¬nm.toList=[109,105,110]∧ ¬nm.toList=[109,97,120]∧nm.toList=[102,105,114,115,116]∧ ¬nm.toList=[114,101,118,101,114,115,101]∧ ¬nm.toList=[99,111,110,116,97,105,110,115]∧ ¬nm.toList=[106,111,105,110]:=by
 subst h;decide+kernel
theorem isReverse {nm:ByteArray} (h:nm=nmReverse): ¬nm.toList=[108,101,110,103,116,104]∧ ¬nm.toList=[117,112,112,101,114]∧ ¬nm.toList=[108,111,119,101,114]∧ ¬nm.toList=[109,105,110]∧ ¬nm.toList=[109,97,120]∧ ¬nm.toList=[102,105,114,115,116]∧nm.toList=[114,101,118,101,114,115,101]∧ ¬nm.toList=[99,111,110,116,97,105,110,115]∧ ¬nm.toList=[106,111,105,110]:=by
 subst h;decide+kernel
theorem isContains {nm:ByteArray} (h:nm=nmContains): ¬nm.toList=[108,101,110,103,116,104]∧ ¬nm.toList=[117,112,112,101,114]∧ ¬nm.toList=[108,111,119,101,114]∧ ¬nm.toList=[109,105,110]∧ ¬nm.toList=[109,97,120]∧ ¬nm.toList=[102,105,114,115,116]∧ ¬nm.toList=[114,101,118,101,114,115,101]∧nm.toList=[99,111,110,116,97,105,110,115]∧ ¬nm.toList=[106,111,105,110]:=by
 subst h;decide+kernel
theorem isJoin {nm:ByteArray} (h:nm=nmJoin): ¬nm.toList=[108,101,110,103,116,104]∧ ¬nm.toList=[117,112,112,101,114]∧ ¬nm.toList=[108,111,119,101,114]∧ ¬nm.toList=[109,105,110]∧ ¬nm.toList=[109,97,120]∧ ¬nm.toList=[102,105,114,115,116]∧ ¬nm.toList=[114,101,118,101,114,115,101]∧ ¬nm.toList=[99,111,110,116,97,105,110,115]∧nm.toList=[106,111,105,110]:=by
 subst h;decide+kernel
theorem isOther {nm:ByteArray} (h:nm≠nmLength∧nm≠nmUpper∧nm≠nmLower∧nm≠nmMin∧nm≠nmMax∧nm≠nmFirst∧nm≠nmReverse∧nm≠nmContains∧nm≠nmJoin): ¬nm.toList=[108,101,110,103,116,104]∧ ¬nm.toList=[117,112,112,101,114]∧ ¬nm.toList=[108,111,119,101,114]∧ ¬nm.toList=[109,105,110]∧ ¬nm.toList=[109,97,120]∧ ¬nm.toList=[102,105,114,115,116]∧ ¬nm.toList=[114,101,118,101,114,115,101]∧ ¬nm.toList=[99,111,110,116,97,105,110,115]∧ ¬nm.toList=[106,111,105,110]:=by
 obtain ⟨h1,h2,h3,h4,h5,h6,h7,h8,h9⟩:=h
 exact ⟨toList_ne h1,toList_ne h2,toList_ne h3,toList_ne h4,toList_ne h5,toList_ne h6,toList_ne h7,toList_ne h8,toList_ne h9⟩
theorem head9 {w:World} {v:Value} {l:List Cl} (h:RowC w v l) (hl:0<l.length): ∃b o cap,v= .slice (some ⟨b,o,none⟩) l.length cap∧l.length≤cap∧cap≤maxLen∧b<w.heap.size∧w.cell? ⟨b,o,none⟩=some (.int .i64 (kdV l))∧w.cell? ⟨b,o+1,none⟩=some (.string (wdV l))∧w.cell? ⟨b,o+2,none⟩=some (.int .i64 (myV l)):=by
 obtain ⟨ao,cap,rfl,h1,h2,h3⟩:=h
 obtain ⟨b,o,rfl,hb,cc⟩:=h3.resolve_left (by rintro rfl;simp at hl)
 obtain ⟨c0,c1,c2⟩:=cc 0 hl
 rw [Nat.zero_mul,Nat.add_zero] at c0 c1 c2
 obtain ⟨c,t,rfl⟩: ∃c t,l=c::t:=by
  cases l with
  |nil=>simp at hl
  |cons c t=>exact ⟨c,t,rfl⟩
 exact ⟨b,o,cap,rfl,h1,h2,hb,c0,c1,c2⟩
theorem at9 {w:World} {b o cap:Nat} {n:Nat} {ls:List (List Cl)} (h:RowLs w (.slice (some ⟨b,o,none⟩) n cap) ls) (k:Nat) (hk:k<ls.length) (h0:0<ls[k].length):
  ∃b2 o2 cap2,w.cell? ⟨b,o+k,none⟩=some (.slice (some ⟨b2,o2,none⟩) ls[k].length cap2)∧ls[k].length≤cap2∧cap2≤maxLen∧b2<w.heap.size∧w.cell? ⟨b2,o2,none⟩=some (.int .i64 (kdV ls[k]))∧w.cell? ⟨b2,o2+1,none⟩=some (.string (wdV ls[k]))∧w.cell? ⟨b2,o2+2,none⟩=some (.int .i64 (myV ls[k]))∧RowC w (.slice (some ⟨b2,o2,none⟩) ls[k].length cap2) ls[k]:=by
 obtain ⟨ao,cap',hv,-,-,h3⟩:=h
 injection hv with h1 h2 h4
 subst h1
 obtain ⟨b',o',he,hb,cc⟩:=h3.resolve_left (by rintro rfl;simp at hk)
 injection he with he;injection he with he1 he2
 subst he1;subst he2
 obtain ⟨u,c0,hr⟩:=cc k hk
 obtain ⟨b2,o2,cap2,rfl,g1,g2,g3,g4,g5,g6⟩:=head9 hr h0
 exact ⟨b2,o2,cap2,c0,g1,g2,g3,g4,g5,g6,hr⟩
theorem some9 {w:World} {v:Value} {ls:List (List Cl)} (h:RowLs w v ls) (hk:0<ls.length): ∃b o cap,v= .slice (some ⟨b,o,none⟩) ls.length cap∧ls.length≤cap∧cap≤maxLen∧b<w.heap.size:=by
 obtain ⟨ao,cap,rfl,h1,h2,h3⟩:=h
 obtain ⟨b,o,rfl,hb,-⟩:=h3.resolve_left (by rintro rfl;simp at hk)
 exact ⟨b,o,cap,rfl,h1,h2,hb⟩
theorem shape9 {w:World} {v:Value} {ls:List (List Cl)} (h:RowLs w v ls): ∃a cap,v= .slice a ls.length cap∧ls.length≤cap∧cap≤maxLen:=by
 obtain ⟨ao,cap,rfl,h1,h2,-⟩:=h
 exact ⟨ao,cap,rfl,h1,h2⟩
theorem pos9 {l:List Cl} (h:okV l=true):0<l.length:=by
 obtain ⟨c,t,rfl⟩:=okV_cons h;simp
theorem word9 {l:List Cl} (h:okV l=true):(wdV l).size≤60:=by
 obtain ⟨c,t,rfl⟩:=okV_cons h
 exact okVC_word (okV_head h)
theorem many9 {l:List Cl} (h:okV l=true):0≤myV l∧myV l≤8:=by
 obtain ⟨c,t,rfl⟩:=okV_cons h
 exact okVC_many (okV_head h)
theorem kinds1 (x:List Cl) (n:Int):kindsB [x] n=(kdV x==n):=by simp [kindsB]
theorem l8Parts_val (v:Value) (l:List Cl) (w:World) (hr:RowC w v l) (hok:okV l=true) (h5:kdV l=5):
  Calls Tryz.prog 98 #[v, .int .i64 0] w (NewSS (partsV l) w):=by
 obtain ⟨h60,hal,d,hd,hx⟩:=(okV_iff l).mp hok
 obtain ⟨m,e,hm,hk,rfl⟩:=hx.inv
 have hp:partsV l=cutL l 1 m:=by
  have e0:(amL l).getD 0 0=m:=by rw [List.getD_eq_getElem?_getD,hm];rfl
  obtain ⟨c,t,hl⟩:=okV_cons hok
  rw [partsV,if_pos ⟨hok,c,t,hl,by rw [hl] at h5;exact h5⟩,e0]
 rw [hp]
 exact l8Parts_any v l w hr (okV_short hok) h60 (allM_ofW (allV_W hal)) m l.length _ hm hk
theorem none9 {nm:ByteArray} {ls:List (List Cl)} (h:callF nm ls=none):callR nm ls=[]∧callOK nm ls=false:=by
 rw [callR,callOK,h];exact ⟨rfl,rfl⟩
theorem some_9 {nm:ByteArray} {ls:List (List Cl)} {r:List Cl} (h:callF nm ls=some r):callR nm ls=r∧callOK nm ls=true:=by
 rw [callR,callOK,h];exact ⟨rfl,rfl⟩
theorem own9 {w:World} {base n size:Nat} {T:TypeId} {v:Value} {xs:List Value} (h:w.ownsRow base T size v n xs): ∃a c,v= .slice a n c:=by
 rcases h.2 with ⟨r1,r2⟩|⟨g,c,cur,r1,-⟩
 ·exact ⟨none,0,by rw [r1,r2]⟩
 ·exact ⟨_,c,r1⟩
theorem l9Call_other (nm:ByteArray) (v:Value) (ls:List (List Cl)) (w:World) (hr:RowLs w v ls) (hok: ∀l∈ls,okV l=true) (hn: ¬nm.toList=[108,101,110,103,116,104]∧ ¬nm.toList=[117,112,112,101,114]∧ ¬nm.toList=[108,111,119,101,114]∧ ¬nm.toList=[109,105,110]∧ ¬nm.toList=[109,97,120]∧ ¬nm.toList=[102,105,114,115,116]∧ ¬nm.toList=[114,101,118,101,114,115,101]∧ ¬nm.toList=[99,111,110,116,97,105,110,115]∧ ¬nm.toList=[106,111,105,110]) (hR:callF nm ls=none):
  Calls Tryz.prog 71 #[.string nm,v] w (NewCB (callR nm ls) (callOK nm ls) w):=by
 have HP:=zz (show∀l∈ls,0<l.length from fun l hl=>pos9 (hok l hl))
 have HOK:=zz hok;have HL:=zz hr
 obtain ⟨ao,cap,rfl,q1,q2⟩:=shape9 hr
 unfold maxLen at q2
 clear hok hr
 obtain ⟨c1,c2,c3,c4,c5,c6,c7,c8,c9⟩:=hn
 have HR:=zz (none9 hR);clear hR
 go_enter Tryz.func71,Tryz.ntmps71
 go_wp2
 exact bodyPost_ret (v:= .tuple #[.slice (some ⟨w.heap.size,0,none⟩) 0 0, .bool false]) (by simp [results,Tryz.results71,go_sem]) rfl (by rw [HR.out.1,HR.out.2];exact NewCB.none w w (Below.refl _ _))
theorem l9Call_length_n (nm:ByteArray) (v:Value) (ls:List (List Cl)) (w:World) (hr:RowLs w v ls) (hok: ∀l∈ls,okV l=true) (hn:nm.toList=[108,101,110,103,116,104]∧ ¬nm.toList=[117,112,112,101,114]∧ ¬nm.toList=[108,111,119,101,114]∧ ¬nm.toList=[109,105,110]∧ ¬nm.toList=[109,97,120]∧ ¬nm.toList=[102,105,114,115,116]∧ ¬nm.toList=[114,101,118,101,114,115,101]∧ ¬nm.toList=[99,111,110,116,97,105,110,115]∧ ¬nm.toList=[106,111,105,110]) (hR:callF nm ls=none) (hl:ls.length≠1):
  Calls Tryz.prog 71 #[.string nm,v] w (NewCB (callR nm ls) (callOK nm ls) w):=by
 have HP:=zz (show∀l∈ls,0<l.length from fun l hl=>pos9 (hok l hl))
 have HOK:=zz hok;have HL:=zz hr
 obtain ⟨ao,cap,rfl,q1,q2⟩:=shape9 hr
 unfold maxLen at q2
 clear hok hr
 obtain ⟨c1,c2,c3,c4,c5,c6,c7,c8,c9⟩:=hn
 have HR:=zz (none9 hR);clear hR
 have hne: ¬(ls.length:Int)=1:=by omega
 clear hl
 go_enter Tryz.func71,Tryz.ntmps71
 go_wp2
 exact bodyPost_ret (v:= .tuple #[.slice (some ⟨w.heap.size,0,none⟩) 0 0, .bool false]) (by simp [results,Tryz.results71,go_sem]) rfl (by rw [HR.out.1,HR.out.2];exact NewCB.none w w (Below.refl _ _))
theorem l9Call_upper_n (nm:ByteArray) (v:Value) (ls:List (List Cl)) (w:World) (hr:RowLs w v ls) (hok: ∀l∈ls,okV l=true) (hn: ¬nm.toList=[108,101,110,103,116,104]∧nm.toList=[117,112,112,101,114]∧ ¬nm.toList=[108,111,119,101,114]∧ ¬nm.toList=[109,105,110]∧ ¬nm.toList=[109,97,120]∧ ¬nm.toList=[102,105,114,115,116]∧ ¬nm.toList=[114,101,118,101,114,115,101]∧ ¬nm.toList=[99,111,110,116,97,105,110,115]∧ ¬nm.toList=[106,111,105,110]) (hR:callF nm ls=none) (hl:ls.length≠1):
  Calls Tryz.prog 71 #[.string nm,v] w (NewCB (callR nm ls) (callOK nm ls) w):=by
 have HP:=zz (show∀l∈ls,0<l.length from fun l hl=>pos9 (hok l hl))
 have HOK:=zz hok;have HL:=zz hr
 obtain ⟨ao,cap,rfl,q1,q2⟩:=shape9 hr
 unfold maxLen at q2
 clear hok hr
 obtain ⟨c1,c2,c3,c4,c5,c6,c7,c8,c9⟩:=hn
 have HR:=zz (none9 hR);clear hR
 have hne: ¬(ls.length:Int)=1:=by omega
 clear hl
 go_enter Tryz.func71,Tryz.ntmps71
 go_wp2
 exact bodyPost_ret (v:= .tuple #[.slice (some ⟨w.heap.size,0,none⟩) 0 0, .bool false]) (by simp [results,Tryz.results71,go_sem]) rfl (by rw [HR.out.1,HR.out.2];exact NewCB.none w w (Below.refl _ _))
theorem l9Call_lower_n (nm:ByteArray) (v:Value) (ls:List (List Cl)) (w:World) (hr:RowLs w v ls) (hok: ∀l∈ls,okV l=true) (hn: ¬nm.toList=[108,101,110,103,116,104]∧ ¬nm.toList=[117,112,112,101,114]∧nm.toList=[108,111,119,101,114]∧ ¬nm.toList=[109,105,110]∧ ¬nm.toList=[109,97,120]∧ ¬nm.toList=[102,105,114,115,116]∧ ¬nm.toList=[114,101,118,101,114,115,101]∧ ¬nm.toList=[99,111,110,116,97,105,110,115]∧ ¬nm.toList=[106,111,105,110]) (hR:callF nm ls=none) (hl:ls.length≠1):
  Calls Tryz.prog 71 #[.string nm,v] w (NewCB (callR nm ls) (callOK nm ls) w):=by
 have HP:=zz (show∀l∈ls,0<l.length from fun l hl=>pos9 (hok l hl))
 have HOK:=zz hok;have HL:=zz hr
 obtain ⟨ao,cap,rfl,q1,q2⟩:=shape9 hr
 unfold maxLen at q2
 clear hok hr
 obtain ⟨c1,c2,c3,c4,c5,c6,c7,c8,c9⟩:=hn
 have HR:=zz (none9 hR);clear hR
 have hne: ¬(ls.length:Int)=1:=by omega
 clear hl
 go_enter Tryz.func71,Tryz.ntmps71
 go_wp2
 exact bodyPost_ret (v:= .tuple #[.slice (some ⟨w.heap.size,0,none⟩) 0 0, .bool false]) (by simp [results,Tryz.results71,go_sem]) rfl (by rw [HR.out.1,HR.out.2];exact NewCB.none w w (Below.refl _ _))
theorem l9Call_first_n (nm:ByteArray) (v:Value) (ls:List (List Cl)) (w:World) (hr:RowLs w v ls) (hok: ∀l∈ls,okV l=true) (hn: ¬nm.toList=[108,101,110,103,116,104]∧ ¬nm.toList=[117,112,112,101,114]∧ ¬nm.toList=[108,111,119,101,114]∧ ¬nm.toList=[109,105,110]∧ ¬nm.toList=[109,97,120]∧nm.toList=[102,105,114,115,116]∧ ¬nm.toList=[114,101,118,101,114,115,101]∧ ¬nm.toList=[99,111,110,116,97,105,110,115]∧ ¬nm.toList=[106,111,105,110]) (hR:callF nm ls=none) (hl:ls.length≠1):
  Calls Tryz.prog 71 #[.string nm,v] w (NewCB (callR nm ls) (callOK nm ls) w):=by
 have HP:=zz (show∀l∈ls,0<l.length from fun l hl=>pos9 (hok l hl))
 have HOK:=zz hok;have HL:=zz hr
 obtain ⟨ao,cap,rfl,q1,q2⟩:=shape9 hr
 unfold maxLen at q2
 clear hok hr
 obtain ⟨c1,c2,c3,c4,c5,c6,c7,c8,c9⟩:=hn
 have HR:=zz (none9 hR);clear hR
 have hne: ¬(ls.length:Int)=1:=by omega
 clear hl
 go_enter Tryz.func71,Tryz.ntmps71
 go_wp2
 exact bodyPost_ret (v:= .tuple #[.slice (some ⟨w.heap.size,0,none⟩) 0 0, .bool false]) (by simp [results,Tryz.results71,go_sem]) rfl (by rw [HR.out.1,HR.out.2];exact NewCB.none w w (Below.refl _ _))
theorem l9Call_reverse_n (nm:ByteArray) (v:Value) (ls:List (List Cl)) (w:World) (hr:RowLs w v ls) (hok: ∀l∈ls,okV l=true) (hn: ¬nm.toList=[108,101,110,103,116,104]∧ ¬nm.toList=[117,112,112,101,114]∧ ¬nm.toList=[108,111,119,101,114]∧ ¬nm.toList=[109,105,110]∧ ¬nm.toList=[109,97,120]∧ ¬nm.toList=[102,105,114,115,116]∧nm.toList=[114,101,118,101,114,115,101]∧ ¬nm.toList=[99,111,110,116,97,105,110,115]∧ ¬nm.toList=[106,111,105,110]) (hR:callF nm ls=none) (hl:ls.length≠1):
  Calls Tryz.prog 71 #[.string nm,v] w (NewCB (callR nm ls) (callOK nm ls) w):=by
 have HP:=zz (show∀l∈ls,0<l.length from fun l hl=>pos9 (hok l hl))
 have HOK:=zz hok;have HL:=zz hr
 obtain ⟨ao,cap,rfl,q1,q2⟩:=shape9 hr
 unfold maxLen at q2
 clear hok hr
 obtain ⟨c1,c2,c3,c4,c5,c6,c7,c8,c9⟩:=hn
 have HR:=zz (none9 hR);clear hR
 have hne: ¬(ls.length:Int)=1:=by omega
 clear hl
 go_enter Tryz.func71,Tryz.ntmps71
 go_wp2
 exact bodyPost_ret (v:= .tuple #[.slice (some ⟨w.heap.size,0,none⟩) 0 0, .bool false]) (by simp [results,Tryz.results71,go_sem]) rfl (by rw [HR.out.1,HR.out.2];exact NewCB.none w w (Below.refl _ _))
theorem l9Call_contains_n (nm:ByteArray) (v:Value) (ls:List (List Cl)) (w:World) (hr:RowLs w v ls) (hok: ∀l∈ls,okV l=true) (hn: ¬nm.toList=[108,101,110,103,116,104]∧ ¬nm.toList=[117,112,112,101,114]∧ ¬nm.toList=[108,111,119,101,114]∧ ¬nm.toList=[109,105,110]∧ ¬nm.toList=[109,97,120]∧ ¬nm.toList=[102,105,114,115,116]∧ ¬nm.toList=[114,101,118,101,114,115,101]∧nm.toList=[99,111,110,116,97,105,110,115]∧ ¬nm.toList=[106,111,105,110]) (hR:callF nm ls=none) (hl:ls.length≠2):
  Calls Tryz.prog 71 #[.string nm,v] w (NewCB (callR nm ls) (callOK nm ls) w):=by
 have HP:=zz (show∀l∈ls,0<l.length from fun l hl=>pos9 (hok l hl))
 have HOK:=zz hok;have HL:=zz hr
 obtain ⟨ao,cap,rfl,q1,q2⟩:=shape9 hr
 unfold maxLen at q2
 clear hok hr
 obtain ⟨c1,c2,c3,c4,c5,c6,c7,c8,c9⟩:=hn
 have HR:=zz (none9 hR);clear hR
 have hne: ¬(ls.length:Int)=2:=by omega
 clear hl
 go_enter Tryz.func71,Tryz.ntmps71
 go_wp2
 exact bodyPost_ret (v:= .tuple #[.slice (some ⟨w.heap.size,0,none⟩) 0 0, .bool false]) (by simp [results,Tryz.results71,go_sem]) rfl (by rw [HR.out.1,HR.out.2];exact NewCB.none w w (Below.refl _ _))
theorem l9Call_join_n (nm:ByteArray) (v:Value) (ls:List (List Cl)) (w:World) (hr:RowLs w v ls) (hok: ∀l∈ls,okV l=true) (hn: ¬nm.toList=[108,101,110,103,116,104]∧ ¬nm.toList=[117,112,112,101,114]∧ ¬nm.toList=[108,111,119,101,114]∧ ¬nm.toList=[109,105,110]∧ ¬nm.toList=[109,97,120]∧ ¬nm.toList=[102,105,114,115,116]∧ ¬nm.toList=[114,101,118,101,114,115,101]∧ ¬nm.toList=[99,111,110,116,97,105,110,115]∧nm.toList=[106,111,105,110]) (hR:callF nm ls=none) (hl:ls.length≠2):
  Calls Tryz.prog 71 #[.string nm,v] w (NewCB (callR nm ls) (callOK nm ls) w):=by
 have HP:=zz (show∀l∈ls,0<l.length from fun l hl=>pos9 (hok l hl))
 have HOK:=zz hok;have HL:=zz hr
 obtain ⟨ao,cap,rfl,q1,q2⟩:=shape9 hr
 unfold maxLen at q2
 clear hok hr
 obtain ⟨c1,c2,c3,c4,c5,c6,c7,c8,c9⟩:=hn
 have HR:=zz (none9 hR);clear hR
 have hne: ¬(ls.length:Int)=2:=by omega
 clear hl
 go_enter Tryz.func71,Tryz.ntmps71
 go_wp2
 exact bodyPost_ret (v:= .tuple #[.slice (some ⟨w.heap.size,0,none⟩) 0 0, .bool false]) (by simp [results,Tryz.results71,go_sem]) rfl (by rw [HR.out.1,HR.out.2];exact NewCB.none w w (Below.refl _ _))
theorem l9Call_length_k (nm:ByteArray) (v:Value) (ls:List (List Cl)) (w:World) (hr:RowLs w v ls) (hok: ∀l∈ls,okV l=true) (hn:nm.toList=[108,101,110,103,116,104]∧ ¬nm.toList=[117,112,112,101,114]∧ ¬nm.toList=[108,111,119,101,114]∧ ¬nm.toList=[109,105,110]∧ ¬nm.toList=[109,97,120]∧ ¬nm.toList=[102,105,114,115,116]∧ ¬nm.toList=[114,101,118,101,114,115,101]∧ ¬nm.toList=[99,111,110,116,97,105,110,115]∧ ¬nm.toList=[106,111,105,110]) (hR:callF nm ls=none) (hl:ls.length=1) (hk2:kindsB ls 2=false) (hk5:kindsB ls 5=false):
  Calls Tryz.prog 71 #[.string nm,v] w (NewCB (callR nm ls) (callOK nm ls) w):=by
 have HP:=zz (show∀l∈ls,0<l.length from fun l hl=>pos9 (hok l hl))
 have HOK:=zz hok;have HL:=zz hr
 obtain ⟨ao,cap,rfl,q1,q2⟩:=shape9 hr
 unfold maxLen at q2
 clear hok hr
 obtain ⟨c1,c2,c3,c4,c5,c6,c7,c8,c9⟩:=hn
 have HR:=zz (none9 hR);clear hR
 have hle:(ls.length:Int)=1:=by omega
 clear hl
 have HK2:=zz hk2;clear hk2
 have HK5:=zz hk5;clear hk5
 go_enter Tryz.func71,Tryz.ntmps71
 go_wp2_with fail
 refine (l9Kinds_any _ ls 2 _ HL.out HP.out).mono ?_
 rintro e w' ⟨rfl,rfl⟩
 rw [show kindsB ls 2=false from HK2.out]
 go_wp2_with fail
 refine (l9Kinds_any _ ls 5 _ HL.out HP.out).mono ?_
 rintro e w' ⟨rfl,rfl⟩
 rw [show kindsB ls 5=false from HK5.out]
 go_wp2
 exact bodyPost_ret (v:= .tuple #[.slice (some ⟨w.heap.size,0,none⟩) 0 0, .bool false]) (by simp [results,Tryz.results71,go_sem]) rfl (by rw [HR.out.1,HR.out.2];exact NewCB.none w w (Below.refl _ _))
theorem l9Call_upper_k (nm:ByteArray) (v:Value) (ls:List (List Cl)) (w:World) (hr:RowLs w v ls) (hok: ∀l∈ls,okV l=true) (hn: ¬nm.toList=[108,101,110,103,116,104]∧nm.toList=[117,112,112,101,114]∧ ¬nm.toList=[108,111,119,101,114]∧ ¬nm.toList=[109,105,110]∧ ¬nm.toList=[109,97,120]∧ ¬nm.toList=[102,105,114,115,116]∧ ¬nm.toList=[114,101,118,101,114,115,101]∧ ¬nm.toList=[99,111,110,116,97,105,110,115]∧ ¬nm.toList=[106,111,105,110]) (hR:callF nm ls=none) (hl:ls.length=1) (hk2:kindsB ls 2=false):
  Calls Tryz.prog 71 #[.string nm,v] w (NewCB (callR nm ls) (callOK nm ls) w):=by
 have HP:=zz (show∀l∈ls,0<l.length from fun l hl=>pos9 (hok l hl))
 have HOK:=zz hok;have HL:=zz hr
 obtain ⟨ao,cap,rfl,q1,q2⟩:=shape9 hr
 unfold maxLen at q2
 clear hok hr
 obtain ⟨c1,c2,c3,c4,c5,c6,c7,c8,c9⟩:=hn
 have HR:=zz (none9 hR);clear hR
 have hle:(ls.length:Int)=1:=by omega
 clear hl
 have HK2:=zz hk2;clear hk2
 go_enter Tryz.func71,Tryz.ntmps71
 go_wp2_with fail
 refine (l9Kinds_any _ ls 2 _ HL.out HP.out).mono ?_
 rintro e w' ⟨rfl,rfl⟩
 rw [show kindsB ls 2=false from HK2.out]
 go_wp2
 exact bodyPost_ret (v:= .tuple #[.slice (some ⟨w.heap.size,0,none⟩) 0 0, .bool false]) (by simp [results,Tryz.results71,go_sem]) rfl (by rw [HR.out.1,HR.out.2];exact NewCB.none w w (Below.refl _ _))
theorem l9Call_lower_k (nm:ByteArray) (v:Value) (ls:List (List Cl)) (w:World) (hr:RowLs w v ls) (hok: ∀l∈ls,okV l=true) (hn: ¬nm.toList=[108,101,110,103,116,104]∧ ¬nm.toList=[117,112,112,101,114]∧nm.toList=[108,111,119,101,114]∧ ¬nm.toList=[109,105,110]∧ ¬nm.toList=[109,97,120]∧ ¬nm.toList=[102,105,114,115,116]∧ ¬nm.toList=[114,101,118,101,114,115,101]∧ ¬nm.toList=[99,111,110,116,97,105,110,115]∧ ¬nm.toList=[106,111,105,110]) (hR:callF nm ls=none) (hl:ls.length=1) (hk2:kindsB ls 2=false):
  Calls Tryz.prog 71 #[.string nm,v] w (NewCB (callR nm ls) (callOK nm ls) w):=by
 have HP:=zz (show∀l∈ls,0<l.length from fun l hl=>pos9 (hok l hl))
 have HOK:=zz hok;have HL:=zz hr
 obtain ⟨ao,cap,rfl,q1,q2⟩:=shape9 hr
 unfold maxLen at q2
 clear hok hr
 obtain ⟨c1,c2,c3,c4,c5,c6,c7,c8,c9⟩:=hn
 have HR:=zz (none9 hR);clear hR
 have hle:(ls.length:Int)=1:=by omega
 clear hl
 have HK2:=zz hk2;clear hk2
 go_enter Tryz.func71,Tryz.ntmps71
 go_wp2_with fail
 refine (l9Kinds_any _ ls 2 _ HL.out HP.out).mono ?_
 rintro e w' ⟨rfl,rfl⟩
 rw [show kindsB ls 2=false from HK2.out]
 go_wp2
 exact bodyPost_ret (v:= .tuple #[.slice (some ⟨w.heap.size,0,none⟩) 0 0, .bool false]) (by simp [results,Tryz.results71,go_sem]) rfl (by rw [HR.out.1,HR.out.2];exact NewCB.none w w (Below.refl _ _))
theorem l9Call_first_k (nm:ByteArray) (v:Value) (ls:List (List Cl)) (w:World) (hr:RowLs w v ls) (hok: ∀l∈ls,okV l=true) (hn: ¬nm.toList=[108,101,110,103,116,104]∧ ¬nm.toList=[117,112,112,101,114]∧ ¬nm.toList=[108,111,119,101,114]∧ ¬nm.toList=[109,105,110]∧ ¬nm.toList=[109,97,120]∧nm.toList=[102,105,114,115,116]∧ ¬nm.toList=[114,101,118,101,114,115,101]∧ ¬nm.toList=[99,111,110,116,97,105,110,115]∧ ¬nm.toList=[106,111,105,110]) (hR:callF nm ls=none) (hl:ls.length=1) (hk5:kindsB ls 5=false):
  Calls Tryz.prog 71 #[.string nm,v] w (NewCB (callR nm ls) (callOK nm ls) w):=by
 have HP:=zz (show∀l∈ls,0<l.length from fun l hl=>pos9 (hok l hl))
 have HOK:=zz hok;have HL:=zz hr
 obtain ⟨ao,cap,rfl,q1,q2⟩:=shape9 hr
 unfold maxLen at q2
 clear hok hr
 obtain ⟨c1,c2,c3,c4,c5,c6,c7,c8,c9⟩:=hn
 have HR:=zz (none9 hR);clear hR
 have hle:(ls.length:Int)=1:=by omega
 clear hl
 have HK5:=zz hk5;clear hk5
 go_enter Tryz.func71,Tryz.ntmps71
 go_wp2_with fail
 refine (l9Kinds_any _ ls 5 _ HL.out HP.out).mono ?_
 rintro e w' ⟨rfl,rfl⟩
 rw [show kindsB ls 5=false from HK5.out]
 go_wp2
 exact bodyPost_ret (v:= .tuple #[.slice (some ⟨w.heap.size,0,none⟩) 0 0, .bool false]) (by simp [results,Tryz.results71,go_sem]) rfl (by rw [HR.out.1,HR.out.2];exact NewCB.none w w (Below.refl _ _))
theorem l9Call_reverse_k (nm:ByteArray) (v:Value) (ls:List (List Cl)) (w:World) (hr:RowLs w v ls) (hok: ∀l∈ls,okV l=true) (hn: ¬nm.toList=[108,101,110,103,116,104]∧ ¬nm.toList=[117,112,112,101,114]∧ ¬nm.toList=[108,111,119,101,114]∧ ¬nm.toList=[109,105,110]∧ ¬nm.toList=[109,97,120]∧ ¬nm.toList=[102,105,114,115,116]∧nm.toList=[114,101,118,101,114,115,101]∧ ¬nm.toList=[99,111,110,116,97,105,110,115]∧ ¬nm.toList=[106,111,105,110]) (hR:callF nm ls=none) (hl:ls.length=1) (hk5:kindsB ls 5=false):
  Calls Tryz.prog 71 #[.string nm,v] w (NewCB (callR nm ls) (callOK nm ls) w):=by
 have HP:=zz (show∀l∈ls,0<l.length from fun l hl=>pos9 (hok l hl))
 have HOK:=zz hok;have HL:=zz hr
 obtain ⟨ao,cap,rfl,q1,q2⟩:=shape9 hr
 unfold maxLen at q2
 clear hok hr
 obtain ⟨c1,c2,c3,c4,c5,c6,c7,c8,c9⟩:=hn
 have HR:=zz (none9 hR);clear hR
 have hle:(ls.length:Int)=1:=by omega
 clear hl
 have HK5:=zz hk5;clear hk5
 go_enter Tryz.func71,Tryz.ntmps71
 go_wp2_with fail
 refine (l9Kinds_any _ ls 5 _ HL.out HP.out).mono ?_
 rintro e w' ⟨rfl,rfl⟩
 rw [show kindsB ls 5=false from HK5.out]
 go_wp2
 exact bodyPost_ret (v:= .tuple #[.slice (some ⟨w.heap.size,0,none⟩) 0 0, .bool false]) (by simp [results,Tryz.results71,go_sem]) rfl (by rw [HR.out.1,HR.out.2];exact NewCB.none w w (Below.refl _ _))
theorem l9Call_min_n (nm:ByteArray) (v:Value) (ls:List (List Cl)) (w:World) (hr:RowLs w v ls) (hok: ∀l∈ls,okV l=true) (hn: ¬nm.toList=[108,101,110,103,116,104]∧ ¬nm.toList=[117,112,112,101,114]∧ ¬nm.toList=[108,111,119,101,114]∧nm.toList=[109,105,110]∧ ¬nm.toList=[109,97,120]∧ ¬nm.toList=[102,105,114,115,116]∧ ¬nm.toList=[114,101,118,101,114,115,101]∧ ¬nm.toList=[99,111,110,116,97,105,110,115]∧ ¬nm.toList=[106,111,105,110]) (hR:callF nm ls=none) (hl:ls.length=0):
  Calls Tryz.prog 71 #[.string nm,v] w (NewCB (callR nm ls) (callOK nm ls) w):=by
 have HP:=zz (show∀l∈ls,0<l.length from fun l hl=>pos9 (hok l hl))
 have HOK:=zz hok;have HL:=zz hr
 obtain ⟨ao,cap,rfl,q1,q2⟩:=shape9 hr
 unfold maxLen at q2
 clear hok hr
 obtain ⟨c1,c2,c3,c4,c5,c6,c7,c8,c9⟩:=hn
 have HR:=zz (none9 hR);clear hR
 have hle: ¬(0:Int)<(ls.length:Int):=by omega
 go_enter Tryz.func71,Tryz.ntmps71
 go_wp2
 exact bodyPost_ret (v:= .tuple #[.slice (some ⟨w.heap.size,0,none⟩) 0 0, .bool false]) (by simp [results,Tryz.results71,go_sem]) rfl (by rw [HR.out.1,HR.out.2];exact NewCB.none w w (Below.refl _ _))
theorem l9Call_min_k (nm:ByteArray) (v:Value) (ls:List (List Cl)) (w:World) (hr:RowLs w v ls) (hok: ∀l∈ls,okV l=true) (hn: ¬nm.toList=[108,101,110,103,116,104]∧ ¬nm.toList=[117,112,112,101,114]∧ ¬nm.toList=[108,111,119,101,114]∧nm.toList=[109,105,110]∧ ¬nm.toList=[109,97,120]∧ ¬nm.toList=[102,105,114,115,116]∧ ¬nm.toList=[114,101,118,101,114,115,101]∧ ¬nm.toList=[99,111,110,116,97,105,110,115]∧ ¬nm.toList=[106,111,105,110]) (hR:callF nm ls=none) (hl:0<ls.length) (hk1:kindsB ls 1=false):
  Calls Tryz.prog 71 #[.string nm,v] w (NewCB (callR nm ls) (callOK nm ls) w):=by
 have HP:=zz (show∀l∈ls,0<l.length from fun l hl=>pos9 (hok l hl))
 have HOK:=zz hok;have HL:=zz hr
 obtain ⟨ao,cap,rfl,q1,q2⟩:=shape9 hr
 unfold maxLen at q2
 clear hok hr
 obtain ⟨c1,c2,c3,c4,c5,c6,c7,c8,c9⟩:=hn
 have HR:=zz (none9 hR);clear hR
 have hle:(0:Int)<(ls.length:Int):=by omega
 have HK1:=zz hk1;clear hk1
 go_enter Tryz.func71,Tryz.ntmps71
 go_wp2_with fail
 refine (l9Kinds_any _ ls 1 _ HL.out HP.out).mono ?_
 rintro e w' ⟨rfl,rfl⟩
 rw [show kindsB ls 1=false from HK1.out]
 go_wp2
 exact bodyPost_ret (v:= .tuple #[.slice (some ⟨w.heap.size,0,none⟩) 0 0, .bool false]) (by simp [results,Tryz.results71,go_sem]) rfl (by rw [HR.out.1,HR.out.2];exact NewCB.none w w (Below.refl _ _))
theorem l9Call_max_n (nm:ByteArray) (v:Value) (ls:List (List Cl)) (w:World) (hr:RowLs w v ls) (hok: ∀l∈ls,okV l=true) (hn: ¬nm.toList=[108,101,110,103,116,104]∧ ¬nm.toList=[117,112,112,101,114]∧ ¬nm.toList=[108,111,119,101,114]∧ ¬nm.toList=[109,105,110]∧nm.toList=[109,97,120]∧ ¬nm.toList=[102,105,114,115,116]∧ ¬nm.toList=[114,101,118,101,114,115,101]∧ ¬nm.toList=[99,111,110,116,97,105,110,115]∧ ¬nm.toList=[106,111,105,110]) (hR:callF nm ls=none) (hl:ls.length=0):
  Calls Tryz.prog 71 #[.string nm,v] w (NewCB (callR nm ls) (callOK nm ls) w):=by
 have HP:=zz (show∀l∈ls,0<l.length from fun l hl=>pos9 (hok l hl))
 have HOK:=zz hok;have HL:=zz hr
 obtain ⟨ao,cap,rfl,q1,q2⟩:=shape9 hr
 unfold maxLen at q2
 clear hok hr
 obtain ⟨c1,c2,c3,c4,c5,c6,c7,c8,c9⟩:=hn
 have HR:=zz (none9 hR);clear hR
 have hle: ¬(0:Int)<(ls.length:Int):=by omega
 go_enter Tryz.func71,Tryz.ntmps71
 go_wp2
 exact bodyPost_ret (v:= .tuple #[.slice (some ⟨w.heap.size,0,none⟩) 0 0, .bool false]) (by simp [results,Tryz.results71,go_sem]) rfl (by rw [HR.out.1,HR.out.2];exact NewCB.none w w (Below.refl _ _))
theorem l9Call_max_k (nm:ByteArray) (v:Value) (ls:List (List Cl)) (w:World) (hr:RowLs w v ls) (hok: ∀l∈ls,okV l=true) (hn: ¬nm.toList=[108,101,110,103,116,104]∧ ¬nm.toList=[117,112,112,101,114]∧ ¬nm.toList=[108,111,119,101,114]∧ ¬nm.toList=[109,105,110]∧nm.toList=[109,97,120]∧ ¬nm.toList=[102,105,114,115,116]∧ ¬nm.toList=[114,101,118,101,114,115,101]∧ ¬nm.toList=[99,111,110,116,97,105,110,115]∧ ¬nm.toList=[106,111,105,110]) (hR:callF nm ls=none) (hl:0<ls.length) (hk1:kindsB ls 1=false):
  Calls Tryz.prog 71 #[.string nm,v] w (NewCB (callR nm ls) (callOK nm ls) w):=by
 have HP:=zz (show∀l∈ls,0<l.length from fun l hl=>pos9 (hok l hl))
 have HOK:=zz hok;have HL:=zz hr
 obtain ⟨ao,cap,rfl,q1,q2⟩:=shape9 hr
 unfold maxLen at q2
 clear hok hr
 obtain ⟨c1,c2,c3,c4,c5,c6,c7,c8,c9⟩:=hn
 have HR:=zz (none9 hR);clear hR
 have hle:(0:Int)<(ls.length:Int):=by omega
 have HK1:=zz hk1;clear hk1
 go_enter Tryz.func71,Tryz.ntmps71
 go_wp2_with fail
 refine (l9Kinds_any _ ls 1 _ HL.out HP.out).mono ?_
 rintro e w' ⟨rfl,rfl⟩
 rw [show kindsB ls 1=false from HK1.out]
 go_wp2
 exact bodyPost_ret (v:= .tuple #[.slice (some ⟨w.heap.size,0,none⟩) 0 0, .bool false]) (by simp [results,Tryz.results71,go_sem]) rfl (by rw [HR.out.1,HR.out.2];exact NewCB.none w w (Below.refl _ _))
theorem l9Call_first_0 (nm:ByteArray) (v:Value) (ls:List (List Cl)) (w:World) (hr:RowLs w v ls) (hok: ∀l∈ls,okV l=true) (x:List Cl) (hls:ls=[x]) (hn: ¬nm.toList=[108,101,110,103,116,104]∧ ¬nm.toList=[117,112,112,101,114]∧ ¬nm.toList=[108,111,119,101,114]∧ ¬nm.toList=[109,105,110]∧ ¬nm.toList=[109,97,120]∧nm.toList=[102,105,114,115,116]∧ ¬nm.toList=[114,101,118,101,114,115,101]∧ ¬nm.toList=[99,111,110,116,97,105,110,115]∧ ¬nm.toList=[106,111,105,110]) (hR:callF nm ls=none) (h5:kdV x=5) (h0:myV x=0):
  Calls Tryz.prog 71 #[.string nm,v] w (NewCB (callR nm ls) (callOK nm ls) w):=by
 obtain ⟨c1,c2,c3,c4,c5,c6,c7,c8,c9⟩:=hn
 obtain ⟨b,o,cap',hv,g1,g2,g3⟩:=some9 hr (by simp [hls])
 have hx:=hok x (by rw [hls];exact List.mem_singleton.mpr rfl)
 have hx0:=pos9 hx
 have hxe:ls[0]'(by simp [hls])=x:=by subst hls;rfl
 subst hv
 obtain ⟨b2,o2,cap2,d0,d1,d2,d3,d4,d5,d6,d7⟩:=at9 hr 0 (by simp [hls]) (by rw [hxe];exact hx0)
 rw [hxe] at d0 d1 d4 d5 d6 d7
 rw [Nat.add_zero] at d0
 unfold maxLen at d2 g2
 have hle:(ls.length:Int)=1:=by rw [hls];rfl
 have HP:=zz (show∀l∈ls,0<l.length from fun l hl=>pos9 (hok l hl))
 have HOK:=zz hok;have HL:=zz hr
 have HXO:=zz hx;have HRX:=zz d7
 have hxw:=word9 hx;have hxm:=many9 hx
 clear hok hr hx d7
 have HR:=zz (none9 hR);clear hR
 rw [h0] at d6
 have HK5:=zz (show kindsB ls 5=true by rw [hls,kinds1,h5];rfl)
 clear hls hxe
 go_enter Tryz.func71,Tryz.ntmps71
 go_wp2_with fail
 refine (l9Kinds_any _ ls 5 _ HL.out HP.out).mono ?_
 rintro e w' ⟨rfl,rfl⟩
 rw [show kindsB ls 5=true from HK5.out]
 go_wp2
 exact bodyPost_ret (v:= .tuple #[.slice (some ⟨w.heap.size,0,none⟩) 0 0, .bool false]) (by simp [results,Tryz.results71,go_sem]) rfl (by rw [HR.out.1,HR.out.2];exact NewCB.none w w (Below.refl _ _))
theorem l9Call_contains_k (nm:ByteArray) (v:Value) (ls:List (List Cl)) (w:World) (hr:RowLs w v ls) (hok: ∀l∈ls,okV l=true) (x y:List Cl) (hls:ls=[x,y]) (hn: ¬nm.toList=[108,101,110,103,116,104]∧ ¬nm.toList=[117,112,112,101,114]∧ ¬nm.toList=[108,111,119,101,114]∧ ¬nm.toList=[109,105,110]∧ ¬nm.toList=[109,97,120]∧ ¬nm.toList=[102,105,114,115,116]∧ ¬nm.toList=[114,101,118,101,114,115,101]∧nm.toList=[99,111,110,116,97,105,110,115]∧ ¬nm.toList=[106,111,105,110]) (hR:callF nm ls=none) (h5: ¬kdV x=5):
  Calls Tryz.prog 71 #[.string nm,v] w (NewCB (callR nm ls) (callOK nm ls) w):=by
 obtain ⟨c1,c2,c3,c4,c5,c6,c7,c8,c9⟩:=hn
 obtain ⟨b,o,cap',hv,g1,g2,g3⟩:=some9 hr (by simp [hls])
 have hx:=hok x (by rw [hls];simp)
 have hy:=hok y (by rw [hls];simp)
 have hx0:=pos9 hx;have hy0:=pos9 hy
 have hxe:ls[0]'(by simp [hls])=x:=by subst hls;rfl
 have hye:ls[1]'(by simp [hls])=y:=by subst hls;rfl
 subst hv
 obtain ⟨b2,o2,cap2,d0,d1,d2,d3,d4,d5,d6,d7⟩:=at9 hr 0 (by simp [hls]) (by rw [hxe];exact hx0)
 obtain ⟨b3,o3,cap3,e0,e1,e2,e3,e4,e5,e6,e7⟩:=at9 hr 1 (by simp [hls]) (by rw [hye];exact hy0)
 rw [hxe] at d0 d1 d4 d5 d6 d7
 rw [hye] at e0 e1 e4 e5 e6 e7
 rw [Nat.add_zero] at d0
 unfold maxLen at d2 e2 g2
 have hle:(ls.length:Int)=2:=by rw [hls];rfl
 have hne1: ¬(ls.length:Int)=1:=by omega
 have HP:=zz (show∀l∈ls,0<l.length from fun l hl=>pos9 (hok l hl))
 have HOK:=zz hok;have HL:=zz hr
 have HXO:=zz hx;have HRX:=zz d7;have HYO:=zz hy;have HRY:=zz e7
 have hxw:=word9 hx;have hxm:=many9 hx;have hyw:=word9 hy
 clear hok hr hx hy d7 e7
 have HR:=zz (none9 hR);clear hR
 clear hls hxe hye
 go_enter Tryz.func71,Tryz.ntmps71
 go_wp2
 exact bodyPost_ret (v:= .tuple #[.slice (some ⟨w.heap.size,0,none⟩) 0 0, .bool false]) (by simp [results,Tryz.results71,go_sem]) rfl (by rw [HR.out.1,HR.out.2];exact NewCB.none w w (Below.refl _ _))
theorem l9Call_join_k (nm:ByteArray) (v:Value) (ls:List (List Cl)) (w:World) (hr:RowLs w v ls) (hok: ∀l∈ls,okV l=true) (x y:List Cl) (hls:ls=[x,y]) (hn: ¬nm.toList=[108,101,110,103,116,104]∧ ¬nm.toList=[117,112,112,101,114]∧ ¬nm.toList=[108,111,119,101,114]∧ ¬nm.toList=[109,105,110]∧ ¬nm.toList=[109,97,120]∧ ¬nm.toList=[102,105,114,115,116]∧ ¬nm.toList=[114,101,118,101,114,115,101]∧ ¬nm.toList=[99,111,110,116,97,105,110,115]∧nm.toList=[106,111,105,110]) (hR:callF nm ls=none) (h5: ¬kdV x=5):
  Calls Tryz.prog 71 #[.string nm,v] w (NewCB (callR nm ls) (callOK nm ls) w):=by
 obtain ⟨c1,c2,c3,c4,c5,c6,c7,c8,c9⟩:=hn
 obtain ⟨b,o,cap',hv,g1,g2,g3⟩:=some9 hr (by simp [hls])
 have hx:=hok x (by rw [hls];simp)
 have hy:=hok y (by rw [hls];simp)
 have hx0:=pos9 hx;have hy0:=pos9 hy
 have hxe:ls[0]'(by simp [hls])=x:=by subst hls;rfl
 have hye:ls[1]'(by simp [hls])=y:=by subst hls;rfl
 subst hv
 obtain ⟨b2,o2,cap2,d0,d1,d2,d3,d4,d5,d6,d7⟩:=at9 hr 0 (by simp [hls]) (by rw [hxe];exact hx0)
 obtain ⟨b3,o3,cap3,e0,e1,e2,e3,e4,e5,e6,e7⟩:=at9 hr 1 (by simp [hls]) (by rw [hye];exact hy0)
 rw [hxe] at d0 d1 d4 d5 d6 d7
 rw [hye] at e0 e1 e4 e5 e6 e7
 rw [Nat.add_zero] at d0
 unfold maxLen at d2 e2 g2
 have hle:(ls.length:Int)=2:=by rw [hls];rfl
 have hne1: ¬(ls.length:Int)=1:=by omega
 have HP:=zz (show∀l∈ls,0<l.length from fun l hl=>pos9 (hok l hl))
 have HOK:=zz hok;have HL:=zz hr
 have HXO:=zz hx;have HRX:=zz d7;have HYO:=zz hy;have HRY:=zz e7
 have hxw:=word9 hx;have hxm:=many9 hx;have hyw:=word9 hy
 clear hok hr hx hy d7 e7
 have HR:=zz (none9 hR);clear hR
 clear hls hxe hye
 go_enter Tryz.func71,Tryz.ntmps71
 go_wp2
 exact bodyPost_ret (v:= .tuple #[.slice (some ⟨w.heap.size,0,none⟩) 0 0, .bool false]) (by simp [results,Tryz.results71,go_sem]) rfl (by rw [HR.out.1,HR.out.2];exact NewCB.none w w (Below.refl _ _))
theorem l9Call_join_t (nm:ByteArray) (v:Value) (ls:List (List Cl)) (w:World) (hr:RowLs w v ls) (hok: ∀l∈ls,okV l=true) (x y:List Cl) (hls:ls=[x,y]) (hn: ¬nm.toList=[108,101,110,103,116,104]∧ ¬nm.toList=[117,112,112,101,114]∧ ¬nm.toList=[108,111,119,101,114]∧ ¬nm.toList=[109,105,110]∧ ¬nm.toList=[109,97,120]∧ ¬nm.toList=[102,105,114,115,116]∧ ¬nm.toList=[114,101,118,101,114,115,101]∧ ¬nm.toList=[99,111,110,116,97,105,110,115]∧nm.toList=[106,111,105,110]) (hR:callF nm ls=none) (h5:kdV x=5) (h2: ¬kdV y=2):
  Calls Tryz.prog 71 #[.string nm,v] w (NewCB (callR nm ls) (callOK nm ls) w):=by
 obtain ⟨c1,c2,c3,c4,c5,c6,c7,c8,c9⟩:=hn
 obtain ⟨b,o,cap',hv,g1,g2,g3⟩:=some9 hr (by simp [hls])
 have hx:=hok x (by rw [hls];simp)
 have hy:=hok y (by rw [hls];simp)
 have hx0:=pos9 hx;have hy0:=pos9 hy
 have hxe:ls[0]'(by simp [hls])=x:=by subst hls;rfl
 have hye:ls[1]'(by simp [hls])=y:=by subst hls;rfl
 subst hv
 obtain ⟨b2,o2,cap2,d0,d1,d2,d3,d4,d5,d6,d7⟩:=at9 hr 0 (by simp [hls]) (by rw [hxe];exact hx0)
 obtain ⟨b3,o3,cap3,e0,e1,e2,e3,e4,e5,e6,e7⟩:=at9 hr 1 (by simp [hls]) (by rw [hye];exact hy0)
 rw [hxe] at d0 d1 d4 d5 d6 d7
 rw [hye] at e0 e1 e4 e5 e6 e7
 rw [Nat.add_zero] at d0
 unfold maxLen at d2 e2 g2
 have hle:(ls.length:Int)=2:=by rw [hls];rfl
 have hne1: ¬(ls.length:Int)=1:=by omega
 have HP:=zz (show∀l∈ls,0<l.length from fun l hl=>pos9 (hok l hl))
 have HOK:=zz hok;have HL:=zz hr
 have HXO:=zz hx;have HRX:=zz d7;have HYO:=zz hy;have HRY:=zz e7
 have hxw:=word9 hx;have hxm:=many9 hx;have hyw:=word9 hy
 clear hok hr hx hy d7 e7
 have HR:=zz (none9 hR);clear hR
 rw [h5] at d4
 clear hls hxe hye
 go_enter Tryz.func71,Tryz.ntmps71
 go_wp2
 exact bodyPost_ret (v:= .tuple #[.slice (some ⟨w.heap.size,0,none⟩) 0 0, .bool false]) (by simp [results,Tryz.results71,go_sem]) rfl (by rw [HR.out.1,HR.out.2];exact NewCB.none w w (Below.refl _ _))
theorem l9Call_length_2 (nm:ByteArray) (v:Value) (ls:List (List Cl)) (w:World) (hr:RowLs w v ls) (hok: ∀l∈ls,okV l=true) (x:List Cl) (hls:ls=[x]) (hn:nm.toList=[108,101,110,103,116,104]∧ ¬nm.toList=[117,112,112,101,114]∧ ¬nm.toList=[108,111,119,101,114]∧ ¬nm.toList=[109,105,110]∧ ¬nm.toList=[109,97,120]∧ ¬nm.toList=[102,105,114,115,116]∧ ¬nm.toList=[114,101,118,101,114,115,101]∧ ¬nm.toList=[99,111,110,116,97,105,110,115]∧ ¬nm.toList=[106,111,105,110]) (hR:callF nm ls=some (numV ((wdV x).size:Int) 1)) (h2:kdV x=2):
  Calls Tryz.prog 71 #[.string nm,v] w (NewCB (callR nm ls) (callOK nm ls) w):=by
 obtain ⟨c1,c2,c3,c4,c5,c6,c7,c8,c9⟩:=hn
 obtain ⟨b,o,cap',hv,g1,g2,g3⟩:=some9 hr (by simp [hls])
 have hx:=hok x (by rw [hls];exact List.mem_singleton.mpr rfl)
 have hx0:=pos9 hx
 have hxe:ls[0]'(by simp [hls])=x:=by subst hls;rfl
 subst hv
 obtain ⟨b2,o2,cap2,d0,d1,d2,d3,d4,d5,d6,d7⟩:=at9 hr 0 (by simp [hls]) (by rw [hxe];exact hx0)
 rw [hxe] at d0 d1 d4 d5 d6 d7
 rw [Nat.add_zero] at d0
 unfold maxLen at d2 g2
 have hle:(ls.length:Int)=1:=by rw [hls];rfl
 have HP:=zz (show∀l∈ls,0<l.length from fun l hl=>pos9 (hok l hl))
 have HOK:=zz hok;have HL:=zz hr
 have HXO:=zz hx;have HRX:=zz d7
 have hxw:=word9 hx;have hxm:=many9 hx
 clear hok hr hx d7
 have HR:=zz (some_9 hR);clear hR
 have HK2:=zz (show kindsB ls 2=true by rw [hls,kinds1,h2];rfl)
 clear hls hxe
 go_enter Tryz.func71,Tryz.ntmps71
 go_wp2_with fail
 refine (l9Kinds_any _ ls 2 _ HL.out HP.out).mono ?_
 rintro e w' ⟨rfl,rfl⟩
 rw [show kindsB ls 2=true from HK2.out]
 go_wp2_with fail
 refine (l9Number_any _ _ _).mono ?_
 rintro e w1 ⟨v1,rfl,ho1,hb1⟩
 have HO1:=zz ho1;have HB1:=zz hb1;clear ho1 hb1
 go_wp2
 exact bodyPost_ret (v:= .tuple #[_, .bool true]) (by simp [results,Tryz.results71,go_sem];rfl) rfl ⟨v1,by rw [HR.out.2],by rw [HR.out.1];exact HO1.out,HB1.out⟩
theorem l9Call_length_5 (nm:ByteArray) (v:Value) (ls:List (List Cl)) (w:World) (hr:RowLs w v ls) (hok: ∀l∈ls,okV l=true) (x:List Cl) (hls:ls=[x]) (hn:nm.toList=[108,101,110,103,116,104]∧ ¬nm.toList=[117,112,112,101,114]∧ ¬nm.toList=[108,111,119,101,114]∧ ¬nm.toList=[109,105,110]∧ ¬nm.toList=[109,97,120]∧ ¬nm.toList=[102,105,114,115,116]∧ ¬nm.toList=[114,101,118,101,114,115,101]∧ ¬nm.toList=[99,111,110,116,97,105,110,115]∧ ¬nm.toList=[106,111,105,110]) (hR:callF nm ls=some (numV (myV x) 1)) (h5:kdV x=5):
  Calls Tryz.prog 71 #[.string nm,v] w (NewCB (callR nm ls) (callOK nm ls) w):=by
 obtain ⟨c1,c2,c3,c4,c5,c6,c7,c8,c9⟩:=hn
 obtain ⟨b,o,cap',hv,g1,g2,g3⟩:=some9 hr (by simp [hls])
 have hx:=hok x (by rw [hls];exact List.mem_singleton.mpr rfl)
 have hx0:=pos9 hx
 have hxe:ls[0]'(by simp [hls])=x:=by subst hls;rfl
 subst hv
 obtain ⟨b2,o2,cap2,d0,d1,d2,d3,d4,d5,d6,d7⟩:=at9 hr 0 (by simp [hls]) (by rw [hxe];exact hx0)
 rw [hxe] at d0 d1 d4 d5 d6 d7
 rw [Nat.add_zero] at d0
 unfold maxLen at d2 g2
 have hle:(ls.length:Int)=1:=by rw [hls];rfl
 have HP:=zz (show∀l∈ls,0<l.length from fun l hl=>pos9 (hok l hl))
 have HOK:=zz hok;have HL:=zz hr
 have HXO:=zz hx;have HRX:=zz d7
 have hxw:=word9 hx;have hxm:=many9 hx
 clear hok hr hx d7
 have HR:=zz (some_9 hR);clear hR
 have HK2:=zz (show kindsB ls 2=false by rw [hls,kinds1,h5];rfl)
 have HK5:=zz (show kindsB ls 5=true by rw [hls,kinds1,h5];rfl)
 clear hls hxe
 go_enter Tryz.func71,Tryz.ntmps71
 go_wp2_with fail
 refine (l9Kinds_any _ ls 2 _ HL.out HP.out).mono ?_
 rintro e w' ⟨rfl,rfl⟩
 rw [show kindsB ls 2=false from HK2.out]
 go_wp2_with fail
 refine (l9Kinds_any _ ls 5 _ HL.out HP.out).mono ?_
 rintro e w' ⟨rfl,rfl⟩
 rw [show kindsB ls 5=true from HK5.out]
 go_wp2_with fail
 refine (l9Number_any _ _ _).mono ?_
 rintro e w1 ⟨v1,rfl,ho1,hb1⟩
 have HO1:=zz ho1;have HB1:=zz hb1;clear ho1 hb1
 go_wp2
 exact bodyPost_ret (v:= .tuple #[_, .bool true]) (by simp [results,Tryz.results71,go_sem];rfl) rfl ⟨v1,by rw [HR.out.2],by rw [HR.out.1];exact HO1.out,HB1.out⟩
theorem l9Call_upper_2 (nm:ByteArray) (v:Value) (ls:List (List Cl)) (w:World) (hr:RowLs w v ls) (hok: ∀l∈ls,okV l=true) (x:List Cl) (hls:ls=[x]) (hn: ¬nm.toList=[108,101,110,103,116,104]∧nm.toList=[117,112,112,101,114]∧ ¬nm.toList=[108,111,119,101,114]∧ ¬nm.toList=[109,105,110]∧ ¬nm.toList=[109,97,120]∧ ¬nm.toList=[102,105,114,115,116]∧ ¬nm.toList=[114,101,118,101,114,115,101]∧ ¬nm.toList=[99,111,110,116,97,105,110,115]∧ ¬nm.toList=[106,111,105,110]) (hR:callF nm ls=texO (mapB upC (wdV x))) (h2:kdV x=2):
  Calls Tryz.prog 71 #[.string nm,v] w (NewCB (callR nm ls) (callOK nm ls) w):=by
 obtain ⟨c1,c2,c3,c4,c5,c6,c7,c8,c9⟩:=hn
 obtain ⟨b,o,cap',hv,g1,g2,g3⟩:=some9 hr (by simp [hls])
 have hx:=hok x (by rw [hls];exact List.mem_singleton.mpr rfl)
 have hx0:=pos9 hx
 have hxe:ls[0]'(by simp [hls])=x:=by subst hls;rfl
 subst hv
 obtain ⟨b2,o2,cap2,d0,d1,d2,d3,d4,d5,d6,d7⟩:=at9 hr 0 (by simp [hls]) (by rw [hxe];exact hx0)
 rw [hxe] at d0 d1 d4 d5 d6 d7
 rw [Nat.add_zero] at d0
 unfold maxLen at d2 g2
 have hle:(ls.length:Int)=1:=by rw [hls];rfl
 have HP:=zz (show∀l∈ls,0<l.length from fun l hl=>pos9 (hok l hl))
 have HOK:=zz hok;have HL:=zz hr
 have HXO:=zz hx;have HRX:=zz d7
 have hxw:=word9 hx;have hxm:=many9 hx
 clear hok hr hx d7
 have HR:=zz (show callR nm ls=(texO (mapB upC (wdV x))).getD []∧callOK nm ls=(texO (mapB upC (wdV x))).isSome by rw [callR,callOK,hR];exact ⟨rfl,rfl⟩);clear hR
 have HK2:=zz (show kindsB ls 2=true by rw [hls,kinds1,h2];rfl)
 clear hls hxe
 go_enter Tryz.func71,Tryz.ntmps71
 go_wp2_with fail
 refine (l9Kinds_any _ ls 2 _ HL.out HP.out).mono ?_
 rintro e w' ⟨rfl,rfl⟩
 rw [show kindsB ls 2=true from HK2.out]
 go_wp2_with fail
 refine (l9Case_any (wdV x) 97 122 (-32) upC _ (by omega) (by decide) up_in up_out).mono ?_
 rintro e w1 ⟨rfl,hb1⟩
 have HB1:=zz hb1;clear hb1
 have hms:=mapB_size upC (wdV x)
 generalize mapB upC (wdV x)=S at hms HR⊢
 go_wp2_with fail
 refine (l9Text_any S _ (by omega)).mono ?_
 rintro e w2 ⟨v2,rfl,ho2,hb2⟩
 have HO2:=zz (own_base ho2 (base':=w.heap.size) (fun g hg=>Nat.le_trans HB1.out.size (ho2.lt g hg).1));have HB2:=zz (HB1.out.trans (hb2.mono HB1.out.size));clear ho2 hb2
 go_wp2
 exact bodyPost_ret (v:= .tuple #[v2, .bool (texO S).isSome]) (by simp [results,Tryz.results71,go_sem]) rfl ⟨v2,by rw [HR.out.2],by rw [HR.out.1];exact HO2.out,HB2.out⟩
theorem l9Call_lower_2 (nm:ByteArray) (v:Value) (ls:List (List Cl)) (w:World) (hr:RowLs w v ls) (hok: ∀l∈ls,okV l=true) (x:List Cl) (hls:ls=[x]) (hn: ¬nm.toList=[108,101,110,103,116,104]∧ ¬nm.toList=[117,112,112,101,114]∧nm.toList=[108,111,119,101,114]∧ ¬nm.toList=[109,105,110]∧ ¬nm.toList=[109,97,120]∧ ¬nm.toList=[102,105,114,115,116]∧ ¬nm.toList=[114,101,118,101,114,115,101]∧ ¬nm.toList=[99,111,110,116,97,105,110,115]∧ ¬nm.toList=[106,111,105,110]) (hR:callF nm ls=texO (mapB loC (wdV x))) (h2:kdV x=2):
  Calls Tryz.prog 71 #[.string nm,v] w (NewCB (callR nm ls) (callOK nm ls) w):=by
 obtain ⟨c1,c2,c3,c4,c5,c6,c7,c8,c9⟩:=hn
 obtain ⟨b,o,cap',hv,g1,g2,g3⟩:=some9 hr (by simp [hls])
 have hx:=hok x (by rw [hls];exact List.mem_singleton.mpr rfl)
 have hx0:=pos9 hx
 have hxe:ls[0]'(by simp [hls])=x:=by subst hls;rfl
 subst hv
 obtain ⟨b2,o2,cap2,d0,d1,d2,d3,d4,d5,d6,d7⟩:=at9 hr 0 (by simp [hls]) (by rw [hxe];exact hx0)
 rw [hxe] at d0 d1 d4 d5 d6 d7
 rw [Nat.add_zero] at d0
 unfold maxLen at d2 g2
 have hle:(ls.length:Int)=1:=by rw [hls];rfl
 have HP:=zz (show∀l∈ls,0<l.length from fun l hl=>pos9 (hok l hl))
 have HOK:=zz hok;have HL:=zz hr
 have HXO:=zz hx;have HRX:=zz d7
 have hxw:=word9 hx;have hxm:=many9 hx
 clear hok hr hx d7
 have HR:=zz (show callR nm ls=(texO (mapB loC (wdV x))).getD []∧callOK nm ls=(texO (mapB loC (wdV x))).isSome by rw [callR,callOK,hR];exact ⟨rfl,rfl⟩);clear hR
 have HK2:=zz (show kindsB ls 2=true by rw [hls,kinds1,h2];rfl)
 clear hls hxe
 go_enter Tryz.func71,Tryz.ntmps71
 go_wp2_with fail
 refine (l9Kinds_any _ ls 2 _ HL.out HP.out).mono ?_
 rintro e w' ⟨rfl,rfl⟩
 rw [show kindsB ls 2=true from HK2.out]
 go_wp2_with fail
 refine (l9Case_any (wdV x) 65 90 32 loC _ (by omega) (by decide) lo_in lo_out).mono ?_
 rintro e w1 ⟨rfl,hb1⟩
 have HB1:=zz hb1;clear hb1
 have hms:=mapB_size loC (wdV x)
 generalize mapB loC (wdV x)=S at hms HR⊢
 go_wp2_with fail
 refine (l9Text_any S _ (by omega)).mono ?_
 rintro e w2 ⟨v2,rfl,ho2,hb2⟩
 have HO2:=zz (own_base ho2 (base':=w.heap.size) (fun g hg=>Nat.le_trans HB1.out.size (ho2.lt g hg).1));have HB2:=zz (HB1.out.trans (hb2.mono HB1.out.size));clear ho2 hb2
 go_wp2
 exact bodyPost_ret (v:= .tuple #[v2, .bool (texO S).isSome]) (by simp [results,Tryz.results71,go_sem]) rfl ⟨v2,by rw [HR.out.2],by rw [HR.out.1];exact HO2.out,HB2.out⟩
theorem l9Call_first_1 (nm:ByteArray) (v:Value) (ls:List (List Cl)) (w:World) (hr:RowLs w v ls) (hok: ∀l∈ls,okV l=true) (x r:List Cl) (hls:ls=[x]) (hn: ¬nm.toList=[108,101,110,103,116,104]∧ ¬nm.toList=[117,112,112,101,114]∧ ¬nm.toList=[108,111,119,101,114]∧ ¬nm.toList=[109,105,110]∧ ¬nm.toList=[109,97,120]∧nm.toList=[102,105,114,115,116]∧ ¬nm.toList=[114,101,118,101,114,115,101]∧ ¬nm.toList=[99,111,110,116,97,105,110,115]∧ ¬nm.toList=[106,111,105,110]) (hR:callF nm ls=some r) (h5:kdV x=5) (h0:0<myV x) (hp:(partsV x)[0]? =some r):
  Calls Tryz.prog 71 #[.string nm,v] w (NewCB (callR nm ls) (callOK nm ls) w):=by
 obtain ⟨c1,c2,c3,c4,c5,c6,c7,c8,c9⟩:=hn
 obtain ⟨b,o,cap',hv,g1,g2,g3⟩:=some9 hr (by simp [hls])
 have hx:=hok x (by rw [hls];exact List.mem_singleton.mpr rfl)
 have hx0:=pos9 hx
 have hxe:ls[0]'(by simp [hls])=x:=by subst hls;rfl
 subst hv
 obtain ⟨b2,o2,cap2,d0,d1,d2,d3,d4,d5,d6,d7⟩:=at9 hr 0 (by simp [hls]) (by rw [hxe];exact hx0)
 rw [hxe] at d0 d1 d4 d5 d6 d7
 rw [Nat.add_zero] at d0
 unfold maxLen at d2 g2
 have hle:(ls.length:Int)=1:=by rw [hls];rfl
 have HP:=zz (show∀l∈ls,0<l.length from fun l hl=>pos9 (hok l hl))
 have HOK:=zz hok;have HL:=zz hr
 have HXO:=zz hx;have HRX:=zz d7
 have hxw:=word9 hx;have hxm:=many9 hx
 clear hok hr hx d7
 have HR:=zz (some_9 hR);clear hR
 have HK5:=zz (show kindsB ls 5=true by rw [hls,kinds1,h5];rfl)
 have HPP:=zz (fun (u:Value) (w':World) (h:RowC w' u x)=>l8Parts_val u x w' h HXO.out h5)
 have hp0:0<(partsV x).length:=by
  by_cases h:0<(partsV x).length
  ·exact h
  ·rw [List.getElem?_eq_none (by omega)] at hp;cases hp
 have HPR:=zz (show (partsV x)[0]=r by rw [List.getElem?_eq_getElem hp0] at hp;exact Option.some.inj hp)
 clear hls hxe hp
 go_enter Tryz.func71,Tryz.ntmps71
 go_wp2_with fail
 refine (l9Kinds_any _ ls 5 _ HL.out HP.out).mono ?_
 rintro e w' ⟨rfl,rfl⟩
 rw [show kindsB ls 5=true from HK5.out]
 go_wp2_with fail
 refine (HPP.out _ _ HRX.out).mono ?_
 rintro e w1 ⟨v1,us,rfl,ho1,hb1⟩
 have hul:0<us.length:=by rw [ho1.len];exact hp0
 have HE:=zz (show w1.ownsRow w.heap.size 44 3 us[0] r.length (flatC r) by have h:=ho1.each 0 hul hp0;rwa [HPR.out] at h)
 obtain ⟨bp,op,capp,rfl,p1,p2,p3⟩:=some9 ho1.reads hp0
 have z0:w1.cell? ⟨bp,op,none⟩=some us[0]:=by
  have h:=ho1.row
  rcases h.2 with ⟨hh,-⟩|⟨g,cp,cu,hh,-⟩
  ·injection hh with hh;cases hh
  ·injection hh with hh _ hh2;injection hh with hh;injection hh with hh1 hh3
   subst hh1;subst hh3;subst hh2
   rw [h.cellAt 0 (by have:=h.1;omega),List.getElem?_eq_getElem hul]
 unfold maxLen at p2
 have HB1:=zz hb1;clear hb1 ho1
 clear HPR
 generalize us[0]=u0 at HE z0
 generalize (partsV x).length=pn at hp0 p1⊢
 go_wp2
 exact bodyPost_ret (v:= .tuple #[u0, .bool true]) (by simp [results,Tryz.results71,go_sem]) rfl ⟨u0,by rw [HR.out.2],by rw [HR.out.1];exact HE.out,HB1.out⟩
theorem bestB_snoc (mn:Bool) (l:List Cl): ∀(ls:List (List Cl)) (b:List Cl),bestB mn b (ls++[l])=if betB mn l (bestB mn b ls)=true then l else bestB mn b ls:=by
 intro ls
 induction ls with
 |nil=>intro b;rfl
 |cons a t ih=>intro b;rw [List.cons_append,bestB,ih];rfl
theorem cmp3 (x y:Int):(cmpI x y= -1∧x<y)∨(cmpI x y=0∧ ¬x<y∧ ¬y<x)∨(cmpI x y=1∧ ¬x<y∧y<x):=by
 unfold cmpI
 by_cases h1:x<y
 ·rw [if_pos h1];exact .inl ⟨rfl,h1⟩
 ·rw [if_neg h1]
  by_cases h2:y<x
  ·rw [if_pos h2];exact .inr (.inr ⟨rfl,h1,h2⟩)
  ·rw [if_neg h2];exact .inr (.inl ⟨rfl,h1,h2⟩)
theorem kind_at {ls:List (List Cl)} {n:Int} (h:kindsB ls n=true) (k:Nat) (hk:k<ls.length):kdV ls[k]=n:=by
 rw [kindsB,List.all_eq_true] at h
 simpa using h _ (List.getElem_mem hk)
theorem nil_base9 {w wr:World} (h:w.heap.size≤wr.heap.size): ∀g,(Value.slice (some ⟨wr.heap.size,0,none⟩) 0 0).ownBlock=some g→w.heap.size≤g:=fun g hg=>by
 have:wr.heap.size=g:=by simpa [Value.ownBlock] using hg
 omega
theorem own_nil9 (w:World):(w.alloc (.cells #[] 44)).ownsRow w.heap.size 44 3 (.slice (some ⟨w.heap.size,0,none⟩) 0 0) 0 []:=
 World.ownsRow_lit (e:=44) (size:=3) (base:=w.heap.size) w #[] 0 (Nat.le_refl _) (by unfold maxLen;omega) rfl
theorem l9Call_min_1 (nm:ByteArray) (v:Value) (ls:List (List Cl)) (w:World) (hr:RowLs w v ls) (hok: ∀l∈ls,okV l=true) (x:List Cl) (xs:List (List Cl)) (hls:ls=x::xs) (hn: ¬nm.toList=[108,101,110,103,116,104]∧ ¬nm.toList=[117,112,112,101,114]∧ ¬nm.toList=[108,111,119,101,114]∧nm.toList=[109,105,110]∧ ¬nm.toList=[109,97,120]∧ ¬nm.toList=[102,105,114,115,116]∧ ¬nm.toList=[114,101,118,101,114,115,101]∧ ¬nm.toList=[99,111,110,116,97,105,110,115]∧ ¬nm.toList=[106,111,105,110]) (hR:callF nm ls=some (bestB true x xs)) (hk1:kindsB ls 1=true):
  Calls Tryz.prog 71 #[.string nm,v] w (NewCB (callR nm ls) (callOK nm ls) w):=by
 have HP:=zz (show∀l∈ls,0<l.length from fun l hl=>pos9 (hok l hl))
 have HOK:=zz hok;have HL:=zz hr
 obtain ⟨b,o,cap,hv,q1,q2,g3⟩:=some9 hr (by rw [hls];simp)
 subst hv
 unfold maxLen at q2
 clear hok hr
 obtain ⟨c1,c2,c3,c4,c5,c6,c7,c8,c9⟩:=hn
 have HR:=zz (some_9 hR);clear hR
 have HLS:=zz hls
 have hn0:0<ls.length:=by rw [hls];simp
 have hle:(0:Int)<(ls.length:Int):=by omega
 have HNUM:=zz (show∀k (hk:k<ls.length),rdOK (wdV ls[k])=true∧vB (rdT (wdV ls[k])) (rdB (wdV ls[k]))=true∧(wdV ls[k]).size≤60 from fun k hk=>by
  have ho:=HOK.out _ (List.getElem_mem hk)
  obtain ⟨h1,-⟩:=num_read ho (kind_at hk1 k hk)
  exact ⟨h1,rd_valid _ h1,word9 ho⟩)
 have HK1:=zz hk1;clear hk1 hls
 obtain ⟨i0,hi,hz0,hz1,hz2⟩:=info_parts infoC
 go_enter Tryz.func71,Tryz.ntmps71
 go_wp2_with fail
 refine (l9Kinds_any _ ls 1 _ HL.out HP.out).mono ?_
 rintro e w' ⟨rfl,rfl⟩
 rw [show kindsB ls 1=true from HK1.out]
 go_wp2_with fail
 go_loopw [7,8] (fun q i wr=> ∃k j:Nat,1≤k∧k≤ls.length∧j<k∧i= .int .i64 (k:Int)∧q= .int .i64 (j:Int)∧(∀(h:j<ls.length),ls[j]=bestB true x (xs.take (k-1)))∧Below w.heap.size w wr) (fun _ i _=>ls.length-(intOf i).toNat)
 case atStart=>exact ⟨1,0,Nat.le_refl _,hn0,by omega,rfl,rfl,fun h=>by have:=HLS.out;subst this;rfl,Below.refl _ _⟩
 case round=>
  obtain ⟨k,j,hk1,hk,hjk,rfl,rfl,hbest,hb⟩:=hrel
  have HB:=zz hb;have HBE:=zz hbest;clear hb hbest
  have hj:j<ls.length:=by omega
  obtain ⟨b3,o3,cap3,e0,e1,e2,e3,e4,e5,e6,e7⟩:=at9 HL.out j hj (HP.out _ (List.getElem_mem hj))
  have HRJ:=zz e7
  have hj0:=HP.out _ (List.getElem_mem hj)
  unfold maxLen at e2
  by_cases hlt:k<ls.length
  ·obtain ⟨b2,o2,cap2,d0,d1,d2,d3,d4,d5,d6,-⟩:=at9 HL.out k hlt (HP.out _ (List.getElem_mem hlt))
   have hk0:=HP.out _ (List.getElem_mem hlt)
   unfold maxLen at d2
   obtain ⟨nk1,nk2,nk3⟩:=HNUM.out k hlt
   obtain ⟨nj1,nj2,nj3⟩:=HNUM.out j hj
   have HNX:=zz (show bestB true x (xs.take (k+1-1))=if betB true ls[k] ls[j]=true then ls[k] else ls[j] by
    have hx1:k-1<xs.length:=by have:=HLS.out;subst this;simp at hlt;omega
    have hx2:xs[k-1]=ls[k]:=by
     have:=HLS.out;subst this
     obtain ⟨k',rfl⟩: ∃k',k=k'+1:=⟨k-1,by omega⟩
     rfl
    rw [show k+1-1=(k-1)+1 by omega,List.take_succ_eq_append_getElem hx1,bestB_snoc,hx2,←HBE.out hj])
   have d0:=(HB.out.cell (p:=⟨b,o+k,none⟩) g3).trans d0
   have d4:=(HB.out.cell (p:=⟨b2,o2,none⟩) d3).trans d4
   have d5:=(HB.out.cell (p:=⟨b2,o2+1,none⟩) d3).trans d5
   have d6:=(HB.out.cell (p:=⟨b2,o2+2,none⟩) d3).trans d6
   obtain ⟨sk,hsk⟩: ∃s,wdV ls[k]=s:=⟨_,rfl⟩
   obtain ⟨sj,hsj⟩: ∃s,wdV ls[j]=s:=⟨_,rfl⟩
   rw [show betB true ls[k] ls[j]=betB true [(0,sk,0)] [(0,sj,0)] by unfold betB;rw [hsk,hsj];rfl] at HNX
   rw [hsk] at d5 nk1 nk2 nk3
   rw [hsj] at e5 nj1 nj2 nj3
   have NK1:=zz nk1;have NJ1:=zz nj1
   have HC:=zz (show cmpF (vB (rdT sk) (rdB sk)&&vB (rdT sj) (rdB sj)) (rdT sk*rdB sj) (rdT sj*rdB sk)=cmpI (rdT sk*rdB sj) (rdT sj*rdB sk) by rw [nk2,nj2];rfl)
   clear nk1 nj1 nk2 nj2 hsk hsj e7
   generalize hlk:ls[k].length=lk at d0 d1 hk0
   generalize hlj:ls[j].length=lj at e0 e1 hj0
   generalize kdV ls[k]=kk at d4
   generalize myV ls[k]=mk at d6
   generalize kdV ls[j]=kj at e4
   generalize myV ls[j]=mj at e6
   clear hlk hlj
   go_wp2_with fail
   refine (readFraction_spec sk _ (by omega)).mono ?_
   rintro e w1 ⟨rfl,hb1⟩
   have HB1:=zz (HB.out.trans (hb1.mono HB.out.size));clear hb1 d0 d4 d5 d6
   have HB1a:=zz (HB1.out.alloc HB1.out.size (.cells #[.int .i64 (rdT sk), .int .i64 (rdB sk)] 94))
   have HFA:=zz (FrAt.new w1 (rdT sk) (rdB sk) 94)
   have e0:=(HB1a.out.cell (p:=⟨b,o+j,none⟩) g3).trans e0
   have e4:=(HB1a.out.cell (p:=⟨b3,o3,none⟩) e3).trans e4
   have e5:=(HB1a.out.cell (p:=⟨b3,o3+1,none⟩) e3).trans e5
   have e6:=(HB1a.out.cell (p:=⟨b3,o3+2,none⟩) e3).trans e6
   go_wp2_with fail
   refine (readFraction_spec sj _ (by omega)).mono ?_
   rintro e w2 ⟨rfl,hb2⟩
   have HB2:=zz (HB1a.out.trans (hb2.mono HB1a.out.size));clear e0 e4 e5 e6
   have HFA2:=zz ((HFA.out.keep hb2).al (.cells #[.int .i64 (rdT sj), .int .i64 (rdB sj)] 94));clear hb2
   obtain ⟨z1,z2⟩:=HFA2.out
   obtain ⟨z3,z4⟩:=FrAt.new w2 (rdT sj) (rdB sj) 94
   have HB2a:=zz (HB2.out.alloc HB2.out.size (.cells #[.int .i64 (rdT sj), .int .i64 (rdB sj)] 94))
   go_wp2_with fail
   refine (cmp_spec _ _ _ _ _).mono ?_
   rintro e w3 ⟨rfl,hb3⟩
   rw [HC.out]
   have HB3:=zz (HB2a.out.trans (hb3.mono HB2a.out.size));clear hb3 z1 z2 z3 z4
   rcases cmp3 (rdT sk*rdB sj) (rdT sj*rdB sk) with ⟨hC,hlt3⟩|⟨hC,hlt3,-⟩|⟨hC,hlt3,-⟩
   all_goals (rw [hC];clear hC)
   ·have HN:=zz (show∀(h:k<ls.length),ls[k]=bestB true x (xs.take (k+1-1)) from fun h=>by
     rw [HNX.out,if_pos (by rw [betB,if_pos rfl];exact decide_eq_true hlt3)])
    clear HNX
    go_wp2
    go_roundw
    case rel=>exact ⟨k+1,k,by omega,by omega,by omega,by go_num,rfl,HN.out,HB3.out⟩
    case measure=>simp [intOf];omega
   ·have HN:=zz (show∀(h:j<ls.length),ls[j]=bestB true x (xs.take (k+1-1)) from fun h=>by
     rw [HNX.out,if_neg (by rw [betB,if_pos rfl];intro e;exact hlt3 (of_decide_eq_true e))])
    clear HNX
    go_wp2
    go_roundw
    case rel=>exact ⟨k+1,j,by omega,by omega,by omega,by go_num,rfl,HN.out,HB3.out⟩
    case measure=>simp [intOf];omega
   ·have HN:=zz (show∀(h:j<ls.length),ls[j]=bestB true x (xs.take (k+1-1)) from fun h=>by
     rw [HNX.out,if_neg (by rw [betB,if_pos rfl];intro e;exact hlt3 (of_decide_eq_true e))])
    clear HNX
    go_wp2
    go_roundw
    case rel=>exact ⟨k+1,j,by omega,by omega,by omega,by go_num,rfl,HN.out,HB3.out⟩
    case measure=>simp [intOf];omega
  ·obtain rfl:k=ls.length:=by omega
   have HBR:=zz (show ls[j]=bestB true x xs by
    rw [HBE.out hj]
    have hx:xs.length≤ls.length-1:=by have:=HLS.out;subst this;simp
    rw [List.take_of_length_le hx])
   have e0:=(HB.out.cell (p:=⟨b,o+j,none⟩) g3).trans e0
   have hl60:ls[j].length≤60:=((okV_iff _).mp (HOK.out _ (List.getElem_mem hj))).1
   clear e4 e5 e6 e7
   have hbs:=HB.out.size
   have e0a:=(((Below.refl wr.heap.size wr).alloc (Nat.le_refl _) (.cells #[] 44)).cell (p:=⟨b,o+j,none⟩) (show b<wr.heap.size by omega)).trans e0
   go_wp2_with (at_builtin;refine append_rowC rfl _ _ 26 rfl wr.heap.size 44 i0 (.agg #[.int .i64 0, .string ByteArray.empty, .int .i64 0]) 32 Tryz.underlying26 hi hz0 hz1 hz2 (by decide) _ 0 [] rfl (own_nil9 wr) _ ls[j] rfl ((HRJ.out.mono HB.out).sub_al _) (by unfold maxLen;omega) (by omega) (by simp) ?_;intro v1 w1 hown1 hgrow1)
   have HO1:=zz (show w1.ownsRow w.heap.size 44 3 v1 (callR nm ls).length (flatC (callR nm ls)) by
    rw [HR.out.1,←HBR.out]
    have h:w1.ownsRow wr.heap.size 44 3 v1 ls[j].length (flatC ls[j]):=by simpa using hown1
    exact own_base h (fun g hg=>Nat.le_trans hbs (h.lt g hg).1))
   have HB1:=zz ((HB.out.alloc hbs (.cells #[] 44)).grown hgrow1 (by simp;omega) (nil_base9 hbs));clear hown1 hgrow1
   go_wp2
   exact bodyPost_ret (v:= .tuple #[v1, .bool true]) (by simp [results,Tryz.results71,go_sem]) rfl ⟨v1,by rw [HR.out.2],HO1.out,HB1.out⟩
theorem l9Call_max_1 (nm:ByteArray) (v:Value) (ls:List (List Cl)) (w:World) (hr:RowLs w v ls) (hok: ∀l∈ls,okV l=true) (x:List Cl) (xs:List (List Cl)) (hls:ls=x::xs) (hn: ¬nm.toList=[108,101,110,103,116,104]∧ ¬nm.toList=[117,112,112,101,114]∧ ¬nm.toList=[108,111,119,101,114]∧ ¬nm.toList=[109,105,110]∧nm.toList=[109,97,120]∧ ¬nm.toList=[102,105,114,115,116]∧ ¬nm.toList=[114,101,118,101,114,115,101]∧ ¬nm.toList=[99,111,110,116,97,105,110,115]∧ ¬nm.toList=[106,111,105,110]) (hR:callF nm ls=some (bestB false x xs)) (hk1:kindsB ls 1=true):
  Calls Tryz.prog 71 #[.string nm,v] w (NewCB (callR nm ls) (callOK nm ls) w):=by
 have HP:=zz (show∀l∈ls,0<l.length from fun l hl=>pos9 (hok l hl))
 have HOK:=zz hok;have HL:=zz hr
 obtain ⟨b,o,cap,hv,q1,q2,g3⟩:=some9 hr (by rw [hls];simp)
 subst hv
 unfold maxLen at q2
 clear hok hr
 obtain ⟨c1,c2,c3,c4,c5,c6,c7,c8,c9⟩:=hn
 have HR:=zz (some_9 hR);clear hR
 have HLS:=zz hls
 have hn0:0<ls.length:=by rw [hls];simp
 have hle:(0:Int)<(ls.length:Int):=by omega
 have HNUM:=zz (show∀k (hk:k<ls.length),rdOK (wdV ls[k])=true∧vB (rdT (wdV ls[k])) (rdB (wdV ls[k]))=true∧(wdV ls[k]).size≤60 from fun k hk=>by
  have ho:=HOK.out _ (List.getElem_mem hk)
  obtain ⟨h1,-⟩:=num_read ho (kind_at hk1 k hk)
  exact ⟨h1,rd_valid _ h1,word9 ho⟩)
 have HK1:=zz hk1;clear hk1 hls
 obtain ⟨i0,hi,hz0,hz1,hz2⟩:=info_parts infoC
 go_enter Tryz.func71,Tryz.ntmps71
 go_wp2_with fail
 refine (l9Kinds_any _ ls 1 _ HL.out HP.out).mono ?_
 rintro e w' ⟨rfl,rfl⟩
 rw [show kindsB ls 1=true from HK1.out]
 go_wp2_with fail
 go_loopw [7,8] (fun q i wr=> ∃k j:Nat,1≤k∧k≤ls.length∧j<k∧i= .int .i64 (k:Int)∧q= .int .i64 (j:Int)∧(∀(h:j<ls.length),ls[j]=bestB false x (xs.take (k-1)))∧Below w.heap.size w wr) (fun _ i _=>ls.length-(intOf i).toNat)
 case atStart=>exact ⟨1,0,Nat.le_refl _,hn0,by omega,rfl,rfl,fun h=>by have:=HLS.out;subst this;rfl,Below.refl _ _⟩
 case round=>
  obtain ⟨k,j,hk1,hk,hjk,rfl,rfl,hbest,hb⟩:=hrel
  have HB:=zz hb;have HBE:=zz hbest;clear hb hbest
  have hj:j<ls.length:=by omega
  obtain ⟨b3,o3,cap3,e0,e1,e2,e3,e4,e5,e6,e7⟩:=at9 HL.out j hj (HP.out _ (List.getElem_mem hj))
  have HRJ:=zz e7
  have hj0:=HP.out _ (List.getElem_mem hj)
  unfold maxLen at e2
  by_cases hlt:k<ls.length
  ·obtain ⟨b2,o2,cap2,d0,d1,d2,d3,d4,d5,d6,-⟩:=at9 HL.out k hlt (HP.out _ (List.getElem_mem hlt))
   have hk0:=HP.out _ (List.getElem_mem hlt)
   unfold maxLen at d2
   obtain ⟨nk1,nk2,nk3⟩:=HNUM.out k hlt
   obtain ⟨nj1,nj2,nj3⟩:=HNUM.out j hj
   have HNX:=zz (show bestB false x (xs.take (k+1-1))=if betB false ls[k] ls[j]=true then ls[k] else ls[j] by
    have hx1:k-1<xs.length:=by have:=HLS.out;subst this;simp at hlt;omega
    have hx2:xs[k-1]=ls[k]:=by
     have:=HLS.out;subst this
     obtain ⟨k',rfl⟩: ∃k',k=k'+1:=⟨k-1,by omega⟩
     rfl
    rw [show k+1-1=(k-1)+1 by omega,List.take_succ_eq_append_getElem hx1,bestB_snoc,hx2,←HBE.out hj])
   have d0:=(HB.out.cell (p:=⟨b,o+k,none⟩) g3).trans d0
   have d4:=(HB.out.cell (p:=⟨b2,o2,none⟩) d3).trans d4
   have d5:=(HB.out.cell (p:=⟨b2,o2+1,none⟩) d3).trans d5
   have d6:=(HB.out.cell (p:=⟨b2,o2+2,none⟩) d3).trans d6
   obtain ⟨sk,hsk⟩: ∃s,wdV ls[k]=s:=⟨_,rfl⟩
   obtain ⟨sj,hsj⟩: ∃s,wdV ls[j]=s:=⟨_,rfl⟩
   rw [show betB false ls[k] ls[j]=betB false [(0,sk,0)] [(0,sj,0)] by unfold betB;rw [hsk,hsj];rfl] at HNX
   rw [hsk] at d5 nk1 nk2 nk3
   rw [hsj] at e5 nj1 nj2 nj3
   have NK1:=zz nk1;have NJ1:=zz nj1
   have HC:=zz (show cmpF (vB (rdT sk) (rdB sk)&&vB (rdT sj) (rdB sj)) (rdT sk*rdB sj) (rdT sj*rdB sk)=cmpI (rdT sk*rdB sj) (rdT sj*rdB sk) by rw [nk2,nj2];rfl)
   clear nk1 nj1 nk2 nj2 hsk hsj e7
   generalize hlk:ls[k].length=lk at d0 d1 hk0
   generalize hlj:ls[j].length=lj at e0 e1 hj0
   generalize kdV ls[k]=kk at d4
   generalize myV ls[k]=mk at d6
   generalize kdV ls[j]=kj at e4
   generalize myV ls[j]=mj at e6
   clear hlk hlj
   go_wp2_with fail
   refine (readFraction_spec sk _ (by omega)).mono ?_
   rintro e w1 ⟨rfl,hb1⟩
   have HB1:=zz (HB.out.trans (hb1.mono HB.out.size));clear hb1 d0 d4 d5 d6
   have HB1a:=zz (HB1.out.alloc HB1.out.size (.cells #[.int .i64 (rdT sk), .int .i64 (rdB sk)] 94))
   have HFA:=zz (FrAt.new w1 (rdT sk) (rdB sk) 94)
   have e0:=(HB1a.out.cell (p:=⟨b,o+j,none⟩) g3).trans e0
   have e4:=(HB1a.out.cell (p:=⟨b3,o3,none⟩) e3).trans e4
   have e5:=(HB1a.out.cell (p:=⟨b3,o3+1,none⟩) e3).trans e5
   have e6:=(HB1a.out.cell (p:=⟨b3,o3+2,none⟩) e3).trans e6
   go_wp2_with fail
   refine (readFraction_spec sj _ (by omega)).mono ?_
   rintro e w2 ⟨rfl,hb2⟩
   have HB2:=zz (HB1a.out.trans (hb2.mono HB1a.out.size));clear e0 e4 e5 e6
   have HFA2:=zz ((HFA.out.keep hb2).al (.cells #[.int .i64 (rdT sj), .int .i64 (rdB sj)] 94));clear hb2
   obtain ⟨z1,z2⟩:=HFA2.out
   obtain ⟨z3,z4⟩:=FrAt.new w2 (rdT sj) (rdB sj) 94
   have HB2a:=zz (HB2.out.alloc HB2.out.size (.cells #[.int .i64 (rdT sj), .int .i64 (rdB sj)] 94))
   go_wp2_with fail
   refine (cmp_spec _ _ _ _ _).mono ?_
   rintro e w3 ⟨rfl,hb3⟩
   rw [HC.out]
   have HB3:=zz (HB2a.out.trans (hb3.mono HB2a.out.size));clear hb3 z1 z2 z3 z4
   rcases cmp3 (rdT sk*rdB sj) (rdT sj*rdB sk) with ⟨hC,h4⟩|⟨hC,-,hlt3⟩|⟨hC,-,hlt3⟩
   all_goals (rw [hC];clear hC)
   ·have hlt3: ¬rdT sj*rdB sk<rdT sk*rdB sj:=by omega
    have HN:=zz (show∀(h:j<ls.length),ls[j]=bestB false x (xs.take (k+1-1)) from fun h=>by
     rw [HNX.out,if_neg (by rw [betB,if_neg (by decide)];intro e;exact hlt3 (of_decide_eq_true e))])
    clear HNX
    go_wp2
    go_roundw
    case rel=>exact ⟨k+1,j,by omega,by omega,by omega,by go_num,rfl,HN.out,HB3.out⟩
    case measure=>simp [intOf];omega
   ·have HN:=zz (show∀(h:j<ls.length),ls[j]=bestB false x (xs.take (k+1-1)) from fun h=>by
     rw [HNX.out,if_neg (by rw [betB,if_neg (by decide)];intro e;exact hlt3 (of_decide_eq_true e))])
    clear HNX
    go_wp2
    go_roundw
    case rel=>exact ⟨k+1,j,by omega,by omega,by omega,by go_num,rfl,HN.out,HB3.out⟩
    case measure=>simp [intOf];omega
   ·have HN:=zz (show∀(h:k<ls.length),ls[k]=bestB false x (xs.take (k+1-1)) from fun h=>by
     rw [HNX.out,if_pos (by rw [betB,if_neg (by decide)];exact decide_eq_true hlt3)])
    clear HNX
    go_wp2
    go_roundw
    case rel=>exact ⟨k+1,k,by omega,by omega,by omega,by go_num,rfl,HN.out,HB3.out⟩
    case measure=>simp [intOf];omega
  ·obtain rfl:k=ls.length:=by omega
   have HBR:=zz (show ls[j]=bestB false x xs by
    rw [HBE.out hj]
    have hx:xs.length≤ls.length-1:=by have:=HLS.out;subst this;simp
    rw [List.take_of_length_le hx])
   have e0:=(HB.out.cell (p:=⟨b,o+j,none⟩) g3).trans e0
   have hl60:ls[j].length≤60:=((okV_iff _).mp (HOK.out _ (List.getElem_mem hj))).1
   clear e4 e5 e6 e7
   have hbs:=HB.out.size
   have e0a:=(((Below.refl wr.heap.size wr).alloc (Nat.le_refl _) (.cells #[] 44)).cell (p:=⟨b,o+j,none⟩) (show b<wr.heap.size by omega)).trans e0
   go_wp2_with (at_builtin;refine append_rowC rfl _ _ 26 rfl wr.heap.size 44 i0 (.agg #[.int .i64 0, .string ByteArray.empty, .int .i64 0]) 32 Tryz.underlying26 hi hz0 hz1 hz2 (by decide) _ 0 [] rfl (own_nil9 wr) _ ls[j] rfl ((HRJ.out.mono HB.out).sub_al _) (by unfold maxLen;omega) (by omega) (by simp) ?_;intro v1 w1 hown1 hgrow1)
   have HO1:=zz (show w1.ownsRow w.heap.size 44 3 v1 (callR nm ls).length (flatC (callR nm ls)) by
    rw [HR.out.1,←HBR.out]
    have h:w1.ownsRow wr.heap.size 44 3 v1 ls[j].length (flatC ls[j]):=by simpa using hown1
    exact own_base h (fun g hg=>Nat.le_trans hbs (h.lt g hg).1))
   have HB1:=zz ((HB.out.alloc hbs (.cells #[] 44)).grown hgrow1 (by simp;omega) (nil_base9 hbs));clear hown1 hgrow1
   go_wp2
   exact bodyPost_ret (v:= .tuple #[v1, .bool true]) (by simp [results,Tryz.results71,go_sem]) rfl ⟨v1,by rw [HR.out.2],HO1.out,HB1.out⟩
theorem infoCS9:(Tryz.prog.info? 26).map (fun i=>(i.zero,i.size,i.bytes))=some (some (.slice none 0 0),1,24):=by kernel_rfl
theorem own_nilS9 (w:World):(w.alloc (.cells #[] 26)).ownsRow w.heap.size 26 1 (.slice (some ⟨w.heap.size,0,none⟩) 0 0) 0 []:=
 World.ownsRow_lit (e:=26) (size:=1) (base:=w.heap.size) w #[] 0 (Nat.le_refl _) (by unfold maxLen;omega) rfl
theorem lisO_one (ls:List (List Cl)):(lisO ls).getD []=oneR ls∧(lisO ls).isSome=okV (listV ls):=by
 unfold lisO oneR
 cases h:okV (listV ls) with
 |true=>rw [if_pos rfl,if_pos rfl];exact ⟨rfl,rfl⟩
 |false=>rw [if_neg (by decide),if_neg (by decide)];exact ⟨rfl,rfl⟩
theorem RowsC.rev {w:World}: ∀{us:List Value} {ls:List (List Cl)},RowsC w us ls→RowsC w us.reverse ls.reverse:=by
 intro us
 induction us with
 |nil=>intro ls h;cases ls with
  |nil=>trivial
  |cons a t=>exact absurd h id
 |cons u us ih=>intro ls h;cases ls with
  |nil=>exact absurd h id
  |cons a t=>rw [List.reverse_cons,List.reverse_cons];exact (ih h.2).snoc h.1
theorem OwnSS.rowsC {w:World} {base:Nat} {v:Value} {us:List Value} {ls:List (List Cl)} (h:OwnSS w base v us ls):RowsC w us ls:=by
 have hr: ∀(us:List Value) (ls:List (List Cl)),us.length=ls.length→(∀(k:Nat) (h:k<us.length) (h':k<ls.length),RowC w us[k] ls[k])→RowsC w us ls:=by
  intro us
  induction us with
  |nil=>intro ls h _;cases ls with
   |nil=>trivial
   |cons a t=>simp at h
  |cons u us ih=>intro ls h hh;cases ls with
   |nil=>simp at h
   |cons a t=>exact ⟨hh 0 (by simp) (by simp),ih t (by simpa using h) (fun k h1 h2=>by have:=hh (k+1) (by simpa using h1) (by simpa using h2);simpa using this)⟩
 exact hr us ls h.len fun k h1 h2=>(RowC.of_own (h.each k h1 h2)).1
theorem parts9 {x:List Cl} (hok:okV x=true) (h5:kdV x=5):(partsV x).length≤8∧lenSS (partsV x)≤60∧(∀p∈partsV x,okV p=true)∧((partsV x).length:Int)=myV x:=by
 obtain ⟨c,t,hl⟩:=okV_cons hok
 obtain ⟨k1,k2,k3⟩:=list_partsV hok hl (by rw [←(kd_cons c t).1,←hl];exact h5)
 have hm:=many9 hok
 have hmy:myV x=c.2.2:=by rw [hl];rfl
 have hlen:=((okV_iff x).mp hok).1
 rw [←k1,listV_len] at hlen
 exact ⟨by omega,by omega,k2,by omega⟩
theorem slot9 {w:World} {base n:Nat} {T:TypeId} {b o cap m:Nat} {us:List Value} (h:w.ownsRow base T 1 (.slice (some ⟨b,o,none⟩) m cap) n us) (k:Nat) (hk:k<us.length):w.cell? ⟨b,o+k,none⟩=some us[k]:=by
 rcases h.2 with ⟨hh,-⟩|⟨g,cp,cu,hh,-⟩
 ·injection hh with hh;cases hh
 ·injection hh with hh hm hh2;injection hh with hh;injection hh with hh1 hh3
  subst hh1;subst hh3;subst hh2;subst hm
  rw [Nat.zero_add,h.cellAt k (by have:=h.1;omega),List.getElem?_eq_getElem hk]
theorem joinSep_nil (sep:ByteArray):joinSep sep []=⟨#[]⟩:=rfl
theorem joinSep_one (sep y:ByteArray):joinSep sep [y]=y:=rfl
theorem joinSep_snoc (sep y:ByteArray) (l:List ByteArray) (h:l≠[]):joinSep sep (l++[y])=joinSep sep l++sep++y:=by
 cases l with
 |nil=>exact absurd rfl h
 |cons a t=>simp [joinSep,List.foldl_append]
theorem empty_app (s:ByteArray):(⟨#[]⟩:ByteArray)++s=s:=by apply ByteArray.ext;simp
theorem l9Call_reverse_1 (nm:ByteArray) (v:Value) (ls:List (List Cl)) (w:World) (hr:RowLs w v ls) (hok: ∀l∈ls,okV l=true) (x:List Cl) (hls:ls=[x]) (hn: ¬nm.toList=[108,101,110,103,116,104]∧ ¬nm.toList=[117,112,112,101,114]∧ ¬nm.toList=[108,111,119,101,114]∧ ¬nm.toList=[109,105,110]∧ ¬nm.toList=[109,97,120]∧ ¬nm.toList=[102,105,114,115,116]∧nm.toList=[114,101,118,101,114,115,101]∧ ¬nm.toList=[99,111,110,116,97,105,110,115]∧ ¬nm.toList=[106,111,105,110]) (hR:callF nm ls=lisO (partsV x).reverse) (h5:kdV x=5):
  Calls Tryz.prog 71 #[.string nm,v] w (NewCB (callR nm ls) (callOK nm ls) w):=by
 obtain ⟨c1,c2,c3,c4,c5,c6,c7,c8,c9⟩:=hn
 obtain ⟨b,o,cap',hv,g1,g2,g3⟩:=some9 hr (by simp [hls])
 have hx:=hok x (by rw [hls];exact List.mem_singleton.mpr rfl)
 have hx0:=pos9 hx
 have hxe:ls[0]'(by simp [hls])=x:=by subst hls;rfl
 subst hv
 obtain ⟨b2,o2,cap2,d0,d1,d2,d3,d4,d5,d6,d7⟩:=at9 hr 0 (by simp [hls]) (by rw [hxe];exact hx0)
 rw [hxe] at d0 d1 d4 d5 d6 d7
 rw [Nat.add_zero] at d0
 unfold maxLen at d2 g2
 have hle:(ls.length:Int)=1:=by rw [hls];rfl
 have HP:=zz (show∀l∈ls,0<l.length from fun l hl=>pos9 (hok l hl))
 have HOK:=zz hok;have HL:=zz hr
 have HXO:=zz hx;have HRX:=zz d7
 have hxw:=word9 hx;have hxm:=many9 hx
 clear hok hr hx d7
 have HPP:=zz (fun (u:Value) (w':World) (h:RowC w' u x)=>l8Parts_val u x w' h HXO.out h5)
 obtain ⟨hp8,hp60,hpv,hpm⟩:=parts9 HXO.out h5
 have HPV:=zz hpv
 have HR:=zz (show callR nm ls=oneR (partsV x).reverse∧callOK nm ls=okV (listV (partsV x).reverse) by
  obtain ⟨h1,h2⟩:=lisO_one (partsV x).reverse
  rw [callR,callOK,hR];exact ⟨h1,h2⟩)
 clear hR
 have HK5:=zz (show kindsB ls 5=true by rw [hls,kinds1,h5];rfl)
 obtain ⟨j0,hj,hy0,hy1,hy2⟩:=info_parts infoCS9
 have HZR:=zz (show∀l∈(partsV x).reverse,ShortC l from fun l hl=>okV_short (hpv l (List.mem_reverse.mp hl)))
 have hlr:(partsV x).reverse.length+lenSS (partsV x).reverse≤1048576:=by
  have:lenSS (partsV x).reverse=lenSS (partsV x):=by
   simp only [lenSS]
   have key: ∀L:List (List Cl),L.reverse.flatten.length=L.flatten.length:=by
    intro L
    induction L with
    |nil=>rfl
    |cons a L ih=>simp only [List.reverse_cons,List.flatten_append,List.length_append,List.flatten_cons,List.flatten_nil,List.append_nil,ih];omega
   exact key _
  rw [this,List.length_reverse];omega
 clear hls hxe hpv
 go_enter Tryz.func71,Tryz.ntmps71
 go_wp2_with fail
 refine (l9Kinds_any _ ls 5 _ HL.out HP.out).mono ?_
 rintro e w' ⟨rfl,rfl⟩
 rw [show kindsB ls 5=true from HK5.out]
 go_wp2_with fail
 refine (HPP.out _ _ HRX.out).mono ?_
 rintro e w1 ⟨v1,us,rfl,ho1,hb1⟩
 have HO1:=zz ho1;have HB1:=zz hb1;have HU1:=zz ho1.rowsC;have HR1:=zz ho1.row;have HRL1:=zz ho1.reads
 have hul:=ho1.len
 clear ho1 hb1
 obtain ⟨m,hm⟩: ∃m,(partsV x).length=m:=⟨_,rfl⟩
 rw [hm] at hul hp8
 obtain ⟨ap,cp,rfl⟩:=own9 HR1.out
 have HM:=zz hm
 have hpcap: ∃cp',cp=cp'∧m≤cp∧cp≤maxLen:=by
  obtain ⟨a,c,h1,h2,h3⟩:=shape9 HRL1.out
  injection h1 with _ _ h4;subst h4
  exact ⟨_,rfl,by rw [←hm];exact h2,h3⟩
 obtain ⟨-,-,hpc,hpx⟩:=hpcap
 unfold maxLen at hpx
 rw [hm] at HR1 HRL1⊢
 clear hm
 go_wp2_with fail
 go_loopw [15,16] (fun a i wr=> ∃D:Nat,D≤m∧i= .int .i64 ((D:Int)-1)∧wr.ownsRow w1.heap.size 26 1 a (m-D) (us.drop D).reverse∧Below w1.heap.size w1 wr) (fun _ i _=>(intOf i+1).toNat)
 case atStart=>exact ⟨m,Nat.le_refl _,by go_num,by rw [Nat.sub_self,List.drop_eq_nil_of_le (by omega)];exact own_nilS9 w1,(Below.refl _ _).alloc (Nat.le_refl _) _⟩
 case round=>
  obtain ⟨D,hD,rfl,hown,hb⟩:=hrel
  have HB:=zz hb;have HO:=zz hown;clear hb hown
  obtain ⟨aa,ac,rfl⟩:=own9 HO.out
  have hbs:=HB.out.size
  have hw1:=HB1.out.size
  by_cases hlt:0<D
  ·obtain ⟨E,rfl⟩: ∃E,D=E+1:=⟨D-1,by omega⟩
   rw [show ((E+1:Nat):Int)-1=(E:Int) by omega]
   have hE:E<us.length:=by omega
   have hEm:E<m:=by omega
   obtain ⟨bp,op,hap⟩: ∃bp op,ap=some ⟨bp,op,none⟩:=by
    obtain ⟨bp,op,cp2,h1,-,-,-⟩:=some9 HRL1.out (by rw [HM.out];omega)
    injection h1 with h1;exact ⟨bp,op,h1⟩
   subst hap
   have hbp:bp<w1.heap.size:=by
    obtain ⟨bp2,op2,cp2,h1,-,-,h4⟩:=some9 HRL1.out (by rw [HM.out];omega)
    injection h1 with h1;injection h1 with h1;injection h1 with h1 _;omega
   obtain ⟨ea,ec,hue⟩:=own9 (HO1.out.each E hE (by rw [HM.out];exact hEm))
   have d0:wr.cell? ⟨bp,op+E,none⟩=some us[E]:=(HB.out.cell (p:=⟨bp,op+E,none⟩) hbp).trans (slot9 HR1.out E hE)
   have HNX:=zz (show (us.drop E).reverse=(us.drop (E+1)).reverse++[us[E]] by rw [List.drop_eq_getElem_cons hE,List.reverse_cons])
   rw [hue] at d0 HNX
   have hmE:m-(E+1)+1=m-E:=by omega
   generalize ((partsV x)[E]'(by rw [HM.out];exact hEm)).length=el at d0 HNX
   clear hue
   go_wp2_with (at_builtin;refine wpList_append_own _ rfl _ _ 99 rfl w1.heap.size 26 j0 (.slice none 0 0) 1 24 Tryz.underlying99 hj hy0 hy1 hy2 rfl (by decide) _ _ _ rfl (HO.out.alloc _) ⟨wr.heap.size,0,none⟩ 1 1 [.slice ea el ec] rfl rfl (cell_one_new _ _ _) (by simp [Value.oneCell']) (by unfold maxLen;omega) (by omega) (by simp;omega) ?_;intro v2 w2 hown2 hgrow2 hnil2)
   have HO2:=zz (show w2.ownsRow w1.heap.size 26 1 v2 (m-E) (us.drop E).reverse by rw [HNX.out,←hmE];exact hown2)
   have HB2:=zz ((HB.out.alloc hbs _).grown hgrow2 (by simp;omega) (fun q hq=>(HO.out.lt q hq).1))
   clear hown2 hgrow2
   go_roundw
   case rel=>exact ⟨E,by omega,by go_num,HO2.out,HB2.out⟩
   case measure=>simp [intOf]
  ·obtain rfl:D=0:=by omega
   have HRV:=zz (show RowLs wr (.slice aa (m-0) ac) (partsV x).reverse from (RowLs.of_own HO.out ((HU1.out.mono HB.out).rev)).1)
   clear HO
   go_wp2_with fail
   refine (l8List_any _ (partsV x).reverse _ HRV.out HZR.out hlr).mono ?_
   rintro e w2 ⟨v2,rfl,ho2,hb2⟩
   have HO2:=zz (own_base ho2 (base':=w.heap.size) (fun g hg=>by have:=(ho2.lt g hg).1;omega));have HB2:=zz ((HB1.out.trans (HB.out.mono hw1)).trans (hb2.mono (by omega)));clear ho2 hb2
   go_wp2
   exact bodyPost_ret (v:= .tuple #[v2, .bool (okV (listV (partsV x).reverse))]) (by simp [results,Tryz.results71,go_sem]) rfl ⟨v2,by rw [HR.out.2],by rw [HR.out.1];exact HO2.out,HB2.out⟩
theorem l9Call_contains_1 (nm:ByteArray) (v:Value) (ls:List (List Cl)) (w:World) (hr:RowLs w v ls) (hok: ∀l∈ls,okV l=true) (x y:List Cl) (hls:ls=[x,y]) (hn: ¬nm.toList=[108,101,110,103,116,104]∧ ¬nm.toList=[117,112,112,101,114]∧ ¬nm.toList=[108,111,119,101,114]∧ ¬nm.toList=[109,105,110]∧ ¬nm.toList=[109,97,120]∧ ¬nm.toList=[102,105,114,115,116]∧ ¬nm.toList=[114,101,118,101,114,115,101]∧nm.toList=[99,111,110,116,97,105,110,115]∧ ¬nm.toList=[106,111,105,110]) (B:Bool) (hB:B=true↔y∈partsV x) (hR:callF nm ls=some (truV B)) (h5:kdV x=5):
  Calls Tryz.prog 71 #[.string nm,v] w (NewCB (callR nm ls) (callOK nm ls) w):=by
 obtain ⟨c1,c2,c3,c4,c5,c6,c7,c8,c9⟩:=hn
 obtain ⟨b,o,cap',hv,g1,g2,g3⟩:=some9 hr (by simp [hls])
 have hx:=hok x (by rw [hls];simp)
 have hy:=hok y (by rw [hls];simp)
 have hx0:=pos9 hx;have hy0:=pos9 hy
 have hxe:ls[0]'(by simp [hls])=x:=by subst hls;rfl
 have hye:ls[1]'(by simp [hls])=y:=by subst hls;rfl
 subst hv
 obtain ⟨b2,o2,cap2,d0,d1,d2,d3,d4,d5,d6,d7⟩:=at9 hr 0 (by simp [hls]) (by rw [hxe];exact hx0)
 obtain ⟨b3,o3,cap3,e0,e1,e2,e3,e4,e5,e6,e7⟩:=at9 hr 1 (by simp [hls]) (by rw [hye];exact hy0)
 rw [hxe] at d0 d1 d4 d5 d6 d7
 rw [hye] at e0 e1 e4 e5 e6 e7
 rw [Nat.add_zero] at d0
 unfold maxLen at d2 e2 g2
 have hle:(ls.length:Int)=2:=by rw [hls];rfl
 have hne1: ¬(ls.length:Int)=1:=by omega
 have HP:=zz (show∀l∈ls,0<l.length from fun l hl=>pos9 (hok l hl))
 have HOK:=zz hok;have HL:=zz hr
 have HXO:=zz hx;have HRX:=zz d7;have HYO:=zz hy;have HRY:=zz e7
 have hxw:=word9 hx;have hxm:=many9 hx;have hyw:=word9 hy
 clear hok hr hx hy d7 e7
 have HPP:=zz (fun (u:Value) (w':World) (h:RowC w' u x)=>l8Parts_val u x w' h HXO.out h5)
 obtain ⟨hp8,hp60,hpv,hpm⟩:=parts9 HXO.out h5
 have HPV:=zz hpv
 have HR:=zz (some_9 hR);clear hR
 have HBB:=zz hB;clear hB
 rw [h5] at d4
 clear hls hxe hye hpv
 go_enter Tryz.func71,Tryz.ntmps71
 go_wp2_with fail
 refine (HPP.out _ _ HRX.out).mono ?_
 rintro e w1 ⟨v1,us,rfl,ho1,hb1⟩
 have HO1:=zz ho1;have HB1:=zz hb1;have HU1:=zz ho1.rowsC;have HR1:=zz ho1.row;have HRL1:=zz ho1.reads
 have hul:=ho1.len
 clear ho1 hb1
 obtain ⟨m,hm⟩: ∃m,(partsV x).length=m:=⟨_,rfl⟩
 rw [hm] at hul hp8
 obtain ⟨ap,cp,rfl⟩:=own9 HR1.out
 have HM:=zz hm
 have hpcap:m≤cp∧cp≤maxLen:=by
  obtain ⟨a,c,h1,h2,h3⟩:=shape9 HRL1.out
  injection h1 with _ _ h4;subst h4
  exact ⟨by rw [←hm];exact h2,h3⟩
 obtain ⟨hpc,hpx⟩:=hpcap
 unfold maxLen at hpx
 rw [hm] at HR1 HRL1⊢
 clear hm
 go_wp2_with fail
 go_loopw [18,19] (fun f i wr=> ∃(k:Nat) (F:Bool),k≤m∧i= .int .i64 (k:Int)∧f= .bool F∧(F=true↔y∈(partsV x).take k)∧Below w1.heap.size w1 wr) (fun _ i _=>m-(intOf i).toNat)
 case atStart=>exact ⟨0,false,Nat.zero_le _,rfl,rfl,by simp,Below.refl _ _⟩
 case round=>
  obtain ⟨k,F,hk,rfl,rfl,hF,hb⟩:=hrel
  have HB:=zz hb;have HF:=zz hF;clear hb hF
  have hw1:=HB1.out.size
  have hbs:=HB.out.size
  by_cases hlt:k<m
  ·have HNX:=zz (show (partsV x).take (k+1)=(partsV x).take k++[(partsV x)[k]'(by rw [HM.out];exact hlt)] from List.take_succ_eq_append_getElem _)
   cases F with
   |true=>
    have HN:=zz (show true=true↔y∈(partsV x).take (k+1) from ⟨fun _=>by rw [HNX.out];exact List.mem_append_left _ (HF.out.mp rfl),fun _=>rfl⟩)
    go_wp2
    go_quiet (fail)
    have HBQ:=zz (HB.out.trans (show Below w1.heap.size wr (wr.drewN nq) from ⟨rfl,rfl,rfl,Nat.le_refl _,fun _ _=>rfl⟩))
    go_wp2
    go_roundw
    case rel=>exact ⟨k+1,true,by omega,by go_num,rfl,by have h:=HN.out;simpa using h,HBQ.out⟩
    case measure=>simp [intOf];omega
   |false=>
    have hkp:k<(partsV x).length:=by rw [HM.out];exact hlt
    have hku:k<us.length:=by omega
    obtain ⟨bp,op,hap⟩: ∃bp op,ap=some ⟨bp,op,none⟩:=by
     obtain ⟨bp,op,cp2,h1,-,-,-⟩:=some9 HRL1.out (by omega)
     injection h1 with h1;exact ⟨bp,op,h1⟩
    subst hap
    have hbp:bp<w1.heap.size:=by
     obtain ⟨bp2,op2,cp2,h1,-,-,h4⟩:=some9 HRL1.out (by omega)
     injection h1 with h1;injection h1 with h1;injection h1 with h1 _;omega
    have hkv:=HPV.out _ (List.getElem_mem hkp)
    have hkr:=HU1.out.at k hku hkp
    have HKR:=zz hkr
    have d0:wr.cell? ⟨bp,op+k,none⟩=some us[k]:=(HB.out.cell (p:=⟨bp,op+k,none⟩) hbp).trans (slot9 HR1.out k hku)
    have e0':wr.cell? ⟨b,o+1,none⟩=some (.slice (some ⟨b3,o3,none⟩) y.length cap3):=(HB.out.cell (p:=⟨b,o+1,none⟩) (show b<w1.heap.size by omega)).trans ((HB1.out.cell (p:=⟨b,o+1,none⟩) g3).trans e0)
    have HKY:=zz ((HRY.out.mono HB1.out).mono HB.out)
    have HKX:=zz (HKR.out.mono HB.out)
    have HN:=zz (show decide ((partsV x)[k]=y)=true↔y∈(partsV x).take (k+1) by
     rw [HNX.out,List.mem_append,List.mem_singleton,decide_eq_true_iff]
     constructor
     ·intro h;exact .inr h.symm
     ·rintro (h|h)
      ·have:=HF.out.mpr h;cases this
      ·exact h.symm)
    generalize (partsV x)[k]=pk at HN HKX
    generalize us[k]=uk at d0 HKX
    clear hkv hkr HKR e0
    go_wp2
    go_quiet (first|(go_at_call 96;exact Calls.quiet_of (l8Same_q _ _ pk y _ (HKX.out.drewN _) (HKY.out.drewN _))))
    have HB2:=zz (HB.out.trans (show Below w1.heap.size wr (wr.drewN nq) from ⟨rfl,rfl,rfl,Nat.le_refl _,fun _ _=>rfl⟩))
    go_wp2
    go_roundw
    case rel=>exact ⟨k+1,decide (pk=y),by omega,by go_num,rfl,HN.out,HB2.out⟩
    case measure=>simp [intOf];omega
  ·obtain rfl:k=m:=by omega
   have HFB:=zz (show F=B by
    have h:=HF.out
    rw [List.take_of_length_le (by rw [HM.out];exact Nat.le_refl _)] at h
    exact Bool.eq_iff_iff.mpr (h.trans HBB.out.symm))
   go_wp2_with fail
   refine (l9Truth_any F _).mono ?_
   rintro e w2 ⟨v2,rfl,ho2,hb2⟩
   have HO2:=zz (own_base ho2 (base':=w.heap.size) (fun g hg=>by have:=(ho2.lt g hg).1;omega));have HB2:=zz ((HB1.out.trans (HB.out.mono hw1)).trans (hb2.mono (by omega)));clear ho2 hb2
   go_wp2
   exact bodyPost_ret (v:= .tuple #[v2, .bool true]) (by simp [results,Tryz.results71,go_sem]) rfl ⟨v2,by rw [HR.out.2],by rw [HR.out.1,←HFB.out];exact HO2.out,HB2.out⟩
theorem l9Call_join_1 (nm:ByteArray) (v:Value) (ls:List (List Cl)) (w:World) (hr:RowLs w v ls) (hok: ∀l∈ls,okV l=true) (x y:List Cl) (hls:ls=[x,y]) (hn: ¬nm.toList=[108,101,110,103,116,104]∧ ¬nm.toList=[117,112,112,101,114]∧ ¬nm.toList=[108,111,119,101,114]∧ ¬nm.toList=[109,105,110]∧ ¬nm.toList=[109,97,120]∧ ¬nm.toList=[102,105,114,115,116]∧ ¬nm.toList=[114,101,118,101,114,115,101]∧ ¬nm.toList=[99,111,110,116,97,105,110,115]∧nm.toList=[106,111,105,110]) (hyes:(∀p∈partsV x,kdV p=2)→callF nm ls=texO (joinSep (wdV y) ((partsV x).map wdV))) (hno: ¬(∀p∈partsV x,kdV p=2)→callF nm ls=none) (h5:kdV x=5) (h2:kdV y=2):
  Calls Tryz.prog 71 #[.string nm,v] w (NewCB (callR nm ls) (callOK nm ls) w):=by
 obtain ⟨c1,c2,c3,c4,c5,c6,c7,c8,c9⟩:=hn
 obtain ⟨b,o,cap',hv,g1,g2,g3⟩:=some9 hr (by simp [hls])
 have hx:=hok x (by rw [hls];simp)
 have hy:=hok y (by rw [hls];simp)
 have hx0:=pos9 hx;have hy0:=pos9 hy
 have hxe:ls[0]'(by simp [hls])=x:=by subst hls;rfl
 have hye:ls[1]'(by simp [hls])=y:=by subst hls;rfl
 subst hv
 obtain ⟨b2,o2,cap2,d0,d1,d2,d3,d4,d5,d6,d7⟩:=at9 hr 0 (by simp [hls]) (by rw [hxe];exact hx0)
 obtain ⟨b3,o3,cap3,e0,e1,e2,e3,e4,e5,e6,e7⟩:=at9 hr 1 (by simp [hls]) (by rw [hye];exact hy0)
 rw [hxe] at d0 d1 d4 d5 d6 d7
 rw [hye] at e0 e1 e4 e5 e6 e7
 rw [Nat.add_zero] at d0
 unfold maxLen at d2 e2 g2
 have hle:(ls.length:Int)=2:=by rw [hls];rfl
 have hne1: ¬(ls.length:Int)=1:=by omega
 have HP:=zz (show∀l∈ls,0<l.length from fun l hl=>pos9 (hok l hl))
 have HOK:=zz hok;have HL:=zz hr
 have HXO:=zz hx;have HRX:=zz d7;have HYO:=zz hy;have HRY:=zz e7
 have hxw:=word9 hx;have hxm:=many9 hx;have hyw:=word9 hy
 clear hok hr hx hy d7 e7
 have HPP:=zz (fun (u:Value) (w':World) (h:RowC w' u x)=>l8Parts_val u x w' h HXO.out h5)
 obtain ⟨hp8,hp60,hpv,hpm⟩:=parts9 HXO.out h5
 have HPV:=zz hpv
 have HY:=zz hyes;have HNO:=zz (fun h=>none9 (hno h));clear hyes hno
 rw [h5] at d4
 rw [h2] at e4
 clear hls hxe hye hpv
 go_enter Tryz.func71,Tryz.ntmps71
 go_wp2_with fail
 refine (HPP.out _ _ HRX.out).mono ?_
 rintro e w1 ⟨v1,us,rfl,ho1,hb1⟩
 have HO1:=zz ho1;have HB1:=zz hb1;have HU1:=zz ho1.rowsC;have HR1:=zz ho1.row;have HRL1:=zz ho1.reads
 have hul:=ho1.len
 clear ho1 hb1
 obtain ⟨m,hm⟩: ∃m,(partsV x).length=m:=⟨_,rfl⟩
 rw [hm] at hul hp8
 obtain ⟨ap,cp,rfl⟩:=own9 HR1.out
 have HM:=zz hm
 have hpcap:m≤cp∧cp≤maxLen:=by
  obtain ⟨a,c,h1,h2,h3⟩:=shape9 HRL1.out
  injection h1 with _ _ h4;subst h4
  exact ⟨by rw [←hm];exact h2,h3⟩
 obtain ⟨hpc,hpx⟩:=hpcap
 unfold maxLen at hpx
 rw [hm] at HR1 HRL1⊢
 clear hm
 have hyw':(wdV y).size≤60:=hyw
 obtain ⟨sep,hsep⟩: ∃s,wdV y=s:=⟨_,rfl⟩
 rw [hsep] at e5 hyw' HY
 clear hyw hsep
 go_wp2_with fail
 go_loopw [21,22] (fun f i wr=> ∃(k:Nat) (S:ByteArray),k≤m∧i= .int .i64 (k:Int)∧f= .string S∧S=joinSep sep (((partsV x).take k).map wdV)∧S.size≤120*k∧(∀j (h:j<(partsV x).length),j<k→kdV (partsV x)[j]=2)∧Below w1.heap.size w1 wr) (fun _ i _=>m-(intOf i).toNat)
 case atStart=>exact ⟨0,⟨#[]⟩,Nat.zero_le _,rfl,rfl,by rw [List.take_zero];rfl,Nat.zero_le _,fun j _ h=>by omega,Below.refl _ _⟩
 case round=>
  obtain ⟨k,S,hk,rfl,rfl,hS,hz,hall,hb⟩:=hrel
  have HB:=zz hb;have HS:=zz hS;have HAL:=zz hall;clear hb hS hall
  have hw1:=HB1.out.size
  have hbs:=HB.out.size
  by_cases hlt:k<m
  ·have HNX:=zz (show (partsV x).take (k+1)=(partsV x).take k++[(partsV x)[k]'(by rw [HM.out];exact hlt)] from List.take_succ_eq_append_getElem _)
   have hkp:k<(partsV x).length:=by rw [HM.out];exact hlt
   have hku:k<us.length:=by omega
   obtain ⟨bp,op,hap⟩: ∃bp op,ap=some ⟨bp,op,none⟩:=by
    obtain ⟨bp,op,cp2,h1,-,-,-⟩:=some9 HRL1.out (by omega)
    injection h1 with h1;exact ⟨bp,op,h1⟩
   subst hap
   have hbp:bp<w1.heap.size:=by
    obtain ⟨bp2,op2,cp2,h1,-,-,h4⟩:=some9 HRL1.out (by omega)
    injection h1 with h1;injection h1 with h1;injection h1 with h1 _;omega
   have hkv:=HPV.out _ (List.getElem_mem hkp)
   have hkr:=HU1.out.at k hku hkp
   have HKR:=zz hkr
   have d0:wr.cell? ⟨bp,op+k,none⟩=some us[k]:=(HB.out.cell (p:=⟨bp,op+k,none⟩) hbp).trans (slot9 HR1.out k hku)
   have hwk:=word9 hkv
   obtain ⟨b4,o4,cap4,hu4,f1,f2,f3,f4,f5,f6⟩:=head9 (hkr.mono HB.out) (pos9 hkv)
   rw [hu4] at d0
   have hkl0:=pos9 hkv
   unfold maxLen at f2
   have e0':wr.cell? ⟨b,o+1,none⟩=some (.slice (some ⟨b3,o3,none⟩) y.length cap3):=(HB.out.cell (p:=⟨b,o+1,none⟩) (show b<w1.heap.size by omega)).trans ((HB1.out.cell (p:=⟨b,o+1,none⟩) g3).trans e0)
   have e4':wr.cell? ⟨b3,o3,none⟩=some (.int .i64 2):=(HB.out.cell (p:=⟨b3,o3,none⟩) (show b3<w1.heap.size by omega)).trans ((HB1.out.cell (p:=⟨b3,o3,none⟩) e3).trans e4)
   have e5':wr.cell? ⟨b3,o3+1,none⟩=some (.string sep):=(HB.out.cell (p:=⟨b3,o3+1,none⟩) (show b3<w1.heap.size by omega)).trans ((HB1.out.cell (p:=⟨b3,o3+1,none⟩) e3).trans e5)
   have e6':wr.cell? ⟨b3,o3+2,none⟩=some (.int .i64 (myV y)):=(HB.out.cell (p:=⟨b3,o3+2,none⟩) (show b3<w1.heap.size by omega)).trans ((HB1.out.cell (p:=⟨b3,o3+2,none⟩) e3).trans e6)
   clear hkr HKR hkv hu4
   by_cases hkd:kdV (partsV x)[k]=2
   ·have t0:(kdV (partsV x)[k] !=2)=false:=by rw [hkd];rfl
    have HA:=zz (show∀j (h:j<(partsV x).length),j<k+1→kdV (partsV x)[j]=2 from fun j h hj=>by
     by_cases hjk:j=k
     ·subst hjk;exact hkd
     ·exact HAL.out j h (by omega))
    have HSX:=zz (show joinSep sep (((partsV x).take (k+1)).map wdV)=if k=0 then S++wdV (partsV x)[k] else S++sep++wdV (partsV x)[k] by
     rw [HNX.out,List.map_append,List.map_cons,List.map_nil,HS.out]
     by_cases h0:k=0
     ·subst h0;rw [if_pos rfl,List.take_zero,List.map_nil,List.nil_append,joinSep_one,joinSep_nil,empty_app]
     ·rw [if_neg h0,joinSep_snoc _ _ _ (by
       intro h;have:=congrArg List.length h
       rw [List.length_map,List.length_take,List.length_nil] at this;omega)])
    clear hkd
    generalize kdV (partsV x)[k]=kk at f4 t0
    generalize myV (partsV x)[k]=mk at f6
    generalize wdV (partsV x)[k]=wk at f5 HSX hwk
    generalize (partsV x)[k].length=lk at d0 f1 hkl0
    by_cases h0:k=0
    ·have HSY:=zz (show joinSep sep (((partsV x).take (k+1)).map wdV)=S++wk by rw [HSX.out,if_pos h0])
     have hzs:(S++wk).size≤120*(k+1):=by rw [ByteArray.size_append];omega
     have hk0: ¬(0:Int)<(k:Int):=by omega
     have hsm: ¬9223372036854775807<S.size+wk.size:=by omega
     clear HSX h0
     go_wp2
     go_roundw
     case rel=>exact ⟨k+1,S++wk,by omega,by go_num,rfl,by rw [HSY.out],hzs,HA.out,HB.out⟩
     case measure=>simp [intOf];omega
    ·have HSY:=zz (show joinSep sep (((partsV x).take (k+1)).map wdV)=S++sep++wk by rw [HSX.out,if_neg h0])
     have hzs:(S++sep++wk).size≤120*(k+1):=by rw [ByteArray.size_append,ByteArray.size_append];omega
     have hk0:(0:Int)<(k:Int):=by omega
     have hsz1:(S++sep).size=S.size+sep.size:=ByteArray.size_append
     have hsm: ¬9223372036854775807<S.size+sep.size:=by omega
     have hsm2: ¬9223372036854775807<S.size+sep.size+wk.size:=by omega
     clear HSX h0
     go_wp2
     go_roundw
     case rel=>exact ⟨k+1,S++sep++wk,by omega,by go_num,rfl,by rw [HSY.out],hzs,HA.out,HB.out⟩
     case measure=>simp [intOf];omega
   ·have t0:(kdV (partsV x)[k] !=2)=true:=bne_iff_ne.mpr hkd
    have HR:=zz (HNO.out (fun h=>hkd (h _ (List.getElem_mem hkp))))
    clear hkd
    generalize kdV (partsV x)[k]=kk at f4 t0
    generalize myV (partsV x)[k]=mk at f6
    generalize wdV (partsV x)[k]=wk at f5 hwk
    generalize (partsV x)[k].length=lk at d0 f1 hkl0
    have HBW:=zz (HB1.out.trans (HB.out.mono hw1))
    go_wp2
    exact bodyPost_ret (v:= .tuple #[.slice (some ⟨wr.heap.size,0,none⟩) 0 0, .bool false]) (by simp [results,Tryz.results71,go_sem]) rfl (by rw [HR.out.1,HR.out.2];exact NewCB.none w wr HBW.out)
  ·obtain rfl:k=m:=by omega
   have HR:=zz (show callR nm ls=(texO S).getD []∧callOK nm ls=(texO S).isSome by
    have h:=HY.out (fun p hp=>by
     obtain ⟨j,hj,rfl⟩:=List.getElem_of_mem hp
     exact HAL.out j hj (by rw [←HM.out];exact hj))
    have e:=HS.out
    rw [List.take_of_length_le (by rw [HM.out];exact Nat.le_refl _)] at e
    rw [callR,callOK,h,e];exact ⟨rfl,rfl⟩)
   go_wp2_with fail
   refine (l9Text_any S _ (by omega)).mono ?_
   rintro e w2 ⟨v2,rfl,ho2,hb2⟩
   have HO2:=zz (own_base ho2 (base':=w.heap.size) (fun g hg=>by have:=(ho2.lt g hg).1;omega));have HB2:=zz ((HB1.out.trans (HB.out.mono hw1)).trans (hb2.mono (by omega)));clear ho2 hb2
   go_wp2
   exact bodyPost_ret (v:= .tuple #[v2, .bool (texO S).isSome]) (by simp [results,Tryz.results71,go_sem]) rfl ⟨v2,by rw [HR.out.2],by rw [HR.out.1];exact HO2.out,HB2.out⟩
theorem list_one {α:Type} {l:List α} (h:l.length=1): ∃x,l=[x]:=by
 match l,h with
 |[x],_=>exact ⟨x,rfl⟩
theorem list_two {α:Type} {l:List α} (h:l.length=2): ∃x y,l=[x,y]:=by
 match l,h with
 |[x,y],_=>exact ⟨x,y,rfl⟩
theorem match_one {β:Type} {ls:List (List Cl)} (h:ls.length≠1) (f:List Cl→Option β):(match ls with|[v]=>f v|_=>none)=none:=by
 match ls,h with
 |[],_=>rfl
 |[x],h=>exact absurd rfl h
 |_::_::_,_=>rfl
theorem match_two {β:Type} {ls:List (List Cl)} (h:ls.length≠2) (f:List Cl→List Cl→Option β):(match ls with|[v,x]=>f v x|_=>none)=none:=by
 match ls,h with
 |[],_=>rfl
 |[_],_=>rfl
 |[_,_],h=>exact absurd rfl h
 |_::_::_::_,_=>rfl
theorem kinds_iff (ls:List (List Cl)) (n:Int):kindsB ls n=true↔ ∀x∈ls,kdV x=n:=by
 rw [kindsB,List.all_eq_true];simp only [beq_iff_eq]
open Classical in
theorem l9Call_any (nm:ByteArray) (v:Value) (ls:List (List Cl)) (w:World) (hr:RowLs w v ls) (hok: ∀l∈ls,okV l=true):
  Calls Tryz.prog 71 #[.string nm,v] w (NewCB (callR nm ls) (callOK nm ls) w):=by
 by_cases n1:nm=nmLength
 ·have hn:=isLength n1
  by_cases hl:ls.length=1
  ·obtain ⟨x,rfl⟩:=list_one hl
   have e:callF nm [x]=if kdV x=2 then some (numV ((wdV x).size:Int) 1) else if kdV x=5 then some (numV (myV x) 1) else none:=by rw [n1,callF_len]
   by_cases h2:kdV x=2
   ·rw [if_pos h2] at e;exact l9Call_length_2 nm v _ w hr hok x rfl hn e h2
   ·rw [if_neg h2] at e
    by_cases h5:kdV x=5
    ·rw [if_pos h5] at e;exact l9Call_length_5 nm v _ w hr hok x rfl hn e h5
    ·rw [if_neg h5] at e
     exact l9Call_length_k nm v _ w hr hok hn e hl (by rw [kinds1,beq_eq_false_iff_ne];exact h2) (by rw [kinds1,beq_eq_false_iff_ne];exact h5)
  ·exact l9Call_length_n nm v _ w hr hok hn (by rw [n1,callF_len];exact match_one hl _) hl
 by_cases n2:nm=nmUpper
 ·have hn:=isUpper n2
  by_cases hl:ls.length=1
  ·obtain ⟨x,rfl⟩:=list_one hl
   have e:callF nm [x]=if kdV x=2 then texO (mapB upC (wdV x)) else none:=by rw [n2,callF_up]
   by_cases h2:kdV x=2
   ·rw [if_pos h2] at e;exact l9Call_upper_2 nm v _ w hr hok x rfl hn e h2
   ·rw [if_neg h2] at e
    exact l9Call_upper_k nm v _ w hr hok hn e hl (by rw [kinds1,beq_eq_false_iff_ne];exact h2)
  ·exact l9Call_upper_n nm v _ w hr hok hn (by rw [n2,callF_up];exact match_one hl _) hl
 by_cases n3:nm=nmLower
 ·have hn:=isLower n3
  by_cases hl:ls.length=1
  ·obtain ⟨x,rfl⟩:=list_one hl
   have e:callF nm [x]=if kdV x=2 then texO (mapB loC (wdV x)) else none:=by rw [n3,callF_lo]
   by_cases h2:kdV x=2
   ·rw [if_pos h2] at e;exact l9Call_lower_2 nm v _ w hr hok x rfl hn e h2
   ·rw [if_neg h2] at e
    exact l9Call_lower_k nm v _ w hr hok hn e hl (by rw [kinds1,beq_eq_false_iff_ne];exact h2)
  ·exact l9Call_lower_n nm v _ w hr hok hn (by rw [n3,callF_lo];exact match_one hl _) hl
 by_cases n4:nm=nmMin
 ·have hn:=isMin n4
  cases ls with
  |nil=>exact l9Call_min_n nm v _ w hr hok hn (by rw [n4,callF_min]) rfl
  |cons x xs=>
   have e:callF nm (x::xs)=if∀y∈x::xs,kdV y=1 then some (bestB true x xs) else none:=by rw [n4,callF_min]
   by_cases hk:kindsB (x::xs) 1=true
   ·rw [if_pos ((kinds_iff _ _).mp hk)] at e;exact l9Call_min_1 nm v _ w hr hok x xs rfl hn e hk
   ·rw [if_neg (fun h=>hk ((kinds_iff _ _).mpr h))] at e
    exact l9Call_min_k nm v _ w hr hok hn e (by simp) (by simpa using hk)
 by_cases n5:nm=nmMax
 ·have hn:=isMax n5
  cases ls with
  |nil=>exact l9Call_max_n nm v _ w hr hok hn (by rw [n5,callF_max]) rfl
  |cons x xs=>
   have e:callF nm (x::xs)=if∀y∈x::xs,kdV y=1 then some (bestB false x xs) else none:=by rw [n5,callF_max]
   by_cases hk:kindsB (x::xs) 1=true
   ·rw [if_pos ((kinds_iff _ _).mp hk)] at e;exact l9Call_max_1 nm v _ w hr hok x xs rfl hn e hk
   ·rw [if_neg (fun h=>hk ((kinds_iff _ _).mpr h))] at e
    exact l9Call_max_k nm v _ w hr hok hn e (by simp) (by simpa using hk)
 by_cases n6:nm=nmFirst
 ·have hn:=isFirst n6
  by_cases hl:ls.length=1
  ·obtain ⟨x,rfl⟩:=list_one hl
   have e:callF nm [x]=if kdV x=5 then (partsV x)[0]? else none:=by rw [n6,callF_first]
   by_cases h5:kdV x=5
   ·rw [if_pos h5] at e
    obtain ⟨-,-,-,hpm⟩:=parts9 (hok x (List.mem_singleton.mpr rfl)) h5
    by_cases h0:0<(partsV x).length
    ·rw [List.getElem?_eq_getElem h0] at e
     exact l9Call_first_1 nm v _ w hr hok x (partsV x)[0] rfl hn e h5 (by omega) (List.getElem?_eq_getElem h0)
    ·rw [List.getElem?_eq_none (by omega)] at e
     exact l9Call_first_0 nm v _ w hr hok x rfl hn e h5 (by omega)
   ·rw [if_neg h5] at e
    exact l9Call_first_k nm v _ w hr hok hn e hl (by rw [kinds1,beq_eq_false_iff_ne];exact h5)
  ·exact l9Call_first_n nm v _ w hr hok hn (by rw [n6,callF_first];exact match_one hl _) hl
 by_cases n7:nm=nmReverse
 ·have hn:=isReverse n7
  by_cases hl:ls.length=1
  ·obtain ⟨x,rfl⟩:=list_one hl
   have e:callF nm [x]=if kdV x=5 then lisO (partsV x).reverse else none:=by rw [n7,callF_rev]
   by_cases h5:kdV x=5
   ·rw [if_pos h5] at e;exact l9Call_reverse_1 nm v _ w hr hok x rfl hn e h5
   ·rw [if_neg h5] at e
    exact l9Call_reverse_k nm v _ w hr hok hn e hl (by rw [kinds1,beq_eq_false_iff_ne];exact h5)
  ·exact l9Call_reverse_n nm v _ w hr hok hn (by rw [n7,callF_rev];exact match_one hl _) hl
 by_cases n8:nm=nmContains
 ·have hn:=isContains n8
  by_cases hl:ls.length=2
  ·obtain ⟨x,y,rfl⟩:=list_two hl
   have e:callF nm [x,y]=if kdV x=5 then some (truV (decide (y∈partsV x))) else none:=by rw [n8,callF_conL]
   by_cases h5:kdV x=5
   ·rw [if_pos h5] at e;exact l9Call_contains_1 nm v _ w hr hok x y rfl hn (decide (y∈partsV x)) decide_eq_true_iff e h5
   ·rw [if_neg h5] at e;exact l9Call_contains_k nm v _ w hr hok x y rfl hn e h5
  ·exact l9Call_contains_n nm v _ w hr hok hn (by rw [n8,callF_conL];exact match_two hl _) hl
 by_cases n9:nm=nmJoin
 ·have hn:=isJoin n9
  by_cases hl:ls.length=2
  ·obtain ⟨x,y,rfl⟩:=list_two hl
   have e:callF nm [x,y]=if kdV x=5∧kdV y=2∧ ∀p∈partsV x,kdV p=2 then texO (joinSep (wdV y) ((partsV x).map wdV)) else none:=by rw [n9,callF_join]
   by_cases h5:kdV x=5
   ·by_cases h2:kdV y=2
    ·exact l9Call_join_1 nm v _ w hr hok x y rfl hn (fun h=>by rw [e,if_pos ⟨h5,h2,h⟩]) (fun h=>by rw [e,if_neg (fun k=>h k.2.2)]) h5 h2
    ·rw [if_neg (fun k=>h2 k.2.1)] at e;exact l9Call_join_t nm v _ w hr hok x y rfl hn e h5 h2
   ·rw [if_neg (fun k=>h5 k.1)] at e;exact l9Call_join_k nm v _ w hr hok x y rfl hn e h5
  ·exact l9Call_join_n nm v _ w hr hok hn (by rw [n9,callF_join];exact match_two hl _) hl
 exact l9Call_other nm v ls w hr hok (isOther ⟨n1,n2,n3,n4,n5,n6,n7,n8,n9⟩) (callF_other ⟨n1,n2,n3,n4,n5,n6,n7,n8,n9⟩)
end Go.Proofs.YthillfgjpalpcaaGreatDoor
