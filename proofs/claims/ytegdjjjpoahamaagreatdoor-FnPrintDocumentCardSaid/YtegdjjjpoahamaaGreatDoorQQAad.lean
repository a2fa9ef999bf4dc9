/-
  Part of the proof of FnAlignDocument.
-/
import Derived.Test.YtegdjjjpoahamaaGreatDoorQQAac
import Derived.Test.YtegdjjjpoahamaaGreatDoorLineI
import Derived.Deep.RegionHeld3
import Derived.Deep.AppendLies
import Derived.Lib.TrimByte
set_option linter.unusedVariables false
set_option maxHeartbeats 8000000
set_option maxRecDepth 100000
namespace Go.Proofs.YtegdjjjpoahamaaGreatDoor
open Go.RowKit
def Sized (L:List ByteArray):Prop:= ∀t∈L,t.size≤maxLen
theorem lineAt_get (L:List ByteArray) (k:Nat) (h:k<L.length):lineAt L k=L[k]:=by simp [lineAt,List.getElem?_eq_getElem h]
theorem textB_line (t:ByteArray) (n:Nat) (h:n+t.size+1≤20000):(textB t&& !hasL t.data.toList 10)=plainL t.data.toList:=by
 rw [plain_iff,textB]
 have:decide (t.size≤20000)=true:=by simp;omega
 rw [this,Bool.true_and]
def Joins (L:List ByteArray) (e:Ending):Prop:=e= .returned (.tuple #[.string (joinB L), .bool (joinOk L)])
theorem joins_bad (L:List ByteArray) (k:Nat) (hk:k<L.length) (h:okAt L k=false):Joins L (.returned (.tuple #[.string ⟨#[]⟩, .bool false])):=by
 have hb:=joinOk_bad L k hk h
 have hj:joinB L=⟨#[]⟩:=by rw [joinB,hb];rfl
 rw [Joins,hb,hj]
theorem joins_good (L:List ByteArray) (h: ∀j,j<L.length→okAt L j=true):Joins L (.returned (.tuple #[.string (accTo L L.length), .bool true])):=by
 have hb:=joinOk_good L h
 have hj:joinB L=accTo L L.length:=by rw [joinB,hb];rfl
 rw [Joins,hb,hj]
theorem linesText_spec (v:Value) (L:List ByteArray) (w:World) (h:RowOf w v (strs L)) (hz:Sized L):
  Calls Tryz.prog 59 #[v] w fun e w'=>Joins L e∧w=w':=by
 obtain ⟨ao,cap,rfl,h1,h2,h3⟩:=h
 simp only [strs_length] at h1⊢
 unfold maxLen at h2
 have H3:=Lib.hid h3;clear h3
 have HZ:=Lib.hid hz;clear hz
 go_enter Tryz.func59,Tryz.ntmps59
 go_wp2
 go_loop [4,5] (fun o i=> ∃k:Nat,k≤L.length∧i= .int .i64 k∧o= .string (accTo L k)∧(∀j,j<k→okAt L j=true)) (fun _ i=>L.length-(intOf i).toNat)
 case atStart=>exact ⟨0,Nat.zero_le _,rfl,rfl,fun j hj=>by omega⟩
 case round=>
  obtain ⟨k,hk,rfl,rfl,hok⟩:=hrel
  have HK:=Lib.hid hok
  have hacc:=acc_le L k hok
  clear hok
  by_cases hlt:k<L.length
  ·obtain ⟨b,o,hA,-,cc⟩:=H3.out.resolve_left (by intro h;have h':=congrArg List.length h;rw [strs_length] at h';simp only [List.length_nil] at h';omega)
   subst hA
   obtain ⟨t,ht⟩: ∃t,L[k]=t:=⟨_,rfl⟩
   have d1:=cc k (.string t) (by simp [strs,hlt,ht])
   have hts:t.size≤maxLen:=by rw [←ht];exact HZ.out _ (List.getElem_mem _)
   have HT:=Lib.hid (show lineAt L k=t by rw [lineAt_get L k hlt,ht])
   have hts':=hts
   unfold maxLen at hts'
   clear cc ht
   go_wp2_with fail
   refine (textValid_spec t _ hts).mono ?_
   rintro e w' ⟨rfl,rfl⟩
   by_cases hv:textB t=true
   ·rw [hv]
    have HV:=Lib.hid hv;clear hv
    go_wp2_with fail
    refine (l1Has_any t 10 _ hts (by omega) (by omega)).mono ?_
    rintro e w' ⟨rfl,rfl⟩
    by_cases hh:hasL t.data.toList 10=true
    ·rw [hh]
     have HO:=Lib.hid (show okAt L k=false by
      simp only [okAt,HT.out,plain_iff,hh];simp)
     clear hh
     go_wp2
     go_ret2
     exact ⟨joins_bad L k hlt HO.out,rfl⟩
    ·rw [Bool.eq_false_iff.mpr hh]
     have h20:t.size≤20000:=by have:=HV.out;simp only [textB,Bool.and_eq_true,decide_eq_true_eq] at this;exact this.1
     have HP:=Lib.hid (show plainL t.data.toList=true by
      have hv:=HV.out
      simp only [textB,Bool.and_eq_true] at hv
      rw [plain_iff,hv.2,Bool.eq_false_iff.mpr hh];rfl)
     clear hh
     by_cases hroom:(accTo L k).size+t.size+1≤20000
     ·have HO:=Lib.hid (show okAt L k=true by
       rw [okAt,HT.out,HP.out];simp;omega)
      have HA:=Lib.hid (show accTo L (k+1)=accTo L k++t++⟨#[10]⟩ by show accTo L k++lineAt L k++_=_;rw [HT.out])
      go_wp2
      go_round
      case rel=>exact ⟨k+1,by omega,by go_num,by rw [HA.out],fun j hj=>by
       by_cases hjk:j=k
       ·rw [hjk];exact HO.out
       ·exact HK.out j (by omega)⟩
      case measure=>simp [intOf];omega
     ·have HO:=Lib.hid (show okAt L k=false by
       rw [okAt,HT.out,HP.out];simp;omega)
      go_wp2
      go_ret2
      exact ⟨joins_bad L k hlt HO.out,rfl⟩
   ·rw [Bool.eq_false_iff.mpr hv]
    have HO:=Lib.hid (show okAt L k=false by
     rw [okAt,HT.out]
     by_cases hroom:(accTo L k).size+t.size+1≤20000
     ·rw [←textB_line t _ hroom,Bool.eq_false_iff.mpr hv];rfl
     ·simp only [hroom,decide_false,Bool.and_false])
    clear hv
    go_wp2
    go_ret2
    exact ⟨joins_bad L k hlt HO.out,rfl⟩
  ·obtain rfl:k=L.length:=by omega
   go_wp2
   go_ret2
   exact ⟨joins_good L HK.out,rfl⟩
theorem lineI_len (i:It) (D W:Nat):(lineI i D W).length≤2*D+i.2.1.size+W+i.2.2.2.size+12020:=by
 have h1:i.2.1.data.toList.length=i.2.1.size:=by rw [Array.length_toList];rfl
 have h2:i.2.2.2.data.toList.length=i.2.2.2.size:=by rw [Array.length_toList];rfl
 have h3:=textE_len i.2.2.1
 have h4: ∀n,(spL n).length=n:=fun n=>by simp [spL]
 unfold lineI coreI
 repeat' split
 all_goals simp only [List.length_append,List.length_cons,List.length_nil,h4,h1,h2]
 all_goals omega
theorem printL_length (l:List It):(printL l).length=l.length:=printG_length l 0
theorem nest_line {l:List It} (hn:nestO 0 l=some 0) (k:Nat) (hk:k<l.length): ∃D:Nat,(depL 0 l)[k]? =some (D:Int)∧D≤4∧(printL l).take (k+1)=(printL l).take k++[baL (lineI l[k] D 0)]:=by
 have hd:=dep_in hn (by omega) (by omega) k hk
 rw [←depL_at l 0 k hk] at hd
 have hl:=depL_length l 0
 refine ⟨((depL 0 l)[k]'(by omega)).toNat, ?_,by omega, ?_⟩
 ·rw [List.getElem?_eq_getElem (by omega),Int.toNat_of_nonneg hd.1]
 ·rw [List.take_succ_eq_append_getElem (by rw [printL_length];exact hk)]
  congr 1
  exact congrArg (fun x=>[x]) (printG_at l 0 k hk)
theorem bl_len (l:List UInt8):(baL l).size=l.length:=rfl
theorem nest_sized {l:List It} (h:ShortI l) (hn:nestO 0 l=some 0):Sized (printL l):=by
 intro t ht
 obtain ⟨k,hk,rfl⟩:=List.getElem_of_mem ht
 rw [printL_length] at hk
 have hk0:k<(printG 0 l).length:=by rw [printG_length];exact hk
 have e:=printG_at l 0 k hk
 have hdd:=dep_in hn (by omega) (by omega) k hk
 rw [←depL_at l 0 k hk] at hdd
 obtain ⟨z1,z2,z3,z4⟩:=h _ (List.getElem_mem hk)
 show ((printG 0 l)[k]'hk0).size≤maxLen
 rw [e,bl_len]
 have:=lineI_len l[k] ((depL 0 l)[k]'(by rw [depL_length];exact hk)).toNat 0
 unfold maxLen
 omega
noncomputable def padI (m:Nat) (i:It):It:=(i.1,if i.1=3 then i.2.1++baL (spL (m-i.2.1.size)) else i.2.1,i.2.2)
noncomputable def padL (l:List It):List It:=List.zipWith padI (wdL 0 l) l
theorem padL_length (l:List It):(padL l).length=l.length:=by unfold padL;rw [List.length_zipWith,wdL_length,Nat.min_self]
theorem padL_at {l:List It} {k:Nat} (hk:k<l.length): ∃m,(wdL 0 l)[k]? =some m∧(padL l)[k]'(by rw [padL_length];exact hk)=padI m l[k]:=by
 have h:k<(wdL 0 l).length:=by rw [wdL_length];exact hk
 exact ⟨(wdL 0 l)[k],List.getElem?_eq_getElem h,by unfold padL;rw [List.getElem_zipWith]⟩
theorem lineI_pad (m:Nat) (i:It) (D:Nat):lineI (padI m i) D 0=lineI i D m:=by
 obtain ⟨k,n,l,t⟩:=i
 unfold padI lineI coreI
 by_cases h:k=3
 ·subst h;simp [spL,baL]
 ·simp [h]
theorem dep_kinds: ∀(a b:List It),a.map (·.1)=b.map (·.1)→ ∀d,depL d a=depL d b∧nestO d a=nestO d b:=by
 intro a
 induction a with
 |nil=>intro b h d;cases b with
  |nil=>exact ⟨rfl,rfl⟩
  |cons x b=>cases h
 |cons i a ih=>
  intro b h d
  cases b with
  |nil=>cases h
  |cons x b=>
   simp only [List.map_cons,List.cons.injEq] at h
   obtain ⟨h1,h2⟩:=h
   have hs:depS d i=depS d x:=by unfold depS;rw [h1]
   have hd:depN d i=depN d x:=by unfold depN;rw [hs,h1]
   obtain ⟨e1,e2⟩:=ih b h2 (depN d x)
   constructor
   ·show depS d i::depL (depN d i) a=depS d x::depL (depN d x) b
    rw [hs,hd,e1]
   ·show (if 0≤depN d i∧depN d i≤4 then nestO (depN d i) a else none)=if 0≤depN d x∧depN d x≤4 then nestO (depN d x) b else none
    rw [hd,e2]
theorem pad_kinds (l:List It):(padL l).map (·.1)=l.map (·.1):=by
 apply List.ext_getElem (by rw [List.length_map,List.length_map,padL_length])
 intro k h1 h2
 rw [List.length_map] at h2
 obtain ⟨m,-,e⟩:=padL_at h2
 rw [List.getElem_map,List.getElem_map,e];rfl
theorem pad_dep (l:List It):depL 0 (padL l)=depL 0 l∧nestO 0 (padL l)=nestO 0 l:=dep_kinds _ _ (pad_kinds l) 0
theorem padI_size (m:Nat) (i:It):(padI m i).2.1.size≤max m i.2.1.size:=by
 unfold padI
 split
 ·rw [ByteArray.size_append,bl_len,spL,List.length_replicate];omega
 ·exact Nat.le_max_right _ _
theorem pad_short {l:List It} (h:ShortI l):ShortI (padL l):=by
 intro i hi
 obtain ⟨k,hk,rfl⟩:=List.getElem_of_mem hi
 have hk2:k<l.length:=by rw [padL_length] at hk;exact hk
 obtain ⟨m,hm,e⟩:=padL_at hk2
 rw [e]
 obtain ⟨z1,z2,z3,z4⟩:=h _ (List.getElem_mem hk2)
 have hm2:=wdL_le (B:=1048576) (fun i hi=>(h i hi).1) hm
 have:=padI_size m l[k]
 exact ⟨by omega,z2,z3,z4⟩
theorem align_line {l:List It} (hn:nestO 0 l=some 0) (k:Nat) (hk:k<l.length): ∃D m:Nat,(depL 0 l)[k]? =some (D:Int)∧D≤4∧(wdL 0 l)[k]? =some m∧(printL (padL l)).take (k+1)=(printL (padL l)).take k++[baL (lineI l[k] D m)]:=by
 obtain ⟨e1,e2⟩:=pad_dep l
 obtain ⟨D,h1,h2,h3⟩:=nest_line (e2.trans hn) k (by rw [padL_length];exact hk)
 obtain ⟨m,hm,e⟩:=padL_at hk
 rw [e1] at h1
 rw [e,lineI_pad] at h3
 exact ⟨D,m,h1,h2,hm,h3⟩
theorem align_at {l:List It} (hn:nestO 0 l=some 0) (k:Nat) (hk:k<l.length): ∃D m:Nat,(depL 0 l)[k]? =some (D:Int)∧D≤4∧(wdL 0 l)[k]? =some m∧(printL (padL l))[k]? =some (baL (lineI l[k] D m)):=by
 obtain ⟨D,m,h1,h2,h3,h4⟩:=align_line hn k hk
 have hl:(printL (padL l)).length=l.length:=by rw [printL_length,padL_length]
 refine ⟨D,m,h1,h2,h3, ?_⟩
 rw [List.take_succ_eq_append_getElem (by omega)] at h4
 have:=List.append_cancel_left h4
 rw [List.getElem?_eq_getElem (by omega)]
 simpa using this
noncomputable def alignK (l:List It):Bool:=docB l&&joinOk (printL (padL l))
noncomputable def alignT (l:List It):ByteArray:=if alignK l=true then joinB (printL (padL l)) else ⟨#[]⟩
theorem align_join {l:List It} (h:docB l=true):alignK l=joinOk (printL (padL l))∧alignT l=joinB (printL (padL l)):=by
 have hk:alignK l=joinOk (printL (padL l)):=by unfold alignK;rw [h];rfl
 refine ⟨hk, ?_⟩
 unfold alignT
 rw [hk]
 by_cases hj:joinOk (printL (padL l))=true
 ·rw [if_pos hj]
 ·rw [if_neg hj,joinB,if_neg hj];rfl
theorem align_no {l:List It} (h:docB l=false):alignK l=false∧alignT l=⟨#[]⟩:=by
 have hk:alignK l=false:=by unfold alignK;rw [h];rfl
 exact ⟨hk,by unfold alignT;rw [hk];rfl⟩
theorem simp_size {s:ByteArray} (h:simpB s=true):s.size≤12:=by
 unfold simpB at h
 rw [simp_part,Bool.and_eq_true,partB_iff] at h
 simp only [Bool.and_eq_true,decide_eq_true_eq] at h
 have:=h.1.1.1.2
 rwa [Array.length_toList] at this
theorem name_short {i:It} (h:itemB i=true) (h3:i.1=3):i.2.1.size≤12:=by
 obtain ⟨k,n,e,t⟩:=i
 simp only at h3
 subst h3
 simp only [itemB,show¬((3:Int)=1∨(3:Int)=5) by decide,show¬(3:Int)=2 by decide,if_false,if_true,Bool.and_eq_true] at h
 exact simp_size h.1
theorem fwL_le3 {B:Nat}: ∀(l:List It),(∀i∈l,i.1=3→i.2.1.size≤B)→fwL l≤B:=by
 intro l
 induction l with
 |nil=>intro _;exact Nat.zero_le _
 |cons i l ih=>
  intro h
  have h1:=h i (by simp);have h2:=ih fun j hj=>h j (by simp [hj])
  rw [fwL];split
  ·rename_i e;have:=h1 e;omega
  ·omega
theorem caL_le3 {B:Nat}: ∀(l:List It) (p:Nat),p≤B→(∀i∈l,i.1=3→i.2.1.size≤B)→caL p l≤B:=by
 intro l
 induction l with
 |nil=>intro p hp _;exact hp
 |cons i l ih=>
  intro p hp h
  have h1:=h i (by simp)
  refine ih _ ?_ fun j hj=>h j (by simp [hj])
  unfold caW;split
  ·rename_i e;have:=h1 e;omega
  ·omega
theorem wd_short {l:List It} (h:docB l=true) {k n:Nat} (hn:(wdL 0 l)[k]? =some n):n≤12:=by
 have hv:=((docB_iff l).mp h).2.1
 rw [List.all_eq_true] at hv
 have hk:k<l.length:=by
  have:=(List.getElem?_eq_some_iff.mp hn).1
  rwa [wdL_length] at this
 rw [wdL_at l 0 k hk] at hn
 injection hn with hn
 have h1:=caL_le3 (B:=12) (l.take k) 0 (by omega) fun i hi h3=>name_short (hv i (List.mem_of_mem_take hi)) h3
 have h2:=fwL_le3 (B:=12) (l.drop k) fun i hi h3=>name_short (hv i (List.mem_of_mem_drop hi)) h3
 split at hn<;>omega
theorem rep_one (D:Nat) (hD:D≤12) (w:World):
 Calls Tryz.prog 89 #[.string ⟨#[32]⟩, .int .i64 (D:Int)] w fun e w'=>e= .returned (.string (baL (spL D)))∧w=w':=by
 have HM:=Lib.hid (show∀(k:Nat) (w:World),k≤12→Calls Tryz.prog 136 #[.int .u64 1, .int .u64 (k:Int)] w fun e w'=>e= .returned (.tuple #[.int .u64 0, .int .u64 (k:Int)])∧w'=w from fun k w hk=>by
  have:=Tryz.bits_Mul 1 k (by omega) (by omega) w
  rw [Nat.one_mul,Nat.div_eq_of_lt (by omega),Nat.mod_eq_of_lt (by omega)] at this
  exact this)
 have HP:=Lib.hid (show∀(s:ByteArray) (w:World),Lib.hasPrefix s.data.toList [32]=true→Calls Tryz.prog 137 #[.string s, .string ⟨#[32]⟩] w fun e w'=>e= .returned (.bool true)∧w'=w from fun s w hs=>by
  have:=Tryz.strings_HasPrefix s ⟨#[32]⟩ w
  rw [show Lib.hasPrefix s.data.toList (⟨#[32]⟩:ByteArray).data.toList=true from hs] at this
  exact this)
 have h:D=0∨D=1∨D=2∨D=3∨D=4∨D=5∨D=6∨D=7∨D=8∨D=9∨D=10∨D=11∨D=12:=by omega
 rcases h with rfl|rfl|rfl|rfl|rfl|rfl|rfl|rfl|rfl|rfl|rfl|rfl|rfl
 all_goals
  go_enter Tryz.func89,Tryz.ntmps89
  go_wp2_with fail
  (try
    refine (HM.out _ _ hD).mono ?_
    rintro e w1 ⟨rfl,hw⟩
    subst hw
    go_wp2_with fail
    refine (HP.out _ _ (by decide)).mono ?_
    rintro e w1 ⟨rfl,hw⟩
    subst hw
    go_wp2)
  go_ret
  exact ⟨by first|rfl|decide,rfl⟩
theorem RowIt.us {w:World} {b o cap:Nat} {l:List It} (h:RowIt w (.slice (some ⟨b,o,none⟩) l.length cap) l) (hne:l≠[]):b<w.heap.size∧ ∃us:List Value,us.length=l.length∧ ∀(k:Nat) (h:k<l.length) (h':k<us.length),ItAt w b o k l[k] us[k]:=by
 obtain ⟨ao,cap',hv,h1,h2,h3⟩:=h
 injection hv with e1 e2 e3
 obtain ⟨b',o',ha,hlt,hj⟩:=h3.resolve_left hne
 rw [←e1] at ha
 injection ha with ha
 injection ha with a1 a2
 subst a1 a2
 refine ⟨hlt,List.ofFn fun k:Fin l.length=>(hj k k.2).choose,by simp,fun k hk hk'=> ?_⟩
 rw [List.getElem_ofFn]
 exact (hj k hk).choose_spec
theorem ItAt.one {w:World} {b o k:Nat} {i:It} {u:Value} (h:ItAt w b o k i u):u.oneCell'=true:=by
 obtain ⟨-,-,-,-,a,c,e,-⟩:=h
 rw [e];rfl
theorem newsI {w:World} {b o:Nat} {l:List It} {us:List Value} (hl:us.length=l.length) (h: ∀(k:Nat) (h:k<l.length) (h':k<us.length),ItAt w b o k l[k] us[k]) (j:Nat) (u:Value) (hj:(itF l us)[j]? =some u):w.cell? ((⟨b,o,none⟩:Addr).add j)=some u∧u.oneCell'=true:=by
 have hlt:j<l.length*4:=by
  by_cases hk:j<l.length*4
  ·exact hk
  ·rw [List.getElem?_eq_none (by rw [itF_length _ _ hl.symm];omega)] at hj;cases hj
 obtain ⟨k,r,hr,rfl⟩: ∃k r,r<4∧j=k*4+r:=⟨j/4,j % 4,Nat.mod_lt _ (by decide),by omega⟩
 have h0:=h k (by omega) (by omega)
 obtain ⟨c0,c1,c2,c3,-⟩:=id h0
 obtain ⟨f0,f1,f2,f3⟩:=itF_at l us hl.symm k (by omega) (by omega)
 rw [addr_add]
 have h3:r=0∨r=1∨r=2∨r=3:=by omega
 rcases h3 with rfl|rfl|rfl|rfl
 ·rw [Nat.add_zero] at hj⊢;rw [f0] at hj;injection hj with hj;subst hj;exact ⟨c0,rfl⟩
 ·rw [f1] at hj;injection hj with hj;subst hj;rw [←Nat.add_assoc];exact ⟨c1,rfl⟩
 ·rw [f2] at hj;injection hj with hj;subst hj;rw [←Nat.add_assoc];exact ⟨c2,h0.one⟩
 ·rw [f3] at hj;injection hj with hj;subst hj;rw [←Nat.add_assoc];exact ⟨c3,rfl⟩
theorem append_rowI {P:Program} {w:World} {ops:Array Oper} {rest:List Oper} {o:Oper} {a:Act} {Q:Exit→Act→World→Prop} (hgd:o.guard=none) (s x:Operand) (t:TypeId)
  (ho:o.op= .call {callee:= .builtin .append,args:= #[s,x],argTypes:= #[t,t]})
  (base:Nat) (e:TypeId) (i:TypeInfo) (z:Value) (bytes:Nat) (ht:P.underlying t=some (.slice e)) (hi:P.info? e=some i) (hz:i.zero=some z)
  (hsize:i.size=4) (hby:i.bytes=bytes) (hzs:z.cells.size=4)
  (v:Value) (n:Nat) (xs:List Value) (hs:a.eval s=v) (hown:w.ownsRow base e 4 v n xs)
  (W0:World) (hb0:Below W0.heap.size W0 w) (u:Value) (l:List It) (hx:a.eval x=u) (hsrc:RowIt W0 u l)
  (h63:n+l.length≤maxLen) (hbytes:(n+l.length)*bytes≤140737488355328) (hbase:base≤w.heap.size)
  (h: ∀us v' w',us.length=l.length→(∀(k:Nat) (h:k<l.length) (h':k<us.length),RowC W0 us[k] l[k].2.2.1)→w'.ownsRow base e 4 v' (n+l.length) (xs++itF l us)→w.grownBy w' v.ownBlock→wpList P ops Q rest (a.put o.dst v') w'):wpList P ops Q (o::rest) a w:=by
 by_cases hne:l=[]
 ·subst hne
  obtain ⟨ao,cap,rfl,h1,h2,h3⟩:=hsrc
  cases ao with
  |none=>
   refine wpList_plain hgd fun K hK=> ?_
   have hrun:=run_append_nothing (P:=P) (w:=w) base t o.type e i 4 ht hi v n xs hown cap
   unfold Oper.wp
   simp only [List.length_nil] at hx
   simp [execOp,ho,resolve,invoke,builtin,hs,hx,hrun,Result.andThen]
   exact hK _ _ (h [] v w rfl (fun k hk=>by simp at hk) (by simpa [itF] using hown) (World.grownBy.refl _ _))
  |some ad=>
   exact wpList_append_own _ hgd s x t ho base e i z 4 bytes ht hi hz hsize hby hzs (by decide) v n xs hs hown ad 0 cap [] hx rfl (fun j y hj=>by simp at hj) (fun y hy=>by simp at hy) h63 hbytes hbase (fun v' w' a1 a2 _=>h [] v' w' rfl (fun k hk=>by simp at hk) (by simpa [itF] using a1) a2)
 ·obtain ⟨ao,cap,hv,h1,h2,h3⟩:=id hsrc
  obtain ⟨b,o',rfl,-⟩:=h3.resolve_left hne
  subst hv
  obtain ⟨hb,us,hul,hus⟩:=hsrc.us hne
  have hN:=newsI (w:=w) hul (fun k h h'=>(hus k h h').mono hb hb0)
  exact wpList_append_own _ hgd s x t ho base e i z 4 bytes ht hi hz hsize hby hzs (by decide) v n xs hs hown ⟨b,o',none⟩ l.length cap (itF l us) hx (itF_length l us hul.symm) (fun j y hj=>(hN j y hj).1) (fun y hy=>by
   obtain ⟨j,hj,rfl⟩:=List.getElem_of_mem hy
   exact (hN j _ (List.getElem?_eq_getElem hj)).2) h63 hbytes hbase (fun v' w' a1 a2 _=>h us v' w' hul (fun k hk hk'=>(hus k hk hk').2.2.2.2) a1 a2)
def SoP (l:List It) (k:Nat) (P:List It):Prop:=P.length=l.length∧ ∀i,i<l.length→P[i]? =if i<k then (padL l)[i]? else l[i]?
theorem SoP.start (l:List It):SoP l 0 l:=⟨rfl,fun i _=>by rw [if_neg (by omega)]⟩
theorem SoP.done {l P:List It} (h:SoP l l.length P):P=padL l:=by
 apply List.ext_getElem?
 intro i
 by_cases hi:i<l.length
 ·rw [h.2 i hi,if_pos hi]
 ·rw [List.getElem?_eq_none (by rw [h.1];omega),List.getElem?_eq_none (by rw [padL_length];omega)]
theorem SoP.here {l P:List It} {k:Nat} (h:SoP l k P) (hk:k<l.length):P[k]'(by rw [h.1];exact hk)=l[k]:=by
 have:=h.2 k hk
 rw [if_neg (by omega),List.getElem?_eq_getElem (by rw [h.1];exact hk),List.getElem?_eq_getElem hk] at this
 exact Option.some.inj this
theorem SoP.next {l P:List It} {k m:Nat} (h:SoP l k P) (hk:k<l.length) (hm:(wdL 0 l)[k]? =some m) (x:It) (hx:x=padI m l[k]):SoP l (k+1) (P.set k x):=by
 refine ⟨by rw [List.length_set];exact h.1,fun i hi=> ?_⟩
 by_cases e:k=i
 ·subst e
  obtain ⟨m',hm',e'⟩:=padL_at hk
  rw [hm] at hm'
  injection hm' with hm'
  subst hm'
  rw [List.getElem?_set_self (by rw [h.1];exact hk),if_pos (by omega),List.getElem?_eq_getElem (by rw [padL_length];exact hk),e',hx]
 ·rw [List.getElem?_set_ne e,h.2 i hi]
  by_cases hlt:i<k
  ·rw [if_pos hlt,if_pos (by omega)]
  ·rw [if_neg hlt,if_neg (by omega)]
theorem SoP.same {l P:List It} {k m:Nat} (h:SoP l k P) (hk:k<l.length) (hm:(wdL 0 l)[k]? =some m) (h3:l[k].1≠3):SoP l (k+1) P:=by
 have h1:=h.next hk hm (P[k]'(by rw [h.1];exact hk)) (by rw [h.here hk];unfold padI;rw [if_neg h3])
 rwa [List.set_getElem_self] at h1
def NewP (l:List It) (W0 w:World) (e:Ending) (w':World):Prop:=
 ∃v us,e= .returned v∧us.length=l.length∧(∀(k:Nat) (h:k<l.length) (h':k<us.length),RowC W0 us[k] l[k].2.2.1)∧w'.ownsRow w.heap.size 32 4 v l.length (itF (padL l) us)∧Below w.heap.size w w'
theorem padded_any (v vd:Value) (l:List It) (W0 w:World) (hb0:Below W0.heap.size W0 w) (hr:RowIt W0 v l) (hd:RowI w vd (wdL 0 l)) (h30:l.length≤30) (hz: ∀i∈l,i.2.1.size≤1048576) (hw12: ∀(k n:Nat),(wdL 0 l)[k]? =some n→n≤12):
  Calls Tryz.prog 55 #[v,vd] w (NewP l W0 w):=by
 obtain ⟨i0,hi,hz0,hz1,hz2⟩:=info_parts infoIt
 have HR:=Lib.hid hr;have HD:=Lib.hid hd;have HB0:=Lib.hid hb0
 have H12:=Lib.hid hw12;have HZ:=Lib.hid hz
 obtain ⟨ao,cap,rfl,h1,h2,-⟩:=hr
 obtain ⟨da,dc,hvd,g1,g2,-⟩:=hd
 unfold maxLen at h2 g2
 rw [wdL_length] at g1 hvd
 subst hvd
 clear hw12 hz hb0
 go_enter Tryz.func55,Tryz.ntmps55
 go_wp2_with (at_builtin;refine append_rowI rfl _ _ 23 rfl w.heap.size 32 i0 (.agg #[.int .i64 0, .string ByteArray.empty, .slice none 0 0, .string ByteArray.empty]) 64 Tryz.underlying23 hi hz0 hz1 hz2 (by decide) _ 0 [] rfl (World.ownsRow_nil _ _ _ _) W0 HB0.out _ l rfl HR.out (by unfold maxLen;omega) (by omega) (Nat.le_refl _) ?_;intro us v1 w1 hul hus hown1 hgrow1;rw [List.nil_append,Nat.zero_add] at hown1;obtain ⟨ap,cp,rfl⟩:=own_shape hown1)
 have HO1:=Lib.hid hown1;have HUL:=Lib.hid hul;have HUS:=Lib.hid hus
 have HB1:=Lib.hid ((Below.refl w.heap.size w).grown hgrow1 (Nat.le_refl _) (fun x hx=>by cases hx))
 clear hown1 hgrow1 hul hus
 go_loopw [12] (fun i wr=> ∃(k:Nat) (P:List It),k≤l.length∧i= .int .i64 (k:Int)∧SoP l k P∧wr.ownsRow w.heap.size 32 4 (.slice ap l.length cp) l.length (itF P us)∧Below w.heap.size w wr) (fun i _=>l.length-(intOf i).toNat)
 case atStart=>exact ⟨0,l,Nat.zero_le _,rfl,SoP.start l,HO1.out,HB1.out⟩
 case round=>
  obtain ⟨k,P,hk,rfl,hso,hown,hB⟩:=hrel
  have HSO:=Lib.hid hso;have HOW:=Lib.hid hown;have HB:=Lib.hid hB
  clear hso hown hB
  by_cases hlt:k<l.length
  ·have hltI:(k:Int)<(l.length:Int):=by omega
   have hk0:(0:Int)≤(k:Int):=by omega
   have hPl:=HSO.out.1
   have hul:=HUL.out
   have hkp:k<P.length:=by omega
   obtain ⟨f0,f1,f2,f3⟩:=itF_at P us (by omega) k hkp (by omega)
   have hne:ap≠none:=by
    rintro rfl
    rcases HOW.out.2 with ⟨-,h⟩|⟨g,cap,cur,h,-⟩
    ·omega
    ·simp at h
   obtain ⟨g,rfl⟩: ∃g,ap=some ⟨g,0,none⟩:=by
    rcases HOW.out.2 with ⟨-,h⟩|⟨g,cap,cur,h,-⟩
    ·omega
    ·injection h with h;exact ⟨g,h⟩
   have hcell: ∀j x,j<4→(itF P us)[k*4+j]? =some x→wr.cell? ⟨g,k*4+j,none⟩=some x:=fun j x hj hx=>by
    rw [HOW.out.cellAt _ (by omega)];exact hx
   have d0:=hcell 0 _ (by omega) f0
   have d1:=hcell 1 _ (by omega) f1
   have d2:=hcell 2 _ (by omega) f2
   have d3:=hcell 3 _ (by omega) f3
   rw [Nat.add_zero] at d0
   rw [HSO.out.here hlt] at d0 d1 d3
   clear hcell f0 f1 f2 f3
   have z1:=HOW.out.frozenAt (k*4+1)
   obtain ⟨m,hm,-⟩:=padL_at hlt
   have HM12:=Lib.hid (H12.out k m hm)
   obtain ⟨au,cu,hu,-⟩:=HUS.out k hlt (by omega)
   rw [hu] at d2
   have hsz:=HZ.out _ (List.getElem_mem hlt)
   have hdw: ∃bd,da=some ⟨bd,0,none⟩∧bd<wr.heap.size∧wr.cell? ⟨bd,k,none⟩=some (.int .i64 (m:Int)):=by
    obtain ⟨a,c,hv,-,-,h3⟩:=HD.out
    injection hv with e1 e2 e3
    obtain ⟨bd,ha,hbd,hc⟩:=h3.resolve_left (fun e=>by have:=congrArg List.length e;rw [wdL_length,List.length_nil] at this;omega)
    refine ⟨bd,e1.trans ha,Nat.lt_of_lt_of_le hbd HB.out.size,(HB.out.cell (p:=⟨bd,_,none⟩) hbd).trans ?_⟩
    rw [hc k (by rw [wdL_length];exact hlt)]
    obtain ⟨h,e⟩:=List.getElem?_eq_some_iff.mp hm
    rw [e]
   obtain ⟨bd,hda,hbdl,dd⟩:=hdw
   have HBD:=Lib.hid hbdl;clear hbdl
   subst hda
   by_cases h3:l[k].1=3
   ·have hmb:l[k].2.1.size≤m:=by
     obtain ⟨n,hn,hle⟩:=wd_big hlt h3
     rw [hm] at hn;injection hn with hn;omega
    have hnx:=HSO.out.next hlt hm (P[k].1,l[k].2.1++baL (spL (m-l[k].2.1.size)),P[k].2.2) (by rw [HSO.out.here hlt];unfold padI;rw [if_pos h3])
    have hfs:=(itF_set P us k hkp (by omega) (P[k].1,l[k].2.1++baL (spL (m-l[k].2.1.size)),P[k].2.2)).2.1
    have HNX:=Lib.hid hnx;have HFS:=Lib.hid hfs
    rw [h3] at d0
    have hm12:=HM12.out
    clear hnx hfs HM12
    generalize l[k]=it at d0 d1 d2 d3 hmb hsz HNX HFS
    obtain ⟨ik,inm,ics,int⟩:=it
    simp only at d0 d1 d2 d3 hmb hsz HNX HFS
    have hgl:g<wr.heap.size:=(HOW.out.lt g rfl).2
    have hbdl:bd<wr.heap.size:=HBD.out
    have BX:=Lib.hid (HB.out.alloc HB.out.size (.cells #[.int .i64 3, .string inm, .slice au ics.length cu, .string int] 32))
    have c1:(wr.alloc (.cells #[.int .i64 3, .string inm, .slice au ics.length cu, .string int] 32)).drew.cell? ⟨g,k*4+1,none⟩=some (.string inm):=(((Below.refl wr.heap.size wr).alloc (Nat.le_refl _) _).cell (p:=⟨g,_,none⟩) hgl).trans d1
    have c2:(wr.alloc (.cells #[.int .i64 3, .string inm, .slice au ics.length cu, .string int] 32)).drew.cell? ⟨bd,k,none⟩=some (.int .i64 (m:Int)):=(((Below.refl wr.heap.size wr).alloc (Nat.le_refl _) _).cell (p:=⟨bd,_,none⟩) hbdl).trans dd
    obtain ⟨x0,x1,x2,x3⟩:=(It4.new wr (.int .i64 3) (.string inm) (.slice au ics.length cu) (.string int) 32).1
    have x1d:(wr.alloc (.cells #[.int .i64 3, .string inm, .slice au ics.length cu, .string int] 32)).drew.cell? ⟨wr.heap.size,1,none⟩=some (.string inm):=x1
    have z1d:=((HOW.out.alloc (.cells #[.int .i64 3, .string inm, .slice au ics.length cu, .string int] 32)).drew).frozenAt (k*4+1)
    have hst:=HOW.out.stored (k*4+1) (.string (inm++baL (spL (m-inm.size))))
    rw [HFS.out] at hst
    have HST:=Lib.hid ((hst.1.alloc (.cells #[.int .i64 3, .string inm, .slice au ics.length cu, .string int] 32)).drew)
    have HSB:=HB.out.setCell (p:=⟨g,k*4+1,none⟩) (HOW.out.lt g rfl).1 (.string (inm++baL (spL (m-inm.size))))
    have HBS:=Lib.hid ((HSB.alloc HSB.size (.cells #[.int .i64 3, .string inm, .slice au ics.length cu, .string int] 32)).drew)
    clear HSB
    have hwr:IntKind.i64.wrap ((m:Int)-(inm.size:Int))=((m-inm.size:Nat):Int):=by rw [IntWalk.i64_in _ (by omega)];omega
    have hss:(baL (spL (m-inm.size))).size≤12:=by rw [bl_len];simp [spL];omega
    have hs1: ¬9223372036854775807<inm.size+(baL (spL (m-inm.size))).size:=by omega
    have HRP:=Lib.hid (show∀(x:Int) (w':World),x=((m-inm.size:Nat):Int)→Calls Tryz.prog 89 #[.string ⟨#[32]⟩, .int .i64 x] w' fun e w''=>e= .returned (.string (baL (spL (m-inm.size))))∧w'=w'' from fun x w' hx=>by rw [hx];exact rep_one _ (by omega) w')
    generalize baL (spL (m-inm.size))=S at HST HBS hss hs1 HRP HNX
    clear hst hmb hm12
    go_wp2_with fail
    go_region_with (go_at_call 89;(refine (HRP.out _ _ (by first|rfl|exact hwr)).mono ?_);rintro e wq ⟨rfl,hwq⟩;subst hwq)
    all_goals
     go_wp2
     go_roundw
     case rel=>exact ⟨k+1,_,by omega,by go_num,HNX.out,HST.out,HBS.out⟩
     case measure=>simp [intOf];omega
   ·have HNX:=Lib.hid (HSO.out.same hlt hm h3)
    have e3:(l[k].1==3)=false:=beq_eq_false_iff_ne.mpr h3
    clear h3
    generalize l[k]=it at d0 d1 d2 d3 e3
    obtain ⟨ik,inm,ics,int⟩:=it
    simp only at d0 d1 d2 d3 e3
    have BX:=Lib.hid (HB.out.alloc HB.out.size (.cells #[.int .i64 ik, .string inm, .slice au ics.length cu, .string int] 32))
    obtain ⟨x0,x1,x2,x3⟩:=(It4.new wr (.int .i64 ik) (.string inm) (.slice au ics.length cu) (.string int) 32).1
    have HOA:=Lib.hid (HOW.out.alloc (.cells #[.int .i64 ik, .string inm, .slice au ics.length cu, .string int] 32))
    go_wp2
    go_roundw
    case rel=>exact ⟨k+1,_,by omega,by go_num,HNX.out,HOA.out,BX.out⟩
    case measure=>simp [intOf];omega
  ·obtain rfl:k=l.length:=by omega
   have hltI: ¬(l.length:Int)<(l.length:Int):=by omega
   have HP:=Lib.hid HSO.out.done
   go_wp2
   go_ret
   exact ⟨_,us,rfl,HUL.out,HUS.out,by rw [←HP.out];exact HOW.out,HB.out⟩
theorem sp_plain (n:Nat):plainL (spL n)=true:=by
 unfold plainL spL
 rw [List.all_eq_true]
 intro b hb
 rw [List.eq_of_mem_replicate hb];decide
theorem nm_plainA {l:List UInt8} (h: ∀b∈l,isNm b=true):plainL l=true:=by
 unfold plainL
 rw [List.all_eq_true]
 intro b hb
 have:=h b hb
 simp only [isNm,parI,ltrI,digI,Bool.or_eq_true,Bool.and_eq_true,decide_eq_true_eq,beq_iff_eq] at this
 simp only [plainI,Bool.and_eq_true,decide_eq_true_eq]
 omega
theorem note_plainA {s:ByteArray} (h:noteB s=true):plainL s.data.toList=true:=by
 unfold noteB at h
 simp only [Bool.and_eq_true,Bool.not_eq_true'] at h
 obtain ⟨h1,-,h2,-⟩:=h
 unfold plainL
 rw [List.all_eq_true]
 intro b hb
 simp only [textB,Bool.and_eq_true] at h1
 have h3:=h1.2
 unfold okL at h3
 rw [List.all_eq_true] at h3
 have h4:=h3 b hb
 unfold okI at h4
 rw [Bool.or_eq_true] at h4
 rcases h4 with h4|h4
 ·exfalso
  unfold hasL at h2
  rw [List.any_eq_false] at h2
  exact h2 b hb h4
 ·exact h4
theorem textE_plain {l:List Cl} (h:okE l=true):plainL (textE l)=true:=by
 obtain ⟨x,hg,ht,-,-⟩:=pz_of h
 rw [←ht];exact hg.plain
theorem line_plain {i:It} (h:itemB i=true) (D W:Nat):plainL (lineI i D W)=true:=by
 obtain ⟨k,n,l,t⟩:=i
 have hnote: ∀t:ByteArray,(emB t=true∨noteB t=true)→plainL t.data.toList=true:=by
  rintro t (ht|ht)
  ·rw [emB_iff.mp ht];rfl
  ·exact note_plainA ht
 have c1:plainL [125]=true:=by decide
 have c2:plainL [32,123]=true:=by decide
 have c3:plainL [32,61,32]=true:=by decide
 have c4:plainL [32,35,32]=true:=by decide
 have c5:plainI ((35:UInt8).toNat:Int)=true:=by decide
 have c6:plainI ((32:UInt8).toNat:Int)=true:=by decide
 have c7:plainL []=true:=rfl
 unfold itemB at h
 simp only at h
 unfold lineI coreI
 simp only
 by_cases h1:k=1
 ·rw [if_pos h1];rfl
 rw [if_neg h1,plain_app,sp_plain,Bool.true_and]
 by_cases h5:k=5
 ·rw [if_pos h5];exact c1
 rw [if_neg (by omega)] at h
 rw [if_neg h5]
 by_cases h4:k=4
 ·rw [if_pos h4]
  subst h4
  simp only [show¬(4:Int)=2 by decide,show¬(4:Int)=3 by decide,if_false,if_true,Bool.and_eq_true] at h
  rw [plain_app,c2,nm_plainA (simp_parts h.1).2];rfl
 rw [if_neg h4]
 by_cases h2:k=2
 ·rw [if_pos h2]
  rw [if_pos h2] at h
  simp only [Bool.and_eq_true] at h
  rw [plain_cons,c5,Bool.true_and]
  split
  ·rfl
  ·rw [plain_cons,c6,Bool.true_and];exact note_plainA h.2.2
 rw [if_neg h2] at h⊢
 by_cases h3:k=3
 ·rw [if_pos h3] at h⊢
  simp only [Bool.and_eq_true] at h
  simp only [plain_app]
  rw [nm_plainA (simp_parts h.1).2,sp_plain,c3,textE_plain h.2.1]
  simp only [Bool.true_and]
  split
  ·rfl
  ·rw [plain_app,c4,note_plainA h.2.2];rfl
 ·rw [if_neg h3];rfl
theorem sizedC_of_short {l:List Cl} (h:ShortC l):SizedC l:=fun c hc=>by have:=h c hc;unfold maxLen;omega
theorem fitI_of_short {l:List It} (h:ShortI l):FitI l:=fun i hi=>by
 obtain ⟨h1,h2,h3,h4⟩:=h i hi
 exact ⟨by unfold maxLen;omega,sizedC_of_short h2,by unfold maxLen;omega⟩
theorem own_kl {w W':World} {B n:Nat} {u:Value} {xs:List Value} (h:w.ownsRow B 3 1 u n xs) (hk:KL w W'):W'.ownsRow B 3 1 u n xs:=by
 refine own_keep h fun g hg=> ?_
 rcases h.2 with ⟨rfl,-⟩|⟨g',cap,cur,rfl,hbg,hh,-⟩
 ·simp [Value.ownBlock] at hg
 ·obtain rfl:g'=g:=by simpa [Value.ownBlock] using hg
  rw [hh];exact hk _ _ _ _ hh (by decide) (by decide)
theorem own_at {w:World} {B:Nat} {l:List It} {ua:Option Addr} {uc:Nat} (h:w.ownsRow B 3 1 (.slice ua l.length uc) l.length (ints (dps 0 l))) (h0:0<l.length):
  ∃bd,ua=some ⟨bd,0,none⟩∧ ∀W',KL w W'→ ∀k,k<l.length→ ∀D:Nat,(depL 0 l)[k]? =some (D:Int)→W'.cell? ⟨bd,k,none⟩=some (.int .i64 (D:Int)):=by
 rcases h.2 with ⟨h1,h2⟩|⟨g,cap,cur,h1,hbg,hh,-⟩
 ·omega
 ·injection h1 with e1 e2 e3
  subst e1
  refine ⟨g,rfl,fun W' hk k hlt D hD=> ?_⟩
  rw [(own_kl h hk).cellAt k (by omega)]
  have hd:(dps 0 l)[k]? =some D:=by
   unfold dps
   rw [List.getElem?_map,show ((0:Nat):Int)=0 from rfl,hD]
   rfl
  simp [ints,hd]
theorem lines_text {L:List ByteArray} (hp: ∀t∈L,plainL t.data.toList=true):textB (accTo L L.length)=joinOk L∧(joinOk L=true→accTo L L.length=joinB L):=by
 by_cases hj:joinOk L=true
 ·have e:joinB L=accTo L L.length:=by rw [joinB,if_pos hj]
  have k1:=(lines_join _ hj).1
  rw [e] at k1
  exact ⟨by rw [k1,hj],fun _=>e.symm⟩
 ·refine ⟨?_,fun h=>absurd h hj⟩
  rw [Bool.eq_false_iff.mpr hj,Bool.eq_false_iff]
  intro ht
  simp only [textB,Bool.and_eq_true,decide_eq_true_eq] at ht
  exact hj (joinOk_of _ hp ht.1)
theorem acc_next {l:List It} (k:Nat) (hk:k<l.length) (D:Nat) (hD:(depL 0 l)[k]? =some (D:Int)):
  (accTo (printL l) (k+1)).data.toList=(accTo (printL l) k).data.toList++lineI l[k] D 0++[10]:=by
 have hk2:k<(printL l).length:=by rw [printL_length];exact hk
 have hln:(lineAt (printL l) k).data.toList=lineI l[k] D 0:=by
  rw [lineAt_get _ _ hk2]
  have:=congrArg (fun t:ByteArray=>t.data.toList) (printG_at l 0 k hk)
  have hd:=depL_at l 0 k hk
  have e:((depL 0 l)[k]'(by rw [depL_length];exact hk)).toNat=D:=by
   rw [List.getElem?_eq_getElem (by rw [depL_length];exact hk)] at hD
   injection hD with hD
   rw [hD];rfl
  rw [e] at this
  exact this.trans (baL_list _)
 rw [accTo,ByteArray.data_append,ByteArray.data_append,Array.toList_append,Array.toList_append,hln]
theorem acc_len {l:List It} (hz:ShortI l) (hn:nestO 0 l=some 0): ∀k,k≤l.length→(accTo (printL l) k).data.toList.length≤k*2200000:=by
 intro k
 induction k with
 |zero=>intro _;exact Nat.le_refl _
 |succ k ih=>
  intro hk
  obtain ⟨D,hD,hD4,-⟩:=nest_line hn k (by omega)
  rw [acc_next k (by omega) D hD,List.length_append,List.length_append,List.length_singleton]
  have h1:=ih (by omega)
  have h2:=lineI_len l[k] D 0
  obtain ⟨z1,-,-,z4⟩:=hz _ (List.getElem_mem (show k<l.length by omega))
  omega
def RowKw (w0 w:World) (v:Value) (l:List It):Prop:=
 ∃ao cap,v= .slice ao l.length cap∧l.length≤cap∧cap≤maxLen∧(l=[]∨ ∃b o,ao=some ⟨b,o,none⟩∧ ∀(k:Nat) (h:k<l.length),∃u,RowC w0 u l[k].2.2.1∧ ∀W',Below w0.heap.size w0 W'→KL w W'→
  W'.cell? ⟨b,o+k*4,none⟩=some (.int .i64 l[k].1)∧W'.cell? ⟨b,o+k*4+1,none⟩=some (.string l[k].2.1)∧W'.cell? ⟨b,o+k*4+2,none⟩=some u∧W'.cell? ⟨b,o+k*4+3,none⟩=some (.string l[k].2.2.2))
theorem document_w (w0 w:World) (b:Nat) (v u:Value) (l:List It) (hb:Below w0.heap.size w0 w) (hw:LwAt w0.heap.size b [] w) (hr:RowKw w0 w v l) (hz:ShortI l) (h30:l.length≤30) (hal: ∀i∈l,itemB i=true∨i.1=3) (hn:nestO 0 l=some 0) (htab:Tab w0)
  (hu: ∃B,w.ownsRow B 3 1 u l.length (ints (dps 0 l))):
  Calls Tryz.prog 54 #[.pointer (some ⟨b,0,none⟩),v,u] w (LwD w0 w b (accTo (printL l) l.length).data.toList):=by
 have HAL:=Lib.hid hal
 have HPL:=Lib.hid (nest_line hn)
 have HAN:=Lib.hid (fun (k:Nat) (hk:k<l.length) (D:Nat)=>acc_next (l:=l) k hk D)
 have HLE:=Lib.hid (acc_len hz hn)
 have HZ:=Lib.hid hz;have HT:=Lib.hid htab;have HB:=Lib.hid hb;have HW:=Lib.hid hw
 obtain ⟨ao,cap,rfl,h1,h2,h3⟩:=hr
 obtain ⟨B,hu⟩:=hu
 have HU:=Lib.hid hu
 obtain ⟨ua,uc,rfl⟩:=own_shape hu
 have H3:=Lib.hid h3
 unfold maxLen at h2
 clear hz htab hb hw hu h3 hal hn
 go_enter Tryz.func54,Tryz.ntmps54
 go_wp2_with fail
 go_loopw [10] (fun i wr=> ∃k:Nat,k≤l.length∧i= .int .i64 (k:Int)∧LwAt w0.heap.size b (accTo (printL l) k).data.toList wr∧Below w0.heap.size w0 wr∧KL w wr) (fun i _=>l.length-(intOf i).toNat)
 case atStart=>exact ⟨0,Nat.zero_le _,rfl,HW.out,HB.out,KL.refl w⟩
 case round=>
  obtain ⟨k,hk,rfl,hW,hB,hK⟩:=hrel
  have HWR:=Lib.hid hW;have HBR:=Lib.hid hB;have HKR:=Lib.hid hK
  clear hW hB hK
  by_cases hlt:k<l.length
  ·have hltI:(k:Int)<(l.length:Int):=by omega
   have hk0:(0:Int)≤(k:Int):=by omega
   obtain ⟨bl,o,rfl,cc⟩:=H3.out.resolve_left (by rintro rfl;simp at hlt)
   obtain ⟨u,hru,hu⟩:=cc k hlt
   obtain ⟨d0,d1,d2,d3⟩:=hu _ HBR.out HKR.out
   have HRU:=Lib.hid hru
   obtain ⟨z1,z2,z3,z4⟩:=HZ.out _ (List.getElem_mem hlt)
   obtain ⟨D,hD,hD4,-⟩:=HPL.out k hlt
   have hvi:=HAL.out _ (List.getElem_mem hlt)
   have HNX:=Lib.hid (HAN.out k hlt D hD)
   have hacc:=HLE.out k hk
   obtain ⟨bd,hbd,hdd⟩:=own_at HU.out (by omega:0<l.length)
   subst hbd
   have HDD:=Lib.hid (fun (W':World) (hk':KL w W')=>hdd W' hk' k hlt D hD)
   clear hdd hu cc
   generalize l[k]=it at d0 d1 d2 d3 hru HRU hvi z1 z2 z4 HNX
   obtain ⟨ik,inm,ics,int⟩:=it
   simp only at d0 d1 d2 d3 hru HRU z1 z2 z4
   obtain ⟨au,cu,rfl⟩: ∃au cu,u= .slice au ics.length cu:=by obtain ⟨au,cu,h,-⟩:=hru;exact ⟨au,cu,h⟩
   have X1:=Lib.hid (BxAt.new wr ik inm (.slice au ics.length cu) int)
   have BX:=Lib.hid ((Below.refl wr.heap.size wr).alloc (Nat.le_refl _) (.cells #[.int .i64 ik, .string inm, .slice au ics.length cu, .string int] 32))
   have WD:=Lib.hid (HWR.out.later BX.out.drew)
   have BD:=Lib.hid (HBR.out.trans (BX.out.drew.mono HBR.out.size))
   have KX:=Lib.hid (HKR.out.trans (KL.alloc wr (.cells #[.int .i64 ik, .string inm, .slice au ics.length cu, .string int] 32)))
   have KD:=Lib.hid (KX.out.trans (show KL _ (wr.alloc (.cells #[.int .i64 ik, .string inm, .slice au ics.length cu, .string int] 32)).drew from KL.refl _))
   have dd:=HDD.out _ KX.out
   obtain ⟨x0,x1,x2,x3⟩:=X1.out.cells
   have HIT:=Lib.hid (fun (w':World) (hb:Below w0.heap.size w0 w') (hw:LwAt w0.heap.size b (accTo (printL l) k).data.toList w')=>item_w w0 w' b _ (ik,inm,ics,int) (.slice au ics.length cu) D hvi hb hw HRU.out (sizedC_of_short z2) HT.out z1 z4 hD4 (by omega))
   clear hvi z1 z2 z3 z4 hru hD
   have hbk0:(k:Int)<(l.length:Int):=hltI
   go_wp2_with fail
   go_region_with (go_at_call 87;(refine (HIT.out _ BD.out WD.out).mono ?_);rintro e w3 ⟨rfl,h3,hb3,hk3⟩)
   all_goals
    have W3:=Lib.hid h3;have B3:=Lib.hid hb3;have K3:=Lib.hid (KD.out.trans hk3)
    have hln:=HNX.out
    clear h3 hb3 hk3 d0 d1 d2 d3 x0 x1 x2 x3 dd
    have hlen3:((accTo (printL l) k).data.toList++lineI (ik,inm,ics,int) D 0).length≤100000000:=by
     have:=lineI_len (ik,inm,ics,int) D 0
     have h8:=HLE.out (k+1) (by omega)
     rw [hln,List.length_append,List.length_singleton] at h8
     omega
    have HNY:=Lib.hid hln
    clear hln
    go_wp2_with fail
    refine (lByte_any _ b _ 10 10 (by decide) _ W3.out (by omega) B3.out.size).mono ?_
    rintro e w4 ⟨rfl,h4,hb4,hk4⟩
    have W4:=Lib.hid h4;have B4:=Lib.hid (B3.out.trans hb4);have K4:=Lib.hid (K3.out.trans hk4)
    clear h4 hb4 hk4
    go_wp2
    go_roundw
    case rel=>exact ⟨k+1,by omega,by go_num,by rw [HNY.out];exact W4.out,B4.out,K4.out⟩
    case measure=>simp [intOf];omega
  ·obtain rfl:k=l.length:=by omega
   have hltI: ¬(l.length:Int)<(l.length:Int):=by omega
   go_wp2
   go_end0
   exact ⟨rfl,HWR.out,HBR.out,HKR.out⟩
theorem result_w (B b:Nat) (A:ByteArray) (w:World) (h:LwAt B b A.data.toList w) (hB:B≤w.heap.size) (hl:A.size≤100000000):
  Calls Tryz.prog 57 #[.pointer (some ⟨b,0,none⟩)] w fun e w'=>e= .returned (.tuple #[.string (if textB A=true then A else ⟨#[]⟩), .bool (textB A)])∧Below B w w':=by
 have HW:=Lib.hid h;clear h
 obtain ⟨X,hX⟩: ∃X,(if textB A=true then A else (⟨#[]⟩:ByteArray))=X:=⟨_,rfl⟩
 rw [hX]
 have HX:=Lib.hid hX;clear hX
 go_enter Tryz.func57,Tryz.ntmps57
 go_wp2_with fail
 refine (lText_all B b _ w HW.out hB).mono ?_
 rintro e w4 ⟨rfl,hb4⟩
 rw [show (⟨A.data.toList.toArray⟩:ByteArray)=A from ByteArray.ext (by simp)]
 have HB4:=Lib.hid hb4;clear hb4
 go_wp2_with fail
 refine (textValid_impl A _ (by unfold maxLen;omega)).mono ?_
 rintro e w5 ⟨rfl,hw5⟩
 subst hw5
 cases hk:textB A
 ·have HY:=Lib.hid (show X=⟨#[]⟩ by rw [←HX.out,hk];rfl)
  have HK:=Lib.hid hk
  clear HX hk
  go_wp2
  go_ret2
  exact ⟨by rw [HY.out,HK.out];rfl,HB4.out⟩
 ·have HY:=Lib.hid (show X=A by rw [←HX.out,hk];rfl)
  have HK:=Lib.hid hk
  clear HX hk
  go_wp2
  go_ret2
  exact ⟨by rw [HY.out,HK.out];rfl,HB4.out⟩
theorem align_plain {l:List It} (hd:docB l=true): ∀t∈printL (padL l),plainL t.data.toList=true:=by
 intro t ht
 obtain ⟨k,hk,rfl⟩:=List.getElem_of_mem ht
 have hk2:k<l.length:=by rw [printL_length,padL_length] at hk;exact hk
 obtain ⟨-,hv,hn⟩:=(docB_iff l).mp hd
 obtain ⟨D,m,-,-,-,e⟩:=align_at hn k hk2
 rw [List.getElem?_eq_getElem hk] at e
 injection e with e
 rw [e,baL_list]
 rw [List.all_eq_true] at hv
 exact line_plain (hv _ (List.getElem_mem hk2)) _ _
theorem own_klI {w W':World} {B n:Nat} {u:Value} {xs:List Value} (h:w.ownsRow B 32 4 u n xs) (hk:KL w W'):W'.ownsRow B 32 4 u n xs:=by
 refine own_keep h fun g hg=> ?_
 rcases h.2 with ⟨rfl,-⟩|⟨g',cap,cur,rfl,hbg,hh,-⟩
 ·simp [Value.ownBlock] at hg
 ·obtain rfl:g'=g:=by simpa [Value.ownBlock] using hg
  rw [hh];exact hk _ _ _ _ hh (by decide) (by decide)
theorem rowKw_pad {w0 w:World} {v:Value} {l:List It} {us:List Value} {B:Nat} (hul:us.length=l.length) (hus: ∀(k:Nat) (h:k<l.length) (h':k<us.length),RowC w0 us[k] l[k].2.2.1) (ho:w.ownsRow B 32 4 v l.length (itF (padL l) us)):RowKw w0 w v (padL l):=by
 have hpl:=padL_length l
 have hk:=fun W' (hk:KL w W')=>own_klI ho hk
 rcases ho.2 with ⟨rfl,h0⟩|⟨g,cap,cur,rfl,hbg,hh,hc1,hc2,-⟩
 ·exact ⟨none,0,by rw [hpl,h0],by omega,by unfold maxLen;omega, .inl (List.length_eq_zero_iff.mp (by omega))⟩
 ·refine ⟨_,cap,by rw [hpl],by omega,hc2, .inr ⟨g,0,rfl,fun k hlt=> ?_⟩⟩
  have hlt2:k<l.length:=by omega
  obtain ⟨m,-,e⟩:=padL_at hlt2
  obtain ⟨f0,f1,f2,f3⟩:=itF_at (padL l) us (by omega) k hlt (by omega)
  refine ⟨us[k]'(by omega),by rw [e];exact hus k hlt2 (by omega),fun W' _ hK=> ?_⟩
  have hr:=hk W' hK
  refine ⟨?_, ?_, ?_, ?_⟩
  ·rw [Nat.zero_add,hr.cellAt _ (by omega)];exact f0
  ·rw [Nat.zero_add,hr.cellAt _ (by omega)];exact f1
  ·rw [Nat.zero_add,hr.cellAt _ (by omega)];exact f2
  ·rw [Nat.zero_add,hr.cellAt _ (by omega)];exact f3
theorem pad_ok {l:List It} (h:docB l=true): ∀i∈padL l,itemB i=true∨i.1=3:=by
 have hv:=((docB_iff l).mp h).2.1
 rw [List.all_eq_true] at hv
 intro i hi
 obtain ⟨k,hk,rfl⟩:=List.getElem_of_mem hi
 have hk2:k<l.length:=by rw [padL_length] at hk;exact hk
 obtain ⟨m,-,e⟩:=padL_at hk2
 rw [e]
 by_cases h3:l[k].1=3
 ·exact .inr h3
 ·left;unfold padI;rw [if_neg h3];exact hv _ (List.getElem_mem hk2)
theorem alignDocument_impl (v:Value) (l:List It) (w:World) (hr:RowIt w v l) (hz:ShortI l) (htab:Tab w):
  Calls Tryz.prog 21 #[v] w fun e w'=>e= .returned (.tuple #[.string (alignT l), .bool (alignK l)])∧Below w.heap.size w w':=by
 have HC:=Lib.hid (documentValid_impl v l w hr (fitI_of_short hz) htab)
 have HR:=Lib.hid hr;have HT:=Lib.hid htab;have HZ:=Lib.hid hz
 obtain ⟨ao,cap,rfl,h1,h2,h3⟩:=hr
 clear h3 hz htab
 cases hok:docB l with
 |false=>
  obtain ⟨hk,ht⟩:=align_no hok
  rw [hk,ht]
  rw [hok] at HC
  clear hk ht hok
  go_enter Tryz.func21,Tryz.ntmps21
  go_wp2_with fail
  refine HC.out.mono ?_
  rintro e w1 ⟨rfl,hb1⟩
  have HB1:=Lib.hid hb1;clear hb1
  go_wp2
  go_ret2
  exact ⟨rfl,HB1.out⟩
 |true=>
  obtain ⟨h30,-,hn⟩:=(docB_iff l).mp hok
  have hpl:=padL_length l
  have HPT:=Lib.hid (lines_text (align_plain hok))
  have HJ:=Lib.hid (align_join hok)
  have HWS:=Lib.hid (fun k n (h:(wdL 0 l)[k]? =some n)=>wd_short hok h)
  have hnp:nestO 0 (padL l)=some 0:=(pad_dep l).2.trans hn
  have hdp:dps 0 (padL l)=dps 0 l:=by unfold dps;rw [show ((0:Nat):Int)=0 from rfl,(pad_dep l).1]
  have HDW:=Lib.hid (fun (w0 w1:World) (b B:Nat) (v u:Value) (us:List Value) (hb:Below w0.heap.size w0 w1) (hw:LwAt w0.heap.size b [] w1) (ht:Tab w0) (hul:us.length=l.length) (hus: ∀(k:Nat) (h:k<l.length) (h':k<us.length),RowC w0 us[k] l[k].2.2.1) (ho:w1.ownsRow B 32 4 v l.length (itF (padL l) us)) (hu: ∃B,w1.ownsRow B 3 1 u l.length (ints (dps 0 l)))=>
   document_w w0 w1 b v u (padL l) hb hw (rowKw_pad hul hus ho) (pad_short HZ.out) (by omega) (pad_ok hok) hnp ht (by rw [hpl,hdp];exact hu))
  have HAW:=Lib.hid (fun (w':World) (v:Value) (hr:RowIt w' v l) (ht:Tab w')=>alignWidths_impl v l w' hr (fitI_of_short HZ.out) ht)
  have HWD:=Lib.hid (show wdD l=wdL 0 l by unfold wdD;rw [if_pos hok])
  have HDP:=Lib.hid (fun (w':World) (v:Value) (hr:RowIt w' v l) (ht:Tab w')=>depthsOf_impl v l w' hr (fitI_of_short HZ.out) ht)
  have HDD:=Lib.hid (show dpD l=dps 0 l by unfold dpD;rw [if_pos hok])
  have hlen:(accTo (printL (padL l)) (padL l).length).size≤100000000:=by
   have:=acc_len (pad_short HZ.out) hnp (padL l).length (Nat.le_refl _)
   rw [size_bytes];omega
  rw [printL_length] at HPT
  rw [hok] at HC
  obtain ⟨A,hA⟩: ∃A,A=accTo (printL (padL l)) (padL l).length:=⟨_,rfl⟩
  rw [←hA] at HDW HPT hlen
  have HFIN:=Lib.hid (show (if textB A=true then A else ⟨#[]⟩)=alignT l∧textB A=alignK l from by
   obtain ⟨p1,p2⟩:=HPT.out
   obtain ⟨j1,j2⟩:=HJ.out
   refine ⟨?_,by rw [j1,p1]⟩
   by_cases ht:textB A=true
   ·rw [if_pos ht,j2];exact p2 (by rw [←p1];exact ht)
   ·rw [if_neg ht,alignT,if_neg (by rw [j1,←p1];exact ht)])
  clear hok hA hn hnp hdp
  go_enter Tryz.func21,Tryz.ntmps21
  go_wp2_with fail
  refine HC.out.mono ?_
  rintro e w1 ⟨rfl,hb1⟩
  have HB1:=Lib.hid hb1;have HR1:=Lib.hid (HR.out.mono hb1);have HT1:=Lib.hid (HT.out.keep hb1)
  have BX:=Lib.hid ((Below.refl w1.heap.size w1).alloc (Nat.le_refl _) (.cells #[.pointer none, .slice none 0 0] 64))
  clear hb1
  go_wp2_with fail
  refine (HAW.out _ _ (HR1.out.mono BX.out) (HT1.out.keep BX.out)).mono ?_
  rintro e w2 ⟨vw,rfl,ho2,hb2⟩
  rw [HWD.out,wdL_length] at ho2
  have W2:=Lib.hid ((LwAt.new w1).later hb2)
  have B2:=Lib.hid (BX.out.trans (hb2.mono (by simp)))
  have O2:=Lib.hid (RowI.of_own ho2).1
  obtain ⟨ua,uc,rfl⟩:=own_shape ho2
  clear hb2 ho2
  go_wp2_with fail
  refine (padded_any _ _ l w1 w2 B2.out HR1.out O2.out h30 (fun i hi=>(HZ.out i hi).1) HWS.out).mono ?_
  rintro e w3 ⟨vp,us,rfl,hul,hus,ho3,hb3⟩
  have W3:=Lib.hid (W2.out.later hb3)
  have B3:=Lib.hid (B2.out.trans (hb3.mono B2.out.size))
  have O3:=Lib.hid ho3;have HUL:=Lib.hid hul;have HUS:=Lib.hid hus
  obtain ⟨pa,pc,rfl⟩:=own_shape ho3
  clear hb3 ho3 hul hus
  go_wp2_with fail
  refine (HDP.out _ _ (HR1.out.mono B3.out) (HT1.out.keep B3.out)).mono ?_
  rintro e w4 ⟨u,rfl,ho4,hb4⟩
  rw [HDD.out,dps_length] at ho4
  have W4:=Lib.hid (W3.out.later hb4)
  have B4:=Lib.hid (B3.out.trans (hb4.mono B3.out.size))
  have O4:=Lib.hid ho4;have P4:=Lib.hid (own_belowS O3.out hb4)
  obtain ⟨ua,uc,rfl⟩:=own_shape ho4
  clear hb4 ho4
  go_wp2_with fail
  refine (HDW.out w1 w4 w1.heap.size _ _ _ us B4.out W4.out HT1.out HUL.out HUS.out P4.out ⟨_,O4.out⟩).mono ?_
  rintro e w5 ⟨rfl,h5,hb5,-⟩
  have W5:=Lib.hid h5;have B5:=Lib.hid hb5
  clear h5 hb5
  go_wp2_with fail
  refine (result_w w1.heap.size w1.heap.size A w5 W5.out B5.out.size hlen).mono ?_
  rintro e w6 ⟨rfl,hb6⟩
  rw [HFIN.out.1,HFIN.out.2]
  have HB6:=Lib.hid (HB1.out.trans ((B5.out.trans hb6).mono HB1.out.size));clear hb6
  go_wp2
  go_ret2
  exact ⟨rfl,HB6.out⟩
theorem own_mono {w:World} {b b':Nat} {e:TypeId} {size:Nat} {v:Value} {n:Nat} {xs:List Value} (h:w.ownsRow b e size v n xs) (hb:b'≤b):w.ownsRow b' e size v n xs:=by
 refine ⟨h.1, ?_⟩
 rcases h.2 with h2|⟨g,cap,cur,hv,hg,r⟩
 ·exact .inl h2
 ·exact .inr ⟨g,cap,cur,hv,by omega,r⟩
theorem linesOf_impl (s:ByteArray) (w:World) (hs:s.size≤maxLen):
 Calls Tryz.prog 24 #[.string s] w (NewTexts (linesB s) w):=by
 obtain ⟨i0,hi,hz0,hz1,hz2⟩:=info_parts infoStr
 by_cases ht:textB s=true
 ·have h20:s.size≤20000:=by simp only [textB,Bool.and_eq_true,decide_eq_true_eq] at ht;exact ht.1
  have HL:=Lib.hid (show linesB s=linesAll s by rw [linesB,if_pos ht])
  have HT:=Lib.hid ht;clear ht
  go_enter Tryz.func24,Tryz.ntmps24
  go_wp2_with fail
  refine (textValid_impl s _ hs).mono ?_
  rintro e w' ⟨rfl,hw1⟩
  rw [HT.out]
  subst hw1
  go_wp2_with fail
  refine (lineStarts_any s _ h20).mono ?_
  rintro e w1 ⟨g,cap,rfl,hc1,hc2,hg0,hg1,hcells,hb1⟩
  have HC:=Lib.hid hcells;have HB1:=Lib.hid hb1
  unfold maxLen at hc2
  have hln:=lineN_le s.data.toList s.size
  clear hcells hb1
  go_wp2_with fail
  go_loopw [5,6,16] (fun v _ i wr=> ∃k:Nat,k≤lineN s.data.toList s.size∧i= .int .i64 k∧wr.ownsRow w1.heap.size 9 1 v k (strs ((linesTo s s.size).take k))∧Below w1.heap.size w1 wr) (fun _ _ i _=>lineN s.data.toList s.size-(intOf i).toNat)
  case atStart=>exact ⟨0,Nat.zero_le _,rfl,World.ownsRow_nil _ _ _ _,Below.refl _ _⟩
  case round=>
   obtain ⟨k,hk,rfl,hown,hb⟩:=hrel
   have HB:=Lib.hid hb;clear hb
   by_cases hlt:k<lineN s.data.toList s.size
   ·have hsl:=starts_length s.data.toList s.size
    obtain ⟨a,ha⟩: ∃a,(starts s.data.toList s.size)[k]? =some a:=⟨_,List.getElem?_eq_getElem (by omega)⟩
    obtain ⟨b,hb⟩: ∃b,(starts s.data.toList s.size)[k+1]? =some b:=⟨_,List.getElem?_eq_getElem (by omega)⟩
    obtain ⟨q1,q2,q3,q4⟩:=linesTo_at s s.size k a b ha hb
    have ca:wr.cell? ⟨g,k,none⟩=some (.int .i64 (a:Int)):=(HB.out.cell (p:=⟨g,k,none⟩) hg1).trans (HC.out k a ha)
    have cb:wr.cell? ⟨g,k+1,none⟩=some (.int .i64 (b:Int)):=(HB.out.cell (p:=⟨g,k+1,none⟩) hg1).trans (HC.out (k+1) b hb)
    have HQ:=Lib.hid q4
    clear ha hb hsl q4
    have e1:IntKind.i64.wrap ((k:Int)+1)=(k:Int)+1:=IntWalk.i64_in _ (by omega)
    have e2:IntKind.i64.wrap ((b:Int)-1)=(b:Int)-1:=IntWalk.i64_in _ (by omega)
    have e3:0≤(k:Int)+1:=by omega
    have e4:((k:Int)+1).toNat=k+1:=by omega
    have ag: ∀q,u5.ownBlock=some q→q≠g:=fun q hq=>by have:=(hown.lt q hq).1;omega
    have AG:=Lib.hid ag;clear ag
    have hgw:g<wr.heap.size:=by have:=HB.out.size;omega
    have bk3:(a:Int)≤(b:Int)-1:=by omega
    have bk4:(b:Int)-1≤(s.size:Int):=by omega
    have bk5:0≤(b:Int)-1:=by omega
    have bk6:((b:Int)-1).toNat=b-1:=by omega
    have bk0:(0:Int)≤(k:Int):=by omega
    have bk1:(k:Int)<(lineN s.data.toList s.size:Int)+1:=by omega
    have bk2:(k:Int)+1<(lineN s.data.toList s.size:Int)+1:=by omega
    go_wp2_with fail
    go_region_held3 (fun w'=>w'.cell? ⟨g,k,none⟩=some (.int .i64 (a:Int))∧w'.cell? ⟨g,k+1,none⟩=some (.int .i64 (b:Int)))
     (first
       |go_keep
       |(go_split_ands
         refine ⟨?_, ?_⟩
         ·(rw [hgrow.cell_far _ (by simp;omega) (fun hq=>AG.out _ hq.symm rfl)];assumption)
         ·(rw [hgrow.cell_far _ (by simp;omega) (fun hq=>AG.out _ hq.symm rfl)];assumption)))
     ((refine step_append_lies _ (by rfl) _ _ _ (by rfl) w1.heap.size 9 i0 _ 1 16 Tryz.underlying38 hi hz0 hz1 hz2 rfl (by omega) u5 k _ (by rfl) ((hown.alloc _).drew)
        ⟨wr.heap.size,0,none⟩ 1 1 [.string (s.extract a (b-1))] (by rfl) (by rfl) (World.news_of_block (cs:= #[.string (s.extract a (b-1))]) (t:=9) (fr:=(0,0)) (heap_alloc_new wr _)) (by simp [Value.oneCell'])
        (by omega) (by unfold maxLen;omega) (by omega) (by have:=HB.out.size;simp;omega) (wr.heap.size+1) (by simp) ?_;intro gg cap' w2 hown' hgrow hat hlt'))
    have HT2:=Lib.hid (show (linesTo s s.size).take (k+1)=(linesTo s s.size).take k++[s.extract a (b-1)] by rw [List.take_add_one,HQ.out];rfl)
    go_wp2
    go_roundw
    case rel=>
     refine ⟨k+1,by omega,by go_num, ?_, ?_⟩
     ·rw [HT2.out,strs_append];exact hown'
     ·exact ((HB.out.alloc HB.out.size _).drew).grown hgrow (by have:=HB.out.size;simp;omega) (fun q hq=>(hown.lt q hq).1)
    case measure=>simp [intOf];omega
   ·obtain rfl:k=lineN s.data.toList s.size:=by omega
    have HT2:=Lib.hid (show (linesTo s s.size).take (lineN s.data.toList s.size)=linesTo s s.size by rw [List.take_of_length_le (by rw [linesTo_length];omega)])
    rw [HT2.out] at hown
    have HLL:=Lib.hid (linesTo_length s s.size)
    have hfl:=fromN_le s.data.toList s.size
    have ca:wr.cell? ⟨g,lineN s.data.toList s.size,none⟩=some (.int .i64 (fromN s.data.toList s.size:Nat)):=(HB.out.cell (p:=⟨g,_,none⟩) hg1).trans (HC.out _ _ (starts_last s.data.toList s.size))
    have HW:=Lib.hid (HB1.out.trans (HB.out.mono HB1.out.size))
    by_cases hrest:fromN s.data.toList s.size<s.size
    ·have HA:=Lib.hid (show linesAll s=linesTo s s.size++[s.extract (fromN s.data.toList s.size) s.size] by rw [linesAll,if_pos hrest])
     go_wp2_with (at_builtin;refine wpList_append_own _ rfl _ _ 38 rfl w1.heap.size 9 i0 (.string ByteArray.empty) 1 16 Tryz.underlying38 hi hz0 hz1 hz2 rfl (by decide) _ _ _ rfl (hown.alloc _) ⟨wr.heap.size,0,none⟩ 1 1 [.string (s.extract (fromN s.data.toList s.size) s.size)] rfl rfl (cell_one_new _ _ _) (str_oneCell _) (by unfold maxLen;omega) (by omega) (by have:=HB.out.size;simp;omega) ?_;intro v' w2 hown' hgrow hnil)
     go_ret
     refine ⟨_,rfl, ?_, ?_⟩
     ·rw [HL.out,HA.out,strs_append,List.length_append,HLL.out];exact own_mono hown' HB1.out.size
     ·exact (HW.out.alloc HW.out.size _).grown hgrow (by have:=HW.out.size;simp;omega) (fun q hq=>Nat.le_trans HB1.out.size (hown.lt q hq).1)
    ·have HA:=Lib.hid (show linesAll s=linesTo s s.size by rw [linesAll,if_neg hrest])
     go_wp2
     go_ret
     exact ⟨_,rfl,by rw [HL.out,HA.out,HLL.out];exact own_mono hown HB1.out.size,HW.out⟩
 ·have HL:=Lib.hid (show linesB s=[] by rw [linesB,if_neg ht])
  go_enter Tryz.func24,Tryz.ntmps24
  go_wp2_with fail
  refine (textValid_impl s _ hs).mono ?_
  rintro e w' ⟨rfl,hw1⟩
  rw [Bool.eq_false_iff.mpr ht]
  subst hw1
  clear ht
  go_wp2
  go_ret
  exact ⟨_,rfl,by rw [HL.out];exact World.ownsRow_nil _ _ _ _,Below.refl _ _⟩
theorem trimB_eq (l:List UInt8):Lib.trimB l 32=trimL l:=by
 have e: ∀m:List UInt8,Lib.trimLeftB m 32=trL m:=fun _=>rfl
 have r: ∀m:List UInt8,Lib.trimRightB m 32=(trL m.reverse).reverse:=fun _=>rfl
 obtain ⟨a,b,h,h0,h1⟩:=trim_parts l
 generalize hm:trimL l=m at h h0 h1
 show Lib.trimLeftB (Lib.trimRightB l 32) 32=_
 rw [e,r,h,List.reverse_append,List.reverse_append,show (spL b).reverse=spL b by unfold spL;rw [List.reverse_replicate],show (spL a).reverse=spL a by unfold spL;rw [List.reverse_replicate],List.append_assoc,trL_sp]
 by_cases hz:m=[]
 ·subst hz
  rw [List.reverse_nil,List.nil_append,trL_only];rfl
 ·have e1:trL (m.reverse++spL a)=m.reverse++spL a:=by
   refine trL_not ?_
   have:m.reverse≠[]:=by simp [hz]
   obtain ⟨z,zs,hzs⟩:=List.exists_cons_of_ne_nil this
   rw [hzs,List.cons_append,List.head?_cons]
   have hl:m.getLast? =some z:=by rw [←List.head?_reverse,hzs];rfl
   rw [hl] at h1;exact h1
  rw [e1,List.reverse_append,List.reverse_reverse,show (spL a).reverse=spL a by unfold spL;rw [List.reverse_replicate],trL_sp,trL_not h0]
def cutH (l:List UInt8):List UInt8:=match hs 0 l with|some k=>l.take k|none=>l
def cutR (l:List UInt8):List UInt8:=match hs 0 l with|some k=>l.drop k|none=>[]
theorem hs_at: ∀(l:List UInt8) (s k:Nat),hs s l=some k→k<l.length∧l[k]? =some 35:=by
 intro l
 induction l with
 |nil=>intro s k h;cases h
 |cons b l ih=>
  intro s k h
  rw [hs] at h
  split at h
  ·rename_i hc
   injection h with h;subst h
   exact ⟨by simp,by rw [hc.2];rfl⟩
  ·rw [Option.map_eq_some_iff] at h
   obtain ⟨j,h1,rfl⟩:=h
   obtain ⟨k1,k2⟩:=ih _ _ h1
   exact ⟨by simpa using k1,by simpa using k2⟩
theorem code_cut (l:List UInt8):codeL l=trimL (cutH l):=by
 unfold codeL cutH
 cases hs 0 l<;>rfl
theorem cutR_head (l:List UInt8):(cutR l=[]∧behL l=[])∨ ∃t,cutR l=35::t∧behL l=trimL t:=by
 unfold cutR behL
 cases h:hs 0 l with
 |none=>exact .inl ⟨rfl,rfl⟩
 |some k=>
  obtain ⟨h1,h2⟩:=hs_at _ _ _ h
  rw [List.getElem?_eq_getElem h1] at h2
  injection h2 with h2
  refine .inr ⟨l.drop (k+1), ?_,rfl⟩
  show l.drop k=_
  rw [List.drop_eq_getElem_cons h1,h2]
theorem drop_lastL {l:List UInt8} (k:Nat) (h:l.getLast? ≠some 32):(l.drop k).getLast? ≠some 32:=by
 rw [List.getLast?_drop]
 split
 ·simp
 ·exact h
theorem nmQ_drop (l:List UInt8):nmQ l=l.drop (nmP l).length:=by
 unfold nmQ nmP
 induction l with
 |nil=>rfl
 |cons b l ih=>
  rw [List.dropWhile_cons,List.takeWhile_cons]
  split
  ·rw [ih];rfl
  ·rfl
theorem trL_drop (l:List UInt8): ∃k,trL l=l.drop k:=by
 induction l with
 |nil=>exact ⟨0,rfl⟩
 |cons b l ih=>
  rw [trL,List.dropWhile_cons]
  split
  ·obtain ⟨k,hk⟩:=ih;exact ⟨k+1,by rw [List.drop_succ_cons];exact hk⟩
  ·exact ⟨0,rfl⟩
theorem trL_trim {l:List UInt8} (h:l.getLast? ≠some 32):trL l=trimL l:=by
 have h1:(trL l).getLast? ≠some 32:=by
  obtain ⟨k,hk⟩:=trL_drop l
  rw [hk];exact drop_lastL k h
 unfold trimL
 rw [trL_not (l:=(trL l).reverse) (by rw [List.head?_reverse];exact h1),List.reverse_reverse]
theorem trimL_len (l:List UInt8):(trimL l).length≤l.length:=by
 obtain ⟨a,b,e,-,-⟩:=trim_parts l
 have:=congrArg List.length e
 rw [List.length_append,List.length_append] at this
 omega
noncomputable def rawP (R:ByteArray→List Cl) (l:List UInt8):It:=
 if l=[] then (1,⟨#[]⟩,[],⟨#[]⟩)
 else if l=[125] then (5,⟨#[]⟩,[],⟨#[]⟩)
 else if l.head? =some 35 then (2,⟨#[]⟩,[],baL (trimL (l.drop 1)))
 else if trL (nmQ l)=[123] then (4,baL (nmP l),[],⟨#[]⟩)
 else if (trL (nmQ l)).head? =some 61 then (3,baL (nmP l),R (baL (cutH ((trL (nmQ l)).drop 1))),baL (behL ((trL (nmQ l)).drop 1)))
 else (0,⟨#[]⟩,[],⟨#[]⟩)
noncomputable def readItP (R:ByteArray→List Cl) (s:ByteArray):Option It:=
 if itemB (rawP R (trimL s.data.toList))=true then some (rawP R (trimL s.data.toList)) else none
theorem item_zero (n:ByteArray):itemB (0,n,[],⟨#[]⟩)=false:=by simp [itemB]
theorem readItP_eq {R:ByteArray→List Cl} {B:Nat} (hR: ∀l:List UInt8,l.length≤B→R (baL l)=R (baL (trimL l))) {s:ByteArray} (hs:s.size≤B):readItP R s=readIt R s:=by
 obtain ⟨a,b,e,h0,h1⟩:=trim_parts s.data.toList
 have hl:(trimL s.data.toList).length≤B:=by
  have:=trimL_len s.data.toList
  have h2:s.data.toList.length=s.size:=by rw [Array.length_toList];rfl
  omega
 unfold readItP readIt
 generalize trimL s.data.toList=l at h0 h1 hl⊢
 have hq:trL (nmQ l)=trimL (nmQ l):=trL_trim (by rw [nmQ_drop];exact drop_lastL _ h1)
 by_cases c1:l=[]
 ·simp [rawP,rawI,c1]
 by_cases c2:l=[125]
 ·simp [rawP,rawI,c2]
 by_cases c3:l.head? =some 35
 ·have e1:rawP R l=rawI R l:=by rw [rawP,rawI,if_neg c1,if_neg c1,if_neg c2,if_neg c2,if_pos c3,if_pos c3]
  rw [e1]
 by_cases c4:trimL (nmQ l)=[123]
 ·have e1:rawP R l=rawI R l:=by rw [rawP,rawI,if_neg c1,if_neg c1,if_neg c2,if_neg c2,if_neg c3,if_neg c3,hq,if_pos c4,if_pos c4]
  rw [e1]
 by_cases c5:(trimL (nmQ l)).head? =some 61
 ·have e1:rawP R l=rawI R l:=by
   rw [rawP,rawI,if_neg c1,if_neg c1,if_neg c2,if_neg c2,if_neg c3,if_neg c3,hq,if_neg c4,if_neg c4,if_pos c5,if_pos c5,code_cut,hR]
   have h3:(cutH ((trimL (nmQ l)).drop 1)).length≤((trimL (nmQ l)).drop 1).length:=by
    unfold cutH
    split
    ·rw [List.length_take];omega
    ·exact Nat.le_refl _
   have h4:=trimL_len (nmQ l)
   have h5:(nmQ l).length≤l.length:=by rw [nmQ_drop,List.length_drop];omega
   rw [List.length_drop] at h3
   omega
  rw [e1]
 ·have e1:rawP R l=(0,⟨#[]⟩,[],⟨#[]⟩):=by rw [rawP,if_neg c1,if_neg c2,if_neg c3,hq,if_neg c4,if_neg c5]
  have e2:rawI R l=(0,baL (nmP l),[],⟨#[]⟩):=by rw [rawI,if_neg c1,if_neg c2,if_neg c3,if_neg c4,if_neg c5]
  rw [e1,e2,item_zero,item_zero]
  rfl
end Go.Proofs.YtegdjjjpoahamaaGreatDoor
