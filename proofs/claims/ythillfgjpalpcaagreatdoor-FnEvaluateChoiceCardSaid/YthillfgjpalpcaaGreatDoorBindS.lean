/-
  spec.BindingsValid, by its contract.
-/
import Derived.Test.YthillfgjpalpcaaGreatDoorGEv
import Derived.Test.YthillfgjpalpcaaGreatDoorBaseVS
set_option linter.unusedVariables false
set_option maxHeartbeats 4000000
set_option maxRecDepth 100000
namespace Go.Proofs.YthillfgjpalpcaaGreatDoor
open Go.RowKit
theorem bindingsValid_spec (v:Value) (env:List Bd) (w:World) (hr:RowB w v env) (hz:ShortB env):
  Calls Tryz.prog 26 #[v] w fun e w'=>e= .returned (.bool (bindOK env))∧Below w.heap.size w w':=by
 have HZ:=zz hz
 obtain ⟨ao,cap,rfl,h1,h2,h3⟩:=hr
 unfold maxLen at h2
 have H3:=zz h3
 clear h3 hz
 go_enter Tryz.func26,Tryz.ntmps26
 go_wp2_with fail
 go_loopw [3] (fun i wr=> ∃k:Nat,k≤env.length∧i= .int .i64 (k:Int)∧(∀b∈env.take k,nmL b.1=true∧okV b.2=true)∧diffB (env.take k)∧Below w.heap.size w wr) (fun i _=>env.length-(intOf i).toNat)
 case atStart=>exact ⟨0,Nat.zero_le _,rfl,fun b h=>by simp at h,by rw [List.take_zero];trivial,Below.refl _ _⟩
 case round=>
  obtain ⟨k,hk,rfl,hall,hdiff,hb⟩:=hrel
  have HALL:=zz hall;have HD:=zz hdiff;have HB:=zz hb
  clear hall hdiff hb
  by_cases hlt:k<env.length
  ·obtain ⟨b,o,rfl,hbl,cc⟩:=H3.out.resolve_left (by rintro rfl;simp at hlt)
   obtain ⟨u,c0,c1,hru⟩:=cc k hlt
   have d0:wr.cell? ⟨b,o+k*2,none⟩=some (.string env[k].1):=(HB.out.cell (p:=⟨b,_,none⟩) hbl).trans c0
   have d1:wr.cell? ⟨b,o+k*2+1,none⟩=some u:=(HB.out.cell (p:=⟨b,_,none⟩) hbl).trans c1
   have HRU:=zz (hru.mono HB.out)
   obtain ⟨hz1,hz2,hz3⟩:=HZ.out env[k] (List.getElem_mem hlt)
   have HZ2:=zz hz2
   have HBAD:=zz (fun h=>bindOK_bad (List.getElem_mem hlt) h)
   have HCC:=zz cc
   have HTK:=zz (show env.take (k+1)=env.take k++[env[k]] from List.take_succ_eq_append_getElem hlt)
   have HNX:=zz (show nmL env[k].1=true→okV env[k].2=true→ ∀b∈env.take (k+1),nmL b.1=true∧okV b.2=true from fun h1 h2 b hb=>by
    rw [HTK.out,List.mem_append,List.mem_singleton] at hb
    rcases hb with hb|rfl
    ·exact HALL.out b hb
    ·exact ⟨h1,h2⟩)
   have hnm:nameL env[k].1.data.toList=nmL env[k].1:=rfl
   have HNM:=zz (fun w'=>nameValid_spec env[k].1 w' (by unfold maxLen;omega))
   clear c0 c1 hru hz2
   have HV:=zz (fun w' (hb:Below wr.heap.size wr w')=>valueValid_spec u env[k].2 w' (HRU.out.mono hb) HZ2.out hz3)
   rw [hnm] at HNM
   cases hn:nmL env[k].1 with
   |false=>
    have HF:=zz (HBAD.out (.inl hn))
    rw [hn] at HNM
    generalize env[k].1=nk at d0 HNM
    clear hn HNX HTK HCC hnm
    go_wp2_with fail
    refine (HNM.out _).mono ?_
    rintro e w' ⟨rfl,rfl⟩
    go_wp2
    go_ret
    exact ⟨by rw [HF.out];rfl,HB.out⟩
   |true=>
    rw [hn] at HNM
    cases hv:okV env[k].2 with
    |false=>
     have HF:=zz (HBAD.out (.inr hv))
     rw [hv] at HV
     generalize env[k].1=nk at d0 HNM
     clear hn hv HNX HTK HCC hnm
     go_wp2_with fail
     refine (HNM.out _).mono ?_
     rintro e w' ⟨rfl,rfl⟩
     go_wp2_with fail
     refine (HV.out _ (Below.refl _ _)).mono ?_
     rintro e w2 ⟨rfl,hb2⟩
     have HB2:=zz (HB.out.trans (hb2.mono HB.out.size));clear hb2
     go_wp2
     go_ret
     exact ⟨by rw [HF.out];rfl,HB2.out⟩
    |true=>
     rw [hv] at HV
     have HN:=zz (HNX.out hn hv)
     have HKN:=zz (show env[k].1=env[k].1 from rfl)
     clear hn hv HNX hnm
     generalize hnk:env[k].1=nk at d0 HNM
     have HNK:=zz hnk;clear hnk
     go_wp2_with fail
     refine (HNM.out _).mono ?_
     rintro e w' ⟨rfl,rfl⟩
     go_wp2_with fail
     refine (HV.out _ (Below.refl _ _)).mono ?_
     rintro e w2 ⟨rfl,hb2⟩
     have HB2:=zz (HB.out.trans (hb2.mono HB.out.size))
     have HY2:=zz hb2
     have e0:w2.cell? ⟨b,o+k*2,none⟩=some (.string nk):=(hb2.cell (p:=⟨b,_,none⟩) (Nat.lt_of_lt_of_le hbl HB.out.size)).trans d0
     clear hb2
     go_wp2_with fail
     go_loopw [4] (fun j wj=> ∃i:Nat,i≤k∧j= .int .i64 (i:Int)∧(∀m (h:m<env.length),m<i→env[m].1≠nk)∧Below w2.heap.size w2 wj) (fun j _=>k-(intOf j).toNat)
     case atStart=>exact ⟨0,Nat.zero_le _,rfl,fun m _ h=>by omega,Below.refl _ _⟩
     case round=>
      obtain ⟨i,hik,rfl,hdf,hbj⟩:=hrel
      have HDF:=zz hdf;have HBJ:=zz hbj
      clear hdf hbj
      have hb2w:w.heap.size≤w2.heap.size:=HB2.out.size
      by_cases hli:i<k
      ·have hil:i<env.length:=by omega
       obtain ⟨u',f0,f1,hru'⟩:=HCC.out i hil
       have g0:wr.cell? ⟨b,o+i*2,none⟩=some (.string env[i].1):=(HBJ.out.cell (p:=⟨b,_,none⟩) (Nat.lt_of_lt_of_le hbl hb2w)).trans ((HB2.out.cell (p:=⟨b,_,none⟩) hbl).trans f0)
       have g1:wr.cell? ⟨b,o+k*2,none⟩=some (.string nk):=(HBJ.out.cell (p:=⟨b,_,none⟩) (Nat.lt_of_lt_of_le hbl hb2w)).trans e0
       clear f0 f1 hru' u'
       by_cases hee:env[i].1=nk
       ·have HF:=zz (bindOK_same hlt hli (by rw [hee,HNK.out]))
        have ht:(env[i].1.toList==nk.toList)=true:=by rw [hee];simp
        generalize env[i].1=ni at g0 ht
        clear hee
        go_wp2_with fail
        go_region
        go_wp2
        go_ret
        exact ⟨by rw [HF.out];rfl,HB2.out.trans ((HBJ.out.mono hb2w).trans ⟨rfl,rfl,rfl,Nat.le_refl _,fun _ _=>rfl⟩)⟩
       ·have HN2:=zz (show∀m (h:m<env.length),m<i+1→env[m].1≠nk from fun m h hm=>by
         by_cases hmi:m=i
         ·subst hmi;exact hee
         ·exact HDF.out m h (by omega))
        have ht:(env[i].1.toList==nk.toList)=false:=by
         rw [beq_eq_false_iff_ne,ByteArray.toList_eq,ByteArray.toList_eq]
         intro e;exact hee (ByteArray.ext (by simpa using e))
        generalize env[i].1=ni at g0 ht hee
        clear hee
        go_wp2_with fail
        go_region
        go_wp2
        go_roundw
        case rel=>exact ⟨i+1,by omega,by go_num,HN2.out,HBJ.out.trans ⟨rfl,rfl,rfl,Nat.le_refl _,fun _ _=>rfl⟩⟩
        case measure=>simp [intOf];omega
      ·obtain rfl:i=k:=by omega
       have HDN:=zz (show diffB (env.take (i+1)) by
        rw [HTK.out,diffB_app]
        refine ⟨HD.out,fun x hx=> ?_⟩
        rw [List.mem_take_iff_getElem] at hx
        obtain ⟨m,hm,rfl⟩:=hx
        rw [HNK.out]
        exact HDF.out m (by omega) (by omega))
       have HBN:=zz (HB2.out.trans (HBJ.out.mono hb2w))
       go_wp2
       go_roundw
       case rel=>exact ⟨i+1,by omega,by go_num,HN.out,HDN.out,HBN.out⟩
       case measure=>simp [intOf];omega
  ·obtain rfl:k=env.length:=by omega
   have htk:env.take env.length=env:=List.take_of_length_le (Nat.le_refl _)
   have HOK:=zz (bindOK_size (by have:=HALL.out;rwa [htk] at this) (by have:=HD.out;rwa [htk] at this))
   go_wp2
   go_ret
   exact ⟨by rw [HOK.out];(first|rfl|(simp;omega)),HB.out⟩
end Go.Proofs.YthillfgjpalpcaaGreatDoor
