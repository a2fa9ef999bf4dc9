/-
  impl's (*node).binary, by its contract.
-/
import Derived.Test.YthillfgjpalpcaaGreatDoorEvI2
import Derived.Test.YthillfgjpalpcaaGreatDoorGEi
import Derived.Test.YthillfgjpalpcaaGreatDoorEvB
set_option linter.unusedVariables false
set_option maxHeartbeats 4000000
set_option maxRecDepth 100000
namespace Go.Proofs.YthillfgjpalpcaaGreatDoor
open Go.RowKit
noncomputable def bothO (s:ByteArray) (o0 o1:Option (List Cl)):Option (List Cl):=match o0,o1 with|some a,some b=>binV s a b|_,_=>none
noncomputable def binO (s:ByteArray) (o0 o1:Option (List Cl)):Option (List Cl):=
 if signW s.data.toList=12 then decO false o0 o1 else if signW s.data.toList=13 then decO true o0 o1 else bothO s o0 o1
theorem signW_and {l:List UInt8} (h:signW l=12):l=[38,38]:=by
 unfold signW at h;split at h<;>first|rfl|omega
theorem signW_or {l:List UInt8} (h:signW l=13):l=[124,124]:=by
 unfold signW at h;split at h<;>first|rfl|omega
theorem binary_and (N B:Nat) (env:List Bd) (qs:List Nat) (sa:Option Addr) (sn scp:Nat) (s:ByteArray) (o0 o1:Option (List Cl)) (S:Nat→Prop) (w:World) (hn:NodeP w N qs) (hp:PartsE w B env qs (.agg #[.slice sa sn scp, .map (some B)]) [o0,o1]) (hS:Hi w.heap.size S) (he:EnvV w S B env) (hs:signW s.data.toList=12) (htab:Tab w):
  Calls Tryz.prog 113 #[.pointer (some ⟨N,0,none⟩), .agg #[.slice sa sn scp, .map (some B)], .string s] w (Res S (decO false o0 o1) w):=by
 have hl:s.toList=[38,38]:=(show s.toList=s.data.toList from ByteArray.toList_eq ..).trans (signW_and hs)
 have HBA:=zz ((Below.refl w.heap.size w).alloc (Nat.le_refl _) (.cells #[.slice sa sn scp, .map (some B)] 73))
 have HD:=zz (decided_any N B env qs sa sn scp false o0 o1 S _ (hn.keep HBA.out) (hp.keep HBA.out) (hS.mono HBA.out.size) (he.low HBA.out) (htab.keep HBA.out))
 clear hn hp hS he hs htab
 go_enter Tryz.func113,Tryz.ntmps113
 go_wp2_with fail
 refine HD.out.mono ?_
 intro e w1 hr
 obtain ⟨r,rfl,hres⟩:=hr.ret
 have HR:=zz (hres.from HBA.out)
 clear hr hres
 go_wp2
 go_ret
 exact HR.out
theorem binary_or (N B:Nat) (env:List Bd) (qs:List Nat) (sa:Option Addr) (sn scp:Nat) (s:ByteArray) (o0 o1:Option (List Cl)) (S:Nat→Prop) (w:World) (hn:NodeP w N qs) (hp:PartsE w B env qs (.agg #[.slice sa sn scp, .map (some B)]) [o0,o1]) (hS:Hi w.heap.size S) (he:EnvV w S B env) (hs:signW s.data.toList=13) (htab:Tab w):
  Calls Tryz.prog 113 #[.pointer (some ⟨N,0,none⟩), .agg #[.slice sa sn scp, .map (some B)], .string s] w (Res S (decO true o0 o1) w):=by
 have hl:s.toList=[124,124]:=(show s.toList=s.data.toList from ByteArray.toList_eq ..).trans (signW_or hs)
 have e1: ¬s.toList=[38,38]:=by rw [hl];decide
 have HBA:=zz ((Below.refl w.heap.size w).alloc (Nat.le_refl _) (.cells #[.slice sa sn scp, .map (some B)] 73))
 have HD:=zz (decided_any N B env qs sa sn scp true o0 o1 S _ (hn.keep HBA.out) (hp.keep HBA.out) (hS.mono HBA.out.size) (he.low HBA.out) (htab.keep HBA.out))
 clear hn hp hS he hs htab
 go_enter Tryz.func113,Tryz.ntmps113
 go_wp2_with fail
 refine HD.out.mono ?_
 intro e w1 hr
 obtain ⟨r,rfl,hres⟩:=hr.ret
 have HR:=zz (hres.from HBA.out)
 clear hr hres
 go_wp2
 go_ret
 exact HR.out
theorem binary_other (N B : Nat) (env : List Bd) (qs : List Nat) (sa : Option Addr) (sn scp : Nat) (s : ByteArray) (o0 o1 : Option (List Cl)) (S : Nat → Prop) (w : World) (hn : NodeP w N qs) (hp : PartsE w B env qs (.agg #[.slice sa sn scp, .map (some B)]) [o0, o1]) (hS : Hi w.heap.size S) (he : EnvV w S B env) (hs : 1 ≤ signW s.data.toList ∧ signW s.data.toList ≤ 11) (htab : Tab w) :
    Calls Tryz.prog 113 #[.pointer (some ⟨N, 0, none⟩), .agg #[.slice sa sn scp, .map (some B)], .string s] w (Res S (bothO s o0 o1) w) := by
  have hl : s.toList = s.data.toList := ByteArray.toList_eq ..
  have f1 : (s.toList == [38, 38]) = false := beq_eq_false_iff_ne.mpr (fun h => by have h9 := hs.2; rw [← hl, h] at h9; simp [signW] at h9)
  have f2 : (s.toList == [124, 124]) = false := beq_eq_false_iff_ne.mpr (fun h => by have h9 := hs.2; rw [← hl, h] at h9; simp [signW] at h9)
  have HBA := zz ((Below.refl w.heap.size w).alloc (Nat.le_refl _) (.cells #[.slice sa sn scp, .map (some B)] 73))
  have HPV := zz (partValues_any N B env qs sa sn scp [o0, o1] S _ (hn.keep HBA.out) (by have := hp.1; simp only [List.length_cons, List.length_nil] at this; omega) (hp.keep HBA.out) (hS.mono HBA.out.size) (he.low HBA.out) (htab.keep HBA.out))
  have HS := zz hS; have HT := zz htab; have HSG := zz hs
  clear hn hp hS he hs htab hl
  go_enter Tryz.func113, Tryz.ntmps113
  go_wp2_with fail
  refine HPV.out.mono ?_
  rintro e w1 ⟨hb1, ⟨v, us, ls, rfl, hrow, hvs, hall, hok⟩ | ⟨rfl, hno⟩⟩
  · have hk := allO_mem hall
    obtain ⟨x, y, rfl⟩ : ∃ x y, ls = [x, y] := len_two (by have := allO_len hall; simpa using this)
    have e0 : o0 = some x := by injection hk
    have e1 : o1 = some y := by injection hk with _ h2; injection h2
    subst e0; subst e1
    have hlen := hvs.len
    obtain ⟨u0, u1, rfl⟩ := len_two (show us.length = 2 by rw [hlen]; rfl)
    have HB1 := zz (HBA.out.trans (hb1.mono HBA.out.size))
    obtain ⟨ao, c, hv9, p1, p2, p3⟩ := hrow
    obtain ⟨g, off, rfl, -, hgl, cc⟩ := p3.resolve_left (by simp)
    replace hv9 : v = .slice (some ⟨g, off, none⟩) 2 c := hv9
    subst hv9
    replace p1 : 2 ≤ c := p1
    have c0 : w1.cell? ⟨g, off, none⟩ = some u0 := cc 0 (by simp)
    have c1 : w1.cell? ⟨g, off + 1, none⟩ = some u1 := cc 1 (by simp)
    have HV0 := zz (show VlS w1 S [u0] [x] from hvs.at 0 (by simp) (by simp)); have HV1 := zz (show VlS w1 S [u1] [y] from hvs.at 1 (by simp) (by simp))
    have HO0 := zz (hok x (by simp)); have HO1 := zz (hok y (by simp))
    obtain ⟨T0, x0, rfl⟩ := HV0.out.iface
    obtain ⟨T1, x1, rfl⟩ := HV1.out.iface
    have HW := zz (show Below w.heap.size w w1.drew from HB1.out.drew)
    have hdr : Below w1.heap.size w1 w1.drew := (Below.refl _ _).drew
    have HBR := zz ((binary_res s _ _ x y w1.drew (HV0.out.low hdr) (HV1.out.low hdr) HO0.out HO1.out (HS.out.mono HW.out.size) HSG.out (HT.out.keep HW.out)).mono (fun e w'' h => (show ∃ r, e = .returned r ∧ Hid (Res S (binV s x y) w1.drew (.returned r) w'') from by obtain ⟨r, h1, h2⟩ := h.ret; exact ⟨r, h1, zz h2⟩)))
    unfold maxLen at p2
    clear hvs hall hok hk hlen cc p3 hb1 hdr
    go_wp2_with fail
    go_region_held3 (fun w' => w'.cell? ⟨g, off, none⟩ = some (.iface T0 x0) ∧ w'.cell? ⟨g, off + 1, none⟩ = some (.iface T1 x1))
      (first
        | go_keep
        | (go_split_ands
           refine ⟨?_, ?_⟩
           · (rw [hres.out.1.cell (by exact hgl)]; assumption)
           · (rw [hres.out.1.cell (by exact hgl)]; assumption)))
      ((go_at_call 144; refine HBR.out.mono ?_; rintro e w2 ⟨r, rfl, hres⟩))
    have HR := zz (hres.out.from HW.out)
    clear hres
    go_wp2
    go_ret
    exact HR.out
  · have HB1 := zz (HBA.out.trans (hb1.mono HBA.out.size))
    have HN := zz (show bothO s o0 o1 = none by
      cases o0 with
      | none => rfl
      | some a => cases o1 with
        | none => rfl
        | some b => cases hno)
    clear hb1 hno
    go_wp2
    go_ret
    exact Res.nil HB1.out HN.out
theorem binary_node (N B:Nat) (env:List Bd) (qs:List Nat) (sa:Option Addr) (sn scp:Nat) (s:ByteArray) (o0 o1:Option (List Cl)) (S:Nat→Prop) (w:World) (hn:NodeP w N qs) (hp:PartsE w B env qs (.agg #[.slice sa sn scp, .map (some B)]) [o0,o1]) (hS:Hi w.heap.size S) (he:EnvV w S B env) (hs:1≤signW s.data.toList∧signW s.data.toList≤13) (htab:Tab w):
  Calls Tryz.prog 113 #[.pointer (some ⟨N,0,none⟩), .agg #[.slice sa sn scp, .map (some B)], .string s] w (Res S (binO s o0 o1) w):=by
 unfold binO
 by_cases h12:signW s.data.toList=12
 ·rw [if_pos h12];exact binary_and N B env qs sa sn scp s o0 o1 S w hn hp hS he h12 htab
 by_cases h13:signW s.data.toList=13
 ·rw [if_neg h12,if_pos h13];exact binary_or N B env qs sa sn scp s o0 o1 S w hn hp hS he h13 htab
 rw [if_neg h12,if_neg h13]
 exact binary_other N B env qs sa sn scp s o0 o1 S w hn hp hS he (by omega) htab
end Go.Proofs.YthillfgjpalpcaaGreatDoor
