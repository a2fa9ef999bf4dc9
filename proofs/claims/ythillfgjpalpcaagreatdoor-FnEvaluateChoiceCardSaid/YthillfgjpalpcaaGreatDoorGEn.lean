/-
  Several texts of the proof in one file: EnvI, EvI0.
-/
import Derived.Test.YthillfgjpalpcaaGreatDoorGEv
import Derived.Test.YthillfgjpalpcaaGreatDoorGFu2
set_option linter.unusedVariables false
namespace Go.Proofs.YthillfgjpalpcaaGreatDoor
open Go.RowKit Go.Maps Go.MapKept Go.ChangeMaps Go.WideMaps
def EnvV (w:World) (S:Nat→Prop) (B:Nat) (env:List Bd):Prop:= ∃us:List Value,MapIs w B ((env.map (·.1)).zip us)∧VlS w S us (env.map (·.2))
theorem EnvV.keep {w w':World} {S S':Nat→Prop} {B:Nat} {env:List Bd} (h:EnvV w S B env) (hb:Below w.heap.size w w') (hS: ∀b,S b→b<w.heap.size→S' b):EnvV w' S' B env:=by
 obtain ⟨us,h1,h2⟩:=h
 exact ⟨us,h1.keep hb,h2.keep (fun b _ hl=>hb.block b hl) hS hb.size⟩
theorem EnvV.low {w w':World} {S:Nat→Prop} {B:Nat} {env:List Bd} (h:EnvV w S B env) (hb:Below w.heap.size w w'):EnvV w' S B env:=h.keep hb (fun _ h _=>h)
theorem envO_atI: ∀{env:List Bd},diffB env→ ∀(k:Nat) (h:k<env.length),envO env env[k].1=some env[k].2:=by
 intro env
 induction env with
 |nil=>intro _ k h;simp at h
 |cons b bs ih=>
  intro hd k h
  cases k with
  |zero=>show (if b.1=b.1 then _ else _)=_;rw [if_pos rfl];rfl
  |succ k=>
   have hk:k<bs.length:=by simpa using h
   show (if b.1=bs[k].1 then _ else envO bs bs[k].1)=some bs[k].2
   rw [if_neg (fun e=>hd.1 bs[k] (List.getElem_mem hk) e.symm)]
   exact ih hd.2 k hk
theorem envO_notI: ∀{env:List Bd} {s:ByteArray},(∀b∈env,b.1≠s)→envO env s=none:=by
 intro env s
 induction env with
 |nil=>intro _;rfl
 |cons b bs ih=>
  intro h
  show (if b.1=s then _ else envO bs s)=none
  rw [if_neg (h b (List.mem_cons_self ..))]
  exact ih fun x hx=>h x (List.mem_cons_of_mem _ hx)
theorem EnvV.at {w:World} {S:Nat→Prop} {env:List Bd} {us:List Value} (hd:diffB env) (hv:VlS w S us (env.map (·.2))) {s:ByteArray} {u:Value} (hm:(s,u)∈(env.map (·.1)).zip us): ∃p,envO env s=some p∧VlS w S [u] [p]:=by
 obtain ⟨k,hk,he⟩:=List.mem_iff_getElem.mp hm
 have hl:=hv.len
 rw [List.length_map] at hl
 rw [List.length_zip,List.length_map] at hk
 have hk1:k<env.length:=by omega
 have hk2:k<us.length:=by omega
 rw [List.getElem_zip,List.getElem_map] at he
 injection he with e1 e2
 subst e1;subst e2
 refine ⟨env[k].2,envO_atI hd k hk1, ?_⟩
 have:=hv.at k hk2 (by rw [List.length_map];exact hk1)
 rwa [List.getElem_map] at this
theorem EnvV.not {env:List Bd} {us:List Value} (hl:us.length=env.length) {s:ByteArray} (h: ∀p∈(env.map (·.1)).zip us,p.1≠s):envO env s=none:=by
 refine envO_notI fun b hb e=> ?_
 obtain ⟨k,hk,rfl⟩:=List.mem_iff_getElem.mp hb
 have hkz:k<((env.map (·.1)).zip us).length:=by rw [List.length_zip,List.length_map];omega
 refine h _ (List.getElem_mem hkz) ?_
 rw [List.getElem_zip,List.getElem_map]
 exact e
theorem MapIs.look1 {P:Program} {t k e:TypeId} {w:World} {b:Nat} {ns:List (ByteArray×Value)} (h:MapIs w b ns) (hk:P.underlying k=some .string) (ht:P.underlying t=some (.map k e)) {z:Value} (hz:(zeroValue e).run P w= .ok z w) (key:ByteArray) (hs:key.size≤maxLen) (hns: ∀p∈ns,p.1.size≤maxLen):
  (∃v,(key,v)∈ns∧(Instr.lookup t (.map (some b)) (.string key) false).run P w= .ok v w)∨
   ((∀p∈ns,p.1≠key)∧(Instr.lookup t (.map (some b)) (.string key) false).run P w= .ok z w):=by
 obtain ⟨es,clock,hb,he⟩:=h
 have K:Keyed P k:=string_keyed hk
 have hkey:=keyOf_string_mk (P:=P) hk hs
 rcases K.find w hkey es.toList (MapIs.keys hk hns he) with ⟨h1,h2⟩|⟨j,e0,h1,h2,h3⟩
 ·refine .inr ⟨fun p hp hpk=> ?_,by simp [Instr.lookup,run_underlying ht,MapKept.run_getObj_map hb,K.check w _ hkey,h1,hz,Result.andThen]⟩
  obtain ⟨x,hx,hxk,_⟩:=MapIs.mem' he hp
  exact h2 x hx (by rw [hxk,hpk])
 ·obtain ⟨s,h4,h5⟩:=MapIs.mem he (List.mem_of_getElem? h2)
  rw [h3] at h4
  injection h4 with h4
  subst h4
  exact .inl ⟨e0.val,h5,by simp [Instr.lookup,run_underlying ht,MapKept.run_getObj_map hb,K.check w _ hkey,h1,Result.andThen]⟩
def ResE (S:Nat→Prop) (o:Option (List Cl)) (w:World) (e:Ending) (w':World):Prop:=
 Below w.heap.size w w'∧((e= .returned .nilIface∧o=none)∨ ∃u r,e= .returned u∧VlS w' S [u] [r]∧okV r=true∧o=some r)
theorem ResE.nil {S:Nat→Prop} {o:Option (List Cl)} {w w':World} (hb:Below w.heap.size w w') (h:o=none):ResE S o w (.returned .nilIface) w':=⟨hb, .inl ⟨rfl,h⟩⟩
theorem ResE.from {S:Nat→Prop} {o:Option (List Cl)} {w0 w w':World} {e:Ending} (h:ResE S o w e w') (hb:Below w0.heap.size w0 w):ResE S o w0 e w':=⟨hb.trans (h.1.mono hb.size),h.2⟩
theorem ResE.res {S:Nat→Prop} {o:Option (List Cl)} {w w':World} {e:Ending} (h:ResE S o w e w') (htab:Tab w'):Res S o w e w':=by
 obtain ⟨hb,⟨rfl,ho⟩|⟨u,r,rfl,hv,hok,ho⟩⟩:=h
 ·exact Res.nil hb ho
 ·exact Res.val hb hv htab hok ho
theorem Res.list {S:Nat→Prop} {o:Option (List Cl)} {w w':World} {v:Value} {us:List Value} {ls:List (List Cl)} (hb:Below w.heap.size w w') (hr:RowV w' S v us) (hv:VlS w' S us ls) (hok: ∀l∈ls,okV l=true) (hl:ls.length≤16) (htab:Tab w') (h:o=lisO ls):Res S o w (.returned (.iface 158 v)) w':=by
 have hvl:VlS w' S [.iface 158 v] [listV ls]:= .list hr hv .nil
 have happ:=hvl.app_ok htab 0 (by simp) (by simp)
 simp only [List.getElem_cons_zero] at happ
 have hfl:ls.flatten.length≤60*ls.length:=by
  have: ∀(L:List (List Cl)),(∀l∈L,okV l=true)→L.flatten.length≤60*L.length:=by
   intro L
   induction L with
   |nil=>intro _;simp
   |cons a t ih=>
    intro h
    have h1:=((okV_iff a).mp (h a (by simp))).1
    have h2:=ih (fun l hl=>h l (by simp [hl]))
    simp only [List.flatten_cons,List.length_append,List.length_cons];omega
  exact this ls hok
 refine ⟨hb, .inr ⟨_,listV ls,rfl,happ,short_listV (fun l hl=>okV_short (hok l hl)), ?_,h,fun _=>hvl⟩⟩
 rw [listV,List.length_cons];omega
theorem Res.tru {S:Nat→Prop} {o:Option (List Cl)} {w w':World} (hb:Below w.heap.size w w') (htab:Tab w') (b:Bool) (h:o=some (truV b)):Res S o w (.returned (.iface 156 (.bool b))) w':=
 Res.val (r:=truV b) hb (.truth (b:=b) .nil) htab (tru_ok b) h
theorem numB_vls (w:World) (S:Nat→Prop) {t b:Int} (hv:vB t b=true):VlS w S [.iface 154 (.agg #[.int .i64 t, .int .i64 b])] [numV t b]:=by
 obtain ⟨k1,k2,k3⟩:=read_back ⟨(textF t b).toArray⟩ t b hv (by simp [textF,hv])
 have h:=VlS.num (w:=w) (S:=S) k1 .nil
 rw [k2,k3] at h
 exact h
theorem Res.num {S:Nat→Prop} {o:Option (List Cl)} {w w':World} (hb:Below w.heap.size w w') (htab:Tab w') {t b:Int} (hv:vB t b=true) (h:o=some (numV t b)):Res S o w (.returned (.iface 154 (.agg #[.int .i64 t, .int .i64 b]))) w':=
 Res.val hb (numB_vls w' S hv) htab (numB_ok hv) h
def NodeP (w:World) (N:Nat) (qs:List Nat):Prop:=
 ∃ao cap,w.cell? ⟨N,2,none⟩=some (.slice ao qs.length cap)∧N<w.heap.size∧qs.length≤cap∧cap≤maxLen∧(qs=[]∨ ∃b,ao=some ⟨b,0,none⟩∧b<w.heap.size∧ ∀k (h:k<qs.length),w.cell? ⟨b,k,none⟩=some (.pointer (some ⟨qs[k],0,none⟩)))
theorem NodeP.keep {w w':World} {N:Nat} {qs:List Nat} (h:NodeP w N qs) (hb:Below w.heap.size w w'):NodeP w' N qs:=by
 obtain ⟨ao,cap,h0,hN,h1,h2,h3⟩:=h
 refine ⟨ao,cap,(hb.cell (p:=⟨N,2,none⟩) hN).trans h0,by have:=hb.size;omega,h1,h2, ?_⟩
 rcases h3 with h3|⟨b,ha,hlt,hj⟩
 ·exact .inl h3
 ·exact .inr ⟨b,ha,by have:=hb.size;omega,fun k hk=>(hb.cell (p:=⟨b,k,none⟩) hlt).trans (hj k hk)⟩
theorem NodeP.of {w:World} {N:Nat} {f t:Value} {v:Value} {m:Nat} {qs:List Nat} (hb:BlkN w N #[f,t,v]) (ho:w.ownsRow 0 64 1 v m (ptrs qs)):NodeP w N qs:=by
 have hm:=own_len ho
 subst hm
 obtain ⟨ao,cap,rfl,p1,p2,p3⟩:=own_ptr ho
 exact ⟨ao,cap,hb.cell 2,hb.lt,p1,p2,p3⟩
def PartsE (W:World) (B:Nat) (env:List Bd) (qs:List Nat) (sc:Value) (ks:List (Option (List Cl))):Prop:=
 qs.length=ks.length∧ ∀(k:Nat) (h:k<qs.length) (h':k<ks.length) (w:World) (S:Nat→Prop),Below W.heap.size W w→Hi w.heap.size S→EnvV w S B env→Tab w→
  Calls Tryz.prog 46 #[.pointer (some ⟨qs[k],0,none⟩),sc] w (ResE S ks[k] w)
theorem PartsE.keep {W W':World} {B:Nat} {env:List Bd} {qs:List Nat} {sc:Value} {ks:List (Option (List Cl))} (h:PartsE W B env qs sc ks) (hb:Below W.heap.size W W'):PartsE W' B env qs sc ks:=
 ⟨h.1,fun k h1 h2 w S hw=>h.2 k h1 h2 w S (hb.trans (hw.mono hb.size))⟩
end Go.Proofs.YthillfgjpalpcaaGreatDoor
