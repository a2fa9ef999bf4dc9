/-
  Several texts of the proof in one file: MapL, FunD, SlicesG, FunL, SlicesE, SlicesF, FunC, FunO.
-/
import Derived.Maps.Own
import Derived.Test.YthillfgjpalpcaaGreatDoorChecked
import Derived.Test.YthillfgjpalpcaaGreatDoorBaseH
import Derived.Test.YthillfgjpalpcaaGreatDoorBaseVS
import Derived.Test.YthillfgjpalpcaaGreatDoorBaseG
import Derived.Deep.Slices
import Derived.Deep.Fields
import Derived.Deep.AppendLies
import Derived.OwnWalk
import Derived.Below
import Derived.WalkKit
import Derived.Deep.QuietTactic
import Derived.BigQuiet
import Derived.Deep.RegionHeld3
set_option linter.unusedVariables false
set_option maxHeartbeats 4000000
set_option maxRecDepth 100000
namespace Go.Proofs.YthillfgjpalpcaaGreatDoor
open Go.RowKit Go.Maps Go.MapKept Go.ChangeMaps Go.WideMaps
def MapIs (w:World) (b:Nat) (ns:List (ByteArray×Value)):Prop:=
 ∃es clock,w.heap[b]? =some (.map es clock)∧es.toList.map (fun e=>(e.key,e.val))=ns.map (fun p=>(Value.string p.1,p.2))
theorem MapIs.made (w:World):MapIs (w.alloc (.map #[] 0)) w.heap.size []:=⟨#[],0,(MapKept.heap_alloc w _).1,rfl⟩
theorem MapIs.lt {w:World} {b:Nat} {ns:List (ByteArray×Value)} (h:MapIs w b ns):b<w.heap.size:=by
 obtain ⟨es,clock,hb,_⟩:=h
 exact (Array.getElem?_eq_some_iff.1 hb).1
theorem MapIs.keep {w w':World} {b:Nat} {ns:List (ByteArray×Value)} (h:MapIs w b ns) (hb:Below w.heap.size w w'):MapIs w' b ns:=by
 have hl:=h.lt
 obtain ⟨es,clock,hh,he⟩:=h
 exact ⟨es,clock,(hb.block b hl).trans hh,he⟩
theorem MapIs.mem {ns:List (ByteArray×Value)} {es:Array MapEntry} (he:es.toList.map (fun e=>(e.key,e.val))=ns.map (fun p=>(Value.string p.1,p.2))) {e:MapEntry} (h:e∈es.toList): ∃s,e.key= .string s∧(s,e.val)∈ns:=by
 have h1:(e.key,e.val)∈es.toList.map (fun e=>(e.key,e.val)):=List.mem_map.mpr ⟨e,h,rfl⟩
 rw [he,List.mem_map] at h1
 obtain ⟨p,hp,h2⟩:=h1
 injection h2 with h2 h3
 exact ⟨p.1,h2.symm,by rw [←h3];exact hp⟩
theorem MapIs.mem' {ns:List (ByteArray×Value)} {es:Array MapEntry} (he:es.toList.map (fun e=>(e.key,e.val))=ns.map (fun p=>(Value.string p.1,p.2))) {p:ByteArray×Value} (h:p∈ns): ∃e∈es.toList,e.key= .string p.1∧e.val=p.2:=by
 have h1:(Value.string p.1,p.2)∈ns.map (fun p=>(Value.string p.1,p.2)):=List.mem_map.mpr ⟨p,h,rfl⟩
 rw [←he,List.mem_map] at h1
 obtain ⟨e,hm,h2⟩:=h1
 injection h2 with h2 h3
 exact ⟨e,hm,h2,h3⟩
section
variable {P:Program} {t k e:TypeId} {w:World} {b:Nat} {ns:List (ByteArray×Value)}
theorem MapIs.keys {es:Array MapEntry} (hk:P.underlying k=some .string) (hns: ∀p∈ns,p.1.size≤maxLen) (he:es.toList.map (fun e=>(e.key,e.val))=ns.map (fun p=>(Value.string p.1,p.2))): ∀e∈es.toList,∃l,keyOf P k e.key=some l:=by
 intro e hm
 obtain ⟨s,h1,h2⟩:=MapIs.mem he hm
 rw [h1]
 exact ⟨_,keyOf_string_mk hk (hns _ h2)⟩
theorem MapIs.look (h:MapIs w b ns) (hk:P.underlying k=some .string) (ht:P.underlying t=some (.map k e)) {z:Value} (hz:(zeroValue e).run P w= .ok z w) (key:ByteArray) (hs:key.size≤maxLen) (hns: ∀p∈ns,p.1.size≤maxLen):
  (∃v,(key,v)∈ns∧(Instr.lookup t (.map (some b)) (.string key) true).run P w= .ok (.tuple #[v, .bool true]) w)∨
   ((∀p∈ns,p.1≠key)∧(Instr.lookup t (.map (some b)) (.string key) true).run P w= .ok (.tuple #[z, .bool false]) w):=by
 obtain ⟨es,clock,hb,he⟩:=h
 have K:Keyed P k:=string_keyed hk
 have hkey:=keyOf_string_mk (P:=P) hk hs
 rcases K.find w hkey es.toList (MapIs.keys hk hns he) with ⟨h1,h2⟩|⟨j,e0,h1,h2,h3⟩
 ·refine .inr ⟨fun p hp hpk=> ?_,by simp [Instr.lookup,run_underlying ht,MapKept.run_getObj_map hb,K.check w _ hkey,h1,hz,Result.andThen]⟩
  obtain ⟨x,hx,hxk,_⟩:=MapIs.mem' he hp
  exact h2 x hx (by rw [hxk,hpk])
 ·obtain ⟨s,h4,h5⟩:=MapIs.mem he (List.mem_of_getElem? h2)
  rw [h3] at h4
  injection h4 with h4
  subst h4
  exact .inl ⟨e0.val,h5,by simp [Instr.lookup,run_underlying ht,MapKept.run_getObj_map hb,K.check w _ hkey,h1,Result.andThen]⟩
theorem MapIs.ins (h:MapIs w b ns) (hk:P.underlying k=some .string) (ht:P.underlying t=some (.map k e)) (key:ByteArray) (val:Value) (hs:key.size≤maxLen) (hns: ∀p∈ns,p.1.size≤maxLen) (hnew: ∀p∈ns,p.1≠key):
  ∃w',(Instr.mapUpdate t (.map (some b)) (.string key) val).run P w= .ok () w'∧MapIs w' b (ns++[(key,val)])∧w.grownBy w' (some b):=by
 obtain ⟨es,clock,hb,he⟩:=h
 have K:Keyed P k:=string_keyed hk
 have hkey:=keyOf_string_mk (P:=P) hk hs
 rcases K.find w hkey es.toList (MapIs.keys hk hns he) with ⟨h1,h2⟩|⟨j,e0,h1,h2,h3⟩
 ·refine ⟨setBlock w b (.map (es.push ⟨.string key,val,clock⟩) (clock+1)),by simp [Instr.mapUpdate,run_underlying ht,MapKept.run_getObj_map hb,K.check w false hkey,h1,MapKept.run_setObj_map _ hb,Result.andThen,setBlock],⟨_,_,heap_setBlock_same hb _, ?_⟩,⟨rfl,rfl,rfl,by simp [setBlock],fun i _ hi=>heap_setBlock_other hb _ (fun e=>hi (by rw [e]))⟩⟩
  rw [Array.toList_push,List.map_append,List.map_append,he]
  rfl
 ·exfalso
  obtain ⟨s,h4,h5⟩:=MapIs.mem he (List.mem_of_getElem? h2)
  rw [h3] at h4
  injection h4 with h4
  subst h4
  exact hnew _ h5 rfl
end
theorem wpList_ins {P:Program} (w:World) {ops:Array Oper} {rest:List Oper} {o:Oper} {a:Act} {Q:Exit→Act→World→Prop}
  (hg:o.guard=none) (m x v:Operand) (t:TypeId) (hop:o.op=Op.insert t m x v) (k e:TypeId) (hk:P.underlying k=some .string) (ht:P.underlying t=some (.map k e)) (b:Nat) (ns:List (ByteArray×Value))
  (hm:a.eval m= .map (some b)) (h:MapIs w b ns) (key:ByteArray) (val:Value) (hx:a.eval x= .string key) (hv:a.eval v=val) (hs:key.size≤maxLen) (hns: ∀p∈ns,p.1.size≤maxLen) (hnew: ∀p∈ns,p.1≠key)
  (hK: ∀w',MapIs w' b (ns++[(key,val)])→w.grownBy w' (some b)→wpList P ops Q rest (a.put o.dst undef) w'):
  wpList P ops Q (o::rest) a w:=by
 refine wpList_plain hg fun K' hK'=> ?_
 obtain ⟨w',hrun,r1,r2⟩:=h.ins hk ht key val hs hns hnew
 unfold Oper.wp
 simp [execOp,hop,hm,hx,hv,hrun,Result.andThen]
 exact hK' _ _ (hK w' r1 r2)
open Go.RowKit
theorem AppOK.keep {W W':World} {u:Value} {p:List Cl} (h:AppOK W u p) (hb:Below W.heap.size W W'):AppOK W' u p:=by
 obtain ⟨T,x,K,hu,hm,he,hc⟩:=h
 have hs:=hb.size
 exact ⟨T,x,K,hu,hm,he,fun w base v acc h1 h2 h3 h4 h5=>hc w base v acc (hb.trans (h1.mono hs)) (by omega) h3 h4 h5⟩
theorem AppOK.text (W:World) (s:ByteArray):AppOK W (.iface 155 (.string s)) [(2,s,0)]:=
 ⟨_,_,281,rfl,fun w=>meth_app_text _ w,enters_of Tryz.func281 (by kernel_rfl) rfl,fun w base v acc hW hWb hbase ho hn=>app_text s w base v acc hbase ho hn⟩
theorem txt_cell {s:ByteArray} (h:okV [(2,s,0)]=true):okC (2,s,0)=true:=by
 have k:=((okV_iff _).mp h).2.1
 simp only [List.all_cons,List.all_nil,Bool.and_true] at k
 rw [okVC_2] at k
 exact k
def Hi (n:Nat) (S:Nat→Prop):Prop:= ∀b,n≤b→S b
theorem Hi.mono {n m:Nat} {S:Nat→Prop} (h:Hi n S) (hm:n≤m):Hi m S:=fun b hb=>h b (Nat.le_trans hm hb)
def Res (S:Nat→Prop) (o:Option (List Cl)) (w:World) (e:Ending) (w':World):Prop:=
 Below w.heap.size w w'∧((e= .returned .nilIface∧o=none)∨ ∃u r,e= .returned u∧AppOK w' u r∧ShortC r∧r.length≤1000∧(o=if okV r=true then some r else none)∧(okV r=true→VlS w' S [u] [r]))
theorem VlS.any {w:World} {S:Nat→Prop} {us:List Value} {ps:List (List Cl)} (h:VlS w S us ps):VlS w (fun _=>True) us ps:=h.keep (fun _ _ _=>rfl) (fun _ _ _=>trivial) (Nat.le_refl _)
theorem Res.nil {S:Nat→Prop} {o:Option (List Cl)} {w w':World} (hb:Below w.heap.size w w') (h:o=none):Res S o w (.returned .nilIface) w':=⟨hb, .inl ⟨rfl,h⟩⟩
theorem Res.val {o:Option (List Cl)} {w w':World} {S:Nat→Prop} {u:Value} {r:List Cl} (hb:Below w.heap.size w w') (hv:VlS w' S [u] [r]) (htab:Tab w') (hok:okV r=true) (h:o=some r):Res S o w (.returned u) w':=
 ⟨hb, .inr ⟨u,r,rfl,hv.app_ok htab 0 (by simp) (by simp),okV_short hok,by have:=((okV_iff r).mp hok).1;omega,by rw [if_pos hok];exact h,fun _=>hv⟩⟩
theorem Res.text {S:Nat→Prop} {o:Option (List Cl)} {w w':World} (hb:Below w.heap.size w w') (s:ByteArray) (hs:s.size≤1048576) (h:o=texO s):Res S o w (.returned (.iface 155 (.string s))) w':=
 ⟨hb, .inr ⟨_,[(2,s,0)],rfl,AppOK.text w' s,fun c hc=>by rw [List.mem_singleton.mp hc];exact hs,by simp,h,fun hok=> .text (txt_cell hok) .nil⟩⟩
theorem VlS.one {w:World} {S:Nat→Prop} {u:Value} {p:List Cl} (h:VlS w S [u] [p]) (hok:okV p=true):
  (∃s,rdOK s=true∧u= .iface 154 (.agg #[.int .i64 (rdT s), .int .i64 (rdB s)])∧p=[(1,s,0)])∨
  (∃s,okC (2,s,0)=true∧u= .iface 155 (.string s)∧p=[(2,s,0)])∨
  (∃b,u= .iface 156 (.bool b)∧p=[(3,truW b,0)])∨
  (∃v us ps,u= .iface 158 v∧p=listV ps∧RowV w S v us∧VlS w S us ps∧(∀q∈ps,okV q=true)∧partsV p=ps):=by
 cases h with
 |num h1 h2=>exact .inl ⟨_,h1,rfl,rfl⟩
 |text h1 h2=>exact .inr (.inl ⟨_,h1,rfl,rfl⟩)
 |truth h2=>exact .inr (.inr (.inl ⟨_,rfl,rfl⟩))
 |list h1 h2 h3=>
  obtain ⟨h4,h5⟩:=okV_parts h2.exs hok
  exact .inr (.inr (.inr ⟨_,_,_,rfl,rfl,h1,h2,h4,h5⟩))
theorem VlS.at {w:World} {S:Nat→Prop} {us:List Value} {ps:List (List Cl)} (h:VlS w S us ps): ∀(k:Nat) (hk:k<us.length) (hk':k<ps.length),VlS w S [us[k]] [ps[k]]:=by
 refine VlS.all (P:=fun u p=>VlS w S [u] [p]) ?_ ?_ ?_ ?_ h
 ·intro s hs;exact .num hs .nil
 ·intro s hs;exact .text hs .nil
 ·intro b;exact .truth .nil
 ·intro v us ps h1 h2 _;exact .list h1 h2 .nil
theorem VlS.low {w w':World} {S:Nat→Prop} {us:List Value} {ps:List (List Cl)} (h:VlS w S us ps) (hb:Below w.heap.size w w'):VlS w' S us ps:=h.keep (fun b _ hl=>hb.block b hl) (fun _ h _=>h) hb.size
theorem RowV.any {w:World} {S:Nat→Prop} {v:Value} {us:List Value} (h:RowV w S v us):RowV w (fun _=>True) v us:=h.keep (fun _ _ _=>rfl) (fun _ _ _=>trivial) (Nat.le_refl _)
theorem RowV.low {w w':World} {S:Nat→Prop} {v:Value} {us:List Value} (h:RowV w S v us) (hb:Below w.heap.size w w'):RowV w' S v us:=h.keep (fun b _ hl=>hb.block b hl) (fun _ h _=>h) hb.size
theorem VlS.cell1 {w:World} {S:Nat→Prop} {us:List Value} {ps:List (List Cl)} (h:VlS w S us ps): ∀u∈us,u.oneCell'=true:=by
 intro u hu
 obtain ⟨k,hk,rfl⟩:=List.mem_iff_getElem.mp hu
 obtain ⟨T,x,hT⟩:=(h.at k hk (by rw [←h.len];exact hk)).iface
 rw [hT];simp [Value.oneCell']
def Up (B:Nat) (W w:World):Prop:=W.heap.size≤w.heap.size∧ ∀j,j<W.heap.size→j≠B→w.heap[j]? =W.heap[j]?
theorem Up.refl (B:Nat) (W:World):Up B W W:=⟨Nat.le_refl _,fun _ _ _=>rfl⟩
theorem Up.trans {B:Nat} {W w w':World} (h:Up B W w) (k:Up B w w'):Up B W w':=⟨Nat.le_trans h.1 k.1,fun j hj hne=>(k.2 j (by have:=h.1;omega) hne).trans (h.2 j hj hne)⟩
theorem Up.of {B:Nat} {W w:World} (h:Below W.heap.size W w):Up B W w:=⟨h.size,fun j hj _=>h.block j hj⟩
theorem Up.grown {B:Nat} {W w:World} (h:W.grownBy w (some B)):Up B W w:=⟨h.size,fun j hj hne=>h.block j hj (by simpa using hne)⟩
theorem Up.cell {B:Nat} {W w:World} (h:Up B W w) {b:Nat} {v:Value} (hne:b≠B) (hc:W.cell? ⟨b,0,none⟩=some v):w.cell? ⟨b,0,none⟩=some v:=
 (cell_block (h.2 b (World.block_lt_of_cell? W _ hc) hne) 0).trans hc
def DoesV (F:Value) (B:Nat) (W:World) (R:List Cl→Option (List Cl)):Prop:=
 ∃K cb,F= .func (.func K) #[] cb∧(∀args w,(callFunc K args).run Tryz.prog w= .ok (.enter K args) w)∧ ∀S w u p,Hi w.heap.size S→Up B W w→Tab w→VlS w S [u] [p]→okV p=true→Calls Tryz.prog K (#[u]++cb) w (Res S (R p) w)
def DoesVV (F:Value) (B:Nat) (W:World) (R:List Cl→List Cl→Option (List Cl)):Prop:=
 ∃K,F= .func (.func K) #[] #[]∧(∀args w,(callFunc K args).run Tryz.prog w= .ok (.enter K args) w)∧ ∀S w u p u' p',Hi w.heap.size S→Up B W w→Tab w→VlS w S [u] [p]→okV p=true→VlS w S [u'] [p']→okV p'=true→Calls Tryz.prog K #[u,u'] w (Res S (R p p') w)
def DoesL (F:Value) (B:Nat) (W:World) (R:List (List Cl)→Option (List Cl)):Prop:=
 ∃K fb,F= .func (.func K) #[] #[.pointer (some ⟨fb,0,none⟩)]∧(∀args w,(callFunc K args).run Tryz.prog w= .ok (.enter K args) w)∧ ∀S w v us ls,Hi w.heap.size S→Up B W w→Tab w→RowV w S v us→VlS w S us ls→(∀l∈ls,okV l=true)→ls.length≤1048576→Calls Tryz.prog K #[v, .pointer (some ⟨fb,0,none⟩)] w (Res S (R ls) w)
def DoesP (F:Value) (B:Nat) (W:World) (R:List Cl→Option (List Cl)):Prop:=
 ∃K,F= .func (.func K) #[] #[]∧(∀args w,(callFunc K args).run Tryz.prog w= .ok (.enter K args) w)∧ ∀S w v us ps,Hi w.heap.size S→Up B W w→Tab w→RowV w S v us→VlS w S us ps→okV (listV ps)=true→Calls Tryz.prog K #[v] w (Res S (R (listV ps)) w)
def DoesS (F:Value) (B:Nat) (W:World) (f:ByteArray→ByteArray):Prop:=
 ∃K,F= .func (.func K) #[] #[]∧(∀args w,(callFunc K args).run Tryz.prog w= .ok (.enter K args) w)∧(∀s,(f s).size=s.size)∧ ∀w s,Up B W w→okC (2,s,0)=true→Calls Tryz.prog K #[.string s] w fun e w'=>e= .returned (.string (f s))∧Below w.heap.size w w'
theorem DoesV.keep {F:Value} {B:Nat} {W W':World} {R:List Cl→Option (List Cl)} (h:DoesV F B W R) (hb:Up B W W'):DoesV F B W' R:=by
 obtain ⟨K,cb,h1,h2,h3⟩:=h
 exact ⟨K,cb,h1,h2,fun S w u p hS a=>h3 S w u p hS (hb.trans a)⟩
theorem DoesVV.keep {F:Value} {B:Nat} {W W':World} {R:List Cl→List Cl→Option (List Cl)} (h:DoesVV F B W R) (hb:Up B W W'):DoesVV F B W' R:=by
 obtain ⟨K,h1,h2,h3⟩:=h
 exact ⟨K,h1,h2,fun S w u p u' p' hS a=>h3 S w u p u' p' hS (hb.trans a)⟩
theorem DoesL.keep {F:Value} {B:Nat} {W W':World} {R:List (List Cl)→Option (List Cl)} (h:DoesL F B W R) (hb:Up B W W'):DoesL F B W' R:=by
 obtain ⟨K,cb,h1,h2,h3⟩:=h
 exact ⟨K,cb,h1,h2,fun S w v us ls hS a=>h3 S w v us ls hS (hb.trans a)⟩
theorem DoesP.keep {F:Value} {B:Nat} {W W':World} {R:List Cl→Option (List Cl)} (h:DoesP F B W R) (hb:Up B W W'):DoesP F B W' R:=by
 obtain ⟨K,h1,h2,h3⟩:=h
 exact ⟨K,h1,h2,fun S w v us ps hS a=>h3 S w v us ps hS (hb.trans a)⟩
theorem DoesS.keep {F:Value} {B:Nat} {W W':World} {f:ByteArray→ByteArray} (h:DoesS F B W f) (hb:Up B W W'):DoesS F B W' f:=by
 obtain ⟨K,h1,h2,h4,h3⟩:=h
 exact ⟨K,h1,h2,h4,fun w s a=>h3 w s (hb.trans a)⟩
open Go.RowKit Go.Deep
theorem infoVG:(Tryz.prog.info? 70).map (fun i=>(i.zero,i.size,i.bytes))=some (some .nilIface,1,16):=by kernel_rfl
theorem newsG {w:World} {b o:Nat} {us:List Value} (h: ∀(k:Nat) (h:k<us.length),w.cell? ⟨b,o+k,none⟩=some us[k]) (j:Nat) (u:Value) (hj:us[j]? =some u):w.cell? ((⟨b,o,none⟩:Addr).add j)=some u:=by
 have hadd:(⟨b,o,none⟩:Addr).add j=⟨b,o+j,none⟩:=by unfold Addr.add;split<;>simp_all
 have hlt:j<us.length:=by
  by_cases hk:j<us.length
  ·exact hk
  ·rw [List.getElem?_eq_none (by omega)] at hj;cases hj
 rw [hadd,h j hlt]
 rw [List.getElem?_eq_getElem hlt] at hj
 exact hj
theorem eqlNil (a:Addr) (n c:Nat) (w:World):(binOp BinOp.eql 158 (.slice (some a) n c) (.slice none 0 0)).run Tryz.prog w= .ok (.bool false) w:=by kernel_rfl
theorem clone_any (b o cap:Nat) (us:List Value) (w:World) (h0:us≠[]) (h8:us.length≤1000) (h1: ∀u∈us,u.oneCell'=true) (hc: ∀(k:Nat) (h:k<us.length),w.cell? ⟨b,o+k,none⟩=some us[k]) (hb:b<w.heap.size):
  Calls Tryz.prog 211 #[.slice (some ⟨b,o,none⟩) us.length cap] w fun e w'=> ∃g c,e= .returned (.slice (some ⟨g,0,none⟩) us.length c)∧w'.ownsRow w.heap.size 70 1 (.slice (some ⟨g,0,none⟩) us.length c) us.length us∧Below w.heap.size w w':=by
 obtain ⟨j0,hj,hy0,hy1,hy2⟩:=info_parts infoVG
 have HC:=zz (newsG hc)
 have hl0:0<us.length:=List.length_pos_iff.mpr h0
 have O0:=zz (show (w.alloc (.cells #[] 70)).ownsRow w.heap.size 70 1 (.slice (some ⟨w.heap.size,0,none⟩) 0 0) 0 [] from World.ownsRow_lit (e:=70) (size:=1) (base:=w.heap.size) w #[] 0 (Nat.le_refl _) (by unfold maxLen;omega) rfl)
 have HB:=zz ((Below.refl w.heap.size w).alloc (Nat.le_refl _) (.cells #[] 70))
 have HC2:=zz (show∀(j:Nat) (u:Value),us[j]? =some u→(w.alloc (.cells #[] 70)).cell? ((⟨b,o,none⟩:Addr).add j)=some u from fun j u hj=>by
  have:=HC.out j u hj
  have hadd:(⟨b,o,none⟩:Addr).add j=⟨b,o+j,none⟩:=by unfold Addr.add;split<;>simp_all
  rw [hadd] at this⊢
  exact (HB.out.cell (p:=⟨b,_,none⟩) hb).trans this)
 have H1:=zz h1
 have hq:=fun w=>eqlNil ⟨b,o,none⟩ us.length cap w
 clear hc h0 h1
 go_enter Tryz.func211,Tryz.ntmps211
 go_wp2_with (at_builtin;refine wpList_append_lies _ rfl _ _ 158 rfl w.heap.size 70 j0 .nilIface 1 16 Tryz.underlying158 hj hy0 hy1 hy2 rfl (by decide) (.slice (some ⟨w.heap.size,0,none⟩) 0 0) 0 [] rfl O0.out ⟨b,o,none⟩ us.length cap us rfl (by omega) HC2.out H1.out hl0 (by unfold maxLen;omega) (by omega) (by simp) (w.heap.size+1) (by simp) ?_;intro gg cap' w6 hown' hgrow hat hlt';have HO:=zz (show w6.ownsRow w.heap.size 70 1 (.slice (some ⟨gg,0,none⟩) us.length cap') us.length us by simpa using hown');have HB6:=zz (HB.out.grown hgrow (by simp) (fun x hx=>by simp [Value.ownBlock] at hx;omega));clear hown' hgrow hat)
 go_ret
 exact ⟨gg,cap',by simp,HO.out,HB6.out⟩
def revP (xs:List Value) (k:Nat):List Value:=(List.range xs.length).map fun m=>if m<k∨xs.length≤m+k then xs.getD (xs.length-1-m) default else xs.getD m default
theorem revP_len (xs:List Value) (k:Nat):(revP xs k).length=xs.length:=by simp [revP]
theorem revP_at (xs:List Value) (k m:Nat) (h:m<xs.length):(revP xs k)[m]'(by rw [revP_len];exact h)=if m<k∨xs.length≤m+k then xs.getD (xs.length-1-m) default else xs.getD m default:=by simp [revP]
theorem revP_zero (xs:List Value):revP xs 0=xs:=by
 refine List.ext_getElem (revP_len _ _) fun m h1 h2=> ?_
 rw [revP_at _ _ _ h2,if_neg (by omega),List.getD_eq_getElem?_getD,List.getElem?_eq_getElem h2];rfl
theorem revP_end (xs:List Value) (k:Nat) (h:xs.length≤2*k+1):revP xs k=xs.reverse:=by
 refine List.ext_getElem (by rw [revP_len,List.length_reverse]) fun m h1 h2=> ?_
 rw [List.length_reverse] at h2
 rw [revP_at _ _ _ h2,List.getElem_reverse]
 by_cases hm:m<k∨xs.length≤m+k
 ·rw [if_pos hm,List.getD_eq_getElem?_getD,List.getElem?_eq_getElem (by omega)];rfl
 ·rw [if_neg hm,List.getD_eq_getElem?_getD,List.getElem?_eq_getElem h2]
  have:xs.length-1-m=m:=by omega
  simp [this]
theorem revP_next (xs:List Value) (k:Nat) (h:2*k+1<xs.length):((revP xs k).set k (xs.getD (xs.length-1-k) default)).set (xs.length-1-k) (xs.getD k default)=revP xs (k+1):=by
 refine List.ext_getElem (by simp [revP_len]) fun m h1 h2=> ?_
 rw [revP_len] at h2
 rw [revP_at _ _ _ h2,List.getElem_set,List.getElem_set,revP_at _ _ _ h2]
 by_cases a:xs.length-1-k=m
 ·rw [if_pos a,if_pos (by omega)];congr 1;omega
 ·rw [if_neg a]
  by_cases b:k=m
  ·rw [if_pos b,if_pos (by omega)];subst b;rfl
  ·rw [if_neg b]
   by_cases c:m<k∨xs.length≤m+k
   ·rw [if_pos c,if_pos (by omega)]
   ·rw [if_neg c,if_neg (by omega)]
theorem reverse_none (ao:Option Addr) (c:Nat) (w:World):
  Calls Tryz.prog 212 #[.slice ao 0 c] w fun e w'=>e= .returned (.tuple #[])∧w=w':=by
 go_enter Tryz.func212,Tryz.ntmps212
 go_wp2_with fail
 refine wp_loop_rounds 1 ?_
 rw [rounds_succ]
 go_wp2
 go_end0
 exact ⟨rfl,rfl⟩
theorem reverse_any (base g c:Nat) (xs:List Value) (w:World) (h0:0<xs.length) (h8:xs.length≤1000) (hif: ∀u∈xs,∃T x,u= .iface T x) (ho:w.ownsRow base 70 1 (.slice (some ⟨g,0,none⟩) xs.length c) xs.length xs):
  Calls Tryz.prog 212 #[.slice (some ⟨g,0,none⟩) xs.length c] w fun e w'=>e= .returned (.tuple #[])∧w'.ownsRow base 70 1 (.slice (some ⟨g,0,none⟩) xs.length c) xs.length xs.reverse∧Below base w w':=by
 have HO:=zz (show w.ownsRow base 70 1 (.slice (some ⟨g,0,none⟩) xs.length c) xs.length (revP xs 0) by rw [revP_zero];exact ho)
 have hcap:xs.length≤c∧c≤maxLen:=by
  rcases ho.2 with ⟨h1,_⟩|⟨g',cap,cur,h1,_,_,h3,h4,_⟩
  ·cases h1
  ·injection h1 with h1 h2 h5';subst h5';exact ⟨h3,h4⟩
 obtain ⟨hc1,hc2⟩:=hcap
 unfold maxLen at hc2
 have hgb:=(ho.lt g rfl).1
 have HIF:=zz hif
 clear ho hif
 go_enter Tryz.func212,Tryz.ntmps212
 go_wp2_with fail
 go_loopw [2,3] (fun i j wr=> ∃k J:Nat,k+J+1=xs.length∧k≤J+1∧i= .int .i64 (k:Int)∧j= .int .i64 (J:Int)∧wr.ownsRow base 70 1 (.slice (some ⟨g,0,none⟩) xs.length c) xs.length (revP xs k)∧Below base w wr) (fun i _ _=>xs.length-(intOf i).toNat)
 case atStart=>exact ⟨0,xs.length-1,by omega,by omega,rfl,by go_num,HO.out,Below.refl _ _⟩
 case round=>
  obtain ⟨k,J,hkJ,hk,rfl,rfl,hown,hb⟩:=hrel
  have HOR:=zz hown;have HB:=zz hb
  clear hown hb
  by_cases hlt:k<J
  ·have d1:wr.cell? ⟨g,k,none⟩=some (xs.getD k default):=by
    rw [HOR.out.cellAt k (by omega),List.getElem?_eq_getElem (by rw [revP_len];omega),revP_at _ _ _ (by omega),if_neg (by omega)]
   have d2:wr.cell? ⟨g,J,none⟩=some (xs.getD J default):=by
    rw [HOR.out.cellAt J (by omega),List.getElem?_eq_getElem (by rw [revP_len];omega),revP_at _ _ _ (by omega),if_neg (by omega)]
   have z1:=HOR.out.frozenAt k
   have z2:=HOR.out.frozenAt J
   have HN:=zz (show ((revP xs k).set k (xs.getD J default)).set J (xs.getD k default)=revP xs (k+1) by
    have:=revP_next xs k (by omega)
    rwa [show xs.length-1-k=J by omega] at this)
   obtain ⟨T1,y1,e1⟩:=HIF.out (xs.getD k default) (by rw [List.getD_eq_getElem?_getD,List.getElem?_eq_getElem (by omega)];exact List.getElem_mem _)
   obtain ⟨T2,y2,e2⟩:=HIF.out (xs.getD J default) (by rw [List.getD_eq_getElem?_getD,List.getElem?_eq_getElem (by omega)];exact List.getElem_mem _)
   rw [e1] at d1 HN
   rw [e2] at d2 HN
   clear e1 e2
   have HS:=zz (show _ from HN.out▸((HOR.out.stored k (.iface T2 y2)).1.stored J (.iface T1 y1)).1)
   have HBS:=zz ((HB.out.setCell (p:=⟨g,k,none⟩) hgb (.iface T2 y2)).setCell (p:=⟨g,J,none⟩) hgb (.iface T1 y1))
   have hne: ¬J=k:=by omega
   have hne2: ¬k=J:=by omega
   have hkl:k<xs.length:=by omega
   have hJl:J<xs.length:=by omega
   have d1':wr.drew.cell? ⟨g,k,none⟩=some (.iface T1 y1):=d1
   have d2':wr.drew.cell? ⟨g,J,none⟩=some (.iface T2 y2):=d2
   have z1':wr.drew.frozen? ⟨g,k,none⟩=false:=z1
   have z2':wr.drew.frozen? ⟨g,J,none⟩=false:=z2
   go_wp2_with fail
   go_region
   go_wp2
   go_roundw
   case rel=>exact ⟨k+1,J-1,by omega,by omega,by go_num,by go_num,HS.out,HBS.out.trans ⟨rfl,rfl,rfl,Nat.le_refl _,fun _ _=>rfl⟩⟩
   case measure=>simp [intOf];omega
  ·have HE:=zz (show wr.ownsRow base 70 1 (.slice (some ⟨g,0,none⟩) xs.length c) xs.length xs.reverse by have:=HOR.out;rwa [revP_end _ _ (by omega)] at this)
   go_wp2
   go_end0
   exact ⟨rfl,HE.out,HB.out⟩
theorem taL_num (x:Value) (w:World):(Instr.typeAssert (.iface 154 x) 70 158 true).run Tryz.prog w= .ok (.tuple #[.slice none 0 0, .bool false]) w:=by kernel_rfl
theorem taL_text (x:Value) (w:World):(Instr.typeAssert (.iface 155 x) 70 158 true).run Tryz.prog w= .ok (.tuple #[.slice none 0 0, .bool false]) w:=by kernel_rfl
theorem taL_truth (x:Value) (w:World):(Instr.typeAssert (.iface 156 x) 70 158 true).run Tryz.prog w= .ok (.tuple #[.slice none 0 0, .bool false]) w:=by kernel_rfl
theorem taL_list (x:Value) (w:World):(Instr.typeAssert (.iface 158 x) 70 158 true).run Tryz.prog w= .ok (.tuple #[x, .bool true]) w:=by kernel_rfl
theorem taT_num (x:Value) (w:World):(Instr.typeAssert (.iface 154 x) 70 155 true).run Tryz.prog w= .ok (.tuple #[.string ByteArray.empty, .bool false]) w:=by kernel_rfl
theorem taT_text (x:Value) (w:World):(Instr.typeAssert (.iface 155 x) 70 155 true).run Tryz.prog w= .ok (.tuple #[x, .bool true]) w:=by kernel_rfl
theorem taT_truth (x:Value) (w:World):(Instr.typeAssert (.iface 156 x) 70 155 true).run Tryz.prog w= .ok (.tuple #[.string ByteArray.empty, .bool false]) w:=by kernel_rfl
theorem taT_list (x:Value) (w:World):(Instr.typeAssert (.iface 158 x) 70 155 true).run Tryz.prog w= .ok (.tuple #[.string ByteArray.empty, .bool false]) w:=by kernel_rfl
theorem taN_num (x:Value) (w:World):(Instr.typeAssert (.iface 154 x) 70 154 true).run Tryz.prog w= .ok (.tuple #[x, .bool true]) w:=by kernel_rfl
theorem taN_text (x:Value) (w:World):(Instr.typeAssert (.iface 155 x) 70 154 true).run Tryz.prog w= .ok (.tuple #[.agg #[.int .i64 0, .int .i64 0], .bool false]) w:=by kernel_rfl
theorem taN_truth (x:Value) (w:World):(Instr.typeAssert (.iface 156 x) 70 154 true).run Tryz.prog w= .ok (.tuple #[.agg #[.int .i64 0, .int .i64 0], .bool false]) w:=by kernel_rfl
theorem taN_list (x:Value) (w:World):(Instr.typeAssert (.iface 158 x) 70 154 true).run Tryz.prog w= .ok (.tuple #[.agg #[.int .i64 0, .int .i64 0], .bool false]) w:=by kernel_rfl
theorem num_vls (w:World) (S:Nat→Prop) (n:Int) (h0:0≤n) (h1:n≤1000000000):VlS w S [.iface 154 (.agg #[.int .i64 n, .int .i64 1])] [numV n 1]:=by
 have hv:vB n 1=true:=by
  simp only [vB,Bool.and_eq_true,decide_eq_true_eq,beq_iff_eq]
  refine ⟨⟨⟨⟨by omega,h1⟩,by omega⟩,by omega⟩, ?_⟩
  simp
 obtain ⟨k1,k2,k3⟩:=read_back ⟨(textF n 1).toArray⟩ n 1 hv (by simp [textF,hv])
 have h:=VlS.num (w:=w) (S:=S) k1 .nil
 rw [k2,k3] at h
 exact h
noncomputable def lenR (p:List Cl):Option (List Cl):=if kdV p=2 then some (numV ((wdV p).size:Int) 1) else if kdV p=5 then some (numV (myV p) 1) else none
theorem lenR_of (k m:Int) (s:ByteArray) (t:List Cl):lenR ((k,s,m)::t)=if k=2 then some (numV (s.size:Int) 1) else if k=5 then some (numV m 1) else none:=rfl
noncomputable def firstR (p:List Cl):Option (List Cl):=if kdV p=5 then (partsV p)[0]? else none
noncomputable def revR (p:List Cl):Option (List Cl):=if kdV p=5 then lisO (partsV p).reverse else none
theorem lengthOf_any {S:Nat→Prop} (u:Value) (p:List Cl) (w:World) (hv:VlS w S [u] [p]) (hok:okV p=true) (htab:Tab w):
  Calls Tryz.prog 177 #[u] w (Res S (lenR p) w):=by
 rcases hv.one hok with ⟨s,hs,rfl,rfl⟩|⟨s,hs,rfl,rfl⟩|⟨b,rfl,rfl⟩|⟨v,us,ps,rfl,rfl,hr,hvs,hps,hpv⟩
 ·have a1:=fun w=>taT_num (.agg #[.int .i64 (rdT s), .int .i64 (rdB s)]) w
  have a2:=fun w=>taL_num (.agg #[.int .i64 (rdT s), .int .i64 (rdB s)]) w
  go_enter Tryz.func177,Tryz.ntmps177
  go_wp2
  go_ret
  exact Res.nil (Below.refl _ _) (by rw [lenR_of,if_neg (by decide),if_neg (by decide)])
 ·have a1:=fun w=>taT_text (.string s) w
  have hsz:s.size≤60:=by
   have:=okVC_word (okV_head hok);exact this
  have HN:=zz (num_vls w S (s.size:Int) (by omega) (by omega))
  have HT:=zz htab
  have HL:=zz (show lenR [(2,s,0)]=some (numV (s.size:Int) 1) by rw [lenR_of,if_pos rfl])
  clear htab hv
  go_enter Tryz.func177,Tryz.ntmps177
  go_wp2
  go_ret
  exact Res.val (Below.refl _ _) HN.out HT.out (num_ok (by omega) (by omega)) HL.out
 ·have a1:=fun w=>taT_truth (.bool b) w
  have a2:=fun w=>taL_truth (.bool b) w
  go_enter Tryz.func177,Tryz.ntmps177
  go_wp2
  go_ret
  exact Res.nil (Below.refl _ _) (by rw [lenR_of,if_neg (by decide),if_neg (by decide)])
 ·have hm:=okVC_many (okV_head hok)
  have hm2:(0:Int)≤(ps.length:Int)∧(ps.length:Int)≤8:=hm
  have HN:=zz (num_vls w S (ps.length:Int) (by omega) (by omega))
  have HT:=zz htab
  have HL:=zz (show lenR (listV ps)=some (numV (ps.length:Int) 1) by rw [listV,lenR_of,if_neg (by decide),if_pos rfl])
  have hlen:=hvs.len
  obtain ⟨ao,cap,rfl,h1,h2,h3⟩:=hr
  rw [hlen] at h1⊢
  have a1:=fun w=>taT_list (.slice ao ps.length cap) w
  have a2:=fun w=>taL_list (.slice ao ps.length cap) w
  clear htab hv h3 h2 hvs
  go_enter Tryz.func177,Tryz.ntmps177
  go_wp2
  go_ret
  exact Res.val (Below.refl _ _) HN.out HT.out (num_ok (by omega) (by omega)) HL.out
theorem firstPart_any {S:Nat→Prop} (v:Value) (us:List Value) (ps:List (List Cl)) (w:World) (hr:RowV w S v us) (hv:VlS w S us ps) (hok:okV (listV ps)=true) (htab:Tab w):
  Calls Tryz.prog 185 #[v] w (Res S (firstR (listV ps)) w):=by
 obtain ⟨hps,hpv⟩:=okV_parts hv.exs hok
 have HL:=zz (show firstR (listV ps)=ps[0]? by rw [firstR,if_pos (show kdV (listV ps)=5 from rfl),hpv])
 have hlen:=hv.len
 have HT:=zz htab;have HV:=zz hv;have HPS:=zz hps
 obtain ⟨ao,cap,rfl,h1,h2,h3⟩:=hr
 unfold maxLen at h2
 clear htab hv hps hpv
 cases hus:us with
 |nil=>
  subst hus
  have HN:=zz (show ps[0]? =none by
   have:ps=[]:=List.length_eq_zero_iff.mp (by rw [←hlen];rfl)
   rw [this];rfl)
  clear h3 hlen h1
  go_enter Tryz.func185,Tryz.ntmps185
  go_wp2
  go_ret
  exact Res.nil (Below.refl _ _) (by rw [HL.out,HN.out])
 |cons u0 us0=>
  obtain ⟨b,o,rfl,-,hbl,cc⟩:=h3.resolve_left (by rw [hus];simp)
  have hl0:0<us.length:=by rw [hus];simp
  have hlp:0<ps.length:=by omega
  have d0:w.cell? ⟨b,o,none⟩=some us[0]:=cc 0 hl0
  have HV0:=zz (HV.out.at 0 hl0 hlp)
  obtain ⟨T,x,hT⟩:=HV0.out.iface
  rw [hT] at d0
  have HVT:=zz (show VlS w S [.iface T x] [ps[0]] by rw [←hT];exact HV0.out)
  have HN:=zz (show ps[0]? =some ps[0] from List.getElem?_eq_getElem hlp)
  have HO:=zz (HPS.out ps[0] (List.getElem_mem hlp))
  have hi:(0:Int)<(us.length:Int):=by omega
  have hne:((us.length:Int)==0)=false:=by rw [beq_eq_false_iff_ne];omega
  generalize us.length=n at hi hne h1
  clear cc hT hus hl0 hlen HV HV0
  go_enter Tryz.func185,Tryz.ntmps185
  go_wp2
  go_ret
  exact Res.val (Below.refl _ _) HVT.out HT.out HO.out (by rw [HL.out,HN.out])
theorem beq_listE (a b:ByteArray):(a.toList==b.toList)=decide (a=b):=by
 by_cases h:a=b
 ·subst h;simp
 ·rw [decide_eq_false h,beq_eq_false_iff_ne,ByteArray.toList_eq,ByteArray.toList_eq]
  intro e;exact h (ByteArray.ext (by simpa using e))
theorem equal_q (v1 v2:Value) (l1 l2:List Cl) (w:World) (h1:RowC w v1 l1) (h2:RowC w v2 l2):
  Calls Tryz.prog 190 #[v1,v2] w fun e w'=>e= .returned (.bool (decide (l1=l2)))∧ ∃n,w'=w.drewN n:=by
 obtain ⟨a1,c1,rfl,p1,q1,r1⟩:=h1
 obtain ⟨a2,c2,rfl,p2,q2,r2⟩:=h2
 unfold maxLen at q1 q2
 have R1:=zz r1;have R2:=zz r2
 clear r1 r2
 by_cases hlen:l1.length=l2.length
 case neg=>
  have hD:=decide_eq_false (show¬l1=l2 from fun e=>hlen (by rw [e]))
  have hne:((l1.length:Int) !=(l2.length:Int))=true:=bne_iff_ne.mpr (by omega)
  go_enter Tryz.func190,Tryz.ntmps190
  go_wp2
  go_ret
  exact ⟨by rw [hD];rfl,0,rfl⟩
 go_enter Tryz.func190,Tryz.ntmps190
 have hne:((l1.length:Int) !=(l2.length:Int))=false:=by rw [hlen];simp
 go_wp2_with fail
 go_loopw [13] (fun i wr=> ∃k:Nat,k≤l1.length∧i= .int .i64 (k:Int)∧(∀j (h:j<l1.length) (h':j<l2.length),j<k→l1[j]=l2[j])∧ ∃n,wr=w.drewN n) (fun i _=>l1.length-(intOf i).toNat)
 case atStart=>exact ⟨0,Nat.zero_le _,rfl,fun j _ _ h=>by omega,0,rfl⟩
 case round=>
  obtain ⟨k,hk,rfl,hsame,hn⟩:=hrel
  have HN0:=zz hn
  have HB:=zz (show Below w.heap.size w wr by obtain ⟨n,rfl⟩:=hn;exact ⟨rfl,rfl,rfl,Nat.le_refl _,fun _ _=>rfl⟩);have HS:=zz hsame;clear hn hsame
  by_cases hlt:k<l1.length
  ·have hlt2:k<l2.length:=by omega
   obtain ⟨b1,o1,rfl,hl1,cc1⟩:=R1.out.resolve_left (by rintro rfl;simp at hlt)
   obtain ⟨b2,o2,rfl,hl2,cc2⟩:=R2.out.resolve_left (by rintro rfl;simp at hlt2)
   obtain ⟨x0,x1,x2⟩:=cc1 k hlt
   obtain ⟨y0,y1,y2⟩:=cc2 k hlt2
   have d0:=(HB.out.cell (p:=⟨b1,_,none⟩) hl1).trans x0
   have d1:=(HB.out.cell (p:=⟨b1,_,none⟩) hl1).trans x1
   have d2:=(HB.out.cell (p:=⟨b1,_,none⟩) hl1).trans x2
   have e0:=(HB.out.cell (p:=⟨b2,_,none⟩) hl2).trans y0
   have e1:=(HB.out.cell (p:=⟨b2,_,none⟩) hl2).trans y1
   have e2:=(HB.out.cell (p:=⟨b2,_,none⟩) hl2).trans y2
   have HNX:=zz (show l1[k]=l2[k]→ ∀j (h:j<l1.length) (h':j<l2.length),j<k+1→l1[j]=l2[j] from fun e j h h' hj=>by
    by_cases hjk:j=k
    ·subst hjk;exact e
    ·exact HS.out j h h' (by omega))
   have HNO:=zz (show l1[k]≠l2[k]→decide (l1=l2)=false from fun e=>decide_eq_false (by rintro rfl;exact e rfl))
   have HEX:=zz (show l1[k].1=l2[k].1→l1[k].2.1=l2[k].2.1→l1[k].2.2=l2[k].2.2→l1[k]=l2[k] from fun a b c=>Prod.ext a (Prod.ext b c))
   clear cc1 cc2 x0 x1 x2 y0 y1 y2
   have b1:=beq_listE l1[k].2.1 l2[k].2.1
   by_cases g0:l1[k].1=l2[k].1
   ·by_cases g1:l1[k].2.1=l2[k].2.1
    ·by_cases g2:l1[k].2.2=l2[k].2.2
     ·have HN:=zz (HNX.out (HEX.out g0 g1 g2))
      rw [←g0] at e0;rw [←g1] at e1;rw [←g2] at e2
      clear HNX HNO HEX g0 g1 g2 b1
      generalize l1[k].1=kk at d0 e0
      generalize l1[k].2.1=ss at d1 e1
      generalize l1[k].2.2=mm at d2 e2
      go_wp2_with fail
      go_quiet (fail)
      have HQ:=zz (show∃n,wr.drewN nq=w.drewN n by obtain ⟨n,h⟩:=HN0.out;exact ⟨n+nq,by rw [h,World.drewN_drewN]⟩)
      go_wp2
      go_roundw
      case rel=>exact ⟨k+1,by omega,by go_num,HN.out,HQ.out⟩
      case measure=>simp [intOf];omega
     ·have HN:=zz (HNO.out (fun e=>g2 (by rw [e])))
      have t2:(l1[k].2.2==l2[k].2.2)=false:=by rw [beq_eq_false_iff_ne];exact g2
      rw [←g0] at e0;rw [←g1] at e1
      clear HNX HNO HEX g0 g1 g2 b1
      generalize l1[k].1=kk at d0 e0
      generalize l1[k].2.1=ss at d1 e1
      generalize l1[k].2.2=mm at d2 t2
      generalize l2[k].2.2=mm2 at e2 t2
      go_wp2_with fail
      go_quiet (fail)
      have HQ:=zz (show∃n,wr.drewN nq=w.drewN n by obtain ⟨n,h⟩:=HN0.out;exact ⟨n+nq,by rw [h,World.drewN_drewN]⟩)
      go_wp2
      go_ret
      exact ⟨by rw [HN.out];rfl,HQ.out⟩
    ·have HN:=zz (HNO.out (fun e=>g1 (by rw [e])))
     have t1:(l1[k].2.1.toList==l2[k].2.1.toList)=false:=by rw [b1];exact decide_eq_false g1
     rw [←g0] at e0
     clear HNX HNO HEX g0 g1 b1
     generalize l1[k].1=kk at d0 e0
     generalize l1[k].2.1=ss at d1 t1
     generalize l2[k].2.1=ss2 at e1 t1
     generalize l1[k].2.2=mm at d2
     generalize l2[k].2.2=mm2 at e2
     go_wp2_with fail
     go_quiet (fail)
     have HQ:=zz (show∃n,wr.drewN nq=w.drewN n by obtain ⟨n,h⟩:=HN0.out;exact ⟨n+nq,by rw [h,World.drewN_drewN]⟩)
     go_wp2
     go_ret
     exact ⟨by rw [HN.out];rfl,HQ.out⟩
   ·have HN:=zz (HNO.out (fun e=>g0 (by rw [e])))
    have t0:(l1[k].1==l2[k].1)=false:=by rw [beq_eq_false_iff_ne];exact g0
    clear HNX HNO HEX g0 b1
    generalize l1[k].1=kk at d0 t0
    generalize l2[k].1=kk2 at e0 t0
    generalize l1[k].2.1=ss at d1
    generalize l2[k].2.1=ss2 at e1
    generalize l1[k].2.2=mm at d2
    generalize l2[k].2.2=mm2 at e2
    go_wp2_with fail
    go_quiet (fail)
    have HQ:=zz (show∃n,wr.drewN nq=w.drewN n by obtain ⟨n,h⟩:=HN0.out;exact ⟨n+nq,by rw [h,World.drewN_drewN]⟩)
    go_wp2
    go_ret
    exact ⟨by rw [HN.out];rfl,HQ.out⟩
  ·obtain rfl:k=l1.length:=by omega
   have hD:=decide_eq_true (show l1=l2 from List.ext_getElem hlen fun j h h'=>HS.out j h h' (by omega))
   go_wp2
   go_ret
   exact ⟨by rw [hD];rfl,HN0.out⟩
theorem equal_any (v1 v2:Value) (l1 l2:List Cl) (w:World) (h1:RowC w v1 l1) (h2:RowC w v2 l2):
  Calls Tryz.prog 190 #[v1,v2] w fun e w'=>e= .returned (.bool (decide (l1=l2)))∧Below w.heap.size w w':=
 (equal_q v1 v2 l1 l2 w h1 h2).mono fun e w' ⟨he,n,hn⟩=>⟨he,by subst hn;exact ⟨rfl,rfl,rfl,Nat.le_refl _,fun _ _=>rfl⟩⟩
theorem same_any (u u':Value) (p q:List Cl) (w:World) (h1:AppOK w u p) (h2:AppOK w u' q) (l1:p.length≤1000) (l2:q.length≤1000):
  Calls Tryz.prog 161 #[u,u'] w fun e w'=>e= .returned (.bool (decide (p=q)))∧Below w.heap.size w w':=by
 have H2:=zz h2
 obtain ⟨T,x,K,rfl,hm,heK,hK⟩:=h1
 obtain ⟨T2,x2,K2,rfl,hm2,heK2,hK2⟩:=h2
 have HK:=zz (hK w w.heap.size (.slice none 0 0) [] (Below.refl _ _) (Nat.le_refl _) (Nat.le_refl _) (World.ownsRow_nil _ _ _ _) (by simp;omega))
 have HK2:=zz (fun w1 (hb:Below w.heap.size w w1) (hs:w.heap.size≤w1.heap.size)=>hK2 w1 w1.heap.size (.slice none 0 0) [] hb hs (Nat.le_refl _) (World.ownsRow_nil _ _ _ _) (by simp;omega))
 clear hK hK2
 go_enter Tryz.func161,Tryz.ntmps161
 go_wp2_with fail
 refine HK.out.mono ?_
 rintro e w1 ⟨v1,rfl,ho1,hb1,hs1⟩
 have HO1:=zz (show w1.ownsRow w.heap.size 44 3 v1 p.length (flatC p) by simpa using ho1)
 have HB1:=zz hb1
 clear ho1 hb1
 go_wp2_with fail
 refine (HK2.out w1 HB1.out hs1).mono ?_
 rintro e w2 ⟨v2,rfl,ho2,hb2,hs2⟩
 have HR1:=zz ((RowC.of_own HO1.out).1.mono hb2)
 have HR2:=zz (RowC.of_own (show w2.ownsRow w1.heap.size 44 3 v2 q.length (flatC q) by simpa using ho2)).1
 have HB2:=zz (HB1.out.trans (hb2.mono hs1))
 clear ho2 hb2
 go_wp2_with fail
 refine (equal_any v1 v2 p q w2 HR1.out HR2.out).mono ?_
 rintro e w3 ⟨rfl,hb3⟩
 have HB3:=zz (HB2.out.trans (hb3.mono HB2.out.size));clear hb3
 go_wp2
 go_ret
 exact ⟨rfl,HB3.out⟩
theorem index_any (K:FuncId) (pb:Nat) (he: ∀args w,(callFunc K args).run Tryz.prog w= .ok (.enter K args) w) (ao:Option Addr) (cap:Nat) (us:List Value) (p:Nat→Bool) (w:World) (h8:us.length≤1000)
  (hif: ∀(k:Nat) (h:k<us.length),∃T x,us[k]= .iface T x) (hc:us=[]∨ ∃b o,ao=some ⟨b,o,none⟩∧b<w.heap.size∧ ∀(k:Nat) (h:k<us.length),w.cell? ⟨b,o+k,none⟩=some us[k])
  (hK: ∀(k:Nat) (h:k<us.length) (w':World),Below w.heap.size w w'→Calls Tryz.prog K #[us[k], .pointer (some ⟨pb,0,none⟩)] w' fun e w''=>e= .returned (.bool (p k))∧Below w'.heap.size w' w''):
  Calls Tryz.prog 234 #[.slice ao us.length cap, .func (.func K) #[] #[.pointer (some ⟨pb,0,none⟩)]] w fun e w'=>
   Below w.heap.size w w'∧ ∃i:Int,e= .returned (.int .i64 i)∧(0≤i↔ ∃k,k<us.length∧p k=true):=by
 have HC:=zz hc;have HK:=zz hK;have HIF:=zz hif
 clear hc hK hif
 go_enter Tryz.func234,Tryz.ntmps234
 go_wp2_with fail
 go_loopw [8] (fun i wr=> ∃k:Nat,k≤us.length∧i= .int .i64 (k:Int)∧(∀j,j<k→p j=false)∧Below w.heap.size w wr) (fun i _=>us.length-(intOf i).toNat)
 case atStart=>exact ⟨0,Nat.zero_le _,rfl,fun j h=>by omega,Below.refl _ _⟩
 case round=>
  obtain ⟨k,hk,rfl,hno,hb⟩:=hrel
  have HNO:=zz hno;have HB:=zz hb
  clear hno hb
  by_cases hlt:k<us.length
  ·obtain ⟨b,o,rfl,hbl,cc⟩:=HC.out.resolve_left (by rintro rfl;simp at hlt)
   have d0:wr.cell? ⟨b,o+k,none⟩=some us[k]:=(HB.out.cell (p:=⟨b,_,none⟩) hbl).trans (cc k hlt)
   have hc1:=HK.out k hlt wr HB.out
   obtain ⟨T,x,hT⟩:=HIF.out k hlt
   rw [hT] at d0 hc1
   have HCL:=zz hc1
   clear cc hc1 hT
   cases hp:p k with
   |true=>
    have HY:=zz (show∃k,k<us.length∧p k=true from ⟨k,hlt,hp⟩)
    rw [hp] at HCL
    clear hp
    go_wp2_with fail
    refine HCL.out.mono ?_
    rintro e w1 ⟨rfl,hb1⟩
    have HB1:=zz (HB.out.trans (hb1.mono HB.out.size));clear hb1
    go_wp2
    go_ret
    exact ⟨HB1.out,_,rfl,⟨fun _=>HY.out,fun _=>by omega⟩⟩
   |false=>
    have HN:=zz (show∀j,j<k+1→p j=false from fun j h=>by
     by_cases hj:j=k
     ·subst hj;exact hp
     ·exact HNO.out j (by omega))
    rw [hp] at HCL
    clear hp
    go_wp2_with fail
    refine HCL.out.mono ?_
    rintro e w1 ⟨rfl,hb1⟩
    have HB1:=zz (HB.out.trans (hb1.mono HB.out.size));clear hb1
    go_wp2
    go_roundw
    case rel=>exact ⟨k+1,by omega,by go_num,HN.out,HB1.out⟩
    case measure=>simp [intOf];omega
  ·obtain rfl:k=us.length:=by omega
   have HN:=zz (show¬ ∃k,k<us.length∧p k=true from fun ⟨j,h1,h2⟩=>by rw [HNO.out j h1] at h2;cases h2)
   go_wp2
   go_ret
   exact ⟨HB.out,_,rfl,⟨fun h=>by omega,fun h=>absurd h HN.out⟩⟩
open Classical in
theorem contains_any (K:FuncId) (pb:Nat) (he: ∀args w,(callFunc K args).run Tryz.prog w= .ok (.enter K args) w) (ao:Option Addr) (cap:Nat) (us:List Value) (p:Nat→Bool) (w:World) (h8:us.length≤1000)
  (hif: ∀(k:Nat) (h:k<us.length),∃T x,us[k]= .iface T x) (hc:us=[]∨ ∃b o,ao=some ⟨b,o,none⟩∧b<w.heap.size∧ ∀(k:Nat) (h:k<us.length),w.cell? ⟨b,o+k,none⟩=some us[k])
  (hK: ∀(k:Nat) (h:k<us.length) (w':World),Below w.heap.size w w'→Calls Tryz.prog K #[us[k], .pointer (some ⟨pb,0,none⟩)] w' fun e w''=>e= .returned (.bool (p k))∧Below w'.heap.size w' w'') (r:Bool) (hr:r=true↔ ∃k,k<us.length∧p k=true):
  Calls Tryz.prog 214 #[.slice ao us.length cap, .func (.func K) #[] #[.pointer (some ⟨pb,0,none⟩)]] w fun e w'=>
   e= .returned (.bool r)∧Below w.heap.size w w':=by
 have HI:=zz (index_any K pb he ao cap us p w h8 hif hc hK);have HR:=zz hr
 clear hc hK hif hr
 go_enter Tryz.func214,Tryz.ntmps214
 go_wp2_with fail
 refine HI.out.mono ?_
 rintro e w1 ⟨hb1,i,rfl,hi⟩
 have HB1:=zz hb1
 have HD:=zz (show decide (0≤i)=r by
  cases hrr:r with
  |true=>exact decide_eq_true (hi.mpr (HR.out.mp hrr))
  |false=>exact decide_eq_false (fun h=>by have:=HR.out.mpr (hi.mp h);rw [hrr] at this;cases this))
 clear hb1 hi
 go_wp2
 go_ret
 exact ⟨by rw [←HD.out];rfl,HB1.out⟩
theorem VlS.asL {w:World} {S:Nat→Prop} {T:TypeId} {x:Value} {l:List Cl} (h:VlS w S [.iface T x] [l]) (hok:okV l=true):
  ((∀w',(Instr.typeAssert (.iface T x) 70 158 true).run Tryz.prog w'= .ok (.tuple #[.slice none 0 0, .bool false]) w')∧kdV l≠5)∨
  ((∀w',(Instr.typeAssert (.iface T x) 70 158 true).run Tryz.prog w'= .ok (.tuple #[x, .bool true]) w')∧ ∃us ps,RowV w S x us∧VlS w S us ps∧l=listV ps):=by
 rcases h.one hok with ⟨s,hs,hu,rfl⟩|⟨s,hs,hu,rfl⟩|⟨b,hu,rfl⟩|⟨v,us,ps,hu,rfl,hr,hvs,hps,hpv⟩
 ·injection hu with h1 h2;subst h1 h2;exact .inl ⟨fun w'=>taL_num _ w',show (1:Int)≠5 by decide⟩
 ·injection hu with h1 h2;subst h1 h2;exact .inl ⟨fun w'=>taL_text _ w',show (2:Int)≠5 by decide⟩
 ·injection hu with h1 h2;subst h1 h2;exact .inl ⟨fun w'=>taL_truth _ w',show (3:Int)≠5 by decide⟩
 ·injection hu with h1 h2;subst h1 h2;exact .inr ⟨fun w'=>taL_list _ w',us,ps,hr,hvs,rfl⟩
theorem VlS.asT {w:World} {S:Nat→Prop} {T:TypeId} {x:Value} {l:List Cl} (h:VlS w S [.iface T x] [l]) (hok:okV l=true):
  ((∀w',(Instr.typeAssert (.iface T x) 70 155 true).run Tryz.prog w'= .ok (.tuple #[.string ByteArray.empty, .bool false]) w')∧kdV l≠2)∨
  ∃s,(∀w',(Instr.typeAssert (.iface T x) 70 155 true).run Tryz.prog w'= .ok (.tuple #[.string s, .bool true]) w')∧okC (2,s,0)=true∧l=[(2,s,0)]:=by
 rcases h.one hok with ⟨s,hs,hu,rfl⟩|⟨s,hs,hu,rfl⟩|⟨b,hu,rfl⟩|⟨v,us,ps,hu,rfl,hr,hvs,hps,hpv⟩
 ·injection hu with h1 h2;subst h1 h2;exact .inl ⟨fun w'=>taT_num _ w',show (1:Int)≠2 by decide⟩
 ·injection hu with h1 h2;subst h1 h2;exact .inr ⟨s,fun w'=>taT_text _ w',hs,rfl⟩
 ·injection hu with h1 h2;subst h1 h2;exact .inl ⟨fun w'=>taT_truth _ w',show (3:Int)≠2 by decide⟩
 ·injection hu with h1 h2;subst h1 h2;exact .inl ⟨fun w'=>taT_list _ w',show (5:Int)≠2 by decide⟩
theorem VlS.asN {w:World} {S:Nat→Prop} {T:TypeId} {x:Value} {l:List Cl} (h:VlS w S [.iface T x] [l]) (hok:okV l=true):
  ((∀w',(Instr.typeAssert (.iface T x) 70 154 true).run Tryz.prog w'= .ok (.tuple #[.agg #[.int .i64 0, .int .i64 0], .bool false]) w')∧kdV l≠1)∨
  ∃s,(∀w',(Instr.typeAssert (.iface T x) 70 154 true).run Tryz.prog w'= .ok (.tuple #[.agg #[.int .i64 (rdT s), .int .i64 (rdB s)], .bool true]) w')∧rdOK s=true∧l=[(1,s,0)]:=by
 rcases h.one hok with ⟨s,hs,hu,rfl⟩|⟨s,hs,hu,rfl⟩|⟨b,hu,rfl⟩|⟨v,us,ps,hu,rfl,hr,hvs,hps,hpv⟩
 ·injection hu with h1 h2;subst h1 h2;exact .inr ⟨s,fun w'=>taN_num _ w',hs,rfl⟩
 ·injection hu with h1 h2;subst h1 h2;exact .inl ⟨fun w'=>taN_text _ w',show (2:Int)≠1 by decide⟩
 ·injection hu with h1 h2;subst h1 h2;exact .inl ⟨fun w'=>taN_truth _ w',show (3:Int)≠1 by decide⟩
 ·injection hu with h1 h2;subst h1 h2;exact .inl ⟨fun w'=>taN_list _ w',show (5:Int)≠1 by decide⟩
open Classical in
noncomputable def conR (p x:List Cl):Option (List Cl):=if kdV p=5 then some (truV (decide (x∈partsV p))) else none
theorem contains1_any (u u':Value) (p q:List Cl) (pb:Nat) (w:World) (hc:w.cell? ⟨pb,0,none⟩=some u') (h1:AppOK w u p) (h2:AppOK w u' q) (l1:p.length≤1000) (l2:q.length≤1000):
  Calls Tryz.prog 215 #[u, .pointer (some ⟨pb,0,none⟩)] w fun e w'=>e= .returned (.bool (decide (p=q)))∧Below w.heap.size w w':=by
 have HS:=zz (same_any u u' p q w h1 h2 l1 l2)
 obtain ⟨T,x,K,rfl,-⟩:=h1
 obtain ⟨T2,x2,K2,rfl,-⟩:=h2
 go_enter Tryz.func215,Tryz.ntmps215
 go_wp2_with fail
 refine HS.out.mono ?_
 rintro e w1 ⟨rfl,hb1⟩
 go_wp2
 go_ret
 exact ⟨rfl,hb1⟩
theorem enter_con1: ∀args w,(callFunc 215 args).run Tryz.prog w= .ok (.enter 215 args) w:=enters_of Tryz.func215 (by kernel_rfl) rfl
open Classical in
theorem containsPart_any {S:Nat→Prop} (u u':Value) (p q:List Cl) (w:World) (hv:VlS w S [u] [p]) (hok:okV p=true) (hv':VlS w S [u'] [q]) (hok':okV q=true) (htab:Tab w):
  Calls Tryz.prog 188 #[u,u'] w (Res S (conR p q) w):=by
 obtain ⟨T,x,rfl⟩:=hv.iface
 obtain ⟨T2,x2,rfl⟩:=hv'.iface
 have HA:=zz (fun w' (hb:Below w.heap.size w w')=>(hv'.app_ok htab 0 (by simp) (by simp)).keep hb)
 have hql:=((okV_iff q).mp hok').1
 rcases hv.asL hok with ⟨has,hkd⟩|⟨has,us,ps,hr,hvs,rfl⟩
 ·have HL:=zz (show conR p q=none by rw [conR,if_neg hkd])
  clear hv hv' htab hok hok' hkd
  go_enter Tryz.func188,Tryz.ntmps188
  go_wp2
  go_ret
  exact Res.nil ((Below.refl _ _).alloc (Nat.le_refl _) _) HL.out
 ·obtain ⟨hps,hpv⟩:=okV_parts hvs.exs hok
  have HL:=zz (show conR (listV ps) q=some (truV (decide (q∈ps))) by rw [conR,if_pos (show kdV (listV ps)=5 from rfl),hpv])
  have hlen:=hvs.len
  have hm:ps.length≤60:=by
   have:=okVC_many (okV_head (c:=(5,⟨#[]⟩,(ps.length:Int))) (t:=ps.flatten) hok)
   simp only at this;omega
  have HAS:=zz (hvs.app_ok htab)
  have HB0:=zz ((Below.refl w.heap.size w).alloc (Nat.le_refl _) (.cells #[.iface T2 x2] 70))
  have c0:(w.alloc (.cells #[.iface T2 x2] 70)).cell? ⟨w.heap.size,0,none⟩=some (.iface T2 x2):=by simp [go_sem]
  obtain ⟨ao,cap,rfl,h1,h2,h3⟩:=hr
  have hcc:us=[]∨ ∃b o,ao=some ⟨b,o,none⟩∧b<(w.alloc (.cells #[.iface T2 x2] 70)).heap.size∧ ∀(k:Nat) (h:k<us.length),(w.alloc (.cells #[.iface T2 x2] 70)).cell? ⟨b,o+k,none⟩=some us[k]:=by
   rcases h3 with h3|⟨b,o,rfl,-,hbl,cc⟩
   ·exact .inl h3
   ·exact .inr ⟨b,o,rfl,by simp;omega,fun k hk=>(HB0.out.cell (p:=⟨b,_,none⟩) hbl).trans (cc k hk)⟩
  have hK: ∀(k:Nat) (h:k<us.length) (w':World),Below (w.alloc (.cells #[.iface T2 x2] 70)).heap.size (w.alloc (.cells #[.iface T2 x2] 70)) w'→
    Calls Tryz.prog 215 #[us[k], .pointer (some ⟨w.heap.size,0,none⟩)] w' fun e w''=>e= .returned (.bool (decide (ps[k]? =some q)))∧Below w'.heap.size w' w'':=fun k hk w' hb=>by
   have hkp:k<ps.length:=by omega
   have hb2:Below w.heap.size w w':=HB0.out.trans (hb.mono HB0.out.size)
   have h:=contains1_any us[k] (.iface T2 x2) ps[k] q w.heap.size w' ((hb.cell (p:=⟨w.heap.size,_,none⟩) (by simp)).trans c0) ((HAS.out k hk hkp).keep hb2) (HA.out w' hb2) (by have:=((okV_iff _).mp (hps ps[k] (List.getElem_mem hkp))).1;omega) (by omega)
   have e1:decide (ps[k]? =some q)=decide (ps[k]=q):=by rw [List.getElem?_eq_getElem hkp];simp
   rw [e1];exact h
  have hif: ∀(k:Nat) (h:k<us.length),∃T x,us[k]= .iface T x:=fun k hk=>(hvs.at k hk (by omega)).iface
  have hr:decide (q∈ps)=true↔ ∃k,k<us.length∧decide (ps[k]? =some q)=true:=by
   simp only [decide_eq_true_eq]
   constructor
   ·intro h
    obtain ⟨k,hk,hq⟩:=List.mem_iff_getElem.mp h
    exact ⟨k,by omega,by rw [List.getElem?_eq_getElem hk,hq]⟩
   ·rintro ⟨k,hk,hq⟩
    exact List.mem_of_getElem? hq
  have HCT:=zz (contains_any _ w.heap.size enter_con1 ao cap us (fun k=>decide (ps[k]? =some q)) _ (by omega) hif hcc hK (decide (q∈ps)) hr)
  have HT:=zz htab
  have hct:=conc_truth
  generalize decide (q∈ps)=r at HL HCT
  clear hv hv' htab hok hok' hps hpv hcc hK hif hr h3 h2 h1 hvs hlen
  go_enter Tryz.func188,Tryz.ntmps188
  go_wp2_with fail
  refine HCT.out.mono ?_
  rintro e w1 ⟨rfl,hb1⟩
  have HB1:=zz (HB0.out.trans (hb1.mono HB0.out.size));clear hb1
  go_wp2
  go_ret
  exact Res.val (S:=S) HB1.out (r:=truV r) (.truth (b:=r) .nil) (HT.out.keep HB1.out) (tru_ok r) HL.out
theorem Res.ret {S:Nat→Prop} {o:Option (List Cl)} {w w':World} {e:Ending} (h:Res S o w e w'): ∃r,e= .returned r∧Res S o w (.returned r) w':=by
 obtain ⟨hb,⟨rfl,ho⟩|⟨u,r,rfl,h1⟩⟩:=h
 ·exact ⟨_,rfl,hb, .inl ⟨rfl,ho⟩⟩
 ·exact ⟨_,rfl,hb, .inr ⟨u,r,rfl,h1⟩⟩
theorem Res.from {S:Nat→Prop} {o:Option (List Cl)} {w0 w w':World} {e:Ending} (h:Res S o w e w') (hb:Below w0.heap.size w0 w):Res S o w0 e w':=⟨hb.trans (h.1.mono hb.size),h.2⟩
theorem len_two {α:Type} {l:List α} (h:l.length=2): ∃a b,l=[a,b]:=by
 match l,h with
 |[a,b],_=>exact ⟨a,b,rfl⟩
noncomputable def oneL (R:List Cl→Option (List Cl)) (ls:List (List Cl)):Option (List Cl):=match ls with|[l]=>R l|_=>none
noncomputable def twoL (R:List Cl→List Cl→Option (List Cl)) (ls:List (List Cl)):Option (List Cl):=match ls with|[l,m]=>R l m|_=>none
theorem oneL_no {R:List Cl→Option (List Cl)} {ls:List (List Cl)} (h:ls.length≠1):oneL R ls=none:=by
 match ls,h with
 |[],_=>rfl
 |[l],h=>exact absurd rfl h
 |l::m::r,_=>rfl
theorem twoL_no {R:List Cl→List Cl→Option (List Cl)} {ls:List (List Cl)} (h:ls.length≠2):twoL R ls=none:=by
 match ls,h with
 |[],_=>rfl
 |[l],_=>rfl
 |[l,m],h=>exact absurd rfl h
 |l::m::n::r,_=>rfl
theorem ofOne1_any {S : Nat → Prop} (fb B : Nat) (F : Value) (R : List Cl → Option (List Cl)) (v : Value) (us : List Value) (ls : List (List Cl)) (w : World) (hc : w.cell? ⟨fb, 0, none⟩ = some F) (hF : DoesV F B w R) (hS : Hi w.heap.size S) (hr : RowV w S v us) (hv : VlS w S us ls) (hok : ∀ l ∈ ls, okV l = true) (hn : ls.length ≤ 1048576) (htab : Tab w) :
    Calls Tryz.prog 198 #[v, .pointer (some ⟨fb, 0, none⟩)] w (Res S (oneL R ls) w) := by
  have hlen := hv.len
  obtain ⟨ao, cap, rfl, h1, h2, h3⟩ := hr
  by_cases h1l : us.length = 1
  · obtain ⟨u, rfl⟩ := List.length_eq_one_iff.mp h1l
    obtain ⟨l, rfl⟩ := List.length_eq_one_iff.mp (hlen.symm.trans h1l)
    obtain ⟨b, o, rfl, -, hbl, cc⟩ := h3.resolve_left (by simp)
    have d0 : w.cell? ⟨b, o, none⟩ = some u := cc 0 (by simp)
    obtain ⟨K, cb, rfl, he, hcall⟩ := hF
    have HW := zz (show Below w.heap.size w w.drew from ⟨rfl, rfl, rfl, Nat.le_refl _, fun _ _ => rfl⟩)
    have HK := zz (fun w' (hb : Below w.heap.size w w') => (hcall S w' u l (hS.mono hb.size) (Up.of hb) (htab.keep hb) (hv.low hb) (hok l (by simp))).mono (fun e w'' h => h.ret))
    obtain ⟨T, x, rfl⟩ := hv.iface
    have hbf : fb < w.heap.size := World.block_lt_of_cell? w _ hc
    clear hv hok htab hcall cc h3 hS
    go_enter Tryz.func198, Tryz.ntmps198
    go_wp2_with fail
    go_region_held3 (fun w' => w'.cell? ⟨fb, 0, none⟩ = some (.func (.func K) #[] cb) ∧ w'.cell? ⟨b, o, none⟩ = some (.iface T x))
      (first
        | go_keep
        | (go_split_ands
           refine ⟨?_, ?_⟩
           · (rw [hres.1.cell (by exact hbf)]; assumption)
           · (rw [hres.1.cell (by exact hbl)]; assumption)))
      ((refine (HK.out _ HW.out).mono ?_; rintro e w1 ⟨r, rfl, hres⟩))
    have HR := zz (hres.from HW.out); clear hres
    go_wp2
    go_ret
    exact HR.out
  · have HN := zz (oneL_no (R := R) (ls := ls) (by omega))
    have hz : ((us.length : Int) != 1) = true := bne_iff_ne.mpr (by omega)
    clear hc hF hv hok htab h3 h2 h1 hlen hS
    go_enter Tryz.func198, Tryz.ntmps198
    go_wp2
    go_ret
    exact Res.nil (Below.refl _ _) HN.out
theorem ofTwo1_any {S : Nat → Prop} (fb B : Nat) (F : Value) (R : List Cl → List Cl → Option (List Cl)) (v : Value) (us : List Value) (ls : List (List Cl)) (w : World) (hc : w.cell? ⟨fb, 0, none⟩ = some F) (hF : DoesVV F B w R) (hS : Hi w.heap.size S) (hr : RowV w S v us) (hv : VlS w S us ls) (hok : ∀ l ∈ ls, okV l = true) (hn : ls.length ≤ 1048576) (htab : Tab w) :
    Calls Tryz.prog 213 #[v, .pointer (some ⟨fb, 0, none⟩)] w (Res S (twoL R ls) w) := by
  have hlen := hv.len
  obtain ⟨ao, cap, rfl, h1, h2, h3⟩ := hr
  by_cases h1l : us.length = 2
  · obtain ⟨u, u', rfl⟩ := len_two h1l
    obtain ⟨l, l', rfl⟩ := len_two (hlen.symm.trans h1l)
    obtain ⟨b, o, rfl, -, hbl, cc⟩ := h3.resolve_left (by simp)
    have d0 : w.cell? ⟨b, o, none⟩ = some u := cc 0 (by simp)
    have d1 : w.cell? ⟨b, o + 1, none⟩ = some u' := cc 1 (by simp)
    have hv0 := hv.at 0 (by simp) (by simp)
    have hv1 := hv.at 1 (by simp) (by simp)
    simp only [List.getElem_cons_zero, List.getElem_cons_succ] at hv0 hv1
    obtain ⟨K, rfl, he, hcall⟩ := hF
    have HW := zz (show Below w.heap.size w w.drew from ⟨rfl, rfl, rfl, Nat.le_refl _, fun _ _ => rfl⟩)
    have HK := zz (fun w' (hb : Below w.heap.size w w') => (hcall S w' u l u' l' (hS.mono hb.size) (Up.of hb) (htab.keep hb) (hv0.low hb) (hok l (by simp)) (hv1.low hb) (hok l' (by simp))).mono (fun e w'' h => h.ret))
    obtain ⟨T, x, rfl⟩ := hv0.iface
    obtain ⟨T2, x2, rfl⟩ := hv1.iface
    have hbf : fb < w.heap.size := World.block_lt_of_cell? w _ hc
    clear hv hv0 hv1 hok htab hcall cc h3 hS
    go_enter Tryz.func213, Tryz.ntmps213
    go_wp2_with fail
    go_region_held3 (fun w' => w'.cell? ⟨fb, 0, none⟩ = some (.func (.func K) #[] #[]) ∧ w'.cell? ⟨b, o, none⟩ = some (.iface T x) ∧ w'.cell? ⟨b, o + 1, none⟩ = some (.iface T2 x2))
      (first
        | go_keep
        | (go_split_ands
           refine ⟨?_, ?_, ?_⟩
           · (rw [hres.1.cell (by exact hbf)]; assumption)
           · (rw [hres.1.cell (by exact hbl)]; assumption)
           · (rw [hres.1.cell (by exact hbl)]; assumption)))
      ((refine (HK.out _ HW.out).mono ?_; rintro e w1 ⟨r, rfl, hres⟩))
    have HR := zz (hres.from HW.out); clear hres
    go_wp2
    go_ret
    exact HR.out
  · have HN := zz (twoL_no (R := R) (ls := ls) (by omega))
    have hz : ((us.length : Int) != 2) = true := bne_iff_ne.mpr (by omega)
    clear hc hF hv hok htab h3 h2 h1 hlen hS
    go_enter Tryz.func213, Tryz.ntmps213
    go_wp2
    go_ret
    exact Res.nil (Below.refl _ _) HN.out
noncomputable def textR (f:ByteArray→ByteArray) (p:List Cl):Option (List Cl):=if kdV p=2 then texO (f (wdV p)) else none
noncomputable def listR5 (R:List Cl→Option (List Cl)) (p:List Cl):Option (List Cl):=if kdV p=5 then R p else none
theorem ofText1_any {S:Nat→Prop} (fb B:Nat) (F:Value) (f:ByteArray→ByteArray) (u:Value) (p:List Cl) (w:World) (hc:w.cell? ⟨fb,0,none⟩=some F) (hF:DoesS F B w f) (hv:VlS w S [u] [p]) (hok:okV p=true):
  Calls Tryz.prog 199 #[u, .pointer (some ⟨fb,0,none⟩)] w (Res S (textR f p) w):=by
 obtain ⟨K,rfl,he,hsz,hcall⟩:=hF
 obtain ⟨T,x,rfl⟩:=hv.iface
 have hct:=conc_text
 rcases hv.asT hok with ⟨has,hkd⟩|⟨s,has,hs,rfl⟩
 ·have HN:=zz (show textR f p=none from if_neg hkd)
  clear hc hv hok hkd hcall hsz
  go_enter Tryz.func199,Tryz.ntmps199
  go_wp2
  go_ret
  exact Res.nil (Below.refl _ _) HN.out
 ·have HN:=zz (show textR f [(2,s,0)]=texO (f s) from if_pos rfl)
  have HK:=zz (hcall w s (Up.refl _ _) hs)
  have hs1:(f s).size≤1048576:=by
   have:=okVC_word (okV_head hok);rw [hsz];have h2:s.size≤60:=this;omega
  generalize f s=t at HN HK hs1
  clear hv hok hcall hsz hs
  go_enter Tryz.func199,Tryz.ntmps199
  go_wp2_with fail
  refine HK.out.mono ?_
  rintro e w1 ⟨rfl,hb1⟩
  go_wp2
  go_ret
  exact Res.text hb1 t hs1 HN.out
theorem ofList1_any {S:Nat→Prop} (fb B:Nat) (F:Value) (R:List Cl→Option (List Cl)) (u:Value) (p:List Cl) (w:World) (hc:w.cell? ⟨fb,0,none⟩=some F) (hF:DoesP F B w R) (hS:Hi w.heap.size S) (hv:VlS w S [u] [p]) (hok:okV p=true) (htab:Tab w):
  Calls Tryz.prog 210 #[u, .pointer (some ⟨fb,0,none⟩)] w (Res S (listR5 R p) w):=by
 obtain ⟨K,rfl,he,hcall⟩:=hF
 obtain ⟨T,x,rfl⟩:=hv.iface
 rcases hv.asL hok with ⟨has,hkd⟩|⟨has,us,ps,hr,hvs,rfl⟩
 ·have HN:=zz (show listR5 R p=none from if_neg hkd)
  clear hc hv hok hkd hcall
  go_enter Tryz.func210,Tryz.ntmps210
  go_wp2
  go_ret
  exact Res.nil (Below.refl _ _) HN.out
 ·have HN:=zz (show listR5 R (listV ps)=R (listV ps) from if_pos rfl)
  have HK:=zz ((hcall S w x us ps hS (Up.refl _ _) htab hr hvs hok).mono (fun e w'' h=>h.ret))
  clear hv hok hcall hr hvs htab hS
  go_enter Tryz.func210,Tryz.ntmps210
  go_wp2_with fail
  refine HK.out.mono ?_
  rintro e w1 ⟨r,rfl,hres⟩
  have HR:=zz hres;clear hres
  go_wp2
  go_ret
  rw [HN.out]
  exact HR.out
end Go.Proofs.YthillfgjpalpcaaGreatDoor
