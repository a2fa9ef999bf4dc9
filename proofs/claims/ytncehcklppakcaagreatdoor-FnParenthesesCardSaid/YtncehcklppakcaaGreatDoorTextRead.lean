/-
  The text of a valid expression is read as the expression: plainly.
-/
import Derived.Test.YtncehcklppakcaaGreatDoorBaseZ
import Derived.Test.YtncehcklppakcaaGreatDoorReadE
namespace Go.Proofs.YtncehcklppakcaaGreatDoor
set_option linter.unusedVariables false

/-- n expressions side by side from f up to t, printed. -/
inductive Tz (l : List Cl) : Nat → Nat → Nat → List Pz → Prop
  | nil (f : Nat) : Tz l 0 f f []
  | cons {f g n t : Nat} {c : Cl} {ks xs : List Pz} : l[f]? = some c → Tz l c.2.2.toNat (f + 1) g ks → Tz l n g t xs → Tz l (n + 1) f t (mkPz c ks :: xs)
theorem Tz.len {l : List Cl} {n f t : Nat} {xs : List Pz} (h : Tz l n f t xs) : xs.length = n := by
  induction h with
  | nil f => rfl
  | cons hc h1 h2 i1 i2 => rw [List.length_cons, i2]
theorem Tz.tx {l : List Cl} {n f t : Nat} {xs : List Pz} (h : Tz l n f t xs) : Tx l n f t (xs.map ptOf) := by
  induction h with
  | nil f => exact .nil f
  | cons hc h1 h2 i1 i2 => exact .cons hc i1 i2
theorem Tz.of_exs {l : List Cl} {n f t d : Nat} (h : Exs (amL l) n f t d) : ∃ xs, Tz l n f t xs ∧ maxD xs = d := by
  generalize ha : amL l = am at h
  induction h with
  | nil f => exact ⟨[], .nil f, rfl⟩
  | @cons f m g d n t e hm h1 h2 i1 i2 =>
    obtain ⟨ks, k1, k2⟩ := i1; obtain ⟨xs, k3, k4⟩ := i2
    subst ha
    obtain ⟨c, hc, rfl⟩ := amL_get hm
    refine ⟨_, .cons hc k1 k3, ?_⟩
    simp only [maxD, mkPz, k2, k4]
theorem Tz.good {l : List Cl} (hok : l.all okC = true) {n f t : Nat} {xs : List Pz} (h : Tz l n f t xs) : ∀ x ∈ xs, Good x := by
  induction h with
  | nil f => intro x hx; cases hx
  | @cons f g n t c ks xs hc h1 h2 i1 i2 =>
    intro x hx
    rcases List.mem_cons.mp hx with rfl | hx
    · obtain ⟨hl, he⟩ := List.getElem?_eq_some_iff.mp hc
      exact good_mk (by rw [← he]; exact okC_all hok f hl) h1.len i1
    · exact i2 x hx
theorem Tz.cells {l : List Cl} {n f t : Nat} {xs : List Pz} (h : Tz l n f t xs) : xs.flatMap Pz.cl = (l.drop f).take (t - f) ∧ f ≤ t := by
  induction h with
  | nil f => simp
  | @cons f g n t c ks xs hc h1 h2 i1 i2 =>
    obtain ⟨hl, he⟩ := List.getElem?_eq_some_iff.mp hc
    obtain ⟨e1, l1⟩ := i1
    obtain ⟨e2, l2⟩ := i2
    refine ⟨?_, by omega⟩
    have e0 : l.drop f = c :: l.drop (f + 1) := by rw [List.drop_eq_getElem_cons hl, he]
    rw [List.flatMap_cons, e2]
    simp only [mkPz]
    rw [e1, e0, show t - f = (t - (f + 1)) + 1 by omega, List.take_succ_cons, List.cons_append]
    congr 1
    have : l.drop g = (l.drop (f + 1)).drop (g - (f + 1)) := by rw [List.drop_drop]; congr 1; omega
    rw [this, show t - (f + 1) = (g - (f + 1)) + (t - g) by omega, List.take_add]
/-- A valid expression, printed. -/
theorem pz_of {l : List Cl} (hok : okE l = true) : ∃ x : Pz, Good x ∧ x.tx = textE l ∧ x.cl = l ∧ x.dp ≤ 12 := by
  obtain ⟨h60, hal, d, hd, hx⟩ := (okE_iff l).mp hok
  obtain ⟨xs, h, hm⟩ := Tz.of_exs hx
  have hl := h.len
  match xs, hl, h, hm with
  | [x], _, h, hm =>
    refine ⟨x, h.good hal x (by simp), ?_, ?_, ?_⟩
    · have := textE_of hok (x := ptOf x) h.tx
      rw [this]; rfl
    · have := h.cells.1
      simpa using this
    · simp only [maxD] at hm; omega

/-- The tokens of a text that is divided by itself. -/
theorem lex_toks {tx : List UInt8} {tk : List Kw} (h : Lex tx tk) (hp : plainL tx = true) (hl : tx.length ≤ 20000) : rdTk ⟨tx.toArray⟩ = tk.map fun x => (x.1, (⟨x.2.toArray⟩ : ByteArray)) := by
  obtain ⟨L, e1, b1, r1⟩ := h
  have he : endM (0, 0, []) 0 tx = (0, tx.length, L) := by
    have := r1 [] rfl 0 []
    rw [List.append_nil, List.nil_append, Nat.zero_add] at this
    rw [this]
    have hz : L.map (shT 0) = L := by
      have : shT 0 = id := by funext x; rfl
      rw [this, List.map_id]
    rw [hz]
    unfold endM
    rw [runM, step_zero, first_space]; simp
  have hres : resB (0, 0, []) 0 tx = true := by rw [resB, he]; rfl
  have hok : okT ⟨tx.toArray⟩ = true := by
    rw [okT, ba_list, hp, hres]
    simp only [Bool.and_true, decide_eq_true_eq]
    show tx.toArray.size ≤ 20000
    simpa using hl
  have ht : toksT ⟨tx.toArray⟩ = L := by
    rw [toksT, if_pos hok, ba_list, resL, if_pos hres, he]
  rw [rdTk, ht, ← e1, List.map_map]
  apply List.map_congr_left
  intro x hx
  have hb := b1 x hx
  simp only [Function.comp]
  congr 1
  apply ba_eq
  rw [ByteArray.data_extract, Array.toList_extract, List.extract_eq_take_drop]
theorem lex_at {tx : List UInt8} {tk : List Kw} (h : Lex tx tk) (hp : plainL tx = true) (hl : tx.length ≤ 20000) : AtK (rdTk ⟨tx.toArray⟩) 0 tk ∧ (rdTk ⟨tx.toArray⟩).length = tk.length := by
  rw [lex_toks h hp hl]
  refine ⟨fun i hi => ?_, by simp⟩
  rw [Nat.zero_add, List.getElem?_map, List.getElem?_eq_getElem hi]; rfl
theorem end_isT (tk : List Tk) {q : Nat} (h : tk.length ≤ q) (w : List UInt8) : isT tk q w = false ∧ rkT tk q = 0 := by
  unfold isT rkT
  rw [List.getElem?_eq_none h]; exact ⟨rfl, rfl⟩
/-- What is printed is read as what it is. -/
theorem good_reads {x : Pz} (hg : Good x) (hd : x.dp ≤ 20) (hl : x.tx.length ≤ 20000) (hok : okE x.cl = true) : RdOK ⟨x.tx.toArray⟩ x.cl := by
  obtain ⟨ha, hlen⟩ := lex_at hg.lex hg.plain hl
  have he := end_isT (rdTk ⟨x.tx.toArray⟩) (q := 0 + x.tk.length) (by omega)
  obtain ⟨n, hn, hr⟩ := hg.chc _ 0 ha (he [40]).1 (he []).2 (he [63]).1
  have hdp := hg.dp
  refine ⟨⟨n, ?_, by omega⟩, hok⟩
  rw [hlen]
  rwa [Nat.zero_add] at hr
theorem text_reads {l : List Cl} (hok : okE l = true) : RdOK ⟨(textE l).toArray⟩ l := by
  obtain ⟨x, hg, ht, hc, hd⟩ := pz_of hok
  have hl := textE_len l
  rw [← ht] at hl ⊢
  rw [← hc] at hok
  rw [← hc]
  exact good_reads hg (by omega) (by omega) hok
theorem textE_short {l : List Cl} (hok : okE l = true) : (textE l).length ≤ 200 * l.length := by
  obtain ⟨x, h⟩ := okE_tx hok
  obtain ⟨h60, hal, -⟩ := (okE_iff l).mp hok
  have := (h.short hal).1
  rw [textE_of hok h]
  simp only [sumT] at this; omega
/-- Two expressions in parentheses with a sign between them. -/
theorem both_reads {a b both : List Cl} {w : ByteArray} (ha : okE a = true) (hb : okE b = true) (hw : 0 < rankL w.data.toList) (hboth : both = (8, w, 2) :: (a ++ b)) (hok : okE both = true) :
    RdOK ⟨(40 :: (textE a ++ (41 :: (w.data.toList ++ (40 :: (textE b ++ [41]))))) : List UInt8).toArray⟩ both := by
  have h60 := ((okE_iff both).mp hok).1
  have sa := textE_short ha; have sb := textE_short hb
  obtain ⟨x, gx, tx, cx, dx⟩ := pz_of ha
  obtain ⟨y, gy, ty, cy, dy⟩ := pz_of hb
  have hwl := rank_pos _ hw
  have hk26 := rankL_in _ hw
  rw [← tx] at sa ⊢
  rw [← ty] at sb ⊢
  have hlex : Lex (40 :: (x.tx ++ (41 :: (w.data.toList ++ (40 :: (y.tx ++ [41]))))) : List UInt8) ((4, [40]) :: (x.tk ++ ((4, [41]) :: ([(4, w.data.toList)] ++ ((4, [40]) :: (y.tk ++ [(4, [41])])))))) :=
    lex_hard (by decide) (gx.lex.app (lex_hard (by decide) ((lex_bin hw).app (lex_hard (by decide) (gy.lex.app (lex_hard1 (by decide)) (by simp) (by decide))) (by simp) rfl)) (by simp) rfl)
  have hpl : plainL (40 :: (x.tx ++ (41 :: (w.data.toList ++ (40 :: (y.tx ++ [41]))))) : List UInt8) = true := by
    simp only [plain_app, plain_cons, gx.plain, gy.plain, signs_plain hw]; decide
  have hll : (40 :: (x.tx ++ (41 :: (w.data.toList ++ (40 :: (y.tx ++ [41]))))) : List UInt8).length ≤ 20000 := by
    rw [hboth] at h60
    simp only [List.length_cons, List.length_append, List.length_nil] at h60 ⊢; omega
  have hl2 := lex_at hlex hpl hll
  refine ⟨?_, hok⟩
  generalize rdTk ⟨(40 :: (x.tx ++ (41 :: (w.data.toList ++ (40 :: (y.tx ++ [41]))))) : List UInt8).toArray⟩ = tk at hl2 ⊢
  obtain ⟨hat, hlen⟩ := hl2
  have h0 := hat.head
  have h1 := hat.tail
  have h2 := h1.right
  have t2 := h2.head
  have h3 : AtK tk (0 + 1 + x.tk.length + 1) ((4, w.data.toList) :: ((4, [40]) :: (y.tk ++ [(4, [41])]))) := h2.tail
  have t3 := h3.head
  have h4 := h3.tail
  have t4 := h4.head
  have h5 := h4.tail
  have t6 := h5.right.head
  obtain ⟨na, hna, ra⟩ := gx.chc tk (0 + 1) h1.left (by rw [head_isT t2]; decide) (by rw [head_rk t2]; exact lb_rank.2.1) (by rw [head_isT t2]; decide)
  obtain ⟨nb, hnb, rb⟩ := gy.chc tk (0 + 1 + x.tk.length + 1 + 1 + 1) h5.left (by rw [head_isT t6]; decide) (by rw [head_rk t6]; exact lb_rank.2.1) (by rw [head_isT t6]; decide)
  have pa : Rg tk .single 0 x.cl (0 + 1 + x.tk.length + 1) 0 (na + 1) := .paren (by rw [head_isT h0]; decide) ra (by rw [head_isT t2]; decide)
  have pb : Rg tk .single (0 + 1 + x.tk.length + 1 + 1) y.cl (0 + 1 + x.tk.length + 1 + 1 + 1 + y.tk.length + 1) 0 (nb + 1) := .paren (by rw [head_isT t4]; decide) rb (by rw [head_isT t6]; decide)
  have ua : unaryT tk 0 = false := by rw [unaryT, head_isT h0, head_isT h0]; decide
  have ub : unaryT tk (0 + 1 + x.tk.length + 1 + 1) = false := by rw [unaryT, head_isT t4, head_isT t4]; decide
  have hq : tk.length = 0 + 1 + x.tk.length + 1 + 1 + 1 + y.tk.length + 1 := by rw [hlen]; simp; omega
  have he := end_isT tk (q := 0 + 1 + x.tk.length + 1 + 1 + 1 + y.tk.length + 1) (by omega)
  obtain ⟨kk, hkk⟩ := Int.eq_ofNat_of_zero_le (show 0 ≤ rankL w.data.toList by omega)
  have hrk : rkT tk (0 + 1 + x.tk.length + 1) = (kk : Int) := by rw [head_rk t3, hkk]
  have bb : Rg tk (.bin (kk + 1)) (0 + 1 + x.tk.length + 1 + 1) y.cl (0 + 1 + x.tk.length + 1 + 1 + 1 + y.tk.length + 1) 0 (nb + 1) := .bin (.plain ub pb) (.stop (by rw [(he []).2]; omega))
  simp only [ba_self] at t3
  have dx1 := gx.dp; have dy1 := gy.dp
  rw [hboth, ← cx, ← cy, hq]
  exact ⟨max (na + 1) (nb + 1), .one (.bin (.plain ua pa) (.more (k := kk) hrk (by omega) (by omega) t3 bb (fun h => by rw [(he []).2] at h; omega) (.stop (by rw [(he []).2]; omega)))) (he [63]).1, by omega⟩

end Go.Proofs.YtncehcklppakcaaGreatDoor
