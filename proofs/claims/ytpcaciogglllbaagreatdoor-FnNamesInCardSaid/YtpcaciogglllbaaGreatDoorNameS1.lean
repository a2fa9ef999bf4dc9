/-
  spec.NamesIn, by its contract.
-/
import Derived.Test.YtpcaciogglllbaaGreatDoorNamesPlain
import Derived.Test.YtpcaciogglllbaaGreatDoorStrs
import Derived.Test.YtpcaciogglllbaaGreatDoorBaseI
import Derived.BigQuiet
namespace Go.Proofs.YtpcaciogglllbaaGreatDoor
open Go.RowKit
set_option linter.unusedVariables false

/-- A row's beginning. -/
theorem own_pre {w : World} {base g n p c : Nat} {e : TypeId} {xs : List Value} (h : w.ownsRow base e 1 (.slice (some ⟨g, 0, none⟩) n c) n xs) (hp : p ≤ n) : w.ownsRow base e 1 (.slice (some ⟨g, 0, none⟩) p c) p (xs.take p) := by
  obtain ⟨h1, h2⟩ := h
  rcases h2 with ⟨h2, -⟩ | ⟨g', c', cur, h2, h3, h4, h5, h6, h7, h8⟩
  · cases h2
  · injection h2 with e1 e2 e3
    injection e1 with e1; injection e1 with e1
    subst e1; subst e3
    refine ⟨by rw [List.length_take]; omega, .inr ⟨g, c, cur, rfl, h3, h4, by omega, h6, h7, ?_⟩⟩
    rw [← h8, List.take_take]
    congr 1; omega

/-- append of a whole row to a row of one's own, as a step of a region that draws its order. -/
theorem step_append_rowsN {P : Program} {w : World} {ops : Array Oper} {o : Oper} {a : Act} {K : Act → World → Prop} {Q : Exit → Act → World → Prop} {E : Prop} (hgd : o.guard = none) (s x : Operand) (t : TypeId)
    (ho : o.op = .call { callee := .builtin .append, args := #[s, x], argTypes := #[t, t] })
    (base : Nat) (e : TypeId) (i : TypeInfo) (z : Value) (size bytes : Nat) (ht : P.underlying t = some (.slice e)) (hi : P.info? e = some i) (hz : i.zero = some z)
    (hsize : i.size = size) (hby : i.bytes = bytes) (hzs : z.cells.size = size) (hsz : 0 < size)
    (v : Value) (n : Nat) (xs : List Value) (hs : a.eval s = v) (hown : w.ownsRow base e size v n xs)
    (base2 : Nat) (u : Value) (m : Nat) (ys : List Value) (hx : a.eval x = u) (hsrc : w.ownsRow base2 e size u m ys) (h1 : ∀ u ∈ ys, u.oneCell' = true)
    (h63 : n + m ≤ maxLen) (hbytes : (n + m) * bytes ≤ 140737488355328) (hbase : base ≤ w.heap.size)
    (h : ∀ v' w', w'.ownsRow base e size v' (n + m) (xs ++ ys) → w.grownBy w' v.ownBlock → K (a.put o.dst v') w') :
    if Region.wanted o (yielded ops a.tmps) = true then Oper.wp P o a w K Q else E := by
  have hw : Region.wanted o (yielded ops a.tmps) = true := by simp [Region.wanted, hgd]
  rw [if_pos hw]
  rcases hsrc.2 with ⟨rfl, rfl⟩ | ⟨g, cap, cur, rfl, -⟩
  · have hy : ys = [] := List.eq_nil_of_length_eq_zero (by have := hsrc.1; omega)
    subst hy
    have hrun := run_append_owned_none (P := P) (w := w) base t o.type e i size ht hi v n xs hown
    unfold Oper.wp
    simp [execOp, ho, resolve, invoke, builtin, hs, hx, hrun, Result.andThen]
    exact h v w (by simpa using hown) (World.grownBy.refl _ _)
  · refine wp_append_own w s x t ho base e i z size bytes ht hi hz hsize hby hzs hsz v n xs hs hown ⟨g, 0, none⟩ m cap ys hx hsrc.1 ?_ h1 h63 hbytes hbase (fun v' w' a1 a2 _ => h v' w' a1 a2)
    intro j y hj
    have hlt : j < ys.length := by
      by_cases hk : j < ys.length
      · exact hk
      · rw [List.getElem?_eq_none (by omega)] at hj; cases hj
    rw [addz, hsrc.cellAt j (by have := hsrc.1; omega)]; exact hj

set_option maxRecDepth 100000 in
set_option maxHeartbeats 4000000 in
theorem namesIn_yes (v : Value) (l : List Cl) (w : World) (hr : RowC w v l) (hz : ShortC l) (hl : l.length ≤ 1048576) (hok : okE l = true) :
    Calls Tryz.prog 32 #[v] w (NewTexts (namesL l) w) := by
  obtain ⟨i0, hi, hz0, hz1, hz2⟩ := info_parts infoStr
  have HEV := Lib.hid (fun w' (hb : Below w.heap.size w w') => by have := exprValid_spec v l w' (hr.mono hb) hz hl; rw [hok] at this; exact this)
  have HR := Lib.hid hr
  obtain ⟨ao, cap, rfl, h1, h2, h3⟩ := hr
  unfold maxLen at h2
  have H3 := Lib.hid h3
  have HL0 := Lib.hid (show (w.alloc (.cells #[] 9)).ownsRow w.heap.size 9 1 (.slice (some ⟨w.heap.size, 0, none⟩) 0 0) 0 (strs []) from World.ownsRow_lit (e := 9) (size := 1) (base := w.heap.size) w #[] 0 (Nat.le_refl _) (by unfold maxLen; omega) rfl)
  have HB0 := Lib.hid ((Below.refl w.heap.size w).alloc (Nat.le_refl _) (.cells #[] 9))
  clear h3 hz
  go_enter Tryz.func32, Tryz.ntmps32
  go_wp2_with fail
  go_loopw [3, 4] (fun out i wr => ∃ (k g c : Nat), k ≤ l.length ∧ i = .int .i64 (k : Int) ∧ out = .slice (some ⟨g, 0, none⟩) (namesL (l.take k)).length c ∧ wr.ownsRow w.heap.size 9 1 out (namesL (l.take k)).length (strs (namesL (l.take k))) ∧ Below w.heap.size w wr) (fun _ i _ => l.length - (intOf i).toNat)
  case atStart => exact ⟨0, w.heap.size, 0, Nat.zero_le _, rfl, by simp [namesL], by simpa [namesL] using HL0.out, HB0.out⟩
  case round =>
    obtain ⟨k, g, c, hk, rfl, rfl, hown, hb⟩ := hrel
    have HO := Lib.hid hown; have HB := Lib.hid hb
    clear hown hb
    by_cases hlt : k < l.length
    · obtain ⟨b, o, rfl, hbl, cc⟩ := H3.out.resolve_left (by rintro rfl; simp at hlt)
      obtain ⟨c0, c1, -⟩ := cc k hlt
      have HASC := Lib.hid (namesL_asc (l.take k))
      have HNX := Lib.hid (show namesL (l.take (k + 1)) = if l[k].1 = 4 then insN (namesL (l.take k)) l[k].2.1 else namesL (l.take k) by rw [List.take_succ_eq_append_getElem hlt]; exact namesL_snoc _ _)
      have hxl := namesL_len (l.take k)
      have HCAP := Lib.hid (show (namesL (l.take k)).length ≤ c ∧ c ≤ 9223372036854775807 by
        rcases HO.out.2 with ⟨q1, -⟩ | ⟨_, _, _, q1, _, _, q2, q3, _⟩
        · cases q1
        · injection q1 with _ _ q1; unfold maxLen at q3; omega)
      rw [List.length_take] at hxl
      generalize namesL (l.take k) = xs at *
      generalize l[k].1 = kk at c0 HNX
      generalize l[k].2.1 = s at c1 HNX
      have bk0 : (0 : Int) ≤ (k : Int) := by omega
      have bk1 : (k : Int) < (l.length : Int) := by omega
      clear cc
      go_wp2_with fail
      refine (HEV.out _ HB.out).mono ?_
      rintro e w1 ⟨rfl, hb1⟩
      have HO1 := Lib.hid (own_belowS HO.out hb1)
      have HB1 := Lib.hid (HB.out.trans (hb1.mono HB.out.size))
      have d0 := (HB1.out.cell (p := ⟨b, _, none⟩) hbl).trans c0
      have HC1 := Lib.hid c1
      clear hb1 c0 c1
      by_cases h4 : kk = 4
      · subst h4
        rw [if_pos rfl] at HNX
        go_wp2_with fail
        clear d0
        go_loopw [5] (fun a wi => ∃ i : Nat, i ≤ xs.length ∧ a = .int .i64 (i : Int) ∧ (∀ q (h : q < xs.length), q < i → ltN xs[q] s = true) ∧ Below w1.heap.size w1 wi) (fun a _ => xs.length - (intOf a).toNat)
        case atStart => exact ⟨0, Nat.zero_le _, rfl, fun q _ h => by omega, Below.refl _ _⟩
        case round =>
          obtain ⟨i, hi', rfl, hall, hbi⟩ := hrel
          have HALL := Lib.hid hall
          have HBI := Lib.hid hbi
          have HBW := Lib.hid (HB1.out.trans (hbi.mono HB1.out.size))
          have HOI := Lib.hid (own_belowS HO1.out hbi)
          have d1 := (HBW.out.cell (p := ⟨b, _, none⟩) hbl).trans HC1.out
          clear hall hbi
          by_cases hil : i < xs.length
          · have d2 : wr.cell? ⟨g, i, none⟩ = some (.string xs[i]) := by
              rw [HOI.out.cellAt i (by omega)]
              simp [strs, List.getElem?_eq_getElem hil]
            have hd : decide ((i : Int) < (xs.length : Int)) = true := decide_eq_true (by omega)
            have bi0 : (0 : Int) ≤ (i : Int) := by omega
            have bi1 : (i : Int) < (xs.length : Int) := by omega
            have hltd : ltN xs[i] s = Op.bytesLess xs[i].toList s.toList := by rw [ByteArray.toList_eq, ByteArray.toList_eq]; rfl
            by_cases hq : ltN xs[i] s = true
            · have HALL2 := Lib.hid (show ∀ q (h : q < xs.length), q < i + 1 → ltN xs[q] s = true from fun q h hm => by
                by_cases hmi : q = i
                · subst hmi; exact hq
                · exact HALL.out q h (by omega))
              rw [hq] at hltd
              have hl1 := hltd.symm
              clear hltd hq
              go_wp2_with fail
              go_quiet (fail)
              go_wp2
              go_roundw
              case rel => exact ⟨i + 1, by omega, by go_num, HALL2.out, HBI.out.trans ⟨rfl, rfl, rfl, Nat.le_refl _, fun _ _ => rfl⟩⟩
              case measure => simp [intOf]; omega
            · rw [Bool.not_eq_true] at hq
              have HPL := Lib.hid (placeN_is (xs := xs) (s := s) (k := i) (by omega) (fun q hq' => HALL.out q (by omega) hq') (fun _ => hq))
              rw [hq] at hltd
              have hl1 := hltd.symm
              clear hltd hq
              by_cases hee : xs[i] = s
              · have HN2 := Lib.hid (show namesL (l.take (k + 1)) = xs from HNX.out.trans (by unfold insN; rw [if_pos (by rw [← hee]; exact List.getElem_mem hil)]))
                have ht : (xs[i].toList == s.toList) = true := by rw [hee]; simp
                clear hee
                go_wp2_with fail
                go_quiet (fail)
                go_wp2_with fail
                go_quiet (fail)
                go_wp2
                go_roundw
                case rel => exact ⟨k + 1, g, c, by omega, by go_num, by rw [HN2.out], by rw [HN2.out]; exact own_belowS HOI.out ⟨rfl, rfl, rfl, Nat.le_refl _, fun _ _ => rfl⟩, HBW.out.trans ⟨rfl, rfl, rfl, Nat.le_refl _, fun _ _ => rfl⟩⟩
                case measure => simp [intOf]; omega
              · have HNI := Lib.hid (show s ∉ xs from fun hm => by
                  have := (place_mem HASC.out s).mp hm
                  rw [HPL.out, List.getElem?_eq_getElem hil] at this
                  injection this with this; exact hee this)
                have ht : (xs[i].toList == s.toList) = false := by
                  rw [beq_eq_false_iff_ne, ByteArray.toList_eq, ByteArray.toList_eq]
                  intro e; exact hee (ByteArray.ext (by simpa using e))
                clear hee
                have hic : (i : Int) ≤ (c : Int) := by have := HCAP.out; omega
                have hix : (i : Int) ≤ (xs.length : Int) := by omega
                have hxc : (xs.length : Int) ≤ (c : Int) := by have := HCAP.out; omega
                have hci : ¬ c = i := by have := HCAP.out; omega
                have n1 : (strs (xs.drop i)).length = (xs.length - i) * 1 := by simp [strs]
                have n2 : ∀ u ∈ strs (xs.drop i), u.oneCell' = true := by
                  intro u hu; simp only [strs, List.mem_map] at hu; obtain ⟨_, _, rfl⟩ := hu; rfl
                have n3 : 0 + (xs.length - i) ≤ maxLen := by unfold maxLen; omega
                have n4 : (0 + (xs.length - i)) * 16 ≤ 140737488355328 := by omega
                have N1 := Lib.hid n1; have N2 := Lib.hid n2; have N3 := Lib.hid n3; have N4 := Lib.hid n4
                clear n1 n2 n3 n4
                have HLIT := Lib.hid (fun N => (show ((wr.drewN N).alloc (.cells #[] 9)).ownsRow wr.heap.size 9 1 (.slice (some ⟨wr.heap.size, 0, none⟩) 0 0) 0 [] from World.ownsRow_lit (e := 9) (size := 1) (base := wr.heap.size) (wr.drewN N) #[] 0 (Nat.le_refl _) (by unfold maxLen; omega) rfl))
                have HWN := Lib.hid (fun N => (show Below wr.heap.size wr ((wr.drewN N).alloc (.cells #[] 9)) from (show Below wr.heap.size wr (wr.drewN N) from ⟨rfl, rfl, rfl, Nat.le_refl _, fun _ _ => rfl⟩).alloc (Nat.le_refl _) _))
                have HNW := Lib.hid (fun N (j : Nat) (y : Value) (hj : (strs (xs.drop i))[j]? = some y) => (show ((wr.drewN N).alloc (.cells #[] 9)).cell? ((⟨g, i, none⟩ : Addr).add j) = some y by
                  have hj2 : j < (xs.drop i).length := by
                    by_cases hk2 : j < (xs.drop i).length
                    · exact hk2
                    · rw [List.getElem?_eq_none (by rw [strs_length]; omega)] at hj; cases hj
                  rw [List.length_drop] at hj2
                  rw [addr_add, (HWN.out N).cell (p := ⟨g, i + j, none⟩) (HOI.out.lt g rfl).2, HOI.out.cellAt (i + j) (by omega), ← hj]
                  simp [strs]))
                go_wp2_with fail
                go_quiet (fail)
                go_wp2_with fail
                go_quiet (fail)
                go_wp2_with (at_builtin; refine wpList_append_own _ rfl _ _ 50 rfl wr.heap.size 9 i0 (.string ByteArray.empty) 1 16 Tryz.underlying50 hi hz0 hz1 hz2 rfl (by decide) (.slice (some ⟨wr.heap.size, 0, none⟩) 0 0) 0 [] rfl (HLIT.out _) ⟨g, i, none⟩ (xs.length - i) (c - i) (strs (xs.drop i)) rfl (by exact N1.out) (HNW.out _) (by exact N2.out) (by exact N3.out) (by exact N4.out) (HWN.out _).size ?_; intro v6 w6 hown6 hgrow6 hat6)
                have HB6 := Lib.hid (show Below wr.heap.size wr w6 from (HWN.out _).grown hgrow6 (HWN.out _).size (fun q hq => by
                  have e : wr.heap.size = q := by simpa [Value.ownBlock] using hq
                  omega))
                have HO6 := Lib.hid (show w6.ownsRow wr.heap.size 9 1 v6 (xs.length - i) (strs (xs.drop i)) by simpa using hown6)
                clear hown6 hgrow6 hat6
                have hs6 := HB6.out.size
                have hgw := HOI.out.lt g rfl
                have HPRE := Lib.hid (own_pre (own_belowS HOI.out HB6.out) (Nat.le_of_lt hil))
                have HBW6 := Lib.hid (HBW.out.trans (HB6.out.mono HBW.out.size))
                have d6 := (HBW6.out.cell (p := ⟨b, _, none⟩) hbl).trans HC1.out
                have HTL := Lib.hid (show ∀ x, v6.ownBlock = some x → wr.heap.size ≤ x ∧ x < w6.heap.size from fun x hx => HO6.out.lt x hx)
                obtain ⟨a6, c6, rfl⟩ := own_shape HO6.out
                have HN3 := Lib.hid (show namesL (l.take (k + 1)) = xs.take i ++ (s :: xs.drop i) from HNX.out.trans (by unfold insN; rw [if_neg HNI.out, HPL.out]))
                have hci2 : (0 : Int) ≤ (i : Int) := by omega
                go_region_law
                  ((first
                    | (refine step_append_lies _ (by rfl) _ _ _ (by rfl) w.heap.size 9 i0 (.string ByteArray.empty) 1 16 Tryz.underlying50 hi hz0 hz1 hz2 rfl (by decide) (.slice (some ⟨g, 0, none⟩) i c) i ((strs xs).take i) (by rfl) (by first | exact (HPRE.out.alloc _) | exact (HPRE.out.drew.alloc _) | exact (HPRE.out.alloc _).drew) ⟨w6.heap.size, 0, none⟩ 1 1 [.string s] (by rfl) rfl (World.news_of_block (by first | exact heap_alloc_new w6 _ | exact heap_alloc_new w6.drew _)) (by simp [Value.oneCell']) (by omega) (by unfold maxLen; omega) (by omega) (by simp; omega) (w6.heap.size + 1) (by simp) ?_; intro gg cap' w7 hown7 hgrow7 hat7 hlt7)
                    | (refine step_append_rowsN (by rfl) _ _ _ (by rfl) w.heap.size 9 i0 (.string ByteArray.empty) 1 16 Tryz.underlying50 hi hz0 hz1 hz2 rfl (by decide) _ (i + 1) ((strs xs).take i ++ [.string s]) (by rfl) hown7 wr.heap.size _ (xs.length - i) (strs (xs.drop i)) (by rfl) (own_keep HO6.out (fun x hx => by
                        obtain ⟨t1, t2⟩ := HTL.out x hx
                        refine (hgrow7.block x (by simp; omega) (fun e => by simp [Value.ownBlock] at e; omega)).trans ?_
                        first | exact Below.heap_alloc w6 _ _ t2 | exact Below.heap_alloc w6.drew _ _ t2)) (by exact N2.out) (by unfold maxLen; omega) (by omega) (by have := hgrow7.size; simp at this; omega) ?_; intro v9 w9 hown9 hgrow9)))
                all_goals
                  have HB7 := ((HBW6.out.alloc HBW6.out.size (.cells #[.string s] 9)).trans (c := (w6.alloc (.cells #[.string s] 9)).drew) ⟨rfl, rfl, rfl, Nat.le_refl _, fun _ _ => rfl⟩).grown hgrow7 (by simp; omega) (fun q hq => (HPRE.out.lt q hq).1)
                  have HB9 := Lib.hid (HB7.grown hgrow9 HB7.size (fun q hq => (hown7.lt q hq).1))
                  obtain ⟨g9, c9, rfl⟩ : ∃ g9 c9, v9 = .slice (some ⟨g9, 0, none⟩) (i + 1 + (xs.length - i)) c9 := by
                    rcases hown9.2 with ⟨-, h0⟩ | ⟨g9, c9, _, h, _⟩
                    · omega
                    · exact ⟨g9, c9, h⟩
                  have hlen9 : (namesL (l.take (k + 1))).length = i + 1 + (xs.length - i) := by rw [HN3.out]; simp; omega
                  have HO9 := Lib.hid (show w9.ownsRow w.heap.size 9 1 (.slice (some ⟨g9, 0, none⟩) (i + 1 + (xs.length - i)) c9) (namesL (l.take (k + 1))).length (strs (namesL (l.take (k + 1)))) by
                    rw [hlen9, HN3.out, show strs (xs.take i ++ (s :: xs.drop i)) = (strs xs).take i ++ [.string s] ++ strs (xs.drop i) by simp [strs]]
                    exact hown9)
                  have HLN := Lib.hid hlen9
                  clear hown9 hgrow9 hown7 hgrow7 hat7 HB7 hlen9
                  (try go_wp2)
                  go_roundw
                  case rel => exact ⟨k + 1, g9, c9, by omega, by go_num, by rw [HLN.out], HO9.out, HB9.out⟩
                  case measure => simp [intOf]; omega
          · obtain rfl : i = xs.length := by omega
            have HPL := Lib.hid (placeN_is (xs := xs) (s := s) (k := xs.length) (Nat.le_refl _) (fun q hq' => HALL.out q (by omega) hq') (fun h => absurd h (by omega)))
            have hd : decide ((xs.length : Int) < (xs.length : Int)) = false := decide_eq_false (by omega)
            have HNI := Lib.hid (show s ∉ xs from fun hm => by
              have := (place_mem HASC.out s).mp hm
              rw [HPL.out, List.getElem?_eq_none (Nat.le_refl _)] at this
              cases this)
            have hic : (xs.length : Int) ≤ (c : Int) := by have := HCAP.out; omega
            have hix : (xs.length : Int) ≤ (xs.length : Int) := by omega
            have hxc : (xs.length : Int) ≤ (c : Int) := by have := HCAP.out; omega
            by_cases hci : c = xs.length
            · subst hci
              have HLIT := Lib.hid (fun N => (show ((wr.drewN N).alloc (.cells #[] 9)).ownsRow wr.heap.size 9 1 (.slice (some ⟨wr.heap.size, 0, none⟩) 0 0) 0 [] from World.ownsRow_lit (e := 9) (size := 1) (base := wr.heap.size) (wr.drewN N) #[] 0 (Nat.le_refl _) (by unfold maxLen; omega) rfl))
              have HWN := Lib.hid (fun N => (show Below wr.heap.size wr ((wr.drewN N).alloc (.cells #[] 9)) from (show Below wr.heap.size wr (wr.drewN N) from ⟨rfl, rfl, rfl, Nat.le_refl _, fun _ _ => rfl⟩).alloc (Nat.le_refl _) _))
              go_wp2_with fail
              go_quiet (fail)
              go_wp2_with fail
              go_quiet (fail)
              go_wp2_with (at_builtin; refine wpList_append_own _ rfl _ _ 50 rfl wr.heap.size 9 i0 (.string ByteArray.empty) 1 16 Tryz.underlying50 hi hz0 hz1 hz2 rfl (by decide) (.slice (some ⟨wr.heap.size, 0, none⟩) 0 0) 0 [] rfl (HLIT.out _) _ 0 _ [] rfl (by rfl) (by intro j u hj; simp at hj) (by intro u hu; simp at hu) (by unfold maxLen; omega) (by omega) (HWN.out _).size ?_; intro v6 w6 hown6 hgrow6 hat6)
              have HB6 := Lib.hid (show Below wr.heap.size wr w6 from (HWN.out _).grown hgrow6 (HWN.out _).size (fun q hq => by
                have e : wr.heap.size = q := by simpa [Value.ownBlock] using hq
                omega))
              have HO6 := Lib.hid (show w6.ownsRow wr.heap.size 9 1 v6 0 [] by simpa using hown6)
              clear hown6 hgrow6 hat6
              have hs6 := HB6.out.size
              have hgw := HOI.out.lt g rfl
              have HPRE := Lib.hid (own_pre (own_belowS HOI.out HB6.out) (Nat.le_refl _))
              have HBW6 := Lib.hid (HBW.out.trans (HB6.out.mono HBW.out.size))
              have d6 := (HBW6.out.cell (p := ⟨b, _, none⟩) hbl).trans HC1.out
              have HTL := Lib.hid (show ∀ x, v6.ownBlock = some x → wr.heap.size ≤ x ∧ x < w6.heap.size from fun x hx => HO6.out.lt x hx)
              obtain ⟨a6, c6, rfl⟩ := own_shape HO6.out
              have HN3 := Lib.hid (show namesL (l.take (k + 1)) = xs ++ [s] from HNX.out.trans (by unfold insN; rw [if_neg HNI.out, HPL.out]; simp))
              have hci2 : (0 : Int) ≤ (xs.length : Int) := by omega
              go_region_law
                ((first
                  | (refine step_append_lies _ (by rfl) _ _ _ (by rfl) w.heap.size 9 i0 (.string ByteArray.empty) 1 16 Tryz.underlying50 hi hz0 hz1 hz2 rfl (by decide) (.slice (some ⟨g, 0, none⟩) xs.length xs.length) xs.length ((strs xs).take xs.length) (by rfl) (by first | exact (HPRE.out.alloc _) | exact (HPRE.out.drew.alloc _) | exact (HPRE.out.alloc _).drew) ⟨w6.heap.size, 0, none⟩ 1 1 [.string s] (by rfl) rfl (World.news_of_block (by first | exact heap_alloc_new w6 _ | exact heap_alloc_new w6.drew _)) (by simp [Value.oneCell']) (by omega) (by unfold maxLen; omega) (by omega) (by simp; omega) (w6.heap.size + 1) (by simp) ?_; intro gg cap' w7 hown7 hgrow7 hat7 hlt7)
                  | (refine step_append_rowsN (by rfl) _ _ _ (by rfl) w.heap.size 9 i0 (.string ByteArray.empty) 1 16 Tryz.underlying50 hi hz0 hz1 hz2 rfl (by decide) _ (xs.length + 1) ((strs xs).take xs.length ++ [.string s]) (by rfl) hown7 wr.heap.size _ 0 [] (by rfl) (own_keep HO6.out (fun x hx => by
                      obtain ⟨t1, t2⟩ := HTL.out x hx
                      refine (hgrow7.block x (by simp; omega) (fun e => by simp [Value.ownBlock] at e; omega)).trans ?_
                      first | exact Below.heap_alloc w6 _ _ t2 | exact Below.heap_alloc w6.drew _ _ t2)) (by intro u hu; simp at hu) (by unfold maxLen; omega) (by omega) (by have := hgrow7.size; simp at this; omega) ?_; intro v9 w9 hown9 hgrow9)))
              all_goals
                have HB7 := ((HBW6.out.alloc HBW6.out.size (.cells #[.string s] 9)).trans (c := (w6.alloc (.cells #[.string s] 9)).drew) ⟨rfl, rfl, rfl, Nat.le_refl _, fun _ _ => rfl⟩).grown hgrow7 (by simp; omega) (fun q hq => (HPRE.out.lt q hq).1)
                have HB9 := Lib.hid (HB7.grown hgrow9 HB7.size (fun q hq => (hown7.lt q hq).1))
                obtain ⟨g9, c9, rfl⟩ : ∃ g9 c9, v9 = .slice (some ⟨g9, 0, none⟩) (xs.length + 1) c9 := by
                  rcases hown9.2 with ⟨-, h0⟩ | ⟨g9, c9, _, h, _⟩
                  · omega
                  · exact ⟨g9, c9, h⟩
                have hlen9 : (namesL (l.take (k + 1))).length = xs.length + 1 := by rw [HN3.out]; simp
                have HO9 := Lib.hid (show w9.ownsRow w.heap.size 9 1 (.slice (some ⟨g9, 0, none⟩) (xs.length + 1) c9) (namesL (l.take (k + 1))).length (strs (namesL (l.take (k + 1)))) by
                  rw [hlen9, HN3.out, show strs (xs ++ [s]) = (strs xs).take xs.length ++ [.string s] ++ [] by rw [List.take_of_length_le (by rw [strs_length]; exact Nat.le_refl _), strs_append, List.append_nil]; rfl]
                  exact hown9)
                have HLN := Lib.hid hlen9
                clear hown9 hgrow9 hown7 hgrow7 hat7 HB7 hlen9
                (try go_wp2)
                go_roundw
                case rel => exact ⟨k + 1, g9, c9, by omega, by go_num, by rw [HLN.out], HO9.out, HB9.out⟩
                case measure => simp [intOf]; omega
            · skip
              have HLIT := Lib.hid (fun N => (show ((wr.drewN N).alloc (.cells #[] 9)).ownsRow wr.heap.size 9 1 (.slice (some ⟨wr.heap.size, 0, none⟩) 0 0) 0 [] from World.ownsRow_lit (e := 9) (size := 1) (base := wr.heap.size) (wr.drewN N) #[] 0 (Nat.le_refl _) (by unfold maxLen; omega) rfl))
              have HWN := Lib.hid (fun N => (show Below wr.heap.size wr ((wr.drewN N).alloc (.cells #[] 9)) from (show Below wr.heap.size wr (wr.drewN N) from ⟨rfl, rfl, rfl, Nat.le_refl _, fun _ _ => rfl⟩).alloc (Nat.le_refl _) _))
              go_wp2_with fail
              go_quiet (fail)
              go_wp2_with fail
              go_quiet (fail)
              go_wp2_with (at_builtin; refine wpList_append_own _ rfl _ _ 50 rfl wr.heap.size 9 i0 (.string ByteArray.empty) 1 16 Tryz.underlying50 hi hz0 hz1 hz2 rfl (by decide) (.slice (some ⟨wr.heap.size, 0, none⟩) 0 0) 0 [] rfl (HLIT.out _) _ 0 _ [] rfl (by rfl) (by intro j u hj; simp at hj) (by intro u hu; simp at hu) (by unfold maxLen; omega) (by omega) (HWN.out _).size ?_; intro v6 w6 hown6 hgrow6 hat6)
              have HB6 := Lib.hid (show Below wr.heap.size wr w6 from (HWN.out _).grown hgrow6 (HWN.out _).size (fun q hq => by
                have e : wr.heap.size = q := by simpa [Value.ownBlock] using hq
                omega))
              have HO6 := Lib.hid (show w6.ownsRow wr.heap.size 9 1 v6 0 [] by simpa using hown6)
              clear hown6 hgrow6 hat6
              have hs6 := HB6.out.size
              have hgw := HOI.out.lt g rfl
              have HPRE := Lib.hid (own_pre (own_belowS HOI.out HB6.out) (Nat.le_refl _))
              have HBW6 := Lib.hid (HBW.out.trans (HB6.out.mono HBW.out.size))
              have d6 := (HBW6.out.cell (p := ⟨b, _, none⟩) hbl).trans HC1.out
              have HTL := Lib.hid (show ∀ x, v6.ownBlock = some x → wr.heap.size ≤ x ∧ x < w6.heap.size from fun x hx => HO6.out.lt x hx)
              obtain ⟨a6, c6, rfl⟩ := own_shape HO6.out
              have HN3 := Lib.hid (show namesL (l.take (k + 1)) = xs ++ [s] from HNX.out.trans (by unfold insN; rw [if_neg HNI.out, HPL.out]; simp))
              have hci2 : (0 : Int) ≤ (xs.length : Int) := by omega
              go_region_law
                ((first
                  | (refine step_append_lies _ (by rfl) _ _ _ (by rfl) w.heap.size 9 i0 (.string ByteArray.empty) 1 16 Tryz.underlying50 hi hz0 hz1 hz2 rfl (by decide) (.slice (some ⟨g, 0, none⟩) xs.length c) xs.length ((strs xs).take xs.length) (by rfl) (by first | exact (HPRE.out.alloc _) | exact (HPRE.out.drew.alloc _) | exact (HPRE.out.alloc _).drew) ⟨w6.heap.size, 0, none⟩ 1 1 [.string s] (by rfl) rfl (World.news_of_block (by first | exact heap_alloc_new w6 _ | exact heap_alloc_new w6.drew _)) (by simp [Value.oneCell']) (by omega) (by unfold maxLen; omega) (by omega) (by simp; omega) (w6.heap.size + 1) (by simp) ?_; intro gg cap' w7 hown7 hgrow7 hat7 hlt7)
                  | (refine step_append_rowsN (by rfl) _ _ _ (by rfl) w.heap.size 9 i0 (.string ByteArray.empty) 1 16 Tryz.underlying50 hi hz0 hz1 hz2 rfl (by decide) _ (xs.length + 1) ((strs xs).take xs.length ++ [.string s]) (by rfl) hown7 wr.heap.size _ 0 [] (by rfl) (own_keep HO6.out (fun x hx => by
                      obtain ⟨t1, t2⟩ := HTL.out x hx
                      refine (hgrow7.block x (by simp; omega) (fun e => by simp [Value.ownBlock] at e; omega)).trans ?_
                      first | exact Below.heap_alloc w6 _ _ t2 | exact Below.heap_alloc w6.drew _ _ t2)) (by intro u hu; simp at hu) (by unfold maxLen; omega) (by omega) (by have := hgrow7.size; simp at this; omega) ?_; intro v9 w9 hown9 hgrow9)))
              all_goals
                have HB7 := ((HBW6.out.alloc HBW6.out.size (.cells #[.string s] 9)).trans (c := (w6.alloc (.cells #[.string s] 9)).drew) ⟨rfl, rfl, rfl, Nat.le_refl _, fun _ _ => rfl⟩).grown hgrow7 (by simp; omega) (fun q hq => (HPRE.out.lt q hq).1)
                have HB9 := Lib.hid (HB7.grown hgrow9 HB7.size (fun q hq => (hown7.lt q hq).1))
                obtain ⟨g9, c9, rfl⟩ : ∃ g9 c9, v9 = .slice (some ⟨g9, 0, none⟩) (xs.length + 1) c9 := by
                  rcases hown9.2 with ⟨-, h0⟩ | ⟨g9, c9, _, h, _⟩
                  · omega
                  · exact ⟨g9, c9, h⟩
                have hlen9 : (namesL (l.take (k + 1))).length = xs.length + 1 := by rw [HN3.out]; simp
                have HO9 := Lib.hid (show w9.ownsRow w.heap.size 9 1 (.slice (some ⟨g9, 0, none⟩) (xs.length + 1) c9) (namesL (l.take (k + 1))).length (strs (namesL (l.take (k + 1)))) by
                  rw [hlen9, HN3.out, show strs (xs ++ [s]) = (strs xs).take xs.length ++ [.string s] ++ [] by rw [List.take_of_length_le (by rw [strs_length]; exact Nat.le_refl _), strs_append, List.append_nil]; rfl]
                  exact hown9)
                have HLN := Lib.hid hlen9
                clear hown9 hgrow9 hown7 hgrow7 hat7 HB7 hlen9
                (try go_wp2)
                go_roundw
                case rel => exact ⟨k + 1, g9, c9, by omega, by go_num, by rw [HLN.out], HO9.out, HB9.out⟩
                case measure => simp [intOf]; omega
      · have hkb : (kk != 4) = true := bne_iff_ne.mpr h4
        have HN2 := Lib.hid (HNX.out.trans (if_neg h4))
        clear HNX h4
        go_wp2
        go_roundw
        case rel => exact ⟨k + 1, g, c, by omega, by go_num, by rw [HN2.out], by rw [HN2.out]; exact HO1.out, HB1.out⟩
        case measure => simp [intOf]; omega
    · obtain rfl : k = l.length := by omega
      rw [List.take_of_length_le (Nat.le_refl _)] at HO
      rw [List.take_of_length_le (Nat.le_refl _)]
      go_wp2
      go_ret
      exact ⟨_, rfl, HO.out, HB.out⟩

set_option maxRecDepth 100000 in
set_option maxHeartbeats 4000000 in
theorem namesIn_no (v : Value) (l : List Cl) (w : World) (hr : RowC w v l) (hz : ShortC l) (hl : l.length ≤ 1048576) (hok : okE l = false) :
    Calls Tryz.prog 32 #[v] w (NewTexts [] w) := by
  have HEV := Lib.hid (fun w' (hb : Below w.heap.size w w') => by have := exprValid_spec v l w' (hr.mono hb) hz hl; rw [hok] at this; exact this)
  obtain ⟨ao, cap, rfl, h1, h2, h3⟩ := hr
  unfold maxLen at h2
  have HL0 := Lib.hid (show (w.alloc (.cells #[] 9)).ownsRow w.heap.size 9 1 (.slice (some ⟨w.heap.size, 0, none⟩) 0 0) 0 (strs []) from World.ownsRow_lit (e := 9) (size := 1) (base := w.heap.size) w #[] 0 (Nat.le_refl _) (by unfold maxLen; omega) rfl)
  have HB0 := Lib.hid ((Below.refl w.heap.size w).alloc (Nat.le_refl _) (.cells #[] 9))
  clear h3 hz
  go_enter Tryz.func32, Tryz.ntmps32
  go_wp2_with fail
  go_loopw [3, 4] (fun out i wr => i = .int .i64 0 ∧ out = .slice (some ⟨w.heap.size, 0, none⟩) 0 0 ∧ wr = w.alloc (.cells #[] 9)) (fun _ i _ => 0)
  case atStart => exact ⟨rfl, rfl, rfl⟩
  case round =>
    obtain ⟨rfl, rfl, rfl⟩ := hrel
    by_cases hlt : 0 < l.length
    · have bk1 : (0 : Int) < (l.length : Int) := by omega
      go_wp2_with fail
      refine (HEV.out _ HB0.out).mono ?_
      rintro e w1 ⟨rfl, hb1⟩
      have HO1 := Lib.hid (own_belowS HL0.out hb1)
      have HB1 := Lib.hid (HB0.out.trans (hb1.mono HB0.out.size))
      clear hb1
      go_wp2
      go_ret
      exact ⟨_, rfl, HO1.out, HB1.out⟩
    · have bk1 : ¬ (0 : Int) < (l.length : Int) := by omega
      go_wp2
      go_ret
      exact ⟨_, rfl, HL0.out, HB0.out⟩
theorem namesIn_spec (v : Value) (l : List Cl) (w : World) (hr : RowC w v l) (hz : ShortC l) (hl : l.length ≤ 1048576) :
    Calls Tryz.prog 32 #[v] w (NewTexts (namesV l) w) := by
  cases hok : okE l with
  | true => rw [show namesV l = namesL l by unfold namesV; rw [if_pos hok]]; exact namesIn_yes v l w hr hz hl hok
  | false => rw [show namesV l = [] by unfold namesV; rw [if_neg (by rw [hok]; decide)]]; exact namesIn_no v l w hr hz hl hok

end Go.Proofs.YtpcaciogglllbaaGreatDoor
