/-
  impl.WrapGreedy, by its contract.
-/
import Derived.Test.YtbddokfcohnndaaWrapI
import Derived.Test.YtbddokfcohnndaaWrapFI
import Derived.Test.YtbddokfcohnndaaInts
import Derived.Test.YtbddokfcohnndaaOwnK
namespace Go.Proofs.Ytbddokfcohnndaa
open Go.RowKit
set_option linter.unusedVariables false

/-- How long a slice is. -/
def lenV : Value → Nat
  | .slice _ n _ => n
  | _ => 0
/-- The greedy lines. -/
def glB (L : List ByteArray) (x : Int) : List Nat := if fitB L x then gl x (szW L) else []

set_option maxRecDepth 100000 in
set_option maxHeartbeats 4000000 in
theorem wrapGreedy_impl (v : Value) (L : List ByteArray) (x : Int) (w : World) (h : RowOf w v (strs L)) (hz : Sized L) :
    Calls Try.prog 22 #[v, .int .i64 x] w (NewInts (glB L x) w) := by
  obtain ⟨i0, hi, hz0, hz1, hz2⟩ := info_parts infoI
  have HC := Lib.hid (wordsFit_impl v L x w h hz)
  have HR := Lib.hid h
  obtain ⟨ao, cap, rfl, h1, h2, h3⟩ := h
  simp only [strs_length] at h1 HC HR ⊢
  unfold maxLen at h2
  clear h3 hz
  cases hf : fitB L x with
  | false =>
    have HD := Lib.hid (show glB L x = [] by rw [glB, hf]; rfl)
    rw [hf] at HC
    clear hf
    go_enter Try.func22, Try.ntmps22
    go_wp2_with fail
    refine HC.out.mono ?_
    rintro e w' ⟨rfl, rfl⟩
    go_wp2
    go_ret
    exact ⟨_, rfl, by rw [HD.out]; exact World.ownsRow_nil _ _ _ _, Below.refl _ _⟩
  | true =>
    have HD := Lib.hid (show glB L x = gl x (szW L) by rw [glB, hf]; rfl)
    rw [hf] at HC
    have hl := fit_len hf
    have HZ := Lib.hid (show ∀ s ∈ L, s.size ≤ 40 from fun s hs => by obtain ⟨k, hk, rfl⟩ := List.mem_iff_getElem.mp hs; exact (fit_sz hf hk).2)
    obtain ⟨n, rfl, hn1, hn40, hfs⟩ := fit_S hf
    have HFS := Lib.hid hfs
    clear hf hfs
    go_enter Try.func22, Try.ntmps22
    go_wp2_with fail
    refine HC.out.mono ?_
    rintro e w' ⟨rfl, rfl⟩
    go_wp2_with fail
    go_loopw [5, 6, 7] (fun a r _ wr => ∃ (p : Nat) (ls : List Nat), p ≤ L.length ∧ ls.length ≤ p ∧ (∃ ao cap, r = .slice ao (L.length - p) cap) ∧ RowOf w r (strs (L.drop p)) ∧ wr.ownsRow w.heap.size 3 1 a ls.length (ints ls) ∧ Below w.heap.size w wr ∧ gl n (szW L) = ls ++ gl n ((szW L).drop p)) (fun _ r _ _ => lenV r)
    case atStart => exact ⟨0, [], Nat.zero_le _, Nat.le_refl _, ⟨_, _, rfl⟩, HR.out, World.ownsRow_nil _ _ _ _, Below.refl _ _, rfl⟩
    case round =>
      obtain ⟨p, ls, hp, hlp, ⟨ar, cr, rfl⟩, hr, hown, hb, he⟩ := hrel
      obtain ⟨aa, ac, rfl⟩ := own_shape hown
      have HOW := Lib.hid hown; have HB := Lib.hid hb; have HRR := Lib.hid hr; have HE := Lib.hid he
      have hlpp : (strs (L.drop p)).length = L.length - p := by rw [strs_length, List.length_drop]
      obtain ⟨ar', cr', hv, q1, q2, q3⟩ := hr
      injection hv with e1 e2 e3
      subst e1 e3
      rw [hlpp] at q1
      unfold maxLen at q2
      have Q3 := Lib.hid q3
      clear hown hb he q3 e2
      by_cases hlt : p < L.length
      · have hg : ((L.length - p : Nat) : Int) > 0 := by omega
        obtain ⟨b2, o2, rfl, hb2, -⟩ := Q3.out.resolve_left (by intro h; have h' := congrArg List.length h; rw [hlpp] at h'; simp only [List.length_nil] at h'; omega)
        have hne : (szW L).drop p ≠ [] := by intro h; have := congrArg List.length h; rw [List.length_drop, szW_len, List.length_nil] at this; omega
        have HFU := Lib.hid (fullLine_any _ cr (L.drop p) n wr (by rw [List.length_drop]; exact HRR.out.mono HB.out) (fun s hs => HZ.out s (List.mem_of_mem_drop hs)) (by rw [List.length_drop]; omega))
        rw [List.length_drop, szW_drop] at HFU
        have hfl : fuA n ((szW L).drop p) ≤ L.length - p := by have := fu_le n ((szW L).drop p); rwa [List.length_drop, szW_len] at this
        have hf1 := (HFS.out.drop p).pos hne
        have HNE := Lib.hid (show gl n (szW L) = (ls ++ [fuA n ((szW L).drop p)]) ++ gl n ((szW L).drop (p + fuA n ((szW L).drop p))) by
          rw [HE.out, gl_cons (HFS.out.drop p) hne, List.drop_drop, List.append_assoc]; rfl)
        generalize fuA n ((szW L).drop p) = f at HFU hfl hf1 HNE
        have HBK := Lib.hid (RowOf.rest (k := f) hlpp HRR.out (by omega))
        clear hne HE
        go_wp2_with fail
        refine HFU.out.mono ?_
        rintro e w' ⟨rfl, rfl⟩
        go_wp2_with (at_builtin; refine wpList_append_own _ rfl _ _ 27 rfl w.heap.size 3 i0 (.int .i64 0) 1 8 Try.underlying27 hi hz0 hz1 hz2 rfl (by decide) _ _ _ rfl (HOW.out.alloc _) ⟨wr.heap.size, 0, none⟩ 1 1 [.int .i64 (f : Int)] rfl rfl (World.news_of_block (cs := #[.int .i64 (f : Int)]) (t := 3) (fr := (0, 0)) (heap_alloc_new wr _)) (by simp [Value.oneCell']) (by unfold maxLen; omega) (by omega) (by simp; exact Nat.le_succ_of_le HB.out.size) ?_; intro v' w2 hown' hgrow hnil; have HB2 := Lib.hid ((HB.out.alloc HB.out.size _).grown hgrow (by have := HB.out.size; simp; omega) (fun q hq => (HOW.out.lt q hq).1)); have HO2 := Lib.hid hown'; clear hown' hgrow hnil)
        go_roundw
        case rel =>
          refine ⟨p + f, ls ++ [f], by omega, by rw [List.length_append]; simp; omega, ⟨_, _, by rw [Nat.sub_add_eq]⟩, ?_, ?_, HB2.out, HNE.out⟩
          · rw [← List.drop_drop, strs_drop]; exact HBK.out
          · rw [List.length_append, ints_snoc]; exact HO2.out
        case measure => simp only [lenV]; omega
      · have hg : ¬ ((L.length - p : Nat) : Int) > 0 := by omega
        have HG := Lib.hid (show gl n (szW L) = ls by rw [HE.out, List.drop_eq_nil_of_le (by rw [szW_len]; omega), gl_nil, List.append_nil])
        go_wp2
        go_ret
        exact ⟨_, rfl, by rw [HD.out, HG.out]; exact HOW.out, HB.out⟩

end Go.Proofs.Ytbddokfcohnndaa
