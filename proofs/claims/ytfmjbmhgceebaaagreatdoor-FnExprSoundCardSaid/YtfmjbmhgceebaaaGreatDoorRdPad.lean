/-
  Texts with spaces around them, between parentheses, between brackets are read alike; where both ways of reading accept: plainly.
-/
import Derived.Test.YtfmjbmhgceebaaaGreatDoorBaseF
import Derived.Test.YtfmjbmhgceebaaaGreatDoorTextRead
import Derived.Test.YtfmjbmhgceebaaaGreatDoorBaseQ
import Derived.Test.YtfmjbmhgceebaaaGreatDoorBaseW
namespace Go.Proofs.YtfmjbmhgceebaaaGreatDoor
set_option linter.unusedVariables false

/-- Where few signs nest, both accept the same. -/
theorem sp_iff {s : ByteArray} (h : nbB s ≤ 40) (c : List Cl) : SpOK s c ↔ RdOK s c := by
  constructor
  · rintro ⟨h1, h2⟩
    exact ⟨levels_read (Nat.le_trans (rdTk_nest s) h) h1, h2⟩
  · rintro ⟨⟨n, h1, h3⟩, h2⟩
    exact ⟨read_levels h1 h3, h2⟩
theorem sp_of {s : ByteArray} {c : List Cl} (h : RdOK s c) : SpOK s c := by
  obtain ⟨⟨n, h1, h3⟩, h2⟩ := h
  exact ⟨read_levels h1 h3, h2⟩

/-- Spaces around a text. -/
theorem end_pad (l : List UInt8) (h : resB (0, 0, []) 0 l = true) : resB (0, 0, []) 0 (32 :: 32 :: (l ++ [32])) = true ∧ resL (0, 0, []) 0 (32 :: 32 :: (l ++ [32])) = (resL (0, 0, []) 0 l).map (shT 2) := by
  have h0 : (endM (0, 0, []) 0 l).1 = 0 := by simpa [resB] using h
  have e1 := end_both l [] 32 (by decide) h0
  have e2 : endM (0, 0, []) 0 (32 :: 32 :: (l ++ [32])) = shM 2 [] (endM (0, 0, []) 0 (l ++ [32])) := by
    rw [end_space _ _ _ _ _ (by decide), end_space _ _ _ _ _ (by decide), end_from]
    have := end_sh 2 [] (l ++ [32]) (0, 0, []) 0
    simpa [shM] using this
  have e3 : endM (0, 0, []) 0 ([] : List UInt8) = (0, 0, []) := by
    unfold endM; rw [runM, step_zero, first_space]; simp
  rw [e3] at e1
  have h2 : resB (0, 0, []) 0 (32 :: 32 :: (l ++ [32])) = true := by
    rw [resB, e2, e1]; simp [shM]
  refine ⟨h2, ?_⟩
  rw [resL, if_pos h2, e2, e1, resL, if_pos h]
  simp [shM]
theorem pad_toks {s : ByteArray} (hs : s.size ≤ 19000) (h : okT s = true) : rdTk ((⟨#[32, 32]⟩ ++ s) ++ ⟨#[32]⟩) = rdTk s := by
  have hl : ((⟨#[32, 32]⟩ ++ s) ++ ⟨#[32]⟩ : ByteArray).data.toList = 32 :: 32 :: (s.data.toList ++ [32]) := by
    simp [ByteArray.data_append]
  have hsz : ((⟨#[32, 32]⟩ ++ s) ++ ⟨#[32]⟩ : ByteArray).size = s.size + 3 := by
    simp only [ByteArray.size_append]
    have e1 : (⟨#[32, 32]⟩ : ByteArray).size = 2 := rfl
    have e2 : (⟨#[32]⟩ : ByteArray).size = 1 := rfl
    omega
  simp only [okT, Bool.and_eq_true, decide_eq_true_eq] at h
  obtain ⟨⟨h20, hp⟩, hr⟩ := h
  obtain ⟨p1, p2⟩ := end_pad s.data.toList hr
  have hok : okT ((⟨#[32, 32]⟩ ++ s) ++ ⟨#[32]⟩) = true := by
    rw [okT, hl, p1, hsz]
    simp only [Bool.and_eq_true, decide_eq_true_eq, Bool.and_true]
    refine ⟨by omega, ?_⟩
    rw [plain_cons, plain_cons, plain_app, hp]; decide
  have hokS : okT s = true := by rw [okT, hr]; simp [h20, hp]
  have htk : toksT ((⟨#[32, 32]⟩ ++ s) ++ ⟨#[32]⟩) = (toksT s).map (shT 2) := by
    rw [toksT, if_pos hok, hl, p2, toksT, if_pos hokS]
  have hin := (toks_facts s).2.1
  rw [rdTk, rdTk, htk, List.map_map]
  apply List.map_congr_left
  intro x hx
  obtain ⟨q1, q2⟩ := hin x hx
  simp only [Function.comp, shT]
  congr 1
  apply ba_eq
  rw [ByteArray.data_extract, ByteArray.data_extract, Array.toList_extract, Array.toList_extract, List.extract_eq_take_drop, List.extract_eq_take_drop, hl, show x.2.2 + 2 - (x.2.1 + 2) = x.2.2 - x.2.1 by omega]
  rw [List.drop_succ_cons, List.drop_succ_cons, List.drop_append_of_le_length (by rw [size_list]; omega), List.take_append_of_le_length (by rw [List.length_drop, size_list]; omega)]
theorem RdOK.okT {s : ByteArray} {c : List Cl} (h : RdOK s c) : okT s = true := by
  cases hk : Go.Proofs.YtfmjbmhgceebaaaGreatDoor.okT s with
  | true => rfl
  | false => exact absurd (sp_of h) (sp_none (by rw [toksT, hk]; rfl) c)
theorem pad_reads {s : ByteArray} (hs : s.size ≤ 19000) {c : List Cl} (h : RdOK s c) : RdOK ((⟨#[32, 32]⟩ ++ s) ++ ⟨#[32]⟩) c := by
  have e := pad_toks hs h.okT
  obtain ⟨h1, h2⟩ := h
  exact ⟨by rw [e]; exact h1, h2⟩
/-- The text of an expression between parentheses. -/
theorem paren_reads {l : List Cl} (hok : okE l = true) : RdOK ((⟨#[40]⟩ ++ ⟨(textE l).toArray⟩) ++ ⟨#[41]⟩) l := by
  have hlen := textE_len l
  obtain ⟨x, gx, tx, cx, dx⟩ := pz_of hok
  have he : ((⟨#[40]⟩ ++ ⟨(textE l).toArray⟩) ++ ⟨#[41]⟩ : ByteArray) = ⟨(40 :: (x.tx ++ [41]) : List UInt8).toArray⟩ := by
    apply ba_eq
    simp [ByteArray.data_append, tx]
  rw [he]
  rw [← tx] at hlen
  have hlex : Lex (40 :: (x.tx ++ [41])) ((4, [40]) :: (x.tk ++ [(4, [41])])) := lex_hard (by decide) (gx.lex.app (lex_hard1 (by decide)) (by simp) rfl)
  have hpl : plainL (40 :: (x.tx ++ [41])) = true := by rw [plain_cons, plain_app, gx.plain]; decide
  have hl2 := lex_at hlex hpl (by simp only [List.length_cons, List.length_append, List.length_nil]; omega)
  refine ⟨?_, hok⟩
  generalize rdTk ⟨(40 :: (x.tx ++ [41]) : List UInt8).toArray⟩ = tk at hl2 ⊢
  obtain ⟨hat, hl3⟩ := hl2
  have h0 := hat.head
  have h1 := hat.tail
  have t2 := h1.right.head
  have hq : tk.length = 0 + 1 + x.tk.length + 1 := by rw [hl3]; simp; omega
  have hend := end_isT tk (q := 0 + 1 + x.tk.length + 1) (by omega)
  obtain ⟨na, hna, ra⟩ := gx.chc tk (0 + 1) h1.left (by rw [head_isT t2]; decide) (by rw [head_rk t2]; exact lb_rank.2.1) (by rw [head_isT t2]; decide)
  have pa : Rg tk .single 0 x.cl (0 + 1 + x.tk.length + 1) 0 (na + 1) := .paren (by rw [head_isT h0]; decide) ra (by rw [head_isT t2]; decide)
  have ua : unaryT tk 0 = false := by rw [unaryT, head_isT h0, head_isT h0]; decide
  have dx1 := gx.dp
  rw [← cx, hq]
  exact ⟨na + 1, .one (.bin (.plain ua pa) (.stop (by rw [(hend []).2]; decide))) (hend [63]).1, by omega⟩
/-- The text of an expression between brackets: a list with one part. -/
theorem brk_reads {l : List Cl} (hok : okE l = true) (hroom : okE ((5, ⟨#[]⟩, 1) :: l) = true) : RdOK ((⟨#[91]⟩ ++ ⟨(textE l).toArray⟩) ++ ⟨#[93]⟩) ((5, ⟨#[]⟩, 1) :: l) := by
  have hlen := textE_len l
  obtain ⟨x, gx, tx, cx, dx⟩ := pz_of hok
  have he : ((⟨#[91]⟩ ++ ⟨(textE l).toArray⟩) ++ ⟨#[93]⟩ : ByteArray) = ⟨(91 :: (x.tx ++ [93]) : List UInt8).toArray⟩ := by
    apply ba_eq
    simp [ByteArray.data_append, tx]
  rw [he]
  rw [← tx] at hlen
  have hlex : Lex (91 :: (x.tx ++ [93])) ((4, [91]) :: (x.tk ++ [(4, [93])])) := lex_hard (by decide) (gx.lex.app (lex_hard1 (by decide)) (by simp) rfl)
  have hpl : plainL (91 :: (x.tx ++ [93])) = true := by rw [plain_cons, plain_app, gx.plain]; decide
  have hl2 := lex_at hlex hpl (by simp only [List.length_cons, List.length_append, List.length_nil]; omega)
  refine ⟨?_, hroom⟩
  generalize rdTk ⟨(91 :: (x.tx ++ [93]) : List UInt8).toArray⟩ = tk at hl2 ⊢
  obtain ⟨hat, hl3⟩ := hl2
  have h0 := hat.head
  have h1 := hat.tail
  have t2 := h1.right.head
  have hq : tk.length = 0 + 1 + x.tk.length + 1 := by rw [hl3]; simp; omega
  have hend := end_isT tk (q := 0 + 1 + x.tk.length + 1) (by omega)
  obtain ⟨na, hna, ra⟩ := gx.chc tk (0 + 1) h1.left (by rw [head_isT t2]; decide) (by rw [head_rk t2]; decide) (by rw [head_isT t2]; decide)
  have hfirst : isT tk (0 + 1) [93] = false := by
    obtain ⟨k, w, r, hk, hw⟩ := gx.headK
    have h2 := h1.left
    rw [hk] at h2
    have h3 := h2.head
    by_cases hk4 : k = 4
    · subst hk4
      rw [head_isT h3]
      rcases hw rfl with rfl | rfl | rfl | rfl <;> decide
    · exact (head_other h3 hk4).1
  have pa : Rg tk .single 0 ((5, ⟨#[]⟩, ((1 : Nat) : Int)) :: x.cl) (0 + 1 + x.tk.length + 1) 0 (max 0 na + 1) :=
    .list (by rw [head_isT h0]; decide) (.part hfirst (fun _ => rfl) (fun h => absurd rfl h) ra (.close (by rw [head_isT t2]; decide)))
  have ua : unaryT tk 0 = false := by rw [unaryT, head_isT h0, head_isT h0]; decide
  have dx1 := gx.dp
  rw [← cx, hq]
  exact ⟨max 0 na + 1, .one (.bin (.plain ua pa) (.stop (by rw [(hend []).2]; decide))) (hend [63]).1, by omega⟩

end Go.Proofs.YtfmjbmhgceebaaaGreatDoor
