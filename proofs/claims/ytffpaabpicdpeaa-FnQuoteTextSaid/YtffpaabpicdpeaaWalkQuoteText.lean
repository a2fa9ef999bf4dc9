/-
  The walk of laws.FnQuoteText.
-/
import Derived.Test.YtffpaabpicdpeaaQuoteSpec
import Derived.Test.YtffpaabpicdpeaaUnqImpl
import Derived.Test.YtffpaabpicdpeaaTokQuote
import Derived.Test.YtffpaabpicdpeaaRows2
import Derived.Test.YtffpaabpicdpeaaAlive
import Derived.Test.YtffpaabpicdpeaaDrawQuoteText
namespace Go.Proofs.Ytffpaabpicdpeaa
open Go.RowKit
set_option linter.unusedVariables false

theorem tok_row {w : World} {base : Nat} {v : Value} {k : Int} {f t : Nat} (h : w.ownsRow base 33 3 v 1 (flatT [(k, f, t)])) : ∃ g cap, v = .slice (some ⟨g, 0, none⟩) 1 cap ∧ w.cell? ⟨g, 0, none⟩ = some (.int .i64 k) ∧ 1 ≤ cap ∧ cap ≤ maxLen := by
  rcases h.2 with ⟨_, h0⟩ | ⟨g, cap, cur, rfl, _, _, hc, hm, _⟩
  · omega
  · exact ⟨g, cap, rfl, by rw [h.cellAt 0 (by omega)]; rfl, hc, hm⟩
theorem quoteT_size (s : ByteArray) : (quoteT s).size ≤ 2 * s.size + 2 := by
  unfold quoteT
  split
  · have h2 := (quoteI_len s.data.toList).2
    rw [size_list] at h2
    show (quoteL s.data.toList).toArray.size ≤ _
    simp [quoteL]; omega
  · exact Nat.zero_le _

set_option maxRecDepth 100000 in
set_option maxHeartbeats 4000000 in
theorem fnQuoteText_core (a0 : Option Addr) (len0 cap0 : Nat) (w : World) (hrow : CodeRow w a0 len0 cap0) :
    Calls Try.prog 3 #[.slice a0 len0 cap0] w fun e w' => e = .returned (.bool true) ∧ Below w.heap.size w w' := by
  have hcap := hrow.1; have hmx := hrow.2.1
  unfold maxLen at hmx
  by_cases hl : len0 ≤ 1048576
  · go_enter Try.func3, Try.ntmps3
    go_wp2_with fail
    refine (drawQuoteText_any a0 len0 cap0 _ hrow).mono ?_
    rintro e w1 ⟨s, rfl, hs, hb⟩
    have HB := Lib.hid hb
    clear hb hrow
    have HM := Lib.hid (show s.size ≤ maxLen by unfold maxLen; omega)
    have hqz := quoteT_size s
    have cu := fun w' => unquoteText_impl (quoteT s) w' (by unfold maxLen; omega)
    have ct := fun w' => tokensOf_impl (quoteT s) w' (by unfold maxLen; omega)
    have hU := fun h => quote_unq (s := s) h
    have hT := fun h => tok_quoteT (s := s) h (by omega)
    have hN := fun h => quoteT_none (s := s) h
    have ci := fun w' => quoteText_impl s w' HM.out
    have cs := fun w' => quoteText_spec s w' HM.out
    generalize unqT (quoteT s) = U at cu hU
    generalize unqOK (quoteT s) = UO at cu hU
    generalize okT (quoteT s) = TO at ct hT
    generalize toksT (quoteT s) = TS at ct hT
    generalize quoteT s = q at *
    have CU := Lib.hid cu; have CT := Lib.hid ct; have HU := Lib.hid hU; have HT := Lib.hid hT; have HN := Lib.hid hN; have CI := Lib.hid ci; have CS := Lib.hid cs
    clear cu ct hU hT hN ci cs
    go_wp2_with fail
    refine (CI.out _).mono ?_
    rintro e w2 ⟨rfl, hb2⟩
    have HB2 := Lib.hid (HB.out.trans (hb2.mono HB.out.size))
    clear hb2
    go_wp2_with fail
    refine (CS.out _).mono ?_
    rintro e w' ⟨rfl, rfl⟩
    go_wp2_with fail
    refine (textValid_spec s _ HM.out).mono ?_
    rintro e w' ⟨rfl, rfl⟩
    cases ht : textB s with
    | false =>
      have h1 := HN.out ht
      subst h1
      clear ht
      go_wp2_with fail
      refine (alive_any _).mono ?_
      rintro e w' ⟨rfl, rfl⟩
      go_wp2
      go_ret
      exact ⟨rfl, HB2.out⟩
    | true =>
      obtain ⟨h1, h2⟩ := HU.out ht
      obtain ⟨h3, h4⟩ := HT.out ht
      subst h1 h2 h3 h4
      clear ht
      go_wp2_with fail
      refine (CU.out _).mono ?_
      rintro e w3 ⟨rfl, hb3⟩
      have HB3 := Lib.hid (HB2.out.trans (hb3.mono HB2.out.size))
      clear hb3
      go_wp2_with fail
      refine (CT.out _).mono ?_
      rintro e w4 ⟨v4, rfl, hown4, hb4⟩
      have HB4 := Lib.hid (HB3.out.trans (hb4.mono HB3.out.size))
      clear hb4
      obtain ⟨g, cap, rfl, hcell, hc1, hc2⟩ := tok_row hown4
      unfold maxLen at hc2
      clear hown4
      go_wp2
      go_ret
      exact ⟨rfl, HB4.out⟩
  · go_enter Try.func3, Try.ntmps3
    go_wp2
    go_ret
    exact ⟨rfl, Below.refl _ _⟩

end Go.Proofs.Ytffpaabpicdpeaa
