/-
  The walk of laws.FnUnquoteText.
-/
import Derived.Test.YtffpaabpicdpeaaUnqSpec
import Derived.Test.YtffpaabpicdpeaaUnqImpl
import Derived.Test.YtffpaabpicdpeaaAlive
import Derived.Test.YtffpaabpicdpeaaDrawUnquoteText
namespace Go.Proofs.Ytffpaabpicdpeaa
open Go.RowKit
set_option linter.unusedVariables false

set_option maxRecDepth 100000 in
set_option maxHeartbeats 4000000 in
theorem fnUnquoteText_core (a0 : Option Addr) (len0 cap0 : Nat) (w : World) (hrow : CodeRow w a0 len0 cap0) :
    Calls Try.prog 4 #[.slice a0 len0 cap0] w fun e w' => e = .returned (.bool true) ∧ Below w.heap.size w w' := by
  have hcap := hrow.1; have hmx := hrow.2.1
  unfold maxLen at hmx
  by_cases hl : len0 ≤ 1048576
  · go_enter Try.func4, Try.ntmps4
    go_wp2_with fail
    refine (drawUnquoteText_any a0 len0 cap0 _ hrow).mono ?_
    rintro e w1 ⟨q, rfl, hs, hb⟩
    have HB := Lib.hid hb
    clear hb hrow
    have HM := Lib.hid (show q.size ≤ maxLen by unfold maxLen; omega)
    have ci := fun w' => unquoteText_impl q w' HM.out
    have cs := fun w' => unquoteText_spec q w' HM.out
    have hy := fun h => unq_quote (s := q) h
    have hn := fun h => unq_no (s := q) h
    have cq := fun (h : (unqT q).size ≤ maxLen) w' => quoteText_impl (unqT q) w' h
    have ct := fun (h : (unqT q).size ≤ maxLen) w' => textValid_impl (unqT q) w' h
    generalize unqT q = x at *
    generalize unqOK q = ok at *
    have CI := Lib.hid ci; have CS := Lib.hid cs; have HY := Lib.hid hy; have HN := Lib.hid hn; have CQ := Lib.hid cq; have CT := Lib.hid ct
    clear ci cs hy hn cq ct
    go_wp2_with fail
    refine (CI.out _).mono ?_
    rintro e w2 ⟨rfl, hb2⟩
    have HB2 := Lib.hid (HB.out.trans (hb2.mono HB.out.size))
    clear hb2
    go_wp2_with fail
    refine (CS.out _).mono ?_
    rintro e w' ⟨rfl, rfl⟩
    cases ok with
    | false =>
      have h1 := HN.out rfl
      subst h1
      go_wp2_with fail
      refine (alive_any _).mono ?_
      rintro e w' ⟨rfl, rfl⟩
      go_wp2
      go_ret
      exact ⟨rfl, HB2.out⟩
    | true =>
      obtain ⟨h1, h2⟩ := HY.out rfl
      have HX := Lib.hid (show x.size ≤ maxLen by have := textB_sz h1; unfold maxLen; omega)
      have CQ2 := Lib.hid (CQ.out HX.out); have CT2 := Lib.hid (CT.out HX.out)
      rw [h2] at CQ2
      rw [h1] at CT2
      clear h1 h2
      go_wp2_with fail
      refine (CQ2.out _).mono ?_
      rintro e w3 ⟨rfl, hb3⟩
      have HB3 := Lib.hid (HB2.out.trans (hb3.mono HB2.out.size))
      clear hb3
      go_wp2_with fail
      refine (CT2.out _).mono ?_
      rintro e w' ⟨rfl, rfl⟩
      go_wp2
      go_ret
      exact ⟨rfl, HB3.out⟩
  · go_enter Try.func4, Try.ntmps4
    go_wp2
    go_ret
    exact ⟨rfl, Below.refl _ _⟩

end Go.Proofs.Ytffpaabpicdpeaa
