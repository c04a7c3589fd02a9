import Derived.Test.YtlcdbfijjjobjaaCWee
namespace Go.Proofs.Ytlcdbfijjjobjaa.fnExactWeekOf
open Go.RowKit
set_option linter.unusedVariables false
theorem walk (a0 : Int) (w : World) (w0 : (Lit.int .i64 a0).wf = true) :
    Calls Try.prog 8 #[.int .i64 a0] w fun e w' => e = .returned (.bool true) ∧ Below w.heap.size w w' := by
  clear w0
  cases hd : weekB a0
  · have H := Lib.hid hd
    clear hd
    go_enter Try.func8, Try.ntmps8
    go_wp2_with (first | (go_at_call 25; refine (specWeek_no _ _ H.out).mono ?_; unfold WeekE; rintro e w' ⟨rfl, rfl⟩) | (go_at_call 26; refine (implWeek_no _ _ H.out).mono ?_; unfold WeekE; rintro e w' ⟨rfl, rfl⟩))
    go_ret
    exact ⟨rfl, Below.refl _ _⟩
  · have H := Lib.hid hd
    clear hd
    go_enter Try.func8, Try.ntmps8
    go_wp2_with fail
    refine (specWeek_yes _ _ H.out).mono ?_
    unfold Weeked WeekE
    rintro e w1 ⟨y, m, d, rfl, hok, hn, hb1⟩
    have H1 := Lib.hid hok
    have H2 := Lib.hid hn
    clear hok hn
    go_wp2_with fail
    refine (implWeek_yes _ _ H.out).mono ?_
    unfold Weeked WeekE
    rintro e w2 ⟨y', m', d', rfl, hok, hn, hb2⟩
    obtain ⟨rfl, rfl, rfl⟩ := numZ_inj H1.out hok (H2.out.trans hn.symm)
    clear hok hn
    go_wp2
    go_ret
    exact ⟨rfl, hb1.trans (hb2.mono hb1.size)⟩
end Go.Proofs.Ytlcdbfijjjobjaa.fnExactWeekOf
