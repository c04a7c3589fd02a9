/-
  DotNumbers of the program (CDot has both packages'; import one or the other).
-/
import Derived.Test.YtopgegciejmhaaaCPos
namespace Go.Proofs.Ytopgegciejmhaaa
open Ieee Go.RowKit
set_option linter.unusedVariables false

def dotOk (l l' : Nat) : Bool := decide (l ≤ 256) && decide (l = l')
def dotV (zs ys : List Nat) (l l' : Nat) : Nat := if dotOk l l' then dotTo zs ys l else 0
theorem dotOk_yes {l l' : Nat} (h1 : l ≤ 256) (h2 : l = l') : dotOk l l' = true := by unfold dotOk; rw [decide_eq_true h1, decide_eq_true h2]; rfl
theorem dotOk_long {l l' : Nat} (h1 : ¬ l ≤ 256) : dotOk l l' = false := by unfold dotOk; rw [decide_eq_false h1]; rfl
theorem dotOk_other {l l' : Nat} (h1 : ¬ l = l') : dotOk l l' = false := by unfold dotOk; rw [decide_eq_false h1, Bool.and_false]
theorem implDotNumbers_any (a a' : Option Addr) (len len' cap cap' : Nat) (zs ys : List Nat) (w : World) (h : FSl w a len zs) (h' : FSl w a' len' ys) (hm : len ≤ 1048576) (hm' : len' ≤ 1048576) :
    Calls Try.prog 70 #[.slice a len cap, .slice a' len' cap'] w (RetFB .f32 (dotV zs ys len len') (dotOk len len') w) := by
  have H := Lib.hid h
  have H' := Lib.hid h'
  clear h h'
  unfold dotV
  by_cases he : len = len'
  · have hne : ((len : Int) != (len' : Int)) = false := by rw [bne_eq_false_iff_eq]; omega
    by_cases hl : len ≤ 256
    · rw [dotOk_yes hl he, if_pos rfl]
      subst he
      have hd : decide ((256 : Int) < (len : Int)) = false := decide_eq_false (by omega)
      go_enter Try.func70, Try.ntmps70
      go_wp2
      go_loopw [6, 7, 8, 21] (fun s _ _ i wr => ∃ k n r : Nat, k ≤ len ∧ i = .int .i64 k ∧ s = .float .f32 r ∧ wr = w.drewN n ∧ Hid (cn .f32 r = dotTo zs ys k)) (fun _ _ _ i _ => len - (intOf i).toNat)
      case atStart => exact ⟨0, 0, 0, Nat.zero_le _, rfl, rfl, rfl, Lib.hid cn_zero⟩
      case round =>
        obtain ⟨k, n, r, hk, rfl, rfl, rfl, hr⟩ := hrel
        by_cases hlt : k < len
        · obtain ⟨b, off, rfl, hb, hc⟩ := H.out.at (by omega)
          obtain ⟨b', off', rfl, hb', hc'⟩ := H'.out.at (by omega)
          have hck := hc k hlt
          have hck' := hc' k hlt
          have hstep := Lib.hid (fun w1 w2 => dot_step hr.out rfl rfl w1 w2)
          generalize zs.getD k 0 = z at *
          generalize ys.getD k 0 = y at *
          clear hc hc' hb hb' H H' hr
          go_wp2
          go_roundw
          case rel => exact ⟨k + 1, _, _, by omega, by go_num, rfl, rfl, Lib.hid (hstep.out _ _)⟩
          case measure => simp [intOf]; omega
        · have e : k = len := by omega
          subst e
          clear H H'
          go_wp2
          go_ret2
          exact ⟨r, n, hr.out, rfl, rfl⟩
    · rw [dotOk_long hl, if_neg (by simp)]
      have hd : decide ((256 : Int) < (len : Int)) = true := decide_eq_true (by omega)
      clear H H' he
      go_enter Try.func70, Try.ntmps70
      go_wp2
      go_ret2
      exact ⟨0, 0, cn_zero, rfl, rfl⟩
  · rw [dotOk_other he, if_neg (by simp)]
    have hne : ((len : Int) != (len' : Int)) = true := by rw [bne_iff_ne]; omega
    clear H H' he
    go_enter Try.func70, Try.ntmps70
    go_wp2
    go_ret2
    exact ⟨0, 0, cn_zero, rfl, rfl⟩
end Go.Proofs.Ytopgegciejmhaaa
