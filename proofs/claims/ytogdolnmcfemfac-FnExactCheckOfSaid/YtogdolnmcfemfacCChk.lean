/-
  CheckOf: both fold the bytes in the same way.
-/
import Derived.Test.YtogdolnmcfemfacChecked
import Derived.WalkKit
import Derived.WalkLawsBesides
import Derived.WalkSpells
import Derived.Lib.Hide
import Derived.Below
namespace Go.Proofs.Ytogdolnmcfemfac
open Go.RowKit
set_option linter.unusedVariables false

def chkB (n b : Nat) : Nat := (941 * n + b + 199) % 65003
def chk (n : Nat) (l : List UInt8) : Nat := l.foldl (fun n b => chkB n b.toNat) n
theorem chkB_lt (n b : Nat) : chkB n b < 65003 := Nat.mod_lt _ (by omega)
theorem chk_lt (n : Nat) (l : List UInt8) (h : n < 65003) : chk n l < 65003 := by
  induction l generalizing n with
  | nil => exact h
  | cons b l ih => exact ih _ (chkB_lt ..)
theorem take_snoc (s : ByteArray) (k : Nat) (h : k < s.size) : s.data.toList.take (k + 1) = s.data.toList.take k ++ [s[k]] := by
  rw [List.take_succ_eq_append_getElem (by simpa using h)]; rfl
theorem chk_snoc (n : Nat) (s : ByteArray) (k : Nat) (h : k < s.size) : chk n (s.data.toList.take (k + 1)) = chkB (chk n (s.data.toList.take k)) s[k].toNat := by
  rw [take_snoc s k h]; unfold chk; rw [List.foldl_append]; rfl

theorem specChk_any (n : Nat) (s : ByteArray) (w : World) (hn : n < 65003) (hs : s.size ≤ 1048576) :
    Calls Try.prog 22 #[.int .i64 n, .string s] w fun e w' => e = .returned (.int .i64 (chk n s.data.toList)) ∧ w = w' := by
  go_enter Try.func22, Try.ntmps22
  go_wp2
  go_loop [0, 5] (fun c i => ∃ k : Nat, k ≤ s.size ∧ i = .int .i64 k ∧ c = .int .i64 (chk n (s.data.toList.take k))) (fun _ i => s.size - (intOf i).toNat)
  case atStart => exact ⟨0, Nat.zero_le _, rfl, rfl⟩
  case round =>
    obtain ⟨k, hk, rfl, rfl⟩ := hrel
    have hc := chk_lt n (s.data.toList.take k) hn
    by_cases hlt : k < s.size
    · have hstep := Lib.hid (chk_snoc n s k hlt)
      have hb : s[k].toNat < 256 := s[k].toNat_lt
      go_wp2
      go_round
      case rel => exact ⟨k + 1, by omega, by go_num, by rw [hstep.out]; unfold chkB; go_num⟩
      case measure => simp [intOf]; omega
    · have hfin := Lib.hid (show chk n (s.data.toList.take k) = chk n s.data.toList by rw [List.take_of_length_le (by simp; omega)])
      go_wp2
      go_ret
      exact ⟨congrArg (fun c : Nat => Ending.returned (.int .i64 (c : Int))) hfin.out, rfl⟩

def tupIB (n : Int) (b : Bool) : Value := .tuple #[.int .i64 n, .bool b]
theorem specCheckOf_any (n : Int) (s : ByteArray) (w : World) (hs : s.size ≤ 1048576) :
    Calls Try.prog 14 #[.int .i64 n, .string s] w fun e w' => e = .returned (if 0 ≤ n ∧ n < 65003 then tupIB (chk n.toNat s.data.toList) true else tupIB 0 false) ∧ w = w' := by
  by_cases h : 0 ≤ n ∧ n < 65003
  · rw [if_pos h]
    obtain ⟨h0, h1⟩ := h
    obtain ⟨m, rfl⟩ := Int.eq_ofNat_of_zero_le h0
    rw [Int.toNat_natCast]
    have hm : m < 65003 := by omega
    have hd : decide ((m : Int) ≤ 65002) = true := decide_eq_true (by omega)
    clear h0 h1
    go_enter Try.func14, Try.ntmps14
    go_wp2_with (first | (go_at_call 22; refine (specChk_any m s _ hm hs).mono ?_; rintro e w' ⟨rfl, rfl⟩) | (go_at_call 21; go_in))
    go_ret2
    exact ⟨rfl, rfl⟩
  · rw [if_neg h]
    by_cases h0 : 0 ≤ n
    · have hd : decide (n ≤ 65002) = false := decide_eq_false (by omega)
      clear h
      go_enter Try.func14, Try.ntmps14
      go_wp2_with (go_at_call 21; go_in)
      go_ret2
      exact ⟨rfl, rfl⟩
    · clear h
      go_enter Try.func14, Try.ntmps14
      go_wp2_with (go_at_call 21; go_in)
      go_ret2
      exact ⟨rfl, rfl⟩
theorem implCheckOf_any (n : Int) (s : ByteArray) (w : World) (hs : s.size ≤ 1048576) :
    Calls Try.prog 15 #[.int .i64 n, .string s] w fun e w' => e = .returned (if 0 ≤ n ∧ n < 65003 then tupIB (chk n.toNat s.data.toList) true else tupIB 0 false) ∧ w = w' := by
  by_cases h : 0 ≤ n ∧ n < 65003
  · rw [if_pos h]
    obtain ⟨h0, h1⟩ := h
    obtain ⟨m, rfl⟩ := Int.eq_ofNat_of_zero_le h0
    rw [Int.toNat_natCast]
    have hm : m < 65003 := by omega
    have hd : decide (65003 ≤ (m : Int)) = false := decide_eq_false (by omega)
    clear h0 h1
    go_enter Try.func15, Try.ntmps15
    go_wp2
    go_loop [6, 7, 17] (fun c j i => ∃ k : Nat, k ≤ s.size ∧ i = .int .i64 k ∧ c = .int .i64 (chk m (s.data.toList.take k))) (fun _ _ i => s.size - (intOf i).toNat)
    case atStart => exact ⟨0, Nat.zero_le _, rfl, rfl⟩
    case round =>
      obtain ⟨k, hk, rfl, rfl⟩ := hrel
      have hc := chk_lt m (s.data.toList.take k) hm
      by_cases hlt : k < s.size
      · have hstep := Lib.hid (chk_snoc m s k hlt)
        have hb : s[k].toNat < 256 := s[k].toNat_lt
        go_wp2
        go_round
        case rel => exact ⟨k + 1, by omega, by go_num, by rw [hstep.out]; unfold chkB; go_num⟩
        case measure => simp [intOf]; omega
      · have hfin := Lib.hid (show chk m (s.data.toList.take k) = chk m s.data.toList by rw [List.take_of_length_le (by simp; omega)])
        go_wp2
        go_ret2
        exact ⟨congrArg (fun c : Nat => Ending.returned (tupIB (c : Int) true)) hfin.out, rfl⟩
  · rw [if_neg h]
    by_cases h0 : 0 ≤ n
    · have h1 : 65003 ≤ n := by omega
      clear h
      go_enter Try.func15, Try.ntmps15
      go_wp2
      go_ret2
      exact ⟨rfl, rfl⟩
    · clear h
      go_enter Try.func15, Try.ntmps15
      go_wp2
      go_ret2
      exact ⟨rfl, rfl⟩
end Go.Proofs.Ytogdolnmcfemfac
