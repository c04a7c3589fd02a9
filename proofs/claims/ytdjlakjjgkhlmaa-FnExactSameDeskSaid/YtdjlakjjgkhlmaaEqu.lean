/-
  Two lists have the same numbers: slices.EqualFunc over SameNumber, and the model's loop.
-/
import Derived.Test.YtdjlakjjgkhlmaaBit
import Derived.Test.YtdjlakjjgkhlmaaCSer
import Derived.Deep.QuietTactic
import Derived.BigQuiet
namespace Go.Proofs.Ytdjlakjjgkhlmaa
open Ieee Go.RowKit
set_option linter.unusedVariables false
/-- Two lists have the same numbers. -/
def allB (zs zs' : List Nat) : Bool := decide (zs.length = zs'.length) && (List.range zs.length).all fun i => smB (zs.getD i 0) (zs'.getD i 0)
theorem allB_len {zs zs' : List Nat} (h : zs.length ≠ zs'.length) : allB zs zs' = false := by unfold allB; rw [decide_eq_false h]; rfl
theorem allB_bad {zs zs' : List Nat} {k : Nat} (hk : k < zs.length) (h : smB (zs.getD k 0) (zs'.getD k 0) = false) : allB zs zs' = false := by
  unfold allB
  rw [show ((List.range zs.length).all fun i => smB (zs.getD i 0) (zs'.getD i 0)) = false from ?_, Bool.and_false]
  rw [List.all_eq_false]
  exact ⟨k, by simpa using hk, by rw [h]; simp⟩
theorem allB_all {zs zs' : List Nat} (hl : zs.length = zs'.length) (h : ∀ i, i < zs.length → smB (zs.getD i 0) (zs'.getD i 0) = true) : allB zs zs' = true := by
  unfold allB
  rw [decide_eq_true hl, Bool.true_and, List.all_eq_true]
  exact fun i hi => h i (by simpa using hi)
theorem imSame_any (x y : Nat) (w : World) : Calls Try.prog 81 #[.float .f32 x, .float .f32 y] w fun e w' => e = .returned (.bool (smB x y)) ∧ w = w' := by
  go_enter Try.func81, Try.ntmps81
  go_wp2_with fail
  refine (imBits_any _ _).mono ?_
  rintro e w' ⟨rfl, rfl⟩
  go_wp2_with fail
  refine (imBits_any _ _).mono ?_
  rintro e w' ⟨rfl, rfl⟩
  go_wp2
  go_ret
  exact ⟨by unfold smB; try rfl, rfl⟩
theorem spSameV_any (x y : Nat) (w : World) : Calls Try.prog 119 #[.float .f32 x, .float .f32 y] w (RetV (.bool (smB x y)) w) :=
  (spSame_any x y w).mono fun _ _ ⟨h1, h2⟩ => ⟨0, h1, h2⟩
set_option maxHeartbeats 1000000 in
theorem spAll_any (a a' : Option Addr) (len len' cap cap' : Nat) (zs zs' : List Nat) (w : World) (h : FSl w a len zs) (h' : FSl w a' len' zs') (hm : len ≤ 1048576) (hm' : len' ≤ 1048576) :
    Calls Try.prog 77 #[.slice a len cap, .slice a' len' cap'] w (RetV (.bool (allB zs zs')) w) := by
  have H := Lib.hid h
  have H' := Lib.hid h'
  have HL := Lib.hid h.1
  have HL' := Lib.hid h'.1
  clear h h'
  by_cases hq : len = len'
  · subst hq
    go_enter Try.func77, Try.ntmps77
    go_wp2
    go_loopw [5] (fun i wr => ∃ k n : Nat, k ≤ len ∧ i = .int .i64 k ∧ wr = w.drewN n ∧ Hid (∀ j, j < k → smB (zs.getD j 0) (zs'.getD j 0) = true)) (fun i _ => len - (intOf i).toNat)
    case atStart => exact ⟨0, 0, Nat.zero_le _, rfl, rfl, Lib.hid (fun j hj => absurd hj (Nat.not_lt_zero _))⟩
    case round =>
      obtain ⟨k, n, hk, rfl, rfl, ha⟩ := hrel
      by_cases hlt : k < len
      · obtain ⟨b, off, rfl, _, hc⟩ := H.out.at (by omega)
        obtain ⟨b', off', rfl, _, hc'⟩ := H'.out.at (by omega)
        have hck := hc k hlt
        have hck' := hc' k hlt
        cases hs : smB (zs.getD k 0) (zs'.getD k 0)
        · have HB := Lib.hid (allB_bad (zs := zs) (zs' := zs') (k := k) (by rw [HL.out]; exact hlt) hs)
          have HS := Lib.hid (fun w => spSameV_any (zs.getD k 0) (zs'.getD k 0) w)
          rw [hs] at HS
          clear hs hc hc' H H' ha
          generalize zs.getD k 0 = z at *
          generalize zs'.getD k 0 = z' at *
          go_wp2
          go_quiet ((go_at_call 119; exact quiet_add_V (HS.out _)))
          go_wp2
          go_ret
          exact ⟨_, by rw [HB.out]; rfl, (World.drewN_drewN ..).symm⟩
        · have HS := Lib.hid (fun w => spSameV_any (zs.getD k 0) (zs'.getD k 0) w)
          rw [hs] at HS
          have HA := Lib.hid (show ∀ j, j < k + 1 → smB (zs.getD j 0) (zs'.getD j 0) = true from fun j hj => by
            by_cases e : j = k
            · subst e; exact hs
            · exact ha.out j (by omega))
          clear hs hc hc' H H' ha
          obtain ⟨z, hz⟩ : ∃ z, zs.getD k 0 = z := ⟨_, rfl⟩
          obtain ⟨z', hz'⟩ : ∃ z', zs'.getD k 0 = z' := ⟨_, rfl⟩
          rw [hz] at hck HS
          rw [hz'] at hck' HS
          clear hz hz'
          go_wp2
          go_quiet ((go_at_call 119; exact quiet_add_V (HS.out _)))
          go_wp2
          go_roundw
          case rel => exact ⟨k + 1, _, by omega, by go_num, rfl, HA⟩
          case measure => simp [intOf]; omega
      · have HB := Lib.hid (allB_all (zs := zs) (zs' := zs') (by rw [HL.out, HL'.out]) (fun j hj => ha.out j (by rw [HL.out] at hj; omega)))
        clear H H' ha
        go_wp2
        go_ret
        exact ⟨n, by rw [HB.out]; rfl, rfl⟩
  · have HB := Lib.hid (allB_len (zs := zs) (zs' := zs') (by rw [HL.out, HL'.out]; exact hq))
    have hd : ((len : Int) == (len' : Int)) = false := by rw [beq_eq_false_iff_ne]; omega
    have hd2 : ((len : Int) != (len' : Int)) = true := by rw [bne_iff_ne]; omega
    go_enter Try.func77, Try.ntmps77
    go_wp2
    go_ret
    exact ⟨0, by rw [HB.out]; rfl, rfl⟩
set_option maxHeartbeats 1000000 in
theorem imEql_any (a a' : Option Addr) (len len' cap cap' : Nat) (zs zs' : List Nat) (w : World) (h : FSl w a len zs) (h' : FSl w a' len' zs') (hm : len ≤ 1048576) (hm' : len' ≤ 1048576) :
    Calls Try.prog 80 #[.slice a len cap, .slice a' len' cap', .func (.func 81) #[] #[]] w fun e w' => e = .returned (.bool (allB zs zs')) ∧ w = w' := by
  have H := Lib.hid h
  have H' := Lib.hid h'
  have HL := Lib.hid h.1
  have HL' := Lib.hid h'.1
  clear h h'
  by_cases hq : len = len'
  · subst hq
    go_enter Try.func80, Try.ntmps80
    go_wp2
    go_loop [17] (fun i => ∃ k : Nat, k ≤ len ∧ i = .int .i64 k ∧ Hid (∀ j, j < k → smB (zs.getD j 0) (zs'.getD j 0) = true)) (fun i => len - (intOf i).toNat)
    case atStart => exact ⟨0, Nat.zero_le _, rfl, Lib.hid (fun j hj => absurd hj (Nat.not_lt_zero _))⟩
    case round =>
      obtain ⟨k, hk, rfl, ha⟩ := hrel
      by_cases hlt : k < len
      · obtain ⟨b, off, rfl, _, hc⟩ := H.out.at (by omega)
        obtain ⟨b', off', rfl, _, hc'⟩ := H'.out.at (by omega)
        have hck := hc k hlt
        have hck' := hc' k hlt
        cases hs : smB (zs.getD k 0) (zs'.getD k 0)
        · have HS := Lib.hid hs
          have HB := Lib.hid (allB_bad (zs := zs) (zs' := zs') (k := k) (by rw [HL.out]; exact hlt) hs)
          clear hs hc hc' H H' ha
          generalize zs.getD k 0 = z at *
          generalize zs'.getD k 0 = z' at *
          go_wp2_with fail
          refine (imSame_any _ _ _).mono ?_
          rw [HS.out]
          rintro e w' ⟨rfl, rfl⟩
          go_wp2_with fail
          go_ret
          exact ⟨by rw [HB.out]; rfl, rfl⟩
        · have HS := Lib.hid hs
          have HA := Lib.hid (show ∀ j, j < k + 1 → smB (zs.getD j 0) (zs'.getD j 0) = true from fun j hj => by
            by_cases e : j = k
            · subst e; exact hs
            · exact ha.out j (by omega))
          clear hs hc hc' H H' ha
          obtain ⟨z, hz⟩ : ∃ z, zs.getD k 0 = z := ⟨_, rfl⟩
          obtain ⟨z', hz'⟩ : ∃ z', zs'.getD k 0 = z' := ⟨_, rfl⟩
          rw [hz] at hck HS
          rw [hz'] at hck' HS
          clear hz hz'
          go_wp2_with fail
          refine (imSame_any _ _ _).mono ?_
          rw [HS.out]
          rintro e w' ⟨rfl, rfl⟩
          go_wp2_with fail
          go_round
          case rel => exact ⟨k + 1, by omega, by go_num, HA⟩
          case measure => simp [intOf]; omega
      · have HB := Lib.hid (allB_all (by rw [HL.out, HL'.out]) (fun j hj => ha.out j (by rw [HL.out] at hj; omega)))
        clear H H' ha
        go_wp2
        go_ret
        exact ⟨by rw [HB.out]; rfl, rfl⟩
  · have HB := Lib.hid (allB_len (zs := zs) (zs' := zs') (by rw [HL.out, HL'.out]; exact hq))
    have hd : ((len : Int) == (len' : Int)) = false := by rw [beq_eq_false_iff_ne]; omega
    have hd2 : ((len : Int) != (len' : Int)) = true := by rw [bne_iff_ne]; omega
    go_enter Try.func80, Try.ntmps80
    go_wp2
    go_ret
    exact ⟨by rw [HB.out]; rfl, rfl⟩
end Go.Proofs.Ytdjlakjjgkhlmaa
