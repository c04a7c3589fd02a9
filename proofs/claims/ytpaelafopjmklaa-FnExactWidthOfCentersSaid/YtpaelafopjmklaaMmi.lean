/-
  The least and the greatest one of whole numbers.
-/
import Derived.Test.YtpaelafopjmklaaIlw
import Derived.Test.YtpaelafopjmklaaCIn
namespace Go.Proofs.Ytpaelafopjmklaa
open Ieee Go.RowKit
set_option linter.unusedVariables false

theorem run_minI {P : Program} (w : World) (ts : Array TypeId) (t : TypeId) (x y : Int) : (Builtin.min_ ts t #[.int .i64 x, .int .i64 y]).run P w = .ok (.int .i64 (min x y)) w := by
  have h : (if y < x then y else x) = min x y := by split <;> omega
  simp [Builtin.min_, Builtin.min2, List.foldlM, h]
theorem run_maxI {P : Program} (w : World) (ts : Array TypeId) (t : TypeId) (x y : Int) : (Builtin.max_ ts t #[.int .i64 x, .int .i64 y]).run P w = .ok (.int .i64 (max x y)) w := by
  have h : (if x < y then y else x) = max x y := by split <;> omega
  simp [Builtin.max_, Builtin.max2, List.foldlM, h]
/-- The least one of the first numbers. -/
def fMin (zs : List Int) : Nat → Int
  | 0 => zs.getD 0 0
  | k + 1 => min (fMin zs k) (zs.getD k 0)
theorem fMin_all (zs : List Int) : ∀ k j, j < k → fMin zs k ≤ zs.getD j 0
  | 0, j, h => by omega
  | k + 1, j, h => by
    unfold fMin
    rcases Nat.lt_or_ge j k with h1 | h1
    · have := fMin_all zs k j h1; omega
    · obtain rfl : j = k := by omega
      omega
theorem fMin_one (zs : List Int) : ∀ k, ∃ j, j ≤ k - 1 ∧ fMin zs k = zs.getD j 0
  | 0 => ⟨0, Nat.le_refl _, rfl⟩
  | k + 1 => by
    obtain ⟨j, h1, h2⟩ := fMin_one zs k
    unfold fMin
    rw [h2]
    by_cases h : zs.getD j 0 ≤ zs.getD k 0
    · exact ⟨j, by omega, by omega⟩
    · exact ⟨k, by omega, by omega⟩
theorem slMin_any (a : Option Addr) (len cap : Nat) (zs : List Int) (w : World) (h : ISl w a len zs) (h1 : 1 ≤ len) (hm : len ≤ 1048576) :
    Calls Try.prog 92 #[.slice a len cap] w fun e w' => e = .returned (.int .i64 (fMin zs len)) ∧ w = w' := by
  have H := Lib.hid h
  obtain ⟨b, off, rfl, hb, hc⟩ := h.at (by omega)
  have hc0 := hc 0 (by omega)
  rw [Nat.add_zero] at hc0
  have HN := Lib.hid (show zs.getD 0 0 = fMin zs 1 by unfold fMin fMin; omega)
  generalize zs.getD 0 0 = z0 at *
  have hd : decide ((len : Int) < 1) = false := decide_eq_false (by omega)
  have hl0 : (0 : Int) < (len : Int) := by omega
  clear h hc
  go_enter Try.func92, Try.ntmps92
  go_wp2
  clear hc0
  go_loopw [3, 4] (fun m i wr => ∃ (k : Nat) (r : Int), 1 ≤ k ∧ k ≤ len ∧ i = .int .i64 k ∧ m = .int .i64 r ∧ wr = w ∧ Hid (r = fMin zs k)) (fun _ i _ => len - (intOf i).toNat)
  case atStart => exact ⟨1, z0, Nat.le_refl _, h1, rfl, rfl, (by trivial), HN⟩
  case round =>
    obtain ⟨k, r, hk1, hk, rfl, rfl, rfl, hr⟩ := hrel
    by_cases hlt : k < len
    · obtain ⟨b', off', e', _, hc'⟩ := H.out.at (by omega)
      injection e' with e'; injection e' with e1 e2
      subst e1 e2
      have hck := hc' k hlt
      have HA := Lib.hid (show min r (zs.getD k 0) = fMin zs (k + 1) by unfold fMin; rw [hr.out])
      generalize zs.getD k 0 = z at *
      have hmin := fun (W : World) (ts : Array TypeId) (t : TypeId) => run_minI (P := Try.prog) W ts t r z
      obtain ⟨q, hq⟩ : ∃ q, min r z = q := ⟨_, rfl⟩
      rw [hq] at HA hmin
      have hkl : (k : Int) < (len : Int) := by omega
      clear hc' hr hq
      go_wp2
      go_roundw
      case rel => exact ⟨k + 1, _, by omega, by omega, by go_num, rfl, (by trivial), HA⟩
      case measure => simp [intOf]; omega
    · have hkl : k = len := by omega
      subst hkl
      go_wp2
      go_ret
      exact ⟨by rw [hr.out]; rfl, rfl⟩
/-- The greatest one of the first numbers. -/
def fMax (zs : List Int) : Nat → Int
  | 0 => zs.getD 0 0
  | k + 1 => max (fMax zs k) (zs.getD k 0)
theorem fMax_all (zs : List Int) : ∀ k j, j < k → fMax zs k ≥ zs.getD j 0
  | 0, j, h => by omega
  | k + 1, j, h => by
    unfold fMax
    rcases Nat.lt_or_ge j k with h1 | h1
    · have := fMax_all zs k j h1; omega
    · obtain rfl : j = k := by omega
      omega
theorem fMax_one (zs : List Int) : ∀ k, ∃ j, j ≤ k - 1 ∧ fMax zs k = zs.getD j 0
  | 0 => ⟨0, Nat.le_refl _, rfl⟩
  | k + 1 => by
    obtain ⟨j, h1, h2⟩ := fMax_one zs k
    unfold fMax
    rw [h2]
    by_cases h : zs.getD j 0 ≥ zs.getD k 0
    · exact ⟨j, by omega, by omega⟩
    · exact ⟨k, by omega, by omega⟩
theorem slMax_any (a : Option Addr) (len cap : Nat) (zs : List Int) (w : World) (h : ISl w a len zs) (h1 : 1 ≤ len) (hm : len ≤ 1048576) :
    Calls Try.prog 93 #[.slice a len cap] w fun e w' => e = .returned (.int .i64 (fMax zs len)) ∧ w = w' := by
  have H := Lib.hid h
  obtain ⟨b, off, rfl, hb, hc⟩ := h.at (by omega)
  have hc0 := hc 0 (by omega)
  rw [Nat.add_zero] at hc0
  have HN := Lib.hid (show zs.getD 0 0 = fMax zs 1 by unfold fMax fMax; omega)
  generalize zs.getD 0 0 = z0 at *
  have hd : decide ((len : Int) < 1) = false := decide_eq_false (by omega)
  have hl0 : (0 : Int) < (len : Int) := by omega
  clear h hc
  go_enter Try.func93, Try.ntmps93
  go_wp2
  clear hc0
  go_loopw [3, 4] (fun m i wr => ∃ (k : Nat) (r : Int), 1 ≤ k ∧ k ≤ len ∧ i = .int .i64 k ∧ m = .int .i64 r ∧ wr = w ∧ Hid (r = fMax zs k)) (fun _ i _ => len - (intOf i).toNat)
  case atStart => exact ⟨1, z0, Nat.le_refl _, h1, rfl, rfl, (by trivial), HN⟩
  case round =>
    obtain ⟨k, r, hk1, hk, rfl, rfl, rfl, hr⟩ := hrel
    by_cases hlt : k < len
    · obtain ⟨b', off', e', _, hc'⟩ := H.out.at (by omega)
      injection e' with e'; injection e' with e1 e2
      subst e1 e2
      have hck := hc' k hlt
      have HA := Lib.hid (show max r (zs.getD k 0) = fMax zs (k + 1) by unfold fMax; rw [hr.out])
      generalize zs.getD k 0 = z at *
      have hmin := fun (W : World) (ts : Array TypeId) (t : TypeId) => run_maxI (P := Try.prog) W ts t r z
      obtain ⟨q, hq⟩ : ∃ q, max r z = q := ⟨_, rfl⟩
      rw [hq] at HA hmin
      have hkl : (k : Int) < (len : Int) := by omega
      clear hc' hr hq
      go_wp2
      go_roundw
      case rel => exact ⟨k + 1, _, by omega, by omega, by go_num, rfl, (by trivial), HA⟩
      case measure => simp [intOf]; omega
    · have hkl : k = len := by omega
      subst hkl
      go_wp2
      go_ret
      exact ⟨by rw [hr.out]; rfl, rfl⟩
/-- Signs that so many cuts make. -/
def sgnB (zs : List Int) (c : Nat) : Bool := decide (1 ≤ zs.length ∧ zs.length ≤ 96) && zs.all (fun z => decide (0 ≤ z ∧ z ≤ (c : Int)))
theorem sgn_t {zs : List Int} {c : Nat} (h : sgnB zs c = true) : 1 ≤ zs.length ∧ zs.length ≤ 96 ∧ ∀ j, j < zs.length → 0 ≤ zs.getD j 0 ∧ zs.getD j 0 ≤ (c : Int) := by
  unfold sgnB at h
  have h1 := of_decide_eq_true (Bool.and_eq_true _ _ ▸ h).1
  have h2 := (Bool.and_eq_true _ _ ▸ h).2
  refine ⟨h1.1, h1.2, fun j hj => ?_⟩
  rw [List.all_eq_true] at h2
  have := h2 (zs[j]) (List.getElem_mem hj)
  simpa [List.getD, hj] using this
theorem sgn_all {zs : List Int} {c : Nat} (h1 : 1 ≤ zs.length) (h2 : zs.length ≤ 96) (h : ∀ j, j < zs.length → 0 ≤ zs.getD j 0 ∧ zs.getD j 0 ≤ (c : Int)) : sgnB zs c = true := by
  unfold sgnB
  rw [decide_eq_true ⟨h1, h2⟩, Bool.true_and, List.all_eq_true]
  intro x hx
  obtain ⟨i, hi, rfl⟩ := List.getElem_of_mem hx
  have := h i hi
  simpa [List.getD, hi] using this
theorem sgn_not {zs : List Int} {c j : Nat} (hj : j < zs.length) (h : ¬ (0 ≤ zs.getD j 0 ∧ zs.getD j 0 ≤ (c : Int))) : sgnB zs c = false := by
  cases hs : sgnB zs c
  · rfl
  · exact absurd ((sgn_t hs).2.2 j hj) h
theorem sgn_long {zs : List Int} {c : Nat} (h : ¬ (1 ≤ zs.length ∧ zs.length ≤ 96)) : sgnB zs c = false := by unfold sgnB; rw [decide_eq_false h]; rfl
theorem imSigns_any (a : Option Addr) (len cap : Nat) (zs : List Int) (c : Nat) (w : World) (h : ISl w a len zs) (hm : len ≤ 1048576) :
    Calls Try.prog 84 #[.slice a len cap, .int .i64 c] w (RetV (.bool (sgnB zs c)) w) := by
  have H := Lib.hid h
  have HL := Lib.hid h.1
  clear h
  by_cases h1 : 1 ≤ len
  · have d1 : decide ((1 : Int) ≤ (len : Int)) = true := decide_eq_true (by omega)
    by_cases h2 : len ≤ 96
    · have d2 : decide ((len : Int) ≤ 96) = true := decide_eq_true (by omega)
      by_cases h3 : 0 ≤ fMin zs len
      · have d3 : decide (0 ≤ fMin zs len) = true := decide_eq_true h3
        have HB := Lib.hid (show sgnB zs c = decide (fMax zs len ≤ (c : Int)) by
          by_cases h4 : fMax zs len ≤ (c : Int)
          · rw [decide_eq_true h4]
            exact sgn_all (by rw [HL.out]; exact h1) (by rw [HL.out]; exact h2) fun j hj => by
              rw [HL.out] at hj
              have q1 := fMin_all zs len j hj
              have q2 := fMax_all zs len j hj
              omega
          · rw [decide_eq_false h4]
            obtain ⟨j, hj, he⟩ := fMax_one zs len
            exact sgn_not (j := j) (by rw [HL.out]; omega) (by omega))
        clear h3
        go_enter Try.func84, Try.ntmps84
        go_wp2_with fail
        refine (slMin_any _ _ _ _ _ H.out h1 hm).mono ?_
        rintro e w' ⟨rfl, rfl⟩
        go_wp2_with fail
        refine (slMax_any _ _ _ _ _ H.out h1 hm).mono ?_
        rintro e w' ⟨rfl, rfl⟩
        go_wp2
        go_ret
        exact ⟨0, congrArg (fun b => Ending.returned (Value.bool b)) HB.out.symm, rfl⟩
      · have d3 : decide (0 ≤ fMin zs len) = false := decide_eq_false h3
        have HB := Lib.hid (show sgnB zs c = false by
          obtain ⟨j, hj, he⟩ := fMin_one zs len
          exact sgn_not (j := j) (by rw [HL.out]; omega) (by omega))
        clear h3
        go_enter Try.func84, Try.ntmps84
        go_wp2_with fail
        refine (slMin_any _ _ _ _ _ H.out h1 hm).mono ?_
        rintro e w' ⟨rfl, rfl⟩
        go_wp2
        go_ret
        exact ⟨0, congrArg (fun b => Ending.returned (Value.bool b)) HB.out.symm, rfl⟩
    · have d2 : decide ((len : Int) ≤ 96) = false := decide_eq_false (by omega)
      have HB := Lib.hid (sgn_long (zs := zs) (c := c) (by rw [HL.out]; omega))
      go_enter Try.func84, Try.ntmps84
      go_wp2
      go_ret
      exact ⟨0, congrArg (fun b => Ending.returned (Value.bool b)) HB.out.symm, rfl⟩
  · have d1 : decide ((1 : Int) ≤ (len : Int)) = false := decide_eq_false (by omega)
    have HB := Lib.hid (sgn_long (zs := zs) (c := c) (by rw [HL.out]; omega))
    go_enter Try.func84, Try.ntmps84
    go_wp2
    go_ret
    exact ⟨0, congrArg (fun b => Ending.returned (Value.bool b)) HB.out.symm, rfl⟩
set_option maxHeartbeats 1000000 in
theorem spSigns_any (a : Option Addr) (len cap : Nat) (zs : List Int) (a' : Option Addr) (c cap' : Nat) (w : World) (h : ISl w a len zs) (hm : len ≤ 1048576) (hc : c ≤ 1048576) :
    Calls Try.prog 79 #[.slice a len cap, .slice a' c cap'] w (RetV (.bool (sgnB zs c)) w) := by
  have H := Lib.hid h
  have HL := Lib.hid h.1
  clear h
  go_enter Try.func79, Try.ntmps79
  go_wp2
  go_loopw [8] (fun i wr => ∃ k : Nat, k ≤ len ∧ i = .int .i64 k ∧ wr = w ∧ Hid (∀ j, j < k → 0 ≤ zs.getD j 0 ∧ zs.getD j 0 ≤ (c : Int))) (fun i _ => len - (intOf i).toNat)
  case atStart => exact ⟨0, Nat.zero_le _, rfl, rfl, Lib.hid (fun j hj => by omega)⟩
  case round =>
    obtain ⟨k, hk, rfl, rfl, hq⟩ := hrel
    by_cases hlt : k < len
    · obtain ⟨b, off, rfl, hb, hcs⟩ := H.out.at (by omega)
      have hck := hcs k hlt
      by_cases hz : 0 ≤ zs.getD k 0 ∧ zs.getD k 0 ≤ (c : Int)
      · have HN := Lib.hid (show ∀ j, j < k + 1 → 0 ≤ zs.getD j 0 ∧ zs.getD j 0 ≤ (c : Int) from fun j hj => by
          rcases Nat.lt_or_ge j k with h1 | h1
          · exact hq.out j h1
          · obtain rfl : j = k := by omega
            exact hz)
        generalize zs.getD k 0 = z at *
        have HIn := Lib.hid (fun W => in_yes z 0 (c : Int) W hz.1 hz.2)
        clear hcs hb hq hz
        go_wp2_with fail
        refine (HIn.out _).mono ?_
        rintro e w' ⟨rfl, rfl⟩
        go_wp2
        go_roundw
        case rel => exact ⟨k + 1, by omega, by go_num, (by first | rfl | trivial), HN⟩
        case measure => simp [intOf]; omega
      · have HB := Lib.hid (sgn_not (zs := zs) (c := c) (j := k) (by rw [HL.out]; exact hlt) hz)
        generalize zs.getD k 0 = z at *
        have HIn := Lib.hid (fun W => in_no z 0 (c : Int) W (by omega))
        clear hcs hb hq hz
        go_wp2_with fail
        refine (HIn.out _).mono ?_
        rintro e w' ⟨rfl, rfl⟩
        go_wp2
        go_ret
        exact ⟨0, congrArg (fun b => Ending.returned (Value.bool b)) HB.out.symm, rfl⟩
    · have hkl : k = len := by omega
      by_cases h1 : 1 ≤ len
      · have d1 : decide ((1 : Int) ≤ (len : Int)) = true := decide_eq_true (by omega)
        have HB := Lib.hid (show sgnB zs c = decide ((len : Int) ≤ 96) by
          by_cases h2 : len ≤ 96
          · rw [decide_eq_true (by omega)]
            exact sgn_all (by rw [HL.out]; exact h1) (by rw [HL.out]; exact h2) fun j hj => hq.out j (by rw [HL.out] at hj; omega)
          · rw [decide_eq_false (by omega)]
            exact sgn_long (by rw [HL.out]; omega))
        clear hq hkl
        go_wp2
        go_ret
        exact ⟨0, congrArg (fun b => Ending.returned (Value.bool b)) HB.out.symm, rfl⟩
      · have d1 : decide ((1 : Int) ≤ (len : Int)) = false := decide_eq_false (by omega)
        have HB := Lib.hid (sgn_long (zs := zs) (c := c) (by rw [HL.out]; omega))
        clear hq hkl
        go_wp2
        go_ret
        exact ⟨0, congrArg (fun b => Ending.returned (Value.bool b)) HB.out.symm, rfl⟩
end Go.Proofs.Ytpaelafopjmklaa
