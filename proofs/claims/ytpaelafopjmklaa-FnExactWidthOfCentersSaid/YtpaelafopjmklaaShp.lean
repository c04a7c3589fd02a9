/-
  Lists of shapes: 1 to 16 series of the same length, in both packages.
-/
import Derived.Test.YtpaelafopjmklaaWys
import Derived.Deep.QuietTactic
import Derived.BigQuiet
namespace Go.Proofs.Ytpaelafopjmklaa
open Ieee Go.RowKit
set_option linter.unusedVariables false

def shpZ (Z : List (List Nat)) : Bool := decide (1 ≤ Z.length ∧ Z.length ≤ 16) && allZ Z
def shpQ (Z : List (List Nat)) (i : Nat) : Bool := serB (Z.getD i []) && decide ((Z.getD i []).length = (Z.getD 0 []).length)
theorem all_shp {Z : List (List Nat)} (h : ∀ i, i < Z.length → shpQ Z i = true) : allZ Z = true := by
  unfold allZ
  rw [List.all_eq_true]
  intro z hz
  obtain ⟨i, hi, rfl⟩ := List.getElem_of_mem hz
  have := h i hi
  unfold shpQ at this
  have e : Z.getD i [] = Z[i] := by simp [List.getD, hi]
  rw [e] at this
  exact this
theorem not_shp {Z : List (List Nat)} {k : Nat} (hk : k < Z.length) (h : shpQ Z k = false) : allZ Z = false := by
  unfold allZ
  rw [List.all_eq_false]
  refine ⟨Z[k], List.getElem_mem hk, ?_⟩
  unfold shpQ at h
  have e : Z.getD k [] = Z[k] := by simp [List.getD, hk]
  rw [e] at h
  rw [h]; simp
theorem allZ_t {Z : List (List Nat)} (h : allZ Z = true) {i : Nat} (hi : i < Z.length) : serB (Z.getD i []) = true ∧ (Z.getD i []).length = (Z.getD 0 []).length := by
  unfold allZ at h
  rw [List.all_eq_true] at h
  have := h Z[i] (List.getElem_mem hi)
  have h1 := (Bool.and_eq_true _ _ ▸ this).1
  have h2 := of_decide_eq_true (Bool.and_eq_true _ _ ▸ this).2
  constructor
  · simpa [List.getD, hi] using h1
  · simpa [List.getD, hi] using h2
theorem shp_t {Z : List (List Nat)} (h : shpZ Z = true) : 1 ≤ Z.length ∧ Z.length ≤ 16 ∧ ∀ i, i < Z.length → serB (Z.getD i []) = true ∧ (Z.getD i []).length = (Z.getD 0 []).length := by
  unfold shpZ at h
  have h1 := of_decide_eq_true (Bool.and_eq_true _ _ ▸ h).1
  have h2 := (Bool.and_eq_true _ _ ▸ h).2
  exact ⟨h1.1, h1.2, fun i hi => allZ_t h2 hi⟩
theorem imShp_any (a : Option Addr) (n cap : Nat) (L : List FRw) (w : World) (h : RSl w a n L) (hn : n ≤ 1048576) :
    Calls Try.prog 89 #[.slice a n cap] w (RetV (.bool (shpZ (zz L))) w) := by
  have H := Lib.hid h
  have HL := Lib.hid (show (zz L).length = n by rw [zz_len]; exact h.1.1)
  clear h
  by_cases h1 : 1 ≤ n
  · have hd1 : decide ((1 : Int) ≤ (n : Int)) = true := decide_eq_true (by omega)
    by_cases h2 : n ≤ 16
    · have hd2 : decide ((n : Int) ≤ 16) = true := decide_eq_true (by omega)
      have HB := Lib.hid (show shpZ (zz L) = areB L by unfold shpZ; rw [HL.out, decide_eq_true ⟨h1, h2⟩, are_zz]; rfl)
      go_enter Try.func89, Try.ntmps89
      go_wp2_with fail
      refine (implAre_any _ _ _ _ _ H.out hn).mono ?_
      rintro e w' ⟨m, rfl, rfl⟩
      go_wp2
      go_ret
      exact ⟨m, congrArg (fun b => Ending.returned (Value.bool b)) HB.out.symm, rfl⟩
    · have hd2 : decide ((n : Int) ≤ 16) = false := decide_eq_false (by omega)
      have HB := Lib.hid (show shpZ (zz L) = false by unfold shpZ; rw [HL.out, decide_eq_false (fun h => h2 h.2)]; rfl)
      go_enter Try.func89, Try.ntmps89
      go_wp2
      go_ret
      exact ⟨0, congrArg (fun b => Ending.returned (Value.bool b)) HB.out.symm, rfl⟩
  · have hd1 : decide ((1 : Int) ≤ (n : Int)) = false := decide_eq_false (by omega)
    have HB := Lib.hid (show shpZ (zz L) = false by unfold shpZ; rw [HL.out, decide_eq_false (fun h => h1 h.1)]; rfl)
    go_enter Try.func89, Try.ntmps89
    go_wp2
    go_ret
    exact ⟨0, congrArg (fun b => Ending.returned (Value.bool b)) HB.out.symm, rfl⟩
set_option maxHeartbeats 2000000 in
set_option maxRecDepth 100000 in
theorem spShp_any (a : Option Addr) (n cap : Nat) (L : List FRw) (w : World) (h : RSl w a n L) (hn : n ≤ 1048576) :
    Calls Try.prog 87 #[.slice a n cap] w (RetV (.bool (shpZ (zz L))) w) := by
  have H := Lib.hid h
  have HL := Lib.hid (show (zz L).length = n by rw [zz_len]; exact h.1.1)
  clear h
  by_cases h1 : 1 ≤ n
  · have hd1 : decide ((n : Int) < 1) = false := decide_eq_false (by omega)
    by_cases h2 : n ≤ 16
    · have hd2 : decide ((16 : Int) < (n : Int)) = false := decide_eq_false (by omega)
      have HB := Lib.hid (show shpZ (zz L) = allZ (zz L) by unfold shpZ; rw [HL.out, decide_eq_true ⟨h1, h2⟩]; rfl)
      go_enter Try.func87, Try.ntmps87
      go_wp2
      go_loopw [14] (fun i wr => ∃ k m : Nat, k ≤ n ∧ i = .int .i64 k ∧ wr = w.drewN m ∧ Hid (∀ j, j < k → shpQ (zz L) j = true)) (fun i _ => n - (intOf i).toNat)
      case atStart => exact ⟨0, 0, Nat.zero_le _, rfl, rfl, Lib.hid (fun j hj => by omega)⟩
      case round =>
        obtain ⟨k, m, hk, rfl, rfl, hp⟩ := hrel
        by_cases hlt : k < n
        · obtain ⟨b, off, rfl, _, hc⟩ := H.out.1.at (by omega)
          have hck := hc k hlt
          have hc0 := hc 0 (by omega)
          rw [Nat.add_zero] at hc0
          obtain ⟨hF, hFm⟩ := H.out.2 k hlt
          obtain ⟨hF0, hFm0⟩ := H.out.2 0 (by omega)
          have hpk : shpQ (zz L) k = (serB (L.getD k FRw.none).zs && decide ((L.getD k FRw.none).zs.length = (L.getD 0 FRw.none).zs.length)) := by unfold shpQ; rw [zz_at, zz_at]
          unfold FRw.val at hck hc0
          generalize L.getD k FRw.none = r at *
          generalize L.getD 0 FRw.none = r0 at *
          obtain ⟨ra, rl, rc, rz⟩ := r
          obtain ⟨sa, sl, sc, sz⟩ := r0
          simp only at hck hc0 hFm hFm0 hF hF0 hpk
          rw [hF.1, hF0.1] at hpk
          have HE := Lib.hid (fun W m' (hW : W = w.drewN m') => show Calls Try.prog 51 #[.slice ra rl rc] W (RetV (.bool (serB rz)) W) from by
            subst hW
            exact specSeries_any _ _ _ _ _ (FSl.drewN hF m') hFm)
          have HNot := Lib.hid (fun h => HB.out.trans (not_shp (Z := zz L) (k := k) (by rw [HL.out]; exact hlt) h))
          clear hc hF hF0
          cases hq : serB rz
          · have HF := Lib.hid (HNot.out (by rw [hpk, hq]; rfl))
            rw [hq] at HE
            clear hq hpk HNot
            go_wp2
            go_quiet ((go_at_call 51; exact quiet_add_V (HE.out _ _ rfl)))
            go_wp2
            go_ret
            exact ⟨_, by rw [HF.out]; rfl, (World.drewN_drewN ..).symm⟩
          · by_cases he : rl = sl
            · have hne : ((rl : Int) != (sl : Int)) = false := by rw [bne_eq_false_iff_eq]; omega
              have HN := Lib.hid (show ∀ j, j < k + 1 → shpQ (zz L) j = true from fun j hj => by
                rcases Nat.lt_or_ge j k with g | g
                · exact hp.out j g
                · obtain rfl : j = k := by omega
                  rw [hpk, hq, decide_eq_true he]; rfl)
              rw [hq] at HE
              clear hq hpk hp HNot he
              go_wp2
              go_quiet ((go_at_call 51; exact quiet_add_V (HE.out _ _ rfl)))
              go_wp2
              go_roundw
              case rel => exact ⟨k + 1, _, by omega, by go_num, rfl, HN⟩
              case measure => simp [intOf]; omega
            · have hne : ((rl : Int) != (sl : Int)) = true := by rw [bne_iff_ne]; omega
              have HF := Lib.hid (HNot.out (by rw [hpk, decide_eq_false he]; simp))
              rw [hq] at HE
              clear hq hpk HNot he
              go_wp2
              go_quiet ((go_at_call 51; exact quiet_add_V (HE.out _ _ rfl)))
              go_wp2
              go_ret
              exact ⟨_, by rw [HF.out]; rfl, (World.drewN_drewN ..).symm⟩
        · have HF := Lib.hid (HB.out.trans (all_shp (fun i hi => hp.out i (by rw [HL.out] at hi; omega))))
          clear hp H
          go_wp2
          go_ret
          exact ⟨m, by rw [HF.out]; rfl, rfl⟩
    · have hd2 : decide ((16 : Int) < (n : Int)) = true := decide_eq_true (by omega)
      have HB := Lib.hid (show shpZ (zz L) = false by unfold shpZ; rw [HL.out, decide_eq_false (fun h => h2 h.2)]; rfl)
      go_enter Try.func87, Try.ntmps87
      go_wp2
      go_ret
      exact ⟨0, by rw [HB.out]; rfl, rfl⟩
  · have hd1 : decide ((n : Int) < 1) = true := decide_eq_true (by omega)
    have HB := Lib.hid (show shpZ (zz L) = false by unfold shpZ; rw [HL.out, decide_eq_false (fun h => h1 h.1)]; rfl)
    go_enter Try.func87, Try.ntmps87
    go_wp2
    go_ret
    exact ⟨0, by rw [HB.out]; rfl, rfl⟩
end Go.Proofs.Ytpaelafopjmklaa
