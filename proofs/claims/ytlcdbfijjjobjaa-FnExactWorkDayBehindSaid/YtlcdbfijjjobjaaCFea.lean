/-
  Feasts, in both packages.
-/
import Derived.Test.YtlcdbfijjjobjaaCDat
import Derived.Test.YtlcdbfijjjobjaaCIn
import Derived.Test.YtlcdbfijjjobjaaIsl
import Derived.Test.YtlcdbfijjjobjaaFlr
import Derived.Deep.QuietTactic
import Derived.BigQuiet
namespace Go.Proofs.Ytlcdbfijjjobjaa
open Go.RowKit
set_option linter.unusedVariables false

theorem ISl.at {w : World} {a : Option Addr} {len : Nat} {zs : List Int} (h : ISl w a len zs) (hl : 0 < len) :
    ∃ b off, a = some ⟨b, off, none⟩ ∧ b < w.heap.size ∧ ∀ i, i < len → w.cell? ⟨b, off + i, none⟩ = some (.int .i64 (zs.getD i 0)) := VSl.at h hl
theorem ISl.drewN {w : World} {a : Option Addr} {len : Nat} {zs : List Int} (h : ISl w a len zs) (n : Nat) : ISl (w.drewN n) a len zs := h
theorem ISl.below {w w' : World} {a : Option Addr} {len : Nat} {zs : List Int} (h : ISl w a len zs) (hb : Below w.heap.size w w') : ISl w' a len zs := VSl.below h hb
/-- The i-th number is a day, and greater than the one before. -/
def feaAt (zs : List Int) (i : Nat) : Bool := dayB (zs.getD i 0) && (decide (i = 0) || decide (zs.getD (i - 1) 0 < zs.getD i 0))
def feaTo (zs : List Int) : Nat → Bool
  | 0 => true
  | k + 1 => feaTo zs k && feaAt zs k
def feaB (zs : List Int) : Bool := decide (zs.length ≤ 32) && feaTo zs zs.length
theorem feaTo_bad {zs : List Int} {k : Nat} (h : feaAt zs k = false) : ∀ n, k < n → feaTo zs n = false
  | n + 1, hk => by
    unfold feaTo
    by_cases e : k = n
    · subst e; rw [h, Bool.and_false]
    · rw [feaTo_bad h n (by omega), Bool.false_and]
theorem feaB_bad {zs : List Int} {k : Nat} (h : feaAt zs k = false) (hk : k < zs.length) : feaB zs = false := by
  unfold feaB; rw [feaTo_bad h _ hk, Bool.and_false]
theorem feaTo_at {zs : List Int} : ∀ {n : Nat}, feaTo zs n = true → ∀ {k : Nat}, k < n → feaAt zs k = true
  | n + 1, h, k, hk => by
    unfold feaTo at h
    have h1 := (Bool.and_eq_true _ _ ▸ h).1
    have h2 := (Bool.and_eq_true _ _ ▸ h).2
    by_cases e : k = n
    · subst e; exact h2
    · exact feaTo_at h1 (by omega)
theorem isDayV_any (n : Int) (w : World) : Calls Try.prog 51 #[.int .i64 n] w (RetV (.bool (dayB n)) w) :=
  (specIsDay_any n w).mono fun _ _ ⟨h1, h2⟩ => ⟨0, h1, h2⟩

set_option maxHeartbeats 2000000 in
theorem specFea_any (a : Option Addr) (len cap : Nat) (zs : List Int) (w : World) (h : ISl w a len zs) (hm : len ≤ 1048576) :
    Calls Try.prog 56 #[.slice a len cap] w (RetV (.bool (feaB zs)) w) := by
  have H := Lib.hid h
  have HL := Lib.hid h.1
  clear h
  go_enter Try.func56, Try.ntmps56
  go_wp2
  go_loopw [3] (fun i wr => ∃ k n : Nat, k ≤ len ∧ i = .int .i64 k ∧ wr = w.drewN n ∧ Hid (feaTo zs k = true)) (fun i _ => len - (intOf i).toNat)
  case atStart => exact ⟨0, 0, Nat.zero_le _, rfl, rfl, Lib.hid rfl⟩
  case round =>
    obtain ⟨k, n, hk, rfl, rfl, hf⟩ := hrel
    by_cases hlt : k < len
    · obtain ⟨b, off, rfl, hb, hc⟩ := H.out.at (by omega)
      have hck := hc k hlt
      have hlt2 : k < zs.length := by rw [HL.out]; exact hlt
      cases hd : dayB (zs.getD k 0)
      · have HD := Lib.hid hd
        have hfin := Lib.hid (feaB_bad (k := k) (by unfold feaAt; rw [hd]; rfl) hlt2)
        clear hd hc hb H hlt2
        generalize zs.getD k 0 = z at *
        go_wp2
        go_quiet ((go_at_call 51; exact quiet_add_V (by have := isDayV_any z; rw [HD.out] at this; exact this _)))
        go_wp2
        go_ret
        exact ⟨_, congrArg (fun b => Ending.returned (Value.bool b)) hfin.out.symm, (World.drewN_drewN ..).symm⟩
      · have HD := Lib.hid hd
        by_cases hk0 : k = 0
        · have hmore := Lib.hid (show feaTo zs (k + 1) = true by unfold feaTo; rw [hf.out]; unfold feaAt; rw [hd, decide_eq_true hk0]; rfl)
          have hk1 : ¬ 0 < k := by omega
          have hdk : decide ((0 : Int) < (k : Int)) = false := decide_eq_false (by omega)
          have hdk2 : decide (0 < k) = false := decide_eq_false (by omega)
          clear hd hc hb H hlt2 hk0
          generalize zs.getD k 0 = z at *
          go_wp2
          go_quiet ((go_at_call 51; exact quiet_add_V (by have := isDayV_any z; rw [HD.out] at this; exact this _)))
          go_wp2
          go_roundw
          case rel => exact ⟨k + 1, _, by omega, by go_num, rfl, hmore⟩
          case measure => simp [intOf]; omega
        · have hcp := hc (k - 1) (by omega)
          have hdk : decide ((0 : Int) < (k : Int)) = true := decide_eq_true (by omega)
          have hdk2 : decide (0 < k) = true := decide_eq_true (by omega)
          have e1 : IntKind.i64.wrap ((k : Int) - 1) = ((k - 1 : Nat) : Int) := by
            have : (k : Int) - 1 = ((k - 1 : Nat) : Int) := by omega
            rw [this]
            exact IntWalk.i64_in _ (by omega)
          have e2 : (0 : Int) ≤ ((k - 1 : Nat) : Int) := by omega
          have e3 : ((k - 1 : Nat) : Int) < (len : Int) := by omega
          cases hz : decide (zs.getD (k - 1) 0 < zs.getD k 0)
          · have hfin := Lib.hid (feaB_bad (k := k) (by unfold feaAt; rw [hd, decide_eq_false hk0, hz]; rfl) hlt2)
            have hle : decide (zs.getD k 0 ≤ zs.getD (k - 1) 0) = true := decide_eq_true (by have := of_decide_eq_false hz; omega)
            clear hd hc hb H hlt2 hk0 hz
            generalize zs.getD (k - 1) 0 = y at *
            generalize zs.getD k 0 = z at *
            go_wp2
            go_quiet ((go_at_call 51; exact quiet_add_V (by have := isDayV_any z; rw [HD.out] at this; exact this _)))
            go_wp2
            go_ret
            exact ⟨_, congrArg (fun b => Ending.returned (Value.bool b)) hfin.out.symm, (World.drewN_drewN ..).symm⟩
          · have hmore := Lib.hid (show feaTo zs (k + 1) = true by unfold feaTo; rw [hf.out]; unfold feaAt; rw [hd, hz]; simp)
            have hle : decide (zs.getD k 0 ≤ zs.getD (k - 1) 0) = false := decide_eq_false (by have := of_decide_eq_true hz; omega)
            clear hd hc hb H hlt2 hk0 hz
            generalize zs.getD (k - 1) 0 = y at *
            generalize zs.getD k 0 = z at *
            go_wp2
            go_quiet ((go_at_call 51; exact quiet_add_V (by have := isDayV_any z; rw [HD.out] at this; exact this _)))
            go_wp2
            go_roundw
            case rel => exact ⟨k + 1, _, by omega, by go_num, rfl, hmore⟩
            case measure => simp [intOf]; omega
    · by_cases h32 : len ≤ 32
      · have hfin := Lib.hid (show feaB zs = true by unfold feaB; rw [HL.out, decide_eq_true h32, show len = k by omega, hf.out]; rfl)
        have hd : decide ((len : Int) ≤ 32) = true := decide_eq_true (by omega)
        go_wp2
        go_ret
        exact ⟨n, congrArg (fun b => Ending.returned (Value.bool b)) hfin.out.symm, rfl⟩
      · have hfin := Lib.hid (show feaB zs = false by unfold feaB; rw [HL.out, decide_eq_false h32]; rfl)
        have hd : decide ((len : Int) ≤ 32) = false := decide_eq_false (by omega)
        go_wp2
        go_ret
        exact ⟨n, congrArg (fun b => Ending.returned (Value.bool b)) hfin.out.symm, rfl⟩

set_option maxHeartbeats 2000000 in
theorem implFea_any (a : Option Addr) (len cap : Nat) (zs : List Int) (w : World) (h : ISl w a len zs) (hm : len ≤ 1048576) :
    Calls Try.prog 57 #[.slice a len cap] w (RetV (.bool (feaB zs)) w) := by
  have H := Lib.hid h
  have HL := Lib.hid h.1
  clear h
  by_cases h32 : len ≤ 32
  · have HE := Lib.hid (show feaB zs = feaTo zs len by unfold feaB; rw [HL.out, decide_eq_true h32]; rfl)
    have hd : decide ((32 : Int) < (len : Int)) = false := decide_eq_false (by omega)
    go_enter Try.func57, Try.ntmps57
    go_wp2
    go_loopw [3, 4, 10] (fun x y i wr => ∃ k n : Nat, k ≤ len ∧ i = .int .i64 k ∧ wr = w.drewN n ∧ Hid (feaTo zs k = true)) (fun _ _ i _ => len - (intOf i).toNat)
    case atStart => exact ⟨0, 0, Nat.zero_le _, rfl, rfl, Lib.hid rfl⟩
    case round =>
      obtain ⟨k, n, hk, rfl, rfl, hf⟩ := hrel
      by_cases hlt : k < len
      · obtain ⟨b, off, rfl, hb, hc⟩ := H.out.at (by omega)
        have hck := hc k hlt
        have hlt2 : k < zs.length := by rw [HL.out]; exact hlt
        cases hd : dayB (zs.getD k 0)
        · have HD := Lib.hid hd
          have hfin := Lib.hid (feaB_bad (k := k) (by unfold feaAt; rw [hd]; rfl) hlt2)
          clear hd hc hb H hlt2
          generalize zs.getD k 0 = z at *
          go_wp2_with (go_at_call 53; refine (implIsDay_any _ _).mono ?_; rw [HD.out]; rintro e w' ⟨rfl, rfl⟩)
          go_ret
          exact ⟨_, congrArg (fun b => Ending.returned (Value.bool b)) hfin.out.symm, rfl⟩
        · have HD := Lib.hid hd
          by_cases hk0 : k = 0
          · have hmore := Lib.hid (show feaTo zs (k + 1) = true by unfold feaTo; rw [hf.out]; unfold feaAt; rw [hd, decide_eq_true hk0]; rfl)
            have hk1 : ¬ 0 < k := by omega
            have hdk : decide ((0 : Int) < (k : Int)) = false := decide_eq_false (by omega)
            have hdk2 : decide (0 < k) = false := decide_eq_false (by omega)
            clear hd hc hb H hlt2 hk0
            generalize zs.getD k 0 = z at *
            go_wp2_with (go_at_call 53; refine (implIsDay_any _ _).mono ?_; rw [HD.out]; rintro e w' ⟨rfl, rfl⟩)
            go_roundw
            case rel => exact ⟨k + 1, _, by omega, by go_num, rfl, hmore⟩
            case measure => simp [intOf]; omega
          · have hcp := hc (k - 1) (by omega)
            have hdk : decide ((0 : Int) < (k : Int)) = true := decide_eq_true (by omega)
            have hdk2 : decide (0 < k) = true := decide_eq_true (by omega)
            have hk1 : 1 ≤ k := by omega
            cases hz : decide (zs.getD (k - 1) 0 < zs.getD k 0)
            · have hfin := Lib.hid (feaB_bad (k := k) (by unfold feaAt; rw [hd, decide_eq_false hk0, hz]; rfl) hlt2)
              have hle : decide (zs.getD k 0 ≤ zs.getD (k - 1) 0) = true := decide_eq_true (by have := of_decide_eq_false hz; omega)
              clear hd hc hb H hlt2 hk0 hz
              generalize zs.getD (k - 1) 0 = y at *
              generalize zs.getD k 0 = z at *
              go_wp2_with (go_at_call 53; refine (implIsDay_any _ _).mono ?_; rw [HD.out]; rintro e w' ⟨rfl, rfl⟩)
              go_ret
              exact ⟨_, congrArg (fun b => Ending.returned (Value.bool b)) hfin.out.symm, rfl⟩
            · have hmore := Lib.hid (show feaTo zs (k + 1) = true by unfold feaTo; rw [hf.out]; unfold feaAt; rw [hd, hz]; simp)
              have hle : decide (zs.getD k 0 ≤ zs.getD (k - 1) 0) = false := decide_eq_false (by have := of_decide_eq_true hz; omega)
              clear hd hc hb H hlt2 hk0 hz
              generalize zs.getD (k - 1) 0 = y at *
              generalize zs.getD k 0 = z at *
              go_wp2_with (go_at_call 53; refine (implIsDay_any _ _).mono ?_; rw [HD.out]; rintro e w' ⟨rfl, rfl⟩)
              go_roundw
              case rel => exact ⟨k + 1, _, by omega, by go_num, rfl, hmore⟩
              case measure => simp [intOf]; omega
      · have hfin := Lib.hid (show feaB zs = true by rw [HE.out, show len = k by omega]; exact hf.out)
        go_wp2
        go_ret
        exact ⟨n, congrArg (fun b => Ending.returned (Value.bool b)) hfin.out.symm, rfl⟩
  · have hfin := Lib.hid (show feaB zs = false by unfold feaB; rw [HL.out, decide_eq_false h32]; rfl)
    have hd : decide ((32 : Int) < (len : Int)) = true := decide_eq_true (by omega)
    go_enter Try.func57, Try.ntmps57
    go_wp2
    go_ret
    exact ⟨0, congrArg (fun b => Ending.returned (Value.bool b)) hfin.out.symm, rfl⟩

/-- How many days from Monday to Friday there are before a day, from the first one on. -/
def wbZ (n : Int) : Int := (n + 36524) / 7 * 5 + min ((n + 36524) % 7) 5
theorem wbZ_succ (n : Int) : wbZ (n + 1) = wbZ n + (if wdZ n < 5 then 1 else 0) := by unfold wbZ wdZ; split <;> omega
theorem wbZ_week (n k : Int) : wbZ (n + 7 * k) = wbZ n + 5 * k := by unfold wbZ; omega
theorem wbZ_bd (n : Int) (h1 : -36524 ≤ n) (h2 : n ≤ 80000) : 0 ≤ wbZ n ∧ wbZ n ≤ 100000 := by unfold wbZ; omega
theorem wbBefore_any (n : Int) (w : World) (h1 : -36524 ≤ n) (h2 : n ≤ 80000) : Calls Try.prog 58 #[.int .i64 n] w fun e w' => e = .returned (.int .i64 (wbZ n)) ∧ w = w' := by
  have HE := Lib.hid (show wbZ n = (n + 36524) / 7 * 5 + min ((n + 36524) % 7) 5 from rfl)
  rcases (show (n + 36524) % 7 < 5 ∨ ((n + 36524) % 7 ≤ 5 ∧ 5 ≤ (n + 36524) % 7) ∨ 5 < (n + 36524) % 7 by omega) with h3 | ⟨h3, h4⟩ | h3
  all_goals
    go_enter Try.func58, Try.ntmps58
    go_wp2
    go_ret
    exact ⟨congrArg (fun b => Ending.returned (Value.int .i64 b)) (by rw [HE.out]; omega), rfl⟩
def wkB (n : Int) : Bool := decide (wdZ n < 5)
theorem wkend_any (n : Int) (w : World) (h : dayB n = true) : Calls Try.prog 59 #[.int .i64 n] w fun e w' => e = .returned (.bool (!wkB n)) ∧ w = w' := by
  have HD := Lib.hid h
  have HW := Lib.hid (show wdR n = wdZ n by unfold wdR; rw [h]; rfl)
  clear h
  by_cases h5 : wdZ n < 5
  · have HK := Lib.hid (show (!wkB n) = false by unfold wkB; rw [decide_eq_true h5]; rfl)
    have hd : decide (5 ≤ wdZ n) = false := decide_eq_false (by omega)
    go_enter Try.func59, Try.ntmps59
    go_wp2_with (go_at_call 24; refine (implWeekday_any _ _).mono ?_; rw [HD.out, HW.out]; unfold RetI; rintro e w' ⟨rfl, rfl⟩)
    go_ret
    exact ⟨congrArg (fun b => Ending.returned (Value.bool b)) HK.out.symm, rfl⟩
  · have HK := Lib.hid (show (!wkB n) = true by unfold wkB; rw [decide_eq_false h5]; rfl)
    have hd : decide (5 ≤ wdZ n) = true := decide_eq_true (by omega)
    go_enter Try.func59, Try.ntmps59
    go_wp2_with (go_at_call 24; refine (implWeekday_any _ _).mono ?_; rw [HD.out, HW.out]; unfold RetI; rintro e w' ⟨rfl, rfl⟩)
    go_ret
    exact ⟨congrArg (fun b => Ending.returned (Value.bool b)) HK.out.symm, rfl⟩
end Go.Proofs.Ytlcdbfijjjobjaa
