/-
  Dates of days, in both packages.
-/
import Derived.Test.YtlcdbfijjjobjaaCDat
namespace Go.Proofs.Ytlcdbfijjjobjaa
open Go.RowKit
set_option linter.unusedVariables false

/-- What is returned is the date of the day. -/
def Dated (n : Int) (f : Int → Int → Int → Ending) (w : World) (e : Ending) (w' : World) : Prop := ∃ y m d : Int, e = f y m d ∧ okZ y m d = true ∧ numZ y m d = n ∧ Below w.heap.size w w'
theorem okZ_mk {y m d : Int} (h1 : 1900 ≤ y) (h2 : y ≤ 2199) (h3 : 1 ≤ m) (h4 : m ≤ 12) (h5 : 1 ≤ d) (h6 : d ≤ monZ y m) : okZ y m d = true := decide_eq_true ⟨h1, h2, h3, h4, h5, h6⟩
theorem firstZ_1900 : firstZ 1900 = -36524 := by decide
theorem firstZ_2200 : firstZ 2200 = 73049 := by decide
theorem results_tmp4 {fn : Func} {t u v x : Tmp} (h : fn.results = #[.tmp t, .tmp u, .tmp v, .tmp x]) (tmps : Array Value) (P : Program) (w : World) :
    (results fn tmps).run P w = .ok (.tuple #[tmps.getD t undef, tmps.getD u undef, tmps.getD v undef, tmps.getD x undef]) w := by simp [results, h]
def Told (y m d : Int) : Ending := .returned (.tuple #[.int .i64 y, .int .i64 m, .int .i64 d])
theorem last_year (y n : Int) (h : firstZ y ≤ n) (h2 : n ≤ 73048) : y ≤ 2199 := by
  rcases Int.lt_or_le y 2200 with hh | hh
  · omega
  · have := firstZ_mono hh; rw [firstZ_2200] at this; omega
theorem mon_12 (y m x : Int) (h1 : 1 ≤ m) (h2 : m ≤ 12) (h3 : cumZ y m + x < longZ y) (h4 : monZ y m ≤ x) : m ≤ 11 := by
  rcases Int.lt_or_le m 12 with hh | hh
  · omega
  · obtain rfl : m = 12 := by omega
    have a := cumZ_succ y 12 (by omega) (by omega)
    have b := cumZ_13 y
    rw [show (12 : Int) + 1 = 13 by rfl] at a
    omega

theorem specTold_any (n : Int) (w : World) (h1 : -36524 ≤ n) (h2 : n ≤ 73048) :
    Calls Try.prog 52 #[.int .i64 n] w (Dated n Told w) := by
  have E1 := Lib.hid firstZ_1900
  go_enter Try.func52, Try.ntmps52
  go_wp2_with (go_at_call 55; refine (specFirst_any _ _ (by omega) (by omega)).mono ?_; rw [E1.out]; rintro e w' ⟨rfl, rfl⟩)
  go_loop [0, 5] (fun b a => ∃ y x : Int, 1900 ≤ y ∧ y ≤ 2199 ∧ 0 ≤ x ∧ Hid (firstZ y + x = n) ∧ a = .int .i64 y ∧ b = .int .i64 x) (fun _ a => (2200 - intOf a).toNat)
  case atStart => exact ⟨1900, n + 36524, by omega, by omega, by omega, Lib.hid (by rw [E1.out]; omega), rfl, by go_num⟩
  case round =>
    obtain ⟨y, x, hy1, hy2, hx, hn, rfl, rfl⟩ := hrel
    obtain ⟨b1, b2⟩ := longZ_bd y
    obtain ⟨b3, b4⟩ := firstZ_small y (by omega) (by omega)
    have bx : x ≤ 200000 := by have := hn.out; omega
    by_cases hlt : longZ y ≤ x
    · have hs := Lib.hid (show firstZ (y + 1) + (x - longZ y) = n by rw [firstZ_succ]; have := hn.out; omega)
      have hy3 := last_year (y + 1) n (by have := hs.out; omega) h2
      go_wp2_with (go_at_call 68; refine (specLong_any _ _ (by omega)).mono ?_; rintro e w' ⟨rfl, rfl⟩)
      go_round
      case rel => exact ⟨y + 1, x - longZ y, by omega, by omega, by omega, hs, rfl, rfl⟩
      case measure => simp [intOf]; omega
    · go_wp2_with (go_at_call 68; refine (specLong_any _ _ (by omega)).mono ?_; rintro e w' ⟨rfl, rfl⟩)
      go_loopw [0, 6] (fun b m wr => ∃ k z : Int, 1 ≤ k ∧ k ≤ 12 ∧ 0 ≤ z ∧ z ≤ 400 ∧ cumZ y k + z < longZ y ∧ Hid (firstZ y + cumZ y k + z = n) ∧ m = .int .i64 k ∧ b = .int .i64 z ∧ Below w.heap.size w wr) (fun _ m _ => (13 - intOf m).toNat)
      case atStart => exact ⟨1, x, by omega, by omega, by omega, by omega, by rw [cumZ_1]; omega, Lib.hid (by rw [cumZ_1]; have := hn.out; omega), rfl, rfl, Below.refl _ _⟩
      case round =>
        obtain ⟨k, z, hk1, hk2, hz1, hz2, hz3, hn2, rfl, rfl, hb⟩ := hrel
        obtain ⟨b5, b6⟩ := monZ_bd y k
        by_cases hl2 : monZ y k ≤ z
        · have hk3 := mon_12 y k z hk1 hk2 hz3 hl2
          have hs := Lib.hid (cumZ_succ y k hk1 hk2)
          have hz4 : cumZ y (k + 1) + (z - monZ y k) < longZ y := by rw [hs.out]; omega
          have hn4 := Lib.hid (show firstZ y + cumZ y (k + 1) + (z - monZ y k) = n by rw [hs.out]; have := hn2.out; omega)
          go_wp2_with fail
          refine (specMonth_any _ _ _ (by omega) (by omega) (by omega)).mono ?_
          rintro e w' ⟨rfl, hb1⟩
          go_wp2_with fail
          refine (specMonth_any _ _ _ (by omega) (by omega) (by omega)).mono ?_
          rintro e w' ⟨rfl, hb2⟩
          go_wp2
          go_roundw
          case rel => exact ⟨k + 1, z - monZ y k, by omega, by omega, by omega, by omega, hz4, hn4, rfl, rfl, hb.trans ((hb1.trans (hb2.mono hb1.size)).mono hb.size)⟩
          case measure => simp [intOf]; omega
        · go_wp2_with (first | (go_at_call 48; refine (specMonth_any _ _ _ (by omega) (by omega) (by omega)).mono ?_; rintro e w' ⟨rfl, hb1⟩))
          go_ret3
          exact ⟨y, k, z + 1, rfl, okZ_mk hy1 hy2 hk1 hk2 (by omega) (by omega), by unfold numZ; have := hn2.out; omega, hb.trans (hb1.mono hb.size)⟩

def DateE (y m d : Int) (ok : Bool) : Ending := .returned (.tuple #[.int .i64 y, .int .i64 m, .int .i64 d, .bool ok])
theorem specDateOf_yes (n : Int) (w : World) (h : dayB n = true) :
    Calls Try.prog 21 #[.int .i64 n] w (Dated n (fun y m d => DateE y m d true) w) := by
  obtain ⟨h1, h2⟩ := dayB_t h
  have H := Lib.hid h
  clear h
  go_enter Try.func21, Try.ntmps21
  go_wp2_with (first | (go_at_call 51; refine (specIsDay_any _ _).mono ?_; rw [H.out]; rintro e w' ⟨rfl, rfl⟩) | (go_at_call 52; refine (specTold_any _ _ h1 h2).mono ?_; rintro e w' ⟨y, m, d, rfl, hok, hn, hb⟩; have hok := Lib.hid hok; have hn := Lib.hid hn; unfold Told))
  refine bodyPost_ret (results_tmp4 rfl _ _ _) rfl ?_
  exact ⟨y, m, d, rfl, hok.out, hn.out, hb⟩
theorem specDateOf_no (n : Int) (w : World) (h : dayB n = false) :
    Calls Try.prog 21 #[.int .i64 n] w (fun e w' => e = DateE 0 0 0 false ∧ w = w') := by
  have H := Lib.hid h
  clear h
  go_enter Try.func21, Try.ntmps21
  go_wp2_with (first | (go_at_call 51; refine (specIsDay_any _ _).mono ?_; rw [H.out]; rintro e w' ⟨rfl, rfl⟩))
  refine bodyPost_ret (results_tmp4 rfl _ _ _) rfl ?_
  exact ⟨rfl, rfl⟩
theorem implDateOf_no (n : Int) (w : World) (h : dayB n = false) :
    Calls Try.prog 22 #[.int .i64 n] w (fun e w' => e = DateE 0 0 0 false ∧ w = w') := by
  have H := Lib.hid h
  clear h
  go_enter Try.func22, Try.ntmps22
  go_wp2_with (first | (go_at_call 53; refine (implIsDay_any _ _).mono ?_; rw [H.out]; rintro e w' ⟨rfl, rfl⟩))
  refine bodyPost_ret (results_tmp4 rfl _ _ _) rfl ?_
  exact ⟨rfl, rfl⟩
theorem implDateOf_yes (n : Int) (w : World) (h : dayB n = true) :
    Calls Try.prog 22 #[.int .i64 n] w (Dated n (fun y m d => DateE y m d true) w) := by
  obtain ⟨h1, h2⟩ := dayB_t h
  obtain ⟨c1, c2, c3⟩ := guess n h1 h2
  have H := Lib.hid h
  clear h
  go_enter Try.func22, Try.ntmps22
  go_wp2_with (first | (go_at_call 53; refine (implIsDay_any _ _).mono ?_; rw [H.out]; rintro e w' ⟨rfl, rfl⟩))
  go_loop [6] (fun a => ∃ y : Int, 1900 ≤ y ∧ y ≤ 2199 ∧ firstZ y ≤ n ∧ a = .int .i64 y) (fun a => (2200 - intOf a).toNat)
  case atStart => exact ⟨_, c1, c2, c3, rfl⟩
  case round =>
    obtain ⟨y, hy1, hy2, hy3, rfl⟩ := hrel
    by_cases hlt : firstZ (y + 1) ≤ n
    · have hy4 := last_year (y + 1) n hlt h2
      go_wp2_with (go_at_call 50; refine (implStart_any _ _ (by omega) (by omega)).mono ?_; rintro e w' ⟨rfl, rfl⟩)
      go_round
      case rel => exact ⟨y + 1, by omega, by omega, hlt, rfl⟩
      case measure => simp [intOf]; omega
    · have b5 := firstZ_small y (by omega) (by omega)
      have b6 : n < firstZ y + longZ y := by have := firstZ_succ y; omega
      have b7 := longZ_bd y
      have b8 := monZ_bd y 1
      have HM := Lib.hid (show monthB y 1 = true by unfold monthB yearB; simp; omega)
      have HR := Lib.hid (show longR y 1 = monZ y 1 by unfold longR; rw [HM.out]; rfl)
      go_wp2_with (first | (go_at_call 50; refine (implStart_any _ _ (by omega) (by omega)).mono ?_; rintro e w' ⟨rfl, rfl⟩) | (go_at_call 18; refine (implLongOf_any _ _ _).mono ?_; rw [HM.out, HR.out]; unfold RetI; rintro e w' ⟨rfl, rfl⟩))
      go_loop [7, 8, 9] (fun m d l => ∃ k z : Int, 1 ≤ k ∧ k ≤ 12 ∧ 0 ≤ z ∧ z ≤ 400 ∧ cumZ y k + z < longZ y ∧ Hid (firstZ y + cumZ y k + z = n) ∧ m = .int .i64 k ∧ d = .int .i64 (z + 1) ∧ l = .int .i64 (monZ y k)) (fun m _ _ => (13 - intOf m).toNat)
      case atStart => exact ⟨1, n - firstZ y, by omega, by omega, by omega, by omega, by rw [cumZ_1]; omega, Lib.hid (by rw [cumZ_1]; omega), rfl, rfl, rfl⟩
      case round =>
        obtain ⟨k, z, hk1, hk2, hz1, hz2, hz3, hn2, rfl, rfl, rfl⟩ := hrel
        obtain ⟨c5, c6⟩ := monZ_bd y k
        by_cases hl2 : monZ y k ≤ z
        · have hk3 := mon_12 y k z hk1 hk2 hz3 hl2
          have hs := Lib.hid (cumZ_succ y k hk1 hk2)
          have hz4 : cumZ y (k + 1) + (z - monZ y k) < longZ y := by rw [hs.out]; omega
          have hn4 := Lib.hid (show firstZ y + cumZ y (k + 1) + (z - monZ y k) = n by rw [hs.out]; have := hn2.out; omega)
          have HMk := Lib.hid (show monthB y (k + 1) = true by unfold monthB yearB; simp; omega)
          have HRk := Lib.hid (show longR y (k + 1) = monZ y (k + 1) by unfold longR; rw [HMk.out]; rfl)
          go_wp2_with (first | (go_at_call 18; refine (implLongOf_any _ _ _).mono ?_; rw [HMk.out, HRk.out]; unfold RetI; rintro e w' ⟨rfl, rfl⟩))
          go_round
          case rel => exact ⟨k + 1, z - monZ y k, by omega, by omega, by omega, by omega, hz4, hn4, rfl, by go_num, rfl⟩
          case measure => simp [intOf]; omega
        · go_wp2
          refine bodyPost_ret (results_tmp4 rfl _ _ _) rfl ?_
          exact ⟨y, k, z + 1, rfl, okZ_mk hy1 hy2 hk1 hk2 (by omega) (by omega), by unfold numZ; have := hn2.out; omega, Below.refl _ _⟩
end Go.Proofs.Ytlcdbfijjjobjaa
