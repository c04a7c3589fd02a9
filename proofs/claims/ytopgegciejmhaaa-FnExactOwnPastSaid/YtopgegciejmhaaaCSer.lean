/-
  Series, in both packages: IsSeries, l02Series, and finite numbers or none.
-/
import Derived.Test.YtopgegciejmhaaaCIsf
import Derived.Test.YtopgegciejmhaaaFsl
namespace Go.Proofs.Ytopgegciejmhaaa
open Ieee Go.RowKit
set_option linter.unusedVariables false

def fins (zs : List Nat) : Bool := zs.all (fin .f32)
def serB (zs : List Nat) : Bool := decide (1 ≤ zs.length ∧ zs.length ≤ 96) && fins zs
theorem fins_snoc {zs : List Nat} {k : Nat} (h : k < zs.length) : fins (zs.take (k + 1)) = (fins (zs.take k) && fin .f32 (zs.getD k 0)) := by
  rw [list_snoc h]; unfold fins; rw [List.all_append]; simp
theorem fins_bad {zs : List Nat} {k : Nat} (h : k < zs.length) (hb : fin .f32 (zs.getD k 0) = false) : fins zs = false := by
  unfold fins
  rw [List.all_eq_false]
  refine ⟨zs.getD k 0, ?_, by rw [hb]; simp⟩
  simp [List.getD, h]
theorem fins_all {zs : List Nat} {k : Nat} (h : fins (zs.take k) = true) (hk : zs.length ≤ k) : fins zs = true := by
  rwa [List.take_of_length_le hk] at h
theorem fins_more {zs : List Nat} {k : Nat} (h : k < zs.length) (ha : fins (zs.take k) = true) (hb : fin .f32 (zs.getD k 0) = true) : fins (zs.take (k + 1)) = true := by
  rw [fins_snoc h, ha, hb]; rfl
theorem fins_at {zs : List Nat} (h : fins zs = true) {k : Nat} (hk : k < zs.length) : fin .f32 (zs.getD k 0) = true := by
  have := List.all_eq_true.1 h (zs.getD k 0) (by simp [List.getD, hk])
  exact this
theorem serB_t {zs : List Nat} (h : serB zs = true) : 1 ≤ zs.length ∧ zs.length ≤ 96 ∧ fins zs = true := by
  unfold serB at h; simp at h; exact ⟨h.1.1, h.1.2, h.2⟩

theorem specFinite_any (a : Option Addr) (len cap : Nat) (zs : List Nat) (w : World) (h : FSl w a len zs) (hm : len ≤ 1048576) :
    Calls Try.prog 84 #[.slice a len cap] w (RetV (.bool (fins zs)) w) := by
  have H := Lib.hid h
  have HL := Lib.hid h.1
  clear h
  go_enter Try.func84, Try.ntmps84
  go_wp2
  go_loopw [3] (fun i wr => ∃ k n : Nat, k ≤ len ∧ i = .int .i64 k ∧ wr = w.drewN n ∧ Hid (fins (zs.take k) = true)) (fun i _ => len - (intOf i).toNat)
  case atStart => exact ⟨0, 0, Nat.zero_le _, rfl, rfl, Lib.hid rfl⟩
  case round =>
    obtain ⟨k, n, hk, rfl, rfl, hf⟩ := hrel
    by_cases hlt : k < len
    · obtain ⟨b, off, rfl, _, hc⟩ := H.out.at (by omega)
      have hck := hc k hlt
      have hlt2 : k < zs.length := by rw [HL.out]; exact hlt
      cases hz : fin .f32 (zs.getD k 0)
      · have HF := Lib.hid hz
        have hfin := Lib.hid (fins_bad hlt2 hz)
        clear hz hc H hlt2
        generalize zs.getD k 0 = z at *
        go_wp2_with (go_at_call 59; refine (l01Finite_any _ _).mono ?_; rw [HF.out]; rintro e w' ⟨m, rfl, rfl⟩)
        go_ret
        exact ⟨_, congrArg (fun b => Ending.returned (Value.bool b)) hfin.out.symm, rfl⟩
      · have HF := Lib.hid hz
        have hstep := Lib.hid (fins_more hlt2 hf.out hz)
        clear hz hc H hlt2 hf
        generalize zs.getD k 0 = z at *
        go_wp2_with (go_at_call 59; refine (l01Finite_any _ _).mono ?_; rw [HF.out]; rintro e w' ⟨m, rfl, rfl⟩)
        go_roundw
        case rel => exact ⟨k + 1, _, by omega, by go_num, rfl, hstep⟩
        case measure => simp [intOf]; omega
    · have hfin := Lib.hid (fins_all hf.out (by rw [HL.out]; omega))
      clear hf H
      go_wp2
      go_ret
      exact ⟨n, congrArg (fun b => Ending.returned (Value.bool b)) hfin.out.symm, rfl⟩

theorem serB_long {zs : List Nat} {len : Nat} (hl : zs.length = len) (h : ¬ (1 ≤ len ∧ len ≤ 96)) : serB zs = false := by
  unfold serB; rw [hl, decide_eq_false h]; rfl
theorem serB_short {zs : List Nat} {len : Nat} (hl : zs.length = len) (h1 : 1 ≤ len) (h2 : len ≤ 96) : serB zs = fins zs := by
  unfold serB; rw [hl, decide_eq_true ⟨h1, h2⟩]; rfl
theorem specSeries_any (a : Option Addr) (len cap : Nat) (zs : List Nat) (w : World) (h : FSl w a len zs) (hm : len ≤ 1048576) :
    Calls Try.prog 65 #[.slice a len cap] w (RetV (.bool (serB zs)) w) := by
  by_cases h1 : 1 ≤ len
  · by_cases h2 : len ≤ 96
    · have hd : decide ((len : Int) ≤ 96) = true := decide_eq_true (by omega)
      have HS := Lib.hid (serB_short h.1 h1 h2)
      have H := Lib.hid h
      clear h
      go_enter Try.func65, Try.ntmps65
      go_wp2_with (go_at_call 84; refine (specFinite_any _ _ _ _ _ H.out hm).mono ?_; rintro e w' ⟨m, rfl, rfl⟩)
      go_ret
      exact ⟨m, congrArg (fun b => Ending.returned (Value.bool b)) HS.out.symm, rfl⟩
    · have hd : decide ((len : Int) ≤ 96) = false := decide_eq_false (by omega)
      have HS := Lib.hid (serB_long h.1 (fun hh => h2 hh.2))
      clear h
      go_enter Try.func65, Try.ntmps65
      go_wp2_with fail
      go_ret
      exact ⟨0, congrArg (fun b => Ending.returned (Value.bool b)) HS.out.symm, rfl⟩
  · have HS := Lib.hid (serB_long h.1 (fun hh => h1 hh.1))
    obtain rfl : len = 0 := by omega
    clear h
    go_enter Try.func65, Try.ntmps65
    go_wp2_with fail
    go_ret
    exact ⟨0, congrArg (fun b => Ending.returned (Value.bool b)) HS.out.symm, rfl⟩

theorem imFins_any (a : Option Addr) (len cap : Nat) (zs : List Nat) (w : World) (h : FSl w a len zs) (hm : len ≤ 1048576) :
    Calls Try.prog 122 #[.slice a len cap] w (RetV (.bool (fins zs)) w) := by
  have H := Lib.hid h
  have HL := Lib.hid h.1
  clear h
  go_enter Try.func122, Try.ntmps122
  go_wp2
  go_loopw [4, 7] (fun x i wr => ∃ k n : Nat, k ≤ len ∧ i = .int .i64 k ∧ wr = w.drewN n ∧ Hid (fins (zs.take k) = true)) (fun _ i _ => len - (intOf i).toNat)
  case atStart => exact ⟨0, 0, Nat.zero_le _, rfl, rfl, Lib.hid rfl⟩
  case round =>
    obtain ⟨k, n, hk, rfl, rfl, hf⟩ := hrel
    by_cases hlt : k < len
    · obtain ⟨b, off, rfl, _, hc⟩ := H.out.at (by omega)
      have hck := hc k hlt
      have hlt2 : k < zs.length := by rw [HL.out]; exact hlt
      cases hz : fin .f32 (zs.getD k 0)
      · have HF := Lib.hid hz
        have hfin := Lib.hid (fins_bad hlt2 hz)
        clear hz hc H hlt2
        generalize zs.getD k 0 = z at *
        go_wp2_with (go_at_call 123; refine (isFinite_any _ _).mono ?_; rw [HF.out]; rintro e w' ⟨m, rfl, rfl⟩)
        go_ret
        exact ⟨_, congrArg (fun b => Ending.returned (Value.bool b)) hfin.out.symm, rfl⟩
      · have HF := Lib.hid hz
        have hstep := Lib.hid (fins_more hlt2 hf.out hz)
        clear hz hc H hlt2 hf
        generalize zs.getD k 0 = z at *
        go_wp2_with (go_at_call 123; refine (isFinite_any _ _).mono ?_; rw [HF.out]; rintro e w' ⟨m, rfl, rfl⟩)
        go_roundw
        case rel => exact ⟨k + 1, _, by omega, by go_num, rfl, hstep⟩
        case measure => simp [intOf]; omega
    · have hfin := Lib.hid (fins_all hf.out (by rw [HL.out]; omega))
      clear hf H
      go_wp2
      go_ret
      exact ⟨n, congrArg (fun b => Ending.returned (Value.bool b)) hfin.out.symm, rfl⟩
theorem implSeries_any (a : Option Addr) (len cap : Nat) (zs : List Nat) (w : World) (h : FSl w a len zs) (hm : len ≤ 1048576) :
    Calls Try.prog 89 #[.slice a len cap] w (RetV (.bool (serB zs)) w) := by
  by_cases h1 : 1 ≤ len
  · by_cases h2 : len ≤ 96
    · have hd : decide ((len : Int) ≤ 96) = true := decide_eq_true (by omega)
      have HS := Lib.hid (serB_short h.1 h1 h2)
      have H := Lib.hid h
      clear h
      go_enter Try.func89, Try.ntmps89
      go_wp2_with (go_at_call 122; refine (imFins_any _ _ _ _ _ H.out hm).mono ?_; rintro e w' ⟨m, rfl, rfl⟩)
      go_ret
      exact ⟨m, congrArg (fun b => Ending.returned (Value.bool b)) HS.out.symm, rfl⟩
    · have hd : decide ((len : Int) ≤ 96) = false := decide_eq_false (by omega)
      have HS := Lib.hid (serB_long h.1 (fun hh => h2 hh.2))
      clear h
      go_enter Try.func89, Try.ntmps89
      go_wp2_with fail
      go_ret
      exact ⟨0, congrArg (fun b => Ending.returned (Value.bool b)) HS.out.symm, rfl⟩
  · have HS := Lib.hid (serB_long h.1 (fun hh => h1 hh.1))
    obtain rfl : len = 0 := by omega
    clear h
    go_enter Try.func89, Try.ntmps89
    go_wp2_with fail
    go_ret
    exact ⟨0, congrArg (fun b => Ending.returned (Value.bool b)) HS.out.symm, rfl⟩
theorem specNumber_any (x : Nat) (w : World) : Calls Try.prog 88 #[.float .f32 x] w (RetFB .f32 (if fin .f32 x then cn .f32 x else 0) (fin .f32 x) w) := by
  cases hx : fin .f32 x
  all_goals
    have HX := Lib.hid hx
    clear hx
    go_enter Try.func88, Try.ntmps88
    go_wp2_with (go_at_call 59; refine (l01Finite_any _ _).mono ?_; rw [HX.out]; rintro e w' ⟨m, rfl, rfl⟩)
    go_ret2
    exact ⟨_, m, by first | rfl | exact cn_zero, rfl, rfl⟩
theorem implOnly_any (x : Nat) (w : World) : Calls Try.prog 92 #[.float .f32 x] w (RetFB .f32 (if fin .f32 x then cn .f32 x else 0) (fin .f32 x) w) := by
  cases hx : fin .f32 x
  all_goals
    have HX := Lib.hid hx
    clear hx
    go_enter Try.func92, Try.ntmps92
    go_wp2_with (go_at_call 123; refine (isFinite_any _ _).mono ?_; rw [HX.out]; rintro e w' ⟨m, rfl, rfl⟩)
    go_ret2
    exact ⟨_, m, by first | rfl | exact cn_zero, rfl, rfl⟩
end Go.Proofs.Ytopgegciejmhaaa
