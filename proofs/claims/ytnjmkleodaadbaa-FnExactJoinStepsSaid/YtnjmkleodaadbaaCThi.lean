/-
  ThinSteps, in both packages.
-/
import Derived.Test.YtnjmkleodaadbaaCBox
namespace Go.Proofs.Ytnjmkleodaadbaa
open Ieee Go.RowKit
set_option linter.unusedVariables false

def thinZ (zs : List Nat) (n k : Nat) : List Nat := tells (fun j => cn .f32 (zs.getD (j * n) 0)) k
def thinR (zs : List Nat) (a : Int) : List Nat := if stepB zs a then thinZ zs a.toNat ((zs.length + a.toNat - 1) / a.toNat) else []
theorem thinR_len (zs : List Nat) (a : Int) : (thinR zs a).length ≤ 1048576 := by
  unfold thinR
  split
  · rename_i h
    obtain ⟨_, h1, h2, h3⟩ := stepB_t h
    unfold thinZ
    rw [tells_len]
    have := Nat.div_le_self (zs.length + a.toNat - 1) a.toNat
    omega
  · simp
theorem thin_bad {zs : List Nat} {a : Int} (h : stepB zs a = false) : thinR zs a = [] := by unfold thinR; rw [h]; rfl
theorem thin_end {zs : List Nat} {n k i : Nat} (hn : 1 ≤ n) (h : stepB zs n = true) (hi : i = k * n) (h1 : zs.length ≤ i) (h2 : i < zs.length + n) : thinR zs n = thinZ zs n k := by
  unfold thinR
  rw [h, if_pos rfl, Int.toNat_natCast]
  congr 1
  subst hi
  refine Nat.div_eq_of_lt_le (by omega) ?_
  rw [Nat.succ_mul]
  omega

set_option maxHeartbeats 1000000 in
theorem specThin_any (a : Option Addr) (len cap : Nat) (zs : List Nat) (q : Int) (w : World) (h : FSl w a len zs) (hm : len ≤ 1048576) :
    Calls Try.prog 30 #[.slice a len cap, .int .i64 q] w (RetOB 26 (thinR zs q) (stepB zs q) w) := by
  obtain ⟨i0, hi, hz0, hz1, hz2⟩ := info_parts Try.infoR
  have H := Lib.hid h
  have HL := Lib.hid h.1
  clear h
  cases hB : stepB zs q
  · have HB := Lib.hid hB
    cases hs : serB zs
    · have HS := Lib.hid hs
      clear hs hB
      go_enter Try.func30, Try.ntmps30
      go_wp2_with (go_at_call 44; refine (specSeries_any _ _ _ _ _ H.out hm).mono ?_; rw [HS.out]; rintro e w' ⟨m, rfl, rfl⟩)
      go_ret2
      exact fail_ob _ rfl (thin_bad HB.out) (below_drewN (Below.refl _ _) _)
    · have hq := stepB_f hB hs
      rw [HL.out] at hq
      have HS := Lib.hid hs
      clear hs hB
      rcases hq with hq | hq
      · have hd : decide (1 ≤ q) = false := decide_eq_false (by omega)
        go_enter Try.func30, Try.ntmps30
        go_wp2_with (first | (go_at_call 44; refine (specSeries_any _ _ _ _ _ H.out hm).mono ?_; rw [HS.out]; rintro e w' ⟨m, rfl, rfl⟩) | (go_at_call 56; go_in))
        go_ret2
        exact fail_ob _ rfl (thin_bad HB.out) (below_drewN (Below.refl _ _) _)
      · have hd : decide (q ≤ (len : Int)) = false := decide_eq_false (by omega)
        have hd2 : decide (1 ≤ q) = true := decide_eq_true (by omega)
        go_enter Try.func30, Try.ntmps30
        go_wp2_with (first | (go_at_call 44; refine (specSeries_any _ _ _ _ _ H.out hm).mono ?_; rw [HS.out]; rintro e w' ⟨m, rfl, rfl⟩) | (go_at_call 56; go_in))
        go_ret2
        exact fail_ob _ rfl (thin_bad HB.out) (below_drewN (Below.refl _ _) _)
  · obtain ⟨hs, hq1, hq2, hq3⟩ := stepB_t hB
    obtain ⟨n, rfl⟩ : ∃ n : Nat, q = n := ⟨q.toNat, by omega⟩
    rw [HL.out] at hq2 hq3
    have HS := Lib.hid hs
    have HB := Lib.hid hB
    clear hs hB
    have hd1 : decide (1 ≤ (n : Int)) = true := decide_eq_true hq1
    have hd2 : decide ((n : Int) ≤ (len : Int)) = true := decide_eq_true hq2
    have hd3 : decide (n ≤ len) = true := decide_eq_true (by omega)
    have hn1 : 1 ≤ n := by omega
    go_enter Try.func30, Try.ntmps30
    go_wp2_with fail
    refine (specSeries_any _ _ _ _ _ H.out hm).mono ?_
    rw [HS.out]
    rintro e w' ⟨m, rfl, rfl⟩
    have HN := Lib.hid (FOwn.made (T := 26) (B := w.heap.size) (w.drewN m) (Nat.le_refl _))
    have HB0 := Lib.hid ((below_drewN (Below.refl w.heap.size w) m).alloc (Nat.le_refl _) (.cells #[] 26))
    go_wp2_with fail
    refine (in_yes _ _ _ _ hq1 hq2).mono ?_
    rintro e w' ⟨rfl, rfl⟩
    go_wp2
    go_loopw [6, 7] (fun v c wr => ∃ (k i : Nat) (rs : List Nat), i < len + n ∧ c = .int .i64 i ∧ Hid (i = k * n) ∧ k ≤ i ∧ Hid (rs.length = k) ∧ Hid (FOwn 26 w.heap.size wr v rs) ∧ Hid (cnl rs = thinZ zs n k) ∧ Hid (Below w.heap.size w wr)) (fun _ c _ => len + n - (intOf c).toNat)
    case atStart => exact ⟨0, 0, [], by omega, rfl, Lib.hid (by simp), by omega, Lib.hid rfl, HN, Lib.hid rfl, HB0⟩
    case round =>
      rename_i wr
      obtain ⟨k, i, rs, hi2, rfl, hik, hki, hrl, hown, hrs, hbel⟩ := hrel
      by_cases hlt : i < len
      · obtain ⟨b, off, rfl, hb, hc⟩ := H.out.at (by omega)
        have hck := hc i hlt
        rw [← hbel.out.cell (p := ⟨b, off + i, none⟩) hb] at hck
        have hcs := Lib.hid (show ∀ z, zs.getD i 0 = z → cnl (rs ++ [z]) = thinZ zs n (k + 1) from fun z hz => (cnl_snoc hrs.out (by rw [← hz, hik.out])).trans (tells_succ (fun j => cn .f32 (zs.getD (j * n) 0)) k).symm)
        have hsz := hbel.out.size
        have hrk : rs.length ≤ 1048576 := by have := hrl.out; omega
        have hcz := Lib.hid (hcs.out _ rfl)
        clear hcs hc hb H
        generalize zs.getD i 0 = z at *
        go_wp2_with (at_builtin; refine wpList_append_own _ rfl _ _ 22 rfl w.heap.size 26 i0 (.float .f32 0) 1 4 Try.underlying22 hi hz0 hz1 hz2 rfl (by decide) _ _ _ rfl (World.ownsRow.alloc (FOwn.drewN hown.out 0) _) ⟨wr.heap.size, 0, none⟩ 1 1 [_] rfl rfl (one_new rfl) ?c2 ?c3 ?c4 ?c5 ?_)
        case c2 => intro u hu; simp at hu; subst hu; rfl
        case c3 => unfold maxLen; omega
        case c4 => omega
        case c5 => simp; show w.heap.size ≤ wr.heap.size + 1; omega
        intro v' w1 hown' hgrow _
        have R := FOwn.push (n := 0) hown.out hbel.out hsz hown' hgrow
        have hR := Lib.hid R
        have hrl2 := Lib.hid hrl.out
        have hik2 := Lib.hid (show i + n = (k + 1) * n by rw [hik.out, Nat.succ_mul])
        clear R hown' hgrow hown hbel hrs hrl hck hik
        go_wp2
        go_roundw
        case rel =>
          refine ⟨k + 1, i + n, _, by omega, by go_num, hik2, by omega, ?_, Lib.hid hR.out.1, hcz, Lib.hid hR.out.2⟩
          exact Lib.hid (by rw [List.length_append, hrl2.out]; rfl)
        case measure => simp [intOf]; omega
      · have hfin := Lib.hid (thin_end hn1 HB.out hik.out (by rw [HL.out]; omega) (by rw [HL.out]; omega))
        clear H
        go_wp2
        go_ret2
        exact ⟨_, rs, rfl, hown.out, hrs.out.trans hfin.out.symm, hbel.out⟩

theorem implSteps_any (a : Option Addr) (len cap : Nat) (zs : List Nat) (q : Int) (w : World) (h : FSl w a len zs) (hm : len ≤ 1048576) :
    Calls Try.prog 58 #[.slice a len cap, .int .i64 q] w (RetV (.bool (stepB zs q)) w) := by
  have H := Lib.hid h
  have HL := Lib.hid h.1
  clear h
  cases hs : serB zs
  · have HB := Lib.hid (show stepB zs q = false by unfold stepB; rw [hs]; rfl)
    have HS := Lib.hid hs
    clear hs
    go_enter Try.func58, Try.ntmps58
    go_wp2_with (go_at_call 17; refine (implSeries_any _ _ _ _ _ H.out hm).mono ?_; rw [HS.out]; rintro e w' ⟨m, rfl, rfl⟩)
    go_ret
    exact ⟨_, congrArg (fun b => Ending.returned (Value.bool b)) HB.out.symm, rfl⟩
  · have HS := Lib.hid hs
    have HB := Lib.hid (show stepB zs q = decide (1 ≤ q ∧ q ≤ len) by unfold stepB; rw [hs, HL.out]; rfl)
    clear hs
    by_cases h1 : 1 ≤ q
    · by_cases h2 : q ≤ (len : Int)
      · have HE := Lib.hid (HB.out.trans (decide_eq_true ⟨h1, h2⟩))
        have hd1 : decide (1 ≤ q) = true := decide_eq_true h1
        have hd2 : decide (q ≤ (len : Int)) = true := decide_eq_true h2
        go_enter Try.func58, Try.ntmps58
        go_wp2_with (go_at_call 17; refine (implSeries_any _ _ _ _ _ H.out hm).mono ?_; rw [HS.out]; rintro e w' ⟨m, rfl, rfl⟩)
        go_ret
        exact ⟨_, congrArg (fun b => Ending.returned (Value.bool b)) HE.out.symm, rfl⟩
      · have HE := Lib.hid (HB.out.trans (decide_eq_false (fun hh => h2 hh.2)))
        have hd1 : decide (1 ≤ q) = true := decide_eq_true h1
        have hd2 : decide (q ≤ (len : Int)) = false := decide_eq_false h2
        go_enter Try.func58, Try.ntmps58
        go_wp2_with (go_at_call 17; refine (implSeries_any _ _ _ _ _ H.out hm).mono ?_; rw [HS.out]; rintro e w' ⟨m, rfl, rfl⟩)
        go_ret
        exact ⟨_, congrArg (fun b => Ending.returned (Value.bool b)) HE.out.symm, rfl⟩
    · have HE := Lib.hid (HB.out.trans (decide_eq_false (fun hh => h1 hh.1)))
      have hd1 : decide (1 ≤ q) = false := decide_eq_false h1
      go_enter Try.func58, Try.ntmps58
      go_wp2_with (go_at_call 17; refine (implSeries_any _ _ _ _ _ H.out hm).mono ?_; rw [HS.out]; rintro e w' ⟨m, rfl, rfl⟩)
      go_ret
      exact ⟨_, congrArg (fun b => Ending.returned (Value.bool b)) HE.out.symm, rfl⟩

set_option maxHeartbeats 1000000 in
theorem implThin_any (a : Option Addr) (len cap : Nat) (zs : List Nat) (q : Int) (w : World) (h : FSl w a len zs) (hm : len ≤ 1048576) :
    Calls Try.prog 31 #[.slice a len cap, .int .i64 q] w (RetOB 26 (thinR zs q) (stepB zs q) w) := by
  obtain ⟨i0, hi, hz0, hz1, hz2⟩ := info_parts Try.infoR
  have H := Lib.hid h
  have HL := Lib.hid h.1
  clear h
  cases hB : stepB zs q
  · have HB := Lib.hid hB
    clear hB
    go_enter Try.func31, Try.ntmps31
    go_wp2_with (go_at_call 58; refine (implSteps_any _ _ _ _ _ _ H.out hm).mono ?_; rw [HB.out]; rintro e w' ⟨m, rfl, rfl⟩)
    go_ret2
    exact fail_ob _ rfl (thin_bad HB.out) (below_drewN (Below.refl _ _) _)
  · obtain ⟨hs, hq1, hq2, hq3⟩ := stepB_t hB
    obtain ⟨n, rfl⟩ : ∃ n : Nat, q = n := ⟨q.toNat, by omega⟩
    rw [HL.out] at hq2 hq3
    have HB := Lib.hid hB
    clear hs hB
    have hn1 : 1 ≤ n := by omega
    go_enter Try.func31, Try.ntmps31
    go_wp2_with fail
    refine (implSteps_any _ _ _ _ _ _ H.out hm).mono ?_
    rw [HB.out]
    rintro e w' ⟨m, rfl, rfl⟩
    have HN := Lib.hid (FOwn.nil 26 w.heap.size (w.drewN m))
    have HB0 := Lib.hid (below_drewN (Below.refl w.heap.size w) m)
    go_wp2
    go_loopw [6, 7] (fun v c wr => ∃ (k i : Nat) (rs : List Nat), i < len + n ∧ c = .int .i64 i ∧ Hid (i = k * n) ∧ k ≤ i ∧ Hid (rs.length = k) ∧ Hid (FOwn 26 w.heap.size wr v rs) ∧ Hid (cnl rs = thinZ zs n k) ∧ Hid (Below w.heap.size w wr)) (fun _ c _ => len + n - (intOf c).toNat)
    case atStart => exact ⟨0, 0, [], by omega, rfl, Lib.hid (by simp), by omega, Lib.hid rfl, HN, Lib.hid rfl, HB0⟩
    case round =>
      rename_i wr
      obtain ⟨k, i, rs, hi2, rfl, hik, hki, hrl, hown, hrs, hbel⟩ := hrel
      by_cases hlt : i < len
      · obtain ⟨b, off, rfl, hb, hc⟩ := H.out.at (by omega)
        have hck := hc i hlt
        rw [← hbel.out.cell (p := ⟨b, off + i, none⟩) hb] at hck
        have hcs := Lib.hid (show ∀ z, zs.getD i 0 = z → cnl (rs ++ [z]) = thinZ zs n (k + 1) from fun z hz => (cnl_snoc hrs.out (by rw [← hz, hik.out])).trans (tells_succ (fun j => cn .f32 (zs.getD (j * n) 0)) k).symm)
        have hsz := hbel.out.size
        have hrk : rs.length ≤ 1048576 := by have := hrl.out; omega
        have hcz := Lib.hid (hcs.out _ rfl)
        clear hcs hc hb H
        generalize zs.getD i 0 = z at *
        go_wp2_with (at_builtin; refine wpList_append_own _ rfl _ _ 22 rfl w.heap.size 26 i0 (.float .f32 0) 1 4 Try.underlying22 hi hz0 hz1 hz2 rfl (by decide) _ _ _ rfl (World.ownsRow.alloc (FOwn.drewN hown.out 0) _) ⟨wr.heap.size, 0, none⟩ 1 1 [_] rfl rfl (one_new rfl) ?c2 ?c3 ?c4 ?c5 ?_)
        case c2 => intro u hu; simp at hu; subst hu; rfl
        case c3 => unfold maxLen; omega
        case c4 => omega
        case c5 => simp; show w.heap.size ≤ wr.heap.size + 1; omega
        intro v' w1 hown' hgrow _
        have R := FOwn.push (n := 0) hown.out hbel.out hsz hown' hgrow
        have hR := Lib.hid R
        have hrl2 := Lib.hid hrl.out
        have hik2 := Lib.hid (show i + n = (k + 1) * n by rw [hik.out, Nat.succ_mul])
        clear R hown' hgrow hown hbel hrs hrl hck hik
        go_wp2
        go_roundw
        case rel =>
          refine ⟨k + 1, i + n, _, by omega, by go_num, hik2, by omega, ?_, Lib.hid hR.out.1, hcz, Lib.hid hR.out.2⟩
          exact Lib.hid (by rw [List.length_append, hrl2.out]; rfl)
        case measure => simp [intOf]; omega
      · have hfin := Lib.hid (thin_end hn1 HB.out hik.out (by rw [HL.out]; omega) (by rw [HL.out]; omega))
        clear H
        go_wp2
        go_ret2
        exact ⟨_, rs, rfl, hown.out, hrs.out.trans hfin.out.symm, hbel.out⟩
end Go.Proofs.Ytnjmkleodaadbaa
