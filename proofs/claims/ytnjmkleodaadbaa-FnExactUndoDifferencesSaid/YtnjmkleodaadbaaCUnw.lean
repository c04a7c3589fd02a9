/-
  UndoDifferences, in both packages: the whole functions.
-/
import Derived.Test.YtnjmkleodaadbaaCUnd
namespace Go.Proofs.Ytnjmkleodaadbaa
open Ieee Go.RowKit
set_option linter.unusedVariables false

theorem und_no {fs ds : List Nat} (h : undB0 fs ds = false) (h1 : serB fs = true) (h2 : serB ds = true) : 96 < fs.length + ds.length := by
  unfold undB0 at h
  rw [h1, h2] at h
  have := of_decide_eq_false (show decide (fs.length + ds.length ≤ 96) = false from h)
  omega

set_option maxHeartbeats 2000000 in
theorem implUnd_any (a a' : Option Addr) (len cap len' cap' : Nat) (fs ds : List Nat) (w : World) (h : FSl w a len fs) (h' : FSl w a' len' ds) (hm : len ≤ 1048576) (hm' : len' ≤ 1048576) :
    Calls Try.prog 41 #[.slice a len cap, .slice a' len' cap'] w (RetOB 26 (undR fs ds) (undB fs ds) w) := by
  obtain ⟨i0, hi, hz0, hz1, hz2⟩ := info_parts Try.infoR
  have H := Lib.hid h
  have H' := Lib.hid h'
  have HL := Lib.hid h.1
  have HL' := Lib.hid h'.1
  clear h h'
  cases hB : undB0 fs ds
  · have HB := Lib.hid (und_bad hB)
    cases hs : serB fs
    · have HS := Lib.hid hs
      clear hs hB
      go_enter Try.func41, Try.ntmps41
      go_wp2_with (go_at_call 17; refine (implSeries_any _ _ _ _ _ H.out hm).mono ?_; rw [HS.out]; rintro e w' ⟨m, rfl, rfl⟩)
      go_ret2
      exact fail_ob _ HB.out.1 HB.out.2 (below_drewN (Below.refl _ _) _)
    · cases hs' : serB ds
      · have HS := Lib.hid hs
        have HS' := Lib.hid hs'
        clear hs hs' hB
        go_enter Try.func41, Try.ntmps41
        go_wp2_with fail
        refine (implSeries_any _ _ _ _ _ H.out hm).mono ?_
        rw [HS.out]
        rintro e w' ⟨m, rfl, rfl⟩
        go_wp2_with fail
        refine (implSeries_any _ _ _ _ _ (FSl.drewN H'.out m) hm').mono ?_
        rw [HS'.out]
        rintro e w' ⟨m', rfl, rfl⟩
        go_wp2
        go_ret2
        exact fail_ob _ HB.out.1 HB.out.2 (below_drewN (Below.refl _ _) _)
      · have hq := und_no hB hs hs'
        rw [HL.out, HL'.out] at hq
        have hd : decide ((96 : Int) < (len : Int) + (len' : Int)) = true := decide_eq_true (by omega)
        have HS := Lib.hid hs
        have HS' := Lib.hid hs'
        clear hs hs' hB
        go_enter Try.func41, Try.ntmps41
        go_wp2_with fail
        refine (implSeries_any _ _ _ _ _ H.out hm).mono ?_
        rw [HS.out]
        rintro e w' ⟨m, rfl, rfl⟩
        go_wp2_with fail
        refine (implSeries_any _ _ _ _ _ (FSl.drewN H'.out m) hm').mono ?_
        rw [HS'.out]
        rintro e w' ⟨m', rfl, rfl⟩
        go_wp2
        go_ret2
        exact fail_ob _ HB.out.1 HB.out.2 (below_drewN (Below.refl _ _) _)
  · obtain ⟨hs, hs', hsum, hl1⟩ := und_t hB
    rw [HL.out, HL'.out] at hsum
    rw [HL.out] at hl1
    have HB := Lib.hid (und_good hB)
    have HS := Lib.hid hs
    have HS' := Lib.hid hs'
    have HFf := Lib.hid (show fins (undK fs ds 0) = true by show fins (cnl fs) = true; rw [fins_cnl]; exact (serB_t hs).2.2)
    have hd : decide ((96 : Int) < (len : Int) + (len' : Int)) = false := decide_eq_false (by omega)
    clear hs hs' hB
    obtain ⟨b, off, rfl, hb, hc⟩ := H.out.at (by omega)
    clear hc
    go_enter Try.func41, Try.ntmps41
    go_wp2_with fail
    refine (implSeries_any _ _ _ _ _ H.out hm).mono ?_
    rw [HS.out]
    rintro e w' ⟨m, rfl, rfl⟩
    go_wp2_with fail
    refine (implSeries_any _ _ _ _ _ (FSl.drewN H'.out m) hm').mono ?_
    rw [HS'.out]
    rintro e w' ⟨m', rfl, rfl⟩
    go_wp2_with fail
    refine (clone_any _ _ _ _ _ _ (FSl.drewN H.out _) (by omega) hm).mono ?_
    rintro e w1 ⟨v0, rfl, hown0, hb0⟩
    have HO0 := Lib.hid (show FOwn 26 w.heap.size w1 v0 fs from hown0)
    have HB0 := Lib.hid ((below_drewN (Below.refl w.heap.size w) _).trans hb0)
    clear hown0 hb0
    go_wp2
    go_loopw [6, 30] (fun v i wr => ∃ (k : Nat) (rs : List Nat), k ≤ len' ∧ i = .int .i64 k ∧ Hid (rs.length = len + k) ∧ Hid (FOwn 26 w.heap.size wr v rs) ∧ Hid (cnl rs = undK fs ds k) ∧ Hid (fins (undK fs ds k) = true) ∧ Hid (Below w.heap.size w wr)) (fun _ i _ => len' - (intOf i).toNat)
    case atStart => exact ⟨0, fs, Nat.zero_le _, rfl, Lib.hid (by rw [HL.out]; rfl), HO0, Lib.hid rfl, HFf, HB0⟩
    case round =>
      rename_i wr
      obtain ⟨k, rs, hk, rfl, hrl, hown, hrs, hfi, hbel⟩ := hrel
      by_cases hlt : k < len'
      · obtain ⟨b', off', rfl, hb', hc'⟩ := H'.out.at (by omega)
        have hck := hc' k hlt
        rw [← hbel.out.cell (p := ⟨b', off' + k, none⟩) hb'] at hck
        have hkr : k < rs.length := by have := hrl.out; omega
        have hrk : rs.length ≤ 1048576 := by have := hrl.out; omega
        obtain ⟨A, cp, he, hsl, hfz⟩ := hown.out.sl
        obtain ⟨b2, rfl, _⟩ := hfz k hkr
        have hck2 : wr.cell? ⟨b2, k, none⟩ = some (.float .f32 (rs.getD k 0)) := by
          obtain ⟨b3, o3, e3, _, hc3⟩ := hsl.at (by omega)
          injection e3 with e3; injection e3 with e4 e5
          subst e4 e5
          have := hc3 k hkr
          rwa [Nat.zero_add] at this
        subst he
        have hsz := hbel.out.size
        have HSt := Lib.hid (show ∀ z y, ds.getD k 0 = z → rs.getD k 0 = y → ∀ w', cnl (rs ++ [fopR .add .f32 z y w']) = undK fs ds (k + 1) from fun z y e1 e2 w' => und_step hrs.out hkr e1 e2 (cn_fopR ..))
        have HFi := Lib.hid (show ∀ z y, ds.getD k 0 = z → rs.getD k 0 = y → ∀ w', fins (undK fs ds (k + 1)) = fin .f32 (fopR .add .f32 z y w') from fun z y e1 e2 w' => by
          rw [← HSt.out z y e1 e2 w', fins_cnl, fins_app, ← fins_cnl rs, hrs.out, hfi.out, Bool.true_and])
        obtain ⟨z, hz⟩ : ∃ z, ds.getD k 0 = z := ⟨_, rfl⟩
        obtain ⟨y, hy⟩ : ∃ y, rs.getD k 0 = y := ⟨_, rfl⟩
        rw [hz] at hck
        rw [hy] at hck2
        have HStz := Lib.hid (HSt.out z y hz hy)
        have HFiz := Lib.hid (HFi.out z y hz hy)
        have HRl := Lib.hid (show (rs.length : Nat) = len + k from hrl.out)
        have hkl : (k : Int) < (rs.length : Int) := by omega
        have hd5 : decide (k < rs.length) = true := decide_eq_true hkr
        clear hz hy HSt HFi hsl hfz hrs hfi hc' hb'
        go_wp2_with fail
        have HG := Lib.hid (fun W => isFinite_any (fopR .add .f32 z y wr) W)
        cases hf : fin .f32 (fopR .add .f32 z y wr)
        · have HF := Lib.hid hf
          have HBad := Lib.hid (show fins (undL fs ds) = false from Bool.eq_false_iff.2 fun hh => by
            have := undK_fins (k := k + 1) (n := ds.length) (by rw [HL'.out]; omega) hh
            rw [HFiz.out wr, hf] at this
            cases this)
          clear hf
          refine (isFinite_any _ _).mono ?_
          rw [HF.out]
          rintro e w' ⟨m2, rfl, rfl⟩
          go_wp2
          go_ret2
          exact fail_ob _ (HB.out.1.trans HBad.out) (HB.out.2.trans (by unfold lstR; rw [HBad.out]; rfl)) (below_drewN hbel.out _)
        · have HF := Lib.hid hf
          have HFn := Lib.hid (show fins (undK fs ds (k + 1)) = true by rw [HFiz.out wr, hf])
          clear hf
          refine (isFinite_any _ _).mono ?_
          rw [HF.out]
          rintro e w' ⟨m2, rfl, rfl⟩
          go_wp2_with (at_builtin; refine wpList_append_own _ rfl _ _ 22 rfl w.heap.size 26 i0 (.float .f32 0) 1 4 Try.underlying22 hi hz0 hz1 hz2 rfl (by decide) _ _ _ rfl (World.ownsRow.alloc (FOwn.drewN hown.out _) _) ⟨wr.heap.size, 0, none⟩ 1 1 [_] rfl rfl (one_new rfl) ?c2 ?c3 ?c4 ?c5 ?_)
          case c2 => intro u hu; simp at hu; subst hu; rfl
          case c3 => unfold maxLen; omega
          case c4 => omega
          case c5 => simp; show w.heap.size ≤ wr.heap.size + 1; omega
          intro v' w1 hown' hgrow _
          have R := FOwn.push hown.out hbel.out hsz hown' hgrow
          have hR := Lib.hid R
          clear R hown' hgrow hown hbel hck hck2
          go_wp2
          go_roundw
          case rel =>
            refine ⟨k + 1, _, by omega, by go_num, ?_, Lib.hid hR.out.1, Lib.hid (HStz.out _), HFn, Lib.hid hR.out.2⟩
            exact Lib.hid (by rw [List.length_append, HRl.out]; rfl)
          case measure => simp [intOf]; omega
      · have hkl : k = ds.length := by rw [HL'.out]; omega
        have HU := Lib.hid (show undK fs ds k = undL fs ds by unfold undL; rw [hkl])
        have HFn := Lib.hid (show undB fs ds = true by rw [HB.out.1, ← HU.out]; exact hfi.out)
        have HX := Lib.hid (show cnl rs = undR fs ds by rw [HB.out.2]; unfold lstR; rw [← HU.out, hfi.out]; exact hrs.out)
        clear hfi hrs
        go_wp2
        go_ret2
        exact ⟨_, rs, by rw [HFn.out]; rfl, hown.out, HX.out, hbel.out⟩
end Go.Proofs.Ytnjmkleodaadbaa
