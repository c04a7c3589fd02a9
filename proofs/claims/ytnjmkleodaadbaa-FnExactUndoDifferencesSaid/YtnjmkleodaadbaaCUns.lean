/-
  UndoDifferences of the model.
-/
import Derived.Test.YtnjmkleodaadbaaCUnw
import Derived.Test.YtnjmkleodaadbaaCLag
import Derived.Deep.AppendLies
import Derived.Deep.RegionLaw
namespace Go.Proofs.Ytnjmkleodaadbaa
open Ieee Go.RowKit
set_option linter.unusedVariables false

set_option maxHeartbeats 2000000 in
theorem specUnd_any (a a' : Option Addr) (len cap len' cap' : Nat) (fs ds : List Nat) (w : World) (h : FSl w a len fs) (h' : FSl w a' len' ds) (hm : len ≤ 1048576) (hm' : len' ≤ 1048576) :
    Calls Try.prog 40 #[.slice a len cap, .slice a' len' cap'] w (RetOB 26 (undR fs ds) (undB fs ds) w) := by
  obtain ⟨i0, hi, hz0, hz1, hz2⟩ := info_parts Try.infoR
  have H := Lib.hid h
  have H' := Lib.hid h'
  have HL := Lib.hid h.1
  have HL' := Lib.hid h'.1
  clear h h'
  cases hB : undB0 fs ds
  · have HB := Lib.hid (und_bad hB)
    cases hs : serB fs
    · have HS := Lib.hid hs
      clear hs hB
      go_enter Try.func40, Try.ntmps40
      go_wp2_with (go_at_call 44; refine (specSeries_any _ _ _ _ _ H.out hm).mono ?_; rw [HS.out]; rintro e w' ⟨m, rfl, rfl⟩)
      go_ret2
      exact fail_ob _ HB.out.1 HB.out.2 (below_drewN (Below.refl _ _) _)
    · cases hs' : serB ds
      · have HS := Lib.hid hs
        have HS' := Lib.hid hs'
        clear hs hs' hB
        go_enter Try.func40, Try.ntmps40
        go_wp2_with fail
        refine (specSeries_any _ _ _ _ _ H.out hm).mono ?_
        rw [HS.out]
        rintro e w' ⟨m, rfl, rfl⟩
        go_wp2_with fail
        refine (specSeries_any _ _ _ _ _ (FSl.drewN H'.out m) hm').mono ?_
        rw [HS'.out]
        rintro e w' ⟨m', rfl, rfl⟩
        go_wp2
        go_ret2
        exact fail_ob _ HB.out.1 HB.out.2 (below_drewN (Below.refl _ _) _)
      · have hq := und_no hB hs hs'
        rw [HL.out, HL'.out] at hq
        have hd : decide ((96 : Int) < (len : Int) + (len' : Int)) = true := decide_eq_true (by omega)
        have HS := Lib.hid hs
        have HS' := Lib.hid hs'
        clear hs hs' hB
        go_enter Try.func40, Try.ntmps40
        go_wp2_with fail
        refine (specSeries_any _ _ _ _ _ H.out hm).mono ?_
        rw [HS.out]
        rintro e w' ⟨m, rfl, rfl⟩
        go_wp2_with fail
        refine (specSeries_any _ _ _ _ _ (FSl.drewN H'.out m) hm').mono ?_
        rw [HS'.out]
        rintro e w' ⟨m', rfl, rfl⟩
        go_wp2
        go_ret2
        exact fail_ob _ HB.out.1 HB.out.2 (below_drewN (Below.refl _ _) _)
  · obtain ⟨hs, hs', hsum, hl1⟩ := und_t hB
    rw [HL.out, HL'.out] at hsum
    rw [HL.out] at hl1
    have HB := Lib.hid (und_good hB)
    have HS := Lib.hid hs
    have HS' := Lib.hid hs'
    have HFf := Lib.hid (show fins (undK fs ds 0) = true by show fins (cnl fs) = true; rw [fins_cnl]; exact (serB_t hs).2.2)
    have hd : decide ((96 : Int) < (len : Int) + (len' : Int)) = false := decide_eq_false (by omega)
    clear hs hs' hB
    obtain ⟨b, off, rfl, hb, hc⟩ := H.out.at (by omega)
    clear hc
    go_enter Try.func40, Try.ntmps40
    go_wp2_with fail
    refine (specSeries_any _ _ _ _ _ H.out hm).mono ?_
    rw [HS.out]
    rintro e w' ⟨m, rfl, rfl⟩
    go_wp2_with fail
    refine (specSeries_any _ _ _ _ _ (FSl.drewN H'.out m) hm').mono ?_
    rw [HS'.out]
    rintro e w' ⟨m', rfl, rfl⟩
    have HN := Lib.hid (FOwn.made (T := 26) (B := w.heap.size) ((w.drewN m).drewN m') (Nat.le_refl _))
    have HNe := Lib.hid ((FSl.below (FSl.drewN (FSl.drewN H.out m) m') ((Below.refl _ _).alloc (Nat.le_refl _) (.cells #[] 26))).news (by omega))
    go_wp2_with (at_builtin; refine wpList_append_own _ rfl _ _ 22 rfl w.heap.size 26 i0 (.float .f32 0) 1 4 Try.underlying22 hi hz0 hz1 hz2 rfl (by decide) _ _ _ rfl HN.out ⟨b, off, none⟩ len cap (fs.map (Value.float .f32)) rfl (by rw [List.length_map, HL.out, Nat.mul_one]) HNe.out ?c2 ?c3 ?c4 ?c5 ?_)
    case c2 =>
      intro u hu
      obtain ⟨x, _, rfl⟩ := List.mem_map.1 hu
      rfl
    case c3 => unfold maxLen; simp; omega
    case c4 => simp; omega
    case c5 => simp
    intro v0 w1 hown' hgrow _
    have HB0 := Lib.hid (((below_drewN (Below.refl w.heap.size w) (m + m')).alloc (Nat.le_refl _) (.cells #[] 26)).grown hgrow (by simp) (fun k hk => (World.ownsRow.lt HN.out k hk).1))
    have HO0 := Lib.hid (show FOwn 26 w.heap.size w1 v0 fs from by unfold FOwn; rw [HL.out]; simpa using hown')
    clear hown' hgrow HN HNe
    go_wp2
    go_loopw [6, 7] (fun v i wr => ∃ (k : Nat) (rs : List Nat), k ≤ len' ∧ i = .int .i64 k ∧ Hid (rs.length = len + k) ∧ Hid (FOwn 26 w.heap.size wr v rs) ∧ Hid (cnl rs = undK fs ds k) ∧ Hid (Below w.heap.size w wr)) (fun _ i _ => len' - (intOf i).toNat)
    case atStart => exact ⟨0, fs, Nat.zero_le _, rfl, Lib.hid (by rw [HL.out]; rfl), HO0, Lib.hid rfl, HB0⟩
    case round =>
      rename_i wr
      obtain ⟨k, rs, hk, rfl, hrl, hown, hrs, hbel⟩ := hrel
      by_cases hlt : k < len'
      · obtain ⟨b', off', rfl, hb', hc'⟩ := H'.out.at (by omega)
        have hck := hc' k hlt
        rw [← hbel.out.cell (p := ⟨b', off' + k, none⟩) hb'] at hck
        have hkr : k < rs.length := by have := hrl.out; omega
        have hrk : rs.length ≤ 1048576 := by have := hrl.out; omega
        obtain ⟨A, cp, he, hsl, hfz⟩ := hown.out.sl
        obtain ⟨b2, rfl, _⟩ := hfz k hkr
        have hck2 : wr.cell? ⟨b2, k, none⟩ = some (.float .f32 (rs.getD k 0)) := by
          obtain ⟨b3, o3, e3, _, hc3⟩ := hsl.at (by omega)
          injection e3 with e3; injection e3 with e4 e5
          subst e4 e5
          have := hc3 k hkr
          rwa [Nat.zero_add] at this
        subst he
        have hsz := hbel.out.size
        have HSt := Lib.hid (show ∀ z y, ds.getD k 0 = z → rs.getD k 0 = y → ∀ w', cnl (rs ++ [fopR .add .f32 z y w']) = undK fs ds (k + 1) from fun z y e1 e2 w' => und_step hrs.out hkr e1 e2 (cn_fopR ..))
        obtain ⟨z, hz⟩ : ∃ z, ds.getD k 0 = z := ⟨_, rfl⟩
        obtain ⟨y, hy⟩ : ∃ y, rs.getD k 0 = y := ⟨_, rfl⟩
        rw [hz] at hck
        rw [hy] at hck2
        have HStz := Lib.hid (HSt.out z y hz hy)
        have HRl := Lib.hid (show (rs.length : Nat) = len + k from hrl.out)
        have hkl : (k : Int) < (rs.length : Int) := by omega
        have hkl2 : (k : Int) < (len' : Int) := by omega
        have hk0 : (0 : Int) ≤ (k : Int) := by omega
        have hd5 : decide (k < rs.length) = true := decide_eq_true hkr
        clear hz hy HSt hsl hfz hrs hc' hb'
        have hb96 : w.heap.size ≤ wr.heap.size + 1 := by omega
        have h3 : rs.length + 1 ≤ maxLen := by unfold maxLen; omega
        have h4 : (rs.length + 1) * 4 ≤ 140737488355328 := by omega
        clear hrl
        go_wp2
        go_region_law ((refine step_append_lies _ (by rfl) _ _ 22 (by rfl) w.heap.size 26 i0 (.float .f32 0) 1 4 Try.underlying22 hi hz0 hz1 hz2 rfl (by decide) _ _ _ (by rfl) (own_at hown.out (by rfl) _) ⟨wr.heap.size, 0, none⟩ 1 1 [_] (by rfl) (by rfl) (one_new (by rfl)) (by simp [Value.oneCell']) (by omega) h3 h4 (by simp; exact hb96) _ (by rfl) ?_; intro gg cc w1 hown1 hgrow hat hlt1))
        all_goals
          have R := push_at (rs := rs) hown.out ((below_drewN hbel.out _).alloc (by exact hsz) _) (by simp; exact hb96) hown1 hgrow
          have hR := Lib.hid R
          have hcs := Lib.hid (HStz.out wr.drew)
          clear R hown1 hgrow hown hbel hck hck2 hat hlt1 HStz
          go_wp2
          go_roundw
          case rel =>
            refine ⟨k + 1, _, by omega, by go_num, ?_, Lib.hid hR.out.1, hcs, Lib.hid hR.out.2⟩
            exact Lib.hid (by rw [List.length_append, HRl.out]; rfl)
          case measure => simp [intOf]; omega
      · have hkl : k = len' := by omega
        subst hkl
        have hfin := Lib.hid (show cnl rs = undL fs ds by unfold undL; rw [hrs.out, HL'.out])
        have hrk : rs.length ≤ 1048576 := by have := hrl.out; omega
        obtain ⟨A, cp, rfl, hsl, _⟩ := hown.out.sl
        have HSL := Lib.hid hsl
        clear hrs hsl
        go_wp2_with fail
        refine (specList_any 26 _ _ rs (undL fs ds) _ w _ rfl HSL.out hfin.out hrk hown.out hbel.out).mono ?_
        rintro e w1 ⟨v, rs', rfl, ho, hx', hb'⟩
        have HO := Lib.hid ho
        have HX := Lib.hid hx'
        have HBB := Lib.hid hb'
        clear ho hx' hb'
        go_wp2
        go_ret2
        exact ⟨v, rs', by rw [HB.out.1]; rfl, HO.out, HX.out.trans HB.out.2.symm, HBB.out⟩
end Go.Proofs.Ytnjmkleodaadbaa
