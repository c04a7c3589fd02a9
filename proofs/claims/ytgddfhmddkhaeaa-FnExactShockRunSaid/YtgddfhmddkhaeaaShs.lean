/-
  ShockRun of the model.
-/
import Derived.Test.YtgddfhmddkhaeaaShi
import Derived.Deep.CutRange
import Derived.Maps.AppendAt
namespace Go.Proofs.Ytgddfhmddkhaeaa
open Ieee Go.RowKit
set_option linter.unusedVariables false
theorem shkB_eq (zs : List Nat) (b s k : Nat) : shkB zs b s k = (serB zs && (abvB b && (leaB s && (leaB k && lt1B s k)))) := by
  unfold shkB abvB leaB
  have h3 : fins [b, s, k] = (fin .f32 b && (fin .f32 s && (fin .f32 k && true))) := by unfold fins; simp
  rw [h3]
  cases serB zs <;> cases fin .f32 b <;> cases fin .f32 s <;> cases fin .f32 k <;> cases posB b <;> cases geB s <;> cases geB k <;> cases lt1B s k <;> rfl
set_option maxHeartbeats 4000000 in
set_option maxRecDepth 100000 in
theorem spShk_any (a : Option Addr) (n cap : Nat) (zs : List Nat) (b s k : Nat) (w : World) (h : FSl w a n zs) (hm : n ≤ 1048576) :
    Calls Try.prog 38 #[.slice a n cap, .float .f32 b, .float .f32 s, .float .f32 k] w (RetL1F1 22 (shkL zs b s k) (shkV zs b s k) (shkOk zs b s k) w) := by
  obtain ⟨i0, hi, hz0, hz1, hz2⟩ := info_parts Try.infoR
  have H := Lib.hid h
  have HL := Lib.hid h.1
  clear h
  cases hs : serB zs
  · have HS := Lib.hid hs
    have HB := Lib.hid (shk_bad (show shkB zs b s k = false by rw [shkB_eq]; rw [hs]; rfl))
    clear hs
    go_enter Try.func38, Try.ntmps38
    go_wp2_with fail
    refine (specSeries_any _ _ _ zs _ H.out hm).mono ?_
    rw [HS.out]
    rintro e w' ⟨q0, rfl, rfl⟩
    go_wp2_with fail
    go_ret3
    exact shk_fail HB.out (below_drewN (Below.refl _ _) _)
  have HS := Lib.hid hs
  cases ha : abvB b
  · have HA := Lib.hid ha
    have HB := Lib.hid (shk_bad (show shkB zs b s k = false by rw [shkB_eq]; rw [ha]; simp))
    clear hs ha
    go_enter Try.func38, Try.ntmps38
    go_wp2_with fail
    refine (specSeries_any _ _ _ zs _ H.out hm).mono ?_
    rw [HS.out]
    rintro e w' ⟨q0, rfl, rfl⟩
    go_wp2_with fail
    refine (abv_any _ _).mono ?_
    rw [HA.out]
    rintro e w' ⟨q1, rfl, rfl⟩
    go_wp2_with fail
    go_ret3
    exact shk_fail HB.out (below_drewN (Below.refl _ _) _)
  have HA := Lib.hid ha
  cases he : leaB s
  · have HE1 := Lib.hid he
    have HB := Lib.hid (shk_bad (show shkB zs b s k = false by rw [shkB_eq]; rw [he]; simp))
    clear hs ha he
    go_enter Try.func38, Try.ntmps38
    go_wp2_with fail
    refine (specSeries_any _ _ _ zs _ H.out hm).mono ?_
    rw [HS.out]
    rintro e w' ⟨q0, rfl, rfl⟩
    go_wp2_with fail
    refine (abv_any _ _).mono ?_
    rw [HA.out]
    rintro e w' ⟨q1, rfl, rfl⟩
    go_wp2_with fail
    refine (lea_any _ _).mono ?_
    rw [HE1.out]
    rintro e w' ⟨q2, rfl, rfl⟩
    go_wp2_with fail
    go_ret3
    exact shk_fail HB.out (below_drewN (Below.refl _ _) _)
  have HE1 := Lib.hid he
  cases hf : leaB k
  · have HE2 := Lib.hid hf
    have HB := Lib.hid (shk_bad (show shkB zs b s k = false by rw [shkB_eq]; rw [hf]; simp))
    clear hs ha he hf
    go_enter Try.func38, Try.ntmps38
    go_wp2_with fail
    refine (specSeries_any _ _ _ zs _ H.out hm).mono ?_
    rw [HS.out]
    rintro e w' ⟨q0, rfl, rfl⟩
    go_wp2_with fail
    refine (abv_any _ _).mono ?_
    rw [HA.out]
    rintro e w' ⟨q1, rfl, rfl⟩
    go_wp2_with fail
    refine (lea_any _ _).mono ?_
    rw [HE1.out]
    rintro e w' ⟨q2, rfl, rfl⟩
    go_wp2_with fail
    refine (lea_any _ _).mono ?_
    rw [HE2.out]
    rintro e w' ⟨q3, rfl, rfl⟩
    go_wp2_with fail
    go_ret3
    exact shk_fail HB.out (below_drewN (Below.refl _ _) _)
  have HE2 := Lib.hid hf
  have hl3 := lt1_lt s k
  cases h1 : lt1B s k
  · rw [h1] at hl3
    have HB := Lib.hid (shk_bad (show shkB zs b s k = false by rw [shkB_eq]; rw [h1]; simp))
    clear hs ha he hf h1
    go_enter Try.func38, Try.ntmps38
    go_wp2_with fail
    refine (specSeries_any _ _ _ zs _ H.out hm).mono ?_
    rw [HS.out]
    rintro e w' ⟨q0, rfl, rfl⟩
    go_wp2_with fail
    refine (abv_any _ _).mono ?_
    rw [HA.out]
    rintro e w' ⟨q1, rfl, rfl⟩
    go_wp2_with fail
    refine (lea_any _ _).mono ?_
    rw [HE1.out]
    rintro e w' ⟨q2, rfl, rfl⟩
    go_wp2_with fail
    refine (lea_any _ _).mono ?_
    rw [HE2.out]
    rintro e w' ⟨q3, rfl, rfl⟩
    go_wp2_with fail
    go_ret3
    exact shk_fail HB.out (below_drewN (Below.refl _ _) _)
  rw [h1] at hl3
  have HB := Lib.hid (shk_good (show shkB zs b s k = true by rw [shkB_eq, hs, ha, he, hf, h1]; rfl))
  have hn0 : 0 < n := by have := (serB_t hs).1; have := HL.out; omega
  obtain ⟨bz, oz, rfl, hbz, hzs⟩ := H.out.at hn0
  have HZS := Lib.hid hzs
  clear hzs
  clear hs ha he hf h1
  go_enter Try.func38, Try.ntmps38
  go_wp2_with fail
  refine (specSeries_any _ _ _ zs _ H.out hm).mono ?_
  rw [HS.out]
  rintro e w' ⟨q0, rfl, rfl⟩
  go_wp2_with fail
  refine (abv_any _ _).mono ?_
  rw [HA.out]
  rintro e w' ⟨q1, rfl, rfl⟩
  go_wp2_with fail
  refine (lea_any _ _).mono ?_
  rw [HE1.out]
  rintro e w' ⟨q2, rfl, rfl⟩
  go_wp2_with fail
  refine (lea_any _ _).mono ?_
  rw [HE2.out]
  rintro e w' ⟨q3, rfl, rfl⟩
  have HH0 := Lib.hid (show ∀ w1 w2 w3, cn .f32 (fopR .quo .f32 b (fopR .sub .f32 (fopR .sub .f32 1065353216 s w1) k w2) w3) = shH zs b s k 0 from fun w1 w2 w3 => by rw [cn_fopR, cn_fopR, cn_fopR]; rfl)
  have HN := Lib.hid (fun q => FOwn.made (T := 22) (B := w.heap.size) (w.drewN q) (Nat.le_refl _))
  have HBn := Lib.hid (fun q => (below_drewN (Below.refl w.heap.size w) q).alloc (Nat.le_refl _) (.cells #[] 22))
  go_wp2
  go_loopw [11, 12, 13, 49] (fun vh vO vu c wr => ∃ (i h u : Nat) (rs : List Nat), i ≤ n ∧ c = .int .i64 (i : Int) ∧ vh = .float .f32 h ∧ vu = .float .f32 u ∧ Hid (h < 4294967296) ∧ Hid (cn .f32 h = shQ zs b s k i) ∧ Hid (cn .f32 u = shS zs b s k i) ∧ Hid (rs.length = i) ∧ Hid (FOwn 22 w.heap.size wr vO rs) ∧ Hid (cnl rs = tells (shH zs b s k) i) ∧ Hid (Below w.heap.size w wr)) (fun _ _ _ c _ => n - (intOf c).toNat)
  case atStart => exact ⟨0, _, 0, [], Nat.zero_le _, rfl, rfl, rfl, Lib.hid (shk_lt ..), Lib.hid (HH0.out _ _ _), Lib.hid cn_zero, Lib.hid rfl, Lib.hid (HN.out _), Lib.hid rfl, Lib.hid (HBn.out _)⟩
  case round =>
    rename_i wr
    obtain ⟨i, h, u, rs, hk, rfl, rfl, rfl, hlt, hQ, hU, hrl, hO, hrs, hbel⟩ := hrel
    by_cases hin : i < n
    · have hc0 : decide ((i : Int) < (n : Int)) = true := decide_eq_true (by omega)
      have hsz := hbel.out.size
      go_upto_if 53 with fail
      go_cut [11, 49] from 49 to 94 (fun vh vc wx => ∃ h2 q, vc = .int .i64 (i : Int) ∧ vh = .float .f32 h2 ∧ Hid (h2 < 4294967296) ∧ Hid (cn .f32 h2 = shH zs b s k i) ∧ wx = wr.drewN q)
      case first =>
        by_cases h0 : i = 0
        · have hd0 : decide ((0 : Int) < (i : Int)) = false := decide_eq_false (by omega)
          have h00 : ¬ (0 < i) := by omega
          have HQ := Lib.hid (show cn .f32 h = shH zs b s k i by rw [hQ.out, h0]; rfl)
          clear h0
          go_wp2_with fail
          go_meet
          case rel => exact ⟨h, 0, rfl, rfl, hlt, HQ, rfl⟩
        · have hd0 : decide ((0 : Int) < (i : Int)) = true := decide_eq_true (by omega)
          have h00 : 0 < i := by omega
          have hw1 : IntKind.i64.wrap ((i : Int) - 1) = ((i - 1 : Nat) : Int) := by rw [IntKind.wrap_i64]; omega
          have hj0 : (0 : Int) ≤ ((i - 1 : Nat) : Int) := by omega
          have hj1 : ((i - 1 : Nat) : Int) < (n : Int) := by omega
          have hzp := HZS.out (i - 1) (by omega)
          rw [← hbel.out.cell (p := ⟨bz, oz + (i - 1), none⟩) hbz] at hzp
          have HQ1 := Lib.hid (show ∀ w1 w2 w3 w4 w5, cn .f32 (fopR .add .f32 (fopR .add .f32 b (fopR .mul .f32 s (fopR .mul .f32 (zs.getD (i - 1) 0) (zs.getD (i - 1) 0) w1) w2) w3) (fopR .mul .f32 k h w4) w5) = shH zs b s k i from fun w1 w2 w3 w4 w5 => by
            rw [cn_fopR, cn_fopR, cn_fopR, cn_fopR, cn_fopR, hQ.out]
            unfold shQ
            obtain ⟨i', rfl⟩ : ∃ i', i = i' + 1 := ⟨i - 1, by omega⟩
            rfl)
          obtain ⟨jj, hjj⟩ : ∃ j, i - 1 = j := ⟨_, rfl⟩
          rw [hjj] at hw1 hj0 hj1 hzp HQ1
          generalize zs.getD jj 0 = zp at *
          clear hjj h0
          go_wp2_with fail
          go_region
          all_goals
            go_wp2_with fail
            go_meet
            case rel => exact ⟨_, _, rfl, rfl, Lib.hid (shk_lt ..), Lib.hid (HQ1.out _ _ _ _ _), rfl⟩
      case rest =>
        obtain ⟨h2, q, rfl, rfl, hlt2, hH2, rfl⟩ := hcut
        have HCO := Lib.hid ((cnl_snoc hrs.out hH2.out).trans (tells_succ (shH zs b s k) i).symm)
        replace hO := Lib.hid (FOwn.drewN hO.out q)
        replace hbel := Lib.hid (below_drewN hbel.out q)
        replace hsz : w.heap.size ≤ (wr.drewN q).heap.size := hsz
        clear hQ hlt hrs
        generalize wr.drewN q = wg at *
        have hli := hrl.out
        have HRl := Lib.hid hli
        clear hli
        go_wp2_with (at_builtin; refine wpList_append_own_at _ rfl _ _ 23 rfl w.heap.size 22 i0 (.float .f32 0) 1 4 Try.underlying23 hi hz0 hz1 hz2 rfl (by decide) _ _ _ rfl (World.ownsRow.alloc hO.out _) ⟨wg.heap.size, 0, none⟩ 1 1 [_] rfl rfl (one_new rfl) (by intro u hu; simp at hu; subst hu; rfl) (by have := HRl.out; unfold maxLen; omega) (by have := HRl.out; omega) (by simp; omega) ?_)
        intro v1 w7 hown1 hgrow1 _ _
        have HO7 := Lib.hid (FOwn.push (n := 0) hO.out hbel.out hsz hown1 hgrow1).1
        have HB7 := Lib.hid (FOwn.push (n := 0) hO.out hbel.out hsz hown1 hgrow1).2
        clear hown1 hgrow1 hO hbel
        have hzi := HZS.out i hin
        rw [← HB7.out.cell (p := ⟨bz, oz + i, none⟩) hbz] at hzi
        have hi0 : (0 : Int) ≤ (i : Int) := by omega
        have hi1 : (i : Int) < (n : Int) := by omega
        have hl2 := hlt2.out
        have HU := Lib.hid (show ∀ l, cn .f32 l = log32 h2 → ∀ w1 w2 w3 w4 w5, cn .f32 (fopR .add .f32 u (fopR .mul .f32 1056964608 (fopR .add .f32 l (fopR .quo .f32 (fopR .mul .f32 (zs.getD i 0) (zs.getD i 0) w1) h2 w2) w3) w4) w5) = shS zs b s k (i + 1) from fun l hl w1 w2 w3 w4 w5 => by rw [cn_fopR, unl_step rfl hH2.out hl, hU.out]; rfl)
        generalize zs.getD i 0 = z at *
        go_wp2_with fail
        go_region_with
          ((go_at_call 84; refine (specLogNumber_any _ _ hl2).mono ?_; rintro e w2 ⟨l, nl, hl, rfl, rfl⟩))
        all_goals
          go_wp2
          go_roundw
          case rel => exact ⟨i + 1, h2, _, _, by omega, by go_num, rfl, rfl, hlt2, Lib.hid (hH2.out.trans rfl), Lib.hid (HU.out _ hl _ _ _ _ _), Lib.hid (by rw [List.length_append, HRl.out]; rfl), Lib.hid (FOwn.drewN HO7.out _), HCO, Lib.hid (below_drewN HB7.out _)⟩
          case measure => simp [intOf]; omega
    · have hkN : i = n := by omega
      subst hkN
      obtain ⟨A, cp, rfl, hsl, _⟩ := hO.out.sl
      have HSl := Lib.hid hsl
      have hm2 : rs.length ≤ 1048576 := by have := hrl.out; omega
      have hLn := HL.out
      rw [hLn] at HB
      have HV := Lib.hid (show shkL zs b s k = (if shkOk zs b s k then tells (shH zs b s k) i else []) ∧ shkV zs b s k = (if shkOk zs b s k then shS zs b s k i else 0) by unfold shkL shkV; rw [hLn]; exact ⟨rfl, rfl⟩)
      have HFr := Lib.hid (show fins rs = fins (tells (shH zs b s k) i) by rw [← fins_cnl, hrs.out])
      have HFu := Lib.hid (show fin .f32 u = fin .f32 (shS zs b s k i) by rw [← hU.out, fin_congr (cn_cn .f32 u)])
      clear hsl hLn
      cases hfr : fins rs
      · have HF1 := Lib.hid hfr
        have HN2 := Lib.hid (show shkOk zs b s k = false by rw [HB.out, ← HFr.out, hfr]; rfl)
        clear hfr
        go_wp2_with fail
        refine (specFinite_any _ _ _ _ _ HSl.out hm2).mono ?_
        rw [HF1.out]
        rintro e w' ⟨q8, rfl, rfl⟩
        go_wp2_with fail
        go_ret3
        exact shk_fail HN2.out (below_drewN hbel.out _)
      have HF1 := Lib.hid hfr
      cases hfu : fin .f32 u
      · have HF2 := Lib.hid hfu
        have HN2 := Lib.hid (show shkOk zs b s k = false by rw [HB.out, ← HFr.out, hfr, ← HFu.out, hfu]; rfl)
        clear hfr hfu
        go_wp2_with fail
        refine (specFinite_any _ _ _ _ _ HSl.out hm2).mono ?_
        rw [HF1.out]
        rintro e w' ⟨q8, rfl, rfl⟩
        go_wp2_with fail
        refine (l01Finite_any _ _).mono ?_
        rw [HF2.out]
        rintro e w' ⟨q9, rfl, rfl⟩
        go_wp2_with fail
        go_ret3
        exact shk_fail HN2.out (below_drewN hbel.out _)
      have HF2 := Lib.hid hfu
      have HN2 := Lib.hid (show shkOk zs b s k = true by rw [HB.out, ← HFr.out, hfr, ← HFu.out, hfu]; rfl)
      clear hfr hfu
      go_wp2_with fail
      refine (specFinite_any _ _ _ _ _ HSl.out hm2).mono ?_
      rw [HF1.out]
      rintro e w' ⟨q8, rfl, rfl⟩
      go_wp2_with fail
      refine (l01Finite_any _ _).mono ?_
      rw [HF2.out]
      rintro e w' ⟨q9, rfl, rfl⟩
      go_wp2_with fail
      go_ret3
      exact ⟨_, rs, u, by rw [HN2.out]; rfl, FOwn.drewN hO.out _, by rw [HV.out.1, HN2.out]; exact hrs.out, by rw [HV.out.2, HN2.out]; exact hU.out, below_drewN hbel.out _⟩
end Go.Proofs.Ytgddfhmddkhaeaa
