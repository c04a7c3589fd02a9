/-
  TakeApart of the model.
-/
import Derived.Test.YtallegmkkbmelaaCApa
import Derived.Test.YtallegmkkbmelaaCApf
namespace Go.Proofs.Ytallegmkkbmelaa
open Ieee Go.RowKit
set_option linter.unusedVariables false

set_option maxHeartbeats 4000000 in
theorem specApa_no (a : Option Addr) (len cap : Nat) (zs : List Nat) (p q r : Int) (w : World) (h : FSl w a len zs) (hm : len ≤ 1048576) (hB : apB0 zs p q r = false) :
    Calls Try.prog 21 #[.slice a len cap, .int .i64 p, .int .i64 q, .int .i64 r] w (RetL3 23 (apL zs p q r (apTr zs p q r)) (apL zs p q r (apSe zs p q r)) (apL zs p q r (apRe zs p q r)) (apB zs p q r) w) := by
  have HN := Lib.hid (ap_no hB)
  have HF := Lib.hid (fun (w' : World) (hb : Below w.heap.size w w') => fail_l3 23 HN.out.1 (HN.out.2 (apTr zs p q r)) (HN.out.2 (apSe zs p q r)) (HN.out.2 (apRe zs p q r)) hb)
  have H := Lib.hid h
  have hl := h.1
  clear h HN
  cases hs : serB zs
  · have HS := Lib.hid hs
    clear hs hB
    go_enter Try.func21, Try.ntmps21
    go_wp2_with (go_at_call 29; refine (specSeries_any _ _ _ _ _ H.out hm).mono ?_; rw [HS.out]; rintro e w' ⟨m, rfl, rfl⟩)
    (try simp only [Exit.inBlock, Exit.then])
    refine bodyPost_ret (results_tmp4 rfl _ _ _) rfl ?_
    exact HF.out _ (below_drewN (Below.refl _ _) _)
  · have HS := Lib.hid hs
    have hq : (p < 1 ∨ (len : Int) < p) ∨ ((1 ≤ p ∧ p ≤ (len : Int)) ∧ (q < 0 ∨ 96 < q)) ∨ ((1 ≤ p ∧ p ≤ (len : Int)) ∧ (0 ≤ q ∧ q ≤ 96) ∧ (r < 1 ∨ 8 < r)) := by
      unfold apB0 at hB
      rw [hs, hl, Bool.true_and] at hB
      by_cases h1 : 1 ≤ p ∧ p ≤ (len : Int)
      · rw [decide_eq_true h1, Bool.true_and] at hB
        by_cases h2 : 0 ≤ q ∧ q ≤ 96
        · rw [decide_eq_true h2, Bool.true_and] at hB
          have := of_decide_eq_false hB
          omega
        · omega
      · omega
    clear hs hB
    rcases hq with g1 | ⟨g1, g2⟩ | ⟨g1, g2, g3⟩
    · go_enter Try.func21, Try.ntmps21
      go_wp2_with fail
      refine (specSeries_any _ _ _ _ _ H.out hm).mono ?_
      rw [HS.out]
      rintro e w' ⟨m, rfl, rfl⟩
      go_wp2_with fail
      refine (in_no _ _ _ _ g1).mono ?_
      rintro e w' ⟨rfl, rfl⟩
      go_wp2
      (try simp only [Exit.inBlock, Exit.then])
      refine bodyPost_ret (results_tmp4 rfl _ _ _) rfl ?_
      exact HF.out _ (below_drewN (Below.refl _ _) _)
    · go_enter Try.func21, Try.ntmps21
      go_wp2_with fail
      refine (specSeries_any _ _ _ _ _ H.out hm).mono ?_
      rw [HS.out]
      rintro e w' ⟨m, rfl, rfl⟩
      go_wp2_with fail
      refine (in_yes _ _ _ _ g1.1 g1.2).mono ?_
      rintro e w' ⟨rfl, rfl⟩
      go_wp2_with fail
      refine (in_no _ _ _ _ g2).mono ?_
      rintro e w' ⟨rfl, rfl⟩
      go_wp2
      (try simp only [Exit.inBlock, Exit.then])
      refine bodyPost_ret (results_tmp4 rfl _ _ _) rfl ?_
      exact HF.out _ (below_drewN (Below.refl _ _) _)
    · go_enter Try.func21, Try.ntmps21
      go_wp2_with fail
      refine (specSeries_any _ _ _ _ _ H.out hm).mono ?_
      rw [HS.out]
      rintro e w' ⟨m, rfl, rfl⟩
      go_wp2_with fail
      refine (in_yes _ _ _ _ g1.1 g1.2).mono ?_
      rintro e w' ⟨rfl, rfl⟩
      go_wp2_with fail
      refine (in_yes _ _ _ _ g2.1 g2.2).mono ?_
      rintro e w' ⟨rfl, rfl⟩
      go_wp2_with fail
      refine (in_no _ _ _ _ g3).mono ?_
      rintro e w' ⟨rfl, rfl⟩
      go_wp2
      (try simp only [Exit.inBlock, Exit.then])
      refine bodyPost_ret (results_tmp4 rfl _ _ _) rfl ?_
      exact HF.out _ (below_drewN (Below.refl _ _) _)

theorem offZ_cnl1 (xs ys : List Nat) : offZ (cnl xs) ys = offZ xs ys := by
  unfold offZ
  rw [cnl_len]
  exact tells_congr fun j _ => by rw [cnl_all, cn_cn]
theorem spr_zero (m n : Nat) : cnl (List.replicate n 0) = sprZ (List.replicate m 0) n := by
  unfold cnl
  rw [List.map_replicate, cn_zero]
  unfold sprZ tells
  refine List.ext_getElem? fun i => ?_
  rw [List.getElem?_replicate, List.getElem?_map]
  by_cases h : i < n
  · rw [if_pos h, List.getElem?_range h]
    simp only [Option.map_some]
    congr 1
    have : (List.replicate m 0).getD (i % (List.replicate m 0).length) 0 = 0 := by
      simp only [List.getD, List.getElem?_replicate]
      split <;> rfl
    rw [this, cn_zero]
  · rw [if_neg h, List.getElem?_eq_none (by simp; omega)]; rfl

set_option maxHeartbeats 8000000 in
set_option maxRecDepth 100000 in
theorem specApa_yes (a : Option Addr) (len cap m sd R : Nat) (zs : List Nat) (w : World) (h : FSl w a len zs) (hs : serB zs = true) (hm1 : 1 ≤ m) (hml : m ≤ len) (hsd : sd ≤ 96) (hR1 : 1 ≤ R) (hR8 : R ≤ 8) :
    Calls Try.prog 21 #[.slice a len cap, .int .i64 m, .int .i64 sd, .int .i64 R] w (RetL3 23 (apL zs m sd R (apTr zs m sd R)) (apL zs m sd R (apSe zs m sd R)) (apL zs m sd R (apRe zs m sd R)) (apB zs m sd R) w) := by
  obtain ⟨i0, hi, hz0, hz1, hz2⟩ := info_parts Try.infoR
  have hl := h.1
  have hlen : len ≤ 96 := by rw [← hl]; exact (serB_t hs).2.1
  have hmk := fun W => run_make_len (P := Try.prog) W 22 23 i0 (.float .f32 0) Try.underlying22 hi hz0 hz1 len (by rw [hz2]; omega) (by omega)
  clear hi hz0 hz1 hz2
  have H := Lib.hid h
  have HSer := Lib.hid hs
  have HF := Lib.hid (fun (w' : World) (hb : Below w.heap.size w w') (h0 : apB zs m sd R = false) => fail_l3 23 (w := w) (xs0 := apL zs m sd R (apTr zs m sd R)) (xs1 := apL zs m sd R (apSe zs m sd R)) (xs2 := apL zs m sd R (apRe zs m sd R)) h0 (by unfold apL; rw [h0]; rfl) (by unfold apL; rw [h0]; rfl) (by unfold apL; rw [h0]; rfl) hb)
  have HB0 := Lib.hid (show apB0 zs (m : Int) (sd : Int) (R : Int) = true by
    unfold apB0
    rw [hs, decide_eq_true (show (1 : Int) ≤ (m : Int) ∧ (m : Int) ≤ (zs.length : Int) by rw [hl]; omega), decide_eq_true (show (0 : Int) ≤ (sd : Int) ∧ (sd : Int) ≤ 96 by omega), decide_eq_true (show (1 : Int) ≤ (R : Int) ∧ (R : Int) ≤ 8 by omega)]; rfl)
  clear h hs
  go_enter Try.func21, Try.ntmps21
  go_wp2_with fail
  refine (specSeries_any _ _ _ _ _ H.out (by omega)).mono ?_
  rw [HSer.out]
  rintro e w' ⟨n0, rfl, rfl⟩
  go_wp2_with fail
  refine (in_yes _ _ _ _ (by omega) (by omega)).mono ?_
  rintro e w' ⟨rfl, rfl⟩
  go_wp2_with fail
  refine (in_yes _ _ _ _ (by omega) (by omega)).mono ?_
  rintro e w' ⟨rfl, rfl⟩
  go_wp2_with fail
  refine (in_yes _ _ _ _ (by omega) (by omega)).mono ?_
  rintro e w' ⟨rfl, rfl⟩
  have HO0 := Lib.hid (own_zero (T := 23) (B := w.heap.size) (n := len) ((w.drewN n0).alloc (.cells #[] 23)) (by simp) (by omega))
  have HG0 := Lib.hid ((((below_drewN (Below.refl w.heap.size w) n0).alloc (Nat.le_refl _) (.cells #[] 23))).alloc (by simp) (.cells (madeCells #[.float .f32 0] len) 23))
  go_wp2
  clear hmk
  go_loopw [13, 14, 15] (fun v13 v14 c wr => ∃ (t cs nt ct : Nat) (As At : Option Addr) (rs : List Nat), t ≤ R ∧ c = .int .i64 t ∧ v14 = .slice As len cs ∧ v13 = .slice At nt ct ∧ Hid (FOwn 23 w.heap.size wr (.slice As len cs) rs) ∧ Hid (cnl rs = sprZ (apS zs m sd t) len) ∧ Hid (0 < t → ∃ rt, FOwn 23 w.heap.size wr (.slice At nt ct) rt ∧ cnl rt = trZ zs (apS zs m sd (t - 1)) sd ∧ Apt (.slice At nt ct) (.slice As len cs)) ∧ Hid (Below w.heap.size w wr)) (fun _ _ c _ => R - (intOf c).toNat)
  case atStart => exact ⟨0, len, 0, 0, some ⟨w.heap.size + 1, 0, none⟩, some ⟨w.heap.size, 0, none⟩, List.replicate len 0, Nat.zero_le _, rfl, rfl, rfl, Lib.hid (by have := HO0.out; simpa using this), Lib.hid (spr_zero m len), Lib.hid (fun h0 => by omega), HG0⟩
  case round =>
    rename_i wr
    obtain ⟨t, cs, nt, ct, As, At, rs, ht, rfl, rfl, rfl, ho, hx, htr, hbel⟩ := hrel
    clear HO0 HG0
    obtain ⟨-, hfs⟩ := ho.out.fsl
    have hsz := hbel.out.size
    by_cases hlt : t < R
    · have HLi := Lib.hid (FSl.below H.out hbel.out)
      have HFs := Lib.hid hfs
      clear hfs htr
      go_wp2_with fail
      with_reducible refine (l02Off_any _ _ _ _ _ _ _ _ _ HLi.out HFs.out (by omega) (Nat.le_refl _)).mono ?_
      rintro e w1 ⟨v1, rs1, rfl, ho1, hx1, hb1⟩
      have hx1 : cnl rs1 = calmZ zs (apS zs m sd t) := by rw [hx1, ← offZ_cnl2, hx.out]; unfold calmZ; rw [hl]
      have hr1 : rs1.length = len := by rw [rs_len hx1]; unfold calmZ; rw [offZ_len, hl]
      obtain ⟨A1, c1, rfl, hs1, _⟩ := ho1.sl
      have hc1 := ho1.cap
      rw [hr1] at hs1 hc1 ⊢
      have HS1 := Lib.hid hs1
      have G1 := Lib.hid (hbel.out.trans (hb1.mono hsz))
      have hz1 := hb1.size
      clear hs1 hb1 ho1
      go_wp2_with fail
      with_reducible refine (moving_any _ _ _ _ _ _ HS1.out hlen hsd hc1.1 hc1.2).mono ?_
      rintro e w2 ⟨v2, rs2, rfl, ho2, hx2, hb2⟩
      have hx2 : cnl rs2 = trZ zs (apS zs m sd t) sd := by rw [hx2, movZ_congr hx1]; unfold trZ; rw [hl]
      have hr2 : rs2.length = len := by rw [rs_len hx2, trZ_len, hl]
      obtain ⟨A2, c2, rfl, hs2, _⟩ := ho2.sl
      rw [hr2] at hs2 ho2 ⊢
      have HS2 := Lib.hid hs2
      have HO2 := Lib.hid ho2
      have HX2 := Lib.hid hx2
      have G2 := Lib.hid (G1.out.trans (hb2.mono (by omega)))
      have hz2 := hb2.size
      have HLi2 := Lib.hid (FSl.below H.out G2.out)
      clear hs2 hb2 ho2 hx2 HS1 hx1 hr1 hc1 G1 HFs HLi
      go_wp2_with fail
      with_reducible refine (l02Off_any _ _ _ _ _ _ _ _ _ HLi2.out HS2.out (by omega) (Nat.le_refl _)).mono ?_
      rintro e w3 ⟨v3, rs3, rfl, ho3, hx3, hb3⟩
      have hx3 : cnl rs3 = lvZ zs (apS zs m sd t) sd := by rw [hx3, ← offZ_cnl2, HX2.out]; rfl
      have hr3 : rs3.length = len := by rw [rs_len hx3]; unfold lvZ; rw [offZ_len, hl]
      obtain ⟨A3, c3, rfl, hs3, _⟩ := ho3.sl
      rw [hr3] at hs3 ⊢
      have HS3 := Lib.hid hs3
      have HO3 := Lib.hid (HO2.out.keepS hb3)
      have G3 := Lib.hid (G2.out.trans (hb3.mono (by omega)))
      have hz3 := hb3.size
      clear hs3 hb3 ho3 HS2 HO2 G2 HLi2
      go_wp2_with fail
      with_reducible refine (season_any _ _ _ _ _ _ HS3.out hlen hm1 hml).mono ?_
      rintro e w4 ⟨v4, rs4, rfl, ho4, hx4, hb4⟩
      have hx4 : cnl rs4 = apS zs m sd (t + 1) := by
        rw [hx4, ← seaZ_cnl, hx3]
        show _ = nxZ zs (apS zs m sd t) sd
        unfold nxZ; rw [apS_len]
      have hr4 : rs4.length = m := by rw [rs_len hx4, apS_len]
      obtain ⟨A4, c4, rfl, hs4, _⟩ := ho4.sl
      rw [hr4] at hs4 ⊢
      have HS4 := Lib.hid hs4
      have HO4 := Lib.hid (HO3.out.keepS hb4)
      have G4 := Lib.hid (G3.out.trans (hb4.mono (by omega)))
      have hz4 := hb4.size
      clear hs4 hb4 ho4 HS3 HO3 G3 hx3 hr3
      go_wp2_with fail
      with_reducible refine (l02Spr_any _ _ _ _ _ _ HS4.out hm1 (by omega) (by omega)).mono ?_
      rintro e w5 ⟨v5, rs5, rfl, ho5, hx5, hb5⟩
      have hx5 : cnl rs5 = sprZ (apS zs m sd (t + 1)) len := by rw [hx5, ← sprZ_cnl, hx4]
      have hr5 : rs5.length = len := by rw [rs_len hx5, sprZ_len]
      obtain ⟨A5, c5, rfl, _, _⟩ := ho5.sl
      rw [hr5] at ho5 ⊢
      have HO5 := Lib.hid (ho5.mono (show w.heap.size ≤ w4.heap.size by omega))
      have HX5 := Lib.hid hx5
      have HT5 := Lib.hid (show 0 < t + 1 → ∃ rt, FOwn 23 w.heap.size w5 (.slice A2 len c2) rt ∧ cnl rt = trZ zs (apS zs m sd (t + 1 - 1)) sd ∧ Apt (.slice A2 len c2) (.slice A5 len c5) from fun _ =>
        ⟨rs2, (HO4.out.keepS hb5).mono (by omega), by rw [Nat.add_sub_cancel]; exact HX2.out, apt_of HO4.out ho5 (Nat.le_refl _)⟩)
      have G5 := Lib.hid (G4.out.trans (hb5.mono (by omega)))
      clear hb5 ho5 hx5 HS4 HO4 G4 hx4 hr4 HX2 ho hx hbel
      go_wp2
      go_roundw
      case rel => exact ⟨t + 1, c5, len, c2, A5, A2, rs5, by omega, by go_num, rfl, rfl, HO5, HX5, HT5, G5⟩
      case measure => simp [intOf]; omega
    · obtain rfl : t = R := by omega
      obtain ⟨rt, hot, hxt, hapt⟩ := htr.out (by omega)
      have hrt : rt.length = len := by rw [rs_len hxt, trZ_len, hl]
      obtain ⟨hnt, hft⟩ := hot.fsl
      rw [hrt] at hnt
      subst hnt
      have HTr := Lib.hid (show apTr zs (m : Int) (sd : Int) (t : Int) = cnl rt by unfold apTr; rw [Int.toNat_natCast, Int.toNat_natCast, Int.toNat_natCast, hxt])
      have HSe := Lib.hid (show apSe zs (m : Int) (sd : Int) (t : Int) = cnl rs by unfold apSe; rw [Int.toNat_natCast, Int.toNat_natCast, Int.toNat_natCast, hl, hx.out])
      have HFt := Lib.hid hft
      have HFs := Lib.hid hfs
      have HOt := Lib.hid hot
      have HAp := Lib.hid hapt
      have HLi := Lib.hid (FSl.below H.out hbel.out)
      clear hfs htr hot hxt hapt hft hx
      go_wp2_with fail
      with_reducible refine (l02Off_any _ _ _ _ _ _ _ _ _ HLi.out HFt.out (by omega) (Nat.le_refl _)).mono ?_
      rintro e w1 ⟨v1, rs1, rfl, ho1, hx1, hb1⟩
      have hr1 : rs1.length = nt := by rw [rs_len hx1, offZ_len, hl]
      obtain ⟨A1, c1, rfl, hs1, _⟩ := ho1.sl
      rw [hr1] at hs1 ⊢
      have HS1 := Lib.hid hs1
      have HF2 := Lib.hid (FSl.below HFs.out hb1)
      have HX1 := Lib.hid hx1
      have HO1 := Lib.hid (HOt.out.keepS hb1)
      have HO2 := Lib.hid (ho.out.keepS hb1)
      have G1 := Lib.hid (hbel.out.trans (hb1.mono hsz))
      have hz1 := hb1.size
      clear hs1 hb1 ho1 hx1 HFt HFs HOt HLi
      go_wp2_with fail
      with_reducible refine (l02Off_any _ _ _ _ _ _ _ _ _ HS1.out HF2.out (by omega) (Nat.le_refl _)).mono ?_
      rintro e w2 ⟨v2, rs2, rfl, ho2, hx2, hb2⟩
      have hre : cnl rs2 = apRe zs (m : Int) (sd : Int) (t : Int) := by
        rw [hx2, ← offZ_cnl1, HX1.out]
        unfold apRe
        rw [HTr.out, HSe.out, offZ_cnl2, offZ_cnl2]
      have hr2 : rs2.length = nt := by rw [rs_len hx2, offZ_len, hr1]
      obtain ⟨A2, c2, rfl, hs2, _⟩ := ho2.sl
      have HR2 := Lib.hid (show FOwn 23 w.heap.size w2 (.slice A2 rs2.length c2) rs2 from ho2.mono (by omega))
      have HA1 := Lib.hid (show Apt (.slice At nt ct) (.slice A2 rs2.length c2) from apt_of HO1.out ho2 (Nat.le_refl _))
      have HA2 := Lib.hid (show Apt (.slice As nt cs) (.slice A2 rs2.length c2) from apt_of HO2.out ho2 (Nat.le_refl _))
      have HT2 := Lib.hid (HO1.out.keepS hb2)
      have HE2 := Lib.hid (HO2.out.keepS hb2)
      have HS2 := Lib.hid hs2
      have HRe := Lib.hid hre
      have G2 := Lib.hid (G1.out.trans (hb2.mono (by omega)))
      have HB := Lib.hid (show apB zs (m : Int) (sd : Int) (t : Int) = (fins rt && (fins rs && fins rs2)) by
        unfold apB
        rw [HB0.out, HTr.out, HSe.out, ← HRe.out, fins_cnl, fins_cnl, fins_cnl]; rfl)
      have HLs := Lib.hid (fun (hb : apB zs (m : Int) (sd : Int) (t : Int) = true) => (⟨by unfold apL; rw [hb, HTr.out]; rfl, by unfold apL; rw [hb, HSe.out]; rfl, by unfold apL; rw [hb, HRe.out]; rfl⟩ : cnl rt = apL zs m sd t (apTr zs m sd t) ∧ cnl rs = apL zs m sd t (apSe zs m sd t) ∧ cnl rs2 = apL zs m sd t (apRe zs m sd t)))
      have HF3 := Lib.hid HT2.out.fsl.2
      have HF4 := Lib.hid HE2.out.fsl.2
      rw [hr2] at HS2 HR2 HA1 HA2 ⊢
      clear hs2 hb2 ho2 hx2 hre HS1 HF2 HO1 HO2 G1 HX1
      cases hf1 : fins rt
      · have HN := Lib.hid (show apB zs (m : Int) (sd : Int) (t : Int) = false by rw [HB.out, hf1]; rfl)
        have HH1 := Lib.hid hf1
        clear hf1
        go_wp2_with fail
        refine (specFinite_any _ _ _ _ _ HF3.out (by omega)).mono ?_
        rw [HH1.out]
        rintro e w' ⟨m1, rfl, rfl⟩
        go_wp2
        (try simp only [Exit.inBlock, Exit.then])
        refine bodyPost_ret (results_tmp4 rfl _ _ _) rfl ?_
        exact HF.out _ (below_drewN G2.out _) HN.out
      have HH1 := Lib.hid hf1
      cases hf2 : fins rs
      · have HN := Lib.hid (show apB zs (m : Int) (sd : Int) (t : Int) = false by rw [HB.out, hf1, hf2]; rfl)
        have HH2 := Lib.hid hf2
        clear hf1 hf2
        go_wp2_with fail
        refine (specFinite_any _ _ _ _ _ HF3.out (by omega)).mono ?_
        rw [HH1.out]
        rintro e w' ⟨m1, rfl, rfl⟩
        go_wp2_with fail
        refine (specFinite_any _ _ _ _ _ (FSl.drewN HF4.out _) (by omega)).mono ?_
        rw [HH2.out]
        rintro e w' ⟨m2, rfl, rfl⟩
        go_wp2
        (try simp only [Exit.inBlock, Exit.then])
        refine bodyPost_ret (results_tmp4 rfl _ _ _) rfl ?_
        exact HF.out _ (below_drewN G2.out _) HN.out
      have HH2 := Lib.hid hf2
      cases hf3 : fins rs2
      · have HN := Lib.hid (show apB zs (m : Int) (sd : Int) (t : Int) = false by rw [HB.out, hf1, hf2, hf3]; rfl)
        have HH3 := Lib.hid hf3
        clear hf1 hf2 hf3
        go_wp2_with fail
        refine (specFinite_any _ _ _ _ _ HF3.out (by omega)).mono ?_
        rw [HH1.out]
        rintro e w' ⟨m1, rfl, rfl⟩
        go_wp2_with fail
        refine (specFinite_any _ _ _ _ _ (FSl.drewN HF4.out _) (by omega)).mono ?_
        rw [HH2.out]
        rintro e w' ⟨m2, rfl, rfl⟩
        go_wp2_with fail
        refine (specFinite_any _ _ _ _ _ (FSl.drewN HS2.out _) (by omega)).mono ?_
        rw [HH3.out]
        rintro e w' ⟨m3, rfl, rfl⟩
        go_wp2
        (try simp only [Exit.inBlock, Exit.then])
        refine bodyPost_ret (results_tmp4 rfl _ _ _) rfl ?_
        exact HF.out _ (below_drewN G2.out _) HN.out
      · have HT := Lib.hid (show apB zs (m : Int) (sd : Int) (t : Int) = true by rw [HB.out, hf1, hf2, hf3]; rfl)
        have HH3 := Lib.hid hf3
        clear hf1 hf2 hf3
        go_wp2_with fail
        refine (specFinite_any _ _ _ _ _ HF3.out (by omega)).mono ?_
        rw [HH1.out]
        rintro e w' ⟨m1, rfl, rfl⟩
        go_wp2_with fail
        refine (specFinite_any _ _ _ _ _ (FSl.drewN HF4.out _) (by omega)).mono ?_
        rw [HH2.out]
        rintro e w' ⟨m2, rfl, rfl⟩
        go_wp2_with fail
        refine (specFinite_any _ _ _ _ _ (FSl.drewN HS2.out _) (by omega)).mono ?_
        rw [HH3.out]
        rintro e w' ⟨m3, rfl, rfl⟩
        go_wp2
        (try simp only [Exit.inBlock, Exit.then])
        refine bodyPost_ret (results_tmp4 rfl _ _ _) rfl ?_
        exact ⟨_, rt, _, rs, _, rs2, by rw [HT.out]; rfl, ⟨HT2.out, HE2.out, HR2.out⟩, HLs.out HT.out, ⟨HAp.out, HA1.out, HA2.out⟩, below_drewN G2.out _⟩
end Go.Proofs.Ytallegmkkbmelaa
