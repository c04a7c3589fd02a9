/-
  StartState of the program.
-/
import Derived.Test.YtcfejkkkleiejaaSst
namespace Go.Proofs.Ytcfejkkkleiejaa
open Ieee Go.RowKit
set_option linter.unusedVariables false
theorem ss_pre {w : World} {b off len n : Nat} {zs : List Nat} (h : FSl w (some ⟨b, off, none⟩) len zs) (hl : 0 < len) (hn : n ≤ len) : FSl w (some ⟨b, off, none⟩) n (zs.take n) := by
  have := FSl.cut h hl (i := 0) (n := n) (by omega)
  rwa [Nat.add_zero, List.drop_zero] at this
set_option maxHeartbeats 4000000 in
set_option maxRecDepth 100000 in
theorem imSs_any (a : Option Addr) (len cap : Nat) (zs : List Nat) (p : Int) (w : World) (h : FSl w a len zs) (hm : len ≤ 1048576) (hcap : len ≤ cap) (hcap2 : cap ≤ 1048576) :
    Calls Try.prog 9 #[.slice a len cap, .int .i64 p] w (RetSS 23 zs p w) := by
  have HRES := Lib.hid (show Try.f9.results = #[.cell 4 25, .tmp 5] by kernel_rfl)
  have al0 := (Below.refl w.heap.size w).alloc (Nat.le_refl _) (.cells #[.float .f32 0, .float .f32 0, .slice none 0 0, .int .i64 0] 25)
  have G := Lib.hid al0
  have HO := Lib.hid (CIs.newAt w [.float .f32 0, .float .f32 0, .slice none 0 0, .int .i64 0] 25 (p := w.heap.size) rfl)
  have H := Lib.hid (FSl.below h al0)
  have HL := Lib.hid h.1
  have hsz0 : (w.alloc (.cells #[.float .f32 0, .float .f32 0, .slice none 0 0, .int .i64 0] 25)).heap.size = w.heap.size + 1 := World.size_alloc _ _
  have HW0 := Lib.hid h
  clear h al0
  cases hr : hrB zs p
  · have HR := Lib.hid hr
    have HB := Lib.hid (show ssB zs p = false by unfold ssB; rw [hr]; rfl)
    clear hr
    go_enter Try.func9, Try.ntmps9
    go_wp2_with fail
    refine (hasRound_any _ _ _ _ _ _ H.out hm).mono ?_
    rw [HR.out]
    rintro e w' ⟨m, rfl, rfl⟩
    replace G := Lib.hid (below_drewN G.out m)
    replace HO := Lib.hid (HO.out.drewN m)
    replace H := Lib.hid (FSl.drewN H.out m)
    replace hsz0 : ((w.alloc (.cells #[.float .f32 0, .float .f32 0, .slice none 0 0, .int .i64 0] 25)).drewN m).heap.size = w.heap.size + 1 := hsz0
    generalize (w.alloc (.cells #[.float .f32 0, .float .f32 0, .slice none 0 0, .int .i64 0] 25)).drewN m = Wm at *
    obtain ⟨g0, g1, g2, g3⟩ := HO.out.c4
    obtain ⟨f0, f1, f2, f3⟩ := HO.out.f4
    go_wp2_with fail
    have GF := Lib.hid ((((G.out.setCell (p := ⟨w.heap.size, 0, none⟩) (Nat.le_refl _) (.float .f32 0)).setCell (p := ⟨w.heap.size, 1, none⟩) (Nat.le_refl _) (.float .f32 0)).setCell (p := ⟨w.heap.size, 2, none⟩) (Nat.le_refl _) (.slice none 0 0)).setCell (p := ⟨w.heap.size, 3, none⟩) (Nat.le_refl _) (.int .i64 0))
    refine bodyPost_ret (v := .tuple #[.agg #[.float .f32 0, .float .f32 0, .slice none 0 0, .int .i64 0], .bool false]) ?_ rfl ?_
    · have hres := HRES.out
      simp only [results, hres]
      go_simp
    · exact ss_no HB.out GF.out
  have HR := Lib.hid hr
  obtain ⟨hs, hp1, hp2, hp3⟩ := hrB_t hr
  rw [HL.out] at hp3
  obtain ⟨n, rfl⟩ : ∃ n : Nat, p = n := ⟨p.toNat, by omega⟩
  have hn1 : 1 ≤ n := by omega
  have hn2 : n ≤ len := by omega
  obtain ⟨b, off, rfl, hbl, -⟩ := H.out.at (show 0 < len by omega)
  have HST := Lib.hid (ser_take (p := n) hs hn1 (by rw [HL.out]; exact hn2))
  have HSP := Lib.hid (fun h2 : 2 * n ≤ len => ser_part (p := n) hs hn1 (by rw [HL.out]; exact h2))
  have hi0 : (0 : Int) ≤ (n : Int) := by omega
  have hi1 : (n : Int) ≤ (cap : Int) := by omega
  have hi2 : (n : Int) ≤ (n : Int) := by omega
  have hi3 : (n : Int) ≤ (len : Int) := by omega
  have hMB : meanB (zs.take n) = fin .f32 (ssL zs n) := by unfold meanB ssL; rw [HST.out]; rfl
  clear hr hs hp1 hp2 hp3
  cases hml : fin .f32 (ssL zs n)
  · have HB := Lib.hid (ss_mean hml)
    have HM := Lib.hid (hMB.trans hml)
    clear hMB hml
    go_enter Try.func9, Try.ntmps9
    go_wp2_with fail
    refine (hasRound_any _ _ _ _ _ _ H.out hm).mono ?_
    rw [HR.out]
    rintro e w' ⟨m, rfl, rfl⟩
    replace G := Lib.hid (below_drewN G.out m)
    replace HO := Lib.hid (HO.out.drewN m)
    replace H := Lib.hid (FSl.drewN H.out m)
    replace hsz0 : ((w.alloc (.cells #[.float .f32 0, .float .f32 0, .slice none 0 0, .int .i64 0] 25)).drewN m).heap.size = w.heap.size + 1 := hsz0
    generalize (w.alloc (.cells #[.float .f32 0, .float .f32 0, .slice none 0 0, .int .i64 0] 25)).drewN m = Wm at *
    go_wp2_with fail
    refine (implMean_any _ _ _ (zs.take n) _ (ss_pre H.out (by omega) hn2) (by omega)).mono ?_
    rw [HM.out]
    rintro e w' ⟨r, m2, hr2, rfl, rfl⟩
    clear hr2
    replace G := Lib.hid (below_drewN G.out m2)
    replace HO := Lib.hid (HO.out.drewN m2)
    replace H := Lib.hid (FSl.drewN H.out m2)
    replace hsz0 : (Wm.drewN m2).heap.size = w.heap.size + 1 := hsz0
    generalize Wm.drewN m2 = Wm2 at *
    obtain ⟨g0, g1, g2, g3⟩ := HO.out.c4
    obtain ⟨f0, f1, f2, f3⟩ := HO.out.f4
    go_wp2_with fail
    have GF := Lib.hid ((((G.out.setCell (p := ⟨w.heap.size, 0, none⟩) (Nat.le_refl _) (.float .f32 0)).setCell (p := ⟨w.heap.size, 1, none⟩) (Nat.le_refl _) (.float .f32 0)).setCell (p := ⟨w.heap.size, 2, none⟩) (Nat.le_refl _) (.slice none 0 0)).setCell (p := ⟨w.heap.size, 3, none⟩) (Nat.le_refl _) (.int .i64 0))
    refine bodyPost_ret (v := .tuple #[.agg #[.float .f32 0, .float .f32 0, .slice none 0 0, .int .i64 0], .bool false]) ?_ rfl ?_
    · have hres := HRES.out
      simp only [results, hres]
      go_simp
    · exact ss_no HB.out GF.out
  have HM := Lib.hid (hMB.trans hml)
  have HMR := Lib.hid (show meanR (zs.take n) = ssL zs n by unfold meanR; rw [HM.out]; rfl)
  clear hMB hml
  go_enter Try.func9, Try.ntmps9
  go_wp2_with fail
  refine (hasRound_any _ _ _ _ _ _ H.out hm).mono ?_
  rw [HR.out]
  rintro e w' ⟨m, rfl, rfl⟩
  replace G := Lib.hid (below_drewN G.out m)
  replace HO := Lib.hid (HO.out.drewN m)
  replace H := Lib.hid (FSl.drewN H.out m)
  replace hsz0 : ((w.alloc (.cells #[.float .f32 0, .float .f32 0, .slice none 0 0, .int .i64 0] 25)).drewN m).heap.size = w.heap.size + 1 := hsz0
  generalize (w.alloc (.cells #[.float .f32 0, .float .f32 0, .slice none 0 0, .int .i64 0] 25)).drewN m = Wm at *
  go_wp2_with fail
  refine (implMean_any _ _ _ (zs.take n) _ (ss_pre H.out (by omega) hn2) (by omega)).mono ?_
  rw [HM.out, HMR.out]
  rintro e w' ⟨L, m2, hL, rfl, rfl⟩
  have HLv := Lib.hid hL
  clear hL
  replace G := Lib.hid (below_drewN G.out m2)
  replace HO := Lib.hid (HO.out.drewN m2)
  replace H := Lib.hid (FSl.drewN H.out m2)
  replace hsz0 : (Wm.drewN m2).heap.size = w.heap.size + 1 := hsz0
  generalize Wm.drewN m2 = Wm2 at *
  go_wp2_with fail
  refine (allLessO_any _ _ _ (zs.take n) L _ (ss_pre H.out (by omega) hn2) (by omega)).mono ?_
  rintro e W1 ⟨v, rs, rfl, ho, hx, bb⟩
  have hlr : rs.length = n := by have := congrArg List.length hx; rw [cnl_len, less_len, List.length_take, HL.out] at this; omega
  obtain ⟨g, cp, rfl, hg1, hg2⟩ := own_blk ho rfl (by omega)
  have HX := Lib.hid (show cnl rs = less32 (zs.take n) (ssL zs n) by rw [hx, HLv.out])
  obtain ⟨ps, hps⟩ : ∃ q, W1.heap.size = q := ⟨_, rfl⟩
  have bA := (Below.refl W1.heap.size W1).alloc (Nat.le_refl _) (.cells #[.float .f32 L, .float .f32 0, .slice (some ⟨g, 0, none⟩) rs.length cp, .int .i64 0] 25)
  have HC := Lib.hid (CIs.newAt W1 [.float .f32 L, .float .f32 0, .slice (some ⟨g, 0, none⟩) rs.length cp, .int .i64 0] 25 (p := ps) hps.symm)
  have hbs := bb.size
  replace HO := Lib.hid ((HO.out.below bb).below bA)
  replace G := Lib.hid ((G.out.trans (bb.mono (by omega))).trans (bA.mono (by omega)))
  have HZ := Lib.hid (FOwn.mono (FOwn.keepS ho bA) (show w.heap.size + 1 ≤ Wm2.heap.size by omega))
  have HRl := Lib.hid hlr
  have hgp : g < ps := by omega
  have hgw : w.heap.size < g := by omega
  have hps2 : (W1.alloc (.cells #[.float .f32 L, .float .f32 0, .slice (some ⟨g, 0, none⟩) rs.length cp, .int .i64 0] 25)).heap.size = ps + 1 := by rw [World.size_alloc, hps]
  clear ho hx bb bA hlr hg1 hg2 hbs H HM HMR HST
  go_upto_if 37 with fail
  try rw [hps]
  generalize W1.alloc (.cells #[.float .f32 L, .float .f32 0, .slice (some ⟨g, 0, none⟩) rs.length cp, .int .i64 0] 25) = W2 at *
  go_cut [36, 37] (fun v36 v37 wx => ∃ Zs : List Nat, Hid (CIs wx ps [.float .f32 L, .float .f32 0, .slice (some ⟨g, 0, none⟩) rs.length cp, .int .i64 0]) ∧ Hid (FOwn 23 (w.heap.size + 1) wx (.slice (some ⟨g, 0, none⟩) rs.length cp) Zs) ∧ Hid (Zs.length = rs.length) ∧ Hid (cnl Zs = ssZ zs n) ∧ Hid (Below w.heap.size w wx) ∧ Hid (CIs wx w.heap.size [.float .f32 0, .float .f32 0, .slice none 0 0, .int .i64 0]))
  case first =>
    by_cases h1 : n = 1
    · have hq1 : ((n : Int) == 1) = true := by rw [beq_iff_eq]; omega
      have hq2 : decide ((n : Int) = 1) = true := decide_eq_true (by omega)
      have hr1 : rs.length = 1 := by have := HRl.out; omega
      obtain ⟨c1, c2⟩ := own_cell HZ.out rfl (j := 0) (by omega)
      obtain ⟨k0, k1, k2, k3⟩ := HC.out.c4
      have hb0 : (0 : Int) < (rs.length : Int) := by omega
      have hb1 : 0 < rs.length := by omega
      have HZ1 := Lib.hid (own_put HZ.out rfl 0 0)
      have HC1 := Lib.hid (HC.out.set (q := g) (o := 0) (v := .float .f32 0) (by omega))
      have HO1 := Lib.hid (HO.out.set (q := g) (o := 0) (v := .float .f32 0) (by omega))
      have G1 := Lib.hid (G.out.setCell (p := ⟨g, 0, none⟩) (show w.heap.size ≤ g by omega) (.float .f32 0))
      have HE := Lib.hid (show cnl (rs.set 0 0) = ssZ zs n by
        match rs, hr1 with
        | [x], _ => unfold ssZ; rw [if_pos h1]; show [cn .f32 0] = [0]; rw [cn_zero])
      clear hr1 h1
      go_wp2_with fail
      go_meet
      case rel => exact ⟨rs.set 0 0, HC1, HZ1, Lib.hid (List.length_set ..), HE, G1, HO1⟩
    · have hq1 : ((n : Int) == 1) = false := by rw [beq_eq_false_iff_ne]; omega
      have hq2 : decide ((n : Int) = 1) = false := decide_eq_false (by omega)
      have HE := Lib.hid (show cnl rs = ssZ zs n by unfold ssZ; rw [if_neg h1]; exact HX.out)
      go_wp2_with fail
      go_meet
      case rel => exact ⟨rs, HC, HZ, Lib.hid rfl, HE, G, HO⟩
  case rest =>
    clear HC HZ G HO
    obtain ⟨Zs, HC, HZ, HZl, HZc, G, HO⟩ := hcut
    have HNP := Lib.hid (show (Value.slice (some ⟨g, 0, none⟩) rs.length cp).ownBlock ≠ some ps from fun e => by have h1 : g = ps := Option.some.inj e; omega)
    have hw : IntKind.i64.wrap (2 * (n : Int)) = ((2 * n : Nat) : Int) := by rw [IntKind.wrap_i64]; omega
    go_upto_if 45 with fail
    go_cut [44, 45] (fun v44 v45 wx => ∃ Sw : Nat, Hid (cn .f32 Sw = ssS zs n) ∧ Hid (CIs wx ps [.float .f32 L, .float .f32 Sw, .slice (some ⟨g, 0, none⟩) rs.length cp, .int .i64 0]) ∧ Hid (FOwn 23 (w.heap.size + 1) wx (.slice (some ⟨g, 0, none⟩) rs.length cp) Zs) ∧ Hid (Below w.heap.size w wx) ∧ Hid (CIs wx w.heap.size [.float .f32 0, .float .f32 0, .slice none 0 0, .int .i64 0]))
    case first =>
      by_cases h2 : 2 * n ≤ len
      · have hd1 : decide (((2 * n : Nat) : Int) ≤ (len : Int)) = true := decide_eq_true (by omega)
        have hx0 : (0 : Int) ≤ ((2 * n : Nat) : Int) := by omega
        have hx1 : (n : Int) ≤ ((2 * n : Nat) : Int) := by omega
        have hx2 : ((2 * n : Nat) : Int) ≤ (cap : Int) := by omega
        have hx3 : 2 * n - n = n := by omega
        have H2 := Lib.hid (FSl.cut (FSl.below HW0.out G.out) (show 0 < len by omega) (i := n) (n := n) (by omega))
        have HMB := Lib.hid (show meanB ((zs.drop n).take n) = fin .f32 (ssM zs n) by unfold meanB ssM; rw [HSP.out h2]; rfl)
        have HMV := Lib.hid (show meanR ((zs.drop n).take n) = if fin .f32 (ssM zs n) then ssM zs n else 0 by unfold meanR; rw [HMB.out]; rfl)
        have HS2 := Lib.hid (show ∀ M, cn .f32 M = ssM zs n → ∀ w1 w2, cn .f32 (fopR .quo .f32 (fopR .sub .f32 M L w1) (floatOfInt .f32 (n : Int)) w2) = ssS zs n from fun M hM w1 w2 => by rw [cn_fopR, cn_fopR, hM, HLv.out]; unfold ssS; rw [if_pos (by rw [HL.out]; exact h2)]; rfl)
        go_wp2_with fail
        refine (implMean_any _ _ _ ((zs.drop n).take n) _ H2.out (by omega)).mono ?_
        cases hm2 : fin .f32 (ssM zs n)
        · have HB := Lib.hid (ss_next (by rw [HL.out]; exact h2) hm2)
          rw [HMB.out, hm2]
          rintro e w' ⟨M, m4, hM, rfl, rfl⟩
          clear hM hm2 HMB HMV HS2
          replace G := Lib.hid (below_drewN G.out m4)
          replace HO := Lib.hid (HO.out.drewN m4)
          generalize wc.drewN m4 = wd at *
          obtain ⟨g0, g1, g2, g3⟩ := HO.out.c4
          obtain ⟨f0, f1, f2, f3⟩ := HO.out.f4
          go_wp2_with fail
          have GF := Lib.hid ((((G.out.setCell (p := ⟨w.heap.size, 0, none⟩) (Nat.le_refl _) (.float .f32 0)).setCell (p := ⟨w.heap.size, 1, none⟩) (Nat.le_refl _) (.float .f32 0)).setCell (p := ⟨w.heap.size, 2, none⟩) (Nat.le_refl _) (.slice none 0 0)).setCell (p := ⟨w.heap.size, 3, none⟩) (Nat.le_refl _) (.int .i64 0))
          refine bodyPost_ret (v := .tuple #[.agg #[.float .f32 0, .float .f32 0, .slice none 0 0, .int .i64 0], .bool false]) ?_ rfl ?_
          · have hres := HRES.out
            simp only [results, hres]
            go_simp
          · exact ss_no HB.out GF.out
        · rw [HMB.out, HMV.out, hm2, if_pos rfl]
          rintro e w' ⟨M, m4, hM, rfl, rfl⟩
          have HSw := Lib.hid (HS2.out M hM)
          clear hM hm2 HMB HMV HS2
          replace G := Lib.hid (below_drewN G.out m4)
          replace HO := Lib.hid (HO.out.drewN m4)
          replace HC := Lib.hid (HC.out.drewN m4)
          replace HZ := Lib.hid (FOwn.drewN HZ.out m4)
          generalize wc.drewN m4 = wd at *
          obtain ⟨k0, k1, k2, k3⟩ := HC.out.c4
          obtain ⟨f0, f1, f2, f3⟩ := HC.out.f4
          go_wp2_with fail
          go_meet
          case rel => exact ⟨_, Lib.hid (HSw.out _ _), Lib.hid ((HC.out.drewN _).put (o := 1) (v := .float .f32 _) (by simp)), Lib.hid (own_else (FOwn.drewN HZ.out _) HNP.out 1 _), Lib.hid ((below_drewN G.out _).setCell (p := ⟨ps, 1, none⟩) (show w.heap.size ≤ ps by omega) _), Lib.hid ((HO.out.drewN _).set (q := ps) (o := 1) (by omega))⟩
      · have hd1 : decide (((2 * n : Nat) : Int) ≤ (len : Int)) = false := decide_eq_false (by omega)
        have HS0 := Lib.hid (show cn .f32 0 = ssS zs n by unfold ssS; rw [if_neg (by rw [HL.out]; exact h2)]; exact cn_zero)
        go_wp2_with fail
        go_meet
        case rel => exact ⟨0, HS0, HC, HZ, G, HO⟩
    case rest =>
      clear HC HZ G HO
      obtain ⟨Sw, HSw, HC, HZ, G, HO⟩ := hcut
      obtain ⟨k0, k1, k2, k3⟩ := HC.out.c4
      obtain ⟨g0, g1, g2, g3⟩ := HO.out.c4
      go_wp2_with fail
      refine (imVSt_any _ _ _ _ _ Zs _ _ (own_fsl HZ.out) (by have := HRl.out; omega)).mono ?_
      rintro e w8 ⟨rfl, b8⟩
      clear k0 k1 k2 k3 g0 g1 g2 g3
      replace G := Lib.hid (G.out.trans (b8.mono G.out.size))
      replace HO := Lib.hid (HO.out.below b8)
      replace HC := Lib.hid (HC.out.below b8)
      replace HZ := Lib.hid (FOwn.keepS HZ.out b8)
      clear b8
      cases hst : stB L Sw Zs 0
      · have HB := Lib.hid (ss_bad HLv.out HSw.out HZc.out hst)
        clear hst
        obtain ⟨g0, g1, g2, g3⟩ := HO.out.c4
        obtain ⟨f0, f1, f2, f3⟩ := HO.out.f4
        go_wp2_with fail
        have GF := Lib.hid ((((G.out.setCell (p := ⟨w.heap.size, 0, none⟩) (Nat.le_refl _) (.float .f32 0)).setCell (p := ⟨w.heap.size, 1, none⟩) (Nat.le_refl _) (.float .f32 0)).setCell (p := ⟨w.heap.size, 2, none⟩) (Nat.le_refl _) (.slice none 0 0)).setCell (p := ⟨w.heap.size, 3, none⟩) (Nat.le_refl _) (.int .i64 0))
        refine bodyPost_ret (v := .tuple #[.agg #[.float .f32 0, .float .f32 0, .slice none 0 0, .int .i64 0], .bool false]) ?_ rfl ?_
        · have hres := HRES.out
          simp only [results, hres]
          go_simp
        · exact ss_no HB.out GF.out
      · have HST2 := Lib.hid hst
        clear hst
        obtain ⟨k0, k1, k2, k3⟩ := HC.out.c4
        obtain ⟨g0, g1, g2, g3⟩ := HO.out.c4
        obtain ⟨f0, f1, f2, f3⟩ := HO.out.f4
        have hne := own_far HZ.out (show w.heap.size < w.heap.size + 1 by omega)
        have HZF := Lib.hid (FOwn.mono (own_else (own_else (own_else (own_else HZ.out hne 0 (.float .f32 L)) hne 1 (.float .f32 Sw)) hne 2 (.slice (some ⟨g, 0, none⟩) rs.length cp)) hne 3 (.int .i64 0)) (show w.heap.size ≤ w.heap.size + 1 by omega))
        have GF := Lib.hid ((((G.out.setCell (p := ⟨w.heap.size, 0, none⟩) (Nat.le_refl _) (.float .f32 L)).setCell (p := ⟨w.heap.size, 1, none⟩) (Nat.le_refl _) (.float .f32 Sw)).setCell (p := ⟨w.heap.size, 2, none⟩) (Nat.le_refl _) (.slice (some ⟨g, 0, none⟩) rs.length cp)).setCell (p := ⟨w.heap.size, 3, none⟩) (Nat.le_refl _) (.int .i64 0))
        clear hne
        go_wp2_with fail
        refine bodyPost_ret (v := .tuple #[.agg #[.float .f32 L, .float .f32 Sw, .slice (some ⟨g, 0, none⟩) rs.length cp, .int .i64 0], .bool true]) ?_ rfl ?_
        · have hres := HRES.out
          simp only [results, hres]
          go_simp
        · have hl := HZl.out
          rw [← hl] at HZF GF ⊢
          exact ss_yes HR.out HLv.out HSw.out HZc.out HST2.out HZF.out GF.out
end Go.Proofs.Ytcfejkkkleiejaa
