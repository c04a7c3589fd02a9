/-
  FoldedBy, in both packages: the functions themselves.
-/
import Derived.Test.YtallegmkkbmelaaCFok
namespace Go.Proofs.Ytallegmkkbmelaa
open Ieee Go.RowKit
set_option linter.unusedVariables false

set_option maxHeartbeats 1000000 in
set_option maxRecDepth 100000 in
theorem specFol_any (a : Option Addr) (len cap : Nat) (zs : List Nat) (q : Int) (w : World) (h : FSl w a len zs) (hm : len ≤ 1048576) :
    Calls Try.prog 25 #[.slice a len cap, .int .i64 q] w (RetL1F1 23 (fdL zs q) (fdV zs q) (fdB zs q) w) := by
  have H := Lib.hid h
  have HL := Lib.hid h.1
  clear h
  cases hB : stepB zs q
  · have HB := Lib.hid (fd_step hB)
    cases hs : serB zs
    · have HS := Lib.hid hs
      clear hs hB
      go_enter Try.func25, Try.ntmps25
      go_wp2_with (go_at_call 29; refine (specSeries_any _ _ _ _ _ H.out hm).mono ?_; rw [HS.out]; rintro e w' ⟨m, rfl, rfl⟩)
      go_ret3
      exact fail_l1f1 _ HB.out (fd_bad HB.out).1 (fd_bad HB.out).2 (below_drewN (Below.refl _ _) _)
    · have hq := stepB_f hB hs
      rw [HL.out] at hq
      have HS := Lib.hid hs
      clear hs hB
      go_enter Try.func25, Try.ntmps25
      go_wp2_with fail
      refine (specSeries_any _ _ _ _ _ H.out hm).mono ?_
      rw [HS.out]
      rintro e w' ⟨m, rfl, rfl⟩
      go_wp2_with fail
      refine (in_no _ _ _ _ hq).mono ?_
      rintro e w' ⟨rfl, rfl⟩
      go_wp2
      go_ret3
      exact fail_l1f1 _ HB.out (fd_bad HB.out).1 (fd_bad HB.out).2 (below_drewN (Below.refl _ _) _)
  · obtain ⟨hs, hq1, hq2, hq3⟩ := stepB_t hB
    obtain ⟨n, rfl⟩ : ∃ n : Nat, q = n := ⟨q.toNat, by omega⟩
    rw [HL.out] at hq2 hq3
    have HS := Lib.hid hs
    have HBd := Lib.hid (show fdB zs n = (fins (meansZ zs n n) && fin .f32 (fdS zs n)) by unfold fdB; rw [hB, Int.toNat_natCast]; rfl)
    clear hs hB
    go_enter Try.func25, Try.ntmps25
    go_wp2_with fail
    refine (specSeries_any _ _ _ _ _ H.out hm).mono ?_
    rw [HS.out]
    rintro e w' ⟨m, rfl, rfl⟩
    go_wp2_with fail
    refine (in_yes _ _ _ _ hq1 hq2).mono ?_
    rintro e w' ⟨rfl, rfl⟩
    go_wp2_with fail
    refine (fold_any _ _ _ _ _ _ (FSl.drewN H.out m) hq3 (by omega) (by omega)).mono ?_
    rintro e w1 ⟨f, r, rfl, hrow, hme, hr, hbel⟩
    have HO := Lib.hid (own_of_row hrow (by unfold maxLen; omega))
    have HE := Lib.hid hme.done
    have HR := Lib.hid hr
    have HB1 := Lib.hid ((below_drewN (Below.refl w.heap.size w) m).trans hbel)
    have HLn := Lib.hid (show ((List.range n).map f).length = n by simp)
    obtain ⟨A, cp, e1, hsl, _⟩ := HO.out.sl
    rw [HLn.out] at hsl e1
    injection e1 with e1 _ e2
    subst e1 e2
    have HSL := Lib.hid hsl
    have HFr := Lib.hid (show fin .f32 r = fin .f32 (fdS zs n) from fin_congr (by rw [hr]; unfold fdS; rw [sumT_cn]))
    have HFs := Lib.hid (show fins ((List.range n).map f) = fins (meansZ zs n n) by rw [← HE.out, fins_cnl])
    clear hrow hme hr hbel hsl
    cases hf : fins (meansZ zs n n)
    · have HF := Lib.hid (HFs.out.trans hf)
      have HN := Lib.hid (show fdB zs n = false by rw [HBd.out, hf]; rfl)
      clear hf
      go_wp2_with (go_at_call 45; refine (specFinite_any _ _ _ _ _ HSL.out (by omega)).mono ?_; rw [HF.out]; rintro e w' ⟨m2, rfl, rfl⟩)
      go_ret3
      exact fail_l1f1 _ HN.out (fd_bad HN.out).1 (fd_bad HN.out).2 (below_drewN HB1.out _)
    · have HF := Lib.hid (HFs.out.trans hf)
      cases hg : fin .f32 (fdS zs n)
      · have HG := Lib.hid (HFr.out.trans hg)
        have HN := Lib.hid (show fdB zs n = false by rw [HBd.out, hf, hg]; rfl)
        clear hf hg
        go_wp2_with (first | (go_at_call 45; refine (specFinite_any _ _ _ _ _ HSL.out (by omega)).mono ?_; rw [HF.out]; rintro e w' ⟨m2, rfl, rfl⟩) | (go_at_call 58; refine (l01Finite_any _ _).mono ?_; rw [HG.out]; rintro e w' ⟨m3, rfl, rfl⟩))
        go_ret3
        exact fail_l1f1 _ HN.out (fd_bad HN.out).1 (fd_bad HN.out).2 (below_drewN HB1.out _)
      · have HG := Lib.hid (HFr.out.trans hg)
        have HY := Lib.hid (show fdB zs n = true by rw [HBd.out, hf, hg]; rfl)
        clear hf hg
        go_wp2_with (first | (go_at_call 45; refine (specFinite_any _ _ _ _ _ HSL.out (by omega)).mono ?_; rw [HF.out]; rintro e w' ⟨m2, rfl, rfl⟩) | (go_at_call 58; refine (l01Finite_any _ _).mono ?_; rw [HG.out]; rintro e w' ⟨m3, rfl, rfl⟩))
        go_ret3
        exact ⟨_, _, r, by rw [HY.out]; rfl, HO.out, by rw [HE.out]; unfold fdL; rw [HY.out, Int.toNat_natCast]; rfl, by rw [HR.out]; unfold fdV; rw [HY.out, Int.toNat_natCast]; rfl, below_drewN HB1.out _⟩

/-- What the closure of FoldedBy reads. -/
def FolI (bl bm : Nat) (a c : Option Addr) (len n cp cq : Nat) (zs rs : List Nat) (_k : Nat) (wr : World) : Prop := BoxI bl a len cp zs wr ∧ BoxI bm c n cq rs wr
theorem FolI.keep {bl bm B len n cp cq k k' : Nat} {a c : Option Addr} {zs rs : List Nat} {wr wr' : World} (h : FolI bl bm a c len n cp cq zs rs k wr) (h1 : bl < B) (h2 : bm < B) (hb : Below B wr wr') : FolI bl bm a c len n cp cq zs rs k' wr' := ⟨h.1.keep h1 hb, h.2.keep h2 hb⟩
theorem fol1_any (bl bm B0 len n cp cq j : Nat) (a c : Option Addr) (zs rs : List Nat) (wr : World) (h : FolI bl bm a c len n cp cq zs rs j wr) (hj : j < len) (hm : len ≤ 96) (hn : 1 ≤ n) (hrs : cnl rs = meansZ zs n n) :
    Calls Try.prog 61 #[.int .i64 j, .pointer (some ⟨bl, 0, none⟩), .pointer (some ⟨bm, 0, none⟩)] wr (Adds (fdT zs n) (FolI bl bm a c len n cp cq zs rs) B0 j wr) := by
  have HI := Lib.hid h
  obtain ⟨⟨hb1, hx1⟩, ⟨hb2, hx2⟩⟩ := h
  obtain ⟨q, hq⟩ : ∃ q, j % n = q := ⟨_, rfl⟩
  have hqn : q < n := by rw [← hq]; exact Nat.mod_lt _ hn
  have hqz : (j : Int) % (n : Int) = (q : Int) := by rw [← hq]; exact (Int.natCast_emod j n).symm
  have hqt : (j : Int).tmod (n : Int) = (q : Int) := by rw [Int.tmod_eq_emod_of_nonneg (by omega)]; exact hqz
  have p1 : (0 : Int) ≤ (j : Int) := by omega
  have p2 : (0 : Int) ≤ (q : Int) := by omega
  have l2 : (q : Int) < (n : Int) := by omega
  have g1 : decide ((n : Int) = 0) = false := decide_eq_false (by omega)
  have g2 : ((n : Int) == 0) = false := beq_false_of_ne (by omega)
  have g3 : (n : Int) ≠ 0 := by omega
  obtain ⟨b, off, rfl, _, hc⟩ := hx1 (by omega)
  obtain ⟨b', off', rfl, _, hc'⟩ := hx2 (by omega)
  have hck := hc j hj
  have hck' := hc' q hqn
  have hlr : rs.length = n := by rw [← cnl_len, hrs]; unfold meansZ; rw [tells_len]
  have HA := Lib.hid (show ∀ z x, zs.getD j 0 = z → rs.getD q 0 = x → ∀ w1 w2, cn .f32 (fopR .mul .f32 (fopR .sub .f32 z x w1) (fopR .sub .f32 z x w1) w2) = fdT zs n j from fun z x hz hx w1 w2 => by
    rw [cn_fopR, cn_fopR]
    unfold fdT
    rw [hq, ← hz, ← hx, ← cnl_at (rs := rs) (by rw [hlr]; exact hqn), hrs])
  generalize hz : zs.getD j 0 = z at hck
  generalize hx : rs.getD q 0 = x at hck'
  have HA2 := Lib.hid (HA.out z x hz hx)
  clear hx1 hx2 hc hc' hz hx hq HA
  go_enter Try.func61, Try.ntmps61
  go_wp2
  go_region
  all_goals
    go_wp2
    go_ret
    exact Adds.quiet (HA2.out _ _) (HI.out.keep (B := bl + bm + 1) (by omega) (by omega) (below_drewN (Below.refl _ _) _))

set_option maxHeartbeats 1000000 in
set_option maxRecDepth 100000 in
theorem implFol_any (a : Option Addr) (len cap : Nat) (zs : List Nat) (q : Int) (w : World) (h : FSl w a len zs) (hm : len ≤ 1048576) :
    Calls Try.prog 26 #[.slice a len cap, .int .i64 q] w (RetL1F1 23 (fdL zs q) (fdV zs q) (fdB zs q) w) := by
  have hmf : ∀ (fn : Fn) (first cap : Array Value) (w : World), (Instr.makeFunc fn first cap).run Try.prog w = .ok (.func fn first cap) w := fun _ _ _ _ => rfl
  have HB0 := Lib.hid ((Below.refl w.heap.size w).alloc (Nat.le_refl _) (.cells #[.slice a len cap] 22))
  have H := Lib.hid (FSl.below h HB0.out)
  have HL := Lib.hid h.1
  have HX := Lib.hid (BoxI.start (cap := cap) (t := 22) h)
  have hbx := HX.out.1
  clear h
  cases hB : stepB zs q
  · have HB := Lib.hid (fd_step hB)
    cases hs : serB zs
    · have HS := Lib.hid hs
      clear hs hB
      go_enter Try.func26, Try.ntmps26
      go_wp2_with (go_at_call 32; refine (implSeries_any _ _ _ _ _ H.out hm).mono ?_; rw [HS.out]; rintro e w' ⟨m, rfl, rfl⟩)
      go_ret3
      exact fail_l1f1 _ HB.out (fd_bad HB.out).1 (fd_bad HB.out).2 (below_drewN HB0.out _)
    · have hq := stepB_f hB hs
      rw [HL.out] at hq
      have HS := Lib.hid hs
      clear hs hB
      rcases (show q < 1 ∨ (1 ≤ q ∧ (len : Int) < q) by omega) with hq | ⟨hq, hq2⟩
      · have hd : decide (q < 1) = true := decide_eq_true hq
        go_enter Try.func26, Try.ntmps26
        go_wp2_with (go_at_call 32; refine (implSeries_any _ _ _ _ _ H.out hm).mono ?_; rw [HS.out]; rintro e w' ⟨m, rfl, rfl⟩)
        go_ret3
        exact fail_l1f1 _ HB.out (fd_bad HB.out).1 (fd_bad HB.out).2 (below_drewN HB0.out _)
      · have hd : decide (q < 1) = false := decide_eq_false (by omega)
        have hd2 : decide ((len : Int) < q) = true := decide_eq_true hq2
        go_enter Try.func26, Try.ntmps26
        go_wp2_with (go_at_call 32; refine (implSeries_any _ _ _ _ _ H.out hm).mono ?_; rw [HS.out]; rintro e w' ⟨m, rfl, rfl⟩)
        go_ret3
        exact fail_l1f1 _ HB.out (fd_bad HB.out).1 (fd_bad HB.out).2 (below_drewN HB0.out _)
  · obtain ⟨hs, hq1, hq2, hq3⟩ := stepB_t hB
    obtain ⟨n, rfl⟩ : ∃ n : Nat, q = n := ⟨q.toNat, by omega⟩
    rw [HL.out] at hq2 hq3
    have HS := Lib.hid hs
    have HBd := Lib.hid (show fdB zs n = (fins (meansZ zs n n) && fin .f32 (fdS zs n)) by unfold fdB; rw [hB, Int.toNat_natCast]; rfl)
    have hn1 : 1 ≤ n := by omega
    have hn2 : n ≤ len := by omega
    have hd : decide ((n : Int) < 1) = false := decide_eq_false (by omega)
    have hd2 : decide ((len : Int) < (n : Int)) = false := decide_eq_false (by omega)
    have hd3 : decide (len < n) = false := decide_eq_false (by omega)
    clear hs hB
    go_enter Try.func26, Try.ntmps26
    go_wp2_with fail
    refine (implSeries_any _ _ _ _ _ H.out hm).mono ?_
    rw [HS.out]
    rintro e w' ⟨m, rfl, rfl⟩
    go_wp2_with fail
    refine (means_any _ _ _ _ _ _ (FSl.drewN H.out m) HS.out hn1 hn2 hq3).mono ?_
    rintro e w1 ⟨v, rs, rfl, hown, hrs, hbel⟩
    have hzw1 : w.heap.size + 1 ≤ w1.heap.size := by have := hbel.size; simpa using this
    have HB1 := Lib.hid ((below_drewN HB0.out m).trans (hbel.mono (by simp)))
    have HX1 := Lib.hid ((show BoxI w.heap.size a len cap zs ((w.alloc (.cells #[.slice a len cap] 22)).drewN m) from HX.out).keep (B := w.heap.size + 1) (by omega) (hbel.mono (by simp)))
    obtain ⟨A, cp, rfl, hsl, hat⟩ := hown.sl
    have HO := Lib.hid (hown.mono (show w.heap.size ≤ _ by simp))
    have hcb := HX1.out.1
    cases hfm : fins (meansZ zs n n)
    · have HN := Lib.hid (show fdB zs n = false by rw [HBd.out, hfm]; rfl)
      clear hown hrs hbel hsl hat hfm HO
      go_wp2
      go_ret3
      exact fail_l1f1 _ HN.out (fd_bad HN.out).1 (fd_bad HN.out).2 (HB1.out.alloc (by omega) _)
    · have HRs := Lib.hid (show cnl rs = meansZ zs n n by rw [hrs]; unfold lstR; rw [hfm]; rfl)
      have HLr := Lib.hid (show rs.length = n by rw [← cnl_len, HRs.out]; unfold meansZ; rw [tells_len])
      rw [HLr.out] at hsl
      have HXm := Lib.hid (BoxI.start (cap := cp) (t := 22) hsl)
      have hbm := HXm.out.1
      have HO2 := Lib.hid (HO.out.alloc (.cells #[.slice A n cp] 22))
      have HX2 := Lib.hid (HX1.out.keep (B := w.heap.size + 1) (by omega) ((Below.refl _ w1).alloc hzw1 (.cells #[.slice A n cp] 22)))
      have hca := HX2.out.1
      have HB2 := Lib.hid (HB1.out.alloc (by omega) (.cells #[.slice A n cp] 22))
      rw [HLr.out] at HO2
      simp only [HLr.out]
      have HI := Lib.hid (show FolI w.heap.size w1.heap.size a A len n cap cp zs rs 0 _ from ⟨HX2.out, HXm.out⟩)
      clear hown hrs hbel hsl hat HO HX1 HXm HX
      go_wp2_with fail
      refine (summed_any 61 #[.pointer (some ⟨w.heap.size, 0, none⟩), .pointer (some ⟨w1.heap.size, 0, none⟩)] (fdT zs n) (FolI w.heap.size w1.heap.size a A len n cap cp zs rs) (w1.heap.size + 1) len _ (enter_of Try.func61 (by kernel_rfl) rfl) (by omega) (by simp) HI.out (fun k m wr h => h.keep (B := w1.heap.size + 1) (by omega) (by omega) (below_drewN (Below.refl _ _) _)) (fun k wr hk hsz hI => fol1_any _ _ _ _ _ _ _ _ _ _ _ _ _ hI hk hq3 hn1 HRs.out)).mono ?_
      rintro e w2 ⟨r, rfl, hr, hI2, hb2⟩
      have HR := Lib.hid (show cn .f32 r = fdS zs n by rw [hr]; unfold fdS; rw [HL.out])
      have HFr := Lib.hid (show fin .f32 r = fin .f32 (fdS zs n) from fin_congr (by rw [HR.out]; unfold fdS; rw [sumT_cn]))
      have HO3 := Lib.hid (HO2.out.keepS (show Below _ _ w2 from hb2.mono (by simp)))
      have HB3 := Lib.hid (HB2.out.trans (hb2.mono (by omega)))
      have hcm := hI2.2.1
      clear hr hI2 hb2 HO2
      cases hg : fin .f32 (fdS zs n)
      · have HG := Lib.hid (HFr.out.trans hg)
        have HN := Lib.hid (show fdB zs n = false by rw [HBd.out, hfm, hg]; rfl)
        clear hfm hg
        go_wp2_with (go_at_call 62; refine (isFinite_any _ _).mono ?_; rw [HG.out]; rintro e w' ⟨m3, rfl, rfl⟩)
        go_ret3
        exact fail_l1f1 _ HN.out (fd_bad HN.out).1 (fd_bad HN.out).2 (below_drewN HB3.out _)
      · have HG := Lib.hid (HFr.out.trans hg)
        have HY := Lib.hid (show fdB zs n = true by rw [HBd.out, hfm, hg]; rfl)
        clear hfm hg
        go_wp2_with (go_at_call 62; refine (isFinite_any _ _).mono ?_; rw [HG.out]; rintro e w' ⟨m3, rfl, rfl⟩)
        go_ret3
        exact ⟨_, rs, r, by rw [HY.out]; rfl, HO3.out, by rw [HRs.out]; unfold fdL; rw [HY.out, Int.toNat_natCast]; rfl, by rw [HR.out]; unfold fdV; rw [HY.out, Int.toNat_natCast]; rfl, below_drewN HB3.out _⟩
end Go.Proofs.Ytallegmkkbmelaa
