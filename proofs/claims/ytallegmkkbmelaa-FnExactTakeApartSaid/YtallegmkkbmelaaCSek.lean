/-
  SeasonOf, in both packages: the whole functions (from stage 3 on: CSei is stage 2's).
-/
import Derived.Test.YtallegmkkbmelaaCMbp
namespace Go.Proofs.Ytallegmkkbmelaa
open Ieee Go.RowKit
set_option linter.unusedVariables false

/-- What the closure of SeasonOf reads. -/
def SeaI (bl bm : Nat) (a : Option Addr) (n cp : Nat) (rs : List Nat) (mm : Nat) (_k : Nat) (wr : World) : Prop :=
  BoxI bl a n cp rs wr ∧ ∃ x, wr.cell? ⟨bm, 0, none⟩ = some (.float .f32 x) ∧ cn .f32 x = mm
theorem SeaI.keep {bl bm B : Nat} {a : Option Addr} {n cp k k' mm : Nat} {rs : List Nat} {wr wr' : World} (h : SeaI bl bm a n cp rs mm k wr) (h1 : bl < B) (h2 : bm < B) (hb : Below B wr wr') : SeaI bl bm a n cp rs mm k' wr' := by
  obtain ⟨g1, x, hx, hx2⟩ := h
  exact ⟨g1.keep h1 hb, x, by rw [hb.cell (p := ⟨bm, 0, none⟩) h2]; exact hx, hx2⟩
def seaT (rs : List Nat) (mm : Nat) (j : Nat) : Nat := aop .sub .f32 (cn .f32 (rs.getD j 0)) mm
theorem sea1_any (bl bm B0 B : Nat) (a : Option Addr) (n cp j mm : Nat) (rs : List Nat) (wr : World) (h : SeaI bl bm a n cp rs mm j wr) (hj : j < n) (hm : n ≤ 96) :
    Calls Try.prog 82 #[.int .i64 j, .pointer (some ⟨bl, 0, none⟩), .pointer (some ⟨bm, 0, none⟩)] wr (Tells (seaT rs mm) (SeaI bl bm a n cp rs mm) B0 B j wr) := by
  have HI := Lib.hid h
  obtain ⟨hbx, x, hx, hx2⟩ := h
  have hb1 := hbx.1
  obtain ⟨b, off, rfl, hb, hc⟩ := hbx.2 (by omega)
  have hcj := hc j hj
  have HT := Lib.hid (show ∀ z, rs.getD j 0 = z → ∀ w1, cn .f32 (fopR .sub .f32 z x w1) = seaT rs mm j from fun z hz w1 => by rw [cn_fopR, hx2, ← hz]; rfl)
  obtain ⟨z, hz⟩ : ∃ z, rs.getD j 0 = z := ⟨_, rfl⟩
  rw [hz] at hcj
  have HTz := Lib.hid (HT.out z hz)
  clear hc hb HT hz hx2 hbx
  go_enter Try.func82, Try.ntmps82
  go_wp2
  go_region
  all_goals
    go_wp2
    go_ret
    exact ⟨_, rfl, HTz.out _, HI.out.keep (B := bl + bm + 1) (by omega) (by omega) (below_drewN (Below.refl _ _) _), below_drewN (Below.refl _ _) _, rfl⟩
theorem sea_tells {rs zs : List Nat} {n : Nat} (h : cnl rs = meansZ zs n n) : tells (seaT rs (seaM zs n)) n = seaZ zs n := by
  unfold seaZ
  rw [← h]
  have hl : rs.length = n := by rw [← cnl_len, h]; unfold meansZ; rw [tells_len]
  unfold tells less32 seaT cnl
  refine List.ext_getElem (by simp [hl]) fun i h1 h2 => ?_
  have hi : i < rs.length := by simp at h1; omega
  simp [List.getD, hi, cn_cn]

set_option maxHeartbeats 4000000 in
theorem implSea_any (a : Option Addr) (len cap : Nat) (zs : List Nat) (q : Int) (w : World) (h : FSl w a len zs) (hm : len ≤ 1048576) :
    Calls Try.prog 75 #[.slice a len cap, .int .i64 q] w (RetOB 23 (seaR zs q) (seaB zs q) w) := by
  have hmf : ∀ (fn : Fn) (first cap : Array Value) (w : World), (Instr.makeFunc fn first cap).run Try.prog w = .ok (.func fn first cap) w := fun _ _ _ _ => rfl
  have H := Lib.hid h
  have HL := Lib.hid h.1
  clear h
  cases hB : stepB zs q
  · have HB := Lib.hid (sea_bad hB)
    cases hs : serB zs
    · have HS := Lib.hid hs
      clear hs hB
      go_enter Try.func75, Try.ntmps75
      go_wp2_with (go_at_call 32; refine (implSeries_any _ _ _ _ _ H.out hm).mono ?_; rw [HS.out]; rintro e w' ⟨m, rfl, rfl⟩)
      go_ret2
      exact fail_ob _ HB.out.1 HB.out.2 (below_drewN (Below.refl _ _) _)
    · have hq := stepB_f hB hs
      rw [HL.out] at hq
      have HS := Lib.hid hs
      clear hs hB
      rcases (show q < 1 ∨ (1 ≤ q ∧ (len : Int) < q) by omega) with hq | ⟨hq, hq2⟩
      · have hd : decide (q < 1) = true := decide_eq_true hq
        go_enter Try.func75, Try.ntmps75
        go_wp2_with (go_at_call 32; refine (implSeries_any _ _ _ _ _ H.out hm).mono ?_; rw [HS.out]; rintro e w' ⟨m, rfl, rfl⟩)
        go_ret2
        exact fail_ob _ HB.out.1 HB.out.2 (below_drewN (Below.refl _ _) _)
      · have hd : decide (q < 1) = false := decide_eq_false (by omega)
        have hd2 : decide ((len : Int) < q) = true := decide_eq_true hq2
        go_enter Try.func75, Try.ntmps75
        go_wp2_with (go_at_call 32; refine (implSeries_any _ _ _ _ _ H.out hm).mono ?_; rw [HS.out]; rintro e w' ⟨m, rfl, rfl⟩)
        go_ret2
        exact fail_ob _ HB.out.1 HB.out.2 (below_drewN (Below.refl _ _) _)
  · obtain ⟨hs, hq1, hq2, hq3⟩ := stepB_t hB
    obtain ⟨n, rfl⟩ : ∃ n : Nat, q = n := ⟨q.toNat, by omega⟩
    rw [HL.out] at hq2 hq3
    have HS := Lib.hid hs
    have HB := Lib.hid (sea_good hB)
    have hn1 : 1 ≤ n := by omega
    have hn2 : n ≤ len := by omega
    have hd : decide ((n : Int) < 1) = false := decide_eq_false (by omega)
    have hd2 : decide ((len : Int) < (n : Int)) = false := decide_eq_false (by omega)
    have hd3 : decide (len < n) = false := decide_eq_false (by omega)
    clear hs hB
    go_enter Try.func75, Try.ntmps75
    go_wp2_with fail
    refine (implSeries_any _ _ _ _ _ H.out hm).mono ?_
    rw [HS.out]
    rintro e w' ⟨m, rfl, rfl⟩
    go_wp2_with fail
    refine (means_any _ _ _ _ _ _ (FSl.drewN H.out m) HS.out hn1 hn2 hq3).mono ?_
    rintro e w1 ⟨v, rs, rfl, hown, hrs, hbel⟩
    have hzw1 : w.heap.size ≤ w1.heap.size := hbel.size
    obtain ⟨A, cp, rfl, hsl, hat⟩ := hown.sl
    have HB1 := Lib.hid ((below_drewN (Below.refl w.heap.size w) m).trans hbel)
    have hsa : w.heap.size ≤ w1.heap.size := hzw1
    cases hfm : fins (meansZ zs n n)
    · have HBad := Lib.hid (show fins (seaZ zs n) = false from Bool.eq_false_iff.2 fun hh => by have := sea_fins hn1 hh; rw [hfm] at this; cases this)
      have HE1 := Lib.hid (show seaB zs n = false by rw [HB.out.1]; unfold seaL; rw [Int.toNat_natCast]; exact HBad.out)
      have HE2 := Lib.hid (show seaR zs n = [] by rw [HB.out.2]; unfold seaL lstR; rw [Int.toNat_natCast, HBad.out]; rfl)
      clear hown hrs hbel hsl hat hfm
      go_wp2
      go_ret2
      exact fail_ob _ HE1.out HE2.out (HB1.out.alloc hsa _)
    · have HRs := Lib.hid (show cnl rs = meansZ zs n n by rw [hrs]; unfold lstR; rw [hfm]; rfl)
      have HLr := Lib.hid (show rs.length = n by rw [← cnl_len, HRs.out]; unfold meansZ; rw [tells_len])
      have HSr := Lib.hid (show serB rs = true by
        rw [serB_congr (rs' := meansZ zs n n) (by rw [HRs.out]; exact (means_cnl ..).symm)]
        unfold serB
        rw [hfm, show (meansZ zs n n).length = n by unfold meansZ; rw [tells_len], decide_eq_true ⟨hn1, by omega⟩]; rfl)
      have HMe := Lib.hid (show mean32 rs = seaM zs n by rw [← mean32_cnl rs, HRs.out]; rfl)
      rw [HLr.out] at hsl
      have HX1 := Lib.hid (BoxI.start (cap := cp) (t := 22) hsl)
      simp only [HLr.out]
      clear hown hrs hbel hsl hat hfm
      cases hf : fin .f32 (seaM zs n)
      · have HMB := Lib.hid (show meanB rs = false by unfold meanB; rw [HMe.out, hf, Bool.and_false])
        have HBad := Lib.hid (show fins (seaZ zs n) = false from Bool.eq_false_iff.2 fun hh => by rw [sea_mean hn1 hh] at hf; cases hf)
        have HE1 := Lib.hid (show seaB zs n = false by rw [HB.out.1]; unfold seaL; rw [Int.toNat_natCast]; exact HBad.out)
        have HE2 := Lib.hid (show seaR zs n = [] by rw [HB.out.2]; unfold seaL lstR; rw [Int.toNat_natCast, HBad.out]; rfl)
        have HBq := Lib.hid (HB1.out.alloc hsa (.cells #[.slice A n cp] 22))
        clear hf
        go_wp2_with fail
        refine (implMean_any _ _ _ _ _ (HX1.out.fsl HLr.out) (by omega)).mono ?_
        rw [HMB.out]
        rintro e w' ⟨r, m2, hr, rfl, rfl⟩
        clear hr
        go_wp2
        go_ret2
        exact fail_ob _ HE1.out HE2.out ((below_drewN HBq.out m2).alloc (by simp; omega) _)
      · have HMB := Lib.hid (show meanB rs = true by unfold meanB; rw [HMe.out, hf, HSr.out]; rfl)
        have HMR := Lib.hid (show meanR rs = seaM zs n by unfold meanR; rw [HMB.out, if_pos rfl, HMe.out])
        have HBq := Lib.hid (HB1.out.alloc hsa (.cells #[.slice A n cp] 22))
        clear hf
        go_wp2_with fail
        refine (implMean_any _ _ _ _ _ (HX1.out.fsl HLr.out) (by omega)).mono ?_
        rw [HMB.out, HMR.out]
        rintro e w' ⟨r, m2, hr, rfl, rfl⟩
        have HR1 := Lib.hid hr
        clear hr
        have HI := Lib.hid (show SeaI w1.heap.size (w1.heap.size + 1) A n cp rs (seaM zs n) 0 (((w1.alloc (.cells #[.slice A n cp] 22)).drewN m2).alloc (.cells #[.float .f32 r] 23)) from by
          refine ⟨BoxI.keep (B := w1.heap.size + 1) (wr := (w1.alloc (.cells #[.slice A n cp] 22)).drewN m2) HX1.out (by omega) ((Below.refl _ _).alloc (by simp) _), r, ?_, HR1.out⟩
          rw [World.cell?_alloc_at _ _ _ _ (by simp)]; rfl)
        have hbx3 : ∀ o, (((w1.alloc (.cells #[.slice A n cp] 22)).drewN m2).alloc o).cell? ⟨w1.heap.size, 0, none⟩ = some (.slice A n cp) := fun o => (World.cell?_alloc_past _ _ _ (by simp)).trans HX1.out.1
        go_wp2_with fail
        refine (places_any 82 #[.pointer (some ⟨w1.heap.size, 0, none⟩), .pointer (some ⟨w1.heap.size + 1, 0, none⟩)] (seaT rs (seaM zs n)) (SeaI w1.heap.size (w1.heap.size + 1) A n cp rs (seaM zs n)) w.heap.size n _ (enter_of Try.func82 (by kernel_rfl) rfl) (by omega) (by simp; omega) HI.out (fun k wr wr' h hb => h.keep (by simp; omega) (by simp) hb) (fun k wr hk hsz hI => sea1_any _ _ _ _ _ _ _ _ _ _ _ hI hk (by omega))).mono ?_
        rintro e w2 ⟨v, ys, rfl, ho, hx, hb⟩
        have HO := Lib.hid (ho.mono (show w.heap.size ≤ _ by simp; omega))
        have HE3 := Lib.hid (show tells (seaT rs (seaM zs n)) n = seaL zs n by rw [sea_tells HRs.out]; unfold seaL; rw [Int.toNat_natCast])
        have HX2 := Lib.hid (show cnl ys = seaR zs n by rw [hx, HE3.out, HB.out.2])
        have HBl := Lib.hid (((below_drewN HBq.out m2).alloc (by simp; omega) _).trans hb)
        have HT := Lib.hid (show fins (tells (seaT rs (seaM zs n)) n) = seaB zs n by rw [HE3.out, HB.out.1])
        rw [HT.out]
        clear ho hx hb
        go_wp2
        go_ret2
        exact ⟨v, ys, rfl, HO.out, HX2.out, HBl.out⟩
end Go.Proofs.Ytallegmkkbmelaa
