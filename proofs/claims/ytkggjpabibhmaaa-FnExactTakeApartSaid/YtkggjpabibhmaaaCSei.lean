/-
  SeasonOf, in both packages: the whole functions.
-/
import Derived.Test.YtkggjpabibhmaaaCSea
namespace Go.Proofs.Ytkggjpabibhmaaa
open Ieee Go.RowKit
set_option linter.unusedVariables false

theorem specSea_any (a : Option Addr) (len cap : Nat) (zs : List Nat) (q : Int) (w : World) (h : FSl w a len zs) (hm : len ≤ 1048576) :
    Calls Try.prog 28 #[.slice a len cap, .int .i64 q] w (RetOB 23 (seaR zs q) (seaB zs q) w) := by
  have H := Lib.hid h
  have HL := Lib.hid h.1
  clear h
  cases hB : stepB zs q
  · have HB := Lib.hid (sea_bad hB)
    cases hs : serB zs
    · have HS := Lib.hid hs
      clear hs hB
      go_enter Try.func28, Try.ntmps28
      go_wp2_with (go_at_call 47; refine (specSeries_any _ _ _ _ _ H.out hm).mono ?_; rw [HS.out]; rintro e w' ⟨m, rfl, rfl⟩)
      go_ret2
      exact fail_ob _ HB.out.1 HB.out.2 (below_drewN (Below.refl _ _) _)
    · have hq := stepB_f hB hs
      rw [HL.out] at hq
      have HS := Lib.hid hs
      clear hs hB
      go_enter Try.func28, Try.ntmps28
      go_wp2_with fail
      refine (specSeries_any _ _ _ _ _ H.out hm).mono ?_
      rw [HS.out]
      rintro e w' ⟨m, rfl, rfl⟩
      go_wp2_with fail
      refine (in_no _ _ _ _ hq).mono ?_
      rintro e w' ⟨rfl, rfl⟩
      go_wp2
      go_ret2
      exact fail_ob _ HB.out.1 HB.out.2 (below_drewN (Below.refl _ _) _)
  · obtain ⟨hs, hq1, hq2, hq3⟩ := stepB_t hB
    obtain ⟨n, rfl⟩ : ∃ n : Nat, q = n := ⟨q.toNat, by omega⟩
    rw [HL.out] at hq2 hq3
    have HS := Lib.hid hs
    have HB := Lib.hid (sea_good hB)
    clear hs hB
    go_enter Try.func28, Try.ntmps28
    go_wp2_with fail
    refine (specSeries_any _ _ _ _ _ H.out hm).mono ?_
    rw [HS.out]
    rintro e w' ⟨m, rfl, rfl⟩
    go_wp2_with fail
    refine (in_yes _ _ _ _ hq1 hq2).mono ?_
    rintro e w' ⟨rfl, rfl⟩
    go_wp2_with fail
    refine (season_any _ _ _ _ _ _ (FSl.drewN H.out m) hq3 (by omega) (by omega)).mono ?_
    rintro e w1 ⟨v, rs, rfl, hown, hrs, hbel⟩
    have hown : FOwn 23 w.heap.size w1 v rs := hown
    have hb1 := Lib.hid ((below_drewN (Below.refl w.heap.size w) m).trans hbel)
    have hfin := Lib.hid (show cnl rs = seaL zs n by unfold seaL; rw [hrs, Int.toNat_natCast])
    have hrk : rs.length ≤ 1048576 := by rw [← cnl_len, hrs, seaZ_len]; omega
    obtain ⟨A, cp, rfl, hsl, _⟩ := hown.sl
    have HSL := Lib.hid hsl
    have HO1 := Lib.hid hown
    clear hrs hsl hbel hown
    go_wp2_with fail
    refine (specList_any 23 _ _ rs (seaL zs n) _ w _ rfl HSL.out hfin.out hrk HO1.out hb1.out).mono ?_
    rintro e w2 ⟨v, rs', rfl, ho, hx', hb'⟩
    have HO := Lib.hid ho
    have HX := Lib.hid hx'
    have HBB := Lib.hid hb'
    clear ho hx' hb'
    go_wp2
    go_ret2
    exact ⟨v, rs', by rw [HB.out.1]; rfl, HO.out, HX.out.trans HB.out.2.symm, HBB.out⟩

/-- What the closure of SeasonOf reads. -/
def SeaI (bl bm : Nat) (a : Option Addr) (n : Nat) (rs : List Nat) (mm : Nat) (_k : Nat) (wr : World) : Prop :=
  BoxI bl a n n rs wr ∧ ∃ x, wr.cell? ⟨bm, 0, none⟩ = some (.float .f32 x) ∧ cn .f32 x = mm
theorem SeaI.keep {bl bm B : Nat} {a : Option Addr} {n k mm : Nat} {rs : List Nat} {wr wr' : World} (h : SeaI bl bm a n rs mm k wr) (h1 : bl < B) (h2 : bm < B) (hb : Below B wr wr') : SeaI bl bm a n rs mm k wr' := by
  obtain ⟨g1, x, hx, hx2⟩ := h
  exact ⟨g1.keep h1 hb, x, by rw [hb.cell (p := ⟨bm, 0, none⟩) h2]; exact hx, hx2⟩
def seaT (rs : List Nat) (mm : Nat) (j : Nat) : Nat := aop .sub .f32 (cn .f32 (rs.getD j 0)) mm
theorem sea1_any (bl bm B0 B : Nat) (a : Option Addr) (n j mm : Nat) (rs : List Nat) (wr : World) (h : SeaI bl bm a n rs mm j wr) (hj : j < n) (hm : n ≤ 96) :
    Calls Try.prog 63 #[.int .i64 j, .pointer (some ⟨bl, 0, none⟩), .pointer (some ⟨bm, 0, none⟩)] wr (Tells (seaT rs mm) (SeaI bl bm a n rs mm) B0 B j wr) := by
  have HI := Lib.hid h
  obtain ⟨hbx, x, hx, hx2⟩ := h
  have hb1 := hbx.1
  obtain ⟨b, off, rfl, hb, hc⟩ := hbx.2 (by omega)
  have hcj := hc j hj
  have HT := Lib.hid (show ∀ z, rs.getD j 0 = z → ∀ w1, cn .f32 (fopR .sub .f32 z x w1) = seaT rs mm j from fun z hz w1 => by rw [cn_fopR, hx2, ← hz]; rfl)
  obtain ⟨z, hz⟩ : ∃ z, rs.getD j 0 = z := ⟨_, rfl⟩
  rw [hz] at hcj
  have HTz := Lib.hid (HT.out z hz)
  clear hc hb HT hz hx2 hbx
  go_enter Try.func63, Try.ntmps63
  go_wp2
  go_region
  all_goals
    go_wp2
    go_ret
    exact ⟨_, rfl, HTz.out _, HI.out.keep (B := bl + bm + 1) (by omega) (by omega) (below_drewN (Below.refl _ _) _), below_drewN (Below.refl _ _) _, rfl⟩
theorem sea_tells {rs zs : List Nat} {n : Nat} (h : cnl rs = meansZ zs n n) : tells (seaT rs (seaM zs n)) n = seaZ zs n := by
  unfold seaZ
  rw [← h]
  have hl : rs.length = n := by rw [← cnl_len, h]; unfold meansZ; rw [tells_len]
  unfold tells less32 seaT cnl
  refine List.ext_getElem (by simp [hl]) fun i h1 h2 => ?_
  have hi : i < rs.length := by simp at h1; omega
  simp [List.getD, hi, cn_cn]

set_option maxHeartbeats 4000000 in
theorem implSea_any (a : Option Addr) (len cap : Nat) (zs : List Nat) (q : Int) (w : World) (h : FSl w a len zs) (hm : len ≤ 1048576) :
    Calls Try.prog 29 #[.slice a len cap, .int .i64 q] w (RetOB 23 (seaR zs q) (seaB zs q) w) := by
  have hmf : ∀ (fn : Fn) (first cap : Array Value) (w : World), (Instr.makeFunc fn first cap).run Try.prog w = .ok (.func fn first cap) w := fun _ _ _ _ => rfl
  obtain ⟨i0, hi, hz0, hz1, hz2⟩ := info_parts Try.infoR
  have H := Lib.hid h
  have HL := Lib.hid h.1
  clear h
  cases hB : stepB zs q
  · have HB := Lib.hid (sea_bad hB)
    cases hs : serB zs
    · have HS := Lib.hid hs
      clear hs hB
      go_enter Try.func29, Try.ntmps29
      go_wp2_with (go_at_call 55; refine (implSeries_any _ _ _ _ _ H.out hm).mono ?_; rw [HS.out]; rintro e w' ⟨m, rfl, rfl⟩)
      go_ret2
      exact fail_ob _ HB.out.1 HB.out.2 (below_drewN (Below.refl _ _) _)
    · have hq := stepB_f hB hs
      rw [HL.out] at hq
      have HS := Lib.hid hs
      clear hs hB
      rcases (show q < 1 ∨ (1 ≤ q ∧ (len : Int) < q) by omega) with hq | ⟨hq, hq2⟩
      · have hd : decide (q < 1) = true := decide_eq_true hq
        go_enter Try.func29, Try.ntmps29
        go_wp2_with (go_at_call 55; refine (implSeries_any _ _ _ _ _ H.out hm).mono ?_; rw [HS.out]; rintro e w' ⟨m, rfl, rfl⟩)
        go_ret2
        exact fail_ob _ HB.out.1 HB.out.2 (below_drewN (Below.refl _ _) _)
      · have hd : decide (q < 1) = false := decide_eq_false (by omega)
        have hd2 : decide ((len : Int) < q) = true := decide_eq_true hq2
        go_enter Try.func29, Try.ntmps29
        go_wp2_with (go_at_call 55; refine (implSeries_any _ _ _ _ _ H.out hm).mono ?_; rw [HS.out]; rintro e w' ⟨m, rfl, rfl⟩)
        go_ret2
        exact fail_ob _ HB.out.1 HB.out.2 (below_drewN (Below.refl _ _) _)
  · obtain ⟨hs, hq1, hq2, hq3⟩ := stepB_t hB
    obtain ⟨n, rfl⟩ : ∃ n : Nat, q = n := ⟨q.toNat, by omega⟩
    rw [HL.out] at hq2 hq3
    have hmk := fun W => run_make_len (P := Try.prog) W 22 23 i0 (.float .f32 0) Try.underlying22 hi hz0 hz1 n (by rw [hz2]; omega) (by omega)
    have HS := Lib.hid hs
    have HB := Lib.hid (sea_good hB)
    have hn1 : 1 ≤ n := by omega
    have hn2 : n ≤ len := by omega
    have hd : decide ((n : Int) < 1) = false := decide_eq_false (by omega)
    have hd2 : decide ((len : Int) < (n : Int)) = false := decide_eq_false (by omega)
    have hd3 : decide (len < n) = false := decide_eq_false (by omega)
    clear hs hB
    go_enter Try.func29, Try.ntmps29
    go_wp2_with (go_at_call 55; refine (implSeries_any _ _ _ _ _ H.out hm).mono ?_; rw [HS.out]; rintro e w' ⟨m, rfl, rfl⟩)
    clear hmk
    have HH := Lib.hid (show Head 23 w.heap.size n [] (((w.drewN m).alloc (.cells (madeCells (Value.float .f32 0).cells n) 23)).alloc (.cells #[.slice (some ⟨w.heap.size, 0, none⟩) n n] 22)) from
      (Head.start (T := 23) (w := w.drewN m) (n := n) (by omega)).same (Below.heap_alloc _ _ _ (by simp)))
    have HBx := Lib.hid (show (((w.drewN m).alloc (.cells (madeCells (Value.float .f32 0).cells n) 23)).alloc (.cells #[.slice (some ⟨w.heap.size, 0, none⟩) n n] 22)).cell? ⟨w.heap.size + 1, 0, none⟩ = some (.slice (some ⟨w.heap.size, 0, none⟩) n n) by
      rw [World.cell?_alloc_at _ _ _ _ (by simp)]; rfl)
    have HB0 := Lib.hid (((below_drewN (Below.refl w.heap.size w) m).alloc (Nat.le_refl _) (.cells (madeCells (Value.float .f32 0).cells n) 23)).alloc (by simp) (.cells #[.slice (some ⟨w.heap.size, 0, none⟩) n n] 22))
    go_loopw [31] (fun i wr => ∃ (p : Nat) (rs : List Nat), p ≤ n ∧ i = .int .i64 p ∧ Hid (rs.length = p) ∧ Hid (Head 23 w.heap.size n rs wr) ∧ Hid (wr.cell? ⟨w.heap.size + 1, 0, none⟩ = some (.slice (some ⟨w.heap.size, 0, none⟩) n n)) ∧ Hid (cnl rs = meansZ zs n p) ∧ Hid (fins (meansZ zs n p) = true) ∧ Hid (Below w.heap.size w wr) ∧ w.heap.size + 1 < wr.heap.size) (fun i _ => n - (intOf i).toNat)
    case atStart => exact ⟨0, [], Nat.zero_le _, rfl, Lib.hid rfl, HH, HBx, Lib.hid rfl, Lib.hid rfl, HB0, by simp⟩
    case round =>
      obtain ⟨p, rs, hp, rfl, hrl, hhead, hbx, hrs, hfin, hbel, hsz⟩ := hrel
      rename World => wo
      by_cases hplt : p < n
      · have hbxo := hbx.out
        go_wp2
        go_loopw [8, 9] (fun u c wx => ∃ (q i : Nat) (xs : List Nat), i < len + n ∧ c = .int .i64 i ∧ Hid (i = p + q * n) ∧ q ≤ i ∧ Hid (xs.length = q) ∧ Hid (FOwn 23 wo.heap.size wx u xs) ∧ Hid (cnl xs = colQ zs n p q) ∧ Hid (Below wo.heap.size wo wx)) (fun _ c _ => len + n - (intOf c).toNat)
        case atStart => exact ⟨0, p, [], by omega, rfl, Lib.hid (by simp), by omega, Lib.hid rfl, Lib.hid (FOwn.nil ..), Lib.hid rfl, Lib.hid (Below.refl _ _)⟩
        case round =>
          obtain ⟨q, i, xs, hi2, rfl, hiq, hqi, hxl, hxo, hxs, hxb⟩ := hrel
          have hsx := hxb.out.size
          have hbxr : wr.cell? ⟨w.heap.size + 1, 0, none⟩ = some (.slice (some ⟨w.heap.size, 0, none⟩) n n) := (hxb.out.cell (p := ⟨w.heap.size + 1, 0, none⟩) hsz).trans hbx.out
          by_cases hlt : i < len
          · obtain ⟨b, off, rfl, hb, hc⟩ := H.out.at (by omega)
            have hck := hc i hlt
            have hbb := hbel.out.trans (hxb.out.mono hbel.out.size)
            rw [← hbb.cell (p := ⟨b, off + i, none⟩) hb] at hck
            have hcs := Lib.hid (show ∀ z, zs.getD i 0 = z → cnl (xs ++ [z]) = colQ zs n p (q + 1) from fun z hz => (cnl_snoc hxs.out (by rw [← hz, hiq.out])).trans (tells_succ (fun j => cn .f32 (zs.getD (p + j * n) 0)) q).symm)
            have hcz := Lib.hid (hcs.out _ rfl)
            have hxk : xs.length ≤ 1048576 := by have := hxl.out; omega
            clear hcs hc hb hbb H
            generalize zs.getD i 0 = z at *
            go_wp2_with (at_builtin; refine wpList_append_own _ rfl _ _ 22 rfl wo.heap.size 23 i0 (.float .f32 0) 1 4 Try.underlying22 hi hz0 hz1 hz2 rfl (by decide) _ _ _ rfl (World.ownsRow.alloc (FOwn.drewN hxo.out 0) _) ⟨wr.heap.size, 0, none⟩ 1 1 [_] rfl rfl (one_new rfl) ?c2 ?c3 ?c4 ?c5 ?_)
            case c2 => intro u hu; simp at hu; subst hu; rfl
            case c3 => unfold maxLen; omega
            case c4 => omega
            case c5 => simp; show wo.heap.size ≤ wr.heap.size + 1; omega
            intro v' w1 hown' hgrow _
            have R := FOwn.push (n := 0) hxo.out hxb.out hsx hown' hgrow
            have hR := Lib.hid R
            have hxl2 := Lib.hid hxl.out
            have hiq2 := Lib.hid (show i + n = p + (q + 1) * n by rw [hiq.out, Nat.succ_mul, Nat.add_assoc])
            have hbx1 : w1.cell? ⟨w.heap.size + 1, 0, none⟩ = some (.slice (some ⟨w.heap.size, 0, none⟩) n n) := (R.2.cell (p := ⟨w.heap.size + 1, 0, none⟩) hsz).trans hbx.out
            clear R hown' hgrow hxo hxb hxs hxl hck hiq hbxr
            go_wp2
            go_roundw
            case rel =>
              refine ⟨q + 1, i + n, _, by omega, by go_num, hiq2, by omega, ?_, Lib.hid hR.out.1, hcz, Lib.hid hR.out.2⟩
              exact Lib.hid (by rw [List.length_append, hxl2.out]; rfl)
            case measure => simp [intOf]; omega
          · have hcol := Lib.hid (show cnl xs = colZ zs n p by rw [hxs.out, col_end (by rw [HL.out]; omega) hiq.out (by rw [HL.out]; omega) (by rw [HL.out]; omega)])
            have hxk : xs.length ≤ 1048576 := by have := hxl.out; omega
            have HXS := Lib.hid (show serB xs = true by rw [serB_congr (rs' := colZ zs n p) (by rw [hcol.out]; exact (colQ_cnl ..).symm)]; exact col_ser HS.out hn1 (by rw [HL.out]; omega) hplt)
            have HMe := Lib.hid (show mean32 xs = mean32 (colZ zs n p) by rw [← mean32_cnl xs, hcol.out])
            obtain ⟨A, cp, rfl, hsl, _⟩ := hxo.out.sl
            have HSL := Lib.hid hsl
            have HB1 := Lib.hid (hbel.out.trans (hxb.out.mono hbel.out.size))
            have hhd := hhead.out.same (hxb.out.block _ (by omega))
            have hcell := Lib.hid (hhd.cell hplt)
            have HPu := Lib.hid (show ∀ r, Head 23 w.heap.size n (rs ++ [r]) (wr.setCell ⟨w.heap.size, p, none⟩ (.float .f32 r)) from fun r => by have := hhd.push (by rw [hrl.out]; exact hplt) r; rw [hrl.out] at this; exact this)
            have HRs := Lib.hid (show ∀ r, cn .f32 r = mean32 (colZ zs n p) → cnl (rs ++ [r]) = meansZ zs n (p + 1) from fun r hr => (cnl_snoc hrs.out hr).trans (tells_succ (fun p => mean32 (colZ zs n p)) p).symm)
            have HLn := Lib.hid (show ∀ r, (rs ++ [r]).length = p + 1 from fun r => by rw [List.length_append, hrl.out]; rfl)
            cases hf : fin .f32 (mean32 (colZ zs n p))
            · have HMB := Lib.hid (show meanB xs = false by unfold meanB; rw [HMe.out, hf, Bool.and_false])
              have HBad := Lib.hid (show fins (seaZ zs n) = false from Bool.eq_false_iff.2 fun hh => by
                have := fins_at (sea_fins hn1 hh) (k := p) (by unfold meansZ; rw [tells_len]; exact hplt)
                unfold meansZ at this
                rw [tells_at _ hplt, hf] at this
                cases this)
              have HE1 := Lib.hid (show seaB zs n = false by rw [HB.out.1]; unfold seaL; rw [Int.toNat_natCast]; exact HBad.out)
              have HE2 := Lib.hid (show seaR zs n = [] by rw [HB.out.2]; unfold seaL lstR; rw [Int.toNat_natCast, HBad.out]; rfl)
              clear hsl hxo hxs hxb hcol hbel hrs hxl hiq hf hhd hhead hcell HPu HRs HLn hfin hrl
              go_wp2_with fail
              refine (implMean_any _ _ _ _ _ HSL.out hxk).mono ?_
              rw [HMB.out]
              rintro e w' ⟨r, m2, hr, rfl, rfl⟩
              clear hr
              go_wp2
              go_ret2
              exact fail_ob _ HE1.out HE2.out (below_drewN HB1.out _)
            · have HMB := Lib.hid (show meanB xs = true by unfold meanB; rw [HMe.out, hf, HXS.out]; rfl)
              have HMR := Lib.hid (show meanR xs = mean32 (colZ zs n p) by unfold meanR; rw [HMB.out, if_pos rfl, HMe.out])
              have HMo := Lib.hid (show fins (meansZ zs n (p + 1)) = true from tells_more hfin.out hf)
              obtain ⟨⟨u, hcu⟩, hcf⟩ := hcell.out
              have hszr : w.heap.size + 1 < wr.heap.size := by omega
              have HBxs := Lib.hid (show ∀ r, (wr.setCell ⟨w.heap.size, p, none⟩ (.float .f32 r)).cell? ⟨w.heap.size + 1, 0, none⟩ = some (.slice (some ⟨w.heap.size, 0, none⟩) n n) from fun r => (World.cell?_setCell_other _ _ _ _ (by simp)).trans hbxr)
              clear hsl hxo hxs hxb hcol hbel hrs hxl hiq hf hhd hhead hcell hfin hrl
              go_wp2_with fail
              refine (implMean_any _ _ _ _ _ HSL.out hxk).mono ?_
              rw [HMB.out, HMR.out]
              rintro e w' ⟨r, m2, hr, rfl, rfl⟩
              have HR2 := Lib.hid (HRs.out r hr)
              have HP2 := Lib.hid (HPu.out r)
              have HL2 := Lib.hid (HLn.out r)
              have HX2 := Lib.hid (HBxs.out r)
              clear hr HRs HPu HLn HBxs
              go_wp2
              go_roundw
              case rel => exact ⟨p + 1, rs ++ [r], by omega, by go_num, HL2, Lib.hid (HP2.out.drewN m2), HX2, HR2, HMo, Lib.hid ((below_drewN HB1.out m2).setCell (Nat.le_refl _) _), by simpa [World.setCell] using hszr⟩
              case measure => simp [intOf]; omega
      · have hpn : p = n := by omega
        have HR0 := Lib.hid (show cnl rs = meansZ zs n n by rw [hrs.out, hpn])
        have hbxo := hbx.out
        have HLr := Lib.hid (show rs.length = n by rw [hrl.out, hpn])
        have HF0 := Lib.hid (show fins (meansZ zs n n) = true by have := hfin.out; rwa [hpn] at this)
        have HO := Lib.hid (hhead.out.own HLr.out (Nat.le_refl _) (by unfold maxLen; omega))
        obtain ⟨A, cp, he, hsl, _⟩ := HO.out.sl
        rw [HLr.out] at he hsl
        injection he with he1 _ he3
        subst he1 he3
        have HSL := Lib.hid hsl
        have HSr := Lib.hid (show serB rs = true by
          rw [serB_congr (rs' := meansZ zs n n) (by rw [HR0.out]; exact (means_cnl ..).symm)]
          unfold serB
          rw [HF0.out, show (meansZ zs n n).length = n by unfold meansZ; rw [tells_len], decide_eq_true ⟨hn1, by omega⟩]; rfl)
        have HMe := Lib.hid (show mean32 rs = seaM zs n by rw [← mean32_cnl rs, HR0.out]; rfl)
        clear hsl hhead hrs hrl hbx hfin
        cases hf : fin .f32 (seaM zs n)
        · have HMB := Lib.hid (show meanB rs = false by unfold meanB; rw [HMe.out, hf, Bool.and_false])
          have HBad := Lib.hid (show fins (seaZ zs n) = false from Bool.eq_false_iff.2 fun hh => by rw [sea_mean hn1 hh] at hf; cases hf)
          have HE1 := Lib.hid (show seaB zs n = false by rw [HB.out.1]; unfold seaL; rw [Int.toNat_natCast]; exact HBad.out)
          have HE2 := Lib.hid (show seaR zs n = [] by rw [HB.out.2]; unfold seaL lstR; rw [Int.toNat_natCast, HBad.out]; rfl)
          clear hf
          go_wp2_with fail
          refine (implMean_any _ _ _ _ _ HSL.out (by omega)).mono ?_
          rw [HMB.out]
          rintro e w' ⟨r, m2, hr, rfl, rfl⟩
          clear hr
          have HBq := Lib.hid (below_drewN hbel.out m2)
          have hbq : (wo.drewN m2).cell? ⟨w.heap.size + 1, 0, none⟩ = some (.slice (some ⟨w.heap.size, 0, none⟩) n n) := hbxo
          clear hbxo hbel HO HSL
          generalize wo.drewN m2 = wq at *
          have hszq := HBq.out.size
          go_wp2
          go_ret2
          exact fail_ob _ HE1.out HE2.out (HBq.out.alloc hszq _)
        · have HMB := Lib.hid (show meanB rs = true by unfold meanB; rw [HMe.out, hf, HSr.out]; rfl)
          have HMR := Lib.hid (show meanR rs = seaM zs n by unfold meanR; rw [HMB.out, if_pos rfl, HMe.out])
          clear hf
          go_wp2_with fail
          refine (implMean_any _ _ _ _ _ HSL.out (by omega)).mono ?_
          rw [HMB.out, HMR.out]
          rintro e w' ⟨r, m2, hr, rfl, rfl⟩
          have HR1 := Lib.hid hr
          have HBq := Lib.hid (below_drewN hbel.out m2)
          have hbq : (wo.drewN m2).cell? ⟨w.heap.size + 1, 0, none⟩ = some (.slice (some ⟨w.heap.size, 0, none⟩) n n) := hbxo
          have HSq := Lib.hid (FSl.drewN HSL.out m2)
          have hszq : w.heap.size + 1 < (wo.drewN m2).heap.size := hsz
          clear hr hbxo hbel HO HSL hsz
          generalize wo.drewN m2 = wq at *
          have HI := Lib.hid (show SeaI (w.heap.size + 1) wq.heap.size (some ⟨w.heap.size, 0, none⟩) n rs (seaM zs n) 0 (wq.alloc (.cells #[.float .f32 r] 23)) from by
            refine ⟨?_, r, ?_, HR1.out⟩
            · refine BoxI.keep (B := wq.heap.size) (wr := wq) ⟨hbq, fun h0 => ?_⟩ hszq ((Below.refl _ _).alloc (Nat.le_refl _) _)
              obtain ⟨b, off, e, _, hc⟩ := HSq.out.at h0
              injection e with e; injection e with e1 e2
              subst e1 e2
              exact ⟨_, _, rfl, by omega, hc⟩
            · rw [World.cell?_alloc_at _ _ _ _ rfl]; rfl)
          have hbx3 : ∀ o, (wq.alloc o).cell? ⟨w.heap.size + 1, 0, none⟩ = some (.slice (some ⟨w.heap.size, 0, none⟩) n n) := fun o => (World.cell?_alloc_past _ _ _ hszq).trans hbq
          have hzq := HBq.out.size
          go_wp2_with fail
          refine (places_any 63 #[.pointer (some ⟨w.heap.size + 1, 0, none⟩), .pointer (some ⟨wq.heap.size, 0, none⟩)] (seaT rs (seaM zs n)) (SeaI (w.heap.size + 1) wq.heap.size (some ⟨w.heap.size, 0, none⟩) n rs (seaM zs n)) w.heap.size n _ (enter_of Try.func63 (by kernel_rfl) rfl) (by omega) (by simp; omega) HI.out (fun k wr wr' h hb => h.keep (by simp; omega) (by simp) hb) (fun k wr hk hsz hI => sea1_any _ _ _ _ _ _ _ _ _ _ hI hk (by omega))).mono ?_
          rintro e w1 ⟨v, ys, rfl, ho, hx, hb⟩
          have HO := Lib.hid (ho.mono (show w.heap.size ≤ _ by simp; omega))
          have HE3 := Lib.hid (show tells (seaT rs (seaM zs n)) n = seaL zs n by rw [sea_tells HR0.out]; unfold seaL; rw [Int.toNat_natCast])
          have HX2 := Lib.hid (show cnl ys = seaR zs n by rw [hx, HE3.out, HB.out.2])
          have HBl := Lib.hid ((HBq.out.alloc hzq _).trans hb)
          have HT := Lib.hid (show fins (tells (seaT rs (seaM zs n)) n) = seaB zs n by rw [HE3.out, HB.out.1])
          rw [HT.out]
          clear ho hx hb
          go_wp2
          go_ret2
          exact ⟨v, ys, rfl, HO.out, HX2.out, HBl.out⟩
end Go.Proofs.Ytkggjpabibhmaaa
