/-
  LineFit, in both packages: the functions themselves.
-/
import Derived.Test.YtallegmkkbmelaaCLin
import Derived.Test.YtallegmkkbmelaaCSea
namespace Go.Proofs.Ytallegmkkbmelaa
open Ieee Go.RowKit
set_option linter.unusedVariables false

set_option maxHeartbeats 1000000 in
set_option maxRecDepth 100000 in
theorem implLin_any (a : Option Addr) (len cap : Nat) (zs : List Nat) (w : World) (h : FSl w a len zs) (hm : len ≤ 1048576) :
    Calls Try.prog 24 #[.slice a len cap] w (RetFFm (lnV0 zs) (lnV1 zs) (lnB zs) w) := by
  have H := Lib.hid h
  have HL := Lib.hid h.1
  clear h
  by_cases h2 : 2 ≤ len
  · have hd : decide ((len : Int) < 2) = false := decide_eq_false (by omega)
    go_enter Try.func24, Try.ntmps24
    go_wp2_with fail
    refine (lessMean_any _ _ _ _ _ H.out hm).mono ?_
    rintro e w1 (⟨hM, g, r, rs, rfl, hsl, hrs, hr, hg, hg2, hb⟩ | ⟨hM, rfl, hb⟩)
    · have hser : serB zs = true := by unfold meanB at hM; exact (Bool.and_eq_true _ _ ▸ hM).1
      have h96 : len ≤ 96 := by have := (serB_t hser).2.1; rw [HL.out] at this; exact this
      have HSe := Lib.hid hser
      have HSL := Lib.hid hsl
      have HRs := Lib.hid hrs
      have HR := Lib.hid hr
      have HB1 := Lib.hid hb
      clear hM hser hsl hrs hr hg hg2 hb
      go_wp2_with fail
      refine (places_any 54 #[] (fun j => i2f (j : Int)) (fun _ _ => True) w1.heap.size len _ (enter_of Try.func54 (by kernel_rfl) rfl) hm (Nat.le_refl _) trivial (fun _ _ _ _ _ => trivial) (fun k wr hk _ _ => line1_any _ _ _ _ (by omega))).mono ?_
      rintro e w2 ⟨v, ps, rfl, ho, hx, hb⟩
      have HF := Lib.hid (show fins (tells (fun j => i2f (j : Int)) len) = true from plc_fins h96)
      have HP := Lib.hid (show cnl ps = plcZ len by rw [hx]; unfold lstR; rw [HF.out]; rfl)
      have hpl : ps.length = len := by have := congrArg List.length HP.out; rwa [cnl_len, plc_len] at this
      obtain ⟨A, cp, rfl, hsl, _⟩ := ho.sl
      rw [hpl] at hsl
      have HPL := Lib.hid hsl
      have HB2 := Lib.hid (HB1.out.trans (hb.mono HB1.out.size))
      have HSL2 := Lib.hid (FSl.below HSL.out hb)
      have HPm := Lib.hid (show meanB ps = true by
        unfold meanB
        rw [serB_congr (rs' := plcZ len) (by rw [HP.out, plc_cnl h96]), ← mean32_cnl ps, HP.out, plc_ser (by omega) h96, plc_mean len (by omega) (by omega)]; rfl)
      have HPo := Lib.hid (show offL ps = offL (plcZ len) by
        unfold offL
        rw [← mean32_cnl ps, HP.out, ← HP.out]
        unfold less32 cnl
        rw [List.map_map]
        congr 1
        funext z
        show _ = aop .sub .f32 (cn .f32 (cn .f32 z)) _
        rw [cn_cn])
      have HPe := Lib.hid (show mean32 ps = mean32 (plcZ len) by rw [← mean32_cnl ps, HP.out])
      rw [HF.out]
      simp only [hpl]
      clear ho hx hb hsl HSL
      go_wp2_with fail
      refine (lessMean_any _ _ _ _ _ HPL.out hm).mono ?_
      rintro e w3 (⟨hM, g', r', us, rfl, hsl, hus, hr, hg, hg2, hb⟩ | ⟨hM, rfl, hb⟩)
      · have HUL := Lib.hid hsl
        have HU := Lib.hid (show cnl us = offL (plcZ len) from hus.trans HPo.out)
        have HR' := Lib.hid (show cn .f32 r' = mean32 (plcZ len) from hr.trans HPe.out)
        have HB3 := Lib.hid (HB2.out.trans (hb.mono HB2.out.size))
        have HSL3 := Lib.hid (FSl.below HSL2.out hb)
        have HUp := Lib.hid (show dotTo us rs len = lnUp zs by
          unfold lnUp
          rw [HL.out]
          exact dotTo_congr fun k hk => ⟨cnl_getD (HU.out.trans (cnl_off _).symm) k (by rw [HUL.out.1]; exact hk), cnl_getD (HRs.out.trans (cnl_off _).symm) k (by rw [HSL3.out.1]; exact hk)⟩)
        have HWi := Lib.hid (show dotTo us us len = lnWide zs by
          unfold lnWide
          rw [HL.out]
          exact dotTo_congr fun k hk => ⟨cnl_getD (HU.out.trans (cnl_off _).symm) k (by rw [HUL.out.1]; exact hk), cnl_getD (HU.out.trans (cnl_off _).symm) k (by rw [HUL.out.1]; exact hk)⟩)
        clear hM hsl hus hr hg hg2 hb HSL2
        go_wp2_with fail
        refine (implDotNumbers_any _ _ _ _ _ _ _ _ _ HUL.out HSL3.out hm hm).mono ?_
        rw [dotOk_yes (by omega) rfl]
        unfold dotV
        rw [dotOk_yes (by omega) rfl, if_pos rfl, HUp.out]
        rintro e w' ⟨u, m, hu, rfl, rfl⟩
        have HUu := Lib.hid hu
        clear hu
        go_wp2_with fail
        refine (implDotNumbers_any _ _ _ _ _ _ _ _ _ (FSl.drewN HUL.out m) (FSl.drewN HUL.out m) hm hm).mono ?_
        rw [dotOk_yes (by omega) rfl]
        unfold dotV
        rw [dotOk_yes (by omega) rfl, if_pos rfl, HWi.out]
        rintro e w' ⟨x, m2, hx, rfl, rfl⟩
        have HXx := Lib.hid hx
        clear hx
        have HS := Lib.hid (show ∀ w', cn .f32 (fopR .quo .f32 u x w') = lnS zs from fun w' => by rw [cn_fopR, HUu.out, HXx.out]; rfl)
        go_wp2_with fail
        refine (implLine_any _ _ _ (lnBase zs) (lnS zs) _ (by rw [HR.out, HR'.out, HS.out]; unfold lnBase; rw [HL.out]) (HS.out _)).mono ?_
        intro e w4 hR4
        obtain ⟨y0, y1, h0, h1, rfl, hb4⟩ := hR4.ln (w0 := w) HSe.out (by rw [HL.out]; exact h2) (by exact below_drewN HB3.out _)
        have H0 := Lib.hid h0
        have H1 := Lib.hid h1
        have H4 := Lib.hid hb4
        clear hR4 h0 h1 hb4
        go_wp2
        go_ret3
        exact ⟨y0, y1, H0.out, H1.out, rfl, H4.out⟩
      · rw [HPm.out] at hM; cases hM
    · have HB := Lib.hid hb
      have HN := Lib.hid (show lnB zs = false by
        cases hs : serB zs
        · unfold lnB; rw [hs]; rfl
        · exact ln_mean (by unfold meanB at hM; rw [hs] at hM; exact hM))
      clear hM hb
      go_wp2
      go_ret3
      exact ⟨0, 0, by rw [(ln_bad HN.out).1]; exact cn_zero, by rw [(ln_bad HN.out).2]; exact cn_zero, by rw [HN.out]; rfl, HB.out⟩
  · have hd : decide ((len : Int) < 2) = true := decide_eq_true (by omega)
    have HN := Lib.hid (show lnB zs = false by unfold lnB; rw [HL.out, decide_eq_false h2, Bool.and_false]; rfl)
    go_enter Try.func24, Try.ntmps24
    go_wp2
    go_ret3
    exact ⟨0, 0, by rw [(ln_bad HN.out).1]; exact cn_zero, by rw [(ln_bad HN.out).2]; exact cn_zero, by rw [HN.out]; rfl, Below.refl _ _⟩
theorem plc_snoc {rs : List Nat} {k n z : Nat} (h : cnl rs = plcZ k) (hz : floatOfInt .f32 (k : Int) = z) (hk : k < 97) : cnl (rs ++ [z]) = plcZ (k + 1) := by
  have h1 : cn .f32 z = i2f (k : Int) := by rw [← hz]; exact i2f_cn k hk
  rw [cnl_snoc h h1]
  exact (tells_succ (fun j => i2f (j : Int)) k).symm
theorem plc_nil : cnl [] = plcZ 0 := by unfold cnl plcZ tells; simp
theorem plc_any (n : Nat) (w : World) (hn : n ≤ 96) : Calls Try.prog 50 #[.int .i64 n] w (RetO 23 (plcZ n) w) := by
  obtain ⟨i0, hi, hz0, hz1, hz2⟩ := info_parts Try.infoR
  have HN := Lib.hid (FOwn.made (T := 23) w (Nat.le_refl _))
  go_enter Try.func50, Try.ntmps50
  go_wp2
  go_loopw [3, 4] (fun v i wr => ∃ (k : Nat) (rs : List Nat), k ≤ n ∧ i = .int .i64 k ∧ Hid (rs.length = k) ∧ Hid (FOwn 23 w.heap.size wr v rs) ∧ Hid (cnl rs = plcZ k) ∧ Hid (Below w.heap.size w wr)) (fun _ i _ => n - (intOf i).toNat)
  case atStart => exact ⟨0, [], Nat.zero_le _, rfl, Lib.hid rfl, HN, Lib.hid plc_nil, Lib.hid ((Below.refl _ _).alloc (Nat.le_refl _) _)⟩
  case round =>
    rename_i wr
    obtain ⟨k, rs, hk, rfl, hrl, hown, hrs, hbel⟩ := hrel
    by_cases hlt : k < n
    · have hsz := hbel.out.size
      have hrk : rs.length ≤ 1048576 := by have := hrl.out; omega
      obtain ⟨z, hz⟩ : ∃ z, floatOfInt .f32 (k : Int) = z := ⟨_, rfl⟩
      have hcs := Lib.hid (plc_snoc (n := n) hrs.out hz (by omega))
      go_wp2_with (at_builtin; refine wpList_append_own _ rfl _ _ 22 rfl w.heap.size 23 i0 (.float .f32 0) 1 4 Try.underlying22 hi hz0 hz1 hz2 rfl (by decide) _ _ _ rfl (World.ownsRow.alloc (FOwn.drewN hown.out 0) _) ⟨wr.heap.size, 0, none⟩ 1 1 [_] rfl rfl (one_new rfl) ?c2 ?c3 ?c4 ?c5 ?_)
      case c2 => intro u hu; simp at hu; subst hu; rfl
      case c3 => unfold maxLen; omega
      case c4 => omega
      case c5 => simp; show w.heap.size ≤ wr.heap.size + 1; omega
      intro v' w1 hown' hgrow _
      have R := FOwn.push (n := 0) hown.out hbel.out hsz hown' hgrow
      have hstep := Lib.hid R
      have hrl2 := Lib.hid hrl.out
      clear R hown' hgrow hown hbel hrs hrl
      go_wp2
      go_roundw
      case rel =>
        refine ⟨k + 1, _, by omega, by go_num, ?_, Lib.hid hstep.out.1, hcs, Lib.hid hstep.out.2⟩
        exact Lib.hid (by rw [List.length_append, hrl2.out]; rfl)
      case measure => simp [intOf]; omega
    · obtain rfl : k = n := by omega
      have hfin := Lib.hid hrs.out
      clear hrs
      go_wp2
      go_ret
      exact ⟨_, rs, rfl, hown.out, hfin.out, hbel.out⟩
set_option maxHeartbeats 1000000 in
set_option maxRecDepth 100000 in
theorem specLin_any (a : Option Addr) (len cap : Nat) (zs : List Nat) (w : World) (h : FSl w a len zs) (hm : len ≤ 1048576) :
    Calls Try.prog 23 #[.slice a len cap] w (RetFFm (lnV0 zs) (lnV1 zs) (lnB zs) w) := by
  have H := Lib.hid h
  have HL := Lib.hid h.1
  clear h
  cases hs : serB zs
  · have HS := Lib.hid hs
    have HN := Lib.hid (show lnB zs = false by unfold lnB; rw [hs]; rfl)
    clear hs
    go_enter Try.func23, Try.ntmps23
    go_wp2_with (go_at_call 29; refine (specSeries_any _ _ _ _ _ H.out hm).mono ?_; rw [HS.out]; rintro e w' ⟨m, rfl, rfl⟩)
    go_ret3
    exact ⟨0, 0, by rw [(ln_bad HN.out).1]; exact cn_zero, by rw [(ln_bad HN.out).2]; exact cn_zero, by rw [HN.out]; rfl, below_drewN (Below.refl _ _) _⟩
  · have HS := Lib.hid hs
    by_cases h2 : 2 ≤ len
    · have hd : decide ((len : Int) < 2) = false := decide_eq_false (by omega)
      have h96 : len ≤ 96 := by have := (serB_t hs).2.1; rw [HL.out] at this; exact this
      clear hs
      go_enter Try.func23, Try.ntmps23
      go_wp2_with fail
      refine (specSeries_any _ _ _ _ _ H.out hm).mono ?_
      rw [HS.out]
      rintro e w' ⟨m, rfl, rfl⟩
      go_wp2_with fail
      refine (plc_any _ _ h96).mono ?_
      rintro e w1 ⟨v, ps, rfl, ho, hps, hb⟩
      have hpl : ps.length = len := by have := congrArg List.length hps; rwa [cnl_len, plc_len] at this
      obtain ⟨A, cp, rfl, hsl, _⟩ := ho.sl
      rw [hpl] at hsl
      have HPL := Lib.hid hsl
      have HP := Lib.hid hps
      have HB1 := Lib.hid ((below_drewN (Below.refl w.heap.size w) m).trans hb)
      have H1 := Lib.hid (FSl.below (FSl.drewN H.out m) hb)
      have HPe := Lib.hid (show mean32 ps = mean32 (plcZ len) by rw [← mean32_cnl ps, hps])
      simp only [hpl]
      clear ho hps hb hsl hpl H
      go_wp2_with fail
      refine (l03Mean_any _ _ _ _ _ HPL.out hm).mono ?_
      rintro e w' ⟨mx, n1, hx, rfl, rfl⟩
      have HMx := Lib.hid (show cn .f32 mx = mean32 (plcZ len) from hx.trans HPe.out)
      clear hx
      go_wp2_with fail
      refine (l03Mean_any _ _ _ _ _ (FSl.drewN H1.out n1) hm).mono ?_
      rintro e w' ⟨my, n2, hy, rfl, rfl⟩
      have HMy := Lib.hid (show cn .f32 my = mean32 zs from hy)
      clear hy
      go_wp2
      go_loopw [8, 9, 30] (fun u x c wr => ∃ (k r t n : Nat), k ≤ len ∧ c = .int .i64 k ∧ u = .float .f32 r ∧ x = .float .f32 t ∧ wr = w1.drewN n ∧ Hid (cn .f32 r = dotTo (offL (plcZ len)) (offL zs) k) ∧ Hid (cn .f32 t = dotTo (offL (plcZ len)) (offL (plcZ len)) k)) (fun _ _ c _ => len - (intOf c).toNat)
      case atStart => exact ⟨0, 0, 0, _, by omega, rfl, rfl, rfl, rfl, Lib.hid cn_zero, Lib.hid cn_zero⟩
      case round =>
        obtain ⟨k, r, t, n, hk, rfl, rfl, rfl, rfl, hr, ht⟩ := hrel
        by_cases hlt : k < len
        · obtain ⟨b, off, rfl, hb, hc⟩ := H1.out.at (by omega)
          obtain ⟨b', off', rfl, hb', hc'⟩ := HPL.out.at (by omega)
          have hck := hc k hlt
          have hck' := hc' k hlt
          have hu := Lib.hid (show ∀ z, ps.getD k 0 = z → ∀ w', cn .f32 (fopR .sub .f32 z mx w') = (offL (plcZ len)).getD k 0 from fun z hz w' => by
            rw [cn_fopR, HMx.out, off_at (by rw [plc_len]; exact hlt), ← hz, ← cnl_at (by rw [HPL.out.1]; exact hlt), HP.out]
            rw [show (plcZ len).getD k 0 = i2f (k : Int) from tells_at (fun j => i2f (j : Int)) hlt, i2f_cn k (by omega)])
          have hv := Lib.hid (show ∀ z, zs.getD k 0 = z → ∀ w', cn .f32 (fopR .sub .f32 z my w') = (offL zs).getD k 0 from fun z hz w' => by
            rw [cn_fopR, HMy.out, off_at (by rw [HL.out]; exact hlt), ← hz])
          generalize hz : zs.getD k 0 = z at hck
          generalize hp : ps.getD k 0 = p at hck'
          have hu2 := Lib.hid (hu.out p hp)
          have hv2 := Lib.hid (hv.out z hz)
          have hsu := Lib.hid (show ∀ w1 w2 w3 w4, cn .f32 (fopR .add .f32 r (fopR .mul .f32 (fopR .sub .f32 p mx w1) (fopR .sub .f32 z my w2) w3) w4) = dotTo (offL (plcZ len)) (offL zs) (k + 1) from fun w1 w2 w3 w4 => by
            rw [cn_fopR, cn_fopR, hr.out, hu2.out, hv2.out]
            show _ = aop .add .f32 _ (aop .mul .f32 (cn .f32 _) (cn .f32 _))
            rw [← hu2.out w1, ← hv2.out w2, cn_cn, cn_cn])
          have hst := Lib.hid (show ∀ w1 w2 w3, cn .f32 (fopR .add .f32 t (fopR .mul .f32 (fopR .sub .f32 p mx w1) (fopR .sub .f32 p mx w1) w2) w3) = dotTo (offL (plcZ len)) (offL (plcZ len)) (k + 1) from fun w1 w2 w3 => by
            rw [cn_fopR, cn_fopR, ht.out, hu2.out]
            show _ = aop .add .f32 _ (aop .mul .f32 (cn .f32 _) (cn .f32 _))
            rw [← hu2.out w1, cn_cn])
          clear hc hc' hb hb' hu hv hz hp hu2 hv2 hr ht
          go_wp2
          go_roundw
          case rel => exact ⟨k + 1, _, _, _, by omega, by go_num, rfl, rfl, rfl, Lib.hid (hsu.out _ _ _ _), Lib.hid (hst.out _ _ _)⟩
          case measure => simp [intOf]; omega
        · obtain rfl : k = len := by omega
          have HSl := Lib.hid (show ∀ w', cn .f32 (fopR .quo .f32 r t w') = lnS zs from fun w' => by rw [cn_fopR, hr.out, ht.out]; unfold lnS lnUp lnWide; rw [HL.out])
          have HBs := Lib.hid (show ∀ w1 w2 w3, cn .f32 (fopR .sub .f32 my (fopR .mul .f32 (fopR .quo .f32 r t w1) mx w2) w3) = lnBase zs from fun w1 w2 w3 => by rw [cn_fopR, cn_fopR, HSl.out, HMy.out, HMx.out]; unfold lnBase; rw [HL.out])
          clear hr ht
          go_wp2_with fail
          refine (specTwo_any _ _ (lnBase zs) (lnS zs) _ (HBs.out _ _ _) (HSl.out _)).mono ?_
          intro e w4 hR4
          obtain ⟨y0, y1, h0, h1, rfl, hb4⟩ := hR4.ln (w0 := w) HS.out (by rw [HL.out]; exact h2) (by exact below_drewN HB1.out _)
          have H0 := Lib.hid h0
          have H1' := Lib.hid h1
          have H4 := Lib.hid hb4
          clear hR4 h0 h1 hb4
          go_wp2
          go_ret3
          exact ⟨y0, y1, H0.out, H1'.out, rfl, H4.out⟩
    · have hd : decide ((len : Int) < 2) = true := decide_eq_true (by omega)
      have HN := Lib.hid (show lnB zs = false by unfold lnB; rw [HL.out, decide_eq_false h2, Bool.and_false]; rfl)
      clear hs
      go_enter Try.func23, Try.ntmps23
      go_wp2_with (go_at_call 29; refine (specSeries_any _ _ _ _ _ H.out hm).mono ?_; rw [HS.out]; rintro e w' ⟨m, rfl, rfl⟩)
      go_ret3
      exact ⟨0, 0, by rw [(ln_bad HN.out).1]; exact cn_zero, by rw [(ln_bad HN.out).2]; exact cn_zero, by rw [HN.out]; rfl, below_drewN (Below.refl _ _) _⟩
end Go.Proofs.Ytallegmkkbmelaa
