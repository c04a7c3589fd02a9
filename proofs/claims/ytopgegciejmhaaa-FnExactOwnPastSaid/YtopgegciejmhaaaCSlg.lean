/-
  SelfLikes, in both packages: the functions themselves.
-/
import Derived.Test.YtopgegciejmhaaaCSlf
namespace Go.Proofs.Ytopgegciejmhaaa
open Ieee Go.RowKit
set_option linter.unusedVariables false

theorem BoxI.drewN {bl : Nat} {a : Option Addr} {len cap : Nat} {zs : List Nat} {wr : World} (h : BoxI bl a len cap zs wr) (m : Nat) : BoxI bl a len cap zs (wr.drewN m) := h
set_option maxHeartbeats 1000000 in
set_option maxRecDepth 100000 in
theorem implSlf_any (a : Option Addr) (len cap : Nat) (zs : List Nat) (q : Int) (w : World) (h : FSl w a len zs) (hm : len ≤ 1048576) :
    Calls Try.prog 116 #[.slice a len cap, .int .i64 q] w (RetOB 33 (slfR zs q) (slfB zs q) w) := by
  have hmf : ∀ (fn : Fn) (first cap : Array Value) (w : World), (Instr.makeFunc fn first cap).run Try.prog w = .ok (.func fn first cap) w := fun _ _ _ _ => rfl
  have H := Lib.hid h
  have HL := Lib.hid h.1
  clear h
  cases hB : lagsB zs q
  · have HB := Lib.hid (slf_out hB)
    have HS := Lib.hid hB
    clear hB
    go_enter Try.func116, Try.ntmps116
    go_wp2_with (go_at_call 164; refine (implLags_any _ _ _ _ _ _ H.out hm).mono ?_; rw [HS.out]; rintro e w' ⟨m, rfl, rfl⟩)
    go_ret2
    exact fail_ob _ HB.out.1 HB.out.2 (below_drewN (Below.refl _ _) _)
  · have HS := Lib.hid hB
    obtain ⟨hs, h0, h16, hlt, h96⟩ := lagsB_t hB
    obtain ⟨n, rfl⟩ : ∃ n : Nat, q = n := ⟨q.toNat, by omega⟩
    rw [HL.out] at hlt h96
    have HMe := Lib.hid (show meanB zs = fin .f32 (mean32 zs) by unfold meanB; rw [hs]; rfl)
    have hn : n < len := by omega
    have hw : wrap64 ((n : Int) + 1) = ((n + 1 : Nat) : Int) := by unfold wrap64; omega
    have HL0 := Lib.hid (show slfB0 zs n = posB (slfW zs) by unfold slfB0; rw [hB]; rfl)
    clear hB hs
    go_enter Try.func116, Try.ntmps116
    go_wp2_with fail
    refine (implLags_any _ _ _ _ _ _ H.out hm).mono ?_
    rw [HS.out]
    rintro e w' ⟨m, rfl, rfl⟩
    go_wp2_with fail
    refine (lessMean_any _ _ _ _ _ (FSl.drewN H.out m) hm).mono ?_
    rintro e w1 (⟨hM, g, r, rs, rfl, hsl, hrs, hr, hg, hg2, hb⟩ | ⟨hM, rfl, hb⟩)
    · have HSL := Lib.hid hsl
      have HRs := Lib.hid hrs
      have HB1 := Lib.hid ((below_drewN (Below.refl w.heap.size w) m).trans hb)
      have hg3 : g < w1.heap.size := hg2
      have hgw : w.heap.size ≤ g := hg
      have hzw : w.heap.size ≤ w1.heap.size := HB1.out.size
      have HW := Lib.hid (show dly rs rs 0 0 (len - 0 - 0) = slfW zs by
        have hl1 : rs.length = zs.length := by have := congrArg List.length hrs; rwa [cnl_len, offL_len] at this
        unfold slfW
        rw [← HL.out]
        exact dly_congr (hrs.trans (cnl_off zs).symm) (hrs.trans (cnl_off zs).symm) (by omega) (by omega))
      have HX1 := Lib.hid (BoxI.start (cap := len) (t := 22) hsl)
      clear hM hsl hrs hr hg hg2 hb
      go_wp2_with fail
      refine (implDel_any g 0 g 0 len len len rs rs 0 0 0 _ (HX1.out.fsl HSL.out.1) (HX1.out.fsl HSL.out.1) h96 (Nat.le_refl _) (Nat.le_refl _) (.inl rfl) (by omega) (by omega) rfl).mono ?_
      rintro e w' ⟨x, m2, hx, rfl, rfl⟩
      have HP := Lib.hid (show posB x = posB (slfW zs) from posB_congr (by rw [hx, HW.out]; exact (dly_cn ..).symm))
      have HXw := Lib.hid (hx.trans HW.out)
      clear hx
      cases hp : posB (slfW zs)
      · have HB := Lib.hid (slf_bad (HL0.out.trans hp))
        have hord : ((FloatKind.format .f32).order x 0 == some Ordering.gt) = false := HP.out.trans hp
        clear hp
        go_wp2
        go_ret2
        exact fail_ob _ HB.out.1 HB.out.2 (((below_drewN (HB1.out.alloc hzw _) m2).alloc (by simp; omega) _))
      · have HB := Lib.hid (slf_good (HL0.out.trans hp))
        have hord : ((FloatKind.format .f32).order x 0 == some Ordering.gt) = true := HP.out.trans hp
        clear hp
        go_wp2_with fail
        have HI := Lib.hid (show SlfI w1.heap.size (w1.heap.size + 1) g len rs (slfW zs) 0 (((w1.alloc (.cells #[.slice (some ⟨g, 0, none⟩) len len] 22)).drewN m2).alloc (.cells #[.float .f32 x] 33)) from by
          refine ⟨BoxI.keep (B := w1.heap.size + 1) (BoxI.drewN HX1.out m2) (by omega) ((Below.refl _ _).alloc (by simp) _), x, ?_, HXw.out⟩
          rw [World.cell?_alloc_at _ _ _ _ (by simp)]; rfl)
        show Calls Try.prog 62 #[.int .i64 ((n + 1 : Nat) : Int), .func (.func 165) #[] #[.pointer (some ⟨w1.heap.size, 0, none⟩), .pointer (some ⟨w1.heap.size + 1, 0, none⟩)]] _ _
        refine (places_any 165 #[.pointer (some ⟨w1.heap.size, 0, none⟩), .pointer (some ⟨w1.heap.size + 1, 0, none⟩)] (slfT zs) (SlfI w1.heap.size (w1.heap.size + 1) g len rs (slfW zs)) w.heap.size (n + 1) _ (enter_of Try.func165 (by kernel_rfl) rfl) (by omega) (by simp; omega) HI.out (fun k wr wr' h hb => h.keep (by simp; omega) (by simp) hb) (fun k wr hk hsz hI => slf1_any _ _ _ _ _ _ _ _ _ _ hI HRs.out (by omega) HSL.out.1 h96)).mono ?_
        rintro e w2 ⟨v, ys, rfl, ho, hx2, hb2⟩
        have HO := Lib.hid (ho.mono (show w.heap.size ≤ _ by simp; omega))
        have HE3 := Lib.hid (show tells (slfT zs) (n + 1) = slfL zs n by unfold slfL; rw [Int.toNat_natCast])
        have HX2 := Lib.hid (show cnl ys = slfR zs n by rw [hx2, HE3.out, HB.out.2])
        have HBl := Lib.hid (((below_drewN (HB1.out.alloc hzw _) m2).alloc (by simp; omega) _).trans hb2)
        have HT := Lib.hid (show fins (tells (slfT zs) (n + 1)) = slfB zs n by rw [HE3.out, HB.out.1])
        rw [HT.out]
        clear ho hx2 hb2
        go_wp2
        go_ret2
        exact ⟨v, ys, rfl, HO.out, HX2.out, HBl.out⟩
    · have HB := Lib.hid (slf_mean (a := n) (HMe.out.symm.trans hM))
      have HBb := Lib.hid ((below_drewN (Below.refl w.heap.size w) m).trans hb)
      clear hM hb
      go_wp2
      go_ret2
      exact fail_ob _ HB.out.1 HB.out.2 (HBb.out.alloc HBb.out.size _)

set_option maxHeartbeats 1000000 in
set_option maxRecDepth 100000 in
theorem specSlf_any (a : Option Addr) (len cap : Nat) (zs : List Nat) (q : Int) (w : World) (h : FSl w a len zs) (hm : len ≤ 1048576) :
    Calls Try.prog 115 #[.slice a len cap, .int .i64 q] w (RetOB 33 (slfR zs q) (slfB zs q) w) := by
  obtain ⟨i0, hi, hz0, hz1, hz2⟩ := info_parts Try.infoR
  have H := Lib.hid h
  have HL := Lib.hid h.1
  clear h
  cases hB : lagsB zs q
  · have HB := Lib.hid (slf_out hB)
    cases hs : serB zs
    · have HS := Lib.hid hs
      clear hs hB hi hz0 hz1 hz2
      go_enter Try.func115, Try.ntmps115
      go_wp2_with (go_at_call 65; refine (specSeries_any _ _ _ _ _ H.out hm).mono ?_; rw [HS.out]; rintro e w' ⟨m, rfl, rfl⟩)
      go_ret2
      exact fail_ob _ HB.out.1 HB.out.2 (below_drewN (Below.refl _ _) _)
    · have hq := lagsB_f hB hs
      rw [HL.out] at hq
      have HS := Lib.hid hs
      clear hs hB hi hz0 hz1 hz2
      by_cases hr : 0 ≤ q ∧ q ≤ 16
      · have hd : decide ((len : Int) ≤ q) = true := decide_eq_true (by omega)
        have hd2 : decide (q < (len : Int)) = false := decide_eq_false (by omega)
        have HR := Lib.hid hr
        clear hr hq
        go_enter Try.func115, Try.ntmps115
        go_wp2_with (first | (go_at_call 65; refine (specSeries_any _ _ _ _ _ H.out hm).mono ?_; rw [HS.out]; rintro e w' ⟨m, rfl, rfl⟩) | (go_at_call 86; refine (in_yes _ _ _ _ HR.out.1 HR.out.2).mono ?_; rintro e w' ⟨rfl, rfl⟩))
        go_ret2
        exact fail_ob _ HB.out.1 HB.out.2 (below_drewN (Below.refl _ _) _)
      · have HR := Lib.hid (show q < 0 ∨ 16 < q by omega)
        clear hr hq
        go_enter Try.func115, Try.ntmps115
        go_wp2_with (first | (go_at_call 65; refine (specSeries_any _ _ _ _ _ H.out hm).mono ?_; rw [HS.out]; rintro e w' ⟨m, rfl, rfl⟩) | (go_at_call 86; refine (in_no _ _ _ _ HR.out).mono ?_; rintro e w' ⟨rfl, rfl⟩))
        go_ret2
        exact fail_ob _ HB.out.1 HB.out.2 (below_drewN (Below.refl _ _) _)
  · have HS0 := Lib.hid hB
    obtain ⟨hs, h0, h16, hlt, h96⟩ := lagsB_t hB
    have HR := Lib.hid (And.intro h0 h16)
    obtain ⟨n, rfl⟩ : ∃ n : Nat, q = n := ⟨q.toNat, by omega⟩
    rw [HL.out] at hlt h96
    have hn : n < len := by omega
    have hd : decide ((len : Int) ≤ (n : Int)) = false := decide_eq_false (by omega)
    have hd3 : decide (len ≤ n) = false := decide_eq_false (by omega)
    have HS := Lib.hid hs
    have HL0 := Lib.hid (show slfB0 zs n = posB (slfW zs) by unfold slfB0; rw [hB]; rfl)
    clear hB hs h0 h16 hlt
    go_enter Try.func115, Try.ntmps115
    go_wp2_with fail
    refine (specSeries_any _ _ _ _ _ H.out hm).mono ?_
    rw [HS.out]
    rintro e w' ⟨m, rfl, rfl⟩
    go_wp2_with fail
    refine (in_yes _ _ _ _ HR.out.1 HR.out.2).mono ?_
    rintro e w' ⟨rfl, rfl⟩
    go_wp2_with fail
    refine (l03Off_any _ _ _ _ _ (FSl.drewN H.out m) hm).mono ?_
    rintro e w1 ⟨v, rs, rfl, hown, hrs, hbel⟩
    obtain ⟨A, cp, rfl, hsl, _⟩ := hown.sl
    have hl1 : rs.length = len := by have := congrArg List.length hrs; rw [cnl_len, offL_len, HL.out] at this; exact this
    rw [hl1] at hsl
    have HSL := Lib.hid hsl
    have HB1 := Lib.hid ((below_drewN (Below.refl w.heap.size w) m).trans hbel)
    have HD := Lib.hid (show ∀ k, k ≤ len → dly rs rs 0 k (len - 0 - k) = dly (offL zs) (offL zs) 0 k (zs.length - k) from fun k hk => by
      rw [HL.out, Nat.sub_zero]
      exact dly_congr (hrs.trans (cnl_off zs).symm) (hrs.trans (cnl_off zs).symm) (by omega) (by omega))
    simp only [hl1]
    clear hown hrs hbel hsl hl1
    go_wp2_with fail
    refine (specDel_any _ _ len _ _ rs rs 0 0 0 _ HSL.out HSL.out h96 (.inl rfl) (by omega) (by omega) rfl).mono ?_
    rintro e w' ⟨x, m2, hx, rfl, rfl⟩
    have HXw := Lib.hid (show cn .f32 x = slfW zs from hx.trans (HD.out 0 (by omega)))
    have HP := Lib.hid (show posB x = posB (slfW zs) from posB_congr (by rw [HXw.out]; exact (dly_cn ..).symm))
    clear hx
    cases hp : posB (slfW zs)
    · have HB := Lib.hid (slf_bad (HL0.out.trans hp))
      have hord : ((FloatKind.format .f32).order x 0 == some Ordering.gt) = false := HP.out.trans hp
      clear hp
      go_wp2
      go_ret2
      exact fail_ob _ HB.out.1 HB.out.2 (below_drewN HB1.out m2)
    · have HB := Lib.hid (slf_good (HL0.out.trans hp))
      have hord : ((FloatKind.format .f32).order x 0 == some Ordering.gt) = true := HP.out.trans hp
      have HN := Lib.hid (FOwn.made (T := 33) (B := w1.heap.size) (w1.drewN m2) (Nat.le_refl _))
      have HSL1 := Lib.hid (show FSl ((w1.drewN m2).alloc (.cells #[] 33)) A len rs from FSl.below (FSl.drewN HSL.out m2) ((Below.refl _ _).alloc (Nat.le_refl _) _))
      have hzw : w.heap.size ≤ w1.heap.size := HB1.out.size
      clear hp
      go_wp2
      go_loopw [8, 9] (fun v c wr => ∃ (k : Nat) (rs' : List Nat), k ≤ n + 1 ∧ c = .int .i64 k ∧ Hid (rs'.length = k) ∧ Hid (FOwn 33 w1.heap.size wr v rs') ∧ Hid (cnl rs' = tells (slfT zs) k) ∧ Hid (Below w1.heap.size w1 wr)) (fun _ c _ => n + 1 - (intOf c).toNat)
      case atStart => exact ⟨0, [], by omega, rfl, Lib.hid rfl, HN, Lib.hid rfl, Lib.hid ((below_drewN (Below.refl _ _) m2).alloc (by show w1.heap.size ≤ w1.heap.size; exact Nat.le_refl _) _)⟩
      case round =>
        rename_i wr
        obtain ⟨k, rs', hk, rfl, hrl, hown, hrs, hbel1⟩ := hrel
        by_cases hlt : k ≤ n
        · have hdk : decide ((k : Int) ≤ (n : Int)) = true := decide_eq_true (by omega)
          have hcs := Lib.hid (show ∀ r w', cn .f32 r = dly rs rs 0 k (len - 0 - k) → cnl (rs' ++ [fopR .quo .f32 r x w']) = tells (slfT zs) (k + 1) from fun r w' hr => (cnl_snoc hrs.out (show cn .f32 (fopR .quo .f32 r x w') = slfT zs k by rw [cn_fopR, hr, HD.out k (by omega), HXw.out]; rfl)).trans (tells_succ (slfT zs) k).symm)
          have hsz1 := hbel1.out.size
          have hrk : rs'.length ≤ 1048576 := by have := hrl.out; omega
          go_wp2_with fail
          refine (specDel_any _ _ len _ _ rs rs 0 k k _ (FSl.below HSL.out hbel1.out) (FSl.below HSL.out hbel1.out) h96 (.inl rfl) (by omega) (by omega) (by omega)).mono ?_
          rintro e w' ⟨r, m3, hr, rfl, rfl⟩
          have hcs2 := Lib.hid (fun w' => hcs.out r w' hr)
          clear hr
          go_wp2_with (at_builtin; refine wpList_append_own _ rfl _ _ 22 rfl w1.heap.size 33 i0 (.float .f32 0) 1 4 Try.underlying22 hi hz0 hz1 hz2 rfl (by decide) _ _ _ rfl (World.ownsRow.alloc (FOwn.drewN hown.out _) _) ⟨wr.heap.size, 0, none⟩ 1 1 [_] rfl rfl (one_new rfl) ?c2 ?c3 ?c4 ?c5 ?_)
          case c2 => intro u hu; simp at hu; subst hu; rfl
          case c3 => unfold maxLen; omega
          case c4 => omega
          case c5 => simp; show w1.heap.size ≤ wr.heap.size + 1; omega
          intro v' w2 hown' hgrow _
          have R := FOwn.push hown.out hbel1.out hsz1 hown' hgrow
          have hR := Lib.hid R
          have hrl2 := Lib.hid hrl.out
          clear R hown' hgrow hown hbel1 hrs hrl hcs
          go_wp2
          go_roundw
          case rel =>
            refine ⟨k + 1, _, by omega, by go_num, ?_, Lib.hid hR.out.1, Lib.hid (hcs2.out _), Lib.hid hR.out.2⟩
            exact Lib.hid (by rw [List.length_append, hrl2.out]; rfl)
          case measure => simp [intOf]; omega
        · have hkn : k = n + 1 := by omega
          subst hkn
          have hdk : decide (((n + 1 : Nat) : Int) ≤ (n : Int)) = false := decide_eq_false (by omega)
          have hrk : rs'.length ≤ 1048576 := by have := hrl.out; omega
          have HX := Lib.hid (show cnl rs' = slfL zs n by unfold slfL; rw [hrs.out, Int.toNat_natCast])
          obtain ⟨A', cp', rfl, hsl', _⟩ := hown.out.sl
          have HSL' := Lib.hid hsl'
          clear hrs hsl'
          go_wp2_with fail
          refine (specGiven_any 33 _ _ rs' (slfL zs n) _ w _ rfl HSL'.out HX.out hrk (hown.out.mono hzw) (HB1.out.trans (hbel1.out.mono hzw))).mono ?_
          rintro e w3 ⟨v, ys, rfl, ho, hx', hb'⟩
          have HO := Lib.hid ho
          have HX2 := Lib.hid (hx'.trans HB.out.2.symm)
          have HBB := Lib.hid hb'
          have HT := Lib.hid (show fins (slfL zs n) = slfB zs n from HB.out.1.symm)
          rw [HT.out]
          clear ho hx' hb'
          go_wp2
          go_ret2
          exact ⟨v, ys, rfl, HO.out, HX2.out, HBB.out⟩
end Go.Proofs.Ytopgegciejmhaaa
