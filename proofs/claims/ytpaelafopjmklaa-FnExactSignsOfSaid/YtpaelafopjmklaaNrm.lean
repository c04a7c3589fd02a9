/-
  NormShape, in both packages.
-/
import Derived.Test.YtpaelafopjmklaaCEvn
import Derived.Test.YtpaelafopjmklaaCLaw
namespace Go.Proofs.Ytpaelafopjmklaa
open Ieee Go.RowKit
set_option linter.unusedVariables false

theorem imNorm_any (a : Option Addr) (len cap : Nat) (zs : List Nat) (w : World) (h : FSl w a len zs) (hm : len ≤ 1048576) :
    Calls Try.prog 21 #[.slice a len cap] w (RetOB 23 (evnR zs) (evnB zs) w) := by
  have H := Lib.hid h
  clear h
  go_enter Try.func21, Try.ntmps21
  go_wp2_with fail
  refine (implEvn_any _ _ _ _ _ H.out hm).mono ?_
  rintro e w1 ⟨v, rs, rfl, ho, hx, hb⟩
  have HO := Lib.hid ho
  have HX := Lib.hid hx
  have HB := Lib.hid hb
  clear ho hx hb
  go_wp2
  go_ret2
  exact ⟨v, rs, rfl, HO.out, HX.out, HB.out⟩

theorem l07Sum_any (a : Option Addr) (len cap : Nat) (zs : List Nat) (w : World) (h : FSl w a len zs) (hl : len ≤ 1048576) :
    Calls Try.prog 60 #[.slice a len cap] w (RetF .f32 (sum32 zs) w) := by
  go_enter Try.func60, Try.ntmps60
  go_wp2
  go_loopw [3, 7] (fun s i wr => ∃ k n r : Nat, k ≤ len ∧ i = .int .i64 k ∧ s = .float .f32 r ∧ wr = w.drewN n ∧ Hid (cn .f32 r = sum32 (zs.take k))) (fun _ i _ => len - (intOf i).toNat)
  case atStart => exact ⟨0, 0, 0, Nat.zero_le _, rfl, rfl, rfl, Lib.hid cn_zero⟩
  case round =>
    obtain ⟨k, n, r, hk, rfl, rfl, rfl, hr⟩ := hrel
    by_cases hlt : k < len
    · obtain ⟨b, off, rfl, _, hc⟩ := h.at (by omega)
      have hck := hc k hlt
      have hstep := Lib.hid (fun w' => sum32_step (w := w') (by rw [h.1]; exact hlt) hr.out)
      generalize zs.getD k 0 = z at *
      clear hc h hr
      go_wp2
      go_roundw
      case rel => exact ⟨k + 1, _, _, by omega, by go_num, rfl, rfl, Lib.hid (hstep.out _)⟩
      case measure => simp [intOf]; omega
    · have hfin := Lib.hid (show cn .f32 r = sum32 zs by rw [hr.out, List.take_of_length_le (by rw [h.1]; omega)])
      clear h hr
      go_wp2
      go_ret
      exact ⟨r, n, hfin.out, rfl, rfl⟩
/-- What l07Norm gives: the list, even where it is not finite. -/
def RetNrm (zs : List Nat) (w : World) (e : Ending) (w' : World) : Prop :=
  ∃ v rs, e = .returned (.tuple #[v, .bool (evnB zs)]) ∧ FOwn 23 w.heap.size w' v rs ∧ (evnB zs = true → cnl rs = evnR zs) ∧ Below w.heap.size w w'
theorem evn_full {zs : List Nat} (h0 : evnB0 zs = true) (h : evnB zs = true) : evnR zs = evnL zs := by
  have h2 := (evn_good h0).1
  rw [(evn_good h0).2]
  unfold lstR
  rw [← h2, h]; rfl
set_option maxHeartbeats 2000000 in
theorem l07Norm_any (a : Option Addr) (len cap : Nat) (zs : List Nat) (w : World) (h : FSl w a len zs) (hs : serB zs = true) :
    Calls Try.prog 57 #[.slice a len cap] w (RetNrm zs w) := by
  obtain ⟨i0, hi, hz0, hz1, hz2⟩ := info_parts Try.infoR
  have H := Lib.hid h
  have HL := Lib.hid h.1
  have hl1 := (serB_t hs).1
  have hl2 := (serB_t hs).2.1
  rw [HL.out] at hl1 hl2
  have HE := Lib.hid (show evnB0 zs = (fin .f32 (spread32 zs) && posB (spread32 zs)) by unfold evnB0 spreadB; rw [hs]; rfl)
  clear h hs
  go_enter Try.func57, Try.ntmps57
  go_wp2_with fail
  refine (l07Sum_any _ _ _ _ _ H.out (by omega)).mono ?_
  rintro e w' ⟨s, m, hs, rfl, rfl⟩
  obtain ⟨nn, hnn⟩ : ∃ nn, floatOfInt .f32 (len : Int) = nn := ⟨_, rfl⟩
  have HM := Lib.hid (show ∀ W, cn .f32 (fopR .quo .f32 s nn W) = mean32 zs from fun W => by rw [cn_fopR, hs, ← hnn]; unfold mean32 i2f; rw [HL.out])
  have HN := Lib.hid (show cn .f32 nn = cn .f32 (i2f (zs.length : Int)) by rw [← hnn, HL.out]; rfl)
  rw [hnn]
  clear hs hnn
  go_wp2
  generalize hx : fopR .quo .f32 s _ _ = x
  have HX := Lib.hid (show cn .f32 x = mean32 zs by rw [← hx]; exact HM.out _)
  clear hx HM
  go_loopw [6, 21] (fun t i wr => ∃ k n r : Nat, k ≤ len ∧ i = .int .i64 k ∧ t = .float .f32 r ∧ wr = w.drewN n ∧ Hid (cn .f32 r = sqTo zs (mean32 zs) k)) (fun _ i _ => len - (intOf i).toNat)
  case atStart => exact ⟨0, _, 0, Nat.zero_le _, rfl, rfl, rfl, Lib.hid cn_zero⟩
  case round =>
    obtain ⟨k, n, r, hk, rfl, rfl, rfl, hr⟩ := hrel
    by_cases hlt : k < len
    · obtain ⟨b, off, rfl, hb, hc⟩ := H.out.at (by omega)
      have hck := hc k hlt
      have hstep := Lib.hid (fun w1 w2 w3 => sq_step (x := x) hr.out rfl HX.out w1 w2 w3)
      generalize zs.getD k 0 = z at *
      clear hc hb H hr
      go_wp2
      go_roundw
      case rel => exact ⟨k + 1, _, _, by omega, by go_num, rfl, rfl, Lib.hid (hstep.out _ _ _)⟩
      case measure => simp [intOf]; omega
    · have e : k = len := by omega
      subst e
      have HR := Lib.hid (show ∀ W, cn .f32 (fopR .quo .f32 r nn W) = aop .quo .f32 (sqTo zs (mean32 zs) zs.length) (cn .f32 (i2f zs.length)) from fun W => by rw [cn_fopR, hr.out, HN.out, HL.out])
      clear hr hlt
      go_wp2_with fail
      refine (specRoot_any _ _).mono ?_
      rintro e w' ⟨y, m2, hy, rfl, rfl⟩
      have HY := Lib.hid (show cn .f32 y = spread32 zs by rw [hy]; exact (root32_cn _).symm.trans (by rw [HR.out]; rfl))
      clear hy HR
      have HA := Lib.hid (show (fin .f32 y && posB y) = evnB0 zs by
        rw [HE.out, fin_congr (HY.out.trans (cn_spread zs).symm), posB_congr (HY.out.trans (cn_spread zs).symm)])
      cases hB : evnB0 zs
      · have HB := Lib.hid (evn_bad hB)
        have HA2 := Lib.hid (HA.out.trans hB)
        clear hB
        go_wp2_with fail
        refine (above_any _ _).mono ?_
        rw [HA2.out]
        rintro e w' ⟨m3, rfl, rfl⟩
        go_wp2
        go_ret2
        exact ⟨_, [], by rw [HB.out.1]; rfl, FOwn.nil .., fun _ => HB.out.2.symm, below_drewN (Below.refl _ _) _⟩
      · have HB := Lib.hid (evn_good hB)
        have HFull := Lib.hid (fun h => evn_full hB h)
        have HA2 := Lib.hid (HA.out.trans hB)
        clear hB
        go_wp2_with fail
        refine (above_any _ _).mono ?_
        rw [HA2.out]
        rintro e w' ⟨m3, rfl, rfl⟩
        have HO := Lib.hid (fun q => FOwn.made (T := 23) (B := w.heap.size) (w.drewN q) (Nat.le_refl _))
        have HB0 := Lib.hid (fun q => (below_drewN (Below.refl w.heap.size w) q).alloc (Nat.le_refl _) (.cells #[] 23))
        go_wp2
        go_loopw [10, 46] (fun v i wr => ∃ (j : Nat) (rs : List Nat), j ≤ k ∧ i = .int .i64 j ∧ Hid (rs.length = j) ∧ Hid (FOwn 23 w.heap.size wr v rs) ∧ Hid (cnl rs = tells (evnT zs) j) ∧ Hid (Below w.heap.size w wr)) (fun _ i _ => k - (intOf i).toNat)
        case atStart => exact ⟨0, [], Nat.zero_le _, rfl, Lib.hid rfl, Lib.hid (HO.out _), Lib.hid rfl, Lib.hid (HB0.out _)⟩
        case round =>
          rename_i wr
          obtain ⟨j, rs, hj, rfl, hrl, hown, hrs, hbel⟩ := hrel
          by_cases hlt : j < k
          · obtain ⟨b, off, rfl, hb, hc⟩ := H.out.at (by omega)
            have hck := hc j hlt
            rw [← hbel.out.cell (p := ⟨b, off + j, none⟩) hb] at hck
            have hstep := Lib.hid (show ∀ z, zs.getD j 0 = z → ∀ w1 w2, cn .f32 (fopR .quo .f32 (fopR .sub .f32 z x w1) y w2) = evnT zs j from fun z hz w1 w2 => by rw [cn_fopR, cn_fopR, HX.out, HY.out, ← hz]; rfl)
            have hsz := hbel.out.size
            have hrk : rs.length ≤ 1048576 := by have := hrl.out; omega
            obtain ⟨z, hz⟩ : ∃ z, zs.getD j 0 = z := ⟨_, rfl⟩
            rw [hz] at hck
            have hst2 := Lib.hid (hstep.out z hz)
            clear hc hb H hstep hz
            go_wp2_with (at_builtin; refine wpList_append_own _ rfl _ _ 22 rfl w.heap.size 23 i0 (.float .f32 0) 1 4 Try.underlying22 hi hz0 hz1 hz2 rfl (by decide) _ _ _ rfl (World.ownsRow.alloc (FOwn.drewN hown.out _) _) ⟨wr.heap.size, 0, none⟩ 1 1 [_] rfl rfl (one_new rfl) ?c2 ?c3 ?c4 ?c5 ?_)
            case c2 => intro u hu; simp at hu; subst hu; rfl
            case c3 => unfold maxLen; omega
            case c4 => omega
            case c5 => simp; show w.heap.size ≤ wr.heap.size + 1; omega
            intro v' w1 hown' hgrow _
            have R := FOwn.push hown.out hbel.out hsz hown' hgrow
            have hR := Lib.hid R
            have hcs := Lib.hid (fun w1 w2 : World => (cnl_snoc hrs.out (hst2.out w1 w2)).trans (tells_succ (evnT zs) j).symm)
            have hrl2 := Lib.hid hrl.out
            clear R hown' hgrow hown hbel hrs hrl hck
            go_wp2
            go_roundw
            case rel =>
              refine ⟨j + 1, _, by omega, by go_num, ?_, Lib.hid hR.out.1, Lib.hid (hcs.out _ _), Lib.hid hR.out.2⟩
              exact Lib.hid (by rw [List.length_append, hrl2.out]; rfl)
            case measure => simp [intOf]; omega
          · have hkl : j = k := by omega
            have hfin := Lib.hid (show cnl rs = evnL zs by unfold evnL; rw [hrs.out, HL.out, hkl])
            have hrk : rs.length ≤ 1048576 := by have := hrl.out; omega
            obtain ⟨A, cp, rfl, hsl, _⟩ := hown.out.sl
            have HSL := Lib.hid hsl
            have HFi := Lib.hid (show fins rs = evnB zs by rw [HB.out.1, ← hfin.out, fins_cnl])
            have HOw := Lib.hid hown.out
            have HBe := Lib.hid hbel.out
            clear hrs H hsl hown hbel
            go_wp2_with fail
            refine (specFinite_any _ _ _ _ _ HSL.out hrk).mono ?_
            rw [HFi.out]
            rintro e w' ⟨m5, rfl, rfl⟩
            go_wp2
            go_ret2
            exact ⟨_, rs, rfl, HOw.out.drewN _, fun h => hfin.out.trans (HFull.out h).symm, below_drewN HBe.out _⟩
theorem spNorm_any (a : Option Addr) (len cap : Nat) (zs : List Nat) (w : World) (h : FSl w a len zs) (hm : len ≤ 1048576) :
    Calls Try.prog 20 #[.slice a len cap] w (RetOB 23 (evnR zs) (evnB zs) w) := by
  have H := Lib.hid h
  clear h
  cases hs : serB zs
  · have HS := Lib.hid hs
    have HB := Lib.hid (evn_bad (zs := zs) (by unfold evnB0 spreadB; rw [hs]; rfl))
    clear hs
    go_enter Try.func20, Try.ntmps20
    go_wp2_with (go_at_call 51; refine (specSeries_any _ _ _ _ _ H.out hm).mono ?_; rw [HS.out]; rintro e w' ⟨m, rfl, rfl⟩)
    go_ret2
    exact fail_ob _ HB.out.1 HB.out.2 (below_drewN (Below.refl _ _) _)
  · have HS := Lib.hid hs
    clear hs
    go_enter Try.func20, Try.ntmps20
    go_wp2_with fail
    refine (specSeries_any _ _ _ _ _ H.out hm).mono ?_
    rw [HS.out]
    rintro e w' ⟨m, rfl, rfl⟩
    go_wp2_with fail
    refine (l07Norm_any _ _ _ _ _ (FSl.drewN H.out m) HS.out).mono ?_
    rintro e w1 ⟨v, rs, rfl, ho, hx, hb⟩
    have HO := Lib.hid ho
    have HX := Lib.hid hx
    have HB := Lib.hid ((below_drewN (Below.refl w.heap.size w) m).trans hb)
    clear ho hx hb
    cases he : evnB zs
    · have HR := Lib.hid (show evnR zs = [] by
        cases h0 : evnB0 zs
        · exact (evn_bad h0).2
        · rw [(evn_good h0).2]; unfold lstR; rw [← (evn_good h0).1, he]; rfl)
      have HEe := Lib.hid he
      clear he
      go_wp2
      go_ret2
      exact fail_ob _ HEe.out HR.out HB.out
    · have HEe := Lib.hid he
      clear he
      go_wp2
      go_ret2
      exact ⟨v, rs, by rw [HEe.out]; rfl, HO.out, HX.out HEe.out, HB.out⟩
end Go.Proofs.Ytpaelafopjmklaa
