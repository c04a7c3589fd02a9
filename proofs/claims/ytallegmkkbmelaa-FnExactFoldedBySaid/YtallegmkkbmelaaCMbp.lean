/-
  meansByPeriod of the program.
-/
import Derived.Test.YtallegmkkbmelaaCSea
namespace Go.Proofs.Ytallegmkkbmelaa
open Ieee Go.RowKit
set_option linter.unusedVariables false

set_option maxHeartbeats 1000000 in
theorem means_any (a : Option Addr) (len cap : Nat) (zs : List Nat) (n : Nat) (w : World) (h : FSl w a len zs) (hs : serB zs = true) (hn1 : 1 ≤ n) (hn2 : n ≤ len) (hq3 : len ≤ 96) :
    Calls Try.prog 59 #[.slice a len cap, .int .i64 n] w (RetOB 23 (lstR (meansZ zs n n)) (fins (meansZ zs n n)) w) := by
  obtain ⟨i0, hi, hz0, hz1, hz2⟩ := info_parts Try.infoR
  have H := Lib.hid h
  have HL := Lib.hid h.1
  have HS := Lib.hid hs
  clear h hs
  have hmk := fun W => run_make_len (P := Try.prog) W 22 23 i0 (.float .f32 0) Try.underlying22 hi hz0 hz1 n (by rw [hz2]; omega) (by omega)
  go_enter Try.func59, Try.ntmps59
  go_wp2
  clear hmk
  have HH := Lib.hid (Head.start (T := 23) (w := w) (n := n) (by omega))
  have HB0 := Lib.hid ((Below.refl w.heap.size w).alloc (Nat.le_refl _) (.cells (madeCells (Value.float .f32 0).cells n) 23))
  go_loopw [16] (fun i wr => ∃ (p : Nat) (rs : List Nat), p ≤ n ∧ i = .int .i64 p ∧ Hid (rs.length = p) ∧ Hid (Head 23 w.heap.size n rs wr) ∧ Hid (cnl rs = meansZ zs n p) ∧ Hid (fins (meansZ zs n p) = true) ∧ Hid (Below w.heap.size w wr) ∧ w.heap.size < wr.heap.size) (fun i _ => n - (intOf i).toNat)
  case atStart => exact ⟨0, [], Nat.zero_le _, rfl, Lib.hid rfl, HH, Lib.hid rfl, Lib.hid rfl, HB0, by simp⟩
  case round =>
    obtain ⟨p, rs, hp, rfl, hrl, hhead, hrs, hfin, hbel, hsz⟩ := hrel
    rename World => wo
    by_cases hplt : p < n
    · go_wp2
      go_loopw [8, 9] (fun u c wx => ∃ (q i : Nat) (xs : List Nat), i < len + n ∧ c = .int .i64 i ∧ Hid (i = p + q * n) ∧ q ≤ i ∧ Hid (xs.length = q) ∧ Hid (FOwn 23 wo.heap.size wx u xs) ∧ Hid (cnl xs = colQ zs n p q) ∧ Hid (Below wo.heap.size wo wx)) (fun _ c _ => len + n - (intOf c).toNat)
      case atStart => exact ⟨0, p, [], by omega, rfl, Lib.hid (by simp), by omega, Lib.hid rfl, Lib.hid (FOwn.nil ..), Lib.hid rfl, Lib.hid (Below.refl _ _)⟩
      case round =>
        obtain ⟨q, i, xs, hi2, rfl, hiq, hqi, hxl, hxo, hxs, hxb⟩ := hrel
        have hsx := hxb.out.size
        by_cases hlt : i < len
        · obtain ⟨b, off, rfl, hb, hc⟩ := H.out.at (by omega)
          have hck := hc i hlt
          have hbb := hbel.out.trans (hxb.out.mono hbel.out.size)
          rw [← hbb.cell (p := ⟨b, off + i, none⟩) hb] at hck
          have hcs := Lib.hid (show ∀ z, zs.getD i 0 = z → cnl (xs ++ [z]) = colQ zs n p (q + 1) from fun z hz => (cnl_snoc hxs.out (by rw [← hz, hiq.out])).trans (tells_succ (fun j => cn .f32 (zs.getD (p + j * n) 0)) q).symm)
          have hcz := Lib.hid (hcs.out _ rfl)
          have hxk : xs.length ≤ 1048576 := by have := hxl.out; omega
          clear hcs hc hb hbb H
          generalize zs.getD i 0 = z at *
          go_wp2_with (at_builtin; refine wpList_append_own _ rfl _ _ 22 rfl wo.heap.size 23 i0 (.float .f32 0) 1 4 Try.underlying22 hi hz0 hz1 hz2 rfl (by decide) _ _ _ rfl (World.ownsRow.alloc (FOwn.drewN hxo.out 0) _) ⟨wr.heap.size, 0, none⟩ 1 1 [_] rfl rfl (one_new rfl) ?c2 ?c3 ?c4 ?c5 ?_)
          case c2 => intro u hu; simp at hu; subst hu; rfl
          case c3 => unfold maxLen; omega
          case c4 => omega
          case c5 => simp; show wo.heap.size ≤ wr.heap.size + 1; omega
          intro v' w1 hown' hgrow _
          have R := FOwn.push (n := 0) hxo.out hxb.out hsx hown' hgrow
          have hR := Lib.hid R
          have hxl2 := Lib.hid hxl.out
          have hiq2 := Lib.hid (show i + n = p + (q + 1) * n by rw [hiq.out, Nat.succ_mul, Nat.add_assoc])
          clear R hown' hgrow hxo hxb hxs hxl hck hiq
          go_wp2
          go_roundw
          case rel =>
            refine ⟨q + 1, i + n, _, by omega, by go_num, hiq2, by omega, ?_, Lib.hid hR.out.1, hcz, Lib.hid hR.out.2⟩
            exact Lib.hid (by rw [List.length_append, hxl2.out]; rfl)
          case measure => simp [intOf]; omega
        · have hcol := Lib.hid (show cnl xs = colZ zs n p by rw [hxs.out, col_end (by rw [HL.out]; omega) hiq.out (by rw [HL.out]; omega) (by rw [HL.out]; omega)])
          have hxk : xs.length ≤ 1048576 := by have := hxl.out; omega
          have HXS := Lib.hid (show serB xs = true by rw [serB_congr (rs' := colZ zs n p) (by rw [hcol.out]; exact (colQ_cnl ..).symm)]; exact col_ser HS.out hn1 (by rw [HL.out]; omega) hplt)
          have HMe := Lib.hid (show mean32 xs = mean32 (colZ zs n p) by rw [← mean32_cnl xs, hcol.out])
          obtain ⟨A, cp, rfl, hsl, _⟩ := hxo.out.sl
          have HSL := Lib.hid hsl
          have HB1 := Lib.hid (hbel.out.trans (hxb.out.mono hbel.out.size))
          have hhd := hhead.out.same (hxb.out.block _ (by omega))
          have hcell := Lib.hid (hhd.cell hplt)
          have HPu := Lib.hid (show ∀ r, Head 23 w.heap.size n (rs ++ [r]) (wr.setCell ⟨w.heap.size, p, none⟩ (.float .f32 r)) from fun r => by have := hhd.push (by rw [hrl.out]; exact hplt) r; rw [hrl.out] at this; exact this)
          have HRs := Lib.hid (show ∀ r, cn .f32 r = mean32 (colZ zs n p) → cnl (rs ++ [r]) = meansZ zs n (p + 1) from fun r hr => (cnl_snoc hrs.out hr).trans (tells_succ (fun p => mean32 (colZ zs n p)) p).symm)
          have HLn := Lib.hid (show ∀ r, (rs ++ [r]).length = p + 1 from fun r => by rw [List.length_append, hrl.out]; rfl)
          cases hf : fin .f32 (mean32 (colZ zs n p))
          · have HMB := Lib.hid (show meanB xs = false by unfold meanB; rw [HMe.out, hf, Bool.and_false])
            have HBad := Lib.hid (show fins (meansZ zs n n) = false from Bool.eq_false_iff.2 fun hh => by
              have := fins_at hh (k := p) (by unfold meansZ; rw [tells_len]; exact hplt)
              unfold meansZ at this
              rw [tells_at _ hplt, hf] at this
              cases this)
            have HE2 := Lib.hid (show lstR (meansZ zs n n) = [] by unfold lstR; rw [HBad.out]; rfl)
            clear hsl hxo hxs hxb hcol hbel hrs hxl hiq hf hhd hhead hcell HPu HRs HLn hfin hrl
            go_wp2_with fail
            refine (implMean_any _ _ _ _ _ HSL.out hxk).mono ?_
            rw [HMB.out]
            rintro e w' ⟨r, m2, hr, rfl, rfl⟩
            clear hr
            go_wp2
            go_ret2
            exact fail_ob _ HBad.out HE2.out (below_drewN HB1.out _)
          · have HMB := Lib.hid (show meanB xs = true by unfold meanB; rw [HMe.out, hf, HXS.out]; rfl)
            have HMR := Lib.hid (show meanR xs = mean32 (colZ zs n p) by unfold meanR; rw [HMB.out, if_pos rfl, HMe.out])
            have HMo := Lib.hid (show fins (meansZ zs n (p + 1)) = true from tells_more hfin.out hf)
            obtain ⟨⟨u, hcu⟩, hcf⟩ := hcell.out
            have hszr : w.heap.size < wr.heap.size := by omega
            clear hsl hxo hxs hxb hcol hbel hrs hxl hiq hf hhd hhead hcell hfin hrl
            go_wp2_with fail
            refine (implMean_any _ _ _ _ _ HSL.out hxk).mono ?_
            rw [HMB.out, HMR.out]
            rintro e w' ⟨r, m2, hr, rfl, rfl⟩
            have HR2 := Lib.hid (HRs.out r hr)
            have HP2 := Lib.hid (HPu.out r)
            have HL2 := Lib.hid (HLn.out r)
            clear hr HRs HPu HLn
            go_wp2
            go_roundw
            case rel => exact ⟨p + 1, rs ++ [r], by omega, by go_num, HL2, Lib.hid (HP2.out.drewN m2), HR2, HMo, Lib.hid ((below_drewN HB1.out m2).setCell (Nat.le_refl _) _), by simpa [World.setCell] using hszr⟩
            case measure => simp [intOf]; omega
    · obtain rfl : p = n := by omega
      have HO := Lib.hid (hhead.out.own hrl.out (Nat.le_refl _) (by unfold maxLen; omega))
      have HF := Lib.hid hfin.out
      have HX := Lib.hid (show cnl rs = lstR (meansZ zs p p) by unfold lstR; rw [hfin.out]; exact hrs.out)
      clear hhead hrs hrl hfin H
      go_wp2
      go_ret2
      exact ⟨_, rs, by rw [HF.out]; rfl, HO.out, HX.out, hbel.out⟩
end Go.Proofs.Ytallegmkkbmelaa
