/-
  OwnPast plainly.
-/
import Derived.Test.YtopgegciejmhaaaPlz
import Derived.Test.YtopgegciejmhaaaCLf1
import Derived.Deep.DeepCutAuto
import Derived.Maps.AppendAt
namespace Go.Proofs.Ytopgegciejmhaaa
open Ieee Go.RowKit
set_option linter.unusedVariables false
set_option linter.unusedSimpArgs false
section
variable (zs : List Nat) (q : Int)
def oqX (k : Nat) : Nat := (plR zs q).getD k 0
/-- Terms and spread behind k parts. -/
def oqP : Nat → List Nat
  | 0 => []
  | k + 1 => plN (oqP k) (oqX zs q k)
def oqS : Nat → Nat
  | 0 => aop .quo .f32 (slfW zs) (cn .f32 (i2f zs.length))
  | k + 1 => aop .mul .f32 (oqS k) (aop .sub .f32 1065353216 (aop .mul .f32 (oqX zs q k) (oqX zs q k)))
def oqB : Bool := plOk zs q && decide (q ≤ 6)
def oqF : Bool := fins (oqP zs q q.toNat) && fin .f32 (oqS zs q q.toNat)
def oqOk : Bool := oqB zs q && oqF zs q
def oqR : List Nat := if oqOk zs q then oqP zs q q.toNat else []
def oqV : Nat := if oqOk zs q then oqS zs q q.toNat else 0
end
section
variable {zs : List Nat} {q : Int}
theorem oq_bad (h : oqOk zs q = false) : oqOk zs q = false ∧ oqR zs q = [] ∧ oqV zs q = 0 := ⟨h, by unfold oqR; rw [h]; rfl, by unfold oqV; rw [h]; rfl⟩
theorem oq_badP (h : plOk zs q = false) : oqOk zs q = false ∧ oqR zs q = [] ∧ oqV zs q = 0 := oq_bad (by unfold oqOk oqB; rw [h]; rfl)
theorem oq_badQ (h : ¬ q ≤ 6) : oqOk zs q = false ∧ oqR zs q = [] ∧ oqV zs q = 0 := oq_bad (by unfold oqOk oqB; rw [decide_eq_false h]; simp)
theorem oq_good (h : oqOk zs q = true) : oqR zs q = oqP zs q q.toNat ∧ oqV zs q = oqS zs q q.toNat := ⟨by unfold oqR; rw [h]; rfl, by unfold oqV; rw [h]; rfl⟩
theorem oqP_succ (k : Nat) : oqP zs q (k + 1) = plN (oqP zs q k) (oqX zs q k) := rfl
theorem oqP_len : ∀ k, (oqP zs q k).length = k
  | 0 => rfl
  | k + 1 => by unfold oqP; rw [plN_len, oqP_len k]
theorem pl_t (h : plOk zs q = true) : slfB zs q = true ∧ 0 ≤ q ∧ q ≤ 16 ∧ serB zs = true ∧ fin .f32 (mean32 zs) = true ∧ (plR zs q).length = q.toNat := by
  unfold plOk at h
  have h1 := (Bool.and_eq_true_iff.1 h).1
  have hs : slfB zs q = true := by unfold plB at h1; exact (Bool.and_eq_true_iff.1 h1).1
  have hl := lagsB_t (slfR_len2 hs).2.1
  refine ⟨hs, hl.2.1, hl.2.2.1, hl.1, ?_, ?_⟩
  · cases hm : fin .f32 (mean32 zs)
    · rw [(slf_mean (a := q) hm).1] at hs; cases hs
    · rfl
  · rw [(pl_good h1).2]
    unfold lstR
    rw [(Bool.and_eq_true_iff.1 h).2, if_pos rfl]
    unfold plL
    rw [tells_len]
theorem oqR_len : (oqR zs q).length ≤ 1048576 := by
  unfold oqR
  split
  · rename_i h
    unfold oqOk oqB at h
    have h1 := pl_t (Bool.and_eq_true_iff.1 (Bool.and_eq_true_iff.1 h).1).1
    rw [oqP_len]; omega
  · simp
theorem pl_cnl (h : plOk zs q = true) : cnl (plR zs q) = plR zs q := by
  unfold plOk at h
  rw [(pl_good (Bool.and_eq_true_iff.1 h).1).2]
  unfold lstR
  rw [(Bool.and_eq_true_iff.1 h).2, if_pos rfl]
  unfold plL tells cnl
  rw [List.map_map]
  refine List.map_congr_left fun k _ => plX_cn ..
theorem slfW_sq (zs : List Nat) : slfW zs = sqTo zs (mean32 zs) zs.length := by
  unfold slfW dly
  rw [List.drop_zero]
  exact dot_less (cnl_off zs) _ (Nat.le_refl _)
theorem oq_step {s x k : Nat} (hs : cn .f32 s = oqS zs q k) (hx : cn .f32 x = oqX zs q k) (w1 w2 w3 : World) : cn .f32 (fopR .mul .f32 s (fopR .sub .f32 1065353216 (fopR .mul .f32 x x w1) w2) w3) = oqS zs q (k + 1) := by
  rw [cn_fopR, cn_fopR, cn_fopR, hs, hx, pl_one]; rfl
end
end Go.Proofs.Ytopgegciejmhaaa

/-
  OwnPast of the program.
-/
namespace Go.Proofs.Ytopgegciejmhaaa
open Ieee Go.RowKit
set_option linter.unusedVariables false
set_option linter.unusedSimpArgs false
set_option maxHeartbeats 4000000 in
set_option maxRecDepth 100000 in
theorem imOp_any (a : Option Addr) (len cap : Nat) (zs : List Nat) (q : Int) (w : World) (h : FSl w a len zs) (hm : len ≤ 1048576) :
    Calls Try.prog 49 #[.slice a len cap, .int .i64 q] w (RetL1F1 33 (oqR zs q) (oqV zs q) (oqOk zs q) w) := by
  have HH := Lib.hid h
  have HL := Lib.hid h.1
  clear h
  by_cases hq6 : q ≤ 6
  rotate_left
  · have hd1 : decide ((6 : Int) < q) = true := decide_eq_true (by omega)
    have hd2 : (6 : Int) < q := by omega
    have HB := Lib.hid (oq_badQ (zs := zs) hq6)
    clear hq6
    go_enter Try.func49, Try.ntmps49
    go_wp2_with fail
    go_ret3
    exact fail_l1f1 _ HB.out.1 HB.out.2.1 HB.out.2.2 (Below.refl _ _)
  have hd1 : decide ((6 : Int) < q) = false := decide_eq_false (by omega)
  have hd2 : ¬ (6 : Int) < q := by omega
  cases hp : plOk zs q
  · have HP := Lib.hid hp
    have HB := Lib.hid (oq_badP hp)
    clear hp hq6
    go_enter Try.func49, Try.ntmps49
    go_wp2_with fail
    refine (imPl_any _ _ _ _ q _ HH.out hm).mono ?_
    rw [HP.out]
    rintro e w1 ⟨v, rs, rfl, -, -, hb⟩
    have HBl := Lib.hid hb
    clear hb
    go_wp2_with fail
    go_ret3
    exact fail_l1f1 _ HB.out.1 HB.out.2.1 HB.out.2.2 HBl.out
  have HP := Lib.hid hp
  obtain ⟨-, hq0, -, hser, hfm, hpl⟩ := pl_t hp
  obtain ⟨n, rfl⟩ : ∃ n : Nat, q = n := ⟨q.toNat, by omega⟩
  have hn6 : n ≤ 6 := by omega
  have HPl := Lib.hid (show (plR zs (n : Int)).length = n from hpl)
  have HM := Lib.hid (show meanR zs = mean32 zs ∧ meanB zs = true by unfold meanR meanB; rw [hser, hfm]; exact ⟨rfl, rfl⟩)
  have HPc := Lib.hid (pl_cnl hp)
  have HOp := Lib.hid (show oqB zs (n : Int) = true by unfold oqB; rw [hp, decide_eq_true hq6]; rfl)
  clear hp hq0 hser hfm hpl hq6
  go_enter Try.func49, Try.ntmps49
  go_wp2_with fail
  refine (imPl_any _ _ _ _ (n : Int) _ HH.out hm).mono ?_
  rw [HP.out]
  rintro e w1 ⟨v, rs, rfl, ho, hc, hb⟩
  have hrl : rs.length = n := by have := congrArg List.length hc; rw [cnl_len] at this; rw [this, HPl.out]
  obtain ⟨A, cp, rfl, hfs⟩ := own2_sl ho
  have HFs := Lib.hid (show FSl w1 A n rs by rw [← hrl]; exact hfs)
  have HBl := Lib.hid hb
  have HC := Lib.hid hc
  have HRl := Lib.hid hrl
  have hsz1 := hb.size
  rw [hrl]
  clear ho hc hb hfs hrl
  have HH1 := Lib.hid (FSl.below HH.out HBl.out)
  go_wp2_with fail
  refine (implMean_any _ _ _ _ _ HH1.out hm).mono ?_
  rw [HM.out.2, HM.out.1]
  rintro e w2 ⟨mm, qm, hmm, rfl, rfl⟩
  have HMm := Lib.hid hmm
  clear hmm
  go_wp2_with fail
  refine (implSquares_any _ _ _ zs mm _ (FSl.drewN HH1.out _) hm).mono ?_
  rintro e w3 ⟨sq, qs, hsq, rfl, rfl⟩
  have HSq := Lib.hid (show cn .f32 sq = slfW zs by rw [hsq, HMm.out, slfW_sq, HL.out])
  clear hsq
  go_upto_region 9 with fail
  generalize hS0 : fopR .quo .f32 sq _ _ = s0
  have HS0 := Lib.hid (show cn .f32 s0 = oqS zs (n : Int) 0 by rw [← hS0, cn_fopR, HSq.out, ← HL.out]; rfl)
  clear hS0
  generalize hwA : World.drewN w1 _ = wA
  have HFa := Lib.hid (show FSl wA A n rs by rw [← hwA]; exact FSl.drewN HFs.out _)
  have HBa := Lib.hid (show Below w.heap.size w wA by rw [← hwA]; exact below_drewN HBl.out _)
  have hszA := HBa.out.size
  have HN0 := Lib.hid (FOwn.nil 33 w.heap.size wA)
  clear hwA HSq HFs HH1
  go_wp2_with fail
  go_loopw [11, 12, 39] (fun sp vt i wr => ∃ (k s : Nat) (ts : List Nat), k ≤ n ∧ i = .int .i64 k ∧ sp = .float .f32 s ∧ Hid (ts.length = k) ∧ Hid (FOwn 33 w.heap.size wr vt ts) ∧ Hid (cnl ts = oqP zs (n : Int) k) ∧ Hid (cn .f32 s = oqS zs (n : Int) k) ∧ Hid (Below wA.heap.size wA wr)) (fun _ _ i _ => n - (intOf i).toNat)
  case atStart => exact ⟨0, s0, [], Nat.zero_le _, rfl, rfl, Lib.hid rfl, HN0, Lib.hid rfl, HS0, Lib.hid (Below.refl _ _)⟩
  case round =>
    rename World => wr
    obtain ⟨k, s, ts, hk, rfl, rfl, htl, hto, htc, hsc, hbw⟩ := hrel
    by_cases hkn : k < n
    · have HKn := Lib.hid hkn
      have HFr := Lib.hid (FSl.below HFa.out hbw.out)
      obtain ⟨b, off, rfl, _, hcs⟩ := HFr.out.at (show 0 < n by omega)
      have hck := hcs k hkn
      have HX := Lib.hid (show cn .f32 (rs.getD k 0) = oqX zs (n : Int) k by unfold oqX; rw [← HC.out, cnl_at (by rw [HRl.out]; exact hkn)])
      generalize rs.getD k 0 = x at *
      obtain ⟨At, ct, rfl, hst⟩ := own2_sl hto.out
      have HSt := Lib.hid hst
      have hswr := (HBa.out.trans (hbw.out.mono hszA)).size
      clear hcs hst
      go_wp2_with fail
      refine (next_any _ _ _ ts x _ HSt.out (by have := htl.out; omega)).mono ?_
      rintro e w4 ⟨v4, ys, rfl, ho4, hc4, hb4⟩
      have HO4 := Lib.hid (ho4.mono hswr)
      have HC4 := Lib.hid (show cnl ys = oqP zs (n : Int) (k + 1) by rw [hc4, oqP_succ, ← htc.out, plN_cnl]; exact plN_word (by rw [← HX.out, cn_cn]))
      have HL4 := Lib.hid (show ys.length = k + 1 by have := congrArg List.length hc4; rw [cnl_len, plN_len] at this; rw [this, htl.out])
      have HB4 := Lib.hid (hbw.out.trans (hb4.mono hbw.out.size))
      clear ho4 hc4 hb4 hck
      go_upto_region 14 with fail
      generalize hS : fopR .mul .f32 s (fopR .sub .f32 1065353216 (fopR .mul .f32 x x _) _) _ = s2
      have HS2 := Lib.hid (show cn .f32 s2 = oqS zs (n : Int) (k + 1) by rw [← hS]; exact oq_step hsc.out HX.out _ _ _)
      clear hS
      generalize hwB : World.drewN w4 (_ + _ + _) = wB
      have HO5 := Lib.hid (show FOwn 33 w.heap.size wB v4 ys by rw [← hwB]; exact FOwn.drewN HO4.out _)
      have HB5 := Lib.hid (show Below wA.heap.size wA wB by rw [← hwB]; exact below_drewN HB4.out _)
      clear hwB HO4 HB4
      go_wp2_with fail
      go_roundw
      case rel => exact ⟨k + 1, s2, ys, HKn.out, by go_num, rfl, HL4, HO5, HC4, HS2, HB5⟩
      case measure => simp [intOf]; omega
    · obtain rfl : n = k := by omega
      obtain ⟨At, ct, rfl, hst⟩ := own2_sl hto.out
      have HSt := Lib.hid hst
      have htl9 : ts.length ≤ 1048576 := by have := htl.out; omega
      have HBw := Lib.hid (HBa.out.trans (hbw.out.mono hszA))
      have HFt := Lib.hid (show fins ts = fins (oqP zs (n : Int) n) by rw [← fins_cnl, htc.out])
      have HFs := Lib.hid (show fin .f32 s = fin .f32 (oqS zs (n : Int) n) by rw [← hsc.out]; exact (fin_congr (cn_cn ..)).symm)
      clear hst
      go_wp2_with fail
      refine (imFins_any _ _ _ _ _ HSt.out htl9).mono ?_
      rw [HFt.out]
      rintro e w6 ⟨q6, rfl, rfl⟩
      cases hf1 : fins (oqP zs (n : Int) n)
      · have HB := Lib.hid (oq_bad (show oqOk zs (n : Int) = false by unfold oqOk oqF; rw [Int.toNat_natCast, hf1]; simp))
        clear hf1
        go_wp2_with fail
        go_ret3
        exact fail_l1f1 _ HB.out.1 HB.out.2.1 HB.out.2.2 (below_drewN HBw.out _)
      · go_wp2_with fail
        refine (isFinite_any _ _).mono ?_
        rw [HFs.out]
        rintro e w7 ⟨q7, rfl, rfl⟩
        cases hf2 : fin .f32 (oqS zs (n : Int) n)
        · have HB := Lib.hid (oq_bad (show oqOk zs (n : Int) = false by unfold oqOk oqF; rw [Int.toNat_natCast, hf2]; simp))
          clear hf1 hf2
          go_wp2_with fail
          go_ret3
          exact fail_l1f1 _ HB.out.1 HB.out.2.1 HB.out.2.2 (by first | exact below_drewN HBw.out _ | exact below_drewN (below_drewN HBw.out _) _)
        · have hok : oqOk zs (n : Int) = true := by unfold oqOk oqF; rw [HOp.out, Int.toNat_natCast, hf1, hf2]; rfl
          have HG := Lib.hid (oq_good hok)
          have HK := Lib.hid hok
          clear hf1 hf2 hok
          go_wp2_with fail
          go_ret3
          exact ⟨_, ts, s, by rw [HK.out]; rfl, by first | exact FOwn.drewN hto.out _ | exact FOwn.drewN (FOwn.drewN hto.out _) _, htc.out.trans HG.out.1.symm, hsc.out.trans HG.out.2.symm, by first | exact below_drewN HBw.out _ | exact below_drewN (below_drewN HBw.out _) _⟩
end Go.Proofs.Ytopgegciejmhaaa

/-
  OwnPast of the model.
-/
namespace Go.Proofs.Ytopgegciejmhaaa
open Ieee Go.RowKit
set_option linter.unusedVariables false
set_option linter.unusedSimpArgs false
def oqR15 (g m ct ii j ti tj x nl cn' : Nat) (An : Option Addr) : Nat → Value → World → Prop
  | 0, v, w => v = (.slice An nl cn')
  | 1, v, w => v = (.slice (some ⟨g, 0, none⟩) m ct)
  | 2, v, w => v = (.int .i64 ii)
  | 3, v, w => v = (.pointer (some ⟨g, ii, none⟩))
  | 4, v, w => v = (.float .f32 ti)
  | 5, v, w => v = (.float .f32 x)
  | 6, v, w => v = (.slice (some ⟨g, 0, none⟩) m ct)
  | 7, v, w => v = (.int .i64 m)
  | 8, v, w => v = (.int .i64 ((m : Int) - 1))
  | 9, v, w => v = (.int .i64 ii)
  | 10, v, w => v = (.int .i64 j)
  | 11, v, w => v = (.pointer (some ⟨g, j, none⟩))
  | 12, v, w => v = (.float .f32 tj)
  | 13, v, w => ∃ r, v = .float .f32 r ∧ cn .f32 r = (aop .mul .f32 (cn .f32 x) (cn .f32 tj))
  | 14, v, w => ∃ r, v = .float .f32 r ∧ cn .f32 r = (aop .sub .f32 (cn .f32 ti) (aop .mul .f32 (cn .f32 x) (cn .f32 tj)))
  | 15, v, w => ∃ g r, v = .slice (some ⟨g, 0, none⟩) 1 1 ∧ g < w.heap.size ∧ w.cell? ⟨g, 0, none⟩ = some (.float .f32 r) ∧ cn .f32 r = (aop .sub .f32 (cn .f32 ti) (aop .mul .f32 (cn .f32 x) (cn .f32 tj)))
  | _, _, _ => True
theorem oqR15_mono (g m ct ii j ti tj x nl cn' : Nat) (An : Option Addr) : ∀ i v w w', oqR15 g m ct ii j ti tj x nl cn' An i v w → Below w.heap.size w w' → oqR15 g m ct ii j ti tj x nl cn' An i v w'
  := by
  intro i v w w' h hb
  unfold oqR15 at *
  split
  · exact h
  · exact h
  · exact h
  · exact h
  · exact h
  · exact h
  · exact h
  · exact h
  · exact h
  · exact h
  · exact h
  · exact h
  · exact h
  · exact h
  · exact h
  · exact (by obtain ⟨g, r, h1, h2, h3, h4⟩ := h; exact ⟨g, r, h1, Nat.lt_of_lt_of_le h2 hb.size, (hb.cell (p := ⟨g, 0, none⟩) (by exact h2)).trans h3, h4⟩)
  · trivial
/-- What l05Past gives. -/
def RetOp (T : TypeId) (zs : List Nat) (q : Int) (w : World) (e : Ending) (w' : World) : Prop :=
  ∃ v rs s ok, e = .returned (.tuple #[v, .float .f32 s, .bool ok]) ∧ ok = (plOk zs q && oqF zs q) ∧ (ok = true → FOwn T w.heap.size w' v rs ∧ cnl rs = oqP zs q q.toNat ∧ cn .f32 s = oqS zs q q.toNat) ∧ Below w.heap.size w w'
set_option maxHeartbeats 8000000 in
set_option maxRecDepth 100000 in
theorem spLp_any (a : Option Addr) (len cap : Nat) (zs : List Nat) (q : Int) (w : World) (h : FSl w a len zs) (hm : len ≤ 1048576) :
    Calls Try.prog 119 #[.slice a len cap, .int .i64 q] w (RetOp 33 zs q w) := by
  obtain ⟨i0, hi, hz0, hz1, hz2⟩ := info_parts Try.infoR
  have HH := Lib.hid h
  have HL := Lib.hid h.1
  clear h
  cases hp : plOk zs q
  · have HP := Lib.hid hp
    clear hp
    go_enter Try.func119, Try.ntmps119
    go_wp2_with fail
    refine (spPl_any _ _ _ _ q _ HH.out hm).mono ?_
    rw [HP.out]
    rintro e w1 ⟨v, rs, rfl, -, -, hb⟩
    have HBl := Lib.hid hb
    clear hb
    go_wp2_with fail
    go_ret3
    exact ⟨_, [], _, false, rfl, by rw [HP.out]; rfl, (fun h9 => by cases h9), HBl.out⟩
  have HP := Lib.hid hp
  obtain ⟨-, hq0, hq16, hser, hfm, hpl⟩ := pl_t hp
  have hl1 := (serB_t hser).1
  have hl96 := (serB_t hser).2.1
  rw [HL.out] at hl1 hl96
  obtain ⟨n, rfl⟩ : ∃ n : Nat, q = n := ⟨q.toNat, by omega⟩
  have hn16 : n ≤ 16 := by omega
  have HPl := Lib.hid (show (plR zs (n : Int)).length = n from hpl)
  have HPc := Lib.hid (pl_cnl hp)
  clear hp hq0 hq16 hser hfm hpl
  go_enter Try.func119, Try.ntmps119
  go_wp2_with fail
  refine (spPl_any _ _ _ _ (n : Int) _ HH.out hm).mono ?_
  rw [HP.out]
  rintro e w1 ⟨v, rs, rfl, ho, hc, hb⟩
  have hrl : rs.length = n := by have := congrArg List.length hc; rw [cnl_len] at this; rw [this, HPl.out]
  obtain ⟨A, cp, rfl, hfs⟩ := own2_sl ho
  have HFs := Lib.hid (show FSl w1 A n rs by rw [← hrl]; exact hfs)
  have HBl := Lib.hid hb
  have HC := Lib.hid hc
  have HRl := Lib.hid hrl
  rw [hrl]
  clear ho hc hb hfs hrl
  have HH1 := Lib.hid (FSl.below HH.out HBl.out)
  go_wp2_with fail
  refine (l03Off_any _ _ _ _ _ HH1.out hm).mono ?_
  rintro e w2 ⟨vo, os, rfl, hoo, hco, hbo⟩
  have hol : os.length = len := by have := congrArg List.length hco; rw [cnl_len, offL_len] at this; rw [this, HL.out]
  obtain ⟨Ao, co, rfl, hfo⟩ := own2_sl hoo
  have HFo := Lib.hid (show FSl w2 Ao len os by rw [← hol]; exact hfo)
  have HOl := Lib.hid hol
  have HCo := Lib.hid hco
  have HB2 := Lib.hid (HBl.out.trans (hbo.mono HBl.out.size))
  have HF2 := Lib.hid (FSl.below HFs.out hbo)
  rw [hol]
  clear hoo hco hbo hfo hol
  go_wp2_with fail
  refine (specDel_any _ _ len _ _ os os 0 0 0 _ HFo.out HFo.out hl96 (.inl rfl) (Nat.zero_le _) (Nat.zero_le _) rfl).mono ?_
  rintro e w3 ⟨sq, qs, hsq, rfl, rfl⟩
  have HSq := Lib.hid (show cn .f32 sq = slfW zs by
    rw [hsq, Nat.sub_zero, Nat.sub_zero]
    unfold slfW
    rw [HL.out]
    exact dly_congr (by rw [HCo.out, cnl_off]) (by rw [HCo.out, cnl_off]) (by rw [HOl.out]; omega) (by rw [HOl.out]; omega))
  clear hsq
  go_upto_region 6 with fail
  generalize hS0 : fopR .quo .f32 sq _ _ = s0
  have HS0 := Lib.hid (show cn .f32 s0 = oqS zs (n : Int) 0 by rw [← hS0, cn_fopR, HSq.out, ← HL.out]; rfl)
  clear hS0
  generalize hwA : World.drewN w2 _ = wA
  have HFa := Lib.hid (show FSl wA A n rs by rw [← hwA]; exact FSl.drewN HF2.out _)
  have HBa := Lib.hid (show Below w.heap.size w wA by rw [← hwA]; exact below_drewN HB2.out _)
  have hszA := HBa.out.size
  have HN0 := Lib.hid (FOwn.made (T := 33) (B := wA.heap.size) wA (Nat.le_refl _))
  have HBb := Lib.hid ((Below.refl wA.heap.size wA).alloc (Nat.le_refl _) (.cells #[] 33))
  clear hwA HSq HFs HH1 HF2 HFo
  go_wp2_with fail
  go_loopw [10, 11, 36] (fun sp vt i wr => ∃ (k s : Nat) (ts : List Nat), k ≤ n ∧ i = .int .i64 k ∧ sp = .float .f32 s ∧ Hid (ts.length = k) ∧ Hid (FOwn 33 wA.heap.size wr vt ts) ∧ Hid (cnl ts = oqP zs (n : Int) k) ∧ Hid (cn .f32 s = oqS zs (n : Int) k) ∧ Hid (Below wA.heap.size wA wr)) (fun _ _ i _ => n - (intOf i).toNat)
  case atStart => exact ⟨0, s0, [], Nat.zero_le _, rfl, rfl, Lib.hid rfl, HN0, Lib.hid rfl, HS0, HBb⟩
  case round =>
    rename World => wr
    obtain ⟨k, s, ts, hk, rfl, rfl, htl, hto, htc, hsc, hbw⟩ := hrel
    by_cases hkn : k < n
    · have HKn := Lib.hid hkn
      have HFr := Lib.hid (FSl.below HFa.out hbw.out)
      obtain ⟨b, off, rfl, _, hcs⟩ := HFr.out.at (show 0 < n by omega)
      have hck := hcs k hkn
      have HX := Lib.hid (show cn .f32 (rs.getD k 0) = oqX zs (n : Int) k by unfold oqX; rw [← HC.out, cnl_at (by rw [HRl.out]; exact hkn)])
      generalize rs.getD k 0 = x at *
      have hq0 : (0 : Int) ≤ (k : Int) := by omega
      have hq1 : (k : Int) < (n : Int) := by omega
      obtain ⟨At, ct, rfl, -⟩ := own2_sl hto.out
      obtain ⟨m, hmm⟩ : ∃ m, ts.length = m := ⟨_, rfl⟩
      have HMt := Lib.hid hmm
      have hmk : m = k := by rw [← hmm]; exact htl.out
      rw [hmm] at hto ⊢
      subst hmk
      have hswr : wA.heap.size ≤ wr.heap.size := hbw.out.size
      have HN1 := Lib.hid (show Own2 33 wA.heap.size (wr.alloc (.cells #[] 33)) (.slice (some ⟨wr.heap.size, 0, none⟩) 0 0) [] (.slice At m ct) ts from
        ⟨(FOwn.made (T := 33) (B := wA.heap.size) wr hswr), owp_keep hto.out ((Below.refl _ _).alloc (Nat.le_refl _) _), (oapt_new hto.out (FOwn.made (T := 33) (B := wr.heap.size) wr (Nat.le_refl _)) (Nat.le_refl _)).symm⟩)
      have HNB := Lib.hid (hbw.out.alloc hswr (.cells #[] 33))
      clear hcs hmm
      go_wp2_with fail
      go_loopw [14, 46] (fun vn i wx => ∃ (ii : Nat) (ns : List Nat), ii ≤ m ∧ i = .int .i64 ii ∧ Hid (ns.length = ii) ∧ Hid (cnl ns = tells (plNi ts x) ii) ∧ Hid (Own2 33 wA.heap.size wx vn ns (.slice At m ct) ts) ∧ Hid (Below wA.heap.size wA wx)) (fun _ i _ => m - (intOf i).toNat)
      case atStart => exact ⟨0, [], Nat.zero_le _, rfl, Lib.hid rfl, Lib.hid rfl, HN1, HNB⟩
      case round =>
        rename World => wx
        obtain ⟨ii, ns, hii, rfl, hnl, hnc, hno, hnb⟩ := hrel
        by_cases hlti : ii < m
        · obtain ⟨g, cg, eg, hg1, hg2⟩ := owp_blk hno.out.b HMt.out (show 0 < m by omega)
          injection eg with e1 e2 e3
          subst e1 e3
          clear e2
          obtain ⟨An, cn', rfl, -⟩ := own2_sl hno.out.a
          have HMb := Lib.hid (show m ≤ 16 by omega)
          have HIii := Lib.hid hlti
          obtain ⟨j, hj⟩ : ∃ j : Nat, m - 1 - ii = j := ⟨_, rfl⟩
          have HJ := Lib.hid (show (j : Int) = (m : Int) - 1 - (ii : Int) by omega)
          have HIj := Lib.hid (show j < m by omega)
          have hx : g < wx.heap.size ∧ wx.cell? ⟨g, ii, none⟩ = some (.float .f32 (ts.getD ii 0)) := ⟨hg2, (owp_cell hno.out.b HMt.out hlti).1⟩
          have hy : g < wx.heap.size ∧ wx.cell? ⟨g, j, none⟩ = some (.float .f32 (ts.getD j 0)) := ⟨hg2, (owp_cell hno.out.b HMt.out HIj.out).1⟩
          have HT := Lib.hid (show aop .sub .f32 (cn .f32 (ts.getD ii 0)) (aop .mul .f32 (cn .f32 x) (cn .f32 (ts.getD j 0))) = plNi ts x ii by unfold plNi; rw [HMt.out, hj])
          generalize ts.getD ii 0 = ti at *
          generalize ts.getD j 0 = tj at *
          have HNo := Lib.hid hno.out
          have HNb := Lib.hid hnb.out
          clear hii hj hno hnb
          go_upto_region 15 with fail
          refine wp_region_MT (m := 16) (oqR15 g m ct ii j ti tj x ns.length cn' An) (by kernel_rfl) (oqR15_mono g m ct ii j ti tj x ns.length cn' An) (by kernel_rfl) (by kernel_rfl) ?_ ?_
          · refine ⟨?_, ?_, ?_, ?_, ?_, ?_, ?_, ?_, ?_, ?_, ?_, ?_, ?_, ?_, ?_, ?_, trivial⟩
            · refine opT_do rfl (fun a_ w' hS hf K hK => ?_)
              have s14 : a_.tmps.getD 14 undef = (.slice An ns.length cn') := (hS.rest 14 (by kernel_rfl)).trans rfl
              go_simp
              exact hK _ _ (Below.refl _ _) rfl
            · refine opT_do rfl (fun a_ w' hS hf K hK => ?_)
              have s11 : a_.tmps.getD 11 undef = (.slice (some ⟨g, 0, none⟩) m ct) := (hS.rest 11 (by kernel_rfl)).trans rfl
              go_simp
              exact hK _ _ (Below.refl _ _) rfl
            · refine opT_do rfl (fun a_ w' hS hf K hK => ?_)
              have s15 : a_.tmps.getD 15 undef = (.int .i64 ii) := (hS.rest 15 (by kernel_rfl)).trans rfl
              go_simp
              exact hK _ _ (Below.refl _ _) rfl
            · refine opT_do rfl (fun a_ w' hS hf K hK => ?_)
              have s50 : a_.tmps.getD 50 undef = (.slice (some ⟨g, 0, none⟩) m ct) := hf 1 (by kernel_rfl) _ 50 rfl rfl
              have s51 : a_.tmps.getD 51 undef = (.int .i64 ii) := hf 2 (by kernel_rfl) _ 51 rfl rfl
              have hi0 : (0 : Int) ≤ (ii : Int) := by omega
              have hi1 : (ii : Int) < (m : Int) := by have := HIii.out; omega
              go_simp
              exact hK _ _ (Below.refl _ _) rfl
            · refine opT_do rfl (fun a_ w' hS hf K hK => ?_)
              have s52 : a_.tmps.getD 52 undef = (.pointer (some ⟨g, ii, none⟩)) := hf 3 (by kernel_rfl) _ 52 rfl rfl
              have kk := (hS.below.cell (p := ⟨g, ii, none⟩) (by exact hx.1)).trans hx.2
              go_simp
              exact hK _ _ (Below.refl _ _) rfl
            · refine opT_do rfl (fun a_ w' hS hf K hK => ?_)
              have s13 : a_.tmps.getD 13 undef = (.float .f32 x) := (hS.rest 13 (by kernel_rfl)).trans rfl
              go_simp
              exact hK _ _ (Below.refl _ _) rfl
            · refine opT_do rfl (fun a_ w' hS hf K hK => ?_)
              have s11 : a_.tmps.getD 11 undef = (.slice (some ⟨g, 0, none⟩) m ct) := (hS.rest 11 (by kernel_rfl)).trans rfl
              go_simp
              exact hK _ _ (Below.refl _ _) rfl
            · refine opT_do rfl (fun a_ w' hS hf K hK => ?_)
              have s12 : a_.tmps.getD 12 undef = (.int .i64 m) := (hS.rest 12 (by kernel_rfl)).trans rfl
              go_simp
              exact hK _ _ (Below.refl _ _) rfl
            · refine opT_do rfl (fun a_ w' hS hf K hK => ?_)
              have s56 : a_.tmps.getD 56 undef = (.int .i64 m) := hf 7 (by kernel_rfl) _ 56 rfl rfl
              have hw : IntKind.i64.wrap ((m : Int) - 1) = (m : Int) - 1 := by have := HMb.out; rw [IntKind.wrap_i64]; omega
              go_simp
              exact hK _ _ (Below.refl _ _) rfl
            · refine opT_do rfl (fun a_ w' hS hf K hK => ?_)
              have s15 : a_.tmps.getD 15 undef = (.int .i64 ii) := (hS.rest 15 (by kernel_rfl)).trans rfl
              go_simp
              exact hK _ _ (Below.refl _ _) rfl
            · refine opT_do rfl (fun a_ w' hS hf K hK => ?_)
              have s57 : a_.tmps.getD 57 undef = (.int .i64 ((m : Int) - 1)) := hf 8 (by kernel_rfl) _ 57 rfl rfl
              have s58 : a_.tmps.getD 58 undef = (.int .i64 ii) := hf 9 (by kernel_rfl) _ 58 rfl rfl
              have hw : IntKind.i64.wrap ((m : Int) - 1 - (ii : Int)) = (j : Int) := by have := HJ.out; have := HIj.out; have := HMb.out; rw [IntKind.wrap_i64]; omega
              go_simp
              exact hK _ _ (Below.refl _ _) rfl
            · refine opT_do rfl (fun a_ w' hS hf K hK => ?_)
              have s55 : a_.tmps.getD 55 undef = (.slice (some ⟨g, 0, none⟩) m ct) := hf 6 (by kernel_rfl) _ 55 rfl rfl
              have s59 : a_.tmps.getD 59 undef = (.int .i64 j) := hf 10 (by kernel_rfl) _ 59 rfl rfl
              have hi0 : (0 : Int) ≤ (j : Int) := by omega
              have hi1 : (j : Int) < (m : Int) := by have := HIj.out; omega
              go_simp
              exact hK _ _ (Below.refl _ _) rfl
            · refine opT_do rfl (fun a_ w' hS hf K hK => ?_)
              have s60 : a_.tmps.getD 60 undef = (.pointer (some ⟨g, j, none⟩)) := hf 11 (by kernel_rfl) _ 60 rfl rfl
              have kk := (hS.below.cell (p := ⟨g, j, none⟩) (by exact hy.1)).trans hy.2
              go_simp
              exact hK _ _ (Below.refl _ _) rfl
            · refine opT_do rfl (fun a_ w' hS hf K hK => ?_)
              have s54 : a_.tmps.getD 54 undef = (.float .f32 x) := hf 5 (by kernel_rfl) _ 54 rfl rfl
              have s61 : a_.tmps.getD 61 undef = (.float .f32 tj) := hf 12 (by kernel_rfl) _ 61 rfl rfl
              go_simp
              exact hK _ _ (by first | exact Below.refl _ _ | exact below_drewN (Below.refl _ _) _) ⟨_, rfl, by first | (rw [cn_fopR]; done) | rw [cn_fopR, cn_one32] | rw [cn_fopR, List.getD_eq_getElem?_getD]⟩
            · refine opT_do rfl (fun a_ w' hS hf K hK => ?_)
              have s53 : a_.tmps.getD 53 undef = (.float .f32 ti) := hf 4 (by kernel_rfl) _ 53 rfl rfl
              obtain ⟨r62, s62, e62⟩ := (show ∃ r, a_.tmps.getD 62 undef = .float .f32 r ∧ cn .f32 r = (aop .mul .f32 (cn .f32 x) (cn .f32 tj)) from hf 13 (by kernel_rfl) _ 62 rfl rfl)
              go_simp
              exact hK _ _ (by first | exact Below.refl _ _ | exact below_drewN (Below.refl _ _) _) ⟨_, rfl, by first | (rw [cn_fopR, e62]; done) | rw [cn_fopR, e62, cn_one32] | rw [cn_fopR, e62, List.getD_eq_getElem?_getD]⟩
            · refine opT_do rfl (fun a_ w' hS hf K hK => ?_)
              obtain ⟨r63, s63, e63⟩ := (show ∃ r, a_.tmps.getD 63 undef = .float .f32 r ∧ cn .f32 r = (aop .sub .f32 (cn .f32 ti) (aop .mul .f32 (cn .f32 x) (cn .f32 tj))) from hf 14 (by kernel_rfl) _ 63 rfl rfl)
              have q63 : a_.tmps[63]?.getD undef = .float .f32 r63 := by rw [← Array.getD_eq_getD_getElem?]; exact s63
              go_simp
              exact hK _ _ ((Below.refl _ _).alloc (Nat.le_refl _) _) ⟨w'.heap.size, r63, rfl, by simp, by rw [World.cell?_alloc_at _ _ _ _ rfl]; rfl, e63⟩
          intro vs a_ wV hbV hv haV
          have e0 : vs 0 = (.slice An ns.length cn') := hv 0 (by omega) (by kernel_rfl)
          obtain ⟨gg, rr, e15, hgl, hgc, hrr⟩ := (show ∃ g r, (vs 15) = .slice (some ⟨g, 0, none⟩) 1 1 ∧ g < wV.heap.size ∧ wV.cell? ⟨g, 0, none⟩ = some (.float .f32 r) ∧ cn .f32 r = (aop .sub .f32 (cn .f32 ti) (aop .mul .f32 (cn .f32 x) (cn .f32 tj))) from hv 15 (by omega) (by kernel_rfl))
          subst haV
          simp only [putsL, List.take_succ_cons, List.take_zero, List.drop_succ_cons, List.drop_zero, List.setIfInBounds_toArray, List.set_cons_succ, List.set_cons_zero, Nat.reduceAdd, Nat.zero_add]
          rw [e0, e15]
          clear hv e0 e15
          have hb9 : Below wx.heap.size wx wV := (below_drewN (Below.refl wx.heap.size wx) 1).trans hbV
          have HR := Lib.hid (show cn .f32 rr = plNi ts x ii by rw [hrr, HT.out])
          have HO9 := Lib.hid (HNo.out.keep hb9)
          have HB9 := Lib.hid (HNb.out.trans (hb9.mono HNb.out.size))
          have hs9 : wA.heap.size ≤ wV.heap.size := HB9.out.size
          have HG9 := Lib.hid (owp_one hgc)
          have HN16 := Lib.hid (show ns.length ≤ 16 by have := hnl.out; have := HMb.out; have := HIii.out; omega)
          clear hb9 hbV hrr hx hy
          go_wp2_with (at_builtin; refine wpList_append_own_at _ rfl _ _ 22 rfl wA.heap.size 33 i0 (.float .f32 0) 1 4 Try.underlying22 hi hz0 hz1 hz2 rfl (by decide) _ _ _ rfl HO9.out.a ⟨gg, 0, none⟩ 1 1 [.float .f32 rr] rfl rfl HG9.out ?c2 ?c3 ?c4 ?c5 ?_)
          case c2 => first | rfl | (intro u hu; simp at hu; subst hu; rfl)
          case c3 => have := HN16.out; unfold maxLen; omega
          case c4 => have := HN16.out; omega
          case c5 => first | omega | (simp; omega)
          intro v2 w2' hown hgrow _ hat
          have HA2 := Lib.hid (HO9.out.push (Below.refl _ _) hown hgrow (Nat.le_refl _) hat)
          have HB2' := Lib.hid (HB9.out.grown hgrow hs9 (fun j e => (HO9.out.a.lt j e).1))
          have HC2 := Lib.hid ((cnl_snoc hnc.out HR.out).trans (tells_succ (plNi ts x) ii).symm)
          clear hown hgrow hat
          go_wp2_with fail
          go_roundw
          case rel => exact ⟨ii + 1, ns ++ [rr], HIii.out, by go_num, Lib.hid (by rw [List.length_append, hnl.out]; rfl), HC2, HA2, HB2'⟩
          case measure => have := HIii.out; simp [intOf] <;> omega
        · obtain rfl : m = ii := by omega
          have HNo := Lib.hid hno.out
          have HNb := Lib.hid hnb.out
          have hs9 : wA.heap.size ≤ wx.heap.size := HNb.out.size
          have HN16 := Lib.hid (show ns.length ≤ 16 by have := hnl.out; omega)
          have HPn := Lib.hid (show cnl (ns ++ [x]) = oqP zs (n : Int) (m + 1) by
            rw [oqP_succ, ← htc.out, plN_cnl, plN_word (show cn .f32 (oqX zs (n : Int) m) = cn .f32 x by rw [← HX.out, cn_cn])]
            unfold plN
            rw [HMt.out]
            exact cnl_snoc hnc.out rfl)
          clear hno hnb
          go_wp2_with (at_builtin; refine wpList_append_own_at _ rfl _ _ 22 rfl wA.heap.size 33 i0 (.float .f32 0) 1 4 Try.underlying22 hi hz0 hz1 hz2 rfl (by decide) _ _ _ rfl (World.ownsRow.alloc HNo.out.a _) ⟨wx.heap.size, 0, none⟩ 1 1 [_] rfl rfl (one_new rfl) ?c2 ?c3 ?c4 ?c5 ?_)
          case c2 => first | rfl | (intro u hu; simp at hu; subst hu; rfl)
          case c3 => have := HN16.out; unfold maxLen; omega
          case c4 => have := HN16.out; omega
          case c5 => first | omega | (simp; omega)
          intro v2 w4 hown hgrow _ hat
          have HA2 := Lib.hid (HNo.out.push (H := wx.heap.size + 1) ((Below.refl wx.heap.size wx).alloc (Nat.le_refl _) _) hown hgrow (by omega) (by simpa using hat)).a
          have HB4 := Lib.hid ((HNb.out.alloc hs9 _).grown hgrow (by simp; omega) (fun j e => (HNo.out.a.lt j e).1))
          clear hown hgrow hat
          go_upto_region 19 with fail
          generalize hS : fopR .mul .f32 s (fopR .sub .f32 1065353216 (fopR .mul .f32 x x _) _) _ = s2
          have HS2 := Lib.hid (show cn .f32 s2 = oqS zs (n : Int) (m + 1) by rw [← hS]; exact oq_step hsc.out HX.out _ _ _)
          clear hS
          generalize hwB : World.drewN w4 (_ + _ + _) = wB
          have HO5 := Lib.hid (show FOwn 33 wA.heap.size wB v2 (ns ++ [x]) by rw [← hwB]; exact FOwn.drewN HA2.out _)
          have HB5 := Lib.hid (show Below wA.heap.size wA wB by rw [← hwB]; exact below_drewN HB4.out _)
          clear hwB
          go_wp2_with fail
          go_roundw
          case rel => exact ⟨m + 1, s2, ns ++ [x], HKn.out, by go_num, rfl, Lib.hid (by rw [List.length_append, hnl.out]; rfl), HO5, HPn, HS2, HB5⟩
          case measure => have := HKn.out; simp [intOf] <;> omega
    · obtain rfl : n = k := by omega
      obtain ⟨At, ct, rfl, hst⟩ := own2_sl hto.out
      have HSt := Lib.hid hst
      have htl9 : ts.length ≤ 1048576 := by have := htl.out; omega
      have HBw := Lib.hid (HBa.out.trans (hbw.out.mono hszA))
      have HFt := Lib.hid (show fins ts = fins (oqP zs (n : Int) n) by rw [← fins_cnl, htc.out])
      have HFs := Lib.hid (show fin .f32 s = fin .f32 (oqS zs (n : Int) n) by rw [← hsc.out]; exact (fin_congr (cn_cn ..)).symm)
      have HOt := Lib.hid (hto.out.mono hszA)
      clear hst hto
      go_wp2_with fail
      refine (specFinite_any _ _ _ _ _ HSt.out htl9).mono ?_
      rw [HFt.out]
      rintro e w6 ⟨q6, rfl, rfl⟩
      cases hf1 : fins (oqP zs (n : Int) n)
      · have HF := Lib.hid (show (plOk zs (n : Int) && oqF zs (n : Int)) = false by unfold oqF; rw [Int.toNat_natCast, hf1]; simp)
        clear hf1
        go_wp2_with fail
        go_ret3
        exact ⟨_, ts, s, false, rfl, HF.out.symm, (fun h9 => by cases h9), below_drewN HBw.out _⟩
      · go_wp2_with fail
        refine (l01Finite_any _ _).mono ?_
        rw [HFs.out]
        rintro e w7 ⟨q7, rfl, rfl⟩
        have HF := Lib.hid (show (plOk zs (n : Int) && oqF zs (n : Int)) = fin .f32 (oqS zs (n : Int) n) by unfold oqF; rw [HP.out, Int.toNat_natCast, hf1]; rfl)
        clear hf1
        go_wp2_with fail
        go_ret3
        exact ⟨_, ts, s, _, rfl, HF.out.symm, fun _ => ⟨by first | exact FOwn.drewN HOt.out _ | exact FOwn.drewN (FOwn.drewN HOt.out _) _, htc.out, hsc.out⟩, by first | exact below_drewN HBw.out _ | exact below_drewN (below_drewN HBw.out _) _⟩
set_option maxHeartbeats 4000000 in
set_option maxRecDepth 100000 in
theorem spOp_any (a : Option Addr) (len cap : Nat) (zs : List Nat) (q : Int) (w : World) (h : FSl w a len zs) (hm : len ≤ 1048576) :
    Calls Try.prog 48 #[.slice a len cap, .int .i64 q] w (RetL1F1 33 (oqR zs q) (oqV zs q) (oqOk zs q) w) := by
  have HH := Lib.hid h
  clear h
  cases hs : serB zs
  · have HS := Lib.hid hs
    have HB := Lib.hid (oq_badP (show plOk zs q = false by
      cases hp : plOk zs q
      · rfl
      · have := (pl_t hp).2.2.2.1; rw [hs] at this; cases this))
    clear hs
    go_enter Try.func48, Try.ntmps48
    go_wp2_with fail
    refine (specSeries_any _ _ _ _ _ HH.out hm).mono ?_
    rw [HS.out]
    rintro e w1 ⟨q1, rfl, rfl⟩
    go_wp2_with fail
    go_ret3
    exact fail_l1f1 _ HB.out.1 HB.out.2.1 HB.out.2.2 (below_drewN (Below.refl _ _) _)
  have HS := Lib.hid hs
  by_cases hq : 0 ≤ q ∧ q ≤ 6
  rotate_left
  · have HB := Lib.hid (show oqOk zs q = false ∧ oqR zs q = [] ∧ oqV zs q = 0 by
      by_cases hq6 : q ≤ 6
      · refine oq_badP ?_
        cases hp : plOk zs q
        · rfl
        · have := (pl_t hp).2.1; omega
      · exact oq_badQ hq6)
    clear hs
    go_enter Try.func48, Try.ntmps48
    go_wp2_with fail
    refine (specSeries_any _ _ _ _ _ HH.out hm).mono ?_
    rw [HS.out]
    rintro e w1 ⟨q1, rfl, rfl⟩
    go_wp2_with fail
    refine (in_no _ _ _ _ (by omega)).mono ?_
    rintro e w2 ⟨rfl, rfl⟩
    go_wp2_with fail
    go_ret3
    exact fail_l1f1 _ HB.out.1 HB.out.2.1 HB.out.2.2 (below_drewN (Below.refl _ _) _)
  have HQ := Lib.hid (show oqOk zs q = (plOk zs q && oqF zs q) by unfold oqOk oqB; rw [decide_eq_true hq.2, Bool.and_true])
  have hqa := hq.1
  have hqb := hq.2
  clear hs hq
  go_enter Try.func48, Try.ntmps48
  go_wp2_with fail
  refine (specSeries_any _ _ _ _ _ HH.out hm).mono ?_
  rw [HS.out]
  rintro e w1 ⟨q1, rfl, rfl⟩
  go_wp2_with fail
  refine (in_yes _ _ _ _ hqa hqb).mono ?_
  rintro e w2 ⟨rfl, rfl⟩
  go_wp2_with fail
  refine (spLp_any _ _ _ _ q _ (FSl.drewN HH.out _) hm).mono ?_
  rintro e w3 ⟨v, rs, s, ok, rfl, hok, hval, hb⟩
  cases ok
  · have HB := Lib.hid (oq_bad (show oqOk zs q = false by rw [HQ.out]; exact hok.symm))
    have HBl := Lib.hid ((below_drewN (Below.refl w.heap.size w) q1).trans hb)
    clear hok hval hb
    go_wp2_with fail
    go_ret3
    exact fail_l1f1 _ HB.out.1 HB.out.2.1 HB.out.2.2 HBl.out
  · obtain ⟨h1, h2, h3⟩ := hval rfl
    have hok2 : oqOk zs q = true := by rw [HQ.out]; exact hok.symm
    have HG := Lib.hid (oq_good hok2)
    have HK := Lib.hid hok2
    have HO := Lib.hid (show FOwn 33 w.heap.size w3 v rs from h1)
    have H2 := Lib.hid h2
    have H3 := Lib.hid h3
    have HBl := Lib.hid ((below_drewN (Below.refl w.heap.size w) q1).trans hb)
    clear hok hval hb h1 h2 h3 hok2
    go_wp2_with fail
    go_ret3
    exact ⟨_, rs, s, by rw [HK.out]; rfl, HO.out, H2.out.trans HG.out.1.symm, H3.out.trans HG.out.2.symm, HBl.out⟩
end Go.Proofs.Ytopgegciejmhaaa

