/-
  SelfLikes, in both packages.
-/
import Derived.Test.YtopgegciejmhaaaCLsm
import Derived.Test.YtopgegciejmhaaaCLgs2
namespace Go.Proofs.Ytopgegciejmhaaa
open Ieee Go.RowKit
set_option linter.unusedVariables false

theorem specGiven_any (T : TypeId) (a : Option Addr) (cap : Nat) (rs xs : List Nat) (v : Value) (w0 w : World) (hv : v = .slice a rs.length cap) (h : FSl w a rs.length rs) (hx : cnl rs = xs) (hm : rs.length ≤ 1048576)
    (ho : FOwn T w0.heap.size w v rs) (hb : Below w0.heap.size w0 w) :
    Calls Try.prog 102 #[.slice a rs.length cap] w (RetOB T (lstR xs) (fins xs) w0) := by
  have HF := Lib.hid (show fins rs = fins xs by rw [← hx, fins_cnl])
  have HS := Lib.hid h
  have HO := Lib.hid ho
  have HV := Lib.hid hv
  have HX := Lib.hid hx
  clear h ho hv hx
  cases hf : fins xs
  · have H := Lib.hid (HF.out.trans hf)
    have HE := Lib.hid (show lstR xs = [] by unfold lstR; rw [hf]; rfl)
    clear hf
    go_enter Try.func102, Try.ntmps102
    go_wp2_with fail
    refine (specFinite_any _ _ _ _ _ HS.out hm).mono ?_
    rw [H.out]
    rintro e w' ⟨n, rfl, rfl⟩
    go_wp2
    go_ret2
    exact ⟨_, [], rfl, FOwn.nil .., HE.out.symm, below_drewN hb n⟩
  · have H := Lib.hid (HF.out.trans hf)
    have HE := Lib.hid (show lstR xs = xs by unfold lstR; rw [hf]; rfl)
    clear hf
    go_enter Try.func102, Try.ntmps102
    go_wp2_with fail
    refine (specFinite_any _ _ _ _ _ HS.out hm).mono ?_
    rw [H.out]
    rintro e w' ⟨n, rfl, rfl⟩
    go_wp2
    go_ret2
    exact ⟨_, rs, rfl, by rw [HV.out] at HO; exact HO.out, HX.out.trans HE.out.symm, below_drewN hb n⟩

/-- Lags of a series, in the program. -/
theorem implLags_any (a : Option Addr) (len cap : Nat) (zs : List Nat) (q : Int) (w : World) (h : FSl w a len zs) (hm : len ≤ 1048576) :
    Calls Try.prog 164 #[.slice a len cap, .int .i64 q] w (RetV (.bool (lagsB zs q)) w) := by
  have H := Lib.hid h
  have HL := Lib.hid h.1
  clear h
  cases hs : serB zs
  · have HB := Lib.hid (show lagsB zs q = false by unfold lagsB; rw [hs]; rfl)
    have HS := Lib.hid hs
    clear hs
    go_enter Try.func164, Try.ntmps164
    go_wp2_with (go_at_call 89; refine (implSeries_any _ _ _ _ _ H.out hm).mono ?_; rw [HS.out]; rintro e w' ⟨m, rfl, rfl⟩)
    go_ret
    exact ⟨_, congrArg (fun b => Ending.returned (Value.bool b)) HB.out.symm, rfl⟩
  · have HB := Lib.hid (show lagsB zs q = (decide (0 ≤ q) && (decide (q ≤ 16) && decide (q < (len : Int)))) by unfold lagsB; rw [hs, HL.out, Bool.true_and, Bool.decide_and, Bool.decide_and])
    have HS := Lib.hid hs
    clear hs
    by_cases h1 : 0 ≤ q
    · by_cases h2 : q ≤ 16
      · have hd1 : decide (0 ≤ q) = true := decide_eq_true h1
        have hd2 : decide (q ≤ 16) = true := decide_eq_true h2
        have HB2 := Lib.hid (show lagsB zs q = decide (q < (len : Int)) by rw [HB.out, hd1, hd2]; rfl)
        go_enter Try.func164, Try.ntmps164
        go_wp2_with (go_at_call 89; refine (implSeries_any _ _ _ _ _ H.out hm).mono ?_; rw [HS.out]; rintro e w' ⟨m, rfl, rfl⟩)
        go_ret
        exact ⟨_, congrArg (fun b => Ending.returned (Value.bool b)) HB2.out.symm, rfl⟩
      · have hd1 : decide (0 ≤ q) = true := decide_eq_true h1
        have hd2 : decide (q ≤ 16) = false := decide_eq_false h2
        have HB2 := Lib.hid (show lagsB zs q = false by rw [HB.out, hd1, hd2]; rfl)
        go_enter Try.func164, Try.ntmps164
        go_wp2_with (go_at_call 89; refine (implSeries_any _ _ _ _ _ H.out hm).mono ?_; rw [HS.out]; rintro e w' ⟨m, rfl, rfl⟩)
        go_ret
        exact ⟨_, congrArg (fun b => Ending.returned (Value.bool b)) HB2.out.symm, rfl⟩
    · have hd1 : decide (0 ≤ q) = false := decide_eq_false h1
      have HB2 := Lib.hid (show lagsB zs q = false by rw [HB.out, hd1]; rfl)
      go_enter Try.func164, Try.ntmps164
      go_wp2_with (go_at_call 89; refine (implSeries_any _ _ _ _ _ H.out hm).mono ?_; rw [HS.out]; rintro e w' ⟨m, rfl, rfl⟩)
      go_ret
      exact ⟨_, congrArg (fun b => Ending.returned (Value.bool b)) HB2.out.symm, rfl⟩

/-- What the closure of SelfLikes reads. -/
def SlfI (bl bw g n : Nat) (rs : List Nat) (y : Nat) (_k : Nat) (wr : World) : Prop :=
  BoxI bl (some ⟨g, 0, none⟩) n n rs wr ∧ ∃ x, wr.cell? ⟨bw, 0, none⟩ = some (.float .f32 x) ∧ cn .f32 x = y
theorem SlfI.keep {bl bw g n B : Nat} {rs : List Nat} {y k k' : Nat} {wr wr' : World} (h : SlfI bl bw g n rs y k wr) (h1 : bl < B) (h2 : bw < B) (hb : Below B wr wr') : SlfI bl bw g n rs y k' wr' := by
  obtain ⟨g1, x, hx, hx2⟩ := h
  exact ⟨g1.keep h1 hb, x, by rw [hb.cell (p := ⟨bw, 0, none⟩) h2]; exact hx, hx2⟩
set_option maxHeartbeats 1000000 in
theorem slf1_any (bl bw g B0 B n k : Nat) (zs rs : List Nat) (wr : World) (h : SlfI bl bw g n rs (slfW zs) k wr) (hrs : cnl rs = offL zs) (hk : k < n) (hl : rs.length = n) (hm : n ≤ 96) :
    Calls Try.prog 165 #[.int .i64 k, .pointer (some ⟨bl, 0, none⟩), .pointer (some ⟨bw, 0, none⟩)] wr (Tells (slfT zs) (SlfI bl bw g n rs (slfW zs)) B0 B k wr) := by
  have HI := Lib.hid h
  obtain ⟨h1, x, hx, hx2⟩ := h
  have hc := h1.1
  have HF := Lib.hid (h1.fsl hl)
  have hzl : zs.length = n := by have := congrArg List.length hrs; rw [cnl_len, offL_len] at this; omega
  have hW := Lib.hid (show ∀ r w', cn .f32 r = dly rs rs 0 k (n - 0 - k) → cn .f32 (fopR .quo .f32 r x w') = slfT zs k from fun r w' hr => by
    rw [cn_fopR, hr, hx2]
    unfold slfT
    rw [hzl, Nat.sub_zero, dly_congr (hrs.trans (cnl_off zs).symm) (hrs.trans (cnl_off zs).symm) (by omega) (by omega)])
  clear h1 hx2 hrs
  go_enter Try.func165, Try.ntmps165
  go_wp2_with fail
  go_region_with (go_at_call 129; refine (implDel_any g 0 g 0 n n n rs rs 0 k k wr.drew HF.out HF.out hm (Nat.le_refl _) (Nat.le_refl _) (.inl rfl) (by omega) hk (by omega)).mono ?_; rintro e w' ⟨r, m, hr, rfl, rfl⟩)
  all_goals
    rename (cn .f32 _ = dly _ _ _ _ _) => hr
    have HR := Lib.hid (fun w' => hW.out _ w' hr)
    clear hr
    go_wp2
    go_ret
    exact ⟨_, rfl, HR.out _, HI.out.keep (B := bl + bw + 1) (by omega) (by omega) (below_drewN (Below.refl _ _) _), below_drewN (Below.refl _ _) _, rfl⟩
end Go.Proofs.Ytopgegciejmhaaa
