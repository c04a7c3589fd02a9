/-
  MeetMiddle, in both packages.
-/
import Derived.Test.YthlpmbddpenpmaaPr2
import Derived.Test.YthlpmbddpenpmaaCSwv
import Derived.Deep.RegionHeld3
namespace Go.Proofs.Ythlpmbddpenpmaa
open Ieee Go.RowKit
set_option linter.unusedVariables false

/-- A number, a list and a bool. -/
def RetF1L1 (T : TypeId) (v : Nat) (xs : List Nat) (ok : Bool) (w : World) (e : Ending) (w' : World) : Prop :=
  ∃ s v0 r0, e = .returned (.tuple #[.float .f32 s, v0, .bool ok]) ∧ FOwn T w.heap.size w' v0 r0 ∧ cnl r0 = xs ∧ cn .f32 s = v ∧ Below w.heap.size w w'
theorem fail_f1l1 (T : TypeId) {xs : List Nat} {v : Nat} {ok : Bool} (hok : ok = false) (h0 : xs = []) (hv : v = 0) {w w' : World} (hb : Below w.heap.size w w') : RetF1L1 T v xs ok w (.returned (.tuple #[.float .f32 0, .slice none 0 0, .bool false])) w' :=
  ⟨0, _, [], by rw [hok], FOwn.nil .., h0.symm, by rw [hv]; exact cn_zero, hb⟩
theorem RetF1L1.res {T : TypeId} {X0 x0 : List Nat} {y0 v : Nat} {ok : Bool} {w : World} {e : Ending} {w' : World} (h : RetF1L1 T v X0 ok w e w') (hx0 : X0 = x0) (hy0 : x0.length = y0) :
    ∃ A0 c0 d0 r0 s0, e = .returned (.tuple #[.float .f32 s0, .slice A0 y0 c0, .bool ok]) ∧ (Held w' A0 d0 y0 r0 ∧ cnl r0 = x0 ∧ w.heap.size ≤ d0) ∧ cn .f32 s0 = v ∧ Below w.heap.size w w' := by
  subst hx0
  obtain ⟨s, v0, r0, rfl, o0, e0, hs, hb⟩ := h
  obtain ⟨A0, c0, d0, rfl, t0, q0, b0, f0⟩ := o0.resn (far := w'.heap.size) e0 hy0 hb.size
  exact ⟨A0, c0, d0, r0, s, rfl, ⟨t0, e0, q0⟩, hs, hb⟩

theorem size_alloc (w : World) (o : Obj) : (w.alloc o).heap.size = w.heap.size + 1 := by simp
def mmB (t : Nat) (zs : List Nat) : Bool := decide (zs.length ≤ 12) && (serB zs && fin .f32 t)
def mmE (t : Nat) (zs : List Nat) : Nat := aop .quo .f32 (aop .sub .f32 (cn .f32 t) (sum32 zs)) (cn .f32 (i2f ((zs.length : Int) + 1)))
def mmW (t : Nat) (zs : List Nat) : Nat := aop .sub .f32 (cn .f32 t) (mmE t zs)
def mmT (t : Nat) (zs : List Nat) (j : Nat) : Nat := aop .add .f32 (cn .f32 (zs.getD j 0)) (mmE t zs)
def mmL (t : Nat) (zs : List Nat) : List Nat := tells (mmT t zs) zs.length
def mmOk (t : Nat) (zs : List Nat) : Bool := mmB t zs && (fin .f32 (mmW t zs) && fins (mmL t zs))
def mmV (t : Nat) (zs : List Nat) : Nat := if mmOk t zs then mmW t zs else 0
def mmX (t : Nat) (zs : List Nat) : List Nat := if mmOk t zs then mmL t zs else []
theorem mm_no {t : Nat} {zs : List Nat} (h : mmOk t zs = false) : mmOk t zs = false ∧ mmX t zs = [] ∧ mmV t zs = 0 := ⟨h, by unfold mmX; rw [h]; rfl, by unfold mmV; rw [h]; rfl⟩
theorem mm_bad {t : Nat} {zs : List Nat} (h : mmB t zs = false) : mmOk t zs = false ∧ mmX t zs = [] ∧ mmV t zs = 0 := mm_no (by unfold mmOk; rw [h]; rfl)
theorem mm_yes {t : Nat} {zs : List Nat} (h : mmOk t zs = true) : mmX t zs = mmL t zs ∧ mmV t zs = mmW t zs := ⟨by unfold mmX; rw [h]; rfl, by unfold mmV; rw [h]; rfl⟩
theorem mmB_t {t : Nat} {zs : List Nat} (h : mmB t zs = true) : zs.length ≤ 12 ∧ serB zs = true ∧ fin .f32 t = true := by
  unfold mmB at h
  have h2 := (Bool.and_eq_true _ _ ▸ h).2
  exact ⟨of_decide_eq_true (Bool.and_eq_true _ _ ▸ h).1, (Bool.and_eq_true _ _ ▸ h2).1, (Bool.and_eq_true _ _ ▸ h2).2⟩
theorem mmX_len (t : Nat) (zs : List Nat) : (mmX t zs).length ≤ 1048576 := by
  unfold mmX
  split
  · rename_i h
    have h1 : mmB t zs = true := by unfold mmOk at h; exact (Bool.and_eq_true _ _ ▸ h).1
    have := (mmB_t h1).1
    unfold mmL; rw [tells_len]; omega
  · simp
theorem mm_each {t : Nat} {zs : List Nat} {s : Nat} (hs : cn .f32 s = sum32 zs) (w1 w2 : World) : cn .f32 (fopR .quo .f32 (fopR .sub .f32 t s w1) (floatOfInt .f32 ((zs.length : Int) + 1)) w2) = mmE t zs := by
  rw [cn_fopR, cn_fopR, hs]; rfl
def MmI (bl be : Nat) (a : Option Addr) (len cap : Nat) (zs : List Nat) (e : Nat) (_k : Nat) (wr : World) : Prop :=
  BoxI bl a len cap zs wr ∧ ∃ x, wr.cell? ⟨be, 0, none⟩ = some (.float .f32 x) ∧ cn .f32 x = e
theorem MmI.keep {bl be B : Nat} {a : Option Addr} {len cap : Nat} {zs : List Nat} {e k : Nat} {wr wr' : World} (h : MmI bl be a len cap zs e k wr) (h1 : bl < B) (h2 : be < B) (hb : Below B wr wr') : MmI bl be a len cap zs e k wr' := by
  obtain ⟨g1, x, hx, hx2⟩ := h
  exact ⟨g1.keep h1 hb, x, by rw [hb.cell (p := ⟨be, 0, none⟩) h2]; exact hx, hx2⟩
theorem mm1_any (bl be B0 B k t : Nat) (a : Option Addr) (len cap : Nat) (zs : List Nat) (wr : World) (h : MmI bl be a len cap zs (mmE t zs) k wr) (hk : k < len) (hm : len ≤ 1048576) :
    Calls Try.prog 84 #[.int .i64 k, .pointer (some ⟨bl, 0, none⟩), .pointer (some ⟨be, 0, none⟩)] wr (Tells (mmT t zs) (MmI bl be a len cap zs (mmE t zs)) B0 B k wr) := by
  have HI := Lib.hid h
  obtain ⟨⟨hc, hb⟩, x, hx, hx2⟩ := h
  obtain ⟨b, off, rfl, _, hcs⟩ := hb (by omega)
  have hck := hcs k hk
  have HT := Lib.hid (show ∀ w, cn .f32 (fopR .add .f32 (zs.getD k 0) x w) = mmT t zs k from fun w => by rw [cn_fopR, hx2]; rfl)
  clear hb hcs hx2
  generalize zs.getD k 0 = z at *
  go_enter Try.func84, Try.ntmps84
  go_wp2
  go_region
  all_goals
    go_wp2
    go_ret
    exact Tells.quiet (HT.out _) HI.out
set_option maxHeartbeats 2000000 in
set_option maxRecDepth 100000 in
theorem imMm_any (t : Nat) (a : Option Addr) (len cap : Nat) (zs : List Nat) (w : World) (h : FSl w a len zs) (hm : len ≤ 1048576) :
    Calls Try.prog 37 #[.float .f32 t, .slice a len cap] w (RetF1L1 23 (mmV t zs) (mmX t zs) (mmOk t zs) w) := by
  have hmf : ∀ (fn : Fn) (first cap : Array Value) (w : World), (Instr.makeFunc fn first cap).run Try.prog w = .ok (.func fn first cap) w := fun _ _ _ _ => rfl
  have G0 := Lib.hid ((Below.refl w.heap.size w).alloc (Nat.le_refl _) (.cells #[.slice a len cap] 22))
  have HX := Lib.hid (BoxI.start (cap := cap) (t := 22) h)
  have H := Lib.hid (FSl.below h G0.out)
  have HL := Lib.hid h.1
  have hc0 := HX.out.1
  clear h
  by_cases hl : len ≤ 12
  · have hd : decide ((12 : Int) < (len : Int)) = false := decide_eq_false (by omega)
    cases hs : serB zs
    · have HS := Lib.hid hs
      have HB := Lib.hid (mm_bad (t := t) (zs := zs) (by unfold mmB; rw [hs]; simp))
      clear hs
      go_enter Try.func37, Try.ntmps37
      go_wp2_with fail
      refine (implSeries_any _ _ _ _ _ H.out hm).mono ?_
      rw [HS.out]
      rintro e w' ⟨m, rfl, rfl⟩
      go_wp2_with fail
      go_ret3
      exact fail_f1l1 _ HB.out.1 HB.out.2.1 HB.out.2.2 (below_drewN G0.out _)
    · cases hf : fin .f32 t
      · have HS := Lib.hid hs
        have HF := Lib.hid hf
        have HB := Lib.hid (mm_bad (t := t) (zs := zs) (by unfold mmB; rw [hf]; simp))
        clear hs hf
        go_enter Try.func37, Try.ntmps37
        go_wp2_with fail
        refine (implSeries_any _ _ _ _ _ H.out hm).mono ?_
        rw [HS.out]
        rintro e w' ⟨m, rfl, rfl⟩
        go_wp2_with fail
        refine (isFinite_any _ _).mono ?_
        rw [HF.out]
        rintro e w' ⟨m2, rfl, rfl⟩
        go_wp2_with fail
        go_ret3
        exact fail_f1l1 _ HB.out.1 HB.out.2.1 HB.out.2.2 (below_drewN G0.out _)
      · have HS := Lib.hid hs
        have HF := Lib.hid hf
        have HBt := Lib.hid (show mmB t zs = true by unfold mmB; rw [hs, hf, HL.out, decide_eq_true hl]; rfl)
        have hl1 : 1 ≤ len := by have := (serB_t hs).1; rw [HL.out] at this; exact this
        clear hs hf
        go_enter Try.func37, Try.ntmps37
        go_wp2_with fail
        refine (implSeries_any _ _ _ _ _ H.out hm).mono ?_
        rw [HS.out]
        rintro e w' ⟨m, rfl, rfl⟩
        go_wp2_with fail
        refine (isFinite_any _ _).mono ?_
        rw [HF.out]
        rintro e w' ⟨m2, rfl, rfl⟩
        go_wp2_with fail
        refine (implSumNumbers_any _ _ _ _ _ (FSl.drewN H.out _) hm).mono ?_
        rw [if_pos (show len ≤ 256 by omega), decide_eq_true (show len ≤ 256 by omega)]
        rintro e w' ⟨s, n, hsm, rfl, rfl⟩
        have HE := Lib.hid (show ∀ w1 w2, cn .f32 (fopR .quo .f32 (fopR .sub .f32 t s w1) (floatOfInt .f32 ((len : Int) + 1)) w2) = mmE t zs from fun w1 w2 => by rw [← HL.out]; exact mm_each hsm w1 w2)
        clear hsm
        go_wp2_with fail
        generalize hx : fopR .quo .f32 (fopR .sub .f32 t s ((w.alloc (.cells #[.slice a len cap] 22)).drewN (m + m2 + n))) (floatOfInt .f32 ((len : Int) + 1)) ((w.alloc (.cells #[.slice a len cap] 22)).drewN (m + m2 + n + fopN .sub .f32 t s)) = x
        have HXe := Lib.hid (show cn .f32 x = mmE t zs by rw [← hx]; exact HE.out _ _)
        generalize fopN .quo .f32 (fopR .sub .f32 t s ((w.alloc (.cells #[.slice a len cap] 22)).drewN (m + m2 + n))) (floatOfInt .f32 ((len : Int) + 1)) = p1
        generalize m + m2 + n + fopN .sub .f32 t s + p1 = p2
        have HWw := Lib.hid (show ∀ w, cn .f32 (fopR .sub .f32 t x w) = mmW t zs from fun w => by rw [cn_fopR, HXe.out]; rfl)
        have G1 := Lib.hid ((below_drewN G0.out p2).alloc (by simp) (.cells #[.float .f32 x] 23))
        have HI := Lib.hid (show MmI w.heap.size (w.heap.size + 1) a len cap zs (mmE t zs) 0 ((((w.alloc (.cells #[.slice a len cap] 22)).drewN p2).alloc (.cells #[.float .f32 x] 23)).drewN (fopN .sub .f32 t x)) from by
          refine ⟨BoxI.keep (B := w.heap.size + 1) HX.out (by omega) (below_drewN ((below_drewN (Below.refl _ _) p2).alloc (by simp) _) _), x, ?_, HXe.out⟩
          show (((w.alloc (.cells #[.slice a len cap] 22)).drewN p2).alloc (.cells #[.float .f32 x] 23)).cell? _ = _
          rw [World.cell?_alloc_at _ _ _ _ (by simp)]; rfl)
        have hszz : ((((w.alloc (.cells #[.slice a len cap] 22)).drewN p2).alloc (.cells #[.float .f32 x] 23)).drewN (fopN .sub .f32 t x)).heap.size = w.heap.size + 1 + 1 := (size_alloc _ _).trans (congrArg (· + 1) (size_alloc _ _))
        have hz1 : w.heap.size ≤ ((((w.alloc (.cells #[.slice a len cap] 22)).drewN p2).alloc (.cells #[.float .f32 x] 23)).drewN (fopN .sub .f32 t x)).heap.size := by omega
        have hz2 : w.heap.size < ((((w.alloc (.cells #[.slice a len cap] 22)).drewN p2).alloc (.cells #[.float .f32 x] 23)).drewN (fopN .sub .f32 t x)).heap.size := by omega
        have hz3 : w.heap.size + 1 < ((((w.alloc (.cells #[.slice a len cap] 22)).drewN p2).alloc (.cells #[.float .f32 x] 23)).drewN (fopN .sub .f32 t x)).heap.size := by omega
        clear hszz
        clear hx HE HX hc0
        refine (places_any 84 #[.pointer (some ⟨w.heap.size, 0, none⟩), .pointer (some ⟨w.heap.size + 1, 0, none⟩)] (mmT t zs) (MmI w.heap.size (w.heap.size + 1) a len cap zs (mmE t zs)) w.heap.size len _ (enter_of Try.func84 (by kernel_rfl) rfl) hm hz1 HI.out (fun k wr wr' h hb => h.keep hz2 hz3 hb) (fun k wr hk hsz hI => mm1_any _ _ _ _ _ _ _ _ _ _ _ hI hk hm)).mono ?_
        rintro e w2 ⟨v, ys, rfl, ho, hx2, hb2⟩
        have HO := Lib.hid (ho.mono hz1)
        have HT := Lib.hid (show tells (mmT t zs) len = mmL t zs by unfold mmL; rw [HL.out])
        have HX2 := Lib.hid (show cnl ys = lstR (mmL t zs) by rw [hx2, HT.out])
        have G2 := Lib.hid ((below_drewN G1.out _).trans hb2)
        rw [HT.out]
        clear ho hx2 hb2
        cases hfs : fins (mmL t zs)
        · have HB := Lib.hid (mm_no (t := t) (zs := zs) (by unfold mmOk; rw [hfs]; simp))
          clear hfs
          go_wp2_with fail
          go_ret3
          exact fail_f1l1 _ HB.out.1 HB.out.2.1 HB.out.2.2 G2.out
        · have HFw := Lib.hid (show ∀ w, fin .f32 (fopR .sub .f32 t x w) = fin .f32 (mmW t zs) from fun w => fin_congr ((HWw.out w).trans (cn_aop ..).symm))
          cases hfw : fin .f32 (mmW t zs)
          · have HB := Lib.hid (mm_no (t := t) (zs := zs) (by unfold mmOk; rw [hfw]; simp))
            have HFF := Lib.hid (fun w => (HFw.out w).trans hfw)
            clear hfs hfw
            go_wp2_with fail
            refine (isFinite_any _ _).mono ?_
            rw [HFF.out]
            rintro e w' ⟨m3, rfl, rfl⟩
            go_wp2_with fail
            go_ret3
            exact fail_f1l1 _ HB.out.1 HB.out.2.1 HB.out.2.2 (below_drewN G2.out _)
          · have HK := Lib.hid (show mmOk t zs = true by unfold mmOk; rw [HBt.out, hfs, hfw]; rfl)
            have HY := Lib.hid (mm_yes HK.out)
            have HLs := Lib.hid (show lstR (mmL t zs) = mmL t zs by unfold lstR; rw [hfs]; rfl)
            have HFF := Lib.hid (fun w => (HFw.out w).trans hfw)
            clear hfs hfw
            go_wp2_with fail
            refine (isFinite_any _ _).mono ?_
            rw [HFF.out]
            rintro e w' ⟨m3, rfl, rfl⟩
            go_wp2_with fail
            go_ret3
            rw [HK.out]
            exact ⟨_, v, ys, rfl, FOwn.drewN HO.out _, by rw [HX2.out, HLs.out, HY.out.1], by rw [HWw.out, HY.out.2], below_drewN G2.out _⟩
  · have hd : decide ((12 : Int) < (len : Int)) = true := decide_eq_true (by omega)
    have HB := Lib.hid (mm_bad (t := t) (zs := zs) (by unfold mmB; rw [HL.out, decide_eq_false hl]; rfl))
    clear hl
    go_enter Try.func37, Try.ntmps37
    go_wp2_with fail
    go_ret3
    exact fail_f1l1 _ HB.out.1 HB.out.2.1 HB.out.2.2 G0.out
theorem mm_snoc {t : Nat} {zs rs : List Nat} {k r z : Nat} (h : cnl rs = tells (mmT t zs) k) (hz : zs.getD k 0 = z) (hr : cn .f32 r = aop .add .f32 (cn .f32 z) (mmE t zs)) : cnl (rs ++ [r]) = tells (mmT t zs) (k + 1) := by
  rw [tells_succ]
  refine cnl_snoc h ?_
  rw [hr, ← hz]; rfl
set_option maxHeartbeats 2000000 in
set_option maxRecDepth 100000 in
theorem spMm_any (t : Nat) (a : Option Addr) (len cap : Nat) (zs : List Nat) (w : World) (h : FSl w a len zs) (hm : len ≤ 1048576) :
    Calls Try.prog 36 #[.float .f32 t, .slice a len cap] w (RetF1L1 23 (mmV t zs) (mmX t zs) (mmOk t zs) w) := by
  obtain ⟨i0, hi, hz0, hz1, hz2⟩ := info_parts Try.infoR
  have H := Lib.hid h
  have HL := Lib.hid h.1
  clear h
  cases hf : fin .f32 t
  · have HF := Lib.hid hf
    have HB := Lib.hid (mm_bad (t := t) (zs := zs) (by unfold mmB; rw [hf]; simp))
    clear hf
    go_enter Try.func36, Try.ntmps36
    go_wp2_with fail
    refine (l01Finite_any _ _).mono ?_
    rw [HF.out]
    rintro e w' ⟨m, rfl, rfl⟩
    go_wp2_with fail
    go_ret3
    exact fail_f1l1 _ HB.out.1 HB.out.2.1 HB.out.2.2 (below_drewN (Below.refl _ _) _)
  · have HF := Lib.hid hf
    by_cases hl1 : 1 ≤ len
    · by_cases hl : len ≤ 12
      · have hd : decide ((12 : Int) < (len : Int)) = false := decide_eq_false (by omega)
        have hd1 : decide ((len : Int) < 1) = false := decide_eq_false (by omega)
        have hsf : serB zs = fins zs := serB_short HL.out hl1 (by omega)
        cases hs : fins zs
        · have HS := Lib.hid hs
          have HB := Lib.hid (mm_bad (t := t) (zs := zs) (by unfold mmB; rw [hsf, hs]; simp))
          clear hs hf hsf
          go_enter Try.func36, Try.ntmps36
          go_wp2_with fail
          refine (l01Finite_any _ _).mono ?_
          rw [HF.out]
          rintro e w' ⟨m, rfl, rfl⟩
          go_wp2_with fail
          refine (specFinite_any _ _ _ _ _ (FSl.drewN H.out _) hm).mono ?_
          rw [HS.out]
          rintro e w' ⟨m2, rfl, rfl⟩
          go_wp2_with fail
          go_ret3
          exact fail_f1l1 _ HB.out.1 HB.out.2.1 HB.out.2.2 (below_drewN (Below.refl _ _) _)
        · have HS := Lib.hid hs
          have HBt := Lib.hid (show mmB t zs = true by unfold mmB; rw [hsf, hs, hf, HL.out, decide_eq_true hl]; rfl)
          clear hs hf hsf
          go_enter Try.func36, Try.ntmps36
          go_wp2_with fail
          refine (l01Finite_any _ _).mono ?_
          rw [HF.out]
          rintro e w' ⟨m, rfl, rfl⟩
          go_wp2_with fail
          refine (specFinite_any _ _ _ _ _ (FSl.drewN H.out _) hm).mono ?_
          rw [HS.out]
          rintro e w' ⟨m2, rfl, rfl⟩
          go_wp2_with fail
          refine (l02Sum_any _ _ _ _ _ (FSl.drewN H.out _) hm).mono ?_
          rintro e w' ⟨s, n, hsm, rfl, rfl⟩
          have HE := Lib.hid (show ∀ w1 w2, cn .f32 (fopR .quo .f32 (fopR .sub .f32 t s w1) (floatOfInt .f32 ((len : Int) + 1)) w2) = mmE t zs from fun w1 w2 => by rw [← HL.out]; exact mm_each hsm w1 w2)
          clear hsm
          have HN := Lib.hid (fun k => FOwn.made (T := 23) (B := w.heap.size) (w.drewN k) (Nat.le_refl _))
          go_wp2
          generalize hx : fopR .quo .f32 (fopR .sub .f32 t s (w.drewN (m + m2 + n))) (floatOfInt .f32 ((len : Int) + 1)) (w.drewN (m + m2 + n + fopN .sub .f32 t s)) = x
          have HXe := Lib.hid (show cn .f32 x = mmE t zs by rw [← hx]; exact HE.out _ _)
          have HWw := Lib.hid (show ∀ w, cn .f32 (fopR .sub .f32 t x w) = mmW t zs from fun w => by rw [cn_fopR, HXe.out]; rfl)
          clear hx HE
          go_loopw [9, 10] (fun v i wr => ∃ (k : Nat) (rs : List Nat), k ≤ len ∧ i = .int .i64 k ∧ Hid (rs.length = k) ∧ Hid (FOwn 23 w.heap.size wr v rs) ∧ Hid (cnl rs = tells (mmT t zs) k) ∧ Hid (Below w.heap.size w wr)) (fun _ i _ => len - (intOf i).toNat)
          case atStart => exact ⟨0, [], Nat.zero_le _, rfl, Lib.hid rfl, Lib.hid (HN.out _), Lib.hid rfl, Lib.hid ((below_drewN (Below.refl _ _) _).alloc (by show w.heap.size ≤ w.heap.size; exact Nat.le_refl _) _)⟩
          case round =>
            rename_i wr
            obtain ⟨k, rs, hk, rfl, hrl, hown, hrs, hbel⟩ := hrel
            by_cases hlt : k < len
            · obtain ⟨b, off, rfl, hb, hc⟩ := H.out.at (by omega)
              have hck := hc k hlt
              rw [← hbel.out.cell (p := ⟨b, off + k, none⟩) hb] at hck
              have hsz := hbel.out.size
              have hrk : rs.length ≤ 1048576 := by have := hrl.out; omega
              obtain ⟨z, hz⟩ : ∃ z, zs.getD k 0 = z := ⟨_, rfl⟩
              rw [hz] at hck
              have HCS := Lib.hid (fun w => mm_snoc (r := fopR .add .f32 z x w) hrs.out hz (by rw [cn_fopR, HXe.out]))
              have HRl := Lib.hid hrl.out
              clear hc hb hz hrs hrl
              go_wp2_with (at_builtin; refine wpList_append_own _ rfl _ _ 22 rfl w.heap.size 23 i0 (.float .f32 0) 1 4 Try.underlying22 hi hz0 hz1 hz2 rfl (by decide) _ _ _ rfl (World.ownsRow.alloc (FOwn.drewN hown.out _) _) ⟨wr.heap.size, 0, none⟩ 1 1 [_] rfl rfl (one_new rfl) ?c2 ?c3 ?c4 ?c5 ?_)
              case c2 => intro u hu; simp at hu; subst hu; rfl
              case c3 => unfold maxLen; omega
              case c4 => omega
              case c5 => simp; show w.heap.size ≤ wr.heap.size + 1; omega
              intro v' w1 hown' hgrow _
              have R := FOwn.push hown.out hbel.out hsz hown' hgrow
              have hR := Lib.hid R
              clear R hown' hgrow hown hbel hck
              go_wp2
              go_roundw
              case rel =>
                refine ⟨k + 1, _, by omega, by go_num, ?_, Lib.hid hR.out.1, Lib.hid (HCS.out _), Lib.hid hR.out.2⟩
                exact Lib.hid (by rw [List.length_append, HRl.out]; rfl)
              case measure => simp [intOf]; omega
            · have hfin := Lib.hid (show cnl rs = mmL t zs by unfold mmL; rw [hrs.out, HL.out, show k = len by omega])
              obtain ⟨A, cp, rfl, hsl, _⟩ := hown.out.sl
              have HS2 := Lib.hid hsl
              have HFs := Lib.hid (show fins rs = fins (mmL t zs) by rw [← hfin.out, fins_cnl])
              have hm2 : rs.length ≤ 1048576 := by have := hrl.out; omega
              clear hrs H hsl
              have HFw := Lib.hid (show ∀ w, fin .f32 (fopR .sub .f32 t x w) = fin .f32 (mmW t zs) from fun w => fin_congr ((HWw.out w).trans (cn_aop ..).symm))
              cases hfw : fin .f32 (mmW t zs)
              · have HB := Lib.hid (mm_no (t := t) (zs := zs) (by unfold mmOk; rw [hfw]; simp))
                have HFF := Lib.hid (fun w => (HFw.out w).trans hfw)
                clear hfw
                go_wp2_with fail
                refine (l01Finite_any _ _).mono ?_
                rw [HFF.out]
                rintro e w' ⟨m3, rfl, rfl⟩
                go_wp2_with fail
                go_ret3
                exact fail_f1l1 _ HB.out.1 HB.out.2.1 HB.out.2.2 (below_drewN hbel.out _)
              · have HFF := Lib.hid (fun w => (HFw.out w).trans hfw)
                cases hfs : fins (mmL t zs)
                · have HB := Lib.hid (mm_no (t := t) (zs := zs) (by unfold mmOk; rw [hfs]; simp))
                  have HFz := Lib.hid (HFs.out.trans hfs)
                  clear hfw hfs
                  go_wp2_with fail
                  refine (l01Finite_any _ _).mono ?_
                  rw [HFF.out]
                  rintro e w' ⟨m3, rfl, rfl⟩
                  go_wp2_with fail
                  refine (specFinite_any _ _ _ _ _ (FSl.drewN HS2.out _) hm2).mono ?_
                  rw [HFz.out]
                  rintro e w' ⟨m4, rfl, rfl⟩
                  go_wp2_with fail
                  go_ret3
                  exact fail_f1l1 _ HB.out.1 HB.out.2.1 HB.out.2.2 (below_drewN hbel.out _)
                · have HK := Lib.hid (show mmOk t zs = true by unfold mmOk; rw [HBt.out, hfs, hfw]; rfl)
                  have HY := Lib.hid (mm_yes HK.out)
                  have HFz := Lib.hid (HFs.out.trans hfs)
                  clear hfw hfs
                  go_wp2_with fail
                  refine (l01Finite_any _ _).mono ?_
                  rw [HFF.out]
                  rintro e w' ⟨m3, rfl, rfl⟩
                  go_wp2_with fail
                  refine (specFinite_any _ _ _ _ _ (FSl.drewN HS2.out _) hm2).mono ?_
                  rw [HFz.out]
                  rintro e w' ⟨m4, rfl, rfl⟩
                  go_wp2_with fail
                  go_ret3
                  rw [HK.out]
                  exact ⟨_, _, rs, rfl, FOwn.drewN hown.out _, by rw [hfin.out, HY.out.1], by rw [HWw.out, HY.out.2], below_drewN hbel.out _⟩
      · have hd : decide ((12 : Int) < (len : Int)) = true := decide_eq_true (by omega)
        have hd1 : decide ((len : Int) < 1) = false := decide_eq_false (by omega)
        have HB := Lib.hid (mm_bad (t := t) (zs := zs) (by unfold mmB; rw [HL.out, decide_eq_false hl]; rfl))
        clear hf
        go_enter Try.func36, Try.ntmps36
        go_wp2_with fail
        refine (l01Finite_any _ _).mono ?_
        rw [HF.out]
        rintro e w' ⟨m, rfl, rfl⟩
        go_wp2_with fail
        go_ret3
        exact fail_f1l1 _ HB.out.1 HB.out.2.1 HB.out.2.2 (below_drewN (Below.refl _ _) _)
    · have hd1 : decide ((len : Int) < 1) = true := decide_eq_true (by omega)
      have HB := Lib.hid (mm_bad (t := t) (zs := zs) (by unfold mmB serB; rw [HL.out, decide_eq_false (show ¬ (1 ≤ len ∧ len ≤ 96) from fun h => hl1 h.1)]; simp))
      clear hf
      go_enter Try.func36, Try.ntmps36
      go_wp2_with fail
      refine (l01Finite_any _ _).mono ?_
      rw [HF.out]
      rintro e w' ⟨m, rfl, rfl⟩
      go_wp2_with fail
      go_ret3
      exact fail_f1l1 _ HB.out.1 HB.out.2.1 HB.out.2.2 (below_drewN (Below.refl _ _) _)
end Go.Proofs.Ythlpmbddpenpmaa
