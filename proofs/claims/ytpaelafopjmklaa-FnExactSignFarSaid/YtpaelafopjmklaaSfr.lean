/-
  SignFar, in both packages.
-/
import Derived.Test.YtpaelafopjmklaaMmi
import Derived.Test.YtpaelafopjmklaaCut
import Derived.Test.YtpaelafopjmklaaRos
import Derived.Test.YtpaelafopjmklaaCBox
namespace Go.Proofs.Ytpaelafopjmklaa
open Ieee Go.RowKit
set_option linter.unusedVariables false

/-- What two signs are apart at least. -/
def sfT (xa xb : List Int) (cs : List Nat) (k : Nat) : Nat :=
  if max (xa.getD k 0) (xb.getD k 0) - min (xa.getD k 0) (xb.getD k 0) ≤ 1 then 0
  else aop .sub .f32 (cn .f32 (cs.getD (max (xa.getD k 0) (xb.getD k 0) - 1).toNat 0)) (cn .f32 (cs.getD (min (xa.getD k 0) (xb.getD k 0)).toNat 0))
def sfOk (xa xb : List Int) (cs : List Nat) : Bool := cutB cs && (decide (xa.length = xb.length) && (sgnB xa cs.length && sgnB xb cs.length))
def sfX (xa xb : List Int) (cs : List Nat) : Nat := rosX (sfT xa xb cs) xa.length
def sfB (xa xb : List Int) (cs : List Nat) : Bool := sfOk xa xb cs && fin .f32 (sfX xa xb cs)
def sfV (xa xb : List Int) (cs : List Nat) : Nat := if sfB xa xb cs then sfX xa xb cs else 0
theorem sf_bad {xa xb : List Int} {cs : List Nat} (h : sfOk xa xb cs = false) : sfB xa xb cs = false ∧ sfV xa xb cs = 0 := by
  have : sfB xa xb cs = false := by unfold sfB; rw [h]; rfl
  exact ⟨this, by unfold sfV; rw [this]; rfl⟩
theorem sf_good {xa xb : List Int} {cs : List Nat} (h : sfOk xa xb cs = true) : sfB xa xb cs = rosB (sfT xa xb cs) xa.length ∧ sfV xa xb cs = rosV (sfT xa xb cs) xa.length := by
  have : sfB xa xb cs = rosB (sfT xa xb cs) xa.length := by unfold sfB; rw [h]; rfl
  exact ⟨this, by unfold sfV; rw [this]; rfl⟩
theorem sf_end {xa xb : List Int} {cs : List Nat} {r x : Nat} (h : cn .f32 r = if fin .f32 x then cn .f32 x else 0) (hs : sfOk xa xb cs = true) (hx : cn .f32 x = sfX xa xb cs) : cn .f32 r = sfV xa xb cs ∧ fin .f32 x = sfB xa xb cs := by
  have hf : fin .f32 x = sfB xa xb cs := by rw [fin_congr (hx.trans (cn_rosX _ _).symm)]; unfold sfB; rw [hs]; rfl
  exact ⟨by rw [h, hf, hx]; rfl, hf⟩
/-- What a closure reads: a list of whole numbers in a box. -/
def BoxJ (bl : Nat) (a : Option Addr) (len cap : Nat) (zs : List Int) (wr : World) : Prop :=
  wr.cell? ⟨bl, 0, none⟩ = some (.slice a len cap) ∧ (0 < len → ∃ b off, a = some ⟨b, off, none⟩ ∧ b < bl ∧ ∀ j, j < len → wr.cell? ⟨b, off + j, none⟩ = some (.int .i64 (zs.getD j 0)))
theorem BoxJ.keep {bl B : Nat} {a : Option Addr} {len cap : Nat} {zs : List Int} {wr wr' : World} (h : BoxJ bl a len cap zs wr) (h1 : bl < B) (hb : Below B wr wr') : BoxJ bl a len cap zs wr' := by
  refine ⟨by rw [hb.cell (p := ⟨bl, 0, none⟩) h1]; exact h.1, fun hp => ?_⟩
  obtain ⟨b, off, rfl, hlt, hc⟩ := h.2 hp
  exact ⟨b, off, rfl, hlt, fun j hj => by rw [hb.cell (p := ⟨b, off + j, none⟩) (by show b < B; omega)]; exact hc j hj⟩
theorem BoxJ.start {w : World} {a : Option Addr} {len cap : Nat} {zs : List Int} {t : TypeId} (h : ISl w a len zs) : BoxJ w.heap.size a len cap zs (w.alloc (.cells #[.slice a len cap] t)) := by
  refine ⟨?_, fun hp => ?_⟩
  · rw [World.cell?_alloc_at _ _ _ _ rfl]; rfl
  · obtain ⟨b, off, rfl, hb, hc⟩ := h.at hp
    exact ⟨b, off, rfl, hb, fun j hj => by rw [World.cell?_alloc_past _ _ _ hb]; exact hc j hj⟩
def SfrI (ba bb bc : Nat) (a : Option Addr) (len cap : Nat) (xa : List Int) (a' : Option Addr) (cap' : Nat) (xb : List Int) (a2 : Option Addr) (c cap2 : Nat) (cs : List Nat) (wr : World) : Prop :=
  BoxJ ba a len cap xa wr ∧ BoxJ bb a' len cap' xb wr ∧ BoxI bc a2 c cap2 cs wr
/-- Two signs, xa natural numbers. -/
theorem sf_nat {xa xb : List Int} {cs : List Nat} {k : Nat} (ha : 0 ≤ xa.getD k 0 ∧ xa.getD k 0 ≤ (cs.length : Int)) (hb : 0 ≤ xb.getD k 0 ∧ xb.getD k 0 ≤ (cs.length : Int)) :
    ∃ lo hi : Nat, min (xa.getD k 0) (xb.getD k 0) = (lo : Int) ∧ max (xa.getD k 0) (xb.getD k 0) = (hi : Int) ∧ lo ≤ hi ∧ hi ≤ cs.length ∧
      sfT xa xb cs k = if hi - lo ≤ 1 then 0 else aop .sub .f32 (cn .f32 (cs.getD (hi - 1) 0)) (cn .f32 (cs.getD lo 0)) := by
  refine ⟨(min (xa.getD k 0) (xb.getD k 0)).toNat, (max (xa.getD k 0) (xb.getD k 0)).toNat, by omega, by omega, by omega, by omega, ?_⟩
  unfold sfT
  by_cases h : max (xa.getD k 0) (xb.getD k 0) - min (xa.getD k 0) (xb.getD k 0) ≤ 1
  · rw [if_pos h, if_pos (by omega)]
  · rw [if_neg h, if_neg (by omega), show (max (xa.getD k 0) (xb.getD k 0)).toNat - 1 = (max (xa.getD k 0) (xb.getD k 0) - 1).toNat by omega]
set_option maxHeartbeats 4000000 in
set_option maxRecDepth 100000 in
theorem sfr1_any (ba bb bc k : Nat) (a : Option Addr) (len cap : Nat) (xa : List Int) (a' : Option Addr) (cap' : Nat) (xb : List Int) (a2 : Option Addr) (c cap2 : Nat) (cs : List Nat) (wr : World)
    (h : SfrI ba bb bc a len cap xa a' cap' xb a2 c cap2 cs wr) (hk : k < len) (hl : xa.length = len) (hl' : xb.length = len) (hlc : cs.length = c) (hok : sfOk xa xb cs = true) :
    Calls Try.prog 85 #[.int .i64 k, .pointer (some ⟨ba, 0, none⟩), .pointer (some ⟨bb, 0, none⟩), .pointer (some ⟨bc, 0, none⟩)] wr (RetF .f32 (sfT xa xb cs k) wr) := by
  unfold sfOk at hok
  have k1 := (Bool.and_eq_true _ _ ▸ hok).1
  have k2 := (Bool.and_eq_true _ _ ▸ (Bool.and_eq_true _ _ ▸ hok).2).2
  have k3 := (Bool.and_eq_true _ _ ▸ k2).1
  have k4 := (Bool.and_eq_true _ _ ▸ k2).2
  have k5 := (cut_t k1).1
  rw [hlc] at k5
  have k6 := (sgn_t k3).2.1
  rw [hl] at k6
  obtain ⟨lo, hi, e1, e2, l1, l2, ht⟩ := sf_nat (k := k) ((sgn_t k3).2.2 k (by omega)) ((sgn_t k4).2.2 k (by omega))
  rw [hlc] at l2
  clear hok k1 k2 k3 k4
  obtain ⟨⟨hc1, hb1⟩, ⟨hc2, hb2⟩, ⟨hc3, hb3⟩⟩ := h
  obtain ⟨b, off, rfl, _, hcs⟩ := hb1 (by omega)
  obtain ⟨b', off', rfl, _, hcs'⟩ := hb2 (by omega)
  have hck := hcs k hk
  have hck' := hcs' k hk
  have hmin := fun (W : World) (ts : Array TypeId) (t : TypeId) => run_minI (P := Try.prog) W ts t (xa.getD k 0) (xb.getD k 0)
  have hmax := fun (W : World) (ts : Array TypeId) (t : TypeId) => run_maxI (P := Try.prog) W ts t (xa.getD k 0) (xb.getD k 0)
  rw [e1] at hmin
  rw [e2] at hmax
  have HT := Lib.hid ht
  clear e1 e2 ht hcs hcs' hb1 hb2
  generalize xa.getD k 0 = x at *
  generalize xb.getD k 0 = y at *
  by_cases hg : hi - lo ≤ 1
  · have hd : decide ((hi : Int) - (lo : Int) ≤ 1) = true := decide_eq_true (by omega)
    have HV := Lib.hid (show sfT xa xb cs k = 0 by rw [HT.out, if_pos hg])
    clear hb3
    go_enter Try.func85, Try.ntmps85
    go_wp2
    go_quiet (fail)
    go_wp2
    go_ret
    exact ⟨0, _, by rw [HV.out]; exact cn_zero, rfl, rfl⟩
  · have hd : decide ((hi : Int) - (lo : Int) ≤ 1) = false := decide_eq_false (by omega)
    have HV := Lib.hid (HT.out.trans (if_neg hg))
    obtain ⟨h1, rfl⟩ : ∃ h1, hi = h1 + 1 := ⟨hi - 1, by omega⟩
    obtain ⟨b3, off3, rfl, _, hcs3⟩ := hb3 (by omega)
    have hck3 := hcs3 h1 (by omega)
    have hck4 := hcs3 lo (by omega)
    rw [Nat.add_sub_cancel] at HV
    generalize cs.getD h1 0 = z at *
    generalize cs.getD lo 0 = z2 at *
    clear hcs3 hb3
    go_enter Try.func85, Try.ntmps85
    go_wp2
    go_quiet (fail)
    go_wp2
    go_region
    all_goals
      go_wp2
      go_ret
      exact ⟨_, _, by rw [cn_fopR, HV.out], rfl, by first | rfl | (exact (World.drewN_drewN ..).symm)⟩
set_option maxHeartbeats 4000000 in
set_option maxRecDepth 100000 in
theorem imSfr_any (a : Option Addr) (len cap : Nat) (xa : List Int) (a' : Option Addr) (len' cap' : Nat) (xb : List Int) (a2 : Option Addr) (c cap2 : Nat) (cs : List Nat) (w : World)
    (h : ISl w a len xa) (h' : ISl w a' len' xb) (h2 : FSl w a2 c cs) (hm : len ≤ 1048576) (hm' : len' ≤ 1048576) (hm2 : c ≤ 1048576) :
    Calls Try.prog 38 #[.slice a len cap, .slice a' len' cap', .slice a2 c cap2] w (RetFBk (sfV xa xb cs) (sfB xa xb cs) w.heap.size w) := by
  have hmf : ∀ (fn : Fn) (first cap : Array Value) (w : World), (Instr.makeFunc fn first cap).run Try.prog w = .ok (.func fn first cap) w := fun _ _ _ _ => rfl
  have HL := Lib.hid h.1
  have HL' := Lib.hid h'.1
  have HL2 := Lib.hid h2.1
  have b1 := (Below.refl w.heap.size w).alloc (Nat.le_refl _) (.cells #[.slice a len cap] 45)
  have b2 := b1.alloc (by simp <;> omega) (.cells #[.slice a' len' cap'] 45)
  have b3 := b2.alloc (by simp <;> omega) (.cells #[.slice a2 c cap2] 22)
  have X1 := BoxJ.start (cap := cap) (t := 45) h
  have X2 : BoxJ (w.heap.size + 1) a' len' cap' xb ((w.alloc (.cells #[.slice a len cap] 45)).alloc (.cells #[.slice a' len' cap'] 45)) := by simpa using BoxJ.start (cap := cap') (t := 45) (ISl.below h' b1)
  have X3 : BoxI (w.heap.size + 1 + 1) a2 c cap2 cs (((w.alloc (.cells #[.slice a len cap] 45)).alloc (.cells #[.slice a' len' cap'] 45)).alloc (.cells #[.slice a2 c cap2] 22)) := by simpa using BoxI.start (cap := cap2) (t := 22) (FSl.below h2 b2)
  have G := Lib.hid b3
  have Y1 := Lib.hid (X1.keep (B := w.heap.size + 1) (by omega) (((Below.refl _ _).alloc (by simp <;> omega) (.cells #[.slice a' len' cap'] 45)).alloc (by simp <;> omega) (.cells #[.slice a2 c cap2] 22)))
  have Y2 := Lib.hid (X2.keep (B := w.heap.size + 1 + 1) (by omega) ((Below.refl _ _).alloc (by simp <;> omega) (.cells #[.slice a2 c cap2] 22)))
  have Y3 := Lib.hid X3
  have H1 := Lib.hid (ISl.below h b3)
  have H2 := Lib.hid (ISl.below h' b3)
  have H3 := Lib.hid (FSl.below h2 b3)
  have hc1 := Y1.out.1
  have hc2 := Y2.out.1
  have hc3 := Y3.out.1
  clear h h' h2 b1 b2 b3 X1 X2 X3
  cases k1 : cutB cs
  · have K1 := Lib.hid k1
    have HB := Lib.hid (sf_bad (xa := xa) (xb := xb) (cs := cs) (by unfold sfOk; rw [k1]; rfl))
    clear k1
    go_enter Try.func38, Try.ntmps38
    go_wp2_with fail
    refine (imCuts_any _ _ _ _ _ H3.out hm2).mono ?_
    rw [K1.out]
    rintro e w' ⟨m, rfl, rfl⟩
    go_wp2
    go_ret2
    exact ⟨0, by rw [HB.out.2]; exact cn_zero, by rw [HB.out.1]; rfl, below_drewN G.out _⟩
  · have K1 := Lib.hid k1
    by_cases hll : len = len'
    · subst hll
      cases k2 : sgnB xa c
      · have K2 := Lib.hid k2
        have HB := Lib.hid (sf_bad (xa := xa) (xb := xb) (cs := cs) (by unfold sfOk; rw [HL2.out, k2]; simp))
        clear k1 k2
        go_enter Try.func38, Try.ntmps38
        go_wp2_with fail
        refine (imCuts_any _ _ _ _ _ H3.out hm2).mono ?_
        rw [K1.out]
        rintro e w' ⟨m, rfl, rfl⟩
        go_wp2_with fail
        refine (imSigns_any _ _ _ _ _ _ (ISl.drewN H1.out _) hm).mono ?_
        rw [K2.out]
        rintro e w' ⟨m2, rfl, rfl⟩
        go_wp2
        go_ret2
        exact ⟨0, by rw [HB.out.2]; exact cn_zero, by rw [HB.out.1]; rfl, below_drewN G.out _⟩
      · have K2 := Lib.hid k2
        cases k3 : sgnB xb c
        · have K3 := Lib.hid k3
          have HB := Lib.hid (sf_bad (xa := xa) (xb := xb) (cs := cs) (by unfold sfOk; rw [HL2.out, k3]; simp))
          clear k1 k2 k3
          go_enter Try.func38, Try.ntmps38
          go_wp2_with fail
          refine (imCuts_any _ _ _ _ _ H3.out hm2).mono ?_
          rw [K1.out]
          rintro e w' ⟨m, rfl, rfl⟩
          go_wp2_with fail
          refine (imSigns_any _ _ _ _ _ _ (ISl.drewN H1.out _) hm).mono ?_
          rw [K2.out]
          rintro e w' ⟨m2, rfl, rfl⟩
          go_wp2_with fail
          refine (imSigns_any _ _ _ _ _ _ (ISl.drewN H2.out _) hm').mono ?_
          rw [K3.out]
          rintro e w' ⟨m3, rfl, rfl⟩
          go_wp2
          go_ret2
          exact ⟨0, by rw [HB.out.2]; exact cn_zero, by rw [HB.out.1]; rfl, below_drewN G.out _⟩
        · have K3 := Lib.hid k3
          have hok : sfOk xa xb cs = true := by unfold sfOk; rw [k1, HL2.out, k2, k3, HL.out, HL'.out, decide_eq_true rfl]; rfl
          have HOk := Lib.hid hok
          have HB := Lib.hid (sf_good hok)
          clear k1 k2 k3 hok
          go_enter Try.func38, Try.ntmps38
          go_wp2_with fail
          refine (imCuts_any _ _ _ _ _ H3.out hm2).mono ?_
          rw [K1.out]
          rintro e w' ⟨m, rfl, rfl⟩
          go_wp2_with fail
          refine (imSigns_any _ _ _ _ _ _ (ISl.drewN H1.out _) hm).mono ?_
          rw [K2.out]
          rintro e w' ⟨m2, rfl, rfl⟩
          go_wp2_with fail
          refine (imSigns_any _ _ _ _ _ _ (ISl.drewN H2.out _) hm').mono ?_
          rw [K3.out]
          rintro e w' ⟨m3, rfl, rfl⟩
          go_wp2_with fail
          refine (ros_any 85 #[.pointer (some ⟨w.heap.size, 0, none⟩), .pointer (some ⟨w.heap.size + 1, 0, none⟩), .pointer (some ⟨w.heap.size + 1 + 1, 0, none⟩)] (sfT xa xb cs) (SfrI w.heap.size (w.heap.size + 1) (w.heap.size + 1 + 1) a len cap xa a' cap' xb a2 c cap2 cs) len _ (enter_of Try.func85 (by kernel_rfl) rfl) hm (by exact ⟨Y1.out, Y2.out, Y3.out⟩)
            (fun wr wr' h hb => ⟨h.1.keep (by simp <;> omega) hb, h.2.1.keep (by simp <;> omega) hb, h.2.2.keep (by simp <;> omega) hb⟩)
            (fun k wr hk h => sfr1_any _ _ _ _ _ _ _ _ _ _ _ _ _ _ _ _ h hk HL.out HL'.out HL2.out HOk.out)).mono ?_
          rintro e w2 ⟨r, hr, rfl, hb⟩
          have HR := Lib.hid (show cn .f32 r = sfV xa xb cs by rw [hr, HB.out.2, HL.out])
          have HE := Lib.hid (show rosB (sfT xa xb cs) len = sfB xa xb cs by rw [HB.out.1, HL.out])
          have HF := Lib.hid ((below_drewN G.out _).trans (hb.mono (by have := G.out.size; exact this)))
          rw [HE.out]
          clear hr hb
          go_wp2
          go_ret2
          exact ⟨r, HR.out, rfl, HF.out⟩
    · have hne : ((len : Int) != (len' : Int)) = true := by rw [bne_iff_ne]; omega
      have HB := Lib.hid (sf_bad (xa := xa) (xb := xb) (cs := cs) (by unfold sfOk; rw [HL.out, HL'.out, decide_eq_false hll]; simp))
      clear k1 hll
      go_enter Try.func38, Try.ntmps38
      go_wp2_with fail
      refine (imCuts_any _ _ _ _ _ H3.out hm2).mono ?_
      rw [K1.out]
      rintro e w' ⟨m, rfl, rfl⟩
      go_wp2
      go_ret2
      exact ⟨0, by rw [HB.out.2]; exact cn_zero, by rw [HB.out.1]; rfl, below_drewN G.out _⟩
theorem l00min_any (x y : Int) (w : World) : Calls Try.prog 80 #[.int .i64 x, .int .i64 y] w (RetV (.int .i64 (min x y)) w) := by
  by_cases h : x < y
  · have hd : decide (x < y) = true := decide_eq_true h
    have HM := Lib.hid (show min x y = x by omega)
    go_enter Try.func80, Try.ntmps80
    go_wp2
    go_ret
    exact ⟨0, by rw [HM.out]; rfl, rfl⟩
  · have hd : decide (x < y) = false := decide_eq_false h
    have HM := Lib.hid (show min x y = y by omega)
    go_enter Try.func80, Try.ntmps80
    go_wp2
    go_ret
    exact ⟨0, by rw [HM.out]; rfl, rfl⟩
theorem l00max_any (x y : Int) (w : World) : Calls Try.prog 81 #[.int .i64 x, .int .i64 y] w (RetV (.int .i64 (max x y)) w) := by
  by_cases h : y < x
  · have hd : decide (y < x) = true := decide_eq_true h
    have HM := Lib.hid (show max x y = x by omega)
    go_enter Try.func81, Try.ntmps81
    go_wp2
    go_ret
    exact ⟨0, by rw [HM.out]; rfl, rfl⟩
  · have hd : decide (y < x) = false := decide_eq_false h
    have HM := Lib.hid (show max x y = y by omega)
    go_enter Try.func81, Try.ntmps81
    go_wp2
    go_ret
    exact ⟨0, by rw [HM.out]; rfl, rfl⟩
set_option maxHeartbeats 4000000 in
set_option maxRecDepth 100000 in
theorem spSfr_any (a : Option Addr) (len cap : Nat) (xa : List Int) (a' : Option Addr) (len' cap' : Nat) (xb : List Int) (a2 : Option Addr) (c cap2 : Nat) (cs : List Nat) (w : World)
    (h : ISl w a len xa) (h' : ISl w a' len' xb) (h2 : FSl w a2 c cs) (hm : len ≤ 1048576) (hm' : len' ≤ 1048576) (hm2 : c ≤ 1048576) :
    Calls Try.prog 36 #[.slice a len cap, .slice a' len' cap', .slice a2 c cap2] w (RetFBk (sfV xa xb cs) (sfB xa xb cs) w.heap.size w) := by
  have H := Lib.hid h
  have H' := Lib.hid h'
  have H2 := Lib.hid h2
  have HL := Lib.hid h.1
  have HL' := Lib.hid h'.1
  have HL2 := Lib.hid h2.1
  clear h h' h2
  cases k1 : cutB cs
  · have K1 := Lib.hid k1
    have HB := Lib.hid (sf_bad (xa := xa) (xb := xb) (cs := cs) (by unfold sfOk; rw [k1]; rfl))
    clear k1
    go_enter Try.func36, Try.ntmps36
    go_wp2_with fail
    refine (spCuts_any _ _ _ _ _ H2.out hm2).mono ?_
    rw [K1.out]
    rintro e w' ⟨m, rfl, rfl⟩
    go_wp2
    go_ret2
    exact ⟨0, by rw [HB.out.2]; exact cn_zero, by rw [HB.out.1]; rfl, below_drewN (Below.refl _ _) _⟩
  · have K1 := Lib.hid k1
    cases k2 : sgnB xa c
    · have K2 := Lib.hid k2
      have HB := Lib.hid (sf_bad (xa := xa) (xb := xb) (cs := cs) (by unfold sfOk; rw [HL2.out, k2]; simp))
      clear k1 k2
      go_enter Try.func36, Try.ntmps36
      go_wp2_with fail
      refine (spCuts_any _ _ _ _ _ H2.out hm2).mono ?_
      rw [K1.out]
      rintro e w' ⟨m, rfl, rfl⟩
      go_wp2_with fail
      refine (spSigns_any _ _ _ _ _ _ _ _ (ISl.drewN H.out _) hm hm2).mono ?_
      rw [K2.out]
      rintro e w' ⟨m2, rfl, rfl⟩
      go_wp2
      go_ret2
      exact ⟨0, by rw [HB.out.2]; exact cn_zero, by rw [HB.out.1]; rfl, below_drewN (Below.refl _ _) _⟩
    · have K2 := Lib.hid k2
      cases k3 : sgnB xb c
      · have K3 := Lib.hid k3
        have HB := Lib.hid (sf_bad (xa := xa) (xb := xb) (cs := cs) (by unfold sfOk; rw [HL2.out, k3]; simp))
        clear k1 k2 k3
        go_enter Try.func36, Try.ntmps36
        go_wp2_with fail
        refine (spCuts_any _ _ _ _ _ H2.out hm2).mono ?_
        rw [K1.out]
        rintro e w' ⟨m, rfl, rfl⟩
        go_wp2_with fail
        refine (spSigns_any _ _ _ _ _ _ _ _ (ISl.drewN H.out _) hm hm2).mono ?_
        rw [K2.out]
        rintro e w' ⟨m2, rfl, rfl⟩
        go_wp2_with fail
        refine (spSigns_any _ _ _ _ _ _ _ _ (ISl.drewN H'.out _) hm' hm2).mono ?_
        rw [K3.out]
        rintro e w' ⟨m3, rfl, rfl⟩
        go_wp2
        go_ret2
        exact ⟨0, by rw [HB.out.2]; exact cn_zero, by rw [HB.out.1]; rfl, below_drewN (Below.refl _ _) _⟩
      · have K3 := Lib.hid k3
        by_cases hll : len = len'
        · subst hll
          have hok : sfOk xa xb cs = true := by unfold sfOk; rw [k1, HL2.out, k2, k3, HL.out, HL'.out, decide_eq_true rfl]; rfl
          have HOk := Lib.hid hok
          have k5 := (cut_t k1).1
          rw [HL2.out] at k5
          have k6 := (sgn_t k2).2.1
          rw [HL.out] at k6
          have HSa := Lib.hid (sgn_t k2).2.2
          have HSb := Lib.hid (sgn_t k3).2.2
          clear k1 k2 k3 hok
          go_enter Try.func36, Try.ntmps36
          go_wp2_with fail
          refine (spCuts_any _ _ _ _ _ H2.out hm2).mono ?_
          rw [K1.out]
          rintro e w' ⟨m, rfl, rfl⟩
          go_wp2_with fail
          refine (spSigns_any _ _ _ _ _ _ _ _ (ISl.drewN H.out _) hm hm2).mono ?_
          rw [K2.out]
          rintro e w' ⟨m2, rfl, rfl⟩
          go_wp2_with fail
          refine (spSigns_any _ _ _ _ _ _ _ _ (ISl.drewN H'.out _) hm' hm2).mono ?_
          rw [K3.out]
          rintro e w' ⟨m3, rfl, rfl⟩
          go_wp2
          go_loopw [8, 37] (fun s i wr => ∃ k q r : Nat, k ≤ len ∧ i = .int .i64 k ∧ s = .float .f32 r ∧ wr = w.drewN q ∧ Hid (cn .f32 r = sumT (sqT (sfT xa xb cs)) k)) (fun _ i _ => len - (intOf i).toNat)
          case atStart => exact ⟨0, _, 0, Nat.zero_le _, rfl, rfl, rfl, Lib.hid cn_zero⟩
          case round =>
            obtain ⟨k, q, r, hk, rfl, rfl, rfl, hr⟩ := hrel
            by_cases hlt : k < len
            · obtain ⟨lo, hi, e1, e2, l1, l2, ht⟩ := sf_nat (cs := cs) (by have := HSa.out k (by rw [HL.out]; exact hlt); rw [HL2.out]; exact this) (by have := HSb.out k (by rw [HL'.out]; exact hlt); rw [HL2.out]; exact this)
              rw [HL2.out] at l2
              obtain ⟨b, off, rfl, _, hcs⟩ := H.out.at (by omega)
              obtain ⟨b', off', rfl, _, hcs'⟩ := H'.out.at (by omega)
              have hck := hcs k hlt
              have hck' := hcs' k hlt
              have HMin := Lib.hid (fun W => l00min_any (xa.getD k 0) (xb.getD k 0) W)
              have HMax := Lib.hid (fun W => l00max_any (xa.getD k 0) (xb.getD k 0) W)
              rw [e1] at HMin
              rw [e2] at HMax
              have HT := Lib.hid ht
              clear e1 e2 ht hcs hcs'
              generalize xa.getD k 0 = x at *
              generalize xb.getD k 0 = y at *
              have HStep := Lib.hid (show ∀ d, cn .f32 d = sfT xa xb cs k → ∀ w1 w2, cn .f32 (fopR .add .f32 r (fopR .mul .f32 d d w1) w2) = sumT (sqT (sfT xa xb cs)) (k + 1) from fun d hd w1 w2 => by rw [cn_fopR, cn_fopR, hr.out, hd]; rfl)
              by_cases hg : hi - lo ≤ 1
              · have hd : decide ((1 : Int) < (hi : Int) - (lo : Int)) = false := decide_eq_false (by omega)
                have HN := Lib.hid (HStep.out 0 (by rw [HT.out, if_pos hg]; exact cn_zero))
                clear HStep hr HT
                go_wp2
                go_quiet ((go_at_call 80; exact quiet_add_V (HMin.out _)))
                go_wp2
                go_quiet ((go_at_call 81; exact quiet_add_V (HMax.out _)))
                go_wp2
                go_roundw
                case rel => exact ⟨k + 1, _, _, by omega, by go_num, rfl, by first | rfl | simp only [World.drewN_drewN], Lib.hid (HN.out _ _)⟩
                case measure => simp [intOf]; omega
              · have hd : decide ((1 : Int) < (hi : Int) - (lo : Int)) = true := decide_eq_true (by omega)
                have HV := Lib.hid (HT.out.trans (if_neg hg))
                obtain ⟨h1, rfl⟩ : ∃ h1, hi = h1 + 1 := ⟨hi - 1, by omega⟩
                obtain ⟨b3, off3, rfl, _, hcs3⟩ := H2.out.at (by omega)
                have hck3 := hcs3 h1 (by omega)
                have hck4 := hcs3 lo (by omega)
                rw [Nat.add_sub_cancel] at HV
                have HN := Lib.hid (fun w0 => HStep.out (fopR .sub .f32 (cs.getD h1 0) (cs.getD lo 0) w0) (by rw [cn_fopR, HV.out]))
                generalize cs.getD h1 0 = z at *
                generalize cs.getD lo 0 = z2 at *
                clear HStep hr HT HV hcs3
                go_wp2
                go_quiet ((go_at_call 80; exact quiet_add_V (HMin.out _)))
                go_wp2
                go_quiet ((go_at_call 81; exact quiet_add_V (HMax.out _)))
                go_wp2
                go_region
                all_goals
                  go_wp2
                  go_roundw
                  case rel => exact ⟨k + 1, _, _, by omega, by go_num, rfl, by first | rfl | simp only [World.drewN_drewN], Lib.hid (HN.out _ _ _)⟩
                  case measure => simp [intOf]; omega
            · have e : k = len := by omega
              have HR := Lib.hid (show cn .f32 r = sumT (sqT (sfT xa xb cs)) xa.length by rw [hr.out, HL.out, e])
              clear hr e
              go_wp2_with fail
              refine (specRoot_any _ _).mono ?_
              rintro e w' ⟨x, m4, hx, rfl, rfl⟩
              have HX := Lib.hid (show cn .f32 x = sfX xa xb cs by rw [hx]; unfold sfX rosX; rw [← HR.out]; exact (root32_cn r).symm)
              clear hx
              go_wp2_with fail
              refine (specNumber_any _ _).mono ?_
              rintro e w' ⟨r', n', hr', rfl, rfl⟩
              have W := Lib.hid (sf_end hr' HOk.out HX.out)
              clear hr'
              go_wp2
              go_ret2
              exact ⟨r', W.out.1, by rw [← W.out.2]; rfl, below_drewN (Below.refl _ _) _⟩
        · have hne : ((len : Int) != (len' : Int)) = true := by rw [bne_iff_ne]; omega
          have HB := Lib.hid (sf_bad (xa := xa) (xb := xb) (cs := cs) (by unfold sfOk; rw [HL.out, HL'.out, decide_eq_false hll]; simp))
          clear k1 k2 k3 hll
          go_enter Try.func36, Try.ntmps36
          go_wp2_with fail
          refine (spCuts_any _ _ _ _ _ H2.out hm2).mono ?_
          rw [K1.out]
          rintro e w' ⟨m, rfl, rfl⟩
          go_wp2_with fail
          refine (spSigns_any _ _ _ _ _ _ _ _ (ISl.drewN H.out _) hm hm2).mono ?_
          rw [K2.out]
          rintro e w' ⟨m2, rfl, rfl⟩
          go_wp2_with fail
          refine (spSigns_any _ _ _ _ _ _ _ _ (ISl.drewN H'.out _) hm' hm2).mono ?_
          rw [K3.out]
          rintro e w' ⟨m3, rfl, rfl⟩
          go_wp2
          go_ret2
          exact ⟨0, by rw [HB.out.2]; exact cn_zero, by rw [HB.out.1]; rfl, below_drewN (Below.refl _ _) _⟩
end Go.Proofs.Ytpaelafopjmklaa
