/-
  StepState of the program.
-/
import Derived.Test.YtgddfhmddkhaeaaStp
import Derived.Test.YtgddfhmddkhaeaaRgm
import Derived.Test.YtgddfhmddkhaeaaCUnd
import Derived.Test.YtgddfhmddkhaeaaCis
import Derived.Deep.DeepCutAuto
namespace Go.Proofs.Ytgddfhmddkhaeaa
open Ieee Go.RowKit
set_option linter.unusedVariables false
def stR (W : World) (B ps l s b off len cap k : Nat) (zs : List Nat) (c0 c1 c2 c3 x r M N : Nat) : Nat → Value → World → Prop
  | 0, v, w => v = (.pointer (some ⟨ps, 0, none⟩))
  | 1, v, w => v = (.float .f32 l)
  | 2, v, w => v = (.float .f32 N)
  | 3, v, w => ∃ r, v = .float .f32 r ∧ cn .f32 r = (aop .add .f32 (cn .f32 l) (cn .f32 N))
  | 4, v, w => v = (.pointer (some ⟨ps + 1, 0, none⟩))
  | 5, v, w => v = (.float .f32 c0)
  | 6, v, w => v = (.float .f32 M)
  | 7, v, w => ∃ r, v = .float .f32 r ∧ cn .f32 r = (aop .mul .f32 (cn .f32 c0) (cn .f32 M))
  | 8, v, w => ∃ r, v = .float .f32 r ∧ cn .f32 r = (aop .add .f32 (aop .add .f32 (cn .f32 l) (cn .f32 N)) (aop .mul .f32 (cn .f32 c0) (cn .f32 M)))
  | 9, v, w => v = (.float .f32 N)
  | 10, v, w => v = (.pointer (some ⟨ps + 1, 0, none⟩))
  | 11, v, w => v = (.float .f32 c0)
  | 12, v, w => v = (.pointer (some ⟨ps + 1, 1, none⟩))
  | 13, v, w => v = (.float .f32 c1)
  | 14, v, w => ∃ r, v = .float .f32 r ∧ cn .f32 r = (aop .mul .f32 (cn .f32 c0) (cn .f32 c1))
  | 15, v, w => v = (.float .f32 M)
  | 16, v, w => ∃ r, v = .float .f32 r ∧ cn .f32 r = (aop .mul .f32 (aop .mul .f32 (cn .f32 c0) (cn .f32 c1)) (cn .f32 M))
  | 17, v, w => ∃ r, v = .float .f32 r ∧ cn .f32 r = (aop .add .f32 (cn .f32 N) (aop .mul .f32 (aop .mul .f32 (cn .f32 c0) (cn .f32 c1)) (cn .f32 M)))
  | 18, v, w => v = (.pointer (some ⟨ps, 2, none⟩))
  | 19, v, w => v = (.slice (some ⟨b, off, none⟩) len cap)
  | 20, v, w => FOwn 22 B w v zs
  | 21, v, w => v = (.pointer (some ⟨ps, 3, none⟩))
  | 22, v, w => v = (.int .i64 k)
  | 23, v, w => v = (.int .i64 ((k : Int) + 1))
  | 24, v, w => v = (.pointer (some ⟨ps, 2, none⟩))
  | 25, v, w => v = (.slice (some ⟨b, off, none⟩) len cap)
  | 26, v, w => v = (.int .i64 (len : Int))
  | 27, v, w => v = (.int .i64 (((k : Int) + 1) % (len : Int)))
  | 28, v, w => ∃ L S v0, v = .agg #[.float .f32 L, .float .f32 S, v0, .int .i64 (((k : Int) + 1) % (len : Int))] ∧ cn .f32 L = (aop .add .f32 (aop .add .f32 (cn .f32 l) (cn .f32 N)) (aop .mul .f32 (cn .f32 c0) (cn .f32 M))) ∧ cn .f32 S = (aop .add .f32 (cn .f32 N) (aop .mul .f32 (aop .mul .f32 (cn .f32 c0) (cn .f32 c1)) (cn .f32 M))) ∧ FOwn 22 B w v0 zs
  | 29, v, w => ∃ g, v = .pointer (some ⟨g, 0, none⟩) ∧ W.heap.size ≤ g ∧ CIs w g [.float .f32 0, .float .f32 0, .slice none 0 0, .int .i64 0] ∧ ∃ cs, w.heap[g]? = some (.cells cs 29)
  | _, _, _ => True
theorem stR_mono (W : World) (B ps l s b off len cap k : Nat) (zs : List Nat) (c0 c1 c2 c3 x r M N : Nat) : ∀ i v w w', stR W B ps l s b off len cap k zs c0 c1 c2 c3 x r M N i v w → Below w.heap.size w w' → stR W B ps l s b off len cap k zs c0 c1 c2 c3 x r M N i v w'
  := by
  intro i v w w' h hb
  unfold stR at *
  split
  · exact h
  · exact h
  · exact h
  · exact h
  · exact h
  · exact h
  · exact h
  · exact h
  · exact h
  · exact h
  · exact h
  · exact h
  · exact h
  · exact h
  · exact h
  · exact h
  · exact h
  · exact h
  · exact h
  · exact h
  · exact (FOwn.keepS h hb)
  · exact h
  · exact h
  · exact h
  · exact h
  · exact h
  · exact h
  · exact h
  · exact (by obtain ⟨L, S, v0, h1, h2, h3, h4⟩ := h; exact ⟨L, S, v0, h1, h2, h3, FOwn.keepS h4 hb⟩)
  · exact (by obtain ⟨g, h1, h2, h3, cs, h4⟩ := h; exact ⟨g, h1, h2, h3.below hb, cs, by rw [hb.block g h3.1]; exact h4⟩)
  · trivial
set_option maxHeartbeats 4000000 in
set_option maxRecDepth 100000 in
theorem imStp_any (l s : Nat) (a : Option Addr) (len cap : Nat) (zs : List Nat) (t : Int) (c0 c1 c2 c3 x : Nat) (w : World) (h : FSl w a len zs) (hm : len ≤ 1048576) :
    Calls Try.prog 19 #[.agg #[.float .f32 l, .float .f32 s, .slice a len cap, .int .i64 t], .agg #[.float .f32 c0, .float .f32 c1, .float .f32 c2, .float .f32 c3], .float .f32 x] w (RetStp 22 ⟨l, s, zs, t⟩ c0 c1 c2 c3 x w) := by
  have HRES := Lib.hid (show Try.f19.results = #[.cell 6 29, .tmp 7, .tmp 8] by kernel_rfl)
  have G := Lib.hid ((((Below.refl w.heap.size w).alloc (Nat.le_refl _) (.cells #[.float .f32 l, .float .f32 s, .slice a len cap, .int .i64 t] 29)).alloc (by simp) (.cells #[.float .f32 c0, .float .f32 c1, .float .f32 c2, .float .f32 c3] 33)).alloc (by simp; omega) (.cells #[.float .f32 0, .float .f32 0, .slice none 0 0, .int .i64 0] 29))
  have HS := Lib.hid (((StIn.new w l s a len cap t 29).alloc (.cells #[.float .f32 c0, .float .f32 c1, .float .f32 c2, .float .f32 c3] 33)).alloc (.cells #[.float .f32 0, .float .f32 0, .slice none 0 0, .int .i64 0] 29))
  have HH := Lib.hid ((show ShIn ((w.alloc (.cells #[.float .f32 l, .float .f32 s, .slice a len cap, .int .i64 t] 29)).alloc (.cells #[.float .f32 c0, .float .f32 c1, .float .f32 c2, .float .f32 c3] 33)) (w.heap.size + 1) c0 c1 c2 c3 from by simpa using ShIn.new (w.alloc (.cells #[.float .f32 l, .float .f32 s, .slice a len cap, .int .i64 t] 29)) c0 c1 c2 c3 33).alloc (.cells #[.float .f32 0, .float .f32 0, .slice none 0 0, .int .i64 0] 29))
  have HR := Lib.hid (CIs.newAt ((w.alloc (.cells #[.float .f32 l, .float .f32 s, .slice a len cap, .int .i64 t] 29)).alloc (.cells #[.float .f32 c0, .float .f32 c1, .float .f32 c2, .float .f32 c3] 33)) [.float .f32 0, .float .f32 0, .slice none 0 0, .int .i64 0] 29 (p := w.heap.size + 1 + 1) (by simp))
  have HZ := Lib.hid (FSl.below h G.out)
  have HL := Lib.hid h.1
  clear h
  cases hg : guB l s zs t c0 c1 c2 c3
  · skip
    have HG := Lib.hid hg
    have HB := Lib.hid (stp_gu (x := x) hg)
    clear hg
    go_enter Try.func19, Try.ntmps19
    obtain ⟨k0, k1, k2, k3⟩ := HS.out
    obtain ⟨j0, j1, j2, j3⟩ := HH.out
    go_wp2_with fail
    refine (imGuess_any _ _ _ _ _ _ _ _ _ _ _ _ HZ.out hm).mono ?_
    rw [HG.out]
    rintro e w1 ⟨r, hr, rfl, bb⟩
    clear k0 k1 k2 k3 j0 j1 j2 j3
    have R1 := Lib.hid (HR.out.below bb)
    have G1 := Lib.hid (G.out.trans (bb.mono G.out.size))
    clear bb hr
    obtain ⟨r0, r1, r2, r3⟩ := R1.out.c4
    obtain ⟨q0, q1, q2, q3⟩ := R1.out.f4
    go_wp2_with fail
    refine bodyPost_ret (v := .tuple #[.agg #[.float .f32 0, .float .f32 0, .slice none 0 0, .int .i64 0], .float .f32 0, .bool false]) ?_ rfl (stp_no HB.out ?_)
    · have hres := HRES.out
      simp only [results, hres]
      go_simp
    · exact ((((below_drewN G1.out _).setCell (by show w.heap.size ≤ w.heap.size + 1 + 1; omega) _).setCell (by show w.heap.size ≤ w.heap.size + 1 + 1; omega) _).setCell (by show w.heap.size ≤ w.heap.size + 1 + 1; omega) _).setCell (by show w.heap.size ≤ w.heap.size + 1 + 1; omega) _
  · cases hmf : fin .f32 (stMi ⟨l, s, zs, t⟩ c3 x)
    · skip
      have HG := Lib.hid hg
      have HM := Lib.hid hmf
      have HB := Lib.hid (stp_mi (a := c0) (b := c1) (c := c2) hmf)
      clear hg hmf
      go_enter Try.func19, Try.ntmps19
      obtain ⟨k0, k1, k2, k3⟩ := HS.out
      obtain ⟨j0, j1, j2, j3⟩ := HH.out
      go_wp2_with fail
      refine (imGuess_any _ _ _ _ _ _ _ _ _ _ _ _ HZ.out hm).mono ?_
      rw [HG.out]
      rintro e w1 ⟨r, hr, rfl, bb⟩
      clear k0 k1 k2 k3 j0 j1 j2 j3
      have HMf := Lib.hid (show ∀ wq, fin .f32 (fopR .sub .f32 x r wq) = false from fun wq => by
        rw [← fin_congr (cn_cn .f32 (fopR .sub .f32 x r wq)), ← HM.out, cn_fopR, hr]
        unfold stMi sMi guR; rw [HG.out]; rfl)
      have R1 := Lib.hid (HR.out.below bb)
      have G1 := Lib.hid (G.out.trans (bb.mono G.out.size))
      clear bb hr
      go_wp2_with fail
      refine (isFinite_any _ _).mono ?_
      rw [HMf.out]
      rintro e w2 ⟨m, rfl, hw2⟩
      subst hw2
      obtain ⟨r0, r1, r2, r3⟩ := R1.out.c4
      obtain ⟨q0, q1, q2, q3⟩ := R1.out.f4
      go_wp2_with fail
      refine bodyPost_ret (v := .tuple #[.agg #[.float .f32 0, .float .f32 0, .slice none 0 0, .int .i64 0], .float .f32 0, .bool false]) ?_ rfl (stp_no HB.out ?_)
      · have hres := HRES.out
        simp only [results, hres]
        go_simp
      · first
          | exact ((((below_drewN G1.out _).setCell (by show w.heap.size ≤ w.heap.size + 1 + 1; omega) _).setCell (by show w.heap.size ≤ w.heap.size + 1 + 1; omega) _).setCell (by show w.heap.size ≤ w.heap.size + 1 + 1; omega) _).setCell (by show w.heap.size ≤ w.heap.size + 1 + 1; omega) _
          | exact ((((below_drewN (below_drewN G1.out _) _).setCell (by show w.heap.size ≤ w.heap.size + 1 + 1; omega) _).setCell (by show w.heap.size ≤ w.heap.size + 1 + 1; omega) _).setCell (by show w.heap.size ≤ w.heap.size + 1 + 1; omega) _).setCell (by show w.heap.size ≤ w.heap.size + 1 + 1; omega) _
    · have hst : stB l s zs t = true := by unfold guB at hg; simp only [Bool.and_eq_true] at hg; exact hg.1.1
      have hsh : shB4 c0 c1 c2 c3 = true := by unfold guB at hg; simp only [Bool.and_eq_true] at hg; exact hg.1.2
      obtain ⟨-, -, -, ht0, ht1⟩ := stB_t hst
      rw [HL.out] at ht1
      obtain ⟨k, rfl⟩ : ∃ k : Nat, t = (k : Int) := ⟨t.toNat, by omega⟩
      have hkl : k < len := by omega
      have hl0 : 0 < len := by omega
      obtain ⟨b, off, rfl, hbl, -⟩ := HZ.out.at hl0
      have HG := Lib.hid hg
      have HM := Lib.hid hmf
      have HV := Lib.hid (show (stOk ⟨l, s, zs, k⟩ && shB4 c0 c1 c2 c3) = true by unfold stOk; rw [hst, hsh]; rfl)
      clear hg hmf hst hsh ht0 ht1 hbl
      go_enter Try.func19, Try.ntmps19
      obtain ⟨k0, k1, k2, k3⟩ := HS.out
      obtain ⟨j0, j1, j2, j3⟩ := HH.out
      go_wp2_with fail
      refine (imGuess_any _ _ _ _ _ _ _ _ _ _ _ _ HZ.out hm).mono ?_
      rw [HG.out]
      rintro e w1 ⟨r, hr, rfl, bb⟩
      clear k0 k1 k2 k3 j0 j1 j2 j3
      have HMi := Lib.hid (show ∀ wq, cn .f32 (fopR .sub .f32 x r wq) = stMi ⟨l, s, zs, k⟩ c3 x from fun wq => by rw [cn_fopR, hr]; unfold stMi sMi guR; rw [HG.out]; rfl)
      have HMf := Lib.hid (show ∀ wq, fin .f32 (fopR .sub .f32 x r wq) = true from fun wq => by rw [← fin_congr (cn_cn .f32 (fopR .sub .f32 x r wq)), HMi.out, HM.out])
      replace G := Lib.hid (G.out.trans (bb.mono G.out.size))
      replace HS := Lib.hid (HS.out.below bb)
      replace HH := Lib.hid (HH.out.below bb)
      replace HR := Lib.hid (HR.out.below bb)
      replace HZ := Lib.hid (FSl.below HZ.out bb)
      clear bb hr
      go_wp2_with fail
      refine (isFinite_any _ _).mono ?_
      rw [HMf.out]
      rintro e w2 ⟨m, rfl, hw2⟩
      subst hw2
      have hMc := HMi.out w1
      have hMf := HMf.out w1
      clear HMi HMf
      generalize fopR BinOp.sub FloatKind.f32 x r w1 = M at *
      replace G := Lib.hid (below_drewN (below_drewN G.out (fopN BinOp.sub FloatKind.f32 x r)) m)
      replace HS := Lib.hid ((HS.out.drewN (fopN BinOp.sub FloatKind.f32 x r)).drewN m)
      replace HH := Lib.hid ((HH.out.drewN (fopN BinOp.sub FloatKind.f32 x r)).drewN m)
      replace HR := Lib.hid ((HR.out.drewN (fopN BinOp.sub FloatKind.f32 x r)).drewN m)
      replace HZ := Lib.hid (FSl.drewN (FSl.drewN HZ.out (fopN BinOp.sub FloatKind.f32 x r)) m)
      generalize (w1.drewN (fopN BinOp.sub FloatKind.f32 x r)).drewN m = W2 at *
      obtain ⟨k0, k1, k2, k3⟩ := HS.out
      obtain ⟨j0, j1, j2, j3⟩ := HH.out
      go_upto_region 6 with fail
      clear k0 k1 k2 k3 j0 j1 j2 j3
      have hNc : cn .f32 (fopR BinOp.mul FloatKind.f32 c3 s W2) = sSl s c3 := by rw [cn_fopR]; rfl
      generalize fopR BinOp.mul FloatKind.f32 c3 s W2 = N at *
      replace G := Lib.hid (below_drewN G.out (fopN BinOp.mul FloatKind.f32 c3 s))
      replace HS := Lib.hid (HS.out.drewN (fopN BinOp.mul FloatKind.f32 c3 s))
      replace HH := Lib.hid (HH.out.drewN (fopN BinOp.mul FloatKind.f32 c3 s))
      replace HR := Lib.hid (HR.out.drewN (fopN BinOp.mul FloatKind.f32 c3 s))
      replace HZ := Lib.hid (FSl.drewN HZ.out (fopN BinOp.mul FloatKind.f32 c3 s))
      generalize W2.drewN (fopN BinOp.mul FloatKind.f32 c3 s) = W at *
      have HBs := Lib.hid (show w.heap.size ≤ W.heap.size from G.out.size)
      refine wp_region_ML (m := 30) (stR W W.heap.size w.heap.size l s b off len cap k zs c0 c1 c2 c3 x r M N) (by kernel_rfl) (stR_mono W W.heap.size w.heap.size l s b off len cap k zs c0 c1 c2 c3 x r M N) (by kernel_rfl) (by kernel_rfl) (by rfl) (by rfl) (by rfl) ?_ ?_
      · refine ⟨?_, ?_, ?_, ?_, ?_, ?_, ?_, ?_, ?_, ?_, ?_, ?_, ?_, ?_, ?_, ?_, ?_, ?_, ?_, ?_, ?_, ?_, ?_, ?_, ?_, ?_, ?_, ?_, ?_, ?_, trivial⟩
        · refine opM_do rfl (fun a_ w' hS hf K hK => ?_)
          have s3 : a_.tmps.getD 3 undef = (.pointer (some ⟨w.heap.size, 0, none⟩)) := (hS.rest 3 (by kernel_rfl)).trans rfl
          go_simp
          exact hK _ _ (Below.refl _ _) rfl
        · refine opM_do rfl (fun a_ w' hS hf K hK => ?_)
          have s37 : a_.tmps.getD 37 undef = (.pointer (some ⟨w.heap.size, 0, none⟩)) := hf 0 (by kernel_rfl) _ 37 rfl rfl
          obtain ⟨k0, k1, k2, k3⟩ := StIn.below HS.out.drew hS.below
          obtain ⟨j0, j1, j2, j3⟩ := ShIn.below HH.out.drew hS.below
          go_simp
          exact hK _ _ (Below.refl _ _) rfl
        · refine opM_do rfl (fun a_ w' hS hf K hK => ?_)
          have s12 : a_.tmps.getD 12 undef = (.float .f32 N) := (hS.rest 12 (by kernel_rfl)).trans rfl
          go_simp
          exact hK _ _ (Below.refl _ _) rfl
        · refine opM_do rfl (fun a_ w' hS hf K hK => ?_)
          have s38 : a_.tmps.getD 38 undef = (.float .f32 l) := hf 1 (by kernel_rfl) _ 38 rfl rfl
          have s39 : a_.tmps.getD 39 undef = (.float .f32 N) := hf 2 (by kernel_rfl) _ 39 rfl rfl
          go_simp
          exact hK _ _ (by first | exact Below.refl _ _ | exact below_drewN (Below.refl _ _) _) ⟨_, rfl, by first | (rw [cn_fopR]; done) | rw [cn_fopR, cn_one32] | rw [cn_fopR, List.getD_eq_getElem?_getD]⟩
        · refine opM_do rfl (fun a_ w' hS hf K hK => ?_)
          have s4 : a_.tmps.getD 4 undef = (.pointer (some ⟨w.heap.size + 1, 0, none⟩)) := (hS.rest 4 (by kernel_rfl)).trans rfl
          go_simp
          exact hK _ _ (Below.refl _ _) rfl
        · refine opM_do rfl (fun a_ w' hS hf K hK => ?_)
          have s41 : a_.tmps.getD 41 undef = (.pointer (some ⟨w.heap.size + 1, 0, none⟩)) := hf 4 (by kernel_rfl) _ 41 rfl rfl
          obtain ⟨k0, k1, k2, k3⟩ := StIn.below HS.out.drew hS.below
          obtain ⟨j0, j1, j2, j3⟩ := ShIn.below HH.out.drew hS.below
          go_simp
          exact hK _ _ (Below.refl _ _) rfl
        · refine opM_do rfl (fun a_ w' hS hf K hK => ?_)
          have s11 : a_.tmps.getD 11 undef = (.float .f32 M) := (hS.rest 11 (by kernel_rfl)).trans rfl
          go_simp
          exact hK _ _ (Below.refl _ _) rfl
        · refine opM_do rfl (fun a_ w' hS hf K hK => ?_)
          have s42 : a_.tmps.getD 42 undef = (.float .f32 c0) := hf 5 (by kernel_rfl) _ 42 rfl rfl
          have s43 : a_.tmps.getD 43 undef = (.float .f32 M) := hf 6 (by kernel_rfl) _ 43 rfl rfl
          go_simp
          exact hK _ _ (by first | exact Below.refl _ _ | exact below_drewN (Below.refl _ _) _) ⟨_, rfl, by first | (rw [cn_fopR]; done) | rw [cn_fopR, cn_one32] | rw [cn_fopR, List.getD_eq_getElem?_getD]⟩
        · refine opM_do rfl (fun a_ w' hS hf K hK => ?_)
          obtain ⟨r40, s40, e40⟩ := (show ∃ r, a_.tmps.getD 40 undef = .float .f32 r ∧ cn .f32 r = (aop .add .f32 (cn .f32 l) (cn .f32 N)) from hf 3 (by kernel_rfl) _ 40 rfl rfl)
          obtain ⟨r44, s44, e44⟩ := (show ∃ r, a_.tmps.getD 44 undef = .float .f32 r ∧ cn .f32 r = (aop .mul .f32 (cn .f32 c0) (cn .f32 M)) from hf 7 (by kernel_rfl) _ 44 rfl rfl)
          go_simp
          exact hK _ _ (by first | exact Below.refl _ _ | exact below_drewN (Below.refl _ _) _) ⟨_, rfl, by first | (rw [cn_fopR, e40, e44]; done) | rw [cn_fopR, e40, e44, cn_one32] | rw [cn_fopR, e40, e44, List.getD_eq_getElem?_getD]⟩
        · refine opM_do rfl (fun a_ w' hS hf K hK => ?_)
          have s12 : a_.tmps.getD 12 undef = (.float .f32 N) := (hS.rest 12 (by kernel_rfl)).trans rfl
          go_simp
          exact hK _ _ (Below.refl _ _) rfl
        · refine opM_do rfl (fun a_ w' hS hf K hK => ?_)
          have s4 : a_.tmps.getD 4 undef = (.pointer (some ⟨w.heap.size + 1, 0, none⟩)) := (hS.rest 4 (by kernel_rfl)).trans rfl
          go_simp
          exact hK _ _ (Below.refl _ _) rfl
        · refine opM_do rfl (fun a_ w' hS hf K hK => ?_)
          have s47 : a_.tmps.getD 47 undef = (.pointer (some ⟨w.heap.size + 1, 0, none⟩)) := hf 10 (by kernel_rfl) _ 47 rfl rfl
          obtain ⟨k0, k1, k2, k3⟩ := StIn.below HS.out.drew hS.below
          obtain ⟨j0, j1, j2, j3⟩ := ShIn.below HH.out.drew hS.below
          go_simp
          exact hK _ _ (Below.refl _ _) rfl
        · refine opM_do rfl (fun a_ w' hS hf K hK => ?_)
          have s4 : a_.tmps.getD 4 undef = (.pointer (some ⟨w.heap.size + 1, 0, none⟩)) := (hS.rest 4 (by kernel_rfl)).trans rfl
          go_simp
          exact hK _ _ (Below.refl _ _) rfl
        · refine opM_do rfl (fun a_ w' hS hf K hK => ?_)
          have s49 : a_.tmps.getD 49 undef = (.pointer (some ⟨w.heap.size + 1, 1, none⟩)) := hf 12 (by kernel_rfl) _ 49 rfl rfl
          obtain ⟨k0, k1, k2, k3⟩ := StIn.below HS.out.drew hS.below
          obtain ⟨j0, j1, j2, j3⟩ := ShIn.below HH.out.drew hS.below
          go_simp
          exact hK _ _ (Below.refl _ _) rfl
        · refine opM_do rfl (fun a_ w' hS hf K hK => ?_)
          have s48 : a_.tmps.getD 48 undef = (.float .f32 c0) := hf 11 (by kernel_rfl) _ 48 rfl rfl
          have s50 : a_.tmps.getD 50 undef = (.float .f32 c1) := hf 13 (by kernel_rfl) _ 50 rfl rfl
          go_simp
          exact hK _ _ (by first | exact Below.refl _ _ | exact below_drewN (Below.refl _ _) _) ⟨_, rfl, by first | (rw [cn_fopR]; done) | rw [cn_fopR, cn_one32] | rw [cn_fopR, List.getD_eq_getElem?_getD]⟩
        · refine opM_do rfl (fun a_ w' hS hf K hK => ?_)
          have s11 : a_.tmps.getD 11 undef = (.float .f32 M) := (hS.rest 11 (by kernel_rfl)).trans rfl
          go_simp
          exact hK _ _ (Below.refl _ _) rfl
        · refine opM_do rfl (fun a_ w' hS hf K hK => ?_)
          obtain ⟨r51, s51, e51⟩ := (show ∃ r, a_.tmps.getD 51 undef = .float .f32 r ∧ cn .f32 r = (aop .mul .f32 (cn .f32 c0) (cn .f32 c1)) from hf 14 (by kernel_rfl) _ 51 rfl rfl)
          have s52 : a_.tmps.getD 52 undef = (.float .f32 M) := hf 15 (by kernel_rfl) _ 52 rfl rfl
          go_simp
          exact hK _ _ (by first | exact Below.refl _ _ | exact below_drewN (Below.refl _ _) _) ⟨_, rfl, by first | (rw [cn_fopR, e51]; done) | rw [cn_fopR, e51, cn_one32] | rw [cn_fopR, e51, List.getD_eq_getElem?_getD]⟩
        · refine opM_do rfl (fun a_ w' hS hf K hK => ?_)
          have s46 : a_.tmps.getD 46 undef = (.float .f32 N) := hf 9 (by kernel_rfl) _ 46 rfl rfl
          obtain ⟨r53, s53, e53⟩ := (show ∃ r, a_.tmps.getD 53 undef = .float .f32 r ∧ cn .f32 r = (aop .mul .f32 (aop .mul .f32 (cn .f32 c0) (cn .f32 c1)) (cn .f32 M)) from hf 16 (by kernel_rfl) _ 53 rfl rfl)
          go_simp
          exact hK _ _ (by first | exact Below.refl _ _ | exact below_drewN (Below.refl _ _) _) ⟨_, rfl, by first | (rw [cn_fopR, e53]; done) | rw [cn_fopR, e53, cn_one32] | rw [cn_fopR, e53, List.getD_eq_getElem?_getD]⟩
        · refine opM_do rfl (fun a_ w' hS hf K hK => ?_)
          have s3 : a_.tmps.getD 3 undef = (.pointer (some ⟨w.heap.size, 0, none⟩)) := (hS.rest 3 (by kernel_rfl)).trans rfl
          go_simp
          exact hK _ _ (Below.refl _ _) rfl
        · refine opM_do rfl (fun a_ w' hS hf K hK => ?_)
          have s55 : a_.tmps.getD 55 undef = (.pointer (some ⟨w.heap.size, 2, none⟩)) := hf 18 (by kernel_rfl) _ 55 rfl rfl
          obtain ⟨k0, k1, k2, k3⟩ := StIn.below HS.out.drew hS.below
          obtain ⟨j0, j1, j2, j3⟩ := ShIn.below HH.out.drew hS.below
          go_simp
          exact hK _ _ (Below.refl _ _) rfl
        · refine opM_do rfl (fun a_ w' hS hf K hK => ?_)
          have s56 : a_.tmps.getD 56 undef = (.slice (some ⟨b, off, none⟩) len cap) := hf 19 (by kernel_rfl) _ 56 rfl rfl
          have F1 := FSl.below (FSl.drewN HZ.out 1) hS.below
          have hB := hS.below.size
          clear hf hS
          go_simp
          refine (clone_any _ _ _ _ zs _ F1 hl0 hm).mono ?_
          rintro e u ⟨v, rfl, ho, bb⟩
          exact hK _ _ bb (ho.mono hB)
        · refine opM_do rfl (fun a_ w' hS hf K hK => ?_)
          have s3 : a_.tmps.getD 3 undef = (.pointer (some ⟨w.heap.size, 0, none⟩)) := (hS.rest 3 (by kernel_rfl)).trans rfl
          go_simp
          exact hK _ _ (Below.refl _ _) rfl
        · refine opM_do rfl (fun a_ w' hS hf K hK => ?_)
          have s58 : a_.tmps.getD 58 undef = (.pointer (some ⟨w.heap.size, 3, none⟩)) := hf 21 (by kernel_rfl) _ 58 rfl rfl
          obtain ⟨k0, k1, k2, k3⟩ := StIn.below HS.out.drew hS.below
          obtain ⟨j0, j1, j2, j3⟩ := ShIn.below HH.out.drew hS.below
          go_simp
          exact hK _ _ (Below.refl _ _) rfl
        · refine opM_do rfl (fun a_ w' hS hf K hK => ?_)
          have s59 : a_.tmps.getD 59 undef = (.int .i64 k) := hf 22 (by kernel_rfl) _ 59 rfl rfl
          have hw : IntKind.i64.wrap ((k : Int) + 1) = (k : Int) + 1 := by rw [IntKind.wrap_i64]; omega
          go_simp
          exact hK _ _ (Below.refl _ _) rfl
        · refine opM_do rfl (fun a_ w' hS hf K hK => ?_)
          have s3 : a_.tmps.getD 3 undef = (.pointer (some ⟨w.heap.size, 0, none⟩)) := (hS.rest 3 (by kernel_rfl)).trans rfl
          go_simp
          exact hK _ _ (Below.refl _ _) rfl
        · refine opM_do rfl (fun a_ w' hS hf K hK => ?_)
          have s61 : a_.tmps.getD 61 undef = (.pointer (some ⟨w.heap.size, 2, none⟩)) := hf 24 (by kernel_rfl) _ 61 rfl rfl
          obtain ⟨k0, k1, k2, k3⟩ := StIn.below HS.out.drew hS.below
          obtain ⟨j0, j1, j2, j3⟩ := ShIn.below HH.out.drew hS.below
          go_simp
          exact hK _ _ (Below.refl _ _) rfl
        · refine opM_do rfl (fun a_ w' hS hf K hK => ?_)
          have s62 : a_.tmps.getD 62 undef = (.slice (some ⟨b, off, none⟩) len cap) := hf 25 (by kernel_rfl) _ 62 rfl rfl
          go_simp
          exact hK _ _ (Below.refl _ _) rfl
        · refine opM_do rfl (fun a_ w' hS hf K hK => ?_)
          have s60 : a_.tmps.getD 60 undef = (.int .i64 ((k : Int) + 1)) := hf 23 (by kernel_rfl) _ 60 rfl rfl
          have s63 : a_.tmps.getD 63 undef = (.int .i64 (len : Int)) := hf 26 (by kernel_rfl) _ 63 rfl rfl
          have hne : ((len : Int) == 0) = false := by rw [beq_eq_false_iff_ne]; omega
          have hr : Int.tmod ((k : Int) + 1) (len : Int) = ((k : Int) + 1) % (len : Int) := Int.tmod_eq_emod_of_nonneg (by omega)
          go_simp
          rw [if_neg (show ¬ len = 0 by omega)]
          exact hK _ _ (Below.refl _ _) rfl
        · refine opM_do rfl (fun a_ w' hS hf K hK => ?_)
          obtain ⟨r45, s45, e45⟩ := (show ∃ r, a_.tmps.getD 45 undef = .float .f32 r ∧ cn .f32 r = (aop .add .f32 (aop .add .f32 (cn .f32 l) (cn .f32 N)) (aop .mul .f32 (cn .f32 c0) (cn .f32 M))) from hf 8 (by kernel_rfl) _ 45 rfl rfl)
          obtain ⟨r54, s54, e54⟩ := (show ∃ r, a_.tmps.getD 54 undef = .float .f32 r ∧ cn .f32 r = (aop .add .f32 (cn .f32 N) (aop .mul .f32 (aop .mul .f32 (cn .f32 c0) (cn .f32 c1)) (cn .f32 M))) from hf 17 (by kernel_rfl) _ 54 rfl rfl)
          have o57 := (show FOwn 22 W.heap.size w' (a_.tmps.getD 57 undef) zs from hf 20 (by kernel_rfl) _ 57 rfl rfl)
          have s64 : a_.tmps.getD 64 undef = (.int .i64 (((k : Int) + 1) % (len : Int))) := hf 27 (by kernel_rfl) _ 64 rfl rfl
          obtain ⟨A57, cp57, h57, -, -⟩ := o57.sl
          rw [h57] at o57
          have q45 : a_.tmps[45]?.getD undef = .float .f32 r45 := by rw [← Array.getD_eq_getD_getElem?]; exact s45
          have q54 : a_.tmps[54]?.getD undef = .float .f32 r54 := by rw [← Array.getD_eq_getD_getElem?]; exact s54
          have q57 : a_.tmps[57]?.getD undef = .slice A57 zs.length cp57 := by rw [← Array.getD_eq_getD_getElem?]; exact h57
          have q64 : a_.tmps[64]?.getD undef = .int .i64 (((k : Int) + 1) % (len : Int)) := by rw [← Array.getD_eq_getD_getElem?]; exact s64
          go_simp
          exact hK _ _ (Below.refl _ _) ⟨_, _, _, rfl, e45, e54, o57⟩
        · refine opM_do rfl (fun a_ w' hS hf K hK => ?_)
          have hB := hS.below.size
          have HN := CIs.newAt w' [.float .f32 0, .float .f32 0, .slice none 0 0, .int .i64 0] 29 rfl
          clear hf hS
          go_simp
          exact hK _ _ ((Below.refl _ _).alloc (Nat.le_refl _) _) ⟨w'.heap.size, rfl, hB, HN, _, heap_alloc_new w' _⟩
      · intro vs a_ w' hb hv ha
        have hlit : a_ = ⟨#[Value.agg #[Value.float FloatKind.f32 l, Value.float FloatKind.f32 s, Value.slice (some ⟨b, off, none⟩) len cap, Value.int IntKind.i64 k], Value.agg #[Value.float FloatKind.f32 c0, Value.float FloatKind.f32 c1, Value.float FloatKind.f32 c2, Value.float FloatKind.f32 c3], Value.float FloatKind.f32 x, Value.pointer (some ⟨w.heap.size, 0, none⟩), Value.pointer (some ⟨w.heap.size + 1, 0, none⟩), undef, Value.pointer (some ⟨w.heap.size + 1 + 1, 0, none⟩), Value.float FloatKind.f32 0, Value.bool false, Value.float FloatKind.f32 r, Value.bool true, Value.float FloatKind.f32 M, Value.float FloatKind.f32 N, vs 29, undef, Value.tuple #[Value.float FloatKind.f32 r, Value.bool true], Value.agg #[Value.float FloatKind.f32 l, Value.float FloatKind.f32 s, Value.slice (some ⟨b, off, none⟩) len cap, Value.int IntKind.i64 k], Value.agg #[Value.float FloatKind.f32 c0, Value.float FloatKind.f32 c1, Value.float FloatKind.f32 c2, Value.float FloatKind.f32 c3], Value.tuple #[Value.float FloatKind.f32 r, Value.bool true], Value.float FloatKind.f32 r, Value.bool true, Value.float FloatKind.f32 x, Value.float FloatKind.f32 r, Value.float FloatKind.f32 M, Value.bool true, Value.bool false, Value.bool false, Value.float FloatKind.f32 M, Value.bool true, Value.bool false, Value.bool false, undef, Value.pointer (some ⟨w.heap.size + 1, 3, none⟩), Value.float FloatKind.f32 c3, Value.pointer (some ⟨w.heap.size, 1, none⟩), Value.float FloatKind.f32 s, Value.float FloatKind.f32 N, vs 0, vs 1, vs 2, vs 3, vs 4, vs 5, vs 6, vs 7, vs 8, vs 9, vs 10, vs 11, vs 12, vs 13, vs 14, vs 15, vs 16, vs 17, vs 18, vs 19, vs 20, vs 21, vs 22, vs 23, vs 24, vs 25, vs 26, vs 27, vs 28, undef, undef, undef, undef, undef, undef, undef, undef, undef, undef, undef, undef, undef, undef, undef, undef, undef, undef, undef, undef, undef, undef, undef], []⟩ := ha.trans (by kernel_rfl)
        clear ha
        obtain ⟨L, S, v0, e65, hLc, hSc, ho⟩ := (show ∃ L S v0, (vs 28) = .agg #[.float .f32 L, .float .f32 S, v0, .int .i64 (((k : Int) + 1) % (len : Int))] ∧ cn .f32 L = (aop .add .f32 (aop .add .f32 (cn .f32 l) (cn .f32 N)) (aop .mul .f32 (cn .f32 c0) (cn .f32 M))) ∧ cn .f32 S = (aop .add .f32 (cn .f32 N) (aop .mul .f32 (aop .mul .f32 (cn .f32 c0) (cn .f32 c1)) (cn .f32 M))) ∧ FOwn 22 W.heap.size w' v0 zs from hv 28 (by omega) (by kernel_rfl))
        obtain ⟨g, e13, hg1, hgC, cs, hgT⟩ := (show ∃ g, (vs 29) = .pointer (some ⟨g, 0, none⟩) ∧ W.heap.size ≤ g ∧ CIs w' g [.float .f32 0, .float .f32 0, .slice none 0 0, .int .i64 0] ∧ ∃ cs, w'.heap[g]? = some (.cells cs 29) from hv 29 (by omega) (by kernel_rfl))
        rw [e65, e13] at hlit
        clear hv e65 e13
        subst hlit
        obtain ⟨bA, cA, rfl, hbA1, hbA2⟩ := own_blk ho HL.out hl0
        have hb2 := (below_drewN G.out 1).trans (hb.mono (below_drewN G.out 1).size)
        have hsW : w.heap.size + 1 + 1 < W.heap.size := HR.out.1
        replace HS := Lib.hid (HS.out.drew.below hb)
        replace HH := Lib.hid (HH.out.drew.below hb)
        replace HR := Lib.hid (HR.out.drew.below hb)
        replace G := Lib.hid hb2
        clear hb hb2
        have HO := Lib.hid ho
        have HC := Lib.hid hgC
        clear ho hgC
        obtain ⟨g0, g1, g2, g3⟩ := HC.out.c4
        obtain ⟨f0, f1, f2, f3⟩ := HC.out.f4
        have hne : bA ≠ g := own_ne HO.out hgT (by decide)
        clear hgT
        go_simp
        have hgA : (Value.slice (some ⟨bA, 0, none⟩) len cA).ownBlock ≠ some g := fun e => hne (by injection e)
        have C4 := Lib.hid (show CIs ((((w'.setCell ⟨g, 0, none⟩ (.float .f32 L)).setCell ⟨g, 1, none⟩ (.float .f32 S)).setCell ⟨g, 2, none⟩ (.slice (some ⟨bA, 0, none⟩) len cA)).setCell ⟨g, 3, none⟩ (.int .i64 (((k : Int) + 1) % (len : Int)))) g [.float .f32 L, .float .f32 S, .slice (some ⟨bA, 0, none⟩) len cA, .int .i64 (((k : Int) + 1) % (len : Int))] from (((HC.out.put (by simp)).put (by simp)).put (by simp)).put (by simp))
        have S4 := Lib.hid (show StIn ((((w'.setCell ⟨g, 0, none⟩ (.float .f32 L)).setCell ⟨g, 1, none⟩ (.float .f32 S)).setCell ⟨g, 2, none⟩ (.slice (some ⟨bA, 0, none⟩) len cA)).setCell ⟨g, 3, none⟩ (.int .i64 (((k : Int) + 1) % (len : Int)))) w.heap.size l s (some ⟨b, off, none⟩) len cap k from (((HS.out.setQ (by omega)).setQ (by omega)).setQ (by omega)).setQ (by omega))
        have H4 := Lib.hid (show ShIn ((((w'.setCell ⟨g, 0, none⟩ (.float .f32 L)).setCell ⟨g, 1, none⟩ (.float .f32 S)).setCell ⟨g, 2, none⟩ (.slice (some ⟨bA, 0, none⟩) len cA)).setCell ⟨g, 3, none⟩ (.int .i64 (((k : Int) + 1) % (len : Int)))) (w.heap.size + 1) c0 c1 c2 c3 from (((HH.out.setQ (by omega)).setQ (by omega)).setQ (by omega)).setQ (by omega))
        have R4 := Lib.hid (show CIs ((((w'.setCell ⟨g, 0, none⟩ (.float .f32 L)).setCell ⟨g, 1, none⟩ (.float .f32 S)).setCell ⟨g, 2, none⟩ (.slice (some ⟨bA, 0, none⟩) len cA)).setCell ⟨g, 3, none⟩ (.int .i64 (((k : Int) + 1) % (len : Int)))) (w.heap.size + 1 + 1) [.float .f32 0, .float .f32 0, .slice none 0 0, .int .i64 0] from (((HR.out.set (by omega)).set (by omega)).set (by omega)).set (by omega))
        have O4 := Lib.hid (show FOwn 22 W.heap.size ((((w'.setCell ⟨g, 0, none⟩ (.float .f32 L)).setCell ⟨g, 1, none⟩ (.float .f32 S)).setCell ⟨g, 2, none⟩ (.slice (some ⟨bA, 0, none⟩) len cA)).setCell ⟨g, 3, none⟩ (.int .i64 (((k : Int) + 1) % (len : Int)))) (.slice (some ⟨bA, 0, none⟩) len cA) zs from own_else (own_else (own_else (own_else HO.out hgA _ _) hgA _ _) hgA _ _) hgA _ _)
        have G4 := Lib.hid (show Below w.heap.size w ((((w'.setCell ⟨g, 0, none⟩ (.float .f32 L)).setCell ⟨g, 1, none⟩ (.float .f32 S)).setCell ⟨g, 2, none⟩ (.slice (some ⟨bA, 0, none⟩) len cA)).setCell ⟨g, 3, none⟩ (.int .i64 (((k : Int) + 1) % (len : Int)))) from (((G.out.setCell (by show w.heap.size ≤ g; omega) _).setCell (by show w.heap.size ≤ g; omega) _).setCell (by show w.heap.size ≤ g; omega) _).setCell (by show w.heap.size ≤ g; omega) _)
        clear HC HS HH HR HO G g0 g1 g2 g3 f0 f1 f2 f3
        generalize ((((w'.setCell ⟨g, 0, none⟩ (.float .f32 L)).setCell ⟨g, 1, none⟩ (.float .f32 S)).setCell ⟨g, 2, none⟩ (.slice (some ⟨bA, 0, none⟩) len cA)).setCell ⟨g, 3, none⟩ (.int .i64 (((k : Int) + 1) % (len : Int)))) = W4 at *
        obtain ⟨g0, g1, g2, g3⟩ := C4.out.c4
        obtain ⟨k0, k1, k2, k3⟩ := S4.out
        obtain ⟨j0, j1, j2, j3⟩ := H4.out
        obtain ⟨z0, z1⟩ := own_cell O4.out HL.out hkl
        have hkl2 : (k : Int) < (len : Int) := by omega
        obtain ⟨z, hz⟩ : ∃ z, zs.getD k 0 = z := ⟨_, rfl⟩
        rw [hz] at z0
        have hMM : cn .f32 (stMi ⟨l, s, zs, (k : Int)⟩ c3 x) = cn .f32 M := by rw [← hMc, cn_cn]
        have hL2 := Lib.hid (show cn .f32 L = (stNx ⟨l, s, zs, (k : Int)⟩ c0 c1 c2 c3 x).l by rw [hLc, hNc, ← hMM]; rfl)
        have hS2 := Lib.hid (show cn .f32 S = (stNx ⟨l, s, zs, (k : Int)⟩ c0 c1 c2 c3 x).s by rw [hSc, hNc, ← hMM]; rfl)
        have HZc := Lib.hid (show ∀ wa wb wc wd, cn .f32 (fopR .add .f32 z (fopR .mul .f32 (fopR .mul .f32 c2 (fopR .sub .f32 1065353216 c0 wa) wb) M wc) wd) = sZt (zs.getD k 0) c0 c2 (stMi ⟨l, s, zs, (k : Int)⟩ c3 x) from fun wa wb wc wd => by
          rw [cn_fopR, cn_fopR, cn_fopR, cn_fopR, ← hMM, hz]
          unfold sZt sLr
          rw [show cn .f32 1065353216 = 1065353216 from by decide +kernel])
        have HMc := Lib.hid hMc
        have HMf := Lib.hid hMf
        have C5 := Lib.hid (show ∀ n Z, CIs ((W4.drewN n).setCell ⟨bA, k, none⟩ Z) g [.float .f32 L, .float .f32 S, .slice (some ⟨bA, 0, none⟩) len cA, .int .i64 (((k : Int) + 1) % (len : Int))] from fun n Z => (C4.out.drewN n).set (Ne.symm hne))
        have R5 := Lib.hid (show ∀ n Z, CIs ((W4.drewN n).setCell ⟨bA, k, none⟩ Z) (w.heap.size + 1 + 1) [.float .f32 0, .float .f32 0, .slice none 0 0, .int .i64 0] from fun n Z => (R4.out.drewN n).set (by omega))
        have G5 := Lib.hid (show ∀ n Z, Below w.heap.size w ((W4.drewN n).setCell ⟨bA, k, none⟩ Z) from fun n Z => (below_drewN G4.out n).setCell (by show w.heap.size ≤ bA; omega) _)
        have O5 := Lib.hid (show ∀ n Z, FOwn 22 W.heap.size ((W4.drewN n).setCell ⟨bA, k, none⟩ (.float .f32 Z)) (.slice (some ⟨bA, 0, none⟩) len cA) (zs.set k Z) from fun n Z => own_put (FOwn.drewN O4.out n) HL.out k Z)
        clear hMM hLc hSc hNc hMc hMf
        go_wp2_with fail
        refine (imVSt_any _ _ _ _ _ _ _ _ (own_fsl (O5.out _ _)) hm).mono ?_
        rw [stB_cn hL2.out hS2.out (set_cn zs k _ _ (HZc.out _ _ _ _))]
        have HQ := Lib.hid (show stpB ⟨l, s, zs, (k : Int)⟩ c0 c1 c2 c3 x = stB (stNx ⟨l, s, zs, (k : Int)⟩ c0 c1 c2 c3 x).l (stNx ⟨l, s, zs, (k : Int)⟩ c0 c1 c2 c3 x).s ((cnl zs).set k (sZt (zs.getD k 0) c0 c2 (stMi ⟨l, s, zs, (k : Int)⟩ c3 x))) (((k : Int) + 1) % (len : Int)) by
          unfold stpB; rw [HV.out, HM.out, ← HL.out]; rfl)
        rw [← HQ.out]
        clear g0 g1 g2 g3 k0 k1 k2 k3 j0 j1 j2 j3 z0 z1
        cases hq : stpB ⟨l, s, zs, (k : Int)⟩ c0 c1 c2 c3 x
        · rintro e w5 ⟨rfl, b5⟩
          have R6 := Lib.hid ((R5.out _ _).below b5)
          have G6 := Lib.hid ((G5.out _ _).trans (b5.mono (G5.out _ _).size))
          have HX := Lib.hid hq
          clear b5 hq
          obtain ⟨r0, r1, r2, r3⟩ := R6.out.c4
          obtain ⟨q0, q1, q2, q3⟩ := R6.out.f4
          go_wp2_with fail
          refine bodyPost_ret (v := .tuple #[.agg #[.float .f32 0, .float .f32 0, .slice none 0 0, .int .i64 0], .float .f32 0, .bool false]) ?_ rfl (stp_no HX.out ?_)
          · have hres := HRES.out
            simp only [results, hres]
            go_simp
          · exact ((((G6.out).setCell (by show w.heap.size ≤ w.heap.size + 1 + 1; omega) _).setCell (by show w.heap.size ≤ w.heap.size + 1 + 1; omega) _).setCell (by show w.heap.size ≤ w.heap.size + 1 + 1; omega) _).setCell (by show w.heap.size ≤ w.heap.size + 1 + 1; omega) _
        · rintro e w5 ⟨rfl, b5⟩
          have C6 := Lib.hid ((C5.out _ _).below b5)
          have R6 := Lib.hid ((R5.out _ _).below b5)
          have G6 := Lib.hid ((G5.out _ _).trans (b5.mono (G5.out _ _).size))
          have HX := Lib.hid (HQ.out.symm.trans hq)
          have hrA : (Value.slice (some ⟨bA, 0, none⟩) len cA).ownBlock ≠ some (w.heap.size + 1 + 1) := fun e => by
            injection e with e
            have : bA = w.heap.size + 1 + 1 := e
            omega
          have O6 := Lib.hid (FOwn.mono (own_else (own_else (own_else (own_else (FOwn.keepS (O5.out _ _) b5) hrA 0 (.float .f32 L)) hrA 1 (.float .f32 S)) hrA 2 (.slice (some ⟨bA, 0, none⟩) len cA)) hrA 3 (.int .i64 (((k : Int) + 1) % (len : Int)))) HBs.out)
          clear b5 hq
          obtain ⟨g0, g1, g2, g3⟩ := C6.out.c4
          obtain ⟨r0, r1, r2, r3⟩ := R6.out.c4
          obtain ⟨q0, q1, q2, q3⟩ := R6.out.f4
          go_wp2_with fail
          refine bodyPost_ret (v := .tuple #[.agg #[.float .f32 L, .float .f32 S, .slice (some ⟨bA, 0, none⟩) len cA, .int .i64 (((k : Int) + 1) % (len : Int))], .float .f32 M, .bool true]) ?_ rfl (stp_yes HV.out HMc.out HMf.out hL2.out hS2.out (set_cn zs k _ _ (HZc.out _ _ _ _)) (by rw [← HL.out]; rfl) ((stB_cn hL2.out hS2.out (set_cn zs k _ _ (HZc.out _ _ _ _))).trans HX.out) O6.out ?_)
          · have hres := HRES.out
            simp only [results, hres]
            go_simp
          · exact ((((G6.out).setCell (by show w.heap.size ≤ w.heap.size + 1 + 1; omega) _).setCell (by show w.heap.size ≤ w.heap.size + 1 + 1; omega) _).setCell (by show w.heap.size ≤ w.heap.size + 1 + 1; omega) _).setCell (by show w.heap.size ≤ w.heap.size + 1 + 1; omega) _
end Go.Proofs.Ytgddfhmddkhaeaa
