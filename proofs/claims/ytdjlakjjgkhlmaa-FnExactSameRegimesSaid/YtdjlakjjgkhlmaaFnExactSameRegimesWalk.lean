import Derived.Test.YtdjlakjjgkhlmaaRgs
import Derived.Test.YtdjlakjjgkhlmaaRgl
import Derived.Deep.RegionHeld3
namespace Go.Proofs.Ytdjlakjjgkhlmaa.fnExactSameRegimes
open Go.RowKit Ieee
set_option linter.unusedVariables false
set_option maxHeartbeats 8000000 in
set_option maxRecDepth 100000 in
theorem walk (aM0 : Option Addr) (lM0 cM0 : Nat) (zM0 : List Nat) (aS0 : Option Addr) (lS0 cS0 : Nat) (zS0 : List Nat) (aT0 : Option Addr) (lT0 cT0 : Nat) (zT0 : List Nat) (aP0 : Option Addr) (lP0 cP0 : Nat) (zP0 : List Nat) (aM1 : Option Addr) (lM1 cM1 : Nat) (zM1 : List Nat) (aS1 : Option Addr) (lS1 cS1 : Nat) (zS1 : List Nat) (aT1 : Option Addr) (lT1 cT1 : Nat) (zT1 : List Nat) (aP1 : Option Addr) (lP1 cP1 : Nat) (zP1 : List Nat) (w : World) (wM0 : FRow w aM0 lM0 cM0 zM0) (wS0 : FRow w aS0 lS0 cS0 zS0) (wT0 : FRow w aT0 lT0 cT0 zT0) (wP0 : FRow w aP0 lP0 cP0 zP0) (wM1 : FRow w aM1 lM1 cM1 zM1) (wS1 : FRow w aS1 lS1 cS1 zS1) (wT1 : FRow w aT1 lT1 cT1 zT1) (wP1 : FRow w aP1 lP1 cP1 zP1) :
    Calls Try.prog 7 #[.agg #[.slice aM0 lM0 cM0, .slice aS0 lS0 cS0, .slice aT0 lT0 cT0, .slice aP0 lP0 cP0], .agg #[.slice aM1 lM1 cM1, .slice aS1 lS1 cS1, .slice aT1 lT1 cT1, .slice aP1 lP1 cP1]] w fun e w' => e = .returned (.bool true) ∧ Below w.heap.size w w' := by
  obtain ⟨hsM0, hlcM0, hcmM0, _⟩ := wM0
  have HM0 := Lib.hid hsM0
  clear hsM0
  obtain ⟨hsS0, hlcS0, hcmS0, _⟩ := wS0
  have HS0 := Lib.hid hsS0
  clear hsS0
  obtain ⟨hsT0, hlcT0, hcmT0, _⟩ := wT0
  have HT0 := Lib.hid hsT0
  clear hsT0
  obtain ⟨hsP0, hlcP0, hcmP0, _⟩ := wP0
  have HP0 := Lib.hid hsP0
  clear hsP0
  obtain ⟨hsM1, hlcM1, hcmM1, _⟩ := wM1
  have HM1 := Lib.hid hsM1
  clear hsM1
  obtain ⟨hsS1, hlcS1, hcmS1, _⟩ := wS1
  have HS1 := Lib.hid hsS1
  clear hsS1
  obtain ⟨hsT1, hlcT1, hcmT1, _⟩ := wT1
  have HT1 := Lib.hid hsT1
  clear hsT1
  obtain ⟨hsP1, hlcP1, hcmP1, _⟩ := wP1
  have HP1 := Lib.hid hsP1
  clear hsP1
  have G := Lib.hid (Below.refl w.heap.size w)
  have B0 := Lib.hid (CIs.newAt w [.slice aM0 lM0 cM0, .slice aS0 lS0 cS0, .slice aT0 lT0 cT0, .slice aP0 lP0 cP0] 45 (p := w.heap.size) (by simp))
  replace G := Lib.hid (G.out.alloc (Nat.le_refl _) (.cells #[.slice aM0 lM0 cM0, .slice aS0 lS0 cS0, .slice aT0 lT0 cT0, .slice aP0 lP0 cP0] 45))
  have B1 := Lib.hid (CIs.newAt (w.alloc (.cells #[.slice aM0 lM0 cM0, .slice aS0 lS0 cS0, .slice aT0 lT0 cT0, .slice aP0 lP0 cP0] 45)) [.slice aM1 lM1 cM1, .slice aS1 lS1 cS1, .slice aT1 lT1 cT1, .slice aP1 lP1 cP1] 45 (p := w.heap.size + 1) (by simp))
  replace B0 := Lib.hid (B0.out.alloc (.cells #[.slice aM1 lM1 cM1, .slice aS1 lS1 cS1, .slice aT1 lT1 cT1, .slice aP1 lP1 cP1] 45))
  replace G := Lib.hid (G.out.alloc (by simp; try omega) (.cells #[.slice aM1 lM1 cM1, .slice aS1 lS1 cS1, .slice aT1 lT1 cT1, .slice aP1 lP1 cP1] 45))
  by_cases hn0_0 : lM0 ≤ 1048576
  rotate_left
  · skip
    go_enter Try.func7, Try.ntmps7
    obtain ⟨k_0, k_1, k_2, k_3⟩ := B0.out.c4
    go_wp2_with fail
    refine (szRg_no0 _ _ _ _ _ _ _ _ _ _ _ _ (1048576) _ (by omega) (by omega) (by unfold maxLen at *; omega)).mono ?_
    rintro e u1 ⟨rfl, b⟩
    clear k_0 k_1 k_2 k_3
    replace B0 := Lib.hid (B0.out.below b)
    replace B1 := Lib.hid (B1.out.below b)
    replace G := Lib.hid (G.out.trans (b.mono G.out.size))
    clear b
    go_wp2
    go_ret
    exact ⟨rfl, G.out⟩
  by_cases hn1_0 : lS0 ≤ 1048576 - lM0
  rotate_left
  · skip
    go_enter Try.func7, Try.ntmps7
    obtain ⟨k_0, k_1, k_2, k_3⟩ := B0.out.c4
    go_wp2_with fail
    refine (szRg_no1 _ _ _ _ _ _ _ _ _ _ _ _ (1048576) _ (by omega) (by omega) (by omega) (by unfold maxLen at *; omega)).mono ?_
    rintro e u2 ⟨rfl, b⟩
    clear k_0 k_1 k_2 k_3
    replace B0 := Lib.hid (B0.out.below b)
    replace B1 := Lib.hid (B1.out.below b)
    replace G := Lib.hid (G.out.trans (b.mono G.out.size))
    clear b
    go_wp2
    go_ret
    exact ⟨rfl, G.out⟩
  by_cases hn2_0 : lT0 ≤ 1048576 - lM0 - lS0
  rotate_left
  · skip
    go_enter Try.func7, Try.ntmps7
    obtain ⟨k_0, k_1, k_2, k_3⟩ := B0.out.c4
    go_wp2_with fail
    refine (szRg_no2 _ _ _ _ _ _ _ _ _ _ _ _ (1048576) _ (by omega) (by omega) (by omega) (by omega) (by unfold maxLen at *; omega)).mono ?_
    rintro e u3 ⟨rfl, b⟩
    clear k_0 k_1 k_2 k_3
    replace B0 := Lib.hid (B0.out.below b)
    replace B1 := Lib.hid (B1.out.below b)
    replace G := Lib.hid (G.out.trans (b.mono G.out.size))
    clear b
    go_wp2
    go_ret
    exact ⟨rfl, G.out⟩
  by_cases hn3_0 : lP0 ≤ 1048576 - lM0 - lS0 - lT0
  rotate_left
  · skip
    go_enter Try.func7, Try.ntmps7
    obtain ⟨k_0, k_1, k_2, k_3⟩ := B0.out.c4
    go_wp2_with fail
    refine (szRg_no3 _ _ _ _ _ _ _ _ _ _ _ _ (1048576) _ (by omega) (by omega) (by omega) (by omega) (by omega) (by unfold maxLen at *; omega)).mono ?_
    rintro e u4 ⟨rfl, b⟩
    clear k_0 k_1 k_2 k_3
    replace B0 := Lib.hid (B0.out.below b)
    replace B1 := Lib.hid (B1.out.below b)
    replace G := Lib.hid (G.out.trans (b.mono G.out.size))
    clear b
    go_wp2
    go_ret
    exact ⟨rfl, G.out⟩
  by_cases hn0_1 : lM1 ≤ 1048576 - lM0 - lS0 - lT0 - lP0
  rotate_left
  · skip
    go_enter Try.func7, Try.ntmps7
    obtain ⟨k_0, k_1, k_2, k_3⟩ := B0.out.c4
    go_wp2_with fail
    refine (szRg_any _ _ _ _ _ _ _ _ _ _ _ _ (1048576) _ (by omega) (by omega) (by omega) (by omega) (by omega) ).mono ?_
    rintro e u5 ⟨rfl, b⟩
    clear k_0 k_1 k_2 k_3
    replace B0 := Lib.hid (B0.out.below b)
    replace B1 := Lib.hid (B1.out.below b)
    replace G := Lib.hid (G.out.trans (b.mono G.out.size))
    clear b
    obtain ⟨k_0, k_1, k_2, k_3⟩ := B1.out.c4
    go_wp2_with fail
    refine (szRg_no0 _ _ _ _ _ _ _ _ _ _ _ _ (1048576 - lM0 - lS0 - lT0 - lP0) _ (by omega) (by omega) (by unfold maxLen at *; omega)).mono ?_
    rintro e u6 ⟨rfl, b⟩
    clear k_0 k_1 k_2 k_3
    replace B0 := Lib.hid (B0.out.below b)
    replace B1 := Lib.hid (B1.out.below b)
    replace G := Lib.hid (G.out.trans (b.mono G.out.size))
    clear b
    go_wp2
    go_ret
    exact ⟨rfl, G.out⟩
  by_cases hn1_1 : lS1 ≤ 1048576 - lM0 - lS0 - lT0 - lP0 - lM1
  rotate_left
  · skip
    go_enter Try.func7, Try.ntmps7
    obtain ⟨k_0, k_1, k_2, k_3⟩ := B0.out.c4
    go_wp2_with fail
    refine (szRg_any _ _ _ _ _ _ _ _ _ _ _ _ (1048576) _ (by omega) (by omega) (by omega) (by omega) (by omega) ).mono ?_
    rintro e u7 ⟨rfl, b⟩
    clear k_0 k_1 k_2 k_3
    replace B0 := Lib.hid (B0.out.below b)
    replace B1 := Lib.hid (B1.out.below b)
    replace G := Lib.hid (G.out.trans (b.mono G.out.size))
    clear b
    obtain ⟨k_0, k_1, k_2, k_3⟩ := B1.out.c4
    go_wp2_with fail
    refine (szRg_no1 _ _ _ _ _ _ _ _ _ _ _ _ (1048576 - lM0 - lS0 - lT0 - lP0) _ (by omega) (by omega) (by omega) (by unfold maxLen at *; omega)).mono ?_
    rintro e u8 ⟨rfl, b⟩
    clear k_0 k_1 k_2 k_3
    replace B0 := Lib.hid (B0.out.below b)
    replace B1 := Lib.hid (B1.out.below b)
    replace G := Lib.hid (G.out.trans (b.mono G.out.size))
    clear b
    go_wp2
    go_ret
    exact ⟨rfl, G.out⟩
  by_cases hn2_1 : lT1 ≤ 1048576 - lM0 - lS0 - lT0 - lP0 - lM1 - lS1
  rotate_left
  · skip
    go_enter Try.func7, Try.ntmps7
    obtain ⟨k_0, k_1, k_2, k_3⟩ := B0.out.c4
    go_wp2_with fail
    refine (szRg_any _ _ _ _ _ _ _ _ _ _ _ _ (1048576) _ (by omega) (by omega) (by omega) (by omega) (by omega) ).mono ?_
    rintro e u9 ⟨rfl, b⟩
    clear k_0 k_1 k_2 k_3
    replace B0 := Lib.hid (B0.out.below b)
    replace B1 := Lib.hid (B1.out.below b)
    replace G := Lib.hid (G.out.trans (b.mono G.out.size))
    clear b
    obtain ⟨k_0, k_1, k_2, k_3⟩ := B1.out.c4
    go_wp2_with fail
    refine (szRg_no2 _ _ _ _ _ _ _ _ _ _ _ _ (1048576 - lM0 - lS0 - lT0 - lP0) _ (by omega) (by omega) (by omega) (by omega) (by unfold maxLen at *; omega)).mono ?_
    rintro e u10 ⟨rfl, b⟩
    clear k_0 k_1 k_2 k_3
    replace B0 := Lib.hid (B0.out.below b)
    replace B1 := Lib.hid (B1.out.below b)
    replace G := Lib.hid (G.out.trans (b.mono G.out.size))
    clear b
    go_wp2
    go_ret
    exact ⟨rfl, G.out⟩
  by_cases hn3_1 : lP1 ≤ 1048576 - lM0 - lS0 - lT0 - lP0 - lM1 - lS1 - lT1
  rotate_left
  · skip
    go_enter Try.func7, Try.ntmps7
    obtain ⟨k_0, k_1, k_2, k_3⟩ := B0.out.c4
    go_wp2_with fail
    refine (szRg_any _ _ _ _ _ _ _ _ _ _ _ _ (1048576) _ (by omega) (by omega) (by omega) (by omega) (by omega) ).mono ?_
    rintro e u11 ⟨rfl, b⟩
    clear k_0 k_1 k_2 k_3
    replace B0 := Lib.hid (B0.out.below b)
    replace B1 := Lib.hid (B1.out.below b)
    replace G := Lib.hid (G.out.trans (b.mono G.out.size))
    clear b
    obtain ⟨k_0, k_1, k_2, k_3⟩ := B1.out.c4
    go_wp2_with fail
    refine (szRg_no3 _ _ _ _ _ _ _ _ _ _ _ _ (1048576 - lM0 - lS0 - lT0 - lP0) _ (by omega) (by omega) (by omega) (by omega) (by omega) (by unfold maxLen at *; omega)).mono ?_
    rintro e u12 ⟨rfl, b⟩
    clear k_0 k_1 k_2 k_3
    replace B0 := Lib.hid (B0.out.below b)
    replace B1 := Lib.hid (B1.out.below b)
    replace G := Lib.hid (G.out.trans (b.mono G.out.size))
    clear b
    go_wp2
    go_ret
    exact ⟨rfl, G.out⟩
  have hmM0 : lM0 ≤ 1048576 := by omega
  have hmS0 : lS0 ≤ 1048576 := by omega
  have hmT0 : lT0 ≤ 1048576 := by omega
  have hmP0 : lP0 ≤ 1048576 := by omega
  have hmM1 : lM1 ≤ 1048576 := by omega
  have hmS1 : lS1 ≤ 1048576 := by omega
  have hmT1 : lT1 ≤ 1048576 := by omega
  have hmP1 : lP1 ≤ 1048576 := by omega
  go_enter Try.func7, Try.ntmps7
  have hd0 : decide (((1048576 - lM0 - lS0 - lT0 - lP0 : Nat) : Int) < 0) = false := decide_eq_false (by omega)
  obtain ⟨k_0, k_1, k_2, k_3⟩ := B0.out.c4
  go_wp2_with fail
  refine (szRg_any _ _ _ _ _ _ _ _ _ _ _ _ (1048576) _ (by omega) (by omega) (by omega) (by omega) (by omega) ).mono ?_
  rintro e u13 ⟨rfl, b⟩
  clear k_0 k_1 k_2 k_3
  replace B0 := Lib.hid (B0.out.below b)
  replace B1 := Lib.hid (B1.out.below b)
  replace G := Lib.hid (G.out.trans (b.mono G.out.size))
  clear b
  have hd1 : decide (((1048576 - lM0 - lS0 - lT0 - lP0 - lM1 - lS1 - lT1 - lP1 : Nat) : Int) < 0) = false := decide_eq_false (by omega)
  obtain ⟨k_0, k_1, k_2, k_3⟩ := B1.out.c4
  go_wp2_with fail
  refine (szRg_any _ _ _ _ _ _ _ _ _ _ _ _ (1048576 - lM0 - lS0 - lT0 - lP0) _ (by omega) (by omega) (by omega) (by omega) (by omega) ).mono ?_
  rintro e u14 ⟨rfl, b⟩
  clear k_0 k_1 k_2 k_3
  replace B0 := Lib.hid (B0.out.below b)
  replace B1 := Lib.hid (B1.out.below b)
  replace G := Lib.hid (G.out.trans (b.mono G.out.size))
  clear b
  obtain ⟨kB0_0, kB0_1, kB0_2, kB0_3⟩ := B0.out.c4
  obtain ⟨kB1_0, kB1_1, kB1_2, kB1_3⟩ := B1.out.c4
  go_wp2_with fail
  go_region_held3 (fun w' => w'.cell? ⟨w.heap.size, 0, none⟩ = some (.slice aM0 lM0 cM0) ∧ w'.cell? ⟨w.heap.size, 1, none⟩ = some (.slice aS0 lS0 cS0) ∧ w'.cell? ⟨w.heap.size, 2, none⟩ = some (.slice aT0 lT0 cT0) ∧ w'.cell? ⟨w.heap.size, 3, none⟩ = some (.slice aP0 lP0 cP0) ∧ w'.cell? ⟨w.heap.size + 1, 0, none⟩ = some (.slice aM1 lM1 cM1) ∧ w'.cell? ⟨w.heap.size + 1, 1, none⟩ = some (.slice aS1 lS1 cS1) ∧ w'.cell? ⟨w.heap.size + 1, 2, none⟩ = some (.slice aT1 lT1 cT1) ∧ w'.cell? ⟨w.heap.size + 1, 3, none⟩ = some (.slice aP1 lP1 cP1)) (first | exact ⟨(((((((B0.out.drew)).below hb1)).below hb2)).below hb3).c4.1, (((((((B0.out.drew)).below hb1)).below hb2)).below hb3).c4.2.1, (((((((B0.out.drew)).below hb1)).below hb2)).below hb3).c4.2.2.1, (((((((B0.out.drew)).below hb1)).below hb2)).below hb3).c4.2.2.2, (((((((B1.out.drew)).below hb1)).below hb2)).below hb3).c4.1, (((((((B1.out.drew)).below hb1)).below hb2)).below hb3).c4.2.1, (((((((B1.out.drew)).below hb1)).below hb2)).below hb3).c4.2.2.1, (((((((B1.out.drew)).below hb1)).below hb2)).below hb3).c4.2.2.2⟩ | exact ⟨(((((B0.out.drew)).below hb1)).below hb2).c4.1, (((((B0.out.drew)).below hb1)).below hb2).c4.2.1, (((((B0.out.drew)).below hb1)).below hb2).c4.2.2.1, (((((B0.out.drew)).below hb1)).below hb2).c4.2.2.2, (((((B1.out.drew)).below hb1)).below hb2).c4.1, (((((B1.out.drew)).below hb1)).below hb2).c4.2.1, (((((B1.out.drew)).below hb1)).below hb2).c4.2.2.1, (((((B1.out.drew)).below hb1)).below hb2).c4.2.2.2⟩ | exact ⟨(((B0.out.drew)).below hb1).c4.1, (((B0.out.drew)).below hb1).c4.2.1, (((B0.out.drew)).below hb1).c4.2.2.1, (((B0.out.drew)).below hb1).c4.2.2.2, (((B1.out.drew)).below hb1).c4.1, (((B1.out.drew)).below hb1).c4.2.1, (((B1.out.drew)).below hb1).c4.2.2.1, (((B1.out.drew)).below hb1).c4.2.2.2⟩ | exact ⟨(B0.out.drew).c4.1, (B0.out.drew).c4.2.1, (B0.out.drew).c4.2.2.1, (B0.out.drew).c4.2.2.2, (B1.out.drew).c4.1, (B1.out.drew).c4.2.1, (B1.out.drew).c4.2.2.1, (B1.out.drew).c4.2.2.2⟩ | go_keep)
    ((first
      | (go_at_call 32; refine (spRg_any SM0 lM0 lM0 zM0 SS0 lS0 lS0 zS0 ST0 lT0 lT0 zT0 SP0 lP0 lP0 zP0 SM1 lM1 lM1 zM1 SS1 lS1 lS1 zS1 ST1 lT1 lT1 zT1 SP1 lP1 lP1 zP1 _ ((hSM0.below hb2)).sl ((hSS0.below hb2)).sl ((hST0.below hb2)).sl ((hSP0.below hb2)).sl (hSM1).sl (hSS1).sl (hST1).sl (hSP1).sl hmM0 hmS0 hmT0 hmP0 hmM1 hmS1 hmT1 hmP1).mono ?_; rintro e u17 ⟨rfl, hb3⟩)
      | (go_at_call 29; refine (toRg_any aM1 lM1 cM1 zM1 aS1 lS1 cS1 zS1 aT1 lT1 cT1 zT1 aP1 lP1 cP1 zP1 _ (FSl.below HM1.out ((below_drewN G.out 1).trans (hb1.mono (below_drewN G.out 1).size))) (FSl.below HS1.out ((below_drewN G.out 1).trans (hb1.mono (below_drewN G.out 1).size))) (FSl.below HT1.out ((below_drewN G.out 1).trans (hb1.mono (below_drewN G.out 1).size))) (FSl.below HP1.out ((below_drewN G.out 1).trans (hb1.mono (below_drewN G.out 1).size))) hmM1 hmS1 hmT1 hmP1).mono ?_; rintro e u16 ⟨SM1, SS1, ST1, SP1, pSM1, pSS1, pST1, pSP1, rfl, hSM1, hSS1, hST1, hSP1, hb2⟩)
      | (go_at_call 29; refine (toRg_any aM0 lM0 cM0 zM0 aS0 lS0 cS0 zS0 aT0 lT0 cT0 zT0 aP0 lP0 cP0 zP0 _ (FSl.below HM0.out (below_drewN G.out 1)) (FSl.below HS0.out (below_drewN G.out 1)) (FSl.below HT0.out (below_drewN G.out 1)) (FSl.below HP0.out (below_drewN G.out 1)) hmM0 hmS0 hmT0 hmP0).mono ?_; rintro e u15 ⟨SM0, SS0, ST0, SP0, pSM0, pSS0, pST0, pSP0, rfl, hSM0, hSS0, hST0, hSP0, hb1⟩)
      ))
  clear kB0_0 kB0_1 kB0_2 kB0_3
  clear kB1_0 kB1_1 kB1_2 kB1_3
  replace B0 := Lib.hid (((((((B0.out.drew)).below hb1)).below hb2)).below hb3)
  replace B1 := Lib.hid (((((((B1.out.drew)).below hb1)).below hb2)).below hb3)
  replace G := Lib.hid ((((below_drewN G.out 1).trans (hb1.mono (below_drewN G.out 1).size)).trans (hb2.mono ((below_drewN G.out 1).trans (hb1.mono (below_drewN G.out 1).size)).size)).trans (hb3.mono (((below_drewN G.out 1).trans (hb1.mono (below_drewN G.out 1).size)).trans (hb2.mono ((below_drewN G.out 1).trans (hb1.mono (below_drewN G.out 1).size)).size)).size))
  clear hb1 hb2 hb3
  clear hSM0 hSS0 hST0 hSP0 hSM1 hSS1 hST1 hSP1
  obtain ⟨k_0, k_1, k_2, k_3⟩ := B0.out.c4
  go_wp2_with fail
  refine (toRg_any aM0 lM0 cM0 zM0 aS0 lS0 cS0 zS0 aT0 lT0 cT0 zT0 aP0 lP0 cP0 zP0 _ (FSl.below HM0.out G.out) (FSl.below HS0.out G.out) (FSl.below HT0.out G.out) (FSl.below HP0.out G.out) hmM0 hmS0 hmT0 hmP0).mono ?_
  rintro e u18 ⟨AM0, AS0, AT0, AP0, pM0, pS0, pT0, pP0, rfl, tM0, tS0, tT0, tP0, b⟩
  clear k_0 k_1 k_2 k_3
  replace B0 := Lib.hid (B0.out.below b)
  replace B1 := Lib.hid (B1.out.below b)
  replace G := Lib.hid (G.out.trans (b.mono G.out.size))
  clear b
  have XM0 := Lib.hid tM0
  clear tM0
  have XS0 := Lib.hid tS0
  clear tS0
  have XT0 := Lib.hid tT0
  clear tT0
  have XP0 := Lib.hid tP0
  clear tP0
  have ba := (Below.refl u18.heap.size u18).alloc (Nat.le_refl _) (.cells #[.slice AM0 lM0 lM0, .slice AS0 lS0 lS0, .slice AT0 lT0 lT0, .slice AP0 lP0 lP0] 48)
  replace B0 := Lib.hid (B0.out.below ba)
  replace B1 := Lib.hid (B1.out.below ba)
  replace XM0 := Lib.hid (XM0.out.below ba)
  replace XS0 := Lib.hid (XS0.out.below ba)
  replace XT0 := Lib.hid (XT0.out.below ba)
  replace XP0 := Lib.hid (XP0.out.below ba)
  replace G := Lib.hid (G.out.trans (ba.mono G.out.size))
  clear ba
  have BX0 := Lib.hid (CIs.newAt u18 [.slice AM0 lM0 lM0, .slice AS0 lS0 lS0, .slice AT0 lT0 lT0, .slice AP0 lP0 lP0] 48 (p := u18.heap.size) rfl)
  obtain ⟨k_0, k_1, k_2, k_3⟩ := B1.out.c4
  go_wp2_with fail
  refine (toRg_any aM1 lM1 cM1 zM1 aS1 lS1 cS1 zS1 aT1 lT1 cT1 zT1 aP1 lP1 cP1 zP1 _ (FSl.below HM1.out G.out) (FSl.below HS1.out G.out) (FSl.below HT1.out G.out) (FSl.below HP1.out G.out) hmM1 hmS1 hmT1 hmP1).mono ?_
  rintro e u19 ⟨AM1, AS1, AT1, AP1, pM1, pS1, pT1, pP1, rfl, tM1, tS1, tT1, tP1, b⟩
  clear k_0 k_1 k_2 k_3
  replace B0 := Lib.hid (B0.out.below b)
  replace B1 := Lib.hid (B1.out.below b)
  replace XM0 := Lib.hid (XM0.out.below b)
  replace XS0 := Lib.hid (XS0.out.below b)
  replace XT0 := Lib.hid (XT0.out.below b)
  replace XP0 := Lib.hid (XP0.out.below b)
  replace BX0 := Lib.hid (BX0.out.below b)
  replace G := Lib.hid (G.out.trans (b.mono G.out.size))
  clear b
  have XM1 := Lib.hid tM1
  clear tM1
  have XS1 := Lib.hid tS1
  clear tS1
  have XT1 := Lib.hid tT1
  clear tT1
  have XP1 := Lib.hid tP1
  clear tP1
  have ba := (Below.refl u19.heap.size u19).alloc (Nat.le_refl _) (.cells #[.slice AM1 lM1 lM1, .slice AS1 lS1 lS1, .slice AT1 lT1 lT1, .slice AP1 lP1 lP1] 48)
  replace B0 := Lib.hid (B0.out.below ba)
  replace B1 := Lib.hid (B1.out.below ba)
  replace XM0 := Lib.hid (XM0.out.below ba)
  replace XS0 := Lib.hid (XS0.out.below ba)
  replace XT0 := Lib.hid (XT0.out.below ba)
  replace XP0 := Lib.hid (XP0.out.below ba)
  replace BX0 := Lib.hid (BX0.out.below ba)
  replace XM1 := Lib.hid (XM1.out.below ba)
  replace XS1 := Lib.hid (XS1.out.below ba)
  replace XT1 := Lib.hid (XT1.out.below ba)
  replace XP1 := Lib.hid (XP1.out.below ba)
  replace G := Lib.hid (G.out.trans (ba.mono G.out.size))
  clear ba
  have BX1 := Lib.hid (CIs.newAt u19 [.slice AM1 lM1 lM1, .slice AS1 lS1 lS1, .slice AT1 lT1 lT1, .slice AP1 lP1 lP1] 48 (p := u19.heap.size) rfl)
  obtain ⟨kx0_0, kx0_1, kx0_2, kx0_3⟩ := BX0.out.c4
  obtain ⟨kx1_0, kx1_1, kx1_2, kx1_3⟩ := BX1.out.c4
  go_wp2_with fail
  refine (imRg_any AM0 lM0 lM0 zM0 AS0 lS0 lS0 zS0 AT0 lT0 lT0 zT0 AP0 lP0 lP0 zP0 AM1 lM1 lM1 zM1 AS1 lS1 lS1 zS1 AT1 lT1 lT1 zT1 AP1 lP1 lP1 zP1 _ XM0.out.sl XS0.out.sl XT0.out.sl XP0.out.sl XM1.out.sl XS1.out.sl XT1.out.sl XP1.out.sl hmM0 hmS0 hmT0 hmP0 hmM1 hmS1 hmT1 hmP1).mono ?_
  rintro e u20 ⟨rfl, b⟩
  clear kx0_0 kx0_1 kx0_2 kx0_3
  clear kx1_0 kx1_1 kx1_2 kx1_3
  replace B0 := Lib.hid (B0.out.below b)
  replace B1 := Lib.hid (B1.out.below b)
  replace XM0 := Lib.hid (XM0.out.below b)
  replace XS0 := Lib.hid (XS0.out.below b)
  replace XT0 := Lib.hid (XT0.out.below b)
  replace XP0 := Lib.hid (XP0.out.below b)
  replace BX0 := Lib.hid (BX0.out.below b)
  replace XM1 := Lib.hid (XM1.out.below b)
  replace XS1 := Lib.hid (XS1.out.below b)
  replace XT1 := Lib.hid (XT1.out.below b)
  replace XP1 := Lib.hid (XP1.out.below b)
  replace BX1 := Lib.hid (BX1.out.below b)
  replace G := Lib.hid (G.out.trans (b.mono G.out.size))
  clear b
  obtain ⟨kBX0_0, kBX0_1, kBX0_2, kBX0_3⟩ := BX0.out.c4
  obtain ⟨kB0_0, kB0_1, kB0_2, kB0_3⟩ := B0.out.c4
  go_wp2_with fail
  go_region_held3 (fun w' => w'.cell? ⟨u18.heap.size, 0, none⟩ = some (.slice AM0 lM0 lM0) ∧ w'.cell? ⟨u18.heap.size, 1, none⟩ = some (.slice AS0 lS0 lS0) ∧ w'.cell? ⟨u18.heap.size, 2, none⟩ = some (.slice AT0 lT0 lT0) ∧ w'.cell? ⟨u18.heap.size, 3, none⟩ = some (.slice AP0 lP0 lP0) ∧ w'.cell? ⟨w.heap.size, 0, none⟩ = some (.slice aM0 lM0 cM0) ∧ w'.cell? ⟨w.heap.size, 1, none⟩ = some (.slice aS0 lS0 cS0) ∧ w'.cell? ⟨w.heap.size, 2, none⟩ = some (.slice aT0 lT0 cT0) ∧ w'.cell? ⟨w.heap.size, 3, none⟩ = some (.slice aP0 lP0 cP0)) (first | exact ⟨(((((BX0.out.drew)).below hb1)).below hb2).c4.1, (((((BX0.out.drew)).below hb1)).below hb2).c4.2.1, (((((BX0.out.drew)).below hb1)).below hb2).c4.2.2.1, (((((BX0.out.drew)).below hb1)).below hb2).c4.2.2.2, (((((B0.out.drew)).below hb1)).below hb2).c4.1, (((((B0.out.drew)).below hb1)).below hb2).c4.2.1, (((((B0.out.drew)).below hb1)).below hb2).c4.2.2.1, (((((B0.out.drew)).below hb1)).below hb2).c4.2.2.2⟩ | exact ⟨(((BX0.out.drew)).below hb1).c4.1, (((BX0.out.drew)).below hb1).c4.2.1, (((BX0.out.drew)).below hb1).c4.2.2.1, (((BX0.out.drew)).below hb1).c4.2.2.2, (((B0.out.drew)).below hb1).c4.1, (((B0.out.drew)).below hb1).c4.2.1, (((B0.out.drew)).below hb1).c4.2.2.1, (((B0.out.drew)).below hb1).c4.2.2.2⟩ | exact ⟨(BX0.out.drew).c4.1, (BX0.out.drew).c4.2.1, (BX0.out.drew).c4.2.2.1, (BX0.out.drew).c4.2.2.2, (B0.out.drew).c4.1, (B0.out.drew).c4.2.1, (B0.out.drew).c4.2.2.1, (B0.out.drew).c4.2.2.2⟩ | go_keep)
    ((first
      | (go_at_call 31; refine (eqRg_any AM0 lM0 lM0 zM0 AS0 lS0 lS0 zS0 AT0 lT0 lT0 zT0 AP0 lP0 lP0 zP0 EM0 lM0 ES0 lS0 ET0 lT0 EP0 lP0 _ ((((XM0.out.dw)).below hb1).sl) ((((XS0.out.dw)).below hb1).sl) ((((XT0.out.dw)).below hb1).sl) ((((XP0.out.dw)).below hb1).sl) hEM0.sl hES0.sl hET0.sl hEP0.sl hmM0 hmS0 hmT0 hmP0).mono ?_; rintro e u22 ⟨rfl, hb2⟩)
      | (go_at_call 29; refine (toRg_any aM0 lM0 cM0 zM0 aS0 lS0 cS0 zS0 aT0 lT0 cT0 zT0 aP0 lP0 cP0 zP0 _ (FSl.below HM0.out (below_drewN G.out 1)) (FSl.below HS0.out (below_drewN G.out 1)) (FSl.below HT0.out (below_drewN G.out 1)) (FSl.below HP0.out (below_drewN G.out 1)) hmM0 hmS0 hmT0 hmP0).mono ?_; rintro e u21 ⟨EM0, ES0, ET0, EP0, eM0, eS0, eT0, eP0, rfl, hEM0, hES0, hET0, hEP0, hb1⟩)
      ))
  clear kBX0_0 kBX0_1 kBX0_2 kBX0_3
  clear kB0_0 kB0_1 kB0_2 kB0_3
  replace B0 := Lib.hid (((((B0.out.drew)).below hb1)).below hb2)
  replace B1 := Lib.hid (((((B1.out.drew)).below hb1)).below hb2)
  replace XM0 := Lib.hid (((((XM0.out.dw)).below hb1)).below hb2)
  replace XS0 := Lib.hid (((((XS0.out.dw)).below hb1)).below hb2)
  replace XT0 := Lib.hid (((((XT0.out.dw)).below hb1)).below hb2)
  replace XP0 := Lib.hid (((((XP0.out.dw)).below hb1)).below hb2)
  replace BX0 := Lib.hid (((((BX0.out.drew)).below hb1)).below hb2)
  replace XM1 := Lib.hid (((((XM1.out.dw)).below hb1)).below hb2)
  replace XS1 := Lib.hid (((((XS1.out.dw)).below hb1)).below hb2)
  replace XT1 := Lib.hid (((((XT1.out.dw)).below hb1)).below hb2)
  replace XP1 := Lib.hid (((((XP1.out.dw)).below hb1)).below hb2)
  replace BX1 := Lib.hid (((((BX1.out.drew)).below hb1)).below hb2)
  replace G := Lib.hid (((below_drewN G.out 1).trans (hb1.mono (below_drewN G.out 1).size)).trans (hb2.mono ((below_drewN G.out 1).trans (hb1.mono (below_drewN G.out 1).size)).size))
  clear hb1 hb2
  clear hEM0 hES0 hET0 hEP0
  obtain ⟨kBX1_0, kBX1_1, kBX1_2, kBX1_3⟩ := BX1.out.c4
  obtain ⟨kB1_0, kB1_1, kB1_2, kB1_3⟩ := B1.out.c4
  go_wp2_with fail
  go_region_held3 (fun w' => w'.cell? ⟨u19.heap.size, 0, none⟩ = some (.slice AM1 lM1 lM1) ∧ w'.cell? ⟨u19.heap.size, 1, none⟩ = some (.slice AS1 lS1 lS1) ∧ w'.cell? ⟨u19.heap.size, 2, none⟩ = some (.slice AT1 lT1 lT1) ∧ w'.cell? ⟨u19.heap.size, 3, none⟩ = some (.slice AP1 lP1 lP1) ∧ w'.cell? ⟨w.heap.size + 1, 0, none⟩ = some (.slice aM1 lM1 cM1) ∧ w'.cell? ⟨w.heap.size + 1, 1, none⟩ = some (.slice aS1 lS1 cS1) ∧ w'.cell? ⟨w.heap.size + 1, 2, none⟩ = some (.slice aT1 lT1 cT1) ∧ w'.cell? ⟨w.heap.size + 1, 3, none⟩ = some (.slice aP1 lP1 cP1)) (first | exact ⟨(((((BX1.out.drew)).below hb1)).below hb2).c4.1, (((((BX1.out.drew)).below hb1)).below hb2).c4.2.1, (((((BX1.out.drew)).below hb1)).below hb2).c4.2.2.1, (((((BX1.out.drew)).below hb1)).below hb2).c4.2.2.2, (((((B1.out.drew)).below hb1)).below hb2).c4.1, (((((B1.out.drew)).below hb1)).below hb2).c4.2.1, (((((B1.out.drew)).below hb1)).below hb2).c4.2.2.1, (((((B1.out.drew)).below hb1)).below hb2).c4.2.2.2⟩ | exact ⟨(((BX1.out.drew)).below hb1).c4.1, (((BX1.out.drew)).below hb1).c4.2.1, (((BX1.out.drew)).below hb1).c4.2.2.1, (((BX1.out.drew)).below hb1).c4.2.2.2, (((B1.out.drew)).below hb1).c4.1, (((B1.out.drew)).below hb1).c4.2.1, (((B1.out.drew)).below hb1).c4.2.2.1, (((B1.out.drew)).below hb1).c4.2.2.2⟩ | exact ⟨(BX1.out.drew).c4.1, (BX1.out.drew).c4.2.1, (BX1.out.drew).c4.2.2.1, (BX1.out.drew).c4.2.2.2, (B1.out.drew).c4.1, (B1.out.drew).c4.2.1, (B1.out.drew).c4.2.2.1, (B1.out.drew).c4.2.2.2⟩ | go_keep)
    ((first
      | (go_at_call 31; refine (eqRg_any AM1 lM1 lM1 zM1 AS1 lS1 lS1 zS1 AT1 lT1 lT1 zT1 AP1 lP1 lP1 zP1 EM1 lM1 ES1 lS1 ET1 lT1 EP1 lP1 _ ((((XM1.out.dw)).below hb1).sl) ((((XS1.out.dw)).below hb1).sl) ((((XT1.out.dw)).below hb1).sl) ((((XP1.out.dw)).below hb1).sl) hEM1.sl hES1.sl hET1.sl hEP1.sl hmM1 hmS1 hmT1 hmP1).mono ?_; rintro e u24 ⟨rfl, hb2⟩)
      | (go_at_call 29; refine (toRg_any aM1 lM1 cM1 zM1 aS1 lS1 cS1 zS1 aT1 lT1 cT1 zT1 aP1 lP1 cP1 zP1 _ (FSl.below HM1.out (below_drewN G.out 1)) (FSl.below HS1.out (below_drewN G.out 1)) (FSl.below HT1.out (below_drewN G.out 1)) (FSl.below HP1.out (below_drewN G.out 1)) hmM1 hmS1 hmT1 hmP1).mono ?_; rintro e u23 ⟨EM1, ES1, ET1, EP1, eM1, eS1, eT1, eP1, rfl, hEM1, hES1, hET1, hEP1, hb1⟩)
      ))
  clear kBX1_0 kBX1_1 kBX1_2 kBX1_3
  clear kB1_0 kB1_1 kB1_2 kB1_3
  replace B0 := Lib.hid (((((B0.out.drew)).below hb1)).below hb2)
  replace B1 := Lib.hid (((((B1.out.drew)).below hb1)).below hb2)
  replace XM0 := Lib.hid (((((XM0.out.dw)).below hb1)).below hb2)
  replace XS0 := Lib.hid (((((XS0.out.dw)).below hb1)).below hb2)
  replace XT0 := Lib.hid (((((XT0.out.dw)).below hb1)).below hb2)
  replace XP0 := Lib.hid (((((XP0.out.dw)).below hb1)).below hb2)
  replace BX0 := Lib.hid (((((BX0.out.drew)).below hb1)).below hb2)
  replace XM1 := Lib.hid (((((XM1.out.dw)).below hb1)).below hb2)
  replace XS1 := Lib.hid (((((XS1.out.dw)).below hb1)).below hb2)
  replace XT1 := Lib.hid (((((XT1.out.dw)).below hb1)).below hb2)
  replace XP1 := Lib.hid (((((XP1.out.dw)).below hb1)).below hb2)
  replace BX1 := Lib.hid (((((BX1.out.drew)).below hb1)).below hb2)
  replace G := Lib.hid (((below_drewN G.out 1).trans (hb1.mono (below_drewN G.out 1).size)).trans (hb2.mono ((below_drewN G.out 1).trans (hb1.mono (below_drewN G.out 1).size)).size))
  clear hb1 hb2
  clear hEM1 hES1 hET1 hEP1
  go_wp2
  go_ret
  exact ⟨rfl, G.out⟩
end Go.Proofs.Ytdjlakjjgkhlmaa.fnExactSameRegimes
