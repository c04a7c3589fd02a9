/-
  Regimes: the law's copies, sizes, sameness.
-/
import Derived.Test.YtdjlakjjgkhlmaaCis
import Derived.Test.YtdjlakjjgkhlmaaCEqf
namespace Go.Proofs.Ytdjlakjjgkhlmaa
open Ieee Go.RowKit
set_option linter.unusedVariables false
set_option maxHeartbeats 4000000 in
set_option maxRecDepth 100000 in
theorem toRg_any (aM : Option Addr) (lM cM : Nat) (zM : List Nat) (aS : Option Addr) (lS cS : Nat) (zS : List Nat) (aT : Option Addr) (lT cT : Nat) (zT : List Nat) (aP : Option Addr) (lP cP : Nat) (zP : List Nat) (w : World) (hM : FSl w aM lM zM) (hS : FSl w aS lS zS) (hT : FSl w aT lT zT) (hP : FSl w aP lP zP) (mM : lM ≤ 1048576) (mS : lS ≤ 1048576) (mT : lT ≤ 1048576) (mP : lP ≤ 1048576) :
    Calls Try.prog 29 #[.agg #[.slice aM lM cM, .slice aS lS cS, .slice aT lT cT, .slice aP lP cP]] w fun e w' =>
      ∃ AM AS AT AP pM pS pT pP, e = .returned (.agg #[.slice AM lM lM, .slice AS lS lS, .slice AT lT lT, .slice AP lP lP]) ∧ Held w' AM pM lM zM ∧ Held w' AS pS lS zS ∧ Held w' AT pT lT zT ∧ Held w' AP pP lP zP ∧ Below w.heap.size w w' := by
  have HM := Lib.hid hM
  have HS := Lib.hid hS
  have HT := Lib.hid hT
  have HP := Lib.hid hP
  clear hM hS hT hP
  have HRES := Lib.hid (show Try.f29.results = #[.cell 2 48] by kernel_rfl)
  have G := Lib.hid ((((Below.refl w.heap.size w).alloc (Nat.le_refl _) (.cells #[.slice aM lM cM, .slice aS lS cS, .slice aT lT cT, .slice aP lP cP] 45)).alloc (by simp) (.cells #[.slice none 0 0, .slice none 0 0, .slice none 0 0, .slice none 0 0] 48)).alloc (by simp; omega) (.cells #[.slice none 0 0, .slice none 0 0, .slice none 0 0, .slice none 0 0] 48))
  have CP := Lib.hid (((CIs.newAt w [.slice aM lM cM, .slice aS lS cS, .slice aT lT cT, .slice aP lP cP] 45 rfl).alloc (.cells #[.slice none 0 0, .slice none 0 0, .slice none 0 0, .slice none 0 0] 48)).alloc (.cells #[.slice none 0 0, .slice none 0 0, .slice none 0 0, .slice none 0 0] 48))
  have CR := Lib.hid ((CIs.newAt (w.alloc (.cells #[.slice aM lM cM, .slice aS lS cS, .slice aT lT cT, .slice aP lP cP] 45)) [.slice none 0 0, .slice none 0 0, .slice none 0 0, .slice none 0 0] 48 (p := w.heap.size + 1) (by simp)).alloc (.cells #[.slice none 0 0, .slice none 0 0, .slice none 0 0, .slice none 0 0] 48))
  have CO := Lib.hid (CIs.newAt ((w.alloc (.cells #[.slice aM lM cM, .slice aS lS cS, .slice aT lT cT, .slice aP lP cP] 45)).alloc (.cells #[.slice none 0 0, .slice none 0 0, .slice none 0 0, .slice none 0 0] 48)) [.slice none 0 0, .slice none 0 0, .slice none 0 0, .slice none 0 0] 48 (p := w.heap.size + 1 + 1) (by simp))
  have hsz : w.heap.size + 1 + 1 < (((w.alloc (.cells #[.slice aM lM cM, .slice aS lS cS, .slice aT lT cT, .slice aP lP cP] 45)).alloc (.cells #[.slice none 0 0, .slice none 0 0, .slice none 0 0, .slice none 0 0] 48)).alloc (.cells #[.slice none 0 0, .slice none 0 0, .slice none 0 0, .slice none 0 0] 48)).heap.size := by simp
  go_enter Try.func29, Try.ntmps29
  obtain ⟨k0, k1, k2, k3⟩ := CP.out.c4
  go_wp2_with fail
  generalize ((w.alloc (.cells #[.slice aM lM cM, .slice aS lS cS, .slice aT lT cT, .slice aP lP cP] 45)).alloc (.cells #[.slice none 0 0, .slice none 0 0, .slice none 0 0, .slice none 0 0] 48)).alloc (.cells #[.slice none 0 0, .slice none 0 0, .slice none 0 0, .slice none 0 0] 48) = W at *
  refine (toFtE_any _ _ _ _ _ (FSl.below HM.out G.out) mM).mono ?_
  rintro e w0 ⟨AM, pM, rfl, hh, bb, hp⟩
  clear k0 k1 k2 k3
  replace G := Lib.hid (G.out.trans (bb.mono G.out.size))
  replace CP := Lib.hid (CP.out.below bb)
  replace CR := Lib.hid (CR.out.below bb)
  replace CO := Lib.hid (CO.out.below bb)
  have XM := Lib.hid hh
  have hpM : w.heap.size + 1 + 1 < pM := by omega
  replace hsz : w.heap.size + 1 + 1 < w0.heap.size := by have := bb.size; omega
  clear hh bb hp
  obtain ⟨o0, o1, o2, o3⟩ := CO.out.c4
  obtain ⟨f0, f1, f2, f3⟩ := CO.out.f4
  replace CO := Lib.hid (show CIs (w0.setCell ⟨w.heap.size + 1 + 1, 0, none⟩ (.slice AM lM lM)) (w.heap.size + 1 + 1) [.slice AM lM lM, .slice none 0 0, .slice none 0 0, .slice none 0 0] from CO.out.put (by simp))
  replace CP := Lib.hid (CP.out.set (o := 0) (v := .slice AM lM lM) (show w.heap.size ≠ w.heap.size + 1 + 1 by omega))
  replace CR := Lib.hid (CR.out.set (o := 0) (v := .slice AM lM lM) (show w.heap.size + 1 ≠ w.heap.size + 1 + 1 by omega))
  replace G := Lib.hid (show Below w.heap.size w (w0.setCell ⟨w.heap.size + 1 + 1, 0, none⟩ (.slice AM lM lM)) from G.out.setCell (by show w.heap.size ≤ w.heap.size + 1 + 1; omega) _)
  replace hsz : w.heap.size + 1 + 1 < (w0.setCell ⟨w.heap.size + 1 + 1, 0, none⟩ (.slice AM lM lM)).heap.size := by simp only [World.setCell, Array.size_modify]; exact hsz
  replace XM := Lib.hid (XM.out.setC (c := w.heap.size + 1 + 1) (o := 0) (v := .slice AM lM lM) (by omega))
  obtain ⟨k0, k1, k2, k3⟩ := CP.out.c4
  go_wp2_with fail
  refine (toFtE_any _ _ _ _ _ (FSl.below HS.out G.out) mS).mono ?_
  rintro e w1 ⟨AS, pS, rfl, hh, bb, hp⟩
  clear k0 k1 k2 k3
  replace G := Lib.hid (G.out.trans (bb.mono G.out.size))
  replace CP := Lib.hid (CP.out.below bb)
  replace CR := Lib.hid (CR.out.below bb)
  replace CO := Lib.hid (CO.out.below bb)
  replace XM := Lib.hid (XM.out.below bb)
  have XS := Lib.hid hh
  have hpS : w.heap.size + 1 + 1 < pS := by omega
  replace hsz : w.heap.size + 1 + 1 < w1.heap.size := by have := bb.size; omega
  clear hh bb hp
  obtain ⟨o0, o1, o2, o3⟩ := CO.out.c4
  obtain ⟨f0, f1, f2, f3⟩ := CO.out.f4
  replace CO := Lib.hid (show CIs (w1.setCell ⟨w.heap.size + 1 + 1, 1, none⟩ (.slice AS lS lS)) (w.heap.size + 1 + 1) [.slice AM lM lM, .slice AS lS lS, .slice none 0 0, .slice none 0 0] from CO.out.put (by simp))
  replace CP := Lib.hid (CP.out.set (o := 1) (v := .slice AS lS lS) (show w.heap.size ≠ w.heap.size + 1 + 1 by omega))
  replace CR := Lib.hid (CR.out.set (o := 1) (v := .slice AS lS lS) (show w.heap.size + 1 ≠ w.heap.size + 1 + 1 by omega))
  replace G := Lib.hid (show Below w.heap.size w (w1.setCell ⟨w.heap.size + 1 + 1, 1, none⟩ (.slice AS lS lS)) from G.out.setCell (by show w.heap.size ≤ w.heap.size + 1 + 1; omega) _)
  replace hsz : w.heap.size + 1 + 1 < (w1.setCell ⟨w.heap.size + 1 + 1, 1, none⟩ (.slice AS lS lS)).heap.size := by simp only [World.setCell, Array.size_modify]; exact hsz
  replace XM := Lib.hid (XM.out.setC (c := w.heap.size + 1 + 1) (o := 1) (v := .slice AS lS lS) (by omega))
  replace XS := Lib.hid (XS.out.setC (c := w.heap.size + 1 + 1) (o := 1) (v := .slice AS lS lS) (by omega))
  obtain ⟨k0, k1, k2, k3⟩ := CP.out.c4
  go_wp2_with fail
  refine (toFtE_any _ _ _ _ _ (FSl.below HT.out G.out) mT).mono ?_
  rintro e w2 ⟨AT, pT, rfl, hh, bb, hp⟩
  clear k0 k1 k2 k3
  replace G := Lib.hid (G.out.trans (bb.mono G.out.size))
  replace CP := Lib.hid (CP.out.below bb)
  replace CR := Lib.hid (CR.out.below bb)
  replace CO := Lib.hid (CO.out.below bb)
  replace XM := Lib.hid (XM.out.below bb)
  replace XS := Lib.hid (XS.out.below bb)
  have XT := Lib.hid hh
  have hpT : w.heap.size + 1 + 1 < pT := by omega
  replace hsz : w.heap.size + 1 + 1 < w2.heap.size := by have := bb.size; omega
  clear hh bb hp
  obtain ⟨o0, o1, o2, o3⟩ := CO.out.c4
  obtain ⟨f0, f1, f2, f3⟩ := CO.out.f4
  replace CO := Lib.hid (show CIs (w2.setCell ⟨w.heap.size + 1 + 1, 2, none⟩ (.slice AT lT lT)) (w.heap.size + 1 + 1) [.slice AM lM lM, .slice AS lS lS, .slice AT lT lT, .slice none 0 0] from CO.out.put (by simp))
  replace CP := Lib.hid (CP.out.set (o := 2) (v := .slice AT lT lT) (show w.heap.size ≠ w.heap.size + 1 + 1 by omega))
  replace CR := Lib.hid (CR.out.set (o := 2) (v := .slice AT lT lT) (show w.heap.size + 1 ≠ w.heap.size + 1 + 1 by omega))
  replace G := Lib.hid (show Below w.heap.size w (w2.setCell ⟨w.heap.size + 1 + 1, 2, none⟩ (.slice AT lT lT)) from G.out.setCell (by show w.heap.size ≤ w.heap.size + 1 + 1; omega) _)
  replace hsz : w.heap.size + 1 + 1 < (w2.setCell ⟨w.heap.size + 1 + 1, 2, none⟩ (.slice AT lT lT)).heap.size := by simp only [World.setCell, Array.size_modify]; exact hsz
  replace XM := Lib.hid (XM.out.setC (c := w.heap.size + 1 + 1) (o := 2) (v := .slice AT lT lT) (by omega))
  replace XS := Lib.hid (XS.out.setC (c := w.heap.size + 1 + 1) (o := 2) (v := .slice AT lT lT) (by omega))
  replace XT := Lib.hid (XT.out.setC (c := w.heap.size + 1 + 1) (o := 2) (v := .slice AT lT lT) (by omega))
  obtain ⟨k0, k1, k2, k3⟩ := CP.out.c4
  go_wp2_with fail
  refine (toFtE_any _ _ _ _ _ (FSl.below HP.out G.out) mP).mono ?_
  rintro e w3 ⟨AP, pP, rfl, hh, bb, hp⟩
  clear k0 k1 k2 k3
  replace G := Lib.hid (G.out.trans (bb.mono G.out.size))
  replace CP := Lib.hid (CP.out.below bb)
  replace CR := Lib.hid (CR.out.below bb)
  replace CO := Lib.hid (CO.out.below bb)
  replace XM := Lib.hid (XM.out.below bb)
  replace XS := Lib.hid (XS.out.below bb)
  replace XT := Lib.hid (XT.out.below bb)
  have XP := Lib.hid hh
  have hpP : w.heap.size + 1 + 1 < pP := by omega
  replace hsz : w.heap.size + 1 + 1 < w3.heap.size := by have := bb.size; omega
  clear hh bb hp
  obtain ⟨o0, o1, o2, o3⟩ := CO.out.c4
  obtain ⟨f0, f1, f2, f3⟩ := CO.out.f4
  obtain ⟨r0, r1, r2, r3⟩ := CR.out.c4
  obtain ⟨g0, g1, g2, g3⟩ := CR.out.f4
  go_wp2
  refine bodyPost_ret (v := .agg #[.slice AM lM lM, .slice AS lS lS, .slice AT lT lT, .slice AP lP lP]) ?_ rfl ⟨AM, AS, AT, AP, pM, pS, pT, pP, rfl, ?_, ?_, ?_, ?_, ?_⟩
  · have hres := HRES.out
    simp only [results, hres]
    go_simp
  · exact ((((XM.out.setC (by omega)).setC (by omega)).setC (by omega)).setC (by omega)).setC (by omega)
  · exact ((((XS.out.setC (by omega)).setC (by omega)).setC (by omega)).setC (by omega)).setC (by omega)
  · exact ((((XT.out.setC (by omega)).setC (by omega)).setC (by omega)).setC (by omega)).setC (by omega)
  · exact ((((XP.out.setC (by omega)).setC (by omega)).setC (by omega)).setC (by omega)).setC (by omega)
  · exact ((((G.out.setCell (by show w.heap.size ≤ w.heap.size + 1 + 1; omega) _).setCell (by show w.heap.size ≤ w.heap.size + 1; omega) _).setCell (by show w.heap.size ≤ w.heap.size + 1; omega) _).setCell (by show w.heap.size ≤ w.heap.size + 1; omega) _).setCell (by show w.heap.size ≤ w.heap.size + 1; omega) _
theorem szRg_any (aM : Option Addr) (lM cM : Nat) (aS : Option Addr) (lS cS : Nat) (aT : Option Addr) (lT cT : Nat) (aP : Option Addr) (lP cP : Nat) (n : Nat) (w : World) (hn : n ≤ 1048576) (mM : lM ≤ n) (mS : lS ≤ n - lM) (mT : lT ≤ n - lM - lS) (mP : lP ≤ n - lM - lS - lT) :
    Calls Try.prog 27 #[.agg #[.slice aM lM cM, .slice aS lS cS, .slice aT lT cT, .slice aP lP cP], .int .i64 n] w fun e w' => e = .returned (.int .i64 ((n - lM - lS - lT - lP : Nat) : Int)) ∧ Below w.heap.size w w' := by
  have C := Lib.hid (CIs.newAt w [.slice aM lM cM, .slice aS lS cS, .slice aT lT cT, .slice aP lP cP] 45 rfl)
  have G := Lib.hid ((Below.refl w.heap.size w).alloc (Nat.le_refl _) (.cells #[.slice aM lM cM, .slice aS lS cS, .slice aT lT cT, .slice aP lP cP] 45))
  have d0 : decide (((n - lM : Nat) : Int) < 0) = false := decide_eq_false (by omega)
  have d1 : decide (((n - lM - lS : Nat) : Int) < 0) = false := decide_eq_false (by omega)
  have d2 : decide (((n - lM - lS - lT : Nat) : Int) < 0) = false := decide_eq_false (by omega)
  have d3 : decide (((n - lM - lS - lT - lP : Nat) : Int) < 0) = false := decide_eq_false (by omega)
  go_enter Try.func27, Try.ntmps27
  obtain ⟨k0, k1, k2, k3⟩ := C.out.c4
  go_wp2_with fail
  refine (szFy_any _ _ _ (n) _ (by omega) mM).mono ?_
  rintro e w' ⟨rfl, rfl⟩
  go_wp2_with fail
  refine (szFy_any _ _ _ (n - lM) _ (by omega) mS).mono ?_
  rintro e w' ⟨rfl, rfl⟩
  go_wp2_with fail
  refine (szFy_any _ _ _ (n - lM - lS) _ (by omega) mT).mono ?_
  rintro e w' ⟨rfl, rfl⟩
  go_wp2_with fail
  refine (szFy_any _ _ _ (n - lM - lS - lT) _ (by omega) mP).mono ?_
  rintro e w' ⟨rfl, rfl⟩
  go_wp2
  go_ret
  exact ⟨rfl, G.out⟩
theorem szRg_no0 (aM : Option Addr) (lM cM : Nat) (aS : Option Addr) (lS cS : Nat) (aT : Option Addr) (lT cT : Nat) (aP : Option Addr) (lP cP : Nat) (n : Nat) (w : World) (hn : n ≤ 1048576) (mM : n < lM) (hx : lM ≤ maxLen) :
    Calls Try.prog 27 #[.agg #[.slice aM lM cM, .slice aS lS cS, .slice aT lT cT, .slice aP lP cP], .int .i64 n] w fun e w' => e = .returned (.int .i64 (-1)) ∧ Below w.heap.size w w' := by
  have C := Lib.hid (CIs.newAt w [.slice aM lM cM, .slice aS lS cS, .slice aT lT cT, .slice aP lP cP] 45 rfl)
  have G := Lib.hid ((Below.refl w.heap.size w).alloc (Nat.le_refl _) (.cells #[.slice aM lM cM, .slice aS lS cS, .slice aT lT cT, .slice aP lP cP] 45))
  go_enter Try.func27, Try.ntmps27
  obtain ⟨k0, k1, k2, k3⟩ := C.out.c4
  go_wp2_with fail
  refine (szFn_any _ _ _ (n) _ (by omega) mM hx).mono ?_
  rintro e w' ⟨rfl, rfl⟩
  go_wp2
  go_ret
  exact ⟨rfl, G.out⟩
theorem szRg_no1 (aM : Option Addr) (lM cM : Nat) (aS : Option Addr) (lS cS : Nat) (aT : Option Addr) (lT cT : Nat) (aP : Option Addr) (lP cP : Nat) (n : Nat) (w : World) (hn : n ≤ 1048576) (mM : lM ≤ n) (mS : n - lM < lS) (hx : lS ≤ maxLen) :
    Calls Try.prog 27 #[.agg #[.slice aM lM cM, .slice aS lS cS, .slice aT lT cT, .slice aP lP cP], .int .i64 n] w fun e w' => e = .returned (.int .i64 (-1)) ∧ Below w.heap.size w w' := by
  have C := Lib.hid (CIs.newAt w [.slice aM lM cM, .slice aS lS cS, .slice aT lT cT, .slice aP lP cP] 45 rfl)
  have G := Lib.hid ((Below.refl w.heap.size w).alloc (Nat.le_refl _) (.cells #[.slice aM lM cM, .slice aS lS cS, .slice aT lT cT, .slice aP lP cP] 45))
  have d0 : decide (((n - lM : Nat) : Int) < 0) = false := decide_eq_false (by omega)
  go_enter Try.func27, Try.ntmps27
  obtain ⟨k0, k1, k2, k3⟩ := C.out.c4
  go_wp2_with fail
  refine (szFy_any _ _ _ (n) _ (by omega) mM).mono ?_
  rintro e w' ⟨rfl, rfl⟩
  go_wp2_with fail
  refine (szFn_any _ _ _ (n - lM) _ (by omega) mS hx).mono ?_
  rintro e w' ⟨rfl, rfl⟩
  go_wp2
  go_ret
  exact ⟨rfl, G.out⟩
theorem szRg_no2 (aM : Option Addr) (lM cM : Nat) (aS : Option Addr) (lS cS : Nat) (aT : Option Addr) (lT cT : Nat) (aP : Option Addr) (lP cP : Nat) (n : Nat) (w : World) (hn : n ≤ 1048576) (mM : lM ≤ n) (mS : lS ≤ n - lM) (mT : n - lM - lS < lT) (hx : lT ≤ maxLen) :
    Calls Try.prog 27 #[.agg #[.slice aM lM cM, .slice aS lS cS, .slice aT lT cT, .slice aP lP cP], .int .i64 n] w fun e w' => e = .returned (.int .i64 (-1)) ∧ Below w.heap.size w w' := by
  have C := Lib.hid (CIs.newAt w [.slice aM lM cM, .slice aS lS cS, .slice aT lT cT, .slice aP lP cP] 45 rfl)
  have G := Lib.hid ((Below.refl w.heap.size w).alloc (Nat.le_refl _) (.cells #[.slice aM lM cM, .slice aS lS cS, .slice aT lT cT, .slice aP lP cP] 45))
  have d0 : decide (((n - lM : Nat) : Int) < 0) = false := decide_eq_false (by omega)
  have d1 : decide (((n - lM - lS : Nat) : Int) < 0) = false := decide_eq_false (by omega)
  go_enter Try.func27, Try.ntmps27
  obtain ⟨k0, k1, k2, k3⟩ := C.out.c4
  go_wp2_with fail
  refine (szFy_any _ _ _ (n) _ (by omega) mM).mono ?_
  rintro e w' ⟨rfl, rfl⟩
  go_wp2_with fail
  refine (szFy_any _ _ _ (n - lM) _ (by omega) mS).mono ?_
  rintro e w' ⟨rfl, rfl⟩
  go_wp2_with fail
  refine (szFn_any _ _ _ (n - lM - lS) _ (by omega) mT hx).mono ?_
  rintro e w' ⟨rfl, rfl⟩
  go_wp2
  go_ret
  exact ⟨rfl, G.out⟩
theorem szRg_no3 (aM : Option Addr) (lM cM : Nat) (aS : Option Addr) (lS cS : Nat) (aT : Option Addr) (lT cT : Nat) (aP : Option Addr) (lP cP : Nat) (n : Nat) (w : World) (hn : n ≤ 1048576) (mM : lM ≤ n) (mS : lS ≤ n - lM) (mT : lT ≤ n - lM - lS) (mP : n - lM - lS - lT < lP) (hx : lP ≤ maxLen) :
    Calls Try.prog 27 #[.agg #[.slice aM lM cM, .slice aS lS cS, .slice aT lT cT, .slice aP lP cP], .int .i64 n] w fun e w' => e = .returned (.int .i64 (-1)) ∧ Below w.heap.size w w' := by
  have C := Lib.hid (CIs.newAt w [.slice aM lM cM, .slice aS lS cS, .slice aT lT cT, .slice aP lP cP] 45 rfl)
  have G := Lib.hid ((Below.refl w.heap.size w).alloc (Nat.le_refl _) (.cells #[.slice aM lM cM, .slice aS lS cS, .slice aT lT cT, .slice aP lP cP] 45))
  have d0 : decide (((n - lM : Nat) : Int) < 0) = false := decide_eq_false (by omega)
  have d1 : decide (((n - lM - lS : Nat) : Int) < 0) = false := decide_eq_false (by omega)
  have d2 : decide (((n - lM - lS - lT : Nat) : Int) < 0) = false := decide_eq_false (by omega)
  go_enter Try.func27, Try.ntmps27
  obtain ⟨k0, k1, k2, k3⟩ := C.out.c4
  go_wp2_with fail
  refine (szFy_any _ _ _ (n) _ (by omega) mM).mono ?_
  rintro e w' ⟨rfl, rfl⟩
  go_wp2_with fail
  refine (szFy_any _ _ _ (n - lM) _ (by omega) mS).mono ?_
  rintro e w' ⟨rfl, rfl⟩
  go_wp2_with fail
  refine (szFy_any _ _ _ (n - lM - lS) _ (by omega) mT).mono ?_
  rintro e w' ⟨rfl, rfl⟩
  go_wp2_with fail
  refine (szFn_any _ _ _ (n - lM - lS - lT) _ (by omega) mP hx).mono ?_
  rintro e w' ⟨rfl, rfl⟩
  go_wp2
  go_ret
  exact ⟨rfl, G.out⟩
theorem eqRg_any (aM : Option Addr) (lM cM : Nat) (zM : List Nat) (aS : Option Addr) (lS cS : Nat) (zS : List Nat) (aT : Option Addr) (lT cT : Nat) (zT : List Nat) (aP : Option Addr) (lP cP : Nat) (zP : List Nat) (aM' : Option Addr) (cM' : Nat) (aS' : Option Addr) (cS' : Nat) (aT' : Option Addr) (cT' : Nat) (aP' : Option Addr) (cP' : Nat) (w : World) (hM : FSl w aM lM zM) (hS : FSl w aS lS zS) (hT : FSl w aT lT zT) (hP : FSl w aP lP zP) (hM' : FSl w aM' lM zM) (hS' : FSl w aS' lS zS) (hT' : FSl w aT' lT zT) (hP' : FSl w aP' lP zP) (mM : lM ≤ 1048576) (mS : lS ≤ 1048576) (mT : lT ≤ 1048576) (mP : lP ≤ 1048576) :
    Calls Try.prog 31 #[.agg #[.slice aM lM cM, .slice aS lS cS, .slice aT lT cT, .slice aP lP cP], .agg #[.slice aM' lM cM', .slice aS' lS cS', .slice aT' lT cT', .slice aP' lP cP']] w fun e w' => e = .returned (.bool true) ∧ Below w.heap.size w w' := by
  have G := Lib.hid (((Below.refl w.heap.size w).alloc (Nat.le_refl _) (.cells #[.slice aM lM cM, .slice aS lS cS, .slice aT lT cT, .slice aP lP cP] 48)).alloc (by simp) (.cells #[.slice aM' lM cM', .slice aS' lS cS', .slice aT' lT cT', .slice aP' lP cP'] 48))
  have HM := Lib.hid (FSl.below hM G.out)
  have HM' := Lib.hid (FSl.below hM' G.out)
  have HS := Lib.hid (FSl.below hS G.out)
  have HS' := Lib.hid (FSl.below hS' G.out)
  have HT := Lib.hid (FSl.below hT G.out)
  have HT' := Lib.hid (FSl.below hT' G.out)
  have HP := Lib.hid (FSl.below hP G.out)
  have HP' := Lib.hid (FSl.below hP' G.out)
  clear hM hM' hS hS' hT hT' hP hP'
  go_enter Try.func31, Try.ntmps31
  go_wp2_with fail
  refine (eqF_any _ _ _ _ _ _ _ _ HM.out HM'.out mM (fun _ _ => rfl)).mono ?_
  rintro e w' ⟨n0, rfl, rfl⟩
  go_wp2_with fail
  refine (eqF_any _ _ _ _ _ _ _ _ (FSl.drewN HS.out _) (FSl.drewN HS'.out _) mS (fun _ _ => rfl)).mono ?_
  rintro e w' ⟨n1, rfl, rfl⟩
  go_wp2_with fail
  refine (eqF_any _ _ _ _ _ _ _ _ (FSl.drewN HT.out _) (FSl.drewN HT'.out _) mT (fun _ _ => rfl)).mono ?_
  rintro e w' ⟨n2, rfl, rfl⟩
  go_wp2_with fail
  refine (eqF_any _ _ _ _ _ _ _ _ (FSl.drewN HP.out _) (FSl.drewN HP'.out _) mP (fun _ _ => rfl)).mono ?_
  rintro e w' ⟨n3, rfl, rfl⟩
  go_wp2
  go_ret
  exact ⟨rfl, below_drewN G.out _⟩
end Go.Proofs.Ytdjlakjjgkhlmaa
