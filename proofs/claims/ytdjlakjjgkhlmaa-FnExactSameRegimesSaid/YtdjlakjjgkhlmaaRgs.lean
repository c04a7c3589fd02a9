/-
  The same regimes, in both packages.
-/
import Derived.Test.YtdjlakjjgkhlmaaRgl
import Derived.Test.YtdjlakjjgkhlmaaEqu
namespace Go.Proofs.Ytdjlakjjgkhlmaa
open Ieee Go.RowKit
set_option linter.unusedVariables false
def rgB (zM zM' zS zS' zT zT' zP zP' : List Nat) : Bool := allB zM zM' && (allB zS zS' && (allB zT zT' && allB zP zP'))
set_option maxHeartbeats 1000000 in
theorem imRg_any (aM : Option Addr) (lM cM : Nat) (zM : List Nat) (aS : Option Addr) (lS cS : Nat) (zS : List Nat) (aT : Option Addr) (lT cT : Nat) (zT : List Nat) (aP : Option Addr) (lP cP : Nat) (zP : List Nat) (aM' : Option Addr) (lM' cM' : Nat) (zM' : List Nat) (aS' : Option Addr) (lS' cS' : Nat) (zS' : List Nat) (aT' : Option Addr) (lT' cT' : Nat) (zT' : List Nat) (aP' : Option Addr) (lP' cP' : Nat) (zP' : List Nat) (w : World) (hM : FSl w aM lM zM) (hS : FSl w aS lS zS) (hT : FSl w aT lT zT) (hP : FSl w aP lP zP) (hM' : FSl w aM' lM' zM') (hS' : FSl w aS' lS' zS') (hT' : FSl w aT' lT' zT') (hP' : FSl w aP' lP' zP') (mM : lM ≤ 1048576) (mS : lS ≤ 1048576) (mT : lT ≤ 1048576) (mP : lP ≤ 1048576) (mM' : lM' ≤ 1048576) (mS' : lS' ≤ 1048576) (mT' : lT' ≤ 1048576) (mP' : lP' ≤ 1048576) :
    Calls Try.prog 33 #[.agg #[.slice aM lM cM, .slice aS lS cS, .slice aT lT cT, .slice aP lP cP], .agg #[.slice aM' lM' cM', .slice aS' lS' cS', .slice aT' lT' cT', .slice aP' lP' cP']] w fun e w' => e = .returned (.bool (rgB zM zM' zS zS' zT zT' zP zP')) ∧ Below w.heap.size w w' := by
  have G := Lib.hid (((Below.refl w.heap.size w).alloc (Nat.le_refl _) (.cells #[.slice aM lM cM, .slice aS lS cS, .slice aT lT cT, .slice aP lP cP] 48)).alloc (by simp) (.cells #[.slice aM' lM' cM', .slice aS' lS' cS', .slice aT' lT' cT', .slice aP' lP' cP'] 48))
  have HM := Lib.hid (FSl.below hM G.out)
  have HM' := Lib.hid (FSl.below hM' G.out)
  have HS := Lib.hid (FSl.below hS G.out)
  have HS' := Lib.hid (FSl.below hS' G.out)
  have HT := Lib.hid (FSl.below hT G.out)
  have HT' := Lib.hid (FSl.below hT' G.out)
  have HP := Lib.hid (FSl.below hP G.out)
  have HP' := Lib.hid (FSl.below hP' G.out)
  clear hM hM' hS hS' hT hT' hP hP'
  have HU := Lib.hid (show rgB zM zM' zS zS' zT zT' zP zP' = (allB zM zM' && (allB zS zS' && (allB zT zT' && allB zP zP'))) from rfl)
  cases g0 : allB zM zM'
  · have E0 := Lib.hid g0
    have HB := Lib.hid (show rgB zM zM' zS zS' zT zT' zP zP' = false by rw [HU.out, g0]; simp)
    clear g0 HU
    go_enter Try.func33, Try.ntmps33
    go_wp2_with fail
    refine (imEql_any _ _ _ _ _ _ _ _ _ HM.out HM'.out mM mM').mono ?_
    rw [E0.out]
    rintro e w' ⟨rfl, rfl⟩
    go_wp2_with fail
    go_ret
    exact ⟨by rw [HB.out]; try rfl, G.out⟩
  · have E0 := Lib.hid g0
    clear g0
    cases g1 : allB zS zS'
    · have E1 := Lib.hid g1
      have HB := Lib.hid (show rgB zM zM' zS zS' zT zT' zP zP' = false by rw [HU.out, g1, E0.out]; simp)
      clear g1 HU
      go_enter Try.func33, Try.ntmps33
      go_wp2_with fail
      refine (imEql_any _ _ _ _ _ _ _ _ _ HM.out HM'.out mM mM').mono ?_
      rw [E0.out]
      rintro e w' ⟨rfl, rfl⟩
      go_wp2_with fail
      refine (imEql_any _ _ _ _ _ _ _ _ _ HS.out HS'.out mS mS').mono ?_
      rw [E1.out]
      rintro e w' ⟨rfl, rfl⟩
      go_wp2_with fail
      go_ret
      exact ⟨by rw [HB.out]; try rfl, G.out⟩
    · have E1 := Lib.hid g1
      clear g1
      cases g2 : allB zT zT'
      · have E2 := Lib.hid g2
        have HB := Lib.hid (show rgB zM zM' zS zS' zT zT' zP zP' = false by rw [HU.out, g2, E0.out, E1.out]; simp)
        clear g2 HU
        go_enter Try.func33, Try.ntmps33
        go_wp2_with fail
        refine (imEql_any _ _ _ _ _ _ _ _ _ HM.out HM'.out mM mM').mono ?_
        rw [E0.out]
        rintro e w' ⟨rfl, rfl⟩
        go_wp2_with fail
        refine (imEql_any _ _ _ _ _ _ _ _ _ HS.out HS'.out mS mS').mono ?_
        rw [E1.out]
        rintro e w' ⟨rfl, rfl⟩
        go_wp2_with fail
        refine (imEql_any _ _ _ _ _ _ _ _ _ HT.out HT'.out mT mT').mono ?_
        rw [E2.out]
        rintro e w' ⟨rfl, rfl⟩
        go_wp2_with fail
        go_ret
        exact ⟨by rw [HB.out]; try rfl, G.out⟩
      · have E2 := Lib.hid g2
        clear g2
        have HB := Lib.hid (show rgB zM zM' zS zS' zT zT' zP zP' = allB zP zP' by rw [HU.out, E0.out, E1.out, E2.out]; rfl)
        clear HU
        go_enter Try.func33, Try.ntmps33
        go_wp2_with fail
        refine (imEql_any _ _ _ _ _ _ _ _ _ HM.out HM'.out mM mM').mono ?_
        rw [E0.out]
        rintro e w' ⟨rfl, rfl⟩
        go_wp2_with fail
        refine (imEql_any _ _ _ _ _ _ _ _ _ HS.out HS'.out mS mS').mono ?_
        rw [E1.out]
        rintro e w' ⟨rfl, rfl⟩
        go_wp2_with fail
        refine (imEql_any _ _ _ _ _ _ _ _ _ HT.out HT'.out mT mT').mono ?_
        rw [E2.out]
        rintro e w' ⟨rfl, rfl⟩
        go_wp2_with fail
        refine (imEql_any _ _ _ _ _ _ _ _ _ HP.out HP'.out mP mP').mono ?_
        rintro e w' ⟨rfl, rfl⟩
        go_wp2_with fail
        go_ret
        exact ⟨by rw [HB.out]; try rfl, G.out⟩
set_option maxHeartbeats 1000000 in
theorem spRg_any (aM : Option Addr) (lM cM : Nat) (zM : List Nat) (aS : Option Addr) (lS cS : Nat) (zS : List Nat) (aT : Option Addr) (lT cT : Nat) (zT : List Nat) (aP : Option Addr) (lP cP : Nat) (zP : List Nat) (aM' : Option Addr) (lM' cM' : Nat) (zM' : List Nat) (aS' : Option Addr) (lS' cS' : Nat) (zS' : List Nat) (aT' : Option Addr) (lT' cT' : Nat) (zT' : List Nat) (aP' : Option Addr) (lP' cP' : Nat) (zP' : List Nat) (w : World) (hM : FSl w aM lM zM) (hS : FSl w aS lS zS) (hT : FSl w aT lT zT) (hP : FSl w aP lP zP) (hM' : FSl w aM' lM' zM') (hS' : FSl w aS' lS' zS') (hT' : FSl w aT' lT' zT') (hP' : FSl w aP' lP' zP') (mM : lM ≤ 1048576) (mS : lS ≤ 1048576) (mT : lT ≤ 1048576) (mP : lP ≤ 1048576) (mM' : lM' ≤ 1048576) (mS' : lS' ≤ 1048576) (mT' : lT' ≤ 1048576) (mP' : lP' ≤ 1048576) :
    Calls Try.prog 32 #[.agg #[.slice aM lM cM, .slice aS lS cS, .slice aT lT cT, .slice aP lP cP], .agg #[.slice aM' lM' cM', .slice aS' lS' cS', .slice aT' lT' cT', .slice aP' lP' cP']] w fun e w' => e = .returned (.bool (rgB zM zM' zS zS' zT zT' zP zP')) ∧ Below w.heap.size w w' := by
  have G := Lib.hid (((Below.refl w.heap.size w).alloc (Nat.le_refl _) (.cells #[.slice aM lM cM, .slice aS lS cS, .slice aT lT cT, .slice aP lP cP] 48)).alloc (by simp) (.cells #[.slice aM' lM' cM', .slice aS' lS' cS', .slice aT' lT' cT', .slice aP' lP' cP'] 48))
  have HM := Lib.hid (FSl.below hM G.out)
  have HM' := Lib.hid (FSl.below hM' G.out)
  have HS := Lib.hid (FSl.below hS G.out)
  have HS' := Lib.hid (FSl.below hS' G.out)
  have HT := Lib.hid (FSl.below hT G.out)
  have HT' := Lib.hid (FSl.below hT' G.out)
  have HP := Lib.hid (FSl.below hP G.out)
  have HP' := Lib.hid (FSl.below hP' G.out)
  clear hM hM' hS hS' hT hT' hP hP'
  have HU := Lib.hid (show rgB zM zM' zS zS' zT zT' zP zP' = (allB zM zM' && (allB zS zS' && (allB zT zT' && allB zP zP'))) from rfl)
  cases g0 : allB zM zM'
  · have E0 := Lib.hid g0
    have HB := Lib.hid (show rgB zM zM' zS zS' zT zT' zP zP' = false by rw [HU.out, g0]; simp)
    clear g0 HU
    go_enter Try.func32, Try.ntmps32
    go_wp2_with fail
    refine (spAll_any _ _ _ _ _ _ _ _ _ HM.out HM'.out mM mM').mono ?_
    rw [E0.out]
    rintro e w' ⟨n0, rfl, rfl⟩
    go_wp2_with fail
    go_ret
    exact ⟨by rw [HB.out]; try rfl, by first | exact G.out | exact below_drewN G.out _⟩
  · have E0 := Lib.hid g0
    clear g0
    cases g1 : allB zS zS'
    · have E1 := Lib.hid g1
      have HB := Lib.hid (show rgB zM zM' zS zS' zT zT' zP zP' = false by rw [HU.out, g1, E0.out]; simp)
      clear g1 HU
      go_enter Try.func32, Try.ntmps32
      go_wp2_with fail
      refine (spAll_any _ _ _ _ _ _ _ _ _ HM.out HM'.out mM mM').mono ?_
      rw [E0.out]
      rintro e w' ⟨n0, rfl, rfl⟩
      go_wp2_with fail
      refine (spAll_any _ _ _ _ _ _ _ _ _ (FSl.drewN HS.out _) (FSl.drewN HS'.out _) mS mS').mono ?_
      rw [E1.out]
      rintro e w' ⟨n1, rfl, rfl⟩
      go_wp2_with fail
      go_ret
      exact ⟨by rw [HB.out]; try rfl, by first | exact G.out | exact below_drewN G.out _⟩
    · have E1 := Lib.hid g1
      clear g1
      cases g2 : allB zT zT'
      · have E2 := Lib.hid g2
        have HB := Lib.hid (show rgB zM zM' zS zS' zT zT' zP zP' = false by rw [HU.out, g2, E0.out, E1.out]; simp)
        clear g2 HU
        go_enter Try.func32, Try.ntmps32
        go_wp2_with fail
        refine (spAll_any _ _ _ _ _ _ _ _ _ HM.out HM'.out mM mM').mono ?_
        rw [E0.out]
        rintro e w' ⟨n0, rfl, rfl⟩
        go_wp2_with fail
        refine (spAll_any _ _ _ _ _ _ _ _ _ (FSl.drewN HS.out _) (FSl.drewN HS'.out _) mS mS').mono ?_
        rw [E1.out]
        rintro e w' ⟨n1, rfl, rfl⟩
        go_wp2_with fail
        refine (spAll_any _ _ _ _ _ _ _ _ _ (FSl.drewN HT.out _) (FSl.drewN HT'.out _) mT mT').mono ?_
        rw [E2.out]
        rintro e w' ⟨n2, rfl, rfl⟩
        go_wp2_with fail
        go_ret
        exact ⟨by rw [HB.out]; try rfl, by first | exact G.out | exact below_drewN G.out _⟩
      · have E2 := Lib.hid g2
        clear g2
        have HB := Lib.hid (show rgB zM zM' zS zS' zT zT' zP zP' = allB zP zP' by rw [HU.out, E0.out, E1.out, E2.out]; rfl)
        clear HU
        go_enter Try.func32, Try.ntmps32
        go_wp2_with fail
        refine (spAll_any _ _ _ _ _ _ _ _ _ HM.out HM'.out mM mM').mono ?_
        rw [E0.out]
        rintro e w' ⟨n0, rfl, rfl⟩
        go_wp2_with fail
        refine (spAll_any _ _ _ _ _ _ _ _ _ (FSl.drewN HS.out _) (FSl.drewN HS'.out _) mS mS').mono ?_
        rw [E1.out]
        rintro e w' ⟨n1, rfl, rfl⟩
        go_wp2_with fail
        refine (spAll_any _ _ _ _ _ _ _ _ _ (FSl.drewN HT.out _) (FSl.drewN HT'.out _) mT mT').mono ?_
        rw [E2.out]
        rintro e w' ⟨n2, rfl, rfl⟩
        go_wp2_with fail
        refine (spAll_any _ _ _ _ _ _ _ _ _ (FSl.drewN HP.out _) (FSl.drewN HP'.out _) mP mP').mono ?_
        rintro e w' ⟨n3, rfl, rfl⟩
        go_wp2_with fail
        go_ret
        exact ⟨by rw [HB.out]; try rfl, by first | exact G.out | exact below_drewN G.out _⟩
end Go.Proofs.Ytdjlakjjgkhlmaa
