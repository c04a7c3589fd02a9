/-
  SimpleLevels of the program.
-/
import Derived.Test.YtallegmkkbmelabSlc
namespace Go.Proofs.Ytallegmkkbmelab
open Ieee Go.RowKit
set_option linter.unusedVariables false

set_option maxHeartbeats 1000000 in
theorem implLv_any (a : Option Addr) (len cap : Nat) (zs : List Nat) (s : Nat) (w : World) (h : FSl w a len zs) (hm : len ≤ 1048576) :
    Calls Try.prog 53 #[.slice a len cap, .float .f32 s] w (RetOB 28 (lvR zs s) (lvB zs s) w) := by
  have hmf : ∀ (fn : Fn) (first cap : Array Value) (w : World), (Instr.makeFunc fn first cap).run Try.prog w = .ok (.func fn first cap) w := fun _ _ _ _ => rfl
  have G := Lib.hid (((Below.refl w.heap.size w).alloc (Nat.le_refl _) (.cells #[.slice a len cap] 22)).alloc (by simp) (.cells #[.float .f32 s] 28))
  have H := Lib.hid h
  have HG := Lib.hid (FSl.below h G.out)
  have HL := Lib.hid h.1
  clear h
  cases hs : serB zs
  · have HS := Lib.hid hs
    have HB := Lib.hid (lv_bad (s := s) (zs := zs) (by rw [hs]; rfl))
    clear hs
    go_enter Try.func53, Try.ntmps53
    go_wp2_with fail
    refine (implSeries_any _ _ _ _ _ HG.out hm).mono ?_
    rw [HS.out]
    rintro e w' ⟨m, rfl, rfl⟩
    go_wp2_with fail
    go_ret2
    exact fail_ob _ HB.out.1 HB.out.2 (below_drewN G.out _)
  · cases hh : shB s
    · have HS := Lib.hid hs
      have HH := Lib.hid hh
      have HB := Lib.hid (lv_bad (s := s) (zs := zs) (by rw [hs, hh]; rfl))
      clear hs hh
      go_enter Try.func53, Try.ntmps53
      go_wp2_with fail
      refine (implSeries_any _ _ _ _ _ HG.out hm).mono ?_
      rw [HS.out]
      rintro e w' ⟨m, rfl, rfl⟩
      go_wp2_with fail
      refine (imSh_any _ _).mono ?_
      rw [HH.out]
      rintro e w' ⟨rfl, rfl⟩
      go_wp2_with fail
      go_ret2
      exact fail_ob _ HB.out.1 HB.out.2 (below_drewN G.out _)
    · have HS := Lib.hid hs
      have HH := Lib.hid hh
      have HB := Lib.hid (lv_good hs hh)
      obtain ⟨hs1, -, -⟩ := serB_t hs
      rw [HL.out] at hs1
      obtain ⟨b, off, rfl, hb, hc⟩ := HG.out.at (by omega)
      have hc0 := hc 0 (by omega)
      rw [Nat.add_zero] at hc0
      have HZ := Lib.hid (show cn .f32 (zs.getD 0 0) = lvT zs s 0 from rfl)
      generalize zs.getD 0 0 = z0 at *
      have hl0 : (0 : Int) < (len : Int) := by omega
      clear hs hh hc hb
      go_enter Try.func53, Try.ntmps53
      go_wp2_with fail
      refine (implSeries_any _ _ _ _ _ HG.out hm).mono ?_
      rw [HS.out]
      rintro e w' ⟨m, rfl, rfl⟩
      go_wp2_with fail
      refine (imSh_any _ _).mono ?_
      rw [HH.out]
      rintro e w' ⟨rfl, rfl⟩
      go_wp2_with fail
      have HI := Lib.hid (LvI.start (m := m) (cap := cap) (t := 22) (t' := 28) (t'' := 28) H.out HZ.out)
      refine (places_any 76 #[.pointer (some ⟨w.heap.size + 1 + 1, 0, none⟩), .pointer (some ⟨w.heap.size, 0, none⟩), .pointer (some ⟨w.heap.size + 1, 0, none⟩)] (lvT zs s) (LvI (w.heap.size + 1 + 1) w.heap.size (w.heap.size + 1) (some ⟨b, off, none⟩) len cap zs s) w.heap.size len _ (enter_of Try.func76 (by kernel_rfl) rfl) hm (by simp; omega) HI.out (fun k wr wr' h hb => h.keep (by omega) (by omega) (by simp) hb) (fun k wr hk hsz hI => lv1_any _ _ _ _ _ _ _ _ _ _ _ _ hI hk HL.out hm (by omega) (by omega) (by simp) (by omega))).mono ?_
      rintro e w1 ⟨v, rs, rfl, ho, hx, hb⟩
      have HO := Lib.hid (ho.mono (show w.heap.size ≤ _ by simp; omega))
      have HX := Lib.hid (show cnl rs = lstR (lvL zs s) by unfold lvL; rw [hx, HL.out])
      have HBl := Lib.hid (((below_drewN G.out m).alloc (by simp; omega) _).trans hb)
      have HF := Lib.hid (show fins (tells (lvT zs s) len) = lvB zs s by rw [HB.out.1]; unfold lvL; rw [HL.out])
      rw [HF.out]
      clear ho hx hb
      go_wp2
      go_ret2
      exact ⟨v, rs, rfl, HO.out, HX.out.trans HB.out.2.symm, HBl.out⟩
end Go.Proofs.Ytallegmkkbmelab
