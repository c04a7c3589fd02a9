import Derived.Test.YthohhiaeaefdcaaSlt
import Derived.Deep.RegionHeld3
import Derived.Deep.DeepCutAuto
namespace Go.Proofs.Ythohhiaeaefdcaa.fnExactSameLevel
open Go.RowKit Ieee
set_option linter.unusedVariables false
set_option maxHeartbeats 2000000 in
set_option maxRecDepth 100000 in
theorem walk (x0_0 x0_1 x0_2 x0_3 : Nat) (x1_0 x1_1 x1_2 x1_3 : Nat) (w : World) :
    Calls Try.prog 4 #[.agg #[.float .f32 x0_0, .float .f32 x0_1, .float .f32 x0_2, .float .f32 x0_3], .agg #[.float .f32 x1_0, .float .f32 x1_1, .float .f32 x1_2, .float .f32 x1_3]] w fun e w' => e = .returned (.bool true) ∧ Below w.heap.size w w' := by
  have G := Lib.hid (((Below.refl w.heap.size w).alloc (Nat.le_refl _) (.cells #[.float .f32 x0_0, .float .f32 x0_1, .float .f32 x0_2, .float .f32 x0_3] 24)).alloc (by simp) (.cells #[.float .f32 x1_0, .float .f32 x1_1, .float .f32 x1_2, .float .f32 x1_3] 24))
  have HA := Lib.hid (show NumsIn ((w.alloc (.cells #[.float .f32 x0_0, .float .f32 x0_1, .float .f32 x0_2, .float .f32 x0_3] 24)).alloc (.cells #[.float .f32 x1_0, .float .f32 x1_1, .float .f32 x1_2, .float .f32 x1_3] 24)) w.heap.size [x0_0, x0_1, x0_2, x0_3] from (NumsIn.new w [x0_0, x0_1, x0_2, x0_3] 24).alloc (.cells #[.float .f32 x1_0, .float .f32 x1_1, .float .f32 x1_2, .float .f32 x1_3] 24))
  have HB := Lib.hid (show NumsIn ((w.alloc (.cells #[.float .f32 x0_0, .float .f32 x0_1, .float .f32 x0_2, .float .f32 x0_3] 24)).alloc (.cells #[.float .f32 x1_0, .float .f32 x1_1, .float .f32 x1_2, .float .f32 x1_3] 24)) (w.heap.size + 1) [x1_0, x1_1, x1_2, x1_3] from NumsIn.newAt (w.alloc (.cells #[.float .f32 x0_0, .float .f32 x0_1, .float .f32 x0_2, .float .f32 x0_3] 24)) [x1_0, x1_1, x1_2, x1_3] 24 (p := w.heap.size + 1) (by simp))
  go_enter Try.func4, Try.ntmps4
  go_upto_region 1 with fail
  go_region_held3 (fun w' => w'.cell? ⟨w.heap.size, 0, none⟩ = some (.float .f32 x0_0) ∧ w'.cell? ⟨w.heap.size, 1, none⟩ = some (.float .f32 x0_1) ∧ w'.cell? ⟨w.heap.size, 2, none⟩ = some (.float .f32 x0_2) ∧ w'.cell? ⟨w.heap.size, 3, none⟩ = some (.float .f32 x0_3) ∧ w'.cell? ⟨w.heap.size + 1, 0, none⟩ = some (.float .f32 x1_0) ∧ w'.cell? ⟨w.heap.size + 1, 1, none⟩ = some (.float .f32 x1_1) ∧ w'.cell? ⟨w.heap.size + 1, 2, none⟩ = some (.float .f32 x1_2) ∧ w'.cell? ⟨w.heap.size + 1, 3, none⟩ = some (.float .f32 x1_3)) (first | exact ⟨((((HA.out.drew.below hb1).below hb2).below hb3)).c4.1, ((((HA.out.drew.below hb1).below hb2).below hb3)).c4.2.1, ((((HA.out.drew.below hb1).below hb2).below hb3)).c4.2.2.1, ((((HA.out.drew.below hb1).below hb2).below hb3)).c4.2.2.2, ((((HB.out.drew.below hb1).below hb2).below hb3)).c4.1, ((((HB.out.drew.below hb1).below hb2).below hb3)).c4.2.1, ((((HB.out.drew.below hb1).below hb2).below hb3)).c4.2.2.1, ((((HB.out.drew.below hb1).below hb2).below hb3)).c4.2.2.2⟩ | exact ⟨(((HA.out.drew.below hb1).below hb2)).c4.1, (((HA.out.drew.below hb1).below hb2)).c4.2.1, (((HA.out.drew.below hb1).below hb2)).c4.2.2.1, (((HA.out.drew.below hb1).below hb2)).c4.2.2.2, (((HB.out.drew.below hb1).below hb2)).c4.1, (((HB.out.drew.below hb1).below hb2)).c4.2.1, (((HB.out.drew.below hb1).below hb2)).c4.2.2.1, (((HB.out.drew.below hb1).below hb2)).c4.2.2.2⟩ | exact ⟨((HA.out.drew.below hb1)).c4.1, ((HA.out.drew.below hb1)).c4.2.1, ((HA.out.drew.below hb1)).c4.2.2.1, ((HA.out.drew.below hb1)).c4.2.2.2, ((HB.out.drew.below hb1)).c4.1, ((HB.out.drew.below hb1)).c4.2.1, ((HB.out.drew.below hb1)).c4.2.2.1, ((HB.out.drew.below hb1)).c4.2.2.2⟩ | exact ⟨(HA.out.drew).c4.1, (HA.out.drew).c4.2.1, (HA.out.drew).c4.2.2.1, (HA.out.drew).c4.2.2.2, (HB.out.drew).c4.1, (HB.out.drew).c4.2.1, (HB.out.drew).c4.2.2.1, (HB.out.drew).c4.2.2.2⟩ | go_keep)
    ((first
      | (go_at_call 16; with_reducible refine (tolv_any x0_0 x0_1 x0_2 x0_3 _).mono ?_; rintro e u1 ⟨rfl, hb1⟩)
      | (go_at_call 16; with_reducible refine (tolv_any x1_0 x1_1 x1_2 x1_3 _).mono ?_; rintro e u2 ⟨rfl, hb2⟩)
      | (go_at_call 18; refine (spSmlv_any x0_0 x0_1 x0_2 x0_3 x1_0 x1_1 x1_2 x1_3 _).mono ?_; rintro e u3 ⟨rfl, hb3⟩)
      ))
  replace HA := Lib.hid (((HA.out.drew.below hb1).below hb2).below hb3)
  replace HB := Lib.hid (((HB.out.drew.below hb1).below hb2).below hb3)
  replace G := Lib.hid (((G.out.drew.trans (hb1.mono G.out.drew.size)).trans (hb2.mono (G.out.drew.trans (hb1.mono G.out.drew.size)).size)).trans (hb3.mono ((G.out.drew.trans (hb1.mono G.out.drew.size)).trans (hb2.mono (G.out.drew.trans (hb1.mono G.out.drew.size)).size)).size))
  clear hb1 hb2 hb3
  go_upto_region 2 with fail
  go_region_held3 (fun w' => w'.cell? ⟨w.heap.size, 0, none⟩ = some (.float .f32 x0_0) ∧ w'.cell? ⟨w.heap.size, 1, none⟩ = some (.float .f32 x0_1) ∧ w'.cell? ⟨w.heap.size, 2, none⟩ = some (.float .f32 x0_2) ∧ w'.cell? ⟨w.heap.size, 3, none⟩ = some (.float .f32 x0_3) ∧ w'.cell? ⟨w.heap.size + 1, 0, none⟩ = some (.float .f32 x1_0) ∧ w'.cell? ⟨w.heap.size + 1, 1, none⟩ = some (.float .f32 x1_1) ∧ w'.cell? ⟨w.heap.size + 1, 2, none⟩ = some (.float .f32 x1_2) ∧ w'.cell? ⟨w.heap.size + 1, 3, none⟩ = some (.float .f32 x1_3)) (first | exact ⟨((((HA.out.drew.below hb4).below hb5).below hb6)).c4.1, ((((HA.out.drew.below hb4).below hb5).below hb6)).c4.2.1, ((((HA.out.drew.below hb4).below hb5).below hb6)).c4.2.2.1, ((((HA.out.drew.below hb4).below hb5).below hb6)).c4.2.2.2, ((((HB.out.drew.below hb4).below hb5).below hb6)).c4.1, ((((HB.out.drew.below hb4).below hb5).below hb6)).c4.2.1, ((((HB.out.drew.below hb4).below hb5).below hb6)).c4.2.2.1, ((((HB.out.drew.below hb4).below hb5).below hb6)).c4.2.2.2⟩ | exact ⟨(((HA.out.drew.below hb4).below hb5)).c4.1, (((HA.out.drew.below hb4).below hb5)).c4.2.1, (((HA.out.drew.below hb4).below hb5)).c4.2.2.1, (((HA.out.drew.below hb4).below hb5)).c4.2.2.2, (((HB.out.drew.below hb4).below hb5)).c4.1, (((HB.out.drew.below hb4).below hb5)).c4.2.1, (((HB.out.drew.below hb4).below hb5)).c4.2.2.1, (((HB.out.drew.below hb4).below hb5)).c4.2.2.2⟩ | exact ⟨((HA.out.drew.below hb4)).c4.1, ((HA.out.drew.below hb4)).c4.2.1, ((HA.out.drew.below hb4)).c4.2.2.1, ((HA.out.drew.below hb4)).c4.2.2.2, ((HB.out.drew.below hb4)).c4.1, ((HB.out.drew.below hb4)).c4.2.1, ((HB.out.drew.below hb4)).c4.2.2.1, ((HB.out.drew.below hb4)).c4.2.2.2⟩ | exact ⟨(HA.out.drew).c4.1, (HA.out.drew).c4.2.1, (HA.out.drew).c4.2.2.1, (HA.out.drew).c4.2.2.2, (HB.out.drew).c4.1, (HB.out.drew).c4.2.1, (HB.out.drew).c4.2.2.1, (HB.out.drew).c4.2.2.2⟩ | go_keep)
    ((first
      | (go_at_call 16; with_reducible refine (tolv_any x0_0 x0_1 x0_2 x0_3 _).mono ?_; rintro e u4 ⟨rfl, hb4⟩)
      | (go_at_call 16; with_reducible refine (tolv_any x1_0 x1_1 x1_2 x1_3 _).mono ?_; rintro e u5 ⟨rfl, hb5⟩)
      | (go_at_call 19; refine (imSmlv_any x0_0 x0_1 x0_2 x0_3 x1_0 x1_1 x1_2 x1_3 _).mono ?_; rintro e u6 ⟨rfl, hb6⟩)
      ))
  replace HA := Lib.hid (((HA.out.drew.below hb4).below hb5).below hb6)
  replace HB := Lib.hid (((HB.out.drew.below hb4).below hb5).below hb6)
  replace G := Lib.hid (((G.out.drew.trans (hb4.mono G.out.drew.size)).trans (hb5.mono (G.out.drew.trans (hb4.mono G.out.drew.size)).size)).trans (hb6.mono ((G.out.drew.trans (hb4.mono G.out.drew.size)).trans (hb5.mono (G.out.drew.trans (hb4.mono G.out.drew.size)).size)).size))
  clear hb4 hb5 hb6
  go_wp2
  go_ret
  exact ⟨rfl, G.out⟩
end Go.Proofs.Ythohhiaeaefdcaa.fnExactSameLevel
