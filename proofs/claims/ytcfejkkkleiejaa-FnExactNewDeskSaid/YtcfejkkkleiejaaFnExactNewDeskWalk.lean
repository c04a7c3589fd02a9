/-
  The law of NewDesk.
-/
import Derived.Test.YtcfejkkkleiejaaNdk
namespace Go.Proofs.Ytcfejkkkleiejaa.fnExactNewDesk
open Go.RowKit Ieee
set_option linter.unusedVariables false
set_option maxHeartbeats 8000000 in
set_option maxRecDepth 100000 in
theorem walk (w : World) :
    Calls Try.prog 3 #[] w fun e w' => e = .returned (.bool true) ∧ Below w.heap.size w w' := by
  have G := Lib.hid (Below.refl w.heap.size w)
  go_enter Try.func3, Try.ntmps3
  go_wp2_with fail
  refine (spNd_any _).mono ?_
  rintro e u1 ⟨A5, b5, D5, d5, cp5, rfl, hx, hy, hn5, hb5, hd5, b⟩
  have hlb5 := hx.lt_ (by omega)
  have hld5 := hy.lt_ (by omega)
  have y5 := b.size
  replace G := Lib.hid (G.out.trans (b.mono G.out.size))
  have ba := (Below.refl u1.heap.size u1).alloc (Nat.le_refl _) (.cells #[.slice A5 4 4, .float .f32 1065353216, .float .f32 1073741824, .slice D5 1 cp5, .int .i64 0, .float .f32 1056964608, .float .f32 1056964608, .float .f32 0, .float .f32 1065353216, .int .i64 0] 29)
  obtain ⟨p5, hp5⟩ : ∃ q, u1.heap.size = q := ⟨_, rfl⟩
  have CC := CIs.newAt u1 [.slice A5 4 4, .float .f32 1065353216, .float .f32 1073741824, .slice D5 1 cp5, .int .i64 0, .float .f32 1056964608, .float .f32 1056964608, .float .f32 0, .float .f32 1065353216, .int .i64 0] 29 (p := p5) hp5.symm
  have hz5 : (u1.alloc (.cells #[.slice A5 4 4, .float .f32 1065353216, .float .f32 1073741824, .slice D5 1 cp5, .int .i64 0, .float .f32 1056964608, .float .f32 1056964608, .float .f32 0, .float .f32 1065353216, .int .i64 0] 29)).heap.size = p5 + 1 := by rw [World.size_alloc, hp5]
  replace G := Lib.hid (G.out.trans (ba.mono G.out.size))
  have C5 := Lib.hid CC
  have X5 := Lib.hid (hx.below ba)
  have Y5 := Lib.hid (hy.below ba)
  clear CC hx hy b ba
  go_wp2_with fail
  try generalize hW5 : u1.alloc (.cells #[.slice A5 4 4, .float .f32 1065353216, .float .f32 1073741824, .slice D5 1 cp5, .int .i64 0, .float .f32 1056964608, .float .f32 1056964608, .float .f32 0, .float .f32 1065353216, .int .i64 0] 29) = W5 at *
  refine (imNd_any _).mono ?_
  rintro e u2 ⟨A8, b8, D8, d8, cp8, rfl, hx, hy, hn8, hb8, hd8, b⟩
  have hlb8 := hx.lt_ (by omega)
  have hld8 := hy.lt_ (by omega)
  have y8 := b.size
  replace C5 := Lib.hid (C5.out.below b)
  replace X5 := Lib.hid (X5.out.below b)
  replace Y5 := Lib.hid (Y5.out.below b)
  replace G := Lib.hid (G.out.trans (b.mono G.out.size))
  have ba := (Below.refl u2.heap.size u2).alloc (Nat.le_refl _) (.cells #[.slice A8 4 4, .float .f32 1065353216, .float .f32 1073741824, .slice D8 1 cp8, .int .i64 0, .float .f32 1056964608, .float .f32 1056964608, .float .f32 0, .float .f32 1065353216, .int .i64 0] 29)
  obtain ⟨p8, hp8⟩ : ∃ q, u2.heap.size = q := ⟨_, rfl⟩
  have CC := CIs.newAt u2 [.slice A8 4 4, .float .f32 1065353216, .float .f32 1073741824, .slice D8 1 cp8, .int .i64 0, .float .f32 1056964608, .float .f32 1056964608, .float .f32 0, .float .f32 1065353216, .int .i64 0] 29 (p := p8) hp8.symm
  have hz8 : (u2.alloc (.cells #[.slice A8 4 4, .float .f32 1065353216, .float .f32 1073741824, .slice D8 1 cp8, .int .i64 0, .float .f32 1056964608, .float .f32 1056964608, .float .f32 0, .float .f32 1065353216, .int .i64 0] 29)).heap.size = p8 + 1 := by rw [World.size_alloc, hp8]
  replace C5 := Lib.hid (C5.out.below ba)
  replace X5 := Lib.hid (X5.out.below ba)
  replace Y5 := Lib.hid (Y5.out.below ba)
  replace G := Lib.hid (G.out.trans (ba.mono G.out.size))
  have C8 := Lib.hid CC
  have X8 := Lib.hid (hx.below ba)
  have Y8 := Lib.hid (hy.below ba)
  clear CC hx hy b ba
  obtain ⟨k0, k1, k2, k3, k4, k5, k6, k7, k8, k9⟩ := C8.out.c10
  obtain ⟨j0, j1, j2, j3, j4, j5, j6, j7, j8, j9⟩ := C5.out.c10
  go_wp2_with fail
  try generalize hW8 : u2.alloc (.cells #[.slice A8 4 4, .float .f32 1065353216, .float .f32 1073741824, .slice D8 1 cp8, .int .i64 0, .float .f32 1056964608, .float .f32 1056964608, .float .f32 0, .float .f32 1065353216, .int .i64 0] 29) = W8 at *
  refine (eqDk_any _ _ _ _ _ [1065353216, 1077936128, 1084227584, 1088421888] _ _ _ _ _ _ _ [0] _ _ _ _ _ _ _ X8.out.sl X5.out.sl Y8.out.sl Y5.out.sl (by omega) (by omega)).mono ?_
  rintro e u3 ⟨rfl, b⟩
  clear k0 k1 k2 k3 k4 k5 k6 k7 k8 k9
  clear j0 j1 j2 j3 j4 j5 j6 j7 j8 j9
  replace C5 := Lib.hid (C5.out.below b)
  replace X5 := Lib.hid (X5.out.below b)
  replace Y5 := Lib.hid (Y5.out.below b)
  replace C8 := Lib.hid (C8.out.below b)
  replace X8 := Lib.hid (X8.out.below b)
  replace Y8 := Lib.hid (Y8.out.below b)
  replace G := Lib.hid (G.out.trans (b.mono G.out.size))
  clear b
  obtain ⟨k0, k1, k2, k3, k4, k5, k6, k7, k8, k9⟩ := C8.out.c10
  go_wp2_with fail
  refine (markDk_any _ _ _ _ _ 1 _ X8.out Y8.out hn8 (by omega)).mono ?_
  rintro e u4 ⟨rfl, mx, mc, mb, mk, mk2⟩
  clear k0 k1 k2 k3 k4 k5 k6 k7 k8 k9
  replace G := Lib.hid (mb _ G.out (by omega) (by omega))
  replace C5 := Lib.hid (mc _ _ C5.out (by omega) (by omega))
  replace C8 := Lib.hid (mc _ _ C8.out (by omega) (by omega))
  replace X5 := Lib.hid (mx _ _ _ _ X5.out (by omega) (by omega))
  replace Y5 := Lib.hid (mx _ _ _ _ Y5.out (by omega) (by omega))
  have M8 := Lib.hid mk
  have N8 := Lib.hid mk2
  clear mk mk2 mx mc mb X8 Y8
  obtain ⟨k0, k1, k2, k3, k4, k5, k6, k7, k8, k9⟩ := C8.out.c10
  go_wp2_with fail
  refine (heldDk_any _ _ _ _ _ 1 _ M8.out N8.out (by omega)).mono ?_
  rintro e u5 ⟨rfl, b⟩
  clear k0 k1 k2 k3 k4 k5 k6 k7 k8 k9
  replace C5 := Lib.hid (C5.out.below b)
  replace X5 := Lib.hid (X5.out.below b)
  replace Y5 := Lib.hid (Y5.out.below b)
  replace C8 := Lib.hid (C8.out.below b)
  replace M8 := Lib.hid (M8.out.below b)
  replace N8 := Lib.hid (N8.out.below b)
  replace G := Lib.hid (G.out.trans (b.mono G.out.size))
  clear b
  go_wp2_with fail
  try generalize hW8 : u2.alloc (.cells #[.slice A8 4 4, .float .f32 1065353216, .float .f32 1073741824, .slice D8 1 cp8, .int .i64 0, .float .f32 1056964608, .float .f32 1056964608, .float .f32 0, .float .f32 1065353216, .int .i64 0] 29) = W8 at *
  refine (imNd_any _).mono ?_
  rintro e u6 ⟨A13, b13, D13, d13, cp13, rfl, hx, hy, hn13, hb13, hd13, b⟩
  have hlb13 := hx.lt_ (by omega)
  have hld13 := hy.lt_ (by omega)
  have y13 := b.size
  replace C5 := Lib.hid (C5.out.below b)
  replace X5 := Lib.hid (X5.out.below b)
  replace Y5 := Lib.hid (Y5.out.below b)
  replace C8 := Lib.hid (C8.out.below b)
  replace M8 := Lib.hid (M8.out.below b)
  replace N8 := Lib.hid (N8.out.below b)
  replace G := Lib.hid (G.out.trans (b.mono G.out.size))
  have ba := (Below.refl u6.heap.size u6).alloc (Nat.le_refl _) (.cells #[.slice A13 4 4, .float .f32 1065353216, .float .f32 1073741824, .slice D13 1 cp13, .int .i64 0, .float .f32 1056964608, .float .f32 1056964608, .float .f32 0, .float .f32 1065353216, .int .i64 0] 29)
  obtain ⟨p13, hp13⟩ : ∃ q, u6.heap.size = q := ⟨_, rfl⟩
  have CC := CIs.newAt u6 [.slice A13 4 4, .float .f32 1065353216, .float .f32 1073741824, .slice D13 1 cp13, .int .i64 0, .float .f32 1056964608, .float .f32 1056964608, .float .f32 0, .float .f32 1065353216, .int .i64 0] 29 (p := p13) hp13.symm
  have hz13 : (u6.alloc (.cells #[.slice A13 4 4, .float .f32 1065353216, .float .f32 1073741824, .slice D13 1 cp13, .int .i64 0, .float .f32 1056964608, .float .f32 1056964608, .float .f32 0, .float .f32 1065353216, .int .i64 0] 29)).heap.size = p13 + 1 := by rw [World.size_alloc, hp13]
  replace C5 := Lib.hid (C5.out.below ba)
  replace X5 := Lib.hid (X5.out.below ba)
  replace Y5 := Lib.hid (Y5.out.below ba)
  replace C8 := Lib.hid (C8.out.below ba)
  replace M8 := Lib.hid (M8.out.below ba)
  replace N8 := Lib.hid (N8.out.below ba)
  replace G := Lib.hid (G.out.trans (ba.mono G.out.size))
  have C13 := Lib.hid CC
  have X13 := Lib.hid (hx.below ba)
  have Y13 := Lib.hid (hy.below ba)
  clear CC hx hy b ba
  obtain ⟨k0, k1, k2, k3, k4, k5, k6, k7, k8, k9⟩ := C13.out.c10
  obtain ⟨j0, j1, j2, j3, j4, j5, j6, j7, j8, j9⟩ := C5.out.c10
  go_wp2_with fail
  try generalize hW13 : u6.alloc (.cells #[.slice A13 4 4, .float .f32 1065353216, .float .f32 1073741824, .slice D13 1 cp13, .int .i64 0, .float .f32 1056964608, .float .f32 1056964608, .float .f32 0, .float .f32 1065353216, .int .i64 0] 29) = W13 at *
  refine (eqDk_any _ _ _ _ _ [1065353216, 1077936128, 1084227584, 1088421888] _ _ _ _ _ _ _ [0] _ _ _ _ _ _ _ X13.out.sl X5.out.sl Y13.out.sl Y5.out.sl (by omega) (by omega)).mono ?_
  rintro e u7 ⟨rfl, b⟩
  clear k0 k1 k2 k3 k4 k5 k6 k7 k8 k9
  clear j0 j1 j2 j3 j4 j5 j6 j7 j8 j9
  replace C5 := Lib.hid (C5.out.below b)
  replace X5 := Lib.hid (X5.out.below b)
  replace Y5 := Lib.hid (Y5.out.below b)
  replace C8 := Lib.hid (C8.out.below b)
  replace M8 := Lib.hid (M8.out.below b)
  replace N8 := Lib.hid (N8.out.below b)
  replace C13 := Lib.hid (C13.out.below b)
  replace X13 := Lib.hid (X13.out.below b)
  replace Y13 := Lib.hid (Y13.out.below b)
  replace G := Lib.hid (G.out.trans (b.mono G.out.size))
  clear b
  obtain ⟨k0, k1, k2, k3, k4, k5, k6, k7, k8, k9⟩ := C8.out.c10
  go_wp2_with fail
  refine (heldDk_any _ _ _ _ _ 1 _ M8.out N8.out (by omega)).mono ?_
  rintro e u8 ⟨rfl, b⟩
  clear k0 k1 k2 k3 k4 k5 k6 k7 k8 k9
  replace C5 := Lib.hid (C5.out.below b)
  replace X5 := Lib.hid (X5.out.below b)
  replace Y5 := Lib.hid (Y5.out.below b)
  replace C8 := Lib.hid (C8.out.below b)
  replace M8 := Lib.hid (M8.out.below b)
  replace N8 := Lib.hid (N8.out.below b)
  replace C13 := Lib.hid (C13.out.below b)
  replace X13 := Lib.hid (X13.out.below b)
  replace Y13 := Lib.hid (Y13.out.below b)
  replace G := Lib.hid (G.out.trans (b.mono G.out.size))
  clear b
  go_wp2
  go_ret
  exact ⟨rfl, G.out⟩
end Go.Proofs.Ytcfejkkkleiejaa.fnExactNewDesk
