/-
  The same level, the same trend: by bits in the program, number by number in the model.
-/
import Derived.Test.YthohhiaeaefdcaaLvl
import Derived.Test.YthohhiaeaefdcaaBit
import Derived.Test.YthohhiaeaefdcaaDrg
import Derived.Deep.RegionHeld3
import Derived.Deep.DeepCutAuto
namespace Go.Proofs.Ythohhiaeaefdcaa
open Ieee Go.RowKit
set_option linter.unusedVariables false
theorem setCell_drewN (w : World) (p : Addr) (v : Value) (n : Nat) : (w.drewN n).setCell p v = (w.setCell p v).drewN n := rfl
/-- What BitsOf gives. -/
def bitC (args : Array Value) (v : Value) : Prop := ∃ x, args.getD 0 undef = .float .f32 x ∧ v = .int .i64 (bV x)
set_option maxHeartbeats 8000000 in
set_option maxRecDepth 100000 in
theorem tnBits_any (a b c d s t u v : Nat) (w : World) : Calls Try.prog 60 #[.agg #[.float .f32 a, .float .f32 b, .float .f32 c, .float .f32 d, .float .f32 s, .float .f32 t, .float .f32 u, .float .f32 v]] w fun e w' => e = .returned (.agg #[.int .i64 (bV a), .int .i64 (bV b), .int .i64 (bV c), .int .i64 (bV d), .int .i64 (bV s), .int .i64 (bV t), .int .i64 (bV u), .int .i64 (bV v)]) ∧ Below w.heap.size w w' := by
  have HRES := Lib.hid (show Try.f60.results = #[.cell 2 84] by kernel_rfl)
  have G := Lib.hid (((Below.refl w.heap.size w).alloc (Nat.le_refl _) (.cells #[.float .f32 a, .float .f32 b, .float .f32 c, .float .f32 d, .float .f32 s, .float .f32 t, .float .f32 u, .float .f32 v] 39)).alloc (by simp) (.cells #[.int .i64 0, .int .i64 0, .int .i64 0, .int .i64 0, .int .i64 0, .int .i64 0, .int .i64 0, .int .i64 0] 84))
  have HP := Lib.hid (show NumsIn ((w.alloc (.cells #[.float .f32 a, .float .f32 b, .float .f32 c, .float .f32 d, .float .f32 s, .float .f32 t, .float .f32 u, .float .f32 v] 39)).alloc (.cells #[.int .i64 0, .int .i64 0, .int .i64 0, .int .i64 0, .int .i64 0, .int .i64 0, .int .i64 0, .int .i64 0] 84)) w.heap.size [a, b, c, d, s, t, u, v] from (NumsIn.new w [a, b, c, d, s, t, u, v] 39).alloc (.cells #[.int .i64 0, .int .i64 0, .int .i64 0, .int .i64 0, .int .i64 0, .int .i64 0, .int .i64 0, .int .i64 0] 84))
  have r0 : ((w.alloc (.cells #[.float .f32 a, .float .f32 b, .float .f32 c, .float .f32 d, .float .f32 s, .float .f32 t, .float .f32 u, .float .f32 v] 39)).alloc (.cells #[.int .i64 0, .int .i64 0, .int .i64 0, .int .i64 0, .int .i64 0, .int .i64 0, .int .i64 0, .int .i64 0] 84)).cell? ⟨w.heap.size + 1, 0, none⟩ = some (.int .i64 0) := by rw [World.cell?_alloc_at _ _ _ _ (by simp)]; rfl
  have f0 : ((w.alloc (.cells #[.float .f32 a, .float .f32 b, .float .f32 c, .float .f32 d, .float .f32 s, .float .f32 t, .float .f32 u, .float .f32 v] 39)).alloc (.cells #[.int .i64 0, .int .i64 0, .int .i64 0, .int .i64 0, .int .i64 0, .int .i64 0, .int .i64 0, .int .i64 0] 84)).frozen? ⟨w.heap.size + 1, 0, none⟩ = false := World.frozen?_alloc_at _ _ _ _ (by simp)
  have r1 : ((w.alloc (.cells #[.float .f32 a, .float .f32 b, .float .f32 c, .float .f32 d, .float .f32 s, .float .f32 t, .float .f32 u, .float .f32 v] 39)).alloc (.cells #[.int .i64 0, .int .i64 0, .int .i64 0, .int .i64 0, .int .i64 0, .int .i64 0, .int .i64 0, .int .i64 0] 84)).cell? ⟨w.heap.size + 1, 1, none⟩ = some (.int .i64 0) := by rw [World.cell?_alloc_at _ _ _ _ (by simp)]; rfl
  have f1 : ((w.alloc (.cells #[.float .f32 a, .float .f32 b, .float .f32 c, .float .f32 d, .float .f32 s, .float .f32 t, .float .f32 u, .float .f32 v] 39)).alloc (.cells #[.int .i64 0, .int .i64 0, .int .i64 0, .int .i64 0, .int .i64 0, .int .i64 0, .int .i64 0, .int .i64 0] 84)).frozen? ⟨w.heap.size + 1, 1, none⟩ = false := World.frozen?_alloc_at _ _ _ _ (by simp)
  have r2 : ((w.alloc (.cells #[.float .f32 a, .float .f32 b, .float .f32 c, .float .f32 d, .float .f32 s, .float .f32 t, .float .f32 u, .float .f32 v] 39)).alloc (.cells #[.int .i64 0, .int .i64 0, .int .i64 0, .int .i64 0, .int .i64 0, .int .i64 0, .int .i64 0, .int .i64 0] 84)).cell? ⟨w.heap.size + 1, 2, none⟩ = some (.int .i64 0) := by rw [World.cell?_alloc_at _ _ _ _ (by simp)]; rfl
  have f2 : ((w.alloc (.cells #[.float .f32 a, .float .f32 b, .float .f32 c, .float .f32 d, .float .f32 s, .float .f32 t, .float .f32 u, .float .f32 v] 39)).alloc (.cells #[.int .i64 0, .int .i64 0, .int .i64 0, .int .i64 0, .int .i64 0, .int .i64 0, .int .i64 0, .int .i64 0] 84)).frozen? ⟨w.heap.size + 1, 2, none⟩ = false := World.frozen?_alloc_at _ _ _ _ (by simp)
  have r3 : ((w.alloc (.cells #[.float .f32 a, .float .f32 b, .float .f32 c, .float .f32 d, .float .f32 s, .float .f32 t, .float .f32 u, .float .f32 v] 39)).alloc (.cells #[.int .i64 0, .int .i64 0, .int .i64 0, .int .i64 0, .int .i64 0, .int .i64 0, .int .i64 0, .int .i64 0] 84)).cell? ⟨w.heap.size + 1, 3, none⟩ = some (.int .i64 0) := by rw [World.cell?_alloc_at _ _ _ _ (by simp)]; rfl
  have f3 : ((w.alloc (.cells #[.float .f32 a, .float .f32 b, .float .f32 c, .float .f32 d, .float .f32 s, .float .f32 t, .float .f32 u, .float .f32 v] 39)).alloc (.cells #[.int .i64 0, .int .i64 0, .int .i64 0, .int .i64 0, .int .i64 0, .int .i64 0, .int .i64 0, .int .i64 0] 84)).frozen? ⟨w.heap.size + 1, 3, none⟩ = false := World.frozen?_alloc_at _ _ _ _ (by simp)
  have r4 : ((w.alloc (.cells #[.float .f32 a, .float .f32 b, .float .f32 c, .float .f32 d, .float .f32 s, .float .f32 t, .float .f32 u, .float .f32 v] 39)).alloc (.cells #[.int .i64 0, .int .i64 0, .int .i64 0, .int .i64 0, .int .i64 0, .int .i64 0, .int .i64 0, .int .i64 0] 84)).cell? ⟨w.heap.size + 1, 4, none⟩ = some (.int .i64 0) := by rw [World.cell?_alloc_at _ _ _ _ (by simp)]; rfl
  have f4 : ((w.alloc (.cells #[.float .f32 a, .float .f32 b, .float .f32 c, .float .f32 d, .float .f32 s, .float .f32 t, .float .f32 u, .float .f32 v] 39)).alloc (.cells #[.int .i64 0, .int .i64 0, .int .i64 0, .int .i64 0, .int .i64 0, .int .i64 0, .int .i64 0, .int .i64 0] 84)).frozen? ⟨w.heap.size + 1, 4, none⟩ = false := World.frozen?_alloc_at _ _ _ _ (by simp)
  have r5 : ((w.alloc (.cells #[.float .f32 a, .float .f32 b, .float .f32 c, .float .f32 d, .float .f32 s, .float .f32 t, .float .f32 u, .float .f32 v] 39)).alloc (.cells #[.int .i64 0, .int .i64 0, .int .i64 0, .int .i64 0, .int .i64 0, .int .i64 0, .int .i64 0, .int .i64 0] 84)).cell? ⟨w.heap.size + 1, 5, none⟩ = some (.int .i64 0) := by rw [World.cell?_alloc_at _ _ _ _ (by simp)]; rfl
  have f5 : ((w.alloc (.cells #[.float .f32 a, .float .f32 b, .float .f32 c, .float .f32 d, .float .f32 s, .float .f32 t, .float .f32 u, .float .f32 v] 39)).alloc (.cells #[.int .i64 0, .int .i64 0, .int .i64 0, .int .i64 0, .int .i64 0, .int .i64 0, .int .i64 0, .int .i64 0] 84)).frozen? ⟨w.heap.size + 1, 5, none⟩ = false := World.frozen?_alloc_at _ _ _ _ (by simp)
  have r6 : ((w.alloc (.cells #[.float .f32 a, .float .f32 b, .float .f32 c, .float .f32 d, .float .f32 s, .float .f32 t, .float .f32 u, .float .f32 v] 39)).alloc (.cells #[.int .i64 0, .int .i64 0, .int .i64 0, .int .i64 0, .int .i64 0, .int .i64 0, .int .i64 0, .int .i64 0] 84)).cell? ⟨w.heap.size + 1, 6, none⟩ = some (.int .i64 0) := by rw [World.cell?_alloc_at _ _ _ _ (by simp)]; rfl
  have f6 : ((w.alloc (.cells #[.float .f32 a, .float .f32 b, .float .f32 c, .float .f32 d, .float .f32 s, .float .f32 t, .float .f32 u, .float .f32 v] 39)).alloc (.cells #[.int .i64 0, .int .i64 0, .int .i64 0, .int .i64 0, .int .i64 0, .int .i64 0, .int .i64 0, .int .i64 0] 84)).frozen? ⟨w.heap.size + 1, 6, none⟩ = false := World.frozen?_alloc_at _ _ _ _ (by simp)
  have r7 : ((w.alloc (.cells #[.float .f32 a, .float .f32 b, .float .f32 c, .float .f32 d, .float .f32 s, .float .f32 t, .float .f32 u, .float .f32 v] 39)).alloc (.cells #[.int .i64 0, .int .i64 0, .int .i64 0, .int .i64 0, .int .i64 0, .int .i64 0, .int .i64 0, .int .i64 0] 84)).cell? ⟨w.heap.size + 1, 7, none⟩ = some (.int .i64 0) := by rw [World.cell?_alloc_at _ _ _ _ (by simp)]; rfl
  have f7 : ((w.alloc (.cells #[.float .f32 a, .float .f32 b, .float .f32 c, .float .f32 d, .float .f32 s, .float .f32 t, .float .f32 u, .float .f32 v] 39)).alloc (.cells #[.int .i64 0, .int .i64 0, .int .i64 0, .int .i64 0, .int .i64 0, .int .i64 0, .int .i64 0, .int .i64 0] 84)).frozen? ⟨w.heap.size + 1, 7, none⟩ = false := World.frozen?_alloc_at _ _ _ _ (by simp)
  obtain ⟨Ya, hYa⟩ : ∃ y, bV a = y := ⟨_, rfl⟩
  obtain ⟨Yb, hYb⟩ : ∃ y, bV b = y := ⟨_, rfl⟩
  obtain ⟨Yc, hYc⟩ : ∃ y, bV c = y := ⟨_, rfl⟩
  obtain ⟨Yd, hYd⟩ : ∃ y, bV d = y := ⟨_, rfl⟩
  obtain ⟨Ys, hYs⟩ : ∃ y, bV s = y := ⟨_, rfl⟩
  obtain ⟨Yt, hYt⟩ : ∃ y, bV t = y := ⟨_, rfl⟩
  obtain ⟨Yu, hYu⟩ : ∃ y, bV u = y := ⟨_, rfl⟩
  obtain ⟨Yv, hYv⟩ : ∃ y, bV v = y := ⟨_, rfl⟩
  rw [hYa, hYb, hYc, hYd, hYs, hYt, hYu, hYv]
  go_enter Try.func60, Try.ntmps60
  go_upto_region 1 with fail
  generalize ((w.alloc (.cells #[.float .f32 a, .float .f32 b, .float .f32 c, .float .f32 d, .float .f32 s, .float .f32 t, .float .f32 u, .float .f32 v] 39)).alloc (.cells #[.int .i64 0, .int .i64 0, .int .i64 0, .int .i64 0, .int .i64 0, .int .i64 0, .int .i64 0, .int .i64 0] 84)) = wq at *
  obtain ⟨i0, i1, i2, i3, i4, i5, i6, i7⟩ := HP.out.c8
  refine wp_region_G (fun _ args v => bitC args v) (fun i => (#[.free, .bound, .bound, .free, .bound, .bound, .free, .bound, .bound, .free, .bound, .bound, .free, .bound, .bound, .free, .bound, .bound, .free, .bound, .bound, .free, .bound, .bound, .free, .put] : Array DK).getD i .free) [0, 1, 2, 3, 4, 5, 6, 7, 8, 9, 10, 11, 12, 13, 14, 15, 16, 17, 18, 19, 20, 21, 22, 23, 24, 25] (by kernel_rfl) (by kernel_rfl) ?_
  refine wpG_free rfl rfl (fun KK hKK W => ?_)
  go_simp
  refine ⟨by first | exact ⟨0, rfl⟩ | exact ⟨_, rfl⟩, hKK _ ?_⟩
  clear hKK KK
  refine wpG_bound rfl rfl (fun KK hKK n => ?_)
  go_simp
  refine ⟨by first | exact ⟨0, rfl⟩ | exact ⟨_, rfl⟩, hKK _ ?_⟩
  clear hKK KK
  refine wpG_bound rfl rfl (fun KK hKK n => ?_)
  go_simp
  refine ⟨⟨0, rfl⟩, (imBits_any _ _).mono ?_, ?_⟩
  · rintro e w' ⟨rfl, rfl⟩; exact ⟨_, rfl, ⟨0, rfl⟩, _, rfl, rfl⟩
  rintro val ⟨x, hx, rfl⟩
  have hx2 : Value.float .f32 a = Value.float .f32 x := hx
  injection hx2 with _ hx3
  rw [← hx3, hYa]
  clear hx hx3
  refine hKK _ ?_
  clear hKK KK
  refine wpG_free rfl rfl (fun KK hKK W => ?_)
  go_simp
  refine ⟨by first | exact ⟨0, rfl⟩ | exact ⟨_, rfl⟩, hKK _ ?_⟩
  clear hKK KK
  refine wpG_bound rfl rfl (fun KK hKK n => ?_)
  go_simp
  refine ⟨by first | exact ⟨0, rfl⟩ | exact ⟨_, rfl⟩, hKK _ ?_⟩
  clear hKK KK
  refine wpG_bound rfl rfl (fun KK hKK n => ?_)
  go_simp
  refine ⟨⟨0, rfl⟩, (imBits_any _ _).mono ?_, ?_⟩
  · rintro e w' ⟨rfl, rfl⟩; exact ⟨_, rfl, ⟨0, rfl⟩, _, rfl, rfl⟩
  rintro val ⟨x, hx, rfl⟩
  have hx2 : Value.float .f32 b = Value.float .f32 x := hx
  injection hx2 with _ hx3
  rw [← hx3, hYb]
  clear hx hx3
  refine hKK _ ?_
  clear hKK KK
  refine wpG_free rfl rfl (fun KK hKK W => ?_)
  go_simp
  refine ⟨by first | exact ⟨0, rfl⟩ | exact ⟨_, rfl⟩, hKK _ ?_⟩
  clear hKK KK
  refine wpG_bound rfl rfl (fun KK hKK n => ?_)
  go_simp
  refine ⟨by first | exact ⟨0, rfl⟩ | exact ⟨_, rfl⟩, hKK _ ?_⟩
  clear hKK KK
  refine wpG_bound rfl rfl (fun KK hKK n => ?_)
  go_simp
  refine ⟨⟨0, rfl⟩, (imBits_any _ _).mono ?_, ?_⟩
  · rintro e w' ⟨rfl, rfl⟩; exact ⟨_, rfl, ⟨0, rfl⟩, _, rfl, rfl⟩
  rintro val ⟨x, hx, rfl⟩
  have hx2 : Value.float .f32 c = Value.float .f32 x := hx
  injection hx2 with _ hx3
  rw [← hx3, hYc]
  clear hx hx3
  refine hKK _ ?_
  clear hKK KK
  refine wpG_free rfl rfl (fun KK hKK W => ?_)
  go_simp
  refine ⟨by first | exact ⟨0, rfl⟩ | exact ⟨_, rfl⟩, hKK _ ?_⟩
  clear hKK KK
  refine wpG_bound rfl rfl (fun KK hKK n => ?_)
  go_simp
  refine ⟨by first | exact ⟨0, rfl⟩ | exact ⟨_, rfl⟩, hKK _ ?_⟩
  clear hKK KK
  refine wpG_bound rfl rfl (fun KK hKK n => ?_)
  go_simp
  refine ⟨⟨0, rfl⟩, (imBits_any _ _).mono ?_, ?_⟩
  · rintro e w' ⟨rfl, rfl⟩; exact ⟨_, rfl, ⟨0, rfl⟩, _, rfl, rfl⟩
  rintro val ⟨x, hx, rfl⟩
  have hx2 : Value.float .f32 d = Value.float .f32 x := hx
  injection hx2 with _ hx3
  rw [← hx3, hYd]
  clear hx hx3
  refine hKK _ ?_
  clear hKK KK
  refine wpG_free rfl rfl (fun KK hKK W => ?_)
  go_simp
  refine ⟨by first | exact ⟨0, rfl⟩ | exact ⟨_, rfl⟩, hKK _ ?_⟩
  clear hKK KK
  refine wpG_bound rfl rfl (fun KK hKK n => ?_)
  go_simp
  refine ⟨by first | exact ⟨0, rfl⟩ | exact ⟨_, rfl⟩, hKK _ ?_⟩
  clear hKK KK
  refine wpG_bound rfl rfl (fun KK hKK n => ?_)
  go_simp
  refine ⟨⟨0, rfl⟩, (imBits_any _ _).mono ?_, ?_⟩
  · rintro e w' ⟨rfl, rfl⟩; exact ⟨_, rfl, ⟨0, rfl⟩, _, rfl, rfl⟩
  rintro val ⟨x, hx, rfl⟩
  have hx2 : Value.float .f32 s = Value.float .f32 x := hx
  injection hx2 with _ hx3
  rw [← hx3, hYs]
  clear hx hx3
  refine hKK _ ?_
  clear hKK KK
  refine wpG_free rfl rfl (fun KK hKK W => ?_)
  go_simp
  refine ⟨by first | exact ⟨0, rfl⟩ | exact ⟨_, rfl⟩, hKK _ ?_⟩
  clear hKK KK
  refine wpG_bound rfl rfl (fun KK hKK n => ?_)
  go_simp
  refine ⟨by first | exact ⟨0, rfl⟩ | exact ⟨_, rfl⟩, hKK _ ?_⟩
  clear hKK KK
  refine wpG_bound rfl rfl (fun KK hKK n => ?_)
  go_simp
  refine ⟨⟨0, rfl⟩, (imBits_any _ _).mono ?_, ?_⟩
  · rintro e w' ⟨rfl, rfl⟩; exact ⟨_, rfl, ⟨0, rfl⟩, _, rfl, rfl⟩
  rintro val ⟨x, hx, rfl⟩
  have hx2 : Value.float .f32 t = Value.float .f32 x := hx
  injection hx2 with _ hx3
  rw [← hx3, hYt]
  clear hx hx3
  refine hKK _ ?_
  clear hKK KK
  refine wpG_free rfl rfl (fun KK hKK W => ?_)
  go_simp
  refine ⟨by first | exact ⟨0, rfl⟩ | exact ⟨_, rfl⟩, hKK _ ?_⟩
  clear hKK KK
  refine wpG_bound rfl rfl (fun KK hKK n => ?_)
  go_simp
  refine ⟨by first | exact ⟨0, rfl⟩ | exact ⟨_, rfl⟩, hKK _ ?_⟩
  clear hKK KK
  refine wpG_bound rfl rfl (fun KK hKK n => ?_)
  go_simp
  refine ⟨⟨0, rfl⟩, (imBits_any _ _).mono ?_, ?_⟩
  · rintro e w' ⟨rfl, rfl⟩; exact ⟨_, rfl, ⟨0, rfl⟩, _, rfl, rfl⟩
  rintro val ⟨x, hx, rfl⟩
  have hx2 : Value.float .f32 u = Value.float .f32 x := hx
  injection hx2 with _ hx3
  rw [← hx3, hYu]
  clear hx hx3
  refine hKK _ ?_
  clear hKK KK
  refine wpG_free rfl rfl (fun KK hKK W => ?_)
  go_simp
  refine ⟨by first | exact ⟨0, rfl⟩ | exact ⟨_, rfl⟩, hKK _ ?_⟩
  clear hKK KK
  refine wpG_bound rfl rfl (fun KK hKK n => ?_)
  go_simp
  refine ⟨by first | exact ⟨0, rfl⟩ | exact ⟨_, rfl⟩, hKK _ ?_⟩
  clear hKK KK
  refine wpG_bound rfl rfl (fun KK hKK n => ?_)
  go_simp
  refine ⟨⟨0, rfl⟩, (imBits_any _ _).mono ?_, ?_⟩
  · rintro e w' ⟨rfl, rfl⟩; exact ⟨_, rfl, ⟨0, rfl⟩, _, rfl, rfl⟩
  rintro val ⟨x, hx, rfl⟩
  have hx2 : Value.float .f32 v = Value.float .f32 x := hx
  injection hx2 with _ hx3
  rw [← hx3, hYv]
  clear hx hx3
  refine hKK _ ?_
  clear hKK KK
  refine wpG_free rfl rfl (fun KK hKK W => ?_)
  go_simp
  refine ⟨by first | exact ⟨0, rfl⟩ | exact ⟨_, rfl⟩, hKK _ ?_⟩
  clear hKK KK
  refine wpG_put (World.setCell (World.setCell (World.setCell (World.setCell (World.setCell (World.setCell (World.setCell (World.setCell wq.drew ⟨w.heap.size + 1, 0, none⟩ (.int .i64 Ya)) ⟨w.heap.size + 1, 1, none⟩ (.int .i64 Yb)) ⟨w.heap.size + 1, 2, none⟩ (.int .i64 Yc)) ⟨w.heap.size + 1, 3, none⟩ (.int .i64 Yd)) ⟨w.heap.size + 1, 4, none⟩ (.int .i64 Ys)) ⟨w.heap.size + 1, 5, none⟩ (.int .i64 Yt)) ⟨w.heap.size + 1, 6, none⟩ (.int .i64 Yu)) ⟨w.heap.size + 1, 7, none⟩ (.int .i64 Yv)) rfl rfl (by kernel_rfl) (fun n => ?_) ?_
  · go_simp; simp only [setCell_drewN]
  refine wpG_nil (fun k => ?_)
  go_wp2_with fail
  refine bodyPost_ret (v := .agg #[.int .i64 Ya, .int .i64 Yb, .int .i64 Yc, .int .i64 Yd, .int .i64 Ys, .int .i64 Yt, .int .i64 Yu, .int .i64 Yv]) ?_ rfl ⟨rfl, ?_⟩
  · have hres := HRES.out
    simp only [results, hres]
    go_simp
  · first | exact below_drewN ((((((((((((((((G.out.drew).setCell (p := ⟨w.heap.size + 1, 0, none⟩) (by show w.heap.size ≤ w.heap.size + 1; omega) _)).setCell (p := ⟨w.heap.size + 1, 1, none⟩) (by show w.heap.size ≤ w.heap.size + 1; omega) _)).setCell (p := ⟨w.heap.size + 1, 2, none⟩) (by show w.heap.size ≤ w.heap.size + 1; omega) _)).setCell (p := ⟨w.heap.size + 1, 3, none⟩) (by show w.heap.size ≤ w.heap.size + 1; omega) _)).setCell (p := ⟨w.heap.size + 1, 4, none⟩) (by show w.heap.size ≤ w.heap.size + 1; omega) _)).setCell (p := ⟨w.heap.size + 1, 5, none⟩) (by show w.heap.size ≤ w.heap.size + 1; omega) _)).setCell (p := ⟨w.heap.size + 1, 6, none⟩) (by show w.heap.size ≤ w.heap.size + 1; omega) _)).setCell (p := ⟨w.heap.size + 1, 7, none⟩) (by show w.heap.size ≤ w.heap.size + 1; omega) _) _ | exact below_drewN ((((((((((((((((G.out).setCell (p := ⟨w.heap.size + 1, 0, none⟩) (by show w.heap.size ≤ w.heap.size + 1; omega) _)).setCell (p := ⟨w.heap.size + 1, 1, none⟩) (by show w.heap.size ≤ w.heap.size + 1; omega) _)).setCell (p := ⟨w.heap.size + 1, 2, none⟩) (by show w.heap.size ≤ w.heap.size + 1; omega) _)).setCell (p := ⟨w.heap.size + 1, 3, none⟩) (by show w.heap.size ≤ w.heap.size + 1; omega) _)).setCell (p := ⟨w.heap.size + 1, 4, none⟩) (by show w.heap.size ≤ w.heap.size + 1; omega) _)).setCell (p := ⟨w.heap.size + 1, 5, none⟩) (by show w.heap.size ≤ w.heap.size + 1; omega) _)).setCell (p := ⟨w.heap.size + 1, 6, none⟩) (by show w.heap.size ≤ w.heap.size + 1; omega) _)).setCell (p := ⟨w.heap.size + 1, 7, none⟩) (by show w.heap.size ≤ w.heap.size + 1; omega) _) _
def tnSm (a b c d s t u v a' b' c' d' s' t' u' v' : Nat) : Bool := smB a a' && (smB b b' && (smB c c' && (smB d d' && (smB s s' && (smB t t' && (smB u u' && (smB v v')))))))
set_option maxHeartbeats 2000000 in
theorem spSmtn_any (a b c d s t u v a' b' c' d' s' t' u' v' : Nat) (w : World) : Calls Try.prog 27 #[.agg #[.float .f32 a, .float .f32 b, .float .f32 c, .float .f32 d, .float .f32 s, .float .f32 t, .float .f32 u, .float .f32 v], .agg #[.float .f32 a', .float .f32 b', .float .f32 c', .float .f32 d', .float .f32 s', .float .f32 t', .float .f32 u', .float .f32 v']] w fun e w' => e = .returned (.bool (tnSm a b c d s t u v a' b' c' d' s' t' u' v')) ∧ Below w.heap.size w w' := by
  have G := Lib.hid (((Below.refl w.heap.size w).alloc (Nat.le_refl _) (.cells #[.float .f32 a, .float .f32 b, .float .f32 c, .float .f32 d, .float .f32 s, .float .f32 t, .float .f32 u, .float .f32 v] 39)).alloc (by simp) (.cells #[.float .f32 a', .float .f32 b', .float .f32 c', .float .f32 d', .float .f32 s', .float .f32 t', .float .f32 u', .float .f32 v'] 39))
  cases qa : smB a a'
  · skip
    have Qa := Lib.hid qa
    have HB := Lib.hid (show tnSm a b c d s t u v a' b' c' d' s' t' u' v' = false by unfold tnSm; rw [qa]; rfl)
    clear qa
    go_enter Try.func27, Try.ntmps27
    go_wp2_with fail
    refine (spSame_any _ _ _).mono ?_
    rw [Qa.out]
    rintro e w' ⟨rfl, rfl⟩
    go_wp2
    go_ret
    exact ⟨by rw [HB.out]; rfl, G.out⟩
  · skip
    cases qb : smB b b'
    · skip
      have Qa := Lib.hid qa
      have Qb := Lib.hid qb
      have HB := Lib.hid (show tnSm a b c d s t u v a' b' c' d' s' t' u' v' = false by unfold tnSm; rw [qa, qb]; rfl)
      clear qa qb
      go_enter Try.func27, Try.ntmps27
      go_wp2_with fail
      refine (spSame_any _ _ _).mono ?_
      rw [Qa.out]
      rintro e w' ⟨rfl, rfl⟩
      go_wp2_with fail
      refine (spSame_any _ _ _).mono ?_
      rw [Qb.out]
      rintro e w' ⟨rfl, rfl⟩
      go_wp2
      go_ret
      exact ⟨by rw [HB.out]; rfl, G.out⟩
    · skip
      cases qc : smB c c'
      · skip
        have Qa := Lib.hid qa
        have Qb := Lib.hid qb
        have Qc := Lib.hid qc
        have HB := Lib.hid (show tnSm a b c d s t u v a' b' c' d' s' t' u' v' = false by unfold tnSm; rw [qa, qb, qc]; rfl)
        clear qa qb qc
        go_enter Try.func27, Try.ntmps27
        go_wp2_with fail
        refine (spSame_any _ _ _).mono ?_
        rw [Qa.out]
        rintro e w' ⟨rfl, rfl⟩
        go_wp2_with fail
        refine (spSame_any _ _ _).mono ?_
        rw [Qb.out]
        rintro e w' ⟨rfl, rfl⟩
        go_wp2_with fail
        refine (spSame_any _ _ _).mono ?_
        rw [Qc.out]
        rintro e w' ⟨rfl, rfl⟩
        go_wp2
        go_ret
        exact ⟨by rw [HB.out]; rfl, G.out⟩
      · skip
        cases qd : smB d d'
        · skip
          have Qa := Lib.hid qa
          have Qb := Lib.hid qb
          have Qc := Lib.hid qc
          have Qd := Lib.hid qd
          have HB := Lib.hid (show tnSm a b c d s t u v a' b' c' d' s' t' u' v' = false by unfold tnSm; rw [qa, qb, qc, qd]; rfl)
          clear qa qb qc qd
          go_enter Try.func27, Try.ntmps27
          go_wp2_with fail
          refine (spSame_any _ _ _).mono ?_
          rw [Qa.out]
          rintro e w' ⟨rfl, rfl⟩
          go_wp2_with fail
          refine (spSame_any _ _ _).mono ?_
          rw [Qb.out]
          rintro e w' ⟨rfl, rfl⟩
          go_wp2_with fail
          refine (spSame_any _ _ _).mono ?_
          rw [Qc.out]
          rintro e w' ⟨rfl, rfl⟩
          go_wp2_with fail
          refine (spSame_any _ _ _).mono ?_
          rw [Qd.out]
          rintro e w' ⟨rfl, rfl⟩
          go_wp2
          go_ret
          exact ⟨by rw [HB.out]; rfl, G.out⟩
        · skip
          cases qs : smB s s'
          · skip
            have Qa := Lib.hid qa
            have Qb := Lib.hid qb
            have Qc := Lib.hid qc
            have Qd := Lib.hid qd
            have Qs := Lib.hid qs
            have HB := Lib.hid (show tnSm a b c d s t u v a' b' c' d' s' t' u' v' = false by unfold tnSm; rw [qa, qb, qc, qd, qs]; rfl)
            clear qa qb qc qd qs
            go_enter Try.func27, Try.ntmps27
            go_wp2_with fail
            refine (spSame_any _ _ _).mono ?_
            rw [Qa.out]
            rintro e w' ⟨rfl, rfl⟩
            go_wp2_with fail
            refine (spSame_any _ _ _).mono ?_
            rw [Qb.out]
            rintro e w' ⟨rfl, rfl⟩
            go_wp2_with fail
            refine (spSame_any _ _ _).mono ?_
            rw [Qc.out]
            rintro e w' ⟨rfl, rfl⟩
            go_wp2_with fail
            refine (spSame_any _ _ _).mono ?_
            rw [Qd.out]
            rintro e w' ⟨rfl, rfl⟩
            go_wp2_with fail
            refine (spSame_any _ _ _).mono ?_
            rw [Qs.out]
            rintro e w' ⟨rfl, rfl⟩
            go_wp2
            go_ret
            exact ⟨by rw [HB.out]; rfl, G.out⟩
          · skip
            cases qt : smB t t'
            · skip
              have Qa := Lib.hid qa
              have Qb := Lib.hid qb
              have Qc := Lib.hid qc
              have Qd := Lib.hid qd
              have Qs := Lib.hid qs
              have Qt := Lib.hid qt
              have HB := Lib.hid (show tnSm a b c d s t u v a' b' c' d' s' t' u' v' = false by unfold tnSm; rw [qa, qb, qc, qd, qs, qt]; rfl)
              clear qa qb qc qd qs qt
              go_enter Try.func27, Try.ntmps27
              go_wp2_with fail
              refine (spSame_any _ _ _).mono ?_
              rw [Qa.out]
              rintro e w' ⟨rfl, rfl⟩
              go_wp2_with fail
              refine (spSame_any _ _ _).mono ?_
              rw [Qb.out]
              rintro e w' ⟨rfl, rfl⟩
              go_wp2_with fail
              refine (spSame_any _ _ _).mono ?_
              rw [Qc.out]
              rintro e w' ⟨rfl, rfl⟩
              go_wp2_with fail
              refine (spSame_any _ _ _).mono ?_
              rw [Qd.out]
              rintro e w' ⟨rfl, rfl⟩
              go_wp2_with fail
              refine (spSame_any _ _ _).mono ?_
              rw [Qs.out]
              rintro e w' ⟨rfl, rfl⟩
              go_wp2_with fail
              refine (spSame_any _ _ _).mono ?_
              rw [Qt.out]
              rintro e w' ⟨rfl, rfl⟩
              go_wp2
              go_ret
              exact ⟨by rw [HB.out]; rfl, G.out⟩
            · skip
              cases qu : smB u u'
              · skip
                have Qa := Lib.hid qa
                have Qb := Lib.hid qb
                have Qc := Lib.hid qc
                have Qd := Lib.hid qd
                have Qs := Lib.hid qs
                have Qt := Lib.hid qt
                have Qu := Lib.hid qu
                have HB := Lib.hid (show tnSm a b c d s t u v a' b' c' d' s' t' u' v' = false by unfold tnSm; rw [qa, qb, qc, qd, qs, qt, qu]; rfl)
                clear qa qb qc qd qs qt qu
                go_enter Try.func27, Try.ntmps27
                go_wp2_with fail
                refine (spSame_any _ _ _).mono ?_
                rw [Qa.out]
                rintro e w' ⟨rfl, rfl⟩
                go_wp2_with fail
                refine (spSame_any _ _ _).mono ?_
                rw [Qb.out]
                rintro e w' ⟨rfl, rfl⟩
                go_wp2_with fail
                refine (spSame_any _ _ _).mono ?_
                rw [Qc.out]
                rintro e w' ⟨rfl, rfl⟩
                go_wp2_with fail
                refine (spSame_any _ _ _).mono ?_
                rw [Qd.out]
                rintro e w' ⟨rfl, rfl⟩
                go_wp2_with fail
                refine (spSame_any _ _ _).mono ?_
                rw [Qs.out]
                rintro e w' ⟨rfl, rfl⟩
                go_wp2_with fail
                refine (spSame_any _ _ _).mono ?_
                rw [Qt.out]
                rintro e w' ⟨rfl, rfl⟩
                go_wp2_with fail
                refine (spSame_any _ _ _).mono ?_
                rw [Qu.out]
                rintro e w' ⟨rfl, rfl⟩
                go_wp2
                go_ret
                exact ⟨by rw [HB.out]; rfl, G.out⟩
              · skip
                cases qv : smB v v'
                · skip
                  have Qa := Lib.hid qa
                  have Qb := Lib.hid qb
                  have Qc := Lib.hid qc
                  have Qd := Lib.hid qd
                  have Qs := Lib.hid qs
                  have Qt := Lib.hid qt
                  have Qu := Lib.hid qu
                  have Qv := Lib.hid qv
                  have HB := Lib.hid (show tnSm a b c d s t u v a' b' c' d' s' t' u' v' = false by unfold tnSm; rw [qa, qb, qc, qd, qs, qt, qu, qv]; rfl)
                  clear qa qb qc qd qs qt qu qv
                  go_enter Try.func27, Try.ntmps27
                  go_wp2_with fail
                  refine (spSame_any _ _ _).mono ?_
                  rw [Qa.out]
                  rintro e w' ⟨rfl, rfl⟩
                  go_wp2_with fail
                  refine (spSame_any _ _ _).mono ?_
                  rw [Qb.out]
                  rintro e w' ⟨rfl, rfl⟩
                  go_wp2_with fail
                  refine (spSame_any _ _ _).mono ?_
                  rw [Qc.out]
                  rintro e w' ⟨rfl, rfl⟩
                  go_wp2_with fail
                  refine (spSame_any _ _ _).mono ?_
                  rw [Qd.out]
                  rintro e w' ⟨rfl, rfl⟩
                  go_wp2_with fail
                  refine (spSame_any _ _ _).mono ?_
                  rw [Qs.out]
                  rintro e w' ⟨rfl, rfl⟩
                  go_wp2_with fail
                  refine (spSame_any _ _ _).mono ?_
                  rw [Qt.out]
                  rintro e w' ⟨rfl, rfl⟩
                  go_wp2_with fail
                  refine (spSame_any _ _ _).mono ?_
                  rw [Qu.out]
                  rintro e w' ⟨rfl, rfl⟩
                  go_wp2_with fail
                  refine (spSame_any _ _ _).mono ?_
                  rw [Qv.out]
                  rintro e w' ⟨rfl, rfl⟩
                  go_wp2
                  go_ret
                  exact ⟨by rw [HB.out]; rfl, G.out⟩
                · skip
                  have Qa := Lib.hid qa
                  have Qb := Lib.hid qb
                  have Qc := Lib.hid qc
                  have Qd := Lib.hid qd
                  have Qs := Lib.hid qs
                  have Qt := Lib.hid qt
                  have Qu := Lib.hid qu
                  have Qv := Lib.hid qv
                  have HB := Lib.hid (show tnSm a b c d s t u v a' b' c' d' s' t' u' v' = true by unfold tnSm; rw [qa, qb, qc, qd, qs, qt, qu, qv]; rfl)
                  clear qa qb qc qd qs qt qu qv
                  go_enter Try.func27, Try.ntmps27
                  go_wp2_with fail
                  refine (spSame_any _ _ _).mono ?_
                  rw [Qa.out]
                  rintro e w' ⟨rfl, rfl⟩
                  go_wp2_with fail
                  refine (spSame_any _ _ _).mono ?_
                  rw [Qb.out]
                  rintro e w' ⟨rfl, rfl⟩
                  go_wp2_with fail
                  refine (spSame_any _ _ _).mono ?_
                  rw [Qc.out]
                  rintro e w' ⟨rfl, rfl⟩
                  go_wp2_with fail
                  refine (spSame_any _ _ _).mono ?_
                  rw [Qd.out]
                  rintro e w' ⟨rfl, rfl⟩
                  go_wp2_with fail
                  refine (spSame_any _ _ _).mono ?_
                  rw [Qs.out]
                  rintro e w' ⟨rfl, rfl⟩
                  go_wp2_with fail
                  refine (spSame_any _ _ _).mono ?_
                  rw [Qt.out]
                  rintro e w' ⟨rfl, rfl⟩
                  go_wp2_with fail
                  refine (spSame_any _ _ _).mono ?_
                  rw [Qu.out]
                  rintro e w' ⟨rfl, rfl⟩
                  go_wp2_with fail
                  refine (spSame_any _ _ _).mono ?_
                  rw [Qv.out]
                  rintro e w' ⟨rfl, rfl⟩
                  go_wp2
                  go_ret
                  exact ⟨by rw [HB.out]; rfl, G.out⟩
set_option maxHeartbeats 2000000 in
set_option maxRecDepth 100000 in
theorem imSmtn_any (a b c d s t u v a' b' c' d' s' t' u' v' : Nat) (w : World) : Calls Try.prog 28 #[.agg #[.float .f32 a, .float .f32 b, .float .f32 c, .float .f32 d, .float .f32 s, .float .f32 t, .float .f32 u, .float .f32 v], .agg #[.float .f32 a', .float .f32 b', .float .f32 c', .float .f32 d', .float .f32 s', .float .f32 t', .float .f32 u', .float .f32 v']] w fun e w' => e = .returned (.bool (tnSm a b c d s t u v a' b' c' d' s' t' u' v')) ∧ Below w.heap.size w w' := by
  have G := Lib.hid (((Below.refl w.heap.size w).alloc (Nat.le_refl _) (.cells #[.float .f32 a, .float .f32 b, .float .f32 c, .float .f32 d, .float .f32 s, .float .f32 t, .float .f32 u, .float .f32 v] 39)).alloc (by simp) (.cells #[.float .f32 a', .float .f32 b', .float .f32 c', .float .f32 d', .float .f32 s', .float .f32 t', .float .f32 u', .float .f32 v'] 39))
  have HA := Lib.hid (show NumsIn ((w.alloc (.cells #[.float .f32 a, .float .f32 b, .float .f32 c, .float .f32 d, .float .f32 s, .float .f32 t, .float .f32 u, .float .f32 v] 39)).alloc (.cells #[.float .f32 a', .float .f32 b', .float .f32 c', .float .f32 d', .float .f32 s', .float .f32 t', .float .f32 u', .float .f32 v'] 39)) w.heap.size [a, b, c, d, s, t, u, v] from (NumsIn.new w [a, b, c, d, s, t, u, v] 39).alloc (.cells #[.float .f32 a', .float .f32 b', .float .f32 c', .float .f32 d', .float .f32 s', .float .f32 t', .float .f32 u', .float .f32 v'] 39))
  have HB := Lib.hid (show NumsIn ((w.alloc (.cells #[.float .f32 a, .float .f32 b, .float .f32 c, .float .f32 d, .float .f32 s, .float .f32 t, .float .f32 u, .float .f32 v] 39)).alloc (.cells #[.float .f32 a', .float .f32 b', .float .f32 c', .float .f32 d', .float .f32 s', .float .f32 t', .float .f32 u', .float .f32 v'] 39)) (w.heap.size + 1) [a', b', c', d', s', t', u', v'] from NumsIn.newAt (w.alloc (.cells #[.float .f32 a, .float .f32 b, .float .f32 c, .float .f32 d, .float .f32 s, .float .f32 t, .float .f32 u, .float .f32 v] 39)) [a', b', c', d', s', t', u', v'] 39 (p := w.heap.size + 1) (by simp))
  obtain ⟨Ya, hYa⟩ : ∃ y, bV a = y := ⟨_, rfl⟩
  obtain ⟨Za, hZa⟩ : ∃ y, bV a' = y := ⟨_, rfl⟩
  obtain ⟨Yb, hYb⟩ : ∃ y, bV b = y := ⟨_, rfl⟩
  obtain ⟨Zb, hZb⟩ : ∃ y, bV b' = y := ⟨_, rfl⟩
  obtain ⟨Yc, hYc⟩ : ∃ y, bV c = y := ⟨_, rfl⟩
  obtain ⟨Zc, hZc⟩ : ∃ y, bV c' = y := ⟨_, rfl⟩
  obtain ⟨Yd, hYd⟩ : ∃ y, bV d = y := ⟨_, rfl⟩
  obtain ⟨Zd, hZd⟩ : ∃ y, bV d' = y := ⟨_, rfl⟩
  obtain ⟨Ys, hYs⟩ : ∃ y, bV s = y := ⟨_, rfl⟩
  obtain ⟨Zs, hZs⟩ : ∃ y, bV s' = y := ⟨_, rfl⟩
  obtain ⟨Yt, hYt⟩ : ∃ y, bV t = y := ⟨_, rfl⟩
  obtain ⟨Zt, hZt⟩ : ∃ y, bV t' = y := ⟨_, rfl⟩
  obtain ⟨Yu, hYu⟩ : ∃ y, bV u = y := ⟨_, rfl⟩
  obtain ⟨Zu, hZu⟩ : ∃ y, bV u' = y := ⟨_, rfl⟩
  obtain ⟨Yv, hYv⟩ : ∃ y, bV v = y := ⟨_, rfl⟩
  obtain ⟨Zv, hZv⟩ : ∃ y, bV v' = y := ⟨_, rfl⟩
  have K1 := fun W => tnBits_any a b c d s t u v W
  have K2 := fun W => tnBits_any a' b' c' d' s' t' u' v' W
  simp only [hYa, hYb, hYc, hYd, hYs, hYt, hYu, hYv] at K1
  simp only [hZa, hZb, hZc, hZd, hZs, hZt, hZu, hZv] at K2
  have HK1 := Lib.hid K1
  have HK2 := Lib.hid K2
  clear K1 K2
  have HS := Lib.hid (show tnSm a b c d s t u v a' b' c' d' s' t' u' v' = (Ya == Za && (Yb == Zb && (Yc == Zc && (Yd == Zd && (Ys == Zs && (Yt == Zt && (Yu == Zu && (Yv == Zv)))))))) by unfold tnSm smB; simp only [hYa, hYb, hYc, hYd, hYs, hYt, hYu, hYv, hZa, hZb, hZc, hZd, hZs, hZt, hZu, hZv])
  clear hYa hYb hYc hYd hYs hYt hYu hYv hZa hZb hZc hZd hZs hZt hZu hZv
  by_cases pa : Ya = Za
  rotate_left
  · skip
    have ba : (Ya == Za) = false := by simp [pa]
    have HB2 := Lib.hid (show tnSm a b c d s t u v a' b' c' d' s' t' u' v' = false by rw [HS.out, ba]; rfl)
    go_enter Try.func28, Try.ntmps28
    go_upto_region 1 with fail
    go_region_held3 (fun w' => w'.cell? ⟨w.heap.size, 0, none⟩ = some (.float .f32 a) ∧ w'.cell? ⟨w.heap.size, 1, none⟩ = some (.float .f32 b) ∧ w'.cell? ⟨w.heap.size, 2, none⟩ = some (.float .f32 c) ∧ w'.cell? ⟨w.heap.size, 3, none⟩ = some (.float .f32 d) ∧ w'.cell? ⟨w.heap.size, 4, none⟩ = some (.float .f32 s) ∧ w'.cell? ⟨w.heap.size, 5, none⟩ = some (.float .f32 t) ∧ w'.cell? ⟨w.heap.size, 6, none⟩ = some (.float .f32 u) ∧ w'.cell? ⟨w.heap.size, 7, none⟩ = some (.float .f32 v) ∧ w'.cell? ⟨w.heap.size + 1, 0, none⟩ = some (.float .f32 a') ∧ w'.cell? ⟨w.heap.size + 1, 1, none⟩ = some (.float .f32 b') ∧ w'.cell? ⟨w.heap.size + 1, 2, none⟩ = some (.float .f32 c') ∧ w'.cell? ⟨w.heap.size + 1, 3, none⟩ = some (.float .f32 d') ∧ w'.cell? ⟨w.heap.size + 1, 4, none⟩ = some (.float .f32 s') ∧ w'.cell? ⟨w.heap.size + 1, 5, none⟩ = some (.float .f32 t') ∧ w'.cell? ⟨w.heap.size + 1, 6, none⟩ = some (.float .f32 u') ∧ w'.cell? ⟨w.heap.size + 1, 7, none⟩ = some (.float .f32 v')) (first | exact ⟨(((HA.out.drew.below hb1).below hb2)).c8.1, (((HA.out.drew.below hb1).below hb2)).c8.2.1, (((HA.out.drew.below hb1).below hb2)).c8.2.2.1, (((HA.out.drew.below hb1).below hb2)).c8.2.2.2.1, (((HA.out.drew.below hb1).below hb2)).c8.2.2.2.2.1, (((HA.out.drew.below hb1).below hb2)).c8.2.2.2.2.2.1, (((HA.out.drew.below hb1).below hb2)).c8.2.2.2.2.2.2.1, (((HA.out.drew.below hb1).below hb2)).c8.2.2.2.2.2.2.2, (((HB.out.drew.below hb1).below hb2)).c8.1, (((HB.out.drew.below hb1).below hb2)).c8.2.1, (((HB.out.drew.below hb1).below hb2)).c8.2.2.1, (((HB.out.drew.below hb1).below hb2)).c8.2.2.2.1, (((HB.out.drew.below hb1).below hb2)).c8.2.2.2.2.1, (((HB.out.drew.below hb1).below hb2)).c8.2.2.2.2.2.1, (((HB.out.drew.below hb1).below hb2)).c8.2.2.2.2.2.2.1, (((HB.out.drew.below hb1).below hb2)).c8.2.2.2.2.2.2.2⟩ | exact ⟨((HA.out.drew.below hb1)).c8.1, ((HA.out.drew.below hb1)).c8.2.1, ((HA.out.drew.below hb1)).c8.2.2.1, ((HA.out.drew.below hb1)).c8.2.2.2.1, ((HA.out.drew.below hb1)).c8.2.2.2.2.1, ((HA.out.drew.below hb1)).c8.2.2.2.2.2.1, ((HA.out.drew.below hb1)).c8.2.2.2.2.2.2.1, ((HA.out.drew.below hb1)).c8.2.2.2.2.2.2.2, ((HB.out.drew.below hb1)).c8.1, ((HB.out.drew.below hb1)).c8.2.1, ((HB.out.drew.below hb1)).c8.2.2.1, ((HB.out.drew.below hb1)).c8.2.2.2.1, ((HB.out.drew.below hb1)).c8.2.2.2.2.1, ((HB.out.drew.below hb1)).c8.2.2.2.2.2.1, ((HB.out.drew.below hb1)).c8.2.2.2.2.2.2.1, ((HB.out.drew.below hb1)).c8.2.2.2.2.2.2.2⟩ | exact ⟨(HA.out.drew).c8.1, (HA.out.drew).c8.2.1, (HA.out.drew).c8.2.2.1, (HA.out.drew).c8.2.2.2.1, (HA.out.drew).c8.2.2.2.2.1, (HA.out.drew).c8.2.2.2.2.2.1, (HA.out.drew).c8.2.2.2.2.2.2.1, (HA.out.drew).c8.2.2.2.2.2.2.2, (HB.out.drew).c8.1, (HB.out.drew).c8.2.1, (HB.out.drew).c8.2.2.1, (HB.out.drew).c8.2.2.2.1, (HB.out.drew).c8.2.2.2.2.1, (HB.out.drew).c8.2.2.2.2.2.1, (HB.out.drew).c8.2.2.2.2.2.2.1, (HB.out.drew).c8.2.2.2.2.2.2.2⟩ | go_keep)
      ((first
        | (go_at_call 60; with_reducible refine (HK1.out _).mono ?_; rintro e u1 ⟨rfl, hb1⟩)
        | (go_at_call 60; with_reducible refine (HK2.out _).mono ?_; rintro e u2 ⟨rfl, hb2⟩)
        ))
    go_wp2
    go_ret
    exact ⟨by rw [HB2.out]; rfl, ((G.out.drew.trans (hb1.mono G.out.drew.size)).trans (hb2.mono (G.out.drew.trans (hb1.mono G.out.drew.size)).size))⟩
  by_cases pb : Yb = Zb
  rotate_left
  · skip
    have ba : (Ya == Za) = true := by simp [pa]
    have bb : (Yb == Zb) = false := by simp [pb]
    have HB2 := Lib.hid (show tnSm a b c d s t u v a' b' c' d' s' t' u' v' = false by rw [HS.out, ba, bb]; rfl)
    go_enter Try.func28, Try.ntmps28
    go_upto_region 1 with fail
    go_region_held3 (fun w' => w'.cell? ⟨w.heap.size, 0, none⟩ = some (.float .f32 a) ∧ w'.cell? ⟨w.heap.size, 1, none⟩ = some (.float .f32 b) ∧ w'.cell? ⟨w.heap.size, 2, none⟩ = some (.float .f32 c) ∧ w'.cell? ⟨w.heap.size, 3, none⟩ = some (.float .f32 d) ∧ w'.cell? ⟨w.heap.size, 4, none⟩ = some (.float .f32 s) ∧ w'.cell? ⟨w.heap.size, 5, none⟩ = some (.float .f32 t) ∧ w'.cell? ⟨w.heap.size, 6, none⟩ = some (.float .f32 u) ∧ w'.cell? ⟨w.heap.size, 7, none⟩ = some (.float .f32 v) ∧ w'.cell? ⟨w.heap.size + 1, 0, none⟩ = some (.float .f32 a') ∧ w'.cell? ⟨w.heap.size + 1, 1, none⟩ = some (.float .f32 b') ∧ w'.cell? ⟨w.heap.size + 1, 2, none⟩ = some (.float .f32 c') ∧ w'.cell? ⟨w.heap.size + 1, 3, none⟩ = some (.float .f32 d') ∧ w'.cell? ⟨w.heap.size + 1, 4, none⟩ = some (.float .f32 s') ∧ w'.cell? ⟨w.heap.size + 1, 5, none⟩ = some (.float .f32 t') ∧ w'.cell? ⟨w.heap.size + 1, 6, none⟩ = some (.float .f32 u') ∧ w'.cell? ⟨w.heap.size + 1, 7, none⟩ = some (.float .f32 v')) (first | exact ⟨(((HA.out.drew.below hb1).below hb2)).c8.1, (((HA.out.drew.below hb1).below hb2)).c8.2.1, (((HA.out.drew.below hb1).below hb2)).c8.2.2.1, (((HA.out.drew.below hb1).below hb2)).c8.2.2.2.1, (((HA.out.drew.below hb1).below hb2)).c8.2.2.2.2.1, (((HA.out.drew.below hb1).below hb2)).c8.2.2.2.2.2.1, (((HA.out.drew.below hb1).below hb2)).c8.2.2.2.2.2.2.1, (((HA.out.drew.below hb1).below hb2)).c8.2.2.2.2.2.2.2, (((HB.out.drew.below hb1).below hb2)).c8.1, (((HB.out.drew.below hb1).below hb2)).c8.2.1, (((HB.out.drew.below hb1).below hb2)).c8.2.2.1, (((HB.out.drew.below hb1).below hb2)).c8.2.2.2.1, (((HB.out.drew.below hb1).below hb2)).c8.2.2.2.2.1, (((HB.out.drew.below hb1).below hb2)).c8.2.2.2.2.2.1, (((HB.out.drew.below hb1).below hb2)).c8.2.2.2.2.2.2.1, (((HB.out.drew.below hb1).below hb2)).c8.2.2.2.2.2.2.2⟩ | exact ⟨((HA.out.drew.below hb1)).c8.1, ((HA.out.drew.below hb1)).c8.2.1, ((HA.out.drew.below hb1)).c8.2.2.1, ((HA.out.drew.below hb1)).c8.2.2.2.1, ((HA.out.drew.below hb1)).c8.2.2.2.2.1, ((HA.out.drew.below hb1)).c8.2.2.2.2.2.1, ((HA.out.drew.below hb1)).c8.2.2.2.2.2.2.1, ((HA.out.drew.below hb1)).c8.2.2.2.2.2.2.2, ((HB.out.drew.below hb1)).c8.1, ((HB.out.drew.below hb1)).c8.2.1, ((HB.out.drew.below hb1)).c8.2.2.1, ((HB.out.drew.below hb1)).c8.2.2.2.1, ((HB.out.drew.below hb1)).c8.2.2.2.2.1, ((HB.out.drew.below hb1)).c8.2.2.2.2.2.1, ((HB.out.drew.below hb1)).c8.2.2.2.2.2.2.1, ((HB.out.drew.below hb1)).c8.2.2.2.2.2.2.2⟩ | exact ⟨(HA.out.drew).c8.1, (HA.out.drew).c8.2.1, (HA.out.drew).c8.2.2.1, (HA.out.drew).c8.2.2.2.1, (HA.out.drew).c8.2.2.2.2.1, (HA.out.drew).c8.2.2.2.2.2.1, (HA.out.drew).c8.2.2.2.2.2.2.1, (HA.out.drew).c8.2.2.2.2.2.2.2, (HB.out.drew).c8.1, (HB.out.drew).c8.2.1, (HB.out.drew).c8.2.2.1, (HB.out.drew).c8.2.2.2.1, (HB.out.drew).c8.2.2.2.2.1, (HB.out.drew).c8.2.2.2.2.2.1, (HB.out.drew).c8.2.2.2.2.2.2.1, (HB.out.drew).c8.2.2.2.2.2.2.2⟩ | go_keep)
      ((first
        | (go_at_call 60; with_reducible refine (HK1.out _).mono ?_; rintro e u1 ⟨rfl, hb1⟩)
        | (go_at_call 60; with_reducible refine (HK2.out _).mono ?_; rintro e u2 ⟨rfl, hb2⟩)
        ))
    go_wp2
    go_ret
    exact ⟨by rw [HB2.out]; rfl, ((G.out.drew.trans (hb1.mono G.out.drew.size)).trans (hb2.mono (G.out.drew.trans (hb1.mono G.out.drew.size)).size))⟩
  by_cases pc : Yc = Zc
  rotate_left
  · skip
    have ba : (Ya == Za) = true := by simp [pa]
    have bb : (Yb == Zb) = true := by simp [pb]
    have bc : (Yc == Zc) = false := by simp [pc]
    have HB2 := Lib.hid (show tnSm a b c d s t u v a' b' c' d' s' t' u' v' = false by rw [HS.out, ba, bb, bc]; rfl)
    go_enter Try.func28, Try.ntmps28
    go_upto_region 1 with fail
    go_region_held3 (fun w' => w'.cell? ⟨w.heap.size, 0, none⟩ = some (.float .f32 a) ∧ w'.cell? ⟨w.heap.size, 1, none⟩ = some (.float .f32 b) ∧ w'.cell? ⟨w.heap.size, 2, none⟩ = some (.float .f32 c) ∧ w'.cell? ⟨w.heap.size, 3, none⟩ = some (.float .f32 d) ∧ w'.cell? ⟨w.heap.size, 4, none⟩ = some (.float .f32 s) ∧ w'.cell? ⟨w.heap.size, 5, none⟩ = some (.float .f32 t) ∧ w'.cell? ⟨w.heap.size, 6, none⟩ = some (.float .f32 u) ∧ w'.cell? ⟨w.heap.size, 7, none⟩ = some (.float .f32 v) ∧ w'.cell? ⟨w.heap.size + 1, 0, none⟩ = some (.float .f32 a') ∧ w'.cell? ⟨w.heap.size + 1, 1, none⟩ = some (.float .f32 b') ∧ w'.cell? ⟨w.heap.size + 1, 2, none⟩ = some (.float .f32 c') ∧ w'.cell? ⟨w.heap.size + 1, 3, none⟩ = some (.float .f32 d') ∧ w'.cell? ⟨w.heap.size + 1, 4, none⟩ = some (.float .f32 s') ∧ w'.cell? ⟨w.heap.size + 1, 5, none⟩ = some (.float .f32 t') ∧ w'.cell? ⟨w.heap.size + 1, 6, none⟩ = some (.float .f32 u') ∧ w'.cell? ⟨w.heap.size + 1, 7, none⟩ = some (.float .f32 v')) (first | exact ⟨(((HA.out.drew.below hb1).below hb2)).c8.1, (((HA.out.drew.below hb1).below hb2)).c8.2.1, (((HA.out.drew.below hb1).below hb2)).c8.2.2.1, (((HA.out.drew.below hb1).below hb2)).c8.2.2.2.1, (((HA.out.drew.below hb1).below hb2)).c8.2.2.2.2.1, (((HA.out.drew.below hb1).below hb2)).c8.2.2.2.2.2.1, (((HA.out.drew.below hb1).below hb2)).c8.2.2.2.2.2.2.1, (((HA.out.drew.below hb1).below hb2)).c8.2.2.2.2.2.2.2, (((HB.out.drew.below hb1).below hb2)).c8.1, (((HB.out.drew.below hb1).below hb2)).c8.2.1, (((HB.out.drew.below hb1).below hb2)).c8.2.2.1, (((HB.out.drew.below hb1).below hb2)).c8.2.2.2.1, (((HB.out.drew.below hb1).below hb2)).c8.2.2.2.2.1, (((HB.out.drew.below hb1).below hb2)).c8.2.2.2.2.2.1, (((HB.out.drew.below hb1).below hb2)).c8.2.2.2.2.2.2.1, (((HB.out.drew.below hb1).below hb2)).c8.2.2.2.2.2.2.2⟩ | exact ⟨((HA.out.drew.below hb1)).c8.1, ((HA.out.drew.below hb1)).c8.2.1, ((HA.out.drew.below hb1)).c8.2.2.1, ((HA.out.drew.below hb1)).c8.2.2.2.1, ((HA.out.drew.below hb1)).c8.2.2.2.2.1, ((HA.out.drew.below hb1)).c8.2.2.2.2.2.1, ((HA.out.drew.below hb1)).c8.2.2.2.2.2.2.1, ((HA.out.drew.below hb1)).c8.2.2.2.2.2.2.2, ((HB.out.drew.below hb1)).c8.1, ((HB.out.drew.below hb1)).c8.2.1, ((HB.out.drew.below hb1)).c8.2.2.1, ((HB.out.drew.below hb1)).c8.2.2.2.1, ((HB.out.drew.below hb1)).c8.2.2.2.2.1, ((HB.out.drew.below hb1)).c8.2.2.2.2.2.1, ((HB.out.drew.below hb1)).c8.2.2.2.2.2.2.1, ((HB.out.drew.below hb1)).c8.2.2.2.2.2.2.2⟩ | exact ⟨(HA.out.drew).c8.1, (HA.out.drew).c8.2.1, (HA.out.drew).c8.2.2.1, (HA.out.drew).c8.2.2.2.1, (HA.out.drew).c8.2.2.2.2.1, (HA.out.drew).c8.2.2.2.2.2.1, (HA.out.drew).c8.2.2.2.2.2.2.1, (HA.out.drew).c8.2.2.2.2.2.2.2, (HB.out.drew).c8.1, (HB.out.drew).c8.2.1, (HB.out.drew).c8.2.2.1, (HB.out.drew).c8.2.2.2.1, (HB.out.drew).c8.2.2.2.2.1, (HB.out.drew).c8.2.2.2.2.2.1, (HB.out.drew).c8.2.2.2.2.2.2.1, (HB.out.drew).c8.2.2.2.2.2.2.2⟩ | go_keep)
      ((first
        | (go_at_call 60; with_reducible refine (HK1.out _).mono ?_; rintro e u1 ⟨rfl, hb1⟩)
        | (go_at_call 60; with_reducible refine (HK2.out _).mono ?_; rintro e u2 ⟨rfl, hb2⟩)
        ))
    go_wp2
    go_ret
    exact ⟨by rw [HB2.out]; rfl, ((G.out.drew.trans (hb1.mono G.out.drew.size)).trans (hb2.mono (G.out.drew.trans (hb1.mono G.out.drew.size)).size))⟩
  by_cases pd : Yd = Zd
  rotate_left
  · skip
    have ba : (Ya == Za) = true := by simp [pa]
    have bb : (Yb == Zb) = true := by simp [pb]
    have bc : (Yc == Zc) = true := by simp [pc]
    have bd : (Yd == Zd) = false := by simp [pd]
    have HB2 := Lib.hid (show tnSm a b c d s t u v a' b' c' d' s' t' u' v' = false by rw [HS.out, ba, bb, bc, bd]; rfl)
    go_enter Try.func28, Try.ntmps28
    go_upto_region 1 with fail
    go_region_held3 (fun w' => w'.cell? ⟨w.heap.size, 0, none⟩ = some (.float .f32 a) ∧ w'.cell? ⟨w.heap.size, 1, none⟩ = some (.float .f32 b) ∧ w'.cell? ⟨w.heap.size, 2, none⟩ = some (.float .f32 c) ∧ w'.cell? ⟨w.heap.size, 3, none⟩ = some (.float .f32 d) ∧ w'.cell? ⟨w.heap.size, 4, none⟩ = some (.float .f32 s) ∧ w'.cell? ⟨w.heap.size, 5, none⟩ = some (.float .f32 t) ∧ w'.cell? ⟨w.heap.size, 6, none⟩ = some (.float .f32 u) ∧ w'.cell? ⟨w.heap.size, 7, none⟩ = some (.float .f32 v) ∧ w'.cell? ⟨w.heap.size + 1, 0, none⟩ = some (.float .f32 a') ∧ w'.cell? ⟨w.heap.size + 1, 1, none⟩ = some (.float .f32 b') ∧ w'.cell? ⟨w.heap.size + 1, 2, none⟩ = some (.float .f32 c') ∧ w'.cell? ⟨w.heap.size + 1, 3, none⟩ = some (.float .f32 d') ∧ w'.cell? ⟨w.heap.size + 1, 4, none⟩ = some (.float .f32 s') ∧ w'.cell? ⟨w.heap.size + 1, 5, none⟩ = some (.float .f32 t') ∧ w'.cell? ⟨w.heap.size + 1, 6, none⟩ = some (.float .f32 u') ∧ w'.cell? ⟨w.heap.size + 1, 7, none⟩ = some (.float .f32 v')) (first | exact ⟨(((HA.out.drew.below hb1).below hb2)).c8.1, (((HA.out.drew.below hb1).below hb2)).c8.2.1, (((HA.out.drew.below hb1).below hb2)).c8.2.2.1, (((HA.out.drew.below hb1).below hb2)).c8.2.2.2.1, (((HA.out.drew.below hb1).below hb2)).c8.2.2.2.2.1, (((HA.out.drew.below hb1).below hb2)).c8.2.2.2.2.2.1, (((HA.out.drew.below hb1).below hb2)).c8.2.2.2.2.2.2.1, (((HA.out.drew.below hb1).below hb2)).c8.2.2.2.2.2.2.2, (((HB.out.drew.below hb1).below hb2)).c8.1, (((HB.out.drew.below hb1).below hb2)).c8.2.1, (((HB.out.drew.below hb1).below hb2)).c8.2.2.1, (((HB.out.drew.below hb1).below hb2)).c8.2.2.2.1, (((HB.out.drew.below hb1).below hb2)).c8.2.2.2.2.1, (((HB.out.drew.below hb1).below hb2)).c8.2.2.2.2.2.1, (((HB.out.drew.below hb1).below hb2)).c8.2.2.2.2.2.2.1, (((HB.out.drew.below hb1).below hb2)).c8.2.2.2.2.2.2.2⟩ | exact ⟨((HA.out.drew.below hb1)).c8.1, ((HA.out.drew.below hb1)).c8.2.1, ((HA.out.drew.below hb1)).c8.2.2.1, ((HA.out.drew.below hb1)).c8.2.2.2.1, ((HA.out.drew.below hb1)).c8.2.2.2.2.1, ((HA.out.drew.below hb1)).c8.2.2.2.2.2.1, ((HA.out.drew.below hb1)).c8.2.2.2.2.2.2.1, ((HA.out.drew.below hb1)).c8.2.2.2.2.2.2.2, ((HB.out.drew.below hb1)).c8.1, ((HB.out.drew.below hb1)).c8.2.1, ((HB.out.drew.below hb1)).c8.2.2.1, ((HB.out.drew.below hb1)).c8.2.2.2.1, ((HB.out.drew.below hb1)).c8.2.2.2.2.1, ((HB.out.drew.below hb1)).c8.2.2.2.2.2.1, ((HB.out.drew.below hb1)).c8.2.2.2.2.2.2.1, ((HB.out.drew.below hb1)).c8.2.2.2.2.2.2.2⟩ | exact ⟨(HA.out.drew).c8.1, (HA.out.drew).c8.2.1, (HA.out.drew).c8.2.2.1, (HA.out.drew).c8.2.2.2.1, (HA.out.drew).c8.2.2.2.2.1, (HA.out.drew).c8.2.2.2.2.2.1, (HA.out.drew).c8.2.2.2.2.2.2.1, (HA.out.drew).c8.2.2.2.2.2.2.2, (HB.out.drew).c8.1, (HB.out.drew).c8.2.1, (HB.out.drew).c8.2.2.1, (HB.out.drew).c8.2.2.2.1, (HB.out.drew).c8.2.2.2.2.1, (HB.out.drew).c8.2.2.2.2.2.1, (HB.out.drew).c8.2.2.2.2.2.2.1, (HB.out.drew).c8.2.2.2.2.2.2.2⟩ | go_keep)
      ((first
        | (go_at_call 60; with_reducible refine (HK1.out _).mono ?_; rintro e u1 ⟨rfl, hb1⟩)
        | (go_at_call 60; with_reducible refine (HK2.out _).mono ?_; rintro e u2 ⟨rfl, hb2⟩)
        ))
    go_wp2
    go_ret
    exact ⟨by rw [HB2.out]; rfl, ((G.out.drew.trans (hb1.mono G.out.drew.size)).trans (hb2.mono (G.out.drew.trans (hb1.mono G.out.drew.size)).size))⟩
  by_cases ps : Ys = Zs
  rotate_left
  · skip
    have ba : (Ya == Za) = true := by simp [pa]
    have bb : (Yb == Zb) = true := by simp [pb]
    have bc : (Yc == Zc) = true := by simp [pc]
    have bd : (Yd == Zd) = true := by simp [pd]
    have bs : (Ys == Zs) = false := by simp [ps]
    have HB2 := Lib.hid (show tnSm a b c d s t u v a' b' c' d' s' t' u' v' = false by rw [HS.out, ba, bb, bc, bd, bs]; rfl)
    go_enter Try.func28, Try.ntmps28
    go_upto_region 1 with fail
    go_region_held3 (fun w' => w'.cell? ⟨w.heap.size, 0, none⟩ = some (.float .f32 a) ∧ w'.cell? ⟨w.heap.size, 1, none⟩ = some (.float .f32 b) ∧ w'.cell? ⟨w.heap.size, 2, none⟩ = some (.float .f32 c) ∧ w'.cell? ⟨w.heap.size, 3, none⟩ = some (.float .f32 d) ∧ w'.cell? ⟨w.heap.size, 4, none⟩ = some (.float .f32 s) ∧ w'.cell? ⟨w.heap.size, 5, none⟩ = some (.float .f32 t) ∧ w'.cell? ⟨w.heap.size, 6, none⟩ = some (.float .f32 u) ∧ w'.cell? ⟨w.heap.size, 7, none⟩ = some (.float .f32 v) ∧ w'.cell? ⟨w.heap.size + 1, 0, none⟩ = some (.float .f32 a') ∧ w'.cell? ⟨w.heap.size + 1, 1, none⟩ = some (.float .f32 b') ∧ w'.cell? ⟨w.heap.size + 1, 2, none⟩ = some (.float .f32 c') ∧ w'.cell? ⟨w.heap.size + 1, 3, none⟩ = some (.float .f32 d') ∧ w'.cell? ⟨w.heap.size + 1, 4, none⟩ = some (.float .f32 s') ∧ w'.cell? ⟨w.heap.size + 1, 5, none⟩ = some (.float .f32 t') ∧ w'.cell? ⟨w.heap.size + 1, 6, none⟩ = some (.float .f32 u') ∧ w'.cell? ⟨w.heap.size + 1, 7, none⟩ = some (.float .f32 v')) (first | exact ⟨(((HA.out.drew.below hb1).below hb2)).c8.1, (((HA.out.drew.below hb1).below hb2)).c8.2.1, (((HA.out.drew.below hb1).below hb2)).c8.2.2.1, (((HA.out.drew.below hb1).below hb2)).c8.2.2.2.1, (((HA.out.drew.below hb1).below hb2)).c8.2.2.2.2.1, (((HA.out.drew.below hb1).below hb2)).c8.2.2.2.2.2.1, (((HA.out.drew.below hb1).below hb2)).c8.2.2.2.2.2.2.1, (((HA.out.drew.below hb1).below hb2)).c8.2.2.2.2.2.2.2, (((HB.out.drew.below hb1).below hb2)).c8.1, (((HB.out.drew.below hb1).below hb2)).c8.2.1, (((HB.out.drew.below hb1).below hb2)).c8.2.2.1, (((HB.out.drew.below hb1).below hb2)).c8.2.2.2.1, (((HB.out.drew.below hb1).below hb2)).c8.2.2.2.2.1, (((HB.out.drew.below hb1).below hb2)).c8.2.2.2.2.2.1, (((HB.out.drew.below hb1).below hb2)).c8.2.2.2.2.2.2.1, (((HB.out.drew.below hb1).below hb2)).c8.2.2.2.2.2.2.2⟩ | exact ⟨((HA.out.drew.below hb1)).c8.1, ((HA.out.drew.below hb1)).c8.2.1, ((HA.out.drew.below hb1)).c8.2.2.1, ((HA.out.drew.below hb1)).c8.2.2.2.1, ((HA.out.drew.below hb1)).c8.2.2.2.2.1, ((HA.out.drew.below hb1)).c8.2.2.2.2.2.1, ((HA.out.drew.below hb1)).c8.2.2.2.2.2.2.1, ((HA.out.drew.below hb1)).c8.2.2.2.2.2.2.2, ((HB.out.drew.below hb1)).c8.1, ((HB.out.drew.below hb1)).c8.2.1, ((HB.out.drew.below hb1)).c8.2.2.1, ((HB.out.drew.below hb1)).c8.2.2.2.1, ((HB.out.drew.below hb1)).c8.2.2.2.2.1, ((HB.out.drew.below hb1)).c8.2.2.2.2.2.1, ((HB.out.drew.below hb1)).c8.2.2.2.2.2.2.1, ((HB.out.drew.below hb1)).c8.2.2.2.2.2.2.2⟩ | exact ⟨(HA.out.drew).c8.1, (HA.out.drew).c8.2.1, (HA.out.drew).c8.2.2.1, (HA.out.drew).c8.2.2.2.1, (HA.out.drew).c8.2.2.2.2.1, (HA.out.drew).c8.2.2.2.2.2.1, (HA.out.drew).c8.2.2.2.2.2.2.1, (HA.out.drew).c8.2.2.2.2.2.2.2, (HB.out.drew).c8.1, (HB.out.drew).c8.2.1, (HB.out.drew).c8.2.2.1, (HB.out.drew).c8.2.2.2.1, (HB.out.drew).c8.2.2.2.2.1, (HB.out.drew).c8.2.2.2.2.2.1, (HB.out.drew).c8.2.2.2.2.2.2.1, (HB.out.drew).c8.2.2.2.2.2.2.2⟩ | go_keep)
      ((first
        | (go_at_call 60; with_reducible refine (HK1.out _).mono ?_; rintro e u1 ⟨rfl, hb1⟩)
        | (go_at_call 60; with_reducible refine (HK2.out _).mono ?_; rintro e u2 ⟨rfl, hb2⟩)
        ))
    go_wp2
    go_ret
    exact ⟨by rw [HB2.out]; rfl, ((G.out.drew.trans (hb1.mono G.out.drew.size)).trans (hb2.mono (G.out.drew.trans (hb1.mono G.out.drew.size)).size))⟩
  by_cases pt : Yt = Zt
  rotate_left
  · skip
    have ba : (Ya == Za) = true := by simp [pa]
    have bb : (Yb == Zb) = true := by simp [pb]
    have bc : (Yc == Zc) = true := by simp [pc]
    have bd : (Yd == Zd) = true := by simp [pd]
    have bs : (Ys == Zs) = true := by simp [ps]
    have bt : (Yt == Zt) = false := by simp [pt]
    have HB2 := Lib.hid (show tnSm a b c d s t u v a' b' c' d' s' t' u' v' = false by rw [HS.out, ba, bb, bc, bd, bs, bt]; rfl)
    go_enter Try.func28, Try.ntmps28
    go_upto_region 1 with fail
    go_region_held3 (fun w' => w'.cell? ⟨w.heap.size, 0, none⟩ = some (.float .f32 a) ∧ w'.cell? ⟨w.heap.size, 1, none⟩ = some (.float .f32 b) ∧ w'.cell? ⟨w.heap.size, 2, none⟩ = some (.float .f32 c) ∧ w'.cell? ⟨w.heap.size, 3, none⟩ = some (.float .f32 d) ∧ w'.cell? ⟨w.heap.size, 4, none⟩ = some (.float .f32 s) ∧ w'.cell? ⟨w.heap.size, 5, none⟩ = some (.float .f32 t) ∧ w'.cell? ⟨w.heap.size, 6, none⟩ = some (.float .f32 u) ∧ w'.cell? ⟨w.heap.size, 7, none⟩ = some (.float .f32 v) ∧ w'.cell? ⟨w.heap.size + 1, 0, none⟩ = some (.float .f32 a') ∧ w'.cell? ⟨w.heap.size + 1, 1, none⟩ = some (.float .f32 b') ∧ w'.cell? ⟨w.heap.size + 1, 2, none⟩ = some (.float .f32 c') ∧ w'.cell? ⟨w.heap.size + 1, 3, none⟩ = some (.float .f32 d') ∧ w'.cell? ⟨w.heap.size + 1, 4, none⟩ = some (.float .f32 s') ∧ w'.cell? ⟨w.heap.size + 1, 5, none⟩ = some (.float .f32 t') ∧ w'.cell? ⟨w.heap.size + 1, 6, none⟩ = some (.float .f32 u') ∧ w'.cell? ⟨w.heap.size + 1, 7, none⟩ = some (.float .f32 v')) (first | exact ⟨(((HA.out.drew.below hb1).below hb2)).c8.1, (((HA.out.drew.below hb1).below hb2)).c8.2.1, (((HA.out.drew.below hb1).below hb2)).c8.2.2.1, (((HA.out.drew.below hb1).below hb2)).c8.2.2.2.1, (((HA.out.drew.below hb1).below hb2)).c8.2.2.2.2.1, (((HA.out.drew.below hb1).below hb2)).c8.2.2.2.2.2.1, (((HA.out.drew.below hb1).below hb2)).c8.2.2.2.2.2.2.1, (((HA.out.drew.below hb1).below hb2)).c8.2.2.2.2.2.2.2, (((HB.out.drew.below hb1).below hb2)).c8.1, (((HB.out.drew.below hb1).below hb2)).c8.2.1, (((HB.out.drew.below hb1).below hb2)).c8.2.2.1, (((HB.out.drew.below hb1).below hb2)).c8.2.2.2.1, (((HB.out.drew.below hb1).below hb2)).c8.2.2.2.2.1, (((HB.out.drew.below hb1).below hb2)).c8.2.2.2.2.2.1, (((HB.out.drew.below hb1).below hb2)).c8.2.2.2.2.2.2.1, (((HB.out.drew.below hb1).below hb2)).c8.2.2.2.2.2.2.2⟩ | exact ⟨((HA.out.drew.below hb1)).c8.1, ((HA.out.drew.below hb1)).c8.2.1, ((HA.out.drew.below hb1)).c8.2.2.1, ((HA.out.drew.below hb1)).c8.2.2.2.1, ((HA.out.drew.below hb1)).c8.2.2.2.2.1, ((HA.out.drew.below hb1)).c8.2.2.2.2.2.1, ((HA.out.drew.below hb1)).c8.2.2.2.2.2.2.1, ((HA.out.drew.below hb1)).c8.2.2.2.2.2.2.2, ((HB.out.drew.below hb1)).c8.1, ((HB.out.drew.below hb1)).c8.2.1, ((HB.out.drew.below hb1)).c8.2.2.1, ((HB.out.drew.below hb1)).c8.2.2.2.1, ((HB.out.drew.below hb1)).c8.2.2.2.2.1, ((HB.out.drew.below hb1)).c8.2.2.2.2.2.1, ((HB.out.drew.below hb1)).c8.2.2.2.2.2.2.1, ((HB.out.drew.below hb1)).c8.2.2.2.2.2.2.2⟩ | exact ⟨(HA.out.drew).c8.1, (HA.out.drew).c8.2.1, (HA.out.drew).c8.2.2.1, (HA.out.drew).c8.2.2.2.1, (HA.out.drew).c8.2.2.2.2.1, (HA.out.drew).c8.2.2.2.2.2.1, (HA.out.drew).c8.2.2.2.2.2.2.1, (HA.out.drew).c8.2.2.2.2.2.2.2, (HB.out.drew).c8.1, (HB.out.drew).c8.2.1, (HB.out.drew).c8.2.2.1, (HB.out.drew).c8.2.2.2.1, (HB.out.drew).c8.2.2.2.2.1, (HB.out.drew).c8.2.2.2.2.2.1, (HB.out.drew).c8.2.2.2.2.2.2.1, (HB.out.drew).c8.2.2.2.2.2.2.2⟩ | go_keep)
      ((first
        | (go_at_call 60; with_reducible refine (HK1.out _).mono ?_; rintro e u1 ⟨rfl, hb1⟩)
        | (go_at_call 60; with_reducible refine (HK2.out _).mono ?_; rintro e u2 ⟨rfl, hb2⟩)
        ))
    go_wp2
    go_ret
    exact ⟨by rw [HB2.out]; rfl, ((G.out.drew.trans (hb1.mono G.out.drew.size)).trans (hb2.mono (G.out.drew.trans (hb1.mono G.out.drew.size)).size))⟩
  by_cases pu : Yu = Zu
  rotate_left
  · skip
    have ba : (Ya == Za) = true := by simp [pa]
    have bb : (Yb == Zb) = true := by simp [pb]
    have bc : (Yc == Zc) = true := by simp [pc]
    have bd : (Yd == Zd) = true := by simp [pd]
    have bs : (Ys == Zs) = true := by simp [ps]
    have bt : (Yt == Zt) = true := by simp [pt]
    have bu : (Yu == Zu) = false := by simp [pu]
    have HB2 := Lib.hid (show tnSm a b c d s t u v a' b' c' d' s' t' u' v' = false by rw [HS.out, ba, bb, bc, bd, bs, bt, bu]; rfl)
    go_enter Try.func28, Try.ntmps28
    go_upto_region 1 with fail
    go_region_held3 (fun w' => w'.cell? ⟨w.heap.size, 0, none⟩ = some (.float .f32 a) ∧ w'.cell? ⟨w.heap.size, 1, none⟩ = some (.float .f32 b) ∧ w'.cell? ⟨w.heap.size, 2, none⟩ = some (.float .f32 c) ∧ w'.cell? ⟨w.heap.size, 3, none⟩ = some (.float .f32 d) ∧ w'.cell? ⟨w.heap.size, 4, none⟩ = some (.float .f32 s) ∧ w'.cell? ⟨w.heap.size, 5, none⟩ = some (.float .f32 t) ∧ w'.cell? ⟨w.heap.size, 6, none⟩ = some (.float .f32 u) ∧ w'.cell? ⟨w.heap.size, 7, none⟩ = some (.float .f32 v) ∧ w'.cell? ⟨w.heap.size + 1, 0, none⟩ = some (.float .f32 a') ∧ w'.cell? ⟨w.heap.size + 1, 1, none⟩ = some (.float .f32 b') ∧ w'.cell? ⟨w.heap.size + 1, 2, none⟩ = some (.float .f32 c') ∧ w'.cell? ⟨w.heap.size + 1, 3, none⟩ = some (.float .f32 d') ∧ w'.cell? ⟨w.heap.size + 1, 4, none⟩ = some (.float .f32 s') ∧ w'.cell? ⟨w.heap.size + 1, 5, none⟩ = some (.float .f32 t') ∧ w'.cell? ⟨w.heap.size + 1, 6, none⟩ = some (.float .f32 u') ∧ w'.cell? ⟨w.heap.size + 1, 7, none⟩ = some (.float .f32 v')) (first | exact ⟨(((HA.out.drew.below hb1).below hb2)).c8.1, (((HA.out.drew.below hb1).below hb2)).c8.2.1, (((HA.out.drew.below hb1).below hb2)).c8.2.2.1, (((HA.out.drew.below hb1).below hb2)).c8.2.2.2.1, (((HA.out.drew.below hb1).below hb2)).c8.2.2.2.2.1, (((HA.out.drew.below hb1).below hb2)).c8.2.2.2.2.2.1, (((HA.out.drew.below hb1).below hb2)).c8.2.2.2.2.2.2.1, (((HA.out.drew.below hb1).below hb2)).c8.2.2.2.2.2.2.2, (((HB.out.drew.below hb1).below hb2)).c8.1, (((HB.out.drew.below hb1).below hb2)).c8.2.1, (((HB.out.drew.below hb1).below hb2)).c8.2.2.1, (((HB.out.drew.below hb1).below hb2)).c8.2.2.2.1, (((HB.out.drew.below hb1).below hb2)).c8.2.2.2.2.1, (((HB.out.drew.below hb1).below hb2)).c8.2.2.2.2.2.1, (((HB.out.drew.below hb1).below hb2)).c8.2.2.2.2.2.2.1, (((HB.out.drew.below hb1).below hb2)).c8.2.2.2.2.2.2.2⟩ | exact ⟨((HA.out.drew.below hb1)).c8.1, ((HA.out.drew.below hb1)).c8.2.1, ((HA.out.drew.below hb1)).c8.2.2.1, ((HA.out.drew.below hb1)).c8.2.2.2.1, ((HA.out.drew.below hb1)).c8.2.2.2.2.1, ((HA.out.drew.below hb1)).c8.2.2.2.2.2.1, ((HA.out.drew.below hb1)).c8.2.2.2.2.2.2.1, ((HA.out.drew.below hb1)).c8.2.2.2.2.2.2.2, ((HB.out.drew.below hb1)).c8.1, ((HB.out.drew.below hb1)).c8.2.1, ((HB.out.drew.below hb1)).c8.2.2.1, ((HB.out.drew.below hb1)).c8.2.2.2.1, ((HB.out.drew.below hb1)).c8.2.2.2.2.1, ((HB.out.drew.below hb1)).c8.2.2.2.2.2.1, ((HB.out.drew.below hb1)).c8.2.2.2.2.2.2.1, ((HB.out.drew.below hb1)).c8.2.2.2.2.2.2.2⟩ | exact ⟨(HA.out.drew).c8.1, (HA.out.drew).c8.2.1, (HA.out.drew).c8.2.2.1, (HA.out.drew).c8.2.2.2.1, (HA.out.drew).c8.2.2.2.2.1, (HA.out.drew).c8.2.2.2.2.2.1, (HA.out.drew).c8.2.2.2.2.2.2.1, (HA.out.drew).c8.2.2.2.2.2.2.2, (HB.out.drew).c8.1, (HB.out.drew).c8.2.1, (HB.out.drew).c8.2.2.1, (HB.out.drew).c8.2.2.2.1, (HB.out.drew).c8.2.2.2.2.1, (HB.out.drew).c8.2.2.2.2.2.1, (HB.out.drew).c8.2.2.2.2.2.2.1, (HB.out.drew).c8.2.2.2.2.2.2.2⟩ | go_keep)
      ((first
        | (go_at_call 60; with_reducible refine (HK1.out _).mono ?_; rintro e u1 ⟨rfl, hb1⟩)
        | (go_at_call 60; with_reducible refine (HK2.out _).mono ?_; rintro e u2 ⟨rfl, hb2⟩)
        ))
    go_wp2
    go_ret
    exact ⟨by rw [HB2.out]; rfl, ((G.out.drew.trans (hb1.mono G.out.drew.size)).trans (hb2.mono (G.out.drew.trans (hb1.mono G.out.drew.size)).size))⟩
  by_cases pv : Yv = Zv
  rotate_left
  · skip
    have ba : (Ya == Za) = true := by simp [pa]
    have bb : (Yb == Zb) = true := by simp [pb]
    have bc : (Yc == Zc) = true := by simp [pc]
    have bd : (Yd == Zd) = true := by simp [pd]
    have bs : (Ys == Zs) = true := by simp [ps]
    have bt : (Yt == Zt) = true := by simp [pt]
    have bu : (Yu == Zu) = true := by simp [pu]
    have bv : (Yv == Zv) = false := by simp [pv]
    have HB2 := Lib.hid (show tnSm a b c d s t u v a' b' c' d' s' t' u' v' = false by rw [HS.out, ba, bb, bc, bd, bs, bt, bu, bv]; rfl)
    go_enter Try.func28, Try.ntmps28
    go_upto_region 1 with fail
    go_region_held3 (fun w' => w'.cell? ⟨w.heap.size, 0, none⟩ = some (.float .f32 a) ∧ w'.cell? ⟨w.heap.size, 1, none⟩ = some (.float .f32 b) ∧ w'.cell? ⟨w.heap.size, 2, none⟩ = some (.float .f32 c) ∧ w'.cell? ⟨w.heap.size, 3, none⟩ = some (.float .f32 d) ∧ w'.cell? ⟨w.heap.size, 4, none⟩ = some (.float .f32 s) ∧ w'.cell? ⟨w.heap.size, 5, none⟩ = some (.float .f32 t) ∧ w'.cell? ⟨w.heap.size, 6, none⟩ = some (.float .f32 u) ∧ w'.cell? ⟨w.heap.size, 7, none⟩ = some (.float .f32 v) ∧ w'.cell? ⟨w.heap.size + 1, 0, none⟩ = some (.float .f32 a') ∧ w'.cell? ⟨w.heap.size + 1, 1, none⟩ = some (.float .f32 b') ∧ w'.cell? ⟨w.heap.size + 1, 2, none⟩ = some (.float .f32 c') ∧ w'.cell? ⟨w.heap.size + 1, 3, none⟩ = some (.float .f32 d') ∧ w'.cell? ⟨w.heap.size + 1, 4, none⟩ = some (.float .f32 s') ∧ w'.cell? ⟨w.heap.size + 1, 5, none⟩ = some (.float .f32 t') ∧ w'.cell? ⟨w.heap.size + 1, 6, none⟩ = some (.float .f32 u') ∧ w'.cell? ⟨w.heap.size + 1, 7, none⟩ = some (.float .f32 v')) (first | exact ⟨(((HA.out.drew.below hb1).below hb2)).c8.1, (((HA.out.drew.below hb1).below hb2)).c8.2.1, (((HA.out.drew.below hb1).below hb2)).c8.2.2.1, (((HA.out.drew.below hb1).below hb2)).c8.2.2.2.1, (((HA.out.drew.below hb1).below hb2)).c8.2.2.2.2.1, (((HA.out.drew.below hb1).below hb2)).c8.2.2.2.2.2.1, (((HA.out.drew.below hb1).below hb2)).c8.2.2.2.2.2.2.1, (((HA.out.drew.below hb1).below hb2)).c8.2.2.2.2.2.2.2, (((HB.out.drew.below hb1).below hb2)).c8.1, (((HB.out.drew.below hb1).below hb2)).c8.2.1, (((HB.out.drew.below hb1).below hb2)).c8.2.2.1, (((HB.out.drew.below hb1).below hb2)).c8.2.2.2.1, (((HB.out.drew.below hb1).below hb2)).c8.2.2.2.2.1, (((HB.out.drew.below hb1).below hb2)).c8.2.2.2.2.2.1, (((HB.out.drew.below hb1).below hb2)).c8.2.2.2.2.2.2.1, (((HB.out.drew.below hb1).below hb2)).c8.2.2.2.2.2.2.2⟩ | exact ⟨((HA.out.drew.below hb1)).c8.1, ((HA.out.drew.below hb1)).c8.2.1, ((HA.out.drew.below hb1)).c8.2.2.1, ((HA.out.drew.below hb1)).c8.2.2.2.1, ((HA.out.drew.below hb1)).c8.2.2.2.2.1, ((HA.out.drew.below hb1)).c8.2.2.2.2.2.1, ((HA.out.drew.below hb1)).c8.2.2.2.2.2.2.1, ((HA.out.drew.below hb1)).c8.2.2.2.2.2.2.2, ((HB.out.drew.below hb1)).c8.1, ((HB.out.drew.below hb1)).c8.2.1, ((HB.out.drew.below hb1)).c8.2.2.1, ((HB.out.drew.below hb1)).c8.2.2.2.1, ((HB.out.drew.below hb1)).c8.2.2.2.2.1, ((HB.out.drew.below hb1)).c8.2.2.2.2.2.1, ((HB.out.drew.below hb1)).c8.2.2.2.2.2.2.1, ((HB.out.drew.below hb1)).c8.2.2.2.2.2.2.2⟩ | exact ⟨(HA.out.drew).c8.1, (HA.out.drew).c8.2.1, (HA.out.drew).c8.2.2.1, (HA.out.drew).c8.2.2.2.1, (HA.out.drew).c8.2.2.2.2.1, (HA.out.drew).c8.2.2.2.2.2.1, (HA.out.drew).c8.2.2.2.2.2.2.1, (HA.out.drew).c8.2.2.2.2.2.2.2, (HB.out.drew).c8.1, (HB.out.drew).c8.2.1, (HB.out.drew).c8.2.2.1, (HB.out.drew).c8.2.2.2.1, (HB.out.drew).c8.2.2.2.2.1, (HB.out.drew).c8.2.2.2.2.2.1, (HB.out.drew).c8.2.2.2.2.2.2.1, (HB.out.drew).c8.2.2.2.2.2.2.2⟩ | go_keep)
      ((first
        | (go_at_call 60; with_reducible refine (HK1.out _).mono ?_; rintro e u1 ⟨rfl, hb1⟩)
        | (go_at_call 60; with_reducible refine (HK2.out _).mono ?_; rintro e u2 ⟨rfl, hb2⟩)
        ))
    go_wp2
    go_ret
    exact ⟨by rw [HB2.out]; rfl, ((G.out.drew.trans (hb1.mono G.out.drew.size)).trans (hb2.mono (G.out.drew.trans (hb1.mono G.out.drew.size)).size))⟩
  have ba : (Ya == Za) = true := by simp [pa]
  have bb : (Yb == Zb) = true := by simp [pb]
  have bc : (Yc == Zc) = true := by simp [pc]
  have bd : (Yd == Zd) = true := by simp [pd]
  have bs : (Ys == Zs) = true := by simp [ps]
  have bt : (Yt == Zt) = true := by simp [pt]
  have bu : (Yu == Zu) = true := by simp [pu]
  have bv : (Yv == Zv) = true := by simp [pv]
  have HB2 := Lib.hid (show tnSm a b c d s t u v a' b' c' d' s' t' u' v' = true by rw [HS.out, ba, bb, bc, bd, bs, bt, bu, bv]; rfl)
  go_enter Try.func28, Try.ntmps28
  go_upto_region 1 with fail
  go_region_held3 (fun w' => w'.cell? ⟨w.heap.size, 0, none⟩ = some (.float .f32 a) ∧ w'.cell? ⟨w.heap.size, 1, none⟩ = some (.float .f32 b) ∧ w'.cell? ⟨w.heap.size, 2, none⟩ = some (.float .f32 c) ∧ w'.cell? ⟨w.heap.size, 3, none⟩ = some (.float .f32 d) ∧ w'.cell? ⟨w.heap.size, 4, none⟩ = some (.float .f32 s) ∧ w'.cell? ⟨w.heap.size, 5, none⟩ = some (.float .f32 t) ∧ w'.cell? ⟨w.heap.size, 6, none⟩ = some (.float .f32 u) ∧ w'.cell? ⟨w.heap.size, 7, none⟩ = some (.float .f32 v) ∧ w'.cell? ⟨w.heap.size + 1, 0, none⟩ = some (.float .f32 a') ∧ w'.cell? ⟨w.heap.size + 1, 1, none⟩ = some (.float .f32 b') ∧ w'.cell? ⟨w.heap.size + 1, 2, none⟩ = some (.float .f32 c') ∧ w'.cell? ⟨w.heap.size + 1, 3, none⟩ = some (.float .f32 d') ∧ w'.cell? ⟨w.heap.size + 1, 4, none⟩ = some (.float .f32 s') ∧ w'.cell? ⟨w.heap.size + 1, 5, none⟩ = some (.float .f32 t') ∧ w'.cell? ⟨w.heap.size + 1, 6, none⟩ = some (.float .f32 u') ∧ w'.cell? ⟨w.heap.size + 1, 7, none⟩ = some (.float .f32 v')) (first | exact ⟨(((HA.out.drew.below hb1).below hb2)).c8.1, (((HA.out.drew.below hb1).below hb2)).c8.2.1, (((HA.out.drew.below hb1).below hb2)).c8.2.2.1, (((HA.out.drew.below hb1).below hb2)).c8.2.2.2.1, (((HA.out.drew.below hb1).below hb2)).c8.2.2.2.2.1, (((HA.out.drew.below hb1).below hb2)).c8.2.2.2.2.2.1, (((HA.out.drew.below hb1).below hb2)).c8.2.2.2.2.2.2.1, (((HA.out.drew.below hb1).below hb2)).c8.2.2.2.2.2.2.2, (((HB.out.drew.below hb1).below hb2)).c8.1, (((HB.out.drew.below hb1).below hb2)).c8.2.1, (((HB.out.drew.below hb1).below hb2)).c8.2.2.1, (((HB.out.drew.below hb1).below hb2)).c8.2.2.2.1, (((HB.out.drew.below hb1).below hb2)).c8.2.2.2.2.1, (((HB.out.drew.below hb1).below hb2)).c8.2.2.2.2.2.1, (((HB.out.drew.below hb1).below hb2)).c8.2.2.2.2.2.2.1, (((HB.out.drew.below hb1).below hb2)).c8.2.2.2.2.2.2.2⟩ | exact ⟨((HA.out.drew.below hb1)).c8.1, ((HA.out.drew.below hb1)).c8.2.1, ((HA.out.drew.below hb1)).c8.2.2.1, ((HA.out.drew.below hb1)).c8.2.2.2.1, ((HA.out.drew.below hb1)).c8.2.2.2.2.1, ((HA.out.drew.below hb1)).c8.2.2.2.2.2.1, ((HA.out.drew.below hb1)).c8.2.2.2.2.2.2.1, ((HA.out.drew.below hb1)).c8.2.2.2.2.2.2.2, ((HB.out.drew.below hb1)).c8.1, ((HB.out.drew.below hb1)).c8.2.1, ((HB.out.drew.below hb1)).c8.2.2.1, ((HB.out.drew.below hb1)).c8.2.2.2.1, ((HB.out.drew.below hb1)).c8.2.2.2.2.1, ((HB.out.drew.below hb1)).c8.2.2.2.2.2.1, ((HB.out.drew.below hb1)).c8.2.2.2.2.2.2.1, ((HB.out.drew.below hb1)).c8.2.2.2.2.2.2.2⟩ | exact ⟨(HA.out.drew).c8.1, (HA.out.drew).c8.2.1, (HA.out.drew).c8.2.2.1, (HA.out.drew).c8.2.2.2.1, (HA.out.drew).c8.2.2.2.2.1, (HA.out.drew).c8.2.2.2.2.2.1, (HA.out.drew).c8.2.2.2.2.2.2.1, (HA.out.drew).c8.2.2.2.2.2.2.2, (HB.out.drew).c8.1, (HB.out.drew).c8.2.1, (HB.out.drew).c8.2.2.1, (HB.out.drew).c8.2.2.2.1, (HB.out.drew).c8.2.2.2.2.1, (HB.out.drew).c8.2.2.2.2.2.1, (HB.out.drew).c8.2.2.2.2.2.2.1, (HB.out.drew).c8.2.2.2.2.2.2.2⟩ | go_keep)
    ((first
      | (go_at_call 60; with_reducible refine (HK1.out _).mono ?_; rintro e u1 ⟨rfl, hb1⟩)
      | (go_at_call 60; with_reducible refine (HK2.out _).mono ?_; rintro e u2 ⟨rfl, hb2⟩)
      ))
  go_wp2
  go_ret
  exact ⟨by rw [HB2.out]; rfl, ((G.out.drew.trans (hb1.mono G.out.drew.size)).trans (hb2.mono (G.out.drew.trans (hb1.mono G.out.drew.size)).size))⟩
end Go.Proofs.Ythohhiaeaefdcaa
