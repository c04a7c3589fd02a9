/-
  The same level, the same trend: by bits in the program, number by number in the model.
-/
import Derived.Test.YthohhiaeaefdcaaLvl
import Derived.Test.YthohhiaeaefdcaaBit
import Derived.Test.YthohhiaeaefdcaaDrg
import Derived.Deep.RegionHeld3
import Derived.Deep.DeepCutAuto
namespace Go.Proofs.Ythohhiaeaefdcaa
open Ieee Go.RowKit
set_option linter.unusedVariables false
/-- What BitsOf gives. -/
def bitC (args : Array Value) (v : Value) : Prop := ∃ x, args.getD 0 undef = .float .f32 x ∧ v = .int .i64 (bV x)
set_option maxHeartbeats 2000000 in
set_option maxRecDepth 100000 in
theorem lvBits_any (a b c d : Nat) (w : World) : Calls Try.prog 54 #[.agg #[.float .f32 a, .float .f32 b, .float .f32 c, .float .f32 d]] w fun e w' => e = .returned (.agg #[.int .i64 (bV a), .int .i64 (bV b), .int .i64 (bV c), .int .i64 (bV d)]) ∧ Below w.heap.size w w' := by
  have HRES := Lib.hid (show Try.f54.results = #[.cell 2 76] by kernel_rfl)
  have G := Lib.hid (((Below.refl w.heap.size w).alloc (Nat.le_refl _) (.cells #[.float .f32 a, .float .f32 b, .float .f32 c, .float .f32 d] 26)).alloc (by simp) (.cells #[.int .i64 0, .int .i64 0, .int .i64 0, .int .i64 0] 76))
  have HP := Lib.hid (show NumsIn ((w.alloc (.cells #[.float .f32 a, .float .f32 b, .float .f32 c, .float .f32 d] 26)).alloc (.cells #[.int .i64 0, .int .i64 0, .int .i64 0, .int .i64 0] 76)) w.heap.size [a, b, c, d] from (NumsIn.new w [a, b, c, d] 26).alloc (.cells #[.int .i64 0, .int .i64 0, .int .i64 0, .int .i64 0] 76))
  have r0 : ((w.alloc (.cells #[.float .f32 a, .float .f32 b, .float .f32 c, .float .f32 d] 26)).alloc (.cells #[.int .i64 0, .int .i64 0, .int .i64 0, .int .i64 0] 76)).cell? ⟨w.heap.size + 1, 0, none⟩ = some (.int .i64 0) := by rw [World.cell?_alloc_at _ _ _ _ (by simp)]; rfl
  have f0 : ((w.alloc (.cells #[.float .f32 a, .float .f32 b, .float .f32 c, .float .f32 d] 26)).alloc (.cells #[.int .i64 0, .int .i64 0, .int .i64 0, .int .i64 0] 76)).frozen? ⟨w.heap.size + 1, 0, none⟩ = false := World.frozen?_alloc_at _ _ _ _ (by simp)
  have r1 : ((w.alloc (.cells #[.float .f32 a, .float .f32 b, .float .f32 c, .float .f32 d] 26)).alloc (.cells #[.int .i64 0, .int .i64 0, .int .i64 0, .int .i64 0] 76)).cell? ⟨w.heap.size + 1, 1, none⟩ = some (.int .i64 0) := by rw [World.cell?_alloc_at _ _ _ _ (by simp)]; rfl
  have f1 : ((w.alloc (.cells #[.float .f32 a, .float .f32 b, .float .f32 c, .float .f32 d] 26)).alloc (.cells #[.int .i64 0, .int .i64 0, .int .i64 0, .int .i64 0] 76)).frozen? ⟨w.heap.size + 1, 1, none⟩ = false := World.frozen?_alloc_at _ _ _ _ (by simp)
  have r2 : ((w.alloc (.cells #[.float .f32 a, .float .f32 b, .float .f32 c, .float .f32 d] 26)).alloc (.cells #[.int .i64 0, .int .i64 0, .int .i64 0, .int .i64 0] 76)).cell? ⟨w.heap.size + 1, 2, none⟩ = some (.int .i64 0) := by rw [World.cell?_alloc_at _ _ _ _ (by simp)]; rfl
  have f2 : ((w.alloc (.cells #[.float .f32 a, .float .f32 b, .float .f32 c, .float .f32 d] 26)).alloc (.cells #[.int .i64 0, .int .i64 0, .int .i64 0, .int .i64 0] 76)).frozen? ⟨w.heap.size + 1, 2, none⟩ = false := World.frozen?_alloc_at _ _ _ _ (by simp)
  have r3 : ((w.alloc (.cells #[.float .f32 a, .float .f32 b, .float .f32 c, .float .f32 d] 26)).alloc (.cells #[.int .i64 0, .int .i64 0, .int .i64 0, .int .i64 0] 76)).cell? ⟨w.heap.size + 1, 3, none⟩ = some (.int .i64 0) := by rw [World.cell?_alloc_at _ _ _ _ (by simp)]; rfl
  have f3 : ((w.alloc (.cells #[.float .f32 a, .float .f32 b, .float .f32 c, .float .f32 d] 26)).alloc (.cells #[.int .i64 0, .int .i64 0, .int .i64 0, .int .i64 0] 76)).frozen? ⟨w.heap.size + 1, 3, none⟩ = false := World.frozen?_alloc_at _ _ _ _ (by simp)
  obtain ⟨Ya, hYa⟩ : ∃ y, bV a = y := ⟨_, rfl⟩
  obtain ⟨Yb, hYb⟩ : ∃ y, bV b = y := ⟨_, rfl⟩
  obtain ⟨Yc, hYc⟩ : ∃ y, bV c = y := ⟨_, rfl⟩
  obtain ⟨Yd, hYd⟩ : ∃ y, bV d = y := ⟨_, rfl⟩
  rw [hYa, hYb, hYc, hYd]
  go_enter Try.func54, Try.ntmps54
  go_upto_region 1 with fail
  generalize ((w.alloc (.cells #[.float .f32 a, .float .f32 b, .float .f32 c, .float .f32 d] 26)).alloc (.cells #[.int .i64 0, .int .i64 0, .int .i64 0, .int .i64 0] 76)) = wq at *
  obtain ⟨i0, i1, i2, i3⟩ := HP.out.c4
  refine wp_region_G (fun _ args v => bitC args v) (fun i => (#[.free, .bound, .bound, .free, .bound, .bound, .free, .bound, .bound, .free, .bound, .bound, .free, .put] : Array DK).getD i .free) [0, 1, 2, 3, 4, 5, 6, 7, 8, 9, 10, 11, 12, 13] (by kernel_rfl) (by kernel_rfl) ?_
  refine wpG_free rfl rfl (fun KK hKK W => ?_)
  go_simp
  refine ⟨by first | exact ⟨0, rfl⟩ | exact ⟨_, rfl⟩, hKK _ ?_⟩
  clear hKK KK
  refine wpG_bound rfl rfl (fun KK hKK n => ?_)
  go_simp
  refine ⟨by first | exact ⟨0, rfl⟩ | exact ⟨_, rfl⟩, hKK _ ?_⟩
  clear hKK KK
  refine wpG_bound rfl rfl (fun KK hKK n => ?_)
  go_simp
  refine ⟨⟨0, rfl⟩, (imBits_any _ _).mono ?_, ?_⟩
  · rintro e w' ⟨rfl, rfl⟩; exact ⟨_, rfl, ⟨0, rfl⟩, _, rfl, rfl⟩
  rintro val ⟨x, hx, rfl⟩
  have hx2 : Value.float .f32 a = Value.float .f32 x := hx
  injection hx2 with _ hx3
  rw [← hx3, hYa]
  clear hx hx3
  refine hKK _ ?_
  clear hKK KK
  refine wpG_free rfl rfl (fun KK hKK W => ?_)
  go_simp
  refine ⟨by first | exact ⟨0, rfl⟩ | exact ⟨_, rfl⟩, hKK _ ?_⟩
  clear hKK KK
  refine wpG_bound rfl rfl (fun KK hKK n => ?_)
  go_simp
  refine ⟨by first | exact ⟨0, rfl⟩ | exact ⟨_, rfl⟩, hKK _ ?_⟩
  clear hKK KK
  refine wpG_bound rfl rfl (fun KK hKK n => ?_)
  go_simp
  refine ⟨⟨0, rfl⟩, (imBits_any _ _).mono ?_, ?_⟩
  · rintro e w' ⟨rfl, rfl⟩; exact ⟨_, rfl, ⟨0, rfl⟩, _, rfl, rfl⟩
  rintro val ⟨x, hx, rfl⟩
  have hx2 : Value.float .f32 b = Value.float .f32 x := hx
  injection hx2 with _ hx3
  rw [← hx3, hYb]
  clear hx hx3
  refine hKK _ ?_
  clear hKK KK
  refine wpG_free rfl rfl (fun KK hKK W => ?_)
  go_simp
  refine ⟨by first | exact ⟨0, rfl⟩ | exact ⟨_, rfl⟩, hKK _ ?_⟩
  clear hKK KK
  refine wpG_bound rfl rfl (fun KK hKK n => ?_)
  go_simp
  refine ⟨by first | exact ⟨0, rfl⟩ | exact ⟨_, rfl⟩, hKK _ ?_⟩
  clear hKK KK
  refine wpG_bound rfl rfl (fun KK hKK n => ?_)
  go_simp
  refine ⟨⟨0, rfl⟩, (imBits_any _ _).mono ?_, ?_⟩
  · rintro e w' ⟨rfl, rfl⟩; exact ⟨_, rfl, ⟨0, rfl⟩, _, rfl, rfl⟩
  rintro val ⟨x, hx, rfl⟩
  have hx2 : Value.float .f32 c = Value.float .f32 x := hx
  injection hx2 with _ hx3
  rw [← hx3, hYc]
  clear hx hx3
  refine hKK _ ?_
  clear hKK KK
  refine wpG_free rfl rfl (fun KK hKK W => ?_)
  go_simp
  refine ⟨by first | exact ⟨0, rfl⟩ | exact ⟨_, rfl⟩, hKK _ ?_⟩
  clear hKK KK
  refine wpG_bound rfl rfl (fun KK hKK n => ?_)
  go_simp
  refine ⟨by first | exact ⟨0, rfl⟩ | exact ⟨_, rfl⟩, hKK _ ?_⟩
  clear hKK KK
  refine wpG_bound rfl rfl (fun KK hKK n => ?_)
  go_simp
  refine ⟨⟨0, rfl⟩, (imBits_any _ _).mono ?_, ?_⟩
  · rintro e w' ⟨rfl, rfl⟩; exact ⟨_, rfl, ⟨0, rfl⟩, _, rfl, rfl⟩
  rintro val ⟨x, hx, rfl⟩
  have hx2 : Value.float .f32 d = Value.float .f32 x := hx
  injection hx2 with _ hx3
  rw [← hx3, hYd]
  clear hx hx3
  refine hKK _ ?_
  clear hKK KK
  refine wpG_free rfl rfl (fun KK hKK W => ?_)
  go_simp
  refine ⟨by first | exact ⟨0, rfl⟩ | exact ⟨_, rfl⟩, hKK _ ?_⟩
  clear hKK KK
  refine wpG_put (World.setCell (World.setCell (World.setCell (World.setCell wq.drew ⟨w.heap.size + 1, 0, none⟩ (.int .i64 Ya)) ⟨w.heap.size + 1, 1, none⟩ (.int .i64 Yb)) ⟨w.heap.size + 1, 2, none⟩ (.int .i64 Yc)) ⟨w.heap.size + 1, 3, none⟩ (.int .i64 Yd)) rfl rfl (by kernel_rfl) (fun n => ?_) ?_
  · go_simp; rfl
  refine wpG_nil (fun k => ?_)
  go_wp2_with fail
  refine bodyPost_ret (v := .agg #[.int .i64 Ya, .int .i64 Yb, .int .i64 Yc, .int .i64 Yd]) ?_ rfl ⟨rfl, ?_⟩
  · have hres := HRES.out
    simp only [results, hres]
    go_simp
  · first | exact below_drewN ((((((((G.out.drew).setCell (p := ⟨w.heap.size + 1, 0, none⟩) (by show w.heap.size ≤ w.heap.size + 1; omega) _)).setCell (p := ⟨w.heap.size + 1, 1, none⟩) (by show w.heap.size ≤ w.heap.size + 1; omega) _)).setCell (p := ⟨w.heap.size + 1, 2, none⟩) (by show w.heap.size ≤ w.heap.size + 1; omega) _)).setCell (p := ⟨w.heap.size + 1, 3, none⟩) (by show w.heap.size ≤ w.heap.size + 1; omega) _) _ | exact below_drewN ((((((((G.out).setCell (p := ⟨w.heap.size + 1, 0, none⟩) (by show w.heap.size ≤ w.heap.size + 1; omega) _)).setCell (p := ⟨w.heap.size + 1, 1, none⟩) (by show w.heap.size ≤ w.heap.size + 1; omega) _)).setCell (p := ⟨w.heap.size + 1, 2, none⟩) (by show w.heap.size ≤ w.heap.size + 1; omega) _)).setCell (p := ⟨w.heap.size + 1, 3, none⟩) (by show w.heap.size ≤ w.heap.size + 1; omega) _) _
def lvSm (a b c d a' b' c' d' : Nat) : Bool := smB a a' && (smB b b' && (smB c c' && (smB d d')))
set_option maxHeartbeats 2000000 in
theorem spSmlv_any (a b c d a' b' c' d' : Nat) (w : World) : Calls Try.prog 18 #[.agg #[.float .f32 a, .float .f32 b, .float .f32 c, .float .f32 d], .agg #[.float .f32 a', .float .f32 b', .float .f32 c', .float .f32 d']] w fun e w' => e = .returned (.bool (lvSm a b c d a' b' c' d')) ∧ Below w.heap.size w w' := by
  have G := Lib.hid (((Below.refl w.heap.size w).alloc (Nat.le_refl _) (.cells #[.float .f32 a, .float .f32 b, .float .f32 c, .float .f32 d] 26)).alloc (by simp) (.cells #[.float .f32 a', .float .f32 b', .float .f32 c', .float .f32 d'] 26))
  cases qa : smB a a'
  · skip
    have Qa := Lib.hid qa
    have HB := Lib.hid (show lvSm a b c d a' b' c' d' = false by unfold lvSm; rw [qa]; rfl)
    clear qa
    go_enter Try.func18, Try.ntmps18
    go_wp2_with fail
    refine (spSame_any _ _ _).mono ?_
    rw [Qa.out]
    rintro e w' ⟨rfl, rfl⟩
    go_wp2
    go_ret
    exact ⟨by rw [HB.out]; rfl, G.out⟩
  · skip
    cases qb : smB b b'
    · skip
      have Qa := Lib.hid qa
      have Qb := Lib.hid qb
      have HB := Lib.hid (show lvSm a b c d a' b' c' d' = false by unfold lvSm; rw [qa, qb]; rfl)
      clear qa qb
      go_enter Try.func18, Try.ntmps18
      go_wp2_with fail
      refine (spSame_any _ _ _).mono ?_
      rw [Qa.out]
      rintro e w' ⟨rfl, rfl⟩
      go_wp2_with fail
      refine (spSame_any _ _ _).mono ?_
      rw [Qb.out]
      rintro e w' ⟨rfl, rfl⟩
      go_wp2
      go_ret
      exact ⟨by rw [HB.out]; rfl, G.out⟩
    · skip
      cases qc : smB c c'
      · skip
        have Qa := Lib.hid qa
        have Qb := Lib.hid qb
        have Qc := Lib.hid qc
        have HB := Lib.hid (show lvSm a b c d a' b' c' d' = false by unfold lvSm; rw [qa, qb, qc]; rfl)
        clear qa qb qc
        go_enter Try.func18, Try.ntmps18
        go_wp2_with fail
        refine (spSame_any _ _ _).mono ?_
        rw [Qa.out]
        rintro e w' ⟨rfl, rfl⟩
        go_wp2_with fail
        refine (spSame_any _ _ _).mono ?_
        rw [Qb.out]
        rintro e w' ⟨rfl, rfl⟩
        go_wp2_with fail
        refine (spSame_any _ _ _).mono ?_
        rw [Qc.out]
        rintro e w' ⟨rfl, rfl⟩
        go_wp2
        go_ret
        exact ⟨by rw [HB.out]; rfl, G.out⟩
      · skip
        cases qd : smB d d'
        · skip
          have Qa := Lib.hid qa
          have Qb := Lib.hid qb
          have Qc := Lib.hid qc
          have Qd := Lib.hid qd
          have HB := Lib.hid (show lvSm a b c d a' b' c' d' = false by unfold lvSm; rw [qa, qb, qc, qd]; rfl)
          clear qa qb qc qd
          go_enter Try.func18, Try.ntmps18
          go_wp2_with fail
          refine (spSame_any _ _ _).mono ?_
          rw [Qa.out]
          rintro e w' ⟨rfl, rfl⟩
          go_wp2_with fail
          refine (spSame_any _ _ _).mono ?_
          rw [Qb.out]
          rintro e w' ⟨rfl, rfl⟩
          go_wp2_with fail
          refine (spSame_any _ _ _).mono ?_
          rw [Qc.out]
          rintro e w' ⟨rfl, rfl⟩
          go_wp2_with fail
          refine (spSame_any _ _ _).mono ?_
          rw [Qd.out]
          rintro e w' ⟨rfl, rfl⟩
          go_wp2
          go_ret
          exact ⟨by rw [HB.out]; rfl, G.out⟩
        · skip
          have Qa := Lib.hid qa
          have Qb := Lib.hid qb
          have Qc := Lib.hid qc
          have Qd := Lib.hid qd
          have HB := Lib.hid (show lvSm a b c d a' b' c' d' = true by unfold lvSm; rw [qa, qb, qc, qd]; rfl)
          clear qa qb qc qd
          go_enter Try.func18, Try.ntmps18
          go_wp2_with fail
          refine (spSame_any _ _ _).mono ?_
          rw [Qa.out]
          rintro e w' ⟨rfl, rfl⟩
          go_wp2_with fail
          refine (spSame_any _ _ _).mono ?_
          rw [Qb.out]
          rintro e w' ⟨rfl, rfl⟩
          go_wp2_with fail
          refine (spSame_any _ _ _).mono ?_
          rw [Qc.out]
          rintro e w' ⟨rfl, rfl⟩
          go_wp2_with fail
          refine (spSame_any _ _ _).mono ?_
          rw [Qd.out]
          rintro e w' ⟨rfl, rfl⟩
          go_wp2
          go_ret
          exact ⟨by rw [HB.out]; rfl, G.out⟩
set_option maxHeartbeats 2000000 in
set_option maxRecDepth 100000 in
theorem imSmlv_any (a b c d a' b' c' d' : Nat) (w : World) : Calls Try.prog 19 #[.agg #[.float .f32 a, .float .f32 b, .float .f32 c, .float .f32 d], .agg #[.float .f32 a', .float .f32 b', .float .f32 c', .float .f32 d']] w fun e w' => e = .returned (.bool (lvSm a b c d a' b' c' d')) ∧ Below w.heap.size w w' := by
  have G := Lib.hid (((Below.refl w.heap.size w).alloc (Nat.le_refl _) (.cells #[.float .f32 a, .float .f32 b, .float .f32 c, .float .f32 d] 26)).alloc (by simp) (.cells #[.float .f32 a', .float .f32 b', .float .f32 c', .float .f32 d'] 26))
  have HA := Lib.hid (show NumsIn ((w.alloc (.cells #[.float .f32 a, .float .f32 b, .float .f32 c, .float .f32 d] 26)).alloc (.cells #[.float .f32 a', .float .f32 b', .float .f32 c', .float .f32 d'] 26)) w.heap.size [a, b, c, d] from (NumsIn.new w [a, b, c, d] 26).alloc (.cells #[.float .f32 a', .float .f32 b', .float .f32 c', .float .f32 d'] 26))
  have HB := Lib.hid (show NumsIn ((w.alloc (.cells #[.float .f32 a, .float .f32 b, .float .f32 c, .float .f32 d] 26)).alloc (.cells #[.float .f32 a', .float .f32 b', .float .f32 c', .float .f32 d'] 26)) (w.heap.size + 1) [a', b', c', d'] from NumsIn.newAt (w.alloc (.cells #[.float .f32 a, .float .f32 b, .float .f32 c, .float .f32 d] 26)) [a', b', c', d'] 26 (p := w.heap.size + 1) (by simp))
  obtain ⟨Ya, hYa⟩ : ∃ y, bV a = y := ⟨_, rfl⟩
  obtain ⟨Za, hZa⟩ : ∃ y, bV a' = y := ⟨_, rfl⟩
  obtain ⟨Yb, hYb⟩ : ∃ y, bV b = y := ⟨_, rfl⟩
  obtain ⟨Zb, hZb⟩ : ∃ y, bV b' = y := ⟨_, rfl⟩
  obtain ⟨Yc, hYc⟩ : ∃ y, bV c = y := ⟨_, rfl⟩
  obtain ⟨Zc, hZc⟩ : ∃ y, bV c' = y := ⟨_, rfl⟩
  obtain ⟨Yd, hYd⟩ : ∃ y, bV d = y := ⟨_, rfl⟩
  obtain ⟨Zd, hZd⟩ : ∃ y, bV d' = y := ⟨_, rfl⟩
  have K1 := fun W => lvBits_any a b c d W
  have K2 := fun W => lvBits_any a' b' c' d' W
  simp only [hYa, hYb, hYc, hYd] at K1
  simp only [hZa, hZb, hZc, hZd] at K2
  have HK1 := Lib.hid K1
  have HK2 := Lib.hid K2
  clear K1 K2
  have HS := Lib.hid (show lvSm a b c d a' b' c' d' = (Ya == Za && (Yb == Zb && (Yc == Zc && (Yd == Zd)))) by unfold lvSm smB; simp only [hYa, hYb, hYc, hYd, hZa, hZb, hZc, hZd])
  clear hYa hYb hYc hYd hZa hZb hZc hZd
  by_cases pa : Ya = Za
  rotate_left
  · skip
    have ba : (Ya == Za) = false := by simp [pa]
    have HB2 := Lib.hid (show lvSm a b c d a' b' c' d' = false by rw [HS.out, ba]; rfl)
    go_enter Try.func19, Try.ntmps19
    go_upto_region 1 with fail
    go_region_held3 (fun w' => w'.cell? ⟨w.heap.size, 0, none⟩ = some (.float .f32 a) ∧ w'.cell? ⟨w.heap.size, 1, none⟩ = some (.float .f32 b) ∧ w'.cell? ⟨w.heap.size, 2, none⟩ = some (.float .f32 c) ∧ w'.cell? ⟨w.heap.size, 3, none⟩ = some (.float .f32 d) ∧ w'.cell? ⟨w.heap.size + 1, 0, none⟩ = some (.float .f32 a') ∧ w'.cell? ⟨w.heap.size + 1, 1, none⟩ = some (.float .f32 b') ∧ w'.cell? ⟨w.heap.size + 1, 2, none⟩ = some (.float .f32 c') ∧ w'.cell? ⟨w.heap.size + 1, 3, none⟩ = some (.float .f32 d')) (first | exact ⟨(((HA.out.drew.below hb1).below hb2)).c4.1, (((HA.out.drew.below hb1).below hb2)).c4.2.1, (((HA.out.drew.below hb1).below hb2)).c4.2.2.1, (((HA.out.drew.below hb1).below hb2)).c4.2.2.2, (((HB.out.drew.below hb1).below hb2)).c4.1, (((HB.out.drew.below hb1).below hb2)).c4.2.1, (((HB.out.drew.below hb1).below hb2)).c4.2.2.1, (((HB.out.drew.below hb1).below hb2)).c4.2.2.2⟩ | exact ⟨((HA.out.drew.below hb1)).c4.1, ((HA.out.drew.below hb1)).c4.2.1, ((HA.out.drew.below hb1)).c4.2.2.1, ((HA.out.drew.below hb1)).c4.2.2.2, ((HB.out.drew.below hb1)).c4.1, ((HB.out.drew.below hb1)).c4.2.1, ((HB.out.drew.below hb1)).c4.2.2.1, ((HB.out.drew.below hb1)).c4.2.2.2⟩ | exact ⟨(HA.out.drew).c4.1, (HA.out.drew).c4.2.1, (HA.out.drew).c4.2.2.1, (HA.out.drew).c4.2.2.2, (HB.out.drew).c4.1, (HB.out.drew).c4.2.1, (HB.out.drew).c4.2.2.1, (HB.out.drew).c4.2.2.2⟩ | go_keep)
      ((first
        | (go_at_call 54; with_reducible refine (HK1.out _).mono ?_; rintro e u1 ⟨rfl, hb1⟩)
        | (go_at_call 54; with_reducible refine (HK2.out _).mono ?_; rintro e u2 ⟨rfl, hb2⟩)
        ))
    go_wp2
    go_ret
    exact ⟨by rw [HB2.out]; rfl, ((G.out.drew.trans (hb1.mono G.out.drew.size)).trans (hb2.mono (G.out.drew.trans (hb1.mono G.out.drew.size)).size))⟩
  by_cases pb : Yb = Zb
  rotate_left
  · skip
    have ba : (Ya == Za) = true := by simp [pa]
    have bb : (Yb == Zb) = false := by simp [pb]
    have HB2 := Lib.hid (show lvSm a b c d a' b' c' d' = false by rw [HS.out, ba, bb]; rfl)
    go_enter Try.func19, Try.ntmps19
    go_upto_region 1 with fail
    go_region_held3 (fun w' => w'.cell? ⟨w.heap.size, 0, none⟩ = some (.float .f32 a) ∧ w'.cell? ⟨w.heap.size, 1, none⟩ = some (.float .f32 b) ∧ w'.cell? ⟨w.heap.size, 2, none⟩ = some (.float .f32 c) ∧ w'.cell? ⟨w.heap.size, 3, none⟩ = some (.float .f32 d) ∧ w'.cell? ⟨w.heap.size + 1, 0, none⟩ = some (.float .f32 a') ∧ w'.cell? ⟨w.heap.size + 1, 1, none⟩ = some (.float .f32 b') ∧ w'.cell? ⟨w.heap.size + 1, 2, none⟩ = some (.float .f32 c') ∧ w'.cell? ⟨w.heap.size + 1, 3, none⟩ = some (.float .f32 d')) (first | exact ⟨(((HA.out.drew.below hb1).below hb2)).c4.1, (((HA.out.drew.below hb1).below hb2)).c4.2.1, (((HA.out.drew.below hb1).below hb2)).c4.2.2.1, (((HA.out.drew.below hb1).below hb2)).c4.2.2.2, (((HB.out.drew.below hb1).below hb2)).c4.1, (((HB.out.drew.below hb1).below hb2)).c4.2.1, (((HB.out.drew.below hb1).below hb2)).c4.2.2.1, (((HB.out.drew.below hb1).below hb2)).c4.2.2.2⟩ | exact ⟨((HA.out.drew.below hb1)).c4.1, ((HA.out.drew.below hb1)).c4.2.1, ((HA.out.drew.below hb1)).c4.2.2.1, ((HA.out.drew.below hb1)).c4.2.2.2, ((HB.out.drew.below hb1)).c4.1, ((HB.out.drew.below hb1)).c4.2.1, ((HB.out.drew.below hb1)).c4.2.2.1, ((HB.out.drew.below hb1)).c4.2.2.2⟩ | exact ⟨(HA.out.drew).c4.1, (HA.out.drew).c4.2.1, (HA.out.drew).c4.2.2.1, (HA.out.drew).c4.2.2.2, (HB.out.drew).c4.1, (HB.out.drew).c4.2.1, (HB.out.drew).c4.2.2.1, (HB.out.drew).c4.2.2.2⟩ | go_keep)
      ((first
        | (go_at_call 54; with_reducible refine (HK1.out _).mono ?_; rintro e u1 ⟨rfl, hb1⟩)
        | (go_at_call 54; with_reducible refine (HK2.out _).mono ?_; rintro e u2 ⟨rfl, hb2⟩)
        ))
    go_wp2
    go_ret
    exact ⟨by rw [HB2.out]; rfl, ((G.out.drew.trans (hb1.mono G.out.drew.size)).trans (hb2.mono (G.out.drew.trans (hb1.mono G.out.drew.size)).size))⟩
  by_cases pc : Yc = Zc
  rotate_left
  · skip
    have ba : (Ya == Za) = true := by simp [pa]
    have bb : (Yb == Zb) = true := by simp [pb]
    have bc : (Yc == Zc) = false := by simp [pc]
    have HB2 := Lib.hid (show lvSm a b c d a' b' c' d' = false by rw [HS.out, ba, bb, bc]; rfl)
    go_enter Try.func19, Try.ntmps19
    go_upto_region 1 with fail
    go_region_held3 (fun w' => w'.cell? ⟨w.heap.size, 0, none⟩ = some (.float .f32 a) ∧ w'.cell? ⟨w.heap.size, 1, none⟩ = some (.float .f32 b) ∧ w'.cell? ⟨w.heap.size, 2, none⟩ = some (.float .f32 c) ∧ w'.cell? ⟨w.heap.size, 3, none⟩ = some (.float .f32 d) ∧ w'.cell? ⟨w.heap.size + 1, 0, none⟩ = some (.float .f32 a') ∧ w'.cell? ⟨w.heap.size + 1, 1, none⟩ = some (.float .f32 b') ∧ w'.cell? ⟨w.heap.size + 1, 2, none⟩ = some (.float .f32 c') ∧ w'.cell? ⟨w.heap.size + 1, 3, none⟩ = some (.float .f32 d')) (first | exact ⟨(((HA.out.drew.below hb1).below hb2)).c4.1, (((HA.out.drew.below hb1).below hb2)).c4.2.1, (((HA.out.drew.below hb1).below hb2)).c4.2.2.1, (((HA.out.drew.below hb1).below hb2)).c4.2.2.2, (((HB.out.drew.below hb1).below hb2)).c4.1, (((HB.out.drew.below hb1).below hb2)).c4.2.1, (((HB.out.drew.below hb1).below hb2)).c4.2.2.1, (((HB.out.drew.below hb1).below hb2)).c4.2.2.2⟩ | exact ⟨((HA.out.drew.below hb1)).c4.1, ((HA.out.drew.below hb1)).c4.2.1, ((HA.out.drew.below hb1)).c4.2.2.1, ((HA.out.drew.below hb1)).c4.2.2.2, ((HB.out.drew.below hb1)).c4.1, ((HB.out.drew.below hb1)).c4.2.1, ((HB.out.drew.below hb1)).c4.2.2.1, ((HB.out.drew.below hb1)).c4.2.2.2⟩ | exact ⟨(HA.out.drew).c4.1, (HA.out.drew).c4.2.1, (HA.out.drew).c4.2.2.1, (HA.out.drew).c4.2.2.2, (HB.out.drew).c4.1, (HB.out.drew).c4.2.1, (HB.out.drew).c4.2.2.1, (HB.out.drew).c4.2.2.2⟩ | go_keep)
      ((first
        | (go_at_call 54; with_reducible refine (HK1.out _).mono ?_; rintro e u1 ⟨rfl, hb1⟩)
        | (go_at_call 54; with_reducible refine (HK2.out _).mono ?_; rintro e u2 ⟨rfl, hb2⟩)
        ))
    go_wp2
    go_ret
    exact ⟨by rw [HB2.out]; rfl, ((G.out.drew.trans (hb1.mono G.out.drew.size)).trans (hb2.mono (G.out.drew.trans (hb1.mono G.out.drew.size)).size))⟩
  by_cases pd : Yd = Zd
  rotate_left
  · skip
    have ba : (Ya == Za) = true := by simp [pa]
    have bb : (Yb == Zb) = true := by simp [pb]
    have bc : (Yc == Zc) = true := by simp [pc]
    have bd : (Yd == Zd) = false := by simp [pd]
    have HB2 := Lib.hid (show lvSm a b c d a' b' c' d' = false by rw [HS.out, ba, bb, bc, bd]; rfl)
    go_enter Try.func19, Try.ntmps19
    go_upto_region 1 with fail
    go_region_held3 (fun w' => w'.cell? ⟨w.heap.size, 0, none⟩ = some (.float .f32 a) ∧ w'.cell? ⟨w.heap.size, 1, none⟩ = some (.float .f32 b) ∧ w'.cell? ⟨w.heap.size, 2, none⟩ = some (.float .f32 c) ∧ w'.cell? ⟨w.heap.size, 3, none⟩ = some (.float .f32 d) ∧ w'.cell? ⟨w.heap.size + 1, 0, none⟩ = some (.float .f32 a') ∧ w'.cell? ⟨w.heap.size + 1, 1, none⟩ = some (.float .f32 b') ∧ w'.cell? ⟨w.heap.size + 1, 2, none⟩ = some (.float .f32 c') ∧ w'.cell? ⟨w.heap.size + 1, 3, none⟩ = some (.float .f32 d')) (first | exact ⟨(((HA.out.drew.below hb1).below hb2)).c4.1, (((HA.out.drew.below hb1).below hb2)).c4.2.1, (((HA.out.drew.below hb1).below hb2)).c4.2.2.1, (((HA.out.drew.below hb1).below hb2)).c4.2.2.2, (((HB.out.drew.below hb1).below hb2)).c4.1, (((HB.out.drew.below hb1).below hb2)).c4.2.1, (((HB.out.drew.below hb1).below hb2)).c4.2.2.1, (((HB.out.drew.below hb1).below hb2)).c4.2.2.2⟩ | exact ⟨((HA.out.drew.below hb1)).c4.1, ((HA.out.drew.below hb1)).c4.2.1, ((HA.out.drew.below hb1)).c4.2.2.1, ((HA.out.drew.below hb1)).c4.2.2.2, ((HB.out.drew.below hb1)).c4.1, ((HB.out.drew.below hb1)).c4.2.1, ((HB.out.drew.below hb1)).c4.2.2.1, ((HB.out.drew.below hb1)).c4.2.2.2⟩ | exact ⟨(HA.out.drew).c4.1, (HA.out.drew).c4.2.1, (HA.out.drew).c4.2.2.1, (HA.out.drew).c4.2.2.2, (HB.out.drew).c4.1, (HB.out.drew).c4.2.1, (HB.out.drew).c4.2.2.1, (HB.out.drew).c4.2.2.2⟩ | go_keep)
      ((first
        | (go_at_call 54; with_reducible refine (HK1.out _).mono ?_; rintro e u1 ⟨rfl, hb1⟩)
        | (go_at_call 54; with_reducible refine (HK2.out _).mono ?_; rintro e u2 ⟨rfl, hb2⟩)
        ))
    go_wp2
    go_ret
    exact ⟨by rw [HB2.out]; rfl, ((G.out.drew.trans (hb1.mono G.out.drew.size)).trans (hb2.mono (G.out.drew.trans (hb1.mono G.out.drew.size)).size))⟩
  have ba : (Ya == Za) = true := by simp [pa]
  have bb : (Yb == Zb) = true := by simp [pb]
  have bc : (Yc == Zc) = true := by simp [pc]
  have bd : (Yd == Zd) = true := by simp [pd]
  have HB2 := Lib.hid (show lvSm a b c d a' b' c' d' = true by rw [HS.out, ba, bb, bc, bd]; rfl)
  go_enter Try.func19, Try.ntmps19
  go_upto_region 1 with fail
  go_region_held3 (fun w' => w'.cell? ⟨w.heap.size, 0, none⟩ = some (.float .f32 a) ∧ w'.cell? ⟨w.heap.size, 1, none⟩ = some (.float .f32 b) ∧ w'.cell? ⟨w.heap.size, 2, none⟩ = some (.float .f32 c) ∧ w'.cell? ⟨w.heap.size, 3, none⟩ = some (.float .f32 d) ∧ w'.cell? ⟨w.heap.size + 1, 0, none⟩ = some (.float .f32 a') ∧ w'.cell? ⟨w.heap.size + 1, 1, none⟩ = some (.float .f32 b') ∧ w'.cell? ⟨w.heap.size + 1, 2, none⟩ = some (.float .f32 c') ∧ w'.cell? ⟨w.heap.size + 1, 3, none⟩ = some (.float .f32 d')) (first | exact ⟨(((HA.out.drew.below hb1).below hb2)).c4.1, (((HA.out.drew.below hb1).below hb2)).c4.2.1, (((HA.out.drew.below hb1).below hb2)).c4.2.2.1, (((HA.out.drew.below hb1).below hb2)).c4.2.2.2, (((HB.out.drew.below hb1).below hb2)).c4.1, (((HB.out.drew.below hb1).below hb2)).c4.2.1, (((HB.out.drew.below hb1).below hb2)).c4.2.2.1, (((HB.out.drew.below hb1).below hb2)).c4.2.2.2⟩ | exact ⟨((HA.out.drew.below hb1)).c4.1, ((HA.out.drew.below hb1)).c4.2.1, ((HA.out.drew.below hb1)).c4.2.2.1, ((HA.out.drew.below hb1)).c4.2.2.2, ((HB.out.drew.below hb1)).c4.1, ((HB.out.drew.below hb1)).c4.2.1, ((HB.out.drew.below hb1)).c4.2.2.1, ((HB.out.drew.below hb1)).c4.2.2.2⟩ | exact ⟨(HA.out.drew).c4.1, (HA.out.drew).c4.2.1, (HA.out.drew).c4.2.2.1, (HA.out.drew).c4.2.2.2, (HB.out.drew).c4.1, (HB.out.drew).c4.2.1, (HB.out.drew).c4.2.2.1, (HB.out.drew).c4.2.2.2⟩ | go_keep)
    ((first
      | (go_at_call 54; with_reducible refine (HK1.out _).mono ?_; rintro e u1 ⟨rfl, hb1⟩)
      | (go_at_call 54; with_reducible refine (HK2.out _).mono ?_; rintro e u2 ⟨rfl, hb2⟩)
      ))
  go_wp2
  go_ret
  exact ⟨by rw [HB2.out]; rfl, ((G.out.drew.trans (hb1.mono G.out.drew.size)).trans (hb2.mono (G.out.drew.trans (hb1.mono G.out.drew.size)).size))⟩
end Go.Proofs.Ythohhiaeaefdcaa
