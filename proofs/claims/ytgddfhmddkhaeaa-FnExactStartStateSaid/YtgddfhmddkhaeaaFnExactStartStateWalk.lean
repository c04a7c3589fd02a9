/-
  The law of StartState.
-/
import Derived.Test.YtgddfhmddkhaeaaSss
import Derived.Test.YtgddfhmddkhaeaaSpz
namespace Go.Proofs.Ytgddfhmddkhaeaa.fnExactStartState
open Go.RowKit Ieee
set_option linter.unusedVariables false
theorem toFtG_any (a : Option Addr) (len cap : Nat) (zs : List Nat) (w : World) (h : FSl w a len zs) (hm : len ≤ 1048576) :
    Calls Try.prog 25 #[.slice a len cap] w fun e w' => ∃ A b, e = .returned (.slice A len len) ∧ Held w' A b len zs ∧ Below w.heap.size w w' ∧ w.heap.size ≤ b ∧ b < w'.heap.size :=
  (toFt_any a len cap zs w h hm).mono fun _ _ ⟨h1, h2, h3, h4⟩ => ⟨_, _, h1, h2, h3, Nat.le_refl _, h4⟩
theorem ssQ_len (zs : List Nat) (p : Int) (h : zs.length ≤ 1048576) : (ssQ zs p).zs.length ≤ 1048576 := by
  unfold ssQ
  split
  · rename_i hB
    unfold ssB at hB
    obtain ⟨h1, h2, h3, h4⟩ := hrB_t (Bool.and_eq_true_iff.1 hB).1
    show (ssZ zs p.toNat).length ≤ 1048576
    rw [ssZ_len (by omega) (by omega)]
    omega
  · simp
set_option maxHeartbeats 8000000 in
set_option maxRecDepth 100000 in
theorem walk (al : Option Addr) (ll cl : Nat) (xs : List Nat) (p : Int) (w : World) (w0 : FRow w al ll cl xs) (w1 : (Lit.int .i64 p).wf = true) :
    Calls Try.prog 8 #[.slice al ll cl, .int .i64 p] w fun e w' => e = .returned (.bool true) ∧ Below w.heap.size w w' := by
  clear w1
  obtain ⟨hs0, hlc0, hcm0, _⟩ := w0
  have HL0 := Lib.hid hs0
  have hxl := hs0.1
  clear hs0
  have G := Lib.hid (Below.refl w.heap.size w)
  by_cases hml : ll ≤ 1048576
  rotate_left
  · skip
    go_enter Try.func8, Try.ntmps8
    go_wp2_with fail
    all_goals (go_ret; exact ⟨rfl, G.out⟩)
  have hRl : (ssQ xs p).zs.length ≤ 1048576 := ssQ_len xs p (by rw [hxl]; exact hml)
  go_enter Try.func8, Try.ntmps8
  have HL := Lib.hid (FSl.below HL0.out G.out)
  go_wp2_with fail
  refine (toFtG_any _ _ _ _ _ HL.out hml).mono ?_
  rintro e u1 ⟨Aa, ba, rfl, ta, b, qa, la⟩
  have za := b.size
  clear HL
  replace G := Lib.hid (G.out.trans (b.mono G.out.size))
  clear b
  have Ka := Lib.hid ta
  clear ta
  go_wp2_with fail
  refine (spSs_any _ ll ll xs p _ Ka.out.sl hml (Nat.le_refl _) hml).mono ?_
  rintro e u2 ⟨A5, cp5, rfl, ho, b⟩
  have y5 := b.size
  replace Ka := Lib.hid (Ka.out.below b)
  replace G := Lib.hid (G.out.trans (b.mono G.out.size))
  have ba := (Below.refl u2.heap.size u2).alloc (Nat.le_refl _) (.cells #[.float .f32 (ssQ xs p).l, .float .f32 (ssQ xs p).s, .slice A5 (ssQ xs p).zs.length cp5, .int .i64 (ssQ xs p).t] 29)
  obtain ⟨p5, hp5⟩ : ∃ q, u2.heap.size = q := ⟨_, rfl⟩
  have CC := CIs.newAt u2 [.float .f32 (ssQ xs p).l, .float .f32 (ssQ xs p).s, .slice A5 (ssQ xs p).zs.length cp5, .int .i64 (ssQ xs p).t] 29 (p := p5) hp5.symm
  have hne : (Value.slice A5 (ssQ xs p).zs.length cp5).ownBlock ≠ some p5 := fun e => by have := (ho.lt _ e).2; omega
  have how := FOwn.keepS ho ba
  have hsz : (u2.alloc (.cells #[.float .f32 (ssQ xs p).l, .float .f32 (ssQ xs p).s, .slice A5 (ssQ xs p).zs.length cp5, .int .i64 (ssQ xs p).t] 29)).heap.size = p5 + 1 := by rw [World.size_alloc, hp5]
  obtain ⟨b5, hh, hb15, hb25⟩ := own_held (far := p5 + 1) how rfl (by omega) p5 hne (by omega)
  have hl5 : 0 < (ssQ xs p).zs.length → b5 < p5 + 1 := fun h0 => by have := hh.lt_ h0; omega
  replace Ka := Lib.hid (Ka.out.below ba)
  replace G := Lib.hid (G.out.trans (ba.mono G.out.size))
  have C5 := Lib.hid CC
  have R5 := Lib.hid hh
  clear CC hne how ho hh b ba
  skip
  clear Ka
  skip
  have HL := Lib.hid (FSl.below HL0.out G.out)
  go_wp2_with fail
  generalize hW5 : u2.alloc (.cells #[.float .f32 (ssQ xs p).l, .float .f32 (ssQ xs p).s, .slice A5 (ssQ xs p).zs.length cp5, .int .i64 (ssQ xs p).t] 29) = W5 at *
  refine (toFtG_any _ _ _ _ _ HL.out hml).mono ?_
  rintro e u3 ⟨Ax, bx, rfl, tx, b, qx, lx⟩
  have zx := b.size
  clear HL
  replace C5 := Lib.hid (C5.out.below b)
  replace R5 := Lib.hid (R5.out.below b)
  replace G := Lib.hid (G.out.trans (b.mono G.out.size))
  clear b
  have Kx := Lib.hid tx
  clear tx
  go_wp2_with fail
  refine (imSs_any _ ll ll xs p _ Kx.out.sl hml (Nat.le_refl _) hml).mono ?_
  rintro e u4 ⟨A8, cp8, rfl, ho, b⟩
  have y8 := b.size
  replace C5 := Lib.hid (C5.out.below b)
  replace R5 := Lib.hid (R5.out.below b)
  replace Kx := Lib.hid (Kx.out.below b)
  replace G := Lib.hid (G.out.trans (b.mono G.out.size))
  have ba := (Below.refl u4.heap.size u4).alloc (Nat.le_refl _) (.cells #[.float .f32 (ssQ xs p).l, .float .f32 (ssQ xs p).s, .slice A8 (ssQ xs p).zs.length cp8, .int .i64 (ssQ xs p).t] 29)
  obtain ⟨p8, hp8⟩ : ∃ q, u4.heap.size = q := ⟨_, rfl⟩
  have CC := CIs.newAt u4 [.float .f32 (ssQ xs p).l, .float .f32 (ssQ xs p).s, .slice A8 (ssQ xs p).zs.length cp8, .int .i64 (ssQ xs p).t] 29 (p := p8) hp8.symm
  have hne : (Value.slice A8 (ssQ xs p).zs.length cp8).ownBlock ≠ some p8 := fun e => by have := (ho.lt _ e).2; omega
  have how := FOwn.keepS ho ba
  have hsz : (u4.alloc (.cells #[.float .f32 (ssQ xs p).l, .float .f32 (ssQ xs p).s, .slice A8 (ssQ xs p).zs.length cp8, .int .i64 (ssQ xs p).t] 29)).heap.size = p8 + 1 := by rw [World.size_alloc, hp8]
  obtain ⟨b8, hh, hb18, hb28⟩ := own_held (far := p8 + 1) how rfl (by omega) p8 hne (by omega)
  have hl8 : 0 < (ssQ xs p).zs.length → b8 < p8 + 1 := fun h0 => by have := hh.lt_ h0; omega
  replace C5 := Lib.hid (C5.out.below ba)
  replace R5 := Lib.hid (R5.out.below ba)
  replace Kx := Lib.hid (Kx.out.below ba)
  replace G := Lib.hid (G.out.trans (ba.mono G.out.size))
  have C8 := Lib.hid CC
  have R8 := Lib.hid hh
  clear CC hne how ho hh b ba
  skip
  obtain ⟨k0, k1, k2, k3⟩ := C8.out.c4
  obtain ⟨j0, j1, j2, j3⟩ := C5.out.c4
  go_wp2_with fail
  try generalize hW8 : u4.alloc (.cells #[.float .f32 (ssQ xs p).l, .float .f32 (ssQ xs p).s, .slice A8 (ssQ xs p).zs.length cp8, .int .i64 (ssQ xs p).t] 29) = W8 at *
  refine (eqStE_any _ _ _ _ _ _ _ _ _ _ R8.out.sl R5.out.sl hRl).mono ?_
  rintro e u5 ⟨rfl, b⟩
  clear k0 k1 k2 k3
  clear j0 j1 j2 j3
  replace C5 := Lib.hid (C5.out.below b)
  replace R5 := Lib.hid (R5.out.below b)
  replace Kx := Lib.hid (Kx.out.below b)
  replace C8 := Lib.hid (C8.out.below b)
  replace R8 := Lib.hid (R8.out.below b)
  replace G := Lib.hid (G.out.trans (b.mono G.out.size))
  clear b
  have HL := Lib.hid (FSl.below HL0.out G.out)
  go_wp2_with fail
  refine (toFtG_any _ _ _ _ _ HL.out hml).mono ?_
  rintro e u6 ⟨Af, bf, rfl, tf, b, qf, lf⟩
  have zf := b.size
  clear HL
  replace C5 := Lib.hid (C5.out.below b)
  replace R5 := Lib.hid (R5.out.below b)
  replace Kx := Lib.hid (Kx.out.below b)
  replace C8 := Lib.hid (C8.out.below b)
  replace R8 := Lib.hid (R8.out.below b)
  replace G := Lib.hid (G.out.trans (b.mono G.out.size))
  clear b
  have Kf := Lib.hid tf
  clear tf
  go_wp2_with fail
  refine (eqF_any _ _ _ _ _ _ _ _ Kx.out.sl Kf.out.sl hml (fun _ _ => rfl)).mono ?_
  rintro e w' ⟨nF, rfl, rfl⟩
  clear Kf
  replace C5 := Lib.hid (C5.out.drewN nF)
  replace R5 := Lib.hid (R5.out.drewN nF)
  replace Kx := Lib.hid (Kx.out.drewN nF)
  replace C8 := Lib.hid (C8.out.drewN nF)
  replace R8 := Lib.hid (R8.out.drewN nF)
  replace G := Lib.hid (below_drewN G.out nF)
  go_wp2_with fail
  refine (markt_any 1 Kx.out hml (by omega)).mono ?_
  rintro e u7 ⟨rfl, o, mk⟩
  clear Kx
  replace C5 := Lib.hid (C5.out.only o (by omega))
  replace R5 := Lib.hid (R5.out.only o (fun h0 => by (try have := hl5 h0); (try have := hl8 h0); omega))
  replace C8 := Lib.hid (C8.out.only o (by omega))
  replace R8 := Lib.hid (R8.out.only o (fun h0 => by (try have := hl5 h0); (try have := hl8 h0); omega))
  replace G := Lib.hid (G.out.trans (o.below (by have := G.out.size; omega)))
  clear o mk
  obtain ⟨k0, k1, k2, k3⟩ := C8.out.c4
  obtain ⟨j0, j1, j2, j3⟩ := C5.out.c4
  go_wp2_with fail
  refine (eqStE_any _ _ _ _ _ _ _ _ _ _ R8.out.sl R5.out.sl hRl).mono ?_
  rintro e u8 ⟨rfl, b⟩
  clear k0 k1 k2 k3
  clear j0 j1 j2 j3
  replace C5 := Lib.hid (C5.out.below b)
  replace R5 := Lib.hid (R5.out.below b)
  replace C8 := Lib.hid (C8.out.below b)
  replace R8 := Lib.hid (R8.out.below b)
  replace G := Lib.hid (G.out.trans (b.mono G.out.size))
  clear b
  obtain ⟨k0, k1, k2, k3⟩ := C8.out.c4
  go_wp2_with fail
  refine (markStM_any _ _ _ 1 R8.out hRl (by omega)).mono ?_
  rintro e u9 ⟨rfl, o, ho, mk⟩
  clear k0 k1 k2 k3
  clear R8
  replace C5 := Lib.hid ((C5.out.alloc o).only ho (by omega))
  replace R5 := Lib.hid ((R5.out.below ((Below.refl _ _).alloc (Nat.le_refl _) o)).only ho (fun h0 => by (try have := hl5 h0); omega))
  replace C8 := Lib.hid ((C8.out.alloc o).only ho (by omega))
  replace G := Lib.hid ((G.out.alloc G.out.size o).trans (ho.below (by have := G.out.size; omega)))
  have M8 := Lib.hid mk
  clear mk ho
  obtain ⟨k0, k1, k2, k3⟩ := C8.out.c4
  go_wp2_with fail
  refine (heldSt_any _ _ _ 1 M8.out hRl (by omega)).mono ?_
  rintro e u10 ⟨rfl, b⟩
  clear k0 k1 k2 k3
  replace C5 := Lib.hid (C5.out.below b)
  replace R5 := Lib.hid (R5.out.below b)
  replace C8 := Lib.hid (C8.out.below b)
  replace M8 := Lib.hid (M8.out.below b)
  replace G := Lib.hid (G.out.trans (b.mono G.out.size))
  clear b
  have HL := Lib.hid (FSl.below HL0.out G.out)
  go_wp2_with fail
  refine (toFtG_any _ _ _ _ _ HL.out hml).mono ?_
  rintro e u11 ⟨Ah, bh, rfl, th, b, qh, lh⟩
  have zh := b.size
  clear HL
  replace C5 := Lib.hid (C5.out.below b)
  replace R5 := Lib.hid (R5.out.below b)
  replace C8 := Lib.hid (C8.out.below b)
  replace M8 := Lib.hid (M8.out.below b)
  replace G := Lib.hid (G.out.trans (b.mono G.out.size))
  clear b
  have Kh := Lib.hid th
  clear th
  go_wp2_with fail
  refine (imSs_any _ ll ll xs p _ Kh.out.sl hml (Nat.le_refl _) hml).mono ?_
  rintro e u12 ⟨A13, cp13, rfl, ho, b⟩
  have y13 := b.size
  replace C5 := Lib.hid (C5.out.below b)
  replace R5 := Lib.hid (R5.out.below b)
  replace C8 := Lib.hid (C8.out.below b)
  replace M8 := Lib.hid (M8.out.below b)
  replace Kh := Lib.hid (Kh.out.below b)
  replace G := Lib.hid (G.out.trans (b.mono G.out.size))
  have ba := (Below.refl u12.heap.size u12).alloc (Nat.le_refl _) (.cells #[.float .f32 (ssQ xs p).l, .float .f32 (ssQ xs p).s, .slice A13 (ssQ xs p).zs.length cp13, .int .i64 (ssQ xs p).t] 29)
  obtain ⟨p13, hp13⟩ : ∃ q, u12.heap.size = q := ⟨_, rfl⟩
  have CC := CIs.newAt u12 [.float .f32 (ssQ xs p).l, .float .f32 (ssQ xs p).s, .slice A13 (ssQ xs p).zs.length cp13, .int .i64 (ssQ xs p).t] 29 (p := p13) hp13.symm
  have hne : (Value.slice A13 (ssQ xs p).zs.length cp13).ownBlock ≠ some p13 := fun e => by have := (ho.lt _ e).2; omega
  have how := FOwn.keepS ho ba
  have hsz : (u12.alloc (.cells #[.float .f32 (ssQ xs p).l, .float .f32 (ssQ xs p).s, .slice A13 (ssQ xs p).zs.length cp13, .int .i64 (ssQ xs p).t] 29)).heap.size = p13 + 1 := by rw [World.size_alloc, hp13]
  obtain ⟨b13, hh, hb113, hb213⟩ := own_held (far := p13 + 1) how rfl (by omega) p13 hne (by omega)
  have hl13 : 0 < (ssQ xs p).zs.length → b13 < p13 + 1 := fun h0 => by have := hh.lt_ h0; omega
  replace C5 := Lib.hid (C5.out.below ba)
  replace R5 := Lib.hid (R5.out.below ba)
  replace C8 := Lib.hid (C8.out.below ba)
  replace M8 := Lib.hid (M8.out.below ba)
  replace Kh := Lib.hid (Kh.out.below ba)
  replace G := Lib.hid (G.out.trans (ba.mono G.out.size))
  have C13 := Lib.hid CC
  have R13 := Lib.hid hh
  clear CC hne how ho hh b ba
  skip
  clear Kh
  obtain ⟨k0, k1, k2, k3⟩ := C13.out.c4
  obtain ⟨j0, j1, j2, j3⟩ := C5.out.c4
  go_wp2_with fail
  try generalize hW13 : u12.alloc (.cells #[.float .f32 (ssQ xs p).l, .float .f32 (ssQ xs p).s, .slice A13 (ssQ xs p).zs.length cp13, .int .i64 (ssQ xs p).t] 29) = W13 at *
  refine (eqStE_any _ _ _ _ _ _ _ _ _ _ R13.out.sl R5.out.sl hRl).mono ?_
  rintro e u13 ⟨rfl, b⟩
  clear k0 k1 k2 k3
  clear j0 j1 j2 j3
  replace C5 := Lib.hid (C5.out.below b)
  replace R5 := Lib.hid (R5.out.below b)
  replace C8 := Lib.hid (C8.out.below b)
  replace M8 := Lib.hid (M8.out.below b)
  replace C13 := Lib.hid (C13.out.below b)
  replace R13 := Lib.hid (R13.out.below b)
  replace G := Lib.hid (G.out.trans (b.mono G.out.size))
  clear b
  obtain ⟨k0, k1, k2, k3⟩ := C8.out.c4
  go_wp2_with fail
  refine (heldSt_any _ _ _ 1 M8.out hRl (by omega)).mono ?_
  rintro e u14 ⟨rfl, b⟩
  clear k0 k1 k2 k3
  replace C5 := Lib.hid (C5.out.below b)
  replace R5 := Lib.hid (R5.out.below b)
  replace C8 := Lib.hid (C8.out.below b)
  replace M8 := Lib.hid (M8.out.below b)
  replace C13 := Lib.hid (C13.out.below b)
  replace R13 := Lib.hid (R13.out.below b)
  replace G := Lib.hid (G.out.trans (b.mono G.out.size))
  clear b
  go_wp2
  go_ret
  exact ⟨rfl, G.out⟩
end Go.Proofs.Ytgddfhmddkhaeaa.fnExactStartState
