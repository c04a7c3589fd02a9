import Derived.Test.YtallegmkkbmelabAhj
import Derived.Test.YtallegmkkbmelabAhd
import Derived.Test.YtallegmkkbmelabCLaw
import Derived.Deep.RegionWith
import Derived.Test.YtallegmkkbmelabShl
import Derived.Test.YtallegmkkbmelabStl
import Derived.Deep.RegionHeld3
namespace Go.Proofs.Ytallegmkkbmelab
theorem MHeld.drew {w : World} {A : Option Addr} {b len k : Nat} (h : MHeld w A b len k) : MHeld w.drew A b len k := h.drewN 1
end Go.Proofs.Ytallegmkkbmelab
namespace Go.Proofs.Ytallegmkkbmelab.fnExactAheadOf
open Go.RowKit Ieee
set_option linter.unusedVariables false
set_option maxHeartbeats 8000000 in
set_option maxRecDepth 100000 in
theorem walk (l0 s0 : Nat) (a0 : Option Addr) (len0 cap0 : Nat) (z0 : List Nat) (t0 : Int) (a1 b1 c1 e1 : Nat) (a2 : Int) (w : World) (w0 : FRow w a0 len0 cap0 z0) (x0 : (Lit.int .i64 t0).wf = true) (w2 : (Lit.int .i64 a2).wf = true) :
    Calls Try.prog 8 #[.agg #[.float .f32 l0, .float .f32 s0, .slice a0 len0 cap0, .int .i64 t0], .agg #[.float .f32 a1, .float .f32 b1, .float .f32 c1, .float .f32 e1], .int .i64 a2] w fun e w' => e = .returned (.bool true) ∧ Below w.heap.size w w' := by
  clear w2
  obtain ⟨hs0, hlc0, hcm0, _⟩ := w0
  have H0 := Lib.hid hs0
  clear hs0
  have G := Lib.hid (Below.refl w.heap.size w)
  have B0 := Lib.hid (StIn.new w l0 s0 a0 len0 cap0 t0 30)
  replace G := Lib.hid (G.out.alloc (Nat.le_refl _) (.cells #[.float .f32 l0, .float .f32 s0, .slice a0 len0 cap0, .int .i64 t0] 30))
  have B1 := Lib.hid (show ShIn ((w.alloc (.cells #[.float .f32 l0, .float .f32 s0, .slice a0 len0 cap0, .int .i64 t0] 30)).alloc (.cells #[.float .f32 a1, .float .f32 b1, .float .f32 c1, .float .f32 e1] 32)) (w.heap.size + 1) a1 b1 c1 e1 from by simpa using ShIn.new (w.alloc (.cells #[.float .f32 l0, .float .f32 s0, .slice a0 len0 cap0, .int .i64 t0] 30)) a1 b1 c1 e1 32)
  replace B0 := Lib.hid (B0.out.alloc (.cells #[.float .f32 a1, .float .f32 b1, .float .f32 c1, .float .f32 e1] 32))
  replace G := Lib.hid (G.out.alloc (by simp; try omega) (.cells #[.float .f32 a1, .float .f32 b1, .float .f32 c1, .float .f32 e1] 32))
  by_cases hn0 : len0 ≤ 1048576
  rotate_left
  · skip
    go_enter Try.func8, Try.ntmps8
    obtain ⟨k0, k1, k2, k3⟩ := B0.out
    go_wp2_with fail
    refine (szSt_no _ _ _ _ _ _ 1048576 _ (by omega) (by omega) (by unfold maxLen at *; omega)).mono ?_
    rintro e u1 ⟨rfl, b⟩
    clear k0 k1 k2 k3
    replace B0 := Lib.hid (B0.out.below b)
    replace B1 := Lib.hid (B1.out.below b)
    replace G := Lib.hid (G.out.trans (b.mono G.out.size))
    have hz1 := b.size
    try simp at hz1
    clear b
    go_wp2
    go_ret
    exact ⟨rfl, G.out⟩
  have hm0 : len0 ≤ 1048576 := by omega
  go_enter Try.func8, Try.ntmps8
  obtain ⟨k0, k1, k2, k3⟩ := B0.out
  go_wp2_with fail
  refine (szSt_any _ _ _ _ _ _ 1048576 _ (by omega) (by omega)).mono ?_
  rintro e u2 ⟨rfl, b⟩
  clear k0 k1 k2 k3
  replace B0 := Lib.hid (B0.out.below b)
  replace B1 := Lib.hid (B1.out.below b)
  replace G := Lib.hid (G.out.trans (b.mono G.out.size))
  have hz2 := b.size
  try simp at hz2
  clear b
  have hX : (ahR l0 s0 z0 t0 a1 b1 c1 e1 a2).length ≤ 1048576 := ahR_len ..
  go_wp2_with fail
  go_region_held3 (fun w' => w'.cell? ⟨w.heap.size, 0, none⟩ = some (.float .f32 l0) ∧ w'.cell? ⟨w.heap.size, 1, none⟩ = some (.float .f32 s0) ∧ w'.cell? ⟨w.heap.size, 2, none⟩ = some (.slice a0 len0 cap0) ∧ w'.cell? ⟨w.heap.size, 3, none⟩ = some (.int .i64 t0) ∧ w'.cell? ⟨w.heap.size + 1, 0, none⟩ = some (.float .f32 a1) ∧ w'.cell? ⟨w.heap.size + 1, 1, none⟩ = some (.float .f32 b1) ∧ w'.cell? ⟨w.heap.size + 1, 2, none⟩ = some (.float .f32 c1) ∧ w'.cell? ⟨w.heap.size + 1, 3, none⟩ = some (.float .f32 e1)) (first | exact ⟨((((B0.out.drew).below hb1).below hb2).below hb3).1, ((((B0.out.drew).below hb1).below hb2).below hb3).2.1, ((((B0.out.drew).below hb1).below hb2).below hb3).2.2.1, ((((B0.out.drew).below hb1).below hb2).below hb3).2.2.2, ((((B1.out.drew).below hb1).below hb2).below hb3).1, ((((B1.out.drew).below hb1).below hb2).below hb3).2.1, ((((B1.out.drew).below hb1).below hb2).below hb3).2.2.1, ((((B1.out.drew).below hb1).below hb2).below hb3).2.2.2⟩ | exact ⟨(((B0.out.drew).below hb1).below hb2).1, (((B0.out.drew).below hb1).below hb2).2.1, (((B0.out.drew).below hb1).below hb2).2.2.1, (((B0.out.drew).below hb1).below hb2).2.2.2, (((B1.out.drew).below hb1).below hb2).1, (((B1.out.drew).below hb1).below hb2).2.1, (((B1.out.drew).below hb1).below hb2).2.2.1, (((B1.out.drew).below hb1).below hb2).2.2.2⟩ | exact ⟨((B0.out.drew).below hb1).1, ((B0.out.drew).below hb1).2.1, ((B0.out.drew).below hb1).2.2.1, ((B0.out.drew).below hb1).2.2.2, ((B1.out.drew).below hb1).1, ((B1.out.drew).below hb1).2.1, ((B1.out.drew).below hb1).2.2.1, ((B1.out.drew).below hb1).2.2.2⟩ | exact ⟨(B0.out.drew).1, (B0.out.drew).2.1, (B0.out.drew).2.2.1, (B0.out.drew).2.2.2, (B1.out.drew).1, (B1.out.drew).2.1, (B1.out.drew).2.2.1, (B1.out.drew).2.2.2⟩ | go_keep)
    ((first
      | (go_at_call 18; refine (toSt_any _ _ _ _ _ _ _ _ (FSl.below H0.out G.out.drew) hm0).mono ?_; rintro e u3 ⟨rfl, ht0, hb1, hq⟩)
      | (go_at_call 19; refine (toSh_any _ _ _ _ _).mono ?_; rintro e u4 ⟨rfl, hb2⟩)
      | (go_at_call 29; refine (specAh_any _ _ _ _ _ _ _ _ _ _ _ _ _ (ht0.below hb2).sl hm0).mono ?_; rintro e u5 hR; obtain ⟨Ar1, cr1, dr1, qr1, rfl, ht1, hc1, hd1, hb3⟩ := hR.res)
      ))
  replace B0 := Lib.hid ((((B0.out.drew).below hb1).below hb2).below hb3)
  replace B1 := Lib.hid ((((B1.out.drew).below hb1).below hb2).below hb3)
  replace G := Lib.hid (((G.out.drew.trans (hb1.mono G.out.drew.size)).trans (hb2.mono (G.out.drew.trans (hb1.mono G.out.drew.size)).size)).trans (hb3.mono ((G.out.drew.trans (hb1.mono G.out.drew.size)).trans (hb2.mono (G.out.drew.trans (hb1.mono G.out.drew.size)).size)).size))
  have hz3 := hb1.size
  try simp at hz3
  have hz4 := hb2.size
  try simp at hz4
  have hz5 := hb3.size
  try simp at hz5
  clear hb1 hb2 hb3
  have L1 := Lib.hid ht1
  have C1 := Lib.hid hc1
  have hl1 : 0 < (ahR l0 s0 z0 t0 a1 b1 c1 e1 a2).length → dr1 < u5.heap.size := ht1.lt_
  clear ht1 hc1
  obtain ⟨k0, k1, k2, k3⟩ := B0.out
  go_wp2_with fail
  refine (toSt_any _ _ _ _ _ _ _ _ (FSl.below H0.out G.out) hm0).mono ?_
  rintro e u6 ⟨rfl, t, b, q⟩
  clear k0 k1 k2 k3
  replace B0 := Lib.hid (B0.out.below b)
  replace B1 := Lib.hid (B1.out.below b)
  replace L1 := Lib.hid (L1.out.below b)
  replace G := Lib.hid (G.out.trans (b.mono G.out.size))
  have hz6 := b.size
  try simp at hz6
  clear b
  have X0 := Lib.hid t
  have hqX0 := q
  clear t q
  have ba := (Below.refl u6.heap.size u6).alloc (Nat.le_refl _) (.cells #[.float .f32 l0, .float .f32 s0, .slice (some ⟨u5.heap.size + 1 + 1 + 1, 0, none⟩) len0 len0, .int .i64 t0] 36)
  replace B0 := Lib.hid (B0.out.below ba)
  replace B1 := Lib.hid (B1.out.below ba)
  replace L1 := Lib.hid (L1.out.below ba)
  replace X0 := Lib.hid (X0.out.below ba)
  replace G := Lib.hid (G.out.trans (ba.mono G.out.size))
  have hz7 := ba.size
  try simp at hz7
  clear ba
  have BX0 := Lib.hid (StIn.new u6 l0 s0 (some ⟨u5.heap.size + 1 + 1 + 1, 0, none⟩) len0 len0 t0 36)
  go_wp2_with fail
  go_region_held3 (fun w' => w'.cell? ⟨u6.heap.size, 0, none⟩ = some (.float .f32 l0) ∧ w'.cell? ⟨u6.heap.size, 1, none⟩ = some (.float .f32 s0) ∧ w'.cell? ⟨u6.heap.size, 2, none⟩ = some (.slice (some ⟨u5.heap.size + 1 + 1 + 1, 0, none⟩) len0 len0) ∧ w'.cell? ⟨u6.heap.size, 3, none⟩ = some (.int .i64 t0) ∧ w'.cell? ⟨w.heap.size + 1, 0, none⟩ = some (.float .f32 a1) ∧ w'.cell? ⟨w.heap.size + 1, 1, none⟩ = some (.float .f32 b1) ∧ w'.cell? ⟨w.heap.size + 1, 2, none⟩ = some (.float .f32 c1) ∧ w'.cell? ⟨w.heap.size + 1, 3, none⟩ = some (.float .f32 e1)) (first | exact ⟨(((BX0.out.drew).below hb1).below hb2).1, (((BX0.out.drew).below hb1).below hb2).2.1, (((BX0.out.drew).below hb1).below hb2).2.2.1, (((BX0.out.drew).below hb1).below hb2).2.2.2, (((B1.out.drew).below hb1).below hb2).1, (((B1.out.drew).below hb1).below hb2).2.1, (((B1.out.drew).below hb1).below hb2).2.2.1, (((B1.out.drew).below hb1).below hb2).2.2.2⟩ | exact ⟨((BX0.out.drew).below hb1).1, ((BX0.out.drew).below hb1).2.1, ((BX0.out.drew).below hb1).2.2.1, ((BX0.out.drew).below hb1).2.2.2, ((B1.out.drew).below hb1).1, ((B1.out.drew).below hb1).2.1, ((B1.out.drew).below hb1).2.2.1, ((B1.out.drew).below hb1).2.2.2⟩ | exact ⟨(BX0.out.drew).1, (BX0.out.drew).2.1, (BX0.out.drew).2.2.1, (BX0.out.drew).2.2.2, (B1.out.drew).1, (B1.out.drew).2.1, (B1.out.drew).2.2.1, (B1.out.drew).2.2.2⟩ | go_keep)
    ((first
      | (go_at_call 19; refine (toSh_any _ _ _ _ _).mono ?_; rintro e u7 ⟨rfl, hb1⟩)
      | (go_at_call 30; refine (implAh_any _ _ _ _ _ _ _ _ _ _ _ _ _ ((X0.out.drew).below hb1).sl hm0).mono ?_; rintro e u8 hR; obtain ⟨Ar2, cr2, dr2, qr2, rfl, ht2, hc2, hd2, hb2⟩ := hR.res)
      ))
  replace B0 := Lib.hid (((B0.out.drew).below hb1).below hb2)
  replace B1 := Lib.hid (((B1.out.drew).below hb1).below hb2)
  replace L1 := Lib.hid (((L1.out.drew).below hb1).below hb2)
  replace X0 := Lib.hid (((X0.out.drew).below hb1).below hb2)
  replace BX0 := Lib.hid (((BX0.out.drew).below hb1).below hb2)
  replace G := Lib.hid ((G.out.drew.trans (hb1.mono G.out.drew.size)).trans (hb2.mono (G.out.drew.trans (hb1.mono G.out.drew.size)).size))
  have hz8 := hb1.size
  try simp at hz8
  have hz9 := hb2.size
  try simp at hz9
  clear hb1 hb2
  have L2 := Lib.hid ht2
  have C2 := Lib.hid hc2
  have hl2 : 0 < (ahR l0 s0 z0 t0 a1 b1 c1 e1 a2).length → dr2 < u8.heap.size := ht2.lt_
  clear ht2 hc2
  go_wp2_with fail
  refine (eqF_any _ _ _ _ _ _ _ _ L2.out.sl L1.out.sl hX (same_cn C2.out C1.out)).mono ?_
  rintro e w' ⟨n0, rfl, rfl⟩
  go_wp2_with fail
  go_region_held3 (fun w' => w'.cell? ⟨u6.heap.size, 0, none⟩ = some (.float .f32 l0) ∧ w'.cell? ⟨u6.heap.size, 1, none⟩ = some (.float .f32 s0) ∧ w'.cell? ⟨u6.heap.size, 2, none⟩ = some (.slice (some ⟨u5.heap.size + 1 + 1 + 1, 0, none⟩) len0 len0) ∧ w'.cell? ⟨u6.heap.size, 3, none⟩ = some (.int .i64 t0) ∧ w'.cell? ⟨w.heap.size, 0, none⟩ = some (.float .f32 l0) ∧ w'.cell? ⟨w.heap.size, 1, none⟩ = some (.float .f32 s0) ∧ w'.cell? ⟨w.heap.size, 2, none⟩ = some (.slice a0 len0 cap0) ∧ w'.cell? ⟨w.heap.size, 3, none⟩ = some (.int .i64 t0)) (first | exact ⟨((((BX0.out.drewN _).drew).below hb1).below hb2).1, ((((BX0.out.drewN _).drew).below hb1).below hb2).2.1, ((((BX0.out.drewN _).drew).below hb1).below hb2).2.2.1, ((((BX0.out.drewN _).drew).below hb1).below hb2).2.2.2, ((((B0.out.drewN _).drew).below hb1).below hb2).1, ((((B0.out.drewN _).drew).below hb1).below hb2).2.1, ((((B0.out.drewN _).drew).below hb1).below hb2).2.2.1, ((((B0.out.drewN _).drew).below hb1).below hb2).2.2.2⟩ | exact ⟨(((BX0.out.drewN _).drew).below hb1).1, (((BX0.out.drewN _).drew).below hb1).2.1, (((BX0.out.drewN _).drew).below hb1).2.2.1, (((BX0.out.drewN _).drew).below hb1).2.2.2, (((B0.out.drewN _).drew).below hb1).1, (((B0.out.drewN _).drew).below hb1).2.1, (((B0.out.drewN _).drew).below hb1).2.2.1, (((B0.out.drewN _).drew).below hb1).2.2.2⟩ | exact ⟨((BX0.out.drewN _).drew).1, ((BX0.out.drewN _).drew).2.1, ((BX0.out.drewN _).drew).2.2.1, ((BX0.out.drewN _).drew).2.2.2, ((B0.out.drewN _).drew).1, ((B0.out.drewN _).drew).2.1, ((B0.out.drewN _).drew).2.2.1, ((B0.out.drewN _).drew).2.2.2⟩ | go_keep)
    ((first
      | (go_at_call 18; refine (toSt_any _ _ _ _ _ _ _ _ (FSl.below H0.out (below_drewN G.out _).drew) hm0).mono ?_; rintro e u10 ⟨rfl, ht0, hb1, hq⟩)
      | (go_at_call 22; refine (eqSt_any _ _ _ _ _ _ _ _ _ _ _ _ _ rfl rfl (((X0.out.drewN _).drew).below hb1).sl ht0.sl hm0 (fun _ _ => rfl)).mono ?_; rintro e u11 ⟨rfl, hb2⟩)
      ))
  replace B0 := Lib.hid ((((B0.out.drewN _).drew).below hb1).below hb2)
  replace B1 := Lib.hid ((((B1.out.drewN _).drew).below hb1).below hb2)
  replace L1 := Lib.hid ((((L1.out.drewN _).drew).below hb1).below hb2)
  replace X0 := Lib.hid ((((X0.out.drewN _).drew).below hb1).below hb2)
  replace BX0 := Lib.hid ((((BX0.out.drewN _).drew).below hb1).below hb2)
  replace L2 := Lib.hid ((((L2.out.drewN _).drew).below hb1).below hb2)
  replace G := Lib.hid (((below_drewN G.out _).drew.trans (hb1.mono (below_drewN G.out _).drew.size)).trans (hb2.mono ((below_drewN G.out _).drew.trans (hb1.mono (below_drewN G.out _).drew.size)).size))
  have hz10 := hb1.size
  try simp at hz10
  have hz11 := hb2.size
  try simp at hz11
  clear hb1 hb2
  obtain ⟨k0, k1, k2, k3⟩ := BX0.out
  go_wp2_with fail
  refine (markSt_any _ _ _ 1 X0.out hm0 (by omega)).mono ?_
  rintro e u12 ⟨rfl, o, ho⟩
  clear k0 k1 k2 k3
  clear X0 BX0
  have ba := (Below.refl u11.heap.size u11).alloc (Nat.le_refl _) o
  replace B0 := Lib.hid ((B0.out.alloc o).only ho (by omega))
  replace B1 := Lib.hid ((B1.out.alloc o).only ho (by omega))
  replace L1 := Lib.hid ((L1.out.below ba).only ho (fun h0 => by (try have := hl1 h0); (try have := hl2 h0); omega))
  replace L2 := Lib.hid ((L2.out.below ba).only ho (fun h0 => by (try have := hl1 h0); (try have := hl2 h0); omega))
  replace G := Lib.hid ((G.out.alloc G.out.size o).trans (ho.below (by have := G.out.size; omega)))
  clear ho ba
  go_wp2_with fail
  refine (eqF_any _ _ _ _ _ _ _ _ L2.out.sl L1.out.sl hX (same_cn C2.out C1.out)).mono ?_
  rintro e w' ⟨ne13, rfl, rfl⟩
  replace B0 := Lib.hid (B0.out.drewN ne13)
  replace B1 := Lib.hid (B1.out.drewN ne13)
  replace L1 := Lib.hid (L1.out.drewN ne13)
  replace L2 := Lib.hid (L2.out.drewN ne13)
  replace G := Lib.hid (below_drewN G.out ne13)
  go_wp2_with fail
  refine (markt_any 1 L2.out hX (by omega)).mono ?_
  rintro e u14 ⟨rfl, o, mk⟩
  replace B0 := Lib.hid (B0.out.only o (by omega))
  replace B1 := Lib.hid (B1.out.only o (by omega))
  replace L1 := Lib.hid (L1.out.only o (fun h0 => by (try have := hl1 h0); (try have := hl2 h0); omega))
  replace G := Lib.hid (G.out.trans (o.below (by have := G.out.size; omega)))
  have M2 := Lib.hid mk
  clear o mk L2
  go_wp2_with fail
  refine (heldt_any 1 M2.out hX (by omega)).mono ?_
  rintro e w' ⟨rfl, rfl⟩
  clear hq
  go_wp2_with fail
  go_region_held3 (fun w' => w'.cell? ⟨w.heap.size, 0, none⟩ = some (.float .f32 l0) ∧ w'.cell? ⟨w.heap.size, 1, none⟩ = some (.float .f32 s0) ∧ w'.cell? ⟨w.heap.size, 2, none⟩ = some (.slice a0 len0 cap0) ∧ w'.cell? ⟨w.heap.size, 3, none⟩ = some (.int .i64 t0) ∧ w'.cell? ⟨w.heap.size + 1, 0, none⟩ = some (.float .f32 a1) ∧ w'.cell? ⟨w.heap.size + 1, 1, none⟩ = some (.float .f32 b1) ∧ w'.cell? ⟨w.heap.size + 1, 2, none⟩ = some (.float .f32 c1) ∧ w'.cell? ⟨w.heap.size + 1, 3, none⟩ = some (.float .f32 e1)) (first | exact ⟨((((B0.out.drew).below hb1).below hb2).below hb3).1, ((((B0.out.drew).below hb1).below hb2).below hb3).2.1, ((((B0.out.drew).below hb1).below hb2).below hb3).2.2.1, ((((B0.out.drew).below hb1).below hb2).below hb3).2.2.2, ((((B1.out.drew).below hb1).below hb2).below hb3).1, ((((B1.out.drew).below hb1).below hb2).below hb3).2.1, ((((B1.out.drew).below hb1).below hb2).below hb3).2.2.1, ((((B1.out.drew).below hb1).below hb2).below hb3).2.2.2⟩ | exact ⟨(((B0.out.drew).below hb1).below hb2).1, (((B0.out.drew).below hb1).below hb2).2.1, (((B0.out.drew).below hb1).below hb2).2.2.1, (((B0.out.drew).below hb1).below hb2).2.2.2, (((B1.out.drew).below hb1).below hb2).1, (((B1.out.drew).below hb1).below hb2).2.1, (((B1.out.drew).below hb1).below hb2).2.2.1, (((B1.out.drew).below hb1).below hb2).2.2.2⟩ | exact ⟨((B0.out.drew).below hb1).1, ((B0.out.drew).below hb1).2.1, ((B0.out.drew).below hb1).2.2.1, ((B0.out.drew).below hb1).2.2.2, ((B1.out.drew).below hb1).1, ((B1.out.drew).below hb1).2.1, ((B1.out.drew).below hb1).2.2.1, ((B1.out.drew).below hb1).2.2.2⟩ | exact ⟨(B0.out.drew).1, (B0.out.drew).2.1, (B0.out.drew).2.2.1, (B0.out.drew).2.2.2, (B1.out.drew).1, (B1.out.drew).2.1, (B1.out.drew).2.2.1, (B1.out.drew).2.2.2⟩ | go_keep)
    ((first
      | (go_at_call 18; refine (toSt_any _ _ _ _ _ _ _ _ (FSl.below H0.out G.out.drew) hm0).mono ?_; rintro e u15 ⟨rfl, ht0, hb1, hq⟩)
      | (go_at_call 19; refine (toSh_any _ _ _ _ _).mono ?_; rintro e u16 ⟨rfl, hb2⟩)
      | (go_at_call 30; refine (implAh_any _ _ _ _ _ _ _ _ _ _ _ _ _ (ht0.below hb2).sl hm0).mono ?_; rintro e u17 hR; obtain ⟨Ar3, cr3, dr3, qr3, rfl, ht3, hc3, hd3, hb3⟩ := hR.res)
      ))
  replace B0 := Lib.hid ((((B0.out.drew).below hb1).below hb2).below hb3)
  replace B1 := Lib.hid ((((B1.out.drew).below hb1).below hb2).below hb3)
  replace L1 := Lib.hid ((((L1.out.drew).below hb1).below hb2).below hb3)
  replace M2 := Lib.hid ((((M2.out.drew).below hb1).below hb2).below hb3)
  replace G := Lib.hid (((G.out.drew.trans (hb1.mono G.out.drew.size)).trans (hb2.mono (G.out.drew.trans (hb1.mono G.out.drew.size)).size)).trans (hb3.mono ((G.out.drew.trans (hb1.mono G.out.drew.size)).trans (hb2.mono (G.out.drew.trans (hb1.mono G.out.drew.size)).size)).size))
  have hz12 := hb1.size
  try simp at hz12
  have hz13 := hb2.size
  try simp at hz13
  have hz14 := hb3.size
  try simp at hz14
  clear hb1 hb2 hb3
  have L3 := Lib.hid ht3
  have C3 := Lib.hid hc3
  have hl3 : 0 < (ahR l0 s0 z0 t0 a1 b1 c1 e1 a2).length → dr3 < u17.heap.size := ht3.lt_
  clear ht3 hc3
  go_wp2_with fail
  refine (eqF_any _ _ _ _ _ _ _ _ L3.out.sl L1.out.sl hX (same_cn C3.out C1.out)).mono ?_
  rintro e w' ⟨ne18, rfl, rfl⟩
  replace B0 := Lib.hid (B0.out.drewN ne18)
  replace B1 := Lib.hid (B1.out.drewN ne18)
  replace L1 := Lib.hid (L1.out.drewN ne18)
  replace M2 := Lib.hid (M2.out.drewN ne18)
  replace L3 := Lib.hid (L3.out.drewN ne18)
  replace G := Lib.hid (below_drewN G.out ne18)
  go_wp2_with fail
  refine (heldt_any 1 M2.out hX (by omega)).mono ?_
  rintro e w' ⟨rfl, rfl⟩
  go_wp2
  go_ret
  exact ⟨rfl, G.out⟩
end Go.Proofs.Ytallegmkkbmelab.fnExactAheadOf
