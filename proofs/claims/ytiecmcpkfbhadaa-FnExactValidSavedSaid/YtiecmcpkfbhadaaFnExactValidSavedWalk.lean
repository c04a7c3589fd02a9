import Derived.Test.YtiecmcpkfbhadaaSvv
import Derived.Deep.RegionHeld3
namespace Go.Proofs.Ytiecmcpkfbhadaa.fnExactValidSaved
open Go.RowKit Ieee
set_option linter.unusedVariables false
set_option maxHeartbeats 2000000 in
set_option maxRecDepth 100000 in
theorem walk (s0 : ByteArray) (t0 : Int) (a0 : Option Addr) (len0 cap0 : Nat) (z0 : List Nat) (w : World) (y0 : s0.size ≤ maxLen) (x0 : (Lit.int .i64 t0).wf = true) (w0 : FRow w a0 len0 cap0 z0) :
    Calls Try.prog 3 #[.agg #[.string s0, .int .i64 t0, .slice a0 len0 cap0]] w fun e w' => e = .returned (.bool true) ∧ Below w.heap.size w w' := by
  obtain ⟨hs0, hlc0, hcm0, _⟩ := w0
  have H0 := Lib.hid hs0
  clear hs0
  have G := Lib.hid (Below.refl w.heap.size w)
  have B0 := Lib.hid (SvIn.new w s0 t0 a0 len0 cap0 24)
  replace G := Lib.hid (G.out.alloc (Nat.le_refl _) (.cells #[.string s0, .int .i64 t0, .slice a0 len0 cap0] 24))
  by_cases hn0 : s0.size + len0 ≤ 1048576
  rotate_left
  · go_enter Try.func3, Try.ntmps3
    obtain ⟨k0, k1, k2⟩ := B0.out
    go_wp2_with fail
    refine (szSv_no _ _ _ _ _ 1048576 _ (by omega) (by omega) (by unfold maxLen at *; omega) y0).mono ?_
    rintro e u1 ⟨rfl, b⟩
    clear k0 k1 k2
    replace G := Lib.hid (G.out.trans (b.mono G.out.size))
    clear b
    go_wp2
    go_ret
    exact ⟨rfl, G.out⟩
  have hm0 : len0 ≤ 1048576 := by omega
  have hy0 : s0.size ≤ 1048576 := by omega
  go_enter Try.func3, Try.ntmps3
  obtain ⟨k0, k1, k2⟩ := B0.out
  go_wp2_with fail
  refine (szSv_any _ _ _ _ _ 1048576 _ (by omega) (by omega)).mono ?_
  rintro e u2 ⟨rfl, b⟩
  clear k0 k1 k2
  replace B0 := Lib.hid (B0.out.below b)
  replace G := Lib.hid (G.out.trans (b.mono G.out.size))
  clear b
  obtain ⟨k0, k1, k2⟩ := B0.out
  go_wp2_with fail
  refine (toSv_any _ _ _ _ _ _ _ (FSl.below H0.out G.out) hm0).mono ?_
  rintro e u3 ⟨rfl, t, b, q⟩
  clear k0 k1 k2
  replace B0 := Lib.hid (B0.out.below b)
  replace G := Lib.hid (G.out.trans (b.mono G.out.size))
  clear b
  have S0 := Lib.hid t
  clear t q
  go_wp2_with fail
  refine (spVsv_any _ _ _ _ _ _ _ S0.out.sl hm0 hy0).mono ?_
  rintro e u4 ⟨rfl, b⟩
  replace B0 := Lib.hid (B0.out.below b)
  replace G := Lib.hid (G.out.trans (b.mono G.out.size))
  clear b
  clear S0
  obtain ⟨k0, k1, k2⟩ := B0.out
  go_wp2_with fail
  refine (toSv_any _ _ _ _ _ _ _ (FSl.below H0.out G.out) hm0).mono ?_
  rintro e u5 ⟨rfl, t, b, q⟩
  clear k0 k1 k2
  replace B0 := Lib.hid (B0.out.below b)
  replace G := Lib.hid (G.out.trans (b.mono G.out.size))
  clear b
  have X0 := Lib.hid t
  clear t q
  have ba := (Below.refl u5.heap.size u5).alloc (Nat.le_refl _) (.cells #[.string s0, .int .i64 t0, .slice (some ⟨u4.heap.size + 1 + 1 + 1, 0, none⟩) len0 len0] 27)
  replace B0 := Lib.hid (B0.out.below ba)
  replace X0 := Lib.hid (X0.out.below ba)
  replace G := Lib.hid (G.out.trans (ba.mono G.out.size))
  clear ba
  have BX0 := Lib.hid (SvIn.new u5 s0 t0 (some ⟨u4.heap.size + 1 + 1 + 1, 0, none⟩) len0 len0 27)
  obtain ⟨kBX0_0, kBX0_1, kBX0_2⟩ := BX0.out
  go_wp2_with fail
  refine (imVsv_any _ _ _ _ _ _ _ X0.out.sl hm0 hy0).mono ?_
  rintro e u6 ⟨rfl, b⟩
  clear kBX0_0 kBX0_1 kBX0_2
  replace B0 := Lib.hid (B0.out.below b)
  replace X0 := Lib.hid (X0.out.below b)
  replace BX0 := Lib.hid (BX0.out.below b)
  replace G := Lib.hid (G.out.trans (b.mono G.out.size))
  clear b
  go_wp2_with fail
  obtain ⟨kBX0_0, kBX0_1, kBX0_2⟩ := BX0.out
  obtain ⟨kB0_0, kB0_1, kB0_2⟩ := B0.out
  go_region_held3 (fun w' => w'.cell? ⟨u5.heap.size, 0, none⟩ = some (.string s0) ∧ w'.cell? ⟨u5.heap.size, 1, none⟩ = some (.int .i64 t0) ∧ w'.cell? ⟨u5.heap.size, 2, none⟩ = some (.slice (some ⟨u4.heap.size + 1 + 1 + 1, 0, none⟩) len0 len0) ∧ w'.cell? ⟨w.heap.size, 0, none⟩ = some (.string s0) ∧ w'.cell? ⟨w.heap.size, 1, none⟩ = some (.int .i64 t0) ∧ w'.cell? ⟨w.heap.size, 2, none⟩ = some (.slice a0 len0 cap0))
    (first | go_keep | exact ⟨((BX0.out.drew.below hb1).below hb2).1, ((BX0.out.drew.below hb1).below hb2).2.1, ((BX0.out.drew.below hb1).below hb2).2.2, ((B0.out.drew.below hb1).below hb2).1, ((B0.out.drew.below hb1).below hb2).2.1, ((B0.out.drew.below hb1).below hb2).2.2⟩ | exact ⟨(BX0.out.drew.below hb1).1, (BX0.out.drew.below hb1).2.1, (BX0.out.drew.below hb1).2.2, (B0.out.drew.below hb1).1, (B0.out.drew.below hb1).2.1, (B0.out.drew.below hb1).2.2⟩)
    ((first
      | (go_at_call 17; refine (toSv_any _ _ _ _ _ _ _ (FSl.below H0.out (below_drewN G.out 1)) hm0).mono ?_; rintro e u7 ⟨rfl, ht0, hb1, hq⟩)
      | (go_at_call 19; refine (eqSv_any _ _ _ _ _ _ _ _ _ _ ((X0.out.drew).below hb1).sl ht0.sl hm0 (fun _ _ => rfl)).mono ?_; rintro e u8 ⟨rfl, hb2⟩)
      ))
  clear kBX0_0 kBX0_1 kBX0_2
  clear kB0_0 kB0_1 kB0_2
  have G1 := Lib.hid ((below_drewN G.out 1).trans (hb1.mono (below_drewN G.out 1).size))
  replace G := Lib.hid (G1.out.trans (hb2.mono G1.out.size))
  clear hb1 hb2
  go_wp2
  go_ret
  exact ⟨rfl, G.out⟩
end Go.Proofs.Ytiecmcpkfbhadaa.fnExactValidSaved
