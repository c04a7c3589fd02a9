/-
  AheadOf of the program: the whole function.
-/
import Derived.Test.YtallegmkkbmelabAhi
namespace Go.Proofs.Ytallegmkkbmelab
open Ieee Go.RowKit
set_option linter.unusedVariables false

theorem AhI.start {bs bh l s b off len cap : Nat} {zs : List Nat} {t : Int} {x y c d : Nat} {w : World} {T T' : TypeId} (h1 : StIn w bs l s (some ⟨b, off, none⟩) len cap t) (h2 : ShIn w bh x y c d) (hb : b < bs) (h3 : ∀ j, j < len → w.cell? ⟨b, off + j, none⟩ = some (.float .f32 (zs.getD j 0))) :
    AhI bs bh w.heap.size (w.heap.size + 1) l s (some ⟨b, off, none⟩) len cap zs t x y c d 0 ((w.alloc (.cells #[.float .f32 d] T)).alloc (.cells #[.float .f32 d] T')) := by
  have hlt := h1.lt
  refine ⟨(h1.alloc _).alloc _, (h2.alloc _).alloc _, ⟨b, off, rfl, hb, fun j hj => ?_⟩, ⟨d, ?_, rfl⟩, ?_, ⟨d, ?_, rfl⟩, ?_⟩
  · rw [World.cell?_alloc_past _ _ _ (by simp; omega), World.cell?_alloc_past _ _ _ (by show b < w.heap.size; omega)]; exact h3 j hj
  · rw [World.cell?_alloc_past _ _ _ (by simp), World.cell?_alloc_at _ _ _ _ rfl]; rfl
  · go_simp
  · rw [World.cell?_alloc_at _ _ _ _ (by simp)]; rfl
  · exact World.frozen?_alloc_at _ _ _ _ (by simp)

theorem AhI.drew {bs bh bv bn l s : Nat} {a : Option Addr} {len cap : Nat} {zs : List Nat} {t : Int} {x y c d k : Nat} {wr : World} (h : AhI bs bh bv bn l s a len cap zs t x y c d k wr) : AhI bs bh bv bn l s a len cap zs t x y c d k wr.drew := h
theorem AhI.swap {bs bh bv bn l s : Nat} {a : Option Addr} {len cap : Nat} {zs : List Nat} {t : Int} {x y c d : Nat} {wr : World} (h : AhI bs bh bv bn l s a len cap zs t x y c d 0 wr) : AhI bs bh bn bv l s a len cap zs t x y c d 0 wr :=
  ⟨h.1, h.2.1, h.2.2.1, h.2.2.2.2.2.1, h.2.2.2.2.2.2, h.2.2.2.1, h.2.2.2.2.1⟩
theorem ahKeep {l s : Nat} {a : Option Addr} {len cap : Nat} {zs : List Nat} {t : Int} {x y c d bs bh bv bn : Nat} {W : World} (h1 : bh < W.heap.size) (h2 : bs < W.heap.size) (h3 : bv < W.heap.size) (h4 : bn < W.heap.size) :
    ∀ k wr wr', AhI bs bh bv bn l s a len cap zs t x y c d k wr → Below W.heap.size wr wr' → AhI bs bh bv bn l s a len cap zs t x y c d k wr' :=
  fun k wr wr' h hb => h.keep h2 h1 h3 h4 hb
theorem ahCalls {l s : Nat} {a : Option Addr} {len cap N : Nat} {zs : List Nat} {k0 x y c d bs bv bn : Nat} {W : World} (h1 : bs + 1 < bv) (h2 : bs + 1 < bn) (h3 : bv ≠ bn) (h4 : bn < W.heap.size) (h5 : bv < W.heap.size) (hl : zs.length = len) (hkl : k0 < len) (hm : len ≤ 1048576) (hN : N ≤ 32) :
    ∀ k wr, k < N → W.heap.size < wr.heap.size → AhI bs (bs + 1) bv bn l s a len cap zs (k0 : Int) x y c d k wr → Calls Try.prog 64 (#[.int .i64 k] ++ #[.pointer (some ⟨bs, 0, none⟩), .pointer (some ⟨bv, 0, none⟩), .pointer (some ⟨bn, 0, none⟩), .pointer (some ⟨bs + 1, 0, none⟩)]) wr (Tells (ahT l s zs (k0 : Int) d) (AhI bs (bs + 1) bv bn l s a len cap zs (k0 : Int) x y c d) bs W.heap.size k wr) :=
  fun k wr hk hsz hI => ah1_any bs (bs + 1) bv bn bs W.heap.size l s a len cap zs k0 x y c d k wr hI hsz hl hkl hm (by omega) (by omega) h1 h2 h3 h4 h5 (Nat.le_refl _)
set_option maxHeartbeats 800000 in
set_option maxRecDepth 100000 in
theorem implAh_any (l s : Nat) (a : Option Addr) (len cap : Nat) (zs : List Nat) (t : Int) (x y c d : Nat) (n : Int) (w : World) (h : FSl w a len zs) (hm : len ≤ 1048576) :
    Calls Try.prog 30 #[.agg #[.float .f32 l, .float .f32 s, .slice a len cap, .int .i64 t], .agg #[.float .f32 x, .float .f32 y, .float .f32 c, .float .f32 d], .int .i64 n] w (RetOB 28 (ahR l s zs t x y c d n) (ahB l s zs t x y c d n) w) := by
  have hmf : ∀ (fn : Fn) (first cap : Array Value) (w : World), (Instr.makeFunc fn first cap).run Try.prog w = .ok (.func fn first cap) w := fun _ _ _ _ => rfl
  have G1 := (Below.refl w.heap.size w).alloc (Nat.le_refl _) (.cells #[.float .f32 l, .float .f32 s, .slice a len cap, .int .i64 t] 36)
  have G := Lib.hid (G1.alloc (by simp) (.cells #[.float .f32 x, .float .f32 y, .float .f32 c, .float .f32 d] 38))
  have HI := Lib.hid ((StIn.new w l s a len cap t 36).alloc (.cells #[.float .f32 x, .float .f32 y, .float .f32 c, .float .f32 d] 38))
  have HJ := Lib.hid (show ShIn _ (w.heap.size + 1) x y c d from by simpa using ShIn.new (w.alloc (.cells #[.float .f32 l, .float .f32 s, .slice a len cap, .int .i64 t] 36)) x y c d 38)
  have H := Lib.hid (FSl.below h G.out)
  have H0 := Lib.hid h
  have HL := Lib.hid h.1
  clear h G1
  cases hs : stB l s zs t
  · have HS := Lib.hid hs
    have HB := Lib.hid (ah_bad (a := x) (b := y) (c := c) (d := d) (n := n) (show ah0 l s zs t x y c d n = false by unfold ah0; rw [hs]; rfl))
    clear hs
    go_enter Try.func30, Try.ntmps30
    go_wp2_with fail
    refine (imVSt_any _ _ _ _ _ _ _ _ H.out hm).mono ?_
    rw [HS.out]
    rintro e w1 ⟨rfl, b1⟩
    have G2 := Lib.hid (G.out.trans (b1.mono G.out.size))
    clear b1
    go_wp2_with fail
    go_ret2
    exact fail_ob _ HB.out.1 HB.out.2 G2.out
  · cases hh : shB4 x y c d
    · have HS := Lib.hid hs
      have HH := Lib.hid hh
      have HB := Lib.hid (ah_bad (a := x) (b := y) (c := c) (d := d) (n := n) (show ah0 l s zs t x y c d n = false by unfold ah0; rw [hs, hh]; rfl))
      clear hs hh
      go_enter Try.func30, Try.ntmps30
      go_wp2_with fail
      refine (imVSt_any _ _ _ _ _ _ _ _ H.out hm).mono ?_
      rw [HS.out]
      rintro e w1 ⟨rfl, b1⟩
      have G2 := Lib.hid (G.out.trans (b1.mono G.out.size))
      obtain ⟨e0, e1, e2, e3⟩ := HJ.out.below b1
      clear b1
      go_wp2_with fail
      refine (imVSh_any _ _ _ _ _).mono ?_
      rw [HH.out]
      rintro e w2 ⟨rfl, b2⟩
      have G3 := Lib.hid (G2.out.trans (b2.mono G2.out.size))
      clear b2
      go_wp2_with fail
      go_ret2
      exact fail_ob _ HB.out.1 HB.out.2 G3.out
    · cases hn : decide (1 ≤ n ∧ n ≤ 32)
      · have HS := Lib.hid hs
        have HH := Lib.hid hh
        have HN := Lib.hid hn
        have HB := Lib.hid (ah_bad (a := x) (b := y) (c := c) (d := d) (n := n) (show ah0 l s zs t x y c d n = false by unfold ah0; rw [hs, hh, hn]; rfl))
        clear hs hh hn
        go_enter Try.func30, Try.ntmps30
        go_wp2_with fail
        refine (imVSt_any _ _ _ _ _ _ _ _ H.out hm).mono ?_
        rw [HS.out]
        rintro e w1 ⟨rfl, b1⟩
        have G2 := Lib.hid (G.out.trans (b1.mono G.out.size))
        obtain ⟨e0, e1, e2, e3⟩ := HJ.out.below b1
        clear b1
        go_wp2_with fail
        refine (imVSh_any _ _ _ _ _).mono ?_
        rw [HH.out]
        rintro e w2 ⟨rfl, b2⟩
        have G3 := Lib.hid (G2.out.trans (b2.mono G2.out.size))
        clear b2
        go_wp2_with fail
        refine (reach_any _ _).mono ?_
        rw [HN.out]
        rintro e w' ⟨rfl, rfl⟩
        go_wp2_with fail
        go_ret2
        exact fail_ob _ HB.out.1 HB.out.2 G3.out
      · obtain ⟨-, -, -, t0, t1⟩ := stB_t hs
        obtain ⟨k0, hk⟩ : ∃ k0 : Nat, t = k0 := ⟨t.toNat, by omega⟩
        rw [HL.out] at t1
        have hkl : k0 < len := by omega
        have hn2 := of_decide_eq_true hn
        obtain ⟨N, hN⟩ : ∃ N : Nat, n = N := ⟨n.toNat, by omega⟩
        have HS := Lib.hid hs
        have HH := Lib.hid hh
        have HN := Lib.hid hn
        have HB := Lib.hid (ah_good (show ah0 l s zs t x y c d n = true by unfold ah0; rw [hs, hh, hn]; rfl))
        subst hk hN
        have hN32 : N ≤ 32 := by omega
        clear hs hh hn t0 t1 hn2
        obtain ⟨b, off, rfl, hb, hc⟩ := H0.out.at (by omega)
        have HC := Lib.hid hc
        clear hc
        go_enter Try.func30, Try.ntmps30
        go_wp2_with fail
        refine (imVSt_any _ _ _ _ _ _ _ _ H.out hm).mono ?_
        rw [HS.out]
        rintro e w1 ⟨rfl, b1⟩
        have G2 := Lib.hid (G.out.trans (b1.mono G.out.size))
        have HJ1 := Lib.hid (HJ.out.below b1)
        have HI1 := Lib.hid (HI.out.below b1)
        clear b1
        obtain ⟨e0, e1, e2, e3⟩ := HJ1.out
        go_wp2_with fail
        refine (imVSh_any _ _ _ _ _).mono ?_
        rw [HH.out]
        rintro e w2 ⟨rfl, b2⟩
        have G3 := Lib.hid (G2.out.trans (b2.mono G2.out.size))
        have HJ2 := Lib.hid (HJ1.out.below b2)
        have HI2 := Lib.hid (HI1.out.below b2)
        clear b2 e0 e1 e2 e3
        obtain ⟨e0, e1, e2, e3⟩ := HJ2.out
        have hs1 : w.heap.size + 1 < w2.heap.size := HJ2.out.lt
        have hs0 : w.heap.size < w2.heap.size := by omega
        have HA := Lib.hid (AhI.start (T := 28) (T' := 28) HI2.out HJ2.out hb (fun j hj => by rw [G3.out.cell (p := ⟨b, off + j, none⟩) hb]; exact HC.out j hj))
        have HGA := Lib.hid ((G3.out.alloc (by omega) (.cells #[.float .f32 d] 28)).alloc (by simp; omega) (.cells #[.float .f32 d] 28))
        have hWs : (World.drew ((w2.alloc (.cells #[.float .f32 d] 28)).alloc (.cells #[.float .f32 d] 28))).heap.size = w2.heap.size + 1 + 1 := by simp
        have hBs : w.heap.size ≤ (World.drew ((w2.alloc (.cells #[.float .f32 d] 28)).alloc (.cells #[.float .f32 d] 28))).heap.size := by rw [hWs]; omega
        have HBs := Lib.hid hBs
        have HAD := Lib.hid HA.out.drew
        have HGD := Lib.hid HGA.out.drew
        have HEN := Lib.hid (enter_of Try.func64 (by kernel_rfl) rfl)
        have HPL := Lib.hid (places_any 64 #[.pointer (some ⟨w.heap.size, 0, none⟩), .pointer (some ⟨w2.heap.size, 0, none⟩), .pointer (some ⟨w2.heap.size + 1, 0, none⟩), .pointer (some ⟨w.heap.size + 1, 0, none⟩)] _ _ w.heap.size N _ HEN.out (by omega) HBs.out HAD.out (ahKeep (l := l) (s := s) (a := some ⟨b, off, none⟩) (len := len) (cap := cap) (zs := zs) (t := (k0 : Int)) (x := x) (y := y) (c := c) (d := d) (bs := w.heap.size) (bh := w.heap.size + 1) (bv := w2.heap.size) (bn := w2.heap.size + 1) (by rw [hWs]; omega) (by rw [hWs]; omega) (by rw [hWs]; omega) (by rw [hWs]; omega)) (ahCalls (l := l) (s := s) (a := some ⟨b, off, none⟩) (cap := cap) (x := x) (y := y) (c := c) (d := d) (bs := w.heap.size) (bv := w2.heap.size) (bn := w2.heap.size + 1) (by omega) (by omega) (by omega) (by rw [hWs]; omega) (by rw [hWs]; omega) HL.out hkl hm (show N ≤ 32 from hN32)))
        have HPS := Lib.hid (places_any 64 #[.pointer (some ⟨w.heap.size, 0, none⟩), .pointer (some ⟨w2.heap.size + 1, 0, none⟩), .pointer (some ⟨w2.heap.size, 0, none⟩), .pointer (some ⟨w.heap.size + 1, 0, none⟩)] _ _ w.heap.size N _ HEN.out (by omega) HBs.out HAD.out.swap (ahKeep (l := l) (s := s) (a := some ⟨b, off, none⟩) (len := len) (cap := cap) (zs := zs) (t := (k0 : Int)) (x := x) (y := y) (c := c) (d := d) (bs := w.heap.size) (bh := w.heap.size + 1) (bv := w2.heap.size + 1) (bn := w2.heap.size) (by rw [hWs]; omega) (by rw [hWs]; omega) (by rw [hWs]; omega) (by rw [hWs]; omega)) (ahCalls (l := l) (s := s) (a := some ⟨b, off, none⟩) (cap := cap) (x := x) (y := y) (c := c) (d := d) (bs := w.heap.size) (bv := w2.heap.size + 1) (bn := w2.heap.size) (by omega) (by omega) (by omega) (by rw [hWs]; omega) (by rw [hWs]; omega) HL.out hkl hm (show N ≤ 32 from hN32)))
        clear hBs hWs
        go_wp2_with fail
        refine (reach_any _ _).mono ?_
        rw [HN.out]
        rintro e w' ⟨rfl, rfl⟩
        go_wp2_with fail
        go_region
        · go_wp2_with fail
          refine HPL.out.mono ?_
          rintro e w3 ⟨v, rs, rfl, ho, hx, hb3⟩
          have HO := Lib.hid (ho.mono HBs.out)
          have HX := Lib.hid (show cnl rs = lstR (ahL l s zs (k0 : Int) d (N : Int)) from hx)
          have HBl := Lib.hid (HGD.out.trans hb3)
          have HF := Lib.hid (show fins (tells (ahT l s zs (k0 : Int) d) N) = ahB l s zs (k0 : Int) x y c d (N : Int) by rw [HB.out.1]; rfl)
          rw [HF.out]
          clear ho hx hb3
          go_wp2
          go_ret2
          exact ⟨v, rs, rfl, HO.out, HX.out.trans HB.out.2.symm, HBl.out⟩
        · go_wp2_with fail
          refine HPS.out.mono ?_
          rintro e w3 ⟨v, rs, rfl, ho, hx, hb3⟩
          have HO := Lib.hid (ho.mono HBs.out)
          have HX := Lib.hid (show cnl rs = lstR (ahL l s zs (k0 : Int) d (N : Int)) from hx)
          have HBl := Lib.hid (HGD.out.trans hb3)
          have HF := Lib.hid (show fins (tells (ahT l s zs (k0 : Int) d) N) = ahB l s zs (k0 : Int) x y c d (N : Int) by rw [HB.out.1]; rfl)
          rw [HF.out]
          clear ho hx hb3
          go_wp2
          go_ret2
          exact ⟨v, rs, rfl, HO.out, HX.out.trans HB.out.2.symm, HBl.out⟩
end Go.Proofs.Ytallegmkkbmelab
