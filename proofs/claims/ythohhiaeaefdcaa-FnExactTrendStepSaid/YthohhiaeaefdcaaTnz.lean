/-
  TrendStep: seeing.
-/
import Derived.Test.YthohhiaeaefdcaaTns
import Derived.Deep.DeepCutAuto
import Derived.Deep.QuietTactic
import Derived.BigQuiet
import Derived.Deep.RegionHeld3
import Derived.Test.YthohhiaeaefdcaaDrg
namespace Go.Proofs.Ythohhiaeaefdcaa
open Ieee Go.RowKit
set_option linter.unusedVariables false
/-- The receiver and the result stand in their blocks. -/
def SeW (w : World) (a b c d s t u v : Nat) (wx : World) : Prop := NumsIn wx w.heap.size [a, b, c, d, s, t, u, v] ∧ NumsIn wx (w.heap.size + 1) [0, 0, 0, 0, 0, 0, 0, 0] ∧ Below w.heap.size w wx
section
variable {w wx : World} {a b c d s t u v : Nat}
theorem SeW.drewN (h : SeW w a b c d s t u v wx) (n : Nat) : SeW w a b c d s t u v (wx.drewN n) := ⟨h.1.drewN n, h.2.1.drewN n, below_drewN h.2.2 n⟩
theorem SeW.put0 (h : SeW w a b c d s t u v wx) (q : Nat) : SeW w q b c d s t u v (wx.setCell ⟨w.heap.size, 0, none⟩ (.float .f32 q)) := ⟨h.1.put (i := 0) (by simp) q, h.2.1.set (by omega), h.2.2.setCell (Nat.le_refl _) _⟩
theorem SeW.put1 (h : SeW w a b c d s t u v wx) (q : Nat) : SeW w a q c d s t u v (wx.setCell ⟨w.heap.size, 1, none⟩ (.float .f32 q)) := ⟨h.1.put (i := 1) (by simp) q, h.2.1.set (by omega), h.2.2.setCell (Nat.le_refl _) _⟩
theorem SeW.put2 (h : SeW w a b c d s t u v wx) (q : Nat) : SeW w a b q d s t u v (wx.setCell ⟨w.heap.size, 2, none⟩ (.float .f32 q)) := ⟨h.1.put (i := 2) (by simp) q, h.2.1.set (by omega), h.2.2.setCell (Nat.le_refl _) _⟩
theorem SeW.put3 (h : SeW w a b c d s t u v wx) (q : Nat) : SeW w a b c q s t u v (wx.setCell ⟨w.heap.size, 3, none⟩ (.float .f32 q)) := ⟨h.1.put (i := 3) (by simp) q, h.2.1.set (by omega), h.2.2.setCell (Nat.le_refl _) _⟩
theorem SeW.put4 (h : SeW w a b c d s t u v wx) (q : Nat) : SeW w a b c d q t u v (wx.setCell ⟨w.heap.size, 4, none⟩ (.float .f32 q)) := ⟨h.1.put (i := 4) (by simp) q, h.2.1.set (by omega), h.2.2.setCell (Nat.le_refl _) _⟩
end
theorem se_f (c t : Nat) (w : World) {C T : Nat} (hc : cn .f32 c = C) (ht : cn .f32 t = T) : cn .f32 (fopR .add .f32 c t w) = aop .add .f32 C T := by rw [cn_fopR, hc, ht]
theorem se_op (op : BinOp) {x y X Y : Nat} (hx : cn .f32 x = X) (hy : cn .f32 y = Y) (w : World) : cn .f32 (fopR op .f32 x y w) = aop op .f32 X Y := by rw [cn_fopR, hx, hy]
theorem se_mul (op : BinOp) {x y z X Y Z : Nat} (hx : cn .f32 x = X) (hy : cn .f32 y = Y) (hz : cn .f32 z = Z) (w1 w2 : World) : cn .f32 (fopR op .f32 x (fopR .mul .f32 y z w1) w2) = aop op .f32 X (aop .mul .f32 Y Z) := by rw [cn_fopR, cn_fopR, hx, hy, hz]
/-- What notBelow gives. -/
def nbC (args : Array Value) (v : Value) : Prop := ∃ r, v = .float .f32 r ∧ cn .f32 r = nbW (match args.getD 0 undef with | .float _ b => b | _ => 0)
/-- What is seen. -/
def seF (c t : Nat) : Nat := aop .add .f32 (cn .f32 c) (cn .f32 t)
def seK (c t : Nat) : Nat := aop .quo .f32 (cn .f32 c) (seF c t)
def seH (c d t : Nat) : Nat := aop .quo .f32 (cn .f32 d) (seF c t)
def seD (a x : Nat) : Nat := aop .sub .f32 (cn .f32 x) (cn .f32 a)
def seL (a c t x : Nat) : Nat := aop .add .f32 (cn .f32 a) (aop .mul .f32 (seK c t) (seD a x))
def seS (a b c d t x : Nat) : Nat := aop .add .f32 (cn .f32 b) (aop .mul .f32 (seH c d t) (seD a x))
def seA (c t : Nat) : Nat := nbW (aop .sub .f32 (cn .f32 c) (aop .mul .f32 (seK c t) (cn .f32 c)))
def seB (c d t : Nat) : Nat := aop .sub .f32 (cn .f32 d) (aop .mul .f32 (seK c t) (cn .f32 d))
def seC (c d s t : Nat) : Nat := nbW (aop .sub .f32 (cn .f32 s) (aop .mul .f32 (seH c d t) (cn .f32 d)))
set_option maxHeartbeats 4000000 in
set_option maxRecDepth 100000 in
theorem seeing_any (a b c d s t u v x : Nat) (w : World) :
    Calls Try.prog 62 #[.agg #[.float .f32 a, .float .f32 b, .float .f32 c, .float .f32 d, .float .f32 s, .float .f32 t, .float .f32 u, .float .f32 v], .float .f32 x] w fun e w' => (∃ L S A B C, cn .f32 L = seL a c t x ∧ cn .f32 S = seS a b c d t x ∧ cn .f32 A = seA c t ∧ cn .f32 B = seB c d t ∧ cn .f32 C = seC c d s t ∧ e = .returned (.agg #[.float .f32 L, .float .f32 S, .float .f32 A, .float .f32 B, .float .f32 C, .float .f32 t, .float .f32 u, .float .f32 v])) ∧ Below w.heap.size w w' := by
  have HRES := Lib.hid (show Try.f62.results = #[.cell 4 39] by kernel_rfl)
  have HL := Lib.hid (show SeW w a b c d s t u v ((w.alloc (.cells #[.float .f32 a, .float .f32 b, .float .f32 c, .float .f32 d, .float .f32 s, .float .f32 t, .float .f32 u, .float .f32 v] 39)).alloc (.cells #[.float .f32 0, .float .f32 0, .float .f32 0, .float .f32 0, .float .f32 0, .float .f32 0, .float .f32 0, .float .f32 0] 39)) from ⟨(NumsIn.new w [a, b, c, d, s, t, u, v] 39).alloc _, NumsIn.newAt (w.alloc (.cells #[.float .f32 a, .float .f32 b, .float .f32 c, .float .f32 d, .float .f32 s, .float .f32 t, .float .f32 u, .float .f32 v] 39)) [0, 0, 0, 0, 0, 0, 0, 0] 39 (p := w.heap.size + 1) (by simp), ((Below.refl _ _).alloc (Nat.le_refl _) _).alloc (by simp) _⟩)
  go_enter Try.func62, Try.ntmps62
  go_upto_region 1 with fail
  go_cut [5] (fun s5 wx => ∃ F, s5 = .float .f32 F ∧ Hid (cn .f32 F = seF c t) ∧ Hid (SeW w a b c d s t u v wx))
  case first =>
    obtain ⟨n0, n1, n2, n3, n4, n5, n6, n7⟩ := HL.out.1.c8
    obtain ⟨g0, g1, g2, g3, g4, g5, g6, g7⟩ := HL.out.1.f8
    go_wp2_with fail
    go_meet
    case rel =>
      refine ⟨_, rfl, ?_, Lib.hid (HL.out.drewN _)⟩
      exact Lib.hid (se_op .add rfl rfl _)
  case rest =>
    obtain ⟨F, rfl, HF, hL⟩ := hcut
    replace HL := hL
    go_upto_region 2 with fail
    go_cut [6, 7] (fun s6 s7 wx => ∃ K H, s6 = .float .f32 K ∧ s7 = .float .f32 H ∧ Hid (cn .f32 K = seK c t) ∧ Hid (cn .f32 H = seH c d t) ∧ Hid (SeW w a b c d s t u v wx))
    case first =>
      obtain ⟨n0, n1, n2, n3, n4, n5, n6, n7⟩ := HL.out.1.c8
      obtain ⟨g0, g1, g2, g3, g4, g5, g6, g7⟩ := HL.out.1.f8
      go_region
      all_goals
        go_wp2_with fail
        go_meet
        case rel => exact ⟨_, _, rfl, rfl, Lib.hid (se_op .quo rfl HF.out _), Lib.hid (se_op .quo rfl HF.out _), Lib.hid (HL.out.drewN _)⟩
    case rest =>
      obtain ⟨K, H, rfl, rfl, HK, HH, hL⟩ := hcut
      replace HL := hL
      go_upto_region 3 with fail
      go_cut [8] (fun s8 wx => ∃ D, s8 = .float .f32 D ∧ Hid (cn .f32 D = seD a x) ∧ Hid (SeW w a b c d s t u v wx))
      case first =>
        obtain ⟨n0, n1, n2, n3, n4, n5, n6, n7⟩ := HL.out.1.c8
        obtain ⟨g0, g1, g2, g3, g4, g5, g6, g7⟩ := HL.out.1.f8
        go_wp2_with fail
        go_meet
        case rel =>
          refine ⟨_, rfl, ?_, Lib.hid (HL.out.drewN _)⟩
          exact Lib.hid (se_op .sub rfl rfl _)
      case rest =>
        obtain ⟨D, rfl, HD, hL⟩ := hcut
        replace HL := hL
        go_upto_region 4 with fail
        go_cut [] (fun wx => ∃ L, Hid (cn .f32 L = seL a c t x) ∧ Hid (SeW w L b c d s t u v wx))
        case first =>
          obtain ⟨n0, n1, n2, n3, n4, n5, n6, n7⟩ := HL.out.1.c8
          obtain ⟨g0, g1, g2, g3, g4, g5, g6, g7⟩ := HL.out.1.f8
          go_wp2_with fail
          go_meet
          case rel =>
            refine ⟨_, ?_, Lib.hid ((HL.out.drewN _).put0 _)⟩
            exact Lib.hid (se_mul .add rfl HK.out HD.out _ _)
        case rest =>
          obtain ⟨L, HL0, hL⟩ := hcut
          replace HL := hL
          go_upto_region 5 with fail
          go_cut [] (fun wx => ∃ S, Hid (cn .f32 S = seS a b c d t x) ∧ Hid (SeW w L S c d s t u v wx))
          case first =>
            obtain ⟨n0, n1, n2, n3, n4, n5, n6, n7⟩ := HL.out.1.c8
            obtain ⟨g0, g1, g2, g3, g4, g5, g6, g7⟩ := HL.out.1.f8
            go_wp2_with fail
            go_meet
            case rel =>
              refine ⟨_, ?_, Lib.hid ((HL.out.drewN _).put1 _)⟩
              exact Lib.hid (se_mul .add rfl HH.out HD.out _ _)
          case rest =>
            obtain ⟨S, HS, hL⟩ := hcut
            replace HL := hL
            go_upto_region 6 with fail
            go_cut [] (fun wx => ∃ A B C, Hid (cn .f32 A = seA c t) ∧ Hid (cn .f32 B = seB c d t) ∧ Hid (cn .f32 C = seC c d s t) ∧ Hid (SeW w L S A B C t u v wx))
            case first =>
              obtain ⟨n0, n1, n2, n3, n4, n5, n6, n7⟩ := HL.out.1.c8
              obtain ⟨g0, g1, g2, g3, g4, g5, g6, g7⟩ := HL.out.1.f8
              refine wp_region_G (fun _ args v => nbC args v) (fun i => (#[.free, .bound, .free, .free, .bound, .free, .free, .bound, .free, .bound, .free, .free, .bound, .free, .free, .free, .bound, .free, .free, .bound, .free, .free, .bound, .free, .put, .free, .put, .free, .put] : Array DK).getD i .free) [0, 1, 2, 3, 4, 5, 6, 7, 8, 9, 10, 11, 12, 13, 14, 15, 16, 17, 18, 19, 20, 21, 22, 23, 24, 25, 26, 27, 28] (by kernel_rfl) (by kernel_rfl) ?_
              refine wpG_free rfl rfl (fun KK hKK W0 => ?_)
              go_simp
              refine ⟨by first | exact ⟨0, rfl⟩ | exact ⟨_, rfl⟩, hKK _ ?_⟩
              clear hKK KK
              refine wpG_bound rfl rfl (fun KK hKK n => ?_)
              go_simp
              refine ⟨by first | exact ⟨0, rfl⟩ | exact ⟨_, rfl⟩, hKK _ ?_⟩
              clear hKK KK
              refine wpG_free rfl rfl (fun KK hKK W2 => ?_)
              go_simp
              refine ⟨by first | exact ⟨0, rfl⟩ | exact ⟨_, rfl⟩, hKK _ ?_⟩
              clear hKK KK
              refine wpG_free rfl rfl (fun KK hKK W3 => ?_)
              go_simp
              refine ⟨by first | exact ⟨0, rfl⟩ | exact ⟨_, rfl⟩, hKK _ ?_⟩
              clear hKK KK
              refine wpG_bound rfl rfl (fun KK hKK n => ?_)
              go_simp
              refine ⟨by first | exact ⟨0, rfl⟩ | exact ⟨_, rfl⟩, hKK _ ?_⟩
              clear hKK KK
              refine wpG_free rfl rfl (fun KK hKK W5 => ?_)
              go_simp
              refine ⟨by first | exact ⟨0, rfl⟩ | exact ⟨_, rfl⟩, hKK _ ?_⟩
              clear hKK KK
              refine wpG_free rfl rfl (fun KK hKK W6 => ?_)
              go_simp
              refine ⟨by first | exact ⟨0, rfl⟩ | exact ⟨_, rfl⟩, hKK _ ?_⟩
              clear hKK KK
              refine wpG_bound rfl rfl (fun KK hKK n => ?_)
              go_simp
              refine ⟨⟨0, rfl⟩, (imNb_any _ _).mono ?_, ?_⟩
              · rintro e w' ⟨⟨r, hr, rfl⟩, rfl⟩; exact ⟨_, rfl, ⟨0, rfl⟩, r, rfl, hr⟩
              rintro v ⟨rA, rfl, hrA⟩
              refine hKK _ ?_
              clear hKK KK
              have HA := Lib.hid (show cn .f32 rA = seA c t from hrA.trans (nbW_congr ((se_mul .sub rfl HK.out rfl _ _).trans (cn_aop ..).symm)))
              clear hrA
              refine wpG_free rfl rfl (fun KK hKK W8 => ?_)
              go_simp
              refine ⟨by first | exact ⟨0, rfl⟩ | exact ⟨_, rfl⟩, hKK _ ?_⟩
              clear hKK KK
              refine wpG_bound rfl rfl (fun KK hKK n => ?_)
              go_simp
              refine ⟨by first | exact ⟨0, rfl⟩ | exact ⟨_, rfl⟩, hKK _ ?_⟩
              clear hKK KK
              refine wpG_free rfl rfl (fun KK hKK W10 => ?_)
              go_simp
              refine ⟨by first | exact ⟨0, rfl⟩ | exact ⟨_, rfl⟩, hKK _ ?_⟩
              clear hKK KK
              refine wpG_free rfl rfl (fun KK hKK W11 => ?_)
              go_simp
              refine ⟨by first | exact ⟨0, rfl⟩ | exact ⟨_, rfl⟩, hKK _ ?_⟩
              clear hKK KK
              refine wpG_bound rfl rfl (fun KK hKK n => ?_)
              go_simp
              refine ⟨by first | exact ⟨0, rfl⟩ | exact ⟨_, rfl⟩, hKK _ ?_⟩
              clear hKK KK
              refine wpG_free rfl rfl (fun KK hKK W13 => ?_)
              go_simp
              refine ⟨by first | exact ⟨0, rfl⟩ | exact ⟨_, rfl⟩, hKK _ ?_⟩
              clear hKK KK
              refine wpG_free rfl rfl (fun KK hKK W14 => ?_)
              go_simp
              refine ⟨by first | exact ⟨0, rfl⟩ | exact ⟨_, rfl⟩, hKK _ ?_⟩
              clear hKK KK
              obtain ⟨vB, hvB⟩ : ∃ v, fopR .sub .f32 d (fopR .mul .f32 K d W13) W14 = v := ⟨_, rfl⟩
              rw [hvB]
              have HB := Lib.hid (show cn .f32 vB = seB c d t by rw [← hvB]; exact se_mul .sub rfl HK.out rfl _ _)
              clear hvB
              refine wpG_free rfl rfl (fun KK hKK W15 => ?_)
              go_simp
              refine ⟨by first | exact ⟨0, rfl⟩ | exact ⟨_, rfl⟩, hKK _ ?_⟩
              clear hKK KK
              refine wpG_bound rfl rfl (fun KK hKK n => ?_)
              go_simp
              refine ⟨by first | exact ⟨0, rfl⟩ | exact ⟨_, rfl⟩, hKK _ ?_⟩
              clear hKK KK
              refine wpG_free rfl rfl (fun KK hKK W17 => ?_)
              go_simp
              refine ⟨by first | exact ⟨0, rfl⟩ | exact ⟨_, rfl⟩, hKK _ ?_⟩
              clear hKK KK
              refine wpG_free rfl rfl (fun KK hKK W18 => ?_)
              go_simp
              refine ⟨by first | exact ⟨0, rfl⟩ | exact ⟨_, rfl⟩, hKK _ ?_⟩
              clear hKK KK
              refine wpG_bound rfl rfl (fun KK hKK n => ?_)
              go_simp
              refine ⟨by first | exact ⟨0, rfl⟩ | exact ⟨_, rfl⟩, hKK _ ?_⟩
              clear hKK KK
              refine wpG_free rfl rfl (fun KK hKK W20 => ?_)
              go_simp
              refine ⟨by first | exact ⟨0, rfl⟩ | exact ⟨_, rfl⟩, hKK _ ?_⟩
              clear hKK KK
              refine wpG_free rfl rfl (fun KK hKK W21 => ?_)
              go_simp
              refine ⟨by first | exact ⟨0, rfl⟩ | exact ⟨_, rfl⟩, hKK _ ?_⟩
              clear hKK KK
              refine wpG_bound rfl rfl (fun KK hKK n => ?_)
              go_simp
              refine ⟨⟨0, rfl⟩, (imNb_any _ _).mono ?_, ?_⟩
              · rintro e w' ⟨⟨r, hr, rfl⟩, rfl⟩; exact ⟨_, rfl, ⟨0, rfl⟩, r, rfl, hr⟩
              rintro v ⟨rC, rfl, hrC⟩
              refine hKK _ ?_
              clear hKK KK
              have HC := Lib.hid (show cn .f32 rC = seC c d s t from hrC.trans (nbW_congr ((se_mul .sub rfl HH.out rfl _ _).trans (cn_aop ..).symm)))
              clear hrC
              refine wpG_free rfl rfl (fun KK hKK W23 => ?_)
              go_simp
              refine ⟨by first | exact ⟨0, rfl⟩ | exact ⟨_, rfl⟩, hKK _ ?_⟩
              clear hKK KK
              refine wpG_put (World.setCell wc.drew ⟨w.heap.size, 2, none⟩ (.float .f32 rA)) rfl rfl (by kernel_rfl) (fun n => ?_) ?_
              · go_simp; rfl
              refine wpG_free rfl rfl (fun KK hKK W25 => ?_)
              go_simp
              refine ⟨by first | exact ⟨0, rfl⟩ | exact ⟨_, rfl⟩, hKK _ ?_⟩
              clear hKK KK
              refine wpG_put (World.setCell (World.setCell wc.drew ⟨w.heap.size, 2, none⟩ (.float .f32 rA)) ⟨w.heap.size, 3, none⟩ (.float .f32 vB)) rfl rfl (by kernel_rfl) (fun n => ?_) ?_
              · go_simp; rfl
              refine wpG_free rfl rfl (fun KK hKK W27 => ?_)
              go_simp
              refine ⟨by first | exact ⟨0, rfl⟩ | exact ⟨_, rfl⟩, hKK _ ?_⟩
              clear hKK KK
              refine wpG_put (World.setCell (World.setCell (World.setCell wc.drew ⟨w.heap.size, 2, none⟩ (.float .f32 rA)) ⟨w.heap.size, 3, none⟩ (.float .f32 vB)) ⟨w.heap.size, 4, none⟩ (.float .f32 rC)) rfl rfl (by kernel_rfl) (fun n => ?_) ?_
              · go_simp; rfl
              refine wpG_nil (fun k => ?_)
              go_wp2_with fail
              go_meet
              case rel => exact ⟨rA, vB, rC, HA, HB, HC, Lib.hid (((((show SeW w L S c d s t u v wc.drew from HL.out.drewN 1).put2 rA).put3 vB).put4 rC).drewN _)⟩
            case rest =>
              obtain ⟨A, B, C, HA, HB, HC, hL⟩ := hcut
              replace HL := hL
              obtain ⟨n0, n1, n2, n3, n4, n5, n6, n7⟩ := HL.out.1.c8
              obtain ⟨g0, g1, g2, g3, g4, g5, g6, g7⟩ := HL.out.1.f8
              obtain ⟨r0, r1, r2, r3, r4, r5, r6, r7⟩ := HL.out.2.1.c8
              obtain ⟨f0, f1, f2, f3, f4, f5, f6, f7⟩ := HL.out.2.1.f8
              go_wp2_with fail
              refine bodyPost_ret (v := .agg #[.float .f32 L, .float .f32 S, .float .f32 A, .float .f32 B, .float .f32 C, .float .f32 t, .float .f32 u, .float .f32 v]) ?_ rfl ⟨⟨L, S, A, B, C, HL0.out, HS.out, HA.out, HB.out, HC.out, rfl⟩, ?_⟩
              · have hres := HRES.out
                simp only [results, hres]
                go_simp
              · exact ((((((((((((((((HL.out.2.2).setCell (by show w.heap.size ≤ w.heap.size + 1; omega) _)).setCell (by show w.heap.size ≤ w.heap.size + 1; omega) _)).setCell (by show w.heap.size ≤ w.heap.size + 1; omega) _)).setCell (by show w.heap.size ≤ w.heap.size + 1; omega) _)).setCell (by show w.heap.size ≤ w.heap.size + 1; omega) _)).setCell (by show w.heap.size ≤ w.heap.size + 1; omega) _)).setCell (by show w.heap.size ≤ w.heap.size + 1; omega) _)).setCell (by show w.heap.size ≤ w.heap.size + 1; omega) _)
end Go.Proofs.Ythohhiaeaefdcaa
