/-
  Desks: as they come in; the law's copies.
-/
import Derived.Test.YtcfejkkkleiejaaStl
import Derived.Test.YtcfejkkkleiejaaShl
import Derived.Test.YtcfejkkkleiejaaCSer
import Derived.Test.YtcfejkkkleiejaaCis
namespace Go.Proofs.Ytcfejkkkleiejaa
open Ieee Go.RowKit Go.WideShapes Go.ChangeShapes Go.Joins Go.Deep
set_option linter.unusedVariables false
section
variable {H : Type} {enc : TypeId × Value → H} {P : Program} {w : World} {base : Nat} {spare : Nat → Bool} {held : Bool}
theorem array10 {α : Type} {cs : Array α} (h : cs.size = 10) : ∃ c0 c1 c2 c3 c4 c5 c6 c7 c8 c9, cs = #[c0, c1, c2, c3, c4, c5, c6, c7, c8, c9] := by
  obtain ⟨l⟩ := cs
  match l, h with
  | [c0, c1, c2, c3, c4, c5, c6, c7, c8, c9], _ => exact ⟨c0, c1, c2, c3, c4, c5, c6, c7, c8, c9, rfl⟩
/-- A desk, opened. -/
theorem desk_of {r : Reach} {b0 : Nat} {t e e2 : TypeId} {f0 f1 f2 f3 g0 g1 g2 g3 k0 k1 k2 k3 : Field} {v : Value} {d : DataW H} {p : List MemPlace} (hs : P.underlying t = some (.struct #[f0, f1, f2, f3])) (hC : P.cellsOf t = 10)
    (ho : f0.offset = 0 ∧ f1.offset = 1 ∧ f2.offset = 5 ∧ f3.offset = 9) (hc : P.cellsOf f0.type = 1 ∧ P.cellsOf f1.type = 4 ∧ P.cellsOf f2.type = 4 ∧ P.cellsOf f3.type = 1)
    (h0 : P.underlying f0.type = some (.slice e)) (he : P.underlying e = some (.float .f32)) (hce : P.cellsOf e = 1)
    (h1 : P.underlying f1.type = some (.struct #[g0, g1, g2, g3])) (hone1 : oneCellFields P #[g0, g1, g2, g3] = true)
    (hg0 : P.underlying g0.type = some (.float .f32)) (hg1 : P.underlying g1.type = some (.float .f32)) (hg2 : P.underlying g2.type = some (.slice e2)) (he2 : P.underlying e2 = some (.float .f32)) (hce2 : P.cellsOf e2 = 1) (hg3 : P.underlying g3.type = some (.int .i64))
    (h2 : P.underlying f2.type = some (.struct #[k0, k1, k2, k3])) (hone2 : oneCellFields P #[k0, k1, k2, k3] = true)
    (hk0 : P.underlying k0.type = some (.float .f32)) (hk1 : P.underlying k1.type = some (.float .f32)) (hk2 : P.underlying k2.type = some (.float .f32)) (hk3 : P.underlying k3.type = some (.float .f32))
    (h3 : P.underlying f3.type = some (.int .i64))
    (hv : Value.okWide P w r b0 t v) (h : DataW.Trod enc P w base spare held t v d p) :
    ∃ aD lD cD zD l s a len cap zs k b0 b1 b2 b3 y, v = .agg #[.slice aD lD cD, .float .f32 l, .float .f32 s, .slice a len cap, .int .i64 k, .float .f32 b0, .float .f32 b1, .float .f32 b2, .float .f32 b3, .int .i64 y] ∧
      FRow w aD lD cD zD ∧ FRow w a len cap zs ∧ (Lit.int .i64 k).wf = true ∧ (Lit.int .i64 y).wf = true := by
  obtain ⟨cs, rfl, hsz⟩ := okWide_struct hs hv
  obtain ⟨c0, c1, c2, c3, c4, c5, c6, c7, c8, c9, rfl⟩ := array10 (hsz.trans hC)
  obtain ⟨fuel, hf⟩ := h
  obtain ⟨y0, y1, y2, y3, n, _, _, x0, x1, x2, x3⟩ := trod_struct4 hs hf
  obtain ⟨o0, o1, o2, o3⟩ := ho
  obtain ⟨q0, q1, q2, q3⟩ := hc
  replace x0 : DataW.trod enc P w base spare held n f0.type [c0] = some y0 := by simpa [Value.cells, o0, q0] using x0
  replace x1 : DataW.trod enc P w base spare held n f1.type [c1, c2, c3, c4] = some y1 := by simpa [Value.cells, o1, q1] using x1
  replace x2 : DataW.trod enc P w base spare held n f2.type [c5, c6, c7, c8] = some y2 := by simpa [Value.cells, o2, q2] using x2
  replace x3 : DataW.trod enc P w base spare held n f3.type [c9] = some y3 := by simpa [Value.cells, o3, q3] using x3
  obtain ⟨aD, lD, cD, rfl⟩ := cell_slice h0 x0
  obtain ⟨zD, hz0⟩ := FRow_of (d := y0.1) (ps := y0.2) h0 he hce ⟨n, by simpa [Value.cells] using x0⟩
  obtain ⟨y, rfl, hy⟩ := cell_int h3 x3
  clear x0 x3
  obtain ⟨u0, u1, u2, u3, m, _, _, z0, z1, z2, z3⟩ := trod_struct4 h1 x1
  obtain ⟨v0, w0⟩ := hone_of hone1 0 g0 rfl
  obtain ⟨v1, w1⟩ := hone_of hone1 1 g1 rfl
  obtain ⟨v2, w2⟩ := hone_of hone1 2 g2 rfl
  obtain ⟨v3, w3⟩ := hone_of hone1 3 g3 rfl
  obtain ⟨l, rfl⟩ := cell_float hg0 (show DataW.trod enc P w base spare held m g0.type [c1] = some u0 by simpa [Value.cells, v0, w0] using z0)
  obtain ⟨s, rfl⟩ := cell_float hg1 (show DataW.trod enc P w base spare held m g1.type [c2] = some u1 by simpa [Value.cells, v1, w1] using z1)
  replace z2 : DataW.trod enc P w base spare held m g2.type [c3] = some u2 := by simpa [Value.cells, v2, w2] using z2
  obtain ⟨a, len, cap, rfl⟩ := cell_slice hg2 z2
  obtain ⟨zs, hz1⟩ := FRow_of (d := u2.1) (ps := u2.2) hg2 he2 hce2 ⟨m, by simpa [Value.cells] using z2⟩
  obtain ⟨k, rfl, hk⟩ := cell_int hg3 (show DataW.trod enc P w base spare held m g3.type [c4] = some u3 by simpa [Value.cells, v3, w3] using z3)
  obtain ⟨u0', u1', u2', u3', m', _, _, z0', z1', z2', z3'⟩ := trod_struct4 h2 x2
  obtain ⟨v0', w0'⟩ := hone_of hone2 0 k0 rfl
  obtain ⟨v1', w1'⟩ := hone_of hone2 1 k1 rfl
  obtain ⟨v2', w2'⟩ := hone_of hone2 2 k2 rfl
  obtain ⟨v3', w3'⟩ := hone_of hone2 3 k3 rfl
  obtain ⟨b0, rfl⟩ := cell_float hk0 (show DataW.trod enc P w base spare held m' k0.type [c5] = some u0' by simpa [Value.cells, v0', w0'] using z0')
  obtain ⟨b1, rfl⟩ := cell_float hk1 (show DataW.trod enc P w base spare held m' k1.type [c6] = some u1' by simpa [Value.cells, v1', w1'] using z1')
  obtain ⟨b2, rfl⟩ := cell_float hk2 (show DataW.trod enc P w base spare held m' k2.type [c7] = some u2' by simpa [Value.cells, v2', w2'] using z2')
  obtain ⟨b3, rfl⟩ := cell_float hk3 (show DataW.trod enc P w base spare held m' k3.type [c8] = some u3' by simpa [Value.cells, v3', w3'] using z3')
  exact ⟨aD, lD, cD, zD, l, s, a, len, cap, zs, k, b0, b1, b2, b3, y, rfl, hz0, hz1, hk, hy⟩
end
end Go.Proofs.Ytcfejkkkleiejaa
