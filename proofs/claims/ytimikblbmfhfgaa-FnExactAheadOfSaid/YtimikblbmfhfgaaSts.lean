/-
  Shares and states as arguments: four cells each.
-/
import Derived.Test.YtimikblbmfhfgaaChecked
import Derived.Test.YtimikblbmfhfgaaFsl
import Derived.Lib.SmallJoins
import Derived.Laws.Cover2
namespace Go.Proofs.Ytimikblbmfhfgaa
open Go.RowKit Go.WideShapes Go.ChangeShapes Go.Joins Go.Deep
set_option linter.unusedVariables false
section
variable {H : Type} {enc : TypeId × Value → H} {P : Program} {w : World} {base : Nat} {spare : Nat → Bool} {held : Bool}
theorem cell_float {n : Nat} {t : TypeId} {v : Value} {x : DataW H × List MemPlace} (ht : P.underlying t = some (.float .f32)) (h : DataW.trod enc P w base spare held n t [v] = some x) : ∃ b, v = .float .f32 b := by
  cases n with
  | zero => simp [DataW.trod] at h
  | succ n =>
    simp only [DataW.trod, ht] at h
    cases v with
    | float k b =>
      cases k with
      | f32 => exact ⟨b, rfl⟩
      | _ => simp at h
    | _ => simp at h
theorem cell_int {n : Nat} {t : TypeId} {v : Value} {x : DataW H × List MemPlace} (ht : P.underlying t = some (.int .i64)) (h : DataW.trod enc P w base spare held n t [v] = some x) : ∃ b, v = .int .i64 b ∧ (Lit.int .i64 b).wf = true := by
  obtain ⟨b, hb, _, hw⟩ := DataW.trod_int ht h
  simp at hb
  exact ⟨b, hb, hw⟩
theorem cell_slice {n : Nat} {t e : TypeId} {v : Value} {x : DataW H × List MemPlace} (ht : P.underlying t = some (.slice e)) (h : DataW.trod enc P w base spare held n t [v] = some x) : ∃ a len cap, v = .slice a len cap := by
  cases n with
  | zero => simp [DataW.trod] at h
  | succ n =>
    simp only [DataW.trod, ht] at h
    cases v with
    | slice a len cap => exact ⟨a, len, cap, rfl⟩
    | _ => simp at h
/-- Four numbers, opened. -/
theorem nums4_of {r : Reach} {b0 : Nat} {t : TypeId} {f0 f1 f2 f3 : Field} {v : Value} {d : DataW H} {p : List MemPlace} (hs : P.underlying t = some (.struct #[f0, f1, f2, f3])) (hone : oneCellFields P #[f0, f1, f2, f3] = true) (hC : P.cellsOf t = 4)
    (h0 : P.underlying f0.type = some (.float .f32)) (h1 : P.underlying f1.type = some (.float .f32)) (h2 : P.underlying f2.type = some (.float .f32)) (h3 : P.underlying f3.type = some (.float .f32))
    (hv : Value.okWide P w r b0 t v) (h : DataW.Trod enc P w base spare held t v d p) : ∃ a b c e, v = .agg #[.float .f32 a, .float .f32 b, .float .f32 c, .float .f32 e] := by
  obtain ⟨v0, v1, v2, v3, y0, y1, y2, y3, n, rfl, -, -, e0, e1, e2, e3⟩ := open_agg4 hs hone hC hv h
  obtain ⟨a, rfl⟩ := cell_float h0 e0
  obtain ⟨b, rfl⟩ := cell_float h1 e1
  obtain ⟨c, rfl⟩ := cell_float h2 e2
  obtain ⟨e, rfl⟩ := cell_float h3 e3
  exact ⟨a, b, c, e, rfl⟩
/-- A state, opened. -/
theorem state_of {r : Reach} {b0 : Nat} {t e : TypeId} {f0 f1 f2 f3 : Field} {v : Value} {d : DataW H} {p : List MemPlace} (hs : P.underlying t = some (.struct #[f0, f1, f2, f3])) (hone : oneCellFields P #[f0, f1, f2, f3] = true) (hC : P.cellsOf t = 4)
    (h0 : P.underlying f0.type = some (.float .f32)) (h1 : P.underlying f1.type = some (.float .f32)) (h2 : P.underlying f2.type = some (.slice e)) (he : P.underlying e = some (.float .f32)) (hc : P.cellsOf e = 1) (h3 : P.underlying f3.type = some (.int .i64))
    (hv : Value.okWide P w r b0 t v) (h : DataW.Trod enc P w base spare held t v d p) :
    ∃ l s a len cap zs k, v = .agg #[.float .f32 l, .float .f32 s, .slice a len cap, .int .i64 k] ∧ FRow w a len cap zs ∧ (Lit.int .i64 k).wf = true := by
  obtain ⟨v0, v1, v2, v3, y0, y1, y2, y3, n, rfl, -, -, e0, e1, e2, e3⟩ := open_agg4 hs hone hC hv h
  obtain ⟨l, rfl⟩ := cell_float h0 e0
  obtain ⟨s, rfl⟩ := cell_float h1 e1
  obtain ⟨a, len, cap, rfl⟩ := cell_slice h2 e2
  obtain ⟨k, rfl, hk⟩ := cell_int h3 e3
  obtain ⟨zs, hz⟩ := FRow_of (d := y2.1) (ps := y2.2) h2 he hc ⟨n, by simpa [Value.cells] using e2⟩
  exact ⟨l, s, a, len, cap, zs, k, rfl, hz, hk⟩
end
end Go.Proofs.Ytimikblbmfhfgaa
