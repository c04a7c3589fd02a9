/-
  Shares and states as arguments: four cells each.
-/
import Derived.Test.YtldaamgohdnjnaaChecked
import Derived.Test.YtldaamgohdnjnaaFsl
import Derived.Lib.SmallJoins
import Derived.Laws.Cover2
namespace Go.Proofs.Ytldaamgohdnjnaa
open Go.RowKit Go.WideShapes Go.ChangeShapes Go.Joins Go.Deep
set_option linter.unusedVariables false
section
variable {H : Type} {enc : TypeId × Value → H} {P : Program} {w : World} {base : Nat} {spare : Nat → Bool} {held : Bool}
theorem cell_float {n : Nat} {t : TypeId} {v : Value} {x : DataW H × List MemPlace} (ht : P.underlying t = some (.float .f32)) (h : DataW.trod enc P w base spare held n t [v] = some x) : ∃ b, v = .float .f32 b := by
  cases n with
  | zero => simp [DataW.trod] at h
  | succ n =>
    simp only [DataW.trod, ht] at h
    cases v with
    | float k b =>
      cases k with
      | f32 => exact ⟨b, rfl⟩
      | _ => simp at h
    | _ => simp at h
theorem cell_int {n : Nat} {t : TypeId} {v : Value} {x : DataW H × List MemPlace} (ht : P.underlying t = some (.int .i64)) (h : DataW.trod enc P w base spare held n t [v] = some x) : ∃ b, v = .int .i64 b ∧ (Lit.int .i64 b).wf = true := by
  obtain ⟨b, hb, _, hw⟩ := DataW.trod_int ht h
  simp at hb
  exact ⟨b, hb, hw⟩
theorem cell_slice {n : Nat} {t e : TypeId} {v : Value} {x : DataW H × List MemPlace} (ht : P.underlying t = some (.slice e)) (h : DataW.trod enc P w base spare held n t [v] = some x) : ∃ a len cap, v = .slice a len cap := by
  cases n with
  | zero => simp [DataW.trod] at h
  | succ n =>
    simp only [DataW.trod, ht] at h
    cases v with
    | slice a len cap => exact ⟨a, len, cap, rfl⟩
    | _ => simp at h
/-- Four numbers, opened. -/
theorem nums4_of {r : Reach} {b0 : Nat} {t : TypeId} {f0 f1 f2 f3 : Field} {v : Value} {d : DataW H} {p : List MemPlace} (hs : P.underlying t = some (.struct #[f0, f1, f2, f3])) (hone : oneCellFields P #[f0, f1, f2, f3] = true) (hC : P.cellsOf t = 4)
    (h0 : P.underlying f0.type = some (.float .f32)) (h1 : P.underlying f1.type = some (.float .f32)) (h2 : P.underlying f2.type = some (.float .f32)) (h3 : P.underlying f3.type = some (.float .f32))
    (hv : Value.okWide P w r b0 t v) (h : DataW.Trod enc P w base spare held t v d p) : ∃ a b c e, v = .agg #[.float .f32 a, .float .f32 b, .float .f32 c, .float .f32 e] := by
  obtain ⟨v0, v1, v2, v3, y0, y1, y2, y3, n, rfl, -, -, e0, e1, e2, e3⟩ := open_agg4 hs hone hC hv h
  obtain ⟨a, rfl⟩ := cell_float h0 e0
  obtain ⟨b, rfl⟩ := cell_float h1 e1
  obtain ⟨c, rfl⟩ := cell_float h2 e2
  obtain ⟨e, rfl⟩ := cell_float h3 e3
  exact ⟨a, b, c, e, rfl⟩
/-- A state, opened. -/
theorem state_of {r : Reach} {b0 : Nat} {t e : TypeId} {f0 f1 f2 f3 : Field} {v : Value} {d : DataW H} {p : List MemPlace} (hs : P.underlying t = some (.struct #[f0, f1, f2, f3])) (hone : oneCellFields P #[f0, f1, f2, f3] = true) (hC : P.cellsOf t = 4)
    (h0 : P.underlying f0.type = some (.float .f32)) (h1 : P.underlying f1.type = some (.float .f32)) (h2 : P.underlying f2.type = some (.slice e)) (he : P.underlying e = some (.float .f32)) (hc : P.cellsOf e = 1) (h3 : P.underlying f3.type = some (.int .i64))
    (hv : Value.okWide P w r b0 t v) (h : DataW.Trod enc P w base spare held t v d p) :
    ∃ l s a len cap zs k, v = .agg #[.float .f32 l, .float .f32 s, .slice a len cap, .int .i64 k] ∧ FRow w a len cap zs ∧ (Lit.int .i64 k).wf = true := by
  obtain ⟨v0, v1, v2, v3, y0, y1, y2, y3, n, rfl, -, -, e0, e1, e2, e3⟩ := open_agg4 hs hone hC hv h
  obtain ⟨l, rfl⟩ := cell_float h0 e0
  obtain ⟨s, rfl⟩ := cell_float h1 e1
  obtain ⟨a, len, cap, rfl⟩ := cell_slice h2 e2
  obtain ⟨k, rfl, hk⟩ := cell_int h3 e3
  obtain ⟨zs, hz⟩ := FRow_of (d := y2.1) (ps := y2.2) h2 he hc ⟨n, by simpa [Value.cells] using e2⟩
  exact ⟨l, s, a, len, cap, zs, k, rfl, hz, hk⟩
/-- Eight numbers, opened. -/
theorem array8 {α : Type} {cs : Array α} (h : cs.size = 8) : ∃ c0 c1 c2 c3 c4 c5 c6 c7, cs = #[c0, c1, c2, c3, c4, c5, c6, c7] := by
  obtain ⟨l⟩ := cs
  match l, h with
  | [c0, c1, c2, c3, c4, c5, c6, c7], _ => exact ⟨c0, c1, c2, c3, c4, c5, c6, c7, rfl⟩
theorem nums8_of {r : Reach} {b0 : Nat} {t : TypeId} {f0 f1 f2 f3 f4 f5 f6 f7 : Field} {v : Value} {d : DataW H} {p : List MemPlace} (hs : P.underlying t = some (.struct #[f0, f1, f2, f3, f4, f5, f6, f7])) (hone : oneCellFields P #[f0, f1, f2, f3, f4, f5, f6, f7] = true) (hC : P.cellsOf t = 8)
    (h0 : P.underlying f0.type = some (.float .f32)) (h1 : P.underlying f1.type = some (.float .f32)) (h2 : P.underlying f2.type = some (.float .f32)) (h3 : P.underlying f3.type = some (.float .f32))
    (h4 : P.underlying f4.type = some (.float .f32)) (h5 : P.underlying f5.type = some (.float .f32)) (h6 : P.underlying f6.type = some (.float .f32)) (h7 : P.underlying f7.type = some (.float .f32))
    (hv : Value.okWide P w r b0 t v) (h : DataW.Trod enc P w base spare held t v d p) : ∃ a b c e a' b' c' e', v = .agg #[.float .f32 a, .float .f32 b, .float .f32 c, .float .f32 e, .float .f32 a', .float .f32 b', .float .f32 c', .float .f32 e'] := by
  obtain ⟨cs, rfl, hsz⟩ := okWide_struct hs hv
  obtain ⟨c0, c1, c2, c3, c4, c5, c6, c7, rfl⟩ := array8 (hsz.trans hC)
  obtain ⟨fuel, hf⟩ := h
  obtain ⟨xs, n, _, _, _, hlen, hx⟩ := DataW.trod_struct hs hf
  match xs, hlen with
  | [y0, y1, y2, y3, y4, y5, y6, y7], _ =>
    obtain ⟨o0, k0⟩ := hone_of hone 0 f0 rfl
    obtain ⟨o1, k1⟩ := hone_of hone 1 f1 rfl
    obtain ⟨o2, k2⟩ := hone_of hone 2 f2 rfl
    obtain ⟨o3, k3⟩ := hone_of hone 3 f3 rfl
    obtain ⟨o4, k4⟩ := hone_of hone 4 f4 rfl
    obtain ⟨o5, k5⟩ := hone_of hone 5 f5 rfl
    obtain ⟨o6, k6⟩ := hone_of hone 6 f6 rfl
    obtain ⟨o7, k7⟩ := hone_of hone 7 f7 rfl
    obtain ⟨a, rfl⟩ := cell_float h0 (show DataW.trod enc P w base spare held n f0.type [c0] = some y0 by simpa [Value.cells, o0, k0] using hx 0 f0 rfl)
    obtain ⟨b, rfl⟩ := cell_float h1 (show DataW.trod enc P w base spare held n f1.type [c1] = some y1 by simpa [Value.cells, o1, k1] using hx 1 f1 rfl)
    obtain ⟨c, rfl⟩ := cell_float h2 (show DataW.trod enc P w base spare held n f2.type [c2] = some y2 by simpa [Value.cells, o2, k2] using hx 2 f2 rfl)
    obtain ⟨e, rfl⟩ := cell_float h3 (show DataW.trod enc P w base spare held n f3.type [c3] = some y3 by simpa [Value.cells, o3, k3] using hx 3 f3 rfl)
    obtain ⟨a', rfl⟩ := cell_float h4 (show DataW.trod enc P w base spare held n f4.type [c4] = some y4 by simpa [Value.cells, o4, k4] using hx 4 f4 rfl)
    obtain ⟨b', rfl⟩ := cell_float h5 (show DataW.trod enc P w base spare held n f5.type [c5] = some y5 by simpa [Value.cells, o5, k5] using hx 5 f5 rfl)
    obtain ⟨c', rfl⟩ := cell_float h6 (show DataW.trod enc P w base spare held n f6.type [c6] = some y6 by simpa [Value.cells, o6, k6] using hx 6 f6 rfl)
    obtain ⟨e', rfl⟩ := cell_float h7 (show DataW.trod enc P w base spare held n f7.type [c7] = some y7 by simpa [Value.cells, o7, k7] using hx 7 f7 rfl)
    exact ⟨a, b, c, e, a', b', c', e', rfl⟩
/-- Four lists, opened. -/
theorem lists4_of {r : Reach} {b0 : Nat} {t e0 e1 e2 e3 : TypeId} {f0 f1 f2 f3 : Field} {v : Value} {d : DataW H} {p : List MemPlace} (hs : P.underlying t = some (.struct #[f0, f1, f2, f3])) (hone : oneCellFields P #[f0, f1, f2, f3] = true) (hC : P.cellsOf t = 4)
    (h0 : P.underlying f0.type = some (.slice e0)) (he0 : P.underlying e0 = some (.float .f32)) (hc0 : P.cellsOf e0 = 1) (h1 : P.underlying f1.type = some (.slice e1)) (he1 : P.underlying e1 = some (.float .f32)) (hc1 : P.cellsOf e1 = 1)
    (h2 : P.underlying f2.type = some (.slice e2)) (he2 : P.underlying e2 = some (.float .f32)) (hc2 : P.cellsOf e2 = 1) (h3 : P.underlying f3.type = some (.slice e3)) (he3 : P.underlying e3 = some (.float .f32)) (hc3 : P.cellsOf e3 = 1)
    (hv : Value.okWide P w r b0 t v) (h : DataW.Trod enc P w base spare held t v d p) :
    ∃ aM lM cM zM aS lS cS zS aT lT cT zT aP lP cP zP, v = .agg #[.slice aM lM cM, .slice aS lS cS, .slice aT lT cT, .slice aP lP cP] ∧ FRow w aM lM cM zM ∧ FRow w aS lS cS zS ∧ FRow w aT lT cT zT ∧ FRow w aP lP cP zP := by
  obtain ⟨v0, v1, v2, v3, y0, y1, y2, y3, n, rfl, -, -, x0, x1, x2, x3⟩ := open_agg4 hs hone hC hv h
  obtain ⟨aM, lM, cM, rfl⟩ := cell_slice h0 x0
  obtain ⟨aS, lS, cS, rfl⟩ := cell_slice h1 x1
  obtain ⟨aT, lT, cT, rfl⟩ := cell_slice h2 x2
  obtain ⟨aP, lP, cP, rfl⟩ := cell_slice h3 x3
  obtain ⟨zM, g0⟩ := FRow_of (d := y0.1) (ps := y0.2) h0 he0 hc0 ⟨n, by simpa [Value.cells] using x0⟩
  obtain ⟨zS, g1⟩ := FRow_of (d := y1.1) (ps := y1.2) h1 he1 hc1 ⟨n, by simpa [Value.cells] using x1⟩
  obtain ⟨zT, g2⟩ := FRow_of (d := y2.1) (ps := y2.2) h2 he2 hc2 ⟨n, by simpa [Value.cells] using x2⟩
  obtain ⟨zP, g3⟩ := FRow_of (d := y3.1) (ps := y3.2) h3 he3 hc3 ⟨n, by simpa [Value.cells] using x3⟩
  exact ⟨aM, lM, cM, zM, aS, lS, cS, zS, aT, lT, cT, zT, aP, lP, cP, zP, rfl, g0, g1, g2, g3⟩
end
end Go.Proofs.Ytldaamgohdnjnaa
