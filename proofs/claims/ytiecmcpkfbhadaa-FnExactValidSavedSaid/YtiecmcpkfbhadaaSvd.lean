/-
  What is saved: as it comes in; the law's copies; whether it is valid, in both packages.
-/
import Derived.Test.YtiecmcpkfbhadaaCLaw
import Derived.Test.YtiecmcpkfbhadaaCNam
import Derived.Test.YtiecmcpkfbhadaaCIn
import Derived.Test.YtiecmcpkfbhadaaCSer
import Derived.Lib.SmallJoins
import Derived.Laws.Cover2
import Derived.Deep.QuietTactic
import Derived.BigQuiet
namespace Go.Proofs.Ytiecmcpkfbhadaa
open Ieee Go.RowKit Go.WideShapes Go.ChangeShapes Go.Joins Go.Deep
set_option linter.unusedVariables false
section
variable {H : Type} {enc : TypeId × Value → H} {P : Program} {w : World} {base : Nat} {spare : Nat → Bool} {held : Bool}
/-- What is saved, opened. -/
theorem saved_of {r : Reach} {b0 : Nat} {t e : TypeId} {f0 f1 f2 : Field} {v : Value} {d : DataW H} {p : List MemPlace} (hs : P.underlying t = some (.struct #[f0, f1, f2])) (hone : oneCellFields P #[f0, f1, f2] = true) (hC : P.cellsOf t = 3)
    (h0 : P.underlying f0.type = some .string) (h1 : P.underlying f1.type = some (.int .i64)) (h2 : P.underlying f2.type = some (.slice e)) (he : P.underlying e = some (.float .f32)) (hc : P.cellsOf e = 1)
    (hv : Value.okWide P w r b0 t v) (h : DataW.Trod enc P w base spare held t v d p) :
    ∃ s k a len cap zs, v = .agg #[.string s, .int .i64 k, .slice a len cap] ∧ s.size ≤ maxLen ∧ (Lit.int .i64 k).wf = true ∧ FRow w a len cap zs := by
  obtain ⟨v0, v1, v2, y0, y1, y2, n, rfl, -, -, e0, e1, e2⟩ := open_agg3 hs hone hC hv h
  obtain ⟨s, hs0, _, hsz⟩ := DataW.trod_string h0 e0
  simp at hs0
  subst hs0
  obtain ⟨k, hk0, _, hk⟩ := DataW.trod_int h1 e1
  simp at hk0
  subst hk0
  obtain ⟨a, len, cap, rfl⟩ : ∃ a len cap, v2 = .slice a len cap := by
    cases n with
    | zero => simp [DataW.trod] at e2
    | succ n =>
      simp only [DataW.trod, h2] at e2
      cases v2 with
      | slice a len cap => exact ⟨a, len, cap, rfl⟩
      | _ => simp at e2
  obtain ⟨zs, hz⟩ := FRow_of (d := y2.1) (ps := y2.2) h2 he hc ⟨n, by simpa [Value.cells] using e2⟩
  exact ⟨s, k, a, len, cap, zs, rfl, hsz, hk, hz⟩
end
/-- What is saved stands in a block. -/
def SvIn (w : World) (p : Nat) (s : ByteArray) (k : Int) (a : Option Addr) (len cap : Nat) : Prop := w.cell? ⟨p, 0, none⟩ = some (.string s) ∧ w.cell? ⟨p, 1, none⟩ = some (.int .i64 k) ∧ w.cell? ⟨p, 2, none⟩ = some (.slice a len cap)
section
variable {w w' : World} {p : Nat} {s : ByteArray} {k : Int} {a : Option Addr} {len cap : Nat}
theorem SvIn.new (w : World) (s : ByteArray) (k : Int) (a : Option Addr) (len cap : Nat) (T : TypeId) : SvIn (w.alloc (.cells #[.string s, .int .i64 k, .slice a len cap] T)) w.heap.size s k a len cap := by
  refine ⟨?_, ?_, ?_⟩ <;> (rw [World.cell?_alloc_at _ _ _ _ rfl]; rfl)
theorem SvIn.lt (h : SvIn w p s k a len cap) : p < w.heap.size := lt_of_cell h.1
theorem SvIn.belowB {B : Nat} (h : SvIn w p s k a len cap) (hb : Below B w w') (hp : p < B) : SvIn w' p s k a len cap := by
  obtain ⟨h0, h1, h2⟩ := h
  refine ⟨?_, ?_, ?_⟩
  · rw [hb.cell (p := ⟨p, 0, none⟩) hp]; exact h0
  · rw [hb.cell (p := ⟨p, 1, none⟩) hp]; exact h1
  · rw [hb.cell (p := ⟨p, 2, none⟩) hp]; exact h2
theorem SvIn.below (h : SvIn w p s k a len cap) (hb : Below w.heap.size w w') : SvIn w' p s k a len cap := h.belowB hb h.lt
theorem SvIn.drewN (h : SvIn w p s k a len cap) (n : Nat) : SvIn (w.drewN n) p s k a len cap := h
theorem SvIn.drew (h : SvIn w p s k a len cap) : SvIn w.drew p s k a len cap := h
end
theorem Held.drew {w : World} {A : Option Addr} {b len : Nat} {rs : List Nat} (h : Held w A b len rs) : Held w.drew A b len rs := h.drewN 1
theorem Held.setCell {w : World} {A : Option Addr} {b len : Nat} {rs : List Nat} {c o : Nat} {v : Value} (h : Held w A b len rs) (hc : b ≠ c) : Held (w.setCell ⟨c, o, none⟩ v) A b len rs := by
  refine ⟨FSl.same h.sl (by simp [World.setCell]) (fun b' off h0 e => ?_), h.at_, fun h0 => by simpa [World.setCell] using h.lt_ h0, fun j hj => ?_⟩
  · have e2 := h.at_ h0
    rw [e] at e2
    injection e2 with e2
    injection e2 with e2
    subst e2
    exact Below.heap_setCell w _ _ _ hc
  · rw [World.cell?_setCell_other _ _ _ _ (by intro e; injection e with e1 _ _; exact hc e1.symm), World.frozen?_setCell]
    exact h.wri j hj
set_option maxHeartbeats 1000000 in
theorem toSv_any (s : ByteArray) (k : Int) (a : Option Addr) (len cap : Nat) (zs : List Nat) (w : World) (h : FSl w a len zs) (hm : len ≤ 1048576) :
    Calls Try.prog 17 #[.agg #[.string s, .int .i64 k, .slice a len cap]] w fun e w' => e = .returned (.agg #[.string s, .int .i64 k, .slice (some ⟨w.heap.size + 1 + 1 + 1, 0, none⟩) len len]) ∧ Held w' (some ⟨w.heap.size + 1 + 1 + 1, 0, none⟩) (w.heap.size + 1 + 1 + 1) len zs ∧ Below w.heap.size w w' ∧ w.heap.size + 1 + 1 + 1 < w'.heap.size := by
  have H := Lib.hid h
  clear h
  go_enter Try.func17, Try.ntmps17
  go_wp2_with fail
  refine (toFt_any _ _ _ _ _ (FSl.below H.out ((((Below.refl _ _).alloc (Nat.le_refl _) _).alloc (by simp) _).alloc (by simp; omega) _)) hm).mono ?_
  rintro e w1 ⟨rfl, hh, b, q⟩
  have HH := Lib.hid (show Held w1 (some ⟨w.heap.size + 1 + 1 + 1, 0, none⟩) (w.heap.size + 1 + 1 + 1) len zs from by simpa using hh)
  have HQ := Lib.hid (show w.heap.size + 1 + 1 + 1 < w1.heap.size from by simpa using q)
  have HB := Lib.hid (((((Below.refl w.heap.size w).alloc (Nat.le_refl _) _).alloc (by simp) _).alloc (by simp; omega) _).trans (b.mono (by simp; omega)))
  have v0 : w1.cell? ⟨w.heap.size + 1 + 1, 0, none⟩ = some (.string s) := by
    rw [b.cell (p := ⟨w.heap.size + 1 + 1, 0, none⟩) (by simp)]; go_simp
  have v1 : w1.cell? ⟨w.heap.size + 1 + 1, 1, none⟩ = some (.int .i64 k) := by
    rw [b.cell (p := ⟨w.heap.size + 1 + 1, 1, none⟩) (by simp)]; go_simp
  have v2 : w1.cell? ⟨w.heap.size + 1 + 1, 2, none⟩ = some (.slice none 0 0) := by
    rw [b.cell (p := ⟨w.heap.size + 1 + 1, 2, none⟩) (by simp)]; go_simp
  have r0 : w1.cell? ⟨w.heap.size + 1, 0, none⟩ = some (.string ByteArray.empty) := by
    rw [b.cell (p := ⟨w.heap.size + 1, 0, none⟩) (by simp)]
    go_simp
    first | done | rfl
  have r1 : w1.cell? ⟨w.heap.size + 1, 1, none⟩ = some (.int .i64 0) := by
    rw [b.cell (p := ⟨w.heap.size + 1, 1, none⟩) (by simp)]; go_simp
  have r2 : w1.cell? ⟨w.heap.size + 1, 2, none⟩ = some (.slice none 0 0) := by
    rw [b.cell (p := ⟨w.heap.size + 1, 2, none⟩) (by simp)]; go_simp
  have f2 : w1.frozen? ⟨w.heap.size + 1 + 1, 2, none⟩ = false := by
    rw [b.frozen (p := ⟨w.heap.size + 1 + 1, 2, none⟩) (by simp)]; go_simp
  have g0 : w1.frozen? ⟨w.heap.size + 1, 0, none⟩ = false := by
    rw [b.frozen (p := ⟨w.heap.size + 1, 0, none⟩) (by simp)]; go_simp
  have g1 : w1.frozen? ⟨w.heap.size + 1, 1, none⟩ = false := by
    rw [b.frozen (p := ⟨w.heap.size + 1, 1, none⟩) (by simp)]; go_simp
  have g2 : w1.frozen? ⟨w.heap.size + 1, 2, none⟩ = false := by
    rw [b.frozen (p := ⟨w.heap.size + 1, 2, none⟩) (by simp)]; go_simp
  clear hh q b
  go_wp2
  refine bodyPost_ret (v := .agg #[.string s, .int .i64 k, .slice (some ⟨w.heap.size + 1 + 1 + 1, 0, none⟩) len len]) ?_ rfl ⟨rfl, ?_, ?_, ?_⟩
  · have hres : Try.f17.results = #[.cell 2 27] := by kernel_rfl
    simp only [results, hres]
    go_simp
  · exact (((HH.out.setCell (by omega)).setCell (by omega)).setCell (by omega)).setCell (by omega)
  · exact (((HB.out.setCell (by show w.heap.size ≤ w.heap.size + 1 + 1; omega) _).setCell (by show w.heap.size ≤ w.heap.size + 1; omega) _).setCell (by show w.heap.size ≤ w.heap.size + 1; omega) _).setCell (by show w.heap.size ≤ w.heap.size + 1; omega) _
  · have := HQ.out
    simp only [World.setCell, Array.size_modify]
    exact this
theorem szF_yes (a : Option Addr) (len cap : Nat) (n : Nat) (w : World) (hn : n ≤ 1048576) (hm : len ≤ n) :
    Calls Try.prog 58 #[.slice a len cap, .int .i64 n] w fun e w' => e = .returned (.int .i64 ((n - len : Nat) : Int)) ∧ w = w' := by
  have hw : IntKind.i64.wrap ((n : Int) - (len : Int)) = ((n - len : Nat) : Int) := by rw [IntKind.wrap_i64]; omega
  go_enter Try.func58, Try.ntmps58
  go_wp2
  go_ret
  exact ⟨rfl, rfl⟩
theorem szF_no (a : Option Addr) (len cap : Nat) (n : Nat) (w : World) (hn : n ≤ 1048576) (hm : n < len) (hx : len ≤ maxLen) :
    Calls Try.prog 58 #[.slice a len cap, .int .i64 n] w fun e w' => e = .returned (.int .i64 (-1)) ∧ w = w' := by
  unfold maxLen at hx
  have hw : IntKind.i64.wrap ((n : Int) - (len : Int)) = (n : Int) - (len : Int) := by rw [IntKind.wrap_i64]; omega
  have hd : decide ((n : Int) - (len : Int) < 0) = true := decide_eq_true (by omega)
  go_enter Try.func58, Try.ntmps58
  go_wp2
  go_ret
  exact ⟨rfl, rfl⟩
theorem szSv_any (s : ByteArray) (k : Int) (a : Option Addr) (len cap : Nat) (n : Nat) (w : World) (hn : n ≤ 1048576) (hm : s.size + len ≤ n) :
    Calls Try.prog 15 #[.agg #[.string s, .int .i64 k, .slice a len cap], .int .i64 n] w fun e w' => e = .returned (.int .i64 ((n - s.size - len : Nat) : Int)) ∧ Below w.heap.size w w' := by
  have hw : IntKind.i64.wrap ((n : Int) - (s.size : Int)) = ((n - s.size : Nat) : Int) := by rw [IntKind.wrap_i64]; omega
  have hs : s.size ≤ n := by omega
  go_enter Try.func15, Try.ntmps15
  go_wp2_with fail
  refine (szF_yes _ _ _ (n - s.size) _ (by omega) (by omega)).mono ?_
  rintro e w' ⟨rfl, rfl⟩
  go_wp2
  go_ret
  exact ⟨rfl, (Below.refl _ _).alloc (Nat.le_refl _) _⟩
theorem szSv_no (s : ByteArray) (k : Int) (a : Option Addr) (len cap : Nat) (n : Nat) (w : World) (hn : n ≤ 1048576) (hm : n < s.size + len) (hx : len ≤ maxLen) (hy : s.size ≤ maxLen) :
    Calls Try.prog 15 #[.agg #[.string s, .int .i64 k, .slice a len cap], .int .i64 n] w fun e w' => e = .returned (.int .i64 (-1)) ∧ Below w.heap.size w w' := by
  have hy2 := hy
  unfold maxLen at hy2
  by_cases hs : s.size ≤ n
  · have hw : IntKind.i64.wrap ((n : Int) - (s.size : Int)) = ((n - s.size : Nat) : Int) := by rw [IntKind.wrap_i64]; omega
    go_enter Try.func15, Try.ntmps15
    go_wp2_with fail
    refine (szF_no _ _ _ (n - s.size) _ (by omega) (by omega) hx).mono ?_
    rintro e w' ⟨rfl, rfl⟩
    go_wp2
    go_ret
    exact ⟨rfl, (Below.refl _ _).alloc (Nat.le_refl _) _⟩
  · have hw : IntKind.i64.wrap ((n : Int) - (s.size : Int)) = (n : Int) - (s.size : Int) := by rw [IntKind.wrap_i64]; omega
    have hd : decide ((n : Int) - (s.size : Int) < 0) = true := decide_eq_true (by omega)
    go_enter Try.func15, Try.ntmps15
    go_wp2
    go_ret
    exact ⟨rfl, (Below.refl _ _).alloc (Nat.le_refl _) _⟩
theorem eqSv_any (s : ByteArray) (k : Int) (a a' : Option Addr) (len cap cap' : Nat) (zs zs' : List Nat) (w : World) (h : FSl w a len zs) (h' : FSl w a' len zs') (hm : len ≤ 1048576) (hz : ∀ i, i < len → cn .f32 (zs.getD i 0) = cn .f32 (zs'.getD i 0)) :
    Calls Try.prog 19 #[.agg #[.string s, .int .i64 k, .slice a len cap], .agg #[.string s, .int .i64 k, .slice a' len cap']] w fun e w' => e = .returned (.bool true) ∧ Below w.heap.size w w' := by
  have HB := Lib.hid (((Below.refl w.heap.size w).alloc (Nat.le_refl _) (.cells #[.string s, .int .i64 k, .slice a len cap] 27)).alloc (by simp) (.cells #[.string s, .int .i64 k, .slice a' len cap'] 27))
  have H := Lib.hid (FSl.below h HB.out)
  have H' := Lib.hid (FSl.below h' HB.out)
  have HZ := Lib.hid hz
  have hq2 : (k != k) = false := bne_self_eq_false _
  clear h h' hz
  go_enter Try.func19, Try.ntmps19
  go_wp2_with fail
  refine (eqF_any _ _ _ _ _ _ _ _ H.out H'.out hm HZ.out).mono ?_
  rintro e w' ⟨n, rfl, rfl⟩
  go_wp2
  go_ret
  exact ⟨rfl, below_drewN HB.out _⟩
/-- What can be stored. -/
def svB (s : ByteArray) (k : Int) (zs : List Nat) : Bool := nameB s.data.toList && (decide (-1000000 ≤ k ∧ k ≤ 1000000) && serB zs)
end Go.Proofs.Ytiecmcpkfbhadaa
