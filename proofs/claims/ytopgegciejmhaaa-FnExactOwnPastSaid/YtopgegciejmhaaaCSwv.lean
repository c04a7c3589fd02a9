/-
  StepWaves: plainly; two lists as a result; the closures; the program's function.
-/
import Derived.Test.YtopgegciejmhaaaCBox
import Derived.Test.YtopgegciejmhaaaCPos
import Derived.Test.YtopgegciejmhaaaCLaw
import Derived.Test.YtopgegciejmhaaaFhf
import Derived.Deep.QuietTactic
import Derived.BigQuiet
namespace Go.Proofs.Ytopgegciejmhaaa
open Ieee Go.RowKit
set_option linter.unusedVariables false

/-- Two lists of a call's own lie apart. -/
def Apt (v v' : Value) : Prop := ∀ b, v.ownBlock = some b → v'.ownBlock ≠ some b
theorem apt_nil (v : Value) : Apt (.slice none 0 0) v := fun b e => by simp [Value.ownBlock] at e
/-- Two lists and a bool. -/
def RetL2 (T : TypeId) (xs0 xs1 : List Nat) (ok : Bool) (w : World) (e : Ending) (w' : World) : Prop :=
  ∃ v0 r0 v1 r1, e = .returned (.tuple #[v0, v1, .bool ok]) ∧ (FOwn T w.heap.size w' v0 r0 ∧ FOwn T w.heap.size w' v1 r1) ∧ (cnl r0 = xs0 ∧ cnl r1 = xs1) ∧ Apt v0 v1 ∧ Below w.heap.size w w'
theorem fail_l2 (T : TypeId) {xs0 xs1 : List Nat} {ok : Bool} (hok : ok = false) (h0 : xs0 = []) (h1 : xs1 = []) {w w' : World} (hb : Below w.heap.size w w') : RetL2 T xs0 xs1 ok w (.returned (.tuple #[.slice none 0 0, .slice none 0 0, .bool false])) w' :=
  ⟨_, [], _, [], by rw [hok], ⟨FOwn.nil .., FOwn.nil ..⟩, ⟨h0.symm, h1.symm⟩, apt_nil _, hb⟩
theorem FOwn.resn {T : TypeId} {B far : Nat} {w' : World} {v : Value} {rs xs : List Nat} {y : Nat} (h : FOwn T B w' v rs) (hx : cnl rs = xs) (hy : xs.length = y) (hfar : B ≤ far) :
    ∃ A cap b, v = .slice A y cap ∧ Held w' A b y rs ∧ B ≤ b ∧ (0 < y → v.ownBlock = some b) ∧ (y = 0 → b = far) := by
  subst hy
  rcases Nat.eq_zero_or_pos xs.length with h0 | h0
  · obtain ⟨A, cap, b, rfl, hh, hb⟩ := h.res hx
    exact ⟨A, cap, far, rfl, ⟨hh.sl, fun hp => by omega, fun hp => by omega, fun j hj => by omega⟩, hfar, fun hp => by omega, fun _ => rfl⟩
  · obtain ⟨A, cap, b, rfl, hh, hb⟩ := h.res hx
    exact ⟨A, cap, b, rfl, hh, hb, fun hp => by rw [hh.at_ hp]; rfl, fun e => by omega⟩
theorem RetL2.res {T : TypeId} {X0 X1 x0 x1 : List Nat} {y0 y1 : Nat} {ok : Bool} {w : World} {e : Ending} {w' : World} (h : RetL2 T X0 X1 ok w e w') (hx0 : X0 = x0) (hy0 : x0.length = y0) (hx1 : X1 = x1) (hy1 : x1.length = y1) :
    ∃ A0 c0 d0 r0 A1 c1 d1 r1, e = .returned (.tuple #[.slice A0 y0 c0, .slice A1 y1 c1, .bool ok]) ∧ (Held w' A0 d0 y0 r0 ∧ cnl r0 = x0 ∧ w.heap.size ≤ d0) ∧ (Held w' A1 d1 y1 r1 ∧ cnl r1 = x1 ∧ w.heap.size ≤ d1) ∧
      ((0 < y0 → d0 ≠ d1) ∧ (0 < y1 → d1 ≠ d0)) ∧ Below w.heap.size w w' := by
  subst hx0 hx1
  obtain ⟨v0, r0, v1, r1, rfl, ⟨o0, o1⟩, ⟨e0, e1⟩, p01, hb⟩ := h
  have hs := hb.size
  obtain ⟨A0, c0, d0, rfl, t0, q0, b0, f0⟩ := o0.resn (far := w'.heap.size) e0 hy0 hs
  obtain ⟨A1, c1, d1, rfl, t1, q1, b1, f1⟩ := o1.resn (far := w'.heap.size) e1 hy1 hs
  have key : ∀ {y y' d d' : Nat} {v v' : Value}, (0 < y → v.ownBlock = some d) → (0 < y' → v'.ownBlock = some d') → (y' = 0 → d' = w'.heap.size) → (0 < y → d < w'.heap.size) → (∀ b, v.ownBlock = some b → v'.ownBlock ≠ some b) → 0 < y → d ≠ d' := fun {y y' d d' v v'} g1 g2 g3 g4 g5 hp e => by
    rcases Nat.eq_zero_or_pos y' with h0 | h0
    · have := g3 h0; have := g4 hp; omega
    · exact g5 d (g1 hp) (by rw [g2 h0, e])
  have sym : ∀ {v v' : Value}, Apt v v' → ∀ b, v'.ownBlock = some b → v.ownBlock ≠ some b := fun h b e e' => h b e' e
  exact ⟨A0, c0, d0, r0, A1, c1, d1, r1, rfl, ⟨t0, e0, q0⟩, ⟨t1, e1, q1⟩, ⟨key b0 b1 f1 t0.lt_ p01, key b1 b0 f0 t1.lt_ (sym p01)⟩, hb⟩
theorem same_cnn {xs rs rs' : List Nat} {y : Nat} (hy : xs.length = y) (h : cnl rs = xs) (h' : cnl rs' = xs) : ∀ i, i < y → cn .f32 (rs.getD i 0) = cn .f32 (rs'.getD i 0) := fun i hi => same_cn h h' i (by rw [hy]; exact hi)
theorem FOwn.keepS {T : TypeId} {B : Nat} {wr wa : World} {v : Value} {rs : List Nat} (h : FOwn T B wr v rs) (hb : Below wr.heap.size wr wa) : FOwn T B wa v rs := by
  refine ⟨h.1, ?_⟩
  have hl := h.lt
  rcases h.2 with h2 | ⟨g, cap, cur, rfl, h3, h4, h5⟩
  · exact .inl h2
  · exact .inr ⟨g, cap, cur, rfl, h3, by rw [hb.block g (hl g rfl).2]; exact h4, h5⟩

def swM (zs : List Nat) (j : Nat) : Nat := aop .quo .f32 (aop .add .f32 (cn .f32 (zs.getD (2 * j) 0)) (cn .f32 (zs.getD (2 * j + 1) 0))) 1073741824
def swS (zs : List Nat) (j : Nat) : Nat := aop .quo .f32 (aop .sub .f32 (cn .f32 (zs.getD (2 * j) 0)) (cn .f32 (zs.getD (2 * j + 1) 0))) 1073741824
def swP (zs : List Nat) : Bool := serB zs && decide (zs.length % 2 = 0)
def swB (zs : List Nat) : Bool := swP zs && (fins (tells (swM zs) (zs.length / 2)) && fins (tells (swS zs) (zs.length / 2)))
def swL (zs : List Nat) (f : Nat → Nat) : List Nat := if swB zs then tells f (zs.length / 2) else []
theorem swL_len (zs : List Nat) (f : Nat → Nat) : (swL zs f).length ≤ 1048576 := by
  unfold swL
  split
  · rename_i h
    unfold swB swP at h
    have h1 := (Bool.and_eq_true _ _ ▸ (Bool.and_eq_true _ _ ▸ h).1).1
    have := (serB_t h1).2.1
    rw [tells_len]; omega
  · simp
theorem sw_bad {zs : List Nat} (h : swB zs = false) (f : Nat → Nat) : swL zs f = [] := by unfold swL; rw [h]; rfl
theorem two_cn : cn .f32 1073741824 = 1073741824 := by decide +kernel

end Go.Proofs.Ytopgegciejmhaaa
