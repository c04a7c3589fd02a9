/-
  TakeApart, in both packages, at every argument; three lists that are held on to.
-/
import Derived.Test.YtallegmkkbmelaaCAps
import Derived.Test.YtallegmkkbmelaaCLaw
namespace Go.Proofs.Ytallegmkkbmelaa
open Ieee Go.RowKit
set_option linter.unusedVariables false

theorem implApa_any (a : Option Addr) (len cap : Nat) (zs : List Nat) (p q r : Int) (w : World) (h : FSl w a len zs) (hm : len ≤ 1048576) :
    Calls Try.prog 22 #[.slice a len cap, .int .i64 p, .int .i64 q, .int .i64 r] w (RetL3 23 (apL zs p q r (apTr zs p q r)) (apL zs p q r (apSe zs p q r)) (apL zs p q r (apRe zs p q r)) (apB zs p q r) w) := by
  cases hB : (serB zs && (decide (1 ≤ p ∧ p ≤ zs.length) && decide (1 ≤ r ∧ r ≤ 8)))
  · exact implApa_no a len cap zs p q r w h hm hB
  · simp only [Bool.and_eq_true, decide_eq_true_eq] at hB
    obtain ⟨h1, ⟨h2, h3⟩, h4, h5⟩ := hB
    obtain ⟨m, rfl⟩ : ∃ m : Nat, p = m := ⟨p.toNat, by omega⟩
    obtain ⟨R, rfl⟩ : ∃ R : Nat, r = R := ⟨r.toNat, by omega⟩
    have hl := h.1
    exact implApa_yes a len cap m R zs q w h h1 (by omega) (by omega) (by omega) (by omega)
theorem specApa_any (a : Option Addr) (len cap : Nat) (zs : List Nat) (p q r : Int) (w : World) (h : FSl w a len zs) (hm : len ≤ 1048576) :
    Calls Try.prog 21 #[.slice a len cap, .int .i64 p, .int .i64 q, .int .i64 r] w (RetL3 23 (apL zs p q r (apTr zs p q r)) (apL zs p q r (apSe zs p q r)) (apL zs p q r (apRe zs p q r)) (apB zs p q r) w) := by
  cases hB : apB0 zs p q r
  · exact specApa_no a len cap zs p q r w h hm hB
  · obtain ⟨h1, h2, h3, h4, h5, h6, h7, h8⟩ := apB_t hB
    obtain ⟨m, rfl⟩ : ∃ m : Nat, p = m := ⟨p.toNat, by omega⟩
    obtain ⟨R, rfl⟩ : ∃ R : Nat, r = R := ⟨r.toNat, by omega⟩
    obtain ⟨sd, rfl⟩ : ∃ sd : Nat, q = sd := ⟨q.toNat, by omega⟩
    have hl := h.1
    exact specApa_yes a len cap m sd R zs w h h1 (by omega) (by omega) (by omega) (by omega) (by omega)
theorem apL_len (zs : List Nat) (p q r : Int) {xs : List Nat} (h : xs.length ≤ zs.length) : (apL zs p q r xs).length ≤ 1048576 := by
  unfold apL
  split
  · rename_i hb
    unfold apB at hb
    have := (apB_t (Bool.and_eq_true _ _ ▸ hb).1).2.2.2.2.2.2.2
    omega
  · simp
theorem apTr_len (zs : List Nat) (p q r : Int) : (apTr zs p q r).length ≤ zs.length := by unfold apTr; rw [trZ_len]; exact Nat.le_refl _
theorem apSe_len (zs : List Nat) (p q r : Int) : (apSe zs p q r).length ≤ zs.length := by unfold apSe; rw [sprZ_len]; exact Nat.le_refl _
theorem apRe_len (zs : List Nat) (p q r : Int) : (apRe zs p q r).length ≤ zs.length := by unfold apRe; rw [offZ_len, offZ_len]; exact Nat.le_refl _

/-- A list of a call's own, held on to; where it is empty its block is far. -/
theorem FOwn.resn {T : TypeId} {B far : Nat} {w' : World} {v : Value} {rs xs : List Nat} {y : Nat} (h : FOwn T B w' v rs) (hx : cnl rs = xs) (hy : xs.length = y) (hfar : B ≤ far) :
    ∃ A cap b, v = .slice A y cap ∧ Held w' A b y rs ∧ B ≤ b ∧ (0 < y → v.ownBlock = some b) ∧ (y = 0 → b = far) := by
  subst hy
  rcases Nat.eq_zero_or_pos xs.length with h0 | h0
  · obtain ⟨A, cap, b, rfl, hh, hb⟩ := h.res hx
    exact ⟨A, cap, far, rfl, ⟨hh.sl, fun hp => by omega, fun hp => by omega, fun j hj => by omega⟩, hfar, fun hp => by omega, fun _ => rfl⟩
  · obtain ⟨A, cap, b, rfl, hh, hb⟩ := h.res hx
    exact ⟨A, cap, b, rfl, hh, hb, fun hp => by rw [hh.at_ hp]; rfl, fun e => by omega⟩
theorem RetL3.res {T : TypeId} {X0 X1 X2 x0 x1 x2 : List Nat} {y0 y1 y2 : Nat} {ok : Bool} {w : World} {e : Ending} {w' : World} (h : RetL3 T X0 X1 X2 ok w e w') (hx0 : X0 = x0) (hy0 : x0.length = y0) (hx1 : X1 = x1) (hy1 : x1.length = y1) (hx2 : X2 = x2) (hy2 : x2.length = y2) :
    ∃ A0 c0 d0 r0 A1 c1 d1 r1 A2 c2 d2 r2, e = .returned (.tuple #[.slice A0 y0 c0, .slice A1 y1 c1, .slice A2 y2 c2, .bool ok]) ∧ (Held w' A0 d0 y0 r0 ∧ cnl r0 = x0 ∧ w.heap.size ≤ d0) ∧ (Held w' A1 d1 y1 r1 ∧ cnl r1 = x1 ∧ w.heap.size ≤ d1) ∧ (Held w' A2 d2 y2 r2 ∧ cnl r2 = x2 ∧ w.heap.size ≤ d2) ∧
      ((0 < y0 → d0 ≠ d1) ∧ (0 < y0 → d0 ≠ d2) ∧ (0 < y1 → d1 ≠ d0) ∧ (0 < y1 → d1 ≠ d2) ∧ (0 < y2 → d2 ≠ d0) ∧ (0 < y2 → d2 ≠ d1)) ∧ Below w.heap.size w w' := by
  subst hx0 hx1 hx2
  obtain ⟨v0, r0, v1, r1, v2, r2, rfl, ⟨o0, o1, o2⟩, ⟨e0, e1, e2⟩, ⟨p01, p02, p12⟩, hb⟩ := h
  have hs := hb.size
  obtain ⟨A0, c0, d0, rfl, t0, q0, b0, f0⟩ := o0.resn (far := w'.heap.size) e0 hy0 hs
  obtain ⟨A1, c1, d1, rfl, t1, q1, b1, f1⟩ := o1.resn (far := w'.heap.size) e1 hy1 hs
  obtain ⟨A2, c2, d2, rfl, t2, q2, b2, f2⟩ := o2.resn (far := w'.heap.size) e2 hy2 hs
  have key : ∀ {y y' d d' : Nat} {v v' : Value}, (0 < y → v.ownBlock = some d) → (0 < y' → v'.ownBlock = some d') → (y' = 0 → d' = w'.heap.size) → (0 < y → d < w'.heap.size) → (∀ b, v.ownBlock = some b → v'.ownBlock ≠ some b) → 0 < y → d ≠ d' := fun {y y' d d' v v'} g1 g2 g3 g4 g5 hp e => by
    rcases Nat.eq_zero_or_pos y' with h0 | h0
    · have := g3 h0; have := g4 hp; omega
    · exact g5 d (g1 hp) (by rw [g2 h0, e])
  have sym : ∀ {v v' : Value}, Apt v v' → ∀ b, v'.ownBlock = some b → v.ownBlock ≠ some b := fun h b e e' => h b e' e
  exact ⟨A0, c0, d0, r0, A1, c1, d1, r1, A2, c2, d2, r2, rfl, ⟨t0, e0, q0⟩, ⟨t1, e1, q1⟩, ⟨t2, e2, q2⟩,
    ⟨key b0 b1 f1 t0.lt_ p01, key b0 b2 f2 t0.lt_ p02, key b1 b0 f0 t1.lt_ (sym p01), key b1 b2 f2 t1.lt_ p12, key b2 b0 f0 t2.lt_ (sym p02), key b2 b1 f1 t2.lt_ (sym p12)⟩, hb⟩
theorem same_cnn {xs rs rs' : List Nat} {y : Nat} (hy : xs.length = y) (h : cnl rs = xs) (h' : cnl rs' = xs) : ∀ i, i < y → cn .f32 (rs.getD i 0) = cn .f32 (rs'.getD i 0) := fun i hi => same_cn h h' i (by rw [hy]; exact hi)
end Go.Proofs.Ytallegmkkbmelaa
