/-
  TakeApart of the program, whole.
-/
import Derived.Test.YtcfejkkkleiejaaCApo
namespace Go.Proofs.Ytcfejkkkleiejaa
open Ieee Go.RowKit
set_option linter.unusedVariables false

/-- Three lists and a bool. -/
def RetL3 (T : TypeId) (xs0 xs1 xs2 : List Nat) (ok : Bool) (w : World) (e : Ending) (w' : World) : Prop :=
  ∃ v0 r0 v1 r1 v2 r2, e = .returned (.tuple #[v0, v1, v2, .bool ok]) ∧ (FOwn T w.heap.size w' v0 r0 ∧ FOwn T w.heap.size w' v1 r1 ∧ FOwn T w.heap.size w' v2 r2) ∧ (cnl r0 = xs0 ∧ cnl r1 = xs1 ∧ cnl r2 = xs2) ∧ (Apt v0 v1 ∧ Apt v0 v2 ∧ Apt v1 v2) ∧ Below w.heap.size w w'
theorem apt_nil (v : Value) : Apt (.slice none 0 0) v := fun b e => by simp [Value.ownBlock] at e
theorem fail_l3 (T : TypeId) {xs0 xs1 xs2 : List Nat} {ok : Bool} (hok : ok = false) (h0 : xs0 = []) (h1 : xs1 = []) (h2 : xs2 = []) {w w' : World} (hb : Below w.heap.size w w') : RetL3 T xs0 xs1 xs2 ok w (.returned (.tuple #[.slice none 0 0, .slice none 0 0, .slice none 0 0, .bool false])) w' :=
  ⟨_, [], _, [], _, [], by rw [hok], ⟨FOwn.nil .., FOwn.nil .., FOwn.nil ..⟩, ⟨h0.symm, h1.symm, h2.symm⟩, ⟨apt_nil _, apt_nil _, apt_nil _⟩, hb⟩
theorem FOwn.setO {T : TypeId} {B b : Nat} {w : World} {v : Value} {rs : List Nat} (h : FOwn T B w v rs) (hne : v.ownBlock ≠ some b) (i : Nat) (u : Value) : FOwn T B (w.setCell ⟨b, i, none⟩ u) v rs := by
  refine ⟨h.1, ?_⟩
  rcases h.2 with h2 | ⟨g, cap, cur, rfl, h3, h4, h5⟩
  · exact .inl h2
  · refine .inr ⟨g, cap, cur, rfl, h3, ?_, h5⟩
    rw [Below.heap_setCell w ⟨b, i, none⟩ u g (fun e => hne (by show some g = some b; rw [e]))]; exact h4
theorem FOwn.fsl {T : TypeId} {B : Nat} {w : World} {A : Option Addr} {n c : Nat} {rs : List Nat} (h : FOwn T B w (.slice A n c) rs) : n = rs.length ∧ FSl w A n rs := by
  obtain ⟨A', c', e, hs, _⟩ := h.sl
  injection e with e1 e2 e3
  subst e1 e2 e3
  exact ⟨rfl, hs⟩
theorem own_far {T : TypeId} {B b : Nat} {w : World} {v : Value} {rs : List Nat} (h : FOwn T B w v rs) (hb : b < B) : v.ownBlock ≠ some b := fun e => by have := (h.lt b e).1; omega
theorem own_far2 {T : TypeId} {B b : Nat} {w : World} {v : Value} {rs : List Nat} (h : FOwn T B w v rs) (hb : w.heap.size ≤ b) : v.ownBlock ≠ some b := fun e => by have := (h.lt b e).2; omega

/-- What stands behind t rounds. -/
structure ApSt (T : TypeId) (w wr : World) (a : Option Addr) (len cap m : Nat) (zs : List Nat) (q : Int) (t : Nat) (vs vt : Value) : Prop where
  bel : Below w.heap.size w wr
  list : BoxS (w.heap.size + 1) w.heap.size a len cap zs wr
  size : w.heap.size + 4 ≤ wr.heap.size
  cs : wr.cell? ⟨w.heap.size + 2, 0, none⟩ = some vs
  fs : wr.frozen? ⟨w.heap.size + 2, 0, none⟩ = false
  ct : wr.cell? ⟨w.heap.size + 3, 0, none⟩ = some vt
  ft : wr.frozen? ⟨w.heap.size + 3, 0, none⟩ = false
  own : ∃ rs, FOwn T w.heap.size wr vs rs ∧ cnl rs = apS zs m q.toNat t ∧ vs.ownBlock ≠ some (w.heap.size + 2) ∧ vs.ownBlock ≠ some (w.heap.size + 3)
  tr : 0 < t → (0 ≤ q ∧ q ≤ 96) ∧ fins (apS zs m q.toNat t) = true ∧ ∃ rt, FOwn T w.heap.size wr vt rt ∧ cnl rt = trZ zs (apS zs m q.toNat (t - 1)) q.toNat ∧ Apt vt vs
theorem ApSt.step {T : TypeId} {w wr w1 : World} {a : Option Addr} {len cap m : Nat} {zs : List Nat} {q : Int} {t : Nat} {vs vt v1 v2 : Value} {rs1 rs2 : List Nat} (h : ApSt T w wr a len cap m zs q t vs vt)
    (hb : Below wr.heap.size wr w1) (h1 : FOwn T wr.heap.size w1 v1 rs1) (h2 : FOwn T wr.heap.size w1 v2 rs2) (e1 : cnl rs1 = trZ zs (apS zs m q.toNat t) q.toNat) (e2 : cnl rs2 = apS zs m q.toNat (t + 1)) (hq : 0 ≤ q ∧ q ≤ 96) (hf : fins (apS zs m q.toNat (t + 1)) = true) (ha : Apt v1 v2) :
    ApSt T w ((w1.setCell ⟨w.heap.size + 3, 0, none⟩ v1).setCell ⟨w.heap.size + 2, 0, none⟩ v2) a len cap m zs q (t + 1) v2 v1 := by
  have hsz := h.size
  have hs1 := hb.size
  have c1 : w1.cell? ⟨w.heap.size + 2, 0, none⟩ = some vs := by rw [hb.cell (p := ⟨w.heap.size + 2, 0, none⟩) (by show w.heap.size + 2 < _; omega)]; exact h.cs
  have c2 : w1.cell? ⟨w.heap.size + 3, 0, none⟩ = some vt := by rw [hb.cell (p := ⟨w.heap.size + 3, 0, none⟩) (by show w.heap.size + 3 < _; omega)]; exact h.ct
  have hB : Below (w.heap.size + 1) w1 ((w1.setCell ⟨w.heap.size + 3, 0, none⟩ v1).setCell ⟨w.heap.size + 2, 0, none⟩ v2) := ((Below.refl _ _).setCell (by show w.heap.size + 1 ≤ w.heap.size + 3; omega) _).setCell (by show w.heap.size + 1 ≤ w.heap.size + 2; omega) _
  refine ⟨(h.bel.trans (hb.mono (by omega))).trans (hB.mono (by omega)), (h.list.keep (hb.mono (by omega))).keep hB, by simp [World.setCell]; omega, ?_, ?_, ?_, ?_, ⟨rs2, ?_, e2, own_far h2 (by omega), own_far h2 (by omega)⟩, fun _ => ⟨hq, hf, rs1, ?_, by rw [Nat.add_sub_cancel]; exact e1, ha⟩⟩
  · exact World.cell?_setCell_same' _ _ _ (by rw [World.cell?_setCell_other _ _ _ _ (fun he => by injection he with he; omega), c1]; rfl)
  · rw [World.frozen?_setCell, World.frozen?_setCell, hb.frozen (p := ⟨w.heap.size + 2, 0, none⟩) (by show w.heap.size + 2 < _; omega)]; exact h.fs
  · rw [World.cell?_setCell_other _ _ _ _ (fun he => by injection he with he; omega)]
    exact World.cell?_setCell_same' _ _ _ (by rw [c2]; rfl)
  · rw [World.frozen?_setCell, World.frozen?_setCell, hb.frozen (p := ⟨w.heap.size + 3, 0, none⟩) (by show w.heap.size + 3 < _; omega)]; exact h.ft
  · exact ((h2.mono (by omega)).setO (own_far h2 (by omega)) _ _).setO (own_far h2 (by omega)) _ _
  · exact ((h1.mono (by omega)).setO (own_far h1 (by omega)) _ _).setO (own_far h1 (by omega)) _ _
theorem BoxS.mk {w : World} {bl : Nat} {a : Option Addr} {len cap : Nat} {zs : List Nat} (hb : bl < w.heap.size) (h : FSl w a len zs) (hc : w.cell? ⟨bl, 0, none⟩ = some (.slice a len cap)) : BoxS w.heap.size bl a len cap zs w := by
  refine ⟨hb, h.1, hc, fun hp => ?_⟩
  obtain ⟨b, off, rfl, hlt, hcc⟩ := h.at hp
  exact ⟨b, off, rfl, hlt, hcc⟩
theorem onceB_cnl (zs s : List Nat) (q : Int) : onceB zs (cnl s) q = onceB zs s q := by unfold onceB; rw [nxZ_cnl]
theorem onceB_t {zs s : List Nat} {q : Int} (h : onceB zs s q = true) : (0 ≤ q ∧ q ≤ 96) ∧ fins (nxZ zs s q.toNat) = true := by
  unfold onceB at h
  exact ⟨of_decide_eq_true (Bool.and_eq_true _ _ ▸ h).1, (Bool.and_eq_true _ _ ▸ h).2⟩

theorem own_zero {T : TypeId} {B n : Nat} (w : World) (hB : B ≤ w.heap.size) (hn : n ≤ 1048576) : FOwn T B (w.alloc (.cells (madeCells #[.float .f32 0] n) T)) (.slice (some ⟨w.heap.size, 0, none⟩) n n) (List.replicate n 0) := by
  unfold FOwn
  rw [List.length_replicate]
  refine ⟨by simp, .inr ⟨w.heap.size, n, _, rfl, hB, heap_alloc_new w _, Nat.le_refl _, by unfold maxLen; omega, by rw [size_madeCells, Nat.mul_one], ?_⟩⟩
  rw [toList_madeCells_one, Nat.mul_one, List.map_replicate, List.take_of_length_le (by simp)]
theorem ApSt.start {T T2 : TypeId} {w : World} {a : Option Addr} {len cap m n0 : Nat} {zs : List Nat} {q : Int} (h : FSl w a len zs) (hm : m ≤ 1048576) :
    ApSt T w ((((((w.alloc (.cells #[.slice a len cap] T2)).drewN n0).alloc (.cells (madeCells #[.float .f32 0] m) T)).alloc (.cells #[.slice (some ⟨w.heap.size + 1, 0, none⟩) m m] T2)).alloc (.cells #[.slice none 0 0] T2))) a len cap m zs q 0 (.slice (some ⟨w.heap.size + 1, 0, none⟩) m m) (.slice none 0 0) := by
  have b1 : Below (w.heap.size + 1) (w.alloc (.cells #[.slice a len cap] T2)) ((((((w.alloc (.cells #[.slice a len cap] T2)).drewN n0).alloc (.cells (madeCells #[.float .f32 0] m) T)).alloc (.cells #[.slice (some ⟨w.heap.size + 1, 0, none⟩) m m] T2)).alloc (.cells #[.slice none 0 0] T2))) :=
    (((below_drewN (Below.refl _ _) n0).alloc (by simp) _).alloc (by simp) _).alloc (by simp) _
  have hz := own_zero (T := T) (B := w.heap.size) (n := m) ((w.alloc (.cells #[.slice a len cap] T2)).drewN n0) (by simp) hm
  refine ⟨((Below.refl _ _).alloc (Nat.le_refl _) _).trans (b1.mono (Nat.le_succ _)), (BoxS.start h).keep b1, by simp, ?_, ?_, ?_, ?_, ⟨List.replicate m 0, ?_, ?_, by simp [Value.ownBlock], by simp [Value.ownBlock]⟩, fun h0 => by omega⟩
  · rw [World.cell?_alloc_past _ _ _ (by simp), World.cell?_alloc_at _ _ _ _ (by simp)]; rfl
  · rw [World.frozen?_alloc_past _ _ _ (by simp), World.frozen?_alloc_at _ _ _ _ (by simp)]
  · rw [World.cell?_alloc_at _ _ _ _ (by simp)]; rfl
  · rw [World.frozen?_alloc_at _ _ _ _ (by simp)]
  · have e : (⟨((w.alloc (.cells #[.slice a len cap] T2)).drewN n0).heap.size, 0, none⟩ : Addr) = ⟨w.heap.size + 1, 0, none⟩ := by simp
    rw [e] at hz
    exact (hz.alloc _).alloc _
  · show cnl (List.replicate m 0) = List.replicate m 0
    unfold cnl; rw [List.map_replicate, cn_zero]

end Go.Proofs.Ytcfejkkkleiejaa
