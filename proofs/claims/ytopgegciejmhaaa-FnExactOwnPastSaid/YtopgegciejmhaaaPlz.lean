/-
  Lists of the call's own, in a block g: cells, writes into them, writes elsewhere.
-/
import Derived.Test.YtopgegciejmhaaaCPlc
import Derived.Test.YtopgegciejmhaaaFsl
import Derived.StillTail
import Derived.WalkKit
import Derived.Below
import Derived.Test.YtopgegciejmhaaaCSlg
import Derived.Test.YtopgegciejmhaaaCSmd
import Derived.Test.YtopgegciejmhaaaCBox
import Derived.Deep.DeepCutAuto
import Derived.Maps.AppendAt
namespace Go.Proofs.Ytopgegciejmhaaa
open Ieee Go.RowKit
set_option linter.unusedVariables false
theorem owp_put {T : TypeId} {B g n cap : Nat} {w : World} {rs : List Nat} (h : FOwn T B w (.slice (some ⟨g, 0, none⟩) n cap) rs) (hn : rs.length = n) (j r : Nat) : FOwn T B (w.setCell ⟨g, j, none⟩ (.float .f32 r)) (.slice (some ⟨g, 0, none⟩) n cap) (rs.set j r) := by
  subst hn
  have := (World.ownsRow.stored h j (.float .f32 r)).1
  unfold FOwn
  rw [List.length_set, List.map_set]
  exact this
theorem owp_blk {T : TypeId} {B n : Nat} {w : World} {v : Value} {rs : List Nat} (h : FOwn T B w v rs) (hn : rs.length = n) (h0 : 0 < n) : ∃ g cap, v = .slice (some ⟨g, 0, none⟩) n cap ∧ B ≤ g ∧ g < w.heap.size := by
  obtain ⟨A, cap, rfl, _, hf⟩ := h.sl
  obtain ⟨b, rfl, hB, hb, _⟩ := hf 0 (by omega)
  exact ⟨b, cap, by rw [hn], hB, hb⟩
theorem owp_cell {T : TypeId} {B g n cap : Nat} {w : World} {rs : List Nat} (h : FOwn T B w (.slice (some ⟨g, 0, none⟩) n cap) rs) (hn : rs.length = n) {j : Nat} (hj : j < n) : w.cell? ⟨g, j, none⟩ = some (.float .f32 (rs.getD j 0)) ∧ w.frozen? ⟨g, j, none⟩ = false := by
  subst hn
  refine ⟨?_, World.ownsRow.frozenAt h j⟩
  rw [World.ownsRow.cellAt h j (by omega)]
  simp [List.getD, hj]
theorem owp_fsl {T : TypeId} {B : Nat} {w : World} {A : Option Addr} {n c : Nat} {rs : List Nat} (h : FOwn T B w (.slice A n c) rs) : FSl w A n rs := by
  obtain ⟨A', c', e, hs, _⟩ := h.sl
  injection e with e1 e2 e3
  subst e1 e2
  exact hs
theorem owp_lt {T : TypeId} {B g n cap : Nat} {w : World} {rs : List Nat} (h : FOwn T B w (.slice (some ⟨g, 0, none⟩) n cap) rs) : B ≤ g ∧ g < w.heap.size := h.lt g rfl
theorem owp_far {T : TypeId} {B b : Nat} {w : World} {v : Value} {rs : List Nat} (h : FOwn T B w v rs) (hne : v.ownBlock ≠ some b) (i : Nat) (u : Value) : FOwn T B (w.setCell ⟨b, i, none⟩ u) v rs := by
  refine ⟨h.1, ?_⟩
  rcases h.2 with h2 | ⟨g, cap, cur, rfl, h3, h4, h5⟩
  · exact .inl h2
  · refine .inr ⟨g, cap, cur, rfl, h3, ?_, h5⟩
    rw [Below.heap_setCell w ⟨b, i, none⟩ u g (fun e => hne (by show some g = some b; rw [e]))]; exact h4
theorem owp_farS {T : TypeId} {B g b n cap : Nat} {w : World} {rs : List Nat} (h : FOwn T B w (.slice (some ⟨g, 0, none⟩) n cap) rs) (hne : g ≠ b) (i : Nat) (u : Value) : FOwn T B (w.setCell ⟨b, i, none⟩ u) (.slice (some ⟨g, 0, none⟩) n cap) rs :=
  owp_far h (fun e => hne (Option.some.inj e)) i u
theorem owp_keep {T : TypeId} {B : Nat} {wr wa : World} {v : Value} {rs : List Nat} (h : FOwn T B wr v rs) (hb : Below wr.heap.size wr wa) : FOwn T B wa v rs := by
  have hl := h.lt
  refine ⟨h.1, ?_⟩
  rcases h.2 with h2 | ⟨g, cap, cur, rfl, h3, h4, h5⟩
  · exact .inl h2
  · exact .inr ⟨g, cap, cur, rfl, h3, by rw [hb.block g (hl g rfl).2]; exact h4, h5⟩
theorem cnl_set (rs : List Nat) (j : Nat) {r v : Nat} (h : cn .f32 r = v) : cnl (rs.set j r) = (cnl rs).set j v := by unfold cnl; rw [List.map_set, h]
theorem cnl_get {rs xs : List Nat} (h : cnl rs = xs) {j : Nat} (hj : j < rs.length) : cn .f32 (rs.getD j 0) = xs.getD j 0 := by rw [← h]; exact (cnl_at hj).symm
theorem fslw {w : World} {b off n : Nat} {zs : List Nat} (h : FSl w (some ⟨b, off, none⟩) n zs) {j : Nat} (hj : j < n) : w.cell? ⟨b, off + j, none⟩ = some (.float .f32 (zs.getD j 0)) := by
  obtain ⟨b', off', e, _, hc⟩ := h.at (show 0 < n by omega)
  injection e with e
  injection e with e1 e2
  subst e1 e2
  exact hc j hj
theorem set_len {rs : List Nat} {n j r : Nat} (h : rs.length = n) : (rs.set j r).length = n := by rw [List.length_set]; exact h
theorem owp_push {T : TypeId} {B r : Nat} {w1 : World} {v : Value} {rs : List Nat} (h : w1.ownsRow B T 1 v (rs.length + 1) (rs.map (Value.float .f32) ++ [.float .f32 r])) : FOwn T B w1 v (rs ++ [r]) := by
  unfold FOwn
  rw [List.length_append, List.map_append]
  exact h
theorem owp_one {w : World} {g : Nat} {v : Value} (h : w.cell? ⟨g, 0, none⟩ = some v) : ∀ j u, [v][j]? = some u → w.cell? ((⟨g, 0, none⟩ : Addr).add j) = some u := by
  intro j u hj
  match j, hj with
  | 0, hj =>
    simp at hj
    subst hj
    rw [show ((⟨g, 0, none⟩ : Addr).add 0) = ⟨g, 0, none⟩ by simp [Addr.add]]
    exact h
/-- Two values in blocks of their own that differ. -/
def OApt (v v' : Value) : Prop := ∀ b, v.ownBlock = some b → v'.ownBlock ≠ some b
theorem OApt.symm {u v : Value} (h : OApt u v) : OApt v u := fun b e0 e1 => h b e1 e0
theorem oapt_nil (v : Value) : OApt (.slice none 0 0) v := fun b e0 _ => by cases e0
theorem oapt_new {T : TypeId} {B B' : Nat} {w w' : World} {u v : Value} {rs rs' : List Nat} (h : FOwn T B w u rs) (h' : FOwn T B' w' v rs') (hB : w.heap.size ≤ B') : OApt u v := fun b e e' => by
  have h1 := (h.lt b e).2
  have h2 := (h'.lt b e').1
  omega
theorem owp_grown {T : TypeId} {B : Nat} {wy w1 : World} {v : Value} {rs : List Nat} {row : Option Nat} (h : FOwn T B wy v rs) (hg : wy.grownBy w1 row) (hne : ∀ b, v.ownBlock = some b → some b ≠ row) : FOwn T B w1 v rs := by
  refine ⟨h.1, ?_⟩
  have hl := h.lt
  rcases h.2 with h2 | ⟨g, cap, cur, rfl, h3, h4, h5⟩
  · exact .inl h2
  · exact .inr ⟨g, cap, cur, rfl, h3, by rw [hg.block g (hl g rfl).2 (hne g rfl)]; exact h4, h5⟩
theorem oapt_grown {T : TypeId} {B H : Nat} {w : World} {v v' u : Value} {rs : List Nat} (h : OApt u v) (hu : FOwn T B w u rs) (hH : w.heap.size ≤ H) (hat : v'.ownBlock = v.ownBlock ∨ v'.ownBlock = some H) : OApt u v' := fun b e0 e1 => by
  rcases hat with h2 | h2
  · exact h b e0 (h2 ▸ e1)
  · have h3 := (hu.lt b e0).2
    rw [h2] at e1
    have h4 := Option.some.inj e1
    omega
/-- Two lists of the call's own, apart from one another. -/
structure Own2 (T : TypeId) (B : Nat) (w : World) (u : Value) (xs : List Nat) (v : Value) (ys : List Nat) : Prop where
  a : FOwn T B w u xs
  b : FOwn T B w v ys
  ab : OApt u v
theorem Own2.swap {T : TypeId} {B : Nat} {w : World} {u v : Value} {xs ys : List Nat} (h : Own2 T B w u xs v ys) : Own2 T B w v ys u xs := ⟨h.b, h.a, h.ab.symm⟩
theorem Own2.keep {T : TypeId} {B : Nat} {w w' : World} {u v : Value} {xs ys : List Nat} (h : Own2 T B w u xs v ys) (hb : Below w.heap.size w w') : Own2 T B w' u xs v ys := ⟨owp_keep h.a hb, owp_keep h.b hb, h.ab⟩
theorem Own2.drewN {T : TypeId} {B : Nat} {w : World} {u v : Value} {xs ys : List Nat} (h : Own2 T B w u xs v ys) (n : Nat) : Own2 T B (w.drewN n) u xs v ys := ⟨h.a.drewN n, h.b.drewN n, h.ab⟩
/-- The first one grows by one. -/
theorem Own2.push {T : TypeId} {B r H : Nat} {w w0 w1 : World} {u v u' : Value} {xs ys : List Nat} (h : Own2 T B w u xs v ys) (hb : Below w.heap.size w w0) (ho : w1.ownsRow B T 1 u' (xs.length + 1) (xs.map (Value.float .f32) ++ [.float .f32 r]))
    (hg : w0.grownBy w1 u.ownBlock) (hH : w.heap.size ≤ H) (hat : u'.ownBlock = u.ownBlock ∨ u'.ownBlock = some H) : Own2 T B w1 u' (xs ++ [r]) v ys :=
  ⟨owp_push ho, owp_grown (owp_keep h.b hb) hg (fun b e1 e2 => h.ab b e2.symm e1), (oapt_grown h.ab.symm h.b hH hat).symm⟩
/-- The first one is another one, made behind. -/
theorem Own2.set {T : TypeId} {B B' : Nat} {w w1 : World} {u v u' : Value} {xs ys zs : List Nat} (h : Own2 T B w u xs v ys) (hb : Below w.heap.size w w1) (hB : w.heap.size ≤ B') (hB0 : B ≤ B') (ho : FOwn T B' w1 u' zs) : Own2 T B w1 u' zs v ys :=
  ⟨ho.mono hB0, owp_keep h.b hb, (oapt_new h.b ho hB).symm⟩
/-- Three lists of the call's own, apart from one another. -/
structure Own3 (T : TypeId) (B : Nat) (w : World) (u : Value) (xs : List Nat) (v : Value) (ys : List Nat) (x : Value) (zs : List Nat) : Prop where
  a : FOwn T B w u xs
  b : FOwn T B w v ys
  c : FOwn T B w x zs
  ab : OApt u v
  ac : OApt u x
  bc : OApt v x
theorem Own3.rot {T : TypeId} {B : Nat} {w : World} {u v x : Value} {xs ys zs : List Nat} (h : Own3 T B w u xs v ys x zs) : Own3 T B w v ys x zs u xs := ⟨h.b, h.c, h.a, h.bc, h.ab.symm, h.ac.symm⟩
theorem Own3.tail {T : TypeId} {B : Nat} {w : World} {u v x : Value} {xs ys zs : List Nat} (h : Own3 T B w u xs v ys x zs) : Own2 T B w v ys x zs := ⟨h.b, h.c, h.bc⟩
theorem Own3.keep {T : TypeId} {B : Nat} {w w' : World} {u v x : Value} {xs ys zs : List Nat} (h : Own3 T B w u xs v ys x zs) (hb : Below w.heap.size w w') : Own3 T B w' u xs v ys x zs := ⟨owp_keep h.a hb, owp_keep h.b hb, owp_keep h.c hb, h.ab, h.ac, h.bc⟩
theorem Own3.drewN {T : TypeId} {B : Nat} {w : World} {u v x : Value} {xs ys zs : List Nat} (h : Own3 T B w u xs v ys x zs) (n : Nat) : Own3 T B (w.drewN n) u xs v ys x zs := ⟨h.a.drewN n, h.b.drewN n, h.c.drewN n, h.ab, h.ac, h.bc⟩
theorem Own3.push {T : TypeId} {B r H : Nat} {w w0 w1 : World} {u v x u' : Value} {xs ys zs : List Nat} (h : Own3 T B w u xs v ys x zs) (hb : Below w.heap.size w w0) (ho : w1.ownsRow B T 1 u' (xs.length + 1) (xs.map (Value.float .f32) ++ [.float .f32 r]))
    (hg : w0.grownBy w1 u.ownBlock) (hH : w.heap.size ≤ H) (hat : u'.ownBlock = u.ownBlock ∨ u'.ownBlock = some H) : Own3 T B w1 u' (xs ++ [r]) v ys x zs :=
  ⟨owp_push ho, owp_grown (owp_keep h.b hb) hg (fun b e1 e2 => h.ab b e2.symm e1), owp_grown (owp_keep h.c hb) hg (fun b e1 e2 => h.ac b e2.symm e1), (oapt_grown h.ab.symm h.b hH hat).symm, (oapt_grown h.ac.symm h.c hH hat).symm, h.bc⟩
/-- A third one beside two, made behind. -/
theorem Own2.more {T : TypeId} {B B' : Nat} {w w1 : World} {u v x : Value} {xs ys zs : List Nat} (h : Own2 T B w u xs v ys) (hb : Below w.heap.size w w1) (hB : w.heap.size ≤ B') (hB0 : B ≤ B') (ho : FOwn T B' w1 x zs) : Own3 T B w1 x zs u xs v ys :=
  ⟨ho.mono hB0, owp_keep h.a hb, owp_keep h.b hb, (oapt_new h.a ho hB).symm, (oapt_new h.b ho hB).symm, h.ab⟩
theorem own2_sl {T : TypeId} {B : Nat} {w : World} {v : Value} {rs : List Nat} (h : FOwn T B w v rs) : ∃ A cap, v = .slice A rs.length cap ∧ FSl w A rs.length rs := by
  obtain ⟨A, cap, e, hs, _⟩ := h.sl
  exact ⟨A, cap, e, hs⟩
end Go.Proofs.Ytopgegciejmhaaa

/-
  A region that draws its order, whose operations may make memory and call: each operation is walked once, at whatever memory that
  extends the first one; what it gives is told by a relation that more memory does not break. No order is enumerated.
-/
namespace Go.Proofs.Ytopgegciejmhaaa
open Go.RowKit
set_option linter.unusedVariables false
/-- How many of the first n are not listed. -/
def unl (listed : Array Bool) : Nat → Nat
  | 0 => 0
  | n + 1 => unl listed n + (if listed.getD n false then 0 else 1)
theorem unl_same {l l' : Array Bool} : ∀ {n : Nat}, (∀ j, j < n → l.getD j false = l'.getD j false) → unl l n = unl l' n
  | 0, _ => rfl
  | n + 1, h => by unfold unl; rw [unl_same (fun j hj => h j (by omega)), h n (by omega)]
theorem unl_set {l : Array Bool} {i : Nat} (hs : i < l.size) (hi : l.getD i false = false) : ∀ {n : Nat}, i < n → unl (l.setIfInBounds i true) n + 1 = unl l n
  | n + 1, h => by
    unfold unl
    by_cases e : i = n
    · subst e
      rw [unl_same (l := l.setIfInBounds i true) (l' := l) (fun j hj => getD_set_ne false (by omega)), hi]
      simp [hs]
    · have := unl_set hs hi (n := n) (by omega)
      rw [getD_set_ne false e]
      omega
theorem unl_zero {l : Array Bool} : ∀ {n : Nat}, unl l n = 0 → ∀ j, j < n → l.getD j false = true
  | n + 1, h, j, hj => by
    unfold unl at h
    by_cases e : j = n
    · subst e
      cases hb : l.getD j false
      · rw [hb] at h; simp at h
      · rfl
    · exact unl_zero (n := n) (by omega) j (by omega)
theorem unl_new (n : Nat) : ∀ {m : Nat}, unl (Array.replicate n false) m ≤ m
  | 0 => Nat.le_refl _
  | m + 1 => by unfold unl; have := unl_new n (m := m); split <;> omega
section
variable {P : Program} {ops : Array Oper} {Q : Exit → Act → World → Prop} {Φ : Nat → Value → World → Prop} {a0 : Act} {B : World}
/-- What an operation may lean on: the memory, the slots that no operation writes, what it waits for. -/
structure SInv (ops : Array Oper) (a0 : Act) (B : World) (a : Act) (w : World) : Prop where
  defers : a.defers = a0.defers
  tsize : a.tmps.size = a0.tmps.size
  below : Below B.heap.size B w
  rest : ∀ d, ((List.range ops.size).all fun j => ((ops[j]?).bind (·.dst)) != some d) = true → a.tmps.getD d undef = a0.tmps.getD d undef
structure RInv (ops : Array Oper) (Φ : Nat → Value → World → Prop) (a0 : Act) (B : World) (listed : Array Bool) (a : Act) (w : World) : Prop where
  s : SInv ops a0 B a w
  size : listed.size = ops.size
  facts : ∀ j o d, ops[j]? = some o → o.dst = some d → listed.getD j false = true → Φ j (a.tmps.getD d undef) w
/-- One operation. -/
def opM (P : Program) (ops : Array Oper) (Q : Exit → Act → World → Prop) (Φ : Nat → Value → World → Prop) (a0 : Act) (B : World) (i : Nat) (o : Oper) : Prop :=
  ∀ a w, SInv ops a0 B a w → (∀ j, (o.after.any fun e => e.on == j && Region.binds .any e) = true → ∀ o' d, ops[j]? = some o' → o'.dst = some d → Φ j (a.tmps.getD d undef) w) →
    if Region.wanted o (yielded ops a.tmps) then ∀ K : Act → World → Prop, (∀ v w', Below w.heap.size w w' → Φ i v w' → K (a.put o.dst v) w') → o.wp P a w K Q else Φ i undef w
def AllM (P : Program) (ops : Array Oper) (Q : Exit → Act → World → Prop) (Φ : Nat → Value → World → Prop) (a0 : Act) (B : World) : Nat → List Oper → Prop
  | _, [] => True
  | i, o :: os => opM P ops Q Φ a0 B i o ∧ AllM P ops Q Φ a0 B (i + 1) os
theorem allM_at (l : List Oper) : ∀ (i : Nat), AllM P ops Q Φ a0 B i l → ∀ k o, l[k]? = some o → opM P ops Q Φ a0 B (i + k) o := by
  induction l with
  | nil => intro i h k o hk; simp at hk
  | cons o os ih =>
    intro i h k o' hk
    cases k with
    | zero =>
      simp only [List.getElem?_cons_zero, Option.some.injEq] at hk
      subst hk
      rw [Nat.add_zero]
      exact h.1
    | succ k =>
      have h3 := ih (i + 1) h.2 k o' (by simpa using hk)
      rw [show i + (k + 1) = i + 1 + k by omega]
      exact h3
def shapeB (ops : Array Oper) (n : Nat) : Bool :=
  (List.range ops.size).all fun i => match ops[i]? with
    | none => true
    | some o => o.after.all (fun e => !Region.binds .any e || decide (e.on < i)) && (match o.dst with
      | none => true
      | some d => decide (d < n) && (List.range ops.size).all fun j => j == i || ((ops[j]?).bind (·.dst)) != some d)
theorem shape_spec {n : Nat} (h : shapeB ops n = true) {i : Nat} {o : Oper} (hi : ops[i]? = some o) :
    (∀ e ∈ o.after, Region.binds .any e = true → e.on < i) ∧ ∀ d, o.dst = some d → d < n ∧ ∀ j oj, ops[j]? = some oj → oj.dst = some d → j = i := by
  have hlt : i < ops.size := (Array.getElem?_eq_some_iff.1 hi).1
  have h1 := List.all_eq_true.1 h i (List.mem_range.2 hlt)
  simp only [hi, Bool.and_eq_true] at h1
  obtain ⟨h1, h2⟩ := h1
  refine ⟨fun e he hb => ?_, fun d hd => ?_⟩
  · have := (Array.all_eq_true_iff_forall_mem.1 h1) e he
    rw [hb] at this
    simpa using this
  · rw [hd] at h2
    simp only [Bool.and_eq_true, decide_eq_true_eq] at h2
    refine ⟨h2.1, fun j oj hj hdj => ?_⟩
    have h3 := List.all_eq_true.1 h2.2 j (List.mem_range.2 (Array.getElem?_eq_some_iff.1 hj).1)
    simp only [hj, Option.bind_some, hdj, Bool.or_eq_true, beq_iff_eq, bne_self_eq_false, Bool.false_eq_true, or_false] at h3
    exact h3
theorem getD_put_same {a : Act} {d : Tmp} {v : Value} (h : d < a.tmps.size) : (a.put (some d) v).tmps.getD d undef = v := by
  simp [Act.put, h]
theorem getD_put_other {a : Act} {o : Option Tmp} {d : Tmp} {v : Value} (h : o ≠ some d) : (a.put o v).tmps.getD d undef = a.tmps.getD d undef := by
  cases o with
  | none => rfl
  | some d' =>
    have : d' ≠ d := fun e => h (by rw [e])
    simp [Act.put, Array.getElem?_setIfInBounds_ne this]
theorem RInv.step (hm : ∀ i v w w', Φ i v w → Below w.heap.size w w' → Φ i v w') (hs : shapeB ops a0.tmps.size = true) {listed : Array Bool} {a : Act} {w w' : World} {i : Nat} {o : Oper} {v : Value} (h : RInv ops Φ a0 B listed a w) (hi : ops[i]? = some o) (hb : Below w.heap.size w w') (hv : Φ i v w') :
    RInv ops Φ a0 B (listed.setIfInBounds i true) (a.put o.dst v) w' := by
  have hsp := (shape_spec hs hi).2
  refine ⟨⟨?_, ?_, h.s.below.trans (hb.mono h.s.below.size), fun d hd => ?_⟩, by simp [h.size], fun j oj d hj hdj hl => ?_⟩
  · cases ho : o.dst <;> simp [Act.put, h.s.defers]
  · cases ho : o.dst <;> simp [Act.put, h.s.tsize]
  · have hne : o.dst ≠ some d := by
      have := List.all_eq_true.1 hd i (List.mem_range.2 (Array.getElem?_eq_some_iff.1 hi).1)
      simpa [hi] using this
    rw [getD_put_other hne]
    exact h.s.rest d hd
  · by_cases e : j = i
    · subst e
      obtain rfl : oj = o := Option.some.inj (hj.symm.trans hi)
      rw [hdj, getD_put_same (by rw [h.s.tsize]; exact (hsp d hdj).1)]
      exact hv
    · have hne : o.dst ≠ some d := fun h' => e ((hsp d h').2 j oj hj hdj)
      rw [getD_put_other hne]
      rw [getD_set_ne false (Ne.symm e)] at hl
      exact hm _ _ _ _ (h.facts j oj d hj hdj hl) hb
theorem wpAny_M (hm : ∀ i v w w', Φ i v w → Below w.heap.size w w' → Φ i v w') (hs : shapeB ops a0.tmps.size = true) (hop : AllM P ops Q Φ a0 B 0 ops.toList)
    (hend : ∀ a w, SInv ops a0 B a w → (∀ j o d, ops[j]? = some o → o.dst = some d → Φ j (a.tmps.getD d undef) w) → Q .normal a w) :
    ∀ (fuel : Nat) (listed : Array Bool) (a : Act) (w : World), RInv ops Φ a0 B listed a w → unl listed ops.size ≤ fuel → wpAny P .any ops Q fuel listed a w := by
  have done : ∀ (listed : Array Bool) (a : Act) (w : World), RInv ops Φ a0 B listed a w → (∀ j, j < ops.size → listed.getD j false = true) → Q .normal a w := fun listed a w h hall =>
    hend a w h.s (fun j o d hj hd => h.facts j o d hj hd (hall j (Array.getElem?_eq_some_iff.1 hj).1))
  intro fuel
  induction fuel with
  | zero =>
    intro listed a w h hf
    have hall := unl_zero (n := ops.size) (Nat.le_zero.1 hf)
    refine ⟨?_, done listed a w h hall⟩
    rw [List.eq_nil_iff_forall_not_mem]
    intro j hj
    obtain ⟨hu, o, ho, _⟩ := mem_ready.1 hj
    have := hall j (Array.getElem?_eq_some_iff.1 ho).1
    rw [getD_both hu] at this; cases this
  | succ fuel ih =>
    intro listed a w h hf
    refine ⟨fun hre => done listed a w h ?_, fun i hi => ?_⟩
    · intro j
      induction j using Nat.strongRecOn with
      | ind j ihj =>
        intro hj
        cases hl : listed.getD j false
        · obtain ⟨o, ho⟩ : ∃ o, ops[j]? = some o := ⟨_, Array.getElem?_eq_getElem hj⟩
          have : j ∈ Region.ready .any ops listed := mem_ready.2 ⟨getD_in (by rw [h.size]; exact hj) hl, o, ho, fun e he hb => ihj e.on ((shape_spec hs ho).1 e he hb) (by have := (shape_spec hs ho).1 e he hb; omega)⟩
          rw [hre] at this; cases this
        · rfl
    · obtain ⟨hu, o, ho, hall⟩ := mem_ready.1 hi
      have hlt : i < ops.size := (Array.getElem?_eq_some_iff.1 ho).1
      have hcount := unl_set (l := listed) (i := i) (by rw [h.size]; exact hlt) (getD_both hu) (n := ops.size) hlt
      have hq : opM P ops Q Φ a0 B i o := by
        have := allM_at ops.toList 0 hop i o (by rw [Array.getElem?_toList]; exact ho)
        rwa [Nat.zero_add] at this
      have hq := hq a w h.s (fun j hj o' d ho' hd => h.facts j o' d ho' hd (by
        obtain ⟨n, hn, hb⟩ := Array.any_eq_true.1 hj
        simp only [Bool.and_eq_true, beq_iff_eq] at hb
        rw [← hb.1]
        exact hall _ (Array.getElem_mem hn) hb.2))
      unfold wpOp
      simp only [ho]
      split
      · rename_i hw
        rw [if_pos hw] at hq
        exact .inl (hq _ (fun v w' hb hv => ih _ _ _ (h.step hm hs ho hb hv) (by omega)))
      · rename_i hw
        rw [if_neg hw] at hq
        exact ih _ _ _ (h.step hm hs ho (Below.refl _ _) hq) (by omega)
/-- What an operation waits for. -/
def Deps (ops : Array Oper) (Φ : Nat → Value → World → Prop) (o : Oper) (a : Act) (w : World) : Prop :=
  ∀ j, (o.after.any fun e => e.on == j && Region.binds .any e) = true → ∀ o' d, ops[j]? = some o' → o'.dst = some d → Φ j (a.tmps.getD d undef) w
theorem opM_do {i : Nat} {o : Oper} (hg : o.guard = none) (h : ∀ a w, SInv ops a0 B a w → Deps ops Φ o a w → ∀ K : Act → World → Prop, (∀ v w', Below w.heap.size w w' → Φ i v w' → K (a.put o.dst v) w') → o.wp P a w K Q) : opM P ops Q Φ a0 B i o := by
  intro a w hS hf
  rw [if_pos (by unfold Region.wanted; rw [hg])]
  exact h a w hS hf
theorem wanted_slot {o og : Oper} {g G : Nat} {want b : Bool} {a : Act} (hg : o.guard = some (g, want)) (ho : ops[g]? = some og) (hd : og.dst = some G) (hs : a.tmps.getD G undef = .bool b) : Region.wanted o (yielded ops a.tmps) = (b == want) := by
  have hlt : a.tmps[G]? = some (.bool b) := by
    rw [Array.getD_eq_getD_getElem?] at hs
    cases h : a.tmps[G]? with
    | none => rw [h] at hs; cases hs
    | some v => rw [h] at hs; exact congrArg some hs
  unfold Region.wanted yielded
  simp only [hg, ho, Option.bind_some, hd, hlt]
  cases b <;> cases want <;> rfl
theorem opM_yes {i g G : Nat} {o og : Oper} {b : Bool} (hg : o.guard = some (g, b)) (ho : ops[g]? = some og) (hd : og.dst = some G) (hdep : (o.after.any fun e => e.on == g && Region.binds .any e) = true) (hΦ : ∀ v w, Φ g v w → v = .bool b)
    (h : ∀ a w, SInv ops a0 B a w → Deps ops Φ o a w → ∀ K : Act → World → Prop, (∀ v w', Below w.heap.size w w' → Φ i v w' → K (a.put o.dst v) w') → o.wp P a w K Q) : opM P ops Q Φ a0 B i o := by
  intro a w hS hf
  have hs := hΦ _ _ (hf g hdep og G ho hd)
  rw [if_pos (by rw [wanted_slot hg ho hd hs]; cases b <;> rfl)]
  exact h a w hS hf
theorem opM_no {i g G : Nat} {o og : Oper} {b : Bool} (hg : o.guard = some (g, b)) (ho : ops[g]? = some og) (hd : og.dst = some G) (hdep : (o.after.any fun e => e.on == g && Region.binds .any e) = true) (hΦ : ∀ v w, Φ g v w → v = .bool (!b))
    (h : ∀ w, Φ i undef w) : opM P ops Q Φ a0 B i o := by
  intro a w hS hf
  have hs := hΦ _ _ (hf g hdep og G ho hd)
  rw [if_neg (by rw [wanted_slot hg ho hd hs]; cases b <;> simp)]
  exact h w
/-- THE REGION. -/
theorem wp_region_M {id : Nat} {w : World} (Φ : Nat → Value → World → Prop) (hmix : P.follows .mixedOrders = true) (hm : ∀ i v w w', Φ i v w → Below w.heap.size w w' → Φ i v w') (hs : shapeB ops a0.tmps.size = true)
    (hop : AllM P ops Q Φ a0 w.drew 0 ops.toList)
    (hend : ∀ a w', SInv ops a0 w.drew a w' → (∀ j o d, ops[j]? = some o → o.dst = some d → Φ j (a.tmps.getD d undef) w') → Q .normal a w') : (Code.region id ops true).wp P Q a0 w := by
  refine wp_region_any hmix ?_
  refine wpAny_M (B := w.drew) hm hs hop hend _ _ _ _ ⟨⟨rfl, rfl, Below.refl _ _, fun _ _ => rfl⟩, by simp, fun j o d hj hd hl => ?_⟩ (unl_new _)
  rw [getD_replicate_false] at hl; cases hl
/-! ### A region with a last operation, which all others lead to: it may write -/
/-- Each but the last is waited for by a later one. -/
def sinkB (ops : Array Oper) (m : Nat) : Bool :=
  decide (ops.size = m + 1) && (List.range m).all fun j => (List.range (m + 1)).any fun k => decide (j < k) && ((ops[k]?).map fun o => o.after.any fun e => e.on == j && Region.binds .any e).getD false
theorem sink_all {m : Nat} (h : sinkB ops m = true) {listed : Array Bool} {ol : Oper} (hl : ops[m]? = some ol) (hready : ∀ e ∈ ol.after, Region.binds .any e = true → listed.getD e.on false = true)
    (hcl : ∀ (j : Nat) oj, ops[j]? = some oj → listed.getD j false = true → ∀ e ∈ oj.after, Region.binds .any e = true → listed.getD e.on false = true) : ∀ (d j : Nat), j + d = m → 0 < d → listed.getD j false = true := by
  simp only [sinkB, Bool.and_eq_true, decide_eq_true_eq] at h
  obtain ⟨_, h⟩ := h
  intro d
  induction d using Nat.strongRecOn with
  | ind d ih =>
    intro j hj hd
    obtain ⟨k, hk, h2⟩ := List.any_eq_true.1 (List.all_eq_true.1 h j (List.mem_range.2 (by omega)))
    simp only [Bool.and_eq_true, decide_eq_true_eq] at h2
    obtain ⟨hjk, h3⟩ := h2
    have hk := List.mem_range.1 hk
    cases ho : ops[k]? with
    | none => rw [ho] at h3; cases h3
    | some o =>
      rw [ho] at h3
      obtain ⟨n, hn, hb⟩ := Array.any_eq_true.1 (show (o.after.any fun e => e.on == j && Region.binds .any e) = true from h3)
      simp only [Bool.and_eq_true, beq_iff_eq] at hb
      rw [← hb.1]
      by_cases e : k = m
      · subst e
        obtain rfl : ol = o := Option.some.inj (hl.symm.trans ho)
        exact hready _ (Array.getElem_mem hn) hb.2
      · exact hcl k o ho (ih (m - k) (by omega) k (by omega) (by omega)) _ (Array.getElem_mem hn) hb.2
theorem wpAny_all {listed : Array Bool} {a : Act} {w : World} (hall : ∀ j, j < ops.size → listed.getD j false = true) (hQ : Q .normal a w) : ∀ fuel, wpAny P .any ops Q fuel listed a w := by
  have hre : Region.ready .any ops listed = [] := by
    rw [List.eq_nil_iff_forall_not_mem]
    intro j hj
    obtain ⟨hu, o, ho, _⟩ := mem_ready.1 hj
    have := hall j (Array.getElem?_eq_some_iff.1 ho).1
    rw [getD_both hu] at this; cases this
  intro fuel
  cases fuel with
  | zero => exact ⟨hre, hQ⟩
  | succ f => exact ⟨fun _ => hQ, fun i hi => by rw [hre] at hi; cases hi⟩
theorem wpAny_ML {m : Nat} {ol : Oper} (hm : ∀ i v w w', Φ i v w → Below w.heap.size w w' → Φ i v w') (hs : shapeB ops a0.tmps.size = true) (hsk : sinkB ops m = true) (hol : ops[m]? = some ol) (hg : ol.guard = none) (hop : AllM P ops Q Φ a0 B 0 (ops.toList.take m))
    (hend : ∀ a w, SInv ops a0 B a w → (∀ j o d, j < m → ops[j]? = some o → o.dst = some d → Φ j (a.tmps.getD d undef) w) → ol.wp P a w (fun a' w' => Q .normal a' w') Q) :
    ∀ (fuel : Nat) (listed : Array Bool) (a : Act) (w : World), RInv ops Φ a0 B listed a w → (∀ (j : Nat) oj, ops[j]? = some oj → listed.getD j false = true → ∀ e ∈ oj.after, Region.binds .any e = true → listed.getD e.on false = true) →
      listed.getD m false = false → unl listed ops.size ≤ fuel → wpAny P .any ops Q fuel listed a w := by
  have hsz : ops.size = m + 1 := by
    simp only [sinkB, Bool.and_eq_true, decide_eq_true_eq] at hsk
    exact hsk.1
  intro fuel
  induction fuel with
  | zero =>
    intro listed a w h hcl hlm hf
    have := unl_zero (n := ops.size) (Nat.le_zero.1 hf) m (by omega)
    rw [this] at hlm; cases hlm
  | succ fuel ih =>
    intro listed a w h hcl hlm hf
    refine ⟨fun hre => ?_, fun i hi => ?_⟩
    · exfalso
      have hall : ∀ j, j < ops.size → listed.getD j false = true := by
        intro j
        induction j using Nat.strongRecOn with
        | ind j ihj =>
          intro hj
          cases hl : listed.getD j false
          · obtain ⟨o, ho⟩ : ∃ o, ops[j]? = some o := ⟨_, Array.getElem?_eq_getElem hj⟩
            have : j ∈ Region.ready .any ops listed := mem_ready.2 ⟨getD_in (by rw [h.size]; exact hj) hl, o, ho, fun e he hb => ihj e.on ((shape_spec hs ho).1 e he hb) (by have := (shape_spec hs ho).1 e he hb; omega)⟩
            rw [hre] at this; cases this
          · rfl
      rw [hall m (by omega)] at hlm; cases hlm
    · obtain ⟨hu, o, ho, hall⟩ := mem_ready.1 hi
      have hlt : i < ops.size := (Array.getElem?_eq_some_iff.1 ho).1
      by_cases e : i = m
      · subst e
        obtain rfl : ol = o := Option.some.inj (hol.symm.trans ho)
        have hoth := sink_all hsk hol hall hcl
        unfold wpOp
        simp only [ho]
        rw [if_pos (by unfold Region.wanted; rw [hg])]
        refine .inl (Oper.wp_mono (fun a' w' hq => ?_) (hend a w h.s (fun j o' d hj ho' hd => h.facts j o' d ho' hd (hoth (i - j) j (by omega) (by omega)))))
        refine wpAny_all (fun j hj => ?_) hq fuel
        by_cases e2 : j = i
        · subst e2
          simp [h.size, hlt]
        · exact getD_set_true (hoth (i - j) j (by omega) (by omega))
      · have hcount := unl_set (l := listed) (i := i) (by rw [h.size]; exact hlt) (getD_both hu) (n := ops.size) hlt
        have hq : opM P ops Q Φ a0 B i o := by
          have := allM_at (ops.toList.take m) 0 hop i o (by rw [List.getElem?_take, if_pos (by omega), Array.getElem?_toList]; exact ho)
          rwa [Nat.zero_add] at this
        have hq := hq a w h.s (fun j hj o' d ho' hd => h.facts j o' d ho' hd (by
          obtain ⟨n, hn, hb⟩ := Array.any_eq_true.1 hj
          simp only [Bool.and_eq_true, beq_iff_eq] at hb
          rw [← hb.1]
          exact hall _ (Array.getElem_mem hn) hb.2))
        have hcl' : ∀ (j : Nat) oj, ops[j]? = some oj → (listed.setIfInBounds i true).getD j false = true → ∀ e ∈ oj.after, Region.binds .any e = true → (listed.setIfInBounds i true).getD e.on false = true := fun j oj hj hl e he hb => by
          by_cases hij : i = j
          · subst hij
            obtain rfl : oj = o := Option.some.inj (hj.symm.trans ho)
            exact getD_set_true (hall e he hb)
          · rw [getD_set_ne false hij] at hl
            exact getD_set_true (hcl j oj hj hl e he hb)
        have hlm' : (listed.setIfInBounds i true).getD m false = false := by rw [getD_set_ne false e]; exact hlm
        unfold wpOp
        simp only [ho]
        split
        · rename_i hw
          rw [if_pos hw] at hq
          exact .inl (hq _ (fun v w' hb hv => ih _ _ _ (h.step hm hs ho hb hv) hcl' hlm' (by omega)))
        · rename_i hw
          rw [if_neg hw] at hq
          exact ih _ _ _ (h.step hm hs ho (Below.refl _ _) hq) hcl' hlm' (by omega)
/-- The slots behind the operations, in the order of the list. -/
def putsL (vs : Nat → Value) : Nat → List Oper → Array Value → Array Value
  | _, [], t => t
  | i, o :: os, t => putsL vs (i + 1) os (match o.dst with | some d => t.setIfInBounds d (vs i) | none => t)
theorem putsL_size {vs : Nat → Value} : ∀ {l : List Oper} {i : Nat} {t : Array Value}, (putsL vs i l t).size = t.size
  | [], _, _ => rfl
  | o :: os, i, t => by
    unfold putsL
    rw [putsL_size]
    cases o.dst <;> simp
theorem putsL_out {vs : Nat → Value} {d : Nat} : ∀ {l : List Oper} {i : Nat} {t : Array Value}, (∀ o ∈ l, o.dst ≠ some d) → (putsL vs i l t).getD d undef = t.getD d undef
  | [], _, _, _ => rfl
  | o :: os, i, t, h => by
    unfold putsL
    rw [putsL_out (fun o' ho' => h o' (List.mem_cons_of_mem _ ho'))]
    have := h o (List.mem_cons_self ..)
    cases ho : o.dst with
    | none => rfl
    | some d' =>
      have hne : d' ≠ d := fun e => this (by rw [ho, e])
      simp [Array.getElem?_setIfInBounds_ne hne]
theorem putsL_in {vs : Nat → Value} {d : Nat} (l : List Oper) : ∀ {i k : Nat} {o : Oper} {t : Array Value}, l[k]? = some o → o.dst = some d → d < t.size → (∀ k' o', l[k']? = some o' → o'.dst = some d → k' = k) → (putsL vs i l t).getD d undef = vs (i + k) := by
  induction l with
  | nil => intro i k o t hk; simp at hk
  | cons o os ih =>
    intro i k o' t hk hd hlt hu
    cases k with
    | zero =>
      simp only [List.getElem?_cons_zero, Option.some.injEq] at hk
      subst hk
      unfold putsL
      rw [putsL_out (fun o' ho' e => ?_), hd, Nat.add_zero]
      · simp [hlt]
      · obtain ⟨n, hn⟩ := List.getElem?_of_mem ho'
        have := hu (n + 1) o' (by simpa using hn) e
        omega
    | succ k =>
      unfold putsL
      have h3 := ih (i := i + 1) (k := k) (o := o') (t := match o.dst with | some d => t.setIfInBounds d (vs i) | none => t) (by simpa using hk) hd (by cases o.dst <;> simp [hlt]) (fun k' o2 h1 h2 => by have := hu (k' + 1) o2 (by simpa using h1) h2; omega)
      rw [h3, show i + 1 + k = i + (k + 1) by omega]
/-- THE REGION with a last operation: the slots in one form. -/
theorem wp_region_ML {id m : Nat} {w : World} {ol : Oper} (Φ : Nat → Value → World → Prop) (hmix : P.follows .mixedOrders = true) (hm : ∀ i v w w', Φ i v w → Below w.heap.size w w' → Φ i v w') (hs : shapeB ops a0.tmps.size = true) (hsk : sinkB ops m = true) (hol : ops[m]? = some ol) (hg : ol.guard = none) (hld : ol.dst = none)
    (hop : AllM P ops Q Φ a0 w.drew 0 (ops.toList.take m))
    (hend : ∀ (vs : Nat → Value) (a : Act) w', Below w.drew.heap.size w.drew w' → (∀ j, j < m → ((ops[j]?).bind (·.dst)).isSome = true → Φ j (vs j) w') → a = ⟨putsL vs 0 (ops.toList.take m) a0.tmps, a0.defers⟩ → ol.wp P a w' (fun a' w' => Q .normal a' w') Q) : (Code.region id ops true).wp P Q a0 w := by
  refine wp_region_any hmix ?_
  have hsz : ops.size = m + 1 := by
    simp only [sinkB, Bool.and_eq_true, decide_eq_true_eq] at hsk
    exact hsk.1
  refine wpAny_ML (B := w.drew) hm hs hsk hol hg hop (fun a w' hS hF => ?_) _ _ _ _ ⟨⟨rfl, rfl, Below.refl _ _, fun _ _ => rfl⟩, by simp, fun j o d hj hd hl => ?_⟩ (fun j oj hj hl => ?_) (getD_replicate_false _ _) (unl_new _)
  · refine hend (fun j => a.tmps.getD (((ops[j]?).bind (·.dst)).getD 0) undef) a w' hS.below (fun j hj hj2 => ?_) ?_
    · cases ho : ops[j]? with
      | none => rw [ho] at hj2; cases hj2
      | some o =>
        rw [ho] at hj2
        cases hd : o.dst with
        | none => rw [Option.bind_some, hd] at hj2; cases hj2
        | some d =>
          simp only [Option.bind_some, hd, Option.getD_some]
          exact hF j o d hj ho hd
    · obtain ⟨tm, df⟩ := a
      have hdf := hS.defers
      simp only at hdf
      subst hdf
      congr 1
      refine Array.ext (by rw [putsL_size]; exact hS.tsize) (fun d h1 h2 => ?_)
      have key : tm.getD d undef = (putsL (fun j => tm.getD (((ops[j]?).bind (·.dst)).getD 0) undef) 0 (ops.toList.take m) a0.tmps).getD d undef := by
        by_cases hx : ∃ (k : Nat) (o : Oper), (ops.toList.take m)[k]? = some o ∧ o.dst = some d
        · obtain ⟨k, o, hk, hd⟩ := hx
          have hk2 : ops[k]? = some o := by
            rw [List.getElem?_take] at hk
            split at hk
            · rw [← Array.getElem?_toList]; exact hk
            · cases hk
          rw [putsL_in _ hk hd (((shape_spec hs hk2).2 d hd).1) (fun k' o' h1 h2 => ?_), Nat.zero_add]
          · simp only [hk2, Option.bind_some, hd, Option.getD_some]
          · refine ((shape_spec hs hk2).2 d hd).2 k' o' ?_ h2
            rw [List.getElem?_take] at h1
            split at h1
            · rw [← Array.getElem?_toList]; exact h1
            · cases h1
        · rw [putsL_out (fun o ho e => hx (by obtain ⟨n, hn⟩ := List.getElem?_of_mem ho; exact ⟨n, o, hn, e⟩))]
          refine hS.rest d ?_
          rw [List.all_eq_true]
          intro j hj
          have hj := List.mem_range.1 hj
          cases ho : ops[j]? with
          | none => rfl
          | some o =>
            simp only [Option.bind_some, bne_iff_ne, ne_eq]
            intro e
            by_cases e2 : j = m
            · subst e2
              obtain rfl : ol = o := Option.some.inj (hol.symm.trans ho)
              rw [hld] at e; cases e
            · exact hx ⟨j, o, by rw [List.getElem?_take, if_pos (by omega), Array.getElem?_toList]; exact ho, e⟩
      rw [Array.getD_eq_getD_getElem?, Array.getElem?_eq_getElem h1, Array.getD_eq_getD_getElem?, Array.getElem?_eq_getElem h2] at key
      exact key
  · rw [getD_replicate_false] at hl; cases hl
  · rw [getD_replicate_false] at hl; cases hl
end
end Go.Proofs.Ytopgegciejmhaaa

/-
  A region that draws its order and stores once in its midst: what is behind the store, or may be, only moves slots.
-/
namespace Go.Proofs.Ytopgegciejmhaaa
open Go.RowKit
set_option linter.unusedVariables false
/-- The store waits for it. -/
def swaitB (ops : Array Oper) (m i : Nat) : Bool := ((ops[m]?).map fun o => o.after.any fun e => e.on == i && Region.binds .any e).getD false
/-- Each operation but the store is late, or waited for by the store; what stands behind the store in the list waits for it. -/
def lateB (ops : Array Oper) (m : Nat) (late : List Nat) : Bool :=
  (List.range ops.size).all fun i => (i == m || late.contains i || swaitB ops m i) && (decide (i ≤ m) || ((ops[i]?).map fun o => o.after.any fun e => e.on == m && Region.binds .any e).getD false)
section
variable {P : Program} {ops : Array Oper} {Q : Exit → Act → World → Prop} {Φ : Nat → Value → World → Prop} {Ψ : Value → Value → World → World → Prop} {a0 : Act} {B : World}
/-- An operation that only moves slots: also behind the store. -/
def opP (P : Program) (ops : Array Oper) (Q : Exit → Act → World → Prop) (Φ : Nat → Value → World → Prop) (i : Nat) : Prop :=
  ∀ o, ops[i]? = some o → o.guard = none ∧ ∀ a w1 w2, Deps ops Φ o a w1 → ∀ K : Act → World → Prop, (∀ v, Φ i v w1 → K (a.put o.dst v) w2) → o.wp P a w2 K Q
def AllP (P : Program) (ops : Array Oper) (Q : Exit → Act → World → Prop) (Φ : Nat → Value → World → Prop) : List Nat → Prop
  | [] => True
  | i :: is => opP P ops Q Φ i ∧ AllP P ops Q Φ is
theorem allP_at : ∀ {l : List Nat}, AllP P ops Q Φ l → ∀ i, i ∈ l → opP P ops Q Φ i
  | [], _, i, hi => by cases hi
  | j :: js, h, i, hi => by
    rcases List.mem_cons.1 hi with e | e
    · rw [e]; exact h.1
    · exact allP_at h.2 i e
theorem opP_do {i : Nat} {o : Oper} (ho : ops[i]? = some o) (hg : o.guard = none) (h : ∀ a w1 w2, Deps ops Φ o a w1 → ∀ K : Act → World → Prop, (∀ v, Φ i v w1 → K (a.put o.dst v) w2) → o.wp P a w2 K Q) : opP P ops Q Φ i := by
  intro o' ho'
  obtain rfl : o = o' := Option.some.inj (ho.symm.trans ho')
  exact ⟨hg, h⟩
theorem wpAny_MS {m jp jv dp dv : Nat} {late : List Nat} {ol : Oper} (hm : ∀ i v w w', Φ i v w → Below w.heap.size w w' → Φ i v w') (hs : shapeB ops a0.tmps.size = true) (hlt : lateB ops m late = true) (hol : ops[m]? = some ol) (hg : ol.guard = none) (hld : ol.dst = none)
    (hjp : (ops[jp]?).bind (·.dst) = some dp) (hjv : (ops[jv]?).bind (·.dst) = some dv) (hsp : swaitB ops m jp = true) (hsv : swaitB ops m jv = true)
    (hop : AllM P ops Q Φ a0 B 0 (ops.toList.take m)) (hpu : AllP P ops Q Φ late)
    (hst : ∀ a w1, SInv ops a0 B a w1 → Φ jp (a.tmps.getD dp undef) w1 → Φ jv (a.tmps.getD dv undef) w1 → ∀ K : Act → World → Prop, (∀ w2, Ψ (a.tmps.getD dp undef) (a.tmps.getD dv undef) w1 w2 → K a w2) → ol.wp P a w1 K Q)
    (hend : ∀ a w1 w2, SInv ops a0 B a w1 → (∀ j o d, ops[j]? = some o → o.dst = some d → Φ j (a.tmps.getD d undef) w1) → Ψ (a.tmps.getD dp undef) (a.tmps.getD dv undef) w1 w2 → Q .normal a w2) :
    ∀ (fuel : Nat) (listed : Array Bool) (a : Act) (w : World), unl listed ops.size ≤ fuel →
      ((RInv ops Φ a0 B listed a w ∧ listed.getD m false = false) ∨
       ∃ w1, RInv ops Φ a0 B listed a w1 ∧ Ψ (a.tmps.getD dp undef) (a.tmps.getD dv undef) w1 w ∧ listed.getD m false = true ∧ ∀ i, swaitB ops m i = true → listed.getD i false = true) →
      wpAny P .any ops Q fuel listed a w := by
  have hmlt : m < ops.size := (Array.getElem?_eq_some_iff.1 hol).1
  have hlate := fun i (hi : i < ops.size) => by
    have := List.all_eq_true.1 hlt i (List.mem_range.2 hi)
    simpa only [Bool.and_eq_true, Bool.or_eq_true, beq_iff_eq, decide_eq_true_eq] using this
  have fin : ∀ (listed : Array Bool) (a : Act) (w : World), (∀ j, j < ops.size → listed.getD j false = true) →
      ((RInv ops Φ a0 B listed a w ∧ listed.getD m false = false) ∨
       ∃ w1, RInv ops Φ a0 B listed a w1 ∧ Ψ (a.tmps.getD dp undef) (a.tmps.getD dv undef) w1 w ∧ listed.getD m false = true ∧ ∀ i, swaitB ops m i = true → listed.getD i false = true) → Q .normal a w := by
    intro listed a w hall h
    rcases h with ⟨_, h⟩ | ⟨w1, h, hΨ, _, _⟩
    · rw [hall m hmlt] at h; cases h
    · exact hend a w1 w h.s (fun j o d hj hd => h.facts j o d hj hd (hall j (Array.getElem?_eq_some_iff.1 hj).1)) hΨ
  intro fuel
  induction fuel with
  | zero =>
    intro listed a w hf h
    have hall := unl_zero (n := ops.size) (Nat.le_zero.1 hf)
    exact wpAny_all hall (fin listed a w hall h) 0
  | succ fuel ih =>
    intro listed a w hf h
    have hsz : listed.size = ops.size := by
      rcases h with ⟨h, _⟩ | ⟨w1, h, _⟩
      · exact h.size
      · exact h.size
    refine ⟨fun hre => fin listed a w ?_ h, fun i hi => ?_⟩
    · intro j
      induction j using Nat.strongRecOn with
      | ind j ihj =>
        intro hj
        cases hl : listed.getD j false
        · obtain ⟨o, ho⟩ : ∃ o, ops[j]? = some o := ⟨_, Array.getElem?_eq_getElem hj⟩
          have : j ∈ Region.ready .any ops listed := mem_ready.2 ⟨getD_in (by rw [hsz]; exact hj) hl, o, ho, fun e he hb => ihj e.on ((shape_spec hs ho).1 e he hb) (by have := (shape_spec hs ho).1 e he hb; omega)⟩
          rw [hre] at this; cases this
        · rfl
    · obtain ⟨hu, o, ho, hall⟩ := mem_ready.1 hi
      have hilt : i < ops.size := (Array.getElem?_eq_some_iff.1 ho).1
      have hui := getD_both hu
      have hcount := unl_set (l := listed) (i := i) (by rw [hsz]; exact hilt) hui (n := ops.size) hilt
      have deps : ∀ w1, RInv ops Φ a0 B listed a w1 → Deps ops Φ o a w1 := fun w1 h j hj o' d ho' hd => h.facts j o' d ho' hd (by
        obtain ⟨n, hn, hb⟩ := Array.any_eq_true.1 hj
        simp only [Bool.and_eq_true, beq_iff_eq] at hb
        rw [← hb.1]
        exact hall _ (Array.getElem_mem hn) hb.2)
      rcases h with ⟨h, hlm⟩ | ⟨w1, h, hΨ, hlm, hsw⟩
      · by_cases e : i = m
        · subst e
          obtain rfl : ol = o := Option.some.inj (hol.symm.trans ho)
          have hsw : ∀ j, swaitB ops i j = true → listed.getD j false = true := fun j hj => by
            unfold swaitB at hj
            rw [hol] at hj
            obtain ⟨n, hn, hb⟩ := Array.any_eq_true.1 (show (ol.after.any fun e => e.on == j && Region.binds .any e) = true from hj)
            simp only [Bool.and_eq_true, beq_iff_eq] at hb
            rw [← hb.1]
            exact hall _ (Array.getElem_mem hn) hb.2
          unfold wpOp
          simp only [ho]
          rw [if_pos (by unfold Region.wanted; rw [hg])]
          have fact : ∀ {j d : Nat}, (ops[j]?).bind (·.dst) = some d → swaitB ops i j = true → Φ j (a.tmps.getD d undef) w := fun {j d} hj hsj => by
            cases hoj : ops[j]? with
            | none => rw [hoj] at hj; cases hj
            | some oj => rw [hoj] at hj; exact h.facts j oj d hoj hj (hsw j hsj)
          refine .inl (hst a w h.s (fact hjp hsp) (fact hjv hsv) _ (fun w2 hΨ => ih _ _ _ (by omega) (.inr ⟨w, ⟨h.s, by simp [h.size], fun j oj d hj hd hl => ?_⟩, hΨ, by simp [hsz, hilt], fun j hj => getD_set_true (hsw j hj)⟩)))
          have hne : i ≠ j := fun e => by
            subst e
            obtain rfl : ol = oj := Option.some.inj (ho.symm.trans hj)
            rw [hld] at hd; cases hd
          rw [getD_set_ne false hne] at hl
          exact h.facts j oj d hj hd hl
        · have hlti : i < m := by
            rcases (hlate i hilt).2 with h1 | h1
            · omega
            · exfalso
              rw [ho] at h1
              obtain ⟨n, hn, hb⟩ := Array.any_eq_true.1 (show (o.after.any fun e => e.on == m && Region.binds .any e) = true from h1)
              simp only [Bool.and_eq_true, beq_iff_eq] at hb
              have := hall _ (Array.getElem_mem hn) hb.2
              rw [hb.1, hlm] at this; cases this
          have hq : opM P ops Q Φ a0 B i o := by
            have := allM_at (ops.toList.take m) 0 hop i o (by rw [List.getElem?_take, if_pos hlti, Array.getElem?_toList]; exact ho)
            rwa [Nat.zero_add] at this
          have hq := hq a w h.s (deps w h)
          have hlm' : (listed.setIfInBounds i true).getD m false = false := by rw [getD_set_ne false e]; exact hlm
          unfold wpOp
          simp only [ho]
          split
          · rename_i hw
            rw [if_pos hw] at hq
            exact .inl (hq _ (fun v w' hb hv => ih _ _ _ (by omega) (.inl ⟨h.step hm hs ho hb hv, hlm'⟩)))
          · rename_i hw
            rw [if_neg hw] at hq
            exact ih _ _ _ (by omega) (.inl ⟨h.step hm hs ho (Below.refl _ _) hq, hlm'⟩)
      · have him : i ≠ m := fun e => by rw [e, hlm] at hui; cases hui
        have hnsw : ∀ j, swaitB ops m j = true → i ≠ j := fun j hj e => by rw [e, hsw j hj] at hui; cases hui
        have hin : i ∈ late := by
          rcases (hlate i hilt).1 with (h1 | h1) | h1
          · exact absurd h1 him
          · simpa using h1
          · exact absurd rfl (hnsw i h1)
        obtain ⟨hgi, hq⟩ := allP_at hpu i hin o ho
        unfold wpOp
        simp only [ho]
        rw [if_pos (by unfold Region.wanted; rw [hgi])]
        have keep : ∀ {j d : Nat} (v : Value), (ops[j]?).bind (·.dst) = some d → swaitB ops m j = true → (a.put o.dst v).tmps.getD d undef = a.tmps.getD d undef := fun {j d} v hj hsj => by
          refine getD_put_other (fun e => ?_)
          cases hoj : ops[j]? with
          | none => rw [hoj] at hj; cases hj
          | some oj =>
            rw [hoj] at hj
            exact hnsw j hsj (((shape_spec hs ho).2 d e).2 j oj hoj hj).symm
        refine .inl (hq a w1 w (deps w1 h) _ (fun v hv => ih _ _ _ (by omega) (.inr ⟨w1, h.step hm hs ho (Below.refl _ _) hv, ?_, getD_set_true hlm, fun j hj => getD_set_true (hsw j hj)⟩)))
        rw [keep v hjp hsp, keep v hjv hsv]
        exact hΨ
/-- THE REGION with a store in its midst: the slots in one form. -/
theorem wp_region_MS {id m jp jv dp dv : Nat} {late : List Nat} {w : World} {ol : Oper} (Φ : Nat → Value → World → Prop) (Ψ : Value → Value → World → World → Prop) (hmix : P.follows .mixedOrders = true) (hm : ∀ i v w w', Φ i v w → Below w.heap.size w w' → Φ i v w') (hs : shapeB ops a0.tmps.size = true) (hlt : lateB ops m late = true) (hol : ops[m]? = some ol) (hg : ol.guard = none) (hld : ol.dst = none)
    (hjp : (ops[jp]?).bind (·.dst) = some dp) (hjv : (ops[jv]?).bind (·.dst) = some dv) (hsp : swaitB ops m jp = true) (hsv : swaitB ops m jv = true)
    (hop : AllM P ops Q Φ a0 w.drew 0 (ops.toList.take m)) (hpu : AllP P ops Q Φ late)
    (hst : ∀ a w1, SInv ops a0 w.drew a w1 → Φ jp (a.tmps.getD dp undef) w1 → Φ jv (a.tmps.getD dv undef) w1 → ∀ K : Act → World → Prop, (∀ w2, Ψ (a.tmps.getD dp undef) (a.tmps.getD dv undef) w1 w2 → K a w2) → ol.wp P a w1 K Q)
    (hend : ∀ (vs : Nat → Value) (a : Act) w1 w2, Below w.drew.heap.size w.drew w1 → (∀ j, j < ops.size → ((ops[j]?).bind (·.dst)).isSome = true → Φ j (vs j) w1) → a = ⟨putsL vs 0 ops.toList a0.tmps, a0.defers⟩ → Ψ (vs jp) (vs jv) w1 w2 → Q .normal a w2) : (Code.region id ops true).wp P Q a0 w := by
  refine wp_region_any hmix ?_
  refine wpAny_MS (B := w.drew) hm hs hlt hol hg hld hjp hjv hsp hsv hop hpu hst (fun a w1 w2 hS hF hΨ => ?_) _ _ _ _ (unl_new _) (.inl ⟨⟨⟨rfl, rfl, Below.refl _ _, fun _ _ => rfl⟩, by simp, fun j o d hj hd hl => ?_⟩, getD_replicate_false _ _⟩)
  · refine hend (fun j => a.tmps.getD (((ops[j]?).bind (·.dst)).getD 0) undef) a w1 w2 hS.below (fun j hj hj2 => ?_) ?_ (by simp only [hjp, hjv, Option.getD_some]; exact hΨ)
    · cases ho : ops[j]? with
      | none => rw [ho] at hj2; cases hj2
      | some o =>
        rw [ho] at hj2
        cases hd : o.dst with
        | none => rw [Option.bind_some, hd] at hj2; cases hj2
        | some d =>
          simp only [Option.bind_some, hd, Option.getD_some]
          exact hF j o d ho hd
    · obtain ⟨tm, df⟩ := a
      have hdf := hS.defers
      simp only at hdf
      subst hdf
      congr 1
      refine Array.ext (by rw [putsL_size]; exact hS.tsize) (fun d h1 h2 => ?_)
      have key : tm.getD d undef = (putsL (fun j => tm.getD (((ops[j]?).bind (·.dst)).getD 0) undef) 0 ops.toList a0.tmps).getD d undef := by
        by_cases hx : ∃ (k : Nat) (o : Oper), ops.toList[k]? = some o ∧ o.dst = some d
        · obtain ⟨k, o, hk, hd⟩ := hx
          have hk2 : ops[k]? = some o := by rw [← Array.getElem?_toList]; exact hk
          rw [putsL_in _ hk hd (((shape_spec hs hk2).2 d hd).1) (fun k' o' h1 h2 => ((shape_spec hs hk2).2 d hd).2 k' o' (by rw [← Array.getElem?_toList]; exact h1) h2), Nat.zero_add]
          simp only [hk2, Option.bind_some, hd, Option.getD_some]
        · rw [putsL_out (fun o ho e => hx (by obtain ⟨n, hn⟩ := List.getElem?_of_mem ho; exact ⟨n, o, hn, e⟩))]
          refine hS.rest d ?_
          rw [List.all_eq_true]
          intro j hj
          cases ho : ops[j]? with
          | none => rfl
          | some o =>
            simp only [Option.bind_some, bne_iff_ne, ne_eq]
            intro e
            exact hx ⟨j, o, by rw [Array.getElem?_toList]; exact ho, e⟩
      rw [Array.getD_eq_getD_getElem?, Array.getElem?_eq_getElem h1, Array.getD_eq_getD_getElem?, Array.getElem?_eq_getElem h2] at key
      exact key
  · rw [getD_replicate_false] at hl; cases hl
/-- THE REGION without a store: the slots in one form. -/
theorem wp_region_MV {id : Nat} {w : World} (Φ : Nat → Value → World → Prop) (hmix : P.follows .mixedOrders = true) (hm : ∀ i v w w', Φ i v w → Below w.heap.size w w' → Φ i v w') (hs : shapeB ops a0.tmps.size = true)
    (hop : AllM P ops Q Φ a0 w.drew 0 ops.toList)
    (hend : ∀ (vs : Nat → Value) (a : Act) w1, Below w.drew.heap.size w.drew w1 → (∀ j, j < ops.size → ((ops[j]?).bind (·.dst)).isSome = true → Φ j (vs j) w1) → a = ⟨putsL vs 0 ops.toList a0.tmps, a0.defers⟩ → Q .normal a w1) : (Code.region id ops true).wp P Q a0 w := by
  refine wp_region_M Φ hmix hm hs hop (fun a w1 hS hF => ?_)
  refine hend (fun j => a.tmps.getD (((ops[j]?).bind (·.dst)).getD 0) undef) a w1 hS.below (fun j hj hj2 => ?_) ?_
  · cases ho : ops[j]? with
    | none => rw [ho] at hj2; cases hj2
    | some o =>
      rw [ho] at hj2
      cases hd : o.dst with
      | none => rw [Option.bind_some, hd] at hj2; cases hj2
      | some d =>
        simp only [Option.bind_some, hd, Option.getD_some]
        exact hF j o d ho hd
  · obtain ⟨tm, df⟩ := a
    have hdf := hS.defers
    simp only at hdf
    subst hdf
    congr 1
    refine Array.ext (by rw [putsL_size]; exact hS.tsize) (fun d h1 h2 => ?_)
    have key : tm.getD d undef = (putsL (fun j => tm.getD (((ops[j]?).bind (·.dst)).getD 0) undef) 0 ops.toList a0.tmps).getD d undef := by
      by_cases hx : ∃ (k : Nat) (o : Oper), ops.toList[k]? = some o ∧ o.dst = some d
      · obtain ⟨k, o, hk, hd⟩ := hx
        have hk2 : ops[k]? = some o := by rw [← Array.getElem?_toList]; exact hk
        rw [putsL_in _ hk hd (((shape_spec hs hk2).2 d hd).1) (fun k' o' h1 h2 => ((shape_spec hs hk2).2 d hd).2 k' o' (by rw [← Array.getElem?_toList]; exact h1) h2), Nat.zero_add]
        simp only [hk2, Option.bind_some, hd, Option.getD_some]
      · rw [putsL_out (fun o ho e => hx (by obtain ⟨n, hn⟩ := List.getElem?_of_mem ho; exact ⟨n, o, hn, e⟩))]
        refine hS.rest d ?_
        rw [List.all_eq_true]
        intro j hj
        cases ho : ops[j]? with
        | none => rfl
        | some o =>
          simp only [Option.bind_some, bne_iff_ne, ne_eq]
          intro e
          exact hx ⟨j, o, by rw [Array.getElem?_toList]; exact ho, e⟩
    rw [Array.getD_eq_getD_getElem?, Array.getElem?_eq_getElem h1, Array.getD_eq_getD_getElem?, Array.getElem?_eq_getElem h2] at key
    exact key
end
end Go.Proofs.Ytopgegciejmhaaa

/-
  A region that draws its order and ends in a forced tail: its first m operations in any order, then the rest, one behind the other, as in a plain region.
-/
namespace Go.Proofs.Ytopgegciejmhaaa
open Go.RowKit
set_option linter.unusedVariables false
def waitsB (ops : Array Oper) (k j : Nat) : Bool := ((ops[k]?).map fun o => o.after.any fun e => e.on == j && Region.binds .any e).getD false
/-- Each of the first m is waited for by a later one up to m; each behind m waits for the one before it, and none of these has a guard. -/
def tailB (ops : Array Oper) (m : Nat) : Bool :=
  decide (m < ops.size) && ((List.range m).all fun j => (List.range (m + 1)).any fun k => decide (j < k) && waitsB ops k j) &&
    (List.range ops.size).all fun k => decide (k < m) || (((ops[k]?).map fun o => o.guard.isNone).getD false && (decide (k = m) || waitsB ops k (k - 1)))
section
variable {P : Program} {ops : Array Oper} {Q : Exit → Act → World → Prop} {Φ : Nat → Value → World → Prop} {a0 : Act} {B : World}
theorem tail_waits {k j : Nat} {o : Oper} {listed : Array Bool} (h : waitsB ops k j = true) (ho : ops[k]? = some o) (hall : ∀ e ∈ o.after, Region.binds .any e = true → listed.getD e.on false = true) : listed.getD j false = true := by
  unfold waitsB at h
  rw [ho] at h
  obtain ⟨n, hn, hb⟩ := Array.any_eq_true.1 (show (o.after.any fun e => e.on == j && Region.binds .any e) = true from h)
  simp only [Bool.and_eq_true, beq_iff_eq] at hb
  rw [← hb.1]
  exact hall _ (Array.getElem_mem hn) hb.2
theorem tail_all {m : Nat} (h : tailB ops m = true) {listed : Array Bool} {ol : Oper} (hl : ops[m]? = some ol) (hready : ∀ e ∈ ol.after, Region.binds .any e = true → listed.getD e.on false = true)
    (hcl : ∀ (j : Nat) oj, ops[j]? = some oj → listed.getD j false = true → ∀ e ∈ oj.after, Region.binds .any e = true → listed.getD e.on false = true) : ∀ (d j : Nat), j + d = m → 0 < d → listed.getD j false = true := by
  simp only [tailB, Bool.and_eq_true, decide_eq_true_eq] at h
  obtain ⟨⟨_, h⟩, _⟩ := h
  intro d
  induction d using Nat.strongRecOn with
  | ind d ih =>
    intro j hj hd
    obtain ⟨k, hk, h2⟩ := List.any_eq_true.1 (List.all_eq_true.1 h j (List.mem_range.2 (by omega)))
    simp only [Bool.and_eq_true, decide_eq_true_eq] at h2
    obtain ⟨hjk, h3⟩ := h2
    have hk := List.mem_range.1 hk
    by_cases e : k = m
    · subst e
      exact tail_waits h3 hl hready
    · cases ho : ops[k]? with
      | none => unfold waitsB at h3; rw [ho] at h3; cases h3
      | some o => exact tail_waits h3 ho (hcl k o ho (ih (m - k) (by omega) k (by omega) (by omega)))
theorem tail_op {m k : Nat} {o : Oper} (h : tailB ops m = true) (hk : m ≤ k) (ho : ops[k]? = some o) : o.guard = none ∧ (k = m ∨ waitsB ops k (k - 1) = true) := by
  simp only [tailB, Bool.and_eq_true, decide_eq_true_eq] at h
  obtain ⟨_, h⟩ := h
  have h2 := List.all_eq_true.1 h k (List.mem_range.2 (Array.getElem?_eq_some_iff.1 ho).1)
  rw [ho] at h2
  simp only [Bool.or_eq_true, Bool.and_eq_true, decide_eq_true_eq, Option.map_some, Option.getD_some, Option.isNone_iff_eq_none] at h2
  rcases h2 with h2 | ⟨h2, h3⟩
  · omega
  · exact ⟨h2, h3⟩
/-- The tail. -/
theorem wpAny_tail {m : Nat} (hs : shapeB ops a0.tmps.size = true) (htl : tailB ops m = true) : ∀ (n k : Nat) (listed : Array Bool) (a : Act) (w : World) (fuel : Nat), ops.size = k + n → m ≤ k → listed.size = ops.size →
    (∀ j, j < k → listed.getD j false = true) → (∀ j, k ≤ j → listed.getD j false = false) → wpList P ops Q (ops.toList.drop k) a w → n ≤ fuel → wpAny P .any ops Q fuel listed a w := by
  intro n
  induction n with
  | zero =>
    intro k listed a w fuel hn hk hsz hlo hhi hq hf
    rw [List.drop_of_length_le (by simp; omega)] at hq
    exact wpAny_all (fun j hj => hlo j (by omega)) hq fuel
  | succ n ih =>
    intro k listed a w fuel hn hk hsz hlo hhi hq hf
    obtain ⟨o, ho⟩ : ∃ o, ops[k]? = some o := ⟨_, Array.getElem?_eq_getElem (show k < ops.size by omega)⟩
    obtain ⟨hg, _⟩ := tail_op htl hk ho
    have hd : ops.toList.drop k = o :: ops.toList.drop (k + 1) := by
      rw [List.drop_eq_getElem_cons (show k < ops.toList.length by simp; omega)]
      congr 1
      have := (Array.getElem?_eq_some_iff.1 ho).2
      simpa using this
    rw [hd] at hq
    unfold wpList at hq
    rw [if_pos (by unfold Region.wanted; rw [hg])] at hq
    match fuel, hf with
    | fuel + 1, hf =>
      refine ⟨fun hre => ?_, fun i hi => ?_⟩
      · exfalso
        have : k ∈ Region.ready .any ops listed := mem_ready.2 ⟨getD_in (by rw [hsz]; omega) (hhi k (Nat.le_refl _)), o, ho, fun e he hb => hlo e.on ((shape_spec hs ho).1 e he hb)⟩
        rw [hre] at this; cases this
      · obtain ⟨hu, oi, hoi, hall⟩ := mem_ready.1 hi
        have hki : k ≤ i := by
          rcases Nat.lt_or_ge i k with h | h
          · have := hlo i h
            rw [getD_both hu] at this; cases this
          · exact h
        have hik : i = k := by
          rcases (tail_op htl (show m ≤ i by omega) hoi).2 with h | h
          · omega
          · have h2 := tail_waits h hoi hall
            rcases Nat.lt_or_ge k i with h3 | h3
            · rw [hhi (i - 1) (by omega)] at h2; cases h2
            · omega
        subst hik
        obtain rfl : o = oi := Option.some.inj (ho.symm.trans hoi)
        unfold wpOp
        simp only [ho]
        rw [if_pos (by unfold Region.wanted; rw [hg])]
        rcases hq with hq | hq
        · refine .inl (Oper.wp_mono (fun a' w' hq' => ?_) hq)
          refine ih (i + 1) _ a' w' fuel (by omega) (by omega) (by simpa using hsz) (fun j hj => ?_) (fun j hj => ?_) hq' (by omega)
          · by_cases e2 : j = i
            · subst e2
              simp [hsz]; omega
            · exact getD_set_true (hlo j (by omega))
          · rw [getD_set_ne false (by omega)]; exact hhi j (by omega)
        · exact .inr hq
/-- What an operation ahead of the tail may lean on: also the slots that only the tail writes. -/
structure SInvT (ops : Array Oper) (m : Nat) (a0 : Act) (B : World) (a : Act) (w : World) : Prop where
  defers : a.defers = a0.defers
  tsize : a.tmps.size = a0.tmps.size
  below : Below B.heap.size B w
  rest : ∀ d, ((List.range m).all fun j => ((ops[j]?).bind (·.dst)) != some d) = true → a.tmps.getD d undef = a0.tmps.getD d undef
theorem SInvT.of {m : Nat} {a : Act} {w : World} (h : SInv ops a0 B a w) (ht : ∀ k o d, m ≤ k → ops[k]? = some o → o.dst = some d → a.tmps.getD d undef = a0.tmps.getD d undef) : SInvT ops m a0 B a w := by
  refine ⟨h.defers, h.tsize, h.below, fun d hd => ?_⟩
  by_cases hy : ∃ (k : Nat) (o : Oper), m ≤ k ∧ ops[k]? = some o ∧ o.dst = some d
  · obtain ⟨k, o, hk, ho, hd⟩ := hy
    exact ht k o d hk ho hd
  · refine h.rest d (List.all_eq_true.2 fun j hj => ?_)
    rcases Nat.lt_or_ge j m with h4 | h4
    · exact List.all_eq_true.1 hd j (List.mem_range.2 h4)
    · cases ho : ops[j]? with
      | none => rfl
      | some o =>
        simp only [Option.bind_some, bne_iff_ne, ne_eq]
        exact fun e => hy ⟨j, o, h4, ho, e⟩
def opT (P : Program) (ops : Array Oper) (m : Nat) (Q : Exit → Act → World → Prop) (Φ : Nat → Value → World → Prop) (a0 : Act) (B : World) (i : Nat) (o : Oper) : Prop :=
  ∀ a w, SInvT ops m a0 B a w → (∀ j, (o.after.any fun e => e.on == j && Region.binds .any e) = true → ∀ o' d, ops[j]? = some o' → o'.dst = some d → Φ j (a.tmps.getD d undef) w) →
    if Region.wanted o (yielded ops a.tmps) then ∀ K : Act → World → Prop, (∀ v w', Below w.heap.size w w' → Φ i v w' → K (a.put o.dst v) w') → o.wp P a w K Q else Φ i undef w
def AllT (P : Program) (ops : Array Oper) (m : Nat) (Q : Exit → Act → World → Prop) (Φ : Nat → Value → World → Prop) (a0 : Act) (B : World) : Nat → List Oper → Prop
  | _, [] => True
  | i, o :: os => opT P ops m Q Φ a0 B i o ∧ AllT P ops m Q Φ a0 B (i + 1) os
theorem allT_at {m : Nat} (l : List Oper) : ∀ (i : Nat), AllT P ops m Q Φ a0 B i l → ∀ k o, l[k]? = some o → opT P ops m Q Φ a0 B (i + k) o := by
  induction l with
  | nil => intro i _ k o h; cases h
  | cons x xs ih =>
    intro i h k o hk
    cases k with
    | zero =>
      simp only [List.getElem?_cons_zero, Option.some.injEq] at hk
      subst hk
      exact h.1
    | succ k =>
      rw [show i + (k + 1) = (i + 1) + k by omega]
      exact ih (i + 1) h.2 k o (by simpa using hk)
theorem opT_do {m i : Nat} {o : Oper} (hg : o.guard = none) (h : ∀ a w, SInvT ops m a0 B a w → Deps ops Φ o a w → ∀ K : Act → World → Prop, (∀ v w', Below w.heap.size w w' → Φ i v w' → K (a.put o.dst v) w') → o.wp P a w K Q) : opT P ops m Q Φ a0 B i o := by
  intro a w hS hf
  rw [if_pos (by unfold Region.wanted; rw [hg])]
  exact h a w hS hf
theorem opT_yes {m i g G : Nat} {o og : Oper} {b : Bool} (hg : o.guard = some (g, b)) (ho : ops[g]? = some og) (hd : og.dst = some G) (hdep : (o.after.any fun e => e.on == g && Region.binds .any e) = true) (hΦ : ∀ v w, Φ g v w → v = .bool b)
    (h : ∀ a w, SInvT ops m a0 B a w → Deps ops Φ o a w → ∀ K : Act → World → Prop, (∀ v w', Below w.heap.size w w' → Φ i v w' → K (a.put o.dst v) w') → o.wp P a w K Q) : opT P ops m Q Φ a0 B i o := by
  intro a w hS hf
  have hs := hΦ _ _ (hf g hdep og G ho hd)
  rw [if_pos (by rw [wanted_slot hg ho hd hs]; cases b <;> simp)]
  exact h a w hS hf
theorem opT_no {m i g G : Nat} {o og : Oper} {b : Bool} (hg : o.guard = some (g, b)) (ho : ops[g]? = some og) (hd : og.dst = some G) (hdep : (o.after.any fun e => e.on == g && Region.binds .any e) = true) (hΦ : ∀ v w, Φ g v w → v = .bool (!b))
    (h : ∀ w, Φ i undef w) : opT P ops m Q Φ a0 B i o := by
  intro a w hS hf
  have hs := hΦ _ _ (hf g hdep og G ho hd)
  rw [if_neg (by rw [wanted_slot hg ho hd hs]; cases b <;> simp)]
  exact h w
theorem wpAny_MT {m : Nat} (hm : ∀ i v w w', Φ i v w → Below w.heap.size w w' → Φ i v w') (hs : shapeB ops a0.tmps.size = true) (htl : tailB ops m = true) (hop : AllT P ops m Q Φ a0 B 0 (ops.toList.take m))
    (hend : ∀ a w, SInv ops a0 B a w → (∀ j o d, j < m → ops[j]? = some o → o.dst = some d → Φ j (a.tmps.getD d undef) w) → (∀ k o d, m ≤ k → ops[k]? = some o → o.dst = some d → a.tmps.getD d undef = a0.tmps.getD d undef) → wpList P ops Q (ops.toList.drop m) a w) :
    ∀ (fuel : Nat) (listed : Array Bool) (a : Act) (w : World), RInv ops Φ a0 B listed a w → (∀ (j : Nat) oj, ops[j]? = some oj → listed.getD j false = true → ∀ e ∈ oj.after, Region.binds .any e = true → listed.getD e.on false = true) →
      (∀ j, m ≤ j → listed.getD j false = false) → (∀ k o d, m ≤ k → ops[k]? = some o → o.dst = some d → a.tmps.getD d undef = a0.tmps.getD d undef) → unl listed ops.size ≤ fuel → ops.size - m ≤ fuel → wpAny P .any ops Q fuel listed a w := by
  have hsz : m < ops.size := by
    simp only [tailB, Bool.and_eq_true, decide_eq_true_eq] at htl
    exact htl.1.1
  intro fuel
  induction fuel with
  | zero =>
    intro listed a w h hcl hlm hts hf hf2
    omega
  | succ fuel ih =>
    intro listed a w h hcl hlm hts hf hf2
    by_cases hdone : ∀ j, j < m → listed.getD j false = true
    · exact wpAny_tail hs htl (ops.size - m) m listed a w (fuel + 1) (by omega) (Nat.le_refl _) h.size hdone hlm (hend a w h.s (fun j o d hj ho hd => h.facts j o d ho hd (hdone j hj)) hts) hf2
    refine ⟨fun hre => ?_, fun i hi => ?_⟩
    · exfalso
      refine hdone fun j => ?_
      induction j using Nat.strongRecOn with
      | ind j ihj =>
        intro hj
        cases hl : listed.getD j false
        · obtain ⟨o, ho⟩ : ∃ o, ops[j]? = some o := ⟨_, Array.getElem?_eq_getElem (show j < ops.size by omega)⟩
          have : j ∈ Region.ready .any ops listed := mem_ready.2 ⟨getD_in (by rw [h.size]; omega) hl, o, ho, fun e he hb => ihj e.on ((shape_spec hs ho).1 e he hb) (by have := (shape_spec hs ho).1 e he hb; omega)⟩
          rw [hre] at this; cases this
        · rfl
    · obtain ⟨hu, o, ho, hall⟩ := mem_ready.1 hi
      have hlt : i < ops.size := (Array.getElem?_eq_some_iff.1 ho).1
      have him : i < m := by
        rcases Nat.lt_or_ge i m with h1 | h1
        · exact h1
        · exfalso
          rcases (tail_op htl h1 ho).2 with h2 | h2
          · subst h2
            exact hdone fun j hj => tail_all htl ho hall hcl (i - j) j (by omega) (by omega)
          · rcases Nat.eq_or_lt_of_le h1 with h4 | h4
            · subst h4
              exact hdone fun j hj => tail_all htl ho hall hcl (m - j) j (by omega) (by omega)
            · have h3 := tail_waits h2 ho hall
              rw [hlm (i - 1) (by omega)] at h3; cases h3
      have hcount := unl_set (l := listed) (i := i) (by rw [h.size]; exact hlt) (getD_both hu) (n := ops.size) hlt
      have hq : opT P ops m Q Φ a0 B i o := by
        have := allT_at (ops.toList.take m) 0 hop i o (by rw [List.getElem?_take, if_pos (by omega), Array.getElem?_toList]; exact ho)
        rwa [Nat.zero_add] at this
      have hq := hq a w (SInvT.of h.s hts) (fun j hj o' d ho' hd => h.facts j o' d ho' hd (by
        obtain ⟨n, hn, hb⟩ := Array.any_eq_true.1 hj
        simp only [Bool.and_eq_true, beq_iff_eq] at hb
        rw [← hb.1]
        exact hall _ (Array.getElem_mem hn) hb.2))
      have hcl' : ∀ (j : Nat) oj, ops[j]? = some oj → (listed.setIfInBounds i true).getD j false = true → ∀ e ∈ oj.after, Region.binds .any e = true → (listed.setIfInBounds i true).getD e.on false = true := fun j oj hj hl e he hb => by
        by_cases hij : i = j
        · subst hij
          obtain rfl : oj = o := Option.some.inj (hj.symm.trans ho)
          exact getD_set_true (hall e he hb)
        · rw [getD_set_ne false hij] at hl
          exact getD_set_true (hcl j oj hj hl e he hb)
      have hlm' : ∀ j, m ≤ j → (listed.setIfInBounds i true).getD j false = false := fun j hj => by rw [getD_set_ne false (by omega)]; exact hlm j hj
      have hts' : ∀ v k ok d, m ≤ k → ops[k]? = some ok → ok.dst = some d → (a.put o.dst v).tmps.getD d undef = a0.tmps.getD d undef := fun v k ok d hk hok hd => by
        rw [getD_put_other (fun e => by have := ((shape_spec hs hok).2 d hd).2 i o ho e; omega)]
        exact hts k ok d hk hok hd
      have hf3 : ops.size - m ≤ fuel := by
        have h1 : unl (listed.setIfInBounds i true) ops.size ≤ fuel := by omega
        have h2 : ∀ n, n ≤ ops.size → n - m ≤ unl (listed.setIfInBounds i true) n := by
          intro n
          induction n with
          | zero => intro _; omega
          | succ n ihn =>
            intro hn
            unfold unl
            rcases Nat.lt_or_ge n m with h4 | h4
            · omega
            · rw [hlm' n h4]
              have := ihn (by omega)
              simp
              omega
        have := h2 ops.size (Nat.le_refl _)
        omega
      unfold wpOp
      simp only [ho]
      split
      · rename_i hw
        rw [if_pos hw] at hq
        exact .inl (hq _ (fun v w' hb hv => ih _ _ _ (h.step hm hs ho hb hv) hcl' hlm' (hts' v) (by omega) hf3))
      · rename_i hw
        rw [if_neg hw] at hq
        exact ih _ _ _ (h.step hm hs ho (Below.refl _ _) hq) hcl' hlm' (hts' undef) (by omega) hf3
/-- THE REGION with a forced tail: the slots ahead of the tail in one form, the tail as a plain region's list. -/
theorem wp_region_MT {id m : Nat} {w : World} (Φ : Nat → Value → World → Prop) (hmix : P.follows .mixedOrders = true) (hm : ∀ i v w w', Φ i v w → Below w.heap.size w w' → Φ i v w') (hs : shapeB ops a0.tmps.size = true) (htl : tailB ops m = true)
    (hop : AllT P ops m Q Φ a0 w.drew 0 (ops.toList.take m))
    (hend : ∀ (vs : Nat → Value) (a : Act) w', Below w.drew.heap.size w.drew w' → (∀ j, j < m → ((ops[j]?).bind (·.dst)).isSome = true → Φ j (vs j) w') → a = ⟨putsL vs 0 (ops.toList.take m) a0.tmps, a0.defers⟩ → wpList P ops Q (ops.toList.drop m) a w') : (Code.region id ops true).wp P Q a0 w := by
  refine wp_region_any hmix ?_
  have hsz : m < ops.size := by
    simp only [tailB, Bool.and_eq_true, decide_eq_true_eq] at htl
    exact htl.1.1
  refine wpAny_MT (B := w.drew) hm hs htl hop (fun a w' hS hF hT => ?_) _ _ _ _ ⟨⟨rfl, rfl, Below.refl _ _, fun _ _ => rfl⟩, by simp, fun j o d hj hd hl => ?_⟩ (fun j oj hj hl => ?_) (fun j _ => getD_replicate_false _ _) (fun _ _ _ _ _ _ => rfl) (unl_new _) (by omega)
  · refine hend (fun j => a.tmps.getD (((ops[j]?).bind (·.dst)).getD 0) undef) a w' hS.below (fun j hj hj2 => ?_) ?_
    · cases ho : ops[j]? with
      | none => rw [ho] at hj2; cases hj2
      | some o =>
        rw [ho] at hj2
        cases hd : o.dst with
        | none => rw [Option.bind_some, hd] at hj2; cases hj2
        | some d =>
          simp only [Option.bind_some, hd, Option.getD_some]
          exact hF j o d hj ho hd
    · obtain ⟨tm, df⟩ := a
      have hdf := hS.defers
      simp only at hdf
      subst hdf
      congr 1
      refine Array.ext (by rw [putsL_size]; exact hS.tsize) (fun d h1 h2 => ?_)
      have key : tm.getD d undef = (putsL (fun j => tm.getD (((ops[j]?).bind (·.dst)).getD 0) undef) 0 (ops.toList.take m) a0.tmps).getD d undef := by
        by_cases hx : ∃ (k : Nat) (o : Oper), (ops.toList.take m)[k]? = some o ∧ o.dst = some d
        · obtain ⟨k, o, hk, hd⟩ := hx
          have hk2 : ops[k]? = some o := by
            rw [List.getElem?_take] at hk
            split at hk
            · rw [← Array.getElem?_toList]; exact hk
            · cases hk
          rw [putsL_in _ hk hd (((shape_spec hs hk2).2 d hd).1) (fun k' o' h1 h2 => ?_), Nat.zero_add]
          · simp only [hk2, Option.bind_some, hd, Option.getD_some]
          · refine ((shape_spec hs hk2).2 d hd).2 k' o' ?_ h2
            rw [List.getElem?_take] at h1
            split at h1
            · rw [← Array.getElem?_toList]; exact h1
            · cases h1
        · rw [putsL_out (fun o ho e => hx (by obtain ⟨n, hn⟩ := List.getElem?_of_mem ho; exact ⟨n, o, hn, e⟩))]
          by_cases hy : ∃ (k : Nat) (o : Oper), m ≤ k ∧ ops[k]? = some o ∧ o.dst = some d
          · obtain ⟨k, o, hk, ho, hd⟩ := hy
            exact hT k o d hk ho hd
          refine hS.rest d ?_
          rw [List.all_eq_true]
          intro j hj
          have hj := List.mem_range.1 hj
          cases ho : ops[j]? with
          | none => rfl
          | some o =>
            simp only [Option.bind_some, bne_iff_ne, ne_eq]
            intro e
            rcases Nat.lt_or_ge j m with h4 | h4
            · exact hx ⟨j, o, by rw [List.getElem?_take, if_pos h4, Array.getElem?_toList]; exact ho, e⟩
            · exact hy ⟨j, o, h4, ho, e⟩
      rw [Array.getD_eq_getD_getElem?, Array.getElem?_eq_getElem h1, Array.getD_eq_getD_getElem?, Array.getElem?_eq_getElem h2] at key
      exact key
  · rw [getD_replicate_false] at hl; cases hl
  · rw [getD_replicate_false] at hl; cases hl
end
end Go.Proofs.Ytopgegciejmhaaa

/-
  PartLikes plainly.
-/
namespace Go.Proofs.Ytopgegciejmhaaa
open Ieee Go.RowKit
set_option linter.unusedVariables false
set_option linter.unusedSimpArgs false
theorem cnl_gd (zs : List Nat) (j : Nat) : cn .f32 ((cnl zs).getD j 0) = cn .f32 (zs.getD j 0) := by
  by_cases h : j < zs.length
  · rw [cnl_at h, cn_cn]
  · have h1 : (cnl zs).getD j 0 = 0 := by simp [List.getD, List.getElem?_eq_none (show (cnl zs).length ≤ j by rw [cnl_len]; omega)]
    have h2 : zs.getD j 0 = 0 := by simp [List.getD, List.getElem?_eq_none (show zs.length ≤ j by omega)]
    rw [h1, h2]
/-- The sums of a step, the terms P and the likes R known. -/
def plS1 (P R : List Nat) (i : Nat) : Nat := aop .mul .f32 (cn .f32 (P.getD i 0)) (cn .f32 (R.getD (P.length - i) 0))
def plS2 (P R : List Nat) (i : Nat) : Nat := aop .mul .f32 (cn .f32 (P.getD i 0)) (cn .f32 (R.getD (i + 1) 0))
def plW (P R : List Nat) : Nat := aop .sub .f32 1065353216 (sumT (plS2 P R) P.length)
def plX (P R : List Nat) : Nat := aop .quo .f32 (aop .sub .f32 (cn .f32 (R.getD (P.length + 1) 0)) (sumT (plS1 P R) P.length)) (plW P R)
def plZ (P R : List Nat) : Bool := (FloatKind.format .f32).order (plW P R) 0 == some Ordering.eq
/-- The terms of the next step. -/
def plNi (P : List Nat) (x i : Nat) : Nat := aop .sub .f32 (cn .f32 (P.getD i 0)) (aop .mul .f32 (cn .f32 x) (cn .f32 (P.getD (P.length - 1 - i) 0)))
def plN (P : List Nat) (x : Nat) : List Nat := tells (plNi P x) P.length ++ [cn .f32 x]
theorem plS1_cnl (P R : List Nat) : plS1 (cnl P) (cnl R) = plS1 P R := by funext i; unfold plS1; rw [cnl_gd, cnl_gd, cnl_len]
theorem plS2_cnl (P R : List Nat) : plS2 (cnl P) (cnl R) = plS2 P R := by funext i; unfold plS2; rw [cnl_gd, cnl_gd]
theorem plW_cnl (P R : List Nat) : plW (cnl P) (cnl R) = plW P R := by unfold plW; rw [plS2_cnl, cnl_len]
theorem plX_cnl (P R : List Nat) : plX (cnl P) (cnl R) = plX P R := by unfold plX; rw [plS1_cnl, plW_cnl, cnl_gd, cnl_len]
theorem plZ_cnl (P R : List Nat) : plZ (cnl P) (cnl R) = plZ P R := by unfold plZ; rw [plW_cnl]
theorem plNi_cnl (P : List Nat) (x : Nat) : plNi (cnl P) x = plNi P x := by funext i; unfold plNi; rw [cnl_gd, cnl_gd, cnl_len]
theorem plN_cnl (P : List Nat) (x : Nat) : plN (cnl P) x = plN P x := by unfold plN; rw [plNi_cnl, cnl_len]
theorem plN_len (P : List Nat) (x : Nat) : (plN P x).length = P.length + 1 := by unfold plN; rw [List.length_append, tells_len]; rfl
theorem plN_word {P : List Nat} {x y : Nat} (h : cn .f32 x = cn .f32 y) : plN P x = plN P y := by
  have : plNi P x = plNi P y := by funext i; unfold plNi; rw [h]
  unfold plN; rw [this, h]
theorem plX_cn (P R : List Nat) : cn .f32 (plX P R) = plX P R := cn_aop ..
/-- The terms behind k steps. -/
def plP (R : List Nat) : Nat → List Nat
  | 0 => []
  | k + 1 => plN (plP R k) (plX (plP R k) R)
def plT (R : List Nat) (k : Nat) : Nat := plX (plP R k) R
theorem plP_succ (R : List Nat) (k : Nat) : plP R (k + 1) = plN (plP R k) (plT R k) := rfl
theorem plP_len (R : List Nat) : ∀ k, (plP R k).length = k
  | 0 => rfl
  | k + 1 => by rw [plP_succ, plN_len, plP_len R k]
def plG (R : List Nat) (k : Nat) : Bool := !plZ (plP R k) R
def okz (g : Nat → Bool) (n : Nat) : Bool := (List.range n).all g
theorem okz_succ (g : Nat → Bool) (n : Nat) : okz g (n + 1) = (okz g n && g n) := by unfold okz; rw [List.range_succ, List.all_append]; simp
theorem okz_bad {g : Nat → Bool} {k n : Nat} (h : k < n) (hb : g k = false) : okz g n = false := by
  unfold okz
  rw [List.all_eq_false]
  exact ⟨k, List.mem_range.2 h, by rw [hb]; simp⟩
def plB (zs : List Nat) (a : Int) : Bool := slfB zs a && okz (plG (slfR zs a)) a.toNat
def plL (zs : List Nat) (a : Int) : List Nat := tells (plT (slfR zs a)) a.toNat
def plOk (zs : List Nat) (a : Int) : Bool := plB zs a && fins (plL zs a)
def plR (zs : List Nat) (a : Int) : List Nat := if plB zs a then lstR (plL zs a) else []
section
variable {zs : List Nat} {a : Int}
theorem pl_bad (h : plB zs a = false) : plOk zs a = false ∧ plR zs a = [] := by unfold plOk plR; rw [h]; exact ⟨rfl, rfl⟩
theorem pl_good (h : plB zs a = true) : plOk zs a = fins (plL zs a) ∧ plR zs a = lstR (plL zs a) := by unfold plOk plR; rw [h]; exact ⟨rfl, rfl⟩
theorem pl_badS (h : slfB zs a = false) : plOk zs a = false ∧ plR zs a = [] := pl_bad (by unfold plB; rw [h]; rfl)
theorem pl_badZ {k : Nat} (hk : k < a.toNat) (h : plZ (plP (slfR zs a) k) (slfR zs a) = true) : plOk zs a = false ∧ plR zs a = [] := pl_bad (by unfold plB; rw [okz_bad hk (by unfold plG; rw [h]; rfl)]; simp)
theorem pl_badX {k : Nat} (hk : k < a.toNat) (h : fin .f32 (plT (slfR zs a) k) = false) : plOk zs a = false ∧ plR zs a = [] := by
  have hf : fins (plL zs a) = false := tells_bad hk h
  cases hb : plB zs a
  · exact pl_bad hb
  · have := pl_good hb
    exact ⟨by rw [this.1, hf], by rw [this.2]; unfold lstR; rw [hf]; rfl⟩
theorem plR_len : (plR zs a).length ≤ 1048576 := by
  unfold plR
  split
  · rename_i h
    unfold plB at h
    have h1 := (slfR_len2 (Bool.and_eq_true_iff.1 h).1).2.1
    have h2 := lagsB_t h1
    unfold lstR
    split
    · unfold plL; rw [tells_len]; omega
    · simp
  · simp
end
theorem pl_one : cn .f32 1065353216 = 1065353216 := by decide +kernel
theorem pl_zero {P R : List Nat} {y : Nat} (h : cn .f32 y = plW P R) : ((FloatKind.format .f32).order y 0 == some Ordering.eq) = plZ P R := by
  unfold plZ; rw [order_left .f32 (show cn .f32 y = cn .f32 (plW P R) by rw [← h, cn_cn]) 0]
theorem set_mid (xs : List Nat) (a v : Nat) (ys : List Nat) : (xs ++ a :: ys).set xs.length v = (xs ++ [v]) ++ ys := by
  rw [List.set_append_right _ _ (Nat.le_refl _), Nat.sub_self]
  simp
/-- A made list of zeros of which the first k are told. -/
def pre (tell : Nat → Nat) (n k : Nat) : List Nat := tells tell k ++ List.replicate (n - k) 0
theorem pre_len {tell : Nat → Nat} {n k : Nat} (h : k ≤ n) : (pre tell n k).length = n := by unfold pre; rw [List.length_append, tells_len, List.length_replicate]; omega
theorem pre_set {tell : Nat → Nat} {n k : Nat} (h : k < n) : (pre tell n k).set k (tell k) = pre tell n (k + 1) := by
  unfold pre
  rw [show n - k = (n - (k + 1)) + 1 by omega, List.replicate_succ]
  have := set_mid (tells tell k) 0 (tell k) (List.replicate (n - (k + 1)) 0)
  rw [tells_len] at this
  rw [this, tells_succ]
theorem pre_full (tell : Nat → Nat) (n : Nat) : pre tell n n = tells tell n := by unfold pre; rw [Nat.sub_self]; simp
theorem pre_none (tell : Nat → Nat) (n : Nat) : pre tell n 0 = List.replicate n 0 := by unfold pre; simp [tells]
/-- make([]float32, n, n + 1). -/
theorem own_make {T : TypeId} {w : World} {n : Nat} (hn : n ≤ 1048576) : FOwn T w.heap.size (w.alloc (.cells (madeCells (Value.float .f32 0).cells (n + 1)) T)) (.slice (some ⟨w.heap.size, 0, none⟩) n (n + 1)) (List.replicate n 0) := by
  unfold FOwn
  rw [List.length_replicate]
  have hl : (madeCells (Value.float .f32 0).cells (n + 1)).toList = List.replicate (n + 1) (Value.float .f32 0) := by
    rw [show (Value.float .f32 0).cells = #[Value.float .f32 0] from rfl, toList_madeCells_one]
  refine ⟨by simp, .inr ⟨w.heap.size, n + 1, _, rfl, Nat.le_refl _, heap_alloc_new w _, by omega, by unfold maxLen; omega, ?_, ?_⟩⟩
  · have := congrArg List.length hl
    simpa using this
  · rw [hl, Nat.mul_one, List.take_replicate, List.map_replicate, show min n (n + 1) = n by omega]
end Go.Proofs.Ytopgegciejmhaaa

/-
  PartLikes of the program.
-/
namespace Go.Proofs.Ytopgegciejmhaaa
open Ieee Go.RowKit
set_option linter.unusedVariables false
set_option linter.unusedSimpArgs false
def plC1 (lg bt bl bg b off b' off' n cap m cap' k j x y : Nat) : Nat → Value → World → Prop
  | 0, v, w => v = (.slice (some ⟨b', off', none⟩) m cap')
  | 1, v, w => v = (.int .i64 k)
  | 2, v, w => v = (.pointer (some ⟨b', off' + k, none⟩))
  | 3, v, w => v = (.float .f32 x)
  | 4, v, w => v = (.slice (some ⟨b, off, none⟩) n cap)
  | 5, v, w => v = (.int .i64 lg)
  | 6, v, w => v = (.int .i64 m)
  | 7, v, w => v = (.int .i64 k)
  | 8, v, w => v = (.int .i64 j)
  | 9, v, w => v = (.pointer (some ⟨b, off + j, none⟩))
  | 10, v, w => v = (.float .f32 y)
  | 11, v, w => ∃ r, v = .float .f32 r ∧ cn .f32 r = (aop .mul .f32 (cn .f32 x) (cn .f32 y))
  | 12, v, w => ∃ r, v = .float .f32 r ∧ cn .f32 r = (aop .mul .f32 (cn .f32 x) (cn .f32 y))
  | _, _, _ => True
theorem plC1_mono (lg bt bl bg b off b' off' n cap m cap' k j x y : Nat) : ∀ i v w w', plC1 lg bt bl bg b off b' off' n cap m cap' k j x y i v w → Below w.heap.size w w' → plC1 lg bt bl bg b off b' off' n cap m cap' k j x y i v w'
  := by
  intro i v w w' h hb
  unfold plC1 at *
  split
  · exact h
  · exact h
  · exact h
  · exact h
  · exact h
  · exact h
  · exact h
  · exact h
  · exact h
  · exact h
  · exact h
  · exact h
  · exact h
  · trivial
def plC2 (bt bl b off b' off' n cap m cap' k j x y : Nat) : Nat → Value → World → Prop
  | 0, v, w => v = (.slice (some ⟨b', off', none⟩) m cap')
  | 1, v, w => v = (.int .i64 k)
  | 2, v, w => v = (.pointer (some ⟨b', off' + k, none⟩))
  | 3, v, w => v = (.float .f32 x)
  | 4, v, w => v = (.slice (some ⟨b, off, none⟩) n cap)
  | 5, v, w => v = (.int .i64 k)
  | 6, v, w => v = (.int .i64 j)
  | 7, v, w => v = (.pointer (some ⟨b, off + j, none⟩))
  | 8, v, w => v = (.float .f32 y)
  | 9, v, w => ∃ r, v = .float .f32 r ∧ cn .f32 r = (aop .mul .f32 (cn .f32 x) (cn .f32 y))
  | 10, v, w => ∃ r, v = .float .f32 r ∧ cn .f32 r = (aop .mul .f32 (cn .f32 x) (cn .f32 y))
  | _, _, _ => True
theorem plC2_mono (bt bl b off b' off' n cap m cap' k j x y : Nat) : ∀ i v w w', plC2 bt bl b off b' off' n cap m cap' k j x y i v w → Below w.heap.size w w' → plC2 bt bl b off b' off' n cap m cap' k j x y i v w'
  := by
  intro i v w w' h hb
  unfold plC2 at *
  split
  · exact h
  · exact h
  · exact h
  · exact h
  · exact h
  · exact h
  · exact h
  · exact h
  · exact h
  · exact h
  · exact h
  · trivial
/-- What the closures read. -/
def PlI (bt bl bg : Nat) (a : Option Addr) (n cap : Nat) (rs : List Nat) (a' : Option Addr) (m cap' : Nat) (ts : List Nat) (_k : Nat) (wr : World) : Prop := BoxI bt a' m cap' ts wr ∧ BoxI bl a n cap rs wr ∧ wr.cell? ⟨bg, 0, none⟩ = some (.int .i64 ((m + 1 : Nat) : Int))
theorem PlI.drewN {bt bl bg : Nat} {a : Option Addr} {n cap : Nat} {rs : List Nat} {a' : Option Addr} {m cap' : Nat} {ts : List Nat} {k : Nat} {wr : World} (h : PlI bt bl bg a n cap rs a' m cap' ts k wr) (q : Nat) : PlI bt bl bg a n cap rs a' m cap' ts k (wr.drewN q) := h
set_option maxHeartbeats 4000000 in
set_option maxRecDepth 100000 in
theorem plc1_any (bt bl bg B0 k n cap m cap' : Nat) (rs ts : List Nat) (a a' : Option Addr) (wr : World) (h : PlI bt bl bg a n cap rs a' m cap' ts k wr) (hk : k < m) (hmn : m + 1 < n) (hr : rs.length = n) (ht0 : ts.length = m) (hn : n ≤ 1048576) (hB : B0 ≤ wr.heap.size) :
    Calls Try.prog 166 #[.int .i64 k, .pointer (some ⟨bt, 0, none⟩), .pointer (some ⟨bl, 0, none⟩), .pointer (some ⟨bg, 0, none⟩)] wr (Adds (plS1 ts rs) (PlI bt bl bg a n cap rs a' m cap' ts) B0 k wr) := by
  have HI := Lib.hid h
  obtain ⟨⟨ct, et⟩, ⟨cl, el⟩, cg⟩ := h
  obtain ⟨b', off', rfl, _, hts⟩ := et (by omega)
  obtain ⟨b, off, rfl, _, hrs⟩ := el (by omega)
  obtain ⟨j, hj⟩ : ∃ j : Nat, m - k = j := ⟨_, rfl⟩
  have hx : b' < wr.heap.size ∧ wr.cell? ⟨b', off' + k, none⟩ = some (.float .f32 (ts.getD k 0)) := ⟨lt_of_cell (hts k hk), hts k hk⟩
  have hy : b < wr.heap.size ∧ wr.cell? ⟨b, off + j, none⟩ = some (.float .f32 (rs.getD j 0)) := ⟨lt_of_cell (hrs j (by omega)), hrs j (by omega)⟩
  have ht : bt < wr.heap.size ∧ _ := ⟨lt_of_cell ct, ct⟩
  have hl : bl < wr.heap.size ∧ _ := ⟨lt_of_cell cl, cl⟩
  have hg : bg < wr.heap.size ∧ _ := ⟨lt_of_cell cg, cg⟩
  have HT := Lib.hid (show aop .mul .f32 (cn .f32 (ts.getD k 0)) (cn .f32 (rs.getD j 0)) = plS1 ts rs k by unfold plS1; rw [ht0, hj])
  have HMn := Lib.hid hmn
  have HIk := Lib.hid hk
  have HIj := Lib.hid (show j < n by omega)
  have HJ := Lib.hid (show (j : Int) = (m : Int) - (k : Int) by omega)
  have HLg := Lib.hid (show ((m + 1 : Nat) : Int) = (m : Int) + 1 by omega)
  generalize m + 1 = lg at *
  generalize ts.getD k 0 = x at *
  generalize rs.getD j 0 = y at *
  clear hts hrs et el hj hk hmn
  go_enter Try.func166, Try.ntmps166
  go_upto_region 1 with fail
  refine wp_region_MV (plC1 lg bt bl bg b off b' off' n cap m cap' k j x y) (by kernel_rfl) (plC1_mono lg bt bl bg b off b' off' n cap m cap' k j x y) (by kernel_rfl) ?_ ?_
  · refine ⟨?_, ?_, ?_, ?_, ?_, ?_, ?_, ?_, ?_, ?_, ?_, ?_, ?_, trivial⟩
    · refine opM_do rfl (fun a_ w' hS hf K hK => ?_)
      have s1 : a_.tmps.getD 1 undef = (.pointer (some ⟨bt, 0, none⟩)) := (hS.rest 1 (by kernel_rfl)).trans rfl
      have kk := (hS.below.cell (p := ⟨bt, 0, none⟩) (by exact ht.1)).trans ht.2
      go_simp
      exact hK _ _ (Below.refl _ _) rfl
    · refine opM_do rfl (fun a_ w' hS hf K hK => ?_)
      have s0 : a_.tmps.getD 0 undef = (.int .i64 k) := (hS.rest 0 (by kernel_rfl)).trans rfl
      go_simp
      exact hK _ _ (Below.refl _ _) rfl
    · refine opM_do rfl (fun a_ w' hS hf K hK => ?_)
      have s6 : a_.tmps.getD 6 undef = (.slice (some ⟨b', off', none⟩) m cap') := hf 0 (by kernel_rfl) _ 6 rfl rfl
      have s7 : a_.tmps.getD 7 undef = (.int .i64 k) := hf 1 (by kernel_rfl) _ 7 rfl rfl
      have hi0 : (0 : Int) ≤ (k : Int) := by omega
      have hi1 : (k : Int) < (m : Int) := by have := HIk.out; omega
      go_simp
      exact hK _ _ (Below.refl _ _) rfl
    · refine opM_do rfl (fun a_ w' hS hf K hK => ?_)
      have s8 : a_.tmps.getD 8 undef = (.pointer (some ⟨b', off' + k, none⟩)) := hf 2 (by kernel_rfl) _ 8 rfl rfl
      have kk := (hS.below.cell (p := ⟨b', off' + k, none⟩) (by exact hx.1)).trans hx.2
      go_simp
      exact hK _ _ (Below.refl _ _) rfl
    · refine opM_do rfl (fun a_ w' hS hf K hK => ?_)
      have s2 : a_.tmps.getD 2 undef = (.pointer (some ⟨bl, 0, none⟩)) := (hS.rest 2 (by kernel_rfl)).trans rfl
      have kk := (hS.below.cell (p := ⟨bl, 0, none⟩) (by exact hl.1)).trans hl.2
      go_simp
      exact hK _ _ (Below.refl _ _) rfl
    · refine opM_do rfl (fun a_ w' hS hf K hK => ?_)
      have s3 : a_.tmps.getD 3 undef = (.pointer (some ⟨bg, 0, none⟩)) := (hS.rest 3 (by kernel_rfl)).trans rfl
      have kk := (hS.below.cell (p := ⟨bg, 0, none⟩) (by exact hg.1)).trans hg.2
      go_simp
      exact hK _ _ (Below.refl _ _) rfl
    · refine opM_do rfl (fun a_ w' hS hf K hK => ?_)
      have s11 : a_.tmps.getD 11 undef = (.int .i64 lg) := hf 5 (by kernel_rfl) _ 11 rfl rfl
      have hw : IntKind.i64.wrap ((lg : Int) - 1) = (m : Int) := by have := HLg.out; have := HMn.out; rw [IntKind.wrap_i64]; omega
      go_simp
      exact hK _ _ (Below.refl _ _) rfl
    · refine opM_do rfl (fun a_ w' hS hf K hK => ?_)
      have s0 : a_.tmps.getD 0 undef = (.int .i64 k) := (hS.rest 0 (by kernel_rfl)).trans rfl
      go_simp
      exact hK _ _ (Below.refl _ _) rfl
    · refine opM_do rfl (fun a_ w' hS hf K hK => ?_)
      have s12 : a_.tmps.getD 12 undef = (.int .i64 m) := hf 6 (by kernel_rfl) _ 12 rfl rfl
      have s13 : a_.tmps.getD 13 undef = (.int .i64 k) := hf 7 (by kernel_rfl) _ 13 rfl rfl
      have hw : IntKind.i64.wrap ((m : Int) - (k : Int)) = (j : Int) := by have := HJ.out; have := HIk.out; have := HMn.out; have := HLg.out; rw [IntKind.wrap_i64]; omega
      go_simp
      exact hK _ _ (Below.refl _ _) rfl
    · refine opM_do rfl (fun a_ w' hS hf K hK => ?_)
      have s10 : a_.tmps.getD 10 undef = (.slice (some ⟨b, off, none⟩) n cap) := hf 4 (by kernel_rfl) _ 10 rfl rfl
      have s14 : a_.tmps.getD 14 undef = (.int .i64 j) := hf 8 (by kernel_rfl) _ 14 rfl rfl
      have hi0 : (0 : Int) ≤ (j : Int) := by omega
      have hi1 : (j : Int) < (n : Int) := by have := HIj.out; omega
      go_simp
      exact hK _ _ (Below.refl _ _) rfl
    · refine opM_do rfl (fun a_ w' hS hf K hK => ?_)
      have s15 : a_.tmps.getD 15 undef = (.pointer (some ⟨b, off + j, none⟩)) := hf 9 (by kernel_rfl) _ 15 rfl rfl
      have kk := (hS.below.cell (p := ⟨b, off + j, none⟩) (by exact hy.1)).trans hy.2
      go_simp
      exact hK _ _ (Below.refl _ _) rfl
    · refine opM_do rfl (fun a_ w' hS hf K hK => ?_)
      have s9 : a_.tmps.getD 9 undef = (.float .f32 x) := hf 3 (by kernel_rfl) _ 9 rfl rfl
      have s16 : a_.tmps.getD 16 undef = (.float .f32 y) := hf 10 (by kernel_rfl) _ 16 rfl rfl
      go_simp
      exact hK _ _ (by first | exact Below.refl _ _ | exact below_drewN (Below.refl _ _) _) ⟨_, rfl, by first | (rw [cn_fopR]; done) | rw [cn_fopR, cn_one32] | rw [cn_fopR, List.getD_eq_getElem?_getD]⟩
    · refine opM_do rfl (fun a_ w' hS hf K hK => ?_)
      obtain ⟨r17, s17, e17⟩ := (show ∃ r, a_.tmps.getD 17 undef = .float .f32 r ∧ cn .f32 r = (aop .mul .f32 (cn .f32 x) (cn .f32 y)) from hf 11 (by kernel_rfl) _ 17 rfl rfl)
      go_simp
      exact hK _ _ (Below.refl _ _) ⟨_, rfl, e17⟩
  intro vs a_ wV hbV hv haV
  obtain ⟨r12, e12, h12⟩ := (show ∃ r, vs 12 = .float .f32 r ∧ cn .f32 r = (aop .mul .f32 (cn .f32 x) (cn .f32 y)) from hv 12 (by decide) (by kernel_rfl))
  subst haV
  simp only [putsL, List.setIfInBounds_toArray, List.set_cons_succ, List.set_cons_zero, Nat.reduceAdd, Nat.zero_add]
  rw [e12]
  clear hv e12
  have hb9 : Below wr.heap.size wr wV := (below_drewN (Below.refl _ _) 1).trans hbV
  have HR := Lib.hid (h12.trans HT.out)
  have HI9 := Lib.hid (show PlI bt bl bg (some ⟨b, off, none⟩) n cap rs (some ⟨b', off', none⟩) m cap' ts (k + 1) wV from ⟨HI.out.1.keep ht.1 hb9, HI.out.2.1.keep hl.1 hb9, by rw [hb9.cell (p := ⟨bg, 0, none⟩) (by exact hg.1)]; exact HI.out.2.2⟩)
  have HB9 := Lib.hid hb9
  clear hb9 hbV
  go_wp2_with fail
  go_ret
  exact ⟨_, rfl, HR.out, HI9.out, HB9.out.mono hB⟩
set_option maxHeartbeats 4000000 in
set_option maxRecDepth 100000 in
theorem plc2_any (bt bl bg B0 k n cap m cap' : Nat) (rs ts : List Nat) (a a' : Option Addr) (wr : World) (h : PlI bt bl bg a n cap rs a' m cap' ts k wr) (hk : k < m) (hmn : m + 1 < n) (hr : rs.length = n) (ht0 : ts.length = m) (hn : n ≤ 1048576) (hB : B0 ≤ wr.heap.size) :
    Calls Try.prog 167 #[.int .i64 k, .pointer (some ⟨bt, 0, none⟩), .pointer (some ⟨bl, 0, none⟩)] wr (Adds (plS2 ts rs) (PlI bt bl bg a n cap rs a' m cap' ts) B0 k wr) := by
  have HI := Lib.hid h
  obtain ⟨⟨ct, et⟩, ⟨cl, el⟩, cg⟩ := h
  obtain ⟨b', off', rfl, _, hts⟩ := et (by omega)
  obtain ⟨b, off, rfl, _, hrs⟩ := el (by omega)
  obtain ⟨j, hj⟩ : ∃ j : Nat, k + 1 = j := ⟨_, rfl⟩
  have hx : b' < wr.heap.size ∧ wr.cell? ⟨b', off' + k, none⟩ = some (.float .f32 (ts.getD k 0)) := ⟨lt_of_cell (hts k hk), hts k hk⟩
  have hy : b < wr.heap.size ∧ wr.cell? ⟨b, off + j, none⟩ = some (.float .f32 (rs.getD j 0)) := ⟨lt_of_cell (hrs j (by omega)), hrs j (by omega)⟩
  have ht : bt < wr.heap.size ∧ _ := ⟨lt_of_cell ct, ct⟩
  have hl : bl < wr.heap.size ∧ _ := ⟨lt_of_cell cl, cl⟩
  have hg : bg < wr.heap.size ∧ _ := ⟨lt_of_cell cg, cg⟩
  have HT := Lib.hid (show aop .mul .f32 (cn .f32 (ts.getD k 0)) (cn .f32 (rs.getD j 0)) = plS2 ts rs k by unfold plS2; rw [hj])
  have HMn := Lib.hid hmn
  have HIk := Lib.hid hk
  have HIj := Lib.hid (show j < n by omega)
  have HJ := Lib.hid (show (j : Int) = (k : Int) + 1 by omega)
  have HLg := Lib.hid (show ((m + 1 : Nat) : Int) = (m : Int) + 1 by omega)
  generalize m + 1 = lg at *
  generalize ts.getD k 0 = x at *
  generalize rs.getD j 0 = y at *
  clear hts hrs et el hj hk hmn
  go_enter Try.func167, Try.ntmps167
  go_upto_region 1 with fail
  refine wp_region_MV (plC2 bt bl b off b' off' n cap m cap' k j x y) (by kernel_rfl) (plC2_mono bt bl b off b' off' n cap m cap' k j x y) (by kernel_rfl) ?_ ?_
  · refine ⟨?_, ?_, ?_, ?_, ?_, ?_, ?_, ?_, ?_, ?_, ?_, trivial⟩
    · refine opM_do rfl (fun a_ w' hS hf K hK => ?_)
      have s1 : a_.tmps.getD 1 undef = (.pointer (some ⟨bt, 0, none⟩)) := (hS.rest 1 (by kernel_rfl)).trans rfl
      have kk := (hS.below.cell (p := ⟨bt, 0, none⟩) (by exact ht.1)).trans ht.2
      go_simp
      exact hK _ _ (Below.refl _ _) rfl
    · refine opM_do rfl (fun a_ w' hS hf K hK => ?_)
      have s0 : a_.tmps.getD 0 undef = (.int .i64 k) := (hS.rest 0 (by kernel_rfl)).trans rfl
      go_simp
      exact hK _ _ (Below.refl _ _) rfl
    · refine opM_do rfl (fun a_ w' hS hf K hK => ?_)
      have s5 : a_.tmps.getD 5 undef = (.slice (some ⟨b', off', none⟩) m cap') := hf 0 (by kernel_rfl) _ 5 rfl rfl
      have s6 : a_.tmps.getD 6 undef = (.int .i64 k) := hf 1 (by kernel_rfl) _ 6 rfl rfl
      have hi0 : (0 : Int) ≤ (k : Int) := by omega
      have hi1 : (k : Int) < (m : Int) := by have := HIk.out; omega
      go_simp
      exact hK _ _ (Below.refl _ _) rfl
    · refine opM_do rfl (fun a_ w' hS hf K hK => ?_)
      have s7 : a_.tmps.getD 7 undef = (.pointer (some ⟨b', off' + k, none⟩)) := hf 2 (by kernel_rfl) _ 7 rfl rfl
      have kk := (hS.below.cell (p := ⟨b', off' + k, none⟩) (by exact hx.1)).trans hx.2
      go_simp
      exact hK _ _ (Below.refl _ _) rfl
    · refine opM_do rfl (fun a_ w' hS hf K hK => ?_)
      have s2 : a_.tmps.getD 2 undef = (.pointer (some ⟨bl, 0, none⟩)) := (hS.rest 2 (by kernel_rfl)).trans rfl
      have kk := (hS.below.cell (p := ⟨bl, 0, none⟩) (by exact hl.1)).trans hl.2
      go_simp
      exact hK _ _ (Below.refl _ _) rfl
    · refine opM_do rfl (fun a_ w' hS hf K hK => ?_)
      have s0 : a_.tmps.getD 0 undef = (.int .i64 k) := (hS.rest 0 (by kernel_rfl)).trans rfl
      go_simp
      exact hK _ _ (Below.refl _ _) rfl
    · refine opM_do rfl (fun a_ w' hS hf K hK => ?_)
      have s10 : a_.tmps.getD 10 undef = (.int .i64 k) := hf 5 (by kernel_rfl) _ 10 rfl rfl
      have hw : IntKind.i64.wrap ((k : Int) + 1) = (j : Int) := by have := HJ.out; have := HIk.out; have := HMn.out; have := HLg.out; rw [IntKind.wrap_i64]; omega
      go_simp
      exact hK _ _ (Below.refl _ _) rfl
    · refine opM_do rfl (fun a_ w' hS hf K hK => ?_)
      have s9 : a_.tmps.getD 9 undef = (.slice (some ⟨b, off, none⟩) n cap) := hf 4 (by kernel_rfl) _ 9 rfl rfl
      have s11 : a_.tmps.getD 11 undef = (.int .i64 j) := hf 6 (by kernel_rfl) _ 11 rfl rfl
      have hi0 : (0 : Int) ≤ (j : Int) := by omega
      have hi1 : (j : Int) < (n : Int) := by have := HIj.out; omega
      go_simp
      exact hK _ _ (Below.refl _ _) rfl
    · refine opM_do rfl (fun a_ w' hS hf K hK => ?_)
      have s12 : a_.tmps.getD 12 undef = (.pointer (some ⟨b, off + j, none⟩)) := hf 7 (by kernel_rfl) _ 12 rfl rfl
      have kk := (hS.below.cell (p := ⟨b, off + j, none⟩) (by exact hy.1)).trans hy.2
      go_simp
      exact hK _ _ (Below.refl _ _) rfl
    · refine opM_do rfl (fun a_ w' hS hf K hK => ?_)
      have s8 : a_.tmps.getD 8 undef = (.float .f32 x) := hf 3 (by kernel_rfl) _ 8 rfl rfl
      have s13 : a_.tmps.getD 13 undef = (.float .f32 y) := hf 8 (by kernel_rfl) _ 13 rfl rfl
      go_simp
      exact hK _ _ (by first | exact Below.refl _ _ | exact below_drewN (Below.refl _ _) _) ⟨_, rfl, by first | (rw [cn_fopR]; done) | rw [cn_fopR, cn_one32] | rw [cn_fopR, List.getD_eq_getElem?_getD]⟩
    · refine opM_do rfl (fun a_ w' hS hf K hK => ?_)
      obtain ⟨r14, s14, e14⟩ := (show ∃ r, a_.tmps.getD 14 undef = .float .f32 r ∧ cn .f32 r = (aop .mul .f32 (cn .f32 x) (cn .f32 y)) from hf 9 (by kernel_rfl) _ 14 rfl rfl)
      go_simp
      exact hK _ _ (Below.refl _ _) ⟨_, rfl, e14⟩
  intro vs a_ wV hbV hv haV
  obtain ⟨r10, e10, h10⟩ := (show ∃ r, vs 10 = .float .f32 r ∧ cn .f32 r = (aop .mul .f32 (cn .f32 x) (cn .f32 y)) from hv 10 (by decide) (by kernel_rfl))
  subst haV
  simp only [putsL, List.setIfInBounds_toArray, List.set_cons_succ, List.set_cons_zero, Nat.reduceAdd, Nat.zero_add]
  rw [e10]
  clear hv e10
  have hb9 : Below wr.heap.size wr wV := (below_drewN (Below.refl _ _) 1).trans hbV
  have HR := Lib.hid (h10.trans HT.out)
  have HI9 := Lib.hid (show PlI bt bl bg (some ⟨b, off, none⟩) n cap rs (some ⟨b', off', none⟩) m cap' ts (k + 1) wV from ⟨HI.out.1.keep ht.1 hb9, HI.out.2.1.keep hl.1 hb9, by rw [hb9.cell (p := ⟨bg, 0, none⟩) (by exact hg.1)]; exact HI.out.2.2⟩)
  have HB9 := Lib.hid hb9
  clear hb9 hbV
  go_wp2_with fail
  go_ret
  exact ⟨_, rfl, HR.out, HI9.out, HB9.out.mono hB⟩
set_option maxHeartbeats 1000000 in
set_option maxRecDepth 100000 in
theorem only_any (x : Nat) (w : World) : Calls Try.prog 92 #[.float .f32 x] w fun e w' => ∃ r m, e = .returned (.tuple #[.float .f32 r, .bool (fin .f32 x)]) ∧ (fin .f32 x = true → cn .f32 r = cn .f32 x) ∧ w' = w.drewN m := by
  refine (implOnly_any x w).mono ?_
  rintro e w' ⟨r, m, h, rfl, rfl⟩
  exact ⟨r, m, rfl, fun h9 => by rw [h, if_pos h9], rfl⟩
set_option maxHeartbeats 4000000 in
set_option maxRecDepth 100000 in
theorem part_any (n cap : Nat) (rs : List Nat) (a : Option Addr) (a' : Option Addr) (m cap' : Nat) (ts : List Nat) (w : World) (h : FSl w a n rs) (h' : FSl w a' m ts) (hmn : m + 1 < n) (hn : n ≤ 1048576) :
    Calls Try.prog 117 #[.slice a n cap, .slice a' m cap'] w fun e w' => ∃ r b, e = .returned (.tuple #[.float .f32 r, .bool b]) ∧ b = (!plZ ts rs && fin .f32 (plX ts rs)) ∧ (b = true → cn .f32 r = plX ts rs) ∧ Below w.heap.size w w' := by
  have hmf : ∀ (fn : Fn) (first cap : Array Value) (w : World), (Instr.makeFunc fn first cap).run Try.prog w = .ok (.func fn first cap) w := fun _ _ _ _ => rfl
  have HLr := Lib.hid h.1
  have HLt := Lib.hid h'.1
  obtain ⟨W0, hW0⟩ : ∃ W0, ((w.alloc (.cells #[.slice a n cap] 22)).alloc (.cells #[.slice a' m cap'] 22)).alloc (.cells #[.int .i64 ((m + 1 : Nat) : Int)] 3) = W0 := ⟨_, rfl⟩
  have b1 := (Below.refl w.heap.size w).alloc (Nat.le_refl _) (.cells #[.slice a n cap] 22)
  have b2 := b1.alloc (by simp) (.cells #[.slice a' m cap'] 22)
  have b3 := b2.alloc (by simp <;> omega) (.cells #[.int .i64 ((m + 1 : Nat) : Int)] 3)
  have HG := Lib.hid (show Below w.heap.size w W0 by rw [← hW0]; exact b3)
  have X1 := BoxI.start (cap := cap) (t := 22) h
  have X2 : BoxI (w.heap.size + 1) a' m cap' ts ((w.alloc (.cells #[.slice a n cap] 22)).alloc (.cells #[.slice a' m cap'] 22)) := by simpa using BoxI.start (cap := cap') (t := 22) (FSl.below h' b1)
  have HI := Lib.hid (show (PlI (w.heap.size + 1) w.heap.size (w.heap.size + 1 + 1) a n cap rs a' m cap' ts) 0 W0 from ⟨X2.keep (B := w.heap.size + 1 + 1) (by omega) (by rw [← hW0]; exact (Below.refl _ _).alloc (by simp <;> omega) _), X1.keep (B := w.heap.size + 1) (by omega) (by rw [← hW0]; exact ((Below.refl _ _).alloc (by simp) _).alloc (by simp <;> omega) _), by rw [← hW0, World.cell?_alloc_at _ _ _ _ (by simp)]; rfl⟩)
  have HH := Lib.hid (FSl.below h HG.out)
  have hw1 : IntKind.i64.wrap ((m : Int) + 1) = ((m + 1 : Nat) : Int) := by rw [IntKind.wrap_i64]; omega
  have hw2 : (m : Int) + 1 = ((m + 1 : Nat) : Int) := by omega
  have hs0 : w.heap.size + 3 ≤ W0.heap.size := by rw [← hW0]; simp
  clear b1 b2 b3 X1 X2 h h'
  obtain ⟨b, off, rfl, hbl, hzs⟩ := HH.out.at (show 0 < n by omega)
  have hcr := hzs (m + 1) hmn
  have hi0 : (0 : Int) ≤ ((m + 1 : Nat) : Int) := by omega
  have hi1 : ((m + 1 : Nat) : Int) < (n : Int) := by omega
  clear hzs
  have HQ := Lib.hid (show aop .quo .f32 (aop .sub .f32 (cn .f32 (rs.getD (m + 1) 0)) (sumT (plS1 ts rs) m)) (plW ts rs) = plX ts rs by unfold plX; rw [HLt.out])
  have HWw := Lib.hid (show aop .sub .f32 1065353216 (sumT (plS2 ts rs) m) = plW ts rs by unfold plW; rw [HLt.out])
  obtain ⟨lg, hlg⟩ : ∃ lg, m + 1 = lg := ⟨_, rfl⟩
  have HLg := Lib.hid hlg
  rw [hlg] at hw1 hi0 hi1 hcr hW0 hw2 HQ
  obtain ⟨y, hy⟩ : ∃ y, rs.getD lg 0 = y := ⟨_, rfl⟩
  have HY := Lib.hid hy
  rw [hy] at hcr HQ
  clear hy
  go_enter Try.func117, Try.ntmps117
  have hct := HI.out.1.1
  have hcl := HI.out.2.1.1
  have hcg : W0.cell? ⟨w.heap.size + 1 + 1, 0, none⟩ = some (.int .i64 (lg : Int)) := by have := HI.out.2.2; rw [HLg.out] at this; exact this
  clear hlg
  go_upto_region 2 with fail
  (try rw [hw2])
  (try rw [hW0])
  clear hW0 hw2
  go_wp2_with fail
  refine (summed_any 166 #[.pointer (some ⟨w.heap.size + 1, 0, none⟩), .pointer (some ⟨w.heap.size, 0, none⟩), .pointer (some ⟨w.heap.size + 1 + 1, 0, none⟩)] (plS1 ts rs) (PlI (w.heap.size + 1) w.heap.size (w.heap.size + 1 + 1) (some ⟨b, off, none⟩) n cap rs a' m cap' ts) w.heap.size m W0 (enter_of Try.func166 (by kernel_rfl) rfl) (by omega) (by omega) HI.out (fun k q wr hI => hI.drewN q) (fun k wr hk hsz hI => plc1_any _ _ _ _ _ _ _ _ _ _ _ _ _ _ hI hk hmn HLr.out HLt.out hn (by omega))).mono ?_
  rintro e w1 ⟨s1, rfl, hs1, hi1', hb1⟩
  have HI1 := Lib.hid hi1'
  have HS1 := Lib.hid hs1
  have HB1 := Lib.hid (HG.out.trans hb1)
  clear hs1 hi1' hb1 hct hcl hcg
  have hct := HI1.out.1.1
  have hcl := HI1.out.2.1.1
  go_wp2_with fail
  refine (summed_any 167 #[.pointer (some ⟨w.heap.size + 1, 0, none⟩), .pointer (some ⟨w.heap.size, 0, none⟩)] (plS2 ts rs) (PlI (w.heap.size + 1) w.heap.size (w.heap.size + 1 + 1) (some ⟨b, off, none⟩) n cap rs a' m cap' ts) w.heap.size m w1 (enter_of Try.func167 (by kernel_rfl) rfl) (by omega) HB1.out.size HI1.out (fun k q wr hI => hI.drewN q) (fun k wr hk hsz hI => plc2_any _ _ _ _ _ _ _ _ _ _ _ _ _ _ hI hk hmn HLr.out HLt.out hn (by have := HB1.out.size; omega))).mono ?_
  rintro e w2 ⟨s2, rfl, hs2, hi2', hb2⟩
  have HI2 := Lib.hid hi2'
  have HS2 := Lib.hid hs2
  have HB2 := Lib.hid (HB1.out.trans hb2)
  clear hs2 hi2' hb2 hct hcl
  have hcl := HI2.out.2.1.1
  have hcg : w2.cell? ⟨w.heap.size + 1 + 1, 0, none⟩ = some (.int .i64 (lg : Int)) := by have := HI2.out.2.2; rw [HLg.out] at this; exact this
  have hcy : w2.cell? ⟨b, off + lg, none⟩ = some (.float .f32 y) := by
    have h7 := fslw (HI2.out.2.1.fsl HLr.out) (show lg < n by omega)
    rw [HY.out] at h7
    exact h7
  clear hcr
  go_upto_region 5 with fail
  generalize hWd : fopR .sub .f32 1065353216 s2 _ = u
  have HU := Lib.hid (show cn .f32 u = plW ts rs by rw [← hWd, cn_fopR, pl_one, HS2.out, ← HWw.out])
  clear hWd
  generalize hwA : World.drewN w2 _ = wA
  have HBA := Lib.hid (show Below w.heap.size w wA by rw [← hwA]; exact below_drewN HB2.out _)
  have hcl2 : wA.cell? ⟨w.heap.size, 0, none⟩ = some (.slice (some ⟨b, off, none⟩) n cap) := by rw [← hwA]; exact hcl
  have hcg2 : wA.cell? ⟨w.heap.size + 1 + 1, 0, none⟩ = some (.int .i64 (lg : Int)) := by rw [← hwA]; exact hcg
  have hcy2 : wA.cell? ⟨b, off + lg, none⟩ = some (.float .f32 y) := by rw [← hwA]; exact hcy
  clear hwA hcl hcg hcy
  have hz := pl_zero HU.out
  cases hpz : plZ ts rs
  · rw [hpz] at hz
    have HZ := Lib.hid hpz
    clear hpz
    go_wp2_with (go_at_call 92; generalize hX : fopR .quo .f32 (fopR .sub .f32 y s1 _) u _ = x9; refine (only_any _ _).mono ?_)
    have HX := Lib.hid (show cn .f32 x9 = plX ts rs by rw [← hX, cn_fopR, cn_fopR, HS1.out, HU.out, ← HQ.out])
    have HFx := Lib.hid (show fin .f32 x9 = fin .f32 (plX ts rs) by rw [← HX.out]; exact (fin_congr (cn_cn ..)).symm)
    clear hX
    rw [HFx.out]
    rintro e w5 ⟨r9, q9, rfl, hr9, rfl⟩
    have HR9 := Lib.hid hr9
    clear hr9
    go_wp2_with fail
    go_ret2
    refine ⟨r9, _, rfl, by rw [HZ.out]; rfl, fun h9 => ?_, by first | exact below_drewN HBA.out _ | exact below_drewN (below_drewN HBA.out _) _⟩
    exact (HR9.out h9).trans HX.out
  · rw [hpz] at hz
    have HZ := Lib.hid hpz
    clear hpz
    go_wp2_with fail
    go_ret2
    exact ⟨_, _, rfl, by rw [HZ.out]; rfl, (fun h9 => by cases h9), HBA.out⟩
set_option maxHeartbeats 4000000 in
set_option maxRecDepth 100000 in
theorem next_any (a' : Option Addr) (m cap' : Nat) (ts : List Nat) (x : Nat) (w : World) (h' : FSl w a' m ts) (hm : m ≤ 1048575) :
    Calls Try.prog 118 #[.slice a' m cap', .float .f32 x] w fun e w' => ∃ v ys, e = .returned v ∧ FOwn 33 w.heap.size w' v ys ∧ cnl ys = plN ts x ∧ Below w.heap.size w w' := by
  obtain ⟨i0, hi, hz0, hz1, hz2⟩ := info_parts Try.infoR
  have hmk : ∀ W, (Instr.makeSlice 22 (.int .i64 (m : Int)) (.int .i64 ((m + 1 : Nat) : Int))).run Try.prog W = .ok (.slice (some ⟨W.heap.size, 0, none⟩) m (m + 1)) (W.alloc (.cells (madeCells (Value.float .f32 0).cells (m + 1)) 33)) := fun W => by
    have h := run_make (P := Try.prog) W 22 33 i0 (.float .f32 0) Try.underlying22 hi hz0 .i64 .i64 (m : Int) ((m + 1 : Nat) : Int) (by omega) (by omega) (by rw [hz2]; omega) (by omega)
    rw [h, hz1]
    simp
  have hw1 : IntKind.i64.wrap ((m : Int) + 1) = ((m + 1 : Nat) : Int) := by rw [IntKind.wrap_i64]; omega
  have HL := Lib.hid h'.1
  have HM := Lib.hid (own_make (T := 33) (w := w) (n := m) (by omega))
  have HB := Lib.hid ((Below.refl w.heap.size w).alloc (Nat.le_refl _) (.cells (madeCells (Value.float .f32 0).cells (m + 1)) 33))
  have HH := Lib.hid h'
  have HS0 := Lib.hid (show cnl (List.replicate m 0) = pre (plNi ts x) m 0 by rw [pre_none]; unfold cnl; rw [List.map_replicate, cn_zero])
  obtain ⟨lg, hlg⟩ : ∃ lg, m + 1 = lg := ⟨_, rfl⟩
  have HLg := Lib.hid hlg
  rw [hlg] at hw1 hmk HM HB
  clear h' hlg
  go_enter Try.func118, Try.ntmps118
  go_wp2_with fail
  clear hmk hw1
  go_loopw [16] (fun i wr => ∃ (k : Nat) (ys : List Nat), k ≤ m ∧ i = .int .i64 k ∧ Hid (ys.length = m) ∧ Hid (FOwn 33 w.heap.size wr (.slice (some ⟨w.heap.size, 0, none⟩) m lg) ys) ∧ Hid (cnl ys = pre (plNi ts x) m k) ∧ Hid (Below w.heap.size w wr)) (fun i _ => m - (intOf i).toNat)
  case atStart => exact ⟨0, List.replicate m 0, Nat.zero_le _, rfl, Lib.hid (List.length_replicate ..), HM, HS0, HB⟩
  case round =>
    rename World => wr
    obtain ⟨k, ys, hk, rfl, hln, ho, hc, hb⟩ := hrel
    by_cases hlt : k < m
    · obtain ⟨b', off', rfl, hbl, hts⟩ := HH.out.at (show 0 < m by omega)
      have hck : wr.cell? ⟨b', off' + k, none⟩ = some (.float .f32 (ts.getD k 0)) := by rw [hb.out.cell (p := ⟨b', off' + k, none⟩) (by exact hbl)]; exact hts k hlt
      obtain ⟨j, hj⟩ : ∃ j : Nat, m - 1 - k = j := ⟨_, rfl⟩
      have hcj : wr.cell? ⟨b', off' + j, none⟩ = some (.float .f32 (ts.getD j 0)) := by rw [hb.out.cell (p := ⟨b', off' + j, none⟩) (by exact hbl)]; exact hts j (by omega)
      obtain ⟨hcy, hcf⟩ := owp_cell ho.out hln.out hlt
      have hw2 : IntKind.i64.wrap ((m : Int) - 1) = (m : Int) - 1 := by rw [IntKind.wrap_i64]; omega
      have hw3 : IntKind.i64.wrap ((m : Int) - 1 - (k : Int)) = (j : Int) := by rw [IntKind.wrap_i64]; omega
      have hj0 : (0 : Int) ≤ (j : Int) := by omega
      have hj1 : (j : Int) < (m : Int) := by omega
      have HT := Lib.hid (show aop .sub .f32 (cn .f32 (ts.getD k 0)) (aop .mul .f32 (cn .f32 x) (cn .f32 (ts.getD j 0))) = plNi ts x k by unfold plNi; rw [HL.out, hj])
      have HK1 := Lib.hid (show k + 1 ≤ m from hlt)
      have HLt := Lib.hid hlt
      generalize ts.getD k 0 = tk at *
      generalize ts.getD j 0 = tj at *
      clear hts hj
      go_upto_region 6 with fail
      generalize hY : fopR .sub .f32 tk (fopR .mul .f32 x tj _) _ = y
      have HY := Lib.hid (show cn .f32 y = plNi ts x k by rw [← hY, cn_fopR, cn_fopR, HT.out])
      clear hY hcy hcf hck hcj
      generalize hwA : World.drewN wr (_ + _) = wA
      have HO2 := Lib.hid (owp_put (show FOwn 33 w.heap.size wA (.slice (some ⟨w.heap.size, 0, none⟩) m lg) ys by rw [← hwA]; exact FOwn.drewN ho.out _) hln.out k y)
      have HB2 := Lib.hid ((show Below w.heap.size w wA by rw [← hwA]; exact below_drewN hb.out _).setCell (p := ⟨w.heap.size, k, none⟩) (Nat.le_refl _) (.float .f32 y))
      have HC2 := Lib.hid (show cnl (ys.set k y) = pre (plNi ts x) m (k + 1) by rw [cnl_set ys k HY.out, hc.out, pre_set HLt.out])
      clear hwA
      go_wp2_with fail
      go_roundw
      case rel => exact ⟨k + 1, ys.set k y, HK1.out, by go_num, Lib.hid (set_len hln.out), HO2, HC2, HB2⟩
      case measure => simp [intOf]; omega
    · obtain rfl : m = k := by omega
      have HC2 := Lib.hid (show cnl ys = tells (plNi ts x) m by rw [hc.out, pre_full])
      have hsz := hb.out.size
      have HX := Lib.hid (show cnl (ys ++ [x]) = plN ts x by unfold plN; rw [HL.out]; exact cnl_snoc HC2.out rfl)
      have HO := Lib.hid (show FOwn 33 w.heap.size wr (.slice (some ⟨w.heap.size, 0, none⟩) m lg) ys from ho.out)
      obtain ⟨yl, hyl⟩ : ∃ yl, ys.length = yl := ⟨_, rfl⟩
      have hym : yl = m := by rw [← hyl]; exact hln.out
      have HOr := Lib.hid (show wr.ownsRow w.heap.size 33 1 (.slice (some ⟨w.heap.size, 0, none⟩) m lg) m (ys.map (Value.float .f32)) by have h9 := ho.out; unfold FOwn at h9; rw [hln.out] at h9; exact h9)
      clear hc ho hyl hym
      go_wp2_with (at_builtin; refine wpList_append_own_at _ rfl _ _ 22 rfl w.heap.size 33 i0 (.float .f32 0) 1 4 Try.underlying22 hi hz0 hz1 hz2 rfl (by decide) _ _ _ rfl (World.ownsRow.alloc HOr.out _) ⟨wr.heap.size, 0, none⟩ 1 1 [_] rfl rfl (one_new rfl) ?c2 ?c3 ?c4 ?c5 ?_)
      case c2 => intro u hu; simp at hu; subst hu; rfl
      case c3 => have := HLg.out; unfold maxLen; omega
      case c4 => have := HLg.out; omega
      case c5 => first | omega | (simp; omega)
      intro v1 w7 hown hgrow _ hat
      have HO7 := Lib.hid (show FOwn 33 w.heap.size w7 v1 (ys ++ [x]) from owp_push (rs := ys) (by rw [hln.out]; exact hown))
      have HB7 := Lib.hid ((hb.out.alloc hsz _).grown hgrow (by simp; omega) (fun j e => Nat.le_of_eq (Option.some.inj e)))
      clear hown hgrow hat
      go_wp2_with fail
      go_ret
      exact ⟨_, _, rfl, HO7.out, HX.out, HB7.out⟩
set_option maxHeartbeats 4000000 in
set_option maxRecDepth 100000 in
theorem imPl_any (a : Option Addr) (len cap : Nat) (zs : List Nat) (q : Int) (w : World) (h : FSl w a len zs) (hm : len ≤ 1048576) :
    Calls Try.prog 47 #[.slice a len cap, .int .i64 q] w (RetOB 33 (plR zs q) (plOk zs q) w) := by
  obtain ⟨i0, hi, hz0, hz1, hz2⟩ := info_parts Try.infoR
  have HH := Lib.hid h
  clear h
  cases hs : slfB zs q
  · have HS := Lib.hid hs
    have HB := Lib.hid (pl_badS hs)
    clear hs
    go_enter Try.func47, Try.ntmps47
    go_wp2_with fail
    refine (implSlf_any _ _ _ _ q _ HH.out hm).mono ?_
    rw [HS.out]
    rintro e w1 ⟨v, rs, rfl, -, -, hb⟩
    have HBl := Lib.hid hb
    clear hb
    go_wp2_with fail
    go_ret2
    exact fail_ob _ HB.out.1 HB.out.2 HBl.out
  have HS := Lib.hid hs
  obtain ⟨hsl, hlg, -⟩ := slfR_len2 hs
  have hlt := lagsB_t hlg
  obtain ⟨n, rfl⟩ : ∃ n : Nat, q = n := ⟨q.toNat, by omega⟩
  have hn16 : n ≤ 16 := by omega
  have HSl := Lib.hid (show (slfR zs (n : Int)).length = n + 1 from hsl)
  clear hs hsl hlg hlt
  go_enter Try.func47, Try.ntmps47
  go_wp2_with fail
  refine (implSlf_any _ _ _ _ (n : Int) _ HH.out hm).mono ?_
  rw [HS.out]
  rintro e w1 ⟨v, rs, rfl, ho, hc, hb⟩
  have HC := Lib.hid hc
  have hrl : rs.length = n + 1 := by have := congrArg List.length hc; rw [cnl_len] at this; rw [this, HSl.out]
  obtain ⟨A, cp, rfl, hfs⟩ := own2_sl ho
  have HFs := Lib.hid (show FSl w1 A (n + 1) rs by rw [← hrl]; exact hfs)
  have HBl := Lib.hid hb
  have HRl := Lib.hid hrl
  have hsz1 := hb.size
  clear ho hc hb hfs
  rw [hrl]
  obtain ⟨lg, hlg⟩ : ∃ lg, n + 1 = lg := ⟨_, rfl⟩
  have HLg := Lib.hid hlg
  rw [hlg] at HFs ⊢
  clear hrl hlg
  have HI0 := Lib.hid (show Own2 33 w1.heap.size w1 (.slice none 0 0) [] (.slice none 0 0) [] from ⟨FOwn.nil .., FOwn.nil .., oapt_nil _⟩)
  have HB0 := Lib.hid (Below.refl w1.heap.size w1)
  go_wp2_with fail
  go_loopw [8, 9, 21] (fun vl vt i wr => ∃ (k : Nat) (ls ts : List Nat), k ≤ n ∧ i = .int .i64 k ∧ Hid (ls.length = k) ∧ Hid (ts.length = k) ∧ Hid (Own2 33 w1.heap.size wr vl ls vt ts) ∧ Hid (cnl ls = tells (plT (slfR zs (n : Int))) k) ∧ Hid (cnl ts = plP (slfR zs (n : Int)) k) ∧ Hid (okz (plG (slfR zs (n : Int))) k = true) ∧ Hid (fins (tells (plT (slfR zs (n : Int))) k) = true) ∧ Hid (Below w1.heap.size w1 wr)) (fun _ _ i _ => n - (intOf i).toNat)
  case atStart => exact ⟨0, [], [], Nat.zero_le _, rfl, Lib.hid rfl, Lib.hid rfl, HI0, Lib.hid rfl, Lib.hid rfl, Lib.hid rfl, Lib.hid rfl, HB0⟩
  case round =>
    rename World => wr
    obtain ⟨k, ls, ts, hk, rfl, hll, hlt, how, hcl, hct, hok, hfn, hbw⟩ := hrel
    by_cases hkn : k < n
    · obtain ⟨At, ct, rfl, hst⟩ := own2_sl how.out.b
      have HSt := Lib.hid hst
      have HFr := Lib.hid (FSl.below HFs.out hbw.out)
      have HKn := Lib.hid hkn
      have htl : ts.length + 1 < lg := by have := hlt.out; have := HLg.out; omega
      have HZ := Lib.hid (show plZ ts rs = plZ (plP (slfR zs (n : Int)) k) (slfR zs (n : Int)) by rw [← plZ_cnl, hct.out, HC.out])
      have HX := Lib.hid (show plX ts rs = plT (slfR zs (n : Int)) k by rw [← plX_cnl, hct.out, HC.out]; rfl)
      clear hst
      go_wp2_with fail
      refine (part_any _ _ rs _ _ _ _ ts _ HFr.out HSt.out htl (by have := HLg.out; omega)).mono ?_
      rintro e w2 ⟨x, ok, rfl, hok2, hx, hb2⟩
      cases ok
      · have HBd := Lib.hid (show plOk zs (n : Int) = false ∧ plR zs (n : Int) = [] by
          rw [HZ.out, HX.out] at hok2
          cases hz : plZ (plP (slfR zs (n : Int)) k) (slfR zs (n : Int))
          · rw [hz] at hok2
            exact pl_badX (k := k) HKn.out hok2.symm
          · exact pl_badZ (k := k) HKn.out hz)
        have HBw := Lib.hid (HBl.out.trans ((hbw.out.trans (hb2.mono hbw.out.size)).mono hsz1))
        clear hok2 hx hb2
        go_wp2_with fail
        go_ret2
        exact fail_ob _ HBd.out.1 HBd.out.2 HBw.out
      · have hx2 := hx rfl
        have hz2 := (Bool.and_eq_true_iff.1 hok2.symm)
        have HOw := Lib.hid (how.out.keep hb2)
        have HBw := Lib.hid (hbw.out.trans (hb2.mono hbw.out.size))
        have HSt2 := Lib.hid (FSl.below HSt.out hb2)
        have HXx := Lib.hid (hx2.trans HX.out)
        have HOk := Lib.hid (show okz (plG (slfR zs (n : Int))) (k + 1) = true by
          rw [okz_succ, hok.out]; unfold plG; rw [← HZ.out]; exact hz2.1)
        have HFn := Lib.hid (tells_more hfn.out (show fin .f32 (plT (slfR zs (n : Int)) k) = true by rw [← HX.out]; exact hz2.2))
        have hsz2 : w1.heap.size ≤ w2.heap.size := HBw.out.size
        have HCl := Lib.hid ((cnl_snoc hcl.out HXx.out).trans (tells_succ (plT (slfR zs (n : Int))) k).symm)
        have HPn := Lib.hid (show plN ts x = plP (slfR zs (n : Int)) (k + 1) by rw [plP_succ, ← hct.out, plN_cnl]; exact plN_word (by rw [HXx.out]; exact (plX_cn ..).symm))
        clear hok2 hx hx2 hz2 hb2 how hbw hok hfn HSt HFr
        go_wp2_with (at_builtin; refine wpList_append_own_at _ rfl _ _ 22 rfl w1.heap.size 33 i0 (.float .f32 0) 1 4 Try.underlying22 hi hz0 hz1 hz2 rfl (by decide) _ _ _ rfl (World.ownsRow.alloc HOw.out.a _) ⟨w2.heap.size, 0, none⟩ 1 1 [_] rfl rfl (one_new rfl) ?c2 ?c3 ?c4 ?c5 ?_)
        case c2 => intro u hu; simp at hu; subst hu; rfl
        case c3 => have := hll.out; unfold maxLen; omega
        case c4 => have := hll.out; omega
        case c5 => first | omega | (simp; omega)
        intro v1 w7 hown hgrow _ hat
        have HO7 := Lib.hid (HOw.out.push (H := w2.heap.size + 1) ((Below.refl w2.heap.size w2).alloc (Nat.le_refl _) _) hown hgrow (by omega) (by simpa using hat))
        have HB7 := Lib.hid ((HBw.out.alloc hsz2 _).grown hgrow (by simp; omega) (fun j e => (HOw.out.a.lt j e).1))
        have hsz7 : w1.heap.size ≤ w7.heap.size := HB7.out.size
        clear hown hgrow hat HOw HBw
        have HSt7 := Lib.hid (owp_fsl HO7.out.b)
        go_wp2_with fail
        refine (next_any _ _ _ ts x _ HSt7.out (by have := hlt.out; omega)).mono ?_
        rintro e w8 ⟨v8, ys, rfl, ho8, hc8, hb8⟩
        have HO8 := Lib.hid ((HO7.out.swap.set hb8 (Nat.le_refl _) hsz7 ho8).swap)
        have HB8 := Lib.hid (HB7.out.trans (hb8.mono hsz7))
        have HC8 := Lib.hid (hc8.trans HPn.out)
        have HL8 := Lib.hid (show ys.length = k + 1 by have := congrArg List.length hc8; rw [cnl_len, plN_len] at this; rw [this, hlt.out])
        clear ho8 hc8 hb8
        go_wp2_with fail
        go_roundw
        case rel => exact ⟨k + 1, ls ++ [x], ys, HKn.out, by go_num, Lib.hid (by rw [List.length_append, hll.out]; rfl), HL8, HO8, HCl, HC8, HOk, HFn, HB8⟩
        case measure => simp [intOf]; omega
    · obtain rfl : n = k := by omega
      have HBd := Lib.hid (pl_good (show plB zs (n : Int) = true by unfold plB; rw [HS.out]; exact hok.out))
      have HF := Lib.hid (show fins (plL zs (n : Int)) = true from hfn.out)
      have HX := Lib.hid (show cnl ls = plR zs (n : Int) by rw [HBd.out.2]; unfold lstR; rw [HF.out]; exact hcl.out)
      go_wp2_with fail
      go_ret2
      exact ⟨_, ls, by rw [HBd.out.1, HF.out]; rfl, how.out.a.mono hsz1, HX.out, HBl.out.trans (hbw.out.mono hsz1)⟩
end Go.Proofs.Ytopgegciejmhaaa

/-
  PartLikes of the model.
-/
namespace Go.Proofs.Ytopgegciejmhaaa
open Ieee Go.RowKit
set_option linter.unusedVariables false
set_option linter.unusedSimpArgs false
def plR15 (g b off lg cap m cp ii i1 j k1 x y s : Nat) : Nat → Value → World → Prop
  | 0, v, w => v = (.float .f32 s)
  | 1, v, w => v = (.slice (some ⟨g, 0, none⟩) m cp)
  | 2, v, w => v = (.int .i64 i1)
  | 3, v, w => v = (.int .i64 ii)
  | 4, v, w => v = (.pointer (some ⟨g, ii, none⟩))
  | 5, v, w => v = (.float .f32 x)
  | 6, v, w => v = (.slice (some ⟨b, off, none⟩) lg cap)
  | 7, v, w => v = (.int .i64 k1)
  | 8, v, w => v = (.int .i64 i1)
  | 9, v, w => v = (.int .i64 j)
  | 10, v, w => v = (.pointer (some ⟨b, off + j, none⟩))
  | 11, v, w => v = (.float .f32 y)
  | 12, v, w => ∃ r, v = .float .f32 r ∧ cn .f32 r = (aop .mul .f32 (cn .f32 x) (cn .f32 y))
  | 13, v, w => ∃ r, v = .float .f32 r ∧ cn .f32 r = (aop .add .f32 (cn .f32 s) (aop .mul .f32 (cn .f32 x) (cn .f32 y)))
  | _, _, _ => True
theorem plR15_mono (g b off lg cap m cp ii i1 j k1 x y s : Nat) : ∀ i v w w', plR15 g b off lg cap m cp ii i1 j k1 x y s i v w → Below w.heap.size w w' → plR15 g b off lg cap m cp ii i1 j k1 x y s i v w'
  := by
  intro i v w w' h hb
  unfold plR15 at *
  split
  · exact h
  · exact h
  · exact h
  · exact h
  · exact h
  · exact h
  · exact h
  · exact h
  · exact h
  · exact h
  · exact h
  · exact h
  · exact h
  · exact h
  · trivial
def plR16 (g b off lg cap m cp ii i1 j k1 x y s : Nat) : Nat → Value → World → Prop
  | 0, v, w => v = (.float .f32 s)
  | 1, v, w => v = (.slice (some ⟨g, 0, none⟩) m cp)
  | 2, v, w => v = (.int .i64 j)
  | 3, v, w => v = (.int .i64 ii)
  | 4, v, w => v = (.pointer (some ⟨g, ii, none⟩))
  | 5, v, w => v = (.float .f32 x)
  | 6, v, w => v = (.slice (some ⟨b, off, none⟩) lg cap)
  | 7, v, w => v = (.int .i64 j)
  | 8, v, w => v = (.pointer (some ⟨b, off + j, none⟩))
  | 9, v, w => v = (.float .f32 y)
  | 10, v, w => ∃ r, v = .float .f32 r ∧ cn .f32 r = (aop .mul .f32 (cn .f32 x) (cn .f32 y))
  | 11, v, w => ∃ r, v = .float .f32 r ∧ cn .f32 r = (aop .add .f32 (cn .f32 s) (aop .mul .f32 (cn .f32 x) (cn .f32 y)))
  | _, _, _ => True
theorem plR16_mono (g b off lg cap m cp ii i1 j k1 x y s : Nat) : ∀ i v w w', plR16 g b off lg cap m cp ii i1 j k1 x y s i v w → Below w.heap.size w w' → plR16 g b off lg cap m cp ii i1 j k1 x y s i v w'
  := by
  intro i v w w' h hb
  unfold plR16 at *
  split
  · exact h
  · exact h
  · exact h
  · exact h
  · exact h
  · exact h
  · exact h
  · exact h
  · exact h
  · exact h
  · exact h
  · exact h
  · trivial
def plR26 (g m cp ii i1 j k1 x y s : Nat) (vn : Value) : Nat → Value → World → Prop
  | 0, v, w => v = vn
  | 1, v, w => v = (.slice (some ⟨g, 0, none⟩) m cp)
  | 2, v, w => v = (.int .i64 i1)
  | 3, v, w => v = (.int .i64 ii)
  | 4, v, w => v = (.pointer (some ⟨g, ii, none⟩))
  | 5, v, w => v = (.float .f32 x)
  | 6, v, w => v = (.float .f32 s)
  | 7, v, w => v = (.slice (some ⟨g, 0, none⟩) m cp)
  | 8, v, w => v = (.int .i64 k1)
  | 9, v, w => v = (.int .i64 i1)
  | 10, v, w => v = (.int .i64 ((k1 : Int) - (i1 : Int)))
  | 11, v, w => v = (.int .i64 j)
  | 12, v, w => v = (.pointer (some ⟨g, j, none⟩))
  | 13, v, w => v = (.float .f32 y)
  | 14, v, w => ∃ r, v = .float .f32 r ∧ cn .f32 r = (aop .mul .f32 (cn .f32 s) (cn .f32 y))
  | 15, v, w => ∃ r, v = .float .f32 r ∧ cn .f32 r = (aop .sub .f32 (cn .f32 x) (aop .mul .f32 (cn .f32 s) (cn .f32 y)))
  | 16, v, w => ∃ g r, v = .slice (some ⟨g, 0, none⟩) 1 1 ∧ g < w.heap.size ∧ w.cell? ⟨g, 0, none⟩ = some (.float .f32 r) ∧ cn .f32 r = (aop .sub .f32 (cn .f32 x) (aop .mul .f32 (cn .f32 s) (cn .f32 y)))
  | _, _, _ => True
theorem plR26_mono (g m cp ii i1 j k1 x y s : Nat) (vn : Value) : ∀ i v w w', plR26 g m cp ii i1 j k1 x y s vn i v w → Below w.heap.size w w' → plR26 g m cp ii i1 j k1 x y s vn i v w'
  := by
  intro i v w w' h hb
  unfold plR26 at *
  split
  · exact h
  · exact h
  · exact h
  · exact h
  · exact h
  · exact h
  · exact h
  · exact h
  · exact h
  · exact h
  · exact h
  · exact h
  · exact h
  · exact h
  · exact h
  · exact h
  · exact (by obtain ⟨g, r, h1, h2, h3, h4⟩ := h; exact ⟨g, r, h1, Nat.lt_of_lt_of_le h2 hb.size, (hb.cell (p := ⟨g, 0, none⟩) (by exact h2)).trans h3, h4⟩)
  · trivial
set_option maxHeartbeats 8000000 in
set_option maxRecDepth 100000 in
theorem spPl_any (a : Option Addr) (len cap : Nat) (zs : List Nat) (q : Int) (w : World) (h : FSl w a len zs) (hm : len ≤ 1048576) :
    Calls Try.prog 46 #[.slice a len cap, .int .i64 q] w (RetOB 33 (plR zs q) (plOk zs q) w) := by
  obtain ⟨i0, hi, hz0, hz1, hz2⟩ := info_parts Try.infoR
  have HH := Lib.hid h
  clear h
  cases hs : slfB zs q
  · have HS := Lib.hid hs
    have HB := Lib.hid (pl_badS hs)
    clear hs
    go_enter Try.func46, Try.ntmps46
    go_wp2_with fail
    refine (specSlf_any _ _ _ _ q _ HH.out hm).mono ?_
    rw [HS.out]
    rintro e w1 ⟨v, rs, rfl, -, -, hb⟩
    have HBl := Lib.hid hb
    clear hb
    go_wp2_with fail
    go_ret2
    exact fail_ob _ HB.out.1 HB.out.2 HBl.out
  have HS := Lib.hid hs
  obtain ⟨hsl, hlg, -⟩ := slfR_len2 hs
  have hlt := lagsB_t hlg
  obtain ⟨n, rfl⟩ : ∃ n : Nat, q = n := ⟨q.toNat, by omega⟩
  have hn16 : n ≤ 16 := by omega
  have HSl := Lib.hid (show (slfR zs (n : Int)).length = n + 1 from hsl)
  clear hs hsl hlg hlt
  go_enter Try.func46, Try.ntmps46
  go_wp2_with fail
  refine (specSlf_any _ _ _ _ (n : Int) _ HH.out hm).mono ?_
  rw [HS.out]
  rintro e w1 ⟨v, rs, rfl, ho, hc, hb⟩
  have HC := Lib.hid hc
  have hrl : rs.length = n + 1 := by have := congrArg List.length hc; rw [cnl_len] at this; rw [this, HSl.out]
  obtain ⟨A, cp, rfl, hfs⟩ := own2_sl ho
  have HFs := Lib.hid (show FSl w1 A (n + 1) rs by rw [← hrl]; exact hfs)
  have HBl := Lib.hid hb
  have HRl := Lib.hid hrl
  have hsz1 := hb.size
  clear ho hc hb hfs
  rw [hrl]
  obtain ⟨lg, hlg⟩ : ∃ lg, n + 1 = lg := ⟨_, rfl⟩
  have HLg := Lib.hid hlg
  have HRl2 := Lib.hid (show rs.length = lg by rw [hrl, hlg])
  rw [hlg] at HFs ⊢
  obtain ⟨b, off, rfl, hbl, hrs0⟩ := HFs.out.at (show 0 < lg by omega)
  have HRc := Lib.hid hrs0
  clear hrl hlg hrs0
  have hM1 := FOwn.made (T := 33) (B := w1.heap.size) w1 (Nat.le_refl _)
  have hb1 := (Below.refl w1.heap.size w1).alloc (Nat.le_refl _) (.cells #[] 33)
  have hM2 := FOwn.made (T := 33) (B := w1.heap.size) (w1.alloc (.cells #[] 33)) hb1.size
  have HO0 := Lib.hid (show Own2 33 w1.heap.size ((w1.alloc (.cells #[] 33)).alloc (.cells #[] 33)) (.slice (some ⟨w1.heap.size, 0, none⟩) 0 0) [] (.slice (some ⟨w1.heap.size + 1, 0, none⟩) 0 0) [] from
    ⟨owp_keep hM1 ((Below.refl _ _).alloc (Nat.le_refl _) _), by simpa using hM2, fun x e0 e1 => by have h0 : w1.heap.size = x := Option.some.inj e0; have h1 : w1.heap.size + 1 = x := Option.some.inj e1; omega⟩)
  have HB0 := Lib.hid (hb1.alloc hb1.size (.cells #[] 33))
  clear hM1 hb1 hM2
  go_wp2_with fail
  go_loopw [8, 9, 10] (fun vt vl i wr => ∃ (k : Nat) (ls ts : List Nat), k ≤ n ∧ i = .int .i64 ((k : Int) + 1) ∧ Hid (ls.length = k) ∧ Hid (ts.length = k) ∧ Hid (Own2 33 w1.heap.size wr vt ts vl ls) ∧ Hid (cnl ls = tells (plT (slfR zs (n : Int))) k) ∧ Hid (cnl ts = plP (slfR zs (n : Int)) k) ∧ Hid (okz (plG (slfR zs (n : Int))) k = true) ∧ Hid (Below w1.heap.size w1 wr)) (fun _ _ i _ => (n : Nat) + 1 - (intOf i).toNat)
  case atStart => exact ⟨0, [], [], Nat.zero_le _, rfl, Lib.hid rfl, Lib.hid rfl, HO0, Lib.hid rfl, Lib.hid rfl, Lib.hid rfl, HB0⟩
  case round =>
    rename World => wr
    obtain ⟨k, ls, ts, hk, rfl, hll, hlt, how, hcl, hct, hok, hbw⟩ := hrel
    obtain ⟨k1, hk1⟩ : ∃ k1 : Nat, k + 1 = k1 := ⟨_, rfl⟩
    have hki : (k : Int) + 1 = (k1 : Int) := by omega
    rw [hki]
    have HK1 := Lib.hid hk1
    by_cases hkn : k < n
    · have hd1 : decide ((k1 : Int) ≤ (n : Int)) = true := decide_eq_true (by omega)
      have hd2 : (k1 : Int) ≤ (n : Int) := by omega
      have HKn := Lib.hid hkn
      obtain ⟨At, ct, rfl, -⟩ := own2_sl how.out.a
      obtain ⟨Al0, cl0, rfl, -⟩ := own2_sl how.out.b
      have HZ := Lib.hid (show plZ ts rs = plZ (plP (slfR zs (n : Int)) k) (slfR zs (n : Int)) by rw [← plZ_cnl, hct.out, HC.out])
      have HX := Lib.hid (show plX ts rs = plT (slfR zs (n : Int)) k by rw [← plX_cnl, hct.out, HC.out]; rfl)
      have hsw := hbw.out.size
      have HSw := Lib.hid hsw
      have hck : wr.cell? ⟨b, off + k1, none⟩ = some (.float .f32 (rs.getD k1 0)) := by rw [hbw.out.cell (p := ⟨b, off + k1, none⟩) (by exact hbl)]; exact HRc.out k1 (by have := HLg.out; omega)
      have hq0 : (0 : Int) ≤ (k1 : Int) := by omega
      have hq1 : (k1 : Int) < (lg : Int) := by have := HLg.out; omega
      have hwk : IntKind.i64.wrap ((k1 : Int) + 1) = ((k + 1 : Nat) : Int) + 1 := by rw [IntKind.wrap_i64]; omega
      have HUp := Lib.hid (show rs.getD k1 0 = rs.getD (ts.length + 1) 0 by rw [hlt.out, hk1])
      generalize rs.getD k1 0 = up at *
      obtain ⟨m, hmm⟩ : ∃ m, ts.length = m := ⟨_, rfl⟩
      have HMt := Lib.hid hmm
      have hmk : m = k := by rw [← hmm]; exact hlt.out
      rw [hmm] at how ⊢
      have HMk := Lib.hid hmk
      have HOr := Lib.hid how.out
      have HBr := Lib.hid hbw.out
      clear hk1 hki hmm hmk how hbw
      go_wp2_with fail
      go_loopw [12, 13, 14] (fun s2 s1 i wx => ∃ (ii x1 x2 : Nat), ii ≤ m ∧ i = .int .i64 ((ii : Int) + 1) ∧ s1 = .float .f32 x1 ∧ s2 = .float .f32 x2 ∧ Hid (cn .f32 x1 = sumT (plS1 ts rs) ii) ∧ Hid (cn .f32 x2 = sumT (plS2 ts rs) ii) ∧ Hid (Below wr.heap.size wr wx)) (fun _ _ i _ => m + 1 - (intOf i).toNat)
      case atStart => exact ⟨0, 0, 0, Nat.zero_le _, rfl, rfl, rfl, Lib.hid cn_zero, Lib.hid cn_zero, Lib.hid (Below.refl _ _)⟩
      case round =>
        rename World => wx
        obtain ⟨ii, x1, x2, hii, rfl, rfl, rfl, hx1, hx2, hbx⟩ := hrel
        obtain ⟨i1, hi1⟩ : ∃ i1 : Nat, ii + 1 = i1 := ⟨_, rfl⟩
        have hiI : (ii : Int) + 1 = (i1 : Int) := by omega
        rw [hiI]
        by_cases hlti : ii < m
        · have hd3 : decide ((i1 : Int) < (k1 : Int)) = true := decide_eq_true (by have := HK1.out; have := HMk.out; omega)
          have hd4 : (i1 : Int) < (k1 : Int) := by have := HK1.out; have := HMk.out; omega
          obtain ⟨g, cg, eg, hg1, hg2⟩ := owp_blk HOr.out.a HMt.out (show 0 < m by omega)
          injection eg with e1 e2 e3
          subst e1 e3
          clear e2
          have HMb := Lib.hid (show m ≤ 16 ∧ lg ≤ 17 by have := HMk.out; have := HLg.out; omega)
          have HII := Lib.hid (show (i1 : Int) = (ii : Int) + 1 by omega)
          have HIii := Lib.hid hlti
          obtain ⟨j, hj⟩ : ∃ j : Nat, k1 - i1 = j := ⟨_, rfl⟩
          have HJ := Lib.hid (show (j : Int) = (k1 : Int) - (i1 : Int) by omega)
          have HIj := Lib.hid (show j < lg by have := HK1.out; have := HMk.out; have := HLg.out; omega)
          have HJm := Lib.hid (show m - ii = j by have := HK1.out; have := HMk.out; omega)
          have hx : g < wx.heap.size ∧ wx.cell? ⟨g, ii, none⟩ = some (.float .f32 (ts.getD ii 0)) := ⟨by have := hbx.out.size; omega, by rw [hbx.out.cell (p := ⟨g, ii, none⟩) (by exact hg2)]; exact (owp_cell HOr.out.a HMt.out hlti).1⟩
          have hbb : b < wr.heap.size := by have := HSw.out; omega
          have hcb : ∀ c, c < lg → b < wx.heap.size ∧ wx.cell? ⟨b, off + c, none⟩ = some (.float .f32 (rs.getD c 0)) := fun c hc => ⟨by have := hbx.out.size; omega, by rw [hbx.out.cell (p := ⟨b, off + c, none⟩) (by exact hbb), HBr.out.cell (p := ⟨b, off + c, none⟩) (by exact hbl)]; exact HRc.out c hc⟩
          have HCb := Lib.hid hcb
          have hy := hcb j HIj.out
          have HT1 := Lib.hid (show aop .mul .f32 (cn .f32 (ts.getD ii 0)) (cn .f32 (rs.getD j 0)) = plS1 ts rs ii by unfold plS1; rw [HMt.out, HJm.out])
          have HT2 := Lib.hid (show aop .mul .f32 (cn .f32 (ts.getD ii 0)) (cn .f32 (rs.getD i1 0)) = plS2 ts rs ii by unfold plS2; rw [hi1])
          have HI1 := Lib.hid hi1
          generalize ts.getD ii 0 = x at *
          obtain ⟨y, hyy⟩ : ∃ y, rs.getD j 0 = y := ⟨_, rfl⟩
          rw [hyy] at hy HT1
          have hwi : IntKind.i64.wrap ((i1 : Int) + 1) = ((ii + 1 : Nat) : Int) + 1 := by rw [IntKind.wrap_i64]; omega
          clear hii hiI hi1 hj hyy hcb
          go_upto_region 15 with fail
          refine wp_region_MT (m := 14) (plR15 g b off lg cp m ct ii i1 j k1 x y x1) (by kernel_rfl) (plR15_mono g b off lg cp m ct ii i1 j k1 x y x1) (by kernel_rfl) (by kernel_rfl) ?_ ?_
          · refine ⟨?_, ?_, ?_, ?_, ?_, ?_, ?_, ?_, ?_, ?_, ?_, ?_, ?_, ?_, trivial⟩
            · refine opT_do rfl (fun a_ w' hS hf K hK => ?_)
              have s13 : a_.tmps.getD 13 undef = (.float .f32 x1) := (hS.rest 13 (by kernel_rfl)).trans rfl
              go_simp
              exact hK _ _ (Below.refl _ _) rfl
            · refine opT_do rfl (fun a_ w' hS hf K hK => ?_)
              have s8 : a_.tmps.getD 8 undef = (.slice (some ⟨g, 0, none⟩) m ct) := (hS.rest 8 (by kernel_rfl)).trans rfl
              go_simp
              exact hK _ _ (Below.refl _ _) rfl
            · refine opT_do rfl (fun a_ w' hS hf K hK => ?_)
              have s14 : a_.tmps.getD 14 undef = (.int .i64 i1) := (hS.rest 14 (by kernel_rfl)).trans rfl
              go_simp
              exact hK _ _ (Below.refl _ _) rfl
            · refine opT_do rfl (fun a_ w' hS hf K hK => ?_)
              have s44 : a_.tmps.getD 44 undef = (.int .i64 i1) := hf 2 (by kernel_rfl) _ 44 rfl rfl
              have hw : IntKind.i64.wrap ((i1 : Int) - 1) = (ii : Int) := by have := HII.out; have := HIii.out; have := HMb.out; rw [IntKind.wrap_i64]; omega
              go_simp
              exact hK _ _ (Below.refl _ _) rfl
            · refine opT_do rfl (fun a_ w' hS hf K hK => ?_)
              have s43 : a_.tmps.getD 43 undef = (.slice (some ⟨g, 0, none⟩) m ct) := hf 1 (by kernel_rfl) _ 43 rfl rfl
              have s45 : a_.tmps.getD 45 undef = (.int .i64 ii) := hf 3 (by kernel_rfl) _ 45 rfl rfl
              have hi0 : (0 : Int) ≤ (ii : Int) := by omega
              have hi1 : (ii : Int) < (m : Int) := by have := HIii.out; omega
              go_simp
              exact hK _ _ (Below.refl _ _) rfl
            · refine opT_do rfl (fun a_ w' hS hf K hK => ?_)
              have s46 : a_.tmps.getD 46 undef = (.pointer (some ⟨g, ii, none⟩)) := hf 4 (by kernel_rfl) _ 46 rfl rfl
              have kk := (hS.below.cell (p := ⟨g, ii, none⟩) (by exact hx.1)).trans hx.2
              go_simp
              exact hK _ _ (Below.refl _ _) rfl
            · refine opT_do rfl (fun a_ w' hS hf K hK => ?_)
              have s6 : a_.tmps.getD 6 undef = (.slice (some ⟨b, off, none⟩) lg cp) := (hS.rest 6 (by kernel_rfl)).trans rfl
              go_simp
              exact hK _ _ (Below.refl _ _) rfl
            · refine opT_do rfl (fun a_ w' hS hf K hK => ?_)
              have s10 : a_.tmps.getD 10 undef = (.int .i64 k1) := (hS.rest 10 (by kernel_rfl)).trans rfl
              go_simp
              exact hK _ _ (Below.refl _ _) rfl
            · refine opT_do rfl (fun a_ w' hS hf K hK => ?_)
              have s14 : a_.tmps.getD 14 undef = (.int .i64 i1) := (hS.rest 14 (by kernel_rfl)).trans rfl
              go_simp
              exact hK _ _ (Below.refl _ _) rfl
            · refine opT_do rfl (fun a_ w' hS hf K hK => ?_)
              have s49 : a_.tmps.getD 49 undef = (.int .i64 k1) := hf 7 (by kernel_rfl) _ 49 rfl rfl
              have s50 : a_.tmps.getD 50 undef = (.int .i64 i1) := hf 8 (by kernel_rfl) _ 50 rfl rfl
              have hw : IntKind.i64.wrap ((k1 : Int) - (i1 : Int)) = (j : Int) := by have := HJ.out; have := HIj.out; have := HMb.out; rw [IntKind.wrap_i64]; omega
              go_simp
              exact hK _ _ (Below.refl _ _) rfl
            · refine opT_do rfl (fun a_ w' hS hf K hK => ?_)
              have s48 : a_.tmps.getD 48 undef = (.slice (some ⟨b, off, none⟩) lg cp) := hf 6 (by kernel_rfl) _ 48 rfl rfl
              have s51 : a_.tmps.getD 51 undef = (.int .i64 j) := hf 9 (by kernel_rfl) _ 51 rfl rfl
              have hi0 : (0 : Int) ≤ (j : Int) := by omega
              have hi1 : (j : Int) < (lg : Int) := by have := HIj.out; omega
              go_simp
              exact hK _ _ (Below.refl _ _) rfl
            · refine opT_do rfl (fun a_ w' hS hf K hK => ?_)
              have s52 : a_.tmps.getD 52 undef = (.pointer (some ⟨b, off + j, none⟩)) := hf 10 (by kernel_rfl) _ 52 rfl rfl
              have kk := (hS.below.cell (p := ⟨b, off + j, none⟩) (by exact hy.1)).trans hy.2
              go_simp
              exact hK _ _ (Below.refl _ _) rfl
            · refine opT_do rfl (fun a_ w' hS hf K hK => ?_)
              have s47 : a_.tmps.getD 47 undef = (.float .f32 x) := hf 5 (by kernel_rfl) _ 47 rfl rfl
              have s53 : a_.tmps.getD 53 undef = (.float .f32 y) := hf 11 (by kernel_rfl) _ 53 rfl rfl
              go_simp
              exact hK _ _ (by first | exact Below.refl _ _ | exact below_drewN (Below.refl _ _) _) ⟨_, rfl, by first | (rw [cn_fopR]; done) | rw [cn_fopR, cn_one32] | rw [cn_fopR, List.getD_eq_getElem?_getD]⟩
            · refine opT_do rfl (fun a_ w' hS hf K hK => ?_)
              have s42 : a_.tmps.getD 42 undef = (.float .f32 x1) := hf 0 (by kernel_rfl) _ 42 rfl rfl
              obtain ⟨r54, s54, e54⟩ := (show ∃ r, a_.tmps.getD 54 undef = .float .f32 r ∧ cn .f32 r = (aop .mul .f32 (cn .f32 x) (cn .f32 y)) from hf 12 (by kernel_rfl) _ 54 rfl rfl)
              go_simp
              exact hK _ _ (by first | exact Below.refl _ _ | exact below_drewN (Below.refl _ _) _) ⟨_, rfl, by first | (rw [cn_fopR, e54]; done) | rw [cn_fopR, e54, cn_one32] | rw [cn_fopR, e54, List.getD_eq_getElem?_getD]⟩
          intro vs a_ wV hbV hv haV
          obtain ⟨r13, e13, h13⟩ := (show ∃ r, vs 13 = .float .f32 r ∧ cn .f32 r = (aop .add .f32 (cn .f32 x1) (aop .mul .f32 (cn .f32 x) (cn .f32 y))) from hv 13 (by omega) (by kernel_rfl))
          subst haV
          simp only [putsL, List.take_succ_cons, List.take_zero, List.drop_succ_cons, List.drop_zero, List.setIfInBounds_toArray, List.set_cons_succ, List.set_cons_zero, Nat.reduceAdd, Nat.zero_add]
          rw [e13]
          clear hv e13
          have HR1 := Lib.hid (show cn .f32 r13 = sumT (plS1 ts rs) (ii + 1) by rw [h13, HT1.out, hx1.out]; rfl)
          have hb2 : Below wx.heap.size wx wV := (below_drewN (Below.refl _ _) 1).trans hbV
          have hx' : g < wV.heap.size ∧ wV.cell? ⟨g, ii, none⟩ = some (.float .f32 x) := ⟨by have := hb2.size; omega, by rw [hb2.cell (p := ⟨g, ii, none⟩) (by exact hx.1)]; exact hx.2⟩
          have hy' : b < wV.heap.size ∧ wV.cell? ⟨b, off + i1, none⟩ = some (.float .f32 (rs.getD i1 0)) := by
            have h8 := HCb.out i1 (by have := HI1.out; have := HMk.out; have := HLg.out; have := HIii.out; omega)
            exact ⟨by have := hb2.size; omega, by rw [hb2.cell (p := ⟨b, off + i1, none⟩) (by exact h8.1)]; exact h8.2⟩
          have HB2 := Lib.hid (hbx.out.trans (hb2.mono hbx.out.size))
          clear hbV h13 hb2 hx hy hbx
          obtain ⟨y2, hyy⟩ : ∃ y, rs.getD i1 0 = y := ⟨_, rfl⟩
          rw [hyy] at hy' HT2
          have hx := hx'
          have hy := hy'
          clear hyy hx' hy' HIj HJ HJm
          have HIj := Lib.hid (show i1 < lg by have := HI1.out; have := HMk.out; have := HLg.out; have := HIii.out; omega)
          have HIi1 := HIj
          go_upto_region 16 with fail
          refine wp_region_MT (m := 12) (plR16 g b off lg cp m ct ii 0 i1 k1 x y2 x2) (by kernel_rfl) (plR16_mono g b off lg cp m ct ii 0 i1 k1 x y2 x2) (by kernel_rfl) (by kernel_rfl) ?_ ?_
          · refine ⟨?_, ?_, ?_, ?_, ?_, ?_, ?_, ?_, ?_, ?_, ?_, ?_, trivial⟩
            · refine opT_do rfl (fun a_ w' hS hf K hK => ?_)
              have s12 : a_.tmps.getD 12 undef = (.float .f32 x2) := (hS.rest 12 (by kernel_rfl)).trans rfl
              go_simp
              exact hK _ _ (Below.refl _ _) rfl
            · refine opT_do rfl (fun a_ w' hS hf K hK => ?_)
              have s8 : a_.tmps.getD 8 undef = (.slice (some ⟨g, 0, none⟩) m ct) := (hS.rest 8 (by kernel_rfl)).trans rfl
              go_simp
              exact hK _ _ (Below.refl _ _) rfl
            · refine opT_do rfl (fun a_ w' hS hf K hK => ?_)
              have s14 : a_.tmps.getD 14 undef = (.int .i64 i1) := (hS.rest 14 (by kernel_rfl)).trans rfl
              go_simp
              exact hK _ _ (Below.refl _ _) rfl
            · refine opT_do rfl (fun a_ w' hS hf K hK => ?_)
              have s58 : a_.tmps.getD 58 undef = (.int .i64 i1) := hf 2 (by kernel_rfl) _ 58 rfl rfl
              have hw : IntKind.i64.wrap ((i1 : Int) - 1) = (ii : Int) := by have := HII.out; have := HIii.out; have := HMb.out; rw [IntKind.wrap_i64]; omega
              go_simp
              exact hK _ _ (Below.refl _ _) rfl
            · refine opT_do rfl (fun a_ w' hS hf K hK => ?_)
              have s57 : a_.tmps.getD 57 undef = (.slice (some ⟨g, 0, none⟩) m ct) := hf 1 (by kernel_rfl) _ 57 rfl rfl
              have s59 : a_.tmps.getD 59 undef = (.int .i64 ii) := hf 3 (by kernel_rfl) _ 59 rfl rfl
              have hi0 : (0 : Int) ≤ (ii : Int) := by omega
              have hi1 : (ii : Int) < (m : Int) := by have := HIii.out; omega
              go_simp
              exact hK _ _ (Below.refl _ _) rfl
            · refine opT_do rfl (fun a_ w' hS hf K hK => ?_)
              have s60 : a_.tmps.getD 60 undef = (.pointer (some ⟨g, ii, none⟩)) := hf 4 (by kernel_rfl) _ 60 rfl rfl
              have kk := (hS.below.cell (p := ⟨g, ii, none⟩) (by exact hx.1)).trans hx.2
              go_simp
              exact hK _ _ (Below.refl _ _) rfl
            · refine opT_do rfl (fun a_ w' hS hf K hK => ?_)
              have s6 : a_.tmps.getD 6 undef = (.slice (some ⟨b, off, none⟩) lg cp) := (hS.rest 6 (by kernel_rfl)).trans rfl
              go_simp
              exact hK _ _ (Below.refl _ _) rfl
            · refine opT_do rfl (fun a_ w' hS hf K hK => ?_)
              have s14 : a_.tmps.getD 14 undef = (.int .i64 i1) := (hS.rest 14 (by kernel_rfl)).trans rfl
              go_simp
              exact hK _ _ (Below.refl _ _) rfl
            · refine opT_do rfl (fun a_ w' hS hf K hK => ?_)
              have s62 : a_.tmps.getD 62 undef = (.slice (some ⟨b, off, none⟩) lg cp) := hf 6 (by kernel_rfl) _ 62 rfl rfl
              have s63 : a_.tmps.getD 63 undef = (.int .i64 i1) := hf 7 (by kernel_rfl) _ 63 rfl rfl
              have hi0 : (0 : Int) ≤ (i1 : Int) := by omega
              have hi1 : (i1 : Int) < (lg : Int) := by have := HIi1.out; omega
              go_simp
              exact hK _ _ (Below.refl _ _) rfl
            · refine opT_do rfl (fun a_ w' hS hf K hK => ?_)
              have s64 : a_.tmps.getD 64 undef = (.pointer (some ⟨b, off + i1, none⟩)) := hf 8 (by kernel_rfl) _ 64 rfl rfl
              have kk := (hS.below.cell (p := ⟨b, off + i1, none⟩) (by exact hy.1)).trans hy.2
              go_simp
              exact hK _ _ (Below.refl _ _) rfl
            · refine opT_do rfl (fun a_ w' hS hf K hK => ?_)
              have s61 : a_.tmps.getD 61 undef = (.float .f32 x) := hf 5 (by kernel_rfl) _ 61 rfl rfl
              have s65 : a_.tmps.getD 65 undef = (.float .f32 y2) := hf 9 (by kernel_rfl) _ 65 rfl rfl
              go_simp
              exact hK _ _ (by first | exact Below.refl _ _ | exact below_drewN (Below.refl _ _) _) ⟨_, rfl, by first | (rw [cn_fopR]; done) | rw [cn_fopR, cn_one32] | rw [cn_fopR, List.getD_eq_getElem?_getD]⟩
            · refine opT_do rfl (fun a_ w' hS hf K hK => ?_)
              have s56 : a_.tmps.getD 56 undef = (.float .f32 x2) := hf 0 (by kernel_rfl) _ 56 rfl rfl
              obtain ⟨r66, s66, e66⟩ := (show ∃ r, a_.tmps.getD 66 undef = .float .f32 r ∧ cn .f32 r = (aop .mul .f32 (cn .f32 x) (cn .f32 y2)) from hf 10 (by kernel_rfl) _ 66 rfl rfl)
              go_simp
              exact hK _ _ (by first | exact Below.refl _ _ | exact below_drewN (Below.refl _ _) _) ⟨_, rfl, by first | (rw [cn_fopR, e66]; done) | rw [cn_fopR, e66, cn_one32] | rw [cn_fopR, e66, List.getD_eq_getElem?_getD]⟩
          intro vs a_ wU hbU hv haU
          obtain ⟨r11, e11, h11⟩ := (show ∃ r, vs 11 = .float .f32 r ∧ cn .f32 r = (aop .add .f32 (cn .f32 x2) (aop .mul .f32 (cn .f32 x) (cn .f32 y2))) from hv 11 (by omega) (by kernel_rfl))
          subst haU
          simp only [putsL, List.take_succ_cons, List.take_zero, List.drop_succ_cons, List.drop_zero, List.setIfInBounds_toArray, List.set_cons_succ, List.set_cons_zero, Nat.reduceAdd, Nat.zero_add]
          rw [e11]
          clear hv e11
          have HR2 := Lib.hid (show cn .f32 r11 = sumT (plS2 ts rs) (ii + 1) by rw [h11, HT2.out, hx2.out]; rfl)
          have hb3 : Below wV.heap.size wV wU := (below_drewN (Below.refl _ _) 1).trans hbU
          have HB3 := Lib.hid (HB2.out.trans (hb3.mono HB2.out.size))
          clear hbU h11 hb3 hx hy
          go_wp2_with fail
          go_roundw
          case rel => exact ⟨ii + 1, _, _, HIii.out, by first | rfl | (rw [hwi]) | go_num, rfl, rfl, HR1, HR2, HB3⟩
          case measure => have := HI1.out; have := HIii.out; simp [intOf] <;> omega
        · obtain rfl : m = ii := by omega
          have hd3 : decide ((i1 : Int) < (k1 : Int)) = false := decide_eq_false (by have := HK1.out; have := HMk.out; omega)
          have hd4 : ¬ (i1 : Int) < (k1 : Int) := by have := HK1.out; have := HMk.out; omega
          have HOx := Lib.hid (HOr.out.keep hbx.out)
          have HBx := Lib.hid (HBr.out.trans (hbx.out.mono HSw.out))
          clear hiI hi1 hbx
          go_upto_region 19 with fail
          generalize hUp : fopR .sub .f32 up x1 _ = up2
          generalize hWw : fopR .sub .f32 1065353216 x2 _ = u
          have HU := Lib.hid (show cn .f32 u = plW ts rs by rw [← hWw, cn_fopR, pl_one, hx2.out]; unfold plW; rw [HMt.out])
          have HUp2 := Lib.hid (show cn .f32 up2 = aop .sub .f32 (cn .f32 (rs.getD (ts.length + 1) 0)) (sumT (plS1 ts rs) ts.length) by rw [← hUp, cn_fopR, hx1.out, HUp.out, HMt.out])
          clear hWw hUp hx1 hx2
          generalize hwA : World.drewN wx (_ + _) = wA
          have HOa := Lib.hid (show Own2 33 w1.heap.size wA _ ts _ ls by rw [← hwA]; exact HOx.out.drewN _)
          have HBa := Lib.hid (show Below w1.heap.size w1 wA by rw [← hwA]; exact below_drewN HBx.out _)
          clear hwA HOx HBx
          have hz := pl_zero HU.out
          cases hpz : plZ ts rs
          rotate_left
          · rw [hpz] at hz
            have HBd := Lib.hid (pl_badZ (a := (n : Int)) (k := k) HKn.out (by rw [← HZ.out]; exact hpz))
            clear hpz
            go_wp2_with fail
            go_ret2
            exact fail_ob _ HBd.out.1 HBd.out.2 (HBl.out.trans (HBa.out.mono hsz1))
          · rw [hpz] at hz
            have HOk := Lib.hid (show okz (plG (slfR zs (n : Int))) (k + 1) = true by rw [okz_succ, hok.out]; unfold plG; rw [← HZ.out, hpz]; rfl)
            clear hpz
            go_upto_region 22 with fail
            generalize hX : fopR .quo .f32 up2 u _ = x
            have HXw := Lib.hid (show cn .f32 x = plX ts rs by rw [← hX, cn_fopR, HUp2.out, HU.out]; rfl)
            clear hX
            generalize hwB : World.drewN wA _ = wB
            have HOb := Lib.hid (show Own2 33 w1.heap.size wB _ ts _ ls by rw [← hwB]; exact HOa.out.drewN _)
            have HBb := Lib.hid (show Below w1.heap.size w1 wB by rw [← hwB]; exact below_drewN HBa.out _)
            have hszB : w1.heap.size ≤ wB.heap.size := HBb.out.size
            have HN0 := Lib.hid (HOb.out.more ((Below.refl _ _).alloc (Nat.le_refl _) (.cells #[] 33)) (Nat.le_refl _) hszB (FOwn.made (T := 33) (B := wB.heap.size) wB (Nat.le_refl _)))
            have HNB := Lib.hid (HBb.out.alloc hszB (.cells #[] 33))
            have hwk2 : IntKind.i64.wrap ((k1 : Int) + 1) = ((k + 1 : Nat) : Int) + 1 := by have := HK1.out; rw [IntKind.wrap_i64]; omega
            clear hwB HOa HBa
            go_wp2_with fail
            go_loopw [16, 17] (fun vn i wx => ∃ (ii : Nat) (ns : List Nat), ii ≤ m ∧ i = .int .i64 ((ii : Int) + 1) ∧ Hid (ns.length = ii) ∧ Hid (cnl ns = tells (plNi ts x) ii) ∧ Hid (Own3 33 w1.heap.size wx vn ns (.slice At m ct) ts (.slice Al0 ls.length cl0) ls) ∧ Hid (Below w1.heap.size w1 wx)) (fun _ i _ => m + 1 - (intOf i).toNat)
            case atStart => exact ⟨0, [], Nat.zero_le _, rfl, Lib.hid rfl, Lib.hid rfl, HN0, HNB⟩
            case round =>
              rename World => wx
              obtain ⟨ii, ns, hii, rfl, hnl, hnc, hno, hnb⟩ := hrel
              obtain ⟨i1, hi1⟩ : ∃ i1 : Nat, ii + 1 = i1 := ⟨_, rfl⟩
              have hiI : (ii : Int) + 1 = (i1 : Int) := by omega
              rw [hiI]
              by_cases hlti : ii < m
              · have hd3 : decide ((i1 : Int) < (k1 : Int)) = true := decide_eq_true (by have := HK1.out; have := HMk.out; omega)
                have hd4 : (i1 : Int) < (k1 : Int) := by have := HK1.out; have := HMk.out; omega
                obtain ⟨g, cg, eg, hg1, hg2⟩ := owp_blk hno.out.b HMt.out (show 0 < m by omega)
                injection eg with e1 e2 e3
                subst e1 e3
                clear e2
                obtain ⟨An, cn', rfl, -⟩ := own2_sl hno.out.a
                have HMb := Lib.hid (show m ≤ 16 by have := HMk.out; omega)
                have HII := Lib.hid (show (i1 : Int) = (ii : Int) + 1 by omega)
                have HIii := Lib.hid hlti
                obtain ⟨j, hj⟩ : ∃ j : Nat, k1 - i1 - 1 = j := ⟨_, rfl⟩
                have HJ := Lib.hid (show (j : Int) = (k1 : Int) - (i1 : Int) - 1 by have := HK1.out; have := HMk.out; omega)
                have HIj := Lib.hid (show j < m by have := HK1.out; have := HMk.out; omega)
                have HJm := Lib.hid (show m - 1 - ii = j by have := HK1.out; have := HMk.out; omega)
                have hx : g < wx.heap.size ∧ wx.cell? ⟨g, ii, none⟩ = some (.float .f32 (ts.getD ii 0)) := ⟨hg2, (owp_cell hno.out.b HMt.out hlti).1⟩
                have hy : g < wx.heap.size ∧ wx.cell? ⟨g, j, none⟩ = some (.float .f32 (ts.getD j 0)) := ⟨hg2, (owp_cell hno.out.b HMt.out HIj.out).1⟩
                have HT := Lib.hid (show aop .sub .f32 (cn .f32 (ts.getD ii 0)) (aop .mul .f32 (cn .f32 x) (cn .f32 (ts.getD j 0))) = plNi ts x ii by unfold plNi; rw [HMt.out, HJm.out])
                generalize ts.getD ii 0 = ti at *
                generalize ts.getD j 0 = tj at *
                have hwi : IntKind.i64.wrap ((i1 : Int) + 1) = ((ii + 1 : Nat) : Int) + 1 := by rw [IntKind.wrap_i64]; omega
                have HI1 := Lib.hid hi1
                have HNo := Lib.hid hno.out
                have HNb := Lib.hid hnb.out
                clear hii hiI hi1 hj hno hnb
                go_upto_region 26 with fail
                refine wp_region_MT (m := 17) (plR26 g m ct ii i1 j k1 ti tj x (.slice An ns.length cn')) (by kernel_rfl) (plR26_mono g m ct ii i1 j k1 ti tj x (.slice An ns.length cn')) (by kernel_rfl) (by kernel_rfl) ?_ ?_
                · refine ⟨?_, ?_, ?_, ?_, ?_, ?_, ?_, ?_, ?_, ?_, ?_, ?_, ?_, ?_, ?_, ?_, ?_, trivial⟩
                  · refine opT_do rfl (fun a_ w' hS hf K hK => ?_)
                    have s16 : a_.tmps.getD 16 undef = (.slice An ns.length cn') := (hS.rest 16 (by kernel_rfl)).trans rfl
                    go_simp
                    exact hK _ _ (Below.refl _ _) rfl
                  · refine opT_do rfl (fun a_ w' hS hf K hK => ?_)
                    have s8 : a_.tmps.getD 8 undef = (.slice (some ⟨g, 0, none⟩) m ct) := (hS.rest 8 (by kernel_rfl)).trans rfl
                    go_simp
                    exact hK _ _ (Below.refl _ _) rfl
                  · refine opT_do rfl (fun a_ w' hS hf K hK => ?_)
                    have s17 : a_.tmps.getD 17 undef = (.int .i64 i1) := (hS.rest 17 (by kernel_rfl)).trans rfl
                    go_simp
                    exact hK _ _ (Below.refl _ _) rfl
                  · refine opT_do rfl (fun a_ w' hS hf K hK => ?_)
                    have s86 : a_.tmps.getD 86 undef = (.int .i64 i1) := hf 2 (by kernel_rfl) _ 86 rfl rfl
                    have hw : IntKind.i64.wrap ((i1 : Int) - 1) = (ii : Int) := by have := HII.out; have := HIii.out; have := HMb.out; rw [IntKind.wrap_i64]; omega
                    go_simp
                    exact hK _ _ (Below.refl _ _) rfl
                  · refine opT_do rfl (fun a_ w' hS hf K hK => ?_)
                    have s85 : a_.tmps.getD 85 undef = (.slice (some ⟨g, 0, none⟩) m ct) := hf 1 (by kernel_rfl) _ 85 rfl rfl
                    have s87 : a_.tmps.getD 87 undef = (.int .i64 ii) := hf 3 (by kernel_rfl) _ 87 rfl rfl
                    have hi0 : (0 : Int) ≤ (ii : Int) := by omega
                    have hi1 : (ii : Int) < (m : Int) := by have := HIii.out; omega
                    go_simp
                    exact hK _ _ (Below.refl _ _) rfl
                  · refine opT_do rfl (fun a_ w' hS hf K hK => ?_)
                    have s88 : a_.tmps.getD 88 undef = (.pointer (some ⟨g, ii, none⟩)) := hf 4 (by kernel_rfl) _ 88 rfl rfl
                    have kk := (hS.below.cell (p := ⟨g, ii, none⟩) (by exact hx.1)).trans hx.2
                    go_simp
                    exact hK _ _ (Below.refl _ _) rfl
                  · refine opT_do rfl (fun a_ w' hS hf K hK => ?_)
                    have s15 : a_.tmps.getD 15 undef = (.float .f32 x) := (hS.rest 15 (by kernel_rfl)).trans rfl
                    go_simp
                    exact hK _ _ (Below.refl _ _) rfl
                  · refine opT_do rfl (fun a_ w' hS hf K hK => ?_)
                    have s8 : a_.tmps.getD 8 undef = (.slice (some ⟨g, 0, none⟩) m ct) := (hS.rest 8 (by kernel_rfl)).trans rfl
                    go_simp
                    exact hK _ _ (Below.refl _ _) rfl
                  · refine opT_do rfl (fun a_ w' hS hf K hK => ?_)
                    have s10 : a_.tmps.getD 10 undef = (.int .i64 k1) := (hS.rest 10 (by kernel_rfl)).trans rfl
                    go_simp
                    exact hK _ _ (Below.refl _ _) rfl
                  · refine opT_do rfl (fun a_ w' hS hf K hK => ?_)
                    have s17 : a_.tmps.getD 17 undef = (.int .i64 i1) := (hS.rest 17 (by kernel_rfl)).trans rfl
                    go_simp
                    exact hK _ _ (Below.refl _ _) rfl
                  · refine opT_do rfl (fun a_ w' hS hf K hK => ?_)
                    have s92 : a_.tmps.getD 92 undef = (.int .i64 k1) := hf 8 (by kernel_rfl) _ 92 rfl rfl
                    have s93 : a_.tmps.getD 93 undef = (.int .i64 i1) := hf 9 (by kernel_rfl) _ 93 rfl rfl
                    have hw : IntKind.i64.wrap ((k1 : Int) - (i1 : Int)) = (k1 : Int) - (i1 : Int) := by have := HJ.out; have := HIj.out; have := HMb.out; rw [IntKind.wrap_i64]; omega
                    go_simp
                    exact hK _ _ (Below.refl _ _) rfl
                  · refine opT_do rfl (fun a_ w' hS hf K hK => ?_)
                    have s94 : a_.tmps.getD 94 undef = (.int .i64 ((k1 : Int) - (i1 : Int))) := hf 10 (by kernel_rfl) _ 94 rfl rfl
                    have hw : IntKind.i64.wrap ((k1 : Int) - (i1 : Int) - 1) = (j : Int) := by have := HJ.out; have := HIj.out; have := HMb.out; rw [IntKind.wrap_i64]; omega
                    go_simp
                    exact hK _ _ (Below.refl _ _) rfl
                  · refine opT_do rfl (fun a_ w' hS hf K hK => ?_)
                    have s91 : a_.tmps.getD 91 undef = (.slice (some ⟨g, 0, none⟩) m ct) := hf 7 (by kernel_rfl) _ 91 rfl rfl
                    have s95 : a_.tmps.getD 95 undef = (.int .i64 j) := hf 11 (by kernel_rfl) _ 95 rfl rfl
                    have hi0 : (0 : Int) ≤ (j : Int) := by omega
                    have hi1 : (j : Int) < (m : Int) := by have := HIj.out; omega
                    go_simp
                    exact hK _ _ (Below.refl _ _) rfl
                  · refine opT_do rfl (fun a_ w' hS hf K hK => ?_)
                    have s96 : a_.tmps.getD 96 undef = (.pointer (some ⟨g, j, none⟩)) := hf 12 (by kernel_rfl) _ 96 rfl rfl
                    have kk := (hS.below.cell (p := ⟨g, j, none⟩) (by exact hy.1)).trans hy.2
                    go_simp
                    exact hK _ _ (Below.refl _ _) rfl
                  · refine opT_do rfl (fun a_ w' hS hf K hK => ?_)
                    have s90 : a_.tmps.getD 90 undef = (.float .f32 x) := hf 6 (by kernel_rfl) _ 90 rfl rfl
                    have s97 : a_.tmps.getD 97 undef = (.float .f32 tj) := hf 13 (by kernel_rfl) _ 97 rfl rfl
                    go_simp
                    exact hK _ _ (by first | exact Below.refl _ _ | exact below_drewN (Below.refl _ _) _) ⟨_, rfl, by first | (rw [cn_fopR]; done) | rw [cn_fopR, cn_one32] | rw [cn_fopR, List.getD_eq_getElem?_getD]⟩
                  · refine opT_do rfl (fun a_ w' hS hf K hK => ?_)
                    have s89 : a_.tmps.getD 89 undef = (.float .f32 ti) := hf 5 (by kernel_rfl) _ 89 rfl rfl
                    obtain ⟨r98, s98, e98⟩ := (show ∃ r, a_.tmps.getD 98 undef = .float .f32 r ∧ cn .f32 r = (aop .mul .f32 (cn .f32 x) (cn .f32 tj)) from hf 14 (by kernel_rfl) _ 98 rfl rfl)
                    go_simp
                    exact hK _ _ (by first | exact Below.refl _ _ | exact below_drewN (Below.refl _ _) _) ⟨_, rfl, by first | (rw [cn_fopR, e98]; done) | rw [cn_fopR, e98, cn_one32] | rw [cn_fopR, e98, List.getD_eq_getElem?_getD]⟩
                  · refine opT_do rfl (fun a_ w' hS hf K hK => ?_)
                    obtain ⟨r99, s99, e99⟩ := (show ∃ r, a_.tmps.getD 99 undef = .float .f32 r ∧ cn .f32 r = (aop .sub .f32 (cn .f32 ti) (aop .mul .f32 (cn .f32 x) (cn .f32 tj))) from hf 15 (by kernel_rfl) _ 99 rfl rfl)
                    have q99 : a_.tmps[99]?.getD undef = .float .f32 r99 := by rw [← Array.getD_eq_getD_getElem?]; exact s99
                    go_simp
                    exact hK _ _ ((Below.refl _ _).alloc (Nat.le_refl _) _) ⟨w'.heap.size, r99, rfl, by simp, by rw [World.cell?_alloc_at _ _ _ _ rfl]; rfl, e99⟩
                intro vs a_ wV hbV hv haV
                have e0 : vs 0 = (.slice An ns.length cn') := hv 0 (by omega) (by kernel_rfl)
                obtain ⟨gg, rr, e16, hgl, hgc, hrr⟩ := (show ∃ g r, (vs 16) = .slice (some ⟨g, 0, none⟩) 1 1 ∧ g < wV.heap.size ∧ wV.cell? ⟨g, 0, none⟩ = some (.float .f32 r) ∧ cn .f32 r = (aop .sub .f32 (cn .f32 ti) (aop .mul .f32 (cn .f32 x) (cn .f32 tj))) from hv 16 (by omega) (by kernel_rfl))
                subst haV
                simp only [putsL, List.take_succ_cons, List.take_zero, List.drop_succ_cons, List.drop_zero, List.setIfInBounds_toArray, List.set_cons_succ, List.set_cons_zero, Nat.reduceAdd, Nat.zero_add]
                rw [e0, e16]
                clear hv e0 e16
                have hb9 : Below wx.heap.size wx wV := (below_drewN (Below.refl wx.heap.size wx) 1).trans hbV
                have HR := Lib.hid (show cn .f32 rr = plNi ts x ii by rw [hrr, HT.out])
                have HO9 := Lib.hid (HNo.out.keep hb9)
                have HB9 := Lib.hid (HNb.out.trans (hb9.mono HNb.out.size))
                have hs9 : w1.heap.size ≤ wV.heap.size := HB9.out.size
                have HG9 := Lib.hid (owp_one hgc)
                have HN16 := Lib.hid (show ns.length ≤ 16 by have := hnl.out; have := HMb.out; have := HIii.out; omega)
                clear hb9 hbV hrr hx hy
                go_wp2_with (at_builtin; refine wpList_append_own_at _ rfl _ _ 22 rfl w1.heap.size 33 i0 (.float .f32 0) 1 4 Try.underlying22 hi hz0 hz1 hz2 rfl (by decide) _ _ _ rfl HO9.out.a ⟨gg, 0, none⟩ 1 1 [.float .f32 rr] rfl rfl HG9.out ?c2 ?c3 ?c4 ?c5 ?_)
                case c2 => first | rfl | (intro u hu; simp at hu; subst hu; rfl)
                case c3 => have := HN16.out; unfold maxLen; omega
                case c4 => have := HN16.out; omega
                case c5 => first | omega | (simp; omega)
                intro v2 w2 hown hgrow _ hat
                have HA2 := Lib.hid (HO9.out.push (Below.refl _ _) hown hgrow (Nat.le_refl _) hat)
                have HB2 := Lib.hid (HB9.out.grown hgrow hs9 (fun j e => (HO9.out.a.lt j e).1))
                have HC2 := Lib.hid ((cnl_snoc hnc.out HR.out).trans (tells_succ (plNi ts x) ii).symm)
                clear hown hgrow hat
                go_wp2_with fail
                go_roundw
                case rel => exact ⟨ii + 1, ns ++ [rr], HIii.out, by first | rfl | (rw [hwi]) | go_num, Lib.hid (by rw [List.length_append, hnl.out]; rfl), HC2, HA2, HB2⟩
                case measure => have := HI1.out; have := HIii.out; simp [intOf] <;> omega
              · obtain rfl : m = ii := by omega
                have hd3 : decide ((i1 : Int) < (k1 : Int)) = false := decide_eq_false (by have := HK1.out; have := HMk.out; omega)
                have hd4 : ¬ (i1 : Int) < (k1 : Int) := by have := HK1.out; have := HMk.out; omega
                have HNo := Lib.hid hno.out
                have HNb := Lib.hid hnb.out
                have hs9 : w1.heap.size ≤ wx.heap.size := HNb.out.size
                have HN16 := Lib.hid (show ns.length ≤ 16 by have := hnl.out; have := HMk.out; omega)
                have HL16 := Lib.hid (show ls.length ≤ 16 by have := hll.out; omega)
                have HPn := Lib.hid (show cnl (ns ++ [x]) = plP (slfR zs (n : Int)) (k + 1) by
                  rw [plP_succ, ← hct.out, plN_cnl, plN_word (show cn .f32 (plT (slfR zs (n : Int)) k) = cn .f32 x by rw [HXw.out, HX.out]; exact plX_cn ..)]
                  unfold plN
                  rw [HMt.out]
                  exact cnl_snoc hnc.out rfl)
                have HLs := Lib.hid ((cnl_snoc hcl.out (HXw.out.trans HX.out)).trans (tells_succ (plT (slfR zs (n : Int))) k).symm)
                clear hiI hi1 hno hnb
                go_wp2_with (at_builtin; refine wpList_append_own_at _ rfl _ _ 22 rfl w1.heap.size 33 i0 (.float .f32 0) 1 4 Try.underlying22 hi hz0 hz1 hz2 rfl (by decide) _ _ _ rfl (World.ownsRow.alloc HNo.out.a _) ⟨wx.heap.size, 0, none⟩ 1 1 [_] rfl rfl (one_new rfl) ?c2 ?c3 ?c4 ?c5 ?_)
                case c2 => first | rfl | (intro u hu; simp at hu; subst hu; rfl)
                case c3 => have := HN16.out; unfold maxLen; omega
                case c4 => have := HN16.out; omega
                case c5 => first | omega | (simp; omega)
                intro v2 w2 hown hgrow _ hat
                have HA2 := Lib.hid (HNo.out.push (H := wx.heap.size + 1) ((Below.refl wx.heap.size wx).alloc (Nat.le_refl _) _) hown hgrow (by omega) (by simpa using hat))
                have HB2 := Lib.hid ((HNb.out.alloc hs9 _).grown hgrow (by simp; omega) (fun j e => (HNo.out.a.lt j e).1))
                have hs2 : w1.heap.size ≤ w2.heap.size := HB2.out.size
                have HA3 := Lib.hid HA2.out.rot.tail
                have HPo := Lib.hid (show Own2 33 w1.heap.size w2 (.slice Al0 ls.length cl0) ls v2 (ns ++ [x]) from ⟨HA2.out.c, HA2.out.a, HA2.out.ac.symm⟩)
                clear hown hgrow hat HA2 HA3
                go_wp2_with (at_builtin; refine wpList_append_own_at _ rfl _ _ 22 rfl w1.heap.size 33 i0 (.float .f32 0) 1 4 Try.underlying22 hi hz0 hz1 hz2 rfl (by decide) _ _ _ rfl (World.ownsRow.alloc HPo.out.a _) ⟨w2.heap.size, 0, none⟩ 1 1 [_] rfl rfl (one_new rfl) ?c2 ?c3 ?c4 ?c5 ?_)
                case c2 => first | rfl | (intro u hu; simp at hu; subst hu; rfl)
                case c3 => have := HL16.out; unfold maxLen; omega
                case c4 => have := HL16.out; omega
                case c5 => first | omega | (simp; omega)
                intro v3 w3 hown hgrow _ hat
                have HA3 := Lib.hid ((HPo.out.push (H := w2.heap.size + 1) ((Below.refl w2.heap.size w2).alloc (Nat.le_refl _) _) hown hgrow (by omega) (by simpa using hat)).swap)
                have HB3 := Lib.hid ((HB2.out.alloc hs2 _).grown hgrow (by simp; omega) (fun j e => (HPo.out.a.lt j e).1))
                clear hown hgrow hat
                go_wp2_with fail
                go_roundw
                case rel => exact ⟨k + 1, ls ++ [x], ns ++ [x], HKn.out, by first | rfl | (rw [hwk2]) | go_num, Lib.hid (by rw [List.length_append, hll.out]; rfl), Lib.hid (by rw [List.length_append, hnl.out, HMk.out]; rfl), HA3, HLs, HPn, HOk, HB3⟩
                case measure => have := HK1.out; have := HKn.out; simp [intOf] <;> omega
    · obtain rfl : n = k := by omega
      have hd1 : decide ((k1 : Int) ≤ (n : Int)) = false := decide_eq_false (by omega)
      have hd2 : ¬ (k1 : Int) ≤ (n : Int) := by omega
      have HBd := Lib.hid (pl_good (show plB zs (n : Int) = true by unfold plB; rw [HS.out]; exact hok.out))
      obtain ⟨Al, cl, rfl, hsl⟩ := own2_sl how.out.b
      have HSL := Lib.hid hsl
      have HX := Lib.hid (show cnl ls = plL zs (n : Int) from hcl.out)
      have hl9 : ls.length ≤ 1048576 := by have := hll.out; omega
      have HOf := Lib.hid (how.out.b.mono hsz1)
      have HBf := Lib.hid (HBl.out.trans (hbw.out.mono hsz1))
      clear hsl hk1 hki
      go_wp2_with fail
      refine (specGiven_any 33 _ _ ls (plL zs (n : Int)) _ w _ rfl HSL.out HX.out hl9 HOf.out HBf.out).mono ?_
      rintro e w9 ⟨v, ys, rfl, ho9, hx9, hb9⟩
      have HO9 := Lib.hid ho9
      have HX9 := Lib.hid (hx9.trans HBd.out.2.symm)
      have HB9 := Lib.hid hb9
      have HTT := Lib.hid HBd.out.1.symm
      rw [HTT.out]
      clear ho9 hx9 hb9
      go_wp2_with fail
      go_ret2
      exact ⟨v, ys, rfl, HO9.out, HX9.out, HB9.out⟩
end Go.Proofs.Ytopgegciejmhaaa

