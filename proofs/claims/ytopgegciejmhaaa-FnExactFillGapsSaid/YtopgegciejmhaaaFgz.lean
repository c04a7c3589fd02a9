/-
  Lists of the call's own, in a block g: cells, writes into them, writes elsewhere.
-/
import Derived.Test.YtopgegciejmhaaaCPlc
import Derived.Test.YtopgegciejmhaaaFsl
import Derived.StillTail
import Derived.WalkKit
import Derived.Below
import Derived.Test.YtopgegciejmhaaaCGiv
import Derived.Test.YtopgegciejmhaaaCBox
import Derived.Test.YtopgegciejmhaaaBsl
import Derived.Deep.DeepCutAuto
import Derived.Deep.AppendLies
namespace Go.Proofs.Ytopgegciejmhaaa
open Ieee Go.RowKit
set_option linter.unusedVariables false
theorem owp_put {T : TypeId} {B g n cap : Nat} {w : World} {rs : List Nat} (h : FOwn T B w (.slice (some ⟨g, 0, none⟩) n cap) rs) (hn : rs.length = n) (j r : Nat) : FOwn T B (w.setCell ⟨g, j, none⟩ (.float .f32 r)) (.slice (some ⟨g, 0, none⟩) n cap) (rs.set j r) := by
  subst hn
  have := (World.ownsRow.stored h j (.float .f32 r)).1
  unfold FOwn
  rw [List.length_set, List.map_set]
  exact this
theorem owp_blk {T : TypeId} {B n : Nat} {w : World} {v : Value} {rs : List Nat} (h : FOwn T B w v rs) (hn : rs.length = n) (h0 : 0 < n) : ∃ g cap, v = .slice (some ⟨g, 0, none⟩) n cap ∧ B ≤ g ∧ g < w.heap.size := by
  obtain ⟨A, cap, rfl, _, hf⟩ := h.sl
  obtain ⟨b, rfl, hB, hb, _⟩ := hf 0 (by omega)
  exact ⟨b, cap, by rw [hn], hB, hb⟩
theorem owp_cell {T : TypeId} {B g n cap : Nat} {w : World} {rs : List Nat} (h : FOwn T B w (.slice (some ⟨g, 0, none⟩) n cap) rs) (hn : rs.length = n) {j : Nat} (hj : j < n) : w.cell? ⟨g, j, none⟩ = some (.float .f32 (rs.getD j 0)) ∧ w.frozen? ⟨g, j, none⟩ = false := by
  subst hn
  refine ⟨?_, World.ownsRow.frozenAt h j⟩
  rw [World.ownsRow.cellAt h j (by omega)]
  simp [List.getD, hj]
theorem owp_fsl {T : TypeId} {B : Nat} {w : World} {A : Option Addr} {n c : Nat} {rs : List Nat} (h : FOwn T B w (.slice A n c) rs) : FSl w A n rs := by
  obtain ⟨A', c', e, hs, _⟩ := h.sl
  injection e with e1 e2 e3
  subst e1 e2
  exact hs
theorem owp_lt {T : TypeId} {B g n cap : Nat} {w : World} {rs : List Nat} (h : FOwn T B w (.slice (some ⟨g, 0, none⟩) n cap) rs) : B ≤ g ∧ g < w.heap.size := h.lt g rfl
theorem owp_far {T : TypeId} {B b : Nat} {w : World} {v : Value} {rs : List Nat} (h : FOwn T B w v rs) (hne : v.ownBlock ≠ some b) (i : Nat) (u : Value) : FOwn T B (w.setCell ⟨b, i, none⟩ u) v rs := by
  refine ⟨h.1, ?_⟩
  rcases h.2 with h2 | ⟨g, cap, cur, rfl, h3, h4, h5⟩
  · exact .inl h2
  · refine .inr ⟨g, cap, cur, rfl, h3, ?_, h5⟩
    rw [Below.heap_setCell w ⟨b, i, none⟩ u g (fun e => hne (by show some g = some b; rw [e]))]; exact h4
theorem owp_farS {T : TypeId} {B g b n cap : Nat} {w : World} {rs : List Nat} (h : FOwn T B w (.slice (some ⟨g, 0, none⟩) n cap) rs) (hne : g ≠ b) (i : Nat) (u : Value) : FOwn T B (w.setCell ⟨b, i, none⟩ u) (.slice (some ⟨g, 0, none⟩) n cap) rs :=
  owp_far h (fun e => hne (Option.some.inj e)) i u
theorem owp_keep {T : TypeId} {B : Nat} {wr wa : World} {v : Value} {rs : List Nat} (h : FOwn T B wr v rs) (hb : Below wr.heap.size wr wa) : FOwn T B wa v rs := by
  have hl := h.lt
  refine ⟨h.1, ?_⟩
  rcases h.2 with h2 | ⟨g, cap, cur, rfl, h3, h4, h5⟩
  · exact .inl h2
  · exact .inr ⟨g, cap, cur, rfl, h3, by rw [hb.block g (hl g rfl).2]; exact h4, h5⟩
theorem cnl_set (rs : List Nat) (j : Nat) {r v : Nat} (h : cn .f32 r = v) : cnl (rs.set j r) = (cnl rs).set j v := by unfold cnl; rw [List.map_set, h]
theorem cnl_get {rs xs : List Nat} (h : cnl rs = xs) {j : Nat} (hj : j < rs.length) : cn .f32 (rs.getD j 0) = xs.getD j 0 := by rw [← h]; exact (cnl_at hj).symm
theorem set_len {rs : List Nat} {n j r : Nat} (h : rs.length = n) : (rs.set j r).length = n := by rw [List.length_set]; exact h
theorem owp_push {T : TypeId} {B r : Nat} {w1 : World} {v : Value} {rs : List Nat} (h : w1.ownsRow B T 1 v (rs.length + 1) (rs.map (Value.float .f32) ++ [.float .f32 r])) : FOwn T B w1 v (rs ++ [r]) := by
  unfold FOwn
  rw [List.length_append, List.map_append]
  exact h
theorem owp_one {w : World} {g : Nat} {v : Value} (h : w.cell? ⟨g, 0, none⟩ = some v) : ∀ j u, [v][j]? = some u → w.cell? ((⟨g, 0, none⟩ : Addr).add j) = some u := by
  intro j u hj
  match j, hj with
  | 0, hj =>
    simp at hj
    subst hj
    rw [show ((⟨g, 0, none⟩ : Addr).add 0) = ⟨g, 0, none⟩ by simp [Addr.add]]
    exact h
end Go.Proofs.Ytopgegciejmhaaa

/-
  A region that draws its order, whose operations may make memory and call: each operation is walked once, at whatever memory that
  extends the first one; what it gives is told by a relation that more memory does not break. No order is enumerated.
-/
namespace Go.Proofs.Ytopgegciejmhaaa
open Go.RowKit
set_option linter.unusedVariables false
/-- How many of the first n are not listed. -/
def unl (listed : Array Bool) : Nat → Nat
  | 0 => 0
  | n + 1 => unl listed n + (if listed.getD n false then 0 else 1)
theorem unl_same {l l' : Array Bool} : ∀ {n : Nat}, (∀ j, j < n → l.getD j false = l'.getD j false) → unl l n = unl l' n
  | 0, _ => rfl
  | n + 1, h => by unfold unl; rw [unl_same (fun j hj => h j (by omega)), h n (by omega)]
theorem unl_set {l : Array Bool} {i : Nat} (hs : i < l.size) (hi : l.getD i false = false) : ∀ {n : Nat}, i < n → unl (l.setIfInBounds i true) n + 1 = unl l n
  | n + 1, h => by
    unfold unl
    by_cases e : i = n
    · subst e
      rw [unl_same (l := l.setIfInBounds i true) (l' := l) (fun j hj => getD_set_ne false (by omega)), hi]
      simp [hs]
    · have := unl_set hs hi (n := n) (by omega)
      rw [getD_set_ne false e]
      omega
theorem unl_zero {l : Array Bool} : ∀ {n : Nat}, unl l n = 0 → ∀ j, j < n → l.getD j false = true
  | n + 1, h, j, hj => by
    unfold unl at h
    by_cases e : j = n
    · subst e
      cases hb : l.getD j false
      · rw [hb] at h; simp at h
      · rfl
    · exact unl_zero (n := n) (by omega) j (by omega)
theorem unl_new (n : Nat) : ∀ {m : Nat}, unl (Array.replicate n false) m ≤ m
  | 0 => Nat.le_refl _
  | m + 1 => by unfold unl; have := unl_new n (m := m); split <;> omega
section
variable {P : Program} {ops : Array Oper} {Q : Exit → Act → World → Prop} {Φ : Nat → Value → World → Prop} {a0 : Act} {B : World}
/-- What an operation may lean on: the memory, the slots that no operation writes, what it waits for. -/
structure SInv (ops : Array Oper) (a0 : Act) (B : World) (a : Act) (w : World) : Prop where
  defers : a.defers = a0.defers
  tsize : a.tmps.size = a0.tmps.size
  below : Below B.heap.size B w
  rest : ∀ d, ((List.range ops.size).all fun j => ((ops[j]?).bind (·.dst)) != some d) = true → a.tmps.getD d undef = a0.tmps.getD d undef
structure RInv (ops : Array Oper) (Φ : Nat → Value → World → Prop) (a0 : Act) (B : World) (listed : Array Bool) (a : Act) (w : World) : Prop where
  s : SInv ops a0 B a w
  size : listed.size = ops.size
  facts : ∀ j o d, ops[j]? = some o → o.dst = some d → listed.getD j false = true → Φ j (a.tmps.getD d undef) w
/-- One operation. -/
def opM (P : Program) (ops : Array Oper) (Q : Exit → Act → World → Prop) (Φ : Nat → Value → World → Prop) (a0 : Act) (B : World) (i : Nat) (o : Oper) : Prop :=
  ∀ a w, SInv ops a0 B a w → (∀ j, (o.after.any fun e => e.on == j && Region.binds .any e) = true → ∀ o' d, ops[j]? = some o' → o'.dst = some d → Φ j (a.tmps.getD d undef) w) →
    if Region.wanted o (yielded ops a.tmps) then ∀ K : Act → World → Prop, (∀ v w', Below w.heap.size w w' → Φ i v w' → K (a.put o.dst v) w') → o.wp P a w K Q else Φ i undef w
def AllM (P : Program) (ops : Array Oper) (Q : Exit → Act → World → Prop) (Φ : Nat → Value → World → Prop) (a0 : Act) (B : World) : Nat → List Oper → Prop
  | _, [] => True
  | i, o :: os => opM P ops Q Φ a0 B i o ∧ AllM P ops Q Φ a0 B (i + 1) os
theorem allM_at (l : List Oper) : ∀ (i : Nat), AllM P ops Q Φ a0 B i l → ∀ k o, l[k]? = some o → opM P ops Q Φ a0 B (i + k) o := by
  induction l with
  | nil => intro i h k o hk; simp at hk
  | cons o os ih =>
    intro i h k o' hk
    cases k with
    | zero =>
      simp only [List.getElem?_cons_zero, Option.some.injEq] at hk
      subst hk
      rw [Nat.add_zero]
      exact h.1
    | succ k =>
      have h3 := ih (i + 1) h.2 k o' (by simpa using hk)
      rw [show i + (k + 1) = i + 1 + k by omega]
      exact h3
def shapeB (ops : Array Oper) (n : Nat) : Bool :=
  (List.range ops.size).all fun i => match ops[i]? with
    | none => true
    | some o => o.after.all (fun e => !Region.binds .any e || decide (e.on < i)) && (match o.dst with
      | none => true
      | some d => decide (d < n) && (List.range ops.size).all fun j => j == i || ((ops[j]?).bind (·.dst)) != some d)
theorem shape_spec {n : Nat} (h : shapeB ops n = true) {i : Nat} {o : Oper} (hi : ops[i]? = some o) :
    (∀ e ∈ o.after, Region.binds .any e = true → e.on < i) ∧ ∀ d, o.dst = some d → d < n ∧ ∀ j oj, ops[j]? = some oj → oj.dst = some d → j = i := by
  have hlt : i < ops.size := (Array.getElem?_eq_some_iff.1 hi).1
  have h1 := List.all_eq_true.1 h i (List.mem_range.2 hlt)
  simp only [hi, Bool.and_eq_true] at h1
  obtain ⟨h1, h2⟩ := h1
  refine ⟨fun e he hb => ?_, fun d hd => ?_⟩
  · have := (Array.all_eq_true_iff_forall_mem.1 h1) e he
    rw [hb] at this
    simpa using this
  · rw [hd] at h2
    simp only [Bool.and_eq_true, decide_eq_true_eq] at h2
    refine ⟨h2.1, fun j oj hj hdj => ?_⟩
    have h3 := List.all_eq_true.1 h2.2 j (List.mem_range.2 (Array.getElem?_eq_some_iff.1 hj).1)
    simp only [hj, Option.bind_some, hdj, Bool.or_eq_true, beq_iff_eq, bne_self_eq_false, Bool.false_eq_true, or_false] at h3
    exact h3
theorem getD_put_same {a : Act} {d : Tmp} {v : Value} (h : d < a.tmps.size) : (a.put (some d) v).tmps.getD d undef = v := by
  simp [Act.put, h]
theorem getD_put_other {a : Act} {o : Option Tmp} {d : Tmp} {v : Value} (h : o ≠ some d) : (a.put o v).tmps.getD d undef = a.tmps.getD d undef := by
  cases o with
  | none => rfl
  | some d' =>
    have : d' ≠ d := fun e => h (by rw [e])
    simp [Act.put, Array.getElem?_setIfInBounds_ne this]
theorem RInv.step (hm : ∀ i v w w', Φ i v w → Below w.heap.size w w' → Φ i v w') (hs : shapeB ops a0.tmps.size = true) {listed : Array Bool} {a : Act} {w w' : World} {i : Nat} {o : Oper} {v : Value} (h : RInv ops Φ a0 B listed a w) (hi : ops[i]? = some o) (hb : Below w.heap.size w w') (hv : Φ i v w') :
    RInv ops Φ a0 B (listed.setIfInBounds i true) (a.put o.dst v) w' := by
  have hsp := (shape_spec hs hi).2
  refine ⟨⟨?_, ?_, h.s.below.trans (hb.mono h.s.below.size), fun d hd => ?_⟩, by simp [h.size], fun j oj d hj hdj hl => ?_⟩
  · cases ho : o.dst <;> simp [Act.put, h.s.defers]
  · cases ho : o.dst <;> simp [Act.put, h.s.tsize]
  · have hne : o.dst ≠ some d := by
      have := List.all_eq_true.1 hd i (List.mem_range.2 (Array.getElem?_eq_some_iff.1 hi).1)
      simpa [hi] using this
    rw [getD_put_other hne]
    exact h.s.rest d hd
  · by_cases e : j = i
    · subst e
      obtain rfl : oj = o := Option.some.inj (hj.symm.trans hi)
      rw [hdj, getD_put_same (by rw [h.s.tsize]; exact (hsp d hdj).1)]
      exact hv
    · have hne : o.dst ≠ some d := fun h' => e ((hsp d h').2 j oj hj hdj)
      rw [getD_put_other hne]
      rw [getD_set_ne false (Ne.symm e)] at hl
      exact hm _ _ _ _ (h.facts j oj d hj hdj hl) hb
theorem wpAny_M (hm : ∀ i v w w', Φ i v w → Below w.heap.size w w' → Φ i v w') (hs : shapeB ops a0.tmps.size = true) (hop : AllM P ops Q Φ a0 B 0 ops.toList)
    (hend : ∀ a w, SInv ops a0 B a w → (∀ j o d, ops[j]? = some o → o.dst = some d → Φ j (a.tmps.getD d undef) w) → Q .normal a w) :
    ∀ (fuel : Nat) (listed : Array Bool) (a : Act) (w : World), RInv ops Φ a0 B listed a w → unl listed ops.size ≤ fuel → wpAny P .any ops Q fuel listed a w := by
  have done : ∀ (listed : Array Bool) (a : Act) (w : World), RInv ops Φ a0 B listed a w → (∀ j, j < ops.size → listed.getD j false = true) → Q .normal a w := fun listed a w h hall =>
    hend a w h.s (fun j o d hj hd => h.facts j o d hj hd (hall j (Array.getElem?_eq_some_iff.1 hj).1))
  intro fuel
  induction fuel with
  | zero =>
    intro listed a w h hf
    have hall := unl_zero (n := ops.size) (Nat.le_zero.1 hf)
    refine ⟨?_, done listed a w h hall⟩
    rw [List.eq_nil_iff_forall_not_mem]
    intro j hj
    obtain ⟨hu, o, ho, _⟩ := mem_ready.1 hj
    have := hall j (Array.getElem?_eq_some_iff.1 ho).1
    rw [getD_both hu] at this; cases this
  | succ fuel ih =>
    intro listed a w h hf
    refine ⟨fun hre => done listed a w h ?_, fun i hi => ?_⟩
    · intro j
      induction j using Nat.strongRecOn with
      | ind j ihj =>
        intro hj
        cases hl : listed.getD j false
        · obtain ⟨o, ho⟩ : ∃ o, ops[j]? = some o := ⟨_, Array.getElem?_eq_getElem hj⟩
          have : j ∈ Region.ready .any ops listed := mem_ready.2 ⟨getD_in (by rw [h.size]; exact hj) hl, o, ho, fun e he hb => ihj e.on ((shape_spec hs ho).1 e he hb) (by have := (shape_spec hs ho).1 e he hb; omega)⟩
          rw [hre] at this; cases this
        · rfl
    · obtain ⟨hu, o, ho, hall⟩ := mem_ready.1 hi
      have hlt : i < ops.size := (Array.getElem?_eq_some_iff.1 ho).1
      have hcount := unl_set (l := listed) (i := i) (by rw [h.size]; exact hlt) (getD_both hu) (n := ops.size) hlt
      have hq : opM P ops Q Φ a0 B i o := by
        have := allM_at ops.toList 0 hop i o (by rw [Array.getElem?_toList]; exact ho)
        rwa [Nat.zero_add] at this
      have hq := hq a w h.s (fun j hj o' d ho' hd => h.facts j o' d ho' hd (by
        obtain ⟨n, hn, hb⟩ := Array.any_eq_true.1 hj
        simp only [Bool.and_eq_true, beq_iff_eq] at hb
        rw [← hb.1]
        exact hall _ (Array.getElem_mem hn) hb.2))
      unfold wpOp
      simp only [ho]
      split
      · rename_i hw
        rw [if_pos hw] at hq
        exact .inl (hq _ (fun v w' hb hv => ih _ _ _ (h.step hm hs ho hb hv) (by omega)))
      · rename_i hw
        rw [if_neg hw] at hq
        exact ih _ _ _ (h.step hm hs ho (Below.refl _ _) hq) (by omega)
/-- What an operation waits for. -/
def Deps (ops : Array Oper) (Φ : Nat → Value → World → Prop) (o : Oper) (a : Act) (w : World) : Prop :=
  ∀ j, (o.after.any fun e => e.on == j && Region.binds .any e) = true → ∀ o' d, ops[j]? = some o' → o'.dst = some d → Φ j (a.tmps.getD d undef) w
theorem opM_do {i : Nat} {o : Oper} (hg : o.guard = none) (h : ∀ a w, SInv ops a0 B a w → Deps ops Φ o a w → ∀ K : Act → World → Prop, (∀ v w', Below w.heap.size w w' → Φ i v w' → K (a.put o.dst v) w') → o.wp P a w K Q) : opM P ops Q Φ a0 B i o := by
  intro a w hS hf
  rw [if_pos (by unfold Region.wanted; rw [hg])]
  exact h a w hS hf
theorem wanted_slot {o og : Oper} {g G : Nat} {want b : Bool} {a : Act} (hg : o.guard = some (g, want)) (ho : ops[g]? = some og) (hd : og.dst = some G) (hs : a.tmps.getD G undef = .bool b) : Region.wanted o (yielded ops a.tmps) = (b == want) := by
  have hlt : a.tmps[G]? = some (.bool b) := by
    rw [Array.getD_eq_getD_getElem?] at hs
    cases h : a.tmps[G]? with
    | none => rw [h] at hs; cases hs
    | some v => rw [h] at hs; exact congrArg some hs
  unfold Region.wanted yielded
  simp only [hg, ho, Option.bind_some, hd, hlt]
  cases b <;> cases want <;> rfl
theorem opM_yes {i g G : Nat} {o og : Oper} {b : Bool} (hg : o.guard = some (g, b)) (ho : ops[g]? = some og) (hd : og.dst = some G) (hdep : (o.after.any fun e => e.on == g && Region.binds .any e) = true) (hΦ : ∀ v w, Φ g v w → v = .bool b)
    (h : ∀ a w, SInv ops a0 B a w → Deps ops Φ o a w → ∀ K : Act → World → Prop, (∀ v w', Below w.heap.size w w' → Φ i v w' → K (a.put o.dst v) w') → o.wp P a w K Q) : opM P ops Q Φ a0 B i o := by
  intro a w hS hf
  have hs := hΦ _ _ (hf g hdep og G ho hd)
  rw [if_pos (by rw [wanted_slot hg ho hd hs]; cases b <;> rfl)]
  exact h a w hS hf
theorem opM_no {i g G : Nat} {o og : Oper} {b : Bool} (hg : o.guard = some (g, b)) (ho : ops[g]? = some og) (hd : og.dst = some G) (hdep : (o.after.any fun e => e.on == g && Region.binds .any e) = true) (hΦ : ∀ v w, Φ g v w → v = .bool (!b))
    (h : ∀ w, Φ i undef w) : opM P ops Q Φ a0 B i o := by
  intro a w hS hf
  have hs := hΦ _ _ (hf g hdep og G ho hd)
  rw [if_neg (by rw [wanted_slot hg ho hd hs]; cases b <;> simp)]
  exact h w
/-- THE REGION. -/
theorem wp_region_M {id : Nat} {w : World} (Φ : Nat → Value → World → Prop) (hmix : P.follows .mixedOrders = true) (hm : ∀ i v w w', Φ i v w → Below w.heap.size w w' → Φ i v w') (hs : shapeB ops a0.tmps.size = true)
    (hop : AllM P ops Q Φ a0 w.drew 0 ops.toList)
    (hend : ∀ a w', SInv ops a0 w.drew a w' → (∀ j o d, ops[j]? = some o → o.dst = some d → Φ j (a.tmps.getD d undef) w') → Q .normal a w') : (Code.region id ops true).wp P Q a0 w := by
  refine wp_region_any hmix ?_
  refine wpAny_M (B := w.drew) hm hs hop hend _ _ _ _ ⟨⟨rfl, rfl, Below.refl _ _, fun _ _ => rfl⟩, by simp, fun j o d hj hd hl => ?_⟩ (unl_new _)
  rw [getD_replicate_false] at hl; cases hl
/-! ### A region with a last operation, which all others lead to: it may write -/
/-- Each but the last is waited for by a later one. -/
def sinkB (ops : Array Oper) (m : Nat) : Bool :=
  decide (ops.size = m + 1) && (List.range m).all fun j => (List.range (m + 1)).any fun k => decide (j < k) && ((ops[k]?).map fun o => o.after.any fun e => e.on == j && Region.binds .any e).getD false
theorem sink_all {m : Nat} (h : sinkB ops m = true) {listed : Array Bool} {ol : Oper} (hl : ops[m]? = some ol) (hready : ∀ e ∈ ol.after, Region.binds .any e = true → listed.getD e.on false = true)
    (hcl : ∀ (j : Nat) oj, ops[j]? = some oj → listed.getD j false = true → ∀ e ∈ oj.after, Region.binds .any e = true → listed.getD e.on false = true) : ∀ (d j : Nat), j + d = m → 0 < d → listed.getD j false = true := by
  simp only [sinkB, Bool.and_eq_true, decide_eq_true_eq] at h
  obtain ⟨_, h⟩ := h
  intro d
  induction d using Nat.strongRecOn with
  | ind d ih =>
    intro j hj hd
    obtain ⟨k, hk, h2⟩ := List.any_eq_true.1 (List.all_eq_true.1 h j (List.mem_range.2 (by omega)))
    simp only [Bool.and_eq_true, decide_eq_true_eq] at h2
    obtain ⟨hjk, h3⟩ := h2
    have hk := List.mem_range.1 hk
    cases ho : ops[k]? with
    | none => rw [ho] at h3; cases h3
    | some o =>
      rw [ho] at h3
      obtain ⟨n, hn, hb⟩ := Array.any_eq_true.1 (show (o.after.any fun e => e.on == j && Region.binds .any e) = true from h3)
      simp only [Bool.and_eq_true, beq_iff_eq] at hb
      rw [← hb.1]
      by_cases e : k = m
      · subst e
        obtain rfl : ol = o := Option.some.inj (hl.symm.trans ho)
        exact hready _ (Array.getElem_mem hn) hb.2
      · exact hcl k o ho (ih (m - k) (by omega) k (by omega) (by omega)) _ (Array.getElem_mem hn) hb.2
theorem wpAny_all {listed : Array Bool} {a : Act} {w : World} (hall : ∀ j, j < ops.size → listed.getD j false = true) (hQ : Q .normal a w) : ∀ fuel, wpAny P .any ops Q fuel listed a w := by
  have hre : Region.ready .any ops listed = [] := by
    rw [List.eq_nil_iff_forall_not_mem]
    intro j hj
    obtain ⟨hu, o, ho, _⟩ := mem_ready.1 hj
    have := hall j (Array.getElem?_eq_some_iff.1 ho).1
    rw [getD_both hu] at this; cases this
  intro fuel
  cases fuel with
  | zero => exact ⟨hre, hQ⟩
  | succ f => exact ⟨fun _ => hQ, fun i hi => by rw [hre] at hi; cases hi⟩
theorem wpAny_ML {m : Nat} {ol : Oper} (hm : ∀ i v w w', Φ i v w → Below w.heap.size w w' → Φ i v w') (hs : shapeB ops a0.tmps.size = true) (hsk : sinkB ops m = true) (hol : ops[m]? = some ol) (hg : ol.guard = none) (hop : AllM P ops Q Φ a0 B 0 (ops.toList.take m))
    (hend : ∀ a w, SInv ops a0 B a w → (∀ j o d, j < m → ops[j]? = some o → o.dst = some d → Φ j (a.tmps.getD d undef) w) → ol.wp P a w (fun a' w' => Q .normal a' w') Q) :
    ∀ (fuel : Nat) (listed : Array Bool) (a : Act) (w : World), RInv ops Φ a0 B listed a w → (∀ (j : Nat) oj, ops[j]? = some oj → listed.getD j false = true → ∀ e ∈ oj.after, Region.binds .any e = true → listed.getD e.on false = true) →
      listed.getD m false = false → unl listed ops.size ≤ fuel → wpAny P .any ops Q fuel listed a w := by
  have hsz : ops.size = m + 1 := by
    simp only [sinkB, Bool.and_eq_true, decide_eq_true_eq] at hsk
    exact hsk.1
  intro fuel
  induction fuel with
  | zero =>
    intro listed a w h hcl hlm hf
    have := unl_zero (n := ops.size) (Nat.le_zero.1 hf) m (by omega)
    rw [this] at hlm; cases hlm
  | succ fuel ih =>
    intro listed a w h hcl hlm hf
    refine ⟨fun hre => ?_, fun i hi => ?_⟩
    · exfalso
      have hall : ∀ j, j < ops.size → listed.getD j false = true := by
        intro j
        induction j using Nat.strongRecOn with
        | ind j ihj =>
          intro hj
          cases hl : listed.getD j false
          · obtain ⟨o, ho⟩ : ∃ o, ops[j]? = some o := ⟨_, Array.getElem?_eq_getElem hj⟩
            have : j ∈ Region.ready .any ops listed := mem_ready.2 ⟨getD_in (by rw [h.size]; exact hj) hl, o, ho, fun e he hb => ihj e.on ((shape_spec hs ho).1 e he hb) (by have := (shape_spec hs ho).1 e he hb; omega)⟩
            rw [hre] at this; cases this
          · rfl
      rw [hall m (by omega)] at hlm; cases hlm
    · obtain ⟨hu, o, ho, hall⟩ := mem_ready.1 hi
      have hlt : i < ops.size := (Array.getElem?_eq_some_iff.1 ho).1
      by_cases e : i = m
      · subst e
        obtain rfl : ol = o := Option.some.inj (hol.symm.trans ho)
        have hoth := sink_all hsk hol hall hcl
        unfold wpOp
        simp only [ho]
        rw [if_pos (by unfold Region.wanted; rw [hg])]
        refine .inl (Oper.wp_mono (fun a' w' hq => ?_) (hend a w h.s (fun j o' d hj ho' hd => h.facts j o' d ho' hd (hoth (i - j) j (by omega) (by omega)))))
        refine wpAny_all (fun j hj => ?_) hq fuel
        by_cases e2 : j = i
        · subst e2
          simp [h.size, hlt]
        · exact getD_set_true (hoth (i - j) j (by omega) (by omega))
      · have hcount := unl_set (l := listed) (i := i) (by rw [h.size]; exact hlt) (getD_both hu) (n := ops.size) hlt
        have hq : opM P ops Q Φ a0 B i o := by
          have := allM_at (ops.toList.take m) 0 hop i o (by rw [List.getElem?_take, if_pos (by omega), Array.getElem?_toList]; exact ho)
          rwa [Nat.zero_add] at this
        have hq := hq a w h.s (fun j hj o' d ho' hd => h.facts j o' d ho' hd (by
          obtain ⟨n, hn, hb⟩ := Array.any_eq_true.1 hj
          simp only [Bool.and_eq_true, beq_iff_eq] at hb
          rw [← hb.1]
          exact hall _ (Array.getElem_mem hn) hb.2))
        have hcl' : ∀ (j : Nat) oj, ops[j]? = some oj → (listed.setIfInBounds i true).getD j false = true → ∀ e ∈ oj.after, Region.binds .any e = true → (listed.setIfInBounds i true).getD e.on false = true := fun j oj hj hl e he hb => by
          by_cases hij : i = j
          · subst hij
            obtain rfl : oj = o := Option.some.inj (hj.symm.trans ho)
            exact getD_set_true (hall e he hb)
          · rw [getD_set_ne false hij] at hl
            exact getD_set_true (hcl j oj hj hl e he hb)
        have hlm' : (listed.setIfInBounds i true).getD m false = false := by rw [getD_set_ne false e]; exact hlm
        unfold wpOp
        simp only [ho]
        split
        · rename_i hw
          rw [if_pos hw] at hq
          exact .inl (hq _ (fun v w' hb hv => ih _ _ _ (h.step hm hs ho hb hv) hcl' hlm' (by omega)))
        · rename_i hw
          rw [if_neg hw] at hq
          exact ih _ _ _ (h.step hm hs ho (Below.refl _ _) hq) hcl' hlm' (by omega)
/-- The slots behind the operations, in the order of the list. -/
def putsL (vs : Nat → Value) : Nat → List Oper → Array Value → Array Value
  | _, [], t => t
  | i, o :: os, t => putsL vs (i + 1) os (match o.dst with | some d => t.setIfInBounds d (vs i) | none => t)
theorem putsL_size {vs : Nat → Value} : ∀ {l : List Oper} {i : Nat} {t : Array Value}, (putsL vs i l t).size = t.size
  | [], _, _ => rfl
  | o :: os, i, t => by
    unfold putsL
    rw [putsL_size]
    cases o.dst <;> simp
theorem putsL_out {vs : Nat → Value} {d : Nat} : ∀ {l : List Oper} {i : Nat} {t : Array Value}, (∀ o ∈ l, o.dst ≠ some d) → (putsL vs i l t).getD d undef = t.getD d undef
  | [], _, _, _ => rfl
  | o :: os, i, t, h => by
    unfold putsL
    rw [putsL_out (fun o' ho' => h o' (List.mem_cons_of_mem _ ho'))]
    have := h o (List.mem_cons_self ..)
    cases ho : o.dst with
    | none => rfl
    | some d' =>
      have hne : d' ≠ d := fun e => this (by rw [ho, e])
      simp [Array.getElem?_setIfInBounds_ne hne]
theorem putsL_in {vs : Nat → Value} {d : Nat} (l : List Oper) : ∀ {i k : Nat} {o : Oper} {t : Array Value}, l[k]? = some o → o.dst = some d → d < t.size → (∀ k' o', l[k']? = some o' → o'.dst = some d → k' = k) → (putsL vs i l t).getD d undef = vs (i + k) := by
  induction l with
  | nil => intro i k o t hk; simp at hk
  | cons o os ih =>
    intro i k o' t hk hd hlt hu
    cases k with
    | zero =>
      simp only [List.getElem?_cons_zero, Option.some.injEq] at hk
      subst hk
      unfold putsL
      rw [putsL_out (fun o' ho' e => ?_), hd, Nat.add_zero]
      · simp [hlt]
      · obtain ⟨n, hn⟩ := List.getElem?_of_mem ho'
        have := hu (n + 1) o' (by simpa using hn) e
        omega
    | succ k =>
      unfold putsL
      have h3 := ih (i := i + 1) (k := k) (o := o') (t := match o.dst with | some d => t.setIfInBounds d (vs i) | none => t) (by simpa using hk) hd (by cases o.dst <;> simp [hlt]) (fun k' o2 h1 h2 => by have := hu (k' + 1) o2 (by simpa using h1) h2; omega)
      rw [h3, show i + 1 + k = i + (k + 1) by omega]
/-- THE REGION with a last operation: the slots in one form. -/
theorem wp_region_ML {id m : Nat} {w : World} {ol : Oper} (Φ : Nat → Value → World → Prop) (hmix : P.follows .mixedOrders = true) (hm : ∀ i v w w', Φ i v w → Below w.heap.size w w' → Φ i v w') (hs : shapeB ops a0.tmps.size = true) (hsk : sinkB ops m = true) (hol : ops[m]? = some ol) (hg : ol.guard = none) (hld : ol.dst = none)
    (hop : AllM P ops Q Φ a0 w.drew 0 (ops.toList.take m))
    (hend : ∀ (vs : Nat → Value) (a : Act) w', Below w.drew.heap.size w.drew w' → (∀ j, j < m → ((ops[j]?).bind (·.dst)).isSome = true → Φ j (vs j) w') → a = ⟨putsL vs 0 (ops.toList.take m) a0.tmps, a0.defers⟩ → ol.wp P a w' (fun a' w' => Q .normal a' w') Q) : (Code.region id ops true).wp P Q a0 w := by
  refine wp_region_any hmix ?_
  have hsz : ops.size = m + 1 := by
    simp only [sinkB, Bool.and_eq_true, decide_eq_true_eq] at hsk
    exact hsk.1
  refine wpAny_ML (B := w.drew) hm hs hsk hol hg hop (fun a w' hS hF => ?_) _ _ _ _ ⟨⟨rfl, rfl, Below.refl _ _, fun _ _ => rfl⟩, by simp, fun j o d hj hd hl => ?_⟩ (fun j oj hj hl => ?_) (getD_replicate_false _ _) (unl_new _)
  · refine hend (fun j => a.tmps.getD (((ops[j]?).bind (·.dst)).getD 0) undef) a w' hS.below (fun j hj hj2 => ?_) ?_
    · cases ho : ops[j]? with
      | none => rw [ho] at hj2; cases hj2
      | some o =>
        rw [ho] at hj2
        cases hd : o.dst with
        | none => rw [Option.bind_some, hd] at hj2; cases hj2
        | some d =>
          simp only [Option.bind_some, hd, Option.getD_some]
          exact hF j o d hj ho hd
    · obtain ⟨tm, df⟩ := a
      have hdf := hS.defers
      simp only at hdf
      subst hdf
      congr 1
      refine Array.ext (by rw [putsL_size]; exact hS.tsize) (fun d h1 h2 => ?_)
      have key : tm.getD d undef = (putsL (fun j => tm.getD (((ops[j]?).bind (·.dst)).getD 0) undef) 0 (ops.toList.take m) a0.tmps).getD d undef := by
        by_cases hx : ∃ (k : Nat) (o : Oper), (ops.toList.take m)[k]? = some o ∧ o.dst = some d
        · obtain ⟨k, o, hk, hd⟩ := hx
          have hk2 : ops[k]? = some o := by
            rw [List.getElem?_take] at hk
            split at hk
            · rw [← Array.getElem?_toList]; exact hk
            · cases hk
          rw [putsL_in _ hk hd (((shape_spec hs hk2).2 d hd).1) (fun k' o' h1 h2 => ?_), Nat.zero_add]
          · simp only [hk2, Option.bind_some, hd, Option.getD_some]
          · refine ((shape_spec hs hk2).2 d hd).2 k' o' ?_ h2
            rw [List.getElem?_take] at h1
            split at h1
            · rw [← Array.getElem?_toList]; exact h1
            · cases h1
        · rw [putsL_out (fun o ho e => hx (by obtain ⟨n, hn⟩ := List.getElem?_of_mem ho; exact ⟨n, o, hn, e⟩))]
          refine hS.rest d ?_
          rw [List.all_eq_true]
          intro j hj
          have hj := List.mem_range.1 hj
          cases ho : ops[j]? with
          | none => rfl
          | some o =>
            simp only [Option.bind_some, bne_iff_ne, ne_eq]
            intro e
            by_cases e2 : j = m
            · subst e2
              obtain rfl : ol = o := Option.some.inj (hol.symm.trans ho)
              rw [hld] at e; cases e
            · exact hx ⟨j, o, by rw [List.getElem?_take, if_pos (by omega), Array.getElem?_toList]; exact ho, e⟩
      rw [Array.getD_eq_getD_getElem?, Array.getElem?_eq_getElem h1, Array.getD_eq_getD_getElem?, Array.getElem?_eq_getElem h2] at key
      exact key
  · rw [getD_replicate_false] at hl; cases hl
  · rw [getD_replicate_false] at hl; cases hl
end
end Go.Proofs.Ytopgegciejmhaaa

/-
  A region that draws its order and stores once in its midst: what is behind the store, or may be, only moves slots.
-/
namespace Go.Proofs.Ytopgegciejmhaaa
open Go.RowKit
set_option linter.unusedVariables false
/-- The store waits for it. -/
def swaitB (ops : Array Oper) (m i : Nat) : Bool := ((ops[m]?).map fun o => o.after.any fun e => e.on == i && Region.binds .any e).getD false
/-- Each operation but the store is late, or waited for by the store; what stands behind the store in the list waits for it. -/
def lateB (ops : Array Oper) (m : Nat) (late : List Nat) : Bool :=
  (List.range ops.size).all fun i => (i == m || late.contains i || swaitB ops m i) && (decide (i ≤ m) || ((ops[i]?).map fun o => o.after.any fun e => e.on == m && Region.binds .any e).getD false)
section
variable {P : Program} {ops : Array Oper} {Q : Exit → Act → World → Prop} {Φ : Nat → Value → World → Prop} {Ψ : Value → Value → World → World → Prop} {a0 : Act} {B : World}
/-- An operation that only moves slots: also behind the store. -/
def opP (P : Program) (ops : Array Oper) (Q : Exit → Act → World → Prop) (Φ : Nat → Value → World → Prop) (i : Nat) : Prop :=
  ∀ o, ops[i]? = some o → o.guard = none ∧ ∀ a w1 w2, Deps ops Φ o a w1 → ∀ K : Act → World → Prop, (∀ v, Φ i v w1 → K (a.put o.dst v) w2) → o.wp P a w2 K Q
def AllP (P : Program) (ops : Array Oper) (Q : Exit → Act → World → Prop) (Φ : Nat → Value → World → Prop) : List Nat → Prop
  | [] => True
  | i :: is => opP P ops Q Φ i ∧ AllP P ops Q Φ is
theorem allP_at : ∀ {l : List Nat}, AllP P ops Q Φ l → ∀ i, i ∈ l → opP P ops Q Φ i
  | [], _, i, hi => by cases hi
  | j :: js, h, i, hi => by
    rcases List.mem_cons.1 hi with e | e
    · rw [e]; exact h.1
    · exact allP_at h.2 i e
theorem opP_do {i : Nat} {o : Oper} (ho : ops[i]? = some o) (hg : o.guard = none) (h : ∀ a w1 w2, Deps ops Φ o a w1 → ∀ K : Act → World → Prop, (∀ v, Φ i v w1 → K (a.put o.dst v) w2) → o.wp P a w2 K Q) : opP P ops Q Φ i := by
  intro o' ho'
  obtain rfl : o = o' := Option.some.inj (ho.symm.trans ho')
  exact ⟨hg, h⟩
theorem wpAny_MS {m jp jv dp dv : Nat} {late : List Nat} {ol : Oper} (hm : ∀ i v w w', Φ i v w → Below w.heap.size w w' → Φ i v w') (hs : shapeB ops a0.tmps.size = true) (hlt : lateB ops m late = true) (hol : ops[m]? = some ol) (hg : ol.guard = none) (hld : ol.dst = none)
    (hjp : (ops[jp]?).bind (·.dst) = some dp) (hjv : (ops[jv]?).bind (·.dst) = some dv) (hsp : swaitB ops m jp = true) (hsv : swaitB ops m jv = true)
    (hop : AllM P ops Q Φ a0 B 0 (ops.toList.take m)) (hpu : AllP P ops Q Φ late)
    (hst : ∀ a w1, SInv ops a0 B a w1 → Φ jp (a.tmps.getD dp undef) w1 → Φ jv (a.tmps.getD dv undef) w1 → ∀ K : Act → World → Prop, (∀ w2, Ψ (a.tmps.getD dp undef) (a.tmps.getD dv undef) w1 w2 → K a w2) → ol.wp P a w1 K Q)
    (hend : ∀ a w1 w2, SInv ops a0 B a w1 → (∀ j o d, ops[j]? = some o → o.dst = some d → Φ j (a.tmps.getD d undef) w1) → Ψ (a.tmps.getD dp undef) (a.tmps.getD dv undef) w1 w2 → Q .normal a w2) :
    ∀ (fuel : Nat) (listed : Array Bool) (a : Act) (w : World), unl listed ops.size ≤ fuel →
      ((RInv ops Φ a0 B listed a w ∧ listed.getD m false = false) ∨
       ∃ w1, RInv ops Φ a0 B listed a w1 ∧ Ψ (a.tmps.getD dp undef) (a.tmps.getD dv undef) w1 w ∧ listed.getD m false = true ∧ ∀ i, swaitB ops m i = true → listed.getD i false = true) →
      wpAny P .any ops Q fuel listed a w := by
  have hmlt : m < ops.size := (Array.getElem?_eq_some_iff.1 hol).1
  have hlate := fun i (hi : i < ops.size) => by
    have := List.all_eq_true.1 hlt i (List.mem_range.2 hi)
    simpa only [Bool.and_eq_true, Bool.or_eq_true, beq_iff_eq, decide_eq_true_eq] using this
  have fin : ∀ (listed : Array Bool) (a : Act) (w : World), (∀ j, j < ops.size → listed.getD j false = true) →
      ((RInv ops Φ a0 B listed a w ∧ listed.getD m false = false) ∨
       ∃ w1, RInv ops Φ a0 B listed a w1 ∧ Ψ (a.tmps.getD dp undef) (a.tmps.getD dv undef) w1 w ∧ listed.getD m false = true ∧ ∀ i, swaitB ops m i = true → listed.getD i false = true) → Q .normal a w := by
    intro listed a w hall h
    rcases h with ⟨_, h⟩ | ⟨w1, h, hΨ, _, _⟩
    · rw [hall m hmlt] at h; cases h
    · exact hend a w1 w h.s (fun j o d hj hd => h.facts j o d hj hd (hall j (Array.getElem?_eq_some_iff.1 hj).1)) hΨ
  intro fuel
  induction fuel with
  | zero =>
    intro listed a w hf h
    have hall := unl_zero (n := ops.size) (Nat.le_zero.1 hf)
    exact wpAny_all hall (fin listed a w hall h) 0
  | succ fuel ih =>
    intro listed a w hf h
    have hsz : listed.size = ops.size := by
      rcases h with ⟨h, _⟩ | ⟨w1, h, _⟩
      · exact h.size
      · exact h.size
    refine ⟨fun hre => fin listed a w ?_ h, fun i hi => ?_⟩
    · intro j
      induction j using Nat.strongRecOn with
      | ind j ihj =>
        intro hj
        cases hl : listed.getD j false
        · obtain ⟨o, ho⟩ : ∃ o, ops[j]? = some o := ⟨_, Array.getElem?_eq_getElem hj⟩
          have : j ∈ Region.ready .any ops listed := mem_ready.2 ⟨getD_in (by rw [hsz]; exact hj) hl, o, ho, fun e he hb => ihj e.on ((shape_spec hs ho).1 e he hb) (by have := (shape_spec hs ho).1 e he hb; omega)⟩
          rw [hre] at this; cases this
        · rfl
    · obtain ⟨hu, o, ho, hall⟩ := mem_ready.1 hi
      have hilt : i < ops.size := (Array.getElem?_eq_some_iff.1 ho).1
      have hui := getD_both hu
      have hcount := unl_set (l := listed) (i := i) (by rw [hsz]; exact hilt) hui (n := ops.size) hilt
      have deps : ∀ w1, RInv ops Φ a0 B listed a w1 → Deps ops Φ o a w1 := fun w1 h j hj o' d ho' hd => h.facts j o' d ho' hd (by
        obtain ⟨n, hn, hb⟩ := Array.any_eq_true.1 hj
        simp only [Bool.and_eq_true, beq_iff_eq] at hb
        rw [← hb.1]
        exact hall _ (Array.getElem_mem hn) hb.2)
      rcases h with ⟨h, hlm⟩ | ⟨w1, h, hΨ, hlm, hsw⟩
      · by_cases e : i = m
        · subst e
          obtain rfl : ol = o := Option.some.inj (hol.symm.trans ho)
          have hsw : ∀ j, swaitB ops i j = true → listed.getD j false = true := fun j hj => by
            unfold swaitB at hj
            rw [hol] at hj
            obtain ⟨n, hn, hb⟩ := Array.any_eq_true.1 (show (ol.after.any fun e => e.on == j && Region.binds .any e) = true from hj)
            simp only [Bool.and_eq_true, beq_iff_eq] at hb
            rw [← hb.1]
            exact hall _ (Array.getElem_mem hn) hb.2
          unfold wpOp
          simp only [ho]
          rw [if_pos (by unfold Region.wanted; rw [hg])]
          have fact : ∀ {j d : Nat}, (ops[j]?).bind (·.dst) = some d → swaitB ops i j = true → Φ j (a.tmps.getD d undef) w := fun {j d} hj hsj => by
            cases hoj : ops[j]? with
            | none => rw [hoj] at hj; cases hj
            | some oj => rw [hoj] at hj; exact h.facts j oj d hoj hj (hsw j hsj)
          refine .inl (hst a w h.s (fact hjp hsp) (fact hjv hsv) _ (fun w2 hΨ => ih _ _ _ (by omega) (.inr ⟨w, ⟨h.s, by simp [h.size], fun j oj d hj hd hl => ?_⟩, hΨ, by simp [hsz, hilt], fun j hj => getD_set_true (hsw j hj)⟩)))
          have hne : i ≠ j := fun e => by
            subst e
            obtain rfl : ol = oj := Option.some.inj (ho.symm.trans hj)
            rw [hld] at hd; cases hd
          rw [getD_set_ne false hne] at hl
          exact h.facts j oj d hj hd hl
        · have hlti : i < m := by
            rcases (hlate i hilt).2 with h1 | h1
            · omega
            · exfalso
              rw [ho] at h1
              obtain ⟨n, hn, hb⟩ := Array.any_eq_true.1 (show (o.after.any fun e => e.on == m && Region.binds .any e) = true from h1)
              simp only [Bool.and_eq_true, beq_iff_eq] at hb
              have := hall _ (Array.getElem_mem hn) hb.2
              rw [hb.1, hlm] at this; cases this
          have hq : opM P ops Q Φ a0 B i o := by
            have := allM_at (ops.toList.take m) 0 hop i o (by rw [List.getElem?_take, if_pos hlti, Array.getElem?_toList]; exact ho)
            rwa [Nat.zero_add] at this
          have hq := hq a w h.s (deps w h)
          have hlm' : (listed.setIfInBounds i true).getD m false = false := by rw [getD_set_ne false e]; exact hlm
          unfold wpOp
          simp only [ho]
          split
          · rename_i hw
            rw [if_pos hw] at hq
            exact .inl (hq _ (fun v w' hb hv => ih _ _ _ (by omega) (.inl ⟨h.step hm hs ho hb hv, hlm'⟩)))
          · rename_i hw
            rw [if_neg hw] at hq
            exact ih _ _ _ (by omega) (.inl ⟨h.step hm hs ho (Below.refl _ _) hq, hlm'⟩)
      · have him : i ≠ m := fun e => by rw [e, hlm] at hui; cases hui
        have hnsw : ∀ j, swaitB ops m j = true → i ≠ j := fun j hj e => by rw [e, hsw j hj] at hui; cases hui
        have hin : i ∈ late := by
          rcases (hlate i hilt).1 with (h1 | h1) | h1
          · exact absurd h1 him
          · simpa using h1
          · exact absurd rfl (hnsw i h1)
        obtain ⟨hgi, hq⟩ := allP_at hpu i hin o ho
        unfold wpOp
        simp only [ho]
        rw [if_pos (by unfold Region.wanted; rw [hgi])]
        have keep : ∀ {j d : Nat} (v : Value), (ops[j]?).bind (·.dst) = some d → swaitB ops m j = true → (a.put o.dst v).tmps.getD d undef = a.tmps.getD d undef := fun {j d} v hj hsj => by
          refine getD_put_other (fun e => ?_)
          cases hoj : ops[j]? with
          | none => rw [hoj] at hj; cases hj
          | some oj =>
            rw [hoj] at hj
            exact hnsw j hsj (((shape_spec hs ho).2 d e).2 j oj hoj hj).symm
        refine .inl (hq a w1 w (deps w1 h) _ (fun v hv => ih _ _ _ (by omega) (.inr ⟨w1, h.step hm hs ho (Below.refl _ _) hv, ?_, getD_set_true hlm, fun j hj => getD_set_true (hsw j hj)⟩)))
        rw [keep v hjp hsp, keep v hjv hsv]
        exact hΨ
/-- THE REGION with a store in its midst: the slots in one form. -/
theorem wp_region_MS {id m jp jv dp dv : Nat} {late : List Nat} {w : World} {ol : Oper} (Φ : Nat → Value → World → Prop) (Ψ : Value → Value → World → World → Prop) (hmix : P.follows .mixedOrders = true) (hm : ∀ i v w w', Φ i v w → Below w.heap.size w w' → Φ i v w') (hs : shapeB ops a0.tmps.size = true) (hlt : lateB ops m late = true) (hol : ops[m]? = some ol) (hg : ol.guard = none) (hld : ol.dst = none)
    (hjp : (ops[jp]?).bind (·.dst) = some dp) (hjv : (ops[jv]?).bind (·.dst) = some dv) (hsp : swaitB ops m jp = true) (hsv : swaitB ops m jv = true)
    (hop : AllM P ops Q Φ a0 w.drew 0 (ops.toList.take m)) (hpu : AllP P ops Q Φ late)
    (hst : ∀ a w1, SInv ops a0 w.drew a w1 → Φ jp (a.tmps.getD dp undef) w1 → Φ jv (a.tmps.getD dv undef) w1 → ∀ K : Act → World → Prop, (∀ w2, Ψ (a.tmps.getD dp undef) (a.tmps.getD dv undef) w1 w2 → K a w2) → ol.wp P a w1 K Q)
    (hend : ∀ (vs : Nat → Value) (a : Act) w1 w2, Below w.drew.heap.size w.drew w1 → (∀ j, j < ops.size → ((ops[j]?).bind (·.dst)).isSome = true → Φ j (vs j) w1) → a = ⟨putsL vs 0 ops.toList a0.tmps, a0.defers⟩ → Ψ (vs jp) (vs jv) w1 w2 → Q .normal a w2) : (Code.region id ops true).wp P Q a0 w := by
  refine wp_region_any hmix ?_
  refine wpAny_MS (B := w.drew) hm hs hlt hol hg hld hjp hjv hsp hsv hop hpu hst (fun a w1 w2 hS hF hΨ => ?_) _ _ _ _ (unl_new _) (.inl ⟨⟨⟨rfl, rfl, Below.refl _ _, fun _ _ => rfl⟩, by simp, fun j o d hj hd hl => ?_⟩, getD_replicate_false _ _⟩)
  · refine hend (fun j => a.tmps.getD (((ops[j]?).bind (·.dst)).getD 0) undef) a w1 w2 hS.below (fun j hj hj2 => ?_) ?_ (by simp only [hjp, hjv, Option.getD_some]; exact hΨ)
    · cases ho : ops[j]? with
      | none => rw [ho] at hj2; cases hj2
      | some o =>
        rw [ho] at hj2
        cases hd : o.dst with
        | none => rw [Option.bind_some, hd] at hj2; cases hj2
        | some d =>
          simp only [Option.bind_some, hd, Option.getD_some]
          exact hF j o d ho hd
    · obtain ⟨tm, df⟩ := a
      have hdf := hS.defers
      simp only at hdf
      subst hdf
      congr 1
      refine Array.ext (by rw [putsL_size]; exact hS.tsize) (fun d h1 h2 => ?_)
      have key : tm.getD d undef = (putsL (fun j => tm.getD (((ops[j]?).bind (·.dst)).getD 0) undef) 0 ops.toList a0.tmps).getD d undef := by
        by_cases hx : ∃ (k : Nat) (o : Oper), ops.toList[k]? = some o ∧ o.dst = some d
        · obtain ⟨k, o, hk, hd⟩ := hx
          have hk2 : ops[k]? = some o := by rw [← Array.getElem?_toList]; exact hk
          rw [putsL_in _ hk hd (((shape_spec hs hk2).2 d hd).1) (fun k' o' h1 h2 => ((shape_spec hs hk2).2 d hd).2 k' o' (by rw [← Array.getElem?_toList]; exact h1) h2), Nat.zero_add]
          simp only [hk2, Option.bind_some, hd, Option.getD_some]
        · rw [putsL_out (fun o ho e => hx (by obtain ⟨n, hn⟩ := List.getElem?_of_mem ho; exact ⟨n, o, hn, e⟩))]
          refine hS.rest d ?_
          rw [List.all_eq_true]
          intro j hj
          cases ho : ops[j]? with
          | none => rfl
          | some o =>
            simp only [Option.bind_some, bne_iff_ne, ne_eq]
            intro e
            exact hx ⟨j, o, by rw [Array.getElem?_toList]; exact ho, e⟩
      rw [Array.getD_eq_getD_getElem?, Array.getElem?_eq_getElem h1, Array.getD_eq_getD_getElem?, Array.getElem?_eq_getElem h2] at key
      exact key
  · rw [getD_replicate_false] at hl; cases hl
/-- THE REGION without a store: the slots in one form. -/
theorem wp_region_MV {id : Nat} {w : World} (Φ : Nat → Value → World → Prop) (hmix : P.follows .mixedOrders = true) (hm : ∀ i v w w', Φ i v w → Below w.heap.size w w' → Φ i v w') (hs : shapeB ops a0.tmps.size = true)
    (hop : AllM P ops Q Φ a0 w.drew 0 ops.toList)
    (hend : ∀ (vs : Nat → Value) (a : Act) w1, Below w.drew.heap.size w.drew w1 → (∀ j, j < ops.size → ((ops[j]?).bind (·.dst)).isSome = true → Φ j (vs j) w1) → a = ⟨putsL vs 0 ops.toList a0.tmps, a0.defers⟩ → Q .normal a w1) : (Code.region id ops true).wp P Q a0 w := by
  refine wp_region_M Φ hmix hm hs hop (fun a w1 hS hF => ?_)
  refine hend (fun j => a.tmps.getD (((ops[j]?).bind (·.dst)).getD 0) undef) a w1 hS.below (fun j hj hj2 => ?_) ?_
  · cases ho : ops[j]? with
    | none => rw [ho] at hj2; cases hj2
    | some o =>
      rw [ho] at hj2
      cases hd : o.dst with
      | none => rw [Option.bind_some, hd] at hj2; cases hj2
      | some d =>
        simp only [Option.bind_some, hd, Option.getD_some]
        exact hF j o d ho hd
  · obtain ⟨tm, df⟩ := a
    have hdf := hS.defers
    simp only at hdf
    subst hdf
    congr 1
    refine Array.ext (by rw [putsL_size]; exact hS.tsize) (fun d h1 h2 => ?_)
    have key : tm.getD d undef = (putsL (fun j => tm.getD (((ops[j]?).bind (·.dst)).getD 0) undef) 0 ops.toList a0.tmps).getD d undef := by
      by_cases hx : ∃ (k : Nat) (o : Oper), ops.toList[k]? = some o ∧ o.dst = some d
      · obtain ⟨k, o, hk, hd⟩ := hx
        have hk2 : ops[k]? = some o := by rw [← Array.getElem?_toList]; exact hk
        rw [putsL_in _ hk hd (((shape_spec hs hk2).2 d hd).1) (fun k' o' h1 h2 => ((shape_spec hs hk2).2 d hd).2 k' o' (by rw [← Array.getElem?_toList]; exact h1) h2), Nat.zero_add]
        simp only [hk2, Option.bind_some, hd, Option.getD_some]
      · rw [putsL_out (fun o ho e => hx (by obtain ⟨n, hn⟩ := List.getElem?_of_mem ho; exact ⟨n, o, hn, e⟩))]
        refine hS.rest d ?_
        rw [List.all_eq_true]
        intro j hj
        cases ho : ops[j]? with
        | none => rfl
        | some o =>
          simp only [Option.bind_some, bne_iff_ne, ne_eq]
          intro e
          exact hx ⟨j, o, by rw [Array.getElem?_toList]; exact ho, e⟩
    rw [Array.getD_eq_getD_getElem?, Array.getElem?_eq_getElem h1, Array.getD_eq_getD_getElem?, Array.getElem?_eq_getElem h2] at key
    exact key
end
end Go.Proofs.Ytopgegciejmhaaa

/-
  A region that draws its order and ends in a forced tail: its first m operations in any order, then the rest, one behind the other, as in a plain region.
-/
namespace Go.Proofs.Ytopgegciejmhaaa
open Go.RowKit
set_option linter.unusedVariables false
def waitsB (ops : Array Oper) (k j : Nat) : Bool := ((ops[k]?).map fun o => o.after.any fun e => e.on == j && Region.binds .any e).getD false
/-- Each of the first m is waited for by a later one up to m; each behind m waits for the one before it, and none of these has a guard. -/
def tailB (ops : Array Oper) (m : Nat) : Bool :=
  decide (m < ops.size) && ((List.range m).all fun j => (List.range (m + 1)).any fun k => decide (j < k) && waitsB ops k j) &&
    (List.range ops.size).all fun k => decide (k < m) || (((ops[k]?).map fun o => o.guard.isNone).getD false && (decide (k = m) || waitsB ops k (k - 1)))
section
variable {P : Program} {ops : Array Oper} {Q : Exit → Act → World → Prop} {Φ : Nat → Value → World → Prop} {a0 : Act} {B : World}
theorem tail_waits {k j : Nat} {o : Oper} {listed : Array Bool} (h : waitsB ops k j = true) (ho : ops[k]? = some o) (hall : ∀ e ∈ o.after, Region.binds .any e = true → listed.getD e.on false = true) : listed.getD j false = true := by
  unfold waitsB at h
  rw [ho] at h
  obtain ⟨n, hn, hb⟩ := Array.any_eq_true.1 (show (o.after.any fun e => e.on == j && Region.binds .any e) = true from h)
  simp only [Bool.and_eq_true, beq_iff_eq] at hb
  rw [← hb.1]
  exact hall _ (Array.getElem_mem hn) hb.2
theorem tail_all {m : Nat} (h : tailB ops m = true) {listed : Array Bool} {ol : Oper} (hl : ops[m]? = some ol) (hready : ∀ e ∈ ol.after, Region.binds .any e = true → listed.getD e.on false = true)
    (hcl : ∀ (j : Nat) oj, ops[j]? = some oj → listed.getD j false = true → ∀ e ∈ oj.after, Region.binds .any e = true → listed.getD e.on false = true) : ∀ (d j : Nat), j + d = m → 0 < d → listed.getD j false = true := by
  simp only [tailB, Bool.and_eq_true, decide_eq_true_eq] at h
  obtain ⟨⟨_, h⟩, _⟩ := h
  intro d
  induction d using Nat.strongRecOn with
  | ind d ih =>
    intro j hj hd
    obtain ⟨k, hk, h2⟩ := List.any_eq_true.1 (List.all_eq_true.1 h j (List.mem_range.2 (by omega)))
    simp only [Bool.and_eq_true, decide_eq_true_eq] at h2
    obtain ⟨hjk, h3⟩ := h2
    have hk := List.mem_range.1 hk
    by_cases e : k = m
    · subst e
      exact tail_waits h3 hl hready
    · cases ho : ops[k]? with
      | none => unfold waitsB at h3; rw [ho] at h3; cases h3
      | some o => exact tail_waits h3 ho (hcl k o ho (ih (m - k) (by omega) k (by omega) (by omega)))
theorem tail_op {m k : Nat} {o : Oper} (h : tailB ops m = true) (hk : m ≤ k) (ho : ops[k]? = some o) : o.guard = none ∧ (k = m ∨ waitsB ops k (k - 1) = true) := by
  simp only [tailB, Bool.and_eq_true, decide_eq_true_eq] at h
  obtain ⟨_, h⟩ := h
  have h2 := List.all_eq_true.1 h k (List.mem_range.2 (Array.getElem?_eq_some_iff.1 ho).1)
  rw [ho] at h2
  simp only [Bool.or_eq_true, Bool.and_eq_true, decide_eq_true_eq, Option.map_some, Option.getD_some, Option.isNone_iff_eq_none] at h2
  rcases h2 with h2 | ⟨h2, h3⟩
  · omega
  · exact ⟨h2, h3⟩
/-- The tail. -/
theorem wpAny_tail {m : Nat} (hs : shapeB ops a0.tmps.size = true) (htl : tailB ops m = true) : ∀ (n k : Nat) (listed : Array Bool) (a : Act) (w : World) (fuel : Nat), ops.size = k + n → m ≤ k → listed.size = ops.size →
    (∀ j, j < k → listed.getD j false = true) → (∀ j, k ≤ j → listed.getD j false = false) → wpList P ops Q (ops.toList.drop k) a w → n ≤ fuel → wpAny P .any ops Q fuel listed a w := by
  intro n
  induction n with
  | zero =>
    intro k listed a w fuel hn hk hsz hlo hhi hq hf
    rw [List.drop_of_length_le (by simp; omega)] at hq
    exact wpAny_all (fun j hj => hlo j (by omega)) hq fuel
  | succ n ih =>
    intro k listed a w fuel hn hk hsz hlo hhi hq hf
    obtain ⟨o, ho⟩ : ∃ o, ops[k]? = some o := ⟨_, Array.getElem?_eq_getElem (show k < ops.size by omega)⟩
    obtain ⟨hg, _⟩ := tail_op htl hk ho
    have hd : ops.toList.drop k = o :: ops.toList.drop (k + 1) := by
      rw [List.drop_eq_getElem_cons (show k < ops.toList.length by simp; omega)]
      congr 1
      have := (Array.getElem?_eq_some_iff.1 ho).2
      simpa using this
    rw [hd] at hq
    unfold wpList at hq
    rw [if_pos (by unfold Region.wanted; rw [hg])] at hq
    match fuel, hf with
    | fuel + 1, hf =>
      refine ⟨fun hre => ?_, fun i hi => ?_⟩
      · exfalso
        have : k ∈ Region.ready .any ops listed := mem_ready.2 ⟨getD_in (by rw [hsz]; omega) (hhi k (Nat.le_refl _)), o, ho, fun e he hb => hlo e.on ((shape_spec hs ho).1 e he hb)⟩
        rw [hre] at this; cases this
      · obtain ⟨hu, oi, hoi, hall⟩ := mem_ready.1 hi
        have hki : k ≤ i := by
          rcases Nat.lt_or_ge i k with h | h
          · have := hlo i h
            rw [getD_both hu] at this; cases this
          · exact h
        have hik : i = k := by
          rcases (tail_op htl (show m ≤ i by omega) hoi).2 with h | h
          · omega
          · have h2 := tail_waits h hoi hall
            rcases Nat.lt_or_ge k i with h3 | h3
            · rw [hhi (i - 1) (by omega)] at h2; cases h2
            · omega
        subst hik
        obtain rfl : o = oi := Option.some.inj (ho.symm.trans hoi)
        unfold wpOp
        simp only [ho]
        rw [if_pos (by unfold Region.wanted; rw [hg])]
        rcases hq with hq | hq
        · refine .inl (Oper.wp_mono (fun a' w' hq' => ?_) hq)
          refine ih (i + 1) _ a' w' fuel (by omega) (by omega) (by simpa using hsz) (fun j hj => ?_) (fun j hj => ?_) hq' (by omega)
          · by_cases e2 : j = i
            · subst e2
              simp [hsz]; omega
            · exact getD_set_true (hlo j (by omega))
          · rw [getD_set_ne false (by omega)]; exact hhi j (by omega)
        · exact .inr hq
/-- What an operation ahead of the tail may lean on: also the slots that only the tail writes. -/
structure SInvT (ops : Array Oper) (m : Nat) (a0 : Act) (B : World) (a : Act) (w : World) : Prop where
  defers : a.defers = a0.defers
  tsize : a.tmps.size = a0.tmps.size
  below : Below B.heap.size B w
  rest : ∀ d, ((List.range m).all fun j => ((ops[j]?).bind (·.dst)) != some d) = true → a.tmps.getD d undef = a0.tmps.getD d undef
theorem SInvT.of {m : Nat} {a : Act} {w : World} (h : SInv ops a0 B a w) (ht : ∀ k o d, m ≤ k → ops[k]? = some o → o.dst = some d → a.tmps.getD d undef = a0.tmps.getD d undef) : SInvT ops m a0 B a w := by
  refine ⟨h.defers, h.tsize, h.below, fun d hd => ?_⟩
  by_cases hy : ∃ (k : Nat) (o : Oper), m ≤ k ∧ ops[k]? = some o ∧ o.dst = some d
  · obtain ⟨k, o, hk, ho, hd⟩ := hy
    exact ht k o d hk ho hd
  · refine h.rest d (List.all_eq_true.2 fun j hj => ?_)
    rcases Nat.lt_or_ge j m with h4 | h4
    · exact List.all_eq_true.1 hd j (List.mem_range.2 h4)
    · cases ho : ops[j]? with
      | none => rfl
      | some o =>
        simp only [Option.bind_some, bne_iff_ne, ne_eq]
        exact fun e => hy ⟨j, o, h4, ho, e⟩
def opT (P : Program) (ops : Array Oper) (m : Nat) (Q : Exit → Act → World → Prop) (Φ : Nat → Value → World → Prop) (a0 : Act) (B : World) (i : Nat) (o : Oper) : Prop :=
  ∀ a w, SInvT ops m a0 B a w → (∀ j, (o.after.any fun e => e.on == j && Region.binds .any e) = true → ∀ o' d, ops[j]? = some o' → o'.dst = some d → Φ j (a.tmps.getD d undef) w) →
    if Region.wanted o (yielded ops a.tmps) then ∀ K : Act → World → Prop, (∀ v w', Below w.heap.size w w' → Φ i v w' → K (a.put o.dst v) w') → o.wp P a w K Q else Φ i undef w
def AllT (P : Program) (ops : Array Oper) (m : Nat) (Q : Exit → Act → World → Prop) (Φ : Nat → Value → World → Prop) (a0 : Act) (B : World) : Nat → List Oper → Prop
  | _, [] => True
  | i, o :: os => opT P ops m Q Φ a0 B i o ∧ AllT P ops m Q Φ a0 B (i + 1) os
theorem allT_at {m : Nat} (l : List Oper) : ∀ (i : Nat), AllT P ops m Q Φ a0 B i l → ∀ k o, l[k]? = some o → opT P ops m Q Φ a0 B (i + k) o := by
  induction l with
  | nil => intro i _ k o h; cases h
  | cons x xs ih =>
    intro i h k o hk
    cases k with
    | zero =>
      simp only [List.getElem?_cons_zero, Option.some.injEq] at hk
      subst hk
      exact h.1
    | succ k =>
      rw [show i + (k + 1) = (i + 1) + k by omega]
      exact ih (i + 1) h.2 k o (by simpa using hk)
theorem opT_do {m i : Nat} {o : Oper} (hg : o.guard = none) (h : ∀ a w, SInvT ops m a0 B a w → Deps ops Φ o a w → ∀ K : Act → World → Prop, (∀ v w', Below w.heap.size w w' → Φ i v w' → K (a.put o.dst v) w') → o.wp P a w K Q) : opT P ops m Q Φ a0 B i o := by
  intro a w hS hf
  rw [if_pos (by unfold Region.wanted; rw [hg])]
  exact h a w hS hf
theorem opT_yes {m i g G : Nat} {o og : Oper} {b : Bool} (hg : o.guard = some (g, b)) (ho : ops[g]? = some og) (hd : og.dst = some G) (hdep : (o.after.any fun e => e.on == g && Region.binds .any e) = true) (hΦ : ∀ v w, Φ g v w → v = .bool b)
    (h : ∀ a w, SInvT ops m a0 B a w → Deps ops Φ o a w → ∀ K : Act → World → Prop, (∀ v w', Below w.heap.size w w' → Φ i v w' → K (a.put o.dst v) w') → o.wp P a w K Q) : opT P ops m Q Φ a0 B i o := by
  intro a w hS hf
  have hs := hΦ _ _ (hf g hdep og G ho hd)
  rw [if_pos (by rw [wanted_slot hg ho hd hs]; cases b <;> simp)]
  exact h a w hS hf
theorem opT_no {m i g G : Nat} {o og : Oper} {b : Bool} (hg : o.guard = some (g, b)) (ho : ops[g]? = some og) (hd : og.dst = some G) (hdep : (o.after.any fun e => e.on == g && Region.binds .any e) = true) (hΦ : ∀ v w, Φ g v w → v = .bool (!b))
    (h : ∀ w, Φ i undef w) : opT P ops m Q Φ a0 B i o := by
  intro a w hS hf
  have hs := hΦ _ _ (hf g hdep og G ho hd)
  rw [if_neg (by rw [wanted_slot hg ho hd hs]; cases b <;> simp)]
  exact h w
theorem wpAny_MT {m : Nat} (hm : ∀ i v w w', Φ i v w → Below w.heap.size w w' → Φ i v w') (hs : shapeB ops a0.tmps.size = true) (htl : tailB ops m = true) (hop : AllT P ops m Q Φ a0 B 0 (ops.toList.take m))
    (hend : ∀ a w, SInv ops a0 B a w → (∀ j o d, j < m → ops[j]? = some o → o.dst = some d → Φ j (a.tmps.getD d undef) w) → (∀ k o d, m ≤ k → ops[k]? = some o → o.dst = some d → a.tmps.getD d undef = a0.tmps.getD d undef) → wpList P ops Q (ops.toList.drop m) a w) :
    ∀ (fuel : Nat) (listed : Array Bool) (a : Act) (w : World), RInv ops Φ a0 B listed a w → (∀ (j : Nat) oj, ops[j]? = some oj → listed.getD j false = true → ∀ e ∈ oj.after, Region.binds .any e = true → listed.getD e.on false = true) →
      (∀ j, m ≤ j → listed.getD j false = false) → (∀ k o d, m ≤ k → ops[k]? = some o → o.dst = some d → a.tmps.getD d undef = a0.tmps.getD d undef) → unl listed ops.size ≤ fuel → ops.size - m ≤ fuel → wpAny P .any ops Q fuel listed a w := by
  have hsz : m < ops.size := by
    simp only [tailB, Bool.and_eq_true, decide_eq_true_eq] at htl
    exact htl.1.1
  intro fuel
  induction fuel with
  | zero =>
    intro listed a w h hcl hlm hts hf hf2
    omega
  | succ fuel ih =>
    intro listed a w h hcl hlm hts hf hf2
    by_cases hdone : ∀ j, j < m → listed.getD j false = true
    · exact wpAny_tail hs htl (ops.size - m) m listed a w (fuel + 1) (by omega) (Nat.le_refl _) h.size hdone hlm (hend a w h.s (fun j o d hj ho hd => h.facts j o d ho hd (hdone j hj)) hts) hf2
    refine ⟨fun hre => ?_, fun i hi => ?_⟩
    · exfalso
      refine hdone fun j => ?_
      induction j using Nat.strongRecOn with
      | ind j ihj =>
        intro hj
        cases hl : listed.getD j false
        · obtain ⟨o, ho⟩ : ∃ o, ops[j]? = some o := ⟨_, Array.getElem?_eq_getElem (show j < ops.size by omega)⟩
          have : j ∈ Region.ready .any ops listed := mem_ready.2 ⟨getD_in (by rw [h.size]; omega) hl, o, ho, fun e he hb => ihj e.on ((shape_spec hs ho).1 e he hb) (by have := (shape_spec hs ho).1 e he hb; omega)⟩
          rw [hre] at this; cases this
        · rfl
    · obtain ⟨hu, o, ho, hall⟩ := mem_ready.1 hi
      have hlt : i < ops.size := (Array.getElem?_eq_some_iff.1 ho).1
      have him : i < m := by
        rcases Nat.lt_or_ge i m with h1 | h1
        · exact h1
        · exfalso
          rcases (tail_op htl h1 ho).2 with h2 | h2
          · subst h2
            exact hdone fun j hj => tail_all htl ho hall hcl (i - j) j (by omega) (by omega)
          · rcases Nat.eq_or_lt_of_le h1 with h4 | h4
            · subst h4
              exact hdone fun j hj => tail_all htl ho hall hcl (m - j) j (by omega) (by omega)
            · have h3 := tail_waits h2 ho hall
              rw [hlm (i - 1) (by omega)] at h3; cases h3
      have hcount := unl_set (l := listed) (i := i) (by rw [h.size]; exact hlt) (getD_both hu) (n := ops.size) hlt
      have hq : opT P ops m Q Φ a0 B i o := by
        have := allT_at (ops.toList.take m) 0 hop i o (by rw [List.getElem?_take, if_pos (by omega), Array.getElem?_toList]; exact ho)
        rwa [Nat.zero_add] at this
      have hq := hq a w (SInvT.of h.s hts) (fun j hj o' d ho' hd => h.facts j o' d ho' hd (by
        obtain ⟨n, hn, hb⟩ := Array.any_eq_true.1 hj
        simp only [Bool.and_eq_true, beq_iff_eq] at hb
        rw [← hb.1]
        exact hall _ (Array.getElem_mem hn) hb.2))
      have hcl' : ∀ (j : Nat) oj, ops[j]? = some oj → (listed.setIfInBounds i true).getD j false = true → ∀ e ∈ oj.after, Region.binds .any e = true → (listed.setIfInBounds i true).getD e.on false = true := fun j oj hj hl e he hb => by
        by_cases hij : i = j
        · subst hij
          obtain rfl : oj = o := Option.some.inj (hj.symm.trans ho)
          exact getD_set_true (hall e he hb)
        · rw [getD_set_ne false hij] at hl
          exact getD_set_true (hcl j oj hj hl e he hb)
      have hlm' : ∀ j, m ≤ j → (listed.setIfInBounds i true).getD j false = false := fun j hj => by rw [getD_set_ne false (by omega)]; exact hlm j hj
      have hts' : ∀ v k ok d, m ≤ k → ops[k]? = some ok → ok.dst = some d → (a.put o.dst v).tmps.getD d undef = a0.tmps.getD d undef := fun v k ok d hk hok hd => by
        rw [getD_put_other (fun e => by have := ((shape_spec hs hok).2 d hd).2 i o ho e; omega)]
        exact hts k ok d hk hok hd
      have hf3 : ops.size - m ≤ fuel := by
        have h1 : unl (listed.setIfInBounds i true) ops.size ≤ fuel := by omega
        have h2 : ∀ n, n ≤ ops.size → n - m ≤ unl (listed.setIfInBounds i true) n := by
          intro n
          induction n with
          | zero => intro _; omega
          | succ n ihn =>
            intro hn
            unfold unl
            rcases Nat.lt_or_ge n m with h4 | h4
            · omega
            · rw [hlm' n h4]
              have := ihn (by omega)
              simp
              omega
        have := h2 ops.size (Nat.le_refl _)
        omega
      unfold wpOp
      simp only [ho]
      split
      · rename_i hw
        rw [if_pos hw] at hq
        exact .inl (hq _ (fun v w' hb hv => ih _ _ _ (h.step hm hs ho hb hv) hcl' hlm' (hts' v) (by omega) hf3))
      · rename_i hw
        rw [if_neg hw] at hq
        exact ih _ _ _ (h.step hm hs ho (Below.refl _ _) hq) hcl' hlm' (hts' undef) (by omega) hf3
/-- THE REGION with a forced tail: the slots ahead of the tail in one form, the tail as a plain region's list. -/
theorem wp_region_MT {id m : Nat} {w : World} (Φ : Nat → Value → World → Prop) (hmix : P.follows .mixedOrders = true) (hm : ∀ i v w w', Φ i v w → Below w.heap.size w w' → Φ i v w') (hs : shapeB ops a0.tmps.size = true) (htl : tailB ops m = true)
    (hop : AllT P ops m Q Φ a0 w.drew 0 (ops.toList.take m))
    (hend : ∀ (vs : Nat → Value) (a : Act) w', Below w.drew.heap.size w.drew w' → (∀ j, j < m → ((ops[j]?).bind (·.dst)).isSome = true → Φ j (vs j) w') → a = ⟨putsL vs 0 (ops.toList.take m) a0.tmps, a0.defers⟩ → wpList P ops Q (ops.toList.drop m) a w') : (Code.region id ops true).wp P Q a0 w := by
  refine wp_region_any hmix ?_
  have hsz : m < ops.size := by
    simp only [tailB, Bool.and_eq_true, decide_eq_true_eq] at htl
    exact htl.1.1
  refine wpAny_MT (B := w.drew) hm hs htl hop (fun a w' hS hF hT => ?_) _ _ _ _ ⟨⟨rfl, rfl, Below.refl _ _, fun _ _ => rfl⟩, by simp, fun j o d hj hd hl => ?_⟩ (fun j oj hj hl => ?_) (fun j _ => getD_replicate_false _ _) (fun _ _ _ _ _ _ => rfl) (unl_new _) (by omega)
  · refine hend (fun j => a.tmps.getD (((ops[j]?).bind (·.dst)).getD 0) undef) a w' hS.below (fun j hj hj2 => ?_) ?_
    · cases ho : ops[j]? with
      | none => rw [ho] at hj2; cases hj2
      | some o =>
        rw [ho] at hj2
        cases hd : o.dst with
        | none => rw [Option.bind_some, hd] at hj2; cases hj2
        | some d =>
          simp only [Option.bind_some, hd, Option.getD_some]
          exact hF j o d hj ho hd
    · obtain ⟨tm, df⟩ := a
      have hdf := hS.defers
      simp only at hdf
      subst hdf
      congr 1
      refine Array.ext (by rw [putsL_size]; exact hS.tsize) (fun d h1 h2 => ?_)
      have key : tm.getD d undef = (putsL (fun j => tm.getD (((ops[j]?).bind (·.dst)).getD 0) undef) 0 (ops.toList.take m) a0.tmps).getD d undef := by
        by_cases hx : ∃ (k : Nat) (o : Oper), (ops.toList.take m)[k]? = some o ∧ o.dst = some d
        · obtain ⟨k, o, hk, hd⟩ := hx
          have hk2 : ops[k]? = some o := by
            rw [List.getElem?_take] at hk
            split at hk
            · rw [← Array.getElem?_toList]; exact hk
            · cases hk
          rw [putsL_in _ hk hd (((shape_spec hs hk2).2 d hd).1) (fun k' o' h1 h2 => ?_), Nat.zero_add]
          · simp only [hk2, Option.bind_some, hd, Option.getD_some]
          · refine ((shape_spec hs hk2).2 d hd).2 k' o' ?_ h2
            rw [List.getElem?_take] at h1
            split at h1
            · rw [← Array.getElem?_toList]; exact h1
            · cases h1
        · rw [putsL_out (fun o ho e => hx (by obtain ⟨n, hn⟩ := List.getElem?_of_mem ho; exact ⟨n, o, hn, e⟩))]
          by_cases hy : ∃ (k : Nat) (o : Oper), m ≤ k ∧ ops[k]? = some o ∧ o.dst = some d
          · obtain ⟨k, o, hk, ho, hd⟩ := hy
            exact hT k o d hk ho hd
          refine hS.rest d ?_
          rw [List.all_eq_true]
          intro j hj
          have hj := List.mem_range.1 hj
          cases ho : ops[j]? with
          | none => rfl
          | some o =>
            simp only [Option.bind_some, bne_iff_ne, ne_eq]
            intro e
            rcases Nat.lt_or_ge j m with h4 | h4
            · exact hx ⟨j, o, by rw [List.getElem?_take, if_pos h4, Array.getElem?_toList]; exact ho, e⟩
            · exact hy ⟨j, o, h4, ho, e⟩
      rw [Array.getD_eq_getD_getElem?, Array.getElem?_eq_getElem h1, Array.getD_eq_getD_getElem?, Array.getElem?_eq_getElem h2] at key
      exact key
  · rw [getD_replicate_false] at hl; cases hl
  · rw [getD_replicate_false] at hl; cases hl
end
end Go.Proofs.Ytopgegciejmhaaa

/-
  FillGaps plainly: the known places around one.
-/
namespace Go.Proofs.Ytopgegciejmhaaa
open Ieee Go.RowKit
set_option linter.unusedVariables false
/-- The greatest known place before p, or -1. -/
def pK (ks : List Bool) : Nat → Int
  | 0 => -1
  | p + 1 => if ks.getD p false then (p : Int) else pK ks p
def nKd (ks : List Bool) (n : Nat) : Nat → Int
  | 0 => n
  | d + 1 => if ks.getD (n - d - 1) false then ((n - d - 1 : Nat) : Int) else nKd ks n d
/-- The least known place from p on, or n. -/
def nK (ks : List Bool) (n p : Nat) : Int := nKd ks n (n - p)
theorem nK_step (ks : List Bool) {n p : Nat} (h : p < n) : nK ks n p = if ks.getD p false then (p : Int) else nK ks n (p + 1) := by
  unfold nK
  rw [show n - p = (n - (p + 1)) + 1 by omega]
  conv => lhs; unfold nKd
  rw [show n - (n - (p + 1)) - 1 = p by omega]
theorem nK_end (ks : List Bool) (n : Nat) : nK ks n n = n := by unfold nK; rw [Nat.sub_self]; rfl
theorem pK_yes {ks : List Bool} {p : Nat} (h : ks.getD p false = true) : pK ks (p + 1) = p := by unfold pK; rw [if_pos h]
theorem pK_no {ks : List Bool} {p : Nat} (h : ks.getD p false = false) : pK ks (p + 1) = pK ks p := by conv => lhs; unfold pK
                                                                                                       rw [if_neg (by rw [h]; simp)]
theorem nK_yes {ks : List Bool} {n p : Nat} (hp : p < n) (h : ks.getD p false = true) : nK ks n p = p := by rw [nK_step ks hp, if_pos h]
theorem nK_no {ks : List Bool} {n p : Nat} (hp : p < n) (h : ks.getD p false = false) : nK ks n p = nK ks n (p + 1) := by rw [nK_step ks hp, if_neg (by rw [h]; simp)]
theorem pK_in (ks : List Bool) : ∀ p, -1 ≤ pK ks p ∧ pK ks p < p
  | 0 => by unfold pK; omega
  | p + 1 => by
    have := pK_in ks p
    cases h : ks.getD p false
    · rw [pK_no h]; omega
    · rw [pK_yes h]; omega
theorem nK_in (ks : List Bool) {n : Nat} : ∀ d p, p + d = n → (p : Int) ≤ nK ks n p ∧ nK ks n p ≤ n
  | 0, p, h => by rw [show p = n by omega, nK_end]; omega
  | d + 1, p, h => by
    have h2 := nK_in ks (n := n) d (p + 1) (by omega)
    cases h3 : ks.getD p false
    · rw [nK_no (by omega) h3]; omega
    · rw [nK_yes (by omega) h3]; omega
theorem pK_neg {ks : List Bool} {n : Nat} : ∀ {p : Nat}, p ≤ n → pK ks p < 0 → nK ks n 0 = nK ks n p
  | 0, _, _ => rfl
  | p + 1, hp, h => by
    cases h3 : ks.getD p false
    · rw [pK_no h3] at h
      rw [pK_neg (by omega) h, nK_no (by omega) h3]
    · rw [pK_yes h3] at h; omega
def ixK (ks : List Bool) (n : Nat) : Int := if nK ks n 0 < n then nK ks n 0 else -1
theorem ixK_yes {ks : List Bool} {n : Nat} (h : nK ks n 0 < n) : ixK ks n = nK ks n 0 := by unfold ixK; rw [if_pos h]
theorem ixK_no {ks : List Bool} {n : Nat} (h : ¬ nK ks n 0 < n) : ixK ks n = -1 := by unfold ixK; rw [if_neg h]
def fgQ (p b k : Int) : Nat := aop .quo .f32 (cn .f32 (floatOfInt .f32 (p - b))) (cn .f32 (floatOfInt .f32 (k - b)))
def fgM (zs : List Nat) (p b k : Nat) : Nat := aop .add .f32 (cn .f32 (zs.getD b 0)) (aop .mul .f32 (aop .sub .f32 (cn .f32 (zs.getD k 0)) (cn .f32 (zs.getD b 0))) (fgQ p b k))
def fgT (zs : List Nat) (ks : List Bool) (n p : Nat) : Nat :=
  if ks.getD p false then cn .f32 (zs.getD p 0) else if pK ks p < 0 then cn .f32 (zs.getD (nK ks n (p + 1)).toNat 0) else if nK ks n (p + 1) = n then cn .f32 (zs.getD (pK ks p).toNat 0) else fgM zs p (pK ks p).toNat (nK ks n (p + 1)).toNat
section
variable {zs : List Nat} {ks : List Bool} {n p : Nat}
theorem fgT_yes (h : ks.getD p false = true) : fgT zs ks n p = cn .f32 (zs.getD p 0) := by unfold fgT; rw [if_pos h]
theorem fgT_lo (h : ks.getD p false = false) (hb : pK ks p < 0) {k : Nat} (hk : nK ks n (p + 1) = k) : fgT zs ks n p = cn .f32 (zs.getD k 0) := by unfold fgT; rw [if_neg (by rw [h]; simp), if_pos hb, hk]; rfl
theorem fgT_hi (h : ks.getD p false = false) {b : Nat} (hb : pK ks p = b) (hk : nK ks n (p + 1) = n) : fgT zs ks n p = cn .f32 (zs.getD b 0) := by unfold fgT; rw [if_neg (by rw [h]; simp), if_neg (by omega), if_pos hk, hb]; rfl
theorem fgT_mid (h : ks.getD p false = false) {b k : Nat} (hb : pK ks p = b) (hk : nK ks n (p + 1) = k) (hn : k < n) : fgT zs ks n p = fgM zs p b k := by unfold fgT; rw [if_neg (by rw [h]; simp), if_neg (by omega), if_neg (by omega), hb, hk]; rfl
theorem fg_word (b k : Nat) (w1 w2 w3 w4 : World) : cn .f32 (fopR .add .f32 (zs.getD b 0) (fopR .mul .f32 (fopR .sub .f32 (zs.getD k 0) (zs.getD b 0) w1) (fopR .quo .f32 (floatOfInt .f32 ((p : Int) - (b : Int))) (floatOfInt .f32 ((k : Int) - (b : Int))) w2) w3) w4) = fgM zs p b k := by
  rw [cn_fopR, cn_fopR, cn_fopR, cn_fopR]; rfl
end
def fgB (zs : List Nat) (ks : List Bool) : Bool := decide (1 ≤ zs.length ∧ zs.length ≤ 96) && (decide (ks.length = zs.length) && decide (nK ks zs.length 0 < zs.length))
def fgL (zs : List Nat) (ks : List Bool) : List Nat := tells (fgT zs ks zs.length) zs.length
def fgOk (zs : List Nat) (ks : List Bool) : Bool := fgB zs ks && fins (fgL zs ks)
def fgX (zs : List Nat) (ks : List Bool) : List Nat := if fgB zs ks then lstR (fgL zs ks) else []
section
variable {zs : List Nat} {ks : List Bool}
theorem fg_bad (h : fgB zs ks = false) : fgOk zs ks = false ∧ fgX zs ks = [] := by unfold fgOk fgX; rw [h]; exact ⟨rfl, rfl⟩
theorem fg_good (h : fgB zs ks = true) : fgOk zs ks = fins (fgL zs ks) ∧ fgX zs ks = lstR (fgL zs ks) := by unfold fgOk fgX; rw [h]; exact ⟨rfl, rfl⟩
theorem fg_fail (h : fgB zs ks = true) (hf : fins (fgL zs ks) = false) : fgOk zs ks = false ∧ fgX zs ks = [] := by
  have := fg_good h
  exact ⟨by rw [this.1, hf], by rw [this.2]; unfold lstR; rw [hf]; rfl⟩
theorem fgX_len : (fgX zs ks).length ≤ 1048576 := by
  unfold fgX
  split
  · rename_i h
    unfold fgB at h
    have h2 := of_decide_eq_true (Bool.and_eq_true_iff.1 h).1
    unfold lstR
    split
    · unfold fgL; rw [tells_len]; omega
    · simp
  · simp
theorem fg_known {p : Nat} (hp : p < zs.length) (hk : ks.getD p false = true) (hf : fin .f32 (zs.getD p 0) = false) : fins (fgL zs ks) = false :=
  tells_bad hp (by rw [fgT_yes hk, ← hf]; exact fin_congr (cn_cn ..))
end
theorem fsl_word {w : World} {b off n : Nat} {zs : List Nat} (h : FSl w (some ⟨b, off, none⟩) n zs) {j : Nat} (hj : j < n) : w.cell? ⟨b, off + j, none⟩ = some (.float .f32 (zs.getD j 0)) := by
  obtain ⟨b', off', e, _, hc⟩ := h.at (show 0 < n by omega)
  injection e with e
  injection e with e1 e2
  subst e1 e2
  exact hc j hj
/-- A list of bools in a box. -/
def BoxB (bl : Nat) (a : Option Addr) (len cap : Nat) (ks : List Bool) (wr : World) : Prop :=
  wr.cell? ⟨bl, 0, none⟩ = some (.slice a len cap) ∧ (0 < len → ∃ b off, a = some ⟨b, off, none⟩ ∧ b < bl ∧ ∀ j, j < len → wr.cell? ⟨b, off + j, none⟩ = some (.bool (ks.getD j false)))
theorem BoxB.keep {bl B : Nat} {a : Option Addr} {len cap : Nat} {ks : List Bool} {wr wr' : World} (h : BoxB bl a len cap ks wr) (h1 : bl < B) (hb : Below B wr wr') : BoxB bl a len cap ks wr' := by
  refine ⟨by rw [hb.cell (p := ⟨bl, 0, none⟩) h1]; exact h.1, fun hp => ?_⟩
  obtain ⟨b, off, rfl, hlt, hc⟩ := h.2 hp
  exact ⟨b, off, rfl, hlt, fun j hj => by rw [hb.cell (p := ⟨b, off + j, none⟩) (by show b < B; omega)]; exact hc j hj⟩
theorem BoxB.bsl {bl : Nat} {a : Option Addr} {len cap : Nat} {ks : List Bool} {wr : World} (h : BoxB bl a len cap ks wr) (hl : ks.length = len) : BSl wr a len ks := by
  refine ⟨hl, ?_⟩
  rcases Nat.eq_zero_or_pos len with h0 | h0
  · exact .inl h0
  · obtain ⟨b, off, rfl, _, hc⟩ := h.2 h0
    exact .inr ⟨b, off, rfl, lt_of_cell (hc 0 h0), hc⟩
theorem BoxB.start {w : World} {a : Option Addr} {len cap : Nat} {ks : List Bool} {t : TypeId} (h : BSl w a len ks) : BoxB w.heap.size a len cap ks (w.alloc (.cells #[.slice a len cap] t)) := by
  refine ⟨?_, fun hp => ?_⟩
  · rw [World.cell?_alloc_at _ _ _ _ rfl]; rfl
  · obtain ⟨b, off, rfl, hb, hc⟩ := h.at hp
    exact ⟨b, off, rfl, hb, fun j hj => by rw [World.cell?_alloc_past _ _ _ hb]; exact hc j hj⟩
end Go.Proofs.Ytopgegciejmhaaa

/-
  FillGaps of the program.
-/
namespace Go.Proofs.Ytopgegciejmhaaa
open Ieee Go.RowKit
set_option linter.unusedVariables false
set_option linter.unusedSimpArgs false
set_option maxRecDepth 100000 in
theorem idxB_any (a : Option Addr) (n cap : Nat) (ks : List Bool) (w : World) (h : BSl w a n ks) (hm : n ≤ 1048576) :
    Calls Try.prog 141 #[.slice a n cap, .bool true] w fun e w' => e = .returned (.int .i64 (ixK ks n)) ∧ w = w' := by
  have H := Lib.hid h
  clear h
  go_enter Try.func141, Try.ntmps141
  go_wp2_with fail
  go_loop [8] (fun i => ∃ k : Nat, k ≤ n ∧ i = .int .i64 k ∧ Hid (nK ks n 0 = nK ks n k)) (fun i => n - (intOf i).toNat)
  case atStart => exact ⟨0, Nat.zero_le _, rfl, Lib.hid rfl⟩
  case round =>
    obtain ⟨k, hk, rfl, hn⟩ := hrel
    by_cases hlt : k < n
    · obtain ⟨b, off, rfl, _, hc⟩ := H.out.at (show 0 < n by omega)
      have hck := hc k hlt
      cases hb : ks.getD k false
      · have HN := Lib.hid (hn.out.trans (nK_no hlt hb))
        rw [hb] at hck
        clear hc hb hn
        go_wp2_with fail
        go_round
        case rel => exact ⟨k + 1, by omega, by go_num, HN⟩
        case measure => simp [intOf]; omega
      · have HN := Lib.hid (show ixK ks n = (k : Int) by rw [ixK_yes (by rw [hn.out, nK_yes hlt hb]; omega), hn.out, nK_yes hlt hb])
        rw [hb] at hck
        clear hc hb hn
        go_wp2_with fail
        go_ret
        exact ⟨by rw [HN.out]; rfl, rfl⟩
    · obtain rfl : k = n := by omega
      have HN := Lib.hid (show ixK ks k = (-1 : Int) from ixK_no (by rw [hn.out, nK_end]; omega))
      clear hn
      go_wp2_with fail
      go_ret
      exact ⟨by rw [HN.out]; rfl, rfl⟩
set_option maxRecDepth 100000 in
theorem hasB_any (a : Option Addr) (n cap : Nat) (ks : List Bool) (w : World) (h : BSl w a n ks) (hm : n ≤ 1048576) :
    Calls Try.prog 61 #[.slice a n cap, .bool true] w fun e w' => e = .returned (.bool (decide (nK ks n 0 < n))) ∧ w = w' := by
  have hin := nK_in ks n 0 (Nat.zero_add n)
  by_cases hl : nK ks n 0 < n
  · obtain ⟨v, hv⟩ : ∃ v, ixK ks n = v := ⟨_, rfl⟩
    have hv0 : decide ((0 : Int) ≤ v) = true := by rw [← hv, ixK_yes hl]; exact decide_eq_true hin.1
    have hv1 : (0 : Int) ≤ v := by rw [← hv, ixK_yes hl]; exact hin.1
    have HD := Lib.hid (decide_eq_true hl)
    clear hin hl
    go_enter Try.func61, Try.ntmps61
    go_wp2_with fail
    refine (idxB_any _ _ _ _ _ h hm).mono ?_
    rw [hv]
    rintro e w' ⟨rfl, rfl⟩
    clear hv
    go_wp2_with fail
    go_ret
    exact ⟨by first | (rw [HD.out]; rfl) | rw [HD.out], rfl⟩
  · obtain ⟨v, hv⟩ : ∃ v, ixK ks n = v := ⟨_, rfl⟩
    have hv0 : decide ((0 : Int) ≤ v) = false := by rw [← hv, ixK_no hl]; rfl
    have hv1 : ¬ (0 : Int) ≤ v := by rw [← hv, ixK_no hl]; omega
    have HD := Lib.hid (decide_eq_false hl)
    clear hin hl
    go_enter Try.func61, Try.ntmps61
    go_wp2_with fail
    refine (idxB_any _ _ _ _ _ h hm).mono ?_
    rw [hv]
    rintro e w' ⟨rfl, rfl⟩
    clear hv
    go_wp2_with fail
    go_ret
    exact ⟨by first | (rw [HD.out]; rfl) | rw [HD.out], rfl⟩
set_option maxHeartbeats 1000000 in
set_option maxRecDepth 100000 in
theorem around_any (a : Option Addr) (n cap p : Nat) (ks : List Bool) (w : World) (h : BSl w a n ks) (hm : n ≤ 1048576) (hp : p + 1 ≤ n) :
    Calls Try.prog 64 #[.slice a n cap, .int .i64 p] w fun e w' => e = .returned (.tuple #[.int .i64 (pK ks p), .int .i64 (nK ks n (p + 1))]) ∧ w = w' := by
  obtain ⟨b, off, rfl, _, hc⟩ := h.at (show 0 < n by omega)
  have HCe := Lib.hid hc
  have hwp : IntKind.i64.wrap ((p : Int) - 1) = (p : Int) - 1 := by rw [IntKind.wrap_i64]; omega
  have hwp1 : IntKind.i64.wrap ((p : Int) + 1) = (p : Int) + 1 := by rw [IntKind.wrap_i64]; omega
  clear hc h
  go_enter Try.func64, Try.ntmps64
  go_wp2_with fail
  go_loop [6] (fun i => ∃ j : Nat, j ≤ p ∧ i = .int .i64 ((j : Int) - 1) ∧ Hid (pK ks p = pK ks j)) (fun i => (intOf i + 1).toNat)
  case atStart => exact ⟨p, Nat.le_refl _, rfl, Lib.hid rfl⟩
  case round =>
    obtain ⟨j, hj, rfl, hn⟩ := hrel
    cases j with
    | zero =>
      have HP := Lib.hid (show pK ks p = -1 from hn.out)
      clear hn
      have hd0 : decide ((0 : Int) ≤ -1) = false := by decide
      have e1 : (((0 : Nat) : Int) - 1) = -1 := by decide
      rw [e1]
      go_wp2_with fail
      go_loop [7] (fun i => ∃ k : Nat, p + 1 ≤ k ∧ k ≤ n ∧ i = .int .i64 k ∧ Hid (nK ks n (p + 1) = nK ks n k)) (fun i => n - (intOf i).toNat)
      case atStart => exact ⟨p + 1, Nat.le_refl _, hp, by go_num, Lib.hid rfl⟩
      case round =>
        obtain ⟨k, hk0, hk, rfl, hn⟩ := hrel
        by_cases hlt : k < n
        · have hck := HCe.out k hlt
          have hd1 : decide ((k : Int) < (n : Int)) = true := decide_eq_true (by omega)
          have hwk : IntKind.i64.wrap ((k : Int) + 1) = (k : Int) + 1 := by rw [IntKind.wrap_i64]; omega
          cases hb : ks.getD k false
          · have HN := Lib.hid (hn.out.trans (nK_no hlt hb))
            rw [hb] at hck
            clear hb hn
            go_wp2_with fail
            go_round
            case rel => exact ⟨k + 1, by omega, by omega, by go_num, HN⟩
            case measure => simp [intOf]; omega
          · have HN := Lib.hid (show nK ks n (p + 1) = (k : Int) by rw [hn.out, nK_yes hlt hb])
            rw [hb] at hck
            clear hb hn
            go_wp2_with fail
            go_ret2
            exact ⟨by rw [HN.out, HP.out]; rfl, rfl⟩
        · obtain rfl : k = n := by omega
          have hd1 : decide ((k : Int) < (k : Int)) = false := decide_eq_false (by omega)
          have HN := Lib.hid (show nK ks k (p + 1) = (k : Int) by rw [hn.out, nK_end])
          clear hn
          go_wp2_with fail
          go_ret2
          exact ⟨by rw [HN.out, HP.out]; rfl, rfl⟩
    | succ j =>
      have e1 : ((j + 1 : Nat) : Int) - 1 = (j : Int) := by omega
      rw [e1]
      have hcj := HCe.out j (by omega)
      have hd0 : decide ((0 : Int) ≤ (j : Int)) = true := decide_eq_true (by omega)
      have hi0 : (0 : Int) ≤ (j : Int) := by omega
      have hi1 : (j : Int) < (n : Int) := by omega
      have hwj : IntKind.i64.wrap ((j : Int) - 1) = (j : Int) - 1 := by rw [IntKind.wrap_i64]; omega
      cases hb : ks.getD j false
      · have HN := Lib.hid (hn.out.trans (pK_no hb))
        rw [hb] at hcj
        clear hb hn e1
        go_wp2_with fail
        go_round
        case rel => exact ⟨j, by omega, rfl, HN⟩
        case measure => simp [intOf] <;> omega
      · have HP := Lib.hid (show pK ks p = (j : Int) by rw [hn.out, pK_yes hb])
        rw [hb] at hcj
        clear hb hn e1
        go_wp2_with fail
        go_loop [7] (fun i => ∃ k : Nat, p + 1 ≤ k ∧ k ≤ n ∧ i = .int .i64 k ∧ Hid (nK ks n (p + 1) = nK ks n k)) (fun i => n - (intOf i).toNat)
        case atStart => exact ⟨p + 1, Nat.le_refl _, hp, by go_num, Lib.hid rfl⟩
        case round =>
          obtain ⟨k, hk0, hk, rfl, hn⟩ := hrel
          by_cases hlt : k < n
          · have hck := HCe.out k hlt
            have hd1 : decide ((k : Int) < (n : Int)) = true := decide_eq_true (by omega)
            have hwk : IntKind.i64.wrap ((k : Int) + 1) = (k : Int) + 1 := by rw [IntKind.wrap_i64]; omega
            cases hb : ks.getD k false
            · have HN := Lib.hid (hn.out.trans (nK_no hlt hb))
              rw [hb] at hck
              clear hb hn
              go_wp2_with fail
              go_round
              case rel => exact ⟨k + 1, by omega, by omega, by go_num, HN⟩
              case measure => simp [intOf]; omega
            · have HN := Lib.hid (show nK ks n (p + 1) = (k : Int) by rw [hn.out, nK_yes hlt hb])
              rw [hb] at hck
              clear hb hn
              go_wp2_with fail
              go_ret2
              exact ⟨by rw [HN.out, HP.out]; rfl, rfl⟩
          · obtain rfl : k = n := by omega
            have hd1 : decide ((k : Int) < (k : Int)) = false := decide_eq_false (by omega)
            have HN := Lib.hid (show nK ks k (p + 1) = (k : Int) by rw [hn.out, nK_end])
            clear hn
            go_wp2_with fail
            go_ret2
            exact ⟨by rw [HN.out, HP.out]; rfl, rfl⟩
def fgR (bl b off n cap ii k x y q : Nat) : Nat → Value → World → Prop
  | 0, v, w => v = (.slice (some ⟨b, off, none⟩) n cap)
  | 1, v, w => v = (.int .i64 ii)
  | 2, v, w => v = (.pointer (some ⟨b, off + ii, none⟩))
  | 3, v, w => v = (.float .f32 x)
  | 4, v, w => v = (.slice (some ⟨b, off, none⟩) n cap)
  | 5, v, w => v = (.int .i64 k)
  | 6, v, w => v = (.pointer (some ⟨b, off + k, none⟩))
  | 7, v, w => v = (.float .f32 y)
  | 8, v, w => v = (.slice (some ⟨b, off, none⟩) n cap)
  | 9, v, w => v = (.int .i64 ii)
  | 10, v, w => v = (.pointer (some ⟨b, off + ii, none⟩))
  | 11, v, w => v = (.float .f32 x)
  | 12, v, w => ∃ r, v = .float .f32 r ∧ cn .f32 r = (aop .sub .f32 (cn .f32 y) (cn .f32 x))
  | 13, v, w => v = (.float .f32 q)
  | 14, v, w => ∃ r, v = .float .f32 r ∧ cn .f32 r = (aop .mul .f32 (aop .sub .f32 (cn .f32 y) (cn .f32 x)) (cn .f32 q))
  | 15, v, w => ∃ r, v = .float .f32 r ∧ cn .f32 r = (aop .add .f32 (cn .f32 x) (aop .mul .f32 (aop .sub .f32 (cn .f32 y) (cn .f32 x)) (cn .f32 q)))
  | 16, v, w => ∃ r, v = .float .f32 r ∧ cn .f32 r = (aop .add .f32 (cn .f32 x) (aop .mul .f32 (aop .sub .f32 (cn .f32 y) (cn .f32 x)) (cn .f32 q)))
  | _, _, _ => True
theorem fgR_mono (bl b off n cap ii k x y q : Nat) : ∀ i v w w', fgR bl b off n cap ii k x y q i v w → Below w.heap.size w w' → fgR bl b off n cap ii k x y q i v w'
  := by
  intro i v w w' h hb
  unfold fgR at *
  split
  · exact h
  · exact h
  · exact h
  · exact h
  · exact h
  · exact h
  · exact h
  · exact h
  · exact h
  · exact h
  · exact h
  · exact h
  · exact h
  · exact h
  · exact h
  · exact h
  · exact h
  · trivial
/-- What the closure reads. -/
def FgI (bk bl : Nat) (a' : Option Addr) (cap' : Nat) (ks : List Bool) (a : Option Addr) (n cap : Nat) (zs : List Nat) (_k : Nat) (wr : World) : Prop := BoxB bk a' n cap' ks wr ∧ BoxI bl a n cap zs wr
set_option maxHeartbeats 2000000 in
set_option maxRecDepth 100000 in
theorem fg1_any (bk bl B0 B p : Nat) (a' : Option Addr) (cap' : Nat) (ks : List Bool) (a : Option Addr) (n cap : Nat) (zs : List Nat) (wr : World) (h : FgI bk bl a' cap' ks a n cap zs p wr) (hp : p < n) (hm : n ≤ 96) (hz : zs.length = n) (hk : ks.length = n) (hany : nK ks n 0 < n) (hB : B < wr.heap.size) (hB0 : B0 ≤ wr.heap.size) :
    Calls Try.prog 63 #[.int .i64 p, .pointer (some ⟨bk, 0, none⟩), .pointer (some ⟨bl, 0, none⟩)] wr (Tells (fgT zs ks n) (FgI bk bl a' cap' ks a n cap zs) B0 B p wr) := by
  have HI := Lib.hid h
  have HK := Lib.hid (h.1.bsl hk)
  have hck := h.1.1
  have hcl := h.2.1
  obtain ⟨b', off', rfl, _, hks⟩ := h.1.2 (by omega)
  obtain ⟨b, off, rfl, _, hzs⟩ := h.2.2 (by omega)
  have HZc := Lib.hid hzs
  have hkp := hks p hp
  have hi0 : (0 : Int) ≤ (p : Int) := by omega
  have hi1 : (p : Int) < (n : Int) := by omega
  have hlb : bl < wr.heap.size := lt_of_cell hcl
  clear h hks hzs
  cases hb : ks.getD p false
  rotate_left
  · rw [hb] at hkp
    have HT := Lib.hid (fgT_yes (zs := zs) (n := n) hb)
    have hzp := HZc.out p hp
    generalize zs.getD p 0 = x at *
    clear hb
    go_enter Try.func63, Try.ntmps63
    go_wp2_with fail
    go_ret
    exact Tells.quiet (n := 0) HT.out.symm HI.out
  · rw [hb] at hkp
    have hpk := pK_in ks p
    have hnk := nK_in ks (n := n) (n - (p + 1)) (p + 1) (by omega)
    by_cases hlo : pK ks p < 0
    · have he : pK ks p = -1 := by omega
      have hlt : nK ks n (p + 1) < n := by rw [← nK_no hp hb, ← pK_neg (by omega) hlo]; exact hany
      obtain ⟨k, hk2⟩ : ∃ k : Nat, nK ks n (p + 1) = k := ⟨(nK ks n (p + 1)).toNat, by omega⟩
      have hkn : k < n := by omega
      have HT := Lib.hid (fgT_lo (zs := zs) (n := n) hb hlo hk2)
      have hzk := HZc.out k hkn
      have hk0 : (0 : Int) ≤ (k : Int) := by omega
      have hk1 : (k : Int) < (n : Int) := by omega
      have HE := Lib.hid he
      have HK2 := Lib.hid hk2
      generalize zs.getD k 0 = x at *
      clear hb hpk hnk hlo he hlt hk2
      go_enter Try.func63, Try.ntmps63
      go_wp2_with fail
      refine (around_any _ _ _ _ ks _ HK.out (by omega) hp).mono ?_
      rw [HE.out, HK2.out]
      rintro e w' ⟨rfl, rfl⟩
      go_wp2_with fail
      go_ret
      exact Tells.quiet (n := 0) HT.out.symm HI.out
    · obtain ⟨ii, hi2⟩ : ∃ ii : Nat, pK ks p = ii := ⟨(pK ks p).toNat, by omega⟩
      have hin0 : ii < n := by omega
      by_cases hhi : nK ks n (p + 1) = n
      · have HT := Lib.hid (fgT_hi (zs := zs) (n := n) hb hi2 hhi)
        have hzk := HZc.out ii hin0
        have hk0 : (0 : Int) ≤ (ii : Int) := by omega
        have hk1 : (ii : Int) < (n : Int) := by omega
        have hk3 : ¬ (ii : Int) < 0 := by omega
        have HE := Lib.hid hi2
        have HK2 := Lib.hid hhi
        generalize zs.getD ii 0 = x at *
        clear hb hpk hnk hlo hi2 hhi
        go_enter Try.func63, Try.ntmps63
        go_wp2_with fail
        refine (around_any _ _ _ _ ks _ HK.out (by omega) hp).mono ?_
        rw [HE.out, HK2.out]
        rintro e w' ⟨rfl, rfl⟩
        go_wp2_with fail
        go_ret
        exact Tells.quiet (n := 0) HT.out.symm HI.out
      · obtain ⟨k, hk2⟩ : ∃ k : Nat, nK ks n (p + 1) = k := ⟨(nK ks n (p + 1)).toNat, by omega⟩
        have hkn0 : k < n := by omega
        have HT := Lib.hid (fgT_mid (zs := zs) (n := n) hb hi2 hk2 hkn0)
        have hx : b < wr.heap.size ∧ wr.cell? ⟨b, off + ii, none⟩ = some (.float .f32 (zs.getD ii 0)) := ⟨lt_of_cell (HZc.out ii hin0), HZc.out ii hin0⟩
        have hy : b < wr.heap.size ∧ wr.cell? ⟨b, off + k, none⟩ = some (.float .f32 (zs.getD k 0)) := ⟨lt_of_cell (HZc.out k hkn0), HZc.out k hkn0⟩
        have hbl : bl < wr.heap.size ∧ wr.cell? ⟨bl, 0, none⟩ = some (.slice (some ⟨b, off, none⟩) n cap) := ⟨hlb, hcl⟩
        have hin : (ii : Int) < (n : Int) := by omega
        have hkn : (k : Int) < (n : Int) := by omega
        have hk3 : ¬ (ii : Int) < 0 := by omega
        have hk4 : ((k : Int) == (n : Int)) = false := by rw [beq_eq_false_iff_ne]; omega
        have hw1 : IntKind.i64.wrap ((p : Int) - (ii : Int)) = (p : Int) - (ii : Int) := by rw [IntKind.wrap_i64]; omega
        have hw2 : IntKind.i64.wrap ((k : Int) - (ii : Int)) = (k : Int) - (ii : Int) := by rw [IntKind.wrap_i64]; omega
        have HE := Lib.hid hi2
        have HK2 := Lib.hid hk2
        have HW := Lib.hid (show cn .f32 (aop .add .f32 (cn .f32 (zs.getD ii 0)) (aop .mul .f32 (aop .sub .f32 (cn .f32 (zs.getD k 0)) (cn .f32 (zs.getD ii 0))) (fgQ p ii k))) = fgM zs p ii k from cn_aop ..)
        generalize hzi : zs.getD ii 0 = x at *
        generalize hzk : zs.getD k 0 = y at *
        clear hb hpk hnk hlo hi2 hhi hk2 hcl
        go_enter Try.func63, Try.ntmps63
        have hcl := hbl.2
        go_wp2_with fail
        refine (around_any _ _ _ _ ks _ HK.out (by omega) hp).mono ?_
        rw [HE.out, HK2.out]
        rintro e w' ⟨rfl, rfl⟩
        go_upto_region 9 with fail
        generalize hQ : fopR .quo .f32 _ _ wr = q
        have HQ := Lib.hid (show cn .f32 q = fgQ p ii k by rw [← hQ, cn_fopR]; rfl)
        clear hQ hcl
        generalize hwA : World.drewN wr _ = wA
        have hbA : Below wr.heap.size wr wA := by rw [← hwA]; exact below_drewN (Below.refl _ _) _
        have hsA : wr.heap.size ≤ wA.heap.size := hbA.size
        replace hx : b < wA.heap.size ∧ wA.cell? ⟨b, off + ii, none⟩ = some (.float .f32 x) := ⟨by omega, by rw [hbA.cell (p := ⟨b, off + ii, none⟩) (by exact hx.1)]; exact hx.2⟩
        replace hy : b < wA.heap.size ∧ wA.cell? ⟨b, off + k, none⟩ = some (.float .f32 y) := ⟨by omega, by rw [hbA.cell (p := ⟨b, off + k, none⟩) (by exact hy.1)]; exact hy.2⟩
        replace hbl : bl < wA.heap.size ∧ wA.cell? ⟨bl, 0, none⟩ = some (.slice (some ⟨b, off, none⟩) n cap) := ⟨by omega, by rw [hbA.cell (p := ⟨bl, 0, none⟩) (by exact hbl.1)]; exact hbl.2⟩
        have HBA := Lib.hid hbA
        clear hwA
        refine wp_region_MV (fgR bl b off n cap ii k x y q) (by kernel_rfl) (fgR_mono bl b off n cap ii k x y q) (by kernel_rfl) ?_ ?_
        · refine ⟨?_, ?_, ?_, ?_, ?_, ?_, ?_, ?_, ?_, ?_, ?_, ?_, ?_, ?_, ?_, ?_, ?_, trivial⟩
          · refine opM_do rfl (fun a_ w' hS hf K hK => ?_)
            have s2 : a_.tmps.getD 2 undef = (.pointer (some ⟨bl, 0, none⟩)) := (hS.rest 2 (by kernel_rfl)).trans rfl
            have kk := (hS.below.cell (p := ⟨bl, 0, none⟩) (by exact hbl.1)).trans hbl.2
            go_simp
            exact hK _ _ (Below.refl _ _) rfl
          · refine opM_do rfl (fun a_ w' hS hf K hK => ?_)
            have s5 : a_.tmps.getD 5 undef = (.int .i64 ii) := (hS.rest 5 (by kernel_rfl)).trans rfl
            go_simp
            exact hK _ _ (Below.refl _ _) rfl
          · refine opM_do rfl (fun a_ w' hS hf K hK => ?_)
            have s47 : a_.tmps.getD 47 undef = (.slice (some ⟨b, off, none⟩) n cap) := hf 0 (by kernel_rfl) _ 47 rfl rfl
            have s48 : a_.tmps.getD 48 undef = (.int .i64 ii) := hf 1 (by kernel_rfl) _ 48 rfl rfl
            have hi0 : (0 : Int) ≤ (ii : Int) := by omega
            have hi1 : (ii : Int) < (n : Int) := hin
            go_simp
            exact hK _ _ (Below.refl _ _) rfl
          · refine opM_do rfl (fun a_ w' hS hf K hK => ?_)
            have s49 : a_.tmps.getD 49 undef = (.pointer (some ⟨b, off + ii, none⟩)) := hf 2 (by kernel_rfl) _ 49 rfl rfl
            have kk := (hS.below.cell (p := ⟨b, off + ii, none⟩) (by exact hx.1)).trans hx.2
            go_simp
            exact hK _ _ (Below.refl _ _) rfl
          · refine opM_do rfl (fun a_ w' hS hf K hK => ?_)
            have s2 : a_.tmps.getD 2 undef = (.pointer (some ⟨bl, 0, none⟩)) := (hS.rest 2 (by kernel_rfl)).trans rfl
            have kk := (hS.below.cell (p := ⟨bl, 0, none⟩) (by exact hbl.1)).trans hbl.2
            go_simp
            exact hK _ _ (Below.refl _ _) rfl
          · refine opM_do rfl (fun a_ w' hS hf K hK => ?_)
            have s6 : a_.tmps.getD 6 undef = (.int .i64 k) := (hS.rest 6 (by kernel_rfl)).trans rfl
            go_simp
            exact hK _ _ (Below.refl _ _) rfl
          · refine opM_do rfl (fun a_ w' hS hf K hK => ?_)
            have s51 : a_.tmps.getD 51 undef = (.slice (some ⟨b, off, none⟩) n cap) := hf 4 (by kernel_rfl) _ 51 rfl rfl
            have s52 : a_.tmps.getD 52 undef = (.int .i64 k) := hf 5 (by kernel_rfl) _ 52 rfl rfl
            have hi0 : (0 : Int) ≤ (k : Int) := by omega
            have hi1 : (k : Int) < (n : Int) := hkn
            go_simp
            exact hK _ _ (Below.refl _ _) rfl
          · refine opM_do rfl (fun a_ w' hS hf K hK => ?_)
            have s53 : a_.tmps.getD 53 undef = (.pointer (some ⟨b, off + k, none⟩)) := hf 6 (by kernel_rfl) _ 53 rfl rfl
            have kk := (hS.below.cell (p := ⟨b, off + k, none⟩) (by exact hy.1)).trans hy.2
            go_simp
            exact hK _ _ (Below.refl _ _) rfl
          · refine opM_do rfl (fun a_ w' hS hf K hK => ?_)
            have s2 : a_.tmps.getD 2 undef = (.pointer (some ⟨bl, 0, none⟩)) := (hS.rest 2 (by kernel_rfl)).trans rfl
            have kk := (hS.below.cell (p := ⟨bl, 0, none⟩) (by exact hbl.1)).trans hbl.2
            go_simp
            exact hK _ _ (Below.refl _ _) rfl
          · refine opM_do rfl (fun a_ w' hS hf K hK => ?_)
            have s5 : a_.tmps.getD 5 undef = (.int .i64 ii) := (hS.rest 5 (by kernel_rfl)).trans rfl
            go_simp
            exact hK _ _ (Below.refl _ _) rfl
          · refine opM_do rfl (fun a_ w' hS hf K hK => ?_)
            have s55 : a_.tmps.getD 55 undef = (.slice (some ⟨b, off, none⟩) n cap) := hf 8 (by kernel_rfl) _ 55 rfl rfl
            have s56 : a_.tmps.getD 56 undef = (.int .i64 ii) := hf 9 (by kernel_rfl) _ 56 rfl rfl
            have hi0 : (0 : Int) ≤ (ii : Int) := by omega
            have hi1 : (ii : Int) < (n : Int) := hin
            go_simp
            exact hK _ _ (Below.refl _ _) rfl
          · refine opM_do rfl (fun a_ w' hS hf K hK => ?_)
            have s57 : a_.tmps.getD 57 undef = (.pointer (some ⟨b, off + ii, none⟩)) := hf 10 (by kernel_rfl) _ 57 rfl rfl
            have kk := (hS.below.cell (p := ⟨b, off + ii, none⟩) (by exact hx.1)).trans hx.2
            go_simp
            exact hK _ _ (Below.refl _ _) rfl
          · refine opM_do rfl (fun a_ w' hS hf K hK => ?_)
            have s54 : a_.tmps.getD 54 undef = (.float .f32 y) := hf 7 (by kernel_rfl) _ 54 rfl rfl
            have s58 : a_.tmps.getD 58 undef = (.float .f32 x) := hf 11 (by kernel_rfl) _ 58 rfl rfl
            go_simp
            exact hK _ _ (by first | exact Below.refl _ _ | exact below_drewN (Below.refl _ _) _) ⟨_, rfl, by first | (rw [cn_fopR]; done) | rw [cn_fopR, cn_one32] | rw [cn_fopR, List.getD_eq_getElem?_getD]⟩
          · refine opM_do rfl (fun a_ w' hS hf K hK => ?_)
            have s7 : a_.tmps.getD 7 undef = (.float .f32 q) := (hS.rest 7 (by kernel_rfl)).trans rfl
            go_simp
            exact hK _ _ (Below.refl _ _) rfl
          · refine opM_do rfl (fun a_ w' hS hf K hK => ?_)
            obtain ⟨r59, s59, e59⟩ := (show ∃ r, a_.tmps.getD 59 undef = .float .f32 r ∧ cn .f32 r = (aop .sub .f32 (cn .f32 y) (cn .f32 x)) from hf 12 (by kernel_rfl) _ 59 rfl rfl)
            have s60 : a_.tmps.getD 60 undef = (.float .f32 q) := hf 13 (by kernel_rfl) _ 60 rfl rfl
            go_simp
            exact hK _ _ (by first | exact Below.refl _ _ | exact below_drewN (Below.refl _ _) _) ⟨_, rfl, by first | (rw [cn_fopR, e59]; done) | rw [cn_fopR, e59, cn_one32] | rw [cn_fopR, e59, List.getD_eq_getElem?_getD]⟩
          · refine opM_do rfl (fun a_ w' hS hf K hK => ?_)
            have s50 : a_.tmps.getD 50 undef = (.float .f32 x) := hf 3 (by kernel_rfl) _ 50 rfl rfl
            obtain ⟨r61, s61, e61⟩ := (show ∃ r, a_.tmps.getD 61 undef = .float .f32 r ∧ cn .f32 r = (aop .mul .f32 (aop .sub .f32 (cn .f32 y) (cn .f32 x)) (cn .f32 q)) from hf 14 (by kernel_rfl) _ 61 rfl rfl)
            go_simp
            exact hK _ _ (by first | exact Below.refl _ _ | exact below_drewN (Below.refl _ _) _) ⟨_, rfl, by first | (rw [cn_fopR, e61]; done) | rw [cn_fopR, e61, cn_one32] | rw [cn_fopR, e61, List.getD_eq_getElem?_getD]⟩
          · refine opM_do rfl (fun a_ w' hS hf K hK => ?_)
            obtain ⟨r62, s62, e62⟩ := (show ∃ r, a_.tmps.getD 62 undef = .float .f32 r ∧ cn .f32 r = (aop .add .f32 (cn .f32 x) (aop .mul .f32 (aop .sub .f32 (cn .f32 y) (cn .f32 x)) (cn .f32 q))) from hf 15 (by kernel_rfl) _ 62 rfl rfl)
            go_simp
            exact hK _ _ (Below.refl _ _) ⟨_, rfl, e62⟩
        intro vs a_ wV hbV hv haV
        obtain ⟨r16, e16, h16⟩ := (show ∃ r, vs 16 = .float .f32 r ∧ cn .f32 r = (aop .add .f32 (cn .f32 x) (aop .mul .f32 (aop .sub .f32 (cn .f32 y) (cn .f32 x)) (cn .f32 q))) from hv 16 (by decide) (by kernel_rfl))
        subst haV
        simp only [putsL, List.setIfInBounds_toArray, List.set_cons_succ, List.set_cons_zero, Nat.reduceAdd, Nat.zero_add]
        rw [e16]
        clear hv e16
        have hb9 : Below wr.heap.size wr wV := hbA.trans ((below_drewN (Below.refl wA.heap.size wA) 1 |>.trans hbV).mono hsA)
        have HR := Lib.hid (show cn .f32 r16 = fgT zs ks n p by rw [h16, HQ.out, HT.out, ← HW.out]; exact (cn_aop ..).symm)
        have HI9 := Lib.hid (show FgI bk bl (some ⟨b', off', none⟩) cap' ks (some ⟨b, off, none⟩) n cap zs (p + 1) wV from ⟨HI.out.1.keep (lt_of_cell HI.out.1.1) hb9, HI.out.2.keep hlb hb9⟩)
        have HB9 := Lib.hid hb9
        clear hb9 hbV
        go_wp2_with fail
        go_ret
        exact ⟨_, rfl, HR.out, HI9.out, HB9.out.mono hB0, HB9.out.block B hB⟩
set_option maxHeartbeats 2000000 in
set_option maxRecDepth 100000 in
theorem imFg_any (a : Option Addr) (n cap : Nat) (zs : List Nat) (a' : Option Addr) (n' cap' : Nat) (ks : List Bool) (w : World) (h : FSl w a n zs) (h' : BSl w a' n' ks) (hm : n ≤ 1048576) (hm' : n' ≤ 1048576) :
    Calls Try.prog 18 #[.slice a n cap, .slice a' n' cap'] w (RetOB 33 (fgX zs ks) (fgOk zs ks) w) := by
  have hmf : ∀ (fn : Fn) (first cap : Array Value) (w : World), (Instr.makeFunc fn first cap).run Try.prog w = .ok (.func fn first cap) w := fun _ _ _ _ => rfl
  obtain ⟨W0, hW0⟩ : ∃ W0, (w.alloc (.cells #[.slice a n cap] 22)).alloc (.cells #[.slice a' n' cap'] 23) = W0 := ⟨_, rfl⟩
  have b1 := (Below.refl w.heap.size w).alloc (Nat.le_refl _) (.cells #[.slice a n cap] 22)
  have b2 := b1.alloc (by simp) (.cells #[.slice a' n' cap'] 23)
  have HG := Lib.hid (show Below w.heap.size w W0 by rw [← hW0]; exact b2)
  have hs0 : w.heap.size + 2 ≤ W0.heap.size := by rw [← hW0]; simp
  have HXl := Lib.hid (show BoxI w.heap.size a n cap zs W0 from (BoxI.start (cap := cap) (t := 22) h).keep (B := w.heap.size + 1) (by omega) (by rw [← hW0]; exact (Below.refl (w.heap.size + 1) _).alloc (by simp) _))
  have HXk := Lib.hid (show BoxB (w.heap.size + 1) a' n' cap' ks W0 from by rw [← hW0]; simpa using BoxB.start (cap := cap') (t := 23) (BSl.below h' b1))
  have HL := Lib.hid h.1
  have HL' := Lib.hid h'.1
  have hc0 := HXl.out.1
  have hc1 := HXk.out.1
  clear h h' b1 b2
  by_cases h1 : n < 1
  · have hd1 : decide ((n : Int) < 1) = true := decide_eq_true (by omega)
    have HB := Lib.hid (fg_bad (show fgB zs ks = false by unfold fgB; rw [HL.out, decide_eq_false (show ¬ (1 ≤ n ∧ n ≤ 96) by omega)]; rfl))
    go_enter Try.func18, Try.ntmps18
    go_upto_region 1 with fail
    (try rw [hW0])
    clear hW0
    go_wp2_with fail
    go_ret2
    exact fail_ob _ HB.out.1 HB.out.2 HG.out
  have hd1 : decide ((n : Int) < 1) = false := decide_eq_false (by omega)
  by_cases h96 : 96 < n
  · have hd2 : decide ((96 : Int) < (n : Int)) = true := decide_eq_true (by omega)
    have HB := Lib.hid (fg_bad (show fgB zs ks = false by unfold fgB; rw [HL.out, decide_eq_false (show ¬ (1 ≤ n ∧ n ≤ 96) by omega)]; rfl))
    go_enter Try.func18, Try.ntmps18
    go_upto_region 1 with fail
    (try rw [hW0])
    clear hW0
    go_wp2_with fail
    go_ret2
    exact fail_ob _ HB.out.1 HB.out.2 HG.out
  have hd2 : decide ((96 : Int) < (n : Int)) = false := decide_eq_false (by omega)
  by_cases hnn : n' = n
  rotate_left
  · have hd3 : ((n' : Int) == (n : Int)) = false := by rw [beq_eq_false_iff_ne]; omega
    have hd4 : ((n' : Int) != (n : Int)) = true := by rw [bne, hd3]; rfl
    have HB := Lib.hid (fg_bad (show fgB zs ks = false by unfold fgB; rw [HL'.out, HL.out, decide_eq_false hnn]; simp))
    go_enter Try.func18, Try.ntmps18
    go_upto_region 1 with fail
    (try rw [hW0])
    clear hW0
    go_wp2_with fail
    go_ret2
    exact fail_ob _ HB.out.1 HB.out.2 HG.out
  subst hnn
  have hn1 : 1 ≤ n' := by omega
  have hn96 : n' ≤ 96 := by omega
  have hBs := HXk.out.bsl HL'.out
  have HBs := Lib.hid hBs
  clear hBs
  cases hany : decide (nK ks n' 0 < n')
  · have HA := Lib.hid hany
    have HB := Lib.hid (fg_bad (show fgB zs ks = false by unfold fgB; rw [HL.out, hany]; simp))
    clear hany
    go_enter Try.func18, Try.ntmps18
    go_upto_region 1 with fail
    (try rw [hW0])
    clear hW0
    go_wp2_with fail
    refine (hasB_any _ _ _ ks _ HBs.out hm).mono ?_
    rw [HA.out]
    rintro e w' ⟨rfl, rfl⟩
    go_wp2_with fail
    go_ret2
    exact fail_ob _ HB.out.1 HB.out.2 HG.out
  · have HA := Lib.hid hany
    have HY := Lib.hid (of_decide_eq_true hany)
    have HB := Lib.hid (fg_good (show fgB zs ks = true by unfold fgB; rw [HL'.out, HL.out, hany, decide_eq_true (show 1 ≤ n' ∧ n' ≤ 96 from ⟨hn1, hn96⟩), decide_eq_true (rfl : n' = n')]; rfl))
    clear hany
    go_enter Try.func18, Try.ntmps18
    go_upto_region 1 with fail
    (try rw [hW0])
    clear hW0
    go_wp2_with fail
    refine (hasB_any _ _ _ ks _ HBs.out hm).mono ?_
    rw [HA.out]
    rintro e w' ⟨rfl, rfl⟩
    go_wp2_with fail
    refine (places_any 63 #[.pointer (some ⟨w.heap.size + 1, 0, none⟩), .pointer (some ⟨w.heap.size, 0, none⟩)] (fgT zs ks n') (FgI (w.heap.size + 1) w.heap.size a' cap' ks a n' cap zs) w.heap.size n' _ (enter_of Try.func63 (by kernel_rfl) rfl) hm HG.out.size ⟨HXk.out, HXl.out⟩
      (fun k wr wr' hI hb => ⟨hI.1.keep (by omega) hb, hI.2.keep (by omega) hb⟩)
      (fun k wr hk hs hI => fg1_any _ _ _ _ _ _ _ _ _ _ _ _ _ hI hk hn96 HL.out HL'.out HY.out hs (by have := HG.out.size; omega))).mono ?_
    rintro e w5 ⟨v, rs, rfl, ho, hx, hb⟩
    have HX := Lib.hid (show cnl rs = fgX zs ks by rw [hx, HB.out.2]; unfold fgL; rw [HL.out])
    have HT := Lib.hid (show fins (tells (fgT zs ks n') n') = fgOk zs ks by rw [HB.out.1]; unfold fgL; rw [HL.out])
    have HO := Lib.hid (ho.mono HG.out.size)
    have HBl := Lib.hid (HG.out.trans hb)
    rw [HT.out]
    clear ho hx hb
    go_wp2_with fail
    go_ret2
    exact ⟨v, rs, rfl, HO.out, HX.out, HBl.out⟩
end Go.Proofs.Ytopgegciejmhaaa

/-
  FillGaps of the model.
-/
namespace Go.Proofs.Ytopgegciejmhaaa
open Ieee Go.RowKit
set_option linter.unusedVariables false
set_option linter.unusedSimpArgs false
def uK (ks : List Bool) (n p : Nat) : Int := if nK ks n p = n then -1 else nK ks n p
theorem uK_end {ks : List Bool} {n p : Nat} (h : nK ks n p = n) : uK ks n p = -1 := by unfold uK; rw [if_pos h]
theorem uK_at {ks : List Bool} {n p k : Nat} (h : nK ks n p = k) (hk : k < n) : uK ks n p = k := by unfold uK; rw [if_neg (by omega), h]
set_option maxRecDepth 100000 in
theorem knownUp_any (a : Option Addr) (n cap p : Nat) (ks : List Bool) (w : World) (h : BSl w a n ks) (hm : n ≤ 1048576) (hp : p ≤ n) :
    Calls Try.prog 58 #[.slice a n cap, .int .i64 p, .int .i64 1] w fun e w' => e = .returned (.int .i64 (uK ks n p)) ∧ w = w' := by
  have H := Lib.hid h
  clear h
  go_enter Try.func58, Try.ntmps58
  go_wp2_with fail
  go_loop [7] (fun i => ∃ k : Nat, k ≤ n ∧ i = .int .i64 k ∧ Hid (nK ks n p = nK ks n k)) (fun i => n - (intOf i).toNat)
  case atStart => exact ⟨p, hp, rfl, Lib.hid rfl⟩
  case round =>
    obtain ⟨k, hk, rfl, hn⟩ := hrel
    have hd0 : decide ((0 : Int) ≤ (k : Int)) = true := decide_eq_true (by omega)
    have hi0 : (0 : Int) ≤ (k : Int) := by omega
    by_cases hlt : k < n
    · obtain ⟨b, off, rfl, _, hc⟩ := H.out.at (show 0 < n by omega)
      have hck := hc k hlt
      have hd1 : decide ((k : Int) < (n : Int)) = true := decide_eq_true (by omega)
      have hi1 : (k : Int) < (n : Int) := by omega
      have hwk : IntKind.i64.wrap ((k : Int) + 1) = (k : Int) + 1 := by rw [IntKind.wrap_i64]; omega
      cases hb : ks.getD k false
      · have HN := Lib.hid (hn.out.trans (nK_no hlt hb))
        rw [hb] at hck
        clear hc hb hn
        go_wp2_with fail
        go_round
        case rel => exact ⟨k + 1, by omega, by go_num, HN⟩
        case measure => simp [intOf]; omega
      · have HN := Lib.hid (show uK ks n p = (k : Int) from uK_at (by rw [hn.out, nK_yes hlt hb]) hlt)
        rw [hb] at hck
        clear hc hb hn
        go_wp2_with fail
        go_ret
        exact ⟨by rw [HN.out]; rfl, rfl⟩
    · obtain rfl : k = n := by omega
      have hd1 : decide ((k : Int) < (k : Int)) = false := decide_eq_false (by omega)
      have HN := Lib.hid (show uK ks k p = (-1 : Int) from uK_end (by rw [hn.out, nK_end]))
      clear hn
      go_wp2_with fail
      go_ret
      exact ⟨by rw [HN.out]; rfl, rfl⟩
set_option maxRecDepth 100000 in
theorem knownDn_any (a : Option Addr) (n cap p : Nat) (ks : List Bool) (w : World) (h : BSl w a n ks) (hm : n ≤ 1048576) (hp : p < n) :
    Calls Try.prog 58 #[.slice a n cap, .int .i64 p, .int .i64 (-1)] w fun e w' => e = .returned (.int .i64 (pK ks (p + 1))) ∧ w = w' := by
  obtain ⟨b, off, rfl, _, hc⟩ := h.at (show 0 < n by omega)
  have HCe := Lib.hid hc
  have hp0 : (p : Int) = ((p + 1 : Nat) : Int) - 1 := by omega
  clear h hc
  go_enter Try.func58, Try.ntmps58
  go_wp2_with fail
  go_loop [7] (fun i => ∃ j : Nat, j ≤ p + 1 ∧ i = .int .i64 ((j : Int) - 1) ∧ Hid (pK ks (p + 1) = pK ks j)) (fun i => (intOf i + 1).toNat)
  case atStart => exact ⟨p + 1, Nat.le_refl _, by rw [← hp0], Lib.hid rfl⟩
  case round =>
    obtain ⟨j, hj, rfl, hn⟩ := hrel
    cases j with
    | zero =>
      have HP := Lib.hid (show pK ks (p + 1) = -1 from hn.out)
      have hd0 : decide ((0 : Int) ≤ -1) = false := by decide
      have e1 : (((0 : Nat) : Int) - 1) = -1 := by decide
      rw [e1]
      clear hn hp0 e1
      go_wp2_with fail
      go_ret
      exact ⟨by rw [HP.out]; rfl, rfl⟩
    | succ j =>
      have e1 : ((j + 1 : Nat) : Int) - 1 = (j : Int) := by omega
      rw [e1]
      have hcj := HCe.out j (by omega)
      have hd0 : decide ((0 : Int) ≤ (j : Int)) = true := decide_eq_true (by omega)
      have hi0 : (0 : Int) ≤ (j : Int) := by omega
      have hd1 : decide ((j : Int) < (n : Int)) = true := decide_eq_true (by omega)
      have hi1 : (j : Int) < (n : Int) := by omega
      have hwj : IntKind.i64.wrap ((j : Int) + -1) = (j : Int) - 1 := by rw [IntKind.wrap_i64]; omega
      cases hb : ks.getD j false
      · have HN := Lib.hid (hn.out.trans (pK_no hb))
        rw [hb] at hcj
        clear hb hn e1 hp0
        go_wp2_with fail
        go_round
        case rel => exact ⟨j, by omega, rfl, HN⟩
        case measure => simp [intOf] <;> omega
      · have HP := Lib.hid (show pK ks (p + 1) = (j : Int) by rw [hn.out, pK_yes hb])
        rw [hb] at hcj
        clear hb hn e1 hp0
        go_wp2_with fail
        go_ret
        exact ⟨by rw [HP.out]; rfl, rfl⟩
def fgS (b off n cap cp ii k x y q2 : Nat) (A : Option Addr) (rs : List Nat) : Nat → Value → World → Prop
  | 0, v, w => v = (.slice A rs.length cp)
  | 1, v, w => v = (.slice (some ⟨b, off, none⟩) n cap)
  | 2, v, w => v = (.int .i64 ii)
  | 3, v, w => v = (.pointer (some ⟨b, off + ii, none⟩))
  | 4, v, w => v = (.float .f32 x)
  | 5, v, w => v = (.slice (some ⟨b, off, none⟩) n cap)
  | 6, v, w => v = (.int .i64 k)
  | 7, v, w => v = (.pointer (some ⟨b, off + k, none⟩))
  | 8, v, w => v = (.float .f32 y)
  | 9, v, w => v = (.slice (some ⟨b, off, none⟩) n cap)
  | 10, v, w => v = (.int .i64 ii)
  | 11, v, w => v = (.pointer (some ⟨b, off + ii, none⟩))
  | 12, v, w => v = (.float .f32 x)
  | 13, v, w => ∃ r, v = .float .f32 r ∧ cn .f32 r = (aop .sub .f32 (cn .f32 y) (cn .f32 x))
  | 14, v, w => v = (.float .f32 q2)
  | 15, v, w => ∃ r, v = .float .f32 r ∧ cn .f32 r = (aop .mul .f32 (aop .sub .f32 (cn .f32 y) (cn .f32 x)) (cn .f32 q2))
  | 16, v, w => ∃ r, v = .float .f32 r ∧ cn .f32 r = (aop .add .f32 (cn .f32 x) (aop .mul .f32 (aop .sub .f32 (cn .f32 y) (cn .f32 x)) (cn .f32 q2)))
  | 17, v, w => ∃ g r, v = .slice (some ⟨g, 0, none⟩) 1 1 ∧ g < w.heap.size ∧ w.cell? ⟨g, 0, none⟩ = some (.float .f32 r) ∧ cn .f32 r = (aop .add .f32 (cn .f32 x) (aop .mul .f32 (aop .sub .f32 (cn .f32 y) (cn .f32 x)) (cn .f32 q2)))
  | _, _, _ => True
theorem fgS_mono (b off n cap cp ii k x y q2 : Nat) (A : Option Addr) (rs : List Nat) : ∀ i v w w', fgS b off n cap cp ii k x y q2 A rs i v w → Below w.heap.size w w' → fgS b off n cap cp ii k x y q2 A rs i v w'
  := by
  intro i v w w' h hb
  unfold fgS at *
  split
  · exact h
  · exact h
  · exact h
  · exact h
  · exact h
  · exact h
  · exact h
  · exact h
  · exact h
  · exact h
  · exact h
  · exact h
  · exact h
  · exact h
  · exact h
  · exact h
  · exact h
  · exact (by obtain ⟨g, r, h1, h2, h3, h4⟩ := h; exact ⟨g, r, h1, Nat.lt_of_lt_of_le h2 hb.size, (hb.cell (p := ⟨g, 0, none⟩) (by exact h2)).trans h3, h4⟩)
  · trivial
set_option maxHeartbeats 4000000 in
set_option maxRecDepth 100000 in
theorem spFg_any (a : Option Addr) (n cap : Nat) (zs : List Nat) (a' : Option Addr) (n' cap' : Nat) (ks : List Bool) (w : World) (h : FSl w a n zs) (h' : BSl w a' n' ks) (hm : n ≤ 1048576) (hm' : n' ≤ 1048576) :
    Calls Try.prog 15 #[.slice a n cap, .slice a' n' cap'] w (RetOB 33 (fgX zs ks) (fgOk zs ks) w) := by
  obtain ⟨i0, hi, hz0, hz1, hz2⟩ := info_parts Try.infoR
  have HH := Lib.hid h
  have HK := Lib.hid h'
  have HL := Lib.hid h.1
  have HL' := Lib.hid h'.1
  clear h h'
  by_cases h1 : n < 1
  · have hd1 : decide ((n : Int) < 1) = true := decide_eq_true (by omega)
    have HB := Lib.hid (fg_bad (show fgB zs ks = false by unfold fgB; rw [HL.out, decide_eq_false (show ¬ (1 ≤ n ∧ n ≤ 96) by omega)]; rfl))
    go_enter Try.func15, Try.ntmps15
    go_wp2_with fail
    go_ret2
    exact fail_ob _ HB.out.1 HB.out.2 (Below.refl _ _)
  have hd1 : decide ((n : Int) < 1) = false := decide_eq_false (by omega)
  by_cases h96 : 96 < n
  · have hd2 : decide ((96 : Int) < (n : Int)) = true := decide_eq_true (by omega)
    have HB := Lib.hid (fg_bad (show fgB zs ks = false by unfold fgB; rw [HL.out, decide_eq_false (show ¬ (1 ≤ n ∧ n ≤ 96) by omega)]; rfl))
    go_enter Try.func15, Try.ntmps15
    go_wp2_with fail
    go_ret2
    exact fail_ob _ HB.out.1 HB.out.2 (Below.refl _ _)
  have hd2 : decide ((96 : Int) < (n : Int)) = false := decide_eq_false (by omega)
  by_cases hnn : n' = n
  rotate_left
  · have hd3 : ((n' : Int) == (n : Int)) = false := by rw [beq_eq_false_iff_ne]; omega
    have hd4 : ((n' : Int) != (n : Int)) = true := by rw [bne, hd3]; rfl
    have HB := Lib.hid (fg_bad (show fgB zs ks = false by unfold fgB; rw [HL'.out, HL.out, decide_eq_false hnn]; simp))
    go_enter Try.func15, Try.ntmps15
    go_wp2_with fail
    go_ret2
    exact fail_ob _ HB.out.1 HB.out.2 (Below.refl _ _)
  obtain rfl : n = n' := hnn.symm
  have hn1 : 1 ≤ n := by omega
  have hn96 : n ≤ 96 := by omega
  clear h1 h96
  have hin0 := nK_in ks n 0 (Nat.zero_add n)
  by_cases hany : nK ks n 0 < n
  rotate_left
  · have HU := Lib.hid (uK_end (show nK ks n 0 = n by omega))
    have HB := Lib.hid (fg_bad (show fgB zs ks = false by unfold fgB; rw [HL.out, decide_eq_false hany]; simp))
    clear hany hin0
    go_enter Try.func15, Try.ntmps15
    go_wp2_with fail
    refine (knownUp_any _ _ _ 0 ks _ HK.out hm (Nat.zero_le _)).mono ?_
    rw [HU.out]
    rintro e w' ⟨rfl, rfl⟩
    go_wp2_with fail
    go_ret2
    exact fail_ob _ HB.out.1 HB.out.2 (Below.refl _ _)
  have HBB := Lib.hid (show fgB zs ks = true by unfold fgB; rw [HL'.out, HL.out, decide_eq_true hany, decide_eq_true (show 1 ≤ n ∧ n ≤ 96 from ⟨hn1, hn96⟩), decide_eq_true (rfl : n = n)]; rfl)
  have HY := Lib.hid hany
  obtain ⟨k0, hk0⟩ : ∃ k0 : Nat, nK ks n 0 = k0 := ⟨(nK ks n 0).toNat, by omega⟩
  have HU := Lib.hid (uK_at hk0 (by omega))
  have hd5 : decide ((k0 : Int) < 0) = false := decide_eq_false (by omega)
  have hd6 : ¬ (k0 : Int) < 0 := by omega
  obtain ⟨b, off, rfl, hbl, hzs⟩ := HH.out.at (show 0 < n by omega)
  obtain ⟨b', off', rfl, hbl', hks⟩ := HK.out.at (show 0 < n by omega)
  have HZc := Lib.hid hzs
  have HKc := Lib.hid hks
  clear hany hin0 hk0 hzs hks
  go_enter Try.func15, Try.ntmps15
  go_wp2_with fail
  refine (knownUp_any _ _ _ 0 ks _ HK.out hm (Nat.zero_le _)).mono ?_
  rw [HU.out]
  rintro e w' ⟨rfl, rfl⟩
  go_wp2_with fail
  clear hd5 hd6
  go_loopw [7] (fun i wr => ∃ k q : Nat, k ≤ n ∧ i = .int .i64 k ∧ wr = w.drewN q) (fun i _ => n - (intOf i).toNat)
  case atStart => exact ⟨0, 0, Nat.zero_le _, rfl, rfl⟩
  case round =>
    rename World => wr
    obtain ⟨k, q, hk, rfl, rfl⟩ := hrel
    by_cases hlt : k < n
    · have hck := HKc.out k hlt
      have hcz := HZc.out k hlt
      cases hb : ks.getD k false
      · rw [hb] at hck
        clear hb
        go_wp2_with fail
        go_roundw
        case rel => exact ⟨k + 1, q, by omega, by go_num, rfl⟩
        case measure => simp [intOf]; omega
      · rw [hb] at hck
        cases hf : fin .f32 (zs.getD k 0)
        · have HF := Lib.hid hf
          have HB := Lib.hid (fg_fail HBB.out (fg_known (by rw [HL.out]; exact hlt) hb hf))
          clear hb hf
          generalize zs.getD k 0 = x at *
          go_wp2_with fail
          refine (l01Finite_any _ _).mono ?_
          rw [HF.out]
          rintro e w3 ⟨q3, rfl, rfl⟩
          go_wp2_with fail
          go_ret2
          exact fail_ob _ HB.out.1 HB.out.2 (by first | exact below_drewN (Below.refl _ _) _ | exact below_drewN (below_drewN (Below.refl _ _) _) _)
        · have HF := Lib.hid hf
          clear hb hf
          generalize zs.getD k 0 = x at *
          go_wp2_with fail
          refine (l01Finite_any _ _).mono ?_
          rw [HF.out]
          rintro e w3 ⟨q3, rfl, rfl⟩
          go_wp2_with fail
          go_roundw
          case rel => exact ⟨k + 1, _, by omega, by go_num, rfl⟩
          case measure => simp [intOf]; omega
    · obtain rfl : n = k := by omega
      have HM0 := Lib.hid (FOwn.made (T := 33) (B := w.heap.size) (w.drewN q) (Nat.le_refl _))
      have HG0 := Lib.hid ((below_drewN (Below.refl w.heap.size w) q).alloc (Nat.le_refl _) (.cells #[] 33))
      have HD0 := Lib.hid (show cnl ([] : List Nat) = tells (fgT zs ks n) 0 from rfl)
      go_wp2_with fail
      go_loopw [8, 9] (fun v i wr => ∃ (p : Nat) (rs : List Nat), p ≤ n ∧ i = .int .i64 p ∧ Hid (rs.length = p) ∧ Hid (FOwn 33 w.heap.size wr v rs) ∧ Hid (cnl rs = tells (fgT zs ks n) p) ∧ Hid (Below w.heap.size w wr)) (fun _ i _ => n - (intOf i).toNat)
      case atStart => exact ⟨0, [], Nat.zero_le _, rfl, Lib.hid rfl, HM0, HD0, HG0⟩
      case round =>
        rename World => wr
        obtain ⟨p, rs, hp, rfl, hln, ho, hcl, hbw⟩ := hrel
        by_cases hpn : p < n
        · have hwr := hbw.out.size
          obtain ⟨A, cp, rfl, -, -⟩ := ho.out.sl
          have HOr := Lib.hid ho.out
          have HBr := Lib.hid hbw.out
          have hrl : rs.length ≤ 96 := by have := hln.out; omega
          have HKw := Lib.hid (BSl.below HK.out hbw.out)
          have hcw : ∀ c, b < w.heap.size → wr.cell? ⟨b, c, none⟩ = w.cell? ⟨b, c, none⟩ := fun c hb => hbw.out.cell (p := ⟨b, c, none⟩) (by exact hb)
          have HCw := Lib.hid hcw
          clear ho hbw hcw
          have hpk := pK_in ks p
          have hnk := nK_in ks (n := n) (n - (p + 1)) (p + 1) (by omega)
          cases hb : ks.getD p false
          rotate_left
          · have HE := Lib.hid (pK_yes hb)
            have HU2 := Lib.hid (uK_at (nK_yes hpn hb) hpn)
            have hzp := (HCw.out (off + p) hbl).trans (HZc.out p hpn)
            have HT := Lib.hid (fgT_yes (zs := zs) (n := n) hb)
            have hi0 : (0 : Int) ≤ (p : Int) := by omega
            have hi1 : (p : Int) < (n : Int) := by omega
            generalize zs.getD p 0 = x at *
            clear hb hpk hnk
            go_wp2_with fail
            refine (knownDn_any _ _ _ p ks _ HKw.out hm hpn).mono ?_
            rw [HE.out]
            rintro e w' ⟨rfl, rfl⟩
            go_wp2_with fail
            refine (knownUp_any _ _ _ p ks _ HKw.out hm hp).mono ?_
            rw [HU2.out]
            rintro e w' ⟨rfl, rfl⟩
            go_wp2_with (at_builtin; refine wpList_append_lies _ rfl _ _ 22 rfl w.heap.size 33 i0 (.float .f32 0) 1 4 Try.underlying22 hi hz0 hz1 hz2 rfl (by decide) _ _ _ rfl (World.ownsRow.alloc HOr.out _) ⟨wr.heap.size, 0, none⟩ 1 1 [_] rfl rfl (one_new rfl) ?c2 (by decide) ?c3 ?c4 ?c5 _ rfl ?_)
            case c2 => first | rfl | (intro u hu; simp at hu; subst hu; rfl)
            case c3 => unfold maxLen; omega
            case c4 => omega
            case c5 => first | omega | (simp; omega)
            intro ga ca w2 hown hgrow hat hglt
            have R := FOwn.push (n := 0) HOr.out (Below.refl _ _) hwr hown hgrow
            have Ha2 := Lib.hid R.1
            have HB2 := Lib.hid (HBr.out.trans R.2)
            have HC2 := Lib.hid ((cnl_snoc hcl.out (show cn .f32 x = fgT zs ks n p from HT.out.symm)).trans (tells_succ (fgT zs ks n) p).symm)
            clear R hown hgrow hat hglt
            go_wp2_with fail
            go_roundw
            case rel => exact ⟨p + 1, rs ++ [x], by omega, by go_num, Lib.hid (by rw [List.length_append, hln.out]; rfl), Ha2, HC2, HB2⟩
            case measure => simp [intOf]; omega
          · have hE := pK_no hb
            have hN := nK_no hpn hb
            by_cases hlo : pK ks p < 0
            · have he : pK ks (p + 1) = -1 := by rw [hE]; omega
              have hlt : nK ks n (p + 1) < n := by rw [← nK_no hpn hb, ← pK_neg (by omega) hlo]; exact HY.out
              obtain ⟨k, hk2⟩ : ∃ k : Nat, nK ks n (p + 1) = k := ⟨(nK ks n (p + 1)).toNat, by omega⟩
              have hkn : k < n := by omega
              have HT := Lib.hid (fgT_lo (zs := zs) (n := n) hb hlo hk2)
              have HE := Lib.hid he
              have HU2 := Lib.hid (uK_at (hN.trans hk2) hkn)
              have hzp := (HCw.out (off + k) hbl).trans (HZc.out k hkn)
              have hi0 : (0 : Int) ≤ (k : Int) := by omega
              have hi1 : (k : Int) < (n : Int) := by omega
              have hne : ((-1 : Int) == (p : Int)) = false := by rw [beq_eq_false_iff_ne]; omega
              generalize zs.getD k 0 = x at *
              clear hb hpk hnk hE hN hlo he hlt hk2
              go_wp2_with fail
              refine (knownDn_any _ _ _ p ks _ HKw.out hm hpn).mono ?_
              rw [HE.out]
              rintro e w' ⟨rfl, rfl⟩
              go_wp2_with fail
              refine (knownUp_any _ _ _ p ks _ HKw.out hm hp).mono ?_
              rw [HU2.out]
              rintro e w' ⟨rfl, rfl⟩
              go_wp2_with (at_builtin; refine wpList_append_lies _ rfl _ _ 22 rfl w.heap.size 33 i0 (.float .f32 0) 1 4 Try.underlying22 hi hz0 hz1 hz2 rfl (by decide) _ _ _ rfl (World.ownsRow.alloc HOr.out _) ⟨wr.heap.size, 0, none⟩ 1 1 [_] rfl rfl (one_new rfl) ?c2 (by decide) ?c3 ?c4 ?c5 _ rfl ?_)
              case c2 => first | rfl | (intro u hu; simp at hu; subst hu; rfl)
              case c3 => unfold maxLen; omega
              case c4 => omega
              case c5 => first | omega | (simp; omega)
              intro ga ca w2 hown hgrow hat hglt
              have R := FOwn.push (n := 0) HOr.out (Below.refl _ _) hwr hown hgrow
              have Ha2 := Lib.hid R.1
              have HB2 := Lib.hid (HBr.out.trans R.2)
              have HC2 := Lib.hid ((cnl_snoc hcl.out (show cn .f32 x = fgT zs ks n p from HT.out.symm)).trans (tells_succ (fgT zs ks n) p).symm)
              clear R hown hgrow hat hglt
              go_wp2_with fail
              go_roundw
              case rel => exact ⟨p + 1, rs ++ [x], by omega, by go_num, Lib.hid (by rw [List.length_append, hln.out]; rfl), Ha2, HC2, HB2⟩
              case measure => simp [intOf]; omega
            · obtain ⟨ii, hi2⟩ : ∃ ii : Nat, pK ks p = ii := ⟨(pK ks p).toNat, by omega⟩
              have hin0 : ii < n := by omega
              have hne : ((ii : Int) == (p : Int)) = false := by rw [beq_eq_false_iff_ne]; omega
              have hk3 : ¬ (ii : Int) < 0 := by omega
              have hd3 : decide ((ii : Int) < 0) = false := decide_eq_false hk3
              have HE := Lib.hid (hE.trans hi2)
              by_cases hhi : nK ks n (p + 1) = n
              · have HT := Lib.hid (fgT_hi (zs := zs) (n := n) hb hi2 hhi)
                have HU2 := Lib.hid (uK_end (hN.trans hhi))
                have hzp := (HCw.out (off + ii) hbl).trans (HZc.out ii hin0)
                have hi0 : (0 : Int) ≤ (ii : Int) := by omega
                have hi1 : (ii : Int) < (n : Int) := by omega
                generalize zs.getD ii 0 = x at *
                clear hb hpk hnk hE hN hlo hi2 hhi
                go_wp2_with fail
                refine (knownDn_any _ _ _ p ks _ HKw.out hm hpn).mono ?_
                rw [HE.out]
                rintro e w' ⟨rfl, rfl⟩
                go_wp2_with fail
                refine (knownUp_any _ _ _ p ks _ HKw.out hm hp).mono ?_
                rw [HU2.out]
                rintro e w' ⟨rfl, rfl⟩
                go_wp2_with (at_builtin; refine wpList_append_lies _ rfl _ _ 22 rfl w.heap.size 33 i0 (.float .f32 0) 1 4 Try.underlying22 hi hz0 hz1 hz2 rfl (by decide) _ _ _ rfl (World.ownsRow.alloc HOr.out _) ⟨wr.heap.size, 0, none⟩ 1 1 [_] rfl rfl (one_new rfl) ?c2 (by decide) ?c3 ?c4 ?c5 _ rfl ?_)
                case c2 => first | rfl | (intro u hu; simp at hu; subst hu; rfl)
                case c3 => unfold maxLen; omega
                case c4 => omega
                case c5 => first | omega | (simp; omega)
                intro ga ca w2 hown hgrow hat hglt
                have R := FOwn.push (n := 0) HOr.out (Below.refl _ _) hwr hown hgrow
                have Ha2 := Lib.hid R.1
                have HB2 := Lib.hid (HBr.out.trans R.2)
                have HC2 := Lib.hid ((cnl_snoc hcl.out (show cn .f32 x = fgT zs ks n p from HT.out.symm)).trans (tells_succ (fgT zs ks n) p).symm)
                clear R hown hgrow hat hglt
                go_wp2_with fail
                go_roundw
                case rel => exact ⟨p + 1, rs ++ [x], by omega, by go_num, Lib.hid (by rw [List.length_append, hln.out]; rfl), Ha2, HC2, HB2⟩
                case measure => simp [intOf]; omega
              · obtain ⟨k, hk2⟩ : ∃ k : Nat, nK ks n (p + 1) = k := ⟨(nK ks n (p + 1)).toNat, by omega⟩
                have hkn0 : k < n := by omega
                have HT := Lib.hid (fgT_mid (zs := zs) (n := n) hb hi2 hk2 hkn0)
                have HU2 := Lib.hid (uK_at (hN.trans hk2) hkn0)
                have hx0 := (HCw.out (off + ii) hbl).trans (HZc.out ii hin0)
                have hy0 := (HCw.out (off + k) hbl).trans (HZc.out k hkn0)
                have hin : (ii : Int) < (n : Int) := by omega
                have hkn : (k : Int) < (n : Int) := by omega
                have hk4 : ¬ (k : Int) < 0 := by omega
                have hd4 : decide ((k : Int) < 0) = false := decide_eq_false hk4
                have hw1 : IntKind.i64.wrap ((p : Int) - (ii : Int)) = (p : Int) - (ii : Int) := by rw [IntKind.wrap_i64]; omega
                have hw2 : IntKind.i64.wrap ((k : Int) - (ii : Int)) = (k : Int) - (ii : Int) := by rw [IntKind.wrap_i64]; omega
                have HW := Lib.hid (show cn .f32 (aop .add .f32 (cn .f32 (zs.getD ii 0)) (aop .mul .f32 (aop .sub .f32 (cn .f32 (zs.getD k 0)) (cn .f32 (zs.getD ii 0))) (fgQ p ii k))) = fgM zs p ii k from cn_aop ..)
                generalize hzi : zs.getD ii 0 = x at *
                generalize hzk : zs.getD k 0 = y at *
                clear hb hpk hnk hE hN hlo hi2 hhi hk2
                go_wp2_with fail
                refine (knownDn_any _ _ _ p ks _ HKw.out hm hpn).mono ?_
                rw [HE.out]
                rintro e w' ⟨rfl, rfl⟩
                go_wp2_with fail
                refine (knownUp_any _ _ _ p ks _ HKw.out hm hp).mono ?_
                rw [HU2.out]
                rintro e w' ⟨rfl, rfl⟩
                go_upto_region 16 with fail
                generalize hQ : fopR .quo .f32 _ _ wr = q2
                have HQ := Lib.hid (show cn .f32 q2 = fgQ p ii k by rw [← hQ, cn_fopR]; rfl)
                clear hQ
                generalize hwA : World.drewN wr _ = wA
                have hbA : Below wr.heap.size wr wA := by rw [← hwA]; exact below_drewN (Below.refl _ _) _
                have hsA : wr.heap.size ≤ wA.heap.size := hbA.size
                have hx : b < wA.heap.size ∧ wA.cell? ⟨b, off + ii, none⟩ = some (.float .f32 x) := ⟨by omega, by rw [hbA.cell (p := ⟨b, off + ii, none⟩) (by show b < _; omega)]; exact hx0⟩
                have hy : b < wA.heap.size ∧ wA.cell? ⟨b, off + k, none⟩ = some (.float .f32 y) := ⟨by omega, by rw [hbA.cell (p := ⟨b, off + k, none⟩) (by show b < _; omega)]; exact hy0⟩
                have HBA := Lib.hid hbA
                clear hwA hx0 hy0
                refine wp_region_MT (m := 18) (fgS b off n cap cp ii k x y q2 A rs) (by kernel_rfl) (fgS_mono b off n cap cp ii k x y q2 A rs) (by kernel_rfl) (by kernel_rfl) ?_ ?_
                · refine ⟨?_, ?_, ?_, ?_, ?_, ?_, ?_, ?_, ?_, ?_, ?_, ?_, ?_, ?_, ?_, ?_, ?_, ?_, trivial⟩
                  · refine opT_do rfl (fun a_ w' hS hf K hK => ?_)
                    have s8 : a_.tmps.getD 8 undef = (.slice A rs.length cp) := (hS.rest 8 (by kernel_rfl)).trans rfl
                    go_simp
                    exact hK _ _ (Below.refl _ _) rfl
                  · refine opT_do rfl (fun a_ w' hS hf K hK => ?_)
                    have s0 : a_.tmps.getD 0 undef = (.slice (some ⟨b, off, none⟩) n cap) := (hS.rest 0 (by kernel_rfl)).trans rfl
                    go_simp
                    exact hK _ _ (Below.refl _ _) rfl
                  · refine opT_do rfl (fun a_ w' hS hf K hK => ?_)
                    have s10 : a_.tmps.getD 10 undef = (.int .i64 ii) := (hS.rest 10 (by kernel_rfl)).trans rfl
                    go_simp
                    exact hK _ _ (Below.refl _ _) rfl
                  · refine opT_do rfl (fun a_ w' hS hf K hK => ?_)
                    have s71 : a_.tmps.getD 71 undef = (.slice (some ⟨b, off, none⟩) n cap) := hf 1 (by kernel_rfl) _ 71 rfl rfl
                    have s72 : a_.tmps.getD 72 undef = (.int .i64 ii) := hf 2 (by kernel_rfl) _ 72 rfl rfl
                    have hi0 : (0 : Int) ≤ (ii : Int) := by omega
                    have hi1 : (ii : Int) < (n : Int) := hin
                    go_simp
                    exact hK _ _ (Below.refl _ _) rfl
                  · refine opT_do rfl (fun a_ w' hS hf K hK => ?_)
                    have s73 : a_.tmps.getD 73 undef = (.pointer (some ⟨b, off + ii, none⟩)) := hf 3 (by kernel_rfl) _ 73 rfl rfl
                    have kk := (hS.below.cell (p := ⟨b, off + ii, none⟩) (by exact hx.1)).trans hx.2
                    go_simp
                    exact hK _ _ (Below.refl _ _) rfl
                  · refine opT_do rfl (fun a_ w' hS hf K hK => ?_)
                    have s0 : a_.tmps.getD 0 undef = (.slice (some ⟨b, off, none⟩) n cap) := (hS.rest 0 (by kernel_rfl)).trans rfl
                    go_simp
                    exact hK _ _ (Below.refl _ _) rfl
                  · refine opT_do rfl (fun a_ w' hS hf K hK => ?_)
                    have s11 : a_.tmps.getD 11 undef = (.int .i64 k) := (hS.rest 11 (by kernel_rfl)).trans rfl
                    go_simp
                    exact hK _ _ (Below.refl _ _) rfl
                  · refine opT_do rfl (fun a_ w' hS hf K hK => ?_)
                    have s75 : a_.tmps.getD 75 undef = (.slice (some ⟨b, off, none⟩) n cap) := hf 5 (by kernel_rfl) _ 75 rfl rfl
                    have s76 : a_.tmps.getD 76 undef = (.int .i64 k) := hf 6 (by kernel_rfl) _ 76 rfl rfl
                    have hi0 : (0 : Int) ≤ (k : Int) := by omega
                    have hi1 : (k : Int) < (n : Int) := hkn
                    go_simp
                    exact hK _ _ (Below.refl _ _) rfl
                  · refine opT_do rfl (fun a_ w' hS hf K hK => ?_)
                    have s77 : a_.tmps.getD 77 undef = (.pointer (some ⟨b, off + k, none⟩)) := hf 7 (by kernel_rfl) _ 77 rfl rfl
                    have kk := (hS.below.cell (p := ⟨b, off + k, none⟩) (by exact hy.1)).trans hy.2
                    go_simp
                    exact hK _ _ (Below.refl _ _) rfl
                  · refine opT_do rfl (fun a_ w' hS hf K hK => ?_)
                    have s0 : a_.tmps.getD 0 undef = (.slice (some ⟨b, off, none⟩) n cap) := (hS.rest 0 (by kernel_rfl)).trans rfl
                    go_simp
                    exact hK _ _ (Below.refl _ _) rfl
                  · refine opT_do rfl (fun a_ w' hS hf K hK => ?_)
                    have s10 : a_.tmps.getD 10 undef = (.int .i64 ii) := (hS.rest 10 (by kernel_rfl)).trans rfl
                    go_simp
                    exact hK _ _ (Below.refl _ _) rfl
                  · refine opT_do rfl (fun a_ w' hS hf K hK => ?_)
                    have s79 : a_.tmps.getD 79 undef = (.slice (some ⟨b, off, none⟩) n cap) := hf 9 (by kernel_rfl) _ 79 rfl rfl
                    have s80 : a_.tmps.getD 80 undef = (.int .i64 ii) := hf 10 (by kernel_rfl) _ 80 rfl rfl
                    have hi0 : (0 : Int) ≤ (ii : Int) := by omega
                    have hi1 : (ii : Int) < (n : Int) := hin
                    go_simp
                    exact hK _ _ (Below.refl _ _) rfl
                  · refine opT_do rfl (fun a_ w' hS hf K hK => ?_)
                    have s81 : a_.tmps.getD 81 undef = (.pointer (some ⟨b, off + ii, none⟩)) := hf 11 (by kernel_rfl) _ 81 rfl rfl
                    have kk := (hS.below.cell (p := ⟨b, off + ii, none⟩) (by exact hx.1)).trans hx.2
                    go_simp
                    exact hK _ _ (Below.refl _ _) rfl
                  · refine opT_do rfl (fun a_ w' hS hf K hK => ?_)
                    have s78 : a_.tmps.getD 78 undef = (.float .f32 y) := hf 8 (by kernel_rfl) _ 78 rfl rfl
                    have s82 : a_.tmps.getD 82 undef = (.float .f32 x) := hf 12 (by kernel_rfl) _ 82 rfl rfl
                    go_simp
                    exact hK _ _ (by first | exact Below.refl _ _ | exact below_drewN (Below.refl _ _) _) ⟨_, rfl, by first | (rw [cn_fopR]; done) | rw [cn_fopR, cn_one32] | rw [cn_fopR, List.getD_eq_getElem?_getD]⟩
                  · refine opT_do rfl (fun a_ w' hS hf K hK => ?_)
                    have s12 : a_.tmps.getD 12 undef = (.float .f32 q2) := (hS.rest 12 (by kernel_rfl)).trans rfl
                    go_simp
                    exact hK _ _ (Below.refl _ _) rfl
                  · refine opT_do rfl (fun a_ w' hS hf K hK => ?_)
                    obtain ⟨r83, s83, e83⟩ := (show ∃ r, a_.tmps.getD 83 undef = .float .f32 r ∧ cn .f32 r = (aop .sub .f32 (cn .f32 y) (cn .f32 x)) from hf 13 (by kernel_rfl) _ 83 rfl rfl)
                    have s84 : a_.tmps.getD 84 undef = (.float .f32 q2) := hf 14 (by kernel_rfl) _ 84 rfl rfl
                    go_simp
                    exact hK _ _ (by first | exact Below.refl _ _ | exact below_drewN (Below.refl _ _) _) ⟨_, rfl, by first | (rw [cn_fopR, e83]; done) | rw [cn_fopR, e83, cn_one32] | rw [cn_fopR, e83, List.getD_eq_getElem?_getD]⟩
                  · refine opT_do rfl (fun a_ w' hS hf K hK => ?_)
                    have s74 : a_.tmps.getD 74 undef = (.float .f32 x) := hf 4 (by kernel_rfl) _ 74 rfl rfl
                    obtain ⟨r85, s85, e85⟩ := (show ∃ r, a_.tmps.getD 85 undef = .float .f32 r ∧ cn .f32 r = (aop .mul .f32 (aop .sub .f32 (cn .f32 y) (cn .f32 x)) (cn .f32 q2)) from hf 15 (by kernel_rfl) _ 85 rfl rfl)
                    go_simp
                    exact hK _ _ (by first | exact Below.refl _ _ | exact below_drewN (Below.refl _ _) _) ⟨_, rfl, by first | (rw [cn_fopR, e85]; done) | rw [cn_fopR, e85, cn_one32] | rw [cn_fopR, e85, List.getD_eq_getElem?_getD]⟩
                  · refine opT_do rfl (fun a_ w' hS hf K hK => ?_)
                    obtain ⟨r86, s86, e86⟩ := (show ∃ r, a_.tmps.getD 86 undef = .float .f32 r ∧ cn .f32 r = (aop .add .f32 (cn .f32 x) (aop .mul .f32 (aop .sub .f32 (cn .f32 y) (cn .f32 x)) (cn .f32 q2))) from hf 16 (by kernel_rfl) _ 86 rfl rfl)
                    have q86 : a_.tmps[86]?.getD undef = .float .f32 r86 := by rw [← Array.getD_eq_getD_getElem?]; exact s86
                    go_simp
                    exact hK _ _ ((Below.refl _ _).alloc (Nat.le_refl _) _) ⟨w'.heap.size, r86, rfl, by simp, by rw [World.cell?_alloc_at _ _ _ _ rfl]; rfl, e86⟩
                intro vs a_ wV hbV hv haV
                have e0 : vs 0 = (.slice A rs.length cp) := hv 0 (by omega) (by kernel_rfl)
                obtain ⟨g, rr, e17, hgl, hgc, hrr⟩ := (show ∃ g r, (vs 17) = .slice (some ⟨g, 0, none⟩) 1 1 ∧ g < wV.heap.size ∧ wV.cell? ⟨g, 0, none⟩ = some (.float .f32 r) ∧ cn .f32 r = (aop .add .f32 (cn .f32 x) (aop .mul .f32 (aop .sub .f32 (cn .f32 y) (cn .f32 x)) (cn .f32 q2))) from hv 17 (by omega) (by kernel_rfl))
                subst haV
                simp only [putsL, List.take_succ_cons, List.take_zero, List.drop_succ_cons, List.drop_zero, List.setIfInBounds_toArray, List.set_cons_succ, List.set_cons_zero, Nat.reduceAdd, Nat.zero_add]
                rw [e0, e17]
                clear hv e0 e17
                have hb9 : Below wr.heap.size wr wV := hbA.trans ((below_drewN (Below.refl wA.heap.size wA) 1 |>.trans hbV).mono hsA)
                have HR := Lib.hid (show cn .f32 rr = fgT zs ks n p by rw [hrr, HQ.out, HT.out, ← HW.out]; exact (cn_aop ..).symm)
                have HO9 := Lib.hid (owp_keep HOr.out hb9)
                have HB9 := Lib.hid (HBr.out.trans (hb9.mono hwr))
                have hs9 : w.heap.size ≤ wV.heap.size := HB9.out.size
                have HG9 := Lib.hid (owp_one hgc)
                clear hb9 hbV hrr hbA
                go_wp2_with (at_builtin; refine wpList_append_lies _ rfl _ _ 22 rfl w.heap.size 33 i0 (.float .f32 0) 1 4 Try.underlying22 hi hz0 hz1 hz2 rfl (by decide) _ _ _ rfl HO9.out ⟨g, 0, none⟩ 1 1 [.float .f32 rr] rfl rfl HG9.out ?c2 (by decide) ?c3 ?c4 ?c5 _ rfl ?_)
                case c2 => intro u hu; simp at hu; subst hu; rfl
                case c3 => unfold maxLen; omega
                case c4 => omega
                case c5 => first | omega | (simp; omega)
                intro ga ca w2 hown hgrow hat hglt
                have Ha2 := Lib.hid (owp_push hown)
                have HB2 := Lib.hid (HB9.out.grown hgrow hs9 (fun j e => (HO9.out.lt j e).1))
                have HC2 := Lib.hid ((cnl_snoc hcl.out HR.out).trans (tells_succ (fgT zs ks n) p).symm)
                clear hown hgrow hat hglt
                go_wp2_with fail
                go_roundw
                case rel => exact ⟨p + 1, rs ++ [rr], by omega, by go_num, Lib.hid (by rw [List.length_append, hln.out]; rfl), Ha2, HC2, HB2⟩
                case measure => simp [intOf]; omega
        · obtain rfl : n = p := by omega
          obtain ⟨A, cp, rfl, hsl, -⟩ := ho.out.sl
          have HSl := Lib.hid hsl
          have HX := Lib.hid (show cnl rs = fgL zs ks from by rw [hcl.out]; unfold fgL; rw [HL.out])
          have HGd := Lib.hid (fg_good HBB.out)
          have hrl : rs.length ≤ 1048576 := by have := hln.out; omega
          clear hsl hcl hln
          go_wp2_with fail
          refine (specList_any 33 _ _ rs (fgL zs ks) _ w _ rfl HSl.out HX.out hrl ho.out hbw.out).mono ?_
          rintro e w9 ⟨v, ys, rfl, ho9, hx9, hb9⟩
          have HO9 := Lib.hid ho9
          have HX9 := Lib.hid (hx9.trans HGd.out.2.symm)
          have HB9 := Lib.hid hb9
          have HTT := Lib.hid HGd.out.1.symm
          rw [HTT.out]
          clear ho9 hx9 hb9
          go_wp2_with fail
          go_ret2
          exact ⟨v, ys, rfl, HO9.out, HX9.out, HB9.out⟩
end Go.Proofs.Ytopgegciejmhaaa

