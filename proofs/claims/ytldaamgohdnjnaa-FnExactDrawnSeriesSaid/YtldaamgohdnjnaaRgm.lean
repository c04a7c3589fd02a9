/-
  A region that draws its order, whose operations may make memory and call: each operation is walked once, at whatever memory that
  extends the first one; what it gives is told by a relation that more memory does not break. No order is enumerated.
-/
import Derived.StillTail
import Derived.WalkKit
import Derived.Below
namespace Go.Proofs.Ytldaamgohdnjnaa
open Go.RowKit
set_option linter.unusedVariables false
/-- How many of the first n are not listed. -/
def unl (listed : Array Bool) : Nat → Nat
  | 0 => 0
  | n + 1 => unl listed n + (if listed.getD n false then 0 else 1)
theorem unl_same {l l' : Array Bool} : ∀ {n : Nat}, (∀ j, j < n → l.getD j false = l'.getD j false) → unl l n = unl l' n
  | 0, _ => rfl
  | n + 1, h => by unfold unl; rw [unl_same (fun j hj => h j (by omega)), h n (by omega)]
theorem unl_set {l : Array Bool} {i : Nat} (hs : i < l.size) (hi : l.getD i false = false) : ∀ {n : Nat}, i < n → unl (l.setIfInBounds i true) n + 1 = unl l n
  | n + 1, h => by
    unfold unl
    by_cases e : i = n
    · subst e
      rw [unl_same (l := l.setIfInBounds i true) (l' := l) (fun j hj => getD_set_ne false (by omega)), hi]
      simp [hs]
    · have := unl_set hs hi (n := n) (by omega)
      rw [getD_set_ne false e]
      omega
theorem unl_zero {l : Array Bool} : ∀ {n : Nat}, unl l n = 0 → ∀ j, j < n → l.getD j false = true
  | n + 1, h, j, hj => by
    unfold unl at h
    by_cases e : j = n
    · subst e
      cases hb : l.getD j false
      · rw [hb] at h; simp at h
      · rfl
    · exact unl_zero (n := n) (by omega) j (by omega)
theorem unl_new (n : Nat) : ∀ {m : Nat}, unl (Array.replicate n false) m ≤ m
  | 0 => Nat.le_refl _
  | m + 1 => by unfold unl; have := unl_new n (m := m); split <;> omega
section
variable {P : Program} {ops : Array Oper} {Q : Exit → Act → World → Prop} {Φ : Nat → Value → World → Prop} {a0 : Act} {B : World}
/-- What an operation may lean on: the memory, the slots that no operation writes, what it waits for. -/
structure SInv (ops : Array Oper) (a0 : Act) (B : World) (a : Act) (w : World) : Prop where
  defers : a.defers = a0.defers
  tsize : a.tmps.size = a0.tmps.size
  below : Below B.heap.size B w
  rest : ∀ d, ((List.range ops.size).all fun j => ((ops[j]?).bind (·.dst)) != some d) = true → a.tmps.getD d undef = a0.tmps.getD d undef
structure RInv (ops : Array Oper) (Φ : Nat → Value → World → Prop) (a0 : Act) (B : World) (listed : Array Bool) (a : Act) (w : World) : Prop where
  s : SInv ops a0 B a w
  size : listed.size = ops.size
  facts : ∀ j o d, ops[j]? = some o → o.dst = some d → listed.getD j false = true → Φ j (a.tmps.getD d undef) w
/-- One operation. -/
def opM (P : Program) (ops : Array Oper) (Q : Exit → Act → World → Prop) (Φ : Nat → Value → World → Prop) (a0 : Act) (B : World) (i : Nat) (o : Oper) : Prop :=
  ∀ a w, SInv ops a0 B a w → (∀ j, (o.after.any fun e => e.on == j && Region.binds .any e) = true → ∀ o' d, ops[j]? = some o' → o'.dst = some d → Φ j (a.tmps.getD d undef) w) →
    if Region.wanted o (yielded ops a.tmps) then ∀ K : Act → World → Prop, (∀ v w', Below w.heap.size w w' → Φ i v w' → K (a.put o.dst v) w') → o.wp P a w K Q else Φ i undef w
def AllM (P : Program) (ops : Array Oper) (Q : Exit → Act → World → Prop) (Φ : Nat → Value → World → Prop) (a0 : Act) (B : World) : Nat → List Oper → Prop
  | _, [] => True
  | i, o :: os => opM P ops Q Φ a0 B i o ∧ AllM P ops Q Φ a0 B (i + 1) os
theorem allM_at (l : List Oper) : ∀ (i : Nat), AllM P ops Q Φ a0 B i l → ∀ k o, l[k]? = some o → opM P ops Q Φ a0 B (i + k) o := by
  induction l with
  | nil => intro i h k o hk; simp at hk
  | cons o os ih =>
    intro i h k o' hk
    cases k with
    | zero =>
      simp only [List.getElem?_cons_zero, Option.some.injEq] at hk
      subst hk
      rw [Nat.add_zero]
      exact h.1
    | succ k =>
      have h3 := ih (i + 1) h.2 k o' (by simpa using hk)
      rw [show i + (k + 1) = i + 1 + k by omega]
      exact h3
def shapeB (ops : Array Oper) (n : Nat) : Bool :=
  (List.range ops.size).all fun i => match ops[i]? with
    | none => true
    | some o => o.after.all (fun e => !Region.binds .any e || decide (e.on < i)) && (match o.dst with
      | none => true
      | some d => decide (d < n) && (List.range ops.size).all fun j => j == i || ((ops[j]?).bind (·.dst)) != some d)
theorem shape_spec {n : Nat} (h : shapeB ops n = true) {i : Nat} {o : Oper} (hi : ops[i]? = some o) :
    (∀ e ∈ o.after, Region.binds .any e = true → e.on < i) ∧ ∀ d, o.dst = some d → d < n ∧ ∀ j oj, ops[j]? = some oj → oj.dst = some d → j = i := by
  have hlt : i < ops.size := (Array.getElem?_eq_some_iff.1 hi).1
  have h1 := List.all_eq_true.1 h i (List.mem_range.2 hlt)
  simp only [hi, Bool.and_eq_true] at h1
  obtain ⟨h1, h2⟩ := h1
  refine ⟨fun e he hb => ?_, fun d hd => ?_⟩
  · have := (Array.all_eq_true_iff_forall_mem.1 h1) e he
    rw [hb] at this
    simpa using this
  · rw [hd] at h2
    simp only [Bool.and_eq_true, decide_eq_true_eq] at h2
    refine ⟨h2.1, fun j oj hj hdj => ?_⟩
    have h3 := List.all_eq_true.1 h2.2 j (List.mem_range.2 (Array.getElem?_eq_some_iff.1 hj).1)
    simp only [hj, Option.bind_some, hdj, Bool.or_eq_true, beq_iff_eq, bne_self_eq_false, Bool.false_eq_true, or_false] at h3
    exact h3
theorem getD_put_same {a : Act} {d : Tmp} {v : Value} (h : d < a.tmps.size) : (a.put (some d) v).tmps.getD d undef = v := by
  simp [Act.put, h]
theorem getD_put_other {a : Act} {o : Option Tmp} {d : Tmp} {v : Value} (h : o ≠ some d) : (a.put o v).tmps.getD d undef = a.tmps.getD d undef := by
  cases o with
  | none => rfl
  | some d' =>
    have : d' ≠ d := fun e => h (by rw [e])
    simp [Act.put, Array.getElem?_setIfInBounds_ne this]
theorem RInv.step (hm : ∀ i v w w', Φ i v w → Below w.heap.size w w' → Φ i v w') (hs : shapeB ops a0.tmps.size = true) {listed : Array Bool} {a : Act} {w w' : World} {i : Nat} {o : Oper} {v : Value} (h : RInv ops Φ a0 B listed a w) (hi : ops[i]? = some o) (hb : Below w.heap.size w w') (hv : Φ i v w') :
    RInv ops Φ a0 B (listed.setIfInBounds i true) (a.put o.dst v) w' := by
  have hsp := (shape_spec hs hi).2
  refine ⟨⟨?_, ?_, h.s.below.trans (hb.mono h.s.below.size), fun d hd => ?_⟩, by simp [h.size], fun j oj d hj hdj hl => ?_⟩
  · cases ho : o.dst <;> simp [Act.put, h.s.defers]
  · cases ho : o.dst <;> simp [Act.put, h.s.tsize]
  · have hne : o.dst ≠ some d := by
      have := List.all_eq_true.1 hd i (List.mem_range.2 (Array.getElem?_eq_some_iff.1 hi).1)
      simpa [hi] using this
    rw [getD_put_other hne]
    exact h.s.rest d hd
  · by_cases e : j = i
    · subst e
      obtain rfl : oj = o := Option.some.inj (hj.symm.trans hi)
      rw [hdj, getD_put_same (by rw [h.s.tsize]; exact (hsp d hdj).1)]
      exact hv
    · have hne : o.dst ≠ some d := fun h' => e ((hsp d h').2 j oj hj hdj)
      rw [getD_put_other hne]
      rw [getD_set_ne false (Ne.symm e)] at hl
      exact hm _ _ _ _ (h.facts j oj d hj hdj hl) hb
theorem wpAny_M (hm : ∀ i v w w', Φ i v w → Below w.heap.size w w' → Φ i v w') (hs : shapeB ops a0.tmps.size = true) (hop : AllM P ops Q Φ a0 B 0 ops.toList)
    (hend : ∀ a w, SInv ops a0 B a w → (∀ j o d, ops[j]? = some o → o.dst = some d → Φ j (a.tmps.getD d undef) w) → Q .normal a w) :
    ∀ (fuel : Nat) (listed : Array Bool) (a : Act) (w : World), RInv ops Φ a0 B listed a w → unl listed ops.size ≤ fuel → wpAny P .any ops Q fuel listed a w := by
  have done : ∀ (listed : Array Bool) (a : Act) (w : World), RInv ops Φ a0 B listed a w → (∀ j, j < ops.size → listed.getD j false = true) → Q .normal a w := fun listed a w h hall =>
    hend a w h.s (fun j o d hj hd => h.facts j o d hj hd (hall j (Array.getElem?_eq_some_iff.1 hj).1))
  intro fuel
  induction fuel with
  | zero =>
    intro listed a w h hf
    have hall := unl_zero (n := ops.size) (Nat.le_zero.1 hf)
    refine ⟨?_, done listed a w h hall⟩
    rw [List.eq_nil_iff_forall_not_mem]
    intro j hj
    obtain ⟨hu, o, ho, _⟩ := mem_ready.1 hj
    have := hall j (Array.getElem?_eq_some_iff.1 ho).1
    rw [getD_both hu] at this; cases this
  | succ fuel ih =>
    intro listed a w h hf
    refine ⟨fun hre => done listed a w h ?_, fun i hi => ?_⟩
    · intro j
      induction j using Nat.strongRecOn with
      | ind j ihj =>
        intro hj
        cases hl : listed.getD j false
        · obtain ⟨o, ho⟩ : ∃ o, ops[j]? = some o := ⟨_, Array.getElem?_eq_getElem hj⟩
          have : j ∈ Region.ready .any ops listed := mem_ready.2 ⟨getD_in (by rw [h.size]; exact hj) hl, o, ho, fun e he hb => ihj e.on ((shape_spec hs ho).1 e he hb) (by have := (shape_spec hs ho).1 e he hb; omega)⟩
          rw [hre] at this; cases this
        · rfl
    · obtain ⟨hu, o, ho, hall⟩ := mem_ready.1 hi
      have hlt : i < ops.size := (Array.getElem?_eq_some_iff.1 ho).1
      have hcount := unl_set (l := listed) (i := i) (by rw [h.size]; exact hlt) (getD_both hu) (n := ops.size) hlt
      have hq : opM P ops Q Φ a0 B i o := by
        have := allM_at ops.toList 0 hop i o (by rw [Array.getElem?_toList]; exact ho)
        rwa [Nat.zero_add] at this
      have hq := hq a w h.s (fun j hj o' d ho' hd => h.facts j o' d ho' hd (by
        obtain ⟨n, hn, hb⟩ := Array.any_eq_true.1 hj
        simp only [Bool.and_eq_true, beq_iff_eq] at hb
        rw [← hb.1]
        exact hall _ (Array.getElem_mem hn) hb.2))
      unfold wpOp
      simp only [ho]
      split
      · rename_i hw
        rw [if_pos hw] at hq
        exact .inl (hq _ (fun v w' hb hv => ih _ _ _ (h.step hm hs ho hb hv) (by omega)))
      · rename_i hw
        rw [if_neg hw] at hq
        exact ih _ _ _ (h.step hm hs ho (Below.refl _ _) hq) (by omega)
/-- What an operation waits for. -/
def Deps (ops : Array Oper) (Φ : Nat → Value → World → Prop) (o : Oper) (a : Act) (w : World) : Prop :=
  ∀ j, (o.after.any fun e => e.on == j && Region.binds .any e) = true → ∀ o' d, ops[j]? = some o' → o'.dst = some d → Φ j (a.tmps.getD d undef) w
theorem opM_do {i : Nat} {o : Oper} (hg : o.guard = none) (h : ∀ a w, SInv ops a0 B a w → Deps ops Φ o a w → ∀ K : Act → World → Prop, (∀ v w', Below w.heap.size w w' → Φ i v w' → K (a.put o.dst v) w') → o.wp P a w K Q) : opM P ops Q Φ a0 B i o := by
  intro a w hS hf
  rw [if_pos (by unfold Region.wanted; rw [hg])]
  exact h a w hS hf
theorem wanted_slot {o og : Oper} {g G : Nat} {want b : Bool} {a : Act} (hg : o.guard = some (g, want)) (ho : ops[g]? = some og) (hd : og.dst = some G) (hs : a.tmps.getD G undef = .bool b) : Region.wanted o (yielded ops a.tmps) = (b == want) := by
  have hlt : a.tmps[G]? = some (.bool b) := by
    rw [Array.getD_eq_getD_getElem?] at hs
    cases h : a.tmps[G]? with
    | none => rw [h] at hs; cases hs
    | some v => rw [h] at hs; exact congrArg some hs
  unfold Region.wanted yielded
  simp only [hg, ho, Option.bind_some, hd, hlt]
  cases b <;> cases want <;> rfl
theorem opM_yes {i g G : Nat} {o og : Oper} {b : Bool} (hg : o.guard = some (g, b)) (ho : ops[g]? = some og) (hd : og.dst = some G) (hdep : (o.after.any fun e => e.on == g && Region.binds .any e) = true) (hΦ : ∀ v w, Φ g v w → v = .bool b)
    (h : ∀ a w, SInv ops a0 B a w → Deps ops Φ o a w → ∀ K : Act → World → Prop, (∀ v w', Below w.heap.size w w' → Φ i v w' → K (a.put o.dst v) w') → o.wp P a w K Q) : opM P ops Q Φ a0 B i o := by
  intro a w hS hf
  have hs := hΦ _ _ (hf g hdep og G ho hd)
  rw [if_pos (by rw [wanted_slot hg ho hd hs]; cases b <;> rfl)]
  exact h a w hS hf
theorem opM_no {i g G : Nat} {o og : Oper} {b : Bool} (hg : o.guard = some (g, b)) (ho : ops[g]? = some og) (hd : og.dst = some G) (hdep : (o.after.any fun e => e.on == g && Region.binds .any e) = true) (hΦ : ∀ v w, Φ g v w → v = .bool (!b))
    (h : ∀ w, Φ i undef w) : opM P ops Q Φ a0 B i o := by
  intro a w hS hf
  have hs := hΦ _ _ (hf g hdep og G ho hd)
  rw [if_neg (by rw [wanted_slot hg ho hd hs]; cases b <;> simp)]
  exact h w
/-- THE REGION. -/
theorem wp_region_M {id : Nat} {w : World} (Φ : Nat → Value → World → Prop) (hmix : P.follows .mixedOrders = true) (hm : ∀ i v w w', Φ i v w → Below w.heap.size w w' → Φ i v w') (hs : shapeB ops a0.tmps.size = true)
    (hop : AllM P ops Q Φ a0 w.drew 0 ops.toList)
    (hend : ∀ a w', SInv ops a0 w.drew a w' → (∀ j o d, ops[j]? = some o → o.dst = some d → Φ j (a.tmps.getD d undef) w') → Q .normal a w') : (Code.region id ops true).wp P Q a0 w := by
  refine wp_region_any hmix ?_
  refine wpAny_M (B := w.drew) hm hs hop hend _ _ _ _ ⟨⟨rfl, rfl, Below.refl _ _, fun _ _ => rfl⟩, by simp, fun j o d hj hd hl => ?_⟩ (unl_new _)
  rw [getD_replicate_false] at hl; cases hl
/-! ### A region with a last operation, which all others lead to: it may write -/
/-- Each but the last is waited for by a later one. -/
def sinkB (ops : Array Oper) (m : Nat) : Bool :=
  decide (ops.size = m + 1) && (List.range m).all fun j => (List.range (m + 1)).any fun k => decide (j < k) && ((ops[k]?).map fun o => o.after.any fun e => e.on == j && Region.binds .any e).getD false
theorem sink_all {m : Nat} (h : sinkB ops m = true) {listed : Array Bool} {ol : Oper} (hl : ops[m]? = some ol) (hready : ∀ e ∈ ol.after, Region.binds .any e = true → listed.getD e.on false = true)
    (hcl : ∀ (j : Nat) oj, ops[j]? = some oj → listed.getD j false = true → ∀ e ∈ oj.after, Region.binds .any e = true → listed.getD e.on false = true) : ∀ (d j : Nat), j + d = m → 0 < d → listed.getD j false = true := by
  simp only [sinkB, Bool.and_eq_true, decide_eq_true_eq] at h
  obtain ⟨_, h⟩ := h
  intro d
  induction d using Nat.strongRecOn with
  | ind d ih =>
    intro j hj hd
    obtain ⟨k, hk, h2⟩ := List.any_eq_true.1 (List.all_eq_true.1 h j (List.mem_range.2 (by omega)))
    simp only [Bool.and_eq_true, decide_eq_true_eq] at h2
    obtain ⟨hjk, h3⟩ := h2
    have hk := List.mem_range.1 hk
    cases ho : ops[k]? with
    | none => rw [ho] at h3; cases h3
    | some o =>
      rw [ho] at h3
      obtain ⟨n, hn, hb⟩ := Array.any_eq_true.1 (show (o.after.any fun e => e.on == j && Region.binds .any e) = true from h3)
      simp only [Bool.and_eq_true, beq_iff_eq] at hb
      rw [← hb.1]
      by_cases e : k = m
      · subst e
        obtain rfl : ol = o := Option.some.inj (hl.symm.trans ho)
        exact hready _ (Array.getElem_mem hn) hb.2
      · exact hcl k o ho (ih (m - k) (by omega) k (by omega) (by omega)) _ (Array.getElem_mem hn) hb.2
theorem wpAny_all {listed : Array Bool} {a : Act} {w : World} (hall : ∀ j, j < ops.size → listed.getD j false = true) (hQ : Q .normal a w) : ∀ fuel, wpAny P .any ops Q fuel listed a w := by
  have hre : Region.ready .any ops listed = [] := by
    rw [List.eq_nil_iff_forall_not_mem]
    intro j hj
    obtain ⟨hu, o, ho, _⟩ := mem_ready.1 hj
    have := hall j (Array.getElem?_eq_some_iff.1 ho).1
    rw [getD_both hu] at this; cases this
  intro fuel
  cases fuel with
  | zero => exact ⟨hre, hQ⟩
  | succ f => exact ⟨fun _ => hQ, fun i hi => by rw [hre] at hi; cases hi⟩
theorem wpAny_ML {m : Nat} {ol : Oper} (hm : ∀ i v w w', Φ i v w → Below w.heap.size w w' → Φ i v w') (hs : shapeB ops a0.tmps.size = true) (hsk : sinkB ops m = true) (hol : ops[m]? = some ol) (hg : ol.guard = none) (hop : AllM P ops Q Φ a0 B 0 (ops.toList.take m))
    (hend : ∀ a w, SInv ops a0 B a w → (∀ j o d, j < m → ops[j]? = some o → o.dst = some d → Φ j (a.tmps.getD d undef) w) → ol.wp P a w (fun a' w' => Q .normal a' w') Q) :
    ∀ (fuel : Nat) (listed : Array Bool) (a : Act) (w : World), RInv ops Φ a0 B listed a w → (∀ (j : Nat) oj, ops[j]? = some oj → listed.getD j false = true → ∀ e ∈ oj.after, Region.binds .any e = true → listed.getD e.on false = true) →
      listed.getD m false = false → unl listed ops.size ≤ fuel → wpAny P .any ops Q fuel listed a w := by
  have hsz : ops.size = m + 1 := by
    simp only [sinkB, Bool.and_eq_true, decide_eq_true_eq] at hsk
    exact hsk.1
  intro fuel
  induction fuel with
  | zero =>
    intro listed a w h hcl hlm hf
    have := unl_zero (n := ops.size) (Nat.le_zero.1 hf) m (by omega)
    rw [this] at hlm; cases hlm
  | succ fuel ih =>
    intro listed a w h hcl hlm hf
    refine ⟨fun hre => ?_, fun i hi => ?_⟩
    · exfalso
      have hall : ∀ j, j < ops.size → listed.getD j false = true := by
        intro j
        induction j using Nat.strongRecOn with
        | ind j ihj =>
          intro hj
          cases hl : listed.getD j false
          · obtain ⟨o, ho⟩ : ∃ o, ops[j]? = some o := ⟨_, Array.getElem?_eq_getElem hj⟩
            have : j ∈ Region.ready .any ops listed := mem_ready.2 ⟨getD_in (by rw [h.size]; exact hj) hl, o, ho, fun e he hb => ihj e.on ((shape_spec hs ho).1 e he hb) (by have := (shape_spec hs ho).1 e he hb; omega)⟩
            rw [hre] at this; cases this
          · rfl
      rw [hall m (by omega)] at hlm; cases hlm
    · obtain ⟨hu, o, ho, hall⟩ := mem_ready.1 hi
      have hlt : i < ops.size := (Array.getElem?_eq_some_iff.1 ho).1
      by_cases e : i = m
      · subst e
        obtain rfl : ol = o := Option.some.inj (hol.symm.trans ho)
        have hoth := sink_all hsk hol hall hcl
        unfold wpOp
        simp only [ho]
        rw [if_pos (by unfold Region.wanted; rw [hg])]
        refine .inl (Oper.wp_mono (fun a' w' hq => ?_) (hend a w h.s (fun j o' d hj ho' hd => h.facts j o' d ho' hd (hoth (i - j) j (by omega) (by omega)))))
        refine wpAny_all (fun j hj => ?_) hq fuel
        by_cases e2 : j = i
        · subst e2
          simp [h.size, hlt]
        · exact getD_set_true (hoth (i - j) j (by omega) (by omega))
      · have hcount := unl_set (l := listed) (i := i) (by rw [h.size]; exact hlt) (getD_both hu) (n := ops.size) hlt
        have hq : opM P ops Q Φ a0 B i o := by
          have := allM_at (ops.toList.take m) 0 hop i o (by rw [List.getElem?_take, if_pos (by omega), Array.getElem?_toList]; exact ho)
          rwa [Nat.zero_add] at this
        have hq := hq a w h.s (fun j hj o' d ho' hd => h.facts j o' d ho' hd (by
          obtain ⟨n, hn, hb⟩ := Array.any_eq_true.1 hj
          simp only [Bool.and_eq_true, beq_iff_eq] at hb
          rw [← hb.1]
          exact hall _ (Array.getElem_mem hn) hb.2))
        have hcl' : ∀ (j : Nat) oj, ops[j]? = some oj → (listed.setIfInBounds i true).getD j false = true → ∀ e ∈ oj.after, Region.binds .any e = true → (listed.setIfInBounds i true).getD e.on false = true := fun j oj hj hl e he hb => by
          by_cases hij : i = j
          · subst hij
            obtain rfl : oj = o := Option.some.inj (hj.symm.trans ho)
            exact getD_set_true (hall e he hb)
          · rw [getD_set_ne false hij] at hl
            exact getD_set_true (hcl j oj hj hl e he hb)
        have hlm' : (listed.setIfInBounds i true).getD m false = false := by rw [getD_set_ne false e]; exact hlm
        unfold wpOp
        simp only [ho]
        split
        · rename_i hw
          rw [if_pos hw] at hq
          exact .inl (hq _ (fun v w' hb hv => ih _ _ _ (h.step hm hs ho hb hv) hcl' hlm' (by omega)))
        · rename_i hw
          rw [if_neg hw] at hq
          exact ih _ _ _ (h.step hm hs ho (Below.refl _ _) hq) hcl' hlm' (by omega)
/-- The slots behind the operations, in the order of the list. -/
def putsL (vs : Nat → Value) : Nat → List Oper → Array Value → Array Value
  | _, [], t => t
  | i, o :: os, t => putsL vs (i + 1) os (match o.dst with | some d => t.setIfInBounds d (vs i) | none => t)
theorem putsL_size {vs : Nat → Value} : ∀ {l : List Oper} {i : Nat} {t : Array Value}, (putsL vs i l t).size = t.size
  | [], _, _ => rfl
  | o :: os, i, t => by
    unfold putsL
    rw [putsL_size]
    cases o.dst <;> simp
theorem putsL_out {vs : Nat → Value} {d : Nat} : ∀ {l : List Oper} {i : Nat} {t : Array Value}, (∀ o ∈ l, o.dst ≠ some d) → (putsL vs i l t).getD d undef = t.getD d undef
  | [], _, _, _ => rfl
  | o :: os, i, t, h => by
    unfold putsL
    rw [putsL_out (fun o' ho' => h o' (List.mem_cons_of_mem _ ho'))]
    have := h o (List.mem_cons_self ..)
    cases ho : o.dst with
    | none => rfl
    | some d' =>
      have hne : d' ≠ d := fun e => this (by rw [ho, e])
      simp [Array.getElem?_setIfInBounds_ne hne]
theorem putsL_in {vs : Nat → Value} {d : Nat} (l : List Oper) : ∀ {i k : Nat} {o : Oper} {t : Array Value}, l[k]? = some o → o.dst = some d → d < t.size → (∀ k' o', l[k']? = some o' → o'.dst = some d → k' = k) → (putsL vs i l t).getD d undef = vs (i + k) := by
  induction l with
  | nil => intro i k o t hk; simp at hk
  | cons o os ih =>
    intro i k o' t hk hd hlt hu
    cases k with
    | zero =>
      simp only [List.getElem?_cons_zero, Option.some.injEq] at hk
      subst hk
      unfold putsL
      rw [putsL_out (fun o' ho' e => ?_), hd, Nat.add_zero]
      · simp [hlt]
      · obtain ⟨n, hn⟩ := List.getElem?_of_mem ho'
        have := hu (n + 1) o' (by simpa using hn) e
        omega
    | succ k =>
      unfold putsL
      have h3 := ih (i := i + 1) (k := k) (o := o') (t := match o.dst with | some d => t.setIfInBounds d (vs i) | none => t) (by simpa using hk) hd (by cases o.dst <;> simp [hlt]) (fun k' o2 h1 h2 => by have := hu (k' + 1) o2 (by simpa using h1) h2; omega)
      rw [h3, show i + 1 + k = i + (k + 1) by omega]
/-- THE REGION with a last operation: the slots in one form. -/
theorem wp_region_ML {id m : Nat} {w : World} {ol : Oper} (Φ : Nat → Value → World → Prop) (hmix : P.follows .mixedOrders = true) (hm : ∀ i v w w', Φ i v w → Below w.heap.size w w' → Φ i v w') (hs : shapeB ops a0.tmps.size = true) (hsk : sinkB ops m = true) (hol : ops[m]? = some ol) (hg : ol.guard = none) (hld : ol.dst = none)
    (hop : AllM P ops Q Φ a0 w.drew 0 (ops.toList.take m))
    (hend : ∀ (vs : Nat → Value) (a : Act) w', Below w.drew.heap.size w.drew w' → (∀ j, j < m → ((ops[j]?).bind (·.dst)).isSome = true → Φ j (vs j) w') → a = ⟨putsL vs 0 (ops.toList.take m) a0.tmps, a0.defers⟩ → ol.wp P a w' (fun a' w' => Q .normal a' w') Q) : (Code.region id ops true).wp P Q a0 w := by
  refine wp_region_any hmix ?_
  have hsz : ops.size = m + 1 := by
    simp only [sinkB, Bool.and_eq_true, decide_eq_true_eq] at hsk
    exact hsk.1
  refine wpAny_ML (B := w.drew) hm hs hsk hol hg hop (fun a w' hS hF => ?_) _ _ _ _ ⟨⟨rfl, rfl, Below.refl _ _, fun _ _ => rfl⟩, by simp, fun j o d hj hd hl => ?_⟩ (fun j oj hj hl => ?_) (getD_replicate_false _ _) (unl_new _)
  · refine hend (fun j => a.tmps.getD (((ops[j]?).bind (·.dst)).getD 0) undef) a w' hS.below (fun j hj hj2 => ?_) ?_
    · cases ho : ops[j]? with
      | none => rw [ho] at hj2; cases hj2
      | some o =>
        rw [ho] at hj2
        cases hd : o.dst with
        | none => rw [Option.bind_some, hd] at hj2; cases hj2
        | some d =>
          simp only [Option.bind_some, hd, Option.getD_some]
          exact hF j o d hj ho hd
    · obtain ⟨tm, df⟩ := a
      have hdf := hS.defers
      simp only at hdf
      subst hdf
      congr 1
      refine Array.ext (by rw [putsL_size]; exact hS.tsize) (fun d h1 h2 => ?_)
      have key : tm.getD d undef = (putsL (fun j => tm.getD (((ops[j]?).bind (·.dst)).getD 0) undef) 0 (ops.toList.take m) a0.tmps).getD d undef := by
        by_cases hx : ∃ (k : Nat) (o : Oper), (ops.toList.take m)[k]? = some o ∧ o.dst = some d
        · obtain ⟨k, o, hk, hd⟩ := hx
          have hk2 : ops[k]? = some o := by
            rw [List.getElem?_take] at hk
            split at hk
            · rw [← Array.getElem?_toList]; exact hk
            · cases hk
          rw [putsL_in _ hk hd (((shape_spec hs hk2).2 d hd).1) (fun k' o' h1 h2 => ?_), Nat.zero_add]
          · simp only [hk2, Option.bind_some, hd, Option.getD_some]
          · refine ((shape_spec hs hk2).2 d hd).2 k' o' ?_ h2
            rw [List.getElem?_take] at h1
            split at h1
            · rw [← Array.getElem?_toList]; exact h1
            · cases h1
        · rw [putsL_out (fun o ho e => hx (by obtain ⟨n, hn⟩ := List.getElem?_of_mem ho; exact ⟨n, o, hn, e⟩))]
          refine hS.rest d ?_
          rw [List.all_eq_true]
          intro j hj
          have hj := List.mem_range.1 hj
          cases ho : ops[j]? with
          | none => rfl
          | some o =>
            simp only [Option.bind_some, bne_iff_ne, ne_eq]
            intro e
            by_cases e2 : j = m
            · subst e2
              obtain rfl : ol = o := Option.some.inj (hol.symm.trans ho)
              rw [hld] at e; cases e
            · exact hx ⟨j, o, by rw [List.getElem?_take, if_pos (by omega), Array.getElem?_toList]; exact ho, e⟩
      rw [Array.getD_eq_getD_getElem?, Array.getElem?_eq_getElem h1, Array.getD_eq_getD_getElem?, Array.getElem?_eq_getElem h2] at key
      exact key
  · rw [getD_replicate_false] at hl; cases hl
  · rw [getD_replicate_false] at hl; cases hl
end
end Go.Proofs.Ytldaamgohdnjnaa
