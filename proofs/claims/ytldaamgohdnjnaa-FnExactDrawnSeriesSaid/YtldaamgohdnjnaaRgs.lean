/-
  A region that draws its order and stores once in its midst: what is behind the store, or may be, only moves slots.
-/
import Derived.Test.YtldaamgohdnjnaaRgm
namespace Go.Proofs.Ytldaamgohdnjnaa
open Go.RowKit
set_option linter.unusedVariables false
/-- The store waits for it. -/
def swB (ops : Array Oper) (m i : Nat) : Bool := ((ops[m]?).map fun o => o.after.any fun e => e.on == i && Region.binds .any e).getD false
/-- Each operation but the store is late, or waited for by the store; what stands behind the store in the list waits for it. -/
def lateB (ops : Array Oper) (m : Nat) (late : List Nat) : Bool :=
  (List.range ops.size).all fun i => (i == m || late.contains i || swB ops m i) && (decide (i ≤ m) || ((ops[i]?).map fun o => o.after.any fun e => e.on == m && Region.binds .any e).getD false)
section
variable {P : Program} {ops : Array Oper} {Q : Exit → Act → World → Prop} {Φ : Nat → Value → World → Prop} {Ψ : Value → Value → World → World → Prop} {a0 : Act} {B : World}
/-- An operation that only moves slots: also behind the store. -/
def opP (P : Program) (ops : Array Oper) (Q : Exit → Act → World → Prop) (Φ : Nat → Value → World → Prop) (i : Nat) : Prop :=
  ∀ o, ops[i]? = some o → o.guard = none ∧ ∀ a w1 w2, Deps ops Φ o a w1 → ∀ K : Act → World → Prop, (∀ v, Φ i v w1 → K (a.put o.dst v) w2) → o.wp P a w2 K Q
def AllP (P : Program) (ops : Array Oper) (Q : Exit → Act → World → Prop) (Φ : Nat → Value → World → Prop) : List Nat → Prop
  | [] => True
  | i :: is => opP P ops Q Φ i ∧ AllP P ops Q Φ is
theorem allP_at : ∀ {l : List Nat}, AllP P ops Q Φ l → ∀ i, i ∈ l → opP P ops Q Φ i
  | [], _, i, hi => by cases hi
  | j :: js, h, i, hi => by
    rcases List.mem_cons.1 hi with e | e
    · rw [e]; exact h.1
    · exact allP_at h.2 i e
theorem opP_do {i : Nat} {o : Oper} (ho : ops[i]? = some o) (hg : o.guard = none) (h : ∀ a w1 w2, Deps ops Φ o a w1 → ∀ K : Act → World → Prop, (∀ v, Φ i v w1 → K (a.put o.dst v) w2) → o.wp P a w2 K Q) : opP P ops Q Φ i := by
  intro o' ho'
  obtain rfl : o = o' := Option.some.inj (ho.symm.trans ho')
  exact ⟨hg, h⟩
theorem wpAny_MS {m jp jv dp dv : Nat} {late : List Nat} {ol : Oper} (hm : ∀ i v w w', Φ i v w → Below w.heap.size w w' → Φ i v w') (hs : shapeB ops a0.tmps.size = true) (hlt : lateB ops m late = true) (hol : ops[m]? = some ol) (hg : ol.guard = none) (hld : ol.dst = none)
    (hjp : (ops[jp]?).bind (·.dst) = some dp) (hjv : (ops[jv]?).bind (·.dst) = some dv) (hsp : swB ops m jp = true) (hsv : swB ops m jv = true)
    (hop : AllM P ops Q Φ a0 B 0 (ops.toList.take m)) (hpu : AllP P ops Q Φ late)
    (hst : ∀ a w1, SInv ops a0 B a w1 → Φ jp (a.tmps.getD dp undef) w1 → Φ jv (a.tmps.getD dv undef) w1 → ∀ K : Act → World → Prop, (∀ w2, Ψ (a.tmps.getD dp undef) (a.tmps.getD dv undef) w1 w2 → K a w2) → ol.wp P a w1 K Q)
    (hend : ∀ a w1 w2, SInv ops a0 B a w1 → (∀ j o d, ops[j]? = some o → o.dst = some d → Φ j (a.tmps.getD d undef) w1) → Ψ (a.tmps.getD dp undef) (a.tmps.getD dv undef) w1 w2 → Q .normal a w2) :
    ∀ (fuel : Nat) (listed : Array Bool) (a : Act) (w : World), unl listed ops.size ≤ fuel →
      ((RInv ops Φ a0 B listed a w ∧ listed.getD m false = false) ∨
       ∃ w1, RInv ops Φ a0 B listed a w1 ∧ Ψ (a.tmps.getD dp undef) (a.tmps.getD dv undef) w1 w ∧ listed.getD m false = true ∧ ∀ i, swB ops m i = true → listed.getD i false = true) →
      wpAny P .any ops Q fuel listed a w := by
  have hmlt : m < ops.size := (Array.getElem?_eq_some_iff.1 hol).1
  have hlate := fun i (hi : i < ops.size) => by
    have := List.all_eq_true.1 hlt i (List.mem_range.2 hi)
    simpa only [Bool.and_eq_true, Bool.or_eq_true, beq_iff_eq, decide_eq_true_eq] using this
  have fin : ∀ (listed : Array Bool) (a : Act) (w : World), (∀ j, j < ops.size → listed.getD j false = true) →
      ((RInv ops Φ a0 B listed a w ∧ listed.getD m false = false) ∨
       ∃ w1, RInv ops Φ a0 B listed a w1 ∧ Ψ (a.tmps.getD dp undef) (a.tmps.getD dv undef) w1 w ∧ listed.getD m false = true ∧ ∀ i, swB ops m i = true → listed.getD i false = true) → Q .normal a w := by
    intro listed a w hall h
    rcases h with ⟨_, h⟩ | ⟨w1, h, hΨ, _, _⟩
    · rw [hall m hmlt] at h; cases h
    · exact hend a w1 w h.s (fun j o d hj hd => h.facts j o d hj hd (hall j (Array.getElem?_eq_some_iff.1 hj).1)) hΨ
  intro fuel
  induction fuel with
  | zero =>
    intro listed a w hf h
    have hall := unl_zero (n := ops.size) (Nat.le_zero.1 hf)
    exact wpAny_all hall (fin listed a w hall h) 0
  | succ fuel ih =>
    intro listed a w hf h
    have hsz : listed.size = ops.size := by
      rcases h with ⟨h, _⟩ | ⟨w1, h, _⟩
      · exact h.size
      · exact h.size
    refine ⟨fun hre => fin listed a w ?_ h, fun i hi => ?_⟩
    · intro j
      induction j using Nat.strongRecOn with
      | ind j ihj =>
        intro hj
        cases hl : listed.getD j false
        · obtain ⟨o, ho⟩ : ∃ o, ops[j]? = some o := ⟨_, Array.getElem?_eq_getElem hj⟩
          have : j ∈ Region.ready .any ops listed := mem_ready.2 ⟨getD_in (by rw [hsz]; exact hj) hl, o, ho, fun e he hb => ihj e.on ((shape_spec hs ho).1 e he hb) (by have := (shape_spec hs ho).1 e he hb; omega)⟩
          rw [hre] at this; cases this
        · rfl
    · obtain ⟨hu, o, ho, hall⟩ := mem_ready.1 hi
      have hilt : i < ops.size := (Array.getElem?_eq_some_iff.1 ho).1
      have hui := getD_both hu
      have hcount := unl_set (l := listed) (i := i) (by rw [hsz]; exact hilt) hui (n := ops.size) hilt
      have deps : ∀ w1, RInv ops Φ a0 B listed a w1 → Deps ops Φ o a w1 := fun w1 h j hj o' d ho' hd => h.facts j o' d ho' hd (by
        obtain ⟨n, hn, hb⟩ := Array.any_eq_true.1 hj
        simp only [Bool.and_eq_true, beq_iff_eq] at hb
        rw [← hb.1]
        exact hall _ (Array.getElem_mem hn) hb.2)
      rcases h with ⟨h, hlm⟩ | ⟨w1, h, hΨ, hlm, hsw⟩
      · by_cases e : i = m
        · subst e
          obtain rfl : ol = o := Option.some.inj (hol.symm.trans ho)
          have hsw : ∀ j, swB ops i j = true → listed.getD j false = true := fun j hj => by
            unfold swB at hj
            rw [hol] at hj
            obtain ⟨n, hn, hb⟩ := Array.any_eq_true.1 (show (ol.after.any fun e => e.on == j && Region.binds .any e) = true from hj)
            simp only [Bool.and_eq_true, beq_iff_eq] at hb
            rw [← hb.1]
            exact hall _ (Array.getElem_mem hn) hb.2
          unfold wpOp
          simp only [ho]
          rw [if_pos (by unfold Region.wanted; rw [hg])]
          have fact : ∀ {j d : Nat}, (ops[j]?).bind (·.dst) = some d → swB ops i j = true → Φ j (a.tmps.getD d undef) w := fun {j d} hj hsj => by
            cases hoj : ops[j]? with
            | none => rw [hoj] at hj; cases hj
            | some oj => rw [hoj] at hj; exact h.facts j oj d hoj hj (hsw j hsj)
          refine .inl (hst a w h.s (fact hjp hsp) (fact hjv hsv) _ (fun w2 hΨ => ih _ _ _ (by omega) (.inr ⟨w, ⟨h.s, by simp [h.size], fun j oj d hj hd hl => ?_⟩, hΨ, by simp [hsz, hilt], fun j hj => getD_set_true (hsw j hj)⟩)))
          have hne : i ≠ j := fun e => by
            subst e
            obtain rfl : ol = oj := Option.some.inj (ho.symm.trans hj)
            rw [hld] at hd; cases hd
          rw [getD_set_ne false hne] at hl
          exact h.facts j oj d hj hd hl
        · have hlti : i < m := by
            rcases (hlate i hilt).2 with h1 | h1
            · omega
            · exfalso
              rw [ho] at h1
              obtain ⟨n, hn, hb⟩ := Array.any_eq_true.1 (show (o.after.any fun e => e.on == m && Region.binds .any e) = true from h1)
              simp only [Bool.and_eq_true, beq_iff_eq] at hb
              have := hall _ (Array.getElem_mem hn) hb.2
              rw [hb.1, hlm] at this; cases this
          have hq : opM P ops Q Φ a0 B i o := by
            have := allM_at (ops.toList.take m) 0 hop i o (by rw [List.getElem?_take, if_pos hlti, Array.getElem?_toList]; exact ho)
            rwa [Nat.zero_add] at this
          have hq := hq a w h.s (deps w h)
          have hlm' : (listed.setIfInBounds i true).getD m false = false := by rw [getD_set_ne false e]; exact hlm
          unfold wpOp
          simp only [ho]
          split
          · rename_i hw
            rw [if_pos hw] at hq
            exact .inl (hq _ (fun v w' hb hv => ih _ _ _ (by omega) (.inl ⟨h.step hm hs ho hb hv, hlm'⟩)))
          · rename_i hw
            rw [if_neg hw] at hq
            exact ih _ _ _ (by omega) (.inl ⟨h.step hm hs ho (Below.refl _ _) hq, hlm'⟩)
      · have him : i ≠ m := fun e => by rw [e, hlm] at hui; cases hui
        have hnsw : ∀ j, swB ops m j = true → i ≠ j := fun j hj e => by rw [e, hsw j hj] at hui; cases hui
        have hin : i ∈ late := by
          rcases (hlate i hilt).1 with (h1 | h1) | h1
          · exact absurd h1 him
          · simpa using h1
          · exact absurd rfl (hnsw i h1)
        obtain ⟨hgi, hq⟩ := allP_at hpu i hin o ho
        unfold wpOp
        simp only [ho]
        rw [if_pos (by unfold Region.wanted; rw [hgi])]
        have keep : ∀ {j d : Nat} (v : Value), (ops[j]?).bind (·.dst) = some d → swB ops m j = true → (a.put o.dst v).tmps.getD d undef = a.tmps.getD d undef := fun {j d} v hj hsj => by
          refine getD_put_other (fun e => ?_)
          cases hoj : ops[j]? with
          | none => rw [hoj] at hj; cases hj
          | some oj =>
            rw [hoj] at hj
            exact hnsw j hsj (((shape_spec hs ho).2 d e).2 j oj hoj hj).symm
        refine .inl (hq a w1 w (deps w1 h) _ (fun v hv => ih _ _ _ (by omega) (.inr ⟨w1, h.step hm hs ho (Below.refl _ _) hv, ?_, getD_set_true hlm, fun j hj => getD_set_true (hsw j hj)⟩)))
        rw [keep v hjp hsp, keep v hjv hsv]
        exact hΨ
/-- THE REGION with a store in its midst: the slots in one form. -/
theorem wp_region_MS {id m jp jv dp dv : Nat} {late : List Nat} {w : World} {ol : Oper} (Φ : Nat → Value → World → Prop) (Ψ : Value → Value → World → World → Prop) (hmix : P.follows .mixedOrders = true) (hm : ∀ i v w w', Φ i v w → Below w.heap.size w w' → Φ i v w') (hs : shapeB ops a0.tmps.size = true) (hlt : lateB ops m late = true) (hol : ops[m]? = some ol) (hg : ol.guard = none) (hld : ol.dst = none)
    (hjp : (ops[jp]?).bind (·.dst) = some dp) (hjv : (ops[jv]?).bind (·.dst) = some dv) (hsp : swB ops m jp = true) (hsv : swB ops m jv = true)
    (hop : AllM P ops Q Φ a0 w.drew 0 (ops.toList.take m)) (hpu : AllP P ops Q Φ late)
    (hst : ∀ a w1, SInv ops a0 w.drew a w1 → Φ jp (a.tmps.getD dp undef) w1 → Φ jv (a.tmps.getD dv undef) w1 → ∀ K : Act → World → Prop, (∀ w2, Ψ (a.tmps.getD dp undef) (a.tmps.getD dv undef) w1 w2 → K a w2) → ol.wp P a w1 K Q)
    (hend : ∀ (vs : Nat → Value) (a : Act) w1 w2, Below w.drew.heap.size w.drew w1 → (∀ j, j < ops.size → ((ops[j]?).bind (·.dst)).isSome = true → Φ j (vs j) w1) → a = ⟨putsL vs 0 ops.toList a0.tmps, a0.defers⟩ → Ψ (vs jp) (vs jv) w1 w2 → Q .normal a w2) : (Code.region id ops true).wp P Q a0 w := by
  refine wp_region_any hmix ?_
  refine wpAny_MS (B := w.drew) hm hs hlt hol hg hld hjp hjv hsp hsv hop hpu hst (fun a w1 w2 hS hF hΨ => ?_) _ _ _ _ (unl_new _) (.inl ⟨⟨⟨rfl, rfl, Below.refl _ _, fun _ _ => rfl⟩, by simp, fun j o d hj hd hl => ?_⟩, getD_replicate_false _ _⟩)
  · refine hend (fun j => a.tmps.getD (((ops[j]?).bind (·.dst)).getD 0) undef) a w1 w2 hS.below (fun j hj hj2 => ?_) ?_ (by simp only [hjp, hjv, Option.getD_some]; exact hΨ)
    · cases ho : ops[j]? with
      | none => rw [ho] at hj2; cases hj2
      | some o =>
        rw [ho] at hj2
        cases hd : o.dst with
        | none => rw [Option.bind_some, hd] at hj2; cases hj2
        | some d =>
          simp only [Option.bind_some, hd, Option.getD_some]
          exact hF j o d ho hd
    · obtain ⟨tm, df⟩ := a
      have hdf := hS.defers
      simp only at hdf
      subst hdf
      congr 1
      refine Array.ext (by rw [putsL_size]; exact hS.tsize) (fun d h1 h2 => ?_)
      have key : tm.getD d undef = (putsL (fun j => tm.getD (((ops[j]?).bind (·.dst)).getD 0) undef) 0 ops.toList a0.tmps).getD d undef := by
        by_cases hx : ∃ (k : Nat) (o : Oper), ops.toList[k]? = some o ∧ o.dst = some d
        · obtain ⟨k, o, hk, hd⟩ := hx
          have hk2 : ops[k]? = some o := by rw [← Array.getElem?_toList]; exact hk
          rw [putsL_in _ hk hd (((shape_spec hs hk2).2 d hd).1) (fun k' o' h1 h2 => ((shape_spec hs hk2).2 d hd).2 k' o' (by rw [← Array.getElem?_toList]; exact h1) h2), Nat.zero_add]
          simp only [hk2, Option.bind_some, hd, Option.getD_some]
        · rw [putsL_out (fun o ho e => hx (by obtain ⟨n, hn⟩ := List.getElem?_of_mem ho; exact ⟨n, o, hn, e⟩))]
          refine hS.rest d ?_
          rw [List.all_eq_true]
          intro j hj
          cases ho : ops[j]? with
          | none => rfl
          | some o =>
            simp only [Option.bind_some, bne_iff_ne, ne_eq]
            intro e
            exact hx ⟨j, o, by rw [Array.getElem?_toList]; exact ho, e⟩
      rw [Array.getD_eq_getD_getElem?, Array.getElem?_eq_getElem h1, Array.getD_eq_getD_getElem?, Array.getElem?_eq_getElem h2] at key
      exact key
  · rw [getD_replicate_false] at hl; cases hl
/-- THE REGION without a store: the slots in one form. -/
theorem wp_region_MV {id : Nat} {w : World} (Φ : Nat → Value → World → Prop) (hmix : P.follows .mixedOrders = true) (hm : ∀ i v w w', Φ i v w → Below w.heap.size w w' → Φ i v w') (hs : shapeB ops a0.tmps.size = true)
    (hop : AllM P ops Q Φ a0 w.drew 0 ops.toList)
    (hend : ∀ (vs : Nat → Value) (a : Act) w1, Below w.drew.heap.size w.drew w1 → (∀ j, j < ops.size → ((ops[j]?).bind (·.dst)).isSome = true → Φ j (vs j) w1) → a = ⟨putsL vs 0 ops.toList a0.tmps, a0.defers⟩ → Q .normal a w1) : (Code.region id ops true).wp P Q a0 w := by
  refine wp_region_M Φ hmix hm hs hop (fun a w1 hS hF => ?_)
  refine hend (fun j => a.tmps.getD (((ops[j]?).bind (·.dst)).getD 0) undef) a w1 hS.below (fun j hj hj2 => ?_) ?_
  · cases ho : ops[j]? with
    | none => rw [ho] at hj2; cases hj2
    | some o =>
      rw [ho] at hj2
      cases hd : o.dst with
      | none => rw [Option.bind_some, hd] at hj2; cases hj2
      | some d =>
        simp only [Option.bind_some, hd, Option.getD_some]
        exact hF j o d ho hd
  · obtain ⟨tm, df⟩ := a
    have hdf := hS.defers
    simp only at hdf
    subst hdf
    congr 1
    refine Array.ext (by rw [putsL_size]; exact hS.tsize) (fun d h1 h2 => ?_)
    have key : tm.getD d undef = (putsL (fun j => tm.getD (((ops[j]?).bind (·.dst)).getD 0) undef) 0 ops.toList a0.tmps).getD d undef := by
      by_cases hx : ∃ (k : Nat) (o : Oper), ops.toList[k]? = some o ∧ o.dst = some d
      · obtain ⟨k, o, hk, hd⟩ := hx
        have hk2 : ops[k]? = some o := by rw [← Array.getElem?_toList]; exact hk
        rw [putsL_in _ hk hd (((shape_spec hs hk2).2 d hd).1) (fun k' o' h1 h2 => ((shape_spec hs hk2).2 d hd).2 k' o' (by rw [← Array.getElem?_toList]; exact h1) h2), Nat.zero_add]
        simp only [hk2, Option.bind_some, hd, Option.getD_some]
      · rw [putsL_out (fun o ho e => hx (by obtain ⟨n, hn⟩ := List.getElem?_of_mem ho; exact ⟨n, o, hn, e⟩))]
        refine hS.rest d ?_
        rw [List.all_eq_true]
        intro j hj
        cases ho : ops[j]? with
        | none => rfl
        | some o =>
          simp only [Option.bind_some, bne_iff_ne, ne_eq]
          intro e
          exact hx ⟨j, o, by rw [Array.getElem?_toList]; exact ho, e⟩
    rw [Array.getD_eq_getD_getElem?, Array.getElem?_eq_getElem h1, Array.getD_eq_getD_getElem?, Array.getElem?_eq_getElem h2] at key
    exact key
end
end Go.Proofs.Ytldaamgohdnjnaa
