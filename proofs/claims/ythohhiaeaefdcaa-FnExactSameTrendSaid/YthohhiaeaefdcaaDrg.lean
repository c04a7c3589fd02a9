/-
  A region that draws its order, whose operations read and draw, whose calls draw alone, and whose stores are forced: one walk, in an
  order that is handed in, each value one of a set. (Orders commute because what an operation may give hangs on the slots that it reads
  alone; what reads no memory, 'free', may come before or behind a store.)
-/
import Derived.StillTail
import Derived.Deep.Draws
import Derived.WalkKit
namespace Go.Proofs.Ythohhiaeaefdcaa
open Go.RowKit
set_option linter.unusedVariables false
section
variable {P : Program} {ops : Array Oper} {md : Region.Mode} {w : World} {C : FuncId → Array Value → Value → Prop}
/-- What is asked of one run of an operation: it draws alone, and goes on with what it gives. -/
def driftUpon (P : Program) (C : FuncId → Array Value → Value → Prop) (w : World) (o : Oper) (a : Act) (next : Act → Prop) : Result Next → Prop
  | .ok (.value v) w' => (∃ m, w' = w.drewN m) ∧ next (a.put o.dst v)
  | .ok .skip w' => (∃ m, w' = w.drewN m) ∧ next (a.put o.dst undef)
  | .ok (.enter f args) w' => (∃ m, w' = w.drewN m) ∧ Calls P f args w' (fun e w'' => ∃ v k, e = .returned v ∧ w'' = w.drewN k ∧ C f args v) ∧ ∀ v, C f args v → next (a.put o.dst v)
  | _ => False
@[go_sem] theorem driftUpon_value (o : Oper) (a : Act) (next : Act → Prop) (v : Value) (w' : World) : driftUpon P C w o a next (.ok (.value v) w') = ((∃ m, w' = w.drewN m) ∧ next (a.put o.dst v)) := rfl
@[go_sem] theorem driftUpon_skip (o : Oper) (a : Act) (next : Act → Prop) (w' : World) : driftUpon P C w o a next (.ok .skip w') = ((∃ m, w' = w.drewN m) ∧ next (a.put o.dst undef)) := rfl
@[go_sem] theorem driftUpon_enter (o : Oper) (a : Act) (next : Act → Prop) (f : FuncId) (args : Array Value) (w' : World) : driftUpon P C w o a next (.ok (.enter f args) w') = ((∃ m, w' = w.drewN m) ∧ Calls P f args w' (fun e w'' => ∃ v k, e = .returned v ∧ w'' = w.drewN k ∧ C f args v) ∧ ∀ v, C f args v → next (a.put o.dst v)) := rfl
/-- How an operation is walked: it reads this memory; it reads none; it stores. -/
inductive DK where
  | bound
  | free
  | put
deriving DecidableEq
def fam : DK → World → World → Prop
  | .bound, B, W => ∃ n, W = B.drewN n
  | .free, _, _ => True
  | .put, _, _ => False
/-- One operation, over the base world B. -/
def opG (P : Program) (C : FuncId → Array Value → Value → Prop) (k : DK) (o : Oper) (a : Act) (B : World) (next : Act → World → Prop) : Prop :=
  match k with
  | .put => ∃ B', (∀ n, (execOp a.eval o).run P (B.drewN n) = .ok .skip (B'.drewN n)) ∧ next (a.put o.dst undef) B'
  | k => ∀ W, fam k B W → driftUpon P C W o a (fun a' => next a' B) ((execOp a.eval o).run P W)
def stG (P : Program) (C : FuncId → Array Value → Value → Prop) (ops : Array Oper) (kd : Nat → DK) (i : Nat) (K : Act → World → Prop) (a : Act) (B : World) : Prop :=
  match ops[i]? with
  | none => K a B
  | some o => if Region.wanted o (yielded ops a.tmps) then opG P C (kd i) o a B K else K (a.put o.dst undef) B
/-- One after another, in the order of the list. -/
def wpG (P : Program) (C : FuncId → Array Value → Value → Prop) (ops : Array Oper) (kd : Nat → DK) (Q : Act → World → Prop) : List Nat → Act → World → Prop
  | [], a, B => Q a B
  | i :: r, a, B => stG P C ops kd i (wpG P C ops kd Q r) a B
/-- In all orders. -/
def wpAnyG (P : Program) (C : FuncId → Array Value → Value → Prop) (md : Region.Mode) (ops : Array Oper) (kd : Nat → DK) (Q : Act → World → Prop) : Nat → Array Bool → Act → World → Prop
  | 0, listed, a, B => Region.ready md ops listed = [] ∧ Q a B
  | f + 1, listed, a, B => Region.ready md ops listed ≠ [] ∧ ∀ i ∈ Region.ready md ops listed, stG P C ops kd i (wpAnyG P C md ops kd Q f (listed.setIfInBounds i true)) a B
section
variable {kd : Nat → DK} {B : World} {Q : Act → World → Prop}
theorem driftUpon_mono {o : Oper} {a : Act} {W : World} {K K' : Act → Prop} (h : ∀ a, K a → K' a) {r : Result Next} (hh : driftUpon P C W o a K r) : driftUpon P C W o a K' r := by
  cases r with
  | ok n w' =>
    cases n <;> simp only [driftUpon] at hh ⊢
    case enter f args => exact ⟨hh.1, hh.2.1, fun v hv => h _ (hh.2.2 v hv)⟩
    all_goals exact ⟨hh.1, h _ hh.2⟩
  | halt x w' => simp only [driftUpon] at hh
theorem opG_mono {k : DK} {o : Oper} {a : Act} {K K' : Act → World → Prop} (h : ∀ a B, K a B → K' a B) (hh : opG P C k o a B K) : opG P C k o a B K' := by
  cases k with
  | put => obtain ⟨B', h1, h2⟩ := hh; exact ⟨B', h1, h _ _ h2⟩
  | bound => exact fun W hW => driftUpon_mono (fun a' => h a' B) (hh W hW)
  | free => exact fun W hW => driftUpon_mono (fun a' => h a' B) (hh W hW)
theorem stG_mono {i : Nat} {a : Act} {K K' : Act → World → Prop} (h : ∀ a B, K a B → K' a B) (hh : stG P C ops kd i K a B) : stG P C ops kd i K' a B := by
  unfold stG at *
  split
  · exact h _ _ (by simpa [*] using hh)
  · rename_i o ho
    simp only [ho] at hh
    split
    · rename_i hw; simp only [hw, if_true] at hh; exact opG_mono h hh
    · rename_i hw; simp only [hw] at hh; exact h _ _ hh
/-- What one run may give. -/
def opGives (C : FuncId → Array Value → Value → Prop) (v : Value) : Result Next → Prop
  | .ok (.value u) _ => v = u
  | .ok .skip _ => v = undef
  | .ok (.enter f args) _ => C f args v
  | _ => False
def mayGive (P : Program) (C : FuncId → Array Value → Value → Prop) (ops : Array Oper) (k : DK) (B : World) (o : Oper) (a : Act) (v : Value) : Prop :=
  if Region.wanted o (yielded ops a.tmps) then ∃ W, fam k B W ∧ opGives C v ((execOp a.eval o).run P W) else v = undef
def fineOp (P : Program) (C : FuncId → Array Value → Value → Prop) (ops : Array Oper) (k : DK) (B : World) (o : Oper) (a : Act) : Prop :=
  Region.wanted o (yielded ops a.tmps) = true → ∀ W, fam k B W → driftUpon P C W o a (fun _ => True) ((execOp a.eval o).run P W)
theorem driftUpon_iff {o : Oper} {a : Act} {W : World} {K : Act → Prop} {r : Result Next} : driftUpon P C W o a K r ↔ driftUpon P C W o a (fun _ => True) r ∧ ∀ v, opGives C v r → K (a.put o.dst v) := by
  cases r with
  | ok n w' =>
    cases n <;> simp only [driftUpon, opGives] <;> constructor
    case value.mp v => exact fun h => ⟨⟨h.1, trivial⟩, fun u hu => by rw [hu]; exact h.2⟩
    case value.mpr v => exact fun h => ⟨h.1.1, h.2 _ rfl⟩
    case skip.mp => exact fun h => ⟨⟨h.1, trivial⟩, fun u hu => by rw [hu]; exact h.2⟩
    case skip.mpr => exact fun h => ⟨h.1.1, h.2 _ rfl⟩
    case enter.mp f args => exact fun h => ⟨⟨h.1, h.2.1, fun _ _ => trivial⟩, h.2.2⟩
    case enter.mpr f args => exact fun h => ⟨h.1.1, h.1.2.1, h.2⟩
    all_goals first | exact fun h => h.elim | exact fun h => h.1.elim
  | halt x w' => simp only [driftUpon, opGives]; exact ⟨fun h => h.elim, fun h => h.1.elim⟩
theorem opG_drift {k : DK} (hk : k ≠ .put) {o : Oper} {a : Act} {K : Act → World → Prop} : opG P C k o a B K ↔ ∀ W, fam k B W → driftUpon P C W o a (fun a' => K a' B) ((execOp a.eval o).run P W) := by
  cases k with
  | put => exact absurd rfl hk
  | bound => exact Iff.rfl
  | free => exact Iff.rfl
theorem stG_iff {i : Nat} {o : Oper} (hi : ops[i]? = some o) (hk : kd i ≠ .put) {a : Act} {K : Act → World → Prop} : stG P C ops kd i K a B ↔ fineOp P C ops (kd i) B o a ∧ ∀ v, mayGive P C ops (kd i) B o a v → K (a.put o.dst v) B := by
  unfold stG fineOp mayGive
  simp only [hi]
  split
  · rename_i hw
    rw [opG_drift hk]
    constructor
    · intro h
      exact ⟨fun _ W hW => (driftUpon_iff.1 (h W hW)).1, fun v ⟨W, hW, hv⟩ => (driftUpon_iff.1 (h W hW)).2 v hv⟩
    · intro h W hW
      exact driftUpon_iff.2 ⟨h.1 hw W hW, fun v hv => h.2 v ⟨W, hW, hv⟩⟩
  · rename_i hw
    exact ⟨fun h => ⟨fun hh => absurd hh hw, fun v hv => by rw [hv]; exact h⟩, fun h => h.2 _ rfl⟩
theorem gives_some {o : Oper} {a : Act} {W : World} {r : Result Next} (h : driftUpon P C W o a (fun _ => True) r) : ∃ v, opGives C v r := by
  cases r with
  | ok n w' =>
    cases n <;> simp only [driftUpon, opGives] at h ⊢
    case value v => exact ⟨v, rfl⟩
    case skip => exact ⟨_, rfl⟩
    case enter f args =>
      obtain ⟨e, w'', fr, ⟨v, k, _, _, hv⟩, _⟩ := h.2.1 []
      exact ⟨v, hv⟩
  | halt x w' => simp only [driftUpon] at h
theorem fam_self {k : DK} (hk : k ≠ .put) (B : World) : fam k B B := by
  cases k with
  | put => exact absurd rfl hk
  | bound => exact ⟨0, rfl⟩
  | free => trivial
theorem mayGive_some {k : DK} (hk : k ≠ .put) {o : Oper} {a : Act} (h : fineOp P C ops k B o a) : ∃ v, mayGive P C ops k B o a v := by
  unfold mayGive
  by_cases hw : Region.wanted o (yielded ops a.tmps) = true
  · obtain ⟨v, hv⟩ := gives_some (h hw B (fam_self hk B))
    exact ⟨v, by rw [if_pos hw]; exact ⟨B, fam_self hk B, hv⟩⟩
  · exact ⟨undef, by rw [if_neg hw]⟩
theorem fine_put {k : DK} {o : Oper} (hs : ∀ cs b, o.op ≠ .select cs b) {a : Act} {dst : Option Tmp} {v : Value} (h : ∀ d, dst = some d → d ∉ o.looksAt ops) : fineOp P C ops k B o (a.put dst v) ↔ fineOp P C ops k B o a := by
  unfold fineOp
  rw [wanted_put o a dst v h, execOp_put o hs a dst v h]
  constructor
  all_goals
    intro hh hw W hW
    have := hh hw W hW
    generalize (execOp a.eval o).run P W = r at *
    cases r with
    | ok q w' => cases q <;> simp only [driftUpon] at this ⊢ <;> exact this
    | halt x w' => simp only [driftUpon] at this
theorem mayGive_put {k : DK} {o : Oper} (hs : ∀ cs b, o.op ≠ .select cs b) {a : Act} {dst : Option Tmp} {v u : Value} (h : ∀ d, dst = some d → d ∉ o.looksAt ops) : mayGive P C ops k B o (a.put dst v) u ↔ mayGive P C ops k B o a u := by
  unfold mayGive
  rw [wanted_put o a dst v h, execOp_put o hs a dst v h]
theorem free_fine {o : Oper} {a : Act} {B B' : World} (h : fineOp P C ops .free B o a) : fineOp P C ops .free B' o a := h
theorem free_may {o : Oper} {a : Act} {B B' : World} {v : Value} (h : mayGive P C ops .free B o a v) : mayGive P C ops .free B' o a v := h
theorem stG_put {i j : Nat} {oi oj : Oper} (hj : ops[j]? = some oj) (hki : kd i ≠ .put) (hkj : kd j = .put → kd i = .free) (hap : oi.apart ops oj = true) (hsi : ∀ cs b, oi.op ≠ .select cs b) (hsj : ∀ cs b, oj.op ≠ .select cs b) {K : Act → World → Prop} {a : Act}
    (hf : fineOp P C ops (kd i) B oi a) (h : ∀ v, mayGive P C ops (kd i) B oi a v → stG P C ops kd j K (a.put oi.dst v) B) :
    stG P C ops kd j (fun a' B' => fineOp P C ops (kd i) B' oi a' ∧ ∀ v, mayGive P C ops (kd i) B' oi a' v → K (a'.put oi.dst v) B') a B := by
  obtain ⟨h1, h2, h3⟩ := Oper.apart_spec hap
  obtain ⟨v0, hv0⟩ := mayGive_some hki hf
  by_cases hk : kd j = .put
  · have hkf := hkj hk
    rw [hkf] at hf h hv0 ⊢
    have h0 := h v0 hv0
    unfold stG at h0 ⊢
    simp only [hj, hk] at h0 ⊢
    rw [wanted_put oj a oi.dst v0 h1] at h0
    split
    · rename_i hw
      simp only [hw, if_true] at h0
      obtain ⟨B', hr, hn⟩ := h0
      rw [execOp_put oj hsj a oi.dst v0 h1] at hr
      refine ⟨B', hr, free_fine ((fine_put hsi h3).2 hf), fun v hv => ?_⟩
      have hv' := free_may (B' := B) ((mayGive_put hsi h3).1 hv)
      have h4 := h v hv'
      unfold stG at h4
      simp only [hj, hk] at h4
      rw [wanted_put oj a oi.dst v h1] at h4
      simp only [hw, if_true] at h4
      obtain ⟨B2, hr2, hn2⟩ := h4
      rw [execOp_put oj hsj a oi.dst v h1] at hr2
      have e : B2 = B' := by
        have e1 := hr2 0
        have e2 := hr 0
        rw [e2] at e1
        injection e1 with _ e3
        exact e3.symm
      subst e
      rw [← Act.put_comm a v undef h2]
      exact hn2
    · rename_i hw
      simp only [hw] at h0
      refine ⟨free_fine ((fine_put hsi h3).2 hf), fun v hv => ?_⟩
      have hv' := (mayGive_put hsi h3).1 hv
      have h4 := h v hv'
      unfold stG at h4
      simp only [hj, hk] at h4
      rw [wanted_put oj a oi.dst v h1] at h4
      simp only [hw] at h4
      rw [← Act.put_comm a v undef h2]
      exact h4
  · rw [stG_iff hj hk]
    refine ⟨(fine_put hsj h1).1 ((stG_iff hj hk).1 (h v0 hv0)).1, fun u hu => ⟨(fine_put hsi h3).2 hf, fun v hv => ?_⟩⟩
    have hv' := (mayGive_put hsi h3).1 hv
    have := ((stG_iff hj hk).1 (h v hv')).2 u ((mayGive_put hsj h1).2 hu)
    rw [← Act.put_comm a v u h2]
    exact this
theorem wpOp_of_stG {i : Nat} {a : Act} {K : Act → World → Prop} {K' : Act → World → Prop} {Q' : Exit → Act → World → Prop} (h : ∀ a B k, K a B → K' a (B.drewN k)) (n : Nat) (hh : stG P C ops kd i K a B) : wpOp P ops Q' i K' a (B.drewN n) := by
  unfold stG at hh
  unfold wpOp
  split
  · rename_i ho; simp only [ho] at hh; exact h _ _ _ hh
  · rename_i o ho
    simp only [ho] at hh
    split
    · rename_i hw
      simp only [hw, if_true] at hh
      left
      unfold Oper.wp
      by_cases hk : kd i = .put
      · rw [hk] at hh
        obtain ⟨B', hr, hn⟩ := hh
        rw [hr n]
        exact h _ _ _ hn
      · rw [opG_drift hk] at hh
        have := hh (B.drewN n) (by cases hq : kd i with
          | put => exact absurd hq hk
          | bound => exact ⟨n, rfl⟩
          | free => trivial)
        generalize (execOp a.eval o).run P (B.drewN n) = r at *
        cases r with
        | ok q w' =>
          cases q <;> simp only [driftUpon] at this <;> simp only [Oper.upon]
          case enter f args =>
            obtain ⟨_, hc, hn⟩ := this
            refine hc.mono fun e w'' ⟨v, k, he, hk, hv⟩ => ?_
            subst he hk
            rw [World.drewN_drewN]
            exact h _ _ _ (hn v hv)
          all_goals (obtain ⟨⟨m, rfl⟩, h2⟩ := this; rw [World.drewN_drewN]; exact h _ _ _ h2)
        | halt x w' => simp only [driftUpon] at this
    · rename_i hw; simp only [hw] at hh; exact h _ _ _ hh
theorem wpAny_of_G {Q' : Exit → Act → World → Prop} (hQ : ∀ a B k, Q a B → Q' .normal a (B.drewN k)) :
    ∀ (f : Nat) (listed : Array Bool) (a : Act) (B : World) (k : Nat), wpAnyG P C md ops kd Q f listed a B → wpAny P md ops Q' f listed a (B.drewN k)
  | 0, listed, a, B, k, h => ⟨h.1, hQ _ _ _ h.2⟩
  | f + 1, listed, a, B, k, h => ⟨fun h0 => absurd h0 h.1, fun i hi => wpOp_of_stG (fun a' B' k' h' => wpAny_of_G hQ f _ a' B' k' h') k (h.2 i hi)⟩
/-- What is listed brings with it what it waits for. -/
structure ClosedL (md : Region.Mode) (ops : Array Oper) (listed : Array Bool) : Prop where
  size : listed.size = ops.size
  closed : ∀ j oj, ops[j]? = some oj → listed.getD j false = true → ∀ e ∈ oj.after, Region.binds md e = true → listed.getD e.on false = true
theorem ClosedL.set {i : Nat} {listed : Array Bool} (inv : ClosedL md ops listed) (hi : i ∈ Region.ready md ops listed) : ClosedL md ops (listed.setIfInBounds i true) := by
  obtain ⟨_, oi, hoi, hall⟩ := mem_ready.1 hi
  refine ⟨by simp [inv.size], fun j oj hj hl e he hb => ?_⟩
  by_cases hij : i = j
  · subst hij
    have : oj = oi := Option.some.inj (hj.symm.trans hoi)
    subst this
    exact getD_set_true (hall e he hb)
  · rw [getD_set_ne false hij] at hl
    exact getD_set_true (inv.closed j oj hj hl e he hb)
def reachB (md : Region.Mode) (ops : Array Oper) : Nat → Nat → Nat → Bool
  | 0, t, i => Region.waitsFor md ops t i
  | f + 1, t, i => Region.waitsFor md ops t i || (List.range ops.size).any fun j => Region.waitsFor md ops t j && reachB md ops f j i
theorem reach_listed {listed : Array Bool} (inv : ClosedL md ops listed) : ∀ (f t i : Nat), (∀ ot, ops[t]? = some ot → ∀ e ∈ ot.after, Region.binds md e = true → listed.getD e.on false = true) → reachB md ops f t i = true → listed.getD i false = true := by
  have base : ∀ t i, (∀ ot, ops[t]? = some ot → ∀ e ∈ ot.after, Region.binds md e = true → listed.getD e.on false = true) → Region.waitsFor md ops t i = true → listed.getD i false = true := fun t i hall h => by
    obtain ⟨ot, hot, e, he, hb, rfl⟩ := Region.waitsFor_spec h
    exact hall ot hot e he hb
  intro f
  induction f with
  | zero => intro t i hall h; exact base t i hall h
  | succ f ih =>
    intro t i hall h
    simp only [reachB, Bool.or_eq_true] at h
    rcases h with h | h
    · exact base t i hall h
    · obtain ⟨j, _, hj⟩ := List.any_eq_true.1 h
      simp only [Bool.and_eq_true] at hj
      have hl := base t j hall hj.1
      exact ih j i (fun oj hoj e he hb => inv.closed j oj hoj hl e he hb) hj.2
/-- No store is ready as long as something that reads memory is not done, or it waits for the store. -/
def lowB (md : Region.Mode) (ops : Array Oper) (kd : Nat → DK) (f : Nat) : Bool :=
  (List.range ops.size).all fun i => decide (kd i ≠ .bound) || (List.range ops.size).all fun j => decide (kd j ≠ .put) || (reachB md ops f j i || reachB md ops f i j)
theorem ready_after {i : Nat} {listed : Array Bool} (h : i ∈ Region.ready md ops listed) : ∀ ot, ops[i]? = some ot → ∀ e ∈ ot.after, Region.binds md e = true → listed.getD e.on false = true := by
  obtain ⟨_, oi, hoi, hall⟩ := mem_ready.1 h
  intro ot hot
  have : ot = oi := Option.some.inj (hot.symm.trans hoi)
  subst this
  exact hall
theorem low_spec {f : Nat} (hB : lowB md ops kd f = true) {listed : Array Bool} (inv : ClosedL md ops listed) {i j : Nat} (hi : i ∈ Region.ready md ops listed) (hj : j ∈ Region.ready md ops listed) (hkj : kd j = .put) (hki : kd i ≠ .put) : kd i = .free := by
  cases hk : kd i with
  | free => rfl
  | put => exact absurd hk hki
  | bound =>
    obtain ⟨hun, oi, hoi, _⟩ := mem_ready.1 hi
    obtain ⟨hjun, oj, hoj, _⟩ := mem_ready.1 hj
    have h1 := List.all_eq_true.1 hB i (List.mem_range.2 (Array.getElem?_eq_some_iff.1 hoi).1)
    rw [hk] at h1
    have h2 := List.all_eq_true.1 (show ((List.range ops.size).all fun j => decide (kd j ≠ .put) || (reachB md ops f j i || reachB md ops f i j)) = true from by simpa using h1) j (List.mem_range.2 (Array.getElem?_eq_some_iff.1 hoj).1)
    rw [hkj] at h2
    have h3 : reachB md ops f j i = true ∨ reachB md ops f i j = true := by simpa using h2
    rcases h3 with h3 | h3
    · have := reach_listed inv f j i (ready_after hj) h3
      rw [getD_both hun] at this; cases this
    · have := reach_listed inv f i j (ready_after hi) h3
      rw [getD_both hjun] at this; cases this
theorem wpAnyG_first {f0 i : Nat} {oi : Oper} (hi : ops[i]? = some oi) (hsel : ∀ (j : Nat) (o : Oper) cs b, ops[j]? = some o → o.op ≠ .select cs b) (hki : kd i ≠ .put) (hB : lowB md ops kd f0 = true) :
    ∀ (f : Nat) (listed : Array Bool) (a : Act) (B : World), ClosedL md ops listed →
      (∀ j oj, ops[j]? = some oj → j ≠ i → listed.getD j true = false → (∀ e ∈ oj.after, Region.binds md e = true → e.on ≠ i) → oi.apart ops oj = true) →
      i ∈ Region.ready md ops listed → fineOp P C ops (kd i) B oi a → (∀ v, mayGive P C ops (kd i) B oi a v → wpAnyG P C md ops kd Q f (listed.setIfInBounds i true) (a.put oi.dst v) B) → wpAnyG P C md ops kd Q (f + 1) listed a B := by
  intro f
  induction f with
  | zero =>
    intro listed a B inv _ hr hf H
    obtain ⟨v0, hv0⟩ := mayGive_some hki hf
    refine ⟨fun h => (by rw [h] at hr; cases hr), fun j hj => ?_⟩
    by_cases hji : j = i
    · subst hji; exact (stG_iff hi hki).2 ⟨hf, H⟩
    · have h1 := ready_mono hj hji
      rw [(H v0 hv0).1] at h1
      cases h1
  | succ f ih =>
    intro listed a B inv hfree hr hf H
    have hun := (mem_ready.1 hr).1
    refine ⟨fun h => (by rw [h] at hr; cases hr), fun j hj => ?_⟩
    by_cases hji : j = i
    · subst hji; exact (stG_iff hi hki).2 ⟨hf, H⟩
    · obtain ⟨hjun, oj, hoj, hall⟩ := mem_ready.1 hj
      have hnot : ∀ e ∈ oj.after, Region.binds md e = true → e.on ≠ i := fun e he hb heq => by
        have h1 := hall e he hb
        rw [heq, getD_both hun] at h1
        cases h1
      have h2 := stG_put hoj hki (fun hkj => low_spec hB inv hr hj hkj hki) (hfree j oj hoj hji hjun hnot) (fun cs b => hsel i oi cs b hi) (fun cs b => hsel j oj cs b hoj) hf (fun v hv => (H v hv).2 j (ready_mono hj hji))
      have hfree' : ∀ k ok, ops[k]? = some ok → k ≠ i → (listed.setIfInBounds j true).getD k true = false → (∀ e ∈ ok.after, Region.binds md e = true → e.on ≠ i) → oi.apart ops ok = true := fun k ok hk hki hunk hno => by
        refine hfree k ok hk hki ?_ hno
        by_cases hjk : j = k
        · subst hjk; exact hjun
        · rw [getD_set_ne true hjk] at hunk; exact hunk
      refine stG_mono (fun a' B' h3 => ih (listed.setIfInBounds j true) a' B' (inv.set hj) hfree' (ready_mono hr (Ne.symm hji)) h3.1 (fun v hv => ?_)) h2
      rw [Array.setIfInBounds_comm _ _ hji]
      exact h3.2 v hv
def planB (md : Region.Mode) (ops : Array Oper) (kd : Nat → DK) : List Nat → Array Bool → Bool
  | [], listed => (Region.ready md ops listed).isEmpty
  | i :: r, listed => (if kd i = .put then decide (Region.ready md ops listed = [i]) else ((Region.ready md ops listed).contains i && Region.free md ops listed i)) && planB md ops kd r (listed.setIfInBounds i true)
theorem wpAnyG_plan {f0 : Nat} (hsel : Region.noSelect ops = true) (hB : lowB md ops kd f0 = true) : ∀ (l : List Nat) (listed : Array Bool) (a : Act) (B : World), ClosedL md ops listed → planB md ops kd l listed = true → wpG P C ops kd Q l a B → wpAnyG P C md ops kd Q l.length listed a B
  | [], listed, a, B, _, hp, h => ⟨by simpa [planB] using hp, h⟩
  | i :: r, listed, a, B, inv, hp, h => by
    simp only [planB, Bool.and_eq_true] at hp
    obtain ⟨hp1, hp2⟩ := hp
    by_cases hk : kd i = .put
    · rw [if_pos hk] at hp1
      have hre : Region.ready md ops listed = [i] := of_decide_eq_true hp1
      have hmem : i ∈ Region.ready md ops listed := by rw [hre]; simp
      refine ⟨by rw [hre]; simp, fun j hj => ?_⟩
      rw [hre] at hj
      have : j = i := by simpa using hj
      subst this
      exact stG_mono (fun a' B' h' => wpAnyG_plan hsel hB r _ a' B' (inv.set hmem) hp2 h') h
    · rw [if_neg hk, Bool.and_eq_true] at hp1
      have hmem : i ∈ Region.ready md ops listed := by simpa using hp1.1
      obtain ⟨_, oi, hoi, _⟩ := mem_ready.1 hmem
      obtain ⟨hf, hK⟩ := (stG_iff hoi hk).1 h
      exact wpAnyG_first hoi (Region.noSelect_spec hsel) hk hB r.length listed a B inv (Region.free_spec hoi hp1.2) hmem hf (fun v hv => wpAnyG_plan hsel hB r _ _ B (inv.set hmem) hp2 (hK v hv))
def regionB (md : Region.Mode) (ops : Array Oper) (kd : Nat → DK) (l : List Nat) : Bool :=
  Region.noSelect ops && (decide (l.length = ops.size) && (lowB md ops kd 1 && planB md ops kd l (Array.replicate ops.size false)))
/-- THE REGION. -/
theorem wp_region_G {id : Nat} {Q' : Exit → Act → World → Prop} {a : Act} {w : World} {ops : Array Oper} (C : FuncId → Array Value → Value → Prop) (kd : Nat → DK) (l : List Nat) (hm : P.follows .mixedOrders = true) (hB : regionB .any ops kd l = true)
    (h : wpG P C ops kd (fun a' B => ∀ k, Q' .normal a' (B.drewN k)) l a w.drew) : (Code.region id ops true).wp P Q' a w := by
  simp only [regionB, Bool.and_eq_true, decide_eq_true_eq] at hB
  obtain ⟨hsel, hn, hlow, hp⟩ := hB
  have inv0 : ClosedL .any ops (Array.replicate ops.size false) := ⟨by simp, fun j oj _ hl => (by rw [getD_replicate_false] at hl; cases hl)⟩
  have H := wpAnyG_plan hsel hlow l _ a w.drew inv0 hp h
  rw [hn] at H
  refine wp_region_any hm ?_
  have := wpAny_of_G (Q' := Q') (fun a B k hq => hq k) _ _ _ _ 0 H
  exact this
/-! ### Steps -/
theorem wpG_bound {i : Nat} {r : List Nat} {a : Act} {o : Oper} (ho : ops[i]? = some o) (hk : kd i = .bound)
    (h : ∀ (K : Act → Prop), (∀ a, wpG P C ops kd Q r a B → K a) → ∀ n : Nat, if Region.wanted o (yielded ops a.tmps) then driftUpon P C (B.drewN n) o a K ((execOp a.eval o).run P (B.drewN n)) else K (a.put o.dst undef)) : wpG P C ops kd Q (i :: r) a B := by
  have h' := h _ (fun _ h => h)
  unfold wpG stG
  simp only [ho]
  split
  · rename_i hw
    rw [hk]
    rintro W ⟨n, rfl⟩
    have := h' n
    rwa [if_pos hw] at this
  · rename_i hw
    have := h' 0
    rwa [if_neg hw] at this
theorem wpG_free {i : Nat} {r : List Nat} {a : Act} {o : Oper} (ho : ops[i]? = some o) (hk : kd i = .free)
    (h : ∀ (K : Act → Prop), (∀ a, wpG P C ops kd Q r a B → K a) → ∀ W : World, if Region.wanted o (yielded ops a.tmps) then driftUpon P C W o a K ((execOp a.eval o).run P W) else K (a.put o.dst undef)) : wpG P C ops kd Q (i :: r) a B := by
  have h' := h _ (fun _ h => h)
  unfold wpG stG
  simp only [ho]
  split
  · rename_i hw
    rw [hk]
    intro W _
    have := h' W
    rwa [if_pos hw] at this
  · rename_i hw
    have := h' B
    rwa [if_neg hw] at this
theorem wpG_put {i : Nat} {r : List Nat} {a : Act} {o : Oper} (B' : World) (ho : ops[i]? = some o) (hk : kd i = .put) (hw : Region.wanted o (yielded ops a.tmps) = true)
    (h1 : ∀ n : Nat, (execOp a.eval o).run P (B.drewN n) = .ok .skip (B'.drewN n)) (h : wpG P C ops kd Q r (a.put o.dst undef) B') : wpG P C ops kd Q (i :: r) a B := by
  unfold wpG stG
  simp only [ho, hw, if_true]
  rw [hk]
  exact ⟨B', h1, h⟩
theorem wpG_nil {a : Act} (h : Q a B) : wpG P C ops kd Q [] a B := h
end
end
end Go.Proofs.Ythohhiaeaefdcaa
