/-
  A region that draws its order, whose operations read and draw, whose calls draw alone, and whose stores are forced: one walk, in an
  order that is handed in, each value one of a set. (Orders commute because what an operation may give hangs on the slots that it reads
  alone; what reads no memory, 'free', may come before or behind a store.)
-/
import Derived.StillTail
import Derived.Deep.Draws
import Derived.WalkKit
import Derived.Test.YtldaamgohdnjnaaLvi
import Derived.Deep.DeepCutAuto
import Derived.Deep.QuietTactic
import Derived.BigQuiet
import Derived.Deep.RegionHeld3
import Derived.Test.YtldaamgohdnjnaaLrz
import Derived.Test.YtldaamgohdnjnaaCLaw
import Derived.Test.YtldaamgohdnjnaaRow
namespace Go.Proofs.Ytldaamgohdnjnaa
open Go.RowKit
set_option linter.unusedVariables false
section
variable {P : Program} {ops : Array Oper} {md : Region.Mode} {w : World} {C : FuncId → Array Value → Value → Prop}
/-- What is asked of one run of an operation: it draws alone, and goes on with what it gives. -/
def driftUpon (P : Program) (C : FuncId → Array Value → Value → Prop) (w : World) (o : Oper) (a : Act) (next : Act → Prop) : Result Next → Prop
  | .ok (.value v) w' => (∃ m, w' = w.drewN m) ∧ next (a.put o.dst v)
  | .ok .skip w' => (∃ m, w' = w.drewN m) ∧ next (a.put o.dst undef)
  | .ok (.enter f args) w' => (∃ m, w' = w.drewN m) ∧ Calls P f args w' (fun e w'' => ∃ v k, e = .returned v ∧ w'' = w.drewN k ∧ C f args v) ∧ ∀ v, C f args v → next (a.put o.dst v)
  | _ => False
@[go_sem] theorem driftUpon_value (o : Oper) (a : Act) (next : Act → Prop) (v : Value) (w' : World) : driftUpon P C w o a next (.ok (.value v) w') = ((∃ m, w' = w.drewN m) ∧ next (a.put o.dst v)) := rfl
@[go_sem] theorem driftUpon_skip (o : Oper) (a : Act) (next : Act → Prop) (w' : World) : driftUpon P C w o a next (.ok .skip w') = ((∃ m, w' = w.drewN m) ∧ next (a.put o.dst undef)) := rfl
@[go_sem] theorem driftUpon_enter (o : Oper) (a : Act) (next : Act → Prop) (f : FuncId) (args : Array Value) (w' : World) : driftUpon P C w o a next (.ok (.enter f args) w') = ((∃ m, w' = w.drewN m) ∧ Calls P f args w' (fun e w'' => ∃ v k, e = .returned v ∧ w'' = w.drewN k ∧ C f args v) ∧ ∀ v, C f args v → next (a.put o.dst v)) := rfl
/-- How an operation is walked: it reads this memory; it reads none; it stores. -/
inductive DK where
  | bound
  | free
  | put
deriving DecidableEq
def fam : DK → World → World → Prop
  | .bound, B, W => ∃ n, W = B.drewN n
  | .free, _, _ => True
  | .put, _, _ => False
/-- One operation, over the base world B. -/
def opG (P : Program) (C : FuncId → Array Value → Value → Prop) (k : DK) (o : Oper) (a : Act) (B : World) (next : Act → World → Prop) : Prop :=
  match k with
  | .put => ∃ B', (∀ n, (execOp a.eval o).run P (B.drewN n) = .ok .skip (B'.drewN n)) ∧ next (a.put o.dst undef) B'
  | k => ∀ W, fam k B W → driftUpon P C W o a (fun a' => next a' B) ((execOp a.eval o).run P W)
def stG (P : Program) (C : FuncId → Array Value → Value → Prop) (ops : Array Oper) (kd : Nat → DK) (i : Nat) (K : Act → World → Prop) (a : Act) (B : World) : Prop :=
  match ops[i]? with
  | none => K a B
  | some o => if Region.wanted o (yielded ops a.tmps) then opG P C (kd i) o a B K else K (a.put o.dst undef) B
/-- One after another, in the order of the list. -/
def wpG (P : Program) (C : FuncId → Array Value → Value → Prop) (ops : Array Oper) (kd : Nat → DK) (Q : Act → World → Prop) : List Nat → Act → World → Prop
  | [], a, B => Q a B
  | i :: r, a, B => stG P C ops kd i (wpG P C ops kd Q r) a B
/-- In all orders. -/
def wpAnyG (P : Program) (C : FuncId → Array Value → Value → Prop) (md : Region.Mode) (ops : Array Oper) (kd : Nat → DK) (Q : Act → World → Prop) : Nat → Array Bool → Act → World → Prop
  | 0, listed, a, B => Region.ready md ops listed = [] ∧ Q a B
  | f + 1, listed, a, B => Region.ready md ops listed ≠ [] ∧ ∀ i ∈ Region.ready md ops listed, stG P C ops kd i (wpAnyG P C md ops kd Q f (listed.setIfInBounds i true)) a B
section
variable {kd : Nat → DK} {B : World} {Q : Act → World → Prop}
theorem driftUpon_mono {o : Oper} {a : Act} {W : World} {K K' : Act → Prop} (h : ∀ a, K a → K' a) {r : Result Next} (hh : driftUpon P C W o a K r) : driftUpon P C W o a K' r := by
  cases r with
  | ok n w' =>
    cases n <;> simp only [driftUpon] at hh ⊢
    case enter f args => exact ⟨hh.1, hh.2.1, fun v hv => h _ (hh.2.2 v hv)⟩
    all_goals exact ⟨hh.1, h _ hh.2⟩
  | halt x w' => simp only [driftUpon] at hh
theorem opG_mono {k : DK} {o : Oper} {a : Act} {K K' : Act → World → Prop} (h : ∀ a B, K a B → K' a B) (hh : opG P C k o a B K) : opG P C k o a B K' := by
  cases k with
  | put => obtain ⟨B', h1, h2⟩ := hh; exact ⟨B', h1, h _ _ h2⟩
  | bound => exact fun W hW => driftUpon_mono (fun a' => h a' B) (hh W hW)
  | free => exact fun W hW => driftUpon_mono (fun a' => h a' B) (hh W hW)
theorem stG_mono {i : Nat} {a : Act} {K K' : Act → World → Prop} (h : ∀ a B, K a B → K' a B) (hh : stG P C ops kd i K a B) : stG P C ops kd i K' a B := by
  unfold stG at *
  split
  · exact h _ _ (by simpa [*] using hh)
  · rename_i o ho
    simp only [ho] at hh
    split
    · rename_i hw; simp only [hw, if_true] at hh; exact opG_mono h hh
    · rename_i hw; simp only [hw] at hh; exact h _ _ hh
/-- What one run may give. -/
def opGives (C : FuncId → Array Value → Value → Prop) (v : Value) : Result Next → Prop
  | .ok (.value u) _ => v = u
  | .ok .skip _ => v = undef
  | .ok (.enter f args) _ => C f args v
  | _ => False
def mayGive (P : Program) (C : FuncId → Array Value → Value → Prop) (ops : Array Oper) (k : DK) (B : World) (o : Oper) (a : Act) (v : Value) : Prop :=
  if Region.wanted o (yielded ops a.tmps) then ∃ W, fam k B W ∧ opGives C v ((execOp a.eval o).run P W) else v = undef
def fineOp (P : Program) (C : FuncId → Array Value → Value → Prop) (ops : Array Oper) (k : DK) (B : World) (o : Oper) (a : Act) : Prop :=
  Region.wanted o (yielded ops a.tmps) = true → ∀ W, fam k B W → driftUpon P C W o a (fun _ => True) ((execOp a.eval o).run P W)
theorem driftUpon_iff {o : Oper} {a : Act} {W : World} {K : Act → Prop} {r : Result Next} : driftUpon P C W o a K r ↔ driftUpon P C W o a (fun _ => True) r ∧ ∀ v, opGives C v r → K (a.put o.dst v) := by
  cases r with
  | ok n w' =>
    cases n <;> simp only [driftUpon, opGives] <;> constructor
    case value.mp v => exact fun h => ⟨⟨h.1, trivial⟩, fun u hu => by rw [hu]; exact h.2⟩
    case value.mpr v => exact fun h => ⟨h.1.1, h.2 _ rfl⟩
    case skip.mp => exact fun h => ⟨⟨h.1, trivial⟩, fun u hu => by rw [hu]; exact h.2⟩
    case skip.mpr => exact fun h => ⟨h.1.1, h.2 _ rfl⟩
    case enter.mp f args => exact fun h => ⟨⟨h.1, h.2.1, fun _ _ => trivial⟩, h.2.2⟩
    case enter.mpr f args => exact fun h => ⟨h.1.1, h.1.2.1, h.2⟩
    all_goals first | exact fun h => h.elim | exact fun h => h.1.elim
  | halt x w' => simp only [driftUpon, opGives]; exact ⟨fun h => h.elim, fun h => h.1.elim⟩
theorem opG_drift {k : DK} (hk : k ≠ .put) {o : Oper} {a : Act} {K : Act → World → Prop} : opG P C k o a B K ↔ ∀ W, fam k B W → driftUpon P C W o a (fun a' => K a' B) ((execOp a.eval o).run P W) := by
  cases k with
  | put => exact absurd rfl hk
  | bound => exact Iff.rfl
  | free => exact Iff.rfl
theorem stG_iff {i : Nat} {o : Oper} (hi : ops[i]? = some o) (hk : kd i ≠ .put) {a : Act} {K : Act → World → Prop} : stG P C ops kd i K a B ↔ fineOp P C ops (kd i) B o a ∧ ∀ v, mayGive P C ops (kd i) B o a v → K (a.put o.dst v) B := by
  unfold stG fineOp mayGive
  simp only [hi]
  split
  · rename_i hw
    rw [opG_drift hk]
    constructor
    · intro h
      exact ⟨fun _ W hW => (driftUpon_iff.1 (h W hW)).1, fun v ⟨W, hW, hv⟩ => (driftUpon_iff.1 (h W hW)).2 v hv⟩
    · intro h W hW
      exact driftUpon_iff.2 ⟨h.1 hw W hW, fun v hv => h.2 v ⟨W, hW, hv⟩⟩
  · rename_i hw
    exact ⟨fun h => ⟨fun hh => absurd hh hw, fun v hv => by rw [hv]; exact h⟩, fun h => h.2 _ rfl⟩
theorem gives_some {o : Oper} {a : Act} {W : World} {r : Result Next} (h : driftUpon P C W o a (fun _ => True) r) : ∃ v, opGives C v r := by
  cases r with
  | ok n w' =>
    cases n <;> simp only [driftUpon, opGives] at h ⊢
    case value v => exact ⟨v, rfl⟩
    case skip => exact ⟨_, rfl⟩
    case enter f args =>
      obtain ⟨e, w'', fr, ⟨v, k, _, _, hv⟩, _⟩ := h.2.1 []
      exact ⟨v, hv⟩
  | halt x w' => simp only [driftUpon] at h
theorem fam_self {k : DK} (hk : k ≠ .put) (B : World) : fam k B B := by
  cases k with
  | put => exact absurd rfl hk
  | bound => exact ⟨0, rfl⟩
  | free => trivial
theorem mayGive_some {k : DK} (hk : k ≠ .put) {o : Oper} {a : Act} (h : fineOp P C ops k B o a) : ∃ v, mayGive P C ops k B o a v := by
  unfold mayGive
  by_cases hw : Region.wanted o (yielded ops a.tmps) = true
  · obtain ⟨v, hv⟩ := gives_some (h hw B (fam_self hk B))
    exact ⟨v, by rw [if_pos hw]; exact ⟨B, fam_self hk B, hv⟩⟩
  · exact ⟨undef, by rw [if_neg hw]⟩
theorem fine_put {k : DK} {o : Oper} (hs : ∀ cs b, o.op ≠ .select cs b) {a : Act} {dst : Option Tmp} {v : Value} (h : ∀ d, dst = some d → d ∉ o.looksAt ops) : fineOp P C ops k B o (a.put dst v) ↔ fineOp P C ops k B o a := by
  unfold fineOp
  rw [wanted_put o a dst v h, execOp_put o hs a dst v h]
  constructor
  all_goals
    intro hh hw W hW
    have := hh hw W hW
    generalize (execOp a.eval o).run P W = r at *
    cases r with
    | ok q w' => cases q <;> simp only [driftUpon] at this ⊢ <;> exact this
    | halt x w' => simp only [driftUpon] at this
theorem mayGive_put {k : DK} {o : Oper} (hs : ∀ cs b, o.op ≠ .select cs b) {a : Act} {dst : Option Tmp} {v u : Value} (h : ∀ d, dst = some d → d ∉ o.looksAt ops) : mayGive P C ops k B o (a.put dst v) u ↔ mayGive P C ops k B o a u := by
  unfold mayGive
  rw [wanted_put o a dst v h, execOp_put o hs a dst v h]
theorem free_fine {o : Oper} {a : Act} {B B' : World} (h : fineOp P C ops .free B o a) : fineOp P C ops .free B' o a := h
theorem free_may {o : Oper} {a : Act} {B B' : World} {v : Value} (h : mayGive P C ops .free B o a v) : mayGive P C ops .free B' o a v := h
theorem stG_put {i j : Nat} {oi oj : Oper} (hj : ops[j]? = some oj) (hki : kd i ≠ .put) (hkj : kd j = .put → kd i = .free) (hap : oi.apart ops oj = true) (hsi : ∀ cs b, oi.op ≠ .select cs b) (hsj : ∀ cs b, oj.op ≠ .select cs b) {K : Act → World → Prop} {a : Act}
    (hf : fineOp P C ops (kd i) B oi a) (h : ∀ v, mayGive P C ops (kd i) B oi a v → stG P C ops kd j K (a.put oi.dst v) B) :
    stG P C ops kd j (fun a' B' => fineOp P C ops (kd i) B' oi a' ∧ ∀ v, mayGive P C ops (kd i) B' oi a' v → K (a'.put oi.dst v) B') a B := by
  obtain ⟨h1, h2, h3⟩ := Oper.apart_spec hap
  obtain ⟨v0, hv0⟩ := mayGive_some hki hf
  by_cases hk : kd j = .put
  · have hkf := hkj hk
    rw [hkf] at hf h hv0 ⊢
    have h0 := h v0 hv0
    unfold stG at h0 ⊢
    simp only [hj, hk] at h0 ⊢
    rw [wanted_put oj a oi.dst v0 h1] at h0
    split
    · rename_i hw
      simp only [hw, if_true] at h0
      obtain ⟨B', hr, hn⟩ := h0
      rw [execOp_put oj hsj a oi.dst v0 h1] at hr
      refine ⟨B', hr, free_fine ((fine_put hsi h3).2 hf), fun v hv => ?_⟩
      have hv' := free_may (B' := B) ((mayGive_put hsi h3).1 hv)
      have h4 := h v hv'
      unfold stG at h4
      simp only [hj, hk] at h4
      rw [wanted_put oj a oi.dst v h1] at h4
      simp only [hw, if_true] at h4
      obtain ⟨B2, hr2, hn2⟩ := h4
      rw [execOp_put oj hsj a oi.dst v h1] at hr2
      have e : B2 = B' := by
        have e1 := hr2 0
        have e2 := hr 0
        rw [e2] at e1
        injection e1 with _ e3
        exact e3.symm
      subst e
      rw [← Act.put_comm a v undef h2]
      exact hn2
    · rename_i hw
      simp only [hw] at h0
      refine ⟨free_fine ((fine_put hsi h3).2 hf), fun v hv => ?_⟩
      have hv' := (mayGive_put hsi h3).1 hv
      have h4 := h v hv'
      unfold stG at h4
      simp only [hj, hk] at h4
      rw [wanted_put oj a oi.dst v h1] at h4
      simp only [hw] at h4
      rw [← Act.put_comm a v undef h2]
      exact h4
  · rw [stG_iff hj hk]
    refine ⟨(fine_put hsj h1).1 ((stG_iff hj hk).1 (h v0 hv0)).1, fun u hu => ⟨(fine_put hsi h3).2 hf, fun v hv => ?_⟩⟩
    have hv' := (mayGive_put hsi h3).1 hv
    have := ((stG_iff hj hk).1 (h v hv')).2 u ((mayGive_put hsj h1).2 hu)
    rw [← Act.put_comm a v u h2]
    exact this
theorem wpOp_of_stG {i : Nat} {a : Act} {K : Act → World → Prop} {K' : Act → World → Prop} {Q' : Exit → Act → World → Prop} (h : ∀ a B k, K a B → K' a (B.drewN k)) (n : Nat) (hh : stG P C ops kd i K a B) : wpOp P ops Q' i K' a (B.drewN n) := by
  unfold stG at hh
  unfold wpOp
  split
  · rename_i ho; simp only [ho] at hh; exact h _ _ _ hh
  · rename_i o ho
    simp only [ho] at hh
    split
    · rename_i hw
      simp only [hw, if_true] at hh
      left
      unfold Oper.wp
      by_cases hk : kd i = .put
      · rw [hk] at hh
        obtain ⟨B', hr, hn⟩ := hh
        rw [hr n]
        exact h _ _ _ hn
      · rw [opG_drift hk] at hh
        have := hh (B.drewN n) (by cases hq : kd i with
          | put => exact absurd hq hk
          | bound => exact ⟨n, rfl⟩
          | free => trivial)
        generalize (execOp a.eval o).run P (B.drewN n) = r at *
        cases r with
        | ok q w' =>
          cases q <;> simp only [driftUpon] at this <;> simp only [Oper.upon]
          case enter f args =>
            obtain ⟨_, hc, hn⟩ := this
            refine hc.mono fun e w'' ⟨v, k, he, hk, hv⟩ => ?_
            subst he hk
            rw [World.drewN_drewN]
            exact h _ _ _ (hn v hv)
          all_goals (obtain ⟨⟨m, rfl⟩, h2⟩ := this; rw [World.drewN_drewN]; exact h _ _ _ h2)
        | halt x w' => simp only [driftUpon] at this
    · rename_i hw; simp only [hw] at hh; exact h _ _ _ hh
theorem wpAny_of_G {Q' : Exit → Act → World → Prop} (hQ : ∀ a B k, Q a B → Q' .normal a (B.drewN k)) :
    ∀ (f : Nat) (listed : Array Bool) (a : Act) (B : World) (k : Nat), wpAnyG P C md ops kd Q f listed a B → wpAny P md ops Q' f listed a (B.drewN k)
  | 0, listed, a, B, k, h => ⟨h.1, hQ _ _ _ h.2⟩
  | f + 1, listed, a, B, k, h => ⟨fun h0 => absurd h0 h.1, fun i hi => wpOp_of_stG (fun a' B' k' h' => wpAny_of_G hQ f _ a' B' k' h') k (h.2 i hi)⟩
/-- What is listed brings with it what it waits for. -/
structure ClosedL (md : Region.Mode) (ops : Array Oper) (listed : Array Bool) : Prop where
  size : listed.size = ops.size
  closed : ∀ j oj, ops[j]? = some oj → listed.getD j false = true → ∀ e ∈ oj.after, Region.binds md e = true → listed.getD e.on false = true
theorem ClosedL.set {i : Nat} {listed : Array Bool} (inv : ClosedL md ops listed) (hi : i ∈ Region.ready md ops listed) : ClosedL md ops (listed.setIfInBounds i true) := by
  obtain ⟨_, oi, hoi, hall⟩ := mem_ready.1 hi
  refine ⟨by simp [inv.size], fun j oj hj hl e he hb => ?_⟩
  by_cases hij : i = j
  · subst hij
    have : oj = oi := Option.some.inj (hj.symm.trans hoi)
    subst this
    exact getD_set_true (hall e he hb)
  · rw [getD_set_ne false hij] at hl
    exact getD_set_true (inv.closed j oj hj hl e he hb)
def reachB (md : Region.Mode) (ops : Array Oper) : Nat → Nat → Nat → Bool
  | 0, t, i => Region.waitsFor md ops t i
  | f + 1, t, i => Region.waitsFor md ops t i || (List.range ops.size).any fun j => Region.waitsFor md ops t j && reachB md ops f j i
theorem reach_listed {listed : Array Bool} (inv : ClosedL md ops listed) : ∀ (f t i : Nat), (∀ ot, ops[t]? = some ot → ∀ e ∈ ot.after, Region.binds md e = true → listed.getD e.on false = true) → reachB md ops f t i = true → listed.getD i false = true := by
  have base : ∀ t i, (∀ ot, ops[t]? = some ot → ∀ e ∈ ot.after, Region.binds md e = true → listed.getD e.on false = true) → Region.waitsFor md ops t i = true → listed.getD i false = true := fun t i hall h => by
    obtain ⟨ot, hot, e, he, hb, rfl⟩ := Region.waitsFor_spec h
    exact hall ot hot e he hb
  intro f
  induction f with
  | zero => intro t i hall h; exact base t i hall h
  | succ f ih =>
    intro t i hall h
    simp only [reachB, Bool.or_eq_true] at h
    rcases h with h | h
    · exact base t i hall h
    · obtain ⟨j, _, hj⟩ := List.any_eq_true.1 h
      simp only [Bool.and_eq_true] at hj
      have hl := base t j hall hj.1
      exact ih j i (fun oj hoj e he hb => inv.closed j oj hoj hl e he hb) hj.2
/-- No store is ready as long as something that reads memory is not done, or it waits for the store. -/
def lowB (md : Region.Mode) (ops : Array Oper) (kd : Nat → DK) (f : Nat) : Bool :=
  (List.range ops.size).all fun i => decide (kd i ≠ .bound) || (List.range ops.size).all fun j => decide (kd j ≠ .put) || (reachB md ops f j i || reachB md ops f i j)
theorem ready_after {i : Nat} {listed : Array Bool} (h : i ∈ Region.ready md ops listed) : ∀ ot, ops[i]? = some ot → ∀ e ∈ ot.after, Region.binds md e = true → listed.getD e.on false = true := by
  obtain ⟨_, oi, hoi, hall⟩ := mem_ready.1 h
  intro ot hot
  have : ot = oi := Option.some.inj (hot.symm.trans hoi)
  subst this
  exact hall
theorem low_spec {f : Nat} (hB : lowB md ops kd f = true) {listed : Array Bool} (inv : ClosedL md ops listed) {i j : Nat} (hi : i ∈ Region.ready md ops listed) (hj : j ∈ Region.ready md ops listed) (hkj : kd j = .put) (hki : kd i ≠ .put) : kd i = .free := by
  cases hk : kd i with
  | free => rfl
  | put => exact absurd hk hki
  | bound =>
    obtain ⟨hun, oi, hoi, _⟩ := mem_ready.1 hi
    obtain ⟨hjun, oj, hoj, _⟩ := mem_ready.1 hj
    have h1 := List.all_eq_true.1 hB i (List.mem_range.2 (Array.getElem?_eq_some_iff.1 hoi).1)
    rw [hk] at h1
    have h2 := List.all_eq_true.1 (show ((List.range ops.size).all fun j => decide (kd j ≠ .put) || (reachB md ops f j i || reachB md ops f i j)) = true from by simpa using h1) j (List.mem_range.2 (Array.getElem?_eq_some_iff.1 hoj).1)
    rw [hkj] at h2
    have h3 : reachB md ops f j i = true ∨ reachB md ops f i j = true := by simpa using h2
    rcases h3 with h3 | h3
    · have := reach_listed inv f j i (ready_after hj) h3
      rw [getD_both hun] at this; cases this
    · have := reach_listed inv f i j (ready_after hi) h3
      rw [getD_both hjun] at this; cases this
theorem wpAnyG_first {f0 i : Nat} {oi : Oper} (hi : ops[i]? = some oi) (hsel : ∀ (j : Nat) (o : Oper) cs b, ops[j]? = some o → o.op ≠ .select cs b) (hki : kd i ≠ .put) (hB : lowB md ops kd f0 = true) :
    ∀ (f : Nat) (listed : Array Bool) (a : Act) (B : World), ClosedL md ops listed →
      (∀ j oj, ops[j]? = some oj → j ≠ i → listed.getD j true = false → (∀ e ∈ oj.after, Region.binds md e = true → e.on ≠ i) → oi.apart ops oj = true) →
      i ∈ Region.ready md ops listed → fineOp P C ops (kd i) B oi a → (∀ v, mayGive P C ops (kd i) B oi a v → wpAnyG P C md ops kd Q f (listed.setIfInBounds i true) (a.put oi.dst v) B) → wpAnyG P C md ops kd Q (f + 1) listed a B := by
  intro f
  induction f with
  | zero =>
    intro listed a B inv _ hr hf H
    obtain ⟨v0, hv0⟩ := mayGive_some hki hf
    refine ⟨fun h => (by rw [h] at hr; cases hr), fun j hj => ?_⟩
    by_cases hji : j = i
    · subst hji; exact (stG_iff hi hki).2 ⟨hf, H⟩
    · have h1 := ready_mono hj hji
      rw [(H v0 hv0).1] at h1
      cases h1
  | succ f ih =>
    intro listed a B inv hfree hr hf H
    have hun := (mem_ready.1 hr).1
    refine ⟨fun h => (by rw [h] at hr; cases hr), fun j hj => ?_⟩
    by_cases hji : j = i
    · subst hji; exact (stG_iff hi hki).2 ⟨hf, H⟩
    · obtain ⟨hjun, oj, hoj, hall⟩ := mem_ready.1 hj
      have hnot : ∀ e ∈ oj.after, Region.binds md e = true → e.on ≠ i := fun e he hb heq => by
        have h1 := hall e he hb
        rw [heq, getD_both hun] at h1
        cases h1
      have h2 := stG_put hoj hki (fun hkj => low_spec hB inv hr hj hkj hki) (hfree j oj hoj hji hjun hnot) (fun cs b => hsel i oi cs b hi) (fun cs b => hsel j oj cs b hoj) hf (fun v hv => (H v hv).2 j (ready_mono hj hji))
      have hfree' : ∀ k ok, ops[k]? = some ok → k ≠ i → (listed.setIfInBounds j true).getD k true = false → (∀ e ∈ ok.after, Region.binds md e = true → e.on ≠ i) → oi.apart ops ok = true := fun k ok hk hki hunk hno => by
        refine hfree k ok hk hki ?_ hno
        by_cases hjk : j = k
        · subst hjk; exact hjun
        · rw [getD_set_ne true hjk] at hunk; exact hunk
      refine stG_mono (fun a' B' h3 => ih (listed.setIfInBounds j true) a' B' (inv.set hj) hfree' (ready_mono hr (Ne.symm hji)) h3.1 (fun v hv => ?_)) h2
      rw [Array.setIfInBounds_comm _ _ hji]
      exact h3.2 v hv
def planB (md : Region.Mode) (ops : Array Oper) (kd : Nat → DK) : List Nat → Array Bool → Bool
  | [], listed => (Region.ready md ops listed).isEmpty
  | i :: r, listed => (if kd i = .put then decide (Region.ready md ops listed = [i]) else ((Region.ready md ops listed).contains i && Region.free md ops listed i)) && planB md ops kd r (listed.setIfInBounds i true)
theorem wpAnyG_plan {f0 : Nat} (hsel : Region.noSelect ops = true) (hB : lowB md ops kd f0 = true) : ∀ (l : List Nat) (listed : Array Bool) (a : Act) (B : World), ClosedL md ops listed → planB md ops kd l listed = true → wpG P C ops kd Q l a B → wpAnyG P C md ops kd Q l.length listed a B
  | [], listed, a, B, _, hp, h => ⟨by simpa [planB] using hp, h⟩
  | i :: r, listed, a, B, inv, hp, h => by
    simp only [planB, Bool.and_eq_true] at hp
    obtain ⟨hp1, hp2⟩ := hp
    by_cases hk : kd i = .put
    · rw [if_pos hk] at hp1
      have hre : Region.ready md ops listed = [i] := of_decide_eq_true hp1
      have hmem : i ∈ Region.ready md ops listed := by rw [hre]; simp
      refine ⟨by rw [hre]; simp, fun j hj => ?_⟩
      rw [hre] at hj
      have : j = i := by simpa using hj
      subst this
      exact stG_mono (fun a' B' h' => wpAnyG_plan hsel hB r _ a' B' (inv.set hmem) hp2 h') h
    · rw [if_neg hk, Bool.and_eq_true] at hp1
      have hmem : i ∈ Region.ready md ops listed := by simpa using hp1.1
      obtain ⟨_, oi, hoi, _⟩ := mem_ready.1 hmem
      obtain ⟨hf, hK⟩ := (stG_iff hoi hk).1 h
      exact wpAnyG_first hoi (Region.noSelect_spec hsel) hk hB r.length listed a B inv (Region.free_spec hoi hp1.2) hmem hf (fun v hv => wpAnyG_plan hsel hB r _ _ B (inv.set hmem) hp2 (hK v hv))
def regionB (md : Region.Mode) (ops : Array Oper) (kd : Nat → DK) (l : List Nat) : Bool :=
  Region.noSelect ops && (decide (l.length = ops.size) && (lowB md ops kd 1 && planB md ops kd l (Array.replicate ops.size false)))
/-- THE REGION. -/
theorem wp_region_G {id : Nat} {Q' : Exit → Act → World → Prop} {a : Act} {w : World} {ops : Array Oper} (C : FuncId → Array Value → Value → Prop) (kd : Nat → DK) (l : List Nat) (hm : P.follows .mixedOrders = true) (hB : regionB .any ops kd l = true)
    (h : wpG P C ops kd (fun a' B => ∀ k, Q' .normal a' (B.drewN k)) l a w.drew) : (Code.region id ops true).wp P Q' a w := by
  simp only [regionB, Bool.and_eq_true, decide_eq_true_eq] at hB
  obtain ⟨hsel, hn, hlow, hp⟩ := hB
  have inv0 : ClosedL .any ops (Array.replicate ops.size false) := ⟨by simp, fun j oj _ hl => (by rw [getD_replicate_false] at hl; cases hl)⟩
  have H := wpAnyG_plan hsel hlow l _ a w.drew inv0 hp h
  rw [hn] at H
  refine wp_region_any hm ?_
  have := wpAny_of_G (Q' := Q') (fun a B k hq => hq k) _ _ _ _ 0 H
  exact this
/-! ### Steps -/
theorem wpG_bound {i : Nat} {r : List Nat} {a : Act} {o : Oper} (ho : ops[i]? = some o) (hk : kd i = .bound)
    (h : ∀ (K : Act → Prop), (∀ a, wpG P C ops kd Q r a B → K a) → ∀ n : Nat, if Region.wanted o (yielded ops a.tmps) then driftUpon P C (B.drewN n) o a K ((execOp a.eval o).run P (B.drewN n)) else K (a.put o.dst undef)) : wpG P C ops kd Q (i :: r) a B := by
  have h' := h _ (fun _ h => h)
  unfold wpG stG
  simp only [ho]
  split
  · rename_i hw
    rw [hk]
    rintro W ⟨n, rfl⟩
    have := h' n
    rwa [if_pos hw] at this
  · rename_i hw
    have := h' 0
    rwa [if_neg hw] at this
theorem wpG_free {i : Nat} {r : List Nat} {a : Act} {o : Oper} (ho : ops[i]? = some o) (hk : kd i = .free)
    (h : ∀ (K : Act → Prop), (∀ a, wpG P C ops kd Q r a B → K a) → ∀ W : World, if Region.wanted o (yielded ops a.tmps) then driftUpon P C W o a K ((execOp a.eval o).run P W) else K (a.put o.dst undef)) : wpG P C ops kd Q (i :: r) a B := by
  have h' := h _ (fun _ h => h)
  unfold wpG stG
  simp only [ho]
  split
  · rename_i hw
    rw [hk]
    intro W _
    have := h' W
    rwa [if_pos hw] at this
  · rename_i hw
    have := h' B
    rwa [if_neg hw] at this
theorem wpG_put {i : Nat} {r : List Nat} {a : Act} {o : Oper} (B' : World) (ho : ops[i]? = some o) (hk : kd i = .put) (hw : Region.wanted o (yielded ops a.tmps) = true)
    (h1 : ∀ n : Nat, (execOp a.eval o).run P (B.drewN n) = .ok .skip (B'.drewN n)) (h : wpG P C ops kd Q r (a.put o.dst undef) B') : wpG P C ops kd Q (i :: r) a B := by
  unfold wpG stG
  simp only [ho, hw, if_true]
  rw [hk]
  exact ⟨B', h1, h⟩
theorem wpG_nil {a : Act} (h : Q a B) : wpG P C ops kd Q [] a B := h
end
end
end Go.Proofs.Ytldaamgohdnjnaa

/-
  TrendStep: what it gives, plainly.
-/
namespace Go.Proofs.Ytldaamgohdnjnaa
open Ieee Go.RowKit
set_option linter.unusedVariables false

/-- A number, but +0 if it is less. -/
def nbW (z : Nat) : Nat := if (FloatKind.format .f32).order z 0 == some .lt then 0 else cn .f32 z
theorem nbW_congr {x y : Nat} (h : cn .f32 x = cn .f32 y) : nbW x = nbW y := by unfold nbW; rw [order_left .f32 h 0, h]
section
variable (a b c d s t u v x : Nat)
def tsE : Nat := aop .add .f32 (cn .f32 a) (cn .f32 b)
def tsA : Nat := aop .add .f32 (aop .add .f32 (aop .add .f32 (cn .f32 c) (cn .f32 d)) (aop .add .f32 (cn .f32 d) (cn .f32 s))) (cn .f32 u)
def tsB : Nat := aop .add .f32 (cn .f32 d) (cn .f32 s)
def tsC : Nat := aop .add .f32 (cn .f32 s) (cn .f32 v)
def tsF : Nat := aop .add .f32 (tsA c d s u) (cn .f32 t)
def tsK : Nat := aop .quo .f32 (tsA c d s u) (tsF c d s t u)
def tsH : Nat := aop .quo .f32 (tsB d s) (tsF c d s t u)
def tsD : Nat := aop .sub .f32 (cn .f32 x) (tsE a b)
def tsL : Nat := aop .add .f32 (tsE a b) (aop .mul .f32 (tsK c d s t u) (tsD a b x))
def tsS : Nat := aop .add .f32 (cn .f32 b) (aop .mul .f32 (tsH c d s t u) (tsD a b x))
def tsA2 : Nat := nbW (aop .sub .f32 (tsA c d s u) (aop .mul .f32 (tsK c d s t u) (tsA c d s u)))
def tsB2 : Nat := aop .sub .f32 (tsB d s) (aop .mul .f32 (tsK c d s t u) (tsB d s))
def tsC2 : Nat := nbW (aop .sub .f32 (tsC s v) (aop .mul .f32 (tsH c d s t u) (tsB d s)))
variable (z : Bool)
def uL : Nat := if z then tsL a b c d s t u x else tsE a b
def uS : Nat := if z then tsS a b c d s t u x else cn .f32 b
def uA : Nat := if z then tsA2 c d s t u else tsA c d s u
def uB : Nat := if z then tsB2 c d s t u else tsB d s
def uC : Nat := if z then tsC2 c d s t u v else tsC s v
def tsB0 : Bool := tnB a b c d s t u v && fin .f32 x
def tsOk : Bool := tsB0 a b c d s t u v x && tnB (uL a b c d s t u x z) (uS a b c d s t u x z) (uA c d s t u z) (uB c d s t u z) (uC c d s t u v z) t u v
end
/-- A trend, a number and a bool. -/
def RetTn (A B C D S T U V Q : Nat) (ok : Bool) (w : World) (e : Ending) (w' : World) : Prop :=
  ∃ a b c d s t u v q, cn .f32 a = A ∧ cn .f32 b = B ∧ cn .f32 c = C ∧ cn .f32 d = D ∧ cn .f32 s = S ∧ cn .f32 t = T ∧ cn .f32 u = U ∧ cn .f32 v = V ∧ cn .f32 q = Q ∧ e = .returned (.tuple #[.agg #[.float .f32 a, .float .f32 b, .float .f32 c, .float .f32 d, .float .f32 s, .float .f32 t, .float .f32 u, .float .f32 v], .float .f32 q, .bool ok]) ∧ Below w.heap.size w w'
def tsR (z : Bool) (a b c d s t u v x : Nat) (w : World) : Ending → World → Prop :=
  let o := tsOk a b c d s t u v x z
  RetTn (if o then uL a b c d s t u x z else 0) (if o then uS a b c d s t u x z else 0) (if o then uA c d s t u z else 0) (if o then uB c d s t u z else 0) (if o then uC c d s t u v z else 0) (if o then cn .f32 t else 0) (if o then cn .f32 u else 0) (if o then cn .f32 v else 0) (if o then tsE a b else 0) o w
theorem tsR_no {z : Bool} {a b c d s t u v x : Nat} {w w' : World} (h : tsOk a b c d s t u v x z = false) (hb : Below w.heap.size w w') :
    tsR z a b c d s t u v x w (.returned (.tuple #[.agg #[.float .f32 0, .float .f32 0, .float .f32 0, .float .f32 0, .float .f32 0, .float .f32 0, .float .f32 0, .float .f32 0], .float .f32 0, .bool false])) w' := by
  unfold tsR; rw [h]
  exact ⟨0, 0, 0, 0, 0, 0, 0, 0, 0, cn_zero, cn_zero, cn_zero, cn_zero, cn_zero, cn_zero, cn_zero, cn_zero, cn_zero, rfl, hb⟩
theorem tsR_yes {z : Bool} {a b c d s t u v x L S A B C e : Nat} {w w' : World} (h : tsOk a b c d s t u v x z = true) (hL : cn .f32 L = uL a b c d s t u x z) (hS : cn .f32 S = uS a b c d s t u x z) (hA : cn .f32 A = uA c d s t u z) (hB : cn .f32 B = uB c d s t u z) (hC : cn .f32 C = uC c d s t u v z) (he : cn .f32 e = tsE a b) (hb : Below w.heap.size w w') :
    tsR z a b c d s t u v x w (.returned (.tuple #[.agg #[.float .f32 L, .float .f32 S, .float .f32 A, .float .f32 B, .float .f32 C, .float .f32 t, .float .f32 u, .float .f32 v], .float .f32 e, .bool true])) w' := by
  unfold tsR; rw [h]
  exact ⟨L, S, A, B, C, t, u, v, e, hL, hS, hA, hB, hC, rfl, rfl, rfl, he, rfl, hb⟩
theorem tsOk_0 {z : Bool} {a b c d s t u v x : Nat} (h : tsB0 a b c d s t u v x = false) : tsOk a b c d s t u v x z = false := by unfold tsOk; rw [h]; rfl
theorem tsOk_1 {z : Bool} {a b c d s t u v x L S A B C : Nat} (h : tsB0 a b c d s t u v x = true) (hL : cn .f32 L = uL a b c d s t u x z) (hS : cn .f32 S = uS a b c d s t u x z) (hA : cn .f32 A = uA c d s t u z) (hB : cn .f32 B = uB c d s t u z) (hC : cn .f32 C = uC c d s t u v z) :
    tsOk a b c d s t u v x z = tnB L S A B C t u v := by
  unfold tsOk; rw [h]
  rw [tnB_congr (a := L) (b := S) (c := A) (d := B) (s := C) (t := t) (u := u) (v := v) (a' := uL a b c d s t u x z) (b' := uS a b c d s t u x z) (c' := uA c d s t u z) (d' := uB c d s t u z) (s' := uC c d s t u v z) (by rw [← hL, cn_cn]) (by rw [← hS, cn_cn]) (by rw [← hA, cn_cn]) (by rw [← hB, cn_cn]) (by rw [← hC, cn_cn]) rfl rfl rfl]; rfl
/-- What is expected is finite where the trend behind a number that was not seen is valid. -/
theorem fin_tsE_of_tsL {a b c d s t u x : Nat} (h : fin .f32 (tsL a b c d s t u x) = true) : fin .f32 (tsE a b) = true := (fin_add h).1
theorem imNb_any (z : Nat) (w : World) : Calls Try.prog 169 #[.float .f32 z] w fun e w' => (∃ r, cn .f32 r = nbW z ∧ e = .returned (.float .f32 r)) ∧ w = w' := by
  cases h : ((FloatKind.format .f32).order z 0 == some Ordering.lt)
  all_goals
    have H := Lib.hid h
    go_enter Try.func169, Try.ntmps169
    go_wp2
    go_ret
    exact ⟨⟨_, by unfold nbW; rw [H.out]; first | rfl | exact cn_zero, rfl⟩, rfl⟩
theorem spNb_any (z : Nat) (w : World) : Calls Try.prog 137 #[.float .f32 z] w fun e w' => (∃ r, cn .f32 r = nbW z ∧ e = .returned (.float .f32 r)) ∧ w = w' := by
  cases h : ((FloatKind.format .f32).order z 0 == some Ordering.lt)
  all_goals
    have H := Lib.hid h
    go_enter Try.func137, Try.ntmps137
    go_wp2
    go_ret
    exact ⟨⟨_, by unfold nbW; rw [H.out]; first | rfl | exact cn_zero, rfl⟩, rfl⟩
end Go.Proofs.Ytldaamgohdnjnaa

/-
  TrendStep: seeing.
-/
namespace Go.Proofs.Ytldaamgohdnjnaa
open Ieee Go.RowKit
set_option linter.unusedVariables false
/-- The receiver and the result stand in their blocks. -/
def SeW (w : World) (a b c d s t u v : Nat) (wx : World) : Prop := NumsIn wx w.heap.size [a, b, c, d, s, t, u, v] ∧ NumsIn wx (w.heap.size + 1) [0, 0, 0, 0, 0, 0, 0, 0] ∧ Below w.heap.size w wx
section
variable {w wx : World} {a b c d s t u v : Nat}
theorem SeW.drewN (h : SeW w a b c d s t u v wx) (n : Nat) : SeW w a b c d s t u v (wx.drewN n) := ⟨h.1.drewN n, h.2.1.drewN n, below_drewN h.2.2 n⟩
theorem SeW.put0 (h : SeW w a b c d s t u v wx) (q : Nat) : SeW w q b c d s t u v (wx.setCell ⟨w.heap.size, 0, none⟩ (.float .f32 q)) := ⟨h.1.put (i := 0) (by simp) q, h.2.1.set (by omega), h.2.2.setCell (Nat.le_refl _) _⟩
theorem SeW.put1 (h : SeW w a b c d s t u v wx) (q : Nat) : SeW w a q c d s t u v (wx.setCell ⟨w.heap.size, 1, none⟩ (.float .f32 q)) := ⟨h.1.put (i := 1) (by simp) q, h.2.1.set (by omega), h.2.2.setCell (Nat.le_refl _) _⟩
theorem SeW.put2 (h : SeW w a b c d s t u v wx) (q : Nat) : SeW w a b q d s t u v (wx.setCell ⟨w.heap.size, 2, none⟩ (.float .f32 q)) := ⟨h.1.put (i := 2) (by simp) q, h.2.1.set (by omega), h.2.2.setCell (Nat.le_refl _) _⟩
theorem SeW.put3 (h : SeW w a b c d s t u v wx) (q : Nat) : SeW w a b c q s t u v (wx.setCell ⟨w.heap.size, 3, none⟩ (.float .f32 q)) := ⟨h.1.put (i := 3) (by simp) q, h.2.1.set (by omega), h.2.2.setCell (Nat.le_refl _) _⟩
theorem SeW.put4 (h : SeW w a b c d s t u v wx) (q : Nat) : SeW w a b c d q t u v (wx.setCell ⟨w.heap.size, 4, none⟩ (.float .f32 q)) := ⟨h.1.put (i := 4) (by simp) q, h.2.1.set (by omega), h.2.2.setCell (Nat.le_refl _) _⟩
end
theorem se_f (c t : Nat) (w : World) {C T : Nat} (hc : cn .f32 c = C) (ht : cn .f32 t = T) : cn .f32 (fopR .add .f32 c t w) = aop .add .f32 C T := by rw [cn_fopR, hc, ht]
theorem se_op (op : BinOp) {x y X Y : Nat} (hx : cn .f32 x = X) (hy : cn .f32 y = Y) (w : World) : cn .f32 (fopR op .f32 x y w) = aop op .f32 X Y := by rw [cn_fopR, hx, hy]
theorem se_mul (op : BinOp) {x y z X Y Z : Nat} (hx : cn .f32 x = X) (hy : cn .f32 y = Y) (hz : cn .f32 z = Z) (w1 w2 : World) : cn .f32 (fopR op .f32 x (fopR .mul .f32 y z w1) w2) = aop op .f32 X (aop .mul .f32 Y Z) := by rw [cn_fopR, cn_fopR, hx, hy, hz]
/-- What notBelow gives. -/
def nbC (args : Array Value) (v : Value) : Prop := ∃ r, v = .float .f32 r ∧ cn .f32 r = nbW (match args.getD 0 undef with | .float _ b => b | _ => 0)
/-- What is seen. -/
def seF (c t : Nat) : Nat := aop .add .f32 (cn .f32 c) (cn .f32 t)
def seK (c t : Nat) : Nat := aop .quo .f32 (cn .f32 c) (seF c t)
def seH (c d t : Nat) : Nat := aop .quo .f32 (cn .f32 d) (seF c t)
def seD (a x : Nat) : Nat := aop .sub .f32 (cn .f32 x) (cn .f32 a)
def seL (a c t x : Nat) : Nat := aop .add .f32 (cn .f32 a) (aop .mul .f32 (seK c t) (seD a x))
def seS (a b c d t x : Nat) : Nat := aop .add .f32 (cn .f32 b) (aop .mul .f32 (seH c d t) (seD a x))
def seA (c t : Nat) : Nat := nbW (aop .sub .f32 (cn .f32 c) (aop .mul .f32 (seK c t) (cn .f32 c)))
def seB (c d t : Nat) : Nat := aop .sub .f32 (cn .f32 d) (aop .mul .f32 (seK c t) (cn .f32 d))
def seC (c d s t : Nat) : Nat := nbW (aop .sub .f32 (cn .f32 s) (aop .mul .f32 (seH c d t) (cn .f32 d)))
set_option maxHeartbeats 4000000 in
set_option maxRecDepth 100000 in
theorem seeing_any (a b c d s t u v x : Nat) (w : World) :
    Calls Try.prog 139 #[.agg #[.float .f32 a, .float .f32 b, .float .f32 c, .float .f32 d, .float .f32 s, .float .f32 t, .float .f32 u, .float .f32 v], .float .f32 x] w fun e w' => (∃ L S A B C, cn .f32 L = seL a c t x ∧ cn .f32 S = seS a b c d t x ∧ cn .f32 A = seA c t ∧ cn .f32 B = seB c d t ∧ cn .f32 C = seC c d s t ∧ e = .returned (.agg #[.float .f32 L, .float .f32 S, .float .f32 A, .float .f32 B, .float .f32 C, .float .f32 t, .float .f32 u, .float .f32 v])) ∧ Below w.heap.size w w' := by
  have HRES := Lib.hid (show Try.f139.results = #[.cell 4 53] by kernel_rfl)
  have HL := Lib.hid (show SeW w a b c d s t u v ((w.alloc (.cells #[.float .f32 a, .float .f32 b, .float .f32 c, .float .f32 d, .float .f32 s, .float .f32 t, .float .f32 u, .float .f32 v] 53)).alloc (.cells #[.float .f32 0, .float .f32 0, .float .f32 0, .float .f32 0, .float .f32 0, .float .f32 0, .float .f32 0, .float .f32 0] 53)) from ⟨(NumsIn.new w [a, b, c, d, s, t, u, v] 53).alloc _, NumsIn.newAt (w.alloc (.cells #[.float .f32 a, .float .f32 b, .float .f32 c, .float .f32 d, .float .f32 s, .float .f32 t, .float .f32 u, .float .f32 v] 53)) [0, 0, 0, 0, 0, 0, 0, 0] 53 (p := w.heap.size + 1) (by simp), ((Below.refl _ _).alloc (Nat.le_refl _) _).alloc (by simp) _⟩)
  go_enter Try.func139, Try.ntmps139
  go_upto_region 1 with fail
  go_cut [5] (fun s5 wx => ∃ F, s5 = .float .f32 F ∧ Hid (cn .f32 F = seF c t) ∧ Hid (SeW w a b c d s t u v wx))
  case first =>
    obtain ⟨n0, n1, n2, n3, n4, n5, n6, n7⟩ := HL.out.1.c8
    obtain ⟨g0, g1, g2, g3, g4, g5, g6, g7⟩ := HL.out.1.f8
    go_wp2_with fail
    go_meet
    case rel =>
      refine ⟨_, rfl, ?_, Lib.hid (HL.out.drewN _)⟩
      exact Lib.hid (se_op .add rfl rfl _)
  case rest =>
    obtain ⟨F, rfl, HF, hL⟩ := hcut
    replace HL := hL
    go_upto_region 2 with fail
    go_cut [6, 7] (fun s6 s7 wx => ∃ K H, s6 = .float .f32 K ∧ s7 = .float .f32 H ∧ Hid (cn .f32 K = seK c t) ∧ Hid (cn .f32 H = seH c d t) ∧ Hid (SeW w a b c d s t u v wx))
    case first =>
      obtain ⟨n0, n1, n2, n3, n4, n5, n6, n7⟩ := HL.out.1.c8
      obtain ⟨g0, g1, g2, g3, g4, g5, g6, g7⟩ := HL.out.1.f8
      go_region
      all_goals
        go_wp2_with fail
        go_meet
        case rel => exact ⟨_, _, rfl, rfl, Lib.hid (se_op .quo rfl HF.out _), Lib.hid (se_op .quo rfl HF.out _), Lib.hid (HL.out.drewN _)⟩
    case rest =>
      obtain ⟨K, H, rfl, rfl, HK, HH, hL⟩ := hcut
      replace HL := hL
      go_upto_region 3 with fail
      go_cut [8] (fun s8 wx => ∃ D, s8 = .float .f32 D ∧ Hid (cn .f32 D = seD a x) ∧ Hid (SeW w a b c d s t u v wx))
      case first =>
        obtain ⟨n0, n1, n2, n3, n4, n5, n6, n7⟩ := HL.out.1.c8
        obtain ⟨g0, g1, g2, g3, g4, g5, g6, g7⟩ := HL.out.1.f8
        go_wp2_with fail
        go_meet
        case rel =>
          refine ⟨_, rfl, ?_, Lib.hid (HL.out.drewN _)⟩
          exact Lib.hid (se_op .sub rfl rfl _)
      case rest =>
        obtain ⟨D, rfl, HD, hL⟩ := hcut
        replace HL := hL
        go_upto_region 4 with fail
        go_cut [] (fun wx => ∃ L, Hid (cn .f32 L = seL a c t x) ∧ Hid (SeW w L b c d s t u v wx))
        case first =>
          obtain ⟨n0, n1, n2, n3, n4, n5, n6, n7⟩ := HL.out.1.c8
          obtain ⟨g0, g1, g2, g3, g4, g5, g6, g7⟩ := HL.out.1.f8
          go_wp2_with fail
          go_meet
          case rel =>
            refine ⟨_, ?_, Lib.hid ((HL.out.drewN _).put0 _)⟩
            exact Lib.hid (se_mul .add rfl HK.out HD.out _ _)
        case rest =>
          obtain ⟨L, HL0, hL⟩ := hcut
          replace HL := hL
          go_upto_region 5 with fail
          go_cut [] (fun wx => ∃ S, Hid (cn .f32 S = seS a b c d t x) ∧ Hid (SeW w L S c d s t u v wx))
          case first =>
            obtain ⟨n0, n1, n2, n3, n4, n5, n6, n7⟩ := HL.out.1.c8
            obtain ⟨g0, g1, g2, g3, g4, g5, g6, g7⟩ := HL.out.1.f8
            go_wp2_with fail
            go_meet
            case rel =>
              refine ⟨_, ?_, Lib.hid ((HL.out.drewN _).put1 _)⟩
              exact Lib.hid (se_mul .add rfl HH.out HD.out _ _)
          case rest =>
            obtain ⟨S, HS, hL⟩ := hcut
            replace HL := hL
            go_upto_region 6 with fail
            go_cut [] (fun wx => ∃ A B C, Hid (cn .f32 A = seA c t) ∧ Hid (cn .f32 B = seB c d t) ∧ Hid (cn .f32 C = seC c d s t) ∧ Hid (SeW w L S A B C t u v wx))
            case first =>
              obtain ⟨n0, n1, n2, n3, n4, n5, n6, n7⟩ := HL.out.1.c8
              obtain ⟨g0, g1, g2, g3, g4, g5, g6, g7⟩ := HL.out.1.f8
              refine wp_region_G (fun _ args v => nbC args v) (fun i => (#[.free, .bound, .free, .free, .bound, .free, .free, .bound, .free, .bound, .free, .free, .bound, .free, .free, .free, .bound, .free, .free, .bound, .free, .free, .bound, .free, .put, .free, .put, .free, .put] : Array DK).getD i .free) [0, 1, 2, 3, 4, 5, 6, 7, 8, 9, 10, 11, 12, 13, 14, 15, 16, 17, 18, 19, 20, 21, 22, 23, 24, 25, 26, 27, 28] (by kernel_rfl) (by kernel_rfl) ?_
              refine wpG_free rfl rfl (fun KK hKK W0 => ?_)
              go_simp
              refine ⟨by first | exact ⟨0, rfl⟩ | exact ⟨_, rfl⟩, hKK _ ?_⟩
              clear hKK KK
              refine wpG_bound rfl rfl (fun KK hKK n => ?_)
              go_simp
              refine ⟨by first | exact ⟨0, rfl⟩ | exact ⟨_, rfl⟩, hKK _ ?_⟩
              clear hKK KK
              refine wpG_free rfl rfl (fun KK hKK W2 => ?_)
              go_simp
              refine ⟨by first | exact ⟨0, rfl⟩ | exact ⟨_, rfl⟩, hKK _ ?_⟩
              clear hKK KK
              refine wpG_free rfl rfl (fun KK hKK W3 => ?_)
              go_simp
              refine ⟨by first | exact ⟨0, rfl⟩ | exact ⟨_, rfl⟩, hKK _ ?_⟩
              clear hKK KK
              refine wpG_bound rfl rfl (fun KK hKK n => ?_)
              go_simp
              refine ⟨by first | exact ⟨0, rfl⟩ | exact ⟨_, rfl⟩, hKK _ ?_⟩
              clear hKK KK
              refine wpG_free rfl rfl (fun KK hKK W5 => ?_)
              go_simp
              refine ⟨by first | exact ⟨0, rfl⟩ | exact ⟨_, rfl⟩, hKK _ ?_⟩
              clear hKK KK
              refine wpG_free rfl rfl (fun KK hKK W6 => ?_)
              go_simp
              refine ⟨by first | exact ⟨0, rfl⟩ | exact ⟨_, rfl⟩, hKK _ ?_⟩
              clear hKK KK
              refine wpG_bound rfl rfl (fun KK hKK n => ?_)
              go_simp
              refine ⟨⟨0, rfl⟩, (imNb_any _ _).mono ?_, ?_⟩
              · rintro e w' ⟨⟨r, hr, rfl⟩, rfl⟩; exact ⟨_, rfl, ⟨0, rfl⟩, r, rfl, hr⟩
              rintro v ⟨rA, rfl, hrA⟩
              refine hKK _ ?_
              clear hKK KK
              have HA := Lib.hid (show cn .f32 rA = seA c t from hrA.trans (nbW_congr ((se_mul .sub rfl HK.out rfl _ _).trans (cn_aop ..).symm)))
              clear hrA
              refine wpG_free rfl rfl (fun KK hKK W8 => ?_)
              go_simp
              refine ⟨by first | exact ⟨0, rfl⟩ | exact ⟨_, rfl⟩, hKK _ ?_⟩
              clear hKK KK
              refine wpG_bound rfl rfl (fun KK hKK n => ?_)
              go_simp
              refine ⟨by first | exact ⟨0, rfl⟩ | exact ⟨_, rfl⟩, hKK _ ?_⟩
              clear hKK KK
              refine wpG_free rfl rfl (fun KK hKK W10 => ?_)
              go_simp
              refine ⟨by first | exact ⟨0, rfl⟩ | exact ⟨_, rfl⟩, hKK _ ?_⟩
              clear hKK KK
              refine wpG_free rfl rfl (fun KK hKK W11 => ?_)
              go_simp
              refine ⟨by first | exact ⟨0, rfl⟩ | exact ⟨_, rfl⟩, hKK _ ?_⟩
              clear hKK KK
              refine wpG_bound rfl rfl (fun KK hKK n => ?_)
              go_simp
              refine ⟨by first | exact ⟨0, rfl⟩ | exact ⟨_, rfl⟩, hKK _ ?_⟩
              clear hKK KK
              refine wpG_free rfl rfl (fun KK hKK W13 => ?_)
              go_simp
              refine ⟨by first | exact ⟨0, rfl⟩ | exact ⟨_, rfl⟩, hKK _ ?_⟩
              clear hKK KK
              refine wpG_free rfl rfl (fun KK hKK W14 => ?_)
              go_simp
              refine ⟨by first | exact ⟨0, rfl⟩ | exact ⟨_, rfl⟩, hKK _ ?_⟩
              clear hKK KK
              obtain ⟨vB, hvB⟩ : ∃ v, fopR .sub .f32 d (fopR .mul .f32 K d W13) W14 = v := ⟨_, rfl⟩
              rw [hvB]
              have HB := Lib.hid (show cn .f32 vB = seB c d t by rw [← hvB]; exact se_mul .sub rfl HK.out rfl _ _)
              clear hvB
              refine wpG_free rfl rfl (fun KK hKK W15 => ?_)
              go_simp
              refine ⟨by first | exact ⟨0, rfl⟩ | exact ⟨_, rfl⟩, hKK _ ?_⟩
              clear hKK KK
              refine wpG_bound rfl rfl (fun KK hKK n => ?_)
              go_simp
              refine ⟨by first | exact ⟨0, rfl⟩ | exact ⟨_, rfl⟩, hKK _ ?_⟩
              clear hKK KK
              refine wpG_free rfl rfl (fun KK hKK W17 => ?_)
              go_simp
              refine ⟨by first | exact ⟨0, rfl⟩ | exact ⟨_, rfl⟩, hKK _ ?_⟩
              clear hKK KK
              refine wpG_free rfl rfl (fun KK hKK W18 => ?_)
              go_simp
              refine ⟨by first | exact ⟨0, rfl⟩ | exact ⟨_, rfl⟩, hKK _ ?_⟩
              clear hKK KK
              refine wpG_bound rfl rfl (fun KK hKK n => ?_)
              go_simp
              refine ⟨by first | exact ⟨0, rfl⟩ | exact ⟨_, rfl⟩, hKK _ ?_⟩
              clear hKK KK
              refine wpG_free rfl rfl (fun KK hKK W20 => ?_)
              go_simp
              refine ⟨by first | exact ⟨0, rfl⟩ | exact ⟨_, rfl⟩, hKK _ ?_⟩
              clear hKK KK
              refine wpG_free rfl rfl (fun KK hKK W21 => ?_)
              go_simp
              refine ⟨by first | exact ⟨0, rfl⟩ | exact ⟨_, rfl⟩, hKK _ ?_⟩
              clear hKK KK
              refine wpG_bound rfl rfl (fun KK hKK n => ?_)
              go_simp
              refine ⟨⟨0, rfl⟩, (imNb_any _ _).mono ?_, ?_⟩
              · rintro e w' ⟨⟨r, hr, rfl⟩, rfl⟩; exact ⟨_, rfl, ⟨0, rfl⟩, r, rfl, hr⟩
              rintro v ⟨rC, rfl, hrC⟩
              refine hKK _ ?_
              clear hKK KK
              have HC := Lib.hid (show cn .f32 rC = seC c d s t from hrC.trans (nbW_congr ((se_mul .sub rfl HH.out rfl _ _).trans (cn_aop ..).symm)))
              clear hrC
              refine wpG_free rfl rfl (fun KK hKK W23 => ?_)
              go_simp
              refine ⟨by first | exact ⟨0, rfl⟩ | exact ⟨_, rfl⟩, hKK _ ?_⟩
              clear hKK KK
              refine wpG_put (World.setCell wc.drew ⟨w.heap.size, 2, none⟩ (.float .f32 rA)) rfl rfl (by kernel_rfl) (fun n => ?_) ?_
              · go_simp; rfl
              refine wpG_free rfl rfl (fun KK hKK W25 => ?_)
              go_simp
              refine ⟨by first | exact ⟨0, rfl⟩ | exact ⟨_, rfl⟩, hKK _ ?_⟩
              clear hKK KK
              refine wpG_put (World.setCell (World.setCell wc.drew ⟨w.heap.size, 2, none⟩ (.float .f32 rA)) ⟨w.heap.size, 3, none⟩ (.float .f32 vB)) rfl rfl (by kernel_rfl) (fun n => ?_) ?_
              · go_simp; rfl
              refine wpG_free rfl rfl (fun KK hKK W27 => ?_)
              go_simp
              refine ⟨by first | exact ⟨0, rfl⟩ | exact ⟨_, rfl⟩, hKK _ ?_⟩
              clear hKK KK
              refine wpG_put (World.setCell (World.setCell (World.setCell wc.drew ⟨w.heap.size, 2, none⟩ (.float .f32 rA)) ⟨w.heap.size, 3, none⟩ (.float .f32 vB)) ⟨w.heap.size, 4, none⟩ (.float .f32 rC)) rfl rfl (by kernel_rfl) (fun n => ?_) ?_
              · go_simp; rfl
              refine wpG_nil (fun k => ?_)
              go_wp2_with fail
              go_meet
              case rel => exact ⟨rA, vB, rC, HA, HB, HC, Lib.hid (((((show SeW w L S c d s t u v wc.drew from HL.out.drewN 1).put2 rA).put3 vB).put4 rC).drewN _)⟩
            case rest =>
              obtain ⟨A, B, C, HA, HB, HC, hL⟩ := hcut
              replace HL := hL
              obtain ⟨n0, n1, n2, n3, n4, n5, n6, n7⟩ := HL.out.1.c8
              obtain ⟨g0, g1, g2, g3, g4, g5, g6, g7⟩ := HL.out.1.f8
              obtain ⟨r0, r1, r2, r3, r4, r5, r6, r7⟩ := HL.out.2.1.c8
              obtain ⟨f0, f1, f2, f3, f4, f5, f6, f7⟩ := HL.out.2.1.f8
              go_wp2_with fail
              refine bodyPost_ret (v := .agg #[.float .f32 L, .float .f32 S, .float .f32 A, .float .f32 B, .float .f32 C, .float .f32 t, .float .f32 u, .float .f32 v]) ?_ rfl ⟨⟨L, S, A, B, C, HL0.out, HS.out, HA.out, HB.out, HC.out, rfl⟩, ?_⟩
              · have hres := HRES.out
                simp only [results, hres]
                go_simp
              · exact ((((((((((((((((HL.out.2.2).setCell (by show w.heap.size ≤ w.heap.size + 1; omega) _)).setCell (by show w.heap.size ≤ w.heap.size + 1; omega) _)).setCell (by show w.heap.size ≤ w.heap.size + 1; omega) _)).setCell (by show w.heap.size ≤ w.heap.size + 1; omega) _)).setCell (by show w.heap.size ≤ w.heap.size + 1; omega) _)).setCell (by show w.heap.size ≤ w.heap.size + 1; omega) _)).setCell (by show w.heap.size ≤ w.heap.size + 1; omega) _)).setCell (by show w.heap.size ≤ w.heap.size + 1; omega) _)
end Go.Proofs.Ytldaamgohdnjnaa

/-
  TrendStep: spec.
-/
namespace Go.Proofs.Ytldaamgohdnjnaa
open Ieee Go.RowKit
set_option linter.unusedVariables false
/-- The parameter and the result stand in their blocks. -/
def TsV (w : World) (a b c d s t u v : Nat) (wx : World) : Prop := NumsIn wx w.heap.size [a, b, c, d, s, t, u, v] ∧ NumsIn wx (w.heap.size + 1) [0, 0, 0, 0, 0, 0, 0, 0] ∧ Below w.heap.size w wx
def TsW (w : World) (a b c d s t u v L S A B C k : Nat) (wx : World) : Prop := TsV w a b c d s t u v wx ∧ NumsIn wx k [L, S, A, B, C, t, u, v]
section
variable {w wx : World} {a b c d s t u v L S A B C k : Nat}
theorem TsV.drewN (h : TsV w a b c d s t u v wx) (n : Nat) : TsV w a b c d s t u v (wx.drewN n) := ⟨h.1.drewN n, h.2.1.drewN n, below_drewN h.2.2 n⟩
theorem TsV.lt (h : TsV w a b c d s t u v wx) : w.heap.size + 1 < wx.heap.size := h.2.1.lt
theorem TsV.new (h : TsV w a b c d s t u v wx) (L S A B C : Nat) (T : TypeId) : TsW w a b c d s t u v L S A B C wx.heap.size (wx.alloc (.cells #[.float .f32 L, .float .f32 S, .float .f32 A, .float .f32 B, .float .f32 C, .float .f32 t, .float .f32 u, .float .f32 v] T)) := ⟨⟨h.1.alloc _, h.2.1.alloc _, h.2.2.alloc (by have := h.2.1.lt; omega) _⟩, NumsIn.new wx [L, S, A, B, C, t, u, v] T⟩
theorem TsW.drewN (h : TsW w a b c d s t u v L S A B C k wx) (n : Nat) : TsW w a b c d s t u v L S A B C k (wx.drewN n) := ⟨h.1.drewN n, h.2.drewN n⟩
theorem TsW.below {wy : World} (h : TsW w a b c d s t u v L S A B C k wx) (hb : Below wx.heap.size wx wy) : TsW w a b c d s t u v L S A B C k wy := ⟨⟨h.1.1.below hb, h.1.2.1.below hb, h.1.2.2.trans (hb.mono h.1.2.2.size)⟩, h.2.below hb⟩
theorem TsW.put0 (h : TsW w a b c d s t u v L S A B C k wx) (hk : w.heap.size + 1 < k) (q : Nat) : TsW w a b c d s t u v q S A B C k (wx.setCell ⟨k, 0, none⟩ (.float .f32 q)) := ⟨⟨h.1.1.set (by omega), h.1.2.1.set (by omega), h.1.2.2.setCell (by show w.heap.size ≤ k; omega) _⟩, h.2.put (i := 0) (by simp) q⟩
theorem TsW.put1 (h : TsW w a b c d s t u v L S A B C k wx) (hk : w.heap.size + 1 < k) (q : Nat) : TsW w a b c d s t u v L q A B C k (wx.setCell ⟨k, 1, none⟩ (.float .f32 q)) := ⟨⟨h.1.1.set (by omega), h.1.2.1.set (by omega), h.1.2.2.setCell (by show w.heap.size ≤ k; omega) _⟩, h.2.put (i := 1) (by simp) q⟩
theorem TsW.put2 (h : TsW w a b c d s t u v L S A B C k wx) (hk : w.heap.size + 1 < k) (q : Nat) : TsW w a b c d s t u v L S q B C k (wx.setCell ⟨k, 2, none⟩ (.float .f32 q)) := ⟨⟨h.1.1.set (by omega), h.1.2.1.set (by omega), h.1.2.2.setCell (by show w.heap.size ≤ k; omega) _⟩, h.2.put (i := 2) (by simp) q⟩
theorem TsW.put3 (h : TsW w a b c d s t u v L S A B C k wx) (hk : w.heap.size + 1 < k) (q : Nat) : TsW w a b c d s t u v L S A q C k (wx.setCell ⟨k, 3, none⟩ (.float .f32 q)) := ⟨⟨h.1.1.set (by omega), h.1.2.1.set (by omega), h.1.2.2.setCell (by show w.heap.size ≤ k; omega) _⟩, h.2.put (i := 3) (by simp) q⟩
theorem TsW.put4 (h : TsW w a b c d s t u v L S A B C k wx) (hk : w.heap.size + 1 < k) (q : Nat) : TsW w a b c d s t u v L S A B q k (wx.setCell ⟨k, 4, none⟩ (.float .f32 q)) := ⟨⟨h.1.1.set (by omega), h.1.2.1.set (by omega), h.1.2.2.setCell (by show w.heap.size ≤ k; omega) _⟩, h.2.put (i := 4) (by simp) q⟩
theorem TsW.put5 (h : TsW w a b c d s t u v L S A B C k wx) (hk : w.heap.size + 1 < k) : TsW w a b c d s t u v L S A B C k (wx.setCell ⟨k, 5, none⟩ (.float .f32 t)) := ⟨⟨h.1.1.set (by omega), h.1.2.1.set (by omega), h.1.2.2.setCell (by show w.heap.size ≤ k; omega) _⟩, h.2.put (i := 5) (by simp) t⟩
theorem TsW.put6 (h : TsW w a b c d s t u v L S A B C k wx) (hk : w.heap.size + 1 < k) : TsW w a b c d s t u v L S A B C k (wx.setCell ⟨k, 6, none⟩ (.float .f32 u)) := ⟨⟨h.1.1.set (by omega), h.1.2.1.set (by omega), h.1.2.2.setCell (by show w.heap.size ≤ k; omega) _⟩, h.2.put (i := 6) (by simp) u⟩
theorem TsW.put7 (h : TsW w a b c d s t u v L S A B C k wx) (hk : w.heap.size + 1 < k) : TsW w a b c d s t u v L S A B C k (wx.setCell ⟨k, 7, none⟩ (.float .f32 v)) := ⟨⟨h.1.1.set (by omega), h.1.2.1.set (by omega), h.1.2.2.setCell (by show w.heap.size ≤ k; omega) _⟩, h.2.put (i := 7) (by simp) v⟩
end
theorem ts_e {a b : Nat} (w : World) : cn .f32 (fopR .add .f32 a b w) = tsE a b := by rw [cn_fopR]; rfl
theorem ts_a {c d s u : Nat} (w1 w2 w3 w4 : World) : cn .f32 (fopR .add .f32 (fopR .add .f32 (fopR .add .f32 c d w1) (fopR .add .f32 d s w2) w3) u w4) = tsA c d s u := by rw [cn_fopR, cn_fopR, cn_fopR, cn_fopR]; rfl
theorem ts_b {d s : Nat} (w : World) : cn .f32 (fopR .add .f32 d s w) = tsB d s := by rw [cn_fopR]; rfl
theorem ts_c {s v : Nat} (w : World) : cn .f32 (fopR .add .f32 s v w) = tsC s v := by rw [cn_fopR]; rfl
theorem ts_op (op : BinOp) {x y X Y : Nat} (hx : cn .f32 x = X) (hy : cn .f32 y = Y) (w : World) : cn .f32 (fopR op .f32 x y w) = aop op .f32 X Y := by rw [cn_fopR, hx, hy]
theorem ts_mul (op : BinOp) {x y z X Y Z : Nat} (hx : cn .f32 x = X) (hy : cn .f32 y = Y) (hz : cn .f32 z = Z) (w1 w2 : World) : cn .f32 (fopR op .f32 x (fopR .mul .f32 y z w1) w2) = aop op .f32 X (aop .mul .f32 Y Z) := by rw [cn_fopR, cn_fopR, hx, hy, hz]
set_option maxHeartbeats 4000000 in
set_option maxRecDepth 100000 in
theorem spTns_any (a b c d s t u v x : Nat) (z : Bool) (w : World) :
    Calls Try.prog 91 #[.agg #[.float .f32 a, .float .f32 b, .float .f32 c, .float .f32 d, .float .f32 s, .float .f32 t, .float .f32 u, .float .f32 v], .float .f32 x, .bool z] w (tsR z a b c d s t u v x w) := by
  have HRES := Lib.hid (show Try.f91.results = #[.cell 6 53, .tmp 7, .tmp 8] by kernel_rfl)
  have HI := Lib.hid (show NumsIn ((w.alloc (.cells #[.float .f32 a, .float .f32 b, .float .f32 c, .float .f32 d, .float .f32 s, .float .f32 t, .float .f32 u, .float .f32 v] 53)).alloc (.cells #[.float .f32 0, .float .f32 0, .float .f32 0, .float .f32 0, .float .f32 0, .float .f32 0, .float .f32 0, .float .f32 0] 53)) w.heap.size [a, b, c, d, s, t, u, v] from (NumsIn.new w [a, b, c, d, s, t, u, v] 53).alloc (.cells #[.float .f32 0, .float .f32 0, .float .f32 0, .float .f32 0, .float .f32 0, .float .f32 0, .float .f32 0, .float .f32 0] 53))
  have HR := Lib.hid (show NumsIn ((w.alloc (.cells #[.float .f32 a, .float .f32 b, .float .f32 c, .float .f32 d, .float .f32 s, .float .f32 t, .float .f32 u, .float .f32 v] 53)).alloc (.cells #[.float .f32 0, .float .f32 0, .float .f32 0, .float .f32 0, .float .f32 0, .float .f32 0, .float .f32 0, .float .f32 0] 53)) (w.heap.size + 1) [0, 0, 0, 0, 0, 0, 0, 0] from NumsIn.newAt (w.alloc (.cells #[.float .f32 a, .float .f32 b, .float .f32 c, .float .f32 d, .float .f32 s, .float .f32 t, .float .f32 u, .float .f32 v] 53)) [0, 0, 0, 0, 0, 0, 0, 0] 53 (p := w.heap.size + 1) (by simp))
  have G := Lib.hid (((Below.refl w.heap.size w).alloc (Nat.le_refl _) (.cells #[.float .f32 a, .float .f32 b, .float .f32 c, .float .f32 d, .float .f32 s, .float .f32 t, .float .f32 u, .float .f32 v] 53)).alloc (by simp) (.cells #[.float .f32 0, .float .f32 0, .float .f32 0, .float .f32 0, .float .f32 0, .float .f32 0, .float .f32 0, .float .f32 0] 53))
  cases hv : tnB a b c d s t u v
  · have HV := Lib.hid hv
    have HB := Lib.hid (tsOk_0 (z := z) (show tsB0 a b c d s t u v x = false by unfold tsB0; rw [hv]; rfl))
    clear hv
    go_enter Try.func91, Try.ntmps91
    go_wp2_with fail
    refine (sptn_any _ _ _ _ _ _ _ _ _ _ HI.out).mono ?_
    rw [HV.out]
    rintro e w1 ⟨m1, rfl, rfl⟩
    have HL := Lib.hid (show TsV w a b c d s t u v _ from ⟨HI.out.drewN m1, HR.out.drewN m1, below_drewN G.out m1⟩)
    generalize World.drewN _ m1 = w1 at *
    obtain ⟨r0, r1, r2, r3, r4, r5, r6, r7⟩ := HL.out.2.1.c8
    obtain ⟨f0, f1, f2, f3, f4, f5, f6, f7⟩ := HL.out.2.1.f8
    go_wp2_with fail
    refine bodyPost_ret (v := .tuple #[.agg #[.float .f32 0, .float .f32 0, .float .f32 0, .float .f32 0, .float .f32 0, .float .f32 0, .float .f32 0, .float .f32 0], .float .f32 0, .bool false]) ?_ rfl (tsR_no HB.out ?_)
    · have hres := HRES.out
      simp only [results, hres]
      go_simp
    · exact ((((((((((((((((HL.out.2.2).setCell (by show w.heap.size ≤ w.heap.size + 1; omega) _)).setCell (by show w.heap.size ≤ w.heap.size + 1; omega) _)).setCell (by show w.heap.size ≤ w.heap.size + 1; omega) _)).setCell (by show w.heap.size ≤ w.heap.size + 1; omega) _)).setCell (by show w.heap.size ≤ w.heap.size + 1; omega) _)).setCell (by show w.heap.size ≤ w.heap.size + 1; omega) _)).setCell (by show w.heap.size ≤ w.heap.size + 1; omega) _)).setCell (by show w.heap.size ≤ w.heap.size + 1; omega) _)
  cases hx : fin .f32 x
  · have HV := Lib.hid hv
    have HX := Lib.hid hx
    have HB := Lib.hid (tsOk_0 (z := z) (show tsB0 a b c d s t u v x = false by unfold tsB0; rw [hv, hx]; rfl))
    clear hv hx
    go_enter Try.func91, Try.ntmps91
    go_wp2_with fail
    refine (sptn_any _ _ _ _ _ _ _ _ _ _ HI.out).mono ?_
    rw [HV.out]
    rintro e w1 ⟨m1, rfl, rfl⟩
    have HL := Lib.hid (show TsV w a b c d s t u v _ from ⟨HI.out.drewN m1, HR.out.drewN m1, below_drewN G.out m1⟩)
    generalize World.drewN _ m1 = w1 at *
    go_wp2_with fail
    refine (l01Finite_any _ _).mono ?_
    rw [HX.out]
    rintro e w' ⟨m2, rfl, rfl⟩
    replace HL := Lib.hid (HL.out.drewN m2)
    generalize w1.drewN m2 = wq at *
    obtain ⟨r0, r1, r2, r3, r4, r5, r6, r7⟩ := HL.out.2.1.c8
    obtain ⟨f0, f1, f2, f3, f4, f5, f6, f7⟩ := HL.out.2.1.f8
    go_wp2_with fail
    refine bodyPost_ret (v := .tuple #[.agg #[.float .f32 0, .float .f32 0, .float .f32 0, .float .f32 0, .float .f32 0, .float .f32 0, .float .f32 0, .float .f32 0], .float .f32 0, .bool false]) ?_ rfl (tsR_no HB.out ?_)
    · have hres := HRES.out
      simp only [results, hres]
      go_simp
    · exact ((((((((((((((((HL.out.2.2).setCell (by show w.heap.size ≤ w.heap.size + 1; omega) _)).setCell (by show w.heap.size ≤ w.heap.size + 1; omega) _)).setCell (by show w.heap.size ≤ w.heap.size + 1; omega) _)).setCell (by show w.heap.size ≤ w.heap.size + 1; omega) _)).setCell (by show w.heap.size ≤ w.heap.size + 1; omega) _)).setCell (by show w.heap.size ≤ w.heap.size + 1; omega) _)).setCell (by show w.heap.size ≤ w.heap.size + 1; omega) _)).setCell (by show w.heap.size ≤ w.heap.size + 1; omega) _)
  have h0 : tsB0 a b c d s t u v x = true := by unfold tsB0; rw [hv, hx]; rfl
  have HV := Lib.hid hv
  have HX := Lib.hid hx
  have H0 := Lib.hid h0
  clear hv hx h0
  go_enter Try.func91, Try.ntmps91
  go_wp2_with fail
  refine (sptn_any _ _ _ _ _ _ _ _ _ _ HI.out).mono ?_
  rw [HV.out]
  rintro e w1 ⟨m1, rfl, rfl⟩
  have HL := Lib.hid (show TsV w a b c d s t u v _ from ⟨HI.out.drewN m1, HR.out.drewN m1, below_drewN G.out m1⟩)
  generalize World.drewN _ m1 = w1 at *
  go_wp2_with fail
  refine (l01Finite_any _ _).mono ?_
  rw [HX.out]
  rintro e w' ⟨m2, rfl, rfl⟩
  replace HL := Lib.hid (HL.out.drewN m2)
  generalize w1.drewN m2 = wq at *
  go_upto_region 3 with fail
  go_cut [9] (fun s9 wx => ∃ E, s9 = .float .f32 E ∧ Hid (cn .f32 E = tsE a b) ∧ Hid (TsV w a b c d s t u v wx))
  case first =>
    obtain ⟨i0, i1, i2, i3, i4, i5, i6, i7⟩ := HL.out.1.c8
    go_wp2_with fail
    go_meet
    case rel =>
      refine ⟨_, rfl, ?_, Lib.hid (HL.out.drewN _)⟩
      exact Lib.hid (ts_e _)
  case rest =>
    obtain ⟨E, rfl, HE, hL⟩ := hcut
    replace HL := hL
    go_upto_region 4 with fail
    go_cut [10] (fun s10 wx => ∃ A, s10 = .float .f32 A ∧ Hid (cn .f32 A = tsA c d s u) ∧ Hid (TsV w a b c d s t u v wx))
    case first =>
      obtain ⟨i0, i1, i2, i3, i4, i5, i6, i7⟩ := HL.out.1.c8
      go_wp2_with fail
      go_meet
      case rel =>
        refine ⟨_, rfl, ?_, Lib.hid (HL.out.drewN _)⟩
        exact Lib.hid (ts_a _ _ _ _)
    case rest =>
      obtain ⟨A, rfl, HA, hL⟩ := hcut
      replace HL := hL
      go_upto_region 5 with fail
      go_cut [11] (fun s11 wx => ∃ B, s11 = .float .f32 B ∧ Hid (cn .f32 B = tsB d s) ∧ Hid (TsV w a b c d s t u v wx))
      case first =>
        obtain ⟨i0, i1, i2, i3, i4, i5, i6, i7⟩ := HL.out.1.c8
        go_wp2_with fail
        go_meet
        case rel =>
          refine ⟨_, rfl, ?_, Lib.hid (HL.out.drewN _)⟩
          exact Lib.hid (ts_b _)
      case rest =>
        obtain ⟨B, rfl, HBv, hL⟩ := hcut
        replace HL := hL
        go_upto_region 6 with fail
        go_cut [12] (fun s12 wx => ∃ C, s12 = .float .f32 C ∧ Hid (cn .f32 C = tsC s v) ∧ Hid (TsV w a b c d s t u v wx))
        case first =>
          obtain ⟨i0, i1, i2, i3, i4, i5, i6, i7⟩ := HL.out.1.c8
          go_wp2_with fail
          go_meet
          case rel =>
            refine ⟨_, rfl, ?_, Lib.hid (HL.out.drewN _)⟩
            exact Lib.hid (ts_c _)
        case rest =>
          obtain ⟨C, rfl, HC, hL⟩ := hcut
          replace HL := hL
          generalize wc = w5 at *
          have hk : w.heap.size + 1 < w5.heap.size := HL.out.lt
          have hk0 : w.heap.size < w5.heap.size := by omega
          have hn0 : w.heap.size ≠ w5.heap.size := by omega
          have hn1 : w.heap.size + 1 ≠ w5.heap.size := by omega
          obtain ⟨j0, j1, j2, j3, j4, j5, j6, j7⟩ := HL.out.1.c8
          go_upto_region 8 with fail
          clear j0 j1 j2 j3 j4 j5 j6 j7
          have HL5 := Lib.hid (HL.out.new E b A B C 53)
          replace HL := HL5
          clear HL5
          cases z
          · skip
            have hb := tsOk_1 (z := false) (x := x) H0.out (show cn .f32 E = _ from HE.out) (show cn .f32 b = _ from rfl) (show cn .f32 A = _ from HA.out) (show cn .f32 B = _ from HBv.out) (show cn .f32 C = _ from HC.out)
            go_wp2_with fail
            refine (sptn_any _ _ _ _ _ _ _ _ _ _ HL.out.2).mono ?_
            rintro e w2 ⟨m3, rfl, rfl⟩
            replace HL := Lib.hid (HL.out.drewN m3)
            generalize World.drewN _ m3 = w2 at *
            cases hn : tnB E b A B C t u v
            · have HB := Lib.hid (hb.trans hn)
              clear hb hn
              obtain ⟨r0, r1, r2, r3, r4, r5, r6, r7⟩ := HL.out.1.2.1.c8
              obtain ⟨f0, f1, f2, f3, f4, f5, f6, f7⟩ := HL.out.1.2.1.f8
              go_wp2_with fail
              refine bodyPost_ret (v := .tuple #[.agg #[.float .f32 0, .float .f32 0, .float .f32 0, .float .f32 0, .float .f32 0, .float .f32 0, .float .f32 0, .float .f32 0], .float .f32 0, .bool false]) ?_ rfl (tsR_no HB.out ?_)
              · have hres := HRES.out
                simp only [results, hres]
                go_simp
              · exact ((((((((((((((((HL.out.1.2.2).setCell (by show w.heap.size ≤ w.heap.size + 1; omega) _)).setCell (by show w.heap.size ≤ w.heap.size + 1; omega) _)).setCell (by show w.heap.size ≤ w.heap.size + 1; omega) _)).setCell (by show w.heap.size ≤ w.heap.size + 1; omega) _)).setCell (by show w.heap.size ≤ w.heap.size + 1; omega) _)).setCell (by show w.heap.size ≤ w.heap.size + 1; omega) _)).setCell (by show w.heap.size ≤ w.heap.size + 1; omega) _)).setCell (by show w.heap.size ≤ w.heap.size + 1; omega) _)
            · have HB := Lib.hid (hb.trans hn)
              have hfl : fin .f32 E = true := by rw [tnB_spec] at hn; exact (Bool.and_eq_true _ _ ▸ hn).1
              have HF := Lib.hid hfl
              clear hb hn hfl
              go_wp2_with fail
              refine (l01Finite_any _ _).mono ?_
              rw [HF.out]
              rintro e w' ⟨m4, rfl, rfl⟩
              replace HL := Lib.hid (HL.out.drewN m4)
              generalize World.drewN _ m4 = w3 at *
              obtain ⟨r0, r1, r2, r3, r4, r5, r6, r7⟩ := HL.out.1.2.1.c8
              obtain ⟨f0, f1, f2, f3, f4, f5, f6, f7⟩ := HL.out.1.2.1.f8
              obtain ⟨n0, n1, n2, n3, n4, n5, n6, n7⟩ := HL.out.2.c8
              go_wp2_with fail
              refine bodyPost_ret (v := .tuple #[.agg #[.float .f32 E, .float .f32 b, .float .f32 A, .float .f32 B, .float .f32 C, .float .f32 t, .float .f32 u, .float .f32 v], .float .f32 E, .bool true]) ?_ rfl (tsR_yes HB.out (show cn .f32 E = _ from HE.out) (show cn .f32 b = _ from rfl) (show cn .f32 A = _ from HA.out) (show cn .f32 B = _ from HBv.out) (show cn .f32 C = _ from HC.out) HE.out ?_)
              · have hres := HRES.out
                simp only [results, hres]
                go_simp
              · exact ((((((((((((((((HL.out.1.2.2).setCell (by show w.heap.size ≤ w.heap.size + 1; omega) _)).setCell (by show w.heap.size ≤ w.heap.size + 1; omega) _)).setCell (by show w.heap.size ≤ w.heap.size + 1; omega) _)).setCell (by show w.heap.size ≤ w.heap.size + 1; omega) _)).setCell (by show w.heap.size ≤ w.heap.size + 1; omega) _)).setCell (by show w.heap.size ≤ w.heap.size + 1; omega) _)).setCell (by show w.heap.size ≤ w.heap.size + 1; omega) _)).setCell (by show w.heap.size ≤ w.heap.size + 1; omega) _)
          · skip
            go_upto_region 9 with fail
            go_cut [14] (fun s14 wx => ∃ F, s14 = .float .f32 F ∧ Hid (cn .f32 F = tsF c d s t u) ∧ Hid (TsW w a b c d s t u v E b A B C w5.heap.size wx))
            case first =>
              obtain ⟨i0, i1, i2, i3, i4, i5, i6, i7⟩ := HL.out.1.1.c8
              obtain ⟨n0, n1, n2, n3, n4, n5, n6, n7⟩ := HL.out.2.c8
              obtain ⟨g0, g1, g2, g3, g4, g5, g6, g7⟩ := HL.out.2.f8
              go_wp2_with fail
              go_meet
              case rel =>
                refine ⟨_, rfl, ?_, Lib.hid (HL.out.drewN _)⟩
                exact Lib.hid (ts_op .add HA.out rfl _)
            case rest =>
              obtain ⟨F, rfl, HF, hL⟩ := hcut
              replace HL := hL
              go_upto_region 10 with fail
              go_cut [15] (fun s15 wx => ∃ K, s15 = .float .f32 K ∧ Hid (cn .f32 K = tsK c d s t u) ∧ Hid (TsW w a b c d s t u v E b A B C w5.heap.size wx))
              case first =>
                obtain ⟨i0, i1, i2, i3, i4, i5, i6, i7⟩ := HL.out.1.1.c8
                obtain ⟨n0, n1, n2, n3, n4, n5, n6, n7⟩ := HL.out.2.c8
                obtain ⟨g0, g1, g2, g3, g4, g5, g6, g7⟩ := HL.out.2.f8
                go_wp2_with fail
                go_meet
                case rel =>
                  refine ⟨_, rfl, ?_, Lib.hid (HL.out.drewN _)⟩
                  exact Lib.hid (ts_op .quo HA.out HF.out _)
              case rest =>
                obtain ⟨K, rfl, HK, hL⟩ := hcut
                replace HL := hL
                go_upto_region 11 with fail
                go_cut [16] (fun s16 wx => ∃ H, s16 = .float .f32 H ∧ Hid (cn .f32 H = tsH c d s t u) ∧ Hid (TsW w a b c d s t u v E b A B C w5.heap.size wx))
                case first =>
                  obtain ⟨i0, i1, i2, i3, i4, i5, i6, i7⟩ := HL.out.1.1.c8
                  obtain ⟨n0, n1, n2, n3, n4, n5, n6, n7⟩ := HL.out.2.c8
                  obtain ⟨g0, g1, g2, g3, g4, g5, g6, g7⟩ := HL.out.2.f8
                  go_wp2_with fail
                  go_meet
                  case rel =>
                    refine ⟨_, rfl, ?_, Lib.hid (HL.out.drewN _)⟩
                    exact Lib.hid (ts_op .quo HBv.out HF.out _)
                case rest =>
                  obtain ⟨H, rfl, HH, hL⟩ := hcut
                  replace HL := hL
                  go_upto_region 12 with fail
                  go_cut [17] (fun s17 wx => ∃ D, s17 = .float .f32 D ∧ Hid (cn .f32 D = tsD a b x) ∧ Hid (TsW w a b c d s t u v E b A B C w5.heap.size wx))
                  case first =>
                    obtain ⟨i0, i1, i2, i3, i4, i5, i6, i7⟩ := HL.out.1.1.c8
                    obtain ⟨n0, n1, n2, n3, n4, n5, n6, n7⟩ := HL.out.2.c8
                    obtain ⟨g0, g1, g2, g3, g4, g5, g6, g7⟩ := HL.out.2.f8
                    go_wp2_with fail
                    go_meet
                    case rel =>
                      refine ⟨_, rfl, ?_, Lib.hid (HL.out.drewN _)⟩
                      exact Lib.hid (ts_op .sub rfl HE.out _)
                  case rest =>
                    obtain ⟨D, rfl, HD, hL⟩ := hcut
                    replace HL := hL
                    go_upto_region 13 with fail
                    go_cut [] (fun wx => ∃ L, Hid (cn .f32 L = tsL a b c d s t u x) ∧ Hid (TsW w a b c d s t u v L b A B C w5.heap.size wx))
                    case first =>
                      obtain ⟨i0, i1, i2, i3, i4, i5, i6, i7⟩ := HL.out.1.1.c8
                      obtain ⟨n0, n1, n2, n3, n4, n5, n6, n7⟩ := HL.out.2.c8
                      obtain ⟨g0, g1, g2, g3, g4, g5, g6, g7⟩ := HL.out.2.f8
                      go_wp2_with fail
                      go_meet
                      case rel =>
                        refine ⟨_, ?_, Lib.hid ((HL.out.drewN _).put0 hk _)⟩
                        exact Lib.hid (ts_mul .add HE.out HK.out HD.out _ _)
                    case rest =>
                      obtain ⟨L, HL0, hL⟩ := hcut
                      replace HL := hL
                      go_upto_region 14 with fail
                      go_cut [] (fun wx => ∃ S, Hid (cn .f32 S = tsS a b c d s t u x) ∧ Hid (TsW w a b c d s t u v L S A B C w5.heap.size wx))
                      case first =>
                        obtain ⟨i0, i1, i2, i3, i4, i5, i6, i7⟩ := HL.out.1.1.c8
                        obtain ⟨n0, n1, n2, n3, n4, n5, n6, n7⟩ := HL.out.2.c8
                        obtain ⟨g0, g1, g2, g3, g4, g5, g6, g7⟩ := HL.out.2.f8
                        go_wp2_with fail
                        go_meet
                        case rel =>
                          refine ⟨_, ?_, Lib.hid ((HL.out.drewN _).put1 hk _)⟩
                          exact Lib.hid (ts_mul .add rfl HH.out HD.out _ _)
                      case rest =>
                        obtain ⟨S, HS, hL⟩ := hcut
                        replace HL := hL
                        go_upto_region 15 with fail
                        go_cut [] (fun wx => ∃ A2, Hid (cn .f32 A2 = tsA2 c d s t u) ∧ Hid (TsW w a b c d s t u v L S A2 B C w5.heap.size wx))
                        case first =>
                          obtain ⟨i0, i1, i2, i3, i4, i5, i6, i7⟩ := HL.out.1.1.c8
                          obtain ⟨n0, n1, n2, n3, n4, n5, n6, n7⟩ := HL.out.2.c8
                          obtain ⟨g0, g1, g2, g3, g4, g5, g6, g7⟩ := HL.out.2.f8
                          go_wp2_with fail
                          refine (spNb_any _ _).mono ?_
                          rintro e w' ⟨⟨r, hr, rfl⟩, rfl⟩
                          have HQ := Lib.hid (show cn .f32 r = tsA2 c d s t u from hr.trans (nbW_congr ((ts_mul .sub HA.out HK.out HA.out _ _).trans (cn_aop ..).symm)))
                          clear hr
                          go_wp2_with fail
                          go_meet
                          case rel =>
                            refine ⟨_, ?_, Lib.hid ((HL.out.drewN _).put2 hk _)⟩
                            exact Lib.hid (HQ.out)
                        case rest =>
                          obtain ⟨A2, HA2, hL⟩ := hcut
                          replace HL := hL
                          go_upto_region 16 with fail
                          go_cut [] (fun wx => ∃ B2, Hid (cn .f32 B2 = tsB2 c d s t u) ∧ Hid (TsW w a b c d s t u v L S A2 B2 C w5.heap.size wx))
                          case first =>
                            obtain ⟨i0, i1, i2, i3, i4, i5, i6, i7⟩ := HL.out.1.1.c8
                            obtain ⟨n0, n1, n2, n3, n4, n5, n6, n7⟩ := HL.out.2.c8
                            obtain ⟨g0, g1, g2, g3, g4, g5, g6, g7⟩ := HL.out.2.f8
                            go_wp2_with fail
                            go_meet
                            case rel =>
                              refine ⟨_, ?_, Lib.hid ((HL.out.drewN _).put3 hk _)⟩
                              exact Lib.hid (ts_mul .sub HBv.out HK.out HBv.out _ _)
                          case rest =>
                            obtain ⟨B2, HB2, hL⟩ := hcut
                            replace HL := hL
                            go_upto_region 17 with fail
                            go_cut [] (fun wx => ∃ C2, Hid (cn .f32 C2 = tsC2 c d s t u v) ∧ Hid (TsW w a b c d s t u v L S A2 B2 C2 w5.heap.size wx))
                            case first =>
                              obtain ⟨i0, i1, i2, i3, i4, i5, i6, i7⟩ := HL.out.1.1.c8
                              obtain ⟨n0, n1, n2, n3, n4, n5, n6, n7⟩ := HL.out.2.c8
                              obtain ⟨g0, g1, g2, g3, g4, g5, g6, g7⟩ := HL.out.2.f8
                              go_wp2_with fail
                              refine (spNb_any _ _).mono ?_
                              rintro e w' ⟨⟨r, hr, rfl⟩, rfl⟩
                              have HQ := Lib.hid (show cn .f32 r = tsC2 c d s t u v from hr.trans (nbW_congr ((ts_mul .sub HC.out HH.out HBv.out _ _).trans (cn_aop ..).symm)))
                              clear hr
                              go_wp2_with fail
                              go_meet
                              case rel =>
                                refine ⟨_, ?_, Lib.hid ((HL.out.drewN _).put4 hk _)⟩
                                exact Lib.hid (HQ.out)
                            case rest =>
                              obtain ⟨C2, HC2, hL⟩ := hcut
                              replace HL := hL
                              have hb := tsOk_1 (z := true) (x := x) H0.out (show cn .f32 L = _ from HL0.out) (show cn .f32 S = _ from HS.out) (show cn .f32 A2 = _ from HA2.out) (show cn .f32 B2 = _ from HB2.out) (show cn .f32 C2 = _ from HC2.out)
                              go_wp2_with fail
                              refine (sptn_any _ _ _ _ _ _ _ _ _ _ HL.out.2).mono ?_
                              rintro e w2 ⟨m3, rfl, rfl⟩
                              replace HL := Lib.hid (HL.out.drewN m3)
                              generalize World.drewN _ m3 = w2 at *
                              cases hn : tnB L S A2 B2 C2 t u v
                              · have HB := Lib.hid (hb.trans hn)
                                clear hb hn
                                obtain ⟨r0, r1, r2, r3, r4, r5, r6, r7⟩ := HL.out.1.2.1.c8
                                obtain ⟨f0, f1, f2, f3, f4, f5, f6, f7⟩ := HL.out.1.2.1.f8
                                go_wp2_with fail
                                refine bodyPost_ret (v := .tuple #[.agg #[.float .f32 0, .float .f32 0, .float .f32 0, .float .f32 0, .float .f32 0, .float .f32 0, .float .f32 0, .float .f32 0], .float .f32 0, .bool false]) ?_ rfl (tsR_no HB.out ?_)
                                · have hres := HRES.out
                                  simp only [results, hres]
                                  go_simp
                                · exact ((((((((((((((((HL.out.1.2.2).setCell (by show w.heap.size ≤ w.heap.size + 1; omega) _)).setCell (by show w.heap.size ≤ w.heap.size + 1; omega) _)).setCell (by show w.heap.size ≤ w.heap.size + 1; omega) _)).setCell (by show w.heap.size ≤ w.heap.size + 1; omega) _)).setCell (by show w.heap.size ≤ w.heap.size + 1; omega) _)).setCell (by show w.heap.size ≤ w.heap.size + 1; omega) _)).setCell (by show w.heap.size ≤ w.heap.size + 1; omega) _)).setCell (by show w.heap.size ≤ w.heap.size + 1; omega) _)
                              · have HB := Lib.hid (hb.trans hn)
                                have hfl : fin .f32 L = true := by rw [tnB_spec] at hn; exact (Bool.and_eq_true _ _ ▸ hn).1
                                have HF := Lib.hid (show fin .f32 E = true from (fin_congr (show cn .f32 E = cn .f32 (tsE a b) by rw [HE.out, ← HE.out, cn_cn])).trans (fin_tsE_of_tsL (show fin .f32 (tsL a b c d s t u x) = true from (fin_congr (show cn .f32 L = cn .f32 (tsL a b c d s t u x) by rw [HL0.out, ← HL0.out, cn_cn])).symm.trans hfl)))
                                clear hb hn hfl
                                go_wp2_with fail
                                refine (l01Finite_any _ _).mono ?_
                                rw [HF.out]
                                rintro e w' ⟨m4, rfl, rfl⟩
                                replace HL := Lib.hid (HL.out.drewN m4)
                                generalize World.drewN _ m4 = w3 at *
                                obtain ⟨r0, r1, r2, r3, r4, r5, r6, r7⟩ := HL.out.1.2.1.c8
                                obtain ⟨f0, f1, f2, f3, f4, f5, f6, f7⟩ := HL.out.1.2.1.f8
                                obtain ⟨n0, n1, n2, n3, n4, n5, n6, n7⟩ := HL.out.2.c8
                                go_wp2_with fail
                                refine bodyPost_ret (v := .tuple #[.agg #[.float .f32 L, .float .f32 S, .float .f32 A2, .float .f32 B2, .float .f32 C2, .float .f32 t, .float .f32 u, .float .f32 v], .float .f32 E, .bool true]) ?_ rfl (tsR_yes HB.out (show cn .f32 L = _ from HL0.out) (show cn .f32 S = _ from HS.out) (show cn .f32 A2 = _ from HA2.out) (show cn .f32 B2 = _ from HB2.out) (show cn .f32 C2 = _ from HC2.out) HE.out ?_)
                                · have hres := HRES.out
                                  simp only [results, hres]
                                  go_simp
                                · exact ((((((((((((((((HL.out.1.2.2).setCell (by show w.heap.size ≤ w.heap.size + 1; omega) _)).setCell (by show w.heap.size ≤ w.heap.size + 1; omega) _)).setCell (by show w.heap.size ≤ w.heap.size + 1; omega) _)).setCell (by show w.heap.size ≤ w.heap.size + 1; omega) _)).setCell (by show w.heap.size ≤ w.heap.size + 1; omega) _)).setCell (by show w.heap.size ≤ w.heap.size + 1; omega) _)).setCell (by show w.heap.size ≤ w.heap.size + 1; omega) _)).setCell (by show w.heap.size ≤ w.heap.size + 1; omega) _)
end Go.Proofs.Ytldaamgohdnjnaa

/-
  TrendStep: impl.
-/
namespace Go.Proofs.Ytldaamgohdnjnaa
open Ieee Go.RowKit
set_option linter.unusedVariables false
theorem se_tsL {a b c d s t u x E A : Nat} (hE : cn .f32 E = tsE a b) (hA : cn .f32 A = tsA c d s u) : seL E A t x = tsL a b c d s t u x := by unfold seL seK seF seD; rw [hE, hA]; rfl
theorem se_tsS {a b c d s t u x E A B : Nat} (hE : cn .f32 E = tsE a b) (hA : cn .f32 A = tsA c d s u) (hB : cn .f32 B = tsB d s) : seS E b A B t x = tsS a b c d s t u x := by unfold seS seH seF seD; rw [hE, hA, hB]; rfl
theorem se_tsA {c d s t u A : Nat} (hA : cn .f32 A = tsA c d s u) : seA A t = tsA2 c d s t u := by unfold seA seK seF; rw [hA]; rfl
theorem se_tsB {c d s t u A B : Nat} (hA : cn .f32 A = tsA c d s u) (hB : cn .f32 B = tsB d s) : seB A B t = tsB2 c d s t u := by unfold seB seK seF; rw [hA, hB]; rfl
theorem se_tsC {c d s t u v A B C : Nat} (hA : cn .f32 A = tsA c d s u) (hB : cn .f32 B = tsB d s) (hC : cn .f32 C = tsC s v) : seC A B C t = tsC2 c d s t u v := by unfold seC seH seF; rw [hA, hB, hC]; rfl
set_option maxHeartbeats 4000000 in
set_option maxRecDepth 100000 in
theorem imTns_any (a b c d s t u v x : Nat) (z : Bool) (w : World) :
    Calls Try.prog 93 #[.agg #[.float .f32 a, .float .f32 b, .float .f32 c, .float .f32 d, .float .f32 s, .float .f32 t, .float .f32 u, .float .f32 v], .float .f32 x, .bool z] w (tsR z a b c d s t u v x w) := by
  have HRES := Lib.hid (show Try.f93.results = #[.cell 6 53, .tmp 7, .tmp 8] by kernel_rfl)
  have HI := Lib.hid (show NumsIn ((w.alloc (.cells #[.float .f32 a, .float .f32 b, .float .f32 c, .float .f32 d, .float .f32 s, .float .f32 t, .float .f32 u, .float .f32 v] 53)).alloc (.cells #[.float .f32 0, .float .f32 0, .float .f32 0, .float .f32 0, .float .f32 0, .float .f32 0, .float .f32 0, .float .f32 0] 53)) w.heap.size [a, b, c, d, s, t, u, v] from (NumsIn.new w [a, b, c, d, s, t, u, v] 53).alloc (.cells #[.float .f32 0, .float .f32 0, .float .f32 0, .float .f32 0, .float .f32 0, .float .f32 0, .float .f32 0, .float .f32 0] 53))
  have HR := Lib.hid (show NumsIn ((w.alloc (.cells #[.float .f32 a, .float .f32 b, .float .f32 c, .float .f32 d, .float .f32 s, .float .f32 t, .float .f32 u, .float .f32 v] 53)).alloc (.cells #[.float .f32 0, .float .f32 0, .float .f32 0, .float .f32 0, .float .f32 0, .float .f32 0, .float .f32 0, .float .f32 0] 53)) (w.heap.size + 1) [0, 0, 0, 0, 0, 0, 0, 0] from NumsIn.newAt (w.alloc (.cells #[.float .f32 a, .float .f32 b, .float .f32 c, .float .f32 d, .float .f32 s, .float .f32 t, .float .f32 u, .float .f32 v] 53)) [0, 0, 0, 0, 0, 0, 0, 0] 53 (p := w.heap.size + 1) (by simp))
  have G := Lib.hid (((Below.refl w.heap.size w).alloc (Nat.le_refl _) (.cells #[.float .f32 a, .float .f32 b, .float .f32 c, .float .f32 d, .float .f32 s, .float .f32 t, .float .f32 u, .float .f32 v] 53)).alloc (by simp) (.cells #[.float .f32 0, .float .f32 0, .float .f32 0, .float .f32 0, .float .f32 0, .float .f32 0, .float .f32 0, .float .f32 0] 53))
  cases hv : tnB a b c d s t u v
  · have HV := Lib.hid hv
    have HB := Lib.hid (tsOk_0 (z := z) (show tsB0 a b c d s t u v x = false by unfold tsB0; rw [hv]; rfl))
    clear hv
    go_enter Try.func93, Try.ntmps93
    go_wp2_with fail
    refine (imVtn_any _ _ _ _ _ _ _ _ _).mono ?_
    rw [HV.out]
    rintro e w1 ⟨rfl, b1⟩
    have HL := Lib.hid (show TsV w a b c d s t u v _ from ⟨HI.out.below b1, HR.out.below b1, G.out.trans (b1.mono G.out.size)⟩)
    clear b1
    obtain ⟨r0, r1, r2, r3, r4, r5, r6, r7⟩ := HL.out.2.1.c8
    obtain ⟨f0, f1, f2, f3, f4, f5, f6, f7⟩ := HL.out.2.1.f8
    go_wp2_with fail
    refine bodyPost_ret (v := .tuple #[.agg #[.float .f32 0, .float .f32 0, .float .f32 0, .float .f32 0, .float .f32 0, .float .f32 0, .float .f32 0, .float .f32 0], .float .f32 0, .bool false]) ?_ rfl (tsR_no HB.out ?_)
    · have hres := HRES.out
      simp only [results, hres]
      go_simp
    · exact ((((((((((((((((HL.out.2.2).setCell (by show w.heap.size ≤ w.heap.size + 1; omega) _)).setCell (by show w.heap.size ≤ w.heap.size + 1; omega) _)).setCell (by show w.heap.size ≤ w.heap.size + 1; omega) _)).setCell (by show w.heap.size ≤ w.heap.size + 1; omega) _)).setCell (by show w.heap.size ≤ w.heap.size + 1; omega) _)).setCell (by show w.heap.size ≤ w.heap.size + 1; omega) _)).setCell (by show w.heap.size ≤ w.heap.size + 1; omega) _)).setCell (by show w.heap.size ≤ w.heap.size + 1; omega) _)
  cases hx : fin .f32 x
  · have HV := Lib.hid hv
    have HX := Lib.hid hx
    have HB := Lib.hid (tsOk_0 (z := z) (show tsB0 a b c d s t u v x = false by unfold tsB0; rw [hv, hx]; rfl))
    clear hv hx
    go_enter Try.func93, Try.ntmps93
    go_wp2_with fail
    refine (imVtn_any _ _ _ _ _ _ _ _ _).mono ?_
    rw [HV.out]
    rintro e w1 ⟨rfl, b1⟩
    have HL := Lib.hid (show TsV w a b c d s t u v _ from ⟨HI.out.below b1, HR.out.below b1, G.out.trans (b1.mono G.out.size)⟩)
    clear b1
    go_wp2_with fail
    refine (isFinite_any _ _).mono ?_
    rw [HX.out]
    rintro e w' ⟨m2, rfl, rfl⟩
    replace HL := Lib.hid (HL.out.drewN m2)
    generalize w1.drewN m2 = wq at *
    obtain ⟨r0, r1, r2, r3, r4, r5, r6, r7⟩ := HL.out.2.1.c8
    obtain ⟨f0, f1, f2, f3, f4, f5, f6, f7⟩ := HL.out.2.1.f8
    go_wp2_with fail
    refine bodyPost_ret (v := .tuple #[.agg #[.float .f32 0, .float .f32 0, .float .f32 0, .float .f32 0, .float .f32 0, .float .f32 0, .float .f32 0, .float .f32 0], .float .f32 0, .bool false]) ?_ rfl (tsR_no HB.out ?_)
    · have hres := HRES.out
      simp only [results, hres]
      go_simp
    · exact ((((((((((((((((HL.out.2.2).setCell (by show w.heap.size ≤ w.heap.size + 1; omega) _)).setCell (by show w.heap.size ≤ w.heap.size + 1; omega) _)).setCell (by show w.heap.size ≤ w.heap.size + 1; omega) _)).setCell (by show w.heap.size ≤ w.heap.size + 1; omega) _)).setCell (by show w.heap.size ≤ w.heap.size + 1; omega) _)).setCell (by show w.heap.size ≤ w.heap.size + 1; omega) _)).setCell (by show w.heap.size ≤ w.heap.size + 1; omega) _)).setCell (by show w.heap.size ≤ w.heap.size + 1; omega) _)
  have h0 : tsB0 a b c d s t u v x = true := by unfold tsB0; rw [hv, hx]; rfl
  have HV := Lib.hid hv
  have HX := Lib.hid hx
  have H0 := Lib.hid h0
  clear hv hx h0
  go_enter Try.func93, Try.ntmps93
  go_wp2_with fail
  refine (imVtn_any _ _ _ _ _ _ _ _ _).mono ?_
  rw [HV.out]
  rintro e w1 ⟨rfl, b1⟩
  have HL := Lib.hid (show TsV w a b c d s t u v _ from ⟨HI.out.below b1, HR.out.below b1, G.out.trans (b1.mono G.out.size)⟩)
  clear b1
  go_wp2_with fail
  refine (isFinite_any _ _).mono ?_
  rw [HX.out]
  rintro e w' ⟨m2, rfl, rfl⟩
  replace HL := Lib.hid (HL.out.drewN m2)
  generalize w1.drewN m2 = wq at *
  go_upto_region 3 with fail
  go_cut [9] (fun s9 wx => ∃ E, s9 = .float .f32 E ∧ Hid (cn .f32 E = tsE a b) ∧ Hid (TsV w a b c d s t u v wx))
  case first =>
    obtain ⟨i0, i1, i2, i3, i4, i5, i6, i7⟩ := HL.out.1.c8
    go_wp2_with fail
    go_meet
    case rel =>
      refine ⟨_, rfl, ?_, Lib.hid (HL.out.drewN _)⟩
      exact Lib.hid (ts_e _)
  case rest =>
    obtain ⟨E, rfl, HE, hL⟩ := hcut
    replace HL := hL
    generalize wc = w5 at *
    have hk : w.heap.size + 1 < w5.heap.size := HL.out.lt
    have hk0 : w.heap.size < w5.heap.size := by omega
    have hn0 : w.heap.size ≠ w5.heap.size := by omega
    have hn1 : w.heap.size + 1 ≠ w5.heap.size := by omega
    obtain ⟨j0, j1, j2, j3, j4, j5, j6, j7⟩ := HL.out.1.c8
    go_upto_region 5 with fail
    clear j0 j1 j2 j3 j4 j5 j6 j7
    have HV5 := HL
    have HL5 := Lib.hid (HL.out.new a b c d s 53)
    replace HL := HL5
    clear HL5
    go_upto_region 5 with fail
    go_cut [] (fun wx => Hid (TsW w a b c d s t u v E b c d s w5.heap.size wx))
    case first =>
      obtain ⟨i0, i1, i2, i3, i4, i5, i6, i7⟩ := HL.out.1.1.c8
      obtain ⟨n0, n1, n2, n3, n4, n5, n6, n7⟩ := HL.out.2.c8
      obtain ⟨g0, g1, g2, g3, g4, g5, g6, g7⟩ := HL.out.2.f8
      go_wp2_with fail
      go_meet
      case rel =>
        exact Lib.hid (HV5.out.new E b c d s 53)
    case rest =>
      have hL := hcut
      replace HL := hL
      go_upto_region 6 with fail
      go_cut [] (fun wx => ∃ A, Hid (cn .f32 A = tsA c d s u) ∧ Hid (TsW w a b c d s t u v E b A d s w5.heap.size wx))
      case first =>
        obtain ⟨i0, i1, i2, i3, i4, i5, i6, i7⟩ := HL.out.1.1.c8
        obtain ⟨n0, n1, n2, n3, n4, n5, n6, n7⟩ := HL.out.2.c8
        obtain ⟨g0, g1, g2, g3, g4, g5, g6, g7⟩ := HL.out.2.f8
        go_wp2_with fail
        go_meet
        case rel =>
          refine ⟨_, ?_, Lib.hid ((HL.out.drewN _).put2 hk _)⟩
          exact Lib.hid (ts_a _ _ _ _)
      case rest =>
        obtain ⟨A, HA, hL⟩ := hcut
        replace HL := hL
        go_upto_region 7 with fail
        go_cut [] (fun wx => ∃ B, Hid (cn .f32 B = tsB d s) ∧ Hid (TsW w a b c d s t u v E b A B s w5.heap.size wx))
        case first =>
          obtain ⟨i0, i1, i2, i3, i4, i5, i6, i7⟩ := HL.out.1.1.c8
          obtain ⟨n0, n1, n2, n3, n4, n5, n6, n7⟩ := HL.out.2.c8
          obtain ⟨g0, g1, g2, g3, g4, g5, g6, g7⟩ := HL.out.2.f8
          go_wp2_with fail
          go_meet
          case rel =>
            refine ⟨_, ?_, Lib.hid ((HL.out.drewN _).put3 hk _)⟩
            exact Lib.hid (ts_b _)
        case rest =>
          obtain ⟨B, HBv, hL⟩ := hcut
          replace HL := hL
          go_upto_region 8 with fail
          go_cut [] (fun wx => ∃ C, Hid (cn .f32 C = tsC s v) ∧ Hid (TsW w a b c d s t u v E b A B C w5.heap.size wx))
          case first =>
            obtain ⟨i0, i1, i2, i3, i4, i5, i6, i7⟩ := HL.out.1.1.c8
            obtain ⟨n0, n1, n2, n3, n4, n5, n6, n7⟩ := HL.out.2.c8
            obtain ⟨g0, g1, g2, g3, g4, g5, g6, g7⟩ := HL.out.2.f8
            go_wp2_with fail
            go_meet
            case rel =>
              refine ⟨_, ?_, Lib.hid ((HL.out.drewN _).put4 hk _)⟩
              exact Lib.hid (ts_c _)
          case rest =>
            obtain ⟨C, HC, hL⟩ := hcut
            replace HL := hL
            cases z
            · skip
              have hb := tsOk_1 (z := false) (x := x) H0.out (show cn .f32 E = _ from HE.out) (show cn .f32 b = _ from rfl) (show cn .f32 A = _ from HA.out) (show cn .f32 B = _ from HBv.out) (show cn .f32 C = _ from HC.out)
              obtain ⟨n0, n1, n2, n3, n4, n5, n6, n7⟩ := HL.out.2.c8
              go_wp2_with fail
              refine (imVtn_any _ _ _ _ _ _ _ _ _).mono ?_
              rintro e w2 ⟨rfl, b2⟩
              replace HL := Lib.hid (HL.out.below b2)
              clear b2 n0 n1 n2 n3 n4 n5 n6 n7
              cases hn : tnB E b A B C t u v
              · have HB := Lib.hid (hb.trans hn)
                clear hb hn
                obtain ⟨r0, r1, r2, r3, r4, r5, r6, r7⟩ := HL.out.1.2.1.c8
                obtain ⟨f0, f1, f2, f3, f4, f5, f6, f7⟩ := HL.out.1.2.1.f8
                go_wp2_with fail
                refine bodyPost_ret (v := .tuple #[.agg #[.float .f32 0, .float .f32 0, .float .f32 0, .float .f32 0, .float .f32 0, .float .f32 0, .float .f32 0, .float .f32 0], .float .f32 0, .bool false]) ?_ rfl (tsR_no HB.out ?_)
                · have hres := HRES.out
                  simp only [results, hres]
                  go_simp
                · exact ((((((((((((((((HL.out.1.2.2).setCell (by show w.heap.size ≤ w.heap.size + 1; omega) _)).setCell (by show w.heap.size ≤ w.heap.size + 1; omega) _)).setCell (by show w.heap.size ≤ w.heap.size + 1; omega) _)).setCell (by show w.heap.size ≤ w.heap.size + 1; omega) _)).setCell (by show w.heap.size ≤ w.heap.size + 1; omega) _)).setCell (by show w.heap.size ≤ w.heap.size + 1; omega) _)).setCell (by show w.heap.size ≤ w.heap.size + 1; omega) _)).setCell (by show w.heap.size ≤ w.heap.size + 1; omega) _)
              · have HB := Lib.hid (hb.trans hn)
                clear hb hn
                obtain ⟨r0, r1, r2, r3, r4, r5, r6, r7⟩ := HL.out.1.2.1.c8
                obtain ⟨f0, f1, f2, f3, f4, f5, f6, f7⟩ := HL.out.1.2.1.f8
                obtain ⟨n0, n1, n2, n3, n4, n5, n6, n7⟩ := HL.out.2.c8
                go_wp2_with fail
                refine bodyPost_ret (v := .tuple #[.agg #[.float .f32 E, .float .f32 b, .float .f32 A, .float .f32 B, .float .f32 C, .float .f32 t, .float .f32 u, .float .f32 v], .float .f32 E, .bool true]) ?_ rfl (tsR_yes HB.out (show cn .f32 E = _ from HE.out) (show cn .f32 b = _ from rfl) (show cn .f32 A = _ from HA.out) (show cn .f32 B = _ from HBv.out) (show cn .f32 C = _ from HC.out) HE.out ?_)
                · have hres := HRES.out
                  simp only [results, hres]
                  go_simp
                · exact ((((((((((((((((HL.out.1.2.2).setCell (by show w.heap.size ≤ w.heap.size + 1; omega) _)).setCell (by show w.heap.size ≤ w.heap.size + 1; omega) _)).setCell (by show w.heap.size ≤ w.heap.size + 1; omega) _)).setCell (by show w.heap.size ≤ w.heap.size + 1; omega) _)).setCell (by show w.heap.size ≤ w.heap.size + 1; omega) _)).setCell (by show w.heap.size ≤ w.heap.size + 1; omega) _)).setCell (by show w.heap.size ≤ w.heap.size + 1; omega) _)).setCell (by show w.heap.size ≤ w.heap.size + 1; omega) _)
            · skip
              go_upto_region 10 with fail
              go_cut [] (fun wx => ∃ L S A2 B2 C2, Hid (cn .f32 L = tsL a b c d s t u x) ∧ Hid (cn .f32 S = tsS a b c d s t u x) ∧ Hid (cn .f32 A2 = tsA2 c d s t u) ∧ Hid (cn .f32 B2 = tsB2 c d s t u) ∧ Hid (cn .f32 C2 = tsC2 c d s t u v) ∧ Hid (TsW w a b c d s t u v L S A2 B2 C2 w5.heap.size wx))
              case first =>
                obtain ⟨n0, n1, n2, n3, n4, n5, n6, n7⟩ := HL.out.2.c8
                go_wp2_with fail
                refine (seeing_any _ _ _ _ _ _ _ _ _ _).mono ?_
                rintro e w2 ⟨⟨L, S, A2, B2, C2, h1, h2, h3, h4, h5, rfl⟩, b2⟩
                replace HL := Lib.hid (HL.out.below b2)
                clear b2 n0 n1 n2 n3 n4 n5 n6 n7
                have g1 := Lib.hid (h1.trans (se_tsL HE.out HA.out))
                have g2 := Lib.hid (h2.trans (se_tsS HE.out HA.out HBv.out))
                have g3 := Lib.hid (h3.trans (se_tsA HA.out))
                have g4 := Lib.hid (h4.trans (se_tsB HA.out HBv.out))
                have g5 := Lib.hid (h5.trans (se_tsC HA.out HBv.out HC.out))
                clear h1 h2 h3 h4 h5
                obtain ⟨n0, n1, n2, n3, n4, n5, n6, n7⟩ := HL.out.2.c8
                obtain ⟨y0, y1, y2, y3, y4, y5, y6, y7⟩ := HL.out.2.f8
                go_wp2_with fail
                go_meet
                case rel => exact ⟨L, S, A2, B2, C2, g1, g2, g3, g4, g5, Lib.hid ((((((((HL.out.put0 hk L).put1 hk S).put2 hk A2).put3 hk B2).put4 hk C2).put5 hk).put6 hk).put7 hk)⟩
              case rest =>
                obtain ⟨L, S, A2, B2, C2, HL0, HS, HA2, HB2, HC2, hL⟩ := hcut
                replace HL := hL
                have hb := tsOk_1 (z := true) (x := x) H0.out (show cn .f32 L = _ from HL0.out) (show cn .f32 S = _ from HS.out) (show cn .f32 A2 = _ from HA2.out) (show cn .f32 B2 = _ from HB2.out) (show cn .f32 C2 = _ from HC2.out)
                obtain ⟨n0, n1, n2, n3, n4, n5, n6, n7⟩ := HL.out.2.c8
                go_wp2_with fail
                refine (imVtn_any _ _ _ _ _ _ _ _ _).mono ?_
                rintro e w2 ⟨rfl, b2⟩
                replace HL := Lib.hid (HL.out.below b2)
                clear b2 n0 n1 n2 n3 n4 n5 n6 n7
                cases hn : tnB L S A2 B2 C2 t u v
                · have HB := Lib.hid (hb.trans hn)
                  clear hb hn
                  obtain ⟨r0, r1, r2, r3, r4, r5, r6, r7⟩ := HL.out.1.2.1.c8
                  obtain ⟨f0, f1, f2, f3, f4, f5, f6, f7⟩ := HL.out.1.2.1.f8
                  go_wp2_with fail
                  refine bodyPost_ret (v := .tuple #[.agg #[.float .f32 0, .float .f32 0, .float .f32 0, .float .f32 0, .float .f32 0, .float .f32 0, .float .f32 0, .float .f32 0], .float .f32 0, .bool false]) ?_ rfl (tsR_no HB.out ?_)
                  · have hres := HRES.out
                    simp only [results, hres]
                    go_simp
                  · exact ((((((((((((((((HL.out.1.2.2).setCell (by show w.heap.size ≤ w.heap.size + 1; omega) _)).setCell (by show w.heap.size ≤ w.heap.size + 1; omega) _)).setCell (by show w.heap.size ≤ w.heap.size + 1; omega) _)).setCell (by show w.heap.size ≤ w.heap.size + 1; omega) _)).setCell (by show w.heap.size ≤ w.heap.size + 1; omega) _)).setCell (by show w.heap.size ≤ w.heap.size + 1; omega) _)).setCell (by show w.heap.size ≤ w.heap.size + 1; omega) _)).setCell (by show w.heap.size ≤ w.heap.size + 1; omega) _)
                · have HB := Lib.hid (hb.trans hn)
                  clear hb hn
                  obtain ⟨r0, r1, r2, r3, r4, r5, r6, r7⟩ := HL.out.1.2.1.c8
                  obtain ⟨f0, f1, f2, f3, f4, f5, f6, f7⟩ := HL.out.1.2.1.f8
                  obtain ⟨n0, n1, n2, n3, n4, n5, n6, n7⟩ := HL.out.2.c8
                  go_wp2_with fail
                  refine bodyPost_ret (v := .tuple #[.agg #[.float .f32 L, .float .f32 S, .float .f32 A2, .float .f32 B2, .float .f32 C2, .float .f32 t, .float .f32 u, .float .f32 v], .float .f32 E, .bool true]) ?_ rfl (tsR_yes HB.out (show cn .f32 L = _ from HL0.out) (show cn .f32 S = _ from HS.out) (show cn .f32 A2 = _ from HA2.out) (show cn .f32 B2 = _ from HB2.out) (show cn .f32 C2 = _ from HC2.out) HE.out ?_)
                  · have hres := HRES.out
                    simp only [results, hres]
                    go_simp
                  · exact ((((((((((((((((HL.out.1.2.2).setCell (by show w.heap.size ≤ w.heap.size + 1; omega) _)).setCell (by show w.heap.size ≤ w.heap.size + 1; omega) _)).setCell (by show w.heap.size ≤ w.heap.size + 1; omega) _)).setCell (by show w.heap.size ≤ w.heap.size + 1; omega) _)).setCell (by show w.heap.size ≤ w.heap.size + 1; omega) _)).setCell (by show w.heap.size ≤ w.heap.size + 1; omega) _)).setCell (by show w.heap.size ≤ w.heap.size + 1; omega) _)).setCell (by show w.heap.size ≤ w.heap.size + 1; omega) _)
end Go.Proofs.Ytldaamgohdnjnaa

/-
  Trends through a series: the program's behindAll, over TrendStep.
-/
namespace Go.Proofs.Ytldaamgohdnjnaa
open Ieee Go.RowKit
set_option linter.unusedVariables false

structure T5 where
  a : Nat
  b : Nat
  c : Nat
  d : Nat
  s : Nat
section
variable (a b c d s t u v : Nat) (zs : List Nat) (ss : List Bool)
/-- The trend behind the first numbers: what of it changes. -/
def trS : Nat → T5
  | 0 => ⟨a, b, c, d, s⟩
  | k + 1 => ⟨uL (trS k).a (trS k).b (trS k).c (trS k).d (trS k).s t u (zs.getD k 0) (ss.getD k false), uS (trS k).a (trS k).b (trS k).c (trS k).d (trS k).s t u (zs.getD k 0) (ss.getD k false), uA (trS k).c (trS k).d (trS k).s t u (ss.getD k false), uB (trS k).c (trS k).d (trS k).s t u (ss.getD k false), uC (trS k).c (trS k).d (trS k).s t u v (ss.getD k false)⟩
def trO (k : Nat) : Bool := tsOk (trS a b c d s t u v zs ss k).a (trS a b c d s t u v zs ss k).b (trS a b c d s t u v zs ss k).c (trS a b c d s t u v zs ss k).d (trS a b c d s t u v zs ss k).s t u v (zs.getD k 0) (ss.getD k false)
def trQ (k : Nat) : Nat := tsE (trS a b c d s t u v zs ss k).a (trS a b c d s t u v zs ss k).b
def trAll : Bool := lvPre zs ss && okn (trO a b c d s t u v zs ss) zs.length
/-- The words of the trend behind k numbers. -/
def trW (k : Nat) : List Nat := [(trS a b c d s t u v zs ss k).a, (trS a b c d s t u v zs ss k).b, (trS a b c d s t u v zs ss k).c, (trS a b c d s t u v zs ss k).d, (trS a b c d s t u v zs ss k).s, t, u, v]
end
theorem tsOk_t {z : Bool} {a b c d s t u v x : Nat} (h : tsOk a b c d s t u v x z = true) : fin .f32 (uL a b c d s t u x z) = true ∧ fin .f32 (uS a b c d s t u x z) = true ∧ fin .f32 (uA c d s t u z) = true ∧ fin .f32 (uB c d s t u z) = true ∧ fin .f32 (uC c d s t u v z) = true ∧ fin .f32 t = true ∧ fin .f32 u = true ∧ fin .f32 v = true ∧ fin .f32 (tsE a b) = true := by
  unfold tsOk at h
  have h2 := tnB_fins (Bool.and_eq_true _ _ ▸ h).2
  unfold fins at h2
  simp at h2
  obtain ⟨h3, h4, h5, h6, h7, h8, h9, h10⟩ := h2
  refine ⟨h3, h4, h5, h6, h7, h8, h9, h10, ?_⟩
  unfold uL at h3
  cases z
  · exact h3
  · exact fin_tsE_of_tsL h3
theorem fin_cnw {r c : Nat} (h : cn .f32 r = cn .f32 c) (hf : fin .f32 c = true) : r = c :=
  (fin_wd h ((fin_congr (cn_cn .f32 c)).trans hf)).trans (fin_wd rfl ((fin_congr (cn_cn .f32 c)).trans hf)).symm
/-- What a step gives, word by word. -/
theorem tsR_words {z : Bool} {a b c d s t u v x : Nat} {w : World} {e : Ending} {w' : World} (h : tsR z a b c d s t u v x w e w') :
    ∃ r0 r1 r2 r3 r4 r5 r6 r7 q, e = .returned (.tuple #[.agg #[.float .f32 r0, .float .f32 r1, .float .f32 r2, .float .f32 r3, .float .f32 r4, .float .f32 r5, .float .f32 r6, .float .f32 r7], .float .f32 q, .bool (tsOk a b c d s t u v x z)]) ∧
      (tsOk a b c d s t u v x z = true → [r0, r1, r2, r3, r4, r5, r6, r7] = [uL a b c d s t u x z, uS a b c d s t u x z, uA c d s t u z, uB c d s t u z, uC c d s t u v z, t, u, v] ∧ q = tsE a b) ∧ Below w.heap.size w w' := by
  unfold tsR at h
  obtain ⟨r0, r1, r2, r3, r4, r5, r6, r7, q, h0, h1, h2, h3, h4, h5, h6, h7, h8, rfl, hb⟩ := h
  refine ⟨r0, r1, r2, r3, r4, r5, r6, r7, q, rfl, fun hB => ?_, hb⟩
  rw [if_pos hB] at h0 h1 h2 h3 h4 h5 h6 h7 h8
  obtain ⟨f0, f1, f2, f3, f4, f5, f6, f7, f8⟩ := tsOk_t hB
  rw [fin_wd h0 f0, fin_wd h1 f1, fin_wd h2 f2, fin_wd h3 f3, fin_wd h4 f4, fin_cnw h5 f5, fin_cnw h6 f6, fin_cnw h7 f7, fin_wd h8 f8]
  exact ⟨rfl, rfl⟩

/-- A block of models, eight numbers each, the first k of which are told. -/
structure Md8 (g n k : Nat) (f : Nat → Nat → Nat) (wr : World) : Prop where
  set_ : ∀ j, j < k → ∀ i, i < 8 → wr.cell? ⟨g, j * 8 + i, none⟩ = some (.float .f32 (f j i))
  ex : ∀ j, j < n * 8 → ∃ v, wr.cell? ⟨g, j, none⟩ = some v
  fz : ∀ j, wr.frozen? ⟨g, j, none⟩ = false
  lt : g < wr.heap.size
section
variable {g n k : Nat} {f : Nat → Nat → Nat} {wr wr' : World}
theorem Md8.start (w : World) (n : Nat) (f : Nat → Nat → Nat) (z : Array Value) (T : TypeId) : Md8 w.heap.size n 0 f (w.alloc (.cells (madeCells z (n * 8)) T)) := by
  refine ⟨fun j hj => by omega, fun j hj => ?_, fun j => World.frozen?_alloc_at _ _ _ _ rfl, by simp⟩
  rw [World.cell?_alloc_at _ _ _ _ rfl]
  exact ⟨_, Array.getElem?_eq_getElem (by rw [size_madeCells]; omega)⟩
theorem Md8.same (h : Md8 g n k f wr) (hs : wr.heap.size ≤ wr'.heap.size) (hb : wr'.heap[g]? = wr.heap[g]?) : Md8 g n k f wr' :=
  ⟨fun j hj i hi => by rw [World.cell?_of_block (a := ⟨g, j * 8 + i, none⟩) hb]; exact h.set_ j hj i hi, fun j hj => by rw [World.cell?_of_block (a := ⟨g, j, none⟩) hb]; exact h.ex j hj,
    fun j => by rw [World.frozen?_of_block (a := ⟨g, j, none⟩) hb]; exact h.fz j, Nat.lt_of_lt_of_le h.lt hs⟩
theorem Md8.one {o : Nat} (h : Md8 g n k f wr) (i : Nat) (hi : i < 8) (hk : k < n) (v : Value) (hold : ∀ i', i' < i → wr.cell? ⟨g, k * 8 + i', none⟩ = some (.float .f32 (f k i'))) :
    Md8 g n k f (wr.setCell ⟨g, k * 8 + i, none⟩ (.float .f32 (f k i))) ∧ ∀ i', i' < i + 1 → (wr.setCell ⟨g, k * 8 + i, none⟩ (.float .f32 (f k i))).cell? ⟨g, k * 8 + i', none⟩ = some (.float .f32 (f k i')) := by
  refine ⟨⟨fun j hj i' hi' => by rw [setCell_far (by omega)]; exact h.set_ j hj i' hi', fun j hj => ?_, fun j => by rw [World.frozen?_setCell]; exact h.fz j, by simpa [World.setCell] using h.lt⟩, fun i' hi' => ?_⟩
  · by_cases e : j = k * 8 + i
    · subst e
      obtain ⟨u, hu⟩ := h.ex _ hj
      exact ⟨_, World.cell?_setCell_same' _ _ _ (by rw [hu]; rfl)⟩
    · rw [setCell_far e]; exact h.ex j hj
  · by_cases e : i' = i
    · subst e
      obtain ⟨u, hu⟩ := h.ex (k * 8 + i') (by omega)
      exact World.cell?_setCell_same' _ _ _ (by rw [hu]; rfl)
    · rw [setCell_far (by omega)]; exact hold i' (by omega)

theorem Md8.step (h : Md8 g n k f wr) (hk : k < n) : Md8 g n (k + 1) f ((((((((wr.setCell ⟨g, k * 8, none⟩ (.float .f32 (f k 0))).setCell ⟨g, k * 8 + 1, none⟩ (.float .f32 (f k 1))).setCell ⟨g, k * 8 + 2, none⟩ (.float .f32 (f k 2))).setCell ⟨g, k * 8 + 3, none⟩ (.float .f32 (f k 3))).setCell ⟨g, k * 8 + 4, none⟩ (.float .f32 (f k 4))).setCell ⟨g, k * 8 + 5, none⟩ (.float .f32 (f k 5))).setCell ⟨g, k * 8 + 6, none⟩ (.float .f32 (f k 6))).setCell ⟨g, k * 8 + 7, none⟩ (.float .f32 (f k 7))) := by
  obtain ⟨h0, e0⟩ := Md8.one (o := 0) h 0 (by omega) hk undef (fun i' hi' => by omega)
  obtain ⟨h1, e1⟩ := Md8.one (o := 0) h0 1 (by omega) hk undef e0
  obtain ⟨h2, e2⟩ := Md8.one (o := 0) h1 2 (by omega) hk undef e1
  obtain ⟨h3, e3⟩ := Md8.one (o := 0) h2 3 (by omega) hk undef e2
  obtain ⟨h4, e4⟩ := Md8.one (o := 0) h3 4 (by omega) hk undef e3
  obtain ⟨h5, e5⟩ := Md8.one (o := 0) h4 5 (by omega) hk undef e4
  obtain ⟨h6, e6⟩ := Md8.one (o := 0) h5 6 (by omega) hk undef e5
  obtain ⟨h7, e7⟩ := Md8.one (o := 0) h6 7 (by omega) hk undef e6
  refine ⟨fun j hj i hi => ?_, h7.ex, h7.fz, h7.lt⟩
  by_cases e : j = k
  · subst e; exact e7 i (by omega)
  · exact h7.set_ j (by omega) i hi
end
theorem run_make_len8 {P : Program} (w : World) (t e : TypeId) (i : TypeInfo) (z : Value) (ht : P.underlying t = some (.slice e)) (hi : P.info? e = some i) (hz : i.zero = some z) (hs : i.size = 8)
    (len : Nat) (hb : i.bytes * len ≤ 281474976710656) (hl : len ≤ 9223372036854775807) :
    (Instr.makeSlice t (.int .i64 (len : Int)) (.int .i64 (len : Int))).run P w = .ok (.slice (some ⟨w.heap.size, 0, none⟩) len len) (w.alloc (.cells (madeCells z.cells (len * 8)) e)) := by
  have h := run_make (P := P) w t e i z ht hi hz .i64 .i64 (len : Int) (len : Int) (by omega) (Int.le_refl _) (by
    have : ((i.bytes * len : Nat) : Int) ≤ 281474976710656 := by omega
    rwa [Int.natCast_mul] at this) (by omega)
  rw [h, hs]
  simp
theorem Try.infoT : (Try.prog.info? 53).map (fun i => (i.zero, i.size, i.bytes)) = some (some (.agg #[.float .f32 0, .float .f32 0, .float .f32 0, .float .f32 0, .float .f32 0, .float .f32 0, .float .f32 0, .float .f32 0]), 8, 32) := by kernel_rfl
/-- The models behind all numbers. -/
def trF (a b c d s t u v : Nat) (zs : List Nat) (ss : List Bool) (j i : Nat) : Nat := (trW a b c d s t u v zs ss (j + 1)).getD i 0
/-- What behindAll gives. -/
def RetBt (a b c d s t u v : Nat) (zs : List Nat) (ss : List Bool) (w : World) (e : Ending) (w' : World) : Prop :=
  ∃ v0 v1, e = .returned (.tuple #[v0, v1, .bool (trAll a b c d s t u v zs ss)]) ∧ Below w.heap.size w w' ∧
    (trAll a b c d s t u v zs ss = true → ∃ g1 g2, v0 = .slice (some ⟨g1, 0, none⟩) zs.length zs.length ∧ v1 = .slice (some ⟨g2, 0, none⟩) zs.length zs.length ∧
      Md8 g1 zs.length zs.length (trF a b c d s t u v zs ss) w' ∧
      FOwn 32 w.heap.size w' (.slice (some ⟨g2, 0, none⟩) zs.length zs.length) (tells (trQ a b c d s t u v zs ss) zs.length)) ∧ (trAll a b c d s t u v zs ss = false → v0 = .slice none 0 0 ∧ v1 = .slice none 0 0)
set_option maxHeartbeats 4000000 in
set_option maxRecDepth 100000 in
theorem bhT_any (a b c d s t u v : Nat) (a1 : Option Addr) (len cap : Nat) (zs : List Nat) (a2 : Option Addr) (len2 cap2 : Nat) (ss : List Bool) (w : World) (h : FSl w a1 len zs) (h2 : BSl w a2 len2 ss) (hm : len ≤ 1048576) (hm2 : len2 ≤ 1048576) :
    Calls Try.prog 92 #[.agg #[.float .f32 a, .float .f32 b, .float .f32 c, .float .f32 d, .float .f32 s, .float .f32 t, .float .f32 u, .float .f32 v], .slice a1 len cap, .slice a2 len2 cap2, .func (.func 93) #[] #[]] w (RetBt a b c d s t u v zs ss w) := by
  obtain ⟨i0, hi, hz0, hz1, hz2⟩ := info_parts Try.infoR
  obtain ⟨i1, hi1, hz3, hz4, hz5⟩ := info_parts Try.infoT
  have HL := Lib.hid h.1
  have HL2 := Lib.hid h2.1
  have hb0 := (Below.refl w.heap.size w).alloc (Nat.le_refl _) (.cells #[.float .f32 a, .float .f32 b, .float .f32 c, .float .f32 d, .float .f32 s, .float .f32 t, .float .f32 u, .float .f32 v] 53)
  have HB0 := Lib.hid hb0
  have H := Lib.hid (FSl.below h hb0)
  have H2 := Lib.hid (BSl.below h2 hb0)
  have HBx := Lib.hid (NumsIn.new w [a, b, c, d, s, t, u, v] 53)
  have HO := Lib.hid h
  have HO2 := Lib.hid h2
  clear h h2 hb0
  cases hs : serB zs
  · have HS := Lib.hid hs
    have HB := Lib.hid (show trAll a b c d s t u v zs ss = false by unfold trAll lvPre; rw [hs]; rfl)
    clear hs
    go_enter Try.func92, Try.ntmps92
    go_wp2_with (go_at_call 67; refine (implSeries_any _ _ _ _ _ H.out hm).mono ?_; rw [HS.out]; rintro e w' ⟨m, rfl, rfl⟩)
    go_ret3
    exact ⟨_, _, by rw [HB.out]; rfl, below_drewN HB0.out _, fun hh => absurd hh (by rw [HB.out]; simp), fun _ => ⟨rfl, rfl⟩⟩
  · have HS := Lib.hid hs
    by_cases he : len2 = len
    · have hne : ((len2 : Int) != (len : Int)) = false := by rw [bne_eq_false_iff_eq]; omega
      subst he
      have hl96 := (serB_t hs).2.1
      have hl1 := (serB_t hs).1
      rw [HL.out] at hl96 hl1
      have HAl := Lib.hid (show trAll a b c d s t u v zs ss = okn (trO a b c d s t u v zs ss) len2 from by unfold trAll lvPre; rw [hs, HL.out, HL2.out, decide_eq_true rfl]; rfl)
      have hmk := fun W => run_make_len (P := Try.prog) W 22 32 i0 (.float .f32 0) Try.underlying22 hi hz0 hz1 len2 (by rw [hz2]; omega) (by omega)
      have hmk8 := fun W => run_make_len8 (P := Try.prog) W 118 53 i1 (.agg #[.float .f32 0, .float .f32 0, .float .f32 0, .float .f32 0, .float .f32 0, .float .f32 0, .float .f32 0, .float .f32 0]) Try.underlying118 hi1 hz3 hz4 len2 (by rw [hz5]; omega) (by omega)
      clear hs hi hz0 hz1 hz2 hi1 hz3 hz4 hz5 hne
      go_enter Try.func92, Try.ntmps92
      go_wp2_with fail
      refine (implSeries_any _ _ _ _ _ H.out hm).mono ?_
      rw [HS.out]
      rintro e w' ⟨m, rfl, rfl⟩
      have HMa := Lib.hid (show ∀ n, Md8 (w.heap.size + 1) len2 0 (trF a b c d s t u v zs ss) ((((w.alloc (.cells #[.float .f32 a, .float .f32 b, .float .f32 c, .float .f32 d, .float .f32 s, .float .f32 t, .float .f32 u, .float .f32 v] 53)).drewN n).alloc (.cells (madeCells #[.float .f32 0, .float .f32 0, .float .f32 0, .float .f32 0, .float .f32 0, .float .f32 0, .float .f32 0, .float .f32 0] (len2 * 8)) 53)).alloc (.cells (madeCells #[.float .f32 0] len2) 32)) from fun n => by
        have := (Md8.start ((w.alloc (.cells #[.float .f32 a, .float .f32 b, .float .f32 c, .float .f32 d, .float .f32 s, .float .f32 t, .float .f32 u, .float .f32 v] 53)).drewN n) len2 (trF a b c d s t u v zs ss) #[.float .f32 0, .float .f32 0, .float .f32 0, .float .f32 0, .float .f32 0, .float .f32 0, .float .f32 0, .float .f32 0] 53).same (wr' := (((w.alloc (.cells #[.float .f32 a, .float .f32 b, .float .f32 c, .float .f32 d, .float .f32 s, .float .f32 t, .float .f32 u, .float .f32 v] 53)).drewN n).alloc (.cells (madeCells #[.float .f32 0, .float .f32 0, .float .f32 0, .float .f32 0, .float .f32 0, .float .f32 0, .float .f32 0, .float .f32 0] (len2 * 8)) 53)).alloc (.cells (madeCells #[.float .f32 0] len2) 32)) (by simp) (heap_alloc_old _ _ (by simp))
        simpa using this)
      have HHa := Lib.hid (show ∀ n, Head 32 (w.heap.size + 1 + 1) len2 [] ((((w.alloc (.cells #[.float .f32 a, .float .f32 b, .float .f32 c, .float .f32 d, .float .f32 s, .float .f32 t, .float .f32 u, .float .f32 v] 53)).drewN n).alloc (.cells (madeCells #[.float .f32 0, .float .f32 0, .float .f32 0, .float .f32 0, .float .f32 0, .float .f32 0, .float .f32 0, .float .f32 0] (len2 * 8)) 53)).alloc (.cells (madeCells #[.float .f32 0] len2) 32)) from fun n => by
        have := Head.start (T := 32) (w := ((w.alloc (.cells #[.float .f32 a, .float .f32 b, .float .f32 c, .float .f32 d, .float .f32 s, .float .f32 t, .float .f32 u, .float .f32 v] 53)).drewN n).alloc (.cells (madeCells #[.float .f32 0, .float .f32 0, .float .f32 0, .float .f32 0, .float .f32 0, .float .f32 0, .float .f32 0, .float .f32 0] (len2 * 8)) 53)) (n := len2) (by omega)
        simpa [Value.cells] using this)
      have HMb := Lib.hid (show ∀ n, Md8 (w.heap.size + 1 + 1) len2 0 (trF a b c d s t u v zs ss) ((((w.alloc (.cells #[.float .f32 a, .float .f32 b, .float .f32 c, .float .f32 d, .float .f32 s, .float .f32 t, .float .f32 u, .float .f32 v] 53)).drewN n).alloc (.cells (madeCells #[.float .f32 0] len2) 32)).alloc (.cells (madeCells #[.float .f32 0, .float .f32 0, .float .f32 0, .float .f32 0, .float .f32 0, .float .f32 0, .float .f32 0, .float .f32 0] (len2 * 8)) 53)) from fun n => by
        have := Md8.start (((w.alloc (.cells #[.float .f32 a, .float .f32 b, .float .f32 c, .float .f32 d, .float .f32 s, .float .f32 t, .float .f32 u, .float .f32 v] 53)).drewN n).alloc (.cells (madeCells #[.float .f32 0] len2) 32)) len2 (trF a b c d s t u v zs ss) #[.float .f32 0, .float .f32 0, .float .f32 0, .float .f32 0, .float .f32 0, .float .f32 0, .float .f32 0, .float .f32 0] 53
        simpa using this)
      have HHb := Lib.hid (show ∀ n, Head 32 (w.heap.size + 1) len2 [] ((((w.alloc (.cells #[.float .f32 a, .float .f32 b, .float .f32 c, .float .f32 d, .float .f32 s, .float .f32 t, .float .f32 u, .float .f32 v] 53)).drewN n).alloc (.cells (madeCells #[.float .f32 0] len2) 32)).alloc (.cells (madeCells #[.float .f32 0, .float .f32 0, .float .f32 0, .float .f32 0, .float .f32 0, .float .f32 0, .float .f32 0, .float .f32 0] (len2 * 8)) 53)) from fun n => by
        have := (Head.start (T := 32) (w := ((w.alloc (.cells #[.float .f32 a, .float .f32 b, .float .f32 c, .float .f32 d, .float .f32 s, .float .f32 t, .float .f32 u, .float .f32 v] 53)).drewN n)) (n := len2) (by omega)).same (w' := (((w.alloc (.cells #[.float .f32 a, .float .f32 b, .float .f32 c, .float .f32 d, .float .f32 s, .float .f32 t, .float .f32 u, .float .f32 v] 53)).drewN n).alloc (.cells (madeCells #[.float .f32 0] len2) 32)).alloc (.cells (madeCells #[.float .f32 0, .float .f32 0, .float .f32 0, .float .f32 0, .float .f32 0, .float .f32 0, .float .f32 0, .float .f32 0] (len2 * 8)) 53)) (heap_alloc_old _ _ (by simp))
        simpa using this)
      have HA := Lib.hid (show ∀ n o1 o2, NumsIn ((((w.alloc (.cells #[.float .f32 a, .float .f32 b, .float .f32 c, .float .f32 d, .float .f32 s, .float .f32 t, .float .f32 u, .float .f32 v] 53)).drewN n).alloc o1).alloc o2) w.heap.size [a, b, c, d, s, t, u, v] from fun n o1 o2 => ((HBx.out.drewN n).alloc o1).alloc o2)
      have HBb := Lib.hid (show ∀ n o1 o2, Below w.heap.size w ((((w.alloc (.cells #[.float .f32 a, .float .f32 b, .float .f32 c, .float .f32 d, .float .f32 s, .float .f32 t, .float .f32 u, .float .f32 v] 53)).drewN n).alloc o1).alloc o2) from fun n o1 o2 => ((below_drewN HB0.out n).alloc (by simp) o1).alloc (by simp; omega) o2)
      go_upto_region 3 with fail
      go_cut [11, 12] (fun v11 v12 wx => ∃ g1 g2, v11 = .slice (some ⟨g1, 0, none⟩) len2 len2 ∧ v12 = .slice (some ⟨g2, 0, none⟩) len2 len2 ∧ Hid (g1 ≠ g2 ∧ w.heap.size < g1 ∧ w.heap.size < g2) ∧ Hid (NumsIn wx w.heap.size [a, b, c, d, s, t, u, v]) ∧ Hid (Md8 g1 len2 0 (trF a b c d s t u v zs ss) wx) ∧ Hid (Head 32 g2 len2 [] wx) ∧ Hid (Below w.heap.size w wx))
      case first =>
        go_wp2
        go_region
        all_goals
          go_wp2_with fail
          go_meet
          case rel => first
            | exact ⟨_, _, rfl, rfl, Lib.hid ⟨by omega, by omega, by omega⟩, Lib.hid (HA.out _ _ _), Lib.hid (HMa.out _), Lib.hid (HHa.out _), Lib.hid (HBb.out _ _ _)⟩
            | exact ⟨_, _, rfl, rfl, Lib.hid ⟨by omega, by omega, by omega⟩, Lib.hid (HA.out _ _ _), Lib.hid (HMb.out _), Lib.hid (HHb.out _), Lib.hid (HBb.out _ _ _)⟩
      case rest =>
        obtain ⟨g1, g2, rfl, rfl, hgs, hx0, hm0, hh0, hb0⟩ := hcut
        have hg12 := hgs.out.1
        have hg1 := hgs.out.2.1
        have hg2 := hgs.out.2.2
        clear hmk hmk8 HMa HHa HMb HHb HA HBb
        go_wp2
        go_loopw [34] (fun i wr => ∃ (k : Nat) (rs : List Nat), k ≤ len2 ∧ i = .int .i64 k ∧ Hid (rs.length = k) ∧ Hid (NumsIn wr w.heap.size (trW a b c d s t u v zs ss k)) ∧ Hid (Md8 g1 len2 k (trF a b c d s t u v zs ss) wr) ∧ Hid (Head 32 g2 len2 rs wr) ∧ Hid (rs = tells (trQ a b c d s t u v zs ss) k) ∧ Hid (okn (trO a b c d s t u v zs ss) k = true) ∧ Hid (Below w.heap.size w wr)) (fun i _ => len2 - (intOf i).toNat)
        case atStart => exact ⟨0, [], Nat.zero_le _, rfl, Lib.hid rfl, hx0, hm0, hh0, Lib.hid rfl, Lib.hid rfl, hb0⟩
        case round =>
          rename World => wr
          obtain ⟨k, rs, hk, rfl, hrl, hnx, hmd, hhd, hrs, hok, hbel⟩ := hrel
          by_cases hlt : k < len2
          · have hsz := hbel.out.size
            obtain ⟨b1, off1, rfl, hb1, hc1⟩ := HO.out.at (by omega)
            obtain ⟨b2, off2, rfl, hb2, hc2⟩ := HO2.out.at (by omega)
            have hck := hc1 k hlt
            have hcs := hc2 k hlt
            rw [← hbel.out.cell (p := ⟨b1, off1 + k, none⟩) hb1] at hck
            rw [← hbel.out.cell (p := ⟨b2, off2 + k, none⟩) hb2] at hcs
            have HSt := Lib.hid (show trO a b c d s t u v zs ss k = tsOk (trS a b c d s t u v zs ss k).a (trS a b c d s t u v zs ss k).b (trS a b c d s t u v zs ss k).c (trS a b c d s t u v zs ss k).d (trS a b c d s t u v zs ss k).s t u v (zs.getD k 0) (ss.getD k false) ∧ trQ a b c d s t u v zs ss k = tsE (trS a b c d s t u v zs ss k).a (trS a b c d s t u v zs ss k).b ∧ trW a b c d s t u v zs ss (k + 1) = [uL (trS a b c d s t u v zs ss k).a (trS a b c d s t u v zs ss k).b (trS a b c d s t u v zs ss k).c (trS a b c d s t u v zs ss k).d (trS a b c d s t u v zs ss k).s t u (zs.getD k 0) (ss.getD k false), uS (trS a b c d s t u v zs ss k).a (trS a b c d s t u v zs ss k).b (trS a b c d s t u v zs ss k).c (trS a b c d s t u v zs ss k).d (trS a b c d s t u v zs ss k).s t u (zs.getD k 0) (ss.getD k false), uA (trS a b c d s t u v zs ss k).c (trS a b c d s t u v zs ss k).d (trS a b c d s t u v zs ss k).s t u (ss.getD k false), uB (trS a b c d s t u v zs ss k).c (trS a b c d s t u v zs ss k).d (trS a b c d s t u v zs ss k).s t u (ss.getD k false), uC (trS a b c d s t u v zs ss k).c (trS a b c d s t u v zs ss k).d (trS a b c d s t u v zs ss k).s t u v (ss.getD k false), t, u, v] from ⟨rfl, rfl, rfl⟩)
            unfold trW at hnx
            generalize zs.getD k 0 = x at *
            generalize ss.getD k false = y at *
            generalize trS a b c d s t u v zs ss k = Q at *
            obtain ⟨M0, M1, M2, M3, M4⟩ := Q
            simp only at hnx HSt
            clear hc1 hc2 hb1 hb2
            go_upto_region 8 with fail
            go_cut [15] (fun v15 wx => v15 = .bool (trO a b c d s t u v zs ss k) ∧ Hid (trO a b c d s t u v zs ss k = true → NumsIn wx w.heap.size (trW a b c d s t u v zs ss (k + 1)) ∧ Head 32 g2 len2 (rs ++ [trQ a b c d s t u v zs ss k]) wx) ∧ Hid (Md8 g1 len2 k (trF a b c d s t u v zs ss) wx) ∧ Hid (Below w.heap.size w wx))
            case first =>
              obtain ⟨x0, x1, x2, x3, x4, x5, x6, x7⟩ := hnx.out.c8
              have HN := Lib.hid hnx.out
              have HH := Lib.hid hhd.out
              have HD := Lib.hid hmd.out
              have HB := Lib.hid hbel.out
              have HRl := Lib.hid hrl.out
              clear hnx hhd hmd hbel hrs hok hrl
              go_wp2_with fail
              go_region_with (go_at_call 93; refine (imTns_any _ _ _ _ _ _ _ _ _ _ _).mono ?_; intro e w1 hR; obtain ⟨r0, r1, r2, r3, r4, r5, r6, r7, u1, rfl, hv, hb3⟩ := tsR_words hR; have hx1 : NumsIn w1 w.heap.size [M0, M1, M2, M3, M4, t, u, v] := NumsIn.below (by first | exact HN.out | exact HN.out.drewN _) hb3; obtain ⟨y0, y1, y2, y3, y4, y5, y6, y7⟩ := hx1.c8; obtain ⟨z0, z1, z2, z3, z4, z5, z6, z7⟩ := hx1.f8; have hh1 : Head 32 g2 len2 rs w1 := HH.out.same (hb3.block g2 (by exact HH.out.lt)); obtain ⟨⟨uu, hcell⟩, hfz⟩ := hh1.cell hlt; have hpg : w.heap.size ≠ g2 := (by omega))
              all_goals
                have hd1 : Md8 g1 len2 k (trF a b c d s t u v zs ss) w1 := HD.out.same (by exact hb3.size) (hb3.block g1 (by exact HD.out.lt))
                have hbw : Below w.heap.size w w1 := by first | exact HB.out.trans (hb3.mono (by exact HB.out.size)) | exact (below_drewN HB.out 1).trans (hb3.mono (by exact HB.out.size))
                have hnw : NumsIn (((((((((w1.setCell ⟨w.heap.size, 0, none⟩ (.float .f32 r0)).setCell ⟨w.heap.size, 1, none⟩ (.float .f32 r1)).setCell ⟨w.heap.size, 2, none⟩ (.float .f32 r2)).setCell ⟨w.heap.size, 3, none⟩ (.float .f32 r3)).setCell ⟨w.heap.size, 4, none⟩ (.float .f32 r4)).setCell ⟨w.heap.size, 5, none⟩ (.float .f32 r5)).setCell ⟨w.heap.size, 6, none⟩ (.float .f32 r6)).setCell ⟨w.heap.size, 7, none⟩ (.float .f32 r7)).setCell ⟨g2, k, none⟩ (.float .f32 u1)) w.heap.size [r0, r1, r2, r3, r4, r5, r6, r7] :=
                  ((((((((hx1.put (i := 0) (by simp) r0).put (i := 1) (by simp) r1).put (i := 2) (by simp) r2).put (i := 3) (by simp) r3).put (i := 4) (by simp) r4).put (i := 5) (by simp) r5).put (i := 6) (by simp) r6).put (i := 7) (by simp) r7).set hpg
                have hhw := (hh1.same (w' := ((((((((w1.setCell ⟨w.heap.size, 0, none⟩ (.float .f32 r0)).setCell ⟨w.heap.size, 1, none⟩ (.float .f32 r1)).setCell ⟨w.heap.size, 2, none⟩ (.float .f32 r2)).setCell ⟨w.heap.size, 3, none⟩ (.float .f32 r3)).setCell ⟨w.heap.size, 4, none⟩ (.float .f32 r4)).setCell ⟨w.heap.size, 5, none⟩ (.float .f32 r5)).setCell ⟨w.heap.size, 6, none⟩ (.float .f32 r6)).setCell ⟨w.heap.size, 7, none⟩ (.float .f32 r7))) (by rw [Below.heap_setCell _ _ _ _ (Ne.symm hpg), Below.heap_setCell _ _ _ _ (Ne.symm hpg), Below.heap_setCell _ _ _ _ (Ne.symm hpg), Below.heap_setCell _ _ _ _ (Ne.symm hpg), Below.heap_setCell _ _ _ _ (Ne.symm hpg), Below.heap_setCell _ _ _ _ (Ne.symm hpg), Below.heap_setCell _ _ _ _ (Ne.symm hpg), Below.heap_setCell _ _ _ _ (Ne.symm hpg)])).push (by rw [HRl.out]; exact hlt) u1
                rw [HRl.out] at hhw
                have hdw := hd1.same (wr' := (((((((((w1.setCell ⟨w.heap.size, 0, none⟩ (.float .f32 r0)).setCell ⟨w.heap.size, 1, none⟩ (.float .f32 r1)).setCell ⟨w.heap.size, 2, none⟩ (.float .f32 r2)).setCell ⟨w.heap.size, 3, none⟩ (.float .f32 r3)).setCell ⟨w.heap.size, 4, none⟩ (.float .f32 r4)).setCell ⟨w.heap.size, 5, none⟩ (.float .f32 r5)).setCell ⟨w.heap.size, 6, none⟩ (.float .f32 r6)).setCell ⟨w.heap.size, 7, none⟩ (.float .f32 r7)).setCell ⟨g2, k, none⟩ (.float .f32 u1))) (by simp [World.setCell]) (by
                  have hgp : g1 ≠ w.heap.size := by omega
                  rw [Below.heap_setCell _ _ _ _ hg12, Below.heap_setCell _ _ _ _ hgp, Below.heap_setCell _ _ _ _ hgp, Below.heap_setCell _ _ _ _ hgp, Below.heap_setCell _ _ _ _ hgp, Below.heap_setCell _ _ _ _ hgp, Below.heap_setCell _ _ _ _ hgp, Below.heap_setCell _ _ _ _ hgp, Below.heap_setCell _ _ _ _ hgp])
                have hbz := (((((((((hbw.setCell (p := ⟨w.heap.size, 0, none⟩) (Nat.le_refl _) (.float .f32 r0)).setCell (p := ⟨w.heap.size, 1, none⟩) (Nat.le_refl _) (.float .f32 r1)).setCell (p := ⟨w.heap.size, 2, none⟩) (Nat.le_refl _) (.float .f32 r2)).setCell (p := ⟨w.heap.size, 3, none⟩) (Nat.le_refl _) (.float .f32 r3)).setCell (p := ⟨w.heap.size, 4, none⟩) (Nat.le_refl _) (.float .f32 r4)).setCell (p := ⟨w.heap.size, 5, none⟩) (Nat.le_refl _) (.float .f32 r5)).setCell (p := ⟨w.heap.size, 6, none⟩) (Nat.le_refl _) (.float .f32 r6)).setCell (p := ⟨w.heap.size, 7, none⟩) (Nat.le_refl _) (.float .f32 r7))).setCell (p := ⟨g2, k, none⟩) (by show w.heap.size ≤ g2; omega) (.float .f32 u1)
                have HNw := Lib.hid hnw
                have HHw := Lib.hid hhw
                have HDw := Lib.hid hdw
                have HBz := Lib.hid hbz
                have HV := Lib.hid hv
                clear hd1 hbw hnw hhw hdw hbz hx1 hh1 hb3 hv hR y0 y1 y2 y3 y4 y5 y6 y7 z0 z1 z2 z3 z4 z5 z6 z7 hcell hfz x0 x1 x2 x3 x4 x5 x6 x7 HN HH HD HB
                go_wp2_with fail
                go_meet
                case rel =>
                  refine ⟨by rw [HSt.out.1], Lib.hid (fun hO => ?_), HDw, HBz⟩
                  rw [HSt.out.1] at hO
                  obtain ⟨e1, e5⟩ := HV.out hO
                  rw [HSt.out.2.1, HSt.out.2.2, ← e1, ← e5]
                  exact ⟨HNw.out, HHw.out⟩
            case rest =>
              obtain ⟨rfl, hnh, hmd1, hbel1⟩ := hcut
              have hHr := Lib.hid hhd.out
              clear hnx hmd hhd hbel HSt
              cases hO : trO a b c d s t u v zs ss k
              · have HF := Lib.hid (show trAll a b c d s t u v zs ss = false by rw [HAl.out]; exact okn_bad hlt hO)
                clear hO hnh hmd1
                go_wp2
                go_ret3
                exact ⟨_, _, by rw [HF.out]; rfl, hbel1.out, fun hh => absurd hh (by rw [HF.out]; simp), fun _ => ⟨rfl, rfl⟩⟩
              · obtain ⟨hn2, hh2⟩ := hnh.out hO
                have HOk := Lib.hid (show okn (trO a b c d s t u v zs ss) (k + 1) = true by rw [okn_succ, hok.out, hO]; rfl)
                obtain ⟨N0, N1, N2, N3, N4, hTW⟩ : ∃ N0 N1 N2 N3 N4, trW a b c d s t u v zs ss (k + 1) = [N0, N1, N2, N3, N4, t, u, v] := ⟨_, _, _, _, _, rfl⟩
                obtain ⟨N5, h5⟩ : ∃ N5, t = N5 := ⟨_, rfl⟩
                obtain ⟨N6, h6⟩ : ∃ N6, u = N6 := ⟨_, rfl⟩
                obtain ⟨N7, h7⟩ : ∃ N7, v = N7 := ⟨_, rfl⟩
                rw [hTW] at hn2
                obtain ⟨x0, x1, x2, x3, x4, x5, x6, x7⟩ := hn2.c8
                obtain ⟨v0, hv0⟩ := hmd1.out.ex (k * 8) (by omega)
                have hf0 := hmd1.out.fz (k * 8)
                obtain ⟨v1, hv1⟩ := hmd1.out.ex (k * 8 + 1) (by omega)
                have hf1 := hmd1.out.fz (k * 8 + 1)
                obtain ⟨v2, hv2⟩ := hmd1.out.ex (k * 8 + 2) (by omega)
                have hf2 := hmd1.out.fz (k * 8 + 2)
                obtain ⟨v3, hv3⟩ := hmd1.out.ex (k * 8 + 3) (by omega)
                have hf3 := hmd1.out.fz (k * 8 + 3)
                obtain ⟨v4, hv4⟩ := hmd1.out.ex (k * 8 + 4) (by omega)
                have hf4 := hmd1.out.fz (k * 8 + 4)
                obtain ⟨v5, hv5⟩ := hmd1.out.ex (k * 8 + 5) (by omega)
                have hf5 := hmd1.out.fz (k * 8 + 5)
                obtain ⟨v6, hv6⟩ := hmd1.out.ex (k * 8 + 6) (by omega)
                have hf6 := hmd1.out.fz (k * 8 + 6)
                obtain ⟨v7, hv7⟩ := hmd1.out.ex (k * 8 + 7) (by omega)
                have hf7 := hmd1.out.fz (k * 8 + 7)
                rename World => wy
                have hgp : w.heap.size ≠ g1 := by omega
                have HSt2 := Lib.hid (show Md8 g1 len2 (k + 1) (trF a b c d s t u v zs ss) ((((((((wy.setCell ⟨g1, k * 8, none⟩ (.float .f32 N0)).setCell ⟨g1, k * 8 + 1, none⟩ (.float .f32 N1)).setCell ⟨g1, k * 8 + 2, none⟩ (.float .f32 N2)).setCell ⟨g1, k * 8 + 3, none⟩ (.float .f32 N3)).setCell ⟨g1, k * 8 + 4, none⟩ (.float .f32 N4)).setCell ⟨g1, k * 8 + 5, none⟩ (.float .f32 t)).setCell ⟨g1, k * 8 + 6, none⟩ (.float .f32 u)).setCell ⟨g1, k * 8 + 7, none⟩ (.float .f32 v)) from by
                  have := hmd1.out.step hlt
                  simp only [show ∀ i, trF a b c d s t u v zs ss k i = [N0, N1, N2, N3, N4, t, u, v].getD i 0 from fun i => by unfold trF; rw [hTW]] at this
                  exact this)
                have HN2 := Lib.hid (show NumsIn ((((((((wy.setCell ⟨g1, k * 8, none⟩ (.float .f32 N0)).setCell ⟨g1, k * 8 + 1, none⟩ (.float .f32 N1)).setCell ⟨g1, k * 8 + 2, none⟩ (.float .f32 N2)).setCell ⟨g1, k * 8 + 3, none⟩ (.float .f32 N3)).setCell ⟨g1, k * 8 + 4, none⟩ (.float .f32 N4)).setCell ⟨g1, k * 8 + 5, none⟩ (.float .f32 t)).setCell ⟨g1, k * 8 + 6, none⟩ (.float .f32 u)).setCell ⟨g1, k * 8 + 7, none⟩ (.float .f32 v)) w.heap.size (trW a b c d s t u v zs ss (k + 1)) from by
                  rw [hTW]
                  exact (((((((hn2.set hgp).set hgp).set hgp).set hgp).set hgp).set hgp).set hgp).set hgp
)
                have HH2 := Lib.hid (hh2.same (w' := ((((((((wy.setCell ⟨g1, k * 8, none⟩ (.float .f32 N0)).setCell ⟨g1, k * 8 + 1, none⟩ (.float .f32 N1)).setCell ⟨g1, k * 8 + 2, none⟩ (.float .f32 N2)).setCell ⟨g1, k * 8 + 3, none⟩ (.float .f32 N3)).setCell ⟨g1, k * 8 + 4, none⟩ (.float .f32 N4)).setCell ⟨g1, k * 8 + 5, none⟩ (.float .f32 t)).setCell ⟨g1, k * 8 + 6, none⟩ (.float .f32 u)).setCell ⟨g1, k * 8 + 7, none⟩ (.float .f32 v))) (by
                  rw [Below.heap_setCell _ _ _ _ (Ne.symm hg12), Below.heap_setCell _ _ _ _ (Ne.symm hg12), Below.heap_setCell _ _ _ _ (Ne.symm hg12), Below.heap_setCell _ _ _ _ (Ne.symm hg12), Below.heap_setCell _ _ _ _ (Ne.symm hg12), Below.heap_setCell _ _ _ _ (Ne.symm hg12), Below.heap_setCell _ _ _ _ (Ne.symm hg12), Below.heap_setCell _ _ _ _ (Ne.symm hg12)]))
                have HB2 := Lib.hid ((((((((hbel1.out.setCell (p := ⟨g1, k * 8, none⟩) (by show w.heap.size ≤ g1; omega) (.float .f32 N0)).setCell (p := ⟨g1, k * 8 + 1, none⟩) (by show w.heap.size ≤ g1; omega) (.float .f32 N1)).setCell (p := ⟨g1, k * 8 + 2, none⟩) (by show w.heap.size ≤ g1; omega) (.float .f32 N2)).setCell (p := ⟨g1, k * 8 + 3, none⟩) (by show w.heap.size ≤ g1; omega) (.float .f32 N3)).setCell (p := ⟨g1, k * 8 + 4, none⟩) (by show w.heap.size ≤ g1; omega) (.float .f32 N4)).setCell (p := ⟨g1, k * 8 + 5, none⟩) (by show w.heap.size ≤ g1; omega) (.float .f32 t)).setCell (p := ⟨g1, k * 8 + 6, none⟩) (by show w.heap.size ≤ g1; omega) (.float .f32 u)).setCell (p := ⟨g1, k * 8 + 7, none⟩) (by show w.heap.size ≤ g1; omega) (.float .f32 v))
                have HSt3 := HSt2
                clear hTW h5 h6 h7
                have HRn := Lib.hid (show rs ++ [trQ a b c d s t u v zs ss k] = tells (trQ a b c d s t u v zs ss) (k + 1) by rw [tells_succ, hrs.out])
                have HLn := Lib.hid (show (rs ++ [trQ a b c d s t u v zs ss k]).length = k + 1 by rw [List.length_append, hrl.out]; rfl)
                clear hO hn2 hh2 hnh hmd1 hbel1 hok hrs hrl hHr
                go_wp2
                go_roundw
                case rel => exact ⟨k + 1, _, by omega, by go_num, HLn, HN2, HSt3, HH2, HRn, HOk, HB2⟩
                case measure => simp [intOf]; omega
          · have e : k = len2 := by omega
            have HT := Lib.hid (show trAll a b c d s t u v zs ss = true from by rw [HAl.out, ← e]; exact hok.out)
            have HMd := Lib.hid (show Md8 g1 len2 len2 (trF a b c d s t u v zs ss) wr from by rw [e] at hmd; exact hmd.out)
            have HFs := Lib.hid (show FOwn 32 w.heap.size wr (.slice (some ⟨g2, 0, none⟩) len2 len2) (tells (trQ a b c d s t u v zs ss) len2) from by
              have := (hhd.out.own (by rw [hrl.out]; exact e) (Nat.le_refl _) (by unfold maxLen; omega)).mono (show w.heap.size ≤ g2 by omega)
              rw [hrs.out, e] at this
              exact this)
            have HLz := Lib.hid HL.out
            clear e hmd hhd hrs hok hnx hrl
            go_wp2
            go_ret3
            refine ⟨_, _, by rw [HT.out]; rfl, hbel.out, fun _ => ⟨g1, g2, by rw [HLz.out]; rfl, by rw [HLz.out]; rfl, ?_, ?_⟩, fun hh => absurd hh (by rw [HT.out]; simp)⟩
            · rw [HLz.out]; exact HMd.out
            · rw [HLz.out]; exact HFs.out
    · have hne : ((len2 : Int) != (len : Int)) = true := by rw [bne_iff_ne]; omega
      have HB := Lib.hid (show trAll a b c d s t u v zs ss = false by unfold trAll lvPre; rw [hs, HL.out, HL2.out, decide_eq_false he]; rfl)
      clear hs
      go_enter Try.func92, Try.ntmps92
      go_wp2_with (go_at_call 67; refine (implSeries_any _ _ _ _ _ H.out hm).mono ?_; rw [HS.out]; rintro e w' ⟨m, rfl, rfl⟩)
      go_ret3
      exact ⟨_, _, by rw [HB.out]; rfl, below_drewN HB0.out _, fun hh => absurd hh (by rw [HB.out]; simp), fun _ => ⟨rfl, rfl⟩⟩
end Go.Proofs.Ytldaamgohdnjnaa

/-
  TrendRun of the program.
-/
namespace Go.Proofs.Ytldaamgohdnjnaa
open Ieee Go.RowKit
set_option linter.unusedVariables false

section
variable (a b c d s t u v : Nat) (zs : List Nat) (ss : List Bool)
def trX : List Nat := if trAll a b c d s t u v zs ss then tells (trQ a b c d s t u v zs ss) zs.length else []
def trZ (i : Nat) : Nat := if trAll a b c d s t u v zs ss then cn .f32 ((trW a b c d s t u v zs ss zs.length).getD i 0) else 0
end
section
variable {a b c d s t u v : Nat} {zs : List Nat} {ss : List Bool}
theorem tr_bad (h : trAll a b c d s t u v zs ss = false) : trX a b c d s t u v zs ss = [] ∧ trZ a b c d s t u v zs ss = fun _ => 0 := ⟨by unfold trX; rw [h]; rfl, by funext i; unfold trZ; rw [h]; rfl⟩
theorem tr_ser (h : trAll a b c d s t u v zs ss = true) : 1 ≤ zs.length ∧ zs.length ≤ 96 ∧ okn (trO a b c d s t u v zs ss) zs.length = true := by
  unfold trAll lvPre at h
  have h1 := (Bool.and_eq_true _ _ ▸ h).1
  have h2 := (Bool.and_eq_true _ _ ▸ h1).1
  exact ⟨(serB_t h2).1, (serB_t h2).2.1, (Bool.and_eq_true _ _ ▸ h).2⟩
theorem cnl_fins {rs : List Nat} (hr : fins rs = true) : cnl rs = rs := by
  unfold cnl
  conv => rhs; rw [← List.map_id rs]
  unfold fins at hr
  exact List.map_congr_left fun x hx => (fin_wd rfl ((fin_congr (cn_cn .f32 x)).trans (List.all_eq_true.1 hr x hx))).symm
theorem tr_good (h : trAll a b c d s t u v zs ss = true) : trX a b c d s t u v zs ss = tells (trQ a b c d s t u v zs ss) zs.length ∧ cnl (tells (trQ a b c d s t u v zs ss) zs.length) = tells (trQ a b c d s t u v zs ss) zs.length ∧ (∀ i, trZ a b c d s t u v zs ss i = cn .f32 ((trW a b c d s t u v zs ss zs.length).getD i 0)) := by
  refine ⟨by unfold trX; rw [h]; rfl, cnl_fins ?_, fun i => by unfold trZ; rw [h]; rfl⟩
  have ho := okn_t (tr_ser h).2.2
  unfold fins tells
  rw [List.all_map, List.all_eq_true]
  intro k hk
  have h1 := ho k (by simpa using hk)
  exact (tsOk_t h1).2.2.2.2.2.2.2.2
theorem trX_len : (trX a b c d s t u v zs ss).length ≤ 1048576 := by
  unfold trX
  split
  · rename_i h
    have := (tr_ser h).2.1
    rw [tells_len]; omega
  · simp
end
/-- A trend, a list and a bool. -/
def RetTL (T : TypeId) (X : List Nat) (Z : Nat → Nat) (ok : Bool) (w : World) (e : Ending) (w' : World) : Prop :=
  ∃ t0 t1 t2 t3 t4 t5 t6 t7 v0 r0, e = .returned (.tuple #[.agg #[.float .f32 t0, .float .f32 t1, .float .f32 t2, .float .f32 t3, .float .f32 t4, .float .f32 t5, .float .f32 t6, .float .f32 t7], v0, .bool ok]) ∧ FOwn T w.heap.size w' v0 r0 ∧ cnl r0 = X ∧
    (cn .f32 t0 = Z 0 ∧ cn .f32 t1 = Z 1 ∧ cn .f32 t2 = Z 2 ∧ cn .f32 t3 = Z 3 ∧ cn .f32 t4 = Z 4 ∧ cn .f32 t5 = Z 5 ∧ cn .f32 t6 = Z 6 ∧ cn .f32 t7 = Z 7) ∧ Below w.heap.size w w'
theorem fail_tl (T : TypeId) {X : List Nat} {Z : Nat → Nat} {ok : Bool} (hok : ok = false) (h0 : X = []) (hz : Z = fun _ => 0) {w w' : World} (hb : Below w.heap.size w w') :
    RetTL T X Z ok w (.returned (.tuple #[.agg #[.float .f32 0, .float .f32 0, .float .f32 0, .float .f32 0, .float .f32 0, .float .f32 0, .float .f32 0, .float .f32 0], .slice none 0 0, .bool false])) w' :=
  ⟨0, 0, 0, 0, 0, 0, 0, 0, _, [], by rw [hok], FOwn.nil .., h0.symm, by rw [hz]; exact ⟨cn_zero, cn_zero, cn_zero, cn_zero, cn_zero, cn_zero, cn_zero, cn_zero⟩, hb⟩
theorem RetTL.res {T : TypeId} {X0 x0 : List Nat} {Z : Nat → Nat} {y0 : Nat} {ok : Bool} {w : World} {e : Ending} {w' : World} (h : RetTL T X0 Z ok w e w') (hx0 : X0 = x0) (hy0 : x0.length = y0) :
    ∃ t0 t1 t2 t3 t4 t5 t6 t7 A0 c0 d0 r0, e = .returned (.tuple #[.agg #[.float .f32 t0, .float .f32 t1, .float .f32 t2, .float .f32 t3, .float .f32 t4, .float .f32 t5, .float .f32 t6, .float .f32 t7], .slice A0 y0 c0, .bool ok]) ∧ (Held w' A0 d0 y0 r0 ∧ cnl r0 = x0 ∧ w.heap.size ≤ d0) ∧
      (cn .f32 t0 = Z 0 ∧ cn .f32 t1 = Z 1 ∧ cn .f32 t2 = Z 2 ∧ cn .f32 t3 = Z 3 ∧ cn .f32 t4 = Z 4 ∧ cn .f32 t5 = Z 5 ∧ cn .f32 t6 = Z 6 ∧ cn .f32 t7 = Z 7) ∧ Below w.heap.size w w' := by
  obtain ⟨t0, t1, t2, t3, t4, t5, t6, t7, v0, r0, rfl, o0, e0, hz, hb⟩ := h
  subst hx0
  obtain ⟨A0, c0, d0, rfl, g0, q0, b0, f0⟩ := o0.resn (far := w'.heap.size) e0 hy0 hb.size
  exact ⟨t0, t1, t2, t3, t4, t5, t6, t7, A0, c0, d0, r0, rfl, ⟨g0, e0, q0⟩, hz, hb⟩
set_option maxHeartbeats 4000000 in
set_option maxRecDepth 100000 in
theorem imTr_any (a b c d s t u v : Nat) (a1 : Option Addr) (len cap : Nat) (zs : List Nat) (a2 : Option Addr) (len2 cap2 : Nat) (ss : List Bool) (w : World) (h : FSl w a1 len zs) (h2 : BSl w a2 len2 ss) (hm : len ≤ 1048576) (hm2 : len2 ≤ 1048576) :
    Calls Try.prog 37 #[.agg #[.float .f32 a, .float .f32 b, .float .f32 c, .float .f32 d, .float .f32 s, .float .f32 t, .float .f32 u, .float .f32 v], .slice a1 len cap, .slice a2 len2 cap2] w (RetTL 32 (trX a b c d s t u v zs ss) (trZ a b c d s t u v zs ss) (trAll a b c d s t u v zs ss) w) := by
  have HRES := Lib.hid (show Try.f37.results = #[.cell 6 53, .tmp 7, .tmp 8] by kernel_rfl)
  have HL := Lib.hid h.1
  have hb0 := ((Below.refl w.heap.size w).alloc (Nat.le_refl _) (.cells #[.float .f32 a, .float .f32 b, .float .f32 c, .float .f32 d, .float .f32 s, .float .f32 t, .float .f32 u, .float .f32 v] 53)).alloc (by simp) (.cells #[.float .f32 0, .float .f32 0, .float .f32 0, .float .f32 0, .float .f32 0, .float .f32 0, .float .f32 0, .float .f32 0] 53)
  have HB0 := Lib.hid hb0
  have H := Lib.hid (FSl.below h hb0)
  have H2 := Lib.hid (BSl.below h2 hb0)
  have HI := Lib.hid ((NumsIn.new w [a, b, c, d, s, t, u, v] 53).alloc (.cells #[.float .f32 0, .float .f32 0, .float .f32 0, .float .f32 0, .float .f32 0, .float .f32 0, .float .f32 0, .float .f32 0] 53))
  have HR := Lib.hid (show NumsIn ((w.alloc (.cells #[.float .f32 a, .float .f32 b, .float .f32 c, .float .f32 d, .float .f32 s, .float .f32 t, .float .f32 u, .float .f32 v] 53)).alloc (.cells #[.float .f32 0, .float .f32 0, .float .f32 0, .float .f32 0, .float .f32 0, .float .f32 0, .float .f32 0, .float .f32 0] 53)) (w.heap.size + 1) [0, 0, 0, 0, 0, 0, 0, 0] from NumsIn.newAt (w.alloc (.cells #[.float .f32 a, .float .f32 b, .float .f32 c, .float .f32 d, .float .f32 s, .float .f32 t, .float .f32 u, .float .f32 v] 53)) [0, 0, 0, 0, 0, 0, 0, 0] 53 (p := w.heap.size + 1) (by simp))
  obtain ⟨x0, x1, x2, x3, x4, x5, x6, x7⟩ := HI.out.c8
  clear h h2 hb0
  cases hA : trAll a b c d s t u v zs ss
  · have HA := Lib.hid hA
    have HB := Lib.hid (tr_bad hA)
    clear hA
    go_enter Try.func37, Try.ntmps37
    go_wp2_with fail
    refine (bhT_any _ _ _ _ _ _ _ _ _ _ _ _ _ _ _ _ _ H.out H2.out hm hm2).mono ?_
    rintro e w1 ⟨v0, v1, rfl, hb, _, hv⟩
    rw [HA.out]
    obtain ⟨rfl, rfl⟩ := hv HA.out
    have HBl := Lib.hid (HB0.out.trans (hb.mono (by simp; omega)))
    have HR1 := Lib.hid (HR.out.below hb)
    clear hb hv x0 x1 x2 x3 x4 x5 x6 x7
    obtain ⟨r0, r1, r2, r3, r4, r5, r6, r7⟩ := HR1.out.c8
    obtain ⟨f0, f1, f2, f3, f4, f5, f6, f7⟩ := HR1.out.f8
    go_wp2
    (try simp only [Exit.inBlock, Exit.then])
    refine bodyPost_ret (v := .tuple #[.agg #[.float .f32 0, .float .f32 0, .float .f32 0, .float .f32 0, .float .f32 0, .float .f32 0, .float .f32 0, .float .f32 0], .slice none 0 0, .bool false]) ?_ rfl (fail_tl _ rfl HB.out.1 HB.out.2 ?_)
    · have hres := HRES.out
      simp only [results, hres]
      go_simp
    · exact ((((((((HBl.out.setCell (by show w.heap.size ≤ w.heap.size + 1; omega) _).setCell (by show w.heap.size ≤ w.heap.size + 1; omega) _).setCell (by show w.heap.size ≤ w.heap.size + 1; omega) _).setCell (by show w.heap.size ≤ w.heap.size + 1; omega) _).setCell (by show w.heap.size ≤ w.heap.size + 1; omega) _).setCell (by show w.heap.size ≤ w.heap.size + 1; omega) _).setCell (by show w.heap.size ≤ w.heap.size + 1; omega) _).setCell (by show w.heap.size ≤ w.heap.size + 1; omega) _)
  · have HA := Lib.hid hA
    have hl := tr_ser hA
    have HG := Lib.hid (tr_good hA)
    rw [HL.out] at hl
    have hl1 := hl.1
    have hl96 := hl.2.1
    have HLz := Lib.hid HL.out
    obtain ⟨n, rfl⟩ : ∃ n, len = n + 1 := ⟨len - 1, by omega⟩
    clear hA hl
    go_enter Try.func37, Try.ntmps37
    go_wp2_with fail
    refine (bhT_any _ _ _ _ _ _ _ _ _ _ _ _ _ _ _ _ _ H.out H2.out hm hm2).mono ?_
    rintro e w1 ⟨v0, v1, rfl, hb, hg, _⟩
    rw [HA.out]
    obtain ⟨g1, g2, rfl, rfl, hmd, hfs⟩ := hg HA.out
    rw [HLz.out] at hmd hfs ⊢
    have HBl := Lib.hid (HB0.out.trans (hb.mono (by simp; omega)))
    have hws := HBl.out.size
    have hgw : w.heap.size + 1 + 1 ≤ g2 := by have := (hfs.lt g2 rfl).1; simpa using this
    obtain ⟨N0, N1, N2, N3, N4, N5, N6, N7, hTW⟩ : ∃ N0 N1 N2 N3 N4 N5 N6 N7, trW a b c d s t u v zs ss (n + 1) = [N0, N1, N2, N3, N4, N5, N6, N7] := ⟨_, _, _, _, _, _, _, _, rfl⟩
    have y0 := hmd.set_ n (by omega) 0 (by omega)
    have y1 := hmd.set_ n (by omega) 1 (by omega)
    have y2 := hmd.set_ n (by omega) 2 (by omega)
    have y3 := hmd.set_ n (by omega) 3 (by omega)
    have y4 := hmd.set_ n (by omega) 4 (by omega)
    have y5 := hmd.set_ n (by omega) 5 (by omega)
    have y6 := hmd.set_ n (by omega) 6 (by omega)
    have y7 := hmd.set_ n (by omega) 7 (by omega)
    simp only [trF, hTW, Nat.add_zero] at y0 y1 y2 y3 y4 y5 y6 y7
    simp only [List.getD_cons_zero, List.getD_cons_succ] at y0 y1 y2 y3 y4 y5 y6 y7
    have HZ := Lib.hid (show ∀ i, trZ a b c d s t u v zs ss i = cn .f32 ([N0, N1, N2, N3, N4, N5, N6, N7].getD i 0) from fun i => by rw [HG.out.2.2, HLz.out, hTW])
    have HR1 := Lib.hid (HR.out.below hb)
    have HFs := Lib.hid (hfs.mono (show w.heap.size ≤ _ by simp; omega))
    have hidx : ((n + 1 : Nat) : Int) - 1 = (n : Int) := by omega
    clear hb hg x0 x1 x2 x3 x4 x5 x6 x7 hTW hmd hfs
    obtain ⟨r0, r1, r2, r3, r4, r5, r6, r7⟩ := HR1.out.c8
    obtain ⟨f0, f1, f2, f3, f4, f5, f6, f7⟩ := HR1.out.f8
    go_wp2
    (try simp only [Exit.inBlock, Exit.then])
    refine bodyPost_ret (v := .tuple #[.agg #[.float .f32 N0, .float .f32 N1, .float .f32 N2, .float .f32 N3, .float .f32 N4, .float .f32 N5, .float .f32 N6, .float .f32 N7], .slice (some ⟨g2, 0, none⟩) (n + 1) (n + 1), .bool true]) ?_ rfl ?_
    · have hres := HRES.out
      simp only [results, hres]
      go_simp
    · refine ⟨N0, N1, N2, N3, N4, N5, N6, N7, _, tells (trQ a b c d s t u v zs ss) (n + 1), rfl, ?_, ?_, ⟨(HZ.out 0).symm, (HZ.out 1).symm, (HZ.out 2).symm, (HZ.out 3).symm, (HZ.out 4).symm, (HZ.out 5).symm, (HZ.out 6).symm, (HZ.out 7).symm⟩, ?_⟩
      · refine (((((((HFs.out.setne ?_).setne ?_).setne ?_).setne ?_).setne ?_).setne ?_).setne ?_).setne ?_ <;> (intro e; simp [Value.ownBlock] at e; omega)
      · rw [HG.out.1, ← HLz.out]; exact HG.out.2.1
      · exact ((((((((HBl.out.setCell (by show w.heap.size ≤ w.heap.size + 1; omega) _).setCell (by show w.heap.size ≤ w.heap.size + 1; omega) _).setCell (by show w.heap.size ≤ w.heap.size + 1; omega) _).setCell (by show w.heap.size ≤ w.heap.size + 1; omega) _).setCell (by show w.heap.size ≤ w.heap.size + 1; omega) _).setCell (by show w.heap.size ≤ w.heap.size + 1; omega) _).setCell (by show w.heap.size ≤ w.heap.size + 1; omega) _).setCell (by show w.heap.size ≤ w.heap.size + 1; omega) _)
end Go.Proofs.Ytldaamgohdnjnaa

/-
  TrendRun of the model.
-/
namespace Go.Proofs.Ytldaamgohdnjnaa
open Ieee Go.RowKit
set_option linter.unusedVariables false

theorem tr_bad_pre {a b c d s t u v : Nat} {zs : List Nat} {ss : List Bool} (h : lvPre zs ss = false) : trAll a b c d s t u v zs ss = false := by unfold trAll; rw [h]; rfl
theorem tsOk_tn {z : Bool} {a b c d s t u v x : Nat} (h : tsOk a b c d s t u v x z = true) : tnB a b c d s t u v = true := by
  unfold tsOk tsB0 at h
  have h1 := (Bool.and_eq_true _ _ ▸ h).1
  exact (Bool.and_eq_true _ _ ▸ h1).1
theorem tr_bad_tn {a b c d s t u v : Nat} {zs : List Nat} {ss : List Bool} (h : tnB a b c d s t u v = false) : trAll a b c d s t u v zs ss = false := by
  cases hA : trAll a b c d s t u v zs ss
  · rfl
  · have h2 := okn_t (tr_ser hA).2.2 0 (by have := (tr_ser hA).1; omega)
    have h3 := tsOk_tn h2
    rw [show trS a b c d s t u v zs ss 0 = ⟨a, b, c, d, s⟩ from rfl, h] at h3
    cases h3
theorem cellFar8 {w : World} {b c o : Nat} {u0 u1 u2 u3 u4 u5 u6 u7 : Value} (h : c ≠ b) : (((((((((w.setCell ⟨b, 0, none⟩ u0).setCell ⟨b, 1, none⟩ u1).setCell ⟨b, 2, none⟩ u2).setCell ⟨b, 3, none⟩ u3).setCell ⟨b, 4, none⟩ u4).setCell ⟨b, 5, none⟩ u5).setCell ⟨b, 6, none⟩ u6).setCell ⟨b, 7, none⟩ u7)).cell? ⟨c, o, none⟩ = w.cell? ⟨c, o, none⟩ := by
  rw [cellFar h, cellFar h, cellFar h, cellFar h, cellFar h, cellFar h, cellFar h, cellFar h]
set_option maxHeartbeats 8000000 in
set_option maxRecDepth 100000 in
theorem spTr_any (a b c d s t u v : Nat) (a1 : Option Addr) (len cap : Nat) (zs : List Nat) (a2 : Option Addr) (len2 cap2 : Nat) (ss : List Bool) (w : World) (h : FSl w a1 len zs) (h2 : BSl w a2 len2 ss) (hm : len ≤ 1048576) (hm2 : len2 ≤ 1048576) :
    Calls Try.prog 35 #[.agg #[.float .f32 a, .float .f32 b, .float .f32 c, .float .f32 d, .float .f32 s, .float .f32 t, .float .f32 u, .float .f32 v], .slice a1 len cap, .slice a2 len2 cap2] w (RetTL 32 (trX a b c d s t u v zs ss) (trZ a b c d s t u v zs ss) (trAll a b c d s t u v zs ss) w) := by
  obtain ⟨i0, hi, hz0, hz1, hz2⟩ := info_parts Try.infoR
  have HRES := Lib.hid (show Try.f35.results = #[.cell 6 53, .tmp 7, .tmp 8] by kernel_rfl)
  have HL := Lib.hid h.1
  have HL2 := Lib.hid h2.1
  have hb0 := ((Below.refl w.heap.size w).alloc (Nat.le_refl _) (.cells #[.float .f32 a, .float .f32 b, .float .f32 c, .float .f32 d, .float .f32 s, .float .f32 t, .float .f32 u, .float .f32 v] 53)).alloc (by simp) (.cells #[.float .f32 0, .float .f32 0, .float .f32 0, .float .f32 0, .float .f32 0, .float .f32 0, .float .f32 0, .float .f32 0] 53)
  have HB0 := Lib.hid hb0
  have H := Lib.hid (FSl.below h hb0)
  have H2 := Lib.hid (BSl.below h2 hb0)
  have HO := Lib.hid h
  have HO2 := Lib.hid h2
  have HBx := Lib.hid ((NumsIn.new w [a, b, c, d, s, t, u, v] 53).alloc (.cells #[.float .f32 0, .float .f32 0, .float .f32 0, .float .f32 0, .float .f32 0, .float .f32 0, .float .f32 0, .float .f32 0] 53))
  have HR := Lib.hid (show NumsIn ((w.alloc (.cells #[.float .f32 a, .float .f32 b, .float .f32 c, .float .f32 d, .float .f32 s, .float .f32 t, .float .f32 u, .float .f32 v] 53)).alloc (.cells #[.float .f32 0, .float .f32 0, .float .f32 0, .float .f32 0, .float .f32 0, .float .f32 0, .float .f32 0, .float .f32 0] 53)) (w.heap.size + 1) [0, 0, 0, 0, 0, 0, 0, 0] from NumsIn.newAt (w.alloc (.cells #[.float .f32 a, .float .f32 b, .float .f32 c, .float .f32 d, .float .f32 s, .float .f32 t, .float .f32 u, .float .f32 v] 53)) [0, 0, 0, 0, 0, 0, 0, 0] 53 (p := w.heap.size + 1) (by simp))
  clear h h2 hb0
  cases hv : tnB a b c d s t u v
  · have HV := Lib.hid hv
    have HB := Lib.hid (tr_bad (tr_bad_tn (zs := zs) (ss := ss) hv))
    have HA := Lib.hid (tr_bad_tn (zs := zs) (ss := ss) hv)
    clear hv
    go_enter Try.func35, Try.ntmps35
    go_wp2_with fail
    refine (sptn_any _ _ _ _ _ _ _ _ _ _ HBx.out).mono ?_
    rw [HV.out]
    rintro e w' ⟨m, rfl, rfl⟩
    obtain ⟨rc0, rc1, rc2, rc3, rc4, rc5, rc6, rc7⟩ := (HR.out.drewN m).c8
    obtain ⟨rf0, rf1, rf2, rf3, rf4, rf5, rf6, rf7⟩ := (HR.out.drewN m).f8
    go_wp2
    (try simp only [Exit.inBlock, Exit.then])
    refine bodyPost_ret (v := .tuple #[.agg #[.float .f32 0, .float .f32 0, .float .f32 0, .float .f32 0, .float .f32 0, .float .f32 0, .float .f32 0, .float .f32 0], .slice none 0 0, .bool false]) ?_ rfl (fail_tl _ HA.out HB.out.1 HB.out.2 ?_)
    · have hres := HRES.out
      simp only [results, hres]
      go_simp
    · exact (((((((((below_drewN HB0.out _).setCell (p := ⟨w.heap.size + 1, 0, none⟩) (by show w.heap.size ≤ w.heap.size + 1; omega) _).setCell (p := ⟨w.heap.size + 1, 1, none⟩) (by show w.heap.size ≤ w.heap.size + 1; omega) _).setCell (p := ⟨w.heap.size + 1, 2, none⟩) (by show w.heap.size ≤ w.heap.size + 1; omega) _).setCell (p := ⟨w.heap.size + 1, 3, none⟩) (by show w.heap.size ≤ w.heap.size + 1; omega) _).setCell (p := ⟨w.heap.size + 1, 4, none⟩) (by show w.heap.size ≤ w.heap.size + 1; omega) _).setCell (p := ⟨w.heap.size + 1, 5, none⟩) (by show w.heap.size ≤ w.heap.size + 1; omega) _).setCell (p := ⟨w.heap.size + 1, 6, none⟩) (by show w.heap.size ≤ w.heap.size + 1; omega) _).setCell (p := ⟨w.heap.size + 1, 7, none⟩) (by show w.heap.size ≤ w.heap.size + 1; omega) _)
  · have HV := Lib.hid hv
    cases hp : lvPre zs ss
    · have HP := Lib.hid hp
      have HB := Lib.hid (tr_bad (tr_bad_pre (a := a) (b := b) (c := c) (d := d) (s := s) (t := t) (u := u) (v := v) hp))
      have HA := Lib.hid (tr_bad_pre (a := a) (b := b) (c := c) (d := d) (s := s) (t := t) (u := u) (v := v) hp)
      clear hv hp
      go_enter Try.func35, Try.ntmps35
      go_wp2_with fail
      refine (sptn_any _ _ _ _ _ _ _ _ _ _ HBx.out).mono ?_
      rw [HV.out]
      rintro e w' ⟨m, rfl, rfl⟩
      go_wp2_with fail
      refine (seen_any _ _ _ _ _ _ _ _ _ (FSl.drewN H.out m) (BSl.drewN H2.out m) hm).mono ?_
      rw [HP.out]
      rintro e w' ⟨m2, rfl, rfl⟩
      obtain ⟨rc0, rc1, rc2, rc3, rc4, rc5, rc6, rc7⟩ := ((HR.out.drewN m).drewN m2).c8
      obtain ⟨rf0, rf1, rf2, rf3, rf4, rf5, rf6, rf7⟩ := ((HR.out.drewN m).drewN m2).f8
      go_wp2
      (try simp only [Exit.inBlock, Exit.then])
      refine bodyPost_ret (v := .tuple #[.agg #[.float .f32 0, .float .f32 0, .float .f32 0, .float .f32 0, .float .f32 0, .float .f32 0, .float .f32 0, .float .f32 0], .slice none 0 0, .bool false]) ?_ rfl (fail_tl _ HA.out HB.out.1 HB.out.2 ?_)
      · have hres := HRES.out
        simp only [results, hres]
        go_simp
      · exact (((((((((below_drewN HB0.out _).setCell (p := ⟨w.heap.size + 1, 0, none⟩) (by show w.heap.size ≤ w.heap.size + 1; omega) _).setCell (p := ⟨w.heap.size + 1, 1, none⟩) (by show w.heap.size ≤ w.heap.size + 1; omega) _).setCell (p := ⟨w.heap.size + 1, 2, none⟩) (by show w.heap.size ≤ w.heap.size + 1; omega) _).setCell (p := ⟨w.heap.size + 1, 3, none⟩) (by show w.heap.size ≤ w.heap.size + 1; omega) _).setCell (p := ⟨w.heap.size + 1, 4, none⟩) (by show w.heap.size ≤ w.heap.size + 1; omega) _).setCell (p := ⟨w.heap.size + 1, 5, none⟩) (by show w.heap.size ≤ w.heap.size + 1; omega) _).setCell (p := ⟨w.heap.size + 1, 6, none⟩) (by show w.heap.size ≤ w.heap.size + 1; omega) _).setCell (p := ⟨w.heap.size + 1, 7, none⟩) (by show w.heap.size ≤ w.heap.size + 1; omega) _)
    · have HP := Lib.hid hp
      have hser : serB zs = true ∧ len2 = len := by
        unfold lvPre at hp
        have e2 := of_decide_eq_true (Bool.and_eq_true _ _ ▸ hp).2
        rw [HL.out, HL2.out] at e2
        exact ⟨(Bool.and_eq_true _ _ ▸ hp).1, e2⟩
      obtain ⟨hs, rfl⟩ := hser
      have hl96 := (serB_t hs).2.1
      have hl1 := (serB_t hs).1
      rw [HL.out] at hl96 hl1
      have HAl := Lib.hid (show trAll a b c d s t u v zs ss = okn (trO a b c d s t u v zs ss) len2 from by unfold trAll; rw [hp, HL.out]; rfl)
      have HNo := Lib.hid (fun k (hk : k < len2) (ho : trO a b c d s t u v zs ss k = false) => (show trAll a b c d s t u v zs ss = false by rw [HAl.out, okn_bad hk ho]))
      have HOf := Lib.hid (fun (W : World) (hW : W.heap.size = w.heap.size + 2) => (show FOwn 32 (w.heap.size + 2) (W.alloc (.cells #[] 32)) (.slice (some ⟨w.heap.size + 1 + 1, 0, none⟩) 0 0) [] from by
        have := FOwn.made (T := 32) (B := w.heap.size + 2) W (by omega)
        rwa [hW] at this))
      clear hv hp hs
      go_enter Try.func35, Try.ntmps35
      go_wp2_with fail
      refine (sptn_any _ _ _ _ _ _ _ _ _ _ HBx.out).mono ?_
      rw [HV.out]
      rintro e w' ⟨m, rfl, rfl⟩
      go_wp2_with fail
      refine (seen_any _ _ _ _ _ _ _ _ _ (FSl.drewN H.out m) (BSl.drewN H2.out m) hm).mono ?_
      rw [HP.out]
      rintro e w' ⟨m2, rfl, rfl⟩
      have HF0 := Lib.hid (HOf.out (((w.alloc (.cells #[.float .f32 a, .float .f32 b, .float .f32 c, .float .f32 d, .float .f32 s, .float .f32 t, .float .f32 u, .float .f32 v] 53)).alloc (.cells #[.float .f32 0, .float .f32 0, .float .f32 0, .float .f32 0, .float .f32 0, .float .f32 0, .float .f32 0, .float .f32 0] 53)).drewN (m + m2)) (by simp))
      have HX0 := Lib.hid ((HBx.out.drewN (m + m2)).alloc (.cells #[] 32))
      have HR0 := Lib.hid ((HR.out.drewN (m + m2)).alloc (.cells #[] 32))
      have HB1 := Lib.hid ((below_drewN HB0.out (m + m2)).alloc (by simp; omega) (.cells #[] 32))
      clear HOf
      go_wp2
      go_loopw [9, 26] (fun v0 i wr => ∃ (k : Nat) (rl : List Nat), k ≤ len2 ∧ i = .int .i64 k ∧ Hid (rl.length = k) ∧ Hid (NumsIn wr w.heap.size (trW a b c d s t u v zs ss k)) ∧ Hid (NumsIn wr (w.heap.size + 1) [0, 0, 0, 0, 0, 0, 0, 0]) ∧ Hid (FOwn 32 (w.heap.size + 2) wr v0 rl) ∧ Hid (rl = tells (trQ a b c d s t u v zs ss) k) ∧ Hid (okn (trO a b c d s t u v zs ss) k = true) ∧ Hid (Below w.heap.size w wr) ∧ w.heap.size + 1 < wr.heap.size) (fun _ i _ => len2 - (intOf i).toNat)
      case atStart => exact ⟨0, [], Nat.zero_le _, rfl, Lib.hid rfl, HX0, HR0, HF0, Lib.hid rfl, Lib.hid rfl, HB1, by simp⟩
      case round =>
        rename World => wr
        obtain ⟨k, rl, hk, rfl, hll, hnx, hr0, ho0, hrr, hok, hbel, hszz⟩ := hrel
        by_cases hlt : k < len2
        · obtain ⟨b1, off1, rfl, hb1, hc1⟩ := HO.out.at (by omega)
          obtain ⟨b2, off2, rfl, hb2, hc2⟩ := HO2.out.at (by omega)
          have hck := hc1 k hlt
          have hcs := hc2 k hlt
          rw [← hbel.out.cell (p := ⟨b1, off1 + k, none⟩) hb1] at hck
          rw [← hbel.out.cell (p := ⟨b2, off2 + k, none⟩) hb2] at hcs
          have HSt := Lib.hid (show trO a b c d s t u v zs ss k = tsOk (trS a b c d s t u v zs ss k).a (trS a b c d s t u v zs ss k).b (trS a b c d s t u v zs ss k).c (trS a b c d s t u v zs ss k).d (trS a b c d s t u v zs ss k).s t u v (zs.getD k 0) (ss.getD k false) ∧ trQ a b c d s t u v zs ss k = tsE (trS a b c d s t u v zs ss k).a (trS a b c d s t u v zs ss k).b ∧ trW a b c d s t u v zs ss (k + 1) = [uL (trS a b c d s t u v zs ss k).a (trS a b c d s t u v zs ss k).b (trS a b c d s t u v zs ss k).c (trS a b c d s t u v zs ss k).d (trS a b c d s t u v zs ss k).s t u (zs.getD k 0) (ss.getD k false), uS (trS a b c d s t u v zs ss k).a (trS a b c d s t u v zs ss k).b (trS a b c d s t u v zs ss k).c (trS a b c d s t u v zs ss k).d (trS a b c d s t u v zs ss k).s t u (zs.getD k 0) (ss.getD k false), uA (trS a b c d s t u v zs ss k).c (trS a b c d s t u v zs ss k).d (trS a b c d s t u v zs ss k).s t u (ss.getD k false), uB (trS a b c d s t u v zs ss k).c (trS a b c d s t u v zs ss k).d (trS a b c d s t u v zs ss k).s t u (ss.getD k false), uC (trS a b c d s t u v zs ss k).c (trS a b c d s t u v zs ss k).d (trS a b c d s t u v zs ss k).s t u v (ss.getD k false), t, u, v] from ⟨rfl, rfl, rfl⟩)
          unfold trW at hnx
          generalize zs.getD k 0 = x at *
          generalize ss.getD k false = y at *
          generalize trS a b c d s t u v zs ss k = Q at *
          obtain ⟨M0, M1, M2, M3, M4⟩ := Q
          simp only at hnx HSt
          have hb1w : b1 < wr.heap.size := by omega
          have hb2w : b2 < wr.heap.size := by omega
          clear hc1 hc2 hb1 hb2
          go_upto_region 7 with fail
          go_cut [11, 12, 13] (fun v14 v15 v16 wx => ∃ g q, v14 = .pointer (some ⟨g, 0, none⟩) ∧ v15 = .float .f32 q ∧ v16 = .bool (trO a b c d s t u v zs ss k) ∧ Hid (trO a b c d s t u v zs ss k = true → NumsIn wx g (trW a b c d s t u v zs ss (k + 1)) ∧ q = trQ a b c d s t u v zs ss k) ∧ g ≠ w.heap.size ∧ Hid (NumsIn wx w.heap.size [M0, M1, M2, M3, M4, t, u, v]) ∧ Hid (NumsIn wx (w.heap.size + 1) [0, 0, 0, 0, 0, 0, 0, 0]) ∧ Hid (FOwn 32 (w.heap.size + 2) wx u9 rl) ∧ Hid (Below w.heap.size w wx) ∧ w.heap.size + 1 < wx.heap.size)
          case first =>
            obtain ⟨x0, x1, x2, x3, x4, x5, x6, x7⟩ := hnx.out.c8
            have HN := Lib.hid hnx.out
            have HZ := Lib.hid hr0.out
            have HFa := Lib.hid ho0.out
            have HB := Lib.hid hbel.out
            have hq0 : w.heap.size ≠ wr.heap.size := by omega
            have hq1 : b1 ≠ wr.heap.size := by omega
            have hq2 : b2 ≠ wr.heap.size := by omega
            clear hnx hr0 ho0 hbel hrr hok hll
            go_wp2_with fail
            go_region_held3 (fun w' => w'.cell? ⟨w.heap.size, 0, none⟩ = some (.float .f32 M0) ∧ w'.cell? ⟨w.heap.size, 1, none⟩ = some (.float .f32 M1) ∧ w'.cell? ⟨w.heap.size, 2, none⟩ = some (.float .f32 M2) ∧ w'.cell? ⟨w.heap.size, 3, none⟩ = some (.float .f32 M3) ∧ w'.cell? ⟨w.heap.size, 4, none⟩ = some (.float .f32 M4) ∧ w'.cell? ⟨w.heap.size, 5, none⟩ = some (.float .f32 t) ∧ w'.cell? ⟨w.heap.size, 6, none⟩ = some (.float .f32 u) ∧ w'.cell? ⟨w.heap.size, 7, none⟩ = some (.float .f32 v) ∧ w'.cell? ⟨b1, off1 + k, none⟩ = some (.float .f32 x) ∧ w'.cell? ⟨b2, off2 + k, none⟩ = some (.bool y)) (first | (with_reducible exact ⟨k0, k1, k2, k3, k4, k5, k6, k7, k8, k9⟩) | (with_reducible exact ⟨(cellFar8 hq0).trans k0, (cellFar8 hq0).trans k1, (cellFar8 hq0).trans k2, (cellFar8 hq0).trans k3, (cellFar8 hq0).trans k4, (cellFar8 hq0).trans k5, (cellFar8 hq0).trans k6, (cellFar8 hq0).trans k7, (cellFar8 hq1).trans k8, (cellFar8 hq2).trans k9⟩) | go_keep)
              ((go_at_call 91; refine (spTns_any _ _ _ _ _ _ _ _ _ _ _).mono ?_; intro e w1 hR; obtain ⟨r0, r1, r2, r3, r4, r5, r6, r7, q1, rfl, hv, hb3⟩ := tsR_words hR; have hn1 : NumsIn w1 w.heap.size [M0, M1, M2, M3, M4, t, u, v] := NumsIn.below (by first | exact HN.out | exact HN.out.drewN _ | exact (HN.out.drewN 1).alloc _ | exact HN.out.alloc _) hb3; obtain ⟨k0, k1, k2, k3, k4, k5, k6, k7⟩ := hn1.c8; have k8 : w1.cell? ⟨b1, off1 + k, none⟩ = some (.float .f32 x) := (hb3.cell (p := ⟨b1, off1 + k, none⟩) (by simp; omega)).trans (by go_simp; first | assumption | done); have k9 : w1.cell? ⟨b2, off2 + k, none⟩ = some (.bool y) := (hb3.cell (p := ⟨b2, off2 + k, none⟩) (by simp; omega)).trans (by go_simp; first | assumption | done); have hws : wr.heap.size ≤ w1.heap.size := Nat.le_trans (by simp) hb3.size; first | (have hz : NumsIn w1 wr.heap.size [0, 0, 0, 0, 0, 0, 0, 0] := NumsIn.below (by first | exact NumsIn.new _ [0, 0, 0, 0, 0, 0, 0, 0] _ | exact (NumsIn.new _ [0, 0, 0, 0, 0, 0, 0, 0] _).drew | exact (NumsIn.new _ [0, 0, 0, 0, 0, 0, 0, 0] _).drewN _) hb3; obtain ⟨y0, y1, y2, y3, y4, y5, y6, y7⟩ := hz.c8; obtain ⟨z0, z1, z2, z3, z4, z5, z6, z7⟩ := hz.f8) | skip))
            all_goals
              have HV := Lib.hid hv
              have hzz1 : NumsIn w1 (w.heap.size + 1) [0, 0, 0, 0, 0, 0, 0, 0] := NumsIn.below (by first | exact HZ.out | exact HZ.out.drewN _ | exact (HZ.out.drewN 1).alloc _ | exact HZ.out.alloc _) hb3
              have hfa1 : FOwn 32 (w.heap.size + 2) w1 u9 rl := by first | exact FOwn.keepS (HFa.out.drewN 1) hb3 | exact FOwn.keepS ((HFa.out.alloc _).drewN 1) hb3
              have hbw1 : Below w.heap.size w w1 := by first | exact (below_drewN HB.out 1).trans (hb3.mono (by exact HB.out.size)) | exact (below_drewN (HB.out.alloc (by omega) _) 1).trans (hb3.mono (by simp; omega))
              have key : ∀ (wx : World) (g : Nat), NumsIn wx g [r0, r1, r2, r3, r4, r5, r6, r7] → trO a b c d s t u v zs ss k = true → NumsIn wx g (trW a b c d s t u v zs ss (k + 1)) ∧ q1 = trQ a b c d s t u v zs ss k := fun wx g hh hO => by
                rw [HSt.out.1] at hO
                obtain ⟨e1, e5⟩ := HV.out hO
                rw [HSt.out.2.1, HSt.out.2.2, ← e1, ← e5]
                exact ⟨hh, rfl⟩
              have HK := Lib.hid key
              have hna : u9.ownBlock ≠ some wr.heap.size := fun e => by have := (HFa.out.lt _ e).2; omega
              have hpw : w.heap.size ≠ wr.heap.size := by omega
              have hpw1 : w.heap.size + 1 ≠ wr.heap.size := by omega
              have Hn1 := Lib.hid hn1
              have Hz1 := Lib.hid hzz1
              have Ha := Lib.hid hfa1
              have Hw := Lib.hid hbw1
              have Hna := Lib.hid hna
              first
                | (have Hz := Lib.hid (show NumsIn ((((((((w1.setCell ⟨wr.heap.size, 0, none⟩ (.float .f32 r0)).setCell ⟨wr.heap.size, 1, none⟩ (.float .f32 r1)).setCell ⟨wr.heap.size, 2, none⟩ (.float .f32 r2)).setCell ⟨wr.heap.size, 3, none⟩ (.float .f32 r3)).setCell ⟨wr.heap.size, 4, none⟩ (.float .f32 r4)).setCell ⟨wr.heap.size, 5, none⟩ (.float .f32 r5)).setCell ⟨wr.heap.size, 6, none⟩ (.float .f32 r6)).setCell ⟨wr.heap.size, 7, none⟩ (.float .f32 r7)) wr.heap.size [r0, r1, r2, r3, r4, r5, r6, r7] from ((((((((hz.put (i := 0) (by simp) r0).put (i := 1) (by simp) r1).put (i := 2) (by simp) r2).put (i := 3) (by simp) r3).put (i := 4) (by simp) r4).put (i := 5) (by simp) r5).put (i := 6) (by simp) r6).put (i := 7) (by simp) r7)); clear hz y0 y1 y2 y3 y4 y5 y6 y7 z0 z1 z2 z3 z4 z5 z6 z7)
                | skip
              clear key hna hn1 hzz1 hfa1 hbw1 hv hR hb3 k0 k1 k2 k3 k4 k5 k6 k7 k8 k9 x0 x1 x2 x3 x4 x5 x6 x7 HN HZ HFa HB
              go_wp2_with fail
              go_meet
              case rel => first
                | exact ⟨_, _, rfl, rfl, by rw [HSt.out.1], Lib.hid (HK.out _ _ Hz.out), by omega, Lib.hid ((((((((Hn1.out.set hpw).set hpw).set hpw).set hpw).set hpw).set hpw).set hpw).set hpw), Lib.hid ((((((((Hz1.out.set hpw1).set hpw1).set hpw1).set hpw1).set hpw1).set hpw1).set hpw1).set hpw1), Lib.hid ((((((((Ha.out.setne Hna.out).setne Hna.out).setne Hna.out).setne Hna.out).setne Hna.out).setne Hna.out).setne Hna.out).setne Hna.out), Lib.hid ((((((((Hw.out.setCell (p := ⟨wr.heap.size, 0, none⟩) (by show w.heap.size ≤ wr.heap.size; omega) _).setCell (p := ⟨wr.heap.size, 1, none⟩) (by show w.heap.size ≤ wr.heap.size; omega) _).setCell (p := ⟨wr.heap.size, 2, none⟩) (by show w.heap.size ≤ wr.heap.size; omega) _).setCell (p := ⟨wr.heap.size, 3, none⟩) (by show w.heap.size ≤ wr.heap.size; omega) _).setCell (p := ⟨wr.heap.size, 4, none⟩) (by show w.heap.size ≤ wr.heap.size; omega) _).setCell (p := ⟨wr.heap.size, 5, none⟩) (by show w.heap.size ≤ wr.heap.size; omega) _).setCell (p := ⟨wr.heap.size, 6, none⟩) (by show w.heap.size ≤ wr.heap.size; omega) _).setCell (p := ⟨wr.heap.size, 7, none⟩) (by show w.heap.size ≤ wr.heap.size; omega) _), by simp [World.setCell]; omega⟩
                | exact ⟨_, _, rfl, rfl, by rw [HSt.out.1], Lib.hid (HK.out _ _ (NumsIn.new w1 [r0, r1, r2, r3, r4, r5, r6, r7] _)), by omega, Lib.hid (Hn1.out.alloc _), Lib.hid (Hz1.out.alloc _), Lib.hid (Ha.out.alloc _), Lib.hid (Hw.out.alloc (by omega) _), by simp; omega⟩
          case rest =>
            obtain ⟨g, q, rfl, rfl, rfl, hnu, hgp, hnp, hzp, hfa, hbx, hszx⟩ := hcut
            clear hnx hr0 ho0 hbel
            rename World => wx
            cases hO : trO a b c d s t u v zs ss k
            · have HA := Lib.hid (HNo.out k hlt hO)
              have HB := Lib.hid (tr_bad (HNo.out k hlt hO))
              clear hO hnu hnp hfa
              obtain ⟨rc0, rc1, rc2, rc3, rc4, rc5, rc6, rc7⟩ := hzp.out.c8
              obtain ⟨rf0, rf1, rf2, rf3, rf4, rf5, rf6, rf7⟩ := hzp.out.f8
              go_wp2
              (try simp only [Exit.inBlock, Exit.then])
              refine bodyPost_ret (v := .tuple #[.agg #[.float .f32 0, .float .f32 0, .float .f32 0, .float .f32 0, .float .f32 0, .float .f32 0, .float .f32 0, .float .f32 0], .slice none 0 0, .bool false]) ?_ rfl (fail_tl _ HA.out HB.out.1 HB.out.2 ?_)
              · have hres := HRES.out
                simp only [results, hres]
                go_simp
              · exact ((((((((hbx.out.setCell (p := ⟨w.heap.size + 1, 0, none⟩) (by show w.heap.size ≤ w.heap.size + 1; omega) _).setCell (p := ⟨w.heap.size + 1, 1, none⟩) (by show w.heap.size ≤ w.heap.size + 1; omega) _).setCell (p := ⟨w.heap.size + 1, 2, none⟩) (by show w.heap.size ≤ w.heap.size + 1; omega) _).setCell (p := ⟨w.heap.size + 1, 3, none⟩) (by show w.heap.size ≤ w.heap.size + 1; omega) _).setCell (p := ⟨w.heap.size + 1, 4, none⟩) (by show w.heap.size ≤ w.heap.size + 1; omega) _).setCell (p := ⟨w.heap.size + 1, 5, none⟩) (by show w.heap.size ≤ w.heap.size + 1; omega) _).setCell (p := ⟨w.heap.size + 1, 6, none⟩) (by show w.heap.size ≤ w.heap.size + 1; omega) _).setCell (p := ⟨w.heap.size + 1, 7, none⟩) (by show w.heap.size ≤ w.heap.size + 1; omega) _)
            · obtain ⟨hn2, rfl⟩ := hnu.out hO
              have HOk := Lib.hid (show okn (trO a b c d s t u v zs ss) (k + 1) = true by rw [okn_succ, hok.out, hO]; rfl)
              clear hO hnu
              obtain ⟨N0, N1, N2, N3, N4, N5, N6, N7, hTW⟩ : ∃ N0 N1 N2 N3 N4 N5 N6 N7, trW a b c d s t u v zs ss (k + 1) = [N0, N1, N2, N3, N4, N5, N6, N7] := ⟨_, _, _, _, _, _, _, _, rfl⟩
              rw [hTW] at hn2
              have HM2 := Lib.hid hTW
              have hr96 : rl.length ≤ 96 := by have := hll.out; omega
              have HLl := Lib.hid hll.out
              have HRr := Lib.hid (show rl ++ [trQ a b c d s t u v zs ss k] = tells (trQ a b c d s t u v zs ss) (k + 1) from by rw [tells_succ, hrr.out])
              obtain ⟨x0, x1, x2, x3, x4, x5, x6, x7⟩ := hn2.c8
              obtain ⟨y0, y1, y2, y3, y4, y5, y6, y7⟩ := hnp.out.c8
              obtain ⟨z0, z1, z2, z3, z4, z5, z6, z7⟩ := hnp.out.f8
              obtain ⟨ws, hws⟩ : ∃ ws, ((((((((wx.setCell ⟨w.heap.size, 0, none⟩ (.float .f32 N0)).setCell ⟨w.heap.size, 1, none⟩ (.float .f32 N1)).setCell ⟨w.heap.size, 2, none⟩ (.float .f32 N2)).setCell ⟨w.heap.size, 3, none⟩ (.float .f32 N3)).setCell ⟨w.heap.size, 4, none⟩ (.float .f32 N4)).setCell ⟨w.heap.size, 5, none⟩ (.float .f32 N5)).setCell ⟨w.heap.size, 6, none⟩ (.float .f32 N6)).setCell ⟨w.heap.size, 7, none⟩ (.float .f32 N7)) = ws := ⟨_, rfl⟩
              have hnp2 : NumsIn ws w.heap.size [N0, N1, N2, N3, N4, N5, N6, N7] := by
                rw [← hws]
                exact ((((((((hnp.out.put (i := 0) (by simp) N0).put (i := 1) (by simp) N1).put (i := 2) (by simp) N2).put (i := 3) (by simp) N3).put (i := 4) (by simp) N4).put (i := 5) (by simp) N5).put (i := 6) (by simp) N6).put (i := 7) (by simp) N7)
              have Hzs := Lib.hid (show NumsIn ws (w.heap.size + 1) [0, 0, 0, 0, 0, 0, 0, 0] from by
                rw [← hws]
                have hpp : w.heap.size + 1 ≠ w.heap.size := by omega
                exact ((((((((hzp.out.set hpp).set hpp).set hpp).set hpp).set hpp).set hpp).set hpp).set hpp))
              have Ha := Lib.hid (show FOwn 32 (w.heap.size + 2) ws u9 rl from by
                rw [← hws]
                exact ((((((((hfa.out.setp (by omega)).setp (by omega)).setp (by omega)).setp (by omega)).setp (by omega)).setp (by omega)).setp (by omega)).setp (by omega)))
              have Hw := Lib.hid (show Below w.heap.size w ws from by
                rw [← hws]
                exact ((((((((hbx.out.setCell (p := ⟨w.heap.size, 0, none⟩) (Nat.le_refl _) _).setCell (p := ⟨w.heap.size, 1, none⟩) (Nat.le_refl _) _).setCell (p := ⟨w.heap.size, 2, none⟩) (Nat.le_refl _) _).setCell (p := ⟨w.heap.size, 3, none⟩) (Nat.le_refl _) _).setCell (p := ⟨w.heap.size, 4, none⟩) (Nat.le_refl _) _).setCell (p := ⟨w.heap.size, 5, none⟩) (Nat.le_refl _) _).setCell (p := ⟨w.heap.size, 6, none⟩) (Nat.le_refl _) _).setCell (p := ⟨w.heap.size, 7, none⟩) (Nat.le_refl _) _))
              have hszs : w.heap.size + 1 < ws.heap.size := by rw [← hws]; simpa [World.setCell] using hszx
              have HNp := Lib.hid hnp2
              have HWs := Lib.hid hws
              clear hnp hzp hfa hbx hn2 hTW hll hrr hnp2 hws HSt
              go_upto_region 11 with fail
              rw [HWs.out]
              clear x0 x1 x2 x3 x4 x5 x6 x7 y0 y1 y2 y3 y4 y5 y6 y7 z0 z1 z2 z3 z4 z5 z6 z7 HWs
              generalize trQ a b c d s t u v zs ss k = qk at *
              go_wp2_with (at_builtin; refine wpList_append_lies _ rfl _ _ 22 rfl (w.heap.size + 2) 32 i0 (.float .f32 0) 1 4 Try.underlying22 hi hz0 hz1 hz2 rfl (by decide) _ _ _ rfl (World.ownsRow.alloc (FOwn.drewN Ha.out 0) _) ⟨ws.heap.size, 0, none⟩ 1 1 [_] rfl rfl (one_new rfl) ?c2 (by decide) ?c3 ?c4 ?c5 _ rfl ?_)
              case c2 => first | rfl | (intro u hu; simp at hu; subst hu; rfl)
              case c3 => unfold maxLen; omega
              case c4 => omega
              case c5 => first | omega | (simp; omega)
              intro ga ca w2 hown hgrow hat hglt
              have R := FOwn.push (n := 0) Ha.out (Below.refl _ _) (by omega) hown hgrow
              have Ha2 := Lib.hid R.1
              have hR2 := R.2
              have HNe := Lib.hid (show NumsIn w2 w.heap.size (trW a b c d s t u v zs ss (k + 1)) from by rw [HM2.out]; exact HNp.out.belowB hR2 (by omega))
              have Hze := Lib.hid (Hzs.out.belowB hR2 (by omega))
              have Hw2 := Lib.hid (Hw.out.trans (hR2.mono (by omega)))
              have hsz2 : w.heap.size + 1 < w2.heap.size := by have := hR2.size; omega
              have HLn := Lib.hid (show (rl ++ [qk]).length = k + 1 from by rw [List.length_append, HLl.out]; rfl)
              clear R hR2 hown hgrow hat hglt Ha Hw HNp Hzs HM2 HLl
              go_wp2
              go_roundw
              case rel => exact ⟨k + 1, _, by omega, by go_num, HLn, HNe, Hze, Ha2, HRr, HOk, Hw2, hsz2⟩
              case measure => simp [intOf]; omega
        · have e : k = len2 := by omega
          have HA := Lib.hid (show trAll a b c d s t u v zs ss = true by rw [HAl.out, ← e]; exact hok.out)
          have HG := Lib.hid (tr_good HA.out)
          obtain ⟨N0, N1, N2, N3, N4, N5, N6, N7, hTW⟩ : ∃ N0 N1 N2 N3 N4 N5 N6 N7, trW a b c d s t u v zs ss k = [N0, N1, N2, N3, N4, N5, N6, N7] := ⟨_, _, _, _, _, _, _, _, rfl⟩
          have HZ := Lib.hid (show ∀ i, trZ a b c d s t u v zs ss i = cn .f32 ([N0, N1, N2, N3, N4, N5, N6, N7].getD i 0) from fun i => by rw [HG.out.2.2, HL.out, ← e, hTW])
          have HC := Lib.hid (show cnl rl = trX a b c d s t u v zs ss from by rw [hrr.out, HG.out.1, e, ← HL.out]; exact HG.out.2.1)
          rw [hTW] at hnx
          obtain ⟨x0, x1, x2, x3, x4, x5, x6, x7⟩ := hnx.out.c8
          obtain ⟨y0, y1, y2, y3, y4, y5, y6, y7⟩ := hr0.out.c8
          obtain ⟨z0, z1, z2, z3, z4, z5, z6, z7⟩ := hr0.out.f8
          have HFo := Lib.hid ho0.out
          have HBl := Lib.hid hbel.out
          clear e hTW hnx hr0 hrr hok hll ho0 hbel
          go_wp2
          (try simp only [Exit.inBlock, Exit.then])
          refine bodyPost_ret (v := .tuple #[.agg #[.float .f32 N0, .float .f32 N1, .float .f32 N2, .float .f32 N3, .float .f32 N4, .float .f32 N5, .float .f32 N6, .float .f32 N7], u9, .bool true]) ?_ rfl ?_
          · have hres := HRES.out
            simp only [results, hres]
            go_simp
          · refine ⟨N0, N1, N2, N3, N4, N5, N6, N7, _, rl, by rw [HA.out], ?_, HC.out, ⟨(HZ.out 0).symm, (HZ.out 1).symm, (HZ.out 2).symm, (HZ.out 3).symm, (HZ.out 4).symm, (HZ.out 5).symm, (HZ.out 6).symm, (HZ.out 7).symm⟩, ?_⟩
            · exact (((((((((HFo.out.setp (by omega)).setp (by omega)).setp (by omega)).setp (by omega)).setp (by omega)).setp (by omega)).setp (by omega)).setp (by omega))).mono (by omega)
            · exact ((((((((HBl.out.setCell (p := ⟨w.heap.size + 1, 0, none⟩) (by show w.heap.size ≤ w.heap.size + 1; omega) _).setCell (p := ⟨w.heap.size + 1, 1, none⟩) (by show w.heap.size ≤ w.heap.size + 1; omega) _).setCell (p := ⟨w.heap.size + 1, 2, none⟩) (by show w.heap.size ≤ w.heap.size + 1; omega) _).setCell (p := ⟨w.heap.size + 1, 3, none⟩) (by show w.heap.size ≤ w.heap.size + 1; omega) _).setCell (p := ⟨w.heap.size + 1, 4, none⟩) (by show w.heap.size ≤ w.heap.size + 1; omega) _).setCell (p := ⟨w.heap.size + 1, 5, none⟩) (by show w.heap.size ≤ w.heap.size + 1; omega) _).setCell (p := ⟨w.heap.size + 1, 6, none⟩) (by show w.heap.size ≤ w.heap.size + 1; omega) _).setCell (p := ⟨w.heap.size + 1, 7, none⟩) (by show w.heap.size ≤ w.heap.size + 1; omega) _)
end Go.Proofs.Ytldaamgohdnjnaa


namespace Go.Proofs.Ytldaamgohdnjnaa.fnExactTrendRun
open Go.RowKit Ieee
set_option linter.unusedVariables false
set_option maxHeartbeats 4000000 in
set_option maxRecDepth 100000 in
theorem walk (x0_0 x0_1 x0_2 x0_3 x0_4 x0_5 x0_6 x0_7 : Nat) (a1 : Option Addr) (len1 cap1 : Nat) (z1 : List Nat) (a2 : Option Addr) (len2 cap2 : Nat) (z2 : List Bool) (w : World) (w1 : FRow w a1 len1 cap1 z1) (w2 : BRow w a2 len2 cap2 z2) :
    Calls Try.prog 7 #[.agg #[.float .f32 x0_0, .float .f32 x0_1, .float .f32 x0_2, .float .f32 x0_3, .float .f32 x0_4, .float .f32 x0_5, .float .f32 x0_6, .float .f32 x0_7], .slice a1 len1 cap1, .slice a2 len2 cap2] w fun e w' => e = .returned (.bool true) ∧ Below w.heap.size w w' := by
  obtain ⟨hs1, hlc1, hcm1, hb1⟩ := w1
  unfold maxLen at hcm1
  have H1 := Lib.hid hs1
  clear hs1
  obtain ⟨hs2, hlc2, hcm2⟩ := w2
  unfold maxLen at hcm2
  have H2 := Lib.hid hs2
  clear hs2
  by_cases hm1 : len1 ≤ 1048576
  rotate_left
  · clear H1 H2
    go_enter Try.func7, Try.ntmps7
    go_wp2_with fail
    all_goals (go_ret; exact ⟨rfl, ((Below.refl _ _).alloc (Nat.le_refl _) _)⟩)
  by_cases hm2 : len2 ≤ 1048576
  rotate_left
  · clear H1 H2
    go_enter Try.func7, Try.ntmps7
    go_wp2_with fail
    all_goals (go_ret; exact ⟨rfl, ((Below.refl _ _).alloc (Nat.le_refl _) _)⟩)
  obtain ⟨x0, hx0⟩ : ∃ x : List Nat, trX x0_0 x0_1 x0_2 x0_3 x0_4 x0_5 x0_6 x0_7 z1 z2 = x := ⟨_, rfl⟩
  have hX0 : x0.length ≤ 1048576 := by rw [← hx0]; exact trX_len
  obtain ⟨y0, hy0⟩ : ∃ y : Nat, x0.length = y := ⟨_, rfl⟩
  rw [hy0] at hX0
  have HX0 := Lib.hid hx0
  have HY0 := Lib.hid hy0
  clear hx0 hy0
  have G := Lib.hid ((Below.refl w.heap.size w).alloc (Nat.le_refl _) (.cells #[.float .f32 x0_0, .float .f32 x0_1, .float .f32 x0_2, .float .f32 x0_3, .float .f32 x0_4, .float .f32 x0_5, .float .f32 x0_6, .float .f32 x0_7] 52))
  have BX := Lib.hid (NumsIn.new w [x0_0, x0_1, x0_2, x0_3, x0_4, x0_5, x0_6, x0_7] 52)
  go_enter Try.func7, Try.ntmps7
  obtain ⟨kx0, kx1, kx2, kx3, kx4, kx5, kx6, kx7⟩ := BX.out.c8
  go_wp2_with fail
  refine (totn_any _ _ _ _ _ _ _ _ _).mono ?_
  rintro e u1 ⟨rfl, b⟩
  clear kx0 kx1 kx2 kx3 kx4 kx5 kx6 kx7
  have hsu1 : w.heap.size < u1.heap.size := Nat.lt_of_lt_of_le (by simp) b.size
  replace BX := Lib.hid (BX.out.below b)
  replace G := Lib.hid (G.out.trans (b.mono G.out.size))
  clear b
  go_wp2_with fail
  refine (toFt_any _ _ _ _ _ (FSl.below H1.out G.out) hm1).mono ?_
  rintro e u2 ⟨rfl, t, b, q2⟩
  replace BX := Lib.hid (BX.out.below b)
  replace G := Lib.hid (G.out.trans (b.mono G.out.size))
  have S1 := Lib.hid t
  have hsS1 : u1.heap.size < u2.heap.size := q2
  clear t b q2
  go_wp2_with fail
  refine (toBt_any _ _ _ _ _ (BSl.below H2.out G.out) hm2).mono ?_
  rintro e u3 ⟨rfl, t, b, q3⟩
  replace BX := Lib.hid (BX.out.below b)
  replace S1 := Lib.hid (S1.out.below b)
  replace G := Lib.hid (G.out.trans (b.mono G.out.size))
  have S2 := Lib.hid t
  have hsS2 : u2.heap.size < u3.heap.size := q3
  clear t b q3
  go_wp2_with fail
  refine (spTr_any _ _ _ _ _ _ _ _ _ _ _ _ _ _ _ _ _ S1.out.sl S2.out.sl hm1 hm2).mono ?_
  intro e u4 hR
  obtain ⟨vR_0, vR_1, vR_2, vR_3, vR_4, vR_5, vR_6, vR_7, AR0, cR0, dR0, rR0, rfl, ⟨t0, hc0, q4_0⟩, hmT, b⟩ := hR.res HX0.out HY0.out
  replace BX := Lib.hid (BX.out.below b)
  replace S1 := Lib.hid (S1.out.below b)
  replace S2 := Lib.hid (S2.out.below b)
  replace G := Lib.hid (G.out.trans (b.mono G.out.size))
  have R0 := Lib.hid t0
  have CR0 := Lib.hid hc0
  have hdR0 : u3.heap.size ≤ dR0 := q4_0
  have hlR0 : 0 < y0 → dR0 < u4.heap.size := t0.lt_
  have hzR : u3.heap.size ≤ u4.heap.size := b.size
  clear hR b t0 hc0 q4_0
  have MRT := Lib.hid hmT
  clear hmT
  have ba := (Below.refl u4.heap.size u4).alloc (Nat.le_refl _) (.cells #[.float .f32 vR_0, .float .f32 vR_1, .float .f32 vR_2, .float .f32 vR_3, .float .f32 vR_4, .float .f32 vR_5, .float .f32 vR_6, .float .f32 vR_7] 53)
  have saR : u4.heap.size < (u4.alloc (.cells #[.float .f32 vR_0, .float .f32 vR_1, .float .f32 vR_2, .float .f32 vR_3, .float .f32 vR_4, .float .f32 vR_5, .float .f32 vR_6, .float .f32 vR_7] 53)).heap.size := by simp
  replace BX := Lib.hid (BX.out.below ba)
  replace S1 := Lib.hid (S1.out.below ba)
  replace S2 := Lib.hid (S2.out.below ba)
  replace R0 := Lib.hid (R0.out.below ba)
  replace G := Lib.hid (G.out.trans (ba.mono G.out.size))
  clear ba
  have NR := Lib.hid (NumsIn.new u4 [vR_0, vR_1, vR_2, vR_3, vR_4, vR_5, vR_6, vR_7] 53)
  clear S1 S2
  go_wp2_with fail
  refine (toFt_any _ _ _ _ _ (FSl.below H1.out G.out) hm1).mono ?_
  rintro e u5 ⟨rfl, t, b, q5⟩
  replace BX := Lib.hid (BX.out.below b)
  replace R0 := Lib.hid (R0.out.below b)
  replace NR := Lib.hid (NR.out.below b)
  replace G := Lib.hid (G.out.trans (b.mono G.out.size))
  rw [show (u4.alloc (.cells #[.float .f32 vR_0, .float .f32 vR_1, .float .f32 vR_2, .float .f32 vR_3, .float .f32 vR_4, .float .f32 vR_5, .float .f32 vR_6, .float .f32 vR_7] 53)).heap.size = u4.heap.size + 1 by simp] at t
  have X1 := Lib.hid t
  have hsX1 : (u4.alloc (.cells #[.float .f32 vR_0, .float .f32 vR_1, .float .f32 vR_2, .float .f32 vR_3, .float .f32 vR_4, .float .f32 vR_5, .float .f32 vR_6, .float .f32 vR_7] 53)).heap.size < u5.heap.size := q5
  clear t b q5
  go_wp2_with fail
  refine (toBt_any _ _ _ _ _ (BSl.below H2.out G.out) hm2).mono ?_
  rintro e u6 ⟨rfl, t, b, q6⟩
  replace BX := Lib.hid (BX.out.below b)
  replace R0 := Lib.hid (R0.out.below b)
  replace NR := Lib.hid (NR.out.below b)
  replace X1 := Lib.hid (X1.out.below b)
  replace G := Lib.hid (G.out.trans (b.mono G.out.size))
  have X2 := Lib.hid t
  have hsX2 : u5.heap.size < u6.heap.size := q6
  clear t b q6
  obtain ⟨kx0, kx1, kx2, kx3, kx4, kx5, kx6, kx7⟩ := BX.out.c8
  go_wp2_with fail
  refine (totn_any _ _ _ _ _ _ _ _ _).mono ?_
  rintro e u7 ⟨rfl, b⟩
  clear kx0 kx1 kx2 kx3 kx4 kx5 kx6 kx7
  have hsu7 : u6.heap.size ≤ u7.heap.size := b.size
  replace BX := Lib.hid (BX.out.below b)
  replace R0 := Lib.hid (R0.out.below b)
  replace NR := Lib.hid (NR.out.below b)
  replace X1 := Lib.hid (X1.out.below b)
  replace X2 := Lib.hid (X2.out.below b)
  replace G := Lib.hid (G.out.trans (b.mono G.out.size))
  clear b
  go_wp2_with fail
  refine (imTr_any _ _ _ _ _ _ _ _ _ _ _ _ _ _ _ _ _ X1.out.sl X2.out.sl hm1 hm2).mono ?_
  intro e u8 hR
  obtain ⟨vQ_0, vQ_1, vQ_2, vQ_3, vQ_4, vQ_5, vQ_6, vQ_7, AQ0, cQ0, dQ0, rQ0, rfl, ⟨t0, hc0, q8_0⟩, hmT, b⟩ := hR.res HX0.out HY0.out
  replace BX := Lib.hid (BX.out.below b)
  replace R0 := Lib.hid (R0.out.below b)
  replace NR := Lib.hid (NR.out.below b)
  replace X1 := Lib.hid (X1.out.below b)
  replace X2 := Lib.hid (X2.out.below b)
  replace G := Lib.hid (G.out.trans (b.mono G.out.size))
  have Q0 := Lib.hid t0
  have CQ0 := Lib.hid hc0
  have hdQ0 : u7.heap.size ≤ dQ0 := q8_0
  have hlQ0 : 0 < y0 → dQ0 < u8.heap.size := t0.lt_
  have hzQ : u7.heap.size ≤ u8.heap.size := b.size
  clear hR b t0 hc0 q8_0
  have MQT := Lib.hid hmT
  clear hmT
  have ba := (Below.refl u8.heap.size u8).alloc (Nat.le_refl _) (.cells #[.float .f32 vQ_0, .float .f32 vQ_1, .float .f32 vQ_2, .float .f32 vQ_3, .float .f32 vQ_4, .float .f32 vQ_5, .float .f32 vQ_6, .float .f32 vQ_7] 53)
  have saQ : u8.heap.size < (u8.alloc (.cells #[.float .f32 vQ_0, .float .f32 vQ_1, .float .f32 vQ_2, .float .f32 vQ_3, .float .f32 vQ_4, .float .f32 vQ_5, .float .f32 vQ_6, .float .f32 vQ_7] 53)).heap.size := by simp
  replace BX := Lib.hid (BX.out.below ba)
  replace R0 := Lib.hid (R0.out.below ba)
  replace NR := Lib.hid (NR.out.below ba)
  replace X1 := Lib.hid (X1.out.below ba)
  replace X2 := Lib.hid (X2.out.below ba)
  replace Q0 := Lib.hid (Q0.out.below ba)
  replace G := Lib.hid (G.out.trans (ba.mono G.out.size))
  clear ba
  have NQ := Lib.hid (NumsIn.new u8 [vQ_0, vQ_1, vQ_2, vQ_3, vQ_4, vQ_5, vQ_6, vQ_7] 53)
  obtain ⟨ka0, ka1, ka2, ka3, ka4, ka5, ka6, ka7⟩ := NQ.out.c8
  obtain ⟨kb0, kb1, kb2, kb3, kb4, kb5, kb6, kb7⟩ := NR.out.c8
  go_wp2_with fail
  refine (eqtn_any _ _ _ _ _ _ _ _ _ _ _ _ _ _ _ _ _ (MQT.out.1.trans MRT.out.1.symm) (MQT.out.2.1.trans MRT.out.2.1.symm) (MQT.out.2.2.1.trans MRT.out.2.2.1.symm) (MQT.out.2.2.2.1.trans MRT.out.2.2.2.1.symm) (MQT.out.2.2.2.2.1.trans MRT.out.2.2.2.2.1.symm) (MQT.out.2.2.2.2.2.1.trans MRT.out.2.2.2.2.2.1.symm) (MQT.out.2.2.2.2.2.2.1.trans MRT.out.2.2.2.2.2.2.1.symm) (MQT.out.2.2.2.2.2.2.2.trans MRT.out.2.2.2.2.2.2.2.symm)).mono ?_
  rintro e u9 ⟨rfl, b⟩
  clear ka0 kb0 ka1 kb1 ka2 kb2 ka3 kb3 ka4 kb4 ka5 kb5 ka6 kb6 ka7 kb7
  have hsu9 : (u8.alloc (.cells #[.float .f32 vQ_0, .float .f32 vQ_1, .float .f32 vQ_2, .float .f32 vQ_3, .float .f32 vQ_4, .float .f32 vQ_5, .float .f32 vQ_6, .float .f32 vQ_7] 53)).heap.size ≤ u9.heap.size := b.size
  replace BX := Lib.hid (BX.out.below b)
  replace R0 := Lib.hid (R0.out.below b)
  replace NR := Lib.hid (NR.out.below b)
  replace X1 := Lib.hid (X1.out.below b)
  replace X2 := Lib.hid (X2.out.below b)
  replace Q0 := Lib.hid (Q0.out.below b)
  replace NQ := Lib.hid (NQ.out.below b)
  replace G := Lib.hid (G.out.trans (b.mono G.out.size))
  clear b
  go_wp2_with fail
  refine (eqF_any _ _ _ _ _ _ _ _ Q0.out.sl R0.out.sl hX0 (same_cny HY0.out CQ0.out CR0.out)).mono ?_
  rintro e w' ⟨n10, rfl, rfl⟩
  go_wp2_with fail
  refine (toFt_any _ _ _ _ _ (FSl.below H1.out (below_drewN G.out _)) hm1).mono ?_
  rintro e u11 ⟨rfl, t, b, q11⟩
  replace BX := Lib.hid ((BX.out.drewN _).below b)
  replace R0 := Lib.hid ((R0.out.drewN _).below b)
  replace NR := Lib.hid ((NR.out.drewN _).below b)
  replace X1 := Lib.hid ((X1.out.drewN _).below b)
  replace X2 := Lib.hid ((X2.out.drewN _).below b)
  replace Q0 := Lib.hid ((Q0.out.drewN _).below b)
  replace NQ := Lib.hid ((NQ.out.drewN _).below b)
  replace G := Lib.hid ((below_drewN G.out _).trans (b.mono G.out.size))
  have Y1 := Lib.hid t
  have hsY1 : u9.heap.size < u11.heap.size := q11
  clear t b q11
  go_wp2_with fail
  refine (eqF_any _ _ _ _ _ _ _ _ X1.out.sl Y1.out.sl hm1 (fun _ _ => rfl)).mono ?_
  rintro e w' ⟨n12, rfl, rfl⟩
  clear Y1
  go_wp2_with fail
  refine (toBt_any _ _ _ _ _ (BSl.below H2.out (below_drewN G.out _)) hm2).mono ?_
  rintro e u13 ⟨rfl, t, b, q13⟩
  replace BX := Lib.hid ((BX.out.drewN _).below b)
  replace R0 := Lib.hid ((R0.out.drewN _).below b)
  replace NR := Lib.hid ((NR.out.drewN _).below b)
  replace X1 := Lib.hid ((X1.out.drewN _).below b)
  replace X2 := Lib.hid ((X2.out.drewN _).below b)
  replace Q0 := Lib.hid ((Q0.out.drewN _).below b)
  replace NQ := Lib.hid ((NQ.out.drewN _).below b)
  replace G := Lib.hid ((below_drewN G.out _).trans (b.mono G.out.size))
  have Y2 := Lib.hid t
  have hsY2 : u11.heap.size < u13.heap.size := q13
  clear t b q13
  go_wp2_with fail
  refine (eqB_any _ _ _ _ _ _ _ X2.out.sl Y2.out.sl hm2).mono ?_
  rintro e w' ⟨n14, rfl, rfl⟩
  clear Y2
  go_wp2_with fail
  refine (markt_any 1 (X1.out.drewN _) hm1 (by omega)).mono ?_
  rintro e u15 ⟨rfl, o, m⟩
  replace BX := Lib.hid ((BX.out.drewN _).only o (by omega))
  replace R0 := Lib.hid ((R0.out.drewN _).only o (fun h0 => by (try have := hlR0 h0); (try have := hlQ0 h0); omega))
  replace NR := Lib.hid ((NR.out.drewN _).only o (by omega))
  replace X2 := Lib.hid ((X2.out.drewN _).only o (fun h0 => by (try have := hlR0 h0); (try have := hlQ0 h0); omega))
  replace Q0 := Lib.hid ((Q0.out.drewN _).only o (fun h0 => by (try have := hlR0 h0); (try have := hlQ0 h0); omega))
  replace NQ := Lib.hid ((NQ.out.drewN _).only o (by omega))
  replace G := Lib.hid ((below_drewN G.out _).trans (o.below (by have := G.out.size; omega)))
  replace X1 := Lib.hid m
  have hb15 : u15.heap.size = u13.heap.size := o.size
  have he15 : u13.heap.size ≤ u15.heap.size := Nat.le_of_eq hb15.symm
  clear o m hb15
  go_wp2_with fail
  refine (bmarkt_any (1 + len1) X2.out hm2 (by omega)).mono ?_
  rintro e u16 ⟨rfl, o⟩
  replace BX := Lib.hid (BX.out.only o (by omega))
  replace R0 := Lib.hid (R0.out.only o (fun h0 => by (try have := hlR0 h0); (try have := hlQ0 h0); omega))
  replace NR := Lib.hid (NR.out.only o (by omega))
  replace X1 := Lib.hid (X1.out.only o (fun h0 => by (try have := hlR0 h0); (try have := hlQ0 h0); omega))
  replace Q0 := Lib.hid (Q0.out.only o (fun h0 => by (try have := hlR0 h0); (try have := hlQ0 h0); omega))
  replace NQ := Lib.hid (NQ.out.only o (by omega))
  replace G := Lib.hid (G.out.trans (o.below (by have := G.out.size; omega)))
  clear X2
  have hb16 : u16.heap.size = u15.heap.size := o.size
  have he16 : u15.heap.size ≤ u16.heap.size := Nat.le_of_eq hb16.symm
  clear o hb16
  obtain ⟨ka0, ka1, ka2, ka3, ka4, ka5, ka6, ka7⟩ := NQ.out.c8
  obtain ⟨kb0, kb1, kb2, kb3, kb4, kb5, kb6, kb7⟩ := NR.out.c8
  go_wp2_with fail
  refine (eqtn_any _ _ _ _ _ _ _ _ _ _ _ _ _ _ _ _ _ (MQT.out.1.trans MRT.out.1.symm) (MQT.out.2.1.trans MRT.out.2.1.symm) (MQT.out.2.2.1.trans MRT.out.2.2.1.symm) (MQT.out.2.2.2.1.trans MRT.out.2.2.2.1.symm) (MQT.out.2.2.2.2.1.trans MRT.out.2.2.2.2.1.symm) (MQT.out.2.2.2.2.2.1.trans MRT.out.2.2.2.2.2.1.symm) (MQT.out.2.2.2.2.2.2.1.trans MRT.out.2.2.2.2.2.2.1.symm) (MQT.out.2.2.2.2.2.2.2.trans MRT.out.2.2.2.2.2.2.2.symm)).mono ?_
  rintro e u17 ⟨rfl, b⟩
  clear ka0 kb0 ka1 kb1 ka2 kb2 ka3 kb3 ka4 kb4 ka5 kb5 ka6 kb6 ka7 kb7
  have hsu17 : u16.heap.size ≤ u17.heap.size := b.size
  replace BX := Lib.hid (BX.out.below b)
  replace R0 := Lib.hid (R0.out.below b)
  replace NR := Lib.hid (NR.out.below b)
  replace X1 := Lib.hid (X1.out.below b)
  replace Q0 := Lib.hid (Q0.out.below b)
  replace NQ := Lib.hid (NQ.out.below b)
  replace G := Lib.hid (G.out.trans (b.mono G.out.size))
  clear b
  go_wp2_with fail
  refine (eqF_any _ _ _ _ _ _ _ _ Q0.out.sl R0.out.sl hX0 (same_cny HY0.out CQ0.out CR0.out)).mono ?_
  rintro e w' ⟨n18, rfl, rfl⟩
  clear NQ
  go_wp2_with fail
  refine (markt_any 1 (Q0.out.drewN _) hX0 (by omega)).mono ?_
  rintro e u19 ⟨rfl, o, m⟩
  replace BX := Lib.hid ((BX.out.drewN _).only o (by omega))
  replace R0 := Lib.hid ((R0.out.drewN _).only o (fun h0 => by (try have := hlR0 h0); (try have := hlQ0 h0); omega))
  replace NR := Lib.hid ((NR.out.drewN _).only o (by omega))
  replace X1 := Lib.hid ((X1.out.drewN _).only o (fun h0 => by (try have := hlR0 h0); (try have := hlQ0 h0); omega))
  replace G := Lib.hid ((below_drewN G.out _).trans (o.below (by have := G.out.size; omega)))
  replace Q0 := Lib.hid m
  have hb19 : u19.heap.size = u17.heap.size := o.size
  have he19 : u17.heap.size ≤ u19.heap.size := Nat.le_of_eq hb19.symm
  clear o m hb19
  go_wp2_with fail
  refine (heldt_any 1 Q0.out hX0 (by omega)).mono ?_
  rintro e w' ⟨rfl, rfl⟩
  obtain ⟨kx0, kx1, kx2, kx3, kx4, kx5, kx6, kx7⟩ := BX.out.c8
  go_wp2_with fail
  refine (totn_any _ _ _ _ _ _ _ _ _).mono ?_
  rintro e u20 ⟨rfl, b⟩
  clear kx0 kx1 kx2 kx3 kx4 kx5 kx6 kx7
  have hsu20 : u19.heap.size ≤ u20.heap.size := b.size
  replace BX := Lib.hid (BX.out.below b)
  replace R0 := Lib.hid (R0.out.below b)
  replace NR := Lib.hid (NR.out.below b)
  replace X1 := Lib.hid (X1.out.below b)
  replace Q0 := Lib.hid (Q0.out.below b)
  replace G := Lib.hid (G.out.trans (b.mono G.out.size))
  clear b
  go_wp2_with fail
  refine (toFt_any _ _ _ _ _ (FSl.below H1.out G.out) hm1).mono ?_
  rintro e u21 ⟨rfl, t, b, q21⟩
  replace BX := Lib.hid (BX.out.below b)
  replace R0 := Lib.hid (R0.out.below b)
  replace NR := Lib.hid (NR.out.below b)
  replace X1 := Lib.hid (X1.out.below b)
  replace Q0 := Lib.hid (Q0.out.below b)
  replace G := Lib.hid (G.out.trans (b.mono G.out.size))
  have V1 := Lib.hid t
  have hsV1 : u20.heap.size < u21.heap.size := q21
  clear t b q21
  go_wp2_with fail
  refine (toBt_any _ _ _ _ _ (BSl.below H2.out G.out) hm2).mono ?_
  rintro e u22 ⟨rfl, t, b, q22⟩
  replace BX := Lib.hid (BX.out.below b)
  replace R0 := Lib.hid (R0.out.below b)
  replace NR := Lib.hid (NR.out.below b)
  replace X1 := Lib.hid (X1.out.below b)
  replace Q0 := Lib.hid (Q0.out.below b)
  replace V1 := Lib.hid (V1.out.below b)
  replace G := Lib.hid (G.out.trans (b.mono G.out.size))
  have V2 := Lib.hid t
  have hsV2 : u21.heap.size < u22.heap.size := q22
  clear t b q22
  go_wp2_with fail
  refine (imTr_any _ _ _ _ _ _ _ _ _ _ _ _ _ _ _ _ _ V1.out.sl V2.out.sl hm1 hm2).mono ?_
  intro e u23 hR
  obtain ⟨vP_0, vP_1, vP_2, vP_3, vP_4, vP_5, vP_6, vP_7, AP0, cP0, dP0, rP0, rfl, ⟨t0, hc0, q23_0⟩, hmT, b⟩ := hR.res HX0.out HY0.out
  replace BX := Lib.hid (BX.out.below b)
  replace R0 := Lib.hid (R0.out.below b)
  replace NR := Lib.hid (NR.out.below b)
  replace X1 := Lib.hid (X1.out.below b)
  replace Q0 := Lib.hid (Q0.out.below b)
  replace V1 := Lib.hid (V1.out.below b)
  replace V2 := Lib.hid (V2.out.below b)
  replace G := Lib.hid (G.out.trans (b.mono G.out.size))
  have P0 := Lib.hid t0
  have CP0 := Lib.hid hc0
  have hdP0 : u22.heap.size ≤ dP0 := q23_0
  have hlP0 : 0 < y0 → dP0 < u23.heap.size := t0.lt_
  have hzP : u22.heap.size ≤ u23.heap.size := b.size
  clear hR b t0 hc0 q23_0
  have MPT := Lib.hid hmT
  clear hmT
  have ba := (Below.refl u23.heap.size u23).alloc (Nat.le_refl _) (.cells #[.float .f32 vP_0, .float .f32 vP_1, .float .f32 vP_2, .float .f32 vP_3, .float .f32 vP_4, .float .f32 vP_5, .float .f32 vP_6, .float .f32 vP_7] 53)
  have saP : u23.heap.size < (u23.alloc (.cells #[.float .f32 vP_0, .float .f32 vP_1, .float .f32 vP_2, .float .f32 vP_3, .float .f32 vP_4, .float .f32 vP_5, .float .f32 vP_6, .float .f32 vP_7] 53)).heap.size := by simp
  replace BX := Lib.hid (BX.out.below ba)
  replace R0 := Lib.hid (R0.out.below ba)
  replace NR := Lib.hid (NR.out.below ba)
  replace X1 := Lib.hid (X1.out.below ba)
  replace Q0 := Lib.hid (Q0.out.below ba)
  replace V1 := Lib.hid (V1.out.below ba)
  replace V2 := Lib.hid (V2.out.below ba)
  replace P0 := Lib.hid (P0.out.below ba)
  replace G := Lib.hid (G.out.trans (ba.mono G.out.size))
  clear ba
  have NP := Lib.hid (NumsIn.new u23 [vP_0, vP_1, vP_2, vP_3, vP_4, vP_5, vP_6, vP_7] 53)
  obtain ⟨ka0, ka1, ka2, ka3, ka4, ka5, ka6, ka7⟩ := NP.out.c8
  obtain ⟨kb0, kb1, kb2, kb3, kb4, kb5, kb6, kb7⟩ := NR.out.c8
  go_wp2_with fail
  refine (eqtn_any _ _ _ _ _ _ _ _ _ _ _ _ _ _ _ _ _ (MPT.out.1.trans MRT.out.1.symm) (MPT.out.2.1.trans MRT.out.2.1.symm) (MPT.out.2.2.1.trans MRT.out.2.2.1.symm) (MPT.out.2.2.2.1.trans MRT.out.2.2.2.1.symm) (MPT.out.2.2.2.2.1.trans MRT.out.2.2.2.2.1.symm) (MPT.out.2.2.2.2.2.1.trans MRT.out.2.2.2.2.2.1.symm) (MPT.out.2.2.2.2.2.2.1.trans MRT.out.2.2.2.2.2.2.1.symm) (MPT.out.2.2.2.2.2.2.2.trans MRT.out.2.2.2.2.2.2.2.symm)).mono ?_
  rintro e u24 ⟨rfl, b⟩
  clear ka0 kb0 ka1 kb1 ka2 kb2 ka3 kb3 ka4 kb4 ka5 kb5 ka6 kb6 ka7 kb7
  have hsu24 : (u23.alloc (.cells #[.float .f32 vP_0, .float .f32 vP_1, .float .f32 vP_2, .float .f32 vP_3, .float .f32 vP_4, .float .f32 vP_5, .float .f32 vP_6, .float .f32 vP_7] 53)).heap.size ≤ u24.heap.size := b.size
  replace BX := Lib.hid (BX.out.below b)
  replace R0 := Lib.hid (R0.out.below b)
  replace NR := Lib.hid (NR.out.below b)
  replace X1 := Lib.hid (X1.out.below b)
  replace Q0 := Lib.hid (Q0.out.below b)
  replace V1 := Lib.hid (V1.out.below b)
  replace V2 := Lib.hid (V2.out.below b)
  replace P0 := Lib.hid (P0.out.below b)
  replace NP := Lib.hid (NP.out.below b)
  replace G := Lib.hid (G.out.trans (b.mono G.out.size))
  clear b
  go_wp2_with fail
  refine (eqF_any _ _ _ _ _ _ _ _ P0.out.sl R0.out.sl hX0 (same_cny HY0.out CP0.out CR0.out)).mono ?_
  rintro e w' ⟨n25, rfl, rfl⟩
  go_wp2_with fail
  refine (heldt_any 1 (Q0.out.drewN _) hX0 (by omega)).mono ?_
  rintro e w' ⟨rfl, rfl⟩
  go_wp2
  go_ret
  exact ⟨rfl, (below_drewN G.out _)⟩
end Go.Proofs.Ytldaamgohdnjnaa.fnExactTrendRun

