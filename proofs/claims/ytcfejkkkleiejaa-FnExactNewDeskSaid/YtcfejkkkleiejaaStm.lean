/-
  A step's result in one form; states are marked and held.
-/
import Derived.Test.YtcfejkkkleiejaaStp
import Derived.Test.YtcfejkkkleiejaaSte
import Derived.Test.YtcfejkkkleiejaaCis
namespace Go.Proofs.Ytcfejkkkleiejaa
open Ieee Go.RowKit
set_option linter.unusedVariables false
/-- What a step leaves as its state, and as its miss. -/
def rsQ (q : Stt) (a b c d x : Nat) : Stt := if stpB q a b c d x then stNx q a b c d x else ⟨0, 0, [], 0⟩
def rsM (q : Stt) (a b c d x : Nat) : Nat := if stpB q a b c d x then stMi q d x else 0
theorem rsQ_len (q : Stt) (a b c d x : Nat) : (rsQ q a b c d x).zs.length ≤ q.zs.length := by
  unfold rsQ
  split
  · exact Nat.le_of_eq (sZs_len _ _ _ _ _)
  · exact Nat.zero_le _
theorem stp_uni {T : TypeId} {q : Stt} {a b c d x : Nat} {w w' : World} {e : Ending} (h : RetStp T q a b c d x w e w') :
    ∃ A cp, e = .returned (.tuple #[.agg #[.float .f32 (rsQ q a b c d x).l, .float .f32 (rsQ q a b c d x).s, .slice A (rsQ q a b c d x).zs.length cp, .int .i64 (rsQ q a b c d x).t], .float .f32 (rsM q a b c d x), .bool (stpB q a b c d x)]) ∧
      FOwn T w.heap.size w' (.slice A (rsQ q a b c d x).zs.length cp) (rsQ q a b c d x).zs ∧ Below w.heap.size w w' := by
  obtain ⟨hb, h1, h2⟩ := h
  unfold rsQ rsM
  cases hq : stpB q a b c d x
  · exact ⟨none, 0, h2 hq, FOwn.nil _ _ _, hb⟩
  · obtain ⟨v, rfl, ho⟩ := h1 hq
    obtain ⟨A, cp, rfl, _, _⟩ := ho.sl
    exact ⟨A, cp, rfl, ho, hb⟩
theorem own_nT {T T' : TypeId} {B g : Nat} {w : World} {v : Value} {rs : List Nat} {cs : Array Value} (h : FOwn T B w v rs) (hg : w.heap[g]? = some (.cells cs T')) (hT : T ≠ T') : v.ownBlock ≠ some g := by
  intro e
  rcases h.2 with ⟨h1, -⟩ | ⟨g', cap, cur, h1, -, h2, -⟩
  · rw [h1] at e; cases e
  · rw [h1] at e
    injection e with e
    have e : g' = g := e
    subst e
    rw [h2] at hg
    injection hg with hg
    injection hg with _ hg
    exact hT hg
theorem own_set {T : TypeId} {B g : Nat} {w w' : World} {v : Value} {rs : List Nat} (h : FOwn T B w v rs) (ho : Only g w w') (hne : v.ownBlock ≠ some g) : FOwn T B w' v rs := by
  rcases h with ⟨hn, h | ⟨g', cap, cur, h1, hB, h2, h3⟩⟩
  · exact ⟨hn, .inl h⟩
  · refine ⟨hn, .inr ⟨g', cap, cur, h1, hB, ?_, h3⟩⟩
    rw [ho.block g' (fun e => hne (by rw [h1, ← e]; rfl))]
    exact h2
theorem own_held {T : TypeId} {B n far : Nat} {w : World} {A : Option Addr} {cp : Nat} {rs : List Nat} (h : FOwn T B w (.slice A n cp) rs) (hn : n = rs.length) (hf : B ≤ far) (p : Nat) (hp : (Value.slice A n cp).ownBlock ≠ some p) (hpf : p ≠ far) : ∃ b, Held w A b n rs ∧ B ≤ b ∧ b ≠ p := by
  subst hn
  rcases Nat.eq_zero_or_pos rs.length with h0 | h0
  · refine ⟨far, ⟨own_fsl h, fun hq => by omega, fun hq => by omega, fun j hj => by omega⟩, hf, fun e => hpf e.symm⟩
  · obtain ⟨A', cp', b, e, hh, hB⟩ := FOwn.res h (xs := rs.map (cn .f32)) rfl
    injection e with e1 e2 e3
    subst e1
    rw [List.length_map] at hh
    refine ⟨b, hh, hB, fun e => hp ?_⟩
    rw [hh.at_ h0, e]
    rfl
theorem alloc_top (w : World) (o : Obj) : (w.alloc o).heap[w.heap.size]? = some o := by
  first
    | exact Array.getElem?_push_size
    | (show (w.heap.push o)[w.heap.size]? = some o; rw [Array.getElem?_push]; simp only [if_true])
theorem cis_of4 {w : World} {p : Nat} {a b c d : Value} {T : TypeId} (h : w.heap[p]? = some (.cells #[a, b, c, d] T)) : CIs w p [a, b, c, d] := by
  refine ⟨(Array.getElem?_eq_some_iff.1 h).1, fun i hi => ⟨?_, ?_⟩⟩
  · unfold World.cell?
    simp only [h]
    match i, hi with
    | 0, _ => rfl
    | 1, _ => rfl
    | 2, _ => rfl
    | 3, _ => rfl
    | n + 4, h => exact absurd h (by simp)
  · unfold World.frozen?
    simp only [h]
    simp
theorem CIs.only {w w' : World} {p c : Nat} {xs : List Value} (h : CIs w p xs) (ho : Only c w w') (hp : p ≠ c) : CIs w' p xs :=
  ⟨by rw [ho.size]; exact h.1, fun i hi => ⟨by rw [ho.cell (p := ⟨p, i, none⟩) hp]; exact (h.2 i hi).1, by rw [ho.frozen (p := ⟨p, i, none⟩) hp]; exact (h.2 i hi).2⟩⟩
theorem markStM_any (l s : Nat) (t : Int) {A : Option Addr} {b len cap : Nat} {rs : List Nat} (k : Nat) {w : World} (h : Held w A b len rs) (hl : len ≤ 1048576) (hk : k ≤ 16777216) :
    Calls Try.prog 14 #[.agg #[.float .f32 l, .float .f32 s, .slice A len cap, .int .i64 t], .int .i64 k] w fun e w' => e = .returned (.int .i64 (k + len : Nat)) ∧ ∃ o, Only b (w.alloc o) w' ∧ MHeld w' A b len k := by
  have H := Lib.hid (h.below ((Below.refl w.heap.size w).alloc (Nat.le_refl _) (.cells #[.float .f32 l, .float .f32 s, .slice A len cap, .int .i64 t] 25)))
  clear h
  go_enter Try.func14, Try.ntmps14
  go_wp2_with fail
  refine (markt_any k H.out hl hk).mono ?_
  rintro e w' ⟨rfl, o, mk⟩
  have HO := Lib.hid o
  have HM := Lib.hid mk
  clear o mk
  go_wp2
  go_ret
  exact ⟨rfl, _, HO.out, HM.out⟩
theorem heldSt_any (l s : Nat) (t : Int) {A : Option Addr} {b len cap : Nat} (k : Nat) {w : World} (h : MHeld w A b len k) (hl : len ≤ 1048576) (hk : k ≤ 16777216) :
    Calls Try.prog 16 #[.agg #[.float .f32 l, .float .f32 s, .slice A len cap, .int .i64 t], .int .i64 k] w fun e w' => e = .returned (.int .i64 (k + len : Nat)) ∧ Below w.heap.size w w' := by
  have H := Lib.hid (h.below ((Below.refl w.heap.size w).alloc (Nat.le_refl _) (.cells #[.float .f32 l, .float .f32 s, .slice A len cap, .int .i64 t] 25)))
  clear h
  have hneg : decide (((k + len : Nat) : Int) < 0) = false := decide_eq_false (by omega)
  go_enter Try.func16, Try.ntmps16
  go_wp2_with fail
  refine (heldt_any k H.out hl hk).mono ?_
  rintro e w' ⟨rfl, rfl⟩
  go_wp2
  go_ret
  exact ⟨rfl, (Below.refl _ _).alloc (Nat.le_refl _) _⟩
end Go.Proofs.Ytcfejkkkleiejaa
