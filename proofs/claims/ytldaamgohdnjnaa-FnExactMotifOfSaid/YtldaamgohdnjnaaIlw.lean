/-
  Lists of whole numbers as results: rows of the call's own; the laws' own helpers: copies that may be written, marks.
-/
import Derived.Test.YtldaamgohdnjnaaCIcp
import Derived.Test.YtldaamgohdnjnaaCLaw
import Derived.Test.YtldaamgohdnjnaaRow
namespace Go.Proofs.Ytldaamgohdnjnaa
open Ieee Go.RowKit
set_option linter.unusedVariables false

/-- v is a row of the call's own, from block B on, that holds the whole numbers rs. -/
def IOwn (T : TypeId) (B : Nat) (w : World) (v : Value) (rs : List Int) : Prop := w.ownsRow B T 1 v rs.length (rs.map (Value.int .i64))
section
variable {T : TypeId} {B : Nat} {w w' wr w1 : World} {v v' : Value} {rs : List Int}
theorem IOwn.nil (T : TypeId) (B : Nat) (w : World) : IOwn T B w (.slice none 0 0) [] := World.ownsRow_nil ..
theorem IOwn.drewN (h : IOwn T B w v rs) (n : Nat) : IOwn T B (w.drewN n) v rs := h
theorem IOwn.alloc (h : IOwn T B w v rs) (o : Obj) : IOwn T B (w.alloc o) v rs := World.ownsRow.alloc h o
theorem IOwn.made (w : World) (hb : B ≤ w.heap.size) : IOwn T B (w.alloc (.cells #[] T)) (.slice (some ⟨w.heap.size, 0, none⟩) 0 0) [] :=
  World.ownsRow_made w #[] 0 hb (Nat.zero_le _) (by simp)
theorem IOwn.push {n : Nat} {r : Int} {o : Obj} (h : IOwn T B wr v rs) (hb : Below B w wr) (hB : B ≤ wr.heap.size)
    (hown : w1.ownsRow B T 1 v' (rs.length + 1) (rs.map (Value.int .i64) ++ [.int .i64 r])) (hg : ((wr.drewN n).alloc o).grownBy w1 v.ownBlock) : IOwn T B w1 v' (rs ++ [r]) ∧ Below B w w1 := by
  refine ⟨?_, ?_⟩
  · unfold IOwn
    rw [List.length_append, List.map_append]
    exact hown
  · refine ((below_drewN hb n).alloc hB o).grown hg (by show B ≤ ((wr.drewN n).alloc o).heap.size; simp; show B ≤ wr.heap.size + 1; omega) (fun k hk => (h.lt k hk).1)
theorem IOwn.below (h : IOwn T B w v rs) (hb : Below w.heap.size w w') : IOwn T B w' v rs := by
  refine ⟨h.1, ?_⟩
  rcases h.2 with h2 | ⟨g, cap, cur, rfl, h3, h4, h5⟩
  · exact .inl h2
  · have hlt : g < w.heap.size := by
      rcases Nat.lt_or_ge g w.heap.size with hlt | hge
      · exact hlt
      · rw [Array.getElem?_eq_none hge] at h4; cases h4
    exact .inr ⟨g, cap, cur, rfl, h3, (hb.block g hlt).trans h4, h5⟩
theorem IOwn.mono {B' : Nat} (h : IOwn T B w v rs) (hB : B' ≤ B) : IOwn T B' w v rs := by
  refine ⟨h.1, ?_⟩
  rcases h.2 with h2 | ⟨g, cap, cur, rfl, hb, h2⟩
  · exact .inl h2
  · exact .inr ⟨g, cap, cur, rfl, Nat.le_trans hB hb, h2⟩
/-- What is known of such a value. -/
theorem IOwn.sl (h : IOwn T B w v rs) : ∃ A cap, v = .slice A rs.length cap ∧ ISl w A rs.length rs ∧ (∀ j, j < rs.length → ∃ b, A = some ⟨b, 0, none⟩ ∧ B ≤ b ∧ b < w.heap.size ∧ w.frozen? ⟨b, j, none⟩ = false) := by
  have hl := h.lt
  unfold IOwn at h
  have hcell := fun g (hg : v.ownBlock = some g) => World.ownsRow.cells h hg
  rcases h.2 with ⟨rfl, h0⟩ | ⟨g, cap, cur, rfl, hb, hg, hn, hm, hcs, htk⟩
  · refine ⟨none, 0, by rw [h0], ⟨rfl, .inl h0⟩, fun j hj => by omega⟩
  · have hlt := (hl g rfl).2
    refine ⟨some ⟨g, 0, none⟩, cap, rfl, ⟨rfl, .inr ⟨g, 0, rfl, hlt, fun i hi => ?_⟩⟩, fun j hj => ⟨g, rfl, hb, hlt, ?_⟩⟩
    · have := hcell g rfl i (.int .i64 (rs.getD i 0)) (by simp [List.getD, hi])
      rw [Nat.zero_add]
      simpa [Go.WideShapes.add_plain] using this
    · simp [World.frozen?, hg]
end
/-- A list of whole numbers and a bool. -/
def RetOI (T : TypeId) (xs : List Int) (ok : Bool) (w : World) (e : Ending) (w' : World) : Prop := ∃ v, e = .returned (.tuple #[v, .bool ok]) ∧ IOwn T w.heap.size w' v xs ∧ Below w.heap.size w w'
theorem fail_oi (T : TypeId) {xs : List Int} {ok : Bool} (hok : ok = false) (hx : xs = []) {w w' : World} (hb : Below w.heap.size w w') : RetOI T xs ok w (.returned (.tuple #[.slice none 0 0, .bool false])) w' :=
  ⟨_, by rw [hok], by rw [hx]; exact IOwn.nil .., hb⟩

theorem ISl.drewN {w : World} {a : Option Addr} {len : Nat} {zs : List Int} (h : ISl w a len zs) (n : Nat) : ISl (w.drewN n) a len zs := h
theorem ISl.below {w w' : World} {a : Option Addr} {len : Nat} {zs : List Int} (h : ISl w a len zs) (hb : Below w.heap.size w w') : ISl w' a len zs := VSl.below h hb
theorem ISl.at {w : World} {a : Option Addr} {len : Nat} {zs : List Int} (h : ISl w a len zs) (hl : 0 < len) :
    ∃ b off, a = some ⟨b, off, none⟩ ∧ b < w.heap.size ∧ ∀ i, i < len → w.cell? ⟨b, off + i, none⟩ = some (.int .i64 (zs.getD i 0)) := VSl.at h hl
theorem ISl.same {w w' : World} {a : Option Addr} {len : Nat} {zs : List Int} (h : ISl w a len zs) (hs : w.heap.size ≤ w'.heap.size) (hb : ∀ b off, 0 < len → a = some ⟨b, off, none⟩ → w'.heap[b]? = w.heap[b]?) : ISl w' a len zs := by
  obtain ⟨h1, h2⟩ := h
  refine ⟨h1, ?_⟩
  rcases Nat.eq_zero_or_pos len with h0 | h0
  · exact .inl h0
  · rcases h2 with h2 | ⟨b, off, rfl, hlt, hc⟩
    · exact .inl h2
    · exact .inr ⟨b, off, rfl, Nat.lt_of_lt_of_le hlt hs, fun i hi => by rw [World.cell?_of_block (a := ⟨b, off + i, none⟩) (hb b off h0 rfl)]; exact hc i hi⟩
theorem ISl.only {w w' : World} {a : Option Addr} {len b c : Nat} {zs : List Int} (h : ISl w a len zs) (ho : Only c w w') (ha : 0 < len → a = some ⟨b, 0, none⟩ ∧ b ≠ c) : ISl w' a len zs :=
  h.same (Nat.le_of_eq ho.size.symm) fun b' off h0 e => by
    obtain ⟨e1, e2⟩ := ha h0
    rw [e1] at e
    injection e with e
    injection e with e
    subst e
    exact ho.block _ e2
/-- A list of whole numbers that is held on to. -/
structure IHeld (w : World) (A : Option Addr) (b len : Nat) (rs : List Int) : Prop where
  sl : ISl w A len rs
  at_ : 0 < len → A = some ⟨b, 0, none⟩
  lt_ : 0 < len → b < w.heap.size
  wri : Wri w b len
theorem IHeld.drewN {w : World} {A : Option Addr} {b len : Nat} {rs : List Int} (h : IHeld w A b len rs) (n : Nat) : IHeld (w.drewN n) A b len rs := ⟨ISl.drewN h.sl n, h.at_, h.lt_, h.wri⟩
theorem IHeld.below {w w' : World} {A : Option Addr} {b len : Nat} {rs : List Int} (h : IHeld w A b len rs) (hb : Below w.heap.size w w') : IHeld w' A b len rs :=
  ⟨ISl.below h.sl hb, h.at_, fun h0 => Nat.lt_of_lt_of_le (h.lt_ h0) hb.size, h.wri.below hb h.lt_⟩
theorem IHeld.only {w w' : World} {A : Option Addr} {b len c : Nat} {rs : List Int} (h : IHeld w A b len rs) (ho : Only c w w') (hc : 0 < len → b ≠ c) : IHeld w' A b len rs :=
  ⟨ISl.only h.sl ho (fun h0 => ⟨h.at_ h0, hc h0⟩), h.at_, fun h0 => by rw [ho.size]; exact h.lt_ h0, h.wri.only ho hc⟩
theorem IHeld.wth {w w' : World} {A : Option Addr} {b len lo hi : Nat} {rs : List Int} (h : IHeld w A b len rs) (ho : Wth lo hi w w') (hc : 0 < len → b < lo ∨ hi ≤ b) : IHeld w' A b len rs := by
  refine ⟨h.sl.same (Nat.le_of_eq ho.size.symm) fun b' off h0 e => ?_, h.at_, fun h0 => by rw [ho.size]; exact h.lt_ h0, fun j hj => ?_⟩
  · have e1 := h.at_ h0
    rw [e1] at e
    injection e with e
    injection e with e
    subst e
    exact ho.block _ (hc h0)
  · rw [ho.cell (p := ⟨b, j, none⟩) (hc (by omega)), ho.frozen (p := ⟨b, j, none⟩) (hc (by omega))]; exact h.wri j hj
/-- The list is held against the marks from k on. -/
def IMarked (w : World) (b len k : Nat) : Prop := ∀ j, j < len → w.cell? ⟨b, j, none⟩ = some (.int .i64 ((k + j : Nat) : Int))
/-- A list of whole numbers that bears marks. -/
structure IMHeld (w : World) (A : Option Addr) (b len k : Nat) : Prop where
  mks : IMarked w b len k
  at_ : 0 < len → A = some ⟨b, 0, none⟩
  lt_ : 0 < len → b < w.heap.size
theorem IMHeld.drewN {w : World} {A : Option Addr} {b len k : Nat} (h : IMHeld w A b len k) (n : Nat) : IMHeld (w.drewN n) A b len k := ⟨h.mks, h.at_, h.lt_⟩
theorem IMHeld.below {w w' : World} {A : Option Addr} {b len k : Nat} (h : IMHeld w A b len k) (hb : Below w.heap.size w w') : IMHeld w' A b len k :=
  ⟨fun j hj => by rw [hb.cell (p := ⟨b, j, none⟩) (h.lt_ (by omega))]; exact h.mks j hj, h.at_, fun h0 => Nat.lt_of_lt_of_le (h.lt_ h0) hb.size⟩
theorem IMHeld.only {w w' : World} {A : Option Addr} {b len k c : Nat} (h : IMHeld w A b len k) (ho : Only c w w') (hc : 0 < len → b ≠ c) : IMHeld w' A b len k :=
  ⟨fun j hj => by rw [ho.cell (p := ⟨b, j, none⟩) (hc (by omega))]; exact h.mks j hj, h.at_, fun h0 => by rw [ho.size]; exact h.lt_ h0⟩
theorem IMHeld.wth {w w' : World} {A : Option Addr} {b len k lo hi : Nat} (h : IMHeld w A b len k) (ho : Wth lo hi w w') (hc : 0 < len → b < lo ∨ hi ≤ b) : IMHeld w' A b len k :=
  ⟨fun j hj => by rw [ho.cell (p := ⟨b, j, none⟩) (hc (by omega))]; exact h.mks j hj, h.at_, fun h0 => by rw [ho.size]; exact h.lt_ h0⟩
/-- How far the marks have come. -/
def IMarking (b len k i : Nat) (w wr : World) : Prop := Only b w wr ∧ Wri wr b len ∧ IMarked wr b i k
theorem IMarking.step {b len k i : Nat} {w wr : World} (h : IMarking b len k i w wr) (hi : i < len) : IMarking b len k (i + 1) w (wr.setCell ⟨b, i, none⟩ (.int .i64 ((k + i : Nat) : Int))) := by
  obtain ⟨h1, h2, h3⟩ := h
  obtain ⟨⟨v, hv⟩, _⟩ := h2 i hi
  refine ⟨h1.setCell i _, fun j hj => ?_, fun j hj => ?_⟩
  · obtain ⟨⟨u, hu⟩, hf⟩ := h2 j hj
    refine ⟨?_, by rw [World.frozen?_setCell]; exact hf⟩
    by_cases e : j = i
    · subst e; exact ⟨_, World.cell?_setCell_same' _ _ _ (by rw [hv]; rfl)⟩
    · exact ⟨u, by rw [setCell_far e]; exact hu⟩
  · by_cases e : j = i
    · subst e; exact World.cell?_setCell_same' _ _ _ (by rw [hv]; rfl)
    · rw [setCell_far e]; exact h3 j (by omega)
theorem imarkt_any {A : Option Addr} {b len cap : Nat} {rs : List Int} (k : Nat) {w : World} (h : IHeld w A b len rs) (hl : len ≤ 1048576) (hk : k ≤ 16777216) :
    Calls Try.prog 44 #[.slice A len cap, .int .i64 k] w fun e w' => e = .returned (.int .i64 (k + len : Nat)) ∧ Only b w w' ∧ IMHeld w' A b len k := by
  have HW := Lib.hid (show IMarking b len k 0 w w from ⟨Only.refl _ _, h.wri, fun j hj => by omega⟩)
  have HA := Lib.hid h.at_
  have HLt := Lib.hid h.lt_
  clear h
  go_enter Try.func44, Try.ntmps44
  go_wp2
  go_loopw [1, 5] (fun q j wr => ∃ i : Nat, i ≤ len ∧ j = .int .i64 i ∧ q = .int .i64 (k + i : Nat) ∧ Hid (IMarking b len k i w wr)) (fun _ j _ => len - (intOf j).toNat)
  case atStart => exact ⟨0, Nat.zero_le _, rfl, rfl, HW⟩
  case round =>
    rename_i wr
    obtain ⟨i, hi, rfl, rfl, hm⟩ := hrel
    by_cases hlt : i < len
    · obtain rfl := HA.out (by omega)
      obtain ⟨⟨v, hv⟩, hf⟩ := hm.out.2.1 i hlt
      have hstep := Lib.hid (hm.out.step hlt)
      clear hm HW HA
      go_wp2
      go_roundw
      case rel => exact ⟨i + 1, by omega, by go_num, by go_num, hstep⟩
      case measure => simp [intOf]; omega
    · obtain rfl : i = len := by omega
      go_wp2
      go_ret
      exact ⟨rfl, hm.out.1, hm.out.2.2, HA.out, fun h0 => by rw [hm.out.1.size]; exact HLt.out h0⟩
theorem iheldt_any {A : Option Addr} {b len cap : Nat} (k : Nat) {w : World} (h : IMHeld w A b len k) (hl : len ≤ 1048576) (hk : k ≤ 16777216) :
    Calls Try.prog 45 #[.slice A len cap, .int .i64 k] w fun e w' => e = .returned (.int .i64 (k + len : Nat)) ∧ w = w' := by
  have HW := Lib.hid h.mks
  have HA := Lib.hid h.at_
  clear h
  go_enter Try.func45, Try.ntmps45
  go_wp2
  go_loop [1, 5] (fun q j => ∃ i : Nat, i ≤ len ∧ j = .int .i64 i ∧ q = .int .i64 (k + i : Nat)) (fun _ j => len - (intOf j).toNat)
  case atStart => exact ⟨0, Nat.zero_le _, rfl, rfl⟩
  case round =>
    obtain ⟨i, hi, rfl, rfl⟩ := hrel
    by_cases hlt : i < len
    · obtain rfl := HA.out (by omega)
      have hc := HW.out i hlt
      rw [Int.natCast_add] at hc
      have hne : ((k : Int) + (i : Int) != (k : Int) + (i : Int)) = false := bne_self_eq_false _
      clear HA HW
      go_wp2
      go_round
      case rel => exact ⟨i + 1, by omega, by go_num, by go_num⟩
      case measure => simp [intOf]; omega
    · obtain rfl : i = len := by omega
      go_wp2
      go_ret
      exact ⟨rfl, rfl⟩
theorem IOwn.res {T : TypeId} {B : Nat} {w' : World} {v : Value} {xs : List Int} (h : IOwn T B w' v xs) : ∃ A cap b, v = .slice A xs.length cap ∧ IHeld w' A b xs.length xs ∧ B ≤ b := by
  obtain ⟨A, cap, rfl, hs, hf⟩ := h.sl
  rcases Nat.eq_zero_or_pos xs.length with h0 | h0
  · exact ⟨A, cap, B, rfl, ⟨hs, fun hp => by omega, fun hp => by omega, fun j hj => by omega⟩, Nat.le_refl _⟩
  · obtain ⟨b, rfl, hB, hlt, _⟩ := hf 0 h0
    refine ⟨_, cap, b, rfl, ⟨hs, fun _ => rfl, fun _ => hlt, fun j hj => ?_⟩, hB⟩
    obtain ⟨b', e, _, _, hfz⟩ := hf j hj
    obtain ⟨b2, off, e2, _, hc⟩ := hs.at h0
    injection e with e; injection e with e
    injection e2 with e2; injection e2 with e2 e3
    subst e e2 e3
    have := hc j hj
    rw [Nat.zero_add] at this
    exact ⟨⟨_, this⟩, hfz⟩
theorem RetOI.resn {T : TypeId} {X0 x0 : List Int} {y0 : Nat} {ok : Bool} {w : World} {e : Ending} {w' : World} (h : RetOI T X0 ok w e w') (hx0 : X0 = x0) (hy0 : x0.length = y0) :
    ∃ A0 c0 d0, e = .returned (.tuple #[.slice A0 y0 c0, .bool ok]) ∧ (IHeld w' A0 d0 y0 x0 ∧ w.heap.size ≤ d0) ∧ Below w.heap.size w w' := by
  subst hx0 hy0
  obtain ⟨v, rfl, ho, hb⟩ := h
  obtain ⟨A, cap, b, rfl, h1, h2⟩ := ho.res
  exact ⟨A, cap, b, rfl, ⟨h1, h2⟩, hb⟩
end Go.Proofs.Ytldaamgohdnjnaa
