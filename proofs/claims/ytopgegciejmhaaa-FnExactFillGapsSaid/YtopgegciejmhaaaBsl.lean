/-
  Slices of bools: as they come in; the laws' own helpers: copies that may be written, whether two are the same, marks.
-/
import Derived.Test.YtopgegciejmhaaaCIn
import Derived.Test.YtopgegciejmhaaaCLaw
import Derived.ChangeArms
import Derived.Deep.RegionHeld3
import Derived.Deep.QuietTactic
import Derived.BigQuiet
namespace Go.Proofs.Ytopgegciejmhaaa
open Go.RowKit
set_option linter.unusedVariables false
/-- The slice's elements are the bools zs. -/
def BSl (w : World) (a : Option Addr) (len : Nat) (zs : List Bool) : Prop := VSl .bool false w a len zs
/-- A slice of bools that came in. -/
def BRow (w : World) (a : Option Addr) (len cap : Nat) (zs : List Bool) : Prop := BSl w a len zs ∧ len ≤ cap ∧ cap ≤ maxLen
theorem BRow_of {H : Type} {enc : TypeId × Value → H} {P : Program} {w : World} {base : Nat} {spare : Nat → Bool} {held : Bool} {t e : TypeId} {a : Option Addr} {len cap : Nat} {d : DataW H} {ps : List MemPlace}
    (ht : P.underlying t = some (.slice e)) (he : P.underlying e = some .bool) (hc : P.cellsOf e = 1) (h : DataW.Trod enc P w base spare held t (.slice a len cap) d ps) : ∃ zs, BRow w a len cap zs := by
  obtain ⟨fuel, hf⟩ := h
  rcases Go.Deep.open_slice1 ht hc hf with ⟨hcs, _⟩ | ⟨x, l, c, m, n, V, D, Pl, hcs, _, hl, hm, hmm, _, hx⟩
  · simp [Value.cells] at hcs
    obtain ⟨rfl, rfl, rfl⟩ := hcs
    exact ⟨[], ⟨rfl, .inl rfl⟩, Nat.le_refl _, Nat.zero_le _⟩
  · simp [Value.cells] at hcs
    obtain ⟨rfl, rfl, rfl⟩ := hcs
    have hle : len ≤ m := by rw [hmm]; split <;> omega
    have hv : ∀ i, i < len → ∃ b, V i = .bool b := fun i hi => by
      obtain ⟨b, hb, _⟩ := DataW.trod_bool he (hx i (by omega)).2
      exact ⟨b, by simpa using hb⟩
    obtain ⟨f, hf⟩ := Go.Deep.choose_lt hv
    refine ⟨(List.range len).map f, ⟨by simp, ?_⟩, hl, hm⟩
    by_cases h0 : len = 0
    · exact .inl h0
    · right
      have hcell : ∀ i, i < len → w.cell? (x.add i) = some (.bool (((List.range len).map f).getD i false)) := fun i hi => by
        rw [(hx i (by omega)).1, hf i hi]
        simp [List.getD, hi]
      have h0' := hcell 0 (by omega)
      obtain ⟨b, off, spot⟩ := x
      have hspot : spot = none := by simpa [Addr.add] using World.cell?_spot h0'
      subst hspot
      exact ⟨b, off, rfl, lt_of_cell (by rw [← Go.WideShapes.add_plain]; exact h0'), fun j hj => by rw [← Go.WideShapes.add_plain]; exact hcell j hj⟩
theorem BSl.drewN {w : World} {a : Option Addr} {len : Nat} {zs : List Bool} (h : BSl w a len zs) (n : Nat) : BSl (w.drewN n) a len zs := h
theorem BSl.below {w w' : World} {a : Option Addr} {len : Nat} {zs : List Bool} (h : BSl w a len zs) (hb : Below w.heap.size w w') : BSl w' a len zs := VSl.below h hb
theorem BSl.at {w : World} {a : Option Addr} {len : Nat} {zs : List Bool} (h : BSl w a len zs) (hl : 0 < len) :
    ∃ b off, a = some ⟨b, off, none⟩ ∧ b < w.heap.size ∧ ∀ i, i < len → w.cell? ⟨b, off + i, none⟩ = some (.bool (zs.getD i false)) := VSl.at h hl
theorem BSl.same {w w' : World} {a : Option Addr} {len : Nat} {zs : List Bool} (h : BSl w a len zs) (hs : w.heap.size ≤ w'.heap.size) (hb : ∀ b off, 0 < len → a = some ⟨b, off, none⟩ → w'.heap[b]? = w.heap[b]?) : BSl w' a len zs := by
  obtain ⟨h1, h2⟩ := h
  refine ⟨h1, ?_⟩
  rcases Nat.eq_zero_or_pos len with h0 | h0
  · exact .inl h0
  · rcases h2 with h2 | ⟨b, off, rfl, hlt, hc⟩
    · exact .inl h2
    · exact .inr ⟨b, off, rfl, Nat.lt_of_lt_of_le hlt hs, fun i hi => by rw [World.cell?_of_block (a := ⟨b, off + i, none⟩) (hb b off h0 rfl)]; exact hc i hi⟩
theorem BSl.only {w w' : World} {a : Option Addr} {len b c : Nat} {zs : List Bool} (h : BSl w a len zs) (ho : Only c w w') (ha : 0 < len → a = some ⟨b, 0, none⟩ ∧ b ≠ c) : BSl w' a len zs :=
  h.same (Nat.le_of_eq ho.size.symm) fun b' off h0 e => by
    obtain ⟨e1, e2⟩ := ha h0
    rw [e1] at e
    injection e with e
    injection e with e
    subst e
    exact ho.block _ e2
/-- A list of bools that is held on to. -/
structure BHeld (w : World) (A : Option Addr) (b len : Nat) (rs : List Bool) : Prop where
  sl : BSl w A len rs
  at_ : 0 < len → A = some ⟨b, 0, none⟩
  lt_ : 0 < len → b < w.heap.size
  wri : Wri w b len
theorem BHeld.drewN {w : World} {A : Option Addr} {b len : Nat} {rs : List Bool} (h : BHeld w A b len rs) (n : Nat) : BHeld (w.drewN n) A b len rs := ⟨BSl.drewN h.sl n, h.at_, h.lt_, h.wri⟩
theorem BHeld.below {w w' : World} {A : Option Addr} {b len : Nat} {rs : List Bool} (h : BHeld w A b len rs) (hb : Below w.heap.size w w') : BHeld w' A b len rs :=
  ⟨BSl.below h.sl hb, h.at_, fun h0 => Nat.lt_of_lt_of_le (h.lt_ h0) hb.size, h.wri.below hb h.lt_⟩
theorem BHeld.only {w w' : World} {A : Option Addr} {b len c : Nat} {rs : List Bool} (h : BHeld w A b len rs) (ho : Only c w w') (hc : 0 < len → b ≠ c) : BHeld w' A b len rs :=
  ⟨BSl.only h.sl ho (fun h0 => ⟨h.at_ h0, hc h0⟩), h.at_, fun h0 => by rw [ho.size]; exact h.lt_ h0, h.wri.only ho hc⟩
theorem Try.infoB : (Try.prog.info? 4).map (fun i => (i.zero, i.size, i.bytes)) = some (some (.bool false), 1, 1) := by kernel_rfl
theorem toBt_any (a : Option Addr) (len cap : Nat) (zs : List Bool) (w : World) (h : BSl w a len zs) (hm : len ≤ 1048576) :
    Calls Try.prog 17 #[.slice a len cap] w fun e w' => e = .returned (.slice (some ⟨w.heap.size, 0, none⟩) len len) ∧ BHeld w' (some ⟨w.heap.size, 0, none⟩) w.heap.size len zs ∧ Below w.heap.size w w' ∧ w.heap.size < w'.heap.size := by
  obtain ⟨i0, hi, hz0, hz1, hz2⟩ := info_parts Try.infoB
  have hmk := fun W => run_make_len (P := Try.prog) W 23 4 i0 (.bool false) Try.underlying23 hi hz0 hz1 len (by rw [hz2]; omega) (by omega)
  have h0 := Lib.hid (Fills.start (f := Value.bool) (d := false) w.heap.size len zs w (Value.bool false).cells 4 rfl len rfl)
  clear hi hz0 hz1 hz2
  have H := Lib.hid h
  clear h
  go_enter Try.func17, Try.ntmps17
  go_wp2
  clear hmk
  go_loopw [4] (fun i wr => ∃ k : Nat, k ≤ len ∧ i = .int .i64 k ∧ Hid (Fills Value.bool false w.heap.size len zs k w wr)) (fun i _ => len - (intOf i).toNat)
  case atStart => exact ⟨0, Nat.zero_le _, rfl, h0⟩
  case round =>
    rename_i wr
    obtain ⟨k, hk, rfl, hf⟩ := hrel
    by_cases hlt : k < len
    · obtain ⟨b, off, rfl, hb, hc⟩ := H.out.at (by omega)
      have hck := hc k hlt
      rw [← hf.out.1.cell (p := ⟨b, off + k, none⟩) hb] at hck
      obtain ⟨⟨v, hv⟩, hz⟩ := hf.out.next hlt
      have hstep := Lib.hid (hf.out.step hlt)
      generalize zs.getD k false = z at *
      clear hc hb h0 hf H
      go_wp2
      go_roundw
      case rel => exact ⟨k + 1, by omega, by go_num, hstep⟩
      case measure => simp [intOf]; omega
    · have e : k = len := by omega
      subst e
      have hfin := Lib.hid (hf.out.done H.out.1)
      have hbel := Lib.hid hf.out.1
      have hwri := Lib.hid (show Wri _ w.heap.size k from fun j hj => ⟨⟨_, hf.out.2.2.1 j hj⟩, hf.out.2.2.2.2 j hj⟩)
      have hbig := hf.out.2.1
      clear hf h0 H
      go_wp2
      go_ret
      exact ⟨rfl, ⟨hfin.out, fun _ => rfl, fun _ => hbig, hwri.out⟩, hbel.out, hbig⟩
theorem eqB_any (a a' : Option Addr) (len cap cap' : Nat) (zs : List Bool) (w : World) (h : BSl w a len zs) (h' : BSl w a' len zs) (hm : len ≤ 1048576) :
    Calls Try.prog 20 #[.slice a len cap, .slice a' len cap'] w (RetV (.bool true) w) := by
  have H := Lib.hid h
  have H' := Lib.hid h'
  clear h h'
  go_enter Try.func20, Try.ntmps20
  go_wp2
  go_loopw [5] (fun i wr => ∃ k n : Nat, k ≤ len ∧ i = .int .i64 k ∧ wr = w.drewN n) (fun i _ => len - (intOf i).toNat)
  case atStart => exact ⟨0, 0, Nat.zero_le _, rfl, rfl⟩
  case round =>
    obtain ⟨k, n, hk, rfl, rfl⟩ := hrel
    by_cases hlt : k < len
    · obtain ⟨b, off, rfl, hb, hc⟩ := H.out.at (by omega)
      obtain ⟨b', off', rfl, hb', hc'⟩ := H'.out.at (by omega)
      have hck := hc k hlt
      have hck' := hc' k hlt
      have hne : (zs.getD k false != zs.getD k false) = false := bne_self_eq_false _
      generalize zs.getD k false = z at *
      clear hc hc' hb hb' H H'
      go_wp2
      go_quiet (fail)
      go_wp2
      go_roundw
      case rel => exact ⟨k + 1, _, by omega, by go_num, rfl⟩
      case measure => simp [intOf]; omega
    · go_wp2
      go_ret
      exact ⟨n, rfl, rfl⟩
/-- How far the marks have come. -/
def BMarking (b len : Nat) (w wr : World) : Prop := Only b w wr ∧ Wri wr b len
theorem BMarking.step {b len i : Nat} {w wr : World} {v : Bool} (h : BMarking b len w wr) (hi : i < len) : BMarking b len w (wr.setCell ⟨b, i, none⟩ (.bool v)) := by
  obtain ⟨h1, h2⟩ := h
  obtain ⟨⟨v0, hv⟩, _⟩ := h2 i hi
  refine ⟨h1.setCell i _, fun j hj => ?_⟩
  obtain ⟨⟨u, hu⟩, hf⟩ := h2 j hj
  refine ⟨?_, by rw [World.frozen?_setCell]; exact hf⟩
  by_cases e : j = i
  · subst e; exact ⟨_, World.cell?_setCell_same' _ _ _ (by rw [hv]; rfl)⟩
  · exact ⟨u, by rw [setCell_far e]; exact hu⟩
theorem bmarkt_any {A : Option Addr} {b len cap : Nat} {rs : List Bool} (k : Nat) {w : World} (h : BHeld w A b len rs) (hl : len ≤ 1048576) (hk : k ≤ 16777216) :
    Calls Try.prog 22 #[.slice A len cap, .int .i64 k] w fun e w' => e = .returned (.int .i64 (k + len : Nat)) ∧ Only b w w' := by
  have HW := Lib.hid (show BMarking b len w w from ⟨Only.refl _ _, h.wri⟩)
  have HA := Lib.hid h.at_
  clear h
  go_enter Try.func22, Try.ntmps22
  go_wp2
  go_loopw [1, 5] (fun q j wr => ∃ i : Nat, i ≤ len ∧ j = .int .i64 i ∧ q = .int .i64 (k + i : Nat) ∧ Hid (BMarking b len w wr)) (fun _ j _ => len - (intOf j).toNat)
  case atStart => exact ⟨0, Nat.zero_le _, rfl, rfl, HW⟩
  case round =>
    rename_i wr
    obtain ⟨i, hi, rfl, rfl, hm⟩ := hrel
    by_cases hlt : i < len
    · obtain rfl := HA.out (by omega)
      obtain ⟨⟨v, hv⟩, hf⟩ := hm.out.2 i hlt
      have hstep := Lib.hid (fun v => hm.out.step (v := v) hlt)
      clear hm HW HA
      go_wp2
      go_roundw
      case rel => exact ⟨i + 1, by omega, by go_num, by go_num, Lib.hid (hstep.out _)⟩
      case measure => simp [intOf]; omega
    · obtain rfl : i = len := by omega
      go_wp2
      go_ret
      exact ⟨rfl, hm.out.1⟩
end Go.Proofs.Ytopgegciejmhaaa
