/-
  Slices of bools: as they come in; the laws' own helpers: copies that may be written, whether two are the same, marks.
-/
import Derived.Test.YtldaamgohdnjnaaCIn
import Derived.Test.YtldaamgohdnjnaaCLaw
import Derived.ChangeArms
import Derived.Deep.RegionHeld3
import Derived.Deep.QuietTactic
import Derived.BigQuiet
import Derived.Test.YtldaamgohdnjnaaLvi
import Derived.Test.YtldaamgohdnjnaaCPlc
import Derived.Deep.RegionWith
import Derived.Deep.DeepCutAuto
import Derived.Test.YtldaamgohdnjnaaCSum
import Derived.Test.YtldaamgohdnjnaaCSwv
import Derived.Deep.AppendLies
import Derived.Test.YtldaamgohdnjnaaFsl
import Derived.Test.YtldaamgohdnjnaaFlg
import Derived.Test.YtldaamgohdnjnaaFld
import Derived.Test.YtldaamgohdnjnaaCAbs
import Derived.Test.YtldaamgohdnjnaaCFin
import Derived.Test.YtldaamgohdnjnaaCPos
import Derived.StillTail
import Derived.WalkKit
import Derived.Below
namespace Go.Proofs.Ytldaamgohdnjnaa
open Go.RowKit
set_option linter.unusedVariables false
/-- The slice's elements are the bools zs. -/
def BSl (w : World) (a : Option Addr) (len : Nat) (zs : List Bool) : Prop := VSl .bool false w a len zs
/-- A slice of bools that came in. -/
def BRow (w : World) (a : Option Addr) (len cap : Nat) (zs : List Bool) : Prop := BSl w a len zs ∧ len ≤ cap ∧ cap ≤ maxLen
theorem BRow_of {H : Type} {enc : TypeId × Value → H} {P : Program} {w : World} {base : Nat} {spare : Nat → Bool} {held : Bool} {t e : TypeId} {a : Option Addr} {len cap : Nat} {d : DataW H} {ps : List MemPlace}
    (ht : P.underlying t = some (.slice e)) (he : P.underlying e = some .bool) (hc : P.cellsOf e = 1) (h : DataW.Trod enc P w base spare held t (.slice a len cap) d ps) : ∃ zs, BRow w a len cap zs := by
  obtain ⟨fuel, hf⟩ := h
  rcases Go.Deep.open_slice1 ht hc hf with ⟨hcs, _⟩ | ⟨x, l, c, m, n, V, D, Pl, hcs, _, hl, hm, hmm, _, hx⟩
  · simp [Value.cells] at hcs
    obtain ⟨rfl, rfl, rfl⟩ := hcs
    exact ⟨[], ⟨rfl, .inl rfl⟩, Nat.le_refl _, Nat.zero_le _⟩
  · simp [Value.cells] at hcs
    obtain ⟨rfl, rfl, rfl⟩ := hcs
    have hle : len ≤ m := by rw [hmm]; split <;> omega
    have hv : ∀ i, i < len → ∃ b, V i = .bool b := fun i hi => by
      obtain ⟨b, hb, _⟩ := DataW.trod_bool he (hx i (by omega)).2
      exact ⟨b, by simpa using hb⟩
    obtain ⟨f, hf⟩ := Go.Deep.choose_lt hv
    refine ⟨(List.range len).map f, ⟨by simp, ?_⟩, hl, hm⟩
    by_cases h0 : len = 0
    · exact .inl h0
    · right
      have hcell : ∀ i, i < len → w.cell? (x.add i) = some (.bool (((List.range len).map f).getD i false)) := fun i hi => by
        rw [(hx i (by omega)).1, hf i hi]
        simp [List.getD, hi]
      have h0' := hcell 0 (by omega)
      obtain ⟨b, off, spot⟩ := x
      have hspot : spot = none := by simpa [Addr.add] using World.cell?_spot h0'
      subst hspot
      exact ⟨b, off, rfl, lt_of_cell (by rw [← Go.WideShapes.add_plain]; exact h0'), fun j hj => by rw [← Go.WideShapes.add_plain]; exact hcell j hj⟩
theorem BSl.drewN {w : World} {a : Option Addr} {len : Nat} {zs : List Bool} (h : BSl w a len zs) (n : Nat) : BSl (w.drewN n) a len zs := h
theorem BSl.below {w w' : World} {a : Option Addr} {len : Nat} {zs : List Bool} (h : BSl w a len zs) (hb : Below w.heap.size w w') : BSl w' a len zs := VSl.below h hb
theorem BSl.at {w : World} {a : Option Addr} {len : Nat} {zs : List Bool} (h : BSl w a len zs) (hl : 0 < len) :
    ∃ b off, a = some ⟨b, off, none⟩ ∧ b < w.heap.size ∧ ∀ i, i < len → w.cell? ⟨b, off + i, none⟩ = some (.bool (zs.getD i false)) := VSl.at h hl
theorem BSl.same {w w' : World} {a : Option Addr} {len : Nat} {zs : List Bool} (h : BSl w a len zs) (hs : w.heap.size ≤ w'.heap.size) (hb : ∀ b off, 0 < len → a = some ⟨b, off, none⟩ → w'.heap[b]? = w.heap[b]?) : BSl w' a len zs := by
  obtain ⟨h1, h2⟩ := h
  refine ⟨h1, ?_⟩
  rcases Nat.eq_zero_or_pos len with h0 | h0
  · exact .inl h0
  · rcases h2 with h2 | ⟨b, off, rfl, hlt, hc⟩
    · exact .inl h2
    · exact .inr ⟨b, off, rfl, Nat.lt_of_lt_of_le hlt hs, fun i hi => by rw [World.cell?_of_block (a := ⟨b, off + i, none⟩) (hb b off h0 rfl)]; exact hc i hi⟩
theorem BSl.only {w w' : World} {a : Option Addr} {len b c : Nat} {zs : List Bool} (h : BSl w a len zs) (ho : Only c w w') (ha : 0 < len → a = some ⟨b, 0, none⟩ ∧ b ≠ c) : BSl w' a len zs :=
  h.same (Nat.le_of_eq ho.size.symm) fun b' off h0 e => by
    obtain ⟨e1, e2⟩ := ha h0
    rw [e1] at e
    injection e with e
    injection e with e
    subst e
    exact ho.block _ e2
/-- A list of bools that is held on to. -/
structure BHeld (w : World) (A : Option Addr) (b len : Nat) (rs : List Bool) : Prop where
  sl : BSl w A len rs
  at_ : 0 < len → A = some ⟨b, 0, none⟩
  lt_ : 0 < len → b < w.heap.size
  wri : Wri w b len
theorem BHeld.drewN {w : World} {A : Option Addr} {b len : Nat} {rs : List Bool} (h : BHeld w A b len rs) (n : Nat) : BHeld (w.drewN n) A b len rs := ⟨BSl.drewN h.sl n, h.at_, h.lt_, h.wri⟩
theorem BHeld.below {w w' : World} {A : Option Addr} {b len : Nat} {rs : List Bool} (h : BHeld w A b len rs) (hb : Below w.heap.size w w') : BHeld w' A b len rs :=
  ⟨BSl.below h.sl hb, h.at_, fun h0 => Nat.lt_of_lt_of_le (h.lt_ h0) hb.size, h.wri.below hb h.lt_⟩
theorem BHeld.only {w w' : World} {A : Option Addr} {b len c : Nat} {rs : List Bool} (h : BHeld w A b len rs) (ho : Only c w w') (hc : 0 < len → b ≠ c) : BHeld w' A b len rs :=
  ⟨BSl.only h.sl ho (fun h0 => ⟨h.at_ h0, hc h0⟩), h.at_, fun h0 => by rw [ho.size]; exact h.lt_ h0, h.wri.only ho hc⟩
theorem Try.infoB : (Try.prog.info? 4).map (fun i => (i.zero, i.size, i.bytes)) = some (some (.bool false), 1, 1) := by kernel_rfl
theorem toBt_any (a : Option Addr) (len cap : Nat) (zs : List Bool) (w : World) (h : BSl w a len zs) (hm : len ≤ 1048576) :
    Calls Try.prog 28 #[.slice a len cap] w fun e w' => e = .returned (.slice (some ⟨w.heap.size, 0, none⟩) len len) ∧ BHeld w' (some ⟨w.heap.size, 0, none⟩) w.heap.size len zs ∧ Below w.heap.size w w' ∧ w.heap.size < w'.heap.size := by
  obtain ⟨i0, hi, hz0, hz1, hz2⟩ := info_parts Try.infoB
  have hmk := fun W => run_make_len (P := Try.prog) W 38 4 i0 (.bool false) Try.underlying38 hi hz0 hz1 len (by rw [hz2]; omega) (by omega)
  have h0 := Lib.hid (Fills.start (f := Value.bool) (d := false) w.heap.size len zs w (Value.bool false).cells 4 rfl len rfl)
  clear hi hz0 hz1 hz2
  have H := Lib.hid h
  clear h
  go_enter Try.func28, Try.ntmps28
  go_wp2
  clear hmk
  go_loopw [4] (fun i wr => ∃ k : Nat, k ≤ len ∧ i = .int .i64 k ∧ Hid (Fills Value.bool false w.heap.size len zs k w wr)) (fun i _ => len - (intOf i).toNat)
  case atStart => exact ⟨0, Nat.zero_le _, rfl, h0⟩
  case round =>
    rename_i wr
    obtain ⟨k, hk, rfl, hf⟩ := hrel
    by_cases hlt : k < len
    · obtain ⟨b, off, rfl, hb, hc⟩ := H.out.at (by omega)
      have hck := hc k hlt
      rw [← hf.out.1.cell (p := ⟨b, off + k, none⟩) hb] at hck
      obtain ⟨⟨v, hv⟩, hz⟩ := hf.out.next hlt
      have hstep := Lib.hid (hf.out.step hlt)
      generalize zs.getD k false = z at *
      clear hc hb h0 hf H
      go_wp2
      go_roundw
      case rel => exact ⟨k + 1, by omega, by go_num, hstep⟩
      case measure => simp [intOf]; omega
    · have e : k = len := by omega
      subst e
      have hfin := Lib.hid (hf.out.done H.out.1)
      have hbel := Lib.hid hf.out.1
      have hwri := Lib.hid (show Wri _ w.heap.size k from fun j hj => ⟨⟨_, hf.out.2.2.1 j hj⟩, hf.out.2.2.2.2 j hj⟩)
      have hbig := hf.out.2.1
      clear hf h0 H
      go_wp2
      go_ret
      exact ⟨rfl, ⟨hfin.out, fun _ => rfl, fun _ => hbig, hwri.out⟩, hbel.out, hbig⟩
theorem eqB_any (a a' : Option Addr) (len cap cap' : Nat) (zs : List Bool) (w : World) (h : BSl w a len zs) (h' : BSl w a' len zs) (hm : len ≤ 1048576) :
    Calls Try.prog 31 #[.slice a len cap, .slice a' len cap'] w (RetV (.bool true) w) := by
  have H := Lib.hid h
  have H' := Lib.hid h'
  clear h h'
  go_enter Try.func31, Try.ntmps31
  go_wp2
  go_loopw [5] (fun i wr => ∃ k n : Nat, k ≤ len ∧ i = .int .i64 k ∧ wr = w.drewN n) (fun i _ => len - (intOf i).toNat)
  case atStart => exact ⟨0, 0, Nat.zero_le _, rfl, rfl⟩
  case round =>
    obtain ⟨k, n, hk, rfl, rfl⟩ := hrel
    by_cases hlt : k < len
    · obtain ⟨b, off, rfl, hb, hc⟩ := H.out.at (by omega)
      obtain ⟨b', off', rfl, hb', hc'⟩ := H'.out.at (by omega)
      have hck := hc k hlt
      have hck' := hc' k hlt
      have hne : (zs.getD k false != zs.getD k false) = false := bne_self_eq_false _
      generalize zs.getD k false = z at *
      clear hc hc' hb hb' H H'
      go_wp2
      go_quiet (fail)
      go_wp2
      go_roundw
      case rel => exact ⟨k + 1, _, by omega, by go_num, rfl⟩
      case measure => simp [intOf]; omega
    · go_wp2
      go_ret
      exact ⟨n, rfl, rfl⟩
/-- How far the marks have come. -/
def BMarking (b len : Nat) (w wr : World) : Prop := Only b w wr ∧ Wri wr b len
theorem BMarking.step {b len i : Nat} {w wr : World} {v : Bool} (h : BMarking b len w wr) (hi : i < len) : BMarking b len w (wr.setCell ⟨b, i, none⟩ (.bool v)) := by
  obtain ⟨h1, h2⟩ := h
  obtain ⟨⟨v0, hv⟩, _⟩ := h2 i hi
  refine ⟨h1.setCell i _, fun j hj => ?_⟩
  obtain ⟨⟨u, hu⟩, hf⟩ := h2 j hj
  refine ⟨?_, by rw [World.frozen?_setCell]; exact hf⟩
  by_cases e : j = i
  · subst e; exact ⟨_, World.cell?_setCell_same' _ _ _ (by rw [hv]; rfl)⟩
  · exact ⟨u, by rw [setCell_far e]; exact hu⟩
theorem bmarkt_any {A : Option Addr} {b len cap : Nat} {rs : List Bool} (k : Nat) {w : World} (h : BHeld w A b len rs) (hl : len ≤ 1048576) (hk : k ≤ 16777216) :
    Calls Try.prog 32 #[.slice A len cap, .int .i64 k] w fun e w' => e = .returned (.int .i64 (k + len : Nat)) ∧ Only b w w' := by
  have HW := Lib.hid (show BMarking b len w w from ⟨Only.refl _ _, h.wri⟩)
  have HA := Lib.hid h.at_
  clear h
  go_enter Try.func32, Try.ntmps32
  go_wp2
  go_loopw [1, 5] (fun q j wr => ∃ i : Nat, i ≤ len ∧ j = .int .i64 i ∧ q = .int .i64 (k + i : Nat) ∧ Hid (BMarking b len w wr)) (fun _ j _ => len - (intOf j).toNat)
  case atStart => exact ⟨0, Nat.zero_le _, rfl, rfl, HW⟩
  case round =>
    rename_i wr
    obtain ⟨i, hi, rfl, rfl, hm⟩ := hrel
    by_cases hlt : i < len
    · obtain rfl := HA.out (by omega)
      obtain ⟨⟨v, hv⟩, hf⟩ := hm.out.2 i hlt
      have hstep := Lib.hid (fun v => hm.out.step (v := v) hlt)
      clear hm HW HA
      go_wp2
      go_roundw
      case rel => exact ⟨i + 1, by omega, by go_num, by go_num, Lib.hid (hstep.out _)⟩
      case measure => simp [intOf]; omega
    · obtain rfl : i = len := by omega
      go_wp2
      go_ret
      exact ⟨rfl, hm.out.1⟩
end Go.Proofs.Ytldaamgohdnjnaa

/-
  Levels through a series: the program's behindAll, over LevelStep.
-/
namespace Go.Proofs.Ytldaamgohdnjnaa
open Ieee Go.RowKit
set_option linter.unusedVariables false

/-- All of the first n are well. -/
def okn (ok : Nat → Bool) (n : Nat) : Bool := (List.range n).all ok
theorem okn_succ (ok : Nat → Bool) (n : Nat) : okn ok (n + 1) = (okn ok n && ok n) := by unfold okn; rw [List.range_succ, List.all_append]; simp
theorem okn_bad {ok : Nat → Bool} {k n : Nat} (h : k < n) (hb : ok k = false) : okn ok n = false := by
  unfold okn
  rw [List.all_eq_false]
  exact ⟨k, by simpa using h, by simp [hb]⟩
theorem fin_wd {r v : Nat} (h : cn .f32 r = v) (hf : fin .f32 v = true) : r = v := by
  have hN : isN .f32 r = false := by
    rw [← isN_cn, h]
    unfold fin at hf
    cases hn : isN .f32 v
    · rfl
    · rw [hn] at hf; cases hf
  rw [← h, cn_num hN]
section
variable (a b c d : Nat) (zs : List Nat) (ss : List Bool)
/-- The mean and the spread behind the first numbers. -/
def lvM : Nat → Nat × Nat
  | 0 => (a, b)
  | k + 1 => (sM (ss.getD k false) (lvM k).1 (lvM k).2 c d (zs.getD k 0), sP (ss.getD k false) (lvM k).2 c d)
def lvO (k : Nat) : Bool := lsB (ss.getD k false) (lvM a b c d zs ss k).1 (lvM a b c d zs ss k).2 c d (zs.getD k 0)
def lvQ (k : Nat) : Nat := sQ (ss.getD k false) (lvM a b c d zs ss k).1 (lvM a b c d zs ss k).2 c d (zs.getD k 0)
def lvPre : Bool := serB zs && decide (ss.length = zs.length)
def lvAll : Bool := lvPre zs ss && okn (lvO a b c d zs ss) zs.length
end
theorem lsB_t {s : Bool} {a b c d x : Nat} (h : lsB s a b c d x = true) : fin .f32 (sM s a b c d x) = true ∧ fin .f32 (sP s b c d) = true ∧ fin .f32 c = true ∧ fin .f32 d = true ∧ fin .f32 (sQ s a b c d x) = true := by
  unfold lsB at h
  have h1 := (Bool.and_eq_true _ _ ▸ h).2
  have h2 := (Bool.and_eq_true _ _ ▸ h1).1
  have h3 := (Bool.and_eq_true _ _ ▸ h1).2
  have h4 := lvB_fins h2
  unfold fins at h4
  simp at h4
  exact ⟨h4.1, h4.2.1, h4.2.2.1, h4.2.2.2, h3⟩
/-- What a step gives, word by word. -/
theorem lsR_words {s : Bool} {a b c d x : Nat} {w : World} {e : Ending} {w' : World} (h : lsR s a b c d x w e w') :
    ∃ m p n q u, e = .returned (.tuple #[.agg #[.float .f32 m, .float .f32 p, .float .f32 n, .float .f32 q], .float .f32 u, .bool (lsB s a b c d x)]) ∧ (lsB s a b c d x = true → m = sM s a b c d x ∧ p = sP s b c d ∧ n = c ∧ q = d ∧ u = sQ s a b c d x) ∧ Below w.heap.size w w' := by
  obtain ⟨m, p, n, q, u, h1, h2, h3, h4, h5, rfl, hb⟩ := h
  refine ⟨m, p, n, q, u, rfl, fun hB => ?_, hb⟩
  rw [if_pos hB] at h1 h2 h3 h4 h5
  obtain ⟨f1, f2, f3, f4, f5⟩ := lsB_t hB
  exact ⟨fin_wd h1 f1, fin_wd h2 f2, (fin_wd h3 ((fin_congr (cn_cn .f32 c)).trans f3)).trans (fin_wd rfl ((fin_congr (cn_cn .f32 c)).trans f3)).symm, (fin_wd h4 ((fin_congr (cn_cn .f32 d)).trans f4)).trans (fin_wd rfl ((fin_congr (cn_cn .f32 d)).trans f4)).symm, fin_wd h5 f5⟩
/-- A block of models, four numbers each, the first k of which are told. -/
structure Md4 (g n k : Nat) (f : Nat → Nat → Nat) (wr : World) : Prop where
  set_ : ∀ j, j < k → ∀ i, i < 4 → wr.cell? ⟨g, j * 4 + i, none⟩ = some (.float .f32 (f j i))
  ex : ∀ j, j < n * 4 → ∃ v, wr.cell? ⟨g, j, none⟩ = some v
  fz : ∀ j, wr.frozen? ⟨g, j, none⟩ = false
  lt : g < wr.heap.size
section
variable {g n k : Nat} {f : Nat → Nat → Nat} {wr wr' : World}
theorem Md4.start (w : World) (n : Nat) (f : Nat → Nat → Nat) (z : Array Value) (T : TypeId) : Md4 w.heap.size n 0 f (w.alloc (.cells (madeCells z (n * 4)) T)) := by
  refine ⟨fun j hj => by omega, fun j hj => ?_, fun j => World.frozen?_alloc_at _ _ _ _ rfl, by simp⟩
  rw [World.cell?_alloc_at _ _ _ _ rfl]
  exact ⟨_, Array.getElem?_eq_getElem (by rw [size_madeCells]; omega)⟩
theorem Md4.same (h : Md4 g n k f wr) (hs : wr.heap.size ≤ wr'.heap.size) (hb : wr'.heap[g]? = wr.heap[g]?) : Md4 g n k f wr' :=
  ⟨fun j hj i hi => by rw [World.cell?_of_block (a := ⟨g, j * 4 + i, none⟩) hb]; exact h.set_ j hj i hi, fun j hj => by rw [World.cell?_of_block (a := ⟨g, j, none⟩) hb]; exact h.ex j hj,
    fun j => by rw [World.frozen?_of_block (a := ⟨g, j, none⟩) hb]; exact h.fz j, Nat.lt_of_lt_of_le h.lt hs⟩
theorem Md4.step (h : Md4 g n k f wr) (hk : k < n) : Md4 g n (k + 1) f ((((wr.setCell ⟨g, k * 4, none⟩ (.float .f32 (f k 0))).setCell ⟨g, k * 4 + 1, none⟩ (.float .f32 (f k 1))).setCell ⟨g, k * 4 + 2, none⟩ (.float .f32 (f k 2))).setCell ⟨g, k * 4 + 3, none⟩ (.float .f32 (f k 3))) := by
  have hex := fun i (hi : i < 4) => h.ex (k * 4 + i) (by omega)
  refine ⟨fun j hj i hi => ?_, fun j hj => ?_, fun j => by simp only [World.frozen?_setCell]; exact h.fz j, by simpa [World.setCell] using h.lt⟩
  · by_cases e : j = k
    · subst e
      match i, hi with
      | 0, _ =>
        rw [setCell_far (by omega), setCell_far (by omega), setCell_far (by omega)]
        obtain ⟨v, hv⟩ := hex 0 (by omega)
        exact World.cell?_setCell_same' _ _ _ (by rw [show (⟨g, j * 4, none⟩ : Addr) = ⟨g, j * 4 + 0, none⟩ from rfl, hv]; rfl)
      | 1, _ =>
        rw [setCell_far (by omega), setCell_far (by omega)]
        obtain ⟨v, hv⟩ := hex 1 (by omega)
        exact World.cell?_setCell_same' _ _ _ (by rw [setCell_far (by omega), hv]; rfl)
      | 2, _ =>
        rw [setCell_far (by omega)]
        obtain ⟨v, hv⟩ := hex 2 (by omega)
        exact World.cell?_setCell_same' _ _ _ (by rw [setCell_far (by omega), setCell_far (by omega), hv]; rfl)
      | 3, _ =>
        obtain ⟨v, hv⟩ := hex 3 (by omega)
        exact World.cell?_setCell_same' _ _ _ (by rw [setCell_far (by omega), setCell_far (by omega), setCell_far (by omega), hv]; rfl)
    · rw [setCell_far (by omega), setCell_far (by omega), setCell_far (by omega), setCell_far (by omega)]
      exact h.set_ j (by omega) i hi
  · have key : ∀ (W : World) (o : Nat) (v : Value), (∃ u, W.cell? ⟨g, j, none⟩ = some u) → ∃ u, (W.setCell ⟨g, o, none⟩ v).cell? ⟨g, j, none⟩ = some u := fun W o v ⟨u, hu⟩ => by
      by_cases e : j = o
      · subst e; exact ⟨_, World.cell?_setCell_same' _ _ _ (by rw [hu]; rfl)⟩
      · exact ⟨u, by rw [setCell_far e]; exact hu⟩
    exact key _ _ _ (key _ _ _ (key _ _ _ (key _ _ _ (h.ex j hj))))
end
theorem run_make_len4 {P : Program} (w : World) (t e : TypeId) (i : TypeInfo) (z : Value) (ht : P.underlying t = some (.slice e)) (hi : P.info? e = some i) (hz : i.zero = some z) (hs : i.size = 4)
    (len : Nat) (hb : i.bytes * len ≤ 281474976710656) (hl : len ≤ 9223372036854775807) :
    (Instr.makeSlice t (.int .i64 (len : Int)) (.int .i64 (len : Int))).run P w = .ok (.slice (some ⟨w.heap.size, 0, none⟩) len len) (w.alloc (.cells (madeCells z.cells (len * 4)) e)) := by
  have h := run_make (P := P) w t e i z ht hi hz .i64 .i64 (len : Int) (len : Int) (by omega) (Int.le_refl _) (by
    have : ((i.bytes * len : Nat) : Int) ≤ 281474976710656 := by omega
    rwa [Int.natCast_mul] at this) (by omega)
  rw [h, hs]
  simp
theorem Try.infoL : (Try.prog.info? 41).map (fun i => (i.zero, i.size, i.bytes)) = some (some (.agg #[.float .f32 0, .float .f32 0, .float .f32 0, .float .f32 0]), 4, 16) := by kernel_rfl
/-- The models behind all numbers. -/
def lvF (a b c d : Nat) (zs : List Nat) (ss : List Bool) (j i : Nat) : Nat := if i = 0 then (lvM a b c d zs ss (j + 1)).1 else if i = 1 then (lvM a b c d zs ss (j + 1)).2 else if i = 2 then c else d
/-- What behindAll gives. -/
def RetBh (a b c d : Nat) (zs : List Nat) (ss : List Bool) (w : World) (e : Ending) (w' : World) : Prop :=
  ∃ v0 v1, e = .returned (.tuple #[v0, v1, .bool (lvAll a b c d zs ss)]) ∧ Below w.heap.size w w' ∧
    (lvAll a b c d zs ss = true → ∃ g1 g2, v0 = .slice (some ⟨g1, 0, none⟩) zs.length zs.length ∧ v1 = .slice (some ⟨g2, 0, none⟩) zs.length zs.length ∧
      Md4 g1 zs.length zs.length (lvF a b c d zs ss) w' ∧
      FSl w' (some ⟨g2, 0, none⟩) zs.length (tells (lvQ a b c d zs ss) zs.length)) ∧ (lvAll a b c d zs ss = false → v0 = .slice none 0 0 ∧ v1 = .slice none 0 0)
set_option maxHeartbeats 4000000 in
set_option maxRecDepth 100000 in
theorem bhL_any (a b c d : Nat) (a1 : Option Addr) (len cap : Nat) (zs : List Nat) (a2 : Option Addr) (len2 cap2 : Nat) (ss : List Bool) (w : World) (h : FSl w a1 len zs) (h2 : BSl w a2 len2 ss) (hm : len ≤ 1048576) (hm2 : len2 ≤ 1048576) :
    Calls Try.prog 84 #[.agg #[.float .f32 a, .float .f32 b, .float .f32 c, .float .f32 d], .slice a1 len cap, .slice a2 len2 cap2, .func (.func 85) #[] #[]] w (RetBh a b c d zs ss w) := by
  obtain ⟨i0, hi, hz0, hz1, hz2⟩ := info_parts Try.infoR
  obtain ⟨i1, hi1, hz3, hz4, hz5⟩ := info_parts Try.infoL
  have HL := Lib.hid h.1
  have HL2 := Lib.hid h2.1
  have hb0 := (Below.refl w.heap.size w).alloc (Nat.le_refl _) (.cells #[.float .f32 a, .float .f32 b, .float .f32 c, .float .f32 d] 41)
  have HB0 := Lib.hid hb0
  have H := Lib.hid (FSl.below h hb0)
  have H2 := Lib.hid (BSl.below h2 hb0)
  have HBx := Lib.hid (NumsIn.new w [a, b, c, d] 41)
  have HO := Lib.hid h
  have HO2 := Lib.hid h2
  clear h h2 hb0
  cases hs : serB zs
  · have HS := Lib.hid hs
    have HB := Lib.hid (show lvAll a b c d zs ss = false by unfold lvAll lvPre; rw [hs]; rfl)
    clear hs
    go_enter Try.func84, Try.ntmps84
    go_wp2_with (go_at_call 67; refine (implSeries_any _ _ _ _ _ H.out hm).mono ?_; rw [HS.out]; rintro e w' ⟨m, rfl, rfl⟩)
    go_ret3
    exact ⟨_, _, by rw [HB.out]; rfl, below_drewN HB0.out _, fun hh => absurd hh (by rw [HB.out]; simp), fun _ => ⟨rfl, rfl⟩⟩
  · have HS := Lib.hid hs
    by_cases he : len2 = len
    · have hne : ((len2 : Int) != (len : Int)) = false := by rw [bne_eq_false_iff_eq]; omega
      subst he
      have hl96 := (serB_t hs).2.1
      have hl1 := (serB_t hs).1
      rw [HL.out] at hl96 hl1
      have HAl := Lib.hid (show lvAll a b c d zs ss = okn (lvO a b c d zs ss) len2 from by unfold lvAll lvPre; rw [hs, HL.out, HL2.out, decide_eq_true rfl]; rfl)
      have hmk := fun W => run_make_len (P := Try.prog) W 22 32 i0 (.float .f32 0) Try.underlying22 hi hz0 hz1 len2 (by rw [hz2]; omega) (by omega)
      have hmk4 := fun W => run_make_len4 (P := Try.prog) W 109 41 i1 (.agg #[.float .f32 0, .float .f32 0, .float .f32 0, .float .f32 0]) Try.underlying109 hi1 hz3 hz4 len2 (by rw [hz5]; omega) (by omega)
      clear hs hi hz0 hz1 hz2 hi1 hz3 hz4 hz5 hne
      go_enter Try.func84, Try.ntmps84
      go_wp2_with fail
      refine (implSeries_any _ _ _ _ _ H.out hm).mono ?_
      rw [HS.out]
      rintro e w' ⟨m, rfl, rfl⟩
      have HMa := Lib.hid (show ∀ n, Md4 (w.heap.size + 1) len2 0 (lvF a b c d zs ss) ((((w.alloc (.cells #[.float .f32 a, .float .f32 b, .float .f32 c, .float .f32 d] 41)).drewN n).alloc (.cells (madeCells #[.float .f32 0, .float .f32 0, .float .f32 0, .float .f32 0] (len2 * 4)) 41)).alloc (.cells (madeCells #[.float .f32 0] len2) 32)) from fun n => by
        have := (Md4.start ((w.alloc (.cells #[.float .f32 a, .float .f32 b, .float .f32 c, .float .f32 d] 41)).drewN n) len2 (lvF a b c d zs ss) #[.float .f32 0, .float .f32 0, .float .f32 0, .float .f32 0] 41).same (wr' := (((w.alloc (.cells #[.float .f32 a, .float .f32 b, .float .f32 c, .float .f32 d] 41)).drewN n).alloc (.cells (madeCells #[.float .f32 0, .float .f32 0, .float .f32 0, .float .f32 0] (len2 * 4)) 41)).alloc (.cells (madeCells #[.float .f32 0] len2) 32)) (by simp) (heap_alloc_old _ _ (by simp))
        simpa using this)
      have HHa := Lib.hid (show ∀ n, Head 32 (w.heap.size + 1 + 1) len2 [] ((((w.alloc (.cells #[.float .f32 a, .float .f32 b, .float .f32 c, .float .f32 d] 41)).drewN n).alloc (.cells (madeCells #[.float .f32 0, .float .f32 0, .float .f32 0, .float .f32 0] (len2 * 4)) 41)).alloc (.cells (madeCells #[.float .f32 0] len2) 32)) from fun n => by
        have := Head.start (T := 32) (w := ((w.alloc (.cells #[.float .f32 a, .float .f32 b, .float .f32 c, .float .f32 d] 41)).drewN n).alloc (.cells (madeCells #[.float .f32 0, .float .f32 0, .float .f32 0, .float .f32 0] (len2 * 4)) 41)) (n := len2) (by omega)
        simpa [Value.cells] using this)
      have HMb := Lib.hid (show ∀ n, Md4 (w.heap.size + 1 + 1) len2 0 (lvF a b c d zs ss) ((((w.alloc (.cells #[.float .f32 a, .float .f32 b, .float .f32 c, .float .f32 d] 41)).drewN n).alloc (.cells (madeCells #[.float .f32 0] len2) 32)).alloc (.cells (madeCells #[.float .f32 0, .float .f32 0, .float .f32 0, .float .f32 0] (len2 * 4)) 41)) from fun n => by
        have := Md4.start (((w.alloc (.cells #[.float .f32 a, .float .f32 b, .float .f32 c, .float .f32 d] 41)).drewN n).alloc (.cells (madeCells #[.float .f32 0] len2) 32)) len2 (lvF a b c d zs ss) #[.float .f32 0, .float .f32 0, .float .f32 0, .float .f32 0] 41
        simpa using this)
      have HHb := Lib.hid (show ∀ n, Head 32 (w.heap.size + 1) len2 [] ((((w.alloc (.cells #[.float .f32 a, .float .f32 b, .float .f32 c, .float .f32 d] 41)).drewN n).alloc (.cells (madeCells #[.float .f32 0] len2) 32)).alloc (.cells (madeCells #[.float .f32 0, .float .f32 0, .float .f32 0, .float .f32 0] (len2 * 4)) 41)) from fun n => by
        have := (Head.start (T := 32) (w := ((w.alloc (.cells #[.float .f32 a, .float .f32 b, .float .f32 c, .float .f32 d] 41)).drewN n)) (n := len2) (by omega)).same (w' := (((w.alloc (.cells #[.float .f32 a, .float .f32 b, .float .f32 c, .float .f32 d] 41)).drewN n).alloc (.cells (madeCells #[.float .f32 0] len2) 32)).alloc (.cells (madeCells #[.float .f32 0, .float .f32 0, .float .f32 0, .float .f32 0] (len2 * 4)) 41)) (heap_alloc_old _ _ (by simp))
        simpa using this)
      have HA := Lib.hid (show ∀ n o1 o2, NumsIn ((((w.alloc (.cells #[.float .f32 a, .float .f32 b, .float .f32 c, .float .f32 d] 41)).drewN n).alloc o1).alloc o2) w.heap.size [a, b, c, d] from fun n o1 o2 => ((HBx.out.drewN n).alloc o1).alloc o2)
      have HBb := Lib.hid (show ∀ n o1 o2, Below w.heap.size w ((((w.alloc (.cells #[.float .f32 a, .float .f32 b, .float .f32 c, .float .f32 d] 41)).drewN n).alloc o1).alloc o2) from fun n o1 o2 => ((below_drewN HB0.out n).alloc (by simp) o1).alloc (by simp; omega) o2)
      go_upto_region 3 with fail
      go_cut [11, 12] (fun v11 v12 wx => ∃ g1 g2, v11 = .slice (some ⟨g1, 0, none⟩) len2 len2 ∧ v12 = .slice (some ⟨g2, 0, none⟩) len2 len2 ∧ Hid (g1 ≠ g2 ∧ w.heap.size < g1 ∧ w.heap.size < g2) ∧ Hid (NumsIn wx w.heap.size [a, b, c, d]) ∧ Hid (Md4 g1 len2 0 (lvF a b c d zs ss) wx) ∧ Hid (Head 32 g2 len2 [] wx) ∧ Hid (Below w.heap.size w wx))
      case first =>
        go_wp2
        go_region
        all_goals
          go_wp2_with fail
          go_meet
          case rel => first
            | exact ⟨_, _, rfl, rfl, Lib.hid ⟨by omega, by omega, by omega⟩, Lib.hid (HA.out _ _ _), Lib.hid (HMa.out _), Lib.hid (HHa.out _), Lib.hid (HBb.out _ _ _)⟩
            | exact ⟨_, _, rfl, rfl, Lib.hid ⟨by omega, by omega, by omega⟩, Lib.hid (HA.out _ _ _), Lib.hid (HMb.out _), Lib.hid (HHb.out _), Lib.hid (HBb.out _ _ _)⟩
      case rest =>
        obtain ⟨g1, g2, rfl, rfl, hgs, hx0, hm0, hh0, hb0⟩ := hcut
        have hg12 := hgs.out.1
        have hg1 := hgs.out.2.1
        have hg2 := hgs.out.2.2
        clear hmk hmk4 HMa HHa HMb HHb HA HBb
        go_wp2
        go_loopw [34] (fun i wr => ∃ (k : Nat) (rs : List Nat), k ≤ len2 ∧ i = .int .i64 k ∧ Hid (rs.length = k) ∧ Hid (NumsIn wr w.heap.size [(lvM a b c d zs ss k).1, (lvM a b c d zs ss k).2, c, d]) ∧ Hid (Md4 g1 len2 k (lvF a b c d zs ss) wr) ∧ Hid (Head 32 g2 len2 rs wr) ∧ Hid (rs = tells (lvQ a b c d zs ss) k) ∧ Hid (okn (lvO a b c d zs ss) k = true) ∧ Hid (Below w.heap.size w wr)) (fun i _ => len2 - (intOf i).toNat)
        case atStart => exact ⟨0, [], Nat.zero_le _, rfl, Lib.hid rfl, hx0, hm0, hh0, Lib.hid rfl, Lib.hid rfl, hb0⟩
        case round =>
          rename World => wr
          obtain ⟨k, rs, hk, rfl, hrl, hnx, hmd, hhd, hrs, hok, hbel⟩ := hrel
          by_cases hlt : k < len2
          · have hsz := hbel.out.size
            obtain ⟨b1, off1, rfl, hb1, hc1⟩ := HO.out.at (by omega)
            obtain ⟨b2, off2, rfl, hb2, hc2⟩ := HO2.out.at (by omega)
            have hck := hc1 k hlt
            have hcs := hc2 k hlt
            rw [← hbel.out.cell (p := ⟨b1, off1 + k, none⟩) hb1] at hck
            rw [← hbel.out.cell (p := ⟨b2, off2 + k, none⟩) hb2] at hcs
            have HSt := Lib.hid (show lvO a b c d zs ss k = lsB (ss.getD k false) (lvM a b c d zs ss k).1 (lvM a b c d zs ss k).2 c d (zs.getD k 0) ∧ lvQ a b c d zs ss k = sQ (ss.getD k false) (lvM a b c d zs ss k).1 (lvM a b c d zs ss k).2 c d (zs.getD k 0) ∧ (lvM a b c d zs ss (k + 1)).1 = sM (ss.getD k false) (lvM a b c d zs ss k).1 (lvM a b c d zs ss k).2 c d (zs.getD k 0) ∧ (lvM a b c d zs ss (k + 1)).2 = sP (ss.getD k false) (lvM a b c d zs ss k).2 c d from ⟨rfl, rfl, rfl, rfl⟩)
            generalize zs.getD k 0 = x at *
            generalize ss.getD k false = y at *
            obtain ⟨M, hM⟩ : ∃ M, (lvM a b c d zs ss k).1 = M := ⟨_, rfl⟩
            obtain ⟨P, hP⟩ : ∃ P, (lvM a b c d zs ss k).2 = P := ⟨_, rfl⟩
            rw [hM, hP] at hnx HSt
            clear hM hP hc1 hc2 hb1 hb2
            go_upto_region 8 with fail
            go_cut [15] (fun v15 wx => v15 = .bool (lvO a b c d zs ss k) ∧ Hid (lvO a b c d zs ss k = true → NumsIn wx w.heap.size [(lvM a b c d zs ss (k + 1)).1, (lvM a b c d zs ss (k + 1)).2, c, d] ∧ Head 32 g2 len2 (rs ++ [lvQ a b c d zs ss k]) wx) ∧ Hid (Md4 g1 len2 k (lvF a b c d zs ss) wx) ∧ Hid (Below w.heap.size w wx))
            case first =>
              obtain ⟨x0, x1, x2, x3⟩ := hnx.out.c4
              have HN := Lib.hid hnx.out
              have HH := Lib.hid hhd.out
              have HD := Lib.hid hmd.out
              have HB := Lib.hid hbel.out
              have HRl := Lib.hid hrl.out
              clear hnx hhd hmd hbel hrs hok hrl
              go_wp2_with fail
              go_region_with (go_at_call 85; refine (imLvs_any _ _ _ _ _ _ _).mono ?_; intro e w1 hR; obtain ⟨m1, p1, n1, q1, u1, rfl, hv, hb3⟩ := lsR_words hR; have hx1 : NumsIn w1 w.heap.size [M, P, c, d] := NumsIn.below (by first | exact HN.out | exact HN.out.drewN _) hb3; obtain ⟨y0, y1, y2, y3⟩ := hx1.c4; obtain ⟨z0, z1, z2, z3⟩ := hx1.f4; have hh1 : Head 32 g2 len2 rs w1 := HH.out.same (hb3.block g2 (by exact HH.out.lt)); obtain ⟨⟨uu, hcell⟩, hfz⟩ := hh1.cell hlt; have hpg : w.heap.size ≠ g2 := (by omega))
              all_goals
                have hd1 : Md4 g1 len2 k (lvF a b c d zs ss) w1 := HD.out.same (by exact hb3.size) (hb3.block g1 (by exact HD.out.lt))
                have hbw : Below w.heap.size w w1 := by first | exact HB.out.trans (hb3.mono (by exact HB.out.size)) | exact (below_drewN HB.out 1).trans (hb3.mono (by exact HB.out.size))
                have hnw : NumsIn (((((w1.setCell ⟨w.heap.size, 0, none⟩ (.float .f32 m1)).setCell ⟨w.heap.size, 1, none⟩ (.float .f32 p1)).setCell ⟨w.heap.size, 2, none⟩ (.float .f32 n1)).setCell ⟨w.heap.size, 3, none⟩ (.float .f32 q1)).setCell ⟨g2, k, none⟩ (.float .f32 u1)) w.heap.size [m1, p1, n1, q1] :=
                  ((((hx1.put (i := 0) (by simp) m1).put (i := 1) (by simp) p1).put (i := 2) (by simp) n1).put (i := 3) (by simp) q1).set hpg
                have hhw := (hh1.same (w' := (((w1.setCell ⟨w.heap.size, 0, none⟩ (.float .f32 m1)).setCell ⟨w.heap.size, 1, none⟩ (.float .f32 p1)).setCell ⟨w.heap.size, 2, none⟩ (.float .f32 n1)).setCell ⟨w.heap.size, 3, none⟩ (.float .f32 q1)) (by rw [Below.heap_setCell _ _ _ _ (Ne.symm hpg), Below.heap_setCell _ _ _ _ (Ne.symm hpg), Below.heap_setCell _ _ _ _ (Ne.symm hpg), Below.heap_setCell _ _ _ _ (Ne.symm hpg)])).push (by rw [HRl.out]; exact hlt) u1
                rw [HRl.out] at hhw
                have hdw := hd1.same (wr' := (((((w1.setCell ⟨w.heap.size, 0, none⟩ (.float .f32 m1)).setCell ⟨w.heap.size, 1, none⟩ (.float .f32 p1)).setCell ⟨w.heap.size, 2, none⟩ (.float .f32 n1)).setCell ⟨w.heap.size, 3, none⟩ (.float .f32 q1)).setCell ⟨g2, k, none⟩ (.float .f32 u1))) (by simp [World.setCell]) (by
                  have hgp : g1 ≠ w.heap.size := by omega
                  rw [Below.heap_setCell _ _ _ _ hg12, Below.heap_setCell _ _ _ _ hgp, Below.heap_setCell _ _ _ _ hgp, Below.heap_setCell _ _ _ _ hgp, Below.heap_setCell _ _ _ _ hgp])
                have hbz := ((((hbw.setCell (p := ⟨w.heap.size, 0, none⟩) (Nat.le_refl _) (.float .f32 m1)).setCell (p := ⟨w.heap.size, 1, none⟩) (Nat.le_refl _) (.float .f32 p1)).setCell (p := ⟨w.heap.size, 2, none⟩) (Nat.le_refl _) (.float .f32 n1)).setCell (p := ⟨w.heap.size, 3, none⟩) (Nat.le_refl _) (.float .f32 q1)).setCell (p := ⟨g2, k, none⟩) (by show w.heap.size ≤ g2; omega) (.float .f32 u1)
                have HNw := Lib.hid hnw
                have HHw := Lib.hid hhw
                have HDw := Lib.hid hdw
                have HBz := Lib.hid hbz
                have HV := Lib.hid hv
                clear hd1 hbw hnw hhw hdw hbz hx1 hh1 hb3 hv hR y0 y1 y2 y3 z0 z1 z2 z3 hcell hfz x0 x1 x2 x3 HN HH HD HB
                go_wp2_with fail
                go_meet
                case rel =>
                  refine ⟨by rw [HSt.out.1], Lib.hid (fun hO => ?_), HDw, HBz⟩
                  rw [HSt.out.1] at hO
                  obtain ⟨e1, e2, e3, e4, e5⟩ := HV.out hO
                  rw [HSt.out.2.1, HSt.out.2.2.1, HSt.out.2.2.2, ← e1, ← e2, ← e5]
                  refine ⟨?_, HHw.out⟩
                  rw [← e3, ← e4]
                  exact HNw.out
            case rest =>
              obtain ⟨rfl, hnh, hmd1, hbel1⟩ := hcut
              have hHr := Lib.hid hhd.out
              clear hnx hmd hhd hbel HSt
              cases hO : lvO a b c d zs ss k
              · have HF := Lib.hid (show lvAll a b c d zs ss = false by rw [HAl.out]; exact okn_bad hlt hO)
                clear hO hnh hmd1
                go_wp2
                go_ret3
                exact ⟨_, _, by rw [HF.out]; rfl, hbel1.out, fun hh => absurd hh (by rw [HF.out]; simp), fun _ => ⟨rfl, rfl⟩⟩
              · obtain ⟨hn2, hh2⟩ := hnh.out hO
                have HOk := Lib.hid (show okn (lvO a b c d zs ss) (k + 1) = true by rw [okn_succ, hok.out, hO]; rfl)
                obtain ⟨x0, x1, x2, x3⟩ := hn2.c4
                obtain ⟨v0, hv0⟩ := hmd1.out.ex (k * 4) (by omega)
                obtain ⟨v1, hv1⟩ := hmd1.out.ex (k * 4 + 1) (by omega)
                obtain ⟨v2, hv2⟩ := hmd1.out.ex (k * 4 + 2) (by omega)
                obtain ⟨v3, hv3⟩ := hmd1.out.ex (k * 4 + 3) (by omega)
                have hf0 := hmd1.out.fz (k * 4)
                have hf1 := hmd1.out.fz (k * 4 + 1)
                have hf2 := hmd1.out.fz (k * 4 + 2)
                have hf3 := hmd1.out.fz (k * 4 + 3)
                rename World => wy
                have hgp : w.heap.size ≠ g1 := by omega
                have HSt2 := Lib.hid (hmd1.out.step hlt)
                have HN2 := Lib.hid (show NumsIn ((((wy.setCell ⟨g1, k * 4, none⟩ (.float .f32 (lvM a b c d zs ss (k + 1)).1)).setCell ⟨g1, k * 4 + 1, none⟩ (.float .f32 (lvM a b c d zs ss (k + 1)).2)).setCell ⟨g1, k * 4 + 2, none⟩ (.float .f32 c)).setCell ⟨g1, k * 4 + 3, none⟩ (.float .f32 d)) w.heap.size [(lvM a b c d zs ss (k + 1)).1, (lvM a b c d zs ss (k + 1)).2, c, d] from (((hn2.set hgp).set hgp).set hgp).set hgp)
                have HH2 := Lib.hid (hh2.same (w' := ((((wy.setCell ⟨g1, k * 4, none⟩ (.float .f32 (lvM a b c d zs ss (k + 1)).1)).setCell ⟨g1, k * 4 + 1, none⟩ (.float .f32 (lvM a b c d zs ss (k + 1)).2)).setCell ⟨g1, k * 4 + 2, none⟩ (.float .f32 c)).setCell ⟨g1, k * 4 + 3, none⟩ (.float .f32 d))) (by
                  rw [Below.heap_setCell _ _ _ _ (Ne.symm hg12), Below.heap_setCell _ _ _ _ (Ne.symm hg12), Below.heap_setCell _ _ _ _ (Ne.symm hg12), Below.heap_setCell _ _ _ _ (Ne.symm hg12)]))
                have HB2 := Lib.hid ((((hbel1.out.setCell (p := ⟨g1, k * 4, none⟩) (by show w.heap.size ≤ g1; omega) (.float .f32 (lvM a b c d zs ss (k + 1)).1)).setCell (p := ⟨g1, k * 4 + 1, none⟩) (by show w.heap.size ≤ g1; omega) (.float .f32 (lvM a b c d zs ss (k + 1)).2)).setCell (p := ⟨g1, k * 4 + 2, none⟩) (by show w.heap.size ≤ g1; omega) (.float .f32 c)).setCell (p := ⟨g1, k * 4 + 3, none⟩) (by show w.heap.size ≤ g1; omega) (.float .f32 d))
                have HSt3 := Lib.hid (show Md4 g1 len2 (k + 1) (lvF a b c d zs ss) ((((wy.setCell ⟨g1, k * 4, none⟩ (.float .f32 (lvM a b c d zs ss (k + 1)).1)).setCell ⟨g1, k * 4 + 1, none⟩ (.float .f32 (lvM a b c d zs ss (k + 1)).2)).setCell ⟨g1, k * 4 + 2, none⟩ (.float .f32 c)).setCell ⟨g1, k * 4 + 3, none⟩ (.float .f32 d)) from HSt2.out)
                have HRn := Lib.hid (show rs ++ [lvQ a b c d zs ss k] = tells (lvQ a b c d zs ss) (k + 1) by rw [tells_succ, hrs.out])
                have HLn := Lib.hid (show (rs ++ [lvQ a b c d zs ss k]).length = k + 1 by rw [List.length_append, hrl.out]; rfl)
                clear hO hn2 hh2 hnh hmd1 hbel1 hok hrs hrl HSt2 hHr
                go_wp2
                go_roundw
                case rel => exact ⟨k + 1, _, by omega, by go_num, HLn, HN2, HSt3, HH2, HRn, HOk, HB2⟩
                case measure => simp [intOf]; omega
          · have e : k = len2 := by omega
            have HT := Lib.hid (show lvAll a b c d zs ss = true from by rw [HAl.out, ← e]; exact hok.out)
            have HMd := Lib.hid (show Md4 g1 len2 len2 (lvF a b c d zs ss) wr from by rw [e] at hmd; exact hmd.out)
            have HFs := Lib.hid (show FSl wr (some ⟨g2, 0, none⟩) len2 (tells (lvQ a b c d zs ss) len2) from by
              have := (hhd.out.own (by rw [hrl.out]; exact e) (Nat.le_refl _) (by unfold maxLen; omega)).sl
              obtain ⟨A, cp, e1, h2, _⟩ := this
              injection e1 with e1 _ _
              subst e1
              rw [hrs.out, tells_len, e] at h2
              exact h2)
            have HLz := Lib.hid HL.out
            clear e hmd hhd hrs hok hnx hrl
            go_wp2
            go_ret3
            refine ⟨_, _, by rw [HT.out]; rfl, hbel.out, fun _ => ⟨g1, g2, by rw [HLz.out]; rfl, by rw [HLz.out]; rfl, ?_, ?_⟩, fun hh => absurd hh (by rw [HT.out]; simp)⟩
            · rw [HLz.out]; exact HMd.out
            · rw [HLz.out]; exact HFs.out
    · have hne : ((len2 : Int) != (len : Int)) = true := by rw [bne_iff_ne]; omega
      have HB := Lib.hid (show lvAll a b c d zs ss = false by unfold lvAll lvPre; rw [hs, HL.out, HL2.out, decide_eq_false he]; rfl)
      clear hs
      go_enter Try.func84, Try.ntmps84
      go_wp2_with (go_at_call 67; refine (implSeries_any _ _ _ _ _ H.out hm).mono ?_; rw [HS.out]; rintro e w' ⟨m, rfl, rfl⟩)
      go_ret3
      exact ⟨_, _, by rw [HB.out]; rfl, below_drewN HB0.out _, fun hh => absurd hh (by rw [HB.out]; simp), fun _ => ⟨rfl, rfl⟩⟩
end Go.Proofs.Ytldaamgohdnjnaa

/-
  LevelRun of the program.
-/
namespace Go.Proofs.Ytldaamgohdnjnaa
open Ieee Go.RowKit
set_option linter.unusedVariables false

theorem results_t4 {fn : Func} {t u v z : Tmp} (h : fn.results = #[.tmp t, .tmp u, .tmp v, .tmp z]) (tmps : Array Value) (P : Program) (w : World) :
    (results fn tmps).run P w = .ok (.tuple #[tmps.getD t undef, tmps.getD u undef, tmps.getD v undef, tmps.getD z undef]) w := by
  simp [results, h]
theorem okn_t {ok : Nat → Bool} {n : Nat} (h : okn ok n = true) : ∀ k, k < n → ok k = true := fun k hk => List.all_eq_true.1 h k (by simpa using hk)
section
variable (a b c d : Nat) (zs : List Nat) (ss : List Bool)
def lrT0 (j : Nat) : Nat := (lvM a b c d zs ss (j + 1)).1
def lrT1 (j : Nat) : Nat := (lvM a b c d zs ss (j + 1)).2
def lrS : Nat := sum32 (tells (lvQ a b c d zs ss) zs.length)
def lrB : Bool := lvAll a b c d zs ss && fin .f32 (lrS a b c d zs ss)
def lrX0 : List Nat := if lrB a b c d zs ss then tells (lrT0 a b c d zs ss) zs.length else []
def lrX1 : List Nat := if lrB a b c d zs ss then tells (lrT1 a b c d zs ss) zs.length else []
def lrV : Nat := if lrB a b c d zs ss then lrS a b c d zs ss else 0
end
section
variable {a b c d : Nat} {zs : List Nat} {ss : List Bool}
theorem lr_bad (h : lrB a b c d zs ss = false) : lrX0 a b c d zs ss = [] ∧ lrX1 a b c d zs ss = [] ∧ lrV a b c d zs ss = 0 ∧ lrB a b c d zs ss = false := ⟨by unfold lrX0; rw [h]; rfl, by unfold lrX1; rw [h]; rfl, by unfold lrV; rw [h]; rfl, h⟩
theorem lr_good (h : lrB a b c d zs ss = true) : lrX0 a b c d zs ss = tells (lrT0 a b c d zs ss) zs.length ∧ lrX1 a b c d zs ss = tells (lrT1 a b c d zs ss) zs.length ∧ lrV a b c d zs ss = lrS a b c d zs ss := ⟨by unfold lrX0; rw [h]; rfl, by unfold lrX1; rw [h]; rfl, by unfold lrV; rw [h]; rfl⟩
theorem lv_ser (h : lvAll a b c d zs ss = true) : 1 ≤ zs.length ∧ zs.length ≤ 96 ∧ okn (lvO a b c d zs ss) zs.length = true := by
  unfold lvAll lvPre at h
  have h1 := (Bool.and_eq_true _ _ ▸ h).1
  have h2 := (Bool.and_eq_true _ _ ▸ h1).1
  exact ⟨(serB_t h2).1, (serB_t h2).2.1, (Bool.and_eq_true _ _ ▸ h).2⟩
theorem lv_fins (h : lvAll a b c d zs ss = true) : fins (tells (lrT0 a b c d zs ss) zs.length) = true ∧ fins (tells (lrT1 a b c d zs ss) zs.length) = true ∧ fins (tells (lvQ a b c d zs ss) zs.length) = true := by
  have ho := okn_t (lv_ser h).2.2
  have key : ∀ t : Nat → Nat, (∀ k, k < zs.length → fin .f32 (t k) = true) → fins (tells t zs.length) = true := fun t ht => by
    unfold fins tells
    rw [List.all_map, List.all_eq_true]
    exact fun k hk => ht k (by simpa using hk)
  exact ⟨key _ fun k hk => (lsB_t (ho k hk)).1, key _ fun k hk => (lsB_t (ho k hk)).2.1, key _ fun k hk => (lsB_t (ho k hk)).2.2.2.2⟩
theorem lrX0_len : (lrX0 a b c d zs ss).length ≤ 1048576 := by
  unfold lrX0
  split
  · rename_i h
    unfold lrB at h
    have := (lv_ser (Bool.and_eq_true _ _ ▸ h).1).2.1
    rw [tells_len]; omega
  · simp
theorem lrX1_len : (lrX1 a b c d zs ss).length ≤ 1048576 := by
  unfold lrX1
  split
  · rename_i h
    unfold lrB at h
    have := (lv_ser (Bool.and_eq_true _ _ ▸ h).1).2.1
    rw [tells_len]; omega
  · simp
end
/-- Two lists, a number and a bool. -/
def RetL2F (T : TypeId) (xs0 xs1 : List Nat) (x : Nat) (ok : Bool) (w : World) (e : Ending) (w' : World) : Prop :=
  ∃ v0 r0 v1 r1 s, e = .returned (.tuple #[v0, v1, .float .f32 s, .bool ok]) ∧ (FOwn T w.heap.size w' v0 r0 ∧ FOwn T w.heap.size w' v1 r1) ∧ (cnl r0 = xs0 ∧ cnl r1 = xs1) ∧ cn .f32 s = x ∧ Apt v0 v1 ∧ Below w.heap.size w w'
theorem fail_l2f (T : TypeId) {xs0 xs1 : List Nat} {x : Nat} {ok : Bool} (hok : ok = false) (h0 : xs0 = []) (h1 : xs1 = []) (hx : x = 0) {w w' : World} (hb : Below w.heap.size w w') : RetL2F T xs0 xs1 x ok w (.returned (.tuple #[.slice none 0 0, .slice none 0 0, .float .f32 0, .bool false])) w' :=
  ⟨_, [], _, [], 0, by rw [hok], ⟨FOwn.nil .., FOwn.nil ..⟩, ⟨h0.symm, h1.symm⟩, by rw [hx]; exact cn_zero, apt_nil _, hb⟩
theorem RetL2F.res {T : TypeId} {X0 X1 x0 x1 : List Nat} {y0 y1 z : Nat} {ok : Bool} {w : World} {e : Ending} {w' : World} (h : RetL2F T X0 X1 z ok w e w') (hx0 : X0 = x0) (hy0 : x0.length = y0) (hx1 : X1 = x1) (hy1 : x1.length = y1) :
    ∃ A0 c0 d0 r0 A1 c1 d1 r1 s, e = .returned (.tuple #[.slice A0 y0 c0, .slice A1 y1 c1, .float .f32 s, .bool ok]) ∧ (Held w' A0 d0 y0 r0 ∧ cnl r0 = x0 ∧ w.heap.size ≤ d0) ∧ (Held w' A1 d1 y1 r1 ∧ cnl r1 = x1 ∧ w.heap.size ≤ d1) ∧ cn .f32 s = z ∧
      ((0 < y0 → d0 ≠ d1) ∧ (0 < y1 → d1 ≠ d0)) ∧ Below w.heap.size w w' := by
  obtain ⟨v0, r0, v1, r1, s, rfl, h1, h2, h3, h4, hb⟩ := h
  obtain ⟨A0, c0, d0, r0', A1, c1, d1, r1', e1, g1, g2, g3, g4⟩ := RetL2.res (ok := ok) ⟨v0, r0, v1, r1, rfl, h1, h2, h4, hb⟩ hx0 hy0 hx1 hy1
  injection e1 with e1
  injection e1 with e1
  have e2 := congrArg (fun a : Array Value => a.toList) e1
  simp only [List.cons.injEq] at e2
  obtain ⟨rfl, rfl, _⟩ := e2
  exact ⟨A0, c0, d0, r0', A1, c1, d1, r1', s, rfl, g1, g2, h3, g3, g4⟩
/-- What the closures of LevelRun read. -/
def LrI (bl g n : Nat) (f : Nat → Nat → Nat) (_k : Nat) (wr : World) : Prop := wr.cell? ⟨bl, 0, none⟩ = some (.slice (some ⟨g, 0, none⟩) n n) ∧ Md4 g n n f wr
theorem LrI.keep {bl g n B k : Nat} {f : Nat → Nat → Nat} {wr wr' : World} (h : LrI bl g n f k wr) (h1 : bl < B) (h2 : g < B) (hb : Below B wr wr') : LrI bl g n f k wr' :=
  ⟨by rw [hb.cell (p := ⟨bl, 0, none⟩) h1]; exact h.1, h.2.same hb.size (hb.block g h2)⟩
theorem lr1_any (bl g n B0 B k : Nat) (f : Nat → Nat → Nat) (wr : World) (h : LrI bl g n f k wr) (hk : k < n) (hn : n ≤ 96) (hc : cn .f32 (f k 0) = f k 0) :
    Calls Try.prog 88 #[.int .i64 k, .pointer (some ⟨bl, 0, none⟩)] wr (Tells (fun j => f j 0) (LrI bl g n f) B0 B k wr) := by
  have HI := Lib.hid h
  have h1 := h.1
  have h2 := h.2.set_ k hk 0 (by omega)
  rw [Nat.add_zero] at h2
  have HC := Lib.hid hc
  clear h hc
  generalize hx : f k 0 = x at *
  have HX := Lib.hid hx
  clear hx
  go_enter Try.func88, Try.ntmps88
  go_wp2
  go_ret
  exact ⟨_, rfl, by show cn .f32 x = f k 0; rw [HX.out]; exact HC.out, HI.out, Below.refl _ _, rfl⟩
theorem lr2_any (bl g n B0 B k : Nat) (f : Nat → Nat → Nat) (wr : World) (h : LrI bl g n f k wr) (hk : k < n) (hn : n ≤ 96) (hc : cn .f32 (f k 1) = f k 1) :
    Calls Try.prog 89 #[.int .i64 k, .pointer (some ⟨bl, 0, none⟩)] wr (Tells (fun j => f j 1) (LrI bl g n f) B0 B k wr) := by
  have HI := Lib.hid h
  have h1 := h.1
  have h2 := h.2.set_ k hk 1 (by omega)
  have HC := Lib.hid hc
  clear h hc
  generalize hx : f k 1 = x at *
  have HX := Lib.hid hx
  clear hx
  go_enter Try.func89, Try.ntmps89
  go_wp2
  go_ret
  exact ⟨_, rfl, by show cn .f32 x = f k 1; rw [HX.out]; exact HC.out, HI.out, Below.refl _ _, rfl⟩
theorem LrI.drewN {bl g n k : Nat} {f : Nat → Nat → Nat} {wr : World} (h : LrI bl g n f k wr) (m : Nat) : LrI bl g n f k (wr.drewN m) := ⟨h.1, h.2.same (Nat.le_refl _) rfl⟩
theorem LrI.start {w1 w2 : World} {g n bl : Nat} {f : Nat → Nat → Nat} (h : Md4 g n n f w1) (hb : Below w1.heap.size w1 w2) (hc : w2.cell? ⟨bl, 0, none⟩ = some (.slice (some ⟨g, 0, none⟩) n n)) : LrI bl g n f 0 w2 :=
  ⟨hc, h.same hb.size (hb.block g h.lt)⟩
set_option maxHeartbeats 4000000 in
set_option maxRecDepth 100000 in
theorem imLr_any (a b c d : Nat) (a1 : Option Addr) (len cap : Nat) (zs : List Nat) (a2 : Option Addr) (len2 cap2 : Nat) (ss : List Bool) (w : World) (h : FSl w a1 len zs) (h2 : BSl w a2 len2 ss) (hm : len ≤ 1048576) (hm2 : len2 ≤ 1048576) :
    Calls Try.prog 29 #[.agg #[.float .f32 a, .float .f32 b, .float .f32 c, .float .f32 d], .slice a1 len cap, .slice a2 len2 cap2] w (RetL2F 32 (lrX0 a b c d zs ss) (lrX1 a b c d zs ss) (lrV a b c d zs ss) (lrB a b c d zs ss) w) := by
  have hmf : ∀ (fn : Fn) (first cap : Array Value) (w : World), (Instr.makeFunc fn first cap).run Try.prog w = .ok (.func fn first cap) w := fun _ _ _ _ => rfl
  have HL := Lib.hid h.1
  have hb0 := (Below.refl w.heap.size w).alloc (Nat.le_refl _) (.cells #[.float .f32 a, .float .f32 b, .float .f32 c, .float .f32 d] 41)
  have HB0 := Lib.hid hb0
  have H := Lib.hid (FSl.below h hb0)
  have H2 := Lib.hid (BSl.below h2 hb0)
  have HBx := Lib.hid (NumsIn.new w [a, b, c, d] 41)
  obtain ⟨x0, x1, x2, x3⟩ := HBx.out.c4
  clear h h2 hb0
  cases hA : lvAll a b c d zs ss
  · have HA := Lib.hid hA
    have HB := Lib.hid (lr_bad (show lrB a b c d zs ss = false by unfold lrB; rw [hA]; rfl))
    clear hA
    go_enter Try.func29, Try.ntmps29
    go_wp2_with fail
    refine (bhL_any _ _ _ _ _ _ _ _ _ _ _ _ _ H.out H2.out hm hm2).mono ?_
    rintro e w1 ⟨v0, v1, rfl, hb, _, hv⟩
    rw [HA.out]
    obtain ⟨rfl, rfl⟩ := hv HA.out
    have HBl := Lib.hid (HB0.out.trans (hb.mono (by simp)))
    clear hb hv
    go_wp2
    (try simp only [Exit.inBlock, Exit.then])
    refine bodyPost_ret (results_t4 rfl _ _ _) rfl ?_
    exact fail_l2f _ HB.out.2.2.2 HB.out.1 HB.out.2.1 HB.out.2.2.1 (HBl.out.alloc (by have := HBl.out.size; simpa using this) _)
  · have HA := Lib.hid hA
    have HF := Lib.hid (lv_fins hA)
    have hl := lv_ser hA
    rw [HL.out] at hl
    have hl1 := hl.1
    have hl96 := hl.2.1
    have HO := Lib.hid (okn_t hl.2.2)
    have hS := show lrB a b c d zs ss = fin .f32 (lrS a b c d zs ss) by unfold lrB; rw [hA]; rfl
    have HSb := Lib.hid hS
    have HLz := Lib.hid HL.out
    clear hA hl hS
    go_enter Try.func29, Try.ntmps29
    go_wp2_with fail
    refine (bhL_any _ _ _ _ _ _ _ _ _ _ _ _ _ H.out H2.out hm hm2).mono ?_
    rintro e w1 ⟨v0, v1, rfl, hb, hg, _⟩
    rw [HA.out]
    obtain ⟨g1, g2, rfl, rfl, hmd, hfs⟩ := hg HA.out
    rw [HLz.out] at hmd hfs ⊢
    have HBl := Lib.hid (HB0.out.trans (hb.mono (by simp)))
    have hws := HBl.out.size
    have HMd := Lib.hid hmd
    have HA1 := Lib.hid ((Below.refl w1.heap.size w1).alloc (Nat.le_refl _) (.cells #[.slice (some ⟨g1, 0, none⟩) len len] 109))
    have HFs := Lib.hid (FSl.below hfs HA1.out)
    have HI0 := Lib.hid (show LrI w1.heap.size g1 len (lvF a b c d zs ss) 0 (w1.alloc (.cells #[.slice (some ⟨g1, 0, none⟩) len len] 109)) from LrI.start hmd HA1.out (by rw [World.cell?_alloc_at _ _ _ _ rfl]; rfl))
    have hgl := hmd.lt
    clear hb hg hmd hfs
    go_wp2_with fail
    refine (implSumNumbers_any _ _ _ _ _ HFs.out (by omega)).mono ?_
    rw [if_pos (by omega), decide_eq_true (by omega)]
    rintro e w' ⟨s, m, hs, rfl, rfl⟩
    have HS := Lib.hid (show cn .f32 s = lrS a b c d zs ss from by rw [hs]; unfold lrS; rw [HLz.out])
    clear hs
    cases hf : fin .f32 (lrS a b c d zs ss)
    · have HB := Lib.hid (lr_bad (HSb.out.trans hf))
      have HFi := Lib.hid (show fin .f32 s = false from (fin_congr (HS.out.trans (by rw [← HS.out, cn_cn]))).trans hf)
      clear hf
      go_wp2_with fail
      refine (isFinite_any _ _).mono ?_
      rw [HFi.out]
      rintro e w' ⟨m2, rfl, rfl⟩
      go_wp2
      (try simp only [Exit.inBlock, Exit.then])
      refine bodyPost_ret (results_t4 rfl _ _ _) rfl ?_
      exact fail_l2f _ HB.out.2.2.2 HB.out.1 HB.out.2.1 HB.out.2.2.1 (below_drewN (HBl.out.trans (HA1.out.mono hws)) _)
    · have HB := Lib.hid (HSb.out.trans hf)
      have HG := Lib.hid (lr_good (HSb.out.trans hf))
      have HFi := Lib.hid (show fin .f32 s = true from (fin_congr (HS.out.trans (by rw [← HS.out, cn_cn]))).trans hf)
      clear hf
      go_wp2_with fail
      refine (isFinite_any _ _).mono ?_
      rw [HFi.out]
      rintro e w' ⟨m2, rfl, rfl⟩
      go_wp2_with fail
      have HC0 := Lib.hid (show ∀ k, k < len → cn .f32 (lvF a b c d zs ss k 0) = lvF a b c d zs ss k 0 from fun k hk => cn_num (by
        have h1 := (lsB_t (HO.out k hk)).1
        have e : lvF a b c d zs ss k 0 = sM (ss.getD k false) (lvM a b c d zs ss k).1 (lvM a b c d zs ss k).2 c d (zs.getD k 0) := rfl
        rw [e]
        unfold fin at h1
        cases hn : isN .f32 (sM (ss.getD k false) (lvM a b c d zs ss k).1 (lvM a b c d zs ss k).2 c d (zs.getD k 0))
        · rfl
        · rw [hn] at h1; cases h1))
      have HC1 := Lib.hid (show ∀ k, k < len → cn .f32 (lvF a b c d zs ss k 1) = lvF a b c d zs ss k 1 from fun k hk => cn_num (by
        have h1 := (lsB_t (HO.out k hk)).2.1
        have e : lvF a b c d zs ss k 1 = sP (ss.getD k false) (lvM a b c d zs ss k).2 c d := rfl
        rw [e]
        unfold fin at h1
        cases hn : isN .f32 (sP (ss.getD k false) (lvM a b c d zs ss k).2 c d)
        · rfl
        · rw [hn] at h1; cases h1))
      have HA2 := Lib.hid (fun q => below_drewN HA1.out q)
      have HX0 := Lib.hid (HG.out.1)
      have HX1 := Lib.hid (HG.out.2.1)
      have HX2 := Lib.hid (HG.out.2.2)
      refine (places_any 88 #[.pointer (some ⟨w1.heap.size, 0, none⟩)] (fun j => lvF a b c d zs ss j 0) (LrI w1.heap.size g1 len (lvF a b c d zs ss)) (w1.heap.size + 1) len _ (enter_of Try.func88 rfl rfl) (by omega) (by simp) (HI0.out.drewN _) (fun k wr wr' h hb => h.keep (by simp) (by simp; omega) hb)
        (fun k wr hk hlt h => lr1_any _ _ _ _ _ _ _ _ h hk hl96 (HC0.out k hk))).mono ?_
      rintro e w2 ⟨u0, r0, rfl, ho0, hx0, hb2⟩
      have hft : fins (tells (fun j => lvF a b c d zs ss j 0) len) = true := by rw [← HLz.out]; exact HF.out.1
      have HI2 := Lib.hid (show LrI w1.heap.size g1 len (lvF a b c d zs ss) 0 w2 from (HI0.out.drewN (m + m2)).keep (by omega) (by omega) hb2)
      have hw12 : w1.heap.size + 1 ≤ w2.heap.size := by have := hb2.size; simpa using this
      have HB2 := Lib.hid (HBl.out.trans (((HA2.out (m + m2)).mono hws).trans (hb2.mono (by omega))))
      have HO0 := Lib.hid (ho0.mono (show w.heap.size ≤ _ by simp; omega))
      have HC2 := Lib.hid (show cnl r0 = lrX0 a b c d zs ss from by
        rw [HX0.out, hx0]
        unfold lstR
        rw [hft, HLz.out]; rfl)
      rw [hft]
      clear hx0 hb2 hft ho0
      go_wp2_with fail
      refine (places_any 89 #[.pointer (some ⟨w1.heap.size, 0, none⟩)] (fun j => lvF a b c d zs ss j 1) (LrI w1.heap.size g1 len (lvF a b c d zs ss)) w2.heap.size len _ (enter_of Try.func89 rfl rfl) (by omega) (Nat.le_refl _) HI2.out (fun k wr wr' h hb => h.keep (by omega) (by omega) hb)
        (fun k wr hk hlt h => lr2_any _ _ _ _ _ _ _ _ h hk hl96 (HC1.out k hk))).mono ?_
      rintro e w3 ⟨u1, r1, rfl, ho1, hx1, hb3⟩
      have hft : fins (tells (fun j => lvF a b c d zs ss j 1) len) = true := by rw [← HLz.out]; exact HF.out.2.1
      have HC3 := Lib.hid (show cnl r1 = lrX1 a b c d zs ss from by
        rw [HX1.out, hx1]
        unfold lstR
        rw [hft, HLz.out]; rfl)
      have HO1 := Lib.hid (ho1.mono (show w.heap.size ≤ w2.heap.size by omega))
      have HO0' := Lib.hid (FOwn.keepS HO0.out hb3)
      have HAp := Lib.hid (show Apt u0 u1 from fun b e0 e1 => by have h1 := (HO0.out.lt b e0).2; have h2 := (ho1.lt b e1).1; omega)
      have HB3 := Lib.hid (HB2.out.trans (hb3.mono (by omega)))
      rw [hft]
      clear hx1 hb3 hft ho1
      go_wp2
      (try simp only [Exit.inBlock, Exit.then])
      refine bodyPost_ret (results_t4 rfl _ _ _) rfl ?_
      exact ⟨u0, r0, u1, r1, s, by rw [HB.out]; rfl, ⟨HO0'.out, HO1.out⟩, ⟨HC2.out, HC3.out⟩, HS.out.trans HX2.out.symm, HAp.out, HB3.out⟩
end Go.Proofs.Ytldaamgohdnjnaa

/-
  LevelRun of the model.
-/
namespace Go.Proofs.Ytldaamgohdnjnaa
open Ieee Go.RowKit
set_option linter.unusedVariables false

theorem seen_any (a1 : Option Addr) (len cap : Nat) (zs : List Nat) (a2 : Option Addr) (len2 cap2 : Nat) (ss : List Bool) (w : World) (h : FSl w a1 len zs) (h2 : BSl w a2 len2 ss) (hm : len ≤ 1048576) :
    Calls Try.prog 82 #[.slice a1 len cap, .slice a2 len2 cap2] w (RetV (.bool (lvPre zs ss)) w) := by
  have H := Lib.hid h
  have HL := Lib.hid h.1
  have HL2 := Lib.hid h2.1
  clear h h2
  cases hs : serB zs
  · have HS := Lib.hid hs
    have HB := Lib.hid (show lvPre zs ss = false by unfold lvPre; rw [hs]; rfl)
    clear hs
    go_enter Try.func82, Try.ntmps82
    go_wp2_with (go_at_call 64; refine (specSeries_any _ _ _ _ _ H.out hm).mono ?_; rw [HS.out]; rintro e w' ⟨m, rfl, rfl⟩)
    go_ret
    exact ⟨_, congrArg (fun b => Ending.returned (Value.bool b)) HB.out.symm, rfl⟩
  · have HS := Lib.hid hs
    have HB := Lib.hid (show lvPre zs ss = ((len2 : Int) == (len : Int)) from by
      unfold lvPre; rw [hs, HL.out, HL2.out]
      by_cases he : len2 = len
      · subst he; simp
      · have : ((len2 : Int) == (len : Int)) = false := by rw [beq_eq_false_iff_ne]; omega
        rw [this, decide_eq_false he]; rfl)
    clear hs
    go_enter Try.func82, Try.ntmps82
    go_wp2_with (go_at_call 64; refine (specSeries_any _ _ _ _ _ H.out hm).mono ?_; rw [HS.out]; rintro e w' ⟨m, rfl, rfl⟩)
    go_ret
    exact ⟨_, congrArg (fun b => Ending.returned (Value.bool b)) HB.out.symm, rfl⟩
theorem lv_bad_pre {a b c d : Nat} {zs : List Nat} {ss : List Bool} (h : lvPre zs ss = false) : lrB a b c d zs ss = false := by unfold lrB lvAll; rw [h]; rfl
theorem lsB_lv {s : Bool} {a b c d x : Nat} (h : lsB s a b c d x = true) : lvB a b c d = true := by
  unfold lsB lsB0 at h
  have h1 := (Bool.and_eq_true _ _ ▸ h).1
  exact (Bool.and_eq_true _ _ ▸ h1).1
theorem lv_bad_lv {a b c d : Nat} {zs : List Nat} {ss : List Bool} (h : lvB a b c d = false) : lrB a b c d zs ss = false := by
  unfold lrB
  cases hA : lvAll a b c d zs ss
  · rfl
  · have h2 := okn_t (lv_ser hA).2.2 0 (by have := (lv_ser hA).1; omega)
    have h3 := lsB_lv h2
    rw [show (lvM a b c d zs ss 0).1 = a from rfl, show (lvM a b c d zs ss 0).2 = b from rfl, h] at h3
    cases h3
theorem apt_sw {T : TypeId} {B : Nat} {w w' : World} {v v' : Value} {rs : List Nat} {o : Obj} (h : FOwn T B w v' rs) (ha : Apt v v') (hg : (w.alloc o).grownBy w' v.ownBlock) : FOwn T B w' v' rs := by
  refine World.ownsRow.kept (World.ownsRow.alloc h o) hg ?_
  cases hv : v'.ownBlock with
  | none => exact .inl rfl
  | some b => exact .inr fun e => ha b e.symm hv
theorem apt_swL {T : TypeId} {B : Nat} {w w' : World} {v v' : Value} {rs : List Nat} {o : Obj} (h : FOwn T B w v rs) (ha : Apt v v') (hg : (w.alloc o).grownBy w' v'.ownBlock) : FOwn T B w' v rs := by
  refine World.ownsRow.kept (World.ownsRow.alloc h o) hg ?_
  cases hv : v.ownBlock with
  | none => exact .inl rfl
  | some b => exact .inr fun e => ha b hv e.symm
/-- A struct of numbers in a block that is no row's own stays as it was. -/
theorem NumsIn.grown {w w' : World} {p n : Nat} {xs : List Nat} {row : Option Nat} {o : Obj} (h : NumsIn w p xs) (hg : ((w.drewN n).alloc o).grownBy w' row) (hne : some p ≠ row) : NumsIn w' p xs := by
  have hb : w'.heap[p]? = w.heap[p]? := by
    rw [hg.block p (by simp; have := h.lt; omega) hne]
    exact heap_alloc_old (w.drewN n) o h.lt
  have hs := hg.size
  refine ⟨by have := h.lt; simp at hs; omega, fun i hi => ⟨?_, ?_⟩⟩
  · rw [World.cell?_of_block (a := ⟨p, i, none⟩) hb]; exact (h.2 i hi).1
  · rw [World.frozen?_of_block (a := ⟨p, i, none⟩) hb]; exact (h.2 i hi).2
theorem cellFar {w : World} {b c i o : Nat} {u : Value} (h : c ≠ b) : (w.setCell ⟨b, i, none⟩ u).cell? ⟨c, o, none⟩ = w.cell? ⟨c, o, none⟩ :=
  World.cell?_setCell_other _ _ _ _ (by intro e; injection e with e1 _ _; exact h e1.symm)
theorem cellFar4 {w : World} {b c o : Nat} {u0 u1 u2 u3 : Value} (h : c ≠ b) : ((((w.setCell ⟨b, 0, none⟩ u0).setCell ⟨b, 1, none⟩ u1).setCell ⟨b, 2, none⟩ u2).setCell ⟨b, 3, none⟩ u3).cell? ⟨c, o, none⟩ = w.cell? ⟨c, o, none⟩ := by
  rw [cellFar h, cellFar h, cellFar h, cellFar h]
theorem FOwn.setp {T : TypeId} {B p i : Nat} {w : World} {v x : Value} {rs : List Nat} (h : FOwn T B w v rs) (hp : p < B) : FOwn T B (w.setCell ⟨p, i, none⟩ x) v rs := by
  refine ⟨h.1, ?_⟩
  rcases h.2 with h2 | ⟨g, cap, cur, rfl, h3, h4, h5⟩
  · exact .inl h2
  · exact .inr ⟨g, cap, cur, rfl, h3, by rw [Below.heap_setCell _ _ _ _ (by show g ≠ p; omega)]; exact h4, h5⟩
theorem FOwn.setne {T : TypeId} {B p i : Nat} {w : World} {v x : Value} {rs : List Nat} (h : FOwn T B w v rs) (hp : v.ownBlock ≠ some p) : FOwn T B (w.setCell ⟨p, i, none⟩ x) v rs := by
  refine ⟨h.1, ?_⟩
  rcases h.2 with h2 | ⟨g, cap, cur, rfl, h3, h4, h5⟩
  · exact .inl h2
  · exact .inr ⟨g, cap, cur, rfl, h3, by rw [Below.heap_setCell _ _ _ _ (by show g ≠ p; intro e; subst e; exact hp rfl)]; exact h4, h5⟩
theorem sum32_more (t : Nat → Nat) (k : Nat) : sum32 (tells t (k + 1)) = aop .add .f32 (sum32 (tells t k)) (cn .f32 (t k)) := by
  rw [tells_succ]; unfold sum32; rw [List.foldl_append]; rfl
set_option maxHeartbeats 4000000 in
set_option maxRecDepth 100000 in
theorem spLr_any (a b c d : Nat) (a1 : Option Addr) (len cap : Nat) (zs : List Nat) (a2 : Option Addr) (len2 cap2 : Nat) (ss : List Bool) (w : World) (h : FSl w a1 len zs) (h2 : BSl w a2 len2 ss) (hm : len ≤ 1048576) (hm2 : len2 ≤ 1048576) :
    Calls Try.prog 26 #[.agg #[.float .f32 a, .float .f32 b, .float .f32 c, .float .f32 d], .slice a1 len cap, .slice a2 len2 cap2] w (RetL2F 32 (lrX0 a b c d zs ss) (lrX1 a b c d zs ss) (lrV a b c d zs ss) (lrB a b c d zs ss) w) := by
  obtain ⟨i0, hi, hz0, hz1, hz2⟩ := info_parts Try.infoR
  have HL := Lib.hid h.1
  have HL2 := Lib.hid h2.1
  have hb0 := (Below.refl w.heap.size w).alloc (Nat.le_refl _) (.cells #[.float .f32 a, .float .f32 b, .float .f32 c, .float .f32 d] 41)
  have HB0 := Lib.hid hb0
  have H := Lib.hid (FSl.below h hb0)
  have H2 := Lib.hid (BSl.below h2 hb0)
  have HO := Lib.hid h
  have HO2 := Lib.hid h2
  have HBx := Lib.hid (NumsIn.new w [a, b, c, d] 41)
  clear h h2 hb0
  cases hv : lvB a b c d
  · have HV := Lib.hid hv
    have HB := Lib.hid (lr_bad (lv_bad_lv (zs := zs) (ss := ss) hv))
    clear hv
    go_enter Try.func26, Try.ntmps26
    go_wp2_with fail
    refine (splv_any _ _ _ _ _ _ HBx.out).mono ?_
    rw [HV.out]
    rintro e w' ⟨m, rfl, rfl⟩
    go_wp2
    (try simp only [Exit.inBlock, Exit.then])
    refine bodyPost_ret (results_t4 rfl _ _ _) rfl ?_
    exact fail_l2f _ HB.out.2.2.2 HB.out.1 HB.out.2.1 HB.out.2.2.1 (below_drewN HB0.out _)
  · have HV := Lib.hid hv
    cases hp : lvPre zs ss
    · have HP := Lib.hid hp
      have HB := Lib.hid (lr_bad (lv_bad_pre (a := a) (b := b) (c := c) (d := d) hp))
      clear hv hp
      go_enter Try.func26, Try.ntmps26
      go_wp2_with fail
      refine (splv_any _ _ _ _ _ _ HBx.out).mono ?_
      rw [HV.out]
      rintro e w' ⟨m, rfl, rfl⟩
      go_wp2_with fail
      refine (seen_any _ _ _ _ _ _ _ _ _ (FSl.drewN H.out m) (BSl.drewN H2.out m) hm).mono ?_
      rw [HP.out]
      rintro e w' ⟨m2, rfl, rfl⟩
      go_wp2
      (try simp only [Exit.inBlock, Exit.then])
      refine bodyPost_ret (results_t4 rfl _ _ _) rfl ?_
      exact fail_l2f _ HB.out.2.2.2 HB.out.1 HB.out.2.1 HB.out.2.2.1 (below_drewN HB0.out _)
    · have HP := Lib.hid hp
      have hser : serB zs = true ∧ len2 = len := by
        unfold lvPre at hp
        have e2 := of_decide_eq_true (Bool.and_eq_true _ _ ▸ hp).2
        rw [HL.out, HL2.out] at e2
        exact ⟨(Bool.and_eq_true _ _ ▸ hp).1, e2⟩
      obtain ⟨hs, rfl⟩ := hser
      have hl96 := (serB_t hs).2.1
      have hl1 := (serB_t hs).1
      rw [HL.out] at hl96 hl1
      have HAl := Lib.hid (show lvAll a b c d zs ss = okn (lvO a b c d zs ss) len2 from by unfold lvAll; rw [hp, HL.out]; rfl)
      have HNo := Lib.hid (fun k (hk : k < len2) (ho : lvO a b c d zs ss k = false) => lr_bad (a := a) (b := b) (c := c) (d := d) (zs := zs) (ss := ss) (by unfold lrB; rw [HAl.out, okn_bad hk ho]; rfl))
      have HOf := Lib.hid (fun (W : World) (hW : W.heap.size = w.heap.size + 1) (o : Obj) => (show FOwn 32 (w.heap.size + 1) ((W.alloc (.cells #[] 32)).alloc o) (.slice (some ⟨w.heap.size + 1, 0, none⟩) 0 0) [] from by
        have := (FOwn.made (T := 32) (B := w.heap.size + 1) W (by omega)).alloc o
        rwa [hW] at this))
      have HOg := Lib.hid (fun (W : World) (hW : W.heap.size = w.heap.size + 1) (o : Obj) => (show FOwn 32 (w.heap.size + 1) ((W.alloc o).alloc (.cells #[] 32)) (.slice (some ⟨w.heap.size + 1 + 1, 0, none⟩) 0 0) [] from by
        have := FOwn.made (T := 32) (B := w.heap.size + 1) (W.alloc o) (by simp; omega)
        rwa [show (W.alloc o).heap.size = w.heap.size + 1 + 1 by simp; omega] at this))
      have HAp0 := Lib.hid (show Apt (.slice (some ⟨w.heap.size + 1, 0, none⟩) 0 0) (.slice (some ⟨w.heap.size + 1 + 1, 0, none⟩) 0 0) from fun b e0 e1 => by simp [Value.ownBlock] at e0 e1; omega)
      clear hv hp hs
      go_enter Try.func26, Try.ntmps26
      go_wp2_with fail
      refine (splv_any _ _ _ _ _ _ HBx.out).mono ?_
      rw [HV.out]
      rintro e w' ⟨m, rfl, rfl⟩
      go_wp2_with fail
      refine (seen_any _ _ _ _ _ _ _ _ _ (FSl.drewN H.out m) (BSl.drewN H2.out m) hm).mono ?_
      rw [HP.out]
      rintro e w' ⟨m2, rfl, rfl⟩
      have HF0 := Lib.hid (HOf.out ((w.alloc (.cells #[.float .f32 a, .float .f32 b, .float .f32 c, .float .f32 d] 41)).drewN (m + m2)) (by simp) (.cells #[] 32))
      have HF1 := Lib.hid (HOg.out ((w.alloc (.cells #[.float .f32 a, .float .f32 b, .float .f32 c, .float .f32 d] 41)).drewN (m + m2)) (by simp) (.cells #[] 32))
      have HX0 := Lib.hid (((HBx.out.drewN (m + m2)).alloc (.cells #[] 32)).alloc (.cells #[] 32))
      have HB1 := Lib.hid (((below_drewN HB0.out (m + m2)).alloc (by simp) (.cells #[] 32)).alloc (by simp; omega) (.cells #[] 32))
      clear HOf HOg
      go_wp2
      go_loopw [10, 11, 12, 29] (fun v0 v1 v2 i wr => ∃ (k : Nat) (r0 r1 : List Nat) (s : Nat), k ≤ len2 ∧ i = .int .i64 k ∧ v2 = .float .f32 s ∧ Hid (r0.length = k ∧ r1.length = k) ∧ Hid (NumsIn wr w.heap.size [(lvM a b c d zs ss k).1, (lvM a b c d zs ss k).2, c, d]) ∧ Hid (FOwn 32 (w.heap.size + 1) wr v0 r0) ∧ Hid (FOwn 32 (w.heap.size + 1) wr v1 r1) ∧ Hid (Apt v0 v1) ∧ Hid (r0 = tells (lrT0 a b c d zs ss) k ∧ r1 = tells (lrT1 a b c d zs ss) k) ∧ Hid (cn .f32 s = sum32 (tells (lvQ a b c d zs ss) k)) ∧ Hid (okn (lvO a b c d zs ss) k = true) ∧ Hid (Below w.heap.size w wr) ∧ w.heap.size < wr.heap.size) (fun _ _ _ i _ => len2 - (intOf i).toNat)
      case atStart => exact ⟨0, [], [], 0, Nat.zero_le _, rfl, rfl, Lib.hid ⟨rfl, rfl⟩, HX0, HF0, HF1, HAp0, Lib.hid ⟨rfl, rfl⟩, Lib.hid cn_zero, Lib.hid rfl, HB1, by simp; omega⟩
      case round =>
        rename World => wr
        obtain ⟨k, r0, r1, s, hk, rfl, rfl, hll, hnx, ho0, ho1, hap, hrr, hs, hok, hbel, hszz⟩ := hrel
        by_cases hlt : k < len2
        · obtain ⟨b1, off1, rfl, hb1, hc1⟩ := HO.out.at (by omega)
          obtain ⟨b2, off2, rfl, hb2, hc2⟩ := HO2.out.at (by omega)
          have hck := hc1 k hlt
          have hcs := hc2 k hlt
          rw [← hbel.out.cell (p := ⟨b1, off1 + k, none⟩) hb1] at hck
          rw [← hbel.out.cell (p := ⟨b2, off2 + k, none⟩) hb2] at hcs
          have HSt := Lib.hid (show lvO a b c d zs ss k = lsB (ss.getD k false) (lvM a b c d zs ss k).1 (lvM a b c d zs ss k).2 c d (zs.getD k 0) ∧ lvQ a b c d zs ss k = sQ (ss.getD k false) (lvM a b c d zs ss k).1 (lvM a b c d zs ss k).2 c d (zs.getD k 0) ∧ (lvM a b c d zs ss (k + 1)).1 = sM (ss.getD k false) (lvM a b c d zs ss k).1 (lvM a b c d zs ss k).2 c d (zs.getD k 0) ∧ (lvM a b c d zs ss (k + 1)).2 = sP (ss.getD k false) (lvM a b c d zs ss k).2 c d from ⟨rfl, rfl, rfl, rfl⟩)
          generalize zs.getD k 0 = x at *
          generalize ss.getD k false = y at *
          obtain ⟨M, hM⟩ : ∃ M, (lvM a b c d zs ss k).1 = M := ⟨_, rfl⟩
          obtain ⟨P, hP⟩ : ∃ P, (lvM a b c d zs ss k).2 = P := ⟨_, rfl⟩
          rw [hM, hP] at hnx HSt
          have hb1w : b1 < wr.heap.size := by omega
          have hb2w : b2 < wr.heap.size := by omega
          clear hM hP hc1 hc2 hb1 hb2
          go_upto_region 9 with fail
          go_cut [14, 15, 16] (fun v14 v15 v16 wx => ∃ g u, v14 = .pointer (some ⟨g, 0, none⟩) ∧ v15 = .float .f32 u ∧ v16 = .bool (lvO a b c d zs ss k) ∧ Hid (lvO a b c d zs ss k = true → NumsIn wx g [(lvM a b c d zs ss (k + 1)).1, (lvM a b c d zs ss (k + 1)).2, c, d] ∧ u = lvQ a b c d zs ss k) ∧ g ≠ w.heap.size ∧ Hid (NumsIn wx w.heap.size [M, P, c, d]) ∧ Hid (FOwn 32 (w.heap.size + 1) wx u10 r0) ∧ Hid (FOwn 32 (w.heap.size + 1) wx u11 r1) ∧ Hid (Below w.heap.size w wx) ∧ w.heap.size < wx.heap.size)
          case first =>
            obtain ⟨x0, x1, x2, x3⟩ := hnx.out.c4
            have HN := Lib.hid hnx.out
            have HFa := Lib.hid ho0.out
            have HFb := Lib.hid ho1.out
            have HB := Lib.hid hbel.out
            clear hnx ho0 ho1 hbel hap hrr hs hok hll
            go_wp2_with fail
            go_region_held3 (fun w' => w'.cell? ⟨w.heap.size, 0, none⟩ = some (.float .f32 M) ∧ w'.cell? ⟨w.heap.size, 1, none⟩ = some (.float .f32 P) ∧ w'.cell? ⟨w.heap.size, 2, none⟩ = some (.float .f32 c) ∧ w'.cell? ⟨w.heap.size, 3, none⟩ = some (.float .f32 d) ∧ w'.cell? ⟨b1, off1 + k, none⟩ = some (.float .f32 x) ∧ w'.cell? ⟨b2, off2 + k, none⟩ = some (.bool y)) (first | exact ⟨k0, k1, k2, k3, k4, k5⟩ | go_keep | exact ⟨(cellFar4 (by omega)).trans k0, (cellFar4 (by omega)).trans k1, (cellFar4 (by omega)).trans k2, (cellFar4 (by omega)).trans k3, (cellFar4 (by omega)).trans k4, (cellFar4 (by omega)).trans k5⟩)
              ((go_at_call 83; refine (spLvs_any _ _ _ _ _ _ _).mono ?_; intro e w1 hR; obtain ⟨m1, p1, n1, q1, t1, rfl, hv, hb3⟩ := lsR_words hR; have hn1 : NumsIn w1 w.heap.size [M, P, c, d] := NumsIn.below (by first | exact HN.out | exact HN.out.drewN _ | exact (HN.out.drewN 1).alloc _ | exact HN.out.alloc _) hb3; obtain ⟨k0, k1, k2, k3⟩ := hn1.c4; have k4 : w1.cell? ⟨b1, off1 + k, none⟩ = some (.float .f32 x) := (hb3.cell (p := ⟨b1, off1 + k, none⟩) (by simp; omega)).trans (by go_simp; first | assumption | done); have k5 : w1.cell? ⟨b2, off2 + k, none⟩ = some (.bool y) := (hb3.cell (p := ⟨b2, off2 + k, none⟩) (by simp; omega)).trans (by go_simp; first | assumption | done); have hws : wr.heap.size ≤ w1.heap.size := Nat.le_trans (by simp) hb3.size; first | (have hz : NumsIn w1 wr.heap.size [0, 0, 0, 0] := NumsIn.below (by first | exact NumsIn.new _ [0, 0, 0, 0] _ | exact (NumsIn.new _ [0, 0, 0, 0] _).drew | exact (NumsIn.new _ [0, 0, 0, 0] _).drewN _) hb3; obtain ⟨y0, y1, y2, y3⟩ := hz.c4; obtain ⟨z0, z1, z2, z3⟩ := hz.f4) | skip))
            all_goals
              have HV := Lib.hid hv
              have hfa1 : FOwn 32 (w.heap.size + 1) w1 u10 r0 := by first | exact FOwn.keepS (HFa.out.drewN 1) hb3 | exact FOwn.keepS ((HFa.out.alloc _).drewN 1) hb3
              have hfb1 : FOwn 32 (w.heap.size + 1) w1 u11 r1 := by first | exact FOwn.keepS (HFb.out.drewN 1) hb3 | exact FOwn.keepS ((HFb.out.alloc _).drewN 1) hb3
              have hbw1 : Below w.heap.size w w1 := by first | exact (below_drewN HB.out 1).trans (hb3.mono (by exact HB.out.size)) | exact (below_drewN (HB.out.alloc (Nat.le_of_lt hszz) _) 1).trans (hb3.mono (by simp; omega))
              have key : ∀ (wx : World) (g : Nat), NumsIn wx g [m1, p1, n1, q1] → lvO a b c d zs ss k = true → NumsIn wx g [(lvM a b c d zs ss (k + 1)).1, (lvM a b c d zs ss (k + 1)).2, c, d] ∧ t1 = lvQ a b c d zs ss k := fun wx g hh hO => by
                rw [HSt.out.1] at hO
                obtain ⟨e1, e2, e3, e4, e5⟩ := HV.out hO
                rw [HSt.out.2.1, HSt.out.2.2.1, HSt.out.2.2.2, ← e1, ← e2, ← e5]
                refine ⟨?_, rfl⟩
                rw [e3, e4] at hh
                exact hh
              have HK := Lib.hid key
              have hna : u10.ownBlock ≠ some wr.heap.size := fun e => by have := (HFa.out.lt _ e).2; omega
              have hnb : u11.ownBlock ≠ some wr.heap.size := fun e => by have := (HFb.out.lt _ e).2; omega
              have hpw : w.heap.size ≠ wr.heap.size := by omega
              have Hn1 := Lib.hid hn1
              have Ha := Lib.hid hfa1
              have Hb := Lib.hid hfb1
              have Hw := Lib.hid hbw1
              have Hna := Lib.hid (And.intro hna hnb)
              first
                | (have Hz := Lib.hid (show NumsIn ((((w1.setCell ⟨wr.heap.size, 0, none⟩ (.float .f32 m1)).setCell ⟨wr.heap.size, 1, none⟩ (.float .f32 p1)).setCell ⟨wr.heap.size, 2, none⟩ (.float .f32 n1)).setCell ⟨wr.heap.size, 3, none⟩ (.float .f32 q1)) wr.heap.size [m1, p1, n1, q1] from (((hz.put (i := 0) (by simp) m1).put (i := 1) (by simp) p1).put (i := 2) (by simp) n1).put (i := 3) (by simp) q1); clear hz y0 y1 y2 y3 z0 z1 z2 z3)
                | skip
              clear key hna hnb hn1 hfa1 hfb1 hbw1 hv hR hb3 k0 k1 k2 k3 k4 k5 x0 x1 x2 x3 HN HFa HFb HB
              go_wp2_with fail
              go_meet
              case rel => first
                | exact ⟨_, _, rfl, rfl, by rw [HSt.out.1], Lib.hid (HK.out _ _ (NumsIn.new w1 [m1, p1, n1, q1] _)), by omega, Lib.hid (Hn1.out.alloc _), Lib.hid (Ha.out.alloc _), Lib.hid (Hb.out.alloc _), Lib.hid (Hw.out.alloc (by omega) _), by simp; omega⟩
                | exact ⟨_, _, rfl, rfl, by rw [HSt.out.1], Lib.hid (HK.out _ _ Hz.out), by omega, Lib.hid ((((Hn1.out.set hpw).set hpw).set hpw).set hpw), Lib.hid ((((Ha.out.setne Hna.out.1).setne Hna.out.1).setne Hna.out.1).setne Hna.out.1), Lib.hid ((((Hb.out.setne Hna.out.2).setne Hna.out.2).setne Hna.out.2).setne Hna.out.2), Lib.hid ((((Hw.out.setCell (p := ⟨wr.heap.size, 0, none⟩) (by show w.heap.size ≤ wr.heap.size; omega) _).setCell (p := ⟨wr.heap.size, 1, none⟩) (by show w.heap.size ≤ wr.heap.size; omega) _).setCell (p := ⟨wr.heap.size, 2, none⟩) (by show w.heap.size ≤ wr.heap.size; omega) _).setCell (p := ⟨wr.heap.size, 3, none⟩) (by show w.heap.size ≤ wr.heap.size; omega) _), by simp [World.setCell]; omega⟩
          case rest =>
            obtain ⟨g, u, rfl, rfl, rfl, hnu, hgp, hnp, hfa, hfb, hbx, hszx⟩ := hcut
            clear hnx ho0 ho1 hbel
            rename World => wx
            cases hO : lvO a b c d zs ss k
            · have HB := Lib.hid (HNo.out k hlt hO)
              clear hO hnu hnp hfa hfb
              go_wp2
              (try simp only [Exit.inBlock, Exit.then])
              refine bodyPost_ret (results_t4 rfl _ _ _) rfl ?_
              exact fail_l2f _ HB.out.2.2.2 HB.out.1 HB.out.2.1 HB.out.2.2.1 hbx.out
            · obtain ⟨hn2, rfl⟩ := hnu.out hO
              have HOk := Lib.hid (show okn (lvO a b c d zs ss) (k + 1) = true by rw [okn_succ, hok.out, hO]; rfl)
              clear hO hnu
              obtain ⟨M2, hM2⟩ : ∃ M2, (lvM a b c d zs ss (k + 1)).1 = M2 := ⟨_, rfl⟩
              obtain ⟨P2, hP2⟩ : ∃ P2, (lvM a b c d zs ss (k + 1)).2 = P2 := ⟨_, rfl⟩
              rw [hM2, hP2] at hn2
              have HM2 := Lib.hid (And.intro hM2 hP2)
              have hr96 : r0.length ≤ 96 ∧ r1.length ≤ 96 := by have := hll.out; omega
              obtain ⟨hr0, hr1⟩ := hr96
              have HLl := Lib.hid hll.out
              have HRr := Lib.hid (show r0 ++ [M2] = tells (lrT0 a b c d zs ss) (k + 1) ∧ r1 ++ [P2] = tells (lrT1 a b c d zs ss) (k + 1) from by
                rw [tells_succ, tells_succ, hrr.out.1, hrr.out.2]
                unfold lrT0 lrT1
                rw [hM2, hP2]
                exact ⟨rfl, rfl⟩)
              have HSs := Lib.hid (show ∀ W, cn .f32 (fopR .add .f32 s (lvQ a b c d zs ss k) W) = sum32 (tells (lvQ a b c d zs ss) (k + 1)) from fun W => by rw [cn_fopR, hs.out, sum32_more])
              obtain ⟨x0, x1, x2, x3⟩ := hn2.c4
              obtain ⟨y0, y1, y2, y3⟩ := hnp.out.c4
              obtain ⟨z0, z1, z2, z3⟩ := hnp.out.f4
              obtain ⟨ws, hws⟩ : ∃ ws, ((((wx.setCell ⟨w.heap.size, 0, none⟩ (.float .f32 M2)).setCell ⟨w.heap.size, 1, none⟩ (.float .f32 P2)).setCell ⟨w.heap.size, 2, none⟩ (.float .f32 c)).setCell ⟨w.heap.size, 3, none⟩ (.float .f32 d)) = ws := ⟨_, rfl⟩
              have hnp2 : NumsIn ws w.heap.size [M2, P2, c, d] := by
                rw [← hws]
                exact (((hnp.out.put (i := 0) (by simp) M2).put (i := 1) (by simp) P2).put (i := 2) (by simp) c).put (i := 3) (by simp) d
              have Ha := Lib.hid (show FOwn 32 (w.heap.size + 1) ws u10 r0 from by
                rw [← hws]
                exact (((hfa.out.setp (Nat.lt_succ_self _)).setp (Nat.lt_succ_self _)).setp (Nat.lt_succ_self _)).setp (Nat.lt_succ_self _))
              have Hb := Lib.hid (show FOwn 32 (w.heap.size + 1) ws u11 r1 from by
                rw [← hws]
                exact (((hfb.out.setp (Nat.lt_succ_self _)).setp (Nat.lt_succ_self _)).setp (Nat.lt_succ_self _)).setp (Nat.lt_succ_self _))
              have Hw := Lib.hid (show Below w.heap.size w ws from by
                rw [← hws]
                exact (((hbx.out.setCell (p := ⟨w.heap.size, 0, none⟩) (Nat.le_refl _) _).setCell (p := ⟨w.heap.size, 1, none⟩) (Nat.le_refl _) _).setCell (p := ⟨w.heap.size, 2, none⟩) (Nat.le_refl _) _).setCell (p := ⟨w.heap.size, 3, none⟩) (Nat.le_refl _) _)
              have hszs : w.heap.size < ws.heap.size := by rw [← hws]; simpa [World.setCell] using hszx
              have HNp := Lib.hid hnp2
              have HWs := Lib.hid hws
              clear hnp hfa hfb hbx hn2 hM2 hP2 hll hrr hs hnp2 hws HSt
              go_upto_region 13 with fail
              rw [HWs.out]
              obtain ⟨q0, q1, q2, q3⟩ := HNp.out.c4
              clear x0 x1 x2 x3 y0 y1 y2 y3 z0 z1 z2 z3 HWs
              go_wp2_with (at_builtin; refine wpList_append_lies _ rfl _ _ 22 rfl (w.heap.size + 1) 32 i0 (.float .f32 0) 1 4 Try.underlying22 hi hz0 hz1 hz2 rfl (by decide) _ _ _ rfl (World.ownsRow.alloc (FOwn.drewN Ha.out 0) _) ⟨ws.heap.size, 0, none⟩ 1 1 [_] rfl rfl (one_new rfl) ?c2 (by decide) ?c3 ?c4 ?c5 _ rfl ?_)
              case c2 => first | rfl | (intro u hu; simp at hu; subst hu; rfl)
              case c3 => unfold maxLen; omega
              case c4 => omega
              case c5 => first | omega | (simp; omega)
              intro ga ca w2 hown hgrow hat hglt
              have R := FOwn.push (n := 0) Ha.out (Below.refl _ _) (by omega) hown hgrow
              have Ha2 := Lib.hid R.1
              have hR2 := R.2
              have Hb2 := Lib.hid (apt_sw (FOwn.drewN Hb.out 0) hap.out hgrow)
              have hnp3 : NumsIn w2 w.heap.size [M2, P2, c, d] := HNp.out.belowB hR2 (Nat.lt_succ_self _)
              have Hw2 := Lib.hid (Hw.out.trans (hR2.mono (Nat.le_succ _)))
              have hsz2 : w.heap.size < w2.heap.size := by have := hR2.size; omega
              have Hap2 := Lib.hid (show Apt (.slice (some ⟨ga, 0, none⟩) (r0.length + 1) ca) u11 from fun b' e0 e1 => by
                have eg : ga = b' := by simpa [Value.ownBlock] using e0
                subst eg
                rcases hat with h1 | h1
                · exact hap.out ga h1 e1
                · have h2 := (Hb.out.lt ga e1).2
                  omega)
              have HNp3 := Lib.hid hnp3
              clear q0 q1 q2 q3
              obtain ⟨q0, q1, q2, q3⟩ := hnp3.c4
              clear R hR2 hown hgrow hat hglt Ha Hb Hw HNp hap hnp3
              go_wp2_with (at_builtin; refine wpList_append_lies _ rfl _ _ 22 rfl (w.heap.size + 1) 32 i0 (.float .f32 0) 1 4 Try.underlying22 hi hz0 hz1 hz2 rfl (by decide) _ _ _ rfl (World.ownsRow.alloc (FOwn.drewN Hb2.out 0) _) ⟨w2.heap.size, 0, none⟩ 1 1 [_] rfl rfl (one_new rfl) ?d2 (by decide) ?d3 ?d4 ?d5 _ rfl ?_)
              case d2 => first | rfl | (intro u hu; simp at hu; subst hu; rfl)
              case d3 => unfold maxLen; omega
              case d4 => omega
              case d5 => first | omega | (simp; omega)
              intro gb cb w3 hown hgrow hat hglt
              have R := FOwn.push (n := 0) Hb2.out (Below.refl _ _) (by omega) hown hgrow
              have Hb3 := Lib.hid R.1
              have hR2 := R.2
              have Ha3 := Lib.hid (apt_swL (FOwn.drewN Ha2.out 0) Hap2.out hgrow)
              have HNp4 := Lib.hid (HNp3.out.belowB hR2 (Nat.lt_succ_self _))
              have Hw3 := Lib.hid (Hw2.out.trans (hR2.mono (Nat.le_succ _)))
              have hsz3 : w.heap.size < w3.heap.size := by have := hR2.size; omega
              have Hap3 := Lib.hid (show Apt (.slice (some ⟨ga, 0, none⟩) (r0.length + 1) ca) (.slice (some ⟨gb, 0, none⟩) (r1.length + 1) cb) from fun b' e0 e1 => by
                have eg : gb = b' := by simpa [Value.ownBlock] using e1
                subst eg
                rcases hat with h1 | h1
                · exact Hap2.out gb e0 h1
                · have h2 := (Ha2.out.lt gb e0).2
                  omega)
              have HLn := Lib.hid (show (r0 ++ [M2]).length = k + 1 ∧ (r1 ++ [P2]).length = k + 1 from by rw [List.length_append, List.length_append, HLl.out.1, HLl.out.2]; exact ⟨rfl, rfl⟩)
              have HNe := Lib.hid (show NumsIn w3 w.heap.size [(lvM a b c d zs ss (k + 1)).1, (lvM a b c d zs ss (k + 1)).2, c, d] from by rw [HM2.out.1, HM2.out.2]; exact HNp4.out)
              clear R hR2 hown hgrow hat hglt q0 q1 q2 q3 Ha2 Hb2 Hap2 Hw2 HNp3 HNp4 HLl
              go_wp2
              go_roundw
              case rel => exact ⟨k + 1, _, _, _, by omega, by go_num, rfl, HLn, Lib.hid (HNe.out.drewN _), Lib.hid (FOwn.drewN Ha3.out _), Lib.hid (FOwn.drewN Hb3.out _), Hap3, HRr, Lib.hid (HSs.out _), HOk, Lib.hid (below_drewN Hw3.out _), hsz3⟩
              case measure => simp [intOf]; omega
        · have e : k = len2 := by omega
          have HS := Lib.hid (show cn .f32 s = lrS a b c d zs ss from by rw [hs.out, e]; unfold lrS; rw [HL.out])
          have HA := Lib.hid (show lvAll a b c d zs ss = true by rw [HAl.out, ← e]; exact hok.out)
          have HBq := Lib.hid (show lrB a b c d zs ss = fin .f32 (lrS a b c d zs ss) by unfold lrB; rw [HA.out]; rfl)
          have hc0 : cnl r0 = tells (lrT0 a b c d zs ss) zs.length ∧ cnl r1 = tells (lrT1 a b c d zs ss) zs.length := by
            have hf := lv_fins HA.out
            rw [hrr.out.1, hrr.out.2, e, ← HL.out]
            have hcl : ∀ rs : List Nat, fins rs = true → cnl rs = rs := fun rs hr => by
              unfold cnl
              conv => rhs; rw [← List.map_id rs]
              unfold fins at hr
              exact List.map_congr_left fun x hx => (fin_wd rfl ((fin_congr (cn_cn .f32 x)).trans (List.all_eq_true.1 hr x hx))).symm
            exact ⟨hcl _ hf.1, hcl _ hf.2.1⟩
          have HC0 := Lib.hid hc0
          have HFi := Lib.hid (show fin .f32 s = lrB a b c d zs ss from (fin_congr (HS.out.trans (by rw [← HS.out, cn_cn]))).trans HBq.out.symm)
          clear e hnx hrr hs hok hll hc0
          go_wp2_with fail
          refine (l01Finite_any _ _).mono ?_
          rw [HFi.out]
          rintro e w' ⟨q, rfl, rfl⟩
          cases hB : lrB a b c d zs ss
          · have HB := Lib.hid (lr_bad hB)
            clear hB
            go_wp2
            (try simp only [Exit.inBlock, Exit.then])
            refine bodyPost_ret (results_t4 rfl _ _ _) rfl ?_
            exact fail_l2f _ HB.out.2.2.2 HB.out.1 HB.out.2.1 HB.out.2.2.1 (below_drewN hbel.out _)
          · have HG := Lib.hid (lr_good hB)
            have HBt := Lib.hid hB
            clear hB
            go_wp2
            (try simp only [Exit.inBlock, Exit.then])
            refine bodyPost_ret (results_t4 rfl _ _ _) rfl ?_
            exact ⟨_, r0, _, r1, s, by rw [HBt.out]; rfl, ⟨(FOwn.drewN ho0.out q).mono (Nat.le_succ _), (FOwn.drewN ho1.out q).mono (Nat.le_succ _)⟩, ⟨HC0.out.1.trans HG.out.1.symm, HC0.out.2.trans HG.out.2.1.symm⟩, HS.out.trans HG.out.2.2.symm, hap.out, below_drewN hbel.out _⟩
theorem NumsIn.only {w w' : World} {p c : Nat} {xs : List Nat} (h : NumsIn w p xs) (ho : Only c w w') (hp : p ≠ c) : NumsIn w' p xs :=
  ⟨by rw [ho.size]; exact h.lt, fun i hi => ⟨by rw [ho.cell (p := ⟨p, i, none⟩) hp]; exact (h.2 i hi).1, by rw [ho.frozen (p := ⟨p, i, none⟩) hp]; exact (h.2 i hi).2⟩⟩
end Go.Proofs.Ytldaamgohdnjnaa


/-
  Lists of the call's own, in a block g: cells, writes into them, writes elsewhere.
-/
namespace Go.Proofs.Ytldaamgohdnjnaa
open Ieee Go.RowKit
set_option linter.unusedVariables false
theorem owp_put {T : TypeId} {B g n cap : Nat} {w : World} {rs : List Nat} (h : FOwn T B w (.slice (some ⟨g, 0, none⟩) n cap) rs) (hn : rs.length = n) (j r : Nat) : FOwn T B (w.setCell ⟨g, j, none⟩ (.float .f32 r)) (.slice (some ⟨g, 0, none⟩) n cap) (rs.set j r) := by
  subst hn
  have := (World.ownsRow.stored h j (.float .f32 r)).1
  unfold FOwn
  rw [List.length_set, List.map_set]
  exact this
theorem owp_blk {T : TypeId} {B n : Nat} {w : World} {v : Value} {rs : List Nat} (h : FOwn T B w v rs) (hn : rs.length = n) (h0 : 0 < n) : ∃ g cap, v = .slice (some ⟨g, 0, none⟩) n cap ∧ B ≤ g ∧ g < w.heap.size := by
  obtain ⟨A, cap, rfl, _, hf⟩ := h.sl
  obtain ⟨b, rfl, hB, hb, _⟩ := hf 0 (by omega)
  exact ⟨b, cap, by rw [hn], hB, hb⟩
theorem owp_cell {T : TypeId} {B g n cap : Nat} {w : World} {rs : List Nat} (h : FOwn T B w (.slice (some ⟨g, 0, none⟩) n cap) rs) (hn : rs.length = n) {j : Nat} (hj : j < n) : w.cell? ⟨g, j, none⟩ = some (.float .f32 (rs.getD j 0)) ∧ w.frozen? ⟨g, j, none⟩ = false := by
  subst hn
  refine ⟨?_, World.ownsRow.frozenAt h j⟩
  rw [World.ownsRow.cellAt h j (by omega)]
  simp [List.getD, hj]
theorem owp_fsl {T : TypeId} {B : Nat} {w : World} {A : Option Addr} {n c : Nat} {rs : List Nat} (h : FOwn T B w (.slice A n c) rs) : FSl w A n rs := by
  obtain ⟨A', c', e, hs, _⟩ := h.sl
  injection e with e1 e2 e3
  subst e1 e2
  exact hs
theorem owp_lt {T : TypeId} {B g n cap : Nat} {w : World} {rs : List Nat} (h : FOwn T B w (.slice (some ⟨g, 0, none⟩) n cap) rs) : B ≤ g ∧ g < w.heap.size := h.lt g rfl
theorem owp_far {T : TypeId} {B b : Nat} {w : World} {v : Value} {rs : List Nat} (h : FOwn T B w v rs) (hne : v.ownBlock ≠ some b) (i : Nat) (u : Value) : FOwn T B (w.setCell ⟨b, i, none⟩ u) v rs := by
  refine ⟨h.1, ?_⟩
  rcases h.2 with h2 | ⟨g, cap, cur, rfl, h3, h4, h5⟩
  · exact .inl h2
  · refine .inr ⟨g, cap, cur, rfl, h3, ?_, h5⟩
    rw [Below.heap_setCell w ⟨b, i, none⟩ u g (fun e => hne (by show some g = some b; rw [e]))]; exact h4
theorem owp_farS {T : TypeId} {B g b n cap : Nat} {w : World} {rs : List Nat} (h : FOwn T B w (.slice (some ⟨g, 0, none⟩) n cap) rs) (hne : g ≠ b) (i : Nat) (u : Value) : FOwn T B (w.setCell ⟨b, i, none⟩ u) (.slice (some ⟨g, 0, none⟩) n cap) rs :=
  owp_far h (fun e => hne (Option.some.inj e)) i u
theorem owp_keep {T : TypeId} {B : Nat} {wr wa : World} {v : Value} {rs : List Nat} (h : FOwn T B wr v rs) (hb : Below wr.heap.size wr wa) : FOwn T B wa v rs := by
  have hl := h.lt
  refine ⟨h.1, ?_⟩
  rcases h.2 with h2 | ⟨g, cap, cur, rfl, h3, h4, h5⟩
  · exact .inl h2
  · exact .inr ⟨g, cap, cur, rfl, h3, by rw [hb.block g (hl g rfl).2]; exact h4, h5⟩
theorem cnl_set (rs : List Nat) (j : Nat) {r v : Nat} (h : cn .f32 r = v) : cnl (rs.set j r) = (cnl rs).set j v := by unfold cnl; rw [List.map_set, h]
theorem cnl_get {rs xs : List Nat} (h : cnl rs = xs) {j : Nat} (hj : j < rs.length) : cn .f32 (rs.getD j 0) = xs.getD j 0 := by rw [← h]; exact (cnl_at hj).symm
theorem set_len {rs : List Nat} {n j r : Nat} (h : rs.length = n) : (rs.set j r).length = n := by rw [List.length_set]; exact h
end Go.Proofs.Ytldaamgohdnjnaa

/-
  The absolute value of a finite 32-bit float: by way of 64 bits, and by its sign.
-/
namespace Go.Proofs.Ytldaamgohdnjnaa
open Ieee Go.RowKit
set_option linter.unusedVariables false

theorem single_near (s : Bool) {m : Nat} {p : Int} (hm : m < 16777216) (hp : -149 ≤ p) (hp2 : p ≤ 104) (h : m < 8388608 → p = -149) :
    single.nearest s m p = single.word s ((p + 149).toNat * 8388608 + m) := by
  unfold Format.nearest
  by_cases h0 : m = 0
  · have hp0 := h (by omega)
    subst h0 hp0
    rw [if_pos rfl]; rfl
  · rw [if_neg h0]
    have hf : (single.fractionBits : Int) = 23 := rfl
    have hl := log2_lt24 hm
    have hlast : max (p + (m.log2 : Int) - (single.fractionBits : Int)) single.leastPlace = p := by
      rw [hf, s_least]
      by_cases h1 : m < 8388608
      · have := h h1; omega
      · have : m.log2 = 23 := (Nat.log2_eq_iff (by omega)).2 ⟨by omega, by omega⟩
        omega
    simp only [hlast]
    simp only [s_least, s_binade, s_inf]
    rw [show (p - p).toNat = 0 by omega, show (p - -149).toNat = (p + 149).toNat by omega, cut_zero, Nat.shiftLeft_eq, Nat.pow_zero, Nat.mul_one]
    rw [Nat.min_eq_left (by omega)]
theorem single_parts {x m : Nat} {s : Bool} {p : Int} (h : single.read x = .number s m p) : m < 16777216 ∧ -149 ≤ p ∧ p ≤ 104 ∧ (m < 8388608 → p = -149) ∧ (p + 149).toNat * 8388608 + m = x % 2147483648 ∧ x % 2147483648 < 2139095040 := by
  unfold Format.read at h
  simp only [s_sign, s_binade, s_inf, s_least] at h
  generalize x % 2147483648 = r at *
  by_cases h1 : r < 8388608
  · rw [if_pos h1] at h
    injection h with _ e1 e2
    subst e1 e2
    exact ⟨by omega, by omega, by omega, fun _ => rfl, by omega, by omega⟩
  · rw [if_neg h1] at h
    by_cases h2 : r < 2139095040
    · rw [if_pos h2] at h
      injection h with _ e1 e2
      subst e1 e2
      exact ⟨by omega, by omega, by omega, fun hh => by omega, by omega, by omega⟩
    · rw [if_neg h2] at h
      split at h <;> cases h
theorem word_false (r : Nat) : single.word false r = r := rfl
theorem single_back {x m : Nat} {s : Bool} {p : Int} (h : single.read x = .number s m p) : single.nearest false m p = x % 2147483648 := by
  obtain ⟨h1, h2, h3, h4, h5, _⟩ := single_parts h
  rw [single_near false h1 h2 h3 h4, h5]; rfl
theorem mag_read {y m : Nat} {s : Bool} {p : Int} (h : double.read y = .number s m p) : double.read (y % 9223372036854775808) = .number false m p := by
  unfold Format.read at h ⊢
  simp only [d_sign, d_binade, d_inf, d_least] at h ⊢
  rw [Nat.mod_mod]
  have e : (y % 9223372036854775808 / 9223372036854775808 % 2 == 1) = false := by rw [beq_eq_false_iff_ne]; omega
  rw [e]
  generalize y % 9223372036854775808 = r at *
  by_cases h1 : r < 4503599627370496
  · rw [if_pos h1] at h ⊢
    injection h with _ e1 e2
    subst e1 e2
    rfl
  · rw [if_neg h1] at h ⊢
    by_cases h2 : r < 9218868437227405312
    · rw [if_pos h2] at h ⊢
      injection h with _ e1 e2
      subst e1 e2
      rfl
    · rw [if_neg h2] at h
      split at h <;> cases h
theorem fin_read {x : Nat} (h : fin .f32 x = true) : ∃ s m p, single.read x = .number s m p := by
  unfold fin isN isI at h
  cases hr : single.read x with
  | number s m p => exact ⟨s, m, p, rfl⟩
  | infinity s => rw [show (FloatKind.format .f32).read x = .infinity s from hr] at h; simp [Datum.isNaN, Datum.isInfinity] at h
  | nan s t => rw [show (FloatKind.format .f32).read x = .nan s t from hr] at h; simp [Datum.isNaN, Datum.isInfinity] at h
theorem wide_mag {x : Nat} (h : fin .f32 x = true) : isN .f64 (awide x % 9223372036854775808) = false ∧ single.write (double.read (awide x % 9223372036854775808)) = x % 2147483648 := by
  obtain ⟨s, m, p, hr⟩ := fin_read h
  have hN : isN .f32 x = false := by
    unfold fin at h
    cases h2 : isN .f32 x
    · rfl
    · rw [h2] at h; cases h
  refine ⟨by rw [abs_nan, isN_awide]; exact hN, ?_⟩
  have hw := awide_read hr
  by_cases h0 : m = 0
  · rw [if_pos h0] at hw
    rw [mag_read hw]
    show single.nearest false 0 (-1074) = _
    rw [← single_back hr, h0]
    unfold Format.nearest
    rw [if_pos rfl, if_pos rfl]
  · rw [if_neg h0] at hw
    rw [mag_read hw]
    show single.nearest false (m * 2 ^ (52 - m.log2)) (p + m.log2 - 52) = _
    have hl := log2_lt24 (single_parts hr).1
    rw [nearest_scale single false m _ _ (by omega), ← single_back hr]
    congr 1
    omega
theorem anar_mag {x : Nat} (h : fin .f32 x = true) : anar (awide x % 9223372036854775808) = x % 2147483648 := by
  unfold anar
  rw [(wide_mag h).1, if_neg (by simp)]
  exact (wide_mag h).2
theorem narOk_mag {x : Nat} (h : fin .f32 x = true) : narOk (awide x % 9223372036854775808) := by
  intro hN
  obtain ⟨s, m, p, hr⟩ := fin_read h
  have hw := awide_read hr
  have hm2 := (wide_mag h).2
  have hlt := (single_parts hr).2.2.2.2.2
  have key : ∃ M P, double.read (awide x % 9223372036854775808) = .number false M P := by
    by_cases h0 : m = 0
    · rw [if_pos h0] at hw; exact ⟨_, _, mag_read hw⟩
    · rw [if_neg h0] at hw; exact ⟨_, _, mag_read hw⟩
  obtain ⟨M, P, hk⟩ := key
  rw [hk] at hm2
  unfold floatToFloatBits
  rw [if_neg (by decide), show FloatKind.decode .f64 (awide x % 9223372036854775808) = .number false M P from hk]
  have e : FloatKind.decode .f32 (FloatKind.encode .f32 (.number false M P)) = single.read (x % 2147483648) := by
    show single.read (single.write (.number false M P)) = _
    rw [hm2]
  have hi : (single.read (x % 2147483648)).isInfinity = false := by
    unfold Format.read
    simp only [s_sign, s_binade, s_inf, s_least]
    rw [Nat.mod_mod]
    generalize x % 2147483648 = r at *
    by_cases h1 : r < 8388608
    · rw [if_pos h1]; rfl
    · rw [if_neg h1, if_pos hlt]; rfl
  simp only [e, hi]
  rfl
theorem neg_mag {x : Nat} (h1 : 2147483648 ≤ x) (h2 : x < 4294967296) : Op.negFloat .f32 x = x % 2147483648 := by
  have e : Op.negFloat .f32 x % 2147483648 = x % 2147483648 := by
    show (x ^^^ 2 ^ 31) % 2 ^ 31 = x % 2 ^ 31
    rw [Nat.xor_mod_two_pow, Nat.mod_self, Nat.xor_zero]
  have hlt : Op.negFloat .f32 x < 2147483648 := by
    show x ^^^ 2 ^ 31 < 2 ^ 31
    refine Nat.lt_pow_two_of_testBit _ fun i hi => ?_
    rw [Nat.testBit_xor, Nat.testBit_two_pow]
    rcases Nat.lt_or_ge 31 i with h3 | h3
    · rw [Nat.testBit_lt_two_pow (Nat.lt_of_lt_of_le (show x < 2 ^ 32 by omega) (Nat.pow_le_pow_right (by omega) h3)), decide_eq_false (by omega)]; rfl
    · obtain rfl : i = 31 := by omega
      rw [decide_eq_true rfl, Nat.testBit_eq_decide_div_mod_eq, show x / 2 ^ 31 = 1 by omega]; rfl
  omega
end Go.Proofs.Ytldaamgohdnjnaa

/-
  The absolute value of any 32-bit float, in both packages.
-/
namespace Go.Proofs.Ytldaamgohdnjnaa
open Ieee Go.RowKit
set_option linter.unusedVariables false

/-- The absolute value of a word. -/
def absF (x : Nat) : Nat := if isN .f32 x then nanOf .f32 else x % 2147483648
theorem isN_mag (x : Nat) : isN .f32 (x % 2147483648) = isN .f32 x := by
  rw [isN_iff, isN_iff, show (FloatKind.format .f32).signWeight = 2147483648 from s_sign, Nat.mod_mod]
theorem absF_cn (x : Nat) : absF (cn .f32 x) = absF x := by
  cases h : isN .f32 x
  · rw [cn_num h]
  · rw [cn_nan h]; unfold absF; rw [isN_nanOf, h]; rfl
theorem cn_absF (x : Nat) : cn .f32 (absF x) = absF x := by
  cases h : isN .f32 x
  · unfold absF; rw [h, if_neg (by simp)]; exact cn_num (by rw [isN_mag]; exact h)
  · unfold absF; rw [h, if_pos rfl]; exact cn_nan (isN_nanOf _)
theorem inf_write : double.word false double.infRung % 9223372036854775808 = 9218868437227405312 ∧ double.word true double.infRung % 9223372036854775808 = 9218868437227405312 := by decide +kernel
theorem inf_anar : anar 9218868437227405312 = 2139095040 := by decide +kernel
theorem inf_isI : isI .f64 9218868437227405312 = true := by decide +kernel
theorem abs_word (x : Nat) (w w' : World) : cn .f32 (narR (wideR x w % 9223372036854775808) w') = absF x := by
  cases hN : isN .f32 x
  · have hwd : wideR x w = awide x := by unfold wideR; rw [hN, if_neg (by simp)]
    rw [hwd]
    have ha : absF x = x % 2147483648 := by unfold absF; rw [hN, if_neg (by simp)]
    rw [ha]
    cases hI : isI .f32 x
    · have hf : fin .f32 x = true := by unfold fin; rw [hN, hI]; rfl
      rw [cn_narR _ _ (narOk_mag hf), anar_cn]
      exact anar_mag hf
    · have hr := of_decide_eq_true (isI_iff .f32 x ▸ hI)
      have h1 := awide_inf (read_inf .f32 x hr)
      have hw : awide x % 9223372036854775808 = 9218868437227405312 := by
        unfold awide
        rw [hN, if_neg (by simp), show single.read x = _ from read_inf .f32 x hr]
        cases (x / (FloatKind.format .f32).signWeight % 2 == 1)
        · exact inf_write.1
        · exact inf_write.2
      rw [hw, cn_narR _ _ (inf_narOk inf_isI), anar_cn, inf_anar]
      exact hr.symm
  · have h1 : isN .f64 (wideR x w) = true := by
      have := cn_wideR x w
      rw [← isN_cn, this, awide_cn, isN_awide]; exact hN
    have h2 : isN .f64 (wideR x w % 9223372036854775808) = true := by rw [abs_nan]; exact h1
    rw [cn_narR _ _ (narOk_nan h2), anar_cn]
    unfold anar absF
    rw [h2, hN, if_pos rfl, if_pos rfl]
/-- 0 less a number that is not greater than 0. -/
theorem zero_less {x : Nat} (h : sr (FloatKind.format .f32) x ≤ 0) (hN : isN .f32 x = false) : aop .sub .f32 0 x = x % 2147483648 := by
  have h0 : single.read 0 = .number false 0 (-149) := by decide +kernel
  have key : floatBits .sub .f32 0 x = some (x % 2147483648) := by
    show ((single.read 0).sum (single.read x).opposite).map single.write = _
    rw [h0]
    rcases single_read x with ⟨s, m, p, hr, hm, hp, hp2, hp3⟩ | ⟨s, hr⟩ | ⟨s, t, hr⟩
    · rw [hr]
      have hb := single_back hr
      have hsg : s = true ∨ m = 0 := by
        rcases Nat.eq_zero_or_pos m with h1 | h1
        · exact .inr h1
        · left
          obtain ⟨_, _, _, _, h5, _⟩ := single_parts hr
          cases s
          · exfalso
            have hs : (x / 2147483648 % 2 == 1) = false := by
              unfold Format.read at hr
              simp only [s_sign] at hr
              split at hr
              · injection hr
              · split at hr
                · injection hr
                · split at hr <;> cases hr
            unfold sr at h
            rw [show (FloatKind.format .f32).signWeight = 2147483648 from s_sign, hs, if_neg (by simp)] at h
            omega
          · rfl
      show some (single.write _) = _
      congr 1
      have e0 : min (-149 : Int) p = -149 := by omega
      simp only [e0]
      have ez : signed false 0 ((-149 : Int) - -149).toNat = 0 := by decide
      rw [ez, Int.zero_add]
      rcases Nat.eq_zero_or_pos m with h1 | h1
      · subst h1
        have : signed (!s) 0 (p - -149).toNat = 0 := by unfold signed; simp
        rw [this, if_pos rfl]
        show single.nearest false 0 (-149) = _
        rw [← hb]
        unfold Format.nearest
        rw [if_pos rfl, if_pos rfl]
      · have hs : s = true := hsg.elim id (fun h2 => absurd h2 (by omega))
        subst hs
        have hv : signed (!true) m (p - -149).toNat = ((m * 2 ^ (p - -149).toNat : Nat) : Int) := by
          unfold signed
          rw [Nat.shiftLeft_eq]; rfl
        have hpos : 0 < m * 2 ^ (p - -149).toNat := Nat.mul_pos h1 (Nat.two_pow_pos _)
        rw [hv, if_neg (by omega), Int.natAbs_natCast, decide_eq_false (by omega)]
        show single.nearest false (m * 2 ^ (p - -149).toNat) (-149) = _
        rw [nearest_scale single false m _ _ h1, ← hb]
        congr 1
        omega
    · rw [hr]
      have hx : x % 2147483648 = 2139095040 ∧ (x / 2147483648 % 2 == 1) = s := by
        unfold Format.read at hr
        simp only [s_sign, s_binade, s_inf, s_least] at hr
        split at hr
        · cases hr
        · split at hr
          · cases hr
          · split at hr
            · rename_i e; injection hr with hr; exact ⟨e, hr⟩
            · cases hr
      have hs : s = true := by
        cases s
        · exfalso
          unfold sr at h
          rw [show (FloatKind.format .f32).signWeight = 2147483648 from s_sign, hx.2, if_neg (by simp)] at h
          omega
        · rfl
      subst hs
      rw [hx.1]
      decide +kernel
    · unfold isN at hN; rw [show (FloatKind.format .f32).read x = _ from hr] at hN; cases hN
  unfold aop
  rw [key]; rfl
end Go.Proofs.Ytldaamgohdnjnaa

/-
  Operations whose result is a number cost no draw; the absolute value of a number costs none.
-/
namespace Go.Proofs.Ytldaamgohdnjnaa
open Ieee Go.RowKit
set_option linter.unusedVariables false

theorem bits_num {op : BinOp} {x y : Nat} (h : isN .f32 (aop op .f32 x y) = false) : floatBits op .f32 x y = some (aop op .f32 x y) := by
  cases hf : floatBits op .f32 x y with
  | none => exfalso; unfold aop at h; rw [hf] at h; rw [show (none : Option Nat).getD (nanOf .f32) = nanOf .f32 from rfl, isN_nanOf] at h; cases h
  | some r => unfold aop; rw [hf]; rfl
theorem op_run {P : Program} {op : BinOp} (t : TypeId) {x y : Nat} (h : isN .f32 (aop op .f32 x y) = false) (w : World) : (binOp op t (.float .f32 x) (.float .f32 y)).run P w = .ok (.float .f32 (aop op .f32 x y)) w := by
  rw [run_float_arith w op t .f32 x y _ (bits_num h)]
theorem fin_isN {x : Nat} (h : fin .f32 x = true) : isN .f32 x = false := by
  unfold fin at h
  cases h2 : isN .f32 x
  · rfl
  · rw [h2] at h; cases h
theorem fin_cn {x : Nat} (h : fin .f32 x = true) : cn .f32 x = x := cn_num (fin_isN h)
theorem isN_absF (x : Nat) : isN .f32 (absF x) = isN .f32 x := by
  unfold absF
  cases h : isN .f32 x
  · rw [if_neg (by simp), isN_mag, h]
  · rw [if_pos rfl, isN_nanOf]
theorem isN_sub {x y : Nat} (hx : fin .f32 x = true) (hy : fin .f32 y = true) : isN .f32 (aop .sub .f32 x y) = false := by
  obtain ⟨s, m, p, h1⟩ := fin_datum hx
  obtain ⟨s', m', p', h2⟩ := fin_datum hy
  unfold aop
  have hf : ∃ r, floatBits .sub .f32 x y = some r := by
    show ∃ r, Option.map (FloatKind.format .f32).write (((FloatKind.format .f32).read x).sum (((FloatKind.format .f32).read y).opposite)) = some r
    rw [h1, h2]; exact ⟨_, rfl⟩
  obtain ⟨r, hf⟩ := hf
  rw [hf]; exact (floatBits_nan hf).2.2
theorem isN_add {x y : Nat} (hx : fin .f32 x = true) (hy : fin .f32 y = true) : isN .f32 (aop .add .f32 x y) = false := by
  obtain ⟨s, m, p, h1⟩ := fin_datum hx
  obtain ⟨s', m', p', h2⟩ := fin_datum hy
  unfold aop
  have hf : ∃ r, floatBits .add .f32 x y = some r := by
    show ∃ r, Option.map (FloatKind.format .f32).write (((FloatKind.format .f32).read x).sum ((FloatKind.format .f32).read y)) = some r
    rw [h1, h2]; exact ⟨_, rfl⟩
  obtain ⟨r, hf⟩ := hf
  rw [hf]; exact (floatBits_nan hf).2.2
theorem fin_mag {x : Nat} : fin .f32 (x % 2147483648) = fin .f32 x := by
  unfold fin
  rw [isN_mag]
  congr 2
  rw [isI_iff, isI_iff, show (FloatKind.format .f32).signWeight = 2147483648 from s_sign, Nat.mod_mod]
theorem fin_absF {x : Nat} (h : fin .f32 x = true) : fin .f32 (absF x) = true := by
  unfold absF
  rw [fin_isN h, if_neg (by simp), fin_mag]; exact h
end Go.Proofs.Ytldaamgohdnjnaa

/-
  A region that draws its order, whose operations may make memory and call: each operation is walked once, at whatever memory that
  extends the first one; what it gives is told by a relation that more memory does not break. No order is enumerated.
-/
namespace Go.Proofs.Ytldaamgohdnjnaa
open Go.RowKit
set_option linter.unusedVariables false
/-- How many of the first n are not listed. -/
def unl (listed : Array Bool) : Nat → Nat
  | 0 => 0
  | n + 1 => unl listed n + (if listed.getD n false then 0 else 1)
theorem unl_same {l l' : Array Bool} : ∀ {n : Nat}, (∀ j, j < n → l.getD j false = l'.getD j false) → unl l n = unl l' n
  | 0, _ => rfl
  | n + 1, h => by unfold unl; rw [unl_same (fun j hj => h j (by omega)), h n (by omega)]
theorem unl_set {l : Array Bool} {i : Nat} (hs : i < l.size) (hi : l.getD i false = false) : ∀ {n : Nat}, i < n → unl (l.setIfInBounds i true) n + 1 = unl l n
  | n + 1, h => by
    unfold unl
    by_cases e : i = n
    · subst e
      rw [unl_same (l := l.setIfInBounds i true) (l' := l) (fun j hj => getD_set_ne false (by omega)), hi]
      simp [hs]
    · have := unl_set hs hi (n := n) (by omega)
      rw [getD_set_ne false e]
      omega
theorem unl_zero {l : Array Bool} : ∀ {n : Nat}, unl l n = 0 → ∀ j, j < n → l.getD j false = true
  | n + 1, h, j, hj => by
    unfold unl at h
    by_cases e : j = n
    · subst e
      cases hb : l.getD j false
      · rw [hb] at h; simp at h
      · rfl
    · exact unl_zero (n := n) (by omega) j (by omega)
theorem unl_new (n : Nat) : ∀ {m : Nat}, unl (Array.replicate n false) m ≤ m
  | 0 => Nat.le_refl _
  | m + 1 => by unfold unl; have := unl_new n (m := m); split <;> omega
section
variable {P : Program} {ops : Array Oper} {Q : Exit → Act → World → Prop} {Φ : Nat → Value → World → Prop} {a0 : Act} {B : World}
/-- What an operation may lean on: the memory, the slots that no operation writes, what it waits for. -/
structure SInv (ops : Array Oper) (a0 : Act) (B : World) (a : Act) (w : World) : Prop where
  defers : a.defers = a0.defers
  tsize : a.tmps.size = a0.tmps.size
  below : Below B.heap.size B w
  rest : ∀ d, ((List.range ops.size).all fun j => ((ops[j]?).bind (·.dst)) != some d) = true → a.tmps.getD d undef = a0.tmps.getD d undef
structure RInv (ops : Array Oper) (Φ : Nat → Value → World → Prop) (a0 : Act) (B : World) (listed : Array Bool) (a : Act) (w : World) : Prop where
  s : SInv ops a0 B a w
  size : listed.size = ops.size
  facts : ∀ j o d, ops[j]? = some o → o.dst = some d → listed.getD j false = true → Φ j (a.tmps.getD d undef) w
/-- One operation. -/
def opM (P : Program) (ops : Array Oper) (Q : Exit → Act → World → Prop) (Φ : Nat → Value → World → Prop) (a0 : Act) (B : World) (i : Nat) (o : Oper) : Prop :=
  ∀ a w, SInv ops a0 B a w → (∀ j, (o.after.any fun e => e.on == j && Region.binds .any e) = true → ∀ o' d, ops[j]? = some o' → o'.dst = some d → Φ j (a.tmps.getD d undef) w) →
    if Region.wanted o (yielded ops a.tmps) then ∀ K : Act → World → Prop, (∀ v w', Below w.heap.size w w' → Φ i v w' → K (a.put o.dst v) w') → o.wp P a w K Q else Φ i undef w
def AllM (P : Program) (ops : Array Oper) (Q : Exit → Act → World → Prop) (Φ : Nat → Value → World → Prop) (a0 : Act) (B : World) : Nat → List Oper → Prop
  | _, [] => True
  | i, o :: os => opM P ops Q Φ a0 B i o ∧ AllM P ops Q Φ a0 B (i + 1) os
theorem allM_at (l : List Oper) : ∀ (i : Nat), AllM P ops Q Φ a0 B i l → ∀ k o, l[k]? = some o → opM P ops Q Φ a0 B (i + k) o := by
  induction l with
  | nil => intro i h k o hk; simp at hk
  | cons o os ih =>
    intro i h k o' hk
    cases k with
    | zero =>
      simp only [List.getElem?_cons_zero, Option.some.injEq] at hk
      subst hk
      rw [Nat.add_zero]
      exact h.1
    | succ k =>
      have h3 := ih (i + 1) h.2 k o' (by simpa using hk)
      rw [show i + (k + 1) = i + 1 + k by omega]
      exact h3
def shapeB (ops : Array Oper) (n : Nat) : Bool :=
  (List.range ops.size).all fun i => match ops[i]? with
    | none => true
    | some o => o.after.all (fun e => !Region.binds .any e || decide (e.on < i)) && (match o.dst with
      | none => true
      | some d => decide (d < n) && (List.range ops.size).all fun j => j == i || ((ops[j]?).bind (·.dst)) != some d)
theorem shape_spec {n : Nat} (h : shapeB ops n = true) {i : Nat} {o : Oper} (hi : ops[i]? = some o) :
    (∀ e ∈ o.after, Region.binds .any e = true → e.on < i) ∧ ∀ d, o.dst = some d → d < n ∧ ∀ j oj, ops[j]? = some oj → oj.dst = some d → j = i := by
  have hlt : i < ops.size := (Array.getElem?_eq_some_iff.1 hi).1
  have h1 := List.all_eq_true.1 h i (List.mem_range.2 hlt)
  simp only [hi, Bool.and_eq_true] at h1
  obtain ⟨h1, h2⟩ := h1
  refine ⟨fun e he hb => ?_, fun d hd => ?_⟩
  · have := (Array.all_eq_true_iff_forall_mem.1 h1) e he
    rw [hb] at this
    simpa using this
  · rw [hd] at h2
    simp only [Bool.and_eq_true, decide_eq_true_eq] at h2
    refine ⟨h2.1, fun j oj hj hdj => ?_⟩
    have h3 := List.all_eq_true.1 h2.2 j (List.mem_range.2 (Array.getElem?_eq_some_iff.1 hj).1)
    simp only [hj, Option.bind_some, hdj, Bool.or_eq_true, beq_iff_eq, bne_self_eq_false, Bool.false_eq_true, or_false] at h3
    exact h3
theorem getD_put_same {a : Act} {d : Tmp} {v : Value} (h : d < a.tmps.size) : (a.put (some d) v).tmps.getD d undef = v := by
  simp [Act.put, h]
theorem getD_put_other {a : Act} {o : Option Tmp} {d : Tmp} {v : Value} (h : o ≠ some d) : (a.put o v).tmps.getD d undef = a.tmps.getD d undef := by
  cases o with
  | none => rfl
  | some d' =>
    have : d' ≠ d := fun e => h (by rw [e])
    simp [Act.put, Array.getElem?_setIfInBounds_ne this]
theorem RInv.step (hm : ∀ i v w w', Φ i v w → Below w.heap.size w w' → Φ i v w') (hs : shapeB ops a0.tmps.size = true) {listed : Array Bool} {a : Act} {w w' : World} {i : Nat} {o : Oper} {v : Value} (h : RInv ops Φ a0 B listed a w) (hi : ops[i]? = some o) (hb : Below w.heap.size w w') (hv : Φ i v w') :
    RInv ops Φ a0 B (listed.setIfInBounds i true) (a.put o.dst v) w' := by
  have hsp := (shape_spec hs hi).2
  refine ⟨⟨?_, ?_, h.s.below.trans (hb.mono h.s.below.size), fun d hd => ?_⟩, by simp [h.size], fun j oj d hj hdj hl => ?_⟩
  · cases ho : o.dst <;> simp [Act.put, h.s.defers]
  · cases ho : o.dst <;> simp [Act.put, h.s.tsize]
  · have hne : o.dst ≠ some d := by
      have := List.all_eq_true.1 hd i (List.mem_range.2 (Array.getElem?_eq_some_iff.1 hi).1)
      simpa [hi] using this
    rw [getD_put_other hne]
    exact h.s.rest d hd
  · by_cases e : j = i
    · subst e
      obtain rfl : oj = o := Option.some.inj (hj.symm.trans hi)
      rw [hdj, getD_put_same (by rw [h.s.tsize]; exact (hsp d hdj).1)]
      exact hv
    · have hne : o.dst ≠ some d := fun h' => e ((hsp d h').2 j oj hj hdj)
      rw [getD_put_other hne]
      rw [getD_set_ne false (Ne.symm e)] at hl
      exact hm _ _ _ _ (h.facts j oj d hj hdj hl) hb
theorem wpAny_M (hm : ∀ i v w w', Φ i v w → Below w.heap.size w w' → Φ i v w') (hs : shapeB ops a0.tmps.size = true) (hop : AllM P ops Q Φ a0 B 0 ops.toList)
    (hend : ∀ a w, SInv ops a0 B a w → (∀ j o d, ops[j]? = some o → o.dst = some d → Φ j (a.tmps.getD d undef) w) → Q .normal a w) :
    ∀ (fuel : Nat) (listed : Array Bool) (a : Act) (w : World), RInv ops Φ a0 B listed a w → unl listed ops.size ≤ fuel → wpAny P .any ops Q fuel listed a w := by
  have done : ∀ (listed : Array Bool) (a : Act) (w : World), RInv ops Φ a0 B listed a w → (∀ j, j < ops.size → listed.getD j false = true) → Q .normal a w := fun listed a w h hall =>
    hend a w h.s (fun j o d hj hd => h.facts j o d hj hd (hall j (Array.getElem?_eq_some_iff.1 hj).1))
  intro fuel
  induction fuel with
  | zero =>
    intro listed a w h hf
    have hall := unl_zero (n := ops.size) (Nat.le_zero.1 hf)
    refine ⟨?_, done listed a w h hall⟩
    rw [List.eq_nil_iff_forall_not_mem]
    intro j hj
    obtain ⟨hu, o, ho, _⟩ := mem_ready.1 hj
    have := hall j (Array.getElem?_eq_some_iff.1 ho).1
    rw [getD_both hu] at this; cases this
  | succ fuel ih =>
    intro listed a w h hf
    refine ⟨fun hre => done listed a w h ?_, fun i hi => ?_⟩
    · intro j
      induction j using Nat.strongRecOn with
      | ind j ihj =>
        intro hj
        cases hl : listed.getD j false
        · obtain ⟨o, ho⟩ : ∃ o, ops[j]? = some o := ⟨_, Array.getElem?_eq_getElem hj⟩
          have : j ∈ Region.ready .any ops listed := mem_ready.2 ⟨getD_in (by rw [h.size]; exact hj) hl, o, ho, fun e he hb => ihj e.on ((shape_spec hs ho).1 e he hb) (by have := (shape_spec hs ho).1 e he hb; omega)⟩
          rw [hre] at this; cases this
        · rfl
    · obtain ⟨hu, o, ho, hall⟩ := mem_ready.1 hi
      have hlt : i < ops.size := (Array.getElem?_eq_some_iff.1 ho).1
      have hcount := unl_set (l := listed) (i := i) (by rw [h.size]; exact hlt) (getD_both hu) (n := ops.size) hlt
      have hq : opM P ops Q Φ a0 B i o := by
        have := allM_at ops.toList 0 hop i o (by rw [Array.getElem?_toList]; exact ho)
        rwa [Nat.zero_add] at this
      have hq := hq a w h.s (fun j hj o' d ho' hd => h.facts j o' d ho' hd (by
        obtain ⟨n, hn, hb⟩ := Array.any_eq_true.1 hj
        simp only [Bool.and_eq_true, beq_iff_eq] at hb
        rw [← hb.1]
        exact hall _ (Array.getElem_mem hn) hb.2))
      unfold wpOp
      simp only [ho]
      split
      · rename_i hw
        rw [if_pos hw] at hq
        exact .inl (hq _ (fun v w' hb hv => ih _ _ _ (h.step hm hs ho hb hv) (by omega)))
      · rename_i hw
        rw [if_neg hw] at hq
        exact ih _ _ _ (h.step hm hs ho (Below.refl _ _) hq) (by omega)
/-- What an operation waits for. -/
def Deps (ops : Array Oper) (Φ : Nat → Value → World → Prop) (o : Oper) (a : Act) (w : World) : Prop :=
  ∀ j, (o.after.any fun e => e.on == j && Region.binds .any e) = true → ∀ o' d, ops[j]? = some o' → o'.dst = some d → Φ j (a.tmps.getD d undef) w
theorem opM_do {i : Nat} {o : Oper} (hg : o.guard = none) (h : ∀ a w, SInv ops a0 B a w → Deps ops Φ o a w → ∀ K : Act → World → Prop, (∀ v w', Below w.heap.size w w' → Φ i v w' → K (a.put o.dst v) w') → o.wp P a w K Q) : opM P ops Q Φ a0 B i o := by
  intro a w hS hf
  rw [if_pos (by unfold Region.wanted; rw [hg])]
  exact h a w hS hf
theorem wanted_slot {o og : Oper} {g G : Nat} {want b : Bool} {a : Act} (hg : o.guard = some (g, want)) (ho : ops[g]? = some og) (hd : og.dst = some G) (hs : a.tmps.getD G undef = .bool b) : Region.wanted o (yielded ops a.tmps) = (b == want) := by
  have hlt : a.tmps[G]? = some (.bool b) := by
    rw [Array.getD_eq_getD_getElem?] at hs
    cases h : a.tmps[G]? with
    | none => rw [h] at hs; cases hs
    | some v => rw [h] at hs; exact congrArg some hs
  unfold Region.wanted yielded
  simp only [hg, ho, Option.bind_some, hd, hlt]
  cases b <;> cases want <;> rfl
theorem opM_yes {i g G : Nat} {o og : Oper} {b : Bool} (hg : o.guard = some (g, b)) (ho : ops[g]? = some og) (hd : og.dst = some G) (hdep : (o.after.any fun e => e.on == g && Region.binds .any e) = true) (hΦ : ∀ v w, Φ g v w → v = .bool b)
    (h : ∀ a w, SInv ops a0 B a w → Deps ops Φ o a w → ∀ K : Act → World → Prop, (∀ v w', Below w.heap.size w w' → Φ i v w' → K (a.put o.dst v) w') → o.wp P a w K Q) : opM P ops Q Φ a0 B i o := by
  intro a w hS hf
  have hs := hΦ _ _ (hf g hdep og G ho hd)
  rw [if_pos (by rw [wanted_slot hg ho hd hs]; cases b <;> rfl)]
  exact h a w hS hf
theorem opM_no {i g G : Nat} {o og : Oper} {b : Bool} (hg : o.guard = some (g, b)) (ho : ops[g]? = some og) (hd : og.dst = some G) (hdep : (o.after.any fun e => e.on == g && Region.binds .any e) = true) (hΦ : ∀ v w, Φ g v w → v = .bool (!b))
    (h : ∀ w, Φ i undef w) : opM P ops Q Φ a0 B i o := by
  intro a w hS hf
  have hs := hΦ _ _ (hf g hdep og G ho hd)
  rw [if_neg (by rw [wanted_slot hg ho hd hs]; cases b <;> simp)]
  exact h w
/-- THE REGION. -/
theorem wp_region_M {id : Nat} {w : World} (Φ : Nat → Value → World → Prop) (hmix : P.follows .mixedOrders = true) (hm : ∀ i v w w', Φ i v w → Below w.heap.size w w' → Φ i v w') (hs : shapeB ops a0.tmps.size = true)
    (hop : AllM P ops Q Φ a0 w.drew 0 ops.toList)
    (hend : ∀ a w', SInv ops a0 w.drew a w' → (∀ j o d, ops[j]? = some o → o.dst = some d → Φ j (a.tmps.getD d undef) w') → Q .normal a w') : (Code.region id ops true).wp P Q a0 w := by
  refine wp_region_any hmix ?_
  refine wpAny_M (B := w.drew) hm hs hop hend _ _ _ _ ⟨⟨rfl, rfl, Below.refl _ _, fun _ _ => rfl⟩, by simp, fun j o d hj hd hl => ?_⟩ (unl_new _)
  rw [getD_replicate_false] at hl; cases hl
/-! ### A region with a last operation, which all others lead to: it may write -/
/-- Each but the last is waited for by a later one. -/
def sinkB (ops : Array Oper) (m : Nat) : Bool :=
  decide (ops.size = m + 1) && (List.range m).all fun j => (List.range (m + 1)).any fun k => decide (j < k) && ((ops[k]?).map fun o => o.after.any fun e => e.on == j && Region.binds .any e).getD false
theorem sink_all {m : Nat} (h : sinkB ops m = true) {listed : Array Bool} {ol : Oper} (hl : ops[m]? = some ol) (hready : ∀ e ∈ ol.after, Region.binds .any e = true → listed.getD e.on false = true)
    (hcl : ∀ (j : Nat) oj, ops[j]? = some oj → listed.getD j false = true → ∀ e ∈ oj.after, Region.binds .any e = true → listed.getD e.on false = true) : ∀ (d j : Nat), j + d = m → 0 < d → listed.getD j false = true := by
  simp only [sinkB, Bool.and_eq_true, decide_eq_true_eq] at h
  obtain ⟨_, h⟩ := h
  intro d
  induction d using Nat.strongRecOn with
  | ind d ih =>
    intro j hj hd
    obtain ⟨k, hk, h2⟩ := List.any_eq_true.1 (List.all_eq_true.1 h j (List.mem_range.2 (by omega)))
    simp only [Bool.and_eq_true, decide_eq_true_eq] at h2
    obtain ⟨hjk, h3⟩ := h2
    have hk := List.mem_range.1 hk
    cases ho : ops[k]? with
    | none => rw [ho] at h3; cases h3
    | some o =>
      rw [ho] at h3
      obtain ⟨n, hn, hb⟩ := Array.any_eq_true.1 (show (o.after.any fun e => e.on == j && Region.binds .any e) = true from h3)
      simp only [Bool.and_eq_true, beq_iff_eq] at hb
      rw [← hb.1]
      by_cases e : k = m
      · subst e
        obtain rfl : ol = o := Option.some.inj (hl.symm.trans ho)
        exact hready _ (Array.getElem_mem hn) hb.2
      · exact hcl k o ho (ih (m - k) (by omega) k (by omega) (by omega)) _ (Array.getElem_mem hn) hb.2
theorem wpAny_all {listed : Array Bool} {a : Act} {w : World} (hall : ∀ j, j < ops.size → listed.getD j false = true) (hQ : Q .normal a w) : ∀ fuel, wpAny P .any ops Q fuel listed a w := by
  have hre : Region.ready .any ops listed = [] := by
    rw [List.eq_nil_iff_forall_not_mem]
    intro j hj
    obtain ⟨hu, o, ho, _⟩ := mem_ready.1 hj
    have := hall j (Array.getElem?_eq_some_iff.1 ho).1
    rw [getD_both hu] at this; cases this
  intro fuel
  cases fuel with
  | zero => exact ⟨hre, hQ⟩
  | succ f => exact ⟨fun _ => hQ, fun i hi => by rw [hre] at hi; cases hi⟩
theorem wpAny_ML {m : Nat} {ol : Oper} (hm : ∀ i v w w', Φ i v w → Below w.heap.size w w' → Φ i v w') (hs : shapeB ops a0.tmps.size = true) (hsk : sinkB ops m = true) (hol : ops[m]? = some ol) (hg : ol.guard = none) (hop : AllM P ops Q Φ a0 B 0 (ops.toList.take m))
    (hend : ∀ a w, SInv ops a0 B a w → (∀ j o d, j < m → ops[j]? = some o → o.dst = some d → Φ j (a.tmps.getD d undef) w) → ol.wp P a w (fun a' w' => Q .normal a' w') Q) :
    ∀ (fuel : Nat) (listed : Array Bool) (a : Act) (w : World), RInv ops Φ a0 B listed a w → (∀ (j : Nat) oj, ops[j]? = some oj → listed.getD j false = true → ∀ e ∈ oj.after, Region.binds .any e = true → listed.getD e.on false = true) →
      listed.getD m false = false → unl listed ops.size ≤ fuel → wpAny P .any ops Q fuel listed a w := by
  have hsz : ops.size = m + 1 := by
    simp only [sinkB, Bool.and_eq_true, decide_eq_true_eq] at hsk
    exact hsk.1
  intro fuel
  induction fuel with
  | zero =>
    intro listed a w h hcl hlm hf
    have := unl_zero (n := ops.size) (Nat.le_zero.1 hf) m (by omega)
    rw [this] at hlm; cases hlm
  | succ fuel ih =>
    intro listed a w h hcl hlm hf
    refine ⟨fun hre => ?_, fun i hi => ?_⟩
    · exfalso
      have hall : ∀ j, j < ops.size → listed.getD j false = true := by
        intro j
        induction j using Nat.strongRecOn with
        | ind j ihj =>
          intro hj
          cases hl : listed.getD j false
          · obtain ⟨o, ho⟩ : ∃ o, ops[j]? = some o := ⟨_, Array.getElem?_eq_getElem hj⟩
            have : j ∈ Region.ready .any ops listed := mem_ready.2 ⟨getD_in (by rw [h.size]; exact hj) hl, o, ho, fun e he hb => ihj e.on ((shape_spec hs ho).1 e he hb) (by have := (shape_spec hs ho).1 e he hb; omega)⟩
            rw [hre] at this; cases this
          · rfl
      rw [hall m (by omega)] at hlm; cases hlm
    · obtain ⟨hu, o, ho, hall⟩ := mem_ready.1 hi
      have hlt : i < ops.size := (Array.getElem?_eq_some_iff.1 ho).1
      by_cases e : i = m
      · subst e
        obtain rfl : ol = o := Option.some.inj (hol.symm.trans ho)
        have hoth := sink_all hsk hol hall hcl
        unfold wpOp
        simp only [ho]
        rw [if_pos (by unfold Region.wanted; rw [hg])]
        refine .inl (Oper.wp_mono (fun a' w' hq => ?_) (hend a w h.s (fun j o' d hj ho' hd => h.facts j o' d ho' hd (hoth (i - j) j (by omega) (by omega)))))
        refine wpAny_all (fun j hj => ?_) hq fuel
        by_cases e2 : j = i
        · subst e2
          simp [h.size, hlt]
        · exact getD_set_true (hoth (i - j) j (by omega) (by omega))
      · have hcount := unl_set (l := listed) (i := i) (by rw [h.size]; exact hlt) (getD_both hu) (n := ops.size) hlt
        have hq : opM P ops Q Φ a0 B i o := by
          have := allM_at (ops.toList.take m) 0 hop i o (by rw [List.getElem?_take, if_pos (by omega), Array.getElem?_toList]; exact ho)
          rwa [Nat.zero_add] at this
        have hq := hq a w h.s (fun j hj o' d ho' hd => h.facts j o' d ho' hd (by
          obtain ⟨n, hn, hb⟩ := Array.any_eq_true.1 hj
          simp only [Bool.and_eq_true, beq_iff_eq] at hb
          rw [← hb.1]
          exact hall _ (Array.getElem_mem hn) hb.2))
        have hcl' : ∀ (j : Nat) oj, ops[j]? = some oj → (listed.setIfInBounds i true).getD j false = true → ∀ e ∈ oj.after, Region.binds .any e = true → (listed.setIfInBounds i true).getD e.on false = true := fun j oj hj hl e he hb => by
          by_cases hij : i = j
          · subst hij
            obtain rfl : oj = o := Option.some.inj (hj.symm.trans ho)
            exact getD_set_true (hall e he hb)
          · rw [getD_set_ne false hij] at hl
            exact getD_set_true (hcl j oj hj hl e he hb)
        have hlm' : (listed.setIfInBounds i true).getD m false = false := by rw [getD_set_ne false e]; exact hlm
        unfold wpOp
        simp only [ho]
        split
        · rename_i hw
          rw [if_pos hw] at hq
          exact .inl (hq _ (fun v w' hb hv => ih _ _ _ (h.step hm hs ho hb hv) hcl' hlm' (by omega)))
        · rename_i hw
          rw [if_neg hw] at hq
          exact ih _ _ _ (h.step hm hs ho (Below.refl _ _) hq) hcl' hlm' (by omega)
/-- The slots behind the operations, in the order of the list. -/
def putsL (vs : Nat → Value) : Nat → List Oper → Array Value → Array Value
  | _, [], t => t
  | i, o :: os, t => putsL vs (i + 1) os (match o.dst with | some d => t.setIfInBounds d (vs i) | none => t)
theorem putsL_size {vs : Nat → Value} : ∀ {l : List Oper} {i : Nat} {t : Array Value}, (putsL vs i l t).size = t.size
  | [], _, _ => rfl
  | o :: os, i, t => by
    unfold putsL
    rw [putsL_size]
    cases o.dst <;> simp
theorem putsL_out {vs : Nat → Value} {d : Nat} : ∀ {l : List Oper} {i : Nat} {t : Array Value}, (∀ o ∈ l, o.dst ≠ some d) → (putsL vs i l t).getD d undef = t.getD d undef
  | [], _, _, _ => rfl
  | o :: os, i, t, h => by
    unfold putsL
    rw [putsL_out (fun o' ho' => h o' (List.mem_cons_of_mem _ ho'))]
    have := h o (List.mem_cons_self ..)
    cases ho : o.dst with
    | none => rfl
    | some d' =>
      have hne : d' ≠ d := fun e => this (by rw [ho, e])
      simp [Array.getElem?_setIfInBounds_ne hne]
theorem putsL_in {vs : Nat → Value} {d : Nat} (l : List Oper) : ∀ {i k : Nat} {o : Oper} {t : Array Value}, l[k]? = some o → o.dst = some d → d < t.size → (∀ k' o', l[k']? = some o' → o'.dst = some d → k' = k) → (putsL vs i l t).getD d undef = vs (i + k) := by
  induction l with
  | nil => intro i k o t hk; simp at hk
  | cons o os ih =>
    intro i k o' t hk hd hlt hu
    cases k with
    | zero =>
      simp only [List.getElem?_cons_zero, Option.some.injEq] at hk
      subst hk
      unfold putsL
      rw [putsL_out (fun o' ho' e => ?_), hd, Nat.add_zero]
      · simp [hlt]
      · obtain ⟨n, hn⟩ := List.getElem?_of_mem ho'
        have := hu (n + 1) o' (by simpa using hn) e
        omega
    | succ k =>
      unfold putsL
      have h3 := ih (i := i + 1) (k := k) (o := o') (t := match o.dst with | some d => t.setIfInBounds d (vs i) | none => t) (by simpa using hk) hd (by cases o.dst <;> simp [hlt]) (fun k' o2 h1 h2 => by have := hu (k' + 1) o2 (by simpa using h1) h2; omega)
      rw [h3, show i + 1 + k = i + (k + 1) by omega]
/-- THE REGION with a last operation: the slots in one form. -/
theorem wp_region_ML {id m : Nat} {w : World} {ol : Oper} (Φ : Nat → Value → World → Prop) (hmix : P.follows .mixedOrders = true) (hm : ∀ i v w w', Φ i v w → Below w.heap.size w w' → Φ i v w') (hs : shapeB ops a0.tmps.size = true) (hsk : sinkB ops m = true) (hol : ops[m]? = some ol) (hg : ol.guard = none) (hld : ol.dst = none)
    (hop : AllM P ops Q Φ a0 w.drew 0 (ops.toList.take m))
    (hend : ∀ (vs : Nat → Value) (a : Act) w', Below w.drew.heap.size w.drew w' → (∀ j, j < m → ((ops[j]?).bind (·.dst)).isSome = true → Φ j (vs j) w') → a = ⟨putsL vs 0 (ops.toList.take m) a0.tmps, a0.defers⟩ → ol.wp P a w' (fun a' w' => Q .normal a' w') Q) : (Code.region id ops true).wp P Q a0 w := by
  refine wp_region_any hmix ?_
  have hsz : ops.size = m + 1 := by
    simp only [sinkB, Bool.and_eq_true, decide_eq_true_eq] at hsk
    exact hsk.1
  refine wpAny_ML (B := w.drew) hm hs hsk hol hg hop (fun a w' hS hF => ?_) _ _ _ _ ⟨⟨rfl, rfl, Below.refl _ _, fun _ _ => rfl⟩, by simp, fun j o d hj hd hl => ?_⟩ (fun j oj hj hl => ?_) (getD_replicate_false _ _) (unl_new _)
  · refine hend (fun j => a.tmps.getD (((ops[j]?).bind (·.dst)).getD 0) undef) a w' hS.below (fun j hj hj2 => ?_) ?_
    · cases ho : ops[j]? with
      | none => rw [ho] at hj2; cases hj2
      | some o =>
        rw [ho] at hj2
        cases hd : o.dst with
        | none => rw [Option.bind_some, hd] at hj2; cases hj2
        | some d =>
          simp only [Option.bind_some, hd, Option.getD_some]
          exact hF j o d hj ho hd
    · obtain ⟨tm, df⟩ := a
      have hdf := hS.defers
      simp only at hdf
      subst hdf
      congr 1
      refine Array.ext (by rw [putsL_size]; exact hS.tsize) (fun d h1 h2 => ?_)
      have key : tm.getD d undef = (putsL (fun j => tm.getD (((ops[j]?).bind (·.dst)).getD 0) undef) 0 (ops.toList.take m) a0.tmps).getD d undef := by
        by_cases hx : ∃ (k : Nat) (o : Oper), (ops.toList.take m)[k]? = some o ∧ o.dst = some d
        · obtain ⟨k, o, hk, hd⟩ := hx
          have hk2 : ops[k]? = some o := by
            rw [List.getElem?_take] at hk
            split at hk
            · rw [← Array.getElem?_toList]; exact hk
            · cases hk
          rw [putsL_in _ hk hd (((shape_spec hs hk2).2 d hd).1) (fun k' o' h1 h2 => ?_), Nat.zero_add]
          · simp only [hk2, Option.bind_some, hd, Option.getD_some]
          · refine ((shape_spec hs hk2).2 d hd).2 k' o' ?_ h2
            rw [List.getElem?_take] at h1
            split at h1
            · rw [← Array.getElem?_toList]; exact h1
            · cases h1
        · rw [putsL_out (fun o ho e => hx (by obtain ⟨n, hn⟩ := List.getElem?_of_mem ho; exact ⟨n, o, hn, e⟩))]
          refine hS.rest d ?_
          rw [List.all_eq_true]
          intro j hj
          have hj := List.mem_range.1 hj
          cases ho : ops[j]? with
          | none => rfl
          | some o =>
            simp only [Option.bind_some, bne_iff_ne, ne_eq]
            intro e
            by_cases e2 : j = m
            · subst e2
              obtain rfl : ol = o := Option.some.inj (hol.symm.trans ho)
              rw [hld] at e; cases e
            · exact hx ⟨j, o, by rw [List.getElem?_take, if_pos (by omega), Array.getElem?_toList]; exact ho, e⟩
      rw [Array.getD_eq_getD_getElem?, Array.getElem?_eq_getElem h1, Array.getD_eq_getD_getElem?, Array.getElem?_eq_getElem h2] at key
      exact key
  · rw [getD_replicate_false] at hl; cases hl
  · rw [getD_replicate_false] at hl; cases hl
end
end Go.Proofs.Ytldaamgohdnjnaa

/-
  A region that draws its order and stores once in its midst: what is behind the store, or may be, only moves slots.
-/
namespace Go.Proofs.Ytldaamgohdnjnaa
open Go.RowKit
set_option linter.unusedVariables false
/-- The store waits for it. -/
def swaitB (ops : Array Oper) (m i : Nat) : Bool := ((ops[m]?).map fun o => o.after.any fun e => e.on == i && Region.binds .any e).getD false
/-- Each operation but the store is late, or waited for by the store; what stands behind the store in the list waits for it. -/
def lateB (ops : Array Oper) (m : Nat) (late : List Nat) : Bool :=
  (List.range ops.size).all fun i => (i == m || late.contains i || swaitB ops m i) && (decide (i ≤ m) || ((ops[i]?).map fun o => o.after.any fun e => e.on == m && Region.binds .any e).getD false)
section
variable {P : Program} {ops : Array Oper} {Q : Exit → Act → World → Prop} {Φ : Nat → Value → World → Prop} {Ψ : Value → Value → World → World → Prop} {a0 : Act} {B : World}
/-- An operation that only moves slots: also behind the store. -/
def opP (P : Program) (ops : Array Oper) (Q : Exit → Act → World → Prop) (Φ : Nat → Value → World → Prop) (i : Nat) : Prop :=
  ∀ o, ops[i]? = some o → o.guard = none ∧ ∀ a w1 w2, Deps ops Φ o a w1 → ∀ K : Act → World → Prop, (∀ v, Φ i v w1 → K (a.put o.dst v) w2) → o.wp P a w2 K Q
def AllP (P : Program) (ops : Array Oper) (Q : Exit → Act → World → Prop) (Φ : Nat → Value → World → Prop) : List Nat → Prop
  | [] => True
  | i :: is => opP P ops Q Φ i ∧ AllP P ops Q Φ is
theorem allP_at : ∀ {l : List Nat}, AllP P ops Q Φ l → ∀ i, i ∈ l → opP P ops Q Φ i
  | [], _, i, hi => by cases hi
  | j :: js, h, i, hi => by
    rcases List.mem_cons.1 hi with e | e
    · rw [e]; exact h.1
    · exact allP_at h.2 i e
theorem opP_do {i : Nat} {o : Oper} (ho : ops[i]? = some o) (hg : o.guard = none) (h : ∀ a w1 w2, Deps ops Φ o a w1 → ∀ K : Act → World → Prop, (∀ v, Φ i v w1 → K (a.put o.dst v) w2) → o.wp P a w2 K Q) : opP P ops Q Φ i := by
  intro o' ho'
  obtain rfl : o = o' := Option.some.inj (ho.symm.trans ho')
  exact ⟨hg, h⟩
theorem wpAny_MS {m jp jv dp dv : Nat} {late : List Nat} {ol : Oper} (hm : ∀ i v w w', Φ i v w → Below w.heap.size w w' → Φ i v w') (hs : shapeB ops a0.tmps.size = true) (hlt : lateB ops m late = true) (hol : ops[m]? = some ol) (hg : ol.guard = none) (hld : ol.dst = none)
    (hjp : (ops[jp]?).bind (·.dst) = some dp) (hjv : (ops[jv]?).bind (·.dst) = some dv) (hsp : swaitB ops m jp = true) (hsv : swaitB ops m jv = true)
    (hop : AllM P ops Q Φ a0 B 0 (ops.toList.take m)) (hpu : AllP P ops Q Φ late)
    (hst : ∀ a w1, SInv ops a0 B a w1 → Φ jp (a.tmps.getD dp undef) w1 → Φ jv (a.tmps.getD dv undef) w1 → ∀ K : Act → World → Prop, (∀ w2, Ψ (a.tmps.getD dp undef) (a.tmps.getD dv undef) w1 w2 → K a w2) → ol.wp P a w1 K Q)
    (hend : ∀ a w1 w2, SInv ops a0 B a w1 → (∀ j o d, ops[j]? = some o → o.dst = some d → Φ j (a.tmps.getD d undef) w1) → Ψ (a.tmps.getD dp undef) (a.tmps.getD dv undef) w1 w2 → Q .normal a w2) :
    ∀ (fuel : Nat) (listed : Array Bool) (a : Act) (w : World), unl listed ops.size ≤ fuel →
      ((RInv ops Φ a0 B listed a w ∧ listed.getD m false = false) ∨
       ∃ w1, RInv ops Φ a0 B listed a w1 ∧ Ψ (a.tmps.getD dp undef) (a.tmps.getD dv undef) w1 w ∧ listed.getD m false = true ∧ ∀ i, swaitB ops m i = true → listed.getD i false = true) →
      wpAny P .any ops Q fuel listed a w := by
  have hmlt : m < ops.size := (Array.getElem?_eq_some_iff.1 hol).1
  have hlate := fun i (hi : i < ops.size) => by
    have := List.all_eq_true.1 hlt i (List.mem_range.2 hi)
    simpa only [Bool.and_eq_true, Bool.or_eq_true, beq_iff_eq, decide_eq_true_eq] using this
  have fin : ∀ (listed : Array Bool) (a : Act) (w : World), (∀ j, j < ops.size → listed.getD j false = true) →
      ((RInv ops Φ a0 B listed a w ∧ listed.getD m false = false) ∨
       ∃ w1, RInv ops Φ a0 B listed a w1 ∧ Ψ (a.tmps.getD dp undef) (a.tmps.getD dv undef) w1 w ∧ listed.getD m false = true ∧ ∀ i, swaitB ops m i = true → listed.getD i false = true) → Q .normal a w := by
    intro listed a w hall h
    rcases h with ⟨_, h⟩ | ⟨w1, h, hΨ, _, _⟩
    · rw [hall m hmlt] at h; cases h
    · exact hend a w1 w h.s (fun j o d hj hd => h.facts j o d hj hd (hall j (Array.getElem?_eq_some_iff.1 hj).1)) hΨ
  intro fuel
  induction fuel with
  | zero =>
    intro listed a w hf h
    have hall := unl_zero (n := ops.size) (Nat.le_zero.1 hf)
    exact wpAny_all hall (fin listed a w hall h) 0
  | succ fuel ih =>
    intro listed a w hf h
    have hsz : listed.size = ops.size := by
      rcases h with ⟨h, _⟩ | ⟨w1, h, _⟩
      · exact h.size
      · exact h.size
    refine ⟨fun hre => fin listed a w ?_ h, fun i hi => ?_⟩
    · intro j
      induction j using Nat.strongRecOn with
      | ind j ihj =>
        intro hj
        cases hl : listed.getD j false
        · obtain ⟨o, ho⟩ : ∃ o, ops[j]? = some o := ⟨_, Array.getElem?_eq_getElem hj⟩
          have : j ∈ Region.ready .any ops listed := mem_ready.2 ⟨getD_in (by rw [hsz]; exact hj) hl, o, ho, fun e he hb => ihj e.on ((shape_spec hs ho).1 e he hb) (by have := (shape_spec hs ho).1 e he hb; omega)⟩
          rw [hre] at this; cases this
        · rfl
    · obtain ⟨hu, o, ho, hall⟩ := mem_ready.1 hi
      have hilt : i < ops.size := (Array.getElem?_eq_some_iff.1 ho).1
      have hui := getD_both hu
      have hcount := unl_set (l := listed) (i := i) (by rw [hsz]; exact hilt) hui (n := ops.size) hilt
      have deps : ∀ w1, RInv ops Φ a0 B listed a w1 → Deps ops Φ o a w1 := fun w1 h j hj o' d ho' hd => h.facts j o' d ho' hd (by
        obtain ⟨n, hn, hb⟩ := Array.any_eq_true.1 hj
        simp only [Bool.and_eq_true, beq_iff_eq] at hb
        rw [← hb.1]
        exact hall _ (Array.getElem_mem hn) hb.2)
      rcases h with ⟨h, hlm⟩ | ⟨w1, h, hΨ, hlm, hsw⟩
      · by_cases e : i = m
        · subst e
          obtain rfl : ol = o := Option.some.inj (hol.symm.trans ho)
          have hsw : ∀ j, swaitB ops i j = true → listed.getD j false = true := fun j hj => by
            unfold swaitB at hj
            rw [hol] at hj
            obtain ⟨n, hn, hb⟩ := Array.any_eq_true.1 (show (ol.after.any fun e => e.on == j && Region.binds .any e) = true from hj)
            simp only [Bool.and_eq_true, beq_iff_eq] at hb
            rw [← hb.1]
            exact hall _ (Array.getElem_mem hn) hb.2
          unfold wpOp
          simp only [ho]
          rw [if_pos (by unfold Region.wanted; rw [hg])]
          have fact : ∀ {j d : Nat}, (ops[j]?).bind (·.dst) = some d → swaitB ops i j = true → Φ j (a.tmps.getD d undef) w := fun {j d} hj hsj => by
            cases hoj : ops[j]? with
            | none => rw [hoj] at hj; cases hj
            | some oj => rw [hoj] at hj; exact h.facts j oj d hoj hj (hsw j hsj)
          refine .inl (hst a w h.s (fact hjp hsp) (fact hjv hsv) _ (fun w2 hΨ => ih _ _ _ (by omega) (.inr ⟨w, ⟨h.s, by simp [h.size], fun j oj d hj hd hl => ?_⟩, hΨ, by simp [hsz, hilt], fun j hj => getD_set_true (hsw j hj)⟩)))
          have hne : i ≠ j := fun e => by
            subst e
            obtain rfl : ol = oj := Option.some.inj (ho.symm.trans hj)
            rw [hld] at hd; cases hd
          rw [getD_set_ne false hne] at hl
          exact h.facts j oj d hj hd hl
        · have hlti : i < m := by
            rcases (hlate i hilt).2 with h1 | h1
            · omega
            · exfalso
              rw [ho] at h1
              obtain ⟨n, hn, hb⟩ := Array.any_eq_true.1 (show (o.after.any fun e => e.on == m && Region.binds .any e) = true from h1)
              simp only [Bool.and_eq_true, beq_iff_eq] at hb
              have := hall _ (Array.getElem_mem hn) hb.2
              rw [hb.1, hlm] at this; cases this
          have hq : opM P ops Q Φ a0 B i o := by
            have := allM_at (ops.toList.take m) 0 hop i o (by rw [List.getElem?_take, if_pos hlti, Array.getElem?_toList]; exact ho)
            rwa [Nat.zero_add] at this
          have hq := hq a w h.s (deps w h)
          have hlm' : (listed.setIfInBounds i true).getD m false = false := by rw [getD_set_ne false e]; exact hlm
          unfold wpOp
          simp only [ho]
          split
          · rename_i hw
            rw [if_pos hw] at hq
            exact .inl (hq _ (fun v w' hb hv => ih _ _ _ (by omega) (.inl ⟨h.step hm hs ho hb hv, hlm'⟩)))
          · rename_i hw
            rw [if_neg hw] at hq
            exact ih _ _ _ (by omega) (.inl ⟨h.step hm hs ho (Below.refl _ _) hq, hlm'⟩)
      · have him : i ≠ m := fun e => by rw [e, hlm] at hui; cases hui
        have hnsw : ∀ j, swaitB ops m j = true → i ≠ j := fun j hj e => by rw [e, hsw j hj] at hui; cases hui
        have hin : i ∈ late := by
          rcases (hlate i hilt).1 with (h1 | h1) | h1
          · exact absurd h1 him
          · simpa using h1
          · exact absurd rfl (hnsw i h1)
        obtain ⟨hgi, hq⟩ := allP_at hpu i hin o ho
        unfold wpOp
        simp only [ho]
        rw [if_pos (by unfold Region.wanted; rw [hgi])]
        have keep : ∀ {j d : Nat} (v : Value), (ops[j]?).bind (·.dst) = some d → swaitB ops m j = true → (a.put o.dst v).tmps.getD d undef = a.tmps.getD d undef := fun {j d} v hj hsj => by
          refine getD_put_other (fun e => ?_)
          cases hoj : ops[j]? with
          | none => rw [hoj] at hj; cases hj
          | some oj =>
            rw [hoj] at hj
            exact hnsw j hsj (((shape_spec hs ho).2 d e).2 j oj hoj hj).symm
        refine .inl (hq a w1 w (deps w1 h) _ (fun v hv => ih _ _ _ (by omega) (.inr ⟨w1, h.step hm hs ho (Below.refl _ _) hv, ?_, getD_set_true hlm, fun j hj => getD_set_true (hsw j hj)⟩)))
        rw [keep v hjp hsp, keep v hjv hsv]
        exact hΨ
/-- THE REGION with a store in its midst: the slots in one form. -/
theorem wp_region_MS {id m jp jv dp dv : Nat} {late : List Nat} {w : World} {ol : Oper} (Φ : Nat → Value → World → Prop) (Ψ : Value → Value → World → World → Prop) (hmix : P.follows .mixedOrders = true) (hm : ∀ i v w w', Φ i v w → Below w.heap.size w w' → Φ i v w') (hs : shapeB ops a0.tmps.size = true) (hlt : lateB ops m late = true) (hol : ops[m]? = some ol) (hg : ol.guard = none) (hld : ol.dst = none)
    (hjp : (ops[jp]?).bind (·.dst) = some dp) (hjv : (ops[jv]?).bind (·.dst) = some dv) (hsp : swaitB ops m jp = true) (hsv : swaitB ops m jv = true)
    (hop : AllM P ops Q Φ a0 w.drew 0 (ops.toList.take m)) (hpu : AllP P ops Q Φ late)
    (hst : ∀ a w1, SInv ops a0 w.drew a w1 → Φ jp (a.tmps.getD dp undef) w1 → Φ jv (a.tmps.getD dv undef) w1 → ∀ K : Act → World → Prop, (∀ w2, Ψ (a.tmps.getD dp undef) (a.tmps.getD dv undef) w1 w2 → K a w2) → ol.wp P a w1 K Q)
    (hend : ∀ (vs : Nat → Value) (a : Act) w1 w2, Below w.drew.heap.size w.drew w1 → (∀ j, j < ops.size → ((ops[j]?).bind (·.dst)).isSome = true → Φ j (vs j) w1) → a = ⟨putsL vs 0 ops.toList a0.tmps, a0.defers⟩ → Ψ (vs jp) (vs jv) w1 w2 → Q .normal a w2) : (Code.region id ops true).wp P Q a0 w := by
  refine wp_region_any hmix ?_
  refine wpAny_MS (B := w.drew) hm hs hlt hol hg hld hjp hjv hsp hsv hop hpu hst (fun a w1 w2 hS hF hΨ => ?_) _ _ _ _ (unl_new _) (.inl ⟨⟨⟨rfl, rfl, Below.refl _ _, fun _ _ => rfl⟩, by simp, fun j o d hj hd hl => ?_⟩, getD_replicate_false _ _⟩)
  · refine hend (fun j => a.tmps.getD (((ops[j]?).bind (·.dst)).getD 0) undef) a w1 w2 hS.below (fun j hj hj2 => ?_) ?_ (by simp only [hjp, hjv, Option.getD_some]; exact hΨ)
    · cases ho : ops[j]? with
      | none => rw [ho] at hj2; cases hj2
      | some o =>
        rw [ho] at hj2
        cases hd : o.dst with
        | none => rw [Option.bind_some, hd] at hj2; cases hj2
        | some d =>
          simp only [Option.bind_some, hd, Option.getD_some]
          exact hF j o d ho hd
    · obtain ⟨tm, df⟩ := a
      have hdf := hS.defers
      simp only at hdf
      subst hdf
      congr 1
      refine Array.ext (by rw [putsL_size]; exact hS.tsize) (fun d h1 h2 => ?_)
      have key : tm.getD d undef = (putsL (fun j => tm.getD (((ops[j]?).bind (·.dst)).getD 0) undef) 0 ops.toList a0.tmps).getD d undef := by
        by_cases hx : ∃ (k : Nat) (o : Oper), ops.toList[k]? = some o ∧ o.dst = some d
        · obtain ⟨k, o, hk, hd⟩ := hx
          have hk2 : ops[k]? = some o := by rw [← Array.getElem?_toList]; exact hk
          rw [putsL_in _ hk hd (((shape_spec hs hk2).2 d hd).1) (fun k' o' h1 h2 => ((shape_spec hs hk2).2 d hd).2 k' o' (by rw [← Array.getElem?_toList]; exact h1) h2), Nat.zero_add]
          simp only [hk2, Option.bind_some, hd, Option.getD_some]
        · rw [putsL_out (fun o ho e => hx (by obtain ⟨n, hn⟩ := List.getElem?_of_mem ho; exact ⟨n, o, hn, e⟩))]
          refine hS.rest d ?_
          rw [List.all_eq_true]
          intro j hj
          cases ho : ops[j]? with
          | none => rfl
          | some o =>
            simp only [Option.bind_some, bne_iff_ne, ne_eq]
            intro e
            exact hx ⟨j, o, by rw [Array.getElem?_toList]; exact ho, e⟩
      rw [Array.getD_eq_getD_getElem?, Array.getElem?_eq_getElem h1, Array.getD_eq_getD_getElem?, Array.getElem?_eq_getElem h2] at key
      exact key
  · rw [getD_replicate_false] at hl; cases hl
/-- THE REGION without a store: the slots in one form. -/
theorem wp_region_MV {id : Nat} {w : World} (Φ : Nat → Value → World → Prop) (hmix : P.follows .mixedOrders = true) (hm : ∀ i v w w', Φ i v w → Below w.heap.size w w' → Φ i v w') (hs : shapeB ops a0.tmps.size = true)
    (hop : AllM P ops Q Φ a0 w.drew 0 ops.toList)
    (hend : ∀ (vs : Nat → Value) (a : Act) w1, Below w.drew.heap.size w.drew w1 → (∀ j, j < ops.size → ((ops[j]?).bind (·.dst)).isSome = true → Φ j (vs j) w1) → a = ⟨putsL vs 0 ops.toList a0.tmps, a0.defers⟩ → Q .normal a w1) : (Code.region id ops true).wp P Q a0 w := by
  refine wp_region_M Φ hmix hm hs hop (fun a w1 hS hF => ?_)
  refine hend (fun j => a.tmps.getD (((ops[j]?).bind (·.dst)).getD 0) undef) a w1 hS.below (fun j hj hj2 => ?_) ?_
  · cases ho : ops[j]? with
    | none => rw [ho] at hj2; cases hj2
    | some o =>
      rw [ho] at hj2
      cases hd : o.dst with
      | none => rw [Option.bind_some, hd] at hj2; cases hj2
      | some d =>
        simp only [Option.bind_some, hd, Option.getD_some]
        exact hF j o d ho hd
  · obtain ⟨tm, df⟩ := a
    have hdf := hS.defers
    simp only at hdf
    subst hdf
    congr 1
    refine Array.ext (by rw [putsL_size]; exact hS.tsize) (fun d h1 h2 => ?_)
    have key : tm.getD d undef = (putsL (fun j => tm.getD (((ops[j]?).bind (·.dst)).getD 0) undef) 0 ops.toList a0.tmps).getD d undef := by
      by_cases hx : ∃ (k : Nat) (o : Oper), ops.toList[k]? = some o ∧ o.dst = some d
      · obtain ⟨k, o, hk, hd⟩ := hx
        have hk2 : ops[k]? = some o := by rw [← Array.getElem?_toList]; exact hk
        rw [putsL_in _ hk hd (((shape_spec hs hk2).2 d hd).1) (fun k' o' h1 h2 => ((shape_spec hs hk2).2 d hd).2 k' o' (by rw [← Array.getElem?_toList]; exact h1) h2), Nat.zero_add]
        simp only [hk2, Option.bind_some, hd, Option.getD_some]
      · rw [putsL_out (fun o ho e => hx (by obtain ⟨n, hn⟩ := List.getElem?_of_mem ho; exact ⟨n, o, hn, e⟩))]
        refine hS.rest d ?_
        rw [List.all_eq_true]
        intro j hj
        cases ho : ops[j]? with
        | none => rfl
        | some o =>
          simp only [Option.bind_some, bne_iff_ne, ne_eq]
          intro e
          exact hx ⟨j, o, by rw [Array.getElem?_toList]; exact ho, e⟩
    rw [Array.getD_eq_getD_getElem?, Array.getElem?_eq_getElem h1, Array.getD_eq_getD_getElem?, Array.getElem?_eq_getElem h2] at key
    exact key
end
end Go.Proofs.Ytldaamgohdnjnaa

/-
  LevelBack plainly.
-/
namespace Go.Proofs.Ytldaamgohdnjnaa
open Ieee Go.RowKit
set_option linter.unusedVariables false
theorem apt_blk {g0 g1 n0 n1 c0 c1 : Nat} (h : g0 ≠ g1) : Apt (.slice (some ⟨g0, 0, none⟩) n0 c0) (.slice (some ⟨g1, 0, none⟩) n1 c1) := fun x e0 e1 => h ((Option.some.inj e0).trans (Option.some.inj e1).symm)
def lkW (d : Nat) (S : List Nat) (j : Nat) : Nat := aop .add .f32 (S.getD j 0) (cn .f32 d)
def lkH (d : Nat) (S : List Nat) (j : Nat) : Nat := aop .quo .f32 (S.getD j 0) (lkW d S j)
def lkNM (d : Nat) (M S : List Nat) (j : Nat) : Nat := aop .add .f32 (M.getD j 0) (aop .mul .f32 (lkH d S j) (aop .sub .f32 (M.getD (j + 1) 0) (M.getD j 0)))
def lkNS (d : Nat) (S : List Nat) (j : Nat) : Nat := aop .add .f32 (S.getD j 0) (aop .mul .f32 (aop .mul .f32 (lkH d S j) (lkH d S j)) (aop .sub .f32 (S.getD (j + 1) 0) (lkW d S j)))
def lkL (d n : Nat) (M S : List Nat) : Nat → List Nat × List Nat
  | 0 => (M, S)
  | k + 1 => ((lkL d n M S k).1.set (n - 2 - k) (lkNM d (lkL d n M S k).1 (lkL d n M S k).2 (n - 2 - k)), (lkL d n M S k).2.set (n - 2 - k) (lkNS d (lkL d n M S k).2 (n - 2 - k)))
theorem lk_succ {d n : Nat} {M S : List Nat} {k j : Nat} (hj : n - 2 - k = j) : lkL d n M S (k + 1) = ((lkL d n M S k).1.set j (lkNM d (lkL d n M S k).1 (lkL d n M S k).2 j), (lkL d n M S k).2.set j (lkNS d (lkL d n M S k).2 j)) := by subst hj; rw [lkL]
theorem lk_old {d n : Nat} {M S : List Nat} {j : Nat} : ∀ {k : Nat}, j + k + 1 < n → (lkL d n M S k).2.getD j 0 = S.getD j 0
  | 0, _ => rfl
  | k + 1, h => by
    rw [lk_succ rfl]
    rw [List.getD_eq_getElem?_getD, List.getElem?_set_ne (by omega), ← List.getD_eq_getElem?_getD]
    exact lk_old (by omega)
theorem lk_len {d n : Nat} {M S : List Nat} : ∀ (k : Nat), (lkL d n M S k).1.length = M.length ∧ (lkL d n M S k).2.length = S.length
  | 0 => ⟨rfl, rfl⟩
  | k + 1 => by rw [lk_succ rfl]; simp only [List.length_set]; exact lk_len k
def lkG (d n : Nat) (M S : List Nat) (k : Nat) : Bool := posB (lkW d (lkL d n M S k).2 (n - 2 - k))
theorem lk_leq {r v : Nat} (hr : cn .f32 r = v) (hv : isN .f32 v = false) : ((FloatKind.format .f32).order r 0 == some Ordering.lt || (FloatKind.format .f32).order r 0 == some Ordering.eq) = !posB v := by
  have e : (FloatKind.format .f32).order r 0 = (FloatKind.format .f32).order v 0 := order_left .f32 (by rw [← hr, cn_cn]) 0
  unfold posB
  rw [e, order_all .f32 v 0 hv (by decide +kernel)]
  cases compare (sr (FloatKind.format .f32) v) (sr (FloatKind.format .f32) 0) <;> rfl
theorem lk_gtr {r v : Nat} (hr : cn .f32 r = v) : ((FloatKind.format .f32).order r 0 == some Ordering.gt) = posB v := by
  unfold posB; rw [order_left .f32 (show cn .f32 r = cn .f32 v by rw [← hr, cn_cn]) 0]
section
variable (a b c d : Nat) (zs : List Nat) (ss : List Bool)
def lkF : List Nat × List Nat := lkL d zs.length (lrX0 a b c d zs ss) (lrX1 a b c d zs ss) (zs.length - 1)
def lkA : Bool := lrB a b c d zs ss && okn (lkG d zs.length (lrX0 a b c d zs ss) (lrX1 a b c d zs ss)) (zs.length - 1)
def lkOk : Bool := lkA a b c d zs ss && (fins (lkF a b c d zs ss).1 && fins (lkF a b c d zs ss).2)
def lkX0 : List Nat := if lkOk a b c d zs ss then (lkF a b c d zs ss).1 else []
def lkX1 : List Nat := if lkOk a b c d zs ss then (lkF a b c d zs ss).2 else []
end
section
variable {a b c d : Nat} {zs : List Nat} {ss : List Bool}
theorem lk_bad (h : lkOk a b c d zs ss = false) : lkOk a b c d zs ss = false ∧ lkX0 a b c d zs ss = [] ∧ lkX1 a b c d zs ss = [] := ⟨h, by unfold lkX0; rw [h]; rfl, by unfold lkX1; rw [h]; rfl⟩
theorem lk_badA (h : lkA a b c d zs ss = false) : lkOk a b c d zs ss = false ∧ lkX0 a b c d zs ss = [] ∧ lkX1 a b c d zs ss = [] := lk_bad (by unfold lkOk; rw [h]; rfl)
theorem lk_badL (h : lrB a b c d zs ss = false) : lkOk a b c d zs ss = false ∧ lkX0 a b c d zs ss = [] ∧ lkX1 a b c d zs ss = [] := lk_badA (by unfold lkA; rw [h]; rfl)
theorem lk_badG (h : lrB a b c d zs ss = true) {k : Nat} (hk : k < zs.length - 1) (hg : lkG d zs.length (lrX0 a b c d zs ss) (lrX1 a b c d zs ss) k = false) : lkOk a b c d zs ss = false ∧ lkX0 a b c d zs ss = [] ∧ lkX1 a b c d zs ss = [] := lk_badA (by unfold lkA; rw [h, okn_bad hk hg]; rfl)
theorem lk_good (h : lkOk a b c d zs ss = true) : lkX0 a b c d zs ss = (lkF a b c d zs ss).1 ∧ lkX1 a b c d zs ss = (lkF a b c d zs ss).2 := ⟨by unfold lkX0; rw [h]; rfl, by unfold lkX1; rw [h]; rfl⟩
theorem lr_lens (h : lrB a b c d zs ss = true) : (lrX0 a b c d zs ss).length = zs.length ∧ (lrX1 a b c d zs ss).length = zs.length ∧ 1 ≤ zs.length ∧ zs.length ≤ 96 := by
  have hg := lr_good h
  have hA : lvAll a b c d zs ss = true := by unfold lrB at h; exact (Bool.and_eq_true_iff.1 h).1
  have hl := lv_ser hA
  exact ⟨by rw [hg.1, tells_len], by rw [hg.2.1, tells_len], hl.1, hl.2.1⟩
theorem lk_lens (h : lrB a b c d zs ss = true) : (lkF a b c d zs ss).1.length = zs.length ∧ (lkF a b c d zs ss).2.length = zs.length := by
  have hl := lr_lens h
  have h2 := lk_len (d := d) (n := zs.length) (M := lrX0 a b c d zs ss) (S := lrX1 a b c d zs ss) (zs.length - 1)
  exact ⟨h2.1.trans hl.1, h2.2.trans hl.2.1⟩
theorem lkX0_len : (lkX0 a b c d zs ss).length ≤ 1048576 := by
  unfold lkX0
  split
  · rename_i h
    unfold lkOk lkA at h
    have hr := (Bool.and_eq_true_iff.1 (Bool.and_eq_true_iff.1 h).1).1
    have := (lr_lens hr).2.2.2
    rw [(lk_lens hr).1]; omega
  · simp
theorem lkX1_len : (lkX1 a b c d zs ss).length ≤ 1048576 := by
  unfold lkX1
  split
  · rename_i h
    unfold lkOk lkA at h
    have hr := (Bool.and_eq_true_iff.1 (Bool.and_eq_true_iff.1 h).1).1
    have := (lr_lens hr).2.2.2
    rw [(lk_lens hr).2]; omega
  · simp
/-- What is wide at a step is a number. -/
theorem lk_num (h : lrB a b c d zs ss = true) {k j : Nat} (hj : j + k + 1 < zs.length) : isN .f32 (lkW d (lkL d zs.length (lrX0 a b c d zs ss) (lrX1 a b c d zs ss) k).2 j) = false := by
  have hA : lvAll a b c d zs ss = true := by unfold lrB at h; exact (Bool.and_eq_true_iff.1 h).1
  have hf := (lv_fins hA).2.1
  have hd : fin .f32 d = true := by
    have h0 := okn_t (lv_ser hA).2.2 0 (by omega)
    exact (lsB_t h0).2.2.2.1
  unfold lkW
  rw [lk_old (by omega), (lr_good h).2.1, tells_at _ (by omega)]
  refine isN_add ?_ (by rw [← hd]; exact fin_congr (cn_cn ..))
  have := List.all_eq_true.1 (show (tells (lrT1 a b c d zs ss) zs.length).all (fin .f32) = true from hf) (lrT1 a b c d zs ss j) (by unfold tells; exact List.mem_map.2 ⟨j, by simp; omega, rfl⟩)
  exact this
end
end Go.Proofs.Ytldaamgohdnjnaa

/-
  LevelBack of the program.
-/
namespace Go.Proofs.Ytldaamgohdnjnaa
open Ieee Go.RowKit
set_option linter.unusedVariables false
set_option linter.unusedSimpArgs false
def lkR7 (p g0 g1 len c0 c1 j jj s s1 m m1 q r7 a b c d : Nat) : Nat → Value → World → Prop
  | 0, v, w => v = (.slice (some ⟨g1, 0, none⟩) len c1)
  | 1, v, w => v = (.int .i64 j)
  | 2, v, w => v = (.pointer (some ⟨g1, j, none⟩))
  | 3, v, w => v = (.float .f32 s)
  | 4, v, w => v = (.pointer (some ⟨p, 3, none⟩))
  | 5, v, w => v = (.float .f32 d)
  | 6, v, w => ∃ r, v = .float .f32 r ∧ cn .f32 r = (aop .add .f32 (cn .f32 s) (cn .f32 d))
  | 7, v, w => ∃ r, v = .float .f32 r ∧ cn .f32 r = (aop .add .f32 (cn .f32 s) (cn .f32 d))
  | _, _, _ => True
theorem lkR7_mono (p g0 g1 len c0 c1 j jj s s1 m m1 q r7 a b c d : Nat) : ∀ i v w w', lkR7 p g0 g1 len c0 c1 j jj s s1 m m1 q r7 a b c d i v w → Below w.heap.size w w' → lkR7 p g0 g1 len c0 c1 j jj s s1 m m1 q r7 a b c d i v w'
  := by
  intro i v w w' h hb
  unfold lkR7 at *
  split
  · exact h
  · exact h
  · exact h
  · exact h
  · exact h
  · exact h
  · exact h
  · exact h
  · trivial
def lkR11 (p g0 g1 len c0 c1 j jj s s1 m m1 q r7 a b c d : Nat) : Nat → Value → World → Prop
  | 0, v, w => v = (.slice (some ⟨g0, 0, none⟩) len c0)
  | 1, v, w => v = (.int .i64 j)
  | 2, v, w => v = (.pointer (some ⟨g0, j, none⟩))
  | 3, v, w => v = (.float .f32 m)
  | 4, v, w => v = (.float .f32 q)
  | 5, v, w => v = (.slice (some ⟨g0, 0, none⟩) len c0)
  | 6, v, w => v = (.int .i64 j)
  | 7, v, w => v = (.int .i64 jj)
  | 8, v, w => v = (.pointer (some ⟨g0, jj, none⟩))
  | 9, v, w => v = (.float .f32 m1)
  | 10, v, w => v = (.slice (some ⟨g0, 0, none⟩) len c0)
  | 11, v, w => v = (.int .i64 j)
  | 12, v, w => v = (.pointer (some ⟨g0, j, none⟩))
  | 13, v, w => v = (.float .f32 m)
  | 14, v, w => ∃ r, v = .float .f32 r ∧ cn .f32 r = (aop .sub .f32 (cn .f32 m1) (cn .f32 m))
  | 15, v, w => ∃ r, v = .float .f32 r ∧ cn .f32 r = (aop .mul .f32 (cn .f32 q) (aop .sub .f32 (cn .f32 m1) (cn .f32 m)))
  | 16, v, w => ∃ r, v = .float .f32 r ∧ cn .f32 r = (aop .add .f32 (cn .f32 m) (aop .mul .f32 (cn .f32 q) (aop .sub .f32 (cn .f32 m1) (cn .f32 m))))
  | 17, v, w => v = (.pointer (some ⟨g0, j, none⟩))
  | _, _, _ => True
theorem lkR11_mono (p g0 g1 len c0 c1 j jj s s1 m m1 q r7 a b c d : Nat) : ∀ i v w w', lkR11 p g0 g1 len c0 c1 j jj s s1 m m1 q r7 a b c d i v w → Below w.heap.size w w' → lkR11 p g0 g1 len c0 c1 j jj s s1 m m1 q r7 a b c d i v w'
  := by
  intro i v w w' h hb
  unfold lkR11 at *
  split
  · exact h
  · exact h
  · exact h
  · exact h
  · exact h
  · exact h
  · exact h
  · exact h
  · exact h
  · exact h
  · exact h
  · exact h
  · exact h
  · exact h
  · exact h
  · exact h
  · exact h
  · exact h
  · trivial
def lkR12 (p g0 g1 len c0 c1 j jj s s1 m m1 q r7 a b c d : Nat) : Nat → Value → World → Prop
  | 0, v, w => v = (.slice (some ⟨g1, 0, none⟩) len c1)
  | 1, v, w => v = (.int .i64 j)
  | 2, v, w => v = (.pointer (some ⟨g1, j, none⟩))
  | 3, v, w => v = (.float .f32 s)
  | 4, v, w => v = (.float .f32 q)
  | 5, v, w => v = (.float .f32 q)
  | 6, v, w => ∃ r, v = .float .f32 r ∧ cn .f32 r = (aop .mul .f32 (cn .f32 q) (cn .f32 q))
  | 7, v, w => v = (.slice (some ⟨g1, 0, none⟩) len c1)
  | 8, v, w => v = (.int .i64 j)
  | 9, v, w => v = (.int .i64 jj)
  | 10, v, w => v = (.pointer (some ⟨g1, jj, none⟩))
  | 11, v, w => v = (.float .f32 s1)
  | 12, v, w => v = (.float .f32 r7)
  | 13, v, w => ∃ r, v = .float .f32 r ∧ cn .f32 r = (aop .sub .f32 (cn .f32 s1) (cn .f32 r7))
  | 14, v, w => ∃ r, v = .float .f32 r ∧ cn .f32 r = (aop .mul .f32 (aop .mul .f32 (cn .f32 q) (cn .f32 q)) (aop .sub .f32 (cn .f32 s1) (cn .f32 r7)))
  | 15, v, w => ∃ r, v = .float .f32 r ∧ cn .f32 r = (aop .add .f32 (cn .f32 s) (aop .mul .f32 (aop .mul .f32 (cn .f32 q) (cn .f32 q)) (aop .sub .f32 (cn .f32 s1) (cn .f32 r7))))
  | 16, v, w => v = (.pointer (some ⟨g1, j, none⟩))
  | _, _, _ => True
theorem lkR12_mono (p g0 g1 len c0 c1 j jj s s1 m m1 q r7 a b c d : Nat) : ∀ i v w w', lkR12 p g0 g1 len c0 c1 j jj s s1 m m1 q r7 a b c d i v w → Below w.heap.size w w' → lkR12 p g0 g1 len c0 c1 j jj s s1 m m1 q r7 a b c d i v w'
  := by
  intro i v w w' h hb
  unfold lkR12 at *
  split
  · exact h
  · exact h
  · exact h
  · exact h
  · exact h
  · exact h
  · exact h
  · exact h
  · exact h
  · exact h
  · exact h
  · exact h
  · exact h
  · exact h
  · exact h
  · exact h
  · exact h
  · trivial
set_option maxHeartbeats 4000000 in
set_option maxRecDepth 100000 in
theorem imLb_any (a b c d : Nat) (a1 : Option Addr) (len cap : Nat) (zs : List Nat) (a2 : Option Addr) (len2 cap2 : Nat) (ss : List Bool) (w : World) (h : FSl w a1 len zs) (h2 : BSl w a2 len2 ss) (hm : len ≤ 1048576) (hm2 : len2 ≤ 1048576) :
    Calls Try.prog 34 #[.agg #[.float .f32 a, .float .f32 b, .float .f32 c, .float .f32 d], .slice a1 len cap, .slice a2 len2 cap2] w (RetL2 32 (lkX0 a b c d zs ss) (lkX1 a b c d zs ss) (lkOk a b c d zs ss) w) := by
  have HL := Lib.hid h.1
  have hb0 := (Below.refl w.heap.size w).alloc (Nat.le_refl _) (.cells #[.float .f32 a, .float .f32 b, .float .f32 c, .float .f32 d] 41)
  have HB0 := Lib.hid hb0
  have H := Lib.hid (FSl.below h hb0)
  have H2 := Lib.hid (BSl.below h2 hb0)
  have HBx := Lib.hid (NumsIn.new w [a, b, c, d] 41)
  obtain ⟨x0, x1, x2, x3⟩ := HBx.out.c4
  clear h h2 hb0
  cases hA : lrB a b c d zs ss
  · have HA := Lib.hid hA
    have HB := Lib.hid (lk_badL hA)
    clear hA
    go_enter Try.func34, Try.ntmps34
    go_wp2_with fail
    refine (imLr_any _ _ _ _ _ _ _ _ _ _ _ _ _ H.out H2.out hm hm2).mono ?_
    rintro e w1 ⟨v0, r0, v1, r1, s, rfl, -, -, -, -, hb⟩
    rw [HA.out]
    have HBl := Lib.hid (HB0.out.trans (hb.mono (by simp)))
    clear hb
    go_wp2_with fail
    go_ret3
    exact fail_l2 _ HB.out.1 HB.out.2.1 HB.out.2.2 HBl.out
  have HA := Lib.hid hA
  have hln := lr_lens hA
  have HLn := Lib.hid hln
  rw [HL.out] at hln
  have hn1 := hln.2.2.1
  have hn96 := hln.2.2.2
  clear hA hln
  go_enter Try.func34, Try.ntmps34
  go_wp2_with fail
  refine (imLr_any _ _ _ _ _ _ _ _ _ _ _ _ _ H.out H2.out hm hm2).mono ?_
  rintro e w1 ⟨v0, r0, v1, r1, s, rfl, ⟨o0, o1⟩, ⟨h0, h1⟩, -, hap, hb⟩
  rw [HA.out]
  have hr0 : r0.length = len := by have := congrArg List.length h0; rw [cnl_len] at this; rw [this, HLn.out.1, HL.out]
  have hr1 : r1.length = len := by have := congrArg List.length h1; rw [cnl_len] at this; rw [this, HLn.out.2.1, HL.out]
  obtain ⟨g0, c0, rfl, hg0, hl0⟩ := owp_blk o0 hr0 (by omega)
  obtain ⟨g1, c1, rfl, hg1, hl1⟩ := owp_blk o1 hr1 (by omega)
  have hne : g0 ≠ g1 := fun e => hap g0 rfl (by rw [e]; rfl)
  have hp0 : w.heap.size < g0 := by have := hg0; simp at this; omega
  have hp1 : w.heap.size < g1 := by have := hg1; simp at this; omega
  have HR0 := Lib.hid hr0
  have HR1 := Lib.hid hr1
  have HC0 := Lib.hid h0
  have HC1 := Lib.hid h1
  have HO0 := Lib.hid (o0.mono (show w.heap.size ≤ _ by simp))
  have HO1 := Lib.hid (o1.mono (show w.heap.size ≤ _ by simp))
  have HBx1 := Lib.hid (HBx.out.below hb)
  have HBl := Lib.hid (HB0.out.trans (hb.mono (by simp)))
  clear h0 h1 o0 o1 hb hap x0 x1 x2 x3 hl0 hl1 hg0 hg1 hr0 hr1
  have hw2 : IntKind.i64.wrap ((len : Int) - 2) = (len : Int) - 2 := by rw [IntKind.wrap_i64]; omega
  go_wp2_with fail
  go_loopw [13] (fun i wr => ∃ (k : Nat) (ms sp : List Nat), k ≤ len - 1 ∧ i = .int .i64 ((len : Int) - 2 - (k : Int)) ∧ Hid (ms.length = len) ∧ Hid (sp.length = len) ∧ Hid (FOwn 32 w.heap.size wr (.slice (some ⟨g0, 0, none⟩) len c0) ms) ∧ Hid (FOwn 32 w.heap.size wr (.slice (some ⟨g1, 0, none⟩) len c1) sp) ∧ Hid (cnl ms = (lkL d zs.length (lrX0 a b c d zs ss) (lrX1 a b c d zs ss) k).1) ∧ Hid (cnl sp = (lkL d zs.length (lrX0 a b c d zs ss) (lrX1 a b c d zs ss) k).2) ∧ Hid (okn (lkG d zs.length (lrX0 a b c d zs ss) (lrX1 a b c d zs ss)) k = true) ∧ Hid (NumsIn wr w.heap.size [a, b, c, d]) ∧ Hid (Below w.heap.size w wr)) (fun i _ => (intOf i + 1).toNat)
  case atStart => exact ⟨0, r0, r1, Nat.zero_le _, by simp, HR0, HR1, HO0, HO1, HC0, HC1, Lib.hid rfl, HBx1, HBl⟩
  case round =>
    rename World => wr
    obtain ⟨k, ms, sp, hk, rfl, hlm, hls, hom, hos, hcm, hcs, hok, hbx, hbl⟩ := hrel
    by_cases hlt : k < len - 1
    · obtain ⟨j, hj⟩ : ∃ j : Nat, len - 2 - k = j := ⟨_, rfl⟩
      have hji : (len : Int) - 2 - (k : Int) = (j : Int) := by omega
      have hjk : j + k + 1 < zs.length := by rw [HL.out]; omega
      have hjz : zs.length - 2 - k = j := by rw [HL.out]; exact hj
      have HS := Lib.hid (lk_succ (d := d) (M := lrX0 a b c d zs ss) (S := lrX1 a b c d zs ss) hjz)
      have HN := Lib.hid (lk_num HA.out hjk)
      have HGk := Lib.hid (show lkG d zs.length (lrX0 a b c d zs ss) (lrX1 a b c d zs ss) k = posB (lkW d (lkL d zs.length (lrX0 a b c d zs ss) (lrX1 a b c d zs ss) k).2 j) by unfold lkG; rw [hjz])
      have HJz := Lib.hid hjz
      have HKz := Lib.hid (show k < zs.length - 1 by rw [HL.out]; exact hlt)
      have HJk := Lib.hid (show k + 1 ≤ len - 1 by omega)
      have HJi := Lib.hid (show (j : Int) - 1 = (len : Int) - 2 - ((k + 1 : Nat) : Int) by omega)
      have hd0 : decide ((0 : Int) ≤ (j : Int)) = true := decide_eq_true (by omega)
      have hwd : IntKind.i64.wrap ((j : Int) - 1) = (j : Int) - 1 := by rw [IntKind.wrap_i64]; omega
      have hjn : (j : Int) < (len : Int) := by omega
      rw [hji]
      obtain ⟨hc0, -⟩ := owp_cell hom.out hlm.out (show j < len by omega)
      obtain ⟨hd0c, -⟩ := owp_cell hom.out hlm.out (show j + 1 < len by omega)
      obtain ⟨hc1, -⟩ := owp_cell hos.out hls.out (show j < len by omega)
      obtain ⟨hd1c, -⟩ := owp_cell hos.out hls.out (show j + 1 < len by omega)
      have HWm := Lib.hid (cnl_get hcm.out (show j < ms.length by rw [hlm.out]; omega))
      have HWm1 := Lib.hid (cnl_get hcm.out (show j + 1 < ms.length by rw [hlm.out]; omega))
      have HWs := Lib.hid (cnl_get hcs.out (show j < sp.length by rw [hls.out]; omega))
      have HWs1 := Lib.hid (cnl_get hcs.out (show j + 1 < sp.length by rw [hls.out]; omega))
      obtain ⟨hcp⟩ : Nonempty (wr.cell? ⟨w.heap.size, 3, none⟩ = some (.float .f32 d)) := ⟨hbx.out.c4.2.2.2⟩
      have hl0 := (owp_lt hom.out).2
      have hl1 := (owp_lt hos.out).2
      have hlp := hbx.out.lt
      obtain ⟨jj, hjj⟩ : ∃ jj, j + 1 = jj := ⟨_, rfl⟩
      have HJJ := Lib.hid hjj
      have hjn1 : (jj : Int) < (len : Int) := by omega
      rw [hjj] at hd0c hd1c HWm1 HWs1
      generalize ms.getD j 0 = m at *
      generalize ms.getD jj 0 = m1 at *
      generalize sp.getD j 0 = s at *
      generalize sp.getD jj 0 = s1 at *
      clear hji hjk hjz hj hk hlt hjj
      have hd0 := hd0
      go_upto_region 7 with fail
      have hd0 := hd0c
      have hd1 := hd1c
      refine wp_region_MV (lkR7 w.heap.size g0 g1 len c0 c1 j jj s s1 m m1 0 0 a b c d) (by kernel_rfl) (lkR7_mono w.heap.size g0 g1 len c0 c1 j jj s s1 m m1 0 0 a b c d) (by kernel_rfl) ?_ ?_
      · refine ⟨?_, ?_, ?_, ?_, ?_, ?_, ?_, ?_, trivial⟩
        · refine opM_do rfl (fun a_ w' hS hf K hK => ?_)
          have s10 : a_.tmps.getD 10 undef = (.slice (some ⟨g1, 0, none⟩) len c1) := (hS.rest 10 (by kernel_rfl)).trans rfl
          go_simp
          exact hK _ _ (Below.refl _ _) rfl
        · refine opM_do rfl (fun a_ w' hS hf K hK => ?_)
          have s13 : a_.tmps.getD 13 undef = (.int .i64 j) := (hS.rest 13 (by kernel_rfl)).trans rfl
          go_simp
          exact hK _ _ (Below.refl _ _) rfl
        · refine opM_do rfl (fun a_ w' hS hf K hK => ?_)
          have s34 : a_.tmps.getD 34 undef = (.slice (some ⟨g1, 0, none⟩) len c1) := hf 0 (by kernel_rfl) _ 34 rfl rfl
          have s35 : a_.tmps.getD 35 undef = (.int .i64 j) := hf 1 (by kernel_rfl) _ 35 rfl rfl
          have hi0 : (0 : Int) ≤ (j : Int) := by omega
          have hi1 : (j : Int) < (len : Int) := hjn
          go_simp
          exact hK _ _ (Below.refl _ _) rfl
        · refine opM_do rfl (fun a_ w' hS hf K hK => ?_)
          have s36 : a_.tmps.getD 36 undef = (.pointer (some ⟨g1, j, none⟩)) := hf 2 (by kernel_rfl) _ 36 rfl rfl
          have kk := (hS.below.cell (p := ⟨g1, j, none⟩) (by exact hl1)).trans hc1
          go_simp
          exact hK _ _ (Below.refl _ _) rfl
        · refine opM_do rfl (fun a_ w' hS hf K hK => ?_)
          have s3 : a_.tmps.getD 3 undef = (.pointer (some ⟨w.heap.size, 0, none⟩)) := (hS.rest 3 (by kernel_rfl)).trans rfl
          go_simp
          exact hK _ _ (Below.refl _ _) rfl
        · refine opM_do rfl (fun a_ w' hS hf K hK => ?_)
          have s38 : a_.tmps.getD 38 undef = (.pointer (some ⟨w.heap.size, 3, none⟩)) := hf 4 (by kernel_rfl) _ 38 rfl rfl
          have kk := (hS.below.cell (p := ⟨w.heap.size, 3, none⟩) (by exact hlp)).trans hcp
          go_simp
          exact hK _ _ (Below.refl _ _) rfl
        · refine opM_do rfl (fun a_ w' hS hf K hK => ?_)
          have s37 : a_.tmps.getD 37 undef = (.float .f32 s) := hf 3 (by kernel_rfl) _ 37 rfl rfl
          have s39 : a_.tmps.getD 39 undef = (.float .f32 d) := hf 5 (by kernel_rfl) _ 39 rfl rfl
          go_simp
          exact hK _ _ (by first | exact Below.refl _ _ | exact below_drewN (Below.refl _ _) _) ⟨_, rfl, by first | (rw [cn_fopR]; done) | rw [cn_fopR, cn_one32] | rw [cn_fopR, List.getD_eq_getElem?_getD]⟩
        · refine opM_do rfl (fun a_ w' hS hf K hK => ?_)
          obtain ⟨r40, s40, e40⟩ := (show ∃ r, a_.tmps.getD 40 undef = .float .f32 r ∧ cn .f32 r = (aop .add .f32 (cn .f32 s) (cn .f32 d)) from hf 6 (by kernel_rfl) _ 40 rfl rfl)
          go_simp
          exact hK _ _ (Below.refl _ _) ⟨_, rfl, e40⟩
      intro vs a_ wV hbV hv haV
      obtain ⟨r7, e7, h7⟩ := (show ∃ r, vs 7 = .float .f32 r ∧ cn .f32 r = (aop .add .f32 (cn .f32 s) (cn .f32 d)) from hv 7 (by decide) (by kernel_rfl))
      subst haV
      simp only [putsL, List.setIfInBounds_toArray, List.set_cons_succ, List.set_cons_zero, Nat.reduceAdd, Nat.zero_add]
      rw [e7]
      clear hv e7
      have HW := Lib.hid (show cn .f32 r7 = lkW d (lkL d zs.length (lrX0 a b c d zs ss) (lrX1 a b c d zs ss) k).2 j by rw [h7, HWs.out]; rfl)
      have hbw := (below_drewN (Below.refl wr.heap.size wr) 1).trans hbV
      clear hbV h7
      cases hpos : posB (lkW d (lkL d zs.length (lrX0 a b c d zs ss) (lrX1 a b c d zs ss) k).2 j)
      · have hlq := lk_leq HW.out HN.out
        rw [hpos] at hlq
        have HB := Lib.hid (lk_badG HA.out HKz.out (HGk.out.trans hpos))
        have HBw := Lib.hid (hbl.out.trans (hbw.mono hbl.out.size))
        clear hpos hc0 hd0 hc1 hd1 hcp hbw hd0c hd1c
        go_wp2_with fail
        go_ret3
        exact fail_l2 _ HB.out.1 HB.out.2.1 HB.out.2.2 (by first | exact HBw.out | exact below_drewN HBw.out _)
      · have hlq := lk_leq HW.out HN.out
        rw [hpos] at hlq
        have HGt := Lib.hid (HGk.out.trans hpos)
        have HOm := Lib.hid (owp_keep hom.out hbw)
        have HOs := Lib.hid (owp_keep hos.out hbw)
        have HBy := Lib.hid (hbx.out.below hbw)
        have HBw := Lib.hid (hbl.out.trans (hbw.mono hbl.out.size))
        have k0 : wV.cell? ⟨g0, j, none⟩ = some (.float .f32 m) := (hbw.cell (p := ⟨g0, j, none⟩) (by exact hl0)).trans hc0
        have k1 : wV.cell? ⟨g1, j, none⟩ = some (.float .f32 s) := (hbw.cell (p := ⟨g1, j, none⟩) (by exact hl1)).trans hc1
        have k2 : wV.cell? ⟨g0, jj, none⟩ = some (.float .f32 m1) := (hbw.cell (p := ⟨g0, jj, none⟩) (by exact hl0)).trans hd0
        have k3 : wV.cell? ⟨g1, jj, none⟩ = some (.float .f32 s1) := (hbw.cell (p := ⟨g1, jj, none⟩) (by exact hl1)).trans hd1
        have k4 : wV.cell? ⟨w.heap.size, 3, none⟩ = some (.float .f32 d) := (hbw.cell (p := ⟨w.heap.size, 3, none⟩) (by exact hlp)).trans hcp
        clear hpos hc0 hd0 hc1 hd1 hcp hbw hd0c hd1c hom hos hbx hbl hl0 hl1 hlp
        have hi0 : (0 : Int) ≤ (j : Int) := by omega
        go_upto_region 11 with fail
        have HQ := Lib.hid (show cn .f32 (fopR .quo .f32 s r7 wV) = lkH d (lkL d zs.length (lrX0 a b c d zs ss) (lrX1 a b c d zs ss) k).2 j by rw [cn_fopR, HW.out, HWs.out]; rfl)
        generalize fopR .quo .f32 s r7 wV = q at *
        replace HOm := Lib.hid (FOwn.drewN HOm.out (fopN .quo .f32 s r7))
        replace HOs := Lib.hid (FOwn.drewN HOs.out (fopN .quo .f32 s r7))
        replace HBy := Lib.hid (HBy.out.drewN (fopN .quo .f32 s r7))
        replace HBw := Lib.hid (below_drewN HBw.out (fopN .quo .f32 s r7))
        have hc0 : (wV.drewN (fopN .quo .f32 s r7)).cell? ⟨g0, j, none⟩ = some (.float .f32 m) := k0
        have hc1 : (wV.drewN (fopN .quo .f32 s r7)).cell? ⟨g1, j, none⟩ = some (.float .f32 s) := k1
        have hd0 : (wV.drewN (fopN .quo .f32 s r7)).cell? ⟨g0, jj, none⟩ = some (.float .f32 m1) := k2
        have hd1 : (wV.drewN (fopN .quo .f32 s r7)).cell? ⟨g1, jj, none⟩ = some (.float .f32 s1) := k3
        have hcp : (wV.drewN (fopN .quo .f32 s r7)).cell? ⟨w.heap.size, 3, none⟩ = some (.float .f32 d) := k4
        clear k0 k1 k2 k3 k4
        generalize wV.drewN (fopN .quo .f32 s r7) = wA at *
        have hl0 := (owp_lt HOm.out).2
        have hl1 := (owp_lt HOs.out).2
        have hlp := HBy.out.lt
        refine wp_region_ML (m := 18) (lkR11 w.heap.size g0 g1 len c0 c1 j jj s s1 m m1 q r7 a b c d) (by kernel_rfl) (lkR11_mono w.heap.size g0 g1 len c0 c1 j jj s s1 m m1 q r7 a b c d) (by kernel_rfl) (by kernel_rfl) (by rfl) (by rfl) (by rfl) ?_ ?_
        · refine ⟨?_, ?_, ?_, ?_, ?_, ?_, ?_, ?_, ?_, ?_, ?_, ?_, ?_, ?_, ?_, ?_, ?_, ?_, trivial⟩
          · refine opM_do rfl (fun a_ w' hS hf K hK => ?_)
            have s9 : a_.tmps.getD 9 undef = (.slice (some ⟨g0, 0, none⟩) len c0) := (hS.rest 9 (by kernel_rfl)).trans rfl
            go_simp
            exact hK _ _ (Below.refl _ _) rfl
          · refine opM_do rfl (fun a_ w' hS hf K hK => ?_)
            have s13 : a_.tmps.getD 13 undef = (.int .i64 j) := (hS.rest 13 (by kernel_rfl)).trans rfl
            go_simp
            exact hK _ _ (Below.refl _ _) rfl
          · refine opM_do rfl (fun a_ w' hS hf K hK => ?_)
            have s49 : a_.tmps.getD 49 undef = (.slice (some ⟨g0, 0, none⟩) len c0) := hf 0 (by kernel_rfl) _ 49 rfl rfl
            have s50 : a_.tmps.getD 50 undef = (.int .i64 j) := hf 1 (by kernel_rfl) _ 50 rfl rfl
            have hi0 : (0 : Int) ≤ (j : Int) := by omega
            have hi1 : (j : Int) < (len : Int) := hjn
            go_simp
            exact hK _ _ (Below.refl _ _) rfl
          · refine opM_do rfl (fun a_ w' hS hf K hK => ?_)
            have s51 : a_.tmps.getD 51 undef = (.pointer (some ⟨g0, j, none⟩)) := hf 2 (by kernel_rfl) _ 51 rfl rfl
            have kk := (hS.below.cell (p := ⟨g0, j, none⟩) (by exact hl0)).trans hc0
            go_simp
            exact hK _ _ (Below.refl _ _) rfl
          · refine opM_do rfl (fun a_ w' hS hf K hK => ?_)
            have s15 : a_.tmps.getD 15 undef = (.float .f32 q) := (hS.rest 15 (by kernel_rfl)).trans rfl
            go_simp
            exact hK _ _ (Below.refl _ _) rfl
          · refine opM_do rfl (fun a_ w' hS hf K hK => ?_)
            have s9 : a_.tmps.getD 9 undef = (.slice (some ⟨g0, 0, none⟩) len c0) := (hS.rest 9 (by kernel_rfl)).trans rfl
            go_simp
            exact hK _ _ (Below.refl _ _) rfl
          · refine opM_do rfl (fun a_ w' hS hf K hK => ?_)
            have s13 : a_.tmps.getD 13 undef = (.int .i64 j) := (hS.rest 13 (by kernel_rfl)).trans rfl
            go_simp
            exact hK _ _ (Below.refl _ _) rfl
          · refine opM_do rfl (fun a_ w' hS hf K hK => ?_)
            have s55 : a_.tmps.getD 55 undef = (.int .i64 j) := hf 6 (by kernel_rfl) _ 55 rfl rfl
            have hw : IntKind.i64.wrap ((j : Int) + 1) = (jj : Int) := by have := HJJ.out; rw [IntKind.wrap_i64]; omega
            go_simp
            exact hK _ _ (Below.refl _ _) rfl
          · refine opM_do rfl (fun a_ w' hS hf K hK => ?_)
            have s54 : a_.tmps.getD 54 undef = (.slice (some ⟨g0, 0, none⟩) len c0) := hf 5 (by kernel_rfl) _ 54 rfl rfl
            have s56 : a_.tmps.getD 56 undef = (.int .i64 jj) := hf 7 (by kernel_rfl) _ 56 rfl rfl
            have hi0 : (0 : Int) ≤ (jj : Int) := by omega
            have hi1 : (jj : Int) < (len : Int) := hjn1
            go_simp
            exact hK _ _ (Below.refl _ _) rfl
          · refine opM_do rfl (fun a_ w' hS hf K hK => ?_)
            have s57 : a_.tmps.getD 57 undef = (.pointer (some ⟨g0, jj, none⟩)) := hf 8 (by kernel_rfl) _ 57 rfl rfl
            have kk := (hS.below.cell (p := ⟨g0, jj, none⟩) (by exact hl0)).trans hd0
            go_simp
            exact hK _ _ (Below.refl _ _) rfl
          · refine opM_do rfl (fun a_ w' hS hf K hK => ?_)
            have s9 : a_.tmps.getD 9 undef = (.slice (some ⟨g0, 0, none⟩) len c0) := (hS.rest 9 (by kernel_rfl)).trans rfl
            go_simp
            exact hK _ _ (Below.refl _ _) rfl
          · refine opM_do rfl (fun a_ w' hS hf K hK => ?_)
            have s13 : a_.tmps.getD 13 undef = (.int .i64 j) := (hS.rest 13 (by kernel_rfl)).trans rfl
            go_simp
            exact hK _ _ (Below.refl _ _) rfl
          · refine opM_do rfl (fun a_ w' hS hf K hK => ?_)
            have s59 : a_.tmps.getD 59 undef = (.slice (some ⟨g0, 0, none⟩) len c0) := hf 10 (by kernel_rfl) _ 59 rfl rfl
            have s60 : a_.tmps.getD 60 undef = (.int .i64 j) := hf 11 (by kernel_rfl) _ 60 rfl rfl
            have hi0 : (0 : Int) ≤ (j : Int) := by omega
            have hi1 : (j : Int) < (len : Int) := hjn
            go_simp
            exact hK _ _ (Below.refl _ _) rfl
          · refine opM_do rfl (fun a_ w' hS hf K hK => ?_)
            have s61 : a_.tmps.getD 61 undef = (.pointer (some ⟨g0, j, none⟩)) := hf 12 (by kernel_rfl) _ 61 rfl rfl
            have kk := (hS.below.cell (p := ⟨g0, j, none⟩) (by exact hl0)).trans hc0
            go_simp
            exact hK _ _ (Below.refl _ _) rfl
          · refine opM_do rfl (fun a_ w' hS hf K hK => ?_)
            have s58 : a_.tmps.getD 58 undef = (.float .f32 m1) := hf 9 (by kernel_rfl) _ 58 rfl rfl
            have s62 : a_.tmps.getD 62 undef = (.float .f32 m) := hf 13 (by kernel_rfl) _ 62 rfl rfl
            go_simp
            exact hK _ _ (by first | exact Below.refl _ _ | exact below_drewN (Below.refl _ _) _) ⟨_, rfl, by first | (rw [cn_fopR]; done) | rw [cn_fopR, cn_one32] | rw [cn_fopR, List.getD_eq_getElem?_getD]⟩
          · refine opM_do rfl (fun a_ w' hS hf K hK => ?_)
            have s53 : a_.tmps.getD 53 undef = (.float .f32 q) := hf 4 (by kernel_rfl) _ 53 rfl rfl
            obtain ⟨r63, s63, e63⟩ := (show ∃ r, a_.tmps.getD 63 undef = .float .f32 r ∧ cn .f32 r = (aop .sub .f32 (cn .f32 m1) (cn .f32 m)) from hf 14 (by kernel_rfl) _ 63 rfl rfl)
            go_simp
            exact hK _ _ (by first | exact Below.refl _ _ | exact below_drewN (Below.refl _ _) _) ⟨_, rfl, by first | (rw [cn_fopR, e63]; done) | rw [cn_fopR, e63, cn_one32] | rw [cn_fopR, e63, List.getD_eq_getElem?_getD]⟩
          · refine opM_do rfl (fun a_ w' hS hf K hK => ?_)
            have s52 : a_.tmps.getD 52 undef = (.float .f32 m) := hf 3 (by kernel_rfl) _ 52 rfl rfl
            obtain ⟨r64, s64, e64⟩ := (show ∃ r, a_.tmps.getD 64 undef = .float .f32 r ∧ cn .f32 r = (aop .mul .f32 (cn .f32 q) (aop .sub .f32 (cn .f32 m1) (cn .f32 m))) from hf 15 (by kernel_rfl) _ 64 rfl rfl)
            go_simp
            exact hK _ _ (by first | exact Below.refl _ _ | exact below_drewN (Below.refl _ _) _) ⟨_, rfl, by first | (rw [cn_fopR, e64]; done) | rw [cn_fopR, e64, cn_one32] | rw [cn_fopR, e64, List.getD_eq_getElem?_getD]⟩
          · refine opM_do rfl (fun a_ w' hS hf K hK => ?_)
            have s49 : a_.tmps.getD 49 undef = (.slice (some ⟨g0, 0, none⟩) len c0) := hf 0 (by kernel_rfl) _ 49 rfl rfl
            have s50 : a_.tmps.getD 50 undef = (.int .i64 j) := hf 1 (by kernel_rfl) _ 50 rfl rfl
            have hi0 : (0 : Int) ≤ (j : Int) := by omega
            have hi1 : (j : Int) < (len : Int) := hjn
            go_simp
            exact hK _ _ (Below.refl _ _) rfl
        intro vs a_ wV hbV hv haV
        obtain ⟨r16, e16, h16⟩ := (show ∃ r, vs 16 = .float .f32 r ∧ cn .f32 r = (aop .add .f32 (cn .f32 m) (aop .mul .f32 (cn .f32 q) (aop .sub .f32 (cn .f32 m1) (cn .f32 m)))) from hv 16 (by omega) (by kernel_rfl))
        have e17 : vs 17 = (.pointer (some ⟨g0, j, none⟩)) := hv 17 (by omega) (by kernel_rfl)
        subst haV
        simp only [putsL, List.take_succ_cons, List.take_zero, List.setIfInBounds_toArray, List.set_cons_succ, List.set_cons_zero, Nat.reduceAdd, Nat.zero_add]
        rw [e16, e17]
        clear hv e16 e17
        have HM := Lib.hid (show cn .f32 r16 = lkNM d (lkL d zs.length (lrX0 a b c d zs ss) (lrX1 a b c d zs ss) k).1 (lkL d zs.length (lrX0 a b c d zs ss) (lrX1 a b c d zs ss) k).2 j by rw [h16, HQ.out, HWm.out, HWm1.out, ← HJJ.out]; rfl)
        have hbw := (below_drewN (Below.refl wA.heap.size wA) 1).trans hbV
        clear hbV h16
        have HOm2 := Lib.hid (owp_put (owp_keep HOm.out hbw) hlm.out j r16)
        have HOs2 := Lib.hid (owp_farS (owp_keep HOs.out hbw) (Ne.symm hne) j (.float .f32 r16))
        have HBy2 := Lib.hid ((HBy.out.below hbw).set (q := g0) (o := j) (v := .float .f32 r16) (Nat.ne_of_lt hp0))
        have HBw2 := Lib.hid ((HBw.out.trans (hbw.mono HBw.out.size)).setCell (p := ⟨g0, j, none⟩) (show w.heap.size ≤ g0 by omega) (.float .f32 r16))
        have e0 : wV.cell? ⟨g0, j, none⟩ = some (.float .f32 m) := (hbw.cell (p := ⟨g0, j, none⟩) (by exact hl0)).trans hc0
        have e0f : wV.frozen? ⟨g0, j, none⟩ = false := (owp_cell (owp_keep HOm.out hbw) hlm.out (show j < len by omega)).2
        have e1 : (wV.setCell ⟨g0, j, none⟩ (.float .f32 r16)).cell? ⟨g1, j, none⟩ = some (.float .f32 s) := by
          rw [World.cell?_setCell_other _ _ _ _ (by intro e; injection e with e1 _ _; omega)]; exact (hbw.cell (p := ⟨g1, j, none⟩) (by exact hl1)).trans hc1
        have e2 : (wV.setCell ⟨g0, j, none⟩ (.float .f32 r16)).cell? ⟨g1, jj, none⟩ = some (.float .f32 s1) := by
          rw [World.cell?_setCell_other _ _ _ _ (by intro e; injection e with e1 _ _; omega)]; exact (hbw.cell (p := ⟨g1, jj, none⟩) (by exact hl1)).trans hd1
        clear hbw hc0 hc1 hd0 hd1 hcp hl0 hl1 hlp HOm HOs HBy HBw
        go_simp
        go_upto_region 12 with fail
        generalize wV.setCell ⟨g0, j, none⟩ (.float .f32 r16) = wB at *
        have hc1 := e1
        have hd1 := e2
        have hl1 := (owp_lt HOs2.out).2
        refine wp_region_ML (m := 17) (lkR12 w.heap.size g0 g1 len c0 c1 j jj s s1 m m1 q r7 a b c d) (by kernel_rfl) (lkR12_mono w.heap.size g0 g1 len c0 c1 j jj s s1 m m1 q r7 a b c d) (by kernel_rfl) (by kernel_rfl) (by rfl) (by rfl) (by rfl) ?_ ?_
        · refine ⟨?_, ?_, ?_, ?_, ?_, ?_, ?_, ?_, ?_, ?_, ?_, ?_, ?_, ?_, ?_, ?_, ?_, trivial⟩
          · refine opM_do rfl (fun a_ w' hS hf K hK => ?_)
            have s10 : a_.tmps.getD 10 undef = (.slice (some ⟨g1, 0, none⟩) len c1) := (hS.rest 10 (by kernel_rfl)).trans rfl
            go_simp
            exact hK _ _ (Below.refl _ _) rfl
          · refine opM_do rfl (fun a_ w' hS hf K hK => ?_)
            have s13 : a_.tmps.getD 13 undef = (.int .i64 j) := (hS.rest 13 (by kernel_rfl)).trans rfl
            go_simp
            exact hK _ _ (Below.refl _ _) rfl
          · refine opM_do rfl (fun a_ w' hS hf K hK => ?_)
            have s67 : a_.tmps.getD 67 undef = (.slice (some ⟨g1, 0, none⟩) len c1) := hf 0 (by kernel_rfl) _ 67 rfl rfl
            have s68 : a_.tmps.getD 68 undef = (.int .i64 j) := hf 1 (by kernel_rfl) _ 68 rfl rfl
            have hi0 : (0 : Int) ≤ (j : Int) := by omega
            have hi1 : (j : Int) < (len : Int) := hjn
            go_simp
            exact hK _ _ (Below.refl _ _) rfl
          · refine opM_do rfl (fun a_ w' hS hf K hK => ?_)
            have s69 : a_.tmps.getD 69 undef = (.pointer (some ⟨g1, j, none⟩)) := hf 2 (by kernel_rfl) _ 69 rfl rfl
            have kk := (hS.below.cell (p := ⟨g1, j, none⟩) (by exact hl1)).trans hc1
            go_simp
            exact hK _ _ (Below.refl _ _) rfl
          · refine opM_do rfl (fun a_ w' hS hf K hK => ?_)
            have s15 : a_.tmps.getD 15 undef = (.float .f32 q) := (hS.rest 15 (by kernel_rfl)).trans rfl
            go_simp
            exact hK _ _ (Below.refl _ _) rfl
          · refine opM_do rfl (fun a_ w' hS hf K hK => ?_)
            have s15 : a_.tmps.getD 15 undef = (.float .f32 q) := (hS.rest 15 (by kernel_rfl)).trans rfl
            go_simp
            exact hK _ _ (Below.refl _ _) rfl
          · refine opM_do rfl (fun a_ w' hS hf K hK => ?_)
            have s71 : a_.tmps.getD 71 undef = (.float .f32 q) := hf 4 (by kernel_rfl) _ 71 rfl rfl
            have s72 : a_.tmps.getD 72 undef = (.float .f32 q) := hf 5 (by kernel_rfl) _ 72 rfl rfl
            go_simp
            exact hK _ _ (by first | exact Below.refl _ _ | exact below_drewN (Below.refl _ _) _) ⟨_, rfl, by first | (rw [cn_fopR]; done) | rw [cn_fopR, cn_one32] | rw [cn_fopR, List.getD_eq_getElem?_getD]⟩
          · refine opM_do rfl (fun a_ w' hS hf K hK => ?_)
            have s10 : a_.tmps.getD 10 undef = (.slice (some ⟨g1, 0, none⟩) len c1) := (hS.rest 10 (by kernel_rfl)).trans rfl
            go_simp
            exact hK _ _ (Below.refl _ _) rfl
          · refine opM_do rfl (fun a_ w' hS hf K hK => ?_)
            have s13 : a_.tmps.getD 13 undef = (.int .i64 j) := (hS.rest 13 (by kernel_rfl)).trans rfl
            go_simp
            exact hK _ _ (Below.refl _ _) rfl
          · refine opM_do rfl (fun a_ w' hS hf K hK => ?_)
            have s75 : a_.tmps.getD 75 undef = (.int .i64 j) := hf 8 (by kernel_rfl) _ 75 rfl rfl
            have hw : IntKind.i64.wrap ((j : Int) + 1) = (jj : Int) := by have := HJJ.out; rw [IntKind.wrap_i64]; omega
            go_simp
            exact hK _ _ (Below.refl _ _) rfl
          · refine opM_do rfl (fun a_ w' hS hf K hK => ?_)
            have s74 : a_.tmps.getD 74 undef = (.slice (some ⟨g1, 0, none⟩) len c1) := hf 7 (by kernel_rfl) _ 74 rfl rfl
            have s76 : a_.tmps.getD 76 undef = (.int .i64 jj) := hf 9 (by kernel_rfl) _ 76 rfl rfl
            have hi0 : (0 : Int) ≤ (jj : Int) := by omega
            have hi1 : (jj : Int) < (len : Int) := hjn1
            go_simp
            exact hK _ _ (Below.refl _ _) rfl
          · refine opM_do rfl (fun a_ w' hS hf K hK => ?_)
            have s77 : a_.tmps.getD 77 undef = (.pointer (some ⟨g1, jj, none⟩)) := hf 10 (by kernel_rfl) _ 77 rfl rfl
            have kk := (hS.below.cell (p := ⟨g1, jj, none⟩) (by exact hl1)).trans hd1
            go_simp
            exact hK _ _ (Below.refl _ _) rfl
          · refine opM_do rfl (fun a_ w' hS hf K hK => ?_)
            have s14 : a_.tmps.getD 14 undef = (.float .f32 r7) := (hS.rest 14 (by kernel_rfl)).trans rfl
            go_simp
            exact hK _ _ (Below.refl _ _) rfl
          · refine opM_do rfl (fun a_ w' hS hf K hK => ?_)
            have s78 : a_.tmps.getD 78 undef = (.float .f32 s1) := hf 11 (by kernel_rfl) _ 78 rfl rfl
            have s79 : a_.tmps.getD 79 undef = (.float .f32 r7) := hf 12 (by kernel_rfl) _ 79 rfl rfl
            go_simp
            exact hK _ _ (by first | exact Below.refl _ _ | exact below_drewN (Below.refl _ _) _) ⟨_, rfl, by first | (rw [cn_fopR]; done) | rw [cn_fopR, cn_one32] | rw [cn_fopR, List.getD_eq_getElem?_getD]⟩
          · refine opM_do rfl (fun a_ w' hS hf K hK => ?_)
            obtain ⟨r73, s73, e73⟩ := (show ∃ r, a_.tmps.getD 73 undef = .float .f32 r ∧ cn .f32 r = (aop .mul .f32 (cn .f32 q) (cn .f32 q)) from hf 6 (by kernel_rfl) _ 73 rfl rfl)
            obtain ⟨r80, s80, e80⟩ := (show ∃ r, a_.tmps.getD 80 undef = .float .f32 r ∧ cn .f32 r = (aop .sub .f32 (cn .f32 s1) (cn .f32 r7)) from hf 13 (by kernel_rfl) _ 80 rfl rfl)
            go_simp
            exact hK _ _ (by first | exact Below.refl _ _ | exact below_drewN (Below.refl _ _) _) ⟨_, rfl, by first | (rw [cn_fopR, e73, e80]; done) | rw [cn_fopR, e73, e80, cn_one32] | rw [cn_fopR, e73, e80, List.getD_eq_getElem?_getD]⟩
          · refine opM_do rfl (fun a_ w' hS hf K hK => ?_)
            have s70 : a_.tmps.getD 70 undef = (.float .f32 s) := hf 3 (by kernel_rfl) _ 70 rfl rfl
            obtain ⟨r81, s81, e81⟩ := (show ∃ r, a_.tmps.getD 81 undef = .float .f32 r ∧ cn .f32 r = (aop .mul .f32 (aop .mul .f32 (cn .f32 q) (cn .f32 q)) (aop .sub .f32 (cn .f32 s1) (cn .f32 r7))) from hf 14 (by kernel_rfl) _ 81 rfl rfl)
            go_simp
            exact hK _ _ (by first | exact Below.refl _ _ | exact below_drewN (Below.refl _ _) _) ⟨_, rfl, by first | (rw [cn_fopR, e81]; done) | rw [cn_fopR, e81, cn_one32] | rw [cn_fopR, e81, List.getD_eq_getElem?_getD]⟩
          · refine opM_do rfl (fun a_ w' hS hf K hK => ?_)
            have s67 : a_.tmps.getD 67 undef = (.slice (some ⟨g1, 0, none⟩) len c1) := hf 0 (by kernel_rfl) _ 67 rfl rfl
            have s68 : a_.tmps.getD 68 undef = (.int .i64 j) := hf 1 (by kernel_rfl) _ 68 rfl rfl
            have hi0 : (0 : Int) ≤ (j : Int) := by omega
            have hi1 : (j : Int) < (len : Int) := hjn
            go_simp
            exact hK _ _ (Below.refl _ _) rfl
        intro vs a_ wV hbV hv haV
        obtain ⟨r15, e15, h15⟩ := (show ∃ r, vs 15 = .float .f32 r ∧ cn .f32 r = (aop .add .f32 (cn .f32 s) (aop .mul .f32 (aop .mul .f32 (cn .f32 q) (cn .f32 q)) (aop .sub .f32 (cn .f32 s1) (cn .f32 r7)))) from hv 15 (by omega) (by kernel_rfl))
        have e16 : vs 16 = (.pointer (some ⟨g1, j, none⟩)) := hv 16 (by omega) (by kernel_rfl)
        subst haV
        simp only [putsL, List.take_succ_cons, List.take_zero, List.setIfInBounds_toArray, List.set_cons_succ, List.set_cons_zero, Nat.reduceAdd, Nat.zero_add]
        rw [e15, e16]
        clear hv e15 e16
        have HSp := Lib.hid (show cn .f32 r15 = lkNS d (lkL d zs.length (lrX0 a b c d zs ss) (lrX1 a b c d zs ss) k).2 j by rw [h15, HQ.out, HWs.out, HWs1.out, HW.out, ← HJJ.out]; rfl)
        have hbw := (below_drewN (Below.refl wB.heap.size wB) 1).trans hbV
        clear hbV h15
        have HOm3 := Lib.hid (owp_farS (owp_keep HOm2.out hbw) hne j (.float .f32 r15))
        have HOs3 := Lib.hid (owp_put (owp_keep HOs2.out hbw) hls.out j r15)
        have HBy3 := Lib.hid ((HBy2.out.below hbw).set (q := g1) (o := j) (v := .float .f32 r15) (Nat.ne_of_lt hp1))
        have HBw3 := Lib.hid ((HBw2.out.trans (hbw.mono HBw2.out.size)).setCell (p := ⟨g1, j, none⟩) (show w.heap.size ≤ g1 by omega) (.float .f32 r15))
        have e3 : wV.cell? ⟨g1, j, none⟩ = some (.float .f32 s) := (hbw.cell (p := ⟨g1, j, none⟩) (by exact hl1)).trans hc1
        have e3f : wV.frozen? ⟨g1, j, none⟩ = false := (owp_cell (owp_keep HOs2.out hbw) hls.out (show j < len by omega)).2
        have HC2 := Lib.hid (show cnl (ms.set j r16) = (lkL d zs.length (lrX0 a b c d zs ss) (lrX1 a b c d zs ss) (k + 1)).1 by rw [HS.out, cnl_set ms j HM.out, hcm.out])
        have HC3 := Lib.hid (show cnl (sp.set j r15) = (lkL d zs.length (lrX0 a b c d zs ss) (lrX1 a b c d zs ss) (k + 1)).2 by rw [HS.out, cnl_set sp j HSp.out, hcs.out])
        have HOk := Lib.hid (show okn (lkG d zs.length (lrX0 a b c d zs ss) (lrX1 a b c d zs ss)) (k + 1) = true by rw [okn_succ, hok.out, HGt.out]; rfl)
        clear hbw hc1 hd1 hl1 HOm2 HOs2 HBy2 HBw2 e1 e2
        go_simp
        go_wp2_with fail
        go_roundw
        case rel => exact ⟨k + 1, ms.set j r16, sp.set j r15, HJk.out, by rw [← HJi.out], Lib.hid (set_len hlm.out), Lib.hid (set_len hls.out), HOm3, HOs3, HC2, HC3, HOk, HBy3, HBw3⟩
        case measure => simp [intOf] <;> omega
    · have hkn : k = len - 1 := by omega
      have hji : (len : Int) - 2 - (k : Int) = -1 := by omega
      have hd0 : decide ((0 : Int) ≤ -1) = false := by decide
      rw [hji]
      have HF0 := Lib.hid (show cnl ms = (lkF a b c d zs ss).1 by unfold lkF; rw [hcm.out, hkn, HL.out])
      have HF1 := Lib.hid (show cnl sp = (lkF a b c d zs ss).2 by unfold lkF; rw [hcs.out, hkn, HL.out])
      have HAA := Lib.hid (show lkA a b c d zs ss = true by unfold lkA; rw [HA.out, HL.out, ← hkn, ← HL.out, hok.out]; rfl)
      clear hkn hji hk hlt hcm hcs hok
      cases hf0 : fins (lkF a b c d zs ss).1
      · have HB := Lib.hid (lk_bad (show lkOk a b c d zs ss = false by unfold lkOk; rw [hf0]; simp))
        have HFm := Lib.hid (show fins ms = false by rw [← fins_cnl, HF0.out]; exact hf0)
        clear hf0
        go_wp2_with fail
        refine (imFins_any _ _ _ ms _ (owp_fsl hom.out) hm).mono ?_
        rw [HFm.out]
        rintro e w6 ⟨q6, rfl, rfl⟩
        go_wp2_with fail
        go_ret3
        exact fail_l2 _ HB.out.1 HB.out.2.1 HB.out.2.2 (below_drewN hbl.out _)
      · have HFm := Lib.hid (show fins ms = true by rw [← fins_cnl, HF0.out]; exact hf0)
        cases hf1 : fins (lkF a b c d zs ss).2
        · have HB := Lib.hid (lk_bad (show lkOk a b c d zs ss = false by unfold lkOk; rw [hf1]; simp))
          have HFs := Lib.hid (show fins sp = false by rw [← fins_cnl, HF1.out]; exact hf1)
          clear hf0 hf1
          go_wp2_with fail
          refine (imFins_any _ _ _ ms _ (owp_fsl hom.out) hm).mono ?_
          rw [HFm.out]
          rintro e w6 ⟨q6, rfl, rfl⟩
          go_wp2_with fail
          refine (imFins_any _ _ _ sp _ (FSl.drewN (owp_fsl hos.out) _) hm).mono ?_
          rw [HFs.out]
          rintro e w7 ⟨q7, rfl, rfl⟩
          go_wp2_with fail
          go_ret3
          exact fail_l2 _ HB.out.1 HB.out.2.1 HB.out.2.2 (by first | exact below_drewN hbl.out _ | exact below_drewN (below_drewN hbl.out _) _)
        · have HFs := Lib.hid (show fins sp = true by rw [← fins_cnl, HF1.out]; exact hf1)
          have hok : lkOk a b c d zs ss = true := by unfold lkOk; rw [HAA.out, hf0, hf1]; rfl
          have HG := Lib.hid (lk_good hok)
          have HK := Lib.hid hok
          clear hf0 hf1 hok
          go_wp2_with fail
          refine (imFins_any _ _ _ ms _ (owp_fsl hom.out) hm).mono ?_
          rw [HFm.out]
          rintro e w6 ⟨q6, rfl, rfl⟩
          go_wp2_with fail
          refine (imFins_any _ _ _ sp _ (FSl.drewN (owp_fsl hos.out) _) hm).mono ?_
          rw [HFs.out]
          rintro e w7 ⟨q7, rfl, rfl⟩
          go_wp2_with fail
          go_ret3
          exact ⟨_, ms, _, sp, by rw [HK.out]; rfl, ⟨by first | exact FOwn.drewN hom.out _ | exact FOwn.drewN (FOwn.drewN hom.out _) _, by first | exact FOwn.drewN hos.out _ | exact FOwn.drewN (FOwn.drewN hos.out _) _⟩, ⟨HF0.out.trans HG.out.1.symm, HF1.out.trans HG.out.2.symm⟩, apt_blk hne, by first | exact below_drewN hbl.out _ | exact below_drewN (below_drewN hbl.out _) _⟩
end Go.Proofs.Ytldaamgohdnjnaa

/-
  LevelBack of the model.
-/
namespace Go.Proofs.Ytldaamgohdnjnaa
open Ieee Go.RowKit
set_option linter.unusedVariables false
set_option linter.unusedSimpArgs false
set_option maxHeartbeats 4000000 in
set_option maxRecDepth 100000 in
theorem spLb_any (a b c d : Nat) (a1 : Option Addr) (len cap : Nat) (zs : List Nat) (a2 : Option Addr) (len2 cap2 : Nat) (ss : List Bool) (w : World) (h : FSl w a1 len zs) (h2 : BSl w a2 len2 ss) (hm : len ≤ 1048576) (hm2 : len2 ≤ 1048576) :
    Calls Try.prog 33 #[.agg #[.float .f32 a, .float .f32 b, .float .f32 c, .float .f32 d], .slice a1 len cap, .slice a2 len2 cap2] w (RetL2 32 (lkX0 a b c d zs ss) (lkX1 a b c d zs ss) (lkOk a b c d zs ss) w) := by
  have HL := Lib.hid h.1
  have hb0 := (Below.refl w.heap.size w).alloc (Nat.le_refl _) (.cells #[.float .f32 a, .float .f32 b, .float .f32 c, .float .f32 d] 41)
  have HB0 := Lib.hid hb0
  have H := Lib.hid (FSl.below h hb0)
  have H2 := Lib.hid (BSl.below h2 hb0)
  have HBx := Lib.hid (NumsIn.new w [a, b, c, d] 41)
  obtain ⟨x0, x1, x2, x3⟩ := HBx.out.c4
  clear h h2 hb0
  cases hA : lrB a b c d zs ss
  · have HA := Lib.hid hA
    have HB := Lib.hid (lk_badL hA)
    clear hA
    go_enter Try.func33, Try.ntmps33
    go_wp2_with fail
    refine (spLr_any _ _ _ _ _ _ _ _ _ _ _ _ _ H.out H2.out hm hm2).mono ?_
    rintro e w1 ⟨v0, r0, v1, r1, s, rfl, -, -, -, -, hb⟩
    rw [HA.out]
    have HBl := Lib.hid (HB0.out.trans (hb.mono (by simp)))
    clear hb
    go_wp2_with fail
    go_ret3
    exact fail_l2 _ HB.out.1 HB.out.2.1 HB.out.2.2 HBl.out
  have HA := Lib.hid hA
  have hln := lr_lens hA
  have HLn := Lib.hid hln
  rw [HL.out] at hln
  have hn1 := hln.2.2.1
  have hn96 := hln.2.2.2
  clear hA hln
  go_enter Try.func33, Try.ntmps33
  go_wp2_with fail
  refine (spLr_any _ _ _ _ _ _ _ _ _ _ _ _ _ H.out H2.out hm hm2).mono ?_
  rintro e w1 ⟨v0, r0, v1, r1, s, rfl, ⟨o0, o1⟩, ⟨h0, h1⟩, -, hap, hb⟩
  rw [HA.out]
  have hr0 : r0.length = len := by have := congrArg List.length h0; rw [cnl_len] at this; rw [this, HLn.out.1, HL.out]
  have hr1 : r1.length = len := by have := congrArg List.length h1; rw [cnl_len] at this; rw [this, HLn.out.2.1, HL.out]
  obtain ⟨g0, c0, rfl, hg0, hl0⟩ := owp_blk o0 hr0 (by omega)
  obtain ⟨g1, c1, rfl, hg1, hl1⟩ := owp_blk o1 hr1 (by omega)
  have hne : g0 ≠ g1 := fun e => hap g0 rfl (by rw [e]; rfl)
  have hp0 : w.heap.size < g0 := by have := hg0; simp at this; omega
  have hp1 : w.heap.size < g1 := by have := hg1; simp at this; omega
  have HR0 := Lib.hid hr0
  have HR1 := Lib.hid hr1
  have HC0 := Lib.hid h0
  have HC1 := Lib.hid h1
  have HO0 := Lib.hid (o0.mono (show w.heap.size ≤ _ by simp))
  have HO1 := Lib.hid (o1.mono (show w.heap.size ≤ _ by simp))
  have HBx1 := Lib.hid (HBx.out.below hb)
  have HBl := Lib.hid (HB0.out.trans (hb.mono (by simp)))
  clear h0 h1 o0 o1 hb hap x0 x1 x2 x3 hl0 hl1 hg0 hg1 hr0 hr1
  have hw2 : IntKind.i64.wrap ((len : Int) - 2) = (len : Int) - 2 := by rw [IntKind.wrap_i64]; omega
  go_wp2_with fail
  go_loopw [13] (fun i wr => ∃ (k : Nat) (ms sp : List Nat), k ≤ len - 1 ∧ i = .int .i64 ((len : Int) - 2 - (k : Int)) ∧ Hid (ms.length = len) ∧ Hid (sp.length = len) ∧ Hid (FOwn 32 w.heap.size wr (.slice (some ⟨g0, 0, none⟩) len c0) ms) ∧ Hid (FOwn 32 w.heap.size wr (.slice (some ⟨g1, 0, none⟩) len c1) sp) ∧ Hid (cnl ms = (lkL d zs.length (lrX0 a b c d zs ss) (lrX1 a b c d zs ss) k).1) ∧ Hid (cnl sp = (lkL d zs.length (lrX0 a b c d zs ss) (lrX1 a b c d zs ss) k).2) ∧ Hid (okn (lkG d zs.length (lrX0 a b c d zs ss) (lrX1 a b c d zs ss)) k = true) ∧ Hid (NumsIn wr w.heap.size [a, b, c, d]) ∧ Hid (Below w.heap.size w wr)) (fun i _ => (intOf i + 1).toNat)
  case atStart => exact ⟨0, r0, r1, Nat.zero_le _, by simp, HR0, HR1, HO0, HO1, HC0, HC1, Lib.hid rfl, HBx1, HBl⟩
  case round =>
    rename World => wr
    obtain ⟨k, ms, sp, hk, rfl, hlm, hls, hom, hos, hcm, hcs, hok, hbx, hbl⟩ := hrel
    by_cases hlt : k < len - 1
    · obtain ⟨j, hj⟩ : ∃ j : Nat, len - 2 - k = j := ⟨_, rfl⟩
      have hji : (len : Int) - 2 - (k : Int) = (j : Int) := by omega
      have hjk : j + k + 1 < zs.length := by rw [HL.out]; omega
      have hjz : zs.length - 2 - k = j := by rw [HL.out]; exact hj
      have HS := Lib.hid (lk_succ (d := d) (M := lrX0 a b c d zs ss) (S := lrX1 a b c d zs ss) hjz)
      have HN := Lib.hid (lk_num HA.out hjk)
      have HGk := Lib.hid (show lkG d zs.length (lrX0 a b c d zs ss) (lrX1 a b c d zs ss) k = posB (lkW d (lkL d zs.length (lrX0 a b c d zs ss) (lrX1 a b c d zs ss) k).2 j) by unfold lkG; rw [hjz])
      have HJz := Lib.hid hjz
      have HKz := Lib.hid (show k < zs.length - 1 by rw [HL.out]; exact hlt)
      have HJk := Lib.hid (show k + 1 ≤ len - 1 by omega)
      have HJi := Lib.hid (show (j : Int) - 1 = (len : Int) - 2 - ((k + 1 : Nat) : Int) by omega)
      have hd0 : decide ((0 : Int) ≤ (j : Int)) = true := decide_eq_true (by omega)
      have hwd : IntKind.i64.wrap ((j : Int) - 1) = (j : Int) - 1 := by rw [IntKind.wrap_i64]; omega
      have hjn : (j : Int) < (len : Int) := by omega
      rw [hji]
      obtain ⟨hc0, -⟩ := owp_cell hom.out hlm.out (show j < len by omega)
      obtain ⟨hd0c, -⟩ := owp_cell hom.out hlm.out (show j + 1 < len by omega)
      obtain ⟨hc1, -⟩ := owp_cell hos.out hls.out (show j < len by omega)
      obtain ⟨hd1c, -⟩ := owp_cell hos.out hls.out (show j + 1 < len by omega)
      have HWm := Lib.hid (cnl_get hcm.out (show j < ms.length by rw [hlm.out]; omega))
      have HWm1 := Lib.hid (cnl_get hcm.out (show j + 1 < ms.length by rw [hlm.out]; omega))
      have HWs := Lib.hid (cnl_get hcs.out (show j < sp.length by rw [hls.out]; omega))
      have HWs1 := Lib.hid (cnl_get hcs.out (show j + 1 < sp.length by rw [hls.out]; omega))
      obtain ⟨-, -, -, hcp⟩ := hbx.out.c4
      have hl0 := (owp_lt hom.out).2
      have hl1 := (owp_lt hos.out).2
      have hlp := hbx.out.lt
      obtain ⟨jj, hjj⟩ : ∃ jj, j + 1 = jj := ⟨_, rfl⟩
      have HJJ := Lib.hid hjj
      have hjn1 : (jj : Int) < (len : Int) := by omega
      rw [hjj] at hd0c hd1c HWm1 HWs1
      obtain ⟨m, hgm⟩ : ∃ x, ms.getD j 0 = x := ⟨_, rfl⟩
      have HGm := Lib.hid hgm
      rw [hgm] at hc0 HWm
      obtain ⟨m1, hgm1⟩ : ∃ x, ms.getD jj 0 = x := ⟨_, rfl⟩
      have HGm1 := Lib.hid hgm1
      rw [hgm1] at hd0c HWm1
      obtain ⟨s, hgs⟩ : ∃ x, sp.getD j 0 = x := ⟨_, rfl⟩
      have HGs := Lib.hid hgs
      rw [hgs] at hc1 HWs
      obtain ⟨s1, hgs1⟩ : ∃ x, sp.getD jj 0 = x := ⟨_, rfl⟩
      have HGs1 := Lib.hid hgs1
      rw [hgs1] at hd1c HWs1
      clear hgm hgm1 hgs hgs1
      clear hji hjk hjz hj hk hlt hjj
      have hi0 : (0 : Int) ≤ (j : Int) := by omega
      have hi2 : (0 : Int) ≤ (jj : Int) := by omega
      have hwj : IntKind.i64.wrap ((j : Int) + 1) = (jj : Int) := by have := HJJ.out; rw [IntKind.wrap_i64]; omega
      have HOm0 := Lib.hid hom.out
      have HOs0 := Lib.hid hos.out
      have HBy0 := Lib.hid hbx.out
      have HBw0 := Lib.hid hbl.out
      go_upto_region 10 with fail
      generalize hW : fopR .add .f32 s d _ = r7
      have HW := Lib.hid (show cn .f32 r7 = lkW d (lkL d zs.length (lrX0 a b c d zs ss) (lrX1 a b c d zs ss) k).2 j by rw [← hW, cn_fopR, HWs.out]; rfl)
      clear hW
      generalize hwA : World.drewN wr _ = wA
      have HOmA := Lib.hid (show FOwn 32 w.heap.size wA (.slice (some ⟨g0, 0, none⟩) len c0) ms from by rw [← hwA]; exact FOwn.drewN HOm0.out _)
      have HOsA := Lib.hid (show FOwn 32 w.heap.size wA (.slice (some ⟨g1, 0, none⟩) len c1) sp from by rw [← hwA]; exact FOwn.drewN HOs0.out _)
      have HByA := Lib.hid (show NumsIn wA w.heap.size [a, b, c, d] from by rw [← hwA]; exact NumsIn.drewN HBy0.out _)
      have HBwA := Lib.hid (show Below w.heap.size w wA from by rw [← hwA]; exact below_drewN HBw0.out _)
      clear hwA
      have hlq := lk_gtr HW.out
      cases hpos : posB (lkW d (lkL d zs.length (lrX0 a b c d zs ss) (lrX1 a b c d zs ss) k).2 j)
      · rw [hpos] at hlq
        have HB := Lib.hid (lk_badG HA.out HKz.out (HGk.out.trans hpos))
        clear hpos hc0 hc1 hcp hd0c hd1c
        go_wp2_with fail
        go_ret3
        exact fail_l2 _ HB.out.1 HB.out.2.1 HB.out.2.2 (by first | exact HBwA.out | exact below_drewN HBwA.out _)
      · rw [hpos] at hlq
        have HGt := Lib.hid (HGk.out.trans hpos)
        clear hpos hc0 hc1 hcp hd0c hd1c
        go_upto_region 13 with fail
        generalize hQ : fopR .quo .f32 s r7 _ = q
        have HQ := Lib.hid (show cn .f32 q = lkH d (lkL d zs.length (lrX0 a b c d zs ss) (lrX1 a b c d zs ss) k).2 j by rw [← hQ, cn_fopR, HW.out, HWs.out]; rfl)
        clear hQ
        generalize hwB : World.drewN wA _ = wB
        have HOmB := Lib.hid (show FOwn 32 w.heap.size wB (.slice (some ⟨g0, 0, none⟩) len c0) ms from by rw [← hwB]; exact FOwn.drewN HOmA.out _)
        have HOsB := Lib.hid (show FOwn 32 w.heap.size wB (.slice (some ⟨g1, 0, none⟩) len c1) sp from by rw [← hwB]; exact FOwn.drewN HOsA.out _)
        have HByB := Lib.hid (show NumsIn wB w.heap.size [a, b, c, d] from by rw [← hwB]; exact NumsIn.drewN HByA.out _)
        have HBwB := Lib.hid (show Below w.heap.size w wB from by rw [← hwB]; exact below_drewN HBwA.out _)
        clear hwB
        obtain ⟨k0, k0f⟩ := owp_cell HOmB.out hlm.out (show j < len by omega)
        obtain ⟨k2, -⟩ := owp_cell HOmB.out hlm.out (show jj < len by omega)
        rw [HGm1.out] at k2
        go_upto_region 14 with fail
        generalize hM : fopR .add .f32 m (fopR .mul .f32 q (fopR .sub .f32 m1 m _) _) _ = r16
        have HM := Lib.hid (show cn .f32 r16 = lkNM d (lkL d zs.length (lrX0 a b c d zs ss) (lrX1 a b c d zs ss) k).1 (lkL d zs.length (lrX0 a b c d zs ss) (lrX1 a b c d zs ss) k).2 j by rw [← hM, cn_fopR, cn_fopR, cn_fopR, HQ.out, HWm.out, HWm1.out, ← HJJ.out]; rfl)
        clear hM k0 k0f k2
        generalize hwC : World.drewN wB (_ + _ + _) = wC
        have HOmC := Lib.hid (show FOwn 32 w.heap.size wC (.slice (some ⟨g0, 0, none⟩) len c0) ms from by rw [← hwC]; exact FOwn.drewN HOmB.out _)
        have HOsC := Lib.hid (show FOwn 32 w.heap.size wC (.slice (some ⟨g1, 0, none⟩) len c1) sp from by rw [← hwC]; exact FOwn.drewN HOsB.out _)
        have HByC := Lib.hid (show NumsIn wC w.heap.size [a, b, c, d] from by rw [← hwC]; exact NumsIn.drewN HByB.out _)
        have HBwC := Lib.hid (show Below w.heap.size w wC from by rw [← hwC]; exact below_drewN HBwB.out _)
        clear hwC
        have HOm2 := Lib.hid (owp_put HOmC.out hlm.out j r16)
        have HOs2 := Lib.hid (owp_farS HOsC.out (Ne.symm hne) j (.float .f32 r16))
        have HBy2 := Lib.hid (HByC.out.set (q := g0) (o := j) (v := .float .f32 r16) (Nat.ne_of_lt hp0))
        have HBw2 := Lib.hid (HBwC.out.setCell (p := ⟨g0, j, none⟩) (show w.heap.size ≤ g0 by omega) (.float .f32 r16))
        generalize wC.setCell ⟨g0, j, none⟩ (.float .f32 r16) = wD at *
        obtain ⟨k1, k1f⟩ := owp_cell HOs2.out hls.out (show j < len by omega)
        obtain ⟨k3, -⟩ := owp_cell HOs2.out hls.out (show jj < len by omega)
        rw [HGs1.out] at k3
        go_upto_region 6 with fail
        generalize hSp : fopR .add .f32 s (fopR .mul .f32 (fopR .mul .f32 q q _) (fopR .sub .f32 s1 r7 _) _) _ = r15
        have HSp := Lib.hid (show cn .f32 r15 = lkNS d (lkL d zs.length (lrX0 a b c d zs ss) (lrX1 a b c d zs ss) k).2 j by rw [← hSp, cn_fopR, cn_fopR, cn_fopR, cn_fopR, HQ.out, HWs.out, HWs1.out, HW.out, ← HJJ.out]; rfl)
        clear hSp k1 k1f k3
        generalize hwE : World.drewN wD (_ + _ + _ + _) = wE
        have HOmE := Lib.hid (show FOwn 32 w.heap.size wE (.slice (some ⟨g0, 0, none⟩) len c0) (ms.set j r16) from by rw [← hwE]; exact FOwn.drewN HOm2.out _)
        have HOsE := Lib.hid (show FOwn 32 w.heap.size wE (.slice (some ⟨g1, 0, none⟩) len c1) sp from by rw [← hwE]; exact FOwn.drewN HOs2.out _)
        have HByE := Lib.hid (show NumsIn wE w.heap.size [a, b, c, d] from by rw [← hwE]; exact NumsIn.drewN HBy2.out _)
        have HBwE := Lib.hid (show Below w.heap.size w wE from by rw [← hwE]; exact below_drewN HBw2.out _)
        clear hwE
        have HOm3 := Lib.hid (owp_farS HOmE.out hne j (.float .f32 r15))
        have HOs3 := Lib.hid (owp_put HOsE.out hls.out j r15)
        have HBy3 := Lib.hid (HByE.out.set (q := g1) (o := j) (v := .float .f32 r15) (Nat.ne_of_lt hp1))
        have HBw3 := Lib.hid (HBwE.out.setCell (p := ⟨g1, j, none⟩) (show w.heap.size ≤ g1 by omega) (.float .f32 r15))
        have HC2 := Lib.hid (show cnl (ms.set j r16) = (lkL d zs.length (lrX0 a b c d zs ss) (lrX1 a b c d zs ss) (k + 1)).1 by rw [HS.out, cnl_set ms j HM.out, hcm.out])
        have HC3 := Lib.hid (show cnl (sp.set j r15) = (lkL d zs.length (lrX0 a b c d zs ss) (lrX1 a b c d zs ss) (k + 1)).2 by rw [HS.out, cnl_set sp j HSp.out, hcs.out])
        have HOk := Lib.hid (show okn (lkG d zs.length (lrX0 a b c d zs ss) (lrX1 a b c d zs ss)) (k + 1) = true by rw [okn_succ, hok.out, HGt.out]; rfl)
        go_wp2_with fail
        go_roundw
        case rel => exact ⟨k + 1, ms.set j r16, sp.set j r15, HJk.out, by rw [← HJi.out], Lib.hid (set_len hlm.out), Lib.hid (set_len hls.out), HOm3, HOs3, HC2, HC3, HOk, HBy3, HBw3⟩
        case measure => simp [intOf] <;> omega
    · have hkn : k = len - 1 := by omega
      have hji : (len : Int) - 2 - (k : Int) = -1 := by omega
      have hd0 : decide ((0 : Int) ≤ -1) = false := by decide
      rw [hji]
      have HF0 := Lib.hid (show cnl ms = (lkF a b c d zs ss).1 by unfold lkF; rw [hcm.out, hkn, HL.out])
      have HF1 := Lib.hid (show cnl sp = (lkF a b c d zs ss).2 by unfold lkF; rw [hcs.out, hkn, HL.out])
      have HAA := Lib.hid (show lkA a b c d zs ss = true by unfold lkA; rw [HA.out, HL.out, ← hkn, ← HL.out, hok.out]; rfl)
      clear hkn hji hk hlt hcm hcs hok
      cases hf0 : fins (lkF a b c d zs ss).1
      · have HB := Lib.hid (lk_bad (show lkOk a b c d zs ss = false by unfold lkOk; rw [hf0]; simp))
        have HFm := Lib.hid (show fins ms = false by rw [← fins_cnl, HF0.out]; exact hf0)
        clear hf0
        go_wp2_with fail
        refine (specFinite_any _ _ _ ms _ (owp_fsl hom.out) hm).mono ?_
        rw [HFm.out]
        rintro e w6 ⟨q6, rfl, rfl⟩
        go_wp2_with fail
        go_ret3
        exact fail_l2 _ HB.out.1 HB.out.2.1 HB.out.2.2 (below_drewN hbl.out _)
      · have HFm := Lib.hid (show fins ms = true by rw [← fins_cnl, HF0.out]; exact hf0)
        cases hf1 : fins (lkF a b c d zs ss).2
        · have HB := Lib.hid (lk_bad (show lkOk a b c d zs ss = false by unfold lkOk; rw [hf1]; simp))
          have HFs := Lib.hid (show fins sp = false by rw [← fins_cnl, HF1.out]; exact hf1)
          clear hf0 hf1
          go_wp2_with fail
          refine (specFinite_any _ _ _ ms _ (owp_fsl hom.out) hm).mono ?_
          rw [HFm.out]
          rintro e w6 ⟨q6, rfl, rfl⟩
          go_wp2_with fail
          refine (specFinite_any _ _ _ sp _ (FSl.drewN (owp_fsl hos.out) _) hm).mono ?_
          rw [HFs.out]
          rintro e w7 ⟨q7, rfl, rfl⟩
          go_wp2_with fail
          go_ret3
          exact fail_l2 _ HB.out.1 HB.out.2.1 HB.out.2.2 (by first | exact below_drewN hbl.out _ | exact below_drewN (below_drewN hbl.out _) _)
        · have HFs := Lib.hid (show fins sp = true by rw [← fins_cnl, HF1.out]; exact hf1)
          have hok : lkOk a b c d zs ss = true := by unfold lkOk; rw [HAA.out, hf0, hf1]; rfl
          have HG := Lib.hid (lk_good hok)
          have HK := Lib.hid hok
          clear hf0 hf1 hok
          go_wp2_with fail
          refine (specFinite_any _ _ _ ms _ (owp_fsl hom.out) hm).mono ?_
          rw [HFm.out]
          rintro e w6 ⟨q6, rfl, rfl⟩
          go_wp2_with fail
          refine (specFinite_any _ _ _ sp _ (FSl.drewN (owp_fsl hos.out) _) hm).mono ?_
          rw [HFs.out]
          rintro e w7 ⟨q7, rfl, rfl⟩
          go_wp2_with fail
          go_ret3
          exact ⟨_, ms, _, sp, by rw [HK.out]; rfl, ⟨by first | exact FOwn.drewN hom.out _ | exact FOwn.drewN (FOwn.drewN hom.out _) _, by first | exact FOwn.drewN hos.out _ | exact FOwn.drewN (FOwn.drewN hos.out _) _⟩, ⟨HF0.out.trans HG.out.1.symm, HF1.out.trans HG.out.2.symm⟩, apt_blk hne, by first | exact below_drewN hbl.out _ | exact below_drewN (below_drewN hbl.out _) _⟩
end Go.Proofs.Ytldaamgohdnjnaa

