/-
  Slices of bools: as they come in; the laws' own helpers: copies that may be written, whether two are the same, marks.
-/
import Derived.Test.YtldaamgohdnjnaaCIn
import Derived.Test.YtldaamgohdnjnaaCLaw
import Derived.ChangeArms
import Derived.Deep.RegionHeld3
import Derived.Deep.QuietTactic
import Derived.BigQuiet
import Derived.Test.YtldaamgohdnjnaaLvi
import Derived.Test.YtldaamgohdnjnaaCPlc
import Derived.Deep.RegionWith
import Derived.Deep.DeepCutAuto
import Derived.Test.YtldaamgohdnjnaaCSum
import Derived.Test.YtldaamgohdnjnaaCSwv
import Derived.Deep.AppendLies
namespace Go.Proofs.Ytldaamgohdnjnaa
open Go.RowKit
set_option linter.unusedVariables false
/-- The slice's elements are the bools zs. -/
def BSl (w : World) (a : Option Addr) (len : Nat) (zs : List Bool) : Prop := VSl .bool false w a len zs
/-- A slice of bools that came in. -/
def BRow (w : World) (a : Option Addr) (len cap : Nat) (zs : List Bool) : Prop := BSl w a len zs ∧ len ≤ cap ∧ cap ≤ maxLen
theorem BRow_of {H : Type} {enc : TypeId × Value → H} {P : Program} {w : World} {base : Nat} {spare : Nat → Bool} {held : Bool} {t e : TypeId} {a : Option Addr} {len cap : Nat} {d : DataW H} {ps : List MemPlace}
    (ht : P.underlying t = some (.slice e)) (he : P.underlying e = some .bool) (hc : P.cellsOf e = 1) (h : DataW.Trod enc P w base spare held t (.slice a len cap) d ps) : ∃ zs, BRow w a len cap zs := by
  obtain ⟨fuel, hf⟩ := h
  rcases Go.Deep.open_slice1 ht hc hf with ⟨hcs, _⟩ | ⟨x, l, c, m, n, V, D, Pl, hcs, _, hl, hm, hmm, _, hx⟩
  · simp [Value.cells] at hcs
    obtain ⟨rfl, rfl, rfl⟩ := hcs
    exact ⟨[], ⟨rfl, .inl rfl⟩, Nat.le_refl _, Nat.zero_le _⟩
  · simp [Value.cells] at hcs
    obtain ⟨rfl, rfl, rfl⟩ := hcs
    have hle : len ≤ m := by rw [hmm]; split <;> omega
    have hv : ∀ i, i < len → ∃ b, V i = .bool b := fun i hi => by
      obtain ⟨b, hb, _⟩ := DataW.trod_bool he (hx i (by omega)).2
      exact ⟨b, by simpa using hb⟩
    obtain ⟨f, hf⟩ := Go.Deep.choose_lt hv
    refine ⟨(List.range len).map f, ⟨by simp, ?_⟩, hl, hm⟩
    by_cases h0 : len = 0
    · exact .inl h0
    · right
      have hcell : ∀ i, i < len → w.cell? (x.add i) = some (.bool (((List.range len).map f).getD i false)) := fun i hi => by
        rw [(hx i (by omega)).1, hf i hi]
        simp [List.getD, hi]
      have h0' := hcell 0 (by omega)
      obtain ⟨b, off, spot⟩ := x
      have hspot : spot = none := by simpa [Addr.add] using World.cell?_spot h0'
      subst hspot
      exact ⟨b, off, rfl, lt_of_cell (by rw [← Go.WideShapes.add_plain]; exact h0'), fun j hj => by rw [← Go.WideShapes.add_plain]; exact hcell j hj⟩
theorem BSl.drewN {w : World} {a : Option Addr} {len : Nat} {zs : List Bool} (h : BSl w a len zs) (n : Nat) : BSl (w.drewN n) a len zs := h
theorem BSl.below {w w' : World} {a : Option Addr} {len : Nat} {zs : List Bool} (h : BSl w a len zs) (hb : Below w.heap.size w w') : BSl w' a len zs := VSl.below h hb
theorem BSl.at {w : World} {a : Option Addr} {len : Nat} {zs : List Bool} (h : BSl w a len zs) (hl : 0 < len) :
    ∃ b off, a = some ⟨b, off, none⟩ ∧ b < w.heap.size ∧ ∀ i, i < len → w.cell? ⟨b, off + i, none⟩ = some (.bool (zs.getD i false)) := VSl.at h hl
theorem BSl.same {w w' : World} {a : Option Addr} {len : Nat} {zs : List Bool} (h : BSl w a len zs) (hs : w.heap.size ≤ w'.heap.size) (hb : ∀ b off, 0 < len → a = some ⟨b, off, none⟩ → w'.heap[b]? = w.heap[b]?) : BSl w' a len zs := by
  obtain ⟨h1, h2⟩ := h
  refine ⟨h1, ?_⟩
  rcases Nat.eq_zero_or_pos len with h0 | h0
  · exact .inl h0
  · rcases h2 with h2 | ⟨b, off, rfl, hlt, hc⟩
    · exact .inl h2
    · exact .inr ⟨b, off, rfl, Nat.lt_of_lt_of_le hlt hs, fun i hi => by rw [World.cell?_of_block (a := ⟨b, off + i, none⟩) (hb b off h0 rfl)]; exact hc i hi⟩
theorem BSl.only {w w' : World} {a : Option Addr} {len b c : Nat} {zs : List Bool} (h : BSl w a len zs) (ho : Only c w w') (ha : 0 < len → a = some ⟨b, 0, none⟩ ∧ b ≠ c) : BSl w' a len zs :=
  h.same (Nat.le_of_eq ho.size.symm) fun b' off h0 e => by
    obtain ⟨e1, e2⟩ := ha h0
    rw [e1] at e
    injection e with e
    injection e with e
    subst e
    exact ho.block _ e2
/-- A list of bools that is held on to. -/
structure BHeld (w : World) (A : Option Addr) (b len : Nat) (rs : List Bool) : Prop where
  sl : BSl w A len rs
  at_ : 0 < len → A = some ⟨b, 0, none⟩
  lt_ : 0 < len → b < w.heap.size
  wri : Wri w b len
theorem BHeld.drewN {w : World} {A : Option Addr} {b len : Nat} {rs : List Bool} (h : BHeld w A b len rs) (n : Nat) : BHeld (w.drewN n) A b len rs := ⟨BSl.drewN h.sl n, h.at_, h.lt_, h.wri⟩
theorem BHeld.below {w w' : World} {A : Option Addr} {b len : Nat} {rs : List Bool} (h : BHeld w A b len rs) (hb : Below w.heap.size w w') : BHeld w' A b len rs :=
  ⟨BSl.below h.sl hb, h.at_, fun h0 => Nat.lt_of_lt_of_le (h.lt_ h0) hb.size, h.wri.below hb h.lt_⟩
theorem BHeld.only {w w' : World} {A : Option Addr} {b len c : Nat} {rs : List Bool} (h : BHeld w A b len rs) (ho : Only c w w') (hc : 0 < len → b ≠ c) : BHeld w' A b len rs :=
  ⟨BSl.only h.sl ho (fun h0 => ⟨h.at_ h0, hc h0⟩), h.at_, fun h0 => by rw [ho.size]; exact h.lt_ h0, h.wri.only ho hc⟩
theorem Try.infoB : (Try.prog.info? 4).map (fun i => (i.zero, i.size, i.bytes)) = some (some (.bool false), 1, 1) := by kernel_rfl
theorem toBt_any (a : Option Addr) (len cap : Nat) (zs : List Bool) (w : World) (h : BSl w a len zs) (hm : len ≤ 1048576) :
    Calls Try.prog 28 #[.slice a len cap] w fun e w' => e = .returned (.slice (some ⟨w.heap.size, 0, none⟩) len len) ∧ BHeld w' (some ⟨w.heap.size, 0, none⟩) w.heap.size len zs ∧ Below w.heap.size w w' ∧ w.heap.size < w'.heap.size := by
  obtain ⟨i0, hi, hz0, hz1, hz2⟩ := info_parts Try.infoB
  have hmk := fun W => run_make_len (P := Try.prog) W 38 4 i0 (.bool false) Try.underlying38 hi hz0 hz1 len (by rw [hz2]; omega) (by omega)
  have h0 := Lib.hid (Fills.start (f := Value.bool) (d := false) w.heap.size len zs w (Value.bool false).cells 4 rfl len rfl)
  clear hi hz0 hz1 hz2
  have H := Lib.hid h
  clear h
  go_enter Try.func28, Try.ntmps28
  go_wp2
  clear hmk
  go_loopw [4] (fun i wr => ∃ k : Nat, k ≤ len ∧ i = .int .i64 k ∧ Hid (Fills Value.bool false w.heap.size len zs k w wr)) (fun i _ => len - (intOf i).toNat)
  case atStart => exact ⟨0, Nat.zero_le _, rfl, h0⟩
  case round =>
    rename_i wr
    obtain ⟨k, hk, rfl, hf⟩ := hrel
    by_cases hlt : k < len
    · obtain ⟨b, off, rfl, hb, hc⟩ := H.out.at (by omega)
      have hck := hc k hlt
      rw [← hf.out.1.cell (p := ⟨b, off + k, none⟩) hb] at hck
      obtain ⟨⟨v, hv⟩, hz⟩ := hf.out.next hlt
      have hstep := Lib.hid (hf.out.step hlt)
      generalize zs.getD k false = z at *
      clear hc hb h0 hf H
      go_wp2
      go_roundw
      case rel => exact ⟨k + 1, by omega, by go_num, hstep⟩
      case measure => simp [intOf]; omega
    · have e : k = len := by omega
      subst e
      have hfin := Lib.hid (hf.out.done H.out.1)
      have hbel := Lib.hid hf.out.1
      have hwri := Lib.hid (show Wri _ w.heap.size k from fun j hj => ⟨⟨_, hf.out.2.2.1 j hj⟩, hf.out.2.2.2.2 j hj⟩)
      have hbig := hf.out.2.1
      clear hf h0 H
      go_wp2
      go_ret
      exact ⟨rfl, ⟨hfin.out, fun _ => rfl, fun _ => hbig, hwri.out⟩, hbel.out, hbig⟩
theorem eqB_any (a a' : Option Addr) (len cap cap' : Nat) (zs : List Bool) (w : World) (h : BSl w a len zs) (h' : BSl w a' len zs) (hm : len ≤ 1048576) :
    Calls Try.prog 31 #[.slice a len cap, .slice a' len cap'] w (RetV (.bool true) w) := by
  have H := Lib.hid h
  have H' := Lib.hid h'
  clear h h'
  go_enter Try.func31, Try.ntmps31
  go_wp2
  go_loopw [5] (fun i wr => ∃ k n : Nat, k ≤ len ∧ i = .int .i64 k ∧ wr = w.drewN n) (fun i _ => len - (intOf i).toNat)
  case atStart => exact ⟨0, 0, Nat.zero_le _, rfl, rfl⟩
  case round =>
    obtain ⟨k, n, hk, rfl, rfl⟩ := hrel
    by_cases hlt : k < len
    · obtain ⟨b, off, rfl, hb, hc⟩ := H.out.at (by omega)
      obtain ⟨b', off', rfl, hb', hc'⟩ := H'.out.at (by omega)
      have hck := hc k hlt
      have hck' := hc' k hlt
      have hne : (zs.getD k false != zs.getD k false) = false := bne_self_eq_false _
      generalize zs.getD k false = z at *
      clear hc hc' hb hb' H H'
      go_wp2
      go_quiet (fail)
      go_wp2
      go_roundw
      case rel => exact ⟨k + 1, _, by omega, by go_num, rfl⟩
      case measure => simp [intOf]; omega
    · go_wp2
      go_ret
      exact ⟨n, rfl, rfl⟩
/-- How far the marks have come. -/
def BMarking (b len : Nat) (w wr : World) : Prop := Only b w wr ∧ Wri wr b len
theorem BMarking.step {b len i : Nat} {w wr : World} {v : Bool} (h : BMarking b len w wr) (hi : i < len) : BMarking b len w (wr.setCell ⟨b, i, none⟩ (.bool v)) := by
  obtain ⟨h1, h2⟩ := h
  obtain ⟨⟨v0, hv⟩, _⟩ := h2 i hi
  refine ⟨h1.setCell i _, fun j hj => ?_⟩
  obtain ⟨⟨u, hu⟩, hf⟩ := h2 j hj
  refine ⟨?_, by rw [World.frozen?_setCell]; exact hf⟩
  by_cases e : j = i
  · subst e; exact ⟨_, World.cell?_setCell_same' _ _ _ (by rw [hv]; rfl)⟩
  · exact ⟨u, by rw [setCell_far e]; exact hu⟩
theorem bmarkt_any {A : Option Addr} {b len cap : Nat} {rs : List Bool} (k : Nat) {w : World} (h : BHeld w A b len rs) (hl : len ≤ 1048576) (hk : k ≤ 16777216) :
    Calls Try.prog 32 #[.slice A len cap, .int .i64 k] w fun e w' => e = .returned (.int .i64 (k + len : Nat)) ∧ Only b w w' := by
  have HW := Lib.hid (show BMarking b len w w from ⟨Only.refl _ _, h.wri⟩)
  have HA := Lib.hid h.at_
  clear h
  go_enter Try.func32, Try.ntmps32
  go_wp2
  go_loopw [1, 5] (fun q j wr => ∃ i : Nat, i ≤ len ∧ j = .int .i64 i ∧ q = .int .i64 (k + i : Nat) ∧ Hid (BMarking b len w wr)) (fun _ j _ => len - (intOf j).toNat)
  case atStart => exact ⟨0, Nat.zero_le _, rfl, rfl, HW⟩
  case round =>
    rename_i wr
    obtain ⟨i, hi, rfl, rfl, hm⟩ := hrel
    by_cases hlt : i < len
    · obtain rfl := HA.out (by omega)
      obtain ⟨⟨v, hv⟩, hf⟩ := hm.out.2 i hlt
      have hstep := Lib.hid (fun v => hm.out.step (v := v) hlt)
      clear hm HW HA
      go_wp2
      go_roundw
      case rel => exact ⟨i + 1, by omega, by go_num, by go_num, Lib.hid (hstep.out _)⟩
      case measure => simp [intOf]; omega
    · obtain rfl : i = len := by omega
      go_wp2
      go_ret
      exact ⟨rfl, hm.out.1⟩
end Go.Proofs.Ytldaamgohdnjnaa

/-
  Levels through a series: the program's behindAll, over LevelStep.
-/
namespace Go.Proofs.Ytldaamgohdnjnaa
open Ieee Go.RowKit
set_option linter.unusedVariables false

/-- All of the first n are well. -/
def okn (ok : Nat → Bool) (n : Nat) : Bool := (List.range n).all ok
theorem okn_succ (ok : Nat → Bool) (n : Nat) : okn ok (n + 1) = (okn ok n && ok n) := by unfold okn; rw [List.range_succ, List.all_append]; simp
theorem okn_bad {ok : Nat → Bool} {k n : Nat} (h : k < n) (hb : ok k = false) : okn ok n = false := by
  unfold okn
  rw [List.all_eq_false]
  exact ⟨k, by simpa using h, by simp [hb]⟩
theorem fin_wd {r v : Nat} (h : cn .f32 r = v) (hf : fin .f32 v = true) : r = v := by
  have hN : isN .f32 r = false := by
    rw [← isN_cn, h]
    unfold fin at hf
    cases hn : isN .f32 v
    · rfl
    · rw [hn] at hf; cases hf
  rw [← h, cn_num hN]
section
variable (a b c d : Nat) (zs : List Nat) (ss : List Bool)
/-- The mean and the spread behind the first numbers. -/
def lvM : Nat → Nat × Nat
  | 0 => (a, b)
  | k + 1 => (sM (ss.getD k false) (lvM k).1 (lvM k).2 c d (zs.getD k 0), sP (ss.getD k false) (lvM k).2 c d)
def lvO (k : Nat) : Bool := lsB (ss.getD k false) (lvM a b c d zs ss k).1 (lvM a b c d zs ss k).2 c d (zs.getD k 0)
def lvQ (k : Nat) : Nat := sQ (ss.getD k false) (lvM a b c d zs ss k).1 (lvM a b c d zs ss k).2 c d (zs.getD k 0)
def lvPre : Bool := serB zs && decide (ss.length = zs.length)
def lvAll : Bool := lvPre zs ss && okn (lvO a b c d zs ss) zs.length
end
theorem lsB_t {s : Bool} {a b c d x : Nat} (h : lsB s a b c d x = true) : fin .f32 (sM s a b c d x) = true ∧ fin .f32 (sP s b c d) = true ∧ fin .f32 c = true ∧ fin .f32 d = true ∧ fin .f32 (sQ s a b c d x) = true := by
  unfold lsB at h
  have h1 := (Bool.and_eq_true _ _ ▸ h).2
  have h2 := (Bool.and_eq_true _ _ ▸ h1).1
  have h3 := (Bool.and_eq_true _ _ ▸ h1).2
  have h4 := lvB_fins h2
  unfold fins at h4
  simp at h4
  exact ⟨h4.1, h4.2.1, h4.2.2.1, h4.2.2.2, h3⟩
/-- What a step gives, word by word. -/
theorem lsR_words {s : Bool} {a b c d x : Nat} {w : World} {e : Ending} {w' : World} (h : lsR s a b c d x w e w') :
    ∃ m p n q u, e = .returned (.tuple #[.agg #[.float .f32 m, .float .f32 p, .float .f32 n, .float .f32 q], .float .f32 u, .bool (lsB s a b c d x)]) ∧ (lsB s a b c d x = true → m = sM s a b c d x ∧ p = sP s b c d ∧ n = c ∧ q = d ∧ u = sQ s a b c d x) ∧ Below w.heap.size w w' := by
  obtain ⟨m, p, n, q, u, h1, h2, h3, h4, h5, rfl, hb⟩ := h
  refine ⟨m, p, n, q, u, rfl, fun hB => ?_, hb⟩
  rw [if_pos hB] at h1 h2 h3 h4 h5
  obtain ⟨f1, f2, f3, f4, f5⟩ := lsB_t hB
  exact ⟨fin_wd h1 f1, fin_wd h2 f2, (fin_wd h3 ((fin_congr (cn_cn .f32 c)).trans f3)).trans (fin_wd rfl ((fin_congr (cn_cn .f32 c)).trans f3)).symm, (fin_wd h4 ((fin_congr (cn_cn .f32 d)).trans f4)).trans (fin_wd rfl ((fin_congr (cn_cn .f32 d)).trans f4)).symm, fin_wd h5 f5⟩
/-- A block of models, four numbers each, the first k of which are told. -/
structure Md4 (g n k : Nat) (f : Nat → Nat → Nat) (wr : World) : Prop where
  set_ : ∀ j, j < k → ∀ i, i < 4 → wr.cell? ⟨g, j * 4 + i, none⟩ = some (.float .f32 (f j i))
  ex : ∀ j, j < n * 4 → ∃ v, wr.cell? ⟨g, j, none⟩ = some v
  fz : ∀ j, wr.frozen? ⟨g, j, none⟩ = false
  lt : g < wr.heap.size
section
variable {g n k : Nat} {f : Nat → Nat → Nat} {wr wr' : World}
theorem Md4.start (w : World) (n : Nat) (f : Nat → Nat → Nat) (z : Array Value) (T : TypeId) : Md4 w.heap.size n 0 f (w.alloc (.cells (madeCells z (n * 4)) T)) := by
  refine ⟨fun j hj => by omega, fun j hj => ?_, fun j => World.frozen?_alloc_at _ _ _ _ rfl, by simp⟩
  rw [World.cell?_alloc_at _ _ _ _ rfl]
  exact ⟨_, Array.getElem?_eq_getElem (by rw [size_madeCells]; omega)⟩
theorem Md4.same (h : Md4 g n k f wr) (hs : wr.heap.size ≤ wr'.heap.size) (hb : wr'.heap[g]? = wr.heap[g]?) : Md4 g n k f wr' :=
  ⟨fun j hj i hi => by rw [World.cell?_of_block (a := ⟨g, j * 4 + i, none⟩) hb]; exact h.set_ j hj i hi, fun j hj => by rw [World.cell?_of_block (a := ⟨g, j, none⟩) hb]; exact h.ex j hj,
    fun j => by rw [World.frozen?_of_block (a := ⟨g, j, none⟩) hb]; exact h.fz j, Nat.lt_of_lt_of_le h.lt hs⟩
theorem Md4.step (h : Md4 g n k f wr) (hk : k < n) : Md4 g n (k + 1) f ((((wr.setCell ⟨g, k * 4, none⟩ (.float .f32 (f k 0))).setCell ⟨g, k * 4 + 1, none⟩ (.float .f32 (f k 1))).setCell ⟨g, k * 4 + 2, none⟩ (.float .f32 (f k 2))).setCell ⟨g, k * 4 + 3, none⟩ (.float .f32 (f k 3))) := by
  have hex := fun i (hi : i < 4) => h.ex (k * 4 + i) (by omega)
  refine ⟨fun j hj i hi => ?_, fun j hj => ?_, fun j => by simp only [World.frozen?_setCell]; exact h.fz j, by simpa [World.setCell] using h.lt⟩
  · by_cases e : j = k
    · subst e
      match i, hi with
      | 0, _ =>
        rw [setCell_far (by omega), setCell_far (by omega), setCell_far (by omega)]
        obtain ⟨v, hv⟩ := hex 0 (by omega)
        exact World.cell?_setCell_same' _ _ _ (by rw [show (⟨g, j * 4, none⟩ : Addr) = ⟨g, j * 4 + 0, none⟩ from rfl, hv]; rfl)
      | 1, _ =>
        rw [setCell_far (by omega), setCell_far (by omega)]
        obtain ⟨v, hv⟩ := hex 1 (by omega)
        exact World.cell?_setCell_same' _ _ _ (by rw [setCell_far (by omega), hv]; rfl)
      | 2, _ =>
        rw [setCell_far (by omega)]
        obtain ⟨v, hv⟩ := hex 2 (by omega)
        exact World.cell?_setCell_same' _ _ _ (by rw [setCell_far (by omega), setCell_far (by omega), hv]; rfl)
      | 3, _ =>
        obtain ⟨v, hv⟩ := hex 3 (by omega)
        exact World.cell?_setCell_same' _ _ _ (by rw [setCell_far (by omega), setCell_far (by omega), setCell_far (by omega), hv]; rfl)
    · rw [setCell_far (by omega), setCell_far (by omega), setCell_far (by omega), setCell_far (by omega)]
      exact h.set_ j (by omega) i hi
  · have key : ∀ (W : World) (o : Nat) (v : Value), (∃ u, W.cell? ⟨g, j, none⟩ = some u) → ∃ u, (W.setCell ⟨g, o, none⟩ v).cell? ⟨g, j, none⟩ = some u := fun W o v ⟨u, hu⟩ => by
      by_cases e : j = o
      · subst e; exact ⟨_, World.cell?_setCell_same' _ _ _ (by rw [hu]; rfl)⟩
      · exact ⟨u, by rw [setCell_far e]; exact hu⟩
    exact key _ _ _ (key _ _ _ (key _ _ _ (key _ _ _ (h.ex j hj))))
end
theorem run_make_len4 {P : Program} (w : World) (t e : TypeId) (i : TypeInfo) (z : Value) (ht : P.underlying t = some (.slice e)) (hi : P.info? e = some i) (hz : i.zero = some z) (hs : i.size = 4)
    (len : Nat) (hb : i.bytes * len ≤ 281474976710656) (hl : len ≤ 9223372036854775807) :
    (Instr.makeSlice t (.int .i64 (len : Int)) (.int .i64 (len : Int))).run P w = .ok (.slice (some ⟨w.heap.size, 0, none⟩) len len) (w.alloc (.cells (madeCells z.cells (len * 4)) e)) := by
  have h := run_make (P := P) w t e i z ht hi hz .i64 .i64 (len : Int) (len : Int) (by omega) (Int.le_refl _) (by
    have : ((i.bytes * len : Nat) : Int) ≤ 281474976710656 := by omega
    rwa [Int.natCast_mul] at this) (by omega)
  rw [h, hs]
  simp
theorem Try.infoL : (Try.prog.info? 41).map (fun i => (i.zero, i.size, i.bytes)) = some (some (.agg #[.float .f32 0, .float .f32 0, .float .f32 0, .float .f32 0]), 4, 16) := by kernel_rfl
/-- The models behind all numbers. -/
def lvF (a b c d : Nat) (zs : List Nat) (ss : List Bool) (j i : Nat) : Nat := if i = 0 then (lvM a b c d zs ss (j + 1)).1 else if i = 1 then (lvM a b c d zs ss (j + 1)).2 else if i = 2 then c else d
/-- What behindAll gives. -/
def RetBh (a b c d : Nat) (zs : List Nat) (ss : List Bool) (w : World) (e : Ending) (w' : World) : Prop :=
  ∃ v0 v1, e = .returned (.tuple #[v0, v1, .bool (lvAll a b c d zs ss)]) ∧ Below w.heap.size w w' ∧
    (lvAll a b c d zs ss = true → ∃ g1 g2, v0 = .slice (some ⟨g1, 0, none⟩) zs.length zs.length ∧ v1 = .slice (some ⟨g2, 0, none⟩) zs.length zs.length ∧
      Md4 g1 zs.length zs.length (lvF a b c d zs ss) w' ∧
      FSl w' (some ⟨g2, 0, none⟩) zs.length (tells (lvQ a b c d zs ss) zs.length)) ∧ (lvAll a b c d zs ss = false → v0 = .slice none 0 0 ∧ v1 = .slice none 0 0)
set_option maxHeartbeats 4000000 in
set_option maxRecDepth 100000 in
theorem bhL_any (a b c d : Nat) (a1 : Option Addr) (len cap : Nat) (zs : List Nat) (a2 : Option Addr) (len2 cap2 : Nat) (ss : List Bool) (w : World) (h : FSl w a1 len zs) (h2 : BSl w a2 len2 ss) (hm : len ≤ 1048576) (hm2 : len2 ≤ 1048576) :
    Calls Try.prog 84 #[.agg #[.float .f32 a, .float .f32 b, .float .f32 c, .float .f32 d], .slice a1 len cap, .slice a2 len2 cap2, .func (.func 85) #[] #[]] w (RetBh a b c d zs ss w) := by
  obtain ⟨i0, hi, hz0, hz1, hz2⟩ := info_parts Try.infoR
  obtain ⟨i1, hi1, hz3, hz4, hz5⟩ := info_parts Try.infoL
  have HL := Lib.hid h.1
  have HL2 := Lib.hid h2.1
  have hb0 := (Below.refl w.heap.size w).alloc (Nat.le_refl _) (.cells #[.float .f32 a, .float .f32 b, .float .f32 c, .float .f32 d] 41)
  have HB0 := Lib.hid hb0
  have H := Lib.hid (FSl.below h hb0)
  have H2 := Lib.hid (BSl.below h2 hb0)
  have HBx := Lib.hid (NumsIn.new w [a, b, c, d] 41)
  have HO := Lib.hid h
  have HO2 := Lib.hid h2
  clear h h2 hb0
  cases hs : serB zs
  · have HS := Lib.hid hs
    have HB := Lib.hid (show lvAll a b c d zs ss = false by unfold lvAll lvPre; rw [hs]; rfl)
    clear hs
    go_enter Try.func84, Try.ntmps84
    go_wp2_with (go_at_call 67; refine (implSeries_any _ _ _ _ _ H.out hm).mono ?_; rw [HS.out]; rintro e w' ⟨m, rfl, rfl⟩)
    go_ret3
    exact ⟨_, _, by rw [HB.out]; rfl, below_drewN HB0.out _, fun hh => absurd hh (by rw [HB.out]; simp), fun _ => ⟨rfl, rfl⟩⟩
  · have HS := Lib.hid hs
    by_cases he : len2 = len
    · have hne : ((len2 : Int) != (len : Int)) = false := by rw [bne_eq_false_iff_eq]; omega
      subst he
      have hl96 := (serB_t hs).2.1
      have hl1 := (serB_t hs).1
      rw [HL.out] at hl96 hl1
      have HAl := Lib.hid (show lvAll a b c d zs ss = okn (lvO a b c d zs ss) len2 from by unfold lvAll lvPre; rw [hs, HL.out, HL2.out, decide_eq_true rfl]; rfl)
      have hmk := fun W => run_make_len (P := Try.prog) W 22 32 i0 (.float .f32 0) Try.underlying22 hi hz0 hz1 len2 (by rw [hz2]; omega) (by omega)
      have hmk4 := fun W => run_make_len4 (P := Try.prog) W 109 41 i1 (.agg #[.float .f32 0, .float .f32 0, .float .f32 0, .float .f32 0]) Try.underlying109 hi1 hz3 hz4 len2 (by rw [hz5]; omega) (by omega)
      clear hs hi hz0 hz1 hz2 hi1 hz3 hz4 hz5 hne
      go_enter Try.func84, Try.ntmps84
      go_wp2_with fail
      refine (implSeries_any _ _ _ _ _ H.out hm).mono ?_
      rw [HS.out]
      rintro e w' ⟨m, rfl, rfl⟩
      have HMa := Lib.hid (show ∀ n, Md4 (w.heap.size + 1) len2 0 (lvF a b c d zs ss) ((((w.alloc (.cells #[.float .f32 a, .float .f32 b, .float .f32 c, .float .f32 d] 41)).drewN n).alloc (.cells (madeCells #[.float .f32 0, .float .f32 0, .float .f32 0, .float .f32 0] (len2 * 4)) 41)).alloc (.cells (madeCells #[.float .f32 0] len2) 32)) from fun n => by
        have := (Md4.start ((w.alloc (.cells #[.float .f32 a, .float .f32 b, .float .f32 c, .float .f32 d] 41)).drewN n) len2 (lvF a b c d zs ss) #[.float .f32 0, .float .f32 0, .float .f32 0, .float .f32 0] 41).same (wr' := (((w.alloc (.cells #[.float .f32 a, .float .f32 b, .float .f32 c, .float .f32 d] 41)).drewN n).alloc (.cells (madeCells #[.float .f32 0, .float .f32 0, .float .f32 0, .float .f32 0] (len2 * 4)) 41)).alloc (.cells (madeCells #[.float .f32 0] len2) 32)) (by simp) (heap_alloc_old _ _ (by simp))
        simpa using this)
      have HHa := Lib.hid (show ∀ n, Head 32 (w.heap.size + 1 + 1) len2 [] ((((w.alloc (.cells #[.float .f32 a, .float .f32 b, .float .f32 c, .float .f32 d] 41)).drewN n).alloc (.cells (madeCells #[.float .f32 0, .float .f32 0, .float .f32 0, .float .f32 0] (len2 * 4)) 41)).alloc (.cells (madeCells #[.float .f32 0] len2) 32)) from fun n => by
        have := Head.start (T := 32) (w := ((w.alloc (.cells #[.float .f32 a, .float .f32 b, .float .f32 c, .float .f32 d] 41)).drewN n).alloc (.cells (madeCells #[.float .f32 0, .float .f32 0, .float .f32 0, .float .f32 0] (len2 * 4)) 41)) (n := len2) (by omega)
        simpa [Value.cells] using this)
      have HMb := Lib.hid (show ∀ n, Md4 (w.heap.size + 1 + 1) len2 0 (lvF a b c d zs ss) ((((w.alloc (.cells #[.float .f32 a, .float .f32 b, .float .f32 c, .float .f32 d] 41)).drewN n).alloc (.cells (madeCells #[.float .f32 0] len2) 32)).alloc (.cells (madeCells #[.float .f32 0, .float .f32 0, .float .f32 0, .float .f32 0] (len2 * 4)) 41)) from fun n => by
        have := Md4.start (((w.alloc (.cells #[.float .f32 a, .float .f32 b, .float .f32 c, .float .f32 d] 41)).drewN n).alloc (.cells (madeCells #[.float .f32 0] len2) 32)) len2 (lvF a b c d zs ss) #[.float .f32 0, .float .f32 0, .float .f32 0, .float .f32 0] 41
        simpa using this)
      have HHb := Lib.hid (show ∀ n, Head 32 (w.heap.size + 1) len2 [] ((((w.alloc (.cells #[.float .f32 a, .float .f32 b, .float .f32 c, .float .f32 d] 41)).drewN n).alloc (.cells (madeCells #[.float .f32 0] len2) 32)).alloc (.cells (madeCells #[.float .f32 0, .float .f32 0, .float .f32 0, .float .f32 0] (len2 * 4)) 41)) from fun n => by
        have := (Head.start (T := 32) (w := ((w.alloc (.cells #[.float .f32 a, .float .f32 b, .float .f32 c, .float .f32 d] 41)).drewN n)) (n := len2) (by omega)).same (w' := (((w.alloc (.cells #[.float .f32 a, .float .f32 b, .float .f32 c, .float .f32 d] 41)).drewN n).alloc (.cells (madeCells #[.float .f32 0] len2) 32)).alloc (.cells (madeCells #[.float .f32 0, .float .f32 0, .float .f32 0, .float .f32 0] (len2 * 4)) 41)) (heap_alloc_old _ _ (by simp))
        simpa using this)
      have HA := Lib.hid (show ∀ n o1 o2, NumsIn ((((w.alloc (.cells #[.float .f32 a, .float .f32 b, .float .f32 c, .float .f32 d] 41)).drewN n).alloc o1).alloc o2) w.heap.size [a, b, c, d] from fun n o1 o2 => ((HBx.out.drewN n).alloc o1).alloc o2)
      have HBb := Lib.hid (show ∀ n o1 o2, Below w.heap.size w ((((w.alloc (.cells #[.float .f32 a, .float .f32 b, .float .f32 c, .float .f32 d] 41)).drewN n).alloc o1).alloc o2) from fun n o1 o2 => ((below_drewN HB0.out n).alloc (by simp) o1).alloc (by simp; omega) o2)
      go_upto_region 3 with fail
      go_cut [11, 12] (fun v11 v12 wx => ∃ g1 g2, v11 = .slice (some ⟨g1, 0, none⟩) len2 len2 ∧ v12 = .slice (some ⟨g2, 0, none⟩) len2 len2 ∧ Hid (g1 ≠ g2 ∧ w.heap.size < g1 ∧ w.heap.size < g2) ∧ Hid (NumsIn wx w.heap.size [a, b, c, d]) ∧ Hid (Md4 g1 len2 0 (lvF a b c d zs ss) wx) ∧ Hid (Head 32 g2 len2 [] wx) ∧ Hid (Below w.heap.size w wx))
      case first =>
        go_wp2
        go_region
        all_goals
          go_wp2_with fail
          go_meet
          case rel => first
            | exact ⟨_, _, rfl, rfl, Lib.hid ⟨by omega, by omega, by omega⟩, Lib.hid (HA.out _ _ _), Lib.hid (HMa.out _), Lib.hid (HHa.out _), Lib.hid (HBb.out _ _ _)⟩
            | exact ⟨_, _, rfl, rfl, Lib.hid ⟨by omega, by omega, by omega⟩, Lib.hid (HA.out _ _ _), Lib.hid (HMb.out _), Lib.hid (HHb.out _), Lib.hid (HBb.out _ _ _)⟩
      case rest =>
        obtain ⟨g1, g2, rfl, rfl, hgs, hx0, hm0, hh0, hb0⟩ := hcut
        have hg12 := hgs.out.1
        have hg1 := hgs.out.2.1
        have hg2 := hgs.out.2.2
        clear hmk hmk4 HMa HHa HMb HHb HA HBb
        go_wp2
        go_loopw [34] (fun i wr => ∃ (k : Nat) (rs : List Nat), k ≤ len2 ∧ i = .int .i64 k ∧ Hid (rs.length = k) ∧ Hid (NumsIn wr w.heap.size [(lvM a b c d zs ss k).1, (lvM a b c d zs ss k).2, c, d]) ∧ Hid (Md4 g1 len2 k (lvF a b c d zs ss) wr) ∧ Hid (Head 32 g2 len2 rs wr) ∧ Hid (rs = tells (lvQ a b c d zs ss) k) ∧ Hid (okn (lvO a b c d zs ss) k = true) ∧ Hid (Below w.heap.size w wr)) (fun i _ => len2 - (intOf i).toNat)
        case atStart => exact ⟨0, [], Nat.zero_le _, rfl, Lib.hid rfl, hx0, hm0, hh0, Lib.hid rfl, Lib.hid rfl, hb0⟩
        case round =>
          rename World => wr
          obtain ⟨k, rs, hk, rfl, hrl, hnx, hmd, hhd, hrs, hok, hbel⟩ := hrel
          by_cases hlt : k < len2
          · have hsz := hbel.out.size
            obtain ⟨b1, off1, rfl, hb1, hc1⟩ := HO.out.at (by omega)
            obtain ⟨b2, off2, rfl, hb2, hc2⟩ := HO2.out.at (by omega)
            have hck := hc1 k hlt
            have hcs := hc2 k hlt
            rw [← hbel.out.cell (p := ⟨b1, off1 + k, none⟩) hb1] at hck
            rw [← hbel.out.cell (p := ⟨b2, off2 + k, none⟩) hb2] at hcs
            have HSt := Lib.hid (show lvO a b c d zs ss k = lsB (ss.getD k false) (lvM a b c d zs ss k).1 (lvM a b c d zs ss k).2 c d (zs.getD k 0) ∧ lvQ a b c d zs ss k = sQ (ss.getD k false) (lvM a b c d zs ss k).1 (lvM a b c d zs ss k).2 c d (zs.getD k 0) ∧ (lvM a b c d zs ss (k + 1)).1 = sM (ss.getD k false) (lvM a b c d zs ss k).1 (lvM a b c d zs ss k).2 c d (zs.getD k 0) ∧ (lvM a b c d zs ss (k + 1)).2 = sP (ss.getD k false) (lvM a b c d zs ss k).2 c d from ⟨rfl, rfl, rfl, rfl⟩)
            generalize zs.getD k 0 = x at *
            generalize ss.getD k false = y at *
            obtain ⟨M, hM⟩ : ∃ M, (lvM a b c d zs ss k).1 = M := ⟨_, rfl⟩
            obtain ⟨P, hP⟩ : ∃ P, (lvM a b c d zs ss k).2 = P := ⟨_, rfl⟩
            rw [hM, hP] at hnx HSt
            clear hM hP hc1 hc2 hb1 hb2
            go_upto_region 8 with fail
            go_cut [15] (fun v15 wx => v15 = .bool (lvO a b c d zs ss k) ∧ Hid (lvO a b c d zs ss k = true → NumsIn wx w.heap.size [(lvM a b c d zs ss (k + 1)).1, (lvM a b c d zs ss (k + 1)).2, c, d] ∧ Head 32 g2 len2 (rs ++ [lvQ a b c d zs ss k]) wx) ∧ Hid (Md4 g1 len2 k (lvF a b c d zs ss) wx) ∧ Hid (Below w.heap.size w wx))
            case first =>
              obtain ⟨x0, x1, x2, x3⟩ := hnx.out.c4
              have HN := Lib.hid hnx.out
              have HH := Lib.hid hhd.out
              have HD := Lib.hid hmd.out
              have HB := Lib.hid hbel.out
              have HRl := Lib.hid hrl.out
              clear hnx hhd hmd hbel hrs hok hrl
              go_wp2_with fail
              go_region_with (go_at_call 85; refine (imLvs_any _ _ _ _ _ _ _).mono ?_; intro e w1 hR; obtain ⟨m1, p1, n1, q1, u1, rfl, hv, hb3⟩ := lsR_words hR; have hx1 : NumsIn w1 w.heap.size [M, P, c, d] := NumsIn.below (by first | exact HN.out | exact HN.out.drewN _) hb3; obtain ⟨y0, y1, y2, y3⟩ := hx1.c4; obtain ⟨z0, z1, z2, z3⟩ := hx1.f4; have hh1 : Head 32 g2 len2 rs w1 := HH.out.same (hb3.block g2 (by exact HH.out.lt)); obtain ⟨⟨uu, hcell⟩, hfz⟩ := hh1.cell hlt; have hpg : w.heap.size ≠ g2 := (by omega))
              all_goals
                have hd1 : Md4 g1 len2 k (lvF a b c d zs ss) w1 := HD.out.same (by exact hb3.size) (hb3.block g1 (by exact HD.out.lt))
                have hbw : Below w.heap.size w w1 := by first | exact HB.out.trans (hb3.mono (by exact HB.out.size)) | exact (below_drewN HB.out 1).trans (hb3.mono (by exact HB.out.size))
                have hnw : NumsIn (((((w1.setCell ⟨w.heap.size, 0, none⟩ (.float .f32 m1)).setCell ⟨w.heap.size, 1, none⟩ (.float .f32 p1)).setCell ⟨w.heap.size, 2, none⟩ (.float .f32 n1)).setCell ⟨w.heap.size, 3, none⟩ (.float .f32 q1)).setCell ⟨g2, k, none⟩ (.float .f32 u1)) w.heap.size [m1, p1, n1, q1] :=
                  ((((hx1.put (i := 0) (by simp) m1).put (i := 1) (by simp) p1).put (i := 2) (by simp) n1).put (i := 3) (by simp) q1).set hpg
                have hhw := (hh1.same (w' := (((w1.setCell ⟨w.heap.size, 0, none⟩ (.float .f32 m1)).setCell ⟨w.heap.size, 1, none⟩ (.float .f32 p1)).setCell ⟨w.heap.size, 2, none⟩ (.float .f32 n1)).setCell ⟨w.heap.size, 3, none⟩ (.float .f32 q1)) (by rw [Below.heap_setCell _ _ _ _ (Ne.symm hpg), Below.heap_setCell _ _ _ _ (Ne.symm hpg), Below.heap_setCell _ _ _ _ (Ne.symm hpg), Below.heap_setCell _ _ _ _ (Ne.symm hpg)])).push (by rw [HRl.out]; exact hlt) u1
                rw [HRl.out] at hhw
                have hdw := hd1.same (wr' := (((((w1.setCell ⟨w.heap.size, 0, none⟩ (.float .f32 m1)).setCell ⟨w.heap.size, 1, none⟩ (.float .f32 p1)).setCell ⟨w.heap.size, 2, none⟩ (.float .f32 n1)).setCell ⟨w.heap.size, 3, none⟩ (.float .f32 q1)).setCell ⟨g2, k, none⟩ (.float .f32 u1))) (by simp [World.setCell]) (by
                  have hgp : g1 ≠ w.heap.size := by omega
                  rw [Below.heap_setCell _ _ _ _ hg12, Below.heap_setCell _ _ _ _ hgp, Below.heap_setCell _ _ _ _ hgp, Below.heap_setCell _ _ _ _ hgp, Below.heap_setCell _ _ _ _ hgp])
                have hbz := ((((hbw.setCell (p := ⟨w.heap.size, 0, none⟩) (Nat.le_refl _) (.float .f32 m1)).setCell (p := ⟨w.heap.size, 1, none⟩) (Nat.le_refl _) (.float .f32 p1)).setCell (p := ⟨w.heap.size, 2, none⟩) (Nat.le_refl _) (.float .f32 n1)).setCell (p := ⟨w.heap.size, 3, none⟩) (Nat.le_refl _) (.float .f32 q1)).setCell (p := ⟨g2, k, none⟩) (by show w.heap.size ≤ g2; omega) (.float .f32 u1)
                have HNw := Lib.hid hnw
                have HHw := Lib.hid hhw
                have HDw := Lib.hid hdw
                have HBz := Lib.hid hbz
                have HV := Lib.hid hv
                clear hd1 hbw hnw hhw hdw hbz hx1 hh1 hb3 hv hR y0 y1 y2 y3 z0 z1 z2 z3 hcell hfz x0 x1 x2 x3 HN HH HD HB
                go_wp2_with fail
                go_meet
                case rel =>
                  refine ⟨by rw [HSt.out.1], Lib.hid (fun hO => ?_), HDw, HBz⟩
                  rw [HSt.out.1] at hO
                  obtain ⟨e1, e2, e3, e4, e5⟩ := HV.out hO
                  rw [HSt.out.2.1, HSt.out.2.2.1, HSt.out.2.2.2, ← e1, ← e2, ← e5]
                  refine ⟨?_, HHw.out⟩
                  rw [← e3, ← e4]
                  exact HNw.out
            case rest =>
              obtain ⟨rfl, hnh, hmd1, hbel1⟩ := hcut
              have hHr := Lib.hid hhd.out
              clear hnx hmd hhd hbel HSt
              cases hO : lvO a b c d zs ss k
              · have HF := Lib.hid (show lvAll a b c d zs ss = false by rw [HAl.out]; exact okn_bad hlt hO)
                clear hO hnh hmd1
                go_wp2
                go_ret3
                exact ⟨_, _, by rw [HF.out]; rfl, hbel1.out, fun hh => absurd hh (by rw [HF.out]; simp), fun _ => ⟨rfl, rfl⟩⟩
              · obtain ⟨hn2, hh2⟩ := hnh.out hO
                have HOk := Lib.hid (show okn (lvO a b c d zs ss) (k + 1) = true by rw [okn_succ, hok.out, hO]; rfl)
                obtain ⟨x0, x1, x2, x3⟩ := hn2.c4
                obtain ⟨v0, hv0⟩ := hmd1.out.ex (k * 4) (by omega)
                obtain ⟨v1, hv1⟩ := hmd1.out.ex (k * 4 + 1) (by omega)
                obtain ⟨v2, hv2⟩ := hmd1.out.ex (k * 4 + 2) (by omega)
                obtain ⟨v3, hv3⟩ := hmd1.out.ex (k * 4 + 3) (by omega)
                have hf0 := hmd1.out.fz (k * 4)
                have hf1 := hmd1.out.fz (k * 4 + 1)
                have hf2 := hmd1.out.fz (k * 4 + 2)
                have hf3 := hmd1.out.fz (k * 4 + 3)
                rename World => wy
                have hgp : w.heap.size ≠ g1 := by omega
                have HSt2 := Lib.hid (hmd1.out.step hlt)
                have HN2 := Lib.hid (show NumsIn ((((wy.setCell ⟨g1, k * 4, none⟩ (.float .f32 (lvM a b c d zs ss (k + 1)).1)).setCell ⟨g1, k * 4 + 1, none⟩ (.float .f32 (lvM a b c d zs ss (k + 1)).2)).setCell ⟨g1, k * 4 + 2, none⟩ (.float .f32 c)).setCell ⟨g1, k * 4 + 3, none⟩ (.float .f32 d)) w.heap.size [(lvM a b c d zs ss (k + 1)).1, (lvM a b c d zs ss (k + 1)).2, c, d] from (((hn2.set hgp).set hgp).set hgp).set hgp)
                have HH2 := Lib.hid (hh2.same (w' := ((((wy.setCell ⟨g1, k * 4, none⟩ (.float .f32 (lvM a b c d zs ss (k + 1)).1)).setCell ⟨g1, k * 4 + 1, none⟩ (.float .f32 (lvM a b c d zs ss (k + 1)).2)).setCell ⟨g1, k * 4 + 2, none⟩ (.float .f32 c)).setCell ⟨g1, k * 4 + 3, none⟩ (.float .f32 d))) (by
                  rw [Below.heap_setCell _ _ _ _ (Ne.symm hg12), Below.heap_setCell _ _ _ _ (Ne.symm hg12), Below.heap_setCell _ _ _ _ (Ne.symm hg12), Below.heap_setCell _ _ _ _ (Ne.symm hg12)]))
                have HB2 := Lib.hid ((((hbel1.out.setCell (p := ⟨g1, k * 4, none⟩) (by show w.heap.size ≤ g1; omega) (.float .f32 (lvM a b c d zs ss (k + 1)).1)).setCell (p := ⟨g1, k * 4 + 1, none⟩) (by show w.heap.size ≤ g1; omega) (.float .f32 (lvM a b c d zs ss (k + 1)).2)).setCell (p := ⟨g1, k * 4 + 2, none⟩) (by show w.heap.size ≤ g1; omega) (.float .f32 c)).setCell (p := ⟨g1, k * 4 + 3, none⟩) (by show w.heap.size ≤ g1; omega) (.float .f32 d))
                have HSt3 := Lib.hid (show Md4 g1 len2 (k + 1) (lvF a b c d zs ss) ((((wy.setCell ⟨g1, k * 4, none⟩ (.float .f32 (lvM a b c d zs ss (k + 1)).1)).setCell ⟨g1, k * 4 + 1, none⟩ (.float .f32 (lvM a b c d zs ss (k + 1)).2)).setCell ⟨g1, k * 4 + 2, none⟩ (.float .f32 c)).setCell ⟨g1, k * 4 + 3, none⟩ (.float .f32 d)) from HSt2.out)
                have HRn := Lib.hid (show rs ++ [lvQ a b c d zs ss k] = tells (lvQ a b c d zs ss) (k + 1) by rw [tells_succ, hrs.out])
                have HLn := Lib.hid (show (rs ++ [lvQ a b c d zs ss k]).length = k + 1 by rw [List.length_append, hrl.out]; rfl)
                clear hO hn2 hh2 hnh hmd1 hbel1 hok hrs hrl HSt2 hHr
                go_wp2
                go_roundw
                case rel => exact ⟨k + 1, _, by omega, by go_num, HLn, HN2, HSt3, HH2, HRn, HOk, HB2⟩
                case measure => simp [intOf]; omega
          · have e : k = len2 := by omega
            have HT := Lib.hid (show lvAll a b c d zs ss = true from by rw [HAl.out, ← e]; exact hok.out)
            have HMd := Lib.hid (show Md4 g1 len2 len2 (lvF a b c d zs ss) wr from by rw [e] at hmd; exact hmd.out)
            have HFs := Lib.hid (show FSl wr (some ⟨g2, 0, none⟩) len2 (tells (lvQ a b c d zs ss) len2) from by
              have := (hhd.out.own (by rw [hrl.out]; exact e) (Nat.le_refl _) (by unfold maxLen; omega)).sl
              obtain ⟨A, cp, e1, h2, _⟩ := this
              injection e1 with e1 _ _
              subst e1
              rw [hrs.out, tells_len, e] at h2
              exact h2)
            have HLz := Lib.hid HL.out
            clear e hmd hhd hrs hok hnx hrl
            go_wp2
            go_ret3
            refine ⟨_, _, by rw [HT.out]; rfl, hbel.out, fun _ => ⟨g1, g2, by rw [HLz.out]; rfl, by rw [HLz.out]; rfl, ?_, ?_⟩, fun hh => absurd hh (by rw [HT.out]; simp)⟩
            · rw [HLz.out]; exact HMd.out
            · rw [HLz.out]; exact HFs.out
    · have hne : ((len2 : Int) != (len : Int)) = true := by rw [bne_iff_ne]; omega
      have HB := Lib.hid (show lvAll a b c d zs ss = false by unfold lvAll lvPre; rw [hs, HL.out, HL2.out, decide_eq_false he]; rfl)
      clear hs
      go_enter Try.func84, Try.ntmps84
      go_wp2_with (go_at_call 67; refine (implSeries_any _ _ _ _ _ H.out hm).mono ?_; rw [HS.out]; rintro e w' ⟨m, rfl, rfl⟩)
      go_ret3
      exact ⟨_, _, by rw [HB.out]; rfl, below_drewN HB0.out _, fun hh => absurd hh (by rw [HB.out]; simp), fun _ => ⟨rfl, rfl⟩⟩
end Go.Proofs.Ytldaamgohdnjnaa

/-
  LevelRun of the program.
-/
namespace Go.Proofs.Ytldaamgohdnjnaa
open Ieee Go.RowKit
set_option linter.unusedVariables false

theorem results_t4 {fn : Func} {t u v z : Tmp} (h : fn.results = #[.tmp t, .tmp u, .tmp v, .tmp z]) (tmps : Array Value) (P : Program) (w : World) :
    (results fn tmps).run P w = .ok (.tuple #[tmps.getD t undef, tmps.getD u undef, tmps.getD v undef, tmps.getD z undef]) w := by
  simp [results, h]
theorem okn_t {ok : Nat → Bool} {n : Nat} (h : okn ok n = true) : ∀ k, k < n → ok k = true := fun k hk => List.all_eq_true.1 h k (by simpa using hk)
section
variable (a b c d : Nat) (zs : List Nat) (ss : List Bool)
def lrT0 (j : Nat) : Nat := (lvM a b c d zs ss (j + 1)).1
def lrT1 (j : Nat) : Nat := (lvM a b c d zs ss (j + 1)).2
def lrS : Nat := sum32 (tells (lvQ a b c d zs ss) zs.length)
def lrB : Bool := lvAll a b c d zs ss && fin .f32 (lrS a b c d zs ss)
def lrX0 : List Nat := if lrB a b c d zs ss then tells (lrT0 a b c d zs ss) zs.length else []
def lrX1 : List Nat := if lrB a b c d zs ss then tells (lrT1 a b c d zs ss) zs.length else []
def lrV : Nat := if lrB a b c d zs ss then lrS a b c d zs ss else 0
end
section
variable {a b c d : Nat} {zs : List Nat} {ss : List Bool}
theorem lr_bad (h : lrB a b c d zs ss = false) : lrX0 a b c d zs ss = [] ∧ lrX1 a b c d zs ss = [] ∧ lrV a b c d zs ss = 0 ∧ lrB a b c d zs ss = false := ⟨by unfold lrX0; rw [h]; rfl, by unfold lrX1; rw [h]; rfl, by unfold lrV; rw [h]; rfl, h⟩
theorem lr_good (h : lrB a b c d zs ss = true) : lrX0 a b c d zs ss = tells (lrT0 a b c d zs ss) zs.length ∧ lrX1 a b c d zs ss = tells (lrT1 a b c d zs ss) zs.length ∧ lrV a b c d zs ss = lrS a b c d zs ss := ⟨by unfold lrX0; rw [h]; rfl, by unfold lrX1; rw [h]; rfl, by unfold lrV; rw [h]; rfl⟩
theorem lv_ser (h : lvAll a b c d zs ss = true) : 1 ≤ zs.length ∧ zs.length ≤ 96 ∧ okn (lvO a b c d zs ss) zs.length = true := by
  unfold lvAll lvPre at h
  have h1 := (Bool.and_eq_true _ _ ▸ h).1
  have h2 := (Bool.and_eq_true _ _ ▸ h1).1
  exact ⟨(serB_t h2).1, (serB_t h2).2.1, (Bool.and_eq_true _ _ ▸ h).2⟩
theorem lv_fins (h : lvAll a b c d zs ss = true) : fins (tells (lrT0 a b c d zs ss) zs.length) = true ∧ fins (tells (lrT1 a b c d zs ss) zs.length) = true ∧ fins (tells (lvQ a b c d zs ss) zs.length) = true := by
  have ho := okn_t (lv_ser h).2.2
  have key : ∀ t : Nat → Nat, (∀ k, k < zs.length → fin .f32 (t k) = true) → fins (tells t zs.length) = true := fun t ht => by
    unfold fins tells
    rw [List.all_map, List.all_eq_true]
    exact fun k hk => ht k (by simpa using hk)
  exact ⟨key _ fun k hk => (lsB_t (ho k hk)).1, key _ fun k hk => (lsB_t (ho k hk)).2.1, key _ fun k hk => (lsB_t (ho k hk)).2.2.2.2⟩
theorem lrX0_len : (lrX0 a b c d zs ss).length ≤ 1048576 := by
  unfold lrX0
  split
  · rename_i h
    unfold lrB at h
    have := (lv_ser (Bool.and_eq_true _ _ ▸ h).1).2.1
    rw [tells_len]; omega
  · simp
theorem lrX1_len : (lrX1 a b c d zs ss).length ≤ 1048576 := by
  unfold lrX1
  split
  · rename_i h
    unfold lrB at h
    have := (lv_ser (Bool.and_eq_true _ _ ▸ h).1).2.1
    rw [tells_len]; omega
  · simp
end
/-- Two lists, a number and a bool. -/
def RetL2F (T : TypeId) (xs0 xs1 : List Nat) (x : Nat) (ok : Bool) (w : World) (e : Ending) (w' : World) : Prop :=
  ∃ v0 r0 v1 r1 s, e = .returned (.tuple #[v0, v1, .float .f32 s, .bool ok]) ∧ (FOwn T w.heap.size w' v0 r0 ∧ FOwn T w.heap.size w' v1 r1) ∧ (cnl r0 = xs0 ∧ cnl r1 = xs1) ∧ cn .f32 s = x ∧ Apt v0 v1 ∧ Below w.heap.size w w'
theorem fail_l2f (T : TypeId) {xs0 xs1 : List Nat} {x : Nat} {ok : Bool} (hok : ok = false) (h0 : xs0 = []) (h1 : xs1 = []) (hx : x = 0) {w w' : World} (hb : Below w.heap.size w w') : RetL2F T xs0 xs1 x ok w (.returned (.tuple #[.slice none 0 0, .slice none 0 0, .float .f32 0, .bool false])) w' :=
  ⟨_, [], _, [], 0, by rw [hok], ⟨FOwn.nil .., FOwn.nil ..⟩, ⟨h0.symm, h1.symm⟩, by rw [hx]; exact cn_zero, apt_nil _, hb⟩
theorem RetL2F.res {T : TypeId} {X0 X1 x0 x1 : List Nat} {y0 y1 z : Nat} {ok : Bool} {w : World} {e : Ending} {w' : World} (h : RetL2F T X0 X1 z ok w e w') (hx0 : X0 = x0) (hy0 : x0.length = y0) (hx1 : X1 = x1) (hy1 : x1.length = y1) :
    ∃ A0 c0 d0 r0 A1 c1 d1 r1 s, e = .returned (.tuple #[.slice A0 y0 c0, .slice A1 y1 c1, .float .f32 s, .bool ok]) ∧ (Held w' A0 d0 y0 r0 ∧ cnl r0 = x0 ∧ w.heap.size ≤ d0) ∧ (Held w' A1 d1 y1 r1 ∧ cnl r1 = x1 ∧ w.heap.size ≤ d1) ∧ cn .f32 s = z ∧
      ((0 < y0 → d0 ≠ d1) ∧ (0 < y1 → d1 ≠ d0)) ∧ Below w.heap.size w w' := by
  obtain ⟨v0, r0, v1, r1, s, rfl, h1, h2, h3, h4, hb⟩ := h
  obtain ⟨A0, c0, d0, r0', A1, c1, d1, r1', e1, g1, g2, g3, g4⟩ := RetL2.res (ok := ok) ⟨v0, r0, v1, r1, rfl, h1, h2, h4, hb⟩ hx0 hy0 hx1 hy1
  injection e1 with e1
  injection e1 with e1
  have e2 := congrArg (fun a : Array Value => a.toList) e1
  simp only [List.cons.injEq] at e2
  obtain ⟨rfl, rfl, _⟩ := e2
  exact ⟨A0, c0, d0, r0', A1, c1, d1, r1', s, rfl, g1, g2, h3, g3, g4⟩
/-- What the closures of LevelRun read. -/
def LrI (bl g n : Nat) (f : Nat → Nat → Nat) (_k : Nat) (wr : World) : Prop := wr.cell? ⟨bl, 0, none⟩ = some (.slice (some ⟨g, 0, none⟩) n n) ∧ Md4 g n n f wr
theorem LrI.keep {bl g n B k : Nat} {f : Nat → Nat → Nat} {wr wr' : World} (h : LrI bl g n f k wr) (h1 : bl < B) (h2 : g < B) (hb : Below B wr wr') : LrI bl g n f k wr' :=
  ⟨by rw [hb.cell (p := ⟨bl, 0, none⟩) h1]; exact h.1, h.2.same hb.size (hb.block g h2)⟩
theorem lr1_any (bl g n B0 B k : Nat) (f : Nat → Nat → Nat) (wr : World) (h : LrI bl g n f k wr) (hk : k < n) (hn : n ≤ 96) (hc : cn .f32 (f k 0) = f k 0) :
    Calls Try.prog 88 #[.int .i64 k, .pointer (some ⟨bl, 0, none⟩)] wr (Tells (fun j => f j 0) (LrI bl g n f) B0 B k wr) := by
  have HI := Lib.hid h
  have h1 := h.1
  have h2 := h.2.set_ k hk 0 (by omega)
  rw [Nat.add_zero] at h2
  have HC := Lib.hid hc
  clear h hc
  generalize hx : f k 0 = x at *
  have HX := Lib.hid hx
  clear hx
  go_enter Try.func88, Try.ntmps88
  go_wp2
  go_ret
  exact ⟨_, rfl, by show cn .f32 x = f k 0; rw [HX.out]; exact HC.out, HI.out, Below.refl _ _, rfl⟩
theorem lr2_any (bl g n B0 B k : Nat) (f : Nat → Nat → Nat) (wr : World) (h : LrI bl g n f k wr) (hk : k < n) (hn : n ≤ 96) (hc : cn .f32 (f k 1) = f k 1) :
    Calls Try.prog 89 #[.int .i64 k, .pointer (some ⟨bl, 0, none⟩)] wr (Tells (fun j => f j 1) (LrI bl g n f) B0 B k wr) := by
  have HI := Lib.hid h
  have h1 := h.1
  have h2 := h.2.set_ k hk 1 (by omega)
  have HC := Lib.hid hc
  clear h hc
  generalize hx : f k 1 = x at *
  have HX := Lib.hid hx
  clear hx
  go_enter Try.func89, Try.ntmps89
  go_wp2
  go_ret
  exact ⟨_, rfl, by show cn .f32 x = f k 1; rw [HX.out]; exact HC.out, HI.out, Below.refl _ _, rfl⟩
theorem LrI.drewN {bl g n k : Nat} {f : Nat → Nat → Nat} {wr : World} (h : LrI bl g n f k wr) (m : Nat) : LrI bl g n f k (wr.drewN m) := ⟨h.1, h.2.same (Nat.le_refl _) rfl⟩
theorem LrI.start {w1 w2 : World} {g n bl : Nat} {f : Nat → Nat → Nat} (h : Md4 g n n f w1) (hb : Below w1.heap.size w1 w2) (hc : w2.cell? ⟨bl, 0, none⟩ = some (.slice (some ⟨g, 0, none⟩) n n)) : LrI bl g n f 0 w2 :=
  ⟨hc, h.same hb.size (hb.block g h.lt)⟩
set_option maxHeartbeats 4000000 in
set_option maxRecDepth 100000 in
theorem imLr_any (a b c d : Nat) (a1 : Option Addr) (len cap : Nat) (zs : List Nat) (a2 : Option Addr) (len2 cap2 : Nat) (ss : List Bool) (w : World) (h : FSl w a1 len zs) (h2 : BSl w a2 len2 ss) (hm : len ≤ 1048576) (hm2 : len2 ≤ 1048576) :
    Calls Try.prog 29 #[.agg #[.float .f32 a, .float .f32 b, .float .f32 c, .float .f32 d], .slice a1 len cap, .slice a2 len2 cap2] w (RetL2F 32 (lrX0 a b c d zs ss) (lrX1 a b c d zs ss) (lrV a b c d zs ss) (lrB a b c d zs ss) w) := by
  have hmf : ∀ (fn : Fn) (first cap : Array Value) (w : World), (Instr.makeFunc fn first cap).run Try.prog w = .ok (.func fn first cap) w := fun _ _ _ _ => rfl
  have HL := Lib.hid h.1
  have hb0 := (Below.refl w.heap.size w).alloc (Nat.le_refl _) (.cells #[.float .f32 a, .float .f32 b, .float .f32 c, .float .f32 d] 41)
  have HB0 := Lib.hid hb0
  have H := Lib.hid (FSl.below h hb0)
  have H2 := Lib.hid (BSl.below h2 hb0)
  have HBx := Lib.hid (NumsIn.new w [a, b, c, d] 41)
  obtain ⟨x0, x1, x2, x3⟩ := HBx.out.c4
  clear h h2 hb0
  cases hA : lvAll a b c d zs ss
  · have HA := Lib.hid hA
    have HB := Lib.hid (lr_bad (show lrB a b c d zs ss = false by unfold lrB; rw [hA]; rfl))
    clear hA
    go_enter Try.func29, Try.ntmps29
    go_wp2_with fail
    refine (bhL_any _ _ _ _ _ _ _ _ _ _ _ _ _ H.out H2.out hm hm2).mono ?_
    rintro e w1 ⟨v0, v1, rfl, hb, _, hv⟩
    rw [HA.out]
    obtain ⟨rfl, rfl⟩ := hv HA.out
    have HBl := Lib.hid (HB0.out.trans (hb.mono (by simp)))
    clear hb hv
    go_wp2
    (try simp only [Exit.inBlock, Exit.then])
    refine bodyPost_ret (results_t4 rfl _ _ _) rfl ?_
    exact fail_l2f _ HB.out.2.2.2 HB.out.1 HB.out.2.1 HB.out.2.2.1 (HBl.out.alloc (by have := HBl.out.size; simpa using this) _)
  · have HA := Lib.hid hA
    have HF := Lib.hid (lv_fins hA)
    have hl := lv_ser hA
    rw [HL.out] at hl
    have hl1 := hl.1
    have hl96 := hl.2.1
    have HO := Lib.hid (okn_t hl.2.2)
    have hS := show lrB a b c d zs ss = fin .f32 (lrS a b c d zs ss) by unfold lrB; rw [hA]; rfl
    have HSb := Lib.hid hS
    have HLz := Lib.hid HL.out
    clear hA hl hS
    go_enter Try.func29, Try.ntmps29
    go_wp2_with fail
    refine (bhL_any _ _ _ _ _ _ _ _ _ _ _ _ _ H.out H2.out hm hm2).mono ?_
    rintro e w1 ⟨v0, v1, rfl, hb, hg, _⟩
    rw [HA.out]
    obtain ⟨g1, g2, rfl, rfl, hmd, hfs⟩ := hg HA.out
    rw [HLz.out] at hmd hfs ⊢
    have HBl := Lib.hid (HB0.out.trans (hb.mono (by simp)))
    have hws := HBl.out.size
    have HMd := Lib.hid hmd
    have HA1 := Lib.hid ((Below.refl w1.heap.size w1).alloc (Nat.le_refl _) (.cells #[.slice (some ⟨g1, 0, none⟩) len len] 109))
    have HFs := Lib.hid (FSl.below hfs HA1.out)
    have HI0 := Lib.hid (show LrI w1.heap.size g1 len (lvF a b c d zs ss) 0 (w1.alloc (.cells #[.slice (some ⟨g1, 0, none⟩) len len] 109)) from LrI.start hmd HA1.out (by rw [World.cell?_alloc_at _ _ _ _ rfl]; rfl))
    have hgl := hmd.lt
    clear hb hg hmd hfs
    go_wp2_with fail
    refine (implSumNumbers_any _ _ _ _ _ HFs.out (by omega)).mono ?_
    rw [if_pos (by omega), decide_eq_true (by omega)]
    rintro e w' ⟨s, m, hs, rfl, rfl⟩
    have HS := Lib.hid (show cn .f32 s = lrS a b c d zs ss from by rw [hs]; unfold lrS; rw [HLz.out])
    clear hs
    cases hf : fin .f32 (lrS a b c d zs ss)
    · have HB := Lib.hid (lr_bad (HSb.out.trans hf))
      have HFi := Lib.hid (show fin .f32 s = false from (fin_congr (HS.out.trans (by rw [← HS.out, cn_cn]))).trans hf)
      clear hf
      go_wp2_with fail
      refine (isFinite_any _ _).mono ?_
      rw [HFi.out]
      rintro e w' ⟨m2, rfl, rfl⟩
      go_wp2
      (try simp only [Exit.inBlock, Exit.then])
      refine bodyPost_ret (results_t4 rfl _ _ _) rfl ?_
      exact fail_l2f _ HB.out.2.2.2 HB.out.1 HB.out.2.1 HB.out.2.2.1 (below_drewN (HBl.out.trans (HA1.out.mono hws)) _)
    · have HB := Lib.hid (HSb.out.trans hf)
      have HG := Lib.hid (lr_good (HSb.out.trans hf))
      have HFi := Lib.hid (show fin .f32 s = true from (fin_congr (HS.out.trans (by rw [← HS.out, cn_cn]))).trans hf)
      clear hf
      go_wp2_with fail
      refine (isFinite_any _ _).mono ?_
      rw [HFi.out]
      rintro e w' ⟨m2, rfl, rfl⟩
      go_wp2_with fail
      have HC0 := Lib.hid (show ∀ k, k < len → cn .f32 (lvF a b c d zs ss k 0) = lvF a b c d zs ss k 0 from fun k hk => cn_num (by
        have h1 := (lsB_t (HO.out k hk)).1
        have e : lvF a b c d zs ss k 0 = sM (ss.getD k false) (lvM a b c d zs ss k).1 (lvM a b c d zs ss k).2 c d (zs.getD k 0) := rfl
        rw [e]
        unfold fin at h1
        cases hn : isN .f32 (sM (ss.getD k false) (lvM a b c d zs ss k).1 (lvM a b c d zs ss k).2 c d (zs.getD k 0))
        · rfl
        · rw [hn] at h1; cases h1))
      have HC1 := Lib.hid (show ∀ k, k < len → cn .f32 (lvF a b c d zs ss k 1) = lvF a b c d zs ss k 1 from fun k hk => cn_num (by
        have h1 := (lsB_t (HO.out k hk)).2.1
        have e : lvF a b c d zs ss k 1 = sP (ss.getD k false) (lvM a b c d zs ss k).2 c d := rfl
        rw [e]
        unfold fin at h1
        cases hn : isN .f32 (sP (ss.getD k false) (lvM a b c d zs ss k).2 c d)
        · rfl
        · rw [hn] at h1; cases h1))
      have HA2 := Lib.hid (fun q => below_drewN HA1.out q)
      have HX0 := Lib.hid (HG.out.1)
      have HX1 := Lib.hid (HG.out.2.1)
      have HX2 := Lib.hid (HG.out.2.2)
      refine (places_any 88 #[.pointer (some ⟨w1.heap.size, 0, none⟩)] (fun j => lvF a b c d zs ss j 0) (LrI w1.heap.size g1 len (lvF a b c d zs ss)) (w1.heap.size + 1) len _ (enter_of Try.func88 rfl rfl) (by omega) (by simp) (HI0.out.drewN _) (fun k wr wr' h hb => h.keep (by simp) (by simp; omega) hb)
        (fun k wr hk hlt h => lr1_any _ _ _ _ _ _ _ _ h hk hl96 (HC0.out k hk))).mono ?_
      rintro e w2 ⟨u0, r0, rfl, ho0, hx0, hb2⟩
      have hft : fins (tells (fun j => lvF a b c d zs ss j 0) len) = true := by rw [← HLz.out]; exact HF.out.1
      have HI2 := Lib.hid (show LrI w1.heap.size g1 len (lvF a b c d zs ss) 0 w2 from (HI0.out.drewN (m + m2)).keep (by omega) (by omega) hb2)
      have hw12 : w1.heap.size + 1 ≤ w2.heap.size := by have := hb2.size; simpa using this
      have HB2 := Lib.hid (HBl.out.trans (((HA2.out (m + m2)).mono hws).trans (hb2.mono (by omega))))
      have HO0 := Lib.hid (ho0.mono (show w.heap.size ≤ _ by simp; omega))
      have HC2 := Lib.hid (show cnl r0 = lrX0 a b c d zs ss from by
        rw [HX0.out, hx0]
        unfold lstR
        rw [hft, HLz.out]; rfl)
      rw [hft]
      clear hx0 hb2 hft ho0
      go_wp2_with fail
      refine (places_any 89 #[.pointer (some ⟨w1.heap.size, 0, none⟩)] (fun j => lvF a b c d zs ss j 1) (LrI w1.heap.size g1 len (lvF a b c d zs ss)) w2.heap.size len _ (enter_of Try.func89 rfl rfl) (by omega) (Nat.le_refl _) HI2.out (fun k wr wr' h hb => h.keep (by omega) (by omega) hb)
        (fun k wr hk hlt h => lr2_any _ _ _ _ _ _ _ _ h hk hl96 (HC1.out k hk))).mono ?_
      rintro e w3 ⟨u1, r1, rfl, ho1, hx1, hb3⟩
      have hft : fins (tells (fun j => lvF a b c d zs ss j 1) len) = true := by rw [← HLz.out]; exact HF.out.2.1
      have HC3 := Lib.hid (show cnl r1 = lrX1 a b c d zs ss from by
        rw [HX1.out, hx1]
        unfold lstR
        rw [hft, HLz.out]; rfl)
      have HO1 := Lib.hid (ho1.mono (show w.heap.size ≤ w2.heap.size by omega))
      have HO0' := Lib.hid (FOwn.keepS HO0.out hb3)
      have HAp := Lib.hid (show Apt u0 u1 from fun b e0 e1 => by have h1 := (HO0.out.lt b e0).2; have h2 := (ho1.lt b e1).1; omega)
      have HB3 := Lib.hid (HB2.out.trans (hb3.mono (by omega)))
      rw [hft]
      clear hx1 hb3 hft ho1
      go_wp2
      (try simp only [Exit.inBlock, Exit.then])
      refine bodyPost_ret (results_t4 rfl _ _ _) rfl ?_
      exact ⟨u0, r0, u1, r1, s, by rw [HB.out]; rfl, ⟨HO0'.out, HO1.out⟩, ⟨HC2.out, HC3.out⟩, HS.out.trans HX2.out.symm, HAp.out, HB3.out⟩
end Go.Proofs.Ytldaamgohdnjnaa

/-
  LevelRun of the model.
-/
namespace Go.Proofs.Ytldaamgohdnjnaa
open Ieee Go.RowKit
set_option linter.unusedVariables false

theorem seen_any (a1 : Option Addr) (len cap : Nat) (zs : List Nat) (a2 : Option Addr) (len2 cap2 : Nat) (ss : List Bool) (w : World) (h : FSl w a1 len zs) (h2 : BSl w a2 len2 ss) (hm : len ≤ 1048576) :
    Calls Try.prog 82 #[.slice a1 len cap, .slice a2 len2 cap2] w (RetV (.bool (lvPre zs ss)) w) := by
  have H := Lib.hid h
  have HL := Lib.hid h.1
  have HL2 := Lib.hid h2.1
  clear h h2
  cases hs : serB zs
  · have HS := Lib.hid hs
    have HB := Lib.hid (show lvPre zs ss = false by unfold lvPre; rw [hs]; rfl)
    clear hs
    go_enter Try.func82, Try.ntmps82
    go_wp2_with (go_at_call 64; refine (specSeries_any _ _ _ _ _ H.out hm).mono ?_; rw [HS.out]; rintro e w' ⟨m, rfl, rfl⟩)
    go_ret
    exact ⟨_, congrArg (fun b => Ending.returned (Value.bool b)) HB.out.symm, rfl⟩
  · have HS := Lib.hid hs
    have HB := Lib.hid (show lvPre zs ss = ((len2 : Int) == (len : Int)) from by
      unfold lvPre; rw [hs, HL.out, HL2.out]
      by_cases he : len2 = len
      · subst he; simp
      · have : ((len2 : Int) == (len : Int)) = false := by rw [beq_eq_false_iff_ne]; omega
        rw [this, decide_eq_false he]; rfl)
    clear hs
    go_enter Try.func82, Try.ntmps82
    go_wp2_with (go_at_call 64; refine (specSeries_any _ _ _ _ _ H.out hm).mono ?_; rw [HS.out]; rintro e w' ⟨m, rfl, rfl⟩)
    go_ret
    exact ⟨_, congrArg (fun b => Ending.returned (Value.bool b)) HB.out.symm, rfl⟩
theorem lv_bad_pre {a b c d : Nat} {zs : List Nat} {ss : List Bool} (h : lvPre zs ss = false) : lrB a b c d zs ss = false := by unfold lrB lvAll; rw [h]; rfl
theorem lsB_lv {s : Bool} {a b c d x : Nat} (h : lsB s a b c d x = true) : lvB a b c d = true := by
  unfold lsB lsB0 at h
  have h1 := (Bool.and_eq_true _ _ ▸ h).1
  exact (Bool.and_eq_true _ _ ▸ h1).1
theorem lv_bad_lv {a b c d : Nat} {zs : List Nat} {ss : List Bool} (h : lvB a b c d = false) : lrB a b c d zs ss = false := by
  unfold lrB
  cases hA : lvAll a b c d zs ss
  · rfl
  · have h2 := okn_t (lv_ser hA).2.2 0 (by have := (lv_ser hA).1; omega)
    have h3 := lsB_lv h2
    rw [show (lvM a b c d zs ss 0).1 = a from rfl, show (lvM a b c d zs ss 0).2 = b from rfl, h] at h3
    cases h3
theorem apt_sw {T : TypeId} {B : Nat} {w w' : World} {v v' : Value} {rs : List Nat} {o : Obj} (h : FOwn T B w v' rs) (ha : Apt v v') (hg : (w.alloc o).grownBy w' v.ownBlock) : FOwn T B w' v' rs := by
  refine World.ownsRow.kept (World.ownsRow.alloc h o) hg ?_
  cases hv : v'.ownBlock with
  | none => exact .inl rfl
  | some b => exact .inr fun e => ha b e.symm hv
theorem apt_swL {T : TypeId} {B : Nat} {w w' : World} {v v' : Value} {rs : List Nat} {o : Obj} (h : FOwn T B w v rs) (ha : Apt v v') (hg : (w.alloc o).grownBy w' v'.ownBlock) : FOwn T B w' v rs := by
  refine World.ownsRow.kept (World.ownsRow.alloc h o) hg ?_
  cases hv : v.ownBlock with
  | none => exact .inl rfl
  | some b => exact .inr fun e => ha b hv e.symm
/-- A struct of numbers in a block that is no row's own stays as it was. -/
theorem NumsIn.grown {w w' : World} {p n : Nat} {xs : List Nat} {row : Option Nat} {o : Obj} (h : NumsIn w p xs) (hg : ((w.drewN n).alloc o).grownBy w' row) (hne : some p ≠ row) : NumsIn w' p xs := by
  have hb : w'.heap[p]? = w.heap[p]? := by
    rw [hg.block p (by simp; have := h.lt; omega) hne]
    exact heap_alloc_old (w.drewN n) o h.lt
  have hs := hg.size
  refine ⟨by have := h.lt; simp at hs; omega, fun i hi => ⟨?_, ?_⟩⟩
  · rw [World.cell?_of_block (a := ⟨p, i, none⟩) hb]; exact (h.2 i hi).1
  · rw [World.frozen?_of_block (a := ⟨p, i, none⟩) hb]; exact (h.2 i hi).2
theorem cellFar {w : World} {b c i o : Nat} {u : Value} (h : c ≠ b) : (w.setCell ⟨b, i, none⟩ u).cell? ⟨c, o, none⟩ = w.cell? ⟨c, o, none⟩ :=
  World.cell?_setCell_other _ _ _ _ (by intro e; injection e with e1 _ _; exact h e1.symm)
theorem cellFar4 {w : World} {b c o : Nat} {u0 u1 u2 u3 : Value} (h : c ≠ b) : ((((w.setCell ⟨b, 0, none⟩ u0).setCell ⟨b, 1, none⟩ u1).setCell ⟨b, 2, none⟩ u2).setCell ⟨b, 3, none⟩ u3).cell? ⟨c, o, none⟩ = w.cell? ⟨c, o, none⟩ := by
  rw [cellFar h, cellFar h, cellFar h, cellFar h]
theorem FOwn.setp {T : TypeId} {B p i : Nat} {w : World} {v x : Value} {rs : List Nat} (h : FOwn T B w v rs) (hp : p < B) : FOwn T B (w.setCell ⟨p, i, none⟩ x) v rs := by
  refine ⟨h.1, ?_⟩
  rcases h.2 with h2 | ⟨g, cap, cur, rfl, h3, h4, h5⟩
  · exact .inl h2
  · exact .inr ⟨g, cap, cur, rfl, h3, by rw [Below.heap_setCell _ _ _ _ (by show g ≠ p; omega)]; exact h4, h5⟩
theorem FOwn.setne {T : TypeId} {B p i : Nat} {w : World} {v x : Value} {rs : List Nat} (h : FOwn T B w v rs) (hp : v.ownBlock ≠ some p) : FOwn T B (w.setCell ⟨p, i, none⟩ x) v rs := by
  refine ⟨h.1, ?_⟩
  rcases h.2 with h2 | ⟨g, cap, cur, rfl, h3, h4, h5⟩
  · exact .inl h2
  · exact .inr ⟨g, cap, cur, rfl, h3, by rw [Below.heap_setCell _ _ _ _ (by show g ≠ p; intro e; subst e; exact hp rfl)]; exact h4, h5⟩
theorem sum32_more (t : Nat → Nat) (k : Nat) : sum32 (tells t (k + 1)) = aop .add .f32 (sum32 (tells t k)) (cn .f32 (t k)) := by
  rw [tells_succ]; unfold sum32; rw [List.foldl_append]; rfl
set_option maxHeartbeats 4000000 in
set_option maxRecDepth 100000 in
theorem spLr_any (a b c d : Nat) (a1 : Option Addr) (len cap : Nat) (zs : List Nat) (a2 : Option Addr) (len2 cap2 : Nat) (ss : List Bool) (w : World) (h : FSl w a1 len zs) (h2 : BSl w a2 len2 ss) (hm : len ≤ 1048576) (hm2 : len2 ≤ 1048576) :
    Calls Try.prog 26 #[.agg #[.float .f32 a, .float .f32 b, .float .f32 c, .float .f32 d], .slice a1 len cap, .slice a2 len2 cap2] w (RetL2F 32 (lrX0 a b c d zs ss) (lrX1 a b c d zs ss) (lrV a b c d zs ss) (lrB a b c d zs ss) w) := by
  obtain ⟨i0, hi, hz0, hz1, hz2⟩ := info_parts Try.infoR
  have HL := Lib.hid h.1
  have HL2 := Lib.hid h2.1
  have hb0 := (Below.refl w.heap.size w).alloc (Nat.le_refl _) (.cells #[.float .f32 a, .float .f32 b, .float .f32 c, .float .f32 d] 41)
  have HB0 := Lib.hid hb0
  have H := Lib.hid (FSl.below h hb0)
  have H2 := Lib.hid (BSl.below h2 hb0)
  have HO := Lib.hid h
  have HO2 := Lib.hid h2
  have HBx := Lib.hid (NumsIn.new w [a, b, c, d] 41)
  clear h h2 hb0
  cases hv : lvB a b c d
  · have HV := Lib.hid hv
    have HB := Lib.hid (lr_bad (lv_bad_lv (zs := zs) (ss := ss) hv))
    clear hv
    go_enter Try.func26, Try.ntmps26
    go_wp2_with fail
    refine (splv_any _ _ _ _ _ _ HBx.out).mono ?_
    rw [HV.out]
    rintro e w' ⟨m, rfl, rfl⟩
    go_wp2
    (try simp only [Exit.inBlock, Exit.then])
    refine bodyPost_ret (results_t4 rfl _ _ _) rfl ?_
    exact fail_l2f _ HB.out.2.2.2 HB.out.1 HB.out.2.1 HB.out.2.2.1 (below_drewN HB0.out _)
  · have HV := Lib.hid hv
    cases hp : lvPre zs ss
    · have HP := Lib.hid hp
      have HB := Lib.hid (lr_bad (lv_bad_pre (a := a) (b := b) (c := c) (d := d) hp))
      clear hv hp
      go_enter Try.func26, Try.ntmps26
      go_wp2_with fail
      refine (splv_any _ _ _ _ _ _ HBx.out).mono ?_
      rw [HV.out]
      rintro e w' ⟨m, rfl, rfl⟩
      go_wp2_with fail
      refine (seen_any _ _ _ _ _ _ _ _ _ (FSl.drewN H.out m) (BSl.drewN H2.out m) hm).mono ?_
      rw [HP.out]
      rintro e w' ⟨m2, rfl, rfl⟩
      go_wp2
      (try simp only [Exit.inBlock, Exit.then])
      refine bodyPost_ret (results_t4 rfl _ _ _) rfl ?_
      exact fail_l2f _ HB.out.2.2.2 HB.out.1 HB.out.2.1 HB.out.2.2.1 (below_drewN HB0.out _)
    · have HP := Lib.hid hp
      have hser : serB zs = true ∧ len2 = len := by
        unfold lvPre at hp
        have e2 := of_decide_eq_true (Bool.and_eq_true _ _ ▸ hp).2
        rw [HL.out, HL2.out] at e2
        exact ⟨(Bool.and_eq_true _ _ ▸ hp).1, e2⟩
      obtain ⟨hs, rfl⟩ := hser
      have hl96 := (serB_t hs).2.1
      have hl1 := (serB_t hs).1
      rw [HL.out] at hl96 hl1
      have HAl := Lib.hid (show lvAll a b c d zs ss = okn (lvO a b c d zs ss) len2 from by unfold lvAll; rw [hp, HL.out]; rfl)
      have HNo := Lib.hid (fun k (hk : k < len2) (ho : lvO a b c d zs ss k = false) => lr_bad (a := a) (b := b) (c := c) (d := d) (zs := zs) (ss := ss) (by unfold lrB; rw [HAl.out, okn_bad hk ho]; rfl))
      have HOf := Lib.hid (fun (W : World) (hW : W.heap.size = w.heap.size + 1) (o : Obj) => (show FOwn 32 (w.heap.size + 1) ((W.alloc (.cells #[] 32)).alloc o) (.slice (some ⟨w.heap.size + 1, 0, none⟩) 0 0) [] from by
        have := (FOwn.made (T := 32) (B := w.heap.size + 1) W (by omega)).alloc o
        rwa [hW] at this))
      have HOg := Lib.hid (fun (W : World) (hW : W.heap.size = w.heap.size + 1) (o : Obj) => (show FOwn 32 (w.heap.size + 1) ((W.alloc o).alloc (.cells #[] 32)) (.slice (some ⟨w.heap.size + 1 + 1, 0, none⟩) 0 0) [] from by
        have := FOwn.made (T := 32) (B := w.heap.size + 1) (W.alloc o) (by simp; omega)
        rwa [show (W.alloc o).heap.size = w.heap.size + 1 + 1 by simp; omega] at this))
      have HAp0 := Lib.hid (show Apt (.slice (some ⟨w.heap.size + 1, 0, none⟩) 0 0) (.slice (some ⟨w.heap.size + 1 + 1, 0, none⟩) 0 0) from fun b e0 e1 => by simp [Value.ownBlock] at e0 e1; omega)
      clear hv hp hs
      go_enter Try.func26, Try.ntmps26
      go_wp2_with fail
      refine (splv_any _ _ _ _ _ _ HBx.out).mono ?_
      rw [HV.out]
      rintro e w' ⟨m, rfl, rfl⟩
      go_wp2_with fail
      refine (seen_any _ _ _ _ _ _ _ _ _ (FSl.drewN H.out m) (BSl.drewN H2.out m) hm).mono ?_
      rw [HP.out]
      rintro e w' ⟨m2, rfl, rfl⟩
      have HF0 := Lib.hid (HOf.out ((w.alloc (.cells #[.float .f32 a, .float .f32 b, .float .f32 c, .float .f32 d] 41)).drewN (m + m2)) (by simp) (.cells #[] 32))
      have HF1 := Lib.hid (HOg.out ((w.alloc (.cells #[.float .f32 a, .float .f32 b, .float .f32 c, .float .f32 d] 41)).drewN (m + m2)) (by simp) (.cells #[] 32))
      have HX0 := Lib.hid (((HBx.out.drewN (m + m2)).alloc (.cells #[] 32)).alloc (.cells #[] 32))
      have HB1 := Lib.hid (((below_drewN HB0.out (m + m2)).alloc (by simp) (.cells #[] 32)).alloc (by simp; omega) (.cells #[] 32))
      clear HOf HOg
      go_wp2
      go_loopw [10, 11, 12, 29] (fun v0 v1 v2 i wr => ∃ (k : Nat) (r0 r1 : List Nat) (s : Nat), k ≤ len2 ∧ i = .int .i64 k ∧ v2 = .float .f32 s ∧ Hid (r0.length = k ∧ r1.length = k) ∧ Hid (NumsIn wr w.heap.size [(lvM a b c d zs ss k).1, (lvM a b c d zs ss k).2, c, d]) ∧ Hid (FOwn 32 (w.heap.size + 1) wr v0 r0) ∧ Hid (FOwn 32 (w.heap.size + 1) wr v1 r1) ∧ Hid (Apt v0 v1) ∧ Hid (r0 = tells (lrT0 a b c d zs ss) k ∧ r1 = tells (lrT1 a b c d zs ss) k) ∧ Hid (cn .f32 s = sum32 (tells (lvQ a b c d zs ss) k)) ∧ Hid (okn (lvO a b c d zs ss) k = true) ∧ Hid (Below w.heap.size w wr) ∧ w.heap.size < wr.heap.size) (fun _ _ _ i _ => len2 - (intOf i).toNat)
      case atStart => exact ⟨0, [], [], 0, Nat.zero_le _, rfl, rfl, Lib.hid ⟨rfl, rfl⟩, HX0, HF0, HF1, HAp0, Lib.hid ⟨rfl, rfl⟩, Lib.hid cn_zero, Lib.hid rfl, HB1, by simp; omega⟩
      case round =>
        rename World => wr
        obtain ⟨k, r0, r1, s, hk, rfl, rfl, hll, hnx, ho0, ho1, hap, hrr, hs, hok, hbel, hszz⟩ := hrel
        by_cases hlt : k < len2
        · obtain ⟨b1, off1, rfl, hb1, hc1⟩ := HO.out.at (by omega)
          obtain ⟨b2, off2, rfl, hb2, hc2⟩ := HO2.out.at (by omega)
          have hck := hc1 k hlt
          have hcs := hc2 k hlt
          rw [← hbel.out.cell (p := ⟨b1, off1 + k, none⟩) hb1] at hck
          rw [← hbel.out.cell (p := ⟨b2, off2 + k, none⟩) hb2] at hcs
          have HSt := Lib.hid (show lvO a b c d zs ss k = lsB (ss.getD k false) (lvM a b c d zs ss k).1 (lvM a b c d zs ss k).2 c d (zs.getD k 0) ∧ lvQ a b c d zs ss k = sQ (ss.getD k false) (lvM a b c d zs ss k).1 (lvM a b c d zs ss k).2 c d (zs.getD k 0) ∧ (lvM a b c d zs ss (k + 1)).1 = sM (ss.getD k false) (lvM a b c d zs ss k).1 (lvM a b c d zs ss k).2 c d (zs.getD k 0) ∧ (lvM a b c d zs ss (k + 1)).2 = sP (ss.getD k false) (lvM a b c d zs ss k).2 c d from ⟨rfl, rfl, rfl, rfl⟩)
          generalize zs.getD k 0 = x at *
          generalize ss.getD k false = y at *
          obtain ⟨M, hM⟩ : ∃ M, (lvM a b c d zs ss k).1 = M := ⟨_, rfl⟩
          obtain ⟨P, hP⟩ : ∃ P, (lvM a b c d zs ss k).2 = P := ⟨_, rfl⟩
          rw [hM, hP] at hnx HSt
          have hb1w : b1 < wr.heap.size := by omega
          have hb2w : b2 < wr.heap.size := by omega
          clear hM hP hc1 hc2 hb1 hb2
          go_upto_region 9 with fail
          go_cut [14, 15, 16] (fun v14 v15 v16 wx => ∃ g u, v14 = .pointer (some ⟨g, 0, none⟩) ∧ v15 = .float .f32 u ∧ v16 = .bool (lvO a b c d zs ss k) ∧ Hid (lvO a b c d zs ss k = true → NumsIn wx g [(lvM a b c d zs ss (k + 1)).1, (lvM a b c d zs ss (k + 1)).2, c, d] ∧ u = lvQ a b c d zs ss k) ∧ g ≠ w.heap.size ∧ Hid (NumsIn wx w.heap.size [M, P, c, d]) ∧ Hid (FOwn 32 (w.heap.size + 1) wx u10 r0) ∧ Hid (FOwn 32 (w.heap.size + 1) wx u11 r1) ∧ Hid (Below w.heap.size w wx) ∧ w.heap.size < wx.heap.size)
          case first =>
            obtain ⟨x0, x1, x2, x3⟩ := hnx.out.c4
            have HN := Lib.hid hnx.out
            have HFa := Lib.hid ho0.out
            have HFb := Lib.hid ho1.out
            have HB := Lib.hid hbel.out
            clear hnx ho0 ho1 hbel hap hrr hs hok hll
            go_wp2_with fail
            go_region_held3 (fun w' => w'.cell? ⟨w.heap.size, 0, none⟩ = some (.float .f32 M) ∧ w'.cell? ⟨w.heap.size, 1, none⟩ = some (.float .f32 P) ∧ w'.cell? ⟨w.heap.size, 2, none⟩ = some (.float .f32 c) ∧ w'.cell? ⟨w.heap.size, 3, none⟩ = some (.float .f32 d) ∧ w'.cell? ⟨b1, off1 + k, none⟩ = some (.float .f32 x) ∧ w'.cell? ⟨b2, off2 + k, none⟩ = some (.bool y)) (first | exact ⟨k0, k1, k2, k3, k4, k5⟩ | go_keep | exact ⟨(cellFar4 (by omega)).trans k0, (cellFar4 (by omega)).trans k1, (cellFar4 (by omega)).trans k2, (cellFar4 (by omega)).trans k3, (cellFar4 (by omega)).trans k4, (cellFar4 (by omega)).trans k5⟩)
              ((go_at_call 83; refine (spLvs_any _ _ _ _ _ _ _).mono ?_; intro e w1 hR; obtain ⟨m1, p1, n1, q1, t1, rfl, hv, hb3⟩ := lsR_words hR; have hn1 : NumsIn w1 w.heap.size [M, P, c, d] := NumsIn.below (by first | exact HN.out | exact HN.out.drewN _ | exact (HN.out.drewN 1).alloc _ | exact HN.out.alloc _) hb3; obtain ⟨k0, k1, k2, k3⟩ := hn1.c4; have k4 : w1.cell? ⟨b1, off1 + k, none⟩ = some (.float .f32 x) := (hb3.cell (p := ⟨b1, off1 + k, none⟩) (by simp; omega)).trans (by go_simp; first | assumption | done); have k5 : w1.cell? ⟨b2, off2 + k, none⟩ = some (.bool y) := (hb3.cell (p := ⟨b2, off2 + k, none⟩) (by simp; omega)).trans (by go_simp; first | assumption | done); have hws : wr.heap.size ≤ w1.heap.size := Nat.le_trans (by simp) hb3.size; first | (have hz : NumsIn w1 wr.heap.size [0, 0, 0, 0] := NumsIn.below (by first | exact NumsIn.new _ [0, 0, 0, 0] _ | exact (NumsIn.new _ [0, 0, 0, 0] _).drew | exact (NumsIn.new _ [0, 0, 0, 0] _).drewN _) hb3; obtain ⟨y0, y1, y2, y3⟩ := hz.c4; obtain ⟨z0, z1, z2, z3⟩ := hz.f4) | skip))
            all_goals
              have HV := Lib.hid hv
              have hfa1 : FOwn 32 (w.heap.size + 1) w1 u10 r0 := by first | exact FOwn.keepS (HFa.out.drewN 1) hb3 | exact FOwn.keepS ((HFa.out.alloc _).drewN 1) hb3
              have hfb1 : FOwn 32 (w.heap.size + 1) w1 u11 r1 := by first | exact FOwn.keepS (HFb.out.drewN 1) hb3 | exact FOwn.keepS ((HFb.out.alloc _).drewN 1) hb3
              have hbw1 : Below w.heap.size w w1 := by first | exact (below_drewN HB.out 1).trans (hb3.mono (by exact HB.out.size)) | exact (below_drewN (HB.out.alloc (Nat.le_of_lt hszz) _) 1).trans (hb3.mono (by simp; omega))
              have key : ∀ (wx : World) (g : Nat), NumsIn wx g [m1, p1, n1, q1] → lvO a b c d zs ss k = true → NumsIn wx g [(lvM a b c d zs ss (k + 1)).1, (lvM a b c d zs ss (k + 1)).2, c, d] ∧ t1 = lvQ a b c d zs ss k := fun wx g hh hO => by
                rw [HSt.out.1] at hO
                obtain ⟨e1, e2, e3, e4, e5⟩ := HV.out hO
                rw [HSt.out.2.1, HSt.out.2.2.1, HSt.out.2.2.2, ← e1, ← e2, ← e5]
                refine ⟨?_, rfl⟩
                rw [e3, e4] at hh
                exact hh
              have HK := Lib.hid key
              have hna : u10.ownBlock ≠ some wr.heap.size := fun e => by have := (HFa.out.lt _ e).2; omega
              have hnb : u11.ownBlock ≠ some wr.heap.size := fun e => by have := (HFb.out.lt _ e).2; omega
              have hpw : w.heap.size ≠ wr.heap.size := by omega
              have Hn1 := Lib.hid hn1
              have Ha := Lib.hid hfa1
              have Hb := Lib.hid hfb1
              have Hw := Lib.hid hbw1
              have Hna := Lib.hid (And.intro hna hnb)
              first
                | (have Hz := Lib.hid (show NumsIn ((((w1.setCell ⟨wr.heap.size, 0, none⟩ (.float .f32 m1)).setCell ⟨wr.heap.size, 1, none⟩ (.float .f32 p1)).setCell ⟨wr.heap.size, 2, none⟩ (.float .f32 n1)).setCell ⟨wr.heap.size, 3, none⟩ (.float .f32 q1)) wr.heap.size [m1, p1, n1, q1] from (((hz.put (i := 0) (by simp) m1).put (i := 1) (by simp) p1).put (i := 2) (by simp) n1).put (i := 3) (by simp) q1); clear hz y0 y1 y2 y3 z0 z1 z2 z3)
                | skip
              clear key hna hnb hn1 hfa1 hfb1 hbw1 hv hR hb3 k0 k1 k2 k3 k4 k5 x0 x1 x2 x3 HN HFa HFb HB
              go_wp2_with fail
              go_meet
              case rel => first
                | exact ⟨_, _, rfl, rfl, by rw [HSt.out.1], Lib.hid (HK.out _ _ (NumsIn.new w1 [m1, p1, n1, q1] _)), by omega, Lib.hid (Hn1.out.alloc _), Lib.hid (Ha.out.alloc _), Lib.hid (Hb.out.alloc _), Lib.hid (Hw.out.alloc (by omega) _), by simp; omega⟩
                | exact ⟨_, _, rfl, rfl, by rw [HSt.out.1], Lib.hid (HK.out _ _ Hz.out), by omega, Lib.hid ((((Hn1.out.set hpw).set hpw).set hpw).set hpw), Lib.hid ((((Ha.out.setne Hna.out.1).setne Hna.out.1).setne Hna.out.1).setne Hna.out.1), Lib.hid ((((Hb.out.setne Hna.out.2).setne Hna.out.2).setne Hna.out.2).setne Hna.out.2), Lib.hid ((((Hw.out.setCell (p := ⟨wr.heap.size, 0, none⟩) (by show w.heap.size ≤ wr.heap.size; omega) _).setCell (p := ⟨wr.heap.size, 1, none⟩) (by show w.heap.size ≤ wr.heap.size; omega) _).setCell (p := ⟨wr.heap.size, 2, none⟩) (by show w.heap.size ≤ wr.heap.size; omega) _).setCell (p := ⟨wr.heap.size, 3, none⟩) (by show w.heap.size ≤ wr.heap.size; omega) _), by simp [World.setCell]; omega⟩
          case rest =>
            obtain ⟨g, u, rfl, rfl, rfl, hnu, hgp, hnp, hfa, hfb, hbx, hszx⟩ := hcut
            clear hnx ho0 ho1 hbel
            rename World => wx
            cases hO : lvO a b c d zs ss k
            · have HB := Lib.hid (HNo.out k hlt hO)
              clear hO hnu hnp hfa hfb
              go_wp2
              (try simp only [Exit.inBlock, Exit.then])
              refine bodyPost_ret (results_t4 rfl _ _ _) rfl ?_
              exact fail_l2f _ HB.out.2.2.2 HB.out.1 HB.out.2.1 HB.out.2.2.1 hbx.out
            · obtain ⟨hn2, rfl⟩ := hnu.out hO
              have HOk := Lib.hid (show okn (lvO a b c d zs ss) (k + 1) = true by rw [okn_succ, hok.out, hO]; rfl)
              clear hO hnu
              obtain ⟨M2, hM2⟩ : ∃ M2, (lvM a b c d zs ss (k + 1)).1 = M2 := ⟨_, rfl⟩
              obtain ⟨P2, hP2⟩ : ∃ P2, (lvM a b c d zs ss (k + 1)).2 = P2 := ⟨_, rfl⟩
              rw [hM2, hP2] at hn2
              have HM2 := Lib.hid (And.intro hM2 hP2)
              have hr96 : r0.length ≤ 96 ∧ r1.length ≤ 96 := by have := hll.out; omega
              obtain ⟨hr0, hr1⟩ := hr96
              have HLl := Lib.hid hll.out
              have HRr := Lib.hid (show r0 ++ [M2] = tells (lrT0 a b c d zs ss) (k + 1) ∧ r1 ++ [P2] = tells (lrT1 a b c d zs ss) (k + 1) from by
                rw [tells_succ, tells_succ, hrr.out.1, hrr.out.2]
                unfold lrT0 lrT1
                rw [hM2, hP2]
                exact ⟨rfl, rfl⟩)
              have HSs := Lib.hid (show ∀ W, cn .f32 (fopR .add .f32 s (lvQ a b c d zs ss k) W) = sum32 (tells (lvQ a b c d zs ss) (k + 1)) from fun W => by rw [cn_fopR, hs.out, sum32_more])
              obtain ⟨x0, x1, x2, x3⟩ := hn2.c4
              obtain ⟨y0, y1, y2, y3⟩ := hnp.out.c4
              obtain ⟨z0, z1, z2, z3⟩ := hnp.out.f4
              obtain ⟨ws, hws⟩ : ∃ ws, ((((wx.setCell ⟨w.heap.size, 0, none⟩ (.float .f32 M2)).setCell ⟨w.heap.size, 1, none⟩ (.float .f32 P2)).setCell ⟨w.heap.size, 2, none⟩ (.float .f32 c)).setCell ⟨w.heap.size, 3, none⟩ (.float .f32 d)) = ws := ⟨_, rfl⟩
              have hnp2 : NumsIn ws w.heap.size [M2, P2, c, d] := by
                rw [← hws]
                exact (((hnp.out.put (i := 0) (by simp) M2).put (i := 1) (by simp) P2).put (i := 2) (by simp) c).put (i := 3) (by simp) d
              have Ha := Lib.hid (show FOwn 32 (w.heap.size + 1) ws u10 r0 from by
                rw [← hws]
                exact (((hfa.out.setp (Nat.lt_succ_self _)).setp (Nat.lt_succ_self _)).setp (Nat.lt_succ_self _)).setp (Nat.lt_succ_self _))
              have Hb := Lib.hid (show FOwn 32 (w.heap.size + 1) ws u11 r1 from by
                rw [← hws]
                exact (((hfb.out.setp (Nat.lt_succ_self _)).setp (Nat.lt_succ_self _)).setp (Nat.lt_succ_self _)).setp (Nat.lt_succ_self _))
              have Hw := Lib.hid (show Below w.heap.size w ws from by
                rw [← hws]
                exact (((hbx.out.setCell (p := ⟨w.heap.size, 0, none⟩) (Nat.le_refl _) _).setCell (p := ⟨w.heap.size, 1, none⟩) (Nat.le_refl _) _).setCell (p := ⟨w.heap.size, 2, none⟩) (Nat.le_refl _) _).setCell (p := ⟨w.heap.size, 3, none⟩) (Nat.le_refl _) _)
              have hszs : w.heap.size < ws.heap.size := by rw [← hws]; simpa [World.setCell] using hszx
              have HNp := Lib.hid hnp2
              have HWs := Lib.hid hws
              clear hnp hfa hfb hbx hn2 hM2 hP2 hll hrr hs hnp2 hws HSt
              go_upto_region 13 with fail
              rw [HWs.out]
              obtain ⟨q0, q1, q2, q3⟩ := HNp.out.c4
              clear x0 x1 x2 x3 y0 y1 y2 y3 z0 z1 z2 z3 HWs
              go_wp2_with (at_builtin; refine wpList_append_lies _ rfl _ _ 22 rfl (w.heap.size + 1) 32 i0 (.float .f32 0) 1 4 Try.underlying22 hi hz0 hz1 hz2 rfl (by decide) _ _ _ rfl (World.ownsRow.alloc (FOwn.drewN Ha.out 0) _) ⟨ws.heap.size, 0, none⟩ 1 1 [_] rfl rfl (one_new rfl) ?c2 (by decide) ?c3 ?c4 ?c5 _ rfl ?_)
              case c2 => first | rfl | (intro u hu; simp at hu; subst hu; rfl)
              case c3 => unfold maxLen; omega
              case c4 => omega
              case c5 => first | omega | (simp; omega)
              intro ga ca w2 hown hgrow hat hglt
              have R := FOwn.push (n := 0) Ha.out (Below.refl _ _) (by omega) hown hgrow
              have Ha2 := Lib.hid R.1
              have hR2 := R.2
              have Hb2 := Lib.hid (apt_sw (FOwn.drewN Hb.out 0) hap.out hgrow)
              have hnp3 : NumsIn w2 w.heap.size [M2, P2, c, d] := HNp.out.belowB hR2 (Nat.lt_succ_self _)
              have Hw2 := Lib.hid (Hw.out.trans (hR2.mono (Nat.le_succ _)))
              have hsz2 : w.heap.size < w2.heap.size := by have := hR2.size; omega
              have Hap2 := Lib.hid (show Apt (.slice (some ⟨ga, 0, none⟩) (r0.length + 1) ca) u11 from fun b' e0 e1 => by
                have eg : ga = b' := by simpa [Value.ownBlock] using e0
                subst eg
                rcases hat with h1 | h1
                · exact hap.out ga h1 e1
                · have h2 := (Hb.out.lt ga e1).2
                  omega)
              have HNp3 := Lib.hid hnp3
              clear q0 q1 q2 q3
              obtain ⟨q0, q1, q2, q3⟩ := hnp3.c4
              clear R hR2 hown hgrow hat hglt Ha Hb Hw HNp hap hnp3
              go_wp2_with (at_builtin; refine wpList_append_lies _ rfl _ _ 22 rfl (w.heap.size + 1) 32 i0 (.float .f32 0) 1 4 Try.underlying22 hi hz0 hz1 hz2 rfl (by decide) _ _ _ rfl (World.ownsRow.alloc (FOwn.drewN Hb2.out 0) _) ⟨w2.heap.size, 0, none⟩ 1 1 [_] rfl rfl (one_new rfl) ?d2 (by decide) ?d3 ?d4 ?d5 _ rfl ?_)
              case d2 => first | rfl | (intro u hu; simp at hu; subst hu; rfl)
              case d3 => unfold maxLen; omega
              case d4 => omega
              case d5 => first | omega | (simp; omega)
              intro gb cb w3 hown hgrow hat hglt
              have R := FOwn.push (n := 0) Hb2.out (Below.refl _ _) (by omega) hown hgrow
              have Hb3 := Lib.hid R.1
              have hR2 := R.2
              have Ha3 := Lib.hid (apt_swL (FOwn.drewN Ha2.out 0) Hap2.out hgrow)
              have HNp4 := Lib.hid (HNp3.out.belowB hR2 (Nat.lt_succ_self _))
              have Hw3 := Lib.hid (Hw2.out.trans (hR2.mono (Nat.le_succ _)))
              have hsz3 : w.heap.size < w3.heap.size := by have := hR2.size; omega
              have Hap3 := Lib.hid (show Apt (.slice (some ⟨ga, 0, none⟩) (r0.length + 1) ca) (.slice (some ⟨gb, 0, none⟩) (r1.length + 1) cb) from fun b' e0 e1 => by
                have eg : gb = b' := by simpa [Value.ownBlock] using e1
                subst eg
                rcases hat with h1 | h1
                · exact Hap2.out gb e0 h1
                · have h2 := (Ha2.out.lt gb e0).2
                  omega)
              have HLn := Lib.hid (show (r0 ++ [M2]).length = k + 1 ∧ (r1 ++ [P2]).length = k + 1 from by rw [List.length_append, List.length_append, HLl.out.1, HLl.out.2]; exact ⟨rfl, rfl⟩)
              have HNe := Lib.hid (show NumsIn w3 w.heap.size [(lvM a b c d zs ss (k + 1)).1, (lvM a b c d zs ss (k + 1)).2, c, d] from by rw [HM2.out.1, HM2.out.2]; exact HNp4.out)
              clear R hR2 hown hgrow hat hglt q0 q1 q2 q3 Ha2 Hb2 Hap2 Hw2 HNp3 HNp4 HLl
              go_wp2
              go_roundw
              case rel => exact ⟨k + 1, _, _, _, by omega, by go_num, rfl, HLn, Lib.hid (HNe.out.drewN _), Lib.hid (FOwn.drewN Ha3.out _), Lib.hid (FOwn.drewN Hb3.out _), Hap3, HRr, Lib.hid (HSs.out _), HOk, Lib.hid (below_drewN Hw3.out _), hsz3⟩
              case measure => simp [intOf]; omega
        · have e : k = len2 := by omega
          have HS := Lib.hid (show cn .f32 s = lrS a b c d zs ss from by rw [hs.out, e]; unfold lrS; rw [HL.out])
          have HA := Lib.hid (show lvAll a b c d zs ss = true by rw [HAl.out, ← e]; exact hok.out)
          have HBq := Lib.hid (show lrB a b c d zs ss = fin .f32 (lrS a b c d zs ss) by unfold lrB; rw [HA.out]; rfl)
          have hc0 : cnl r0 = tells (lrT0 a b c d zs ss) zs.length ∧ cnl r1 = tells (lrT1 a b c d zs ss) zs.length := by
            have hf := lv_fins HA.out
            rw [hrr.out.1, hrr.out.2, e, ← HL.out]
            have hcl : ∀ rs : List Nat, fins rs = true → cnl rs = rs := fun rs hr => by
              unfold cnl
              conv => rhs; rw [← List.map_id rs]
              unfold fins at hr
              exact List.map_congr_left fun x hx => (fin_wd rfl ((fin_congr (cn_cn .f32 x)).trans (List.all_eq_true.1 hr x hx))).symm
            exact ⟨hcl _ hf.1, hcl _ hf.2.1⟩
          have HC0 := Lib.hid hc0
          have HFi := Lib.hid (show fin .f32 s = lrB a b c d zs ss from (fin_congr (HS.out.trans (by rw [← HS.out, cn_cn]))).trans HBq.out.symm)
          clear e hnx hrr hs hok hll hc0
          go_wp2_with fail
          refine (l01Finite_any _ _).mono ?_
          rw [HFi.out]
          rintro e w' ⟨q, rfl, rfl⟩
          cases hB : lrB a b c d zs ss
          · have HB := Lib.hid (lr_bad hB)
            clear hB
            go_wp2
            (try simp only [Exit.inBlock, Exit.then])
            refine bodyPost_ret (results_t4 rfl _ _ _) rfl ?_
            exact fail_l2f _ HB.out.2.2.2 HB.out.1 HB.out.2.1 HB.out.2.2.1 (below_drewN hbel.out _)
          · have HG := Lib.hid (lr_good hB)
            have HBt := Lib.hid hB
            clear hB
            go_wp2
            (try simp only [Exit.inBlock, Exit.then])
            refine bodyPost_ret (results_t4 rfl _ _ _) rfl ?_
            exact ⟨_, r0, _, r1, s, by rw [HBt.out]; rfl, ⟨(FOwn.drewN ho0.out q).mono (Nat.le_succ _), (FOwn.drewN ho1.out q).mono (Nat.le_succ _)⟩, ⟨HC0.out.1.trans HG.out.1.symm, HC0.out.2.trans HG.out.2.1.symm⟩, HS.out.trans HG.out.2.2.symm, hap.out, below_drewN hbel.out _⟩
theorem NumsIn.only {w w' : World} {p c : Nat} {xs : List Nat} (h : NumsIn w p xs) (ho : Only c w w') (hp : p ≠ c) : NumsIn w' p xs :=
  ⟨by rw [ho.size]; exact h.lt, fun i hi => ⟨by rw [ho.cell (p := ⟨p, i, none⟩) hp]; exact (h.2 i hi).1, by rw [ho.frozen (p := ⟨p, i, none⟩) hp]; exact (h.2 i hi).2⟩⟩
end Go.Proofs.Ytldaamgohdnjnaa

