/-
  Rows of lists of 32-bit floats: as they come in; the laws' own helpers: copies, sizes, comparisons, marks.
-/
import Derived.Test.YtopgegciejmhaaaCAre
import Derived.Test.YtopgegciejmhaaaCLaw
namespace Go.Proofs.Ytopgegciejmhaaa
open Ieee Go.RowKit
set_option linter.unusedVariables false

/-- Only blocks from lo on and below hi have turned. -/
structure Wth (lo hi : Nat) (w w' : World) : Prop where
  os : w'.os = w.os
  tape : w'.tape = w.tape
  output : w'.output = w.output
  size : w'.heap.size = w.heap.size
  block : ∀ k, k < lo ∨ hi ≤ k → w'.heap[k]? = w.heap[k]?
theorem Wth.refl (lo hi : Nat) (w : World) : Wth lo hi w w := ⟨rfl, rfl, rfl, rfl, fun _ _ => rfl⟩
theorem Wth.trans {lo hi : Nat} {a b c : World} (h : Wth lo hi a b) (g : Wth lo hi b c) : Wth lo hi a c :=
  ⟨g.os.trans h.os, g.tape.trans h.tape, g.output.trans h.output, g.size.trans h.size, fun k hk => (g.block k hk).trans (h.block k hk)⟩
theorem Only.wth {b lo hi : Nat} {w w' : World} (h : Only b w w') (h1 : lo ≤ b) (h2 : b < hi) : Wth lo hi w w' :=
  ⟨h.os, h.tape, h.output, h.size, fun k hk => h.block k (by omega)⟩
theorem Wth.below {lo hi B : Nat} {w w' : World} (h : Wth lo hi w w') (hB : B ≤ lo) : Below B w w' :=
  ⟨h.os, h.tape, h.output, Nat.le_of_eq h.size.symm, fun k hk => h.block k (by omega)⟩
theorem Wth.cell {lo hi : Nat} {w w' : World} (h : Wth lo hi w w') {p : Addr} (hp : p.block < lo ∨ hi ≤ p.block) : w'.cell? p = w.cell? p := World.cell?_of_block (h.block _ hp)
theorem Wth.frozen {lo hi : Nat} {w w' : World} (h : Wth lo hi w w') {p : Addr} (hp : p.block < lo ∨ hi ≤ p.block) : w'.frozen? p = w.frozen? p := World.frozen?_of_block (h.block _ hp)
theorem Held.wth {w w' : World} {A : Option Addr} {b len lo hi : Nat} {rs : List Nat} (h : Held w A b len rs) (ho : Wth lo hi w w') (hc : 0 < len → b < lo ∨ hi ≤ b) : Held w' A b len rs := by
  refine ⟨h.sl.same (Nat.le_of_eq ho.size.symm) fun b' off h0 e => ?_, h.at_, fun h0 => by rw [ho.size]; exact h.lt_ h0, fun j hj => ?_⟩
  · have e1 := h.at_ h0
    rw [e1] at e
    injection e with e
    injection e with e
    subst e
    exact ho.block _ (hc h0)
  · rw [ho.cell (p := ⟨b, j, none⟩) (hc (by omega)), ho.frozen (p := ⟨b, j, none⟩) (hc (by omega))]; exact h.wri j hj
theorem MHeld.wth {w w' : World} {A : Option Addr} {b len k lo hi : Nat} (h : MHeld w A b len k) (ho : Wth lo hi w w') (hc : 0 < len → b < lo ∨ hi ≤ b) : MHeld w' A b len k :=
  ⟨fun j hj => by rw [ho.cell (p := ⟨b, j, none⟩) (hc (by omega))]; exact h.mks j hj, h.at_, fun h0 => by rw [ho.size]; exact h.lt_ h0⟩

theorem FOwn.below {T : TypeId} {B : Nat} {w w' : World} {v : Value} {rs : List Nat} (h : FOwn T B w v rs) (hb : Below w.heap.size w w') : FOwn T B w' v rs := by
  refine ⟨h.1, ?_⟩
  rcases h.2 with h2 | ⟨g, cap, cur, rfl, h3, h4, h5⟩
  · exact .inl h2
  · have hlt : g < w.heap.size := by
      rcases Nat.lt_or_ge g w.heap.size with hlt | hge
      · exact hlt
      · rw [Array.getElem?_eq_none hge] at h4; cases h4
    exact .inr ⟨g, cap, cur, rfl, h3, (hb.block g hlt).trans h4, h5⟩
/-- A row of lists that came in. -/
def RRow (w : World) (a : Option Addr) (n cap : Nat) (L : List FRw) : Prop :=
  VSl FRw.val FRw.none w a n L ∧ n ≤ cap ∧ cap ≤ maxLen ∧ ∀ i, i < n → FRow w (L.getD i FRw.none).a (L.getD i FRw.none).len (L.getD i FRw.none).cap (L.getD i FRw.none).zs
theorem slice_of {H : Type} {enc : TypeId × Value → H} {P : Program} {w : World} {base : Nat} {spare : Nat → Bool} {held : Bool} {t e : TypeId} {fuel : Nat} {v : Value} {x : DataW H × List MemPlace}
    (ht : P.underlying t = some (.slice e)) (he : P.underlying e = some (.float .f32)) (hc : P.cellsOf e = 1) (h : DataW.trod enc P w base spare held fuel t [v] = some x) : ∃ r : FRw, v = r.val ∧ FRow w r.a r.len r.cap r.zs := by
  have h' := h
  rcases Go.Deep.open_slice1 ht hc h with ⟨hcs, _⟩ | ⟨a, l, c, m, n, V, D, Pl, hcs, _⟩
  · injection hcs with hv
    subst hv
    obtain ⟨zs, hz⟩ := FRow_of (d := x.1) (ps := x.2) ht he hc ⟨fuel, h'⟩
    exact ⟨⟨none, 0, 0, zs⟩, rfl, hz⟩
  · injection hcs with hv
    subst hv
    obtain ⟨zs, hz⟩ := FRow_of (d := x.1) (ps := x.2) ht he hc ⟨fuel, h'⟩
    exact ⟨⟨some a, l, c, zs⟩, rfl, hz⟩
theorem RRow_of {H : Type} {enc : TypeId × Value → H} {P : Program} {w : World} {base : Nat} {spare : Nat → Bool} {held : Bool} {t t2 e : TypeId} {a : Option Addr} {len cap : Nat} {d : DataW H} {ps : List MemPlace}
    (ht : P.underlying t = some (.slice t2)) (ht2 : P.underlying t2 = some (.slice e)) (he : P.underlying e = some (.float .f32)) (hc : P.cellsOf t2 = 1) (hc2 : P.cellsOf e = 1) (h : DataW.Trod enc P w base spare held t (.slice a len cap) d ps) : ∃ L, RRow w a len cap L := by
  obtain ⟨fuel, hf⟩ := h
  rcases Go.Deep.open_slice1 ht hc hf with ⟨hcs, _⟩ | ⟨x, l, c, m, n, V, D, Pl, hcs, _, hl, hm, hmm, _, hx⟩
  · simp [Value.cells] at hcs
    obtain ⟨rfl, rfl, rfl⟩ := hcs
    exact ⟨[], ⟨rfl, .inl rfl⟩, Nat.le_refl _, Nat.zero_le _, fun i hi => by omega⟩
  · simp [Value.cells] at hcs
    obtain ⟨rfl, rfl, rfl⟩ := hcs
    have hle : len ≤ m := by rw [hmm]; split <;> omega
    have hv : ∀ i, i < len → ∃ r : FRw, V i = r.val ∧ FRow w r.a r.len r.cap r.zs := fun i hi => slice_of ht2 he hc2 (hx i (by omega)).2
    haveI : Inhabited FRw := ⟨FRw.none⟩
    obtain ⟨f, hf⟩ := Go.Deep.choose_lt hv
    have hget : ∀ i, i < len → ((List.range len).map f).getD i FRw.none = f i := fun i hi => by simp [List.getD, hi]
    refine ⟨(List.range len).map f, ⟨by simp, ?_⟩, hl, hm, fun i hi => by rw [hget i hi]; exact (hf i hi).2⟩
    by_cases h0 : len = 0
    · exact .inl h0
    · right
      have hcell : ∀ i, i < len → w.cell? (x.add i) = some (((List.range len).map f).getD i FRw.none).val := fun i hi => by
        rw [(hx i (by omega)).1, (hf i hi).1, hget i hi]
      have h0' := hcell 0 (by omega)
      obtain ⟨b, off, spot⟩ := x
      have hspot : spot = none := by simpa [Addr.add] using World.cell?_spot h0'
      subst hspot
      exact ⟨b, off, rfl, lt_of_cell (by rw [← Go.WideShapes.add_plain]; exact h0'), fun j hj => by rw [← Go.WideShapes.add_plain]; exact hcell j hj⟩

/-- How many numbers the first lists hold. -/
def tot (L : List FRw) : Nat → Nat
  | 0 => 0
  | k + 1 => tot L k + (L.getD k FRw.none).len
theorem tot_succ (L : List FRw) (k : Nat) : tot L (k + 1) = tot L k + (L.getD k FRw.none).len := rfl
theorem tot_le (L : List FRw) {k n : Nat} (h : k ≤ n) : tot L k ≤ tot L n := by
  induction n with
  | zero =>
    obtain rfl : k = 0 := by omega
    exact Nat.le_refl _
  | succ n ih =>
    rcases Nat.lt_or_ge n k with h1 | h1
    · obtain rfl : k = n + 1 := by omega
      exact Nat.le_refl _
    · have := ih h1
      rw [tot_succ]; omega
theorem len_tot (L : List FRw) {k n : Nat} (h : k < n) : (L.getD k FRw.none).len ≤ tot L n := by
  have := tot_le L (k := k + 1) (n := n) (by omega)
  rw [tot_succ] at this
  omega
set_option maxRecDepth 100000 in
theorem rsz_any (a : Option Addr) (n cap : Nat) (L : List FRw) (left : Nat) (w : World) (h : VSl FRw.val FRw.none w a n L) (hl : left ≤ 1048576) (hn : n ≤ 9223372036854775807) (hlens : ∀ i, i < n → (L.getD i FRw.none).len ≤ 9223372036854775807) (v : Int) (hv : v = if n + tot L n ≤ left then (left : Int) - n - tot L n else -1) :
    Calls Try.prog 27 #[.slice a n cap, .int .i64 left] w fun e w' => e = .returned (.int .i64 v) ∧ w = w' := by
  have H := Lib.hid h
  have HLs := Lib.hid hlens
  have HV := Lib.hid hv
  clear h hlens hv
  by_cases hnl : n ≤ left
  · have hw : wrap64 ((left : Int) - (n : Int)) = (left : Int) - (n : Int) := by unfold wrap64; omega
    have hd : decide ((left : Int) - (n : Int) < 0) = false := decide_eq_false (by omega)
    go_enter Try.func27, Try.ntmps27
    go_wp2
    go_loopw [1, 5] (fun q i wr => ∃ (k : Nat) (s : Int), k ≤ n ∧ i = .int .i64 k ∧ q = .int .i64 s ∧ Hid (s = (left : Int) - n - tot L k) ∧ 0 ≤ s ∧ s ≤ 1048576 ∧ wr = w) (fun _ i _ => n - (intOf i).toNat)
    case atStart => exact ⟨0, _, Nat.zero_le _, rfl, rfl, Lib.hid (by simp [tot]), by omega, by omega, rfl⟩
    case round =>
      obtain ⟨k, s, hk, rfl, rfl, hs, h0, h1, rfl⟩ := hrel
      by_cases hlt : k < n
      · obtain ⟨b, off, rfl, hb, hc⟩ := H.out.at (by omega)
        have hck := hc k hlt
        have hln := HLs.out k hlt
        have hts := tot_succ L k
        have htm := tot_le L (k := k + 1) (n := n) (by omega)
        unfold FRw.val at hck
        generalize L.getD k FRw.none = r at *
        obtain ⟨ra, rl, rc, rz⟩ := r
        simp only at hck hln hts
        clear hc hb
        by_cases hfit : (rl : Int) ≤ s
        · have hw2 : wrap64 (s - (rl : Int)) = s - (rl : Int) := by unfold wrap64; omega
          have hd2 : decide (s - (rl : Int) < 0) = false := decide_eq_false (by omega)
          have HRel := Lib.hid (show s - (rl : Int) = (left : Int) - n - tot L (k + 1) by rw [hts, hs.out]; omega)
          clear htm hts hs
          go_wp2
          go_roundw
          case rel => exact ⟨k + 1, _, by omega, by go_num, rfl, HRel, by omega, by omega, by first | rfl | trivial⟩
          case measure => simp [intOf]; omega
        · have hw2 : wrap64 (s - (rl : Int)) = s - (rl : Int) := by unfold wrap64; omega
          have hd2 : decide (s - (rl : Int) < 0) = true := decide_eq_true (by omega)
          have HF := Lib.hid (show (if n + tot L n ≤ left then (left : Int) - n - tot L n else -1) = -1 from if_neg (by have := hs.out; omega))
          clear htm hts hs
          go_wp2
          go_ret
          exact ⟨by rw [HV.out, HF.out]; rfl, rfl⟩
      · obtain rfl : k = n := by omega
        have HF := Lib.hid (show (if k + tot L k ≤ left then (left : Int) - k - tot L k else -1) = s from by
          have := hs.out
          rw [if_pos (by omega)]; omega)
        clear hs
        go_wp2
        go_ret
        exact ⟨by rw [HV.out, HF.out]; rfl, rfl⟩
  · have hd : decide ((left : Int) - (n : Int) < 0) = true := decide_eq_true (by omega)
    have hw : wrap64 ((left : Int) - (n : Int)) = (left : Int) - (n : Int) := by unfold wrap64; omega
    have HF := Lib.hid (show (if n + tot L n ≤ left then (left : Int) - n - tot L n else -1) = -1 from if_neg (by omega))
    go_enter Try.func27, Try.ntmps27
    go_wp2
    go_ret
    exact ⟨by rw [HV.out, HF.out]; rfl, rfl⟩

/-- The lists of a row that was made: as they were, each in a block of its own. -/
def newRow (L : List FRw) (b : Nat → Nat) (n : Nat) : List FRw := (List.range n).map fun j => ⟨some ⟨b j, 0, Option.none⟩, (L.getD j FRw.none).len, (L.getD j FRw.none).len, (L.getD j FRw.none).zs⟩
theorem newRow_at (L : List FRw) (b : Nat → Nat) {n j : Nat} (h : j < n) : (newRow L b n).getD j FRw.none = ⟨some ⟨b j, 0, Option.none⟩, (L.getD j FRw.none).len, (L.getD j FRw.none).len, (L.getD j FRw.none).zs⟩ := by simp [newRow, List.getD, h]
theorem newRow_len (L : List FRw) (b : Nat → Nat) (n : Nat) : (newRow L b n).length = n := by simp [newRow]
/-- Each list of a row in a block of its own, which may be written. -/
structure RHeld (w : World) (B hi n : Nat) (L : List FRw) (b : Nat → Nat) : Prop where
  cells : ∀ j, j < n → w.cell? ⟨B, j, none⟩ = some (.slice (some ⟨b j, 0, none⟩) (L.getD j FRw.none).len (L.getD j FRw.none).len)
  held : ∀ j, j < n → Held w (some ⟨b j, 0, none⟩) (b j) (L.getD j FRw.none).len (L.getD j FRw.none).zs
  up : ∀ j, j < n → B < b j ∧ b j < hi
  inc : ∀ i j, i < j → j < n → b i < b j
  lt : B < hi
  le : hi ≤ w.heap.size
section
variable {w w' : World} {B hi n : Nat} {L : List FRw} {b : Nat → Nat}
theorem RHeld.drewN (h : RHeld w B hi n L b) (k : Nat) : RHeld (w.drewN k) B hi n L b := ⟨h.cells, fun j hj => (h.held j hj).drewN k, h.up, h.inc, h.lt, h.le⟩
theorem RHeld.below (h : RHeld w B hi n L b) (hb : Below w.heap.size w w') : RHeld w' B hi n L b :=
  ⟨fun j hj => by rw [hb.cell (p := ⟨B, j, none⟩) (Nat.lt_of_lt_of_le h.lt h.le)]; exact h.cells j hj, fun j hj => (h.held j hj).below hb, h.up, h.inc, h.lt, Nat.le_trans h.le hb.size⟩
theorem RHeld.only {c : Nat} (h : RHeld w B hi n L b) (ho : Only c w w') (hc : c < B ∨ hi ≤ c) : RHeld w' B hi n L b :=
  ⟨fun j hj => by rw [ho.cell (p := ⟨B, j, none⟩) (by have := h.lt; show B ≠ c; omega)]; exact h.cells j hj, fun j hj => (h.held j hj).only ho (fun _ => by have := h.up j hj; omega), h.up, h.inc, h.lt, by rw [ho.size]; exact h.le⟩
theorem RHeld.wth {lo hi' : Nat} (h : RHeld w B hi n L b) (ho : Wth lo hi' w w') (hc : hi' ≤ B ∨ hi ≤ lo) : RHeld w' B hi n L b :=
  ⟨fun j hj => by rw [ho.cell (p := ⟨B, j, none⟩) (by have := h.lt; show B < lo ∨ hi' ≤ B; omega)]; exact h.cells j hj, fun j hj => (h.held j hj).wth ho (fun _ => by have := h.up j hj; omega), h.up, h.inc, h.lt, by rw [ho.size]; exact h.le⟩
theorem RHeld.sl (h : RHeld w B hi n L b) (hm : ∀ j, j < n → (L.getD j FRw.none).len ≤ 1048576) : RSl w (some ⟨B, 0, none⟩) n (newRow L b n) := by
  refine ⟨⟨newRow_len .., .inr ⟨B, 0, rfl, Nat.lt_of_lt_of_le h.lt h.le, fun i hi => ?_⟩⟩, fun i hi => ?_⟩
  · rw [newRow_at L b hi, Nat.zero_add]; exact h.cells i hi
  · rw [newRow_at L b hi]; exact ⟨(h.held i hi).sl, hm i hi⟩
end
/-- How far the copies of a row's lists have come. -/
structure RFill (w wr : World) (B n k : Nat) (L : List FRw) (b : Nat → Nat) : Prop where
  bel : Below B w wr
  lt : B < wr.heap.size
  cells : ∀ j, j < k → wr.cell? ⟨B, j, none⟩ = some (.slice (some ⟨b j, 0, none⟩) (L.getD j FRw.none).len (L.getD j FRw.none).len)
  rest : ∀ j, k ≤ j → j < n → ∃ v, wr.cell? ⟨B, j, none⟩ = some v
  free : ∀ j, j < n → wr.frozen? ⟨B, j, none⟩ = false
  held : ∀ j, j < k → Held wr (some ⟨b j, 0, none⟩) (b j) (L.getD j FRw.none).len (L.getD j FRw.none).zs
  up : ∀ j, j < k → B < b j ∧ b j < wr.heap.size
  inc : ∀ i j, i < j → j < k → b i < b j
theorem RFill.start (w : World) (n : Nat) (L : List FRw) (z : Array Value) (t : TypeId) (b : Nat → Nat) (hz : z.size = 1) : RFill w (w.alloc (.cells (madeCells z n) t)) w.heap.size n 0 L b := by
  have h := Fills.start (f := FRw.val) (d := FRw.none) w.heap.size n [] w z t rfl n rfl
  exact ⟨h.1, h.2.1, fun j hj => by omega, fun j h1 h2 => h.2.2.2.1 j h1 h2, h.2.2.2.2, fun j hj => by omega, fun j hj => by omega, fun i j h1 h2 => by omega⟩
theorem RFill.step {w wr u : World} {B n k : Nat} {L : List FRw} {b : Nat → Nat} (h : RFill w wr B n k L b) (hk : k < n) (hu : Below wr.heap.size wr u) (hs : wr.heap.size < u.heap.size) (hB : B = w.heap.size)
    (ht : Held u (some ⟨wr.heap.size, 0, none⟩) wr.heap.size (L.getD k FRw.none).len (L.getD k FRw.none).zs) :
    RFill w (u.setCell ⟨B, k, none⟩ (.slice (some ⟨wr.heap.size, 0, none⟩) (L.getD k FRw.none).len (L.getD k FRw.none).len)) B n (k + 1) L (fun j => if j = k then wr.heap.size else b j) := by
  have hlt := h.lt
  have ho : ∀ v, Only B u (u.setCell ⟨B, k, none⟩ v) := fun v => (Only.refl B u).setCell k v
  have hc0 : ∀ j, u.cell? ⟨B, j, none⟩ = wr.cell? ⟨B, j, none⟩ := fun j => hu.cell (p := ⟨B, j, none⟩) hlt
  have hbk : ∀ j, j < k → (if j = k then wr.heap.size else b j) = b j := fun j hj => if_neg (by omega)
  refine ⟨(h.bel.trans (hu.mono (Nat.le_of_lt hlt))).setCell (Nat.le_refl _) _, by simp [World.setCell]; omega, fun j hj => ?_, fun j h1 h2 => ?_, fun j hj => ?_, fun j hj => ?_, fun j hj => ?_, fun i j h1 h2 => ?_⟩
  · by_cases e : j = k
    · subst e
      obtain ⟨v, hv⟩ := h.rest j (Nat.le_refl _) hk
      rw [World.cell?_setCell_same' _ _ _ (by rw [hc0, hv]; rfl), if_pos rfl]
    · rw [setCell_far e, hc0, h.cells j (by omega), hbk j (by omega)]
  · obtain ⟨v, hv⟩ := h.rest j (by omega) h2
    exact ⟨v, by rw [setCell_far (by omega), hc0, hv]⟩
  · rw [World.frozen?_setCell, hu.frozen (p := ⟨B, j, none⟩) hlt]; exact h.free j hj
  · by_cases e : j = k
    · subst e
      rw [if_pos rfl]
      exact ht.only (ho _) (fun _ => by omega)
    · rw [hbk j (by omega)]
      exact ((h.held j (by omega)).below hu).only (ho _) (fun _ => by have := h.up j (by omega); omega)
  · show B < (if j = k then _ else _) ∧ (if j = k then _ else _) < _
    by_cases e : j = k
    · rw [if_pos e]; refine ⟨hlt, ?_⟩; simp [World.setCell]; exact hs
    · rw [if_neg e]
      have := h.up j (by omega)
      refine ⟨this.1, ?_⟩
      simp [World.setCell]; omega
  · show (if i = k then _ else _) < (if j = k then _ else _)
    rw [if_neg (show i ≠ k by omega)]
    by_cases e : j = k
    · rw [if_pos e]; exact (h.up i (by omega)).2
    · rw [if_neg e]; exact h.inc i j h1 (by omega)
theorem Try.infoS : (Try.prog.info? 22).map (fun i => (i.zero, i.size, i.bytes)) = some (some (.slice none 0 0), 1, 24) := by kernel_rfl
set_option maxRecDepth 100000 in
theorem rto_any (a : Option Addr) (n cap : Nat) (L : List FRw) (w : World) (h : RSl w a n L) (hn : n ≤ 1048576) :
    Calls Try.prog 29 #[.slice a n cap] w fun e w' => ∃ b, e = .returned (.slice (some ⟨w.heap.size, 0, none⟩) n n) ∧ RHeld w' w.heap.size w'.heap.size n L b ∧ Below w.heap.size w w' ∧ w.heap.size < w'.heap.size := by
  obtain ⟨i0, hi, hz0, hz1, hz2⟩ := info_parts Try.infoS
  have hmk := fun W => run_make_len (P := Try.prog) W 39 22 i0 (.slice none 0 0) Try.underlying39 hi hz0 hz1 n (by rw [hz2]; omega) (by omega)
  have h0 := Lib.hid (RFill.start w n L (Value.slice none 0 0).cells 22 (fun _ => 0) rfl)
  clear hi hz0 hz1 hz2
  have H := Lib.hid h
  clear h
  go_enter Try.func29, Try.ntmps29
  go_wp2
  clear hmk
  go_loopw [4] (fun i wr => ∃ (k : Nat) (b : Nat → Nat), k ≤ n ∧ i = .int .i64 k ∧ Hid (RFill w wr w.heap.size n k L b)) (fun i _ => n - (intOf i).toNat)
  case atStart => exact ⟨0, _, Nat.zero_le _, rfl, h0⟩
  case round =>
    rename_i wr
    obtain ⟨k, b, hk, rfl, hf⟩ := hrel
    by_cases hlt : k < n
    · obtain ⟨bb, off, rfl, hb, hc⟩ := H.out.1.at (by omega)
      have hck := hc k hlt
      rw [← hf.out.bel.cell (p := ⟨bb, off + k, none⟩) hb] at hck
      obtain ⟨hF, hFm⟩ := H.out.2 k hlt
      have HF := Lib.hid (FSl.below hF hf.out.bel)
      obtain ⟨v, hv⟩ := hf.out.rest k (Nat.le_refl _) hlt
      have hfz := hf.out.free k hlt
      have hlt2 := hf.out.lt
      have HST := Lib.hid (fun u => RFill.step (u := u) hf.out hlt)
      unfold FRw.val at hck
      generalize L.getD k FRw.none = r at *
      obtain ⟨ra, rl, rc, rz⟩ := r
      simp only at hck hFm HF HST
      clear hc hb h0 hf hF
      go_wp2_with fail
      refine (toFt_any _ _ _ _ _ HF.out hFm).mono ?_
      rintro e u ⟨rfl, t, bu, q⟩
      have HN := Lib.hid (HST.out u bu q (by trivial) t)
      have hv2 : u.cell? ⟨w.heap.size, k, none⟩ = some v := by rw [bu.cell (p := ⟨w.heap.size, k, none⟩) hlt2]; exact hv
      have hf2 : u.frozen? ⟨w.heap.size, k, none⟩ = false := by rw [bu.frozen (p := ⟨w.heap.size, k, none⟩) hlt2]; exact hfz
      clear t bu q HST hv hfz hck
      go_wp2
      go_roundw
      case rel => exact ⟨k + 1, _, by omega, by go_num, HN⟩
      case measure => simp [intOf]; omega
    · obtain rfl : k = n := by omega
      have HR := Lib.hid (RHeld.mk hf.out.cells hf.out.held hf.out.up hf.out.inc hf.out.lt (Nat.le_refl _))
      have HB := Lib.hid hf.out.bel
      have hbig := hf.out.lt
      clear hf h0 H
      go_wp2
      go_ret
      exact ⟨b, rfl, HR.out, HB.out, hbig⟩
set_option maxRecDepth 100000 in
theorem req_any (a a' : Option Addr) (n cap cap' : Nat) (L L' : List FRw) (w : World) (h : RSl w a n L) (h' : RSl w a' n L') (hn : n ≤ 1048576) (hl : ∀ i, i < n → (L.getD i FRw.none).len = (L'.getD i FRw.none).len) (hz : ∀ i, i < n → cnl (L.getD i FRw.none).zs = cnl (L'.getD i FRw.none).zs) :
    Calls Try.prog 31 #[.slice a n cap, .slice a' n cap'] w (RetV (.bool true) w) := by
  have H := Lib.hid h
  have H' := Lib.hid h'
  have HZ := Lib.hid hz
  have HL := Lib.hid hl
  clear h h' hz hl
  go_enter Try.func31, Try.ntmps31
  go_wp2
  go_loopw [5] (fun i wr => ∃ k m : Nat, k ≤ n ∧ i = .int .i64 k ∧ wr = w.drewN m) (fun i _ => n - (intOf i).toNat)
  case atStart => exact ⟨0, 0, Nat.zero_le _, rfl, rfl⟩
  case round =>
    obtain ⟨k, m, hk, rfl, rfl⟩ := hrel
    by_cases hlt : k < n
    · obtain ⟨b, off, rfl, hb, hc⟩ := H.out.1.at (by omega)
      obtain ⟨b', off', rfl, hb', hc'⟩ := H'.out.1.at (by omega)
      have hck := hc k hlt
      have hck' := hc' k hlt
      obtain ⟨hF, hFm⟩ := H.out.2 k hlt
      obtain ⟨hF', hFm'⟩ := H'.out.2 k hlt
      have hle := HL.out k hlt
      have hze := HZ.out k hlt
      unfold FRw.val at hck hck'
      generalize L.getD k FRw.none = r at *
      generalize L'.getD k FRw.none = r' at *
      obtain ⟨ra, rl, rc, rz⟩ := r
      obtain ⟨sa, sl, sc, sz⟩ := r'
      simp only at hck hck' hFm hFm' hF hF' hle hze
      subst hle
      have HE := Lib.hid (fun W m' (hW : W = w.drewN m') => show Calls Try.prog 19 #[.slice ra rl rc, .slice sa rl sc] W (RetV (.bool true) W) from by
        subst hW
        exact eqF_any _ _ _ _ _ _ _ _ (FSl.drewN hF m') (FSl.drewN hF' m') hFm (fun i hi => cnl_getD hze i (by rw [hF.1]; exact hi)))
      clear hc hc' hb hb' hF hF' hze
      go_wp2
      go_quiet ((go_at_call 19; exact quiet_add_V (HE.out _ _ rfl)))
      go_wp2
      go_roundw
      case rel => exact ⟨k + 1, _, by omega, by go_num, rfl⟩
      case measure => simp [intOf]; omega
    · go_wp2
      go_ret
      exact ⟨m, rfl, rfl⟩
set_option maxRecDepth 100000 in
theorem rmark_any {w : World} {B hi n cap : Nat} {L : List FRw} {b : Nat → Nat} (q : Nat) (h : RHeld w B hi n L b) (hn : n ≤ 1048576) (ht : tot L n ≤ 1048576) (hq : q ≤ 8388608) :
    Calls Try.prog 32 #[.slice (some ⟨B, 0, none⟩) n cap, .int .i64 q] w fun e w' => e = .returned (.int .i64 (q + tot L n : Nat)) ∧ Wth B hi w w' := by
  have H := Lib.hid h
  clear h
  go_enter Try.func32, Try.ntmps32
  go_wp2
  go_loopw [1, 5] (fun c i wr => ∃ k : Nat, k ≤ n ∧ i = .int .i64 k ∧ c = .int .i64 (q + tot L k : Nat) ∧ Hid (Wth B hi w wr) ∧ Hid (∀ j, k ≤ j → j < n → Held wr (some ⟨b j, 0, none⟩) (b j) (L.getD j FRw.none).len (L.getD j FRw.none).zs) ∧ Hid (∀ j, j < n → wr.cell? ⟨B, j, none⟩ = some (.slice (some ⟨b j, 0, none⟩) (L.getD j FRw.none).len (L.getD j FRw.none).len))) (fun _ i _ => n - (intOf i).toNat)
  case atStart => exact ⟨0, Nat.zero_le _, rfl, rfl, Lib.hid (Wth.refl _ _ _), Lib.hid (fun j _ hj => H.out.held j hj), Lib.hid H.out.cells⟩
  case round =>
    rename_i wr
    obtain ⟨k, hk, rfl, rfl, hw, hh, hcs⟩ := hrel
    by_cases hlt : k < n
    · have hck := hcs.out k hlt
      have hhk := hh.out k (Nat.le_refl _) hlt
      have hup := H.out.up k hlt
      have hln := len_tot L hlt
      have htl := tot_le L (k := k) (n := n) (by omega)
      have hts := Lib.hid (tot_succ L k)
      have hrl : (L.getD k FRw.none).len ≤ 1048576 := by omega
      have HK := Lib.hid (show ∀ u, Only (b k) wr u → Wth B hi w u ∧ (∀ j, k + 1 ≤ j → j < n → Held u (some ⟨b j, 0, none⟩) (b j) (L.getD j FRw.none).len (L.getD j FRw.none).zs) ∧ (∀ j, j < n → u.cell? ⟨B, j, none⟩ = some (.slice (some ⟨b j, 0, none⟩) (L.getD j FRw.none).len (L.getD j FRw.none).len)) from fun u o =>
        ⟨hw.out.trans (o.wth (Nat.le_of_lt hup.1) hup.2), fun j h1 h2 => (hh.out j (by omega) h2).only o (fun _ => by have := H.out.inc k j (by omega) h2; omega), fun j hj => by rw [o.cell (p := ⟨B, j, none⟩) (by show B ≠ b k; omega)]; exact hcs.out j hj⟩)
      clear hw hh hcs
      have HH := Lib.hid hhk
      clear hhk
      generalize hT : tot L k = T at *
      generalize hlk : (L.getD k FRw.none).len = rl at *
      go_wp2_with fail
      refine (markt_any (q + T) HH.out hrl (by omega)).mono ?_
      rintro e u ⟨rfl, o, _⟩
      have HU := Lib.hid (HK.out u o)
      clear o HK
      go_wp2
      go_roundw
      case rel => exact ⟨k + 1, by omega, by go_num, by rw [hts.out]; go_num, Lib.hid HU.out.1, Lib.hid HU.out.2.1, Lib.hid HU.out.2.2⟩
      case measure => simp [intOf]; omega
    · obtain rfl : k = n := by omega
      go_wp2
      go_ret
      exact ⟨rfl, hw.out⟩
/-- The lists' words. -/
def zz (L : List FRw) : List (List Nat) := L.map FRw.zs
theorem zz_new {L : List FRw} {b : Nat → Nat} {n : Nat} (h : L.length = n) : zz (newRow L b n) = zz L := by
  unfold zz newRow
  subst h
  rw [List.map_map]
  refine List.ext_getElem (by simp) fun i h1 h2 => ?_
  simp at h1
  simp [List.getD, h1]
theorem zz_at (L : List FRw) {i : Nat} : (zz L).getD i [] = (L.getD i FRw.none).zs := by
  unfold zz
  rcases Nat.lt_or_ge i L.length with h | h
  · simp [List.getD, h]
  · simp [List.getD, h, FRw.none]
theorem zz_len (L : List FRw) : (zz L).length = L.length := by simp [zz]
theorem req_new {w : World} {B B' hi hi' n cap cap' : Nat} {L : List FRw} {b b' : Nat → Nat} (h : RHeld w B hi n L b) (h' : RHeld w B' hi' n L b') (hm : ∀ j, j < n → (L.getD j FRw.none).len ≤ 1048576) (hn : n ≤ 1048576) :
    Calls Try.prog 31 #[.slice (some ⟨B, 0, none⟩) n cap, .slice (some ⟨B', 0, none⟩) n cap'] w (RetV (.bool true) w) :=
  req_any _ _ _ _ _ _ _ _ (h.sl hm) (h'.sl hm) hn (fun i hi => by rw [newRow_at L b hi, newRow_at L b' hi]) (fun i hi => by rw [newRow_at L b hi, newRow_at L b' hi])
theorem RRow.rsl {w : World} {a : Option Addr} {n cap : Nat} {L : List FRw} (h : RRow w a n cap L) (ht : n + tot L n ≤ 1048576) : RSl w a n L :=
  ⟨h.1, fun i hi => ⟨(h.2.2.2 i hi).1, by have := len_tot L hi; omega⟩⟩
theorem same_cny {xs rs rs' : List Nat} {y : Nat} (hy : xs.length = y) (h : cnl rs = xs) (h' : cnl rs' = xs) : ∀ i, i < y → cn .f32 (rs.getD i 0) = cn .f32 (rs'.getD i 0) := fun i hi => same_cn h h' i (by rw [hy]; exact hi)
theorem RetOB.resn {T : TypeId} {X0 x0 : List Nat} {y0 : Nat} {ok : Bool} {w : World} {e : Ending} {w' : World} (h : RetOB T X0 ok w e w') (hx0 : X0 = x0) (hy0 : x0.length = y0) :
    ∃ A0 c0 d0 r0, e = .returned (.tuple #[.slice A0 y0 c0, .bool ok]) ∧ (Held w' A0 d0 y0 r0 ∧ cnl r0 = x0 ∧ w.heap.size ≤ d0) ∧ Below w.heap.size w w' := by
  subst hx0 hy0
  obtain ⟨A, cap, b, rs, rfl, h1, h2, h3, h4⟩ := h.res
  exact ⟨A, cap, b, rs, rfl, ⟨h1, h2, h3⟩, h4⟩
end Go.Proofs.Ytopgegciejmhaaa
