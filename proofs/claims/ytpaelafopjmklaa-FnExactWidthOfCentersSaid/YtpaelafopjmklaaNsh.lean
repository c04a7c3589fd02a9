/-
  NearestShape, in both packages.
-/
import Derived.Test.YtpaelafopjmklaaNof
import Derived.Test.YtpaelafopjmklaaFar
namespace Go.Proofs.Ytpaelafopjmklaa
open Ieee Go.RowKit
set_option linter.unusedVariables false

theorem fin_word {r v : Nat} (h : cn .f32 r = v) (hf : fin .f32 v = true) : r = v := by
  have hN : isN .f32 r = false := by
    rw [← isN_cn, h]
    unfold fin at hf
    cases hn : isN .f32 v
    · rfl
    · rw [hn] at hf; cases hf
  rw [← h, cn_num hN]
/-- How far the series k of a list is from x. -/
def nF (Z : List (List Nat)) (x : List Nat) (k : Nat) : Nat := farX (Z.getD k []) x
def nsAll (Z : List (List Nat)) (x : List Nat) : Bool := (List.range Z.length).all (fun k => farB (Z.getD k []) x)
def nsB (Z : List (List Nat)) (x : List Nat) : Bool := shpZ Z && nsAll Z x
def nsN (Z : List (List Nat)) (x : List Nat) : Nst := nst (nF Z x) (fun _ => true) Z.length
def nsI (Z : List (List Nat)) (x : List Nat) : Int := if nsB Z x then ((nsN Z x).at_ : Int) else 0
def nsV (Z : List (List Nat)) (x : List Nat) : Nat := if nsB Z x then (nsN Z x).x else 0
theorem ns_bad {Z : List (List Nat)} {x : List Nat} (h : nsB Z x = false) : nsI Z x = 0 ∧ nsV Z x = 0 ∧ nsB Z x = false := ⟨by unfold nsI; rw [h]; rfl, by unfold nsV; rw [h]; rfl, h⟩
theorem nst_ok (F : Nat → Nat) : ∀ {n : Nat}, 1 ≤ n → (nst F (fun _ => true) n).ok = true
  | 1, _ => by simp [nst]
  | n + 2, _ => by
    have := nst_ok F (n := n + 1) (by omega)
    rw [show nst F (fun _ => true) (n + 2) = if (true && (!(nst F (fun _ => true) (n + 1)).ok || ltF (F (n + 1)) (nst F (fun _ => true) (n + 1)).x)) = true then ⟨n + 1, F (n + 1), true⟩ else nst F (fun _ => true) (n + 1) from rfl]
    split
    · rfl
    · exact this
/-- The least one is one of them. -/
theorem nst_one (F : Nat → Nat) : ∀ {n : Nat}, 1 ≤ n → ∃ j, j < n ∧ (nst F (fun _ => true) n).at_ = j ∧ (nst F (fun _ => true) n).x = F j
  | 1, _ => ⟨0, by omega, by simp [nst], by simp [nst]⟩
  | n + 2, _ => by
    obtain ⟨j, h1, h2, h3⟩ := nst_one F (n := n + 1) (by omega)
    rw [show nst F (fun _ => true) (n + 2) = if (true && (!(nst F (fun _ => true) (n + 1)).ok || ltF (F (n + 1)) (nst F (fun _ => true) (n + 1)).x)) = true then ⟨n + 1, F (n + 1), true⟩ else nst F (fun _ => true) (n + 1) from rfl]
    split
    · exact ⟨n + 1, by omega, rfl, rfl⟩
    · exact ⟨j, by omega, h2, h3⟩
def RetNS (i : Int) (v : Nat) (b : Bool) (w : World) (e : Ending) (w' : World) : Prop := ∃ r, cn .f32 r = v ∧ e = .returned (.tuple #[.int .i64 i, .float .f32 r, .bool b]) ∧ Below w.heap.size w w'

theorem run_make_len2 {P : Program} (w : World) (t e : TypeId) (i : TypeInfo) (z : Value) (ht : P.underlying t = some (.slice e)) (hi : P.info? e = some i) (hz : i.zero = some z) (hs : i.size = 2)
    (len : Nat) (hb : i.bytes * len ≤ 281474976710656) (hl : len ≤ 9223372036854775807) :
    (Instr.makeSlice t (.int .i64 (len : Int)) (.int .i64 (len : Int))).run P w = .ok (.slice (some ⟨w.heap.size, 0, none⟩) len len) (w.alloc (.cells (madeCells z.cells (len * 2)) e)) := by
  have h := run_make (P := P) w t e i z ht hi hz .i64 .i64 (len : Int) (len : Int) (by omega) (Int.le_refl _) (by
    have : ((i.bytes * len : Nat) : Int) ≤ 281474976710656 := by omega
    rwa [Int.natCast_mul] at this) (by omega)
  rw [h, hs]
  simp
/-- How far the block of numbers that may have failed is filled. -/
structure Mfl (g n k : Nat) (F : Nat → Nat) (wr : World) : Prop where
  set_ : ∀ j, j < k → wr.cell? ⟨g, j * 2, none⟩ = some (.float .f32 (F j)) ∧ wr.cell? ⟨g, j * 2 + 1, none⟩ = some (.bool true)
  ex : ∀ j, j < n → (∃ v, wr.cell? ⟨g, j * 2, none⟩ = some v) ∧ (∃ v, wr.cell? ⟨g, j * 2 + 1, none⟩ = some v)
  fz : ∀ j, wr.frozen? ⟨g, j, none⟩ = false
  lt : g < wr.heap.size
theorem Mfl.start (w : World) (n : Nat) (F : Nat → Nat) (z : Array Value) (T : TypeId) : Mfl w.heap.size n 0 F (w.alloc (.cells (madeCells z (n * 2)) T)) := by
  refine ⟨fun j hj => by omega, fun j hj => ?_, fun j => World.frozen?_alloc_at _ _ _ _ rfl, by simp⟩
  constructor
  · rw [World.cell?_alloc_at _ _ _ _ rfl]
    exact ⟨_, Array.getElem?_eq_getElem (by rw [size_madeCells]; omega)⟩
  · rw [World.cell?_alloc_at _ _ _ _ rfl]
    exact ⟨_, Array.getElem?_eq_getElem (by rw [size_madeCells]; omega)⟩
theorem Mfl.below {g n k : Nat} {F : Nat → Nat} {wr wr' : World} (h : Mfl g n k F wr) (hb : Below wr.heap.size wr wr') : Mfl g n k F wr' :=
  ⟨fun j hj => ⟨by rw [hb.cell (p := ⟨g, j * 2, none⟩) h.lt]; exact (h.set_ j hj).1, by rw [hb.cell (p := ⟨g, j * 2 + 1, none⟩) h.lt]; exact (h.set_ j hj).2⟩,
    fun j hj => ⟨by rw [hb.cell (p := ⟨g, j * 2, none⟩) h.lt]; exact (h.ex j hj).1, by rw [hb.cell (p := ⟨g, j * 2 + 1, none⟩) h.lt]; exact (h.ex j hj).2⟩,
    fun j => by rw [hb.frozen (p := ⟨g, j, none⟩) h.lt]; exact h.fz j, Nat.lt_of_lt_of_le h.lt hb.size⟩
theorem Mfl.step {g n k : Nat} {F : Nat → Nat} {wr : World} (h : Mfl g n k F wr) (hk : k < n) : Mfl g n (k + 1) F ((wr.setCell ⟨g, k * 2, none⟩ (.float .f32 (F k))).setCell ⟨g, k * 2 + 1, none⟩ (.bool true)) := by
  obtain ⟨⟨v1, hv1⟩, ⟨v2, hv2⟩⟩ := h.ex k hk
  refine ⟨fun j hj => ?_, fun j hj => ?_, fun j => by rw [World.frozen?_setCell, World.frozen?_setCell]; exact h.fz j, by simpa [World.setCell] using h.lt⟩
  · by_cases e : j = k
    · subst e
      refine ⟨?_, World.cell?_setCell_same' _ _ _ (by rw [setCell_far (by omega)]; rw [hv2]; rfl)⟩
      rw [setCell_far (by omega)]
      exact World.cell?_setCell_same' _ _ _ (by rw [hv1]; rfl)
    · rw [setCell_far (by omega), setCell_far (by omega), setCell_far (by omega), setCell_far (by omega)]
      exact h.set_ j (by omega)
  · obtain ⟨⟨u1, hu1⟩, ⟨u2, hu2⟩⟩ := h.ex j hj
    by_cases e : j = k
    · subst e
      refine ⟨⟨.float .f32 (F j), ?_⟩, ⟨_, World.cell?_setCell_same' _ _ _ (by rw [setCell_far (by omega)]; rw [hv2]; rfl)⟩⟩
      rw [setCell_far (by omega)]
      exact World.cell?_setCell_same' _ _ _ (by rw [hv1]; rfl)
    · rw [setCell_far (by omega), setCell_far (by omega), setCell_far (by omega), setCell_far (by omega)]
      exact ⟨⟨u1, hu1⟩, ⟨u2, hu2⟩⟩
theorem Mfl.msl {g n : Nat} {F : Nat → Nat} {wr : World} (h : Mfl g n n F wr) : MSl wr (some ⟨g, 0, none⟩) n F (fun _ => true) :=
  .inr ⟨g, 0, rfl, h.lt, fun j hj => by rw [Nat.zero_add]; exact h.set_ j hj⟩
theorem Try.infoM : (Try.prog.info? 93).map (fun i => (i.zero, i.size, i.bytes)) = some (some (.agg #[.float .f32 0, .bool false]), 2, 8) := by kernel_rfl
set_option maxHeartbeats 4000000 in
set_option maxRecDepth 100000 in
theorem imNsh_any (a : Option Addr) (n cap : Nat) (L : List FRw) (a' : Option Addr) (len' cap' : Nat) (x : List Nat) (w : World) (h : RSl w a n L) (h' : FSl w a' len' x) (hm : n ≤ 1048576) (hm' : len' ≤ 1048576) :
    Calls Try.prog 43 #[.slice a n cap, .slice a' len' cap'] w (RetNS (nsI (zz L) x) (nsV (zz L) x) (nsB (zz L) x) w) := by
  obtain ⟨i0, hi, hz0, hz1, hz2⟩ : ∃ i0, Try.prog.info? 93 = some i0 ∧ i0.zero = some (.agg #[.float .f32 0, .bool false]) ∧ i0.size = 2 ∧ i0.bytes = 8 := info_parts Try.infoM
  have H := Lib.hid h
  have H' := Lib.hid h'
  have HL := Lib.hid (show (zz L).length = n by rw [zz_len]; exact h.1.1)
  clear h h'
  cases hs : shpZ (zz L)
  · have HS := Lib.hid hs
    have HB := Lib.hid (ns_bad (Z := zz L) (x := x) (by unfold nsB; rw [hs]; rfl))
    clear hs
    go_enter Try.func43, Try.ntmps43
    go_wp2_with fail
    refine (imShp_any _ _ _ _ _ H.out hm).mono ?_
    rw [HS.out]
    rintro e w' ⟨m, rfl, rfl⟩
    go_wp2
    go_ret3
    exact ⟨0, by rw [HB.out.2.1]; exact cn_zero, by rw [HB.out.1, HB.out.2.2]; rfl, below_drewN (Below.refl _ _) _⟩
  · have hsn := shp_t hs
    have hn1 := hsn.1
    have hn2 := hsn.2.1
    rw [HL.out] at hn1 hn2
    have HS := Lib.hid hs
    have HNb := Lib.hid (show nsB (zz L) x = nsAll (zz L) x by unfold nsB; rw [hs]; rfl)
    clear hs hsn
    go_enter Try.func43, Try.ntmps43
    go_wp2_with fail
    refine (imShp_any _ _ _ _ _ H.out hm).mono ?_
    rw [HS.out]
    rintro e w' ⟨m, rfl, rfl⟩
    have hmk := fun W => run_make_len2 (P := Try.prog) W 91 93 i0 (.agg #[.float .f32 0, .bool false]) Try.underlying91 hi hz0 hz1 n (by rw [hz2]; omega) (by omega)
    have HI0 := Lib.hid (Mfl.start (w.drewN m) n (nF (zz L) x) (Value.agg #[.float .f32 0, .bool false]).cells 93)
    have HB0 := Lib.hid (show Below w.heap.size w ((w.drewN m).alloc (.cells (madeCells (Value.agg #[.float .f32 0, .bool false]).cells (n * 2)) 93)) from (below_drewN (Below.refl _ _) m).alloc (Nat.le_refl _) _)
    clear hi hz0 hz1 hz2
    go_wp2
    clear hmk
    go_loopw [20] (fun c wr => ∃ k : Nat, k ≤ n ∧ c = .int .i64 k ∧ Hid (Mfl w.heap.size n k (nF (zz L) x) wr) ∧ Hid (Below w.heap.size w wr) ∧ Hid (∀ j, j < k → farB ((zz L).getD j []) x = true)) (fun c _ => n - (intOf c).toNat)
    case atStart => exact ⟨0, Nat.zero_le _, rfl, HI0, HB0, Lib.hid (fun j hj => by omega)⟩
    case round =>
      rename World => wo
      obtain ⟨k, hk, rfl, hf, hbel, hq⟩ := hrel
      by_cases hlt : k < n
      · obtain ⟨b, off, rfl, hblt, hc⟩ := H.out.1.at (by omega)
        have hck := hc k hlt
        rw [← hbel.out.cell (p := ⟨b, off + k, none⟩) hblt] at hck
        obtain ⟨hF, hFm⟩ := H.out.2 k hlt
        have HFw := Lib.hid (FSl.below hF hbel.out)
        have HXw := Lib.hid (FSl.below H'.out hbel.out)
        have hzk : (zz L).getD k [] = (L.getD k FRw.none).zs := zz_at L
        have HNF := Lib.hid (show nF (zz L) x k = farX (L.getD k FRw.none).zs x by unfold nF; rw [hzk])
        have HBad := Lib.hid (show farB (L.getD k FRw.none).zs x = false → nsB (zz L) x = false from fun hh => by
          rw [HNb.out]; unfold nsAll; exact not_all_range (by rw [HL.out]; exact hlt) (by rw [hzk]; exact hh))
        have HNx := Lib.hid (show farB (L.getD k FRw.none).zs x = true → ∀ j, j < k + 1 → farB ((zz L).getD j []) x = true from fun hh j hj => by
          rcases Nat.lt_or_ge j k with g | g
          · exact hq.out j g
          · obtain rfl : j = k := by omega
            rw [hzk]; exact hh)
        unfold FRw.val at hck
        generalize L.getD k FRw.none = r at *
        obtain ⟨ra, rl, rc, rz⟩ := r
        simp only at hck hFm HFw HNF HBad HNx
        clear hc hF hblt hzk
        cases hB : farB rz x
        · have HBv := Lib.hid (ns_bad (HBad.out hB))
          have HFb := Lib.hid hB
          clear hB HBad HNx
          go_wp2_with fail
          refine (imFar_any _ _ _ _ _ _ _ _ _ HFw.out HXw.out hFm hm').mono ?_
          rw [HFb.out]
          rintro e w2 ⟨r, hr, rfl, hb⟩
          have HBe := Lib.hid (hbel.out.trans (hb.mono hbel.out.size))
          clear hr hb
          go_wp2
          go_ret3
          exact ⟨0, by rw [HBv.out.2.1]; exact cn_zero, by rw [HBv.out.1, HBv.out.2.2]; rfl, HBe.out⟩
        · have HFb := Lib.hid hB
          have hfin : fin .f32 (farX rz x) = true := by unfold farB at hB; exact (Bool.and_eq_true _ _ ▸ hB).2
          have HV := Lib.hid (show farV rz x = farX rz x by unfold farV; rw [hB]; rfl)
          have HFi := Lib.hid hfin
          have HN := Lib.hid (HNx.out hB)
          clear hB HBad HNx hfin hq
          go_wp2_with fail
          refine (imFar_any _ _ _ _ _ _ _ _ _ HFw.out HXw.out hFm hm').mono ?_
          rw [HFb.out]
          rintro e w2 ⟨r, hr, rfl, hb⟩
          obtain rfl : r = farX rz x := fin_word (hr.trans HV.out) HFi.out
          have hf2 := hf.out.below hb
          obtain ⟨⟨v1, hv1⟩, ⟨v2, hv2⟩⟩ := hf2.ex k hlt
          have hz1 := hf2.fz (k * 2)
          have hz2 := hf2.fz (k * 2 + 1)
          have HSt := Lib.hid (hf2.step hlt)
          rw [HNF.out] at HSt
          have hb2 := hbel.out.trans (hb.mono hbel.out.size)
          have HBe := Lib.hid ((hb2.setCell (p := ⟨w.heap.size, k * 2, none⟩) (Nat.le_refl _) (.float .f32 (farX rz x))).setCell (p := ⟨w.heap.size, k * 2 + 1, none⟩) (Nat.le_refl _) (.bool true))
          clear hr hb hf2 hb2
          generalize farX rz x = y at *
          go_wp2
          go_roundw
          case rel => exact ⟨k + 1, by omega, by go_num, HSt, HBe, HN⟩
          case measure => simp [intOf]; omega
      · have e : k = n := by omega
        have HMs := Lib.hid (show MSl wo (some ⟨w.heap.size, 0, none⟩) n (nF (zz L) x) (fun _ => true) from Mfl.msl (by rw [← e]; rw [e] at hf ⊢; exact hf.out))
        have hAll : nsB (zz L) x = true := by
          rw [HNb.out]; unfold nsAll; exact all_range (fun j hj => hq.out j (by rw [e]; rw [HL.out] at hj; exact hj))
        have HR := Lib.hid (show nsI (zz L) x = ((nst (nF (zz L) x) (fun _ => true) n).at_ : Int) ∧ nsV (zz L) x = (nst (nF (zz L) x) (fun _ => true) n).x ∧ nsB (zz L) x = true ∧ (nst (nF (zz L) x) (fun _ => true) n).ok = true ∧ cn .f32 (nst (nF (zz L) x) (fun _ => true) n).x = (nst (nF (zz L) x) (fun _ => true) n).x from by
          refine ⟨by unfold nsI nsN; rw [hAll, HL.out]; rfl, by unfold nsV nsN; rw [hAll, HL.out]; rfl, hAll, nst_ok _ hn1, ?_⟩
          obtain ⟨j, _, _, hx⟩ := nst_one (nF (zz L) x) hn1
          rw [hx]; exact cn_farX ..)
        clear e hAll hq hf
        go_wp2_with fail
        refine (nof_any _ _ _ _ _ _ HMs.out hm).mono ?_
        rintro e w2 ⟨rfl, hb⟩
        have HBe := Lib.hid (hbel.out.trans (hb.mono hbel.out.size))
        clear hb
        go_wp2
        go_ret3
        exact ⟨_, HR.out.2.2.2.2.trans HR.out.2.1.symm, by rw [HR.out.1, HR.out.2.2.1, HR.out.2.2.2.1]; rfl, HBe.out⟩
/-- What l07Nearest gives. -/
def RetL7 (b : Bool) (r : Nst) (w : World) (e : Ending) (w' : World) : Prop :=
  ∃ q, e = .returned (.tuple #[.int .i64 (if b then (r.at_ : Int) else 0), .float .f32 (if b then r.x else 0), .bool b]) ∧ w.drewN q = w'
def nsFin (Z : List (List Nat)) (x : List Nat) : Bool := (List.range Z.length).all (fun k => fin .f32 (nF Z x k))
set_option maxHeartbeats 4000000 in
set_option maxRecDepth 100000 in
theorem l07Nearest_any (a : Option Addr) (n cap : Nat) (L : List FRw) (a' : Option Addr) (len' cap' : Nat) (x : List Nat) (w : World) (h : RSl w a n L) (h' : FSl w a' len' x) (hm : n ≤ 1048576) (hll : ∀ j, j < n → (L.getD j FRw.none).len ≤ len') :
    Calls Try.prog 88 #[.slice a n cap, .slice a' len' cap'] w (RetL7 (nsFin (zz L) x) (nsN (zz L) x) w) := by
  have H := Lib.hid h
  have H' := Lib.hid h'
  have HLl := Lib.hid hll
  have HL := Lib.hid (show (zz L).length = n by rw [zz_len]; exact h.1.1)
  clear h h' hll
  go_enter Try.func88, Try.ntmps88
  go_wp2
  go_loopw [7, 8, 13] (fun p y c wr => ∃ k q : Nat, k ≤ n ∧ c = .int .i64 k ∧ p = .int .i64 ((nst (nF (zz L) x) (fun _ => true) k).at_ : Int) ∧ y = .float .f32 (nst (nF (zz L) x) (fun _ => true) k).x ∧ wr = w.drewN q ∧ Hid (∀ j, j < k → fin .f32 (nF (zz L) x j) = true)) (fun _ _ c _ => n - (intOf c).toNat)
  case atStart => exact ⟨0, 0, Nat.zero_le _, rfl, rfl, rfl, rfl, Lib.hid (fun j hj => by omega)⟩
  case round =>
    obtain ⟨k, q, hk, rfl, rfl, rfl, rfl, hq⟩ := hrel
    by_cases hlt : k < n
    · obtain ⟨b, off, rfl, hblt, hc⟩ := H.out.1.at (by omega)
      have hck := hc k hlt
      obtain ⟨hF, hFm⟩ := H.out.2 k hlt
      have hlk := HLl.out k hlt
      have HFw := Lib.hid hF
      have hzk : (zz L).getD k [] = (L.getD k FRw.none).zs := zz_at L
      have HNF := Lib.hid (show nF (zz L) x k = farX (L.getD k FRw.none).zs x by unfold nF; rw [hzk])
      have HBad := Lib.hid (show fin .f32 (farX (L.getD k FRw.none).zs x) = false → nsFin (zz L) x = false from fun hh => by
        unfold nsFin; exact not_all_range (by rw [HL.out]; exact hlt) (by rw [HNF.out]; exact hh))
      have HNx := Lib.hid (show fin .f32 (farX (L.getD k FRw.none).zs x) = true → ∀ j, j < k + 1 → fin .f32 (nF (zz L) x j) = true from fun hh j hj => by
        rcases Nat.lt_or_ge j k with g | g
        · exact hq.out j g
        · obtain rfl : j = k := by omega
          rw [HNF.out]; exact hh)
      have HSt := Lib.hid (show nst (nF (zz L) x) (fun _ => true) (k + 1) = if (!(nst (nF (zz L) x) (fun _ => true) k).ok || ltF (farX (L.getD k FRw.none).zs x) (nst (nF (zz L) x) (fun _ => true) k).x) = true then ⟨k, farX (L.getD k FRw.none).zs x, true⟩ else nst (nF (zz L) x) (fun _ => true) k from by rw [← HNF.out]; rfl)
      have HOk := Lib.hid (show 1 ≤ k → (nst (nF (zz L) x) (fun _ => true) k).ok = true from fun hh => nst_ok _ hh)
      have HO0 := Lib.hid (show k = 0 → (nst (nF (zz L) x) (fun _ => true) k).ok = false from fun hh => by rw [hh]; rfl)
      unfold FRw.val at hck
      generalize L.getD k FRw.none = r at *
      obtain ⟨ra, rl, rc, rz⟩ := r
      simp only at hck hFm HFw hlk HBad HNx HSt
      generalize nst (nF (zz L) x) (fun _ => true) k = S at *
      obtain ⟨A, X, B⟩ := S
      simp only at HSt HOk HO0
      clear hc hF hblt hzk HNF
      cases hfin : fin .f32 (farX rz x)
      · have HBv := Lib.hid (HBad.out hfin)
        have HFi := Lib.hid hfin
        clear hfin HBad HNx HSt HOk HO0
        go_wp2_with fail
        refine (l07Far_any _ _ _ _ _ _ _ _ _ (FSl.drewN HFw.out q) (FSl.drewN H'.out q) hFm hlk).mono ?_
        rintro e w' ⟨y, m2, hy, rfl, rfl⟩
        have HY := Lib.hid (show fin .f32 y = false from (fin_congr (hy.trans (cn_farX ..).symm)).trans HFi.out)
        clear hy
        go_wp2_with fail
        refine (l01Finite_any _ _).mono ?_
        rw [HY.out]
        rintro e w' ⟨m3, rfl, rfl⟩
        go_wp2
        go_ret3
        exact ⟨_, by rw [HBv.out]; rfl, rfl⟩
      · have HFi := Lib.hid hfin
        have HN := Lib.hid (HNx.out hfin)
        clear hfin HBad HNx hq
        go_wp2_with fail
        refine (l07Far_any _ _ _ _ _ _ _ _ _ (FSl.drewN HFw.out q) (FSl.drewN H'.out q) hFm hlk).mono ?_
        rintro e w' ⟨y, m2, hy, rfl, rfl⟩
        obtain rfl : y = farX rz x := fin_word hy HFi.out
        clear hy
        generalize farX rz x = y at *
        go_wp2_with fail
        refine (l01Finite_any _ _).mono ?_
        rw [HFi.out]
        rintro e w' ⟨m3, rfl, rfl⟩
        rcases Nat.eq_zero_or_pos k with h0 | h0
        · have hB := HO0.out h0
          have HS := Lib.hid (show nst (nF (zz L) x) (fun _ => true) (k + 1) = ⟨k, y, true⟩ by rw [HSt.out, hB]; rfl)
          have hd : ((k : Int) == 0) = true := by rw [beq_iff_eq]; omega
          clear HSt HOk HO0 hB h0
          go_wp2
          go_roundw
          case rel => exact ⟨k + 1, _, by omega, by go_num, by rw [HS.out], by rw [HS.out], rfl, HN⟩
          case measure => simp [intOf]; omega
        · have hB := HOk.out h0
          have hd : ((k : Int) == 0) = false := by rw [beq_eq_false_iff_ne]; omega
          cases hl : ltF y X
          · have ho : ((FloatKind.format .f32).order y X == some Ordering.lt) = false := hl
            have HS := Lib.hid (show nst (nF (zz L) x) (fun _ => true) (k + 1) = ⟨A, X, B⟩ by rw [HSt.out, hB, hl]; rfl)
            clear HSt HOk HO0 hB h0 hl
            go_wp2
            go_roundw
            case rel => exact ⟨k + 1, _, by omega, by go_num, by rw [HS.out], by rw [HS.out], rfl, HN⟩
            case measure => simp [intOf]; omega
          · have ho : ((FloatKind.format .f32).order y X == some Ordering.lt) = true := hl
            have HS := Lib.hid (show nst (nF (zz L) x) (fun _ => true) (k + 1) = ⟨k, y, true⟩ by rw [HSt.out, hl]; simp)
            clear HSt HOk HO0 hB h0 hl
            go_wp2
            go_roundw
            case rel => exact ⟨k + 1, _, by omega, by go_num, by rw [HS.out], by rw [HS.out], rfl, HN⟩
            case measure => simp [intOf]; omega
    · have e : k = n := by omega
      have HAll := Lib.hid (show nsFin (zz L) x = true from by unfold nsFin; exact all_range (fun j hj => hq.out j (by rw [e]; rw [HL.out] at hj; exact hj)))
      have HR := Lib.hid (show nst (nF (zz L) x) (fun _ => true) k = nsN (zz L) x by unfold nsN; rw [HL.out, e])
      clear e hq
      go_wp2
      go_ret3
      exact ⟨q, by rw [HAll.out, ← HR.out]; rfl, rfl⟩
set_option maxHeartbeats 4000000 in
set_option maxRecDepth 100000 in
theorem spNsh_any (a : Option Addr) (n cap : Nat) (L : List FRw) (a' : Option Addr) (len' cap' : Nat) (x : List Nat) (w : World) (h : RSl w a n L) (h' : FSl w a' len' x) (hm : n ≤ 1048576) (hm' : len' ≤ 1048576) :
    Calls Try.prog 41 #[.slice a n cap, .slice a' len' cap'] w (RetNS (nsI (zz L) x) (nsV (zz L) x) (nsB (zz L) x) w) := by
  have H := Lib.hid h
  have H' := Lib.hid h'
  have HL := Lib.hid (show (zz L).length = n by rw [zz_len]; exact h.1.1)
  have HX := Lib.hid h'.1
  clear h h'
  cases hs : shpZ (zz L)
  · have HS := Lib.hid hs
    have HB := Lib.hid (ns_bad (Z := zz L) (x := x) (by unfold nsB; rw [hs]; rfl))
    clear hs
    go_enter Try.func41, Try.ntmps41
    go_wp2_with fail
    refine (spShp_any _ _ _ _ _ H.out hm).mono ?_
    rw [HS.out]
    rintro e w' ⟨m, rfl, rfl⟩
    go_wp2
    go_ret3
    exact ⟨0, by rw [HB.out.2.1]; exact cn_zero, by rw [HB.out.1, HB.out.2.2]; rfl, below_drewN (Below.refl _ _) _⟩
  · have hsn := shp_t hs
    have hn1 := hsn.1
    rw [HL.out] at hn1
    have HS := Lib.hid hs
    obtain ⟨b, off, rfl, hblt, hc⟩ := H.out.1.at (by omega)
    have hc0 := hc 0 (by omega)
    rw [Nat.add_zero] at hc0
    obtain ⟨hF0, _⟩ := H.out.2 0 (by omega)
    have hz0 : (zz L).getD 0 [] = (L.getD 0 FRw.none).zs := zz_at L
    have hl0 : ((zz L).getD 0 []).length = (L.getD 0 FRw.none).len := by rw [hz0]; exact hF0.1
    have hlens : ∀ j, j < n → (L.getD j FRw.none).len = (L.getD 0 FRw.none).len := fun j hj => by
      have h1 := (hsn.2.2 j (by rw [HL.out]; exact hj)).2
      rw [zz_at, (H.out.2 j hj).1.1, hl0] at h1
      exact h1
    have HLens := Lib.hid hlens
    have HSer := Lib.hid (show ∀ j, j < n → serB ((zz L).getD j []) = true ∧ ((zz L).getD j []).length = (L.getD 0 FRw.none).len from fun j hj => ⟨(hsn.2.2 j (by rw [HL.out]; exact hj)).1, (hsn.2.2 j (by rw [HL.out]; exact hj)).2.trans hl0⟩)
    have HNb := Lib.hid (show nsB (zz L) x = nsAll (zz L) x by unfold nsB; rw [hs]; rfl)
    have HNot := Lib.hid (show farB ((zz L).getD 0 []) x = false → nsB (zz L) x = false from fun hh => by rw [HNb.out]; unfold nsAll; exact not_all_range (by rw [HL.out]; exact hn1) hh)
    unfold FRw.val at hc0
    generalize L.getD 0 FRw.none = r0 at *
    obtain ⟨sa, sl, sc, sz⟩ := r0
    simp only at hc0 HLens HSer
    clear hs hsn hc hF0 hz0 hl0 hlens hblt
    cases hx : serB x
    · have HXs := Lib.hid hx
      have HB := Lib.hid (ns_bad (HNot.out (by unfold farB pairB; rw [hx]; simp)))
      clear hx
      go_enter Try.func41, Try.ntmps41
      go_wp2_with fail
      refine (spShp_any _ _ _ _ _ H.out hm).mono ?_
      rw [HS.out]
      rintro e w' ⟨m, rfl, rfl⟩
      go_wp2_with fail
      refine (specSeries_any _ _ _ _ _ (FSl.drewN H'.out m) hm').mono ?_
      rw [HXs.out]
      rintro e w' ⟨m2, rfl, rfl⟩
      go_wp2
      go_ret3
      exact ⟨0, by rw [HB.out.2.1]; exact cn_zero, by rw [HB.out.1, HB.out.2.2]; rfl, below_drewN (Below.refl _ _) _⟩
    · have HXs := Lib.hid hx
      by_cases he : len' = sl
      · have hne : ((len' : Int) != (sl : Int)) = false := by rw [bne_eq_false_iff_eq]; omega
        have HFB := Lib.hid (show ∀ j, j < n → farB ((zz L).getD j []) x = fin .f32 (nF (zz L) x j) from fun j hj => by
          unfold farB pairB nF
          rw [(HSer.out j hj).1, hx, (HSer.out j hj).2, HX.out, he, decide_eq_true rfl]; rfl)
        have HEq := Lib.hid (show nsB (zz L) x = nsFin (zz L) x from by
          rw [HNb.out]; unfold nsAll nsFin
          rw [HL.out]
          have : ∀ j ∈ List.range n, (farB ((zz L).getD j []) x) = fin .f32 (nF (zz L) x j) := fun j hj => HFB.out j (by simpa using hj)
          rw [Bool.eq_iff_iff, List.all_eq_true, List.all_eq_true]
          exact ⟨fun h j hj => by rw [← this j hj]; exact h j hj, fun h j hj => by rw [this j hj]; exact h j hj⟩)
        have HCn := Lib.hid (show cn .f32 (nsN (zz L) x).x = (nsN (zz L) x).x from by
          unfold nsN
          obtain ⟨j, _, _, hx⟩ := nst_one (nF (zz L) x) (n := (zz L).length) (by rw [HL.out]; exact hn1)
          rw [hx]; exact cn_farX ..)
        have HLe := Lib.hid (show ∀ j, j < n → (L.getD j FRw.none).len ≤ len' from fun j hj => by rw [HLens.out j hj]; omega)
        clear hx he
        cases hfn : nsFin (zz L) x
        · have HFn := Lib.hid hfn
          have HB := Lib.hid (ns_bad (HEq.out.trans hfn))
          clear hfn
          go_enter Try.func41, Try.ntmps41
          go_wp2_with fail
          refine (spShp_any _ _ _ _ _ H.out hm).mono ?_
          rw [HS.out]
          rintro e w' ⟨m, rfl, rfl⟩
          go_wp2_with fail
          refine (specSeries_any _ _ _ _ _ (FSl.drewN H'.out m) hm').mono ?_
          rw [HXs.out]
          rintro e w' ⟨m2, rfl, rfl⟩
          go_wp2_with fail
          refine (l07Nearest_any _ _ _ _ _ _ _ _ _ (RSl.drewN H.out _) (FSl.drewN H'.out _) hm HLe.out).mono ?_
          rw [HFn.out]
          rintro e w' ⟨m3, rfl, rfl⟩
          go_wp2
          go_ret3
          exact ⟨0, by rw [HB.out.2.1]; exact cn_zero, by rw [HB.out.1, HB.out.2.2]; rfl, below_drewN (Below.refl _ _) _⟩
        · have HFn := Lib.hid hfn
          have HB := Lib.hid (show nsI (zz L) x = ((nsN (zz L) x).at_ : Int) ∧ nsV (zz L) x = (nsN (zz L) x).x ∧ nsB (zz L) x = true from by
            have hb := HEq.out.trans hfn
            exact ⟨by unfold nsI; rw [hb]; rfl, by unfold nsV; rw [hb]; rfl, hb⟩)
          clear hfn
          go_enter Try.func41, Try.ntmps41
          go_wp2_with fail
          refine (spShp_any _ _ _ _ _ H.out hm).mono ?_
          rw [HS.out]
          rintro e w' ⟨m, rfl, rfl⟩
          go_wp2_with fail
          refine (specSeries_any _ _ _ _ _ (FSl.drewN H'.out m) hm').mono ?_
          rw [HXs.out]
          rintro e w' ⟨m2, rfl, rfl⟩
          go_wp2_with fail
          refine (l07Nearest_any _ _ _ _ _ _ _ _ _ (RSl.drewN H.out _) (FSl.drewN H'.out _) hm HLe.out).mono ?_
          rw [HFn.out]
          rintro e w' ⟨m3, rfl, rfl⟩
          go_wp2
          go_ret3
          exact ⟨_, HCn.out.trans HB.out.2.1.symm, by rw [HB.out.1, HB.out.2.2]; rfl, below_drewN (Below.refl _ _) _⟩
      · have hne : ((len' : Int) != (sl : Int)) = true := by rw [bne_iff_ne]; omega
        have HB := Lib.hid (ns_bad (HNot.out (by unfold farB pairB; rw [(HSer.out 0 (by omega)).2, HX.out, decide_eq_false (Ne.symm he)]; simp)))
        clear hx he
        go_enter Try.func41, Try.ntmps41
        go_wp2_with fail
        refine (spShp_any _ _ _ _ _ H.out hm).mono ?_
        rw [HS.out]
        rintro e w' ⟨m, rfl, rfl⟩
        go_wp2_with fail
        refine (specSeries_any _ _ _ _ _ (FSl.drewN H'.out m) hm').mono ?_
        rw [HXs.out]
        rintro e w' ⟨m2, rfl, rfl⟩
        go_wp2
        go_ret3
        exact ⟨0, by rw [HB.out.2.1]; exact cn_zero, by rw [HB.out.1, HB.out.2.2]; rfl, below_drewN (Below.refl _ _) _⟩
end Go.Proofs.Ytpaelafopjmklaa
