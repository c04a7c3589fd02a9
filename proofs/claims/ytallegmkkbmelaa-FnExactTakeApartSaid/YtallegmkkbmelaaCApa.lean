/-
  TakeApart of the program, whole.
-/
import Derived.Test.YtallegmkkbmelaaCApo
namespace Go.Proofs.Ytallegmkkbmelaa
open Ieee Go.RowKit
set_option linter.unusedVariables false

/-- Three lists and a bool. -/
def RetL3 (T : TypeId) (xs0 xs1 xs2 : List Nat) (ok : Bool) (w : World) (e : Ending) (w' : World) : Prop :=
  ∃ v0 r0 v1 r1 v2 r2, e = .returned (.tuple #[v0, v1, v2, .bool ok]) ∧ (FOwn T w.heap.size w' v0 r0 ∧ FOwn T w.heap.size w' v1 r1 ∧ FOwn T w.heap.size w' v2 r2) ∧ (cnl r0 = xs0 ∧ cnl r1 = xs1 ∧ cnl r2 = xs2) ∧ (Apt v0 v1 ∧ Apt v0 v2 ∧ Apt v1 v2) ∧ Below w.heap.size w w'
theorem apt_nil (v : Value) : Apt (.slice none 0 0) v := fun b e => by simp [Value.ownBlock] at e
theorem fail_l3 (T : TypeId) {xs0 xs1 xs2 : List Nat} {ok : Bool} (hok : ok = false) (h0 : xs0 = []) (h1 : xs1 = []) (h2 : xs2 = []) {w w' : World} (hb : Below w.heap.size w w') : RetL3 T xs0 xs1 xs2 ok w (.returned (.tuple #[.slice none 0 0, .slice none 0 0, .slice none 0 0, .bool false])) w' :=
  ⟨_, [], _, [], _, [], by rw [hok], ⟨FOwn.nil .., FOwn.nil .., FOwn.nil ..⟩, ⟨h0.symm, h1.symm, h2.symm⟩, ⟨apt_nil _, apt_nil _, apt_nil _⟩, hb⟩
theorem FOwn.setO {T : TypeId} {B b : Nat} {w : World} {v : Value} {rs : List Nat} (h : FOwn T B w v rs) (hne : v.ownBlock ≠ some b) (i : Nat) (u : Value) : FOwn T B (w.setCell ⟨b, i, none⟩ u) v rs := by
  refine ⟨h.1, ?_⟩
  rcases h.2 with h2 | ⟨g, cap, cur, rfl, h3, h4, h5⟩
  · exact .inl h2
  · refine .inr ⟨g, cap, cur, rfl, h3, ?_, h5⟩
    rw [Below.heap_setCell w ⟨b, i, none⟩ u g (fun e => hne (by show some g = some b; rw [e]))]; exact h4
theorem FOwn.fsl {T : TypeId} {B : Nat} {w : World} {A : Option Addr} {n c : Nat} {rs : List Nat} (h : FOwn T B w (.slice A n c) rs) : n = rs.length ∧ FSl w A n rs := by
  obtain ⟨A', c', e, hs, _⟩ := h.sl
  injection e with e1 e2 e3
  subst e1 e2 e3
  exact ⟨rfl, hs⟩
theorem own_far {T : TypeId} {B b : Nat} {w : World} {v : Value} {rs : List Nat} (h : FOwn T B w v rs) (hb : b < B) : v.ownBlock ≠ some b := fun e => by have := (h.lt b e).1; omega
theorem own_far2 {T : TypeId} {B b : Nat} {w : World} {v : Value} {rs : List Nat} (h : FOwn T B w v rs) (hb : w.heap.size ≤ b) : v.ownBlock ≠ some b := fun e => by have := (h.lt b e).2; omega

/-- What stands behind t rounds. -/
structure ApSt (T : TypeId) (w wr : World) (a : Option Addr) (len cap m : Nat) (zs : List Nat) (q : Int) (t : Nat) (vs vt : Value) : Prop where
  bel : Below w.heap.size w wr
  list : BoxS (w.heap.size + 1) w.heap.size a len cap zs wr
  size : w.heap.size + 4 ≤ wr.heap.size
  cs : wr.cell? ⟨w.heap.size + 2, 0, none⟩ = some vs
  fs : wr.frozen? ⟨w.heap.size + 2, 0, none⟩ = false
  ct : wr.cell? ⟨w.heap.size + 3, 0, none⟩ = some vt
  ft : wr.frozen? ⟨w.heap.size + 3, 0, none⟩ = false
  own : ∃ rs, FOwn T w.heap.size wr vs rs ∧ cnl rs = apS zs m q.toNat t ∧ vs.ownBlock ≠ some (w.heap.size + 2) ∧ vs.ownBlock ≠ some (w.heap.size + 3)
  tr : 0 < t → (0 ≤ q ∧ q ≤ 96) ∧ fins (apS zs m q.toNat t) = true ∧ ∃ rt, FOwn T w.heap.size wr vt rt ∧ cnl rt = trZ zs (apS zs m q.toNat (t - 1)) q.toNat ∧ Apt vt vs
theorem ApSt.step {T : TypeId} {w wr w1 : World} {a : Option Addr} {len cap m : Nat} {zs : List Nat} {q : Int} {t : Nat} {vs vt v1 v2 : Value} {rs1 rs2 : List Nat} (h : ApSt T w wr a len cap m zs q t vs vt)
    (hb : Below wr.heap.size wr w1) (h1 : FOwn T wr.heap.size w1 v1 rs1) (h2 : FOwn T wr.heap.size w1 v2 rs2) (e1 : cnl rs1 = trZ zs (apS zs m q.toNat t) q.toNat) (e2 : cnl rs2 = apS zs m q.toNat (t + 1)) (hq : 0 ≤ q ∧ q ≤ 96) (hf : fins (apS zs m q.toNat (t + 1)) = true) (ha : Apt v1 v2) :
    ApSt T w ((w1.setCell ⟨w.heap.size + 3, 0, none⟩ v1).setCell ⟨w.heap.size + 2, 0, none⟩ v2) a len cap m zs q (t + 1) v2 v1 := by
  have hsz := h.size
  have hs1 := hb.size
  have c1 : w1.cell? ⟨w.heap.size + 2, 0, none⟩ = some vs := by rw [hb.cell (p := ⟨w.heap.size + 2, 0, none⟩) (by show w.heap.size + 2 < _; omega)]; exact h.cs
  have c2 : w1.cell? ⟨w.heap.size + 3, 0, none⟩ = some vt := by rw [hb.cell (p := ⟨w.heap.size + 3, 0, none⟩) (by show w.heap.size + 3 < _; omega)]; exact h.ct
  have hB : Below (w.heap.size + 1) w1 ((w1.setCell ⟨w.heap.size + 3, 0, none⟩ v1).setCell ⟨w.heap.size + 2, 0, none⟩ v2) := ((Below.refl _ _).setCell (by show w.heap.size + 1 ≤ w.heap.size + 3; omega) _).setCell (by show w.heap.size + 1 ≤ w.heap.size + 2; omega) _
  refine ⟨(h.bel.trans (hb.mono (by omega))).trans (hB.mono (by omega)), (h.list.keep (hb.mono (by omega))).keep hB, by simp [World.setCell]; omega, ?_, ?_, ?_, ?_, ⟨rs2, ?_, e2, own_far h2 (by omega), own_far h2 (by omega)⟩, fun _ => ⟨hq, hf, rs1, ?_, by rw [Nat.add_sub_cancel]; exact e1, ha⟩⟩
  · exact World.cell?_setCell_same' _ _ _ (by rw [World.cell?_setCell_other _ _ _ _ (fun he => by injection he with he; omega), c1]; rfl)
  · rw [World.frozen?_setCell, World.frozen?_setCell, hb.frozen (p := ⟨w.heap.size + 2, 0, none⟩) (by show w.heap.size + 2 < _; omega)]; exact h.fs
  · rw [World.cell?_setCell_other _ _ _ _ (fun he => by injection he with he; omega)]
    exact World.cell?_setCell_same' _ _ _ (by rw [c2]; rfl)
  · rw [World.frozen?_setCell, World.frozen?_setCell, hb.frozen (p := ⟨w.heap.size + 3, 0, none⟩) (by show w.heap.size + 3 < _; omega)]; exact h.ft
  · exact ((h2.mono (by omega)).setO (own_far h2 (by omega)) _ _).setO (own_far h2 (by omega)) _ _
  · exact ((h1.mono (by omega)).setO (own_far h1 (by omega)) _ _).setO (own_far h1 (by omega)) _ _
theorem BoxS.mk {w : World} {bl : Nat} {a : Option Addr} {len cap : Nat} {zs : List Nat} (hb : bl < w.heap.size) (h : FSl w a len zs) (hc : w.cell? ⟨bl, 0, none⟩ = some (.slice a len cap)) : BoxS w.heap.size bl a len cap zs w := by
  refine ⟨hb, h.1, hc, fun hp => ?_⟩
  obtain ⟨b, off, rfl, hlt, hcc⟩ := h.at hp
  exact ⟨b, off, rfl, hlt, hcc⟩
theorem onceB_cnl (zs s : List Nat) (q : Int) : onceB zs (cnl s) q = onceB zs s q := by unfold onceB; rw [nxZ_cnl]
theorem onceB_t {zs s : List Nat} {q : Int} (h : onceB zs s q = true) : (0 ≤ q ∧ q ≤ 96) ∧ fins (nxZ zs s q.toNat) = true := by
  unfold onceB at h
  exact ⟨of_decide_eq_true (Bool.and_eq_true _ _ ▸ h).1, (Bool.and_eq_true _ _ ▸ h).2⟩

set_option maxHeartbeats 4000000 in
theorem implApa_no (a : Option Addr) (len cap : Nat) (zs : List Nat) (p q r : Int) (w : World) (h : FSl w a len zs) (hm : len ≤ 1048576) (hB : (serB zs && (decide (1 ≤ p ∧ p ≤ zs.length) && decide (1 ≤ r ∧ r ≤ 8))) = false) :
    Calls Try.prog 22 #[.slice a len cap, .int .i64 p, .int .i64 q, .int .i64 r] w (RetL3 23 (apL zs p q r (apTr zs p q r)) (apL zs p q r (apSe zs p q r)) (apL zs p q r (apRe zs p q r)) (apB zs p q r) w) := by
  have hB0 : apB0 zs p q r = false := by
    refine Bool.eq_false_iff.2 fun hb => ?_
    obtain ⟨h1, h2, h3, _, _, h6, h7, _⟩ := apB_t hb
    rw [h1, decide_eq_true ⟨h2, h3⟩, decide_eq_true ⟨h6, h7⟩] at hB
    cases hB
  have HN := Lib.hid (ap_no hB0)
  have HF := Lib.hid (fun (w' : World) (hb : Below w.heap.size w w') => fail_l3 23 HN.out.1 (HN.out.2 (apTr zs p q r)) (HN.out.2 (apSe zs p q r)) (HN.out.2 (apRe zs p q r)) hb)
  have H := Lib.hid h
  have hl := h.1
  clear h hB0 HN
  cases hs : serB zs
  · have HS := Lib.hid hs
    clear hs hB
    go_enter Try.func22, Try.ntmps22
    go_wp2_with (go_at_call 32; refine (implSeries_any _ _ _ _ _ (FSl.below H.out ((Below.refl _ _).alloc (Nat.le_refl _) _)) hm).mono ?_; rw [HS.out]; rintro e w' ⟨m, rfl, rfl⟩)
    (try simp only [Exit.inBlock, Exit.then])
    refine bodyPost_ret (results_tmp4 rfl _ _ _) rfl ?_
    exact HF.out _ (below_drewN ((Below.refl _ _).alloc (Nat.le_refl _) _) _)
  · have HS := Lib.hid hs
    rw [hs, Bool.true_and] at hB
    have hq : p < 1 ∨ (1 ≤ p ∧ (len : Int) < p) ∨ (1 ≤ p ∧ p ≤ (len : Int) ∧ r < 1) ∨ (1 ≤ p ∧ p ≤ (len : Int) ∧ 1 ≤ r ∧ 8 < r) := by
      rw [hl] at hB
      by_cases h1 : 1 ≤ p ∧ p ≤ (len : Int)
      · rw [decide_eq_true h1, Bool.true_and] at hB
        have := of_decide_eq_false hB
        omega
      · omega
    clear hs hB
    rcases hq with g1 | ⟨g1, g2⟩ | ⟨g1, g2, g3⟩ | ⟨g1, g2, g3, g4⟩
    · have d1 : decide (p < 1) = true := decide_eq_true g1
      go_enter Try.func22, Try.ntmps22
      go_wp2_with (go_at_call 32; refine (implSeries_any _ _ _ _ _ (FSl.below H.out ((Below.refl _ _).alloc (Nat.le_refl _) _)) hm).mono ?_; rw [HS.out]; rintro e w' ⟨m, rfl, rfl⟩)
      (try simp only [Exit.inBlock, Exit.then])
      refine bodyPost_ret (results_tmp4 rfl _ _ _) rfl ?_
      exact HF.out _ (below_drewN ((Below.refl _ _).alloc (Nat.le_refl _) _) _)
    · have d1 : decide (p < 1) = false := decide_eq_false (by omega)
      have d2 : decide ((len : Int) < p) = true := decide_eq_true g2
      go_enter Try.func22, Try.ntmps22
      go_wp2_with (go_at_call 32; refine (implSeries_any _ _ _ _ _ (FSl.below H.out ((Below.refl _ _).alloc (Nat.le_refl _) _)) hm).mono ?_; rw [HS.out]; rintro e w' ⟨m, rfl, rfl⟩)
      (try simp only [Exit.inBlock, Exit.then])
      refine bodyPost_ret (results_tmp4 rfl _ _ _) rfl ?_
      exact HF.out _ (below_drewN ((Below.refl _ _).alloc (Nat.le_refl _) _) _)
    · have d1 : decide (p < 1) = false := decide_eq_false (by omega)
      have d2 : decide ((len : Int) < p) = false := decide_eq_false (by omega)
      have d3 : decide (r < 1) = true := decide_eq_true g3
      go_enter Try.func22, Try.ntmps22
      go_wp2_with (go_at_call 32; refine (implSeries_any _ _ _ _ _ (FSl.below H.out ((Below.refl _ _).alloc (Nat.le_refl _) _)) hm).mono ?_; rw [HS.out]; rintro e w' ⟨m, rfl, rfl⟩)
      (try simp only [Exit.inBlock, Exit.then])
      refine bodyPost_ret (results_tmp4 rfl _ _ _) rfl ?_
      exact HF.out _ (below_drewN ((Below.refl _ _).alloc (Nat.le_refl _) _) _)
    · have d1 : decide (p < 1) = false := decide_eq_false (by omega)
      have d2 : decide ((len : Int) < p) = false := decide_eq_false (by omega)
      have d3 : decide (r < 1) = false := decide_eq_false (by omega)
      have d4 : decide (8 < r) = true := decide_eq_true g4
      go_enter Try.func22, Try.ntmps22
      go_wp2_with (go_at_call 32; refine (implSeries_any _ _ _ _ _ (FSl.below H.out ((Below.refl _ _).alloc (Nat.le_refl _) _)) hm).mono ?_; rw [HS.out]; rintro e w' ⟨m, rfl, rfl⟩)
      (try simp only [Exit.inBlock, Exit.then])
      refine bodyPost_ret (results_tmp4 rfl _ _ _) rfl ?_
      exact HF.out _ (below_drewN ((Below.refl _ _).alloc (Nat.le_refl _) _) _)

theorem own_zero {T : TypeId} {B n : Nat} (w : World) (hB : B ≤ w.heap.size) (hn : n ≤ 1048576) : FOwn T B (w.alloc (.cells (madeCells #[.float .f32 0] n) T)) (.slice (some ⟨w.heap.size, 0, none⟩) n n) (List.replicate n 0) := by
  unfold FOwn
  rw [List.length_replicate]
  refine ⟨by simp, .inr ⟨w.heap.size, n, _, rfl, hB, heap_alloc_new w _, Nat.le_refl _, by unfold maxLen; omega, by rw [size_madeCells, Nat.mul_one], ?_⟩⟩
  rw [toList_madeCells_one, Nat.mul_one, List.map_replicate, List.take_of_length_le (by simp)]
theorem ApSt.start {T T2 : TypeId} {w : World} {a : Option Addr} {len cap m n0 : Nat} {zs : List Nat} {q : Int} (h : FSl w a len zs) (hm : m ≤ 1048576) :
    ApSt T w ((((((w.alloc (.cells #[.slice a len cap] T2)).drewN n0).alloc (.cells (madeCells #[.float .f32 0] m) T)).alloc (.cells #[.slice (some ⟨w.heap.size + 1, 0, none⟩) m m] T2)).alloc (.cells #[.slice none 0 0] T2))) a len cap m zs q 0 (.slice (some ⟨w.heap.size + 1, 0, none⟩) m m) (.slice none 0 0) := by
  have b1 : Below (w.heap.size + 1) (w.alloc (.cells #[.slice a len cap] T2)) ((((((w.alloc (.cells #[.slice a len cap] T2)).drewN n0).alloc (.cells (madeCells #[.float .f32 0] m) T)).alloc (.cells #[.slice (some ⟨w.heap.size + 1, 0, none⟩) m m] T2)).alloc (.cells #[.slice none 0 0] T2))) :=
    (((below_drewN (Below.refl _ _) n0).alloc (by simp) _).alloc (by simp) _).alloc (by simp) _
  have hz := own_zero (T := T) (B := w.heap.size) (n := m) ((w.alloc (.cells #[.slice a len cap] T2)).drewN n0) (by simp) hm
  refine ⟨((Below.refl _ _).alloc (Nat.le_refl _) _).trans (b1.mono (Nat.le_succ _)), (BoxS.start h).keep b1, by simp, ?_, ?_, ?_, ?_, ⟨List.replicate m 0, ?_, ?_, by simp [Value.ownBlock], by simp [Value.ownBlock]⟩, fun h0 => by omega⟩
  · rw [World.cell?_alloc_past _ _ _ (by simp), World.cell?_alloc_at _ _ _ _ (by simp)]; rfl
  · rw [World.frozen?_alloc_past _ _ _ (by simp), World.frozen?_alloc_at _ _ _ _ (by simp)]
  · rw [World.cell?_alloc_at _ _ _ _ (by simp)]; rfl
  · rw [World.frozen?_alloc_at _ _ _ _ (by simp)]
  · have e : (⟨((w.alloc (.cells #[.slice a len cap] T2)).drewN n0).heap.size, 0, none⟩ : Addr) = ⟨w.heap.size + 1, 0, none⟩ := by simp
    rw [e] at hz
    exact (hz.alloc _).alloc _
  · show cnl (List.replicate m 0) = List.replicate m 0
    unfold cnl; rw [List.map_replicate, cn_zero]

set_option maxHeartbeats 8000000 in
set_option maxRecDepth 100000 in
theorem implApa_yes (a : Option Addr) (len cap m R : Nat) (zs : List Nat) (q : Int) (w : World) (h : FSl w a len zs) (hs : serB zs = true) (hm1 : 1 ≤ m) (hml : m ≤ len) (hR1 : 1 ≤ R) (hR8 : R ≤ 8) :
    Calls Try.prog 22 #[.slice a len cap, .int .i64 m, .int .i64 q, .int .i64 R] w (RetL3 23 (apL zs m q R (apTr zs m q R)) (apL zs m q R (apSe zs m q R)) (apL zs m q R (apRe zs m q R)) (apB zs m q R) w) := by
  have hmf : ∀ (fn : Fn) (first cap : Array Value) (w : World), (Instr.makeFunc fn first cap).run Try.prog w = .ok (.func fn first cap) w := fun _ _ _ _ => rfl
  obtain ⟨i0, hi, hz0, hz1, hz2⟩ := info_parts Try.infoR
  have hl := h.1
  have hlen : len ≤ 96 := by rw [← hl]; exact (serB_t hs).2.1
  have hmk := fun W => run_make_len (P := Try.prog) W 22 23 i0 (.float .f32 0) Try.underlying22 hi hz0 hz1 m (by rw [hz2]; omega) (by omega)
  clear hi hz0 hz1 hz2
  have H := Lib.hid h
  have HSer := Lib.hid hs
  have HF := Lib.hid (fun (w' : World) (hb : Below w.heap.size w w') (h0 : apB zs m q R = false) => fail_l3 23 (w := w) (xs0 := apL zs m q R (apTr zs m q R)) (xs1 := apL zs m q R (apSe zs m q R)) (xs2 := apL zs m q R (apRe zs m q R)) h0 (by unfold apL; rw [h0]; rfl) (by unfold apL; rw [h0]; rfl) (by unfold apL; rw [h0]; rfl) hb)
  have HB0 := Lib.hid (show (0 ≤ q ∧ q ≤ 96) → apB0 zs (m : Int) q (R : Int) = true from fun hq => by
    unfold apB0
    rw [hs, decide_eq_true (show (1 : Int) ≤ (m : Int) ∧ (m : Int) ≤ (zs.length : Int) by rw [hl]; omega), decide_eq_true hq, decide_eq_true (show (1 : Int) ≤ (R : Int) ∧ (R : Int) ≤ 8 by omega)]; rfl)
  have HBad := Lib.hid (show ∀ t rs, t < R → cnl rs = apS zs m q.toNat t → onceB zs rs q = false → apB zs m q R = false from fun t rs ht e hb => by
    rw [← onceB_cnl, e] at hb
    by_cases hq : 0 ≤ q ∧ q ≤ 96
    · refine ap_bad (t := t) (HB0.out hq) (by rw [Int.toNat_natCast]; exact ht) ?_
      unfold onceB at hb
      rw [decide_eq_true hq, Bool.true_and] at hb
      rw [Int.toNat_natCast]; exact hb
    · refine (ap_no ?_).1
      unfold apB0
      rw [decide_eq_false hq]; simp)
  have d1 : decide ((m : Int) < 1) = false := decide_eq_false (by omega)
  have d2 : decide ((len : Int) < (m : Int)) = false := decide_eq_false (by omega)
  have d22 : decide (len < m) = false := decide_eq_false (by omega)
  have d3 : decide ((R : Int) < 1) = false := decide_eq_false (by omega)
  have d4 : decide (8 < (R : Int)) = false := decide_eq_false (by omega)
  clear h hs
  go_enter Try.func22, Try.ntmps22
  go_wp2_with (go_at_call 32; refine (implSeries_any _ _ _ _ _ (FSl.below H.out ((Below.refl _ _).alloc (Nat.le_refl _) _)) (by omega)).mono ?_; rw [HSer.out]; rintro e w' ⟨n0, rfl, rfl⟩)
  have HS0 := Lib.hid (ApSt.start (T := 23) (T2 := 22) (cap := cap) (n0 := n0) (q := q) H.out (show m ≤ 1048576 by omega))
  clear hmk
  go_wp2
  go_loopw [43] (fun c wr => ∃ (t ns cs nt ct : Nat) (As At : Option Addr), t ≤ R ∧ c = .int .i64 t ∧ Hid (ApSt 23 w wr a len cap m zs q t (.slice As ns cs) (.slice At nt ct))) (fun c _ => R - (intOf c).toNat)
  case atStart => exact ⟨0, _, _, _, _, _, _, Nat.zero_le _, rfl, HS0⟩
  case round =>
    obtain ⟨t, ns, cs, nt, ct, As, At, ht, rfl, hst⟩ := hrel
    clear HS0
    obtain ⟨rs, ho, hx, hn1, hn2⟩ := hst.out.own
    obtain ⟨hns, hfs⟩ := ho.fsl
    have hrl : rs.length = m := by rw [rs_len hx, apS_len]
    rw [hrl] at hns
    subst hns
    have HX := Lib.hid hx
    have HFs := Lib.hid hfs
    have HO := Lib.hid ho
    have k1 := hst.out.list.2.2.1
    have k2 := hst.out.cs
    have k3 := hst.out.ct
    have hsz := hst.out.size
    clear ho hx hfs
    by_cases hlt : t < R
    · have HLi := Lib.hid (BoxS.fsl hst.out.list)
      go_wp2_with fail
      refine (once_any _ _ _ _ _ _ _ _ _ _ HLi.out HFs.out HSer.out hm1 hml).mono ?_
      rintro e w1 ⟨A1, n1, c1, A2, n2, c2, rs1, rs2, rfl, hgood, hb⟩
      have hs1 := hb.size
      have j2 : w1.cell? ⟨w.heap.size + 2, 0, none⟩ = some (.slice As ns cs) := by rw [hb.cell (p := ⟨w.heap.size + 2, 0, none⟩) (by show w.heap.size + 2 < _; omega)]; exact k2
      have j3 : w1.cell? ⟨w.heap.size + 3, 0, none⟩ = some (.slice At nt ct) := by rw [hb.cell (p := ⟨w.heap.size + 3, 0, none⟩) (by show w.heap.size + 3 < _; omega)]; exact k3
      have f2 : w1.frozen? ⟨w.heap.size + 2, 0, none⟩ = false := by rw [hb.frozen (p := ⟨w.heap.size + 2, 0, none⟩) (by show w.heap.size + 2 < _; omega)]; exact hst.out.fs
      have f3 : w1.frozen? ⟨w.heap.size + 3, 0, none⟩ = false := by rw [hb.frozen (p := ⟨w.heap.size + 3, 0, none⟩) (by show w.heap.size + 3 < _; omega)]; exact hst.out.ft
      have j4 : (w1.setCell ⟨w.heap.size + 3, 0, none⟩ (.slice A1 n1 c1)).cell? ⟨w.heap.size + 2, 0, none⟩ = some (.slice As ns cs) := by rw [World.cell?_setCell_other _ _ _ _ (fun he => by injection he with he; omega)]; exact j2
      have f4 : (w1.setCell ⟨w.heap.size + 3, 0, none⟩ (.slice A1 n1 c1)).frozen? ⟨w.heap.size + 2, 0, none⟩ = false := by rw [World.frozen?_setCell]; exact f2
      have HB := Lib.hid hb
      have HG := Lib.hid hgood
      clear hgood hb
      cases hB : onceB zs rs q
      · have HN := Lib.hid (HBad.out t rs hlt HX.out hB)
        have G := Lib.hid (((hst.out.bel.trans (HB.out.mono (by omega))).setCell (p := ⟨w.heap.size + 3, 0, none⟩) (by show w.heap.size ≤ w.heap.size + 3; omega) (.slice A1 n1 c1)).setCell (p := ⟨w.heap.size + 2, 0, none⟩) (by show w.heap.size ≤ w.heap.size + 2; omega) (.slice A2 n2 c2))
        clear hB k1 k2 k3
        go_wp2
        (try simp only [Exit.inBlock, Exit.then])
        refine bodyPost_ret (results_tmp4 rfl _ _ _) rfl ?_
        exact HF.out _ G.out HN.out
      · obtain ⟨g1, g2, g3, g4, g5⟩ := HG.out hB
        have hq := onceB_t hB
        have e1 : trZ zs rs q.toNat = trZ zs (apS zs ns q.toNat t) q.toNat := by rw [← trZ_cnl, HX.out]
        have e2 : nxZ zs rs q.toNat = apS zs ns q.toNat (t + 1) := by rw [← nxZ_cnl, HX.out]; rfl
        have HST := Lib.hid (hst.out.step HB.out g1 g2 (g3.trans e1) (g4.trans e2) hq.1 (by rw [← e2]; exact hq.2) g5)
        clear hB k1 k2 k3 g1 g2 g3 g4 g5 hq e1 e2 HG HB
        go_wp2
        go_roundw
        case rel => exact ⟨t + 1, _, _, _, _, _, _, by omega, by go_num, HST⟩
        case measure => simp [intOf]; omega
    · obtain rfl : t = R := by omega
      obtain ⟨hq, hfS, rt, hot, hxt, hapt⟩ := hst.out.tr (by omega)
      have hrt : rt.length = len := by rw [rs_len hxt, trZ_len, hl]
      have HTx := Lib.hid hxt
      obtain ⟨hnt, hft⟩ := hot.fsl
      rw [hrt] at hnt
      subst hnt
      obtain ⟨R', hR'⟩ : ∃ R', t = R' + 1 := ⟨t - 1, by omega⟩
      have hap : apS zs ns q.toNat t = nxZ zs (apS zs ns q.toNat (t - 1)) q.toNat := by rw [hR', Nat.add_sub_cancel]; rfl
      have hTf : fins (trZ zs (apS zs ns q.toNat (t - 1)) q.toNat) = true := (round_fins (by rw [apS_len]; exact hm1) (by rw [apS_len, hl]; exact hml) (by rw [← hap]; exact hfS)).2.1
      have hTr : apTr zs (ns : Int) q (t : Int) = trZ zs (apS zs ns q.toNat (t - 1)) q.toNat := by unfold apTr; rw [Int.toNat_natCast, Int.toNat_natCast]
      have hSe : apSe zs (ns : Int) q (t : Int) = sprZ (apS zs ns q.toNat t) nt := by unfold apSe; rw [Int.toNat_natCast, Int.toNat_natCast, hl]
      have hSf : fins (sprZ (apS zs ns q.toNat t) nt) = true := fins_tells_iff.2 fun i hi => by
        rw [fin_congr (cn_cn .f32 _)]
        exact fins_at hfS (by rw [apS_len]; exact Nat.mod_lt _ (by omega))
      have HB := Lib.hid (show apB zs (ns : Int) q (t : Int) = fins (apRe zs (ns : Int) q (t : Int)) by unfold apB; rw [HB0.out hq, hTr, hTf, hSe, hSf]; rfl)
      have HL1 := Lib.hid (show apB zs (ns : Int) q (t : Int) = true → apL zs (ns : Int) q (t : Int) (apTr zs (ns : Int) q (t : Int)) = cnl rt from fun hb => by unfold apL; rw [hb, hTr, hxt]; rfl)
      have hev : tells (fun i => cn .f32 (rs.getD (i % rs.length) 0)) nt = sprZ (apS zs ns q.toNat t) nt := by rw [← HX.out, sprZ_cnl]; rfl
      have HbT := Lib.hid (BoxS.mk (cap := ct) (show w.heap.size + 3 < wr.heap.size by omega) hft hst.out.ct)
      have HbS := Lib.hid (BoxS.mk (cap := cs) (show w.heap.size + 2 < wr.heap.size by omega) HFs.out hst.out.cs)
      have HbL := Lib.hid (hst.out.list.more (B' := wr.heap.size) (by omega))
      have HOt := Lib.hid hot
      have HAp := Lib.hid hapt
      have G0 := Lib.hid hst.out.bel
      clear hot hapt hft hxt hst HBad hap hTf hR' hq
      go_wp2_with fail
      refine (places_any 48 #[.pointer (some ⟨w.heap.size + 2, 0, none⟩)] (fun i => cn .f32 (rs.getD (i % rs.length) 0)) (fun _ w' => BoxS wr.heap.size (w.heap.size + 2) As ns cs rs w') wr.heap.size nt _ (enter_of Try.func48 (by kernel_rfl) rfl) (by omega) (Nat.le_refl _) HbS.out (fun k w1 w2 h hb => h.keep hb) (fun k w1 hk hsz hI => apAll_any _ _ _ _ _ _ _ nt _ _ hI hk hlen (by omega) hml)).mono ?_
      rw [hev]
      rintro e w1 ⟨v3, rs3, rfl, ho3, hx3, hb3⟩
      rw [hSf]
      rw [lstR_true hSf] at hx3
      obtain ⟨A3, cp3, rfl, hsl3, _⟩ := ho3.sl
      have hrl3 : rs3.length = nt := by rw [rs_len hx3, sprZ_len]
      rw [hrl3] at hsl3 ho3 ⊢
      have hs1 := hb3.size
      have hb4 : Below w1.heap.size w1 (w1.alloc (.cells #[.slice A3 nt cp3] 22)) := (Below.refl _ _).alloc (Nat.le_refl _) _
      have E1 := Lib.hid (BoxS.start (cap := cp3) (t := 22) hsl3)
      have E2 := Lib.hid (((HbT.out.keep hb3).keep (hb4.mono hs1)).more (B' := w1.heap.size + 1) (by omega))
      have E3 := Lib.hid (((HbL.out.keep hb3).keep (hb4.mono hs1)).more (B' := w1.heap.size + 1) (by omega))
      have HOt2 := Lib.hid ((HOt.out.keepS hb3).keepS (hb4))
      have HO3 := Lib.hid (ho3.keepS hb4)
      have HA3 := Lib.hid (show Apt (.slice At nt ct) (.slice A3 nt cp3) from apt_of HOt.out ho3 (Nat.le_refl _))
      have HX3 := Lib.hid hx3
      have G1 := Lib.hid (G0.out.trans ((hb3.mono (by omega)).trans (hb4.mono (by omega))))
      have HSz := Lib.hid (show (w1.alloc (.cells #[.slice A3 nt cp3] 22)).heap.size = w1.heap.size + 1 by simp)
      have ca := E3.out.2.2.1
      have hre : tells (fun i => aop .sub .f32 (cn .f32 ((offZ zs rt).getD i 0)) (cn .f32 (rs3.getD i 0))) nt = apRe zs (ns : Int) q (t : Int) := by
        unfold apRe
        rw [hSe, ← HX3.out, offZ_cnl2]
        have e1 : offZ zs (apTr zs (ns : Int) q (t : Int)) = offZ zs rt := by rw [hTr, ← HTx.out, offZ_cnl2]
        rw [e1]
        show _ = tells _ (offZ zs rt).length
        rw [offZ_len, hl]
      clear hsl3 ho3 hx3 hb3 hb4 HbT HbL HbS HOt G0 k1 k2 k3
      go_wp2_with fail
      refine (places_any 49 #[.pointer (some ⟨w.heap.size, 0, none⟩), .pointer (some ⟨w.heap.size + 3, 0, none⟩), .pointer (some ⟨w1.heap.size, 0, none⟩)] (fun i => aop .sub .f32 (cn .f32 ((offZ zs rt).getD i 0)) (cn .f32 (rs3.getD i 0))) (fun _ w' => BoxS (w1.heap.size + 1) w.heap.size a nt cap zs w' ∧ BoxS (w1.heap.size + 1) (w.heap.size + 3) At nt ct rt w' ∧ BoxS (w1.heap.size + 1) w1.heap.size A3 nt cp3 rs3 w') (w1.heap.size + 1) nt _ (enter_of Try.func49 (by kernel_rfl) rfl) (by omega) (by rw [HSz.out]; exact Nat.le_refl _) ⟨E3.out, E2.out, E1.out⟩ (fun k w1 w2 h hb => by rw [HSz.out] at hb; exact ⟨h.1.keep hb, h.2.1.keep hb, h.2.2.keep hb⟩) (fun k w1 hk hsz hI => by rw [HSz.out]; exact apRest_any _ _ _ _ _ _ _ _ _ _ _ _ _ _ _ _ _ hI.1 hI.2.1 hI.2.2 hk hlen)).mono ?_
      rw [hre]
      rintro e w3 ⟨v4, rs4, rfl, ho4, hx4, hb5⟩
      obtain ⟨A4, cp4, rfl, _, _⟩ := ho4.sl
      have ct3 := (E2.out.keep hb5).2.2.1
      have ce3 := (E1.out.keep hb5).2.2.1
      have G3 := Lib.hid (G1.out.trans (hb5.mono (by omega)))
      cases hf : fins (apRe zs (ns : Int) q (t : Int))
      · have HN := Lib.hid (HB.out.trans hf)
        clear hx4 ho4 hb5 hf hre ca hev
        go_wp2
        (try simp only [Exit.inBlock, Exit.then])
        refine bodyPost_ret (results_tmp4 rfl _ _ _) rfl ?_
        exact HF.out _ G3.out HN.out
      · have hT := HB.out.trans hf
        rw [lstR_true hf] at hx4
        have HR3 := Lib.hid (show RetL3 23 (apL zs ns q t (apTr zs ns q t)) (apL zs ns q t (apSe zs ns q t)) (apL zs ns q t (apRe zs ns q t)) (apB zs ns q t) w (.returned (.tuple #[.slice At nt ct, .slice A3 nt cp3, .slice A4 rs4.length cp4, .bool true])) w3 from
          ⟨_, rt, _, rs3, _, rs4, by rw [hT], ⟨HOt2.out.keepS (by rw [HSz.out]; exact hb5), (HO3.out.keepS (by rw [HSz.out]; exact hb5)).mono (by omega), ho4.mono (by rw [HSz.out]; omega)⟩,
            ⟨(HL1.out hT).symm, by unfold apL; rw [hT, hSe, HX3.out]; rfl, by unfold apL; rw [hT, hx4]; rfl⟩,
            ⟨HA3.out, apt_of HOt2.out ho4 (Nat.le_refl _), apt_of HO3.out ho4 (Nat.le_refl _)⟩, G3.out⟩)
        clear hx4 ho4 hb5 hf hre ca hev hT
        go_wp2_with fail
        go_quiet (fail)
        go_wp2
        (try simp only [Exit.inBlock, Exit.then])
        refine bodyPost_ret (results_tmp4 rfl _ _ _) rfl ?_
        obtain ⟨v0, r0, v1, r1, v2, r2, e1, e2, e3, e4, e5⟩ := HR3.out
        exact ⟨v0, r0, v1, r1, v2, r2, e1, e2, e3, e4, below_drewN e5 _⟩
end Go.Proofs.Ytallegmkkbmelaa
