/-
  ShockRun: the program's closure behind the first number.
-/
import Derived.Test.YtgddfhmddkhaeaaShk
import Derived.Deep.DeepCutAuto
namespace Go.Proofs.Ytgddfhmddkhaeaa
open Ieee Go.RowKit
set_option linter.unusedVariables false
theorem shk_store {wr : World} {m bq bu g q x u : Nat} (c : wr.cell? ⟨bq, 0, none⟩ = some (.float .f32 q)) (f : wr.frozen? ⟨bq, 0, none⟩ = false) (hu : wr.cell? ⟨bu, 0, none⟩ = some (.float .f32 u)) (hf : wr.frozen? ⟨bu, 0, none⟩ = false) (h1 : bq < bu) (h2 : g ≠ bq) :
    ((wr.drewN m).setCell ⟨bq, 0, none⟩ (.float .f32 x)).cell? ⟨bq, 0, none⟩ = some (.float .f32 x) ∧ ((wr.drewN m).setCell ⟨bq, 0, none⟩ (.float .f32 x)).frozen? ⟨bq, 0, none⟩ = false ∧ Below bq wr ((wr.drewN m).setCell ⟨bq, 0, none⟩ (.float .f32 x)) ∧ ((wr.drewN m).setCell ⟨bq, 0, none⟩ (.float .f32 x)).heap[g]? = wr.heap[g]? ∧
      (((wr.drewN m).setCell ⟨bq, 0, none⟩ (.float .f32 x)).cell? ⟨bu, 0, none⟩ = some (.float .f32 u) ∧ ((wr.drewN m).setCell ⟨bq, 0, none⟩ (.float .f32 x)).frozen? ⟨bu, 0, none⟩ = false) :=
  ⟨World.cell?_setCell_same' _ _ _ (show (wr.cell? ⟨bq, 0, none⟩).isSome = true by rw [c]; rfl), by rw [World.frozen?_setCell]; exact f, (below_drewN (Below.refl bq wr) m).setCell (p := ⟨bq, 0, none⟩) (Nat.le_refl _) _,
    by rw [Below.heap_setCell _ ⟨bq, 0, none⟩ _ g h2]; rfl, by rw [World.cell?_setCell_other _ _ _ _ (by intro e; injection e with e1 _ _; omega)]; exact hu, by rw [World.frozen?_setCell]; exact hf⟩
set_option maxHeartbeats 4000000 in
set_option maxRecDepth 100000 in
theorem shk1_pos (ba bb bs bk bq bu g B0 i : Nat) (a : Option Addr) (n cap : Nat) (zs : List Nat) (b s k : Nat) (wr : World) (h : ShkI ba bb bs bk bq bu a n cap zs b s k i wr) (h1 : ba < bb) (h2 : bb < bs) (h3 : bs < bk) (h4 : bk < bq) (h5 : bq < bu) (h6 : bu < g) (hB0 : B0 ≤ bq) (hg : g < wr.heap.size) (hi : i < n) (hm : n ≤ 1048576) (h0 : 0 < i) :
    Calls Try.prog 89 #[.int .i64 i, .pointer (some ⟨ba, 0, none⟩), .pointer (some ⟨bb, 0, none⟩), .pointer (some ⟨bs, 0, none⟩), .pointer (some ⟨bk, 0, none⟩), .pointer (some ⟨bq, 0, none⟩), .pointer (some ⟨bu, 0, none⟩)] wr (Tells (shH zs b s k) (ShkI ba bb bs bk bq bu a n cap zs b s k) B0 g i wr) := by
  obtain ⟨⟨c0, hbx⟩, c2, c3, c4, ⟨Q0, d1, d2, d3, d4⟩, ⟨u, e1, e2, e3⟩⟩ := h
  obtain ⟨bz, oz, rfl, hbz, hzs⟩ := hbx (by omega)
  have hzi := hzs i hi
  have hi0 : (0 : Int) ≤ (i : Int) := by omega
  have hi1 : (i : Int) < (n : Int) := by omega
  have HZS := Lib.hid hzs
  have hd0 : decide ((0 : Int) < (i : Int)) = true := decide_eq_true (by omega)
  have hw1 : IntKind.i64.wrap ((i : Int) - 1) = ((i - 1 : Nat) : Int) := by rw [IntKind.wrap_i64]; omega
  have hj0 : (0 : Int) ≤ ((i - 1 : Nat) : Int) := by omega
  have hj1 : ((i - 1 : Nat) : Int) < (n : Int) := by omega
  have hzp := hzs (i - 1) (by omega)
  have HQ1 := Lib.hid (show ∀ w1 w2 w3 w4 w5, cn .f32 (fopR .add .f32 (fopR .add .f32 b (fopR .mul .f32 s (fopR .mul .f32 (zs.getD (i - 1) 0) (zs.getD (i - 1) 0) w1) w2) w3) (fopR .mul .f32 k Q0 w4) w5) = shH zs b s k i from fun w1 w2 w3 w4 w5 => by
    rw [cn_fopR, cn_fopR, cn_fopR, cn_fopR, cn_fopR, d4]
    unfold shQ
    obtain ⟨i', rfl⟩ : ∃ i', i = i' + 1 := ⟨i - 1, by omega⟩
    rfl)
  have HBX0 := Lib.hid (show BoxI ba (some ⟨bz, oz, none⟩) n cap zs wr from ⟨c0, fun _ => ⟨bz, oz, rfl, hbz, hzs⟩⟩)
  clear hzs hbx HZS d4 hd0
  have hd0 : decide ((0 : Int) < (i : Int)) = true := decide_eq_true (by omega)
  obtain ⟨jj, hjj⟩ : ∃ j, i - 1 = j := ⟨_, rfl⟩
  rw [hjj] at hw1 hj0 hj1 hzp HQ1
  generalize zs.getD jj 0 = zp at *
  clear hjj
  go_enter Try.func89, Try.ntmps89
  go_upto_region 3 with fail
  go_cut [27] (fun v27 w1 => ∃ Q1, Hid (w1.cell? ⟨bq, 0, none⟩ = some (.float .f32 Q1)) ∧ Hid (w1.frozen? ⟨bq, 0, none⟩ = false) ∧ Hid (Q1 < 4294967296) ∧ Hid (cn .f32 Q1 = shH zs b s k i) ∧ Hid (Below bq wr w1) ∧ Hid (w1.heap[g]? = wr.heap[g]?) ∧ Hid (w1.cell? ⟨bu, 0, none⟩ = some (.float .f32 u) ∧ w1.frozen? ⟨bu, 0, none⟩ = false))
  case first =>
    go_wp2_with fail
    go_meet
    case rel =>
      exact ⟨_, Lib.hid (shk_store d1 d2 e1 e2 (by omega) (show g ≠ bq by omega)).1, Lib.hid (shk_store d1 d2 e1 e2 (by omega) (show g ≠ bq by omega)).2.1, Lib.hid (shk_lt ..), Lib.hid (HQ1.out _ _ _ _ _), Lib.hid (shk_store d1 d2 e1 e2 (by omega) (show g ≠ bq by omega)).2.2.1, Lib.hid (shk_store d1 d2 e1 e2 (by omega) (show g ≠ bq by omega)).2.2.2.1, Lib.hid (shk_store d1 d2 e1 e2 (by omega) (show g ≠ bq by omega)).2.2.2.2⟩
  case rest =>
    obtain ⟨Q1, k1, k2, k3, k4, k5, k6, k7⟩ := hcut
    have f1 := k1.out
    have f5 := k2.out
    have hQlt := k3.out
    have HQ := k4
    have HGW := k6
    have f6 := k7.out.1
    have f7 := k7.out.2
    have f2 : wc.cell? ⟨bb, 0, none⟩ = some (.float .f32 b) := by rw [k5.out.cell (p := ⟨bb, 0, none⟩) (by show bb < bq; omega)]; exact c2
    have f3 : wc.cell? ⟨bs, 0, none⟩ = some (.float .f32 s) := by rw [k5.out.cell (p := ⟨bs, 0, none⟩) (by show bs < bq; omega)]; exact c3
    have f4 : wc.cell? ⟨bk, 0, none⟩ = some (.float .f32 k) := by rw [k5.out.cell (p := ⟨bk, 0, none⟩) (by show bk < bq; omega)]; exact c4
    have HBX := Lib.hid (HBX0.out.keep (B := bq) (by omega) k5.out)
    have c00 := HBX.out.1
    have hziw : wc.cell? ⟨bz, oz + i, none⟩ = some (.float .f32 (zs.getD i 0)) := by rw [k5.out.cell (p := ⟨bz, oz + i, none⟩) (by show bz < bq; omega)]; exact hzi
    have HBW := Lib.hid (k5.out.mono hB0)
    clear k1 k2 k3 k4 k5 k6 k7 hzi c2 c3 c4 d1 d2 d3 hzp e1 e2 c0 HQ1 HBX0
    have hqq : ∀ mm v, ((wc.drewN mm).setCell ⟨bu, 0, none⟩ v).cell? ⟨bq, 0, none⟩ = some (.float .f32 Q1) := fun mm v => by rw [World.cell?_setCell_other _ _ _ _ (by intro e; injection e with e1 _ _; omega)]; exact f1
    have HI := Lib.hid (show ∀ mm u', cn .f32 u' = shS zs b s k (i + 1) → ShkI ba bb bs bk bq bu (some ⟨bz, oz, none⟩) n cap zs b s k (i + 1) ((wc.drewN mm).setCell ⟨bu, 0, none⟩ (.float .f32 u')) from fun mm u' hu => by
      have hbl : Below bu wc ((wc.drewN mm).setCell ⟨bu, 0, none⟩ (.float .f32 u')) := (below_drewN (Below.refl bu wc) mm).setCell (p := ⟨bu, 0, none⟩) (Nat.le_refl _) _
      exact ⟨HBX.out.keep (by omega) hbl, by rw [hbl.cell (p := ⟨bb, 0, none⟩) (by show bb < bu; omega)]; exact f2, by rw [hbl.cell (p := ⟨bs, 0, none⟩) (by show bs < bu; omega)]; exact f3, by rw [hbl.cell (p := ⟨bk, 0, none⟩) (by show bk < bu; omega)]; exact f4,
        ⟨Q1, by rw [hbl.cell (p := ⟨bq, 0, none⟩) (by show bq < bu; omega)]; exact f1, by rw [hbl.frozen (p := ⟨bq, 0, none⟩) (by show bq < bu; omega)]; exact f5, hQlt, HQ.out⟩,
        ⟨u', World.cell?_setCell_same' _ _ _ (show (wc.cell? ⟨bu, 0, none⟩).isSome = true by rw [f6]; rfl), by rw [World.frozen?_setCell]; exact f7, hu⟩⟩)
    have HBF := Lib.hid (show ∀ mm v, Below B0 wr ((wc.drewN mm).setCell ⟨bu, 0, none⟩ v) from fun mm v => (below_drewN HBW.out mm).setCell (p := ⟨bu, 0, none⟩) (show B0 ≤ bu by omega) v)
    have HGF := Lib.hid (show ∀ mm v, ((wc.drewN mm).setCell ⟨bu, 0, none⟩ v).heap[g]? = wr.heap[g]? from fun mm v => by rw [Below.heap_setCell _ ⟨bu, 0, none⟩ v g (show g ≠ bu by omega)]; exact HGW.out)
    have HU := Lib.hid (show ∀ r w', cn .f32 r = unlW (cn .f32 (zs.getD i 0)) (cn .f32 Q1) → cn .f32 (fopR .add .f32 u r w') = shS zs b s k (i + 1) from fun r w' hr => by rw [cn_fopR, e3, hr, HQ.out]; rfl)
    clear HBW HGW
    generalize zs.getD i 0 = z at *
    go_wp2_with fail
    go_region_with
      ((go_at_call 90; refine (unl_any _ _ _ hQlt).mono ?_; rintro e w2 ⟨r, nr, hr, rfl, rfl⟩))
    all_goals
      go_wp2
      go_ret
      exact ⟨Q1, rfl, HQ.out, (HI.out _ _ (HU.out _ _ hr)), HBF.out _ _, HGF.out _ _⟩
end Go.Proofs.Ytgddfhmddkhaeaa
