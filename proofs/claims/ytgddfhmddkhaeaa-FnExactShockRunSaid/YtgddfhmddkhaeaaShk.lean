/-
  ShockRun, plainly, and the program's closure.
-/
import Derived.Test.YtgddfhmddkhaeaaLvz
import Derived.Test.YtgddfhmddkhaeaaCBox
import Derived.Test.YtgddfhmddkhaeaaCPos
import Derived.Test.YtgddfhmddkhaeaaFnn
import Derived.Test.YtgddfhmddkhaeaaPl2
import Derived.Test.YtgddfhmddkhaeaaCis
namespace Go.Proofs.Ytgddfhmddkhaeaa
open Ieee Go.RowKit
set_option linter.unusedVariables false
theorem shk_lt (op : BinOp) (x y : Nat) (w : World) : fopR op .f32 x y w < 4294967296 := fopR_lt op .f32 x y w
def shH (zs : List Nat) (b s k : Nat) : Nat → Nat
  | 0 => aop .quo .f32 (cn .f32 b) (aop .sub .f32 (aop .sub .f32 1065353216 (cn .f32 s)) (cn .f32 k))
  | i + 1 => aop .add .f32 (aop .add .f32 (cn .f32 b) (aop .mul .f32 (cn .f32 s) (aop .mul .f32 (cn .f32 (zs.getD i 0)) (cn .f32 (zs.getD i 0))))) (aop .mul .f32 (cn .f32 k) (shH zs b s k i))
theorem shH_cn (zs : List Nat) (b s k : Nat) : ∀ i, cn .f32 (shH zs b s k i) = shH zs b s k i
  | 0 => cn_aop ..
  | _ + 1 => cn_aop ..
/-- The square that is known behind i calls. -/
def shQ (zs : List Nat) (b s k i : Nat) : Nat := shH zs b s k (i - 1)
def shU (zs : List Nat) (b s k i : Nat) : Nat := unlW (cn .f32 (zs.getD i 0)) (shH zs b s k i)
def shS (zs : List Nat) (b s k : Nat) : Nat → Nat
  | 0 => 0
  | i + 1 => aop .add .f32 (shS zs b s k i) (shU zs b s k i)
/-- What the closure keeps, behind i calls. -/
def ShkI (ba bb bs bk bq bu : Nat) (a : Option Addr) (n cap : Nat) (zs : List Nat) (b s k : Nat) (i : Nat) (wr : World) : Prop :=
  BoxI ba a n cap zs wr ∧ wr.cell? ⟨bb, 0, none⟩ = some (.float .f32 b) ∧ wr.cell? ⟨bs, 0, none⟩ = some (.float .f32 s) ∧ wr.cell? ⟨bk, 0, none⟩ = some (.float .f32 k) ∧
    (∃ q, wr.cell? ⟨bq, 0, none⟩ = some (.float .f32 q) ∧ wr.frozen? ⟨bq, 0, none⟩ = false ∧ q < 4294967296 ∧ cn .f32 q = shQ zs b s k i) ∧
    (∃ u, wr.cell? ⟨bu, 0, none⟩ = some (.float .f32 u) ∧ wr.frozen? ⟨bu, 0, none⟩ = false ∧ cn .f32 u = shS zs b s k i)
theorem ShkI.keep {ba bb bs bk bq bu B : Nat} {a : Option Addr} {n cap : Nat} {zs : List Nat} {b s k i : Nat} {wr wr' : World} (h : ShkI ba bb bs bk bq bu a n cap zs b s k i wr) (h1 : ba < B) (h2 : bb < B) (h3 : bs < B) (h4 : bk < B) (h5 : bq < B) (h6 : bu < B) (hb : Below B wr wr') : ShkI ba bb bs bk bq bu a n cap zs b s k i wr' := by
  obtain ⟨c1, c2, c3, c4, ⟨q, d1, d2, d3, d4⟩, ⟨u, e1, e2, e3⟩⟩ := h
  exact ⟨c1.keep h1 hb, by rw [hb.cell (p := ⟨bb, 0, none⟩) h2]; exact c2, by rw [hb.cell (p := ⟨bs, 0, none⟩) h3]; exact c3, by rw [hb.cell (p := ⟨bk, 0, none⟩) h4]; exact c4,
    ⟨q, by rw [hb.cell (p := ⟨bq, 0, none⟩) h5]; exact d1, by rw [hb.frozen (p := ⟨bq, 0, none⟩) h5]; exact d2, d3, d4⟩, ⟨u, by rw [hb.cell (p := ⟨bu, 0, none⟩) h6]; exact e1, by rw [hb.frozen (p := ⟨bu, 0, none⟩) h6]; exact e2, e3⟩⟩
set_option maxHeartbeats 4000000 in
set_option maxRecDepth 100000 in
theorem shk1_zero (ba bb bs bk bq bu g B0 i : Nat) (a : Option Addr) (n cap : Nat) (zs : List Nat) (b s k : Nat) (wr : World) (h : ShkI ba bb bs bk bq bu a n cap zs b s k i wr) (h1 : ba < bb) (h2 : bb < bs) (h3 : bs < bk) (h4 : bk < bq) (h5 : bq < bu) (h6 : bu < g) (hB0 : B0 ≤ bq) (hg : g < wr.heap.size) (hi : i < n) (hm : n ≤ 1048576) (h0 : i = 0) :
    Calls Try.prog 89 #[.int .i64 i, .pointer (some ⟨ba, 0, none⟩), .pointer (some ⟨bb, 0, none⟩), .pointer (some ⟨bs, 0, none⟩), .pointer (some ⟨bk, 0, none⟩), .pointer (some ⟨bq, 0, none⟩), .pointer (some ⟨bu, 0, none⟩)] wr (Tells (shH zs b s k) (ShkI ba bb bs bk bq bu a n cap zs b s k) B0 g i wr) := by
  obtain ⟨⟨c0, hbx⟩, c2, c3, c4, ⟨Q0, d1, d2, d3, d4⟩, ⟨u, e1, e2, e3⟩⟩ := h
  obtain ⟨bz, oz, rfl, hbz, hzs⟩ := hbx (by omega)
  have hzi := hzs i hi
  have hi0 : (0 : Int) ≤ (i : Int) := by omega
  have hi1 : (i : Int) < (n : Int) := by omega
  have HZS := Lib.hid hzs
  have hd0 : decide ((0 : Int) < (i : Int)) = false := decide_eq_false (by omega)
  have h00 : ¬ (0 < i) := by omega
  have HQ := Lib.hid (show cn .f32 Q0 = shH zs b s k i by rw [d4, h0]; rfl)
  have f1 := d1
  have f2 := c2
  have f3 := c3
  have f4 := c4
  have f5 := d2
  have f6 := e1
  have f7 := e2
  have hQlt := d3
  have HBX := Lib.hid (show BoxI ba (some ⟨bz, oz, none⟩) n cap zs wr from ⟨c0, fun _ => ⟨bz, oz, rfl, hbz, hzs⟩⟩)
  have HBW := Lib.hid (Below.refl B0 wr)
  have HGW := Lib.hid (rfl : wr.heap[g]? = wr.heap[g]?)
  clear h0 d1 d2 d3 d4 e2 c2 c3 c4 hzs hbx HZS
  have hqq : ∀ mm v, ((wr.drewN mm).setCell ⟨bu, 0, none⟩ v).cell? ⟨bq, 0, none⟩ = some (.float .f32 Q0) := fun mm v => by rw [World.cell?_setCell_other _ _ _ _ (by intro e; injection e with e1 _ _; omega)]; exact f1
  have HI := Lib.hid (show ∀ mm u', cn .f32 u' = shS zs b s k (i + 1) → ShkI ba bb bs bk bq bu (some ⟨bz, oz, none⟩) n cap zs b s k (i + 1) ((wr.drewN mm).setCell ⟨bu, 0, none⟩ (.float .f32 u')) from fun mm u' hu => by
    have hbl : Below bu wr ((wr.drewN mm).setCell ⟨bu, 0, none⟩ (.float .f32 u')) := (below_drewN (Below.refl bu wr) mm).setCell (p := ⟨bu, 0, none⟩) (Nat.le_refl _) _
    exact ⟨HBX.out.keep (by omega) hbl, by rw [hbl.cell (p := ⟨bb, 0, none⟩) (by show bb < bu; omega)]; exact f2, by rw [hbl.cell (p := ⟨bs, 0, none⟩) (by show bs < bu; omega)]; exact f3, by rw [hbl.cell (p := ⟨bk, 0, none⟩) (by show bk < bu; omega)]; exact f4,
      ⟨Q0, by rw [hbl.cell (p := ⟨bq, 0, none⟩) (by show bq < bu; omega)]; exact f1, by rw [hbl.frozen (p := ⟨bq, 0, none⟩) (by show bq < bu; omega)]; exact f5, hQlt, HQ.out⟩,
      ⟨u', World.cell?_setCell_same' _ _ _ (show (wr.cell? ⟨bu, 0, none⟩).isSome = true by rw [f6]; rfl), by rw [World.frozen?_setCell]; exact f7, hu⟩⟩)
  have HBF := Lib.hid (show ∀ mm v, Below B0 wr ((wr.drewN mm).setCell ⟨bu, 0, none⟩ v) from fun mm v => (below_drewN HBW.out mm).setCell (p := ⟨bu, 0, none⟩) (show B0 ≤ bu by omega) v)
  have HGF := Lib.hid (show ∀ mm v, ((wr.drewN mm).setCell ⟨bu, 0, none⟩ v).heap[g]? = wr.heap[g]? from fun mm v => by rw [Below.heap_setCell _ ⟨bu, 0, none⟩ v g (show g ≠ bu by omega)]; exact HGW.out)
  have HU := Lib.hid (show ∀ r w', cn .f32 r = unlW (cn .f32 (zs.getD i 0)) (cn .f32 Q0) → cn .f32 (fopR .add .f32 u r w') = shS zs b s k (i + 1) from fun r w' hr => by rw [cn_fopR, e3, hr, HQ.out]; rfl)
  clear HBW HGW
  generalize zs.getD i 0 = z at *
  go_enter Try.func89, Try.ntmps89
  go_wp2_with fail
  go_region_with
    ((go_at_call 90; refine (unl_any _ _ _ hQlt).mono ?_; rintro e w2 ⟨r, nr, hr, rfl, rfl⟩))
  all_goals
    go_wp2
    go_ret
    exact ⟨Q0, rfl, HQ.out, (HI.out _ _ (HU.out _ _ hr)), HBF.out _ _, HGF.out _ _⟩
end Go.Proofs.Ytgddfhmddkhaeaa
