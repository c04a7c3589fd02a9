/-
  LagDifferences, in both packages.
-/
import Derived.Test.YtallegmkkbmelabCBox
import Derived.Test.YtallegmkkbmelabCMea
import Derived.Deep.QuietTactic
import Derived.BigQuiet
import Derived.Test.YtallegmkkbmelabFnf
import Derived.Deep.RegionHeld3
import Derived.Deep.AppendLies
namespace Go.Proofs.Ytallegmkkbmelab
open Ieee Go.RowKit
set_option linter.unusedVariables false

theorem own_at {T : TypeId} {B : Nat} {wx wr : World} {v : Value} {rs : List Nat} (h : FOwn T B wr v rs) (e : wx.heap = wr.heap) (o : Obj) : (wx.alloc o).ownsRow B T 1 v rs.length (rs.map (Value.float .f32)) := by
  refine World.ownsRow.alloc ⟨h.1, ?_⟩ o
  rw [e]; exact h.2
theorem FOwn.ne {T : TypeId} {B b : Nat} {w : World} {v : Value} {rs : List Nat} (h : FOwn T B w v rs) (hb : b < B) : v.ownBlock ≠ some b := fun e => by have := (h.lt b e).1; omega
theorem push_at {T : TypeId} {B r g c : Nat} {w wy wr w1 : World} {v : Value} {rs : List Nat} (h : FOwn T B wr v rs) (hby : Below B w wy) (hB : B ≤ wy.heap.size)
    (hown : w1.ownsRow B T 1 (.slice (some ⟨g, 0, none⟩) (rs.length + 1) c) (rs.length + 1) (rs.map (Value.float .f32) ++ [.float .f32 r])) (hg : wy.grownBy w1 v.ownBlock) : FOwn T B w1 (.slice (some ⟨g, 0, none⟩) (rs.length + 1) c) (rs ++ [r]) ∧ Below B w w1 := by
  refine ⟨?_, hby.grown hg hB (fun k hk => (h.lt k hk).1)⟩
  unfold FOwn
  rw [List.length_append, List.map_append]
  exact hown

/-- Finite numbers are taken from one another, and added, without a draw. -/
theorem fin_datum {k : FloatKind} {x : Nat} (h : fin k x = true) : ∃ s m p, k.format.read x = .number s m p := by
  unfold fin isN isI at h
  cases hr : k.format.read x with
  | number s m p => exact ⟨s, m, p, rfl⟩
  | infinity s => rw [hr] at h; simp [Datum.isNaN, Datum.isInfinity] at h
  | nan s t => rw [hr] at h; simp [Datum.isNaN, Datum.isInfinity] at h
theorem sub_run {P : Program} (t : TypeId) {x y : Nat} (hx : fin .f32 x = true) (hy : fin .f32 y = true) (w : World) : (binOp .sub t (.float .f32 x) (.float .f32 y)).run P w = .ok (.float .f32 (aop .sub .f32 x y)) w := by
  obtain ⟨s, m, p, h1⟩ := fin_datum hx
  obtain ⟨s', m', p', h2⟩ := fin_datum hy
  have hf : ∃ r, floatBits .sub .f32 x y = some r := by
    show ∃ r, Option.map (FloatKind.format .f32).write (((FloatKind.format .f32).read x).sum (((FloatKind.format .f32).read y).opposite)) = some r
    rw [h1, h2]; exact ⟨_, rfl⟩
  obtain ⟨r, hf⟩ := hf
  rw [run_float_arith w .sub t .f32 x y r hf]
  unfold aop
  rw [hf]; rfl
theorem add_run {P : Program} (t : TypeId) {x y : Nat} (hx : fin .f32 x = true) (hy : fin .f32 y = true) (w : World) : (binOp .add t (.float .f32 x) (.float .f32 y)).run P w = .ok (.float .f32 (aop .add .f32 x y)) w := by
  obtain ⟨s, m, p, h1⟩ := fin_datum hx
  obtain ⟨s', m', p', h2⟩ := fin_datum hy
  have hf : ∃ r, floatBits .add .f32 x y = some r := by
    show ∃ r, Option.map (FloatKind.format .f32).write (((FloatKind.format .f32).read x).sum ((FloatKind.format .f32).read y)) = some r
    rw [h1, h2]; exact ⟨_, rfl⟩
  obtain ⟨r, hf⟩ := hf
  rw [run_float_arith w .add t .f32 x y r hf]
  unfold aop
  rw [hf]; rfl
def lagB (zs : List Nat) (a : Int) : Bool := serB zs && decide (1 ≤ a ∧ a < zs.length)
theorem lagB_t {zs : List Nat} {a : Int} (h : lagB zs a = true) : serB zs = true ∧ 1 ≤ a ∧ a < zs.length ∧ zs.length ≤ 96 := by
  unfold lagB at h
  have h1 := (Bool.and_eq_true _ _ ▸ h).1
  have h2 := of_decide_eq_true (Bool.and_eq_true _ _ ▸ h).2
  exact ⟨h1, h2.1, h2.2, (serB_t h1).2.1⟩
theorem lagB_f {zs : List Nat} {a : Int} (h : lagB zs a = false) (hs : serB zs = true) : a < 1 ∨ (1 ≤ a ∧ zs.length ≤ a) := by
  unfold lagB at h
  rw [hs] at h
  have := of_decide_eq_false (show decide (1 ≤ a ∧ a < zs.length) = false from h)
  omega
def lagZ (zs : List Nat) (n k : Nat) : List Nat := tells (fun j => aop .sub .f32 (cn .f32 (zs.getD (n + j) 0)) (cn .f32 (zs.getD j 0))) k
def lagL (zs : List Nat) (a : Int) : List Nat := lagZ zs a.toNat (zs.length - a.toNat)
def lagOk (zs : List Nat) (a : Int) : Bool := lagB zs a && fins (lagL zs a)
def lagR (zs : List Nat) (a : Int) : List Nat := if lagB zs a then lstR (lagL zs a) else []
theorem lagR_len (zs : List Nat) (a : Int) : (lagR zs a).length ≤ 1048576 := by
  unfold lagR
  split
  · rename_i h
    obtain ⟨_, h1, h2, h3⟩ := lagB_t h
    unfold lstR
    split
    · unfold lagL lagZ
      rw [tells_len]
      omega
    · simp
  · simp
theorem lag_bad {zs : List Nat} {a : Int} (h : lagB zs a = false) : lagOk zs a = false ∧ lagR zs a = [] := by unfold lagOk lagR; rw [h]; exact ⟨rfl, rfl⟩
theorem lag_good {zs : List Nat} {a : Int} (h : lagB zs a = true) : lagOk zs a = fins (lagL zs a) ∧ lagR zs a = lstR (lagL zs a) := by unfold lagOk lagR; rw [h]; exact ⟨rfl, rfl⟩

/-- What the closure of LagDifferences reads: two lists in boxes, of which the later one is the rest of the other. -/
def LagI (bs bl : Nat) (b off len cap n : Nat) (zs : List Nat) (_k : Nat) (wr : World) : Prop :=
  wr.cell? ⟨bs, 0, none⟩ = some (.slice (some ⟨b, off + n, none⟩) (len - n) (cap - n)) ∧ wr.cell? ⟨bl, 0, none⟩ = some (.slice (some ⟨b, off, none⟩) len cap) ∧ ∀ j, j < len → wr.cell? ⟨b, off + j, none⟩ = some (.float .f32 (zs.getD j 0))
theorem LagI.keep {bs bl b off len cap n k B : Nat} {zs : List Nat} {wr wr' : World} (h : LagI bs bl b off len cap n zs k wr) (h1 : bl < B) (h2 : bs < B) (h3 : b < B) (hb : Below B wr wr') : LagI bs bl b off len cap n zs k wr' :=
  ⟨by rw [hb.cell (p := ⟨bs, 0, none⟩) h2]; exact h.1, by rw [hb.cell (p := ⟨bl, 0, none⟩) h1]; exact h.2.1, fun j hj => by rw [hb.cell (p := ⟨b, off + j, none⟩) h3]; exact h.2.2 j hj⟩
theorem LagI.start {w : World} {b off len cap m n : Nat} {zs : List Nat} {t t' : TypeId} (hb : b < w.heap.size) (h : ∀ j, j < len → w.cell? ⟨b, off + j, none⟩ = some (.float .f32 (zs.getD j 0))) :
    LagI (w.heap.size + 1) w.heap.size b off len cap n zs 0 (((w.alloc (.cells #[.slice (some ⟨b, off, none⟩) len cap] t)).drewN m).alloc (.cells #[.slice (some ⟨b, off + n, none⟩) (len - n) (cap - n)] t')) := by
  refine ⟨?_, ?_, fun j hj => ?_⟩
  · rw [World.cell?_alloc_at _ _ _ _ (by simp)]; rfl
  · rw [World.cell?_alloc_past _ _ _ (by simp)]
    show (w.alloc _).cell? _ = _
    rw [World.cell?_alloc_at _ _ _ _ rfl]; rfl
  · rw [World.cell?_alloc_past _ _ _ (by simp; omega)]
    show (w.alloc _).cell? _ = _
    rw [World.cell?_alloc_past _ _ _ hb]
    exact h j hj
end Go.Proofs.Ytallegmkkbmelab
