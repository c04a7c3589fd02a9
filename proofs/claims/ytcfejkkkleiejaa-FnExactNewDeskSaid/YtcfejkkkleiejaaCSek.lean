/-
  SeasonOf, in both packages: the whole functions (from stage 3 on: CSei is stage 2's).
-/
import Derived.Test.YtcfejkkkleiejaaCMbp
namespace Go.Proofs.Ytcfejkkkleiejaa
open Ieee Go.RowKit
set_option linter.unusedVariables false

/-- What the closure of SeasonOf reads. -/
def SeaI (bl bm : Nat) (a : Option Addr) (n cp : Nat) (rs : List Nat) (mm : Nat) (_k : Nat) (wr : World) : Prop :=
  BoxI bl a n cp rs wr ∧ ∃ x, wr.cell? ⟨bm, 0, none⟩ = some (.float .f32 x) ∧ cn .f32 x = mm
theorem SeaI.keep {bl bm B : Nat} {a : Option Addr} {n cp k k' mm : Nat} {rs : List Nat} {wr wr' : World} (h : SeaI bl bm a n cp rs mm k wr) (h1 : bl < B) (h2 : bm < B) (hb : Below B wr wr') : SeaI bl bm a n cp rs mm k' wr' := by
  obtain ⟨g1, x, hx, hx2⟩ := h
  exact ⟨g1.keep h1 hb, x, by rw [hb.cell (p := ⟨bm, 0, none⟩) h2]; exact hx, hx2⟩
def seaT (rs : List Nat) (mm : Nat) (j : Nat) : Nat := aop .sub .f32 (cn .f32 (rs.getD j 0)) mm
theorem sea_tells {rs zs : List Nat} {n : Nat} (h : cnl rs = meansZ zs n n) : tells (seaT rs (seaM zs n)) n = seaZ zs n := by
  unfold seaZ
  rw [← h]
  have hl : rs.length = n := by rw [← cnl_len, h]; unfold meansZ; rw [tells_len]
  unfold tells less32 seaT cnl
  refine List.ext_getElem (by simp [hl]) fun i h1 h2 => ?_
  have hi : i < rs.length := by simp at h1; omega
  simp [List.getD, hi, cn_cn]

end Go.Proofs.Ytcfejkkkleiejaa
