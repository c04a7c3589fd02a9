/-
  TakeApart of the program: one round.
-/
import Derived.Test.YtcfejkkkleiejaaCApp
import Derived.Test.YtcfejkkkleiejaaCMvi
import Derived.Test.YtcfejkkkleiejaaCSek
import Derived.BigRegion
namespace Go.Proofs.Ytcfejkkkleiejaa
open Ieee Go.RowKit
set_option linter.unusedVariables false

/-- A list in a box; both lie below B. -/
def BoxS (B bl : Nat) (a : Option Addr) (len cap : Nat) (zs : List Nat) (wr : World) : Prop :=
  bl < B ∧ zs.length = len ∧ wr.cell? ⟨bl, 0, none⟩ = some (.slice a len cap) ∧ (0 < len → ∃ b off, a = some ⟨b, off, none⟩ ∧ b < B ∧ ∀ j, j < len → wr.cell? ⟨b, off + j, none⟩ = some (.float .f32 (zs.getD j 0)))
theorem BoxS.keep {B bl : Nat} {a : Option Addr} {len cap : Nat} {zs : List Nat} {wr wr' : World} (h : BoxS B bl a len cap zs wr) (hb : Below B wr wr') : BoxS B bl a len cap zs wr' := by
  obtain ⟨h1, h2, h3, h4⟩ := h
  refine ⟨h1, h2, by rw [hb.cell (p := ⟨bl, 0, none⟩) h1]; exact h3, fun hp => ?_⟩
  obtain ⟨b, off, rfl, hlt, hc⟩ := h4 hp
  exact ⟨b, off, rfl, hlt, fun j hj => by rw [hb.cell (p := ⟨b, off + j, none⟩) hlt]; exact hc j hj⟩
theorem BoxS.more {B B' bl : Nat} {a : Option Addr} {len cap : Nat} {zs : List Nat} {wr : World} (h : BoxS B bl a len cap zs wr) (hB : B ≤ B') : BoxS B' bl a len cap zs wr := by
  obtain ⟨h1, h2, h3, h4⟩ := h
  refine ⟨by omega, h2, h3, fun hp => ?_⟩
  obtain ⟨b, off, rfl, hlt, hc⟩ := h4 hp
  exact ⟨b, off, rfl, by omega, hc⟩
theorem BoxS.fsl {B bl : Nat} {a : Option Addr} {len cap : Nat} {zs : List Nat} {wr : World} (h : BoxS B bl a len cap zs wr) : FSl wr a len zs := by
  refine ⟨h.2.1, ?_⟩
  rcases Nat.eq_zero_or_pos len with h0 | h0
  · exact .inl h0
  · obtain ⟨b, off, rfl, _, hc⟩ := h.2.2.2 h0
    exact .inr ⟨b, off, rfl, lt_of_cell (hc 0 h0), hc⟩
theorem BoxS.at {B bl : Nat} {a : Option Addr} {len cap : Nat} {zs : List Nat} {wr : World} (h : BoxS B bl a len cap zs wr) (h0 : 0 < len) : wr.cell? ⟨bl, 0, none⟩ = some (.slice a len cap) ∧ ∃ b off, a = some ⟨b, off, none⟩ ∧ ∀ j, j < len → wr.cell? ⟨b, off + j, none⟩ = some (.float .f32 (zs.getD j 0)) := by
  obtain ⟨b, off, e, _, hc⟩ := h.2.2.2 h0
  exact ⟨h.2.2.1, b, off, e, hc⟩
theorem BoxS.start {w : World} {a : Option Addr} {len cap : Nat} {zs : List Nat} {t : TypeId} (h : FSl w a len zs) : BoxS (w.heap.size + 1) w.heap.size a len cap zs (w.alloc (.cells #[.slice a len cap] t)) := by
  refine ⟨Nat.lt_succ_self _, h.1, ?_, fun hp => ?_⟩
  · rw [World.cell?_alloc_at _ _ _ _ rfl]; rfl
  · obtain ⟨b, off, rfl, hb, hc⟩ := h.at hp
    exact ⟨b, off, rfl, by omega, fun j hj => by rw [World.cell?_alloc_past _ _ _ hb]; exact hc j hj⟩

end Go.Proofs.Ytcfejkkkleiejaa
