/-
  States: the law's copies.
-/
import Derived.Test.YtcfejkkkleiejaaCLaw
import Derived.Test.YtcfejkkkleiejaaSts
import Derived.Deep.QuietTactic
import Derived.BigQuiet
namespace Go.Proofs.Ytcfejkkkleiejaa
open Ieee Go.RowKit
set_option linter.unusedVariables false

/-- A state stands in a block. -/
def StIn (w : World) (p l s : Nat) (a : Option Addr) (len cap : Nat) (t : Int) : Prop := w.cell? ⟨p, 0, none⟩ = some (.float .f32 l) ∧ w.cell? ⟨p, 1, none⟩ = some (.float .f32 s) ∧ w.cell? ⟨p, 2, none⟩ = some (.slice a len cap) ∧ w.cell? ⟨p, 3, none⟩ = some (.int .i64 t)
theorem StIn.new (w : World) (l s : Nat) (a : Option Addr) (len cap : Nat) (t : Int) (T : TypeId) : StIn (w.alloc (.cells #[.float .f32 l, .float .f32 s, .slice a len cap, .int .i64 t] T)) w.heap.size l s a len cap t := by
  refine ⟨?_, ?_, ?_, ?_⟩ <;> (rw [World.cell?_alloc_at _ _ _ _ rfl]; rfl)
theorem StIn.lt {w : World} {p l s : Nat} {a : Option Addr} {len cap : Nat} {t : Int} (h : StIn w p l s a len cap t) : p < w.heap.size := lt_of_cell h.1
theorem StIn.belowB {w w' : World} {p l s B : Nat} {a : Option Addr} {len cap : Nat} {t : Int} (h : StIn w p l s a len cap t) (hb : Below B w w') (hp : p < B) : StIn w' p l s a len cap t := by
  obtain ⟨h0, h1, h2, h3⟩ := h
  refine ⟨?_, ?_, ?_, ?_⟩
  · rw [hb.cell (p := ⟨p, 0, none⟩) hp]; exact h0
  · rw [hb.cell (p := ⟨p, 1, none⟩) hp]; exact h1
  · rw [hb.cell (p := ⟨p, 2, none⟩) hp]; exact h2
  · rw [hb.cell (p := ⟨p, 3, none⟩) hp]; exact h3
theorem StIn.below {w w' : World} {p l s : Nat} {a : Option Addr} {len cap : Nat} {t : Int} (h : StIn w p l s a len cap t) (hb : Below w.heap.size w w') : StIn w' p l s a len cap t := h.belowB hb h.lt
theorem StIn.alloc {w : World} {p l s : Nat} {a : Option Addr} {len cap : Nat} {t : Int} (h : StIn w p l s a len cap t) (o : Obj) : StIn (w.alloc o) p l s a len cap t := h.below ((Below.refl _ _).alloc (Nat.le_refl _) o)
theorem StIn.drewN {w : World} {p l s : Nat} {a : Option Addr} {len cap : Nat} {t : Int} (h : StIn w p l s a len cap t) (n : Nat) : StIn (w.drewN n) p l s a len cap t := h
theorem StIn.drew {w : World} {p l s : Nat} {a : Option Addr} {len cap : Nat} {t : Int} (h : StIn w p l s a len cap t) : StIn w.drew p l s a len cap t := h
theorem Held.drew {w : World} {A : Option Addr} {b len : Nat} {rs : List Nat} (h : Held w A b len rs) : Held w.drew A b len rs := h.drewN 1
theorem Held.setCell {w : World} {A : Option Addr} {b len : Nat} {rs : List Nat} {c o : Nat} {v : Value} (h : Held w A b len rs) (hc : b ≠ c) : Held (w.setCell ⟨c, o, none⟩ v) A b len rs := by
  refine ⟨FSl.same h.sl (by simp [World.setCell]) (fun b' off h0 e => ?_), h.at_, fun h0 => by simpa [World.setCell] using h.lt_ h0, fun j hj => ?_⟩
  · have e2 := h.at_ h0
    rw [e] at e2
    injection e2 with e2
    injection e2 with e2
    subst e2
    exact Below.heap_setCell w _ _ _ hc
  · rw [World.cell?_setCell_other _ _ _ _ (by intro e; injection e with e1 _ _; exact hc e1.symm), World.frozen?_setCell]
    exact h.wri j hj
theorem eqSt_any (l s l' s' : Nat) (a a' : Option Addr) (len cap cap' : Nat) (zs zs' : List Nat) (t : Int) (w : World) (hl : cn .f32 l = cn .f32 l') (hs : cn .f32 s = cn .f32 s') (h : FSl w a len zs) (h' : FSl w a' len zs') (hm : len ≤ 1048576) (hc : ∀ i, i < len → cn .f32 (zs.getD i 0) = cn .f32 (zs'.getD i 0)) :
    Calls Try.prog 11 #[.agg #[.float .f32 l, .float .f32 s, .slice a len cap, .int .i64 t], .agg #[.float .f32 l', .float .f32 s', .slice a' len cap', .int .i64 t]] w fun e w' => e = .returned (.bool true) ∧ Below w.heap.size w w' := by
  have G := Lib.hid (((Below.refl w.heap.size w).alloc (Nat.le_refl _) (.cells #[.float .f32 l, .float .f32 s, .slice a len cap, .int .i64 t] 25)).alloc (by simp) (.cells #[.float .f32 l', .float .f32 s', .slice a' len cap', .int .i64 t] 25))
  have H := Lib.hid (FSl.below h G.out)
  have H' := Lib.hid (FSl.below h' G.out)
  have HC := Lib.hid hc
  have HL := Lib.hid hl
  have HS := Lib.hid hs
  clear h h' hc hl hs
  go_enter Try.func11, Try.ntmps11
  go_wp2_with fail
  refine (sameFloat_true _ _ _ (by rw [cn_wideR, cn_wideR, HL.out])).mono ?_
  rintro e w' ⟨n1, rfl, rfl⟩
  go_wp2_with fail
  refine (sameFloat_true _ _ _ (by rw [cn_wideR, cn_wideR, HS.out])).mono ?_
  rintro e w' ⟨n2, rfl, rfl⟩
  go_wp2_with fail
  refine (eqF_any _ _ _ _ _ _ _ _ (FSl.drewN H.out _) (FSl.drewN H'.out _) hm HC.out).mono ?_
  rintro e w' ⟨n3, rfl, rfl⟩
  go_wp2
  go_ret
  exact ⟨rfl, below_drewN G.out _⟩
theorem StIn.only {w w' : World} {p l s c : Nat} {a : Option Addr} {len cap : Nat} {t : Int} (h : StIn w p l s a len cap t) (ho : Only c w w') (hp : p ≠ c) : StIn w' p l s a len cap t := by
  obtain ⟨h0, h1, h2, h3⟩ := h
  refine ⟨?_, ?_, ?_, ?_⟩
  · rw [ho.cell (p := ⟨p, 0, none⟩) hp]; exact h0
  · rw [ho.cell (p := ⟨p, 1, none⟩) hp]; exact h1
  · rw [ho.cell (p := ⟨p, 2, none⟩) hp]; exact h2
  · rw [ho.cell (p := ⟨p, 3, none⟩) hp]; exact h3
theorem markSt_any (l s : Nat) (t : Int) {A : Option Addr} {b len cap : Nat} {rs : List Nat} (k : Nat) {w : World} (h : Held w A b len rs) (hl : len ≤ 1048576) (hk : k ≤ 16777216) :
    Calls Try.prog 14 #[.agg #[.float .f32 l, .float .f32 s, .slice A len cap, .int .i64 t], .int .i64 k] w fun e w' => e = .returned (.int .i64 (k + len : Nat)) ∧ ∃ o, Only b (w.alloc o) w' := by
  have H := Lib.hid (h.below ((Below.refl w.heap.size w).alloc (Nat.le_refl _) (.cells #[.float .f32 l, .float .f32 s, .slice A len cap, .int .i64 t] 25)))
  clear h
  go_enter Try.func14, Try.ntmps14
  go_wp2_with fail
  refine (markt_any k H.out hl hk).mono ?_
  rintro e w' ⟨rfl, o, -⟩
  have HO := Lib.hid o
  clear o
  go_wp2
  go_ret
  exact ⟨rfl, _, HO.out⟩
end Go.Proofs.Ytcfejkkkleiejaa
