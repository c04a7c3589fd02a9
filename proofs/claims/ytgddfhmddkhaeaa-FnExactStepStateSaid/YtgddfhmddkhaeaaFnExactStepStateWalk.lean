/-
  The law of StepState.
-/
import Derived.Test.YtgddfhmddkhaeaaStr
import Derived.Test.YtgddfhmddkhaeaaSpz
import Derived.Deep.RegionHeld3
import Derived.Deep.DeepCutAuto
namespace Go.Proofs.Ytgddfhmddkhaeaa.fnExactStepState
open Go.RowKit Ieee
set_option linter.unusedVariables false
def ss5 (P X B l s : Nat) (a : Option Addr) (len cap : Nat) (zs : List Nat) (t : Int) (AX : Option Addr) (c0 c1 c2 c3 x : Nat) : Nat → Value → World → Prop
  | 0, v, w => v = (.agg #[.float .f32 l, .float .f32 s, .slice a len cap, .int .i64 t])
  | 1, v, w => ∃ A b, v = .agg #[.float .f32 l, .float .f32 s, .slice A len len, .int .i64 t] ∧ Held w A b len zs
  | 2, v, w => v = (.agg #[.float .f32 c0, .float .f32 c1, .float .f32 c2, .float .f32 c3])
  | 3, v, w => v = (.agg #[.float .f32 c0, .float .f32 c1, .float .f32 c2, .float .f32 c3])
  | 4, v, w => v = (.float .f32 x)
  | 5, v, w => ∃ A cp, v = .tuple #[.agg #[.float .f32 (rsQ ⟨l, s, zs, t⟩ c0 c1 c2 c3 x).l, .float .f32 (rsQ ⟨l, s, zs, t⟩ c0 c1 c2 c3 x).s, .slice A (rsQ ⟨l, s, zs, t⟩ c0 c1 c2 c3 x).zs.length cp, .int .i64 (rsQ ⟨l, s, zs, t⟩ c0 c1 c2 c3 x).t], .float .f32 (rsM ⟨l, s, zs, t⟩ c0 c1 c2 c3 x), .bool (stpB ⟨l, s, zs, t⟩ c0 c1 c2 c3 x)] ∧ FOwn 22 B w (.slice A (rsQ ⟨l, s, zs, t⟩ c0 c1 c2 c3 x).zs.length cp) (rsQ ⟨l, s, zs, t⟩ c0 c1 c2 c3 x).zs
  | 6, v, w => ∃ A cp, v = .tuple #[.agg #[.float .f32 (rsQ ⟨l, s, zs, t⟩ c0 c1 c2 c3 x).l, .float .f32 (rsQ ⟨l, s, zs, t⟩ c0 c1 c2 c3 x).s, .slice A (rsQ ⟨l, s, zs, t⟩ c0 c1 c2 c3 x).zs.length cp, .int .i64 (rsQ ⟨l, s, zs, t⟩ c0 c1 c2 c3 x).t], .float .f32 (rsM ⟨l, s, zs, t⟩ c0 c1 c2 c3 x), .bool (stpB ⟨l, s, zs, t⟩ c0 c1 c2 c3 x)] ∧ FOwn 22 B w (.slice A (rsQ ⟨l, s, zs, t⟩ c0 c1 c2 c3 x).zs.length cp) (rsQ ⟨l, s, zs, t⟩ c0 c1 c2 c3 x).zs
  | 7, v, w => ∃ A cp, v = .agg #[.float .f32 (rsQ ⟨l, s, zs, t⟩ c0 c1 c2 c3 x).l, .float .f32 (rsQ ⟨l, s, zs, t⟩ c0 c1 c2 c3 x).s, .slice A (rsQ ⟨l, s, zs, t⟩ c0 c1 c2 c3 x).zs.length cp, .int .i64 (rsQ ⟨l, s, zs, t⟩ c0 c1 c2 c3 x).t] ∧ FOwn 22 B w (.slice A (rsQ ⟨l, s, zs, t⟩ c0 c1 c2 c3 x).zs.length cp) (rsQ ⟨l, s, zs, t⟩ c0 c1 c2 c3 x).zs
  | 8, v, w => v = (.float .f32 (rsM ⟨l, s, zs, t⟩ c0 c1 c2 c3 x))
  | 9, v, w => v = (.bool (stpB ⟨l, s, zs, t⟩ c0 c1 c2 c3 x))
  | 10, v, w => ∃ p, v = .pointer (some ⟨p, 0, none⟩) ∧ B ≤ p ∧ w.heap[p]? = some (.cells #[.float .f32 0, .float .f32 0, .slice none 0 0, .int .i64 0] 29)
  | 11, v, w => True
  | 12, v, w => v = (.float .f32 (rsM ⟨l, s, zs, t⟩ c0 c1 c2 c3 x))
  | 13, v, w => v = (.bool (stpB ⟨l, s, zs, t⟩ c0 c1 c2 c3 x))
  | _, _, _ => True
theorem ss5_mono (P X B l s : Nat) (a : Option Addr) (len cap : Nat) (zs : List Nat) (t : Int) (AX : Option Addr) (c0 c1 c2 c3 x : Nat) : ∀ i v w w', ss5 P X B l s a len cap zs t AX c0 c1 c2 c3 x i v w → Below w.heap.size w w' → ss5 P X B l s a len cap zs t AX c0 c1 c2 c3 x i v w'
  := by
  intro i v w w' h hb
  unfold ss5 at *
  split
  · exact h
  · exact (by obtain ⟨A, b, h1, h2⟩ := h; exact ⟨A, b, h1, Held.below h2 hb⟩)
  · exact h
  · exact h
  · exact h
  · exact (by obtain ⟨A, cp, h1, h2⟩ := h; exact ⟨A, cp, h1, FOwn.keepS h2 hb⟩)
  · exact (by obtain ⟨A, cp, h1, h2⟩ := h; exact ⟨A, cp, h1, FOwn.keepS h2 hb⟩)
  · exact (by obtain ⟨A, cp, h1, h2⟩ := h; exact ⟨A, cp, h1, FOwn.keepS h2 hb⟩)
  · exact h
  · exact h
  · exact (by obtain ⟨p, h1, h2, h3⟩ := h; exact ⟨p, h1, h2, by rw [hb.block p (Array.getElem?_eq_some_iff.1 h3).1]; exact h3⟩)
  · exact trivial
  · exact h
  · exact h
  · trivial
def ss7 (P X B l s : Nat) (a : Option Addr) (len cap : Nat) (zs : List Nat) (t : Int) (AX : Option Addr) (c0 c1 c2 c3 x : Nat) : Nat → Value → World → Prop
  | 0, v, w => v = (.agg #[.float .f32 l, .float .f32 s, .slice AX len len, .int .i64 t])
  | 1, v, w => v = (.agg #[.float .f32 c0, .float .f32 c1, .float .f32 c2, .float .f32 c3])
  | 2, v, w => v = (.agg #[.float .f32 c0, .float .f32 c1, .float .f32 c2, .float .f32 c3])
  | 3, v, w => v = (.float .f32 x)
  | 4, v, w => ∃ A cp, v = .tuple #[.agg #[.float .f32 (rsQ ⟨l, s, zs, t⟩ c0 c1 c2 c3 x).l, .float .f32 (rsQ ⟨l, s, zs, t⟩ c0 c1 c2 c3 x).s, .slice A (rsQ ⟨l, s, zs, t⟩ c0 c1 c2 c3 x).zs.length cp, .int .i64 (rsQ ⟨l, s, zs, t⟩ c0 c1 c2 c3 x).t], .float .f32 (rsM ⟨l, s, zs, t⟩ c0 c1 c2 c3 x), .bool (stpB ⟨l, s, zs, t⟩ c0 c1 c2 c3 x)] ∧ FOwn 22 B w (.slice A (rsQ ⟨l, s, zs, t⟩ c0 c1 c2 c3 x).zs.length cp) (rsQ ⟨l, s, zs, t⟩ c0 c1 c2 c3 x).zs
  | 5, v, w => ∃ A cp, v = .tuple #[.agg #[.float .f32 (rsQ ⟨l, s, zs, t⟩ c0 c1 c2 c3 x).l, .float .f32 (rsQ ⟨l, s, zs, t⟩ c0 c1 c2 c3 x).s, .slice A (rsQ ⟨l, s, zs, t⟩ c0 c1 c2 c3 x).zs.length cp, .int .i64 (rsQ ⟨l, s, zs, t⟩ c0 c1 c2 c3 x).t], .float .f32 (rsM ⟨l, s, zs, t⟩ c0 c1 c2 c3 x), .bool (stpB ⟨l, s, zs, t⟩ c0 c1 c2 c3 x)] ∧ FOwn 22 B w (.slice A (rsQ ⟨l, s, zs, t⟩ c0 c1 c2 c3 x).zs.length cp) (rsQ ⟨l, s, zs, t⟩ c0 c1 c2 c3 x).zs
  | 6, v, w => ∃ A cp, v = .agg #[.float .f32 (rsQ ⟨l, s, zs, t⟩ c0 c1 c2 c3 x).l, .float .f32 (rsQ ⟨l, s, zs, t⟩ c0 c1 c2 c3 x).s, .slice A (rsQ ⟨l, s, zs, t⟩ c0 c1 c2 c3 x).zs.length cp, .int .i64 (rsQ ⟨l, s, zs, t⟩ c0 c1 c2 c3 x).t] ∧ FOwn 22 B w (.slice A (rsQ ⟨l, s, zs, t⟩ c0 c1 c2 c3 x).zs.length cp) (rsQ ⟨l, s, zs, t⟩ c0 c1 c2 c3 x).zs
  | 7, v, w => v = (.float .f32 (rsM ⟨l, s, zs, t⟩ c0 c1 c2 c3 x))
  | 8, v, w => v = (.bool (stpB ⟨l, s, zs, t⟩ c0 c1 c2 c3 x))
  | 9, v, w => ∃ p, v = .pointer (some ⟨p, 0, none⟩) ∧ B ≤ p ∧ w.heap[p]? = some (.cells #[.float .f32 0, .float .f32 0, .slice none 0 0, .int .i64 0] 29)
  | 10, v, w => True
  | 11, v, w => v = (.float .f32 (rsM ⟨l, s, zs, t⟩ c0 c1 c2 c3 x))
  | 12, v, w => v = (.bool (stpB ⟨l, s, zs, t⟩ c0 c1 c2 c3 x))
  | _, _, _ => True
theorem ss7_mono (P X B l s : Nat) (a : Option Addr) (len cap : Nat) (zs : List Nat) (t : Int) (AX : Option Addr) (c0 c1 c2 c3 x : Nat) : ∀ i v w w', ss7 P X B l s a len cap zs t AX c0 c1 c2 c3 x i v w → Below w.heap.size w w' → ss7 P X B l s a len cap zs t AX c0 c1 c2 c3 x i v w'
  := by
  intro i v w w' h hb
  unfold ss7 at *
  split
  · exact h
  · exact h
  · exact h
  · exact h
  · exact (by obtain ⟨A, cp, h1, h2⟩ := h; exact ⟨A, cp, h1, FOwn.keepS h2 hb⟩)
  · exact (by obtain ⟨A, cp, h1, h2⟩ := h; exact ⟨A, cp, h1, FOwn.keepS h2 hb⟩)
  · exact (by obtain ⟨A, cp, h1, h2⟩ := h; exact ⟨A, cp, h1, FOwn.keepS h2 hb⟩)
  · exact h
  · exact h
  · exact (by obtain ⟨p, h1, h2, h3⟩ := h; exact ⟨p, h1, h2, by rw [hb.block p (Array.getElem?_eq_some_iff.1 h3).1]; exact h3⟩)
  · exact trivial
  · exact h
  · exact h
  · trivial
def ss24 (P X B l s : Nat) (a : Option Addr) (len cap : Nat) (zs : List Nat) (t : Int) (AX : Option Addr) (c0 c1 c2 c3 x : Nat) : Nat → Value → World → Prop
  | 0, v, w => v = (.agg #[.float .f32 l, .float .f32 s, .slice a len cap, .int .i64 t])
  | 1, v, w => ∃ A b, v = .agg #[.float .f32 l, .float .f32 s, .slice A len len, .int .i64 t] ∧ Held w A b len zs
  | 2, v, w => v = (.agg #[.float .f32 c0, .float .f32 c1, .float .f32 c2, .float .f32 c3])
  | 3, v, w => v = (.agg #[.float .f32 c0, .float .f32 c1, .float .f32 c2, .float .f32 c3])
  | 4, v, w => v = (.float .f32 x)
  | 5, v, w => ∃ A cp, v = .tuple #[.agg #[.float .f32 (rsQ ⟨l, s, zs, t⟩ c0 c1 c2 c3 x).l, .float .f32 (rsQ ⟨l, s, zs, t⟩ c0 c1 c2 c3 x).s, .slice A (rsQ ⟨l, s, zs, t⟩ c0 c1 c2 c3 x).zs.length cp, .int .i64 (rsQ ⟨l, s, zs, t⟩ c0 c1 c2 c3 x).t], .float .f32 (rsM ⟨l, s, zs, t⟩ c0 c1 c2 c3 x), .bool (stpB ⟨l, s, zs, t⟩ c0 c1 c2 c3 x)] ∧ FOwn 22 B w (.slice A (rsQ ⟨l, s, zs, t⟩ c0 c1 c2 c3 x).zs.length cp) (rsQ ⟨l, s, zs, t⟩ c0 c1 c2 c3 x).zs
  | 6, v, w => ∃ A cp, v = .tuple #[.agg #[.float .f32 (rsQ ⟨l, s, zs, t⟩ c0 c1 c2 c3 x).l, .float .f32 (rsQ ⟨l, s, zs, t⟩ c0 c1 c2 c3 x).s, .slice A (rsQ ⟨l, s, zs, t⟩ c0 c1 c2 c3 x).zs.length cp, .int .i64 (rsQ ⟨l, s, zs, t⟩ c0 c1 c2 c3 x).t], .float .f32 (rsM ⟨l, s, zs, t⟩ c0 c1 c2 c3 x), .bool (stpB ⟨l, s, zs, t⟩ c0 c1 c2 c3 x)] ∧ FOwn 22 B w (.slice A (rsQ ⟨l, s, zs, t⟩ c0 c1 c2 c3 x).zs.length cp) (rsQ ⟨l, s, zs, t⟩ c0 c1 c2 c3 x).zs
  | 7, v, w => ∃ A cp, v = .agg #[.float .f32 (rsQ ⟨l, s, zs, t⟩ c0 c1 c2 c3 x).l, .float .f32 (rsQ ⟨l, s, zs, t⟩ c0 c1 c2 c3 x).s, .slice A (rsQ ⟨l, s, zs, t⟩ c0 c1 c2 c3 x).zs.length cp, .int .i64 (rsQ ⟨l, s, zs, t⟩ c0 c1 c2 c3 x).t] ∧ FOwn 22 B w (.slice A (rsQ ⟨l, s, zs, t⟩ c0 c1 c2 c3 x).zs.length cp) (rsQ ⟨l, s, zs, t⟩ c0 c1 c2 c3 x).zs
  | 8, v, w => v = (.float .f32 (rsM ⟨l, s, zs, t⟩ c0 c1 c2 c3 x))
  | 9, v, w => v = (.bool (stpB ⟨l, s, zs, t⟩ c0 c1 c2 c3 x))
  | 10, v, w => ∃ p, v = .pointer (some ⟨p, 0, none⟩) ∧ B ≤ p ∧ w.heap[p]? = some (.cells #[.float .f32 0, .float .f32 0, .slice none 0 0, .int .i64 0] 29)
  | 11, v, w => True
  | 12, v, w => v = (.float .f32 (rsM ⟨l, s, zs, t⟩ c0 c1 c2 c3 x))
  | 13, v, w => v = (.bool (stpB ⟨l, s, zs, t⟩ c0 c1 c2 c3 x))
  | _, _, _ => True
theorem ss24_mono (P X B l s : Nat) (a : Option Addr) (len cap : Nat) (zs : List Nat) (t : Int) (AX : Option Addr) (c0 c1 c2 c3 x : Nat) : ∀ i v w w', ss24 P X B l s a len cap zs t AX c0 c1 c2 c3 x i v w → Below w.heap.size w w' → ss24 P X B l s a len cap zs t AX c0 c1 c2 c3 x i v w'
  := by
  intro i v w w' h hb
  unfold ss24 at *
  split
  · exact h
  · exact (by obtain ⟨A, b, h1, h2⟩ := h; exact ⟨A, b, h1, Held.below h2 hb⟩)
  · exact h
  · exact h
  · exact h
  · exact (by obtain ⟨A, cp, h1, h2⟩ := h; exact ⟨A, cp, h1, FOwn.keepS h2 hb⟩)
  · exact (by obtain ⟨A, cp, h1, h2⟩ := h; exact ⟨A, cp, h1, FOwn.keepS h2 hb⟩)
  · exact (by obtain ⟨A, cp, h1, h2⟩ := h; exact ⟨A, cp, h1, FOwn.keepS h2 hb⟩)
  · exact h
  · exact h
  · exact (by obtain ⟨p, h1, h2, h3⟩ := h; exact ⟨p, h1, h2, by rw [hb.block p (Array.getElem?_eq_some_iff.1 h3).1]; exact h3⟩)
  · exact trivial
  · exact h
  · exact h
  · trivial
set_option maxHeartbeats 16000000 in
set_option maxRecDepth 100000 in
theorem walk (l s : Nat) (a : Option Addr) (len cap : Nat) (zs : List Nat) (t : Int) (c0 c1 c2 c3 : Nat) (x : Nat) (w : World) (w0 : FRow w a len cap zs) (x0 : (Lit.int .i64 t).wf = true) (w2 : (Lit.float .f32 x).wf = true) :
    Calls Try.prog 3 #[.agg #[.float .f32 l, .float .f32 s, .slice a len cap, .int .i64 t], .agg #[.float .f32 c0, .float .f32 c1, .float .f32 c2, .float .f32 c3], .float .f32 x] w fun e w' => e = .returned (.bool true) ∧ Below w.heap.size w w' := by
  clear w2 x0
  obtain ⟨hs0, hlc0, hcm0, _⟩ := w0
  have HZ0 := Lib.hid hs0
  have hzl := hs0.1
  clear hs0
  have G := Lib.hid (((Below.refl w.heap.size w).alloc (Nat.le_refl _) (.cells #[.float .f32 l, .float .f32 s, .slice a len cap, .int .i64 t] 25)).alloc (by simp) (.cells #[.float .f32 c0, .float .f32 c1, .float .f32 c2, .float .f32 c3] 27))
  have HS := Lib.hid ((StIn.new w l s a len cap t 25).alloc (.cells #[.float .f32 c0, .float .f32 c1, .float .f32 c2, .float .f32 c3] 27))
  have HH := Lib.hid (show ShIn ((w.alloc (.cells #[.float .f32 l, .float .f32 s, .slice a len cap, .int .i64 t] 25)).alloc (.cells #[.float .f32 c0, .float .f32 c1, .float .f32 c2, .float .f32 c3] 27)) (w.heap.size + 1) c0 c1 c2 c3 from by simpa using ShIn.new (w.alloc (.cells #[.float .f32 l, .float .f32 s, .slice a len cap, .int .i64 t] 25)) c0 c1 c2 c3 27)
  by_cases hm : len ≤ 1048576
  rotate_left
  · skip
    go_enter Try.func3, Try.ntmps3
    obtain ⟨k0, k1, k2, k3⟩ := HS.out
    go_wp2_with fail
    refine (szSt_no _ _ _ _ _ _ 1048576 _ (by omega) (by omega) (by unfold maxLen at *; omega)).mono ?_
    rintro e u2 ⟨rfl, b⟩
    clear k0 k1 k2 k3
    replace HS := Lib.hid (HS.out.below b)
    replace HH := Lib.hid (HH.out.below b)
    replace G := Lib.hid (G.out.trans (b.mono G.out.size))
    clear b
    go_wp2
    go_ret
    exact ⟨rfl, G.out⟩
  go_enter Try.func3, Try.ntmps3
  obtain ⟨k0, k1, k2, k3⟩ := HS.out
  go_wp2_with fail
  refine (szSt_any _ _ _ _ _ _ 1048576 _ (by omega) (by omega)).mono ?_
  rintro e u2 ⟨rfl, b⟩
  clear k0 k1 k2 k3
  replace HS := Lib.hid (HS.out.below b)
  replace HH := Lib.hid (HH.out.below b)
  replace G := Lib.hid (G.out.trans (b.mono G.out.size))
  clear b
  have HZ := Lib.hid (FSl.below HZ0.out G.out)
  have hn0 := HH.out.lt
  go_upto_region 5 with fail
  refine wp_region_MS (m := 11) (jp := 10) (jv := 7) (dp := 8) (dv := 33) (late := [8, 9, 12, 13]) (ss5 w.heap.size 0 u2.heap.size l s a len cap zs t none c0 c1 c2 c3 x) (fun pv sv v1 v2 => ∃ p A cp, pv = .pointer (some ⟨p, 0, none⟩) ∧ sv = .agg #[.float .f32 (rsQ ⟨l, s, zs, t⟩ c0 c1 c2 c3 x).l, .float .f32 (rsQ ⟨l, s, zs, t⟩ c0 c1 c2 c3 x).s, .slice A (rsQ ⟨l, s, zs, t⟩ c0 c1 c2 c3 x).zs.length cp, .int .i64 (rsQ ⟨l, s, zs, t⟩ c0 c1 c2 c3 x).t] ∧ u2.heap.size ≤ p ∧ Only p v1 v2 ∧ CIs v2 p [.float .f32 (rsQ ⟨l, s, zs, t⟩ c0 c1 c2 c3 x).l, .float .f32 (rsQ ⟨l, s, zs, t⟩ c0 c1 c2 c3 x).s, .slice A (rsQ ⟨l, s, zs, t⟩ c0 c1 c2 c3 x).zs.length cp, .int .i64 (rsQ ⟨l, s, zs, t⟩ c0 c1 c2 c3 x).t] ∧ FOwn 22 u2.heap.size v2 (.slice A (rsQ ⟨l, s, zs, t⟩ c0 c1 c2 c3 x).zs.length cp) (rsQ ⟨l, s, zs, t⟩ c0 c1 c2 c3 x).zs ∧ (Value.slice A (rsQ ⟨l, s, zs, t⟩ c0 c1 c2 c3 x).zs.length cp).ownBlock ≠ some p) (by kernel_rfl) (ss5_mono w.heap.size 0 u2.heap.size l s a len cap zs t none c0 c1 c2 c3 x) (by kernel_rfl) (by kernel_rfl) (by rfl) (by rfl) (by rfl) (by rfl) (by rfl) (by kernel_rfl) (by kernel_rfl) ?_ ?_ ?_ ?_
  · refine ⟨?_, ?_, ?_, ?_, ?_, ?_, ?_, ?_, ?_, ?_, ?_, trivial⟩
    · refine opM_do rfl (fun a_ w' hS hf K hK => ?_)
      have s3 : a_.tmps.getD 3 undef = (.pointer (some ⟨w.heap.size, 0, none⟩)) := (hS.rest 3 (by kernel_rfl)).trans rfl
      obtain ⟨k0, k1, k2, k3⟩ := StIn.below HS.out.drew hS.below
      go_simp
      exact hK _ _ (Below.refl _ _) rfl
    · refine opM_do rfl (fun a_ w' hS hf K hK => ?_)
      have s27 : a_.tmps.getD 27 undef = (.agg #[.float .f32 l, .float .f32 s, .slice a len cap, .int .i64 t]) := hf 0 (by kernel_rfl) _ 27 rfl rfl
      have F1 := FSl.below (FSl.drewN HZ.out 1) hS.below
      clear hf hS
      go_simp
      refine (toStE_any l s a len cap zs t _ F1 hm).mono ?_
      rintro e u ⟨A, b, rfl, hh, bb⟩
      exact hK _ _ bb ⟨A, b, rfl, hh⟩
    · refine opM_do rfl (fun a_ w' hS hf K hK => ?_)
      have s4 : a_.tmps.getD 4 undef = (.pointer (some ⟨(w.heap.size + 1), 0, none⟩)) := (hS.rest 4 (by kernel_rfl)).trans rfl
      obtain ⟨j0, j1, j2, j3⟩ := ShIn.below HH.out.drew hS.below
      go_simp
      exact hK _ _ (Below.refl _ _) rfl
    · refine opM_do rfl (fun a_ w' hS hf K hK => ?_)
      have s29 : a_.tmps.getD 29 undef = (.agg #[.float .f32 c0, .float .f32 c1, .float .f32 c2, .float .f32 c3]) := hf 2 (by kernel_rfl) _ 29 rfl rfl
      clear hf hS
      go_simp
      refine (toSh_any _ _ _ _ _).mono ?_
      rintro e u ⟨rfl, bb⟩
      exact hK _ _ bb rfl
    · refine opM_do rfl (fun a_ w' hS hf K hK => ?_)
      have s2 : a_.tmps.getD 2 undef = (.float .f32 x) := (hS.rest 2 (by kernel_rfl)).trans rfl
      go_simp
      exact hK _ _ (Below.refl _ _) rfl
    · refine opM_do rfl (fun a_ w' hS hf K hK => ?_)
      obtain ⟨A28, b28, s28, h28⟩ := (show ∃ A b, (a_.tmps.getD 28 undef) = .agg #[.float .f32 l, .float .f32 s, .slice A len len, .int .i64 t] ∧ Held w' A b len zs from hf 1 (by kernel_rfl) _ 28 rfl rfl)
      have s30 : a_.tmps.getD 30 undef = (.agg #[.float .f32 c0, .float .f32 c1, .float .f32 c2, .float .f32 c3]) := hf 3 (by kernel_rfl) _ 30 rfl rfl
      have s31 : a_.tmps.getD 31 undef = (.float .f32 x) := hf 4 (by kernel_rfl) _ 31 rfl rfl
      have hsz : u2.heap.size ≤ w'.heap.size := hS.below.size
      have hFz := h28.sl
      clear hf hS
      go_simp
      refine (spStp_any l s _ len len zs t c0 c1 c2 c3 x _ hFz hm).mono ?_
      intro e u hR
      obtain ⟨A, cp, rfl, ho, bb⟩ := stp_uni hR
      exact hK _ _ bb ⟨A, cp, rfl, FOwn.mono ho (by omega)⟩
    · refine opM_do rfl (fun a_ w' hS hf K hK => ?_)
      obtain ⟨A32, cp32, s32, h32⟩ := (show ∃ A cp, (a_.tmps.getD 32 undef) = .tuple #[.agg #[.float .f32 (rsQ ⟨l, s, zs, t⟩ c0 c1 c2 c3 x).l, .float .f32 (rsQ ⟨l, s, zs, t⟩ c0 c1 c2 c3 x).s, .slice A (rsQ ⟨l, s, zs, t⟩ c0 c1 c2 c3 x).zs.length cp, .int .i64 (rsQ ⟨l, s, zs, t⟩ c0 c1 c2 c3 x).t], .float .f32 (rsM ⟨l, s, zs, t⟩ c0 c1 c2 c3 x), .bool (stpB ⟨l, s, zs, t⟩ c0 c1 c2 c3 x)] ∧ FOwn 22 u2.heap.size w' (.slice A (rsQ ⟨l, s, zs, t⟩ c0 c1 c2 c3 x).zs.length cp) (rsQ ⟨l, s, zs, t⟩ c0 c1 c2 c3 x).zs from hf 5 (by kernel_rfl) _ 32 rfl rfl)
      go_simp
      exact hK _ _ (Below.refl _ _) ⟨_, _, rfl, h32⟩
    · refine opM_do rfl (fun a_ w' hS hf K hK => ?_)
      obtain ⟨A26, cp26, s26, h26⟩ := (show ∃ A cp, (a_.tmps.getD 26 undef) = .tuple #[.agg #[.float .f32 (rsQ ⟨l, s, zs, t⟩ c0 c1 c2 c3 x).l, .float .f32 (rsQ ⟨l, s, zs, t⟩ c0 c1 c2 c3 x).s, .slice A (rsQ ⟨l, s, zs, t⟩ c0 c1 c2 c3 x).zs.length cp, .int .i64 (rsQ ⟨l, s, zs, t⟩ c0 c1 c2 c3 x).t], .float .f32 (rsM ⟨l, s, zs, t⟩ c0 c1 c2 c3 x), .bool (stpB ⟨l, s, zs, t⟩ c0 c1 c2 c3 x)] ∧ FOwn 22 u2.heap.size w' (.slice A (rsQ ⟨l, s, zs, t⟩ c0 c1 c2 c3 x).zs.length cp) (rsQ ⟨l, s, zs, t⟩ c0 c1 c2 c3 x).zs from hf 6 (by kernel_rfl) _ 26 rfl rfl)
      go_simp
      exact hK _ _ (Below.refl _ _) ⟨_, _, rfl, h26⟩
    · refine opM_do rfl (fun a_ w' hS hf K hK => ?_)
      obtain ⟨A26, cp26, s26, h26⟩ := (show ∃ A cp, (a_.tmps.getD 26 undef) = .tuple #[.agg #[.float .f32 (rsQ ⟨l, s, zs, t⟩ c0 c1 c2 c3 x).l, .float .f32 (rsQ ⟨l, s, zs, t⟩ c0 c1 c2 c3 x).s, .slice A (rsQ ⟨l, s, zs, t⟩ c0 c1 c2 c3 x).zs.length cp, .int .i64 (rsQ ⟨l, s, zs, t⟩ c0 c1 c2 c3 x).t], .float .f32 (rsM ⟨l, s, zs, t⟩ c0 c1 c2 c3 x), .bool (stpB ⟨l, s, zs, t⟩ c0 c1 c2 c3 x)] ∧ FOwn 22 u2.heap.size w' (.slice A (rsQ ⟨l, s, zs, t⟩ c0 c1 c2 c3 x).zs.length cp) (rsQ ⟨l, s, zs, t⟩ c0 c1 c2 c3 x).zs from hf 6 (by kernel_rfl) _ 26 rfl rfl)
      go_simp
      exact hK _ _ (Below.refl _ _) rfl
    · refine opM_do rfl (fun a_ w' hS hf K hK => ?_)
      obtain ⟨A26, cp26, s26, h26⟩ := (show ∃ A cp, (a_.tmps.getD 26 undef) = .tuple #[.agg #[.float .f32 (rsQ ⟨l, s, zs, t⟩ c0 c1 c2 c3 x).l, .float .f32 (rsQ ⟨l, s, zs, t⟩ c0 c1 c2 c3 x).s, .slice A (rsQ ⟨l, s, zs, t⟩ c0 c1 c2 c3 x).zs.length cp, .int .i64 (rsQ ⟨l, s, zs, t⟩ c0 c1 c2 c3 x).t], .float .f32 (rsM ⟨l, s, zs, t⟩ c0 c1 c2 c3 x), .bool (stpB ⟨l, s, zs, t⟩ c0 c1 c2 c3 x)] ∧ FOwn 22 u2.heap.size w' (.slice A (rsQ ⟨l, s, zs, t⟩ c0 c1 c2 c3 x).zs.length cp) (rsQ ⟨l, s, zs, t⟩ c0 c1 c2 c3 x).zs from hf 6 (by kernel_rfl) _ 26 rfl rfl)
      go_simp
      exact hK _ _ (Below.refl _ _) rfl
    · refine opM_do rfl (fun a_ w' hS hf K hK => ?_)
      have hsz : u2.heap.size ≤ w'.heap.size := hS.below.size
      clear hf hS
      go_simp
      exact hK _ _ ((Below.refl _ _).alloc (Nat.le_refl _) _) ⟨w'.heap.size, rfl, hsz, alloc_top _ _⟩
  · refine ⟨?_, ?_, ?_, ?_, trivial⟩
    · refine opP_do rfl rfl (fun a_ w1 w2 hf K hK => ?_)
      obtain ⟨A26, cp26, s26, h26⟩ := (show ∃ A cp, (a_.tmps.getD 26 undef) = .tuple #[.agg #[.float .f32 (rsQ ⟨l, s, zs, t⟩ c0 c1 c2 c3 x).l, .float .f32 (rsQ ⟨l, s, zs, t⟩ c0 c1 c2 c3 x).s, .slice A (rsQ ⟨l, s, zs, t⟩ c0 c1 c2 c3 x).zs.length cp, .int .i64 (rsQ ⟨l, s, zs, t⟩ c0 c1 c2 c3 x).t], .float .f32 (rsM ⟨l, s, zs, t⟩ c0 c1 c2 c3 x), .bool (stpB ⟨l, s, zs, t⟩ c0 c1 c2 c3 x)] ∧ FOwn 22 u2.heap.size w1 (.slice A (rsQ ⟨l, s, zs, t⟩ c0 c1 c2 c3 x).zs.length cp) (rsQ ⟨l, s, zs, t⟩ c0 c1 c2 c3 x).zs from hf 6 (by kernel_rfl) _ 26 rfl rfl)
      go_simp
      exact hK _ rfl
    · refine opP_do rfl rfl (fun a_ w1 w2 hf K hK => ?_)
      obtain ⟨A26, cp26, s26, h26⟩ := (show ∃ A cp, (a_.tmps.getD 26 undef) = .tuple #[.agg #[.float .f32 (rsQ ⟨l, s, zs, t⟩ c0 c1 c2 c3 x).l, .float .f32 (rsQ ⟨l, s, zs, t⟩ c0 c1 c2 c3 x).s, .slice A (rsQ ⟨l, s, zs, t⟩ c0 c1 c2 c3 x).zs.length cp, .int .i64 (rsQ ⟨l, s, zs, t⟩ c0 c1 c2 c3 x).t], .float .f32 (rsM ⟨l, s, zs, t⟩ c0 c1 c2 c3 x), .bool (stpB ⟨l, s, zs, t⟩ c0 c1 c2 c3 x)] ∧ FOwn 22 u2.heap.size w1 (.slice A (rsQ ⟨l, s, zs, t⟩ c0 c1 c2 c3 x).zs.length cp) (rsQ ⟨l, s, zs, t⟩ c0 c1 c2 c3 x).zs from hf 6 (by kernel_rfl) _ 26 rfl rfl)
      go_simp
      exact hK _ rfl
    · refine opP_do rfl rfl (fun a_ w1 w2 hf K hK => ?_)
      have s34 : a_.tmps.getD 34 undef = (.float .f32 (rsM ⟨l, s, zs, t⟩ c0 c1 c2 c3 x)) := hf 8 (by kernel_rfl) _ 34 rfl rfl
      go_simp
      exact hK _ rfl
    · refine opP_do rfl rfl (fun a_ w1 w2 hf K hK => ?_)
      have s35 : a_.tmps.getD 35 undef = (.bool (stpB ⟨l, s, zs, t⟩ c0 c1 c2 c3 x)) := hf 9 (by kernel_rfl) _ 35 rfl rfl
      go_simp
      exact hK _ rfl
  · intro a_ w1 hS hjp hjv K hK
    obtain ⟨p, s8, hB, hc⟩ := (show ∃ p, a_.tmps.getD 8 undef = .pointer (some ⟨p, 0, none⟩) ∧ u2.heap.size ≤ p ∧ w1.heap[p]? = some (.cells #[.float .f32 0, .float .f32 0, .slice none 0 0, .int .i64 0] 29) from hjp)
    obtain ⟨A, cp, s33, ho⟩ := (show ∃ A cp, a_.tmps.getD 33 undef = .agg #[.float .f32 (rsQ ⟨l, s, zs, t⟩ c0 c1 c2 c3 x).l, .float .f32 (rsQ ⟨l, s, zs, t⟩ c0 c1 c2 c3 x).s, .slice A (rsQ ⟨l, s, zs, t⟩ c0 c1 c2 c3 x).zs.length cp, .int .i64 (rsQ ⟨l, s, zs, t⟩ c0 c1 c2 c3 x).t] ∧ FOwn 22 u2.heap.size w1 (.slice A (rsQ ⟨l, s, zs, t⟩ c0 c1 c2 c3 x).zs.length cp) (rsQ ⟨l, s, zs, t⟩ c0 c1 c2 c3 x).zs from hjv)
    have hci := cis_of4 hc
    have hne := own_nT ho hc (by decide)
    have hon := ((((Only.refl p w1).setCell 0 (.float .f32 (rsQ ⟨l, s, zs, t⟩ c0 c1 c2 c3 x).l)).setCell 1 (.float .f32 (rsQ ⟨l, s, zs, t⟩ c0 c1 c2 c3 x).s)).setCell 2 (.slice A (rsQ ⟨l, s, zs, t⟩ c0 c1 c2 c3 x).zs.length cp)).setCell 3 (.int .i64 (rsQ ⟨l, s, zs, t⟩ c0 c1 c2 c3 x).t)
    have hpu := (((hci.put (o := 0) (v := .float .f32 (rsQ ⟨l, s, zs, t⟩ c0 c1 c2 c3 x).l) (by simp)).put (o := 1) (v := .float .f32 (rsQ ⟨l, s, zs, t⟩ c0 c1 c2 c3 x).s) (by simp)).put (o := 2) (v := .slice A (rsQ ⟨l, s, zs, t⟩ c0 c1 c2 c3 x).zs.length cp) (by simp)).put (o := 3) (v := .int .i64 (rsQ ⟨l, s, zs, t⟩ c0 c1 c2 c3 x).t) (by simp)
    have how := own_set ho hon hne
    rw [s8, s33] at hK
    clear hjp hjv hS hc ho
    obtain ⟨g0, g1, g2, g3⟩ := hci.c4
    obtain ⟨f0, f1, f2, f3⟩ := hci.f4
    go_simp
    exact hK _ ⟨p, A, cp, rfl, rfl, hB, hon, hpu, how, hne⟩
  intro vs5 a_ w1 w2 hb hv ha hP
  have hlit : a_ = ⟨#[.agg #[.float .f32 l, .float .f32 s, .slice a len cap, .int .i64 t], .agg #[.float .f32 c0, .float .f32 c1, .float .f32 c2, .float .f32 c3], .float .f32 x, .pointer (some ⟨w.heap.size, 0, none⟩), .pointer (some ⟨w.heap.size + 1, 0, none⟩), undef, .bool false, .int .i64 ((1048576 - len : Nat) : Int), vs5 10, vs5 12, vs5 13, undef, undef, undef, undef, undef, undef, undef, undef, undef, undef, .agg #[.float .f32 l, .float .f32 s, .slice a len cap, .int .i64 t], .int .i64 1048576, .int .i64 ((1048576 - len : Nat) : Int), .int .i64 ((1048576 - len : Nat) : Int), .bool (decide (((1048576 - len : Nat) : Int) < 0)), vs5 6, vs5 0, vs5 1, vs5 2, vs5 3, vs5 4, vs5 5, vs5 7, vs5 8, vs5 9, undef, undef, undef, undef, undef, undef, undef, undef, undef, undef, undef, undef, undef, undef, undef, undef, undef, undef, undef, undef, undef, undef, undef, undef, undef, undef, undef, undef, undef, undef, undef, undef, undef, undef, undef, undef, undef, undef, undef, undef, undef, undef, undef, undef, undef, undef, undef, undef, undef, undef, undef, undef, undef, undef, undef, undef, undef, undef, undef, undef, undef, undef, undef, undef, undef, undef, undef, undef, undef, undef, undef, undef, undef, undef, undef, undef, undef, undef, undef, undef, undef, undef, undef, undef, undef, undef, undef, undef, undef, undef, undef, undef, undef, undef, undef, undef, undef, undef, undef, undef, undef, undef, undef], []⟩ := ha.trans (by kernel_rfl)
  clear ha
  obtain ⟨p5, A5, cp5, e1, -, hB, hon, hci, how, hne⟩ := hP
  have e2 : vs5 12 = .float .f32 (rsM ⟨l, s, zs, t⟩ c0 c1 c2 c3 x) := hv 12 (by decide) (by kernel_rfl)
  have e3 : vs5 13 = .bool (stpB ⟨l, s, zs, t⟩ c0 c1 c2 c3 x) := hv 13 (by decide) (by kernel_rfl)
  rw [e1, e2, e3] at hlit
  clear hv e1 e2 e3
  subst hlit
  have hB2 : Below u2.heap.size u2 w2 := (below_drewN (Below.refl u2.heap.size u2) 1).trans (hb.trans (hon.below hB))
  replace HS := Lib.hid (HS.out.below hB2)
  replace HH := Lib.hid (HH.out.below hB2)
  replace G := Lib.hid (G.out.trans (hB2.mono G.out.size))
  have C5 := Lib.hid hci
  obtain ⟨b5, hh, hb1, hb2⟩ := own_held (far := w2.heap.size) how rfl hB2.size p5 hne (Nat.ne_of_lt hci.1)
  have R5 := Lib.hid hh
  have hs5 := hB2.size
  have hp5 := hB
  have hbp5 := hb2
  have hbb5 := hb1
  have hpl5 := hci.1
  have hbl5 : 0 < (rsQ ⟨l, s, zs, t⟩ c0 c1 c2 c3 x).zs.length → b5 < w2.heap.size := hh.lt_
  clear hon hci how hne hh hb hb1 hb2 hB hB2
  skip
  clear HZ
  have HZ := Lib.hid (FSl.below HZ0.out G.out)
  have hRl : (rsQ ⟨l, s, zs, t⟩ c0 c1 c2 c3 x).zs.length ≤ 1048576 := Nat.le_trans (rsQ_len _ _ _ _ _ _) (by rw [show (⟨l, s, zs, t⟩ : Stt).zs = zs from rfl, hzl]; exact hm)
  generalize hW5 : w2 = W5 at *
  obtain ⟨k0, k1, k2, k3⟩ := HS.out
  go_wp2_with fail
  refine (toSt_any _ _ _ _ _ _ _ _ HZ.out hm).mono ?_
  rintro e u6 ⟨rfl, tX, b, qX⟩
  clear k0 k1 k2 k3
  have hs6 := b.size
  replace HS := Lib.hid (HS.out.below b)
  replace HH := Lib.hid (HH.out.below b)
  replace C5 := Lib.hid (C5.out.below b)
  replace R5 := Lib.hid (R5.out.below b)
  replace G := Lib.hid (G.out.trans (b.mono G.out.size))
  clear b
  generalize hbX : W5.heap.size + 1 + 1 + 1 = bX at *
  obtain ⟨pX, hpX⟩ : ∃ p, u6.heap.size = p := ⟨_, rfl⟩
  have al := (Below.refl u6.heap.size u6).alloc (Nat.le_refl _) (.cells #[.float .f32 l, .float .f32 s, .slice (some ⟨bX, 0, none⟩) len len, .int .i64 t] 29)
  have HXZ := Lib.hid (tX.below al)
  replace HS := Lib.hid (HS.out.below al)
  replace HH := Lib.hid (HH.out.below al)
  replace C5 := Lib.hid (C5.out.below al)
  replace R5 := Lib.hid (R5.out.below al)
  replace G := Lib.hid (G.out.trans (al.mono G.out.size))
  clear al tX
  have HX := Lib.hid (CIs.newAt u6 [.float .f32 l, .float .f32 s, .slice (some ⟨bX, 0, none⟩) len len, .int .i64 t] 29 (p := pX) hpX.symm)
  go_upto_region 7 with fail
  have hsz7 : (u6.alloc (.cells #[.float .f32 l, .float .f32 s, .slice (some ⟨bX, 0, none⟩) len len, .int .i64 t] 29)).heap.size = u6.heap.size + 1 := World.size_alloc _ _
  try rw [hpX]
  generalize u6.alloc (.cells #[.float .f32 l, .float .f32 s, .slice (some ⟨bX, 0, none⟩) len len, .int .i64 t] 29) = W7 at *
  refine wp_region_MS (m := 10) (jp := 9) (jv := 6) (dp := 12) (dv := 44) (late := [7, 8, 11, 12]) (ss7 w.heap.size pX W7.heap.size l s a len cap zs t (some ⟨bX, 0, none⟩) c0 c1 c2 c3 x) (fun pv sv v1 v2 => ∃ p A cp, pv = .pointer (some ⟨p, 0, none⟩) ∧ sv = .agg #[.float .f32 (rsQ ⟨l, s, zs, t⟩ c0 c1 c2 c3 x).l, .float .f32 (rsQ ⟨l, s, zs, t⟩ c0 c1 c2 c3 x).s, .slice A (rsQ ⟨l, s, zs, t⟩ c0 c1 c2 c3 x).zs.length cp, .int .i64 (rsQ ⟨l, s, zs, t⟩ c0 c1 c2 c3 x).t] ∧ W7.heap.size ≤ p ∧ Only p v1 v2 ∧ CIs v2 p [.float .f32 (rsQ ⟨l, s, zs, t⟩ c0 c1 c2 c3 x).l, .float .f32 (rsQ ⟨l, s, zs, t⟩ c0 c1 c2 c3 x).s, .slice A (rsQ ⟨l, s, zs, t⟩ c0 c1 c2 c3 x).zs.length cp, .int .i64 (rsQ ⟨l, s, zs, t⟩ c0 c1 c2 c3 x).t] ∧ FOwn 22 W7.heap.size v2 (.slice A (rsQ ⟨l, s, zs, t⟩ c0 c1 c2 c3 x).zs.length cp) (rsQ ⟨l, s, zs, t⟩ c0 c1 c2 c3 x).zs ∧ (Value.slice A (rsQ ⟨l, s, zs, t⟩ c0 c1 c2 c3 x).zs.length cp).ownBlock ≠ some p) (by kernel_rfl) (ss7_mono w.heap.size pX W7.heap.size l s a len cap zs t (some ⟨bX, 0, none⟩) c0 c1 c2 c3 x) (by kernel_rfl) (by kernel_rfl) (by rfl) (by rfl) (by rfl) (by rfl) (by rfl) (by kernel_rfl) (by kernel_rfl) ?_ ?_ ?_ ?_
  · refine ⟨?_, ?_, ?_, ?_, ?_, ?_, ?_, ?_, ?_, ?_, trivial⟩
    · refine opM_do rfl (fun a_ w' hS hf K hK => ?_)
      have s11 : a_.tmps.getD 11 undef = (.pointer (some ⟨pX, 0, none⟩)) := (hS.rest 11 (by kernel_rfl)).trans rfl
      obtain ⟨k0, k1, k2, k3⟩ := (CIs.below (CIs.drew HX.out) hS.below).c4
      go_simp
      exact hK _ _ (Below.refl _ _) rfl
    · refine opM_do rfl (fun a_ w' hS hf K hK => ?_)
      have s4 : a_.tmps.getD 4 undef = (.pointer (some ⟨(w.heap.size + 1), 0, none⟩)) := (hS.rest 4 (by kernel_rfl)).trans rfl
      obtain ⟨j0, j1, j2, j3⟩ := ShIn.below HH.out.drew hS.below
      go_simp
      exact hK _ _ (Below.refl _ _) rfl
    · refine opM_do rfl (fun a_ w' hS hf K hK => ?_)
      have s40 : a_.tmps.getD 40 undef = (.agg #[.float .f32 c0, .float .f32 c1, .float .f32 c2, .float .f32 c3]) := hf 1 (by kernel_rfl) _ 40 rfl rfl
      clear hf hS
      go_simp
      refine (toSh_any _ _ _ _ _).mono ?_
      rintro e u ⟨rfl, bb⟩
      exact hK _ _ bb rfl
    · refine opM_do rfl (fun a_ w' hS hf K hK => ?_)
      have s2 : a_.tmps.getD 2 undef = (.float .f32 x) := (hS.rest 2 (by kernel_rfl)).trans rfl
      go_simp
      exact hK _ _ (Below.refl _ _) rfl
    · refine opM_do rfl (fun a_ w' hS hf K hK => ?_)
      have s39 : a_.tmps.getD 39 undef = (.agg #[.float .f32 l, .float .f32 s, .slice (some ⟨bX, 0, none⟩) len len, .int .i64 t]) := hf 0 (by kernel_rfl) _ 39 rfl rfl
      have s41 : a_.tmps.getD 41 undef = (.agg #[.float .f32 c0, .float .f32 c1, .float .f32 c2, .float .f32 c3]) := hf 2 (by kernel_rfl) _ 41 rfl rfl
      have s42 : a_.tmps.getD 42 undef = (.float .f32 x) := hf 3 (by kernel_rfl) _ 42 rfl rfl
      have hsz : W7.heap.size ≤ w'.heap.size := hS.below.size
      have hFz := (HXZ.out.dw.below hS.below).sl
      clear hf hS
      go_simp
      refine (imStp_any l s _ len len zs t c0 c1 c2 c3 x _ hFz hm).mono ?_
      intro e u hR
      obtain ⟨A, cp, rfl, ho, bb⟩ := stp_uni hR
      exact hK _ _ bb ⟨A, cp, rfl, FOwn.mono ho (by omega)⟩
    · refine opM_do rfl (fun a_ w' hS hf K hK => ?_)
      obtain ⟨A43, cp43, s43, h43⟩ := (show ∃ A cp, (a_.tmps.getD 43 undef) = .tuple #[.agg #[.float .f32 (rsQ ⟨l, s, zs, t⟩ c0 c1 c2 c3 x).l, .float .f32 (rsQ ⟨l, s, zs, t⟩ c0 c1 c2 c3 x).s, .slice A (rsQ ⟨l, s, zs, t⟩ c0 c1 c2 c3 x).zs.length cp, .int .i64 (rsQ ⟨l, s, zs, t⟩ c0 c1 c2 c3 x).t], .float .f32 (rsM ⟨l, s, zs, t⟩ c0 c1 c2 c3 x), .bool (stpB ⟨l, s, zs, t⟩ c0 c1 c2 c3 x)] ∧ FOwn 22 W7.heap.size w' (.slice A (rsQ ⟨l, s, zs, t⟩ c0 c1 c2 c3 x).zs.length cp) (rsQ ⟨l, s, zs, t⟩ c0 c1 c2 c3 x).zs from hf 4 (by kernel_rfl) _ 43 rfl rfl)
      go_simp
      exact hK _ _ (Below.refl _ _) ⟨_, _, rfl, h43⟩
    · refine opM_do rfl (fun a_ w' hS hf K hK => ?_)
      obtain ⟨A38, cp38, s38, h38⟩ := (show ∃ A cp, (a_.tmps.getD 38 undef) = .tuple #[.agg #[.float .f32 (rsQ ⟨l, s, zs, t⟩ c0 c1 c2 c3 x).l, .float .f32 (rsQ ⟨l, s, zs, t⟩ c0 c1 c2 c3 x).s, .slice A (rsQ ⟨l, s, zs, t⟩ c0 c1 c2 c3 x).zs.length cp, .int .i64 (rsQ ⟨l, s, zs, t⟩ c0 c1 c2 c3 x).t], .float .f32 (rsM ⟨l, s, zs, t⟩ c0 c1 c2 c3 x), .bool (stpB ⟨l, s, zs, t⟩ c0 c1 c2 c3 x)] ∧ FOwn 22 W7.heap.size w' (.slice A (rsQ ⟨l, s, zs, t⟩ c0 c1 c2 c3 x).zs.length cp) (rsQ ⟨l, s, zs, t⟩ c0 c1 c2 c3 x).zs from hf 5 (by kernel_rfl) _ 38 rfl rfl)
      go_simp
      exact hK _ _ (Below.refl _ _) ⟨_, _, rfl, h38⟩
    · refine opM_do rfl (fun a_ w' hS hf K hK => ?_)
      obtain ⟨A38, cp38, s38, h38⟩ := (show ∃ A cp, (a_.tmps.getD 38 undef) = .tuple #[.agg #[.float .f32 (rsQ ⟨l, s, zs, t⟩ c0 c1 c2 c3 x).l, .float .f32 (rsQ ⟨l, s, zs, t⟩ c0 c1 c2 c3 x).s, .slice A (rsQ ⟨l, s, zs, t⟩ c0 c1 c2 c3 x).zs.length cp, .int .i64 (rsQ ⟨l, s, zs, t⟩ c0 c1 c2 c3 x).t], .float .f32 (rsM ⟨l, s, zs, t⟩ c0 c1 c2 c3 x), .bool (stpB ⟨l, s, zs, t⟩ c0 c1 c2 c3 x)] ∧ FOwn 22 W7.heap.size w' (.slice A (rsQ ⟨l, s, zs, t⟩ c0 c1 c2 c3 x).zs.length cp) (rsQ ⟨l, s, zs, t⟩ c0 c1 c2 c3 x).zs from hf 5 (by kernel_rfl) _ 38 rfl rfl)
      go_simp
      exact hK _ _ (Below.refl _ _) rfl
    · refine opM_do rfl (fun a_ w' hS hf K hK => ?_)
      obtain ⟨A38, cp38, s38, h38⟩ := (show ∃ A cp, (a_.tmps.getD 38 undef) = .tuple #[.agg #[.float .f32 (rsQ ⟨l, s, zs, t⟩ c0 c1 c2 c3 x).l, .float .f32 (rsQ ⟨l, s, zs, t⟩ c0 c1 c2 c3 x).s, .slice A (rsQ ⟨l, s, zs, t⟩ c0 c1 c2 c3 x).zs.length cp, .int .i64 (rsQ ⟨l, s, zs, t⟩ c0 c1 c2 c3 x).t], .float .f32 (rsM ⟨l, s, zs, t⟩ c0 c1 c2 c3 x), .bool (stpB ⟨l, s, zs, t⟩ c0 c1 c2 c3 x)] ∧ FOwn 22 W7.heap.size w' (.slice A (rsQ ⟨l, s, zs, t⟩ c0 c1 c2 c3 x).zs.length cp) (rsQ ⟨l, s, zs, t⟩ c0 c1 c2 c3 x).zs from hf 5 (by kernel_rfl) _ 38 rfl rfl)
      go_simp
      exact hK _ _ (Below.refl _ _) rfl
    · refine opM_do rfl (fun a_ w' hS hf K hK => ?_)
      have hsz : W7.heap.size ≤ w'.heap.size := hS.below.size
      clear hf hS
      go_simp
      exact hK _ _ ((Below.refl _ _).alloc (Nat.le_refl _) _) ⟨w'.heap.size, rfl, hsz, alloc_top _ _⟩
  · refine ⟨?_, ?_, ?_, ?_, trivial⟩
    · refine opP_do rfl rfl (fun a_ w1 w2 hf K hK => ?_)
      obtain ⟨A38, cp38, s38, h38⟩ := (show ∃ A cp, (a_.tmps.getD 38 undef) = .tuple #[.agg #[.float .f32 (rsQ ⟨l, s, zs, t⟩ c0 c1 c2 c3 x).l, .float .f32 (rsQ ⟨l, s, zs, t⟩ c0 c1 c2 c3 x).s, .slice A (rsQ ⟨l, s, zs, t⟩ c0 c1 c2 c3 x).zs.length cp, .int .i64 (rsQ ⟨l, s, zs, t⟩ c0 c1 c2 c3 x).t], .float .f32 (rsM ⟨l, s, zs, t⟩ c0 c1 c2 c3 x), .bool (stpB ⟨l, s, zs, t⟩ c0 c1 c2 c3 x)] ∧ FOwn 22 W7.heap.size w1 (.slice A (rsQ ⟨l, s, zs, t⟩ c0 c1 c2 c3 x).zs.length cp) (rsQ ⟨l, s, zs, t⟩ c0 c1 c2 c3 x).zs from hf 5 (by kernel_rfl) _ 38 rfl rfl)
      go_simp
      exact hK _ rfl
    · refine opP_do rfl rfl (fun a_ w1 w2 hf K hK => ?_)
      obtain ⟨A38, cp38, s38, h38⟩ := (show ∃ A cp, (a_.tmps.getD 38 undef) = .tuple #[.agg #[.float .f32 (rsQ ⟨l, s, zs, t⟩ c0 c1 c2 c3 x).l, .float .f32 (rsQ ⟨l, s, zs, t⟩ c0 c1 c2 c3 x).s, .slice A (rsQ ⟨l, s, zs, t⟩ c0 c1 c2 c3 x).zs.length cp, .int .i64 (rsQ ⟨l, s, zs, t⟩ c0 c1 c2 c3 x).t], .float .f32 (rsM ⟨l, s, zs, t⟩ c0 c1 c2 c3 x), .bool (stpB ⟨l, s, zs, t⟩ c0 c1 c2 c3 x)] ∧ FOwn 22 W7.heap.size w1 (.slice A (rsQ ⟨l, s, zs, t⟩ c0 c1 c2 c3 x).zs.length cp) (rsQ ⟨l, s, zs, t⟩ c0 c1 c2 c3 x).zs from hf 5 (by kernel_rfl) _ 38 rfl rfl)
      go_simp
      exact hK _ rfl
    · refine opP_do rfl rfl (fun a_ w1 w2 hf K hK => ?_)
      have s45 : a_.tmps.getD 45 undef = (.float .f32 (rsM ⟨l, s, zs, t⟩ c0 c1 c2 c3 x)) := hf 7 (by kernel_rfl) _ 45 rfl rfl
      go_simp
      exact hK _ rfl
    · refine opP_do rfl rfl (fun a_ w1 w2 hf K hK => ?_)
      have s46 : a_.tmps.getD 46 undef = (.bool (stpB ⟨l, s, zs, t⟩ c0 c1 c2 c3 x)) := hf 8 (by kernel_rfl) _ 46 rfl rfl
      go_simp
      exact hK _ rfl
  · intro a_ w1 hS hjp hjv K hK
    obtain ⟨p, s12, hB, hc⟩ := (show ∃ p, a_.tmps.getD 12 undef = .pointer (some ⟨p, 0, none⟩) ∧ W7.heap.size ≤ p ∧ w1.heap[p]? = some (.cells #[.float .f32 0, .float .f32 0, .slice none 0 0, .int .i64 0] 29) from hjp)
    obtain ⟨A, cp, s44, ho⟩ := (show ∃ A cp, a_.tmps.getD 44 undef = .agg #[.float .f32 (rsQ ⟨l, s, zs, t⟩ c0 c1 c2 c3 x).l, .float .f32 (rsQ ⟨l, s, zs, t⟩ c0 c1 c2 c3 x).s, .slice A (rsQ ⟨l, s, zs, t⟩ c0 c1 c2 c3 x).zs.length cp, .int .i64 (rsQ ⟨l, s, zs, t⟩ c0 c1 c2 c3 x).t] ∧ FOwn 22 W7.heap.size w1 (.slice A (rsQ ⟨l, s, zs, t⟩ c0 c1 c2 c3 x).zs.length cp) (rsQ ⟨l, s, zs, t⟩ c0 c1 c2 c3 x).zs from hjv)
    have hci := cis_of4 hc
    have hne := own_nT ho hc (by decide)
    have hon := ((((Only.refl p w1).setCell 0 (.float .f32 (rsQ ⟨l, s, zs, t⟩ c0 c1 c2 c3 x).l)).setCell 1 (.float .f32 (rsQ ⟨l, s, zs, t⟩ c0 c1 c2 c3 x).s)).setCell 2 (.slice A (rsQ ⟨l, s, zs, t⟩ c0 c1 c2 c3 x).zs.length cp)).setCell 3 (.int .i64 (rsQ ⟨l, s, zs, t⟩ c0 c1 c2 c3 x).t)
    have hpu := (((hci.put (o := 0) (v := .float .f32 (rsQ ⟨l, s, zs, t⟩ c0 c1 c2 c3 x).l) (by simp)).put (o := 1) (v := .float .f32 (rsQ ⟨l, s, zs, t⟩ c0 c1 c2 c3 x).s) (by simp)).put (o := 2) (v := .slice A (rsQ ⟨l, s, zs, t⟩ c0 c1 c2 c3 x).zs.length cp) (by simp)).put (o := 3) (v := .int .i64 (rsQ ⟨l, s, zs, t⟩ c0 c1 c2 c3 x).t) (by simp)
    have how := own_set ho hon hne
    rw [s12, s44] at hK
    clear hjp hjv hS hc ho
    obtain ⟨g0, g1, g2, g3⟩ := hci.c4
    obtain ⟨f0, f1, f2, f3⟩ := hci.f4
    go_simp
    exact hK _ ⟨p, A, cp, rfl, rfl, hB, hon, hpu, how, hne⟩
  intro vs7 a_ w1 w2 hb hv ha hP
  have hlit : a_ = ⟨#[.agg #[.float .f32 l, .float .f32 s, .slice a len cap, .int .i64 t], .agg #[.float .f32 c0, .float .f32 c1, .float .f32 c2, .float .f32 c3], .float .f32 x, .pointer (some ⟨w.heap.size, 0, none⟩), .pointer (some ⟨w.heap.size + 1, 0, none⟩), undef, .bool false, .int .i64 ((1048576 - len : Nat) : Int), .pointer (some ⟨p5, 0, none⟩), .float .f32 (rsM ⟨l, s, zs, t⟩ c0 c1 c2 c3 x), .bool (stpB ⟨l, s, zs, t⟩ c0 c1 c2 c3 x), .pointer (some ⟨pX, 0, none⟩), vs7 9, vs7 11, vs7 12, undef, undef, undef, undef, undef, undef, .agg #[.float .f32 l, .float .f32 s, .slice a len cap, .int .i64 t], .int .i64 1048576, .int .i64 ((1048576 - len : Nat) : Int), .int .i64 ((1048576 - len : Nat) : Int), .bool (decide (((1048576 - len : Nat) : Int) < 0)), vs5 6, vs5 0, vs5 1, vs5 2, vs5 3, vs5 4, vs5 5, vs5 7, vs5 8, vs5 9, .agg #[.float .f32 l, .float .f32 s, .slice a len cap, .int .i64 t], .agg #[.float .f32 l, .float .f32 s, .slice (some ⟨bX, 0, none⟩) len len, .int .i64 t], vs7 5, vs7 0, vs7 1, vs7 2, vs7 3, vs7 4, vs7 6, vs7 7, vs7 8, undef, undef, undef, undef, undef, undef, undef, undef, undef, undef, undef, undef, undef, undef, undef, undef, undef, undef, undef, undef, undef, undef, undef, undef, undef, undef, undef, undef, undef, undef, undef, undef, undef, undef, undef, undef, undef, undef, undef, undef, undef, undef, undef, undef, undef, undef, undef, undef, undef, undef, undef, undef, undef, undef, undef, undef, undef, undef, undef, undef, undef, undef, undef, undef, undef, undef, undef, undef, undef, undef, undef, undef, undef, undef, undef, undef, undef, undef, undef, undef, undef, undef, undef, undef, undef, undef, undef, undef, undef, undef, undef, undef], []⟩ := ha.trans (by kernel_rfl)
  clear ha
  obtain ⟨p7, A7, cp7, e1, -, hB, hon, hci, how, hne⟩ := hP
  have e2 : vs7 11 = .float .f32 (rsM ⟨l, s, zs, t⟩ c0 c1 c2 c3 x) := hv 11 (by decide) (by kernel_rfl)
  have e3 : vs7 12 = .bool (stpB ⟨l, s, zs, t⟩ c0 c1 c2 c3 x) := hv 12 (by decide) (by kernel_rfl)
  rw [e1, e2, e3] at hlit
  clear hv e1 e2 e3
  subst hlit
  have hB2 : Below W7.heap.size W7 w2 := (below_drewN (Below.refl W7.heap.size W7) 1).trans (hb.trans (hon.below hB))
  replace HS := Lib.hid (HS.out.below hB2)
  replace HH := Lib.hid (HH.out.below hB2)
  replace C5 := Lib.hid (C5.out.below hB2)
  replace R5 := Lib.hid (R5.out.below hB2)
  replace HX := Lib.hid (HX.out.below hB2)
  replace HXZ := Lib.hid (HXZ.out.below hB2)
  replace G := Lib.hid (G.out.trans (hB2.mono G.out.size))
  have C7 := Lib.hid hci
  obtain ⟨b7, hh, hb1, hb2⟩ := own_held (far := w2.heap.size) how rfl hB2.size p7 hne (Nat.ne_of_lt hci.1)
  have R7 := Lib.hid hh
  have hs7 := hB2.size
  have hp7 := hB
  have hbp7 := hb2
  have hbb7 := hb1
  have hpl7 := hci.1
  have hbl7 : 0 < (rsQ ⟨l, s, zs, t⟩ c0 c1 c2 c3 x).zs.length → b7 < w2.heap.size := hh.lt_
  clear hon hci how hne hh hb hb1 hb2 hB hB2
  skip
  generalize hW8 : w2 = W8 at *
  obtain ⟨k0, k1, k2, k3⟩ := C7.out.c4
  obtain ⟨j0, j1, j2, j3⟩ := C5.out.c4
  go_wp2_with fail
  refine (eqStE_any _ _ _ _ _ _ _ _ _ _ R7.out.sl R5.out.sl hRl).mono ?_
  rintro e v1 ⟨rfl, b⟩
  clear k0 k1 k2 k3
  clear j0 j1 j2 j3
  replace HS := Lib.hid (HS.out.below b)
  replace HH := Lib.hid (HH.out.below b)
  replace C5 := Lib.hid (C5.out.below b)
  replace R5 := Lib.hid (R5.out.below b)
  replace HX := Lib.hid (HX.out.below b)
  replace HXZ := Lib.hid (HXZ.out.below b)
  replace C7 := Lib.hid (C7.out.below b)
  replace R7 := Lib.hid (R7.out.below b)
  replace G := Lib.hid (G.out.trans (b.mono G.out.size))
  clear b
  go_wp2_with fail
  refine (sameFloat_true _ _ _ (by rw [cn_wideR, cn_wideR])).mono ?_
  rintro e w' ⟨nv1, rfl, rfl⟩
  replace HS := Lib.hid (HS.out.drewN (wideN (rsM ⟨l, s, zs, t⟩ c0 c1 c2 c3 x) + wideN (rsM ⟨l, s, zs, t⟩ c0 c1 c2 c3 x) + nv1))
  replace HH := Lib.hid (HH.out.drewN (wideN (rsM ⟨l, s, zs, t⟩ c0 c1 c2 c3 x) + wideN (rsM ⟨l, s, zs, t⟩ c0 c1 c2 c3 x) + nv1))
  replace C5 := Lib.hid (C5.out.drewN (wideN (rsM ⟨l, s, zs, t⟩ c0 c1 c2 c3 x) + wideN (rsM ⟨l, s, zs, t⟩ c0 c1 c2 c3 x) + nv1))
  replace R5 := Lib.hid (R5.out.drewN (wideN (rsM ⟨l, s, zs, t⟩ c0 c1 c2 c3 x) + wideN (rsM ⟨l, s, zs, t⟩ c0 c1 c2 c3 x) + nv1))
  replace HX := Lib.hid (HX.out.drewN (wideN (rsM ⟨l, s, zs, t⟩ c0 c1 c2 c3 x) + wideN (rsM ⟨l, s, zs, t⟩ c0 c1 c2 c3 x) + nv1))
  replace HXZ := Lib.hid (HXZ.out.drewN (wideN (rsM ⟨l, s, zs, t⟩ c0 c1 c2 c3 x) + wideN (rsM ⟨l, s, zs, t⟩ c0 c1 c2 c3 x) + nv1))
  replace C7 := Lib.hid (C7.out.drewN (wideN (rsM ⟨l, s, zs, t⟩ c0 c1 c2 c3 x) + wideN (rsM ⟨l, s, zs, t⟩ c0 c1 c2 c3 x) + nv1))
  replace R7 := Lib.hid (R7.out.drewN (wideN (rsM ⟨l, s, zs, t⟩ c0 c1 c2 c3 x) + wideN (rsM ⟨l, s, zs, t⟩ c0 c1 c2 c3 x) + nv1))
  replace G := Lib.hid (below_drewN G.out (wideN (rsM ⟨l, s, zs, t⟩ c0 c1 c2 c3 x) + wideN (rsM ⟨l, s, zs, t⟩ c0 c1 c2 c3 x) + nv1))
  go_wp2_with fail
  go_region_held3 (fun w' => w'.cell? ⟨w.heap.size, 0, none⟩ = some (.float .f32 l) ∧ w'.cell? ⟨w.heap.size, 1, none⟩ = some (.float .f32 s) ∧ w'.cell? ⟨w.heap.size, 2, none⟩ = some (.slice a len cap) ∧ w'.cell? ⟨w.heap.size, 3, none⟩ = some (.int .i64 t) ∧ w'.cell? ⟨pX, 0, none⟩ = some (.float .f32 l) ∧ w'.cell? ⟨pX, 1, none⟩ = some (.float .f32 s) ∧ w'.cell? ⟨pX, 2, none⟩ = some (.slice (some ⟨bX, 0, none⟩) len len) ∧ w'.cell? ⟨pX, 3, none⟩ = some (.int .i64 t)) (first | exact ⟨(((HS.out.drew).below hb1).below hb2).1, (((HS.out.drew).below hb1).below hb2).2.1, (((HS.out.drew).below hb1).below hb2).2.2.1, (((HS.out.drew).below hb1).below hb2).2.2.2, (((HX.out.drew).below hb1).below hb2).c4.1, (((HX.out.drew).below hb1).below hb2).c4.2.1, (((HX.out.drew).below hb1).below hb2).c4.2.2.1, (((HX.out.drew).below hb1).below hb2).c4.2.2.2⟩ | exact ⟨((HS.out.drew).below hb1).1, ((HS.out.drew).below hb1).2.1, ((HS.out.drew).below hb1).2.2.1, ((HS.out.drew).below hb1).2.2.2, ((HX.out.drew).below hb1).c4.1, ((HX.out.drew).below hb1).c4.2.1, ((HX.out.drew).below hb1).c4.2.2.1, ((HX.out.drew).below hb1).c4.2.2.2⟩ | exact ⟨(HS.out.drew).1, (HS.out.drew).2.1, (HS.out.drew).2.2.1, (HS.out.drew).2.2.2, (HX.out.drew).c4.1, (HX.out.drew).c4.2.1, (HX.out.drew).c4.2.2.1, (HX.out.drew).c4.2.2.2⟩ | go_keep)
    ((first
      | (go_at_call 20; refine (eqStE_any _ _ _ _ _ _ _ _ _ _ ((HXZ.out.dw).below hb1).sl hE.sl hm).mono ?_; rintro e uB ⟨rfl, hb2⟩)
      | (go_at_call 17; refine (toStE_any _ _ _ _ _ zs _ _ (FSl.below HZ0.out (below_drewN G.out 1)) hm).mono ?_; rintro e uA ⟨AE, bE, rfl, hE, hb1⟩)
      ))
  replace HS := Lib.hid (((HS.out.drew).below hb1).below hb2)
  replace HH := Lib.hid (((HH.out.drew).below hb1).below hb2)
  replace C5 := Lib.hid (((C5.out.drew).below hb1).below hb2)
  replace R5 := Lib.hid (((R5.out.dw).below hb1).below hb2)
  replace HX := Lib.hid (((HX.out.drew).below hb1).below hb2)
  replace HXZ := Lib.hid (((HXZ.out.dw).below hb1).below hb2)
  replace C7 := Lib.hid (((C7.out.drew).below hb1).below hb2)
  replace R7 := Lib.hid (((R7.out.dw).below hb1).below hb2)
  replace G := Lib.hid (((below_drewN G.out 1).trans (hb1.mono (below_drewN G.out 1).size)).trans (hb2.mono ((below_drewN G.out 1).trans (hb1.mono (below_drewN G.out 1).size)).size))
  clear hb1 hb2 hE
  obtain ⟨k0, k1, k2, k3⟩ := HX.out.c4
  go_wp2_with fail
  refine (markSt_any _ _ _ 1 HXZ.out hm (by omega)).mono ?_
  rintro e v2 ⟨rfl, o, ho⟩
  clear k0 k1 k2 k3
  clear HX
  clear HXZ
  replace HS := Lib.hid ((HS.out.alloc o).only ho (by omega))
  replace HH := Lib.hid ((HH.out.alloc o).only ho (by omega))
  replace C5 := Lib.hid ((C5.out.alloc o).only ho (by omega))
  replace R5 := Lib.hid ((R5.out.below ((Below.refl _ _).alloc (Nat.le_refl _) o)).only ho (fun h0 => by (try have := hbl5 h0); omega))
  replace C7 := Lib.hid ((C7.out.alloc o).only ho (by omega))
  replace R7 := Lib.hid ((R7.out.below ((Below.refl _ _).alloc (Nat.le_refl _) o)).only ho (fun h0 => by (try have := hbl5 h0); omega))
  replace G := Lib.hid ((G.out.alloc G.out.size o).trans (ho.below (by have := G.out.size; omega)))
  clear ho
  obtain ⟨k0, k1, k2, k3⟩ := C7.out.c4
  obtain ⟨j0, j1, j2, j3⟩ := C5.out.c4
  go_wp2_with fail
  refine (eqStE_any _ _ _ _ _ _ _ _ _ _ R7.out.sl R5.out.sl hRl).mono ?_
  rintro e v3 ⟨rfl, b⟩
  clear k0 k1 k2 k3
  clear j0 j1 j2 j3
  replace HS := Lib.hid (HS.out.below b)
  replace HH := Lib.hid (HH.out.below b)
  replace C5 := Lib.hid (C5.out.below b)
  replace R5 := Lib.hid (R5.out.below b)
  replace C7 := Lib.hid (C7.out.below b)
  replace R7 := Lib.hid (R7.out.below b)
  replace G := Lib.hid (G.out.trans (b.mono G.out.size))
  clear b
  go_wp2_with fail
  refine (sameFloat_true _ _ _ (by rw [cn_wideR, cn_wideR])).mono ?_
  rintro e w' ⟨nv3, rfl, rfl⟩
  replace HS := Lib.hid (HS.out.drewN (wideN (rsM ⟨l, s, zs, t⟩ c0 c1 c2 c3 x) + wideN (rsM ⟨l, s, zs, t⟩ c0 c1 c2 c3 x) + nv3))
  replace HH := Lib.hid (HH.out.drewN (wideN (rsM ⟨l, s, zs, t⟩ c0 c1 c2 c3 x) + wideN (rsM ⟨l, s, zs, t⟩ c0 c1 c2 c3 x) + nv3))
  replace C5 := Lib.hid (C5.out.drewN (wideN (rsM ⟨l, s, zs, t⟩ c0 c1 c2 c3 x) + wideN (rsM ⟨l, s, zs, t⟩ c0 c1 c2 c3 x) + nv3))
  replace R5 := Lib.hid (R5.out.drewN (wideN (rsM ⟨l, s, zs, t⟩ c0 c1 c2 c3 x) + wideN (rsM ⟨l, s, zs, t⟩ c0 c1 c2 c3 x) + nv3))
  replace C7 := Lib.hid (C7.out.drewN (wideN (rsM ⟨l, s, zs, t⟩ c0 c1 c2 c3 x) + wideN (rsM ⟨l, s, zs, t⟩ c0 c1 c2 c3 x) + nv3))
  replace R7 := Lib.hid (R7.out.drewN (wideN (rsM ⟨l, s, zs, t⟩ c0 c1 c2 c3 x) + wideN (rsM ⟨l, s, zs, t⟩ c0 c1 c2 c3 x) + nv3))
  replace G := Lib.hid (below_drewN G.out (wideN (rsM ⟨l, s, zs, t⟩ c0 c1 c2 c3 x) + wideN (rsM ⟨l, s, zs, t⟩ c0 c1 c2 c3 x) + nv3))
  obtain ⟨k0, k1, k2, k3⟩ := C7.out.c4
  go_wp2_with fail
  refine (markStM_any _ _ _ 1 R7.out hRl (by omega)).mono ?_
  rintro e v4 ⟨rfl, o, ho, mk⟩
  clear k0 k1 k2 k3
  clear R7
  replace HS := Lib.hid ((HS.out.alloc o).only ho (by omega))
  replace HH := Lib.hid ((HH.out.alloc o).only ho (by omega))
  replace C5 := Lib.hid ((C5.out.alloc o).only ho (by omega))
  replace R5 := Lib.hid ((R5.out.below ((Below.refl _ _).alloc (Nat.le_refl _) o)).only ho (fun h0 => by (try have := hbl5 h0); omega))
  replace C7 := Lib.hid ((C7.out.alloc o).only ho (by omega))
  replace G := Lib.hid ((G.out.alloc G.out.size o).trans (ho.below (by have := G.out.size; omega)))
  have M7 := Lib.hid mk
  clear mk
  clear ho
  obtain ⟨k0, k1, k2, k3⟩ := C7.out.c4
  go_wp2_with fail
  refine (heldSt_any _ _ _ 1 M7.out hRl (by omega)).mono ?_
  rintro e v5 ⟨rfl, b⟩
  clear k0 k1 k2 k3
  replace HS := Lib.hid (HS.out.below b)
  replace HH := Lib.hid (HH.out.below b)
  replace C5 := Lib.hid (C5.out.below b)
  replace R5 := Lib.hid (R5.out.below b)
  replace C7 := Lib.hid (C7.out.below b)
  replace M7 := Lib.hid (M7.out.below b)
  replace G := Lib.hid (G.out.trans (b.mono G.out.size))
  clear b
  clear HZ
  have HZ := Lib.hid (FSl.below HZ0.out G.out)
  go_upto_region 24 with fail
  generalize v5 = W24 at *
  refine wp_region_MS (m := 11) (jp := 10) (jv := 7) (dp := 18) (dv := 111) (late := [8, 9, 12, 13]) (ss24 w.heap.size 0 W24.heap.size l s a len cap zs t none c0 c1 c2 c3 x) (fun pv sv v1 v2 => ∃ p A cp, pv = .pointer (some ⟨p, 0, none⟩) ∧ sv = .agg #[.float .f32 (rsQ ⟨l, s, zs, t⟩ c0 c1 c2 c3 x).l, .float .f32 (rsQ ⟨l, s, zs, t⟩ c0 c1 c2 c3 x).s, .slice A (rsQ ⟨l, s, zs, t⟩ c0 c1 c2 c3 x).zs.length cp, .int .i64 (rsQ ⟨l, s, zs, t⟩ c0 c1 c2 c3 x).t] ∧ W24.heap.size ≤ p ∧ Only p v1 v2 ∧ CIs v2 p [.float .f32 (rsQ ⟨l, s, zs, t⟩ c0 c1 c2 c3 x).l, .float .f32 (rsQ ⟨l, s, zs, t⟩ c0 c1 c2 c3 x).s, .slice A (rsQ ⟨l, s, zs, t⟩ c0 c1 c2 c3 x).zs.length cp, .int .i64 (rsQ ⟨l, s, zs, t⟩ c0 c1 c2 c3 x).t] ∧ FOwn 22 W24.heap.size v2 (.slice A (rsQ ⟨l, s, zs, t⟩ c0 c1 c2 c3 x).zs.length cp) (rsQ ⟨l, s, zs, t⟩ c0 c1 c2 c3 x).zs ∧ (Value.slice A (rsQ ⟨l, s, zs, t⟩ c0 c1 c2 c3 x).zs.length cp).ownBlock ≠ some p) (by kernel_rfl) (ss24_mono w.heap.size 0 W24.heap.size l s a len cap zs t none c0 c1 c2 c3 x) (by kernel_rfl) (by kernel_rfl) (by rfl) (by rfl) (by rfl) (by rfl) (by rfl) (by kernel_rfl) (by kernel_rfl) ?_ ?_ ?_ ?_
  · refine ⟨?_, ?_, ?_, ?_, ?_, ?_, ?_, ?_, ?_, ?_, ?_, trivial⟩
    · refine opM_do rfl (fun a_ w' hS hf K hK => ?_)
      have s3 : a_.tmps.getD 3 undef = (.pointer (some ⟨w.heap.size, 0, none⟩)) := (hS.rest 3 (by kernel_rfl)).trans rfl
      obtain ⟨k0, k1, k2, k3⟩ := StIn.below HS.out.drew hS.below
      go_simp
      exact hK _ _ (Below.refl _ _) rfl
    · refine opM_do rfl (fun a_ w' hS hf K hK => ?_)
      have s105 : a_.tmps.getD 105 undef = (.agg #[.float .f32 l, .float .f32 s, .slice a len cap, .int .i64 t]) := hf 0 (by kernel_rfl) _ 105 rfl rfl
      have F1 := FSl.below (FSl.drewN HZ.out 1) hS.below
      clear hf hS
      go_simp
      refine (toStE_any l s a len cap zs t _ F1 hm).mono ?_
      rintro e u ⟨A, b, rfl, hh, bb⟩
      exact hK _ _ bb ⟨A, b, rfl, hh⟩
    · refine opM_do rfl (fun a_ w' hS hf K hK => ?_)
      have s4 : a_.tmps.getD 4 undef = (.pointer (some ⟨(w.heap.size + 1), 0, none⟩)) := (hS.rest 4 (by kernel_rfl)).trans rfl
      obtain ⟨j0, j1, j2, j3⟩ := ShIn.below HH.out.drew hS.below
      go_simp
      exact hK _ _ (Below.refl _ _) rfl
    · refine opM_do rfl (fun a_ w' hS hf K hK => ?_)
      have s107 : a_.tmps.getD 107 undef = (.agg #[.float .f32 c0, .float .f32 c1, .float .f32 c2, .float .f32 c3]) := hf 2 (by kernel_rfl) _ 107 rfl rfl
      clear hf hS
      go_simp
      refine (toSh_any _ _ _ _ _).mono ?_
      rintro e u ⟨rfl, bb⟩
      exact hK _ _ bb rfl
    · refine opM_do rfl (fun a_ w' hS hf K hK => ?_)
      have s2 : a_.tmps.getD 2 undef = (.float .f32 x) := (hS.rest 2 (by kernel_rfl)).trans rfl
      go_simp
      exact hK _ _ (Below.refl _ _) rfl
    · refine opM_do rfl (fun a_ w' hS hf K hK => ?_)
      obtain ⟨A106, b106, s106, h106⟩ := (show ∃ A b, (a_.tmps.getD 106 undef) = .agg #[.float .f32 l, .float .f32 s, .slice A len len, .int .i64 t] ∧ Held w' A b len zs from hf 1 (by kernel_rfl) _ 106 rfl rfl)
      have s108 : a_.tmps.getD 108 undef = (.agg #[.float .f32 c0, .float .f32 c1, .float .f32 c2, .float .f32 c3]) := hf 3 (by kernel_rfl) _ 108 rfl rfl
      have s109 : a_.tmps.getD 109 undef = (.float .f32 x) := hf 4 (by kernel_rfl) _ 109 rfl rfl
      have hsz : W24.heap.size ≤ w'.heap.size := hS.below.size
      have hFz := h106.sl
      clear hf hS
      go_simp
      refine (imStp_any l s _ len len zs t c0 c1 c2 c3 x _ hFz hm).mono ?_
      intro e u hR
      obtain ⟨A, cp, rfl, ho, bb⟩ := stp_uni hR
      exact hK _ _ bb ⟨A, cp, rfl, FOwn.mono ho (by omega)⟩
    · refine opM_do rfl (fun a_ w' hS hf K hK => ?_)
      obtain ⟨A110, cp110, s110, h110⟩ := (show ∃ A cp, (a_.tmps.getD 110 undef) = .tuple #[.agg #[.float .f32 (rsQ ⟨l, s, zs, t⟩ c0 c1 c2 c3 x).l, .float .f32 (rsQ ⟨l, s, zs, t⟩ c0 c1 c2 c3 x).s, .slice A (rsQ ⟨l, s, zs, t⟩ c0 c1 c2 c3 x).zs.length cp, .int .i64 (rsQ ⟨l, s, zs, t⟩ c0 c1 c2 c3 x).t], .float .f32 (rsM ⟨l, s, zs, t⟩ c0 c1 c2 c3 x), .bool (stpB ⟨l, s, zs, t⟩ c0 c1 c2 c3 x)] ∧ FOwn 22 W24.heap.size w' (.slice A (rsQ ⟨l, s, zs, t⟩ c0 c1 c2 c3 x).zs.length cp) (rsQ ⟨l, s, zs, t⟩ c0 c1 c2 c3 x).zs from hf 5 (by kernel_rfl) _ 110 rfl rfl)
      go_simp
      exact hK _ _ (Below.refl _ _) ⟨_, _, rfl, h110⟩
    · refine opM_do rfl (fun a_ w' hS hf K hK => ?_)
      obtain ⟨A104, cp104, s104, h104⟩ := (show ∃ A cp, (a_.tmps.getD 104 undef) = .tuple #[.agg #[.float .f32 (rsQ ⟨l, s, zs, t⟩ c0 c1 c2 c3 x).l, .float .f32 (rsQ ⟨l, s, zs, t⟩ c0 c1 c2 c3 x).s, .slice A (rsQ ⟨l, s, zs, t⟩ c0 c1 c2 c3 x).zs.length cp, .int .i64 (rsQ ⟨l, s, zs, t⟩ c0 c1 c2 c3 x).t], .float .f32 (rsM ⟨l, s, zs, t⟩ c0 c1 c2 c3 x), .bool (stpB ⟨l, s, zs, t⟩ c0 c1 c2 c3 x)] ∧ FOwn 22 W24.heap.size w' (.slice A (rsQ ⟨l, s, zs, t⟩ c0 c1 c2 c3 x).zs.length cp) (rsQ ⟨l, s, zs, t⟩ c0 c1 c2 c3 x).zs from hf 6 (by kernel_rfl) _ 104 rfl rfl)
      go_simp
      exact hK _ _ (Below.refl _ _) ⟨_, _, rfl, h104⟩
    · refine opM_do rfl (fun a_ w' hS hf K hK => ?_)
      obtain ⟨A104, cp104, s104, h104⟩ := (show ∃ A cp, (a_.tmps.getD 104 undef) = .tuple #[.agg #[.float .f32 (rsQ ⟨l, s, zs, t⟩ c0 c1 c2 c3 x).l, .float .f32 (rsQ ⟨l, s, zs, t⟩ c0 c1 c2 c3 x).s, .slice A (rsQ ⟨l, s, zs, t⟩ c0 c1 c2 c3 x).zs.length cp, .int .i64 (rsQ ⟨l, s, zs, t⟩ c0 c1 c2 c3 x).t], .float .f32 (rsM ⟨l, s, zs, t⟩ c0 c1 c2 c3 x), .bool (stpB ⟨l, s, zs, t⟩ c0 c1 c2 c3 x)] ∧ FOwn 22 W24.heap.size w' (.slice A (rsQ ⟨l, s, zs, t⟩ c0 c1 c2 c3 x).zs.length cp) (rsQ ⟨l, s, zs, t⟩ c0 c1 c2 c3 x).zs from hf 6 (by kernel_rfl) _ 104 rfl rfl)
      go_simp
      exact hK _ _ (Below.refl _ _) rfl
    · refine opM_do rfl (fun a_ w' hS hf K hK => ?_)
      obtain ⟨A104, cp104, s104, h104⟩ := (show ∃ A cp, (a_.tmps.getD 104 undef) = .tuple #[.agg #[.float .f32 (rsQ ⟨l, s, zs, t⟩ c0 c1 c2 c3 x).l, .float .f32 (rsQ ⟨l, s, zs, t⟩ c0 c1 c2 c3 x).s, .slice A (rsQ ⟨l, s, zs, t⟩ c0 c1 c2 c3 x).zs.length cp, .int .i64 (rsQ ⟨l, s, zs, t⟩ c0 c1 c2 c3 x).t], .float .f32 (rsM ⟨l, s, zs, t⟩ c0 c1 c2 c3 x), .bool (stpB ⟨l, s, zs, t⟩ c0 c1 c2 c3 x)] ∧ FOwn 22 W24.heap.size w' (.slice A (rsQ ⟨l, s, zs, t⟩ c0 c1 c2 c3 x).zs.length cp) (rsQ ⟨l, s, zs, t⟩ c0 c1 c2 c3 x).zs from hf 6 (by kernel_rfl) _ 104 rfl rfl)
      go_simp
      exact hK _ _ (Below.refl _ _) rfl
    · refine opM_do rfl (fun a_ w' hS hf K hK => ?_)
      have hsz : W24.heap.size ≤ w'.heap.size := hS.below.size
      clear hf hS
      go_simp
      exact hK _ _ ((Below.refl _ _).alloc (Nat.le_refl _) _) ⟨w'.heap.size, rfl, hsz, alloc_top _ _⟩
  · refine ⟨?_, ?_, ?_, ?_, trivial⟩
    · refine opP_do rfl rfl (fun a_ w1 w2 hf K hK => ?_)
      obtain ⟨A104, cp104, s104, h104⟩ := (show ∃ A cp, (a_.tmps.getD 104 undef) = .tuple #[.agg #[.float .f32 (rsQ ⟨l, s, zs, t⟩ c0 c1 c2 c3 x).l, .float .f32 (rsQ ⟨l, s, zs, t⟩ c0 c1 c2 c3 x).s, .slice A (rsQ ⟨l, s, zs, t⟩ c0 c1 c2 c3 x).zs.length cp, .int .i64 (rsQ ⟨l, s, zs, t⟩ c0 c1 c2 c3 x).t], .float .f32 (rsM ⟨l, s, zs, t⟩ c0 c1 c2 c3 x), .bool (stpB ⟨l, s, zs, t⟩ c0 c1 c2 c3 x)] ∧ FOwn 22 W24.heap.size w1 (.slice A (rsQ ⟨l, s, zs, t⟩ c0 c1 c2 c3 x).zs.length cp) (rsQ ⟨l, s, zs, t⟩ c0 c1 c2 c3 x).zs from hf 6 (by kernel_rfl) _ 104 rfl rfl)
      go_simp
      exact hK _ rfl
    · refine opP_do rfl rfl (fun a_ w1 w2 hf K hK => ?_)
      obtain ⟨A104, cp104, s104, h104⟩ := (show ∃ A cp, (a_.tmps.getD 104 undef) = .tuple #[.agg #[.float .f32 (rsQ ⟨l, s, zs, t⟩ c0 c1 c2 c3 x).l, .float .f32 (rsQ ⟨l, s, zs, t⟩ c0 c1 c2 c3 x).s, .slice A (rsQ ⟨l, s, zs, t⟩ c0 c1 c2 c3 x).zs.length cp, .int .i64 (rsQ ⟨l, s, zs, t⟩ c0 c1 c2 c3 x).t], .float .f32 (rsM ⟨l, s, zs, t⟩ c0 c1 c2 c3 x), .bool (stpB ⟨l, s, zs, t⟩ c0 c1 c2 c3 x)] ∧ FOwn 22 W24.heap.size w1 (.slice A (rsQ ⟨l, s, zs, t⟩ c0 c1 c2 c3 x).zs.length cp) (rsQ ⟨l, s, zs, t⟩ c0 c1 c2 c3 x).zs from hf 6 (by kernel_rfl) _ 104 rfl rfl)
      go_simp
      exact hK _ rfl
    · refine opP_do rfl rfl (fun a_ w1 w2 hf K hK => ?_)
      have s112 : a_.tmps.getD 112 undef = (.float .f32 (rsM ⟨l, s, zs, t⟩ c0 c1 c2 c3 x)) := hf 8 (by kernel_rfl) _ 112 rfl rfl
      go_simp
      exact hK _ rfl
    · refine opP_do rfl rfl (fun a_ w1 w2 hf K hK => ?_)
      have s113 : a_.tmps.getD 113 undef = (.bool (stpB ⟨l, s, zs, t⟩ c0 c1 c2 c3 x)) := hf 9 (by kernel_rfl) _ 113 rfl rfl
      go_simp
      exact hK _ rfl
  · intro a_ w1 hS hjp hjv K hK
    obtain ⟨p, s18, hB, hc⟩ := (show ∃ p, a_.tmps.getD 18 undef = .pointer (some ⟨p, 0, none⟩) ∧ W24.heap.size ≤ p ∧ w1.heap[p]? = some (.cells #[.float .f32 0, .float .f32 0, .slice none 0 0, .int .i64 0] 29) from hjp)
    obtain ⟨A, cp, s111, ho⟩ := (show ∃ A cp, a_.tmps.getD 111 undef = .agg #[.float .f32 (rsQ ⟨l, s, zs, t⟩ c0 c1 c2 c3 x).l, .float .f32 (rsQ ⟨l, s, zs, t⟩ c0 c1 c2 c3 x).s, .slice A (rsQ ⟨l, s, zs, t⟩ c0 c1 c2 c3 x).zs.length cp, .int .i64 (rsQ ⟨l, s, zs, t⟩ c0 c1 c2 c3 x).t] ∧ FOwn 22 W24.heap.size w1 (.slice A (rsQ ⟨l, s, zs, t⟩ c0 c1 c2 c3 x).zs.length cp) (rsQ ⟨l, s, zs, t⟩ c0 c1 c2 c3 x).zs from hjv)
    have hci := cis_of4 hc
    have hne := own_nT ho hc (by decide)
    have hon := ((((Only.refl p w1).setCell 0 (.float .f32 (rsQ ⟨l, s, zs, t⟩ c0 c1 c2 c3 x).l)).setCell 1 (.float .f32 (rsQ ⟨l, s, zs, t⟩ c0 c1 c2 c3 x).s)).setCell 2 (.slice A (rsQ ⟨l, s, zs, t⟩ c0 c1 c2 c3 x).zs.length cp)).setCell 3 (.int .i64 (rsQ ⟨l, s, zs, t⟩ c0 c1 c2 c3 x).t)
    have hpu := (((hci.put (o := 0) (v := .float .f32 (rsQ ⟨l, s, zs, t⟩ c0 c1 c2 c3 x).l) (by simp)).put (o := 1) (v := .float .f32 (rsQ ⟨l, s, zs, t⟩ c0 c1 c2 c3 x).s) (by simp)).put (o := 2) (v := .slice A (rsQ ⟨l, s, zs, t⟩ c0 c1 c2 c3 x).zs.length cp) (by simp)).put (o := 3) (v := .int .i64 (rsQ ⟨l, s, zs, t⟩ c0 c1 c2 c3 x).t) (by simp)
    have how := own_set ho hon hne
    rw [s18, s111] at hK
    clear hjp hjv hS hc ho
    obtain ⟨g0, g1, g2, g3⟩ := hci.c4
    obtain ⟨f0, f1, f2, f3⟩ := hci.f4
    go_simp
    exact hK _ ⟨p, A, cp, rfl, rfl, hB, hon, hpu, how, hne⟩
  intro vs24 a_ w1 w2 hb hv ha hP
  have hlit : a_ = ⟨#[.agg #[.float .f32 l, .float .f32 s, .slice a len cap, .int .i64 t], .agg #[.float .f32 c0, .float .f32 c1, .float .f32 c2, .float .f32 c3], .float .f32 x, .pointer (some ⟨w.heap.size, 0, none⟩), .pointer (some ⟨w.heap.size + 1, 0, none⟩), undef, .bool false, .int .i64 ((1048576 - len : Nat) : Int), .pointer (some ⟨p5, 0, none⟩), .float .f32 (rsM ⟨l, s, zs, t⟩ c0 c1 c2 c3 x), .bool (stpB ⟨l, s, zs, t⟩ c0 c1 c2 c3 x), .pointer (some ⟨pX, 0, none⟩), .pointer (some ⟨p7, 0, none⟩), .float .f32 (rsM ⟨l, s, zs, t⟩ c0 c1 c2 c3 x), .bool (stpB ⟨l, s, zs, t⟩ c0 c1 c2 c3 x), .int .i64 (1 + len), .int .i64 (1 + (rsQ ⟨l, s, zs, t⟩ c0 c1 c2 c3 x).zs.length), .int .i64 (1 + (rsQ ⟨l, s, zs, t⟩ c0 c1 c2 c3 x).zs.length), vs24 10, vs24 12, vs24 13, .agg #[.float .f32 l, .float .f32 s, .slice a len cap, .int .i64 t], .int .i64 1048576, .int .i64 ((1048576 - len : Nat) : Int), .int .i64 ((1048576 - len : Nat) : Int), .bool (decide (((1048576 - len : Nat) : Int) < 0)), vs5 6, vs5 0, vs5 1, vs5 2, vs5 3, vs5 4, vs5 5, vs5 7, vs5 8, vs5 9, .agg #[.float .f32 l, .float .f32 s, .slice a len cap, .int .i64 t], .agg #[.float .f32 l, .float .f32 s, .slice (some ⟨bX, 0, none⟩) len len, .int .i64 t], vs7 5, vs7 0, vs7 1, vs7 2, vs7 3, vs7 4, vs7 6, vs7 7, vs7 8, .agg #[.float .f32 (rsQ ⟨l, s, zs, t⟩ c0 c1 c2 c3 x).l, .float .f32 (rsQ ⟨l, s, zs, t⟩ c0 c1 c2 c3 x).s, .slice A7 (rsQ ⟨l, s, zs, t⟩ c0 c1 c2 c3 x).zs.length cp7, .int .i64 (rsQ ⟨l, s, zs, t⟩ c0 c1 c2 c3 x).t], .agg #[.float .f32 (rsQ ⟨l, s, zs, t⟩ c0 c1 c2 c3 x).l, .float .f32 (rsQ ⟨l, s, zs, t⟩ c0 c1 c2 c3 x).s, .slice A5 (rsQ ⟨l, s, zs, t⟩ c0 c1 c2 c3 x).zs.length cp5, .int .i64 (rsQ ⟨l, s, zs, t⟩ c0 c1 c2 c3 x).t], .bool true, .bool false, .bool false, .float .f32 (rsM ⟨l, s, zs, t⟩ c0 c1 c2 c3 x), .float .f64 (wideR (rsM ⟨l, s, zs, t⟩ c0 c1 c2 c3 x) v1), .float .f32 (rsM ⟨l, s, zs, t⟩ c0 c1 c2 c3 x), .float .f64 (wideR (rsM ⟨l, s, zs, t⟩ c0 c1 c2 c3 x) (v1.drewN (wideN (rsM ⟨l, s, zs, t⟩ c0 c1 c2 c3 x)))), .bool true, .bool false, .bool false, .bool false, .bool (stpB ⟨l, s, zs, t⟩ c0 c1 c2 c3 x), .bool (stpB ⟨l, s, zs, t⟩ c0 c1 c2 c3 x), .bool false, .bool false, .agg #[.float .f32 l, .float .f32 s, .slice (some ⟨bX, 0, none⟩) len len, .int .i64 t], .agg #[.float .f32 l, .float .f32 s, .slice a len cap, .int .i64 t], .agg #[.float .f32 l, .float .f32 s, .slice AE len len, .int .i64 t], .bool true, .bool false, .agg #[.float .f32 l, .float .f32 s, .slice (some ⟨bX, 0, none⟩) len len, .int .i64 t], .int .i64 1, .int .i64 (1 + len), .int .i64 (1 + len), .bool (decide (1 + len < 0)), .bool (decide (1 + len < 0)), .agg #[.float .f32 (rsQ ⟨l, s, zs, t⟩ c0 c1 c2 c3 x).l, .float .f32 (rsQ ⟨l, s, zs, t⟩ c0 c1 c2 c3 x).s, .slice A7 (rsQ ⟨l, s, zs, t⟩ c0 c1 c2 c3 x).zs.length cp7, .int .i64 (rsQ ⟨l, s, zs, t⟩ c0 c1 c2 c3 x).t], .agg #[.float .f32 (rsQ ⟨l, s, zs, t⟩ c0 c1 c2 c3 x).l, .float .f32 (rsQ ⟨l, s, zs, t⟩ c0 c1 c2 c3 x).s, .slice A5 (rsQ ⟨l, s, zs, t⟩ c0 c1 c2 c3 x).zs.length cp5, .int .i64 (rsQ ⟨l, s, zs, t⟩ c0 c1 c2 c3 x).t], .bool true, .bool false, .bool (decide (1 + len < 0)), .bool (decide (1 + len < 0)), .float .f32 (rsM ⟨l, s, zs, t⟩ c0 c1 c2 c3 x), .float .f64 (wideR (rsM ⟨l, s, zs, t⟩ c0 c1 c2 c3 x) v3), .float .f32 (rsM ⟨l, s, zs, t⟩ c0 c1 c2 c3 x), .float .f64 (wideR (rsM ⟨l, s, zs, t⟩ c0 c1 c2 c3 x) (v3.drewN (wideN (rsM ⟨l, s, zs, t⟩ c0 c1 c2 c3 x)))), .bool true, .bool false, .bool (decide (1 + len < 0)), .bool (decide (1 + len < 0)), .bool (stpB ⟨l, s, zs, t⟩ c0 c1 c2 c3 x), .bool (stpB ⟨l, s, zs, t⟩ c0 c1 c2 c3 x), .bool false, .bool (decide (1 + len < 0)), .agg #[.float .f32 (rsQ ⟨l, s, zs, t⟩ c0 c1 c2 c3 x).l, .float .f32 (rsQ ⟨l, s, zs, t⟩ c0 c1 c2 c3 x).s, .slice A7 (rsQ ⟨l, s, zs, t⟩ c0 c1 c2 c3 x).zs.length cp7, .int .i64 (rsQ ⟨l, s, zs, t⟩ c0 c1 c2 c3 x).t], .int .i64 1, .int .i64 (1 + (rsQ ⟨l, s, zs, t⟩ c0 c1 c2 c3 x).zs.length), .agg #[.float .f32 (rsQ ⟨l, s, zs, t⟩ c0 c1 c2 c3 x).l, .float .f32 (rsQ ⟨l, s, zs, t⟩ c0 c1 c2 c3 x).s, .slice A7 (rsQ ⟨l, s, zs, t⟩ c0 c1 c2 c3 x).zs.length cp7, .int .i64 (rsQ ⟨l, s, zs, t⟩ c0 c1 c2 c3 x).t], .int .i64 1, .int .i64 (1 + (rsQ ⟨l, s, zs, t⟩ c0 c1 c2 c3 x).zs.length), .int .i64 (1 + (rsQ ⟨l, s, zs, t⟩ c0 c1 c2 c3 x).zs.length), .bool (decide (1 + (rsQ ⟨l, s, zs, t⟩ c0 c1 c2 c3 x).zs.length < 0)), .int .i64 (1 + (rsQ ⟨l, s, zs, t⟩ c0 c1 c2 c3 x).zs.length), .int .i64 (1 + (rsQ ⟨l, s, zs, t⟩ c0 c1 c2 c3 x).zs.length), .bool false, vs24 6, vs24 0, vs24 1, vs24 2, vs24 3, vs24 4, vs24 5, vs24 7, vs24 8, vs24 9, undef, undef, undef, undef, undef, undef, undef, undef, undef, undef, undef, undef, undef, undef, undef, undef, undef, undef, undef, undef, undef, undef, undef, undef, undef], []⟩ := ha.trans (by kernel_rfl)
  clear ha
  obtain ⟨p24, A24, cp24, e1, -, hB, hon, hci, how, hne⟩ := hP
  have e2 : vs24 12 = .float .f32 (rsM ⟨l, s, zs, t⟩ c0 c1 c2 c3 x) := hv 12 (by decide) (by kernel_rfl)
  have e3 : vs24 13 = .bool (stpB ⟨l, s, zs, t⟩ c0 c1 c2 c3 x) := hv 13 (by decide) (by kernel_rfl)
  rw [e1, e2, e3] at hlit
  clear hv e1 e2 e3
  subst hlit
  have hB2 : Below W24.heap.size W24 w2 := (below_drewN (Below.refl W24.heap.size W24) 1).trans (hb.trans (hon.below hB))
  replace HS := Lib.hid (HS.out.below hB2)
  replace HH := Lib.hid (HH.out.below hB2)
  replace C5 := Lib.hid (C5.out.below hB2)
  replace R5 := Lib.hid (R5.out.below hB2)
  replace C7 := Lib.hid (C7.out.below hB2)
  replace M7 := Lib.hid (M7.out.below hB2)
  replace G := Lib.hid (G.out.trans (hB2.mono G.out.size))
  have C24 := Lib.hid hci
  obtain ⟨b24, hh, hb1, hb2⟩ := own_held (far := w2.heap.size) how rfl hB2.size p24 hne (Nat.ne_of_lt hci.1)
  have R24 := Lib.hid hh
  have hs24 := hB2.size
  have hp24 := hB
  have hbp24 := hb2
  have hbb24 := hb1
  have hpl24 := hci.1
  have hbl24 : 0 < (rsQ ⟨l, s, zs, t⟩ c0 c1 c2 c3 x).zs.length → b24 < w2.heap.size := hh.lt_
  clear hon hci how hne hh hb hb1 hb2 hB hB2
  skip
  generalize hW25 : w2 = W25 at *
  obtain ⟨k0, k1, k2, k3⟩ := C24.out.c4
  obtain ⟨j0, j1, j2, j3⟩ := C5.out.c4
  go_wp2_with fail
  refine (eqStE_any _ _ _ _ _ _ _ _ _ _ R24.out.sl R5.out.sl hRl).mono ?_
  rintro e v6 ⟨rfl, b⟩
  clear k0 k1 k2 k3
  clear j0 j1 j2 j3
  replace HS := Lib.hid (HS.out.below b)
  replace HH := Lib.hid (HH.out.below b)
  replace C5 := Lib.hid (C5.out.below b)
  replace R5 := Lib.hid (R5.out.below b)
  replace C7 := Lib.hid (C7.out.below b)
  replace M7 := Lib.hid (M7.out.below b)
  replace C24 := Lib.hid (C24.out.below b)
  replace R24 := Lib.hid (R24.out.below b)
  replace G := Lib.hid (G.out.trans (b.mono G.out.size))
  clear b
  go_wp2_with fail
  refine (sameFloat_true _ _ _ (by rw [cn_wideR, cn_wideR])).mono ?_
  rintro e w' ⟨nv6, rfl, rfl⟩
  replace HS := Lib.hid (HS.out.drewN (wideN (rsM ⟨l, s, zs, t⟩ c0 c1 c2 c3 x) + wideN (rsM ⟨l, s, zs, t⟩ c0 c1 c2 c3 x) + nv6))
  replace HH := Lib.hid (HH.out.drewN (wideN (rsM ⟨l, s, zs, t⟩ c0 c1 c2 c3 x) + wideN (rsM ⟨l, s, zs, t⟩ c0 c1 c2 c3 x) + nv6))
  replace C5 := Lib.hid (C5.out.drewN (wideN (rsM ⟨l, s, zs, t⟩ c0 c1 c2 c3 x) + wideN (rsM ⟨l, s, zs, t⟩ c0 c1 c2 c3 x) + nv6))
  replace R5 := Lib.hid (R5.out.drewN (wideN (rsM ⟨l, s, zs, t⟩ c0 c1 c2 c3 x) + wideN (rsM ⟨l, s, zs, t⟩ c0 c1 c2 c3 x) + nv6))
  replace C7 := Lib.hid (C7.out.drewN (wideN (rsM ⟨l, s, zs, t⟩ c0 c1 c2 c3 x) + wideN (rsM ⟨l, s, zs, t⟩ c0 c1 c2 c3 x) + nv6))
  replace M7 := Lib.hid (M7.out.drewN (wideN (rsM ⟨l, s, zs, t⟩ c0 c1 c2 c3 x) + wideN (rsM ⟨l, s, zs, t⟩ c0 c1 c2 c3 x) + nv6))
  replace C24 := Lib.hid (C24.out.drewN (wideN (rsM ⟨l, s, zs, t⟩ c0 c1 c2 c3 x) + wideN (rsM ⟨l, s, zs, t⟩ c0 c1 c2 c3 x) + nv6))
  replace R24 := Lib.hid (R24.out.drewN (wideN (rsM ⟨l, s, zs, t⟩ c0 c1 c2 c3 x) + wideN (rsM ⟨l, s, zs, t⟩ c0 c1 c2 c3 x) + nv6))
  replace G := Lib.hid (below_drewN G.out (wideN (rsM ⟨l, s, zs, t⟩ c0 c1 c2 c3 x) + wideN (rsM ⟨l, s, zs, t⟩ c0 c1 c2 c3 x) + nv6))
  obtain ⟨k0, k1, k2, k3⟩ := C7.out.c4
  go_wp2_with fail
  refine (heldSt_any _ _ _ 1 M7.out hRl (by omega)).mono ?_
  rintro e v7 ⟨rfl, b⟩
  clear k0 k1 k2 k3
  replace HS := Lib.hid (HS.out.below b)
  replace HH := Lib.hid (HH.out.below b)
  replace C5 := Lib.hid (C5.out.below b)
  replace R5 := Lib.hid (R5.out.below b)
  replace C7 := Lib.hid (C7.out.below b)
  replace M7 := Lib.hid (M7.out.below b)
  replace C24 := Lib.hid (C24.out.below b)
  replace R24 := Lib.hid (R24.out.below b)
  replace G := Lib.hid (G.out.trans (b.mono G.out.size))
  clear b
  go_wp2
  go_ret
  exact ⟨rfl, G.out⟩
end Go.Proofs.Ytgddfhmddkhaeaa.fnExactStepState
