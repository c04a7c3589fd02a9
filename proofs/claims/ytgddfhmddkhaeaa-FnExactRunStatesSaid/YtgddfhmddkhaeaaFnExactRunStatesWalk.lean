/-
  The law of RunStates.
-/
import Derived.Test.YtgddfhmddkhaeaaWmz
import Derived.Deep.RegionHeld3
import Derived.Deep.DeepCutAuto
namespace Go.Proofs.Ytgddfhmddkhaeaa.fnExactRunStates
open Go.RowKit Ieee
set_option linter.unusedVariables false
theorem toFtG_any (a : Option Addr) (len cap : Nat) (zs : List Nat) (w : World) (h : FSl w a len zs) (hm : len ≤ 1048576) :
    Calls Try.prog 25 #[.slice a len cap] w fun e w' => ∃ A b, e = .returned (.slice A len len) ∧ Held w' A b len zs ∧ Below w.heap.size w w' ∧ w.heap.size ≤ b ∧ b < w'.heap.size :=
  (toFt_any a len cap zs w h hm).mono fun _ _ ⟨h1, h2, h3, h4⟩ => ⟨_, _, h1, h2, h3, Nat.le_refl _, h4⟩
def ss7 (P X B : Nat) (al : Option Addr) (ll cl : Nat) (xs : List Nat) (l s : Nat) (a : Option Addr) (len cap : Nat) (zs : List Nat) (t : Int) (AX AL : Option Addr) (c0 c1 c2 c3 : Nat) : Nat → Value → World → Prop
  | 0, v, w => v = (.slice al ll cl)
  | 1, v, w => ∃ A b, v = .slice A ll ll ∧ Held w A b ll xs
  | 2, v, w => v = (.agg #[.float .f32 l, .float .f32 s, .slice a len cap, .int .i64 t])
  | 3, v, w => ∃ A b, v = .agg #[.float .f32 l, .float .f32 s, .slice A len len, .int .i64 t] ∧ Held w A b len zs
  | 4, v, w => v = (.agg #[.float .f32 c0, .float .f32 c1, .float .f32 c2, .float .f32 c3])
  | 5, v, w => v = (.agg #[.float .f32 c0, .float .f32 c1, .float .f32 c2, .float .f32 c3])
  | 6, v, w => ∃ A cp, v = .tuple #[.agg #[.float .f32 (rnS ⟨l, s, zs, t⟩ xs c0 c1 c2 c3 ll).l, .float .f32 (rnS ⟨l, s, zs, t⟩ xs c0 c1 c2 c3 ll).s, .slice A (rnS ⟨l, s, zs, t⟩ xs c0 c1 c2 c3 ll).zs.length cp, .int .i64 (rnS ⟨l, s, zs, t⟩ xs c0 c1 c2 c3 ll).t], .bool (rnB ⟨l, s, zs, t⟩ xs c0 c1 c2 c3 ll)] ∧ FOwn 22 B w (.slice A (rnS ⟨l, s, zs, t⟩ xs c0 c1 c2 c3 ll).zs.length cp) (rnS ⟨l, s, zs, t⟩ xs c0 c1 c2 c3 ll).zs
  | 7, v, w => ∃ A cp, v = .tuple #[.agg #[.float .f32 (rnS ⟨l, s, zs, t⟩ xs c0 c1 c2 c3 ll).l, .float .f32 (rnS ⟨l, s, zs, t⟩ xs c0 c1 c2 c3 ll).s, .slice A (rnS ⟨l, s, zs, t⟩ xs c0 c1 c2 c3 ll).zs.length cp, .int .i64 (rnS ⟨l, s, zs, t⟩ xs c0 c1 c2 c3 ll).t], .bool (rnB ⟨l, s, zs, t⟩ xs c0 c1 c2 c3 ll)] ∧ FOwn 22 B w (.slice A (rnS ⟨l, s, zs, t⟩ xs c0 c1 c2 c3 ll).zs.length cp) (rnS ⟨l, s, zs, t⟩ xs c0 c1 c2 c3 ll).zs
  | 8, v, w => ∃ A cp, v = .agg #[.float .f32 (rnS ⟨l, s, zs, t⟩ xs c0 c1 c2 c3 ll).l, .float .f32 (rnS ⟨l, s, zs, t⟩ xs c0 c1 c2 c3 ll).s, .slice A (rnS ⟨l, s, zs, t⟩ xs c0 c1 c2 c3 ll).zs.length cp, .int .i64 (rnS ⟨l, s, zs, t⟩ xs c0 c1 c2 c3 ll).t] ∧ FOwn 22 B w (.slice A (rnS ⟨l, s, zs, t⟩ xs c0 c1 c2 c3 ll).zs.length cp) (rnS ⟨l, s, zs, t⟩ xs c0 c1 c2 c3 ll).zs
  | 9, v, w => v = (.bool (rnB ⟨l, s, zs, t⟩ xs c0 c1 c2 c3 ll))
  | 10, v, w => ∃ p, v = .pointer (some ⟨p, 0, none⟩) ∧ B ≤ p ∧ w.heap[p]? = some (.cells #[.float .f32 0, .float .f32 0, .slice none 0 0, .int .i64 0] 29)
  | 11, v, w => True
  | 12, v, w => v = (.bool (rnB ⟨l, s, zs, t⟩ xs c0 c1 c2 c3 ll))
  | _, _, _ => True
theorem ss7_mono (P X B : Nat) (al : Option Addr) (ll cl : Nat) (xs : List Nat) (l s : Nat) (a : Option Addr) (len cap : Nat) (zs : List Nat) (t : Int) (AX AL : Option Addr) (c0 c1 c2 c3 : Nat) : ∀ i v w w', ss7 P X B al ll cl xs l s a len cap zs t AX AL c0 c1 c2 c3 i v w → Below w.heap.size w w' → ss7 P X B al ll cl xs l s a len cap zs t AX AL c0 c1 c2 c3 i v w'
  := by
  intro i v w w' h hb
  unfold ss7 at *
  split
  · exact h
  · exact (by obtain ⟨A, b, h1, h2⟩ := h; exact ⟨A, b, h1, Held.below h2 hb⟩)
  · exact h
  · exact (by obtain ⟨A, b, h1, h2⟩ := h; exact ⟨A, b, h1, Held.below h2 hb⟩)
  · exact h
  · exact h
  · exact (by obtain ⟨A, cp, h1, h2⟩ := h; exact ⟨A, cp, h1, FOwn.keepS h2 hb⟩)
  · exact (by obtain ⟨A, cp, h1, h2⟩ := h; exact ⟨A, cp, h1, FOwn.keepS h2 hb⟩)
  · exact (by obtain ⟨A, cp, h1, h2⟩ := h; exact ⟨A, cp, h1, FOwn.keepS h2 hb⟩)
  · exact h
  · exact (by obtain ⟨p, h1, h2, h3⟩ := h; exact ⟨p, h1, h2, by rw [hb.block p (Array.getElem?_eq_some_iff.1 h3).1]; exact h3⟩)
  · exact trivial
  · exact h
  · trivial
def ss10 (P X B : Nat) (al : Option Addr) (ll cl : Nat) (xs : List Nat) (l s : Nat) (a : Option Addr) (len cap : Nat) (zs : List Nat) (t : Int) (AX AL : Option Addr) (c0 c1 c2 c3 : Nat) : Nat → Value → World → Prop
  | 0, v, w => v = (.slice AL ll ll)
  | 1, v, w => v = (.agg #[.float .f32 l, .float .f32 s, .slice AX len len, .int .i64 t])
  | 2, v, w => v = (.agg #[.float .f32 c0, .float .f32 c1, .float .f32 c2, .float .f32 c3])
  | 3, v, w => v = (.agg #[.float .f32 c0, .float .f32 c1, .float .f32 c2, .float .f32 c3])
  | 4, v, w => ∃ A cp, v = .tuple #[.agg #[.float .f32 (rnS ⟨l, s, zs, t⟩ xs c0 c1 c2 c3 ll).l, .float .f32 (rnS ⟨l, s, zs, t⟩ xs c0 c1 c2 c3 ll).s, .slice A (rnS ⟨l, s, zs, t⟩ xs c0 c1 c2 c3 ll).zs.length cp, .int .i64 (rnS ⟨l, s, zs, t⟩ xs c0 c1 c2 c3 ll).t], .bool (rnB ⟨l, s, zs, t⟩ xs c0 c1 c2 c3 ll)] ∧ FOwn 22 B w (.slice A (rnS ⟨l, s, zs, t⟩ xs c0 c1 c2 c3 ll).zs.length cp) (rnS ⟨l, s, zs, t⟩ xs c0 c1 c2 c3 ll).zs
  | 5, v, w => ∃ A cp, v = .tuple #[.agg #[.float .f32 (rnS ⟨l, s, zs, t⟩ xs c0 c1 c2 c3 ll).l, .float .f32 (rnS ⟨l, s, zs, t⟩ xs c0 c1 c2 c3 ll).s, .slice A (rnS ⟨l, s, zs, t⟩ xs c0 c1 c2 c3 ll).zs.length cp, .int .i64 (rnS ⟨l, s, zs, t⟩ xs c0 c1 c2 c3 ll).t], .bool (rnB ⟨l, s, zs, t⟩ xs c0 c1 c2 c3 ll)] ∧ FOwn 22 B w (.slice A (rnS ⟨l, s, zs, t⟩ xs c0 c1 c2 c3 ll).zs.length cp) (rnS ⟨l, s, zs, t⟩ xs c0 c1 c2 c3 ll).zs
  | 6, v, w => ∃ A cp, v = .agg #[.float .f32 (rnS ⟨l, s, zs, t⟩ xs c0 c1 c2 c3 ll).l, .float .f32 (rnS ⟨l, s, zs, t⟩ xs c0 c1 c2 c3 ll).s, .slice A (rnS ⟨l, s, zs, t⟩ xs c0 c1 c2 c3 ll).zs.length cp, .int .i64 (rnS ⟨l, s, zs, t⟩ xs c0 c1 c2 c3 ll).t] ∧ FOwn 22 B w (.slice A (rnS ⟨l, s, zs, t⟩ xs c0 c1 c2 c3 ll).zs.length cp) (rnS ⟨l, s, zs, t⟩ xs c0 c1 c2 c3 ll).zs
  | 7, v, w => v = (.bool (rnB ⟨l, s, zs, t⟩ xs c0 c1 c2 c3 ll))
  | 8, v, w => ∃ p, v = .pointer (some ⟨p, 0, none⟩) ∧ B ≤ p ∧ w.heap[p]? = some (.cells #[.float .f32 0, .float .f32 0, .slice none 0 0, .int .i64 0] 29)
  | 9, v, w => True
  | 10, v, w => v = (.bool (rnB ⟨l, s, zs, t⟩ xs c0 c1 c2 c3 ll))
  | _, _, _ => True
theorem ss10_mono (P X B : Nat) (al : Option Addr) (ll cl : Nat) (xs : List Nat) (l s : Nat) (a : Option Addr) (len cap : Nat) (zs : List Nat) (t : Int) (AX AL : Option Addr) (c0 c1 c2 c3 : Nat) : ∀ i v w w', ss10 P X B al ll cl xs l s a len cap zs t AX AL c0 c1 c2 c3 i v w → Below w.heap.size w w' → ss10 P X B al ll cl xs l s a len cap zs t AX AL c0 c1 c2 c3 i v w'
  := by
  intro i v w w' h hb
  unfold ss10 at *
  split
  · exact h
  · exact h
  · exact h
  · exact h
  · exact (by obtain ⟨A, cp, h1, h2⟩ := h; exact ⟨A, cp, h1, FOwn.keepS h2 hb⟩)
  · exact (by obtain ⟨A, cp, h1, h2⟩ := h; exact ⟨A, cp, h1, FOwn.keepS h2 hb⟩)
  · exact (by obtain ⟨A, cp, h1, h2⟩ := h; exact ⟨A, cp, h1, FOwn.keepS h2 hb⟩)
  · exact h
  · exact (by obtain ⟨p, h1, h2, h3⟩ := h; exact ⟨p, h1, h2, by rw [hb.block p (Array.getElem?_eq_some_iff.1 h3).1]; exact h3⟩)
  · exact trivial
  · exact h
  · trivial
def ss30 (P X B : Nat) (al : Option Addr) (ll cl : Nat) (xs : List Nat) (l s : Nat) (a : Option Addr) (len cap : Nat) (zs : List Nat) (t : Int) (AX AL : Option Addr) (c0 c1 c2 c3 : Nat) : Nat → Value → World → Prop
  | 0, v, w => v = (.slice al ll cl)
  | 1, v, w => ∃ A b, v = .slice A ll ll ∧ Held w A b ll xs
  | 2, v, w => v = (.agg #[.float .f32 l, .float .f32 s, .slice a len cap, .int .i64 t])
  | 3, v, w => ∃ A b, v = .agg #[.float .f32 l, .float .f32 s, .slice A len len, .int .i64 t] ∧ Held w A b len zs
  | 4, v, w => v = (.agg #[.float .f32 c0, .float .f32 c1, .float .f32 c2, .float .f32 c3])
  | 5, v, w => v = (.agg #[.float .f32 c0, .float .f32 c1, .float .f32 c2, .float .f32 c3])
  | 6, v, w => ∃ A cp, v = .tuple #[.agg #[.float .f32 (rnS ⟨l, s, zs, t⟩ xs c0 c1 c2 c3 ll).l, .float .f32 (rnS ⟨l, s, zs, t⟩ xs c0 c1 c2 c3 ll).s, .slice A (rnS ⟨l, s, zs, t⟩ xs c0 c1 c2 c3 ll).zs.length cp, .int .i64 (rnS ⟨l, s, zs, t⟩ xs c0 c1 c2 c3 ll).t], .bool (rnB ⟨l, s, zs, t⟩ xs c0 c1 c2 c3 ll)] ∧ FOwn 22 B w (.slice A (rnS ⟨l, s, zs, t⟩ xs c0 c1 c2 c3 ll).zs.length cp) (rnS ⟨l, s, zs, t⟩ xs c0 c1 c2 c3 ll).zs
  | 7, v, w => ∃ A cp, v = .tuple #[.agg #[.float .f32 (rnS ⟨l, s, zs, t⟩ xs c0 c1 c2 c3 ll).l, .float .f32 (rnS ⟨l, s, zs, t⟩ xs c0 c1 c2 c3 ll).s, .slice A (rnS ⟨l, s, zs, t⟩ xs c0 c1 c2 c3 ll).zs.length cp, .int .i64 (rnS ⟨l, s, zs, t⟩ xs c0 c1 c2 c3 ll).t], .bool (rnB ⟨l, s, zs, t⟩ xs c0 c1 c2 c3 ll)] ∧ FOwn 22 B w (.slice A (rnS ⟨l, s, zs, t⟩ xs c0 c1 c2 c3 ll).zs.length cp) (rnS ⟨l, s, zs, t⟩ xs c0 c1 c2 c3 ll).zs
  | 8, v, w => ∃ A cp, v = .agg #[.float .f32 (rnS ⟨l, s, zs, t⟩ xs c0 c1 c2 c3 ll).l, .float .f32 (rnS ⟨l, s, zs, t⟩ xs c0 c1 c2 c3 ll).s, .slice A (rnS ⟨l, s, zs, t⟩ xs c0 c1 c2 c3 ll).zs.length cp, .int .i64 (rnS ⟨l, s, zs, t⟩ xs c0 c1 c2 c3 ll).t] ∧ FOwn 22 B w (.slice A (rnS ⟨l, s, zs, t⟩ xs c0 c1 c2 c3 ll).zs.length cp) (rnS ⟨l, s, zs, t⟩ xs c0 c1 c2 c3 ll).zs
  | 9, v, w => v = (.bool (rnB ⟨l, s, zs, t⟩ xs c0 c1 c2 c3 ll))
  | 10, v, w => ∃ p, v = .pointer (some ⟨p, 0, none⟩) ∧ B ≤ p ∧ w.heap[p]? = some (.cells #[.float .f32 0, .float .f32 0, .slice none 0 0, .int .i64 0] 29)
  | 11, v, w => True
  | 12, v, w => v = (.bool (rnB ⟨l, s, zs, t⟩ xs c0 c1 c2 c3 ll))
  | _, _, _ => True
theorem ss30_mono (P X B : Nat) (al : Option Addr) (ll cl : Nat) (xs : List Nat) (l s : Nat) (a : Option Addr) (len cap : Nat) (zs : List Nat) (t : Int) (AX AL : Option Addr) (c0 c1 c2 c3 : Nat) : ∀ i v w w', ss30 P X B al ll cl xs l s a len cap zs t AX AL c0 c1 c2 c3 i v w → Below w.heap.size w w' → ss30 P X B al ll cl xs l s a len cap zs t AX AL c0 c1 c2 c3 i v w'
  := by
  intro i v w w' h hb
  unfold ss30 at *
  split
  · exact h
  · exact (by obtain ⟨A, b, h1, h2⟩ := h; exact ⟨A, b, h1, Held.below h2 hb⟩)
  · exact h
  · exact (by obtain ⟨A, b, h1, h2⟩ := h; exact ⟨A, b, h1, Held.below h2 hb⟩)
  · exact h
  · exact h
  · exact (by obtain ⟨A, cp, h1, h2⟩ := h; exact ⟨A, cp, h1, FOwn.keepS h2 hb⟩)
  · exact (by obtain ⟨A, cp, h1, h2⟩ := h; exact ⟨A, cp, h1, FOwn.keepS h2 hb⟩)
  · exact (by obtain ⟨A, cp, h1, h2⟩ := h; exact ⟨A, cp, h1, FOwn.keepS h2 hb⟩)
  · exact h
  · exact (by obtain ⟨p, h1, h2, h3⟩ := h; exact ⟨p, h1, h2, by rw [hb.block p (Array.getElem?_eq_some_iff.1 h3).1]; exact h3⟩)
  · exact trivial
  · exact h
  · trivial
set_option maxHeartbeats 16000000 in
set_option maxRecDepth 100000 in
theorem walk (al : Option Addr) (ll cl : Nat) (xs : List Nat) (l s : Nat) (a : Option Addr) (len cap : Nat) (zs : List Nat) (t : Int) (c0 c1 c2 c3 : Nat) (w : World) (w0 : FRow w al ll cl xs) (w1 : FRow w a len cap zs) (x1 : (Lit.int .i64 t).wf = true) :
    Calls Try.prog 4 #[.slice al ll cl, .agg #[.float .f32 l, .float .f32 s, .slice a len cap, .int .i64 t], .agg #[.float .f32 c0, .float .f32 c1, .float .f32 c2, .float .f32 c3]] w fun e w' => e = .returned (.bool true) ∧ Below w.heap.size w w' := by
  clear x1
  obtain ⟨hs0, hlc0, hcm0, _⟩ := w0
  obtain ⟨hs1, hlc1, hcm1, _⟩ := w1
  have HL0 := Lib.hid hs0
  have hxl := hs0.1
  clear hs0
  have HZ0 := Lib.hid hs1
  have hzl := hs1.1
  clear hs1
  have G := Lib.hid (((Below.refl w.heap.size w).alloc (Nat.le_refl _) (.cells #[.float .f32 l, .float .f32 s, .slice a len cap, .int .i64 t] 25)).alloc (by simp) (.cells #[.float .f32 c0, .float .f32 c1, .float .f32 c2, .float .f32 c3] 27))
  have HS := Lib.hid ((StIn.new w l s a len cap t 25).alloc (.cells #[.float .f32 c0, .float .f32 c1, .float .f32 c2, .float .f32 c3] 27))
  have HH := Lib.hid (show ShIn ((w.alloc (.cells #[.float .f32 l, .float .f32 s, .slice a len cap, .int .i64 t] 25)).alloc (.cells #[.float .f32 c0, .float .f32 c1, .float .f32 c2, .float .f32 c3] 27)) (w.heap.size + 1) c0 c1 c2 c3 from by simpa using ShIn.new (w.alloc (.cells #[.float .f32 l, .float .f32 s, .slice a len cap, .int .i64 t] 25)) c0 c1 c2 c3 27)
  by_cases hml : ll ≤ 1048576
  rotate_left
  · skip
    go_enter Try.func4, Try.ntmps4
    go_wp2_with fail
    all_goals (go_ret; exact ⟨rfl, G.out⟩)
  by_cases hm : len ≤ 1048576
  rotate_left
  · skip
    go_enter Try.func4, Try.ntmps4
    obtain ⟨k0, k1, k2, k3⟩ := HS.out
    go_wp2_with fail
    refine (szSt_no _ _ _ _ _ _ 1048576 _ (by omega) (by omega) (by unfold maxLen at *; omega)).mono ?_
    rintro e u2 ⟨rfl, b⟩
    clear k0 k1 k2 k3
    replace HS := Lib.hid (HS.out.below b)
    replace HH := Lib.hid (HH.out.below b)
    replace G := Lib.hid (G.out.trans (b.mono G.out.size))
    clear b
    go_wp2
    go_ret
    exact ⟨rfl, G.out⟩
  go_enter Try.func4, Try.ntmps4
  obtain ⟨k0, k1, k2, k3⟩ := HS.out
  go_wp2_with fail
  refine (szSt_any _ _ _ _ _ _ 1048576 _ (by omega) (by omega)).mono ?_
  rintro e u2 ⟨rfl, b⟩
  clear k0 k1 k2 k3
  replace HS := Lib.hid (HS.out.below b)
  replace HH := Lib.hid (HH.out.below b)
  replace G := Lib.hid (G.out.trans (b.mono G.out.size))
  clear b
  have HL := Lib.hid (FSl.below HL0.out G.out)
  have HZ := Lib.hid (FSl.below HZ0.out G.out)
  have hn0 := HH.out.lt
  go_upto_region 7 with fail
  refine wp_region_MS (m := 11) (jp := 10) (jv := 8) (dp := 8) (dv := 35) (late := [9, 12]) (ss7 w.heap.size 0 u2.heap.size al ll cl xs l s a len cap zs t none none c0 c1 c2 c3) (fun pv sv v1 v2 => ∃ p A cp, pv = .pointer (some ⟨p, 0, none⟩) ∧ sv = .agg #[.float .f32 (rnS ⟨l, s, zs, t⟩ xs c0 c1 c2 c3 ll).l, .float .f32 (rnS ⟨l, s, zs, t⟩ xs c0 c1 c2 c3 ll).s, .slice A (rnS ⟨l, s, zs, t⟩ xs c0 c1 c2 c3 ll).zs.length cp, .int .i64 (rnS ⟨l, s, zs, t⟩ xs c0 c1 c2 c3 ll).t] ∧ u2.heap.size ≤ p ∧ Only p v1 v2 ∧ CIs v2 p [.float .f32 (rnS ⟨l, s, zs, t⟩ xs c0 c1 c2 c3 ll).l, .float .f32 (rnS ⟨l, s, zs, t⟩ xs c0 c1 c2 c3 ll).s, .slice A (rnS ⟨l, s, zs, t⟩ xs c0 c1 c2 c3 ll).zs.length cp, .int .i64 (rnS ⟨l, s, zs, t⟩ xs c0 c1 c2 c3 ll).t] ∧ FOwn 22 u2.heap.size v2 (.slice A (rnS ⟨l, s, zs, t⟩ xs c0 c1 c2 c3 ll).zs.length cp) (rnS ⟨l, s, zs, t⟩ xs c0 c1 c2 c3 ll).zs ∧ (Value.slice A (rnS ⟨l, s, zs, t⟩ xs c0 c1 c2 c3 ll).zs.length cp).ownBlock ≠ some p) (by kernel_rfl) (ss7_mono w.heap.size 0 u2.heap.size al ll cl xs l s a len cap zs t none none c0 c1 c2 c3) (by kernel_rfl) (by kernel_rfl) (by rfl) (by rfl) (by rfl) (by rfl) (by rfl) (by kernel_rfl) (by kernel_rfl) ?_ ?_ ?_ ?_
  · refine ⟨?_, ?_, ?_, ?_, ?_, ?_, ?_, ?_, ?_, ?_, ?_, trivial⟩
    · refine opM_do rfl (fun a_ w' hS hf K hK => ?_)
      have s0 : a_.tmps.getD 0 undef = (.slice al ll cl) := (hS.rest 0 (by kernel_rfl)).trans rfl
      go_simp
      exact hK _ _ (Below.refl _ _) rfl
    · refine opM_do rfl (fun a_ w' hS hf K hK => ?_)
      have s28 : a_.tmps.getD 28 undef = (.slice al ll cl) := hf 0 (by kernel_rfl) _ 28 rfl rfl
      have F1 := FSl.below (FSl.drewN HL.out 1) hS.below
      clear hf hS
      go_simp
      refine (toFtE_any al ll cl xs _ F1 hml).mono ?_
      rintro e u ⟨A, b, rfl, hh, bb, -⟩
      exact hK _ _ bb ⟨A, b, rfl, hh⟩
    · refine opM_do rfl (fun a_ w' hS hf K hK => ?_)
      have s4 : a_.tmps.getD 4 undef = (.pointer (some ⟨w.heap.size, 0, none⟩)) := (hS.rest 4 (by kernel_rfl)).trans rfl
      obtain ⟨k0, k1, k2, k3⟩ := StIn.below HS.out.drew hS.below
      go_simp
      exact hK _ _ (Below.refl _ _) rfl
    · refine opM_do rfl (fun a_ w' hS hf K hK => ?_)
      have s30 : a_.tmps.getD 30 undef = (.agg #[.float .f32 l, .float .f32 s, .slice a len cap, .int .i64 t]) := hf 2 (by kernel_rfl) _ 30 rfl rfl
      have F1 := FSl.below (FSl.drewN HZ.out 1) hS.below
      clear hf hS
      go_simp
      refine (toStE_any l s a len cap zs t _ F1 hm).mono ?_
      rintro e u ⟨A, b, rfl, hh, bb⟩
      exact hK _ _ bb ⟨A, b, rfl, hh⟩
    · refine opM_do rfl (fun a_ w' hS hf K hK => ?_)
      have s5 : a_.tmps.getD 5 undef = (.pointer (some ⟨(w.heap.size + 1), 0, none⟩)) := (hS.rest 5 (by kernel_rfl)).trans rfl
      obtain ⟨j0, j1, j2, j3⟩ := ShIn.below HH.out.drew hS.below
      go_simp
      exact hK _ _ (Below.refl _ _) rfl
    · refine opM_do rfl (fun a_ w' hS hf K hK => ?_)
      have s32 : a_.tmps.getD 32 undef = (.agg #[.float .f32 c0, .float .f32 c1, .float .f32 c2, .float .f32 c3]) := hf 4 (by kernel_rfl) _ 32 rfl rfl
      clear hf hS
      go_simp
      refine (toSh_any _ _ _ _ _).mono ?_
      rintro e u ⟨rfl, bb⟩
      exact hK _ _ bb rfl
    · refine opM_do rfl (fun a_ w' hS hf K hK => ?_)
      obtain ⟨A29, b29, s29, h29⟩ := (show ∃ A b, (a_.tmps.getD 29 undef) = .slice A ll ll ∧ Held w' A b ll xs from hf 1 (by kernel_rfl) _ 29 rfl rfl)
      obtain ⟨A31, b31, s31, h31⟩ := (show ∃ A b, (a_.tmps.getD 31 undef) = .agg #[.float .f32 l, .float .f32 s, .slice A len len, .int .i64 t] ∧ Held w' A b len zs from hf 3 (by kernel_rfl) _ 31 rfl rfl)
      have s33 : a_.tmps.getD 33 undef = (.agg #[.float .f32 c0, .float .f32 c1, .float .f32 c2, .float .f32 c3]) := hf 5 (by kernel_rfl) _ 33 rfl rfl
      have hsz : u2.heap.size ≤ w'.heap.size := hS.below.size
      have hFz := h31.sl
      have hFx := h29.sl
      clear hf hS
      go_simp
      refine (spRuns_any _ ll ll xs l s _ len len zs t c0 c1 c2 c3 _ hFx hFz hml hm).mono ?_
      rintro e u ⟨A, cp, rfl, ho, bb⟩
      exact hK _ _ bb ⟨A, cp, rfl, FOwn.mono ho (by omega)⟩
    · refine opM_do rfl (fun a_ w' hS hf K hK => ?_)
      obtain ⟨A34, cp34, s34, h34⟩ := (show ∃ A cp, (a_.tmps.getD 34 undef) = .tuple #[.agg #[.float .f32 (rnS ⟨l, s, zs, t⟩ xs c0 c1 c2 c3 ll).l, .float .f32 (rnS ⟨l, s, zs, t⟩ xs c0 c1 c2 c3 ll).s, .slice A (rnS ⟨l, s, zs, t⟩ xs c0 c1 c2 c3 ll).zs.length cp, .int .i64 (rnS ⟨l, s, zs, t⟩ xs c0 c1 c2 c3 ll).t], .bool (rnB ⟨l, s, zs, t⟩ xs c0 c1 c2 c3 ll)] ∧ FOwn 22 u2.heap.size w' (.slice A (rnS ⟨l, s, zs, t⟩ xs c0 c1 c2 c3 ll).zs.length cp) (rnS ⟨l, s, zs, t⟩ xs c0 c1 c2 c3 ll).zs from hf 6 (by kernel_rfl) _ 34 rfl rfl)
      go_simp
      exact hK _ _ (Below.refl _ _) ⟨_, _, rfl, h34⟩
    · refine opM_do rfl (fun a_ w' hS hf K hK => ?_)
      obtain ⟨A27, cp27, s27, h27⟩ := (show ∃ A cp, (a_.tmps.getD 27 undef) = .tuple #[.agg #[.float .f32 (rnS ⟨l, s, zs, t⟩ xs c0 c1 c2 c3 ll).l, .float .f32 (rnS ⟨l, s, zs, t⟩ xs c0 c1 c2 c3 ll).s, .slice A (rnS ⟨l, s, zs, t⟩ xs c0 c1 c2 c3 ll).zs.length cp, .int .i64 (rnS ⟨l, s, zs, t⟩ xs c0 c1 c2 c3 ll).t], .bool (rnB ⟨l, s, zs, t⟩ xs c0 c1 c2 c3 ll)] ∧ FOwn 22 u2.heap.size w' (.slice A (rnS ⟨l, s, zs, t⟩ xs c0 c1 c2 c3 ll).zs.length cp) (rnS ⟨l, s, zs, t⟩ xs c0 c1 c2 c3 ll).zs from hf 7 (by kernel_rfl) _ 27 rfl rfl)
      go_simp
      exact hK _ _ (Below.refl _ _) ⟨_, _, rfl, h27⟩
    · refine opM_do rfl (fun a_ w' hS hf K hK => ?_)
      obtain ⟨A27, cp27, s27, h27⟩ := (show ∃ A cp, (a_.tmps.getD 27 undef) = .tuple #[.agg #[.float .f32 (rnS ⟨l, s, zs, t⟩ xs c0 c1 c2 c3 ll).l, .float .f32 (rnS ⟨l, s, zs, t⟩ xs c0 c1 c2 c3 ll).s, .slice A (rnS ⟨l, s, zs, t⟩ xs c0 c1 c2 c3 ll).zs.length cp, .int .i64 (rnS ⟨l, s, zs, t⟩ xs c0 c1 c2 c3 ll).t], .bool (rnB ⟨l, s, zs, t⟩ xs c0 c1 c2 c3 ll)] ∧ FOwn 22 u2.heap.size w' (.slice A (rnS ⟨l, s, zs, t⟩ xs c0 c1 c2 c3 ll).zs.length cp) (rnS ⟨l, s, zs, t⟩ xs c0 c1 c2 c3 ll).zs from hf 7 (by kernel_rfl) _ 27 rfl rfl)
      go_simp
      exact hK _ _ (Below.refl _ _) rfl
    · refine opM_do rfl (fun a_ w' hS hf K hK => ?_)
      have hsz : u2.heap.size ≤ w'.heap.size := hS.below.size
      clear hf hS
      go_simp
      exact hK _ _ ((Below.refl _ _).alloc (Nat.le_refl _) _) ⟨w'.heap.size, rfl, hsz, alloc_top _ _⟩
  · refine ⟨?_, ?_, trivial⟩
    · refine opP_do rfl rfl (fun a_ w1 w2 hf K hK => ?_)
      obtain ⟨A27, cp27, s27, h27⟩ := (show ∃ A cp, (a_.tmps.getD 27 undef) = .tuple #[.agg #[.float .f32 (rnS ⟨l, s, zs, t⟩ xs c0 c1 c2 c3 ll).l, .float .f32 (rnS ⟨l, s, zs, t⟩ xs c0 c1 c2 c3 ll).s, .slice A (rnS ⟨l, s, zs, t⟩ xs c0 c1 c2 c3 ll).zs.length cp, .int .i64 (rnS ⟨l, s, zs, t⟩ xs c0 c1 c2 c3 ll).t], .bool (rnB ⟨l, s, zs, t⟩ xs c0 c1 c2 c3 ll)] ∧ FOwn 22 u2.heap.size w1 (.slice A (rnS ⟨l, s, zs, t⟩ xs c0 c1 c2 c3 ll).zs.length cp) (rnS ⟨l, s, zs, t⟩ xs c0 c1 c2 c3 ll).zs from hf 7 (by kernel_rfl) _ 27 rfl rfl)
      go_simp
      exact hK _ rfl
    · refine opP_do rfl rfl (fun a_ w1 w2 hf K hK => ?_)
      have s36 : a_.tmps.getD 36 undef = (.bool (rnB ⟨l, s, zs, t⟩ xs c0 c1 c2 c3 ll)) := hf 9 (by kernel_rfl) _ 36 rfl rfl
      go_simp
      exact hK _ rfl
  · intro a_ w1 hS hjp hjv K hK
    obtain ⟨p, s8, hB, hc⟩ := (show ∃ p, a_.tmps.getD 8 undef = .pointer (some ⟨p, 0, none⟩) ∧ u2.heap.size ≤ p ∧ w1.heap[p]? = some (.cells #[.float .f32 0, .float .f32 0, .slice none 0 0, .int .i64 0] 29) from hjp)
    obtain ⟨A, cp, s35, ho⟩ := (show ∃ A cp, a_.tmps.getD 35 undef = .agg #[.float .f32 (rnS ⟨l, s, zs, t⟩ xs c0 c1 c2 c3 ll).l, .float .f32 (rnS ⟨l, s, zs, t⟩ xs c0 c1 c2 c3 ll).s, .slice A (rnS ⟨l, s, zs, t⟩ xs c0 c1 c2 c3 ll).zs.length cp, .int .i64 (rnS ⟨l, s, zs, t⟩ xs c0 c1 c2 c3 ll).t] ∧ FOwn 22 u2.heap.size w1 (.slice A (rnS ⟨l, s, zs, t⟩ xs c0 c1 c2 c3 ll).zs.length cp) (rnS ⟨l, s, zs, t⟩ xs c0 c1 c2 c3 ll).zs from hjv)
    have hci := cis_of4 hc
    have hne := own_nT ho hc (by decide)
    have hon := ((((Only.refl p w1).setCell 0 (.float .f32 (rnS ⟨l, s, zs, t⟩ xs c0 c1 c2 c3 ll).l)).setCell 1 (.float .f32 (rnS ⟨l, s, zs, t⟩ xs c0 c1 c2 c3 ll).s)).setCell 2 (.slice A (rnS ⟨l, s, zs, t⟩ xs c0 c1 c2 c3 ll).zs.length cp)).setCell 3 (.int .i64 (rnS ⟨l, s, zs, t⟩ xs c0 c1 c2 c3 ll).t)
    have hpu := (((hci.put (o := 0) (v := .float .f32 (rnS ⟨l, s, zs, t⟩ xs c0 c1 c2 c3 ll).l) (by simp)).put (o := 1) (v := .float .f32 (rnS ⟨l, s, zs, t⟩ xs c0 c1 c2 c3 ll).s) (by simp)).put (o := 2) (v := .slice A (rnS ⟨l, s, zs, t⟩ xs c0 c1 c2 c3 ll).zs.length cp) (by simp)).put (o := 3) (v := .int .i64 (rnS ⟨l, s, zs, t⟩ xs c0 c1 c2 c3 ll).t) (by simp)
    have how := own_set ho hon hne
    rw [s8, s35] at hK
    clear hjp hjv hS hc ho
    obtain ⟨g0, g1, g2, g3⟩ := hci.c4
    obtain ⟨f0, f1, f2, f3⟩ := hci.f4
    go_simp
    exact hK _ ⟨p, A, cp, rfl, rfl, hB, hon, hpu, how, hne⟩
  intro vs7 a_ w1 w2 hb hv ha hP
  have hlit : a_ = ⟨#[.slice al ll cl, .agg #[.float .f32 l, .float .f32 s, .slice a len cap, .int .i64 t], .agg #[.float .f32 c0, .float .f32 c1, .float .f32 c2, .float .f32 c3], undef, .pointer (some ⟨w.heap.size, 0, none⟩), .pointer (some ⟨w.heap.size + 1, 0, none⟩), .bool false, .int .i64 ((1048576 - len : Nat) : Int), vs7 10, vs7 12, undef, undef, undef, undef, undef, undef, undef, undef, undef, .slice al ll cl, .int .i64 ll, .bool (decide ((1048576 : Int) < (ll : Int))), .agg #[.float .f32 l, .float .f32 s, .slice a len cap, .int .i64 t], .int .i64 1048576, .int .i64 ((1048576 - len : Nat) : Int), .int .i64 ((1048576 - len : Nat) : Int), .bool (decide (((1048576 - len : Nat) : Int) < 0)), vs7 7, vs7 0, vs7 1, vs7 2, vs7 3, vs7 4, vs7 5, vs7 6, vs7 8, vs7 9, undef, undef, undef, undef, undef, undef, undef, undef, undef, undef, undef, undef, undef, undef, undef, undef, undef, undef, undef, undef, undef, undef, undef, undef, undef, undef, undef, undef, undef, undef, undef, undef, undef, undef, undef, undef, undef, undef, undef, undef, undef, undef, undef, undef, undef, undef, undef, undef, undef, undef, undef, undef, undef, undef, undef, undef, undef, undef, undef, undef, undef, undef, undef, undef, undef, undef, undef, undef, undef, undef, undef, undef, undef, undef, undef, undef, undef, undef, undef, undef, undef, undef, undef, undef, undef, undef, undef, undef], []⟩ := ha.trans (by kernel_rfl)
  clear ha
  obtain ⟨p7, A7, cp7, e1, -, hB, hon, hci, how, hne⟩ := hP
  have e3 : vs7 12 = .bool (rnB ⟨l, s, zs, t⟩ xs c0 c1 c2 c3 ll) := hv 12 (by decide) (by kernel_rfl)
  rw [e1, e3] at hlit
  clear hv e1 e3
  subst hlit
  have hB2 : Below u2.heap.size u2 w2 := (below_drewN (Below.refl u2.heap.size u2) 1).trans (hb.trans (hon.below hB))
  replace HS := Lib.hid (HS.out.below hB2)
  replace HH := Lib.hid (HH.out.below hB2)
  replace G := Lib.hid (G.out.trans (hB2.mono G.out.size))
  have C7 := Lib.hid hci
  obtain ⟨b7, hh, hb1, hb2⟩ := own_held (far := w2.heap.size) how rfl hB2.size p7 hne (Nat.ne_of_lt hci.1)
  have R7 := Lib.hid hh
  have hs7 := hB2.size
  have hp7 := hB
  have hbp7 := hb2
  have hbb7 := hb1
  have hpl7 := hci.1
  have hbl7 : 0 < (rnS ⟨l, s, zs, t⟩ xs c0 c1 c2 c3 ll).zs.length → b7 < w2.heap.size := hh.lt_
  clear hon hci how hne hh hb hb1 hb2 hB hB2
  skip
  clear HZ HL
  have HZ := Lib.hid (FSl.below HZ0.out G.out)
  have HL := Lib.hid (FSl.below HL0.out G.out)
  have hRl : (rnS ⟨l, s, zs, t⟩ xs c0 c1 c2 c3 ll).zs.length ≤ 1048576 := rnS_len ⟨l, s, zs, t⟩ xs c0 c1 c2 c3 ll (by rw [show (⟨l, s, zs, t⟩ : Stt).zs = zs from rfl, hzl]; exact hm)
  generalize hW5 : w2 = W5 at *
  go_wp2_with fail
  refine (toFtG_any _ _ _ _ _ HL.out hml).mono ?_
  rintro e u5 ⟨AL, bL, rfl, tL, b, qL, hbL⟩
  skip
  have hs5 := b.size
  replace HS := Lib.hid (HS.out.below b)
  replace HH := Lib.hid (HH.out.below b)
  replace C7 := Lib.hid (C7.out.below b)
  replace R7 := Lib.hid (R7.out.below b)
  replace G := Lib.hid (G.out.trans (b.mono G.out.size))
  clear b
  have HLX := Lib.hid tL
  clear tL
  clear HZ
  have HZ := Lib.hid (FSl.below HZ0.out G.out)
  obtain ⟨k0, k1, k2, k3⟩ := HS.out
  go_wp2_with fail
  refine (toSt_any _ _ _ _ _ _ _ _ HZ.out hm).mono ?_
  rintro e u6 ⟨rfl, tX, b, qX⟩
  clear k0 k1 k2 k3
  have hs6 := b.size
  replace HS := Lib.hid (HS.out.below b)
  replace HH := Lib.hid (HH.out.below b)
  replace C7 := Lib.hid (C7.out.below b)
  replace R7 := Lib.hid (R7.out.below b)
  replace HLX := Lib.hid (HLX.out.below b)
  replace G := Lib.hid (G.out.trans (b.mono G.out.size))
  clear b
  generalize hbX : u5.heap.size + 1 + 1 + 1 = bX at *
  obtain ⟨pX, hpX⟩ : ∃ p, u6.heap.size = p := ⟨_, rfl⟩
  have al_ := (Below.refl u6.heap.size u6).alloc (Nat.le_refl _) (.cells #[.float .f32 l, .float .f32 s, .slice (some ⟨bX, 0, none⟩) len len, .int .i64 t] 29)
  have HXZ := Lib.hid (tX.below al_)
  replace HS := Lib.hid (HS.out.below al_)
  replace HH := Lib.hid (HH.out.below al_)
  replace C7 := Lib.hid (C7.out.below al_)
  replace R7 := Lib.hid (R7.out.below al_)
  replace HLX := Lib.hid (HLX.out.below al_)
  replace G := Lib.hid (G.out.trans (al_.mono G.out.size))
  clear al_ tX
  have HX := Lib.hid (CIs.newAt u6 [.float .f32 l, .float .f32 s, .slice (some ⟨bX, 0, none⟩) len len, .int .i64 t] 29 (p := pX) hpX.symm)
  go_upto_region 10 with fail
  have hsz7 : (u6.alloc (.cells #[.float .f32 l, .float .f32 s, .slice (some ⟨bX, 0, none⟩) len len, .int .i64 t] 29)).heap.size = u6.heap.size + 1 := World.size_alloc _ _
  try rw [hpX]
  generalize u6.alloc (.cells #[.float .f32 l, .float .f32 s, .slice (some ⟨bX, 0, none⟩) len len, .int .i64 t] 29) = W7 at *
  refine wp_region_MS (m := 9) (jp := 8) (jv := 6) (dp := 12) (dv := 47) (late := [7, 10]) (ss10 w.heap.size pX W7.heap.size al ll cl xs l s a len cap zs t (some ⟨bX, 0, none⟩) AL c0 c1 c2 c3) (fun pv sv v1 v2 => ∃ p A cp, pv = .pointer (some ⟨p, 0, none⟩) ∧ sv = .agg #[.float .f32 (rnS ⟨l, s, zs, t⟩ xs c0 c1 c2 c3 ll).l, .float .f32 (rnS ⟨l, s, zs, t⟩ xs c0 c1 c2 c3 ll).s, .slice A (rnS ⟨l, s, zs, t⟩ xs c0 c1 c2 c3 ll).zs.length cp, .int .i64 (rnS ⟨l, s, zs, t⟩ xs c0 c1 c2 c3 ll).t] ∧ W7.heap.size ≤ p ∧ Only p v1 v2 ∧ CIs v2 p [.float .f32 (rnS ⟨l, s, zs, t⟩ xs c0 c1 c2 c3 ll).l, .float .f32 (rnS ⟨l, s, zs, t⟩ xs c0 c1 c2 c3 ll).s, .slice A (rnS ⟨l, s, zs, t⟩ xs c0 c1 c2 c3 ll).zs.length cp, .int .i64 (rnS ⟨l, s, zs, t⟩ xs c0 c1 c2 c3 ll).t] ∧ FOwn 22 W7.heap.size v2 (.slice A (rnS ⟨l, s, zs, t⟩ xs c0 c1 c2 c3 ll).zs.length cp) (rnS ⟨l, s, zs, t⟩ xs c0 c1 c2 c3 ll).zs ∧ (Value.slice A (rnS ⟨l, s, zs, t⟩ xs c0 c1 c2 c3 ll).zs.length cp).ownBlock ≠ some p) (by kernel_rfl) (ss10_mono w.heap.size pX W7.heap.size al ll cl xs l s a len cap zs t (some ⟨bX, 0, none⟩) AL c0 c1 c2 c3) (by kernel_rfl) (by kernel_rfl) (by rfl) (by rfl) (by rfl) (by rfl) (by rfl) (by kernel_rfl) (by kernel_rfl) ?_ ?_ ?_ ?_
  · refine ⟨?_, ?_, ?_, ?_, ?_, ?_, ?_, ?_, ?_, trivial⟩
    · refine opM_do rfl (fun a_ w' hS hf K hK => ?_)
      have s10 : a_.tmps.getD 10 undef = (.slice AL ll ll) := (hS.rest 10 (by kernel_rfl)).trans rfl
      go_simp
      exact hK _ _ (Below.refl _ _) rfl
    · refine opM_do rfl (fun a_ w' hS hf K hK => ?_)
      have s11 : a_.tmps.getD 11 undef = (.pointer (some ⟨pX, 0, none⟩)) := (hS.rest 11 (by kernel_rfl)).trans rfl
      obtain ⟨k0, k1, k2, k3⟩ := (CIs.below (CIs.drew HX.out) hS.below).c4
      go_simp
      exact hK _ _ (Below.refl _ _) rfl
    · refine opM_do rfl (fun a_ w' hS hf K hK => ?_)
      have s5 : a_.tmps.getD 5 undef = (.pointer (some ⟨(w.heap.size + 1), 0, none⟩)) := (hS.rest 5 (by kernel_rfl)).trans rfl
      obtain ⟨j0, j1, j2, j3⟩ := ShIn.below HH.out.drew hS.below
      go_simp
      exact hK _ _ (Below.refl _ _) rfl
    · refine opM_do rfl (fun a_ w' hS hf K hK => ?_)
      have s44 : a_.tmps.getD 44 undef = (.agg #[.float .f32 c0, .float .f32 c1, .float .f32 c2, .float .f32 c3]) := hf 2 (by kernel_rfl) _ 44 rfl rfl
      clear hf hS
      go_simp
      refine (toSh_any _ _ _ _ _).mono ?_
      rintro e u ⟨rfl, bb⟩
      exact hK _ _ bb rfl
    · refine opM_do rfl (fun a_ w' hS hf K hK => ?_)
      have s42 : a_.tmps.getD 42 undef = (.slice AL ll ll) := hf 0 (by kernel_rfl) _ 42 rfl rfl
      have s43 : a_.tmps.getD 43 undef = (.agg #[.float .f32 l, .float .f32 s, .slice (some ⟨bX, 0, none⟩) len len, .int .i64 t]) := hf 1 (by kernel_rfl) _ 43 rfl rfl
      have s45 : a_.tmps.getD 45 undef = (.agg #[.float .f32 c0, .float .f32 c1, .float .f32 c2, .float .f32 c3]) := hf 3 (by kernel_rfl) _ 45 rfl rfl
      have hsz : W7.heap.size ≤ w'.heap.size := hS.below.size
      have hFz := (HXZ.out.dw.below hS.below).sl
      have hFx := (HLX.out.dw.below hS.below).sl
      clear hf hS
      go_simp
      refine (imRuns_any _ ll ll xs l s _ len len zs t c0 c1 c2 c3 _ hFx hFz hml hm).mono ?_
      rintro e u ⟨A, cp, rfl, ho, bb⟩
      exact hK _ _ bb ⟨A, cp, rfl, FOwn.mono ho (by omega)⟩
    · refine opM_do rfl (fun a_ w' hS hf K hK => ?_)
      obtain ⟨A46, cp46, s46, h46⟩ := (show ∃ A cp, (a_.tmps.getD 46 undef) = .tuple #[.agg #[.float .f32 (rnS ⟨l, s, zs, t⟩ xs c0 c1 c2 c3 ll).l, .float .f32 (rnS ⟨l, s, zs, t⟩ xs c0 c1 c2 c3 ll).s, .slice A (rnS ⟨l, s, zs, t⟩ xs c0 c1 c2 c3 ll).zs.length cp, .int .i64 (rnS ⟨l, s, zs, t⟩ xs c0 c1 c2 c3 ll).t], .bool (rnB ⟨l, s, zs, t⟩ xs c0 c1 c2 c3 ll)] ∧ FOwn 22 W7.heap.size w' (.slice A (rnS ⟨l, s, zs, t⟩ xs c0 c1 c2 c3 ll).zs.length cp) (rnS ⟨l, s, zs, t⟩ xs c0 c1 c2 c3 ll).zs from hf 4 (by kernel_rfl) _ 46 rfl rfl)
      go_simp
      exact hK _ _ (Below.refl _ _) ⟨_, _, rfl, h46⟩
    · refine opM_do rfl (fun a_ w' hS hf K hK => ?_)
      obtain ⟨A41, cp41, s41, h41⟩ := (show ∃ A cp, (a_.tmps.getD 41 undef) = .tuple #[.agg #[.float .f32 (rnS ⟨l, s, zs, t⟩ xs c0 c1 c2 c3 ll).l, .float .f32 (rnS ⟨l, s, zs, t⟩ xs c0 c1 c2 c3 ll).s, .slice A (rnS ⟨l, s, zs, t⟩ xs c0 c1 c2 c3 ll).zs.length cp, .int .i64 (rnS ⟨l, s, zs, t⟩ xs c0 c1 c2 c3 ll).t], .bool (rnB ⟨l, s, zs, t⟩ xs c0 c1 c2 c3 ll)] ∧ FOwn 22 W7.heap.size w' (.slice A (rnS ⟨l, s, zs, t⟩ xs c0 c1 c2 c3 ll).zs.length cp) (rnS ⟨l, s, zs, t⟩ xs c0 c1 c2 c3 ll).zs from hf 5 (by kernel_rfl) _ 41 rfl rfl)
      go_simp
      exact hK _ _ (Below.refl _ _) ⟨_, _, rfl, h41⟩
    · refine opM_do rfl (fun a_ w' hS hf K hK => ?_)
      obtain ⟨A41, cp41, s41, h41⟩ := (show ∃ A cp, (a_.tmps.getD 41 undef) = .tuple #[.agg #[.float .f32 (rnS ⟨l, s, zs, t⟩ xs c0 c1 c2 c3 ll).l, .float .f32 (rnS ⟨l, s, zs, t⟩ xs c0 c1 c2 c3 ll).s, .slice A (rnS ⟨l, s, zs, t⟩ xs c0 c1 c2 c3 ll).zs.length cp, .int .i64 (rnS ⟨l, s, zs, t⟩ xs c0 c1 c2 c3 ll).t], .bool (rnB ⟨l, s, zs, t⟩ xs c0 c1 c2 c3 ll)] ∧ FOwn 22 W7.heap.size w' (.slice A (rnS ⟨l, s, zs, t⟩ xs c0 c1 c2 c3 ll).zs.length cp) (rnS ⟨l, s, zs, t⟩ xs c0 c1 c2 c3 ll).zs from hf 5 (by kernel_rfl) _ 41 rfl rfl)
      go_simp
      exact hK _ _ (Below.refl _ _) rfl
    · refine opM_do rfl (fun a_ w' hS hf K hK => ?_)
      have hsz : W7.heap.size ≤ w'.heap.size := hS.below.size
      clear hf hS
      go_simp
      exact hK _ _ ((Below.refl _ _).alloc (Nat.le_refl _) _) ⟨w'.heap.size, rfl, hsz, alloc_top _ _⟩
  · refine ⟨?_, ?_, trivial⟩
    · refine opP_do rfl rfl (fun a_ w1 w2 hf K hK => ?_)
      obtain ⟨A41, cp41, s41, h41⟩ := (show ∃ A cp, (a_.tmps.getD 41 undef) = .tuple #[.agg #[.float .f32 (rnS ⟨l, s, zs, t⟩ xs c0 c1 c2 c3 ll).l, .float .f32 (rnS ⟨l, s, zs, t⟩ xs c0 c1 c2 c3 ll).s, .slice A (rnS ⟨l, s, zs, t⟩ xs c0 c1 c2 c3 ll).zs.length cp, .int .i64 (rnS ⟨l, s, zs, t⟩ xs c0 c1 c2 c3 ll).t], .bool (rnB ⟨l, s, zs, t⟩ xs c0 c1 c2 c3 ll)] ∧ FOwn 22 W7.heap.size w1 (.slice A (rnS ⟨l, s, zs, t⟩ xs c0 c1 c2 c3 ll).zs.length cp) (rnS ⟨l, s, zs, t⟩ xs c0 c1 c2 c3 ll).zs from hf 5 (by kernel_rfl) _ 41 rfl rfl)
      go_simp
      exact hK _ rfl
    · refine opP_do rfl rfl (fun a_ w1 w2 hf K hK => ?_)
      have s48 : a_.tmps.getD 48 undef = (.bool (rnB ⟨l, s, zs, t⟩ xs c0 c1 c2 c3 ll)) := hf 7 (by kernel_rfl) _ 48 rfl rfl
      go_simp
      exact hK _ rfl
  · intro a_ w1 hS hjp hjv K hK
    obtain ⟨p, s12, hB, hc⟩ := (show ∃ p, a_.tmps.getD 12 undef = .pointer (some ⟨p, 0, none⟩) ∧ W7.heap.size ≤ p ∧ w1.heap[p]? = some (.cells #[.float .f32 0, .float .f32 0, .slice none 0 0, .int .i64 0] 29) from hjp)
    obtain ⟨A, cp, s47, ho⟩ := (show ∃ A cp, a_.tmps.getD 47 undef = .agg #[.float .f32 (rnS ⟨l, s, zs, t⟩ xs c0 c1 c2 c3 ll).l, .float .f32 (rnS ⟨l, s, zs, t⟩ xs c0 c1 c2 c3 ll).s, .slice A (rnS ⟨l, s, zs, t⟩ xs c0 c1 c2 c3 ll).zs.length cp, .int .i64 (rnS ⟨l, s, zs, t⟩ xs c0 c1 c2 c3 ll).t] ∧ FOwn 22 W7.heap.size w1 (.slice A (rnS ⟨l, s, zs, t⟩ xs c0 c1 c2 c3 ll).zs.length cp) (rnS ⟨l, s, zs, t⟩ xs c0 c1 c2 c3 ll).zs from hjv)
    have hci := cis_of4 hc
    have hne := own_nT ho hc (by decide)
    have hon := ((((Only.refl p w1).setCell 0 (.float .f32 (rnS ⟨l, s, zs, t⟩ xs c0 c1 c2 c3 ll).l)).setCell 1 (.float .f32 (rnS ⟨l, s, zs, t⟩ xs c0 c1 c2 c3 ll).s)).setCell 2 (.slice A (rnS ⟨l, s, zs, t⟩ xs c0 c1 c2 c3 ll).zs.length cp)).setCell 3 (.int .i64 (rnS ⟨l, s, zs, t⟩ xs c0 c1 c2 c3 ll).t)
    have hpu := (((hci.put (o := 0) (v := .float .f32 (rnS ⟨l, s, zs, t⟩ xs c0 c1 c2 c3 ll).l) (by simp)).put (o := 1) (v := .float .f32 (rnS ⟨l, s, zs, t⟩ xs c0 c1 c2 c3 ll).s) (by simp)).put (o := 2) (v := .slice A (rnS ⟨l, s, zs, t⟩ xs c0 c1 c2 c3 ll).zs.length cp) (by simp)).put (o := 3) (v := .int .i64 (rnS ⟨l, s, zs, t⟩ xs c0 c1 c2 c3 ll).t) (by simp)
    have how := own_set ho hon hne
    rw [s12, s47] at hK
    clear hjp hjv hS hc ho
    obtain ⟨g0, g1, g2, g3⟩ := hci.c4
    obtain ⟨f0, f1, f2, f3⟩ := hci.f4
    go_simp
    exact hK _ ⟨p, A, cp, rfl, rfl, hB, hon, hpu, how, hne⟩
  intro vs10 a_ w1 w2 hb hv ha hP
  have hlit : a_ = ⟨#[.slice al ll cl, .agg #[.float .f32 l, .float .f32 s, .slice a len cap, .int .i64 t], .agg #[.float .f32 c0, .float .f32 c1, .float .f32 c2, .float .f32 c3], undef, .pointer (some ⟨w.heap.size, 0, none⟩), .pointer (some ⟨w.heap.size + 1, 0, none⟩), .bool false, .int .i64 ((1048576 - len : Nat) : Int), .pointer (some ⟨p7, 0, none⟩), .bool (rnB ⟨l, s, zs, t⟩ xs c0 c1 c2 c3 ll), .slice AL ll ll, .pointer (some ⟨pX, 0, none⟩), vs10 8, vs10 10, undef, undef, undef, undef, undef, .slice al ll cl, .int .i64 ll, .bool (decide ((1048576 : Int) < (ll : Int))), .agg #[.float .f32 l, .float .f32 s, .slice a len cap, .int .i64 t], .int .i64 1048576, .int .i64 ((1048576 - len : Nat) : Int), .int .i64 ((1048576 - len : Nat) : Int), .bool (decide (((1048576 - len : Nat) : Int) < 0)), vs7 7, vs7 0, vs7 1, vs7 2, vs7 3, vs7 4, vs7 5, vs7 6, vs7 8, vs7 9, .slice al ll cl, .slice AL ll ll, .agg #[.float .f32 l, .float .f32 s, .slice a len cap, .int .i64 t], .agg #[.float .f32 l, .float .f32 s, .slice (some ⟨bX, 0, none⟩) len len, .int .i64 t], vs10 5, vs10 0, vs10 1, vs10 2, vs10 3, vs10 4, vs10 6, vs10 7, undef, undef, undef, undef, undef, undef, undef, undef, undef, undef, undef, undef, undef, undef, undef, undef, undef, undef, undef, undef, undef, undef, undef, undef, undef, undef, undef, undef, undef, undef, undef, undef, undef, undef, undef, undef, undef, undef, undef, undef, undef, undef, undef, undef, undef, undef, undef, undef, undef, undef, undef, undef, undef, undef, undef, undef, undef, undef, undef, undef, undef, undef, undef, undef, undef, undef, undef, undef, undef, undef, undef, undef, undef, undef, undef, undef], []⟩ := ha.trans (by kernel_rfl)
  clear ha
  obtain ⟨p10, A10, cp10, e1, -, hB, hon, hci, how, hne⟩ := hP
  have e3 : vs10 10 = .bool (rnB ⟨l, s, zs, t⟩ xs c0 c1 c2 c3 ll) := hv 10 (by decide) (by kernel_rfl)
  rw [e1, e3] at hlit
  clear hv e1 e3
  subst hlit
  have hB2 : Below W7.heap.size W7 w2 := (below_drewN (Below.refl W7.heap.size W7) 1).trans (hb.trans (hon.below hB))
  replace HS := Lib.hid (HS.out.below hB2)
  replace HH := Lib.hid (HH.out.below hB2)
  replace C7 := Lib.hid (C7.out.below hB2)
  replace R7 := Lib.hid (R7.out.below hB2)
  replace HLX := Lib.hid (HLX.out.below hB2)
  replace HX := Lib.hid (HX.out.below hB2)
  replace HXZ := Lib.hid (HXZ.out.below hB2)
  replace G := Lib.hid (G.out.trans (hB2.mono G.out.size))
  have C10 := Lib.hid hci
  obtain ⟨b10, hh, hb1, hb2⟩ := own_held (far := w2.heap.size) how rfl hB2.size p10 hne (Nat.ne_of_lt hci.1)
  have R10 := Lib.hid hh
  have hs10 := hB2.size
  have hp10 := hB
  have hbp10 := hb2
  have hbb10 := hb1
  have hpl10 := hci.1
  have hbl10 : 0 < (rnS ⟨l, s, zs, t⟩ xs c0 c1 c2 c3 ll).zs.length → b10 < w2.heap.size := hh.lt_
  clear hon hci how hne hh hb hb1 hb2 hB hB2
  skip
  generalize hW8 : w2 = W8 at *
  obtain ⟨k0, k1, k2, k3⟩ := C10.out.c4
  obtain ⟨j0, j1, j2, j3⟩ := C7.out.c4
  go_wp2_with fail
  refine (eqStE_any _ _ _ _ _ _ _ _ _ _ R10.out.sl R7.out.sl hRl).mono ?_
  rintro e v1 ⟨rfl, b⟩
  clear k0 k1 k2 k3
  clear j0 j1 j2 j3
  replace HS := Lib.hid (HS.out.below b)
  replace HH := Lib.hid (HH.out.below b)
  replace C7 := Lib.hid (C7.out.below b)
  replace R7 := Lib.hid (R7.out.below b)
  replace HLX := Lib.hid (HLX.out.below b)
  replace HX := Lib.hid (HX.out.below b)
  replace HXZ := Lib.hid (HXZ.out.below b)
  replace C10 := Lib.hid (C10.out.below b)
  replace R10 := Lib.hid (R10.out.below b)
  replace G := Lib.hid (G.out.trans (b.mono G.out.size))
  clear b
  clear HL
  have HL := Lib.hid (FSl.below HL0.out G.out)
  go_wp2_with fail
  refine (toFtE_any _ _ _ _ _ HL.out hml).mono ?_
  rintro e uF ⟨AF, bF, rfl, tF, b, -⟩
  replace HS := Lib.hid (HS.out.below b)
  replace HH := Lib.hid (HH.out.below b)
  replace C7 := Lib.hid (C7.out.below b)
  replace R7 := Lib.hid (R7.out.below b)
  replace HLX := Lib.hid (HLX.out.below b)
  replace HX := Lib.hid (HX.out.below b)
  replace HXZ := Lib.hid (HXZ.out.below b)
  replace C10 := Lib.hid (C10.out.below b)
  replace R10 := Lib.hid (R10.out.below b)
  replace G := Lib.hid (G.out.trans (b.mono G.out.size))
  clear b
  have HF := Lib.hid tF
  clear tF
  go_wp2_with fail
  refine (eqF_any _ _ _ _ _ _ _ _ HLX.out.sl HF.out.sl hml (fun _ _ => rfl)).mono ?_
  rintro e w' ⟨nF, rfl, rfl⟩
  clear HF
  replace HS := Lib.hid (HS.out.drewN nF)
  replace HH := Lib.hid (HH.out.drewN nF)
  replace C7 := Lib.hid (C7.out.drewN nF)
  replace R7 := Lib.hid (R7.out.drewN nF)
  replace HLX := Lib.hid (HLX.out.drewN nF)
  replace HX := Lib.hid (HX.out.drewN nF)
  replace HXZ := Lib.hid (HXZ.out.drewN nF)
  replace C10 := Lib.hid (C10.out.drewN nF)
  replace R10 := Lib.hid (R10.out.drewN nF)
  replace G := Lib.hid (below_drewN G.out nF)
  go_wp2_with fail
  go_region_held3 (fun w' => w'.cell? ⟨w.heap.size, 0, none⟩ = some (.float .f32 l) ∧ w'.cell? ⟨w.heap.size, 1, none⟩ = some (.float .f32 s) ∧ w'.cell? ⟨w.heap.size, 2, none⟩ = some (.slice a len cap) ∧ w'.cell? ⟨w.heap.size, 3, none⟩ = some (.int .i64 t) ∧ w'.cell? ⟨pX, 0, none⟩ = some (.float .f32 l) ∧ w'.cell? ⟨pX, 1, none⟩ = some (.float .f32 s) ∧ w'.cell? ⟨pX, 2, none⟩ = some (.slice (some ⟨bX, 0, none⟩) len len) ∧ w'.cell? ⟨pX, 3, none⟩ = some (.int .i64 t)) (first | exact ⟨(((HS.out.drew).below hb1).below hb2).1, (((HS.out.drew).below hb1).below hb2).2.1, (((HS.out.drew).below hb1).below hb2).2.2.1, (((HS.out.drew).below hb1).below hb2).2.2.2, (((HX.out.drew).below hb1).below hb2).c4.1, (((HX.out.drew).below hb1).below hb2).c4.2.1, (((HX.out.drew).below hb1).below hb2).c4.2.2.1, (((HX.out.drew).below hb1).below hb2).c4.2.2.2⟩ | exact ⟨((HS.out.drew).below hb1).1, ((HS.out.drew).below hb1).2.1, ((HS.out.drew).below hb1).2.2.1, ((HS.out.drew).below hb1).2.2.2, ((HX.out.drew).below hb1).c4.1, ((HX.out.drew).below hb1).c4.2.1, ((HX.out.drew).below hb1).c4.2.2.1, ((HX.out.drew).below hb1).c4.2.2.2⟩ | exact ⟨(HS.out.drew).1, (HS.out.drew).2.1, (HS.out.drew).2.2.1, (HS.out.drew).2.2.2, (HX.out.drew).c4.1, (HX.out.drew).c4.2.1, (HX.out.drew).c4.2.2.1, (HX.out.drew).c4.2.2.2⟩ | go_keep)
    ((first
      | (go_at_call 20; refine (eqStE_any _ _ _ _ _ _ _ _ _ _ ((HXZ.out.dw).below hb1).sl hE.sl hm).mono ?_; rintro e uB ⟨rfl, hb2⟩)
      | (go_at_call 17; refine (toStE_any _ _ _ _ _ zs _ _ (FSl.below HZ0.out (below_drewN G.out 1)) hm).mono ?_; rintro e uA ⟨AE, bE, rfl, hE, hb1⟩)
      ))
  replace HS := Lib.hid (((HS.out.drew).below hb1).below hb2)
  replace HH := Lib.hid (((HH.out.drew).below hb1).below hb2)
  replace C7 := Lib.hid (((C7.out.drew).below hb1).below hb2)
  replace R7 := Lib.hid (((R7.out.dw).below hb1).below hb2)
  replace HLX := Lib.hid (((HLX.out.dw).below hb1).below hb2)
  replace HX := Lib.hid (((HX.out.drew).below hb1).below hb2)
  replace HXZ := Lib.hid (((HXZ.out.dw).below hb1).below hb2)
  replace C10 := Lib.hid (((C10.out.drew).below hb1).below hb2)
  replace R10 := Lib.hid (((R10.out.dw).below hb1).below hb2)
  replace G := Lib.hid (((below_drewN G.out 1).trans (hb1.mono (below_drewN G.out 1).size)).trans (hb2.mono ((below_drewN G.out 1).trans (hb1.mono (below_drewN G.out 1).size)).size))
  clear hb1 hb2 hE
  go_wp2_with fail
  refine (markt_any 1 HLX.out hml (by omega)).mono ?_
  rintro e uM ⟨rfl, o, mk⟩
  clear HLX
  replace HS := Lib.hid (HS.out.only o (by omega))
  replace HH := Lib.hid (HH.out.only o (by omega))
  replace C7 := Lib.hid (C7.out.only o (by omega))
  replace R7 := Lib.hid (R7.out.only o (fun h0 => by (try have := hbl7 h0); omega))
  replace HX := Lib.hid (HX.out.only o (by omega))
  replace HXZ := Lib.hid (HXZ.out.only o (fun h0 => by (try have := hbl7 h0); omega))
  replace C10 := Lib.hid (C10.out.only o (by omega))
  replace R10 := Lib.hid (R10.out.only o (fun h0 => by (try have := hbl7 h0); omega))
  replace G := Lib.hid (G.out.trans (o.below (by have := G.out.size; omega)))
  clear o mk
  obtain ⟨k0, k1, k2, k3⟩ := HX.out.c4
  go_wp2_with fail
  refine (markSt_any _ _ _ (1 + ll) HXZ.out hm (by omega)).mono ?_
  rintro e v2 ⟨rfl, o, ho⟩
  clear k0 k1 k2 k3
  clear HX
  clear HXZ
  replace HS := Lib.hid ((HS.out.alloc o).only ho (by omega))
  replace HH := Lib.hid ((HH.out.alloc o).only ho (by omega))
  replace C7 := Lib.hid ((C7.out.alloc o).only ho (by omega))
  replace R7 := Lib.hid ((R7.out.below ((Below.refl _ _).alloc (Nat.le_refl _) o)).only ho (fun h0 => by (try have := hbl7 h0); omega))
  replace C10 := Lib.hid ((C10.out.alloc o).only ho (by omega))
  replace R10 := Lib.hid ((R10.out.below ((Below.refl _ _).alloc (Nat.le_refl _) o)).only ho (fun h0 => by (try have := hbl7 h0); omega))
  replace G := Lib.hid ((G.out.alloc G.out.size o).trans (ho.below (by have := G.out.size; omega)))
  clear ho
  obtain ⟨k0, k1, k2, k3⟩ := C10.out.c4
  obtain ⟨j0, j1, j2, j3⟩ := C7.out.c4
  go_wp2_with fail
  refine (eqStE_any _ _ _ _ _ _ _ _ _ _ R10.out.sl R7.out.sl hRl).mono ?_
  rintro e v3 ⟨rfl, b⟩
  clear k0 k1 k2 k3
  clear j0 j1 j2 j3
  replace HS := Lib.hid (HS.out.below b)
  replace HH := Lib.hid (HH.out.below b)
  replace C7 := Lib.hid (C7.out.below b)
  replace R7 := Lib.hid (R7.out.below b)
  replace C10 := Lib.hid (C10.out.below b)
  replace R10 := Lib.hid (R10.out.below b)
  replace G := Lib.hid (G.out.trans (b.mono G.out.size))
  clear b
  obtain ⟨k0, k1, k2, k3⟩ := C10.out.c4
  go_wp2_with fail
  refine (markStM_any _ _ _ 1 R10.out hRl (by omega)).mono ?_
  rintro e v4 ⟨rfl, o, ho, mk⟩
  clear k0 k1 k2 k3
  clear R10
  replace HS := Lib.hid ((HS.out.alloc o).only ho (by omega))
  replace HH := Lib.hid ((HH.out.alloc o).only ho (by omega))
  replace C7 := Lib.hid ((C7.out.alloc o).only ho (by omega))
  replace R7 := Lib.hid ((R7.out.below ((Below.refl _ _).alloc (Nat.le_refl _) o)).only ho (fun h0 => by (try have := hbl7 h0); omega))
  replace C10 := Lib.hid ((C10.out.alloc o).only ho (by omega))
  replace G := Lib.hid ((G.out.alloc G.out.size o).trans (ho.below (by have := G.out.size; omega)))
  have M10 := Lib.hid mk
  clear mk
  clear ho
  obtain ⟨k0, k1, k2, k3⟩ := C10.out.c4
  go_wp2_with fail
  refine (heldSt_any _ _ _ 1 M10.out hRl (by omega)).mono ?_
  rintro e v5 ⟨rfl, b⟩
  clear k0 k1 k2 k3
  replace HS := Lib.hid (HS.out.below b)
  replace HH := Lib.hid (HH.out.below b)
  replace C7 := Lib.hid (C7.out.below b)
  replace R7 := Lib.hid (R7.out.below b)
  replace C10 := Lib.hid (C10.out.below b)
  replace M10 := Lib.hid (M10.out.below b)
  replace G := Lib.hid (G.out.trans (b.mono G.out.size))
  clear b
  clear HZ HL
  have HZ := Lib.hid (FSl.below HZ0.out G.out)
  have HL := Lib.hid (FSl.below HL0.out G.out)
  go_upto_region 30 with fail
  generalize v5 = W30 at *
  refine wp_region_MS (m := 11) (jp := 10) (jv := 8) (dp := 17) (dv := 106) (late := [9, 12]) (ss30 w.heap.size 0 W30.heap.size al ll cl xs l s a len cap zs t none none c0 c1 c2 c3) (fun pv sv v1 v2 => ∃ p A cp, pv = .pointer (some ⟨p, 0, none⟩) ∧ sv = .agg #[.float .f32 (rnS ⟨l, s, zs, t⟩ xs c0 c1 c2 c3 ll).l, .float .f32 (rnS ⟨l, s, zs, t⟩ xs c0 c1 c2 c3 ll).s, .slice A (rnS ⟨l, s, zs, t⟩ xs c0 c1 c2 c3 ll).zs.length cp, .int .i64 (rnS ⟨l, s, zs, t⟩ xs c0 c1 c2 c3 ll).t] ∧ W30.heap.size ≤ p ∧ Only p v1 v2 ∧ CIs v2 p [.float .f32 (rnS ⟨l, s, zs, t⟩ xs c0 c1 c2 c3 ll).l, .float .f32 (rnS ⟨l, s, zs, t⟩ xs c0 c1 c2 c3 ll).s, .slice A (rnS ⟨l, s, zs, t⟩ xs c0 c1 c2 c3 ll).zs.length cp, .int .i64 (rnS ⟨l, s, zs, t⟩ xs c0 c1 c2 c3 ll).t] ∧ FOwn 22 W30.heap.size v2 (.slice A (rnS ⟨l, s, zs, t⟩ xs c0 c1 c2 c3 ll).zs.length cp) (rnS ⟨l, s, zs, t⟩ xs c0 c1 c2 c3 ll).zs ∧ (Value.slice A (rnS ⟨l, s, zs, t⟩ xs c0 c1 c2 c3 ll).zs.length cp).ownBlock ≠ some p) (by kernel_rfl) (ss30_mono w.heap.size 0 W30.heap.size al ll cl xs l s a len cap zs t none none c0 c1 c2 c3) (by kernel_rfl) (by kernel_rfl) (by rfl) (by rfl) (by rfl) (by rfl) (by rfl) (by kernel_rfl) (by kernel_rfl) ?_ ?_ ?_ ?_
  · refine ⟨?_, ?_, ?_, ?_, ?_, ?_, ?_, ?_, ?_, ?_, ?_, trivial⟩
    · refine opM_do rfl (fun a_ w' hS hf K hK => ?_)
      have s0 : a_.tmps.getD 0 undef = (.slice al ll cl) := (hS.rest 0 (by kernel_rfl)).trans rfl
      go_simp
      exact hK _ _ (Below.refl _ _) rfl
    · refine opM_do rfl (fun a_ w' hS hf K hK => ?_)
      have s99 : a_.tmps.getD 99 undef = (.slice al ll cl) := hf 0 (by kernel_rfl) _ 99 rfl rfl
      have F1 := FSl.below (FSl.drewN HL.out 1) hS.below
      clear hf hS
      go_simp
      refine (toFtE_any al ll cl xs _ F1 hml).mono ?_
      rintro e u ⟨A, b, rfl, hh, bb, -⟩
      exact hK _ _ bb ⟨A, b, rfl, hh⟩
    · refine opM_do rfl (fun a_ w' hS hf K hK => ?_)
      have s4 : a_.tmps.getD 4 undef = (.pointer (some ⟨w.heap.size, 0, none⟩)) := (hS.rest 4 (by kernel_rfl)).trans rfl
      obtain ⟨k0, k1, k2, k3⟩ := StIn.below HS.out.drew hS.below
      go_simp
      exact hK _ _ (Below.refl _ _) rfl
    · refine opM_do rfl (fun a_ w' hS hf K hK => ?_)
      have s101 : a_.tmps.getD 101 undef = (.agg #[.float .f32 l, .float .f32 s, .slice a len cap, .int .i64 t]) := hf 2 (by kernel_rfl) _ 101 rfl rfl
      have F1 := FSl.below (FSl.drewN HZ.out 1) hS.below
      clear hf hS
      go_simp
      refine (toStE_any l s a len cap zs t _ F1 hm).mono ?_
      rintro e u ⟨A, b, rfl, hh, bb⟩
      exact hK _ _ bb ⟨A, b, rfl, hh⟩
    · refine opM_do rfl (fun a_ w' hS hf K hK => ?_)
      have s5 : a_.tmps.getD 5 undef = (.pointer (some ⟨(w.heap.size + 1), 0, none⟩)) := (hS.rest 5 (by kernel_rfl)).trans rfl
      obtain ⟨j0, j1, j2, j3⟩ := ShIn.below HH.out.drew hS.below
      go_simp
      exact hK _ _ (Below.refl _ _) rfl
    · refine opM_do rfl (fun a_ w' hS hf K hK => ?_)
      have s103 : a_.tmps.getD 103 undef = (.agg #[.float .f32 c0, .float .f32 c1, .float .f32 c2, .float .f32 c3]) := hf 4 (by kernel_rfl) _ 103 rfl rfl
      clear hf hS
      go_simp
      refine (toSh_any _ _ _ _ _).mono ?_
      rintro e u ⟨rfl, bb⟩
      exact hK _ _ bb rfl
    · refine opM_do rfl (fun a_ w' hS hf K hK => ?_)
      obtain ⟨A100, b100, s100, h100⟩ := (show ∃ A b, (a_.tmps.getD 100 undef) = .slice A ll ll ∧ Held w' A b ll xs from hf 1 (by kernel_rfl) _ 100 rfl rfl)
      obtain ⟨A102, b102, s102, h102⟩ := (show ∃ A b, (a_.tmps.getD 102 undef) = .agg #[.float .f32 l, .float .f32 s, .slice A len len, .int .i64 t] ∧ Held w' A b len zs from hf 3 (by kernel_rfl) _ 102 rfl rfl)
      have s104 : a_.tmps.getD 104 undef = (.agg #[.float .f32 c0, .float .f32 c1, .float .f32 c2, .float .f32 c3]) := hf 5 (by kernel_rfl) _ 104 rfl rfl
      have hsz : W30.heap.size ≤ w'.heap.size := hS.below.size
      have hFz := h102.sl
      have hFx := h100.sl
      clear hf hS
      go_simp
      refine (imRuns_any _ ll ll xs l s _ len len zs t c0 c1 c2 c3 _ hFx hFz hml hm).mono ?_
      rintro e u ⟨A, cp, rfl, ho, bb⟩
      exact hK _ _ bb ⟨A, cp, rfl, FOwn.mono ho (by omega)⟩
    · refine opM_do rfl (fun a_ w' hS hf K hK => ?_)
      obtain ⟨A105, cp105, s105, h105⟩ := (show ∃ A cp, (a_.tmps.getD 105 undef) = .tuple #[.agg #[.float .f32 (rnS ⟨l, s, zs, t⟩ xs c0 c1 c2 c3 ll).l, .float .f32 (rnS ⟨l, s, zs, t⟩ xs c0 c1 c2 c3 ll).s, .slice A (rnS ⟨l, s, zs, t⟩ xs c0 c1 c2 c3 ll).zs.length cp, .int .i64 (rnS ⟨l, s, zs, t⟩ xs c0 c1 c2 c3 ll).t], .bool (rnB ⟨l, s, zs, t⟩ xs c0 c1 c2 c3 ll)] ∧ FOwn 22 W30.heap.size w' (.slice A (rnS ⟨l, s, zs, t⟩ xs c0 c1 c2 c3 ll).zs.length cp) (rnS ⟨l, s, zs, t⟩ xs c0 c1 c2 c3 ll).zs from hf 6 (by kernel_rfl) _ 105 rfl rfl)
      go_simp
      exact hK _ _ (Below.refl _ _) ⟨_, _, rfl, h105⟩
    · refine opM_do rfl (fun a_ w' hS hf K hK => ?_)
      obtain ⟨A98, cp98, s98, h98⟩ := (show ∃ A cp, (a_.tmps.getD 98 undef) = .tuple #[.agg #[.float .f32 (rnS ⟨l, s, zs, t⟩ xs c0 c1 c2 c3 ll).l, .float .f32 (rnS ⟨l, s, zs, t⟩ xs c0 c1 c2 c3 ll).s, .slice A (rnS ⟨l, s, zs, t⟩ xs c0 c1 c2 c3 ll).zs.length cp, .int .i64 (rnS ⟨l, s, zs, t⟩ xs c0 c1 c2 c3 ll).t], .bool (rnB ⟨l, s, zs, t⟩ xs c0 c1 c2 c3 ll)] ∧ FOwn 22 W30.heap.size w' (.slice A (rnS ⟨l, s, zs, t⟩ xs c0 c1 c2 c3 ll).zs.length cp) (rnS ⟨l, s, zs, t⟩ xs c0 c1 c2 c3 ll).zs from hf 7 (by kernel_rfl) _ 98 rfl rfl)
      go_simp
      exact hK _ _ (Below.refl _ _) ⟨_, _, rfl, h98⟩
    · refine opM_do rfl (fun a_ w' hS hf K hK => ?_)
      obtain ⟨A98, cp98, s98, h98⟩ := (show ∃ A cp, (a_.tmps.getD 98 undef) = .tuple #[.agg #[.float .f32 (rnS ⟨l, s, zs, t⟩ xs c0 c1 c2 c3 ll).l, .float .f32 (rnS ⟨l, s, zs, t⟩ xs c0 c1 c2 c3 ll).s, .slice A (rnS ⟨l, s, zs, t⟩ xs c0 c1 c2 c3 ll).zs.length cp, .int .i64 (rnS ⟨l, s, zs, t⟩ xs c0 c1 c2 c3 ll).t], .bool (rnB ⟨l, s, zs, t⟩ xs c0 c1 c2 c3 ll)] ∧ FOwn 22 W30.heap.size w' (.slice A (rnS ⟨l, s, zs, t⟩ xs c0 c1 c2 c3 ll).zs.length cp) (rnS ⟨l, s, zs, t⟩ xs c0 c1 c2 c3 ll).zs from hf 7 (by kernel_rfl) _ 98 rfl rfl)
      go_simp
      exact hK _ _ (Below.refl _ _) rfl
    · refine opM_do rfl (fun a_ w' hS hf K hK => ?_)
      have hsz : W30.heap.size ≤ w'.heap.size := hS.below.size
      clear hf hS
      go_simp
      exact hK _ _ ((Below.refl _ _).alloc (Nat.le_refl _) _) ⟨w'.heap.size, rfl, hsz, alloc_top _ _⟩
  · refine ⟨?_, ?_, trivial⟩
    · refine opP_do rfl rfl (fun a_ w1 w2 hf K hK => ?_)
      obtain ⟨A98, cp98, s98, h98⟩ := (show ∃ A cp, (a_.tmps.getD 98 undef) = .tuple #[.agg #[.float .f32 (rnS ⟨l, s, zs, t⟩ xs c0 c1 c2 c3 ll).l, .float .f32 (rnS ⟨l, s, zs, t⟩ xs c0 c1 c2 c3 ll).s, .slice A (rnS ⟨l, s, zs, t⟩ xs c0 c1 c2 c3 ll).zs.length cp, .int .i64 (rnS ⟨l, s, zs, t⟩ xs c0 c1 c2 c3 ll).t], .bool (rnB ⟨l, s, zs, t⟩ xs c0 c1 c2 c3 ll)] ∧ FOwn 22 W30.heap.size w1 (.slice A (rnS ⟨l, s, zs, t⟩ xs c0 c1 c2 c3 ll).zs.length cp) (rnS ⟨l, s, zs, t⟩ xs c0 c1 c2 c3 ll).zs from hf 7 (by kernel_rfl) _ 98 rfl rfl)
      go_simp
      exact hK _ rfl
    · refine opP_do rfl rfl (fun a_ w1 w2 hf K hK => ?_)
      have s107 : a_.tmps.getD 107 undef = (.bool (rnB ⟨l, s, zs, t⟩ xs c0 c1 c2 c3 ll)) := hf 9 (by kernel_rfl) _ 107 rfl rfl
      go_simp
      exact hK _ rfl
  · intro a_ w1 hS hjp hjv K hK
    obtain ⟨p, s17, hB, hc⟩ := (show ∃ p, a_.tmps.getD 17 undef = .pointer (some ⟨p, 0, none⟩) ∧ W30.heap.size ≤ p ∧ w1.heap[p]? = some (.cells #[.float .f32 0, .float .f32 0, .slice none 0 0, .int .i64 0] 29) from hjp)
    obtain ⟨A, cp, s106, ho⟩ := (show ∃ A cp, a_.tmps.getD 106 undef = .agg #[.float .f32 (rnS ⟨l, s, zs, t⟩ xs c0 c1 c2 c3 ll).l, .float .f32 (rnS ⟨l, s, zs, t⟩ xs c0 c1 c2 c3 ll).s, .slice A (rnS ⟨l, s, zs, t⟩ xs c0 c1 c2 c3 ll).zs.length cp, .int .i64 (rnS ⟨l, s, zs, t⟩ xs c0 c1 c2 c3 ll).t] ∧ FOwn 22 W30.heap.size w1 (.slice A (rnS ⟨l, s, zs, t⟩ xs c0 c1 c2 c3 ll).zs.length cp) (rnS ⟨l, s, zs, t⟩ xs c0 c1 c2 c3 ll).zs from hjv)
    have hci := cis_of4 hc
    have hne := own_nT ho hc (by decide)
    have hon := ((((Only.refl p w1).setCell 0 (.float .f32 (rnS ⟨l, s, zs, t⟩ xs c0 c1 c2 c3 ll).l)).setCell 1 (.float .f32 (rnS ⟨l, s, zs, t⟩ xs c0 c1 c2 c3 ll).s)).setCell 2 (.slice A (rnS ⟨l, s, zs, t⟩ xs c0 c1 c2 c3 ll).zs.length cp)).setCell 3 (.int .i64 (rnS ⟨l, s, zs, t⟩ xs c0 c1 c2 c3 ll).t)
    have hpu := (((hci.put (o := 0) (v := .float .f32 (rnS ⟨l, s, zs, t⟩ xs c0 c1 c2 c3 ll).l) (by simp)).put (o := 1) (v := .float .f32 (rnS ⟨l, s, zs, t⟩ xs c0 c1 c2 c3 ll).s) (by simp)).put (o := 2) (v := .slice A (rnS ⟨l, s, zs, t⟩ xs c0 c1 c2 c3 ll).zs.length cp) (by simp)).put (o := 3) (v := .int .i64 (rnS ⟨l, s, zs, t⟩ xs c0 c1 c2 c3 ll).t) (by simp)
    have how := own_set ho hon hne
    rw [s17, s106] at hK
    clear hjp hjv hS hc ho
    obtain ⟨g0, g1, g2, g3⟩ := hci.c4
    obtain ⟨f0, f1, f2, f3⟩ := hci.f4
    go_simp
    exact hK _ ⟨p, A, cp, rfl, rfl, hB, hon, hpu, how, hne⟩
  intro vs30 a_ w1 w2 hb hv ha hP
  have hlit : a_ = ⟨#[.slice al ll cl, .agg #[.float .f32 l, .float .f32 s, .slice a len cap, .int .i64 t], .agg #[.float .f32 c0, .float .f32 c1, .float .f32 c2, .float .f32 c3], undef, .pointer (some ⟨w.heap.size, 0, none⟩), .pointer (some ⟨w.heap.size + 1, 0, none⟩), .bool false, .int .i64 ((1048576 - len : Nat) : Int), .pointer (some ⟨p7, 0, none⟩), .bool (rnB ⟨l, s, zs, t⟩ xs c0 c1 c2 c3 ll), .slice AL ll ll, .pointer (some ⟨pX, 0, none⟩), .pointer (some ⟨p10, 0, none⟩), .bool (rnB ⟨l, s, zs, t⟩ xs c0 c1 c2 c3 ll), .int .i64 (1 + ll + len), .int .i64 (1 + (rnS ⟨l, s, zs, t⟩ xs c0 c1 c2 c3 ll).zs.length), .int .i64 (1 + (rnS ⟨l, s, zs, t⟩ xs c0 c1 c2 c3 ll).zs.length), vs30 10, vs30 12, .slice al ll cl, .int .i64 ll, .bool (decide ((1048576 : Int) < (ll : Int))), .agg #[.float .f32 l, .float .f32 s, .slice a len cap, .int .i64 t], .int .i64 1048576, .int .i64 ((1048576 - len : Nat) : Int), .int .i64 ((1048576 - len : Nat) : Int), .bool (decide (((1048576 - len : Nat) : Int) < 0)), vs7 7, vs7 0, vs7 1, vs7 2, vs7 3, vs7 4, vs7 5, vs7 6, vs7 8, vs7 9, .slice al ll cl, .slice AL ll ll, .agg #[.float .f32 l, .float .f32 s, .slice a len cap, .int .i64 t], .agg #[.float .f32 l, .float .f32 s, .slice (some ⟨bX, 0, none⟩) len len, .int .i64 t], vs10 5, vs10 0, vs10 1, vs10 2, vs10 3, vs10 4, vs10 6, vs10 7, .agg #[.float .f32 (rnS ⟨l, s, zs, t⟩ xs c0 c1 c2 c3 ll).l, .float .f32 (rnS ⟨l, s, zs, t⟩ xs c0 c1 c2 c3 ll).s, .slice A10 (rnS ⟨l, s, zs, t⟩ xs c0 c1 c2 c3 ll).zs.length cp10, .int .i64 (rnS ⟨l, s, zs, t⟩ xs c0 c1 c2 c3 ll).t], .agg #[.float .f32 (rnS ⟨l, s, zs, t⟩ xs c0 c1 c2 c3 ll).l, .float .f32 (rnS ⟨l, s, zs, t⟩ xs c0 c1 c2 c3 ll).s, .slice A7 (rnS ⟨l, s, zs, t⟩ xs c0 c1 c2 c3 ll).zs.length cp7, .int .i64 (rnS ⟨l, s, zs, t⟩ xs c0 c1 c2 c3 ll).t], .bool true, .bool false, .bool false, .bool (rnB ⟨l, s, zs, t⟩ xs c0 c1 c2 c3 ll), .bool (rnB ⟨l, s, zs, t⟩ xs c0 c1 c2 c3 ll), .bool false, .bool false, .slice AL ll ll, .slice al ll cl, .slice AF ll ll, .bool true, .bool false, .agg #[.float .f32 l, .float .f32 s, .slice (some ⟨bX, 0, none⟩) len len, .int .i64 t], .agg #[.float .f32 l, .float .f32 s, .slice a len cap, .int .i64 t], .agg #[.float .f32 l, .float .f32 s, .slice AE len len, .int .i64 t], .bool true, .bool false, .slice AL ll ll, .int .i64 1, .int .i64 (1 + ll), .agg #[.float .f32 l, .float .f32 s, .slice (some ⟨bX, 0, none⟩) len len, .int .i64 t], .int .i64 (1 + ll), .int .i64 (1 + ll + len), .int .i64 (1 + ll + len), .bool (decide (1 + ll + len < 0)), .bool (decide (1 + ll + len < 0)), .agg #[.float .f32 (rnS ⟨l, s, zs, t⟩ xs c0 c1 c2 c3 ll).l, .float .f32 (rnS ⟨l, s, zs, t⟩ xs c0 c1 c2 c3 ll).s, .slice A10 (rnS ⟨l, s, zs, t⟩ xs c0 c1 c2 c3 ll).zs.length cp10, .int .i64 (rnS ⟨l, s, zs, t⟩ xs c0 c1 c2 c3 ll).t], .agg #[.float .f32 (rnS ⟨l, s, zs, t⟩ xs c0 c1 c2 c3 ll).l, .float .f32 (rnS ⟨l, s, zs, t⟩ xs c0 c1 c2 c3 ll).s, .slice A7 (rnS ⟨l, s, zs, t⟩ xs c0 c1 c2 c3 ll).zs.length cp7, .int .i64 (rnS ⟨l, s, zs, t⟩ xs c0 c1 c2 c3 ll).t], .bool true, .bool false, .bool (decide (1 + ll + len < 0)), .bool (decide (1 + ll + len < 0)), .bool (rnB ⟨l, s, zs, t⟩ xs c0 c1 c2 c3 ll), .bool (rnB ⟨l, s, zs, t⟩ xs c0 c1 c2 c3 ll), .bool false, .bool (decide (1 + ll + len < 0)), .agg #[.float .f32 (rnS ⟨l, s, zs, t⟩ xs c0 c1 c2 c3 ll).l, .float .f32 (rnS ⟨l, s, zs, t⟩ xs c0 c1 c2 c3 ll).s, .slice A10 (rnS ⟨l, s, zs, t⟩ xs c0 c1 c2 c3 ll).zs.length cp10, .int .i64 (rnS ⟨l, s, zs, t⟩ xs c0 c1 c2 c3 ll).t], .int .i64 1, .int .i64 (1 + (rnS ⟨l, s, zs, t⟩ xs c0 c1 c2 c3 ll).zs.length), .agg #[.float .f32 (rnS ⟨l, s, zs, t⟩ xs c0 c1 c2 c3 ll).l, .float .f32 (rnS ⟨l, s, zs, t⟩ xs c0 c1 c2 c3 ll).s, .slice A10 (rnS ⟨l, s, zs, t⟩ xs c0 c1 c2 c3 ll).zs.length cp10, .int .i64 (rnS ⟨l, s, zs, t⟩ xs c0 c1 c2 c3 ll).t], .int .i64 1, .int .i64 (1 + (rnS ⟨l, s, zs, t⟩ xs c0 c1 c2 c3 ll).zs.length), .int .i64 (1 + (rnS ⟨l, s, zs, t⟩ xs c0 c1 c2 c3 ll).zs.length), .bool (decide (1 + (rnS ⟨l, s, zs, t⟩ xs c0 c1 c2 c3 ll).zs.length < 0)), .int .i64 (1 + (rnS ⟨l, s, zs, t⟩ xs c0 c1 c2 c3 ll).zs.length), .int .i64 (1 + (rnS ⟨l, s, zs, t⟩ xs c0 c1 c2 c3 ll).zs.length), .bool false, vs30 7, vs30 0, vs30 1, vs30 2, vs30 3, vs30 4, vs30 5, vs30 6, vs30 8, vs30 9, undef, undef, undef, undef, undef, undef, undef, undef, undef, undef, undef, undef, undef, undef, undef, undef, undef], []⟩ := ha.trans (by kernel_rfl)
  clear ha
  obtain ⟨p30, A30, cp30, e1, -, hB, hon, hci, how, hne⟩ := hP
  have e3 : vs30 12 = .bool (rnB ⟨l, s, zs, t⟩ xs c0 c1 c2 c3 ll) := hv 12 (by decide) (by kernel_rfl)
  rw [e1, e3] at hlit
  clear hv e1 e3
  subst hlit
  have hB2 : Below W30.heap.size W30 w2 := (below_drewN (Below.refl W30.heap.size W30) 1).trans (hb.trans (hon.below hB))
  replace HS := Lib.hid (HS.out.below hB2)
  replace HH := Lib.hid (HH.out.below hB2)
  replace C7 := Lib.hid (C7.out.below hB2)
  replace R7 := Lib.hid (R7.out.below hB2)
  replace C10 := Lib.hid (C10.out.below hB2)
  replace M10 := Lib.hid (M10.out.below hB2)
  replace G := Lib.hid (G.out.trans (hB2.mono G.out.size))
  have C30 := Lib.hid hci
  obtain ⟨b30, hh, hb1, hb2⟩ := own_held (far := w2.heap.size) how rfl hB2.size p30 hne (Nat.ne_of_lt hci.1)
  have R30 := Lib.hid hh
  have hs30 := hB2.size
  have hp30 := hB
  have hbp30 := hb2
  have hbb30 := hb1
  have hpl30 := hci.1
  have hbl30 : 0 < (rnS ⟨l, s, zs, t⟩ xs c0 c1 c2 c3 ll).zs.length → b30 < w2.heap.size := hh.lt_
  clear hon hci how hne hh hb hb1 hb2 hB hB2
  skip
  generalize hW31 : w2 = W31 at *
  obtain ⟨k0, k1, k2, k3⟩ := C30.out.c4
  obtain ⟨j0, j1, j2, j3⟩ := C7.out.c4
  go_wp2_with fail
  refine (eqStE_any _ _ _ _ _ _ _ _ _ _ R30.out.sl R7.out.sl hRl).mono ?_
  rintro e v6 ⟨rfl, b⟩
  clear k0 k1 k2 k3
  clear j0 j1 j2 j3
  replace HS := Lib.hid (HS.out.below b)
  replace HH := Lib.hid (HH.out.below b)
  replace C7 := Lib.hid (C7.out.below b)
  replace R7 := Lib.hid (R7.out.below b)
  replace C10 := Lib.hid (C10.out.below b)
  replace M10 := Lib.hid (M10.out.below b)
  replace C30 := Lib.hid (C30.out.below b)
  replace R30 := Lib.hid (R30.out.below b)
  replace G := Lib.hid (G.out.trans (b.mono G.out.size))
  clear b
  obtain ⟨k0, k1, k2, k3⟩ := C10.out.c4
  go_wp2_with fail
  refine (heldSt_any _ _ _ 1 M10.out hRl (by omega)).mono ?_
  rintro e v7 ⟨rfl, b⟩
  clear k0 k1 k2 k3
  replace HS := Lib.hid (HS.out.below b)
  replace HH := Lib.hid (HH.out.below b)
  replace C7 := Lib.hid (C7.out.below b)
  replace R7 := Lib.hid (R7.out.below b)
  replace C10 := Lib.hid (C10.out.below b)
  replace M10 := Lib.hid (M10.out.below b)
  replace C30 := Lib.hid (C30.out.below b)
  replace R30 := Lib.hid (R30.out.below b)
  replace G := Lib.hid (G.out.trans (b.mono G.out.size))
  clear b
  go_wp2
  go_ret
  exact ⟨rfl, G.out⟩
end Go.Proofs.Ytgddfhmddkhaeaa.fnExactRunStates
