/-
  A walk goes on behind a number: the program's way.
-/
import Derived.Test.YtgddfhmddkhaeaaStr
import Derived.Test.YtgddfhmddkhaeaaSpz
import Derived.Deep.DeepCutAuto
import Derived.Test.YtgddfhmddkhaeaaCPlc
import Derived.Test.YtgddfhmddkhaeaaCSer
import Derived.Test.YtgddfhmddkhaeaaCSea
import Derived.Test.YtgddfhmddkhaeaaPus
import Derived.Maps.AppendAt
import Derived.Test.YtgddfhmddkhaeaaCLaw
namespace Go.Proofs.Ytgddfhmddkhaeaa
open Ieee Go.RowKit
set_option linter.unusedVariables false
theorem CIs.c8 {w : World} {p : Nat} {a b c d e f g h : Value} (k : CIs w p [a, b, c, d, e, f, g, h]) :
    w.cell? ⟨p, 0, none⟩ = some a ∧ w.cell? ⟨p, 1, none⟩ = some b ∧ w.cell? ⟨p, 2, none⟩ = some c ∧ w.cell? ⟨p, 3, none⟩ = some d ∧ w.cell? ⟨p, 4, none⟩ = some e ∧ w.cell? ⟨p, 5, none⟩ = some f ∧ w.cell? ⟨p, 6, none⟩ = some g ∧ w.cell? ⟨p, 7, none⟩ = some h :=
  ⟨(k.2 0 (by simp)).1, (k.2 1 (by simp)).1, (k.2 2 (by simp)).1, (k.2 3 (by simp)).1, (k.2 4 (by simp)).1, (k.2 5 (by simp)).1, (k.2 6 (by simp)).1, (k.2 7 (by simp)).1⟩
theorem CIs.f8 {w : World} {p : Nat} {a b c d e f g h : Value} (k : CIs w p [a, b, c, d, e, f, g, h]) :
    w.frozen? ⟨p, 0, none⟩ = false ∧ w.frozen? ⟨p, 1, none⟩ = false ∧ w.frozen? ⟨p, 2, none⟩ = false ∧ w.frozen? ⟨p, 3, none⟩ = false ∧ w.frozen? ⟨p, 4, none⟩ = false ∧ w.frozen? ⟨p, 5, none⟩ = false ∧ w.frozen? ⟨p, 6, none⟩ = false ∧ w.frozen? ⟨p, 7, none⟩ = false :=
  ⟨(k.2 0 (by simp)).2, (k.2 1 (by simp)).2, (k.2 2 (by simp)).2, (k.2 3 (by simp)).2, (k.2 4 (by simp)).2, (k.2 5 (by simp)).2, (k.2 6 (by simp)).2, (k.2 7 (by simp)).2⟩
def wmR (P B l s : Nat) (a : Option Addr) (len cap : Nat) (zs : List Nat) (t : Int) (c0 c1 c2 c3 x : Nat) : Nat → Value → World → Prop
  | 0, v, w => v = (.pointer (some ⟨P, 0, none⟩))
  | 1, v, w => v = (.pointer (some ⟨P, 0, none⟩))
  | 2, v, w => v = (.pointer (some ⟨P, 0, none⟩))
  | 3, v, w => v = (.agg #[.float .f32 l, .float .f32 s, .slice a len cap, .int .i64 t])
  | 4, v, w => v = (.pointer (some ⟨P, 0, none⟩))
  | 5, v, w => v = (.pointer (some ⟨P, 0, none⟩))
  | 6, v, w => v = (.pointer (some ⟨P, 4, none⟩))
  | 7, v, w => v = (.agg #[.float .f32 c0, .float .f32 c1, .float .f32 c2, .float .f32 c3])
  | 8, v, w => v = (.float .f32 x)
  | 9, v, w => ∃ A cp, v = .tuple #[.agg #[.float .f32 (rsQ ⟨l, s, zs, t⟩ c0 c1 c2 c3 x).l, .float .f32 (rsQ ⟨l, s, zs, t⟩ c0 c1 c2 c3 x).s, .slice A (rsQ ⟨l, s, zs, t⟩ c0 c1 c2 c3 x).zs.length cp, .int .i64 (rsQ ⟨l, s, zs, t⟩ c0 c1 c2 c3 x).t], .float .f32 (rsM ⟨l, s, zs, t⟩ c0 c1 c2 c3 x), .bool (stpB ⟨l, s, zs, t⟩ c0 c1 c2 c3 x)] ∧ FOwn 22 B w (.slice A (rsQ ⟨l, s, zs, t⟩ c0 c1 c2 c3 x).zs.length cp) (rsQ ⟨l, s, zs, t⟩ c0 c1 c2 c3 x).zs
  | 10, v, w => ∃ A cp, v = .tuple #[.agg #[.float .f32 (rsQ ⟨l, s, zs, t⟩ c0 c1 c2 c3 x).l, .float .f32 (rsQ ⟨l, s, zs, t⟩ c0 c1 c2 c3 x).s, .slice A (rsQ ⟨l, s, zs, t⟩ c0 c1 c2 c3 x).zs.length cp, .int .i64 (rsQ ⟨l, s, zs, t⟩ c0 c1 c2 c3 x).t], .float .f32 (rsM ⟨l, s, zs, t⟩ c0 c1 c2 c3 x), .bool (stpB ⟨l, s, zs, t⟩ c0 c1 c2 c3 x)] ∧ FOwn 22 B w (.slice A (rsQ ⟨l, s, zs, t⟩ c0 c1 c2 c3 x).zs.length cp) (rsQ ⟨l, s, zs, t⟩ c0 c1 c2 c3 x).zs
  | 11, v, w => ∃ A cp, v = .agg #[.float .f32 (rsQ ⟨l, s, zs, t⟩ c0 c1 c2 c3 x).l, .float .f32 (rsQ ⟨l, s, zs, t⟩ c0 c1 c2 c3 x).s, .slice A (rsQ ⟨l, s, zs, t⟩ c0 c1 c2 c3 x).zs.length cp, .int .i64 (rsQ ⟨l, s, zs, t⟩ c0 c1 c2 c3 x).t] ∧ FOwn 22 B w (.slice A (rsQ ⟨l, s, zs, t⟩ c0 c1 c2 c3 x).zs.length cp) (rsQ ⟨l, s, zs, t⟩ c0 c1 c2 c3 x).zs
  | 12, v, w => v = (.float .f32 (rsM ⟨l, s, zs, t⟩ c0 c1 c2 c3 x))
  | 13, v, w => v = (.bool (stpB ⟨l, s, zs, t⟩ c0 c1 c2 c3 x))
  | 14, v, w => ∃ p, v = .pointer (some ⟨p, 0, none⟩) ∧ B ≤ p ∧ w.heap[p]? = some (.cells #[.float .f32 0, .float .f32 0, .slice none 0 0, .int .i64 0] 29)
  | 15, v, w => True
  | 16, v, w => v = (.float .f32 (rsM ⟨l, s, zs, t⟩ c0 c1 c2 c3 x))
  | 17, v, w => v = (.bool (stpB ⟨l, s, zs, t⟩ c0 c1 c2 c3 x))
  | _, _, _ => True
theorem wmR_mono (P B l s : Nat) (a : Option Addr) (len cap : Nat) (zs : List Nat) (t : Int) (c0 c1 c2 c3 x : Nat) : ∀ i v w w', wmR P B l s a len cap zs t c0 c1 c2 c3 x i v w → Below w.heap.size w w' → wmR P B l s a len cap zs t c0 c1 c2 c3 x i v w'
  := by
  intro i v w w' h hb
  unfold wmR at *
  split
  · exact h
  · exact h
  · exact h
  · exact h
  · exact h
  · exact h
  · exact h
  · exact h
  · exact h
  · exact (by obtain ⟨A, cp, h1, h2⟩ := h; exact ⟨A, cp, h1, FOwn.keepS h2 hb⟩)
  · exact (by obtain ⟨A, cp, h1, h2⟩ := h; exact ⟨A, cp, h1, FOwn.keepS h2 hb⟩)
  · exact (by obtain ⟨A, cp, h1, h2⟩ := h; exact ⟨A, cp, h1, FOwn.keepS h2 hb⟩)
  · exact h
  · exact h
  · exact (by obtain ⟨p, h1, h2, h3⟩ := h; exact ⟨p, h1, h2, by rw [hb.block p (Array.getElem?_eq_some_iff.1 h3).1]; exact h3⟩)
  · exact trivial
  · exact h
  · exact h
  · trivial
set_option maxHeartbeats 4000000 in
set_option maxRecDepth 100000 in
theorem wmiss_any (p l s : Nat) (a : Option Addr) (len cap : Nat) (zs : List Nat) (t : Int) (c0 c1 c2 c3 x : Nat) (w : World) (hp : CIs w p [.float .f32 l, .float .f32 s, .slice a len cap, .int .i64 t, .float .f32 c0, .float .f32 c1, .float .f32 c2, .float .f32 c3]) (h : FSl w a len zs) (hm : len ≤ 1048576) :
    Calls Try.prog 69 #[.pointer (some ⟨p, 0, none⟩), .float .f32 x] w fun e w' => ∃ A cp w1, e = .returned (.tuple #[.float .f32 (rsM ⟨l, s, zs, t⟩ c0 c1 c2 c3 x), .bool (stpB ⟨l, s, zs, t⟩ c0 c1 c2 c3 x)]) ∧ Below w.heap.size w w1 ∧ Only p w1 w' ∧ CIs w' p [.float .f32 (rsQ ⟨l, s, zs, t⟩ c0 c1 c2 c3 x).l, .float .f32 (rsQ ⟨l, s, zs, t⟩ c0 c1 c2 c3 x).s, .slice A (rsQ ⟨l, s, zs, t⟩ c0 c1 c2 c3 x).zs.length cp, .int .i64 (rsQ ⟨l, s, zs, t⟩ c0 c1 c2 c3 x).t, .float .f32 c0, .float .f32 c1, .float .f32 c2, .float .f32 c3] ∧ FOwn 22 w.heap.size w' (.slice A (rsQ ⟨l, s, zs, t⟩ c0 c1 c2 c3 x).zs.length cp) (rsQ ⟨l, s, zs, t⟩ c0 c1 c2 c3 x).zs := by
  have HP := Lib.hid (show CIs w p [.float .f32 l, .float .f32 s, .slice a len cap, .int .i64 t, .float .f32 c0, .float .f32 c1, .float .f32 c2, .float .f32 c3] from hp)
  have HZ := Lib.hid h
  have hpl := hp.1
  clear hp h
  obtain ⟨k0, k1, k2, k3, k4, k5, k6, k7⟩ := HP.out.c8
  go_enter Try.func69, Try.ntmps69
  go_upto_region 1 with fail
  clear k0 k1 k2 k3 k4 k5 k6 k7
  refine wp_region_MS (m := 15) (jp := 14) (jv := 11) (dp := 6) (dv := 20) (late := [12, 13, 16, 17]) (wmR p w.heap.size l s a len cap zs t c0 c1 c2 c3 x) (fun pv sv v1 v2 => ∃ p A cp, pv = .pointer (some ⟨p, 0, none⟩) ∧ sv = .agg #[.float .f32 (rsQ ⟨l, s, zs, t⟩ c0 c1 c2 c3 x).l, .float .f32 (rsQ ⟨l, s, zs, t⟩ c0 c1 c2 c3 x).s, .slice A (rsQ ⟨l, s, zs, t⟩ c0 c1 c2 c3 x).zs.length cp, .int .i64 (rsQ ⟨l, s, zs, t⟩ c0 c1 c2 c3 x).t] ∧ w.heap.size ≤ p ∧ Only p v1 v2 ∧ CIs v2 p [.float .f32 (rsQ ⟨l, s, zs, t⟩ c0 c1 c2 c3 x).l, .float .f32 (rsQ ⟨l, s, zs, t⟩ c0 c1 c2 c3 x).s, .slice A (rsQ ⟨l, s, zs, t⟩ c0 c1 c2 c3 x).zs.length cp, .int .i64 (rsQ ⟨l, s, zs, t⟩ c0 c1 c2 c3 x).t] ∧ FOwn 22 w.heap.size v2 (.slice A (rsQ ⟨l, s, zs, t⟩ c0 c1 c2 c3 x).zs.length cp) (rsQ ⟨l, s, zs, t⟩ c0 c1 c2 c3 x).zs ∧ (Value.slice A (rsQ ⟨l, s, zs, t⟩ c0 c1 c2 c3 x).zs.length cp).ownBlock ≠ some p) (by kernel_rfl) (wmR_mono p w.heap.size l s a len cap zs t c0 c1 c2 c3 x) (by kernel_rfl) (by kernel_rfl) (by rfl) (by rfl) (by rfl) (by rfl) (by rfl) (by kernel_rfl) (by kernel_rfl) ?_ ?_ ?_ ?_
  · refine ⟨?_, ?_, ?_, ?_, ?_, ?_, ?_, ?_, ?_, ?_, ?_, ?_, ?_, ?_, ?_, trivial⟩
    · refine opM_do rfl (fun a_ w' hS hf K hK => ?_)
      have s0 : a_.tmps.getD 0 undef = (.pointer (some ⟨p, 0, none⟩)) := (hS.rest 0 (by kernel_rfl)).trans rfl
      go_simp
      exact hK _ _ (Below.refl _ _) rfl
    · refine opM_do rfl (fun a_ w' hS hf K hK => ?_)
      have s10 : a_.tmps.getD 10 undef = (.pointer (some ⟨p, 0, none⟩)) := hf 0 (by kernel_rfl) _ 10 rfl rfl
      go_simp
      exact hK _ _ (Below.refl _ _) rfl
    · refine opM_do rfl (fun a_ w' hS hf K hK => ?_)
      have s11 : a_.tmps.getD 11 undef = (.pointer (some ⟨p, 0, none⟩)) := hf 1 (by kernel_rfl) _ 11 rfl rfl
      go_simp
      exact hK _ _ (Below.refl _ _) rfl
    · refine opM_do rfl (fun a_ w' hS hf K hK => ?_)
      have s12 : a_.tmps.getD 12 undef = (.pointer (some ⟨p, 0, none⟩)) := hf 2 (by kernel_rfl) _ 12 rfl rfl
      obtain ⟨k0, k1, k2, k3, k4, k5, k6, k7⟩ := (CIs.below (CIs.drew HP.out) hS.below).c8
      go_simp
      exact hK _ _ (Below.refl _ _) rfl
    · refine opM_do rfl (fun a_ w' hS hf K hK => ?_)
      have s0 : a_.tmps.getD 0 undef = (.pointer (some ⟨p, 0, none⟩)) := (hS.rest 0 (by kernel_rfl)).trans rfl
      go_simp
      exact hK _ _ (Below.refl _ _) rfl
    · refine opM_do rfl (fun a_ w' hS hf K hK => ?_)
      have s14 : a_.tmps.getD 14 undef = (.pointer (some ⟨p, 0, none⟩)) := hf 4 (by kernel_rfl) _ 14 rfl rfl
      go_simp
      exact hK _ _ (Below.refl _ _) rfl
    · refine opM_do rfl (fun a_ w' hS hf K hK => ?_)
      have s15 : a_.tmps.getD 15 undef = (.pointer (some ⟨p, 0, none⟩)) := hf 5 (by kernel_rfl) _ 15 rfl rfl
      go_simp
      exact hK _ _ (Below.refl _ _) rfl
    · refine opM_do rfl (fun a_ w' hS hf K hK => ?_)
      have s16 : a_.tmps.getD 16 undef = (.pointer (some ⟨p, 4, none⟩)) := hf 6 (by kernel_rfl) _ 16 rfl rfl
      obtain ⟨k0, k1, k2, k3, k4, k5, k6, k7⟩ := (CIs.below (CIs.drew HP.out) hS.below).c8
      go_simp
      exact hK _ _ (Below.refl _ _) rfl
    · refine opM_do rfl (fun a_ w' hS hf K hK => ?_)
      have s1 : a_.tmps.getD 1 undef = (.float .f32 x) := (hS.rest 1 (by kernel_rfl)).trans rfl
      go_simp
      exact hK _ _ (Below.refl _ _) rfl
    · refine opM_do rfl (fun a_ w' hS hf K hK => ?_)
      have s13 : a_.tmps.getD 13 undef = (.agg #[.float .f32 l, .float .f32 s, .slice a len cap, .int .i64 t]) := hf 3 (by kernel_rfl) _ 13 rfl rfl
      have s17 : a_.tmps.getD 17 undef = (.agg #[.float .f32 c0, .float .f32 c1, .float .f32 c2, .float .f32 c3]) := hf 7 (by kernel_rfl) _ 17 rfl rfl
      have s18 : a_.tmps.getD 18 undef = (.float .f32 x) := hf 8 (by kernel_rfl) _ 18 rfl rfl
      have hsz : w.heap.size ≤ w'.heap.size := hS.below.size
      have hFz := FSl.below (FSl.drewN HZ.out 1) hS.below
      clear hf hS
      go_simp
      refine (imStp_any l s _ len _ zs t c0 c1 c2 c3 x _ hFz hm).mono ?_
      intro e u hR
      obtain ⟨A, cp, rfl, ho, bb⟩ := stp_uni hR
      exact hK _ _ bb ⟨A, cp, rfl, FOwn.mono ho (by omega)⟩
    · refine opM_do rfl (fun a_ w' hS hf K hK => ?_)
      obtain ⟨A19, cp19, s19, h19⟩ := (show ∃ A cp, (a_.tmps.getD 19 undef) = .tuple #[.agg #[.float .f32 (rsQ ⟨l, s, zs, t⟩ c0 c1 c2 c3 x).l, .float .f32 (rsQ ⟨l, s, zs, t⟩ c0 c1 c2 c3 x).s, .slice A (rsQ ⟨l, s, zs, t⟩ c0 c1 c2 c3 x).zs.length cp, .int .i64 (rsQ ⟨l, s, zs, t⟩ c0 c1 c2 c3 x).t], .float .f32 (rsM ⟨l, s, zs, t⟩ c0 c1 c2 c3 x), .bool (stpB ⟨l, s, zs, t⟩ c0 c1 c2 c3 x)] ∧ FOwn 22 w.heap.size w' (.slice A (rsQ ⟨l, s, zs, t⟩ c0 c1 c2 c3 x).zs.length cp) (rsQ ⟨l, s, zs, t⟩ c0 c1 c2 c3 x).zs from hf 9 (by kernel_rfl) _ 19 rfl rfl)
      go_simp
      exact hK _ _ (Below.refl _ _) ⟨_, _, rfl, h19⟩
    · refine opM_do rfl (fun a_ w' hS hf K hK => ?_)
      obtain ⟨A9, cp9, s9, h9⟩ := (show ∃ A cp, (a_.tmps.getD 9 undef) = .tuple #[.agg #[.float .f32 (rsQ ⟨l, s, zs, t⟩ c0 c1 c2 c3 x).l, .float .f32 (rsQ ⟨l, s, zs, t⟩ c0 c1 c2 c3 x).s, .slice A (rsQ ⟨l, s, zs, t⟩ c0 c1 c2 c3 x).zs.length cp, .int .i64 (rsQ ⟨l, s, zs, t⟩ c0 c1 c2 c3 x).t], .float .f32 (rsM ⟨l, s, zs, t⟩ c0 c1 c2 c3 x), .bool (stpB ⟨l, s, zs, t⟩ c0 c1 c2 c3 x)] ∧ FOwn 22 w.heap.size w' (.slice A (rsQ ⟨l, s, zs, t⟩ c0 c1 c2 c3 x).zs.length cp) (rsQ ⟨l, s, zs, t⟩ c0 c1 c2 c3 x).zs from hf 10 (by kernel_rfl) _ 9 rfl rfl)
      go_simp
      exact hK _ _ (Below.refl _ _) ⟨_, _, rfl, h9⟩
    · refine opM_do rfl (fun a_ w' hS hf K hK => ?_)
      obtain ⟨A9, cp9, s9, h9⟩ := (show ∃ A cp, (a_.tmps.getD 9 undef) = .tuple #[.agg #[.float .f32 (rsQ ⟨l, s, zs, t⟩ c0 c1 c2 c3 x).l, .float .f32 (rsQ ⟨l, s, zs, t⟩ c0 c1 c2 c3 x).s, .slice A (rsQ ⟨l, s, zs, t⟩ c0 c1 c2 c3 x).zs.length cp, .int .i64 (rsQ ⟨l, s, zs, t⟩ c0 c1 c2 c3 x).t], .float .f32 (rsM ⟨l, s, zs, t⟩ c0 c1 c2 c3 x), .bool (stpB ⟨l, s, zs, t⟩ c0 c1 c2 c3 x)] ∧ FOwn 22 w.heap.size w' (.slice A (rsQ ⟨l, s, zs, t⟩ c0 c1 c2 c3 x).zs.length cp) (rsQ ⟨l, s, zs, t⟩ c0 c1 c2 c3 x).zs from hf 10 (by kernel_rfl) _ 9 rfl rfl)
      go_simp
      exact hK _ _ (Below.refl _ _) rfl
    · refine opM_do rfl (fun a_ w' hS hf K hK => ?_)
      obtain ⟨A9, cp9, s9, h9⟩ := (show ∃ A cp, (a_.tmps.getD 9 undef) = .tuple #[.agg #[.float .f32 (rsQ ⟨l, s, zs, t⟩ c0 c1 c2 c3 x).l, .float .f32 (rsQ ⟨l, s, zs, t⟩ c0 c1 c2 c3 x).s, .slice A (rsQ ⟨l, s, zs, t⟩ c0 c1 c2 c3 x).zs.length cp, .int .i64 (rsQ ⟨l, s, zs, t⟩ c0 c1 c2 c3 x).t], .float .f32 (rsM ⟨l, s, zs, t⟩ c0 c1 c2 c3 x), .bool (stpB ⟨l, s, zs, t⟩ c0 c1 c2 c3 x)] ∧ FOwn 22 w.heap.size w' (.slice A (rsQ ⟨l, s, zs, t⟩ c0 c1 c2 c3 x).zs.length cp) (rsQ ⟨l, s, zs, t⟩ c0 c1 c2 c3 x).zs from hf 10 (by kernel_rfl) _ 9 rfl rfl)
      go_simp
      exact hK _ _ (Below.refl _ _) rfl
    · refine opM_do rfl (fun a_ w' hS hf K hK => ?_)
      have hsz : w.heap.size ≤ w'.heap.size := hS.below.size
      clear hf hS
      go_simp
      exact hK _ _ ((Below.refl _ _).alloc (Nat.le_refl _) _) ⟨w'.heap.size, rfl, hsz, alloc_top _ _⟩
  · refine ⟨?_, ?_, ?_, ?_, trivial⟩
    · refine opP_do rfl rfl (fun a_ w1 w2 hf K hK => ?_)
      obtain ⟨A9, cp9, s9, h9⟩ := (show ∃ A cp, (a_.tmps.getD 9 undef) = .tuple #[.agg #[.float .f32 (rsQ ⟨l, s, zs, t⟩ c0 c1 c2 c3 x).l, .float .f32 (rsQ ⟨l, s, zs, t⟩ c0 c1 c2 c3 x).s, .slice A (rsQ ⟨l, s, zs, t⟩ c0 c1 c2 c3 x).zs.length cp, .int .i64 (rsQ ⟨l, s, zs, t⟩ c0 c1 c2 c3 x).t], .float .f32 (rsM ⟨l, s, zs, t⟩ c0 c1 c2 c3 x), .bool (stpB ⟨l, s, zs, t⟩ c0 c1 c2 c3 x)] ∧ FOwn 22 w.heap.size w1 (.slice A (rsQ ⟨l, s, zs, t⟩ c0 c1 c2 c3 x).zs.length cp) (rsQ ⟨l, s, zs, t⟩ c0 c1 c2 c3 x).zs from hf 10 (by kernel_rfl) _ 9 rfl rfl)
      go_simp
      exact hK _ rfl
    · refine opP_do rfl rfl (fun a_ w1 w2 hf K hK => ?_)
      obtain ⟨A9, cp9, s9, h9⟩ := (show ∃ A cp, (a_.tmps.getD 9 undef) = .tuple #[.agg #[.float .f32 (rsQ ⟨l, s, zs, t⟩ c0 c1 c2 c3 x).l, .float .f32 (rsQ ⟨l, s, zs, t⟩ c0 c1 c2 c3 x).s, .slice A (rsQ ⟨l, s, zs, t⟩ c0 c1 c2 c3 x).zs.length cp, .int .i64 (rsQ ⟨l, s, zs, t⟩ c0 c1 c2 c3 x).t], .float .f32 (rsM ⟨l, s, zs, t⟩ c0 c1 c2 c3 x), .bool (stpB ⟨l, s, zs, t⟩ c0 c1 c2 c3 x)] ∧ FOwn 22 w.heap.size w1 (.slice A (rsQ ⟨l, s, zs, t⟩ c0 c1 c2 c3 x).zs.length cp) (rsQ ⟨l, s, zs, t⟩ c0 c1 c2 c3 x).zs from hf 10 (by kernel_rfl) _ 9 rfl rfl)
      go_simp
      exact hK _ rfl
    · refine opP_do rfl rfl (fun a_ w1 w2 hf K hK => ?_)
      have s21 : a_.tmps.getD 21 undef = (.float .f32 (rsM ⟨l, s, zs, t⟩ c0 c1 c2 c3 x)) := hf 12 (by kernel_rfl) _ 21 rfl rfl
      go_simp
      exact hK _ rfl
    · refine opP_do rfl rfl (fun a_ w1 w2 hf K hK => ?_)
      have s22 : a_.tmps.getD 22 undef = (.bool (stpB ⟨l, s, zs, t⟩ c0 c1 c2 c3 x)) := hf 13 (by kernel_rfl) _ 22 rfl rfl
      go_simp
      exact hK _ rfl
  · intro a_ w1 hS hjp hjv K hK
    obtain ⟨q, s6, hB, hc⟩ := (show ∃ p, a_.tmps.getD 6 undef = .pointer (some ⟨p, 0, none⟩) ∧ w.heap.size ≤ p ∧ w1.heap[p]? = some (.cells #[.float .f32 0, .float .f32 0, .slice none 0 0, .int .i64 0] 29) from hjp)
    obtain ⟨A, cp, s20, ho⟩ := (show ∃ A cp, a_.tmps.getD 20 undef = .agg #[.float .f32 (rsQ ⟨l, s, zs, t⟩ c0 c1 c2 c3 x).l, .float .f32 (rsQ ⟨l, s, zs, t⟩ c0 c1 c2 c3 x).s, .slice A (rsQ ⟨l, s, zs, t⟩ c0 c1 c2 c3 x).zs.length cp, .int .i64 (rsQ ⟨l, s, zs, t⟩ c0 c1 c2 c3 x).t] ∧ FOwn 22 w.heap.size w1 (.slice A (rsQ ⟨l, s, zs, t⟩ c0 c1 c2 c3 x).zs.length cp) (rsQ ⟨l, s, zs, t⟩ c0 c1 c2 c3 x).zs from hjv)
    have hci := cis_of4 hc
    have hne := own_nT ho hc (by decide)
    have hon := ((((Only.refl q w1).setCell 0 (.float .f32 (rsQ ⟨l, s, zs, t⟩ c0 c1 c2 c3 x).l)).setCell 1 (.float .f32 (rsQ ⟨l, s, zs, t⟩ c0 c1 c2 c3 x).s)).setCell 2 (.slice A (rsQ ⟨l, s, zs, t⟩ c0 c1 c2 c3 x).zs.length cp)).setCell 3 (.int .i64 (rsQ ⟨l, s, zs, t⟩ c0 c1 c2 c3 x).t)
    have hpu := (((hci.put (o := 0) (v := .float .f32 (rsQ ⟨l, s, zs, t⟩ c0 c1 c2 c3 x).l) (by simp)).put (o := 1) (v := .float .f32 (rsQ ⟨l, s, zs, t⟩ c0 c1 c2 c3 x).s) (by simp)).put (o := 2) (v := .slice A (rsQ ⟨l, s, zs, t⟩ c0 c1 c2 c3 x).zs.length cp) (by simp)).put (o := 3) (v := .int .i64 (rsQ ⟨l, s, zs, t⟩ c0 c1 c2 c3 x).t) (by simp)
    have how := own_set ho hon hne
    rw [s6, s20] at hK
    clear hjp hjv hS hc ho
    obtain ⟨g0, g1, g2, g3⟩ := hci.c4
    obtain ⟨f0, f1, f2, f3⟩ := hci.f4
    go_simp
    exact hK _ ⟨q, A, cp, rfl, rfl, hB, hon, hpu, how, hne⟩
  intro vs a_ w1 w2 hb hv ha hP
  have hlit : a_ = ⟨#[.pointer (some ⟨p, 0, none⟩), .float .f32 x, undef, undef, .float .f32 0, .bool false, vs 14, vs 16, vs 17, vs 10, vs 0, vs 1, vs 2, vs 3, vs 4, vs 5, vs 6, vs 7, vs 8, vs 9, vs 11, vs 12, vs 13, undef, undef, undef, undef, undef, undef], []⟩ := ha.trans (by kernel_rfl)
  clear ha
  obtain ⟨q, A, cp, e1, -, hB, hon, hci, how, hne⟩ := hP
  have e2 : vs 16 = .float .f32 (rsM ⟨l, s, zs, t⟩ c0 c1 c2 c3 x) := hv 16 (by decide) (by kernel_rfl)
  have e3 : vs 17 = .bool (stpB ⟨l, s, zs, t⟩ c0 c1 c2 c3 x) := hv 17 (by decide) (by kernel_rfl)
  rw [e1, e2, e3] at hlit
  clear hv e1 e2 e3
  subst hlit
  have hB2 : Below w.heap.size w w2 := (below_drewN (Below.refl w.heap.size w) 1).trans (hb.trans (hon.below hB))
  have C1 := Lib.hid hci
  have HO := Lib.hid how
  have HB := Lib.hid hB2
  replace HP := Lib.hid (HP.out.below hB2)
  have hfar := own_far how hpl
  clear hon hci how hne hb hB hB2 HZ
  obtain ⟨g0, g1, g2, g3⟩ := C1.out.c4
  obtain ⟨k0, k1, k2, k3, k4, k5, k6, k7⟩ := HP.out.c8
  obtain ⟨f0, f1, f2, f3, f4, f5, f6, f7⟩ := HP.out.f8
  have hon := ((((Only.refl p w2).setCell 0 (.float .f32 (rsQ ⟨l, s, zs, t⟩ c0 c1 c2 c3 x).l)).setCell 1 (.float .f32 (rsQ ⟨l, s, zs, t⟩ c0 c1 c2 c3 x).s)).setCell 2 (.slice A (rsQ ⟨l, s, zs, t⟩ c0 c1 c2 c3 x).zs.length cp)).setCell 3 (.int .i64 (rsQ ⟨l, s, zs, t⟩ c0 c1 c2 c3 x).t)
  have hpu := (((HP.out.put (o := 0) (v := .float .f32 (rsQ ⟨l, s, zs, t⟩ c0 c1 c2 c3 x).l) (by simp)).put (o := 1) (v := .float .f32 (rsQ ⟨l, s, zs, t⟩ c0 c1 c2 c3 x).s) (by simp)).put (o := 2) (v := .slice A (rsQ ⟨l, s, zs, t⟩ c0 c1 c2 c3 x).zs.length cp) (by simp)).put (o := 3) (v := .int .i64 (rsQ ⟨l, s, zs, t⟩ c0 c1 c2 c3 x).t) (by simp)
  have HON := Lib.hid hon
  have HPU := Lib.hid hpu
  have HOW := Lib.hid (own_set HO.out hon hfar)
  clear hon hpu hfar HO
  go_wp2
  go_ret2
  exact ⟨A, cp, w2, rfl, HB.out, HON.out, HPU.out, HOW.out⟩
end Go.Proofs.Ytgddfhmddkhaeaa

/-
  A walk goes on behind a number and tells the guess: the program's way.
-/
namespace Go.Proofs.Ytgddfhmddkhaeaa
open Ieee Go.RowKit
set_option linter.unusedVariables false
def wgR (P l s : Nat) (a : Option Addr) (len cap : Nat) (zs : List Nat) (t : Int) (c0 c1 c2 c3 x : Nat) : Nat → Value → World → Prop
  | 0, v, w => v = (.pointer (some ⟨P, 0, none⟩))
  | 1, v, w => v = (.pointer (some ⟨P, 0, none⟩))
  | 2, v, w => v = (.pointer (some ⟨P, 0, none⟩))
  | 3, v, w => v = (.agg #[.float .f32 l, .float .f32 s, .slice a len cap, .int .i64 t])
  | 4, v, w => v = (.pointer (some ⟨P, 0, none⟩))
  | 5, v, w => v = (.pointer (some ⟨P, 0, none⟩))
  | 6, v, w => v = (.pointer (some ⟨P, 4, none⟩))
  | 7, v, w => v = (.agg #[.float .f32 c0, .float .f32 c1, .float .f32 c2, .float .f32 c3])
  | 8, v, w => ∃ r, v = .tuple #[.float .f32 r, .bool (guB l s zs t c0 c1 c2 c3)] ∧ cn .f32 r = (guR l s zs t c0 c1 c2 c3)
  | 9, v, w => ∃ r, v = .tuple #[.float .f32 r, .bool (guB l s zs t c0 c1 c2 c3)] ∧ cn .f32 r = (guR l s zs t c0 c1 c2 c3)
  | 10, v, w => ∃ r, v = .float .f32 r ∧ cn .f32 r = (guR l s zs t c0 c1 c2 c3)
  | 11, v, w => v = (.bool (guB l s zs t c0 c1 c2 c3))
  | 12, v, w => ∃ r, v = .float .f32 r ∧ cn .f32 r = (guR l s zs t c0 c1 c2 c3)
  | 13, v, w => v = (.bool (guB l s zs t c0 c1 c2 c3))
  | _, _, _ => True
theorem wgR_mono (P l s : Nat) (a : Option Addr) (len cap : Nat) (zs : List Nat) (t : Int) (c0 c1 c2 c3 x : Nat) : ∀ i v w w', wgR P l s a len cap zs t c0 c1 c2 c3 x i v w → Below w.heap.size w w' → wgR P l s a len cap zs t c0 c1 c2 c3 x i v w'
  := by
  intro i v w w' h hb
  unfold wgR at *
  split
  · exact h
  · exact h
  · exact h
  · exact h
  · exact h
  · exact h
  · exact h
  · exact h
  · exact h
  · exact h
  · exact h
  · exact h
  · exact h
  · exact h
  · trivial
set_option maxHeartbeats 4000000 in
set_option maxRecDepth 100000 in
theorem wguess_any (p l s : Nat) (a : Option Addr) (len cap : Nat) (zs : List Nat) (t : Int) (c0 c1 c2 c3 x : Nat) (w : World) (hp : CIs w p [.float .f32 l, .float .f32 s, .slice a len cap, .int .i64 t, .float .f32 c0, .float .f32 c1, .float .f32 c2, .float .f32 c3]) (h : FSl w a len zs) (hm : len ≤ 1048576) :
    Calls Try.prog 70 #[.pointer (some ⟨p, 0, none⟩), .float .f32 x] w fun e w' => ∃ A cp w1 r, e = .returned (.tuple #[.float .f32 r, .bool (stpB ⟨l, s, zs, t⟩ c0 c1 c2 c3 x)]) ∧ cn .f32 r = (guR l s zs t c0 c1 c2 c3) ∧ Below w.heap.size w w1 ∧ Only p w1 w' ∧ CIs w' p [.float .f32 (rsQ ⟨l, s, zs, t⟩ c0 c1 c2 c3 x).l, .float .f32 (rsQ ⟨l, s, zs, t⟩ c0 c1 c2 c3 x).s, .slice A (rsQ ⟨l, s, zs, t⟩ c0 c1 c2 c3 x).zs.length cp, .int .i64 (rsQ ⟨l, s, zs, t⟩ c0 c1 c2 c3 x).t, .float .f32 c0, .float .f32 c1, .float .f32 c2, .float .f32 c3] ∧ FOwn 22 w.heap.size w' (.slice A (rsQ ⟨l, s, zs, t⟩ c0 c1 c2 c3 x).zs.length cp) (rsQ ⟨l, s, zs, t⟩ c0 c1 c2 c3 x).zs := by
  have HP := Lib.hid (show CIs w p [.float .f32 l, .float .f32 s, .slice a len cap, .int .i64 t, .float .f32 c0, .float .f32 c1, .float .f32 c2, .float .f32 c3] from hp)
  have HZ := Lib.hid h
  have hpl := hp.1
  clear hp h
  obtain ⟨k0, k1, k2, k3, k4, k5, k6, k7⟩ := HP.out.c8
  go_enter Try.func70, Try.ntmps70
  go_upto_region 1 with fail
  clear k0 k1 k2 k3 k4 k5 k6 k7
  refine wp_region_MV (wgR p l s a len cap zs t c0 c1 c2 c3 x) (by kernel_rfl) (wgR_mono p l s a len cap zs t c0 c1 c2 c3 x) (by kernel_rfl) ?_ ?_
  · refine ⟨?_, ?_, ?_, ?_, ?_, ?_, ?_, ?_, ?_, ?_, ?_, ?_, ?_, ?_, trivial⟩
    · refine opM_do rfl (fun a_ w' hS hf K hK => ?_)
      have s0 : a_.tmps.getD 0 undef = (.pointer (some ⟨p, 0, none⟩)) := (hS.rest 0 (by kernel_rfl)).trans rfl
      go_simp
      exact hK _ _ (Below.refl _ _) rfl
    · refine opM_do rfl (fun a_ w' hS hf K hK => ?_)
      have s11 : a_.tmps.getD 11 undef = (.pointer (some ⟨p, 0, none⟩)) := hf 0 (by kernel_rfl) _ 11 rfl rfl
      go_simp
      exact hK _ _ (Below.refl _ _) rfl
    · refine opM_do rfl (fun a_ w' hS hf K hK => ?_)
      have s12 : a_.tmps.getD 12 undef = (.pointer (some ⟨p, 0, none⟩)) := hf 1 (by kernel_rfl) _ 12 rfl rfl
      go_simp
      exact hK _ _ (Below.refl _ _) rfl
    · refine opM_do rfl (fun a_ w' hS hf K hK => ?_)
      have s13 : a_.tmps.getD 13 undef = (.pointer (some ⟨p, 0, none⟩)) := hf 2 (by kernel_rfl) _ 13 rfl rfl
      obtain ⟨k0, k1, k2, k3, k4, k5, k6, k7⟩ := (CIs.below (CIs.drew HP.out) hS.below).c8
      go_simp
      exact hK _ _ (Below.refl _ _) rfl
    · refine opM_do rfl (fun a_ w' hS hf K hK => ?_)
      have s0 : a_.tmps.getD 0 undef = (.pointer (some ⟨p, 0, none⟩)) := (hS.rest 0 (by kernel_rfl)).trans rfl
      go_simp
      exact hK _ _ (Below.refl _ _) rfl
    · refine opM_do rfl (fun a_ w' hS hf K hK => ?_)
      have s15 : a_.tmps.getD 15 undef = (.pointer (some ⟨p, 0, none⟩)) := hf 4 (by kernel_rfl) _ 15 rfl rfl
      go_simp
      exact hK _ _ (Below.refl _ _) rfl
    · refine opM_do rfl (fun a_ w' hS hf K hK => ?_)
      have s16 : a_.tmps.getD 16 undef = (.pointer (some ⟨p, 0, none⟩)) := hf 5 (by kernel_rfl) _ 16 rfl rfl
      go_simp
      exact hK _ _ (Below.refl _ _) rfl
    · refine opM_do rfl (fun a_ w' hS hf K hK => ?_)
      have s17 : a_.tmps.getD 17 undef = (.pointer (some ⟨p, 4, none⟩)) := hf 6 (by kernel_rfl) _ 17 rfl rfl
      obtain ⟨k0, k1, k2, k3, k4, k5, k6, k7⟩ := (CIs.below (CIs.drew HP.out) hS.below).c8
      go_simp
      exact hK _ _ (Below.refl _ _) rfl
    · refine opM_do rfl (fun a_ w' hS hf K hK => ?_)
      have s14 : a_.tmps.getD 14 undef = (.agg #[.float .f32 l, .float .f32 s, .slice a len cap, .int .i64 t]) := hf 3 (by kernel_rfl) _ 14 rfl rfl
      have s18 : a_.tmps.getD 18 undef = (.agg #[.float .f32 c0, .float .f32 c1, .float .f32 c2, .float .f32 c3]) := hf 7 (by kernel_rfl) _ 18 rfl rfl
      have hFz := FSl.below (FSl.drewN HZ.out 1) hS.below
      clear hf hS
      go_simp
      refine (imGuess_any l s _ len _ zs t c0 c1 c2 c3 _ hFz hm).mono ?_
      rintro e u ⟨r, hr, rfl, bb⟩
      exact hK _ _ bb ⟨r, rfl, hr⟩
    · refine opM_do rfl (fun a_ w' hS hf K hK => ?_)
      obtain ⟨r19, s19, h19⟩ := (show ∃ r, (a_.tmps.getD 19 undef) = .tuple #[.float .f32 r, .bool (guB l s zs t c0 c1 c2 c3)] ∧ cn .f32 r = (guR l s zs t c0 c1 c2 c3) from hf 8 (by kernel_rfl) _ 19 rfl rfl)
      go_simp
      exact hK _ _ (Below.refl _ _) ⟨_, rfl, h19⟩
    · refine opM_do rfl (fun a_ w' hS hf K hK => ?_)
      obtain ⟨r10, s10, h10⟩ := (show ∃ r, (a_.tmps.getD 10 undef) = .tuple #[.float .f32 r, .bool (guB l s zs t c0 c1 c2 c3)] ∧ cn .f32 r = (guR l s zs t c0 c1 c2 c3) from hf 9 (by kernel_rfl) _ 10 rfl rfl)
      go_simp
      exact hK _ _ (Below.refl _ _) ⟨_, rfl, h10⟩
    · refine opM_do rfl (fun a_ w' hS hf K hK => ?_)
      obtain ⟨r10, s10, h10⟩ := (show ∃ r, (a_.tmps.getD 10 undef) = .tuple #[.float .f32 r, .bool (guB l s zs t c0 c1 c2 c3)] ∧ cn .f32 r = (guR l s zs t c0 c1 c2 c3) from hf 9 (by kernel_rfl) _ 10 rfl rfl)
      go_simp
      exact hK _ _ (Below.refl _ _) rfl
    · refine opM_do rfl (fun a_ w' hS hf K hK => ?_)
      obtain ⟨r20, s20, h20⟩ := (show ∃ r, (a_.tmps.getD 20 undef) = .float .f32 r ∧ cn .f32 r = (guR l s zs t c0 c1 c2 c3) from hf 10 (by kernel_rfl) _ 20 rfl rfl)
      go_simp
      exact hK _ _ (Below.refl _ _) ⟨_, rfl, h20⟩
    · refine opM_do rfl (fun a_ w' hS hf K hK => ?_)
      have s21 : a_.tmps.getD 21 undef = (.bool (guB l s zs t c0 c1 c2 c3)) := hf 11 (by kernel_rfl) _ 21 rfl rfl
      go_simp
      exact hK _ _ (Below.refl _ _) rfl
  intro vs a_ w1 hb hv ha
  have hlit : a_ = ⟨#[.pointer (some ⟨p, 0, none⟩), .float .f32 x, undef, undef, .float .f32 0, .bool false, vs 12, vs 13, undef, undef, vs 9, vs 0, vs 1, vs 2, vs 3, vs 4, vs 5, vs 6, vs 7, vs 8, vs 10, vs 11, undef, undef, undef, undef, undef, undef, undef, undef], []⟩ := ha.trans (by kernel_rfl)
  clear ha
  obtain ⟨r, e1, hr⟩ := (show ∃ r, vs 12 = .float .f32 r ∧ cn .f32 r = (guR l s zs t c0 c1 c2 c3) from hv 12 (by decide) (by kernel_rfl))
  rw [e1] at hlit
  clear hv e1
  subst hlit
  have hB2 : Below w.heap.size w w1 := (below_drewN (Below.refl w.heap.size w) 1).trans hb
  have HB := Lib.hid hB2
  replace HP := Lib.hid (HP.out.below hB2)
  replace HZ := Lib.hid (FSl.below HZ.out hB2)
  clear hb hB2
  have HR := Lib.hid hr
  clear hr
  go_wp2_with fail
  refine (wmiss_any p l s a len cap zs t c0 c1 c2 c3 x _ HP.out HZ.out hm).mono ?_
  rintro e u ⟨A, cp, w2, rfl, hb, hon, hci, how⟩
  have HBB := Lib.hid (HB.out.trans (hb.mono HB.out.size))
  have HON := Lib.hid hon
  have HPU := Lib.hid hci
  have HOW := Lib.hid (FOwn.mono how HB.out.size)
  clear hb hon hci how
  go_wp2
  go_ret2
  exact ⟨A, cp, w2, r, rfl, HR.out, HBB.out, HON.out, HPU.out, HOW.out⟩
end Go.Proofs.Ytgddfhmddkhaeaa

/-
  Through a series by a step that has a memory of its own: the program's through, over a method's value.
-/
namespace Go.Proofs.Ytgddfhmddkhaeaa
open Ieee Go.RowKit
set_option linter.unusedVariables false
/-- All of the first n are well. -/
def oks (ok : Nat → Bool) (n : Nat) : Bool := (List.range n).all ok
theorem oks_succ (ok : Nat → Bool) (n : Nat) : oks ok (n + 1) = (oks ok n && ok n) := by unfold oks; rw [List.range_succ, List.all_append]; simp
theorem oks_bad {ok : Nat → Bool} {k n : Nat} (h : k < n) (hb : ok k = false) : oks ok n = false := by
  unfold oks
  rw [List.all_eq_false]
  exact ⟨k, by simpa using h, by simp [hb]⟩
/-- What a step's call gives. -/
def TellB (tell : Nat → Nat) (ok : Nat → Bool) (I : Nat → World → Prop) (B0 B k : Nat) (wr : World) (e : Ending) (w' : World) : Prop :=
  ∃ r, e = .returned (.tuple #[.float .f32 r, .bool (ok k)]) ∧ (ok k = true → cn .f32 r = tell k) ∧ I (k + 1) w' ∧ Below B0 wr w' ∧ w'.heap[B]? = wr.heap[B]?
/-- What 'through' gives. -/
def RetThr (T : TypeId) (tell : Nat → Nat) (ok : Nat → Bool) (n : Nat) (I : Nat → World → Prop) (B0 : Nat) (w : World) (e : Ending) (w' : World) : Prop :=
  ∃ v rs, e = .returned (.tuple #[v, .bool (oks ok n)]) ∧ FOwn T w.heap.size w' v rs ∧ (oks ok n = true → cnl rs = tells tell n ∧ I n w') ∧ (oks ok n = false → rs = []) ∧ Below B0 w w'
set_option maxHeartbeats 4000000 in
set_option maxRecDepth 100000 in
theorem thr_any (K : FuncId) (p : Nat) (tell : Nat → Nat) (ok : Nat → Bool) (I : Nat → World → Prop) (w0 : World) (a : Option Addr) (len cap : Nat) (zs : List Nat) (w : World) (hen : ∀ args w, (callFunc K args).run Try.prog w = .ok (.enter K args) w)
    (H : FSl w0 a len zs) (hw : Below w0.heap.size w0 w) (hn : len ≤ 1048576) (hser : serB zs = true)
    (h0 : ∀ wr, Below w.heap.size w wr → I 0 wr)
    (hset : ∀ k wr j v, w.heap.size < wr.heap.size → I k wr → I k (wr.setCell ⟨w.heap.size, j, none⟩ v))
    (hcl : ∀ k wr, k < len → w.heap.size < wr.heap.size → I k wr → Calls Try.prog K #[.pointer (some ⟨p, 0, none⟩), .float .f32 (zs.getD k 0)] wr (TellB tell ok I w0.heap.size w.heap.size k wr)) :
    Calls Try.prog 68 #[.slice a len cap, .func (.func K) #[.pointer (some ⟨p, 0, none⟩)] #[]] w (RetThr 22 tell ok len I w0.heap.size w) := by
  obtain ⟨i0, hi, hz0, hz1, hz2⟩ := info_parts Try.infoR
  have hmk := fun W => run_make_len (P := Try.prog) W 23 22 i0 (.float .f32 0) Try.underlying23 hi hz0 hz1 len (by rw [hz2]; omega) (by omega)
  clear hi hz0 hz1 hz2
  have HSER := Lib.hid hser
  have HW := Lib.hid (FSl.below H hw)
  have HZ := Lib.hid H
  have HI := Lib.hid hset
  have HI0 := Lib.hid h0
  have HC := Lib.hid hcl
  have HBW := Lib.hid hw
  have hws := hw.size
  clear h0 hset hcl H hser hw
  go_enter Try.func68, Try.ntmps68
  go_wp2_with fail
  refine (implSeries_any _ _ _ _ _ HW.out hn).mono ?_
  rw [HSER.out]
  rintro e w' ⟨m, rfl, rfl⟩
  have HS := Lib.hid (Head.start (T := 22) (w := w.drewN m) (n := len) (by omega))
  have HI1 := Lib.hid (HI0.out _ ((below_drewN (Below.refl w.heap.size w) m).alloc (Nat.le_refl _) (.cells (madeCells (Value.float .f32 0).cells len) 22)))
  have HB := Lib.hid ((below_drewN (Below.refl w0.heap.size w) m).alloc hws (.cells (madeCells (Value.float .f32 0).cells len) 22))
  go_wp2_with fail
  clear hmk HI0 HW HSER
  go_loopw [7, 8, 9, 18] (fun v7 v8 v9 i wr => ∃ (k : Nat) (rs : List Nat), k ≤ len ∧ i = .int .i64 k ∧ Hid (rs.length = k) ∧ Hid (Head 22 w.heap.size len rs wr) ∧ Hid (cnl rs = tells tell k) ∧ Hid (oks ok k = true) ∧ Hid (I k wr) ∧ Hid (Below w0.heap.size w wr) ∧ w.heap.size < wr.heap.size) (fun _ _ _ i _ => len - (intOf i).toNat)
  case atStart => exact ⟨0, [], Nat.zero_le _, rfl, Lib.hid rfl, HS, Lib.hid rfl, Lib.hid rfl, HI1, HB, by simp⟩
  case round =>
    rename_i wr
    obtain ⟨k, rs, hk, rfl, hrl, hhead, hrs, hok, hi, hbel, hsz⟩ := hrel
    by_cases hlt : k < len
    · have F := FSl.below HZ.out (HBW.out.trans hbel.out)
      obtain ⟨b, off, rfl, hb, hc⟩ := F.at (by omega)
      have hck := hc k hlt
      clear F hc
      go_wp2_with fail
      refine (HC.out k _ hlt hsz hi.out).mono ?_
      rintro e w1 ⟨r, rfl, hr, hi1, hb1, hB1⟩
      have hhd1 := hhead.out.same hB1
      obtain ⟨⟨u, hcell⟩, hfz⟩ := hhd1.cell hlt
      have HP := Lib.hid (hhd1.push (by rw [hrl.out]; exact hlt) r)
      rw [hrl.out] at HP
      have HSz := Lib.hid (show w.heap.size < w1.heap.size from hhd1.lt)
      have HI1 := Lib.hid (HI.out (k + 1) w1 k (.float .f32 r) HSz.out hi1)
      have HB1 := Lib.hid ((hbel.out.trans hb1).setCell (p := ⟨w.heap.size, k, none⟩) hws (.float .f32 r))
      have HLn := Lib.hid (show (rs ++ [r]).length = k + 1 by rw [List.length_append, hrl.out]; rfl)
      have HRr := Lib.hid hr
      have HRs := Lib.hid hrs.out
      have HO0 := Lib.hid hok.out
      clear hr hi1 hb1 hB1 hhd1 hi hbel hhead hrs hsz hrl hok hck
      cases hf : ok k
      · have HE := Lib.hid (oks_bad hlt hf)
        clear hf
        go_wp2_with fail
        go_ret2
        exact ⟨_, [], by rw [HE.out]; rfl, FOwn.nil .., fun h => (by rw [HE.out] at h; cases h), fun _ => rfl, HB1.out⟩
      · have HF := Lib.hid (show oks ok (k + 1) = true by rw [oks_succ, HO0.out, hf]; rfl)
        have HRc := Lib.hid (show cnl (rs ++ [r]) = tells tell (k + 1) by rw [tells_succ]; exact cnl_snoc HRs.out (HRr.out hf))
        clear hf
        go_wp2_with fail
        go_roundw
        case rel => exact ⟨k + 1, rs ++ [r], by omega, by go_num, HLn, HP, HRc, HF, HI1, HB1, by show w.heap.size < (World.setCell _ _ _).heap.size; simpa [World.setCell] using HSz.out⟩
        case measure => simp [intOf]; omega
    · obtain rfl : k = len := by omega
      have HE := Lib.hid hok.out
      have HO := Lib.hid (hhead.out.own hrl.out (Nat.le_refl _) (by unfold maxLen; omega))
      have HC2 := Lib.hid hrs.out
      clear hok hhead hrs HC HI1 HS HB
      go_wp2_with fail
      go_ret2
      exact ⟨_, rs, by rw [HE.out]; rfl, HO.out, fun _ => ⟨HC2.out, hi.out⟩, fun h => (by rw [HE.out] at h; cases h), hbel.out⟩
theorem thr_no (K : FuncId) (p : Nat) (a : Option Addr) (len cap : Nat) (zs : List Nat) (w : World) (H : FSl w a len zs) (hn : len ≤ 1048576) (hser : serB zs = false) :
    Calls Try.prog 68 #[.slice a len cap, .func (.func K) #[.pointer (some ⟨p, 0, none⟩)] #[]] w fun e w' => e = .returned (.tuple #[.slice none 0 0, .bool false]) ∧ Below w.heap.size w w' := by
  have HSER := Lib.hid hser
  have HW := Lib.hid H
  clear H hser
  go_enter Try.func68, Try.ntmps68
  go_wp2_with fail
  refine (implSeries_any _ _ _ _ _ HW.out hn).mono ?_
  rw [HSER.out]
  rintro e w' ⟨m, rfl, rfl⟩
  go_wp2_with fail
  go_ret2
  exact ⟨rfl, below_drewN (Below.refl _ _) m⟩
end Go.Proofs.Ytgddfhmddkhaeaa

/-
  A walk through a series: the program's misses and guesses.
-/
namespace Go.Proofs.Ytgddfhmddkhaeaa
open Ieee Go.RowKit
set_option linter.unusedVariables false
/-- The state before the number at a place. -/
def rnQ (q : Stt) (xs : List Nat) (a b c d : Nat) : Nat → Stt
  | 0 => q
  | k + 1 => rsQ (rnQ q xs a b c d k) a b c d (xs.getD k 0)
/-- Whether the step at a place goes well; the miss; the guess. -/
def rnO (q : Stt) (xs : List Nat) (a b c d k : Nat) : Bool := stpB (rnQ q xs a b c d k) a b c d (xs.getD k 0)
def rnM (q : Stt) (xs : List Nat) (a b c d k : Nat) : Nat := cn .f32 (rsM (rnQ q xs a b c d k) a b c d (xs.getD k 0))
def rnG (q : Stt) (xs : List Nat) (a b c d k : Nat) : Nat := guR (rnQ q xs a b c d k).l (rnQ q xs a b c d k).s (rnQ q xs a b c d k).zs (rnQ q xs a b c d k).t a b c d
theorem rnQ_len (q : Stt) (xs : List Nat) (a b c d : Nat) : ∀ k, (rnQ q xs a b c d k).zs.length ≤ q.zs.length
  | 0 => Nat.le_refl _
  | k + 1 => Nat.le_trans (rsQ_len _ _ _ _ _ _) (rnQ_len q xs a b c d k)
/-- A walk stands in block p; its season does not lie in block g. -/
def WkI (p g c0 c1 c2 c3 : Nat) (q : Stt) (w : World) : Prop :=
  ∃ A cp, CIs w p [.float .f32 q.l, .float .f32 q.s, .slice A q.zs.length cp, .int .i64 q.t, .float .f32 c0, .float .f32 c1, .float .f32 c2, .float .f32 c3] ∧ FSl w A q.zs.length q.zs ∧ ∀ b off, 0 < q.zs.length → A = some ⟨b, off, none⟩ → b ≠ g
theorem WkI.set {p g c0 c1 c2 c3 : Nat} {q : Stt} {w : World} (h : WkI p g c0 c1 c2 c3 q w) (hpg : p ≠ g) (j : Nat) (v : Value) : WkI p g c0 c1 c2 c3 q (w.setCell ⟨g, j, none⟩ v) := by
  obtain ⟨A, cp, h1, h2, h3⟩ := h
  exact ⟨A, cp, h1.set hpg, FSl.same h2 (by simp [World.setCell]) (fun b off h0 e => Below.heap_setCell w _ _ _ (h3 b off h0 e)), h3⟩
theorem WkI.first {p c0 c1 c2 c3 : Nat} {q : Stt} {w wr : World} {A : Option Addr} {cp : Nat} (h1 : CIs w p [.float .f32 q.l, .float .f32 q.s, .slice A q.zs.length cp, .int .i64 q.t, .float .f32 c0, .float .f32 c1, .float .f32 c2, .float .f32 c3]) (h2 : FSl w A q.zs.length q.zs) (hb : Below w.heap.size w wr) : WkI p w.heap.size c0 c1 c2 c3 q wr := by
  refine ⟨A, cp, h1.below hb, FSl.below h2 hb, fun b off h0 e => ?_⟩
  obtain ⟨b', off', e', hlt, _⟩ := h2.at h0
  rw [e] at e'
  injection e' with e'
  injection e' with e' _ _
  omega
theorem WkI.next {T : TypeId} {p g c0 c1 c2 c3 : Nat} {q : Stt} {wr w1 w' : World} {A : Option Addr} {cp B0 : Nat} (hpg : p ≠ g) (hg : g < wr.heap.size) (hB : B0 ≤ p) (hp : p < wr.heap.size) (hb : Below wr.heap.size wr w1) (ho : Only p w1 w')
    (hc : CIs w' p [.float .f32 q.l, .float .f32 q.s, .slice A q.zs.length cp, .int .i64 q.t, .float .f32 c0, .float .f32 c1, .float .f32 c2, .float .f32 c3]) (hw : FOwn T wr.heap.size w' (.slice A q.zs.length cp) q.zs) :
    WkI p g c0 c1 c2 c3 q w' ∧ Below B0 wr w' ∧ w'.heap[g]? = wr.heap[g]? := by
  refine ⟨⟨A, cp, hc, own_fsl hw, fun b off h0 e => ?_⟩, (hb.mono (by omega)).trans (ho.below hB), by rw [ho.block g (Ne.symm hpg), hb.block g hg]⟩
  subst e
  have := own_far hw hg
  intro e2
  exact this (by rw [← e2]; obtain ⟨g', cp', e3, h4, _⟩ := own_blk hw rfl h0; injection e3 with e3 _ _; injection e3 with e3; injection e3 with e3 e5 _; subst e3 e5; rfl)
theorem wk_miss (q0 : Stt) (xs : List Nat) (c0 c1 c2 c3 p g B0 k : Nat) (wr : World) (hm : q0.zs.length ≤ 1048576) (hpg : p ≠ g) (hg : g < wr.heap.size) (hB : B0 ≤ p) (hp : p < wr.heap.size) (h : WkI p g c0 c1 c2 c3 (rnQ q0 xs c0 c1 c2 c3 k) wr) :
    Calls Try.prog 69 #[.pointer (some ⟨p, 0, none⟩), .float .f32 (xs.getD k 0)] wr (TellB (rnM q0 xs c0 c1 c2 c3) (rnO q0 xs c0 c1 c2 c3) (fun k w => p < w.heap.size ∧ WkI p g c0 c1 c2 c3 (rnQ q0 xs c0 c1 c2 c3 k) w) B0 g k wr) := by
  obtain ⟨A, cp, h1, h2, h3⟩ := h
  refine (wmiss_any p _ _ A _ cp _ _ c0 c1 c2 c3 (xs.getD k 0) wr h1 h2 (Nat.le_trans (rnQ_len _ _ _ _ _ _ _) hm)).mono ?_
  rintro e w' ⟨A', cp', w1, rfl, hb, ho, hc, hw⟩
  obtain ⟨i1, i2, i3⟩ := WkI.next (q := rnQ q0 xs c0 c1 c2 c3 (k + 1)) hpg hg hB hp hb ho hc hw
  exact ⟨_, rfl, fun _ => rfl, ⟨hc.1, i1⟩, i2, i3⟩
theorem wk_guess (q0 : Stt) (xs : List Nat) (c0 c1 c2 c3 p g B0 k : Nat) (wr : World) (hm : q0.zs.length ≤ 1048576) (hpg : p ≠ g) (hg : g < wr.heap.size) (hB : B0 ≤ p) (hp : p < wr.heap.size) (h : WkI p g c0 c1 c2 c3 (rnQ q0 xs c0 c1 c2 c3 k) wr) :
    Calls Try.prog 70 #[.pointer (some ⟨p, 0, none⟩), .float .f32 (xs.getD k 0)] wr (TellB (rnG q0 xs c0 c1 c2 c3) (rnO q0 xs c0 c1 c2 c3) (fun k w => p < w.heap.size ∧ WkI p g c0 c1 c2 c3 (rnQ q0 xs c0 c1 c2 c3 k) w) B0 g k wr) := by
  obtain ⟨A, cp, h1, h2, h3⟩ := h
  refine (wguess_any p _ _ A _ cp _ _ c0 c1 c2 c3 (xs.getD k 0) wr h1 h2 (Nat.le_trans (rnQ_len _ _ _ _ _ _ _) hm)).mono ?_
  rintro e w' ⟨A', cp', w1, r, rfl, hr, hb, ho, hc, hw⟩
  obtain ⟨i1, i2, i3⟩ := WkI.next (q := rnQ q0 xs c0 c1 c2 c3 (k + 1)) hpg hg hB hp hb ho hc hw
  exact ⟨r, rfl, fun _ => hr, ⟨hc.1, i1⟩, i2, i3⟩
end Go.Proofs.Ytgddfhmddkhaeaa

/-
  MissesOf and GuessesOf of the program.
-/
namespace Go.Proofs.Ytgddfhmddkhaeaa
open Ieee Go.RowKit
set_option linter.unusedVariables false
/-- Whether a run through a series goes well; what is told of it. -/
def rnB (q : Stt) (xs : List Nat) (a b c d n : Nat) : Bool := serB xs && oks (rnO q xs a b c d) n
def rnL (tell : Nat → Nat) (b : Bool) (n : Nat) : List Nat := if b then tells tell n else []
/-- A list that was made, and whether all is well. -/
def RetRun (T : TypeId) (X : List Nat) (b : Bool) (w : World) (e : Ending) (w' : World) : Prop := ∃ v rs, e = .returned (.tuple #[v, .bool b]) ∧ FOwn T w.heap.size w' v rs ∧ cnl rs = X ∧ Below w.heap.size w w'
set_option maxHeartbeats 4000000 in
set_option maxRecDepth 100000 in
theorem imMisses_any (al : Option Addr) (ll cl : Nat) (xs : List Nat) (l s : Nat) (a : Option Addr) (len cap : Nat) (zs : List Nat) (t : Int) (c0 c1 c2 c3 : Nat) (w : World) (hx : FSl w al ll xs) (h : FSl w a len zs) (hml : ll ≤ 1048576) (hm : len ≤ 1048576) :
    Calls Try.prog 33 #[.slice al ll cl, .agg #[.float .f32 l, .float .f32 s, .slice a len cap, .int .i64 t], .agg #[.float .f32 c0, .float .f32 c1, .float .f32 c2, .float .f32 c3]] w (RetRun 22 (rnL (rnM ⟨l, s, zs, t⟩ xs c0 c1 c2 c3) (rnB ⟨l, s, zs, t⟩ xs c0 c1 c2 c3 ll) ll) (rnB ⟨l, s, zs, t⟩ xs c0 c1 c2 c3 ll) w) := by
  have hzl := h.1
  subst hzl
  have G := Lib.hid ((((Below.refl w.heap.size w).alloc (Nat.le_refl _) (.cells #[.float .f32 l, .float .f32 s, .slice a zs.length cap, .int .i64 t] 29)).alloc (by simp) (.cells #[.float .f32 c0, .float .f32 c1, .float .f32 c2, .float .f32 c3] 33)).alloc (by simp; omega) (.cells #[.float .f32 l, .float .f32 s, .slice a zs.length cap, .int .i64 t, .float .f32 c0, .float .f32 c1, .float .f32 c2, .float .f32 c3] 87))
  have HX := Lib.hid hx
  have HZ := Lib.hid (FSl.below h G.out)
  have HC := Lib.hid ((CIs.newAt w [.float .f32 l, .float .f32 s, .slice a zs.length cap, .int .i64 t] 29 rfl).alloc (.cells #[.float .f32 c0, .float .f32 c1, .float .f32 c2, .float .f32 c3] 33))
  have HD := Lib.hid (CIs.newAt (w.alloc (.cells #[.float .f32 l, .float .f32 s, .slice a zs.length cap, .int .i64 t] 29)) [.float .f32 c0, .float .f32 c1, .float .f32 c2, .float .f32 c3] 33 (p := w.heap.size + 1) (by simp))
  have HW := Lib.hid (CIs.newAt ((w.alloc (.cells #[.float .f32 l, .float .f32 s, .slice a zs.length cap, .int .i64 t] 29)).alloc (.cells #[.float .f32 c0, .float .f32 c1, .float .f32 c2, .float .f32 c3] 33)) [.float .f32 l, .float .f32 s, .slice a zs.length cap, .int .i64 t, .float .f32 c0, .float .f32 c1, .float .f32 c2, .float .f32 c3] 87 (p := w.heap.size + 1 + 1) (by simp))
  clear hx h
  obtain ⟨k0, k1, k2, k3⟩ := HC.out.c4
  obtain ⟨j0, j1, j2, j3⟩ := HD.out.c4
  go_enter Try.func33, Try.ntmps33
  go_wp2_with fail
  clear k0 k1 k2 k3 j0 j1 j2 j3 HC HD
  replace G := Lib.hid (show Below w.heap.size w (((w.alloc (.cells #[.float .f32 l, .float .f32 s, .slice a zs.length cap, .int .i64 t] 29)).alloc (.cells #[.float .f32 c0, .float .f32 c1, .float .f32 c2, .float .f32 c3] 33)).alloc (.cells #[.float .f32 l, .float .f32 s, .slice a zs.length cap, .int .i64 t, .float .f32 c0, .float .f32 c1, .float .f32 c2, .float .f32 c3] 87)) from G.out)
  replace HW := Lib.hid (show CIs (((w.alloc (.cells #[.float .f32 l, .float .f32 s, .slice a zs.length cap, .int .i64 t] 29)).alloc (.cells #[.float .f32 c0, .float .f32 c1, .float .f32 c2, .float .f32 c3] 33)).alloc (.cells #[.float .f32 l, .float .f32 s, .slice a zs.length cap, .int .i64 t, .float .f32 c0, .float .f32 c1, .float .f32 c2, .float .f32 c3] 87)) (w.heap.size + 1 + 1) [.float .f32 l, .float .f32 s, .slice a zs.length cap, .int .i64 t, .float .f32 c0, .float .f32 c1, .float .f32 c2, .float .f32 c3] from HW.out)
  generalize (((w.alloc (.cells #[.float .f32 l, .float .f32 s, .slice a zs.length cap, .int .i64 t] 29)).alloc (.cells #[.float .f32 c0, .float .f32 c1, .float .f32 c2, .float .f32 c3] 33)).alloc (.cells #[.float .f32 l, .float .f32 s, .slice a zs.length cap, .int .i64 t, .float .f32 c0, .float .f32 c1, .float .f32 c2, .float .f32 c3] 87)) = W3 at *
  have hp := HW.out.1
  cases hser : serB xs
  · have HB := Lib.hid (show (rnB ⟨l, s, zs, t⟩ xs c0 c1 c2 c3 ll) = false by unfold rnB; rw [hser]; rfl)
    refine (thr_no _ _ _ _ _ xs _ (FSl.below HX.out G.out) hml hser).mono ?_
    rintro e w' ⟨rfl, b⟩
    have HE := Lib.hid (G.out.trans (b.mono G.out.size))
    clear b hser
    go_wp2_with fail
    go_ret2
    exact ⟨_, [], by rw [HB.out]; rfl, FOwn.nil .., by rw [HB.out]; rfl, HE.out⟩
  · have HB := Lib.hid (show (rnB ⟨l, s, zs, t⟩ xs c0 c1 c2 c3 ll) = oks (rnO ⟨l, s, zs, t⟩ xs c0 c1 c2 c3) ll by unfold rnB; rw [hser]; rfl)
    refine (thr_any 69 (w.heap.size + 1 + 1) (rnM ⟨l, s, zs, t⟩ xs c0 c1 c2 c3) (rnO ⟨l, s, zs, t⟩ xs c0 c1 c2 c3) (fun k w' => w.heap.size + 1 + 1 < w'.heap.size ∧ WkI (w.heap.size + 1 + 1) W3.heap.size c0 c1 c2 c3 (rnQ ⟨l, s, zs, t⟩ xs c0 c1 c2 c3 k) w') w al ll cl xs W3 (enter_of Try.func69 (by kernel_rfl) rfl) HX.out G.out hml hser
      (fun wr hb => ⟨Nat.lt_of_lt_of_le hp hb.size, WkI.first (q := ⟨l, s, zs, t⟩) HW.out HZ.out hb⟩)
      (fun k wr j v hs hI => ⟨by simpa [World.setCell] using hI.1, hI.2.set (Nat.ne_of_lt hp) j v⟩)
      (fun k wr hk hs hI => wk_miss ⟨l, s, zs, t⟩ xs c0 c1 c2 c3 (w.heap.size + 1 + 1) W3.heap.size w.heap.size k wr hm (Nat.ne_of_lt hp) hs (by omega) hI.1 hI.2)).mono ?_
    rintro e w' ⟨v, rs, rfl, ho, h1, h2, hb⟩
    have HO := Lib.hid (FOwn.mono ho G.out.size)
    have HL := Lib.hid (show cnl rs = rnL (rnM ⟨l, s, zs, t⟩ xs c0 c1 c2 c3) (oks (rnO ⟨l, s, zs, t⟩ xs c0 c1 c2 c3) ll) ll by
      cases hk : oks (rnO ⟨l, s, zs, t⟩ xs c0 c1 c2 c3) ll
      · rw [h2 hk]; rfl
      · rw [(h1 hk).1]; rfl)
    have HE := Lib.hid (G.out.trans hb)
    clear ho h1 h2 hb hser
    go_wp2_with fail
    go_ret2
    exact ⟨v, rs, by rw [HB.out]; rfl, HO.out, by rw [HB.out]; exact HL.out, HE.out⟩
set_option maxHeartbeats 4000000 in
set_option maxRecDepth 100000 in
theorem imGuesses_any (al : Option Addr) (ll cl : Nat) (xs : List Nat) (l s : Nat) (a : Option Addr) (len cap : Nat) (zs : List Nat) (t : Int) (c0 c1 c2 c3 : Nat) (w : World) (hx : FSl w al ll xs) (h : FSl w a len zs) (hml : ll ≤ 1048576) (hm : len ≤ 1048576) :
    Calls Try.prog 30 #[.slice al ll cl, .agg #[.float .f32 l, .float .f32 s, .slice a len cap, .int .i64 t], .agg #[.float .f32 c0, .float .f32 c1, .float .f32 c2, .float .f32 c3]] w (RetRun 22 (rnL (rnG ⟨l, s, zs, t⟩ xs c0 c1 c2 c3) (rnB ⟨l, s, zs, t⟩ xs c0 c1 c2 c3 ll) ll) (rnB ⟨l, s, zs, t⟩ xs c0 c1 c2 c3 ll) w) := by
  have hzl := h.1
  subst hzl
  have G := Lib.hid ((((Below.refl w.heap.size w).alloc (Nat.le_refl _) (.cells #[.float .f32 l, .float .f32 s, .slice a zs.length cap, .int .i64 t] 29)).alloc (by simp) (.cells #[.float .f32 c0, .float .f32 c1, .float .f32 c2, .float .f32 c3] 33)).alloc (by simp; omega) (.cells #[.float .f32 l, .float .f32 s, .slice a zs.length cap, .int .i64 t, .float .f32 c0, .float .f32 c1, .float .f32 c2, .float .f32 c3] 87))
  have HX := Lib.hid hx
  have HZ := Lib.hid (FSl.below h G.out)
  have HC := Lib.hid ((CIs.newAt w [.float .f32 l, .float .f32 s, .slice a zs.length cap, .int .i64 t] 29 rfl).alloc (.cells #[.float .f32 c0, .float .f32 c1, .float .f32 c2, .float .f32 c3] 33))
  have HD := Lib.hid (CIs.newAt (w.alloc (.cells #[.float .f32 l, .float .f32 s, .slice a zs.length cap, .int .i64 t] 29)) [.float .f32 c0, .float .f32 c1, .float .f32 c2, .float .f32 c3] 33 (p := w.heap.size + 1) (by simp))
  have HW := Lib.hid (CIs.newAt ((w.alloc (.cells #[.float .f32 l, .float .f32 s, .slice a zs.length cap, .int .i64 t] 29)).alloc (.cells #[.float .f32 c0, .float .f32 c1, .float .f32 c2, .float .f32 c3] 33)) [.float .f32 l, .float .f32 s, .slice a zs.length cap, .int .i64 t, .float .f32 c0, .float .f32 c1, .float .f32 c2, .float .f32 c3] 87 (p := w.heap.size + 1 + 1) (by simp))
  clear hx h
  obtain ⟨k0, k1, k2, k3⟩ := HC.out.c4
  obtain ⟨j0, j1, j2, j3⟩ := HD.out.c4
  go_enter Try.func30, Try.ntmps30
  go_wp2_with fail
  clear k0 k1 k2 k3 j0 j1 j2 j3 HC HD
  replace G := Lib.hid (show Below w.heap.size w (((w.alloc (.cells #[.float .f32 l, .float .f32 s, .slice a zs.length cap, .int .i64 t] 29)).alloc (.cells #[.float .f32 c0, .float .f32 c1, .float .f32 c2, .float .f32 c3] 33)).alloc (.cells #[.float .f32 l, .float .f32 s, .slice a zs.length cap, .int .i64 t, .float .f32 c0, .float .f32 c1, .float .f32 c2, .float .f32 c3] 87)) from G.out)
  replace HW := Lib.hid (show CIs (((w.alloc (.cells #[.float .f32 l, .float .f32 s, .slice a zs.length cap, .int .i64 t] 29)).alloc (.cells #[.float .f32 c0, .float .f32 c1, .float .f32 c2, .float .f32 c3] 33)).alloc (.cells #[.float .f32 l, .float .f32 s, .slice a zs.length cap, .int .i64 t, .float .f32 c0, .float .f32 c1, .float .f32 c2, .float .f32 c3] 87)) (w.heap.size + 1 + 1) [.float .f32 l, .float .f32 s, .slice a zs.length cap, .int .i64 t, .float .f32 c0, .float .f32 c1, .float .f32 c2, .float .f32 c3] from HW.out)
  generalize (((w.alloc (.cells #[.float .f32 l, .float .f32 s, .slice a zs.length cap, .int .i64 t] 29)).alloc (.cells #[.float .f32 c0, .float .f32 c1, .float .f32 c2, .float .f32 c3] 33)).alloc (.cells #[.float .f32 l, .float .f32 s, .slice a zs.length cap, .int .i64 t, .float .f32 c0, .float .f32 c1, .float .f32 c2, .float .f32 c3] 87)) = W3 at *
  have hp := HW.out.1
  cases hser : serB xs
  · have HB := Lib.hid (show (rnB ⟨l, s, zs, t⟩ xs c0 c1 c2 c3 ll) = false by unfold rnB; rw [hser]; rfl)
    refine (thr_no _ _ _ _ _ xs _ (FSl.below HX.out G.out) hml hser).mono ?_
    rintro e w' ⟨rfl, b⟩
    have HE := Lib.hid (G.out.trans (b.mono G.out.size))
    clear b hser
    go_wp2_with fail
    go_ret2
    exact ⟨_, [], by rw [HB.out]; rfl, FOwn.nil .., by rw [HB.out]; rfl, HE.out⟩
  · have HB := Lib.hid (show (rnB ⟨l, s, zs, t⟩ xs c0 c1 c2 c3 ll) = oks (rnO ⟨l, s, zs, t⟩ xs c0 c1 c2 c3) ll by unfold rnB; rw [hser]; rfl)
    refine (thr_any 70 (w.heap.size + 1 + 1) (rnG ⟨l, s, zs, t⟩ xs c0 c1 c2 c3) (rnO ⟨l, s, zs, t⟩ xs c0 c1 c2 c3) (fun k w' => w.heap.size + 1 + 1 < w'.heap.size ∧ WkI (w.heap.size + 1 + 1) W3.heap.size c0 c1 c2 c3 (rnQ ⟨l, s, zs, t⟩ xs c0 c1 c2 c3 k) w') w al ll cl xs W3 (enter_of Try.func70 (by kernel_rfl) rfl) HX.out G.out hml hser
      (fun wr hb => ⟨Nat.lt_of_lt_of_le hp hb.size, WkI.first (q := ⟨l, s, zs, t⟩) HW.out HZ.out hb⟩)
      (fun k wr j v hs hI => ⟨by simpa [World.setCell] using hI.1, hI.2.set (Nat.ne_of_lt hp) j v⟩)
      (fun k wr hk hs hI => wk_guess ⟨l, s, zs, t⟩ xs c0 c1 c2 c3 (w.heap.size + 1 + 1) W3.heap.size w.heap.size k wr hm (Nat.ne_of_lt hp) hs (by omega) hI.1 hI.2)).mono ?_
    rintro e w' ⟨v, rs, rfl, ho, h1, h2, hb⟩
    have HO := Lib.hid (FOwn.mono ho G.out.size)
    have HL := Lib.hid (show cnl rs = rnL (rnG ⟨l, s, zs, t⟩ xs c0 c1 c2 c3) (oks (rnO ⟨l, s, zs, t⟩ xs c0 c1 c2 c3) ll) ll by
      cases hk : oks (rnO ⟨l, s, zs, t⟩ xs c0 c1 c2 c3) ll
      · rw [h2 hk]; rfl
      · rw [(h1 hk).1]; rfl)
    have HE := Lib.hid (G.out.trans hb)
    clear ho h1 h2 hb hser
    go_wp2_with fail
    go_ret2
    exact ⟨v, rs, by rw [HB.out]; rfl, HO.out, by rw [HB.out]; exact HL.out, HE.out⟩
end Go.Proofs.Ytgddfhmddkhaeaa

/-
  RunStates of the program.
-/
namespace Go.Proofs.Ytgddfhmddkhaeaa
open Ieee Go.RowKit
set_option linter.unusedVariables false
/-- A walk stands in block p, its season its own, behind block g. -/
def WkO (T : TypeId) (p g c0 c1 c2 c3 : Nat) (q : Stt) (w : World) : Prop :=
  ∃ A cp, CIs w p [.float .f32 q.l, .float .f32 q.s, .slice A q.zs.length cp, .int .i64 q.t, .float .f32 c0, .float .f32 c1, .float .f32 c2, .float .f32 c3] ∧ FOwn T (g + 1) w (.slice A q.zs.length cp) q.zs
theorem WkO.set {T : TypeId} {p g c0 c1 c2 c3 : Nat} {q : Stt} {w : World} (h : WkO T p g c0 c1 c2 c3 q w) (hpg : p ≠ g) (j : Nat) (v : Value) : WkO T p g c0 c1 c2 c3 q (w.setCell ⟨g, j, none⟩ v) := by
  obtain ⟨A, cp, h1, h2⟩ := h
  exact ⟨A, cp, h1.set hpg, own_else h2 (own_far h2 (Nat.lt_succ_self g)) j v⟩
theorem wk_missO (q0 : Stt) (xs : List Nat) (c0 c1 c2 c3 p g B0 k : Nat) (wr : World) (hm : q0.zs.length ≤ 1048576) (hpg : p ≠ g) (hg : g < wr.heap.size) (hB : B0 ≤ p) (hp : p < wr.heap.size) (h : WkI p g c0 c1 c2 c3 (rnQ q0 xs c0 c1 c2 c3 k) wr) :
    Calls Try.prog 69 #[.pointer (some ⟨p, 0, none⟩), .float .f32 (xs.getD k 0)] wr (TellB (rnM q0 xs c0 c1 c2 c3) (rnO q0 xs c0 c1 c2 c3) (fun k w => (p < w.heap.size ∧ WkI p g c0 c1 c2 c3 (rnQ q0 xs c0 c1 c2 c3 k) w) ∧ (0 < k → WkO 22 p g c0 c1 c2 c3 (rnQ q0 xs c0 c1 c2 c3 k) w)) B0 g k wr) := by
  obtain ⟨A, cp, h1, h2, h3⟩ := h
  refine (wmiss_any p _ _ A _ cp _ _ c0 c1 c2 c3 (xs.getD k 0) wr h1 h2 (Nat.le_trans (rnQ_len _ _ _ _ _ _ _) hm)).mono ?_
  rintro e w' ⟨A', cp', w1, rfl, hb, ho, hc, hw⟩
  obtain ⟨i1, i2, i3⟩ := WkI.next (q := rnQ q0 xs c0 c1 c2 c3 (k + 1)) hpg hg hB hp hb ho hc hw
  exact ⟨_, rfl, fun _ => rfl, ⟨⟨hc.1, i1⟩, fun _ => ⟨A', cp', hc, FOwn.mono hw hg⟩⟩, i2, i3⟩
/-- What a run leaves. -/
def rnS (q : Stt) (xs : List Nat) (a b c d n : Nat) : Stt := if rnB q xs a b c d n then rnQ q xs a b c d n else ⟨0, 0, [], 0⟩
set_option maxHeartbeats 4000000 in
set_option maxRecDepth 100000 in
theorem imRuns_any (al : Option Addr) (ll cl : Nat) (xs : List Nat) (l s : Nat) (a : Option Addr) (len cap : Nat) (zs : List Nat) (t : Int) (c0 c1 c2 c3 : Nat) (w : World) (hx : FSl w al ll xs) (h : FSl w a len zs) (hml : ll ≤ 1048576) (hm : len ≤ 1048576) :
    Calls Try.prog 26 #[.slice al ll cl, .agg #[.float .f32 l, .float .f32 s, .slice a len cap, .int .i64 t], .agg #[.float .f32 c0, .float .f32 c1, .float .f32 c2, .float .f32 c3]] w fun e w' => ∃ A cp, e = .returned (.tuple #[.agg #[.float .f32 (rnS ⟨l, s, zs, t⟩ xs c0 c1 c2 c3 ll).l, .float .f32 (rnS ⟨l, s, zs, t⟩ xs c0 c1 c2 c3 ll).s, .slice A (rnS ⟨l, s, zs, t⟩ xs c0 c1 c2 c3 ll).zs.length cp, .int .i64 (rnS ⟨l, s, zs, t⟩ xs c0 c1 c2 c3 ll).t], .bool (rnB ⟨l, s, zs, t⟩ xs c0 c1 c2 c3 ll)]) ∧ FOwn 22 w.heap.size w' (.slice A (rnS ⟨l, s, zs, t⟩ xs c0 c1 c2 c3 ll).zs.length cp) (rnS ⟨l, s, zs, t⟩ xs c0 c1 c2 c3 ll).zs ∧ Below w.heap.size w w' := by
  have HRES := Lib.hid (show Try.f26.results = #[.cell 6 29, .tmp 7] by kernel_rfl)
  have hzl := h.1
  have hxl := hx.1
  subst hzl
  have G := Lib.hid (((((Below.refl w.heap.size w).alloc (Nat.le_refl _) (.cells #[.float .f32 l, .float .f32 s, .slice a zs.length cap, .int .i64 t] 29)).alloc (by simp) (.cells #[.float .f32 c0, .float .f32 c1, .float .f32 c2, .float .f32 c3] 33)).alloc (by simp; omega) (.cells #[.float .f32 0, .float .f32 0, .slice none 0 0, .int .i64 0] 29)).alloc (by simp; omega) (.cells #[.float .f32 l, .float .f32 s, .slice a zs.length cap, .int .i64 t, .float .f32 c0, .float .f32 c1, .float .f32 c2, .float .f32 c3] 87))
  have HX := Lib.hid hx
  have HZ := Lib.hid (FSl.below h G.out)
  have HC := Lib.hid (((CIs.newAt w [.float .f32 l, .float .f32 s, .slice a zs.length cap, .int .i64 t] 29 rfl).alloc (.cells #[.float .f32 c0, .float .f32 c1, .float .f32 c2, .float .f32 c3] 33)).alloc (.cells #[.float .f32 0, .float .f32 0, .slice none 0 0, .int .i64 0] 29))
  have HD := Lib.hid ((CIs.newAt (w.alloc (.cells #[.float .f32 l, .float .f32 s, .slice a zs.length cap, .int .i64 t] 29)) [.float .f32 c0, .float .f32 c1, .float .f32 c2, .float .f32 c3] 33 (p := w.heap.size + 1) (by simp)).alloc (.cells #[.float .f32 0, .float .f32 0, .slice none 0 0, .int .i64 0] 29))
  have HO := Lib.hid ((CIs.newAt ((w.alloc (.cells #[.float .f32 l, .float .f32 s, .slice a zs.length cap, .int .i64 t] 29)).alloc (.cells #[.float .f32 c0, .float .f32 c1, .float .f32 c2, .float .f32 c3] 33)) [.float .f32 0, .float .f32 0, .slice none 0 0, .int .i64 0] 29 (p := w.heap.size + 1 + 1) (by simp)).alloc (.cells #[.float .f32 l, .float .f32 s, .slice a zs.length cap, .int .i64 t, .float .f32 c0, .float .f32 c1, .float .f32 c2, .float .f32 c3] 87))
  have HW := Lib.hid (CIs.newAt (((w.alloc (.cells #[.float .f32 l, .float .f32 s, .slice a zs.length cap, .int .i64 t] 29)).alloc (.cells #[.float .f32 c0, .float .f32 c1, .float .f32 c2, .float .f32 c3] 33)).alloc (.cells #[.float .f32 0, .float .f32 0, .slice none 0 0, .int .i64 0] 29)) [.float .f32 l, .float .f32 s, .slice a zs.length cap, .int .i64 t, .float .f32 c0, .float .f32 c1, .float .f32 c2, .float .f32 c3] 87 (p := w.heap.size + 1 + 1 + 1) (by simp))
  clear hx h
  obtain ⟨k0, k1, k2, k3⟩ := HC.out.c4
  obtain ⟨j0, j1, j2, j3⟩ := HD.out.c4
  go_enter Try.func26, Try.ntmps26
  go_wp2_with fail
  clear k0 k1 k2 k3 j0 j1 j2 j3 HC HD
  replace G := Lib.hid (show Below w.heap.size w ((((w.alloc (.cells #[.float .f32 l, .float .f32 s, .slice a zs.length cap, .int .i64 t] 29)).alloc (.cells #[.float .f32 c0, .float .f32 c1, .float .f32 c2, .float .f32 c3] 33)).alloc (.cells #[.float .f32 0, .float .f32 0, .slice none 0 0, .int .i64 0] 29)).alloc (.cells #[.float .f32 l, .float .f32 s, .slice a zs.length cap, .int .i64 t, .float .f32 c0, .float .f32 c1, .float .f32 c2, .float .f32 c3] 87)) from G.out)
  replace HO := Lib.hid (show CIs ((((w.alloc (.cells #[.float .f32 l, .float .f32 s, .slice a zs.length cap, .int .i64 t] 29)).alloc (.cells #[.float .f32 c0, .float .f32 c1, .float .f32 c2, .float .f32 c3] 33)).alloc (.cells #[.float .f32 0, .float .f32 0, .slice none 0 0, .int .i64 0] 29)).alloc (.cells #[.float .f32 l, .float .f32 s, .slice a zs.length cap, .int .i64 t, .float .f32 c0, .float .f32 c1, .float .f32 c2, .float .f32 c3] 87)) (w.heap.size + 1 + 1) [.float .f32 0, .float .f32 0, .slice none 0 0, .int .i64 0] from HO.out)
  replace HW := Lib.hid (show CIs ((((w.alloc (.cells #[.float .f32 l, .float .f32 s, .slice a zs.length cap, .int .i64 t] 29)).alloc (.cells #[.float .f32 c0, .float .f32 c1, .float .f32 c2, .float .f32 c3] 33)).alloc (.cells #[.float .f32 0, .float .f32 0, .slice none 0 0, .int .i64 0] 29)).alloc (.cells #[.float .f32 l, .float .f32 s, .slice a zs.length cap, .int .i64 t, .float .f32 c0, .float .f32 c1, .float .f32 c2, .float .f32 c3] 87)) (w.heap.size + 1 + 1 + 1) [.float .f32 l, .float .f32 s, .slice a zs.length cap, .int .i64 t, .float .f32 c0, .float .f32 c1, .float .f32 c2, .float .f32 c3] from HW.out)
  have hW2 : (((w.alloc (.cells #[.float .f32 l, .float .f32 s, .slice a zs.length cap, .int .i64 t] 29)).alloc (.cells #[.float .f32 c0, .float .f32 c1, .float .f32 c2, .float .f32 c3] 33)).alloc (.cells #[.float .f32 0, .float .f32 0, .slice none 0 0, .int .i64 0] 29)).heap.size = w.heap.size + 1 + 1 + 1 := by simp
  have HXB := Lib.hid ((((Below.refl w.heap.size w).alloc (Nat.le_refl _) (.cells #[.float .f32 l, .float .f32 s, .slice a zs.length cap, .int .i64 t] 29)).alloc (by simp) (.cells #[.float .f32 c0, .float .f32 c1, .float .f32 c2, .float .f32 c3] 33)).alloc (by simp; omega) (.cells #[.float .f32 0, .float .f32 0, .slice none 0 0, .int .i64 0] 29))
  have HX2 := Lib.hid (FSl.below HX.out HXB.out)
  clear HXB
  generalize (((w.alloc (.cells #[.float .f32 l, .float .f32 s, .slice a zs.length cap, .int .i64 t] 29)).alloc (.cells #[.float .f32 c0, .float .f32 c1, .float .f32 c2, .float .f32 c3] 33)).alloc (.cells #[.float .f32 0, .float .f32 0, .slice none 0 0, .int .i64 0] 29)) = W2 at *
  have HB23 := Lib.hid ((Below.refl W2.heap.size W2).alloc (Nat.le_refl _) (.cells #[.float .f32 l, .float .f32 s, .slice a zs.length cap, .int .i64 t, .float .f32 c0, .float .f32 c1, .float .f32 c2, .float .f32 c3] 87))
  generalize (W2.alloc (.cells #[.float .f32 l, .float .f32 s, .slice a zs.length cap, .int .i64 t, .float .f32 c0, .float .f32 c1, .float .f32 c2, .float .f32 c3] 87)) = W3 at *
  have hp := HW.out.1
  cases hser : serB xs
  · have HB := Lib.hid (show (rnB ⟨l, s, zs, t⟩ xs c0 c1 c2 c3 ll) = false by unfold rnB; rw [hser]; rfl)
    have HS := Lib.hid (show rnS ⟨l, s, zs, t⟩ xs c0 c1 c2 c3 ll = ⟨0, 0, [], 0⟩ by unfold rnS; rw [HB.out]; rfl)
    refine (thr_no _ _ _ _ _ xs _ (FSl.below HX.out G.out) hml hser).mono ?_
    rintro e w' ⟨rfl, b⟩
    have HE := Lib.hid (G.out.trans (b.mono G.out.size))
    replace HO := Lib.hid (HO.out.below b)
    clear b hser
    obtain ⟨g0, g1, g2, g3⟩ := HO.out.c4
    obtain ⟨f0, f1, f2, f3⟩ := HO.out.f4
    go_wp2_with fail
    have GF := Lib.hid ((((HE.out.setCell (p := ⟨w.heap.size + 1 + 1, 0, none⟩) (by show w.heap.size ≤ w.heap.size + 1 + 1; omega) (.float .f32 0)).setCell (p := ⟨w.heap.size + 1 + 1, 1, none⟩) (by show w.heap.size ≤ w.heap.size + 1 + 1; omega) (.float .f32 0)).setCell (p := ⟨w.heap.size + 1 + 1, 2, none⟩) (by show w.heap.size ≤ w.heap.size + 1 + 1; omega) (.slice none 0 0)).setCell (p := ⟨w.heap.size + 1 + 1, 3, none⟩) (by show w.heap.size ≤ w.heap.size + 1 + 1; omega) (.int .i64 0))
    refine bodyPost_ret (v := .tuple #[.agg #[.float .f32 0, .float .f32 0, .slice none 0 0, .int .i64 0], .bool false]) ?_ rfl ?_
    · have hres := HRES.out
      simp only [results, hres]
      go_simp
    · exact ⟨none, 0, by rw [HS.out, HB.out]; rfl, by rw [HS.out]; exact FOwn.nil _ _ _, GF.out⟩
  · have HB := Lib.hid (show (rnB ⟨l, s, zs, t⟩ xs c0 c1 c2 c3 ll) = oks (rnO ⟨l, s, zs, t⟩ xs c0 c1 c2 c3) ll by unfold rnB; rw [hser]; rfl)
    have hl0 : 0 < ll := by have := (serB_t hser).1; omega
    refine (thr_any 69 (w.heap.size + 1 + 1 + 1) (rnM ⟨l, s, zs, t⟩ xs c0 c1 c2 c3) (rnO ⟨l, s, zs, t⟩ xs c0 c1 c2 c3) (fun k w' => (w.heap.size + 1 + 1 + 1 < w'.heap.size ∧ WkI (w.heap.size + 1 + 1 + 1) W3.heap.size c0 c1 c2 c3 (rnQ ⟨l, s, zs, t⟩ xs c0 c1 c2 c3 k) w') ∧ (0 < k → WkO 22 (w.heap.size + 1 + 1 + 1) W3.heap.size c0 c1 c2 c3 (rnQ ⟨l, s, zs, t⟩ xs c0 c1 c2 c3 k) w')) W2 al ll cl xs W3 (enter_of Try.func69 (by kernel_rfl) rfl) HX2.out HB23.out hml hser
      (fun wr hb => ⟨⟨Nat.lt_of_lt_of_le hp hb.size, WkI.first (q := ⟨l, s, zs, t⟩) HW.out HZ.out hb⟩, fun h0 => absurd h0 (Nat.lt_irrefl 0)⟩)
      (fun k wr j v hs hI => ⟨⟨by simpa [World.setCell] using hI.1.1, hI.1.2.set (Nat.ne_of_lt hp) j v⟩, fun h0 => (hI.2 h0).set (Nat.ne_of_lt hp) j v⟩)
      (fun k wr hk hs hI => wk_missO ⟨l, s, zs, t⟩ xs c0 c1 c2 c3 (w.heap.size + 1 + 1 + 1) W3.heap.size W2.heap.size k wr hm (Nat.ne_of_lt hp) hs (by omega) hI.1.1 hI.1.2)).mono ?_
    rintro e w' ⟨v, rs, rfl, ho, h1, h2, hb⟩
    have HE := Lib.hid (G.out.trans (hb.mono (show w.heap.size ≤ W2.heap.size by omega)))
    replace HO := Lib.hid (HO.out.belowB hb (by omega))
    clear hb ho h2 hser
    cases hk : oks (rnO ⟨l, s, zs, t⟩ xs c0 c1 c2 c3) ll
    · replace HB := Lib.hid (HB.out.trans hk)
      have HS := Lib.hid (show rnS ⟨l, s, zs, t⟩ xs c0 c1 c2 c3 ll = ⟨0, 0, [], 0⟩ by unfold rnS; rw [HB.out]; rfl)
      clear h1 hk
      obtain ⟨g0, g1, g2, g3⟩ := HO.out.c4
      obtain ⟨f0, f1, f2, f3⟩ := HO.out.f4
      go_wp2_with fail
      have GF := Lib.hid ((((HE.out.setCell (p := ⟨w.heap.size + 1 + 1, 0, none⟩) (by show w.heap.size ≤ w.heap.size + 1 + 1; omega) (.float .f32 0)).setCell (p := ⟨w.heap.size + 1 + 1, 1, none⟩) (by show w.heap.size ≤ w.heap.size + 1 + 1; omega) (.float .f32 0)).setCell (p := ⟨w.heap.size + 1 + 1, 2, none⟩) (by show w.heap.size ≤ w.heap.size + 1 + 1; omega) (.slice none 0 0)).setCell (p := ⟨w.heap.size + 1 + 1, 3, none⟩) (by show w.heap.size ≤ w.heap.size + 1 + 1; omega) (.int .i64 0))
      refine bodyPost_ret (v := .tuple #[.agg #[.float .f32 0, .float .f32 0, .slice none 0 0, .int .i64 0], .bool false]) ?_ rfl ?_
      · have hres := HRES.out
        simp only [results, hres]
        go_simp
      · exact ⟨none, 0, by rw [HS.out, HB.out]; rfl, by rw [HS.out]; exact FOwn.nil _ _ _, GF.out⟩
    · replace HB := Lib.hid (HB.out.trans hk)
      have HS := Lib.hid (show rnS ⟨l, s, zs, t⟩ xs c0 c1 c2 c3 ll = rnQ ⟨l, s, zs, t⟩ xs c0 c1 c2 c3 ll by unfold rnS; rw [HB.out]; rfl)
      obtain ⟨A, cp, hc, hw⟩ := (h1 hk).2.2 hl0
      have HCW := Lib.hid hc
      have HOW := Lib.hid hw
      clear h1 hk hc hw
      obtain ⟨k0, k1, k2, k3, k4, k5, k6, k7⟩ := HCW.out.c8
      obtain ⟨g0, g1, g2, g3⟩ := HO.out.c4
      obtain ⟨f0, f1, f2, f3⟩ := HO.out.f4
      have hne := own_far HOW.out (show w.heap.size + 1 + 1 < W3.heap.size + 1 by omega)
      have HOF := Lib.hid (own_else (own_else (own_else (own_else HOW.out hne 0 (.float .f32 (rnQ ⟨l, s, zs, t⟩ xs c0 c1 c2 c3 ll).l)) hne 1 (.float .f32 (rnQ ⟨l, s, zs, t⟩ xs c0 c1 c2 c3 ll).s)) hne 2 (.slice A (rnQ ⟨l, s, zs, t⟩ xs c0 c1 c2 c3 ll).zs.length cp)) hne 3 (.int .i64 (rnQ ⟨l, s, zs, t⟩ xs c0 c1 c2 c3 ll).t))
      have GF := Lib.hid ((((HE.out.setCell (p := ⟨w.heap.size + 1 + 1, 0, none⟩) (by show w.heap.size ≤ w.heap.size + 1 + 1; omega) (.float .f32 (rnQ ⟨l, s, zs, t⟩ xs c0 c1 c2 c3 ll).l)).setCell (p := ⟨w.heap.size + 1 + 1, 1, none⟩) (by show w.heap.size ≤ w.heap.size + 1 + 1; omega) (.float .f32 (rnQ ⟨l, s, zs, t⟩ xs c0 c1 c2 c3 ll).s)).setCell (p := ⟨w.heap.size + 1 + 1, 2, none⟩) (by show w.heap.size ≤ w.heap.size + 1 + 1; omega) (.slice A (rnQ ⟨l, s, zs, t⟩ xs c0 c1 c2 c3 ll).zs.length cp)).setCell (p := ⟨w.heap.size + 1 + 1, 3, none⟩) (by show w.heap.size ≤ w.heap.size + 1 + 1; omega) (.int .i64 (rnQ ⟨l, s, zs, t⟩ xs c0 c1 c2 c3 ll).t))
      clear hne
      go_wp2_with fail
      refine bodyPost_ret (v := .tuple #[.agg #[.float .f32 (rnQ ⟨l, s, zs, t⟩ xs c0 c1 c2 c3 ll).l, .float .f32 (rnQ ⟨l, s, zs, t⟩ xs c0 c1 c2 c3 ll).s, .slice A (rnQ ⟨l, s, zs, t⟩ xs c0 c1 c2 c3 ll).zs.length cp, .int .i64 (rnQ ⟨l, s, zs, t⟩ xs c0 c1 c2 c3 ll).t], .bool true]) ?_ rfl ?_
      · have hres := HRES.out
        simp only [results, hres]
        go_simp
      · exact ⟨A, cp, by rw [HS.out, HB.out], by rw [HS.out]; exact FOwn.mono HOF.out (by omega), GF.out⟩
end Go.Proofs.Ytgddfhmddkhaeaa

/-
  A run through a series by the model.
-/
namespace Go.Proofs.Ytgddfhmddkhaeaa
open Ieee Go.RowKit
set_option linter.unusedVariables false
theorem rnB_can {q : Stt} {xs : List Nat} {a b c d n : Nat} (hx : xs.length = n) (h : (stOk q && shB4 a b c d) = false) : rnB q xs a b c d n = false := by
  unfold rnB
  cases hs : serB xs
  · rfl
  · have h1 := (serB_t hs).1
    rw [Bool.true_and]
    refine oks_bad (k := 0) (by omega) ?_
    show stpB q a b c d (xs.getD 0 0) = false
    unfold stpB
    rw [h]; rfl
/-- What the model's run gives: the state behind it, the guesses, the misses. -/
def RetR4 (T : TypeId) (q : Stt) (xs : List Nat) (a b c d n : Nat) (w : World) (e : Ending) (w' : World) : Prop :=
  ∃ A cp vG vM rG rM, e = .returned (.tuple #[.agg #[.float .f32 (rnS q xs a b c d n).l, .float .f32 (rnS q xs a b c d n).s, .slice A (rnS q xs a b c d n).zs.length cp, .int .i64 (rnS q xs a b c d n).t], vG, vM, .bool (rnB q xs a b c d n)]) ∧
    FOwn T w.heap.size w' (.slice A (rnS q xs a b c d n).zs.length cp) (rnS q xs a b c d n).zs ∧ FOwn T w.heap.size w' vG rG ∧ FOwn T w.heap.size w' vM rM ∧
    cnl rG = rnL (rnG q xs a b c d) (rnB q xs a b c d n) n ∧ cnl rM = rnL (rnM q xs a b c d) (rnB q xs a b c d n) n ∧ Below w.heap.size w w'
theorem r4_no {T : TypeId} {q : Stt} {xs : List Nat} {a b c d n : Nat} {w w' : World} (h : rnB q xs a b c d n = false) (hb : Below w.heap.size w w') :
    RetR4 T q xs a b c d n w (.returned (.tuple #[.agg #[.float .f32 0, .float .f32 0, .slice none 0 0, .int .i64 0], .slice none 0 0, .slice none 0 0, .bool false])) w' := by
  have hs : rnS q xs a b c d n = ⟨0, 0, [], 0⟩ := by unfold rnS; rw [h]; rfl
  refine ⟨none, 0, .slice none 0 0, .slice none 0 0, [], [], by rw [hs, h]; rfl, by rw [hs]; exact FOwn.nil _ _ _, FOwn.nil _ _ _, FOwn.nil _ _ _, ?_, ?_, hb⟩
  · rw [h]; rfl
  · rw [h]; rfl
set_option maxHeartbeats 4000000 in
set_option maxRecDepth 100000 in
theorem spRun_can (p q : Nat) (al : Option Addr) (ll cl : Nat) (xs : List Nat) (l s : Nat) (a : Option Addr) (len cap : Nat) (zs : List Nat) (t : Int) (c0 c1 c2 c3 : Nat) (w : World) (hin : StIn w p l s a len cap t) (hsh : ShIn w q c0 c1 c2 c3) (hx : FSl w al ll xs) (h : FSl w a len zs) (hml : ll ≤ 1048576) (hm : len ≤ 1048576) (hc : (stB l s zs t && shB4 c0 c1 c2 c3) = false) :
    Calls Try.prog 67 #[.slice al ll cl, .pointer (some ⟨p, 0, none⟩), .pointer (some ⟨q, 0, none⟩)] w (RetR4 22 ⟨l, s, zs, t⟩ xs c0 c1 c2 c3 ll w) := by
  have HRES := Lib.hid (show Try.f67.results = #[.cell 6 29, .tmp 7, .tmp 8, .tmp 9] by kernel_rfl)
  have HB := Lib.hid (rnB_can (q := ⟨l, s, zs, t⟩) (a := c0) (b := c1) (c := c2) (d := c3) hx.1 hc)
  have al0 := (Below.refl w.heap.size w).alloc (Nat.le_refl _) (.cells #[.float .f32 0, .float .f32 0, .slice none 0 0, .int .i64 0] 29)
  have G := Lib.hid al0
  have HS := Lib.hid (hin.below al0)
  have HH := Lib.hid (hsh.below al0)
  have HZ := Lib.hid (FSl.below h al0)
  have HO := Lib.hid (CIs.newAt w [.float .f32 0, .float .f32 0, .slice none 0 0, .int .i64 0] 29 (p := w.heap.size) rfl)
  have HV := Lib.hid hc
  clear hin hsh h al0 hc hx
  go_enter Try.func67, Try.ntmps67
  go_wp2_with fail
  refine (spCan_any _ _ _ _ _ _ _ _ _ _ _ _ _ _ HS.out HH.out HZ.out hm).mono ?_
  rw [HV.out]
  rintro e w' ⟨m, rfl, rfl⟩
  replace G := Lib.hid (below_drewN G.out m)
  replace HO := Lib.hid (HO.out.drewN m)
  generalize (w.alloc (.cells #[.float .f32 0, .float .f32 0, .slice none 0 0, .int .i64 0] 29)).drewN m = W1 at *
  obtain ⟨g0, g1, g2, g3⟩ := HO.out.c4
  obtain ⟨f0, f1, f2, f3⟩ := HO.out.f4
  go_wp2_with fail
  have GF := Lib.hid ((((G.out.setCell (p := ⟨w.heap.size, 0, none⟩) (Nat.le_refl _) (.float .f32 0)).setCell (p := ⟨w.heap.size, 1, none⟩) (Nat.le_refl _) (.float .f32 0)).setCell (p := ⟨w.heap.size, 2, none⟩) (Nat.le_refl _) (.slice none 0 0)).setCell (p := ⟨w.heap.size, 3, none⟩) (Nat.le_refl _) (.int .i64 0))
  refine bodyPost_ret (v := .tuple #[.agg #[.float .f32 0, .float .f32 0, .slice none 0 0, .int .i64 0], .slice none 0 0, .slice none 0 0, .bool false]) ?_ rfl ?_
  · have hres := HRES.out
    simp only [results, hres]
    go_simp
  · exact r4_no HB.out GF.out
set_option maxHeartbeats 4000000 in
set_option maxRecDepth 100000 in
theorem spRun_ser (p q : Nat) (al : Option Addr) (ll cl : Nat) (xs : List Nat) (l s : Nat) (a : Option Addr) (len cap : Nat) (zs : List Nat) (t : Int) (c0 c1 c2 c3 : Nat) (w : World) (hin : StIn w p l s a len cap t) (hsh : ShIn w q c0 c1 c2 c3) (hx : FSl w al ll xs) (h : FSl w a len zs) (hml : ll ≤ 1048576) (hm : len ≤ 1048576) (hc : (stB l s zs t && shB4 c0 c1 c2 c3) = true) (hs : serB xs = false) :
    Calls Try.prog 67 #[.slice al ll cl, .pointer (some ⟨p, 0, none⟩), .pointer (some ⟨q, 0, none⟩)] w (RetR4 22 ⟨l, s, zs, t⟩ xs c0 c1 c2 c3 ll w) := by
  have HRES := Lib.hid (show Try.f67.results = #[.cell 6 29, .tmp 7, .tmp 8, .tmp 9] by kernel_rfl)
  have HB := Lib.hid (show rnB ⟨l, s, zs, t⟩ xs c0 c1 c2 c3 ll = false by unfold rnB; rw [hs]; rfl)
  have HSR := Lib.hid hs
  have al0 := (Below.refl w.heap.size w).alloc (Nat.le_refl _) (.cells #[.float .f32 0, .float .f32 0, .slice none 0 0, .int .i64 0] 29)
  have G := Lib.hid al0
  have HS := Lib.hid (hin.below al0)
  have HH := Lib.hid (hsh.below al0)
  have HZ := Lib.hid (FSl.below h al0)
  have HX := Lib.hid (FSl.below hx al0)
  have HO := Lib.hid (CIs.newAt w [.float .f32 0, .float .f32 0, .slice none 0 0, .int .i64 0] 29 (p := w.heap.size) rfl)
  have HV := Lib.hid hc
  clear hin hsh h al0 hc hx hs
  go_enter Try.func67, Try.ntmps67
  go_wp2_with fail
  refine (spCan_any _ _ _ _ _ _ _ _ _ _ _ _ _ _ HS.out HH.out HZ.out hm).mono ?_
  rw [HV.out]
  rintro e w' ⟨m, rfl, rfl⟩
  replace G := Lib.hid (below_drewN G.out m)
  replace HO := Lib.hid (HO.out.drewN m)
  replace HX := Lib.hid (FSl.drewN HX.out m)
  generalize (w.alloc (.cells #[.float .f32 0, .float .f32 0, .slice none 0 0, .int .i64 0] 29)).drewN m = W1 at *
  go_wp2_with fail
  refine (specSeries_any _ _ _ xs _ HX.out hml).mono ?_
  rw [HSR.out]
  rintro e w' ⟨m2, rfl, rfl⟩
  replace G := Lib.hid (below_drewN G.out m2)
  replace HO := Lib.hid (HO.out.drewN m2)
  generalize W1.drewN m2 = W2 at *
  obtain ⟨g0, g1, g2, g3⟩ := HO.out.c4
  obtain ⟨f0, f1, f2, f3⟩ := HO.out.f4
  go_wp2_with fail
  have GF := Lib.hid ((((G.out.setCell (p := ⟨w.heap.size, 0, none⟩) (Nat.le_refl _) (.float .f32 0)).setCell (p := ⟨w.heap.size, 1, none⟩) (Nat.le_refl _) (.float .f32 0)).setCell (p := ⟨w.heap.size, 2, none⟩) (Nat.le_refl _) (.slice none 0 0)).setCell (p := ⟨w.heap.size, 3, none⟩) (Nat.le_refl _) (.int .i64 0))
  refine bodyPost_ret (v := .tuple #[.agg #[.float .f32 0, .float .f32 0, .slice none 0 0, .int .i64 0], .slice none 0 0, .slice none 0 0, .bool false]) ?_ rfl ?_
  · have hres := HRES.out
    simp only [results, hres]
    go_simp
  · exact r4_no HB.out GF.out
end Go.Proofs.Ytgddfhmddkhaeaa

/-
  A run through a series by the model.
-/
namespace Go.Proofs.Ytgddfhmddkhaeaa
open Ieee Go.RowKit
set_option linter.unusedVariables false
theorem own_push {T : TypeId} {B r : Nat} {w1 : World} {v : Value} {rs : List Nat} (h : w1.ownsRow B T 1 v (rs.length + 1) (rs.map (Value.float .f32) ++ [.float .f32 r])) : FOwn T B w1 v (rs ++ [r]) := by
  unfold FOwn
  rw [List.length_append, List.map_append]
  exact h
theorem FOwn.grown {T : TypeId} {B : Nat} {wy w1 : World} {v : Value} {rs : List Nat} {row : Option Nat} (h : FOwn T B wy v rs) (hg : wy.grownBy w1 row) (hne : ∀ b, v.ownBlock = some b → some b ≠ row) : FOwn T B w1 v rs := by
  refine ⟨h.1, ?_⟩
  have hl := h.lt
  rcases h.2 with h2 | ⟨g, cap, cur, rfl, h3, h4, h5⟩
  · exact .inl h2
  · exact .inr ⟨g, cap, cur, rfl, h3, by rw [hg.block g (hl g rfl).2 (hne g rfl)]; exact h4, h5⟩
theorem StIn.grown {w w1 : World} {p l s : Nat} {a : Option Addr} {len cap : Nat} {t : Int} {row : Option Nat} (h : StIn w p l s a len cap t) (hg : w.grownBy w1 row) (hne : some p ≠ row) : StIn w1 p l s a len cap t := by
  have hp := h.lt
  obtain ⟨h0, h1, h2, h3⟩ := h
  have hb := hg.block p hp hne
  refine ⟨?_, ?_, ?_, ?_⟩ <;> (rw [World.cell?_of_block (w := w) hb]; assumption)
theorem below_grown {B : Nat} {w w1 : World} {o : Obj} {row : Option Nat} (hg : (w.alloc o).grownBy w1 row) (hB : B ≤ w.heap.size) (hr : ∀ k, row = some k → B ≤ k) : Below B w w1 :=
  ((Below.refl B w).alloc hB o).grown hg (by simp; omega) hr
theorem apt_grown {T : TypeId} {B : Nat} {w : World} {v v' u : Value} {rs : List Nat} (h : Apt u v) (hu : FOwn T B w u rs) (hat : v'.ownBlock = v.ownBlock ∨ v'.ownBlock = some (w.heap.size + 1)) : Apt u v' := fun b e0 e1 => by
  rcases hat with h2 | h2
  · exact h b e0 (h2 ▸ e1)
  · have h3 := (hu.lt b e0).2
    rw [h2] at e1
    have h4 := Option.some.inj e1
    skip
    omega
theorem Apt.symm {u v : Value} (h : Apt u v) : Apt v u := fun b e0 e1 => h b e1 e0
set_option maxHeartbeats 4000000 in
set_option maxRecDepth 100000 in
theorem spRun_yes (p q : Nat) (al : Option Addr) (ll cl : Nat) (xs : List Nat) (l s : Nat) (a : Option Addr) (len cap : Nat) (zs : List Nat) (t : Int) (c0 c1 c2 c3 : Nat) (w : World) (hin : StIn w p l s a len cap t) (hsh : ShIn w q c0 c1 c2 c3) (hx : FSl w al ll xs) (h : FSl w a len zs) (hml : ll ≤ 1048576) (hm : len ≤ 1048576) (hc : (stB l s zs t && shB4 c0 c1 c2 c3) = true) (hs : serB xs = true) :
    Calls Try.prog 67 #[.slice al ll cl, .pointer (some ⟨p, 0, none⟩), .pointer (some ⟨q, 0, none⟩)] w (RetR4 22 ⟨l, s, zs, t⟩ xs c0 c1 c2 c3 ll w) := by
  have HRES := Lib.hid (show Try.f67.results = #[.cell 6 29, .tmp 7, .tmp 8, .tmp 9] by kernel_rfl)
  have HB := Lib.hid (show rnB ⟨l, s, zs, t⟩ xs c0 c1 c2 c3 ll = oks (rnO ⟨l, s, zs, t⟩ xs c0 c1 c2 c3) ll by unfold rnB; rw [hs]; rfl)
  obtain ⟨i0, hi, hz0, hz1, hz2⟩ := info_parts Try.infoR
  have HSR := Lib.hid hs
  have al0 := (Below.refl w.heap.size w).alloc (Nat.le_refl _) (.cells #[.float .f32 0, .float .f32 0, .slice none 0 0, .int .i64 0] 29)
  have G := Lib.hid al0
  have HS := Lib.hid (hin.below al0)
  have HH := Lib.hid (hsh.below al0)
  have HZ := Lib.hid (FSl.below h al0)
  have HX := Lib.hid (FSl.below hx al0)
  have HX0 := Lib.hid hx
  have hql := hsh.lt
  have HO := Lib.hid (CIs.newAt w [.float .f32 0, .float .f32 0, .slice none 0 0, .int .i64 0] 29 (p := w.heap.size) rfl)
  have HV := Lib.hid hc
  clear hin hsh h al0 hc hx hs
  go_enter Try.func67, Try.ntmps67
  go_wp2_with fail
  refine (spCan_any _ _ _ _ _ _ _ _ _ _ _ _ _ _ HS.out HH.out HZ.out hm).mono ?_
  rw [HV.out]
  rintro e w' ⟨m, rfl, rfl⟩
  replace G := Lib.hid (below_drewN G.out m)
  replace HO := Lib.hid (HO.out.drewN m)
  replace HX := Lib.hid (FSl.drewN HX.out m)
  replace HS := Lib.hid (HS.out.drewN m)
  replace HH := Lib.hid (HH.out.drewN m)
  replace HZ := Lib.hid (FSl.drewN HZ.out m)
  generalize (w.alloc (.cells #[.float .f32 0, .float .f32 0, .slice none 0 0, .int .i64 0] 29)).drewN m = W1 at *
  go_wp2_with fail
  refine (specSeries_any _ _ _ xs _ HX.out hml).mono ?_
  rw [HSR.out]
  rintro e w' ⟨m2, rfl, rfl⟩
  replace G := Lib.hid (below_drewN G.out m2)
  replace HO := Lib.hid (HO.out.drewN m2)
  replace HX := Lib.hid (FSl.drewN HX.out m2)
  replace HS := Lib.hid (HS.out.drewN m2)
  replace HH := Lib.hid (HH.out.drewN m2)
  replace HZ := Lib.hid (FSl.drewN HZ.out m2)
  generalize W1.drewN m2 = W2 at *
  have hw2 : w.heap.size < W2.heap.size := HO.out.1
  have hl0 : 0 < len := by
    obtain ⟨hse, -, -, t0, t1⟩ := stB_t (Bool.and_eq_true _ _ ▸ HV.out).1
    have := HZ.out.1
    omega
  go_wp2_with fail
  refine (spOwn_any _ _ _ _ _ _ zs _ _ HS.out HZ.out hl0 hm).mono ?_
  rintro e W4 ⟨v, rfl, ho, bb⟩
  obtain ⟨A, cp, rfl, -, -⟩ := ho.sl
  have hzl := HZ.out.1
  have hs4 := bb.size
  obtain ⟨n0, hn0⟩ : ∃ n0, W4.heap.size = n0 := ⟨_, rfl⟩
  have hb3 := ((((Below.refl W4.heap.size W4).alloc (Nat.le_refl _) (.cells #[.float .f32 l, .float .f32 s, .slice A zs.length cp, .int .i64 t] 29)).alloc (by simp) (.cells #[] 22)).alloc (by simp; omega) (.cells #[] 22))
  have hb2 := (((Below.refl W4.heap.size W4).alloc (Nat.le_refl _) (.cells #[.float .f32 l, .float .f32 s, .slice A zs.length cp, .int .i64 t] 29)).alloc (by simp) (.cells #[] 22))
  have hall := bb.trans (hb3.mono hs4)
  have HQ := Lib.hid (FOwn.keepS ho hb3)
  have hqlt : ∀ bq, (Value.slice A zs.length cp).ownBlock = some bq → bq < n0 := fun bq e => by rw [← hn0]; exact (ho.lt bq e).2
  have HGu := Lib.hid (((FOwn.made (T := 22) (B := n0 + 1) (W4.alloc (.cells #[.float .f32 l, .float .f32 s, .slice A zs.length cp, .int .i64 t] 29)) (by simp; omega)).alloc (.cells #[] 22)))
  have HMs := Lib.hid (FOwn.made (T := 22) (B := n0 + 1) ((W4.alloc (.cells #[.float .f32 l, .float .f32 s, .slice A zs.length cp, .int .i64 t] 29)).alloc (.cells #[] 22)) (by simp; omega))
  have HNw := Lib.hid (((CIs.newAt W4 [.float .f32 l, .float .f32 s, .slice A zs.length cp, .int .i64 t] 29 (p := n0) hn0.symm).alloc (.cells #[] 22)).alloc (.cells #[] 22))
  rw [show (W4.alloc (.cells #[.float .f32 l, .float .f32 s, .slice A zs.length cp, .int .i64 t] 29)).heap.size = n0 + 1 by rw [World.size_alloc, hn0]] at HGu
  rw [show ((W4.alloc (.cells #[.float .f32 l, .float .f32 s, .slice A zs.length cp, .int .i64 t] 29)).alloc (.cells #[] 22)).heap.size = n0 + 1 + 1 by rw [World.size_alloc, World.size_alloc, hn0]] at HMs
  replace HX := Lib.hid (FSl.below HX.out hall)
  replace HH := Lib.hid (HH.out.below hall)
  replace HO := Lib.hid (HO.out.below hall)
  replace G := Lib.hid (G.out.trans (hall.mono G.out.size))
  clear bb ho hb3 hb2 hall HS HZ
  go_wp2_with fail
  subst hzl
  generalize hW7 : ((W4.alloc (.cells #[.float .f32 l, .float .f32 s, .slice A zs.length cp, .int .i64 t] 29)).alloc (.cells #[] 22)).alloc (.cells #[] 22) = W7 at *
  have hn7 : n0 + 1 + 1 < W7.heap.size := by rw [← hW7]; simp; omega
  have hn8 : w.heap.size < n0 := by omega
  clear hW7
  go_loopw [11, 12, 13, 14, 15, 16] (fun vG vM i v14 v15 v16 wr => ∃ (k : Nat) (rG rM : List Nat) (A : Option Addr) (cp : Nat), k ≤ ll ∧ i = .int .i64 k ∧ Hid (CIs wr n0 [.float .f32 (rnQ ⟨l, s, zs, t⟩ xs c0 c1 c2 c3 k).l, .float .f32 (rnQ ⟨l, s, zs, t⟩ xs c0 c1 c2 c3 k).s, .slice A (rnQ ⟨l, s, zs, t⟩ xs c0 c1 c2 c3 k).zs.length cp, .int .i64 (rnQ ⟨l, s, zs, t⟩ xs c0 c1 c2 c3 k).t]) ∧
    Hid (FOwn 22 W2.heap.size wr (.slice A (rnQ ⟨l, s, zs, t⟩ xs c0 c1 c2 c3 k).zs.length cp) (rnQ ⟨l, s, zs, t⟩ xs c0 c1 c2 c3 k).zs) ∧ Hid (FOwn 22 (n0 + 1) wr vG rG) ∧ Hid (FOwn 22 (n0 + 1) wr vM rM) ∧ Hid (cnl rG = tells (rnG ⟨l, s, zs, t⟩ xs c0 c1 c2 c3) k) ∧ Hid (cnl rM = tells (rnM ⟨l, s, zs, t⟩ xs c0 c1 c2 c3) k) ∧ Hid (oks (rnO ⟨l, s, zs, t⟩ xs c0 c1 c2 c3) k = true) ∧ Hid (stOk (rnQ ⟨l, s, zs, t⟩ xs c0 c1 c2 c3 k) = true) ∧
    Hid (Apt vG vM ∧ Apt (.slice A (rnQ ⟨l, s, zs, t⟩ xs c0 c1 c2 c3 k).zs.length cp) vG ∧ Apt (.slice A (rnQ ⟨l, s, zs, t⟩ xs c0 c1 c2 c3 k).zs.length cp) vM) ∧ Hid (Below n0 W7 wr)) (fun _ _ i _ _ _ _ => ll - (intOf i).toNat)
  case atStart =>
    exact ⟨0, [], [], A, cp, Nat.zero_le _, rfl, HNw, Lib.hid HQ.out, Lib.hid HGu.out, HMs, Lib.hid rfl, Lib.hid rfl, Lib.hid rfl, Lib.hid (Bool.and_eq_true _ _ ▸ HV.out).1, Lib.hid ⟨fun b e1 e2 => absurd ((Option.some.inj e1).trans (Option.some.inj e2).symm) (show ¬ n0 + 1 = n0 + 1 + 1 by omega), fun b e1 e2 => absurd (hqlt b e1) (by have e3 : n0 + 1 = b := Option.some.inj e2; omega), fun b e1 e2 => absurd (hqlt b e1) (by have e3 : n0 + 1 + 1 = b := Option.some.inj e2; omega)⟩, Lib.hid (Below.refl _ _)⟩
  case round =>
    rename_i wr
    obtain ⟨k, rG, rM, Aq, cq, hk, rfl, hC, hQ, hG, hM, hrG, hrM, hok, hst, hap, hbel⟩ := hrel
    have hzq := rnQ_len ⟨l, s, zs, t⟩ xs c0 c1 c2 c3 k
    by_cases hlt : k < ll
    · obtain ⟨hse, -, -, u0, u1⟩ := stB_t (show stB (rnQ ⟨l, s, zs, t⟩ xs c0 c1 c2 c3 k).l (rnQ ⟨l, s, zs, t⟩ xs c0 c1 c2 c3 k).s (rnQ ⟨l, s, zs, t⟩ xs c0 c1 c2 c3 k).zs (rnQ ⟨l, s, zs, t⟩ xs c0 c1 c2 c3 k).t = true from hst.out)
      obtain ⟨kt, hkt⟩ : ∃ kt : Nat, (rnQ ⟨l, s, zs, t⟩ xs c0 c1 c2 c3 k).t = kt := ⟨(rnQ ⟨l, s, zs, t⟩ xs c0 c1 c2 c3 k).t.toNat, by omega⟩
      have hktl : kt < (rnQ ⟨l, s, zs, t⟩ xs c0 c1 c2 c3 k).zs.length := by omega
      have hHr := HH.out.belowB hbel.out (show q < n0 by omega)
      obtain ⟨k0, k1, k2, k3⟩ := hC.out.c4
      have hSr : StIn wr n0 (rnQ ⟨l, s, zs, t⟩ xs c0 c1 c2 c3 k).l (rnQ ⟨l, s, zs, t⟩ xs c0 c1 c2 c3 k).s Aq (rnQ ⟨l, s, zs, t⟩ xs c0 c1 c2 c3 k).zs.length cq (rnQ ⟨l, s, zs, t⟩ xs c0 c1 c2 c3 k).t := ⟨k0, k1, k2, k3⟩
      have hF := FSl.below HX0.out (G.out.trans (hbel.out.mono (by omega)))
      obtain ⟨b, off, rfl, hb, hcx⟩ := hF.at (by omega)
      have hck := hcx k hlt
      clear hcx hF hse
      go_wp2_with fail
      refine (spGu_any n0 q _ _ Aq _ cq _ _ c0 c1 c2 c3 kt wr hSr hHr (own_fsl hQ.out) hktl hkt (by omega)).mono ?_
      rintro e w' ⟨r, m, hr, rfl, rfl⟩
      clear k0 k1 k2 k3
      have hqe : (⟨(rnQ ⟨l, s, zs, t⟩ xs c0 c1 c2 c3 k).l, (rnQ ⟨l, s, zs, t⟩ xs c0 c1 c2 c3 k).s, (rnQ ⟨l, s, zs, t⟩ xs c0 c1 c2 c3 k).zs, (kt : Int)⟩ : Stt) = rnQ ⟨l, s, zs, t⟩ xs c0 c1 c2 c3 k := by rw [← hkt]
      have hSk := Lib.hid (show StIn (wr.drewN m) n0 (rnQ ⟨l, s, zs, t⟩ xs c0 c1 c2 c3 k).l (rnQ ⟨l, s, zs, t⟩ xs c0 c1 c2 c3 k).s Aq (rnQ ⟨l, s, zs, t⟩ xs c0 c1 c2 c3 k).zs.length cq (kt : Int) from by rw [← hkt]; exact hSr.drewN m)
      have HR := Lib.hid hr
      have hHm := Lib.hid (hHr.drewN m)
      replace hQ := Lib.hid (FOwn.drewN hQ.out m)
      replace hG := Lib.hid (FOwn.drewN hG.out m)
      replace hM := Lib.hid (FOwn.drewN hM.out m)
      replace hC := Lib.hid (hC.out.drewN m)
      replace hbel := Lib.hid (below_drewN hbel.out m)
      replace hck : (wr.drewN m).cell? ⟨b, off + k, none⟩ = some (.float .f32 (xs.getD k 0)) := hck
      have hxi : (k : Int) < (ll : Int) := by omega
      have hxi0 : (0 : Int) ≤ (k : Int) := by omega
      clear hSr hHr hr
      generalize wr.drewN m = wg at *
      go_wp2_with fail
      refine (spLSt_any n0 q _ _ Aq _ cq (rnQ ⟨l, s, zs, t⟩ xs c0 c1 c2 c3 k).zs kt c0 c1 c2 c3 (xs.getD k 0) _ hSk.out hHm.out (own_fsl hQ.out) hktl (by omega)).mono ?_
      rw [hqe]
      rintro e w3 ⟨L, S, v, M, Zs, rfl, hMc, hLc, hSc, hZc, hown, hb3⟩
      generalize hQd : rnQ ⟨l, s, zs, t⟩ xs c0 c1 c2 c3 k = Q at *
      have hZl : Zs.length = Q.zs.length := by rw [← cnl_len, hZc]; exact sZs_len ..
      obtain ⟨bA, cA, rfl, hbA1, hbA2⟩ := own_blk hown rfl (by omega)
      have HZl := Lib.hid hZl
      clear hZl
      have hs3 := hb3.size
      have hbs := hbel.out.size
      have HMc := Lib.hid hMc
      have HLc := Lib.hid hLc
      have HSc := Lib.hid hSc
      have HZc := Lib.hid hZc
      have HGc := Lib.hid (show cn .f32 r = guW Q.l Q.s Q.zs Q.t c3 from by unfold guW; rw [hkt]; exact HR.out)
      have HGn := G.out.trans ((hbel.out.mono (show w.heap.size ≤ n0 by omega)).trans (hb3.mono (by have := G.out.size; omega)))
      obtain ⟨T0, hT0⟩ : ∃ T0, (stNx Q c0 c1 c2 c3 (xs.getD k 0)).t = T0 := ⟨_, rfl⟩
      rw [hT0]
      have A2 := fun (o : Obj) => (Below.refl w3.heap.size w3).alloc (Nat.le_refl _) o
      have HI := Lib.hid (StIn.new w3 L S (some ⟨bA, 0, none⟩) Zs.length cA T0 29)
      have GN := Lib.hid (HGn.alloc (by omega) (.cells #[.float .f32 L, .float .f32 S, .slice (some ⟨bA, 0, none⟩) Zs.length cA, .int .i64 T0] 29))
      have HON := Lib.hid (((HO.out.belowB hbel.out (by omega)).below hb3).alloc (.cells #[.float .f32 L, .float .f32 S, .slice (some ⟨bA, 0, none⟩) Zs.length cA, .int .i64 T0] 29))
      have HCN := Lib.hid ((hC.out.below hb3).alloc (.cells #[.float .f32 L, .float .f32 S, .slice (some ⟨bA, 0, none⟩) Zs.length cA, .int .i64 T0] 29))
      have hGN := Lib.hid (FOwn.keepS (FOwn.keepS hG.out hb3) (A2 (.cells #[.float .f32 L, .float .f32 S, .slice (some ⟨bA, 0, none⟩) Zs.length cA, .int .i64 T0] 29)))
      have hMN := Lib.hid (FOwn.keepS (FOwn.keepS hM.out hb3) (A2 (.cells #[.float .f32 L, .float .f32 S, .slice (some ⟨bA, 0, none⟩) Zs.length cA, .int .i64 T0] 29)))
      have HSN := Lib.hid (FOwn.keepS hown (A2 (.cells #[.float .f32 L, .float .f32 S, .slice (some ⟨bA, 0, none⟩) Zs.length cA, .int .i64 T0] 29)))
      have BN := Lib.hid ((hbel.out.trans (hb3.mono (by omega))).alloc (by omega) (.cells #[.float .f32 L, .float .f32 S, .slice (some ⟨bA, 0, none⟩) Zs.length cA, .int .i64 T0] 29))
      have HAg := Lib.hid (show Apt (.slice (some ⟨bA, 0, none⟩) Zs.length cA) u11 from fun b e1 e2 => apt_of hG.out hown (Nat.le_refl _) b e2 e1)
      have HAm := Lib.hid (show Apt (.slice (some ⟨bA, 0, none⟩) Zs.length cA) u12 from fun b e1 e2 => apt_of hM.out hown (Nat.le_refl _) b e2 e1)
      have HAt := Lib.hid hap.out.1
      have HOk := Lib.hid hok.out
      have hG0 := Lib.hid hG.out
      have hnwg : n0 < wg.heap.size := hC.out.1
      have hM0 := Lib.hid hM.out
      clear hMc hLc hSc hZc hown hb3 HGn A2 hC hG hM hQ hap hok hbel hSk hHm HR
      go_wp2_with fail
      refine (l01Finite_any _ _).mono ?_
      cases hfr : fin .f32 r
      · rintro e w4 ⟨m4, rfl, rfl⟩
        have HST := Lib.hid (show stpB Q c0 c1 c2 c3 (xs.getD k 0) = false from stp_gu (by
          cases hb : guB Q.l Q.s Q.zs Q.t c0 c1 c2 c3
          · rfl
          · exfalso
            unfold guB at hb
            simp only [Bool.and_eq_true] at hb
            rw [← fin_congr (cn_cn .f32 r), HGc.out, hb.2] at hfr
            cases hfr))
        replace GN := Lib.hid (below_drewN GN.out m4)
        replace HON := Lib.hid (HON.out.drewN m4)
        replace HCN := Lib.hid (HCN.out.drewN m4)
        replace hGN := Lib.hid (FOwn.drewN hGN.out m4)
        replace hMN := Lib.hid (FOwn.drewN hMN.out m4)
        replace HSN := Lib.hid (FOwn.drewN HSN.out m4)
        replace HI := Lib.hid (HI.out.drewN m4)
        replace BN := Lib.hid (below_drewN BN.out m4)
        have HBN := Lib.hid (HB.out.trans (oks_bad hlt (show rnO ⟨l, s, zs, t⟩ xs c0 c1 c2 c3 k = false from by unfold rnO; rw [hQd]; exact HST.out)))
        obtain ⟨g0, g1, g2, g3⟩ := HON.out.c4
        obtain ⟨f0, f1, f2, f3⟩ := HON.out.f4
        clear hGN hMN HCN HSN BN HI
        go_wp2_with fail
        have GF := Lib.hid ((((GN.out.setCell (p := ⟨w.heap.size, 0, none⟩) (Nat.le_refl _) (.float .f32 0)).setCell (p := ⟨w.heap.size, 1, none⟩) (Nat.le_refl _) (.float .f32 0)).setCell (p := ⟨w.heap.size, 2, none⟩) (Nat.le_refl _) (.slice none 0 0)).setCell (p := ⟨w.heap.size, 3, none⟩) (Nat.le_refl _) (.int .i64 0))
        refine bodyPost_ret (v := .tuple #[.agg #[.float .f32 0, .float .f32 0, .slice none 0 0, .int .i64 0], .slice none 0 0, .slice none 0 0, .bool false]) ?_ rfl ?_
        · have hres := HRES.out
          simp only [results, hres]
          go_simp
        · exact r4_no HBN.out GF.out
      rintro e w4 ⟨m4, rfl, rfl⟩
      replace GN := Lib.hid (below_drewN GN.out m4)
      replace HON := Lib.hid (HON.out.drewN m4)
      replace HCN := Lib.hid (HCN.out.drewN m4)
      replace hGN := Lib.hid (FOwn.drewN hGN.out m4)
      replace hMN := Lib.hid (FOwn.drewN hMN.out m4)
      replace HSN := Lib.hid (FOwn.drewN HSN.out m4)
      replace HI := Lib.hid (HI.out.drewN m4)
      replace BN := Lib.hid (below_drewN BN.out m4)
      have HFr := Lib.hid hfr
      clear hfr
      generalize (w3.alloc (.cells #[.float .f32 L, .float .f32 S, .slice (some ⟨bA, 0, none⟩) Zs.length cA, .int .i64 T0] 29)).drewN m4 = W4' at *
      go_wp2_with fail
      refine (l01Finite_any _ _).mono ?_
      cases hfM : fin .f32 M
      · rintro e w5 ⟨m5, rfl, rfl⟩
        have HST := Lib.hid (show stpB Q c0 c1 c2 c3 (xs.getD k 0) = false from stp_mi (by rw [← HMc.out, fin_congr (cn_cn .f32 M)]; exact hfM))
        replace GN := Lib.hid (below_drewN GN.out m5)
        replace HON := Lib.hid (HON.out.drewN m5)
        replace HCN := Lib.hid (HCN.out.drewN m5)
        replace hGN := Lib.hid (FOwn.drewN hGN.out m5)
        replace hMN := Lib.hid (FOwn.drewN hMN.out m5)
        replace HSN := Lib.hid (FOwn.drewN HSN.out m5)
        replace HI := Lib.hid (HI.out.drewN m5)
        replace BN := Lib.hid (below_drewN BN.out m5)
        have HBN := Lib.hid (HB.out.trans (oks_bad hlt (show rnO ⟨l, s, zs, t⟩ xs c0 c1 c2 c3 k = false from by unfold rnO; rw [hQd]; exact HST.out)))
        obtain ⟨g0, g1, g2, g3⟩ := HON.out.c4
        obtain ⟨f0, f1, f2, f3⟩ := HON.out.f4
        clear hGN hMN HCN HSN BN HI
        go_wp2_with fail
        have GF := Lib.hid ((((GN.out.setCell (p := ⟨w.heap.size, 0, none⟩) (Nat.le_refl _) (.float .f32 0)).setCell (p := ⟨w.heap.size, 1, none⟩) (Nat.le_refl _) (.float .f32 0)).setCell (p := ⟨w.heap.size, 2, none⟩) (Nat.le_refl _) (.slice none 0 0)).setCell (p := ⟨w.heap.size, 3, none⟩) (Nat.le_refl _) (.int .i64 0))
        refine bodyPost_ret (v := .tuple #[.agg #[.float .f32 0, .float .f32 0, .slice none 0 0, .int .i64 0], .slice none 0 0, .slice none 0 0, .bool false]) ?_ rfl ?_
        · have hres := HRES.out
          simp only [results, hres]
          go_simp
        · exact r4_no HBN.out GF.out
      rintro e w5 ⟨m5, rfl, rfl⟩
      replace GN := Lib.hid (below_drewN GN.out m5)
      replace HON := Lib.hid (HON.out.drewN m5)
      replace HCN := Lib.hid (HCN.out.drewN m5)
      replace hGN := Lib.hid (FOwn.drewN hGN.out m5)
      replace hMN := Lib.hid (FOwn.drewN hMN.out m5)
      replace HSN := Lib.hid (FOwn.drewN HSN.out m5)
      replace HI := Lib.hid (HI.out.drewN m5)
      replace BN := Lib.hid (below_drewN BN.out m5)
      have HFM := Lib.hid hfM
      clear hfM
      generalize W4'.drewN m5 = W5 at *
      go_wp2_with fail
      refine (spIs_any _ _ _ _ _ _ Zs _ _ HI.out (own_fsl HSN.out) (by have := rnQ_len ⟨l, s, zs, t⟩ xs c0 c1 c2 c3 k; rw [hQd] at this; have := HZl.out; omega)).mono ?_
      have HSB := Lib.hid (show stB L S Zs T0 = stOk (stNx Q c0 c1 c2 c3 (xs.getD k 0)) from by rw [stB_cn HLc.out HSc.out HZc.out, ← hT0]; rfl)
      cases hst2 : stB L S Zs T0
      · rintro e w6 ⟨m6, rfl, rfl⟩
        have HST := Lib.hid (show stpB Q c0 c1 c2 c3 (xs.getD k 0) = false from by unfold stpB; rw [← HSB.out, hst2, Bool.and_false, Bool.and_false])
        replace GN := Lib.hid (below_drewN GN.out m6)
        replace HON := Lib.hid (HON.out.drewN m6)
        replace HCN := Lib.hid (HCN.out.drewN m6)
        replace hGN := Lib.hid (FOwn.drewN hGN.out m6)
        replace hMN := Lib.hid (FOwn.drewN hMN.out m6)
        replace HSN := Lib.hid (FOwn.drewN HSN.out m6)
        replace HI := Lib.hid (HI.out.drewN m6)
        replace BN := Lib.hid (below_drewN BN.out m6)
        have HBN := Lib.hid (HB.out.trans (oks_bad hlt (show rnO ⟨l, s, zs, t⟩ xs c0 c1 c2 c3 k = false from by unfold rnO; rw [hQd]; exact HST.out)))
        obtain ⟨g0, g1, g2, g3⟩ := HON.out.c4
        obtain ⟨f0, f1, f2, f3⟩ := HON.out.f4
        clear hGN hMN HCN HSN BN HI
        go_wp2_with fail
        have GF := Lib.hid ((((GN.out.setCell (p := ⟨w.heap.size, 0, none⟩) (Nat.le_refl _) (.float .f32 0)).setCell (p := ⟨w.heap.size, 1, none⟩) (Nat.le_refl _) (.float .f32 0)).setCell (p := ⟨w.heap.size, 2, none⟩) (Nat.le_refl _) (.slice none 0 0)).setCell (p := ⟨w.heap.size, 3, none⟩) (Nat.le_refl _) (.int .i64 0))
        refine bodyPost_ret (v := .tuple #[.agg #[.float .f32 0, .float .f32 0, .slice none 0 0, .int .i64 0], .slice none 0 0, .slice none 0 0, .bool false]) ?_ rfl ?_
        · have hres := HRES.out
          simp only [results, hres]
          go_simp
        · exact r4_no HBN.out GF.out
      rintro e w6 ⟨m6, rfl, rfl⟩
      replace GN := Lib.hid (below_drewN GN.out m6)
      replace HON := Lib.hid (HON.out.drewN m6)
      replace HCN := Lib.hid (HCN.out.drewN m6)
      replace hGN := Lib.hid (FOwn.drewN hGN.out m6)
      replace hMN := Lib.hid (FOwn.drewN hMN.out m6)
      replace HSN := Lib.hid (FOwn.drewN HSN.out m6)
      replace HI := Lib.hid (HI.out.drewN m6)
      replace BN := Lib.hid (below_drewN BN.out m6)
      have HS2 := Lib.hid hst2
      clear hst2
      generalize W5.drewN m6 = W6 at *
      have HSP := Lib.hid (show stpB Q c0 c1 c2 c3 (xs.getD k 0) = true from by
        unfold stpB
        rw [← HSB.out, HS2.out, ← HMc.out, fin_congr (cn_cn .f32 M), HFM.out, show stOk Q = true from hst.out, (Bool.and_eq_true_iff.1 HV.out).2]; rfl)
      have HLN := Lib.hid (show rnQ ⟨l, s, zs, t⟩ xs c0 c1 c2 c3 (k + 1) = ⟨L, S, Zs, T0⟩ from by
        obtain ⟨s1, s2, s3, s4, s5⟩ := stB_t HS2.out
        have e2 : L = (stNx Q c0 c1 c2 c3 (xs.getD k 0)).l := finw HLc.out (by rw [← HLc.out, fin_congr (cn_cn .f32 L)]; exact s2)
        have e3 : S = (stNx Q c0 c1 c2 c3 (xs.getD k 0)).s := finw HSc.out (by rw [← HSc.out, fin_congr (cn_cn .f32 S)]; exact s3)
        have e4 : Zs = (stNx Q c0 c1 c2 c3 (xs.getD k 0)).zs := by
          refine finws HZc.out ?_
          rw [← HZc.out]
          have := (serB_t (seB_t s1).1).2.2
          unfold fins cnl at *
          rw [List.all_map, ← this]
          congr 1
          funext y
          exact fin_congr (cn_cn .f32 y)
        show rsQ (rnQ ⟨l, s, zs, t⟩ xs c0 c1 c2 c3 k) c0 c1 c2 c3 (xs.getD k 0) = _
        rw [hQd]
        unfold rsQ
        rw [if_pos HSP.out, e2, e3, e4, ← hT0])
      have HrM := Lib.hid (show cn .f32 M = rnM ⟨l, s, zs, t⟩ xs c0 c1 c2 c3 k from by
        unfold rnM
        rw [hQd]
        unfold rsM
        rw [if_pos HSP.out, ← HMc.out, cn_cn])
      have HrG := Lib.hid (show cn .f32 r = rnG ⟨l, s, zs, t⟩ xs c0 c1 c2 c3 k from by
        unfold rnG
        rw [hQd]
        unfold guR
        rw [if_pos (show guB Q.l Q.s Q.zs Q.t c0 c1 c2 c3 = true from by
          unfold guB
          rw [← HGc.out, fin_congr (cn_cn .f32 r), HFr.out, show stB Q.l Q.s Q.zs Q.t = true from hst.out, (Bool.and_eq_true_iff.1 HV.out).2]; rfl)]
        exact HGc.out)
      have HOk1 := Lib.hid (show oks (rnO ⟨l, s, zs, t⟩ xs c0 c1 c2 c3) (k + 1) = true from by
        rw [oks_succ, HOk.out, Bool.true_and]
        unfold rnO
        rw [hQd]
        exact HSP.out)
      have HrGs := Lib.hid ((cnl_snoc hrG.out HrG.out).trans (tells_succ (rnG ⟨l, s, zs, t⟩ xs c0 c1 c2 c3) k).symm)
      have HrMs := Lib.hid ((cnl_snoc hrM.out HrM.out).trans (tells_succ (rnM ⟨l, s, zs, t⟩ xs c0 c1 c2 c3) k).symm)
      have hlG := Lib.hid (show rG.length = k from by have := congrArg List.length hrG.out; rw [cnl_len, tells_len] at this; exact this)
      have hlM := Lib.hid (show rM.length = k from by have := congrArg List.length hrM.out; rw [cnl_len, tells_len] at this; exact this)
      have hn6 := HCN.out.1
      have hsn6 := BN.out.size
      have hbA6 : bA < W6.heap.size := (HSN.out.lt bA rfl).2
      have hw3n : wg.heap.size ≤ w3.heap.size := hs3
      have hI6 := HI.out.lt
      clear HrM HrG HSB HMc HLc HSc HZc HGc HFr HFM hrG hrM hst
      go_wp2_with (at_builtin; refine wpList_append_own_at _ rfl _ _ 23 rfl (n0 + 1) 22 i0 (.float .f32 0) 1 4 Try.underlying23 hi hz0 hz1 hz2 rfl (by decide) _ _ _ rfl (World.ownsRow.alloc hGN.out _) ⟨W6.heap.size, 0, none⟩ 1 1 [_] rfl rfl (one_new rfl) ?c2 ?c3 ?c4 ?c5 ?_)
      case c2 => intro u hu; simp at hu; subst hu; rfl
      case c3 => have := hlG.out; unfold maxLen; omega
      case c4 => have := hlG.out; omega
      case c5 => simp; omega
      intro v1 w7 hown1 hgrow1 _ hat1
      have HG1 := Lib.hid (own_push (rs := rG) hown1)
      have HM1 := Lib.hid ((hMN.out.keepS ((Below.refl W6.heap.size W6).alloc (Nat.le_refl _) _)).grown hgrow1 (fun b e1 e2 => HAt.out b e2.symm e1))
      have HS1 := Lib.hid ((HSN.out.keepS ((Below.refl W6.heap.size W6).alloc (Nat.le_refl _) _)).grown hgrow1 (fun b e1 e2 => HAg.out b e1 e2.symm))
      have HI1 := Lib.hid ((HI.out.alloc _).grown hgrow1 (fun e => by have := (hG0.out.lt _ e.symm).2; omega))
      have hb7 := below_grown (B := n0 + 1) hgrow1 (by omega) (fun j e => (hGN.out.lt j e).1)
      have HC1 := Lib.hid (HCN.out.belowB hb7 (by omega))
      have BN1 := Lib.hid (BN.out.trans (hb7.mono (by omega)))
      have hat1' := hat1
      have HA1 := Lib.hid (apt_grown HAt.out.symm hMN.out hat1)
      have HA2 := Lib.hid (apt_grown HAg.out HSN.out hat1)
      have hn7' := hb7.size
      clear hown1 hgrow1 hat1 hat1' hb7 hGN hMN HSN HI HCN BN HAt HAg
      go_wp2_with (at_builtin; refine wpList_append_own_at _ rfl _ _ 23 rfl (n0 + 1) 22 i0 (.float .f32 0) 1 4 Try.underlying23 hi hz0 hz1 hz2 rfl (by decide) _ _ _ rfl (World.ownsRow.alloc HM1.out _) ⟨w7.heap.size, 0, none⟩ 1 1 [_] rfl rfl (one_new rfl) ?c2 ?c3 ?c4 ?c5 ?_)
      case c2 => intro u hu; simp at hu; subst hu; rfl
      case c3 => have := hlM.out; unfold maxLen; omega
      case c4 => have := hlM.out; omega
      case c5 => simp; omega
      intro v2 w8 hown2 hgrow2 _ hat2
      have HM2 := Lib.hid (own_push (rs := rM) hown2)
      have HG2 := Lib.hid ((HG1.out.keepS ((Below.refl w7.heap.size w7).alloc (Nat.le_refl _) _)).grown hgrow2 (fun b e1 e2 => HA1.out b e2.symm e1))
      have HSs2 := Lib.hid ((HS1.out.keepS ((Below.refl w7.heap.size w7).alloc (Nat.le_refl _) _)).grown hgrow2 (fun b e1 e2 => HAm.out b e1 e2.symm))
      have HI2 := Lib.hid ((HI1.out.alloc _).grown hgrow2 (fun e => by have := (hM0.out.lt _ e.symm).2; omega))
      have hb8 := below_grown (B := n0 + 1) hgrow2 (by omega) (fun j e => (HM1.out.lt j e).1)
      have HC2 := Lib.hid (HC1.out.belowB hb8 (by omega))
      have BN2 := Lib.hid (BN1.out.trans (hb8.mono (by omega)))
      have HA3 := Lib.hid (apt_grown HA1.out.symm HG1.out hat2)
      have HA4 := Lib.hid (apt_grown HAm.out HS1.out hat2)
      clear hown2 hgrow2 hat2 hb8 HG1 HM1 HS1 HI1 HC1 BN1 HA1 HAm
      obtain ⟨k0, k1, k2, k3⟩ := HI2.out
      obtain ⟨g0, g1, g2, g3⟩ := HC2.out.c4
      obtain ⟨f0, f1, f2, f3⟩ := HC2.out.f4
      have fg := own_far HG2.out (show n0 < n0 + 1 by omega)
      have fm := own_far HM2.out (show n0 < n0 + 1 by omega)
      have fs := own_far HSs2.out hnwg
      have HGF := Lib.hid (own_else (own_else (own_else (own_else HG2.out fg 0 (.float .f32 L)) fg 1 (.float .f32 S)) fg 2 (.slice (some ⟨bA, 0, none⟩) Zs.length cA)) fg 3 (.int .i64 T0))
      have HMF := Lib.hid (own_else (own_else (own_else (own_else HM2.out fm 0 (.float .f32 L)) fm 1 (.float .f32 S)) fm 2 (.slice (some ⟨bA, 0, none⟩) Zs.length cA)) fm 3 (.int .i64 T0))
      have HSF := Lib.hid (FOwn.mono (own_else (own_else (own_else (own_else HSs2.out fs 0 (.float .f32 L)) fs 1 (.float .f32 S)) fs 2 (.slice (some ⟨bA, 0, none⟩) Zs.length cA)) fs 3 (.int .i64 T0)) (show W2.heap.size ≤ wg.heap.size by omega))
      clear fg fm fs
      have HCF := Lib.hid ((((HC2.out.put (o := 0) (v := .float .f32 L) (by simp)).put (o := 1) (v := .float .f32 S) (by simp)).put (o := 2) (v := (.slice (some ⟨bA, 0, none⟩) Zs.length cA)) (by simp)).put (o := 3) (v := .int .i64 T0) (by simp))
      have BNF := Lib.hid ((((BN2.out.setCell (p := ⟨n0, 0, none⟩) (Nat.le_refl _) (.float .f32 L)).setCell (p := ⟨n0, 1, none⟩) (Nat.le_refl _) (.float .f32 S)).setCell (p := ⟨n0, 2, none⟩) (Nat.le_refl _) (.slice (some ⟨bA, 0, none⟩) Zs.length cA)).setCell (p := ⟨n0, 3, none⟩) (Nat.le_refl _) (.int .i64 T0))
      clear HG2 HM2 HSs2 HC2 BN2
      go_wp2_with fail
      go_roundw
      case rel =>
        refine ⟨k + 1, rG ++ [r], rM ++ [M], some ⟨bA, 0, none⟩, cA, by omega, by go_num, ?_, ?_, HGF, HMF, HrGs, HrMs, HOk1, ?_, ?_, BNF⟩
        · rw [HLN.out]; exact HCF
        · rw [HLN.out]; exact HSF
        · rw [HLN.out]; exact HS2
        · rw [HLN.out]; exact Lib.hid ⟨HA3.out, HA2.out, HA4.out⟩
      case measure => simp [intOf]; omega
    · have hkl : k = ll := by omega
      subst hkl
      have HBT := Lib.hid (HB.out.trans hok.out)
      have HRS := Lib.hid (show rnS ⟨l, s, zs, t⟩ xs c0 c1 c2 c3 k = rnQ ⟨l, s, zs, t⟩ xs c0 c1 c2 c3 k from by unfold rnS; rw [HBT.out]; rfl)
      have GE := G.out.trans (hbel.out.mono (show w.heap.size ≤ n0 by omega))
      have HO2 := Lib.hid (HO.out.belowB hbel.out (by omega))
      have hq1 := own_far hQ.out (show w.heap.size < W2.heap.size by omega)
      have hg1 := own_far hG.out (show w.heap.size < n0 + 1 by omega)
      have hm1 := own_far hM.out (show w.heap.size < n0 + 1 by omega)
      have GF := Lib.hid ((((GE.setCell (p := ⟨w.heap.size, 0, none⟩) (Nat.le_refl _) (.float .f32 (rnQ ⟨l, s, zs, t⟩ xs c0 c1 c2 c3 k).l)).setCell (p := ⟨w.heap.size, 1, none⟩) (Nat.le_refl _) (.float .f32 (rnQ ⟨l, s, zs, t⟩ xs c0 c1 c2 c3 k).s)).setCell (p := ⟨w.heap.size, 2, none⟩) (Nat.le_refl _) (.slice Aq (rnQ ⟨l, s, zs, t⟩ xs c0 c1 c2 c3 k).zs.length cq)).setCell (p := ⟨w.heap.size, 3, none⟩) (Nat.le_refl _) (.int .i64 (rnQ ⟨l, s, zs, t⟩ xs c0 c1 c2 c3 k).t))
      have HQF := Lib.hid (FOwn.mono (own_else (own_else (own_else (own_else hQ.out hq1 0 (.float .f32 (rnQ ⟨l, s, zs, t⟩ xs c0 c1 c2 c3 k).l)) hq1 1 (.float .f32 (rnQ ⟨l, s, zs, t⟩ xs c0 c1 c2 c3 k).s)) hq1 2 (.slice Aq (rnQ ⟨l, s, zs, t⟩ xs c0 c1 c2 c3 k).zs.length cq)) hq1 3 (.int .i64 (rnQ ⟨l, s, zs, t⟩ xs c0 c1 c2 c3 k).t)) (show w.heap.size ≤ W2.heap.size by omega))
      have HGF := Lib.hid (FOwn.mono (own_else (own_else (own_else (own_else hG.out hg1 0 (.float .f32 (rnQ ⟨l, s, zs, t⟩ xs c0 c1 c2 c3 k).l)) hg1 1 (.float .f32 (rnQ ⟨l, s, zs, t⟩ xs c0 c1 c2 c3 k).s)) hg1 2 (.slice Aq (rnQ ⟨l, s, zs, t⟩ xs c0 c1 c2 c3 k).zs.length cq)) hg1 3 (.int .i64 (rnQ ⟨l, s, zs, t⟩ xs c0 c1 c2 c3 k).t)) (show w.heap.size ≤ n0 + 1 by omega))
      have HMF := Lib.hid (FOwn.mono (own_else (own_else (own_else (own_else hM.out hm1 0 (.float .f32 (rnQ ⟨l, s, zs, t⟩ xs c0 c1 c2 c3 k).l)) hm1 1 (.float .f32 (rnQ ⟨l, s, zs, t⟩ xs c0 c1 c2 c3 k).s)) hm1 2 (.slice Aq (rnQ ⟨l, s, zs, t⟩ xs c0 c1 c2 c3 k).zs.length cq)) hm1 3 (.int .i64 (rnQ ⟨l, s, zs, t⟩ xs c0 c1 c2 c3 k).t)) (show w.heap.size ≤ n0 + 1 by omega))
      obtain ⟨g0, g1, g2, g3⟩ := HO2.out.c4
      obtain ⟨f0, f1, f2, f3⟩ := HO2.out.f4
      obtain ⟨k0, k1, k2, k3⟩ := hC.out.c4
      clear hq1 hg1 hm1 GE HO HX HX0 HH hap hst hbel hQ hG hM hC
      go_wp2_with fail
      refine bodyPost_ret (v := .tuple #[.agg #[.float .f32 (rnQ ⟨l, s, zs, t⟩ xs c0 c1 c2 c3 k).l, .float .f32 (rnQ ⟨l, s, zs, t⟩ xs c0 c1 c2 c3 k).s, .slice Aq (rnQ ⟨l, s, zs, t⟩ xs c0 c1 c2 c3 k).zs.length cq, .int .i64 (rnQ ⟨l, s, zs, t⟩ xs c0 c1 c2 c3 k).t], u11, u12, .bool true]) ?_ rfl ?_
      · have hres := HRES.out
        simp only [results, hres]
        go_simp
      · refine ⟨Aq, cq, u11, u12, rG, rM, by rw [HRS.out, HBT.out], by rw [HRS.out]; exact HQF.out, HGF.out, HMF.out, ?_, ?_, GF.out⟩
        · rw [HBT.out]; exact hrG.out
        · rw [HBT.out]; exact hrM.out
end Go.Proofs.Ytgddfhmddkhaeaa

/-
  RunStates, GuessesOf and MissesOf of the model.
-/
namespace Go.Proofs.Ytgddfhmddkhaeaa
open Ieee Go.RowKit
set_option linter.unusedVariables false
theorem spRun_any (p q : Nat) (al : Option Addr) (ll cl : Nat) (xs : List Nat) (l s : Nat) (a : Option Addr) (len cap : Nat) (zs : List Nat) (t : Int) (c0 c1 c2 c3 : Nat) (w : World) (hin : StIn w p l s a len cap t) (hsh : ShIn w q c0 c1 c2 c3) (hx : FSl w al ll xs) (h : FSl w a len zs) (hml : ll ≤ 1048576) (hm : len ≤ 1048576) :
    Calls Try.prog 67 #[.slice al ll cl, .pointer (some ⟨p, 0, none⟩), .pointer (some ⟨q, 0, none⟩)] w (RetR4 22 ⟨l, s, zs, t⟩ xs c0 c1 c2 c3 ll w) := by
  cases hc : stB l s zs t && shB4 c0 c1 c2 c3
  · exact spRun_can _ _ _ _ _ _ _ _ _ _ _ _ _ _ _ _ _ _ hin hsh hx h hml hm hc
  · cases hs : serB xs
    · exact spRun_ser _ _ _ _ _ _ _ _ _ _ _ _ _ _ _ _ _ _ hin hsh hx h hml hm hc hs
    · exact spRun_yes _ _ _ _ _ _ _ _ _ _ _ _ _ _ _ _ _ _ hin hsh hx h hml hm hc hs
set_option maxHeartbeats 2000000 in
set_option maxRecDepth 100000 in
theorem spMisses_any (al : Option Addr) (ll cl : Nat) (xs : List Nat) (l s : Nat) (a : Option Addr) (len cap : Nat) (zs : List Nat) (t : Int) (c0 c1 c2 c3 : Nat) (w : World) (hx : FSl w al ll xs) (h : FSl w a len zs) (hml : ll ≤ 1048576) (hm : len ≤ 1048576) :
    Calls Try.prog 32 #[.slice al ll cl, .agg #[.float .f32 l, .float .f32 s, .slice a len cap, .int .i64 t], .agg #[.float .f32 c0, .float .f32 c1, .float .f32 c2, .float .f32 c3]] w (RetRun 22 (rnL (rnM ⟨l, s, zs, t⟩ xs c0 c1 c2 c3) (rnB ⟨l, s, zs, t⟩ xs c0 c1 c2 c3 ll) ll) (rnB ⟨l, s, zs, t⟩ xs c0 c1 c2 c3 ll) w) := by
  have b1 := (Below.refl w.heap.size w).alloc (Nat.le_refl _) (.cells #[.float .f32 l, .float .f32 s, .slice a len cap, .int .i64 t] 29)
  have b2 := b1.alloc (by simp) (.cells #[.float .f32 c0, .float .f32 c1, .float .f32 c2, .float .f32 c3] 33)
  have HS := Lib.hid ((StIn.new w l s a len cap t 29).alloc (.cells #[.float .f32 c0, .float .f32 c1, .float .f32 c2, .float .f32 c3] 33))
  have HH := Lib.hid (show ShIn ((w.alloc (.cells #[.float .f32 l, .float .f32 s, .slice a len cap, .int .i64 t] 29)).alloc (.cells #[.float .f32 c0, .float .f32 c1, .float .f32 c2, .float .f32 c3] 33)) (w.heap.size + 1) c0 c1 c2 c3 from by simpa using ShIn.new (w.alloc (.cells #[.float .f32 l, .float .f32 s, .slice a len cap, .int .i64 t] 29)) c0 c1 c2 c3 33)
  have G := Lib.hid b2
  have HX := Lib.hid (FSl.below hx b2)
  have HZ := Lib.hid (FSl.below h b2)
  clear b1 b2 hx h
  go_enter Try.func32, Try.ntmps32
  go_wp2_with fail
  refine (spRun_any _ _ _ _ _ xs _ _ _ _ _ zs _ _ _ _ _ _ HS.out HH.out HX.out HZ.out hml hm).mono ?_
  rintro e w4 ⟨A, cp, vG, vM, rG, rM, rfl, h1, h2, h3, eg, em, bb⟩
  have GF := Lib.hid ((G.out.trans (bb.mono G.out.size)).alloc (by have := G.out.size; have := bb.size; omega) (.cells #[.float .f32 (rnS ⟨l, s, zs, t⟩ xs c0 c1 c2 c3 ll).l, .float .f32 (rnS ⟨l, s, zs, t⟩ xs c0 c1 c2 c3 ll).s, .slice A (rnS ⟨l, s, zs, t⟩ xs c0 c1 c2 c3 ll).zs.length cp, .int .i64 (rnS ⟨l, s, zs, t⟩ xs c0 c1 c2 c3 ll).t] 29))
  have HF := Lib.hid (FOwn.mono (h3.alloc (.cells #[.float .f32 (rnS ⟨l, s, zs, t⟩ xs c0 c1 c2 c3 ll).l, .float .f32 (rnS ⟨l, s, zs, t⟩ xs c0 c1 c2 c3 ll).s, .slice A (rnS ⟨l, s, zs, t⟩ xs c0 c1 c2 c3 ll).zs.length cp, .int .i64 (rnS ⟨l, s, zs, t⟩ xs c0 c1 c2 c3 ll).t] 29)) G.out.size)
  have HE := Lib.hid em
  clear h1 h2 h3 eg em bb HX HZ HS HH G
  go_wp2_with fail
  go_ret2
  exact ⟨vM, rM, rfl, HF.out, HE.out, GF.out⟩
set_option maxHeartbeats 2000000 in
set_option maxRecDepth 100000 in
theorem spGuesses_any (al : Option Addr) (ll cl : Nat) (xs : List Nat) (l s : Nat) (a : Option Addr) (len cap : Nat) (zs : List Nat) (t : Int) (c0 c1 c2 c3 : Nat) (w : World) (hx : FSl w al ll xs) (h : FSl w a len zs) (hml : ll ≤ 1048576) (hm : len ≤ 1048576) :
    Calls Try.prog 29 #[.slice al ll cl, .agg #[.float .f32 l, .float .f32 s, .slice a len cap, .int .i64 t], .agg #[.float .f32 c0, .float .f32 c1, .float .f32 c2, .float .f32 c3]] w (RetRun 22 (rnL (rnG ⟨l, s, zs, t⟩ xs c0 c1 c2 c3) (rnB ⟨l, s, zs, t⟩ xs c0 c1 c2 c3 ll) ll) (rnB ⟨l, s, zs, t⟩ xs c0 c1 c2 c3 ll) w) := by
  have b1 := (Below.refl w.heap.size w).alloc (Nat.le_refl _) (.cells #[.float .f32 l, .float .f32 s, .slice a len cap, .int .i64 t] 29)
  have b2 := b1.alloc (by simp) (.cells #[.float .f32 c0, .float .f32 c1, .float .f32 c2, .float .f32 c3] 33)
  have HS := Lib.hid ((StIn.new w l s a len cap t 29).alloc (.cells #[.float .f32 c0, .float .f32 c1, .float .f32 c2, .float .f32 c3] 33))
  have HH := Lib.hid (show ShIn ((w.alloc (.cells #[.float .f32 l, .float .f32 s, .slice a len cap, .int .i64 t] 29)).alloc (.cells #[.float .f32 c0, .float .f32 c1, .float .f32 c2, .float .f32 c3] 33)) (w.heap.size + 1) c0 c1 c2 c3 from by simpa using ShIn.new (w.alloc (.cells #[.float .f32 l, .float .f32 s, .slice a len cap, .int .i64 t] 29)) c0 c1 c2 c3 33)
  have G := Lib.hid b2
  have HX := Lib.hid (FSl.below hx b2)
  have HZ := Lib.hid (FSl.below h b2)
  clear b1 b2 hx h
  go_enter Try.func29, Try.ntmps29
  go_wp2_with fail
  refine (spRun_any _ _ _ _ _ xs _ _ _ _ _ zs _ _ _ _ _ _ HS.out HH.out HX.out HZ.out hml hm).mono ?_
  rintro e w4 ⟨A, cp, vG, vM, rG, rM, rfl, h1, h2, h3, eg, em, bb⟩
  have GF := Lib.hid ((G.out.trans (bb.mono G.out.size)).alloc (by have := G.out.size; have := bb.size; omega) (.cells #[.float .f32 (rnS ⟨l, s, zs, t⟩ xs c0 c1 c2 c3 ll).l, .float .f32 (rnS ⟨l, s, zs, t⟩ xs c0 c1 c2 c3 ll).s, .slice A (rnS ⟨l, s, zs, t⟩ xs c0 c1 c2 c3 ll).zs.length cp, .int .i64 (rnS ⟨l, s, zs, t⟩ xs c0 c1 c2 c3 ll).t] 29))
  have HF := Lib.hid (FOwn.mono (h2.alloc (.cells #[.float .f32 (rnS ⟨l, s, zs, t⟩ xs c0 c1 c2 c3 ll).l, .float .f32 (rnS ⟨l, s, zs, t⟩ xs c0 c1 c2 c3 ll).s, .slice A (rnS ⟨l, s, zs, t⟩ xs c0 c1 c2 c3 ll).zs.length cp, .int .i64 (rnS ⟨l, s, zs, t⟩ xs c0 c1 c2 c3 ll).t] 29)) G.out.size)
  have HE := Lib.hid eg
  clear h1 h2 h3 eg em bb HX HZ HS HH G
  go_wp2_with fail
  go_ret2
  exact ⟨vG, rG, rfl, HF.out, HE.out, GF.out⟩
set_option maxHeartbeats 2000000 in
set_option maxRecDepth 100000 in
theorem spRuns_any (al : Option Addr) (ll cl : Nat) (xs : List Nat) (l s : Nat) (a : Option Addr) (len cap : Nat) (zs : List Nat) (t : Int) (c0 c1 c2 c3 : Nat) (w : World) (hx : FSl w al ll xs) (h : FSl w a len zs) (hml : ll ≤ 1048576) (hm : len ≤ 1048576) :
    Calls Try.prog 24 #[.slice al ll cl, .agg #[.float .f32 l, .float .f32 s, .slice a len cap, .int .i64 t], .agg #[.float .f32 c0, .float .f32 c1, .float .f32 c2, .float .f32 c3]] w fun e w' => ∃ A cp, e = .returned (.tuple #[.agg #[.float .f32 (rnS ⟨l, s, zs, t⟩ xs c0 c1 c2 c3 ll).l, .float .f32 (rnS ⟨l, s, zs, t⟩ xs c0 c1 c2 c3 ll).s, .slice A (rnS ⟨l, s, zs, t⟩ xs c0 c1 c2 c3 ll).zs.length cp, .int .i64 (rnS ⟨l, s, zs, t⟩ xs c0 c1 c2 c3 ll).t], .bool (rnB ⟨l, s, zs, t⟩ xs c0 c1 c2 c3 ll)]) ∧ FOwn 22 w.heap.size w' (.slice A (rnS ⟨l, s, zs, t⟩ xs c0 c1 c2 c3 ll).zs.length cp) (rnS ⟨l, s, zs, t⟩ xs c0 c1 c2 c3 ll).zs ∧ Below w.heap.size w w' := by
  have HRES := Lib.hid (show Try.f24.results = #[.cell 6 29, .tmp 7] by kernel_rfl)
  have b1 := (Below.refl w.heap.size w).alloc (Nat.le_refl _) (.cells #[.float .f32 l, .float .f32 s, .slice a len cap, .int .i64 t] 29)
  have b2 := b1.alloc (by simp) (.cells #[.float .f32 c0, .float .f32 c1, .float .f32 c2, .float .f32 c3] 33)
  have b3 := b2.alloc (by simp; omega) (.cells #[.float .f32 0, .float .f32 0, .slice none 0 0, .int .i64 0] 29)
  have HO := Lib.hid (CIs.newAt ((w.alloc (.cells #[.float .f32 l, .float .f32 s, .slice a len cap, .int .i64 t] 29)).alloc (.cells #[.float .f32 c0, .float .f32 c1, .float .f32 c2, .float .f32 c3] 33)) [.float .f32 0, .float .f32 0, .slice none 0 0, .int .i64 0] 29 (p := w.heap.size + 1 + 1) (by simp))
  have HS := Lib.hid (((StIn.new w l s a len cap t 29).alloc (.cells #[.float .f32 c0, .float .f32 c1, .float .f32 c2, .float .f32 c3] 33)).alloc (.cells #[.float .f32 0, .float .f32 0, .slice none 0 0, .int .i64 0] 29))
  have HH := Lib.hid ((show ShIn ((w.alloc (.cells #[.float .f32 l, .float .f32 s, .slice a len cap, .int .i64 t] 29)).alloc (.cells #[.float .f32 c0, .float .f32 c1, .float .f32 c2, .float .f32 c3] 33)) (w.heap.size + 1) c0 c1 c2 c3 from by simpa using ShIn.new (w.alloc (.cells #[.float .f32 l, .float .f32 s, .slice a len cap, .int .i64 t] 29)) c0 c1 c2 c3 33).alloc (.cells #[.float .f32 0, .float .f32 0, .slice none 0 0, .int .i64 0] 29))
  have G := Lib.hid b3
  have HX := Lib.hid (FSl.below hx b3)
  have HZ := Lib.hid (FSl.below h b3)
  clear b1 b2 b3 hx h
  go_enter Try.func24, Try.ntmps24
  go_wp2_with fail
  refine (spRun_any _ _ _ _ _ xs _ _ _ _ _ zs _ _ _ _ _ _ HS.out HH.out HX.out HZ.out hml hm).mono ?_
  rintro e w4 ⟨A, cp, vG, vM, rG, rM, rfl, h1, h2, h3, eg, em, bb⟩
  have hsz := HO.out.1
  replace HO := Lib.hid ((HO.out.below bb).alloc (.cells #[.float .f32 (rnS ⟨l, s, zs, t⟩ xs c0 c1 c2 c3 ll).l, .float .f32 (rnS ⟨l, s, zs, t⟩ xs c0 c1 c2 c3 ll).s, .slice A (rnS ⟨l, s, zs, t⟩ xs c0 c1 c2 c3 ll).zs.length cp, .int .i64 (rnS ⟨l, s, zs, t⟩ xs c0 c1 c2 c3 ll).t] 29))
  have hne := own_far h1 hsz
  have hgs := G.out.size
  have hbs := bb.size
  have GF := Lib.hid (((((G.out.trans (bb.mono G.out.size)).alloc (by omega) (.cells #[.float .f32 (rnS ⟨l, s, zs, t⟩ xs c0 c1 c2 c3 ll).l, .float .f32 (rnS ⟨l, s, zs, t⟩ xs c0 c1 c2 c3 ll).s, .slice A (rnS ⟨l, s, zs, t⟩ xs c0 c1 c2 c3 ll).zs.length cp, .int .i64 (rnS ⟨l, s, zs, t⟩ xs c0 c1 c2 c3 ll).t] 29)).setCell (p := ⟨w.heap.size + 1 + 1, 0, none⟩) (by show w.heap.size ≤ w.heap.size + 1 + 1; omega) (.float .f32 (rnS ⟨l, s, zs, t⟩ xs c0 c1 c2 c3 ll).l)).setCell (p := ⟨w.heap.size + 1 + 1, 1, none⟩) (by show w.heap.size ≤ w.heap.size + 1 + 1; omega) (.float .f32 (rnS ⟨l, s, zs, t⟩ xs c0 c1 c2 c3 ll).s)).setCell (p := ⟨w.heap.size + 1 + 1, 2, none⟩) (by show w.heap.size ≤ w.heap.size + 1 + 1; omega) (.slice A (rnS ⟨l, s, zs, t⟩ xs c0 c1 c2 c3 ll).zs.length cp) |>.setCell (p := ⟨w.heap.size + 1 + 1, 3, none⟩) (by show w.heap.size ≤ w.heap.size + 1 + 1; omega) (.int .i64 (rnS ⟨l, s, zs, t⟩ xs c0 c1 c2 c3 ll).t))
  have HF := Lib.hid (FOwn.mono (own_else (own_else (own_else (own_else (h1.alloc (.cells #[.float .f32 (rnS ⟨l, s, zs, t⟩ xs c0 c1 c2 c3 ll).l, .float .f32 (rnS ⟨l, s, zs, t⟩ xs c0 c1 c2 c3 ll).s, .slice A (rnS ⟨l, s, zs, t⟩ xs c0 c1 c2 c3 ll).zs.length cp, .int .i64 (rnS ⟨l, s, zs, t⟩ xs c0 c1 c2 c3 ll).t] 29)) hne 0 (.float .f32 (rnS ⟨l, s, zs, t⟩ xs c0 c1 c2 c3 ll).l)) hne 1 (.float .f32 (rnS ⟨l, s, zs, t⟩ xs c0 c1 c2 c3 ll).s)) hne 2 (.slice A (rnS ⟨l, s, zs, t⟩ xs c0 c1 c2 c3 ll).zs.length cp)) hne 3 (.int .i64 (rnS ⟨l, s, zs, t⟩ xs c0 c1 c2 c3 ll).t)) G.out.size)
  have HN := Lib.hid (CIs.newAt w4 [.float .f32 (rnS ⟨l, s, zs, t⟩ xs c0 c1 c2 c3 ll).l, .float .f32 (rnS ⟨l, s, zs, t⟩ xs c0 c1 c2 c3 ll).s, .slice A (rnS ⟨l, s, zs, t⟩ xs c0 c1 c2 c3 ll).zs.length cp, .int .i64 (rnS ⟨l, s, zs, t⟩ xs c0 c1 c2 c3 ll).t] 29 (p := w4.heap.size) rfl)
  clear h1 h2 h3 eg em bb HX HZ HS HH G hne
  obtain ⟨g0, g1, g2, g3⟩ := HO.out.c4
  obtain ⟨f0, f1, f2, f3⟩ := HO.out.f4
  obtain ⟨k0, k1, k2, k3⟩ := HN.out.c4
  go_wp2_with fail
  refine bodyPost_ret (v := .tuple #[.agg #[.float .f32 (rnS ⟨l, s, zs, t⟩ xs c0 c1 c2 c3 ll).l, .float .f32 (rnS ⟨l, s, zs, t⟩ xs c0 c1 c2 c3 ll).s, .slice A (rnS ⟨l, s, zs, t⟩ xs c0 c1 c2 c3 ll).zs.length cp, .int .i64 (rnS ⟨l, s, zs, t⟩ xs c0 c1 c2 c3 ll).t], .bool (rnB ⟨l, s, zs, t⟩ xs c0 c1 c2 c3 ll)]) ?_ rfl ?_
  · have hres := HRES.out
    simp only [results, hres]
    go_simp
  · exact ⟨A, cp, rfl, HF.out, GF.out⟩
end Go.Proofs.Ytgddfhmddkhaeaa

/-
  GuessesOf and MissesOf, in one form for both packages.
-/
namespace Go.Proofs.Ytgddfhmddkhaeaa
open Ieee Go.RowKit
set_option linter.unusedVariables false
theorem rnL_len (f : Nat → Nat) (b : Bool) (n : Nat) (h : n ≤ 1048576) : (rnL f b n).length ≤ 1048576 := by
  unfold rnL
  split
  · rw [tells_len]; exact h
  · simp
theorem rnS_len (q : Stt) (xs : List Nat) (a b c d n : Nat) (h : q.zs.length ≤ 1048576) : (rnS q xs a b c d n).zs.length ≤ 1048576 := by
  unfold rnS
  split
  · exact Nat.le_trans (rnQ_len _ _ _ _ _ _ _) h
  · simp
theorem spMissesO (al : Option Addr) (ll cl : Nat) (xs : List Nat) (l s : Nat) (a : Option Addr) (len cap : Nat) (zs : List Nat) (t : Int) (c0 c1 c2 c3 : Nat) (w : World) (hx : FSl w al ll xs) (h : FSl w a len zs) (hml : ll ≤ 1048576) (hm : len ≤ 1048576) :
    Calls Try.prog 32 #[.slice al ll cl, .agg #[.float .f32 l, .float .f32 s, .slice a len cap, .int .i64 t], .agg #[.float .f32 c0, .float .f32 c1, .float .f32 c2, .float .f32 c3]] w (RetOB 22 (rnL (rnM ⟨l, s, zs, t⟩ xs c0 c1 c2 c3) (rnB ⟨l, s, zs, t⟩ xs c0 c1 c2 c3 ll) ll) (rnB ⟨l, s, zs, t⟩ xs c0 c1 c2 c3 ll) w) :=
  spMisses_any al ll cl xs l s a len cap zs t c0 c1 c2 c3 w hx h hml hm
theorem imMissesO (al : Option Addr) (ll cl : Nat) (xs : List Nat) (l s : Nat) (a : Option Addr) (len cap : Nat) (zs : List Nat) (t : Int) (c0 c1 c2 c3 : Nat) (w : World) (hx : FSl w al ll xs) (h : FSl w a len zs) (hml : ll ≤ 1048576) (hm : len ≤ 1048576) :
    Calls Try.prog 33 #[.slice al ll cl, .agg #[.float .f32 l, .float .f32 s, .slice a len cap, .int .i64 t], .agg #[.float .f32 c0, .float .f32 c1, .float .f32 c2, .float .f32 c3]] w (RetOB 22 (rnL (rnM ⟨l, s, zs, t⟩ xs c0 c1 c2 c3) (rnB ⟨l, s, zs, t⟩ xs c0 c1 c2 c3 ll) ll) (rnB ⟨l, s, zs, t⟩ xs c0 c1 c2 c3 ll) w) :=
  imMisses_any al ll cl xs l s a len cap zs t c0 c1 c2 c3 w hx h hml hm
theorem spGuessesO (al : Option Addr) (ll cl : Nat) (xs : List Nat) (l s : Nat) (a : Option Addr) (len cap : Nat) (zs : List Nat) (t : Int) (c0 c1 c2 c3 : Nat) (w : World) (hx : FSl w al ll xs) (h : FSl w a len zs) (hml : ll ≤ 1048576) (hm : len ≤ 1048576) :
    Calls Try.prog 29 #[.slice al ll cl, .agg #[.float .f32 l, .float .f32 s, .slice a len cap, .int .i64 t], .agg #[.float .f32 c0, .float .f32 c1, .float .f32 c2, .float .f32 c3]] w (RetOB 22 (rnL (rnG ⟨l, s, zs, t⟩ xs c0 c1 c2 c3) (rnB ⟨l, s, zs, t⟩ xs c0 c1 c2 c3 ll) ll) (rnB ⟨l, s, zs, t⟩ xs c0 c1 c2 c3 ll) w) :=
  spGuesses_any al ll cl xs l s a len cap zs t c0 c1 c2 c3 w hx h hml hm
theorem imGuessesO (al : Option Addr) (ll cl : Nat) (xs : List Nat) (l s : Nat) (a : Option Addr) (len cap : Nat) (zs : List Nat) (t : Int) (c0 c1 c2 c3 : Nat) (w : World) (hx : FSl w al ll xs) (h : FSl w a len zs) (hml : ll ≤ 1048576) (hm : len ≤ 1048576) :
    Calls Try.prog 30 #[.slice al ll cl, .agg #[.float .f32 l, .float .f32 s, .slice a len cap, .int .i64 t], .agg #[.float .f32 c0, .float .f32 c1, .float .f32 c2, .float .f32 c3]] w (RetOB 22 (rnL (rnG ⟨l, s, zs, t⟩ xs c0 c1 c2 c3) (rnB ⟨l, s, zs, t⟩ xs c0 c1 c2 c3 ll) ll) (rnB ⟨l, s, zs, t⟩ xs c0 c1 c2 c3 ll) w) :=
  imGuesses_any al ll cl xs l s a len cap zs t c0 c1 c2 c3 w hx h hml hm
end Go.Proofs.Ytgddfhmddkhaeaa

