/-
  An append to an empty slice that was made: a new block.
-/
import Derived.Test.YtgddfhmddkhaeaaRgm
import Derived.Test.YtgddfhmddkhaeaaStp
import Derived.Laws.Append
import Derived.Test.YtgddfhmddkhaeaaCUnd
import Derived.Test.YtgddfhmddkhaeaaCis
import Derived.Deep.DeepCutAuto
import Derived.Test.YtgddfhmddkhaeaaStl
namespace Go.Proofs.Ytgddfhmddkhaeaa
open Ieee Go.RowKit
set_option linter.unusedVariables false
theorem wp_append_new {P : Program} {w : World} {o : Oper} {a : Act} {K : Act → World → Prop} {Q : Exit → Act → World → Prop} (s x : Operand) (t : TypeId)
    (ho : o.op = .call { callee := .builtin .append, args := #[s, x], argTypes := #[t, t] })
    (e : TypeId) (i : TypeInfo) (z : Value) (ht : P.underlying t = some (.slice e)) (hi : P.info? e = some i) (hz : i.zero = some z) (hsize : i.size = 1) (hby : i.bytes = 4)
    (b : Addr) (hs : a.eval s = .slice (some b) 0 0) (ad : Addr) (m c : Nat) (news : List Value) (hx : a.eval x = .slice (some ad) m c) (hl : news.length = m) (hnews : ∀ j u, news[j]? = some u → w.cell? (ad.add j) = some u)
    (hm : 0 < m) (h63 : m ≤ 1048576)
    (h : ∀ cap, m ≤ cap → cap ≤ maxLen → K (a.put o.dst (.slice (some ⟨w.heap.size, 0, none⟩) m cap)) (w.drew.alloc (.cells (news.toArray ++ Builtin.zeroCells z.cells (cap - m)) e))) : o.wp P a w K Q := by
  have hr := run_append_grow (P := P) w t o.type e i z ht hi hz b 0 0 [] (by simp) (by simp) ad m c news (by rw [hsize, hl, Nat.mul_one]) hnews (by omega) (by omega) (by
    rw [hby, Nat.zero_add, nextslicecap_zero hm]; omega)
  have h2 := h (grownCap w (0 + m) 0 e) (Nat.le_trans (by omega) (grownCap_ge w (0 + m) 0 e)) (grownCap_le_maxLen w (0 + m) 0 e (by unfold maxLen; omega))
  unfold Oper.wp execOp
  simp only [ho, resolve, invoke, builtin, Sem.run_bind, Sem.run_pure, Result.andThen_ok, List.map_toArray, List.map_cons, List.map_nil, hs, hx, hr]
  simpa [Oper.upon] using h2
theorem own_new {T : TypeId} {w : World} {zs : List Nat} {cap : Nat} (z : Value) (hz : z.cells.size = 1) (h1 : zs.length ≤ cap) (h2 : cap ≤ maxLen) :
    FOwn T w.heap.size (w.drew.alloc (.cells ((zs.map (Value.float .f32)).toArray ++ Builtin.zeroCells z.cells (cap - zs.length)) T)) (.slice (some ⟨w.heap.size, 0, none⟩) zs.length cap) zs := by
  refine ⟨by simp, .inr ⟨w.heap.size, cap, _, rfl, Nat.le_refl _, heap_alloc_new w.drew _, h1, h2, ?_, ?_⟩⟩
  · rw [Array.size_append, size_zeroCells, hz]; simp; omega
  · rw [Array.toList_append]
    rw [List.take_append_of_le_length (by simp), Nat.mul_one]
    exact List.take_of_length_le (by simp)
end Go.Proofs.Ytgddfhmddkhaeaa

/-
  A state of its own, in the model.
-/
namespace Go.Proofs.Ytgddfhmddkhaeaa
open Ieee Go.RowKit
set_option linter.unusedVariables false
def owR (B p l s b off len cap : Nat) (zs : List Nat) (t : Int) : Nat → Value → World → Prop
  | 0, v, w => v = (.pointer (some ⟨p, 0, none⟩))
  | 1, v, w => v = (.pointer (some ⟨p, 0, none⟩))
  | 2, v, w => v = (.pointer (some ⟨p, 0, none⟩))
  | 3, v, w => v = (.float .f32 l)
  | 4, v, w => v = (.pointer (some ⟨p, 0, none⟩))
  | 5, v, w => v = (.pointer (some ⟨p, 0, none⟩))
  | 6, v, w => v = (.pointer (some ⟨p, 1, none⟩))
  | 7, v, w => v = (.float .f32 s)
  | 8, v, w => ∃ g, v = .slice (some ⟨g, 0, none⟩) 0 0
  | 9, v, w => v = (.pointer (some ⟨p, 0, none⟩))
  | 10, v, w => v = (.pointer (some ⟨p, 0, none⟩))
  | 11, v, w => v = (.pointer (some ⟨p, 2, none⟩))
  | 12, v, w => v = (.slice (some ⟨b, off, none⟩) len cap)
  | 13, v, w => FOwn 22 B w v zs
  | 14, v, w => v = (.pointer (some ⟨p, 0, none⟩))
  | 15, v, w => v = (.pointer (some ⟨p, 0, none⟩))
  | 16, v, w => v = (.pointer (some ⟨p, 3, none⟩))
  | 17, v, w => v = (.int .i64 t)
  | 18, v, w => ∃ v0, v = .agg #[.float .f32 l, .float .f32 s, v0, .int .i64 t] ∧ FOwn 22 B w v0 zs
  | _, _, _ => True
theorem owR_mono (B p l s b off len cap : Nat) (zs : List Nat) (t : Int) : ∀ i v w w', owR B p l s b off len cap zs t i v w → Below w.heap.size w w' → owR B p l s b off len cap zs t i v w'
  := by
  intro i v w w' h hb
  unfold owR at *
  split
  · exact h
  · exact h
  · exact h
  · exact h
  · exact h
  · exact h
  · exact h
  · exact h
  · exact h
  · exact h
  · exact h
  · exact h
  · exact h
  · exact (FOwn.keepS h hb)
  · exact h
  · exact h
  · exact h
  · exact h
  · exact (by obtain ⟨v0, h1, h2⟩ := h; exact ⟨v0, h1, FOwn.keepS h2 hb⟩)
  · trivial
set_option maxHeartbeats 4000000 in
set_option maxRecDepth 100000 in
theorem spOwn_any (p l s : Nat) (a : Option Addr) (len cap : Nat) (zs : List Nat) (t : Int) (w : World) (hin : StIn w p l s a len cap t) (h : FSl w a len zs) (hl0 : 0 < len) (hm : len ≤ 1048576) :
    Calls Try.prog 121 #[.pointer (some ⟨p, 0, none⟩)] w fun e w' => ∃ v, e = .returned (.agg #[.float .f32 l, .float .f32 s, v, .int .i64 t]) ∧ FOwn 22 w.heap.size w' v zs ∧ Below w.heap.size w w' := by
  obtain ⟨i0, hi, hz0, hz1, hz2⟩ := info_parts Try.infoR
  have HRES := Lib.hid (show Try.f121.results = #[.cell 2 29] by kernel_rfl)
  have G := Lib.hid ((Below.refl w.heap.size w).alloc (Nat.le_refl _) (.cells #[.float .f32 0, .float .f32 0, .slice none 0 0, .int .i64 0] 29))
  have HS := Lib.hid (hin.alloc (.cells #[.float .f32 0, .float .f32 0, .slice none 0 0, .int .i64 0] 29))
  have HR := Lib.hid (CIs.newAt w [.float .f32 0, .float .f32 0, .slice none 0 0, .int .i64 0] 29 (p := w.heap.size) rfl)
  have HZ := Lib.hid (FSl.below h G.out)
  have HL := Lib.hid h.1
  obtain ⟨b, off, rfl, hbl, -⟩ := h.at hl0
  clear h hin hbl
  go_enter Try.func121, Try.ntmps121
  go_upto_region 1 with fail
  have hWs : w.heap.size < (w.alloc (.cells #[.float .f32 0, .float .f32 0, .slice none 0 0, .int .i64 0] 29)).heap.size := by simp
  generalize w.alloc (.cells #[.float .f32 0, .float .f32 0, .slice none 0 0, .int .i64 0] 29) = W at *
  refine wp_region_ML (m := 19) (owR W.heap.size p l s b off len cap zs t) (by kernel_rfl) (owR_mono W.heap.size p l s b off len cap zs t) (by kernel_rfl) (by kernel_rfl) (by rfl) (by rfl) (by rfl) ?_ ?_
  · refine ⟨?_, ?_, ?_, ?_, ?_, ?_, ?_, ?_, ?_, ?_, ?_, ?_, ?_, ?_, ?_, ?_, ?_, ?_, ?_, trivial⟩
    · refine opM_do rfl (fun a_ w' hS hf K hK => ?_)
      have s0 : a_.tmps.getD 0 undef = (.pointer (some ⟨p, 0, none⟩)) := (hS.rest 0 (by kernel_rfl)).trans rfl
      go_simp
      exact hK _ _ (Below.refl _ _) rfl
    · refine opM_do rfl (fun a_ w' hS hf K hK => ?_)
      have s3 : a_.tmps.getD 3 undef = (.pointer (some ⟨p, 0, none⟩)) := hf 0 (by kernel_rfl) _ 3 rfl rfl
      go_simp
      exact hK _ _ (Below.refl _ _) rfl
    · refine opM_do rfl (fun a_ w' hS hf K hK => ?_)
      have s4 : a_.tmps.getD 4 undef = (.pointer (some ⟨p, 0, none⟩)) := hf 1 (by kernel_rfl) _ 4 rfl rfl
      go_simp
      exact hK _ _ (Below.refl _ _) rfl
    · refine opM_do rfl (fun a_ w' hS hf K hK => ?_)
      have s5 : a_.tmps.getD 5 undef = (.pointer (some ⟨p, 0, none⟩)) := hf 2 (by kernel_rfl) _ 5 rfl rfl
      obtain ⟨k0, k1, k2, k3⟩ := StIn.below HS.out.drew hS.below
      go_simp
      exact hK _ _ (Below.refl _ _) rfl
    · refine opM_do rfl (fun a_ w' hS hf K hK => ?_)
      have s0 : a_.tmps.getD 0 undef = (.pointer (some ⟨p, 0, none⟩)) := (hS.rest 0 (by kernel_rfl)).trans rfl
      go_simp
      exact hK _ _ (Below.refl _ _) rfl
    · refine opM_do rfl (fun a_ w' hS hf K hK => ?_)
      have s7 : a_.tmps.getD 7 undef = (.pointer (some ⟨p, 0, none⟩)) := hf 4 (by kernel_rfl) _ 7 rfl rfl
      go_simp
      exact hK _ _ (Below.refl _ _) rfl
    · refine opM_do rfl (fun a_ w' hS hf K hK => ?_)
      have s8 : a_.tmps.getD 8 undef = (.pointer (some ⟨p, 0, none⟩)) := hf 5 (by kernel_rfl) _ 8 rfl rfl
      go_simp
      exact hK _ _ (Below.refl _ _) rfl
    · refine opM_do rfl (fun a_ w' hS hf K hK => ?_)
      have s9 : a_.tmps.getD 9 undef = (.pointer (some ⟨p, 1, none⟩)) := hf 6 (by kernel_rfl) _ 9 rfl rfl
      obtain ⟨k0, k1, k2, k3⟩ := StIn.below HS.out.drew hS.below
      go_simp
      exact hK _ _ (Below.refl _ _) rfl
    · refine opM_do rfl (fun a_ w' hS hf K hK => ?_)
      go_simp
      exact hK _ _ ((Below.refl _ _).alloc (Nat.le_refl _) _) ⟨_, rfl⟩
    · refine opM_do rfl (fun a_ w' hS hf K hK => ?_)
      have s0 : a_.tmps.getD 0 undef = (.pointer (some ⟨p, 0, none⟩)) := (hS.rest 0 (by kernel_rfl)).trans rfl
      go_simp
      exact hK _ _ (Below.refl _ _) rfl
    · refine opM_do rfl (fun a_ w' hS hf K hK => ?_)
      have s12 : a_.tmps.getD 12 undef = (.pointer (some ⟨p, 0, none⟩)) := hf 9 (by kernel_rfl) _ 12 rfl rfl
      go_simp
      exact hK _ _ (Below.refl _ _) rfl
    · refine opM_do rfl (fun a_ w' hS hf K hK => ?_)
      have s13 : a_.tmps.getD 13 undef = (.pointer (some ⟨p, 0, none⟩)) := hf 10 (by kernel_rfl) _ 13 rfl rfl
      go_simp
      exact hK _ _ (Below.refl _ _) rfl
    · refine opM_do rfl (fun a_ w' hS hf K hK => ?_)
      have s14 : a_.tmps.getD 14 undef = (.pointer (some ⟨p, 2, none⟩)) := hf 11 (by kernel_rfl) _ 14 rfl rfl
      obtain ⟨k0, k1, k2, k3⟩ := StIn.below HS.out.drew hS.below
      go_simp
      exact hK _ _ (Below.refl _ _) rfl
    · refine opM_do rfl (fun a_ w' hS hf K hK => ?_)
      obtain ⟨g11, s11⟩ := (show ∃ g, (a_.tmps.getD 11 undef) = .slice (some ⟨g, 0, none⟩) 0 0 from hf 8 (by kernel_rfl) _ 11 rfl rfl)
      have s15 : a_.tmps.getD 15 undef = (.slice (some ⟨b, off, none⟩) len cap) := hf 12 (by kernel_rfl) _ 15 rfl rfl
      have F1 := FSl.below (FSl.drewN HZ.out 1) hS.below
      have hB := hS.below.size
      have hN := F1.news hl0
      have hZl := HL.out
      clear hf hS
      refine wp_append_new (.tmp 11) (.tmp 15) 23 rfl 22 i0 (.float .f32 0) Try.underlying23 hi hz0 hz1 hz2 _ s11 ⟨b, off, none⟩ len cap (zs.map (Value.float .f32)) s15 (by rw [List.length_map, hZl]) hN hl0 hm ?_
      intro cp h1 h2
      subst hZl
      exact hK _ _ ((below_drewN (Below.refl _ _) 1).alloc (Nat.le_refl _) _) ((own_new (.float .f32 0) rfl h1 h2).mono hB)
    · refine opM_do rfl (fun a_ w' hS hf K hK => ?_)
      have s0 : a_.tmps.getD 0 undef = (.pointer (some ⟨p, 0, none⟩)) := (hS.rest 0 (by kernel_rfl)).trans rfl
      go_simp
      exact hK _ _ (Below.refl _ _) rfl
    · refine opM_do rfl (fun a_ w' hS hf K hK => ?_)
      have s17 : a_.tmps.getD 17 undef = (.pointer (some ⟨p, 0, none⟩)) := hf 14 (by kernel_rfl) _ 17 rfl rfl
      go_simp
      exact hK _ _ (Below.refl _ _) rfl
    · refine opM_do rfl (fun a_ w' hS hf K hK => ?_)
      have s18 : a_.tmps.getD 18 undef = (.pointer (some ⟨p, 0, none⟩)) := hf 15 (by kernel_rfl) _ 18 rfl rfl
      go_simp
      exact hK _ _ (Below.refl _ _) rfl
    · refine opM_do rfl (fun a_ w' hS hf K hK => ?_)
      have s19 : a_.tmps.getD 19 undef = (.pointer (some ⟨p, 3, none⟩)) := hf 16 (by kernel_rfl) _ 19 rfl rfl
      obtain ⟨k0, k1, k2, k3⟩ := StIn.below HS.out.drew hS.below
      go_simp
      exact hK _ _ (Below.refl _ _) rfl
    · refine opM_do rfl (fun a_ w' hS hf K hK => ?_)
      have s6 : a_.tmps.getD 6 undef = (.float .f32 l) := hf 3 (by kernel_rfl) _ 6 rfl rfl
      have s10 : a_.tmps.getD 10 undef = (.float .f32 s) := hf 7 (by kernel_rfl) _ 10 rfl rfl
      have o16 := (show FOwn 22 W.heap.size w' (a_.tmps.getD 16 undef) zs from hf 13 (by kernel_rfl) _ 16 rfl rfl)
      have s20 : a_.tmps.getD 20 undef = (.int .i64 t) := hf 17 (by kernel_rfl) _ 20 rfl rfl
      obtain ⟨A57, cp57, h57, -, -⟩ := o16.sl
      rw [h57] at o16
      have q6 : a_.tmps[6]?.getD undef = .float .f32 l := by rw [← Array.getD_eq_getD_getElem?]; exact s6
      have q10 : a_.tmps[10]?.getD undef = .float .f32 s := by rw [← Array.getD_eq_getD_getElem?]; exact s10
      have q16 : a_.tmps[16]?.getD undef = .slice A57 zs.length cp57 := by rw [← Array.getD_eq_getD_getElem?]; exact h57
      have q20 : a_.tmps[20]?.getD undef = .int .i64 t := by rw [← Array.getD_eq_getD_getElem?]; exact s20
      go_simp
      exact hK _ _ (Below.refl _ _) ⟨_, rfl, o16⟩
  · intro vs a_ w' hb hv ha
    have hlit : a_ = ⟨#[.pointer (some ⟨p, 0, none⟩), undef, .pointer (some ⟨w.heap.size, 0, none⟩), vs 0, vs 1, vs 2, vs 3, vs 4, vs 5, vs 6, vs 7, vs 8, vs 9, vs 10, vs 11, vs 12, vs 13, vs 14, vs 15, vs 16, vs 17, vs 18], []⟩ := ha.trans (by kernel_rfl)
    clear ha
    obtain ⟨v0, e1, ho⟩ := (show ∃ v0, (vs 18) = .agg #[.float .f32 l, .float .f32 s, v0, .int .i64 t] ∧ FOwn 22 W.heap.size w' v0 zs from hv 18 (by omega) (by kernel_rfl))
    rw [e1] at hlit
    clear hv e1
    subst hlit
    obtain ⟨bA, cA, rfl, hbA1, hbA2⟩ := own_blk ho HL.out hl0
    have R2 := Lib.hid (HR.out.drew.below hb)
    have G2 := Lib.hid ((below_drewN G.out 1).trans (hb.mono (below_drewN G.out 1).size))
    have HO := Lib.hid ho
    clear ho hb
    have hrA : (Value.slice (some ⟨bA, 0, none⟩) len cA).ownBlock ≠ some w.heap.size := fun e => by
      injection e with e
      have : bA = w.heap.size := e
      omega
    have O6 := Lib.hid (FOwn.mono (B' := w.heap.size) (own_else (own_else (own_else (own_else HO.out hrA 0 (.float .f32 l)) hrA 1 (.float .f32 s)) hrA 2 (.slice (some ⟨bA, 0, none⟩) len cA)) hrA 3 (.int .i64 t)) (by omega))
    obtain ⟨r0, r1, r2, r3⟩ := R2.out.c4
    obtain ⟨q0, q1, q2, q3⟩ := R2.out.f4
    go_simp
    go_wp2_with fail
    refine bodyPost_ret (v := .agg #[.float .f32 l, .float .f32 s, .slice (some ⟨bA, 0, none⟩) len cA, .int .i64 t]) ?_ rfl ⟨_, rfl, O6.out, ?_⟩
    · have hres := HRES.out
      simp only [results, hres]
      go_simp
    · exact ((((G2.out).setCell (by show w.heap.size ≤ w.heap.size; omega) _).setCell (by show w.heap.size ≤ w.heap.size; omega) _).setCell (by show w.heap.size ≤ w.heap.size; omega) _).setCell (by show w.heap.size ≤ w.heap.size; omega) _
end Go.Proofs.Ytgddfhmddkhaeaa

/-
  A step of the model.
-/
namespace Go.Proofs.Ytgddfhmddkhaeaa
open Ieee Go.RowKit
set_option linter.unusedVariables false
def l4R3 (p q g bA cA l s b off len cap k : Nat) (zs : List Nat) (c0 c1 c2 c3 x M : Nat) : Nat → Value → World → Prop
  | 0, v, w => v = (.pointer (some ⟨p, 0, none⟩))
  | 1, v, w => v = (.pointer (some ⟨p, 0, none⟩))
  | 2, v, w => v = (.pointer (some ⟨p, 0, none⟩))
  | 3, v, w => v = (.float .f32 l)
  | 4, v, w => v = (.pointer (some ⟨q, 0, none⟩))
  | 5, v, w => v = (.pointer (some ⟨q, 0, none⟩))
  | 6, v, w => v = (.pointer (some ⟨q, 3, none⟩))
  | 7, v, w => v = (.float .f32 c3)
  | 8, v, w => v = (.pointer (some ⟨p, 0, none⟩))
  | 9, v, w => v = (.pointer (some ⟨p, 0, none⟩))
  | 10, v, w => v = (.pointer (some ⟨p, 1, none⟩))
  | 11, v, w => v = (.float .f32 s)
  | 12, v, w => ∃ r, v = .float .f32 r ∧ cn .f32 r = (aop .mul .f32 (cn .f32 c3) (cn .f32 s))
  | 13, v, w => ∃ r, v = .float .f32 r ∧ cn .f32 r = (aop .add .f32 (cn .f32 l) (aop .mul .f32 (cn .f32 c3) (cn .f32 s)))
  | 14, v, w => v = (.pointer (some ⟨q, 0, none⟩))
  | 15, v, w => v = (.pointer (some ⟨q, 0, none⟩))
  | 16, v, w => v = (.pointer (some ⟨q, 0, none⟩))
  | 17, v, w => v = (.float .f32 c0)
  | 18, v, w => v = (.float .f32 M)
  | 19, v, w => ∃ r, v = .float .f32 r ∧ cn .f32 r = (aop .mul .f32 (cn .f32 c0) (cn .f32 M))
  | 20, v, w => ∃ r, v = .float .f32 r ∧ cn .f32 r = (aop .add .f32 (aop .add .f32 (cn .f32 l) (aop .mul .f32 (cn .f32 c3) (cn .f32 s))) (aop .mul .f32 (cn .f32 c0) (cn .f32 M)))
  | 21, v, w => v = (.pointer (some ⟨g, 0, none⟩))
  | _, _, _ => True
theorem l4R3_mono (p q g bA cA l s b off len cap k : Nat) (zs : List Nat) (c0 c1 c2 c3 x M : Nat) : ∀ i v w w', l4R3 p q g bA cA l s b off len cap k zs c0 c1 c2 c3 x M i v w → Below w.heap.size w w' → l4R3 p q g bA cA l s b off len cap k zs c0 c1 c2 c3 x M i v w'
  := by
  intro i v w w' h hb
  unfold l4R3 at *
  split
  · exact h
  · exact h
  · exact h
  · exact h
  · exact h
  · exact h
  · exact h
  · exact h
  · exact h
  · exact h
  · exact h
  · exact h
  · exact h
  · exact h
  · exact h
  · exact h
  · exact h
  · exact h
  · exact h
  · exact h
  · exact h
  · exact h
  · trivial
def l4R4 (p q g bA cA l s b off len cap k : Nat) (zs : List Nat) (c0 c1 c2 c3 x M : Nat) : Nat → Value → World → Prop
  | 0, v, w => v = (.pointer (some ⟨q, 0, none⟩))
  | 1, v, w => v = (.pointer (some ⟨q, 0, none⟩))
  | 2, v, w => v = (.pointer (some ⟨q, 3, none⟩))
  | 3, v, w => v = (.float .f32 c3)
  | 4, v, w => v = (.pointer (some ⟨p, 0, none⟩))
  | 5, v, w => v = (.pointer (some ⟨p, 0, none⟩))
  | 6, v, w => v = (.pointer (some ⟨p, 1, none⟩))
  | 7, v, w => v = (.float .f32 s)
  | 8, v, w => ∃ r, v = .float .f32 r ∧ cn .f32 r = (aop .mul .f32 (cn .f32 c3) (cn .f32 s))
  | 9, v, w => v = (.pointer (some ⟨q, 0, none⟩))
  | 10, v, w => v = (.pointer (some ⟨q, 0, none⟩))
  | 11, v, w => v = (.pointer (some ⟨q, 0, none⟩))
  | 12, v, w => v = (.float .f32 c0)
  | 13, v, w => v = (.pointer (some ⟨q, 0, none⟩))
  | 14, v, w => v = (.pointer (some ⟨q, 0, none⟩))
  | 15, v, w => v = (.pointer (some ⟨q, 1, none⟩))
  | 16, v, w => v = (.float .f32 c1)
  | 17, v, w => ∃ r, v = .float .f32 r ∧ cn .f32 r = (aop .mul .f32 (cn .f32 c0) (cn .f32 c1))
  | 18, v, w => v = (.float .f32 M)
  | 19, v, w => ∃ r, v = .float .f32 r ∧ cn .f32 r = (aop .mul .f32 (aop .mul .f32 (cn .f32 c0) (cn .f32 c1)) (cn .f32 M))
  | 20, v, w => ∃ r, v = .float .f32 r ∧ cn .f32 r = (aop .add .f32 (aop .mul .f32 (cn .f32 c3) (cn .f32 s)) (aop .mul .f32 (aop .mul .f32 (cn .f32 c0) (cn .f32 c1)) (cn .f32 M)))
  | 21, v, w => v = (.pointer (some ⟨g, 1, none⟩))
  | _, _, _ => True
theorem l4R4_mono (p q g bA cA l s b off len cap k : Nat) (zs : List Nat) (c0 c1 c2 c3 x M : Nat) : ∀ i v w w', l4R4 p q g bA cA l s b off len cap k zs c0 c1 c2 c3 x M i v w → Below w.heap.size w w' → l4R4 p q g bA cA l s b off len cap k zs c0 c1 c2 c3 x M i v w'
  := by
  intro i v w w' h hb
  unfold l4R4 at *
  split
  · exact h
  · exact h
  · exact h
  · exact h
  · exact h
  · exact h
  · exact h
  · exact h
  · exact h
  · exact h
  · exact h
  · exact h
  · exact h
  · exact h
  · exact h
  · exact h
  · exact h
  · exact h
  · exact h
  · exact h
  · exact h
  · exact h
  · trivial
def l4R5 (p q g bA cA l s b off len cap k : Nat) (zs : List Nat) (c0 c1 c2 c3 x M : Nat) : Nat → Value → World → Prop
  | 0, v, w => v = (.pointer (some ⟨g, 2, none⟩))
  | 1, v, w => v = (.slice (some ⟨bA, 0, none⟩) len cA)
  | 2, v, w => v = (.pointer (some ⟨p, 0, none⟩))
  | 3, v, w => v = (.pointer (some ⟨p, 0, none⟩))
  | 4, v, w => v = (.pointer (some ⟨p, 3, none⟩))
  | 5, v, w => v = (.int .i64 k)
  | 6, v, w => v = (.pointer (some ⟨p, 0, none⟩))
  | 7, v, w => v = (.pointer (some ⟨p, 0, none⟩))
  | 8, v, w => v = (.pointer (some ⟨p, 2, none⟩))
  | 9, v, w => v = (.slice (some ⟨b, off, none⟩) len cap)
  | 10, v, w => v = (.pointer (some ⟨p, 0, none⟩))
  | 11, v, w => v = (.pointer (some ⟨p, 0, none⟩))
  | 12, v, w => v = (.pointer (some ⟨p, 3, none⟩))
  | 13, v, w => v = (.int .i64 k)
  | 14, v, w => v = (.pointer (some ⟨b, off + k, none⟩))
  | 15, v, w => v = (.float .f32 (zs.getD k 0))
  | 16, v, w => v = (.pointer (some ⟨q, 0, none⟩))
  | 17, v, w => v = (.pointer (some ⟨q, 0, none⟩))
  | 18, v, w => v = (.pointer (some ⟨q, 2, none⟩))
  | 19, v, w => v = (.float .f32 c2)
  | 20, v, w => v = (.pointer (some ⟨q, 0, none⟩))
  | 21, v, w => v = (.pointer (some ⟨q, 0, none⟩))
  | 22, v, w => v = (.pointer (some ⟨q, 0, none⟩))
  | 23, v, w => v = (.float .f32 c0)
  | 24, v, w => ∃ r, v = .float .f32 r ∧ cn .f32 r = (aop .sub .f32 1065353216 (cn .f32 c0))
  | 25, v, w => ∃ r, v = .float .f32 r ∧ cn .f32 r = (aop .mul .f32 (cn .f32 c2) (aop .sub .f32 1065353216 (cn .f32 c0)))
  | 26, v, w => v = (.float .f32 M)
  | 27, v, w => ∃ r, v = .float .f32 r ∧ cn .f32 r = (aop .mul .f32 (aop .mul .f32 (cn .f32 c2) (aop .sub .f32 1065353216 (cn .f32 c0))) (cn .f32 M))
  | 28, v, w => ∃ r, v = .float .f32 r ∧ cn .f32 r = (aop .add .f32 (cn .f32 (zs.getD k 0)) (aop .mul .f32 (aop .mul .f32 (cn .f32 c2) (aop .sub .f32 1065353216 (cn .f32 c0))) (cn .f32 M)))
  | 29, v, w => v = (.pointer (some ⟨bA, k, none⟩))
  | _, _, _ => True
theorem l4R5_mono (p q g bA cA l s b off len cap k : Nat) (zs : List Nat) (c0 c1 c2 c3 x M : Nat) : ∀ i v w w', l4R5 p q g bA cA l s b off len cap k zs c0 c1 c2 c3 x M i v w → Below w.heap.size w w' → l4R5 p q g bA cA l s b off len cap k zs c0 c1 c2 c3 x M i v w'
  := by
  intro i v w w' h hb
  unfold l4R5 at *
  split
  · exact h
  · exact h
  · exact h
  · exact h
  · exact h
  · exact h
  · exact h
  · exact h
  · exact h
  · exact h
  · exact h
  · exact h
  · exact h
  · exact h
  · exact h
  · exact h
  · exact h
  · exact h
  · exact h
  · exact h
  · exact h
  · exact h
  · exact h
  · exact h
  · exact h
  · exact h
  · exact h
  · exact h
  · exact h
  · exact h
  · trivial
def l4R6 (p q g bA cA l s b off len cap k : Nat) (zs : List Nat) (c0 c1 c2 c3 x M : Nat) : Nat → Value → World → Prop
  | 0, v, w => v = (.pointer (some ⟨p, 0, none⟩))
  | 1, v, w => v = (.pointer (some ⟨p, 0, none⟩))
  | 2, v, w => v = (.pointer (some ⟨p, 3, none⟩))
  | 3, v, w => v = (.int .i64 k)
  | 4, v, w => v = (.int .i64 ((k : Int) + 1))
  | 5, v, w => v = (.pointer (some ⟨p, 0, none⟩))
  | 6, v, w => v = (.pointer (some ⟨p, 0, none⟩))
  | 7, v, w => v = (.pointer (some ⟨p, 2, none⟩))
  | 8, v, w => v = (.slice (some ⟨b, off, none⟩) len cap)
  | 9, v, w => v = (.int .i64 (len : Int))
  | 10, v, w => v = (.int .i64 (((k : Int) + 1) % (len : Int)))
  | 11, v, w => v = (.pointer (some ⟨g, 3, none⟩))
  | _, _, _ => True
theorem l4R6_mono (p q g bA cA l s b off len cap k : Nat) (zs : List Nat) (c0 c1 c2 c3 x M : Nat) : ∀ i v w w', l4R6 p q g bA cA l s b off len cap k zs c0 c1 c2 c3 x M i v w → Below w.heap.size w w' → l4R6 p q g bA cA l s b off len cap k zs c0 c1 c2 c3 x M i v w'
  := by
  intro i v w w' h hb
  unfold l4R6 at *
  split
  · exact h
  · exact h
  · exact h
  · exact h
  · exact h
  · exact h
  · exact h
  · exact h
  · exact h
  · exact h
  · exact h
  · exact h
  · trivial
set_option maxHeartbeats 8000000 in
set_option maxRecDepth 100000 in
theorem spLSt_any (p q l s : Nat) (a : Option Addr) (len cap : Nat) (zs : List Nat) (k : Nat) (c0 c1 c2 c3 x : Nat) (w : World) (hin : StIn w p l s a len cap (k : Int)) (hsh : ShIn w q c0 c1 c2 c3) (h : FSl w a len zs) (hkl : k < len) (hm : len ≤ 1048576) :
    Calls Try.prog 61 #[.pointer (some ⟨p, 0, none⟩), .pointer (some ⟨q, 0, none⟩), .float .f32 x] w fun e w' =>
      ∃ L S v M Zs, e = .returned (.tuple #[.agg #[.float .f32 L, .float .f32 S, v, .int .i64 (stNx ⟨l, s, zs, (k : Int)⟩ c0 c1 c2 c3 x).t], .float .f32 M]) ∧ cn .f32 M = stMi ⟨l, s, zs, (k : Int)⟩ c3 x ∧ cn .f32 L = (stNx ⟨l, s, zs, (k : Int)⟩ c0 c1 c2 c3 x).l ∧ cn .f32 S = (stNx ⟨l, s, zs, (k : Int)⟩ c0 c1 c2 c3 x).s ∧ cnl Zs = (stNx ⟨l, s, zs, (k : Int)⟩ c0 c1 c2 c3 x).zs ∧ FOwn 22 w.heap.size w' v Zs ∧ Below w.heap.size w w' := by
  have HRES := Lib.hid (show Try.f61.results = #[.cell 6 29, .tmp 7] by kernel_rfl)
  have hl0 : 0 < len := by omega
  have HL := Lib.hid h.1
  have G := Lib.hid ((Below.refl w.heap.size w).alloc (Nat.le_refl _) (.cells #[.float .f32 0, .float .f32 0, .slice none 0 0, .int .i64 0] 29))
  have HS := Lib.hid (hin.alloc (.cells #[.float .f32 0, .float .f32 0, .slice none 0 0, .int .i64 0] 29))
  have HH := Lib.hid (hsh.alloc (.cells #[.float .f32 0, .float .f32 0, .slice none 0 0, .int .i64 0] 29))
  have HR := Lib.hid (CIs.newAt w [.float .f32 0, .float .f32 0, .slice none 0 0, .int .i64 0] 29 (p := w.heap.size) rfl)
  have HZ := Lib.hid (FSl.below h G.out)
  have hpl : p < w.heap.size := hin.lt
  have hql : q < w.heap.size := hsh.lt
  obtain ⟨b, off, rfl, hbl, -⟩ := h.at hl0
  clear h hin hsh
  go_enter Try.func61, Try.ntmps61
  go_wp2_with fail
  refine (spGu_any _ _ _ _ _ _ _ _ _ _ _ _ _ k _ HS.out HH.out HZ.out hkl rfl hm).mono ?_
  rintro e w1 ⟨r, m, hr, rfl, rfl⟩
  have hMc : ∀ wq, cn .f32 (fopR .sub .f32 x r wq) = stMi ⟨l, s, zs, (k : Int)⟩ c3 x := fun wq => by rw [cn_fopR, hr]; rfl
  have HMi := Lib.hid hMc
  clear hMc hr
  replace G := Lib.hid (below_drewN G.out m)
  replace HS := Lib.hid (HS.out.drewN m)
  replace HH := Lib.hid (HH.out.drewN m)
  replace HR := Lib.hid (HR.out.drewN m)
  replace HZ := Lib.hid (FSl.drewN HZ.out m)
  have hsz : w.heap.size < ((w.alloc (.cells #[.float .f32 0, .float .f32 0, .slice none 0 0, .int .i64 0] 29)).drewN m).heap.size := HR.out.1
  generalize (w.alloc (.cells #[.float .f32 0, .float .f32 0, .slice none 0 0, .int .i64 0] 29)).drewN m = W1 at *
  go_wp2_with fail
  have hMc := HMi.out W1
  clear HMi
  generalize fopR BinOp.sub FloatKind.f32 x r W1 = M at *
  replace G := Lib.hid (below_drewN G.out (fopN BinOp.sub FloatKind.f32 x r))
  replace HS := Lib.hid (HS.out.drewN (fopN BinOp.sub FloatKind.f32 x r))
  replace HH := Lib.hid (HH.out.drewN (fopN BinOp.sub FloatKind.f32 x r))
  replace HR := Lib.hid (HR.out.drewN (fopN BinOp.sub FloatKind.f32 x r))
  replace HZ := Lib.hid (FSl.drewN HZ.out (fopN BinOp.sub FloatKind.f32 x r))
  replace hsz : w.heap.size < (W1.drewN (fopN BinOp.sub FloatKind.f32 x r)).heap.size := hsz
  generalize W1.drewN (fopN BinOp.sub FloatKind.f32 x r) = W2 at *
  refine (spOwn_any _ _ _ _ _ _ zs _ _ HS.out HZ.out hl0 hm).mono ?_
  rintro e w3 ⟨v, rfl, ho, bb⟩
  obtain ⟨bA, cA, rfl, hbA1, hbA2⟩ := own_blk ho HL.out hl0
  have hs3 := bb.size
  have al := fun (W : World) => (Below.refl W.heap.size W).alloc (Nat.le_refl _) (.cells #[.float .f32 l, .float .f32 s, .slice (some ⟨bA, 0, none⟩) len cA, .int .i64 k] 29)
  replace G := Lib.hid ((G.out.trans (bb.mono G.out.size)).alloc (by omega) (.cells #[.float .f32 l, .float .f32 s, .slice (some ⟨bA, 0, none⟩) len cA, .int .i64 k] 29))
  replace HS := Lib.hid ((HS.out.below bb).alloc (.cells #[.float .f32 l, .float .f32 s, .slice (some ⟨bA, 0, none⟩) len cA, .int .i64 k] 29))
  replace HH := Lib.hid ((HH.out.below bb).alloc (.cells #[.float .f32 l, .float .f32 s, .slice (some ⟨bA, 0, none⟩) len cA, .int .i64 k] 29))
  replace HR := Lib.hid ((HR.out.below bb).alloc (.cells #[.float .f32 l, .float .f32 s, .slice (some ⟨bA, 0, none⟩) len cA, .int .i64 k] 29))
  replace HZ := Lib.hid (FSl.below (FSl.below HZ.out bb) (al w3))
  have HO := Lib.hid (FOwn.keepS ho (al w3))
  clear bb ho
  obtain ⟨g, hg⟩ : ∃ g, w3.heap.size = g := ⟨_, rfl⟩
  have C9 := Lib.hid (CIs.newAt w3 [.float .f32 l, .float .f32 s, .slice (some ⟨bA, 0, none⟩) len cA, .int .i64 k] 29 (p := g) hg.symm)
  have hgp : W2.heap.size ≤ g := by omega
  have hgA : bA ≠ g := by omega
  have hgo : (Value.slice (some ⟨bA, 0, none⟩) len cA).ownBlock ≠ some g := fun e => hgA (by injection e)
  have hra : (Value.slice (some ⟨bA, 0, none⟩) len cA).ownBlock ≠ some w.heap.size := fun e => by
    injection e with e
    have : bA = w.heap.size := e
    omega
  go_upto_region 3 with fail
  rw [hg] at *
  generalize w3.alloc (.cells #[.float .f32 l, .float .f32 s, .slice (some ⟨bA, 0, none⟩) len cA, .int .i64 k] 29) = W3 at *
  clear al
  refine wp_region_ML (m := 22) (l4R3 p q g bA cA l s b off len cap k zs c0 c1 c2 c3 x M) (by kernel_rfl) (l4R3_mono p q g bA cA l s b off len cap k zs c0 c1 c2 c3 x M) (by kernel_rfl) (by kernel_rfl) (by rfl) (by rfl) (by rfl) ?_ ?_
  · refine ⟨?_, ?_, ?_, ?_, ?_, ?_, ?_, ?_, ?_, ?_, ?_, ?_, ?_, ?_, ?_, ?_, ?_, ?_, ?_, ?_, ?_, ?_, trivial⟩
    · refine opM_do rfl (fun a_ w' hS hf K hK => ?_)
      have s0 : a_.tmps.getD 0 undef = (.pointer (some ⟨p, 0, none⟩)) := (hS.rest 0 (by kernel_rfl)).trans rfl
      go_simp
      exact hK _ _ (Below.refl _ _) rfl
    · refine opM_do rfl (fun a_ w' hS hf K hK => ?_)
      have s17 : a_.tmps.getD 17 undef = (.pointer (some ⟨p, 0, none⟩)) := hf 0 (by kernel_rfl) _ 17 rfl rfl
      go_simp
      exact hK _ _ (Below.refl _ _) rfl
    · refine opM_do rfl (fun a_ w' hS hf K hK => ?_)
      have s18 : a_.tmps.getD 18 undef = (.pointer (some ⟨p, 0, none⟩)) := hf 1 (by kernel_rfl) _ 18 rfl rfl
      go_simp
      exact hK _ _ (Below.refl _ _) rfl
    · refine opM_do rfl (fun a_ w' hS hf K hK => ?_)
      have s19 : a_.tmps.getD 19 undef = (.pointer (some ⟨p, 0, none⟩)) := hf 2 (by kernel_rfl) _ 19 rfl rfl
      obtain ⟨k0, k1, k2, k3⟩ := StIn.below HS.out.drew hS.below
      obtain ⟨j0, j1, j2, j3⟩ := ShIn.below HH.out.drew hS.below
      go_simp
      exact hK _ _ (Below.refl _ _) rfl
    · refine opM_do rfl (fun a_ w' hS hf K hK => ?_)
      have s1 : a_.tmps.getD 1 undef = (.pointer (some ⟨q, 0, none⟩)) := (hS.rest 1 (by kernel_rfl)).trans rfl
      go_simp
      exact hK _ _ (Below.refl _ _) rfl
    · refine opM_do rfl (fun a_ w' hS hf K hK => ?_)
      have s21 : a_.tmps.getD 21 undef = (.pointer (some ⟨q, 0, none⟩)) := hf 4 (by kernel_rfl) _ 21 rfl rfl
      go_simp
      exact hK _ _ (Below.refl _ _) rfl
    · refine opM_do rfl (fun a_ w' hS hf K hK => ?_)
      have s22 : a_.tmps.getD 22 undef = (.pointer (some ⟨q, 0, none⟩)) := hf 5 (by kernel_rfl) _ 22 rfl rfl
      go_simp
      exact hK _ _ (Below.refl _ _) rfl
    · refine opM_do rfl (fun a_ w' hS hf K hK => ?_)
      have s23 : a_.tmps.getD 23 undef = (.pointer (some ⟨q, 3, none⟩)) := hf 6 (by kernel_rfl) _ 23 rfl rfl
      obtain ⟨k0, k1, k2, k3⟩ := StIn.below HS.out.drew hS.below
      obtain ⟨j0, j1, j2, j3⟩ := ShIn.below HH.out.drew hS.below
      go_simp
      exact hK _ _ (Below.refl _ _) rfl
    · refine opM_do rfl (fun a_ w' hS hf K hK => ?_)
      have s0 : a_.tmps.getD 0 undef = (.pointer (some ⟨p, 0, none⟩)) := (hS.rest 0 (by kernel_rfl)).trans rfl
      go_simp
      exact hK _ _ (Below.refl _ _) rfl
    · refine opM_do rfl (fun a_ w' hS hf K hK => ?_)
      have s25 : a_.tmps.getD 25 undef = (.pointer (some ⟨p, 0, none⟩)) := hf 8 (by kernel_rfl) _ 25 rfl rfl
      go_simp
      exact hK _ _ (Below.refl _ _) rfl
    · refine opM_do rfl (fun a_ w' hS hf K hK => ?_)
      have s26 : a_.tmps.getD 26 undef = (.pointer (some ⟨p, 0, none⟩)) := hf 9 (by kernel_rfl) _ 26 rfl rfl
      go_simp
      exact hK _ _ (Below.refl _ _) rfl
    · refine opM_do rfl (fun a_ w' hS hf K hK => ?_)
      have s27 : a_.tmps.getD 27 undef = (.pointer (some ⟨p, 1, none⟩)) := hf 10 (by kernel_rfl) _ 27 rfl rfl
      obtain ⟨k0, k1, k2, k3⟩ := StIn.below HS.out.drew hS.below
      obtain ⟨j0, j1, j2, j3⟩ := ShIn.below HH.out.drew hS.below
      go_simp
      exact hK _ _ (Below.refl _ _) rfl
    · refine opM_do rfl (fun a_ w' hS hf K hK => ?_)
      have s24 : a_.tmps.getD 24 undef = (.float .f32 c3) := hf 7 (by kernel_rfl) _ 24 rfl rfl
      have s28 : a_.tmps.getD 28 undef = (.float .f32 s) := hf 11 (by kernel_rfl) _ 28 rfl rfl
      go_simp
      exact hK _ _ (by first | exact Below.refl _ _ | exact below_drewN (Below.refl _ _) _) ⟨_, rfl, by first | (rw [cn_fopR]; done) | rw [cn_fopR, cn_one32] | rw [cn_fopR, List.getD_eq_getElem?_getD]⟩
    · refine opM_do rfl (fun a_ w' hS hf K hK => ?_)
      have s20 : a_.tmps.getD 20 undef = (.float .f32 l) := hf 3 (by kernel_rfl) _ 20 rfl rfl
      obtain ⟨r29, s29, e29⟩ := (show ∃ r, a_.tmps.getD 29 undef = .float .f32 r ∧ cn .f32 r = (aop .mul .f32 (cn .f32 c3) (cn .f32 s)) from hf 12 (by kernel_rfl) _ 29 rfl rfl)
      go_simp
      exact hK _ _ (by first | exact Below.refl _ _ | exact below_drewN (Below.refl _ _) _) ⟨_, rfl, by first | (rw [cn_fopR, e29]; done) | rw [cn_fopR, e29, cn_one32] | rw [cn_fopR, e29, List.getD_eq_getElem?_getD]⟩
    · refine opM_do rfl (fun a_ w' hS hf K hK => ?_)
      have s1 : a_.tmps.getD 1 undef = (.pointer (some ⟨q, 0, none⟩)) := (hS.rest 1 (by kernel_rfl)).trans rfl
      go_simp
      exact hK _ _ (Below.refl _ _) rfl
    · refine opM_do rfl (fun a_ w' hS hf K hK => ?_)
      have s31 : a_.tmps.getD 31 undef = (.pointer (some ⟨q, 0, none⟩)) := hf 14 (by kernel_rfl) _ 31 rfl rfl
      go_simp
      exact hK _ _ (Below.refl _ _) rfl
    · refine opM_do rfl (fun a_ w' hS hf K hK => ?_)
      have s32 : a_.tmps.getD 32 undef = (.pointer (some ⟨q, 0, none⟩)) := hf 15 (by kernel_rfl) _ 32 rfl rfl
      go_simp
      exact hK _ _ (Below.refl _ _) rfl
    · refine opM_do rfl (fun a_ w' hS hf K hK => ?_)
      have s33 : a_.tmps.getD 33 undef = (.pointer (some ⟨q, 0, none⟩)) := hf 16 (by kernel_rfl) _ 33 rfl rfl
      obtain ⟨k0, k1, k2, k3⟩ := StIn.below HS.out.drew hS.below
      obtain ⟨j0, j1, j2, j3⟩ := ShIn.below HH.out.drew hS.below
      go_simp
      exact hK _ _ (Below.refl _ _) rfl
    · refine opM_do rfl (fun a_ w' hS hf K hK => ?_)
      have s8 : a_.tmps.getD 8 undef = (.float .f32 M) := (hS.rest 8 (by kernel_rfl)).trans rfl
      go_simp
      exact hK _ _ (Below.refl _ _) rfl
    · refine opM_do rfl (fun a_ w' hS hf K hK => ?_)
      have s34 : a_.tmps.getD 34 undef = (.float .f32 c0) := hf 17 (by kernel_rfl) _ 34 rfl rfl
      have s35 : a_.tmps.getD 35 undef = (.float .f32 M) := hf 18 (by kernel_rfl) _ 35 rfl rfl
      go_simp
      exact hK _ _ (by first | exact Below.refl _ _ | exact below_drewN (Below.refl _ _) _) ⟨_, rfl, by first | (rw [cn_fopR]; done) | rw [cn_fopR, cn_one32] | rw [cn_fopR, List.getD_eq_getElem?_getD]⟩
    · refine opM_do rfl (fun a_ w' hS hf K hK => ?_)
      obtain ⟨r30, s30, e30⟩ := (show ∃ r, a_.tmps.getD 30 undef = .float .f32 r ∧ cn .f32 r = (aop .add .f32 (cn .f32 l) (aop .mul .f32 (cn .f32 c3) (cn .f32 s))) from hf 13 (by kernel_rfl) _ 30 rfl rfl)
      obtain ⟨r36, s36, e36⟩ := (show ∃ r, a_.tmps.getD 36 undef = .float .f32 r ∧ cn .f32 r = (aop .mul .f32 (cn .f32 c0) (cn .f32 M)) from hf 19 (by kernel_rfl) _ 36 rfl rfl)
      go_simp
      exact hK _ _ (by first | exact Below.refl _ _ | exact below_drewN (Below.refl _ _) _) ⟨_, rfl, by first | (rw [cn_fopR, e30, e36]; done) | rw [cn_fopR, e30, e36, cn_one32] | rw [cn_fopR, e30, e36, List.getD_eq_getElem?_getD]⟩
    · refine opM_do rfl (fun a_ w' hS hf K hK => ?_)
      have s9 : a_.tmps.getD 9 undef = (.pointer (some ⟨g, 0, none⟩)) := (hS.rest 9 (by kernel_rfl)).trans rfl
      go_simp
      exact hK _ _ (Below.refl _ _) rfl
  · intro vs3 a_ w' hb hv ha
    have hlit : a_ = ⟨#[.pointer (some ⟨p, 0, none⟩), .pointer (some ⟨q, 0, none⟩), .float .f32 x, undef, undef, undef, .pointer (some ⟨w.heap.size, 0, none⟩), .float .f32 0, .float .f32 M, .pointer (some ⟨g, 0, none⟩), .float .f32 x, .pointer (some ⟨p, 0, none⟩), .pointer (some ⟨q, 0, none⟩), .float .f32 r, .float .f32 M, .pointer (some ⟨p, 0, none⟩), .agg #[.float .f32 l, .float .f32 s, .slice (some ⟨bA, 0, none⟩) len cA, .int .i64 k], vs3 0, vs3 1, vs3 2, vs3 3, vs3 4, vs3 5, vs3 6, vs3 7, vs3 8, vs3 9, vs3 10, vs3 11, vs3 12, vs3 13, vs3 14, vs3 15, vs3 16, vs3 17, vs3 18, vs3 19, vs3 20, vs3 21, undef, undef, undef, undef, undef, undef, undef, undef, undef, undef, undef, undef, undef, undef, undef, undef, undef, undef, undef, undef, undef, undef, undef, undef, undef, undef, undef, undef, undef, undef, undef, undef, undef, undef, undef, undef, undef, undef, undef, undef, undef, undef, undef, undef, undef, undef, undef, undef, undef, undef, undef, undef, undef, undef, undef, undef, undef, undef, undef, undef, undef, undef, undef, undef, undef, undef], []⟩ := ha.trans (by kernel_rfl)
    clear ha
    obtain ⟨L, e1, hLc⟩ := (show ∃ r, vs3 20 = .float .f32 r ∧ cn .f32 r = (aop .add .f32 (aop .add .f32 (cn .f32 l) (aop .mul .f32 (cn .f32 c3) (cn .f32 s))) (aop .mul .f32 (cn .f32 c0) (cn .f32 M))) from hv 20 (by omega) (by kernel_rfl))
    have e2 : vs3 21 = .pointer (some ⟨g, 0, none⟩) := hv 21 (by omega) (by kernel_rfl)
    rw [e1, e2] at hlit
    clear hv e1 e2
    subst hlit
    have hsw := (below_drewN G.out 1).size
    have G1 := (below_drewN G.out 1).trans (hb.mono hsw)
    replace HS := Lib.hid (HS.out.drew.below hb)
    replace HH := Lib.hid (HH.out.drew.below hb)
    replace HR := Lib.hid (HR.out.drew.below hb)
    replace C9 := Lib.hid (C9.out.drew.below hb)
    replace HZ := Lib.hid (FSl.below (FSl.drewN HZ.out 1) hb)
    replace HO := Lib.hid (FOwn.keepS (FOwn.drewN HO.out 1) hb)
    replace G := Lib.hid G1
    clear hb G1 hsw
    obtain ⟨g0, g1, g2, g3⟩ := C9.out.c4
    obtain ⟨f0, f1, f2, f3⟩ := C9.out.f4
    go_simp
    replace HS := Lib.hid (show StIn (w'.setCell ⟨g, 0, none⟩ (.float .f32 L)) p l s (some ⟨b, off, none⟩) len cap k from HS.out.setQ (by omega))
    replace HH := Lib.hid (show ShIn (w'.setCell ⟨g, 0, none⟩ (.float .f32 L)) q c0 c1 c2 c3 from HH.out.setQ (by omega))
    replace HR := Lib.hid (show CIs (w'.setCell ⟨g, 0, none⟩ (.float .f32 L)) w.heap.size [.float .f32 0, .float .f32 0, .slice none 0 0, .int .i64 0] from HR.out.set (by omega))
    replace HZ := Lib.hid (show FSl (w'.setCell ⟨g, 0, none⟩ (.float .f32 L)) (some ⟨b, off, none⟩) len zs from FSl.same HZ.out (by simp [World.setCell]) (fun b' off' h0 e => Below.heap_setCell w' _ _ _ (by injection e with e; injection e with e _ _; show b' ≠ g; omega)))
    replace G := Lib.hid (show Below w.heap.size w (w'.setCell ⟨g, 0, none⟩ (.float .f32 L)) from G.out.setCell (by show w.heap.size ≤ g; omega) _)
    replace C9 := Lib.hid (show CIs (w'.setCell ⟨g, 0, none⟩ (.float .f32 L)) g [.float .f32 L, .float .f32 s, .slice (some ⟨bA, 0, none⟩) len cA, .int .i64 k] from C9.out.put (by simp))
    replace HO := Lib.hid (show FOwn 22 W2.heap.size (w'.setCell ⟨g, 0, none⟩ (.float .f32 L)) (.slice (some ⟨bA, 0, none⟩) len cA) zs from own_else HO.out hgo _ _)
    clear g0 g1 g2 g3 f0 f1 f2 f3
    generalize (w'.setCell ⟨g, 0, none⟩ (.float .f32 L)) = W4 at *
    go_upto_region 4 with fail
    refine wp_region_ML (m := 22) (l4R4 p q g bA cA l s b off len cap k zs c0 c1 c2 c3 x M) (by kernel_rfl) (l4R4_mono p q g bA cA l s b off len cap k zs c0 c1 c2 c3 x M) (by kernel_rfl) (by kernel_rfl) (by rfl) (by rfl) (by rfl) ?_ ?_
    · refine ⟨?_, ?_, ?_, ?_, ?_, ?_, ?_, ?_, ?_, ?_, ?_, ?_, ?_, ?_, ?_, ?_, ?_, ?_, ?_, ?_, ?_, ?_, trivial⟩
      · refine opM_do rfl (fun a_ w' hS hf K hK => ?_)
        have s1 : a_.tmps.getD 1 undef = (.pointer (some ⟨q, 0, none⟩)) := (hS.rest 1 (by kernel_rfl)).trans rfl
        go_simp
        exact hK _ _ (Below.refl _ _) rfl
      · refine opM_do rfl (fun a_ w' hS hf K hK => ?_)
        have s39 : a_.tmps.getD 39 undef = (.pointer (some ⟨q, 0, none⟩)) := hf 0 (by kernel_rfl) _ 39 rfl rfl
        go_simp
        exact hK _ _ (Below.refl _ _) rfl
      · refine opM_do rfl (fun a_ w' hS hf K hK => ?_)
        have s40 : a_.tmps.getD 40 undef = (.pointer (some ⟨q, 0, none⟩)) := hf 1 (by kernel_rfl) _ 40 rfl rfl
        go_simp
        exact hK _ _ (Below.refl _ _) rfl
      · refine opM_do rfl (fun a_ w' hS hf K hK => ?_)
        have s41 : a_.tmps.getD 41 undef = (.pointer (some ⟨q, 3, none⟩)) := hf 2 (by kernel_rfl) _ 41 rfl rfl
        obtain ⟨k0, k1, k2, k3⟩ := StIn.below HS.out.drew hS.below
        obtain ⟨j0, j1, j2, j3⟩ := ShIn.below HH.out.drew hS.below
        go_simp
        exact hK _ _ (Below.refl _ _) rfl
      · refine opM_do rfl (fun a_ w' hS hf K hK => ?_)
        have s0 : a_.tmps.getD 0 undef = (.pointer (some ⟨p, 0, none⟩)) := (hS.rest 0 (by kernel_rfl)).trans rfl
        go_simp
        exact hK _ _ (Below.refl _ _) rfl
      · refine opM_do rfl (fun a_ w' hS hf K hK => ?_)
        have s43 : a_.tmps.getD 43 undef = (.pointer (some ⟨p, 0, none⟩)) := hf 4 (by kernel_rfl) _ 43 rfl rfl
        go_simp
        exact hK _ _ (Below.refl _ _) rfl
      · refine opM_do rfl (fun a_ w' hS hf K hK => ?_)
        have s44 : a_.tmps.getD 44 undef = (.pointer (some ⟨p, 0, none⟩)) := hf 5 (by kernel_rfl) _ 44 rfl rfl
        go_simp
        exact hK _ _ (Below.refl _ _) rfl
      · refine opM_do rfl (fun a_ w' hS hf K hK => ?_)
        have s45 : a_.tmps.getD 45 undef = (.pointer (some ⟨p, 1, none⟩)) := hf 6 (by kernel_rfl) _ 45 rfl rfl
        obtain ⟨k0, k1, k2, k3⟩ := StIn.below HS.out.drew hS.below
        obtain ⟨j0, j1, j2, j3⟩ := ShIn.below HH.out.drew hS.below
        go_simp
        exact hK _ _ (Below.refl _ _) rfl
      · refine opM_do rfl (fun a_ w' hS hf K hK => ?_)
        have s42 : a_.tmps.getD 42 undef = (.float .f32 c3) := hf 3 (by kernel_rfl) _ 42 rfl rfl
        have s46 : a_.tmps.getD 46 undef = (.float .f32 s) := hf 7 (by kernel_rfl) _ 46 rfl rfl
        go_simp
        exact hK _ _ (by first | exact Below.refl _ _ | exact below_drewN (Below.refl _ _) _) ⟨_, rfl, by first | (rw [cn_fopR]; done) | rw [cn_fopR, cn_one32] | rw [cn_fopR, List.getD_eq_getElem?_getD]⟩
      · refine opM_do rfl (fun a_ w' hS hf K hK => ?_)
        have s1 : a_.tmps.getD 1 undef = (.pointer (some ⟨q, 0, none⟩)) := (hS.rest 1 (by kernel_rfl)).trans rfl
        go_simp
        exact hK _ _ (Below.refl _ _) rfl
      · refine opM_do rfl (fun a_ w' hS hf K hK => ?_)
        have s48 : a_.tmps.getD 48 undef = (.pointer (some ⟨q, 0, none⟩)) := hf 9 (by kernel_rfl) _ 48 rfl rfl
        go_simp
        exact hK _ _ (Below.refl _ _) rfl
      · refine opM_do rfl (fun a_ w' hS hf K hK => ?_)
        have s49 : a_.tmps.getD 49 undef = (.pointer (some ⟨q, 0, none⟩)) := hf 10 (by kernel_rfl) _ 49 rfl rfl
        go_simp
        exact hK _ _ (Below.refl _ _) rfl
      · refine opM_do rfl (fun a_ w' hS hf K hK => ?_)
        have s50 : a_.tmps.getD 50 undef = (.pointer (some ⟨q, 0, none⟩)) := hf 11 (by kernel_rfl) _ 50 rfl rfl
        obtain ⟨k0, k1, k2, k3⟩ := StIn.below HS.out.drew hS.below
        obtain ⟨j0, j1, j2, j3⟩ := ShIn.below HH.out.drew hS.below
        go_simp
        exact hK _ _ (Below.refl _ _) rfl
      · refine opM_do rfl (fun a_ w' hS hf K hK => ?_)
        have s1 : a_.tmps.getD 1 undef = (.pointer (some ⟨q, 0, none⟩)) := (hS.rest 1 (by kernel_rfl)).trans rfl
        go_simp
        exact hK _ _ (Below.refl _ _) rfl
      · refine opM_do rfl (fun a_ w' hS hf K hK => ?_)
        have s52 : a_.tmps.getD 52 undef = (.pointer (some ⟨q, 0, none⟩)) := hf 13 (by kernel_rfl) _ 52 rfl rfl
        go_simp
        exact hK _ _ (Below.refl _ _) rfl
      · refine opM_do rfl (fun a_ w' hS hf K hK => ?_)
        have s53 : a_.tmps.getD 53 undef = (.pointer (some ⟨q, 0, none⟩)) := hf 14 (by kernel_rfl) _ 53 rfl rfl
        go_simp
        exact hK _ _ (Below.refl _ _) rfl
      · refine opM_do rfl (fun a_ w' hS hf K hK => ?_)
        have s54 : a_.tmps.getD 54 undef = (.pointer (some ⟨q, 1, none⟩)) := hf 15 (by kernel_rfl) _ 54 rfl rfl
        obtain ⟨k0, k1, k2, k3⟩ := StIn.below HS.out.drew hS.below
        obtain ⟨j0, j1, j2, j3⟩ := ShIn.below HH.out.drew hS.below
        go_simp
        exact hK _ _ (Below.refl _ _) rfl
      · refine opM_do rfl (fun a_ w' hS hf K hK => ?_)
        have s51 : a_.tmps.getD 51 undef = (.float .f32 c0) := hf 12 (by kernel_rfl) _ 51 rfl rfl
        have s55 : a_.tmps.getD 55 undef = (.float .f32 c1) := hf 16 (by kernel_rfl) _ 55 rfl rfl
        go_simp
        exact hK _ _ (by first | exact Below.refl _ _ | exact below_drewN (Below.refl _ _) _) ⟨_, rfl, by first | (rw [cn_fopR]; done) | rw [cn_fopR, cn_one32] | rw [cn_fopR, List.getD_eq_getElem?_getD]⟩
      · refine opM_do rfl (fun a_ w' hS hf K hK => ?_)
        have s8 : a_.tmps.getD 8 undef = (.float .f32 M) := (hS.rest 8 (by kernel_rfl)).trans rfl
        go_simp
        exact hK _ _ (Below.refl _ _) rfl
      · refine opM_do rfl (fun a_ w' hS hf K hK => ?_)
        obtain ⟨r56, s56, e56⟩ := (show ∃ r, a_.tmps.getD 56 undef = .float .f32 r ∧ cn .f32 r = (aop .mul .f32 (cn .f32 c0) (cn .f32 c1)) from hf 17 (by kernel_rfl) _ 56 rfl rfl)
        have s57 : a_.tmps.getD 57 undef = (.float .f32 M) := hf 18 (by kernel_rfl) _ 57 rfl rfl
        go_simp
        exact hK _ _ (by first | exact Below.refl _ _ | exact below_drewN (Below.refl _ _) _) ⟨_, rfl, by first | (rw [cn_fopR, e56]; done) | rw [cn_fopR, e56, cn_one32] | rw [cn_fopR, e56, List.getD_eq_getElem?_getD]⟩
      · refine opM_do rfl (fun a_ w' hS hf K hK => ?_)
        obtain ⟨r47, s47, e47⟩ := (show ∃ r, a_.tmps.getD 47 undef = .float .f32 r ∧ cn .f32 r = (aop .mul .f32 (cn .f32 c3) (cn .f32 s)) from hf 8 (by kernel_rfl) _ 47 rfl rfl)
        obtain ⟨r58, s58, e58⟩ := (show ∃ r, a_.tmps.getD 58 undef = .float .f32 r ∧ cn .f32 r = (aop .mul .f32 (aop .mul .f32 (cn .f32 c0) (cn .f32 c1)) (cn .f32 M)) from hf 19 (by kernel_rfl) _ 58 rfl rfl)
        go_simp
        exact hK _ _ (by first | exact Below.refl _ _ | exact below_drewN (Below.refl _ _) _) ⟨_, rfl, by first | (rw [cn_fopR, e47, e58]; done) | rw [cn_fopR, e47, e58, cn_one32] | rw [cn_fopR, e47, e58, List.getD_eq_getElem?_getD]⟩
      · refine opM_do rfl (fun a_ w' hS hf K hK => ?_)
        have s9 : a_.tmps.getD 9 undef = (.pointer (some ⟨g, 0, none⟩)) := (hS.rest 9 (by kernel_rfl)).trans rfl
        go_simp
        exact hK _ _ (Below.refl _ _) rfl
    · intro vs4 a_ w' hb hv ha
      have hlit : a_ = ⟨#[.pointer (some ⟨p, 0, none⟩), .pointer (some ⟨q, 0, none⟩), .float .f32 x, undef, undef, undef, .pointer (some ⟨w.heap.size, 0, none⟩), .float .f32 0, .float .f32 M, .pointer (some ⟨g, 0, none⟩), .float .f32 x, .pointer (some ⟨p, 0, none⟩), .pointer (some ⟨q, 0, none⟩), .float .f32 r, .float .f32 M, .pointer (some ⟨p, 0, none⟩), .agg #[.float .f32 l, .float .f32 s, .slice (some ⟨bA, 0, none⟩) len cA, .int .i64 k], vs3 0, vs3 1, vs3 2, vs3 3, vs3 4, vs3 5, vs3 6, vs3 7, vs3 8, vs3 9, vs3 10, vs3 11, vs3 12, vs3 13, vs3 14, vs3 15, vs3 16, vs3 17, vs3 18, vs3 19, .float .f32 L, .pointer (some ⟨g, 0, none⟩), vs4 0, vs4 1, vs4 2, vs4 3, vs4 4, vs4 5, vs4 6, vs4 7, vs4 8, vs4 9, vs4 10, vs4 11, vs4 12, vs4 13, vs4 14, vs4 15, vs4 16, vs4 17, vs4 18, vs4 19, vs4 20, vs4 21, undef, undef, undef, undef, undef, undef, undef, undef, undef, undef, undef, undef, undef, undef, undef, undef, undef, undef, undef, undef, undef, undef, undef, undef, undef, undef, undef, undef, undef, undef, undef, undef, undef, undef, undef, undef, undef, undef, undef, undef, undef, undef, undef, undef], []⟩ := ha.trans (by kernel_rfl)
      clear ha
      obtain ⟨S, e1, hSc⟩ := (show ∃ r, vs4 20 = .float .f32 r ∧ cn .f32 r = (aop .add .f32 (aop .mul .f32 (cn .f32 c3) (cn .f32 s)) (aop .mul .f32 (aop .mul .f32 (cn .f32 c0) (cn .f32 c1)) (cn .f32 M))) from hv 20 (by omega) (by kernel_rfl))
      have e2 : vs4 21 = .pointer (some ⟨g, 1, none⟩) := hv 21 (by omega) (by kernel_rfl)
      rw [e1, e2] at hlit
      clear hv e1 e2
      subst hlit
      have hsw := (below_drewN G.out 1).size
      have G1 := (below_drewN G.out 1).trans (hb.mono hsw)
      replace HS := Lib.hid (HS.out.drew.below hb)
      replace HH := Lib.hid (HH.out.drew.below hb)
      replace HR := Lib.hid (HR.out.drew.below hb)
      replace C9 := Lib.hid (C9.out.drew.below hb)
      replace HZ := Lib.hid (FSl.below (FSl.drewN HZ.out 1) hb)
      replace HO := Lib.hid (FOwn.keepS (FOwn.drewN HO.out 1) hb)
      replace G := Lib.hid G1
      clear hb G1 hsw
      obtain ⟨g0, g1, g2, g3⟩ := C9.out.c4
      obtain ⟨f0, f1, f2, f3⟩ := C9.out.f4
      go_simp
      replace HS := Lib.hid (show StIn (w'.setCell ⟨g, 1, none⟩ (.float .f32 S)) p l s (some ⟨b, off, none⟩) len cap k from HS.out.setQ (by omega))
      replace HH := Lib.hid (show ShIn (w'.setCell ⟨g, 1, none⟩ (.float .f32 S)) q c0 c1 c2 c3 from HH.out.setQ (by omega))
      replace HR := Lib.hid (show CIs (w'.setCell ⟨g, 1, none⟩ (.float .f32 S)) w.heap.size [.float .f32 0, .float .f32 0, .slice none 0 0, .int .i64 0] from HR.out.set (by omega))
      replace HZ := Lib.hid (show FSl (w'.setCell ⟨g, 1, none⟩ (.float .f32 S)) (some ⟨b, off, none⟩) len zs from FSl.same HZ.out (by simp [World.setCell]) (fun b' off' h0 e => Below.heap_setCell w' _ _ _ (by injection e with e; injection e with e _ _; show b' ≠ g; omega)))
      replace G := Lib.hid (show Below w.heap.size w (w'.setCell ⟨g, 1, none⟩ (.float .f32 S)) from G.out.setCell (by show w.heap.size ≤ g; omega) _)
      replace C9 := Lib.hid (show CIs (w'.setCell ⟨g, 1, none⟩ (.float .f32 S)) g [.float .f32 L, .float .f32 S, .slice (some ⟨bA, 0, none⟩) len cA, .int .i64 k] from C9.out.put (by simp))
      replace HO := Lib.hid (show FOwn 22 W2.heap.size (w'.setCell ⟨g, 1, none⟩ (.float .f32 S)) (.slice (some ⟨bA, 0, none⟩) len cA) zs from own_else HO.out hgo _ _)
      clear g0 g1 g2 g3 f0 f1 f2 f3
      generalize (w'.setCell ⟨g, 1, none⟩ (.float .f32 S)) = W5 at *
      go_upto_region 5 with fail
      refine wp_region_ML (m := 30) (l4R5 p q g bA cA l s b off len cap k zs c0 c1 c2 c3 x M) (by kernel_rfl) (l4R5_mono p q g bA cA l s b off len cap k zs c0 c1 c2 c3 x M) (by kernel_rfl) (by kernel_rfl) (by rfl) (by rfl) (by rfl) ?_ ?_
      · refine ⟨?_, ?_, ?_, ?_, ?_, ?_, ?_, ?_, ?_, ?_, ?_, ?_, ?_, ?_, ?_, ?_, ?_, ?_, ?_, ?_, ?_, ?_, ?_, ?_, ?_, ?_, ?_, ?_, ?_, ?_, trivial⟩
        · refine opM_do rfl (fun a_ w' hS hf K hK => ?_)
          have s9 : a_.tmps.getD 9 undef = (.pointer (some ⟨g, 0, none⟩)) := (hS.rest 9 (by kernel_rfl)).trans rfl
          go_simp
          exact hK _ _ (Below.refl _ _) rfl
        · refine opM_do rfl (fun a_ w' hS hf K hK => ?_)
          have s61 : a_.tmps.getD 61 undef = (.pointer (some ⟨g, 2, none⟩)) := hf 0 (by kernel_rfl) _ 61 rfl rfl
          obtain ⟨g0, g1, g2, g3⟩ := (CIs.below (CIs.drew C9.out) hS.below).c4
          go_simp
          exact hK _ _ (Below.refl _ _) rfl
        · refine opM_do rfl (fun a_ w' hS hf K hK => ?_)
          have s0 : a_.tmps.getD 0 undef = (.pointer (some ⟨p, 0, none⟩)) := (hS.rest 0 (by kernel_rfl)).trans rfl
          go_simp
          exact hK _ _ (Below.refl _ _) rfl
        · refine opM_do rfl (fun a_ w' hS hf K hK => ?_)
          have s63 : a_.tmps.getD 63 undef = (.pointer (some ⟨p, 0, none⟩)) := hf 2 (by kernel_rfl) _ 63 rfl rfl
          go_simp
          exact hK _ _ (Below.refl _ _) rfl
        · refine opM_do rfl (fun a_ w' hS hf K hK => ?_)
          have s64 : a_.tmps.getD 64 undef = (.pointer (some ⟨p, 0, none⟩)) := hf 3 (by kernel_rfl) _ 64 rfl rfl
          go_simp
          exact hK _ _ (Below.refl _ _) rfl
        · refine opM_do rfl (fun a_ w' hS hf K hK => ?_)
          have s65 : a_.tmps.getD 65 undef = (.pointer (some ⟨p, 3, none⟩)) := hf 4 (by kernel_rfl) _ 65 rfl rfl
          obtain ⟨k0, k1, k2, k3⟩ := StIn.below HS.out.drew hS.below
          obtain ⟨j0, j1, j2, j3⟩ := ShIn.below HH.out.drew hS.below
          go_simp
          exact hK _ _ (Below.refl _ _) rfl
        · refine opM_do rfl (fun a_ w' hS hf K hK => ?_)
          have s0 : a_.tmps.getD 0 undef = (.pointer (some ⟨p, 0, none⟩)) := (hS.rest 0 (by kernel_rfl)).trans rfl
          go_simp
          exact hK _ _ (Below.refl _ _) rfl
        · refine opM_do rfl (fun a_ w' hS hf K hK => ?_)
          have s67 : a_.tmps.getD 67 undef = (.pointer (some ⟨p, 0, none⟩)) := hf 6 (by kernel_rfl) _ 67 rfl rfl
          go_simp
          exact hK _ _ (Below.refl _ _) rfl
        · refine opM_do rfl (fun a_ w' hS hf K hK => ?_)
          have s68 : a_.tmps.getD 68 undef = (.pointer (some ⟨p, 0, none⟩)) := hf 7 (by kernel_rfl) _ 68 rfl rfl
          go_simp
          exact hK _ _ (Below.refl _ _) rfl
        · refine opM_do rfl (fun a_ w' hS hf K hK => ?_)
          have s69 : a_.tmps.getD 69 undef = (.pointer (some ⟨p, 2, none⟩)) := hf 8 (by kernel_rfl) _ 69 rfl rfl
          obtain ⟨k0, k1, k2, k3⟩ := StIn.below HS.out.drew hS.below
          obtain ⟨j0, j1, j2, j3⟩ := ShIn.below HH.out.drew hS.below
          go_simp
          exact hK _ _ (Below.refl _ _) rfl
        · refine opM_do rfl (fun a_ w' hS hf K hK => ?_)
          have s0 : a_.tmps.getD 0 undef = (.pointer (some ⟨p, 0, none⟩)) := (hS.rest 0 (by kernel_rfl)).trans rfl
          go_simp
          exact hK _ _ (Below.refl _ _) rfl
        · refine opM_do rfl (fun a_ w' hS hf K hK => ?_)
          have s71 : a_.tmps.getD 71 undef = (.pointer (some ⟨p, 0, none⟩)) := hf 10 (by kernel_rfl) _ 71 rfl rfl
          go_simp
          exact hK _ _ (Below.refl _ _) rfl
        · refine opM_do rfl (fun a_ w' hS hf K hK => ?_)
          have s72 : a_.tmps.getD 72 undef = (.pointer (some ⟨p, 0, none⟩)) := hf 11 (by kernel_rfl) _ 72 rfl rfl
          go_simp
          exact hK _ _ (Below.refl _ _) rfl
        · refine opM_do rfl (fun a_ w' hS hf K hK => ?_)
          have s73 : a_.tmps.getD 73 undef = (.pointer (some ⟨p, 3, none⟩)) := hf 12 (by kernel_rfl) _ 73 rfl rfl
          obtain ⟨k0, k1, k2, k3⟩ := StIn.below HS.out.drew hS.below
          obtain ⟨j0, j1, j2, j3⟩ := ShIn.below HH.out.drew hS.below
          go_simp
          exact hK _ _ (Below.refl _ _) rfl
        · refine opM_do rfl (fun a_ w' hS hf K hK => ?_)
          have s70 : a_.tmps.getD 70 undef = (.slice (some ⟨b, off, none⟩) len cap) := hf 9 (by kernel_rfl) _ 70 rfl rfl
          have s74 : a_.tmps.getD 74 undef = (.int .i64 k) := hf 13 (by kernel_rfl) _ 74 rfl rfl
          have hk1 : (k : Int) < (len : Int) := by omega
          have hk2 : (0 : Int) ≤ (k : Int) := by omega
          clear hf hS
          go_simp
          exact hK _ _ (Below.refl _ _) rfl
        · refine opM_do rfl (fun a_ w' hS hf K hK => ?_)
          have s75 : a_.tmps.getD 75 undef = (.pointer (some ⟨b, off + k, none⟩)) := hf 14 (by kernel_rfl) _ 75 rfl rfl
          have F1 := FSl.below (FSl.drewN HZ.out 1) hS.below
          obtain ⟨b2, off2, e2, -, hc2⟩ := F1.at hl0
          injection e2 with e2
          injection e2 with e3 e4 _
          subst e3 e4
          have c := hc2 k hkl
          clear hf hS
          go_simp
          exact hK _ _ (Below.refl _ _) rfl
        · refine opM_do rfl (fun a_ w' hS hf K hK => ?_)
          have s1 : a_.tmps.getD 1 undef = (.pointer (some ⟨q, 0, none⟩)) := (hS.rest 1 (by kernel_rfl)).trans rfl
          go_simp
          exact hK _ _ (Below.refl _ _) rfl
        · refine opM_do rfl (fun a_ w' hS hf K hK => ?_)
          have s77 : a_.tmps.getD 77 undef = (.pointer (some ⟨q, 0, none⟩)) := hf 16 (by kernel_rfl) _ 77 rfl rfl
          go_simp
          exact hK _ _ (Below.refl _ _) rfl
        · refine opM_do rfl (fun a_ w' hS hf K hK => ?_)
          have s78 : a_.tmps.getD 78 undef = (.pointer (some ⟨q, 0, none⟩)) := hf 17 (by kernel_rfl) _ 78 rfl rfl
          go_simp
          exact hK _ _ (Below.refl _ _) rfl
        · refine opM_do rfl (fun a_ w' hS hf K hK => ?_)
          have s79 : a_.tmps.getD 79 undef = (.pointer (some ⟨q, 2, none⟩)) := hf 18 (by kernel_rfl) _ 79 rfl rfl
          obtain ⟨k0, k1, k2, k3⟩ := StIn.below HS.out.drew hS.below
          obtain ⟨j0, j1, j2, j3⟩ := ShIn.below HH.out.drew hS.below
          go_simp
          exact hK _ _ (Below.refl _ _) rfl
        · refine opM_do rfl (fun a_ w' hS hf K hK => ?_)
          have s1 : a_.tmps.getD 1 undef = (.pointer (some ⟨q, 0, none⟩)) := (hS.rest 1 (by kernel_rfl)).trans rfl
          go_simp
          exact hK _ _ (Below.refl _ _) rfl
        · refine opM_do rfl (fun a_ w' hS hf K hK => ?_)
          have s81 : a_.tmps.getD 81 undef = (.pointer (some ⟨q, 0, none⟩)) := hf 20 (by kernel_rfl) _ 81 rfl rfl
          go_simp
          exact hK _ _ (Below.refl _ _) rfl
        · refine opM_do rfl (fun a_ w' hS hf K hK => ?_)
          have s82 : a_.tmps.getD 82 undef = (.pointer (some ⟨q, 0, none⟩)) := hf 21 (by kernel_rfl) _ 82 rfl rfl
          go_simp
          exact hK _ _ (Below.refl _ _) rfl
        · refine opM_do rfl (fun a_ w' hS hf K hK => ?_)
          have s83 : a_.tmps.getD 83 undef = (.pointer (some ⟨q, 0, none⟩)) := hf 22 (by kernel_rfl) _ 83 rfl rfl
          obtain ⟨k0, k1, k2, k3⟩ := StIn.below HS.out.drew hS.below
          obtain ⟨j0, j1, j2, j3⟩ := ShIn.below HH.out.drew hS.below
          go_simp
          exact hK _ _ (Below.refl _ _) rfl
        · refine opM_do rfl (fun a_ w' hS hf K hK => ?_)
          have s84 : a_.tmps.getD 84 undef = (.float .f32 c0) := hf 23 (by kernel_rfl) _ 84 rfl rfl
          go_simp
          exact hK _ _ (by first | exact Below.refl _ _ | exact below_drewN (Below.refl _ _) _) ⟨_, rfl, by first | (rw [cn_fopR]; done) | rw [cn_fopR, cn_one32] | rw [cn_fopR, List.getD_eq_getElem?_getD]⟩
        · refine opM_do rfl (fun a_ w' hS hf K hK => ?_)
          have s80 : a_.tmps.getD 80 undef = (.float .f32 c2) := hf 19 (by kernel_rfl) _ 80 rfl rfl
          obtain ⟨r85, s85, e85⟩ := (show ∃ r, a_.tmps.getD 85 undef = .float .f32 r ∧ cn .f32 r = (aop .sub .f32 1065353216 (cn .f32 c0)) from hf 24 (by kernel_rfl) _ 85 rfl rfl)
          go_simp
          exact hK _ _ (by first | exact Below.refl _ _ | exact below_drewN (Below.refl _ _) _) ⟨_, rfl, by first | (rw [cn_fopR, e85]; done) | rw [cn_fopR, e85, cn_one32] | rw [cn_fopR, e85, List.getD_eq_getElem?_getD]⟩
        · refine opM_do rfl (fun a_ w' hS hf K hK => ?_)
          have s8 : a_.tmps.getD 8 undef = (.float .f32 M) := (hS.rest 8 (by kernel_rfl)).trans rfl
          go_simp
          exact hK _ _ (Below.refl _ _) rfl
        · refine opM_do rfl (fun a_ w' hS hf K hK => ?_)
          obtain ⟨r86, s86, e86⟩ := (show ∃ r, a_.tmps.getD 86 undef = .float .f32 r ∧ cn .f32 r = (aop .mul .f32 (cn .f32 c2) (aop .sub .f32 1065353216 (cn .f32 c0))) from hf 25 (by kernel_rfl) _ 86 rfl rfl)
          have s87 : a_.tmps.getD 87 undef = (.float .f32 M) := hf 26 (by kernel_rfl) _ 87 rfl rfl
          go_simp
          exact hK _ _ (by first | exact Below.refl _ _ | exact below_drewN (Below.refl _ _) _) ⟨_, rfl, by first | (rw [cn_fopR, e86]; done) | rw [cn_fopR, e86, cn_one32] | rw [cn_fopR, e86, List.getD_eq_getElem?_getD]⟩
        · refine opM_do rfl (fun a_ w' hS hf K hK => ?_)
          have s76 : a_.tmps.getD 76 undef = (.float .f32 (zs.getD k 0)) := hf 15 (by kernel_rfl) _ 76 rfl rfl
          obtain ⟨r88, s88, e88⟩ := (show ∃ r, a_.tmps.getD 88 undef = .float .f32 r ∧ cn .f32 r = (aop .mul .f32 (aop .mul .f32 (cn .f32 c2) (aop .sub .f32 1065353216 (cn .f32 c0))) (cn .f32 M)) from hf 27 (by kernel_rfl) _ 88 rfl rfl)
          go_simp
          exact hK _ _ (by first | exact Below.refl _ _ | exact below_drewN (Below.refl _ _) _) ⟨_, rfl, by first | (rw [cn_fopR, e88]; done) | rw [cn_fopR, e88, cn_one32] | rw [cn_fopR, e88, List.getD_eq_getElem?_getD]⟩
        · refine opM_do rfl (fun a_ w' hS hf K hK => ?_)
          have s62 : a_.tmps.getD 62 undef = (.slice (some ⟨bA, 0, none⟩) len cA) := hf 1 (by kernel_rfl) _ 62 rfl rfl
          have s66 : a_.tmps.getD 66 undef = (.int .i64 k) := hf 5 (by kernel_rfl) _ 66 rfl rfl
          have hk1 : (k : Int) < (len : Int) := by omega
          have hk2 : (0 : Int) ≤ (k : Int) := by omega
          clear hf hS
          go_simp
          exact hK _ _ (Below.refl _ _) rfl
      · intro vs5 a_ w' hb hv ha
        have hlit : a_ = ⟨#[.pointer (some ⟨p, 0, none⟩), .pointer (some ⟨q, 0, none⟩), .float .f32 x, undef, undef, undef, .pointer (some ⟨w.heap.size, 0, none⟩), .float .f32 0, .float .f32 M, .pointer (some ⟨g, 0, none⟩), .float .f32 x, .pointer (some ⟨p, 0, none⟩), .pointer (some ⟨q, 0, none⟩), .float .f32 r, .float .f32 M, .pointer (some ⟨p, 0, none⟩), .agg #[.float .f32 l, .float .f32 s, .slice (some ⟨bA, 0, none⟩) len cA, .int .i64 k], vs3 0, vs3 1, vs3 2, vs3 3, vs3 4, vs3 5, vs3 6, vs3 7, vs3 8, vs3 9, vs3 10, vs3 11, vs3 12, vs3 13, vs3 14, vs3 15, vs3 16, vs3 17, vs3 18, vs3 19, .float .f32 L, .pointer (some ⟨g, 0, none⟩), vs4 0, vs4 1, vs4 2, vs4 3, vs4 4, vs4 5, vs4 6, vs4 7, vs4 8, vs4 9, vs4 10, vs4 11, vs4 12, vs4 13, vs4 14, vs4 15, vs4 16, vs4 17, vs4 18, vs4 19, .float .f32 S, .pointer (some ⟨g, 1, none⟩), vs5 0, vs5 1, vs5 2, vs5 3, vs5 4, vs5 5, vs5 6, vs5 7, vs5 8, vs5 9, vs5 10, vs5 11, vs5 12, vs5 13, vs5 14, vs5 15, vs5 16, vs5 17, vs5 18, vs5 19, vs5 20, vs5 21, vs5 22, vs5 23, vs5 24, vs5 25, vs5 26, vs5 27, vs5 28, vs5 29, undef, undef, undef, undef, undef, undef, undef, undef, undef, undef, undef, undef, undef, undef], []⟩ := ha.trans (by kernel_rfl)
        clear ha
        obtain ⟨Z, e1, hZc⟩ := (show ∃ r, vs5 28 = .float .f32 r ∧ cn .f32 r = (aop .add .f32 (cn .f32 (zs.getD k 0)) (aop .mul .f32 (aop .mul .f32 (cn .f32 c2) (aop .sub .f32 1065353216 (cn .f32 c0))) (cn .f32 M))) from hv 28 (by omega) (by kernel_rfl))
        have e2 : vs5 29 = .pointer (some ⟨bA, k, none⟩) := hv 29 (by omega) (by kernel_rfl)
        rw [e1, e2] at hlit
        clear hv e1 e2
        subst hlit
        have hsw := (below_drewN G.out 1).size
        have G1 := (below_drewN G.out 1).trans (hb.mono hsw)
        replace HS := Lib.hid (HS.out.drew.below hb)
        replace HH := Lib.hid (HH.out.drew.below hb)
        replace HR := Lib.hid (HR.out.drew.below hb)
        replace C9 := Lib.hid (C9.out.drew.below hb)
        replace HZ := Lib.hid (FSl.below (FSl.drewN HZ.out 1) hb)
        replace HO := Lib.hid (FOwn.keepS (FOwn.drewN HO.out 1) hb)
        replace G := Lib.hid G1
        clear hb G1 hsw
        obtain ⟨z0, z1⟩ := own_cell HO.out HL.out hkl
        go_simp
        replace HS := Lib.hid (show StIn (w'.setCell ⟨bA, k, none⟩ (.float .f32 Z)) p l s (some ⟨b, off, none⟩) len cap k from HS.out.setQ (by omega))
        replace HH := Lib.hid (show ShIn (w'.setCell ⟨bA, k, none⟩ (.float .f32 Z)) q c0 c1 c2 c3 from HH.out.setQ (by omega))
        replace HR := Lib.hid (show CIs (w'.setCell ⟨bA, k, none⟩ (.float .f32 Z)) w.heap.size [.float .f32 0, .float .f32 0, .slice none 0 0, .int .i64 0] from HR.out.set (by omega))
        replace HZ := Lib.hid (show FSl (w'.setCell ⟨bA, k, none⟩ (.float .f32 Z)) (some ⟨b, off, none⟩) len zs from FSl.same HZ.out (by simp [World.setCell]) (fun b' off' h0 e => Below.heap_setCell w' _ _ _ (by injection e with e; injection e with e _ _; show b' ≠ bA; omega)))
        replace G := Lib.hid (show Below w.heap.size w (w'.setCell ⟨bA, k, none⟩ (.float .f32 Z)) from G.out.setCell (by show w.heap.size ≤ bA; omega) _)
        replace C9 := Lib.hid (show CIs (w'.setCell ⟨bA, k, none⟩ (.float .f32 Z)) g [.float .f32 L, .float .f32 S, .slice (some ⟨bA, 0, none⟩) len cA, .int .i64 k] from C9.out.set (Ne.symm hgA))
        replace HO := Lib.hid (show FOwn 22 W2.heap.size (w'.setCell ⟨bA, k, none⟩ (.float .f32 Z)) (.slice (some ⟨bA, 0, none⟩) len cA) (zs.set k Z) from own_put HO.out HL.out k Z)
        clear z0 z1
        generalize (w'.setCell ⟨bA, k, none⟩ (.float .f32 Z)) = W6 at *
        go_upto_region 6 with fail
        refine wp_region_ML (m := 12) (l4R6 p q g bA cA l s b off len cap k zs c0 c1 c2 c3 x M) (by kernel_rfl) (l4R6_mono p q g bA cA l s b off len cap k zs c0 c1 c2 c3 x M) (by kernel_rfl) (by kernel_rfl) (by rfl) (by rfl) (by rfl) ?_ ?_
        · refine ⟨?_, ?_, ?_, ?_, ?_, ?_, ?_, ?_, ?_, ?_, ?_, ?_, trivial⟩
          · refine opM_do rfl (fun a_ w' hS hf K hK => ?_)
            have s0 : a_.tmps.getD 0 undef = (.pointer (some ⟨p, 0, none⟩)) := (hS.rest 0 (by kernel_rfl)).trans rfl
            go_simp
            exact hK _ _ (Below.refl _ _) rfl
          · refine opM_do rfl (fun a_ w' hS hf K hK => ?_)
            have s91 : a_.tmps.getD 91 undef = (.pointer (some ⟨p, 0, none⟩)) := hf 0 (by kernel_rfl) _ 91 rfl rfl
            go_simp
            exact hK _ _ (Below.refl _ _) rfl
          · refine opM_do rfl (fun a_ w' hS hf K hK => ?_)
            have s92 : a_.tmps.getD 92 undef = (.pointer (some ⟨p, 0, none⟩)) := hf 1 (by kernel_rfl) _ 92 rfl rfl
            go_simp
            exact hK _ _ (Below.refl _ _) rfl
          · refine opM_do rfl (fun a_ w' hS hf K hK => ?_)
            have s93 : a_.tmps.getD 93 undef = (.pointer (some ⟨p, 3, none⟩)) := hf 2 (by kernel_rfl) _ 93 rfl rfl
            obtain ⟨k0, k1, k2, k3⟩ := StIn.below HS.out.drew hS.below
            obtain ⟨j0, j1, j2, j3⟩ := ShIn.below HH.out.drew hS.below
            go_simp
            exact hK _ _ (Below.refl _ _) rfl
          · refine opM_do rfl (fun a_ w' hS hf K hK => ?_)
            have s94 : a_.tmps.getD 94 undef = (.int .i64 k) := hf 3 (by kernel_rfl) _ 94 rfl rfl
            have hw : IntKind.i64.wrap ((k : Int) + 1) = (k : Int) + 1 := by rw [IntKind.wrap_i64]; omega
            go_simp
            exact hK _ _ (Below.refl _ _) rfl
          · refine opM_do rfl (fun a_ w' hS hf K hK => ?_)
            have s0 : a_.tmps.getD 0 undef = (.pointer (some ⟨p, 0, none⟩)) := (hS.rest 0 (by kernel_rfl)).trans rfl
            go_simp
            exact hK _ _ (Below.refl _ _) rfl
          · refine opM_do rfl (fun a_ w' hS hf K hK => ?_)
            have s96 : a_.tmps.getD 96 undef = (.pointer (some ⟨p, 0, none⟩)) := hf 5 (by kernel_rfl) _ 96 rfl rfl
            go_simp
            exact hK _ _ (Below.refl _ _) rfl
          · refine opM_do rfl (fun a_ w' hS hf K hK => ?_)
            have s97 : a_.tmps.getD 97 undef = (.pointer (some ⟨p, 0, none⟩)) := hf 6 (by kernel_rfl) _ 97 rfl rfl
            go_simp
            exact hK _ _ (Below.refl _ _) rfl
          · refine opM_do rfl (fun a_ w' hS hf K hK => ?_)
            have s98 : a_.tmps.getD 98 undef = (.pointer (some ⟨p, 2, none⟩)) := hf 7 (by kernel_rfl) _ 98 rfl rfl
            obtain ⟨k0, k1, k2, k3⟩ := StIn.below HS.out.drew hS.below
            obtain ⟨j0, j1, j2, j3⟩ := ShIn.below HH.out.drew hS.below
            go_simp
            exact hK _ _ (Below.refl _ _) rfl
          · refine opM_do rfl (fun a_ w' hS hf K hK => ?_)
            have s99 : a_.tmps.getD 99 undef = (.slice (some ⟨b, off, none⟩) len cap) := hf 8 (by kernel_rfl) _ 99 rfl rfl
            go_simp
            exact hK _ _ (Below.refl _ _) rfl
          · refine opM_do rfl (fun a_ w' hS hf K hK => ?_)
            have s95 : a_.tmps.getD 95 undef = (.int .i64 ((k : Int) + 1)) := hf 4 (by kernel_rfl) _ 95 rfl rfl
            have s100 : a_.tmps.getD 100 undef = (.int .i64 (len : Int)) := hf 9 (by kernel_rfl) _ 100 rfl rfl
            have hr : Int.tmod ((k : Int) + 1) (len : Int) = ((k : Int) + 1) % (len : Int) := Int.tmod_eq_emod_of_nonneg (by omega)
            go_simp
            rw [if_neg (show ¬ len = 0 by omega)]
            exact hK _ _ (Below.refl _ _) rfl
          · refine opM_do rfl (fun a_ w' hS hf K hK => ?_)
            have s9 : a_.tmps.getD 9 undef = (.pointer (some ⟨g, 0, none⟩)) := (hS.rest 9 (by kernel_rfl)).trans rfl
            go_simp
            exact hK _ _ (Below.refl _ _) rfl
        · intro vs6 a_ w' hb hv ha
          have hlit : a_ = ⟨#[.pointer (some ⟨p, 0, none⟩), .pointer (some ⟨q, 0, none⟩), .float .f32 x, undef, undef, undef, .pointer (some ⟨w.heap.size, 0, none⟩), .float .f32 0, .float .f32 M, .pointer (some ⟨g, 0, none⟩), .float .f32 x, .pointer (some ⟨p, 0, none⟩), .pointer (some ⟨q, 0, none⟩), .float .f32 r, .float .f32 M, .pointer (some ⟨p, 0, none⟩), .agg #[.float .f32 l, .float .f32 s, .slice (some ⟨bA, 0, none⟩) len cA, .int .i64 k], vs3 0, vs3 1, vs3 2, vs3 3, vs3 4, vs3 5, vs3 6, vs3 7, vs3 8, vs3 9, vs3 10, vs3 11, vs3 12, vs3 13, vs3 14, vs3 15, vs3 16, vs3 17, vs3 18, vs3 19, .float .f32 L, .pointer (some ⟨g, 0, none⟩), vs4 0, vs4 1, vs4 2, vs4 3, vs4 4, vs4 5, vs4 6, vs4 7, vs4 8, vs4 9, vs4 10, vs4 11, vs4 12, vs4 13, vs4 14, vs4 15, vs4 16, vs4 17, vs4 18, vs4 19, .float .f32 S, .pointer (some ⟨g, 1, none⟩), vs5 0, vs5 1, vs5 2, vs5 3, vs5 4, vs5 5, vs5 6, vs5 7, vs5 8, vs5 9, vs5 10, vs5 11, vs5 12, vs5 13, vs5 14, vs5 15, vs5 16, vs5 17, vs5 18, vs5 19, vs5 20, vs5 21, vs5 22, vs5 23, vs5 24, vs5 25, vs5 26, vs5 27, .float .f32 Z, .pointer (some ⟨bA, k, none⟩), vs6 0, vs6 1, vs6 2, vs6 3, vs6 4, vs6 5, vs6 6, vs6 7, vs6 8, vs6 9, vs6 10, vs6 11, undef, undef], []⟩ := ha.trans (by kernel_rfl)
          clear ha
          have e1 : vs6 10 = .int .i64 (((k : Int) + 1) % (len : Int)) := hv 10 (by omega) (by kernel_rfl)
          have e2 : vs6 11 = .pointer (some ⟨g, 3, none⟩) := hv 11 (by omega) (by kernel_rfl)
          rw [e1, e2] at hlit
          clear hv e1 e2
          subst hlit
          have hsw := (below_drewN G.out 1).size
          have G1 := (below_drewN G.out 1).trans (hb.mono hsw)
          replace HS := Lib.hid (HS.out.drew.below hb)
          replace HH := Lib.hid (HH.out.drew.below hb)
          replace HR := Lib.hid (HR.out.drew.below hb)
          replace C9 := Lib.hid (C9.out.drew.below hb)
          replace HZ := Lib.hid (FSl.below (FSl.drewN HZ.out 1) hb)
          replace HO := Lib.hid (FOwn.keepS (FOwn.drewN HO.out 1) hb)
          replace G := Lib.hid G1
          clear hb G1 hsw
          obtain ⟨g0, g1, g2, g3⟩ := C9.out.c4
          obtain ⟨f0, f1, f2, f3⟩ := C9.out.f4
          go_simp
          replace HS := Lib.hid (show StIn (w'.setCell ⟨g, 3, none⟩ (.int .i64 (((k : Int) + 1) % (len : Int)))) p l s (some ⟨b, off, none⟩) len cap k from HS.out.setQ (by omega))
          replace HH := Lib.hid (show ShIn (w'.setCell ⟨g, 3, none⟩ (.int .i64 (((k : Int) + 1) % (len : Int)))) q c0 c1 c2 c3 from HH.out.setQ (by omega))
          replace HR := Lib.hid (show CIs (w'.setCell ⟨g, 3, none⟩ (.int .i64 (((k : Int) + 1) % (len : Int)))) w.heap.size [.float .f32 0, .float .f32 0, .slice none 0 0, .int .i64 0] from HR.out.set (by omega))
          replace HZ := Lib.hid (show FSl (w'.setCell ⟨g, 3, none⟩ (.int .i64 (((k : Int) + 1) % (len : Int)))) (some ⟨b, off, none⟩) len zs from FSl.same HZ.out (by simp [World.setCell]) (fun b' off' h0 e => Below.heap_setCell w' _ _ _ (by injection e with e; injection e with e _ _; show b' ≠ g; omega)))
          replace G := Lib.hid (show Below w.heap.size w (w'.setCell ⟨g, 3, none⟩ (.int .i64 (((k : Int) + 1) % (len : Int)))) from G.out.setCell (by show w.heap.size ≤ g; omega) _)
          replace C9 := Lib.hid (show CIs (w'.setCell ⟨g, 3, none⟩ (.int .i64 (((k : Int) + 1) % (len : Int)))) g [.float .f32 L, .float .f32 S, .slice (some ⟨bA, 0, none⟩) len cA, .int .i64 (((k : Int) + 1) % (len : Int))] from C9.out.put (by simp))
          replace HO := Lib.hid (show FOwn 22 W2.heap.size (w'.setCell ⟨g, 3, none⟩ (.int .i64 (((k : Int) + 1) % (len : Int)))) (.slice (some ⟨bA, 0, none⟩) len cA) (zs.set k Z) from own_else HO.out hgo _ _)
          clear g0 g1 g2 g3 f0 f1 f2 f3
          generalize (w'.setCell ⟨g, 3, none⟩ (.int .i64 (((k : Int) + 1) % (len : Int)))) = W7 at *
          obtain ⟨g0, g1, g2, g3⟩ := C9.out.c4
          obtain ⟨r0, r1, r2, r3⟩ := HR.out.c4
          obtain ⟨q0, q1, q2, q3⟩ := HR.out.f4
          have O6 := Lib.hid (FOwn.mono (B' := w.heap.size) (own_else (own_else (own_else (own_else HO.out hra 0 (.float .f32 L)) hra 1 (.float .f32 S)) hra 2 (.slice (some ⟨bA, 0, none⟩) len cA)) hra 3 (.int .i64 (((k : Int) + 1) % (len : Int)))) (by omega))
          have hMM : cn .f32 (stMi ⟨l, s, zs, (k : Int)⟩ c3 x) = cn .f32 M := by rw [← hMc, cn_cn]
          have hL2 := Lib.hid (show cn .f32 L = (stNx ⟨l, s, zs, (k : Int)⟩ c0 c1 c2 c3 x).l by rw [hLc, ← hMM]; rfl)
          have hS2 := Lib.hid (show cn .f32 S = (stNx ⟨l, s, zs, (k : Int)⟩ c0 c1 c2 c3 x).s by rw [hSc, ← hMM]; rfl)
          have hZ2 := Lib.hid (show cnl (zs.set k Z) = (stNx ⟨l, s, zs, (k : Int)⟩ c0 c1 c2 c3 x).zs from set_cn zs k _ _ (by rw [hZc, ← hMM]; rfl))
          have hM2 := Lib.hid hMc
          have hT := Lib.hid (show (((k : Int) + 1) % (len : Int)) = (stNx ⟨l, s, zs, (k : Int)⟩ c0 c1 c2 c3 x).t by rw [← HL.out]; rfl)
          clear hMM hLc hSc hZc hMc
          go_wp2_with fail
          have GF := Lib.hid ((((G.out.setCell (p := ⟨w.heap.size, 0, none⟩) (Nat.le_refl _) (.float .f32 L)).setCell (p := ⟨w.heap.size, 1, none⟩) (Nat.le_refl _) (.float .f32 S)).setCell (p := ⟨w.heap.size, 2, none⟩) (Nat.le_refl _) (.slice (some ⟨bA, 0, none⟩) len cA)).setCell (p := ⟨w.heap.size, 3, none⟩) (Nat.le_refl _) (.int .i64 (((k : Int) + 1) % (len : Int))))
          refine bodyPost_ret (v := .tuple #[.agg #[.float .f32 L, .float .f32 S, .slice (some ⟨bA, 0, none⟩) len cA, .int .i64 (((k : Int) + 1) % (len : Int))], .float .f32 M]) ?_ rfl ?_
          · have hres := HRES.out
            simp only [results, hres]
            go_simp
          · first
              | exact ⟨L, S, _, M, _, by rw [← hT.out], hM2.out, hL2.out, hS2.out, hZ2.out, O6.out, GF.out⟩
              | exact ⟨L, S, _, M, by rw [← hT.out], hM2.out, hL2.out, hS2.out, _, hZ2.out, O6.out, GF.out⟩
end Go.Proofs.Ytgddfhmddkhaeaa

/-
  StepState of the model.
-/
namespace Go.Proofs.Ytgddfhmddkhaeaa
open Ieee Go.RowKit
set_option linter.unusedVariables false
set_option maxHeartbeats 4000000 in
set_option maxRecDepth 100000 in
theorem spStp_any (l s : Nat) (a : Option Addr) (len cap : Nat) (zs : List Nat) (t : Int) (c0 c1 c2 c3 x : Nat) (w : World) (h : FSl w a len zs) (hm : len ≤ 1048576) :
    Calls Try.prog 16 #[.agg #[.float .f32 l, .float .f32 s, .slice a len cap, .int .i64 t], .agg #[.float .f32 c0, .float .f32 c1, .float .f32 c2, .float .f32 c3], .float .f32 x] w (RetStp 22 ⟨l, s, zs, t⟩ c0 c1 c2 c3 x w) := by
  have HRES := Lib.hid (show Try.f16.results = #[.cell 6 29, .tmp 7, .tmp 8] by kernel_rfl)
  have G := Lib.hid ((((Below.refl w.heap.size w).alloc (Nat.le_refl _) (.cells #[.float .f32 l, .float .f32 s, .slice a len cap, .int .i64 t] 29)).alloc (by simp) (.cells #[.float .f32 c0, .float .f32 c1, .float .f32 c2, .float .f32 c3] 33)).alloc (by simp; omega) (.cells #[.float .f32 0, .float .f32 0, .slice none 0 0, .int .i64 0] 29))
  have HS := Lib.hid (((StIn.new w l s a len cap t 29).alloc (.cells #[.float .f32 c0, .float .f32 c1, .float .f32 c2, .float .f32 c3] 33)).alloc (.cells #[.float .f32 0, .float .f32 0, .slice none 0 0, .int .i64 0] 29))
  have HH := Lib.hid ((show ShIn ((w.alloc (.cells #[.float .f32 l, .float .f32 s, .slice a len cap, .int .i64 t] 29)).alloc (.cells #[.float .f32 c0, .float .f32 c1, .float .f32 c2, .float .f32 c3] 33)) (w.heap.size + 1) c0 c1 c2 c3 from by simpa using ShIn.new (w.alloc (.cells #[.float .f32 l, .float .f32 s, .slice a len cap, .int .i64 t] 29)) c0 c1 c2 c3 33).alloc (.cells #[.float .f32 0, .float .f32 0, .slice none 0 0, .int .i64 0] 29))
  have HR := Lib.hid (CIs.newAt ((w.alloc (.cells #[.float .f32 l, .float .f32 s, .slice a len cap, .int .i64 t] 29)).alloc (.cells #[.float .f32 c0, .float .f32 c1, .float .f32 c2, .float .f32 c3] 33)) [.float .f32 0, .float .f32 0, .slice none 0 0, .int .i64 0] 29 (p := w.heap.size + 1 + 1) (by simp))
  have HZ := Lib.hid (FSl.below h G.out)
  have HL := Lib.hid h.1
  clear h
  cases hv : stB l s zs t && shB4 c0 c1 c2 c3
  · have HV := Lib.hid hv
    have HB := Lib.hid (show stpB ⟨l, s, zs, t⟩ c0 c1 c2 c3 x = false by unfold stpB stOk; simp only [hv, Bool.false_and])
    clear hv
    go_enter Try.func16, Try.ntmps16
    go_wp2_with fail
    refine (spCan_any _ _ _ _ _ _ _ _ _ _ _ _ _ _ HS.out HH.out HZ.out hm).mono ?_
    rw [HV.out]
    rintro e w1 ⟨m, rfl, rfl⟩
    replace HR := Lib.hid (HR.out.drewN m)
    obtain ⟨r0, r1, r2, r3⟩ := HR.out.c4
    obtain ⟨q0, q1, q2, q3⟩ := HR.out.f4
    go_wp2_with fail
    refine bodyPost_ret (v := .tuple #[.agg #[.float .f32 0, .float .f32 0, .slice none 0 0, .int .i64 0], .float .f32 0, .bool false]) ?_ rfl (stp_no HB.out ?_)
    · have hres := HRES.out
      simp only [results, hres]
      go_simp
    · first
      | exact (Below.setCell (Below.setCell (Below.setCell (Below.setCell (below_drewN G.out m) (by show w.heap.size ≤ w.heap.size + 1 + 1; omega) _) (by show w.heap.size ≤ w.heap.size + 1 + 1; omega) _) (by show w.heap.size ≤ w.heap.size + 1 + 1; omega) _) (by show w.heap.size ≤ w.heap.size + 1 + 1; omega) _)
  have HV := Lib.hid hv
  have hst : stB l s zs t = true := (Bool.and_eq_true _ _ ▸ hv).1
  obtain ⟨-, -, -, ht0, ht1⟩ := stB_t hst
  rw [HL.out] at ht1
  obtain ⟨k, rfl⟩ : ∃ k : Nat, t = (k : Int) := ⟨t.toNat, by omega⟩
  have hkl : k < len := by omega
  clear hv hst ht0 ht1
  cases hx : fin .f32 x
  · have HX := Lib.hid hx
    have HB := Lib.hid (stp_mi (q := ⟨l, s, zs, (k : Int)⟩) (a := c0) (b := c1) (c := c2) (d := c3) (x := x) (by
      cases hq : fin .f32 (stMi ⟨l, s, zs, (k : Int)⟩ c3 x)
      · rfl
      · rw [(stp_fin hq).1] at hx; cases hx))
    clear hx
    go_enter Try.func16, Try.ntmps16
    go_wp2_with fail
    refine (spCan_any _ _ _ _ _ _ _ _ _ _ _ _ _ _ HS.out HH.out HZ.out hm).mono ?_
    rw [HV.out]
    rintro e w1 ⟨m, rfl, rfl⟩
    go_wp2_with fail
    refine (l01Finite_any _ _).mono ?_
    rw [HX.out]
    rintro e w1 ⟨m1, rfl, rfl⟩
    replace HR := Lib.hid ((HR.out.drewN m).drewN m1)
    obtain ⟨r0, r1, r2, r3⟩ := HR.out.c4
    obtain ⟨q0, q1, q2, q3⟩ := HR.out.f4
    go_wp2_with fail
    refine bodyPost_ret (v := .tuple #[.agg #[.float .f32 0, .float .f32 0, .slice none 0 0, .int .i64 0], .float .f32 0, .bool false]) ?_ rfl (stp_no HB.out ?_)
    · have hres := HRES.out
      simp only [results, hres]
      go_simp
    · first
      | exact (Below.setCell (Below.setCell (Below.setCell (Below.setCell (below_drewN (below_drewN G.out m) m1) (by show w.heap.size ≤ w.heap.size + 1 + 1; omega) _) (by show w.heap.size ≤ w.heap.size + 1 + 1; omega) _) (by show w.heap.size ≤ w.heap.size + 1 + 1; omega) _) (by show w.heap.size ≤ w.heap.size + 1 + 1; omega) _)
      | exact (Below.setCell (Below.setCell (Below.setCell (Below.setCell (below_drewN G.out (m + m1)) (by show w.heap.size ≤ w.heap.size + 1 + 1; omega) _) (by show w.heap.size ≤ w.heap.size + 1 + 1; omega) _) (by show w.heap.size ≤ w.heap.size + 1 + 1; omega) _) (by show w.heap.size ≤ w.heap.size + 1 + 1; omega) _)
  have HX := Lib.hid hx
  clear hx
  go_enter Try.func16, Try.ntmps16
  go_wp2_with fail
  refine (spCan_any _ _ _ _ _ _ _ _ _ _ _ _ _ _ HS.out HH.out HZ.out hm).mono ?_
  rw [HV.out]
  rintro e w1 ⟨m, rfl, rfl⟩
  go_wp2_with fail
  refine (l01Finite_any _ _).mono ?_
  rw [HX.out]
  rintro e w1 ⟨m1, rfl, hw1⟩
  subst hw1
  replace G := Lib.hid (below_drewN G.out (m + m1))
  replace HS := Lib.hid (HS.out.drewN (m + m1))
  replace HH := Lib.hid (HH.out.drewN (m + m1))
  replace HR := Lib.hid (HR.out.drewN (m + m1))
  replace HZ := Lib.hid (FSl.drewN HZ.out (m + m1))
  go_wp2_with fail
  refine (spLSt_any _ _ _ _ _ _ _ zs k _ _ _ _ _ _ HS.out HH.out HZ.out hkl hm).mono ?_
  rintro e w2 ⟨L, S, v, M, Zs, rfl, hM, hL, hS, hZ, ho, bb⟩
  have hl0 : 0 < len := by omega
  have hZl : Zs.length = len := by rw [← cnl_len, hZ, ← HL.out]; exact sZs_len ..
  obtain ⟨bA, cA, rfl, hbA1, hbA2⟩ := own_blk ho hZl hl0
  have hsz := HR.out.1
  replace G := Lib.hid (G.out.trans (bb.mono G.out.size))
  replace HR := Lib.hid (HR.out.below bb)
  have hs2 := bb.size
  clear bb HS HH HZ
  have HO := Lib.hid ho
  have HM := Lib.hid hM
  have hL2 := Lib.hid hL
  have hS2 := Lib.hid hS
  have hZ2 := Lib.hid hZ
  clear ho hM hL hS hZ
  have hfM := Lib.hid (show fin .f32 M = fin .f32 (stMi ⟨l, s, zs, (k : Int)⟩ c3 x) by rw [← HM.out, fin_congr (cn_cn .f32 M)])
  have hQ := Lib.hid (show stpB ⟨l, s, zs, (k : Int)⟩ c0 c1 c2 c3 x = (fin .f32 M && stB L S Zs (stNx ⟨l, s, zs, (k : Int)⟩ c0 c1 c2 c3 x).t) by
    rw [stB_cn hL2.out hS2.out hZ2.out, hfM.out]
    unfold stpB stOk
    rw [show (stB l s zs (k : Int) && shB4 c0 c1 c2 c3) = true from HV.out, Bool.true_and])
  have hT : ∃ T, (stNx ⟨l, s, zs, (k : Int)⟩ c0 c1 c2 c3 x).t = T := ⟨_, rfl⟩
  obtain ⟨T0, hT0⟩ := hT
  rw [hT0] at hQ ⊢
  have hrA : (Value.slice (some ⟨bA, 0, none⟩) len cA).ownBlock ≠ some (w.heap.size + 1 + 1) := fun e => by
    injection e with e
    have : bA = w.heap.size + 1 + 1 := e
    omega
  have A2 := fun (o : Obj) => (Below.refl w2.heap.size w2).alloc (Nat.le_refl _) o
  have HI := Lib.hid (StIn.new w2 L S (some ⟨bA, 0, none⟩) len cA T0 29)
  have CI := Lib.hid (CIs.newAt w2 [.float .f32 L, .float .f32 S, .slice (some ⟨bA, 0, none⟩) len cA, .int .i64 T0] 29 (p := w2.heap.size) rfl)
  have hG := G.out.size
  replace G := Lib.hid (G.out.alloc (by omega) (.cells #[.float .f32 L, .float .f32 S, .slice (some ⟨bA, 0, none⟩) len cA, .int .i64 T0] 29))
  replace HR := Lib.hid (HR.out.alloc (.cells #[.float .f32 L, .float .f32 S, .slice (some ⟨bA, 0, none⟩) len cA, .int .i64 T0] 29))
  replace HO := Lib.hid (FOwn.keepS HO.out (A2 (.cells #[.float .f32 L, .float .f32 S, .slice (some ⟨bA, 0, none⟩) len cA, .int .i64 T0] 29)))
  have HF := Lib.hid (own_fsl HO.out)
  clear A2
  go_wp2_with fail
  refine (spIs_any _ _ _ _ _ _ _ _ _ HI.out HF.out hm).mono ?_
  cases hq : stB L S Zs T0
  · rintro e w3 ⟨m3, rfl, rfl⟩
    have HB := Lib.hid (show stpB ⟨l, s, zs, (k : Int)⟩ c0 c1 c2 c3 x = false by rw [hQ.out, hq, Bool.and_false])
    clear hq
    replace HR := Lib.hid (HR.out.drewN m3)
    replace G := Lib.hid (below_drewN G.out m3)
    obtain ⟨r0, r1, r2, r3⟩ := HR.out.c4
    obtain ⟨q0, q1, q2, q3⟩ := HR.out.f4
    go_wp2_with fail
    refine bodyPost_ret (v := .tuple #[.agg #[.float .f32 0, .float .f32 0, .slice none 0 0, .int .i64 0], .float .f32 0, .bool false]) ?_ rfl (stp_no HB.out ?_)
    · have hres := HRES.out
      simp only [results, hres]
      go_simp
    · first
      | exact (Below.setCell (Below.setCell (Below.setCell (Below.setCell G.out (by show w.heap.size ≤ w.heap.size + 1 + 1; omega) _) (by show w.heap.size ≤ w.heap.size + 1 + 1; omega) _) (by show w.heap.size ≤ w.heap.size + 1 + 1; omega) _) (by show w.heap.size ≤ w.heap.size + 1 + 1; omega) _)
  · rintro e w3 ⟨m3, rfl, rfl⟩
    have HQ := Lib.hid hq
    clear hq
    go_wp2_with fail
    refine (l01Finite_any _ _).mono ?_
    cases hf : fin .f32 M
    · rintro e w4 ⟨m4, rfl, rfl⟩
      have HB := Lib.hid (show stpB ⟨l, s, zs, (k : Int)⟩ c0 c1 c2 c3 x = false by rw [hQ.out, hf, Bool.false_and])
      clear hf
      replace HR := Lib.hid (HR.out.drewN (m3 + m4))
      replace G := Lib.hid (below_drewN G.out (m3 + m4))
      obtain ⟨r0, r1, r2, r3⟩ := HR.out.c4
      obtain ⟨q0, q1, q2, q3⟩ := HR.out.f4
      go_wp2_with fail
      refine bodyPost_ret (v := .tuple #[.agg #[.float .f32 0, .float .f32 0, .slice none 0 0, .int .i64 0], .float .f32 0, .bool false]) ?_ rfl (stp_no HB.out ?_)
      · have hres := HRES.out
        simp only [results, hres]
        go_simp
      · first
        | exact (Below.setCell (Below.setCell (Below.setCell (Below.setCell G.out (by show w.heap.size ≤ w.heap.size + 1 + 1; omega) _) (by show w.heap.size ≤ w.heap.size + 1 + 1; omega) _) (by show w.heap.size ≤ w.heap.size + 1 + 1; omega) _) (by show w.heap.size ≤ w.heap.size + 1 + 1; omega) _)
    · rintro e w4 ⟨m4, rfl, rfl⟩
      have HFi := Lib.hid hf
      clear hf
      replace HR := Lib.hid (HR.out.drewN (m3 + m4))
      replace CI := Lib.hid (CI.out.drewN (m3 + m4))
      replace G := Lib.hid (below_drewN G.out (m3 + m4))
      have O6 := Lib.hid (FOwn.mono (B' := w.heap.size) (own_else (own_else (own_else (own_else (FOwn.drewN HO.out (m3 + m4)) hrA 0 (.float .f32 L)) hrA 1 (.float .f32 S)) hrA 2 (.slice (some ⟨bA, 0, none⟩) len cA)) hrA 3 (.int .i64 T0)) (by omega))
      have hT1 := Lib.hid hT0
      clear hT0
      obtain ⟨g0, g1, g2, g3⟩ := CI.out.c4
      obtain ⟨r0, r1, r2, r3⟩ := HR.out.c4
      obtain ⟨q0, q1, q2, q3⟩ := HR.out.f4
      go_wp2_with fail
      refine bodyPost_ret (v := .tuple #[.agg #[.float .f32 L, .float .f32 S, .slice (some ⟨bA, 0, none⟩) len cA, .int .i64 T0], .float .f32 M, .bool true]) ?_ rfl (stp_yes HV.out HM.out HFi.out hL2.out hS2.out hZ2.out hT1.out.symm HQ.out O6.out ?_)
      · have hres := HRES.out
        simp only [results, hres]
        go_simp
      · exact (Below.setCell (Below.setCell (Below.setCell (Below.setCell G.out (by show w.heap.size ≤ w.heap.size + 1 + 1; omega) _) (by show w.heap.size ≤ w.heap.size + 1 + 1; omega) _) (by show w.heap.size ≤ w.heap.size + 1 + 1; omega) _) (by show w.heap.size ≤ w.heap.size + 1 + 1; omega) _)
end Go.Proofs.Ytgddfhmddkhaeaa

/-
  States: the law's copies with a name for their place.
-/
namespace Go.Proofs.Ytgddfhmddkhaeaa
open Ieee Go.RowKit
set_option linter.unusedVariables false
theorem toStE_any (l s : Nat) (a : Option Addr) (len cap : Nat) (zs : List Nat) (t : Int) (w : World) (h : FSl w a len zs) (hm : len ≤ 1048576) :
    Calls Try.prog 17 #[.agg #[.float .f32 l, .float .f32 s, .slice a len cap, .int .i64 t]] w fun e w' => ∃ A b, e = .returned (.agg #[.float .f32 l, .float .f32 s, .slice A len len, .int .i64 t]) ∧ Held w' A b len zs ∧ Below w.heap.size w w' :=
  (toSt_any l s a len cap zs t w h hm).mono fun _ _ ⟨h1, h2, h3, _⟩ => ⟨_, _, h1, h2, h3⟩
theorem szSt_no0 (l s : Nat) (a : Option Addr) (len cap : Nat) (t : Int) (n : Nat) (w : World) (hn : n ≤ 1048576) (hm : n < len) (hx : len ≤ maxLen) :
    Calls Try.prog 15 #[.agg #[.float .f32 l, .float .f32 s, .slice a len cap, .int .i64 t], .int .i64 n] w fun e w' => e = .returned (.int .i64 (-1)) ∧ Below w.heap.size w w' := szSt_no l s a len cap t n w hn hm hx
theorem eqStE_any (l s : Nat) (a a' : Option Addr) (len cap cap' : Nat) (zs : List Nat) (t : Int) (w : World) (h : FSl w a len zs) (h' : FSl w a' len zs) (hm : len ≤ 1048576) :
    Calls Try.prog 20 #[.agg #[.float .f32 l, .float .f32 s, .slice a len cap, .int .i64 t], .agg #[.float .f32 l, .float .f32 s, .slice a' len cap', .int .i64 t]] w fun e w' => e = .returned (.bool true) ∧ Below w.heap.size w w' :=
  eqSt_any l s l s a a' len cap cap' zs zs t w rfl rfl h h' hm (fun _ _ => rfl)
end Go.Proofs.Ytgddfhmddkhaeaa

/-
  A step's result in one form; states are marked and held.
-/
namespace Go.Proofs.Ytgddfhmddkhaeaa
open Ieee Go.RowKit
set_option linter.unusedVariables false
/-- What a step leaves as its state, and as its miss. -/
def rsQ (q : Stt) (a b c d x : Nat) : Stt := if stpB q a b c d x then stNx q a b c d x else ⟨0, 0, [], 0⟩
def rsM (q : Stt) (a b c d x : Nat) : Nat := if stpB q a b c d x then stMi q d x else 0
theorem rsQ_len (q : Stt) (a b c d x : Nat) : (rsQ q a b c d x).zs.length ≤ q.zs.length := by
  unfold rsQ
  split
  · exact Nat.le_of_eq (sZs_len _ _ _ _ _)
  · exact Nat.zero_le _
theorem stp_uni {T : TypeId} {q : Stt} {a b c d x : Nat} {w w' : World} {e : Ending} (h : RetStp T q a b c d x w e w') :
    ∃ A cp, e = .returned (.tuple #[.agg #[.float .f32 (rsQ q a b c d x).l, .float .f32 (rsQ q a b c d x).s, .slice A (rsQ q a b c d x).zs.length cp, .int .i64 (rsQ q a b c d x).t], .float .f32 (rsM q a b c d x), .bool (stpB q a b c d x)]) ∧
      FOwn T w.heap.size w' (.slice A (rsQ q a b c d x).zs.length cp) (rsQ q a b c d x).zs ∧ Below w.heap.size w w' := by
  obtain ⟨hb, h1, h2⟩ := h
  unfold rsQ rsM
  cases hq : stpB q a b c d x
  · exact ⟨none, 0, h2 hq, FOwn.nil _ _ _, hb⟩
  · obtain ⟨v, rfl, ho⟩ := h1 hq
    obtain ⟨A, cp, rfl, _, _⟩ := ho.sl
    exact ⟨A, cp, rfl, ho, hb⟩
theorem own_nT {T T' : TypeId} {B g : Nat} {w : World} {v : Value} {rs : List Nat} {cs : Array Value} (h : FOwn T B w v rs) (hg : w.heap[g]? = some (.cells cs T')) (hT : T ≠ T') : v.ownBlock ≠ some g := by
  intro e
  rcases h.2 with ⟨h1, -⟩ | ⟨g', cap, cur, h1, -, h2, -⟩
  · rw [h1] at e; cases e
  · rw [h1] at e
    injection e with e
    have e : g' = g := e
    subst e
    rw [h2] at hg
    injection hg with hg
    injection hg with _ hg
    exact hT hg
theorem own_set {T : TypeId} {B g : Nat} {w w' : World} {v : Value} {rs : List Nat} (h : FOwn T B w v rs) (ho : Only g w w') (hne : v.ownBlock ≠ some g) : FOwn T B w' v rs := by
  rcases h with ⟨hn, h | ⟨g', cap, cur, h1, hB, h2, h3⟩⟩
  · exact ⟨hn, .inl h⟩
  · refine ⟨hn, .inr ⟨g', cap, cur, h1, hB, ?_, h3⟩⟩
    rw [ho.block g' (fun e => hne (by rw [h1, ← e]; rfl))]
    exact h2
theorem own_held {T : TypeId} {B n far : Nat} {w : World} {A : Option Addr} {cp : Nat} {rs : List Nat} (h : FOwn T B w (.slice A n cp) rs) (hn : n = rs.length) (hf : B ≤ far) (p : Nat) (hp : (Value.slice A n cp).ownBlock ≠ some p) (hpf : p ≠ far) : ∃ b, Held w A b n rs ∧ B ≤ b ∧ b ≠ p := by
  subst hn
  rcases Nat.eq_zero_or_pos rs.length with h0 | h0
  · refine ⟨far, ⟨own_fsl h, fun hq => by omega, fun hq => by omega, fun j hj => by omega⟩, hf, fun e => hpf e.symm⟩
  · obtain ⟨A', cp', b, e, hh, hB⟩ := FOwn.res h (xs := rs.map (cn .f32)) rfl
    injection e with e1 e2 e3
    subst e1
    rw [List.length_map] at hh
    refine ⟨b, hh, hB, fun e => hp ?_⟩
    rw [hh.at_ h0, e]
    rfl
theorem alloc_top (w : World) (o : Obj) : (w.alloc o).heap[w.heap.size]? = some o := by
  first
    | exact Array.getElem?_push_size
    | (show (w.heap.push o)[w.heap.size]? = some o; rw [Array.getElem?_push]; simp only [if_true])
theorem cis_of4 {w : World} {p : Nat} {a b c d : Value} {T : TypeId} (h : w.heap[p]? = some (.cells #[a, b, c, d] T)) : CIs w p [a, b, c, d] := by
  refine ⟨(Array.getElem?_eq_some_iff.1 h).1, fun i hi => ⟨?_, ?_⟩⟩
  · unfold World.cell?
    simp only [h]
    match i, hi with
    | 0, _ => rfl
    | 1, _ => rfl
    | 2, _ => rfl
    | 3, _ => rfl
    | n + 4, h => exact absurd h (by simp)
  · unfold World.frozen?
    simp only [h]
    simp
theorem CIs.only {w w' : World} {p c : Nat} {xs : List Value} (h : CIs w p xs) (ho : Only c w w') (hp : p ≠ c) : CIs w' p xs :=
  ⟨by rw [ho.size]; exact h.1, fun i hi => ⟨by rw [ho.cell (p := ⟨p, i, none⟩) hp]; exact (h.2 i hi).1, by rw [ho.frozen (p := ⟨p, i, none⟩) hp]; exact (h.2 i hi).2⟩⟩
theorem markStM_any (l s : Nat) (t : Int) {A : Option Addr} {b len cap : Nat} {rs : List Nat} (k : Nat) {w : World} (h : Held w A b len rs) (hl : len ≤ 1048576) (hk : k ≤ 16777216) :
    Calls Try.prog 22 #[.agg #[.float .f32 l, .float .f32 s, .slice A len cap, .int .i64 t], .int .i64 k] w fun e w' => e = .returned (.int .i64 (k + len : Nat)) ∧ ∃ o, Only b (w.alloc o) w' ∧ MHeld w' A b len k := by
  have H := Lib.hid (h.below ((Below.refl w.heap.size w).alloc (Nat.le_refl _) (.cells #[.float .f32 l, .float .f32 s, .slice A len cap, .int .i64 t] 29)))
  clear h
  go_enter Try.func22, Try.ntmps22
  go_wp2_with fail
  refine (markt_any k H.out hl hk).mono ?_
  rintro e w' ⟨rfl, o, mk⟩
  have HO := Lib.hid o
  have HM := Lib.hid mk
  clear o mk
  go_wp2
  go_ret
  exact ⟨rfl, _, HO.out, HM.out⟩
theorem heldSt_any (l s : Nat) (t : Int) {A : Option Addr} {b len cap : Nat} (k : Nat) {w : World} (h : MHeld w A b len k) (hl : len ≤ 1048576) (hk : k ≤ 16777216) :
    Calls Try.prog 23 #[.agg #[.float .f32 l, .float .f32 s, .slice A len cap, .int .i64 t], .int .i64 k] w fun e w' => e = .returned (.int .i64 (k + len : Nat)) ∧ Below w.heap.size w w' := by
  have H := Lib.hid (h.below ((Below.refl w.heap.size w).alloc (Nat.le_refl _) (.cells #[.float .f32 l, .float .f32 s, .slice A len cap, .int .i64 t] 29)))
  clear h
  have hneg : decide (((k + len : Nat) : Int) < 0) = false := decide_eq_false (by omega)
  go_enter Try.func23, Try.ntmps23
  go_wp2_with fail
  refine (heldt_any k H.out hl hk).mono ?_
  rintro e w' ⟨rfl, rfl⟩
  go_wp2
  go_ret
  exact ⟨rfl, (Below.refl _ _).alloc (Nat.le_refl _) _⟩
end Go.Proofs.Ytgddfhmddkhaeaa

/-
  A region that draws its order and stores once in its midst: what is behind the store, or may be, only moves slots.
-/
namespace Go.Proofs.Ytgddfhmddkhaeaa
open Go.RowKit
set_option linter.unusedVariables false
/-- The store waits for it. -/
def swB (ops : Array Oper) (m i : Nat) : Bool := ((ops[m]?).map fun o => o.after.any fun e => e.on == i && Region.binds .any e).getD false
/-- Each operation but the store is late, or waited for by the store; what stands behind the store in the list waits for it. -/
def lateB (ops : Array Oper) (m : Nat) (late : List Nat) : Bool :=
  (List.range ops.size).all fun i => (i == m || late.contains i || swB ops m i) && (decide (i ≤ m) || ((ops[i]?).map fun o => o.after.any fun e => e.on == m && Region.binds .any e).getD false)
section
variable {P : Program} {ops : Array Oper} {Q : Exit → Act → World → Prop} {Φ : Nat → Value → World → Prop} {Ψ : Value → Value → World → World → Prop} {a0 : Act} {B : World}
/-- An operation that only moves slots: also behind the store. -/
def opP (P : Program) (ops : Array Oper) (Q : Exit → Act → World → Prop) (Φ : Nat → Value → World → Prop) (i : Nat) : Prop :=
  ∀ o, ops[i]? = some o → o.guard = none ∧ ∀ a w1 w2, Deps ops Φ o a w1 → ∀ K : Act → World → Prop, (∀ v, Φ i v w1 → K (a.put o.dst v) w2) → o.wp P a w2 K Q
def AllP (P : Program) (ops : Array Oper) (Q : Exit → Act → World → Prop) (Φ : Nat → Value → World → Prop) : List Nat → Prop
  | [] => True
  | i :: is => opP P ops Q Φ i ∧ AllP P ops Q Φ is
theorem allP_at : ∀ {l : List Nat}, AllP P ops Q Φ l → ∀ i, i ∈ l → opP P ops Q Φ i
  | [], _, i, hi => by cases hi
  | j :: js, h, i, hi => by
    rcases List.mem_cons.1 hi with e | e
    · rw [e]; exact h.1
    · exact allP_at h.2 i e
theorem opP_do {i : Nat} {o : Oper} (ho : ops[i]? = some o) (hg : o.guard = none) (h : ∀ a w1 w2, Deps ops Φ o a w1 → ∀ K : Act → World → Prop, (∀ v, Φ i v w1 → K (a.put o.dst v) w2) → o.wp P a w2 K Q) : opP P ops Q Φ i := by
  intro o' ho'
  obtain rfl : o = o' := Option.some.inj (ho.symm.trans ho')
  exact ⟨hg, h⟩
theorem wpAny_MS {m jp jv dp dv : Nat} {late : List Nat} {ol : Oper} (hm : ∀ i v w w', Φ i v w → Below w.heap.size w w' → Φ i v w') (hs : shapeB ops a0.tmps.size = true) (hlt : lateB ops m late = true) (hol : ops[m]? = some ol) (hg : ol.guard = none) (hld : ol.dst = none)
    (hjp : (ops[jp]?).bind (·.dst) = some dp) (hjv : (ops[jv]?).bind (·.dst) = some dv) (hsp : swB ops m jp = true) (hsv : swB ops m jv = true)
    (hop : AllM P ops Q Φ a0 B 0 (ops.toList.take m)) (hpu : AllP P ops Q Φ late)
    (hst : ∀ a w1, SInv ops a0 B a w1 → Φ jp (a.tmps.getD dp undef) w1 → Φ jv (a.tmps.getD dv undef) w1 → ∀ K : Act → World → Prop, (∀ w2, Ψ (a.tmps.getD dp undef) (a.tmps.getD dv undef) w1 w2 → K a w2) → ol.wp P a w1 K Q)
    (hend : ∀ a w1 w2, SInv ops a0 B a w1 → (∀ j o d, ops[j]? = some o → o.dst = some d → Φ j (a.tmps.getD d undef) w1) → Ψ (a.tmps.getD dp undef) (a.tmps.getD dv undef) w1 w2 → Q .normal a w2) :
    ∀ (fuel : Nat) (listed : Array Bool) (a : Act) (w : World), unl listed ops.size ≤ fuel →
      ((RInv ops Φ a0 B listed a w ∧ listed.getD m false = false) ∨
       ∃ w1, RInv ops Φ a0 B listed a w1 ∧ Ψ (a.tmps.getD dp undef) (a.tmps.getD dv undef) w1 w ∧ listed.getD m false = true ∧ ∀ i, swB ops m i = true → listed.getD i false = true) →
      wpAny P .any ops Q fuel listed a w := by
  have hmlt : m < ops.size := (Array.getElem?_eq_some_iff.1 hol).1
  have hlate := fun i (hi : i < ops.size) => by
    have := List.all_eq_true.1 hlt i (List.mem_range.2 hi)
    simpa only [Bool.and_eq_true, Bool.or_eq_true, beq_iff_eq, decide_eq_true_eq] using this
  have fin : ∀ (listed : Array Bool) (a : Act) (w : World), (∀ j, j < ops.size → listed.getD j false = true) →
      ((RInv ops Φ a0 B listed a w ∧ listed.getD m false = false) ∨
       ∃ w1, RInv ops Φ a0 B listed a w1 ∧ Ψ (a.tmps.getD dp undef) (a.tmps.getD dv undef) w1 w ∧ listed.getD m false = true ∧ ∀ i, swB ops m i = true → listed.getD i false = true) → Q .normal a w := by
    intro listed a w hall h
    rcases h with ⟨_, h⟩ | ⟨w1, h, hΨ, _, _⟩
    · rw [hall m hmlt] at h; cases h
    · exact hend a w1 w h.s (fun j o d hj hd => h.facts j o d hj hd (hall j (Array.getElem?_eq_some_iff.1 hj).1)) hΨ
  intro fuel
  induction fuel with
  | zero =>
    intro listed a w hf h
    have hall := unl_zero (n := ops.size) (Nat.le_zero.1 hf)
    exact wpAny_all hall (fin listed a w hall h) 0
  | succ fuel ih =>
    intro listed a w hf h
    have hsz : listed.size = ops.size := by
      rcases h with ⟨h, _⟩ | ⟨w1, h, _⟩
      · exact h.size
      · exact h.size
    refine ⟨fun hre => fin listed a w ?_ h, fun i hi => ?_⟩
    · intro j
      induction j using Nat.strongRecOn with
      | ind j ihj =>
        intro hj
        cases hl : listed.getD j false
        · obtain ⟨o, ho⟩ : ∃ o, ops[j]? = some o := ⟨_, Array.getElem?_eq_getElem hj⟩
          have : j ∈ Region.ready .any ops listed := mem_ready.2 ⟨getD_in (by rw [hsz]; exact hj) hl, o, ho, fun e he hb => ihj e.on ((shape_spec hs ho).1 e he hb) (by have := (shape_spec hs ho).1 e he hb; omega)⟩
          rw [hre] at this; cases this
        · rfl
    · obtain ⟨hu, o, ho, hall⟩ := mem_ready.1 hi
      have hilt : i < ops.size := (Array.getElem?_eq_some_iff.1 ho).1
      have hui := getD_both hu
      have hcount := unl_set (l := listed) (i := i) (by rw [hsz]; exact hilt) hui (n := ops.size) hilt
      have deps : ∀ w1, RInv ops Φ a0 B listed a w1 → Deps ops Φ o a w1 := fun w1 h j hj o' d ho' hd => h.facts j o' d ho' hd (by
        obtain ⟨n, hn, hb⟩ := Array.any_eq_true.1 hj
        simp only [Bool.and_eq_true, beq_iff_eq] at hb
        rw [← hb.1]
        exact hall _ (Array.getElem_mem hn) hb.2)
      rcases h with ⟨h, hlm⟩ | ⟨w1, h, hΨ, hlm, hsw⟩
      · by_cases e : i = m
        · subst e
          obtain rfl : ol = o := Option.some.inj (hol.symm.trans ho)
          have hsw : ∀ j, swB ops i j = true → listed.getD j false = true := fun j hj => by
            unfold swB at hj
            rw [hol] at hj
            obtain ⟨n, hn, hb⟩ := Array.any_eq_true.1 (show (ol.after.any fun e => e.on == j && Region.binds .any e) = true from hj)
            simp only [Bool.and_eq_true, beq_iff_eq] at hb
            rw [← hb.1]
            exact hall _ (Array.getElem_mem hn) hb.2
          unfold wpOp
          simp only [ho]
          rw [if_pos (by unfold Region.wanted; rw [hg])]
          have fact : ∀ {j d : Nat}, (ops[j]?).bind (·.dst) = some d → swB ops i j = true → Φ j (a.tmps.getD d undef) w := fun {j d} hj hsj => by
            cases hoj : ops[j]? with
            | none => rw [hoj] at hj; cases hj
            | some oj => rw [hoj] at hj; exact h.facts j oj d hoj hj (hsw j hsj)
          refine .inl (hst a w h.s (fact hjp hsp) (fact hjv hsv) _ (fun w2 hΨ => ih _ _ _ (by omega) (.inr ⟨w, ⟨h.s, by simp [h.size], fun j oj d hj hd hl => ?_⟩, hΨ, by simp [hsz, hilt], fun j hj => getD_set_true (hsw j hj)⟩)))
          have hne : i ≠ j := fun e => by
            subst e
            obtain rfl : ol = oj := Option.some.inj (ho.symm.trans hj)
            rw [hld] at hd; cases hd
          rw [getD_set_ne false hne] at hl
          exact h.facts j oj d hj hd hl
        · have hlti : i < m := by
            rcases (hlate i hilt).2 with h1 | h1
            · omega
            · exfalso
              rw [ho] at h1
              obtain ⟨n, hn, hb⟩ := Array.any_eq_true.1 (show (o.after.any fun e => e.on == m && Region.binds .any e) = true from h1)
              simp only [Bool.and_eq_true, beq_iff_eq] at hb
              have := hall _ (Array.getElem_mem hn) hb.2
              rw [hb.1, hlm] at this; cases this
          have hq : opM P ops Q Φ a0 B i o := by
            have := allM_at (ops.toList.take m) 0 hop i o (by rw [List.getElem?_take, if_pos hlti, Array.getElem?_toList]; exact ho)
            rwa [Nat.zero_add] at this
          have hq := hq a w h.s (deps w h)
          have hlm' : (listed.setIfInBounds i true).getD m false = false := by rw [getD_set_ne false e]; exact hlm
          unfold wpOp
          simp only [ho]
          split
          · rename_i hw
            rw [if_pos hw] at hq
            exact .inl (hq _ (fun v w' hb hv => ih _ _ _ (by omega) (.inl ⟨h.step hm hs ho hb hv, hlm'⟩)))
          · rename_i hw
            rw [if_neg hw] at hq
            exact ih _ _ _ (by omega) (.inl ⟨h.step hm hs ho (Below.refl _ _) hq, hlm'⟩)
      · have him : i ≠ m := fun e => by rw [e, hlm] at hui; cases hui
        have hnsw : ∀ j, swB ops m j = true → i ≠ j := fun j hj e => by rw [e, hsw j hj] at hui; cases hui
        have hin : i ∈ late := by
          rcases (hlate i hilt).1 with (h1 | h1) | h1
          · exact absurd h1 him
          · simpa using h1
          · exact absurd rfl (hnsw i h1)
        obtain ⟨hgi, hq⟩ := allP_at hpu i hin o ho
        unfold wpOp
        simp only [ho]
        rw [if_pos (by unfold Region.wanted; rw [hgi])]
        have keep : ∀ {j d : Nat} (v : Value), (ops[j]?).bind (·.dst) = some d → swB ops m j = true → (a.put o.dst v).tmps.getD d undef = a.tmps.getD d undef := fun {j d} v hj hsj => by
          refine getD_put_other (fun e => ?_)
          cases hoj : ops[j]? with
          | none => rw [hoj] at hj; cases hj
          | some oj =>
            rw [hoj] at hj
            exact hnsw j hsj (((shape_spec hs ho).2 d e).2 j oj hoj hj).symm
        refine .inl (hq a w1 w (deps w1 h) _ (fun v hv => ih _ _ _ (by omega) (.inr ⟨w1, h.step hm hs ho (Below.refl _ _) hv, ?_, getD_set_true hlm, fun j hj => getD_set_true (hsw j hj)⟩)))
        rw [keep v hjp hsp, keep v hjv hsv]
        exact hΨ
/-- THE REGION with a store in its midst: the slots in one form. -/
theorem wp_region_MS {id m jp jv dp dv : Nat} {late : List Nat} {w : World} {ol : Oper} (Φ : Nat → Value → World → Prop) (Ψ : Value → Value → World → World → Prop) (hmix : P.follows .mixedOrders = true) (hm : ∀ i v w w', Φ i v w → Below w.heap.size w w' → Φ i v w') (hs : shapeB ops a0.tmps.size = true) (hlt : lateB ops m late = true) (hol : ops[m]? = some ol) (hg : ol.guard = none) (hld : ol.dst = none)
    (hjp : (ops[jp]?).bind (·.dst) = some dp) (hjv : (ops[jv]?).bind (·.dst) = some dv) (hsp : swB ops m jp = true) (hsv : swB ops m jv = true)
    (hop : AllM P ops Q Φ a0 w.drew 0 (ops.toList.take m)) (hpu : AllP P ops Q Φ late)
    (hst : ∀ a w1, SInv ops a0 w.drew a w1 → Φ jp (a.tmps.getD dp undef) w1 → Φ jv (a.tmps.getD dv undef) w1 → ∀ K : Act → World → Prop, (∀ w2, Ψ (a.tmps.getD dp undef) (a.tmps.getD dv undef) w1 w2 → K a w2) → ol.wp P a w1 K Q)
    (hend : ∀ (vs : Nat → Value) (a : Act) w1 w2, Below w.drew.heap.size w.drew w1 → (∀ j, j < ops.size → ((ops[j]?).bind (·.dst)).isSome = true → Φ j (vs j) w1) → a = ⟨putsL vs 0 ops.toList a0.tmps, a0.defers⟩ → Ψ (vs jp) (vs jv) w1 w2 → Q .normal a w2) : (Code.region id ops true).wp P Q a0 w := by
  refine wp_region_any hmix ?_
  refine wpAny_MS (B := w.drew) hm hs hlt hol hg hld hjp hjv hsp hsv hop hpu hst (fun a w1 w2 hS hF hΨ => ?_) _ _ _ _ (unl_new _) (.inl ⟨⟨⟨rfl, rfl, Below.refl _ _, fun _ _ => rfl⟩, by simp, fun j o d hj hd hl => ?_⟩, getD_replicate_false _ _⟩)
  · refine hend (fun j => a.tmps.getD (((ops[j]?).bind (·.dst)).getD 0) undef) a w1 w2 hS.below (fun j hj hj2 => ?_) ?_ (by simp only [hjp, hjv, Option.getD_some]; exact hΨ)
    · cases ho : ops[j]? with
      | none => rw [ho] at hj2; cases hj2
      | some o =>
        rw [ho] at hj2
        cases hd : o.dst with
        | none => rw [Option.bind_some, hd] at hj2; cases hj2
        | some d =>
          simp only [Option.bind_some, hd, Option.getD_some]
          exact hF j o d ho hd
    · obtain ⟨tm, df⟩ := a
      have hdf := hS.defers
      simp only at hdf
      subst hdf
      congr 1
      refine Array.ext (by rw [putsL_size]; exact hS.tsize) (fun d h1 h2 => ?_)
      have key : tm.getD d undef = (putsL (fun j => tm.getD (((ops[j]?).bind (·.dst)).getD 0) undef) 0 ops.toList a0.tmps).getD d undef := by
        by_cases hx : ∃ (k : Nat) (o : Oper), ops.toList[k]? = some o ∧ o.dst = some d
        · obtain ⟨k, o, hk, hd⟩ := hx
          have hk2 : ops[k]? = some o := by rw [← Array.getElem?_toList]; exact hk
          rw [putsL_in _ hk hd (((shape_spec hs hk2).2 d hd).1) (fun k' o' h1 h2 => ((shape_spec hs hk2).2 d hd).2 k' o' (by rw [← Array.getElem?_toList]; exact h1) h2), Nat.zero_add]
          simp only [hk2, Option.bind_some, hd, Option.getD_some]
        · rw [putsL_out (fun o ho e => hx (by obtain ⟨n, hn⟩ := List.getElem?_of_mem ho; exact ⟨n, o, hn, e⟩))]
          refine hS.rest d ?_
          rw [List.all_eq_true]
          intro j hj
          cases ho : ops[j]? with
          | none => rfl
          | some o =>
            simp only [Option.bind_some, bne_iff_ne, ne_eq]
            intro e
            exact hx ⟨j, o, by rw [Array.getElem?_toList]; exact ho, e⟩
      rw [Array.getD_eq_getD_getElem?, Array.getElem?_eq_getElem h1, Array.getD_eq_getD_getElem?, Array.getElem?_eq_getElem h2] at key
      exact key
  · rw [getD_replicate_false] at hl; cases hl
/-- THE REGION without a store: the slots in one form. -/
theorem wp_region_MV {id : Nat} {w : World} (Φ : Nat → Value → World → Prop) (hmix : P.follows .mixedOrders = true) (hm : ∀ i v w w', Φ i v w → Below w.heap.size w w' → Φ i v w') (hs : shapeB ops a0.tmps.size = true)
    (hop : AllM P ops Q Φ a0 w.drew 0 ops.toList)
    (hend : ∀ (vs : Nat → Value) (a : Act) w1, Below w.drew.heap.size w.drew w1 → (∀ j, j < ops.size → ((ops[j]?).bind (·.dst)).isSome = true → Φ j (vs j) w1) → a = ⟨putsL vs 0 ops.toList a0.tmps, a0.defers⟩ → Q .normal a w1) : (Code.region id ops true).wp P Q a0 w := by
  refine wp_region_M Φ hmix hm hs hop (fun a w1 hS hF => ?_)
  refine hend (fun j => a.tmps.getD (((ops[j]?).bind (·.dst)).getD 0) undef) a w1 hS.below (fun j hj hj2 => ?_) ?_
  · cases ho : ops[j]? with
    | none => rw [ho] at hj2; cases hj2
    | some o =>
      rw [ho] at hj2
      cases hd : o.dst with
      | none => rw [Option.bind_some, hd] at hj2; cases hj2
      | some d =>
        simp only [Option.bind_some, hd, Option.getD_some]
        exact hF j o d ho hd
  · obtain ⟨tm, df⟩ := a
    have hdf := hS.defers
    simp only at hdf
    subst hdf
    congr 1
    refine Array.ext (by rw [putsL_size]; exact hS.tsize) (fun d h1 h2 => ?_)
    have key : tm.getD d undef = (putsL (fun j => tm.getD (((ops[j]?).bind (·.dst)).getD 0) undef) 0 ops.toList a0.tmps).getD d undef := by
      by_cases hx : ∃ (k : Nat) (o : Oper), ops.toList[k]? = some o ∧ o.dst = some d
      · obtain ⟨k, o, hk, hd⟩ := hx
        have hk2 : ops[k]? = some o := by rw [← Array.getElem?_toList]; exact hk
        rw [putsL_in _ hk hd (((shape_spec hs hk2).2 d hd).1) (fun k' o' h1 h2 => ((shape_spec hs hk2).2 d hd).2 k' o' (by rw [← Array.getElem?_toList]; exact h1) h2), Nat.zero_add]
        simp only [hk2, Option.bind_some, hd, Option.getD_some]
      · rw [putsL_out (fun o ho e => hx (by obtain ⟨n, hn⟩ := List.getElem?_of_mem ho; exact ⟨n, o, hn, e⟩))]
        refine hS.rest d ?_
        rw [List.all_eq_true]
        intro j hj
        cases ho : ops[j]? with
        | none => rfl
        | some o =>
          simp only [Option.bind_some, bne_iff_ne, ne_eq]
          intro e
          exact hx ⟨j, o, by rw [Array.getElem?_toList]; exact ho, e⟩
    rw [Array.getD_eq_getD_getElem?, Array.getElem?_eq_getElem h1, Array.getD_eq_getD_getElem?, Array.getElem?_eq_getElem h2] at key
    exact key
end
end Go.Proofs.Ytgddfhmddkhaeaa

