/-
  UndoDifferences, in both packages.
-/
import Derived.Test.YtldaamgohdnjnaaCBox
import Derived.StillTailTactics
import Derived.Laws.Cover3
import Derived.Laws.OwnMore
import Derived.Deep.QuietTactic
import Derived.BigQuiet
namespace Go.Proofs.Ytldaamgohdnjnaa
open Ieee Go.RowKit
set_option linter.unusedVariables false

def undK (fs ds : List Nat) : Nat → List Nat
  | 0 => cnl fs
  | k + 1 => undK fs ds k ++ [aop .add .f32 (cn .f32 (ds.getD k 0)) ((undK fs ds k).getD k 0)]
def undL (fs ds : List Nat) : List Nat := undK fs ds ds.length
def undB0 (fs ds : List Nat) : Bool := serB fs && (serB ds && decide (fs.length + ds.length ≤ 96))
def undB (fs ds : List Nat) : Bool := undB0 fs ds && fins (undL fs ds)
def undR (fs ds : List Nat) : List Nat := if undB0 fs ds then lstR (undL fs ds) else []
theorem undK_len (fs ds : List Nat) (k : Nat) : (undK fs ds k).length = fs.length + k := by
  induction k with
  | zero => exact cnl_len fs
  | succ k ih => unfold undK; rw [List.length_append, ih]; rfl
theorem und_t {fs ds : List Nat} (h : undB0 fs ds = true) : serB fs = true ∧ serB ds = true ∧ fs.length + ds.length ≤ 96 ∧ 1 ≤ fs.length := by
  unfold undB0 at h
  have h1 := (Bool.and_eq_true _ _ ▸ h).1
  have h2 := (Bool.and_eq_true _ _ ▸ h).2
  exact ⟨h1, (Bool.and_eq_true _ _ ▸ h2).1, of_decide_eq_true (Bool.and_eq_true _ _ ▸ h2).2, (serB_t h1).1⟩
theorem undR_len (fs ds : List Nat) : (undR fs ds).length ≤ 1048576 := by
  unfold undR
  split
  · rename_i h
    have := (und_t h).2.2.1
    unfold lstR
    split
    · unfold undL; rw [undK_len]; omega
    · simp
  · simp
theorem und_bad {fs ds : List Nat} (h : undB0 fs ds = false) : undB fs ds = false ∧ undR fs ds = [] := by unfold undB undR; rw [h]; exact ⟨rfl, rfl⟩
theorem und_good {fs ds : List Nat} (h : undB0 fs ds = true) : undB fs ds = fins (undL fs ds) ∧ undR fs ds = lstR (undL fs ds) := by unfold undB undR; rw [h]; exact ⟨rfl, rfl⟩
theorem fins_app (xs : List Nat) (x : Nat) : fins (xs ++ [x]) = (fins xs && fin .f32 x) := by unfold fins; rw [List.all_append]; simp
theorem undK_fins {fs ds : List Nat} {k : Nat} : ∀ {n : Nat}, k ≤ n → fins (undK fs ds n) = true → fins (undK fs ds k) = true
  | 0, h, hf => by
    have e : k = 0 := by omega
    rw [e]; exact hf
  | n + 1, h, hf => by
    by_cases e : k = n + 1
    · rw [e]; exact hf
    · unfold undK at hf
      rw [fins_app] at hf
      exact undK_fins (by omega) (Bool.and_eq_true _ _ ▸ hf).1
theorem und_step {fs ds rs : List Nat} {k r z y : Nat} (h : cnl rs = undK fs ds k) (hk : k < rs.length) (hz : ds.getD k 0 = z) (hy : rs.getD k 0 = y) (hr : cn .f32 r = aop .add .f32 (cn .f32 z) (cn .f32 y)) : cnl (rs ++ [r]) = undK fs ds (k + 1) := by
  refine (cnl_snoc h hr).trans ?_
  show _ = undK fs ds k ++ [_]
  rw [← h, cnl_at hk, hz, hy]
/-- A whole list is appended to a row of the call's own that is empty. -/
theorem FSl.news {w : World} {b off len : Nat} {zs : List Nat} (h : FSl w (some ⟨b, off, none⟩) len zs) (h0 : 0 < len) : ∀ (j : Nat) (u : Value), (zs.map (Value.float .f32))[j]? = some u → w.cell? ((⟨b, off, none⟩ : Addr).add j) = some u := by
  intro j u hj
  obtain ⟨b', off', e, _, hc⟩ := h.at h0
  injection e with e; injection e with e1 e2
  subst e1 e2
  have hl := h.1
  rw [List.getElem?_map] at hj
  by_cases hlt : j < zs.length
  · rw [List.getElem?_eq_getElem hlt] at hj
    simp at hj
    subst hj
    rw [Go.WideShapes.add_plain]
    have := hc j (by omega)
    simpa [List.getD, hlt] using this
  · rw [List.getElem?_eq_none (by omega)] at hj
    simp at hj
theorem run_eql_slice_nil {P : Program} (w : World) (t e : TypeId) (a : Option Addr) (l c : Nat) (h : P.underlying t = some (.slice e)) : (binOp .eql t (.slice a l c) (.slice none 0 0)).run P w = .ok (.bool a.isNone) w := by
  simp only [binOp]
  simp [run_equal_slice_nil w t e a l c h]
theorem clone_any (b off len cap : Nat) (zs : List Nat) (w : World) (h : FSl w (some ⟨b, off, none⟩) len zs) (h0 : 0 < len) (hm : len ≤ 1048576) :
    Calls Try.prog 69 #[.slice (some ⟨b, off, none⟩) len cap] w (fun e w' => ∃ v, e = .returned v ∧ FOwn 32 w.heap.size w' v zs ∧ Below w.heap.size w w') := by
  obtain ⟨i0, hi, hz0, hz1, hz2⟩ := info_parts Try.infoR
  have HN := Lib.hid (FOwn.made (T := 32) w (Nat.le_refl _))
  have HNe := Lib.hid ((FSl.below h ((Below.refl w.heap.size w).alloc (Nat.le_refl _) (.cells #[] 32))).news h0)
  have HL := Lib.hid h.1
  have hnil := fun W => run_eql_slice_nil (P := Try.prog) W 22 32 (some ⟨b, off, none⟩) len cap Try.underlying22
  clear h
  go_enter Try.func69, Try.ntmps69
  go_wp2_with (at_builtin; refine wpList_append_own _ rfl _ _ 22 rfl w.heap.size 32 i0 (.float .f32 0) 1 4 Try.underlying22 hi hz0 hz1 hz2 rfl (by decide) _ _ _ rfl HN.out ⟨b, off, none⟩ len cap (zs.map (Value.float .f32)) rfl (by rw [List.length_map, HL.out, Nat.mul_one]) HNe.out ?c2 ?c3 ?c4 ?c5 ?_)
  case c2 =>
    intro u hu
    obtain ⟨x, _, rfl⟩ := List.mem_map.1 hu
    rfl
  case c3 => unfold maxLen; simp; omega
  case c4 => simp; omega
  case c5 => simp
  intro v' w1 hown' hgrow _
  have hb1 := Lib.hid (((Below.refl w.heap.size w).alloc (Nat.le_refl _) (.cells #[] 32)).grown hgrow (by simp) (fun k hk => (World.ownsRow.lt HN.out k hk).1))
  have ho := Lib.hid (show FOwn 32 w.heap.size w1 v' zs from by unfold FOwn; rw [HL.out]; simpa using hown')
  clear hown' hgrow
  go_wp2
  go_ret
  exact ⟨v', rfl, ho.out, hb1.out⟩
end Go.Proofs.Ytldaamgohdnjnaa
