/-
  All numbers less another one, in the model.
-/
import Derived.Test.YtgddfhmddkhaeaaChecked
import Derived.Test.YtgddfhmddkhaeaaVcp
import Derived.Test.YtgddfhmddkhaeaaFow
namespace Go.Proofs.Ytgddfhmddkhaeaa
open Ieee Go.RowKit
set_option linter.unusedVariables false

theorem Try.infoR : (Try.prog.info? 22).map (fun i => (i.zero, i.size, i.bytes)) = some (some (.float .f32 0), 1, 4) := by kernel_rfl
theorem one_new {w : World} {B : Nat} {u : Value} {t : TypeId} (hB : B = w.heap.size) : ∀ (j : Nat) (x : Value), [u][j]? = some x → (w.alloc (.cells #[u] t)).cell? ((⟨B, 0, none⟩ : Addr).add j) = some x := by
  intro j x hj
  match j, hj with
  | 0, hj =>
    simp at hj
    subst hj hB
    rw [Go.WideShapes.add_plain, World.cell?_alloc_at _ _ _ _ rfl]
    rfl
def less32 (zs : List Nat) (m : Nat) : List Nat := zs.map fun z => aop .sub .f32 (cn .f32 z) m
theorem less_snoc {zs : List Nat} {k m : Nat} (h : k < zs.length) : less32 (zs.take (k + 1)) m = less32 (zs.take k) m ++ [aop .sub .f32 (cn .f32 (zs.getD k 0)) m] := by
  rw [list_snoc h]; unfold less32; rw [List.map_append]; rfl
theorem less_len (zs : List Nat) (m : Nat) : (less32 zs m).length = zs.length := List.length_map ..

theorem l02Less_any (a : Option Addr) (len cap : Nat) (zs : List Nat) (x : Nat) (w : World) (h : FSl w a len zs) (hm : len ≤ 1048576) :
    Calls Try.prog 77 #[.slice a len cap, .float .f32 x] w (RetO 22 (less32 zs (cn .f32 x)) w) := by
  obtain ⟨i0, hi, hz0, hz1, hz2⟩ := info_parts Try.infoR
  have H := Lib.hid h
  have HL := Lib.hid h.1
  have HN := Lib.hid (FOwn.made (T := 22) w (Nat.le_refl _))
  clear h
  go_enter Try.func77, Try.ntmps77
  go_wp2
  go_loopw [5, 6] (fun v i wr => ∃ (k : Nat) (rs : List Nat), k ≤ len ∧ i = .int .i64 k ∧ Hid (rs.length = k) ∧ Hid (FOwn 22 w.heap.size wr v rs) ∧ Hid (cnl rs = less32 (zs.take k) (cn .f32 x)) ∧ Hid (Below w.heap.size w wr)) (fun _ i _ => len - (intOf i).toNat)
  case atStart => exact ⟨0, [], Nat.zero_le _, rfl, Lib.hid rfl, HN, Lib.hid rfl, Lib.hid ((Below.refl _ _).alloc (Nat.le_refl _) _)⟩
  case round =>
    rename_i wr
    obtain ⟨k, rs, hk, rfl, hrl, hown, hrs, hbel⟩ := hrel
    by_cases hlt : k < len
    · obtain ⟨b, off, rfl, hb, hc⟩ := H.out.at (by omega)
      have hck := hc k hlt
      rw [← hbel.out.cell (p := ⟨b, off + k, none⟩) hb] at hck
      have hsn := Lib.hid (less_snoc (m := cn .f32 x) (k := k) (zs := zs) (by rw [HL.out]; exact hlt))
      have hsz := hbel.out.size
      have hrk : rs.length ≤ 1048576 := by have := hrl.out; omega
      generalize zs.getD k 0 = z at *
      clear hc hb H
      go_wp2_with (at_builtin; refine wpList_append_own _ rfl _ _ 23 rfl w.heap.size 22 i0 (.float .f32 0) 1 4 Try.underlying23 hi hz0 hz1 hz2 rfl (by decide) _ _ _ rfl (World.ownsRow.alloc (FOwn.drewN hown.out _) _) ⟨wr.heap.size, 0, none⟩ 1 1 [_] rfl rfl (one_new rfl) ?c2 ?c3 ?c4 ?c5 ?_)
      case c2 => intro u hu; simp at hu; subst hu; rfl
      case c3 => unfold maxLen; omega
      case c4 => omega
      case c5 => simp; show w.heap.size ≤ wr.heap.size + 1; omega
      intro v' w1 hown' hgrow _
      have R := FOwn.push hown.out hbel.out hsz hown' hgrow
      have hstep := Lib.hid R
      have hcs := Lib.hid (fun w' : World => (cnl_snoc hrs.out (cn_fopR .sub .f32 z x w')).trans hsn.out.symm)
      have hrl2 := Lib.hid hrl.out
      clear R hown' hgrow hown hbel hrs hsn hrl hck
      go_wp2
      go_roundw
      case rel =>
        refine ⟨k + 1, _, by omega, by go_num, ?_, Lib.hid hstep.out.1, Lib.hid (hcs.out _), Lib.hid hstep.out.2⟩
        exact Lib.hid (by rw [List.length_append, hrl2.out]; rfl)
      case measure => simp [intOf]; omega
    · have hfin := Lib.hid (show cnl rs = less32 zs (cn .f32 x) by rw [hrs.out, List.take_of_length_le (by rw [HL.out]; omega)])
      clear hrs H
      go_wp2
      go_ret
      exact ⟨_, rs, rfl, hown.out, hfin.out, hbel.out⟩
end Go.Proofs.Ytgddfhmddkhaeaa
