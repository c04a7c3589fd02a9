/-
  BlendOf, in both packages.
-/
import Derived.Test.YtallegmkkbmelabWys
import Derived.Test.YtallegmkkbmelabCSmd
import Derived.Test.YtallegmkkbmelabCLaw
namespace Go.Proofs.Ytallegmkkbmelab
open Ieee Go.RowKit
set_option linter.unusedVariables false

def blB (Z : List (List Nat)) (ws : List Nat) : Bool := waysZ Z && (decide (ws.length = Z.length) && fins ws)
def blT1 (Z : List (List Nat)) (ws : List Nat) (j i : Nat) : Nat := aop .mul .f32 (cn .f32 (ws.getD i 0)) (cn .f32 ((Z.getD i []).getD j 0))
def blT (Z : List (List Nat)) (ws : List Nat) (j : Nat) : Nat := sumT (blT1 Z ws j) Z.length
def blL (Z : List (List Nat)) (ws : List Nat) : List Nat := tells (blT Z ws) (Z.getD 0 []).length
def blOk (Z : List (List Nat)) (ws : List Nat) : Bool := blB Z ws && fins (blL Z ws)
def blR (Z : List (List Nat)) (ws : List Nat) : List Nat := if blB Z ws then lstR (blL Z ws) else []
theorem bl_bad {Z : List (List Nat)} {ws : List Nat} (h : blB Z ws = false) : blOk Z ws = false ∧ blR Z ws = [] := by unfold blOk blR; rw [h]; exact ⟨rfl, rfl⟩
theorem bl_good {Z : List (List Nat)} {ws : List Nat} (h : blB Z ws = true) : blOk Z ws = fins (blL Z ws) ∧ blR Z ws = lstR (blL Z ws) := by unfold blOk blR; rw [h]; exact ⟨rfl, rfl⟩
theorem blB_t {Z : List (List Nat)} {ws : List Nat} (h : blB Z ws = true) : waysZ Z = true ∧ ws.length = Z.length ∧ fins ws = true := by
  unfold blB at h
  obtain ⟨h1, h2⟩ := Bool.and_eq_true_iff.1 h
  obtain ⟨h3, h4⟩ := Bool.and_eq_true_iff.1 h2
  exact ⟨h1, of_decide_eq_true h3, h4⟩
theorem blR_len (Z : List (List Nat)) (ws : List Nat) : (blR Z ws).length ≤ 1048576 := by
  unfold blR
  split
  · rename_i h
    obtain ⟨h1, _, _⟩ := blB_t h
    obtain ⟨g1, _, g3⟩ := waysZ_t h1
    have := (serB_t (g3 0 (by omega)).1).2.1
    unfold lstR
    split
    · unfold blL; rw [tells_len]; omega
    · simp
  · simp
theorem blT_cn (Z : List (List Nat)) (ws : List Nat) (j : Nat) : cn .f32 (blT Z ws j) = blT Z ws j := sumT_cn ..
/-- What the inner closure reads. -/
def BlI1 (bw bl bp : Nat) (a' : Option Addr) (n' cap' : Nat) (ws : List Nat) (a : Option Addr) (n cap : Nat) (L : List FRw) (j : Nat) (_k : Nat) (wr : World) : Prop :=
  BoxI bw a' n' cap' ws wr ∧ BoxR bl a n cap L wr ∧ wr.cell? ⟨bp, 0, none⟩ = some (.int .i64 j)
/-- What the outer closure reads. -/
def BlI (bw bl : Nat) (a' : Option Addr) (n' cap' : Nat) (ws : List Nat) (a : Option Addr) (n cap : Nat) (L : List FRw) (_k : Nat) (wr : World) : Prop :=
  BoxI bw a' n' cap' ws wr ∧ BoxR bl a n cap L wr
def colT (Z : List (List Nat)) (j i : Nat) : Nat := cn .f32 ((Z.getD i []).getD j 0)
theorem column_any (a : Option Addr) (n cap : Nat) (L : List FRw) (q : Nat) (w : World) (h : RSl w a n L) (hn : n ≤ 1048576) (hq : ∀ i, i < n → q < (L.getD i FRw.none).len) :
    Calls Try.prog 67 #[.slice a n cap, .int .i64 q] w (RetO 28 (tells (colT (zz L) q) n) w) := by
  obtain ⟨i0, hi, hz0, hz1, hz2⟩ := info_parts Try.infoR
  have H := Lib.hid h
  have HQ := Lib.hid hq
  have HN := Lib.hid (FOwn.made (T := 28) w (Nat.le_refl _))
  clear h hq
  go_enter Try.func67, Try.ntmps67
  go_wp2
  go_loopw [5, 6] (fun v i wr => ∃ (k : Nat) (rs : List Nat), k ≤ n ∧ i = .int .i64 k ∧ Hid (rs.length = k) ∧ Hid (FOwn 28 w.heap.size wr v rs) ∧ Hid (cnl rs = tells (colT (zz L) q) k) ∧ Hid (Below w.heap.size w wr)) (fun _ i _ => n - (intOf i).toNat)
  case atStart => exact ⟨0, [], Nat.zero_le _, rfl, Lib.hid rfl, HN, Lib.hid rfl, Lib.hid ((Below.refl _ _).alloc (Nat.le_refl _) _)⟩
  case round =>
    rename_i wr
    obtain ⟨k, rs, hk, rfl, hrl, hown, hrs, hbel⟩ := hrel
    by_cases hlt : k < n
    · obtain ⟨b, off, rfl, hb, hc⟩ := H.out.1.at (by omega)
      have hck := hc k hlt
      rw [← hbel.out.cell (p := ⟨b, off + k, none⟩) hb] at hck
      have hql := HQ.out k hlt
      obtain ⟨hF, hFm⟩ := H.out.2 k hlt
      obtain ⟨c, o, he, hcb, hcc⟩ := hF.at (by omega)
      have hz := hcc q hql
      rw [← hbel.out.cell (p := ⟨c, o + q, none⟩) hcb] at hz
      have hsz := hbel.out.size
      have hrk : rs.length ≤ 1048576 := by have := hrl.out; omega
      have HCS := Lib.hid ((cnl_snoc hrs.out (r := (L.getD k FRw.none).zs.getD q 0) (x := colT (zz L) q k) (by unfold colT; rw [zz_at])).trans (tells_succ (colT (zz L) q) k).symm)
      have HRl := Lib.hid hrl.out
      unfold FRw.val at hck
      generalize L.getD k FRw.none = r at *
      obtain ⟨ra, rl, rc, rz⟩ := r
      simp only at hck hz he hql HCS
      subst he
      generalize rz.getD q 0 = z at *
      clear hc hb hF hFm hcc hcb hrs hrl H HQ
      go_wp2_with (at_builtin; refine wpList_append_own _ rfl _ _ 22 rfl w.heap.size 28 i0 (.float .f32 0) 1 4 Try.underlying22 hi hz0 hz1 hz2 rfl (by decide) _ _ _ rfl (World.ownsRow.alloc (FOwn.drewN hown.out 0) _) ⟨wr.heap.size, 0, none⟩ 1 1 [_] rfl rfl (one_new rfl) ?c2 ?c3 ?c4 ?c5 ?_)
      case c2 => intro u hu; simp at hu; subst hu; rfl
      case c3 => unfold maxLen; omega
      case c4 => omega
      case c5 => simp <;> omega
      intro v' w1 hown' hgrow _
      have R := FOwn.push (n := 0) hown.out hbel.out hsz hown' hgrow
      have hR := Lib.hid R
      clear R hown' hgrow hown hbel hck hz
      go_wp2
      go_roundw
      case rel =>
        refine ⟨k + 1, _, by omega, by go_num, ?_, Lib.hid hR.out.1, HCS, Lib.hid hR.out.2⟩
        exact Lib.hid (by rw [List.length_append, HRl.out]; rfl)
      case measure => simp [intOf]; omega
    · have hfin := Lib.hid (show cnl rs = tells (colT (zz L) q) n by rw [hrs.out, show k = n by omega])
      clear hrs H
      go_wp2
      go_ret
      exact ⟨_, rs, rfl, hown.out, hfin.out, hbel.out⟩
end Go.Proofs.Ytallegmkkbmelab
