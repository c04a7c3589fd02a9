/-
  TakeApart of the model: its lists.
-/
import Derived.Test.YtallegmkkbmelaaCApp
import Derived.Test.YtallegmkkbmelaaCLag
import Derived.Deep.AppendLies
import Derived.Deep.RegionLaw
namespace Go.Proofs.Ytallegmkkbmelaa
open Ieee Go.RowKit
set_option linter.unusedVariables false

theorem off_snoc {xs ys rs : List Nat} {k r x y : Nat} (h : cnl rs = tells (fun i => aop .sub .f32 (cn .f32 (xs.getD i 0)) (cn .f32 (ys.getD i 0))) k) (hx : xs.getD k 0 = x) (hy : ys.getD k 0 = y) (W : World) : cnl (rs ++ [fopR .sub .f32 x y W]) = tells (fun i => aop .sub .f32 (cn .f32 (xs.getD i 0)) (cn .f32 (ys.getD i 0))) (k + 1) := by
  refine (cnl_snoc h (cn_fopR ..)).trans ?_
  rw [tells_succ, hx, hy]
set_option maxHeartbeats 2000000 in
theorem l02Off_any (a a' : Option Addr) (len cap len' cap' : Nat) (zs ys : List Nat) (w : World) (h : FSl w a len zs) (h' : FSl w a' len' ys) (hm : len ≤ 1048576) (hl2 : len ≤ len') :
    Calls Try.prog 42 #[.slice a len cap, .slice a' len' cap'] w (RetO 23 (offZ zs ys) w) := by
  obtain ⟨i0, hi, hz0, hz1, hz2⟩ := info_parts Try.infoR
  have H := Lib.hid h
  have H' := Lib.hid h'
  have HL := Lib.hid h.1
  have HN := Lib.hid (FOwn.made (T := 23) w (Nat.le_refl _))
  clear h h'
  go_enter Try.func42, Try.ntmps42
  go_wp2
  go_loopw [5, 6] (fun v i wr => ∃ (k : Nat) (rs : List Nat), k ≤ len ∧ i = .int .i64 k ∧ Hid (rs.length = k) ∧ Hid (FOwn 23 w.heap.size wr v rs) ∧ Hid (cnl rs = tells (fun i => aop .sub .f32 (cn .f32 (zs.getD i 0)) (cn .f32 (ys.getD i 0))) k) ∧ Hid (Below w.heap.size w wr)) (fun _ i _ => len - (intOf i).toNat)
  case atStart => exact ⟨0, [], Nat.zero_le _, rfl, Lib.hid rfl, HN, Lib.hid rfl, Lib.hid ((Below.refl _ _).alloc (Nat.le_refl _) _)⟩
  case round =>
    rename_i wr
    obtain ⟨k, rs, hk, rfl, hrl, hown, hrs, hbel⟩ := hrel
    by_cases hlt : k < len
    · obtain ⟨b, off, rfl, hb, hc⟩ := H.out.at (by omega)
      obtain ⟨b', off', rfl, hb', hc'⟩ := H'.out.at (by omega)
      have hck := hc k hlt
      have hck2 := hc' k (by omega)
      rw [← hbel.out.cell (p := ⟨b, off + k, none⟩) hb] at hck
      rw [← hbel.out.cell (p := ⟨b', off' + k, none⟩) hb'] at hck2
      have hsz := hbel.out.size
      have hrk : rs.length ≤ 1048576 := by have := hrl.out; omega
      obtain ⟨z, hz⟩ : ∃ z, zs.getD k 0 = z := ⟨_, rfl⟩
      obtain ⟨y, hy⟩ : ∃ y, ys.getD k 0 = y := ⟨_, rfl⟩
      rw [hz] at hck
      rw [hy] at hck2
      have HStz := Lib.hid (fun W => off_snoc (r := 0) hrs.out hz hy W)
      have HRl := Lib.hid hrl.out
      have hkl1 : (k : Int) < (len : Int) := by omega
      have hkl2 : (k : Int) < (len' : Int) := by omega
      have hk0 : (0 : Int) ≤ (k : Int) := by omega
      have hb96 : w.heap.size ≤ wr.heap.size + 1 := by omega
      have h3 : rs.length + 1 ≤ maxLen := by unfold maxLen; omega
      have h4 : (rs.length + 1) * 4 ≤ 140737488355328 := by omega
      obtain ⟨A, cp, he, _, _⟩ := hown.out.sl
      subst he
      clear hz hy hrs hc hc' hb hb' H H' hrl
      go_wp2
      go_region_law ((refine step_append_lies _ (by rfl) _ _ 22 (by rfl) w.heap.size 23 i0 (.float .f32 0) 1 4 Try.underlying22 hi hz0 hz1 hz2 rfl (by decide) _ _ _ (by rfl) (own_at hown.out (by rfl) _) ⟨wr.heap.size, 0, none⟩ 1 1 [_] (by rfl) (by rfl) (one_new (by rfl)) (by simp [Value.oneCell']) (by omega) h3 h4 (by simp; exact hb96) _ (by rfl) ?_; intro gg cc w1 hown1 hgrow hat hlt1))
      all_goals
        have R := push_at (rs := rs) hown.out ((below_drewN hbel.out _).alloc (by exact hsz) _) (by simp; exact hb96) hown1 hgrow
        have hR := Lib.hid R
        have hcs := Lib.hid (HStz.out wr.drew)
        clear R hown1 hgrow hown hbel hck hck2 hat hlt1 HStz
        go_wp2
        go_roundw
        case rel =>
          refine ⟨k + 1, _, by omega, by go_num, ?_, Lib.hid hR.out.1, hcs, Lib.hid hR.out.2⟩
          exact Lib.hid (by rw [List.length_append, HRl.out]; rfl)
        case measure => simp [intOf]; omega
    · have hfin := Lib.hid (show cnl rs = offZ zs ys by unfold offZ; rw [hrs.out, HL.out, show k = len by omega])
      clear hrs H H'
      go_wp2
      go_ret
      exact ⟨_, rs, rfl, hown.out, hfin.out, hbel.out⟩

set_option maxHeartbeats 1000000 in
theorem l02Spr_any (a : Option Addr) (m cap n : Nat) (s : List Nat) (w : World) (h : FSl w a m s) (hm1 : 1 ≤ m) (hm : m ≤ 1048576) (hn : n ≤ 1048576) :
    Calls Try.prog 43 #[.slice a m cap, .int .i64 n] w (RetO 23 (sprZ s n) w) := by
  obtain ⟨i0, hi, hz0, hz1, hz2⟩ := info_parts Try.infoR
  have H := Lib.hid h
  have HL := Lib.hid h.1
  have HN := Lib.hid (FOwn.made (T := 23) w (Nat.le_refl _))
  obtain ⟨b, off, rfl, hb, hc⟩ := h.at (by omega)
  have HC := Lib.hid hc
  clear h hc
  have d0 : decide ((m : Int) = 0) = false := decide_eq_false (by omega)
  have d00 : ((m : Int) == 0) = false := beq_false_of_ne (by omega)
  have d1 : (m : Int) ≠ 0 := by omega
  go_enter Try.func43, Try.ntmps43
  go_wp2
  go_loopw [5, 6] (fun v i wr => ∃ (k : Nat) (rs : List Nat), k ≤ n ∧ i = .int .i64 k ∧ Hid (rs.length = k) ∧ Hid (FOwn 23 w.heap.size wr v rs) ∧ Hid (cnl rs = tells (fun i => cn .f32 (s.getD (i % s.length) 0)) k) ∧ Hid (Below w.heap.size w wr)) (fun _ i _ => n - (intOf i).toNat)
  case atStart => exact ⟨0, [], Nat.zero_le _, rfl, Lib.hid rfl, HN, Lib.hid rfl, Lib.hid ((Below.refl _ _).alloc (Nat.le_refl _) _)⟩
  case round =>
    rename_i wr
    obtain ⟨k, rs, hk, rfl, hrl, hown, hrs, hbel⟩ := hrel
    by_cases hlt : k < n
    · obtain ⟨qq, hqq⟩ : ∃ qq, qq = k % m := ⟨_, rfl⟩
      have hqm : qq < m := by rw [hqq]; exact Nat.mod_lt _ hm1
      have hqz : (k : Int) % (m : Int) = (qq : Int) := by rw [hqq]; exact (Int.natCast_emod k m).symm
      have hqt : (k : Int).tmod (m : Int) = (qq : Int) := by rw [Int.tmod_eq_emod_of_nonneg (by omega)]; exact hqz
      have hck := HC.out qq hqm
      rw [← hbel.out.cell (p := ⟨b, off + qq, none⟩) hb] at hck
      have hsz := hbel.out.size
      have hrk : rs.length ≤ 1048576 := by have := hrl.out; omega
      obtain ⟨z, hz⟩ : ∃ z, s.getD qq 0 = z := ⟨_, rfl⟩
      rw [hz] at hck
      have hcs := Lib.hid (show cnl (rs ++ [z]) = tells (fun i => cn .f32 (s.getD (i % s.length) 0)) (k + 1) by
        rw [tells_succ, HL.out, ← hqq, hz]
        have := hrs.out
        rw [HL.out] at this
        exact cnl_snoc this rfl)
      have p1 : (0 : Int) ≤ (k : Int) := by omega
      have p2 : (0 : Int) ≤ (qq : Int) := by omega
      have l2 : (qq : Int) < (m : Int) := by omega
      clear hz hqq
      go_wp2_with (at_builtin; refine wpList_append_own _ rfl _ _ 22 rfl w.heap.size 23 i0 (.float .f32 0) 1 4 Try.underlying22 hi hz0 hz1 hz2 rfl (by decide) _ _ _ rfl (World.ownsRow.alloc hown.out _) ⟨wr.heap.size, 0, none⟩ 1 1 [_] rfl rfl (one_new rfl) ?c2 ?c3 ?c4 ?c5 ?_)
      case c2 => intro u hu; simp at hu; subst hu; rfl
      case c3 => unfold maxLen; omega
      case c4 => omega
      case c5 => simp; show w.heap.size ≤ wr.heap.size + 1; omega
      intro v' w1 hown' hgrow _
      have R := FOwn.push (n := 0) hown.out hbel.out hsz hown' hgrow
      have hR := Lib.hid R
      have hrl2 := Lib.hid hrl.out
      clear R hown' hgrow hown hbel hrs hrl hck
      go_wp2
      go_roundw
      case rel =>
        refine ⟨k + 1, _, by omega, by go_num, ?_, Lib.hid hR.out.1, hcs, Lib.hid hR.out.2⟩
        exact Lib.hid (by rw [List.length_append, hrl2.out]; rfl)
      case measure => simp [intOf]; omega
    · have hfin := Lib.hid (show cnl rs = sprZ s n by unfold sprZ; rw [hrs.out, show k = n by omega])
      clear hrs H
      go_wp2
      go_ret
      exact ⟨_, rs, rfl, hown.out, hfin.out, hbel.out⟩

end Go.Proofs.Ytallegmkkbmelaa
