/-
  QuantileMiss, in both packages.
-/
import Derived.Test.YthlpmbddpenpmaaMsr
import Derived.Test.YthlpmbddpenpmaaOpr
import Derived.Test.YthlpmbddpenpmaaCShr
import Derived.Test.YthlpmbddpenpmaaFnn
namespace Go.Proofs.Ythlpmbddpenpmaa
open Ieee Go.RowKit
set_option linter.unusedVariables false

def qnL (s d : Nat) : Nat := aop .mul .f32 (aop .sub .f32 s 1065353216) d
def tQn (s x y : Nat) : Nat := if geB (aop .sub .f32 x y) then aop .mul .f32 s (aop .sub .f32 x y) else qnL s (aop .sub .f32 x y)
theorem cn_tQn (s x y : Nat) : cn .f32 (tQn s x y) = tQn s x y := by
  unfold tQn qnL
  split <;> exact cn_aop ..
def qnB (s : Nat) (zs ys : List Nat) : Bool := shB s && msB (tQn (cn .f32 s)) zs ys
def qnV (s : Nat) (zs ys : List Nat) : Nat := if shB s then msV (tQn (cn .f32 s)) zs ys else 0
theorem qn_bad {s : Nat} {zs ys : List Nat} (h : shB s = false) : qnB s zs ys = false ∧ qnV s zs ys = 0 := by unfold qnB qnV; rw [h]; exact ⟨rfl, rfl⟩
theorem qn_good {s : Nat} {zs ys : List Nat} (h : shB s = true) : qnB s zs ys = msB (tQn (cn .f32 s)) zs ys ∧ qnV s zs ys = msV (tQn (cn .f32 s)) zs ys := by unfold qnB qnV; rw [h]; exact ⟨rfl, rfl⟩
theorem one_cnQ : cn .f32 1065353216 = 1065353216 := by decide +kernel
theorem fun_QuantileMiss (x y s bs : Nat) (w : World) (hs : w.cell? ⟨bs, 0, none⟩ = some (.float .f32 s)) : Calls Try.prog 66 #[.float .f32 x, .float .f32 y, .pointer (some ⟨bs, 0, none⟩)] w (RetF .f32 (tQn (cn .f32 s) (cn .f32 x) (cn .f32 y)) w) := by
  have HD := Lib.hid (show ∀ w, cn .f32 (fopR .sub .f32 x y w) = aop .sub .f32 (cn .f32 x) (cn .f32 y) from fun w => cn_fopR ..)
  have HO := Lib.hid (show ∀ w, geB (fopR .sub .f32 x y w) = geB (aop .sub .f32 (cn .f32 x) (cn .f32 y)) from fun w => geB_congr (by rw [HD.out, cn_aop]))
  cases hz : geB (aop .sub .f32 (cn .f32 x) (cn .f32 y))
  · have ho : ∀ w, ((FloatKind.format .f32).order (fopR .sub .f32 x y w) 0 == some Ordering.gt || (FloatKind.format .f32).order (fopR .sub .f32 x y w) 0 == some Ordering.eq) = false := fun w => (HO.out w).trans hz
    have HT := Lib.hid (show tQn (cn .f32 s) (cn .f32 x) (cn .f32 y) = qnL (cn .f32 s) (aop .sub .f32 (cn .f32 x) (cn .f32 y)) by unfold tQn; rw [hz]; rfl)
    clear hz
    go_enter Try.func66, Try.ntmps66
    go_wp2
    go_ret
    exact ⟨_, _, by rw [cn_fopR, cn_fopR, HD.out, HT.out, one_cnQ]; rfl, rfl, rfl⟩
  · have ho : ∀ w, ((FloatKind.format .f32).order (fopR .sub .f32 x y w) 0 == some Ordering.gt || (FloatKind.format .f32).order (fopR .sub .f32 x y w) 0 == some Ordering.eq) = true := fun w => (HO.out w).trans hz
    have HT := Lib.hid (show tQn (cn .f32 s) (cn .f32 x) (cn .f32 y) = aop .mul .f32 (cn .f32 s) (aop .sub .f32 (cn .f32 x) (cn .f32 y)) by unfold tQn; rw [hz]; rfl)
    clear hz
    go_enter Try.func66, Try.ntmps66
    go_wp2
    go_ret
    exact ⟨_, _, by rw [cn_fopR, HD.out, HT.out], rfl, rfl⟩
set_option maxRecDepth 100000 in
theorem imQuantileMiss_any (a a' : Option Addr) (len cap : Nat) (zs : List Nat) (len' cap' : Nat) (ys : List Nat) (s : Nat) (w : World) (h : FSl w a len zs) (h' : FSl w a' len' ys) (hm : len ≤ 1048576) (hm' : len' ≤ 1048576) :
    Calls Try.prog 29 #[.slice a len cap, .slice a' len' cap', .float .f32 s] w (RetFBk (qnV s zs ys) (qnB s zs ys) w.heap.size w) := by
  have hmf : ∀ (fn : Fn) (first cap : Array Value) (w : World), (Instr.makeFunc fn first cap).run Try.prog w = .ok (.func fn first cap) w := fun _ _ _ _ => rfl
  have hb0 := (Below.refl w.heap.size w).alloc (Nat.le_refl _) (.cells #[.float .f32 s] 23)
  have HB0 := Lib.hid hb0
  have H := Lib.hid (FSl.below h hb0)
  have H' := Lib.hid (FSl.below h' hb0)
  have HC := Lib.hid (show (w.alloc (.cells #[.float .f32 s] 23)).cell? ⟨w.heap.size, 0, none⟩ = some (.float .f32 s) by rw [World.cell?_alloc_at _ _ _ _ rfl]; rfl)
  clear h h' hb0
  cases hs : shB s
  · have HS := Lib.hid hs
    have HB := Lib.hid (qn_bad (zs := zs) (ys := ys) hs)
    clear hs
    go_enter Try.func29, Try.ntmps29
    go_wp2_with (go_at_call 65; refine (imSh_any _ _).mono ?_; rw [HS.out]; rintro e w' ⟨rfl, rfl⟩)
    go_ret2
    exact ⟨0, by rw [HB.out.2]; exact cn_zero, by rw [HB.out.1]; rfl, HB0.out⟩
  · have HS := Lib.hid hs
    have HB := Lib.hid (qn_good (zs := zs) (ys := ys) hs)
    clear hs
    go_enter Try.func29, Try.ntmps29
    go_wp2_with fail
    refine (imSh_any _ _).mono ?_
    rw [HS.out]
    rintro e w' ⟨rfl, rfl⟩
    go_wp2_with fail
    refine (missTold_any 66 #[.pointer (some ⟨w.heap.size, 0, none⟩)] (fun wr => wr.cell? ⟨w.heap.size, 0, none⟩ = some (.float .f32 s)) (tQn (cn .f32 s)) _ _ _ _ _ _ _ _ _ (enter_of Try.func66 (by kernel_rfl) rfl) (fun x y => cn_tQn ..) (fun wr wr' hj hb => by rw [hb.cell (p := ⟨w.heap.size, 0, none⟩) (by simp)]; exact hj) HC.out (fun x y wr hj => fun_QuantileMiss x y s w.heap.size wr hj) H.out H'.out hm hm').mono ?_
    rintro e w1 ⟨r, hr, rfl, hb⟩
    have HR := Lib.hid (hr.trans HB.out.2.symm)
    have HBb := Lib.hid (HB0.out.trans (hb.mono (by simp)))
    rw [← HB.out.1]
    clear hr hb
    go_wp2
    go_ret2
    exact ⟨r, HR.out, rfl, HBb.out⟩
theorem qn_snoc {s : Nat} {zs ys rs : List Nat} {k r z y : Nat} (h : cnl rs = tells (tell2 (tQn s) zs ys) k) (hz : zs.getD k 0 = z) (hy : ys.getD k 0 = y) (hr : cn .f32 r = tQn s (cn .f32 z) (cn .f32 y)) : cnl (rs ++ [r]) = tells (tell2 (tQn s) zs ys) (k + 1) := by
  rw [tells_succ]
  refine cnl_snoc h ?_
  rw [hr, ← hz, ← hy]; rfl
set_option maxHeartbeats 4000000 in
theorem spQuantileMiss_any (a a' : Option Addr) (len cap : Nat) (zs : List Nat) (len' cap' : Nat) (ys : List Nat) (s : Nat) (w : World) (h : FSl w a len zs) (h' : FSl w a' len' ys) (hm : len ≤ 1048576) (hm' : len' ≤ 1048576) :
    Calls Try.prog 28 #[.slice a len cap, .slice a' len' cap', .float .f32 s] w (RetFBk (qnV s zs ys) (qnB s zs ys) w.heap.size w) := by
  obtain ⟨i0, hi, hz0, hz1, hz2⟩ := info_parts Try.infoR
  have H := Lib.hid h
  have H' := Lib.hid h'
  have HL := Lib.hid h.1
  have HL' := Lib.hid h'.1
  clear h h'
  cases hp : pairB zs ys
  · have HP := Lib.hid hp
    have HB := Lib.hid (show qnB s zs ys = false ∧ qnV s zs ys = 0 by
      obtain ⟨e1, e2⟩ := ms_bad (T := tQn (cn .f32 s)) hp
      unfold qnB qnV; rw [e1, e2]; exact ⟨Bool.and_false _, by split <;> rfl⟩)
    clear hp hi hz0 hz1 hz2
    go_enter Try.func28, Try.ntmps28
    go_wp2_with (go_at_call 44; refine (spTwo_any _ _ _ _ _ _ _ _ _ H.out H'.out hm hm').mono ?_; rw [HP.out]; rintro e w' ⟨m, rfl, rfl⟩)
    go_ret2
    exact ⟨0, by rw [HB.out.2]; exact cn_zero, by rw [HB.out.1]; rfl, below_drewN (Below.refl _ _) _⟩
  · have HP := Lib.hid hp
    cases hsh : shB s
    · have HS := Lib.hid hsh
      have HB := Lib.hid (qn_bad (zs := zs) (ys := ys) hsh)
      clear hp hsh hi hz0 hz1 hz2
      go_enter Try.func28, Try.ntmps28
      go_wp2_with fail
      refine (spTwo_any _ _ _ _ _ _ _ _ _ H.out H'.out hm hm').mono ?_
      rw [HP.out]
      rintro e w' ⟨m, rfl, rfl⟩
      go_wp2_with (go_at_call 64; refine (spSh_any _ _).mono ?_; rw [HS.out]; rintro e w' ⟨rfl, rfl⟩)
      go_ret2
      exact ⟨0, by rw [HB.out.2]; exact cn_zero, by rw [HB.out.1]; rfl, below_drewN (Below.refl _ _) _⟩
    · have HS := Lib.hid hsh
      have HG := Lib.hid (qn_good (zs := zs) (ys := ys) hsh)
      obtain ⟨hs, hs', hll⟩ := pairB_t hp
      have HF := Lib.hid (serB_t hs).2.2
      have HF' := Lib.hid (serB_t hs').2.2
      rw [HL.out, HL'.out] at hll
      subst hll
      clear hp hs hs' hsh
      go_enter Try.func28, Try.ntmps28
      go_wp2_with fail
      refine (spTwo_any _ _ _ _ _ _ _ _ _ H.out H'.out hm hm').mono ?_
      rw [HP.out]
      rintro e w' ⟨m, rfl, rfl⟩
      go_wp2_with fail
      refine (spSh_any _ _).mono ?_
      rw [HS.out]
      rintro e w' ⟨rfl, rfl⟩
      have HN := Lib.hid (FOwn.made (T := 23) (B := w.heap.size) (w.drewN m) (Nat.le_refl _))
      go_wp2
      go_loopw [8, 9] (fun v i wr => ∃ (k : Nat) (rs : List Nat), k ≤ len ∧ i = .int .i64 k ∧ Hid (rs.length = k) ∧ Hid (FOwn 23 w.heap.size wr v rs) ∧ Hid (cnl rs = tells (tell2 (tQn (cn .f32 s)) zs ys) k) ∧ Hid (Below w.heap.size w wr)) (fun _ i _ => len - (intOf i).toNat)
      case atStart => exact ⟨0, [], Nat.zero_le _, rfl, Lib.hid rfl, HN, Lib.hid rfl, Lib.hid ((below_drewN (Below.refl _ _) m).alloc (by show w.heap.size ≤ w.heap.size; exact Nat.le_refl _) _)⟩
      case round =>
        rename_i wr
        obtain ⟨k, rs, hk, rfl, hrl, hown, hrs, hbel⟩ := hrel
        by_cases hlt : k < len
        · obtain ⟨b, off, rfl, hbb, hc⟩ := H.out.at (by omega)
          obtain ⟨b', off', rfl, hbb', hc'⟩ := H'.out.at (by omega)
          have hck := hc k hlt
          have hck' := hc' k hlt
          rw [← hbel.out.cell (p := ⟨b, off + k, none⟩) hbb] at hck
          rw [← hbel.out.cell (p := ⟨b', off' + k, none⟩) hbb'] at hck'
          have hsz := hbel.out.size
          have hrk : rs.length ≤ 1048576 := by have := hrl.out; omega
          have hfz := fins_at HF.out (k := k) (by rw [HL.out]; exact hlt)
          have hfy := fins_at HF'.out (k := k) (by rw [HL'.out]; exact hlt)
          obtain ⟨z, hz⟩ : ∃ z, zs.getD k 0 = z := ⟨_, rfl⟩
          obtain ⟨y, hy⟩ : ∃ y, ys.getD k 0 = y := ⟨_, rfl⟩
          rw [hz] at hck hfz
          rw [hy] at hck' hfy
          have HSn := Lib.hid (fun r (hr : cn .f32 r = tQn (cn .f32 s) (cn .f32 z) (cn .f32 y)) => qn_snoc hrs.out hz hy hr)
          have hsub : ∀ w t, (binOp .sub t (.float .f32 z) (.float .f32 y)).run Try.prog w = .ok (.float .f32 (aop .sub .f32 z y)) w := fun w t => op_run t (isN_sub hfz hfy) w
          have hez := fin_cn hfz
          have hey := fin_cn hfy
          rw [hez, hey] at HSn
          have HRl := Lib.hid hrl.out
          clear hc hc' hbb hbb' hz hy hrs hfz hfy H H' HF HF' hrl hez hey
          cases hzz : geB (aop .sub .f32 z y)
          · have ho : ((FloatKind.format .f32).order (aop .sub .f32 z y) 0 == some Ordering.gt || (FloatKind.format .f32).order (aop .sub .f32 z y) 0 == some Ordering.eq) = false := hzz
            have HCS := Lib.hid (fun w1 w2 => HSn.out (fopR .mul .f32 (fopR .sub .f32 s 1065353216 w1) (aop .sub .f32 z y) w2) (by rw [cn_fopR, cn_fopR, one_cnQ, cn_aop]; unfold tQn; rw [hzz]; rfl))
            clear hzz HSn
            go_wp2
            go_region
            all_goals
              go_wp2_with (at_builtin; refine wpList_append_own _ rfl _ _ 22 rfl w.heap.size 23 i0 (.float .f32 0) 1 4 Try.underlying22 hi hz0 hz1 hz2 rfl (by decide) _ _ _ rfl (World.ownsRow.alloc (FOwn.drewN hown.out _) _) ⟨wr.heap.size, 0, none⟩ 1 1 [_] rfl rfl (one_new rfl) ?c2 ?c3 ?c4 ?c5 ?_)
              case c2 => intro u hu; simp at hu; subst hu; rfl
              case c3 => unfold maxLen; omega
              case c4 => omega
              case c5 => simp; show w.heap.size ≤ wr.heap.size + 1; omega
              intro v' w1 hown' hgrow _
              have R := FOwn.push hown.out hbel.out hsz hown' hgrow
              have hR := Lib.hid R
              clear R hown' hgrow hown hbel hck hck'
              go_wp2
              go_roundw
              case rel =>
                refine ⟨k + 1, _, by omega, by go_num, ?_, Lib.hid hR.out.1, Lib.hid (HCS.out _ _), Lib.hid hR.out.2⟩
                exact Lib.hid (by rw [List.length_append, HRl.out]; rfl)
              case measure => simp [intOf]; omega
          · have ho : ((FloatKind.format .f32).order (aop .sub .f32 z y) 0 == some Ordering.gt || (FloatKind.format .f32).order (aop .sub .f32 z y) 0 == some Ordering.eq) = true := hzz
            have HCS := Lib.hid (fun w2 => HSn.out (fopR .mul .f32 s (aop .sub .f32 z y) w2) (by rw [cn_fopR, cn_aop]; unfold tQn; rw [hzz]; rfl))
            clear hzz HSn
            go_wp2
            go_region
            all_goals
              go_wp2_with (at_builtin; refine wpList_append_own _ rfl _ _ 22 rfl w.heap.size 23 i0 (.float .f32 0) 1 4 Try.underlying22 hi hz0 hz1 hz2 rfl (by decide) _ _ _ rfl (World.ownsRow.alloc (FOwn.drewN hown.out _) _) ⟨wr.heap.size, 0, none⟩ 1 1 [_] rfl rfl (one_new rfl) ?c2 ?c3 ?c4 ?c5 ?_)
              case c2 => intro u hu; simp at hu; subst hu; rfl
              case c3 => unfold maxLen; omega
              case c4 => omega
              case c5 => simp; show w.heap.size ≤ wr.heap.size + 1; omega
              intro v' w1 hown' hgrow _
              have R := FOwn.push hown.out hbel.out hsz hown' hgrow
              have hR := Lib.hid R
              clear R hown' hgrow hown hbel hck hck'
              go_wp2
              go_roundw
              case rel =>
                refine ⟨k + 1, _, by omega, by go_num, ?_, Lib.hid hR.out.1, Lib.hid (HCS.out _), Lib.hid hR.out.2⟩
                exact Lib.hid (by rw [List.length_append, HRl.out]; rfl)
              case measure => simp [intOf]; omega
        · have hfin := Lib.hid (show cnl rs = msL (tQn (cn .f32 s)) zs ys by unfold msL; rw [hrs.out, HL.out, show k = len by omega])
          clear hrs H H'
          obtain ⟨A, cp, rfl, hsl, _⟩ := hown.out.sl
          have HSl := Lib.hid hsl
          have hm2 : rs.length ≤ 1048576 := by have := hrl.out; omega
          clear hsl
          go_wp2_with fail
          refine (l02Mean_any _ _ _ _ _ HSl.out hm2).mono ?_
          rintro e w' ⟨r, n, hr, rfl, rfl⟩
          have HR := Lib.hid (hr.trans (mean32_of hfin.out))
          clear hr
          go_wp2_with fail
          refine (specNumber_any _ _).mono ?_
          rintro e w' ⟨r', n', hr', rfl, rfl⟩
          have W := Lib.hid (ms_end (T := tQn (cn .f32 s)) hr' HP.out HR.out)
          clear hr'
          go_wp2
          go_ret2
          exact ⟨r', W.out.1.trans HG.out.2.symm, by rw [HG.out.1, ← W.out.2]; rfl, below_drewN hbel.out _⟩
end Go.Proofs.Ythlpmbddpenpmaa
