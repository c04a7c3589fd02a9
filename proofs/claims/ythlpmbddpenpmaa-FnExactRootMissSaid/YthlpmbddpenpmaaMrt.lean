/-
  RootMiss, in both packages.
-/
import Derived.Test.YthlpmbddpenpmaaMsr
import Derived.Test.YthlpmbddpenpmaaNng
namespace Go.Proofs.Ythlpmbddpenpmaa
open Ieee Go.RowKit
set_option linter.unusedVariables false

def tSqr (x y : Nat) : Nat := aop .mul .f32 (aop .sub .f32 x y) (aop .sub .f32 x y)
theorem fun_RootMiss (x y : Nat) (w : World) : Calls Try.prog 53 #[.float .f32 x, .float .f32 y] w (RetF .f32 (tSqr (cn .f32 x) (cn .f32 y)) w) := by
  go_enter Try.func53, Try.ntmps53
  go_wp2
  go_ret
  exact ⟨_, _, by rw [cn_fopR, cn_fopR]; rfl, rfl, rfl⟩
def rtB (zs ys : List Nat) : Bool := msB tSqr zs ys
def rtV (zs ys : List Nat) : Nat := root32 (msV tSqr zs ys)
theorem root_zero : root32 0 = 0 := by decide +kernel
theorem nng_mean {f : Nat → Nat} (hf : ∀ k, cn .f32 (f k) = f k) (hn : ∀ k, nng (f k)) (n : Nat) : nng (mean32 (tells f n)) := by
  unfold mean32
  rw [sum32_tells hf, tells_len]
  exact nng_quo (nng_sumT hn n) (nng_i2f n)
theorem nng_msr (zs ys : List Nat) : nng (mean32 (msL tSqr zs ys)) := nng_mean (fun k => cn_aop ..) (fun k => nng_sq _) _
theorem rt_bad {zs ys : List Nat} (h : pairB zs ys = false) : rtB zs ys = false ∧ rtV zs ys = 0 := by
  obtain ⟨h1, h2⟩ := ms_bad (T := tSqr) h
  exact ⟨h1, by unfold rtV; rw [h2]; exact root_zero⟩
theorem rt_end {zs ys : List Nat} {r x : Nat} (h : cn .f32 r = if fin .f32 x then cn .f32 x else 0) (hs : pairB zs ys = true) (hx : cn .f32 x = root32 (mean32 (msL tSqr zs ys))) : cn .f32 r = rtV zs ys ∧ fin .f32 x = rtB zs ys := by
  obtain ⟨e1, e2⟩ := ms_good (T := tSqr) hs
  have hf : fin .f32 x = mtB (msL tSqr zs ys) := (fin_congr (hx.trans (cn_root32 _).symm)).trans (fin_root_iff (nng_msr zs ys))
  unfold rtB rtV
  rw [h, hf, hx, e1, e2]
  refine ⟨?_, rfl⟩
  unfold mtV
  cases hm : mtB (msL tSqr zs ys)
  · rw [if_neg (by simp), if_neg (by simp)]; exact root_zero.symm
  · rw [if_pos rfl, if_pos rfl]
theorem imRootMiss_any (a a' : Option Addr) (len cap : Nat) (zs : List Nat) (len' cap' : Nat) (ys : List Nat) (w : World) (h : FSl w a len zs) (h' : FSl w a' len' ys) (hm : len ≤ 1048576) (hm' : len' ≤ 1048576) :
    Calls Try.prog 23 #[.slice a len cap, .slice a' len' cap'] w (RetFBk (rtV zs ys) (rtB zs ys) w.heap.size w) := by
  have hmf : ∀ (fn : Fn) (first cap : Array Value) (w : World), (Instr.makeFunc fn first cap).run Try.prog w = .ok (.func fn first cap) w := fun _ _ _ _ => rfl
  have H := Lib.hid h
  have H' := Lib.hid h'
  clear h h'
  go_enter Try.func23, Try.ntmps23
  go_wp2_with fail
  refine (missTold_any 53 #[] (fun _ => True) tSqr _ _ _ _ _ _ _ _ _ (enter_of Try.func53 (by kernel_rfl) rfl) (fun x y => cn_aop ..) (fun _ _ _ _ => trivial) trivial (fun x y wr _ => fun_RootMiss x y wr) H.out H'.out hm hm').mono ?_
  rintro e w1 ⟨r, hr, rfl, hb⟩
  have HR := Lib.hid hr
  have HB := Lib.hid hb
  clear hr hb
  go_wp2_with fail
  refine (implRoot_any _ _).mono ?_
  rintro e w' ⟨x, n, hx, rfl, rfl⟩
  have HX := Lib.hid (show cn .f32 x = rtV zs ys by rw [hx]; unfold rtV; rw [← HR.out]; exact (root32_cn r).symm)
  clear hx
  go_wp2
  go_ret2
  exact ⟨x, HX.out, rfl, below_drewN HB.out _⟩
theorem root_any (a a' : Option Addr) (len cap : Nat) (zs : List Nat) (cap' : Nat) (ys : List Nat) (w : World) (h : FSl w a len zs) (h' : FSl w a' len ys) (hm : len ≤ 1048576) :
    Calls Try.prog 52 #[.slice a len cap, .slice a' len cap'] w (fun e w' => ∃ r, cn .f32 r = root32 (mean32 (msL tSqr zs ys)) ∧ e = .returned (.float .f32 r) ∧ Below w.heap.size w w') := by
  have H := Lib.hid h
  have H' := Lib.hid h'
  have HL := Lib.hid h.1
  clear h h'
  go_enter Try.func52, Try.ntmps52
  go_wp2_with fail
  refine (l02Off_any _ _ _ _ _ _ _ _ _ H.out H'.out hm (Nat.le_refl _)).mono ?_
  rintro e w1 ⟨v, rs, rfl, ho, hx, hb⟩
  obtain ⟨A, cp, rfl, hsl, _⟩ := ho.sl
  have hlr : rs.length = len := by have := congrArg List.length hx; rw [cnl_len] at this; unfold offT at this; rwa [tells_len] at this
  have HS := Lib.hid hsl
  have HD := Lib.hid (show dotTo rs rs rs.length = sum32 (msL tSqr zs ys) by
    unfold msL
    rw [sum32_tells (f := tell2 tSqr zs ys) (fun k => cn_aop ..), dotTo_sumT, HL.out, hlr]
    refine sumT_congr fun k hk => ?_
    have e : cn .f32 (rs.getD k 0) = aop .sub .f32 (cn .f32 (zs.getD k 0)) (cn .f32 (ys.getD k 0)) := by
      rw [← cnl_at (by omega), hx]; unfold offT; rw [tells_at _ hk]
    rw [e]; rfl)
  have HLr := Lib.hid hlr
  have HB := Lib.hid hb
  have hm2 : rs.length ≤ 1048576 := by omega
  clear ho hx hb hsl hlr
  go_wp2_with fail
  refine (l02Dot_any _ _ _ _ _ _ _ _ HS.out HS.out hm2).mono ?_
  rintro e w' ⟨d, n2, hd, rfl, rfl⟩
  have HDd := Lib.hid (hd.trans HD.out)
  clear hd
  go_wp2_with fail
  refine (specRoot_any _ _).mono ?_
  rintro e w' ⟨r, n3, hr, rfl, rfl⟩
  have Hr := Lib.hid hr
  clear hr
  go_wp2
  go_ret
  refine ⟨r, ?_, rfl, below_drewN HB.out _⟩
  rw [Hr.out]
  refine root32_congr ?_
  rw [cn_fopR, HDd.out, cn_mean]
  unfold mean32 msL i2f
  rw [tells_len, HL.out, HLr.out]
theorem spRootMiss_any (a a' : Option Addr) (len cap : Nat) (zs : List Nat) (len' cap' : Nat) (ys : List Nat) (w : World) (h : FSl w a len zs) (h' : FSl w a' len' ys) (hm : len ≤ 1048576) (hm' : len' ≤ 1048576) :
    Calls Try.prog 22 #[.slice a len cap, .slice a' len' cap'] w (RetFBk (rtV zs ys) (rtB zs ys) w.heap.size w) := by
  have H := Lib.hid h
  have H' := Lib.hid h'
  have HL := Lib.hid h.1
  have HL' := Lib.hid h'.1
  clear h h'
  cases hp : pairB zs ys
  · have HP := Lib.hid hp
    have HB := Lib.hid (rt_bad hp)
    clear hp
    go_enter Try.func22, Try.ntmps22
    go_wp2_with (go_at_call 44; refine (spTwo_any _ _ _ _ _ _ _ _ _ H.out H'.out hm hm').mono ?_; rw [HP.out]; rintro e w' ⟨m, rfl, rfl⟩)
    go_ret2
    exact ⟨0, by rw [HB.out.2]; exact cn_zero, by rw [HB.out.1]; rfl, below_drewN (Below.refl _ _) _⟩
  · have HP := Lib.hid hp
    obtain ⟨hs, hs', hll⟩ := pairB_t hp
    rw [HL.out, HL'.out] at hll
    subst hll
    clear hp hs hs'
    go_enter Try.func22, Try.ntmps22
    go_wp2_with fail
    refine (spTwo_any _ _ _ _ _ _ _ _ _ H.out H'.out hm hm').mono ?_
    rw [HP.out]
    rintro e w' ⟨m, rfl, rfl⟩
    go_wp2_with fail
    refine (root_any _ _ _ _ _ _ _ _ (FSl.drewN H.out m) (FSl.drewN H'.out m) hm).mono ?_
    rintro e w1 ⟨r, hr, rfl, hb⟩
    have HR := Lib.hid hr
    have HB1 := Lib.hid ((below_drewN (Below.refl w.heap.size w) m).trans hb)
    clear hr hb
    go_wp2_with fail
    refine (specNumber_any _ _).mono ?_
    rintro e w' ⟨r', n', hr', rfl, rfl⟩
    have W := Lib.hid (rt_end hr' HP.out HR.out)
    clear hr'
    go_wp2
    go_ret2
    exact ⟨r', W.out.1, by rw [← W.out.2]; rfl, below_drewN HB1.out _⟩
end Go.Proofs.Ythlpmbddpenpmaa
