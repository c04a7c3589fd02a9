/-
  MeanMiss and SizeMiss, in both packages.
-/
import Derived.Test.YthlpmbddpenpmaaMis
import Derived.Test.YthlpmbddpenpmaaOff
namespace Go.Proofs.Ythlpmbddpenpmaa
open Ieee Go.RowKit
set_option linter.unusedVariables false

theorem mean32_of {rs xs : List Nat} (h : cnl rs = xs) : mean32 rs = mean32 xs := mean32_congr (by rw [← h, cnl_cnl])
theorem aop_lt32 (op : BinOp) (x y : Nat) : aop op .f32 x y < 4294967296 := by
  unfold aop
  cases h : floatBits op .f32 x y with
  | some r =>
    have := floatBits_wf h
    exact of_decide_eq_true this
  | none => decide
def tSub (x y : Nat) : Nat := aop .sub .f32 x y
def tAbs (x y : Nat) : Nat := absF (aop .sub .f32 x y)
theorem fun_MeanMiss (x y : Nat) (w : World) : Calls Try.prog 49 #[.float .f32 x, .float .f32 y] w (RetF .f32 (tSub (cn .f32 x) (cn .f32 y)) w) := by
  go_enter Try.func49, Try.ntmps49
  go_wp2
  go_ret
  exact ⟨_, _, cn_fopR .., rfl, rfl⟩
theorem imMeanMiss_any (a a' : Option Addr) (len cap : Nat) (zs : List Nat) (len' cap' : Nat) (ys : List Nat) (w : World) (h : FSl w a len zs) (h' : FSl w a' len' ys) (hm : len ≤ 1048576) (hm' : len' ≤ 1048576) :
    Calls Try.prog 17 #[.slice a len cap, .slice a' len' cap'] w (RetFBk (msV tSub zs ys) (msB tSub zs ys) w.heap.size w) := by
  have hmf : ∀ (fn : Fn) (first cap : Array Value) (w : World), (Instr.makeFunc fn first cap).run Try.prog w = .ok (.func fn first cap) w := fun _ _ _ _ => rfl
  have H := Lib.hid h
  have H' := Lib.hid h'
  clear h h'
  go_enter Try.func17, Try.ntmps17
  go_wp2_with fail
  refine (missTold_any 49 #[] (fun _ => True) tSub _ _ _ _ _ _ _ _ _ (enter_of Try.func49 (by kernel_rfl) rfl) (fun x y => cn_aop ..) (fun _ _ _ _ => trivial) trivial (fun x y wr _ => fun_MeanMiss x y wr) H.out H'.out hm hm').mono ?_
  rintro e w1 ⟨r, hr, rfl, hb⟩
  have HR := Lib.hid hr
  have HB := Lib.hid hb
  clear hr hb
  go_wp2
  go_ret2
  exact ⟨r, HR.out, rfl, HB.out⟩
theorem imSizeMiss_any (a a' : Option Addr) (len cap : Nat) (zs : List Nat) (len' cap' : Nat) (ys : List Nat) (w : World) (h : FSl w a len zs) (h' : FSl w a' len' ys) (hm : len ≤ 1048576) (hm' : len' ≤ 1048576) :
    Calls Try.prog 21 #[.slice a len cap, .slice a' len' cap'] w (RetFBk (msV tAbs zs ys) (msB tAbs zs ys) w.heap.size w) := by
  have hmf : ∀ (fn : Fn) (first cap : Array Value) (w : World), (Instr.makeFunc fn first cap).run Try.prog w = .ok (.func fn first cap) w := fun _ _ _ _ => rfl
  have H := Lib.hid h
  have H' := Lib.hid h'
  clear h h'
  go_enter Try.func21, Try.ntmps21
  go_wp2_with fail
  refine (missTold_any 51 #[] (fun _ => True) tAbs _ _ _ _ _ _ _ _ _ (enter_of Try.func51 (by kernel_rfl) rfl) (fun x y => cn_absF _) (fun _ _ _ _ => trivial) trivial (fun x y wr _ => imWay_any x y wr) H.out H'.out hm hm').mono ?_
  rintro e w1 ⟨r, hr, rfl, hb⟩
  have HR := Lib.hid hr
  have HB := Lib.hid hb
  clear hr hb
  go_wp2
  go_ret2
  exact ⟨r, HR.out, rfl, HB.out⟩

theorem spMeanMiss_any (a a' : Option Addr) (len cap : Nat) (zs : List Nat) (len' cap' : Nat) (ys : List Nat) (w : World) (h : FSl w a len zs) (h' : FSl w a' len' ys) (hm : len ≤ 1048576) (hm' : len' ≤ 1048576) :
    Calls Try.prog 15 #[.slice a len cap, .slice a' len' cap'] w (RetFBk (msV tSub zs ys) (msB tSub zs ys) w.heap.size w) := by
  have H := Lib.hid h
  have H' := Lib.hid h'
  have HL := Lib.hid h.1
  have HL' := Lib.hid h'.1
  clear h h'
  cases hp : pairB zs ys
  · have HP := Lib.hid hp
    have HB := Lib.hid (ms_bad (T := tSub) hp)
    clear hp
    go_enter Try.func15, Try.ntmps15
    go_wp2_with (go_at_call 44; refine (spTwo_any _ _ _ _ _ _ _ _ _ H.out H'.out hm hm').mono ?_; rw [HP.out]; rintro e w' ⟨m, rfl, rfl⟩)
    go_ret2
    exact ⟨0, by rw [HB.out.2]; exact cn_zero, by rw [HB.out.1]; rfl, below_drewN (Below.refl _ _) _⟩
  · have HP := Lib.hid hp
    obtain ⟨hs, hs', hll⟩ := pairB_t hp
    rw [HL.out, HL'.out] at hll
    subst hll
    clear hp hs hs'
    go_enter Try.func15, Try.ntmps15
    go_wp2_with fail
    refine (spTwo_any _ _ _ _ _ _ _ _ _ H.out H'.out hm hm').mono ?_
    rw [HP.out]
    rintro e w' ⟨m, rfl, rfl⟩
    go_wp2_with fail
    refine (l02Off_any _ _ _ _ _ _ _ _ _ (FSl.drewN H.out m) (FSl.drewN H'.out m) hm (Nat.le_refl _)).mono ?_
    rintro e w1 ⟨v, rs, rfl, ho, hx, hb⟩
    obtain ⟨A, cp, rfl, hsl, _⟩ := ho.sl
    have hlr : rs.length = len := by have := congrArg List.length hx; rw [cnl_len] at this; unfold offT at this; rwa [tells_len] at this
    have HS := Lib.hid hsl
    have HX := Lib.hid (show mean32 rs = mean32 (msL tSub zs ys) by rw [mean32_of hx]; unfold msL offT; rw [HL.out]; rfl)
    have HB1 := Lib.hid ((below_drewN (Below.refl w.heap.size w) m).trans hb)
    have hm2 : rs.length ≤ 1048576 := by omega
    clear ho hx hb hsl hlr
    go_wp2_with fail
    refine (l02Mean_any _ _ _ _ _ HS.out hm2).mono ?_
    rintro e w' ⟨r, n, hr, rfl, rfl⟩
    have HR := Lib.hid (hr.trans HX.out)
    clear hr
    go_wp2_with fail
    refine (specNumber_any _ _).mono ?_
    rintro e w' ⟨r', n', hr', rfl, rfl⟩
    have W := Lib.hid (ms_end (T := tSub) hr' HP.out HR.out)
    clear hr'
    go_wp2
    go_ret2
    exact ⟨r', W.out.1, by rw [← W.out.2]; rfl, below_drewN HB1.out _⟩
theorem spSizeMiss_any (a a' : Option Addr) (len cap : Nat) (zs : List Nat) (len' cap' : Nat) (ys : List Nat) (w : World) (h : FSl w a len zs) (h' : FSl w a' len' ys) (hm : len ≤ 1048576) (hm' : len' ≤ 1048576) :
    Calls Try.prog 20 #[.slice a len cap, .slice a' len' cap'] w (RetFBk (msV tAbs zs ys) (msB tAbs zs ys) w.heap.size w) := by
  have H := Lib.hid h
  have H' := Lib.hid h'
  have HL := Lib.hid h.1
  have HL' := Lib.hid h'.1
  clear h h'
  cases hp : pairB zs ys
  · have HP := Lib.hid hp
    have HB := Lib.hid (ms_bad (T := tAbs) hp)
    clear hp
    go_enter Try.func20, Try.ntmps20
    go_wp2_with (go_at_call 44; refine (spTwo_any _ _ _ _ _ _ _ _ _ H.out H'.out hm hm').mono ?_; rw [HP.out]; rintro e w' ⟨m, rfl, rfl⟩)
    go_ret2
    exact ⟨0, by rw [HB.out.2]; exact cn_zero, by rw [HB.out.1]; rfl, below_drewN (Below.refl _ _) _⟩
  · have HP := Lib.hid hp
    obtain ⟨hs, hs', hll⟩ := pairB_t hp
    rw [HL.out, HL'.out] at hll
    subst hll
    clear hp hs hs'
    go_enter Try.func20, Try.ntmps20
    go_wp2_with fail
    refine (spTwo_any _ _ _ _ _ _ _ _ _ H.out H'.out hm hm').mono ?_
    rw [HP.out]
    rintro e w' ⟨m, rfl, rfl⟩
    go_wp2_with fail
    refine (l02Off_any _ _ _ _ _ _ _ _ _ (FSl.drewN H.out m) (FSl.drewN H'.out m) hm (Nat.le_refl _)).mono ?_
    rintro e w1 ⟨v, rs, rfl, ho, hx, hb⟩
    obtain ⟨A, cp, rfl, hsl, _⟩ := ho.sl
    have hlr : rs.length = len := by have := congrArg List.length hx; rw [cnl_len] at this; unfold offT at this; rwa [tells_len] at this
    have HS := Lib.hid hsl
    have HAt := Lib.hid (show ∀ i, i < rs.length → cn .f32 (rs.getD i 0) = aop .sub .f32 (cn .f32 (zs.getD i 0)) (cn .f32 (ys.getD i 0)) from fun i hi => by
      rw [← cnl_at hi, hx]; unfold offT; rw [tells_at _ (by omega)])
    have HLr := Lib.hid hlr
    have HB1 := Lib.hid ((below_drewN (Below.refl w.heap.size w) m).trans hb)
    have hm2 : rs.length ≤ 1048576 := by omega
    clear ho hx hb hsl hlr
    go_wp2_with fail
    refine (sizes_any _ _ _ _ _ HS.out hm2 (fun i hi => by rw [HAt.out i hi]; exact aop_lt32 ..)).mono ?_
    rintro e w2 ⟨v2, rs2, rfl, ho, hx, hb⟩
    obtain ⟨A2, cp2, rfl, hsl, _⟩ := ho.sl
    have hlr2 : rs2.length = len := by have := congrArg List.length hx; rw [cnl_len] at this; unfold absT at this; rw [tells_len, HLr.out] at this; exact this
    have HS2 := Lib.hid hsl
    have HX := Lib.hid (show mean32 rs2 = mean32 (msL tAbs zs ys) by
      rw [mean32_of hx]; unfold msL absT; rw [HL.out, HLr.out]
      refine congrArg mean32 (tells_congr fun k hk => ?_)
      rw [HAt.out k (by rw [HLr.out]; exact hk)]; rfl)
    have HB2 := Lib.hid (HB1.out.trans (hb.mono HB1.out.size))
    have hm3 : rs2.length ≤ 1048576 := by omega
    clear ho hx hb hsl hlr2
    go_wp2_with fail
    refine (l02Mean_any _ _ _ _ _ HS2.out hm3).mono ?_
    rintro e w' ⟨r, n, hr, rfl, rfl⟩
    have HR := Lib.hid (hr.trans HX.out)
    clear hr
    go_wp2_with fail
    refine (specNumber_any _ _).mono ?_
    rintro e w' ⟨r', n', hr', rfl, rfl⟩
    have W := Lib.hid (ms_end (T := tAbs) hr' HP.out HR.out)
    clear hr'
    go_wp2
    go_ret2
    exact ⟨r', W.out.1, by rw [← W.out.2]; rfl, below_drewN HB2.out _⟩
end Go.Proofs.Ythlpmbddpenpmaa
