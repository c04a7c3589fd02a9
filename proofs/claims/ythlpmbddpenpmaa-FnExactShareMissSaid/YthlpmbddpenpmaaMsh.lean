/-
  ShareMiss, in both packages.
-/
import Derived.Test.YthlpmbddpenpmaaMsr
import Derived.Test.YthlpmbddpenpmaaOpr
namespace Go.Proofs.Ythlpmbddpenpmaa
open Ieee Go.RowKit
set_option linter.unusedVariables false

def shW (x y : Nat) : Nat := aop .add .f32 (absF x) (absF y)
def shZ (x y : Nat) : Bool := (FloatKind.format .f32).order (shW x y) 0 == some .eq
def shQ (x y : Nat) : Nat := aop .quo .f32 (aop .mul .f32 1073741824 (absF (aop .sub .f32 x y))) (shW x y)
def tShr (x y : Nat) : Nat := if shZ x y then 0 else shQ x y
theorem cn_tShr (x y : Nat) : cn .f32 (tShr x y) = tShr x y := by
  unfold tShr
  split
  · exact cn_zero
  · exact cn_aop ..
theorem two_cnS : cn .f32 1073741824 = 1073741824 := by decide +kernel
theorem fun_ShareMiss (x y : Nat) (w : World) : Calls Try.prog 56 #[.float .f32 x, .float .f32 y] w (RetF .f32 (tShr (cn .f32 x) (cn .f32 y)) w) := by
  go_enter Try.func56, Try.ntmps56
  go_wp2_with fail
  refine (imAbs_any _ _).mono ?_
  rintro e w' ⟨r1, n1, h1, rfl, rfl⟩
  have H1 := Lib.hid h1
  clear h1
  go_wp2_with fail
  refine (imAbs_any _ _).mono ?_
  rintro e w' ⟨r2, n2, h2, rfl, rfl⟩
  have H2 := Lib.hid h2
  clear h2
  have HW := Lib.hid (show ∀ w, cn .f32 (fopR .add .f32 r1 r2 w) = shW (cn .f32 x) (cn .f32 y) from fun w => by rw [cn_fopR, H1.out, H2.out]; rfl)
  have HO := Lib.hid (show ∀ w, (FloatKind.format .f32).order (fopR .add .f32 r1 r2 w) 0 = (FloatKind.format .f32).order (shW (cn .f32 x) (cn .f32 y)) 0 from fun w => order_left .f32 (by rw [HW.out]; exact (cn_aop ..).symm) 0)
  cases hz : shZ (cn .f32 x) (cn .f32 y)
  · have ho := fun w => (congrArg (· == some Ordering.eq) (HO.out w)).trans hz
    have HT := Lib.hid (show tShr (cn .f32 x) (cn .f32 y) = shQ (cn .f32 x) (cn .f32 y) by unfold tShr; rw [hz]; rfl)
    clear hz
    go_wp2_with fail
    refine (imWay_any _ _ _).mono ?_
    rintro e w' ⟨r3, n3, h3, rfl, rfl⟩
    have H3 := Lib.hid h3
    clear h3
    go_wp2
    go_ret
    exact ⟨_, _, by rw [cn_fopR, cn_fopR, H3.out, HW.out, HT.out, two_cnS]; rfl, rfl, rfl⟩
  · have ho := fun w => (congrArg (· == some Ordering.eq) (HO.out w)).trans hz
    have HT := Lib.hid (show tShr (cn .f32 x) (cn .f32 y) = 0 by unfold tShr; rw [hz]; rfl)
    clear hz
    go_wp2
    go_ret
    exact ⟨0, _, by rw [HT.out]; exact cn_zero, rfl, rfl⟩
theorem imShareMiss_any (a a' : Option Addr) (len cap : Nat) (zs : List Nat) (len' cap' : Nat) (ys : List Nat) (w : World) (h : FSl w a len zs) (h' : FSl w a' len' ys) (hm : len ≤ 1048576) (hm' : len' ≤ 1048576) (hb : ∀ x ∈ zs, x < 4294967296) (hb' : ∀ x ∈ ys, x < 4294967296) :
    Calls Try.prog 25 #[.slice a len cap, .slice a' len' cap'] w (RetFBk (msV tShr zs ys) (msB tShr zs ys) w.heap.size w) := by
  have hmf : ∀ (fn : Fn) (first cap : Array Value) (w : World), (Instr.makeFunc fn first cap).run Try.prog w = .ok (.func fn first cap) w := fun _ _ _ _ => rfl
  have H := Lib.hid h
  have H' := Lib.hid h'
  clear h h' hb hb'
  go_enter Try.func25, Try.ntmps25
  go_wp2_with fail
  refine (missTold_any 56 #[] (fun _ => True) tShr _ _ _ _ _ _ _ _ _ (enter_of Try.func56 (by kernel_rfl) rfl) (fun x y => cn_tShr x y) (fun _ _ _ _ => trivial) trivial (fun x y wr _ => fun_ShareMiss x y wr) H.out H'.out hm hm').mono ?_
  rintro e w1 ⟨r, hr, rfl, hb⟩
  have HR := Lib.hid hr
  have HB := Lib.hid hb
  clear hr hb
  go_wp2
  go_ret2
  exact ⟨r, HR.out, rfl, HB.out⟩
theorem isN_two {x : Nat} (h : isN .f32 x = false) : isN .f32 (aop .mul .f32 1073741824 x) = false := by
  have h2 : (FloatKind.format .f32).read 1073741824 = .number false 8388608 (-22) := by decide +kernel
  unfold aop
  have hf : ∃ r, floatBits .mul .f32 1073741824 x = some r := by
    show ∃ r, Option.map (FloatKind.format .f32).write (((FloatKind.format .f32).read 1073741824).product ((FloatKind.format .f32).read x)) = some r
    rw [h2]
    cases hx : (FloatKind.format .f32).read x with
    | number s m p => exact ⟨_, rfl⟩
    | infinity s => exact ⟨_, rfl⟩
    | nan s t => unfold isN at h; rw [hx] at h; cases h
  obtain ⟨r, hf⟩ := hf
  rw [hf]; exact (floatBits_nan hf).2.2
theorem sh_snoc {zs ys rs : List Nat} {k r z y : Nat} (h : cnl rs = tells (tell2 tShr zs ys) k) (hz : zs.getD k 0 = z) (hy : ys.getD k 0 = y) (hr : cn .f32 r = tShr (cn .f32 z) (cn .f32 y)) : cnl (rs ++ [r]) = tells (tell2 tShr zs ys) (k + 1) := by
  rw [tells_succ]
  refine cnl_snoc h ?_
  rw [hr, ← hz, ← hy]; rfl
set_option maxHeartbeats 4000000 in
theorem spShareMiss_any (a a' : Option Addr) (len cap : Nat) (zs : List Nat) (len' cap' : Nat) (ys : List Nat) (w : World) (h : FSl w a len zs) (h' : FSl w a' len' ys) (hm : len ≤ 1048576) (hm' : len' ≤ 1048576) (hb : ∀ x ∈ zs, x < 4294967296) (hb' : ∀ x ∈ ys, x < 4294967296) :
    Calls Try.prog 24 #[.slice a len cap, .slice a' len' cap'] w (RetFBk (msV tShr zs ys) (msB tShr zs ys) w.heap.size w) := by
  obtain ⟨i0, hi, hz0, hz1, hz2⟩ := info_parts Try.infoR
  have H := Lib.hid h
  have H' := Lib.hid h'
  have HL := Lib.hid h.1
  have HL' := Lib.hid h'.1
  clear h h'
  cases hp : pairB zs ys
  · have HP := Lib.hid hp
    have HB := Lib.hid (ms_bad (T := tShr) hp)
    clear hp hb hb' hi hz0 hz1 hz2
    go_enter Try.func24, Try.ntmps24
    go_wp2_with (go_at_call 44; refine (spTwo_any _ _ _ _ _ _ _ _ _ H.out H'.out hm hm').mono ?_; rw [HP.out]; rintro e w' ⟨m, rfl, rfl⟩)
    go_ret2
    exact ⟨0, by rw [HB.out.2]; exact cn_zero, by rw [HB.out.1]; rfl, below_drewN (Below.refl _ _) _⟩
  · have HP := Lib.hid hp
    obtain ⟨hs, hs', hll⟩ := pairB_t hp
    have HF := Lib.hid (serB_t hs).2.2
    have HF' := Lib.hid (serB_t hs').2.2
    rw [HL.out, HL'.out] at hll
    subst hll
    have HB := Lib.hid (show ∀ k, k < len → zs.getD k 0 < 4294967296 from fun k hk => hb _ (by simp [List.getD, HL.out, hk]))
    have HB' := Lib.hid (show ∀ k, k < len → ys.getD k 0 < 4294967296 from fun k hk => hb' _ (by simp [List.getD, HL'.out, hk]))
    clear hp hs hs' hb hb'
    go_enter Try.func24, Try.ntmps24
    go_wp2_with fail
    refine (spTwo_any _ _ _ _ _ _ _ _ _ H.out H'.out hm hm').mono ?_
    rw [HP.out]
    rintro e w' ⟨m, rfl, rfl⟩
    have HN := Lib.hid (FOwn.made (T := 23) (B := w.heap.size) (w.drewN m) (Nat.le_refl _))
    go_wp2
    go_loopw [6, 7] (fun v i wr => ∃ (k : Nat) (rs : List Nat), k ≤ len ∧ i = .int .i64 k ∧ Hid (rs.length = k) ∧ Hid (FOwn 23 w.heap.size wr v rs) ∧ Hid (cnl rs = tells (tell2 tShr zs ys) k) ∧ Hid (Below w.heap.size w wr)) (fun _ i _ => len - (intOf i).toNat)
    case atStart => exact ⟨0, [], Nat.zero_le _, rfl, Lib.hid rfl, HN, Lib.hid rfl, Lib.hid ((below_drewN (Below.refl _ _) m).alloc (by show w.heap.size ≤ w.heap.size; exact Nat.le_refl _) _)⟩
    case round =>
      rename_i wr
      obtain ⟨k, rs, hk, rfl, hrl, hown, hrs, hbel⟩ := hrel
      by_cases hlt : k < len
      · obtain ⟨b, off, rfl, hbb, hc⟩ := H.out.at (by omega)
        obtain ⟨b', off', rfl, hbb', hc'⟩ := H'.out.at (by omega)
        have hck := hc k hlt
        have hck' := hc' k hlt
        rw [← hbel.out.cell (p := ⟨b, off + k, none⟩) hbb] at hck
        rw [← hbel.out.cell (p := ⟨b', off' + k, none⟩) hbb'] at hck'
        have hsz := hbel.out.size
        have hrk : rs.length ≤ 1048576 := by have := hrl.out; omega
        have hfz := fins_at HF.out (k := k) (by rw [HL.out]; exact hlt)
        have hfy := fins_at HF'.out (k := k) (by rw [HL'.out]; exact hlt)
        have hbz := HB.out k hlt
        have hby := HB'.out k hlt
        obtain ⟨z, hz⟩ : ∃ z, zs.getD k 0 = z := ⟨_, rfl⟩
        obtain ⟨y, hy⟩ : ∃ y, ys.getD k 0 = y := ⟨_, rfl⟩
        rw [hz] at hck hfz hbz
        rw [hy] at hck' hfy hby
        have HSn := Lib.hid (fun r (hr : cn .f32 r = tShr (cn .f32 z) (cn .f32 y)) => sh_snoc hrs.out hz hy hr)
        have HCz := Lib.hid (fun w => sizeNum_any z w hbz (fin_isN hfz))
        have HCy := Lib.hid (fun w => sizeNum_any y w hby (fin_isN hfy))
        have hadd : ∀ w t, (binOp .add t (.float .f32 (absF z)) (.float .f32 (absF y))).run Try.prog w = .ok (.float .f32 (shW z y)) w := fun w t => op_run t (isN_add (fin_absF hfz) (fin_absF hfy)) w
        have hsub : ∀ w t, (binOp .sub t (.float .f32 z) (.float .f32 y)).run Try.prog w = .ok (.float .f32 (aop .sub .f32 z y)) w := fun w t => op_run t (isN_sub hfz hfy) w
        have HCd := Lib.hid (fun w => sizeNum_any (aop .sub .f32 z y) w (aop_lt32 ..) (isN_sub hfz hfy))
        have HNd := Lib.hid (isN_sub hfz hfy)
        have hez := fin_cn hfz
        have hey := fin_cn hfy
        rw [hez, hey] at HSn
        have HRl := Lib.hid hrl.out
        clear hc hc' hbb hbb' hz hy hrs hfz hfy hbz hby H H' HB HB' HF HF' hrl hez hey
        go_wp2
        go_region_held3 (fun w' => w'.cell? ⟨b, off + k, none⟩ = some (.float .f32 z) ∧ w'.cell? ⟨b', off' + k, none⟩ = some (.float .f32 y)) (go_keep) (first | (go_at_call 55; with_reducible refine (HCz.out _).mono ?_; rintro e w' ⟨rfl, rfl⟩) | (go_at_call 55; with_reducible refine (HCy.out _).mono ?_; rintro e w' ⟨rfl, rfl⟩))
        cases hzz : shZ z y
        · have ho : ((FloatKind.format .f32).order (shW z y) 0 != some Ordering.eq) = true := by unfold bne; rw [show ((FloatKind.format .f32).order (shW z y) 0 == some Ordering.eq) = false from hzz]; rfl
          have HT := Lib.hid (show tShr z y = shQ z y by unfold tShr; rw [hzz]; rfl)
          have hmul : ∀ w t, (binOp .mul t (.float .f32 1073741824) (.float .f32 (absF (aop .sub .f32 z y)))).run Try.prog w = .ok (.float .f32 (aop .mul .f32 1073741824 (absF (aop .sub .f32 z y)))) w := fun w t => op_run t (isN_two (by rw [isN_absF]; exact HNd.out)) w
          have HQ := Lib.hid (show ∀ w, cn .f32 (fopR .quo .f32 (aop .mul .f32 1073741824 (absF (aop .sub .f32 z y))) (shW z y) w) = tShr z y from fun w => by rw [cn_fopR, cn_aop, show cn .f32 (shW z y) = shW z y from cn_aop .., HT.out]; rfl)
          clear hzz hadd HT
          go_wp2
          go_region_with (go_at_call 55; refine (HCd.out _).mono ?_; rintro e w' ⟨rfl, rfl⟩)
          all_goals
            have HCS := Lib.hid (fun w => HSn.out _ (HQ.out w))
            clear hsub hmul HCd HSn HQ
            go_wp2_with (at_builtin; refine wpList_append_own _ rfl _ _ 22 rfl w.heap.size 23 i0 (.float .f32 0) 1 4 Try.underlying22 hi hz0 hz1 hz2 rfl (by decide) _ _ _ rfl (World.ownsRow.alloc (FOwn.drewN hown.out _) _) ⟨wr.heap.size, 0, none⟩ 1 1 [_] rfl rfl (one_new rfl) ?c2 ?c3 ?c4 ?c5 ?_)
            case c2 => intro u hu; simp at hu; subst hu; rfl
            case c3 => unfold maxLen; omega
            case c4 => omega
            case c5 => simp; show w.heap.size ≤ wr.heap.size + 1; omega
            intro v' w1 hown' hgrow _
            have R := FOwn.push hown.out hbel.out hsz hown' hgrow
            have hR := Lib.hid R
            clear R hown' hgrow hown hbel hck hck'
            go_wp2
            go_roundw
            case rel =>
              refine ⟨k + 1, _, by omega, by go_num, ?_, Lib.hid hR.out.1, Lib.hid (HCS.out _), Lib.hid hR.out.2⟩
              exact Lib.hid (by rw [List.length_append, HRl.out]; rfl)
            case measure => simp [intOf]; omega
        · have ho : ((FloatKind.format .f32).order (shW z y) 0 != some Ordering.eq) = false := by unfold bne; rw [show ((FloatKind.format .f32).order (shW z y) 0 == some Ordering.eq) = true from hzz]; rfl
          have HCS := Lib.hid (HSn.out 0 (by unfold tShr; rw [hzz]; exact cn_zero))
          clear hzz hadd hsub HCd HSn
          go_wp2_with (at_builtin; refine wpList_append_own _ rfl _ _ 22 rfl w.heap.size 23 i0 (.float .f32 0) 1 4 Try.underlying22 hi hz0 hz1 hz2 rfl (by decide) _ _ _ rfl (World.ownsRow.alloc (FOwn.drewN hown.out _) _) ⟨wr.heap.size, 0, none⟩ 1 1 [_] rfl rfl (one_new rfl) ?c2 ?c3 ?c4 ?c5 ?_)
          case c2 => intro u hu; simp at hu; subst hu; rfl
          case c3 => unfold maxLen; omega
          case c4 => omega
          case c5 => simp; show w.heap.size ≤ wr.heap.size + 1; omega
          intro v' w1 hown' hgrow _
          have R := FOwn.push hown.out hbel.out hsz hown' hgrow
          have hR := Lib.hid R
          clear R hown' hgrow hown hbel hck hck'
          go_wp2
          go_roundw
          case rel =>
            refine ⟨k + 1, _, by omega, by go_num, ?_, Lib.hid hR.out.1, HCS, Lib.hid hR.out.2⟩
            exact Lib.hid (by rw [List.length_append, HRl.out]; rfl)
          case measure => simp [intOf]; omega
      · have hfin := Lib.hid (show cnl rs = msL tShr zs ys by unfold msL; rw [hrs.out, HL.out, show k = len by omega])
        clear hrs H H'
        obtain ⟨A, cp, rfl, hsl, _⟩ := hown.out.sl
        have HS := Lib.hid hsl
        have hm2 : rs.length ≤ 1048576 := by have := hrl.out; omega
        clear hsl
        go_wp2_with fail
        refine (l02Mean_any _ _ _ _ _ HS.out hm2).mono ?_
        rintro e w' ⟨r, n, hr, rfl, rfl⟩
        have HR := Lib.hid (hr.trans (mean32_of hfin.out))
        clear hr
        go_wp2_with fail
        refine (specNumber_any _ _).mono ?_
        rintro e w' ⟨r', n', hr', rfl, rfl⟩
        have W := Lib.hid (ms_end (T := tShr) hr' HP.out HR.out)
        clear hr'
        go_wp2
        go_ret2
        exact ⟨r', W.out.1, by rw [← W.out.2]; rfl, below_drewN hbel.out _⟩
end Go.Proofs.Ythlpmbddpenpmaa
