/-
  CoverOf, in both packages.
-/
import Derived.Test.YthlpmbddpenpmaaPr2
import Derived.Deep.RegionHeld3
namespace Go.Proofs.Ythlpmbddpenpmaa
open Ieee Go.RowKit
set_option linter.unusedVariables false

theorem RSl.three {w : World} {a a' a'' : Option Addr} {len cap len' cap' len'' cap'' : Nat} {zs zs' zs'' : List Nat} (t : TypeId) (h : FSl w a len zs) (h' : FSl w a' len' zs') (h'' : FSl w a'' len'' zs'') (hm : len ≤ 1048576) (hm' : len' ≤ 1048576) (hm'' : len'' ≤ 1048576) :
    RSl (w.alloc (.cells #[.slice a len cap, .slice a' len' cap', .slice a'' len'' cap''] t)) (some ⟨w.heap.size, 0, Option.none⟩) 3 [⟨a, len, cap, zs⟩, ⟨a', len', cap', zs'⟩, ⟨a'', len'', cap'', zs''⟩] := by
  have hb : Below w.heap.size w (w.alloc (.cells #[.slice a len cap, .slice a' len' cap', .slice a'' len'' cap''] t)) := (Below.refl _ _).alloc (Nat.le_refl _) _
  refine ⟨⟨rfl, .inr ⟨w.heap.size, 0, rfl, by simp, fun i hi => ?_⟩⟩, fun i hi => ?_⟩
  · rw [World.cell?_alloc_at _ _ _ _ rfl]
    match i, hi with
    | 0, _ => rfl
    | 1, _ => rfl
    | 2, _ => rfl
  · match i, hi with
    | 0, _ => exact ⟨FSl.below h hb, hm⟩
    | 1, _ => exact ⟨FSl.below h' hb, hm'⟩
    | 2, _ => exact ⟨FSl.below h'' hb, hm''⟩
def triB (xs ys zs : List Nat) : Bool := pairB xs ys && pairB xs zs
theorem are_three (a a' a'' : Option Addr) (len len' len'' cap cap' cap'' : Nat) (xs ys zs : List Nat) : areB [⟨a, len, cap, xs⟩, ⟨a', len', cap', ys⟩, ⟨a'', len'', cap'', zs⟩] = triB xs ys zs := by
  show (areOne xs.length _ && (areOne xs.length _ && (areOne xs.length _ && true))) = _
  unfold areOne triB pairB
  have e1 : decide (ys.length = xs.length) = decide (xs.length = ys.length) := decide_eq_decide.2 ⟨Eq.symm, Eq.symm⟩
  have e2 : decide (zs.length = xs.length) = decide (xs.length = zs.length) := decide_eq_decide.2 ⟨Eq.symm, Eq.symm⟩
  simp only [e1, e2, decide_true, Bool.and_true]
  cases serB xs <;> simp [Bool.and_assoc]
def gqB (x y : Nat) : Bool := (FloatKind.format .f32).order x y == some .gt || (FloatKind.format .f32).order x y == some .eq
def lqB (x y : Nat) : Bool := (FloatKind.format .f32).order x y == some .lt || (FloatKind.format .f32).order x y == some .eq
def cvI (lo hi zs : List Nat) (i : Nat) : Bool := gqB (zs.getD i 0) (lo.getD i 0) && lqB (zs.getD i 0) (hi.getD i 0)
def cvN (lo hi zs : List Nat) : Nat → Nat
  | 0 => 0
  | k + 1 => cvN lo hi zs k + (cvI lo hi zs k).toNat
theorem cvN_le (lo hi zs : List Nat) : ∀ k, cvN lo hi zs k ≤ k
  | 0 => Nat.le_refl _
  | k + 1 => by unfold cvN; have := cvN_le lo hi zs k; cases cvI lo hi zs k <;> simp <;> omega
def cvV (lo hi zs : List Nat) : Nat := if triB lo hi zs then aop .quo .f32 (cn .f32 (i2f (cvN lo hi zs zs.length))) (cn .f32 (i2f zs.length)) else 0
theorem up_one : ∀ k, k < 97 → floatBits .add .f32 (floatOfInt .f32 ((k : Nat) : Int)) 1065353216 = some (floatOfInt .f32 ((k + 1 : Nat) : Int)) := by decide +kernel
theorem triB_t {xs ys zs : List Nat} (h : triB xs ys zs = true) : pairB xs ys = true ∧ pairB xs zs = true := by
  unfold triB at h; exact ⟨(Bool.and_eq_true _ _ ▸ h).1, (Bool.and_eq_true _ _ ▸ h).2⟩
set_option maxHeartbeats 2000000 in
theorem imCover_any (a a' a'' : Option Addr) (len cap len' cap' len'' cap'' : Nat) (lo hi zs : List Nat) (w : World) (h : FSl w a len lo) (h' : FSl w a' len' hi) (h'' : FSl w a'' len'' zs) (hm : len ≤ 1048576) (hm' : len' ≤ 1048576) (hm'' : len'' ≤ 1048576) :
    Calls Try.prog 31 #[.slice a len cap, .slice a' len' cap', .slice a'' len'' cap''] w (RetFBk (cvV lo hi zs) (triB lo hi zs) w.heap.size w) := by
  have HR := Lib.hid (RSl.three (cap := cap) (cap' := cap') (cap'' := cap'') 22 h h' h'' hm hm' hm'')
  have G := Lib.hid ((Below.refl w.heap.size w).alloc (Nat.le_refl _) (.cells #[.slice a len cap, .slice a' len' cap', .slice a'' len'' cap''] 22))
  have H := Lib.hid (FSl.below h G.out)
  have H' := Lib.hid (FSl.below h' G.out)
  have H'' := Lib.hid (FSl.below h'' G.out)
  clear h h' h''
  cases ht : triB lo hi zs
  · have HT := Lib.hid ht
    have HV := Lib.hid (show cvV lo hi zs = 0 by unfold cvV; rw [ht]; rfl)
    clear ht
    go_enter Try.func31, Try.ntmps31
    go_wp2_with fail
    refine (implAre_any _ 3 3 _ _ HR.out (by omega)).mono ?_
    rw [are_three, HT.out]
    rintro e w' ⟨m, rfl, rfl⟩
    go_wp2_with fail
    go_ret2
    exact ⟨0, by rw [HV.out]; exact cn_zero, rfl, below_drewN G.out _⟩
  · have HT := Lib.hid ht
    obtain ⟨p1, p2⟩ := triB_t ht
    obtain ⟨s1, s2, e1⟩ := pairB_t p1
    obtain ⟨_, s3, e2⟩ := pairB_t p2
    have hl96 := (serB_t s3).2.1
    rw [H.out.1, H'.out.1] at e1
    rw [H.out.1, H''.out.1] at e2
    rw [H''.out.1] at hl96
    subst e1 e2
    have HV := Lib.hid (show cvV lo hi zs = aop .quo .f32 (cn .f32 (i2f (cvN lo hi zs len))) (cn .f32 (i2f len)) by unfold cvV; rw [ht, if_pos rfl, H''.out.1])
    clear ht p1 p2 s1 s2 s3
    go_enter Try.func31, Try.ntmps31
    go_wp2_with fail
    refine (implAre_any _ 3 3 _ _ HR.out (by omega)).mono ?_
    rw [are_three, HT.out]
    rintro e w' ⟨m, rfl, rfl⟩
    go_wp2
    go_loopw [8, 9, 10, 19] (fun c x y i wr => ∃ k n : Nat, k ≤ len ∧ i = .int .i64 k ∧ c = .int .i64 (cvN lo hi zs k) ∧ wr = (w.alloc (.cells #[.slice a len cap, .slice a' len cap', .slice a'' len cap''] 22)).drewN n) (fun _ _ _ i _ => len - (intOf i).toNat)
    case atStart => exact ⟨0, _, Nat.zero_le _, rfl, rfl, rfl⟩
    case round =>
      obtain ⟨k, n, hk, rfl, rfl, rfl⟩ := hrel
      have hck0 := cvN_le lo hi zs k
      by_cases hlt : k < len
      · obtain ⟨b, off, rfl, hbb, hc⟩ := H.out.at (by omega)
        obtain ⟨b', off', rfl, hbb', hc'⟩ := H'.out.at (by omega)
        obtain ⟨b'', off'', rfl, hbb'', hc''⟩ := H''.out.at (by omega)
        have hck := hc k hlt
        have hck' := hc' k hlt
        have hck'' := hc'' k hlt
        have HSt := Lib.hid (show cvN lo hi zs (k + 1) = cvN lo hi zs k + (gqB (zs.getD k 0) (lo.getD k 0) && lqB (zs.getD k 0) (hi.getD k 0)).toNat from rfl)
        generalize lo.getD k 0 = x at *
        generalize hi.getD k 0 = y at *
        generalize zs.getD k 0 = z at *
        clear hc hc' hc'' hbb hbb' hbb'' H H' H'' HR
        cases hg : gqB z x
        · have ho : ((FloatKind.format .f32).order z x == some Ordering.gt || (FloatKind.format .f32).order z x == some Ordering.eq) = false := hg
          have HN := Lib.hid (show cvN lo hi zs (k + 1) = cvN lo hi zs k by rw [HSt.out, hg]; rfl)
          clear hg HSt
          go_wp2
          go_roundw
          case rel => exact ⟨k + 1, _, by omega, by go_num, by rw [HN.out], rfl⟩
          case measure => simp [intOf]; omega
        · cases hl : lqB z y
          · have ho : ((FloatKind.format .f32).order z x == some Ordering.gt || (FloatKind.format .f32).order z x == some Ordering.eq) = true := hg
            have ho2 : ((FloatKind.format .f32).order z y == some Ordering.lt || (FloatKind.format .f32).order z y == some Ordering.eq) = false := hl
            have HN := Lib.hid (show cvN lo hi zs (k + 1) = cvN lo hi zs k by rw [HSt.out, hg, hl]; rfl)
            clear hg hl HSt
            go_wp2
            go_roundw
            case rel => exact ⟨k + 1, _, by omega, by go_num, by rw [HN.out], rfl⟩
            case measure => simp [intOf]; omega
          · have ho : ((FloatKind.format .f32).order z x == some Ordering.gt || (FloatKind.format .f32).order z x == some Ordering.eq) = true := hg
            have ho2 : ((FloatKind.format .f32).order z y == some Ordering.lt || (FloatKind.format .f32).order z y == some Ordering.eq) = true := hl
            have HN := Lib.hid (show cvN lo hi zs (k + 1) = cvN lo hi zs k + 1 by rw [HSt.out, hg, hl]; rfl)
            clear hg hl HSt
            generalize cvN lo hi zs k = q at *
            go_wp2
            go_roundw
            case rel => exact ⟨k + 1, _, by omega, by go_num, by rw [HN.out]; go_num, rfl⟩
            case measure => simp [intOf]; omega
      · obtain rfl : k = len := by omega
        clear H H' H'' HR
        generalize cvN lo hi zs k = q at *
        go_wp2
        go_ret2
        exact ⟨_, by rw [cn_fopR, HV.out]; rfl, rfl, below_drewN G.out _⟩
set_option maxHeartbeats 4000000 in
theorem spCover_any (a a' a'' : Option Addr) (len cap len' cap' len'' cap'' : Nat) (lo hi zs : List Nat) (w : World) (h : FSl w a len lo) (h' : FSl w a' len' hi) (h'' : FSl w a'' len'' zs) (hm : len ≤ 1048576) (hm' : len' ≤ 1048576) (hm'' : len'' ≤ 1048576) :
    Calls Try.prog 30 #[.slice a len cap, .slice a' len' cap', .slice a'' len'' cap''] w (RetFBk (cvV lo hi zs) (triB lo hi zs) w.heap.size w) := by
  have H := Lib.hid h
  have H' := Lib.hid h'
  have H'' := Lib.hid h''
  clear h h' h''
  cases p1 : pairB lo hi
  · have HP := Lib.hid p1
    have HT := Lib.hid (show triB lo hi zs = false by unfold triB; rw [p1]; rfl)
    have HV := Lib.hid (show cvV lo hi zs = 0 by unfold cvV; rw [HT.out]; rfl)
    clear p1
    go_enter Try.func30, Try.ntmps30
    go_wp2_with fail
    refine (spTwo_any _ _ _ _ _ _ _ _ _ H.out H'.out hm hm').mono ?_
    rw [HP.out]
    rintro e w' ⟨m, rfl, rfl⟩
    go_wp2_with fail
    go_ret2
    exact ⟨0, by rw [HV.out]; exact cn_zero, by rw [HT.out]; rfl, below_drewN (Below.refl _ _) _⟩
  · cases p2 : pairB lo zs
    · have HP := Lib.hid p1
      have HP2 := Lib.hid p2
      have HT := Lib.hid (show triB lo hi zs = false by unfold triB; rw [p1, p2]; rfl)
      have HV := Lib.hid (show cvV lo hi zs = 0 by unfold cvV; rw [HT.out]; rfl)
      clear p1 p2
      go_enter Try.func30, Try.ntmps30
      go_wp2_with fail
      refine (spTwo_any _ _ _ _ _ _ _ _ _ H.out H'.out hm hm').mono ?_
      rw [HP.out]
      rintro e w' ⟨m, rfl, rfl⟩
      go_wp2_with fail
      refine (spTwo_any _ _ _ _ _ _ _ _ _ (FSl.drewN H.out m) (FSl.drewN H''.out m) hm hm'').mono ?_
      rw [HP2.out]
      rintro e w' ⟨m2, rfl, rfl⟩
      go_wp2_with fail
      go_ret2
      exact ⟨0, by rw [HV.out]; exact cn_zero, by rw [HT.out]; rfl, below_drewN (Below.refl _ _) _⟩
    · have HP := Lib.hid p1
      have HP2 := Lib.hid p2
      have ht : triB lo hi zs = true := by unfold triB; rw [p1, p2]; rfl
      have HT := Lib.hid ht
      obtain ⟨s1, s2, e1⟩ := pairB_t p1
      obtain ⟨_, s3, e2⟩ := pairB_t p2
      have hl96 := (serB_t s3).2.1
      rw [H.out.1, H'.out.1] at e1
      rw [H.out.1, H''.out.1] at e2
      rw [H''.out.1] at hl96
      subst e1 e2
      have HV := Lib.hid (show cvV lo hi zs = aop .quo .f32 (cn .f32 (i2f (cvN lo hi zs len))) (cn .f32 (i2f len)) by unfold cvV; rw [ht, if_pos rfl, H''.out.1])
      clear ht p1 p2 s1 s2 s3
      go_enter Try.func30, Try.ntmps30
      go_wp2_with fail
      refine (spTwo_any _ _ _ _ _ _ _ _ _ H.out H'.out hm hm').mono ?_
      rw [HP.out]
      rintro e w' ⟨m, rfl, rfl⟩
      go_wp2_with fail
      refine (spTwo_any _ _ _ _ _ _ _ _ _ (FSl.drewN H.out m) (FSl.drewN H''.out m) hm hm'').mono ?_
      rw [HP2.out]
      rintro e w' ⟨m2, rfl, rfl⟩
      go_wp2
      go_loopw [8, 9] (fun c i wr => ∃ k n : Nat, k ≤ len ∧ i = .int .i64 k ∧ c = .float .f32 (floatOfInt .f32 ((cvN lo hi zs k : Nat) : Int)) ∧ wr = w.drewN n) (fun _ i _ => len - (intOf i).toNat)
      case atStart => exact ⟨0, _, Nat.zero_le _, rfl, by show Value.float .f32 0 = .float .f32 _; congr 1, rfl⟩
      case round =>
        obtain ⟨k, n, hk, rfl, rfl, rfl⟩ := hrel
        have hck0 := cvN_le lo hi zs k
        by_cases hlt : k < len
        · obtain ⟨b, off, rfl, hbb, hc⟩ := H.out.at (by omega)
          obtain ⟨b', off', rfl, hbb', hc'⟩ := H'.out.at (by omega)
          obtain ⟨b'', off'', rfl, hbb'', hc''⟩ := H''.out.at (by omega)
          have hck := hc k hlt
          have hck' := hc' k hlt
          have hck'' := hc'' k hlt
          have HSt := Lib.hid (show cvN lo hi zs (k + 1) = cvN lo hi zs k + (gqB (zs.getD k 0) (lo.getD k 0) && lqB (zs.getD k 0) (hi.getD k 0)).toNat from rfl)
          generalize lo.getD k 0 = x at *
          generalize hi.getD k 0 = y at *
          generalize zs.getD k 0 = z at *
          clear hc hc' hc'' hbb hbb' hbb'' H H' H''
          cases hg : gqB z x
          · have ho : ((FloatKind.format .f32).order z x == some Ordering.gt || (FloatKind.format .f32).order z x == some Ordering.eq) = false := hg
            have HN := Lib.hid (show cvN lo hi zs (k + 1) = cvN lo hi zs k by rw [HSt.out, hg]; rfl)
            clear hg HSt
            go_wp2
            go_region
            all_goals
              go_wp2
              go_roundw
              case rel => exact ⟨k + 1, _, by omega, by go_num, by rw [HN.out], rfl⟩
              case measure => simp [intOf]; omega
          · cases hl : lqB z y
            · have ho : ((FloatKind.format .f32).order z x == some Ordering.gt || (FloatKind.format .f32).order z x == some Ordering.eq) = true := hg
              have ho2 : ((FloatKind.format .f32).order z y == some Ordering.lt || (FloatKind.format .f32).order z y == some Ordering.eq) = false := hl
              have HN := Lib.hid (show cvN lo hi zs (k + 1) = cvN lo hi zs k by rw [HSt.out, hg, hl]; rfl)
              clear hg hl HSt
              go_wp2
              go_region
              all_goals
                go_wp2
                go_roundw
                case rel => exact ⟨k + 1, _, by omega, by go_num, by rw [HN.out], rfl⟩
                case measure => simp [intOf]; omega
            · have ho : ((FloatKind.format .f32).order z x == some Ordering.gt || (FloatKind.format .f32).order z x == some Ordering.eq) = true := hg
              have ho2 : ((FloatKind.format .f32).order z y == some Ordering.lt || (FloatKind.format .f32).order z y == some Ordering.eq) = true := hl
              have HN := Lib.hid (show cvN lo hi zs (k + 1) = cvN lo hi zs k + 1 by rw [HSt.out, hg, hl]; rfl)
              clear hg hl HSt
              generalize cvN lo hi zs k = q at *
              have hup : ∀ w t, (binOp .add t (.float .f32 (floatOfInt .f32 ((q : Nat) : Int))) (.float .f32 1065353216)).run Try.prog w = .ok (.float .f32 (floatOfInt .f32 ((q + 1 : Nat) : Int))) w := fun w t => run_float_arith w .add t .f32 _ _ _ (up_one q (by omega))
              go_wp2
              go_region
              all_goals
                go_wp2
                go_roundw
                case rel => exact ⟨k + 1, _, by omega, by go_num, by rw [HN.out, Int.natCast_add]; rfl, rfl⟩
                case measure => simp [intOf]; omega
        · obtain rfl : k = len := by omega
          clear H H' H''
          generalize cvN lo hi zs k = q at *
          go_wp2
          go_ret2
          rw [HT.out]
          exact ⟨_, by rw [cn_fopR, HV.out]; rfl, rfl, below_drewN (Below.refl _ _) _⟩
end Go.Proofs.Ythlpmbddpenpmaa
