/-
  Series of the same length, in both packages: 'areSeries' over any list of them, 'l03Pair' over two.
-/
import Derived.Test.YtopgegciejmhaaaCMea
namespace Go.Proofs.Ytopgegciejmhaaa
open Ieee Go.RowKit
set_option linter.unusedVariables false

/-- A list in a row of lists. -/
structure FRw where
  a : Option Addr
  len : Nat
  cap : Nat
  zs : List Nat
def FRw.val (r : FRw) : Value := .slice r.a r.len r.cap
def FRw.none : FRw := ⟨Option.none, 0, 0, []⟩
def RSl (w : World) (a : Option Addr) (n : Nat) (L : List FRw) : Prop := VSl FRw.val FRw.none w a n L ∧ ∀ i, i < n → FSl w (L.getD i FRw.none).a (L.getD i FRw.none).len (L.getD i FRw.none).zs ∧ (L.getD i FRw.none).len ≤ 1048576
theorem RSl.drewN {w : World} {a : Option Addr} {n : Nat} {L : List FRw} (h : RSl w a n L) (m : Nat) : RSl (w.drewN m) a n L := h
theorem RSl.below {w w' : World} {a : Option Addr} {n : Nat} {L : List FRw} (h : RSl w a n L) (hb : Below w.heap.size w w') : RSl w' a n L :=
  ⟨VSl.below h.1 hb, fun i hi => ⟨FSl.below (h.2 i hi).1 hb, (h.2 i hi).2⟩⟩
theorem RSl.pair {w : World} {a a' : Option Addr} {len cap len' cap' : Nat} {zs zs' : List Nat} (t : TypeId) (h : FSl w a len zs) (h' : FSl w a' len' zs') (hm : len ≤ 1048576) (hm' : len' ≤ 1048576) :
    RSl (w.alloc (.cells #[.slice a len cap, .slice a' len' cap'] t)) (some ⟨w.heap.size, 0, Option.none⟩) 2 [⟨a, len, cap, zs⟩, ⟨a', len', cap', zs'⟩] := by
  have hb : Below w.heap.size w (w.alloc (.cells #[.slice a len cap, .slice a' len' cap'] t)) := (Below.refl _ _).alloc (Nat.le_refl _) _
  refine ⟨⟨rfl, .inr ⟨w.heap.size, 0, rfl, by simp, fun i hi => ?_⟩⟩, fun i hi => ?_⟩
  · rw [World.cell?_alloc_at _ _ _ _ rfl]
    match i, hi with
    | 0, _ => rfl
    | 1, _ => rfl
  · match i, hi with
    | 0, _ => exact ⟨FSl.below h hb, hm⟩
    | 1, _ => exact ⟨FSl.below h' hb, hm'⟩
def areOne (z0 : Nat) (r : FRw) : Bool := serB r.zs && decide (r.zs.length = z0)
def areB (L : List FRw) : Bool := L.all (areOne (L.getD 0 FRw.none).zs.length)
theorem are_snoc {L : List FRw} {z k : Nat} (h : k < L.length) : (L.take (k + 1)).all (areOne z) = ((L.take k).all (areOne z) && areOne z (L.getD k FRw.none)) := by
  rw [List.take_succ_eq_append_getElem h, List.all_append]; simp [List.getD, h]
theorem are_bad {L : List FRw} {z k : Nat} (h : k < L.length) (hb : areOne z (L.getD k FRw.none) = false) : L.all (areOne z) = false := by
  rw [List.all_eq_false]
  refine ⟨L.getD k FRw.none, ?_, by rw [hb]; simp⟩
  simp [List.getD, h]
def pairB (xs ys : List Nat) : Bool := serB xs && (serB ys && decide (xs.length = ys.length))
theorem pairB_t {xs ys : List Nat} (h : pairB xs ys = true) : serB xs = true ∧ serB ys = true ∧ xs.length = ys.length := by
  unfold pairB at h
  have h1 := (Bool.and_eq_true _ _ ▸ h).1
  have h2 := (Bool.and_eq_true _ _ ▸ h).2
  exact ⟨h1, (Bool.and_eq_true _ _ ▸ h2).1, of_decide_eq_true (Bool.and_eq_true _ _ ▸ h2).2⟩
theorem are_pair (a a' : Option Addr) (len len' cap cap' : Nat) (xs ys : List Nat) : areB [⟨a, len, cap, xs⟩, ⟨a', len', cap', ys⟩] = pairB xs ys := by
  show (areOne xs.length _ && (areOne xs.length _ && true)) = _
  unfold areOne pairB
  rw [decide_eq_true rfl, Bool.and_true, Bool.and_true]
  congr 2
  exact decide_eq_decide.2 ⟨Eq.symm, Eq.symm⟩
set_option maxRecDepth 100000 in
theorem implAre_any (a : Option Addr) (n cap : Nat) (L : List FRw) (w : World) (h : RSl w a n L) (hn : n ≤ 1048576) :
    Calls Try.prog 67 #[.slice a n cap] w (RetV (.bool (areB L)) w) := by
  have H := Lib.hid h
  have HL := Lib.hid h.1.1
  clear h
  go_enter Try.func67, Try.ntmps67
  go_wp2
  go_loopw [4, 7] (fun p i wr => ∃ k m : Nat, k ≤ n ∧ i = .int .i64 k ∧ wr = w.drewN m ∧ Hid ((L.take k).all (areOne (L.getD 0 FRw.none).zs.length) = true)) (fun _ i _ => n - (intOf i).toNat)
  case atStart => exact ⟨0, 0, Nat.zero_le _, rfl, rfl, Lib.hid rfl⟩
  case round =>
    obtain ⟨k, m, hk, rfl, rfl, hf⟩ := hrel
    by_cases hlt : k < n
    · obtain ⟨b, off, rfl, _, hc⟩ := H.out.1.at (by omega)
      have hck := hc k hlt
      have hc0 := hc 0 (by omega)
      rw [Nat.add_zero] at hc0
      obtain ⟨hF, hFm⟩ := H.out.2 k hlt
      obtain ⟨hF0, _⟩ := H.out.2 0 (by omega)
      have hlt2 : k < L.length := by rw [HL.out]; exact hlt
      have hst := Lib.hid (are_snoc (L := L) (z := (L.getD 0 FRw.none).zs.length) hlt2)
      have hbd := Lib.hid (are_bad (L := L) (z := (L.getD 0 FRw.none).zs.length) hlt2)
      have HZ0 := Lib.hid hF0.1
      unfold FRw.val at hck hc0
      generalize L.getD k FRw.none = r at *
      obtain ⟨ra, rl, rc, rz⟩ := r
      have HFk := Lib.hid (show FSl w ra rl rz from hF)
      have hFm2 : rl ≤ 1048576 := hFm
      have HZ := Lib.hid (show rz.length = rl from hF.1)
      generalize hz0 : L.getD 0 FRw.none = r0 at *
      obtain ⟨sa, sl, sc, sz⟩ := r0
      have HZ1 := Lib.hid (show sz.length = sl from HZ0.out)
      simp only at hck hc0
      clear hc hF hF0 hFm HZ0
      cases hs : serB rz
      · have HS := Lib.hid hs
        have HB := Lib.hid (show areB L = false from by unfold areB; rw [hz0]; exact hbd.out (by unfold areOne; rw [hs]; rfl))
        clear hs hz0 hf hst hbd
        go_wp2_with (go_at_call 89; refine (implSeries_any _ _ _ _ _ (FSl.drewN HFk.out m) hFm2).mono ?_; rw [HS.out]; rintro e w' ⟨m2, rfl, rfl⟩)
        go_ret
        exact ⟨_, congrArg (fun b => Ending.returned (Value.bool b)) HB.out.symm, rfl⟩
      · have HS := Lib.hid hs
        by_cases he : rl = sl
        · have hne : ((rl : Int) != (sl : Int)) = false := by rw [bne_eq_false_iff_eq]; omega
          have HN := Lib.hid (show (L.take (k + 1)).all (areOne sz.length) = true by rw [hst.out, hf.out]; unfold areOne; rw [hs, HZ.out, HZ1.out, he, decide_eq_true rfl]; rfl)
          clear hs hz0 hf hst hbd he
          go_wp2_with (go_at_call 89; refine (implSeries_any _ _ _ _ _ (FSl.drewN HFk.out m) hFm2).mono ?_; rw [HS.out]; rintro e w' ⟨m2, rfl, rfl⟩)
          go_roundw
          case rel => exact ⟨k + 1, _, by omega, by go_num, rfl, HN⟩
          case measure => simp [intOf]; omega
        · have hne : ((rl : Int) != (sl : Int)) = true := by rw [bne_iff_ne]; omega
          have HB := Lib.hid (show areB L = false from by unfold areB; rw [hz0]; exact hbd.out (by unfold areOne; rw [hs, HZ.out, HZ1.out, decide_eq_false he]; rfl))
          clear hs hz0 hf hst hbd he
          go_wp2_with (go_at_call 89; refine (implSeries_any _ _ _ _ _ (FSl.drewN HFk.out m) hFm2).mono ?_; rw [HS.out]; rintro e w' ⟨m2, rfl, rfl⟩)
          go_ret
          exact ⟨_, congrArg (fun b => Ending.returned (Value.bool b)) HB.out.symm, rfl⟩
    · have e : k = n := by omega
      have HB := Lib.hid (show areB L = true by have := hf.out; rw [List.take_of_length_le (by rw [HL.out]; omega)] at this; exact this)
      clear hf H
      go_wp2
      go_ret
      exact ⟨_, congrArg (fun b => Ending.returned (Value.bool b)) HB.out.symm, rfl⟩
theorem specPair_any (a a' : Option Addr) (len len' cap cap' : Nat) (xs ys : List Nat) (w : World) (h : FSl w a len xs) (h' : FSl w a' len' ys) (hm : len ≤ 1048576) (hm' : len' ≤ 1048576) :
    Calls Try.prog 105 #[.slice a len cap, .slice a' len' cap'] w (RetV (.bool (pairB xs ys)) w) := by
  have H := Lib.hid h
  have H' := Lib.hid h'
  clear h h'
  cases hs : serB xs
  · have HS := Lib.hid hs
    have HB := Lib.hid (show pairB xs ys = false by unfold pairB; rw [hs]; rfl)
    clear hs
    go_enter Try.func105, Try.ntmps105
    go_wp2_with (go_at_call 65; refine (specSeries_any _ _ _ _ _ H.out hm).mono ?_; rw [HS.out]; rintro e w' ⟨m, rfl, rfl⟩)
    go_ret
    exact ⟨_, congrArg (fun b => Ending.returned (Value.bool b)) HB.out.symm, rfl⟩
  · have HS := Lib.hid hs
    cases hs' : serB ys
    · have HS' := Lib.hid hs'
      have HB := Lib.hid (show pairB xs ys = false by unfold pairB; rw [hs']; simp)
      clear hs hs'
      go_enter Try.func105, Try.ntmps105
      go_wp2_with fail
      refine (specSeries_any _ _ _ _ _ H.out hm).mono ?_
      rw [HS.out]
      rintro e w' ⟨m, rfl, rfl⟩
      go_wp2_with (go_at_call 65; refine (specSeries_any _ _ _ _ _ (FSl.drewN H'.out m) hm').mono ?_; rw [HS'.out]; rintro e w' ⟨m2, rfl, rfl⟩)
      go_ret
      exact ⟨_, congrArg (fun b => Ending.returned (Value.bool b)) HB.out.symm, rfl⟩
    · have HS' := Lib.hid hs'
      have HB := Lib.hid (show pairB xs ys = ((len : Int) == (len' : Int)) by
        unfold pairB; rw [hs, hs', H.out.1, H'.out.1]
        by_cases he : len = len'
        · subst he; simp
        · have : ((len : Int) == (len' : Int)) = false := by rw [beq_eq_false_iff_ne]; omega
          rw [this, decide_eq_false he]; rfl)
      clear hs hs'
      go_enter Try.func105, Try.ntmps105
      go_wp2_with fail
      refine (specSeries_any _ _ _ _ _ H.out hm).mono ?_
      rw [HS.out]
      rintro e w' ⟨m, rfl, rfl⟩
      go_wp2_with (go_at_call 65; refine (specSeries_any _ _ _ _ _ (FSl.drewN H'.out m) hm').mono ?_; rw [HS'.out]; rintro e w' ⟨m2, rfl, rfl⟩)
      go_ret
      exact ⟨_, congrArg (fun b => Ending.returned (Value.bool b)) HB.out.symm, rfl⟩
end Go.Proofs.Ytopgegciejmhaaa
