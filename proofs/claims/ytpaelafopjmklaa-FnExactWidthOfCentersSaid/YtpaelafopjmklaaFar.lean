/-
  FarOfShapes, in both packages.
-/
import Derived.Test.YtpaelafopjmklaaRos
import Derived.Test.YtpaelafopjmklaaCBox
import Derived.Test.YtpaelafopjmklaaCAre
import Derived.Test.YtpaelafopjmklaaPr2
import Derived.Deep.RegionHeld3
namespace Go.Proofs.Ytpaelafopjmklaa
open Ieee Go.RowKit
set_option linter.unusedVariables false

def subT (x y : Nat) : Nat := aop .sub .f32 x y
/-- How far two lists of the same length are apart. -/
def farX (zs ys : List Nat) : Nat := rosX (tell2 subT zs ys) zs.length
def farB (zs ys : List Nat) : Bool := pairB zs ys && fin .f32 (farX zs ys)
def farV (zs ys : List Nat) : Nat := if farB zs ys then farX zs ys else 0
theorem cn_farX (zs ys : List Nat) : cn .f32 (farX zs ys) = farX zs ys := cn_rosX _ _
theorem far_bad {zs ys : List Nat} (h : pairB zs ys = false) : farB zs ys = false ∧ farV zs ys = 0 := by
  have : farB zs ys = false := by unfold farB; rw [h]; rfl
  exact ⟨this, by unfold farV; rw [this]; rfl⟩
theorem far_good {zs ys : List Nat} (h : pairB zs ys = true) : farB zs ys = rosB (tell2 subT zs ys) zs.length ∧ farV zs ys = rosV (tell2 subT zs ys) zs.length := by
  have : farB zs ys = rosB (tell2 subT zs ys) zs.length := by unfold farB; rw [h]; rfl
  exact ⟨this, by unfold farV; rw [this]; rfl⟩

/-- What the closure of FarOfShapes reads. -/
def FarI (ba bb : Nat) (a : Option Addr) (len cap : Nat) (zs : List Nat) (a' : Option Addr) (len' cap' : Nat) (ys : List Nat) (wr : World) : Prop :=
  BoxI ba a len cap zs wr ∧ BoxI bb a' len' cap' ys wr
theorem far1_any (ba bb k : Nat) (a : Option Addr) (len cap : Nat) (zs : List Nat) (a' : Option Addr) (len' cap' : Nat) (ys : List Nat) (wr : World)
    (h : FarI ba bb a len cap zs a' len' cap' ys wr) (hk : k < len) (hk' : k < len') (hm : len ≤ 1048576) (hm' : len' ≤ 1048576) :
    Calls Try.prog 56 #[.int .i64 k, .pointer (some ⟨ba, 0, none⟩), .pointer (some ⟨bb, 0, none⟩)] wr (RetF .f32 (tell2 subT zs ys k) wr) := by
  obtain ⟨⟨hc, hb⟩, ⟨hc', hb'⟩⟩ := h
  obtain ⟨b, off, rfl, _, hcs⟩ := hb (by omega)
  obtain ⟨b', off', rfl, _, hcs'⟩ := hb' (by omega)
  have hck := hcs k hk
  have hck' := hcs' k hk'
  have HT := Lib.hid (show tell2 subT zs ys k = subT (cn .f32 (zs.getD k 0)) (cn .f32 (ys.getD k 0)) from rfl)
  clear hcs hcs' hb hb'
  generalize zs.getD k 0 = z at *
  generalize ys.getD k 0 = y at *
  go_enter Try.func56, Try.ntmps56
  go_wp2
  go_region
  all_goals
    go_wp2
    go_ret
    exact ⟨_, _, by rw [cn_fopR, HT.out]; rfl, rfl, rfl⟩
set_option maxHeartbeats 2000000 in
set_option maxRecDepth 100000 in
theorem imFar_any (a : Option Addr) (len cap : Nat) (zs : List Nat) (a' : Option Addr) (len' cap' : Nat) (ys : List Nat) (w : World)
    (h : FSl w a len zs) (h' : FSl w a' len' ys) (hm : len ≤ 1048576) (hm' : len' ≤ 1048576) :
    Calls Try.prog 17 #[.slice a len cap, .slice a' len' cap'] w (RetFBk (farV zs ys) (farB zs ys) w.heap.size w) := by
  have hmf : ∀ (fn : Fn) (first cap : Array Value) (w : World), (Instr.makeFunc fn first cap).run Try.prog w = .ok (.func fn first cap) w := fun _ _ _ _ => rfl
  have HL := Lib.hid h.1
  have HL' := Lib.hid h'.1
  have b1 := (Below.refl w.heap.size w).alloc (Nat.le_refl _) (.cells #[.slice a len cap] 22)
  have b2 := b1.alloc (by simp <;> omega) (.cells #[.slice a' len' cap'] 22)
  have X1 := BoxI.start (cap := cap) (t := 22) h
  have X2 : BoxI (w.heap.size + 1) a' len' cap' ys ((w.alloc (.cells #[.slice a len cap] 22)).alloc (.cells #[.slice a' len' cap'] 22)) := by simpa using BoxI.start (cap := cap') (t := 22) (FSl.below h' b1)
  have G := Lib.hid b2
  have Y1 := Lib.hid (X1.keep (B := w.heap.size + 1) (by omega) ((Below.refl _ _).alloc (by simp <;> omega) (.cells #[.slice a' len' cap'] 22)))
  have Y2 := Lib.hid X2
  have H1 := Lib.hid (FSl.below h b2)
  have H2 := Lib.hid (FSl.below h' b2)
  have hc1 := Y1.out.1
  have hc2 := Y2.out.1
  clear h h' b1 b2 X1 X2
  go_enter Try.func17, Try.ntmps17
  go_wp2_with fail
  refine (implAre_any _ 2 2 [⟨a, len, cap, zs⟩, ⟨a', len', cap', ys⟩] _ (by simpa using RSl.pair (cap := cap) (cap' := cap') 22 H1.out H2.out hm hm') (by omega)).mono ?_
  rintro e w' ⟨m, rfl, rfl⟩
  rw [are_pair]
  have G2 := Lib.hid (below_drewN (G.out.alloc (by simp <;> omega) (.cells #[.slice a len cap, .slice a' len' cap'] 22)) m)
  cases hp : pairB zs ys
  · have HB := Lib.hid (far_bad hp)
    clear hp
    go_wp2
    go_ret2
    exact ⟨0, by rw [HB.out.2]; exact cn_zero, by rw [HB.out.1]; rfl, G2.out⟩
  · obtain ⟨hs, hs', hll⟩ := pairB_t hp
    rw [HL.out, HL'.out] at hll
    subst hll
    have HB := Lib.hid (far_good hp)
    have hk1 : ∀ {bl : Nat} {A : Option Addr} {l c : Nat} {xs : List Nat} {W : World} (o : Obj) (n : Nat), bl < W.heap.size → BoxI bl A l c xs W → BoxI bl A l c xs ((W.alloc o).drewN n) := fun o n hb hx => hx.keep hb (below_drewN ((Below.refl _ _).alloc (Nat.le_refl _) o) n)
    have HI0 := Lib.hid (show FarI w.heap.size (w.heap.size + 1) a len cap zs a' len cap' ys ((((w.alloc (.cells #[.slice a len cap] 22)).alloc (.cells #[.slice a' len cap'] 22)).alloc (.cells #[.slice a len cap, .slice a' len cap'] 22)).drewN m) from
      ⟨hk1 _ _ (by simp <;> omega) Y1.out, hk1 _ _ (by simp <;> omega) Y2.out⟩)
    have hd1 := HI0.out.1.1
    clear hp hs hs' hk1
    go_wp2_with fail
    refine (ros_any 56 #[.pointer (some ⟨w.heap.size, 0, none⟩), .pointer (some ⟨w.heap.size + 1, 0, none⟩)] (tell2 subT zs ys) (FarI w.heap.size (w.heap.size + 1) a len cap zs a' len cap' ys) len _ (enter_of Try.func56 (by kernel_rfl) rfl) hm HI0.out
      (fun wr wr' h hb => ⟨h.1.keep (by simp <;> omega) hb, h.2.keep (by simp <;> omega) hb⟩)
      (fun k wr hk h => far1_any _ _ _ _ _ _ _ _ _ _ _ _ h hk hk hm hm')).mono ?_
    rintro e w2 ⟨r, hr, rfl, hb⟩
    have HR := Lib.hid (show cn .f32 r = farV zs ys by rw [hr, HB.out.2, HL.out])
    have HE := Lib.hid (show rosB (tell2 subT zs ys) len = farB zs ys by rw [HB.out.1, HL.out])
    have HF := Lib.hid (G2.out.trans (hb.mono (by have := G2.out.size; exact this)))
    rw [HE.out]
    clear hr hb
    go_wp2
    go_ret2
    exact ⟨r, HR.out, rfl, HF.out⟩
theorem l07Far_any (a : Option Addr) (len cap : Nat) (zs : List Nat) (a' : Option Addr) (len' cap' : Nat) (ys : List Nat) (w : World) (h : FSl w a len zs) (h' : FSl w a' len' ys) (hm : len ≤ 1048576) (hll : len ≤ len') :
    Calls Try.prog 53 #[.slice a len cap, .slice a' len' cap'] w (RetF .f32 (farX zs ys) w) := by
  have H := Lib.hid h
  have H' := Lib.hid h'
  have HL := Lib.hid h.1
  clear h h'
  go_enter Try.func53, Try.ntmps53
  go_wp2
  go_loopw [5, 10] (fun s i wr => ∃ k n r : Nat, k ≤ len ∧ i = .int .i64 k ∧ s = .float .f32 r ∧ wr = w.drewN n ∧ Hid (cn .f32 r = sumT (sqT (tell2 subT zs ys)) k)) (fun _ i _ => len - (intOf i).toNat)
  case atStart => exact ⟨0, 0, 0, Nat.zero_le _, rfl, rfl, rfl, Lib.hid cn_zero⟩
  case round =>
    obtain ⟨k, n, r, hk, rfl, rfl, rfl, hr⟩ := hrel
    by_cases hlt : k < len
    · obtain ⟨b, off, rfl, hb, hc⟩ := H.out.at (by omega)
      obtain ⟨b', off', rfl, hb', hc'⟩ := H'.out.at (by omega)
      have hck := hc k hlt
      have hck' := hc' k (by omega)
      have hstep := Lib.hid (show ∀ z y, zs.getD k 0 = z → ys.getD k 0 = y → ∀ w1 w2 w3, cn .f32 (fopR .add .f32 r (fopR .mul .f32 (fopR .sub .f32 z y w1) (fopR .sub .f32 z y w1) w2) w3) = sumT (sqT (tell2 subT zs ys)) (k + 1) from fun z y hz hy w1 w2 w3 => by
        rw [cn_fopR, cn_fopR, cn_fopR, hr.out, ← hz, ← hy]; rfl)
      obtain ⟨z, hz⟩ : ∃ z, zs.getD k 0 = z := ⟨_, rfl⟩
      obtain ⟨y, hy⟩ : ∃ y, ys.getD k 0 = y := ⟨_, rfl⟩
      rw [hz] at hck
      rw [hy] at hck'
      have hst2 := Lib.hid (hstep.out z y hz hy)
      clear hc hc' hb hb' H H' hr hstep hz hy
      go_wp2
      go_region
      all_goals
        go_wp2
        go_roundw
        case rel => exact ⟨k + 1, _, _, by omega, by go_num, rfl, rfl, Lib.hid (hst2.out _ _ _)⟩
        case measure => simp [intOf]; omega
    · have e : k = len := by omega
      subst e
      have HR := Lib.hid hr.out
      clear H H' hr
      go_wp2_with fail
      refine (specRoot_any _ _).mono ?_
      rintro e w' ⟨x, m, hx, rfl, rfl⟩
      have HX := Lib.hid hx
      clear hx
      go_wp2
      go_ret
      exact ⟨x, _, by rw [HX.out]; unfold farX rosX; rw [HL.out, ← HR.out]; exact (root32_cn r).symm, rfl, rfl⟩
theorem far_end {zs ys : List Nat} {r x : Nat} (h : cn .f32 r = if fin .f32 x then cn .f32 x else 0) (hs : pairB zs ys = true) (hx : cn .f32 x = farX zs ys) : cn .f32 r = farV zs ys ∧ fin .f32 x = farB zs ys := by
  have hf : fin .f32 x = farB zs ys := by rw [fin_congr (hx.trans (cn_farX ..).symm)]; unfold farB; rw [hs]; rfl
  exact ⟨by rw [h, hf, hx]; rfl, hf⟩
theorem spFar_any (a : Option Addr) (len cap : Nat) (zs : List Nat) (a' : Option Addr) (len' cap' : Nat) (ys : List Nat) (w : World) (h : FSl w a len zs) (h' : FSl w a' len' ys) (hm : len ≤ 1048576) (hm' : len' ≤ 1048576) :
    Calls Try.prog 15 #[.slice a len cap, .slice a' len' cap'] w (RetFBk (farV zs ys) (farB zs ys) w.heap.size w) := by
  have H := Lib.hid h
  have H' := Lib.hid h'
  have HL := Lib.hid h.1
  have HL' := Lib.hid h'.1
  clear h h'
  cases hs : serB zs
  · have HS := Lib.hid hs
    have HB := Lib.hid (far_bad (zs := zs) (ys := ys) (by unfold pairB; rw [hs]; rfl))
    clear hs
    go_enter Try.func15, Try.ntmps15
    go_wp2_with (go_at_call 51; refine (specSeries_any _ _ _ _ _ H.out hm).mono ?_; rw [HS.out]; rintro e w' ⟨m, rfl, rfl⟩)
    go_ret2
    exact ⟨0, by rw [HB.out.2]; exact cn_zero, by rw [HB.out.1]; rfl, below_drewN (Below.refl _ _) _⟩
  · cases hs' : serB ys
    · have HS := Lib.hid hs
      have HS' := Lib.hid hs'
      have HB := Lib.hid (far_bad (zs := zs) (ys := ys) (by unfold pairB; rw [hs']; simp))
      clear hs hs'
      go_enter Try.func15, Try.ntmps15
      go_wp2_with fail
      refine (specSeries_any _ _ _ _ _ H.out hm).mono ?_
      rw [HS.out]
      rintro e w' ⟨m, rfl, rfl⟩
      go_wp2_with fail
      refine (specSeries_any _ _ _ _ _ (FSl.drewN H'.out m) hm').mono ?_
      rw [HS'.out]
      rintro e w' ⟨m2, rfl, rfl⟩
      go_wp2
      go_ret2
      exact ⟨0, by rw [HB.out.2]; exact cn_zero, by rw [HB.out.1]; rfl, below_drewN (Below.refl _ _) _⟩
    · have HS := Lib.hid hs
      have HS' := Lib.hid hs'
      by_cases he : len = len'
      · subst he
        have HP := Lib.hid (show pairB zs ys = true by unfold pairB; rw [hs, hs', HL.out, HL'.out]; simp)
        clear hs hs'
        go_enter Try.func15, Try.ntmps15
        go_wp2_with fail
        refine (specSeries_any _ _ _ _ _ H.out hm).mono ?_
        rw [HS.out]
        rintro e w' ⟨m, rfl, rfl⟩
        go_wp2_with fail
        refine (specSeries_any _ _ _ _ _ (FSl.drewN H'.out m) hm').mono ?_
        rw [HS'.out]
        rintro e w' ⟨m2, rfl, rfl⟩
        go_wp2_with fail
        refine (l07Far_any _ _ _ _ _ _ _ _ _ (FSl.drewN H.out _) (FSl.drewN H'.out _) hm (Nat.le_refl _)).mono ?_
        rintro e w' ⟨x, m3, hx, rfl, rfl⟩
        have HX := Lib.hid hx
        clear hx
        go_wp2_with fail
        refine (specNumber_any _ _).mono ?_
        rintro e w' ⟨r', n', hr', rfl, rfl⟩
        have W := Lib.hid (far_end hr' HP.out HX.out)
        clear hr'
        go_wp2
        go_ret2
        exact ⟨r', W.out.1, by rw [← W.out.2]; rfl, below_drewN (Below.refl _ _) _⟩
      · have hne : ((len : Int) != (len' : Int)) = true := by rw [bne_iff_ne]; omega
        have HB := Lib.hid (far_bad (zs := zs) (ys := ys) (by unfold pairB; rw [hs, hs', HL.out, HL'.out, decide_eq_false he]; rfl))
        clear hs hs'
        go_enter Try.func15, Try.ntmps15
        go_wp2_with fail
        refine (specSeries_any _ _ _ _ _ H.out hm).mono ?_
        rw [HS.out]
        rintro e w' ⟨m, rfl, rfl⟩
        go_wp2_with fail
        refine (specSeries_any _ _ _ _ _ (FSl.drewN H'.out m) hm').mono ?_
        rw [HS'.out]
        rintro e w' ⟨m2, rfl, rfl⟩
        go_wp2
        go_ret2
        exact ⟨0, by rw [HB.out.2]; exact cn_zero, by rw [HB.out.1]; rfl, below_drewN (Below.refl _ _) _⟩
end Go.Proofs.Ytpaelafopjmklaa
