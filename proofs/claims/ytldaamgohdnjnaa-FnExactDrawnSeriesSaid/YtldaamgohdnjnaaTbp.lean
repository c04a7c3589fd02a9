/-
  The number that comes behind those before it, as terms of the own past tell it, in both packages.
-/
import Derived.Test.YtldaamgohdnjnaaCSmd
import Derived.Test.YtldaamgohdnjnaaCBox
import Derived.Test.YtldaamgohdnjnaaCPos
import Derived.Deep.RegionHeld3
namespace Go.Proofs.Ytldaamgohdnjnaa
open Ieee Go.RowKit
set_option linter.unusedVariables false
def paT1 (zs ts : List Nat) (m i : Nat) : Nat := aop .mul .f32 (cn .f32 (ts.getD i 0)) (aop .sub .f32 (cn .f32 (zs.getD (zs.length - 1 - i) 0)) (cn .f32 m))
def paT (zs ts : List Nat) (m : Nat) : Nat := aop .add .f32 (cn .f32 m) (sumT (paT1 zs ts m) ts.length)
theorem paT_cn (zs ts : List Nat) (m : Nat) : cn .f32 (paT zs ts m) = paT zs ts m := cn_aop ..
theorem cnl_getDD (zs : List Nat) (j : Nat) : cn .f32 ((cnl zs).getD j 0) = cn .f32 (zs.getD j 0) := by
  by_cases h : j < zs.length
  · rw [cnl_at h, cn_cn]
  · have h1 : (cnl zs).getD j 0 = 0 := by simp [List.getD, List.getElem?_eq_none (show (cnl zs).length ≤ j by rw [cnl_len]; omega)]
    have h2 : zs.getD j 0 = 0 := by simp [List.getD, List.getElem?_eq_none (show zs.length ≤ j by omega)]
    rw [h1, h2]
theorem paT_cnl (zs ts : List Nat) (m : Nat) : paT (cnl zs) ts m = paT zs ts m := by
  unfold paT
  congr 1
  refine sumT_congr fun i hi => ?_
  unfold paT1
  rw [cnl_len, cnl_getDD]
/-- What the closure reads. -/
def TbI (bt bb bl bm : Nat) (a' : Option Addr) (n' cap' : Nat) (ts : List Nat) (a : Option Addr) (n cap : Nat) (zs : List Nat) (m : Nat) (_k : Nat) (wr : World) : Prop :=
  BoxI bt a' n' cap' ts wr ∧ BoxI bb a n cap zs wr ∧ wr.cell? ⟨bl, 0, none⟩ = some (.int .i64 ((n - 1 : Nat) : Int)) ∧ wr.cell? ⟨bm, 0, none⟩ = some (.float .f32 m)
theorem TbI.drew {bt bb bl bm : Nat} {a' : Option Addr} {n' cap' : Nat} {ts : List Nat} {a : Option Addr} {n cap : Nat} {zs : List Nat} {m k : Nat} {wr : World} (h : TbI bt bb bl bm a' n' cap' ts a n cap zs m k wr) : TbI bt bb bl bm a' n' cap' ts a n cap zs m k wr.drew := h
theorem tb1_any (bt bb bl bm B0 k : Nat) (a' : Option Addr) (n' cap' : Nat) (ts : List Nat) (a : Option Addr) (n cap : Nat) (zs : List Nat) (m : Nat) (wr : World) (h : TbI bt bb bl bm a' n' cap' ts a n cap zs m k wr) (hk : k < n') (hn : n' ≤ n) (hm : n ≤ 1048576) (hz : zs.length = n) :
    Calls Try.prog 130 #[.int .i64 k, .pointer (some ⟨bt, 0, none⟩), .pointer (some ⟨bb, 0, none⟩), .pointer (some ⟨bl, 0, none⟩), .pointer (some ⟨bm, 0, none⟩)] wr (Adds (paT1 zs ts m) (TbI bt bb bl bm a' n' cap' ts a n cap zs m) B0 k wr) := by
  have HI := Lib.hid h
  obtain ⟨⟨hc, hb⟩, ⟨hc2, hb2⟩, hl, hmm⟩ := h
  obtain ⟨b', off', rfl, _, hcs⟩ := hb (by omega)
  obtain ⟨b, off, rfl, _, hzs⟩ := hb2 (by omega)
  have hck := hcs k hk
  have hzk := hzs (n - 1 - k) (by omega)
  have hw : IntKind.i64.wrap (((n - 1 : Nat) : Int) - (k : Int)) = ((n - 1 - k : Nat) : Int) := by rw [IntKind.wrap_i64]; omega
  have h0 : (0 : Int) ≤ ((n - 1 - k : Nat) : Int) := by omega
  have h1 : ((n - 1 - k : Nat) : Int) < (n : Int) := by omega
  have HT := Lib.hid (show ∀ w1 w2, cn .f32 (fopR .mul .f32 (ts.getD k 0) (fopR .sub .f32 (zs.getD (n - 1 - k) 0) m w1) w2) = paT1 zs ts m k from fun w1 w2 => by rw [cn_fopR, cn_fopR]; unfold paT1; rw [hz])
  clear hcs hzs hb hb2
  generalize ts.getD k 0 = x at *
  generalize zs.getD (n - 1 - k) 0 = z at *
  obtain ⟨j, hj⟩ : ∃ j, n - 1 - k = j := ⟨_, rfl⟩
  rw [hj] at hzk hw h0 h1
  go_enter Try.func130, Try.ntmps130
  go_wp2
  go_region
  all_goals
    go_wp2
    go_ret
    exact Adds.quiet (HT.out _ _) HI.out
set_option maxHeartbeats 2000000 in
set_option maxRecDepth 100000 in
theorem told_any (a : Option Addr) (n cap : Nat) (zs : List Nat) (a' : Option Addr) (n' cap' : Nat) (ts : List Nat) (m : Nat) (w : World) (h : FSl w a n zs) (h' : FSl w a' n' ts) (hn : n' ≤ n) (h0 : 0 < n) (hm : n ≤ 1048576) :
    Calls Try.prog 80 #[.slice a n cap, .slice a' n' cap', .float .f32 m] w fun e w' => ∃ r, cn .f32 r = paT zs ts m ∧ e = .returned (.float .f32 r) ∧ Below w.heap.size w w' := by
  have hmf : ∀ (fn : Fn) (first cap : Array Value) (w : World), (Instr.makeFunc fn first cap).run Try.prog w = .ok (.func fn first cap) w := fun _ _ _ _ => rfl
  have hz := h.1
  have HTs := Lib.hid h'.1
  have b1 := (Below.refl w.heap.size w).alloc (Nat.le_refl _) (.cells #[.slice a n cap] 22)
  have b2 := b1.alloc (by simp) (.cells #[.slice a' n' cap'] 22)
  have b3 := b2.alloc (by simp; omega) (.cells #[.float .f32 m] 32)
  have b4 := b3.alloc (by simp; omega) (.cells #[.int .i64 ((n - 1 : Nat) : Int)] 3)
  have X1 := BoxI.start (cap := cap) (t := 22) h
  have X2 : BoxI (w.heap.size + 1) a' n' cap' ts ((w.alloc (.cells #[.slice a n cap] 22)).alloc (.cells #[.slice a' n' cap'] 22)) := by simpa using BoxI.start (cap := cap') (t := 22) (FSl.below h' b1)
  have HI := Lib.hid (show TbI (w.heap.size + 1) w.heap.size (w.heap.size + 1 + 1 + 1) (w.heap.size + 1 + 1) a' n' cap' ts a n cap zs m 0 ((((w.alloc (.cells #[.slice a n cap] 22)).alloc (.cells #[.slice a' n' cap'] 22)).alloc (.cells #[.float .f32 m] 32)).alloc (.cells #[.int .i64 ((n - 1 : Nat) : Int)] 3)) from
    ⟨X2.keep (B := w.heap.size + 1 + 1) (by omega) (((Below.refl _ _).alloc (by simp) _).alloc (by simp <;> omega) _),
     X1.keep (B := w.heap.size + 1) (by omega) ((((Below.refl _ _).alloc (by simp) _).alloc (by simp <;> omega) _).alloc (by simp <;> omega) _),
     by rw [World.cell?_alloc_at _ _ _ _ (by simp)]; rfl,
     by rw [World.cell?_alloc_past _ _ _ (by simp)]; rw [World.cell?_alloc_at _ _ _ _ (by simp)]; rfl⟩)
  have G := Lib.hid b4
  clear h h' b1 b2 b3 b4 X1 X2
  have hw0 : IntKind.i64.wrap ((n : Int) - 1) = ((n - 1 : Nat) : Int) := by rw [IntKind.wrap_i64]; omega
  have hc0 := HI.out.2.1.1
  have hct := HI.out.1.1
  have hcm := HI.out.2.2.2
  have HZ := Lib.hid hz
  go_enter Try.func80, Try.ntmps80
  go_wp2_with fail
  clear hw0 hc0 hct hcm
  have hct := HI.out.1.1
  have hcm := HI.out.2.2.2
  go_region_with
    ((go_at_call 127; refine (summed_any 130 #[.pointer (some ⟨w.heap.size + 1, 0, none⟩), .pointer (some ⟨w.heap.size, 0, none⟩), .pointer (some ⟨w.heap.size + 1 + 1 + 1, 0, none⟩), .pointer (some ⟨w.heap.size + 1 + 1, 0, none⟩)] (paT1 zs ts m) (TbI (w.heap.size + 1) w.heap.size (w.heap.size + 1 + 1 + 1) (w.heap.size + 1 + 1) a' n' cap' ts a n cap zs m) w.heap.size n' _ (enter_of Try.func130 (by kernel_rfl) rfl) (by omega) G.out.drew.size HI.out.drew (fun k m w' h => h) (fun k w' hk hsz hI => tb1_any _ _ _ _ _ _ _ _ _ _ _ _ _ _ _ _ hI hk hn hm HZ.out)).mono ?_; rintro e w2 ⟨r, rfl, hr, hi, hb⟩; have hcm2 := hi.2.2.2; have hct2 := hi.1.1))
  all_goals
    go_wp2
    go_ret
    refine ⟨_, ?_, rfl, below_drewN (G.out.drew.trans hb) _⟩
    rw [cn_fopR, hr]
    unfold paT
    rw [HTs.out]
set_option maxHeartbeats 2000000 in
set_option maxRecDepth 100000 in
theorem spTold_any (a : Option Addr) (n cap : Nat) (zs : List Nat) (a' : Option Addr) (n' cap' : Nat) (ts : List Nat) (m : Nat) (w : World) (h : FSl w a n zs) (h' : FSl w a' n' ts) (hn : n' ≤ n) (h0 : 0 < n) (hm : n ≤ 1048576) :
    Calls Try.prog 72 #[.slice a n cap, .slice a' n' cap', .float .f32 m, .int .i64 n] w (RetF .f32 (paT zs ts m) w) := by
  have H := Lib.hid h
  have H' := Lib.hid h'
  have HL := Lib.hid h.1
  have HL' := Lib.hid h'.1
  clear h h'
  go_enter Try.func72, Try.ntmps72
  go_wp2
  go_loopw [9, 14] (fun s i wr => ∃ k r q : Nat, k ≤ n' ∧ i = .int .i64 k ∧ s = .float .f32 r ∧ wr = w.drewN q ∧ Hid (cn .f32 r = sumT (paT1 zs ts m) k)) (fun _ i _ => n' - (intOf i).toNat)
  case atStart => exact ⟨0, 0, 0, Nat.zero_le _, rfl, rfl, rfl, Lib.hid cn_zero⟩
  case round =>
    obtain ⟨k, r, q, hk, rfl, rfl, rfl, hr⟩ := hrel
    by_cases hlt : k < n'
    · obtain ⟨b, off, rfl, _, hc⟩ := H.out.at (by omega)
      obtain ⟨b', off', rfl, _, hc'⟩ := H'.out.at (by omega)
      have hck := hc (n - 1 - k) (by omega)
      have hck' := hc' k hlt
      have hw0 : IntKind.i64.wrap ((n : Int) - 1) = ((n - 1 : Nat) : Int) := by rw [IntKind.wrap_i64]; omega
      have hw1 : IntKind.i64.wrap (((n - 1 : Nat) : Int) - (k : Int)) = ((n - 1 - k : Nat) : Int) := by rw [IntKind.wrap_i64]; omega
      have hz0 : (0 : Int) ≤ ((n - 1 - k : Nat) : Int) := by omega
      have hz1 : ((n - 1 - k : Nat) : Int) < (n : Int) := by omega
      have hd : decide ((0 : Int) ≤ ((n - 1 - k : Nat) : Int)) = true := decide_eq_true hz0
      have HT := Lib.hid (fun W1 W2 W3 => sum_step (tell := paT1 zs ts m) (r := fopR .mul .f32 (ts.getD k 0) (fopR .sub .f32 (zs.getD (n - 1 - k) 0) m W1) W2) hr.out (by rw [cn_fopR, cn_fopR]; unfold paT1; rw [HL.out]) W3)
      generalize ts.getD k 0 = x at *
      generalize zs.getD (n - 1 - k) 0 = z at *
      obtain ⟨j, hj⟩ : ∃ j, n - 1 - k = j := ⟨_, rfl⟩
      rw [hj] at hck hw1 hz0 hz1 hd
      clear hc hc' hr hj
      go_wp2
      go_roundw
      case rel => exact ⟨k + 1, _, _, by omega, by go_num, rfl, rfl, Lib.hid (HT.out _ _ _)⟩
      case measure => simp [intOf]; omega
    · have hkn : k = n' := by omega
      subst hkn
      have HR := Lib.hid hr.out
      clear hr
      go_wp2
      go_ret
      exact ⟨_, _, by rw [cn_fopR, HR.out]; unfold paT; rw [HL'.out], rfl, rfl⟩
end Go.Proofs.Ytldaamgohdnjnaa
