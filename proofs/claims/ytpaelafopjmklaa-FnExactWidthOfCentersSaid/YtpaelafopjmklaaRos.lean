/-
  'rootOfSquares' of the program, over any closure that only reads.
-/
import Derived.Test.YtpaelafopjmklaaCSmd
import Derived.Test.YtpaelafopjmklaaCSpr
import Derived.Test.YtpaelafopjmklaaMta
namespace Go.Proofs.Ytpaelafopjmklaa
open Ieee Go.RowKit
set_option linter.unusedVariables false

def sqT (t : Nat → Nat) (k : Nat) : Nat := aop .mul .f32 (t k) (t k)
/-- The root of the sum of the first squares. -/
def rosX (t : Nat → Nat) (n : Nat) : Nat := root32 (sumT (sqT t) n)
def rosB (t : Nat → Nat) (n : Nat) : Bool := fin .f32 (rosX t n)
def rosV (t : Nat → Nat) (n : Nat) : Nat := if rosB t n then rosX t n else 0
theorem cn_rosX (t : Nat → Nat) (n : Nat) : cn .f32 (rosX t n) = rosX t n := cn_root32 _
theorem rosX_congr {f g : Nat → Nat} {n : Nat} (h : ∀ k, k < n → f k = g k) : rosX f n = rosX g n := by
  unfold rosX
  rw [sumT_congr (f := sqT f) (g := sqT g) fun k hk => by unfold sqT; rw [h k hk]]
/-- What the closure of rootOfSquares reads. -/
def SqrI (bt : Nat) (K : FuncId) (caps : Array Value) (I : World → Prop) (_k : Nat) (wr : World) : Prop :=
  wr.cell? ⟨bt, 0, none⟩ = some (.func (.func K) #[] caps) ∧ I wr
theorem sqr1_any (bt B0 k : Nat) (K : FuncId) (caps : Array Value) (tell : Nat → Nat) (I : World → Prop) (wr : World)
    (hen : ∀ args w, (callFunc K args).run Try.prog w = .ok (.enter K args) w)
    (hI : ∀ wr n, I wr → I (wr.drewN n)) (hK : Calls Try.prog K (#[.int .i64 k] ++ caps) wr (RetF .f32 (tell k) wr))
    (h : SqrI bt K caps I k wr) :
    Calls Try.prog 96 #[.int .i64 k, .pointer (some ⟨bt, 0, none⟩)] wr (Adds (sqT tell) (SqrI bt K caps I) B0 k wr) := by
  obtain ⟨hc, hi⟩ := h
  have HK := Lib.hid hK
  have HI := Lib.hid (fun n => hI wr n hi)
  have HC := Lib.hid hc
  clear hK hi
  go_enter Try.func96, Try.ntmps96
  go_wp2_with fail
  refine HK.out.mono ?_
  rintro e w' ⟨x, n, hx, rfl, rfl⟩
  have HX := Lib.hid hx
  clear hx
  go_wp2
  go_ret
  refine Adds.quiet ?_ ⟨HC.out, HI.out _⟩
  rw [cn_fopR, HX.out]; rfl
set_option maxRecDepth 100000 in
theorem ros_any (K : FuncId) (caps : Array Value) (tell : Nat → Nat) (I : World → Prop) (n : Nat) (w : World)
    (hen : ∀ args w, (callFunc K args).run Try.prog w = .ok (.enter K args) w) (hn : n ≤ 1048576)
    (h0 : I w) (hI : ∀ wr wr', I wr → Below w.heap.size wr wr' → I wr')
    (hK : ∀ k wr, k < n → I wr → Calls Try.prog K (#[.int .i64 k] ++ caps) wr (RetF .f32 (tell k) wr)) :
    Calls Try.prog 55 #[.int .i64 n, .func (.func K) #[] caps] w (RetFBk (rosV tell n) (rosB tell n) w.heap.size w) := by
  have hmf : ∀ (fn : Fn) (first cap : Array Value) (w : World), (Instr.makeFunc fn first cap).run Try.prog w = .ok (.func fn first cap) w := fun _ _ _ _ => rfl
  have b1 := (Below.refl w.heap.size w).alloc (Nat.le_refl _) (.cells #[.func (.func K) #[] caps] 67)
  have HI0 := Lib.hid (show SqrI w.heap.size K caps I 0 (w.alloc (.cells #[.func (.func K) #[] caps] 67)) from ⟨by rw [World.cell?_alloc_at _ _ _ _ rfl]; rfl, hI _ _ h0 b1⟩)
  have HB := Lib.hid b1
  have HJ := Lib.hid hI
  have HK := Lib.hid hK
  clear b1 h0 hI hK
  go_enter Try.func55, Try.ntmps55
  go_wp2_with fail
  refine (summed_any 96 #[.pointer (some ⟨w.heap.size, 0, none⟩)] (sqT tell) (SqrI w.heap.size K caps I) w.heap.size n _ (enter_of Try.func96 (by kernel_rfl) rfl) hn (by simp) HI0.out (fun k m wr h => ⟨h.1, HJ.out _ _ h.2 (below_drewN (Below.refl _ _) m)⟩)
    (fun k wr hk hsz h => sqr1_any _ _ _ _ _ _ _ _ hen (fun wr n hi => HJ.out _ _ hi (below_drewN (Below.refl _ _) n)) (HK.out k wr hk h.2) h)).mono ?_
  rintro e w1 ⟨s, rfl, hs, hi1, hb⟩
  have HS := Lib.hid hs
  have HB1 := Lib.hid (HB.out.trans hb)
  clear hs hi1 hb
  go_wp2_with fail
  refine (implRoot_any _ _).mono ?_
  rintro e w' ⟨x, m, hx, rfl, rfl⟩
  have HX := Lib.hid (show cn .f32 x = rosX tell n by rw [hx]; unfold rosX; rw [← HS.out]; exact (root32_cn s).symm)
  clear hx
  go_wp2_with fail
  refine (implOnly_any _ _).mono ?_
  rintro e w' ⟨r, m2, hr, rfl, rfl⟩
  have HR := Lib.hid hr
  clear hr
  go_wp2
  go_ret2
  have hf : fin .f32 x = rosB tell n := fin_congr (HX.out.trans (cn_rosX ..).symm)
  exact ⟨r, by rw [HR.out, hf, HX.out]; rfl, by rw [← hf]; rfl, below_drewN HB1.out _⟩
end Go.Proofs.Ytpaelafopjmklaa
