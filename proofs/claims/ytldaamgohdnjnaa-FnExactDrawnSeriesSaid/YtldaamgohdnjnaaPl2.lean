/-
  'finitePlaces' over a closure that keeps a state of its own, which is told behind the last place.
-/
import Derived.Test.YtldaamgohdnjnaaCPlc
namespace Go.Proofs.Ytldaamgohdnjnaa
open Ieee Go.RowKit
set_option linter.unusedVariables false
/-- What it gives. -/
def RetP2 (T : TypeId) (tell : Nat → Nat) (I : Nat → World → Prop) (n B0 : Nat) (w : World) (e : Ending) (w' : World) : Prop :=
  ∃ v rs, e = .returned (.tuple #[v, .bool (fins (tells tell n))]) ∧ FOwn T w.heap.size w' v rs ∧ cnl rs = lstR (tells tell n) ∧ (fins (tells tell n) = true → I n w') ∧ Below B0 w w'
set_option maxRecDepth 100000 in
theorem places2_any (K : FuncId) (caps : Array Value) (tell : Nat → Nat) (I : Nat → World → Prop) (B0 n : Nat) (w : World) (hen : ∀ args w, (callFunc K args).run Try.prog w = .ok (.enter K args) w) (hn : n ≤ 1048576) (hB : B0 ≤ w.heap.size)
    (h0 : ∀ wr, Below w.heap.size w wr → I 0 wr)
    (hset : ∀ k wr j v, w.heap.size < wr.heap.size → I k wr → I k (wr.setCell ⟨w.heap.size, j, none⟩ v)) (hdr : ∀ k wr m, I k wr → I k (wr.drewN m))
    (hcl : ∀ k wr, k < n → w.heap.size < wr.heap.size → I k wr → Calls Try.prog K (#[.int .i64 k] ++ caps) wr (Tells tell I B0 w.heap.size k wr)) :
    Calls Try.prog 77 #[.int .i64 n, .func (.func K) #[] caps] w (RetP2 32 tell I n B0 w) := by
  obtain ⟨i0, hi, hz0, hz1, hz2⟩ := info_parts Try.infoR
  have hmk := fun W => run_make_len (P := Try.prog) W 22 32 i0 (.float .f32 0) Try.underlying22 hi hz0 hz1 n (by rw [hz2]; omega) (by omega)
  clear hi hz0 hz1 hz2
  have HS := Lib.hid (Head.start (T := 32) (w := w) (n := n) (by omega))
  have HI0 := Lib.hid (h0 _ ((Below.refl w.heap.size w).alloc (Nat.le_refl _) (.cells (madeCells (Value.float .f32 0).cells n) 32)))
  have HI := Lib.hid hset
  have HDr := Lib.hid hdr
  have HC := Lib.hid hcl
  have HB := Lib.hid ((Below.refl B0 w).alloc hB (.cells (madeCells (Value.float .f32 0).cells n) 32))
  clear h0 hset hdr hcl
  go_enter Try.func77, Try.ntmps77
  go_wp2
  clear hmk
  go_loopw [7, 12] (fun p i wr => ∃ (k : Nat) (rs : List Nat), k ≤ n ∧ i = .int .i64 k ∧ Hid (rs.length = k) ∧ Hid (Head 32 w.heap.size n rs wr) ∧ Hid (cnl rs = tells tell k) ∧ Hid (fins (tells tell k) = true) ∧ Hid (I k wr) ∧ Hid (Below B0 w wr) ∧ w.heap.size < wr.heap.size) (fun _ i _ => n - (intOf i).toNat)
  case atStart => exact ⟨0, [], Nat.zero_le _, rfl, Lib.hid rfl, HS, Lib.hid rfl, Lib.hid rfl, HI0, HB, by simp⟩
  case round =>
    rename_i wr
    obtain ⟨k, rs, hk, rfl, hrl, hhead, hrs, hfin, hi, hbel, hsz⟩ := hrel
    by_cases hlt : k < n
    · have hhB := Lib.hid (hhead.out.cell hlt)
      go_wp2_with fail
      refine (HC.out k _ hlt hsz hi.out).mono ?_
      rintro e w1 ⟨r, rfl, hr, hi1, hb1, hB1⟩
      have hhd1 := hhead.out.same hB1
      obtain ⟨⟨u, hcell⟩, hfz⟩ := hhd1.cell hlt
      have HP := Lib.hid (hhd1.push (by rw [hrl.out]; exact hlt) r)
      rw [hrl.out] at HP
      have HI1 := Lib.hid (HI.out (k + 1) w1 k (.float .f32 r) hhd1.lt hi1)
      have HB1 := Lib.hid ((hbel.out.trans hb1).setCell (p := ⟨w.heap.size, k, none⟩) hB (.float .f32 r))
      have HSz := Lib.hid (show w.heap.size < w1.heap.size from hhd1.lt)
      have HRc := Lib.hid (show cnl (rs ++ [r]) = tells tell (k + 1) by rw [tells_succ]; exact cnl_snoc hrs.out hr)
      have HFr := Lib.hid (show fin .f32 r = fin .f32 (tell k) from fin_congr (hr.trans (by rw [← hr, cn_cn])))
      have HLn := Lib.hid (show (rs ++ [r]).length = k + 1 by rw [List.length_append, hrl.out]; rfl)
      clear hr hi1 hb1 hB1 hhd1 hi hbel hhead hrs hsz hrl hhB
      cases hf : fin .f32 (tell k)
      · have HF := Lib.hid (HFr.out.trans hf)
        have HE := Lib.hid (tells_bad (n := n) hlt hf)
        clear hf
        go_wp2_with (go_at_call 87; refine (isFinite_any _ _).mono ?_; rw [HF.out]; rintro e w' ⟨m, rfl, rfl⟩)
        go_ret2
        exact ⟨_, [], by rw [HE.out]; rfl, FOwn.nil .., by unfold lstR; rw [HE.out]; rfl, fun h => (by rw [HE.out] at h; cases h), below_drewN HB1.out _⟩
      · have HF := Lib.hid (HFr.out.trans hf)
        have HM := Lib.hid (tells_more hfin.out hf)
        clear hf hfin
        go_wp2_with (go_at_call 87; refine (isFinite_any _ _).mono ?_; rw [HF.out]; rintro e w' ⟨m, rfl, rfl⟩)
        go_roundw
        case rel => exact ⟨k + 1, rs ++ [r], by omega, by go_num, HLn, Lib.hid (HP.out.drewN _), HRc, HM, Lib.hid (HDr.out _ _ _ HI1.out), Lib.hid (below_drewN HB1.out _), by show w.heap.size < (World.setCell _ _ _).heap.size; simpa [World.setCell] using HSz.out⟩
        case measure => simp [intOf]; omega
    · obtain rfl : k = n := by omega
      have HE := Lib.hid hfin.out
      have HO := Lib.hid (hhead.out.own hrl.out (Nat.le_refl _) (by unfold maxLen; omega))
      have HC2 := Lib.hid (show cnl rs = lstR (tells tell k) by unfold lstR; rw [hfin.out]; exact hrs.out)
      clear hfin hhead hrs HC HI HI0 HS HB
      go_wp2
      go_ret2
      exact ⟨_, rs, by rw [HE.out]; rfl, HO.out, HC2.out, fun _ => hi.out, hbel.out⟩
end Go.Proofs.Ytldaamgohdnjnaa
