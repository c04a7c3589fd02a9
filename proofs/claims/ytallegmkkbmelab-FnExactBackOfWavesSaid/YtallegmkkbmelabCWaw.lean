/-
  BackOfWaves, in both packages: the functions themselves.
-/
import Derived.Test.YtallegmkkbmelabCWav
import Derived.Test.YtallegmkkbmelabCGiv
import Derived.Deep.RegionHeld3
import Derived.Deep.AppendLies
namespace Go.Proofs.Ytallegmkkbmelab
open Ieee Go.RowKit
set_option linter.unusedVariables false

set_option maxHeartbeats 1000000 in
set_option maxRecDepth 100000 in
theorem implBw_any (a a' : Option Addr) (len cap len' cap' : Nat) (ms ss : List Nat) (w : World) (h : FSl w a len ms) (h' : FSl w a' len' ss) (hm : len ≤ 1048576) (hm' : len' ≤ 1048576) :
    Calls Try.prog 12 #[.slice a len cap, .slice a' len' cap'] w (RetOB 28 (bwR ms ss) (bwB ms ss) w) := by
  have hmf : ∀ (fn : Fn) (first cap : Array Value) (w : World), (Instr.makeFunc fn first cap).run Try.prog w = .ok (.func fn first cap) w := fun _ _ _ _ => rfl
  have HB0 := Lib.hid (((Below.refl w.heap.size w).alloc (Nat.le_refl _) (.cells #[.slice a len cap] 22)).alloc (by simp) (.cells #[.slice a' len' cap'] 22))
  have HBp := Lib.hid (HB0.out.alloc (by simp; omega) (.cells #[.slice a len cap, .slice a' len' cap'] 22))
  have HP := Lib.hid (RSl.pair (cap := cap) (cap' := cap') 22 (FSl.below h HB0.out) (FSl.below h' HB0.out) hm hm')
  simp only [World.size_alloc] at HP
  have HX := Lib.hid (BoxI.start (cap := cap) (t := 22) h)
  have HY := Lib.hid (BoxI.start (cap := cap') (t := 22) (FSl.below h' ((Below.refl w.heap.size w).alloc (Nat.le_refl _) (.cells #[.slice a len cap] 22))))
  have HPe := Lib.hid (are_pair a a' len len' cap cap' ms ss)
  have HL := Lib.hid h.1
  have HL' := Lib.hid h'.1
  clear h h'
  cases hP : pairB ms ss
  · have HS := Lib.hid (HPe.out.trans hP)
    have HB := Lib.hid (bw_bad (show bwB0 ms ss = false by unfold bwB0; rw [hP]; rfl))
    clear hP
    go_enter Try.func12, Try.ntmps12
    go_wp2_with (go_at_call 40; (with_reducible refine (implAre_any _ _ _ _ _ HP.out (by omega)).mono ?_); rw [HS.out]; rintro e w' ⟨m, rfl, rfl⟩)
    go_ret2
    exact fail_ob _ HB.out.1 HB.out.2 (below_drewN HBp.out _)
  · have HS := Lib.hid (HPe.out.trans hP)
    obtain ⟨_, _, hll⟩ := pairB_t hP
    have hlen : len = len' := by have := HL.out; have := HL'.out; omega
    subst hlen
    by_cases h48 : len ≤ 48
    · have hd : decide ((48 : Int) < (len : Int)) = false := decide_eq_false (by omega)
      have HB := Lib.hid (bw_good (show bwB0 ms ss = true by unfold bwB0; rw [hP, HL.out, decide_eq_true h48]; rfl))
      have hw : wrap64 (2 * (len : Int)) = ((2 * len : Nat) : Int) := by unfold wrap64; omega
      clear hP hll
      go_enter Try.func12, Try.ntmps12
      go_wp2_with fail
      with_reducible refine (implAre_any _ _ _ _ _ HP.out (by omega)).mono ?_
      rw [HS.out]
      rintro e w' ⟨m, rfl, rfl⟩
      have HX1 := Lib.hid (BoxI.keep (B := w.heap.size + 1) HX.out (by omega) ((Below.refl (w.heap.size + 1) (w.alloc (.cells #[.slice a len cap] 22))).alloc (by simp) (.cells #[.slice a' len cap'] 22)))
      have HX2 := Lib.hid (BoxI.keep (B := w.heap.size + 2) HX1.out (by omega) (below_drewN ((Below.refl (w.heap.size + 2) _).alloc (by simp) (.cells #[.slice a len cap, .slice a' len cap'] 22)) m))
      have HY2 := Lib.hid (BoxI.keep (B := w.heap.size + 2) HY.out (by simp) (below_drewN ((Below.refl (w.heap.size + 2) _).alloc (by simp) (.cells #[.slice a len cap, .slice a' len cap'] 22)) m))
      have HI := Lib.hid (show BwI w.heap.size (w.heap.size + 1) a a' len cap cap' ms ss 0 _ from ⟨HX2.out, by have := HY2.out; simpa only [World.size_alloc] using this⟩)
      clear HX HY HX1 HX2 HY2
      go_wp2_with fail
      refine (places_any 42 #[.pointer (some ⟨w.heap.size, 0, none⟩), .pointer (some ⟨w.heap.size + 1, 0, none⟩)] (bwT ms ss) (BwI w.heap.size (w.heap.size + 1) a a' len cap cap' ms ss) w.heap.size (2 * len) _ (enter_of Try.func42 (by kernel_rfl) rfl) (by omega) (by simp; omega) HI.out (fun k wr wr' h hb => h.keep (by simp; omega) (by simp) hb) (fun k wr hk hsz hI => bw1_any _ _ _ _ _ _ _ _ _ _ _ _ _ hI hk h48)).mono ?_
      rintro e w1 ⟨v, rs, rfl, ho, hx, hb⟩
      have HO := Lib.hid (ho.mono (show w.heap.size ≤ _ by simp; omega))
      have HE3 := Lib.hid (show tells (bwT ms ss) (2 * len) = bwL ms ss by unfold bwL; rw [HL.out])
      have HX2 := Lib.hid (show cnl rs = bwR ms ss by rw [hx, HE3.out, HB.out.2])
      have HBl := Lib.hid ((below_drewN HBp.out m).trans hb)
      have HT := Lib.hid (show fins (tells (bwT ms ss) (2 * len)) = bwB ms ss by rw [HE3.out, HB.out.1])
      rw [HT.out]
      clear ho hx hb
      go_wp2
      go_ret2
      exact ⟨v, rs, rfl, HO.out, HX2.out, HBl.out⟩
    · have hd : decide ((48 : Int) < (len : Int)) = true := decide_eq_true (by omega)
      have HB := Lib.hid (bw_bad (show bwB0 ms ss = false by unfold bwB0; rw [hP, HL.out, decide_eq_false h48]; rfl))
      clear hP hll
      go_enter Try.func12, Try.ntmps12
      go_wp2_with (go_at_call 40; (with_reducible refine (implAre_any _ _ _ _ _ HP.out (by omega)).mono ?_); rw [HS.out]; rintro e w' ⟨m, rfl, rfl⟩)
      go_ret2
      exact fail_ob _ HB.out.1 HB.out.2 (below_drewN HBp.out _)
theorem two_new {w : World} {B : Nat} {u v : Value} {t : TypeId} (hB : B = w.heap.size) : ∀ (j : Nat) (x : Value), [u, v][j]? = some x → (w.alloc (.cells #[u, v] t)).cell? ((⟨B, 0, none⟩ : Addr).add j) = some x := by
  intro j x hj
  subst hB
  rw [Go.WideShapes.add_plain, World.cell?_alloc_at _ _ _ _ rfl]
  match j, hj with
  | 0, hj => simpa using hj
  | 1, hj => simpa using hj
theorem own_at {T : TypeId} {B : Nat} {wx wr : World} {v : Value} {rs : List Nat} (h : FOwn T B wr v rs) (e : wx.heap = wr.heap) (o : Obj) : (wx.alloc o).ownsRow B T 1 v rs.length (rs.map (Value.float .f32)) := by
  refine World.ownsRow.alloc ⟨h.1, ?_⟩ o
  rw [e]; exact h.2
theorem FOwn.ne {T : TypeId} {B b : Nat} {w : World} {v : Value} {rs : List Nat} (h : FOwn T B w v rs) (hb : b < B) : v.ownBlock ≠ some b := fun e => by have := (h.lt b e).1; omega
theorem push2_at {T : TypeId} {B r r' g c : Nat} {w wy wr w1 : World} {v : Value} {rs : List Nat} (h : FOwn T B wr v rs) (hby : Below B w wy) (hB : B ≤ wy.heap.size)
    (hown : w1.ownsRow B T 1 (.slice (some ⟨g, 0, none⟩) (rs.length + 2) c) (rs.length + 2) (rs.map (Value.float .f32) ++ [.float .f32 r, .float .f32 r'])) (hg : wy.grownBy w1 v.ownBlock) : FOwn T B w1 (.slice (some ⟨g, 0, none⟩) (rs.length + 2) c) (rs ++ [r, r']) ∧ Below B w w1 := by
  refine ⟨?_, hby.grown hg hB (fun k hk => (h.lt k hk).1)⟩
  unfold FOwn
  rw [List.length_append, List.map_append]
  exact hown
set_option maxHeartbeats 1000000 in
set_option maxRecDepth 100000 in
theorem specBw_any (a a' : Option Addr) (len cap len' cap' : Nat) (ms ss : List Nat) (w : World) (h : FSl w a len ms) (h' : FSl w a' len' ss) (hm : len ≤ 1048576) (hm' : len' ≤ 1048576) :
    Calls Try.prog 10 #[.slice a len cap, .slice a' len' cap'] w (RetOB 28 (bwR ms ss) (bwB ms ss) w) := by
  obtain ⟨i0, hi, hz0, hz1, hz2⟩ := info_parts Try.infoR
  have H := Lib.hid h
  have H' := Lib.hid h'
  have HL := Lib.hid h.1
  have HL' := Lib.hid h'.1
  clear h h'
  cases hP : pairB ms ss
  · have HS := Lib.hid hP
    have HB := Lib.hid (bw_bad (show bwB0 ms ss = false by unfold bwB0; rw [hP]; rfl))
    clear hP hi hz0 hz1 hz2
    go_enter Try.func10, Try.ntmps10
    go_wp2_with (go_at_call 38; refine (specPair_any _ _ _ _ _ _ _ _ _ H.out H'.out hm hm').mono ?_; rw [HS.out]; rintro e w' ⟨m, rfl, rfl⟩)
    go_ret2
    exact fail_ob _ HB.out.1 HB.out.2 (below_drewN (Below.refl _ _) _)
  · have HS := Lib.hid hP
    obtain ⟨hs, hs', hll⟩ := pairB_t hP
    have hlen : len = len' := by have := HL.out; have := HL'.out; omega
    subst hlen
    have hw : wrap64 (2 * (len : Int)) = 2 * (len : Int) := by unfold wrap64; omega
    by_cases h48 : len ≤ 48
    · have hd : decide ((96 : Int) < 2 * (len : Int)) = false := decide_eq_false (by omega)
      have HB := Lib.hid (bw_good (show bwB0 ms ss = true by unfold bwB0; rw [hP, HL.out, decide_eq_true h48]; rfl))
      have HFi := Lib.hid (serB_t hs).2.2
      have HFi' := Lib.hid (serB_t hs').2.2
      clear hP hll hs hs'
      go_enter Try.func10, Try.ntmps10
      go_wp2_with fail
      refine (specPair_any _ _ _ _ _ _ _ _ _ H.out H'.out hm hm').mono ?_
      rw [HS.out]
      rintro e w' ⟨m, rfl, rfl⟩
      have HN := Lib.hid (FOwn.made (T := 28) (B := w.heap.size) (w.drewN m) (Nat.le_refl _))
      have HB0 := Lib.hid ((below_drewN (Below.refl w.heap.size w) m).alloc (Nat.le_refl _) (.cells #[] 28))
      go_wp2
      go_loopw [6, 7, 21] (fun v p c wr => ∃ (k : Nat) (rs : List Nat), k ≤ len ∧ c = .int .i64 k ∧ Hid (rs.length = 2 * k) ∧ Hid (FOwn 28 w.heap.size wr v rs) ∧ Hid (cnl rs = tells (bwT ms ss) (2 * k)) ∧ Hid (Below w.heap.size w wr)) (fun _ _ c _ => len - (intOf c).toNat)
      case atStart => exact ⟨0, [], by omega, rfl, Lib.hid rfl, HN, Lib.hid rfl, HB0⟩
      case round =>
        rename_i wr
        obtain ⟨k, rs, hk, rfl, hrl, hown, hrs, hbel⟩ := hrel
        by_cases hlt : k < len
        · obtain ⟨b, off, rfl, hb, hc⟩ := H.out.at (by omega)
          obtain ⟨b', off', rfl, hb', hc'⟩ := H'.out.at (by omega)
          have hck := hc k hlt
          have hck2 := hc' k hlt
          rw [← hbel.out.cell (p := ⟨b, off + k, none⟩) hb] at hck
          rw [← hbel.out.cell (p := ⟨b', off' + k, none⟩) hb'] at hck2
          have hfz := fins_at HFi.out (k := k) (by rw [HL.out]; exact hlt)
          have hfy := fins_at HFi'.out (k := k) (by rw [HL'.out]; exact hlt)
          have hadd := fun W => add_run (P := Try.prog) 28 hfz hfy W
          have hsub := fun W => sub_run (P := Try.prog) 28 hfz hfy W
          have hcs := Lib.hid (show cnl (rs ++ [aop .add .f32 (ms.getD k 0) (ss.getD k 0), aop .sub .f32 (ms.getD k 0) (ss.getD k 0)]) = tells (bwT ms ss) (2 * (k + 1)) by
            rw [bw_two, ← hrs.out]
            unfold cnl
            rw [List.map_append]
            congr 1
            show [cn .f32 _, cn .f32 _] = _
            rw [cn_aop, cn_aop, ← aop_cn, ← aop_cn .sub]; rfl)
          have hsz := hbel.out.size
          have hrk : rs.length ≤ 1048576 := by have := hrl.out; omega
          have hB' : b < w.heap.size := hb
          have hB2' : b' < w.heap.size := hb'
          clear hc hc' hb hb' hfz hfy
          generalize ms.getD k 0 = z at *
          generalize ss.getD k 0 = y at *
          have hb96 : w.heap.size ≤ wr.heap.size + 1 := by omega
          have h3 : rs.length + 2 ≤ maxLen := by unfold maxLen; omega
          have h4 : (rs.length + 2) * 4 ≤ 140737488355328 := by omega
          have ag := hown.out.ne hB'
          have ag' := hown.out.ne hB2'
          have hbw : b < wr.heap.size + 1 := by omega
          have hbw' : b' < wr.heap.size + 1 := by omega
          go_wp2_with fail
          go_region_held3 (fun w' => w'.cell? ⟨b, off + k, none⟩ = some (.float .f32 z) ∧ w'.cell? ⟨b', off' + k, none⟩ = some (.float .f32 y)) (first | go_keep | (go_split_ands; exact ⟨by rw [hgrow.cell_far _ (by simp; exact hbw) (Ne.symm ag)]; assumption, by rw [hgrow.cell_far _ (by simp; exact hbw') (Ne.symm ag')]; assumption⟩))
            ((refine step_append_lies _ (by rfl) _ _ 22 (by rfl) w.heap.size 28 i0 (.float .f32 0) 1 4 Try.underlying22 hi hz0 hz1 hz2 rfl (by decide) _ _ _ (by rfl) (own_at hown.out (by rfl) _) ⟨wr.heap.size, 0, none⟩ 2 2 [_, _] (by rfl) (by rfl) (two_new (by rfl)) (by simp [Value.oneCell']) (by omega) h3 h4 (by simp; exact hb96) _ (by rfl) ?_; intro gg cc w1 hown1 hgrow hat hlt1))
          have R := push2_at (rs := rs) hown.out (hbel.out.alloc hsz _).drew (by simp; exact hb96) hown1 hgrow
          have hR := Lib.hid R
          have hrl2 := Lib.hid hrl.out
          clear R hown1 hgrow hown hbel hrs hrl hck hck2 hat hlt1 ag ag' hsub hadd
          go_wp2
          go_roundw
          case rel =>
            refine ⟨k + 1, _, by omega, by go_num, ?_, Lib.hid hR.out.1, hcs, Lib.hid hR.out.2⟩
            exact Lib.hid (by rw [List.length_append, hrl2.out]; rfl)
          case measure => simp [intOf]; omega
        · obtain rfl : k = len := by omega
          have hrk : rs.length ≤ 1048576 := by have := hrl.out; omega
          have HX := Lib.hid (show cnl rs = bwL ms ss by unfold bwL; rw [hrs.out, HL.out])
          obtain ⟨A, cp, rfl, hsl, _⟩ := hown.out.sl
          have HSL := Lib.hid hsl
          clear hrs hsl H H'
          go_wp2_with fail
          refine (specGiven_any 28 _ _ rs (bwL ms ss) _ w _ rfl HSL.out HX.out hrk hown.out hbel.out).mono ?_
          rintro e w3 ⟨v, ys, rfl, ho, hx', hb'⟩
          have HO := Lib.hid ho
          have HX2 := Lib.hid (hx'.trans HB.out.2.symm)
          have HBB := Lib.hid hb'
          have HT := Lib.hid (show fins (bwL ms ss) = bwB ms ss from HB.out.1.symm)
          rw [HT.out]
          clear ho hx' hb'
          go_wp2
          go_ret2
          exact ⟨v, ys, rfl, HO.out, HX2.out, HBB.out⟩
    · have hd : decide ((96 : Int) < 2 * (len : Int)) = true := decide_eq_true (by omega)
      have HB := Lib.hid (bw_bad (show bwB0 ms ss = false by unfold bwB0; rw [hP, HL.out, decide_eq_false h48]; rfl))
      clear hP hll hi hz0 hz1 hz2
      go_enter Try.func10, Try.ntmps10
      go_wp2_with (go_at_call 38; refine (specPair_any _ _ _ _ _ _ _ _ _ H.out H'.out hm hm').mono ?_; rw [HS.out]; rintro e w' ⟨m, rfl, rfl⟩)
      go_ret2
      exact fail_ob _ HB.out.1 HB.out.2 (below_drewN (Below.refl _ _) _)
end Go.Proofs.Ytallegmkkbmelab
