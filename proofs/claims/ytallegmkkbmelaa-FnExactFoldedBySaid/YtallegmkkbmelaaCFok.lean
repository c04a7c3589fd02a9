/-
  FoldedBy of the model: the sums and the counts in place.
-/
import Derived.Test.YtallegmkkbmelaaCFol
namespace Go.Proofs.Ytallegmkkbmelaa
open Ieee Go.RowKit
set_option linter.unusedVariables false

theorem Try.infoI6 : (Try.prog.info? 2).map (fun i => (i.zero, i.size, i.bytes)) = some (some (.int .i64 0), 1, 8) := by kernel_rfl
theorem row_set {w : World} {g n k r : Nat} {T : TypeId} {f : Nat → Nat} (h : w.rowIs g T n (fun p => .float .f32 (f p))) : (w.setCell ⟨g, k, none⟩ (.float .f32 r)).rowIs g T n (fun p => .float .f32 (if p = k then r else f p)) := by
  have := h.set k (.float .f32 r)
  rw [fd_value 0 k r f] at this
  exact this

set_option maxHeartbeats 4000000 in
set_option maxRecDepth 100000 in
theorem fold_any (a : Option Addr) (len cap n : Nat) (zs : List Nat) (w : World) (h : FSl w a len zs) (hm : len ≤ 96) (hn : 1 ≤ n) (hn2 : n ≤ len) :
    Calls Try.prog 57 #[.slice a len cap, .int .i64 n] w (fun e w' => ∃ f r, e = .returned (.tuple #[.slice (some ⟨w.heap.size, 0, none⟩) n n, .float .f32 r]) ∧ w'.rowIs w.heap.size 23 n (fun p => .float .f32 (f p)) ∧ FdMe zs n n f ∧ cn .f32 r = fdS zs n ∧ Below w.heap.size w w') := by
  obtain ⟨i0, hi, hz0, hz1, hz2⟩ := info_parts Try.infoR
  obtain ⟨i1, hi1, hy0, hy1, hy2⟩ := info_parts Try.infoI6
  have hmk := fun W => run_make_len (P := Try.prog) W 22 23 i0 (.float .f32 0) Try.underlying22 hi hz0 hz1 n (by rw [hz2]; omega) (by omega)
  have hmk2 := fun W => run_make_len (P := Try.prog) W 72 2 i1 (.int .i64 0) Try.underlying72 hi1 hy0 hy1 n (by rw [hy2]; omega) (by omega)
  clear hi hz0 hz1 hz2 hi1 hy0 hy1 hy2
  have H := Lib.hid h
  have HL := Lib.hid h.1
  have HB0 := Lib.hid (((Below.refl w.heap.size w).alloc (Nat.le_refl _) (.cells (madeCells (Value.float .f32 0).cells n) 23)).alloc (by simp) (.cells (madeCells (Value.int .i64 0).cells n) 2))
  have HR0 := Lib.hid ((World.rowIs_made w (.float .f32 0) n 23).alloc (.cells (madeCells (Value.int .i64 0).cells n) 2))
  have HC0 := Lib.hid ((World.rowIs_made (w.alloc (.cells (madeCells (Value.float .f32 0).cells n) 23)) (.int .i64 0) n 2).congr (g := fun p => .int .i64 (fCnt n p 0 : Int)) (fun p hp => by rw [fCnt_zero hp]; rfl))
  rw [show (w.alloc (.cells (madeCells (Value.float .f32 0).cells n) 23)).heap.size = w.heap.size + 1 by simp] at HC0
  clear h
  have g1 : decide ((n : Int) = 0) = false := decide_eq_false (by omega)
  have g2 : ((n : Int) == 0) = false := beq_false_of_ne (by omega)
  have g3 : (n : Int) ≠ 0 := by omega
  go_enter Try.func57, Try.ntmps57
  go_wp2
  clear hmk hmk2
  go_loopw [20] (fun i wr => ∃ (k : Nat) (f : Nat → Nat), k ≤ len ∧ i = .int .i64 k ∧ Hid (wr.rowIs w.heap.size 23 n (fun p => .float .f32 (f p))) ∧ Hid (FdIn zs n k f) ∧ Hid (wr.rowIs (w.heap.size + 1) 2 n (fun p => .int .i64 (fCnt n p k : Int))) ∧ Hid (Below w.heap.size w wr)) (fun i _ => len - (intOf i).toNat)
  case atStart => exact ⟨0, fun _ => 0, Nat.zero_le _, rfl, HR0, Lib.hid (FdIn.start zs n), HC0, HB0⟩
  case round =>
    rename_i wr
    obtain ⟨k, f, hk, rfl, hrow, hin, hcnt, hbel⟩ := hrel
    by_cases hlt : k < len
    · obtain ⟨b, off, rfl, hb, hc⟩ := H.out.at (by omega)
      have hck := hc k hlt
      rw [← hbel.out.cell (p := ⟨b, off + k, none⟩) hb] at hck
      obtain ⟨q, hq⟩ : ∃ q, k % n = q := ⟨_, rfl⟩
      have hqn : q < n := by rw [← hq]; exact Nat.mod_lt _ hn
      have hqz : (k : Int) % (n : Int) = (q : Int) := by rw [← hq]; exact (Int.natCast_emod k n).symm
      have hqt : (k : Int).tmod (n : Int) = (q : Int) := by rw [Int.tmod_eq_emod_of_nonneg (by omega)]; exact hqz
      have p1 : (0 : Int) ≤ (k : Int) := by omega
      have p2 : (0 : Int) ≤ (q : Int) := by omega
      have l2 : (q : Int) < (n : Int) := by omega
      have hsc := hrow.out.cell hqn
      have hsf := hrow.out.frozen q
      have hcc := hcnt.out.cell hqn
      have hcf := hcnt.out.frozen q
      obtain ⟨c, hcv⟩ : ∃ c, fCnt n q k = c := ⟨_, rfl⟩
      have hcle : c ≤ 96 := by rw [← hcv]; have := fCnt_le (p := q) (i := k) hn; omega
      have HP := Lib.hid (fun (m r : Nat) (v : Value) => ((row_set (k := q) (r := r) (show (wr.drewN m).rowIs w.heap.size 23 n (fun p => .float .f32 (f p)) from hrow.out)).setOther (a := ⟨w.heap.size + 1, q, none⟩) (by simp) v))
      have HQ := Lib.hid (fun (m r : Nat) => (((show (wr.drewN m).rowIs (w.heap.size + 1) 2 n (fun p => .int .i64 (fCnt n p k : Int)) from hcnt.out).setOther (a := ⟨w.heap.size, q, none⟩) (by simp) (.float .f32 r)).set q (.int .i64 ((c : Int) + 1))).congr (g := fun p => .int .i64 (fCnt n p (k + 1) : Int)) (fun p hp => by rw [← hcv, ← hq]; exact fd_count (by omega) p hp))
      have HBn := Lib.hid (fun (m r : Nat) (v : Value) => ((below_drewN hbel.out m).setCell (p := ⟨w.heap.size, q, none⟩) (Nat.le_refl _) (.float .f32 r)).setCell (p := ⟨w.heap.size + 1, q, none⟩) (Nat.le_succ _) v)
      have HIn := Lib.hid (show ∀ z x, zs.getD k 0 = z → f q = x → ∀ w', FdIn zs n (k + 1) (fun p => if p = q then fopR .add .f32 x z w' else f p) from fun z x hz hx w' => by
        have := hin.out.step (r := fopR .add .f32 x z w') (by omega) (by rw [cn_fopR, hq, hz, hx])
        rw [hq] at this
        exact this)
      generalize hz : zs.getD k 0 = z at hck
      generalize hx : f q = x at hsc
      have HI2 := Lib.hid (HIn.out z x hz hx)
      rw [hcv] at hcc
      clear hc hb hrow hin hcnt hbel hz hx hq hcv HIn H HR0 HC0 HB0
      go_wp2
      go_region
      all_goals
       go_wp2
       go_roundw
       case rel => exact ⟨k + 1, _, by omega, by go_num, Lib.hid (HP.out _ _ _), Lib.hid (HI2.out _), Lib.hid (HQ.out _ _), Lib.hid (HBn.out _ _ _)⟩
       case measure => simp [intOf]; omega
    · obtain rfl : k = len := by omega
      have HM0 := Lib.hid (FdMe.start (zs := zs) (n := n) (f := f) (by rw [HL.out]; exact hin.out) (by rw [HL.out]; exact hn2))
      have HR1 := Lib.hid hrow.out
      have HC1 := Lib.hid hcnt.out
      have HB1 := Lib.hid hbel.out
      obtain ⟨wp, rfl⟩ : ∃ wp : World, wp = wr := ⟨_, rfl⟩
      clear hrow hin hcnt hbel HR0 HC0 HB0
      go_wp2
      go_loopw [45] (fun i wr => ∃ (j : Nat) (f : Nat → Nat), j ≤ n ∧ i = .int .i64 j ∧ Hid (wr.rowIs w.heap.size 23 n (fun p => .float .f32 (f p))) ∧ Hid (FdMe zs n j f) ∧ Hid (wr.rowIs (w.heap.size + 1) 2 n (fun p => .int .i64 (fCnt n p k : Int))) ∧ Hid (Below w.heap.size w wr)) (fun i _ => n - (intOf i).toNat)
      case atStart => exact ⟨0, f, Nat.zero_le _, rfl, HR1, HM0, HC1, HB1⟩
      case round =>
        rename_i wr
        obtain ⟨j, f, hj, rfl, hrow, hme, hcnt, hbel⟩ := hrel
        by_cases hlt : j < n
        · have hsc := hrow.out.cell hlt
          have hsf := hrow.out.frozen j
          have hcc := hcnt.out.cell hlt
          obtain ⟨c, hcv⟩ : ∃ c, fCnt n j k = c := ⟨_, rfl⟩
          have HP := Lib.hid (fun (m r : Nat) => row_set (k := j) (r := r) (show (wr.drewN m).rowIs w.heap.size 23 n (fun p => .float .f32 (f p)) from hrow.out))
          have HQ := Lib.hid (fun (m r : Nat) => (show (wr.drewN m).rowIs (w.heap.size + 1) 2 n (fun p => .int .i64 (fCnt n p k : Int)) from hcnt.out).setOther (a := ⟨w.heap.size, j, none⟩) (by simp) (.float .f32 r))
          have HBn := Lib.hid (fun (m r : Nat) => (below_drewN hbel.out m).setCell (p := ⟨w.heap.size, j, none⟩) (Nat.le_refl _) (.float .f32 r))
          have HMn := Lib.hid (show ∀ x, f j = x → ∀ w', FdMe zs n (j + 1) (fun p => if p = j then fopR .quo .f32 x (floatOfInt .f32 (c : Int)) w' else f p) from fun x hx w' => hme.out.step (by omega) (by rw [HL.out]; exact hn2) (by rw [cn_fopR, hx, HL.out, hcv]; rfl))
          generalize hx : f j = x at hsc
          have HM2 := Lib.hid (HMn.out x hx)
          rw [hcv] at hcc
          clear hrow hme hcnt hbel hx hcv HMn H HR1 HC1 HB1
          go_wp2
          go_region
          all_goals
           go_wp2
           go_roundw
           case rel => exact ⟨j + 1, _, by omega, by go_num, Lib.hid (HP.out _ _), Lib.hid (HM2.out _), Lib.hid (HQ.out _ _), Lib.hid (HBn.out _ _)⟩
           case measure => simp [intOf]; omega
        · obtain rfl : j = n := by omega
          have HMj := Lib.hid hme.out
          have HR2 := Lib.hid hrow.out
          have HB2 := Lib.hid hbel.out
          clear hrow hme hcnt hbel HR1 HC1 HB1
          go_wp2
          go_loopw [11, 64] (fun s i wx => ∃ i' r m : Nat, i' ≤ k ∧ i = .int .i64 i' ∧ s = .float .f32 r ∧ wx = wr.drewN m ∧ Hid (cn .f32 r = sumT (fdT zs j) i')) (fun _ i _ => k - (intOf i).toNat)
          case atStart => exact ⟨0, 0, 0, Nat.zero_le _, rfl, rfl, rfl, Lib.hid cn_zero⟩
          case round =>
            obtain ⟨i', r, m, hi', rfl, rfl, rfl, hr⟩ := hrel
            by_cases hlt : i' < k
            · obtain ⟨b, off, rfl, hb, hc⟩ := H.out.at (by omega)
              have hck := hc i' hlt
              rw [← HB2.out.cell (p := ⟨b, off + i', none⟩) hb] at hck
              obtain ⟨q, hq⟩ : ∃ q, i' % j = q := ⟨_, rfl⟩
              have hqn : q < j := by rw [← hq]; exact Nat.mod_lt _ hn
              have hqz : (i' : Int) % (j : Int) = (q : Int) := by rw [← hq]; exact (Int.natCast_emod i' j).symm
              have hqt : (i' : Int).tmod (j : Int) = (q : Int) := by rw [Int.tmod_eq_emod_of_nonneg (by omega)]; exact hqz
              have p1 : (0 : Int) ≤ (i' : Int) := by omega
              have p2 : (0 : Int) ≤ (q : Int) := by omega
              have l2 : (q : Int) < (j : Int) := by omega
              have hsc := HR2.out.cell hqn
              have HSt := Lib.hid (show ∀ z x, zs.getD i' 0 = z → f q = x → ∀ w1 w2 w3, cn .f32 (fopR .add .f32 r (fopR .mul .f32 (fopR .sub .f32 z x w1) (fopR .sub .f32 z x w1) w2) w3) = sumT (fdT zs j) (i' + 1) from fun z x hz hx w1 w2 w3 => by
                have hmx := HMj.out q hqn
                rw [if_pos hqn, hx] at hmx
                rw [cn_fopR, cn_fopR, cn_fopR, hr.out, hmx, ← hz]
                show _ = aop .add .f32 _ (fdT zs j i')
                unfold fdT
                rw [hq, show (meansZ zs j j).getD q 0 = mean32 (colZ zs j q) from tells_at (fun p => mean32 (colZ zs j p)) hqn])
              generalize hz : zs.getD i' 0 = z at hck
              generalize hx : f q = x at hsc
              have HS2 := Lib.hid (HSt.out z x hz hx)
              clear hc hb hz hx hq hr HSt
              go_wp2
              go_region
              all_goals
               go_wp2
               go_roundw
               case rel => exact ⟨i' + 1, _, _, by omega, by go_num, rfl, rfl, Lib.hid (HS2.out _ _ _)⟩
               case measure => simp [intOf]; omega
            · obtain rfl : i' = k := by omega
              have HSs := Lib.hid (show cn .f32 r = fdS zs j from by rw [hr.out]; unfold fdS; rw [HL.out])
              clear hr
              go_wp2
              go_ret2
              exact ⟨f, r, rfl, HR2.out, HMj.out, HSs.out, below_drewN HB2.out m⟩
end Go.Proofs.Ytallegmkkbmelaa
