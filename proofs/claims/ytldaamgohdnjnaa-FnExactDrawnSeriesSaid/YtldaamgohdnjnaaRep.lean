/-
  slices.Repeat of a list of one number.
-/
import Derived.Test.YtldaamgohdnjnaaCLaw
import Derived.Test.YtldaamgohdnjnaaCPlc
import Derived.Test.YtldaamgohdnjnaaCAbs
import Derived.Laws.CopyOwn
namespace Go.Proofs.Ytldaamgohdnjnaa
open Ieee Go.RowKit
set_option linter.unusedVariables false
set_option linter.unusedSimpArgs false

theorem and_low (c : Nat) (hc : c < 4294967296) : bits .and .u64 (c : Int) 4294967295 = (c : Int) := by
  rw [show (4294967295 : Int) = ((4294967295 : Nat) : Int) from rfl, u64_and_nat c _ (by omega) (by omega)]
  rw [show (4294967295 : Nat) = 2 ^ 32 - 1 by decide, Nat.and_two_pow_sub_one_eq_mod, Nat.mod_eq_of_lt (by omega)]
set_option maxRecDepth 100000 in
theorem mul64_any (c : Nat) (hc : c ≤ 1048576) (w : World) :
    Calls Try.prog 163 #[.int .u64 1, .int .u64 (c : Nat)] w fun e w' => e = .returned (.tuple #[.int .u64 0, .int .u64 (c : Nat)]) ∧ w = w' := by
  have h1 : bits .and .u64 1 4294967295 = 1 := by decide +kernel
  have h0 : bits .and .u64 0 4294967295 = 0 := by decide +kernel
  have h2 := and_low c (by omega)
  have h3 : (c : Int) / 4294967296 = 0 := by omega
  have h4 : IntKind.u64.wrap (c : Int) = (c : Int) := by rw [IntKind.wrap]; simp [IntKind.bits, IntKind.signed]; omega
  have h5 : IntKind.u64.wrap 0 = 0 := by decide +kernel
  go_enter Try.func163, Try.ntmps163
  go_wp2
  (try simp only [Exit.inBlock, Exit.then])
  refine bodyPost_ret (results_tmp2 rfl _ _ _) rfl ⟨?_, rfl⟩
  simp [h1, h0, h2, h3, h4, h5]
set_option maxRecDepth 100000 in
theorem mul_any (c : Nat) (hc : c ≤ 1048576) (w : World) :
    Calls Try.prog 126 #[.int .u64 1, .int .u64 (c : Nat)] w fun e w' => e = .returned (.tuple #[.int .u64 0, .int .u64 (c : Nat)]) ∧ w = w' := by
  go_enter Try.func126, Try.ntmps126
  go_wp2_with (go_at_call 163; refine (mul64_any c hc _).mono ?_; rintro e w' ⟨rfl, rfl⟩)
  (try simp only [Exit.inBlock, Exit.then])
  refine bodyPost_ret (results_tmp2 rfl _ _ _) rfl ⟨?_, rfl⟩
  simp
/-- A row of the word v, k times, and zeros behind it. -/
def rowK (v c k : Nat) : List Value := List.replicate k (.float .f32 v) ++ List.replicate (c - k) (.float .f32 0)
theorem rowK_len {v c k : Nat} (h : k ≤ c) : (rowK v c k).length = c := by simp [rowK]; omega
theorem rowK_splice {v c k m : Nat} (h : k + m ≤ c) : splice (rowK v c k) k (List.replicate m (.float .f32 v)) = rowK v c (k + m) := by
  unfold splice rowK
  rw [List.take_append_of_le_length (by simp), List.take_of_length_le (by simp), List.length_replicate, List.drop_append, List.length_replicate, List.drop_of_length_le (by simp), List.nil_append, List.drop_replicate, ← List.append_assoc, List.replicate_append_replicate]
  congr 2
  omega
theorem rowK_full (v c : Nat) : rowK v c c = (List.replicate c v).map (Value.float .f32) := by unfold rowK; simp
theorem rowK_zero (v c : Nat) : (rowK v c 0).toArray = madeCells (Value.float .f32 0).cells c := by
  unfold rowK
  rw [List.replicate_zero, List.nil_append, Nat.sub_zero]
  apply Array.ext'
  rw [show (Value.float .f32 0).cells = #[Value.float .f32 0] from rfl, toList_madeCells_one]
theorem rowK_cell {v c k j : Nat} {g : Nat} {T : TypeId} {w : World} (h : w.heap[g]? = some (.cells (rowK v c k).toArray T (0, 0))) (hj : j < k) : w.cell? ⟨g, j, none⟩ = some (.float .f32 v) := by
  rw [cell_of_row w g j _ T (0, 0) h]
  simp [rowK, List.getElem?_append_left, hj]
theorem own_row {T : TypeId} {B g c v : Nat} {w : World} (hB : B ≤ g) (hc : c ≤ 1048576) (h : w.heap[g]? = some (.cells (rowK v c c).toArray T (0, 0))) : FOwn T B w (.slice (some ⟨g, 0, none⟩) c c) (List.replicate c v) := by
  unfold FOwn
  rw [List.length_replicate]
  refine ⟨by simp, .inr ⟨g, c, _, rfl, hB, h, Nat.le_refl _, by unfold maxLen; omega, by simp [rowK], ?_⟩⟩
  rw [Nat.mul_one, rowK_full, List.take_of_length_le (by simp)]
set_option maxHeartbeats 1000000 in
set_option maxRecDepth 100000 in
theorem repeat_any (b off cap v c : Nat) (w : World) (h : FSl w (some ⟨b, off, none⟩) 1 [v]) (hc : c ≤ 1048576) :
    Calls Try.prog 68 #[.slice (some ⟨b, off, none⟩) 1 cap, .int .i64 (c : Nat)] w fun e w' => ∃ v', e = .returned v' ∧ FOwn 32 w.heap.size w' v' (List.replicate c v) ∧ Below w.heap.size w w' := by
  obtain ⟨i0, hi, hz0, hz1, hz2⟩ := info_parts Try.infoR
  obtain ⟨b', off', e, hlt, hcl⟩ := h.at (by omega)
  injection e with e
  injection e with e1 e2
  subst e1 e2
  have hsrc := hcl 0 (by omega)
  rw [Nat.add_zero] at hsrc
  have hu := Try.underlying22
  have hsz : (Try.prog.info? 32).map (·.size) = some 1 := by rw [hi]; simp [hz1]
  have HU := Lib.hid hu
  have HSZ := Lib.hid hsz
  have hmk := fun W => run_make_len (P := Try.prog) W 22 32 i0 (.float .f32 0) Try.underlying22 hi hz0 hz1 c (by rw [hz2]; omega) (by omega)
  have h1 : IntKind.u64.wrap (c : Int) = (c : Int) := by rw [IntKind.wrap]; simp [IntKind.bits, IntKind.signed]; omega
  have HG := Lib.hid (show (w.alloc (.cells (madeCells (Value.float .f32 0).cells c) 32)).heap[w.heap.size]? = some (.cells (rowK v c 0).toArray 32 (0, 0)) from by rw [rowK_zero]; exact heap_alloc_new w _)
  have HB := Lib.hid ((Below.refl w.heap.size w).alloc (Nat.le_refl _) (.cells (madeCells (Value.float .f32 0).cells c) 32))
  have HS := Lib.hid (show (w.alloc (.cells (madeCells (Value.float .f32 0).cells c) 32)).cell? ⟨b, off, none⟩ = some (.float .f32 v) from by rw [World.cell?_alloc_old _ _ _ (Nat.ne_of_lt hlt)]; exact hsrc)
  clear h hcl hu hsz hi hz0 hz1 hz2 hsrc
  obtain ⟨m0, hm0⟩ : ∃ m0, min 1 c = m0 := ⟨_, rfl⟩
  have hm1 : m0 ≤ c ∧ m0 ≤ 1 ∧ (0 < c → 0 < m0) := by omega
  obtain ⟨cs, hcs⟩ : ∃ cs, cs = List.replicate m0 (Value.float .f32 v) := ⟨_, rfl⟩
  have HP := Lib.hid (show ∀ j u, cs[j]? = some u → (w.alloc (.cells (madeCells (Value.float .f32 0).cells c) 32)).cell? ((⟨b, off, none⟩ : Addr).add j) = some u from fun j u hj => by
    rw [hcs, List.getElem?_replicate] at hj
    split at hj
    · have : j = 0 := by omega
      subst this
      injection hj with hj
      subst hj
      exact HS.out
    · cases hj)
  have HN := Lib.hid (show cs.length = Nat.min 1 c by rw [hcs, List.length_replicate]; exact hm0.symm)
  have HF := Lib.hid (show 0 + cs.length ≤ (rowK v c 0).length by rw [hcs, List.length_replicate, rowK_len (Nat.zero_le _)]; omega)
  have H1 := Lib.hid (show ∀ u ∈ cs, u.oneCell' = true from fun u hu => by rw [hcs] at hu; rw [List.eq_of_mem_replicate hu]; rfl)
  have HR := Lib.hid (show splice (rowK v c 0) 0 cs = rowK v c m0 by rw [hcs, rowK_splice (by omega), Nat.zero_add])
  have HL := Lib.hid (show cs.length = m0 by rw [hcs, List.length_replicate])
  clear hcs HS
  go_enter Try.func68, Try.ntmps68
  go_wp2_with (first | (go_at_call 126; refine (mul_any c hc _).mono ?_; rintro e w' ⟨rfl, rfl⟩) | (refine wpList_copy_splice (o := ⟨some 33, _, _, _, _, _⟩) rfl (.tmp 31) (.tmp 32) 22 22 rfl 32 HU.out HSZ.out (some ⟨w.heap.size, 0, none⟩) (some ⟨b, off, none⟩) c c 1 cap rfl rfl w.heap.size 0 (rowK v c 0) 32 HG.out cs HN.out (fun _ => ⟨rfl, _, rfl, HP.out⟩) HF.out H1.out w.heap.size w HB.out (Nat.le_refl _) ?_; intro w2 HG2 hB2; rw [HR.out] at HG2; rw [HL.out]))
  clear hmk HG HB HP HN HF H1 HR HL
  go_loopw [8] (fun i wr => ∃ k, k ≤ c ∧ (0 < c → 0 < k) ∧ i = .int .i64 (k : Nat) ∧ Hid (wr.heap[w.heap.size]? = some (.cells (rowK v c k).toArray 32 (0, 0))) ∧ Hid (Below w.heap.size w wr)) (fun i _ => c - (intOf i).toNat)
  case atStart => exact ⟨m0, hm1.1, hm1.2.2, rfl, HG2, Lib.hid hB2⟩
  case round =>
    rename World => wr
    obtain ⟨k, hk, hpos, rfl, hg, hb⟩ := hrel
    by_cases hlt : k < c
    · have hk0 := hpos (by omega)
      obtain ⟨m, hm⟩ : ∃ m, Nat.min k (c - k) = m := ⟨_, rfl⟩
      have hm2 : m ≤ k ∧ k + m ≤ c ∧ 0 < m := by
        have : min k (c - k) = m := hm
        omega
      obtain ⟨cs, hcs⟩ : ∃ cs, cs = List.replicate m (Value.float .f32 v) := ⟨_, rfl⟩
      have HP := Lib.hid (show ∀ j u, cs[j]? = some u → wr.cell? ((⟨w.heap.size, 0, none⟩ : Addr).add j) = some u from fun j u hj => by
        rw [hcs, List.getElem?_replicate] at hj
        split at hj
        · injection hj with hj
          subst hj
          have := rowK_cell (j := j) hg.out (by omega)
          rw [show ((⟨w.heap.size, 0, none⟩ : Addr).add j) = ⟨w.heap.size, j, none⟩ by cases j <;> simp [Addr.add]]
          exact this
        · cases hj)
      have HN := Lib.hid (show cs.length = Nat.min k (c - k) by rw [hcs, List.length_replicate, hm])
      have HF := Lib.hid (show k + cs.length ≤ (rowK v c k).length by rw [hcs, List.length_replicate, rowK_len hk]; omega)
      have H1 := Lib.hid (show ∀ u ∈ cs, u.oneCell' = true from fun u hu => by rw [hcs] at hu; rw [List.eq_of_mem_replicate hu]; rfl)
      have HR := Lib.hid (show splice (rowK v c k) k cs = rowK v c (k + m) by rw [hcs, rowK_splice (by omega)])
      have HL := Lib.hid (show cs.length = m by rw [hcs, List.length_replicate])
      have hne : ¬ c = k := by omega
      have hw2 : IntKind.i64.wrap ((k : Int) + (m : Int)) = ((k + m : Nat) : Int) := by rw [IntKind.wrap]; simp [IntKind.bits, IntKind.signed]; omega
      clear hcs hm
      have hL := HL.out
      go_wp2_with fail
      go_region_law ((refine step_copy_splice (o := ⟨some 45, _, _, _, _, _⟩) rfl (.tmp 41) (.tmp 44) 22 22 rfl 32 HU.out HSZ.out (some ⟨w.heap.size, k, none⟩) (some ⟨w.heap.size, 0, none⟩) (c - k) (c - k) k c (by simp [Act.eval, Act.put, hne]) (by simp [Act.eval, Act.put]) w.heap.size k (rowK v c k) 32 hg.out cs HN.out (fun _ => ⟨rfl, _, rfl, HP.out⟩) HF.out H1.out w.heap.size w (by first | exact hb.out | exact below_drewN hb.out 1) (Nat.le_refl _) ?_; intro w2 HG3 hB3; rw [HR.out] at HG3; replace hB3 := Lib.hid hB3))
      all_goals
        simp only [List.getElem_toArray, List.getElem_cons_succ, List.getElem_cons_zero, Act.put]
        go_simp
        go_wp2
        go_roundw
        case rel => exact ⟨k + m, by omega, by omega, by go_num, HG3, hB3⟩
        case measure => simp [intOf]; omega
    · obtain rfl : k = c := by omega
      have HO := Lib.hid (own_row (B := w.heap.size) (Nat.le_refl _) hc hg.out)
      go_wp2
      go_ret
      exact ⟨_, rfl, HO.out, hb.out⟩
end Go.Proofs.Ytldaamgohdnjnaa
