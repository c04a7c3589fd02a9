/-
  'finitePlaces' of the program, over any closure.
-/
import Derived.Test.YtopgegciejmhaaaCLst
import Derived.Test.YtopgegciejmhaaaVcp
namespace Go.Proofs.Ytopgegciejmhaaa
open Ieee Go.RowKit
set_option linter.unusedVariables false

/-- The words rs stand at the head of block g, which holds n floats' cells. -/
def Head (T : TypeId) (g n : Nat) (rs : List Nat) (w : World) : Prop := ∃ cur : Array Value, w.heap[g]? = some (.cells cur T (0, 0)) ∧ cur.size = n ∧ cur.toList.take rs.length = rs.map (Value.float .f32)
section
variable {T : TypeId} {g n : Nat} {rs : List Nat} {w w' : World}
theorem Head.start (h : n ≤ 9223372036854775807) : Head T w.heap.size n [] (w.alloc (.cells (madeCells (Value.float .f32 0).cells n) T)) :=
  ⟨_, heap_alloc_new w _, by rw [size_madeCells], rfl⟩
theorem Head.lt (h : Head T g n rs w) : g < w.heap.size := by
  obtain ⟨cur, h, _⟩ := h
  rcases Nat.lt_or_ge g w.heap.size with hlt | hge
  · exact hlt
  · rw [Array.getElem?_eq_none hge] at h; cases h
theorem Head.drewN (h : Head T g n rs w) (k : Nat) : Head T g n rs (w.drewN k) := h
theorem Head.same (h : Head T g n rs w) (hb : w'.heap[g]? = w.heap[g]?) : Head T g n rs w' := by
  obtain ⟨cur, h1, h2, h3⟩ := h
  exact ⟨cur, hb.trans h1, h2, h3⟩
theorem Head.cell (h : Head T g n rs w) {j : Nat} (hj : j < n) : (∃ v, w.cell? ⟨g, j, none⟩ = some v) ∧ w.frozen? ⟨g, j, none⟩ = false := by
  obtain ⟨cur, h1, h2, _⟩ := h
  refine ⟨⟨cur[j]'(by omega), ?_⟩, by simp [World.frozen?, h1]⟩
  rw [cell_of_row w g j cur T (0, 0) h1]
  exact Array.getElem?_eq_getElem (by omega)
theorem Head.push (h : Head T g n rs w) (hk : rs.length < n) (r : Nat) : Head T g n (rs ++ [r]) (w.setCell ⟨g, rs.length, none⟩ (.float .f32 r)) := by
  obtain ⟨cur, h1, h2, h3⟩ := h
  refine ⟨cur.setIfInBounds rs.length (.float .f32 r), ?_, by simpa using h2, ?_⟩
  · simp [World.setCell, Array.getElem?_modify, h1]
  · rw [List.length_append, List.map_append, ← h3]
    simp only [List.length_cons, List.length_nil, Nat.zero_add, List.map_cons, List.map_nil, Array.toList_setIfInBounds]
    rw [List.take_succ_eq_append_getElem (by simpa using (by omega : rs.length < cur.size))]
    simp [List.take_set_of_le]
theorem Head.own (h : Head T g n rs w) (hr : rs.length = n) (hB : g ≤ g) (hn : n ≤ maxLen) : FOwn T g w (.slice (some ⟨g, 0, none⟩) n n) rs := by
  obtain ⟨cur, h1, h2, h3⟩ := h
  unfold FOwn
  rw [hr]
  refine ⟨by simp [hr], .inr ⟨g, n, cur, rfl, Nat.le_refl _, h1, Nat.le_refl _, hn, by omega, ?_⟩⟩
  rw [Nat.mul_one, ← hr]; exact h3
end
theorem FOwn.mono {T : TypeId} {B B' : Nat} {w : World} {v : Value} {rs : List Nat} (h : FOwn T B w v rs) (hB : B' ≤ B) : FOwn T B' w v rs := by
  refine ⟨h.1, ?_⟩
  rcases h.2 with h2 | ⟨g, cap, cur, rfl, hb, h2⟩
  · exact .inl h2
  · exact .inr ⟨g, cap, cur, rfl, Nat.le_trans hB hb, h2⟩
/-- What the places tell. -/
def tells (tell : Nat → Nat) (n : Nat) : List Nat := (List.range n).map tell
theorem tells_len (tell : Nat → Nat) (n : Nat) : (tells tell n).length = n := by simp [tells]
theorem tells_succ (tell : Nat → Nat) (n : Nat) : tells tell (n + 1) = tells tell n ++ [tell n] := by
  unfold tells; rw [List.range_succ, List.map_append]; rfl
theorem tells_at (tell : Nat → Nat) {n k : Nat} (h : k < n) : (tells tell n).getD k 0 = tell k := by simp [tells, List.getD, h]
theorem tells_bad {tell : Nat → Nat} {n k : Nat} (h : k < n) (hb : fin .f32 (tell k) = false) : fins (tells tell n) = false :=
  fins_bad (zs := tells tell n) (k := k) (by rw [tells_len]; exact h) (by rw [tells_at tell h]; exact hb)
theorem tells_more {tell : Nat → Nat} {k : Nat} (h : fins (tells tell k) = true) (hb : fin .f32 (tell k) = true) : fins (tells tell (k + 1)) = true := by
  rw [tells_succ]; unfold fins at *; rw [List.all_append, h]; simp [hb]
theorem tells_congr {t t' : Nat → Nat} {n : Nat} (h : ∀ k, k < n → t k = t' k) : tells t n = tells t' n := by
  unfold tells
  refine List.map_congr_left fun k hk => h k (by simpa using hk)

theorem enter_of {P : Program} {f : FuncId} {fn : Func} {c : Code} (hf : P.funcs[f]? = some fn) (hname : (fn.name == "runtime.NumGoroutine") = false) (hb : fn.body = some c) (args : Array Value) (w : World) :
    (callFunc f args).run P w = .ok (.enter f args) w := by
  have h1 : fn.name ≠ "runtime.NumGoroutine" := by simpa using hname
  simp [callFunc, hf, h1, hb]
/-- What a closure's call gives. -/
def Tells (tell : Nat → Nat) (I : Nat → World → Prop) (B0 B k : Nat) (wr : World) (e : Ending) (w' : World) : Prop :=
  ∃ r, e = .returned (.float .f32 r) ∧ cn .f32 r = tell k ∧ I (k + 1) w' ∧ Below B0 wr w' ∧ w'.heap[B]? = wr.heap[B]?
/-- What 'finitePlaces' gives. -/
def RetP (T : TypeId) (xs : List Nat) (B0 : Nat) (w : World) (e : Ending) (w' : World) : Prop :=
  ∃ v rs, e = .returned (.tuple #[v, .bool (fins xs)]) ∧ FOwn T w.heap.size w' v rs ∧ cnl rs = lstR xs ∧ Below B0 w w'

set_option maxRecDepth 100000 in
theorem places_any (K : FuncId) (caps : Array Value) (tell : Nat → Nat) (I : Nat → World → Prop) (B0 n : Nat) (w : World) (hen : ∀ args w, (callFunc K args).run Try.prog w = .ok (.enter K args) w) (hn : n ≤ 1048576) (hB : B0 ≤ w.heap.size)
    (h0 : I 0 w) (hI : ∀ k wr wr', I k wr → Below w.heap.size wr wr' → I k wr')
    (hcl : ∀ k wr, k < n → w.heap.size < wr.heap.size → I k wr → Calls Try.prog K (#[.int .i64 k] ++ caps) wr (Tells tell I B0 w.heap.size k wr)) :
    Calls Try.prog 62 #[.int .i64 n, .func (.func K) #[] caps] w (RetP 33 (tells tell n) B0 w) := by
  obtain ⟨i0, hi, hz0, hz1, hz2⟩ := info_parts Try.infoR
  have hmk := fun W => run_make_len (P := Try.prog) W 22 33 i0 (.float .f32 0) Try.underlying22 hi hz0 hz1 n (by rw [hz2]; omega) (by omega)
  clear hi hz0 hz1 hz2
  have HS := Lib.hid (Head.start (T := 33) (w := w) (n := n) (by omega))
  have HI0 := Lib.hid (hI 0 w _ h0 ((Below.refl w.heap.size w).alloc (Nat.le_refl _) (.cells (madeCells (Value.float .f32 0).cells n) 33)))
  have HI := Lib.hid hI
  have HC := Lib.hid hcl
  have HB := Lib.hid ((Below.refl B0 w).alloc hB (.cells (madeCells (Value.float .f32 0).cells n) 33))
  clear h0 hI hcl
  go_enter Try.func62, Try.ntmps62
  go_wp2
  clear hmk
  go_loopw [7, 12] (fun p i wr => ∃ (k : Nat) (rs : List Nat), k ≤ n ∧ i = .int .i64 k ∧ Hid (rs.length = k) ∧ Hid (Head 33 w.heap.size n rs wr) ∧ Hid (cnl rs = tells tell k) ∧ Hid (fins (tells tell k) = true) ∧ Hid (I k wr) ∧ Hid (Below B0 w wr) ∧ w.heap.size < wr.heap.size) (fun _ i _ => n - (intOf i).toNat)
  case atStart => exact ⟨0, [], Nat.zero_le _, rfl, Lib.hid rfl, HS, Lib.hid rfl, Lib.hid rfl, HI0, HB, by simp⟩
  case round =>
    rename_i wr
    obtain ⟨k, rs, hk, rfl, hrl, hhead, hrs, hfin, hi, hbel, hsz⟩ := hrel
    by_cases hlt : k < n
    · have hhB := Lib.hid (hhead.out.cell hlt)
      go_wp2_with fail
      refine (HC.out k _ hlt hsz hi.out).mono ?_
      rintro e w1 ⟨r, rfl, hr, hi1, hb1, hB1⟩
      have hhd1 := hhead.out.same hB1
      obtain ⟨⟨u, hcell⟩, hfz⟩ := hhd1.cell hlt
      have HP := Lib.hid (hhd1.push (by rw [hrl.out]; exact hlt) r)
      rw [hrl.out] at HP
      have HI1 := Lib.hid (HI.out _ _ _ hi1 ((Below.refl w.heap.size w1).setCell (p := ⟨w.heap.size, k, none⟩) (Nat.le_refl _) (.float .f32 r)))
      have HB1 := Lib.hid ((hbel.out.trans hb1).setCell (p := ⟨w.heap.size, k, none⟩) hB (.float .f32 r))
      have HSz := Lib.hid (show w.heap.size < w1.heap.size from hhd1.lt)
      have HRc := Lib.hid (show cnl (rs ++ [r]) = tells tell (k + 1) by rw [tells_succ]; exact cnl_snoc hrs.out hr)
      have HFr := Lib.hid (show fin .f32 r = fin .f32 (tell k) from fin_congr (hr.trans (by rw [← hr, cn_cn])))
      have HLn := Lib.hid (show (rs ++ [r]).length = k + 1 by rw [List.length_append, hrl.out]; rfl)
      clear hr hi1 hb1 hB1 hhd1 hi hbel hhead hrs hsz hrl hhB
      cases hf : fin .f32 (tell k)
      · have HF := Lib.hid (HFr.out.trans hf)
        have HE := Lib.hid (tells_bad (n := n) hlt hf)
        clear hf
        go_wp2_with (go_at_call 123; refine (isFinite_any _ _).mono ?_; rw [HF.out]; rintro e w' ⟨m, rfl, rfl⟩)
        go_ret2
        exact ⟨_, [], by rw [HE.out]; rfl, FOwn.nil .., by unfold lstR; rw [HE.out]; rfl, below_drewN HB1.out _⟩
      · have HF := Lib.hid (HFr.out.trans hf)
        have HM := Lib.hid (tells_more hfin.out hf)
        clear hf hfin
        go_wp2_with (go_at_call 123; refine (isFinite_any _ _).mono ?_; rw [HF.out]; rintro e w' ⟨m, rfl, rfl⟩)
        go_roundw
        case rel => exact ⟨k + 1, rs ++ [r], by omega, by go_num, HLn, Lib.hid (HP.out.drewN _), HRc, HM, Lib.hid (HI.out _ _ _ HI1.out (below_drewN (Below.refl _ _) _)), Lib.hid (below_drewN HB1.out _), by show w.heap.size < (World.setCell _ _ _).heap.size; simpa [World.setCell] using HSz.out⟩
        case measure => simp [intOf]; omega
    · obtain rfl : k = n := by omega
      have HE := Lib.hid hfin.out
      have HO := Lib.hid (hhead.out.own hrl.out (Nat.le_refl _) (by unfold maxLen; omega))
      have HC2 := Lib.hid (show cnl rs = lstR (tells tell k) by unfold lstR; rw [hfin.out]; exact hrs.out)
      clear hfin hhead hrs HC HI hi HI0 HS HB
      go_wp2
      go_ret2
      exact ⟨_, rs, by rw [HE.out]; rfl, HO.out, HC2.out, hbel.out⟩
end Go.Proofs.Ytopgegciejmhaaa
