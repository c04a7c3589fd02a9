/-
  PastSpreads, in both packages: the functions themselves.
-/
import Derived.Test.YtgddfhmddkhaeaaPsp
import Derived.Test.YtgddfhmddkhaeaaFnn
import Derived.Test.YtgddfhmddkhaeaaCis
namespace Go.Proofs.Ytgddfhmddkhaeaa
open Ieee Go.RowKit
set_option linter.unusedVariables false
theorem ps_lt {x : Nat} (h : fin .f32 x = true) : ((FloatKind.format .f32).order x 0 == some Ordering.lt) = !geB x := by
  have hn := order_fin h (y := 0) (by decide +kernel)
  unfold geB
  cases ho : (FloatKind.format .f32).order x 0 with
  | none => exact absurd ho hn
  | some o => cases o <;> rfl
def psB (ts : List Nat) (sp : Nat) (N : Int) : Bool := paTm ts && (leaB sp && decide (0 ≤ N ∧ N ≤ 32))
def psL (ts : List Nat) (sp : Nat) (N : Int) : List Nat := tells (psV ts sp) N.toNat
def psOk (ts : List Nat) (sp : Nat) (N : Int) : Bool := psB ts sp N && fins (psL ts sp N)
def psR (ts : List Nat) (sp : Nat) (N : Int) : List Nat := if psB ts sp N then lstR (psL ts sp N) else []
theorem ps_bad {ts : List Nat} {sp : Nat} {N : Int} (h : psB ts sp N = false) : psOk ts sp N = false ∧ psR ts sp N = [] := by unfold psOk psR; rw [h]; exact ⟨rfl, rfl⟩
theorem ps_good {ts : List Nat} {sp : Nat} {N : Int} (h : psB ts sp N = true) : psOk ts sp N = fins (psL ts sp N) ∧ psR ts sp N = lstR (psL ts sp N) := by unfold psOk psR; rw [h]; exact ⟨rfl, rfl⟩
theorem psR_len (ts : List Nat) (sp : Nat) (N : Int) : (psR ts sp N).length ≤ 1048576 := by
  unfold psR
  split
  · rename_i h
    unfold psB at h
    have h2 := of_decide_eq_true (Bool.and_eq_true_iff.1 (Bool.and_eq_true_iff.1 h).2).2
    unfold lstR
    split
    · unfold psL; rw [tells_len]; omega
    · simp
  · simp
set_option maxHeartbeats 2000000 in
set_option maxRecDepth 100000 in
theorem imPsp_any (a' : Option Addr) (n' cap' : Nat) (ts : List Nat) (sp : Nat) (N : Int) (w : World) (h' : FSl w a' n' ts) (hm' : n' ≤ 1048576) :
    Calls Try.prog 41 #[.slice a' n' cap', .float .f32 sp, .int .i64 N] w (RetOB 22 (psR ts sp N) (psOk ts sp N) w) := by
  have hmf : ∀ (fn : Fn) (first cap : Array Value) (w : World), (Instr.makeFunc fn first cap).run Try.prog w = .ok (.func fn first cap) w := fun _ _ _ _ => rfl
  have c1 := (Below.refl w.heap.size w).alloc (Nat.le_refl _) (.cells #[.slice a' n' cap'] 23)
  have c2 := c1.alloc (by simp) (.cells #[.float .f32 sp] 22)
  have G := Lib.hid c2
  have HT := Lib.hid ((BoxI.start (cap := cap') (t := 23) h').keep (B := w.heap.size + 1) (by omega) ((Below.refl _ _).alloc (by simp) (.cells #[.float .f32 sp] 22)))
  have hct := HT.out.1
  have hcm : ((w.alloc (.cells #[.slice a' n' cap'] 23)).alloc (.cells #[.float .f32 sp] 22)).cell? ⟨w.heap.size + 1, 0, none⟩ = some (.float .f32 sp) := by rw [World.cell?_alloc_at _ _ _ _ (by simp)]; rfl
  have H' := Lib.hid (FSl.below h' c2)
  have HL' := Lib.hid h'.1
  clear h' c1 c2
  cases ht : paTm ts
  · have HTm := Lib.hid ht
    have HB := Lib.hid (ps_bad (show psB ts sp N = false by unfold psB leaB; rw [ht]; rfl))
    clear ht
    go_enter Try.func41, Try.ntmps41
    go_wp2_with fail
    refine (imTerms_any _ _ _ ts _ H'.out hm').mono ?_
    rw [HTm.out]
    rintro e w' ⟨q0, rfl, rfl⟩
    go_wp2_with fail
    go_ret2
    exact fail_ob _ HB.out.1 HB.out.2 (below_drewN G.out _)
  have HTm := Lib.hid ht
  cases hf : fin .f32 sp
  · have HF := Lib.hid hf
    have HB := Lib.hid (ps_bad (show psB ts sp N = false by unfold psB leaB; rw [hf]; simp))
    clear ht hf
    go_enter Try.func41, Try.ntmps41
    go_wp2_with fail
    refine (imTerms_any _ _ _ ts _ H'.out hm').mono ?_
    rw [HTm.out]
    rintro e w' ⟨q0, rfl, rfl⟩
    go_wp2_with fail
    refine (isFinite_any _ _).mono ?_
    rw [HF.out]
    rintro e w' ⟨q1, rfl, rfl⟩
    go_wp2_with fail
    go_ret2
    exact fail_ob _ HB.out.1 HB.out.2 (below_drewN G.out _)
  have HF := Lib.hid hf
  cases hg : geB sp
  · have hlt : ((FloatKind.format .f32).order sp 0 == some Ordering.lt) = true := by rw [ps_lt hf, hg]; rfl
    have HB := Lib.hid (ps_bad (show psB ts sp N = false by unfold psB leaB; rw [hg]; simp))
    clear ht hf hg
    go_enter Try.func41, Try.ntmps41
    go_wp2_with fail
    refine (imTerms_any _ _ _ ts _ H'.out hm').mono ?_
    rw [HTm.out]
    rintro e w' ⟨q0, rfl, rfl⟩
    go_wp2_with fail
    refine (isFinite_any _ _).mono ?_
    rw [HF.out]
    rintro e w' ⟨q1, rfl, rfl⟩
    go_wp2_with fail
    go_ret2
    exact fail_ob _ HB.out.1 HB.out.2 (below_drewN G.out _)
  have hlt : ((FloatKind.format .f32).order sp 0 == some Ordering.lt) = false := by rw [ps_lt hf, hg]; rfl
  by_cases hN : 0 ≤ N ∧ N ≤ 32
  rotate_left
  · have HN := Lib.hid (decide_eq_false hN)
    have HB := Lib.hid (ps_bad (show psB ts sp N = false by unfold psB leaB; rw [HN.out]; simp))
    clear ht hf hg
    go_enter Try.func41, Try.ntmps41
    go_wp2_with fail
    refine (imTerms_any _ _ _ ts _ H'.out hm').mono ?_
    rw [HTm.out]
    rintro e w' ⟨q0, rfl, rfl⟩
    go_wp2_with fail
    refine (isFinite_any _ _).mono ?_
    rw [HF.out]
    rintro e w' ⟨q1, rfl, rfl⟩
    go_wp2_with fail
    refine (forth_any _ _).mono ?_
    rw [HN.out]
    rintro e w' ⟨rfl, rfl⟩
    go_wp2_with fail
    go_ret2
    exact fail_ob _ HB.out.1 HB.out.2 (below_drewN G.out _)
  have HN := Lib.hid (decide_eq_true hN)
  obtain ⟨N, rfl⟩ : ∃ q : Nat, N = q := ⟨N.toNat, by omega⟩
  have hN32 : N ≤ 32 := by omega
  have HB := Lib.hid (ps_good (show psB ts sp (N : Int) = true by unfold psB leaB; rw [ht, hf, hg, HN.out]; rfl))
  clear ht hf hg hN
  go_enter Try.func41, Try.ntmps41
  go_wp2_with fail
  refine (imTerms_any _ _ _ ts _ H'.out hm').mono ?_
  rw [HTm.out]
  rintro e w' ⟨q0, rfl, rfl⟩
  go_wp2_with fail
  refine (isFinite_any _ _).mono ?_
  rw [HF.out]
  rintro e w' ⟨q1, rfl, rfl⟩
  go_wp2_with fail
  refine (forth_any _ _).mono ?_
  rw [HN.out]
  rintro e w' ⟨rfl, rfl⟩
  have hsw : (((w.alloc (.cells #[.slice a' n' cap'] 23)).alloc (.cells #[.float .f32 sp] 22)).drewN (q0 + q1)).heap.size = w.heap.size + 1 + 1 := by show ((w.alloc (.cells #[.slice a' n' cap'] 23)).alloc (.cells #[.float .f32 sp] 22)).heap.size = _; simp
  have G3 := Lib.hid (below_drewN G.out (q0 + q1))
  have HT3 := Lib.hid (show BoxI w.heap.size a' n' cap' ts (((w.alloc (.cells #[.slice a' n' cap'] 23)).alloc (.cells #[.float .f32 sp] 22)).drewN (q0 + q1)) from HT.out)
  have hcm3 : (((w.alloc (.cells #[.slice a' n' cap'] 23)).alloc (.cells #[.float .f32 sp] 22)).drewN (q0 + q1)).cell? ⟨w.heap.size + 1, 0, none⟩ = some (.float .f32 sp) := hcm
  clear hct hcm HT H' G
  go_wp2_with fail
  generalize (((w.alloc (.cells #[.slice a' n' cap'] 23)).alloc (.cells #[.float .f32 sp] 22)).drewN (q0 + q1)) = W3 at *
  have al := (Below.refl W3.heap.size W3).alloc (Nat.le_refl _) (.cells #[.slice none 0 0] 23)
  have al2 := al.alloc (by simp) (.cells #[.float .f32 0] 22)
  have C1 := Lib.hid ((CIs.newAt W3 [.slice none 0 0] 23 (p := w.heap.size + 1 + 1) hsw.symm).alloc (.cells #[.float .f32 0] 22))
  have C2 := Lib.hid (CIs.newAt (W3.alloc (.cells #[.slice none 0 0] 23)) [.float .f32 0] 22 (p := w.heap.size + 1 + 1 + 1) (by rw [World.size_alloc, hsw]))
  have HT4 := Lib.hid (HT3.out.keep (B := w.heap.size + 1) (by omega) (al2.mono (by omega)))
  have hcm4 : ((W3.alloc (.cells #[.slice none 0 0] 23)).alloc (.cells #[.float .f32 0] 22)).cell? ⟨w.heap.size + 1, 0, none⟩ = some (.float .f32 sp) := by rw [al2.cell (p := ⟨w.heap.size + 1, 0, none⟩) (by show w.heap.size + 1 < _; omega)]; exact hcm3
  have G4 := Lib.hid (G3.out.trans (al2.mono (by omega)))
  have hsz4 : ((W3.alloc (.cells #[.slice none 0 0] 23)).alloc (.cells #[.float .f32 0] 22)).heap.size = w.heap.size + 1 + 1 + 1 + 1 := by rw [World.size_alloc, World.size_alloc, hsw]
  clear al al2 HT3 hcm3 G3
  try rw [hsw]
  generalize (W3.alloc (.cells #[.slice none 0 0] 23)).alloc (.cells #[.float .f32 0] 22) = W4 at *
  have HI0 := Lib.hid (show ∀ wr, Below W4.heap.size W4 wr → PsI 22 w.heap.size (w.heap.size + 1 + 1) (w.heap.size + 1 + 1 + 1) (w.heap.size + 1) W4.heap.size (w.heap.size + 1 + 1 + 1 + 1) a' n' cap' ts sp 0 wr from fun wr hb =>
    ⟨⟨.slice none 0 0, [], ((C1.out.below hb).2 0 (by simp)).1, ((C1.out.below hb).2 0 (by simp)).2, FOwn.nil _ _ _, rfl, by simp [Value.ownBlock]⟩, ⟨0, ((C2.out.below hb).2 0 (by simp)).1, ((C2.out.below hb).2 0 (by simp)).2, cn_zero⟩,
      HT4.out.keep (by omega) hb, by rw [hb.cell (p := ⟨w.heap.size + 1, 0, none⟩) (by show w.heap.size + 1 < _; omega)]; exact hcm4⟩)
  clear C1 C2 HT4 hcm4 hsw
  refine (places2_any 95 #[.pointer (some ⟨w.heap.size, 0, none⟩), .pointer (some ⟨w.heap.size + 1 + 1, 0, none⟩), .pointer (some ⟨w.heap.size + 1 + 1 + 1, 0, none⟩), .pointer (some ⟨w.heap.size + 1, 0, none⟩)] (psV ts sp) (PsI 22 w.heap.size (w.heap.size + 1 + 1) (w.heap.size + 1 + 1 + 1) (w.heap.size + 1) W4.heap.size (w.heap.size + 1 + 1 + 1 + 1) a' n' cap' ts sp) w.heap.size N W4 (enter_of Try.func95 (by kernel_rfl) rfl) (by omega) (by omega) HI0.out
    (fun k wr j v hs hI => hI.setG (by omega) (by omega) (by omega) (by omega) j v) (fun k wr q hI => hI.drewN q)
    (fun k wr hk hs hI => if h0 : k = 0 then ps1_zero _ _ _ _ _ _ _ _ _ _ _ _ _ _ hI (by omega) (by omega) (by omega) (by omega) (by omega) (by omega) (by omega) (by omega) (by omega) (by omega) (by omega) (by omega) (by omega) hs (by omega) hm' HL'.out h0 else ps1_pos _ _ _ _ _ _ _ _ _ _ _ _ _ _ hI (by omega) (by omega) (by omega) (by omega) (by omega) (by omega) (by omega) (by omega) (by omega) (by omega) (by omega) (by omega) (by omega) hs (by omega) hm' HL'.out (by omega))).mono ?_
  rintro e w5 ⟨v, rs, rfl, ho, hx, -, hb⟩
  have HX := Lib.hid (show cnl rs = psR ts sp (N : Int) by rw [hx, HB.out.2]; rfl)
  have HTT := Lib.hid (show fins (tells (psV ts sp) N) = psOk ts sp (N : Int) by rw [HB.out.1]; rfl)
  have HO := Lib.hid (ho.mono (show w.heap.size ≤ W4.heap.size by omega))
  have HBl := Lib.hid (G4.out.trans hb)
  rw [HTT.out]
  clear ho hx hb
  go_wp2
  go_ret2
  exact ⟨v, rs, rfl, HO.out, HX.out, HBl.out⟩
end Go.Proofs.Ytgddfhmddkhaeaa
