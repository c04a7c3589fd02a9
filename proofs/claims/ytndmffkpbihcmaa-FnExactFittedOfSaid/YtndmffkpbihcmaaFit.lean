/-
  FittedOf, in both packages.
-/
import Derived.Test.YtndmffkpbihcmaaWys
import Derived.Test.YtndmffkpbihcmaaCSmd
import Derived.Test.YtndmffkpbihcmaaCLaw
import Derived.Test.YtndmffkpbihcmaaCGiv
namespace Go.Proofs.Ytndmffkpbihcmaa
open Ieee Go.RowKit
set_option linter.unusedVariables false
def colsZ (Z : List (List Nat)) : Bool := decide (1 ≤ Z.length ∧ Z.length ≤ 6) && allZ Z
theorem colsZ_t {Z : List (List Nat)} (h : colsZ Z = true) : 1 ≤ Z.length ∧ Z.length ≤ 6 ∧ ∀ i, i < Z.length → serB (Z.getD i []) = true ∧ (Z.getD i []).length = (Z.getD 0 []).length := by
  unfold colsZ at h
  have h1 := of_decide_eq_true (Bool.and_eq_true _ _ ▸ h).1
  have h2 := (Bool.and_eq_true _ _ ▸ h).2
  refine ⟨h1.1, h1.2, fun i hi => ?_⟩
  have := List.all_eq_true.1 h2 (Z.getD i []) (by simp [List.getD, hi])
  exact ⟨(Bool.and_eq_true _ _ ▸ this).1, of_decide_eq_true (Bool.and_eq_true _ _ ▸ this).2⟩
theorem imCols_any (a : Option Addr) (n cap : Nat) (L : List FRw) (w : World) (h : RSl w a n L) (hn : n ≤ 1048576) :
    Calls Try.prog 42 #[.slice a n cap] w (RetV (.bool (colsZ (zz L))) w) := by
  have H := Lib.hid h
  have HL := Lib.hid (show (zz L).length = n by rw [zz_len]; exact h.1.1)
  clear h
  by_cases h1 : 1 ≤ n
  · have hd1 : decide ((1 : Int) ≤ (n : Int)) = true := decide_eq_true (by omega)
    by_cases h2 : n ≤ 6
    · have hd2 : decide ((n : Int) ≤ 6) = true := decide_eq_true (by omega)
      have HB := Lib.hid (show colsZ (zz L) = areB L by unfold colsZ; rw [HL.out, decide_eq_true ⟨h1, h2⟩, are_zz]; rfl)
      go_enter Try.func42, Try.ntmps42
      go_wp2_with fail
      refine (implAre_any _ _ _ _ _ H.out hn).mono ?_
      rintro e w' ⟨m, rfl, rfl⟩
      go_wp2_with fail
      go_ret
      exact ⟨m, by rw [HB.out]; rfl, rfl⟩
    · have hd2 : decide ((n : Int) ≤ 6) = false := decide_eq_false (by omega)
      have HB := Lib.hid (show colsZ (zz L) = false by unfold colsZ; rw [HL.out, decide_eq_false (fun h => h2 h.2)]; rfl)
      go_enter Try.func42, Try.ntmps42
      go_wp2_with fail
      go_ret
      exact ⟨0, by rw [HB.out]; rfl, rfl⟩
  · have hd1 : decide ((1 : Int) ≤ (n : Int)) = false := decide_eq_false (by omega)
    have HB := Lib.hid (show colsZ (zz L) = false by unfold colsZ; rw [HL.out, decide_eq_false (fun h => h1 h.1)]; rfl)
    go_enter Try.func42, Try.ntmps42
    go_wp2_with fail
    go_ret
    exact ⟨0, by rw [HB.out]; rfl, rfl⟩
/-- One column is as long as the first. -/
def clZ (Z : List (List Nat)) (i : Nat) : Bool := serB (Z.getD i []) && decide ((Z.getD i []).length = (Z.getD 0 []).length)
theorem all_cl {Z : List (List Nat)} (h : ∀ i, i < Z.length → clZ Z i = true) : allZ Z = true := by
  unfold allZ
  rw [List.all_eq_true]
  intro z hz
  obtain ⟨j, hj, rfl⟩ := List.getElem_of_mem hz
  have h1 := h j hj
  unfold clZ at h1
  have e : Z.getD j [] = Z[j] := by simp [List.getD, hj]
  rw [e] at h1
  exact h1
theorem not_cl {Z : List (List Nat)} {k : Nat} (hk : k < Z.length) (h : clZ Z k = false) : allZ Z = false := by
  refine Bool.eq_false_iff.2 fun ha => ?_
  unfold allZ at ha
  rw [List.all_eq_true] at ha
  have g1 := ha (Z.getD k []) (by simp [List.getD, hk])
  unfold clZ at h
  rw [g1] at h
  cases h
set_option maxHeartbeats 2000000 in
set_option maxRecDepth 100000 in
theorem spCols_any (a : Option Addr) (n cap : Nat) (L : List FRw) (w : World) (h : RSl w a n L) (hn : n ≤ 1048576) :
    Calls Try.prog 38 #[.slice a n cap] w (RetV (.bool (colsZ (zz L))) w) := by
  have H := Lib.hid h
  have HL := Lib.hid (show (zz L).length = n by rw [zz_len]; exact h.1.1)
  clear h
  by_cases h1 : 1 ≤ n
  · have hd1 : decide ((n : Int) < 1) = false := decide_eq_false (by omega)
    by_cases h2 : n ≤ 6
    · have hd2 : decide ((6 : Int) < (n : Int)) = false := decide_eq_false (by omega)
      have HB := Lib.hid (show colsZ (zz L) = allZ (zz L) by unfold colsZ; rw [HL.out, decide_eq_true ⟨h1, h2⟩]; rfl)
      go_enter Try.func38, Try.ntmps38
      go_wp2
      go_loopw [14] (fun i wr => ∃ k m : Nat, k ≤ n ∧ i = .int .i64 k ∧ wr = w.drewN m ∧ Hid (∀ j, j < k → clZ (zz L) j = true)) (fun i _ => n - (intOf i).toNat)
      case atStart => exact ⟨0, 0, Nat.zero_le _, rfl, rfl, Lib.hid (fun j hj => by omega)⟩
      case round =>
        obtain ⟨k, m, hk, rfl, rfl, hp⟩ := hrel
        by_cases hlt : k < n
        · obtain ⟨b, off, rfl, _, hc⟩ := H.out.1.at (by omega)
          have hck := hc k hlt
          have hc0 := hc 0 (by omega)
          rw [Nat.add_zero] at hc0
          obtain ⟨hF, hFm⟩ := H.out.2 k hlt
          obtain ⟨hF0, hFm0⟩ := H.out.2 0 (by omega)
          have hpk : clZ (zz L) k = (serB (L.getD k FRw.none).zs && decide ((L.getD k FRw.none).len = (L.getD 0 FRw.none).len)) := by unfold clZ; rw [zz_at, zz_at, hF.1, hF0.1]
          unfold FRw.val at hck hc0
          generalize L.getD k FRw.none = r at *
          generalize L.getD 0 FRw.none = r0 at *
          obtain ⟨ra, rl, rc, rz⟩ := r
          obtain ⟨sa, sl, sc, sz⟩ := r0
          simp only at hck hc0 hFm hFm0 hF hF0 hpk
          have HE := Lib.hid (fun W m' (hW : W = w.drewN m') => show Calls Try.prog 48 #[.slice ra rl rc] W (RetV (.bool (serB rz)) W) from by
            subst hW
            exact specSeries_any _ _ _ _ _ (FSl.drewN hF m') hFm)
          have HN := Lib.hid (show clZ (zz L) k = true → ∀ j, j < k + 1 → clZ (zz L) j = true from fun hq j hj => by
              rcases Nat.lt_or_ge j k with g | g
              · exact hp.out j g
              · obtain rfl : j = k := by omega
                exact hq)
          have HF := Lib.hid (fun hq : clZ (zz L) k = false => HB.out.trans (not_cl (k := k) (by rw [HL.out]; exact hlt) hq))
          clear hc hF hF0 hp
          cases hq : serB rz
          · have HFf := Lib.hid (HF.out (by rw [hpk, hq]; rfl))
            rw [hq] at HE
            clear hq hpk HN HF
            go_wp2
            go_quiet ((go_at_call 48; exact quiet_add_V (HE.out _ _ rfl)))
            go_wp2
            go_ret
            exact ⟨_, by rw [HFf.out]; rfl, (World.drewN_drewN ..).symm⟩
          · rw [hq] at HE
            by_cases hrl : rl = sl
            · subst hrl
              have HNn := Lib.hid (HN.out (by rw [hpk, hq, decide_eq_true rfl]; rfl))
              clear hq hpk HN HF
              go_wp2
              go_quiet ((go_at_call 48; exact quiet_add_V (HE.out _ _ rfl)))
              go_wp2
              go_roundw
              case rel => exact ⟨k + 1, _, by omega, by go_num, rfl, HNn⟩
              case measure => simp [intOf]; omega
            · have hne : ((rl : Int) != (sl : Int)) = true := by rw [bne_iff_ne]; omega
              have HFf := Lib.hid (HF.out (by rw [hpk, hq, decide_eq_false hrl]; rfl))
              clear hq hpk HN HF
              go_wp2
              go_quiet ((go_at_call 48; exact quiet_add_V (HE.out _ _ rfl)))
              go_wp2
              go_ret
              exact ⟨_, by rw [HFf.out]; rfl, (World.drewN_drewN ..).symm⟩
        · have HF := Lib.hid (HB.out.trans (all_cl (fun i hi => hp.out i (by rw [HL.out] at hi; omega))))
          clear hp H
          go_wp2
          go_ret
          exact ⟨m, by rw [HF.out]; rfl, rfl⟩
    · have hd2 : decide ((6 : Int) < (n : Int)) = true := decide_eq_true (by omega)
      have HB := Lib.hid (show colsZ (zz L) = false by unfold colsZ; rw [HL.out, decide_eq_false (fun h => h2 h.2)]; rfl)
      go_enter Try.func38, Try.ntmps38
      go_wp2_with fail
      go_ret
      exact ⟨0, by rw [HB.out]; rfl, rfl⟩
  · have hd1 : decide ((n : Int) < 1) = true := decide_eq_true (by omega)
    have HB := Lib.hid (show colsZ (zz L) = false by unfold colsZ; rw [HL.out, decide_eq_false (fun h => h1 h.1)]; rfl)
    go_enter Try.func38, Try.ntmps38
    go_wp2_with fail
    go_ret
    exact ⟨0, by rw [HB.out]; rfl, rfl⟩
def ftB (Z : List (List Nat)) (ws : List Nat) : Bool := colsZ Z && (decide (ws.length = Z.length) && fins ws)
def ftT1 (Z : List (List Nat)) (ws : List Nat) (j i : Nat) : Nat := aop .mul .f32 (cn .f32 ((Z.getD i []).getD j 0)) (cn .f32 (ws.getD i 0))
def ftT (Z : List (List Nat)) (ws : List Nat) (j : Nat) : Nat := sumT (ftT1 Z ws j) Z.length
def ftL (Z : List (List Nat)) (ws : List Nat) : List Nat := tells (ftT Z ws) (Z.getD 0 []).length
def ftOk (Z : List (List Nat)) (ws : List Nat) : Bool := ftB Z ws && fins (ftL Z ws)
def ftR (Z : List (List Nat)) (ws : List Nat) : List Nat := if ftB Z ws then lstR (ftL Z ws) else []
theorem ft_bad {Z : List (List Nat)} {ws : List Nat} (h : ftB Z ws = false) : ftOk Z ws = false ∧ ftR Z ws = [] := by unfold ftOk ftR; rw [h]; exact ⟨rfl, rfl⟩
theorem ft_good {Z : List (List Nat)} {ws : List Nat} (h : ftB Z ws = true) : ftOk Z ws = fins (ftL Z ws) ∧ ftR Z ws = lstR (ftL Z ws) := by unfold ftOk ftR; rw [h]; exact ⟨rfl, rfl⟩
theorem ftB_t {Z : List (List Nat)} {ws : List Nat} (h : ftB Z ws = true) : colsZ Z = true ∧ ws.length = Z.length ∧ fins ws = true := by
  unfold ftB at h
  obtain ⟨h1, h2⟩ := Bool.and_eq_true_iff.1 h
  obtain ⟨h3, h4⟩ := Bool.and_eq_true_iff.1 h2
  exact ⟨h1, of_decide_eq_true h3, h4⟩
theorem ftR_len (Z : List (List Nat)) (ws : List Nat) : (ftR Z ws).length ≤ 1048576 := by
  unfold ftR
  split
  · rename_i h
    obtain ⟨h1, _, _⟩ := ftB_t h
    obtain ⟨g1, _, g3⟩ := colsZ_t h1
    have := (serB_t (g3 0 (by omega)).1).2.1
    unfold lstR
    split
    · unfold ftL; rw [tells_len]; omega
    · simp
  · simp
theorem ftT_cn (Z : List (List Nat)) (ws : List Nat) (j : Nat) : cn .f32 (ftT Z ws j) = ftT Z ws j := sumT_cn ..
/-- What the inner closure reads. -/
def FtI1 (bw bl bp : Nat) (a' : Option Addr) (n' cap' : Nat) (ws : List Nat) (a : Option Addr) (n cap : Nat) (L : List FRw) (j : Nat) (_k : Nat) (wr : World) : Prop :=
  BoxI bw a' n' cap' ws wr ∧ BoxR bl a n cap L wr ∧ wr.cell? ⟨bp, 0, none⟩ = some (.int .i64 j)
theorem ft11_any (bw bl bp B0 k j : Nat) (a' : Option Addr) (n' cap' : Nat) (ws : List Nat) (a : Option Addr) (n cap : Nat) (L : List FRw) (wr : World) (h : FtI1 bw bl bp a' n' cap' ws a n cap L j k wr) (hk : k < n) (hk' : k < n') (hj : j < (L.getD k FRw.none).len) (hm : n ≤ 96) (hm' : n' ≤ 96) (hml : (L.getD k FRw.none).len ≤ 96) :
    Calls Try.prog 47 #[.int .i64 k, .pointer (some ⟨bl, 0, none⟩), .pointer (some ⟨bp, 0, none⟩), .pointer (some ⟨bw, 0, none⟩)] wr (Adds (ftT1 (zz L) ws j) (FtI1 bw bl bp a' n' cap' ws a n cap L j) B0 k wr) := by
  have HI := Lib.hid h
  obtain ⟨⟨hc, hb⟩, ⟨hr, hrb⟩, hp⟩ := h
  obtain ⟨b', off', rfl, _, hcs⟩ := hb (by omega)
  obtain ⟨b, off, rfl, _, hrs⟩ := hrb (by omega)
  have hck := hcs k hk'
  obtain ⟨hrk, hin⟩ := hrs k hk
  obtain ⟨c, o, he, _, hcc⟩ := hin (by omega)
  have hz := hcc j hj
  have HT := Lib.hid (show ∀ w, cn .f32 (fopR .mul .f32 ((L.getD k FRw.none).zs.getD j 0) (ws.getD k 0) w) = ftT1 (zz L) ws j k from fun w => by rw [cn_fopR, ← zz_at]; rfl)
  unfold FRw.val at hrk
  generalize L.getD k FRw.none = r at *
  obtain ⟨ra, rl, rc, rz⟩ := r
  simp only at hrk hz he hj hml HT
  subst he
  clear hb hrb hcs hrs hin hcc
  generalize ws.getD k 0 = x at *
  generalize rz.getD j 0 = z at *
  go_enter Try.func47, Try.ntmps47
  go_wp2
  go_region
  all_goals
    go_wp2
    go_ret
    exact Adds.quiet (HT.out _) HI.out
/-- What the outer closure reads. -/
def FtI (bw bl : Nat) (a' : Option Addr) (n' cap' : Nat) (ws : List Nat) (a : Option Addr) (n cap : Nat) (L : List FRw) (_k : Nat) (wr : World) : Prop :=
  BoxI bw a' n' cap' ws wr ∧ BoxR bl a n cap L wr
set_option maxHeartbeats 1000000 in
set_option maxRecDepth 100000 in
theorem ft1_any (bw bl B0 B j : Nat) (a' : Option Addr) (n' cap' : Nat) (ws : List Nat) (a : Option Addr) (n cap : Nat) (L : List FRw) (wr : World) (h : FtI bw bl a' n' cap' ws a n cap L j wr) (hB0 : B0 ≤ wr.heap.size) (hB : B < wr.heap.size) (hbw : bw < wr.heap.size) (hbl : bl < wr.heap.size) (hnn : n' = n) (hL : L.length = n) (hj : ∀ k, k < n → j < (L.getD k FRw.none).len ∧ (L.getD k FRw.none).len ≤ 96) (hm : n ≤ 96) (hj96 : j < 96) :
    Calls Try.prog 45 #[.int .i64 j, .pointer (some ⟨bw, 0, none⟩), .pointer (some ⟨bl, 0, none⟩)] wr (Tells (ftT (zz L) ws) (FtI bw bl a' n' cap' ws a n cap L) B0 B j wr) := by
  have hmf : ∀ (fn : Fn) (first cap : Array Value) (w : World), (Instr.makeFunc fn first cap).run Try.prog w = .ok (.func fn first cap) w := fun _ _ _ _ => rfl
  have hba := (Below.refl wr.heap.size wr).alloc (Nat.le_refl _) (.cells #[.int .i64 j] 3)
  have G := Lib.hid hba
  have HI := Lib.hid (show FtI1 bw bl wr.heap.size a' n' cap' ws a n cap L j 0 (wr.alloc (.cells #[.int .i64 j] 3)) from
    ⟨h.1.keep hbw hba, h.2.keep hbl hba, by rw [World.cell?_alloc_at _ _ _ _ rfl]; rfl⟩)
  have hl0 := HI.out.1.1
  have HJ := Lib.hid hj
  have HZ := Lib.hid (show (zz L).length = n by rw [zz_len]; exact hL)
  clear h hba hj
  subst hnn
  go_enter Try.func45, Try.ntmps45
  go_wp2_with fail
  refine (summed_any 47 #[.pointer (some ⟨bl, 0, none⟩), .pointer (some ⟨wr.heap.size, 0, none⟩), .pointer (some ⟨bw, 0, none⟩)] (ftT1 (zz L) ws j) (FtI1 bw bl wr.heap.size a' n' cap' ws a n' cap L j) wr.heap.size n' _ (enter_of Try.func47 (by kernel_rfl) rfl) (by omega) (by simp) HI.out (fun k m w' h => h) (fun k w' hk hsz hI => ft11_any _ _ _ _ _ _ _ _ _ _ _ _ _ _ _ hI hk hk (HJ.out k hk).1 hm hm (HJ.out k hk).2)).mono ?_
  rintro e w2 ⟨r, rfl, hr, hi, hb⟩
  have HR := Lib.hid (show cn .f32 r = ftT (zz L) ws j by rw [hr]; unfold ftT; rw [HZ.out])
  have HB := Lib.hid (G.out.trans hb)
  have HI2 := Lib.hid (show FtI bw bl a' n' cap' ws a n' cap L (j + 1) w2 from ⟨hi.1, hi.2.1⟩)
  clear hr hi hb
  go_wp2
  go_ret
  exact ⟨r, rfl, HR.out, HI2.out, HB.out.mono hB0, HB.out.block B hB⟩
set_option maxHeartbeats 2000000 in
set_option maxRecDepth 100000 in
theorem imFitt_any (a : Option Addr) (n cap : Nat) (L : List FRw) (a' : Option Addr) (n' cap' : Nat) (ws : List Nat) (w : World) (h : RSl w a n L) (h' : FSl w a' n' ws) (hn : n ≤ 1048576) (hn' : n' ≤ 1048576) :
    Calls Try.prog 15 #[.slice a n cap, .slice a' n' cap'] w (RetOB 33 (ftR (zz L) ws) (ftOk (zz L) ws) w) := by
  have hmf : ∀ (fn : Fn) (first cap : Array Value) (w : World), (Instr.makeFunc fn first cap).run Try.prog w = .ok (.func fn first cap) w := fun _ _ _ _ => rfl
  have b1 := (Below.refl w.heap.size w).alloc (Nat.le_refl _) (.cells #[.slice a n cap] 22)
  have b2 := b1.alloc (by simp) (.cells #[.slice a' n' cap'] 23)
  have X1 := BoxR.start (cap := cap) (t := 22) h
  have X2 : BoxI (w.heap.size + 1) a' n' cap' ws ((w.alloc (.cells #[.slice a n cap] 22)).alloc (.cells #[.slice a' n' cap'] 23)) := by simpa using BoxI.start (cap := cap') (t := 23) (FSl.below h' b1)
  have G := Lib.hid b2
  have Y1 := Lib.hid (X1.keep (B := w.heap.size + 1) (by omega) ((Below.refl _ _).alloc (by simp) (.cells #[.slice a' n' cap'] 23)))
  have Y2 := Lib.hid X2
  have H1 := Lib.hid (RSl.below h b2)
  have H2 := Lib.hid (FSl.below h' b2)
  have hc1 := Y1.out.1
  have hc2 := Y2.out.1
  have HL := Lib.hid h.1.1
  have HL' := Lib.hid h'.1
  have HZ := Lib.hid (show (zz L).length = n by rw [zz_len]; exact h.1.1)
  clear h h' b1 b2 X1 X2
  cases hw : colsZ (zz L)
  · have HW := Lib.hid hw
    have HB := Lib.hid (ft_bad (ws := ws) (show ftB (zz L) ws = false by unfold ftB; rw [hw]; rfl))
    clear hw
    go_enter Try.func15, Try.ntmps15
    go_wp2_with fail
    refine (imCols_any _ _ _ _ _ H1.out hn).mono ?_
    rw [HW.out]
    rintro e w' ⟨m, rfl, rfl⟩
    go_wp2_with fail
    go_ret2
    exact fail_ob _ HB.out.1 HB.out.2 (below_drewN G.out _)
  · have HW := Lib.hid hw
    by_cases hnn : n' = n
    · subst hnn
      have HSe := Lib.hid (show serB ws = fins ws by
        obtain ⟨q1, q2, -⟩ := colsZ_t hw
        rw [HZ.out] at q1 q2
        unfold serB
        rw [HL'.out, decide_eq_true ⟨q1, by omega⟩]; rfl)
      cases hf : fins ws
      · have HF := Lib.hid hf
        have HB := Lib.hid (ft_bad (ws := ws) (show ftB (zz L) ws = false by unfold ftB; rw [hf]; simp))
        clear hw hf
        go_enter Try.func15, Try.ntmps15
        go_wp2_with fail
        refine (imCols_any _ _ _ _ _ H1.out hn).mono ?_
        rw [HW.out]
        rintro e w' ⟨m, rfl, rfl⟩
        go_wp2_with fail
        refine (implSeries_any _ _ _ _ _ (FSl.drewN H2.out _) hn').mono ?_
        rw [HSe.out, HF.out]
        rintro e w' ⟨m2, rfl, rfl⟩
        go_wp2_with fail
        go_ret2
        exact fail_ob _ HB.out.1 HB.out.2 (below_drewN G.out _)
      · have HF := Lib.hid hf
        have HB := Lib.hid (ft_good (ws := ws) (show ftB (zz L) ws = true by unfold ftB; rw [hw, hf, HL'.out, HZ.out, decide_eq_true rfl]; rfl))
        obtain ⟨g1, g2, g3⟩ := colsZ_t hw
        rw [HZ.out] at g1 g2 g3
        obtain ⟨g4, _⟩ := g3 0 (by omega)
        have hlens : ∀ k, k < n' → (L.getD k FRw.none).len = (L.getD 0 FRw.none).len := fun k hk => by
          have e1 := (g3 k hk).2
          rw [zz_at, zz_at, (H1.out.2 k hk).1.1, (H1.out.2 0 (by omega)).1.1] at e1
          exact e1
        have hl96 : (L.getD 0 FRw.none).len ≤ 96 := by
          have e1 := (serB_t g4).2.1
          rw [zz_at, (H1.out.2 0 (by omega)).1.1] at e1
          exact e1
        have HLen := Lib.hid hlens
        have HTl := Lib.hid (show tells (ftT (zz L) ws) (L.getD 0 FRw.none).len = ftL (zz L) ws by unfold ftL; rw [zz_at, (H1.out.2 0 (by omega)).1.1])
        obtain ⟨b, off, rfl, _, hcr⟩ := H1.out.1.at (by omega)
        have hcr0 := hcr 0 (by omega)
        rw [Nat.add_zero] at hcr0
        unfold FRw.val at hcr0
        clear hw hf g3 g4 hlens hcr
        generalize hr0 : L.getD 0 FRw.none = r0 at *
        obtain ⟨sa, sl, sc, sz⟩ := r0
        simp only at hl96 hcr0 HLen HTl
        go_enter Try.func15, Try.ntmps15
        go_wp2_with fail
        refine (imCols_any _ _ _ _ _ H1.out hn).mono ?_
        rw [HW.out]
        rintro e w' ⟨m, rfl, rfl⟩
        go_wp2_with fail
        refine (implSeries_any _ _ _ _ _ (FSl.drewN H2.out _) hn').mono ?_
        rw [HSe.out, HF.out]
        rintro e w' ⟨m2, rfl, rfl⟩
        go_wp2_with fail
        refine (places_any 45 #[.pointer (some ⟨w.heap.size + 1, 0, none⟩), .pointer (some ⟨w.heap.size, 0, none⟩)] (ftT (zz L) ws) (FtI (w.heap.size + 1) w.heap.size a' n' cap' ws (some ⟨b, off, none⟩) n' cap L) w.heap.size sl _ (enter_of Try.func45 (by kernel_rfl) rfl) (by omega) (below_drewN G.out (m + m2)).size
          ⟨Y2.out, Y1.out⟩ (fun k wr wr' h hb => ⟨h.1.keep (by simp) hb, h.2.keep (by simp <;> omega) hb⟩)
          (fun k wr hk hsz hI => ft1_any _ _ _ _ _ _ _ _ _ _ _ _ _ _ hI (by have := (below_drewN G.out (m + m2)).size; omega) hsz (by simp at hsz; omega) (by simp at hsz; omega) rfl HL.out (fun k' hk' => by rw [HLen.out k' hk']; exact ⟨hk, hl96⟩) (by omega) (by omega))).mono ?_
        rintro e w2 ⟨v, ys, rfl, ho, hx2, hb2⟩
        have HO := Lib.hid (ho.mono (below_drewN G.out (m + m2)).size)
        have HX2 := Lib.hid (show cnl ys = ftR (zz L) ws by rw [hx2, HTl.out, HB.out.2])
        have HBl := Lib.hid ((below_drewN G.out (m + m2)).trans hb2)
        have HT := Lib.hid (show fins (tells (ftT (zz L) ws) sl) = ftOk (zz L) ws by rw [HTl.out, HB.out.1])
        rw [HT.out]
        clear ho hx2 hb2
        go_wp2
        go_ret2
        exact ⟨v, ys, rfl, HO.out, HX2.out, HBl.out⟩
    · have hne : ((n' : Int) != (n : Int)) = true := by rw [bne_iff_ne]; omega
      have HB := Lib.hid (ft_bad (ws := ws) (show ftB (zz L) ws = false by unfold ftB; rw [HL'.out, HZ.out, decide_eq_false hnn]; simp))
      clear hw
      go_enter Try.func15, Try.ntmps15
      go_wp2_with fail
      refine (imCols_any _ _ _ _ _ H1.out hn).mono ?_
      rw [HW.out]
      rintro e w' ⟨m, rfl, rfl⟩
      go_wp2_with fail
      go_ret2
      exact fail_ob _ HB.out.1 HB.out.2 (below_drewN G.out _)
set_option maxHeartbeats 2000000 in
set_option maxRecDepth 100000 in
theorem spFitted_any (a : Option Addr) (n cap : Nat) (L : List FRw) (a' : Option Addr) (cap' : Nat) (ws : List Nat) (sl : Nat) (w : World) (h : RSl w a n L) (h' : FSl w a' n ws) (hn0 : 0 < n) (hn : n ≤ 96) (hsl : sl ≤ 96) (hlens : ∀ k, k < n → (L.getD k FRw.none).len = sl) :
    Calls Try.prog 41 #[.slice a n cap, .slice a' n cap'] w (RetO 33 (tells (ftT (zz L) ws) sl) w) := by
  obtain ⟨i0, hi, hz0, hz1, hz2⟩ := info_parts Try.infoR
  have H1 := Lib.hid h
  have H2 := Lib.hid h'
  have HZ := Lib.hid (show (zz L).length = n by rw [zz_len]; exact h.1.1)
  have HLen := Lib.hid hlens
  have HN := Lib.hid (FOwn.made (T := 33) w (Nat.le_refl _))
  obtain ⟨b, off, rfl, hb, hcr⟩ := H1.out.1.at (by omega)
  obtain ⟨b', off', rfl, hb', hcw⟩ := H2.out.at (by omega)
  have hcr0 := hcr 0 (by omega)
  rw [Nat.add_zero] at hcr0
  have hl0 := hlens 0 (by omega)
  have HCR := Lib.hid hcr
  have HCW := Lib.hid hcw
  unfold FRw.val at hcr0
  generalize hr0 : L.getD 0 FRw.none = r0 at *
  obtain ⟨sa, sl0, sc, sz⟩ := r0
  simp only at hcr0 hl0
  subst hl0
  clear h h' hlens hcr hcw hr0
  go_enter Try.func41, Try.ntmps41
  go_wp2
  go_loopw [5, 14] (fun v i wr => ∃ (j : Nat) (rs : List Nat), j ≤ sl0 ∧ i = .int .i64 j ∧ Hid (rs.length = j) ∧ Hid (FOwn 33 w.heap.size wr v rs) ∧ Hid (cnl rs = tells (ftT (zz L) ws) j) ∧ Hid (Below w.heap.size w wr)) (fun _ i _ => sl0 - (intOf i).toNat)
  case atStart => exact ⟨0, [], Nat.zero_le _, rfl, Lib.hid rfl, HN, Lib.hid rfl, Lib.hid ((Below.refl _ _).alloc (Nat.le_refl _) _)⟩
  case round =>
    rename_i wr
    obtain ⟨j, rs, hj, rfl, hrl, hown, hrs, hbel⟩ := hrel
    by_cases hlt : j < sl0
    · have hsz := hbel.out.size
      have HRl := Lib.hid hrl.out
      have HSn := Lib.hid (fun r (hr : cn .f32 r = ftT (zz L) ws j) => (cnl_snoc hrs.out hr).trans (tells_succ (ftT (zz L) ws) j).symm)
      clear hcr0 hrs hrl
      go_wp2
      go_loopw [7, 19] (fun s i wk => ∃ (k r m : Nat), k ≤ n ∧ i = .int .i64 k ∧ s = .float .f32 r ∧ wk = wr.drewN m ∧ Hid (cn .f32 r = sumT (ftT1 (zz L) ws j) k)) (fun _ i _ => n - (intOf i).toNat)
      case atStart => exact ⟨0, 0, 0, Nat.zero_le _, rfl, rfl, rfl, Lib.hid cn_zero⟩
      case round =>
        obtain ⟨k, r, m, hk, rfl, rfl, rfl, hr⟩ := hrel
        by_cases hkl : k < n
        · have hck := HCR.out k hkl
          rw [← hbel.out.cell (p := ⟨b, off + k, none⟩) hb] at hck
          have hcw := HCW.out k hkl
          rw [← hbel.out.cell (p := ⟨b', off' + k, none⟩) hb'] at hcw
          obtain ⟨hF, hFm⟩ := H1.out.2 k hkl
          have hlk := HLen.out k hkl
          obtain ⟨c, o, he, hcb, hcc⟩ := hF.at (by omega)
          have hz := hcc j (by omega)
          rw [← hbel.out.cell (p := ⟨c, o + j, none⟩) hcb] at hz
          have HT := Lib.hid (fun W1 W2 => sum_step (tell := ftT1 (zz L) ws j) (r := fopR .mul .f32 ((L.getD k FRw.none).zs.getD j 0) (ws.getD k 0) W1) hr.out (by rw [cn_fopR, ← zz_at]; rfl) W2)
          unfold FRw.val at hck
          generalize L.getD k FRw.none = rw0 at *
          obtain ⟨ra, rl, rc, rz⟩ := rw0
          simp only at hck hz he hlk HT
          subst he hlk
          generalize rz.getD j 0 = z at *
          generalize ws.getD k 0 = x at *
          clear hF hFm hcc hcb hr HSn
          go_wp2
          go_region
          all_goals
            go_wp2
            go_roundw
            case rel => exact ⟨k + 1, _, _, by omega, by go_num, rfl, rfl, Lib.hid (HT.out _ _)⟩
            case measure => simp [intOf]; omega
        · have hkn : k = n := by omega
          have HCS := Lib.hid (HSn.out r (by rw [hr.out, hkn]; unfold ftT; rw [HZ.out]))
          have hrk : rs.length ≤ 1048576 := by have := HRl.out; omega
          clear hr HSn
          go_wp2_with (at_builtin; refine wpList_append_own _ rfl _ _ 23 rfl w.heap.size 33 i0 (.float .f32 0) 1 4 Try.underlying23 hi hz0 hz1 hz2 rfl (by decide) _ _ _ rfl (World.ownsRow.alloc (FOwn.drewN hown.out m) _) ⟨wr.heap.size, 0, none⟩ 1 1 [_] rfl rfl (one_new rfl) ?c2 ?c3 ?c4 ?c5 ?_)
          case c2 => intro u hu; simp at hu; subst hu; rfl
          case c3 => unfold maxLen; omega
          case c4 => omega
          case c5 => simp; show w.heap.size ≤ wr.heap.size + 1; omega
          intro v' w1 hown' hgrow _
          have R := FOwn.push (n := m) hown.out hbel.out hsz hown' hgrow
          have hR := Lib.hid R
          clear R hown' hgrow hown hbel
          go_wp2
          go_roundw
          case rel =>
            refine ⟨j + 1, _, by omega, by go_num, ?_, Lib.hid hR.out.1, HCS, Lib.hid hR.out.2⟩
            exact Lib.hid (by rw [List.length_append, HRl.out]; rfl)
          case measure => simp [intOf]; omega
    · have hfin := Lib.hid (show cnl rs = tells (ftT (zz L) ws) sl0 by rw [hrs.out, show j = sl0 by omega])
      clear hrs
      go_wp2
      go_ret
      exact ⟨_, rs, rfl, hown.out, hfin.out, hbel.out⟩
set_option maxHeartbeats 2000000 in
set_option maxRecDepth 100000 in
theorem spFitt_any (a : Option Addr) (n cap : Nat) (L : List FRw) (a' : Option Addr) (n' cap' : Nat) (ws : List Nat) (w : World) (h : RSl w a n L) (h' : FSl w a' n' ws) (hn : n ≤ 1048576) (hn' : n' ≤ 1048576) :
    Calls Try.prog 12 #[.slice a n cap, .slice a' n' cap'] w (RetOB 33 (ftR (zz L) ws) (ftOk (zz L) ws) w) := by
  obtain ⟨i0, hi, hz0, hz1, hz2⟩ := info_parts Try.infoR
  have H1 := Lib.hid h
  have H2 := Lib.hid h'
  have HL := Lib.hid h.1.1
  have HL' := Lib.hid h'.1
  have HZ := Lib.hid (show (zz L).length = n by rw [zz_len]; exact h.1.1)
  clear h h'
  cases hw : colsZ (zz L)
  · have HW := Lib.hid hw
    have HB := Lib.hid (ft_bad (ws := ws) (show ftB (zz L) ws = false by unfold ftB; rw [hw]; rfl))
    clear hw
    go_enter Try.func12, Try.ntmps12
    go_wp2_with fail
    refine (spCols_any _ _ _ _ _ H1.out hn).mono ?_
    rw [HW.out]
    rintro e w' ⟨m, rfl, rfl⟩
    go_wp2_with fail
    go_ret2
    exact fail_ob _ HB.out.1 HB.out.2 (below_drewN (Below.refl _ _) _)
  · have HW := Lib.hid hw
    by_cases hnn : n' = n
    · subst hnn
      cases hf : fins ws
      · have HF := Lib.hid hf
        have HB := Lib.hid (ft_bad (ws := ws) (show ftB (zz L) ws = false by unfold ftB; rw [hf]; simp))
        clear hw hf
        go_enter Try.func12, Try.ntmps12
        go_wp2_with fail
        refine (spCols_any _ _ _ _ _ H1.out hn).mono ?_
        rw [HW.out]
        rintro e w' ⟨m, rfl, rfl⟩
        go_wp2_with fail
        refine (specFinite_any _ _ _ _ _ (FSl.drewN H2.out _) hn').mono ?_
        rw [HF.out]
        rintro e w' ⟨m2, rfl, rfl⟩
        go_wp2_with fail
        go_ret2
        exact fail_ob _ HB.out.1 HB.out.2 (below_drewN (Below.refl _ _) _)
      · have HF := Lib.hid hf
        have HB := Lib.hid (ft_good (ws := ws) (show ftB (zz L) ws = true by unfold ftB; rw [hw, hf, HL'.out, HZ.out, decide_eq_true rfl]; rfl))
        obtain ⟨g1, g2, g3⟩ := colsZ_t hw
        rw [HZ.out] at g1 g2 g3
        obtain ⟨g4, _⟩ := g3 0 (by omega)
        have hlens : ∀ k, k < n' → (L.getD k FRw.none).len = (L.getD 0 FRw.none).len := fun k hk => by
          have e1 := (g3 k hk).2
          rw [zz_at, zz_at, (H1.out.2 k hk).1.1, (H1.out.2 0 (by omega)).1.1] at e1
          exact e1
        have hl96 : (L.getD 0 FRw.none).len ≤ 96 := by
          have e1 := (serB_t g4).2.1
          rw [zz_at, (H1.out.2 0 (by omega)).1.1] at e1
          exact e1
        have HLen := Lib.hid hlens
        have HTl := Lib.hid (show tells (ftT (zz L) ws) (L.getD 0 FRw.none).len = ftL (zz L) ws by unfold ftL; rw [zz_at, (H1.out.2 0 (by omega)).1.1])
        obtain ⟨b, off, rfl, hbb, hcr⟩ := H1.out.1.at (by omega)
        have hcr0 := hcr 0 (by omega)
        rw [Nat.add_zero] at hcr0
        unfold FRw.val at hcr0
        clear hw hf g3 g4 hlens hcr
        generalize hr0 : L.getD 0 FRw.none = r0 at *
        obtain ⟨sa, sl, sc, sz⟩ := r0
        simp only at hl96 hcr0 HLen HTl
        clear hr0 hcr0
        go_enter Try.func12, Try.ntmps12
        go_wp2_with fail
        refine (spCols_any _ _ _ _ _ H1.out hn).mono ?_
        rw [HW.out]
        rintro e w' ⟨m, rfl, rfl⟩
        go_wp2_with fail
        refine (specFinite_any _ _ _ _ _ (FSl.drewN H2.out _) hn').mono ?_
        rw [HF.out]
        rintro e w' ⟨m2, rfl, rfl⟩
        go_wp2_with fail
        refine (spFitted_any _ _ _ _ _ _ _ sl _ (RSl.drewN H1.out _) (FSl.drewN H2.out _) (by omega) (by omega) hl96 (fun k hk => HLen.out k hk)).mono ?_
        rintro e w1 ⟨v, rs, rfl, ho, hx, hb⟩
        obtain ⟨A, cp, rfl, hsl, _⟩ := ho.sl
        have hlr : rs.length = sl := by have := congrArg List.length hx; rw [cnl_len, tells_len] at this; exact this
        have HX := Lib.hid (hx.trans HTl.out)
        have HS := Lib.hid hsl
        have HO := Lib.hid ho
        have HBB := Lib.hid (show Below w.heap.size w w1 from (below_drewN (Below.refl _ _) _).trans hb)
        have hm2 : rs.length ≤ 1048576 := by omega
        clear ho hx hb hsl hlr
        go_wp2_with fail
        refine (specGiven_any 33 _ _ rs (ftL (zz L) ws) _ w _ rfl HS.out HX.out hm2 HO.out HBB.out).mono ?_
        rintro e w3 ⟨v, ys, rfl, ho, hx', hb'⟩
        have HO3 := Lib.hid ho
        have HX2 := Lib.hid (hx'.trans HB.out.2.symm)
        have HB3 := Lib.hid hb'
        have HT := Lib.hid (show fins (ftL (zz L) ws) = ftOk (zz L) ws from HB.out.1.symm)
        rw [HT.out]
        clear ho hx' hb'
        go_wp2
        go_ret2
        exact ⟨v, ys, rfl, HO3.out, HX2.out, HB3.out⟩
    · have hne : ((n' : Int) != (n : Int)) = true := by rw [bne_iff_ne]; omega
      have HB := Lib.hid (ft_bad (ws := ws) (show ftB (zz L) ws = false by unfold ftB; rw [HL'.out, HZ.out, decide_eq_false hnn]; simp))
      clear hw
      go_enter Try.func12, Try.ntmps12
      go_wp2_with fail
      refine (spCols_any _ _ _ _ _ H1.out hn).mono ?_
      rw [HW.out]
      rintro e w' ⟨m, rfl, rfl⟩
      go_wp2_with fail
      go_ret2
      exact fail_ob _ HB.out.1 HB.out.2 (below_drewN (Below.refl _ _) _)
end Go.Proofs.Ytndmffkpbihcmaa
