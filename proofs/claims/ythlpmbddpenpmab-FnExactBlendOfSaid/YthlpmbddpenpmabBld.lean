/-
  BlendOf, in both packages.
-/
import Derived.Test.YthlpmbddpenpmabWys
import Derived.Test.YthlpmbddpenpmabCSmd
import Derived.Test.YthlpmbddpenpmabCLaw
namespace Go.Proofs.Ythlpmbddpenpmab
open Ieee Go.RowKit
set_option linter.unusedVariables false

def blB (Z : List (List Nat)) (ws : List Nat) : Bool := waysZ Z && (decide (ws.length = Z.length) && fins ws)
def blT1 (Z : List (List Nat)) (ws : List Nat) (j i : Nat) : Nat := aop .mul .f32 (cn .f32 (ws.getD i 0)) (cn .f32 ((Z.getD i []).getD j 0))
def blT (Z : List (List Nat)) (ws : List Nat) (j : Nat) : Nat := sumT (blT1 Z ws j) Z.length
def blL (Z : List (List Nat)) (ws : List Nat) : List Nat := tells (blT Z ws) (Z.getD 0 []).length
def blOk (Z : List (List Nat)) (ws : List Nat) : Bool := blB Z ws && fins (blL Z ws)
def blR (Z : List (List Nat)) (ws : List Nat) : List Nat := if blB Z ws then lstR (blL Z ws) else []
theorem bl_bad {Z : List (List Nat)} {ws : List Nat} (h : blB Z ws = false) : blOk Z ws = false ∧ blR Z ws = [] := by unfold blOk blR; rw [h]; exact ⟨rfl, rfl⟩
theorem bl_good {Z : List (List Nat)} {ws : List Nat} (h : blB Z ws = true) : blOk Z ws = fins (blL Z ws) ∧ blR Z ws = lstR (blL Z ws) := by unfold blOk blR; rw [h]; exact ⟨rfl, rfl⟩
theorem blB_t {Z : List (List Nat)} {ws : List Nat} (h : blB Z ws = true) : waysZ Z = true ∧ ws.length = Z.length ∧ fins ws = true := by
  unfold blB at h
  obtain ⟨h1, h2⟩ := Bool.and_eq_true_iff.1 h
  obtain ⟨h3, h4⟩ := Bool.and_eq_true_iff.1 h2
  exact ⟨h1, of_decide_eq_true h3, h4⟩
theorem blR_len (Z : List (List Nat)) (ws : List Nat) : (blR Z ws).length ≤ 1048576 := by
  unfold blR
  split
  · rename_i h
    obtain ⟨h1, _, _⟩ := blB_t h
    obtain ⟨g1, _, g3⟩ := waysZ_t h1
    have := (serB_t (g3 0 (by omega)).1).2.1
    unfold lstR
    split
    · unfold blL; rw [tells_len]; omega
    · simp
  · simp
theorem blT_cn (Z : List (List Nat)) (ws : List Nat) (j : Nat) : cn .f32 (blT Z ws j) = blT Z ws j := sumT_cn ..
/-- What the inner closure reads. -/
def BlI1 (bw bl bp : Nat) (a' : Option Addr) (n' cap' : Nat) (ws : List Nat) (a : Option Addr) (n cap : Nat) (L : List FRw) (j : Nat) (_k : Nat) (wr : World) : Prop :=
  BoxI bw a' n' cap' ws wr ∧ BoxR bl a n cap L wr ∧ wr.cell? ⟨bp, 0, none⟩ = some (.int .i64 j)
theorem bl11_any (bw bl bp B0 k j : Nat) (a' : Option Addr) (n' cap' : Nat) (ws : List Nat) (a : Option Addr) (n cap : Nat) (L : List FRw) (wr : World) (h : BlI1 bw bl bp a' n' cap' ws a n cap L j k wr) (hk : k < n) (hk' : k < n') (hj : j < (L.getD k FRw.none).len) (hm : n ≤ 96) (hm' : n' ≤ 96) (hml : (L.getD k FRw.none).len ≤ 96) :
    Calls Try.prog 63 #[.int .i64 k, .pointer (some ⟨bw, 0, none⟩), .pointer (some ⟨bl, 0, none⟩), .pointer (some ⟨bp, 0, none⟩)] wr (Adds (blT1 (zz L) ws j) (BlI1 bw bl bp a' n' cap' ws a n cap L j) B0 k wr) := by
  have HI := Lib.hid h
  obtain ⟨⟨hc, hb⟩, ⟨hr, hrb⟩, hp⟩ := h
  obtain ⟨b', off', rfl, _, hcs⟩ := hb (by omega)
  obtain ⟨b, off, rfl, _, hrs⟩ := hrb (by omega)
  have hck := hcs k hk'
  obtain ⟨hrk, hin⟩ := hrs k hk
  obtain ⟨c, o, he, _, hcc⟩ := hin (by omega)
  have hz := hcc j hj
  have HT := Lib.hid (show ∀ w, cn .f32 (fopR .mul .f32 (ws.getD k 0) ((L.getD k FRw.none).zs.getD j 0) w) = blT1 (zz L) ws j k from fun w => by rw [cn_fopR, ← zz_at]; rfl)
  unfold FRw.val at hrk
  generalize L.getD k FRw.none = r at *
  obtain ⟨ra, rl, rc, rz⟩ := r
  simp only at hrk hz he hj hml HT
  subst he
  clear hb hrb hcs hrs hin hcc
  generalize ws.getD k 0 = x at *
  generalize rz.getD j 0 = z at *
  go_enter Try.func63, Try.ntmps63
  go_wp2
  go_region
  all_goals
    go_wp2
    go_ret
    exact Adds.quiet (HT.out _) HI.out
/-- What the outer closure reads. -/
def BlI (bw bl : Nat) (a' : Option Addr) (n' cap' : Nat) (ws : List Nat) (a : Option Addr) (n cap : Nat) (L : List FRw) (_k : Nat) (wr : World) : Prop :=
  BoxI bw a' n' cap' ws wr ∧ BoxR bl a n cap L wr
set_option maxHeartbeats 1000000 in
set_option maxRecDepth 100000 in
theorem bl1_any (bw bl B0 B j : Nat) (a' : Option Addr) (n' cap' : Nat) (ws : List Nat) (a : Option Addr) (n cap : Nat) (L : List FRw) (wr : World) (h : BlI bw bl a' n' cap' ws a n cap L j wr) (hB0 : B0 ≤ wr.heap.size) (hB : B < wr.heap.size) (hbw : bw < wr.heap.size) (hbl : bl < wr.heap.size) (hnn : n' = n) (hL : L.length = n) (hj : ∀ k, k < n → j < (L.getD k FRw.none).len ∧ (L.getD k FRw.none).len ≤ 96) (hm : n ≤ 96) (hj96 : j < 96) :
    Calls Try.prog 61 #[.int .i64 j, .pointer (some ⟨bl, 0, none⟩), .pointer (some ⟨bw, 0, none⟩)] wr (Tells (blT (zz L) ws) (BlI bw bl a' n' cap' ws a n cap L) B0 B j wr) := by
  have hmf : ∀ (fn : Fn) (first cap : Array Value) (w : World), (Instr.makeFunc fn first cap).run Try.prog w = .ok (.func fn first cap) w := fun _ _ _ _ => rfl
  have hba := (Below.refl wr.heap.size wr).alloc (Nat.le_refl _) (.cells #[.int .i64 j] 3)
  have G := Lib.hid hba
  have HI := Lib.hid (show BlI1 bw bl wr.heap.size a' n' cap' ws a n cap L j 0 (wr.alloc (.cells #[.int .i64 j] 3)) from
    ⟨h.1.keep hbw hba, h.2.keep hbl hba, by rw [World.cell?_alloc_at _ _ _ _ rfl]; rfl⟩)
  have hl0 := HI.out.2.1.1
  have HJ := Lib.hid hj
  have HZ := Lib.hid (show (zz L).length = n by rw [zz_len]; exact hL)
  clear h hba hj
  subst hnn
  go_enter Try.func61, Try.ntmps61
  go_wp2_with fail
  refine (summed_any 63 #[.pointer (some ⟨bw, 0, none⟩), .pointer (some ⟨bl, 0, none⟩), .pointer (some ⟨wr.heap.size, 0, none⟩)] (blT1 (zz L) ws j) (BlI1 bw bl wr.heap.size a' n' cap' ws a n' cap L j) wr.heap.size n' _ (enter_of Try.func63 (by kernel_rfl) rfl) (by omega) (by simp) HI.out (fun k m w' h => h) (fun k w' hk hsz hI => bl11_any _ _ _ _ _ _ _ _ _ _ _ _ _ _ _ hI hk hk (HJ.out k hk).1 hm hm (HJ.out k hk).2)).mono ?_
  rintro e w2 ⟨r, rfl, hr, hi, hb⟩
  have HR := Lib.hid (show cn .f32 r = blT (zz L) ws j by rw [hr]; unfold blT; rw [HZ.out])
  have HB := Lib.hid (G.out.trans hb)
  have HI2 := Lib.hid (show BlI bw bl a' n' cap' ws a n' cap L (j + 1) w2 from ⟨hi.1, hi.2.1⟩)
  clear hr hi hb
  go_wp2
  go_ret
  exact ⟨r, rfl, HR.out, HI2.out, HB.out.mono hB0, HB.out.block B hB⟩
set_option maxHeartbeats 2000000 in
set_option maxRecDepth 100000 in
theorem imBlend_any (a : Option Addr) (n cap : Nat) (L : List FRw) (a' : Option Addr) (n' cap' : Nat) (ws : List Nat) (w : World) (h : RSl w a n L) (h' : FSl w a' n' ws) (hn : n ≤ 1048576) (hn' : n' ≤ 1048576) :
    Calls Try.prog 19 #[.slice a n cap, .slice a' n' cap'] w (RetOB 41 (blR (zz L) ws) (blOk (zz L) ws) w) := by
  have hmf : ∀ (fn : Fn) (first cap : Array Value) (w : World), (Instr.makeFunc fn first cap).run Try.prog w = .ok (.func fn first cap) w := fun _ _ _ _ => rfl
  have b1 := (Below.refl w.heap.size w).alloc (Nat.le_refl _) (.cells #[.slice a n cap] 22)
  have b2 := b1.alloc (by simp) (.cells #[.slice a' n' cap'] 23)
  have X1 := BoxR.start (cap := cap) (t := 22) h
  have X2 : BoxI (w.heap.size + 1) a' n' cap' ws ((w.alloc (.cells #[.slice a n cap] 22)).alloc (.cells #[.slice a' n' cap'] 23)) := by simpa using BoxI.start (cap := cap') (t := 23) (FSl.below h' b1)
  have G := Lib.hid b2
  have Y1 := Lib.hid (X1.keep (B := w.heap.size + 1) (by omega) ((Below.refl _ _).alloc (by simp) (.cells #[.slice a' n' cap'] 23)))
  have Y2 := Lib.hid X2
  have H1 := Lib.hid (RSl.below h b2)
  have H2 := Lib.hid (FSl.below h' b2)
  have hc1 := Y1.out.1
  have hc2 := Y2.out.1
  have HL := Lib.hid h.1.1
  have HL' := Lib.hid h'.1
  have HZ := Lib.hid (show (zz L).length = n by rw [zz_len]; exact h.1.1)
  clear h h' b1 b2 X1 X2
  cases hw : waysZ (zz L)
  · have HW := Lib.hid hw
    have HB := Lib.hid (bl_bad (ws := ws) (show blB (zz L) ws = false by unfold blB; rw [hw]; rfl))
    clear hw
    go_enter Try.func19, Try.ntmps19
    go_wp2_with fail
    refine (imWays_any _ _ _ _ _ H1.out hn).mono ?_
    rw [HW.out]
    rintro e w' ⟨m, rfl, rfl⟩
    go_wp2_with fail
    go_ret2
    exact fail_ob _ HB.out.1 HB.out.2 (below_drewN G.out _)
  · have HW := Lib.hid hw
    by_cases hnn : n' = n
    · subst hnn
      cases hf : fins ws
      · have HF := Lib.hid hf
        have HB := Lib.hid (bl_bad (ws := ws) (show blB (zz L) ws = false by unfold blB; rw [hf]; simp))
        clear hw hf
        go_enter Try.func19, Try.ntmps19
        go_wp2_with fail
        refine (imWays_any _ _ _ _ _ H1.out hn).mono ?_
        rw [HW.out]
        rintro e w' ⟨m, rfl, rfl⟩
        go_wp2_with fail
        refine (imFins_any _ _ _ _ _ (FSl.drewN H2.out _) hn').mono ?_
        rw [HF.out]
        rintro e w' ⟨m2, rfl, rfl⟩
        go_wp2_with fail
        go_ret2
        exact fail_ob _ HB.out.1 HB.out.2 (below_drewN G.out _)
      · have HF := Lib.hid hf
        have HB := Lib.hid (bl_good (ws := ws) (show blB (zz L) ws = true by unfold blB; rw [hw, hf, HL'.out, HZ.out, decide_eq_true rfl]; rfl))
        obtain ⟨g1, g2, g3⟩ := waysZ_t hw
        rw [HZ.out] at g1 g2 g3
        obtain ⟨g4, _⟩ := g3 0 (by omega)
        have hlens : ∀ k, k < n' → (L.getD k FRw.none).len = (L.getD 0 FRw.none).len := fun k hk => by
          have e1 := (g3 k hk).2
          rw [zz_at, zz_at, (H1.out.2 k hk).1.1, (H1.out.2 0 (by omega)).1.1] at e1
          exact e1
        have hl96 : (L.getD 0 FRw.none).len ≤ 96 := by
          have e1 := (serB_t g4).2.1
          rw [zz_at, (H1.out.2 0 (by omega)).1.1] at e1
          exact e1
        have HLen := Lib.hid hlens
        have HTl := Lib.hid (show tells (blT (zz L) ws) (L.getD 0 FRw.none).len = blL (zz L) ws by unfold blL; rw [zz_at, (H1.out.2 0 (by omega)).1.1])
        obtain ⟨b, off, rfl, _, hcr⟩ := H1.out.1.at (by omega)
        have hcr0 := hcr 0 (by omega)
        rw [Nat.add_zero] at hcr0
        unfold FRw.val at hcr0
        clear hw hf g3 g4 hlens hcr
        generalize hr0 : L.getD 0 FRw.none = r0 at *
        obtain ⟨sa, sl, sc, sz⟩ := r0
        simp only at hl96 hcr0 HLen HTl
        go_enter Try.func19, Try.ntmps19
        go_wp2_with fail
        refine (imWays_any _ _ _ _ _ H1.out hn).mono ?_
        rw [HW.out]
        rintro e w' ⟨m, rfl, rfl⟩
        go_wp2_with fail
        refine (imFins_any _ _ _ _ _ (FSl.drewN H2.out _) hn').mono ?_
        rw [HF.out]
        rintro e w' ⟨m2, rfl, rfl⟩
        go_wp2_with fail
        refine (places_any 61 #[.pointer (some ⟨w.heap.size, 0, none⟩), .pointer (some ⟨w.heap.size + 1, 0, none⟩)] (blT (zz L) ws) (BlI (w.heap.size + 1) w.heap.size a' n' cap' ws (some ⟨b, off, none⟩) n' cap L) w.heap.size sl _ (enter_of Try.func61 (by kernel_rfl) rfl) (by omega) (below_drewN G.out (m + m2)).size
          ⟨Y2.out, Y1.out⟩ (fun k wr wr' h hb => ⟨h.1.keep (by simp) hb, h.2.keep (by simp <;> omega) hb⟩)
          (fun k wr hk hsz hI => bl1_any _ _ _ _ _ _ _ _ _ _ _ _ _ _ hI (by have := (below_drewN G.out (m + m2)).size; omega) hsz (by simp at hsz; omega) (by simp at hsz; omega) rfl HL.out (fun k' hk' => by rw [HLen.out k' hk']; exact ⟨hk, hl96⟩) (by omega) (by omega))).mono ?_
        rintro e w2 ⟨v, ys, rfl, ho, hx2, hb2⟩
        have HO := Lib.hid (ho.mono (below_drewN G.out (m + m2)).size)
        have HX2 := Lib.hid (show cnl ys = blR (zz L) ws by rw [hx2, HTl.out, HB.out.2])
        have HBl := Lib.hid ((below_drewN G.out (m + m2)).trans hb2)
        have HT := Lib.hid (show fins (tells (blT (zz L) ws) sl) = blOk (zz L) ws by rw [HTl.out, HB.out.1])
        rw [HT.out]
        clear ho hx2 hb2
        go_wp2
        go_ret2
        exact ⟨v, ys, rfl, HO.out, HX2.out, HBl.out⟩
    · have hne : ((n' : Int) != (n : Int)) = true := by rw [bne_iff_ne]; omega
      have HB := Lib.hid (bl_bad (ws := ws) (show blB (zz L) ws = false by unfold blB; rw [HL'.out, HZ.out, decide_eq_false hnn]; simp))
      clear hw
      go_enter Try.func19, Try.ntmps19
      go_wp2_with fail
      refine (imWays_any _ _ _ _ _ H1.out hn).mono ?_
      rw [HW.out]
      rintro e w' ⟨m, rfl, rfl⟩
      go_wp2_with fail
      go_ret2
      exact fail_ob _ HB.out.1 HB.out.2 (below_drewN G.out _)
def colT (Z : List (List Nat)) (j i : Nat) : Nat := cn .f32 ((Z.getD i []).getD j 0)
theorem column_any (a : Option Addr) (n cap : Nat) (L : List FRw) (q : Nat) (w : World) (h : RSl w a n L) (hn : n ≤ 1048576) (hq : ∀ i, i < n → q < (L.getD i FRw.none).len) :
    Calls Try.prog 56 #[.slice a n cap, .int .i64 q] w (RetO 41 (tells (colT (zz L) q) n) w) := by
  obtain ⟨i0, hi, hz0, hz1, hz2⟩ := info_parts Try.infoR
  have H := Lib.hid h
  have HQ := Lib.hid hq
  have HN := Lib.hid (FOwn.made (T := 41) w (Nat.le_refl _))
  clear h hq
  go_enter Try.func56, Try.ntmps56
  go_wp2
  go_loopw [5, 6] (fun v i wr => ∃ (k : Nat) (rs : List Nat), k ≤ n ∧ i = .int .i64 k ∧ Hid (rs.length = k) ∧ Hid (FOwn 41 w.heap.size wr v rs) ∧ Hid (cnl rs = tells (colT (zz L) q) k) ∧ Hid (Below w.heap.size w wr)) (fun _ i _ => n - (intOf i).toNat)
  case atStart => exact ⟨0, [], Nat.zero_le _, rfl, Lib.hid rfl, HN, Lib.hid rfl, Lib.hid ((Below.refl _ _).alloc (Nat.le_refl _) _)⟩
  case round =>
    rename_i wr
    obtain ⟨k, rs, hk, rfl, hrl, hown, hrs, hbel⟩ := hrel
    by_cases hlt : k < n
    · obtain ⟨b, off, rfl, hb, hc⟩ := H.out.1.at (by omega)
      have hck := hc k hlt
      rw [← hbel.out.cell (p := ⟨b, off + k, none⟩) hb] at hck
      have hql := HQ.out k hlt
      obtain ⟨hF, hFm⟩ := H.out.2 k hlt
      obtain ⟨c, o, he, hcb, hcc⟩ := hF.at (by omega)
      have hz := hcc q hql
      rw [← hbel.out.cell (p := ⟨c, o + q, none⟩) hcb] at hz
      have hsz := hbel.out.size
      have hrk : rs.length ≤ 1048576 := by have := hrl.out; omega
      have HCS := Lib.hid ((cnl_snoc hrs.out (r := (L.getD k FRw.none).zs.getD q 0) (x := colT (zz L) q k) (by unfold colT; rw [zz_at])).trans (tells_succ (colT (zz L) q) k).symm)
      have HRl := Lib.hid hrl.out
      unfold FRw.val at hck
      generalize L.getD k FRw.none = r at *
      obtain ⟨ra, rl, rc, rz⟩ := r
      simp only at hck hz he hql HCS
      subst he
      generalize rz.getD q 0 = z at *
      clear hc hb hF hFm hcc hcb hrs hrl H HQ
      go_wp2_with (at_builtin; refine wpList_append_own _ rfl _ _ 23 rfl w.heap.size 41 i0 (.float .f32 0) 1 4 Try.underlying23 hi hz0 hz1 hz2 rfl (by decide) _ _ _ rfl (World.ownsRow.alloc (FOwn.drewN hown.out 0) _) ⟨wr.heap.size, 0, none⟩ 1 1 [_] rfl rfl (one_new rfl) ?c2 ?c3 ?c4 ?c5 ?_)
      case c2 => intro u hu; simp at hu; subst hu; rfl
      case c3 => unfold maxLen; omega
      case c4 => omega
      case c5 => simp <;> omega
      intro v' w1 hown' hgrow _
      have R := FOwn.push (n := 0) hown.out hbel.out hsz hown' hgrow
      have hR := Lib.hid R
      clear R hown' hgrow hown hbel hck hz
      go_wp2
      go_roundw
      case rel =>
        refine ⟨k + 1, _, by omega, by go_num, ?_, Lib.hid hR.out.1, HCS, Lib.hid hR.out.2⟩
        exact Lib.hid (by rw [List.length_append, HRl.out]; rfl)
      case measure => simp [intOf]; omega
    · have hfin := Lib.hid (show cnl rs = tells (colT (zz L) q) n by rw [hrs.out, show k = n by omega])
      clear hrs H
      go_wp2
      go_ret
      exact ⟨_, rs, rfl, hown.out, hfin.out, hbel.out⟩
set_option maxHeartbeats 2000000 in
set_option maxRecDepth 100000 in
theorem spBlend_any (a : Option Addr) (n cap : Nat) (L : List FRw) (a' : Option Addr) (n' cap' : Nat) (ws : List Nat) (w : World) (h : RSl w a n L) (h' : FSl w a' n' ws) (hn : n ≤ 1048576) (hn' : n' ≤ 1048576) :
    Calls Try.prog 16 #[.slice a n cap, .slice a' n' cap'] w (RetOB 41 (blR (zz L) ws) (blOk (zz L) ws) w) := by
  obtain ⟨i0, hi, hz0, hz1, hz2⟩ := info_parts Try.infoR
  have H1 := Lib.hid h
  have H2 := Lib.hid h'
  have HL := Lib.hid h.1.1
  have HL' := Lib.hid h'.1
  have HZ := Lib.hid (show (zz L).length = n by rw [zz_len]; exact h.1.1)
  clear h h'
  cases hw : waysZ (zz L)
  · have HW := Lib.hid hw
    have HB := Lib.hid (bl_bad (ws := ws) (show blB (zz L) ws = false by unfold blB; rw [hw]; rfl))
    clear hw
    go_enter Try.func16, Try.ntmps16
    go_wp2_with fail
    refine (spLists_any _ _ _ _ _ H1.out hn).mono ?_
    rw [HW.out]
    rintro e w' ⟨m, rfl, rfl⟩
    go_wp2_with fail
    go_ret2
    exact fail_ob _ HB.out.1 HB.out.2 (below_drewN (Below.refl _ _) _)
  · have HW := Lib.hid hw
    by_cases hnn : n' = n
    · subst hnn
      cases hf : fins ws
      · have HF := Lib.hid hf
        have HB := Lib.hid (bl_bad (ws := ws) (show blB (zz L) ws = false by unfold blB; rw [hf]; simp))
        clear hw hf
        go_enter Try.func16, Try.ntmps16
        go_wp2_with fail
        refine (spLists_any _ _ _ _ _ H1.out hn).mono ?_
        rw [HW.out]
        rintro e w' ⟨m, rfl, rfl⟩
        go_wp2_with fail
        refine (specFinite_any _ _ _ _ _ (FSl.drewN H2.out _) hn').mono ?_
        rw [HF.out]
        rintro e w' ⟨m2, rfl, rfl⟩
        go_wp2_with fail
        go_ret2
        exact fail_ob _ HB.out.1 HB.out.2 (below_drewN (Below.refl _ _) _)
      · have HF := Lib.hid hf
        have HB := Lib.hid (bl_good (ws := ws) (show blB (zz L) ws = true by unfold blB; rw [hw, hf, HL'.out, HZ.out, decide_eq_true rfl]; rfl))
        obtain ⟨g1, g2, g3⟩ := waysZ_t hw
        rw [HZ.out] at g1 g2 g3
        obtain ⟨g4, _⟩ := g3 0 (by omega)
        have hlens : ∀ k, k < n' → (L.getD k FRw.none).len = (L.getD 0 FRw.none).len := fun k hk => by
          have e1 := (g3 k hk).2
          rw [zz_at, zz_at, (H1.out.2 k hk).1.1, (H1.out.2 0 (by omega)).1.1] at e1
          exact e1
        have hl96 : (L.getD 0 FRw.none).len ≤ 96 := by
          have e1 := (serB_t g4).2.1
          rw [zz_at, (H1.out.2 0 (by omega)).1.1] at e1
          exact e1
        have HLen := Lib.hid hlens
        have HTl := Lib.hid (show tells (blT (zz L) ws) (L.getD 0 FRw.none).len = blL (zz L) ws by unfold blL; rw [zz_at, (H1.out.2 0 (by omega)).1.1])
        obtain ⟨b, off, rfl, hbb, hcr⟩ := H1.out.1.at (by omega)
        have hcr0 := hcr 0 (by omega)
        rw [Nat.add_zero] at hcr0
        unfold FRw.val at hcr0
        clear hw hf g3 g4 hlens hcr
        generalize hr0 : L.getD 0 FRw.none = r0 at *
        obtain ⟨sa, sl, sc, sz⟩ := r0
        simp only at hl96 hcr0 HLen HTl
        have HN := Lib.hid (fun m => FOwn.made (T := 41) (B := w.heap.size) (w.drewN m) (Nat.le_refl _))
        clear hr0
        go_enter Try.func16, Try.ntmps16
        go_wp2_with fail
        refine (spLists_any _ _ _ _ _ H1.out hn).mono ?_
        rw [HW.out]
        rintro e w' ⟨m, rfl, rfl⟩
        go_wp2_with fail
        refine (specFinite_any _ _ _ _ _ (FSl.drewN H2.out _) hn').mono ?_
        rw [HF.out]
        rintro e w' ⟨m2, rfl, rfl⟩
        go_wp2
        go_loopw [6, 7] (fun v i wr => ∃ (k : Nat) (rs : List Nat), k ≤ sl ∧ i = .int .i64 k ∧ Hid (rs.length = k) ∧ Hid (FOwn 41 w.heap.size wr v rs) ∧ Hid (cnl rs = tells (blT (zz L) ws) k) ∧ Hid (Below w.heap.size w wr)) (fun _ i _ => sl - (intOf i).toNat)
        case atStart => exact ⟨0, [], Nat.zero_le _, rfl, Lib.hid rfl, Lib.hid (HN.out _), Lib.hid rfl, Lib.hid ((below_drewN (Below.refl _ _) _).alloc (by show w.heap.size ≤ w.heap.size; exact Nat.le_refl _) _)⟩
        case round =>
          rename_i wr
          obtain ⟨k, rs, hk, rfl, hrl, hown, hrs, hbel⟩ := hrel
          have hcr1 := hcr0
          rw [← hbel.out.cell (p := ⟨b, off, none⟩) hbb] at hcr1
          by_cases hlt : k < sl
          · have hsz := hbel.out.size
            have hrk : rs.length ≤ 1048576 := by have := hrl.out; omega
            have HRl := Lib.hid hrl.out
            have HSn := Lib.hid (fun r (hr : cn .f32 r = blT (zz L) ws k) => (cnl_snoc hrs.out hr).trans (tells_succ (blT (zz L) ws) k).symm)
            clear hcr0 hrs hrl
            go_wp2_with fail
            refine (column_any _ _ _ _ k _ (RSl.below H1.out hbel.out) hn (fun i hi => by rw [HLen.out i hi]; exact hlt)).mono ?_
            rintro e w1 ⟨v1, cs, rfl, ho1, hx1, hb1⟩
            obtain ⟨A1, cp1, rfl, hsl1, _⟩ := ho1.sl
            have hlc : cs.length = n' := by have := congrArg List.length hx1; rw [cnl_len, tells_len] at this; exact this
            rw [hlc] at hsl1
            have HS1 := Lib.hid hsl1
            have HD := Lib.hid (show dotTo ws cs n' = blT (zz L) ws k by
              rw [dotTo_sumT]
              unfold blT
              rw [HZ.out]
              refine sumT_congr fun i hi => ?_
              rw [← cnl_at (show i < cs.length by omega), hx1, tells_at _ hi]; rfl)
            have HO1 := Lib.hid (show FOwn 41 w.heap.size w1 _ rs from hown.out.below hb1)
            have HB1 := Lib.hid (hbel.out.trans (hb1.mono hsz))
            have HW1 := Lib.hid (FSl.below (FSl.below H2.out hbel.out) hb1)
            have hsz1 := HB1.out.size
            simp only [hlc]
            clear ho1 hx1 hb1 hsl1 hown hbel hlc
            go_wp2_with fail
            refine (l02Dot_any _ _ _ _ _ _ _ _ HW1.out HS1.out hn).mono ?_
            rintro e w' ⟨d, n2, hd, rfl, rfl⟩
            have HCS := Lib.hid (HSn.out d (hd.trans HD.out))
            clear hd HSn
            go_wp2_with (at_builtin; refine wpList_append_own _ rfl _ _ 23 rfl w.heap.size 41 i0 (.float .f32 0) 1 4 Try.underlying23 hi hz0 hz1 hz2 rfl (by decide) _ _ _ rfl (World.ownsRow.alloc (FOwn.drewN HO1.out _) _) ⟨w1.heap.size, 0, none⟩ 1 1 [_] rfl rfl (one_new rfl) ?c2 ?c3 ?c4 ?c5 ?_)
            case c2 => intro u hu; simp at hu; subst hu; rfl
            case c3 => unfold maxLen; omega
            case c4 => omega
            case c5 => simp; show w.heap.size ≤ w1.heap.size + 1; omega
            intro v' w3 hown' hgrow _
            have R := FOwn.push HO1.out HB1.out hsz1 hown' hgrow
            have hR := Lib.hid R
            clear R hown' hgrow HO1 HB1
            go_wp2
            go_roundw
            case rel =>
              refine ⟨k + 1, _, by omega, by go_num, ?_, Lib.hid hR.out.1, HCS, Lib.hid hR.out.2⟩
              exact Lib.hid (by rw [List.length_append, HRl.out]; rfl)
            case measure => simp [intOf]; omega
          · have hfin := Lib.hid (show cnl rs = blL (zz L) ws by rw [hrs.out, ← HTl.out, show k = sl by omega])
            obtain ⟨A, cp, rfl, hsl, _⟩ := hown.out.sl
            have HS := Lib.hid hsl
            have hm2 : rs.length ≤ 1048576 := by have := hrl.out; omega
            clear hrs hsl hcr0
            go_wp2_with fail
            refine (specList_any 41 _ _ rs (blL (zz L) ws) _ w _ rfl HS.out hfin.out hm2 hown.out hbel.out).mono ?_
            rintro e w3 ⟨v, ys, rfl, ho, hx', hb'⟩
            have HO := Lib.hid ho
            have HX2 := Lib.hid (hx'.trans HB.out.2.symm)
            have HBB := Lib.hid hb'
            have HT := Lib.hid (show fins (blL (zz L) ws) = blOk (zz L) ws from HB.out.1.symm)
            rw [HT.out]
            clear ho hx' hb'
            go_wp2
            go_ret2
            exact ⟨v, ys, rfl, HO.out, HX2.out, HBB.out⟩
    · have hne : ((n' : Int) != (n : Int)) = true := by rw [bne_iff_ne]; omega
      have HB := Lib.hid (bl_bad (ws := ws) (show blB (zz L) ws = false by unfold blB; rw [HL'.out, HZ.out, decide_eq_false hnn]; simp))
      clear hw
      go_enter Try.func16, Try.ntmps16
      go_wp2_with fail
      refine (spLists_any _ _ _ _ _ H1.out hn).mono ?_
      rw [HW.out]
      rintro e w' ⟨m, rfl, rfl⟩
      go_wp2_with fail
      go_ret2
      exact fail_ob _ HB.out.1 HB.out.2 (below_drewN (Below.refl _ _) _)
end Go.Proofs.Ythlpmbddpenpmab
