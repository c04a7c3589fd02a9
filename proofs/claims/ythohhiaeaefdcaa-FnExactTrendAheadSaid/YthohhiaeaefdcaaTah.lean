/-
  TrendAhead, in both packages.
-/
import Derived.Test.YthohhiaeaefdcaaLvl
import Derived.Test.YthohhiaeaefdcaaPus
import Derived.Test.YthohhiaeaefdcaaCGiv
import Derived.Test.YthohhiaeaefdcaaCIn
import Derived.Test.YthohhiaeaefdcaaCBox
namespace Go.Proofs.Ythohhiaeaefdcaa
open Ieee Go.RowKit
set_option linter.unusedVariables false

def taT (a b k : Nat) : Nat := aop .add .f32 (cn .f32 a) (aop .mul .f32 (cn .f32 (i2f ((k + 1 : Nat) : Int))) (cn .f32 b))
def taL (a b : Nat) (n : Int) : List Nat := tells (taT a b) n.toNat
def ta0 (a b c d s t u v : Nat) (n : Int) : Bool := tnB a b c d s t u v && decide (0 ≤ n ∧ n ≤ 32)
def taB (a b c d s t u v : Nat) (n : Int) : Bool := ta0 a b c d s t u v n && fins (taL a b n)
def taR (a b c d s t u v : Nat) (n : Int) : List Nat := if ta0 a b c d s t u v n then lstR (taL a b n) else []
theorem ta_bad {a b c d s t u v : Nat} {n : Int} (h : ta0 a b c d s t u v n = false) : taB a b c d s t u v n = false ∧ taR a b c d s t u v n = [] := by
  unfold taB taR; rw [h]; exact ⟨rfl, rfl⟩
theorem ta_good {a b c d s t u v : Nat} {n : Int} (h : ta0 a b c d s t u v n = true) : taB a b c d s t u v n = fins (taL a b n) ∧ taR a b c d s t u v n = lstR (taL a b n) := by
  unfold taB taR; rw [h]; exact ⟨rfl, rfl⟩
theorem taR_len (a b c d s t u v : Nat) (n : Int) : (taR a b c d s t u v n).length ≤ 1048576 := by
  unfold taR
  split
  · rename_i h
    unfold ta0 at h
    have := of_decide_eq_true (Bool.and_eq_true _ _ ▸ h).2
    unfold lstR
    split
    · unfold taL; rw [tells_len]; omega
    · simp
  · simp
theorem ta_step (a b k : Nat) (w1 w2 : World) : cn .f32 (fopR .add .f32 a (fopR .mul .f32 (floatOfInt .f32 ((k + 1 : Nat) : Int)) b w1) w2) = taT a b k := by rw [cn_fopR, cn_fopR]; rfl
theorem forth_any (n : Int) (w : World) : Calls Try.prog 65 #[.int .i64 n] w fun e w' => e = .returned (.bool (decide (0 ≤ n ∧ n ≤ 32))) ∧ w = w' := by
  by_cases h1 : 0 ≤ n
  · by_cases h2 : n ≤ 32
    · have d1 : decide ((0 : Int) ≤ n) = true := decide_eq_true h1
      have d2 : decide (n ≤ (32 : Int)) = true := decide_eq_true h2
      have HB := Lib.hid (decide_eq_true (show 0 ≤ n ∧ n ≤ 32 from ⟨h1, h2⟩))
      go_enter Try.func65, Try.ntmps65
      go_wp2
      go_ret
      exact ⟨by first | rfl | (rw [HB.out]; rfl), rfl⟩
    · have d1 : decide ((0 : Int) ≤ n) = true := decide_eq_true h1
      have d2 : decide (n ≤ (32 : Int)) = false := decide_eq_false h2
      have HB := Lib.hid (decide_eq_false (show ¬ (0 ≤ n ∧ n ≤ 32) from fun h => h2 h.2))
      go_enter Try.func65, Try.ntmps65
      go_wp2
      go_ret
      exact ⟨by first | rfl | (rw [HB.out]; rfl), rfl⟩
  · have d1 : decide ((0 : Int) ≤ n) = false := decide_eq_false h1
    have HB := Lib.hid (decide_eq_false (show ¬ (0 ≤ n ∧ n ≤ 32) from fun h => h1 h.1))
    go_enter Try.func65, Try.ntmps65
    go_wp2
    go_ret
    exact ⟨by first | rfl | (rw [HB.out]; rfl), rfl⟩
set_option maxHeartbeats 2000000 in
set_option maxRecDepth 100000 in
theorem specTa_any (a b c d s t u v : Nat) (n : Int) (w : World) :
    Calls Try.prog 32 #[.agg #[.float .f32 a, .float .f32 b, .float .f32 c, .float .f32 d, .float .f32 s, .float .f32 t, .float .f32 u, .float .f32 v], .int .i64 n] w (RetOB 22 (taR a b c d s t u v n) (taB a b c d s t u v n) w) := by
  obtain ⟨i0, hi, hz0, hz1, hz2⟩ := info_parts Try.infoR
  have G := Lib.hid ((Below.refl w.heap.size w).alloc (Nat.le_refl _) (.cells #[.float .f32 a, .float .f32 b, .float .f32 c, .float .f32 d, .float .f32 s, .float .f32 t, .float .f32 u, .float .f32 v] 39))
  have HI := Lib.hid (show NumsIn (w.alloc (.cells #[.float .f32 a, .float .f32 b, .float .f32 c, .float .f32 d, .float .f32 s, .float .f32 t, .float .f32 u, .float .f32 v] 39)) w.heap.size [a, b, c, d, s, t, u, v] from NumsIn.new w [a, b, c, d, s, t, u, v] 39)
  cases hv : tnB a b c d s t u v
  · have HV := Lib.hid hv
    have HB := Lib.hid (ta_bad (n := n) (show ta0 a b c d s t u v n = false by unfold ta0; rw [hv]; rfl))
    clear hv
    go_enter Try.func32, Try.ntmps32
    go_wp2_with fail
    refine (sptn_any _ _ _ _ _ _ _ _ _ _ HI.out).mono ?_
    rw [HV.out]
    rintro e w' ⟨m, rfl, rfl⟩
    go_wp2_with fail
    go_ret2
    exact fail_ob _ HB.out.1 HB.out.2 (below_drewN G.out _)
  · by_cases hn : 0 ≤ n ∧ n ≤ 32
    · obtain ⟨N, rfl⟩ : ∃ N : Nat, n = N := ⟨n.toNat, by omega⟩
      have hN : N ≤ 32 := by omega
      have HV := Lib.hid hv
      have HB := Lib.hid (ta_good (show ta0 a b c d s t u v (N : Int) = true by unfold ta0; rw [hv, decide_eq_true hn]; rfl))
      clear hv
      go_enter Try.func32, Try.ntmps32
      go_wp2_with fail
      refine (sptn_any _ _ _ _ _ _ _ _ _ _ HI.out).mono ?_
      rw [HV.out]
      rintro e w' ⟨m, rfl, rfl⟩
      go_wp2_with fail
      refine (in_yes _ _ _ _ (by omega) (by omega)).mono ?_
      rintro e w' ⟨rfl, rfl⟩
      have HI1 := Lib.hid (HI.out.drewN m)
      have G1 := Lib.hid (below_drewN G.out m)
      generalize World.drewN _ m = wq at *
      have hlt0 : w.heap.size < wq.heap.size := HI1.out.lt
      have HO := Lib.hid (FOwn.made (T := 22) (B := wq.heap.size) wq (Nat.le_refl _))
      have HB0 := Lib.hid ((Below.refl wq.heap.size wq).alloc (Nat.le_refl _) (.cells #[] 22))
      go_wp2
      go_loopw [6, 7] (fun q i wr => ∃ (k : Nat) (rs : List Nat), k ≤ N ∧ i = .int .i64 ((k + 1 : Nat) : Int) ∧ Hid (rs.length = k) ∧ Hid (FOwn 22 wq.heap.size wr q rs) ∧ Hid (cnl rs = tells (taT a b) k) ∧ Hid (Below wq.heap.size wq wr)) (fun _ i _ => N + 1 - (intOf i).toNat)
      case atStart => exact ⟨0, [], Nat.zero_le _, rfl, Lib.hid rfl, HO, Lib.hid (by simp [cnl, tells]), HB0⟩
      case round =>
        rename_i wr
        obtain ⟨k, rs, hk, rfl, hrl, hown, hrs, hbel⟩ := hrel
        by_cases hlt : k < N
        · have hkN : ((k + 1 : Nat) : Int) ≤ (N : Int) := by omega
          obtain ⟨c0, c1, -, -, -, -, -, -⟩ := (HI1.out.belowB hbel.out hlt0).c8
          have hsz := hbel.out.size
          have hrk : rs.length ≤ 1048576 := by have := hrl.out; omega
          obtain ⟨f, hf⟩ : ∃ f, floatOfInt .f32 ((k + 1 : Nat) : Int) = f := ⟨_, rfl⟩
          have hf2 : floatOfInt .f32 ((k : Int) + 1) = f := by rw [← hf]; exact congrArg _ (by omega)
          have HSt := Lib.hid (show ∀ w1 w2, cn .f32 (fopR .add .f32 a (fopR .mul .f32 f b w1) w2) = taT a b k from fun w1 w2 => by rw [← hf]; exact ta_step a b k w1 w2)
          go_wp2_with (at_builtin; refine wpList_append_own _ rfl _ _ 47 rfl wq.heap.size 22 i0 (.float .f32 0) 1 4 Try.underlying47 hi hz0 hz1 hz2 rfl (by decide) _ _ _ rfl (World.ownsRow.alloc (FOwn.drewN hown.out _) _) ⟨wr.heap.size, 0, none⟩ 1 1 [_] rfl rfl (one_new rfl) ?c2 ?c3 ?c4 ?c5 ?_)
          case c2 => intro u hu; simp at hu; subst hu; rfl
          case c3 => unfold maxLen; omega
          case c4 => omega
          case c5 => simp; show wq.heap.size ≤ wr.heap.size + 1; omega
          intro v' w1 hown' hgrow _
          have R := FOwn.push hown.out hbel.out hsz hown' hgrow
          have hstep := Lib.hid R
          have hcs := Lib.hid (fun w1 w2 : World => (show cnl (rs ++ [_]) = tells (taT a b) (k + 1) from by rw [tells_succ]; exact cnl_snoc hrs.out (HSt.out w1 w2)))
          have hrl2 := Lib.hid hrl.out
          clear R hown' hgrow hown hbel hrs hrl c0 c1
          go_wp2
          go_roundw
          case rel =>
            refine ⟨k + 1, _, by omega, by go_num, ?_, Lib.hid hstep.out.1, Lib.hid (hcs.out _ _), Lib.hid hstep.out.2⟩
            exact Lib.hid (by rw [List.length_append, hrl2.out]; rfl)
          case measure => simp [intOf]; omega
        · have hkl : k = N := by omega
          subst hkl
          have hfin := Lib.hid (show cnl rs = taL a b (k : Int) from hrs.out)
          have hrk : rs.length ≤ 1048576 := by have := hrl.out; omega
          obtain ⟨A, cp, rfl, hsl, _⟩ := hown.out.sl
          have HSL := Lib.hid hsl
          have HBX := Lib.hid (G1.out.trans (hbel.out.mono (show w.heap.size ≤ wq.heap.size by omega)))
          have HOX := Lib.hid (hown.out.mono (show w.heap.size ≤ wq.heap.size by omega))
          have hkN : decide (((k + 1 : Nat) : Int) ≤ (k : Int)) = false := decide_eq_false (by omega)
          clear hrs hsl
          go_wp2_with fail
          refine (specGiven_any 22 _ _ rs (taL a b (k : Int)) _ w _ rfl HSL.out hfin.out hrk HOX.out HBX.out).mono ?_
          rintro e w1 ⟨v, rs', rfl, ho, hx', hb'⟩
          have HO2 := Lib.hid ho
          have HX2 := Lib.hid hx'
          have HB2 := Lib.hid hb'
          clear ho hx' hb'
          go_wp2_with fail
          go_ret2
          exact ⟨v, rs', by rw [HB.out.1]; rfl, HO2.out, HX2.out.trans HB.out.2.symm, HB2.out⟩
    · have HV := Lib.hid hv
      have HB := Lib.hid (ta_bad (show ta0 a b c d s t u v n = false by unfold ta0; rw [hv, decide_eq_false hn]; rfl))
      clear hv
      go_enter Try.func32, Try.ntmps32
      go_wp2_with fail
      refine (sptn_any _ _ _ _ _ _ _ _ _ _ HI.out).mono ?_
      rw [HV.out]
      rintro e w' ⟨m, rfl, rfl⟩
      go_wp2_with fail
      refine (in_no _ _ _ _ (by omega)).mono ?_
      rintro e w' ⟨rfl, rfl⟩
      go_wp2_with fail
      go_ret2
      exact fail_ob _ HB.out.1 HB.out.2 (below_drewN G.out _)
/-- The closure of TrendAhead. -/
theorem ta1_any (p B0 B k : Nat) (a b c d s t u v : Nat) (wr : World) (h : NumsIn wr p [a, b, c, d, s, t, u, v]) (hk : k ≤ 32) :
    Calls Try.prog 67 #[.int .i64 k, .pointer (some ⟨p, 0, none⟩)] wr (Tells (taT a b) (fun _ wr => NumsIn wr p [a, b, c, d, s, t, u, v]) B0 B k wr) := by
  have hw : wrap64 ((k : Int) + 1) = ((k + 1 : Nat) : Int) := by unfold wrap64; omega
  have HI := Lib.hid h
  have HSt := Lib.hid (ta_step a b k)
  obtain ⟨c0, c1, -, -, -, -, -, -⟩ := h.c8
  clear h hk
  go_enter Try.func67, Try.ntmps67
  go_wp2
  go_ret
  exact Tells.quiet (HSt.out _ _) (HI.out.drewN _)
set_option maxHeartbeats 1000000 in
theorem implTa_any (a b c d s t u v : Nat) (n : Int) (w : World) :
    Calls Try.prog 33 #[.agg #[.float .f32 a, .float .f32 b, .float .f32 c, .float .f32 d, .float .f32 s, .float .f32 t, .float .f32 u, .float .f32 v], .int .i64 n] w (RetOB 22 (taR a b c d s t u v n) (taB a b c d s t u v n) w) := by
  have hmf : ∀ (fn : Fn) (first cap : Array Value) (w : World), (Instr.makeFunc fn first cap).run Try.prog w = .ok (.func fn first cap) w := fun _ _ _ _ => rfl
  have G := Lib.hid ((Below.refl w.heap.size w).alloc (Nat.le_refl _) (.cells #[.float .f32 a, .float .f32 b, .float .f32 c, .float .f32 d, .float .f32 s, .float .f32 t, .float .f32 u, .float .f32 v] 39))
  have HI := Lib.hid (show NumsIn (w.alloc (.cells #[.float .f32 a, .float .f32 b, .float .f32 c, .float .f32 d, .float .f32 s, .float .f32 t, .float .f32 u, .float .f32 v] 39)) w.heap.size [a, b, c, d, s, t, u, v] from NumsIn.new w [a, b, c, d, s, t, u, v] 39)
  cases hv : tnB a b c d s t u v
  · have HV := Lib.hid hv
    have HB := Lib.hid (ta_bad (n := n) (show ta0 a b c d s t u v n = false by unfold ta0; rw [hv]; rfl))
    clear hv
    go_enter Try.func33, Try.ntmps33
    go_wp2_with fail
    refine (imVtn_any _ _ _ _ _ _ _ _ _).mono ?_
    rw [HV.out]
    rintro e w1 ⟨rfl, b1⟩
    have G1 := Lib.hid (G.out.trans (b1.mono G.out.size))
    clear b1
    go_wp2_with fail
    go_ret2
    exact fail_ob _ HB.out.1 HB.out.2 G1.out
  · cases hn : decide (0 ≤ n ∧ n ≤ 32)
    · have HV := Lib.hid hv
      have HN := Lib.hid hn
      have HB := Lib.hid (ta_bad (show ta0 a b c d s t u v n = false by unfold ta0; rw [hv, hn]; rfl))
      clear hv hn
      go_enter Try.func33, Try.ntmps33
      go_wp2_with fail
      refine (imVtn_any _ _ _ _ _ _ _ _ _).mono ?_
      rw [HV.out]
      rintro e w1 ⟨rfl, b1⟩
      have G1 := Lib.hid (G.out.trans (b1.mono G.out.size))
      clear b1
      go_wp2_with fail
      refine (forth_any _ _).mono ?_
      rw [HN.out]
      rintro e w' ⟨rfl, rfl⟩
      go_wp2_with fail
      go_ret2
      exact fail_ob _ HB.out.1 HB.out.2 G1.out
    · have hn2 := of_decide_eq_true hn
      obtain ⟨N, rfl⟩ : ∃ N : Nat, n = N := ⟨n.toNat, by omega⟩
      have hN : N ≤ 32 := by omega
      have HV := Lib.hid hv
      have HN := Lib.hid hn
      have HB := Lib.hid (ta_good (show ta0 a b c d s t u v (N : Int) = true by unfold ta0; rw [hv, hn]; rfl))
      clear hv hn
      go_enter Try.func33, Try.ntmps33
      go_wp2_with fail
      refine (imVtn_any _ _ _ _ _ _ _ _ _).mono ?_
      rw [HV.out]
      rintro e w1 ⟨rfl, b1⟩
      have G1 := Lib.hid (G.out.trans (b1.mono G.out.size))
      have HI1 := Lib.hid (HI.out.below b1)
      clear b1
      go_wp2_with fail
      refine (forth_any _ _).mono ?_
      rw [HN.out]
      rintro e w' ⟨rfl, rfl⟩
      go_wp2_with fail
      have hlt0 : w.heap.size < w1.heap.size := HI1.out.lt
      refine (places_any 67 #[.pointer (some ⟨w.heap.size, 0, none⟩)] (taT a b) (fun _ wr => NumsIn wr w.heap.size [a, b, c, d, s, t, u, v]) w.heap.size N w1 (enter_of Try.func67 (by kernel_rfl) rfl) (by omega) (by omega) HI1.out (fun k wr wr' h hb => h.belowB hb hlt0) (fun k wr hk hsz hI => ta1_any _ _ _ _ _ _ _ _ _ _ _ _ _ hI (by omega))).mono ?_
      rintro e w2 ⟨v2, rs, rfl, ho, hx, hb⟩
      have HO := Lib.hid (ho.mono (show w.heap.size ≤ _ by omega))
      have HX := Lib.hid (show cnl rs = lstR (taL a b (N : Int)) from hx)
      have HBl := Lib.hid (G1.out.trans hb)
      have HF := Lib.hid (show fins (tells (taT a b) N) = taB a b c d s t u v (N : Int) by rw [HB.out.1]; rfl)
      rw [HF.out]
      clear ho hx hb
      go_wp2
      go_ret2
      exact ⟨v2, rs, rfl, HO.out, HX.out.trans HB.out.2.symm, HBl.out⟩
end Go.Proofs.Ythohhiaeaefdcaa
