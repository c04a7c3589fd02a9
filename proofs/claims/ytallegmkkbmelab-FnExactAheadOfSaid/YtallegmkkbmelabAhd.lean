/-
  AheadOf, plainly, and of the model.
-/
import Derived.Test.YtallegmkkbmelabGue
import Derived.Test.YtallegmkkbmelabPus
namespace Go.Proofs.Ytallegmkkbmelab
open Ieee Go.RowKit
set_option linter.unusedVariables false

/-- The slopes and the factor, behind k numbers. -/
def ahD (d : Nat) : Nat → Nat × Nat
  | 0 => (cn .f32 d, cn .f32 d)
  | k + 1 => (aop .add .f32 (ahD d k).1 (aop .mul .f32 (ahD d k).2 (cn .f32 d)), aop .mul .f32 (ahD d k).2 (cn .f32 d))
def ahT (l s : Nat) (zs : List Nat) (t : Int) (d k : Nat) : Nat := gW (cn .f32 l) (cn .f32 s) (ahD d k).1 (cn .f32 (zs.getD ((t.toNat + k) % zs.length) 0))
def ahL (l s : Nat) (zs : List Nat) (t : Int) (d : Nat) (n : Int) : List Nat := tells (ahT l s zs t d) n.toNat
def ah0 (l s : Nat) (zs : List Nat) (t : Int) (a b c d : Nat) (n : Int) : Bool := (stB l s zs t && shB4 a b c d) && decide (1 ≤ n ∧ n ≤ 32)
def ahB (l s : Nat) (zs : List Nat) (t : Int) (a b c d : Nat) (n : Int) : Bool := ah0 l s zs t a b c d n && fins (ahL l s zs t d n)
def ahR (l s : Nat) (zs : List Nat) (t : Int) (a b c d : Nat) (n : Int) : List Nat := if ah0 l s zs t a b c d n then lstR (ahL l s zs t d n) else []
theorem ah_bad {l s : Nat} {zs : List Nat} {t : Int} {a b c d : Nat} {n : Int} (h : ah0 l s zs t a b c d n = false) : ahB l s zs t a b c d n = false ∧ ahR l s zs t a b c d n = [] := by
  unfold ahB ahR; rw [h]; exact ⟨rfl, rfl⟩
theorem ah_good {l s : Nat} {zs : List Nat} {t : Int} {a b c d : Nat} {n : Int} (h : ah0 l s zs t a b c d n = true) : ahB l s zs t a b c d n = fins (ahL l s zs t d n) ∧ ahR l s zs t a b c d n = lstR (ahL l s zs t d n) := by
  unfold ahB ahR; rw [h]; exact ⟨rfl, rfl⟩
theorem ahR_len (l s : Nat) (zs : List Nat) (t : Int) (a b c d : Nat) (n : Int) : (ahR l s zs t a b c d n).length ≤ 1048576 := by
  unfold ahR
  split
  · rename_i h
    unfold ah0 at h
    have := of_decide_eq_true (Bool.and_eq_true _ _ ▸ h).2
    unfold lstR
    split
    · unfold ahL; rw [tells_len]; omega
    · simp
  · simp

set_option maxHeartbeats 2000000 in
set_option maxRecDepth 100000 in
theorem specAh_any (l s : Nat) (a : Option Addr) (len cap : Nat) (zs : List Nat) (t : Int) (x y c d : Nat) (n : Int) (w : World) (h : FSl w a len zs) (hm : len ≤ 1048576) :
    Calls Try.prog 29 #[.agg #[.float .f32 l, .float .f32 s, .slice a len cap, .int .i64 t], .agg #[.float .f32 x, .float .f32 y, .float .f32 c, .float .f32 d], .int .i64 n] w (RetOB 28 (ahR l s zs t x y c d n) (ahB l s zs t x y c d n) w) := by
  obtain ⟨i0, hi, hz0, hz1, hz2⟩ := info_parts Try.infoR
  have G1 := (Below.refl w.heap.size w).alloc (Nat.le_refl _) (.cells #[.float .f32 l, .float .f32 s, .slice a len cap, .int .i64 t] 36)
  have G := Lib.hid (G1.alloc (by simp) (.cells #[.float .f32 x, .float .f32 y, .float .f32 c, .float .f32 d] 38))
  have HI := Lib.hid ((StIn.new w l s a len cap t 36).alloc (.cells #[.float .f32 x, .float .f32 y, .float .f32 c, .float .f32 d] 38))
  have HJ := Lib.hid (show ShIn _ (w.heap.size + 1) x y c d from by simpa using ShIn.new (w.alloc (.cells #[.float .f32 l, .float .f32 s, .slice a len cap, .int .i64 t] 36)) x y c d 38)
  have H := Lib.hid (FSl.below h G.out)
  have hlen := Lib.hid h.1
  clear h G1
  cases hv : stB l s zs t && shB4 x y c d
  · have HV := Lib.hid hv
    have HB := Lib.hid (ah_bad (n := n) (show ah0 l s zs t x y c d n = false by unfold ah0; rw [hv]; rfl))
    clear hv
    go_enter Try.func29, Try.ntmps29
    go_wp2_with fail
    refine (spCan_any _ _ _ _ _ _ _ _ _ _ _ _ _ _ HI.out HJ.out H.out hm).mono ?_
    rw [HV.out]
    rintro e w' ⟨m, rfl, rfl⟩
    go_wp2_with fail
    go_ret2
    exact fail_ob _ HB.out.1 HB.out.2 (below_drewN G.out _)
  · by_cases hn : 1 ≤ n ∧ n ≤ 32
    · have HV := Lib.hid hv
      have HB := Lib.hid (ah_good (show ah0 l s zs t x y c d n = true by unfold ah0; rw [hv, decide_eq_true hn]; rfl))
      obtain ⟨hse, -, -, t0, t1⟩ := stB_t (Bool.and_eq_true _ _ ▸ hv).1
      obtain ⟨k0, hk⟩ : ∃ k0 : Nat, t = k0 := ⟨t.toNat, by omega⟩
      have hl96 : len ≤ 96 := by have := (serB_t (seB_t hse).1).2.1; rw [hlen.out] at this; exact this
      rw [hlen.out] at t1
      have hkl : k0 < len := by omega
      obtain ⟨N, hN⟩ : ∃ N : Nat, n = N := ⟨n.toNat, by omega⟩
      subst hk hN
      have hN32 : N ≤ 32 := by omega
      have HN := Lib.hid hn
      clear hv t0 t1 hse hn
      obtain ⟨b, off, rfl, hb, hc⟩ := H.out.at (by omega)
      have HC := Lib.hid hc
      clear hc
      go_enter Try.func29, Try.ntmps29
      go_wp2_with fail
      refine (spCan_any _ _ _ _ _ _ _ _ _ _ _ _ _ _ HI.out HJ.out H.out hm).mono ?_
      rw [HV.out]
      rintro e w' ⟨m, rfl, rfl⟩
      go_wp2_with fail
      refine (in_yes _ _ _ _ HN.out.1 HN.out.2).mono ?_
      rintro e w' ⟨rfl, rfl⟩
      have HO := Lib.hid (show FOwn 28 (w.heap.size + 1 + 1) _ (.slice (some ⟨w.heap.size + 1 + 1, 0, none⟩) 0 0) [] from by simpa using FOwn.made (T := 28) (B := w.heap.size + 1 + 1) (((w.alloc (.cells #[.float .f32 l, .float .f32 s, .slice (some ⟨b, off, none⟩) len cap, .int .i64 (k0 : Int)] 36)).alloc (.cells #[.float .f32 x, .float .f32 y, .float .f32 c, .float .f32 d] 38)).drewN m) (by simp))
      have HB0 := Lib.hid ((below_drewN (Below.refl (w.heap.size + 1 + 1) ((w.alloc (.cells #[.float .f32 l, .float .f32 s, .slice (some ⟨b, off, none⟩) len cap, .int .i64 (k0 : Int)] 36)).alloc (.cells #[.float .f32 x, .float .f32 y, .float .f32 c, .float .f32 d] 38))) m).alloc (by simp) (.cells #[] 28))
      go_wp2_with fail
      generalize hW1 : (w.alloc (.cells #[.float .f32 l, .float .f32 s, .slice (some ⟨b, off, none⟩) len cap, .int .i64 (k0 : Int)] 36)).alloc (.cells #[.float .f32 x, .float .f32 y, .float .f32 c, .float .f32 d] 38) = W1 at *
      have hbW : b < w.heap.size + 1 + 1 := by have : W1.heap.size = w.heap.size + 1 + 1 := by rw [← hW1]; simp
                                               omega
      have hW1s : W1.heap.size = w.heap.size + 1 + 1 := by rw [← hW1]; simp
      clear hW1
      go_loopw [8, 9, 10, 11, 12] (fun v dd ff i at_ wr => ∃ (k : Nat) (rs : List Nat) (rd rf : Nat), k ≤ N ∧ i = .int .i64 k ∧ dd = .float .f32 rd ∧ ff = .float .f32 rf ∧ Hid (rs.length = k) ∧ Hid (FOwn 28 (w.heap.size + 1 + 1) wr v rs) ∧ Hid (cnl rs = tells (ahT l s zs (k0 : Int) d) k) ∧ Hid (cn .f32 rd = (ahD d k).1) ∧ Hid (cn .f32 rf = (ahD d k).2) ∧ Hid (Below (w.heap.size + 1 + 1) W1 wr)) (fun _ _ _ i _ _ => N - (intOf i).toNat)
      case atStart => exact ⟨0, [], d, d, Nat.zero_le _, rfl, rfl, rfl, Lib.hid rfl, HO, Lib.hid (by simp [cnl, tells]), Lib.hid rfl, Lib.hid rfl, HB0⟩
      case round =>
        rename_i wr
        obtain ⟨k, rs, rd, rf, hk, rfl, rfl, rfl, hrl, hown, hrs, hD, hF, hbel⟩ := hrel
        by_cases hlt : k < N
        · have hmod : (k0 + k) % len < len := Nat.mod_lt _ (by omega)
          have hw1 : IntKind.i64.wrap ((k0 : Int) + (k : Int)) = ((k0 + k : Nat) : Int) := by rw [IntKind.wrap_i64]; omega
          have hr1 : ((k0 : Int) + (k : Int)) % (len : Int) = (((k0 + k) % len : Nat) : Int) := by rw [← Int.natCast_add, ← Int.natCast_emod]
          have hw2 : IntKind.i64.wrap (((k0 + k) % len : Nat) : Int) = (((k0 + k) % len : Nat) : Int) := by rw [IntKind.wrap_i64]; omega
          have hne : (len : Int) ≠ 0 := by omega
          have hdn : decide ((len : Int) = 0) = false := decide_eq_false hne
          have hbq : ((len : Int) == 0) = false := by rw [beq_eq_false_iff_ne]; exact hne
          obtain ⟨M, hM⟩ : ∃ M, (k0 + k) % len = M := ⟨_, rfl⟩
          rw [hM] at hmod hr1 hw2
          have hck := HC.out M hmod
          rw [← hbel.out.cell (p := ⟨b, off + M, none⟩) hbW] at hck
          obtain ⟨c0, c1, c2, c3⟩ := HI.out.belowB hbel.out (show w.heap.size < w.heap.size + 1 + 1 by omega)
          obtain ⟨-, -, -, e3⟩ := HJ.out.belowB hbel.out (show w.heap.size + 1 < w.heap.size + 1 + 1 by omega)
          have HSt := Lib.hid (show ∀ w1 w2 w3, cn .f32 (fopR .add .f32 (fopR .add .f32 l (fopR .mul .f32 rd s w1) w2) (zs.getD M 0) w3) = ahT l s zs (k0 : Int) d k from fun w1 w2 w3 => by
            rw [gW_step, hD.out]
            unfold ahT
            rw [hlen.out, show ((k0 : Int).toNat + k) % len = M from hM])
          generalize zs.getD M 0 = z at *
          have hsz := hbel.out.size
          have hM0 : (0 : Int) ≤ (M : Int) := by omega
          have hMl : (M : Int) < (len : Int) := by omega
          have hsW := hbel.out.size
          have hb96 : w.heap.size + 1 + 1 ≤ wr.heap.size + 1 := by omega
          have hrk : rs.length ≤ 1048576 := by have := hrl.out; omega
          have h3 : rs.length + 1 ≤ maxLen := by unfold maxLen; omega
          have h4 : (rs.length + 1) * 4 ≤ 140737488355328 := by omega
          have hkN : (k : Int) < (N : Int) := by omega
          have HMM := Lib.hid hM
          clear hM
          go_wp2_with fail
          have hsB : w.heap.size + 1 + 1 ≤ wr.heap.size := by omega
          have HRl := Lib.hid hrl.out
          clear hrl
          go_region_law ((refine step_append_lies _ (by rfl) _ _ 22 (by rfl) (w.heap.size + 1 + 1) 28 i0 (.float .f32 0) 1 4 Try.underlying22 hi hz0 hz1 hz2 rfl (by decide) _ _ _ (by rfl) (own_at hown.out (by rfl) _) ⟨wr.heap.size, 0, none⟩ 1 1 [_] (by rfl) (by rfl) (one_new (by rfl)) (by simp [Value.oneCell']) (by omega) h3 h4 (by simp; omega) _ (by rfl) ?_; intro gg cc w1 hown1 hgrow hat hlt1))
          all_goals
            have R := push_at (rs := rs) hown.out ((below_drewN hbel.out _).alloc (by exact hsB) _) (by simp; omega) hown1 hgrow
            have hR := Lib.hid R
            obtain ⟨-, -, -, d3⟩ := HJ.out.belowB R.2 (show w.heap.size + 1 < w.heap.size + 1 + 1 by omega)
            clear R hown1 hgrow hown hbel hck hat hlt1 c0 c1 c2 c3 e3
            go_wp2_with fail
            go_roundw
            case rel =>
              refine ⟨k + 1, _, _, _, by omega, by go_num, rfl, rfl, ?_, Lib.hid (FOwn.drewN hR.out.1 _), Lib.hid ?_, Lib.hid ?_, Lib.hid ?_, Lib.hid (below_drewN hR.out.2 _)⟩
              · exact Lib.hid (by rw [List.length_append, HRl.out]; rfl)
              · rw [tells_succ]; exact cnl_snoc hrs.out (HSt.out _ _ _)
              · rw [cn_fopR, cn_fopR, hD.out, hF.out]; rfl
              · rw [cn_fopR, hF.out]; rfl
            case measure => simp [intOf]; omega
        · have hkl : k = N := by omega
          subst hkl
          have hfin := Lib.hid (show cnl rs = ahL l s zs (k0 : Int) d (k : Int) from hrs.out)
          have hrk : rs.length ≤ 1048576 := by have := hrl.out; omega
          obtain ⟨A, cp, rfl, hsl, _⟩ := hown.out.sl
          have HSL := Lib.hid hsl
          have HBX := Lib.hid (G.out.trans (hbel.out.mono (show w.heap.size ≤ w.heap.size + 1 + 1 by omega)))
          have HOX := Lib.hid (hown.out.mono (show w.heap.size ≤ w.heap.size + 1 + 1 by omega))
          clear hrs hsl
          go_wp2_with fail
          refine (specList_any 28 _ _ rs (ahL l s zs (k0 : Int) d (k : Int)) _ w _ rfl HSL.out hfin.out hrk HOX.out HBX.out).mono ?_
          rintro e w1 ⟨v, rs', rfl, ho, hx', hb'⟩
          have HO2 := Lib.hid ho
          have HX2 := Lib.hid hx'
          have HB2 := Lib.hid hb'
          clear ho hx' hb'
          go_wp2_with fail
          go_ret2
          exact ⟨v, rs', by rw [HB.out.1]; rfl, HO2.out, HX2.out.trans HB.out.2.symm, HB2.out⟩
    · have HV := Lib.hid hv
      have HB := Lib.hid (ah_bad (show ah0 l s zs t x y c d n = false by unfold ah0; rw [hv, decide_eq_false hn]; rfl))
      clear hv
      go_enter Try.func29, Try.ntmps29
      go_wp2_with fail
      refine (spCan_any _ _ _ _ _ _ _ _ _ _ _ _ _ _ HI.out HJ.out H.out hm).mono ?_
      rw [HV.out]
      rintro e w' ⟨m, rfl, rfl⟩
      go_wp2_with fail
      refine (in_no _ _ _ _ (by omega)).mono ?_
      rintro e w' ⟨rfl, rfl⟩
      go_wp2_with fail
      go_ret2
      exact fail_ob _ HB.out.1 HB.out.2 (below_drewN G.out _)
end Go.Proofs.Ytallegmkkbmelab
