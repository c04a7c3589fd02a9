/-
  PastAhead of the model.
-/
import Derived.Test.YtndmffkpbihcmaaPai
namespace Go.Proofs.Ytndmffkpbihcmaa
open Ieee Go.RowKit
set_option linter.unusedVariables false
set_option maxHeartbeats 2000000 in
set_option maxRecDepth 100000 in
theorem spPah_any (a : Option Addr) (n cap : Nat) (ks : List Nat) (a' : Option Addr) (n' cap' : Nat) (ts : List Nat) (m : Nat) (N : Int) (w : World) (h : FSl w a n ks) (h' : FSl w a' n' ts) (hm : n ≤ 1048576) (hm' : n' ≤ 1048576) :
    Calls Try.prog 21 #[.slice a n cap, .slice a' n' cap', .float .f32 m, .int .i64 N] w (RetOB 33 (paR ks ts m N) (paOk ks ts m N) w) := by
  obtain ⟨i0, hi, hz0, hz1, hz2⟩ := info_parts Try.infoR
  have H := Lib.hid h
  have H' := Lib.hid h'
  have HL := Lib.hid h.1
  have HL' := Lib.hid h'.1
  clear h h'
  cases hs : serB ks
  · have HS := Lib.hid hs
    have HB := Lib.hid (pa_bad (show paB ks ts m N = false by unfold paB paP; rw [hs]; rfl))
    clear hs
    go_enter Try.func21, Try.ntmps21
    go_wp2_with fail
    refine (specSeries_any _ _ _ ks _ H.out hm).mono ?_
    rw [HS.out]
    rintro e w' ⟨q0, rfl, rfl⟩
    go_wp2_with fail
    go_ret2
    exact fail_ob _ HB.out.1 HB.out.2 (below_drewN (Below.refl _ _) _)
  have HS := Lib.hid hs
  cases ht : paTm ts
  · have HT := Lib.hid ht
    have HB := Lib.hid (pa_bad (show paB ks ts m N = false by unfold paB paP; rw [ht]; simp))
    clear hs ht
    go_enter Try.func21, Try.ntmps21
    go_wp2_with fail
    refine (specSeries_any _ _ _ ks _ H.out hm).mono ?_
    rw [HS.out]
    rintro e w' ⟨q0, rfl, rfl⟩
    go_wp2_with fail
    refine (spTerms_any _ _ _ ts _ (FSl.drewN H'.out _) hm').mono ?_
    rw [HT.out]
    rintro e w' ⟨q1, rfl, rfl⟩
    go_wp2_with fail
    go_ret2
    exact fail_ob _ HB.out.1 HB.out.2 (below_drewN (Below.refl _ _) _)
  have HT := Lib.hid ht
  cases hf : fin .f32 m
  · have HF := Lib.hid hf
    have HB := Lib.hid (pa_bad (show paB ks ts m N = false by unfold paB paP; rw [hf]; simp))
    clear hs ht hf
    go_enter Try.func21, Try.ntmps21
    go_wp2_with fail
    refine (specSeries_any _ _ _ ks _ H.out hm).mono ?_
    rw [HS.out]
    rintro e w' ⟨q0, rfl, rfl⟩
    go_wp2_with fail
    refine (spTerms_any _ _ _ ts _ (FSl.drewN H'.out _) hm').mono ?_
    rw [HT.out]
    rintro e w' ⟨q1, rfl, rfl⟩
    go_wp2_with fail
    refine (l01Finite_any _ _).mono ?_
    rw [HF.out]
    rintro e w' ⟨q2, rfl, rfl⟩
    go_wp2_with fail
    go_ret2
    exact fail_ob _ HB.out.1 HB.out.2 (below_drewN (Below.refl _ _) _)
  have HF := Lib.hid hf
  by_cases hnn : n' ≤ n
  rotate_left
  · have hd : decide ((n : Int) < (n' : Int)) = true := decide_eq_true (by omega)
    have HB := Lib.hid (pa_bad (show paB ks ts m N = false by unfold paB paP; rw [HL.out, HL'.out, decide_eq_false hnn]; simp))
    clear hs ht hf
    go_enter Try.func21, Try.ntmps21
    go_wp2_with fail
    refine (specSeries_any _ _ _ ks _ H.out hm).mono ?_
    rw [HS.out]
    rintro e w' ⟨q0, rfl, rfl⟩
    go_wp2_with fail
    refine (spTerms_any _ _ _ ts _ (FSl.drewN H'.out _) hm').mono ?_
    rw [HT.out]
    rintro e w' ⟨q1, rfl, rfl⟩
    go_wp2_with fail
    refine (l01Finite_any _ _).mono ?_
    rw [HF.out]
    rintro e w' ⟨q2, rfl, rfl⟩
    go_wp2_with fail
    go_ret2
    exact fail_ob _ HB.out.1 HB.out.2 (below_drewN (Below.refl _ _) _)
  have hd : decide ((n : Int) < (n' : Int)) = false := decide_eq_false (by omega)
  by_cases hN : 0 ≤ N ∧ N ≤ 32
  rotate_left
  · skip
    have HB := Lib.hid (pa_bad (show paB ks ts m N = false by unfold paB paP; rw [decide_eq_false hN]; simp))
    clear hs ht hf
    go_enter Try.func21, Try.ntmps21
    go_wp2_with fail
    refine (specSeries_any _ _ _ ks _ H.out hm).mono ?_
    rw [HS.out]
    rintro e w' ⟨q0, rfl, rfl⟩
    go_wp2_with fail
    refine (spTerms_any _ _ _ ts _ (FSl.drewN H'.out _) hm').mono ?_
    rw [HT.out]
    rintro e w' ⟨q1, rfl, rfl⟩
    go_wp2_with fail
    refine (l01Finite_any _ _).mono ?_
    rw [HF.out]
    rintro e w' ⟨q2, rfl, rfl⟩
    go_wp2_with fail
    refine (in_no _ _ _ _ (by omega)).mono ?_
    rintro e w' ⟨rfl, rfl⟩
    go_wp2_with fail
    go_ret2
    exact fail_ob _ HB.out.1 HB.out.2 (below_drewN (Below.refl _ _) _)
  obtain ⟨N, rfl⟩ : ∃ q : Nat, N = q := ⟨N.toNat, by omega⟩
  have hN32 : N ≤ 32 := by omega
  have HB := Lib.hid (pa_good (show paB ks ts m (N : Int) = true by unfold paB paP; rw [hs, ht, hf, HL.out, HL'.out, decide_eq_true hnn, decide_eq_true hN]; rfl))
  have hk1 := (serB_t hs).1
  have hk2 := (serB_t hs).2.1
  rw [HL.out] at hk1 hk2
  obtain ⟨b, off, rfl, hbb, _⟩ := H.out.at (show 0 < n by omega)
  have HN0 := Lib.hid (fun q => FOwn.made (T := 33) (B := w.heap.size) (w.drewN q) (Nat.le_refl _))
  have HNe := Lib.hid (fun q => (FSl.below (FSl.drewN H.out q) ((Below.refl _ _).alloc (Nat.le_refl _) (.cells #[] 33))).news (by omega))
  have hN0 := hN.1
  have hNh := hN.2
  clear hs ht hf hN
  go_enter Try.func21, Try.ntmps21
  go_wp2_with fail
  refine (specSeries_any _ _ _ ks _ H.out hm).mono ?_
  rw [HS.out]
  rintro e w' ⟨q0, rfl, rfl⟩
  go_wp2_with fail
  refine (spTerms_any _ _ _ ts _ (FSl.drewN H'.out _) hm').mono ?_
  rw [HT.out]
  rintro e w' ⟨q1, rfl, rfl⟩
  go_wp2_with fail
  refine (l01Finite_any _ _).mono ?_
  rw [HF.out]
  rintro e w' ⟨q2, rfl, rfl⟩
  go_wp2_with fail
  refine (in_yes _ _ _ _ hN0 hNh).mono ?_
  rintro e w' ⟨rfl, rfl⟩
  go_wp2_with (at_builtin; refine wpList_append_own _ rfl _ _ 23 rfl w.heap.size 33 i0 (.float .f32 0) 1 4 Try.underlying23 hi hz0 hz1 hz2 rfl (by decide) _ _ _ rfl (HN0.out _) ⟨b, off, none⟩ n cap (ks.map (Value.float .f32)) rfl (by rw [List.length_map, HL.out, Nat.mul_one]) (HNe.out _) ?c2 ?c3 ?c4 ?c5 ?_)
  case c2 =>
    intro u hu
    obtain ⟨x, _, rfl⟩ := List.mem_map.1 hu
    rfl
  case c3 => unfold maxLen; simp; omega
  case c4 => simp; omega
  case c5 => simp
  intro vA w1 hown hgrow _
  have HBa := Lib.hid (((below_drewN (Below.refl w.heap.size w) (q0 + q1 + q2)).alloc (Nat.le_refl _) (.cells #[] 33)).grown hgrow (by simp) (fun k hk => Nat.le_of_eq (show w.heap.size = k from Option.some.inj hk)))
  have HOa := Lib.hid (show FOwn 33 w.heap.size w1 vA ks from by unfold FOwn; rw [HL.out]; simpa using hown)
  clear hown hgrow HN0 HNe
  have HOl := Lib.hid HOa.out.lt
  have HA1 := Lib.hid (pa_keep HOa.out ((Below.refl w1.heap.size w1).alloc (Nat.le_refl _) (.cells #[] 33)))
  have HO1 := Lib.hid (FOwn.made (T := 33) (B := w.heap.size) w1 HBa.out.size)
  have HB1 := Lib.hid (HBa.out.alloc HBa.out.size (.cells #[] 33))
  have HP1 := Lib.hid (show PApt vA (.slice (some ⟨w1.heap.size, 0, none⟩) 0 0) from fun b e0 e1 => by have h1 := (HOl.out b e0).2; have h2 : w1.heap.size = b := Option.some.inj e1; omega)
  go_wp2_with fail
  generalize w1.alloc (.cells #[] 33) = w2 at *
  go_loopw [3, 10, 11, 12] (fun c vA vO x wr => ∃ (k : Nat) (rA rO : List Nat), k ≤ N ∧ c = .int .i64 ((N - k : Nat) : Int) ∧ Hid (FOwn 33 w.heap.size wr vA rA) ∧ Hid (FOwn 33 w.heap.size wr vO rO) ∧ Hid (cnl rA = paK ks ts m k) ∧ Hid (cnl rO = tells (paV ks ts m) k) ∧ Hid (PApt vA vO) ∧ Hid (Below w.heap.size w wr)) (fun c _ _ _ _ => (intOf c).toNat)
  case atStart => exact ⟨0, ks, [], Nat.zero_le _, by simp, HA1, HO1, Lib.hid rfl, Lib.hid rfl, HP1, HB1⟩
  case round =>
    rename_i wr
    obtain ⟨k, rA, rO, hk, rfl, hA, hO, hrA, hrO, hap, hbel⟩ := hrel
    have hlA := Lib.hid (show rA.length = n + k from by have := congrArg List.length hrA.out; rw [cnl_len, paK_len, HL.out] at this; exact this)
    have hlO := Lib.hid (show rO.length = k from by have := congrArg List.length hrO.out; rw [cnl_len, tells_len] at this; exact this)
    by_cases hlt : k < N
    · have hd0 : decide ((0 : Int) < ((N - k : Nat) : Int)) = true := decide_eq_true (by omega)
      have hwm : IntKind.i64.wrap (((N - k : Nat) : Int) - 1) = ((N - (k + 1) : Nat) : Int) := by rw [IntKind.wrap_i64]; omega
      obtain ⟨A, cp, rfl, hsl, _⟩ := hA.out.sl
      have HSl := Lib.hid hsl
      have HT2 := Lib.hid (FSl.below H'.out hbel.out)
      have hsz := hbel.out.size
      clear hsl
      go_wp2_with fail
      refine (spTold_any _ _ _ rA _ _ _ ts m _ HSl.out HT2.out (by have := hlA.out; omega) (by have := hlA.out; omega) (by have := hlA.out; omega)).mono ?_
      rintro e w' ⟨r, q, hr, rfl, rfl⟩
      have HN := Lib.hid (paK_next hrA.out hr)
      have HCO := Lib.hid ((cnl_snoc hrO.out HN.out.2).trans (tells_succ (paV ks ts m) k).symm)
      replace hA := Lib.hid (FOwn.drewN hA.out q)
      replace hO := Lib.hid (FOwn.drewN hO.out q)
      replace hbel := Lib.hid (below_drewN hbel.out q)
      clear hr hrA hrO HSl HT2
      replace hsz : w.heap.size ≤ (wr.drewN q).heap.size := hsz
      generalize wr.drewN q = wg at *
      go_wp2_with (at_builtin; refine wpList_append_own_at _ rfl _ _ 23 rfl w.heap.size 33 i0 (.float .f32 0) 1 4 Try.underlying23 hi hz0 hz1 hz2 rfl (by decide) _ _ _ rfl (World.ownsRow.alloc hA.out _) ⟨wg.heap.size, 0, none⟩ 1 1 [_] rfl rfl (one_new rfl) ?c2 ?c3 ?c4 ?c5 ?_)
      case c2 => intro u hu; simp at hu; subst hu; rfl
      case c3 => have := hlA.out; unfold maxLen; omega
      case c4 => have := hlA.out; omega
      case c5 => simp; omega
      intro v1 w7 hown1 hgrow1 _ hat1
      have HA7 := Lib.hid (pa_push (rs := rA) hown1)
      have HO7 := Lib.hid (pa_grown (pa_keep hO.out ((Below.refl wg.heap.size wg).alloc (Nat.le_refl _) _)) hgrow1 (fun b e1 e2 => hap.out b e2.symm e1))
      have HB7 := Lib.hid ((hbel.out.alloc hsz _).grown hgrow1 (by simp; omega) (fun j e => (hA.out.lt j e).1))
      have HP7 := Lib.hid (papt_grown hap.out.symm hO.out hat1)
      have hsz7 : w.heap.size ≤ w7.heap.size := HB7.out.size
      clear hown1 hgrow1 hat1 hA hO hbel hap
      go_wp2_with (at_builtin; refine wpList_append_own_at _ rfl _ _ 23 rfl w.heap.size 33 i0 (.float .f32 0) 1 4 Try.underlying23 hi hz0 hz1 hz2 rfl (by decide) _ _ _ rfl (World.ownsRow.alloc HO7.out _) ⟨w7.heap.size, 0, none⟩ 1 1 [_] rfl rfl (one_new rfl) ?c2 ?c3 ?c4 ?c5 ?_)
      case c2 => intro u hu; simp at hu; subst hu; rfl
      case c3 => have := hlO.out; unfold maxLen; omega
      case c4 => have := hlO.out; omega
      case c5 => simp; omega
      intro v2 w8 hown2 hgrow2 _ hat2
      have HO8 := Lib.hid (pa_push (rs := rO) hown2)
      have HA8 := Lib.hid (pa_grown (pa_keep HA7.out ((Below.refl w7.heap.size w7).alloc (Nat.le_refl _) _)) hgrow2 (fun b e1 e2 => HP7.out b e2.symm e1))
      have HB8 := Lib.hid ((HB7.out.alloc hsz7 _).grown hgrow2 (by simp; omega) (fun j e => (HO7.out.lt j e).1))
      have HP8 := Lib.hid (papt_grown HP7.out.symm HA7.out hat2)
      clear hown2 hgrow2 hat2 HA7 HO7 HB7 HP7
      go_wp2
      go_roundw
      case rel => exact ⟨k + 1, rA ++ [r], rO ++ [r], by omega, by first | rfl | go_num, HA8, HO8, Lib.hid HN.out.1, HCO, HP8, HB8⟩
      case measure => simp [intOf]; omega
    · have hkN : k = N := by omega
      subst hkN
      have hd0 : decide ((0 : Int) < ((k - k : Nat) : Int)) = false := decide_eq_false (by omega)
      obtain ⟨A, cp, rfl, hsl, _⟩ := hO.out.sl
      have HSl := Lib.hid hsl
      have HX := Lib.hid (show cnl rO = paL ks ts m (k : Int) from hrO.out)
      have hm2 : rO.length ≤ 1048576 := by have := hlO.out; omega
      clear hsl hrO hlO
      go_wp2_with fail
      refine (specGiven_any 33 _ _ rO (paL ks ts m (k : Int)) _ w _ rfl HSl.out HX.out hm2 hO.out hbel.out).mono ?_
      rintro e w3 ⟨v, ys, rfl, ho, hx', hb'⟩
      have HO3 := Lib.hid ho
      have HX2 := Lib.hid (hx'.trans HB.out.2.symm)
      have HB3 := Lib.hid hb'
      have HTT := Lib.hid (show fins (paL ks ts m (k : Int)) = paOk ks ts m (k : Int) from HB.out.1.symm)
      rw [HTT.out]
      clear ho hx' hb'
      go_wp2
      go_ret2
      exact ⟨v, ys, rfl, HO3.out, HX2.out, HB3.out⟩
end Go.Proofs.Ytndmffkpbihcmaa
