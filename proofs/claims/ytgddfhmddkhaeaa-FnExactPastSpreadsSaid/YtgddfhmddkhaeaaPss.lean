/-
  PastSpreads of the model.
-/
import Derived.Test.YtgddfhmddkhaeaaPsi
namespace Go.Proofs.Ytgddfhmddkhaeaa
open Ieee Go.RowKit
set_option linter.unusedVariables false
def PApt (v v' : Value) : Prop := ∀ b, v.ownBlock = some b → v'.ownBlock ≠ some b
theorem PApt.symm {u v : Value} (h : PApt u v) : PApt v u := fun b e0 e1 => h b e1 e0
theorem pa_grown {T : TypeId} {B : Nat} {wy w1 : World} {v : Value} {rs : List Nat} {row : Option Nat} (h : FOwn T B wy v rs) (hg : wy.grownBy w1 row) (hne : ∀ b, v.ownBlock = some b → some b ≠ row) : FOwn T B w1 v rs := by
  refine ⟨h.1, ?_⟩
  have hl := h.lt
  rcases h.2 with h2 | ⟨g, cap, cur, rfl, h3, h4, h5⟩
  · exact .inl h2
  · exact .inr ⟨g, cap, cur, rfl, h3, by rw [hg.block g (hl g rfl).2 (hne g rfl)]; exact h4, h5⟩
theorem papt_grown {T : TypeId} {B : Nat} {w : World} {v v' u : Value} {rs : List Nat} (h : PApt u v) (hu : FOwn T B w u rs) (hat : v'.ownBlock = v.ownBlock ∨ v'.ownBlock = some (w.heap.size + 1)) : PApt u v' := fun b e0 e1 => by
  rcases hat with h2 | h2
  · exact h b e0 (h2 ▸ e1)
  · have h3 := (hu.lt b e0).2
    rw [h2] at e1
    have h4 := Option.some.inj e1
    omega

/-- The weight, as far as i terms tell it. -/
def psXi (ts ws : List Nat) (k i : Nat) : Nat := if k = 0 then 1065353216 else sumT (psT1 ts ws k) i
set_option maxHeartbeats 4000000 in
set_option maxRecDepth 100000 in
theorem spPsp_any (a' : Option Addr) (n' cap' : Nat) (ts : List Nat) (sp : Nat) (N : Int) (w : World) (h' : FSl w a' n' ts) (hm' : n' ≤ 1048576) :
    Calls Try.prog 40 #[.slice a' n' cap', .float .f32 sp, .int .i64 N] w (RetOB 22 (psR ts sp N) (psOk ts sp N) w) := by
  obtain ⟨i0, hi, hz0, hz1, hz2⟩ := info_parts Try.infoR
  have H' := Lib.hid h'
  have HL' := Lib.hid h'.1
  clear h'
  cases ht : paTm ts
  · have HTm := Lib.hid ht
    have HB := Lib.hid (ps_bad (show psB ts sp N = false by unfold psB; rw [ht]; rfl))
    clear ht
    go_enter Try.func40, Try.ntmps40
    go_wp2_with fail
    refine (spTerms_any _ _ _ ts _ H'.out hm').mono ?_
    rw [HTm.out]
    rintro e w' ⟨q0, rfl, rfl⟩
    go_wp2_with fail
    go_ret2
    exact fail_ob _ HB.out.1 HB.out.2 (below_drewN (Below.refl _ _) _)
  have HTm := Lib.hid ht
  cases hf : leaB sp
  · have HF := Lib.hid hf
    have HB := Lib.hid (ps_bad (show psB ts sp N = false by unfold psB; rw [hf]; simp))
    clear ht hf
    go_enter Try.func40, Try.ntmps40
    go_wp2_with fail
    refine (spTerms_any _ _ _ ts _ H'.out hm').mono ?_
    rw [HTm.out]
    rintro e w' ⟨q0, rfl, rfl⟩
    go_wp2_with fail
    refine (lea_any _ _).mono ?_
    rw [HF.out]
    rintro e w' ⟨q1, rfl, rfl⟩
    go_wp2_with fail
    go_ret2
    exact fail_ob _ HB.out.1 HB.out.2 (below_drewN (Below.refl _ _) _)
  have HF := Lib.hid hf
  by_cases hN : 0 ≤ N ∧ N ≤ 32
  rotate_left
  · skip
    have HB := Lib.hid (ps_bad (show psB ts sp N = false by unfold psB; rw [decide_eq_false hN]; simp))
    clear ht hf
    go_enter Try.func40, Try.ntmps40
    go_wp2_with fail
    refine (spTerms_any _ _ _ ts _ H'.out hm').mono ?_
    rw [HTm.out]
    rintro e w' ⟨q0, rfl, rfl⟩
    go_wp2_with fail
    refine (lea_any _ _).mono ?_
    rw [HF.out]
    rintro e w' ⟨q1, rfl, rfl⟩
    go_wp2_with fail
    refine (in_no _ _ _ _ (by omega)).mono ?_
    rintro e w' ⟨rfl, rfl⟩
    go_wp2_with fail
    go_ret2
    exact fail_ob _ HB.out.1 HB.out.2 (below_drewN (Below.refl _ _) _)
  obtain ⟨N, rfl⟩ : ∃ q : Nat, N = q := ⟨N.toNat, by omega⟩
  have hN32 : N ≤ 32 := by omega
  have HB := Lib.hid (ps_good (show psB ts sp (N : Int) = true by unfold psB; rw [ht, hf, decide_eq_true hN]; rfl))
  have hn6 : n' ≤ 6 := by unfold paTm at ht; have := of_decide_eq_true (Bool.and_eq_true_iff.1 ht).1; have := HL'.out; omega
  have hN0 := hN.1
  have hNh := hN.2
  clear ht hf hN
  go_enter Try.func40, Try.ntmps40
  go_wp2_with fail
  refine (spTerms_any _ _ _ ts _ H'.out hm').mono ?_
  rw [HTm.out]
  rintro e w' ⟨q0, rfl, rfl⟩
  go_wp2_with fail
  refine (lea_any _ _).mono ?_
  rw [HF.out]
  rintro e w' ⟨q1, rfl, rfl⟩
  go_wp2_with fail
  refine (in_yes _ _ _ _ hN0 hNh).mono ?_
  rintro e w' ⟨rfl, rfl⟩
  have G := Lib.hid (below_drewN (Below.refl w.heap.size w) (q0 + q1))
  have HT0 := Lib.hid (show FSl (w.drewN (q0 + q1)) a' n' ts from FSl.drewN H'.out _)
  go_wp2_with fail
  have hszw : (w.drewN (q0 + q1)).heap.size = w.heap.size := rfl
  generalize w.drewN (q0 + q1) = w1 at *
  have HW1 := Lib.hid ((FOwn.made (T := 22) (B := w.heap.size) w1 (by omega)).alloc (.cells #[] 22))
  have HO1 := Lib.hid (FOwn.made (T := 22) (B := w.heap.size) (w1.alloc (.cells #[] 22)) (by simp; omega))
  rw [show (w1.alloc (.cells #[] 22)).heap.size = w.heap.size + 1 by rw [World.size_alloc, hszw]] at HO1
  rw [hszw] at HW1
  have HB1 := Lib.hid ((G.out.alloc (by omega) (.cells #[] 22)).alloc (by simp; omega) (.cells #[] 22))
  have HP1 := Lib.hid (show PApt (.slice (some ⟨w.heap.size, 0, none⟩) 0 0) (.slice (some ⟨w.heap.size + 1, 0, none⟩) 0 0) from fun b e0 e1 => by have h1 : w.heap.size = b := Option.some.inj e0; have h2 : w.heap.size + 1 = b := Option.some.inj e1; omega)
  have HTw := Lib.hid (FSl.below HT0.out ((((Below.refl w1.heap.size w1).alloc (Nat.le_refl _) (.cells #[] 22)).alloc (by simp) (.cells #[] 22))))
  generalize (w1.alloc (.cells #[] 22)).alloc (.cells #[] 22) = w2 at *
  go_loopw [8, 9, 10, 11, 12, 13] (fun vW vS vO c v12 v13 wr => ∃ (k s : Nat) (rW rO : List Nat), k ≤ N ∧ c = .int .i64 (k : Int) ∧ vS = .float .f32 s ∧ Hid (FOwn 22 w.heap.size wr vW rW) ∧ Hid (FOwn 22 w.heap.size wr vO rO) ∧ Hid (cnl rW = psW ts k) ∧ Hid (cn .f32 s = psS ts k) ∧ Hid (cnl rO = tells (psV ts sp) k) ∧ Hid (PApt vW vO) ∧ Hid (Below w.heap.size w wr)) (fun _ _ _ c _ _ _ => N - (intOf c).toNat)
  case atStart => exact ⟨0, 0, [], [], Nat.zero_le _, rfl, rfl, HW1, HO1, Lib.hid rfl, Lib.hid cn_zero, Lib.hid rfl, HP1, HB1⟩
  case round =>
    rename_i wr
    obtain ⟨k, s, rW, rO, hk, rfl, rfl, hW, hO, hrW, hs, hrO, hap, hbel⟩ := hrel
    have hlW := Lib.hid (show rW.length = k from by have := congrArg List.length hrW.out; rw [cnl_len, psW_len] at this; exact this)
    have hlO := Lib.hid (show rO.length = k from by have := congrArg List.length hrO.out; rw [cnl_len, tells_len] at this; exact this)
    by_cases hlt : k < N
    · have hsz := hbel.out.size
      obtain ⟨A, cp, rfl, hsl, _⟩ := hW.out.sl
      have HSl := Lib.hid hsl
      have HT2 := Lib.hid (FSl.below H'.out hbel.out)
      clear hsl
      have hltI : decide ((k : Int) < (N : Int)) = true := decide_eq_true (by omega)
      by_cases hk0 : k = 0
      · skip
        have hq1 : ((k : Int) == 0) = true := by rw [beq_iff_eq]; omega
        have hq2 : decide ((k : Int) = 0) = true := decide_eq_true (by omega)
        have HX0 := Lib.hid (show cn .f32 1065353216 = psXi ts rW k 0 from by unfold psXi; rw [if_pos hk0]; exact one32)
        have HK0 := Lib.hid hk0
        clear hk0
        go_wp2
        go_loopw [12, 13] (fun x c wk => ∃ (i x0 q : Nat), i ≤ min k n' ∧ c = .int .i64 (i : Int) ∧ x = .float .f32 x0 ∧ wk = wr.drewN q ∧ Hid (cn .f32 x0 = psXi ts rW k i)) (fun _ c _ => n' - (intOf c).toNat)
        case atStart => exact ⟨0, 1065353216, 0, Nat.zero_le _, rfl, rfl, rfl, HX0⟩
        case round =>
          obtain ⟨i, x0, q, hik, rfl, rfl, rfl, hx⟩ := hrel
          by_cases hin : i < n' ∧ i < k
          · exact absurd hin.2 (by have := HK0.out; omega)
          · have HX := Lib.hid (show cn .f32 x0 = psX ts rW k from by rw [hx.out]; unfold psXi psX; rw [if_pos HK0.out, if_pos HK0.out])
            have hcc : decide ((i : Int) < (n' : Int)) = false ∨ (decide ((i : Int) < (n' : Int)) = true ∧ decide ((i : Int) < (k : Int)) = false) := by
              by_cases h1 : i < n'
              · exact .inr ⟨decide_eq_true (by omega), decide_eq_false (by omega)⟩
              · exact .inl (decide_eq_false (by omega))
            have HN := Lib.hid (psW_next hrW.out HX.out)
            replace hW := Lib.hid (FOwn.drewN hW.out q)
            replace hO := Lib.hid (FOwn.drewN hO.out q)
            replace hbel := Lib.hid (below_drewN hbel.out q)
            replace hsz : w.heap.size ≤ (wr.drewN q).heap.size := hsz
            clear hx HX hrW HSl HT2 HX0
            generalize wr.drewN q = wg at *
            rcases hcc with hc1 | ⟨hc1, hc2⟩
            · have hd1 : ¬ (i < n') := fun h => by have := of_decide_eq_false hc1; omega
              clear hin
              go_wp2_with (at_builtin; refine wpList_append_own_at _ rfl _ _ 23 rfl w.heap.size 22 i0 (.float .f32 0) 1 4 Try.underlying23 hi hz0 hz1 hz2 rfl (by decide) _ _ _ rfl (World.ownsRow.alloc hW.out _) ⟨wg.heap.size, 0, none⟩ 1 1 [_] rfl rfl (one_new rfl) (by intro u hu; simp at hu; subst hu; rfl) (by have := hlW.out; unfold maxLen; omega) (by have := hlW.out; omega) (by simp; first | omega | (show w.heap.size ≤ w7.heap.size + 1; omega)) ?_)
              intro v1 w7 hown1 hgrow1 _ hat1
              have HW7 := Lib.hid (pa_push (rs := rW) hown1)
              have HO7 := Lib.hid (pa_grown (pa_keep hO.out ((Below.refl wg.heap.size wg).alloc (Nat.le_refl _) _)) hgrow1 (fun b e1 e2 => hap.out b e2.symm e1))
              have HB7 := Lib.hid ((hbel.out.alloc hsz _).grown hgrow1 (by simp; omega) (fun j e => (hW.out.lt j e).1))
              have HP7 := Lib.hid (papt_grown hap.out.symm hO.out hat1)
              have hsz7 : w.heap.size ≤ w7.heap.size := HB7.out.size
              clear hown1 hgrow1 hat1 hW hO hbel hap
              go_wp2_with (at_builtin; refine wpList_append_own_at _ rfl _ _ 23 rfl w.heap.size 22 i0 (.float .f32 0) 1 4 Try.underlying23 hi hz0 hz1 hz2 rfl (by decide) _ _ _ rfl (World.ownsRow.alloc (FOwn.drewN HO7.out _) _) ⟨w7.heap.size, 0, none⟩ 1 1 [_] rfl rfl (one_new rfl) (by intro u hu; simp at hu; subst hu; rfl) (by have := hlO.out; unfold maxLen; omega) (by have := hlO.out; omega) (by simp; first | omega | (show w.heap.size ≤ w7.heap.size + 1; omega)) ?_)
              intro v2 w8 hown2 hgrow2 _ hat2
              have HO8 := Lib.hid (pa_push (rs := rO) hown2)
              have HW8 := Lib.hid (pa_grown (pa_keep HW7.out ((below_drewN (Below.refl w7.heap.size w7) _).alloc (Nat.le_refl _) _)) hgrow2 (fun b e1 e2 => HP7.out b e2.symm e1))
              have HB8 := Lib.hid (((below_drewN HB7.out _).alloc hsz7 _).grown hgrow2 (by simp; show w.heap.size ≤ w7.heap.size + 1; omega) (fun j e => (HO7.out.lt j e).1))
              have HP8 := Lib.hid (papt_grown HP7.out.symm HW7.out hat2)
              clear hown2 hgrow2 hat2 HW7 HO7 HB7 HP7
              go_wp2
              go_roundw
              case rel => exact ⟨k + 1, _, _, _, by omega, by go_num, rfl, HW8, HO8, Lib.hid HN.out.1, Lib.hid (by rw [cn_fopR, cn_fopR, hs.out, HN.out.2]; rfl), Lib.hid ((cnl_snoc hrO.out (by rw [cn_fopR, cn_fopR, cn_fopR, hs.out, HN.out.2]; rfl)).trans (tells_succ (psV ts sp) k).symm), HP8, HB8⟩
              case measure => simp [intOf]; omega
            · have hd1 : i < n' := by have := of_decide_eq_true hc1; omega
              have hd2 : ¬ (i < k) := fun h => by have := of_decide_eq_false hc2; omega
              clear hin
              go_wp2_with (at_builtin; refine wpList_append_own_at _ rfl _ _ 23 rfl w.heap.size 22 i0 (.float .f32 0) 1 4 Try.underlying23 hi hz0 hz1 hz2 rfl (by decide) _ _ _ rfl (World.ownsRow.alloc hW.out _) ⟨wg.heap.size, 0, none⟩ 1 1 [_] rfl rfl (one_new rfl) (by intro u hu; simp at hu; subst hu; rfl) (by have := hlW.out; unfold maxLen; omega) (by have := hlW.out; omega) (by simp; first | omega | (show w.heap.size ≤ w7.heap.size + 1; omega)) ?_)
              intro v1 w7 hown1 hgrow1 _ hat1
              have HW7 := Lib.hid (pa_push (rs := rW) hown1)
              have HO7 := Lib.hid (pa_grown (pa_keep hO.out ((Below.refl wg.heap.size wg).alloc (Nat.le_refl _) _)) hgrow1 (fun b e1 e2 => hap.out b e2.symm e1))
              have HB7 := Lib.hid ((hbel.out.alloc hsz _).grown hgrow1 (by simp; omega) (fun j e => (hW.out.lt j e).1))
              have HP7 := Lib.hid (papt_grown hap.out.symm hO.out hat1)
              have hsz7 : w.heap.size ≤ w7.heap.size := HB7.out.size
              clear hown1 hgrow1 hat1 hW hO hbel hap
              go_wp2_with (at_builtin; refine wpList_append_own_at _ rfl _ _ 23 rfl w.heap.size 22 i0 (.float .f32 0) 1 4 Try.underlying23 hi hz0 hz1 hz2 rfl (by decide) _ _ _ rfl (World.ownsRow.alloc (FOwn.drewN HO7.out _) _) ⟨w7.heap.size, 0, none⟩ 1 1 [_] rfl rfl (one_new rfl) (by intro u hu; simp at hu; subst hu; rfl) (by have := hlO.out; unfold maxLen; omega) (by have := hlO.out; omega) (by simp; first | omega | (show w.heap.size ≤ w7.heap.size + 1; omega)) ?_)
              intro v2 w8 hown2 hgrow2 _ hat2
              have HO8 := Lib.hid (pa_push (rs := rO) hown2)
              have HW8 := Lib.hid (pa_grown (pa_keep HW7.out ((below_drewN (Below.refl w7.heap.size w7) _).alloc (Nat.le_refl _) _)) hgrow2 (fun b e1 e2 => HP7.out b e2.symm e1))
              have HB8 := Lib.hid (((below_drewN HB7.out _).alloc hsz7 _).grown hgrow2 (by simp; show w.heap.size ≤ w7.heap.size + 1; omega) (fun j e => (HO7.out.lt j e).1))
              have HP8 := Lib.hid (papt_grown HP7.out.symm HW7.out hat2)
              clear hown2 hgrow2 hat2 HW7 HO7 HB7 HP7
              go_wp2
              go_roundw
              case rel => exact ⟨k + 1, _, _, _, by omega, by go_num, rfl, HW8, HO8, Lib.hid HN.out.1, Lib.hid (by rw [cn_fopR, cn_fopR, hs.out, HN.out.2]; rfl), Lib.hid ((cnl_snoc hrO.out (by rw [cn_fopR, cn_fopR, cn_fopR, hs.out, HN.out.2]; rfl)).trans (tells_succ (psV ts sp) k).symm), HP8, HB8⟩
              case measure => simp [intOf]; omega
      · skip
        have hq1 : ((k : Int) == 0) = false := by rw [beq_eq_false_iff_ne]; omega
        have hq2 : decide ((k : Int) = 0) = false := decide_eq_false (by omega)
        have HX0 := Lib.hid (show cn .f32 0 = psXi ts rW k 0 from by unfold psXi; rw [if_neg hk0]; exact cn_zero)
        have HK0 := Lib.hid hk0
        clear hk0
        go_wp2
        go_loopw [12, 13] (fun x c wk => ∃ (i x0 q : Nat), i ≤ min k n' ∧ c = .int .i64 (i : Int) ∧ x = .float .f32 x0 ∧ wk = wr.drewN q ∧ Hid (cn .f32 x0 = psXi ts rW k i)) (fun _ c _ => n' - (intOf c).toNat)
        case atStart => exact ⟨0, 0, 0, Nat.zero_le _, rfl, rfl, rfl, HX0⟩
        case round =>
          obtain ⟨i, x0, q, hik, rfl, rfl, rfl, hx⟩ := hrel
          by_cases hin : i < n' ∧ i < k
          · have hc1 : decide ((i : Int) < (n' : Int)) = true := decide_eq_true (by omega)
            have hc2 : decide ((i : Int) < (k : Int)) = true := decide_eq_true (by omega)
            obtain ⟨b', off', rfl, _, hcs⟩ := HT2.out.at (by omega)
            obtain ⟨b, off, rfl, _, hzs⟩ := HSl.out.at (by have := hlW.out; omega)
            have hck := hcs i hin.1
            have hzk := hzs (k - 1 - i) (by have := hlW.out; omega)
            have hw0 : IntKind.i64.wrap ((k : Int) - 1) = ((k - 1 : Nat) : Int) := by rw [IntKind.wrap_i64]; omega
            have hw : IntKind.i64.wrap (((k - 1 : Nat) : Int) - (i : Int)) = ((k - 1 - i : Nat) : Int) := by rw [IntKind.wrap_i64]; omega
            have h0 : (0 : Int) ≤ ((k - 1 - i : Nat) : Int) := by omega
            have h1 : ((k - 1 - i : Nat) : Int) < (rW.length : Int) := by have := hlW.out; omega
            have h2 : (0 : Int) ≤ (i : Int) := by omega
            have h3 : (i : Int) < (n' : Int) := by omega
            have HT := Lib.hid (show ∀ w1 w2, cn .f32 (fopR .add .f32 x0 (fopR .mul .f32 (ts.getD i 0) (rW.getD (k - 1 - i) 0) w1) w2) = psXi ts rW k (i + 1) from fun w1 w2 => by rw [cn_fopR, cn_fopR, hx.out]; unfold psXi; rw [if_neg HK0.out, if_neg HK0.out]; rfl)
            clear hcs hzs
            generalize ts.getD i 0 = z1 at *
            generalize rW.getD (k - 1 - i) 0 = z2 at *
            obtain ⟨jj, hjj⟩ : ∃ j, k - 1 - i = j := ⟨_, rfl⟩
            rw [hjj] at hzk hw h0 h1
            go_wp2
            go_region
            all_goals
              go_wp2
              go_roundw
              case rel => exact ⟨i + 1, _, _, by omega, by go_num, rfl, rfl, Lib.hid (HT.out _ _)⟩
              case measure => simp [intOf]; omega
          · have HX := Lib.hid (show cn .f32 x0 = psX ts rW k from by rw [hx.out]; unfold psXi psX; rw [if_neg HK0.out, if_neg HK0.out, HL'.out, show i = min k n' by omega])
            have hcc : decide ((i : Int) < (n' : Int)) = false ∨ (decide ((i : Int) < (n' : Int)) = true ∧ decide ((i : Int) < (k : Int)) = false) := by
              by_cases h1 : i < n'
              · exact .inr ⟨decide_eq_true (by omega), decide_eq_false (by omega)⟩
              · exact .inl (decide_eq_false (by omega))
            have HN := Lib.hid (psW_next hrW.out HX.out)
            replace hW := Lib.hid (FOwn.drewN hW.out q)
            replace hO := Lib.hid (FOwn.drewN hO.out q)
            replace hbel := Lib.hid (below_drewN hbel.out q)
            replace hsz : w.heap.size ≤ (wr.drewN q).heap.size := hsz
            clear hx HX hrW HSl HT2 HX0
            generalize wr.drewN q = wg at *
            rcases hcc with hc1 | ⟨hc1, hc2⟩
            · have hd1 : ¬ (i < n') := fun h => by have := of_decide_eq_false hc1; omega
              clear hin
              go_wp2_with (at_builtin; refine wpList_append_own_at _ rfl _ _ 23 rfl w.heap.size 22 i0 (.float .f32 0) 1 4 Try.underlying23 hi hz0 hz1 hz2 rfl (by decide) _ _ _ rfl (World.ownsRow.alloc hW.out _) ⟨wg.heap.size, 0, none⟩ 1 1 [_] rfl rfl (one_new rfl) (by intro u hu; simp at hu; subst hu; rfl) (by have := hlW.out; unfold maxLen; omega) (by have := hlW.out; omega) (by simp; first | omega | (show w.heap.size ≤ w7.heap.size + 1; omega)) ?_)
              intro v1 w7 hown1 hgrow1 _ hat1
              have HW7 := Lib.hid (pa_push (rs := rW) hown1)
              have HO7 := Lib.hid (pa_grown (pa_keep hO.out ((Below.refl wg.heap.size wg).alloc (Nat.le_refl _) _)) hgrow1 (fun b e1 e2 => hap.out b e2.symm e1))
              have HB7 := Lib.hid ((hbel.out.alloc hsz _).grown hgrow1 (by simp; omega) (fun j e => (hW.out.lt j e).1))
              have HP7 := Lib.hid (papt_grown hap.out.symm hO.out hat1)
              have hsz7 : w.heap.size ≤ w7.heap.size := HB7.out.size
              clear hown1 hgrow1 hat1 hW hO hbel hap
              go_wp2_with (at_builtin; refine wpList_append_own_at _ rfl _ _ 23 rfl w.heap.size 22 i0 (.float .f32 0) 1 4 Try.underlying23 hi hz0 hz1 hz2 rfl (by decide) _ _ _ rfl (World.ownsRow.alloc (FOwn.drewN HO7.out _) _) ⟨w7.heap.size, 0, none⟩ 1 1 [_] rfl rfl (one_new rfl) (by intro u hu; simp at hu; subst hu; rfl) (by have := hlO.out; unfold maxLen; omega) (by have := hlO.out; omega) (by simp; first | omega | (show w.heap.size ≤ w7.heap.size + 1; omega)) ?_)
              intro v2 w8 hown2 hgrow2 _ hat2
              have HO8 := Lib.hid (pa_push (rs := rO) hown2)
              have HW8 := Lib.hid (pa_grown (pa_keep HW7.out ((below_drewN (Below.refl w7.heap.size w7) _).alloc (Nat.le_refl _) _)) hgrow2 (fun b e1 e2 => HP7.out b e2.symm e1))
              have HB8 := Lib.hid (((below_drewN HB7.out _).alloc hsz7 _).grown hgrow2 (by simp; show w.heap.size ≤ w7.heap.size + 1; omega) (fun j e => (HO7.out.lt j e).1))
              have HP8 := Lib.hid (papt_grown HP7.out.symm HW7.out hat2)
              clear hown2 hgrow2 hat2 HW7 HO7 HB7 HP7
              go_wp2
              go_roundw
              case rel => exact ⟨k + 1, _, _, _, by omega, by go_num, rfl, HW8, HO8, Lib.hid HN.out.1, Lib.hid (by rw [cn_fopR, cn_fopR, hs.out, HN.out.2]; rfl), Lib.hid ((cnl_snoc hrO.out (by rw [cn_fopR, cn_fopR, cn_fopR, hs.out, HN.out.2]; rfl)).trans (tells_succ (psV ts sp) k).symm), HP8, HB8⟩
              case measure => simp [intOf]; omega
            · have hd1 : i < n' := by have := of_decide_eq_true hc1; omega
              have hd2 : ¬ (i < k) := fun h => by have := of_decide_eq_false hc2; omega
              clear hin
              go_wp2_with (at_builtin; refine wpList_append_own_at _ rfl _ _ 23 rfl w.heap.size 22 i0 (.float .f32 0) 1 4 Try.underlying23 hi hz0 hz1 hz2 rfl (by decide) _ _ _ rfl (World.ownsRow.alloc hW.out _) ⟨wg.heap.size, 0, none⟩ 1 1 [_] rfl rfl (one_new rfl) (by intro u hu; simp at hu; subst hu; rfl) (by have := hlW.out; unfold maxLen; omega) (by have := hlW.out; omega) (by simp; first | omega | (show w.heap.size ≤ w7.heap.size + 1; omega)) ?_)
              intro v1 w7 hown1 hgrow1 _ hat1
              have HW7 := Lib.hid (pa_push (rs := rW) hown1)
              have HO7 := Lib.hid (pa_grown (pa_keep hO.out ((Below.refl wg.heap.size wg).alloc (Nat.le_refl _) _)) hgrow1 (fun b e1 e2 => hap.out b e2.symm e1))
              have HB7 := Lib.hid ((hbel.out.alloc hsz _).grown hgrow1 (by simp; omega) (fun j e => (hW.out.lt j e).1))
              have HP7 := Lib.hid (papt_grown hap.out.symm hO.out hat1)
              have hsz7 : w.heap.size ≤ w7.heap.size := HB7.out.size
              clear hown1 hgrow1 hat1 hW hO hbel hap
              go_wp2_with (at_builtin; refine wpList_append_own_at _ rfl _ _ 23 rfl w.heap.size 22 i0 (.float .f32 0) 1 4 Try.underlying23 hi hz0 hz1 hz2 rfl (by decide) _ _ _ rfl (World.ownsRow.alloc (FOwn.drewN HO7.out _) _) ⟨w7.heap.size, 0, none⟩ 1 1 [_] rfl rfl (one_new rfl) (by intro u hu; simp at hu; subst hu; rfl) (by have := hlO.out; unfold maxLen; omega) (by have := hlO.out; omega) (by simp; first | omega | (show w.heap.size ≤ w7.heap.size + 1; omega)) ?_)
              intro v2 w8 hown2 hgrow2 _ hat2
              have HO8 := Lib.hid (pa_push (rs := rO) hown2)
              have HW8 := Lib.hid (pa_grown (pa_keep HW7.out ((below_drewN (Below.refl w7.heap.size w7) _).alloc (Nat.le_refl _) _)) hgrow2 (fun b e1 e2 => HP7.out b e2.symm e1))
              have HB8 := Lib.hid (((below_drewN HB7.out _).alloc hsz7 _).grown hgrow2 (by simp; show w.heap.size ≤ w7.heap.size + 1; omega) (fun j e => (HO7.out.lt j e).1))
              have HP8 := Lib.hid (papt_grown HP7.out.symm HW7.out hat2)
              clear hown2 hgrow2 hat2 HW7 HO7 HB7 HP7
              go_wp2
              go_roundw
              case rel => exact ⟨k + 1, _, _, _, by omega, by go_num, rfl, HW8, HO8, Lib.hid HN.out.1, Lib.hid (by rw [cn_fopR, cn_fopR, hs.out, HN.out.2]; rfl), Lib.hid ((cnl_snoc hrO.out (by rw [cn_fopR, cn_fopR, cn_fopR, hs.out, HN.out.2]; rfl)).trans (tells_succ (psV ts sp) k).symm), HP8, HB8⟩
              case measure => simp [intOf]; omega
    · have hkN : k = N := by omega
      subst hkN
      obtain ⟨A, cp, rfl, hsl, _⟩ := hO.out.sl
      have HSl := Lib.hid hsl
      have HX := Lib.hid (show cnl rO = psL ts sp (k : Int) from hrO.out)
      have hm2 : rO.length ≤ 1048576 := by have := hlO.out; omega
      clear hsl hrO hlO
      go_wp2_with fail
      refine (specGiven_any 22 _ _ rO (psL ts sp (k : Int)) _ w _ rfl HSl.out HX.out hm2 hO.out hbel.out).mono ?_
      rintro e w3 ⟨v, ys, rfl, ho, hx', hb'⟩
      have HO3 := Lib.hid ho
      have HX2 := Lib.hid (hx'.trans HB.out.2.symm)
      have HB3 := Lib.hid hb'
      have HTT := Lib.hid (show fins (psL ts sp (k : Int)) = psOk ts sp (k : Int) from HB.out.1.symm)
      rw [HTT.out]
      clear ho hx' hb'
      go_wp2
      go_ret2
      exact ⟨v, ys, rfl, HO3.out, HX2.out, HB3.out⟩
end Go.Proofs.Ytgddfhmddkhaeaa
