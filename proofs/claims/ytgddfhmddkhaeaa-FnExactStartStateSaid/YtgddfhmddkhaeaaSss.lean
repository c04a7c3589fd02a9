/-
  StartState of the model.
-/
import Derived.Test.YtgddfhmddkhaeaaSsi
import Derived.Test.YtgddfhmddkhaeaaCIn
import Derived.Test.YtgddfhmddkhaeaaPus
namespace Go.Proofs.Ytgddfhmddkhaeaa
open Ieee Go.RowKit
set_option linter.unusedVariables false
set_option maxHeartbeats 2000000 in
set_option maxRecDepth 100000 in
theorem spGive_any (l s : Nat) (a : Option Addr) (len cap : Nat) (zs : List Nat) (t : Int) (w : World) (h : FSl w a len zs) (hm : len ≤ 1048576) :
    Calls Try.prog 78 #[.agg #[.float .f32 l, .float .f32 s, .slice a len cap, .int .i64 t]] w fun e w' =>
      ((stB l s zs t = true ∧ e = .returned (.tuple #[.agg #[.float .f32 l, .float .f32 s, .slice a len cap, .int .i64 t], .bool true])) ∨ (stB l s zs t = false ∧ e = .returned (.tuple #[.agg #[.float .f32 0, .float .f32 0, .slice none 0 0, .int .i64 0], .bool false]))) ∧ Below w.heap.size w w' := by
  have HRES := Lib.hid (show Try.f78.results = #[.cell 2 29, .tmp 3] by kernel_rfl)
  have c1 := (Below.refl w.heap.size w).alloc (Nat.le_refl _) (.cells #[.float .f32 l, .float .f32 s, .slice a len cap, .int .i64 t] 29)
  have c2 := c1.alloc (by simp) (.cells #[.float .f32 0, .float .f32 0, .slice none 0 0, .int .i64 0] 29)
  have G := Lib.hid c2
  have HI := Lib.hid ((StIn.new w l s a len cap t 29).alloc (.cells #[.float .f32 0, .float .f32 0, .slice none 0 0, .int .i64 0] 29))
  have HO := Lib.hid (CIs.newAt (w.alloc (.cells #[.float .f32 l, .float .f32 s, .slice a len cap, .int .i64 t] 29)) [.float .f32 0, .float .f32 0, .slice none 0 0, .int .i64 0] 29 (p := w.heap.size + 1) (by simp))
  have H := Lib.hid (FSl.below h c2)
  clear h c1 c2
  go_enter Try.func78, Try.ntmps78
  go_wp2_with fail
  refine (spIs_any _ _ _ _ _ _ zs _ _ HI.out H.out hm).mono ?_
  cases hst : stB l s zs t
  · have HST := Lib.hid hst
    clear hst
    rintro e w' ⟨m, rfl, rfl⟩
    replace G := Lib.hid (below_drewN G.out m)
    replace HO := Lib.hid (HO.out.drewN m)
    generalize ((w.alloc (.cells #[.float .f32 l, .float .f32 s, .slice a len cap, .int .i64 t] 29)).alloc (.cells #[.float .f32 0, .float .f32 0, .slice none 0 0, .int .i64 0] 29)).drewN m = W at *
    obtain ⟨g0, g1, g2, g3⟩ := HO.out.c4
    obtain ⟨f0, f1, f2, f3⟩ := HO.out.f4
    go_wp2_with fail
    have GF := Lib.hid ((((G.out.setCell (p := ⟨w.heap.size + 1, 0, none⟩) (by show w.heap.size ≤ w.heap.size + 1; omega) (.float .f32 0)).setCell (p := ⟨w.heap.size + 1, 1, none⟩) (by show w.heap.size ≤ w.heap.size + 1; omega) (.float .f32 0)).setCell (p := ⟨w.heap.size + 1, 2, none⟩) (by show w.heap.size ≤ w.heap.size + 1; omega) (.slice none 0 0)).setCell (p := ⟨w.heap.size + 1, 3, none⟩) (by show w.heap.size ≤ w.heap.size + 1; omega) (.int .i64 0))
    refine bodyPost_ret (v := .tuple #[.agg #[.float .f32 0, .float .f32 0, .slice none 0 0, .int .i64 0], .bool false]) ?_ rfl ?_
    · have hres := HRES.out
      simp only [results, hres]
      go_simp
    · exact ⟨.inr ⟨HST.out, rfl⟩, GF.out⟩
  · have HST := Lib.hid hst
    clear hst
    rintro e w' ⟨m, rfl, rfl⟩
    replace G := Lib.hid (below_drewN G.out m)
    replace HO := Lib.hid (HO.out.drewN m)
    replace HI := Lib.hid (HI.out.drewN m)
    generalize ((w.alloc (.cells #[.float .f32 l, .float .f32 s, .slice a len cap, .int .i64 t] 29)).alloc (.cells #[.float .f32 0, .float .f32 0, .slice none 0 0, .int .i64 0] 29)).drewN m = W at *
    obtain ⟨g0, g1, g2, g3⟩ := HO.out.c4
    obtain ⟨f0, f1, f2, f3⟩ := HO.out.f4
    obtain ⟨k0, k1, k2, k3⟩ := HI.out
    go_wp2_with fail
    have GF := Lib.hid ((((G.out.setCell (p := ⟨w.heap.size + 1, 0, none⟩) (by show w.heap.size ≤ w.heap.size + 1; omega) (.float .f32 l)).setCell (p := ⟨w.heap.size + 1, 1, none⟩) (by show w.heap.size ≤ w.heap.size + 1; omega) (.float .f32 s)).setCell (p := ⟨w.heap.size + 1, 2, none⟩) (by show w.heap.size ≤ w.heap.size + 1; omega) (.slice a len cap)).setCell (p := ⟨w.heap.size + 1, 3, none⟩) (by show w.heap.size ≤ w.heap.size + 1; omega) (.int .i64 t))
    refine bodyPost_ret (v := .tuple #[.agg #[.float .f32 l, .float .f32 s, .slice a len cap, .int .i64 t], .bool true]) ?_ rfl ?_
    · have hres := HRES.out
      simp only [results, hres]
      go_simp
    · exact ⟨.inl ⟨HST.out, rfl⟩, GF.out⟩
set_option maxHeartbeats 4000000 in
set_option maxRecDepth 100000 in
theorem spSs_any (a : Option Addr) (len cap : Nat) (zs : List Nat) (p : Int) (w : World) (h : FSl w a len zs) (hm : len ≤ 1048576) (hcap : len ≤ cap) (hcap2 : cap ≤ 1048576) :
    Calls Try.prog 36 #[.slice a len cap, .int .i64 p] w (RetSS 22 zs p w) := by
  have HRES := Lib.hid (show Try.f36.results = #[.cell 4 29, .tmp 5] by kernel_rfl)
  have al0 := (Below.refl w.heap.size w).alloc (Nat.le_refl _) (.cells #[.float .f32 0, .float .f32 0, .slice none 0 0, .int .i64 0] 29)
  have G := Lib.hid al0
  have HO := Lib.hid (CIs.newAt w [.float .f32 0, .float .f32 0, .slice none 0 0, .int .i64 0] 29 (p := w.heap.size) rfl)
  have H := Lib.hid (FSl.below h al0)
  have HL := Lib.hid h.1
  have HW0 := Lib.hid h
  have hsz0 : (w.alloc (.cells #[.float .f32 0, .float .f32 0, .slice none 0 0, .int .i64 0] 29)).heap.size = w.heap.size + 1 := World.size_alloc _ _
  clear h al0
  cases hs : serB zs
  · have HS := Lib.hid hs
    have HB := Lib.hid (show ssB zs p = false by unfold ssB hrB; rw [hs]; rfl)
    clear hs
    go_enter Try.func36, Try.ntmps36
    go_wp2_with fail
    refine (specSeries_any _ _ _ zs _ H.out hm).mono ?_
    rw [HS.out]
    rintro e w' ⟨m, rfl, rfl⟩
    replace G := Lib.hid (below_drewN G.out m)
    replace HO := Lib.hid (HO.out.drewN m)
    replace H := Lib.hid (FSl.drewN H.out m)
    replace hsz0 : ((w.alloc (.cells #[.float .f32 0, .float .f32 0, .slice none 0 0, .int .i64 0] 29)).drewN m).heap.size = w.heap.size + 1 := hsz0
    generalize (w.alloc (.cells #[.float .f32 0, .float .f32 0, .slice none 0 0, .int .i64 0] 29)).drewN m = Wm at *
    obtain ⟨g0, g1, g2, g3⟩ := HO.out.c4
    obtain ⟨f0, f1, f2, f3⟩ := HO.out.f4
    go_wp2_with fail
    have GF := Lib.hid ((((G.out.setCell (p := ⟨w.heap.size, 0, none⟩) (by show w.heap.size ≤ w.heap.size; omega) (.float .f32 0)).setCell (p := ⟨w.heap.size, 1, none⟩) (by show w.heap.size ≤ w.heap.size; omega) (.float .f32 0)).setCell (p := ⟨w.heap.size, 2, none⟩) (by show w.heap.size ≤ w.heap.size; omega) (.slice none 0 0)).setCell (p := ⟨w.heap.size, 3, none⟩) (by show w.heap.size ≤ w.heap.size; omega) (.int .i64 0))
    refine bodyPost_ret (v := .tuple #[.agg #[.float .f32 0, .float .f32 0, .slice none 0 0, .int .i64 0], .bool false]) ?_ rfl ?_
    · have hres := HRES.out
      simp only [results, hres]
      go_simp
    · exact ss_no HB.out GF.out
  have HS := Lib.hid hs
  by_cases hp : 1 ≤ p ∧ p ≤ 24
  rotate_left
  · have HB := Lib.hid (show ssB zs p = false by
      have : hrB zs p = false := by
        unfold hrB
        rcases Decidable.not_and_iff_or_not.1 hp with h1 | h1
        · rw [decide_eq_false h1]; simp
        · rw [decide_eq_false h1]; simp
      unfold ssB; rw [this]; rfl)
    clear hs
    go_enter Try.func36, Try.ntmps36
    go_wp2_with fail
    refine (specSeries_any _ _ _ zs _ H.out hm).mono ?_
    rw [HS.out]
    rintro e w' ⟨m, rfl, rfl⟩
    replace G := Lib.hid (below_drewN G.out m)
    replace HO := Lib.hid (HO.out.drewN m)
    replace H := Lib.hid (FSl.drewN H.out m)
    replace hsz0 : ((w.alloc (.cells #[.float .f32 0, .float .f32 0, .slice none 0 0, .int .i64 0] 29)).drewN m).heap.size = w.heap.size + 1 := hsz0
    generalize (w.alloc (.cells #[.float .f32 0, .float .f32 0, .slice none 0 0, .int .i64 0] 29)).drewN m = Wm at *
    go_wp2_with fail
    refine (in_no _ _ _ _ (by omega)).mono ?_
    rintro e w' ⟨rfl, rfl⟩
    obtain ⟨g0, g1, g2, g3⟩ := HO.out.c4
    obtain ⟨f0, f1, f2, f3⟩ := HO.out.f4
    go_wp2_with fail
    have GF := Lib.hid ((((G.out.setCell (p := ⟨w.heap.size, 0, none⟩) (by show w.heap.size ≤ w.heap.size; omega) (.float .f32 0)).setCell (p := ⟨w.heap.size, 1, none⟩) (by show w.heap.size ≤ w.heap.size; omega) (.float .f32 0)).setCell (p := ⟨w.heap.size, 2, none⟩) (by show w.heap.size ≤ w.heap.size; omega) (.slice none 0 0)).setCell (p := ⟨w.heap.size, 3, none⟩) (by show w.heap.size ≤ w.heap.size; omega) (.int .i64 0))
    refine bodyPost_ret (v := .tuple #[.agg #[.float .f32 0, .float .f32 0, .slice none 0 0, .int .i64 0], .bool false]) ?_ rfl ?_
    · have hres := HRES.out
      simp only [results, hres]
      go_simp
    · exact ss_no HB.out GF.out
  have hp1 := hp.1
  have hp24 := hp.2
  obtain ⟨n, rfl⟩ : ∃ n : Nat, p = n := ⟨p.toNat, by omega⟩
  by_cases hn2 : n ≤ len
  rotate_left
  · have hd : decide ((len : Int) < (n : Int)) = true := decide_eq_true (by omega)
    have HB := Lib.hid (show ssB zs (n : Int) = false by
      have : hrB zs (n : Int) = false := by unfold hrB; rw [HL.out, decide_eq_false (show ¬ ((n : Int) ≤ (len : Int)) by omega)]; simp
      unfold ssB; rw [this]; rfl)
    clear hs
    go_enter Try.func36, Try.ntmps36
    go_wp2_with fail
    refine (specSeries_any _ _ _ zs _ H.out hm).mono ?_
    rw [HS.out]
    rintro e w' ⟨m, rfl, rfl⟩
    replace G := Lib.hid (below_drewN G.out m)
    replace HO := Lib.hid (HO.out.drewN m)
    replace H := Lib.hid (FSl.drewN H.out m)
    replace hsz0 : ((w.alloc (.cells #[.float .f32 0, .float .f32 0, .slice none 0 0, .int .i64 0] 29)).drewN m).heap.size = w.heap.size + 1 := hsz0
    generalize (w.alloc (.cells #[.float .f32 0, .float .f32 0, .slice none 0 0, .int .i64 0] 29)).drewN m = Wm at *
    go_wp2_with fail
    refine (in_yes _ _ _ _ hp1 hp24).mono ?_
    rintro e w' ⟨rfl, rfl⟩
    obtain ⟨g0, g1, g2, g3⟩ := HO.out.c4
    obtain ⟨f0, f1, f2, f3⟩ := HO.out.f4
    go_wp2_with fail
    have GF := Lib.hid ((((G.out.setCell (p := ⟨w.heap.size, 0, none⟩) (by show w.heap.size ≤ w.heap.size; omega) (.float .f32 0)).setCell (p := ⟨w.heap.size, 1, none⟩) (by show w.heap.size ≤ w.heap.size; omega) (.float .f32 0)).setCell (p := ⟨w.heap.size, 2, none⟩) (by show w.heap.size ≤ w.heap.size; omega) (.slice none 0 0)).setCell (p := ⟨w.heap.size, 3, none⟩) (by show w.heap.size ≤ w.heap.size; omega) (.int .i64 0))
    refine bodyPost_ret (v := .tuple #[.agg #[.float .f32 0, .float .f32 0, .slice none 0 0, .int .i64 0], .bool false]) ?_ rfl ?_
    · have hres := HRES.out
      simp only [results, hres]
      go_simp
    · exact ss_no HB.out GF.out
  have hd : decide ((len : Int) < (n : Int)) = false := decide_eq_false (by omega)
  have HR := Lib.hid (show hrB zs (n : Int) = true by unfold hrB; rw [hs, HL.out, decide_eq_true hp1, decide_eq_true hp24, decide_eq_true (show (n : Int) ≤ (len : Int) by omega)]; rfl)
  have hn1 : 1 ≤ n := by omega
  obtain ⟨b, off, rfl, hbl, -⟩ := H.out.at (show 0 < len by omega)
  have hi0 : (0 : Int) ≤ (n : Int) := by omega
  have hi1 : (n : Int) ≤ (cap : Int) := by omega
  clear hs hp
  go_enter Try.func36, Try.ntmps36
  go_wp2_with fail
  refine (specSeries_any _ _ _ zs _ H.out hm).mono ?_
  rw [HS.out]
  rintro e w' ⟨m, rfl, rfl⟩
  replace G := Lib.hid (below_drewN G.out m)
  replace HO := Lib.hid (HO.out.drewN m)
  replace H := Lib.hid (FSl.drewN H.out m)
  replace hsz0 : ((w.alloc (.cells #[.float .f32 0, .float .f32 0, .slice none 0 0, .int .i64 0] 29)).drewN m).heap.size = w.heap.size + 1 := hsz0
  generalize (w.alloc (.cells #[.float .f32 0, .float .f32 0, .slice none 0 0, .int .i64 0] 29)).drewN m = Wm at *
  go_wp2_with fail
  refine (in_yes _ _ _ _ hp1 hp24).mono ?_
  rintro e w' ⟨rfl, rfl⟩
  go_wp2_with fail
  refine (l02Mean_any _ _ _ (zs.take n) _ (ss_pre H.out (by omega) hn2) (by omega)).mono ?_
  rintro e w' ⟨L, m2, hL, rfl, rfl⟩
  have HLv := Lib.hid (show cn .f32 L = ssL zs n from hL)
  clear hL
  replace G := Lib.hid (below_drewN G.out m2)
  replace HO := Lib.hid (HO.out.drewN m2)
  replace H := Lib.hid (FSl.drewN H.out m2)
  replace hsz0 : (Wm.drewN m2).heap.size = w.heap.size + 1 := hsz0
  generalize Wm.drewN m2 = W1 at *
  obtain ⟨g, hg⟩ : ∃ q, W1.heap.size = q := ⟨_, rfl⟩
  have bA := ((Below.refl W1.heap.size W1).alloc (Nat.le_refl _) (.cells #[.float .f32 0] 22)).alloc (by simp) (.cells #[.float .f32 L, .float .f32 0, .slice (some ⟨g, 0, none⟩) 1 1, .int .i64 0] 29)
  have HZ := Lib.hid (FOwn.mono ((FOwn.one 22 W1 0).alloc (.cells #[.float .f32 L, .float .f32 0, .slice (some ⟨g, 0, none⟩) 1 1, .int .i64 0] 29)) (show w.heap.size + 1 ≤ W1.heap.size by omega))
  rw [hg] at HZ
  have HC := Lib.hid (CIs.newAt (W1.alloc (.cells #[.float .f32 0] 22)) [.float .f32 L, .float .f32 0, .slice (some ⟨g, 0, none⟩) 1 1, .int .i64 0] 29 (p := g + 1) (by rw [World.size_alloc, hg]))
  replace HO := Lib.hid (HO.out.below bA)
  replace G := Lib.hid (G.out.trans (bA.mono (by omega)))
  have hgw : w.heap.size + 1 = g := by omega
  clear bA H
  go_upto_if 33 with fail
  try rw [hg]
  generalize (W1.alloc (.cells #[.float .f32 0] 22)).alloc (.cells #[.float .f32 L, .float .f32 0, .slice (some ⟨g, 0, none⟩) 1 1, .int .i64 0] 29) = W2 at *
  have hw : IntKind.i64.wrap (2 * (n : Int)) = ((2 * n : Nat) : Int) := by rw [IntKind.wrap_i64]; omega
  go_cut [32, 33] (fun v32 v33 wx => ∃ Sw : Nat, Hid (cn .f32 Sw = ssS zs n) ∧ Hid (CIs wx (g + 1) [.float .f32 L, .float .f32 Sw, .slice (some ⟨g, 0, none⟩) 1 1, .int .i64 0]) ∧ Hid (FOwn 22 (w.heap.size + 1) wx (.slice (some ⟨g, 0, none⟩) 1 1) [0]) ∧ Hid (Below w.heap.size w wx) ∧ Hid (CIs wx w.heap.size [.float .f32 0, .float .f32 0, .slice none 0 0, .int .i64 0]))
  case first =>
    by_cases h2 : 2 * n ≤ len
    · have hd1 : decide (((2 * n : Nat) : Int) ≤ (len : Int)) = true := decide_eq_true (by omega)
      have hx0 : (0 : Int) ≤ ((2 * n : Nat) : Int) := by omega
      have hx1 : (n : Int) ≤ ((2 * n : Nat) : Int) := by omega
      have hx2 : ((2 * n : Nat) : Int) ≤ (cap : Int) := by omega
      have hx3 : 2 * n - n = n := by omega
      have H2 := Lib.hid (FSl.cut (FSl.below HW0.out G.out) (show 0 < len by omega) (i := n) (n := n) (by omega))
      have HS2 := Lib.hid (show ∀ M, cn .f32 M = ssM zs n → ∀ w1 w2, cn .f32 (fopR .quo .f32 (fopR .sub .f32 M L w1) (floatOfInt .f32 (n : Int)) w2) = ssS zs n from fun M hM w1 w2 => by rw [cn_fopR, cn_fopR, hM, HLv.out]; unfold ssS; rw [if_pos (by rw [HL.out]; exact h2)]; rfl)
      obtain ⟨k0, k1, k2, k3⟩ := HC.out.c4
      obtain ⟨f0, f1, f2, f3⟩ := HC.out.f4
      have HNP := Lib.hid (show (Value.slice (some ⟨g, 0, none⟩) 1 1).ownBlock ≠ some (g + 1) from fun e => by have h1 : g = g + 1 := Option.some.inj e; omega)
      go_wp2_with fail
      go_region_with
        ((go_at_call 76; refine (l02Mean_any _ _ _ ((zs.drop n).take n) _ (FSl.drewN H2.out _) (by omega)).mono ?_; rintro e w2 ⟨M, m4, hM, rfl, rfl⟩))
      all_goals
        go_wp2_with fail
        go_meet
        case rel => exact ⟨_, Lib.hid (HS2.out _ hM _ _), Lib.hid ((HC.out.drewN _).put (o := 1) (v := .float .f32 _) (by simp)), Lib.hid (own_else (FOwn.drewN HZ.out _) HNP.out 1 _), Lib.hid ((below_drewN G.out _).setCell (p := ⟨g + 1, 1, none⟩) (show w.heap.size ≤ g + 1 by omega) _), Lib.hid ((HO.out.drewN _).set (q := g + 1) (o := 1) (by omega))⟩
    · have hd1 : decide (((2 * n : Nat) : Int) ≤ (len : Int)) = false := decide_eq_false (by omega)
      have HS0 := Lib.hid (show cn .f32 0 = ssS zs n by unfold ssS; rw [if_neg (by rw [HL.out]; exact h2)]; exact cn_zero)
      go_wp2_with fail
      go_meet
      case rel => exact ⟨0, HS0, HC, HZ, G, HO⟩
  case rest =>
    clear HC HZ G HO
    obtain ⟨Sw, HSw, HC, HZ, G, HO⟩ := hcut
    go_upto_if 48 with fail
    go_cut [47, 48] (fun v47 v48 wx => ∃ (A : Option Addr) (c : Nat) (Zs : List Nat), Hid (CIs wx (g + 1) [.float .f32 L, .float .f32 Sw, .slice A Zs.length c, .int .i64 0]) ∧ Hid (FOwn 22 (w.heap.size + 1) wx (.slice A Zs.length c) Zs) ∧ Hid (Zs.length = n) ∧ Hid (cnl Zs = ssZ zs n) ∧ Hid (Below w.heap.size w wx) ∧ Hid (CIs wx w.heap.size [.float .f32 0, .float .f32 0, .slice none 0 0, .int .i64 0]))
    case first =>
      by_cases h1 : n = 1
      · have hd1 : decide ((1 : Int) < (n : Int)) = false := decide_eq_false (by omega)
        have hd2 : ¬ (1 < n) := by omega
        have HE := Lib.hid (show cnl [0] = ssZ zs n by unfold ssZ; rw [if_pos h1]; show [cn .f32 0] = [0]; rw [cn_zero])
        have HE1 := Lib.hid (show ([0] : List Nat).length = n by rw [h1]; rfl)
        clear h1
        go_wp2_with fail
        go_meet
        case rel => exact ⟨some ⟨g, 0, none⟩, 1, [0], HC, HZ, HE1, HE, G, HO⟩
      · have hd1 : decide ((1 : Int) < (n : Int)) = true := decide_eq_true (by omega)
        have hd2 : 1 < n := by omega
        have HW1 := Lib.hid (ss_pre (FSl.below HW0.out G.out) (show 0 < len by omega) hn2)
        obtain ⟨k0, k1, k2, k3⟩ := HC.out.c4
        obtain ⟨f0, f1, f2, f3⟩ := HC.out.f4
        have HNZ := Lib.hid h1
        have hgs := HC.out.1
        clear h1
        go_wp2_with fail
        go_region_with
          ((go_at_call 77; refine (l02Less_any _ _ _ (zs.take n) L _ (FSl.drewN HW1.out _) (by omega)).mono ?_; rintro e w3 ⟨v, rs, rfl, ho, hx, bb⟩; obtain ⟨A, cp, rfl, -, -⟩ := ho.sl; obtain ⟨k0', k1', k2', k3'⟩ := ((CIs.drew HC.out).below bb).c4; obtain ⟨f0', f1', f2', f3'⟩ := ((CIs.drew HC.out).below bb).f4))
        all_goals
          go_wp2_with fail
          go_meet
          case rel =>
            have hlr : rs.length = n := by have := congrArg List.length hx; rw [cnl_len, less_len, List.length_take, HL.out] at this; omega
            refine ⟨A, cp, rs, Lib.hid (((CIs.drew HC.out).below bb).put (o := 2) (v := .slice A rs.length cp) (by simp)), Lib.hid (FOwn.mono (own_else ho (own_far ho hgs) 2 _) (show w.heap.size + 1 ≤ wc.heap.size by omega)), Lib.hid hlr, Lib.hid ?_, Lib.hid ((G.out.drew.trans (bb.mono (show w.heap.size ≤ wc.heap.size by omega))).setCell (p := ⟨g + 1, 2, none⟩) (show w.heap.size ≤ g + 1 by omega) _), Lib.hid (((CIs.drew HO.out).below bb).set (q := g + 1) (o := 2) (by omega))⟩
            unfold ssZ
            rw [if_neg HNZ.out, hx, HLv.out]
    case rest =>
      clear HC HZ G HO
      obtain ⟨A, c, Zs, HC, HZ, HZl, HZc, G, HO⟩ := hcut
      obtain ⟨k0, k1, k2, k3⟩ := HC.out.c4
      go_wp2_with fail
      refine (spGive_any _ _ _ _ _ Zs _ _ (own_fsl HZ.out) (by have := HZl.out; omega)).mono ?_
      rintro e w8 ⟨hres, b8⟩
      clear k0 k1 k2 k3
      replace G := Lib.hid (G.out.trans (b8.mono G.out.size))
      replace HO := Lib.hid (HO.out.below b8)
      replace HZ := Lib.hid (FOwn.keepS HZ.out b8)
      clear b8 HC
      rcases hres with ⟨hst, rfl⟩ | ⟨hst, rfl⟩
      · have HST := Lib.hid hst
        clear hst
        obtain ⟨g0, g1, g2, g3⟩ := HO.out.c4
        obtain ⟨f0, f1, f2, f3⟩ := HO.out.f4
        have hne := own_far HZ.out (show w.heap.size < w.heap.size + 1 by omega)
        have HZF := Lib.hid (FOwn.mono (own_else (own_else (own_else (own_else HZ.out hne 0 (.float .f32 L)) hne 1 (.float .f32 Sw)) hne 2 (.slice A Zs.length c)) hne 3 (.int .i64 0)) (show w.heap.size ≤ w.heap.size + 1 by omega))
        have GF := Lib.hid ((((G.out.setCell (p := ⟨w.heap.size, 0, none⟩) (Nat.le_refl _) (.float .f32 L)).setCell (p := ⟨w.heap.size, 1, none⟩) (Nat.le_refl _) (.float .f32 Sw)).setCell (p := ⟨w.heap.size, 2, none⟩) (Nat.le_refl _) (.slice A Zs.length c)).setCell (p := ⟨w.heap.size, 3, none⟩) (Nat.le_refl _) (.int .i64 0))
        clear hne
        go_wp2_with fail
        refine bodyPost_ret (v := .tuple #[.agg #[.float .f32 L, .float .f32 Sw, .slice A Zs.length c, .int .i64 0], .bool true]) ?_ rfl ?_
        · have hres := HRES.out
          simp only [results, hres]
          go_simp
        · exact ss_yes HR.out HLv.out HSw.out HZc.out HST.out HZF.out GF.out
      · have HB := Lib.hid (ss_bad HLv.out HSw.out HZc.out hst)
        clear hst
        obtain ⟨g0, g1, g2, g3⟩ := HO.out.c4
        obtain ⟨f0, f1, f2, f3⟩ := HO.out.f4
        go_wp2_with fail
        have GF := Lib.hid ((((G.out.setCell (p := ⟨w.heap.size, 0, none⟩) (by show w.heap.size ≤ w.heap.size; omega) (.float .f32 0)).setCell (p := ⟨w.heap.size, 1, none⟩) (by show w.heap.size ≤ w.heap.size; omega) (.float .f32 0)).setCell (p := ⟨w.heap.size, 2, none⟩) (by show w.heap.size ≤ w.heap.size; omega) (.slice none 0 0)).setCell (p := ⟨w.heap.size, 3, none⟩) (by show w.heap.size ≤ w.heap.size; omega) (.int .i64 0))
        refine bodyPost_ret (v := .tuple #[.agg #[.float .f32 0, .float .f32 0, .slice none 0 0, .int .i64 0], .bool false]) ?_ rfl ?_
        · have hres := HRES.out
          simp only [results, hres]
          go_simp
        · exact ss_no HB.out GF.out
end Go.Proofs.Ytgddfhmddkhaeaa
