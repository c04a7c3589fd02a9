/-
  Two sorted neighbours are merged (slices.symMergeCmpFunc).
-/
import Derived.Test.YtallegmkkbmelabCSym
namespace Go.Proofs.Ytallegmkkbmelab
open Ieee Go.RowKit
set_option linter.unusedVariables false

/-- What is asked of a merge of at most sz numbers. -/
def SymOk (g n c cap sz : Nat) : Prop := ∀ (a m b : Nat) (f : Nat → Nat) (w : World), b - a ≤ sz → Arr 28 g n c f w → NoN f n → a < m → m < b → b ≤ n → Srt fkey f a m → Srt fkey f m b →
    Calls Try.prog 96 #[.slice (some ⟨g, 0, none⟩) n cap, .int .i64 a, .int .i64 m, .int .i64 b, CMP] w fun e w' => ∃ f', Sw 28 g n c f' w e w' ∧ Mrg fkey n f f' a b

set_option maxHeartbeats 16000000 in
set_option maxRecDepth 1000000 in
theorem symStep_any (g n c cap sz : Nat) (hn : n ≤ 1048576) (IH : SymOk g n c cap sz) (a m b : Nat) (f : Nat → Nat) (w : World) (hsz : b - a ≤ sz + 1) (h : Arr 28 g n c f w) (hN : NoN f n) (ham : a + 1 < m) (hmb : m + 1 < b) (hb : b ≤ n) (hl : Srt fkey f a m) (hr : Srt fkey f m b) :
    Calls Try.prog 96 #[.slice (some ⟨g, 0, none⟩) n cap, .int .i64 a, .int .i64 m, .int .i64 b, CMP] w (fun e w' => ∃ f', Sw 28 g n c f' w e w' ∧ Mrg fkey n f f' a b) := by
  have HA := Lib.hid h
  have HN := Lib.hid hN
  have HL := Lib.hid hl
  have HR := Lib.hid hr
  unfold SymOk at IH
  unfold CMP at IH ⊢
  have HIH := Lib.hid IH
  have eg := enter_of (P := Try.prog) Try.func89 (by kernel_rfl) rfl
  have d0 : decide ((m : Int) - (a : Int) = 1) = false := decide_eq_false (by omega)
  have d00 : ((m : Int) - (a : Int) == 1) = false := beq_false_of_ne (by omega)
  have d1 : decide ((b : Int) - (m : Int) = 1) = false := decide_eq_false (by omega)
  have d11 : ((b : Int) - (m : Int) == 1) = false := beq_false_of_ne (by omega)
  obtain ⟨mid, hmid⟩ : ∃ mid : Nat, mid = (a + b) / 2 := ⟨_, rfl⟩
  have hmz : ((a : Int) + (b : Int)) / 2 = (mid : Int) := by omega
  have q1 : 2 * mid ≤ a + b := by omega
  have q2 : a + b ≤ 2 * mid + 1 := by omega
  have HMid := Lib.hid hmid
  obtain ⟨np, hnp⟩ : ∃ np : Nat, np = mid + m := ⟨_, rfl⟩
  have hnz : (mid : Int) + (m : Int) = (np : Int) := by omega
  obtain ⟨pp, hpp⟩ : ∃ pp : Nat, pp + 1 = np := ⟨np - 1, by omega⟩
  have hpz : (np : Int) - 1 = (pp : Int) := by omega
  have HNp := Lib.hid (show pp = mid + m - 1 by omega)
  have n1 : np ≤ mid + m := by omega
  have n2 : mid + m ≤ np := by omega
  have n3 : np ≤ pp + 1 := by omega
  have n4 : pp < np := by omega
  clear h hN hl hr IH hmid hnp hpp
  by_cases cc : mid < m
  · have ccz : (mid : Int) < (m : Int) := by omega
    obtain ⟨s0, hs0⟩ : ∃ s0 : Nat, s0 + b = np := ⟨np - b, by omega⟩
    have hsz0 : (np : Int) - (b : Int) = (s0 : Int) := by omega
    have s01 : np ≤ s0 + b := by omega
    have s02 : s0 + b ≤ np := by omega
    clear hs0
    go_enter Try.func96, Try.ntmps96
    go_wp2
    go_loopw [20, 21] (fun vs vr wr => ∃ s r q : Nat, vs = .int .i64 s ∧ vr = .int .i64 r ∧ s0 ≤ s ∧ s ≤ r ∧ r ≤ mid ∧ wr = w.drewN q ∧ Hid (∀ c', s0 ≤ c' → c' < s → fkey (f c') ≤ fkey (f (mid + m - 1 - c'))) ∧ Hid (∀ c', r ≤ c' → c' < mid → fkey (f (mid + m - 1 - c')) < fkey (f c'))) (fun vs vr _ => (intOf vr).toNat - (intOf vs).toNat)
    case atStart => exact ⟨s0, mid, 0, by go_num, by go_num, Nat.le_refl _, by omega, Nat.le_refl _, rfl, Lib.hid fun c' _ _ => by omega, Lib.hid fun c' _ _ => by omega⟩
    case round =>
      obtain ⟨s, r, q, rfl, rfl, hs1, hsr, hr1, rfl, k1, k2⟩ := hrel
      by_cases hlt : s < r
      · obtain ⟨p, hp⟩ : ∃ p : Nat, p = (s + r) / 2 := ⟨_, rfl⟩
        have hcz : ((s : Int) + (r : Int)) / 2 = (p : Int) := by omega
        have hp1 : s ≤ p := by omega
        have hp2 : p < r := by omega
        clear hp
        obtain ⟨u, hu⟩ : ∃ u : Nat, u = pp - p := ⟨_, rfl⟩
        have huz : (pp : Int) - (p : Int) = (u : Int) := by omega
        have HU := Lib.hid (show u = mid + m - 1 - p by omega)
        have u1 : m ≤ u := by omega
        have u2 : u < b := by omega
        have u3 : u + p ≤ pp := by omega
        have u4 : pp ≤ u + p := by omega
        clear hu
        obtain ⟨x, hx⟩ : ∃ x, f u = x := ⟨_, rfl⟩
        obtain ⟨y, hy⟩ : ∃ y, f p = y := ⟨_, rfl⟩
        have c1 := HA.out.cell (j := u) (by omega)
        have c2 := HA.out.cell (j := p) (by omega)
        rw [hx] at c1
        rw [hy] at c2
        have nx : isN .f32 x = false := by rw [← hx]; exact HN.out u (by omega)
        have ny : isN .f32 y = false := by rw [← hy]; exact HN.out p (by omega)
        have hc := Lib.hid (fun W => cmp_any x y W nx ny)
        have l1 : (u : Int) < (n : Int) := by omega
        have l2 : (p : Int) < (n : Int) := by omega
        have p1 : (0 : Int) ≤ (u : Int) := by omega
        have p2 : (0 : Int) ≤ (p : Int) := by omega
        clear nx ny
        by_cases hlv : fkey x < fkey y
        · have hd : decide (cmpZ x y < 0) = true := by rw [cmpZ_lt]; exact decide_eq_true hlv
          have K2 := Lib.hid (show ∀ c', p ≤ c' → c' < mid → fkey (f (mid + m - 1 - c')) < fkey (f c') from fun c' g1 g2 => by
            have t1 := HL.out.le (i := p) (j := c') (by omega) g1 (by omega)
            have t2 := HR.out.le (i := mid + m - 1 - c') (j := u) (by omega) (by omega) u2
            rw [hy] at t1; rw [hx] at t2; omega)
          clear hx hy
          go_wp2_with fail
          go_quiet ((go_at_call 89; first | exact quiet_V (hc.out _) | exact quiet_add_V (hc.out _)))
          clear c1 c2 hc k2
          go_wp2
          go_roundw
          case rel => exact ⟨s, p, _, rfl, rfl, hs1, by omega, by omega, by first | rfl | rw [World.drewN_drewN], k1, K2⟩
          case measure => simp [intOf]; omega
        · have hd : decide (cmpZ x y < 0) = false := by rw [cmpZ_lt]; exact decide_eq_false hlv
          have K1 := Lib.hid (show ∀ c', s0 ≤ c' → c' < p + 1 → fkey (f c') ≤ fkey (f (mid + m - 1 - c')) from fun c' g1 g2 => by
            have t1 := HL.out.le (i := c') (j := p) (by omega) (by omega) (by omega)
            have t2 := HR.out.le (i := u) (j := mid + m - 1 - c') (by omega) (by omega) (by omega)
            rw [hy] at t1; rw [hx] at t2; omega)
          clear hx hy
          go_wp2_with fail
          go_quiet ((go_at_call 89; first | exact quiet_V (hc.out _) | exact quiet_add_V (hc.out _)))
          clear c1 c2 hc k1
          go_wp2
          go_roundw
          case rel => exact ⟨p + 1, r, _, by go_num, rfl, by omega, by omega, hr1, by first | rfl | rw [World.drewN_drewN], K1, k2⟩
          case measure => simp [intOf]; omega
      · obtain rfl : s = r := by omega
        obtain ⟨e, he⟩ : ∃ e : Nat, e = mid + m - s := ⟨_, rfl⟩
        have hez : (np : Int) - (s : Int) = (e : Int) := by omega
        obtain ⟨a1, a2, a3, a4, a5, a6, a7, a8, hst, hcr, sl1, sl2, sr1, sr2⟩ := sym_halves (n := n) hb (by omega) (by omega) HMid.out (.inl ⟨by omega, by omega, rfl⟩) hs1 hr1 he HL.out HR.out k1.out k2.out
        have HSt := Lib.hid hst
        have HCr := Lib.hid hcr
        have SL1 := Lib.hid sl1
        have SL2 := Lib.hid sl2
        have SR1 := Lib.hid sr1
        have SR2 := Lib.hid sr2
        have e3 : e + s ≤ mid + m := by omega
        have e4 : mid + m ≤ e + s := by omega
        have HN1 := Lib.hid (HN.out.stb HSt.out)
        clear hst hcr sl1 sl2 sr1 sr2 he k1 k2 hlt
        have HFin := Lib.hid (fun (f2 f3 : Nat → Nat) (m1 : Mrg fkey n (rotF f s m e) f2 a mid) (m2 : Mrg fkey n f2 f3 mid b) => sym_mrg (key := fkey) a1 a4 a2 a3 rfl a7 a8 HSt.out HCr.out m1 m2)
        have HKeep := Lib.hid (fun (f2 : Nat → Nat) (m1 : Mrg fkey n (rotF f s m e) f2 a mid) => (⟨SR1.out.out m1.outs (.inr (Nat.le_refl _)), SR2.out.out m1.outs (.inr a6), HN1.out.stb m1.stb⟩ : Srt fkey f2 mid e ∧ Srt fkey f2 e b ∧ NoN f2 n))
        rcases (show (s < m ∧ s < mid) ∨ (m ≤ s) ∨ (s < m ∧ mid ≤ s) by omega) with ⟨b1, b2⟩ | b1 | ⟨b1, b2⟩
        · have z1 : (s : Int) < (m : Int) := by omega
          have z2 : (m : Int) < (e : Int) := by omega
          go_wp2_with fail
          with_reducible refine (rotate_any _ _ _ _ s m e f _ _ (HA.out.drewN q) (by omega) (by omega) (by omega) hn).mono ?_
          rintro _ w1 ⟨rfl, ho1, ha1⟩
          have HO1 := Lib.hid (((Only.refl g w).drewN q).trans ho1)
          have HA1 := Lib.hid ha1
          clear ho1 ha1
          have z3 : (s : Int) < (mid : Int) := by omega
          have z4 : (mid : Int) < (e : Int) := by omega
          by_cases b3 : a < s
          · have z5 : (a : Int) < (s : Int) := by omega
            go_wp2_with fail
            with_reducible refine (HIH.out a s mid (rotF f s m e) _ (by omega) HA1.out HN1.out (by omega) (by omega) (by omega) SL1.out SL2.out).mono ?_
            rintro _ w2 ⟨f2, ⟨rfl, ho2, ha2⟩, hm2⟩
            have HO2 := Lib.hid (HO1.out.trans ho2)
            have HA2 := Lib.hid ha2
            have HM2 := Lib.hid hm2
            clear ho2 ha2 hm2 HO1 HA1
            by_cases b4 : e < b
            · have z6 : (e : Int) < (b : Int) := by omega
              have HK := Lib.hid (HKeep.out f2 HM2.out)
              go_wp2_with fail
              with_reducible refine (HIH.out mid e b f2 _ (by omega) HA2.out HK.out.2.2 (by omega) (by omega) (by omega) HK.out.1 HK.out.2.1).mono ?_
              rintro _ w3 ⟨f3, ⟨rfl, ho3, ha3⟩, hm3⟩
              have HO3 := Lib.hid (HO2.out.trans ho3)
              have HA3 := Lib.hid ha3
              have HM3 := Lib.hid (HFin.out f2 f3 HM2.out hm3)
              clear ho3 ha3 hm3 HO2 HA2 HM2
              go_wp2
              go_end0
              exact ⟨f3, ⟨rfl, HO3.out, HA3.out⟩, HM3.out⟩
            · have z6 : decide ((e : Int) < (b : Int)) = false := decide_eq_false (by omega)
              have HM3 := Lib.hid (HFin.out f2 f2 HM2.out (mrg_refl ((HKeep.out f2 HM2.out).1.part (Nat.le_refl _) (by omega))))
              go_wp2
              go_end0
              exact ⟨f2, ⟨rfl, HO2.out, HA2.out⟩, HM3.out⟩
          · have z5 : decide ((a : Int) < (s : Int)) = false := decide_eq_false (by omega)
            obtain ⟨f2, hf2⟩ : ∃ f2, f2 = rotF f s m e := ⟨_, rfl⟩
            have HO2 := HO1
            have HA2 := Lib.hid (show Arr 28 g n c f2 _ by rw [hf2]; exact HA1.out)
            have HM2 := Lib.hid (show Mrg fkey n (rotF f s m e) f2 a mid by rw [hf2]; exact mrg_refl (SL2.out.part (by omega) (Nat.le_refl _)))
            clear hf2 HO1 HA1
            by_cases b4 : e < b
            · have z6 : (e : Int) < (b : Int) := by omega
              have HK := Lib.hid (HKeep.out f2 HM2.out)
              go_wp2_with fail
              with_reducible refine (HIH.out mid e b f2 _ (by omega) HA2.out HK.out.2.2 (by omega) (by omega) (by omega) HK.out.1 HK.out.2.1).mono ?_
              rintro _ w3 ⟨f3, ⟨rfl, ho3, ha3⟩, hm3⟩
              have HO3 := Lib.hid (HO2.out.trans ho3)
              have HA3 := Lib.hid ha3
              have HM3 := Lib.hid (HFin.out f2 f3 HM2.out hm3)
              clear ho3 ha3 hm3 HO2 HA2 HM2
              go_wp2
              go_end0
              exact ⟨f3, ⟨rfl, HO3.out, HA3.out⟩, HM3.out⟩
            · have z6 : decide ((e : Int) < (b : Int)) = false := decide_eq_false (by omega)
              have HM3 := Lib.hid (HFin.out f2 f2 HM2.out (mrg_refl ((HKeep.out f2 HM2.out).1.part (Nat.le_refl _) (by omega))))
              go_wp2
              go_end0
              exact ⟨f2, ⟨rfl, HO2.out, HA2.out⟩, HM3.out⟩
        · exfalso; omega
        · have z1 : (s : Int) < (m : Int) := by omega
          have z2 : decide ((m : Int) < (e : Int)) = false := decide_eq_false (by omega)
          have HO1 := Lib.hid ((Only.refl g w).drewN q)
          have HA1 := Lib.hid (show Arr 28 g n c (rotF f s m e) (w.drewN q) by rw [rotF_id (.inr (by omega))]; exact HA.out)
          have z5 : (a : Int) < (s : Int) := by omega
          have z3 : decide ((s : Int) < (mid : Int)) = false := decide_eq_false (by omega)
          have z4 : (mid : Int) < (e : Int) := by omega
          have z6 : (e : Int) < (b : Int) := by omega
          obtain ⟨f2, hf2⟩ : ∃ f2, f2 = rotF f s m e := ⟨_, rfl⟩
          have HO2 := HO1
          have HA2 := Lib.hid (show Arr 28 g n c f2 _ by rw [hf2]; exact HA1.out)
          have HM2 := Lib.hid (show Mrg fkey n (rotF f s m e) f2 a mid by rw [hf2]; exact mrg_refl (SL1.out.part (Nat.le_refl _) (by omega)))
          clear hf2 HO1 HA1
          have HK := Lib.hid (HKeep.out f2 HM2.out)
          go_wp2_with fail
          with_reducible refine (HIH.out mid e b f2 _ (by omega) HA2.out HK.out.2.2 (by omega) (by omega) (by omega) HK.out.1 HK.out.2.1).mono ?_
          rintro _ w3 ⟨f3, ⟨rfl, ho3, ha3⟩, hm3⟩
          have HO3 := Lib.hid (HO2.out.trans ho3)
          have HA3 := Lib.hid ha3
          have HM3 := Lib.hid (HFin.out f2 f3 HM2.out hm3)
          clear ho3 ha3 hm3 HO2 HA2 HM2
          go_wp2
          go_end0
          exact ⟨f3, ⟨rfl, HO3.out, HA3.out⟩, HM3.out⟩
  · have ccz : decide ((mid : Int) < (m : Int)) = false := decide_eq_false (by omega)
    go_enter Try.func96, Try.ntmps96
    go_wp2
    go_loopw [20, 21] (fun vs vr wr => ∃ s r q : Nat, vs = .int .i64 s ∧ vr = .int .i64 r ∧ a ≤ s ∧ s ≤ r ∧ r ≤ m ∧ wr = w.drewN q ∧ Hid (∀ c', a ≤ c' → c' < s → fkey (f c') ≤ fkey (f (mid + m - 1 - c'))) ∧ Hid (∀ c', r ≤ c' → c' < m → fkey (f (mid + m - 1 - c')) < fkey (f c'))) (fun vs vr _ => (intOf vr).toNat - (intOf vs).toNat)
    case atStart => exact ⟨a, m, 0, by go_num, by go_num, Nat.le_refl _, by omega, Nat.le_refl _, rfl, Lib.hid fun c' _ _ => by omega, Lib.hid fun c' _ _ => by omega⟩
    case round =>
      obtain ⟨s, r, q, rfl, rfl, hs1, hsr, hr1, rfl, k1, k2⟩ := hrel
      by_cases hlt : s < r
      · obtain ⟨p, hp⟩ : ∃ p : Nat, p = (s + r) / 2 := ⟨_, rfl⟩
        have hcz : ((s : Int) + (r : Int)) / 2 = (p : Int) := by omega
        have hp1 : s ≤ p := by omega
        have hp2 : p < r := by omega
        clear hp
        obtain ⟨u, hu⟩ : ∃ u : Nat, u = pp - p := ⟨_, rfl⟩
        have huz : (pp : Int) - (p : Int) = (u : Int) := by omega
        have HU := Lib.hid (show u = mid + m - 1 - p by omega)
        have u1 : m ≤ u := by omega
        have u2 : u < b := by omega
        have u3 : u + p ≤ pp := by omega
        have u4 : pp ≤ u + p := by omega
        clear hu
        obtain ⟨x, hx⟩ : ∃ x, f u = x := ⟨_, rfl⟩
        obtain ⟨y, hy⟩ : ∃ y, f p = y := ⟨_, rfl⟩
        have c1 := HA.out.cell (j := u) (by omega)
        have c2 := HA.out.cell (j := p) (by omega)
        rw [hx] at c1
        rw [hy] at c2
        have nx : isN .f32 x = false := by rw [← hx]; exact HN.out u (by omega)
        have ny : isN .f32 y = false := by rw [← hy]; exact HN.out p (by omega)
        have hc := Lib.hid (fun W => cmp_any x y W nx ny)
        have l1 : (u : Int) < (n : Int) := by omega
        have l2 : (p : Int) < (n : Int) := by omega
        have p1 : (0 : Int) ≤ (u : Int) := by omega
        have p2 : (0 : Int) ≤ (p : Int) := by omega
        clear nx ny
        by_cases hlv : fkey x < fkey y
        · have hd : decide (cmpZ x y < 0) = true := by rw [cmpZ_lt]; exact decide_eq_true hlv
          have K2 := Lib.hid (show ∀ c', p ≤ c' → c' < m → fkey (f (mid + m - 1 - c')) < fkey (f c') from fun c' g1 g2 => by
            have t1 := HL.out.le (i := p) (j := c') (by omega) g1 (by omega)
            have t2 := HR.out.le (i := mid + m - 1 - c') (j := u) (by omega) (by omega) u2
            rw [hy] at t1; rw [hx] at t2; omega)
          clear hx hy
          go_wp2_with fail
          go_quiet ((go_at_call 89; first | exact quiet_V (hc.out _) | exact quiet_add_V (hc.out _)))
          clear c1 c2 hc k2
          go_wp2
          go_roundw
          case rel => exact ⟨s, p, _, rfl, rfl, hs1, by omega, by omega, by first | rfl | rw [World.drewN_drewN], k1, K2⟩
          case measure => simp [intOf]; omega
        · have hd : decide (cmpZ x y < 0) = false := by rw [cmpZ_lt]; exact decide_eq_false hlv
          have K1 := Lib.hid (show ∀ c', a ≤ c' → c' < p + 1 → fkey (f c') ≤ fkey (f (mid + m - 1 - c')) from fun c' g1 g2 => by
            have t1 := HL.out.le (i := c') (j := p) (by omega) (by omega) (by omega)
            have t2 := HR.out.le (i := u) (j := mid + m - 1 - c') (by omega) (by omega) (by omega)
            rw [hy] at t1; rw [hx] at t2; omega)
          clear hx hy
          go_wp2_with fail
          go_quiet ((go_at_call 89; first | exact quiet_V (hc.out _) | exact quiet_add_V (hc.out _)))
          clear c1 c2 hc k1
          go_wp2
          go_roundw
          case rel => exact ⟨p + 1, r, _, by go_num, rfl, by omega, by omega, hr1, by first | rfl | rw [World.drewN_drewN], K1, k2⟩
          case measure => simp [intOf]; omega
      · obtain rfl : s = r := by omega
        obtain ⟨e, he⟩ : ∃ e : Nat, e = mid + m - s := ⟨_, rfl⟩
        have hez : (np : Int) - (s : Int) = (e : Int) := by omega
        obtain ⟨a1, a2, a3, a4, a5, a6, a7, a8, hst, hcr, sl1, sl2, sr1, sr2⟩ := sym_halves (n := n) hb (by omega) (by omega) HMid.out (.inr ⟨by omega, rfl, rfl⟩) hs1 hr1 he HL.out HR.out k1.out k2.out
        have HSt := Lib.hid hst
        have HCr := Lib.hid hcr
        have SL1 := Lib.hid sl1
        have SL2 := Lib.hid sl2
        have SR1 := Lib.hid sr1
        have SR2 := Lib.hid sr2
        have e3 : e + s ≤ mid + m := by omega
        have e4 : mid + m ≤ e + s := by omega
        have HN1 := Lib.hid (HN.out.stb HSt.out)
        clear hst hcr sl1 sl2 sr1 sr2 he k1 k2 hlt
        have HFin := Lib.hid (fun (f2 f3 : Nat → Nat) (m1 : Mrg fkey n (rotF f s m e) f2 a mid) (m2 : Mrg fkey n f2 f3 mid b) => sym_mrg (key := fkey) a1 a4 a2 a3 rfl a7 a8 HSt.out HCr.out m1 m2)
        have HKeep := Lib.hid (fun (f2 : Nat → Nat) (m1 : Mrg fkey n (rotF f s m e) f2 a mid) => (⟨SR1.out.out m1.outs (.inr (Nat.le_refl _)), SR2.out.out m1.outs (.inr a6), HN1.out.stb m1.stb⟩ : Srt fkey f2 mid e ∧ Srt fkey f2 e b ∧ NoN f2 n))
        rcases (show (s < m ∧ s < mid) ∨ (m ≤ s) ∨ (s < m ∧ mid ≤ s) by omega) with ⟨b1, b2⟩ | b1 | ⟨b1, b2⟩
        · have z1 : (s : Int) < (m : Int) := by omega
          have z2 : (m : Int) < (e : Int) := by omega
          go_wp2_with fail
          with_reducible refine (rotate_any _ _ _ _ s m e f _ _ (HA.out.drewN q) (by omega) (by omega) (by omega) hn).mono ?_
          rintro _ w1 ⟨rfl, ho1, ha1⟩
          have HO1 := Lib.hid (((Only.refl g w).drewN q).trans ho1)
          have HA1 := Lib.hid ha1
          clear ho1 ha1
          have z3 : (s : Int) < (mid : Int) := by omega
          have z4 : (mid : Int) < (e : Int) := by omega
          by_cases b3 : a < s
          · have z5 : (a : Int) < (s : Int) := by omega
            go_wp2_with fail
            with_reducible refine (HIH.out a s mid (rotF f s m e) _ (by omega) HA1.out HN1.out (by omega) (by omega) (by omega) SL1.out SL2.out).mono ?_
            rintro _ w2 ⟨f2, ⟨rfl, ho2, ha2⟩, hm2⟩
            have HO2 := Lib.hid (HO1.out.trans ho2)
            have HA2 := Lib.hid ha2
            have HM2 := Lib.hid hm2
            clear ho2 ha2 hm2 HO1 HA1
            by_cases b4 : e < b
            · have z6 : (e : Int) < (b : Int) := by omega
              have HK := Lib.hid (HKeep.out f2 HM2.out)
              go_wp2_with fail
              with_reducible refine (HIH.out mid e b f2 _ (by omega) HA2.out HK.out.2.2 (by omega) (by omega) (by omega) HK.out.1 HK.out.2.1).mono ?_
              rintro _ w3 ⟨f3, ⟨rfl, ho3, ha3⟩, hm3⟩
              have HO3 := Lib.hid (HO2.out.trans ho3)
              have HA3 := Lib.hid ha3
              have HM3 := Lib.hid (HFin.out f2 f3 HM2.out hm3)
              clear ho3 ha3 hm3 HO2 HA2 HM2
              go_wp2
              go_end0
              exact ⟨f3, ⟨rfl, HO3.out, HA3.out⟩, HM3.out⟩
            · have z6 : decide ((e : Int) < (b : Int)) = false := decide_eq_false (by omega)
              have HM3 := Lib.hid (HFin.out f2 f2 HM2.out (mrg_refl ((HKeep.out f2 HM2.out).1.part (Nat.le_refl _) (by omega))))
              go_wp2
              go_end0
              exact ⟨f2, ⟨rfl, HO2.out, HA2.out⟩, HM3.out⟩
          · have z5 : decide ((a : Int) < (s : Int)) = false := decide_eq_false (by omega)
            obtain ⟨f2, hf2⟩ : ∃ f2, f2 = rotF f s m e := ⟨_, rfl⟩
            have HO2 := HO1
            have HA2 := Lib.hid (show Arr 28 g n c f2 _ by rw [hf2]; exact HA1.out)
            have HM2 := Lib.hid (show Mrg fkey n (rotF f s m e) f2 a mid by rw [hf2]; exact mrg_refl (SL2.out.part (by omega) (Nat.le_refl _)))
            clear hf2 HO1 HA1
            by_cases b4 : e < b
            · have z6 : (e : Int) < (b : Int) := by omega
              have HK := Lib.hid (HKeep.out f2 HM2.out)
              go_wp2_with fail
              with_reducible refine (HIH.out mid e b f2 _ (by omega) HA2.out HK.out.2.2 (by omega) (by omega) (by omega) HK.out.1 HK.out.2.1).mono ?_
              rintro _ w3 ⟨f3, ⟨rfl, ho3, ha3⟩, hm3⟩
              have HO3 := Lib.hid (HO2.out.trans ho3)
              have HA3 := Lib.hid ha3
              have HM3 := Lib.hid (HFin.out f2 f3 HM2.out hm3)
              clear ho3 ha3 hm3 HO2 HA2 HM2
              go_wp2
              go_end0
              exact ⟨f3, ⟨rfl, HO3.out, HA3.out⟩, HM3.out⟩
            · have z6 : decide ((e : Int) < (b : Int)) = false := decide_eq_false (by omega)
              have HM3 := Lib.hid (HFin.out f2 f2 HM2.out (mrg_refl ((HKeep.out f2 HM2.out).1.part (Nat.le_refl _) (by omega))))
              go_wp2
              go_end0
              exact ⟨f2, ⟨rfl, HO2.out, HA2.out⟩, HM3.out⟩
        · have z1 : decide ((s : Int) < (m : Int)) = false := decide_eq_false (by omega)
          have HO1 := Lib.hid ((Only.refl g w).drewN q)
          have HA1 := Lib.hid (show Arr 28 g n c (rotF f s m e) (w.drewN q) by rw [rotF_id (.inl (by omega))]; exact HA.out)
          have z4 : decide ((mid : Int) < (e : Int)) = false := decide_eq_false (by omega)
          have z5 : (a : Int) < (s : Int) := by omega
          by_cases b3 : s < mid
          · have z3 : (s : Int) < (mid : Int) := by omega
            go_wp2_with fail
            with_reducible refine (HIH.out a s mid (rotF f s m e) _ (by omega) HA1.out HN1.out (by omega) (by omega) (by omega) SL1.out SL2.out).mono ?_
            rintro _ w2 ⟨f2, ⟨rfl, ho2, ha2⟩, hm2⟩
            have HO2 := Lib.hid (HO1.out.trans ho2)
            have HA2 := Lib.hid ha2
            have HM2 := Lib.hid hm2
            clear ho2 ha2 hm2 HO1 HA1
            have HM3 := Lib.hid (HFin.out f2 f2 HM2.out (mrg_refl ((HKeep.out f2 HM2.out).2.1.part (by omega) (Nat.le_refl _))))
            go_wp2
            go_end0
            exact ⟨f2, ⟨rfl, HO2.out, HA2.out⟩, HM3.out⟩
          · have z3 : decide ((s : Int) < (mid : Int)) = false := decide_eq_false (by omega)
            obtain ⟨f2, hf2⟩ : ∃ f2, f2 = rotF f s m e := ⟨_, rfl⟩
            have HO2 := HO1
            have HA2 := Lib.hid (show Arr 28 g n c f2 _ by rw [hf2]; exact HA1.out)
            have HM2 := Lib.hid (show Mrg fkey n (rotF f s m e) f2 a mid by rw [hf2]; exact mrg_refl (SL1.out.part (Nat.le_refl _) (by omega)))
            clear hf2 HO1 HA1
            have HM3 := Lib.hid (HFin.out f2 f2 HM2.out (mrg_refl ((HKeep.out f2 HM2.out).2.1.part (by omega) (Nat.le_refl _))))
            go_wp2
            go_end0
            exact ⟨f2, ⟨rfl, HO2.out, HA2.out⟩, HM3.out⟩
        · exfalso; omega

theorem sym_any (g n c cap : Nat) (hn : n ≤ 1048576) : ∀ sz, SymOk g n c cap sz
  | 0 => fun a m b f w hsz h hN h1 h2 h3 h4 h5 => by omega
  | sz + 1 => fun a m b f w hsz h hN h1 h2 h3 h4 h5 => by
    by_cases e1 : m = a + 1
    · exact symFirst_any g n cap c a m b f w h hN e1 h2 h3 hn h5
    · by_cases e2 : b = m + 1
      · exact symLast_any g n cap c a m b f w h hN e2 (by omega) h3 hn h4
      · exact symStep_any g n c cap sz hn (sym_any g n c cap hn sz) a m b f w hsz h hN (by omega) (by omega) h3 h4 h5
end Go.Proofs.Ytallegmkkbmelab
