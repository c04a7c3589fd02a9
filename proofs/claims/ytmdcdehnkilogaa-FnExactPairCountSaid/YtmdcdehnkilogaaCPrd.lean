/-
  PairCount, in both packages: the functions themselves.
-/
import Derived.Test.YtmdcdehnkilogaaCPrc
namespace Go.Proofs.Ytmdcdehnkilogaa
open Ieee Go.RowKit
set_option linter.unusedVariables false

/-- An integer and a bool, behind calls that make memory. -/
def RetIm (v : Int) (b : Bool) (w : World) (e : Ending) (w' : World) : Prop := e = .returned (.tuple #[.int .i64 v, .bool b]) ∧ Below w.heap.size w w'
set_option maxHeartbeats 2000000 in
set_option maxRecDepth 100000 in
theorem implPr_any (a a' : Option Addr) (len cap len' cap' : Nat) (xs ys : List Nat) (w : World) (h : FSl w a len xs) (h' : FSl w a' len' ys) (hm : len ≤ 1048576) (hm' : len' ≤ 1048576) :
    Calls Try.prog 27 #[.slice a len cap, .slice a' len' cap'] w (RetIm (prV xs ys) (pairB xs ys) w) := by
  have HP := Lib.hid (RSl.pair (cap := cap) (cap' := cap') 22 h h' hm hm')
  have HB0 := Lib.hid ((Below.refl w.heap.size w).alloc (Nat.le_refl _) (.cells #[.slice a len cap, .slice a' len' cap'] 22))
  have HPe := Lib.hid (are_pair a a' len len' cap cap' xs ys)
  have H := Lib.hid (FSl.below h HB0.out)
  have H' := Lib.hid (FSl.below h' HB0.out)
  have HL := Lib.hid h.1
  have HL' := Lib.hid h'.1
  clear h h'
  cases hP : pairB xs ys
  · have HS := Lib.hid (HPe.out.trans hP)
    have HV := Lib.hid (show prV xs ys = 0 by unfold prV; rw [hP]; rfl)
    clear hP
    go_enter Try.func27, Try.ntmps27
    go_wp2_with (go_at_call 69; refine (implAre_any _ _ _ _ _ HP.out (by omega)).mono ?_; rw [HS.out]; rintro e w' ⟨m, rfl, rfl⟩)
    go_ret2
    exact ⟨by rw [HV.out]; rfl, below_drewN HB0.out _⟩
  · have HS := Lib.hid (HPe.out.trans hP)
    obtain ⟨hs, hs', hll⟩ := pairB_t hP
    have hlen : len = len' := by have := HL.out; have := HL'.out; omega
    subst hlen
    have h96 : len ≤ 96 := by have := (serB_t hs).2.1; rw [HL.out] at this; exact this
    have HFi := Lib.hid (serB_t hs).2.2
    have HFi' := Lib.hid (serB_t hs').2.2
    have HV := Lib.hid (show prV xs ys = prL (prC xs ys) len by unfold prV; rw [hP, HL.out]; rfl)
    clear hP hs hs' hll
    go_enter Try.func27, Try.ntmps27
    go_wp2_with fail
    refine (implAre_any _ _ _ _ _ HP.out (by omega)).mono ?_
    rw [HS.out]
    rintro e w' ⟨m, rfl, rfl⟩
    have HBz := Lib.hid (below_drewN HB0.out m)
    have Hx := Lib.hid (FSl.drewN H.out m)
    have Hy := Lib.hid (FSl.drewN H'.out m)
    clear HP HB0 H H'
    generalize ((w.alloc (Obj.cells #[Value.slice a len cap, Value.slice a' len cap'] 22)).drewN m) = w0 at *
    go_wp2
    go_loopw [6, 16] (fun u c wr => ∃ (i n : Nat), i ≤ len ∧ c = .int .i64 i ∧ u = .int .i64 (prL (prC xs ys) i) ∧ wr = w0.drewN n) (fun _ c _ => len - (intOf c).toNat)
    case atStart => exact ⟨0, 0, Nat.zero_le _, rfl, rfl, rfl⟩
    case round =>
      obtain ⟨i, n, hi, rfl, rfl, rfl⟩ := hrel
      by_cases hilt : i < len
      · have hbL := prL_bd (prC_bd xs ys) (n := i) (by omega)
        go_wp2
        go_loopw [6, 20] (fun u c wr => ∃ (k q : Nat), k ≤ i ∧ c = .int .i64 k ∧ u = .int .i64 (prL (prC xs ys) i + prR (prC xs ys) i k) ∧ wr = w0.drewN q) (fun _ c _ => i - (intOf c).toNat)
        case atStart => exact ⟨0, n, Nat.zero_le _, rfl, by show _ = Value.int .i64 (_ + 0); rw [Int.add_zero], rfl⟩
        case round =>
          obtain ⟨k, q, hk, rfl, rfl, rfl⟩ := hrel
          by_cases hklt : k < i
          · obtain ⟨b, off, rfl, hb, hc⟩ := Hx.out.at (by omega)
            obtain ⟨b', off', rfl, hb', hc'⟩ := Hy.out.at (by omega)
            have hci := hc i hilt
            have hck := hc k (by omega)
            have hci' := hc' i hilt
            have hck' := hc' k (by omega)
            have hbR := prR_bd (prC_bd xs ys) i k
            have hbC := prC_bd xs ys i k
            have HA := Lib.hid (fun W => cmpS_any (xs.getD i 0) (xs.getD k 0) W (fins_at HFi.out (by rw [HL.out]; exact hilt)) (fins_at HFi.out (by rw [HL.out]; omega)))
            have HB := Lib.hid (fun W => cmpS_any (ys.getD i 0) (ys.getD k 0) W (fins_at HFi'.out (by rw [HL'.out]; exact hilt)) (fins_at HFi'.out (by rw [HL'.out]; omega)))
            have HC := Lib.hid (show ∀ p r, sgF (xs.getD i 0) (xs.getD k 0) = p → sgF (ys.getD i 0) (ys.getD k 0) = r → prC xs ys i k = p * r ∧ prR (prC xs ys) i (k + 1) = prR (prC xs ys) i k + p * r from fun p r e1 e2 => by
              have e3 : prC xs ys i k = p * r := by unfold prC; rw [e1, e2]
              exact ⟨e3, by show _ + prC xs ys i k = _; rw [e3]⟩)
            generalize xs.getD i 0 = x1 at *
            generalize xs.getD k 0 = x2 at *
            generalize ys.getD i 0 = y1 at *
            generalize ys.getD k 0 = y2 at *
            obtain ⟨p, hp⟩ : ∃ p, sgF x1 x2 = p := ⟨_, rfl⟩
            obtain ⟨r, hr⟩ : ∃ r, sgF y1 y2 = r := ⟨_, rfl⟩
            obtain ⟨hC1, hC2⟩ := HC.out p r hp hr
            rw [hp] at HA
            rw [hr] at HB
            rw [hC1] at hbC
            have HC2 := Lib.hid hC2
            obtain ⟨T, hT⟩ : ∃ T, prL (prC xs ys) i = T := ⟨_, rfl⟩
            obtain ⟨U, hU⟩ : ∃ U, prR (prC xs ys) i k = U := ⟨_, rfl⟩
            rw [hT] at hbL
            rw [hU] at hbR
            have hw1 : wrap64 (p * r) = p * r := by unfold wrap64; omega
            have hw2 : wrap64 (T + U + p * r) = T + U + p * r := by unfold wrap64; omega
            have HE := Lib.hid (show T + prR (prC xs ys) i (k + 1) = T + U + p * r by rw [HC2.out, hU]; omega)
            rw [hT, hU]
            clear HC hC1 hC2 HC2 hp hr hc hc' hb hb' hbC hbR hbL
            have HTT := Lib.hid hT
            clear hU hT
            go_wp2
            go_quiet (first | (go_at_call 70; first | (with_reducible exact quiet_V (HA.out _)) | (with_reducible exact quiet_add_V (HA.out _)) | (with_reducible exact quiet_V (HB.out _)) | (with_reducible exact quiet_add_V (HB.out _))))
            go_wp2
            go_roundw
            case rel => exact ⟨k + 1, _, by omega, by go_num, by rw [hw2, HE.out], rfl⟩
            case measure => simp [intOf]; omega
          · obtain rfl : k = i := by omega
            go_wp2
            go_roundw
            case rel => exact ⟨k + 1, q, by omega, by go_num, rfl, rfl⟩
            case measure => simp [intOf]; omega
      · obtain rfl : i = len := by omega
        go_wp2
        go_ret2
        exact ⟨by rw [HV.out]; rfl, below_drewN HBz.out _⟩
def sgO : Ordering → Int
  | .lt => -1
  | .eq => 0
  | .gt => 1
theorem sgF_o {x y : Nat} {o : Ordering} (h : (FloatKind.format .f32).order x y = some o) : sgF x y = sgO o := by
  unfold sgF; rw [h]; cases o <;> rfl
theorem ord_some {x y : Nat} (hx : fin .f32 x = true) (hy : fin .f32 y = true) : ∃ o, (FloatKind.format .f32).order x y = some o := by
  cases h : (FloatKind.format .f32).order x y with
  | none => exact absurd h (order_fin hx hy)
  | some o => exact ⟨o, rfl⟩
set_option maxHeartbeats 8000000 in
set_option maxRecDepth 100000 in
theorem specPr_any (a a' : Option Addr) (len cap len' cap' : Nat) (xs ys : List Nat) (w : World) (h : FSl w a len xs) (h' : FSl w a' len' ys) (hm : len ≤ 1048576) (hm' : len' ≤ 1048576) :
    Calls Try.prog 26 #[.slice a len cap, .slice a' len' cap'] w (RetIm (prV xs ys) (pairB xs ys) w) := by
  have H := Lib.hid h
  have H' := Lib.hid h'
  have HL := Lib.hid h.1
  have HL' := Lib.hid h'.1
  clear h h'
  cases hP : pairB xs ys
  · have HS := Lib.hid hP
    have HV := Lib.hid (show prV xs ys = 0 by unfold prV; rw [hP]; rfl)
    clear hP
    go_enter Try.func26, Try.ntmps26
    go_wp2_with (go_at_call 68; refine (specPair_any _ _ _ _ _ _ _ _ _ H.out H'.out hm hm').mono ?_; rw [HS.out]; rintro e w' ⟨m, rfl, rfl⟩)
    go_ret2
    exact ⟨by rw [HV.out]; rfl, below_drewN (Below.refl _ _) _⟩
  · have HS := Lib.hid hP
    obtain ⟨hs, hs', hll⟩ := pairB_t hP
    have hlen : len = len' := by have := HL.out; have := HL'.out; omega
    subst hlen
    have h96 : len ≤ 96 := by have := (serB_t hs).2.1; rw [HL.out] at this; exact this
    have HFi := Lib.hid (serB_t hs).2.2
    have HFi' := Lib.hid (serB_t hs').2.2
    have HV := Lib.hid (show prV xs ys = prU (prC xs ys) len len by unfold prV; rw [hP, HL.out, prU_prL]; rfl)
    clear hP hs hs' hll
    go_enter Try.func26, Try.ntmps26
    go_wp2_with fail
    refine (specPair_any _ _ _ _ _ _ _ _ _ H.out H'.out hm hm').mono ?_
    rw [HS.out]
    rintro e w' ⟨m, rfl, rfl⟩
    go_wp2
    go_loopw [6, 17] (fun u c wr => ∃ (i n : Nat), i ≤ len ∧ c = .int .i64 i ∧ u = .int .i64 (prU (prC xs ys) len i) ∧ wr = w.drewN n) (fun _ c _ => len - (intOf c).toNat)
    case atStart => exact ⟨0, m, Nat.zero_le _, rfl, rfl, rfl⟩
    case round =>
      obtain ⟨i, n, hi, rfl, rfl, rfl⟩ := hrel
      by_cases hilt : i < len
      · have hbL := prU_bd (prC_bd xs ys) h96 (n := i) (by omega)
        have hwi : wrap64 ((i : Int) + 1) = ((i + 1 + 0 : Nat) : Int) := by unfold wrap64; omega
        go_wp2
        go_loopw [6, 8] (fun u c wr => ∃ (t q : Nat), i + 1 + t ≤ len ∧ c = .int .i64 ((i + 1 + t : Nat) : Int) ∧ u = .int .i64 (prU (prC xs ys) len i + prK (prC xs ys) i t) ∧ wr = w.drewN q) (fun _ c _ => len - (intOf c).toNat)
        case atStart => exact ⟨0, n, by omega, rfl, by show _ = Value.int .i64 (_ + 0); rw [Int.add_zero], rfl⟩
        case round =>
          obtain ⟨t, q, hk, rfl, rfl, rfl⟩ := hrel
          obtain ⟨k, hke⟩ : ∃ k, i + 1 + t = k := ⟨_, rfl⟩
          simp only [hke]
          rw [hke] at hk
          by_cases hklt : k < len
          · obtain ⟨b, off, rfl, hb, hc⟩ := H.out.at (by omega)
            obtain ⟨b', off', rfl, hb', hc'⟩ := H'.out.at (by omega)
            have hci := hc i hilt
            have hck := hc k hklt
            have hci' := hc' i hilt
            have hck' := hc' k hklt
            have hbR := prK_bd (prC_bd xs ys) i t
            obtain ⟨oa, hoa⟩ := ord_some (fins_at HFi.out (k := k) (by rw [HL.out]; exact hklt)) (fins_at HFi.out (k := i) (by rw [HL.out]; exact hilt))
            obtain ⟨ob, hob⟩ := ord_some (fins_at HFi'.out (k := k) (by rw [HL'.out]; exact hklt)) (fins_at HFi'.out (k := i) (by rw [HL'.out]; exact hilt))
            have HE := Lib.hid (show prK (prC xs ys) i (t + 1) = prK (prC xs ys) i t + sgO oa * sgO ob by
              show _ + prC xs ys (i + 1 + t) i = _
              rw [hke]
              unfold prC
              rw [sgF_o hoa, sgF_o hob])
            generalize xs.getD i 0 = x1 at *
            generalize xs.getD k 0 = x2 at *
            generalize ys.getD i 0 = y1 at *
            generalize ys.getD k 0 = y2 at *
            have HK := Lib.hid hke
            have HbL := Lib.hid hbL
            have HbR := Lib.hid hbR
            clear hc hc' hb hb' hke hbL hbR hwi
            cases oa <;> cases ob
            all_goals
              go_wp2
              go_quiet (fail)
              go_wp2
              go_quiet (fail)
              go_wp2
              go_quiet (fail)
              go_wp2
              go_quiet (fail)
              go_wp2
              go_roundw
              case rel =>
                have hKK := HK.out
                refine ⟨t + 1, _, by omega, by rw [show i + 1 + (t + 1) = k + 1 by omega]; go_num, ?_, rfl⟩
                have h1 := HE.out
                have h2 := HbL.out
                have h3 := HbR.out
                simp only [sgO] at h1
                rw [h1]
                generalize prU (prC xs ys) len i = T at *
                generalize prK (prC xs ys) i t = U at *
                congr 1
                (try unfold wrap64)
                omega
              case measure => simp [intOf]; omega
          · have hkl : k = len := by omega
            have HK2 := Lib.hid (show prU (prC xs ys) len i + prK (prC xs ys) i t = prU (prC xs ys) len (i + 1) by show _ = _ + prK (prC xs ys) i (len - 1 - i); rw [show len - 1 - i = t by omega])
            clear hwi
            go_wp2
            go_roundw
            case rel => exact ⟨i + 1, q, by omega, by go_num, by rw [HK2.out], rfl⟩
            case measure => simp [intOf]; omega
      · obtain rfl : i = len := by omega
        go_wp2
        go_ret2
        exact ⟨by rw [HV.out]; rfl, below_drewN (Below.refl _ _) _⟩
end Go.Proofs.Ytmdcdehnkilogaa
