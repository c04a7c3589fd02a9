/-
  Cuts: at most 16 finite numbers in ascending order, in both packages.
-/
import Derived.Test.YtpaelafopjmklaaCSer
import Derived.Deep.QuietTactic
import Derived.BigQuiet
namespace Go.Proofs.Ytpaelafopjmklaa
open Ieee Go.RowKit
set_option linter.unusedVariables false

def ltF (x y : Nat) : Bool := (FloatKind.format .f32).order x y == some .lt
/-- The number i is finite, and not less than the one before. -/
def cutQ (zs : List Nat) (i : Nat) : Bool := fin .f32 (zs.getD i 0) && !(decide (0 < i) && ltF (zs.getD i 0) (zs.getD (i - 1) 0))
def cutB (zs : List Nat) : Bool := decide (zs.length ≤ 16) && (List.range zs.length).all (cutQ zs)
theorem all_range {p : Nat → Bool} {n : Nat} (h : ∀ i, i < n → p i = true) : (List.range n).all p = true := by
  rw [List.all_eq_true]; intro i hi; exact h i (by simpa using hi)
theorem not_all_range {p : Nat → Bool} {n k : Nat} (hk : k < n) (h : p k = false) : (List.range n).all p = false := by
  rw [List.all_eq_false]; exact ⟨k, by simpa using hk, by rw [h]; simp⟩
theorem cutQ_fin {zs : List Nat} {i : Nat} (h : fin .f32 (zs.getD i 0) = false) : cutQ zs i = false := by unfold cutQ; rw [h]; rfl
theorem cut_t {zs : List Nat} (h : cutB zs = true) : zs.length ≤ 16 ∧ fins zs = true := by
  unfold cutB at h
  have h1 := of_decide_eq_true (Bool.and_eq_true _ _ ▸ h).1
  have h2 := (Bool.and_eq_true _ _ ▸ h).2
  refine ⟨h1, ?_⟩
  unfold fins
  rw [List.all_eq_true] at h2 ⊢
  intro x hx
  obtain ⟨i, hi, rfl⟩ := List.getElem_of_mem hx
  have := h2 i (by simpa using hi)
  unfold cutQ at this
  have := (Bool.and_eq_true _ _ ▸ this).1
  simpa [List.getD, hi] using this
theorem isNum_any (x : Nat) (w : World) (hx : isN .f32 x = false) : Calls Try.prog 113 #[.float .f32 x] w (RetV (.bool false) w) := by
  have ho : (FloatKind.format .f32).order x x = some .eq := by rw [order_self, hx]; rfl
  go_enter Try.func113, Try.ntmps113
  go_wp2
  go_ret
  exact ⟨0, rfl, rfl⟩
theorem less_any (x y : Nat) (w : World) (hx : isN .f32 x = false) : Calls Try.prog 111 #[.float .f32 x, .float .f32 y] w (RetV (.bool (ltF x y)) w) := by
  have HX := Lib.hid hx
  have HL := Lib.hid (show ((FloatKind.format .f32).order x y == some Ordering.lt) = ltF x y from rfl)
  clear hx
  go_enter Try.func111, Try.ntmps111
  go_wp2_with fail
  refine (isNum_any _ _ HX.out).mono ?_
  rintro e w' ⟨m, rfl, rfl⟩
  go_wp2
  go_ret
  exact ⟨_, congrArg (fun b => Ending.returned (Value.bool b)) HL.out, rfl⟩
set_option maxHeartbeats 2000000 in
set_option maxRecDepth 100000 in
theorem sorted_any (a : Option Addr) (len cap : Nat) (zs : List Nat) (w : World) (h : FSl w a len zs) (hf : fins zs = true) (hm : len ≤ 16) :
    Calls Try.prog 106 #[.slice a len cap] w (RetV (.bool ((List.range zs.length).all (cutQ zs))) w) := by
  have H := Lib.hid h
  have HL := Lib.hid h.1
  have HF := Lib.hid hf
  clear h hf
  go_enter Try.func106, Try.ntmps106
  go_wp2
  go_loopw [3] (fun i wr => ∃ k m : Nat, k ≤ len ∧ i = .int .i64 ((k : Int) - 1) ∧ wr = w.drewN m ∧ Hid (∀ j, k ≤ j → j < len → cutQ zs j = true)) (fun i _ => (intOf i + 1).toNat)
  case atStart => exact ⟨len, 0, Nat.le_refl _, by go_num, rfl, Lib.hid (fun j h1 h2 => by omega)⟩
  case round =>
    obtain ⟨k, m, hk, rfl, rfl, hq⟩ := hrel
    by_cases hlt : 2 ≤ k
    · obtain ⟨q, rfl⟩ : ∃ q, k = q + 2 := ⟨k - 2, by omega⟩
      obtain ⟨b, off, rfl, hb, hc⟩ := H.out.at (by omega)
      have hck := hc (q + 1) (by omega)
      have hck' := hc q (by omega)
      have hf1 := fins_at HF.out (k := q + 1) (by rw [HL.out]; omega)
      have HQ := Lib.hid (show cutQ zs (q + 1) = !ltF (zs.getD (q + 1) 0) (zs.getD q 0) by
        unfold cutQ
        rw [hf1, decide_eq_true (by omega : 0 < q + 1), Nat.add_sub_cancel]; rfl)
      generalize zs.getD (q + 1) 0 = x at *
      generalize zs.getD q 0 = y at *
      have hN : isN .f32 x = false := by
        unfold fin at hf1
        cases hn : isN .f32 x
        · rfl
        · rw [hn] at hf1; cases hf1
      have HLs := Lib.hid (fun W => less_any x y W hN)
      clear hc hb hf1 hN
      have e1 : ((q + 2 : Nat) : Int) - 1 = ((q + 1 : Nat) : Int) := by omega
      rw [e1]
      cases hl : ltF x y
      · rw [hl] at HQ HLs
        have HN := Lib.hid (show ∀ j, q + 1 ≤ j → j < len → cutQ zs j = true from fun j h1 h2 => by
          rcases Nat.lt_or_ge (q + 1) j with h3 | h3
          · exact hq.out j (by omega) h2
          · obtain rfl : j = q + 1 := by omega
            rw [HQ.out]; rfl)
        clear hq hl HQ
        go_wp2
        go_quiet ((go_at_call 111; exact quiet_add_V (HLs.out _)))
        go_wp2
        go_roundw
        case rel => exact ⟨q + 1, _, by omega, by go_num, rfl, HN⟩
        case measure => simp [intOf]; omega
      · rw [hl] at HQ HLs
        have HV := Lib.hid (not_all_range (p := cutQ zs) (n := zs.length) (k := q + 1) (by rw [HL.out]; omega) (by rw [HQ.out]; rfl))
        clear hq hl HQ
        go_wp2
        go_quiet ((go_at_call 111; exact quiet_add_V (HLs.out _)))
        go_wp2
        go_ret
        exact ⟨_, congrArg (fun b => Ending.returned (Value.bool b)) HV.out.symm, (World.drewN_drewN ..).symm⟩
    · have HV := Lib.hid (show (List.range zs.length).all (cutQ zs) = true from all_range (fun i hi => by
        rw [HL.out] at hi
        rcases Nat.lt_or_ge i k with h1 | h1
        · obtain rfl : i = 0 := by omega
          unfold cutQ
          rw [fins_at HF.out (k := 0) (by rw [HL.out]; omega)]; rfl
        · exact hq.out i h1 hi))
      clear hq
      go_wp2
      go_ret
      exact ⟨_, congrArg (fun b => Ending.returned (Value.bool b)) HV.out.symm, rfl⟩
theorem imCuts_any (a : Option Addr) (len cap : Nat) (zs : List Nat) (w : World) (h : FSl w a len zs) (hm : len ≤ 1048576) :
    Calls Try.prog 83 #[.slice a len cap] w (RetV (.bool (cutB zs)) w) := by
  have H := Lib.hid h
  have HL := Lib.hid h.1
  clear h
  by_cases h16 : len ≤ 16
  · have d1 : decide ((len : Int) ≤ 16) = true := decide_eq_true (by omega)
    have HC := Lib.hid (show cutB zs = (List.range zs.length).all (cutQ zs) by unfold cutB; rw [decide_eq_true (by rw [HL.out]; exact h16)]; rfl)
    cases hf : fins zs
    · have HF := Lib.hid hf
      have HB := Lib.hid (show cutB zs = false by
        cases hc : cutB zs
        · rfl
        · rw [(cut_t hc).2] at hf; cases hf)
      clear hf
      go_enter Try.func83, Try.ntmps83
      go_wp2_with fail
      refine (imFins_any _ _ _ _ _ H.out hm).mono ?_
      rw [HF.out]
      rintro e w' ⟨m, rfl, rfl⟩
      go_wp2
      go_ret
      exact ⟨_, congrArg (fun b => Ending.returned (Value.bool b)) HB.out.symm, rfl⟩
    · have HF := Lib.hid hf
      clear hf
      go_enter Try.func83, Try.ntmps83
      go_wp2_with fail
      refine (imFins_any _ _ _ _ _ H.out hm).mono ?_
      rw [HF.out]
      rintro e w' ⟨m, rfl, rfl⟩
      go_wp2_with fail
      refine (sorted_any _ _ _ _ _ (FSl.drewN H.out _) HF.out h16).mono ?_
      rintro e w' ⟨m2, rfl, rfl⟩
      go_wp2
      go_ret
      exact ⟨_, congrArg (fun b => Ending.returned (Value.bool b)) HC.out.symm, rfl⟩
  · have d1 : decide ((len : Int) ≤ 16) = false := decide_eq_false (by omega)
    have HB := Lib.hid (show cutB zs = false by unfold cutB; rw [decide_eq_false (by rw [HL.out]; exact h16)]; rfl)
    go_enter Try.func83, Try.ntmps83
    go_wp2
    go_ret
    exact ⟨0, congrArg (fun b => Ending.returned (Value.bool b)) HB.out.symm, rfl⟩
set_option maxHeartbeats 2000000 in
set_option maxRecDepth 100000 in
theorem spCuts_any (a : Option Addr) (len cap : Nat) (zs : List Nat) (w : World) (h : FSl w a len zs) (hm : len ≤ 1048576) :
    Calls Try.prog 78 #[.slice a len cap] w (RetV (.bool (cutB zs)) w) := by
  have H := Lib.hid h
  have HL := Lib.hid h.1
  clear h
  go_enter Try.func78, Try.ntmps78
  go_wp2
  go_loopw [6] (fun i wr => ∃ k m : Nat, k ≤ len ∧ i = .int .i64 k ∧ wr = w.drewN m ∧ Hid (∀ j, j < k → cutQ zs j = true)) (fun i _ => len - (intOf i).toNat)
  case atStart => exact ⟨0, 0, Nat.zero_le _, rfl, rfl, Lib.hid (fun j hj => by omega)⟩
  case round =>
    obtain ⟨k, m, hk, rfl, rfl, hq⟩ := hrel
    by_cases hlt : k < len
    · obtain ⟨b, off, rfl, hb, hc⟩ := H.out.at (by omega)
      have hck := hc k hlt
      have HBad := Lib.hid (fun h => show cutB zs = false by unfold cutB; rw [not_all_range (p := cutQ zs) (k := k) (by rw [HL.out]; exact hlt) h]; simp)
      have HNx := Lib.hid (show cutQ zs k = true → ∀ j, j < k + 1 → cutQ zs j = true from fun h j hj => by
        rcases Nat.lt_or_ge j k with h1 | h1
        · exact hq.out j h1
        · obtain rfl : j = k := by omega
          exact h)
      cases hf : fin .f32 (zs.getD k 0)
      · have HV := Lib.hid (HBad.out (cutQ_fin hf))
        have HF := Lib.hid (fun W => (l01Finite_any (zs.getD k 0) W))
        rw [hf] at HF
        generalize zs.getD k 0 = x at *
        clear hc hb hq hf HBad HNx
        go_wp2
        go_quiet ((go_at_call 91; exact quiet_add_V (HF.out _)))
        go_wp2
        go_ret
        exact ⟨_, congrArg (fun b => Ending.returned (Value.bool b)) HV.out.symm, (World.drewN_drewN ..).symm⟩
      · have HF := Lib.hid (fun W => (l01Finite_any (zs.getD k 0) W))
        rw [hf] at HF
        rcases Nat.eq_zero_or_pos k with h0 | h0
        · have d0 : decide (0 < k) = false := decide_eq_false (by omega)
          have HN := Lib.hid (HNx.out (by unfold cutQ; rw [hf, decide_eq_false (by omega : ¬ 0 < k)]; rfl))
          generalize zs.getD k 0 = x at *
          clear hc hb hq hf HBad HNx h0
          go_wp2
          go_quiet ((go_at_call 91; exact quiet_add_V (HF.out _)))
          go_wp2
          go_roundw
          case rel => exact ⟨k + 1, _, by omega, by go_num, rfl, HN⟩
          case measure => simp [intOf]; omega
        · obtain ⟨q, rfl⟩ : ∃ q, k = q + 1 := ⟨k - 1, by omega⟩
          have hck' := hc q (by omega)
          have d1 : decide ((0 : Int) < ((q + 1 : Nat) : Int)) = true := decide_eq_true (by omega)
          have HQ := Lib.hid (show cutQ zs (q + 1) = !ltF (zs.getD (q + 1) 0) (zs.getD q 0) by
            unfold cutQ
            rw [hf, decide_eq_true (by omega : 0 < q + 1), Nat.add_sub_cancel]; rfl)
          generalize zs.getD (q + 1) 0 = x at *
          generalize zs.getD q 0 = y at *
          clear hc hb hq hf
          cases hl : ltF x y
          · have ho : ((FloatKind.format .f32).order x y == some Ordering.lt) = false := hl
            have HN := Lib.hid (HNx.out (by rw [HQ.out, hl]; rfl))
            clear HBad HNx HQ hl
            go_wp2
            go_quiet ((go_at_call 91; exact quiet_add_V (HF.out _)))
            go_wp2
            go_roundw
            case rel => exact ⟨q + 1 + 1, _, by omega, by go_num, rfl, HN⟩
            case measure => simp [intOf]; omega
          · have ho : ((FloatKind.format .f32).order x y == some Ordering.lt) = true := hl
            have HV := Lib.hid (HBad.out (by rw [HQ.out, hl]; rfl))
            clear HBad HNx HQ hl
            go_wp2
            go_quiet ((go_at_call 91; exact quiet_add_V (HF.out _)))
            go_wp2
            go_ret
            exact ⟨_, congrArg (fun b => Ending.returned (Value.bool b)) HV.out.symm, (World.drewN_drewN ..).symm⟩
    · have HV := Lib.hid (show cutB zs = decide ((len : Int) ≤ 16) by
        unfold cutB
        rw [all_range (fun i hi => hq.out i (by rw [HL.out] at hi; omega)), Bool.and_true, HL.out]
        exact decide_eq_decide.2 ⟨fun h => by omega, fun h => by omega⟩)
      clear hq
      go_wp2
      go_ret
      exact ⟨_, congrArg (fun b => Ending.returned (Value.bool b)) HV.out.symm, rfl⟩
end Go.Proofs.Ytpaelafopjmklaa
