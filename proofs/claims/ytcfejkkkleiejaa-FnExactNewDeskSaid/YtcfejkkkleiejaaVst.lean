/-
  ValidState, in both packages.
-/
import Derived.Test.YtcfejkkkleiejaaStl
import Derived.Test.YtcfejkkkleiejaaShl
import Derived.Test.YtcfejkkkleiejaaCSer
import Derived.Test.YtcfejkkkleiejaaCIn
namespace Go.Proofs.Ytcfejkkkleiejaa
open Ieee Go.RowKit
set_option linter.unusedVariables false

/-- A season. -/
def seB (zs : List Nat) : Bool := decide (zs.length ≤ 24) && serB zs
/-- A state is valid. -/
def stB (l s : Nat) (zs : List Nat) (t : Int) : Bool := seB zs && (fin .f32 l && (fin .f32 s && (decide (0 ≤ t) && decide (t < (zs.length : Int)))))
theorem seB_t {zs : List Nat} (h : seB zs = true) : serB zs = true ∧ zs.length ≤ 24 := by
  unfold seB at h
  exact ⟨(Bool.and_eq_true _ _ ▸ h).2, of_decide_eq_true (Bool.and_eq_true _ _ ▸ h).1⟩
theorem stB_t {l s : Nat} {zs : List Nat} {t : Int} (h : stB l s zs t = true) : seB zs = true ∧ fin .f32 l = true ∧ fin .f32 s = true ∧ 0 ≤ t ∧ t < (zs.length : Int) := by
  unfold stB at h
  simp only [Bool.and_eq_true, decide_eq_true_eq] at h
  exact h
theorem seB_short {zs : List Nat} (h : 1 ≤ zs.length ∧ zs.length ≤ 24) : seB zs = fins zs := by
  unfold seB
  rw [decide_eq_true h.2, serB_short rfl h.1 (by omega)]; rfl
theorem seB_out {zs : List Nat} (h : zs.length < 1 ∨ 24 < zs.length) : seB zs = false := by
  unfold seB
  rcases h with h | h
  · rw [serB_long rfl (fun hh => by omega), Bool.and_false]
  · rw [decide_eq_false (by omega)]; rfl
theorem stB_0 {l s : Nat} {zs : List Nat} {t : Int} (h : seB zs = false) : stB l s zs t = false := by unfold stB; rw [h]; rfl
theorem stB_1 {l s : Nat} {zs : List Nat} {t : Int} (h : fin .f32 l = false) : stB l s zs t = false := by unfold stB; rw [h, Bool.false_and, Bool.and_false]
theorem stB_2 {l s : Nat} {zs : List Nat} {t : Int} (h : fin .f32 s = false) : stB l s zs t = false := by unfold stB; rw [h, Bool.false_and, Bool.and_false, Bool.and_false]
theorem stB_3 {l s : Nat} {zs : List Nat} {t : Int} (h : t < 0 ∨ (zs.length : Int) ≤ t) : stB l s zs t = false := by
  unfold stB
  rcases h with h | h
  · rw [decide_eq_false (show ¬ 0 ≤ t by omega), Bool.false_and, Bool.and_false, Bool.and_false, Bool.and_false]
  · rw [decide_eq_false (show ¬ t < (zs.length : Int) by omega), Bool.and_false, Bool.and_false, Bool.and_false, Bool.and_false]
theorem stB_4 {l s : Nat} {zs : List Nat} {t : Int} (h : seB zs = true) (hl : fin .f32 l = true) (hs : fin .f32 s = true) (h0 : 0 ≤ t) (h1 : t < (zs.length : Int)) : stB l s zs t = true := by
  unfold stB; rw [h, hl, hs, decide_eq_true h0, decide_eq_true h1]; rfl

set_option maxHeartbeats 1000000 in
theorem imVSt_any (l s : Nat) (a : Option Addr) (len cap : Nat) (zs : List Nat) (t : Int) (w : World) (h : FSl w a len zs) (hm : len ≤ 1048576) :
    Calls Try.prog 20 #[.agg #[.float .f32 l, .float .f32 s, .slice a len cap, .int .i64 t]] w fun e w' => e = .returned (.bool (stB l s zs t)) ∧ Below w.heap.size w w' := by
  have G := Lib.hid ((Below.refl w.heap.size w).alloc (Nat.le_refl _) (.cells #[.float .f32 l, .float .f32 s, .slice a len cap, .int .i64 t] 25))
  have H := Lib.hid (FSl.below h G.out)
  have hlen := h.1
  clear h
  by_cases h24 : 24 < len
  · have hd : decide ((24 : Int) < (len : Int)) = true := decide_eq_true (by omega)
    have HB := Lib.hid (stB_0 (l := l) (s := s) (t := t) (seB_out (zs := zs) (.inr (by omega))))
    go_enter Try.func20, Try.ntmps20
    go_wp2_with fail
    go_ret
    exact ⟨by rw [HB.out]; rfl, G.out⟩
  · have hd : decide ((24 : Int) < (len : Int)) = false := decide_eq_false (by omega)
    cases hs : serB zs
    · have HS := Lib.hid hs
      have HB := Lib.hid (stB_0 (l := l) (s := s) (t := t) (zs := zs) (by unfold seB; rw [hs, Bool.and_false]))
      clear hs
      go_enter Try.func20, Try.ntmps20
      go_wp2_with fail
      refine (implSeries_any _ _ _ _ _ H.out hm).mono ?_
      rw [HS.out]
      rintro e w' ⟨m, rfl, rfl⟩
      go_wp2_with fail
      go_ret
      exact ⟨by rw [HB.out]; rfl, below_drewN G.out _⟩
    · have HS := Lib.hid hs
      have hq := Lib.hid (show seB zs = true by unfold seB; rw [hs, decide_eq_true (by omega)]; rfl)
      clear hs
      cases hl : fin .f32 l
      · have HL := Lib.hid hl
        have HB := Lib.hid (stB_1 (l := l) (s := s) (t := t) (zs := zs) hl)
        clear hl
        go_enter Try.func20, Try.ntmps20
        go_wp2_with fail
        refine (implSeries_any _ _ _ _ _ H.out hm).mono ?_
        rw [HS.out]
        rintro e w' ⟨m, rfl, rfl⟩
        go_wp2_with fail
        refine (isFinite_any _ _).mono ?_
        rw [HL.out]
        rintro e w' ⟨m1, rfl, rfl⟩
        go_wp2_with fail
        go_ret
        exact ⟨by rw [HB.out]; rfl, below_drewN G.out _⟩
      · have HL := Lib.hid hl
        clear hl
        cases hs : fin .f32 s
        · have HT := Lib.hid hs
          have HB := Lib.hid (stB_2 (l := l) (s := s) (t := t) (zs := zs) hs)
          clear hs
          go_enter Try.func20, Try.ntmps20
          go_wp2_with fail
          refine (implSeries_any _ _ _ _ _ H.out hm).mono ?_
          rw [HS.out]
          rintro e w' ⟨m, rfl, rfl⟩
          go_wp2_with fail
          refine (isFinite_any _ _).mono ?_
          rw [HL.out]
          rintro e w' ⟨m1, rfl, rfl⟩
          go_wp2_with fail
          refine (isFinite_any _ _).mono ?_
          rw [HT.out]
          rintro e w' ⟨m2, rfl, rfl⟩
          go_wp2_with fail
          go_ret
          exact ⟨by rw [HB.out]; rfl, below_drewN G.out _⟩
        · have HT := Lib.hid hs
          clear hs
          by_cases h0 : 0 ≤ t
          · by_cases h1 : t < (len : Int)
            · have d0 : decide ((0 : Int) ≤ t) = true := decide_eq_true h0
              have d1 : decide (t < (len : Int)) = true := decide_eq_true h1
              have HB := Lib.hid (stB_4 hq.out HL.out HT.out h0 (by omega))
              go_enter Try.func20, Try.ntmps20
              go_wp2_with fail
              refine (implSeries_any _ _ _ _ _ H.out hm).mono ?_
              rw [HS.out]
              rintro e w' ⟨m, rfl, rfl⟩
              go_wp2_with fail
              refine (isFinite_any _ _).mono ?_
              rw [HL.out]
              rintro e w' ⟨m1, rfl, rfl⟩
              go_wp2_with fail
              refine (isFinite_any _ _).mono ?_
              rw [HT.out]
              rintro e w' ⟨m2, rfl, rfl⟩
              go_wp2_with fail
              go_ret
              exact ⟨by rw [HB.out]; rfl, below_drewN G.out _⟩
            · have d0 : decide ((0 : Int) ≤ t) = true := decide_eq_true h0
              have d1 : decide (t < (len : Int)) = false := decide_eq_false h1
              have HB := Lib.hid (stB_3 (l := l) (s := s) (t := t) (zs := zs) (.inr (by omega)))
              go_enter Try.func20, Try.ntmps20
              go_wp2_with fail
              refine (implSeries_any _ _ _ _ _ H.out hm).mono ?_
              rw [HS.out]
              rintro e w' ⟨m, rfl, rfl⟩
              go_wp2_with fail
              refine (isFinite_any _ _).mono ?_
              rw [HL.out]
              rintro e w' ⟨m1, rfl, rfl⟩
              go_wp2_with fail
              refine (isFinite_any _ _).mono ?_
              rw [HT.out]
              rintro e w' ⟨m2, rfl, rfl⟩
              go_wp2_with fail
              go_ret
              exact ⟨by rw [HB.out]; rfl, below_drewN G.out _⟩
          · have d0 : decide ((0 : Int) ≤ t) = false := decide_eq_false h0
            have HB := Lib.hid (stB_3 (l := l) (s := s) (t := t) (zs := zs) (.inl (by omega)))
            go_enter Try.func20, Try.ntmps20
            go_wp2_with fail
            refine (implSeries_any _ _ _ _ _ H.out hm).mono ?_
            rw [HS.out]
            rintro e w' ⟨m, rfl, rfl⟩
            go_wp2_with fail
            refine (isFinite_any _ _).mono ?_
            rw [HL.out]
            rintro e w' ⟨m1, rfl, rfl⟩
            go_wp2_with fail
            refine (isFinite_any _ _).mono ?_
            rw [HT.out]
            rintro e w' ⟨m2, rfl, rfl⟩
            go_wp2_with fail
            go_ret
            exact ⟨by rw [HB.out]; rfl, below_drewN G.out _⟩

end Go.Proofs.Ytcfejkkkleiejaa
