/-
  Shares: the law's copies, and ValidShares in both packages.
-/
import Derived.Test.YtgddfhmddkhaeaaCShr
import Derived.Test.YtgddfhmddkhaeaaSts
import Derived.Test.YtgddfhmddkhaeaaCMrk
import Derived.Deep.QuietTactic
import Derived.BigQuiet
import Derived.Deep.RegionHeld3
namespace Go.Proofs.Ytgddfhmddkhaeaa
open Ieee Go.RowKit
set_option linter.unusedVariables false

/-- Shares are valid. -/
def shB4 (a b c d : Nat) : Bool := shB a && shB b && shB c && shB d
/-- Shares stand in a block. -/
def ShIn (w : World) (p a b c d : Nat) : Prop := w.cell? ⟨p, 0, none⟩ = some (.float .f32 a) ∧ w.cell? ⟨p, 1, none⟩ = some (.float .f32 b) ∧ w.cell? ⟨p, 2, none⟩ = some (.float .f32 c) ∧ w.cell? ⟨p, 3, none⟩ = some (.float .f32 d)
theorem ShIn.new (w : World) (a b c d : Nat) (t : TypeId) : ShIn (w.alloc (.cells #[.float .f32 a, .float .f32 b, .float .f32 c, .float .f32 d] t)) w.heap.size a b c d := by
  refine ⟨?_, ?_, ?_, ?_⟩ <;> (rw [World.cell?_alloc_at _ _ _ _ rfl]; rfl)
theorem ShIn.lt {w : World} {p a b c d : Nat} (h : ShIn w p a b c d) : p < w.heap.size := lt_of_cell h.1
theorem ShIn.belowB {w w' : World} {p a b c d B : Nat} (h : ShIn w p a b c d) (hb : Below B w w') (hp : p < B) : ShIn w' p a b c d := by
  obtain ⟨h0, h1, h2, h3⟩ := h
  refine ⟨?_, ?_, ?_, ?_⟩
  · rw [hb.cell (p := ⟨p, 0, none⟩) hp]; exact h0
  · rw [hb.cell (p := ⟨p, 1, none⟩) hp]; exact h1
  · rw [hb.cell (p := ⟨p, 2, none⟩) hp]; exact h2
  · rw [hb.cell (p := ⟨p, 3, none⟩) hp]; exact h3
theorem ShIn.below {w w' : World} {p a b c d : Nat} (h : ShIn w p a b c d) (hb : Below w.heap.size w w') : ShIn w' p a b c d := h.belowB hb h.lt
theorem ShIn.alloc {w : World} {p a b c d : Nat} (h : ShIn w p a b c d) (o : Obj) : ShIn (w.alloc o) p a b c d := h.below ((Below.refl _ _).alloc (Nat.le_refl _) o)
theorem ShIn.drew {w : World} {p a b c d : Nat} (h : ShIn w p a b c d) : ShIn w.drew p a b c d := h
theorem ShIn.drewN {w : World} {p a b c d : Nat} (h : ShIn w p a b c d) (n : Nat) : ShIn (w.drewN n) p a b c d := h

theorem ShIn.only {w w' : World} {p a b c d q : Nat} (h : ShIn w p a b c d) (ho : Only q w w') (hp : p ≠ q) : ShIn w' p a b c d := by
  obtain ⟨h0, h1, h2, h3⟩ := h
  refine ⟨?_, ?_, ?_, ?_⟩
  · rw [ho.cell (p := ⟨p, 0, none⟩) hp]; exact h0
  · rw [ho.cell (p := ⟨p, 1, none⟩) hp]; exact h1
  · rw [ho.cell (p := ⟨p, 2, none⟩) hp]; exact h2
  · rw [ho.cell (p := ⟨p, 3, none⟩) hp]; exact h3
theorem toSh_any (a b c d : Nat) (w : World) : Calls Try.prog 18 #[.agg #[.float .f32 a, .float .f32 b, .float .f32 c, .float .f32 d]] w fun e w' => e = .returned (.agg #[.float .f32 a, .float .f32 b, .float .f32 c, .float .f32 d]) ∧ Below w.heap.size w w' := by
  go_enter Try.func18, Try.ntmps18
  go_wp2
  refine bodyPost_ret (v := .agg #[.float .f32 a, .float .f32 b, .float .f32 c, .float .f32 d]) ?_ rfl ⟨rfl, (((Below.refl _ _).alloc (Nat.le_refl _) _).alloc (by simp) _).alloc (by simp; omega) _⟩
  have hres : Try.f18.results = #[.cell 2 33] := by kernel_rfl
  simp only [results, hres]
  go_simp
theorem imVSh_any (a b c d : Nat) (w : World) : Calls Try.prog 122 #[.agg #[.float .f32 a, .float .f32 b, .float .f32 c, .float .f32 d]] w fun e w' => e = .returned (.bool (shB4 a b c d)) ∧ Below w.heap.size w w' := by
  cases ha : shB a
  · have Ha := Lib.hid ha
    clear ha
    go_enter Try.func122, Try.ntmps122
    go_wp2_with fail
    refine (imSh_any _ _).mono ?_
    rw [Ha.out]
    rintro e w' ⟨rfl, rfl⟩
    go_wp2
    go_ret
    exact ⟨by unfold shB4; rw [Ha.out]; rfl, (Below.refl _ _).alloc (Nat.le_refl _) _⟩
  · cases hb : shB b
    · have Ha := Lib.hid ha
      have Hb := Lib.hid hb
      clear ha hb
      go_enter Try.func122, Try.ntmps122
      go_wp2_with fail
      refine (imSh_any _ _).mono ?_
      rw [Ha.out]
      rintro e w' ⟨rfl, rfl⟩
      go_wp2_with fail
      refine (imSh_any _ _).mono ?_
      rw [Hb.out]
      rintro e w' ⟨rfl, rfl⟩
      go_wp2
      go_ret
      exact ⟨by unfold shB4; rw [Ha.out, Hb.out]; rfl, (Below.refl _ _).alloc (Nat.le_refl _) _⟩
    · cases hc : shB c
      · have Ha := Lib.hid ha
        have Hb := Lib.hid hb
        have Hc := Lib.hid hc
        clear ha hb hc
        go_enter Try.func122, Try.ntmps122
        go_wp2_with fail
        refine (imSh_any _ _).mono ?_
        rw [Ha.out]
        rintro e w' ⟨rfl, rfl⟩
        go_wp2_with fail
        refine (imSh_any _ _).mono ?_
        rw [Hb.out]
        rintro e w' ⟨rfl, rfl⟩
        go_wp2_with fail
        refine (imSh_any _ _).mono ?_
        rw [Hc.out]
        rintro e w' ⟨rfl, rfl⟩
        go_wp2
        go_ret
        exact ⟨by unfold shB4; rw [Ha.out, Hb.out, Hc.out]; rfl, (Below.refl _ _).alloc (Nat.le_refl _) _⟩
      · cases hd : shB d
        · have Ha := Lib.hid ha
          have Hb := Lib.hid hb
          have Hc := Lib.hid hc
          have Hd := Lib.hid hd
          clear ha hb hc hd
          go_enter Try.func122, Try.ntmps122
          go_wp2_with fail
          refine (imSh_any _ _).mono ?_
          rw [Ha.out]
          rintro e w' ⟨rfl, rfl⟩
          go_wp2_with fail
          refine (imSh_any _ _).mono ?_
          rw [Hb.out]
          rintro e w' ⟨rfl, rfl⟩
          go_wp2_with fail
          refine (imSh_any _ _).mono ?_
          rw [Hc.out]
          rintro e w' ⟨rfl, rfl⟩
          go_wp2_with fail
          refine (imSh_any _ _).mono ?_
          rw [Hd.out]
          rintro e w' ⟨rfl, rfl⟩
          go_wp2
          go_ret
          exact ⟨by unfold shB4; rw [Ha.out, Hb.out, Hc.out, Hd.out]; rfl, (Below.refl _ _).alloc (Nat.le_refl _) _⟩
        · have Ha := Lib.hid ha
          have Hb := Lib.hid hb
          have Hc := Lib.hid hc
          have Hd := Lib.hid hd
          clear ha hb hc hd
          go_enter Try.func122, Try.ntmps122
          go_wp2_with fail
          refine (imSh_any _ _).mono ?_
          rw [Ha.out]
          rintro e w' ⟨rfl, rfl⟩
          go_wp2_with fail
          refine (imSh_any _ _).mono ?_
          rw [Hb.out]
          rintro e w' ⟨rfl, rfl⟩
          go_wp2_with fail
          refine (imSh_any _ _).mono ?_
          rw [Hc.out]
          rintro e w' ⟨rfl, rfl⟩
          go_wp2_with fail
          refine (imSh_any _ _).mono ?_
          rw [Hd.out]
          rintro e w' ⟨rfl, rfl⟩
          go_wp2
          go_ret
          exact ⟨by unfold shB4; rw [Ha.out, Hb.out, Hc.out, Hd.out]; rfl, (Below.refl _ _).alloc (Nat.le_refl _) _⟩
theorem spSh4_any (p a b c d : Nat) (w : World) (h : ShIn w p a b c d) : Calls Try.prog 119 #[.pointer (some ⟨p, 0, none⟩)] w fun e w' => e = .returned (.bool (shB4 a b c d)) ∧ w = w' := by
  obtain ⟨c0, c1, c2, c3⟩ := h
  cases ha : shB a
  · have Ha := Lib.hid ha
    clear ha
    go_enter Try.func119, Try.ntmps119
    go_wp2_with fail
    refine (spSh_any _ _).mono ?_
    rw [Ha.out]
    rintro e w' ⟨rfl, rfl⟩
    go_wp2
    go_ret
    exact ⟨by unfold shB4; rw [Ha.out]; rfl, rfl⟩
  · cases hb : shB b
    · have Ha := Lib.hid ha
      have Hb := Lib.hid hb
      clear ha hb
      go_enter Try.func119, Try.ntmps119
      go_wp2_with fail
      refine (spSh_any _ _).mono ?_
      rw [Ha.out]
      rintro e w' ⟨rfl, rfl⟩
      go_wp2_with fail
      refine (spSh_any _ _).mono ?_
      rw [Hb.out]
      rintro e w' ⟨rfl, rfl⟩
      go_wp2
      go_ret
      exact ⟨by unfold shB4; rw [Ha.out, Hb.out]; rfl, rfl⟩
    · cases hc : shB c
      · have Ha := Lib.hid ha
        have Hb := Lib.hid hb
        have Hc := Lib.hid hc
        clear ha hb hc
        go_enter Try.func119, Try.ntmps119
        go_wp2_with fail
        refine (spSh_any _ _).mono ?_
        rw [Ha.out]
        rintro e w' ⟨rfl, rfl⟩
        go_wp2_with fail
        refine (spSh_any _ _).mono ?_
        rw [Hb.out]
        rintro e w' ⟨rfl, rfl⟩
        go_wp2_with fail
        refine (spSh_any _ _).mono ?_
        rw [Hc.out]
        rintro e w' ⟨rfl, rfl⟩
        go_wp2
        go_ret
        exact ⟨by unfold shB4; rw [Ha.out, Hb.out, Hc.out]; rfl, rfl⟩
      · cases hd : shB d
        · have Ha := Lib.hid ha
          have Hb := Lib.hid hb
          have Hc := Lib.hid hc
          have Hd := Lib.hid hd
          clear ha hb hc hd
          go_enter Try.func119, Try.ntmps119
          go_wp2_with fail
          refine (spSh_any _ _).mono ?_
          rw [Ha.out]
          rintro e w' ⟨rfl, rfl⟩
          go_wp2_with fail
          refine (spSh_any _ _).mono ?_
          rw [Hb.out]
          rintro e w' ⟨rfl, rfl⟩
          go_wp2_with fail
          refine (spSh_any _ _).mono ?_
          rw [Hc.out]
          rintro e w' ⟨rfl, rfl⟩
          go_wp2_with fail
          refine (spSh_any _ _).mono ?_
          rw [Hd.out]
          rintro e w' ⟨rfl, rfl⟩
          go_wp2
          go_ret
          exact ⟨by unfold shB4; rw [Ha.out, Hb.out, Hc.out, Hd.out]; rfl, rfl⟩
        · have Ha := Lib.hid ha
          have Hb := Lib.hid hb
          have Hc := Lib.hid hc
          have Hd := Lib.hid hd
          clear ha hb hc hd
          go_enter Try.func119, Try.ntmps119
          go_wp2_with fail
          refine (spSh_any _ _).mono ?_
          rw [Ha.out]
          rintro e w' ⟨rfl, rfl⟩
          go_wp2_with fail
          refine (spSh_any _ _).mono ?_
          rw [Hb.out]
          rintro e w' ⟨rfl, rfl⟩
          go_wp2_with fail
          refine (spSh_any _ _).mono ?_
          rw [Hc.out]
          rintro e w' ⟨rfl, rfl⟩
          go_wp2_with fail
          refine (spSh_any _ _).mono ?_
          rw [Hd.out]
          rintro e w' ⟨rfl, rfl⟩
          go_wp2
          go_ret
          exact ⟨by unfold shB4; rw [Ha.out, Hb.out, Hc.out, Hd.out]; rfl, rfl⟩
end Go.Proofs.Ytgddfhmddkhaeaa
