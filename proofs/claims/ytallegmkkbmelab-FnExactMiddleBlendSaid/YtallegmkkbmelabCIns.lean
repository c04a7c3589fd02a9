/-
  An insertion sort of a part of a row (slices.insertionSortCmpFunc) under cmp.Compare.
-/
import Derived.Test.YtallegmkkbmelabCRot
namespace Go.Proofs.Ytallegmkkbmelab
open Ieee Go.RowKit
set_option linter.unusedVariables false

def CMP : Value := .func (.func 89) #[] #[]
/-- No word is a not-a-number. -/
def NoN (f : Nat → Nat) (n : Nat) : Prop := ∀ i, i < n → isN .f32 (f i) = false
theorem NoN.stb {f f' : Nat → Nat} {n : Nat} (h : NoN f n) (hs : Stb fkey n f f') : NoN f' n := fun i hi => by
  obtain ⟨j, hj, e⟩ := hs.from i hi
  rw [e]; exact h j hj
/-- What has come so far. -/
structure Way (n : Nat) (f f' : Nat → Nat) (a b : Nat) : Prop where
  outs : Outs f f' a b
  frm : Frm f f' a b
  stb : Stb fkey n f f'
theorem Way.refl (n : Nat) (f : Nat → Nat) (a b : Nat) : Way n f f a b := ⟨Outs.refl _ _ _, Frm.refl _ _ _, Stb.refl _ _ _⟩
theorem Way.swap {n : Nat} {f f' : Nat → Nat} {a b j : Nat} (h : Way n f f' a b) (h1 : a ≤ j) (h2 : j + 1 < b) (hb : b ≤ n) (hlt : fkey (f' (j + 1)) < fkey (f' j)) : Way n f (swapF f' j (j + 1)) a b :=
  ⟨h.outs.trans (swap_outs h1 (by omega) (by omega) h2), h.frm.trans (swap_frm h1 (by omega) (by omega) h2), h.stb.trans (swap_stb (by omega) hlt)⟩
theorem Way.mrg {n : Nat} {f f' : Nat → Nat} {a b : Nat} (h : Way n f f' a b) (hs : Srt fkey f' a b) : Mrg fkey n f f' a b := ⟨h.outs, h.frm, hs, h.stb⟩

set_option maxHeartbeats 4000000 in
set_option maxRecDepth 1000000 in
theorem insert_any (g n cap c a b : Nat) (f : Nat → Nat) (w : World) (h : Arr 28 g n c f w) (hN : NoN f n) (h1 : a ≤ b) (h2 : b ≤ n) (hn : n ≤ 1048576) :
    Calls Try.prog 95 #[.slice (some ⟨g, 0, none⟩) n cap, .int .i64 a, .int .i64 b, CMP] w fun e w' => ∃ f', Sw 28 g n c f' w e w' ∧ Mrg fkey n f f' a b := by
  have HA := Lib.hid h
  have HN := Lib.hid hN
  have eg := enter_of (P := Try.prog) Try.func89 (by kernel_rfl) rfl
  unfold CMP
  clear h hN
  go_enter Try.func95, Try.ntmps95
  go_wp2
  go_loopw [8] (fun vi wr => ∃ (i : Nat) (f1 : Nat → Nat), vi = .int .i64 i ∧ a < i ∧ i ≤ n + 1 ∧ Hid (Only g w wr) ∧ Hid (Arr 28 g n c f1 wr) ∧ Hid (Way n f f1 a b) ∧ Hid (Srt fkey f1 a i)) (fun vi _ => b - (intOf vi).toNat)
  case atStart => exact ⟨a + 1, f, by go_num, by omega, by omega, Lib.hid (Only.refl _ _), HA, Lib.hid (Way.refl _ _ _ _), Lib.hid fun p q _ _ _ => by omega⟩
  case round =>
    rename World => wo
    obtain ⟨i, f1, rfl, hai, hin, ho, ha, hw, hs⟩ := hrel
    by_cases hlt : i < b
    · have hltz : (i : Int) < (b : Int) := by omega
      have HO1 := ho
      have HA1 := ha
      have HW1 := hw
      have HS1 := Lib.hid (hole_start hs.out)
      clear ho ha hw hs HA
      go_wp2
      go_loopw [9] (fun vj wr => ∃ (j : Nat) (f2 : Nat → Nat), vj = .int .i64 j ∧ a ≤ j ∧ j ≤ i ∧ Hid (Only g w wr) ∧ Hid (Arr 28 g n c f2 wr) ∧ Hid (Way n f f2 a b) ∧ Hid (Hole fkey f2 a i j)) (fun vj _ => (intOf vj).toNat)
      case atStart => exact ⟨i, f1, rfl, by omega, Nat.le_refl _, HO1, HA1, HW1, HS1⟩
      case round =>
        obtain ⟨j, f2, rfl, haj, hji, ho, ha, hw, hh⟩ := hrel
        clear HO1 HA1 HW1 HS1
        by_cases hja : a < j
        · obtain ⟨jp, hjp⟩ : ∃ q, q + 1 = j := ⟨j - 1, by omega⟩
          have hjaz : (a : Int) < (j : Int) := by omega
          have hjad : decide ((j : Int) > (a : Int)) = true := decide_eq_true (by omega)
          obtain ⟨x, hx⟩ : ∃ x, f2 j = x := ⟨_, rfl⟩
          obtain ⟨y, hy⟩ : ∃ y, f2 jp = y := ⟨_, rfl⟩
          have c1 := ha.out.cell (j := j) (by omega)
          have c2 := ha.out.cell (j := jp) (by omega)
          rw [hx] at c1
          rw [hy] at c2
          have nx : isN .f32 x = false := by rw [← hx]; exact HN.out.stb hw.out.stb j (by omega)
          have ny : isN .f32 y = false := by rw [← hy]; exact HN.out.stb hw.out.stb jp (by omega)
          have hc := Lib.hid (fun W => cmp_any x y W nx ny)
          have r1 : IntKind.i64.wrap ((j : Int) - 1) = (jp : Int) := by rw [IntKind.wrap_i64]; omega
          have l1 : (j : Int) < (n : Int) := by omega
          have l2 : (jp : Int) < (n : Int) := by omega
          have p1 : (0 : Int) ≤ (j : Int) := by omega
          have p2 : (0 : Int) ≤ (jp : Int) := by omega
          clear nx ny
          by_cases hlv : fkey x < fkey y
          · have hd : decide (cmpZ x y < 0) = true := by rw [cmpZ_lt]; exact decide_eq_true hlv
            have HW := Lib.hid (show Way n f (swapF f2 jp (jp + 1)) a b from hw.out.swap (by omega) (by omega) h2 (by rw [hjp, hx, hy]; exact hlv))
            have HH := Lib.hid (show Hole fkey (swapF f2 jp (jp + 1)) a i jp from hole_step (by rw [hjp]; exact hh.out) (by omega) (by omega) (by rw [hjp, hx, hy]; exact hlv))
            go_wp2_with fail
            go_quiet ((go_at_call 89; first | exact quiet_V (hc.out _) | exact quiet_add_V (hc.out _)))
            go_wp2_with fail
            generalize hwq : wr.drewN _ = wq
            have hne : jp ≠ j := by omega
            have HAq := Lib.hid (show Arr 28 g n c f2 wq from by rw [← hwq]; exact ha.out.drewN _)
            have HOq := Lib.hid (show Only g w wq from by rw [← hwq]; exact ho.out.drewN _)
            have c5 := HAq.out.cell (j := j) (by omega)
            have c6 := HAq.out.cell (j := jp) (by omega)
            have c3 := HAq.out.far (i := j) (j := jp) (by omega) (Ne.symm hne) (.float .f32 y)
            have c4 := HAq.out.far (i := jp) (j := j) (by omega) hne (.float .f32 x)
            rw [hx] at c5 c4
            rw [hy] at c6 c3
            have z1 := HAq.out.frozen j
            have z2 := HAq.out.frozen jp
            have z3 := HAq.out.fz j jp (.float .f32 y)
            have z4 := HAq.out.fz jp j (.float .f32 x)
            have HS := Lib.hid (show Arr 28 g n c (swapF f2 jp (jp + 1)) ((wq.setCell ⟨g, j, none⟩ (.float .f32 y)).setCell ⟨g, jp, none⟩ (.float .f32 x)) from by
              rw [hjp, swap_comm]; exact HAq.out.swap (by omega) (by omega) hx hy)
            have HO := Lib.hid ((HOq.out.setCell j (.float .f32 y)).setCell jp (.float .f32 x))
            clear c1 c2 hwq HAq HOq ha ho hc hd hh hw
            go_big_region
            clear c3 c4 c5 c6 z1 z2 z3 z4
            go_wp2
            go_roundw
            case rel => exact ⟨jp, _, by go_num, by omega, by omega, Lib.hid (HO.out.drewN 1), Lib.hid (HS.out.drewN 1), HW, HH⟩
            case measure => simp [intOf]; omega
          · have hd : decide (cmpZ x y < 0) = false := by rw [cmpZ_lt]; exact decide_eq_false hlv
            have HS := Lib.hid (show Srt fkey f2 a (i + 1) from hole_end hh.out haj (.inr (by rw [show j - 1 = jp by omega, hx, hy]; omega)))
            go_wp2_with fail
            go_quiet ((go_at_call 89; first | exact quiet_V (hc.out _) | exact quiet_add_V (hc.out _)))
            clear c1 c2 hc hh
            go_wp2
            go_roundw
            case rel => exact ⟨i + 1, f2, by go_num, by omega, by omega, Lib.hid (ho.out.drewN _), Lib.hid (ha.out.drewN _), hw, HS⟩
            case measure => simp [intOf]; omega
        · have hjad : decide ((j : Int) > (a : Int)) = false := decide_eq_false (by omega)
          have hjad2 : ¬ (a : Int) < (j : Int) := by omega
          have HS := Lib.hid (show Srt fkey f2 a (i + 1) from hole_end hh.out haj (.inl (by omega)))
          go_wp2_with fail
          go_quiet (fail)
          clear hh
          go_wp2
          go_roundw
          case rel => exact ⟨i + 1, f2, by go_num, by omega, by omega, Lib.hid (ho.out.drewN _), Lib.hid (ha.out.drewN _), hw, HS⟩
          case measure => simp [intOf]; omega
    · have hltz : ¬ (i : Int) < (b : Int) := by omega
      have HM := Lib.hid (hw.out.mrg (hs.out.part (Nat.le_refl _) (by omega)))
      clear hw hs HA
      go_wp2
      go_end0
      exact ⟨f1, ⟨rfl, ho.out, ha.out⟩, HM.out⟩
end Go.Proofs.Ytallegmkkbmelab
