/-
  The model's own sort.
-/
import Derived.Test.YtallegmkkbmelabCSta
namespace Go.Proofs.Ytallegmkkbmelab
open Ieee Go.RowKit
set_option linter.unusedVariables false

theorem ord_lt {x y : Nat} (hx : isN .f32 x = false) (hy : isN .f32 y = false) (h : fkey x < fkey y) : (FloatKind.format .f32).order x y = some .lt :=
  (order_all .f32 x y hx hy).trans (congrArg some (Int.compare_eq_lt.2 h))
theorem ord_no {x y : Nat} (hx : isN .f32 x = false) (hy : isN .f32 y = false) (h : ¬ fkey x < fkey y) : (FloatKind.format .f32).order x y = some .eq ∨ (FloatKind.format .f32).order x y = some .gt := by
  rcases Int.lt_trichotomy (fkey x) (fkey y) with h1 | h1 | h1
  · exact absurd h1 h
  · exact .inl ((order_all .f32 x y hx hy).trans (congrArg some (Int.compare_eq_eq.2 h1)))
  · exact .inr ((order_all .f32 x y hx hy).trans (congrArg some (Int.compare_eq_gt.2 h1)))

set_option maxHeartbeats 4000000 in
set_option maxRecDepth 1000000 in
theorem specSort_any (b off len cap : Nat) (zs : List Nat) (w : World) (h : FSl w (some ⟨b, off, none⟩) len zs) (h0 : 0 < len) (hm : len ≤ 1048576) (hf : fins zs = true) :
    Calls Try.prog 82 #[.slice (some ⟨b, off, none⟩) len cap] w (fun e w' => ∃ v, e = .returned v ∧ FOwn 28 w.heap.size w' v (srtL zs) ∧ Below w.heap.size w w') := by
  obtain ⟨i0, hi, hz0, hz1, hz2⟩ := info_parts Try.infoR
  have H := Lib.hid h
  have HL := Lib.hid h.1
  have HF := Lib.hid hf
  have HN := Lib.hid (FOwn.made (T := 28) (B := w.heap.size) w (Nat.le_refl _))
  have HNe := Lib.hid ((FSl.below h ((Below.refl _ _).alloc (Nat.le_refl _) (.cells #[] 28))).news h0)
  clear h hf
  go_enter Try.func82, Try.ntmps82
  go_wp2_with (at_builtin; refine wpList_append_own _ rfl _ _ 22 rfl w.heap.size 28 i0 (.float .f32 0) 1 4 Try.underlying22 hi hz0 hz1 hz2 rfl (by decide) _ _ _ rfl HN.out ⟨b, off, none⟩ len cap (zs.map (Value.float .f32)) rfl (by rw [List.length_map, HL.out, Nat.mul_one]) HNe.out ?c2 ?c3 ?c4 ?c5 ?_)
  case c2 =>
    intro u hu
    obtain ⟨x, _, rfl⟩ := List.mem_map.1 hu
    rfl
  case c3 => unfold maxLen; simp; omega
  case c4 => simp; omega
  case c5 => simp
  intro v0 w1 hown' hgrow _
  have hb0 := ((Below.refl w.heap.size w).alloc (Nat.le_refl _) (.cells #[] 28)).grown hgrow (by simp) (fun k hk => (World.ownsRow.lt HN.out k hk).1)
  have ho0 : FOwn 28 w.heap.size w1 v0 zs := by unfold FOwn; rw [HL.out]; simpa using hown'
  obtain ⟨g, cp, c, rfl, hg, ha, hback⟩ := ho0.arr (by rw [HL.out]; exact h0)
  rw [HL.out] at ha hback ⊢
  have HA := Lib.hid ha
  have HBk := Lib.hid hback
  have HB := Lib.hid hb0
  have HNo := Lib.hid (show NoN (fun i => zs.getD i 0) len by rw [← HL.out]; exact noN_fins HF.out)
  have HSe := Lib.hid (show seg (fun i => zs.getD i 0) 0 len = zs by rw [← HL.out]; exact seg_list zs)
  have HG := Lib.hid hg
  clear hown' hgrow HN HNe hb0 ho0 ha hback hg hi hz0 hz1 hz2
  go_wp2
  go_loopw [4] (fun vi wr => ∃ (i : Nat) (f1 : Nat → Nat), vi = .int .i64 i ∧ 1 ≤ i ∧ i ≤ len ∧ Hid (Only g w1 wr) ∧ Hid (Arr 28 g len c f1 wr) ∧ Hid (Way len (fun i => zs.getD i 0) f1 0 len) ∧ Hid (Srt fkey f1 0 i)) (fun vi _ => len - (intOf vi).toNat)
  case atStart => exact ⟨1, _, rfl, Nat.le_refl _, h0, Lib.hid (Only.refl _ _), HA, Lib.hid (Way.refl _ _ _ _), Lib.hid fun p q _ _ _ => by omega⟩
  case round =>
    rename World => wo
    obtain ⟨i, f1, rfl, hai, hin, ho, ha, hw, hs⟩ := hrel
    by_cases hlt : i < len
    · have hltz : (i : Int) < (len : Int) := by omega
      have HO1 := ho
      have HA1 := ha
      have HW1 := hw
      have HS1 := Lib.hid (hole_start hs.out)
      clear ho ha hw hs HA
      go_wp2
      go_loopw [5] (fun vj wr => ∃ (j : Nat) (f2 : Nat → Nat), vj = .int .i64 j ∧ j ≤ i ∧ Hid (Only g w1 wr) ∧ Hid (Arr 28 g len c f2 wr) ∧ Hid (Way len (fun i => zs.getD i 0) f2 0 len) ∧ Hid (Hole fkey f2 0 i j)) (fun vj _ => (intOf vj).toNat)
      case atStart => exact ⟨i, f1, rfl, Nat.le_refl _, HO1, HA1, HW1, HS1⟩
      case round =>
        obtain ⟨j, f2, rfl, hji, ho, ha, hw, hh⟩ := hrel
        clear HO1 HA1 HW1 HS1
        by_cases hja : 0 < j
        · obtain ⟨jp, hjp⟩ : ∃ q, q + 1 = j := ⟨j - 1, by omega⟩
          have hjaz : (0 : Int) < (j : Int) := by omega
          have hjad : decide ((j : Int) > 0) = true := decide_eq_true (by omega)
          obtain ⟨x, hx⟩ : ∃ x, f2 j = x := ⟨_, rfl⟩
          obtain ⟨y, hy⟩ : ∃ y, f2 jp = y := ⟨_, rfl⟩
          have c1 := ha.out.cell (j := j) (by omega)
          have c2 := ha.out.cell (j := jp) (by omega)
          rw [hx] at c1
          rw [hy] at c2
          have nx : isN .f32 x = false := by rw [← hx]; exact HNo.out.stb hw.out.stb j (by omega)
          have ny : isN .f32 y = false := by rw [← hy]; exact HNo.out.stb hw.out.stb jp (by omega)
          have r1 : IntKind.i64.wrap ((j : Int) - 1) = (jp : Int) := by rw [IntKind.wrap_i64]; omega
          have r2 : (j : Int) - 1 = (jp : Int) := by omega
          have l1 : (j : Int) < (len : Int) := by omega
          have l2 : (jp : Int) < (len : Int) := by omega
          have p1 : (0 : Int) ≤ (j : Int) := by omega
          have p2 : (0 : Int) ≤ (jp : Int) := by omega
          have hne : jp ≠ j := by omega
          by_cases hlv : fkey x < fkey y
          · have hord := ord_lt nx ny hlv
            have HW := Lib.hid (show Way len (fun i => zs.getD i 0) (swapF f2 jp (jp + 1)) 0 len from hw.out.swap (by omega) (by omega) (Nat.le_refl _) (by rw [hjp, hx, hy]; exact hlv))
            have HH := Lib.hid (show Hole fkey (swapF f2 jp (jp + 1)) 0 i jp from hole_step (by rw [hjp]; exact hh.out) (by omega) (by omega) (by rw [hjp, hx, hy]; exact hlv))
            go_wp2_with fail
            go_quiet (fail)
            clear c1 c2 nx ny
            generalize hwq : wr.drewN _ = wq
            have HAq := Lib.hid (show Arr 28 g len c f2 wq from by rw [← hwq]; exact ha.out.drewN _)
            have HOq := Lib.hid (show Only g w1 wq from by rw [← hwq]; exact ho.out.drewN _)
            have c1 := HAq.out.cell (j := j) (by omega)
            have c2 := HAq.out.cell (j := jp) (by omega)
            have c3 := HAq.out.far (i := j) (j := jp) (by omega) (Ne.symm hne) (.float .f32 y)
            rw [hx] at c1
            rw [hy] at c2 c3
            have z1 := HAq.out.frozen j
            have z2 := HAq.out.frozen jp
            have z3 := HAq.out.fz j jp (.float .f32 y)
            have HS := Lib.hid (show Arr 28 g len c (swapF f2 jp (jp + 1)) ((wq.setCell ⟨g, j, none⟩ (.float .f32 y)).setCell ⟨g, jp, none⟩ (.float .f32 x)) from by
              rw [hjp, swap_comm]; exact HAq.out.swap (by omega) (by omega) hx hy)
            have HO := Lib.hid ((HOq.out.setCell j (.float .f32 y)).setCell jp (.float .f32 x))
            clear hwq HAq HOq ha ho hh hw hx hy
            go_wp2
            go_roundw
            case rel => exact ⟨jp, _, by go_num, by omega, HO, HS, HW, HH⟩
            case measure => simp [intOf]; omega
          · have HS := Lib.hid (show Srt fkey f2 0 (i + 1) from hole_end hh.out (Nat.zero_le _) (.inr (by rw [show j - 1 = jp by omega, hx, hy]; omega)))
            rcases ord_no nx ny hlv with hord | hord
            all_goals
              go_wp2_with fail
              go_quiet (fail)
              clear c1 c2 hh
              go_wp2
              go_roundw
              case rel => exact ⟨i + 1, f2, by go_num, by omega, by omega, Lib.hid (ho.out.drewN _), Lib.hid (ha.out.drewN _), hw, HS⟩
              case measure => simp [intOf]; omega
        · have hjad : decide ((j : Int) > 0) = false := decide_eq_false (by omega)
          have hjad2 : ¬ (0 : Int) < (j : Int) := by omega
          have hj0 : j = 0 := by omega
          have HS := Lib.hid (show Srt fkey f2 0 (i + 1) from hole_end hh.out (Nat.zero_le _) (.inl hj0))
          go_wp2_with fail
          go_quiet (fail)
          clear hh
          go_wp2
          go_roundw
          case rel => exact ⟨i + 1, f2, by go_num, by omega, by omega, Lib.hid (ho.out.drewN _), Lib.hid (ha.out.drewN _), hw, HS⟩
          case measure => simp [intOf]; omega
    · have hltz : decide ((i : Int) < (len : Int)) = false := decide_eq_false (by omega)
      obtain rfl : i = len := by omega
      have HX := Lib.hid (show FOwn 28 w.heap.size wo (.slice (some ⟨g, 0, none⟩) i cp) (srtL zs) by
        have := HBk.out f1 wo ha.out
        rwa [sort_is hs.out hw.out.stb, HSe.out] at this)
      have HB2 := Lib.hid (HB.out.trans (ho.out.below HG.out))
      clear hw hs ha HA HBk
      go_wp2
      go_ret
      exact ⟨_, rfl, HX.out, HB2.out⟩
end Go.Proofs.Ytallegmkkbmelab
