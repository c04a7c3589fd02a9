/-
  Lists less a number, and less their means, in both packages (chapter 3).
-/
import Derived.Test.YtopgegciejmhaaaCDly
namespace Go.Proofs.Ytopgegciejmhaaa
open Ieee Go.RowKit
set_option linter.unusedVariables false

/-- A list of the call's own, at a place that is known. -/
def RetLs (xs : List Nat) (len : Nat) (w : World) (e : Ending) (w' : World) : Prop := ∃ rs, e = .returned (.slice (some ⟨w.heap.size, 0, none⟩) len len) ∧ FSl w' (some ⟨w.heap.size, 0, none⟩) len rs ∧ cnl rs = xs ∧ Below w.heap.size w w' ∧ w.heap.size < w'.heap.size
theorem allLess_any (a : Option Addr) (len cap : Nat) (zs : List Nat) (x : Nat) (w : World) (h : FSl w a len zs) (hm : len ≤ 1048576) :
    Calls Try.prog 71 #[.slice a len cap, .float .f32 x] w (RetLs (less32 zs (cn .f32 x)) len w) := by
  obtain ⟨i0, hi, hz0, hz1, hz2⟩ := info_parts Try.infoR
  have hmk := fun W => run_make_len (P := Try.prog) W 22 33 i0 (.float .f32 0) Try.underlying22 hi hz0 hz1 len (by rw [hz2]; omega) (by omega)
  clear hi hz0 hz1 hz2
  have HS := Lib.hid (Head.start (T := 33) (w := w) (n := len) (by omega))
  have HB := Lib.hid ((Below.refl w.heap.size w).alloc (Nat.le_refl _) (.cells (madeCells (Value.float .f32 0).cells len) 33))
  have H := Lib.hid h
  have HL := Lib.hid h.1
  clear h
  go_enter Try.func71, Try.ntmps71
  go_wp2
  clear hmk
  go_loopw [6, 7, 13] (fun p q i wr => ∃ (k : Nat) (rs : List Nat), k ≤ len ∧ i = .int .i64 k ∧ Hid (rs.length = k) ∧ Hid (Head 33 w.heap.size len rs wr) ∧ Hid (cnl rs = less32 (zs.take k) (cn .f32 x)) ∧ Hid (Below w.heap.size w wr)) (fun _ _ i _ => len - (intOf i).toNat)
  case atStart => exact ⟨0, [], Nat.zero_le _, rfl, Lib.hid rfl, HS, Lib.hid rfl, HB⟩
  case round =>
    rename_i wr
    obtain ⟨k, rs, hk, rfl, hrl, hhead, hrs, hbel⟩ := hrel
    by_cases hlt : k < len
    · obtain ⟨b, off, rfl, hb, hc⟩ := H.out.at (by omega)
      have hck := hc k hlt
      rw [← hbel.out.cell (p := ⟨b, off + k, none⟩) hb] at hck
      have hsn := Lib.hid (less_snoc (m := cn .f32 x) (k := k) (zs := zs) (by rw [HL.out]; exact hlt))
      obtain ⟨⟨u, hcell⟩, hfz⟩ := hhead.out.cell hlt
      have HP := Lib.hid (fun m r => (hhead.out.drewN m).push (by rw [hrl.out]; exact hlt) r)
      have HBn := Lib.hid (fun m r => (below_drewN hbel.out m).setCell (p := ⟨w.heap.size, k, none⟩) (Nat.le_refl _) (.float .f32 r))
      have HLn := Lib.hid (fun r => show (rs ++ [r]).length = k + 1 by rw [List.length_append, hrl.out]; rfl)
      generalize zs.getD k 0 = z at *
      have HRc := Lib.hid (fun w' => (cnl_snoc hrs.out (cn_fopR .sub .f32 z x w')).trans hsn.out.symm)
      rw [hrl.out] at HP
      clear hc hb hrs hhead hbel hsn hrl H HS HB
      go_wp2
      go_roundw
      case rel => exact ⟨k + 1, _, by omega, by go_num, Lib.hid (HLn.out _), Lib.hid (HP.out _ _), Lib.hid (HRc.out _), Lib.hid (HBn.out _ _)⟩
      case measure => simp [intOf]; omega
    · obtain rfl : k = len := by omega
      have HO := Lib.hid (hhead.out.own hrl.out (Nat.le_refl _) (by unfold maxLen; omega))
      have hsz := hhead.out.lt
      have hfin := Lib.hid (show cnl rs = less32 zs (cn .f32 x) by rw [hrs.out, List.take_of_length_le (by rw [HL.out]; omega)])
      obtain ⟨A, cp, he, hsl, _⟩ := HO.out.sl
      rw [hrl.out] at he hsl
      injection he with he1 _ he3
      subst he1 he3
      have HSL := Lib.hid hsl
      clear hhead hrs hsl HS HB H
      go_wp2
      go_ret
      exact ⟨rs, rfl, HSL.out, hfin.out, hbel.out, hsz⟩

/-- What is left of a list by its mean, if this is finite. -/
def RetM (zs : List Nat) (len : Nat) (w : World) (e : Ending) (w' : World) : Prop :=
  (meanB zs = true ∧ ∃ g r rs, e = .returned (.tuple #[.slice (some ⟨g, 0, none⟩) len len, .float .f32 r, .bool true]) ∧ FSl w' (some ⟨g, 0, none⟩) len rs ∧ cnl rs = offL zs ∧ cn .f32 r = mean32 zs ∧ w.heap.size ≤ g ∧ g < w'.heap.size ∧ Below w.heap.size w w') ∨
    (meanB zs = false ∧ e = .returned (.tuple #[.slice none 0 0, .float .f32 0, .bool false]) ∧ Below w.heap.size w w')
theorem lessMean_any (a : Option Addr) (len cap : Nat) (zs : List Nat) (w : World) (h : FSl w a len zs) (hm : len ≤ 1048576) :
    Calls Try.prog 126 #[.slice a len cap] w (RetM zs len w) := by
  have H := Lib.hid h
  clear h
  cases hs : meanB zs
  · have HS := Lib.hid hs
    go_enter Try.func126, Try.ntmps126
    go_wp2_with fail
    refine (implMean_any _ _ _ _ _ H.out hm).mono ?_
    rw [HS.out]
    rintro e w' ⟨r, m, hr, rfl, rfl⟩
    clear hr
    go_wp2
    go_ret3
    exact .inr ⟨HS.out, rfl, below_drewN (Below.refl _ _) _⟩
  · have HS := Lib.hid hs
    have HV := Lib.hid (show meanR zs = mean32 zs by unfold meanR; rw [hs]; rfl)
    clear hs
    go_enter Try.func126, Try.ntmps126
    go_wp2_with fail
    refine (implMean_any _ _ _ _ _ H.out hm).mono ?_
    rw [HS.out, HV.out]
    rintro e w' ⟨r, m, hr, rfl, rfl⟩
    have HR := Lib.hid hr
    clear hr
    go_wp2_with fail
    refine (allLess_any _ _ _ _ _ _ (FSl.drewN H.out m) hm).mono ?_
    rintro e w1 ⟨rs, rfl, hsl, hrs, hb, hsz⟩
    have HSL := Lib.hid hsl
    have HRs := Lib.hid (show cnl rs = offL zs by unfold offL; rw [hrs, HR.out])
    have HB := Lib.hid ((below_drewN (Below.refl w.heap.size w) m).trans hb)
    have HSz := Lib.hid hsz
    clear hsl hrs hb hsz
    go_wp2
    go_ret3
    exact .inl ⟨HS.out, _, r, rs, rfl, HSL.out, HRs.out, HR.out, Nat.le_refl _, HSz.out, HB.out⟩

theorem l03Mean_any (a : Option Addr) (len cap : Nat) (zs : List Nat) (w : World) (h : FSl w a len zs) (hl : len ≤ 1048576) :
    Calls Try.prog 169 #[.slice a len cap] w (RetF .f32 (mean32 zs) w) := by
  have HL := Lib.hid h.1
  go_enter Try.func169, Try.ntmps169
  go_wp2
  go_loopw [3, 4, 7] (fun s p i wr => ∃ k n r : Nat, k ≤ len ∧ i = .int .i64 k ∧ s = .float .f32 r ∧ wr = w.drewN n ∧ Hid (cn .f32 r = sum32 (zs.take k))) (fun _ _ i _ => len - (intOf i).toNat)
  case atStart => exact ⟨0, 0, 0, Nat.zero_le _, rfl, rfl, rfl, Lib.hid cn_zero⟩
  case round =>
    obtain ⟨k, n, r, hk, rfl, rfl, rfl, hr⟩ := hrel
    by_cases hlt : k < len
    · obtain ⟨b, off, rfl, _, hc⟩ := h.at (by omega)
      have hck := hc k hlt
      have hstep := Lib.hid (fun w' => sum32_step (w := w') (by rw [h.1]; exact hlt) hr.out)
      generalize zs.getD k 0 = z at *
      clear hc h hr
      go_wp2
      go_roundw
      case rel => exact ⟨k + 1, _, _, by omega, by go_num, rfl, rfl, Lib.hid (hstep.out _)⟩
      case measure => simp [intOf]; omega
    · have hfin := Lib.hid (show cn .f32 r = sum32 zs by rw [hr.out, List.take_of_length_le (by rw [h.1]; omega)])
      clear h hr
      go_wp2
      go_ret
      exact ⟨_, _, by rw [cn_fopR, hfin.out]; unfold mean32 i2f; rw [HL.out], rfl, rfl⟩

theorem l03Off_any (a : Option Addr) (len cap : Nat) (zs : List Nat) (w : World) (h : FSl w a len zs) (hm : len ≤ 1048576) :
    Calls Try.prog 124 #[.slice a len cap] w (RetO 33 (offL zs) w) := by
  obtain ⟨i0, hi, hz0, hz1, hz2⟩ := info_parts Try.infoR
  have H := Lib.hid h
  have HL := Lib.hid h.1
  clear h
  go_enter Try.func124, Try.ntmps124
  go_wp2_with fail
  refine (l03Mean_any _ _ _ _ _ H.out hm).mono ?_
  rintro e w' ⟨x, m, hx, rfl, rfl⟩
  have HX := Lib.hid hx
  clear hx
  have HN := Lib.hid (FOwn.made (T := 33) (B := w.heap.size) (w.drewN m) (Nat.le_refl _))
  have HB0 := Lib.hid ((below_drewN (Below.refl w.heap.size w) m).alloc (Nat.le_refl _) (.cells #[] 33))
  go_wp2
  go_loopw [4, 5, 11] (fun v p i wr => ∃ (k : Nat) (rs : List Nat), k ≤ len ∧ i = .int .i64 k ∧ Hid (rs.length = k) ∧ Hid (FOwn 33 w.heap.size wr v rs) ∧ Hid (cnl rs = less32 (zs.take k) (cn .f32 x)) ∧ Hid (Below w.heap.size w wr)) (fun _ _ i _ => len - (intOf i).toNat)
  case atStart => exact ⟨0, [], Nat.zero_le _, rfl, Lib.hid rfl, HN, Lib.hid rfl, HB0⟩
  case round =>
    rename_i wr
    obtain ⟨k, rs, hk, rfl, hrl, hown, hrs, hbel⟩ := hrel
    by_cases hlt : k < len
    · obtain ⟨b, off, rfl, hb, hc⟩ := H.out.at (by omega)
      have hck := hc k hlt
      rw [← hbel.out.cell (p := ⟨b, off + k, none⟩) hb] at hck
      have hsn := Lib.hid (less_snoc (m := cn .f32 x) (k := k) (zs := zs) (by rw [HL.out]; exact hlt))
      have hsz := hbel.out.size
      have hrk : rs.length ≤ 1048576 := by have := hrl.out; omega
      generalize zs.getD k 0 = z at *
      clear hc hb H
      go_wp2_with (at_builtin; refine wpList_append_own _ rfl _ _ 22 rfl w.heap.size 33 i0 (.float .f32 0) 1 4 Try.underlying22 hi hz0 hz1 hz2 rfl (by decide) _ _ _ rfl (World.ownsRow.alloc (FOwn.drewN hown.out _) _) ⟨wr.heap.size, 0, none⟩ 1 1 [_] rfl rfl (one_new rfl) ?c2 ?c3 ?c4 ?c5 ?_)
      case c2 => intro u hu; simp at hu; subst hu; rfl
      case c3 => unfold maxLen; omega
      case c4 => omega
      case c5 => simp; show w.heap.size ≤ wr.heap.size + 1; omega
      intro v' w1 hown' hgrow _
      have R := FOwn.push hown.out hbel.out hsz hown' hgrow
      have hstep := Lib.hid R
      have hcs := Lib.hid (fun w' : World => (cnl_snoc hrs.out (cn_fopR .sub .f32 z x w')).trans hsn.out.symm)
      have hrl2 := Lib.hid hrl.out
      clear R hown' hgrow hown hbel hrs hsn hrl hck
      go_wp2
      go_roundw
      case rel =>
        refine ⟨k + 1, _, by omega, by go_num, ?_, Lib.hid hstep.out.1, Lib.hid (hcs.out _), Lib.hid hstep.out.2⟩
        exact Lib.hid (by rw [List.length_append, hrl2.out]; rfl)
      case measure => simp [intOf]; omega
    · have hfin := Lib.hid (show cnl rs = offL zs by unfold offL; rw [hrs.out, HX.out, List.take_of_length_le (by rw [HL.out]; omega)])
      clear hrs H
      go_wp2
      go_ret
      exact ⟨_, rs, rfl, hown.out, hfin.out, hbel.out⟩
end Go.Proofs.Ytopgegciejmhaaa
