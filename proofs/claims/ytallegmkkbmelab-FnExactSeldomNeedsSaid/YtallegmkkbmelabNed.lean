/-
  The first need of a series, in both packages.
-/
import Derived.Test.YtallegmkkbmelabGue
import Derived.Test.YtallegmkkbmelabCTow
import Derived.Test.YtallegmkkbmelabCMea
namespace Go.Proofs.Ytallegmkkbmelab
open Ieee Go.RowKit
set_option linter.unusedVariables false

def nlt (x : Nat) : Bool := (FloatKind.format .f32).order x 0 == some .lt
def ngt (x : Nat) : Bool := (FloatKind.format .f32).order x 0 == some .gt
theorem finNo {x : Nat} (h : fin .f32 x = true) : isN .f32 x = false := by
  unfold fin at h
  cases hn : isN .f32 x
  · rfl
  · rw [hn] at h; cases h
theorem cmp0 {x : Nat} (h : fin .f32 x = true) : (sr (FloatKind.format .f32) x < 0 ∧ (FloatKind.format .f32).order x 0 = some .lt) ∨ (sr (FloatKind.format .f32) x = 0 ∧ (FloatKind.format .f32).order x 0 = some .eq) ∨ (0 < sr (FloatKind.format .f32) x ∧ (FloatKind.format .f32).order x 0 = some .gt) := by
  have := sh_cmp (finNo h) sh_n0
  rw [sh_k0] at this
  exact this
/-- The lesser one of two numbers, as the builtin has it. -/
def minF (x y : Nat) : Nat := match (FloatKind.format .f32).order x y with
  | some .gt => y
  | some .eq => if (FloatKind.decode .f32 x).neg then x else y
  | _ => x
theorem minF_or (x y : Nat) : minF x y = x ∨ minF x y = y := by
  unfold minF
  split
  · exact .inr rfl
  · split
    · exact .inl rfl
    · exact .inr rfl
  · exact .inl rfl
theorem minF_fin {x y : Nat} (hx : fin .f32 x = true) (hy : fin .f32 y = true) : fin .f32 (minF x y) = true := by
  rcases minF_or x y with h | h <;> rw [h] <;> assumption
theorem nlt_is {x : Nat} (h : fin .f32 x = true) : nlt x = decide (sr (FloatKind.format .f32) x < 0) := by
  unfold nlt
  rcases cmp0 h with ⟨g, o⟩ | ⟨g, o⟩ | ⟨g, o⟩
  · rw [o, decide_eq_true (by omega)]; rfl
  · rw [o, decide_eq_false (by omega)]; rfl
  · rw [o, decide_eq_false (by omega)]; rfl
theorem minF_neg {x y : Nat} (hx : fin .f32 x = true) (hy : fin .f32 y = true) : nlt (minF x y) = (nlt x || nlt y) := by
  have hz := minF_fin hx hy
  rw [nlt_is hz, nlt_is hx, nlt_is hy, ← Bool.decide_or]
  refine decide_eq_decide.2 ?_
  rcases sh_cmp (finNo hx) (finNo hy) with ⟨g, o⟩ | ⟨g, o⟩ | ⟨g, o⟩
  · have : minF x y = x := by unfold minF; rw [o]
    rw [this]; omega
  · rcases minF_or x y with h | h <;> rw [h] <;> omega
  · have : minF x y = y := by unfold minF; rw [o]
    rw [this]; omega
theorem run_minF {P : Program} (w : World) (ts : Array TypeId) (t : TypeId) {x y : Nat} (hx : fin .f32 x = true) (hy : fin .f32 y = true) : (Builtin.min_ ts t #[.float .f32 x, .float .f32 y]).run P w = .ok (.float .f32 (minF x y)) w := by
  unfold minF
  rcases sh_cmp (finNo hx) (finNo hy) with ⟨g, o⟩ | ⟨g, o⟩ | ⟨g, o⟩ <;> simp [Builtin.min_, Builtin.min2, List.foldlM, o] <;> rfl
theorem any_snoc {zs : List Nat} {k : Nat} (p : Nat → Bool) (h : k < zs.length) : (zs.take (k + 1)).any p = ((zs.take k).any p || p (zs.getD k 0)) := by
  rw [list_snoc h, List.any_append]; simp

theorem minS_any (a : Option Addr) (len cap : Nat) (zs : List Nat) (w : World) (h : FSl w a len zs) (h1 : 1 ≤ len) (hm : len ≤ 1048576) (hf : fins zs = true) :
    Calls Try.prog 78 #[.slice a len cap] w fun e w' => ∃ r, e = .returned (.float .f32 r) ∧ nlt r = zs.any nlt ∧ fin .f32 r = true ∧ w = w' := by
  have H := Lib.hid h
  have HL := Lib.hid h.1
  have HF := Lib.hid hf
  obtain ⟨b, off, rfl, hb, hc⟩ := h.at (by omega)
  have hc0 := hc 0 (by omega)
  rw [Nat.add_zero] at hc0
  have HZ := Lib.hid (fins_at hf (k := 0) (by rw [h.1]; omega))
  have HN := Lib.hid (show nlt (zs.getD 0 0) = (zs.take 1).any nlt by rw [any_snoc nlt (by rw [h.1]; omega)]; simp)
  generalize zs.getD 0 0 = z0 at *
  have hd : decide ((len : Int) < 1) = false := decide_eq_false (by omega)
  have hl0 : (0 : Int) < (len : Int) := by omega
  clear h hc hf
  go_enter Try.func78, Try.ntmps78
  go_wp2
  clear hc0
  go_loopw [3, 4] (fun m i wr => ∃ k r : Nat, 1 ≤ k ∧ k ≤ len ∧ i = .int .i64 k ∧ m = .float .f32 r ∧ wr = w ∧ Hid (fin .f32 r = true) ∧ Hid (nlt r = (zs.take k).any nlt)) (fun _ i _ => len - (intOf i).toNat)
  case atStart => exact ⟨1, z0, Nat.le_refl _, h1, rfl, rfl, (by trivial), HZ, HN⟩
  case round =>
    obtain ⟨k, r, hk1, hk, rfl, rfl, rfl, hr, hn⟩ := hrel
    by_cases hlt : k < len
    · obtain ⟨b', off', e', _, hc'⟩ := H.out.at (by omega)
      injection e' with e'; injection e' with e1 e2
      subst e1 e2
      have hck := hc' k hlt
      have hz := fins_at HF.out (k := k) (by rw [HL.out]; exact hlt)
      have hmin := fun (W : World) (ts : Array TypeId) (t : TypeId) => run_minF (P := Try.prog) W ts t hr.out hz
      have HR := Lib.hid (minF_fin hr.out hz)
      have HA := Lib.hid (show nlt (minF r (zs.getD k 0)) = (zs.take (k + 1)).any nlt by rw [minF_neg hr.out hz, any_snoc nlt (by rw [HL.out]; exact hlt), hn.out])
      generalize zs.getD k 0 = z at *
      have hkl : (k : Int) < (len : Int) := by omega
      clear hc' hz hr hn
      go_wp2
      go_roundw
      case rel => exact ⟨k + 1, _, by omega, by omega, by go_num, rfl, (by trivial), HR, HA⟩
      case measure => simp [intOf]; omega
    · have hkl : k = len := by omega
      subst hkl
      have HA := Lib.hid (show nlt r = zs.any nlt by rw [hn.out, List.take_of_length_le (by rw [HL.out]; exact Nat.le_refl _)])
      clear hn
      go_wp2
      go_ret
      exact ⟨_, rfl, HA.out, hr.out, rfl⟩

/-- The first one that is greater than 0, of the first k; -1 if there is none. -/
def fst (zs : List Nat) : Nat → Int
  | 0 => -1
  | k + 1 => if fst zs k < 0 ∧ ngt (zs.getD k 0) = true then (k : Int) else fst zs k
theorem fst_or (zs : List Nat) : ∀ k, fst zs k = -1 ∨ (0 ≤ fst zs k ∧ fst zs k < (k : Int))
  | 0 => .inl rfl
  | k + 1 => by
    have ih := fst_or zs k
    unfold fst
    split
    · exact .inr ⟨by omega, by omega⟩
    · rcases ih with h | h
      · exact .inl h
      · exact .inr ⟨h.1, by omega⟩
theorem fst_no {zs : List Nat} {k : Nat} (h : ngt (zs.getD k 0) = false) : fst zs (k + 1) = fst zs k := by
  show (if _ then _ else _) = _
  rw [if_neg (by rw [h]; simp)]
theorem fst_old {zs : List Nat} {k : Nat} (h : ¬ fst zs k < 0) : fst zs (k + 1) = fst zs k := by
  show (if _ then _ else _) = _
  rw [if_neg (by intro hh; exact h hh.1)]
theorem fst_new {zs : List Nat} {k : Nat} (h : fst zs k < 0) (h2 : ngt (zs.getD k 0) = true) : fst zs (k + 1) = (k : Int) := by
  show (if _ then _ else _) = _
  rw [if_pos ⟨h, h2⟩]
theorem fst_stay {zs : List Nat} {k : Nat} (h : 0 ≤ fst zs k) : ∀ d, fst zs (k + d) = fst zs k
  | 0 => rfl
  | d + 1 => by rw [← Nat.add_assoc, fst_old (by rw [fst_stay h d]; omega), fst_stay h d]
theorem posN_any (x : Nat) (w : World) : Calls Try.prog 80 #[.float .f32 x] w fun e w' => e = .returned (.bool (ngt x)) ∧ w = w' := by
  go_enter Try.func80, Try.ntmps80
  go_wp2
  go_ret
  exact ⟨rfl, rfl⟩
theorem idx_any (a : Option Addr) (len cap : Nat) (zs : List Nat) (w : World) (h : FSl w a len zs) (hm : len ≤ 1048576) :
    Calls Try.prog 79 #[.slice a len cap, .func (.func 80) #[] #[]] w fun e w' => e = .returned (.int .i64 (fst zs len)) ∧ w = w' := by
  have H := Lib.hid h
  clear h
  go_enter Try.func79, Try.ntmps79
  go_wp2
  go_loopw [5, 8] (fun x i wr => ∃ k : Nat, k ≤ len ∧ i = .int .i64 k ∧ wr = w ∧ Hid (fst zs k = -1)) (fun _ i _ => len - (intOf i).toNat)
  case atStart => exact ⟨0, Nat.zero_le _, rfl, (by trivial), Lib.hid rfl⟩
  case round =>
    obtain ⟨k, hk, rfl, rfl, hf⟩ := hrel
    by_cases hlt : k < len
    · obtain ⟨b, off, rfl, _, hc⟩ := H.out.at (by omega)
      have hck := hc k hlt
      have hkl : (k : Int) < (len : Int) := by omega
      cases hg : ngt (zs.getD k 0)
      · have HG := Lib.hid hg
        have HF := Lib.hid ((fst_no hg).trans hf.out)
        generalize zs.getD k 0 = z at *
        clear hg hc H
        go_wp2_with fail
        refine (posN_any _ _).mono ?_
        rw [HG.out]
        rintro e w' ⟨rfl, rfl⟩
        go_wp2_with fail
        go_roundw
        case rel => exact ⟨k + 1, by omega, by go_num, (by trivial), HF⟩
        case measure => simp [intOf]; omega
      · have HG := Lib.hid hg
        have hn := fst_new (zs := zs) (k := k) (by rw [hf.out]; omega) hg
        have HF := Lib.hid (show fst zs len = (k : Int) by
          obtain ⟨d, rfl⟩ : ∃ d, len = k + 1 + d := ⟨len - (k + 1), by omega⟩
          rw [fst_stay (by rw [hn]; omega), hn])
        generalize zs.getD k 0 = z at *
        clear hg hc H hn
        go_wp2_with fail
        refine (posN_any _ _).mono ?_
        rw [HG.out]
        rintro e w' ⟨rfl, rfl⟩
        go_wp2_with fail
        go_ret
        exact ⟨by rw [HF.out]; rfl, rfl⟩
    · obtain rfl : k = len := by omega
      have HF := hf
      clear H
      go_wp2_with fail
      go_ret
      exact ⟨by rw [HF.out]; rfl, rfl⟩
/-- There is a need, and no number is less than 0. -/
def ndB (zs : List Nat) : Bool := !zs.any nlt && decide (0 ≤ fst zs zs.length)
theorem ndB_t {zs : List Nat} (h : ndB zs = true) : zs.any nlt = false ∧ ∃ k : Nat, fst zs zs.length = (k : Int) ∧ k < zs.length := by
  unfold ndB at h
  simp only [Bool.and_eq_true, Bool.not_eq_true', decide_eq_true_eq] at h
  refine ⟨h.1, (fst zs zs.length).toNat, by omega, ?_⟩
  rcases fst_or zs zs.length with g | g <;> omega
/-- What tells the first need. -/
def RetNd (zs : List Nat) (b : Bool) (w : World) (e : Ending) (w' : World) : Prop := ∃ v n, e = .returned (.tuple #[.int .i64 v, .bool b]) ∧ (b = true → v = fst zs zs.length) ∧ w.drewN n = w'

theorem firstN_any (a : Option Addr) (len cap : Nat) (zs : List Nat) (w : World) (h : FSl w a len zs) (hm : len ≤ 1048576) :
    Calls Try.prog 58 #[.slice a len cap] w (RetNd zs (serB zs && ndB zs) w) := by
  have H := Lib.hid h
  have HL := Lib.hid h.1
  clear h
  cases hs : serB zs
  · have HS := Lib.hid hs
    clear hs
    go_enter Try.func58, Try.ntmps58
    go_wp2_with fail
    refine (implSeries_any _ _ _ _ _ H.out hm).mono ?_
    rw [HS.out]
    rintro e w' ⟨m, rfl, rfl⟩
    go_wp2_with fail
    go_ret2
    exact ⟨_, _, rfl, fun h => (by simp at h), rfl⟩
  · obtain ⟨h1, -, hf⟩ := serB_t hs
    rw [HL.out] at h1
    have HS := Lib.hid hs
    have HF := Lib.hid hf
    cases hn : zs.any nlt
    · have HN := Lib.hid hn
      have HB := Lib.hid (show ndB zs = decide (0 ≤ fst zs len) by unfold ndB; rw [hn, HL.out]; rfl)
      clear hs hf hn
      go_enter Try.func58, Try.ntmps58
      go_wp2_with fail
      refine (implSeries_any _ _ _ _ _ H.out hm).mono ?_
      rw [HS.out]
      rintro e w' ⟨m, rfl, rfl⟩
      go_wp2_with fail
      refine (minS_any _ _ _ _ _ (FSl.drewN H.out m) h1 hm HF.out).mono ?_
      rw [HN.out]
      rintro e w' ⟨r, rfl, hr, -, rfl⟩
      have ho : ((FloatKind.format .f32).order r 0 == some .lt) = false := hr
      go_wp2_with fail
      refine (idx_any _ _ _ _ _ (FSl.drewN H.out m) hm).mono ?_
      rintro e w' ⟨rfl, rfl⟩
      go_wp2_with fail
      go_ret2
      exact ⟨_, m, by rw [HB.out]; rfl, fun _ => by rw [HL.out], rfl⟩
    · have HN := Lib.hid hn
      have HB := Lib.hid (show ndB zs = false by unfold ndB; rw [hn]; rfl)
      clear hs hf hn
      go_enter Try.func58, Try.ntmps58
      go_wp2_with fail
      refine (implSeries_any _ _ _ _ _ H.out hm).mono ?_
      rw [HS.out]
      rintro e w' ⟨m, rfl, rfl⟩
      go_wp2_with fail
      refine (minS_any _ _ _ _ _ (FSl.drewN H.out m) h1 hm HF.out).mono ?_
      rw [HN.out]
      rintro e w' ⟨r, rfl, hr, -, rfl⟩
      have ho : ((FloatKind.format .f32).order r 0 == some .lt) = true := hr
      go_wp2_with fail
      go_ret2
      exact ⟨_, m, by rw [HB.out]; rfl, fun h => (by rw [HB.out] at h; simp at h), rfl⟩

theorem needs_any (a : Option Addr) (len cap : Nat) (zs : List Nat) (w : World) (h : FSl w a len zs) (hm : len ≤ 1048576) (hf : fins zs = true) :
    Calls Try.prog 57 #[.slice a len cap] w (RetNd zs (ndB zs) w) := by
  have H := Lib.hid h
  have HL := Lib.hid h.1
  have HF := Lib.hid hf
  clear h hf
  go_enter Try.func57, Try.ntmps57
  go_wp2
  go_loopw [4, 5] (fun v i wr => ∃ k : Nat, k ≤ len ∧ i = .int .i64 k ∧ v = .int .i64 (fst zs k) ∧ wr = w ∧ Hid ((zs.take k).any nlt = false)) (fun _ i _ => len - (intOf i).toNat)
  case atStart => exact ⟨0, Nat.zero_le _, rfl, rfl, (by trivial), Lib.hid rfl⟩
  case round =>
    obtain ⟨k, hk, rfl, rfl, rfl, hn⟩ := hrel
    by_cases hlt : k < len
    · obtain ⟨b, off, rfl, _, hc⟩ := H.out.at (by omega)
      have hck := hc k hlt
      have hkl : (k : Int) < (len : Int) := by omega
      have hz := fins_at HF.out (k := k) (by rw [HL.out]; exact hlt)
      have hsn := any_snoc nlt (zs := zs) (k := k) (by rw [HL.out]; exact hlt)
      have hlz : k < zs.length := by rw [HL.out]; exact hlt
      rcases cmp0 hz with ⟨g, o⟩ | ⟨g, o⟩ | ⟨g, o⟩
      · have HB := Lib.hid (show ndB zs = false by
          have : zs.any nlt = true := by
            rw [List.any_eq_true]
            exact ⟨zs.getD k 0, by simp [List.getD, hlz], by unfold nlt; rw [o]; rfl⟩
          unfold ndB; rw [this]; rfl)
        generalize zs.getD k 0 = z at *
        clear hc H hz hsn g
        go_wp2_with fail
        go_ret2
        exact ⟨_, 0, by rw [HB.out]; rfl, fun h => (by rw [HB.out] at h; simp at h), rfl⟩
      · have HN := Lib.hid (show (zs.take (k + 1)).any nlt = false by rw [hsn, hn.out]; unfold nlt; rw [o]; rfl)
        have HX := Lib.hid (fst_no (zs := zs) (k := k) (by unfold ngt; rw [o]; rfl))
        generalize zs.getD k 0 = z at *
        clear hc H hz hsn g hn
        go_wp2_with fail
        go_roundw
        case rel => exact ⟨k + 1, by omega, by go_num, by rw [HX.out], (by trivial), HN⟩
        case measure => simp [intOf]; omega
      · have HN := Lib.hid (show (zs.take (k + 1)).any nlt = false by rw [hsn, hn.out]; unfold nlt; rw [o]; rfl)
        have hgt : ngt (zs.getD k 0) = true := by unfold ngt; rw [o]; rfl
        by_cases h0 : fst zs k < 0
        · have HX := Lib.hid (fst_new h0 hgt)
          have hd : decide (fst zs k < 0) = true := decide_eq_true h0
          clear hgt
          generalize zs.getD k 0 = z at *
          clear hc H hz hsn g hn
          go_wp2_with fail
          go_roundw
          case rel => exact ⟨k + 1, by omega, by go_num, by rw [HX.out], (by trivial), HN⟩
          case measure => simp [intOf]; omega
        · have HX := Lib.hid (fst_old (zs := zs) (k := k) h0)
          have hd : decide (fst zs k < 0) = false := decide_eq_false h0
          clear hgt
          generalize zs.getD k 0 = z at *
          clear hc H hz hsn g hn
          go_wp2_with fail
          go_roundw
          case rel => exact ⟨k + 1, by omega, by go_num, by rw [HX.out], (by trivial), HN⟩
          case measure => simp [intOf]; omega
    · obtain rfl : k = len := by omega
      have HB := Lib.hid (show ndB zs = decide (0 ≤ fst zs k) by unfold ndB; rw [← List.take_of_length_le (l := zs) (i := k) (by rw [HL.out]; exact Nat.le_refl _), hn.out, List.take_of_length_le (by rw [HL.out]; exact Nat.le_refl _), HL.out]; rfl)
      clear H hn
      go_wp2_with fail
      go_ret2
      exact ⟨_, 0, by rw [HB.out]; rfl, fun _ => by rw [HL.out], rfl⟩
/-- What is made of a number that must be finite. -/
theorem res_word {B : Bool} {W r x : Nat} (hx : cn .f32 x = W) (hB : B = fin .f32 W) (hr : cn .f32 r = if fin .f32 x then cn .f32 x else 0) : cn .f32 r = (if B then W else 0) ∧ fin .f32 x = B := by
  have e : fin .f32 x = fin .f32 W := fin_congr (by rw [← hx, cn_cn])
  refine ⟨?_, by rw [hB, e]⟩
  rw [hr, e, hx, hB]
end Go.Proofs.Ytallegmkkbmelab
