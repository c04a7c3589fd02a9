/-
  RanksOf, in both packages.
-/
import Derived.Test.YtnjmkleodaadbaaCBox
import Derived.Test.YtnjmkleodaadbaaCMea
import Derived.Deep.QuietTactic
import Derived.BigQuiet
namespace Go.Proofs.Ytnjmkleodaadbaa
open Ieee Go.RowKit
set_option linter.unusedVariables false

def ord (x y : Nat) : Option Ordering := (FloatKind.format .f32).order x y
/-- How many of the first k numbers stand so to x. -/
def cntO (o : Ordering) (zs : List Nat) (x : Nat) : Nat → Nat
  | 0 => 0
  | k + 1 => cntO o zs x k + (if ord (zs.getD k 0) x == some o then 1 else 0)
theorem cntO_le (o : Ordering) (zs : List Nat) (x k : Nat) : cntO o zs x k ≤ k := by
  induction k with
  | zero => exact Nat.le_refl _
  | succ k ih => unfold cntO; split <;> omega
def rankZ (l s : Nat) : Nat := aop .add .f32 (aop .add .f32 (i2f l) (aop .quo .f32 (i2f s) 1073741824)) 1056964608
def rankAt (zs : List Nat) (j : Nat) : Nat := rankZ (cntO .lt zs (zs.getD j 0) zs.length) (cntO .eq zs (zs.getD j 0) zs.length)
def rankL (zs : List Nat) : List Nat := tells (rankAt zs) zs.length
def rankR (zs : List Nat) : List Nat := if serB zs then rankL zs else []
theorem i2f_succ : ∀ n : Nat, n < 97 → aop .add .f32 (i2f n) 1065353216 = i2f ((n + 1 : Nat) : Int) := by decide +kernel
theorem i2f_half : ∀ n : Nat, n < 97 → aop .mul .f32 1056964608 (i2f n) = aop .quo .f32 (i2f n) 1073741824 := by decide +kernel
theorem i2f_cn : ∀ n : Nat, n < 97 → cn .f32 (i2f n) = i2f n := by decide +kernel
theorem i2f_zero : cn .f32 0 = i2f ((0 : Nat) : Int) := by decide +kernel
theorem rank_fin : ∀ l : Nat, l < 97 → ∀ s : Nat, s < 97 → fin .f32 (rankZ l s) = true := by decide +kernel
theorem fins_tells {tell : Nat → Nat} {n : Nat} (h : ∀ j, j < n → fin .f32 (tell j) = true) : fins (tells tell n) = true := by
  unfold fins tells
  rw [List.all_map, List.all_eq_true]
  intro j hj
  exact h j (by simpa using hj)
theorem rankAt_fin {zs : List Nat} (h : zs.length ≤ 96) (j : Nat) : fin .f32 (rankAt zs j) = true :=
  rank_fin _ (by have := cntO_le .lt zs (zs.getD j 0) zs.length; omega) _ (by have := cntO_le .eq zs (zs.getD j 0) zs.length; omega)
theorem rankL_fin {zs : List Nat} (h : zs.length ≤ 96) : fins (rankL zs) = true := fins_tells fun j _ => rankAt_fin h j
theorem rankR_len (zs : List Nat) : (rankR zs).length ≤ 1048576 := by
  unfold rankR
  split
  · rename_i h
    have := (serB_t h).2.1
    unfold rankL
    rw [tells_len]
    omega
  · simp
theorem one_cn : cn .f32 1065353216 = 1065353216 := by decide +kernel
theorem half_cn : cn .f32 1056964608 = 1056964608 := by decide +kernel
theorem two_cn : cn .f32 1073741824 = 1073741824 := by decide +kernel
theorem inc_step {r n : Nat} (hr : cn .f32 r = i2f n) (hn : n < 97) (w : World) : cn .f32 (fopR .add .f32 r 1065353216 w) = i2f ((n + 1 : Nat) : Int) := by
  rw [cn_fopR, hr, one_cn, i2f_succ n hn]
theorem rank_word {l s : Nat} {rl rs : Nat} (hl : cn .f32 rl = i2f l) (hs : cn .f32 rs = i2f s) (hs2 : s < 97) (w1 w2 w3 : World) :
    cn .f32 (fopR .add .f32 (fopR .add .f32 rl (fopR .mul .f32 1056964608 rs w1) w2) 1056964608 w3) = rankZ l s := by
  rw [cn_fopR, cn_fopR, cn_fopR, hl, hs, half_cn, i2f_half s hs2]; rfl
theorem rank_word2 {l s : Nat} (hl : l < 97) (hs2 : s < 97) (w1 w2 w3 : World) :
    cn .f32 (fopR .add .f32 (fopR .add .f32 (floatOfInt .f32 l) (fopR .quo .f32 (floatOfInt .f32 s) 1073741824 w1) w2) 1056964608 w3) = rankZ l s := by
  rw [cn_fopR, cn_fopR, cn_fopR, half_cn, two_cn, show cn .f32 (floatOfInt .f32 l) = i2f l from i2f_cn l hl, show cn .f32 (floatOfInt .f32 s) = i2f s from i2f_cn s hs2]; rfl
theorem cnt_lt_lt {zs : List Nat} {x k : Nat} (h : ord (zs.getD k 0) x = some .lt) : cntO .lt zs x (k + 1) = cntO .lt zs x k + 1 ∧ cntO .eq zs x (k + 1) = cntO .eq zs x k := by
  constructor
  · show cntO .lt zs x k + _ = _; rw [h]; rfl
  · show cntO .eq zs x k + _ = _; rw [h]; rfl
theorem cnt_eq {zs : List Nat} {x k : Nat} (h : ord (zs.getD k 0) x = some .eq) : cntO .lt zs x (k + 1) = cntO .lt zs x k ∧ cntO .eq zs x (k + 1) = cntO .eq zs x k + 1 := by
  constructor
  · show cntO .lt zs x k + _ = _; rw [h]; rfl
  · show cntO .eq zs x k + _ = _; rw [h]; rfl
theorem cnt_no {zs : List Nat} {x k : Nat} (h1 : ord (zs.getD k 0) x ≠ some .lt) (h2 : ord (zs.getD k 0) x ≠ some .eq) : cntO .lt zs x (k + 1) = cntO .lt zs x k ∧ cntO .eq zs x (k + 1) = cntO .eq zs x k := by
  constructor
  · show cntO .lt zs x k + _ = _; rw [beq_false_of_ne h1]; rfl
  · show cntO .eq zs x k + _ = _; rw [beq_false_of_ne h2]; rfl

/-- The closure of RanksOf. -/
theorem rank1_any (bl B0 B : Nat) (a : Option Addr) (len cap j : Nat) (zs : List Nat) (wr : World) (h : BoxI bl a len cap zs wr) (hj : j < len) (hl : zs.length = len) (hm : len ≤ 96) :
    Calls Try.prog 64 #[.int .i64 j, .pointer (some ⟨bl, 0, none⟩)] wr (Tells (rankAt zs) (fun _ => BoxI bl a len cap zs) B0 B j wr) := by
  have HI := Lib.hid h
  have hbx := h.1
  obtain ⟨b, off, rfl, hb, hc⟩ := h.2 (by omega)
  have HC := Lib.hid hc
  have hcj := hc j hj
  clear h hc hb
  have HR := Lib.hid (show ∀ x, zs.getD j 0 = x → ∀ w1 w2 w3, cn .f32 (fopR .add .f32 (fopR .add .f32 (floatOfInt .f32 (cntO .lt zs x len)) (fopR .quo .f32 (floatOfInt .f32 (cntO .eq zs x len)) 1073741824 w1) w2) 1056964608 w3) = rankAt zs j from fun x hx w1 w2 w3 => by
    unfold rankAt
    rw [hx, hl]
    exact rank_word2 (by have := cntO_le .lt zs x len; omega) (by have := cntO_le .eq zs x len; omega) w1 w2 w3)
  obtain ⟨x, hx⟩ : ∃ x, zs.getD j 0 = x := ⟨_, rfl⟩
  rw [hx] at hcj
  have HRx := Lib.hid (HR.out x hx)
  clear HR hx
  go_enter Try.func64, Try.ntmps64
  go_wp2
  go_loopw [4, 5, 7, 10] (fun l s y c w' => ∃ k n : Nat, k ≤ len ∧ c = .int .i64 k ∧ l = .int .i64 (cntO .lt zs x k) ∧ s = .int .i64 (cntO .eq zs x k) ∧ w' = wr.drewN n) (fun _ _ _ c _ => len - (intOf c).toNat)
  case atStart => exact ⟨0, 0, Nat.zero_le _, rfl, rfl, rfl, rfl⟩
  case round =>
    obtain ⟨k, n, hk, rfl, rfl, rfl, rfl⟩ := hrel
    have b1 := cntO_le .lt zs x k
    have b2 := cntO_le .eq zs x k
    by_cases hlt : k < len
    · have hck := HC.out k hlt
      cases ho : ord (zs.getD k 0) x with
      | none =>
        have hs := Lib.hid (cnt_no (k := k) (by rw [ho]; simp) (by rw [ho]; simp))
        unfold ord at ho
        generalize zs.getD k 0 = z at *
        go_wp2
        go_roundw
        case rel => exact ⟨k + 1, _, by omega, by go_num, by rw [hs.out.1], by rw [hs.out.2], rfl⟩
        case measure => simp [intOf]; omega
      | some o =>
        cases o with
        | lt =>
          have hs := Lib.hid (cnt_lt_lt ho)
          unfold ord at ho
          generalize zs.getD k 0 = z at *
          go_wp2
          go_roundw
          case rel => exact ⟨k + 1, _, by omega, by go_num, by rw [hs.out.1]; go_num, by rw [hs.out.2], rfl⟩
          case measure => simp [intOf]; omega
        | eq =>
          have hs := Lib.hid (cnt_eq ho)
          unfold ord at ho
          generalize zs.getD k 0 = z at *
          go_wp2
          go_roundw
          case rel => exact ⟨k + 1, _, by omega, by go_num, by rw [hs.out.1], by rw [hs.out.2]; go_num, rfl⟩
          case measure => simp [intOf]; omega
        | gt =>
          have hs := Lib.hid (cnt_no (k := k) (by rw [ho]; simp) (by rw [ho]; simp))
          unfold ord at ho
          generalize zs.getD k 0 = z at *
          go_wp2
          go_roundw
          case rel => exact ⟨k + 1, _, by omega, by go_num, by rw [hs.out.1], by rw [hs.out.2], rfl⟩
          case measure => simp [intOf]; omega
    · obtain rfl : k = len := by omega
      go_wp2
      go_ret
      exact ⟨_, rfl, HRx.out _ _ _, HI.out.keep (B := bl + 1) (by omega) (below_drewN (Below.refl _ _) _), below_drewN (Below.refl _ _) _, rfl⟩

theorem implRnk_any (a : Option Addr) (len cap : Nat) (zs : List Nat) (w : World) (h : FSl w a len zs) (hm : len ≤ 1048576) :
    Calls Try.prog 37 #[.slice a len cap] w (RetOB 26 (rankR zs) (serB zs) w) := by
  have hmf : ∀ (fn : Fn) (first cap : Array Value) (w : World), (Instr.makeFunc fn first cap).run Try.prog w = .ok (.func fn first cap) w := fun _ _ _ _ => rfl
  have H := Lib.hid h
  have HL := Lib.hid h.1
  clear h
  cases hs : serB zs
  · have HS := Lib.hid hs
    have HB := Lib.hid (show rankR zs = [] by unfold rankR; rw [hs]; rfl)
    clear hs
    go_enter Try.func37, Try.ntmps37
    go_wp2_with (go_at_call 17; refine (implSeries_any _ _ _ _ _ (FSl.below H.out ((Below.refl _ _).alloc (Nat.le_refl _) _)) hm).mono ?_; rw [HS.out]; rintro e w' ⟨m, rfl, rfl⟩)
    go_ret2
    exact fail_ob _ rfl HB.out (below_drewN ((Below.refl _ _).alloc (Nat.le_refl _) _) _)
  · have HS := Lib.hid hs
    have hl := (serB_t hs).2.1
    rw [HL.out] at hl
    have HB := Lib.hid (show rankR zs = rankL zs by unfold rankR; rw [hs]; rfl)
    have HF := Lib.hid (rankL_fin (zs := zs) (by rw [HL.out]; exact hl))
    clear hs
    go_enter Try.func37, Try.ntmps37
    go_wp2_with (go_at_call 17; refine (implSeries_any _ _ _ _ _ (FSl.below H.out ((Below.refl _ _).alloc (Nat.le_refl _) _)) hm).mono ?_; rw [HS.out]; rintro e w' ⟨m, rfl, rfl⟩)
    have HI := Lib.hid ((BoxI.start (cap := cap) (t := 22) H.out).keep (Nat.lt_succ_self _) (below_drewN (Below.refl _ _) m))
    refine (places_any 64 #[.pointer (some ⟨w.heap.size, 0, none⟩)] (rankAt zs) (fun _ => BoxI w.heap.size a len cap zs) w.heap.size len _ (enter_of Try.func64 (by kernel_rfl) rfl) hm (by simp) HI.out (fun k wr wr' h hb => h.keep (by simp) hb) (fun k wr hk hsz hI => rank1_any _ _ _ _ _ _ _ _ _ hI hk HL.out hl)).mono ?_
    rintro e w1 ⟨v, rs, rfl, ho, hx, hb⟩
    have HO := Lib.hid (ho.mono (show w.heap.size ≤ _ by simp))
    have HE := Lib.hid (show tells (rankAt zs) len = rankL zs by unfold rankL; rw [HL.out])
    have HX := Lib.hid (show cnl rs = rankR zs by rw [hx, HE.out, HB.out]; unfold lstR; rw [HF.out]; rfl)
    have HBl := Lib.hid ((below_drewN ((Below.refl w.heap.size w).alloc (Nat.le_refl _) _) m).trans hb)
    have HT := Lib.hid (show fins (tells (rankAt zs) len) = true by rw [HE.out]; exact HF.out)
    rw [HT.out]
    clear ho hx hb
    go_wp2
    go_ret2
    exact ⟨v, rs, rfl, HO.out, HX.out, HBl.out⟩

set_option maxHeartbeats 4000000 in
theorem ranks_any (a : Option Addr) (len cap : Nat) (zs : List Nat) (w : World) (h : FSl w a len zs) (hl : len ≤ 96) :
    Calls Try.prog 63 #[.slice a len cap] w (RetO 26 (rankL zs) w) := by
  obtain ⟨i0, hi, hz0, hz1, hz2⟩ := info_parts Try.infoR
  have H := Lib.hid h
  have HL := Lib.hid h.1
  have HN := Lib.hid (FOwn.made (T := 26) w (Nat.le_refl _))
  clear h
  go_enter Try.func63, Try.ntmps63
  go_wp2
  go_loopw [3, 4] (fun v i wr => ∃ (j : Nat) (rs : List Nat), j ≤ len ∧ i = .int .i64 j ∧ Hid (rs.length = j) ∧ Hid (FOwn 26 w.heap.size wr v rs) ∧ Hid (cnl rs = tells (rankAt zs) j) ∧ Hid (Below w.heap.size w wr)) (fun _ i _ => len - (intOf i).toNat)
  case atStart => exact ⟨0, [], Nat.zero_le _, rfl, Lib.hid rfl, HN, Lib.hid rfl, Lib.hid ((Below.refl _ _).alloc (Nat.le_refl _) _)⟩
  case round =>
    rename_i wr
    obtain ⟨j, rs, hj, rfl, hrl, hown, hrs, hbel⟩ := hrel
    by_cases hjlt : j < len
    · obtain ⟨b, off, rfl, hb, hc⟩ := H.out.at (by omega)
      have HC := Lib.hid (show ∀ k, k < len → wr.cell? ⟨b, off + k, none⟩ = some (.float .f32 (zs.getD k 0)) from fun k hk => (hbel.out.cell (p := ⟨b, off + k, none⟩) hb).trans (hc k hk))
      have hsz := hbel.out.size
      have hrk : rs.length ≤ 1048576 := by have := hrl.out; omega
      have hcj := HC.out j hjlt
      have HR := Lib.hid (show ∀ x, zs.getD j 0 = x → ∀ rl r2, cn .f32 rl = i2f (cntO .lt zs x len) → cn .f32 r2 = i2f (cntO .eq zs x len) → ∀ w1 w2 w3, cnl (rs ++ [fopR .add .f32 (fopR .add .f32 rl (fopR .mul .f32 1056964608 r2 w1) w2) 1056964608 w3]) = tells (rankAt zs) (j + 1) from fun x hx rl r2 h1 h2 w1 w2 w3 => by
        refine (cnl_snoc hrs.out ?_).trans (tells_succ _ j).symm
        unfold rankAt
        rw [hx, HL.out]
        exact rank_word h1 h2 (by have := cntO_le .eq zs x len; omega) w1 w2 w3)
      obtain ⟨x, hx⟩ : ∃ x, zs.getD j 0 = x := ⟨_, rfl⟩
      rw [hx] at hcj
      have HRx := Lib.hid (HR.out x hx)
      clear HR hx hc hb H
      go_wp2
      go_loopw [5, 6, 7] (fun l s c w' => ∃ k n rl r2 : Nat, k ≤ len ∧ c = .int .i64 k ∧ l = .float .f32 rl ∧ s = .float .f32 r2 ∧ Hid (cn .f32 rl = i2f (cntO .lt zs x k)) ∧ Hid (cn .f32 r2 = i2f (cntO .eq zs x k)) ∧ w' = wr.drewN n) (fun _ _ c _ => len - (intOf c).toNat)
      case atStart => exact ⟨0, 0, 0, 0, Nat.zero_le _, rfl, rfl, rfl, Lib.hid i2f_zero, Lib.hid i2f_zero, rfl⟩
      case round =>
        obtain ⟨k, n, rl, r2, hk, rfl, rfl, rfl, h1, h2, rfl⟩ := hrel
        have b1 := cntO_le .lt zs x k
        have b2 := cntO_le .eq zs x k
        by_cases hlt : k < len
        · have hck := HC.out k hlt
          have I1 := Lib.hid (fun W => inc_step h1.out (by omega) W)
          have I2 := Lib.hid (fun W => inc_step h2.out (by omega) W)
          cases ho : ord (zs.getD k 0) x with
          | none =>
            have hs := Lib.hid (cnt_no (k := k) (by rw [ho]; simp) (by rw [ho]; simp))
            unfold ord at ho
            generalize zs.getD k 0 = z at *
            go_wp2
            go_quiet (fail)
            go_wp2
            go_quiet (fail)
            go_wp2
            go_roundw
            case rel => exact ⟨k + 1, _, _, _, by omega, by go_num, rfl, rfl, Lib.hid (by rw [hs.out.1]; exact h1.out), Lib.hid (by rw [hs.out.2]; exact h2.out), rfl⟩
            case measure => simp [intOf]; omega
          | some o =>
            cases o with
            | lt =>
              have hs := Lib.hid (cnt_lt_lt ho)
              unfold ord at ho
              generalize zs.getD k 0 = z at *
              go_wp2
              go_quiet (fail)
              go_wp2
              go_quiet (fail)
              go_wp2
              go_roundw
              case rel => exact ⟨k + 1, _, _, _, by omega, by go_num, rfl, rfl, Lib.hid (by rw [hs.out.1]; exact I1.out _), Lib.hid (by rw [hs.out.2]; exact h2.out), rfl⟩
              case measure => simp [intOf]; omega
            | eq =>
              have hs := Lib.hid (cnt_eq ho)
              unfold ord at ho
              generalize zs.getD k 0 = z at *
              go_wp2
              go_quiet (fail)
              go_wp2
              go_quiet (fail)
              go_wp2
              go_roundw
              case rel => exact ⟨k + 1, _, _, _, by omega, by go_num, rfl, rfl, Lib.hid (by rw [hs.out.1]; exact h1.out), Lib.hid (by rw [hs.out.2]; exact I2.out _), rfl⟩
              case measure => simp [intOf]; omega
            | gt =>
              have hs := Lib.hid (cnt_no (k := k) (by rw [ho]; simp) (by rw [ho]; simp))
              unfold ord at ho
              generalize zs.getD k 0 = z at *
              go_wp2
              go_quiet (fail)
              go_wp2
              go_quiet (fail)
              go_wp2
              go_roundw
              case rel => exact ⟨k + 1, _, _, _, by omega, by go_num, rfl, rfl, Lib.hid (by rw [hs.out.1]; exact h1.out), Lib.hid (by rw [hs.out.2]; exact h2.out), rfl⟩
              case measure => simp [intOf]; omega
        · obtain rfl : k = len := by omega
          have hcz := Lib.hid (HRx.out rl r2 h1.out h2.out)
          clear h1 h2 HC hcj HRx
          go_wp2_with (at_builtin; refine wpList_append_own _ rfl _ _ 22 rfl w.heap.size 26 i0 (.float .f32 0) 1 4 Try.underlying22 hi hz0 hz1 hz2 rfl (by decide) _ _ _ rfl (World.ownsRow.alloc (FOwn.drewN hown.out _) _) ⟨wr.heap.size, 0, none⟩ 1 1 [_] rfl rfl (one_new rfl) ?c2 ?c3 ?c4 ?c5 ?_)
          case c2 => intro u hu; simp at hu; subst hu; rfl
          case c3 => unfold maxLen; omega
          case c4 => omega
          case c5 => simp; show w.heap.size ≤ wr.heap.size + 1; omega
          intro v' w1 hown' hgrow _
          have R := FOwn.push hown.out hbel.out hsz hown' hgrow
          have hR := Lib.hid R
          have hrl2 := Lib.hid hrl.out
          clear R hown' hgrow hown hbel hrs hrl
          go_wp2
          go_roundw
          case rel =>
            refine ⟨j + 1, _, by omega, by go_num, ?_, Lib.hid hR.out.1, Lib.hid (hcz.out _ _ _), Lib.hid hR.out.2⟩
            exact Lib.hid (by rw [List.length_append, hrl2.out]; rfl)
          case measure => simp [intOf]; omega
    · have hfin := Lib.hid (show cnl rs = rankL zs by unfold rankL; rw [hrs.out, HL.out, show j = len by omega])
      clear hrs H
      go_wp2
      go_ret
      exact ⟨_, rs, rfl, hown.out, hfin.out, hbel.out⟩
theorem specRnk_any (a : Option Addr) (len cap : Nat) (zs : List Nat) (w : World) (h : FSl w a len zs) (hm : len ≤ 1048576) :
    Calls Try.prog 36 #[.slice a len cap] w (RetOB 26 (rankR zs) (serB zs) w) := by
  have H := Lib.hid h
  have HL := Lib.hid h.1
  clear h
  cases hs : serB zs
  · have HS := Lib.hid hs
    have HB := Lib.hid (show rankR zs = [] by unfold rankR; rw [hs]; rfl)
    clear hs
    go_enter Try.func36, Try.ntmps36
    go_wp2_with (go_at_call 44; refine (specSeries_any _ _ _ _ _ H.out hm).mono ?_; rw [HS.out]; rintro e w' ⟨m, rfl, rfl⟩)
    go_ret2
    exact fail_ob _ rfl HB.out (below_drewN (Below.refl _ _) _)
  · have HS := Lib.hid hs
    have hl := (serB_t hs).2.1
    rw [HL.out] at hl
    have HB := Lib.hid (show rankR zs = rankL zs by unfold rankR; rw [hs]; rfl)
    clear hs
    go_enter Try.func36, Try.ntmps36
    go_wp2_with fail
    refine (specSeries_any _ _ _ _ _ H.out hm).mono ?_
    rw [HS.out]
    rintro e w' ⟨m, rfl, rfl⟩
    go_wp2_with fail
    refine (ranks_any _ _ _ _ _ (FSl.drewN H.out m) hl).mono ?_
    rintro e w1 ⟨v, rs, rfl, hown, hrs, hbel⟩
    have HO := Lib.hid (show FOwn 26 w.heap.size w1 v rs from hown)
    have HX := Lib.hid (hrs.trans HB.out.symm)
    have HBl := Lib.hid ((below_drewN (Below.refl w.heap.size w) m).trans hbel)
    clear hown hrs hbel
    go_wp2
    go_ret2
    exact ⟨v, rs, rfl, HO.out, HX.out, HBl.out⟩
end Go.Proofs.Ytnjmkleodaadbaa
