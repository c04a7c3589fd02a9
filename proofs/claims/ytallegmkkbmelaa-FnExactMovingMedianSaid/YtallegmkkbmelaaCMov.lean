/-
  MovingMean, in both packages.
-/
import Derived.Test.YtallegmkkbmelaaCBox
import Derived.Test.YtallegmkkbmelaaCMea
import Derived.Deep.QuietTactic
import Derived.BigQuiet
namespace Go.Proofs.Ytallegmkkbmelaa
open Ieee Go.RowKit
set_option linter.unusedVariables false

/-- The numbers around place j, from s before to s behind. -/
def win (zs : List Nat) (s j : Nat) : List Nat := (zs.drop (j - s)).take (min (j + s + 1) zs.length - (j - s))
theorem win_len {zs : List Nat} {s j : Nat} (h : j < zs.length) : (win zs s j).length = min (j + s + 1) zs.length - (j - s) ∧ 1 ≤ (win zs s j).length ∧ (win zs s j).length ≤ zs.length := by
  unfold win
  rw [List.length_take, List.length_drop]
  omega
theorem fins_part {zs : List Nat} (h : fins zs = true) (i n : Nat) : fins ((zs.drop i).take n) = true := by
  unfold fins at *
  rw [List.all_eq_true] at *
  intro x hx
  exact h x (List.mem_of_mem_drop (List.mem_of_mem_take hx))
theorem win_ser {zs : List Nat} {s j : Nat} (h : serB zs = true) (hj : j < zs.length) : serB (win zs s j) = true := by
  obtain ⟨h1, h2, h3⟩ := serB_t h
  obtain ⟨_, a, b⟩ := win_len (s := s) hj
  unfold serB
  rw [decide_eq_true ⟨a, by omega⟩]
  exact fins_part h3 _ _
def movB0 (zs : List Nat) (a : Int) : Bool := serB zs && decide (0 ≤ a ∧ a ≤ 96)
theorem movB_t {zs : List Nat} {a : Int} (h : movB0 zs a = true) : serB zs = true ∧ 0 ≤ a ∧ a ≤ 96 ∧ zs.length ≤ 96 := by
  unfold movB0 at h
  have h1 := (Bool.and_eq_true _ _ ▸ h).1
  have h2 := of_decide_eq_true (Bool.and_eq_true _ _ ▸ h).2
  exact ⟨h1, h2.1, h2.2, (serB_t h1).2.1⟩
theorem movB_f {zs : List Nat} {a : Int} (h : movB0 zs a = false) (hs : serB zs = true) : a < 0 ∨ 96 < a := by
  unfold movB0 at h
  rw [hs] at h
  have := of_decide_eq_false (show decide (0 ≤ a ∧ a ≤ 96) = false from h)
  omega
def movZ (zs : List Nat) (s k : Nat) : List Nat := tells (fun j => mean32 (win zs s j)) k
def movL (zs : List Nat) (a : Int) : List Nat := movZ zs a.toNat zs.length
def movB (zs : List Nat) (a : Int) : Bool := movB0 zs a && fins (movL zs a)
def movR (zs : List Nat) (a : Int) : List Nat := if movB0 zs a then lstR (movL zs a) else []
theorem movR_len (zs : List Nat) (a : Int) : (movR zs a).length ≤ 1048576 := by
  unfold movR
  split
  · rename_i h
    obtain ⟨_, h1, h2, h3⟩ := movB_t h
    unfold lstR
    split
    · unfold movL movZ
      rw [tells_len]
      omega
    · simp
  · simp
theorem mov_bad {zs : List Nat} {a : Int} (h : movB0 zs a = false) : movB zs a = false ∧ movR zs a = [] := by unfold movB movR; rw [h]; exact ⟨rfl, rfl⟩
theorem mov_good {zs : List Nat} {a : Int} (h : movB0 zs a = true) : movB zs a = fins (movL zs a) ∧ movR zs a = lstR (movL zs a) := by unfold movB movR; rw [h]; exact ⟨rfl, rfl⟩

theorem slice_eq {b o o' n n' c c' : Nat} (h1 : o = o') (h2 : n = n') (h3 : c = c') : Value.slice (some ⟨b, o, none⟩) n c = Value.slice (some ⟨b, o', none⟩) n' c' := by rw [h1, h2, h3]
theorem near_any (b off len cap j s : Nat) (w : World) (hj : j < len) (hs : s ≤ 96) (hl : len ≤ 1048576) (hcap : len ≤ cap) (hcap2 : cap ≤ 9223372036854775807) :
    Calls Try.prog 38 #[.slice (some ⟨b, off, none⟩) len cap, .int .i64 j, .int .i64 s] w fun e w' => e = .returned (.slice (some ⟨b, off + (j - s), none⟩) (min (j + s + 1) len - (j - s)) (cap - (j - s))) ∧ w = w' := by
  rcases Nat.lt_or_ge s j with h1 | h1 <;> rcases Nat.lt_or_ge (j + s + 1) len with h2 | h2
  all_goals
    go_enter Try.func38, Try.ntmps38
    go_wp2
    go_ret
    exact ⟨congrArg Ending.returned (slice_eq (by omega) (by omega) (by omega)), rfl⟩

set_option maxHeartbeats 1000000 in
theorem moving_any (a : Option Addr) (len cap s : Nat) (zs : List Nat) (w : World) (h : FSl w a len zs) (hm : len ≤ 96) (hs : s ≤ 96) (hcap : len ≤ cap) (hcap2 : cap ≤ 9223372036854775807) :
    Calls Try.prog 41 #[.slice a len cap, .int .i64 s] w (RetO 23 (movZ zs s len) w) := by
  obtain ⟨i0, hi, hz0, hz1, hz2⟩ := info_parts Try.infoR
  have H := Lib.hid h
  have HL := Lib.hid h.1
  have HN := Lib.hid (FOwn.made (T := 23) w (Nat.le_refl _))
  clear h
  go_enter Try.func41, Try.ntmps41
  go_wp2
  go_loopw [5, 6] (fun v i wr => ∃ (k : Nat) (rs : List Nat), k ≤ len ∧ i = .int .i64 k ∧ Hid (rs.length = k) ∧ Hid (FOwn 23 w.heap.size wr v rs) ∧ Hid (cnl rs = movZ zs s k) ∧ Hid (Below w.heap.size w wr)) (fun _ i _ => len - (intOf i).toNat)
  case atStart => exact ⟨0, [], Nat.zero_le _, rfl, Lib.hid rfl, HN, Lib.hid rfl, Lib.hid ((Below.refl _ _).alloc (Nat.le_refl _) _)⟩
  case round =>
    rename_i wr
    obtain ⟨k, rs, hk, rfl, hrl, hown, hrs, hbel⟩ := hrel
    by_cases hlt : k < len
    · obtain ⟨b, off, rfl, hb, hc⟩ := H.out.at (by omega)
      have HC := Lib.hid (show FSl wr (some ⟨b, off + (k - s), none⟩) (min (k + s + 1) len - (k - s)) (win zs s k) by
        unfold win; rw [HL.out]; exact FSl.below (FSl.cut H.out (by omega) (by omega)) hbel.out)
      have hcs := Lib.hid (show ∀ r, cn .f32 r = mean32 (win zs s k) → cnl (rs ++ [r]) = movZ zs s (k + 1) from fun r hr => (cnl_snoc hrs.out hr).trans (tells_succ _ k).symm)
      have hsz := hbel.out.size
      have hrk : rs.length ≤ 1048576 := by have := hrl.out; omega
      clear hc hb H
      go_wp2_with fail
      refine (near_any _ _ _ _ _ _ _ hlt hs (by omega) hcap hcap2).mono ?_
      rintro e w' ⟨rfl, rfl⟩
      go_wp2_with fail
      refine (l02Mean_any _ _ _ _ _ HC.out (by omega)).mono ?_
      rintro e w' ⟨r, m2, hr, rfl, rfl⟩
      have hcz := Lib.hid (hcs.out _ hr)
      clear hr hcs HC
      go_wp2_with (at_builtin; refine wpList_append_own _ rfl _ _ 22 rfl w.heap.size 23 i0 (.float .f32 0) 1 4 Try.underlying22 hi hz0 hz1 hz2 rfl (by decide) _ _ _ rfl (World.ownsRow.alloc (FOwn.drewN hown.out _) _) ⟨wr.heap.size, 0, none⟩ 1 1 [_] rfl rfl (one_new rfl) ?c2 ?c3 ?c4 ?c5 ?_)
      case c2 => intro u hu; simp at hu; subst hu; rfl
      case c3 => unfold maxLen; omega
      case c4 => omega
      case c5 => simp; show w.heap.size ≤ wr.heap.size + 1; omega
      intro v' w1 hown' hgrow _
      have R := FOwn.push hown.out hbel.out hsz hown' hgrow
      have hR := Lib.hid R
      have hrl2 := Lib.hid hrl.out
      clear R hown' hgrow hown hbel hrs hrl
      go_wp2
      go_roundw
      case rel =>
        refine ⟨k + 1, _, by omega, by go_num, ?_, Lib.hid hR.out.1, hcz, Lib.hid hR.out.2⟩
        exact Lib.hid (by rw [List.length_append, hrl2.out]; rfl)
      case measure => simp [intOf]; omega
    · have hfin := Lib.hid (show cnl rs = movZ zs s len by rw [hrs.out, show k = len by omega])
      clear hrs H
      go_wp2
      go_ret
      exact ⟨_, rs, rfl, hown.out, hfin.out, hbel.out⟩

theorem fsl_eq {w : World} {b o o' n n' : Nat} {ys : List Nat} (h : FSl w (some ⟨b, o, none⟩) n ys) (h1 : o = o') (h2 : n = n') : FSl w (some ⟨b, o', none⟩) n' ys := by rw [← h1, ← h2]; exact h
/-- What is told of windows. -/
def winL (tell : List Nat → Nat) (zs : List Nat) (a : Int) : List Nat := tells (fun j => tell (win zs a.toNat j)) zs.length
def winB (tell : List Nat → Nat) (zs : List Nat) (a : Int) : Bool := movB0 zs a && fins (winL tell zs a)
def winR (tell : List Nat → Nat) (zs : List Nat) (a : Int) : List Nat := if movB0 zs a then lstR (winL tell zs a) else []
theorem win_bad {tell : List Nat → Nat} {zs : List Nat} {a : Int} (h : movB0 zs a = false) : winB tell zs a = false ∧ winR tell zs a = [] := by unfold winB winR; rw [h]; exact ⟨rfl, rfl⟩
theorem win_good {tell : List Nat → Nat} {zs : List Nat} {a : Int} (h : movB0 zs a = true) : winB tell zs a = fins (winL tell zs a) ∧ winR tell zs a = lstR (winL tell zs a) := by unfold winB winR; rw [h]; exact ⟨rfl, rfl⟩
/-- What a function over a window gives. -/
def TellsW (tell : List Nat → Nat) (ys : List Nat) (wr : World) (e : Ending) (w' : World) : Prop :=
  ∃ r, e = .returned (.tuple #[.float .f32 r, .bool (fin .f32 (tell ys))]) ∧ (fin .f32 (tell ys) = true → cn .f32 r = tell ys) ∧ Below wr.heap.size wr w'

set_option maxHeartbeats 8000000 in
set_option maxRecDepth 100000 in
theorem windows_any (K : FuncId) (tell : List Nat → Nat) (hen : ∀ args w, (callFunc K args).run Try.prog w = .ok (.enter K args) w)
    (hcl : ∀ A n cap' ys wr, FSl wr A n ys → serB ys = true → n ≤ cap' → cap' ≤ 1048576 → Calls Try.prog K #[.slice A n cap'] wr (TellsW tell ys wr))
    (a : Option Addr) (len cap : Nat) (zs : List Nat) (q : Int) (w : World) (h : FSl w a len zs) (hm : len ≤ 1048576) (hcap : len ≤ cap) (hcap2 : cap ≤ 9223372036854775807) :
    Calls Try.prog 40 #[.slice a len cap, .int .i64 q, .func (.func K) #[] #[]] w (RetOB 23 (winR tell zs q) (winB tell zs q) w) := by
  obtain ⟨i0, hi, hz0, hz1, hz2⟩ := info_parts Try.infoR
  have hmk := fun W => run_make_len (P := Try.prog) W 22 23 i0 (.float .f32 0) Try.underlying22 hi hz0 hz1 len (by rw [hz2]; omega) (by omega)
  clear hi hz0 hz1 hz2
  have H := Lib.hid h
  have HL := Lib.hid h.1
  have HC := Lib.hid hcl
  clear h hcl
  cases hB : movB0 zs q
  · have HB := Lib.hid (win_bad (tell := tell) hB)
    cases hs : serB zs
    · have HS := Lib.hid hs
      clear hs hB
      go_enter Try.func40, Try.ntmps40
      go_wp2_with (go_at_call 32; refine (implSeries_any _ _ _ _ _ H.out hm).mono ?_; rw [HS.out]; rintro e w' ⟨m, rfl, rfl⟩)
      go_ret2
      exact fail_ob _ HB.out.1 HB.out.2 (below_drewN (Below.refl _ _) _)
    · have hq := movB_f hB hs
      have HS := Lib.hid hs
      clear hs hB
      rcases hq with hq | hq
      · have hd : decide (q < 0) = true := decide_eq_true hq
        go_enter Try.func40, Try.ntmps40
        go_wp2_with (go_at_call 32; refine (implSeries_any _ _ _ _ _ H.out hm).mono ?_; rw [HS.out]; rintro e w' ⟨m, rfl, rfl⟩)
        go_ret2
        exact fail_ob _ HB.out.1 HB.out.2 (below_drewN (Below.refl _ _) _)
      · have hd : decide (q < 0) = false := decide_eq_false (by omega)
        have hd2 : decide (96 < q) = true := decide_eq_true hq
        go_enter Try.func40, Try.ntmps40
        go_wp2_with (go_at_call 32; refine (implSeries_any _ _ _ _ _ H.out hm).mono ?_; rw [HS.out]; rintro e w' ⟨m, rfl, rfl⟩)
        go_ret2
        exact fail_ob _ HB.out.1 HB.out.2 (below_drewN (Below.refl _ _) _)
  · obtain ⟨hs, hq1, hq2, hq3⟩ := movB_t hB
    obtain ⟨s, rfl⟩ : ∃ n : Nat, q = n := ⟨q.toNat, by omega⟩
    rw [HL.out] at hq3
    have hs1 : s ≤ 96 := by omega
    have HS := Lib.hid hs
    have HB := Lib.hid (win_good (tell := tell) hB)
    have hd : decide ((s : Int) < 0) = false := decide_eq_false (by omega)
    have hd2 : decide ((96 : Int) < (s : Int)) = false := decide_eq_false (by omega)
    clear hs hB
    go_enter Try.func40, Try.ntmps40
    go_wp2_with fail
    refine (implSeries_any _ _ _ _ _ H.out hm).mono ?_
    rw [HS.out]
    rintro e w' ⟨m, rfl, rfl⟩
    have HH := Lib.hid (Head.start (T := 23) (w := w.drewN m) (n := len) (by omega))
    have HB0 := Lib.hid ((below_drewN (Below.refl w.heap.size w) m).alloc (Nat.le_refl _) (.cells (madeCells (Value.float .f32 0).cells len) 23))
    go_wp2
    clear hmk
    go_loopw [30] (fun i wr => ∃ (k : Nat) (rs : List Nat), k ≤ len ∧ i = .int .i64 k ∧ Hid (rs.length = k) ∧ Hid (Head 23 w.heap.size len rs wr) ∧ Hid (cnl rs = tells (fun j => tell (win zs s j)) k) ∧ Hid (fins (tells (fun j => tell (win zs s j)) k) = true) ∧ Hid (Below w.heap.size w wr)) (fun i _ => len - (intOf i).toNat)
    case atStart => exact ⟨0, [], Nat.zero_le _, rfl, Lib.hid rfl, HH, Lib.hid rfl, Lib.hid rfl, HB0⟩
    case round =>
      rename_i wr
      obtain ⟨k, rs, hk, rfl, hrl, hhead, hrs, hfin, hbel⟩ := hrel
      by_cases hlt : k < len
      · obtain ⟨b, off, rfl, hb, hc⟩ := H.out.at (by omega)
        have HW := Lib.hid (show FSl wr (some ⟨b, off + (k - s), none⟩) (min (k + s + 1) len - (k - s)) (win zs s k) by
          unfold win; rw [HL.out]; exact FSl.below (FSl.cut H.out (by omega) (by omega)) hbel.out)
        have HWs := Lib.hid (win_ser (s := s) HS.out (by rw [HL.out]; exact hlt))
        clear hc hb H
        have hhd := hhead.out
        have HSt := Lib.hid (show ∀ (w1 : World) (r : Nat), Below wr.heap.size wr w1 → cn .f32 r = tell (win zs s k) → Head 23 w.heap.size len (rs ++ [r]) (w1.setCell ⟨w.heap.size, k, none⟩ (.float .f32 r)) ∧ cnl (rs ++ [r]) = tells (fun j => tell (win zs s j)) (k + 1) ∧ Below w.heap.size w (w1.setCell ⟨w.heap.size, k, none⟩ (.float .f32 r)) from fun w1 r hb1 hr =>
          ⟨by have := (hhd.same (hb1.block _ hhd.lt)).push (by rw [hrl.out]; exact hlt) r; rw [hrl.out] at this; exact this,
            (cnl_snoc hrs.out hr).trans (tells_succ _ k).symm, (hbel.out.trans (hb1.mono hbel.out.size)).setCell (Nat.le_refl _) _⟩)
        have HCell := Lib.hid (show ∀ w1 : World, Below wr.heap.size wr w1 → (∃ v, w1.cell? ⟨w.heap.size, k, none⟩ = some v) ∧ w1.frozen? ⟨w.heap.size, k, none⟩ = false from fun w1 hb1 => (hhd.same (hb1.block _ hhd.lt)).cell hlt)
        have HBad := Lib.hid (show ∀ w1 : World, Below wr.heap.size wr w1 → Below w.heap.size w w1 from fun w1 hb1 => hbel.out.trans (hb1.mono hbel.out.size))
        have HLn := Lib.hid (show ∀ r, (rs ++ [r]).length = k + 1 from fun r => by rw [List.length_append, hrl.out]; rfl)
        have HE := Lib.hid (show fin .f32 (tell (win zs s k)) = false → fins (winL tell zs s) = false from fun hf => by
          unfold winL
          rw [Int.toNat_natCast]
          exact tells_bad (k := k) (by rw [HL.out]; exact hlt) hf)
        have HM := Lib.hid (show fin .f32 (tell (win zs s k)) = true → fins (tells (fun j => tell (win zs s j)) (k + 1)) = true from fun hf => tells_more hfin.out hf)
        clear hhd hhead hrs hfin hbel hrl
        cases hf : fin .f32 (tell (win zs s k))
        · have HF := Lib.hid hf
          have HEE := Lib.hid (HE.out hf)
          clear hf HE HM HSt HLn HCell
          rcases (show s < k ∨ (s ≤ k ∧ k ≤ s) ∨ k < s by omega) with h1 | ⟨h1, h1'⟩ | h1 <;> rcases (show k + s + 1 < len ∨ (k + s + 1 ≤ len ∧ len ≤ k + s + 1) ∨ len < k + s + 1 by omega) with h2 | ⟨h2, h2'⟩ | h2
          all_goals
            go_wp2_with fail
            refine (HC.out _ _ _ _ _ (fsl_eq HW.out ?_ ?_) HWs.out ?_ ?_).mono ?_
            iterate 4 (next => omega)
            unfold TellsW
            rw [HF.out]
            rintro e w1 ⟨r, rfl, -, hb1⟩
            have HBb := Lib.hid (HBad.out _ hb1)
            clear hb1
            go_wp2
            go_ret2
            exact fail_ob _ (HB.out.1.trans HEE.out) (HB.out.2.trans (by unfold lstR; rw [HEE.out]; rfl)) HBb.out
        · have HF := Lib.hid hf
          have HMM := Lib.hid (HM.out hf)
          clear hf HE HM HBad
          rcases (show s < k ∨ (s ≤ k ∧ k ≤ s) ∨ k < s by omega) with h1 | ⟨h1, h1'⟩ | h1 <;> rcases (show k + s + 1 < len ∨ (k + s + 1 ≤ len ∧ len ≤ k + s + 1) ∨ len < k + s + 1 by omega) with h2 | ⟨h2, h2'⟩ | h2
          all_goals
            go_wp2_with fail
            refine (HC.out _ _ _ _ _ (fsl_eq HW.out ?_ ?_) HWs.out ?_ ?_).mono ?_
            iterate 4 (next => omega)
            unfold TellsW
            rw [HF.out]
            rintro e w1 ⟨r, rfl, hr, hb1⟩
            have HS1 := Lib.hid (HSt.out _ r hb1 (hr rfl))
            obtain ⟨⟨u, hcell⟩, hfz⟩ := HCell.out _ hb1
            have hLn := Lib.hid (HLn.out r)
            clear hb1 hr HSt HCell HLn
            go_wp2
            go_roundw
            case rel => exact ⟨k + 1, rs ++ [r], by omega, by go_num, hLn, Lib.hid HS1.out.1, Lib.hid HS1.out.2.1, HMM, Lib.hid HS1.out.2.2⟩
            case measure => simp [intOf]; omega
      · obtain rfl : k = len := by omega
        have HLL := Lib.hid (show tells (fun j => tell (win zs s j)) k = winL tell zs s by unfold winL; rw [HL.out, Int.toNat_natCast])
        have HFF := Lib.hid (show winB tell zs s = true by rw [HB.out.1, ← HLL.out]; exact hfin.out)
        have HO := Lib.hid (hhead.out.own hrl.out (Nat.le_refl _) (by unfold maxLen; omega))
        have HC2 := Lib.hid (show cnl rs = winR tell zs s by rw [HB.out.2]; unfold lstR; rw [← HLL.out, hfin.out]; exact hrs.out)
        clear hfin hhead hrs HC
        go_wp2
        go_ret2
        exact ⟨_, rs, by rw [HFF.out]; rfl, HO.out, HC2.out, hbel.out⟩
end Go.Proofs.Ytallegmkkbmelaa
