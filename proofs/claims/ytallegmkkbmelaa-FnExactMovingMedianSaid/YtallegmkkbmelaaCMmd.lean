/-
  MovingMedian, in both packages.
-/
import Derived.Test.YtallegmkkbmelaaCMed
import Derived.Test.YtallegmkkbmelaaCMov
namespace Go.Proofs.Ytallegmkkbmelaa
open Ieee Go.RowKit
set_option linter.unusedVariables false

theorem FOwn.keepB {T : TypeId} {B : Nat} {wr wa : World} {v : Value} {rs : List Nat} (h : FOwn T B wr v rs) (hb : Below wr.heap.size wr wa) (_hB : B ≤ wr.heap.size) : FOwn T B wa v rs := by
  have hl := h.lt
  refine ⟨h.1, ?_⟩
  rcases h.2 with h2 | ⟨g, cap, cur, rfl, h3, h4, h5⟩
  · exact .inl h2
  · exact .inr ⟨g, cap, cur, rfl, h3, by rw [hb.block g (hl g rfl).2]; exact h4, h5⟩
def mmdZ (zs : List Nat) (s k : Nat) : List Nat := tells (fun j => med32 (win zs s j)) k
set_option maxHeartbeats 1000000 in
theorem specMmd_any (a : Option Addr) (len cap : Nat) (zs : List Nat) (q : Int) (w : World) (h : FSl w a len zs) (hm : len ≤ 1048576) (hcap : len ≤ cap) (hcap2 : cap ≤ 9223372036854775807) :
    Calls Try.prog 17 #[.slice a len cap, .int .i64 q] w (RetOB 23 (winR med32 zs q) (winB med32 zs q) w) := by
  obtain ⟨i0, hi, hz0, hz1, hz2⟩ := info_parts Try.infoR
  have H := Lib.hid h
  have HL := Lib.hid h.1
  clear h
  cases hB : movB0 zs q
  · have HB := Lib.hid (win_bad (tell := med32) hB)
    cases hs : serB zs
    · have HS := Lib.hid hs
      clear hs hB
      go_enter Try.func17, Try.ntmps17
      go_wp2_with (go_at_call 29; refine (specSeries_any _ _ _ _ _ H.out hm).mono ?_; rw [HS.out]; rintro e w' ⟨m, rfl, rfl⟩)
      go_ret2
      exact fail_ob _ HB.out.1 HB.out.2 (below_drewN (Below.refl _ _) _)
    · have hq := movB_f hB hs
      have HS := Lib.hid hs
      clear hs hB
      go_enter Try.func17, Try.ntmps17
      go_wp2_with fail
      refine (specSeries_any _ _ _ _ _ H.out hm).mono ?_
      rw [HS.out]
      rintro e w' ⟨m, rfl, rfl⟩
      go_wp2_with fail
      refine (in_no _ _ _ _ hq).mono ?_
      rintro e w' ⟨rfl, rfl⟩
      go_wp2
      go_ret2
      exact fail_ob _ HB.out.1 HB.out.2 (below_drewN (Below.refl _ _) _)
  · obtain ⟨hs, hq1, hq2, hq3⟩ := movB_t hB
    obtain ⟨s, rfl⟩ : ∃ n : Nat, q = n := ⟨q.toNat, by omega⟩
    rw [HL.out] at hq3
    have HS := Lib.hid hs
    have HB := Lib.hid (win_good (tell := med32) hB)
    have hl1 : 1 ≤ len := by have := (serB_t hs).1; rw [HL.out] at this; exact this
    clear hs hB
    have hs96 : s ≤ 96 := by omega
    obtain ⟨b, off, rfl, hb, -⟩ := H.out.at (by omega)
    go_enter Try.func17, Try.ntmps17
    go_wp2_with fail
    refine (specSeries_any _ _ _ _ _ H.out hm).mono ?_
    rw [HS.out]
    rintro e w' ⟨m, rfl, rfl⟩
    go_wp2_with fail
    refine (in_yes _ _ _ _ hq1 hq2).mono ?_
    rintro e w' ⟨rfl, rfl⟩
    have HN := Lib.hid (FOwn.made (T := 23) (B := w.heap.size) (w.drewN m) (Nat.le_refl _))
    have HB0 := Lib.hid ((below_drewN (Below.refl w.heap.size w) m).alloc (Nat.le_refl _) (.cells #[] 23))
    go_wp2
    go_loopw [6, 7] (fun v i wr => ∃ (k : Nat) (rs : List Nat), k ≤ len ∧ i = .int .i64 k ∧ Hid (rs.length = k) ∧ Hid (FOwn 23 w.heap.size wr v rs) ∧ Hid (cnl rs = mmdZ zs s k) ∧ Hid (Below w.heap.size w wr)) (fun _ i _ => len - (intOf i).toNat)
    case atStart => exact ⟨0, [], Nat.zero_le _, rfl, Lib.hid rfl, HN, Lib.hid rfl, HB0⟩
    case round =>
      rename_i wr
      obtain ⟨k, rs, hk, rfl, hrl, hown, hrs, hbel⟩ := hrel
      by_cases hlt : k < len
      · have HC := Lib.hid (show FSl wr (some ⟨b, off + (k - s), none⟩) (min (k + s + 1) len - (k - s)) (win zs s k) by
          unfold win; rw [HL.out]; exact FSl.below (FSl.cut H.out (by omega) (by omega)) hbel.out)
        have HWs := Lib.hid (win_ser (s := s) HS.out (by rw [HL.out]; exact hlt))
        have hcs := Lib.hid (show ∀ r, cn .f32 r = med32 (win zs s k) → cnl (rs ++ [r]) = mmdZ zs s (k + 1) from fun r hr => (cnl_snoc hrs.out hr).trans (tells_succ _ k).symm)
        have hsz := hbel.out.size
        have hrk : rs.length ≤ 1048576 := by have := hrl.out; omega
        go_wp2_with fail
        refine (near_any _ _ _ _ _ _ _ hlt hs96 (by omega) hcap hcap2).mono ?_
        rintro e w' ⟨rfl, rfl⟩
        go_wp2_with fail
        refine (l02Med_any _ _ _ _ _ HC.out (by omega) HWs.out).mono ?_
        rintro e wa ⟨r, hr, rfl, hba⟩
        have hcz := Lib.hid (hcs.out _ hr)
        have hown2 := Lib.hid (hown.out.keepB hba hsz)
        have hbel2 := Lib.hid (hbel.out.trans (hba.mono hsz))
        have hsz2 := hbel2.out.size
        clear hr hcs HC HWs hown hbel hba
        go_wp2_with (at_builtin; refine wpList_append_own _ rfl _ _ 22 rfl w.heap.size 23 i0 (.float .f32 0) 1 4 Try.underlying22 hi hz0 hz1 hz2 rfl (by decide) _ _ _ rfl (World.ownsRow.alloc hown2.out _) ⟨wa.heap.size, 0, none⟩ 1 1 [_] rfl rfl (one_new rfl) ?c2 ?c3 ?c4 ?c5 ?_)
        case c2 => intro u hu; simp at hu; subst hu; rfl
        case c3 => unfold maxLen; omega
        case c4 => omega
        case c5 => simp; omega
        intro v' w1 hown' hgrow _
        have R := FOwn.push (n := 0) hown2.out hbel2.out hsz2 hown' hgrow
        have hR := Lib.hid R
        have hrl2 := Lib.hid hrl.out
        clear R hown' hgrow hown2 hbel2 hrs hrl
        go_wp2
        go_roundw
        case rel =>
          refine ⟨k + 1, _, by omega, by go_num, ?_, Lib.hid hR.out.1, hcz, Lib.hid hR.out.2⟩
          exact Lib.hid (by rw [List.length_append, hrl2.out]; rfl)
        case measure => simp [intOf]; omega
      · have hfin := Lib.hid (show cnl rs = winL med32 zs s by unfold winL; rw [hrs.out, HL.out, Int.toNat_natCast, show k = len by omega]; rfl)
        have hrk : rs.length ≤ 1048576 := by have := hrl.out; omega
        obtain ⟨A, cp, rfl, hsl, _⟩ := hown.out.sl
        have HSL := Lib.hid hsl
        clear hrs hsl
        go_wp2_with fail
        refine (specList_any 23 _ _ rs (winL med32 zs s) _ w _ rfl HSL.out hfin.out hrk hown.out hbel.out).mono ?_
        rintro e w2 ⟨v, rs', rfl, ho, hx', hb'⟩
        have HO := Lib.hid ho
        have HX := Lib.hid hx'
        have HBB := Lib.hid hb'
        clear ho hx' hb'
        go_wp2
        go_ret2
        exact ⟨v, rs', by rw [HB.out.1]; rfl, HO.out, HX.out.trans HB.out.2.symm, HBB.out⟩

theorem med_tells (A : Option Addr) (n cap : Nat) (ys : List Nat) (wr : World) (h : FSl wr A n ys) (hs : serB ys = true) (_h1 : n ≤ cap) (_h2 : cap ≤ 1048576) :
    Calls Try.prog 12 #[.slice A n cap] wr (TellsW med32 ys wr) := by
  have hB : medB ys = fin .f32 (med32 ys) := by unfold medB; rw [hs]; rfl
  refine (implMed_any A n cap ys wr h (by omega)).mono ?_
  rw [hB]
  rintro e w' ⟨r, hr, rfl, hb⟩
  refine ⟨r, rfl, fun hf => ?_, hb⟩
  rw [hr]
  unfold medR
  rw [hB, hf]
  rfl
theorem implMmd_any (a : Option Addr) (len cap : Nat) (zs : List Nat) (q : Int) (w : World) (h : FSl w a len zs) (hm : len ≤ 1048576) (hcap : len ≤ cap) (hcap2 : cap ≤ 9223372036854775807) :
    Calls Try.prog 18 #[.slice a len cap, .int .i64 q] w (RetOB 23 (winR med32 zs q) (winB med32 zs q) w) := by
  have H := Lib.hid h
  clear h
  go_enter Try.func18, Try.ntmps18
  go_wp2_with fail
  refine (windows_any 12 med32 (enter_of Try.func12 (by kernel_rfl) rfl) med_tells _ _ _ _ _ _ H.out hm hcap hcap2).mono ?_
  rintro e w1 ⟨v, rs, rfl, ho, hx, hb⟩
  have HO := Lib.hid ho
  have HX := Lib.hid hx
  have HBl := Lib.hid hb
  clear ho hx hb
  go_wp2
  go_ret2
  exact ⟨v, rs, rfl, HO.out, HX.out, HBl.out⟩
theorem mmdR_len (zs : List Nat) (a : Int) : (winR med32 zs a).length ≤ 1048576 := by
  unfold winR
  split
  · rename_i h
    obtain ⟨_, h1, h2, h3⟩ := movB_t h
    unfold lstR
    split
    · unfold winL
      rw [tells_len]
      omega
    · simp
  · simp
end Go.Proofs.Ytallegmkkbmelaa
