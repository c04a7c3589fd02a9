/-
  JoinSteps, in both packages.
-/
import Derived.Test.YtnjmkleodaadbaaCThi
import Derived.Test.YtnjmkleodaadbaaCMea
import Derived.Deep.QuietTactic
import Derived.BigQuiet
namespace Go.Proofs.Ytnjmkleodaadbaa
open Ieee Go.RowKit
set_option linter.unusedVariables false

def joinZ (zs : List Nat) (n k : Nat) : List Nat := tells (fun j => sum32 ((zs.drop (j * n)).take n)) k
def joinL (zs : List Nat) (a : Int) : List Nat := joinZ zs a.toNat (zs.length / a.toNat)
def joinB (zs : List Nat) (a : Int) : Bool := stepB zs a && fins (joinL zs a)
def joinR (zs : List Nat) (a : Int) : List Nat := if stepB zs a then lstR (joinL zs a) else []
theorem joinR_len (zs : List Nat) (a : Int) : (joinR zs a).length ≤ 1048576 := by
  unfold joinR
  split
  · rename_i h
    obtain ⟨_, h1, h2, h3⟩ := stepB_t h
    unfold lstR
    split
    · unfold joinL joinZ
      rw [tells_len]
      have := Nat.div_le_self zs.length a.toNat
      omega
    · simp
  · simp
theorem join_bad {zs : List Nat} {a : Int} (h : stepB zs a = false) : joinB zs a = false ∧ joinR zs a = [] := by unfold joinB joinR; rw [h]; exact ⟨rfl, rfl⟩
theorem join_good {zs : List Nat} {a : Int} (h : stepB zs a = true) : joinB zs a = fins (joinL zs a) ∧ joinR zs a = lstR (joinL zs a) := by unfold joinB joinR; rw [h]; exact ⟨rfl, rfl⟩
theorem join_end {zs : List Nat} {n k i : Nat} (hi : i = k * n) (h1 : i ≤ zs.length) (h2 : zs.length < i + n) : joinL zs n = joinZ zs n k := by
  unfold joinL
  rw [Int.toNat_natCast]
  congr 1
  subst hi
  refine Nat.div_eq_of_lt_le h1 ?_
  rw [Nat.succ_mul]
  exact h2

set_option maxHeartbeats 1000000 in
theorem specJoin_any (a : Option Addr) (len cap : Nat) (zs : List Nat) (q : Int) (w : World) (h : FSl w a len zs) (hm : len ≤ 1048576) (hcap : len ≤ cap) (hcap2 : cap ≤ 1048576) :
    Calls Try.prog 28 #[.slice a len cap, .int .i64 q] w (RetOB 26 (joinR zs q) (joinB zs q) w) := by
  obtain ⟨i0, hi, hz0, hz1, hz2⟩ := info_parts Try.infoR
  have H := Lib.hid h
  have HL := Lib.hid h.1
  clear h
  cases hB : stepB zs q
  · have HB := Lib.hid (join_bad hB)
    cases hs : serB zs
    · have HS := Lib.hid hs
      clear hs hB
      go_enter Try.func28, Try.ntmps28
      go_wp2_with (go_at_call 44; refine (specSeries_any _ _ _ _ _ H.out hm).mono ?_; rw [HS.out]; rintro e w' ⟨m, rfl, rfl⟩)
      go_ret2
      exact fail_ob _ HB.out.1 HB.out.2 (below_drewN (Below.refl _ _) _)
    · have hq := stepB_f hB hs
      rw [HL.out] at hq
      have HS := Lib.hid hs
      clear hs hB
      go_enter Try.func28, Try.ntmps28
      go_wp2_with fail
      refine (specSeries_any _ _ _ _ _ H.out hm).mono ?_
      rw [HS.out]
      rintro e w' ⟨m, rfl, rfl⟩
      go_wp2_with fail
      refine (in_no _ _ _ _ hq).mono ?_
      rintro e w' ⟨rfl, rfl⟩
      go_wp2
      go_ret2
      exact fail_ob _ HB.out.1 HB.out.2 (below_drewN (Below.refl _ _) _)
  · obtain ⟨hs, hq1, hq2, hq3⟩ := stepB_t hB
    obtain ⟨n, rfl⟩ : ∃ n : Nat, q = n := ⟨q.toNat, by omega⟩
    rw [HL.out] at hq2 hq3
    have HS := Lib.hid hs
    have HB := Lib.hid (join_good hB)
    clear hs hB
    have hn1 : 1 ≤ n := by omega
    go_enter Try.func28, Try.ntmps28
    go_wp2_with fail
    refine (specSeries_any _ _ _ _ _ H.out hm).mono ?_
    rw [HS.out]
    rintro e w' ⟨m, rfl, rfl⟩
    have HN := Lib.hid (FOwn.made (T := 26) (B := w.heap.size) (w.drewN m) (Nat.le_refl _))
    have HB0 := Lib.hid ((below_drewN (Below.refl w.heap.size w) m).alloc (Nat.le_refl _) (.cells #[] 26))
    go_wp2_with fail
    refine (in_yes _ _ _ _ hq1 hq2).mono ?_
    rintro e w' ⟨rfl, rfl⟩
    go_wp2
    go_loopw [6, 7] (fun v c wr => ∃ (k i : Nat) (rs : List Nat), i ≤ len ∧ c = .int .i64 i ∧ Hid (i = k * n) ∧ k ≤ i ∧ Hid (rs.length = k) ∧ Hid (FOwn 26 w.heap.size wr v rs) ∧ Hid (cnl rs = joinZ zs n k) ∧ Hid (Below w.heap.size w wr)) (fun _ c _ => len + n - (intOf c).toNat)
    case atStart => exact ⟨0, 0, [], by omega, rfl, Lib.hid (by simp), by omega, Lib.hid rfl, HN, Lib.hid rfl, HB0⟩
    case round =>
      rename_i wr
      obtain ⟨k, i, rs, hi2, rfl, hik, hki, hrl, hown, hrs, hbel⟩ := hrel
      by_cases hlt : i + n ≤ len
      · obtain ⟨b, off, rfl, hb, hc⟩ := H.out.at (by omega)
        have HC := Lib.hid (FSl.below (FSl.cut H.out (by omega) hlt) hbel.out)
        have hcs := Lib.hid (show ∀ r, cn .f32 r = sum32 ((zs.drop i).take n) → cnl (rs ++ [r]) = joinZ zs n (k + 1) from fun r hr => (cnl_snoc hrs.out (by rw [hr, hik.out])).trans (tells_succ (fun j => sum32 ((zs.drop (j * n)).take n)) k).symm)
        have hsz := hbel.out.size
        have hrk : rs.length ≤ 1048576 := by have := hrl.out; omega
        clear hc hb H
        go_wp2_with fail
        refine (l02Sum_any _ _ _ _ _ HC.out (by omega)).mono ?_
        rintro e w' ⟨r, m2, hr, rfl, rfl⟩
        have hcz := Lib.hid (hcs.out _ hr)
        clear hr hcs HC
        go_wp2_with (at_builtin; refine wpList_append_own _ rfl _ _ 22 rfl w.heap.size 26 i0 (.float .f32 0) 1 4 Try.underlying22 hi hz0 hz1 hz2 rfl (by decide) _ _ _ rfl (World.ownsRow.alloc (FOwn.drewN hown.out _) _) ⟨wr.heap.size, 0, none⟩ 1 1 [_] rfl rfl (one_new rfl) ?c2 ?c3 ?c4 ?c5 ?_)
        case c2 => intro u hu; simp at hu; subst hu; rfl
        case c3 => unfold maxLen; omega
        case c4 => omega
        case c5 => simp; show w.heap.size ≤ wr.heap.size + 1; omega
        intro v' w1 hown' hgrow _
        have R := FOwn.push hown.out hbel.out hsz hown' hgrow
        have hR := Lib.hid R
        have hrl2 := Lib.hid hrl.out
        have hik2 := Lib.hid (show i + n = (k + 1) * n by rw [hik.out, Nat.succ_mul])
        clear R hown' hgrow hown hbel hrs hrl hik
        go_wp2
        go_roundw
        case rel =>
          refine ⟨k + 1, i + n, _, by omega, by go_num, hik2, by omega, ?_, Lib.hid hR.out.1, hcz, Lib.hid hR.out.2⟩
          exact Lib.hid (by rw [List.length_append, hrl2.out]; rfl)
        case measure => simp [intOf]; omega
      · have hfin := Lib.hid (show cnl rs = joinL zs n by rw [hrs.out, join_end hik.out (by rw [HL.out]; omega) (by rw [HL.out]; omega)])
        have hrk : rs.length ≤ 1048576 := by have := hrl.out; omega
        obtain ⟨A, cp, rfl, hsl, _⟩ := hown.out.sl
        have HSL := Lib.hid hsl
        clear hrs H hsl
        go_wp2_with fail
        refine (specList_any 26 _ _ rs (joinL zs n) _ w _ rfl HSL.out hfin.out hrk hown.out hbel.out).mono ?_
        rintro e w1 ⟨v, rs', rfl, ho, hx', hb'⟩
        have HO := Lib.hid ho
        have HX := Lib.hid hx'
        have HBB := Lib.hid hb'
        clear ho hx' hb'
        go_wp2
        go_ret2
        exact ⟨v, rs', by rw [HB.out.1]; rfl, HO.out, HX.out.trans HB.out.2.symm, HBB.out⟩

/-- What a closure reads: a list in a box. -/
def JoinI (bs bl : Nat) (a : Option Addr) (len cap n : Nat) (zs : List Nat) (_k : Nat) (wr : World) : Prop := wr.cell? ⟨bs, 0, none⟩ = some (.int .i64 n) ∧ BoxI bl a len cap zs wr
theorem JoinI.keep {bs bl B : Nat} {a : Option Addr} {len cap n k : Nat} {zs : List Nat} {wr wr' : World} (h : JoinI bs bl a len cap n zs k wr) (h1 : bl < B) (h2 : bs < B) (hb : Below B wr wr') : JoinI bs bl a len cap n zs k wr' :=
  ⟨by rw [hb.cell (p := ⟨bs, 0, none⟩) h2]; exact h.1, h.2.keep h1 hb⟩
theorem join1_any (bs bl B0 B : Nat) (a : Option Addr) (len cap n k : Nat) (zs : List Nat) (wr : World) (h : JoinI bs bl a len cap n zs k wr) (hk : (k + 1) * n ≤ len) (hn : 1 ≤ n) (hl : zs.length = len) (hm : len ≤ 96) (hcap : len ≤ cap) (hcap2 : cap ≤ 1048576) :
    Calls Try.prog 59 #[.int .i64 k, .pointer (some ⟨bs, 0, none⟩), .pointer (some ⟨bl, 0, none⟩)] wr (Tells (fun j => sum32 ((zs.drop (j * n)).take n)) (JoinI bs bl a len cap n zs) B0 B k wr) := by
  have HI := Lib.hid h
  obtain ⟨hn0, hbx⟩ := h
  obtain ⟨p, hp⟩ : ∃ p : Nat, p = k * n := ⟨_, rfl⟩
  rw [Nat.succ_mul, ← hp] at hk
  have hkp : k ≤ p := by rw [hp]; exact Nat.le_mul_of_pos_right k hn
  have e1 : (k : Int) * (n : Int) = (p : Int) := by rw [hp]; simp
  have e2 : ((k : Int) + 1) * (n : Int) = (p : Int) + (n : Int) := by rw [Int.add_mul, e1, Int.one_mul]
  have HS := hbx.fsl hl
  obtain ⟨b, off, rfl, hb, hc⟩ := HS.at (by omega)
  have HC := Lib.hid (FSl.cut (i := p) (n := n) HS (by omega) hk)
  have HP := Lib.hid hp
  have hbx1 := hbx.1
  clear hbx HS hp hc
  have q0 : (0 : Int) ≤ (p : Int) := by omega
  have q1 : (p : Int) + (n : Int) ≤ 96 := by omega
  go_enter Try.func59, Try.ntmps59
  go_wp2
  go_region
  all_goals
    go_wp2_with fail
    refine (implSumNumbers_any _ _ _ _ _ (FSl.drewN HC.out _) (by omega)).mono ?_
    rintro e w' ⟨r, m, hr, rfl, rfl⟩
    have hR := Lib.hid hr
    clear hr
    go_wp2
    go_ret
    exact ⟨r, rfl, by rw [hR.out, if_pos (by omega), HP.out], HI.out.keep (B := bl + bs + 1) (by omega) (by omega) (below_drewN (Below.refl _ _) _), below_drewN (Below.refl _ _) _, rfl⟩
theorem join_rows {zs : List Nat} {n len k : Nat} (hn : 1 ≤ n) (hk : k < len / n) : (k + 1) * n ≤ len :=
  Nat.le_trans (Nat.mul_le_mul_right n hk) (Nat.div_mul_le_self len n)
theorem JoinI.start {w : World} {a : Option Addr} {len cap m n : Nat} {zs : List Nat} {t t' : TypeId} (h : FSl w a len zs) :
    JoinI (w.heap.size + 1) w.heap.size a len cap n zs 0 (((w.alloc (.cells #[.slice a len cap] t)).drewN m).alloc (.cells #[.int .i64 n] t')) := by
  refine ⟨?_, ((BoxI.start h).keep (Nat.lt_succ_self _) (((below_drewN (Below.refl _ _) m).alloc (Nat.le_of_eq (by simp)) _)))⟩
  rw [World.cell?_alloc_at _ _ _ _ (by simp)]; rfl
theorem implJoin_any (a : Option Addr) (len cap : Nat) (zs : List Nat) (q : Int) (w : World) (h : FSl w a len zs) (hm : len ≤ 1048576) (hcap : len ≤ cap) (hcap2 : cap ≤ 1048576) :
    Calls Try.prog 29 #[.slice a len cap, .int .i64 q] w (RetOB 26 (joinR zs q) (joinB zs q) w) := by
  have hmf : ∀ (fn : Fn) (first cap : Array Value) (w : World), (Instr.makeFunc fn first cap).run Try.prog w = .ok (.func fn first cap) w := fun _ _ _ _ => rfl
  have H := Lib.hid h
  have HL := Lib.hid h.1
  clear h
  cases hB : stepB zs q
  · have HB := Lib.hid (join_bad hB)
    have HS := Lib.hid hB
    clear hB
    go_enter Try.func29, Try.ntmps29
    go_wp2_with (go_at_call 58; refine (implSteps_any _ _ _ _ _ _ (FSl.below H.out ((Below.refl _ _).alloc (Nat.le_refl _) _)) hm).mono ?_; rw [HS.out]; rintro e w' ⟨m, rfl, rfl⟩)
    go_ret2
    exact fail_ob _ HB.out.1 HB.out.2 (below_drewN ((Below.refl _ _).alloc (Nat.le_refl _) _) _)
  · obtain ⟨hs, hq1, hq2, hq3⟩ := stepB_t hB
    obtain ⟨n, rfl⟩ : ∃ n : Nat, q = n := ⟨q.toNat, by omega⟩
    rw [HL.out] at hq2 hq3
    have HS := Lib.hid hB
    have HB := Lib.hid (join_good hB)
    clear hs hB
    have hn1 : 1 ≤ n := by omega
    have hdl := Nat.div_le_self len n
    obtain ⟨c, hc⟩ : ∃ c : Nat, c = len / n := ⟨_, rfl⟩
    rw [← hc] at hdl
    have e3 : (len : Int) / (n : Int) = (c : Int) := by rw [hc]; exact (Int.natCast_ediv len n).symm
    have HCn := Lib.hid hc
    clear hc
    have q0 : (0 : Int) ≤ (c : Int) := by omega
    have q1 : (c : Int) ≤ 96 := by omega
    go_enter Try.func29, Try.ntmps29
    go_wp2_with (go_at_call 58; refine (implSteps_any _ _ _ _ _ _ (FSl.below H.out ((Below.refl _ _).alloc (Nat.le_refl _) _)) hm).mono ?_; rw [HS.out]; rintro e w' ⟨m, rfl, rfl⟩)
    have HI := Lib.hid (JoinI.start (m := m) (cap := cap) (n := n) (t := 22) (t' := 3) H.out)
    refine (places_any 59 #[.pointer (some ⟨w.heap.size + 1, 0, none⟩), .pointer (some ⟨w.heap.size, 0, none⟩)] (fun j => sum32 ((zs.drop (j * n)).take n)) (JoinI (w.heap.size + 1) w.heap.size a len cap n zs) w.heap.size c _ (enter_of Try.func59 (by kernel_rfl) rfl) (by omega) (by simp; omega) HI.out (fun k wr wr' h hb => h.keep (by simp; omega) (by simp) hb) (fun k wr hk hsz hI => join1_any _ _ _ _ _ _ _ _ _ _ _ hI (join_rows (zs := zs) hn1 (by rw [← HCn.out]; exact hk)) hn1 HL.out (by omega) hcap hcap2)).mono ?_
    rintro e w1 ⟨v, rs, rfl, ho, hx, hb⟩
    have HO := Lib.hid (ho.mono (show w.heap.size ≤ _ by simp; omega))
    have HX := Lib.hid (show cnl rs = lstR (joinL zs n) by unfold joinL joinZ; rw [hx, HL.out, Int.toNat_natCast, HCn.out])
    have HBl := Lib.hid (((below_drewN ((Below.refl w.heap.size w).alloc (Nat.le_refl _) _) m).alloc (by simp) _).trans hb)
    have HF := Lib.hid (show fins (tells (fun j => sum32 ((zs.drop (j * n)).take n)) c) = joinB zs n by rw [HB.out.1]; unfold joinL joinZ; rw [HL.out, Int.toNat_natCast, HCn.out])
    rw [HF.out]
    clear ho hx hb
    go_wp2
    go_ret2
    exact ⟨v, rs, rfl, HO.out, HX.out.trans HB.out.2.symm, HBl.out⟩
end Go.Proofs.Ytnjmkleodaadbaa
