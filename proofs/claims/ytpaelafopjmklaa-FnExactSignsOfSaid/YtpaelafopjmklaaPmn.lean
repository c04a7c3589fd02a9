/-
  PartMeans, in both packages.
-/
import Derived.Test.YtpaelafopjmklaaNrm
import Derived.Test.YtpaelafopjmklaaCIn
import Derived.Deep.QuietTactic
import Derived.BigQuiet
namespace Go.Proofs.Ytpaelafopjmklaa
open Ieee Go.RowKit
set_option linter.unusedVariables false

/-- Where the part j of n begins. -/
def pmF (l n j : Nat) : Nat := j * l / n
def pmD (l n j : Nat) : Nat := pmF l n (j + 1) - pmF l n j
theorem pm_le {l n j : Nat} (hn : 1 ≤ n) (hj : j < n) : pmF l n j ≤ pmF l n (j + 1) ∧ pmF l n (j + 1) ≤ l := by
  unfold pmF
  refine ⟨Nat.div_le_div_right (Nat.mul_le_mul_right _ (by omega)), ?_⟩
  exact Nat.div_le_of_le_mul (Nat.mul_le_mul_right _ hj)
theorem pm_mul {l n j : Nat} (hj : j < n) (hl : l ≤ 96) (hn : n ≤ 96) : j * l ≤ 9216 ∧ (j + 1) * l ≤ 9216 :=
  ⟨Nat.mul_le_mul (by omega : j ≤ 96) hl, Nat.mul_le_mul (by omega : j + 1 ≤ 96) hl⟩
theorem pm_pos {l n j : Nat} (hn : 1 ≤ n) (hl : n ≤ l) : 1 ≤ pmD l n j := by
  unfold pmD pmF
  have h : j * l / n + 1 ≤ (j + 1) * l / n := by
    rw [← Nat.add_div_right _ (by omega), Nat.succ_mul]
    exact Nat.div_le_div_right (by omega)
  omega
/-- The mean of a part. -/
def pmT (zs : List Nat) (n j : Nat) : Nat := aop .quo .f32 (sum32 ((zs.drop (pmF zs.length n j)).take (pmD zs.length n j))) (cn .f32 (i2f (pmD zs.length n j : Nat)))
def pmL (zs : List Nat) (q : Int) : List Nat := tells (pmT zs q.toNat) q.toNat
def pmB (zs : List Nat) (q : Int) : Bool := stepB zs q && fins (pmL zs q)
def pmR (zs : List Nat) (q : Int) : List Nat := if stepB zs q then lstR (pmL zs q) else []
theorem pm_bad {zs : List Nat} {q : Int} (h : stepB zs q = false) : pmB zs q = false ∧ pmR zs q = [] := by unfold pmB pmR; rw [h]; exact ⟨rfl, rfl⟩
theorem pm_good {zs : List Nat} {q : Int} (h : stepB zs q = true) : pmB zs q = fins (pmL zs q) ∧ pmR zs q = lstR (pmL zs q) := by unfold pmB pmR; rw [h]; exact ⟨rfl, rfl⟩
theorem pmR_len (zs : List Nat) (q : Int) : (pmR zs q).length ≤ 1048576 := by
  unfold pmR
  split
  · rename_i h
    obtain ⟨_, h1, h2, h3⟩ := stepB_t h
    unfold lstR
    split
    · unfold pmL; rw [tells_len]; omega
    · simp
  · simp
/-- The whole numbers of a part, laid for a walk. -/
theorem pm_ints {l n j : Nat} (hn : 1 ≤ n) (hj : j < n) :
    (j : Int) * (l : Int) = ((j * l : Nat) : Int) ∧ ((j : Int) + 1) * (l : Int) = (((j + 1) * l : Nat) : Int) ∧ ((j * l : Nat) : Int) / (n : Int) = (pmF l n j : Int) ∧ (((j + 1) * l : Nat) : Int) / (n : Int) = (pmF l n j : Int) + (pmD l n j : Int) := by
  refine ⟨by simp, by simp, (Int.natCast_ediv _ _).symm, ?_⟩
  have h1 : ((((j + 1) * l : Nat) : Int)) / (n : Int) = ((pmF l n (j + 1) : Nat) : Int) := (Int.natCast_ediv _ _).symm
  rw [h1]
  have := (pm_le (l := l) hn hj).1
  unfold pmD
  omega

/-- What the closure of PartMeans reads. -/
def PmnI (bl bn : Nat) (a : Option Addr) (len cap n : Nat) (zs : List Nat) (_k : Nat) (wr : World) : Prop := wr.cell? ⟨bn, 0, none⟩ = some (.int .i64 n) ∧ BoxI bl a len cap zs wr
theorem PmnI.keep {bl bn B : Nat} {a : Option Addr} {len cap n k : Nat} {zs : List Nat} {wr wr' : World} (h : PmnI bl bn a len cap n zs k wr) (h1 : bl < B) (h2 : bn < B) (hb : Below B wr wr') : PmnI bl bn a len cap n zs k wr' :=
  ⟨by rw [hb.cell (p := ⟨bn, 0, none⟩) h2]; exact h.1, h.2.keep h1 hb⟩
set_option maxHeartbeats 2000000 in
set_option maxRecDepth 100000 in
theorem pmn1_any (bl bn B0 B : Nat) (a : Option Addr) (len cap n k : Nat) (zs : List Nat) (wr : World) (h : PmnI bl bn a len cap n zs k wr) (hk : k < n) (hn : n ≤ len) (hl : zs.length = len) (hm : len ≤ 96) (hcap : len ≤ cap) (hcap2 : cap ≤ 1048576) :
    Calls Try.prog 64 #[.int .i64 k, .pointer (some ⟨bl, 0, none⟩), .pointer (some ⟨bn, 0, none⟩)] wr (Tells (pmT zs n) (PmnI bl bn a len cap n zs) B0 B k wr) := by
  have HI := Lib.hid h
  obtain ⟨hn0, hbx⟩ := h
  obtain ⟨e1, e2, e3, e4⟩ := pm_ints (l := len) (n := n) (j := k) (by omega) hk
  obtain ⟨l1, l2⟩ := pm_le (l := len) (n := n) (j := k) (by omega) hk
  obtain ⟨m1, m2⟩ := pm_mul (l := len) (n := n) (j := k) hk hm (by omega)
  have hd : pmF len n k + pmD len n k ≤ len := by unfold pmD; omega
  have hd1 := pm_pos (l := len) (n := n) (j := k) (by omega) hn
  have HT := Lib.hid (show ∀ r, cn .f32 r = sum32 ((zs.drop (pmF len n k)).take (pmD len n k)) → ∀ W, cn .f32 (fopR .quo .f32 r (floatOfInt .f32 (pmD len n k : Nat)) W) = pmT zs n k from fun r hr W => by rw [cn_fopR, hr]; unfold pmT i2f; rw [hl])
  have HS := hbx.fsl hl
  obtain ⟨b, off, rfl, hb, hc⟩ := HS.at (by omega)
  have HC := Lib.hid (FSl.cut (i := pmF len n k) (n := pmD len n k) HS (by omega) hd)
  have hbx1 := hbx.1
  generalize pmF len n k = f at *
  generalize pmD len n k = d at *
  generalize k * len = p at *
  generalize (k + 1) * len = p2 at *
  clear hbx HS hc l1 l2
  have hnz : ((n : Int) == 0) = false := by rw [beq_eq_false_iff_ne]; omega
  go_enter Try.func64, Try.ntmps64
  go_wp2
  go_region
  all_goals
    go_wp2_with fail
    refine (implSumNumbers_any _ _ _ _ _ (FSl.drewN HC.out _) (by omega)).mono ?_
    rintro e w' ⟨r, m, hr, rfl, rfl⟩
    rw [if_pos (by omega)] at hr
    have hR := Lib.hid hr
    clear hr
    go_wp2
    go_ret
    exact ⟨_, rfl, by rw [show ((f : Int) + (d : Int) - (f : Int)) = (d : Int) by omega]; exact HT.out _ hR.out _, HI.out.keep (B := bl + bn + 1) (by omega) (by omega) (below_drewN (Below.refl _ _) _), below_drewN (Below.refl _ _) _, rfl⟩
theorem PmnI.start {w : World} {a : Option Addr} {len cap m n : Nat} {zs : List Nat} {t t' : TypeId} (h : FSl w a len zs) :
    PmnI w.heap.size (w.heap.size + 1) a len cap n zs 0 (((w.alloc (.cells #[.slice a len cap] t)).drewN m).alloc (.cells #[.int .i64 n] t')) := by
  refine ⟨?_, ((BoxI.start h).keep (Nat.lt_succ_self _) (((below_drewN (Below.refl _ _) m).alloc (Nat.le_of_eq (by simp)) _)))⟩
  rw [World.cell?_alloc_at _ _ _ _ (by simp)]; rfl
set_option maxHeartbeats 2000000 in
theorem imPmn_any (a : Option Addr) (len cap : Nat) (zs : List Nat) (q : Int) (w : World) (h : FSl w a len zs) (hm : len ≤ 1048576) (hcap : len ≤ cap) (hcap2 : cap ≤ 1048576) :
    Calls Try.prog 25 #[.slice a len cap, .int .i64 q] w (RetOB 23 (pmR zs q) (pmB zs q) w) := by
  have hmf : ∀ (fn : Fn) (first cap : Array Value) (w : World), (Instr.makeFunc fn first cap).run Try.prog w = .ok (.func fn first cap) w := fun _ _ _ _ => rfl
  have H := Lib.hid h
  have HL := Lib.hid h.1
  clear h
  cases hs : serB zs
  · have HS := Lib.hid hs
    have HB := Lib.hid (pm_bad (zs := zs) (q := q) (by unfold stepB; rw [hs]; rfl))
    clear hs
    go_enter Try.func25, Try.ntmps25
    go_wp2_with (go_at_call 62; refine (implSeries_any _ _ _ _ _ (FSl.below H.out ((Below.refl _ _).alloc (Nat.le_refl _) _)) hm).mono ?_; rw [HS.out]; rintro e w' ⟨m, rfl, rfl⟩)
    go_ret2
    exact fail_ob _ HB.out.1 HB.out.2 (below_drewN ((Below.refl _ _).alloc (Nat.le_refl _) _) _)
  · cases hB : stepB zs q
    · have hq := stepB_f hB hs
      rw [HL.out] at hq
      have HS := Lib.hid hs
      have HB := Lib.hid (pm_bad hB)
      have hc1 := (BoxI.start (cap := cap) (t := 22) H.out).1
      clear hs hB
      by_cases q1 : q < 1
      · have d1 : decide (q < (1 : Int)) = true := decide_eq_true q1
        clear hq
        go_enter Try.func25, Try.ntmps25
        go_wp2_with (go_at_call 62; refine (implSeries_any _ _ _ _ _ (FSl.below H.out ((Below.refl _ _).alloc (Nat.le_refl _) _)) hm).mono ?_; rw [HS.out]; rintro e w' ⟨m, rfl, rfl⟩)
        go_ret2
        exact fail_ob _ HB.out.1 HB.out.2 (below_drewN ((Below.refl _ _).alloc (Nat.le_refl _) _) _)
      · have d1 : decide (q < (1 : Int)) = false := decide_eq_false q1
        have d2 : decide ((len : Int) < q) = true := decide_eq_true (by omega)
        clear hq
        go_enter Try.func25, Try.ntmps25
        go_wp2_with (go_at_call 62; refine (implSeries_any _ _ _ _ _ (FSl.below H.out ((Below.refl _ _).alloc (Nat.le_refl _) _)) hm).mono ?_; rw [HS.out]; rintro e w' ⟨m, rfl, rfl⟩)
        go_ret2
        exact fail_ob _ HB.out.1 HB.out.2 (below_drewN ((Below.refl _ _).alloc (Nat.le_refl _) _) _)
    · obtain ⟨_, hq1, hq2, hq3⟩ := stepB_t hB
      obtain ⟨n, rfl⟩ : ∃ n : Nat, q = n := ⟨q.toNat, by omega⟩
      rw [HL.out] at hq2 hq3
      have HS := Lib.hid hs
      have HB := Lib.hid (pm_good hB)
      have hc1 := (BoxI.start (cap := cap) (t := 22) H.out).1
      clear hs hB
      have hn1 : 1 ≤ n := by omega
      have hn2 : n ≤ len := by omega
      have d1 : decide ((n : Int) < (1 : Int)) = false := decide_eq_false (by omega)
      have d2 : decide ((len : Int) < (n : Int)) = false := decide_eq_false (by omega)
      go_enter Try.func25, Try.ntmps25
      go_wp2_with (go_at_call 62; refine (implSeries_any _ _ _ _ _ (FSl.below H.out ((Below.refl _ _).alloc (Nat.le_refl _) _)) hm).mono ?_; rw [HS.out]; rintro e w' ⟨m, rfl, rfl⟩)
      have HI := Lib.hid (PmnI.start (m := m) (cap := cap) (n := n) (t := 22) (t' := 3) H.out)
      refine (places_any 64 #[.pointer (some ⟨w.heap.size, 0, none⟩), .pointer (some ⟨w.heap.size + 1, 0, none⟩)] (pmT zs n) (PmnI w.heap.size (w.heap.size + 1) a len cap n zs) w.heap.size n _ (enter_of Try.func64 (by kernel_rfl) rfl) (by omega) (by simp; omega) HI.out (fun k wr wr' h hb => h.keep (by simp; omega) (by simp) hb) (fun k wr hk hsz hI => pmn1_any _ _ _ _ _ _ _ _ _ _ _ hI hk hn2 HL.out (by omega) hcap hcap2)).mono ?_
      rintro e w1 ⟨v, rs, rfl, ho, hx, hb⟩
      have HO := Lib.hid (ho.mono (show w.heap.size ≤ _ by simp; omega))
      have HX := Lib.hid (show cnl rs = lstR (pmL zs n) by unfold pmL; rw [hx, Int.toNat_natCast])
      have HBl := Lib.hid (((below_drewN ((Below.refl w.heap.size w).alloc (Nat.le_refl _) _) m).alloc (by simp) _).trans hb)
      have HF := Lib.hid (show fins (tells (pmT zs n) n) = pmB zs n by rw [HB.out.1]; unfold pmL; rw [Int.toNat_natCast])
      rw [HF.out]
      clear ho hx hb
      go_wp2
      go_ret2
      exact ⟨v, rs, rfl, HO.out, HX.out.trans HB.out.2.symm, HBl.out⟩
theorem pm_zero {zs : List Nat} {n : Nat} : cnl [] = tells (pmT zs n) 0 := by simp [tells, cnl]
set_option maxHeartbeats 4000000 in
set_option maxRecDepth 100000 in
theorem spPmn_any (a : Option Addr) (len cap : Nat) (zs : List Nat) (q : Int) (w : World) (h : FSl w a len zs) (hm : len ≤ 1048576) (hcap : len ≤ cap) (hcap2 : cap ≤ 1048576) :
    Calls Try.prog 24 #[.slice a len cap, .int .i64 q] w (RetOB 23 (pmR zs q) (pmB zs q) w) := by
  obtain ⟨i0, hi, hz0, hz1, hz2⟩ := info_parts Try.infoR
  have H := Lib.hid h
  have HL := Lib.hid h.1
  clear h
  cases hB : stepB zs q
  · have HB := Lib.hid (pm_bad hB)
    cases hs : serB zs
    · have HS := Lib.hid hs
      clear hs hB
      go_enter Try.func24, Try.ntmps24
      go_wp2_with (go_at_call 51; refine (specSeries_any _ _ _ _ _ H.out hm).mono ?_; rw [HS.out]; rintro e w' ⟨m, rfl, rfl⟩)
      go_ret2
      exact fail_ob _ HB.out.1 HB.out.2 (below_drewN (Below.refl _ _) _)
    · have hq := stepB_f hB hs
      rw [HL.out] at hq
      have HS := Lib.hid hs
      clear hs hB
      go_enter Try.func24, Try.ntmps24
      go_wp2_with fail
      refine (specSeries_any _ _ _ _ _ H.out hm).mono ?_
      rw [HS.out]
      rintro e w' ⟨m, rfl, rfl⟩
      go_wp2_with fail
      refine (in_no _ _ _ _ hq).mono ?_
      rintro e w' ⟨rfl, rfl⟩
      go_wp2
      go_ret2
      exact fail_ob _ HB.out.1 HB.out.2 (below_drewN (Below.refl _ _) _)
  · obtain ⟨hs, hq1, hq2, hq3⟩ := stepB_t hB
    obtain ⟨n, rfl⟩ : ∃ n : Nat, q = n := ⟨q.toNat, by omega⟩
    rw [HL.out] at hq2 hq3
    have HS := Lib.hid hs
    have HB := Lib.hid (pm_good hB)
    clear hs hB
    have hn1 : 1 ≤ n := by omega
    have hn2 : n ≤ len := by omega
    go_enter Try.func24, Try.ntmps24
    go_wp2_with fail
    refine (specSeries_any _ _ _ _ _ H.out hm).mono ?_
    rw [HS.out]
    rintro e w' ⟨m, rfl, rfl⟩
    have HN := Lib.hid (FOwn.made (T := 23) (B := w.heap.size) (w.drewN m) (Nat.le_refl _))
    have HB0 := Lib.hid ((below_drewN (Below.refl w.heap.size w) m).alloc (Nat.le_refl _) (.cells #[] 23))
    go_wp2_with fail
    refine (in_yes _ _ _ _ hq1 hq2).mono ?_
    rintro e w' ⟨rfl, rfl⟩
    clear hq1 hq2
    go_wp2
    go_loopw [7, 8] (fun v c wr => ∃ (k : Nat) (rs : List Nat), k ≤ n ∧ c = .int .i64 k ∧ Hid (rs.length = k) ∧ Hid (FOwn 23 w.heap.size wr v rs) ∧ Hid (cnl rs = tells (pmT zs n) k) ∧ Hid (Below w.heap.size w wr)) (fun _ c _ => n - (intOf c).toNat)
    case atStart => exact ⟨0, [], by omega, rfl, Lib.hid rfl, HN, Lib.hid pm_zero, HB0⟩
    case round =>
      rename_i wr
      obtain ⟨k, rs, hk, rfl, hrl, hown, hrs, hbel⟩ := hrel
      by_cases hlt : k < n
      · obtain ⟨e1, e2, e3, e4⟩ := pm_ints (l := len) (n := n) (j := k) hn1 hlt
        obtain ⟨l1, l2⟩ := pm_le (l := len) (n := n) (j := k) hn1 hlt
        obtain ⟨m1, m2⟩ := pm_mul (l := len) (n := n) (j := k) hlt hq3 (by omega)
        have hd : pmF len n k + pmD len n k ≤ len := by unfold pmD; omega
        have hd1 := pm_pos (l := len) (n := n) (j := k) hn1 hn2
        have HT := Lib.hid (show ∀ r, cn .f32 r = sum32 ((zs.drop (pmF len n k)).take (pmD len n k)) → ∀ W, cn .f32 (fopR .quo .f32 r (floatOfInt .f32 (pmD len n k : Nat)) W) = pmT zs n k from fun r hr W => by rw [cn_fopR, hr]; unfold pmT i2f; rw [HL.out])
        obtain ⟨b, off, rfl, hb, hc⟩ := H.out.at (by omega)
        have HC := Lib.hid (FSl.below (FSl.cut (i := pmF len n k) (n := pmD len n k) H.out (by omega) hd) hbel.out)
        have hcs := Lib.hid (show ∀ r, cn .f32 r = pmT zs n k → cnl (rs ++ [r]) = tells (pmT zs n) (k + 1) from fun r hr => (cnl_snoc hrs.out hr).trans (tells_succ (pmT zs n) k).symm)
        have hsz := hbel.out.size
        have hrk : rs.length ≤ 1048576 := by have := hrl.out; omega
        generalize pmF len n k = f at *
        generalize pmD len n k = d at *
        generalize k * len = p at *
        generalize (k + 1) * len = p2 at *
        clear hc hb H l1 l2
        have hnz : ((n : Int) == 0) = false := by rw [beq_eq_false_iff_ne]; omega
        go_wp2
        go_region
        all_goals
          go_wp2_with fail
          refine (l07Sum_any _ _ _ _ _ (FSl.drewN HC.out _) (by omega)).mono ?_
          rintro e w' ⟨r, m2, hr, rfl, rfl⟩
          have hcz := Lib.hid (fun W => hcs.out _ (HT.out _ hr W))
          clear hr
          go_wp2_with (at_builtin; refine wpList_append_own _ rfl _ _ 22 rfl w.heap.size 23 i0 (.float .f32 0) 1 4 Try.underlying22 hi hz0 hz1 hz2 rfl (by decide) _ _ _ rfl (World.ownsRow.alloc (FOwn.drewN hown.out _) _) ⟨wr.heap.size, 0, none⟩ 1 1 [_] rfl rfl (one_new rfl) ?c2 ?c3 ?c4 ?c5 ?_)
          case c2 => intro u hu; simp at hu; subst hu; rfl
          case c3 => unfold maxLen; omega
          case c4 => omega
          case c5 => simp; show w.heap.size ≤ wr.heap.size + 1; omega
          intro v' w1 hown' hgrow _
          have R := FOwn.push hown.out hbel.out hsz hown' hgrow
          have hR := Lib.hid R
          have hrl2 := Lib.hid hrl.out
          clear R hown' hgrow hown hbel hrs hrl
          go_wp2
          go_roundw
          case rel =>
            refine ⟨k + 1, _, by omega, by go_num, ?_, Lib.hid hR.out.1, Lib.hid (hcz.out _), Lib.hid hR.out.2⟩
            exact Lib.hid (by rw [List.length_append, hrl2.out]; rfl)
          case measure => simp [intOf]; omega
      · have hfin := Lib.hid (show cnl rs = pmL zs n by unfold pmL; rw [hrs.out, Int.toNat_natCast, show k = n by omega])
        have hrk : rs.length ≤ 1048576 := by have := hrl.out; omega
        obtain ⟨A, cp, rfl, hsl, _⟩ := hown.out.sl
        have HSL := Lib.hid hsl
        have HF := Lib.hid (show fins rs = pmB zs n by rw [HB.out.1, ← hfin.out, fins_cnl])
        have HOw := Lib.hid hown.out
        have HBe := Lib.hid hbel.out
        clear hrs H hsl hown hbel
        cases hpb : pmB zs n
        · have HF2 := Lib.hid (HF.out.trans hpb)
          have HR2 := Lib.hid (show pmR zs n = [] by rw [HB.out.2]; unfold lstR; rw [← HB.out.1, hpb]; rfl)
          have HP2 := Lib.hid hpb
          clear hpb
          go_wp2_with fail
          refine (specFinite_any _ _ _ _ _ HSL.out hrk).mono ?_
          rw [HF2.out]
          rintro e w' ⟨m5, rfl, rfl⟩
          go_wp2
          go_ret2
          exact ⟨_, [], by rw [HP2.out]; rfl, FOwn.nil .., HR2.out.symm, below_drewN HBe.out _⟩
        · have HF2 := Lib.hid (HF.out.trans hpb)
          have HR2 := Lib.hid (show pmR zs n = pmL zs n by rw [HB.out.2]; unfold lstR; rw [← HB.out.1, hpb]; rfl)
          have HP2 := Lib.hid hpb
          clear hpb
          go_wp2_with fail
          refine (specFinite_any _ _ _ _ _ HSL.out hrk).mono ?_
          rw [HF2.out]
          rintro e w' ⟨m5, rfl, rfl⟩
          go_wp2
          go_ret2
          exact ⟨_, rs, by rw [HP2.out]; rfl, HOw.out.drewN _, hfin.out.trans HR2.out.symm, below_drewN HBe.out _⟩
end Go.Proofs.Ytpaelafopjmklaa
