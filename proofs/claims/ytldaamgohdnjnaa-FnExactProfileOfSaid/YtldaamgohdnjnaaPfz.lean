/-
  'meanTold' of the program, over any closure: the mean of what places tell.
-/
import Derived.Test.YtldaamgohdnjnaaCBox
import Derived.Test.YtldaamgohdnjnaaCMea
import Derived.Test.YtldaamgohdnjnaaCPos
import Derived.Test.YtldaamgohdnjnaaCAre
import Derived.Test.YtldaamgohdnjnaaRow
import Derived.Deep.QuietTactic
import Derived.BigQuiet
import Derived.Test.YtldaamgohdnjnaaCSer
import Derived.Deep.RegionHeld3
import Derived.Test.YtldaamgohdnjnaaCPlc
import Derived.Test.YtldaamgohdnjnaaCSqr
import Derived.Test.YtldaamgohdnjnaaCRoo
import Derived.Test.YtldaamgohdnjnaaFnf
import Derived.Laws.OwnMore
import Derived.Test.YtldaamgohdnjnaaCLaw
import Derived.Test.YtldaamgohdnjnaaIlw
import Derived.Test.YtldaamgohdnjnaaCSwv
import Derived.Deep.AppendLies
namespace Go.Proofs.Ytldaamgohdnjnaa
open Ieee Go.RowKit
set_option linter.unusedVariables false

theorem serB_congr {rs xs : List Nat} (h : cnl rs = cnl xs) : serB rs = serB xs := by
  have hl : rs.length = xs.length := by rw [← cnl_len, h, cnl_len]
  unfold serB; rw [hl, fins_congr h]
theorem mean32_congr {rs xs : List Nat} (h : cnl rs = cnl xs) : mean32 rs = mean32 xs := by
  have hl : rs.length = xs.length := by rw [← cnl_len, h, cnl_len]
  unfold mean32; rw [hl, sum32_congr h]
theorem meanB_congr {rs xs : List Nat} (h : cnl rs = cnl xs) : meanB rs = meanB xs := by unfold meanB; rw [serB_congr h, mean32_congr h]
theorem meanR_congr {rs xs : List Nat} (h : cnl rs = cnl xs) : meanR rs = meanR xs := by unfold meanR; rw [meanB_congr h, mean32_congr h]
theorem sum32_all {zs : List Nat} (h : fin .f32 (sum32 zs) = true) : ∀ k, k ≤ zs.length → fin .f32 (sum32 (zs.take k)) = true ∧ ∀ j, j < zs.length → k ≤ j → fin .f32 (zs.getD j 0) = true := by
  intro k hk
  obtain ⟨n, hn⟩ : ∃ n, n = zs.length - k := ⟨_, rfl⟩
  induction n generalizing k with
  | zero =>
    have : k = zs.length := by omega
    subst this
    exact ⟨by rw [List.take_of_length_le (Nat.le_refl _)]; exact h, fun j hj h2 => by omega⟩
  | succ n ih =>
    obtain ⟨h1, h2⟩ := ih (k + 1) (by omega) (by omega)
    rw [sum32_snoc (by omega)] at h1
    have h3 := fin_add h1
    refine ⟨h3.1, fun j hj hkj => ?_⟩
    rcases Nat.lt_or_ge k j with h4 | h4
    · exact h2 j hj (by omega)
    · obtain rfl : j = k := by omega
      exact (fin_congr (cn_cn ..)).symm.trans h3.2
theorem fins_of_sum {zs : List Nat} (h : fin .f32 (sum32 zs) = true) : fins zs = true := by
  unfold fins
  rw [List.all_eq_true]
  intro x hx
  obtain ⟨j, hj, rfl⟩ := List.getElem_of_mem hx
  have := (sum32_all h 0 (Nat.zero_le _)).2 j hj (Nat.zero_le _)
  simpa [List.getD, hj] using this
theorem fins_of_mean {zs : List Nat} (h : fin .f32 (mean32 zs) = true) : fins zs = true := fins_of_sum (fin_quo h)
/-- The mean of what is told, and whether it is finite. -/
def mtB (xs : List Nat) : Bool := fin .f32 (mean32 xs)
def mtV (xs : List Nat) : Nat := if mtB xs then mean32 xs else 0
theorem mt_is {xs : List Nat} (h1 : 1 ≤ xs.length) (h2 : xs.length ≤ 96) : meanB (lstR xs) = mtB xs ∧ meanR (lstR xs) = mtV xs := by
  have key : meanB (lstR xs) = mtB xs := by
    cases hf : fins xs
    · have e : lstR xs = [] := by unfold lstR; rw [hf]; rfl
      rw [e, show meanB [] = false by simp [meanB, serB]]
      exact (Bool.eq_false_iff.2 fun h => by rw [fins_of_mean h] at hf; cases hf).symm
    · have e : lstR xs = xs := by unfold lstR; rw [hf]; rfl
      rw [e]
      unfold meanB mtB serB
      rw [hf, decide_eq_true ⟨h1, h2⟩, Bool.and_true, Bool.true_and]
  refine ⟨key, ?_⟩
  unfold meanR mtV
  rw [key]
  cases hm : mtB xs
  · rw [if_neg (by simp), if_neg (by simp)]
  · have hf := fins_of_mean (zs := xs) hm
    have e : lstR xs = xs := by unfold lstR; rw [hf]; rfl
    rw [e]
/-- A number and a bool, behind what keeps all below a bound. -/
def RetFBk (v : Nat) (b : Bool) (B0 : Nat) (w : World) (e : Ending) (w' : World) : Prop := ∃ r, cn .f32 r = v ∧ e = .returned (.tuple #[.float .f32 r, .bool b]) ∧ Below B0 w w'
set_option maxRecDepth 100000 in
theorem meanTold_any (K : FuncId) (caps : Array Value) (tell : Nat → Nat) (I : Nat → World → Prop) (B0 n : Nat) (w : World) (hen : ∀ args w, (callFunc K args).run Try.prog w = .ok (.enter K args) w) (hn : n ≤ 1048576) (hB : B0 ≤ w.heap.size)
    (h0 : I 0 w) (hI : ∀ k wr wr', I k wr → Below w.heap.size wr wr' → I k wr') (hcn : ∀ k, cn .f32 (tell k) = tell k)
    (hcl : ∀ k wr, k < n → w.heap.size < wr.heap.size → I k wr → Calls Try.prog K (#[.int .i64 k] ++ caps) wr (Tells tell I B0 w.heap.size k wr)) :
    Calls Try.prog 171 #[.int .i64 n, .func (.func K) #[] caps] w (RetFBk (meanR (lstR (tells tell n))) (meanB (lstR (tells tell n))) B0 w) := by
  have HI := Lib.hid hI
  have HC := Lib.hid hcl
  have H0 := Lib.hid h0
  have HX := Lib.hid (show cnl (lstR (tells tell n)) = lstR (tells tell n) by
    have : cnl (tells tell n) = tells tell n := by
      unfold cnl tells; rw [List.map_map]; congr 1; funext k; exact hcn k
    unfold lstR; split
    · exact this
    · rfl)
  have HL := Lib.hid (show (lstR (tells tell n)).length ≤ 1048576 by unfold lstR; split <;> simp [tells]; exact hn)
  clear hI hcl h0 hcn
  go_enter Try.func171, Try.ntmps171
  go_wp2_with fail
  refine (places_any K caps tell I B0 n _ hen hn hB H0.out HI.out HC.out).mono ?_
  rintro e w1 ⟨v, rs, rfl, ho, hx, hb⟩
  obtain ⟨A, cp, rfl, hs, _⟩ := ho.sl
  have hl : rs.length ≤ 1048576 := by have := congrArg List.length hx; rw [cnl_len] at this; have := HL.out; omega
  have HS := Lib.hid hs
  have HBl := Lib.hid hb
  have HE := Lib.hid (show cnl rs = cnl (lstR (tells tell n)) by rw [hx, HX.out])
  clear ho hx hb hs
  go_wp2_with fail
  refine (implMean_any _ _ _ _ _ HS.out hl).mono ?_
  rintro e w' ⟨r, m, hr, rfl, rfl⟩
  have HR := Lib.hid (show cn .f32 r = meanR (lstR (tells tell n)) by rw [hr, meanR_congr HE.out])
  have HM := Lib.hid (meanB_congr HE.out)
  rw [HM.out]
  clear hr
  go_wp2
  go_ret2
  exact ⟨r, HR.out, rfl, below_drewN HBl.out _⟩
end Go.Proofs.Ytldaamgohdnjnaa

/-
  Two series of the same length, in the model of chapter 6; what measures tell, plainly.
-/
namespace Go.Proofs.Ytldaamgohdnjnaa
open Ieee Go.RowKit
set_option linter.unusedVariables false

/-- What is told of each number and its guess. -/
def tell2 (T : Nat → Nat → Nat) (zs ys : List Nat) (k : Nat) : Nat := T (cn .f32 (zs.getD k 0)) (cn .f32 (ys.getD k 0))
def msL (T : Nat → Nat → Nat) (zs ys : List Nat) : List Nat := tells (tell2 T zs ys) zs.length
def msB (T : Nat → Nat → Nat) (zs ys : List Nat) : Bool := pairB zs ys && mtB (msL T zs ys)
def msV (T : Nat → Nat → Nat) (zs ys : List Nat) : Nat := if msB T zs ys then mean32 (msL T zs ys) else 0
theorem ms_bad {T : Nat → Nat → Nat} {zs ys : List Nat} (h : pairB zs ys = false) : msB T zs ys = false ∧ msV T zs ys = 0 := by
  have : msB T zs ys = false := by unfold msB; rw [h]; rfl
  exact ⟨this, by unfold msV; rw [this]; rfl⟩
theorem ms_good {T : Nat → Nat → Nat} {zs ys : List Nat} (h : pairB zs ys = true) : msB T zs ys = mtB (msL T zs ys) ∧ msV T zs ys = mtV (msL T zs ys) := by
  have : msB T zs ys = mtB (msL T zs ys) := by unfold msB; rw [h]; rfl
  exact ⟨this, by unfold msV mtV; rw [this]⟩
theorem ms_end {T : Nat → Nat → Nat} {zs ys : List Nat} {r x : Nat} (h : cn .f32 r = if fin .f32 x then cn .f32 x else 0) (hs : pairB zs ys = true) (hx : cn .f32 x = mean32 (msL T zs ys)) : cn .f32 r = msV T zs ys ∧ fin .f32 x = msB T zs ys := by
  obtain ⟨e1, e2⟩ := ms_good (T := T) hs
  have hf : fin .f32 x = mtB (msL T zs ys) := fin_congr (hx.trans (cn_mean _).symm)
  rw [h, hf, hx, e1, e2]
  exact ⟨rfl, rfl⟩
theorem spTwo_any (a a' : Option Addr) (len len' cap cap' : Nat) (xs ys : List Nat) (w : World) (h : FSl w a len xs) (h' : FSl w a' len' ys) (hm : len ≤ 1048576) (hm' : len' ≤ 1048576) :
    Calls Try.prog 96 #[.slice a len cap, .slice a' len' cap'] w (RetV (.bool (pairB xs ys)) w) := by
  have H := Lib.hid h
  have H' := Lib.hid h'
  clear h h'
  cases hs : serB xs
  · have HS := Lib.hid hs
    have HB := Lib.hid (show pairB xs ys = false by unfold pairB; rw [hs]; rfl)
    clear hs
    go_enter Try.func96, Try.ntmps96
    go_wp2_with (go_at_call 64; refine (specSeries_any _ _ _ _ _ H.out hm).mono ?_; rw [HS.out]; rintro e w' ⟨m, rfl, rfl⟩)
    go_ret
    exact ⟨_, congrArg (fun b => Ending.returned (Value.bool b)) HB.out.symm, rfl⟩
  · have HS := Lib.hid hs
    cases hs' : serB ys
    · have HS' := Lib.hid hs'
      have HB := Lib.hid (show pairB xs ys = false by unfold pairB; rw [hs']; simp)
      clear hs hs'
      go_enter Try.func96, Try.ntmps96
      go_wp2_with fail
      refine (specSeries_any _ _ _ _ _ H.out hm).mono ?_
      rw [HS.out]
      rintro e w' ⟨m, rfl, rfl⟩
      go_wp2_with (go_at_call 64; refine (specSeries_any _ _ _ _ _ (FSl.drewN H'.out m) hm').mono ?_; rw [HS'.out]; rintro e w' ⟨m2, rfl, rfl⟩)
      go_ret
      exact ⟨_, congrArg (fun b => Ending.returned (Value.bool b)) HB.out.symm, rfl⟩
    · have HS' := Lib.hid hs'
      have HB := Lib.hid (show pairB xs ys = ((len : Int) == (len' : Int)) by
        unfold pairB; rw [hs, hs', H.out.1, H'.out.1]
        by_cases he : len = len'
        · subst he; simp
        · have : ((len : Int) == (len' : Int)) = false := by rw [beq_eq_false_iff_ne]; omega
          rw [this, decide_eq_false he]; rfl)
      clear hs hs'
      go_enter Try.func96, Try.ntmps96
      go_wp2_with fail
      refine (specSeries_any _ _ _ _ _ H.out hm).mono ?_
      rw [HS.out]
      rintro e w' ⟨m, rfl, rfl⟩
      go_wp2_with (go_at_call 64; refine (specSeries_any _ _ _ _ _ (FSl.drewN H'.out m) hm').mono ?_; rw [HS'.out]; rintro e w' ⟨m2, rfl, rfl⟩)
      go_ret
      exact ⟨_, congrArg (fun b => Ending.returned (Value.bool b)) HB.out.symm, rfl⟩
end Go.Proofs.Ytldaamgohdnjnaa

/-
  Lists that can be held together, in both packages: 'areWays', 'l06Lists'; rows of lists in boxes.
-/
namespace Go.Proofs.Ytldaamgohdnjnaa
open Ieee Go.RowKit
set_option linter.unusedVariables false

def allZ (Z : List (List Nat)) : Bool := Z.all fun z => serB z && decide (z.length = (Z.getD 0 []).length)
def waysZ (Z : List (List Nat)) : Bool := decide (1 ≤ Z.length ∧ Z.length ≤ 8) && allZ Z
theorem are_zz (L : List FRw) : areB L = allZ (zz L) := by
  unfold areB allZ
  rw [zz_at]
  unfold zz
  rw [List.all_map]
  rfl
theorem waysZ_t {Z : List (List Nat)} (h : waysZ Z = true) : 1 ≤ Z.length ∧ Z.length ≤ 8 ∧ ∀ i, i < Z.length → serB (Z.getD i []) = true ∧ (Z.getD i []).length = (Z.getD 0 []).length := by
  unfold waysZ at h
  have h1 := of_decide_eq_true (Bool.and_eq_true _ _ ▸ h).1
  have h2 := (Bool.and_eq_true _ _ ▸ h).2
  refine ⟨h1.1, h1.2, fun i hi => ?_⟩
  have := List.all_eq_true.1 h2 (Z.getD i []) (by simp [List.getD, hi])
  exact ⟨(Bool.and_eq_true _ _ ▸ this).1, of_decide_eq_true (Bool.and_eq_true _ _ ▸ this).2⟩
theorem imWays_any (a : Option Addr) (n cap : Nat) (L : List FRw) (w : World) (h : RSl w a n L) (hn : n ≤ 1048576) :
    Calls Try.prog 98 #[.slice a n cap] w (RetV (.bool (waysZ (zz L))) w) := by
  have H := Lib.hid h
  have HL := Lib.hid (show (zz L).length = n by rw [zz_len]; exact h.1.1)
  clear h
  by_cases h1 : 1 ≤ n
  · have hd1 : decide ((1 : Int) ≤ (n : Int)) = true := decide_eq_true (by omega)
    by_cases h2 : n ≤ 8
    · have hd2 : decide ((n : Int) ≤ 8) = true := decide_eq_true (by omega)
      have HB := Lib.hid (show waysZ (zz L) = areB L by unfold waysZ; rw [HL.out, decide_eq_true ⟨h1, h2⟩, are_zz]; rfl)
      go_enter Try.func98, Try.ntmps98
      go_wp2_with fail
      refine (implAre_any _ _ _ _ _ H.out hn).mono ?_
      rintro e w' ⟨m, rfl, rfl⟩
      go_wp2_with fail
      go_ret
      exact ⟨m, by rw [HB.out]; rfl, rfl⟩
    · have hd2 : decide ((n : Int) ≤ 8) = false := decide_eq_false (by omega)
      have HB := Lib.hid (show waysZ (zz L) = false by unfold waysZ; rw [HL.out, decide_eq_false (fun h => h2 h.2)]; rfl)
      go_enter Try.func98, Try.ntmps98
      go_wp2_with fail
      go_ret
      exact ⟨0, by rw [HB.out]; rfl, rfl⟩
  · have hd1 : decide ((1 : Int) ≤ (n : Int)) = false := decide_eq_false (by omega)
    have HB := Lib.hid (show waysZ (zz L) = false by unfold waysZ; rw [HL.out, decide_eq_false (fun h => h1 h.1)]; rfl)
    go_enter Try.func98, Try.ntmps98
    go_wp2_with fail
    go_ret
    exact ⟨0, by rw [HB.out]; rfl, rfl⟩
def prZ (Z : List (List Nat)) (i : Nat) : Bool := pairB (Z.getD i []) (Z.getD 0 [])
theorem all_pr {Z : List (List Nat)} (h0 : 1 ≤ Z.length) (h : ∀ i, i < Z.length → prZ Z i = true) : allZ Z = true := by
  unfold allZ
  rw [List.all_eq_true]
  intro z hz
  obtain ⟨j, hj, rfl⟩ := List.getElem_of_mem hz
  obtain ⟨h1, h2, h3⟩ := pairB_t (h j hj)
  have e : Z.getD j [] = Z[j] := by simp [List.getD, hj]
  rw [e] at h1 h3
  rw [h1, decide_eq_true h3]; rfl
theorem not_pr {Z : List (List Nat)} {k : Nat} (hk : k < Z.length) (h : prZ Z k = false) : allZ Z = false := by
  refine Bool.eq_false_iff.2 fun ha => ?_
  unfold allZ at ha
  rw [List.all_eq_true] at ha
  have g1 := ha (Z.getD k []) (by simp [List.getD, hk])
  have g0 := ha (Z.getD 0 []) (by simp [List.getD, show 0 < Z.length by omega])
  obtain ⟨a1, a2⟩ := Bool.and_eq_true_iff.1 g1
  obtain ⟨b1, _⟩ := Bool.and_eq_true_iff.1 g0
  unfold prZ pairB at h
  rw [a1, b1, a2] at h
  cases h
set_option maxRecDepth 100000 in
theorem spLists_any (a : Option Addr) (n cap : Nat) (L : List FRw) (w : World) (h : RSl w a n L) (hn : n ≤ 1048576) :
    Calls Try.prog 95 #[.slice a n cap] w (RetV (.bool (waysZ (zz L))) w) := by
  have H := Lib.hid h
  have HL := Lib.hid (show (zz L).length = n by rw [zz_len]; exact h.1.1)
  clear h
  by_cases h1 : 1 ≤ n
  · have hd1 : decide ((n : Int) < 1) = false := decide_eq_false (by omega)
    by_cases h2 : n ≤ 8
    · have hd2 : decide ((8 : Int) < (n : Int)) = false := decide_eq_false (by omega)
      have HB := Lib.hid (show waysZ (zz L) = allZ (zz L) by unfold waysZ; rw [HL.out, decide_eq_true ⟨h1, h2⟩]; rfl)
      go_enter Try.func95, Try.ntmps95
      go_wp2
      go_loopw [3] (fun i wr => ∃ k m : Nat, k ≤ n ∧ i = .int .i64 k ∧ wr = w.drewN m ∧ Hid (∀ j, j < k → prZ (zz L) j = true)) (fun i _ => n - (intOf i).toNat)
      case atStart => exact ⟨0, 0, Nat.zero_le _, rfl, rfl, Lib.hid (fun j hj => by omega)⟩
      case round =>
        obtain ⟨k, m, hk, rfl, rfl, hp⟩ := hrel
        by_cases hlt : k < n
        · obtain ⟨b, off, rfl, _, hc⟩ := H.out.1.at (by omega)
          have hck := hc k hlt
          have hc0 := hc 0 (by omega)
          rw [Nat.add_zero] at hc0
          obtain ⟨hF, hFm⟩ := H.out.2 k hlt
          obtain ⟨hF0, hFm0⟩ := H.out.2 0 (by omega)
          have hpk : prZ (zz L) k = pairB (L.getD k FRw.none).zs (L.getD 0 FRw.none).zs := by unfold prZ; rw [zz_at, zz_at]
          unfold FRw.val at hck hc0
          generalize L.getD k FRw.none = r at *
          generalize L.getD 0 FRw.none = r0 at *
          obtain ⟨ra, rl, rc, rz⟩ := r
          obtain ⟨sa, sl, sc, sz⟩ := r0
          simp only at hck hc0 hFm hFm0 hF hF0 hpk
          have HE := Lib.hid (fun W m' (hW : W = w.drewN m') => show Calls Try.prog 96 #[.slice ra rl rc, .slice sa sl sc] W (RetV (.bool (pairB rz sz)) W) from by
            subst hW
            exact spTwo_any _ _ _ _ _ _ _ _ _ (FSl.drewN hF m') (FSl.drewN hF0 m') hFm hFm0)
          clear hc hF hF0
          cases hq : pairB rz sz
          · have HF := Lib.hid (HB.out.trans (not_pr (k := k) (by rw [HL.out]; exact hlt) (hpk.trans hq)))
            rw [hq] at HE
            clear hq hpk
            go_wp2
            go_quiet ((go_at_call 96; exact quiet_add_V (HE.out _ _ rfl)))
            go_wp2
            go_ret
            exact ⟨_, by rw [HF.out]; rfl, (World.drewN_drewN ..).symm⟩
          · have HN := Lib.hid (show ∀ j, j < k + 1 → prZ (zz L) j = true from fun j hj => by
              rcases Nat.lt_or_ge j k with g | g
              · exact hp.out j g
              · obtain rfl : j = k := by omega
                exact hpk.trans hq)
            rw [hq] at HE
            clear hq hpk hp
            go_wp2
            go_quiet ((go_at_call 96; exact quiet_add_V (HE.out _ _ rfl)))
            go_wp2
            go_roundw
            case rel => exact ⟨k + 1, _, by omega, by go_num, rfl, HN⟩
            case measure => simp [intOf]; omega
        · have HF := Lib.hid (HB.out.trans (all_pr (by rw [HL.out]; exact h1) (fun i hi => hp.out i (by rw [HL.out] at hi; omega))))
          clear hp H
          go_wp2
          go_ret
          exact ⟨m, by rw [HF.out]; rfl, rfl⟩
    · have hd2 : decide ((8 : Int) < (n : Int)) = true := decide_eq_true (by omega)
      have HB := Lib.hid (show waysZ (zz L) = false by unfold waysZ; rw [HL.out, decide_eq_false (fun h => h2 h.2)]; rfl)
      go_enter Try.func95, Try.ntmps95
      go_wp2_with fail
      go_ret
      exact ⟨0, by rw [HB.out]; rfl, rfl⟩
  · have hd1 : decide ((n : Int) < 1) = true := decide_eq_true (by omega)
    have HB := Lib.hid (show waysZ (zz L) = false by unfold waysZ; rw [HL.out, decide_eq_false (fun h => h1 h.1)]; rfl)
    go_enter Try.func95, Try.ntmps95
    go_wp2_with fail
    go_ret
    exact ⟨0, by rw [HB.out]; rfl, rfl⟩

/-- What a closure reads: a row of lists in a box. -/
def BoxR (bl : Nat) (a : Option Addr) (n cap : Nat) (L : List FRw) (wr : World) : Prop :=
  wr.cell? ⟨bl, 0, none⟩ = some (.slice a n cap) ∧ (0 < n → ∃ b off, a = some ⟨b, off, none⟩ ∧ b < bl ∧ ∀ i, i < n → wr.cell? ⟨b, off + i, none⟩ = some (L.getD i FRw.none).val ∧
    (0 < (L.getD i FRw.none).len → ∃ c o, (L.getD i FRw.none).a = some ⟨c, o, none⟩ ∧ c < bl ∧ ∀ j, j < (L.getD i FRw.none).len → wr.cell? ⟨c, o + j, none⟩ = some (.float .f32 ((L.getD i FRw.none).zs.getD j 0))))
theorem BoxR.keep {bl B : Nat} {a : Option Addr} {n cap : Nat} {L : List FRw} {wr wr' : World} (h : BoxR bl a n cap L wr) (h1 : bl < B) (hb : Below B wr wr') : BoxR bl a n cap L wr' := by
  refine ⟨by rw [hb.cell (p := ⟨bl, 0, none⟩) h1]; exact h.1, fun hp => ?_⟩
  obtain ⟨b, off, rfl, hlt, hc⟩ := h.2 hp
  refine ⟨b, off, rfl, hlt, fun i hi => ⟨by rw [hb.cell (p := ⟨b, off + i, none⟩) (by show b < B; omega)]; exact (hc i hi).1, fun hl => ?_⟩⟩
  obtain ⟨c, o, e, hcl, hcc⟩ := (hc i hi).2 hl
  exact ⟨c, o, e, hcl, fun j hj => by rw [hb.cell (p := ⟨c, o + j, none⟩) (by show c < B; omega)]; exact hcc j hj⟩
theorem BoxR.drewN {bl : Nat} {a : Option Addr} {n cap : Nat} {L : List FRw} {wr : World} (h : BoxR bl a n cap L wr) (m : Nat) : BoxR bl a n cap L (wr.drewN m) := h
theorem BoxR.start {w : World} {a : Option Addr} {n cap : Nat} {L : List FRw} {t : TypeId} (h : RSl w a n L) : BoxR w.heap.size a n cap L (w.alloc (.cells #[.slice a n cap] t)) := by
  refine ⟨?_, fun hp => ?_⟩
  · rw [World.cell?_alloc_at _ _ _ _ rfl]; rfl
  · obtain ⟨b, off, rfl, hb, hc⟩ := h.1.at hp
    refine ⟨b, off, rfl, hb, fun i hi => ⟨by rw [World.cell?_alloc_past _ _ _ hb]; exact hc i hi, fun hl => ?_⟩⟩
    obtain ⟨c, o, e, hcb, hcc⟩ := (h.2 i hi).1.at hl
    exact ⟨c, o, e, hcb, fun j hj => by rw [World.cell?_alloc_past _ _ _ hcb]; exact hcc j hj⟩
end Go.Proofs.Ytldaamgohdnjnaa

/-
  Lists of shapes: 1 to 16 series of the same length, in both packages.
-/
namespace Go.Proofs.Ytldaamgohdnjnaa
open Ieee Go.RowKit
set_option linter.unusedVariables false

def shpZ (Z : List (List Nat)) : Bool := decide (1 ≤ Z.length ∧ Z.length ≤ 16) && allZ Z
def shpQ (Z : List (List Nat)) (i : Nat) : Bool := serB (Z.getD i []) && decide ((Z.getD i []).length = (Z.getD 0 []).length)
theorem all_shp {Z : List (List Nat)} (h : ∀ i, i < Z.length → shpQ Z i = true) : allZ Z = true := by
  unfold allZ
  rw [List.all_eq_true]
  intro z hz
  obtain ⟨i, hi, rfl⟩ := List.getElem_of_mem hz
  have := h i hi
  unfold shpQ at this
  have e : Z.getD i [] = Z[i] := by simp [List.getD, hi]
  rw [e] at this
  exact this
theorem not_shp {Z : List (List Nat)} {k : Nat} (hk : k < Z.length) (h : shpQ Z k = false) : allZ Z = false := by
  unfold allZ
  rw [List.all_eq_false]
  refine ⟨Z[k], List.getElem_mem hk, ?_⟩
  unfold shpQ at h
  have e : Z.getD k [] = Z[k] := by simp [List.getD, hk]
  rw [e] at h
  rw [h]; simp
theorem allZ_t {Z : List (List Nat)} (h : allZ Z = true) {i : Nat} (hi : i < Z.length) : serB (Z.getD i []) = true ∧ (Z.getD i []).length = (Z.getD 0 []).length := by
  unfold allZ at h
  rw [List.all_eq_true] at h
  have := h Z[i] (List.getElem_mem hi)
  have h1 := (Bool.and_eq_true _ _ ▸ this).1
  have h2 := of_decide_eq_true (Bool.and_eq_true _ _ ▸ this).2
  constructor
  · simpa [List.getD, hi] using h1
  · simpa [List.getD, hi] using h2
theorem shp_t {Z : List (List Nat)} (h : shpZ Z = true) : 1 ≤ Z.length ∧ Z.length ≤ 16 ∧ ∀ i, i < Z.length → serB (Z.getD i []) = true ∧ (Z.getD i []).length = (Z.getD 0 []).length := by
  unfold shpZ at h
  have h1 := of_decide_eq_true (Bool.and_eq_true _ _ ▸ h).1
  have h2 := (Bool.and_eq_true _ _ ▸ h).2
  exact ⟨h1.1, h1.2, fun i hi => allZ_t h2 hi⟩
theorem imShp_any (a : Option Addr) (n cap : Nat) (L : List FRw) (w : World) (h : RSl w a n L) (hn : n ≤ 1048576) :
    Calls Try.prog 112 #[.slice a n cap] w (RetV (.bool (shpZ (zz L))) w) := by
  have H := Lib.hid h
  have HL := Lib.hid (show (zz L).length = n by rw [zz_len]; exact h.1.1)
  clear h
  by_cases h1 : 1 ≤ n
  · have hd1 : decide ((1 : Int) ≤ (n : Int)) = true := decide_eq_true (by omega)
    by_cases h2 : n ≤ 16
    · have hd2 : decide ((n : Int) ≤ 16) = true := decide_eq_true (by omega)
      have HB := Lib.hid (show shpZ (zz L) = areB L by unfold shpZ; rw [HL.out, decide_eq_true ⟨h1, h2⟩, are_zz]; rfl)
      go_enter Try.func112, Try.ntmps112
      go_wp2_with fail
      refine (implAre_any _ _ _ _ _ H.out hn).mono ?_
      rintro e w' ⟨m, rfl, rfl⟩
      go_wp2
      go_ret
      exact ⟨m, congrArg (fun b => Ending.returned (Value.bool b)) HB.out.symm, rfl⟩
    · have hd2 : decide ((n : Int) ≤ 16) = false := decide_eq_false (by omega)
      have HB := Lib.hid (show shpZ (zz L) = false by unfold shpZ; rw [HL.out, decide_eq_false (fun h => h2 h.2)]; rfl)
      go_enter Try.func112, Try.ntmps112
      go_wp2
      go_ret
      exact ⟨0, congrArg (fun b => Ending.returned (Value.bool b)) HB.out.symm, rfl⟩
  · have hd1 : decide ((1 : Int) ≤ (n : Int)) = false := decide_eq_false (by omega)
    have HB := Lib.hid (show shpZ (zz L) = false by unfold shpZ; rw [HL.out, decide_eq_false (fun h => h1 h.1)]; rfl)
    go_enter Try.func112, Try.ntmps112
    go_wp2
    go_ret
    exact ⟨0, congrArg (fun b => Ending.returned (Value.bool b)) HB.out.symm, rfl⟩
set_option maxHeartbeats 2000000 in
set_option maxRecDepth 100000 in
theorem spShp_any (a : Option Addr) (n cap : Nat) (L : List FRw) (w : World) (h : RSl w a n L) (hn : n ≤ 1048576) :
    Calls Try.prog 110 #[.slice a n cap] w (RetV (.bool (shpZ (zz L))) w) := by
  have H := Lib.hid h
  have HL := Lib.hid (show (zz L).length = n by rw [zz_len]; exact h.1.1)
  clear h
  by_cases h1 : 1 ≤ n
  · have hd1 : decide ((n : Int) < 1) = false := decide_eq_false (by omega)
    by_cases h2 : n ≤ 16
    · have hd2 : decide ((16 : Int) < (n : Int)) = false := decide_eq_false (by omega)
      have HB := Lib.hid (show shpZ (zz L) = allZ (zz L) by unfold shpZ; rw [HL.out, decide_eq_true ⟨h1, h2⟩]; rfl)
      go_enter Try.func110, Try.ntmps110
      go_wp2
      go_loopw [14] (fun i wr => ∃ k m : Nat, k ≤ n ∧ i = .int .i64 k ∧ wr = w.drewN m ∧ Hid (∀ j, j < k → shpQ (zz L) j = true)) (fun i _ => n - (intOf i).toNat)
      case atStart => exact ⟨0, 0, Nat.zero_le _, rfl, rfl, Lib.hid (fun j hj => by omega)⟩
      case round =>
        obtain ⟨k, m, hk, rfl, rfl, hp⟩ := hrel
        by_cases hlt : k < n
        · obtain ⟨b, off, rfl, _, hc⟩ := H.out.1.at (by omega)
          have hck := hc k hlt
          have hc0 := hc 0 (by omega)
          rw [Nat.add_zero] at hc0
          obtain ⟨hF, hFm⟩ := H.out.2 k hlt
          obtain ⟨hF0, hFm0⟩ := H.out.2 0 (by omega)
          have hpk : shpQ (zz L) k = (serB (L.getD k FRw.none).zs && decide ((L.getD k FRw.none).zs.length = (L.getD 0 FRw.none).zs.length)) := by unfold shpQ; rw [zz_at, zz_at]
          unfold FRw.val at hck hc0
          generalize L.getD k FRw.none = r at *
          generalize L.getD 0 FRw.none = r0 at *
          obtain ⟨ra, rl, rc, rz⟩ := r
          obtain ⟨sa, sl, sc, sz⟩ := r0
          simp only at hck hc0 hFm hFm0 hF hF0 hpk
          rw [hF.1, hF0.1] at hpk
          have HE := Lib.hid (fun W m' (hW : W = w.drewN m') => show Calls Try.prog 64 #[.slice ra rl rc] W (RetV (.bool (serB rz)) W) from by
            subst hW
            exact specSeries_any _ _ _ _ _ (FSl.drewN hF m') hFm)
          have HNot := Lib.hid (fun h => HB.out.trans (not_shp (Z := zz L) (k := k) (by rw [HL.out]; exact hlt) h))
          clear hc hF hF0
          cases hq : serB rz
          · have HF := Lib.hid (HNot.out (by rw [hpk, hq]; rfl))
            rw [hq] at HE
            clear hq hpk HNot
            go_wp2
            go_quiet ((go_at_call 64; exact quiet_add_V (HE.out _ _ rfl)))
            go_wp2
            go_ret
            exact ⟨_, by rw [HF.out]; rfl, (World.drewN_drewN ..).symm⟩
          · by_cases he : rl = sl
            · have hne : ((rl : Int) != (sl : Int)) = false := by rw [bne_eq_false_iff_eq]; omega
              have HN := Lib.hid (show ∀ j, j < k + 1 → shpQ (zz L) j = true from fun j hj => by
                rcases Nat.lt_or_ge j k with g | g
                · exact hp.out j g
                · obtain rfl : j = k := by omega
                  rw [hpk, hq, decide_eq_true he]; rfl)
              rw [hq] at HE
              clear hq hpk hp HNot he
              go_wp2
              go_quiet ((go_at_call 64; exact quiet_add_V (HE.out _ _ rfl)))
              go_wp2
              go_roundw
              case rel => exact ⟨k + 1, _, by omega, by go_num, rfl, HN⟩
              case measure => simp [intOf]; omega
            · have hne : ((rl : Int) != (sl : Int)) = true := by rw [bne_iff_ne]; omega
              have HF := Lib.hid (HNot.out (by rw [hpk, decide_eq_false he]; simp))
              rw [hq] at HE
              clear hq hpk HNot he
              go_wp2
              go_quiet ((go_at_call 64; exact quiet_add_V (HE.out _ _ rfl)))
              go_wp2
              go_ret
              exact ⟨_, by rw [HF.out]; rfl, (World.drewN_drewN ..).symm⟩
        · have HF := Lib.hid (HB.out.trans (all_shp (fun i hi => hp.out i (by rw [HL.out] at hi; omega))))
          clear hp H
          go_wp2
          go_ret
          exact ⟨m, by rw [HF.out]; rfl, rfl⟩
    · have hd2 : decide ((16 : Int) < (n : Int)) = true := decide_eq_true (by omega)
      have HB := Lib.hid (show shpZ (zz L) = false by unfold shpZ; rw [HL.out, decide_eq_false (fun h => h2 h.2)]; rfl)
      go_enter Try.func110, Try.ntmps110
      go_wp2
      go_ret
      exact ⟨0, by rw [HB.out]; rfl, rfl⟩
  · have hd1 : decide ((n : Int) < 1) = true := decide_eq_true (by omega)
    have HB := Lib.hid (show shpZ (zz L) = false by unfold shpZ; rw [HL.out, decide_eq_false (fun h => h1 h.1)]; rfl)
    go_enter Try.func110, Try.ntmps110
    go_wp2
    go_ret
    exact ⟨0, by rw [HB.out]; rfl, rfl⟩
end Go.Proofs.Ytldaamgohdnjnaa

/-
  Cuts: at most 16 finite numbers in ascending order, in both packages.
-/
namespace Go.Proofs.Ytldaamgohdnjnaa
open Ieee Go.RowKit
set_option linter.unusedVariables false

def ltF (x y : Nat) : Bool := (FloatKind.format .f32).order x y == some .lt
/-- The number i is finite, and not less than the one before. -/
def cutQ (zs : List Nat) (i : Nat) : Bool := fin .f32 (zs.getD i 0) && !(decide (0 < i) && ltF (zs.getD i 0) (zs.getD (i - 1) 0))
def cutB (zs : List Nat) : Bool := decide (zs.length ≤ 16) && (List.range zs.length).all (cutQ zs)
theorem all_range {p : Nat → Bool} {n : Nat} (h : ∀ i, i < n → p i = true) : (List.range n).all p = true := by
  rw [List.all_eq_true]; intro i hi; exact h i (by simpa using hi)
theorem not_all_range {p : Nat → Bool} {n k : Nat} (hk : k < n) (h : p k = false) : (List.range n).all p = false := by
  rw [List.all_eq_false]; exact ⟨k, by simpa using hk, by rw [h]; simp⟩
theorem cutQ_fin {zs : List Nat} {i : Nat} (h : fin .f32 (zs.getD i 0) = false) : cutQ zs i = false := by unfold cutQ; rw [h]; rfl
theorem cut_t {zs : List Nat} (h : cutB zs = true) : zs.length ≤ 16 ∧ fins zs = true := by
  unfold cutB at h
  have h1 := of_decide_eq_true (Bool.and_eq_true _ _ ▸ h).1
  have h2 := (Bool.and_eq_true _ _ ▸ h).2
  refine ⟨h1, ?_⟩
  unfold fins
  rw [List.all_eq_true] at h2 ⊢
  intro x hx
  obtain ⟨i, hi, rfl⟩ := List.getElem_of_mem hx
  have := h2 i (by simpa using hi)
  unfold cutQ at this
  have := (Bool.and_eq_true _ _ ▸ this).1
  simpa [List.getD, hi] using this
theorem isNum_any (x : Nat) (w : World) (hx : isN .f32 x = false) : Calls Try.prog 148 #[.float .f32 x] w (RetV (.bool false) w) := by
  have ho : (FloatKind.format .f32).order x x = some .eq := by rw [order_self, hx]; rfl
  go_enter Try.func148, Try.ntmps148
  go_wp2
  go_ret
  exact ⟨0, rfl, rfl⟩
end Go.Proofs.Ytldaamgohdnjnaa

/-
  'nearestOf' of the program: the first least one of numbers that may have failed.
-/
namespace Go.Proofs.Ytldaamgohdnjnaa
open Ieee Go.RowKit
set_option linter.unusedVariables false

structure Nst where
  at_ : Nat
  x : Nat
  ok : Bool
/-- The first least one of the first k. -/
def nst (F : Nat → Nat) (O : Nat → Bool) : Nat → Nst
  | 0 => ⟨0, 0, false⟩
  | k + 1 => if O k && (!(nst F O k).ok || ltF (F k) (nst F O k).x) then ⟨k, F k, true⟩ else nst F O k
/-- The slice holds numbers that may have failed. -/
def MSl (w : World) (a : Option Addr) (n : Nat) (F : Nat → Nat) (O : Nat → Bool) : Prop :=
  n = 0 ∨ ∃ b off, a = some ⟨b, off, none⟩ ∧ b < w.heap.size ∧ ∀ j, j < n → w.cell? ⟨b, off + j * 2, none⟩ = some (.float .f32 (F j)) ∧ w.cell? ⟨b, off + j * 2 + 1, none⟩ = some (.bool (O j))
theorem MSl.below {w w' : World} {a : Option Addr} {n : Nat} {F : Nat → Nat} {O : Nat → Bool} (h : MSl w a n F O) (hb : Below w.heap.size w w') : MSl w' a n F O := by
  rcases h with h | ⟨b, off, rfl, hlt, hc⟩
  · exact .inl h
  · exact .inr ⟨b, off, rfl, Nat.lt_of_lt_of_le hlt hb.size, fun j hj => ⟨by rw [hb.cell (p := ⟨b, off + j * 2, none⟩) hlt]; exact (hc j hj).1, by rw [hb.cell (p := ⟨b, off + j * 2 + 1, none⟩) hlt]; exact (hc j hj).2⟩⟩
def RetNof (r : Nst) (w : World) (e : Ending) (w' : World) : Prop := e = .returned (.tuple #[.int .i64 (r.at_ : Int), .float .f32 r.x, .bool r.ok]) ∧ Below w.heap.size w w'
/-- The best one so far, in its block. -/
structure BstI (p : Nat) (X : Nat) (B : Bool) (wr : World) : Prop where
  x : wr.cell? ⟨p, 0, none⟩ = some (.float .f32 X)
  o : wr.cell? ⟨p, 1, none⟩ = some (.bool B)
  fx : wr.frozen? ⟨p, 0, none⟩ = false
  fo : wr.frozen? ⟨p, 1, none⟩ = false
theorem BstI.below {p X : Nat} {B : Bool} {wr wr' : World} (h : BstI p X B wr) (hp : p < wr.heap.size) (hb : Below wr.heap.size wr wr') : BstI p X B wr' :=
  ⟨by rw [hb.cell (p := ⟨p, 0, none⟩) hp]; exact h.x, by rw [hb.cell (p := ⟨p, 1, none⟩) hp]; exact h.o, by rw [hb.frozen (p := ⟨p, 0, none⟩) hp]; exact h.fx, by rw [hb.frozen (p := ⟨p, 1, none⟩) hp]; exact h.fo⟩
set_option maxHeartbeats 4000000 in
set_option maxRecDepth 100000 in
theorem nof_any (a : Option Addr) (n cap : Nat) (F : Nat → Nat) (O : Nat → Bool) (w : World) (h : MSl w a n F O) (hm : n ≤ 1048576) :
    Calls Try.prog 152 #[.slice a n cap] w (RetNof (nst F O n) w) := by
  have H := Lib.hid h
  clear h
  have HB0 := Lib.hid ((Below.refl w.heap.size w).alloc (Nat.le_refl _) (.cells #[.float .f32 0, .bool false] 165))
  have HI0 := Lib.hid (show BstI w.heap.size 0 false (w.alloc (.cells #[.float .f32 0, .bool false] 165)) from
    ⟨by rw [World.cell?_alloc_at _ _ _ _ rfl]; rfl, by rw [World.cell?_alloc_at _ _ _ _ rfl]; rfl, World.frozen?_alloc_at _ _ _ _ rfl, World.frozen?_alloc_at _ _ _ _ rfl⟩)
  go_enter Try.func152, Try.ntmps152
  go_wp2
  go_loopw [6, 11] (fun c i wr => ∃ k : Nat, k ≤ n ∧ i = .int .i64 k ∧ c = .int .i64 ((nst F O k).at_ : Int) ∧ Hid (BstI w.heap.size (nst F O k).x (nst F O k).ok wr) ∧ Hid (Below w.heap.size w wr) ∧ w.heap.size < wr.heap.size) (fun _ i _ => n - (intOf i).toNat)
  case atStart => exact ⟨0, Nat.zero_le _, rfl, rfl, HI0, HB0, by simp⟩
  case round =>
    rename World => wo
    obtain ⟨k, hk, rfl, rfl, hb, hbel, hsz⟩ := hrel
    by_cases hlt : k < n
    · obtain ⟨b, off, rfl, hblt, hc⟩ : ∃ b off, a = some ⟨b, off, none⟩ ∧ b < w.heap.size ∧ ∀ j, j < n → w.cell? ⟨b, off + j * 2, none⟩ = some (.float .f32 (F j)) ∧ w.cell? ⟨b, off + j * 2 + 1, none⟩ = some (.bool (O j)) := by
        rcases H.out with h0 | h0
        · omega
        · exact h0
      obtain ⟨hc1, hc2⟩ := hc k hlt
      rw [← hbel.out.cell (p := ⟨b, off + k * 2, none⟩) hblt] at hc1
      rw [← hbel.out.cell (p := ⟨b, off + k * 2 + 1, none⟩) hblt] at hc2
      clear hc
      have HU := Lib.hid (fun (o : Obj) => (Below.refl wo.heap.size wo).alloc (Nat.le_refl _) o)
      have HSt := Lib.hid (show nst F O (k + 1) = if O k && (!(nst F O k).ok || ltF (F k) (nst F O k).x) then ⟨k, F k, true⟩ else nst F O k from rfl)
      have HKo := Lib.hid (show ∀ o, BstI w.heap.size (nst F O k).x (nst F O k).ok (wo.alloc o) from fun o =>
        ⟨by rw [(HU.out o).cell (p := ⟨w.heap.size, 0, none⟩) hsz]; exact hb.out.x, by rw [(HU.out o).cell (p := ⟨w.heap.size, 1, none⟩) hsz]; exact hb.out.o, by rw [(HU.out o).frozen (p := ⟨w.heap.size, 0, none⟩) hsz]; exact hb.out.fx, by rw [(HU.out o).frozen (p := ⟨w.heap.size, 1, none⟩) hsz]; exact hb.out.fo⟩)
      have HBo := Lib.hid (show ∀ o, Below w.heap.size w (wo.alloc o) from fun o => hbel.out.alloc (Nat.le_of_lt hsz) o)
      generalize nst F O k = S at *
      obtain ⟨A, X, B⟩ := S
      simp only at HSt HKo
      have hw1 := hb.out.x
      have hw2 := hb.out.o
      have hw3 := hb.out.fx
      have hw4 := hb.out.fo
      simp only at hw1 hw2
      cases hO : O k
      · rw [hO] at hc2
        have HS := Lib.hid (show nst F O (k + 1) = ⟨A, X, B⟩ by rw [HSt.out, hO]; rfl)
        have HK := Lib.hid (Lib.hid (HKo.out (.cells #[.float .f32 (F k), .bool false] 165)))
        have HBl := Lib.hid (Lib.hid (HBo.out (.cells #[.float .f32 (F k), .bool false] 165)))
        clear hO HSt HKo HBo hb hbel HU
        go_wp2
        go_roundw
        case rel => exact ⟨k + 1, by omega, by go_num, by rw [HS.out], by rw [HS.out]; exact HK.out, HBl.out, by simp; omega⟩
        case measure => simp [intOf]; omega
      · rw [hO] at hc2
        have hK := HKo.out (.cells #[.float .f32 (F k), .bool true] 165)
        have hk1 := hK.x
        have hk2 := hK.o
        have hk3 := hK.fx
        have hk4 := hK.fo
        have HSet := Lib.hid (show BstI w.heap.size (F k) true ((((wo.setCell ⟨w.heap.size, 0, none⟩ (.float .f32 (F k))).setCell ⟨w.heap.size, 1, none⟩ (.bool true)).alloc (.cells #[.float .f32 (F k), .bool true] 165)).drew) from
          BstI.below (wr := (wo.setCell ⟨w.heap.size, 0, none⟩ (.float .f32 (F k))).setCell ⟨w.heap.size, 1, none⟩ (.bool true))
          ⟨by rw [setCell_far (by omega)]; exact World.cell?_setCell_same' _ _ _ ((congrArg Option.isSome hw1).trans rfl), World.cell?_setCell_same' _ _ _ (by rw [setCell_far (by omega)]; exact (congrArg Option.isSome hw2).trans rfl), by rw [World.frozen?_setCell, World.frozen?_setCell]; exact hw3, by rw [World.frozen?_setCell, World.frozen?_setCell]; exact hw4⟩ (by simpa [World.setCell] using hsz) (below_drewN ((Below.refl _ _).alloc (Nat.le_refl _) _) 1))
        have HBl := Lib.hid (Lib.hid (HBo.out (.cells #[.float .f32 (F k), .bool true] 165)))
        have HBl2 := Lib.hid (show Below w.heap.size w ((((wo.setCell ⟨w.heap.size, 0, none⟩ (.float .f32 (F k))).setCell ⟨w.heap.size, 1, none⟩ (.bool true)).alloc (.cells #[.float .f32 (F k), .bool true] 165)).drew) from
          below_drewN (((hbel.out.setCell (Nat.le_refl _) _).setCell (Nat.le_refl _) _).alloc (by simp [World.setCell]; omega) _) 1)
        have HK := Lib.hid (Lib.hid hK)
        have hsz1 : w.heap.size ≠ wo.heap.size := by omega
        clear hK HKo HBo hb hbel HU
        cases hB : B
        · rw [hB] at hk2 hw2
          have HS := Lib.hid (show nst F O (k + 1) = ⟨k, F k, true⟩ by rw [HSt.out, hO, hB]; rfl)
          clear hO HSt hB HK
          go_wp2
          go_region
          all_goals
            go_wp2
            go_roundw
            case rel => exact ⟨k + 1, by omega, by go_num, by rw [HS.out], by rw [HS.out]; exact HSet, HBl2, by simp [World.setCell]; omega⟩
            case measure => simp [intOf]; omega
        · rw [hB] at hk2 hw2
          cases hl : ltF (F k) X
          · have ho : ((FloatKind.format .f32).order (F k) X == some Ordering.lt) = false := hl
            have HS := Lib.hid (show nst F O (k + 1) = ⟨A, X, B⟩ by rw [HSt.out, hO, hB, hl]; rfl)
            clear hO HSt hl hB
            go_wp2
            go_roundw
            case rel => exact ⟨k + 1, by omega, by go_num, by rw [HS.out], by rw [HS.out]; exact HK.out, HBl.out, by simp; omega⟩
            case measure => simp [intOf]; omega
          · have ho : ((FloatKind.format .f32).order (F k) X == some Ordering.lt) = true := hl
            have HS := Lib.hid (show nst F O (k + 1) = ⟨k, F k, true⟩ by rw [HSt.out, hO, hl]; simp)
            clear hO HSt hl hB HK
            go_wp2
            go_region
            all_goals
              go_wp2
              go_roundw
              case rel => exact ⟨k + 1, by omega, by go_num, by rw [HS.out], by rw [HS.out]; exact HSet, HBl2, by simp [World.setCell]; omega⟩
              case measure => simp [intOf]; omega
    · have e : k = n := by omega
      have h1 := hb.out.x
      have h2 := hb.out.o
      have HR := Lib.hid e
      clear e
      generalize hS : nst F O k = S at *
      obtain ⟨A, X, B⟩ := S
      have HV := Lib.hid hS
      clear hS
      go_wp2
      go_region
      all_goals
        go_wp2
        go_ret3
        exact ⟨by rw [← HR.out, HV.out]; rfl, below_drewN hbel.out _⟩
end Go.Proofs.Ytldaamgohdnjnaa

/-
  'summed' of the program, over any closure.
-/
namespace Go.Proofs.Ytldaamgohdnjnaa
open Ieee Go.RowKit
set_option linter.unusedVariables false

/-- What a closure's call gives that is summed. -/
def Adds (tell : Nat → Nat) (I : Nat → World → Prop) (B0 k : Nat) (wr : World) (e : Ending) (w' : World) : Prop :=
  ∃ r, e = .returned (.float .f32 r) ∧ cn .f32 r = tell k ∧ I (k + 1) w' ∧ Below B0 wr w'
def RetS (tell : Nat → Nat) (I : Nat → World → Prop) (B0 n : Nat) (w : World) (e : Ending) (w' : World) : Prop :=
  ∃ r, e = .returned (.float .f32 r) ∧ cn .f32 r = sumT tell n ∧ I n w' ∧ Below B0 w w'
theorem Adds.quiet {tell : Nat → Nat} {I : Nat → World → Prop} {B0 k n r : Nat} {wr : World} (hr : cn .f32 r = tell k) (hI : I (k + 1) (wr.drewN n)) : Adds tell I B0 k wr (.returned (.float .f32 r)) (wr.drewN n) :=
  ⟨r, rfl, hr, hI, below_drewN (Below.refl _ _) n⟩
set_option maxRecDepth 100000 in
theorem summed_any (K : FuncId) (caps : Array Value) (tell : Nat → Nat) (I : Nat → World → Prop) (B0 n : Nat) (w : World) (hen : ∀ args w, (callFunc K args).run Try.prog w = .ok (.enter K args) w) (hn : n ≤ 1048576) (hB : B0 ≤ w.heap.size)
    (h0 : I 0 w) (hI : ∀ k m wr, I k wr → I k (wr.drewN m))
    (hcl : ∀ k wr, k < n → w.heap.size ≤ wr.heap.size → I k wr → Calls Try.prog K (#[.int .i64 k] ++ caps) wr (Adds tell I B0 k wr)) :
    Calls Try.prog 127 #[.int .i64 n, .func (.func K) #[] caps] w (RetS tell I B0 n w) := by
  have HI := Lib.hid hI
  have HC := Lib.hid hcl
  have H0 := Lib.hid h0
  clear hI hcl h0
  go_enter Try.func127, Try.ntmps127
  go_wp2
  go_loopw [5, 6, 8] (fun s p i wr => ∃ (k r : Nat), k ≤ n ∧ i = .int .i64 k ∧ s = .float .f32 r ∧ Hid (cn .f32 r = sumT tell k) ∧ Hid (I k wr) ∧ Hid (Below B0 w wr) ∧ w.heap.size ≤ wr.heap.size) (fun _ _ i _ => n - (intOf i).toNat)
  case atStart => exact ⟨0, 0, Nat.zero_le _, rfl, rfl, Lib.hid cn_zero, H0, Lib.hid (Below.refl _ _), Nat.le_refl _⟩
  case round =>
    rename_i wr
    obtain ⟨k, r, hk, rfl, rfl, hr, hi, hbel, hsz⟩ := hrel
    by_cases hlt : k < n
    · go_wp2_with fail
      refine (HC.out k _ hlt hsz hi.out).mono ?_
      rintro e w1 ⟨x, rfl, hx, hi1, hb1⟩
      have HI1 := Lib.hid (fun m => HI.out _ m _ hi1)
      have HB1 := Lib.hid (hbel.out.trans hb1)
      have HSz := Lib.hid (show w.heap.size ≤ w1.heap.size from Nat.le_trans hsz hb1.size)
      have HRc := Lib.hid (fun w' => sum_step hr.out hx w')
      clear hx hi1 hb1 hi hbel hsz hr
      go_wp2
      go_roundw
      case rel => exact ⟨k + 1, _, by omega, by go_num, rfl, Lib.hid (HRc.out _), Lib.hid (HI1.out _), Lib.hid (below_drewN HB1.out _), HSz.out⟩
      case measure => simp [intOf]; omega
    · obtain rfl : k = n := by omega
      clear HC HI H0
      go_wp2
      go_ret
      exact ⟨r, rfl, hr.out, hi.out, hbel.out⟩
end Go.Proofs.Ytldaamgohdnjnaa

/-
  SpreadOf, in both packages.
-/
namespace Go.Proofs.Ytldaamgohdnjnaa
open Ieee Go.RowKit
set_option linter.unusedVariables false

theorem root32_cn (x : Nat) : root32 (cn .f32 x) = root32 x := by unfold root32; rw [awide_cn]
theorem root32_congr {x y : Nat} (h : cn .f32 x = cn .f32 y) : root32 x = root32 y := by rw [← root32_cn x, h, root32_cn]
/-- The spread of a list, up to not-a-numbers. -/
def spread32 (zs : List Nat) : Nat := root32 (aop .quo .f32 (sqTo zs (mean32 zs) zs.length) (cn .f32 (i2f zs.length)))
def spreadB (zs : List Nat) : Bool := serB zs && fin .f32 (spread32 zs)
def spreadR (zs : List Nat) : Nat := if spreadB zs then spread32 zs else 0

theorem cn_root32 (x : Nat) : cn .f32 (root32 x) = root32 x := cn_anar _
theorem cn_spread (zs : List Nat) : cn .f32 (spread32 zs) = spread32 zs := cn_root32 _
theorem fin_sqTo {zs : List Nat} {m : Nat} : ∀ {k : Nat}, 0 < k → fin .f32 (sqTo zs m k) = true → fin .f32 m = true
  | k + 1, _, h => by
    unfold sqTo at h
    exact (fin_sub (fin_mul (fin_add h).2).1).2
theorem spread_mean {zs : List Nat} (h : spreadB zs = true) : meanB zs = true := by
  unfold spreadB at h
  have h1 := (Bool.and_eq_true _ _ ▸ h).1
  have h2 := (Bool.and_eq_true _ _ ▸ h).2
  unfold meanB
  rw [h1, fin_sqTo (serB_t h1).1 (fin_quo (fin_root h2))]
  rfl
theorem spread_word {rs zs : List Nat} {d x : Nat} (hd : cn .f32 d = sqTo zs (cn .f32 x) zs.length) (hx : cn .f32 x = mean32 zs) (w : World) :
    root32 (fopR .quo .f32 d (floatOfInt .f32 zs.length) w) = spread32 zs := by
  unfold spread32
  refine root32_congr ?_
  rw [cn_fopR, hd, hx, cn_aop]
  rfl
theorem spread_end {zs : List Nat} {r x : Nat} (h : cn .f32 r = if fin .f32 x then cn .f32 x else 0) (hs : serB zs = true) (hx : cn .f32 x = spread32 zs) : cn .f32 r = spreadR zs ∧ fin .f32 x = spreadB zs := by
  have hf : fin .f32 x = fin .f32 (spread32 zs) := fin_congr (hx.trans (cn_spread zs).symm)
  have hB : spreadB zs = fin .f32 (spread32 zs) := by unfold spreadB; rw [hs]; rfl
  rw [h, hf, hx, hB]
  unfold spreadR
  rw [hB]
  exact ⟨rfl, rfl⟩
/-- A float and a bool, behind calls that make memory. -/
def RetFBb (k : FloatKind) (v : Nat) (b : Bool) (w : World) (e : Ending) (w' : World) : Prop := ∃ r, cn k r = v ∧ e = .returned (.tuple #[.float k r, .bool b]) ∧ Below w.heap.size w w'
theorem implSpread_any (a : Option Addr) (len cap : Nat) (zs : List Nat) (w : World) (h : FSl w a len zs) (hm : len ≤ 1048576) :
    Calls Try.prog 185 #[.slice a len cap] w (RetFB .f32 (spreadR zs) (spreadB zs) w) := by
  have H := Lib.hid h
  have HL := Lib.hid h.1
  clear h
  cases hs : meanB zs
  · have HS := Lib.hid hs
    have HB := Lib.hid (show spreadB zs = false from Bool.eq_false_iff.2 fun hb => Bool.false_ne_true (hs.symm.trans (spread_mean hb)))
    clear hs
    go_enter Try.func185, Try.ntmps185
    go_wp2_with (go_at_call 183; refine (implMean_any _ _ _ _ _ H.out hm).mono ?_; rw [HS.out]; rintro e w' ⟨r, m, hr, rfl, rfl⟩; clear hr)
    go_ret2
    exact ⟨_, m, by unfold spreadR; rw [HB.out]; exact cn_zero, by rw [HB.out]; rfl, rfl⟩
  · have HS := Lib.hid hs
    have HV := Lib.hid (show meanR zs = mean32 zs by unfold meanR; rw [hs]; rfl)
    have HSe := Lib.hid (show serB zs = true from (Bool.and_eq_true _ _ ▸ (show (serB zs && fin .f32 (mean32 zs)) = true from hs)).1)
    clear hs
    go_enter Try.func185, Try.ntmps185
    go_wp2_with fail
    refine (implMean_any _ _ _ _ _ H.out hm).mono ?_
    rw [HS.out, HV.out]
    rintro e w' ⟨x, m, hx, rfl, rfl⟩
    have HX := Lib.hid hx
    clear hx
    go_wp2_with fail
    refine (implSquares_any _ _ _ _ _ _ (FSl.drewN H.out m) hm).mono ?_
    rintro e w' ⟨d, n, hd, rfl, rfl⟩
    have HD := Lib.hid hd
    clear hd
    go_wp2_with fail
    refine (implRoot_any _ _).mono ?_
    rintro e w' ⟨r, n3, hr, rfl, rfl⟩
    have Hr := Lib.hid hr
    clear hr
    go_wp2_with fail
    refine (implOnly_any _ _).mono ?_
    rintro e w' ⟨r', n', hr', rfl, rfl⟩
    have HR' := Lib.hid hr'
    clear hr'
    go_wp2
    go_ret2
    have W := spread_end HR'.out HSe.out (by rw [Hr.out, ← HL.out]; exact spread_word (rs := zs) (by rw [HD.out, ← HL.out]) HX.out _)
    exact ⟨r', _, W.1, by rw [← W.2]; rfl, rfl⟩
end Go.Proofs.Ytldaamgohdnjnaa

/-
  'rootOfSquares' of the program, over any closure that only reads.
-/
namespace Go.Proofs.Ytldaamgohdnjnaa
open Ieee Go.RowKit
set_option linter.unusedVariables false

def sqT (t : Nat → Nat) (k : Nat) : Nat := aop .mul .f32 (t k) (t k)
/-- The root of the sum of the first squares. -/
def rosX (t : Nat → Nat) (n : Nat) : Nat := root32 (sumT (sqT t) n)
def rosB (t : Nat → Nat) (n : Nat) : Bool := fin .f32 (rosX t n)
def rosV (t : Nat → Nat) (n : Nat) : Nat := if rosB t n then rosX t n else 0
theorem cn_rosX (t : Nat → Nat) (n : Nat) : cn .f32 (rosX t n) = rosX t n := cn_root32 _
theorem rosX_congr {f g : Nat → Nat} {n : Nat} (h : ∀ k, k < n → f k = g k) : rosX f n = rosX g n := by
  unfold rosX
  rw [sumT_congr (f := sqT f) (g := sqT g) fun k hk => by unfold sqT; rw [h k hk]]
/-- What the closure of rootOfSquares reads. -/
def SqrI (bt : Nat) (K : FuncId) (caps : Array Value) (I : World → Prop) (_k : Nat) (wr : World) : Prop :=
  wr.cell? ⟨bt, 0, none⟩ = some (.func (.func K) #[] caps) ∧ I wr
theorem sqr1_any (bt B0 k : Nat) (K : FuncId) (caps : Array Value) (tell : Nat → Nat) (I : World → Prop) (wr : World)
    (hen : ∀ args w, (callFunc K args).run Try.prog w = .ok (.enter K args) w)
    (hI : ∀ wr n, I wr → I (wr.drewN n)) (hK : Calls Try.prog K (#[.int .i64 k] ++ caps) wr (RetF .f32 (tell k) wr))
    (h : SqrI bt K caps I k wr) :
    Calls Try.prog 188 #[.int .i64 k, .pointer (some ⟨bt, 0, none⟩)] wr (Adds (sqT tell) (SqrI bt K caps I) B0 k wr) := by
  obtain ⟨hc, hi⟩ := h
  have HK := Lib.hid hK
  have HI := Lib.hid (fun n => hI wr n hi)
  have HC := Lib.hid hc
  clear hK hi
  go_enter Try.func188, Try.ntmps188
  go_wp2_with fail
  refine HK.out.mono ?_
  rintro e w' ⟨x, n, hx, rfl, rfl⟩
  have HX := Lib.hid hx
  clear hx
  go_wp2
  go_ret
  refine Adds.quiet ?_ ⟨HC.out, HI.out _⟩
  rw [cn_fopR, HX.out]; rfl
set_option maxRecDepth 100000 in
theorem ros_any (K : FuncId) (caps : Array Value) (tell : Nat → Nat) (I : World → Prop) (n : Nat) (w : World)
    (hen : ∀ args w, (callFunc K args).run Try.prog w = .ok (.enter K args) w) (hn : n ≤ 1048576)
    (h0 : I w) (hI : ∀ wr wr', I wr → Below w.heap.size wr wr' → I wr')
    (hK : ∀ k wr, k < n → I wr → Calls Try.prog K (#[.int .i64 k] ++ caps) wr (RetF .f32 (tell k) wr)) :
    Calls Try.prog 176 #[.int .i64 n, .func (.func K) #[] caps] w (RetFBk (rosV tell n) (rosB tell n) w.heap.size w) := by
  have hmf : ∀ (fn : Fn) (first cap : Array Value) (w : World), (Instr.makeFunc fn first cap).run Try.prog w = .ok (.func fn first cap) w := fun _ _ _ _ => rfl
  have b1 := (Below.refl w.heap.size w).alloc (Nat.le_refl _) (.cells #[.func (.func K) #[] caps] 103)
  have HI0 := Lib.hid (show SqrI w.heap.size K caps I 0 (w.alloc (.cells #[.func (.func K) #[] caps] 103)) from ⟨by rw [World.cell?_alloc_at _ _ _ _ rfl]; rfl, hI _ _ h0 b1⟩)
  have HB := Lib.hid b1
  have HJ := Lib.hid hI
  have HK := Lib.hid hK
  clear b1 h0 hI hK
  go_enter Try.func176, Try.ntmps176
  go_wp2_with fail
  refine (summed_any 188 #[.pointer (some ⟨w.heap.size, 0, none⟩)] (sqT tell) (SqrI w.heap.size K caps I) w.heap.size n _ (enter_of Try.func188 (by kernel_rfl) rfl) hn (by simp) HI0.out (fun k m wr h => ⟨h.1, HJ.out _ _ h.2 (below_drewN (Below.refl _ _) m)⟩)
    (fun k wr hk hsz h => sqr1_any _ _ _ _ _ _ _ _ hen (fun wr n hi => HJ.out _ _ hi (below_drewN (Below.refl _ _) n)) (HK.out k wr hk h.2) h)).mono ?_
  rintro e w1 ⟨s, rfl, hs, hi1, hb⟩
  have HS := Lib.hid hs
  have HB1 := Lib.hid (HB.out.trans hb)
  clear hs hi1 hb
  go_wp2_with fail
  refine (implRoot_any _ _).mono ?_
  rintro e w' ⟨x, m, hx, rfl, rfl⟩
  have HX := Lib.hid (show cn .f32 x = rosX tell n by rw [hx]; unfold rosX; rw [← HS.out]; exact (root32_cn s).symm)
  clear hx
  go_wp2_with fail
  refine (implOnly_any _ _).mono ?_
  rintro e w' ⟨r, m2, hr, rfl, rfl⟩
  have HR := Lib.hid hr
  clear hr
  go_wp2
  go_ret2
  have hf : fin .f32 x = rosB tell n := fin_congr (HX.out.trans (cn_rosX ..).symm)
  exact ⟨r, by rw [HR.out, hf, HX.out]; rfl, by rw [← hf]; rfl, below_drewN HB1.out _⟩
end Go.Proofs.Ytldaamgohdnjnaa

/-
  FarOfShapes, in both packages.
-/
namespace Go.Proofs.Ytldaamgohdnjnaa
open Ieee Go.RowKit
set_option linter.unusedVariables false

def subT (x y : Nat) : Nat := aop .sub .f32 x y
/-- How far two lists of the same length are apart. -/
def farX (zs ys : List Nat) : Nat := rosX (tell2 subT zs ys) zs.length
def farB (zs ys : List Nat) : Bool := pairB zs ys && fin .f32 (farX zs ys)
def farV (zs ys : List Nat) : Nat := if farB zs ys then farX zs ys else 0
theorem cn_farX (zs ys : List Nat) : cn .f32 (farX zs ys) = farX zs ys := cn_rosX _ _
theorem far_bad {zs ys : List Nat} (h : pairB zs ys = false) : farB zs ys = false ∧ farV zs ys = 0 := by
  have : farB zs ys = false := by unfold farB; rw [h]; rfl
  exact ⟨this, by unfold farV; rw [this]; rfl⟩
theorem far_good {zs ys : List Nat} (h : pairB zs ys = true) : farB zs ys = rosB (tell2 subT zs ys) zs.length ∧ farV zs ys = rosV (tell2 subT zs ys) zs.length := by
  have : farB zs ys = rosB (tell2 subT zs ys) zs.length := by unfold farB; rw [h]; rfl
  exact ⟨this, by unfold farV; rw [this]; rfl⟩

/-- What the closure of FarOfShapes reads. -/
def FarI (ba bb : Nat) (a : Option Addr) (len cap : Nat) (zs : List Nat) (a' : Option Addr) (len' cap' : Nat) (ys : List Nat) (wr : World) : Prop :=
  BoxI ba a len cap zs wr ∧ BoxI bb a' len' cap' ys wr
theorem far1_any (ba bb k : Nat) (a : Option Addr) (len cap : Nat) (zs : List Nat) (a' : Option Addr) (len' cap' : Nat) (ys : List Nat) (wr : World)
    (h : FarI ba bb a len cap zs a' len' cap' ys wr) (hk : k < len) (hk' : k < len') (hm : len ≤ 1048576) (hm' : len' ≤ 1048576) :
    Calls Try.prog 177 #[.int .i64 k, .pointer (some ⟨ba, 0, none⟩), .pointer (some ⟨bb, 0, none⟩)] wr (RetF .f32 (tell2 subT zs ys k) wr) := by
  obtain ⟨⟨hc, hb⟩, ⟨hc', hb'⟩⟩ := h
  obtain ⟨b, off, rfl, _, hcs⟩ := hb (by omega)
  obtain ⟨b', off', rfl, _, hcs'⟩ := hb' (by omega)
  have hck := hcs k hk
  have hck' := hcs' k hk'
  have HT := Lib.hid (show tell2 subT zs ys k = subT (cn .f32 (zs.getD k 0)) (cn .f32 (ys.getD k 0)) from rfl)
  clear hcs hcs' hb hb'
  generalize zs.getD k 0 = z at *
  generalize ys.getD k 0 = y at *
  go_enter Try.func177, Try.ntmps177
  go_wp2
  go_region
  all_goals
    go_wp2
    go_ret
    exact ⟨_, _, by rw [cn_fopR, HT.out]; rfl, rfl, rfl⟩
set_option maxHeartbeats 2000000 in
set_option maxRecDepth 100000 in
theorem imFar_any (a : Option Addr) (len cap : Nat) (zs : List Nat) (a' : Option Addr) (len' cap' : Nat) (ys : List Nat) (w : World)
    (h : FSl w a len zs) (h' : FSl w a' len' ys) (hm : len ≤ 1048576) (hm' : len' ≤ 1048576) :
    Calls Try.prog 151 #[.slice a len cap, .slice a' len' cap'] w (RetFBk (farV zs ys) (farB zs ys) w.heap.size w) := by
  have hmf : ∀ (fn : Fn) (first cap : Array Value) (w : World), (Instr.makeFunc fn first cap).run Try.prog w = .ok (.func fn first cap) w := fun _ _ _ _ => rfl
  have HL := Lib.hid h.1
  have HL' := Lib.hid h'.1
  have b1 := (Below.refl w.heap.size w).alloc (Nat.le_refl _) (.cells #[.slice a len cap] 22)
  have b2 := b1.alloc (by simp <;> omega) (.cells #[.slice a' len' cap'] 22)
  have X1 := BoxI.start (cap := cap) (t := 22) h
  have X2 : BoxI (w.heap.size + 1) a' len' cap' ys ((w.alloc (.cells #[.slice a len cap] 22)).alloc (.cells #[.slice a' len' cap'] 22)) := by simpa using BoxI.start (cap := cap') (t := 22) (FSl.below h' b1)
  have G := Lib.hid b2
  have Y1 := Lib.hid (X1.keep (B := w.heap.size + 1) (by omega) ((Below.refl _ _).alloc (by simp <;> omega) (.cells #[.slice a' len' cap'] 22)))
  have Y2 := Lib.hid X2
  have H1 := Lib.hid (FSl.below h b2)
  have H2 := Lib.hid (FSl.below h' b2)
  have hc1 := Y1.out.1
  have hc2 := Y2.out.1
  clear h h' b1 b2 X1 X2
  go_enter Try.func151, Try.ntmps151
  go_wp2_with fail
  refine (implAre_any _ 2 2 [⟨a, len, cap, zs⟩, ⟨a', len', cap', ys⟩] _ (by simpa using RSl.pair (cap := cap) (cap' := cap') 22 H1.out H2.out hm hm') (by omega)).mono ?_
  rintro e w' ⟨m, rfl, rfl⟩
  rw [are_pair]
  have G2 := Lib.hid (below_drewN (G.out.alloc (by simp <;> omega) (.cells #[.slice a len cap, .slice a' len' cap'] 22)) m)
  cases hp : pairB zs ys
  · have HB := Lib.hid (far_bad hp)
    clear hp
    go_wp2
    go_ret2
    exact ⟨0, by rw [HB.out.2]; exact cn_zero, by rw [HB.out.1]; rfl, G2.out⟩
  · obtain ⟨hs, hs', hll⟩ := pairB_t hp
    rw [HL.out, HL'.out] at hll
    subst hll
    have HB := Lib.hid (far_good hp)
    have hk1 : ∀ {bl : Nat} {A : Option Addr} {l c : Nat} {xs : List Nat} {W : World} (o : Obj) (n : Nat), bl < W.heap.size → BoxI bl A l c xs W → BoxI bl A l c xs ((W.alloc o).drewN n) := fun o n hb hx => hx.keep hb (below_drewN ((Below.refl _ _).alloc (Nat.le_refl _) o) n)
    have HI0 := Lib.hid (show FarI w.heap.size (w.heap.size + 1) a len cap zs a' len cap' ys ((((w.alloc (.cells #[.slice a len cap] 22)).alloc (.cells #[.slice a' len cap'] 22)).alloc (.cells #[.slice a len cap, .slice a' len cap'] 22)).drewN m) from
      ⟨hk1 _ _ (by simp <;> omega) Y1.out, hk1 _ _ (by simp <;> omega) Y2.out⟩)
    have hd1 := HI0.out.1.1
    clear hp hs hs' hk1
    go_wp2_with fail
    refine (ros_any 177 #[.pointer (some ⟨w.heap.size, 0, none⟩), .pointer (some ⟨w.heap.size + 1, 0, none⟩)] (tell2 subT zs ys) (FarI w.heap.size (w.heap.size + 1) a len cap zs a' len cap' ys) len _ (enter_of Try.func177 (by kernel_rfl) rfl) hm HI0.out
      (fun wr wr' h hb => ⟨h.1.keep (by simp <;> omega) hb, h.2.keep (by simp <;> omega) hb⟩)
      (fun k wr hk h => far1_any _ _ _ _ _ _ _ _ _ _ _ _ h hk hk hm hm')).mono ?_
    rintro e w2 ⟨r, hr, rfl, hb⟩
    have HR := Lib.hid (show cn .f32 r = farV zs ys by rw [hr, HB.out.2, HL.out])
    have HE := Lib.hid (show rosB (tell2 subT zs ys) len = farB zs ys by rw [HB.out.1, HL.out])
    have HF := Lib.hid (G2.out.trans (hb.mono (by have := G2.out.size; exact this)))
    rw [HE.out]
    clear hr hb
    go_wp2
    go_ret2
    exact ⟨r, HR.out, rfl, HF.out⟩
theorem l07Far_any (a : Option Addr) (len cap : Nat) (zs : List Nat) (a' : Option Addr) (len' cap' : Nat) (ys : List Nat) (w : World) (h : FSl w a len zs) (h' : FSl w a' len' ys) (hm : len ≤ 1048576) (hll : len ≤ len') :
    Calls Try.prog 104 #[.slice a len cap, .slice a' len' cap'] w (RetF .f32 (farX zs ys) w) := by
  have H := Lib.hid h
  have H' := Lib.hid h'
  have HL := Lib.hid h.1
  clear h h'
  go_enter Try.func104, Try.ntmps104
  go_wp2
  go_loopw [5, 10] (fun s i wr => ∃ k n r : Nat, k ≤ len ∧ i = .int .i64 k ∧ s = .float .f32 r ∧ wr = w.drewN n ∧ Hid (cn .f32 r = sumT (sqT (tell2 subT zs ys)) k)) (fun _ i _ => len - (intOf i).toNat)
  case atStart => exact ⟨0, 0, 0, Nat.zero_le _, rfl, rfl, rfl, Lib.hid cn_zero⟩
  case round =>
    obtain ⟨k, n, r, hk, rfl, rfl, rfl, hr⟩ := hrel
    by_cases hlt : k < len
    · obtain ⟨b, off, rfl, hb, hc⟩ := H.out.at (by omega)
      obtain ⟨b', off', rfl, hb', hc'⟩ := H'.out.at (by omega)
      have hck := hc k hlt
      have hck' := hc' k (by omega)
      have hstep := Lib.hid (show ∀ z y, zs.getD k 0 = z → ys.getD k 0 = y → ∀ w1 w2 w3, cn .f32 (fopR .add .f32 r (fopR .mul .f32 (fopR .sub .f32 z y w1) (fopR .sub .f32 z y w1) w2) w3) = sumT (sqT (tell2 subT zs ys)) (k + 1) from fun z y hz hy w1 w2 w3 => by
        rw [cn_fopR, cn_fopR, cn_fopR, hr.out, ← hz, ← hy]; rfl)
      obtain ⟨z, hz⟩ : ∃ z, zs.getD k 0 = z := ⟨_, rfl⟩
      obtain ⟨y, hy⟩ : ∃ y, ys.getD k 0 = y := ⟨_, rfl⟩
      rw [hz] at hck
      rw [hy] at hck'
      have hst2 := Lib.hid (hstep.out z y hz hy)
      clear hc hc' hb hb' H H' hr hstep hz hy
      go_wp2
      go_region
      all_goals
        go_wp2
        go_roundw
        case rel => exact ⟨k + 1, _, _, by omega, by go_num, rfl, rfl, Lib.hid (hst2.out _ _ _)⟩
        case measure => simp [intOf]; omega
    · have e : k = len := by omega
      subst e
      have HR := Lib.hid hr.out
      clear H H' hr
      go_wp2_with fail
      refine (specRoot_any _ _).mono ?_
      rintro e w' ⟨x, m, hx, rfl, rfl⟩
      have HX := Lib.hid hx
      clear hx
      go_wp2
      go_ret
      exact ⟨x, _, by rw [HX.out]; unfold farX rosX; rw [HL.out, ← HR.out]; exact (root32_cn r).symm, rfl, rfl⟩
theorem far_end {zs ys : List Nat} {r x : Nat} (h : cn .f32 r = if fin .f32 x then cn .f32 x else 0) (hs : pairB zs ys = true) (hx : cn .f32 x = farX zs ys) : cn .f32 r = farV zs ys ∧ fin .f32 x = farB zs ys := by
  have hf : fin .f32 x = farB zs ys := by rw [fin_congr (hx.trans (cn_farX ..).symm)]; unfold farB; rw [hs]; rfl
  exact ⟨by rw [h, hf, hx]; rfl, hf⟩
end Go.Proofs.Ytldaamgohdnjnaa

/-
  NearestShape, in both packages.
-/
namespace Go.Proofs.Ytldaamgohdnjnaa
open Ieee Go.RowKit
set_option linter.unusedVariables false

theorem fin_word {r v : Nat} (h : cn .f32 r = v) (hf : fin .f32 v = true) : r = v := by
  have hN : isN .f32 r = false := by
    rw [← isN_cn, h]
    unfold fin at hf
    cases hn : isN .f32 v
    · rfl
    · rw [hn] at hf; cases hf
  rw [← h, cn_num hN]
/-- How far the series k of a list is from x. -/
def nF (Z : List (List Nat)) (x : List Nat) (k : Nat) : Nat := farX (Z.getD k []) x
def nsAll (Z : List (List Nat)) (x : List Nat) : Bool := (List.range Z.length).all (fun k => farB (Z.getD k []) x)
def nsB (Z : List (List Nat)) (x : List Nat) : Bool := shpZ Z && nsAll Z x
def nsN (Z : List (List Nat)) (x : List Nat) : Nst := nst (nF Z x) (fun _ => true) Z.length
def nsI (Z : List (List Nat)) (x : List Nat) : Int := if nsB Z x then ((nsN Z x).at_ : Int) else 0
def nsV (Z : List (List Nat)) (x : List Nat) : Nat := if nsB Z x then (nsN Z x).x else 0
theorem ns_bad {Z : List (List Nat)} {x : List Nat} (h : nsB Z x = false) : nsI Z x = 0 ∧ nsV Z x = 0 ∧ nsB Z x = false := ⟨by unfold nsI; rw [h]; rfl, by unfold nsV; rw [h]; rfl, h⟩
theorem nst_ok (F : Nat → Nat) : ∀ {n : Nat}, 1 ≤ n → (nst F (fun _ => true) n).ok = true
  | 1, _ => by simp [nst]
  | n + 2, _ => by
    have := nst_ok F (n := n + 1) (by omega)
    rw [show nst F (fun _ => true) (n + 2) = if (true && (!(nst F (fun _ => true) (n + 1)).ok || ltF (F (n + 1)) (nst F (fun _ => true) (n + 1)).x)) = true then ⟨n + 1, F (n + 1), true⟩ else nst F (fun _ => true) (n + 1) from rfl]
    split
    · rfl
    · exact this
/-- The least one is one of them. -/
theorem nst_one (F : Nat → Nat) : ∀ {n : Nat}, 1 ≤ n → ∃ j, j < n ∧ (nst F (fun _ => true) n).at_ = j ∧ (nst F (fun _ => true) n).x = F j
  | 1, _ => ⟨0, by omega, by simp [nst], by simp [nst]⟩
  | n + 2, _ => by
    obtain ⟨j, h1, h2, h3⟩ := nst_one F (n := n + 1) (by omega)
    rw [show nst F (fun _ => true) (n + 2) = if (true && (!(nst F (fun _ => true) (n + 1)).ok || ltF (F (n + 1)) (nst F (fun _ => true) (n + 1)).x)) = true then ⟨n + 1, F (n + 1), true⟩ else nst F (fun _ => true) (n + 1) from rfl]
    split
    · exact ⟨n + 1, by omega, rfl, rfl⟩
    · exact ⟨j, by omega, h2, h3⟩
def RetNS (i : Int) (v : Nat) (b : Bool) (w : World) (e : Ending) (w' : World) : Prop := ∃ r, cn .f32 r = v ∧ e = .returned (.tuple #[.int .i64 i, .float .f32 r, .bool b]) ∧ Below w.heap.size w w'

theorem run_make_len2 {P : Program} (w : World) (t e : TypeId) (i : TypeInfo) (z : Value) (ht : P.underlying t = some (.slice e)) (hi : P.info? e = some i) (hz : i.zero = some z) (hs : i.size = 2)
    (len : Nat) (hb : i.bytes * len ≤ 281474976710656) (hl : len ≤ 9223372036854775807) :
    (Instr.makeSlice t (.int .i64 (len : Int)) (.int .i64 (len : Int))).run P w = .ok (.slice (some ⟨w.heap.size, 0, none⟩) len len) (w.alloc (.cells (madeCells z.cells (len * 2)) e)) := by
  have h := run_make (P := P) w t e i z ht hi hz .i64 .i64 (len : Int) (len : Int) (by omega) (Int.le_refl _) (by
    have : ((i.bytes * len : Nat) : Int) ≤ 281474976710656 := by omega
    rwa [Int.natCast_mul] at this) (by omega)
  rw [h, hs]
  simp
/-- How far the block of numbers that may have failed is filled. -/
structure Mfl (g n k : Nat) (F : Nat → Nat) (wr : World) : Prop where
  set_ : ∀ j, j < k → wr.cell? ⟨g, j * 2, none⟩ = some (.float .f32 (F j)) ∧ wr.cell? ⟨g, j * 2 + 1, none⟩ = some (.bool true)
  ex : ∀ j, j < n → (∃ v, wr.cell? ⟨g, j * 2, none⟩ = some v) ∧ (∃ v, wr.cell? ⟨g, j * 2 + 1, none⟩ = some v)
  fz : ∀ j, wr.frozen? ⟨g, j, none⟩ = false
  lt : g < wr.heap.size
theorem Mfl.start (w : World) (n : Nat) (F : Nat → Nat) (z : Array Value) (T : TypeId) : Mfl w.heap.size n 0 F (w.alloc (.cells (madeCells z (n * 2)) T)) := by
  refine ⟨fun j hj => by omega, fun j hj => ?_, fun j => World.frozen?_alloc_at _ _ _ _ rfl, by simp⟩
  constructor
  · rw [World.cell?_alloc_at _ _ _ _ rfl]
    exact ⟨_, Array.getElem?_eq_getElem (by rw [size_madeCells]; omega)⟩
  · rw [World.cell?_alloc_at _ _ _ _ rfl]
    exact ⟨_, Array.getElem?_eq_getElem (by rw [size_madeCells]; omega)⟩
theorem Mfl.below {g n k : Nat} {F : Nat → Nat} {wr wr' : World} (h : Mfl g n k F wr) (hb : Below wr.heap.size wr wr') : Mfl g n k F wr' :=
  ⟨fun j hj => ⟨by rw [hb.cell (p := ⟨g, j * 2, none⟩) h.lt]; exact (h.set_ j hj).1, by rw [hb.cell (p := ⟨g, j * 2 + 1, none⟩) h.lt]; exact (h.set_ j hj).2⟩,
    fun j hj => ⟨by rw [hb.cell (p := ⟨g, j * 2, none⟩) h.lt]; exact (h.ex j hj).1, by rw [hb.cell (p := ⟨g, j * 2 + 1, none⟩) h.lt]; exact (h.ex j hj).2⟩,
    fun j => by rw [hb.frozen (p := ⟨g, j, none⟩) h.lt]; exact h.fz j, Nat.lt_of_lt_of_le h.lt hb.size⟩
theorem Mfl.step {g n k : Nat} {F : Nat → Nat} {wr : World} (h : Mfl g n k F wr) (hk : k < n) : Mfl g n (k + 1) F ((wr.setCell ⟨g, k * 2, none⟩ (.float .f32 (F k))).setCell ⟨g, k * 2 + 1, none⟩ (.bool true)) := by
  obtain ⟨⟨v1, hv1⟩, ⟨v2, hv2⟩⟩ := h.ex k hk
  refine ⟨fun j hj => ?_, fun j hj => ?_, fun j => by rw [World.frozen?_setCell, World.frozen?_setCell]; exact h.fz j, by simpa [World.setCell] using h.lt⟩
  · by_cases e : j = k
    · subst e
      refine ⟨?_, World.cell?_setCell_same' _ _ _ (by rw [setCell_far (by omega)]; rw [hv2]; rfl)⟩
      rw [setCell_far (by omega)]
      exact World.cell?_setCell_same' _ _ _ (by rw [hv1]; rfl)
    · rw [setCell_far (by omega), setCell_far (by omega), setCell_far (by omega), setCell_far (by omega)]
      exact h.set_ j (by omega)
  · obtain ⟨⟨u1, hu1⟩, ⟨u2, hu2⟩⟩ := h.ex j hj
    by_cases e : j = k
    · subst e
      refine ⟨⟨.float .f32 (F j), ?_⟩, ⟨_, World.cell?_setCell_same' _ _ _ (by rw [setCell_far (by omega)]; rw [hv2]; rfl)⟩⟩
      rw [setCell_far (by omega)]
      exact World.cell?_setCell_same' _ _ _ (by rw [hv1]; rfl)
    · rw [setCell_far (by omega), setCell_far (by omega), setCell_far (by omega), setCell_far (by omega)]
      exact ⟨⟨u1, hu1⟩, ⟨u2, hu2⟩⟩
theorem Mfl.msl {g n : Nat} {F : Nat → Nat} {wr : World} (h : Mfl g n n F wr) : MSl wr (some ⟨g, 0, none⟩) n F (fun _ => true) :=
  .inr ⟨g, 0, rfl, h.lt, fun j hj => by rw [Nat.zero_add]; exact h.set_ j hj⟩
theorem Try.infoM : (Try.prog.info? 165).map (fun i => (i.zero, i.size, i.bytes)) = some (some (.agg #[.float .f32 0, .bool false]), 2, 8) := by kernel_rfl
set_option maxHeartbeats 4000000 in
set_option maxRecDepth 100000 in
theorem imNsh_any (a : Option Addr) (n cap : Nat) (L : List FRw) (a' : Option Addr) (len' cap' : Nat) (x : List Nat) (w : World) (h : RSl w a n L) (h' : FSl w a' len' x) (hm : n ≤ 1048576) (hm' : len' ≤ 1048576) :
    Calls Try.prog 153 #[.slice a n cap, .slice a' len' cap'] w (RetNS (nsI (zz L) x) (nsV (zz L) x) (nsB (zz L) x) w) := by
  obtain ⟨i0, hi, hz0, hz1, hz2⟩ : ∃ i0, Try.prog.info? 165 = some i0 ∧ i0.zero = some (.agg #[.float .f32 0, .bool false]) ∧ i0.size = 2 ∧ i0.bytes = 8 := info_parts Try.infoM
  have H := Lib.hid h
  have H' := Lib.hid h'
  have HL := Lib.hid (show (zz L).length = n by rw [zz_len]; exact h.1.1)
  clear h h'
  cases hs : shpZ (zz L)
  · have HS := Lib.hid hs
    have HB := Lib.hid (ns_bad (Z := zz L) (x := x) (by unfold nsB; rw [hs]; rfl))
    clear hs
    go_enter Try.func153, Try.ntmps153
    go_wp2_with fail
    refine (imShp_any _ _ _ _ _ H.out hm).mono ?_
    rw [HS.out]
    rintro e w' ⟨m, rfl, rfl⟩
    go_wp2
    go_ret3
    exact ⟨0, by rw [HB.out.2.1]; exact cn_zero, by rw [HB.out.1, HB.out.2.2]; rfl, below_drewN (Below.refl _ _) _⟩
  · have hsn := shp_t hs
    have hn1 := hsn.1
    have hn2 := hsn.2.1
    rw [HL.out] at hn1 hn2
    have HS := Lib.hid hs
    have HNb := Lib.hid (show nsB (zz L) x = nsAll (zz L) x by unfold nsB; rw [hs]; rfl)
    clear hs hsn
    go_enter Try.func153, Try.ntmps153
    go_wp2_with fail
    refine (imShp_any _ _ _ _ _ H.out hm).mono ?_
    rw [HS.out]
    rintro e w' ⟨m, rfl, rfl⟩
    have hmk := fun W => run_make_len2 (P := Try.prog) W 163 165 i0 (.agg #[.float .f32 0, .bool false]) Try.underlying163 hi hz0 hz1 n (by rw [hz2]; omega) (by omega)
    have HI0 := Lib.hid (Mfl.start (w.drewN m) n (nF (zz L) x) (Value.agg #[.float .f32 0, .bool false]).cells 165)
    have HB0 := Lib.hid (show Below w.heap.size w ((w.drewN m).alloc (.cells (madeCells (Value.agg #[.float .f32 0, .bool false]).cells (n * 2)) 165)) from (below_drewN (Below.refl _ _) m).alloc (Nat.le_refl _) _)
    clear hi hz0 hz1 hz2
    go_wp2
    clear hmk
    go_loopw [20] (fun c wr => ∃ k : Nat, k ≤ n ∧ c = .int .i64 k ∧ Hid (Mfl w.heap.size n k (nF (zz L) x) wr) ∧ Hid (Below w.heap.size w wr) ∧ Hid (∀ j, j < k → farB ((zz L).getD j []) x = true)) (fun c _ => n - (intOf c).toNat)
    case atStart => exact ⟨0, Nat.zero_le _, rfl, HI0, HB0, Lib.hid (fun j hj => by omega)⟩
    case round =>
      rename World => wo
      obtain ⟨k, hk, rfl, hf, hbel, hq⟩ := hrel
      by_cases hlt : k < n
      · obtain ⟨b, off, rfl, hblt, hc⟩ := H.out.1.at (by omega)
        have hck := hc k hlt
        rw [← hbel.out.cell (p := ⟨b, off + k, none⟩) hblt] at hck
        obtain ⟨hF, hFm⟩ := H.out.2 k hlt
        have HFw := Lib.hid (FSl.below hF hbel.out)
        have HXw := Lib.hid (FSl.below H'.out hbel.out)
        have hzk : (zz L).getD k [] = (L.getD k FRw.none).zs := zz_at L
        have HNF := Lib.hid (show nF (zz L) x k = farX (L.getD k FRw.none).zs x by unfold nF; rw [hzk])
        have HBad := Lib.hid (show farB (L.getD k FRw.none).zs x = false → nsB (zz L) x = false from fun hh => by
          rw [HNb.out]; unfold nsAll; exact not_all_range (by rw [HL.out]; exact hlt) (by rw [hzk]; exact hh))
        have HNx := Lib.hid (show farB (L.getD k FRw.none).zs x = true → ∀ j, j < k + 1 → farB ((zz L).getD j []) x = true from fun hh j hj => by
          rcases Nat.lt_or_ge j k with g | g
          · exact hq.out j g
          · obtain rfl : j = k := by omega
            rw [hzk]; exact hh)
        unfold FRw.val at hck
        generalize L.getD k FRw.none = r at *
        obtain ⟨ra, rl, rc, rz⟩ := r
        simp only at hck hFm HFw HNF HBad HNx
        clear hc hF hblt hzk
        cases hB : farB rz x
        · have HBv := Lib.hid (ns_bad (HBad.out hB))
          have HFb := Lib.hid hB
          clear hB HBad HNx
          go_wp2_with fail
          refine (imFar_any _ _ _ _ _ _ _ _ _ HFw.out HXw.out hFm hm').mono ?_
          rw [HFb.out]
          rintro e w2 ⟨r, hr, rfl, hb⟩
          have HBe := Lib.hid (hbel.out.trans (hb.mono hbel.out.size))
          clear hr hb
          go_wp2
          go_ret3
          exact ⟨0, by rw [HBv.out.2.1]; exact cn_zero, by rw [HBv.out.1, HBv.out.2.2]; rfl, HBe.out⟩
        · have HFb := Lib.hid hB
          have hfin : fin .f32 (farX rz x) = true := by unfold farB at hB; exact (Bool.and_eq_true _ _ ▸ hB).2
          have HV := Lib.hid (show farV rz x = farX rz x by unfold farV; rw [hB]; rfl)
          have HFi := Lib.hid hfin
          have HN := Lib.hid (HNx.out hB)
          clear hB HBad HNx hfin hq
          go_wp2_with fail
          refine (imFar_any _ _ _ _ _ _ _ _ _ HFw.out HXw.out hFm hm').mono ?_
          rw [HFb.out]
          rintro e w2 ⟨r, hr, rfl, hb⟩
          obtain rfl : r = farX rz x := fin_word (hr.trans HV.out) HFi.out
          have hf2 := hf.out.below hb
          obtain ⟨⟨v1, hv1⟩, ⟨v2, hv2⟩⟩ := hf2.ex k hlt
          have hz1 := hf2.fz (k * 2)
          have hz2 := hf2.fz (k * 2 + 1)
          have HSt := Lib.hid (hf2.step hlt)
          rw [HNF.out] at HSt
          have hb2 := hbel.out.trans (hb.mono hbel.out.size)
          have HBe := Lib.hid ((hb2.setCell (p := ⟨w.heap.size, k * 2, none⟩) (Nat.le_refl _) (.float .f32 (farX rz x))).setCell (p := ⟨w.heap.size, k * 2 + 1, none⟩) (Nat.le_refl _) (.bool true))
          clear hr hb hf2 hb2
          generalize farX rz x = y at *
          go_wp2
          go_roundw
          case rel => exact ⟨k + 1, by omega, by go_num, HSt, HBe, HN⟩
          case measure => simp [intOf]; omega
      · have e : k = n := by omega
        have HMs := Lib.hid (show MSl wo (some ⟨w.heap.size, 0, none⟩) n (nF (zz L) x) (fun _ => true) from Mfl.msl (by rw [← e]; rw [e] at hf ⊢; exact hf.out))
        have hAll : nsB (zz L) x = true := by
          rw [HNb.out]; unfold nsAll; exact all_range (fun j hj => hq.out j (by rw [e]; rw [HL.out] at hj; exact hj))
        have HR := Lib.hid (show nsI (zz L) x = ((nst (nF (zz L) x) (fun _ => true) n).at_ : Int) ∧ nsV (zz L) x = (nst (nF (zz L) x) (fun _ => true) n).x ∧ nsB (zz L) x = true ∧ (nst (nF (zz L) x) (fun _ => true) n).ok = true ∧ cn .f32 (nst (nF (zz L) x) (fun _ => true) n).x = (nst (nF (zz L) x) (fun _ => true) n).x from by
          refine ⟨by unfold nsI nsN; rw [hAll, HL.out]; rfl, by unfold nsV nsN; rw [hAll, HL.out]; rfl, hAll, nst_ok _ hn1, ?_⟩
          obtain ⟨j, _, _, hx⟩ := nst_one (nF (zz L) x) hn1
          rw [hx]; exact cn_farX ..)
        clear e hAll hq hf
        go_wp2_with fail
        refine (nof_any _ _ _ _ _ _ HMs.out hm).mono ?_
        rintro e w2 ⟨rfl, hb⟩
        have HBe := Lib.hid (hbel.out.trans (hb.mono hbel.out.size))
        clear hb
        go_wp2
        go_ret3
        exact ⟨_, HR.out.2.2.2.2.trans HR.out.2.1.symm, by rw [HR.out.1, HR.out.2.2.1, HR.out.2.2.2.1]; rfl, HBe.out⟩
/-- What l07Nearest gives. -/
def RetL7 (b : Bool) (r : Nst) (w : World) (e : Ending) (w' : World) : Prop :=
  ∃ q, e = .returned (.tuple #[.int .i64 (if b then (r.at_ : Int) else 0), .float .f32 (if b then r.x else 0), .bool b]) ∧ w.drewN q = w'
def nsFin (Z : List (List Nat)) (x : List Nat) : Bool := (List.range Z.length).all (fun k => fin .f32 (nF Z x k))
set_option maxHeartbeats 4000000 in
set_option maxRecDepth 100000 in
theorem l07Nearest_any (a : Option Addr) (n cap : Nat) (L : List FRw) (a' : Option Addr) (len' cap' : Nat) (x : List Nat) (w : World) (h : RSl w a n L) (h' : FSl w a' len' x) (hm : n ≤ 1048576) (hll : ∀ j, j < n → (L.getD j FRw.none).len ≤ len') :
    Calls Try.prog 111 #[.slice a n cap, .slice a' len' cap'] w (RetL7 (nsFin (zz L) x) (nsN (zz L) x) w) := by
  have H := Lib.hid h
  have H' := Lib.hid h'
  have HLl := Lib.hid hll
  have HL := Lib.hid (show (zz L).length = n by rw [zz_len]; exact h.1.1)
  clear h h' hll
  go_enter Try.func111, Try.ntmps111
  go_wp2
  go_loopw [7, 8, 13] (fun p y c wr => ∃ k q : Nat, k ≤ n ∧ c = .int .i64 k ∧ p = .int .i64 ((nst (nF (zz L) x) (fun _ => true) k).at_ : Int) ∧ y = .float .f32 (nst (nF (zz L) x) (fun _ => true) k).x ∧ wr = w.drewN q ∧ Hid (∀ j, j < k → fin .f32 (nF (zz L) x j) = true)) (fun _ _ c _ => n - (intOf c).toNat)
  case atStart => exact ⟨0, 0, Nat.zero_le _, rfl, rfl, rfl, rfl, Lib.hid (fun j hj => by omega)⟩
  case round =>
    obtain ⟨k, q, hk, rfl, rfl, rfl, rfl, hq⟩ := hrel
    by_cases hlt : k < n
    · obtain ⟨b, off, rfl, hblt, hc⟩ := H.out.1.at (by omega)
      have hck := hc k hlt
      obtain ⟨hF, hFm⟩ := H.out.2 k hlt
      have hlk := HLl.out k hlt
      have HFw := Lib.hid hF
      have hzk : (zz L).getD k [] = (L.getD k FRw.none).zs := zz_at L
      have HNF := Lib.hid (show nF (zz L) x k = farX (L.getD k FRw.none).zs x by unfold nF; rw [hzk])
      have HBad := Lib.hid (show fin .f32 (farX (L.getD k FRw.none).zs x) = false → nsFin (zz L) x = false from fun hh => by
        unfold nsFin; exact not_all_range (by rw [HL.out]; exact hlt) (by rw [HNF.out]; exact hh))
      have HNx := Lib.hid (show fin .f32 (farX (L.getD k FRw.none).zs x) = true → ∀ j, j < k + 1 → fin .f32 (nF (zz L) x j) = true from fun hh j hj => by
        rcases Nat.lt_or_ge j k with g | g
        · exact hq.out j g
        · obtain rfl : j = k := by omega
          rw [HNF.out]; exact hh)
      have HSt := Lib.hid (show nst (nF (zz L) x) (fun _ => true) (k + 1) = if (!(nst (nF (zz L) x) (fun _ => true) k).ok || ltF (farX (L.getD k FRw.none).zs x) (nst (nF (zz L) x) (fun _ => true) k).x) = true then ⟨k, farX (L.getD k FRw.none).zs x, true⟩ else nst (nF (zz L) x) (fun _ => true) k from by rw [← HNF.out]; rfl)
      have HOk := Lib.hid (show 1 ≤ k → (nst (nF (zz L) x) (fun _ => true) k).ok = true from fun hh => nst_ok _ hh)
      have HO0 := Lib.hid (show k = 0 → (nst (nF (zz L) x) (fun _ => true) k).ok = false from fun hh => by rw [hh]; rfl)
      unfold FRw.val at hck
      generalize L.getD k FRw.none = r at *
      obtain ⟨ra, rl, rc, rz⟩ := r
      simp only at hck hFm HFw hlk HBad HNx HSt
      generalize nst (nF (zz L) x) (fun _ => true) k = S at *
      obtain ⟨A, X, B⟩ := S
      simp only at HSt HOk HO0
      clear hc hF hblt hzk HNF
      cases hfin : fin .f32 (farX rz x)
      · have HBv := Lib.hid (HBad.out hfin)
        have HFi := Lib.hid hfin
        clear hfin HBad HNx HSt HOk HO0
        go_wp2_with fail
        refine (l07Far_any _ _ _ _ _ _ _ _ _ (FSl.drewN HFw.out q) (FSl.drewN H'.out q) hFm hlk).mono ?_
        rintro e w' ⟨y, m2, hy, rfl, rfl⟩
        have HY := Lib.hid (show fin .f32 y = false from (fin_congr (hy.trans (cn_farX ..).symm)).trans HFi.out)
        clear hy
        go_wp2_with fail
        refine (l01Finite_any _ _).mono ?_
        rw [HY.out]
        rintro e w' ⟨m3, rfl, rfl⟩
        go_wp2
        go_ret3
        exact ⟨_, by rw [HBv.out]; rfl, rfl⟩
      · have HFi := Lib.hid hfin
        have HN := Lib.hid (HNx.out hfin)
        clear hfin HBad HNx hq
        go_wp2_with fail
        refine (l07Far_any _ _ _ _ _ _ _ _ _ (FSl.drewN HFw.out q) (FSl.drewN H'.out q) hFm hlk).mono ?_
        rintro e w' ⟨y, m2, hy, rfl, rfl⟩
        obtain rfl : y = farX rz x := fin_word hy HFi.out
        clear hy
        generalize farX rz x = y at *
        go_wp2_with fail
        refine (l01Finite_any _ _).mono ?_
        rw [HFi.out]
        rintro e w' ⟨m3, rfl, rfl⟩
        rcases Nat.eq_zero_or_pos k with h0 | h0
        · have hB := HO0.out h0
          have HS := Lib.hid (show nst (nF (zz L) x) (fun _ => true) (k + 1) = ⟨k, y, true⟩ by rw [HSt.out, hB]; rfl)
          have hd : ((k : Int) == 0) = true := by rw [beq_iff_eq]; omega
          clear HSt HOk HO0 hB h0
          go_wp2
          go_roundw
          case rel => exact ⟨k + 1, _, by omega, by go_num, by rw [HS.out], by rw [HS.out], rfl, HN⟩
          case measure => simp [intOf]; omega
        · have hB := HOk.out h0
          have hd : ((k : Int) == 0) = false := by rw [beq_eq_false_iff_ne]; omega
          cases hl : ltF y X
          · have ho : ((FloatKind.format .f32).order y X == some Ordering.lt) = false := hl
            have HS := Lib.hid (show nst (nF (zz L) x) (fun _ => true) (k + 1) = ⟨A, X, B⟩ by rw [HSt.out, hB, hl]; rfl)
            clear HSt HOk HO0 hB h0 hl
            go_wp2
            go_roundw
            case rel => exact ⟨k + 1, _, by omega, by go_num, by rw [HS.out], by rw [HS.out], rfl, HN⟩
            case measure => simp [intOf]; omega
          · have ho : ((FloatKind.format .f32).order y X == some Ordering.lt) = true := hl
            have HS := Lib.hid (show nst (nF (zz L) x) (fun _ => true) (k + 1) = ⟨k, y, true⟩ by rw [HSt.out, hl]; simp)
            clear HSt HOk HO0 hB h0 hl
            go_wp2
            go_roundw
            case rel => exact ⟨k + 1, _, by omega, by go_num, by rw [HS.out], by rw [HS.out], rfl, HN⟩
            case measure => simp [intOf]; omega
    · have e : k = n := by omega
      have HAll := Lib.hid (show nsFin (zz L) x = true from by unfold nsFin; exact all_range (fun j hj => hq.out j (by rw [e]; rw [HL.out] at hj; exact hj)))
      have HR := Lib.hid (show nst (nF (zz L) x) (fun _ => true) k = nsN (zz L) x by unfold nsN; rw [HL.out, e])
      clear e hq
      go_wp2
      go_ret3
      exact ⟨q, by rw [HAll.out, ← HR.out]; rfl, rfl⟩
end Go.Proofs.Ytldaamgohdnjnaa

/-
  EvenSeries, in both packages.
-/
namespace Go.Proofs.Ytldaamgohdnjnaa
open Ieee Go.RowKit
set_option linter.unusedVariables false

/-- Series whose spread is finite and greater than 0. -/
def evnB0 (zs : List Nat) : Bool := spreadB zs && posB (spread32 zs)
def evnT (zs : List Nat) (j : Nat) : Nat := aop .quo .f32 (aop .sub .f32 (cn .f32 (zs.getD j 0)) (mean32 zs)) (spread32 zs)
def evnL (zs : List Nat) : List Nat := tells (evnT zs) zs.length
def evnB (zs : List Nat) : Bool := evnB0 zs && fins (evnL zs)
def evnR (zs : List Nat) : List Nat := if evnB0 zs then lstR (evnL zs) else []
theorem evn_ser {zs : List Nat} (h : evnB0 zs = true) : serB zs = true ∧ spreadB zs = true ∧ posB (spread32 zs) = true ∧ fin .f32 (spread32 zs) = true := by
  unfold evnB0 at h
  have h1 := (Bool.and_eq_true _ _ ▸ h).1
  have h2 := (Bool.and_eq_true _ _ ▸ h).2
  have h3 := h1
  unfold spreadB at h3
  exact ⟨(Bool.and_eq_true _ _ ▸ h3).1, h1, h2, (Bool.and_eq_true _ _ ▸ h3).2⟩
theorem evnR_len (zs : List Nat) : (evnR zs).length ≤ 1048576 := by
  unfold evnR
  split
  · rename_i h
    have := (serB_t (evn_ser h).1).2.1
    unfold lstR
    split
    · unfold evnL; rw [tells_len]; omega
    · simp
  · simp
theorem evn_bad {zs : List Nat} (h : evnB0 zs = false) : evnB zs = false ∧ evnR zs = [] := by unfold evnB evnR; rw [h]; exact ⟨rfl, rfl⟩
theorem evn_good {zs : List Nat} (h : evnB0 zs = true) : evnB zs = fins (evnL zs) ∧ evnR zs = lstR (evnL zs) := by unfold evnB evnR; rw [h]; exact ⟨rfl, rfl⟩

/-- What the closure of EvenSeries reads. -/
def EvnI (bl bm bs : Nat) (a : Option Addr) (len cap : Nat) (zs : List Nat) (_k : Nat) (wr : World) : Prop :=
  BoxI bl a len cap zs wr ∧ (∃ x, wr.cell? ⟨bm, 0, none⟩ = some (.float .f32 x) ∧ cn .f32 x = mean32 zs) ∧ ∃ y, wr.cell? ⟨bs, 0, none⟩ = some (.float .f32 y) ∧ cn .f32 y = spread32 zs
theorem EvnI.keep {bl bm bs B : Nat} {a : Option Addr} {len cap k : Nat} {zs : List Nat} {wr wr' : World} (h : EvnI bl bm bs a len cap zs k wr) (h1 : bl < B) (h2 : bm < B) (h3 : bs < B) (hb : Below B wr wr') : EvnI bl bm bs a len cap zs k wr' := by
  obtain ⟨g1, ⟨x, hx, hx2⟩, y, hy, hy2⟩ := h
  exact ⟨g1.keep h1 hb, ⟨x, by rw [hb.cell (p := ⟨bm, 0, none⟩) h2]; exact hx, hx2⟩, y, by rw [hb.cell (p := ⟨bs, 0, none⟩) h3]; exact hy, hy2⟩
theorem evn1_any (bl bm bs B0 B : Nat) (a : Option Addr) (len cap j : Nat) (zs : List Nat) (wr : World) (h : EvnI bl bm bs a len cap zs j wr) (hj : j < len) (hl : zs.length = len) (hm : len ≤ 96) :
    Calls Try.prog 186 #[.int .i64 j, .pointer (some ⟨bl, 0, none⟩), .pointer (some ⟨bm, 0, none⟩), .pointer (some ⟨bs, 0, none⟩)] wr (Tells (evnT zs) (EvnI bl bm bs a len cap zs) B0 B j wr) := by
  have HI := Lib.hid h
  obtain ⟨hbx, ⟨x, hx, hx2⟩, y, hy, hy2⟩ := h
  have hb1 := hbx.1
  obtain ⟨b, off, rfl, hb, hc⟩ := hbx.2 (by omega)
  have hcj := hc j hj
  have HT := Lib.hid (show ∀ z, zs.getD j 0 = z → ∀ w1 w2, cn .f32 (fopR .quo .f32 (fopR .sub .f32 z x w1) y w2) = evnT zs j from fun z hz w1 w2 => by rw [cn_fopR, cn_fopR, hx2, hy2, ← hz]; rfl)
  obtain ⟨z, hz⟩ : ∃ z, zs.getD j 0 = z := ⟨_, rfl⟩
  rw [hz] at hcj
  have HTz := Lib.hid (HT.out z hz)
  clear hc hb HT hz hx2 hy2 hbx
  go_enter Try.func186, Try.ntmps186
  go_wp2
  go_region
  all_goals
    go_wp2
    go_ret
    exact ⟨_, rfl, HTz.out _ _, HI.out.keep (B := bl + bm + bs + 1) (by omega) (by omega) (by omega) (below_drewN (Below.refl _ _) _), below_drewN (Below.refl _ _) _, rfl⟩
theorem EvnI.start {w : World} {a : Option Addr} {len cap m m2 r x : Nat} {zs : List Nat} {t t' t2 : TypeId} (h : FSl w a len zs) (hr : cn .f32 r = spread32 zs) (hx : cn .f32 x = mean32 zs) :
    EvnI w.heap.size (w.heap.size + 1 + 1) (w.heap.size + 1) a len cap zs 0 (((((w.alloc (.cells #[.slice a len cap] t)).drewN m).alloc (.cells #[.float .f32 r] t')).drewN m2).alloc (.cells #[.float .f32 x] t2)) := by
  have hB : Below (w.heap.size + 1) (w.alloc (.cells #[.slice a len cap] t)) (((((w.alloc (.cells #[.slice a len cap] t)).drewN m).alloc (.cells #[.float .f32 r] t')).drewN m2).alloc (.cells #[.float .f32 x] t2)) :=
    (below_drewN ((below_drewN (Below.refl _ _) m).alloc (by simp) _) m2).alloc (by simp) _
  refine ⟨(BoxI.start h).keep (Nat.lt_succ_self _) hB, ⟨x, ?_, hx⟩, r, ?_, hr⟩
  · rw [World.cell?_alloc_at _ _ _ _ (by simp)]; rfl
  · rw [World.cell?_alloc_past _ _ _ (by simp)]
    show (((w.alloc _).drewN m).alloc _).cell? _ = _
    rw [World.cell?_alloc_at _ _ _ _ (by simp)]; rfl
theorem implEvn_any (a : Option Addr) (len cap : Nat) (zs : List Nat) (w : World) (h : FSl w a len zs) (hm : len ≤ 1048576) :
    Calls Try.prog 175 #[.slice a len cap] w (RetOB 32 (evnR zs) (evnB zs) w) := by
  have hmf : ∀ (fn : Fn) (first cap : Array Value) (w : World), (Instr.makeFunc fn first cap).run Try.prog w = .ok (.func fn first cap) w := fun _ _ _ _ => rfl
  have H := Lib.hid h
  have HL := Lib.hid h.1
  clear h
  cases hs : spreadB zs
  · have HS := Lib.hid hs
    have HB := Lib.hid (evn_bad (zs := zs) (by unfold evnB0; rw [hs]; rfl))
    clear hs
    go_enter Try.func175, Try.ntmps175
    go_wp2_with (go_at_call 185; refine (implSpread_any _ _ _ _ _ (FSl.below H.out ((Below.refl _ _).alloc (Nat.le_refl _) _)) hm).mono ?_; rw [HS.out]; rintro e w' ⟨r, m, hr, rfl, rfl⟩; clear hr)
    go_ret2
    exact fail_ob _ HB.out.1 HB.out.2 ((below_drewN ((Below.refl w.heap.size w).alloc (Nat.le_refl _) _) m).alloc (by simp) _)
  · have HS := Lib.hid hs
    have hse : serB zs = true := (Bool.and_eq_true _ _ ▸ (show (serB zs && fin .f32 (spread32 zs)) = true from hs)).1
    have hfs : fin .f32 (spread32 zs) = true := (Bool.and_eq_true _ _ ▸ (show (serB zs && fin .f32 (spread32 zs)) = true from hs)).2
    have hl := (serB_t hse).2.1
    rw [HL.out] at hl
    have HFS := Lib.hid hfs
    have HV := Lib.hid (show spreadR zs = spread32 zs by unfold spreadR; rw [hs]; rfl)
    have HM := Lib.hid (spread_mean hs)
    have HMV := Lib.hid (show meanR zs = mean32 zs by unfold meanR; rw [spread_mean hs]; rfl)
    have HE := Lib.hid (show evnB0 zs = posB (spread32 zs) by unfold evnB0; rw [hs]; rfl)
    clear hs hse hfs
    go_enter Try.func175, Try.ntmps175
    go_wp2_with fail
    refine (implSpread_any _ _ _ _ _ (FSl.below H.out ((Below.refl _ _).alloc (Nat.le_refl _) _)) hm).mono ?_
    rw [HS.out, HV.out]
    rintro e w' ⟨r, m, hr, rfl, rfl⟩
    have HR := Lib.hid hr
    have HFr := Lib.hid (show fin .f32 r = true from (fin_congr (hr.trans (cn_spread zs).symm)).trans HFS.out)
    have HP := Lib.hid (show posB r = evnB0 zs from (posB_congr (hr.trans (cn_spread zs).symm)).trans HE.out.symm)
    clear hr
    cases ho : (FloatKind.format .f32).order r 0 with
    | none => exact absurd ho (order_fin HFr.out (by decide +kernel))
    | some o =>
      cases hg : posB r
      · have hgt : o ≠ .gt := fun e => by unfold posB at hg; rw [ho, e] at hg; cases hg
        have HB := Lib.hid (evn_bad (HP.out.symm.trans hg))
        cases o with
        | gt => exact absurd rfl hgt
        | lt =>
          clear hg hgt
          go_wp2
          go_ret2
          exact fail_ob _ HB.out.1 HB.out.2 ((below_drewN ((Below.refl w.heap.size w).alloc (Nat.le_refl _) _) m).alloc (by simp) _)
        | eq =>
          clear hg hgt
          go_wp2
          go_ret2
          exact fail_ob _ HB.out.1 HB.out.2 ((below_drewN ((Below.refl w.heap.size w).alloc (Nat.le_refl _) _) m).alloc (by simp) _)
      · have HB := Lib.hid (evn_good (HP.out.symm.trans hg))
        obtain rfl : o = .gt := by unfold posB at hg; rw [ho] at hg; cases o <;> first | rfl | cases hg
        clear hg
        go_wp2_with fail
        refine (implMean_any _ _ _ _ _ (FSl.below H.out ((below_drewN ((Below.refl w.heap.size w).alloc (Nat.le_refl _) _) m).alloc (by simp) _)) hm).mono ?_
        rw [HM.out, HMV.out]
        rintro e w' ⟨x, m2, hx, rfl, rfl⟩
        have HX := Lib.hid hx
        clear hx ho
        go_wp2_with fail
        have HI := Lib.hid (EvnI.start (m := m) (m2 := m2) (cap := cap) (t := 22) (t' := 32) (t2 := 32) H.out HR.out HX.out)
        refine (places_any 186 #[.pointer (some ⟨w.heap.size, 0, none⟩), .pointer (some ⟨w.heap.size + 1 + 1, 0, none⟩), .pointer (some ⟨w.heap.size + 1, 0, none⟩)] (evnT zs) (EvnI w.heap.size (w.heap.size + 1 + 1) (w.heap.size + 1) a len cap zs) w.heap.size len _ (enter_of Try.func186 (by kernel_rfl) rfl) hm (by simp; omega) HI.out (fun k wr wr' h hb => h.keep (by simp; omega) (by simp) (by simp) hb) (fun k wr hk hsz hI => evn1_any _ _ _ _ _ _ _ _ _ _ _ hI hk HL.out hl)).mono ?_
        rintro e w1 ⟨v, rs, rfl, ho, hx, hb⟩
        have HO := Lib.hid (ho.mono (show w.heap.size ≤ _ by simp; omega))
        have HE2 := Lib.hid (show tells (evnT zs) len = evnL zs by unfold evnL; rw [HL.out])
        have HX2 := Lib.hid (show cnl rs = evnR zs by rw [hx, HE2.out, HB.out.2])
        have HBl := Lib.hid (((below_drewN ((below_drewN ((Below.refl w.heap.size w).alloc (Nat.le_refl _) _) m).alloc (by simp) _) m2).alloc (by simp; omega) _).trans hb)
        have HT := Lib.hid (show fins (tells (evnT zs) len) = evnB zs by rw [HE2.out, HB.out.1])
        rw [HT.out]
        clear ho hx hb
        go_wp2
        go_ret2
        exact ⟨v, rs, rfl, HO.out, HX2.out, HBl.out⟩

theorem FOwn.put {T : TypeId} {B g n cap : Nat} {w : World} {rs : List Nat} (h : FOwn T B w (.slice (some ⟨g, 0, none⟩) n cap) rs) (hn : rs.length = n) (j r : Nat) : FOwn T B (w.setCell ⟨g, j, none⟩ (.float .f32 r)) (.slice (some ⟨g, 0, none⟩) n cap) (rs.set j r) := by
  subst hn
  have := (World.ownsRow.stored h j (.float .f32 r)).1
  unfold FOwn
  rw [List.length_set, List.map_set]
  exact this
theorem FOwn.blk {T : TypeId} {B n : Nat} {w : World} {v : Value} {rs : List Nat} (h : FOwn T B w v rs) (hn : rs.length = n) (h0 : 0 < n) : ∃ g cap, v = .slice (some ⟨g, 0, none⟩) n cap ∧ B ≤ g := by
  obtain ⟨A, cap, rfl, _, hf⟩ := h.sl
  obtain ⟨b, rfl, hB, _⟩ := hf 0 (by omega)
  exact ⟨b, cap, by rw [hn], hB⟩
theorem FOwn.cell {T : TypeId} {B g n cap : Nat} {w : World} {rs : List Nat} (h : FOwn T B w (.slice (some ⟨g, 0, none⟩) n cap) rs) (hn : rs.length = n) {j : Nat} (hj : j < n) : w.cell? ⟨g, j, none⟩ = some (.float .f32 (rs.getD j 0)) ∧ w.frozen? ⟨g, j, none⟩ = false := by
  subst hn
  refine ⟨?_, World.ownsRow.frozenAt h j⟩
  rw [World.ownsRow.cellAt h j (by omega)]
  simp [List.getD, hj]
def mixE (zs : List Nat) (k : Nat) : List Nat := tells (fun j => if j < k then evnT zs j else aop .sub .f32 (cn .f32 (zs.getD j 0)) (mean32 zs)) zs.length
theorem mixE_0 (zs : List Nat) : mixE zs 0 = less32 zs (mean32 zs) := by
  unfold mixE tells less32
  refine List.ext_getElem (by simp) fun i h1 h2 => ?_
  have : i < zs.length := by simpa using h1
  simp [List.getD, this]
theorem mixE_n (zs : List Nat) : mixE zs zs.length = evnL zs := by
  unfold mixE evnL
  exact tells_congr fun k hk => by rw [if_pos hk]
theorem mixE_at {zs : List Nat} {k : Nat} (hk : k < zs.length) : (mixE zs k).getD k 0 = aop .sub .f32 (cn .f32 (zs.getD k 0)) (mean32 zs) := by
  unfold mixE
  rw [tells_at _ hk, if_neg (by omega)]
theorem mixE_step {zs rs : List Nat} {k r : Nat} (h : cnl rs = mixE zs k) (hk : k < zs.length) (hr : cn .f32 r = evnT zs k) : cnl (rs.set k r) = mixE zs (k + 1) := by
  have hl : rs.length = zs.length := by rw [← cnl_len, h]; unfold mixE; rw [tells_len]
  refine List.ext_getElem (by rw [cnl_len, List.length_set, hl]; unfold mixE; rw [tells_len]) fun i h1 h2 => ?_
  have hi : i < zs.length := by rw [cnl_len, List.length_set] at h1; omega
  have e1 : (cnl (rs.set k r))[i] = if k = i then cn .f32 r else (cnl rs)[i]'(by rw [cnl_len]; omega) := by
    unfold cnl
    simp [List.getElem_set]
  rw [e1]
  have e2 : (mixE zs (k + 1))[i] = if i < k + 1 then evnT zs i else aop .sub .f32 (cn .f32 (zs.getD i 0)) (mean32 zs) := by
    simp [mixE, tells]
  rw [e2]
  by_cases e : k = i
  · subst e; rw [if_pos rfl, if_pos (by omega), hr]
  · rw [if_neg e]
    have e3 : (cnl rs)[i]'(by rw [cnl_len]; omega) = (mixE zs k)[i]'(by unfold mixE; rw [tells_len]; exact hi) := by congr 1
    rw [e3]
    simp [mixE, tells]
    split <;> split <;> first | rfl | (exfalso; omega)
theorem above_any (x : Nat) (w : World) : Calls Try.prog 132 #[.float .f32 x] w (RetV (.bool (fin .f32 x && posB x)) w) := by
  cases hf : fin .f32 x
  · have HF := Lib.hid hf
    clear hf
    go_enter Try.func132, Try.ntmps132
    go_wp2_with (go_at_call 71; refine (l01Finite_any _ _).mono ?_; rw [HF.out]; rintro e w' ⟨m, rfl, rfl⟩)
    go_ret
    exact ⟨m, rfl, rfl⟩
  · have HF := Lib.hid hf
    have HP := Lib.hid (show posB x = ((FloatKind.format .f32).order x 0 == some .gt) from rfl)
    clear hf
    go_enter Try.func132, Try.ntmps132
    go_wp2_with (go_at_call 71; refine (l01Finite_any _ _).mono ?_; rw [HF.out]; rintro e w' ⟨m, rfl, rfl⟩)
    go_ret
    exact ⟨m, congrArg (fun b => Ending.returned (Value.bool b)) (by rw [HP.out]; rfl), rfl⟩
end Go.Proofs.Ytldaamgohdnjnaa

/-
  NormShape, in both packages.
-/
namespace Go.Proofs.Ytldaamgohdnjnaa
open Ieee Go.RowKit
set_option linter.unusedVariables false

theorem imNorm_any (a : Option Addr) (len cap : Nat) (zs : List Nat) (w : World) (h : FSl w a len zs) (hm : len ≤ 1048576) :
    Calls Try.prog 150 #[.slice a len cap] w (RetOB 32 (evnR zs) (evnB zs) w) := by
  have H := Lib.hid h
  clear h
  go_enter Try.func150, Try.ntmps150
  go_wp2_with fail
  refine (implEvn_any _ _ _ _ _ H.out hm).mono ?_
  rintro e w1 ⟨v, rs, rfl, ho, hx, hb⟩
  have HO := Lib.hid ho
  have HX := Lib.hid hx
  have HB := Lib.hid hb
  clear ho hx hb
  go_wp2
  go_ret2
  exact ⟨v, rs, rfl, HO.out, HX.out, HB.out⟩

theorem l07Sum_any (a : Option Addr) (len cap : Nat) (zs : List Nat) (w : World) (h : FSl w a len zs) (hl : len ≤ 1048576) :
    Calls Try.prog 149 #[.slice a len cap] w (RetF .f32 (sum32 zs) w) := by
  go_enter Try.func149, Try.ntmps149
  go_wp2
  go_loopw [3, 7] (fun s i wr => ∃ k n r : Nat, k ≤ len ∧ i = .int .i64 k ∧ s = .float .f32 r ∧ wr = w.drewN n ∧ Hid (cn .f32 r = sum32 (zs.take k))) (fun _ i _ => len - (intOf i).toNat)
  case atStart => exact ⟨0, 0, 0, Nat.zero_le _, rfl, rfl, rfl, Lib.hid cn_zero⟩
  case round =>
    obtain ⟨k, n, r, hk, rfl, rfl, rfl, hr⟩ := hrel
    by_cases hlt : k < len
    · obtain ⟨b, off, rfl, _, hc⟩ := h.at (by omega)
      have hck := hc k hlt
      have hstep := Lib.hid (fun w' => sum32_step (w := w') (by rw [h.1]; exact hlt) hr.out)
      generalize zs.getD k 0 = z at *
      clear hc h hr
      go_wp2
      go_roundw
      case rel => exact ⟨k + 1, _, _, by omega, by go_num, rfl, rfl, Lib.hid (hstep.out _)⟩
      case measure => simp [intOf]; omega
    · have hfin := Lib.hid (show cn .f32 r = sum32 zs by rw [hr.out, List.take_of_length_le (by rw [h.1]; omega)])
      clear h hr
      go_wp2
      go_ret
      exact ⟨r, n, hfin.out, rfl, rfl⟩
/-- What l07Norm gives: the list, even where it is not finite. -/
def RetNrm (zs : List Nat) (w : World) (e : Ending) (w' : World) : Prop :=
  ∃ v rs, e = .returned (.tuple #[v, .bool (evnB zs)]) ∧ FOwn 32 w.heap.size w' v rs ∧ (evnB zs = true → cnl rs = evnR zs) ∧ Below w.heap.size w w'
theorem evn_full {zs : List Nat} (h0 : evnB0 zs = true) (h : evnB zs = true) : evnR zs = evnL zs := by
  have h2 := (evn_good h0).1
  rw [(evn_good h0).2]
  unfold lstR
  rw [← h2, h]; rfl
set_option maxHeartbeats 2000000 in
theorem l07Norm_any (a : Option Addr) (len cap : Nat) (zs : List Nat) (w : World) (h : FSl w a len zs) (hs : serB zs = true) :
    Calls Try.prog 103 #[.slice a len cap] w (RetNrm zs w) := by
  obtain ⟨i0, hi, hz0, hz1, hz2⟩ := info_parts Try.infoR
  have H := Lib.hid h
  have HL := Lib.hid h.1
  have hl1 := (serB_t hs).1
  have hl2 := (serB_t hs).2.1
  rw [HL.out] at hl1 hl2
  have HE := Lib.hid (show evnB0 zs = (fin .f32 (spread32 zs) && posB (spread32 zs)) by unfold evnB0 spreadB; rw [hs]; rfl)
  clear h hs
  go_enter Try.func103, Try.ntmps103
  go_wp2_with fail
  refine (l07Sum_any _ _ _ _ _ H.out (by omega)).mono ?_
  rintro e w' ⟨s, m, hs, rfl, rfl⟩
  obtain ⟨nn, hnn⟩ : ∃ nn, floatOfInt .f32 (len : Int) = nn := ⟨_, rfl⟩
  have HM := Lib.hid (show ∀ W, cn .f32 (fopR .quo .f32 s nn W) = mean32 zs from fun W => by rw [cn_fopR, hs, ← hnn]; unfold mean32 i2f; rw [HL.out])
  have HN := Lib.hid (show cn .f32 nn = cn .f32 (i2f (zs.length : Int)) by rw [← hnn, HL.out]; rfl)
  rw [hnn]
  clear hs hnn
  go_wp2
  generalize hx : fopR .quo .f32 s _ _ = x
  have HX := Lib.hid (show cn .f32 x = mean32 zs by rw [← hx]; exact HM.out _)
  clear hx HM
  go_loopw [6, 21] (fun t i wr => ∃ k n r : Nat, k ≤ len ∧ i = .int .i64 k ∧ t = .float .f32 r ∧ wr = w.drewN n ∧ Hid (cn .f32 r = sqTo zs (mean32 zs) k)) (fun _ i _ => len - (intOf i).toNat)
  case atStart => exact ⟨0, _, 0, Nat.zero_le _, rfl, rfl, rfl, Lib.hid cn_zero⟩
  case round =>
    obtain ⟨k, n, r, hk, rfl, rfl, rfl, hr⟩ := hrel
    by_cases hlt : k < len
    · obtain ⟨b, off, rfl, hb, hc⟩ := H.out.at (by omega)
      have hck := hc k hlt
      have hstep := Lib.hid (fun w1 w2 w3 => sq_step (x := x) hr.out rfl HX.out w1 w2 w3)
      generalize zs.getD k 0 = z at *
      clear hc hb H hr
      go_wp2
      go_roundw
      case rel => exact ⟨k + 1, _, _, by omega, by go_num, rfl, rfl, Lib.hid (hstep.out _ _ _)⟩
      case measure => simp [intOf]; omega
    · have e : k = len := by omega
      subst e
      have HR := Lib.hid (show ∀ W, cn .f32 (fopR .quo .f32 r nn W) = aop .quo .f32 (sqTo zs (mean32 zs) zs.length) (cn .f32 (i2f zs.length)) from fun W => by rw [cn_fopR, hr.out, HN.out, HL.out])
      clear hr hlt
      go_wp2_with fail
      refine (specRoot_any _ _).mono ?_
      rintro e w' ⟨y, m2, hy, rfl, rfl⟩
      have HY := Lib.hid (show cn .f32 y = spread32 zs by rw [hy]; exact (root32_cn _).symm.trans (by rw [HR.out]; rfl))
      clear hy HR
      have HA := Lib.hid (show (fin .f32 y && posB y) = evnB0 zs by
        rw [HE.out, fin_congr (HY.out.trans (cn_spread zs).symm), posB_congr (HY.out.trans (cn_spread zs).symm)])
      cases hB : evnB0 zs
      · have HB := Lib.hid (evn_bad hB)
        have HA2 := Lib.hid (HA.out.trans hB)
        clear hB
        go_wp2_with fail
        refine (above_any _ _).mono ?_
        rw [HA2.out]
        rintro e w' ⟨m3, rfl, rfl⟩
        go_wp2
        go_ret2
        exact ⟨_, [], by rw [HB.out.1]; rfl, FOwn.nil .., fun _ => HB.out.2.symm, below_drewN (Below.refl _ _) _⟩
      · have HB := Lib.hid (evn_good hB)
        have HFull := Lib.hid (fun h => evn_full hB h)
        have HA2 := Lib.hid (HA.out.trans hB)
        clear hB
        go_wp2_with fail
        refine (above_any _ _).mono ?_
        rw [HA2.out]
        rintro e w' ⟨m3, rfl, rfl⟩
        have HO := Lib.hid (fun q => FOwn.made (T := 32) (B := w.heap.size) (w.drewN q) (Nat.le_refl _))
        have HB0 := Lib.hid (fun q => (below_drewN (Below.refl w.heap.size w) q).alloc (Nat.le_refl _) (.cells #[] 32))
        go_wp2
        go_loopw [10, 46] (fun v i wr => ∃ (j : Nat) (rs : List Nat), j ≤ k ∧ i = .int .i64 j ∧ Hid (rs.length = j) ∧ Hid (FOwn 32 w.heap.size wr v rs) ∧ Hid (cnl rs = tells (evnT zs) j) ∧ Hid (Below w.heap.size w wr)) (fun _ i _ => k - (intOf i).toNat)
        case atStart => exact ⟨0, [], Nat.zero_le _, rfl, Lib.hid rfl, Lib.hid (HO.out _), Lib.hid rfl, Lib.hid (HB0.out _)⟩
        case round =>
          rename_i wr
          obtain ⟨j, rs, hj, rfl, hrl, hown, hrs, hbel⟩ := hrel
          by_cases hlt : j < k
          · obtain ⟨b, off, rfl, hb, hc⟩ := H.out.at (by omega)
            have hck := hc j hlt
            rw [← hbel.out.cell (p := ⟨b, off + j, none⟩) hb] at hck
            have hstep := Lib.hid (show ∀ z, zs.getD j 0 = z → ∀ w1 w2, cn .f32 (fopR .quo .f32 (fopR .sub .f32 z x w1) y w2) = evnT zs j from fun z hz w1 w2 => by rw [cn_fopR, cn_fopR, HX.out, HY.out, ← hz]; rfl)
            have hsz := hbel.out.size
            have hrk : rs.length ≤ 1048576 := by have := hrl.out; omega
            obtain ⟨z, hz⟩ : ∃ z, zs.getD j 0 = z := ⟨_, rfl⟩
            rw [hz] at hck
            have hst2 := Lib.hid (hstep.out z hz)
            clear hc hb H hstep hz
            go_wp2_with (at_builtin; refine wpList_append_own _ rfl _ _ 22 rfl w.heap.size 32 i0 (.float .f32 0) 1 4 Try.underlying22 hi hz0 hz1 hz2 rfl (by decide) _ _ _ rfl (World.ownsRow.alloc (FOwn.drewN hown.out _) _) ⟨wr.heap.size, 0, none⟩ 1 1 [_] rfl rfl (one_new rfl) ?c2 ?c3 ?c4 ?c5 ?_)
            case c2 => intro u hu; simp at hu; subst hu; rfl
            case c3 => unfold maxLen; omega
            case c4 => omega
            case c5 => simp; show w.heap.size ≤ wr.heap.size + 1; omega
            intro v' w1 hown' hgrow _
            have R := FOwn.push hown.out hbel.out hsz hown' hgrow
            have hR := Lib.hid R
            have hcs := Lib.hid (fun w1 w2 : World => (cnl_snoc hrs.out (hst2.out w1 w2)).trans (tells_succ (evnT zs) j).symm)
            have hrl2 := Lib.hid hrl.out
            clear R hown' hgrow hown hbel hrs hrl hck
            go_wp2
            go_roundw
            case rel =>
              refine ⟨j + 1, _, by omega, by go_num, ?_, Lib.hid hR.out.1, Lib.hid (hcs.out _ _), Lib.hid hR.out.2⟩
              exact Lib.hid (by rw [List.length_append, hrl2.out]; rfl)
            case measure => simp [intOf]; omega
          · have hkl : j = k := by omega
            have hfin := Lib.hid (show cnl rs = evnL zs by unfold evnL; rw [hrs.out, HL.out, hkl])
            have hrk : rs.length ≤ 1048576 := by have := hrl.out; omega
            obtain ⟨A, cp, rfl, hsl, _⟩ := hown.out.sl
            have HSL := Lib.hid hsl
            have HFi := Lib.hid (show fins rs = evnB zs by rw [HB.out.1, ← hfin.out, fins_cnl])
            have HOw := Lib.hid hown.out
            have HBe := Lib.hid hbel.out
            clear hrs H hsl hown hbel
            go_wp2_with fail
            refine (specFinite_any _ _ _ _ _ HSL.out hrk).mono ?_
            rw [HFi.out]
            rintro e w' ⟨m5, rfl, rfl⟩
            go_wp2
            go_ret2
            exact ⟨_, rs, rfl, HOw.out.drewN _, fun h => hfin.out.trans (HFull.out h).symm, below_drewN HBe.out _⟩
end Go.Proofs.Ytldaamgohdnjnaa

/-
  Words without a sign that are no not-a-numbers: those up to infinity. Squares, their sums and roots are such.
-/
namespace Go.Proofs.Ytldaamgohdnjnaa
open Ieee Go.RowKit
set_option linter.unusedVariables false

def upw (x : Nat) : Prop := x ≤ 2139095040
theorem word_false (f : Format) (r : Nat) : f.word false r = r := by unfold Format.word; rw [if_neg (by simp)]
theorem up_near (m : Nat) (p : Int) : upw (single.nearest false m p) := by
  unfold upw Format.nearest
  rw [← s_inf]
  dsimp only
  split
  · rw [word_false]; exact Nat.zero_le _
  · rw [word_false]; exact Nat.min_le_right ..
theorem up_write {d : Datum} (h : d.neg = false) (hn : d.isNaN = false) : upw (single.write d) := by
  cases d with
  | number s m p => obtain rfl : s = false := h; exact up_near m p
  | infinity s =>
    obtain rfl : s = false := h
    show single.word false single.infRung ≤ _
    rw [word_false, s_inf]
    exact Nat.le_refl _
  | nan s t => cases hn
theorem neg_word (f : Format) {r : Nat} (h : r ≤ f.infRung) : (f.read (f.word false r)).neg = false := by
  have := f.infRung_lt
  rw [read_word f false (by omega)]
  repeat' split
  all_goals rfl
theorem neg_write (f : Format) {d : Datum} (h : d.neg = false) (hn : d.isNaN = false) : (f.read (f.write d)).neg = false := by
  cases d with
  | number s m p =>
    obtain rfl : s = false := h
    show (f.read (f.nearest false m p)).neg = false
    unfold Format.nearest
    dsimp only
    split
    · exact neg_word f (Nat.zero_le _)
    · exact neg_word f (Nat.min_le_right ..)
  | infinity s => obtain rfl : s = false := h; exact neg_word f (Nat.le_refl _)
  | nan s t => cases hn
theorem up_read {x : Nat} (h : upw x) : (single.read x).neg = false ∧ (single.read x).isNaN = false := by
  have h1 : x ≤ single.infRung := by rw [s_inf]; exact h
  rw [← word_false single x]
  exact ⟨neg_word _ h1, read_word_nan _ _ h1⟩
theorem up_noN {x : Nat} (h : upw x) : isN .f32 x = false := (up_read h).2
theorem up_zero : upw 0 := Nat.zero_le _
theorem up_of {op : BinOp} {x y : Nat} {d : Datum} (h : floatBits op .f32 x y = some (single.write d)) (h1 : d.neg = false) (h2 : d.isNaN = false) : upw (aop op .f32 x y) := by
  unfold aop; rw [h]; exact up_write h1 h2
theorem up_sq {z : Nat} (hz : isN .f32 z = false) : upw (aop .mul .f32 z z) := by
  have hp : ∃ d, (single.read z).product (single.read z) = some d ∧ d.neg = false ∧ d.isNaN = false := by
    have hz' : (single.read z).isNaN = false := hz
    cases hr : single.read z with
    | number s m p => exact ⟨_, rfl, by simp [Datum.neg], rfl⟩
    | infinity s => exact ⟨_, rfl, by simp [Datum.neg], rfl⟩
    | nan s t => rw [hr] at hz'; cases hz'
  obtain ⟨d, h1, h2, h3⟩ := hp
  refine up_of (d := d) ?_ h2 h3
  show Option.map single.write ((single.read z).product (single.read z)) = _
  rw [h1]; rfl
theorem up_add {x y : Nat} (hx : upw x) (hy : upw y) : upw (aop .add .f32 x y) := by
  have hp : ∃ d, (single.read x).sum (single.read y) = some d ∧ d.neg = false ∧ d.isNaN = false := by
    obtain ⟨hx1, hx2⟩ := up_read hx
    obtain ⟨hy1, hy2⟩ := up_read hy
    generalize single.read x = a at *
    generalize single.read y = b at *
    cases a <;> cases b <;> simp only [Datum.neg] at hx1 hy1
    case number.number s m i t n j =>
      subst hx1 hy1
      refine ⟨_, rfl, ?_, rfl⟩
      show (if _ then _ else _) = false
      split
      · rfl
      · have e1 : ∀ m k, 0 ≤ signed false m k := fun m k => by unfold signed; rw [if_neg (by simp)]; exact Int.natCast_nonneg _
        exact decide_eq_false (Int.not_lt.2 (Int.add_nonneg (e1 _ _) (e1 _ _)))
    case number.infinity => subst hx1 hy1; exact ⟨_, rfl, rfl, rfl⟩
    case infinity.number => subst hx1 hy1; exact ⟨_, rfl, rfl, rfl⟩
    case infinity.infinity => subst hx1 hy1; exact ⟨.infinity false, rfl, rfl, rfl⟩
    all_goals first | (cases hx2; done) | (cases hy2; done)
  obtain ⟨d, h1, h2, h3⟩ := hp
  refine up_of (d := d) ?_ h2 h3
  show Option.map single.write ((single.read x).sum (single.read y)) = _
  rw [h1]; rfl
theorem sub_noN {x y : Nat} (hx : fin .f32 x = true) (hy : fin .f32 y = true) : isN .f32 (aop .sub .f32 x y) = false := by
  obtain ⟨s, m, p, h1⟩ := fin_datum hx
  obtain ⟨s', m', p', h2⟩ := fin_datum hy
  have hf : ∃ r, floatBits .sub .f32 x y = some r := by
    show ∃ r, Option.map (FloatKind.format .f32).write (((FloatKind.format .f32).read x).sum (((FloatKind.format .f32).read y).opposite)) = some r
    rw [h1, h2]; exact ⟨_, rfl⟩
  obtain ⟨r, hf⟩ := hf
  unfold aop
  rw [hf]
  exact (floatBits_nan hf).2.2
theorem up_anar {y : Nat} (h : (double.read y).neg = false) (hn : (double.read y).isNaN = false) : upw (anar y) := by
  unfold anar
  rw [show isN .f64 y = false from hn, if_neg (by simp)]
  exact up_write h hn
theorem up_root {x : Nat} (hx : upw x) : upw (root32 x) := by
  obtain ⟨h1, h2⟩ := up_read hx
  have hw : awide x = double.write (single.read x) := by unfold awide; rw [up_noN hx, if_neg (by simp)]
  have hr1 : (double.read (awide x)).neg = false := by rw [hw]; exact neg_write double h1 h2
  have hr2 : (double.read (awide x)).isNaN = false := by rw [hw]; exact write_nan double _ h2
  unfold root32
  have hp : ∃ d, (double.read (awide x)).root (double.fractionBits + 2) = some d ∧ d.neg = false ∧ d.isNaN = false := by
    generalize double.read (awide x) = a at *
    cases a with
    | number s m i =>
      obtain rfl : s = false := hr1
      simp only [Datum.root]
      split
      · exact ⟨_, rfl, rfl, rfl⟩
      · rw [if_neg (by simp)]; exact ⟨_, rfl, rfl, rfl⟩
    | infinity s => obtain rfl : s = false := hr1; exact ⟨_, rfl, rfl, rfl⟩
    | nan s t => cases hr2
  obtain ⟨d, g1, g2, g3⟩ := hp
  have hs : asq (awide x) = double.write d := by
    unfold asq Format.sqrt
    rw [g1]; rfl
  rw [hs]
  exact up_anar (neg_write double g2 g3) (write_nan double _ g3)
theorem up_fin {x : Nat} (hx : upw x) : fin .f32 x = decide (x < 2139095040) := by
  rw [fin_f32]
  unfold upw at hx
  rw [Nat.mod_eq_of_lt (by omega)]
theorem up_lt {x y : Nat} (hx : upw x) (hy : upw y) : ltF x y = decide (x < y) := by
  unfold ltF
  rw [order_all .f32 x y (up_noN hx) (up_noN hy)]
  have e : ∀ {z : Nat}, upw z → sr (FloatKind.format .f32) z = (z : Int) := fun {z} hz => by
    unfold upw at hz
    unfold sr
    rw [show (FloatKind.format .f32).signWeight = 2147483648 from s_sign, Nat.div_eq_of_lt (by omega), Nat.mod_eq_of_lt (a := z) (by omega)]
    rfl
  rw [e hx, e hy]
  by_cases h : x < y
  · rw [decide_eq_true h, Int.compare_eq_lt.2 (by omega)]; rfl
  · rw [decide_eq_false h]
    rcases Nat.lt_or_ge y x with g | g
    · rw [Int.compare_eq_gt.2 (by omega)]; rfl
    · obtain rfl : x = y := by omega
      rw [Int.compare_eq_eq.2 rfl]; rfl
end Go.Proofs.Ytldaamgohdnjnaa

/-
  A block of whole numbers that a call makes and writes in place; numbers not above another one, counted.
-/
namespace Go.Proofs.Ytldaamgohdnjnaa
open Ieee Go.RowKit
set_option linter.unusedVariables false

/-- Block g holds the n whole numbers f 0, f 1, .. . -/
def IBlk (T : TypeId) (g n : Nat) (f : Nat → Int) (w : World) : Prop := w.heap[g]? = some (.cells ((List.range n).map (fun j => Value.int .i64 (f j))).toArray T (0, 0))
section
variable {T : TypeId} {g n : Nat} {f f' : Nat → Int} {w w' : World}
theorem IBlk.congr (h : IBlk T g n f w) (he : ∀ j, j < n → f j = f' j) : IBlk T g n f' w := by
  unfold IBlk at *
  rw [h]
  congr 3
  exact List.map_congr_left fun j hj => by rw [he j (by simpa using hj)]
theorem IBlk.start (w : World) (T : TypeId) (n : Nat) : IBlk T w.heap.size n (fun _ => 0) (w.alloc (.cells (madeCells (Value.int .i64 0).cells n) T)) := by
  unfold IBlk
  rw [heap_alloc_new]
  congr 2
  apply Array.toList_inj.1
  rw [show (Value.int IntKind.i64 0).cells = #[Value.int IntKind.i64 0] from rfl, toList_madeCells_one]
  refine List.ext_getElem (by simp) fun i h1 h2 => by simp
theorem IBlk.drewN (h : IBlk T g n f w) (k : Nat) : IBlk T g n f (w.drewN k) := h
theorem IBlk.same (h : IBlk T g n f w) (hb : w'.heap[g]? = w.heap[g]?) : IBlk T g n f w' := hb.trans h
theorem IBlk.cell (h : IBlk T g n f w) {j : Nat} (hj : j < n) : w.cell? ⟨g, j, none⟩ = some (.int .i64 (f j)) ∧ w.frozen? ⟨g, j, none⟩ = false := by
  unfold IBlk at h
  refine ⟨?_, by simp [World.frozen?, h]⟩
  rw [cell_of_row w g j _ T (0, 0) h]
  simp [hj]
theorem IBlk.set (h : IBlk T g n f w) {i : Nat} (hi : i < n) (x : Int) : IBlk T g n (fun j => if j = i then x else f j) (w.setCell ⟨g, i, none⟩ (.int .i64 x)) := by
  unfold IBlk at *
  simp only [World.setCell, Array.getElem?_modify, h, if_true, Option.map_some]
  congr 2
  apply Array.toList_inj.1
  refine List.ext_getElem (by simp) fun j h1 h2 => ?_
  have hj : j < n := by simpa using h2
  simp [List.getElem_set]
  by_cases e : i = j
  · subst e; simp
  · rw [if_neg e, if_neg (Ne.symm e)]
theorem IBlk.lt (h : IBlk T g n f w) : g < w.heap.size := by
  unfold IBlk at h
  rcases Nat.lt_or_ge g w.heap.size with hlt | hge
  · exact hlt
  · rw [Array.getElem?_eq_none hge] at h; cases h
theorem IBlk.own (h : IBlk T g n f w) (hn : n ≤ maxLen) : IOwn T g w (.slice (some ⟨g, 0, none⟩) n n) ((List.range n).map f) := by
  have hl : ((List.range n).map f).length = n := by simp
  unfold IOwn
  rw [hl]
  refine ⟨by simp, .inr ⟨g, n, _, rfl, Nat.le_refl _, h, Nat.le_refl _, hn, by simp, ?_⟩⟩
  rw [Nat.mul_one]
  refine List.ext_getElem (by simp) fun j h1 h2 => by simp
end
/-- Not above. -/
def leF (x y : Nat) : Bool := (FloatKind.format .f32).order x y == some .lt || (FloatKind.format .f32).order x y == some .eq
theorem leF_congr {x x' y y' : Nat} (h : cn .f32 x = cn .f32 x') (h' : cn .f32 y = cn .f32 y') : leF x y = leF x' y' := by unfold leF; rw [order_left .f32 h y, order_right .f32 x' h']
/-- How many of the first numbers are not above m. -/
def cntC (cs : List Nat) (m : Nat) : Nat → Nat
  | 0 => 0
  | k + 1 => cntC cs m k + if leF (cs.getD k 0) m then 1 else 0
theorem cntC_le (cs : List Nat) (m : Nat) : ∀ k, cntC cs m k ≤ k
  | 0 => Nat.le_refl _
  | k + 1 => by have := cntC_le cs m k; unfold cntC; split <;> omega
theorem cntC_congr {cs : List Nat} {m m' : Nat} (h : cn .f32 m = cn .f32 m') : ∀ k, cntC cs m k = cntC cs m' k
  | 0 => rfl
  | k + 1 => by unfold cntC; rw [cntC_congr h k, leF_congr rfl h]
end Go.Proofs.Ytldaamgohdnjnaa

/-
  ProfileOf, plainly: the parts of a series, made even; how far they are apart; the nearest one of those apart.
-/
namespace Go.Proofs.Ytldaamgohdnjnaa
open Ieee Go.RowKit
set_option linter.unusedVariables false

/-- The least one of all that stand apart, and the least one of those that are finite too: the same, or there is none that is finite. -/
theorem nst_two {F V : Nat → Nat} {A O : Nat → Bool} : ∀ {n : Nat}, (∀ k, k < n → A k = true → upw (F k)) → (∀ k, k < n → O k = (A k && fin .f32 (F k))) → (∀ k, k < n → O k = true → V k = F k) →
    ((nst F A n).ok = false ∧ nst V O n = ⟨0, 0, false⟩) ∨ ((nst F A n).ok = true ∧ (nst F A n).x = 2139095040 ∧ nst V O n = ⟨0, 0, false⟩) ∨ ((nst F A n).ok = true ∧ (nst F A n).x < 2139095040 ∧ nst V O n = nst F A n)
  | 0, _, _, _ => .inl ⟨rfl, rfl⟩
  | n + 1, hu, hO, hV => by
    have ih := nst_two (n := n) (fun k hk => hu k (by omega)) (fun k hk => hO k (by omega)) (fun k hk => hV k (by omega))
    have hu := hu n (by omega)
    have hO := hO n (by omega)
    have hV := hV n (by omega)
    rw [show nst F A (n + 1) = if (A n && (!(nst F A n).ok || ltF (F n) (nst F A n).x)) = true then ⟨n, F n, true⟩ else nst F A n from rfl,
      show nst V O (n + 1) = if (O n && (!(nst V O n).ok || ltF (V n) (nst V O n).x)) = true then ⟨n, V n, true⟩ else nst V O n from rfl]
    generalize nst F A n = M at *
    generalize nst V O n = P at *
    cases hA : A n
    · rw [hA] at hO
      rw [hO]
      simpa using ih
    · rw [hA, Bool.true_and] at hO
      have hup := hu hA
      rw [up_fin hup] at hO
      by_cases hf : F n < 2139095040
      · rw [decide_eq_true hf] at hO
        rw [hO, hV hO]
        rcases ih with ⟨h1, h2⟩ | ⟨h1, h2, h3⟩ | ⟨h1, h2, h3⟩
        · rw [h1, h2]
          exact .inr (.inr ⟨rfl, hf, rfl⟩)
        · rw [h1, h2, h3, up_lt hup (show upw 2139095040 from Nat.le_refl _), decide_eq_true hf]
          exact .inr (.inr ⟨rfl, hf, rfl⟩)
        · rw [h3]
          refine .inr (.inr ?_)
          split
          · exact ⟨rfl, hf, rfl⟩
          · exact ⟨h1, h2, rfl⟩
      · have he : F n = 2139095040 := by unfold upw at hup; omega
        rw [decide_eq_false hf] at hO
        rw [hO, he]
        rcases ih with ⟨h1, h2⟩ | ⟨h1, h2, h3⟩ | ⟨h1, h2, h3⟩
        · rw [h1, h2]
          exact .inr (.inl ⟨rfl, rfl, rfl⟩)
        · rw [h1, h2, h3, up_lt (show upw 2139095040 from Nat.le_refl _) (show upw 2139095040 from Nat.le_refl _), decide_eq_false (Nat.lt_irrefl _)]
          exact .inr (.inl ⟨h1, h2, rfl⟩)
        · rw [h1, h3, up_lt (show upw 2139095040 from Nat.le_refl _) (show upw M.x from Nat.le_of_lt h2), decide_eq_false (by omega)]
          exact .inr (.inr ⟨h1, h2, rfl⟩)

theorem sumT_up {t : Nat → Nat} : ∀ {n : Nat}, (∀ k, k < n → upw (t k)) → upw (sumT t n)
  | 0, _ => up_zero
  | n + 1, h => up_add (sumT_up (n := n) fun k hk => h k (by omega)) (h n (by omega))
theorem up_farX {zs ys : List Nat} (h : fins zs = true) (h' : fins ys = true) (hl : zs.length = ys.length) : upw (farX zs ys) := by
  unfold farX rosX
  refine up_root (sumT_up fun k hk => ?_)
  unfold sqT
  refine up_sq ?_
  show isN .f32 (aop .sub .f32 (cn .f32 (zs.getD k 0)) (cn .f32 (ys.getD k 0))) = false
  refine sub_noN ?_ ?_
  · rw [fin_congr (cn_cn .f32 _)]; exact fins_at h hk
  · rw [fin_congr (cn_cn .f32 _)]; exact fins_at h' (by omega)

/-- The part of a series from a place on. -/
def prt (zs : List Nat) (m i : Nat) : List Nat := (zs.drop i).take m
theorem prt_len {zs : List Nat} {m i : Nat} (h : i + m ≤ zs.length) : (prt zs m i).length = m := by unfold prt; rw [List.length_take, List.length_drop]; omega
def prN (zs : List Nat) (m i : Nat) : List Nat := evnR (prt zs m i)
/-- How many parts there are. -/
def prC (zs : List Nat) (m : Nat) : Nat := zs.length + 1 - m
def prQ (zs : List Nat) (q : Int) : Bool := serB zs && decide (2 ≤ q ∧ 2 * q ≤ (zs.length : Int))
def prA (zs : List Nat) (m : Nat) : Bool := (List.range (prC zs m)).all (fun i => evnB (prt zs m i))
def prE (zs : List Nat) (q : Int) : Bool := prQ zs q && prA zs q.toNat
def apt2 (m i k : Nat) : Bool := decide (m ≤ i - k ∨ m ≤ k - i)
def prF (zs : List Nat) (m i k : Nat) : Nat := farX (prN zs m i) (prN zs m k)
def prO (zs : List Nat) (m i k : Nat) : Bool := apt2 m i k && fin .f32 (prF zs m i k)
def prV (zs : List Nat) (m i k : Nat) : Nat := if prO zs m i k then prF zs m i k else 0
def prP (zs : List Nat) (m i : Nat) : Nst := nst (prV zs m i) (prO zs m i) (prC zs m)
def prM (zs : List Nat) (m i : Nat) : Nst := nst (prF zs m i) (apt2 m i) (prC zs m)
def prB (zs : List Nat) (q : Int) : Bool := prE zs q && (List.range (prC zs q.toNat)).all (fun i => (prP zs q.toNat i).ok)
def prX (zs : List Nat) (q : Int) : List Nat := if prB zs q then tells (fun i => (prP zs q.toNat i).x) (prC zs q.toNat) else []
def prI (zs : List Nat) (q : Int) : List Int := if prB zs q then (List.range (prC zs q.toNat)).map (fun i => ((prP zs q.toNat i).at_ : Int)) else []
theorem pr_bad {zs : List Nat} {q : Int} (h : prB zs q = false) : prX zs q = [] ∧ prI zs q = [] ∧ prB zs q = false := ⟨by unfold prX; rw [h]; rfl, by unfold prI; rw [h]; rfl, h⟩
theorem prE_bad {zs : List Nat} {q : Int} (h : prE zs q = false) : prB zs q = false := by unfold prB; rw [h]; rfl
theorem prQ_t {zs : List Nat} {q : Int} (h : prQ zs q = true) : serB zs = true ∧ 2 ≤ q ∧ 2 * q ≤ (zs.length : Int) := by
  unfold prQ at h
  exact ⟨(Bool.and_eq_true _ _ ▸ h).1, of_decide_eq_true (Bool.and_eq_true _ _ ▸ h).2⟩
theorem prE_t {zs : List Nat} {q : Int} (h : prE zs q = true) : prQ zs q = true ∧ ∀ i, i < prC zs q.toNat → evnB (prt zs q.toNat i) = true := by
  unfold prE prA at h
  exact ⟨(Bool.and_eq_true _ _ ▸ h).1, fun i hi => List.all_eq_true.1 (Bool.and_eq_true _ _ ▸ h).2 i (by simpa using hi)⟩
theorem evnB_fins {zs : List Nat} (h : evnB zs = true) : fins (evnR zs) = true ∧ (evnR zs).length = zs.length := by
  cases h0 : evnB0 zs
  · rw [(evn_bad h0).1] at h; cases h
  · rw [evn_full h0 h]
    rw [(evn_good h0).1] at h
    exact ⟨h, by unfold evnL; rw [tells_len]⟩
/-- The parts, made even, are series of the same length. -/
theorem prN_t {zs : List Nat} {q : Int} (h : prE zs q = true) {i : Nat} (hi : i < prC zs q.toNat) : fins (prN zs q.toNat i) = true ∧ (prN zs q.toNat i).length = q.toNat ∧ serB (prN zs q.toNat i) = true := by
  obtain ⟨h1, h2⟩ := prE_t h
  obtain ⟨h3, h4, h5⟩ := prQ_t h1
  obtain ⟨h6, h7, _⟩ := serB_t h3
  obtain ⟨g1, g2⟩ := evnB_fins (h2 i hi)
  unfold prC at hi
  rw [prt_len (by omega)] at g2
  refine ⟨g1, g2, ?_⟩
  unfold serB
  rw [show (prN zs q.toNat i).length = q.toNat from g2, decide_eq_true (by omega), show fins (prN zs q.toNat i) = true from g1]
  rfl
theorem prF_up {zs : List Nat} {q : Int} (h : prE zs q = true) {i k : Nat} (hi : i < prC zs q.toNat) (hk : k < prC zs q.toNat) : upw (prF zs q.toNat i k) :=
  up_farX (prN_t h hi).1 (prN_t h hk).1 ((prN_t h hi).2.1.trans (prN_t h hk).2.1.symm)
theorem pr_two {zs : List Nat} {q : Int} (h : prE zs q = true) {i : Nat} (hi : i < prC zs q.toNat) :
    (prP zs q.toNat i).ok = ((prM zs q.toNat i).ok && fin .f32 (prM zs q.toNat i).x) ∧ ((prP zs q.toNat i).ok = true → prP zs q.toNat i = prM zs q.toNat i ∧ (prM zs q.toNat i).x < 2139095040) := by
  have H := nst_two (F := prF zs q.toNat i) (V := prV zs q.toNat i) (A := apt2 q.toNat i) (O := prO zs q.toNat i) (n := prC zs q.toNat) (fun k hk _ => prF_up h hi hk) (fun k _ => rfl) (fun k _ hk => by unfold prV; rw [hk]; rfl)
  rw [show nst (prF zs q.toNat i) (apt2 q.toNat i) (prC zs q.toNat) = prM zs q.toNat i from rfl, show nst (prV zs q.toNat i) (prO zs q.toNat i) (prC zs q.toNat) = prP zs q.toNat i from rfl] at H
  rcases H with ⟨h1, h2⟩ | ⟨h1, h2, h3⟩ | ⟨h1, h2, h3⟩
  · rw [h2, h1]; exact ⟨rfl, fun hh => by cases hh⟩
  · rw [h3, h1, h2]; exact ⟨by decide +kernel, fun hh => by cases hh⟩
  · rw [h3, h1, up_fin (Nat.le_of_lt h2), decide_eq_true h2]; exact ⟨rfl, fun _ => ⟨rfl, h2⟩⟩
theorem pr_fin {zs : List Nat} {q : Int} (h : prE zs q = true) {i : Nat} (hi : i < prC zs q.toNat) (ho : (prP zs q.toNat i).ok = true) : fin .f32 (prP zs q.toNat i).x = true ∧ upw (prP zs q.toNat i).x := by
  obtain ⟨h1, h2⟩ := (pr_two h hi).2 ho
  have hu : upw (prP zs q.toNat i).x := by rw [h1]; exact Nat.le_of_lt h2
  exact ⟨by rw [up_fin hu, h1, decide_eq_true h2], hu⟩
theorem prB_t {zs : List Nat} {q : Int} (h : prB zs q = true) : prE zs q = true ∧ ∀ i, i < prC zs q.toNat → (prP zs q.toNat i).ok = true := by
  unfold prB at h
  exact ⟨(Bool.and_eq_true _ _ ▸ h).1, fun i hi => List.all_eq_true.1 (Bool.and_eq_true _ _ ▸ h).2 i (by simpa using hi)⟩
theorem prB_not {zs : List Nat} {q : Int} {i : Nat} (hi : i < prC zs q.toNat) (ho : (prP zs q.toNat i).ok = false) : prB zs q = false := by
  unfold prB
  rw [not_all_range hi ho, Bool.and_false]
theorem prC_le {zs : List Nat} {q : Int} (h : prE zs q = true) : prC zs q.toNat ≤ 96 ∧ 1 ≤ prC zs q.toNat := by
  obtain ⟨h3, h4, h5⟩ := prQ_t (prE_t h).1
  obtain ⟨h6, h7, _⟩ := serB_t h3
  unfold prC
  omega
theorem prX_len (zs : List Nat) (q : Int) : (prX zs q).length ≤ 1048576 := by
  unfold prX
  split
  · rename_i h
    have := (prC_le (prB_t h).1).1
    rw [tells_len]; omega
  · simp
theorem prI_len (zs : List Nat) (q : Int) : (prI zs q).length ≤ 1048576 := by
  unfold prI
  split
  · rename_i h
    have := (prC_le (prB_t h).1).1
    simp; omega
  · simp

/-- A list of numbers, one of whole numbers, and a bool. -/
def RetLI (T T' : TypeId) (xs : List Nat) (is : List Int) (ok : Bool) (w : World) (e : Ending) (w' : World) : Prop :=
  ∃ v0 r0 v1, e = .returned (.tuple #[v0, v1, .bool ok]) ∧ FOwn T w.heap.size w' v0 r0 ∧ IOwn T' w.heap.size w' v1 is ∧ cnl r0 = xs ∧ Apt v0 v1 ∧ Below w.heap.size w w'
theorem fail_li (T T' : TypeId) {xs : List Nat} {is : List Int} {ok : Bool} (hok : ok = false) (h0 : xs = []) (h1 : is = []) {w w' : World} (hb : Below w.heap.size w w') : RetLI T T' xs is ok w (.returned (.tuple #[.slice none 0 0, .slice none 0 0, .bool false])) w' :=
  ⟨_, [], _, by rw [hok], FOwn.nil .., by rw [h1]; exact IOwn.nil .., h0.symm, apt_nil _, hb⟩
theorem IOwn.resn {T : TypeId} {B far : Nat} {w' : World} {v : Value} {xs : List Int} {y : Nat} (h : IOwn T B w' v xs) (hy : xs.length = y) (hfar : B ≤ far) :
    ∃ A cap b, v = .slice A y cap ∧ IHeld w' A b y xs ∧ B ≤ b ∧ (0 < y → v.ownBlock = some b) ∧ (y = 0 → b = far) := by
  subst hy
  obtain ⟨A, cap, b, rfl, hh, hb⟩ := h.res
  rcases Nat.eq_zero_or_pos xs.length with h0 | h0
  · exact ⟨A, cap, far, rfl, ⟨hh.sl, fun hp => by omega, fun hp => by omega, fun j hj => by omega⟩, hfar, fun hp => by omega, fun _ => rfl⟩
  · exact ⟨A, cap, b, rfl, hh, hb, fun hp => by rw [hh.at_ hp]; rfl, fun e => by omega⟩
theorem RetLI.res {T T' : TypeId} {X0 x0 : List Nat} {X1 x1 : List Int} {y0 y1 : Nat} {ok : Bool} {w : World} {e : Ending} {w' : World} (h : RetLI T T' X0 X1 ok w e w') (hx0 : X0 = x0) (hy0 : x0.length = y0) (hx1 : X1 = x1) (hy1 : x1.length = y1) :
    ∃ A0 c0 d0 r0 A1 c1 d1, e = .returned (.tuple #[.slice A0 y0 c0, .slice A1 y1 c1, .bool ok]) ∧ (Held w' A0 d0 y0 r0 ∧ cnl r0 = x0 ∧ w.heap.size ≤ d0) ∧ (IHeld w' A1 d1 y1 x1 ∧ w.heap.size ≤ d1) ∧
      ((0 < y0 → d0 ≠ d1) ∧ (0 < y1 → d1 ≠ d0)) ∧ Below w.heap.size w w' := by
  subst hx0 hx1
  obtain ⟨v0, r0, v1, rfl, o0, o1, e0, p01, hb⟩ := h
  have hs := hb.size
  obtain ⟨A0, c0, d0, rfl, t0, q0, b0, f0⟩ := o0.resn (far := w'.heap.size) e0 hy0 hs
  obtain ⟨A1, c1, d1, rfl, t1, q1, b1, f1⟩ := o1.resn (far := w'.heap.size) hy1 hs
  have key : ∀ {y y' d d' : Nat} {v v' : Value}, (0 < y → v.ownBlock = some d) → (0 < y' → v'.ownBlock = some d') → (y' = 0 → d' = w'.heap.size) → (0 < y → d < w'.heap.size) → (∀ b, v.ownBlock = some b → v'.ownBlock ≠ some b) → 0 < y → d ≠ d' := fun {y y' d d' v v'} g1 g2 g3 g4 g5 hp e => by
    rcases Nat.eq_zero_or_pos y' with h0 | h0
    · have := g3 h0; have := g4 hp; omega
    · exact g5 d (g1 hp) (by rw [g2 h0, e])
  have sym : ∀ {v v' : Value}, Apt v v' → ∀ b, v'.ownBlock = some b → v.ownBlock ≠ some b := fun h b e e' => h b e' e
  exact ⟨A0, c0, d0, r0, A1, c1, d1, rfl, ⟨t0, e0, q0⟩, ⟨t1, q1⟩, ⟨key b0 b1 f1 t0.lt_ p01, key b1 b0 f0 t1.lt_ (sym p01)⟩, hb⟩
end Go.Proofs.Ytldaamgohdnjnaa

/-
  Rows of lists that a call makes: its own slice of slices, and what these hold.
-/
namespace Go.Proofs.Ytldaamgohdnjnaa
open Ieee Go.RowKit
set_option linter.unusedVariables false

/-- v is a row of the call's own, from block B on, whose lists are those of L; none of them lies in it. -/
structure ROw (T : TypeId) (B : Nat) (w : World) (v : Value) (L : List FRw) : Prop where
  own : w.ownsRow B T 1 v L.length (L.map FRw.val)
  rows : ∀ j, j < L.length → FSl w (L.getD j FRw.none).a (L.getD j FRw.none).len (L.getD j FRw.none).zs ∧ (L.getD j FRw.none).len ≤ 1048576
  apt : ∀ j, j < L.length → 0 < (L.getD j FRw.none).len → ∀ b off, (L.getD j FRw.none).a = some ⟨b, off, none⟩ → v.ownBlock ≠ some b
section
variable {T : TypeId} {B : Nat} {w w' wr w1 : World} {v v' : Value} {L : List FRw}
theorem ROw.made (w : World) (hb : B ≤ w.heap.size) : ROw T B (w.alloc (.cells #[] T)) (.slice (some ⟨w.heap.size, 0, none⟩) 0 0) [] :=
  ⟨World.ownsRow_made w #[] 0 hb (Nat.zero_le _) (by simp), fun j hj => by simp at hj, fun j hj => by simp at hj⟩
theorem ROw.drewN (h : ROw T B w v L) (n : Nat) : ROw T B (w.drewN n) v L := ⟨h.own, h.rows, h.apt⟩
theorem ROw.below (h : ROw T B w v L) (hb : Below w.heap.size w w') : ROw T B w' v L := by
  refine ⟨⟨h.own.1, ?_⟩, fun j hj => ⟨FSl.below (h.rows j hj).1 hb, (h.rows j hj).2⟩, h.apt⟩
  rcases h.own.2 with h2 | ⟨g, cap, cur, rfl, h3, h4, h5⟩
  · exact .inl h2
  · have hlt : g < w.heap.size := by
      rcases Nat.lt_or_ge g w.heap.size with hlt | hge
      · exact hlt
      · rw [Array.getElem?_eq_none hge] at h4; cases h4
    exact .inr ⟨g, cap, cur, rfl, h3, (hb.block g hlt).trans h4, h5⟩
theorem ROw.sl (h : ROw T B w v L) : ∃ A cap, v = .slice A L.length cap ∧ RSl w A L.length L := by
  have hl := h.own.lt
  have hcell := fun g (hg : v.ownBlock = some g) => World.ownsRow.cells h.own hg
  rcases h.own.2 with ⟨rfl, h0⟩ | ⟨g, cap, cur, rfl, hb, hg, hn, hm, hcs, htk⟩
  · refine ⟨none, 0, by rw [h0], ⟨⟨rfl, .inl h0⟩, h.rows⟩⟩
  · have hlt := (hl g rfl).2
    refine ⟨some ⟨g, 0, none⟩, cap, rfl, ⟨⟨rfl, .inr ⟨g, 0, rfl, hlt, fun i hi => ?_⟩⟩, h.rows⟩⟩
    have := hcell g rfl i ((L.getD i FRw.none).val) (by simp [List.getD, hi])
    rw [Nat.zero_add]
    simpa [Go.WideShapes.add_plain] using this
theorem getD_snoc {L : List FRw} {r : FRw} {j : Nat} (hj : j < L.length) : (L ++ [r]).getD j FRw.none = L.getD j FRw.none := by simp [List.getD, List.getElem?_append_left hj]
theorem getD_last {L : List FRw} {r : FRw} : (L ++ [r]).getD L.length FRw.none = r := by simp [List.getD]
/-- A list is appended to such a row. -/
theorem ROw.push {r : FRw} {o : Obj} {n g cap : Nat} (h : ROw T B wr v L) (hb : Below B w wr) (hB : B ≤ wr.heap.size) (hr : FSl wr r.a r.len r.zs) (hrl : r.len ≤ 1048576)
    (hra : 0 < r.len → ∀ b off, r.a = some ⟨b, off, none⟩ → v.ownBlock ≠ some b)
    (hown : w1.ownsRow B T 1 (.slice (some ⟨g, 0, none⟩) (L.length + 1) cap) (L.length + 1) (L.map FRw.val ++ [r.val])) (hg : ((wr.drewN n).alloc o).grownBy w1 v.ownBlock)
    (hat : v.ownBlock = some g ∨ wr.heap.size ≤ g) : ROw T B w1 (.slice (some ⟨g, 0, none⟩) (L.length + 1) cap) (L ++ [r]) ∧ Below B w w1 := by
  have hsz : ((wr.drewN n).alloc o).heap.size = wr.heap.size + 1 := by simp
  have key : ∀ {q : FRw}, FSl wr q.a q.len q.zs → (0 < q.len → ∀ b off, q.a = some ⟨b, off, none⟩ → v.ownBlock ≠ some b) → FSl w1 q.a q.len q.zs := fun {q} hq ha =>
    hq.same (by have := hg.size; omega) fun b off h0 e => by
      obtain ⟨b', off', e', hlt, _⟩ := hq.at h0
      rw [e] at e'
      injection e' with e'
      injection e' with e'
      subst e'
      have h1 := hg.block b (by omega) (fun ee => ha h0 b off e ee.symm)
      rw [h1]
      exact heap_alloc_old (wr.drewN n) o hlt
  have kapt : ∀ {q : FRw}, FSl wr q.a q.len q.zs → (0 < q.len → ∀ b off, q.a = some ⟨b, off, none⟩ → v.ownBlock ≠ some b) → 0 < q.len → ∀ b off, q.a = some ⟨b, off, none⟩ → (Value.slice (some ⟨g, 0, none⟩) (L.length + 1) cap).ownBlock ≠ some b := fun {q} hq ha h0 b off e ee => by
    obtain ⟨b', off', e', hlt, _⟩ := hq.at h0
    rw [e] at e'
    injection e' with e'
    injection e' with e'
    subst e'
    have eg : g = b := by simpa [Value.ownBlock] using ee
    subst eg
    rcases hat with h1 | h1
    · exact ha h0 g off e h1
    · omega
  refine ⟨⟨?_, fun j hj => ?_, fun j hj => ?_⟩, ?_⟩
  · rw [List.length_append, List.map_append]
    exact hown
  · rw [List.length_append] at hj
    simp only [List.length_cons, List.length_nil, Nat.zero_add] at hj
    rcases Nat.lt_or_ge j L.length with h1 | h1
    · rw [getD_snoc h1]; exact ⟨key (h.rows j h1).1 (h.apt j h1), (h.rows j h1).2⟩
    · obtain rfl : j = L.length := by omega
      rw [getD_last]; exact ⟨key hr hra, hrl⟩
  · rw [List.length_append] at hj
    simp only [List.length_cons, List.length_nil, Nat.zero_add] at hj
    rcases Nat.lt_or_ge j L.length with h1 | h1
    · rw [getD_snoc h1]; exact kapt (h.rows j h1).1 (h.apt j h1)
    · obtain rfl : j = L.length := by omega
      rw [getD_last]; exact kapt hr hra
  · refine ((below_drewN hb n).alloc (by show B ≤ wr.heap.size; exact hB) o).grown hg (by rw [hsz]; omega) (fun k hk => (h.own.lt k hk).1)
end
/-- How far a block of slices is filled: the first k lists are told by R. -/
structure NFil (g n k : Nat) (R : Nat → FRw) (wr : World) : Prop where
  cells : ∀ j, j < k → wr.cell? ⟨g, j, none⟩ = some (R j).val
  rest : ∀ j, j < n → ∃ v, wr.cell? ⟨g, j, none⟩ = some v
  fz : ∀ j, j < n → wr.frozen? ⟨g, j, none⟩ = false
  rows : ∀ j, j < k → FSl wr (R j).a (R j).len (R j).zs ∧ (R j).len ≤ 1048576
  apt : ∀ j, j < k → 0 < (R j).len → ∀ b off, (R j).a = some ⟨b, off, none⟩ → b ≠ g
  lt : g < wr.heap.size
section
variable {g n k : Nat} {R : Nat → FRw} {wr wr' : World}
theorem NFil.start (w : World) (n : Nat) (R : Nat → FRw) (z : Array Value) (T : TypeId) (hz : z.size = 1) : NFil w.heap.size n 0 R (w.alloc (.cells (madeCells z n) T)) := by
  refine ⟨fun j hj => by omega, fun j hj => ?_, fun j _ => World.frozen?_alloc_at _ _ _ _ rfl, fun j hj => by omega, fun j hj => by omega, by simp⟩
  rw [World.cell?_alloc_at _ _ _ _ rfl]
  exact ⟨_, Array.getElem?_eq_getElem (by rw [size_madeCells]; omega)⟩
theorem NFil.below (h : NFil g n k R wr) (hb : Below wr.heap.size wr wr') : NFil g n k R wr' :=
  ⟨fun j hj => by rw [hb.cell (p := ⟨g, j, none⟩) h.lt]; exact h.cells j hj, fun j hj => by rw [hb.cell (p := ⟨g, j, none⟩) h.lt]; exact h.rest j hj,
    fun j hj => by rw [hb.frozen (p := ⟨g, j, none⟩) h.lt]; exact h.fz j hj, fun j hj => ⟨FSl.below (h.rows j hj).1 hb, (h.rows j hj).2⟩, h.apt, Nat.lt_of_lt_of_le h.lt hb.size⟩
theorem NFil.step {r : FRw} (h : NFil g n k R wr) (hk : k < n) (hr : FSl wr r.a r.len r.zs) (hrl : r.len ≤ 1048576) (hra : 0 < r.len → ∀ b off, r.a = some ⟨b, off, none⟩ → b ≠ g) :
    NFil g n (k + 1) (fun j => if j = k then r else R j) (wr.setCell ⟨g, k, none⟩ r.val) := by
  have key : ∀ {q : FRw}, FSl wr q.a q.len q.zs → (0 < q.len → ∀ b off, q.a = some ⟨b, off, none⟩ → b ≠ g) → FSl (wr.setCell ⟨g, k, none⟩ r.val) q.a q.len q.zs := fun {q} hq ha =>
    hq.same (by simp [World.setCell]) fun b off h0 e => Below.heap_setCell wr _ _ _ (ha h0 b off e)
  refine ⟨fun j hj => ?_, fun j hj => ?_, fun j hj => by rw [World.frozen?_setCell]; exact h.fz j hj, fun j hj => ?_, fun j hj => ?_, by simpa [World.setCell] using h.lt⟩
  · by_cases e : j = k
    · subst e
      obtain ⟨u, hu⟩ := h.rest j hk
      rw [if_pos rfl]
      exact World.cell?_setCell_same' _ _ _ (by rw [hu]; rfl)
    · rw [if_neg e, setCell_far e]; exact h.cells j (by omega)
  · by_cases e : j = k
    · subst e
      obtain ⟨u, hu⟩ := h.rest j hk
      exact ⟨_, World.cell?_setCell_same' _ _ _ (by rw [hu]; rfl)⟩
    · rw [setCell_far e]; exact h.rest j hj
  · by_cases e : j = k
    · subst e; simp only [if_true]; exact ⟨key hr hra, hrl⟩
    · simp only [if_neg e]; exact ⟨key (h.rows j (by omega)).1 (h.apt j (by omega)), (h.rows j (by omega)).2⟩
  · by_cases e : j = k
    · subst e; simp only [if_true]; exact hra
    · simp only [if_neg e]; exact h.apt j (by omega)
theorem NFil.rsl (h : NFil g n n R wr) : RSl wr (some ⟨g, 0, none⟩) n ((List.range n).map R) := by
  have e : ∀ j, j < n → ((List.range n).map R).getD j FRw.none = R j := fun j hj => by simp [List.getD, hj]
  refine ⟨⟨by simp, .inr ⟨g, 0, rfl, h.lt, fun j hj => ?_⟩⟩, fun j hj => ?_⟩
  · rw [Nat.zero_add, e j hj]; exact h.cells j hj
  · rw [e j hj]; exact h.rows j hj
end
end Go.Proofs.Ytldaamgohdnjnaa

/-
  ProfileOf of the program: the nearest part apart from one.
-/
namespace Go.Proofs.Ytldaamgohdnjnaa
open Ieee Go.RowKit
set_option linter.unusedVariables false

theorem run_maxP {P : Program} (w : World) (ts : Array TypeId) (t : TypeId) (x y : Int) : (Builtin.max_ ts t #[.int .i64 x, .int .i64 y]).run P w = .ok (.int .i64 (max x y)) w := by
  have h : (if x < y then y else x) = max x y := by split <;> omega
  simp [Builtin.max_, Builtin.max2, List.foldlM, h]
/-- A block of numbers that may have failed. -/
structure Mf2 (g n : Nat) (f : Nat → Nat) (o : Nat → Bool) (wr : World) : Prop where
  c : ∀ j, j < n → wr.cell? ⟨g, j * 2, none⟩ = some (.float .f32 (f j)) ∧ wr.cell? ⟨g, j * 2 + 1, none⟩ = some (.bool (o j))
  fz : ∀ j, wr.frozen? ⟨g, j, none⟩ = false
  lt : g < wr.heap.size
section
variable {g n : Nat} {f f' : Nat → Nat} {o o' : Nat → Bool} {wr wr' : World}
theorem Mf2.start (w : World) (n : Nat) (T : TypeId) : Mf2 w.heap.size n (fun _ => 0) (fun _ => false) (w.alloc (.cells (madeCells (Value.agg #[.float .f32 0, .bool false]).cells (n * 2)) T)) := by
  refine ⟨fun j hj => ⟨?_, ?_⟩, fun j => World.frozen?_alloc_at _ _ _ _ rfl, by simp⟩
  · rw [World.cell?_alloc_at _ _ _ _ rfl]
    show (madeCells #[.float .f32 0, .bool false] (n * 2))[j * 2]? = _
    rw [Array.getElem?_eq_getElem (by rw [size_madeCells]; omega)]
    unfold madeCells
    simp
  · rw [World.cell?_alloc_at _ _ _ _ rfl]
    show (madeCells #[.float .f32 0, .bool false] (n * 2))[j * 2 + 1]? = _
    rw [Array.getElem?_eq_getElem (by rw [size_madeCells]; omega)]
    unfold madeCells
    simp
theorem Mf2.congr (h : Mf2 g n f o wr) (hf : ∀ j, j < n → f j = f' j) (ho : ∀ j, j < n → o j = o' j) : Mf2 g n f' o' wr :=
  ⟨fun j hj => ⟨by rw [← hf j hj]; exact (h.c j hj).1, by rw [← ho j hj]; exact (h.c j hj).2⟩, h.fz, h.lt⟩
theorem Mf2.below (h : Mf2 g n f o wr) (hb : Below wr.heap.size wr wr') : Mf2 g n f o wr' :=
  ⟨fun j hj => ⟨by rw [hb.cell (p := ⟨g, j * 2, none⟩) h.lt]; exact (h.c j hj).1, by rw [hb.cell (p := ⟨g, j * 2 + 1, none⟩) h.lt]; exact (h.c j hj).2⟩,
    fun j => by rw [hb.frozen (p := ⟨g, j, none⟩) h.lt]; exact h.fz j, Nat.lt_of_lt_of_le h.lt hb.size⟩
theorem Mf2.set {k : Nat} (h : Mf2 g n f o wr) (hk : k < n) (x : Nat) (b : Bool) : Mf2 g n (fun j => if j = k then x else f j) (fun j => if j = k then b else o j) ((wr.setCell ⟨g, k * 2, none⟩ (.float .f32 x)).setCell ⟨g, k * 2 + 1, none⟩ (.bool b)) := by
  obtain ⟨h1, h2⟩ := h.c k hk
  refine ⟨fun j hj => ?_, fun j => by rw [World.frozen?_setCell, World.frozen?_setCell]; exact h.fz j, by simpa [World.setCell] using h.lt⟩
  by_cases e : j = k
  · subst e
    simp only [if_true]
    refine ⟨?_, World.cell?_setCell_same' _ _ _ (by rw [setCell_far (by omega)]; rw [h2]; rfl)⟩
    rw [setCell_far (by omega)]
    exact World.cell?_setCell_same' _ _ _ (by rw [h1]; rfl)
  · simp only [if_neg e]
    rw [setCell_far (by omega), setCell_far (by omega), setCell_far (by omega), setCell_far (by omega)]
    exact h.c j hj
theorem Mf2.msl (h : Mf2 g n f o wr) : MSl wr (some ⟨g, 0, none⟩) n f o := by
  right
  exact ⟨g, 0, rfl, h.lt, fun j hj => by rw [Nat.zero_add]; exact h.c j hj⟩
end
set_option maxHeartbeats 4000000 in
set_option maxRecDepth 100000 in
theorem apart_any (a : Option Addr) (n cap : Nat) (L : List FRw) (zs : List Nat) (m i : Nat) (w : World) (h : RSl w a n L) (hE : prE zs m = true) (hn : prC zs m = n) (hL : ∀ j, j < n → (L.getD j FRw.none).len = m ∧ (L.getD j FRw.none).zs = prN zs m j) (hi : i < n) :
    Calls Try.prog 106 #[.slice a n cap, .int .i64 i] w (RetNof (prP zs m i) w) := by
  obtain ⟨i0, hi0, hz0, hz1, hz2⟩ : ∃ i0, Try.prog.info? 165 = some i0 ∧ i0.zero = some (.agg #[.float .f32 0, .bool false]) ∧ i0.size = 2 ∧ i0.bytes = 8 := info_parts Try.infoM
  have hn96 := (prC_le hE).1
  rw [Int.toNat_natCast, hn] at hn96
  have hmk := fun W => run_make_len2 (P := Try.prog) W 163 165 i0 (.agg #[.float .f32 0, .bool false]) Try.underlying163 hi0 hz0 hz1 n (by rw [hz2]; omega) (by omega)
  have HI0 := Lib.hid (Mf2.start w n 165)
  have HB0 := Lib.hid (show Below w.heap.size w (w.alloc (.cells (madeCells (Value.agg #[.float .f32 0, .bool false]).cells (n * 2)) 165)) from (Below.refl _ _).alloc (Nat.le_refl _) _)
  have hmx := fun (W : World) (ts : Array TypeId) (t : TypeId) (x y : Int) => run_maxP (P := Try.prog) W ts t x y
  have HT := Lib.hid (fun j (hj : j < n) => prN_t hE (i := j) (by rw [Int.toNat_natCast, hn]; exact hj))
  have HN := Lib.hid hn
  have HL := Lib.hid hL
  have H := Lib.hid h
  have hm48 : m ≤ 1048576 := by have := (prQ_t (prE_t hE).1).2.2; have := (serB_t (prQ_t (prE_t hE).1).1).2.1; omega
  obtain ⟨b, off, rfl, hb, hc⟩ := h.1.at (by omega)
  have hci := hc i hi
  obtain ⟨hFi, _⟩ := h.2 i hi
  have HFi := Lib.hid hFi
  have hli := (hL i hi).1
  have HZi := Lib.hid (hL i hi).2
  unfold FRw.val at hci
  generalize L.getD i FRw.none = ri at *
  obtain ⟨ia, il, ic, iz⟩ := ri
  simp only at hci HFi hli HZi
  subst hli
  clear h hE hn hL hFi hc hi0 hz0 hz1 hz2
  go_enter Try.func106, Try.ntmps106
  go_wp2
  clear hmk
  go_loopw [22] (fun c wr => ∃ k : Nat, k ≤ n ∧ c = .int .i64 k ∧ Hid (Mf2 w.heap.size n (fun j => if j < k then prV zs il i j else 0) (fun j => if j < k then prO zs il i j else false) wr) ∧ Hid (Below w.heap.size w wr)) (fun c _ => n - (intOf c).toNat)
  case atStart => exact ⟨0, Nat.zero_le _, rfl, Lib.hid (HI0.out.congr (fun j _ => by simp) (fun j _ => by simp)), HB0⟩
  case round =>
    rename World => wo
    obtain ⟨k, hk, rfl, hf, hbel⟩ := hrel
    by_cases hlt : k < n
    · obtain ⟨b', off', e', hblt, hc⟩ := H.out.1.at (by omega)
      have hck := hc k hlt
      rw [← hbel.out.cell (p := ⟨b', off' + k, none⟩) hblt] at hck
      injection e' with e'
      injection e' with e1 e2
      subst e1 e2
      obtain ⟨hF, hFm⟩ := H.out.2 k hlt
      have HFw := Lib.hid (FSl.below hF hbel.out)
      have HFi2 := Lib.hid (FSl.below HFi.out hbel.out)
      have hlk := (HL.out k hlt).1
      have hzk := (HL.out k hlt).2
      unfold FRw.val at hck
      generalize L.getD k FRw.none = r at *
      obtain ⟨ra, rl, rc, rz⟩ := r
      simp only at hck hFm HFw hlk hzk
      subst hlk
      have HZk := Lib.hid hzk
      have HFar := Lib.hid (show farB iz rz = fin .f32 (prF zs rl i k) ∧ farX iz rz = prF zs rl i k from by
        rw [HZi.out, hzk]
        have h1 := HT.out i hi
        have h2 := HT.out k hlt
        rw [Int.toNat_natCast] at h1 h2
        refine ⟨?_, rfl⟩
        unfold farB pairB
        rw [h1.2.2, h2.2.2, h1.2.1, h2.2.1, decide_eq_true rfl]
        rfl)
      have hwa : wrap64 ((i : Int) - (k : Int)) = (i : Int) - (k : Int) := by unfold wrap64; omega
      have hwb : wrap64 ((k : Int) - (i : Int)) = (k : Int) - (i : Int) := by unfold wrap64; omega
      have HKeep := Lib.hid (show prO zs rl i k = false → Mf2 w.heap.size n (fun j => if j < k + 1 then prV zs rl i j else 0) (fun j => if j < k + 1 then prO zs rl i j else false) wo from fun ho => hf.out.congr
        (fun j _ => by
          by_cases e : j = k
          · subst e; rw [if_neg (by omega), if_pos (by omega)]; unfold prV; rw [ho]; rfl
          · by_cases e2 : j < k
            · rw [if_pos e2, if_pos (by omega)]
            · rw [if_neg e2, if_neg (by omega)])
        (fun j _ => by
          by_cases e : j = k
          · subst e; rw [if_neg (by omega), if_pos (by omega), ho]
          · by_cases e2 : j < k
            · rw [if_pos e2, if_pos (by omega)]
            · rw [if_neg e2, if_neg (by omega)]))
      clear hc hF hblt hzk
      by_cases hap : rl ≤ i - k ∨ rl ≤ k - i
      · have hd : decide ((rl : Int) ≤ max ((i : Int) - (k : Int)) ((k : Int) - (i : Int))) = true := decide_eq_true (by omega)
        have HO := Lib.hid (show prO zs rl i k = fin .f32 (prF zs rl i k) from by unfold prO apt2; rw [decide_eq_true hap]; rfl)
        clear hap
        go_wp2_with fail
        refine (imFar_any _ _ _ _ _ _ _ _ _ HFi2.out HFw.out hm48 hm48).mono ?_
        rintro e w2 ⟨r, hr, rfl, hb2⟩
        have hrv : r = prV zs rl i k := by
          have e1 : farV iz rz = prV zs rl i k := by unfold farV prV; rw [HFar.out.1, HFar.out.2, HO.out]
          refine fin_word (hr.trans e1) ?_
          unfold prV
          split
          · rename_i g; rw [HO.out] at g; exact g
          · decide +kernel
        have hob : farB iz rz = prO zs rl i k := by rw [HFar.out.1, HO.out]
        rw [hob]
        subst hrv
        have hf2 := hf.out.below hb2
        obtain ⟨hv1, hv2⟩ := hf2.c k hlt
        have hz1 := hf2.fz (k * 2)
        have hz2 := hf2.fz (k * 2 + 1)
        have HSt := Lib.hid ((hf2.set hlt (prV zs rl i k) (prO zs rl i k)).congr (f' := fun j => if j < k + 1 then prV zs rl i j else 0) (o' := fun j => if j < k + 1 then prO zs rl i j else false)
          (fun j _ => by
            by_cases e : j = k
            · subst e; rw [if_pos rfl, if_pos (by omega)]
            · rw [if_neg e]; by_cases e2 : j < k
              · rw [if_pos e2, if_pos (by omega)]
              · rw [if_neg e2, if_neg (by omega)])
          (fun j _ => by
            by_cases e : j = k
            · subst e; rw [if_pos rfl, if_pos (by omega)]
            · rw [if_neg e]; by_cases e2 : j < k
              · rw [if_pos e2, if_pos (by omega)]
              · rw [if_neg e2, if_neg (by omega)]))
        have hb3 := hbel.out.trans (hb2.mono hbel.out.size)
        have HBe := Lib.hid ((hb3.setCell (p := ⟨w.heap.size, k * 2, none⟩) (Nat.le_refl _) (.float .f32 (prV zs rl i k))).setCell (p := ⟨w.heap.size, k * 2 + 1, none⟩) (Nat.le_refl _) (.bool (prO zs rl i k)))
        clear hr hb2 hf2 hb3 HKeep HO HFar hob hf hbel
        generalize hV : prV zs rl i k = V at HSt HBe ⊢
        generalize hQ : prO zs rl i k = O at HSt HBe ⊢
        rw [if_neg (Nat.lt_irrefl k)] at hv1 hv2
        clear hV hQ hck hd
        go_wp2
        go_roundw
        case rel => exact ⟨k + 1, by omega, by go_num, HSt, HBe⟩
        case measure => simp [intOf]; omega
      · have hd : decide ((rl : Int) ≤ max ((i : Int) - (k : Int)) ((k : Int) - (i : Int))) = false := decide_eq_false (by omega)
        have HK := Lib.hid (HKeep.out (by unfold prO apt2; rw [decide_eq_false hap]; rfl))
        clear hap HKeep HFar
        go_wp2
        go_roundw
        case rel => exact ⟨k + 1, by omega, by go_num, HK, hbel⟩
        case measure => simp [intOf]; omega
    · have e : k = n := by omega
      have HM := Lib.hid (show MSl wo (some ⟨w.heap.size, 0, none⟩) n (prV zs il i) (prO zs il i) from (hf.out.congr (f' := prV zs il i) (o' := prO zs il i) (fun j hj => by rw [if_pos (by omega)]) (fun j hj => by rw [if_pos (by omega)])).msl)
      have HR := Lib.hid (show nst (prV zs il i) (prO zs il i) n = prP zs il i by unfold prP; rw [HN.out])
      clear e hf hmx
      go_wp2_with fail
      refine (nof_any _ _ _ _ _ _ HM.out (by omega)).mono ?_
      rintro e w2 ⟨rfl, hb2⟩
      rw [HR.out]
      have HBe := Lib.hid (hbel.out.trans (hb2.mono hbel.out.size))
      clear hb2
      generalize prP zs il i = S at *
      obtain ⟨A, X, B⟩ := S
      go_wp2
      go_ret3
      exact ⟨rfl, HBe.out⟩
end Go.Proofs.Ytldaamgohdnjnaa

/-
  ProfileOf of the model.
-/
namespace Go.Proofs.Ytldaamgohdnjnaa
open Ieee Go.RowKit
set_option linter.unusedVariables false

theorem nst_no (F : Nat → Nat) (O : Nat → Bool) : ∀ {n : Nat}, (nst F O n).ok = false → nst F O n = ⟨0, 0, false⟩
  | 0, _ => rfl
  | n + 1, h => by
    rw [show nst F O (n + 1) = if (O n && (!(nst F O n).ok || ltF (F n) (nst F O n).x)) = true then ⟨n, F n, true⟩ else nst F O n from rfl] at h ⊢
    split at h
    · cases h
    · rename_i g
      rw [if_neg g]
      exact nst_no F O h
theorem nst_lt (F : Nat → Nat) (O : Nat → Bool) : ∀ {n : Nat}, (nst F O n).ok = true → (nst F O n).at_ < n
  | 0, h => by cases h
  | n + 1, h => by
    rw [show nst F O (n + 1) = if (O n && (!(nst F O n).ok || ltF (F n) (nst F O n).x)) = true then ⟨n, F n, true⟩ else nst F O n from rfl] at h ⊢
    split
    · exact Nat.lt_succ_self _
    · rename_i g
      rw [if_neg g] at h
      exact Nat.lt_succ_of_lt (nst_lt F O h)
/-- The index that the model holds: -1 where there is none yet. -/
def bsI (S : Nst) : Int := if S.ok then (S.at_ : Int) else -1
theorem word_of {r v : Nat} (h : cn .f32 r = v) (hN : isN .f32 v = false) : r = v := by
  have : isN .f32 r = false := by rw [← isN_cn, h, hN]
  rw [← h, cn_num this]
theorem cnl_fins {rs : List Nat} (h : fins rs = true) : cnl rs = rs := by
  unfold cnl
  conv => rhs; rw [← List.map_id rs]
  unfold fins at h
  exact List.map_congr_left fun x hx => (fin_word rfl ((fin_congr (cn_cn .f32 x)).trans (List.all_eq_true.1 h x hx))).symm
/-- What the model finds at the end. -/
theorem pr_end {zs : List Nat} {q : Int} (h : prE zs q = true) (hok : ∀ j, j < prC zs q.toNat → (prM zs q.toNat j).ok = true) :
    prB zs q = fins (tells (fun j => (prM zs q.toNat j).x) (prC zs q.toNat)) ∧ (prB zs q = true → prX zs q = tells (fun j => (prM zs q.toNat j).x) (prC zs q.toNat) ∧ prI zs q = (List.range (prC zs q.toNat)).map (fun j => ((prM zs q.toNat j).at_ : Int))) := by
  constructor
  · unfold prB
    rw [h, Bool.true_and]
    unfold fins tells
    rw [List.all_map, Bool.eq_iff_iff, List.all_eq_true, List.all_eq_true]
    constructor
    · intro g j hj
      have := g j hj
      rw [(pr_two h (by simpa using hj)).1] at this
      exact (Bool.and_eq_true _ _ ▸ this).2
    · intro g j hj
      rw [(pr_two h (by simpa using hj)).1, hok j (by simpa using hj)]
      exact g j hj
  · intro hb
    obtain ⟨_, h2⟩ := prB_t hb
    unfold prX prI
    rw [hb]
    refine ⟨tells_congr fun j hj => ?_, List.map_congr_left fun j hj => ?_⟩
    · show (prP zs q.toNat j).x = _
      rw [((pr_two h hj).2 (h2 j hj)).1]
    · show ((prP zs q.toNat j).at_ : Int) = _
      rw [((pr_two h (by simpa using hj)).2 (h2 j (by simpa using hj))).1]
theorem apt_swap {T : TypeId} {B : Nat} {w w' : World} {v v' : Value} {is : List Int} {o : Obj} (h : IOwn T B w v' is) (ha : Apt v v') (hg : (w.alloc o).grownBy w' v.ownBlock) : IOwn T B w' v' is := by
  refine World.ownsRow.kept (World.ownsRow.alloc h o) hg ?_
  cases hv : v'.ownBlock with
  | none => exact .inl rfl
  | some b => exact .inr fun e => ha b e.symm hv
theorem apt_swapF {T : TypeId} {B : Nat} {w w' : World} {v v' : Value} {rs : List Nat} {o : Obj} (h : FOwn T B w v rs) (ha : Apt v v') (hg : (w.alloc o).grownBy w' v'.ownBlock) : FOwn T B w' v rs := by
  refine World.ownsRow.kept (World.ownsRow.alloc h o) hg ?_
  cases hv : v.ownBlock with
  | none => exact .inl rfl
  | some b => exact .inr fun e => ha b hv e.symm
set_option maxHeartbeats 8000000 in
set_option maxRecDepth 100000 in
theorem spPrf_any (a : Option Addr) (len cap : Nat) (zs : List Nat) (q : Int) (w : World) (h : FSl w a len zs) (hm : len ≤ 1048576) (hcap : len ≤ cap) (hcap2 : cap ≤ 1048576) :
    Calls Try.prog 46 #[.slice a len cap, .int .i64 q] w (RetLI 32 2 (prX zs q) (prI zs q) (prB zs q) w) := by
  obtain ⟨i0, hi, hz0, hz1, hz2⟩ := info_parts Try.infoS
  obtain ⟨i1, hi1, hz3, hz4, hz5⟩ := info_parts Try.infoR
  obtain ⟨i2, hi2, hz6, hz7, hz8⟩ := info_parts Try.infoI
  have H := Lib.hid h
  have HL := Lib.hid h.1
  clear h
  cases hs : serB zs
  · have HS := Lib.hid hs
    have HB := Lib.hid (pr_bad (prE_bad (show prE zs q = false by unfold prE prQ; rw [hs]; rfl)))
    clear hs
    go_enter Try.func46, Try.ntmps46
    go_wp2_with (go_at_call 64; refine (specSeries_any _ _ _ _ _ H.out hm).mono ?_; rw [HS.out]; rintro e w' ⟨m, rfl, rfl⟩)
    go_ret3
    exact fail_li _ _ HB.out.2.2 HB.out.1 HB.out.2.1 (below_drewN (Below.refl _ _) _)
  · have HS := Lib.hid hs
    by_cases hq : q < 2 ∨ (len : Int) / 2 < q
    · have HB := Lib.hid (pr_bad (prE_bad (show prE zs q = false by unfold prE prQ; rw [hs, decide_eq_false (by rw [HL.out]; omega)]; rfl)))
      clear hs
      go_enter Try.func46, Try.ntmps46
      go_wp2_with fail
      refine (specSeries_any _ _ _ _ _ H.out hm).mono ?_
      rw [HS.out]
      rintro e w' ⟨m, rfl, rfl⟩
      go_wp2_with fail
      refine (in_no _ _ _ _ hq).mono ?_
      rintro e w' ⟨rfl, rfl⟩
      go_wp2
      go_ret3
      exact fail_li _ _ HB.out.2.2 HB.out.1 HB.out.2.1 (below_drewN (Below.refl _ _) _)
    · obtain ⟨m, rfl⟩ : ∃ m : Nat, q = m := ⟨q.toNat, by omega⟩
      have hin : (2 : Int) ≤ m ∧ (m : Int) ≤ (len : Int) / 2 := by omega
      have hl96 := (serB_t hs).2.1
      rw [HL.out] at hl96
      have hE := show prE zs m = prA zs m by unfold prE prQ; rw [hs, decide_eq_true (by rw [HL.out]; omega), Int.toNat_natCast]; rfl
      have hCd : len + 1 - m = prC zs m := by unfold prC; rw [HL.out]
      obtain ⟨C, hC⟩ : ∃ C, prC zs m = C := ⟨_, rfl⟩
      have HE := Lib.hid hE
      have HC := Lib.hid hC
      rw [hC] at hCd
      have hm2 : 2 ≤ m := by omega
      have HCl := Lib.hid (show C + m = len + 1 by omega)
      have hC96 : C ≤ 96 := by omega
      have HO0 := Lib.hid (fun n => ROw.made (T := 22) (B := w.heap.size) (w.drewN n) (Nat.le_refl _))
      have HB0 := Lib.hid (fun n => (below_drewN (Below.refl w.heap.size w) n).alloc (Nat.le_refl _) (.cells #[] 22))
      clear hs hE hC hCd hq
      go_enter Try.func46, Try.ntmps46
      go_wp2_with fail
      refine (specSeries_any _ _ _ _ _ H.out hm).mono ?_
      rw [HS.out]
      rintro e w' ⟨n0, rfl, rfl⟩
      go_wp2_with fail
      refine (in_yes _ _ _ _ hin.1 hin.2).mono ?_
      rintro e w' ⟨rfl, rfl⟩
      clear hin
      go_wp2
      go_loopw [8, 9] (fun v i wr => ∃ (k : Nat) (L : List FRw), k ≤ C ∧ i = .int .i64 k ∧ Hid (L.length = k) ∧ Hid (ROw 22 w.heap.size wr v L) ∧ Hid (∀ j, j < k → (L.getD j FRw.none).len = m ∧ (L.getD j FRw.none).zs = prN zs m j) ∧ Hid (∀ j, j < k → evnB (prt zs m j) = true) ∧ Hid (Below w.heap.size w wr)) (fun _ i _ => C - (intOf i).toNat)
      case atStart => exact ⟨0, [], Nat.zero_le _, rfl, Lib.hid rfl, Lib.hid (HO0.out _), Lib.hid (fun j hj => by omega), Lib.hid (fun j hj => by omega), Lib.hid (HB0.out _)⟩
      case round =>
        rename_i wr
        obtain ⟨k, L, hk, rfl, hll, hro, hR, hev, hbel⟩ := hrel
        by_cases hlt : k < C
        · have hkm : k + m ≤ len := by have := HCl.out; omega
          have hkc : k + m ≤ cap := by omega
          have hd : decide ((k : Int) + (m : Int) ≤ (len : Int)) = true := decide_eq_true (by omega)
          have hsz := hbel.out.size
          obtain ⟨b, off, rfl, hb, _⟩ := H.out.at (by omega)
          have HCut := Lib.hid (show FSl wr (some ⟨b, off + k, none⟩) m (prt zs m k) from FSl.cut (FSl.below H.out hbel.out) (by omega) hkm)
          have hpl : (prt zs m k).length = m := prt_len (by rw [HL.out]; exact hkm)
          have HBad := Lib.hid (show evnB (prt zs m k) = false → prE zs m = false from fun hh => by
            rw [HE.out]; unfold prA; rw [HC.out]; exact not_all_range hlt hh)
          have HSp := Lib.hid (show serB (prt zs m k) = true from by
            unfold serB
            rw [hpl, decide_eq_true (by omega), Bool.true_and]
            have hf := (serB_t HS.out).2.2
            unfold fins at hf ⊢
            rw [List.all_eq_true] at hf ⊢
            exact fun x hx => hf x (List.mem_of_mem_drop (List.mem_of_mem_take hx)))
          have HPl := Lib.hid hpl
          clear hb hpl
          go_wp2_with fail
          refine (l07Norm_any _ _ _ _ _ HCut.out HSp.out).mono ?_
          rintro e w1 ⟨v1, rs, rfl, ho, hx, hb1⟩
          have HBl := Lib.hid (hbel.out.trans (hb1.mono hsz))
          cases he : evnB (prt zs m k)
          · have HB := Lib.hid (pr_bad (prE_bad (HBad.out he)))
            obtain ⟨A, cp, rfl, _, _⟩ := ho.sl
            clear ho hx hb1 he hro HBad hbel
            go_wp2_with fail
            go_ret3
            exact fail_li _ _ HB.out.2.2 HB.out.1 HB.out.2.1 HBl.out
          · obtain ⟨g1, g2⟩ := evnB_fins he
            rw [HPl.out] at g2
            have hx := hx he
            have hrs : rs = prN zs m k := by
              have : fins rs = true := by rw [← fins_cnl, hx]; exact g1
              unfold prN
              rw [← hx]
              unfold cnl
              conv => lhs; rw [← List.map_id rs]
              exact List.map_congr_left fun x hx => fin_word rfl ((fin_congr (cn_cn .f32 x)).trans (List.all_eq_true.1 this x hx))
            have hrl : rs.length = m := by rw [hrs]; exact g2
            obtain ⟨A, cp, rfl, hsl, hown⟩ := ho.sl
            rw [hrl] at hsl hown ⊢
            have HRo := Lib.hid (hro.out.below hb1)
            have HSl := Lib.hid (show FSl w1 A m rs from hsl)
            have HAp := Lib.hid (show 0 < m → ∀ b' off', A = some ⟨b', off', none⟩ → u8.ownBlock ≠ some b' from fun h0 b' off' e' ee => by
              obtain ⟨b2, e2, hge, _⟩ := hown 0 h0
              rw [e'] at e2
              injection e2 with e2
              injection e2 with e2
              have := (hro.out.own.lt b' ee).2
              omega)
            have HLn := Lib.hid hll.out
            have hL96 : L.length ≤ 96 := by have := hll.out; omega
            have hw1 := HBl.out.size
            have HRn := Lib.hid (show ∀ j, j < k + 1 → ((L ++ [(⟨A, m, cp, rs⟩ : FRw)]).getD j FRw.none).len = m ∧ ((L ++ [(⟨A, m, cp, rs⟩ : FRw)]).getD j FRw.none).zs = prN zs m j from fun j hj => by
              by_cases e : j = k
              · subst e; rw [← hll.out, getD_last]; exact ⟨rfl, by rw [hll.out]; exact hrs⟩
              · rw [getD_snoc (by rw [hll.out]; omega)]; exact hR.out j (by omega))
            have HEn := Lib.hid (show ∀ j, j < k + 1 → evnB (prt zs m j) = true from fun j hj => by
              by_cases e : j = k
              · subst e; exact he
              · exact hev.out j (by omega))
            clear ho hx hb1 he hro HBad hbel hrs hrl hsl hown g1 g2 hll hR hev
            go_wp2_with (at_builtin; refine wpList_append_lies _ rfl _ _ 23 rfl w.heap.size 22 i0 (.slice none 0 0) 1 24 Try.underlying23 hi hz0 hz1 hz2 rfl (by decide) _ _ _ rfl (World.ownsRow.alloc (HRo.out.drewN 0).own _) ⟨w1.heap.size, 0, none⟩ 1 1 [_] rfl rfl (one_new rfl) ?c2 (by decide) ?c3 ?c4 ?c5 _ rfl ?_)
            case c2 => intro u hu; simp at hu; subst hu; rfl
            case c3 => unfold maxLen; omega
            case c4 => omega
            case c5 => simp; show w.heap.size ≤ w1.heap.size + 1; omega
            intro g cc w2 hown' hgrow hat hglt
            have R := ROw.push (n := 0) (r := ⟨A, m, cp, rs⟩) HRo.out HBl.out hw1 HSl.out (by show m ≤ _; omega) HAp.out hown' hgrow (hat.imp_right fun e => by rw [e]; simp)
            have hRr := Lib.hid R
            clear R hown' hgrow hat hglt
            go_wp2
            go_roundw
            case rel => exact ⟨k + 1, _, by omega, by go_num, Lib.hid (by rw [List.length_append, HLn.out]; rfl), Lib.hid hRr.out.1, HRn, HEn, Lib.hid hRr.out.2⟩
            case measure => simp [intOf]; omega
        · have e : k = C := by omega
          have hd : decide ((C : Int) + (m : Int) ≤ (len : Int)) = false := decide_eq_false (by have := HCl.out; omega)
          have hEt : prE zs m = true := by rw [HE.out]; unfold prA; rw [HC.out]; exact all_range (fun j hj => hev.out j (by omega))
          have HEt := Lib.hid hEt
          have hcm : C + m ≤ 97 := by have := HCl.out; omega
          obtain ⟨A, cp, rfl, hrs⟩ := hro.out.sl
          rw [hll.out, e] at hrs ⊢
          have HRs := Lib.hid hrs
          have hLc := hR.out
          rw [e] at hLc
          have HLc := Lib.hid hLc
          have HBw := Lib.hid hbel.out
          have hww := hbel.out.size
          clear e hro hR hev hll hbel hrs hLc hEt
          have HO1 := Lib.hid (show FOwn 32 wr.heap.size ((wr.alloc (.cells #[] 32)).alloc (.cells #[] 2)) (.slice (some ⟨wr.heap.size, 0, none⟩) 0 0) [] from (FOwn.made (T := 32) (B := wr.heap.size) wr (Nat.le_refl _)).alloc _)
          have HO2 := Lib.hid (show IOwn 2 wr.heap.size ((wr.alloc (.cells #[] 32)).alloc (.cells #[] 2)) (.slice (some ⟨wr.heap.size + 1, 0, none⟩) 0 0) [] from by
            simpa using IOwn.made (T := 2) (B := wr.heap.size) (wr.alloc (.cells #[] 32)) (by simp))
          have HAp0 := Lib.hid (show Apt (.slice (some ⟨wr.heap.size, 0, none⟩) 0 0) (.slice (some ⟨wr.heap.size + 1, 0, none⟩) 0 0) from fun b e0 e1 => by simp [Value.ownBlock] at e0 e1; omega)
          have HB1 := Lib.hid (((Below.refl wr.heap.size wr).alloc (Nat.le_refl _) (.cells #[] 32)).alloc (by simp) (.cells #[] 2))
          have HT := Lib.hid (show ∀ j k, j < C → k < C → upw (prF zs m j k) from fun j k hj hk => by
            have := prF_up (zs := zs) (q := m) (i := j) (k := k) HEt.out (by rw [Int.toNat_natCast, HC.out]; exact hj) (by rw [Int.toNat_natCast, HC.out]; exact hk)
            rwa [Int.toNat_natCast] at this)
          have HEnd := Lib.hid (show (∀ j, j < C → (prM zs m j).ok = true) → prB zs m = fins (tells (fun j => (prM zs m j).x) C) ∧ (prB zs m = true → prX zs m = tells (fun j => (prM zs m j).x) C ∧ prI zs m = (List.range C).map (fun j => ((prM zs m j).at_ : Int))) from fun g => by
            have := pr_end (zs := zs) (q := m) HEt.out (by rw [Int.toNat_natCast, HC.out]; exact g)
            rw [Int.toNat_natCast, HC.out] at this
            exact this)
          have HNo := Lib.hid (fun j (hj : j < C) (ho : (prM zs m j).ok = false) => pr_bad (prB_not (zs := zs) (q := m) (i := j) (by rw [Int.toNat_natCast, HC.out]; exact hj) (by rw [(pr_two HEt.out (by rw [Int.toNat_natCast, HC.out]; exact hj)).1, Int.toNat_natCast, ho]; rfl)))
          have hmm : m ≤ 1048576 := by omega
          have hM0 : ∀ i, prM zs m i = nst (prF zs m i) (apt2 m i) C := fun i => by unfold prM; rw [HC.out]
          have HM0 := Lib.hid hM0
          clear hM0
          go_wp2
          go_loopw [12, 13, 60] (fun v0 v1 c wo => ∃ (i : Nat) (rs : List Nat) (is : List Int), i ≤ C ∧ c = .int .i64 i ∧ Hid (rs.length = i ∧ is.length = i) ∧ Hid (FOwn 32 wr.heap.size wo v0 rs) ∧ Hid (IOwn 2 wr.heap.size wo v1 is) ∧ Hid (Apt v0 v1) ∧ Hid (rs = tells (fun j => (prM zs m j).x) i ∧ is = (List.range i).map (fun j => ((prM zs m j).at_ : Int))) ∧ Hid (∀ j, j < i → (prM zs m j).ok = true) ∧ Hid (Below wr.heap.size wr wo)) (fun _ _ c _ => C - (intOf c).toNat)
          case atStart => exact ⟨0, [], [], Nat.zero_le _, rfl, Lib.hid ⟨rfl, rfl⟩, HO1, HO2, HAp0, Lib.hid ⟨rfl, rfl⟩, Lib.hid (fun j hj => by omega), HB1⟩
          case round =>
            rename World => wo
            obtain ⟨i, rs, is, hi', rfl, hll, ho0, ho1, hap0, hrs, hok, hbel⟩ := hrel
            by_cases hlt2 : i < C
            · obtain ⟨b, off, rfl, hbb, hcc⟩ := HRs.out.1.at (by omega)
              have hci := hcc i hlt2
              rw [← hbel.out.cell (p := ⟨b, off + i, none⟩) hbb] at hci
              have HFi := Lib.hid (FSl.below (HRs.out.2 i hlt2).1 hbel.out)
              have hli := (HLc.out i hlt2).1
              have HZi := Lib.hid (HLc.out i hlt2).2
              unfold FRw.val at hci
              generalize L.getD i FRw.none = ri at *
              obtain ⟨ia, il, ic, iz⟩ := ri
              simp only at hci HFi hli HZi
              subst hli
              have HM := Lib.hid (HM0.out i)
              go_wp2
              go_loopw [15, 16, 65] (fun bv xv c wz => ∃ k p : Nat, k ≤ C ∧ c = .int .i64 k ∧ bv = .int .i64 (bsI (nst (prF zs il i) (apt2 il i) k)) ∧ xv = .float .f32 (nst (prF zs il i) (apt2 il i) k).x ∧ wz = wo.drewN p) (fun _ _ c _ => C - (intOf c).toNat)
              case atStart => exact ⟨0, 0, Nat.zero_le _, rfl, rfl, rfl, rfl⟩
              case round =>
                obtain ⟨k, p, hk', rfl, rfl, rfl, rfl⟩ := hrel
                by_cases hlt3 : k < C
                · have hck := hcc k hlt3
                  rw [← hbel.out.cell (p := ⟨b, off + k, none⟩) hbb] at hck
                  have HFk := Lib.hid (FSl.below (HRs.out.2 k hlt3).1 hbel.out)
                  have hlk := (HLc.out k hlt3).1
                  have HZk := Lib.hid (HLc.out k hlt3).2
                  unfold FRw.val at hck
                  generalize L.getD k FRw.none = rk at *
                  obtain ⟨ka, kl, kc, kz⟩ := rk
                  simp only at hck HFk hlk HZk
                  subst hlk
                  have HY := Lib.hid (show ∀ y, cn .f32 y = farX iz kz → y = prF zs kl i k from fun y hy => by
                    refine word_of (hy.trans ?_) (up_noN (HT.out i k hlt2 hlt3))
                    rw [HZi.out, HZk.out]; rfl)
                  have HSt := Lib.hid (show apt2 kl i k = true → nst (prF zs kl i) (apt2 kl i) (k + 1) = if (!(nst (prF zs kl i) (apt2 kl i) k).ok || ltF (prF zs kl i k) (nst (prF zs kl i) (apt2 kl i) k).x) = true then ⟨k, prF zs kl i k, true⟩ else nst (prF zs kl i) (apt2 kl i) k from fun g => by
                    rw [show nst (prF zs kl i) (apt2 kl i) (k + 1) = if (apt2 kl i k && (!(nst (prF zs kl i) (apt2 kl i) k).ok || ltF (prF zs kl i k) (nst (prF zs kl i) (apt2 kl i) k).x)) = true then ⟨k, prF zs kl i k, true⟩ else nst (prF zs kl i) (apt2 kl i) k from rfl, g, Bool.true_and])
                  have HSs := Lib.hid (show apt2 kl i k = false → nst (prF zs kl i) (apt2 kl i) (k + 1) = nst (prF zs kl i) (apt2 kl i) k from fun g => by
                    rw [show nst (prF zs kl i) (apt2 kl i) (k + 1) = if (apt2 kl i k && (!(nst (prF zs kl i) (apt2 kl i) k).ok || ltF (prF zs kl i k) (nst (prF zs kl i) (apt2 kl i) k).x)) = true then ⟨k, prF zs kl i k, true⟩ else nst (prF zs kl i) (apt2 kl i) k from rfl, g]; rfl)
                  clear hcc hbb
                  generalize prF zs kl i k = F at HY HSt HSs
                  generalize nst (prF zs kl i) (apt2 kl i) k = S at *
                  obtain ⟨SA, SX, SB⟩ := S
                  cases SB
                  · rw [show bsI ⟨SA, SX, false⟩ = -1 from rfl]
                    simp only at HSt
                    rcases Nat.lt_or_ge i k with hik | hik
                    · have hd0 : decide ((i : Int) - (k : Int) < 0) = true := decide_eq_true (by omega)
                      have hnn : -((i : Int) - (k : Int)) = (k : Int) - (i : Int) := by omega
                      by_cases hap : kl ≤ k - i
                      · have hd1 : decide ((k : Int) - (i : Int) < (kl : Int)) = false := decide_eq_false (by omega)
                        have HS1 := Lib.hid (HSt.out (by unfold apt2; exact decide_eq_true (by omega)))
                        clear hap HSt HSs
                        go_wp2_with fail
                        go_region_with (go_at_call 104; refine (l07Far_any _ _ _ _ _ _ _ _ _ (FSl.drewN HFi.out _) (FSl.drewN HFk.out _) hmm (Nat.le_refl _)).mono ?_; rintro e w' ⟨y, p2, hy, rfl, rfl⟩)
                        all_goals
                          obtain rfl := HY.out y hy
                          clear hy
                          have HN := Lib.hid (HS1.out.trans (show (if (!false || ltF y SX) = true then (⟨k, y, true⟩ : Nst) else ⟨SA, SX, false⟩) = ⟨k, y, true⟩ from rfl))
                          go_wp2
                          go_roundw
                          case rel => exact ⟨k + 1, _, by omega, by go_num, by rw [HN.out]; first | done | rfl, by rw [HN.out], rfl⟩
                          case measure => simp [intOf]; omega
                      · have hd1 : decide ((k : Int) - (i : Int) < (kl : Int)) = true := decide_eq_true (by omega)
                        have HN := Lib.hid (HSs.out (by unfold apt2; exact decide_eq_false (by omega)))
                        clear hap HSt HSs
                        go_wp2
                        go_roundw
                        case rel => exact ⟨k + 1, _, by omega, by go_num, by rw [HN.out]; first | done | rfl, by rw [HN.out], rfl⟩
                        case measure => simp [intOf]; omega
                    · have hd0 : decide ((i : Int) - (k : Int) < 0) = false := decide_eq_false (by omega)
                      by_cases hap : kl ≤ i - k
                      · have hd1 : decide ((i : Int) - (k : Int) < (kl : Int)) = false := decide_eq_false (by omega)
                        have HS1 := Lib.hid (HSt.out (by unfold apt2; exact decide_eq_true (by omega)))
                        clear hap HSt HSs
                        go_wp2_with fail
                        go_region_with (go_at_call 104; refine (l07Far_any _ _ _ _ _ _ _ _ _ (FSl.drewN HFi.out _) (FSl.drewN HFk.out _) hmm (Nat.le_refl _)).mono ?_; rintro e w' ⟨y, p2, hy, rfl, rfl⟩)
                        all_goals
                          obtain rfl := HY.out y hy
                          clear hy
                          have HN := Lib.hid (HS1.out.trans (show (if (!false || ltF y SX) = true then (⟨k, y, true⟩ : Nst) else ⟨SA, SX, false⟩) = ⟨k, y, true⟩ from rfl))
                          go_wp2
                          go_roundw
                          case rel => exact ⟨k + 1, _, by omega, by go_num, by rw [HN.out]; first | done | rfl, by rw [HN.out], rfl⟩
                          case measure => simp [intOf]; omega
                      · have hd1 : decide ((i : Int) - (k : Int) < (kl : Int)) = true := decide_eq_true (by omega)
                        have HN := Lib.hid (HSs.out (by unfold apt2; exact decide_eq_false (by omega)))
                        clear hap HSt HSs
                        go_wp2
                        go_roundw
                        case rel => exact ⟨k + 1, _, by omega, by go_num, by rw [HN.out]; first | done | rfl, by rw [HN.out], rfl⟩
                        case measure => simp [intOf]; omega
                  · rw [show bsI ⟨SA, SX, true⟩ = (SA : Int) from rfl]
                    have hsa : decide ((SA : Int) < 0) = false := decide_eq_false (by omega)
                    simp only at HSt
                    rcases Nat.lt_or_ge i k with hik | hik
                    · have hd0 : decide ((i : Int) - (k : Int) < 0) = true := decide_eq_true (by omega)
                      have hnn : -((i : Int) - (k : Int)) = (k : Int) - (i : Int) := by omega
                      by_cases hap : kl ≤ k - i
                      · have hd1 : decide ((k : Int) - (i : Int) < (kl : Int)) = false := decide_eq_false (by omega)
                        have HS1 := Lib.hid (HSt.out (by unfold apt2; exact decide_eq_true (by omega)))
                        clear hap HSt HSs
                        go_wp2_with fail
                        go_region_with (go_at_call 104; refine (l07Far_any _ _ _ _ _ _ _ _ _ (FSl.drewN HFi.out _) (FSl.drewN HFk.out _) hmm (Nat.le_refl _)).mono ?_; rintro e w' ⟨y, p2, hy, rfl, rfl⟩)
                        all_goals
                          obtain rfl := HY.out y hy
                          clear hy
                          cases hl : ltF y SX
                          · have ho : ((FloatKind.format .f32).order y SX == some Ordering.lt) = false := hl
                            have HN := Lib.hid (HS1.out.trans (show (if (!true || ltF y SX) = true then (⟨k, y, true⟩ : Nst) else ⟨SA, SX, true⟩) = ⟨SA, SX, true⟩ from by rw [hl]; rfl))
                            clear hl
                            go_wp2
                            go_roundw
                            case rel => exact ⟨k + 1, _, by omega, by go_num, by rw [HN.out]; first | done | rfl, by rw [HN.out], rfl⟩
                            case measure => simp [intOf]; omega
                          · have ho : ((FloatKind.format .f32).order y SX == some Ordering.lt) = true := hl
                            have HN := Lib.hid (HS1.out.trans (show (if (!true || ltF y SX) = true then (⟨k, y, true⟩ : Nst) else ⟨SA, SX, true⟩) = ⟨k, y, true⟩ from by rw [hl]; rfl))
                            clear hl
                            go_wp2
                            go_roundw
                            case rel => exact ⟨k + 1, _, by omega, by go_num, by rw [HN.out]; first | done | rfl, by rw [HN.out], rfl⟩
                            case measure => simp [intOf]; omega
                      · have hd1 : decide ((k : Int) - (i : Int) < (kl : Int)) = true := decide_eq_true (by omega)
                        have HN := Lib.hid (HSs.out (by unfold apt2; exact decide_eq_false (by omega)))
                        clear hap HSt HSs
                        go_wp2
                        go_roundw
                        case rel => exact ⟨k + 1, _, by omega, by go_num, by rw [HN.out]; first | done | rfl, by rw [HN.out], rfl⟩
                        case measure => simp [intOf]; omega
                    · have hd0 : decide ((i : Int) - (k : Int) < 0) = false := decide_eq_false (by omega)
                      by_cases hap : kl ≤ i - k
                      · have hd1 : decide ((i : Int) - (k : Int) < (kl : Int)) = false := decide_eq_false (by omega)
                        have HS1 := Lib.hid (HSt.out (by unfold apt2; exact decide_eq_true (by omega)))
                        clear hap HSt HSs
                        go_wp2_with fail
                        go_region_with (go_at_call 104; refine (l07Far_any _ _ _ _ _ _ _ _ _ (FSl.drewN HFi.out _) (FSl.drewN HFk.out _) hmm (Nat.le_refl _)).mono ?_; rintro e w' ⟨y, p2, hy, rfl, rfl⟩)
                        all_goals
                          obtain rfl := HY.out y hy
                          clear hy
                          cases hl : ltF y SX
                          · have ho : ((FloatKind.format .f32).order y SX == some Ordering.lt) = false := hl
                            have HN := Lib.hid (HS1.out.trans (show (if (!true || ltF y SX) = true then (⟨k, y, true⟩ : Nst) else ⟨SA, SX, true⟩) = ⟨SA, SX, true⟩ from by rw [hl]; rfl))
                            clear hl
                            go_wp2
                            go_roundw
                            case rel => exact ⟨k + 1, _, by omega, by go_num, by rw [HN.out]; first | done | rfl, by rw [HN.out], rfl⟩
                            case measure => simp [intOf]; omega
                          · have ho : ((FloatKind.format .f32).order y SX == some Ordering.lt) = true := hl
                            have HN := Lib.hid (HS1.out.trans (show (if (!true || ltF y SX) = true then (⟨k, y, true⟩ : Nst) else ⟨SA, SX, true⟩) = ⟨k, y, true⟩ from by rw [hl]; rfl))
                            clear hl
                            go_wp2
                            go_roundw
                            case rel => exact ⟨k + 1, _, by omega, by go_num, by rw [HN.out]; first | done | rfl, by rw [HN.out], rfl⟩
                            case measure => simp [intOf]; omega
                      · have hd1 : decide ((i : Int) - (k : Int) < (kl : Int)) = true := decide_eq_true (by omega)
                        have HN := Lib.hid (HSs.out (by unfold apt2; exact decide_eq_false (by omega)))
                        clear hap HSt HSs
                        go_wp2
                        go_roundw
                        case rel => exact ⟨k + 1, _, by omega, by go_num, by rw [HN.out]; first | done | rfl, by rw [HN.out], rfl⟩
                        case measure => simp [intOf]; omega
                · have HSe := Lib.hid (show nst (prF zs il i) (apt2 il i) k = prM zs il i by rw [HM.out, show k = C by omega])
                  rw [HSe.out]
                  have HNo1 := Lib.hid (HNo.out i hlt2)
                  have HOk1 := Lib.hid (show (prM zs il i).ok = true → ∀ j, j < i + 1 → (prM zs il j).ok = true from fun g j hj => by
                    by_cases e : j = i
                    · subst e; exact g
                    · exact hok.out j (by omega))
                  have HRs1 := Lib.hid (show ∀ (x : Nat) (y : Int), x = (prM zs il i).x → y = ((prM zs il i).at_ : Int) → rs ++ [x] = tells (fun j => (prM zs il j).x) (i + 1) ∧ is ++ [y] = (List.range (i + 1)).map (fun j => ((prM zs il j).at_ : Int)) from fun x y hx hy => by
                    rw [tells_succ, List.range_succ, List.map_append, hrs.out.1, hrs.out.2, hx, hy]
                    exact ⟨rfl, rfl⟩)
                  have hlr : rs.length = i := hll.out.1
                  have hli2 : is.length = i := hll.out.2
                  have hr96 : rs.length ≤ 96 := by omega
                  have hs96 : is.length ≤ 96 := by omega
                  have HLl := Lib.hid (show ∀ (x : Nat) (y : Int), (rs ++ [x]).length = i + 1 ∧ (is ++ [y]).length = i + 1 from fun x y => by rw [List.length_append, List.length_append, hlr, hli2]; exact ⟨rfl, rfl⟩)
                  have hsz := hbel.out.size
                  clear HM HSe hrs hok hll hlr hli2
                  generalize prM zs il i = S at *
                  obtain ⟨SA, SX, SB⟩ := S
                  cases SB
                  · rw [show bsI ⟨SA, SX, false⟩ = -1 from rfl]
                    have HB := Lib.hid (HNo1.out rfl)
                    go_wp2
                    go_ret3
                    exact fail_li _ _ HB.out.2.2 HB.out.1 HB.out.2.1 (HBw.out.trans ((below_drewN hbel.out p).mono hww))
                  · rw [show bsI ⟨SA, SX, true⟩ = (SA : Int) from rfl]
                    have hsa : decide ((SA : Int) < 0) = false := decide_eq_false (by omega)
                    have HOk2 := Lib.hid (HOk1.out rfl)
                    clear HNo1 HOk1
                    go_wp2_with (at_builtin; refine wpList_append_lies _ rfl _ _ 22 rfl wr.heap.size 32 i1 (.float .f32 0) 1 4 Try.underlying22 hi1 hz3 hz4 hz5 rfl (by decide) _ _ _ rfl (World.ownsRow.alloc (FOwn.drewN ho0.out p) _) ⟨wo.heap.size, 0, none⟩ 1 1 [_] rfl rfl (one_new rfl) ?c2 (by decide) ?c3 ?c4 ?c5 _ rfl ?_)
                    case c2 => first | rfl | (intro u hu; simp at hu; subst hu; rfl)
                    case c3 => unfold maxLen; omega
                    case c4 => omega
                    case c5 => first | omega | (simp; show wr.heap.size ≤ wo.heap.size + 1; omega)
                    intro g cc w2 hown' hgrow hat hglt
                    have R := FOwn.push (n := p) ho0.out hbel.out hsz hown' hgrow
                    have HF1 := Lib.hid R.1
                    have HBl1 := Lib.hid R.2
                    have HI1 := Lib.hid (apt_swap (IOwn.drewN ho1.out p) hap0.out hgrow)
                    have HA1 := Lib.hid (show Apt (.slice (some ⟨g, 0, none⟩) (rs.length + 1) cc) u13 from fun b' e0 e1 => by
                      have eg : g = b' := by simpa [Value.ownBlock] using e0
                      subst eg
                      rcases hat with h1 | h1
                      · exact hap0.out g h1 e1
                      · have h2 := (ho1.out.lt g e1).2
                        omega)
                    have hsz2 := HBl1.out.size
                    clear R hown' hgrow hat hglt ho0 ho1 hap0
                    go_wp2_with (at_builtin; refine wpList_append_lies _ rfl _ _ 59 rfl wr.heap.size 2 i2 (.int .i64 0) 1 8 Try.underlying59 hi2 hz6 hz7 hz8 rfl (by decide) _ _ _ rfl (World.ownsRow.alloc (IOwn.drewN HI1.out 0) _) ⟨w2.heap.size, 0, none⟩ 1 1 [_] rfl rfl (one_new rfl) ?d2 (by decide) ?d3 ?d4 ?d5 _ rfl ?_)
                    case d2 => first | rfl | (intro u hu; simp at hu; subst hu; rfl)
                    case d3 => unfold maxLen; omega
                    case d4 => omega
                    case d5 => first | omega | (simp; show wr.heap.size ≤ w2.heap.size + 1; omega)
                    intro g2 cc2 w3 hown2 hgrow2 hat2 hglt2
                    have R2 := IOwn.push (n := 0) HI1.out HBl1.out hsz2 hown2 hgrow2
                    have HI2 := Lib.hid R2.1
                    have HBl2 := Lib.hid R2.2
                    have HF2 := Lib.hid (apt_swapF (FOwn.drewN HF1.out 0) HA1.out hgrow2)
                    have HA2 := Lib.hid (show Apt (.slice (some ⟨g, 0, none⟩) (rs.length + 1) cc) (.slice (some ⟨g2, 0, none⟩) (is.length + 1) cc2) from fun b' e0 e1 => by
                      have eg : g2 = b' := by simpa [Value.ownBlock] using e1
                      subst eg
                      rcases hat2 with h1 | h1
                      · exact HA1.out g2 e0 h1
                      · have h2 := (HF1.out.lt g2 e0).2
                        omega)
                    clear R2 hown2 hgrow2 hat2 hglt2 HF1 HI1 HA1 HBl1
                    go_wp2
                    go_roundw
                    case rel => exact ⟨i + 1, _, _, by omega, by go_num, Lib.hid (HLl.out _ _), HF2, HI2, HA2, Lib.hid (HRs1.out _ _ rfl rfl), HOk2, HBl2⟩
                    case measure => simp [intOf]; omega
            · have e : i = C := by omega
              have HEn := HEnd.out (fun j hj => hok.out j (by omega))
              have hr96 : rs.length ≤ 96 := by rw [hll.out.1]; omega
              have HFi := Lib.hid (show fins rs = prB zs m by rw [HEn.1, hrs.out.1, e])
              have HEn2 := Lib.hid (show prB zs m = true → cnl rs = prX zs m ∧ is = prI zs m from fun hB => by
                rw [(HEn.2 hB).1, (HEn.2 hB).2]
                refine ⟨?_, by rw [hrs.out.2, e]⟩
                rw [← e, ← hrs.out.1]
                exact cnl_fins (HFi.out.trans hB))
              have HPb := Lib.hid (fun hB => pr_bad (zs := zs) (q := m) hB)
              have HO0' := Lib.hid ho0.out
              obtain ⟨A0, cp0, rfl, hsl, _⟩ := ho0.out.sl
              have HSl := Lib.hid hsl
              clear HEn e hrs hok hll hsl
              go_wp2_with fail
              refine (specFinite_any _ _ _ _ _ HSl.out (by omega)).mono ?_
              cases hB : prB zs m
              · have HB := Lib.hid (HPb.out hB)
                rw [HFi.out, hB]
                rintro e w' ⟨p, rfl, rfl⟩
                clear hB
                go_wp2
                go_ret3
                exact fail_li _ _ HB.out.2.2 HB.out.1 HB.out.2.1 (HBw.out.trans ((below_drewN hbel.out p).mono hww))
              · have HB := Lib.hid (HEn2.out hB)
                rw [HFi.out, hB]
                rintro e w' ⟨p, rfl, rfl⟩
                have HBt := Lib.hid hB
                clear hB
                go_wp2
                go_ret3
                exact ⟨_, rs, _, by rw [HBt.out]; rfl, (HO0'.out.drewN p).mono hww, by rw [← HB.out.2]; exact IOwn.mono (IOwn.drewN ho1.out p) hww, HB.out.1, hap0.out, HBw.out.trans ((below_drewN hbel.out p).mono hww)⟩
end Go.Proofs.Ytldaamgohdnjnaa

/-
  ProfileOf of the program: the parts made even, the nearest one apart, and the profile.
-/
namespace Go.Proofs.Ytldaamgohdnjnaa
open Ieee Go.RowKit
set_option linter.unusedVariables false

/-- What normsOf gives. -/
def RetNo (zs : List Nat) (q : Int) (w : World) (e : Ending) (w' : World) : Prop :=
  ∃ v, e = .returned (.tuple #[v, .bool (prE zs q)]) ∧ Below w.heap.size w w' ∧
    (prE zs q = true → ∃ (A : Option Addr) (L : List FRw), v = .slice A (prC zs q.toNat) (prC zs q.toNat) ∧ RSl w' A (prC zs q.toNat) L ∧ ∀ j, j < prC zs q.toNat → (L.getD j FRw.none).len = q.toNat ∧ (L.getD j FRw.none).zs = prN zs q.toNat j)
set_option maxHeartbeats 4000000 in
set_option maxRecDepth 100000 in
theorem norms_any (a : Option Addr) (len cap : Nat) (zs : List Nat) (q : Int) (w : World) (h : FSl w a len zs) (hm : len ≤ 1048576) (hcap : len ≤ cap) (hcap2 : cap ≤ 1048576) :
    Calls Try.prog 105 #[.slice a len cap, .int .i64 q] w (RetNo zs q w) := by
  obtain ⟨i0, hi, hz0, hz1, hz2⟩ := info_parts Try.infoS
  have H := Lib.hid h
  have HL := Lib.hid h.1
  clear h
  cases hs : serB zs
  · have HS := Lib.hid hs
    have HB := Lib.hid (show prE zs q = false by unfold prE prQ; rw [hs]; rfl)
    clear hs
    go_enter Try.func105, Try.ntmps105
    go_wp2_with (go_at_call 67; refine (implSeries_any _ _ _ _ _ H.out hm).mono ?_; rw [HS.out]; rintro e w' ⟨m, rfl, rfl⟩)
    go_ret2
    exact ⟨_, by rw [HB.out]; rfl, below_drewN (Below.refl _ _) _, fun hh => by rw [HB.out] at hh; cases hh⟩
  · have HS := Lib.hid hs
    by_cases q1 : q < 2
    · have d1 : decide (q < (2 : Int)) = true := decide_eq_true q1
      have HB := Lib.hid (show prE zs q = false by unfold prE prQ; rw [hs, decide_eq_false (by omega)]; rfl)
      clear hs
      go_enter Try.func105, Try.ntmps105
      go_wp2_with (go_at_call 67; refine (implSeries_any _ _ _ _ _ H.out hm).mono ?_; rw [HS.out]; rintro e w' ⟨m, rfl, rfl⟩)
      go_ret2
      exact ⟨_, by rw [HB.out]; rfl, below_drewN (Below.refl _ _) _, fun hh => by rw [HB.out] at hh; cases hh⟩
    · have d1 : decide (q < (2 : Int)) = false := decide_eq_false q1
      by_cases q2 : (len : Int) / 2 < q
      · have d2 : decide ((len : Int) / 2 < q) = true := decide_eq_true q2
        have HB := Lib.hid (show prE zs q = false by unfold prE prQ; rw [hs, decide_eq_false (by rw [HL.out]; omega)]; rfl)
        clear hs
        go_enter Try.func105, Try.ntmps105
        go_wp2_with (go_at_call 67; refine (implSeries_any _ _ _ _ _ H.out hm).mono ?_; rw [HS.out]; rintro e w' ⟨m, rfl, rfl⟩)
        go_ret2
        exact ⟨_, by rw [HB.out]; rfl, below_drewN (Below.refl _ _) _, fun hh => by rw [HB.out] at hh; cases hh⟩
      · have d2 : decide ((len : Int) / 2 < q) = false := decide_eq_false q2
        obtain ⟨m, rfl⟩ : ∃ m : Nat, q = m := ⟨q.toNat, by omega⟩
        have hl96 := (serB_t hs).2.1
        rw [HL.out] at hl96
        have hE := show prE zs m = prA zs m by unfold prE prQ; rw [hs, decide_eq_true (by rw [HL.out]; omega), Int.toNat_natCast]; rfl
        have hCd : len + 1 - m = prC zs m := by unfold prC; rw [HL.out]
        obtain ⟨C, hC⟩ : ∃ C, prC zs m = C := ⟨_, rfl⟩
        have HE := Lib.hid hE
        have HC := Lib.hid hC
        rw [hC] at hCd
        have hm2 : 2 ≤ m := by omega
        have hCl : C + m = len + 1 := by omega
        have hw1 : wrap64 ((len : Int) - (m : Int)) = (len : Int) - (m : Int) := by unfold wrap64; omega
        have hw2 : wrap64 ((len : Int) - (m : Int) + 1) = (C : Int) := by unfold wrap64; omega
        have hmk := fun W => run_make_len (P := Try.prog) W 23 22 i0 (.slice none 0 0) Try.underlying23 hi hz0 hz1 C (by rw [hz2]; omega) (by omega)
        have HI0 := Lib.hid (fun W : World => NFil.start W C (fun _ => FRw.none) (Value.slice none 0 0).cells 22 rfl)
        have HB0 := Lib.hid (fun n => (below_drewN (Below.refl w.heap.size w) n).alloc (Nat.le_refl _) (.cells (madeCells (Value.slice none 0 0).cells C) 22))
        have HCl := Lib.hid hCl
        clear hi hz0 hz1 hz2 hs hE hC hCd q1 q2 hCl
        go_enter Try.func105, Try.ntmps105
        go_wp2_with fail
        refine (implSeries_any _ _ _ _ _ H.out hm).mono ?_
        rw [HS.out]
        rintro e w' ⟨n0, rfl, rfl⟩
        go_wp2
        clear hmk hw1 hw2 d1 d2
        go_loopw [32] (fun i wr => ∃ (k : Nat) (R : Nat → FRw), k ≤ C ∧ i = .int .i64 k ∧ Hid (NFil w.heap.size C k R wr) ∧ Hid (∀ j, j < k → (R j).len = m ∧ (R j).zs = prN zs m j) ∧ Hid (∀ j, j < k → evnB (prt zs m j) = true) ∧ Hid (Below w.heap.size w wr)) (fun i _ => C - (intOf i).toNat)
        case atStart => exact ⟨0, _, Nat.zero_le _, rfl, Lib.hid (HI0.out (w.drewN n0)), Lib.hid (fun j hj => by omega), Lib.hid (fun j hj => by omega), Lib.hid (HB0.out _)⟩
        case round =>
          rename_i wr
          obtain ⟨k, R, hk, rfl, hf, hR, hev, hbel⟩ := hrel
          by_cases hlt : k < C
          · have hkm : k + m ≤ len := by have := HCl.out; omega
            have hkc : k + m ≤ cap := by omega
            have hfl := hf.out.lt
            have hsz := hbel.out.size
            obtain ⟨b, off, rfl, hb, _⟩ := H.out.at (by omega)
            have HCut := Lib.hid (show FSl wr (some ⟨b, off + k, none⟩) m (prt zs m k) from FSl.cut (FSl.below H.out hbel.out) (by omega) hkm)
            have HBad := Lib.hid (show evnB (prt zs m k) = false → prE zs m = false from fun hh => by
              rw [HE.out]; unfold prA; rw [HC.out]; exact not_all_range hlt hh)
            clear hb
            go_wp2_with fail
            refine (imNorm_any _ _ _ _ _ HCut.out (by omega)).mono ?_
            rintro e w1 ⟨v, rs, rfl, ho, hx, hb1⟩
            have hf1 := hf.out.below hb1
            obtain ⟨u, hu⟩ := hf1.rest k hlt
            have hfz := hf1.fz k hlt
            have HBl := Lib.hid (fun x => (hbel.out.trans (hb1.mono hsz)).setCell (p := ⟨w.heap.size, k, none⟩) (Nat.le_refl _) x)
            cases he : evnB (prt zs m k)
            · have HB := Lib.hid (HBad.out he)
              obtain ⟨A, cp, rfl, _, _⟩ := ho.sl
              clear ho hx hb1 hf1 he hf HBad hbel
              go_wp2_with fail
              go_ret2
              exact ⟨_, by rw [HB.out]; rfl, HBl.out _, fun hh => by rw [HB.out] at hh; cases hh⟩
            · obtain ⟨g1, g2⟩ := evnB_fins he
              rw [prt_len (by rw [HL.out]; exact hkm)] at g2
              have hrs : rs = prN zs m k := by
                have : fins rs = true := by rw [← fins_cnl, hx]; exact g1
                unfold prN
                rw [← hx]
                unfold cnl
                conv => lhs; rw [← List.map_id rs]
                exact List.map_congr_left fun x hx => fin_word rfl ((fin_congr (cn_cn .f32 x)).trans (List.all_eq_true.1 this x hx))
              have hrl : rs.length = m := by rw [hrs]; exact g2
              obtain ⟨A, cp, rfl, hsl, hown⟩ := ho.sl
              rw [hrl] at hsl hown ⊢
              have HSt := Lib.hid (hf1.step (r := ⟨A, m, cp, rs⟩) hlt hsl (by show m ≤ _; omega) (fun h0 b' off' e' ee => by
                obtain ⟨b2, e2, hge, _⟩ := hown 0 h0
                simp only at e'
                rw [e'] at e2
                injection e2 with e2
                injection e2 with e2
                omega))
              have HRn := Lib.hid (show ∀ j, j < k + 1 → (if j = k then (⟨A, m, cp, rs⟩ : FRw) else R j).len = m ∧ (if j = k then (⟨A, m, cp, rs⟩ : FRw) else R j).zs = prN zs m j from fun j hj => by
                by_cases e : j = k
                · subst e; rw [if_pos rfl]; exact ⟨rfl, hrs⟩
                · rw [if_neg e]; exact hR.out j (by omega))
              have HEn := Lib.hid (show ∀ j, j < k + 1 → evnB (prt zs m j) = true from fun j hj => by
                by_cases e : j = k
                · subst e; exact he
                · exact hev.out j (by omega))
              clear ho hx hb1 hf1 he hf HBad hbel hrs hrl hsl hown g1 g2
              go_wp2
              go_roundw
              case rel => exact ⟨k + 1, _, by omega, by go_num, HSt, HRn, HEn, Lib.hid (HBl.out _)⟩
              case measure => simp [intOf]; omega
          · have e : k = C := by omega
            have HEt := Lib.hid (show prE zs m = true by rw [HE.out]; unfold prA; rw [HC.out]; exact all_range (fun j hj => hev.out j (by omega)))
            have HRs := Lib.hid (show RSl wr (some ⟨w.heap.size, 0, none⟩) C ((List.range C).map R) from (by rw [e] at hf; exact hf.out.rsl))
            have HRn := Lib.hid (show ∀ j, j < C → (((List.range C).map R).getD j FRw.none).len = m ∧ (((List.range C).map R).getD j FRw.none).zs = prN zs m j from fun j hj => by
              rw [show ((List.range C).map R).getD j FRw.none = R j by simp [List.getD, hj]]
              exact hR.out j (by omega))
            clear e hf hR hev
            go_wp2
            go_ret2
            refine ⟨_, by rw [HEt.out]; rfl, hbel.out, fun _ => ?_⟩
            rw [Int.toNat_natCast, HC.out]
            exact ⟨_, _, rfl, HRs.out, HRn.out⟩
set_option maxHeartbeats 4000000 in
set_option maxRecDepth 100000 in
theorem imPrf_any (a : Option Addr) (len cap : Nat) (zs : List Nat) (q : Int) (w : World) (h : FSl w a len zs) (hm : len ≤ 1048576) (hcap : len ≤ cap) (hcap2 : cap ≤ 1048576) :
    Calls Try.prog 47 #[.slice a len cap, .int .i64 q] w (RetLI 32 2 (prX zs q) (prI zs q) (prB zs q) w) := by
  obtain ⟨i0, hi, hz0, hz1, hz2⟩ := info_parts Try.infoR
  obtain ⟨i1, hi1, hz3, hz4, hz5⟩ := info_parts Try.infoI
  have H := Lib.hid h
  clear h
  cases hE : prE zs q
  · have HE := Lib.hid hE
    have HB := Lib.hid (pr_bad (prE_bad hE))
    clear hE
    go_enter Try.func47, Try.ntmps47
    go_wp2_with fail
    refine (norms_any _ _ _ _ _ _ H.out hm hcap hcap2).mono ?_
    rintro e w1 ⟨v, rfl, hb, _⟩
    rw [HE.out]
    have HBl := Lib.hid hb
    clear hb
    go_wp2
    go_ret3
    exact fail_li _ _ HB.out.2.2 HB.out.1 HB.out.2.1 HBl.out
  · obtain ⟨m, rfl⟩ : ∃ m : Nat, q = m := ⟨q.toNat, by have := (prQ_t (prE_t hE).1).2.1; omega⟩
    have hC := prC_le hE
    have hXd : ∀ h : prB zs m = true, prX zs m = tells (fun i => (prP zs m i).x) (prC zs m) ∧ prI zs m = (List.range (prC zs m)).map (fun i => ((prP zs m i).at_ : Int)) := fun h => by
      unfold prX prI
      rw [h, Int.toNat_natCast]
      exact ⟨rfl, rfl⟩
    have HAll := Lib.hid (show (∀ i, i < prC zs m → (prP zs m i).ok = true) → prB zs m = true from fun h => by
      unfold prB
      rw [hE, Int.toNat_natCast, all_range h]; rfl)
    have HNot := Lib.hid (fun i (hi : i < prC zs m) (ho : (prP zs m i).ok = false) => prB_not (zs := zs) (q := m) (i := i) (by rw [Int.toNat_natCast]; exact hi) (by rw [Int.toNat_natCast]; exact ho))
    have HFin := Lib.hid (fun i (hi : i < prC zs m) => pr_fin (zs := zs) (q := m) (i := i) hE (by rw [Int.toNat_natCast]; exact hi))
    rw [Int.toNat_natCast] at hC
    simp only [Int.toNat_natCast] at HFin
    have HE := Lib.hid hE
    have HXd := Lib.hid hXd
    obtain ⟨C, hCe⟩ : ∃ C, prC zs m = C := ⟨_, rfl⟩
    have HC := Lib.hid hCe
    rw [hCe] at hC HAll HNot HFin
    obtain ⟨hC96, hC1⟩ := hC
    clear hE hXd hCe
    have hmk := fun W => run_make_len (P := Try.prog) W 22 32 i0 (.float .f32 0) Try.underlying22 hi hz0 hz1 C (by rw [hz2]; omega) (by omega)
    have hmk2 := fun W => run_make_len (P := Try.prog) W 59 2 i1 (.int .i64 0) Try.underlying59 hi1 hz3 hz4 C (by rw [hz5]; omega) (by omega)
    clear hi hz0 hz1 hz2 hi1 hz3 hz4 hz5
    go_enter Try.func47, Try.ntmps47
    go_wp2_with fail
    refine (norms_any _ _ _ _ _ _ H.out hm hcap hcap2).mono ?_
    rintro e w1 ⟨v, rfl, hb, hR⟩
    rw [HE.out]
    obtain ⟨A, L, rfl, hrs, hL⟩ := hR HE.out
    rw [Int.toNat_natCast, HC.out] at hrs hL ⊢
    have HRs := Lib.hid hrs
    have HL := Lib.hid hL
    have HBl := Lib.hid hb
    have hws := hb.size
    have HH0 := Lib.hid (show Head 32 w1.heap.size C [] ((w1.alloc (.cells (madeCells (Value.float .f32 0).cells C) 32)).alloc (.cells (madeCells (Value.int .i64 0).cells C) 2)) from
      (Head.start (T := 32) (w := w1) (n := C) (by omega)).same (heap_alloc_old _ _ (by simp)))
    have HI0 := Lib.hid (show IBlk 2 (w1.heap.size + 1) C (fun _ => 0) ((w1.alloc (.cells (madeCells (Value.float .f32 0).cells C) 32)).alloc (.cells (madeCells (Value.int .i64 0).cells C) 2)) from by
      simpa using IBlk.start (w1.alloc (.cells (madeCells (Value.float .f32 0).cells C) 32)) 2 C)
    have HB0 := Lib.hid (((Below.refl w1.heap.size w1).alloc (Nat.le_refl _) (.cells (madeCells (Value.float .f32 0).cells C) 32)).alloc (by simp) (.cells (madeCells (Value.int .i64 0).cells C) 2))
    clear hb hR hrs hL
    go_wp2
    clear hmk hmk2
    go_loopw [28] (fun c wr => ∃ (k : Nat) (rs : List Nat), k ≤ C ∧ c = .int .i64 k ∧ Hid (rs.length = k) ∧ Hid (Head 32 w1.heap.size C rs wr) ∧ Hid (IBlk 2 (w1.heap.size + 1) C (fun j => if j < k then ((prP zs m j).at_ : Int) else 0) wr) ∧ Hid (rs = tells (fun i => (prP zs m i).x) k) ∧ Hid (∀ j, j < k → (prP zs m j).ok = true) ∧ Hid (Below w1.heap.size w1 wr)) (fun c _ => C - (intOf c).toNat)
    case atStart => exact ⟨0, [], Nat.zero_le _, rfl, Lib.hid rfl, HH0, Lib.hid (HI0.out.congr (fun j _ => by simp)), Lib.hid rfl, Lib.hid (fun j hj => by omega), HB0⟩
    case round =>
      rename World => wo
      obtain ⟨k, rs, hk, rfl, hrl, hhd, hib, hrs, hok, hbel⟩ := hrel
      by_cases hlt : k < C
      · have hsz := hbel.out.size
        go_wp2_with fail
        refine (apart_any _ _ _ _ _ _ _ _ (RSl.below HRs.out hbel.out) HE.out HC.out HL.out hlt).mono ?_
        rintro e w2 ⟨rfl, hb2⟩
        have hh2 := hhd.out.same (hb2.block _ hhd.out.lt)
        have hi2 := hib.out.same (hb2.block _ hib.out.lt)
        obtain ⟨⟨u, hu⟩, hfu⟩ := hh2.cell hlt
        obtain ⟨hv, hfv⟩ := hi2.cell hlt
        rw [if_neg (Nat.lt_irrefl k)] at hv
        have HNok := Lib.hid (HNot.out k hlt)
        have HFk := Lib.hid (HFin.out k hlt)
        have HSn := Lib.hid (show (prP zs m k).ok = true → ∀ j, j < k + 1 → (prP zs m j).ok = true from fun g j hj => by
          by_cases e : j = k
          · subst e; exact g
          · exact hok.out j (by omega))
        have HH := Lib.hid (show ∀ y x, Head 32 w1.heap.size C (rs ++ [x]) ((w2.setCell ⟨w1.heap.size + 1, k, none⟩ (.int .i64 y)).setCell ⟨w1.heap.size, k, none⟩ (.float .f32 x)) from fun y x => by
          have g := (hh2.same (w' := w2.setCell ⟨w1.heap.size + 1, k, none⟩ (.int .i64 y)) (Below.heap_setCell w2 _ _ _ (by show w1.heap.size ≠ w1.heap.size + 1; omega))).push (by rw [hrl.out]; exact hlt) x
          rw [hrl.out] at g
          exact g)
        have HI := Lib.hid (show ∀ x, IBlk 2 (w1.heap.size + 1) C (fun j => if j < k + 1 then ((prP zs m j).at_ : Int) else 0) ((w2.setCell ⟨w1.heap.size + 1, k, none⟩ (.int .i64 ((prP zs m k).at_ : Int))).setCell ⟨w1.heap.size, k, none⟩ (.float .f32 x)) from fun x =>
          ((hi2.set hlt ((prP zs m k).at_ : Int)).congr (fun j _ => by
            by_cases e : j = k
            · subst e; rw [if_pos rfl, if_pos (by omega)]
            · rw [if_neg e]; by_cases e2 : j < k
              · rw [if_pos e2, if_pos (by omega)]
              · rw [if_neg e2, if_neg (by omega)])).same (Below.heap_setCell _ _ _ _ (by show w1.heap.size + 1 ≠ w1.heap.size; omega)))
        have HBe := Lib.hid (show ∀ y x, Below w1.heap.size w1 ((w2.setCell ⟨w1.heap.size + 1, k, none⟩ (.int .i64 y)).setCell ⟨w1.heap.size, k, none⟩ (.float .f32 x)) from fun y x =>
          ((hbel.out.trans (hb2.mono hsz)).setCell (p := ⟨w1.heap.size + 1, k, none⟩) (by show w1.heap.size ≤ w1.heap.size + 1; omega) _).setCell (p := ⟨w1.heap.size, k, none⟩) (Nat.le_refl _) _)
        have HRn := Lib.hid (show ∀ x, x = (prP zs m k).x → rs ++ [x] = tells (fun i => (prP zs m i).x) (k + 1) from fun x hx => by rw [tells_succ, hrs.out, hx])
        have HLn := Lib.hid (show ∀ x : Nat, (rs ++ [x]).length = k + 1 from fun x => by rw [List.length_append, hrl.out]; rfl)
        clear hb2 hh2 hi2 hhd hib hrs hok hrl hbel
        generalize prP zs m k = S at *
        obtain ⟨A1, X1, B1⟩ := S
        simp only at HNok HFk HSn HI HRn
        have hne : w1.heap.size ≠ w1.heap.size + 1 := by omega
        cases hB : B1
        · have HBb := Lib.hid (pr_bad (HNok.out hB))
          clear hB HNok HFk HSn HH HI HRn HLn
          go_wp2
          go_ret3
          exact fail_li _ _ HBb.out.2.2 HBb.out.1 HBb.out.2.1 (HBl.out.trans ((HBe.out _ _).mono hws))
        · have HSk := Lib.hid (HSn.out hB)
          clear hB HNok HSn
          go_wp2
          go_roundw
          case rel => exact ⟨k + 1, _, by omega, by go_num, Lib.hid (HLn.out _), Lib.hid (HH.out _ _), Lib.hid (HI.out _), Lib.hid (HRn.out _ rfl), HSk, Lib.hid (HBe.out _ _)⟩
          case measure => simp [intOf]; omega
      · have e : k = C := by omega
        have HBt := Lib.hid (HAll.out (fun i hi => hok.out i (by omega)))
        have HX := Lib.hid (HXd.out HBt.out)
        rw [HC.out] at HX
        have HOf := Lib.hid (hhd.out.own (by rw [hrl.out]; exact e) (Nat.le_refl _) (by unfold maxLen; omega))
        have HOi := Lib.hid (hib.out.own (by unfold maxLen; omega))
        have HRv := Lib.hid (show cnl rs = prX zs m from by
          rw [HX.out.1, hrs.out, e]
          unfold cnl tells
          rw [List.map_map]
          exact List.map_congr_left fun i hi => cn_num (up_noN (HFin.out i (by simpa using hi) (hok.out i (by rw [e]; simpa using hi))).2))
        have HIv := Lib.hid (show (List.range C).map (fun j => if j < k then ((prP zs m j).at_ : Int) else 0) = prI zs m from by
          rw [HX.out.2]
          exact List.map_congr_left fun j hj => if_pos (by rw [e]; simpa using hj))
        have hne : w1.heap.size ≠ w1.heap.size + 1 := by omega
        clear e hhd hib hrs hok hrl
        go_wp2
        go_ret3
        refine ⟨_, rs, _, by rw [HBt.out]; rfl, HOf.out.mono hws, by rw [← HIv.out]; exact HOi.out.mono (by omega), HRv.out, fun b e0 e1 => ?_, HBl.out.trans (hbel.out.mono hws)⟩
        simp [Value.ownBlock] at e0 e1
        omega
end Go.Proofs.Ytldaamgohdnjnaa

