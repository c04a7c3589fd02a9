/-
  ForecastBy, in both packages.
-/
import Derived.Test.YthlpmbddpenpmaaFck
import Derived.Test.YthlpmbddpenpmaaRch
import Derived.Test.YthlpmbddpenpmaaCBox
namespace Go.Proofs.Ythlpmbddpenpmaa
open Ieee Go.RowKit
set_option linter.unusedVariables false

def fcB (zs : List Nat) (q p c : Int) : Bool := serB zs && (decide (0 ≤ q ∧ q ≤ 4) && (decide (1 ≤ p ∧ p ≤ zs.length) && decide (1 ≤ c ∧ c ≤ 32)))
def fcL (zs : List Nat) (q p c : Int) : List Nat := tells (fun k => fcA zs q.toNat p.toNat (k + 1)) c.toNat
def fcOk (zs : List Nat) (q p c : Int) : Bool := fcB zs q p c && fins (fcL zs q p c)
def fcR (zs : List Nat) (q p c : Int) : List Nat := if fcB zs q p c then lstR (fcL zs q p c) else []
theorem fc_bad {zs : List Nat} {q p c : Int} (h : fcB zs q p c = false) : fcOk zs q p c = false ∧ fcR zs q p c = [] := by unfold fcOk fcR; rw [h]; exact ⟨rfl, rfl⟩
theorem fc_good {zs : List Nat} {q p c : Int} (h : fcB zs q p c = true) : fcOk zs q p c = fins (fcL zs q p c) ∧ fcR zs q p c = lstR (fcL zs q p c) := by unfold fcOk fcR; rw [h]; exact ⟨rfl, rfl⟩
theorem fcB_t {zs : List Nat} {q p c : Int} (h : fcB zs q p c = true) : serB zs = true ∧ (0 ≤ q ∧ q ≤ 4) ∧ (1 ≤ p ∧ p ≤ zs.length) ∧ (1 ≤ c ∧ c ≤ 32) := by
  unfold fcB at h
  obtain ⟨h1, h2⟩ := Bool.and_eq_true_iff.1 h
  obtain ⟨h3, h4⟩ := Bool.and_eq_true_iff.1 h2
  obtain ⟨h5, h6⟩ := Bool.and_eq_true_iff.1 h4
  exact ⟨h1, of_decide_eq_true h3, of_decide_eq_true h5, of_decide_eq_true h6⟩
theorem fcR_len (zs : List Nat) (q p c : Int) : (fcR zs q p c).length ≤ 1048576 := by
  unfold fcR
  split
  · rename_i h
    obtain ⟨_, _, _, h1⟩ := fcB_t h
    unfold lstR
    split
    · unfold fcL; rw [tells_len]; omega
    · simp
  · simp
/-- A number that is not finite is among what is told: nothing is told. -/
theorem fc_none {zs : List Nat} {q p c : Int} (h : fcOk zs q p c = fins (fcL zs q p c) ∧ fcR zs q p c = lstR (fcL zs q p c)) (hc : 1 ≤ c) (hf : fin .f32 (fcA zs q.toNat p.toNat 1) = false) : fcOk zs q p c = false ∧ fcR zs q p c = [] := by
  have : fins (fcL zs q p c) = false := tells_bad (k := 0) (by omega) hf
  rw [h.1, h.2]
  unfold lstR
  rw [this]
  exact ⟨rfl, rfl⟩
theorem fc_mean {zs : List Nat} {p : Nat} (hs : serB zs = true) (h : meanB zs = false) : fin .f32 (fcA zs 2 p 1) = false := by
  unfold meanB at h
  rw [hs] at h
  exact h
theorem lvT_fin {zs : List Nat} {s : Nat} : ∀ {n : Nat}, fin .f32 (lvT zs s n) = true → ∀ k, k ≤ n → fin .f32 (lvT zs s k) = true
  | 0, h, k, hk => by
    obtain rfl : k = 0 := by omega
    exact h
  | n + 1, h, k, hk => by
    rcases Nat.lt_or_ge n k with h1 | h1
    · obtain rfl : k = n + 1 := by omega
      exact h
    · exact lvT_fin (n := n) (fin_add h).1 k h1
theorem fc_level {zs : List Nat} {p : Nat} (hs : serB zs = true) (h : lvB zs lv03 = false) : fin .f32 (fcA zs 4 p 1) = false := by
  obtain ⟨h1, h2, _⟩ := serB_t hs
  rw [(lv_good hs (show shB lv03 = true by decide +kernel)).1] at h
  show fin .f32 ((lvL zs lv03).getD (zs.length - 1) 0) = false
  refine Bool.eq_false_iff.2 fun hh => ?_
  unfold lvL at hh h
  rw [tells_at _ (by omega)] at hh
  have hall : fins (tells (lvT zs lv03) zs.length) = true := by
    unfold fins tells
    rw [List.all_map, List.all_eq_true]
    intro x hx
    exact lvT_fin hh x (by have := List.mem_range.1 hx; omega)
  rw [hall] at h
  cases h
def FcI (bf : Nat) (f : Value) (w2 : World) (_k : Nat) (wr : World) : Prop := wr.cell? ⟨bf, 0, none⟩ = some f ∧ Below w2.heap.size w2 wr
theorem fc1_any (bf B0 B k : Nat) (f : Value) (T : Nat → Nat) (w2 wr : World) (h : FcI bf f w2 k wr) (hf : KFun T w2 f) (hk : k < 32) (hB : B < wr.heap.size) :
    Calls Try.prog 89 #[.int .i64 k, .pointer (some ⟨bf, 0, none⟩)] wr (Tells (fun k => T (k + 1)) (FcI bf f w2) B0 B k wr) := by
  obtain ⟨K, caps, rfl, hen, hK⟩ := hf
  have HI := Lib.hid h
  have hc := h.1
  have HK := Lib.hid (fun wr hb => hK (k + 1) wr (by omega) (by omega) hb)
  clear h hK
  go_enter Try.func89, Try.ntmps89
  go_wp2_with fail
  refine (HK.out _ HI.out.2).mono ?_
  rintro e w' ⟨r, n, hr, rfl, rfl⟩
  have HR := Lib.hid hr
  clear hr
  go_wp2
  go_ret
  exact Tells.quiet HR.out ⟨HI.out.1, below_drewN HI.out.2 _⟩
theorem kinds_any (w : World) : Calls Try.prog 88 #[] w (fun e w' => e = .returned (.agg #[.func (.func 100) #[] #[], .func (.func 101) #[] #[], .func (.func 102) #[] #[], .func (.func 103) #[] #[], .func (.func 104) #[] #[]]) ∧ Below w.heap.size w w') := by
  go_enter Try.func88, Try.ntmps88
  go_wp2
  refine bodyPost_ret (v := .agg #[.func (.func 100) #[] #[], .func (.func 101) #[] #[], .func (.func 102) #[] #[], .func (.func 103) #[] #[], .func (.func 104) #[] #[]]) ?_ rfl ⟨rfl, ?_⟩
  · have hres : Try.f88.results = #[.cell 0 72] := by kernel_rfl
    simp only [results, hres]
    go_simp
  · exact (Below.refl _ _).alloc (Nat.le_refl _) _
theorem kix0 (w : World) : (Instr.index 72 (.agg #[.func (.func 100) #[] #[], .func (.func 101) #[] #[], .func (.func 102) #[] #[], .func (.func 103) #[] #[], .func (.func 104) #[] #[]]) (.int .i64 0)).run Try.prog w = .ok (.func (.func 100) #[] #[]) w := by
  simp [Instr.index, run_underlying Try.underlying72, asIntOf, go_sem]
theorem kix1 (w : World) : (Instr.index 72 (.agg #[.func (.func 100) #[] #[], .func (.func 101) #[] #[], .func (.func 102) #[] #[], .func (.func 103) #[] #[], .func (.func 104) #[] #[]]) (.int .i64 1)).run Try.prog w = .ok (.func (.func 101) #[] #[]) w := by
  simp [Instr.index, run_underlying Try.underlying72, asIntOf, go_sem]
theorem kix2 (w : World) : (Instr.index 72 (.agg #[.func (.func 100) #[] #[], .func (.func 101) #[] #[], .func (.func 102) #[] #[], .func (.func 103) #[] #[], .func (.func 104) #[] #[]]) (.int .i64 2)).run Try.prog w = .ok (.func (.func 102) #[] #[]) w := by
  simp [Instr.index, run_underlying Try.underlying72, asIntOf, go_sem]
theorem kix3 (w : World) : (Instr.index 72 (.agg #[.func (.func 100) #[] #[], .func (.func 101) #[] #[], .func (.func 102) #[] #[], .func (.func 103) #[] #[], .func (.func 104) #[] #[]]) (.int .i64 3)).run Try.prog w = .ok (.func (.func 103) #[] #[]) w := by
  simp [Instr.index, run_underlying Try.underlying72, asIntOf, go_sem]
theorem kix4 (w : World) : (Instr.index 72 (.agg #[.func (.func 100) #[] #[], .func (.func 101) #[] #[], .func (.func 102) #[] #[], .func (.func 103) #[] #[], .func (.func 104) #[] #[]]) (.int .i64 4)).run Try.prog w = .ok (.func (.func 104) #[] #[]) w := by
  simp [Instr.index, run_underlying Try.underlying72, asIntOf, go_sem]
set_option maxHeartbeats 8000000 in
set_option maxRecDepth 100000 in
theorem imFc_any (a : Option Addr) (len cap : Nat) (zs : List Nat) (q p c : Int) (w : World) (h : FSl w a len zs) (hm : len ≤ 1048576) (hcap : len ≤ cap) (hcap2 : cap ≤ 9223372036854775807) :
    Calls Try.prog 41 #[.slice a len cap, .int .i64 q, .int .i64 p, .int .i64 c] w (RetOB 23 (fcR zs q p c) (fcOk zs q p c) w) := by
  have hmf : ∀ (fn : Fn) (first cap : Array Value) (w : World), (Instr.makeFunc fn first cap).run Try.prog w = .ok (.func fn first cap) w := fun _ _ _ _ => rfl
  have hix0 := kix0
  have hix1 := kix1
  have hix2 := kix2
  have hix3 := kix3
  have hix4 := kix4
  have H := Lib.hid h
  have HL := Lib.hid h.1
  clear h
  cases hs : serB zs
  · have HS := Lib.hid hs
    have HB := Lib.hid (fc_bad (show fcB zs q p c = false by unfold fcB; rw [hs]; rfl))
    go_enter Try.func41, Try.ntmps41
    go_wp2_with fail
    refine (implSeries_any _ _ _ _ _ H.out hm).mono ?_
    rw [HS.out]
    rintro e w' ⟨m, rfl, rfl⟩
    go_wp2_with fail
    go_ret2
    exact fail_ob _ HB.out.1 HB.out.2 (below_drewN (Below.refl _ _) _)
  · have HS := Lib.hid hs
    obtain ⟨h1, h96, hfn⟩ := serB_t hs
    rw [HL.out] at h1 h96
    have HFn := Lib.hid hfn
    have hbs : fcB zs q p c = (decide (0 ≤ q ∧ q ≤ 4) && (decide (1 ≤ p ∧ p ≤ len) && decide (1 ≤ c ∧ c ≤ 32))) := by unfold fcB; rw [hs, HL.out]; rfl
    clear hs hfn
    by_cases hp1 : 1 ≤ p
    rotate_left
    · have d1 : decide (p < 1) = true := decide_eq_true (by omega)
      have HB := Lib.hid (fc_bad (show fcB zs q p c = false by rw [hbs, decide_eq_false (show ¬ (1 ≤ p ∧ p ≤ (len : Int)) by omega)]; simp))
      go_enter Try.func41, Try.ntmps41
      go_wp2_with fail
      refine (implSeries_any _ _ _ _ _ H.out hm).mono ?_
      rw [HS.out]
      rintro e w' ⟨m, rfl, rfl⟩
      go_wp2_with fail
      go_ret2
      exact fail_ob _ HB.out.1 HB.out.2 (below_drewN (Below.refl _ _) _)
    have d1 : decide (p < 1) = false := decide_eq_false (by omega)
    by_cases hpl : p ≤ len
    rotate_left
    · have d2 : decide ((len : Int) < p) = true := decide_eq_true (by omega)
      have HB := Lib.hid (fc_bad (show fcB zs q p c = false by rw [hbs, decide_eq_false (show ¬ (1 ≤ p ∧ p ≤ (len : Int)) by omega)]; simp))
      go_enter Try.func41, Try.ntmps41
      go_wp2_with fail
      refine (implSeries_any _ _ _ _ _ H.out hm).mono ?_
      rw [HS.out]
      rintro e w' ⟨m, rfl, rfl⟩
      go_wp2_with fail
      go_ret2
      exact fail_ob _ HB.out.1 HB.out.2 (below_drewN (Below.refl _ _) _)
    have d2 : decide ((len : Int) < p) = false := decide_eq_false (by omega)
    by_cases hq0 : 0 ≤ q
    rotate_left
    · have d3 : decide (q < 0) = true := decide_eq_true (by omega)
      have HB := Lib.hid (fc_bad (show fcB zs q p c = false by rw [hbs, decide_eq_false (show ¬ (0 ≤ q ∧ q ≤ 4) by omega)]; rfl))
      go_enter Try.func41, Try.ntmps41
      go_wp2_with fail
      refine (implSeries_any _ _ _ _ _ H.out hm).mono ?_
      rw [HS.out]
      rintro e w' ⟨m, rfl, rfl⟩
      go_wp2_with fail
      go_ret2
      exact fail_ob _ HB.out.1 HB.out.2 (below_drewN (Below.refl _ _) _)
    have d3 : decide (q < 0) = false := decide_eq_false (by omega)
    by_cases hq4 : q ≤ 4
    rotate_left
    · have d4 : decide (5 ≤ q) = true := decide_eq_true (by omega)
      have HB := Lib.hid (fc_bad (show fcB zs q p c = false by rw [hbs, decide_eq_false (show ¬ (0 ≤ q ∧ q ≤ 4) by omega)]; rfl))
      go_enter Try.func41, Try.ntmps41
      go_wp2_with fail
      refine (implSeries_any _ _ _ _ _ H.out hm).mono ?_
      rw [HS.out]
      rintro e w' ⟨m, rfl, rfl⟩
      go_wp2_with fail
      go_ret2
      exact fail_ob _ HB.out.1 HB.out.2 (below_drewN (Below.refl _ _) _)
    have d4 : decide (5 ≤ q) = false := decide_eq_false (by omega)
    cases hr : decide (1 ≤ c ∧ c ≤ 32)
    · have HR := Lib.hid hr
      have HB := Lib.hid (fc_bad (show fcB zs q p c = false by rw [hbs, hr]; simp))
      go_enter Try.func41, Try.ntmps41
      go_wp2_with fail
      refine (implSeries_any _ _ _ _ _ H.out hm).mono ?_
      rw [HS.out]
      rintro e w' ⟨m, rfl, rfl⟩
      go_wp2_with fail
      refine (reach_any _ _).mono ?_
      rw [HR.out]
      rintro e w' ⟨rfl, rfl⟩
      go_wp2_with fail
      go_ret2
      exact fail_ob _ HB.out.1 HB.out.2 (below_drewN (Below.refl _ _) _)
    · have HR := Lib.hid hr
      have hc := of_decide_eq_true hr
      have hfb : fcB zs q p c = true := by rw [hbs, hr, decide_eq_true (show 1 ≤ p ∧ p ≤ (len : Int) from ⟨hp1, hpl⟩), decide_eq_true (show 0 ≤ q ∧ q ≤ 4 from ⟨hq0, hq4⟩)]; rfl
      obtain ⟨p, rfl⟩ : ∃ n : Nat, p = n := ⟨p.toNat, by omega⟩
      obtain ⟨c, rfl⟩ : ∃ n : Nat, c = n := ⟨c.toNat, by omega⟩
      replace hp1 : 1 ≤ p := by omega
      replace hpl : p ≤ len := by omega
      clear hr hbs d3 d4
      have hq : q = 0 ∨ q = 1 ∨ q = 2 ∨ q = 3 ∨ q = 4 := by omega
      rcases hq with rfl | rfl | rfl | rfl | rfl
      · have HB := Lib.hid (fc_good hfb)
        clear hfb hq0 hq4
        go_enter Try.func41, Try.ntmps41
        go_wp2_with fail
        refine (implSeries_any _ _ _ _ _ H.out hm).mono ?_
        rw [HS.out]
        rintro e w' ⟨m, rfl, rfl⟩
        go_wp2_with fail
        refine (reach_any _ _).mono ?_
        rw [HR.out]
        rintro e w' ⟨rfl, rfl⟩
        go_wp2_with fail
        refine (kinds_any _).mono ?_
        rintro e w1 ⟨rfl, hb1⟩
        have G1 := Lib.hid ((below_drewN (Below.refl w.heap.size w) m).trans hb1)
        have H1 := Lib.hid (FSl.below (FSl.drewN H.out m) hb1)
        clear hb1
        go_wp2_with fail
        refine (lastK_any _ _ _ _ _ _ H1.out h1 h96 (fun k => fcA zs 0 p k) (fun k => rfl)).mono ?_
        rintro e w2 ⟨f, rfl, hfv, hf, hb2⟩
        have G2 := Lib.hid (G1.out.trans (hb2.mono G1.out.size))
        have HF := Lib.hid hf
        have HFv := Lib.hid hfv
        clear hf hb2 hfv
        have hsz2 : w.heap.size ≤ w2.heap.size := G2.out.size
        have HKF := Lib.hid (HF.out rfl)
        obtain ⟨K, caps, rfl, hen, _⟩ := HKF.out
        have G3 := Lib.hid (G2.out.alloc hsz2 (.cells #[.func (.func K) #[] caps] 69))
        have HI := Lib.hid (show FcI w2.heap.size (.func (.func K) #[] caps) w2 0 (w2.alloc (.cells #[.func (.func K) #[] caps] 69)) from ⟨by rw [World.cell?_alloc_at _ _ _ _ rfl]; rfl, (Below.refl _ _).alloc (Nat.le_refl _) _⟩)
        go_wp2_with fail
        refine (places_any 89 #[.pointer (some ⟨w2.heap.size, 0, none⟩)] (fun k => fcA zs 0 p (k + 1)) (FcI w2.heap.size (.func (.func K) #[] caps) w2) w.heap.size c _ (enter_of Try.func89 (by kernel_rfl) rfl) (by omega) (by simp <;> omega) HI.out
          (fun k wr wr' h hb => ⟨by rw [hb.cell (p := ⟨w2.heap.size, 0, none⟩) (by simp)]; exact h.1, h.2.trans (hb.mono (by simp))⟩)
          (fun k wr hk hsz hI => fc1_any _ _ _ _ _ (fun k => fcA zs 0 p k) _ _ hI HKF.out (by omega) (by simp at hsz; simp <;> omega))).mono ?_
        rintro e w3 ⟨v, ys, rfl, ho, hx, hb3⟩
        have HO := Lib.hid (ho.mono (show w.heap.size ≤ _ by simp <;> omega))
        have HX := Lib.hid (show cnl ys = fcR zs 0 p c by rw [hx, HB.out.2]; rfl)
        have HBl := Lib.hid (G3.out.trans hb3)
        have HT := Lib.hid (show fins (tells (fun k => fcA zs 0 p (k + 1)) c) = fcOk zs 0 p c from HB.out.1.symm)
        rw [HT.out]
        clear ho hx hb3
        go_wp2
        go_ret2
        exact ⟨v, ys, rfl, HO.out, HX.out, HBl.out⟩
      · have HB := Lib.hid (fc_good hfb)
        clear hfb hq0 hq4
        go_enter Try.func41, Try.ntmps41
        go_wp2_with fail
        refine (implSeries_any _ _ _ _ _ H.out hm).mono ?_
        rw [HS.out]
        rintro e w' ⟨m, rfl, rfl⟩
        go_wp2_with fail
        refine (reach_any _ _).mono ?_
        rw [HR.out]
        rintro e w' ⟨rfl, rfl⟩
        go_wp2_with fail
        refine (kinds_any _).mono ?_
        rintro e w1 ⟨rfl, hb1⟩
        have G1 := Lib.hid ((below_drewN (Below.refl w.heap.size w) m).trans hb1)
        have H1 := Lib.hid (FSl.below (FSl.drewN H.out m) hb1)
        clear hb1
        go_wp2_with fail
        refine (roundK_any _ _ _ _ p _ H1.out hp1 hpl h96 hcap hcap2 (fun k => fcA zs 1 p k) (fun k => rfl)).mono ?_
        rintro e w2 ⟨f, rfl, hfv, hf, hb2⟩
        have G2 := Lib.hid (G1.out.trans (hb2.mono G1.out.size))
        have HF := Lib.hid hf
        have HFv := Lib.hid hfv
        clear hf hb2 hfv
        have hsz2 : w.heap.size ≤ w2.heap.size := G2.out.size
        have HKF := Lib.hid (HF.out rfl)
        obtain ⟨K, caps, rfl, hen, _⟩ := HKF.out
        have G3 := Lib.hid (G2.out.alloc hsz2 (.cells #[.func (.func K) #[] caps] 69))
        have HI := Lib.hid (show FcI w2.heap.size (.func (.func K) #[] caps) w2 0 (w2.alloc (.cells #[.func (.func K) #[] caps] 69)) from ⟨by rw [World.cell?_alloc_at _ _ _ _ rfl]; rfl, (Below.refl _ _).alloc (Nat.le_refl _) _⟩)
        go_wp2_with fail
        refine (places_any 89 #[.pointer (some ⟨w2.heap.size, 0, none⟩)] (fun k => fcA zs 1 p (k + 1)) (FcI w2.heap.size (.func (.func K) #[] caps) w2) w.heap.size c _ (enter_of Try.func89 (by kernel_rfl) rfl) (by omega) (by simp <;> omega) HI.out
          (fun k wr wr' h hb => ⟨by rw [hb.cell (p := ⟨w2.heap.size, 0, none⟩) (by simp)]; exact h.1, h.2.trans (hb.mono (by simp))⟩)
          (fun k wr hk hsz hI => fc1_any _ _ _ _ _ (fun k => fcA zs 1 p k) _ _ hI HKF.out (by omega) (by simp at hsz; simp <;> omega))).mono ?_
        rintro e w3 ⟨v, ys, rfl, ho, hx, hb3⟩
        have HO := Lib.hid (ho.mono (show w.heap.size ≤ _ by simp <;> omega))
        have HX := Lib.hid (show cnl ys = fcR zs 1 p c by rw [hx, HB.out.2]; rfl)
        have HBl := Lib.hid (G3.out.trans hb3)
        have HT := Lib.hid (show fins (tells (fun k => fcA zs 1 p (k + 1)) c) = fcOk zs 1 p c from HB.out.1.symm)
        rw [HT.out]
        clear ho hx hb3
        go_wp2
        go_ret2
        exact ⟨v, ys, rfl, HO.out, HX.out, HBl.out⟩
      · have HB := Lib.hid (fc_good hfb)
        clear hfb hq0 hq4
        go_enter Try.func41, Try.ntmps41
        go_wp2_with fail
        refine (implSeries_any _ _ _ _ _ H.out hm).mono ?_
        rw [HS.out]
        rintro e w' ⟨m, rfl, rfl⟩
        go_wp2_with fail
        refine (reach_any _ _).mono ?_
        rw [HR.out]
        rintro e w' ⟨rfl, rfl⟩
        go_wp2_with fail
        refine (kinds_any _).mono ?_
        rintro e w1 ⟨rfl, hb1⟩
        have G1 := Lib.hid ((below_drewN (Below.refl w.heap.size w) m).trans hb1)
        have H1 := Lib.hid (FSl.below (FSl.drewN H.out m) hb1)
        clear hb1
        go_wp2_with fail
        refine (meanK_any _ _ _ _ _ _ H1.out hm (fun k => fcA zs 2 p k) (fun k => rfl)).mono ?_
        rintro e w2 ⟨f, rfl, hfv, hf, hb2⟩
        have G2 := Lib.hid (G1.out.trans (hb2.mono G1.out.size))
        have HF := Lib.hid hf
        have HFv := Lib.hid hfv
        clear hf hb2 hfv
        cases hkk : meanB zs
        · have HBd := Lib.hid (show fcOk zs 2 p c = false ∧ fcR zs 2 p c = [] from fc_none HB.out (by omega) (fc_mean (p := p) HS.out hkk))
          clear hkk HF
          rcases HFv.out with rfl | ⟨fn, fx, fy, rfl⟩
          all_goals
            go_wp2_with fail
            go_ret2
            exact fail_ob _ HBd.out.1 HBd.out.2 (G2.out.alloc G2.out.size _)
        · have hsz2 : w.heap.size ≤ w2.heap.size := G2.out.size
          have HKF := Lib.hid (HF.out hkk)
          obtain ⟨K, caps, rfl, hen, _⟩ := HKF.out
          have G3 := Lib.hid (G2.out.alloc hsz2 (.cells #[.func (.func K) #[] caps] 69))
          have HI := Lib.hid (show FcI w2.heap.size (.func (.func K) #[] caps) w2 0 (w2.alloc (.cells #[.func (.func K) #[] caps] 69)) from ⟨by rw [World.cell?_alloc_at _ _ _ _ rfl]; rfl, (Below.refl _ _).alloc (Nat.le_refl _) _⟩)
          go_wp2_with fail
          refine (places_any 89 #[.pointer (some ⟨w2.heap.size, 0, none⟩)] (fun k => fcA zs 2 p (k + 1)) (FcI w2.heap.size (.func (.func K) #[] caps) w2) w.heap.size c _ (enter_of Try.func89 (by kernel_rfl) rfl) (by omega) (by simp <;> omega) HI.out
            (fun k wr wr' h hb => ⟨by rw [hb.cell (p := ⟨w2.heap.size, 0, none⟩) (by simp)]; exact h.1, h.2.trans (hb.mono (by simp))⟩)
            (fun k wr hk hsz hI => fc1_any _ _ _ _ _ (fun k => fcA zs 2 p k) _ _ hI HKF.out (by omega) (by simp at hsz; simp <;> omega))).mono ?_
          rintro e w3 ⟨v, ys, rfl, ho, hx, hb3⟩
          have HO := Lib.hid (ho.mono (show w.heap.size ≤ _ by simp <;> omega))
          have HX := Lib.hid (show cnl ys = fcR zs 2 p c by rw [hx, HB.out.2]; rfl)
          have HBl := Lib.hid (G3.out.trans hb3)
          have HT := Lib.hid (show fins (tells (fun k => fcA zs 2 p (k + 1)) c) = fcOk zs 2 p c from HB.out.1.symm)
          rw [HT.out]
          clear ho hx hb3
          go_wp2
          go_ret2
          exact ⟨v, ys, rfl, HO.out, HX.out, HBl.out⟩
      · have HB := Lib.hid (fc_good hfb)
        clear hfb hq0 hq4
        go_enter Try.func41, Try.ntmps41
        go_wp2_with fail
        refine (implSeries_any _ _ _ _ _ H.out hm).mono ?_
        rw [HS.out]
        rintro e w' ⟨m, rfl, rfl⟩
        go_wp2_with fail
        refine (reach_any _ _).mono ?_
        rw [HR.out]
        rintro e w' ⟨rfl, rfl⟩
        go_wp2_with fail
        refine (kinds_any _).mono ?_
        rintro e w1 ⟨rfl, hb1⟩
        have G1 := Lib.hid ((below_drewN (Below.refl w.heap.size w) m).trans hb1)
        have H1 := Lib.hid (FSl.below (FSl.drewN H.out m) hb1)
        clear hb1
        go_wp2_with fail
        refine (lineK_any _ _ _ _ _ _ H1.out h1 h96 HFn.out (fun k => fcA zs 3 p k) (fun k => rfl)).mono ?_
        rintro e w2 ⟨f, rfl, hfv, hf, hb2⟩
        have G2 := Lib.hid (G1.out.trans (hb2.mono G1.out.size))
        have HF := Lib.hid hf
        have HFv := Lib.hid hfv
        clear hf hb2 hfv
        have hsz2 : w.heap.size ≤ w2.heap.size := G2.out.size
        have HKF := Lib.hid (HF.out rfl)
        obtain ⟨K, caps, rfl, hen, _⟩ := HKF.out
        have G3 := Lib.hid (G2.out.alloc hsz2 (.cells #[.func (.func K) #[] caps] 69))
        have HI := Lib.hid (show FcI w2.heap.size (.func (.func K) #[] caps) w2 0 (w2.alloc (.cells #[.func (.func K) #[] caps] 69)) from ⟨by rw [World.cell?_alloc_at _ _ _ _ rfl]; rfl, (Below.refl _ _).alloc (Nat.le_refl _) _⟩)
        go_wp2_with fail
        refine (places_any 89 #[.pointer (some ⟨w2.heap.size, 0, none⟩)] (fun k => fcA zs 3 p (k + 1)) (FcI w2.heap.size (.func (.func K) #[] caps) w2) w.heap.size c _ (enter_of Try.func89 (by kernel_rfl) rfl) (by omega) (by simp <;> omega) HI.out
          (fun k wr wr' h hb => ⟨by rw [hb.cell (p := ⟨w2.heap.size, 0, none⟩) (by simp)]; exact h.1, h.2.trans (hb.mono (by simp))⟩)
          (fun k wr hk hsz hI => fc1_any _ _ _ _ _ (fun k => fcA zs 3 p k) _ _ hI HKF.out (by omega) (by simp at hsz; simp <;> omega))).mono ?_
        rintro e w3 ⟨v, ys, rfl, ho, hx, hb3⟩
        have HO := Lib.hid (ho.mono (show w.heap.size ≤ _ by simp <;> omega))
        have HX := Lib.hid (show cnl ys = fcR zs 3 p c by rw [hx, HB.out.2]; rfl)
        have HBl := Lib.hid (G3.out.trans hb3)
        have HT := Lib.hid (show fins (tells (fun k => fcA zs 3 p (k + 1)) c) = fcOk zs 3 p c from HB.out.1.symm)
        rw [HT.out]
        clear ho hx hb3
        go_wp2
        go_ret2
        exact ⟨v, ys, rfl, HO.out, HX.out, HBl.out⟩
      · have HB := Lib.hid (fc_good hfb)
        clear hfb hq0 hq4
        go_enter Try.func41, Try.ntmps41
        go_wp2_with fail
        refine (implSeries_any _ _ _ _ _ H.out hm).mono ?_
        rw [HS.out]
        rintro e w' ⟨m, rfl, rfl⟩
        go_wp2_with fail
        refine (reach_any _ _).mono ?_
        rw [HR.out]
        rintro e w' ⟨rfl, rfl⟩
        go_wp2_with fail
        refine (kinds_any _).mono ?_
        rintro e w1 ⟨rfl, hb1⟩
        have G1 := Lib.hid ((below_drewN (Below.refl w.heap.size w) m).trans hb1)
        have H1 := Lib.hid (FSl.below (FSl.drewN H.out m) hb1)
        clear hb1
        go_wp2_with fail
        refine (levelK_any _ _ _ _ _ _ H1.out h1 h96 (fun k => fcA zs 4 p k) (fun k => rfl)).mono ?_
        rintro e w2 ⟨f, rfl, hfv, hf, hb2⟩
        have G2 := Lib.hid (G1.out.trans (hb2.mono G1.out.size))
        have HF := Lib.hid hf
        have HFv := Lib.hid hfv
        clear hf hb2 hfv
        cases hkk : lvB zs lv03
        · have HBd := Lib.hid (show fcOk zs 4 p c = false ∧ fcR zs 4 p c = [] from fc_none HB.out (by omega) (fc_level (p := p) HS.out hkk))
          clear hkk HF
          rcases HFv.out with rfl | ⟨fn, fx, fy, rfl⟩
          all_goals
            go_wp2_with fail
            go_ret2
            exact fail_ob _ HBd.out.1 HBd.out.2 (G2.out.alloc G2.out.size _)
        · have hsz2 : w.heap.size ≤ w2.heap.size := G2.out.size
          have HKF := Lib.hid (HF.out hkk)
          obtain ⟨K, caps, rfl, hen, _⟩ := HKF.out
          have G3 := Lib.hid (G2.out.alloc hsz2 (.cells #[.func (.func K) #[] caps] 69))
          have HI := Lib.hid (show FcI w2.heap.size (.func (.func K) #[] caps) w2 0 (w2.alloc (.cells #[.func (.func K) #[] caps] 69)) from ⟨by rw [World.cell?_alloc_at _ _ _ _ rfl]; rfl, (Below.refl _ _).alloc (Nat.le_refl _) _⟩)
          go_wp2_with fail
          refine (places_any 89 #[.pointer (some ⟨w2.heap.size, 0, none⟩)] (fun k => fcA zs 4 p (k + 1)) (FcI w2.heap.size (.func (.func K) #[] caps) w2) w.heap.size c _ (enter_of Try.func89 (by kernel_rfl) rfl) (by omega) (by simp <;> omega) HI.out
            (fun k wr wr' h hb => ⟨by rw [hb.cell (p := ⟨w2.heap.size, 0, none⟩) (by simp)]; exact h.1, h.2.trans (hb.mono (by simp))⟩)
            (fun k wr hk hsz hI => fc1_any _ _ _ _ _ (fun k => fcA zs 4 p k) _ _ hI HKF.out (by omega) (by simp at hsz; simp <;> omega))).mono ?_
          rintro e w3 ⟨v, ys, rfl, ho, hx, hb3⟩
          have HO := Lib.hid (ho.mono (show w.heap.size ≤ _ by simp <;> omega))
          have HX := Lib.hid (show cnl ys = fcR zs 4 p c by rw [hx, HB.out.2]; rfl)
          have HBl := Lib.hid (G3.out.trans hb3)
          have HT := Lib.hid (show fins (tells (fun k => fcA zs 4 p (k + 1)) c) = fcOk zs 4 p c from HB.out.1.symm)
          rw [HT.out]
          clear ho hx hb3
          go_wp2
          go_ret2
          exact ⟨v, ys, rfl, HO.out, HX.out, HBl.out⟩
end Go.Proofs.Ythlpmbddpenpmaa
