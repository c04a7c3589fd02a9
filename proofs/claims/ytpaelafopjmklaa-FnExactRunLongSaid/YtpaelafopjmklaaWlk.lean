/-
  What a walk asks for, in both packages.
-/
import Derived.Test.YtpaelafopjmklaaCPos
import Derived.Test.YtpaelafopjmklaaRch
import Derived.Test.YtpaelafopjmklaaNum
import Derived.Test.YtpaelafopjmklaaCIn
namespace Go.Proofs.Ytpaelafopjmklaa
open Ieee Go.RowKit
set_option linter.unusedVariables false

def oneW : Nat := 1065353216
def gt1B (x : Nat) : Bool := (FloatKind.format .f32).order x oneW == some .gt
theorem order_nums {x y : Nat} (hx : isN .f32 x = false) (hy : isN .f32 y = false) : (FloatKind.format .f32).order x y ≠ none := by
  unfold Format.order
  unfold isN at hx hy
  generalize (FloatKind.format .f32).read x = a at *
  generalize (FloatKind.format .f32).read y = b at *
  cases a <;> cases b <;> first | (cases hx; done) | (cases hy; done) | simp [Datum.order]
theorem add_num {x y : Nat} (hx : fin .f32 x = true) (hy : fin .f32 y = true) : isN .f32 (aop .add .f32 x y) = false := by
  obtain ⟨s, m, p, h1⟩ := fin_datum hx
  obtain ⟨s', m', p', h2⟩ := fin_datum hy
  have hf : ∃ r, floatBits .add .f32 x y = some r := by
    show ∃ r, Option.map (FloatKind.format .f32).write (((FloatKind.format .f32).read x).sum ((FloatKind.format .f32).read y)) = some r
    rw [h1, h2]; exact ⟨_, rfl⟩
  obtain ⟨r, hf⟩ := hf
  unfold aop
  rw [hf]
  exact (floatBits_nan hf).2.2
theorem le_gt1 {x : Nat} (h : isN .f32 x = false) : ((FloatKind.format .f32).order x oneW == some Ordering.lt || (FloatKind.format .f32).order x oneW == some Ordering.eq) = !gt1B x := by
  have hn := order_nums h (show isN .f32 oneW = false by decide +kernel)
  unfold gt1B
  cases ho : (FloatKind.format .f32).order x oneW with
  | none => exact absurd ho hn
  | some o => cases o <;> rfl
/-- The chances of a walk, and its bar. -/
def wkB (up dn : Nat) (bar : Int) : Bool := abvB up && (leaB dn && (!gt1B (aop .add .f32 up dn) && decide (1 ≤ bar ∧ bar ≤ 16)))
theorem wk_t {up dn : Nat} {bar : Int} (h : wkB up dn bar = true) : abvB up = true ∧ leaB dn = true ∧ gt1B (aop .add .f32 up dn) = false ∧ 1 ≤ bar ∧ bar ≤ 16 := by
  unfold wkB at h
  have h1 := (Bool.and_eq_true _ _ ▸ h).1
  have h2 := (Bool.and_eq_true _ _ ▸ h).2
  have h3 := (Bool.and_eq_true _ _ ▸ h2).1
  have h4 := (Bool.and_eq_true _ _ ▸ h2).2
  have h5 := (Bool.and_eq_true _ _ ▸ h4).1
  have h6 := of_decide_eq_true (Bool.and_eq_true _ _ ▸ h4).2
  exact ⟨h1, h3, by simpa using h5, h6.1, h6.2⟩
theorem spWlk_any (up dn : Nat) (bar : Int) (w : World) :
    Calls Try.prog 74 #[.float .f32 up, .float .f32 dn, .int .i64 bar] w (RetV (.bool (wkB up dn bar)) w) := by
  cases h1 : abvB up
  · have H1 := Lib.hid h1
    have HB := Lib.hid (show wkB up dn bar = false by unfold wkB; rw [h1]; rfl)
    clear h1
    go_enter Try.func74, Try.ntmps74
    go_wp2_with fail
    refine (abv_any _ _).mono ?_
    rw [H1.out]
    rintro e w' ⟨m1, rfl, rfl⟩
    go_wp2
    go_ret
    exact ⟨_, congrArg (fun b => Ending.returned (Value.bool b)) HB.out.symm, rfl⟩
  · cases h2 : leaB dn
    · have H1 := Lib.hid h1
      have H2 := Lib.hid h2
      have HB := Lib.hid (show wkB up dn bar = false by unfold wkB; rw [h2]; simp)
      clear h1 h2
      go_enter Try.func74, Try.ntmps74
      go_wp2_with fail
      refine (abv_any _ _).mono ?_
      rw [H1.out]
      rintro e w' ⟨m1, rfl, rfl⟩
      go_wp2_with fail
      refine (lea_any _ _).mono ?_
      rw [H2.out]
      rintro e w' ⟨m2, rfl, rfl⟩
      go_wp2
      go_ret
      exact ⟨_, congrArg (fun b => Ending.returned (Value.bool b)) HB.out.symm, rfl⟩
    · have hu : fin .f32 up = true := by unfold abvB at h1; exact (Bool.and_eq_true _ _ ▸ h1).1
      have hd : fin .f32 dn = true := by unfold leaB at h2; exact (Bool.and_eq_true _ _ ▸ h2).1
      have hadd := fun W => add_run (P := Try.prog) 23 hu hd W
      have hle := le_gt1 (add_num hu hd)
      have H1 := Lib.hid h1
      have H2 := Lib.hid h2
      cases hg : gt1B (aop .add .f32 up dn)
      · rw [hg] at hle
        have HG := Lib.hid (show wkB up dn bar = decide (1 ≤ bar ∧ bar ≤ 16) by unfold wkB; rw [h1, h2, hg]; rfl)
        unfold oneW at hle
        clear h1 h2 hu hd hg
        generalize aop .add .f32 up dn = s at *
        by_cases hb : 1 ≤ bar ∧ bar ≤ 16
        · have HB := Lib.hid (HG.out.trans (decide_eq_true hb))
          go_enter Try.func74, Try.ntmps74
          go_wp2_with fail
          refine (abv_any _ _).mono ?_
          rw [H1.out]
          rintro e w' ⟨m1, rfl, rfl⟩
          go_wp2_with fail
          refine (lea_any _ _).mono ?_
          rw [H2.out]
          rintro e w' ⟨m2, rfl, rfl⟩
          go_wp2_with fail
          refine (in_yes _ _ _ _ hb.1 hb.2).mono ?_
          rintro e w' ⟨rfl, rfl⟩
          go_wp2
          go_ret
          exact ⟨_, congrArg (fun b => Ending.returned (Value.bool b)) HB.out.symm, rfl⟩
        · have HB := Lib.hid (HG.out.trans (decide_eq_false hb))
          have hb2 : bar < 1 ∨ 16 < bar := by omega
          clear hb
          go_enter Try.func74, Try.ntmps74
          go_wp2_with fail
          refine (abv_any _ _).mono ?_
          rw [H1.out]
          rintro e w' ⟨m1, rfl, rfl⟩
          go_wp2_with fail
          refine (lea_any _ _).mono ?_
          rw [H2.out]
          rintro e w' ⟨m2, rfl, rfl⟩
          go_wp2_with fail
          refine (in_no _ _ _ _ hb2).mono ?_
          rintro e w' ⟨rfl, rfl⟩
          go_wp2
          go_ret
          exact ⟨_, congrArg (fun b => Ending.returned (Value.bool b)) HB.out.symm, rfl⟩
      · rw [hg] at hle
        have HB := Lib.hid (show wkB up dn bar = false by unfold wkB; rw [hg]; simp)
        unfold oneW at hle
        clear h1 h2 hu hd hg
        generalize aop .add .f32 up dn = s at *
        go_enter Try.func74, Try.ntmps74
        go_wp2_with fail
        refine (abv_any _ _).mono ?_
        rw [H1.out]
        rintro e w' ⟨m1, rfl, rfl⟩
        go_wp2_with fail
        refine (lea_any _ _).mono ?_
        rw [H2.out]
        rintro e w' ⟨m2, rfl, rfl⟩
        go_wp2
        go_ret
        exact ⟨_, congrArg (fun b => Ending.returned (Value.bool b)) HB.out.symm, rfl⟩
/-- What walkOf gives. -/
def RetWk (up dn : Nat) (bar : Int) (b : Bool) (w : World) (e : Ending) (w' : World) : Prop :=
  e = .returned (.tuple #[if b then .agg #[.float .f32 up, .float .f32 dn, .int .i64 bar] else .agg #[.float .f32 0, .float .f32 0, .int .i64 0], .bool b]) ∧ Below w.heap.size w w'
set_option maxHeartbeats 2000000 in
theorem imWlk_any (up dn : Nat) (bar : Int) (w : World) :
    Calls Try.prog 75 #[.float .f32 up, .float .f32 dn, .int .i64 bar] w (RetWk up dn bar (wkB up dn bar) w) := by
  have hres : Try.f75.results = #[.cell 6 80, .tmp 7] := by kernel_rfl
  have HP := Lib.hid (show ∀ (W : World) (q : Nat), W.heap.size = q → FSl (W.alloc (.cells #[.float .f32 up, .float .f32 dn] 23)) (some ⟨q, 0, none⟩) 2 [up, dn] from fun W q e => by subst e; exact (NumsIn.new W [up, dn] 23).fsl rfl)
  have HBl := Lib.hid (fun (o : Obj) (n : Nat) => ((below_drewN (((Below.refl w.heap.size w).alloc (Nat.le_refl _) (.cells #[.float .f32 0, .float .f32 0, .int .i64 0] 80)).alloc (by simp) o) n)))
  cases hf : fins [up, dn]
  · have HF := Lib.hid hf
    have HB := Lib.hid (show wkB up dn bar = false by
      have : (fin .f32 up && (fin .f32 dn && true)) = false := hf
      unfold wkB abvB leaB
      cases h1 : fin .f32 up
      · rfl
      · rw [h1, Bool.and_true, Bool.true_and] at this; rw [this]; simp)
    clear hf
    go_enter Try.func75, Try.ntmps75
    go_wp2_with fail
    refine (imFins_any _ _ _ [up, dn] _ (HP.out _ _ (by simp)) (by omega)).mono ?_
    rw [HF.out]
    rintro e w' ⟨m, rfl, rfl⟩
    go_wp2
    refine bodyPost_ret (v := .tuple #[.agg #[.float .f32 0, .float .f32 0, .int .i64 0], .bool false]) ?_ rfl ⟨by rw [HB.out]; rfl, ?_⟩
    · simp only [results, hres]
      go_simp
    · exact (((HBl.out _ _).setCell (Nat.le_refl _) _).setCell (Nat.le_refl _) _).setCell (Nat.le_refl _) _
  · have HF := Lib.hid hf
    have hfm : fin .f32 up = true ∧ fin .f32 dn = true := by
      have : (fin .f32 up && (fin .f32 dn && true)) = true := hf
      rw [Bool.and_true] at this
      exact ⟨(Bool.and_eq_true _ _ ▸ this).1, (Bool.and_eq_true _ _ ▸ this).2⟩
    have hadd := fun W => add_run (P := Try.prog) 23 hfm.1 hfm.2 W
    have hl1 := le_pos hfm.1
    have hl2 := lt_ge hfm.2
    cases h1 : posB up
    · rw [h1] at hl1
      have HB := Lib.hid (show wkB up dn bar = false by unfold wkB abvB; rw [h1]; simp)
      clear hf hfm hl2 h1 hadd
      go_enter Try.func75, Try.ntmps75
      go_wp2_with fail
      refine (imFins_any _ _ _ [up, dn] _ (HP.out _ _ (by simp)) (by omega)).mono ?_
      rw [HF.out]
      rintro e w' ⟨m, rfl, rfl⟩
      go_wp2
      refine bodyPost_ret (v := .tuple #[.agg #[.float .f32 0, .float .f32 0, .int .i64 0], .bool false]) ?_ rfl ⟨by rw [HB.out]; rfl, ?_⟩
      · simp only [results, hres]
        go_simp
      · exact (((HBl.out _ _).setCell (Nat.le_refl _) _).setCell (Nat.le_refl _) _).setCell (Nat.le_refl _) _
    · rw [h1] at hl1
      cases h2 : geB dn
      · rw [h2] at hl2
        have HB := Lib.hid (show wkB up dn bar = false by unfold wkB leaB; rw [h2]; simp)
        clear hf hfm h1 h2 hadd
        go_enter Try.func75, Try.ntmps75
        go_wp2_with fail
        refine (imFins_any _ _ _ [up, dn] _ (HP.out _ _ (by simp)) (by omega)).mono ?_
        rw [HF.out]
        rintro e w' ⟨m, rfl, rfl⟩
        go_wp2
        refine bodyPost_ret (v := .tuple #[.agg #[.float .f32 0, .float .f32 0, .int .i64 0], .bool false]) ?_ rfl ⟨by rw [HB.out]; rfl, ?_⟩
        · simp only [results, hres]
          go_simp
        · exact (((HBl.out _ _).setCell (Nat.le_refl _) _).setCell (Nat.le_refl _) _).setCell (Nat.le_refl _) _
      · rw [h2] at hl2
        cases hg : gt1B (aop .add .f32 up dn)
        · have ho : ((FloatKind.format .f32).order (aop .add .f32 up dn) 1065353216 == some Ordering.gt) = false := hg
          have HG := Lib.hid (show wkB up dn bar = decide (1 ≤ bar ∧ bar ≤ 16) by unfold wkB abvB leaB; rw [hfm.1, hfm.2, h1, h2, hg]; rfl)
          clear hf hfm h1 h2 hg
          generalize aop .add .f32 up dn = s at *
          by_cases c1 : bar < 1
          · have d1 : decide (bar < (1 : Int)) = true := decide_eq_true c1
            have HB := Lib.hid (HG.out.trans (decide_eq_false (by omega)))
            clear HG
            go_enter Try.func75, Try.ntmps75
            go_wp2_with fail
            refine (imFins_any _ _ _ [up, dn] _ (HP.out _ _ (by simp)) (by omega)).mono ?_
            rw [HF.out]
            rintro e w' ⟨m, rfl, rfl⟩
            go_wp2
            refine bodyPost_ret (v := .tuple #[.agg #[.float .f32 0, .float .f32 0, .int .i64 0], .bool false]) ?_ rfl ⟨by rw [HB.out]; rfl, ?_⟩
            · simp only [results, hres]
              go_simp
            · exact (((HBl.out _ _).setCell (Nat.le_refl _) _).setCell (Nat.le_refl _) _).setCell (Nat.le_refl _) _
          · have d1 : decide (bar < (1 : Int)) = false := decide_eq_false c1
            by_cases c2 : 16 < bar
            · have d2 : decide (16 < bar) = true := decide_eq_true c2
              have HB := Lib.hid (HG.out.trans (decide_eq_false (by omega)))
              clear HG
              go_enter Try.func75, Try.ntmps75
              go_wp2_with fail
              refine (imFins_any _ _ _ [up, dn] _ (HP.out _ _ (by simp)) (by omega)).mono ?_
              rw [HF.out]
              rintro e w' ⟨m, rfl, rfl⟩
              go_wp2
              refine bodyPost_ret (v := .tuple #[.agg #[.float .f32 0, .float .f32 0, .int .i64 0], .bool false]) ?_ rfl ⟨by rw [HB.out]; rfl, ?_⟩
              · simp only [results, hres]
                go_simp
              · exact (((HBl.out _ _).setCell (Nat.le_refl _) _).setCell (Nat.le_refl _) _).setCell (Nat.le_refl _) _
            · have d2 : decide (16 < bar) = false := decide_eq_false c2
              have HB := Lib.hid (HG.out.trans (decide_eq_true (by omega)))
              clear HG
              go_enter Try.func75, Try.ntmps75
              go_wp2_with fail
              refine (imFins_any _ _ _ [up, dn] _ (HP.out _ _ (by simp)) (by omega)).mono ?_
              rw [HF.out]
              rintro e w' ⟨m, rfl, rfl⟩
              go_wp2
              refine bodyPost_ret (v := .tuple #[.agg #[.float .f32 up, .float .f32 dn, .int .i64 bar], .bool true]) ?_ rfl ⟨by rw [HB.out]; rfl, ?_⟩
              · simp only [results, hres]
                go_simp
              · exact (((HBl.out _ _).setCell (Nat.le_refl _) _).setCell (Nat.le_refl _) _).setCell (Nat.le_refl _) _
        · have ho : ((FloatKind.format .f32).order (aop .add .f32 up dn) 1065353216 == some Ordering.gt) = true := hg
          have HB := Lib.hid (show wkB up dn bar = false by unfold wkB; rw [hg]; simp)
          clear hf hfm h1 h2 hg
          generalize aop .add .f32 up dn = s at *
          go_enter Try.func75, Try.ntmps75
          go_wp2_with fail
          refine (imFins_any _ _ _ [up, dn] _ (HP.out _ _ (by simp)) (by omega)).mono ?_
          rw [HF.out]
          rintro e w' ⟨m, rfl, rfl⟩
          go_wp2
          refine bodyPost_ret (v := .tuple #[.agg #[.float .f32 0, .float .f32 0, .int .i64 0], .bool false]) ?_ rfl ⟨by rw [HB.out]; rfl, ?_⟩
          · simp only [results, hres]
            go_simp
          · exact (((HBl.out _ _).setCell (Nat.le_refl _) _).setCell (Nat.le_refl _) _).setCell (Nat.le_refl _) _
end Go.Proofs.Ytpaelafopjmklaa
