/-
  Levels and trends: valid or not, in both packages; the law's copies.
-/
import Derived.Test.YtldaamgohdnjnaaNum
import Derived.Test.YtldaamgohdnjnaaFnn
import Derived.Test.YtldaamgohdnjnaaSam
import Derived.Deep.QuietTactic
import Derived.BigQuiet
import Derived.Laws.Cover2
namespace Go.Proofs.Ytldaamgohdnjnaa
open Ieee Go.RowKit
set_option linter.unusedVariables false

/-- It is valid. -/
def lvB (a b c d : Nat) : Bool := fins [a, b, c, d] && (geB b && (posB c && (geB d)))
theorem lvB_spec (a b c d : Nat) : lvB a b c d = (fin .f32 a && (leaB b && (abvB c && (leaB d)))) := by
  unfold lvB fins leaB abvB
  simp only [List.all_cons, List.all_nil]
  generalize fin .f32 a = ga
  generalize fin .f32 b = gb
  generalize fin .f32 c = gc
  generalize fin .f32 d = gd
  generalize geB b = hb
  generalize posB c = hc
  generalize geB d = hd
  cases ga <;> cases gb <;> cases gc <;> cases gd <;> simp
theorem lvB_congr {a b c d a' b' c' d' : Nat} (ea : cn .f32 a = cn .f32 a') (eb : cn .f32 b = cn .f32 b') (ec : cn .f32 c = cn .f32 c') (ed : cn .f32 d = cn .f32 d') : lvB a b c d = lvB a' b' c' d' := by
  rw [lvB_spec, lvB_spec, fin_congr ea, leaB_congr eb, abvB_congr ec, leaB_congr ed]
theorem lvB_fins {a b c d : Nat} (h : lvB a b c d = true) : fins [a, b, c, d] = true := by unfold lvB at h; exact (Bool.and_eq_true _ _ ▸ h).1
set_option maxHeartbeats 1000000 in
theorem splv_any (p a b c d : Nat) (w : World) (h : NumsIn w p [a, b, c, d]) : Calls Try.prog 81 #[.pointer (some ⟨p, 0, none⟩)] w (RetV (.bool (lvB a b c d)) w) := by
  rw [lvB_spec]
  obtain ⟨ca, cb, cc, cd⟩ := h.c4
  clear h
  cases qa : fin .f32 a
  · skip
    have Qa := Lib.hid qa
    clear qa
    go_enter Try.func81, Try.ntmps81
    go_wp2_with fail
    refine (l01Finite_any _ _).mono ?_
    rw [Qa.out]
    rintro e w' ⟨m, rfl, rfl⟩
    go_wp2
    go_ret
    exact ⟨_, by first | rfl | (simp only [Qa.out]; rfl), rfl⟩
  · skip
    cases qb : leaB b
    · skip
      have Qa := Lib.hid qa
      have Qb := Lib.hid qb
      clear qa qb
      go_enter Try.func81, Try.ntmps81
      go_wp2_with fail
      refine (l01Finite_any _ _).mono ?_
      rw [Qa.out]
      rintro e w' ⟨m, rfl, rfl⟩
      go_wp2_with fail
      refine (lea_any _ _).mono ?_
      rw [Qb.out]
      rintro e w' ⟨m, rfl, rfl⟩
      go_wp2
      go_ret
      exact ⟨_, by first | rfl | (simp only [Qa.out, Qb.out]; rfl), rfl⟩
    · skip
      cases qc : abvB c
      · skip
        have Qa := Lib.hid qa
        have Qb := Lib.hid qb
        have Qc := Lib.hid qc
        clear qa qb qc
        go_enter Try.func81, Try.ntmps81
        go_wp2_with fail
        refine (l01Finite_any _ _).mono ?_
        rw [Qa.out]
        rintro e w' ⟨m, rfl, rfl⟩
        go_wp2_with fail
        refine (lea_any _ _).mono ?_
        rw [Qb.out]
        rintro e w' ⟨m, rfl, rfl⟩
        go_wp2_with fail
        refine (abv_any _ _).mono ?_
        rw [Qc.out]
        rintro e w' ⟨m, rfl, rfl⟩
        go_wp2
        go_ret
        exact ⟨_, by first | rfl | (simp only [Qa.out, Qb.out, Qc.out]; rfl), rfl⟩
      · skip
        cases qd : leaB d
        · skip
          have Qa := Lib.hid qa
          have Qb := Lib.hid qb
          have Qc := Lib.hid qc
          have Qd := Lib.hid qd
          clear qa qb qc qd
          go_enter Try.func81, Try.ntmps81
          go_wp2_with fail
          refine (l01Finite_any _ _).mono ?_
          rw [Qa.out]
          rintro e w' ⟨m, rfl, rfl⟩
          go_wp2_with fail
          refine (lea_any _ _).mono ?_
          rw [Qb.out]
          rintro e w' ⟨m, rfl, rfl⟩
          go_wp2_with fail
          refine (abv_any _ _).mono ?_
          rw [Qc.out]
          rintro e w' ⟨m, rfl, rfl⟩
          go_wp2_with fail
          refine (lea_any _ _).mono ?_
          rw [Qd.out]
          rintro e w' ⟨m, rfl, rfl⟩
          go_wp2
          go_ret
          exact ⟨_, by first | rfl | (simp only [Qa.out, Qb.out, Qc.out, Qd.out]; rfl), rfl⟩
        · skip
          have Qa := Lib.hid qa
          have Qb := Lib.hid qb
          have Qc := Lib.hid qc
          have Qd := Lib.hid qd
          clear qa qb qc qd
          go_enter Try.func81, Try.ntmps81
          go_wp2_with fail
          refine (l01Finite_any _ _).mono ?_
          rw [Qa.out]
          rintro e w' ⟨m, rfl, rfl⟩
          go_wp2_with fail
          refine (lea_any _ _).mono ?_
          rw [Qb.out]
          rintro e w' ⟨m, rfl, rfl⟩
          go_wp2_with fail
          refine (abv_any _ _).mono ?_
          rw [Qc.out]
          rintro e w' ⟨m, rfl, rfl⟩
          go_wp2_with fail
          refine (lea_any _ _).mono ?_
          rw [Qd.out]
          rintro e w' ⟨m, rfl, rfl⟩
          go_wp2
          go_ret
          exact ⟨_, by first | rfl | (simp only [Qa.out, Qb.out, Qc.out, Qd.out]; rfl), rfl⟩
set_option maxHeartbeats 1000000 in
theorem imVlv_any (a b c d : Nat) (w : World) : Calls Try.prog 134 #[.agg #[.float .f32 a, .float .f32 b, .float .f32 c, .float .f32 d]] w fun e w' => e = .returned (.bool (lvB a b c d)) ∧ Below w.heap.size w w' := by
  have HN := Lib.hid ((NumsIn.newAt (w.alloc (.cells #[.float .f32 a, .float .f32 b, .float .f32 c, .float .f32 d] 41)) [a, b, c, d] 32 (p := w.heap.size + 1) (by simp)).fsl (n := 4) rfl)
  have G := Lib.hid (((Below.refl w.heap.size w).alloc (Nat.le_refl _) (.cells #[.float .f32 a, .float .f32 b, .float .f32 c, .float .f32 d] 41)).alloc (by simp) (.cells #[.float .f32 a, .float .f32 b, .float .f32 c, .float .f32 d] 32))
  have hB : lvB a b c d = (fins [a, b, c, d] && (geB b && (posB c && (geB d)))) := rfl
  cases qz : fins [a, b, c, d]
  · skip
    have QZ := Lib.hid qz
    have HB := Lib.hid (show lvB a b c d = false by rw [hB, qz]; rfl)
    clear qz hB
    go_enter Try.func134, Try.ntmps134
    go_wp2_with fail
    refine (imFins_any _ _ _ _ _ HN.out (by omega)).mono ?_
    rw [QZ.out]
    rintro e w' ⟨m, rfl, rfl⟩
    go_wp2
    go_ret
    exact ⟨by rw [HB.out]; rfl, below_drewN G.out _⟩
  · skip
    cases qb : geB b
    · skip
      have QZ := Lib.hid qz
      have HB := Lib.hid (show lvB a b c d = false by rw [hB, qz, qb]; rfl)
      clear qz hB
      have rb : ((FloatKind.format .f32).order b 0 == some Ordering.gt || (FloatKind.format .f32).order b 0 == some Ordering.eq) = false := qb
      clear qb
      go_enter Try.func134, Try.ntmps134
      go_wp2_with fail
      refine (imFins_any _ _ _ _ _ HN.out (by omega)).mono ?_
      rw [QZ.out]
      rintro e w' ⟨m, rfl, rfl⟩
      go_wp2
      go_ret
      exact ⟨by rw [HB.out]; rfl, below_drewN G.out _⟩
    · skip
      cases qc : posB c
      · skip
        have QZ := Lib.hid qz
        have HB := Lib.hid (show lvB a b c d = false by rw [hB, qz, qb, qc]; rfl)
        clear qz hB
        have rb : ((FloatKind.format .f32).order b 0 == some Ordering.gt || (FloatKind.format .f32).order b 0 == some Ordering.eq) = true := qb
        have rc : ((FloatKind.format .f32).order c 0 == some Ordering.gt) = false := qc
        clear qb qc
        go_enter Try.func134, Try.ntmps134
        go_wp2_with fail
        refine (imFins_any _ _ _ _ _ HN.out (by omega)).mono ?_
        rw [QZ.out]
        rintro e w' ⟨m, rfl, rfl⟩
        go_wp2
        go_ret
        exact ⟨by rw [HB.out]; rfl, below_drewN G.out _⟩
      · skip
        cases qd : geB d
        · skip
          have QZ := Lib.hid qz
          have HB := Lib.hid (show lvB a b c d = false by rw [hB, qz, qb, qc, qd]; rfl)
          clear qz hB
          have rb : ((FloatKind.format .f32).order b 0 == some Ordering.gt || (FloatKind.format .f32).order b 0 == some Ordering.eq) = true := qb
          have rc : ((FloatKind.format .f32).order c 0 == some Ordering.gt) = true := qc
          have rd : ((FloatKind.format .f32).order d 0 == some Ordering.gt || (FloatKind.format .f32).order d 0 == some Ordering.eq) = false := qd
          clear qb qc qd
          go_enter Try.func134, Try.ntmps134
          go_wp2_with fail
          refine (imFins_any _ _ _ _ _ HN.out (by omega)).mono ?_
          rw [QZ.out]
          rintro e w' ⟨m, rfl, rfl⟩
          go_wp2
          go_ret
          exact ⟨by rw [HB.out]; rfl, below_drewN G.out _⟩
        · skip
          have QZ := Lib.hid qz
          have HB := Lib.hid (show lvB a b c d = true by rw [hB, qz, qb, qc, qd]; rfl)
          clear qz hB
          have rb : ((FloatKind.format .f32).order b 0 == some Ordering.gt || (FloatKind.format .f32).order b 0 == some Ordering.eq) = true := qb
          have rc : ((FloatKind.format .f32).order c 0 == some Ordering.gt) = true := qc
          have rd : ((FloatKind.format .f32).order d 0 == some Ordering.gt || (FloatKind.format .f32).order d 0 == some Ordering.eq) = true := qd
          clear qb qc qd
          go_enter Try.func134, Try.ntmps134
          go_wp2_with fail
          refine (imFins_any _ _ _ _ _ HN.out (by omega)).mono ?_
          rw [QZ.out]
          rintro e w' ⟨m, rfl, rfl⟩
          go_wp2
          go_ret
          exact ⟨by rw [HB.out]; rfl, below_drewN G.out _⟩
theorem tolv_any (a b c d : Nat) (w : World) : Calls Try.prog 27 #[.agg #[.float .f32 a, .float .f32 b, .float .f32 c, .float .f32 d]] w fun e w' => e = .returned (.agg #[.float .f32 a, .float .f32 b, .float .f32 c, .float .f32 d]) ∧ Below w.heap.size w w' := by
  go_enter Try.func27, Try.ntmps27
  go_wp2
  refine bodyPost_ret (v := .agg #[.float .f32 a, .float .f32 b, .float .f32 c, .float .f32 d]) ?_ rfl ⟨rfl, ?_⟩
  · have hres : Try.f27.results = #[.cell 2 41] := by kernel_rfl
    simp only [results, hres]
    go_simp
  · first | exact (((Below.refl _ _).alloc (Nat.le_refl _) _).alloc (by simp) _).alloc (by simp; omega) _ | (go_simp; exact (((Below.refl _ _).alloc (Nat.le_refl _) _).alloc (by simp) _).alloc (by simp; omega) _)
/-- It is valid. -/
def tnB (a b c d s t u v : Nat) : Bool := fins [a, b, c, d, s, t, u, v] && (geB c && (geB s && (posB t && (geB u && (geB v)))))
theorem tnB_spec (a b c d s t u v : Nat) : tnB a b c d s t u v = (fin .f32 a && (fin .f32 b && (leaB c && (fin .f32 d && (leaB s && (abvB t && (leaB u && (leaB v)))))))) := by
  unfold tnB fins leaB abvB
  simp only [List.all_cons, List.all_nil]
  generalize fin .f32 a = ga
  generalize fin .f32 b = gb
  generalize fin .f32 c = gc
  generalize fin .f32 d = gd
  generalize fin .f32 s = gs
  generalize fin .f32 t = gt
  generalize fin .f32 u = gu
  generalize fin .f32 v = gv
  generalize geB c = hc
  generalize geB s = hs
  generalize posB t = ht
  generalize geB u = hu
  generalize geB v = hv
  cases ga <;> cases gb <;> cases gc <;> cases gd <;> cases gs <;> cases gt <;> cases gu <;> cases gv <;> simp
theorem tnB_congr {a b c d s t u v a' b' c' d' s' t' u' v' : Nat} (ea : cn .f32 a = cn .f32 a') (eb : cn .f32 b = cn .f32 b') (ec : cn .f32 c = cn .f32 c') (ed : cn .f32 d = cn .f32 d') (es : cn .f32 s = cn .f32 s') (et : cn .f32 t = cn .f32 t') (eu : cn .f32 u = cn .f32 u') (ev : cn .f32 v = cn .f32 v') : tnB a b c d s t u v = tnB a' b' c' d' s' t' u' v' := by
  rw [tnB_spec, tnB_spec, fin_congr ea, fin_congr eb, leaB_congr ec, fin_congr ed, leaB_congr es, abvB_congr et, leaB_congr eu, leaB_congr ev]
theorem tnB_fins {a b c d s t u v : Nat} (h : tnB a b c d s t u v = true) : fins [a, b, c, d, s, t, u, v] = true := by unfold tnB at h; exact (Bool.and_eq_true _ _ ▸ h).1
set_option maxHeartbeats 1000000 in
theorem sptn_any (p a b c d s t u v : Nat) (w : World) (h : NumsIn w p [a, b, c, d, s, t, u, v]) : Calls Try.prog 90 #[.pointer (some ⟨p, 0, none⟩)] w (RetV (.bool (tnB a b c d s t u v)) w) := by
  rw [tnB_spec]
  obtain ⟨ca, cb, cc, cd, cs, ct, cu, cv⟩ := h.c8
  clear h
  cases qa : fin .f32 a
  · skip
    have Qa := Lib.hid qa
    clear qa
    go_enter Try.func90, Try.ntmps90
    go_wp2_with fail
    refine (l01Finite_any _ _).mono ?_
    rw [Qa.out]
    rintro e w' ⟨m, rfl, rfl⟩
    go_wp2
    go_ret
    exact ⟨_, by first | rfl | (simp only [Qa.out]; rfl), rfl⟩
  · skip
    cases qb : fin .f32 b
    · skip
      have Qa := Lib.hid qa
      have Qb := Lib.hid qb
      clear qa qb
      go_enter Try.func90, Try.ntmps90
      go_wp2_with fail
      refine (l01Finite_any _ _).mono ?_
      rw [Qa.out]
      rintro e w' ⟨m, rfl, rfl⟩
      go_wp2_with fail
      refine (l01Finite_any _ _).mono ?_
      rw [Qb.out]
      rintro e w' ⟨m, rfl, rfl⟩
      go_wp2
      go_ret
      exact ⟨_, by first | rfl | (simp only [Qa.out, Qb.out]; rfl), rfl⟩
    · skip
      cases qc : leaB c
      · skip
        have Qa := Lib.hid qa
        have Qb := Lib.hid qb
        have Qc := Lib.hid qc
        clear qa qb qc
        go_enter Try.func90, Try.ntmps90
        go_wp2_with fail
        refine (l01Finite_any _ _).mono ?_
        rw [Qa.out]
        rintro e w' ⟨m, rfl, rfl⟩
        go_wp2_with fail
        refine (l01Finite_any _ _).mono ?_
        rw [Qb.out]
        rintro e w' ⟨m, rfl, rfl⟩
        go_wp2_with fail
        refine (lea_any _ _).mono ?_
        rw [Qc.out]
        rintro e w' ⟨m, rfl, rfl⟩
        go_wp2
        go_ret
        exact ⟨_, by first | rfl | (simp only [Qa.out, Qb.out, Qc.out]; rfl), rfl⟩
      · skip
        cases qd : fin .f32 d
        · skip
          have Qa := Lib.hid qa
          have Qb := Lib.hid qb
          have Qc := Lib.hid qc
          have Qd := Lib.hid qd
          clear qa qb qc qd
          go_enter Try.func90, Try.ntmps90
          go_wp2_with fail
          refine (l01Finite_any _ _).mono ?_
          rw [Qa.out]
          rintro e w' ⟨m, rfl, rfl⟩
          go_wp2_with fail
          refine (l01Finite_any _ _).mono ?_
          rw [Qb.out]
          rintro e w' ⟨m, rfl, rfl⟩
          go_wp2_with fail
          refine (lea_any _ _).mono ?_
          rw [Qc.out]
          rintro e w' ⟨m, rfl, rfl⟩
          go_wp2_with fail
          refine (l01Finite_any _ _).mono ?_
          rw [Qd.out]
          rintro e w' ⟨m, rfl, rfl⟩
          go_wp2
          go_ret
          exact ⟨_, by first | rfl | (simp only [Qa.out, Qb.out, Qc.out, Qd.out]; rfl), rfl⟩
        · skip
          cases qs : leaB s
          · skip
            have Qa := Lib.hid qa
            have Qb := Lib.hid qb
            have Qc := Lib.hid qc
            have Qd := Lib.hid qd
            have Qs := Lib.hid qs
            clear qa qb qc qd qs
            go_enter Try.func90, Try.ntmps90
            go_wp2_with fail
            refine (l01Finite_any _ _).mono ?_
            rw [Qa.out]
            rintro e w' ⟨m, rfl, rfl⟩
            go_wp2_with fail
            refine (l01Finite_any _ _).mono ?_
            rw [Qb.out]
            rintro e w' ⟨m, rfl, rfl⟩
            go_wp2_with fail
            refine (lea_any _ _).mono ?_
            rw [Qc.out]
            rintro e w' ⟨m, rfl, rfl⟩
            go_wp2_with fail
            refine (l01Finite_any _ _).mono ?_
            rw [Qd.out]
            rintro e w' ⟨m, rfl, rfl⟩
            go_wp2_with fail
            refine (lea_any _ _).mono ?_
            rw [Qs.out]
            rintro e w' ⟨m, rfl, rfl⟩
            go_wp2
            go_ret
            exact ⟨_, by first | rfl | (simp only [Qa.out, Qb.out, Qc.out, Qd.out, Qs.out]; rfl), rfl⟩
          · skip
            cases qt : abvB t
            · skip
              have Qa := Lib.hid qa
              have Qb := Lib.hid qb
              have Qc := Lib.hid qc
              have Qd := Lib.hid qd
              have Qs := Lib.hid qs
              have Qt := Lib.hid qt
              clear qa qb qc qd qs qt
              go_enter Try.func90, Try.ntmps90
              go_wp2_with fail
              refine (l01Finite_any _ _).mono ?_
              rw [Qa.out]
              rintro e w' ⟨m, rfl, rfl⟩
              go_wp2_with fail
              refine (l01Finite_any _ _).mono ?_
              rw [Qb.out]
              rintro e w' ⟨m, rfl, rfl⟩
              go_wp2_with fail
              refine (lea_any _ _).mono ?_
              rw [Qc.out]
              rintro e w' ⟨m, rfl, rfl⟩
              go_wp2_with fail
              refine (l01Finite_any _ _).mono ?_
              rw [Qd.out]
              rintro e w' ⟨m, rfl, rfl⟩
              go_wp2_with fail
              refine (lea_any _ _).mono ?_
              rw [Qs.out]
              rintro e w' ⟨m, rfl, rfl⟩
              go_wp2_with fail
              refine (abv_any _ _).mono ?_
              rw [Qt.out]
              rintro e w' ⟨m, rfl, rfl⟩
              go_wp2
              go_ret
              exact ⟨_, by first | rfl | (simp only [Qa.out, Qb.out, Qc.out, Qd.out, Qs.out, Qt.out]; rfl), rfl⟩
            · skip
              cases qu : leaB u
              · skip
                have Qa := Lib.hid qa
                have Qb := Lib.hid qb
                have Qc := Lib.hid qc
                have Qd := Lib.hid qd
                have Qs := Lib.hid qs
                have Qt := Lib.hid qt
                have Qu := Lib.hid qu
                clear qa qb qc qd qs qt qu
                go_enter Try.func90, Try.ntmps90
                go_wp2_with fail
                refine (l01Finite_any _ _).mono ?_
                rw [Qa.out]
                rintro e w' ⟨m, rfl, rfl⟩
                go_wp2_with fail
                refine (l01Finite_any _ _).mono ?_
                rw [Qb.out]
                rintro e w' ⟨m, rfl, rfl⟩
                go_wp2_with fail
                refine (lea_any _ _).mono ?_
                rw [Qc.out]
                rintro e w' ⟨m, rfl, rfl⟩
                go_wp2_with fail
                refine (l01Finite_any _ _).mono ?_
                rw [Qd.out]
                rintro e w' ⟨m, rfl, rfl⟩
                go_wp2_with fail
                refine (lea_any _ _).mono ?_
                rw [Qs.out]
                rintro e w' ⟨m, rfl, rfl⟩
                go_wp2_with fail
                refine (abv_any _ _).mono ?_
                rw [Qt.out]
                rintro e w' ⟨m, rfl, rfl⟩
                go_wp2_with fail
                refine (lea_any _ _).mono ?_
                rw [Qu.out]
                rintro e w' ⟨m, rfl, rfl⟩
                go_wp2
                go_ret
                exact ⟨_, by first | rfl | (simp only [Qa.out, Qb.out, Qc.out, Qd.out, Qs.out, Qt.out, Qu.out]; rfl), rfl⟩
              · skip
                cases qv : leaB v
                · skip
                  have Qa := Lib.hid qa
                  have Qb := Lib.hid qb
                  have Qc := Lib.hid qc
                  have Qd := Lib.hid qd
                  have Qs := Lib.hid qs
                  have Qt := Lib.hid qt
                  have Qu := Lib.hid qu
                  have Qv := Lib.hid qv
                  clear qa qb qc qd qs qt qu qv
                  go_enter Try.func90, Try.ntmps90
                  go_wp2_with fail
                  refine (l01Finite_any _ _).mono ?_
                  rw [Qa.out]
                  rintro e w' ⟨m, rfl, rfl⟩
                  go_wp2_with fail
                  refine (l01Finite_any _ _).mono ?_
                  rw [Qb.out]
                  rintro e w' ⟨m, rfl, rfl⟩
                  go_wp2_with fail
                  refine (lea_any _ _).mono ?_
                  rw [Qc.out]
                  rintro e w' ⟨m, rfl, rfl⟩
                  go_wp2_with fail
                  refine (l01Finite_any _ _).mono ?_
                  rw [Qd.out]
                  rintro e w' ⟨m, rfl, rfl⟩
                  go_wp2_with fail
                  refine (lea_any _ _).mono ?_
                  rw [Qs.out]
                  rintro e w' ⟨m, rfl, rfl⟩
                  go_wp2_with fail
                  refine (abv_any _ _).mono ?_
                  rw [Qt.out]
                  rintro e w' ⟨m, rfl, rfl⟩
                  go_wp2_with fail
                  refine (lea_any _ _).mono ?_
                  rw [Qu.out]
                  rintro e w' ⟨m, rfl, rfl⟩
                  go_wp2_with fail
                  refine (lea_any _ _).mono ?_
                  rw [Qv.out]
                  rintro e w' ⟨m, rfl, rfl⟩
                  go_wp2
                  go_ret
                  exact ⟨_, by first | rfl | (simp only [Qa.out, Qb.out, Qc.out, Qd.out, Qs.out, Qt.out, Qu.out, Qv.out]; rfl), rfl⟩
                · skip
                  have Qa := Lib.hid qa
                  have Qb := Lib.hid qb
                  have Qc := Lib.hid qc
                  have Qd := Lib.hid qd
                  have Qs := Lib.hid qs
                  have Qt := Lib.hid qt
                  have Qu := Lib.hid qu
                  have Qv := Lib.hid qv
                  clear qa qb qc qd qs qt qu qv
                  go_enter Try.func90, Try.ntmps90
                  go_wp2_with fail
                  refine (l01Finite_any _ _).mono ?_
                  rw [Qa.out]
                  rintro e w' ⟨m, rfl, rfl⟩
                  go_wp2_with fail
                  refine (l01Finite_any _ _).mono ?_
                  rw [Qb.out]
                  rintro e w' ⟨m, rfl, rfl⟩
                  go_wp2_with fail
                  refine (lea_any _ _).mono ?_
                  rw [Qc.out]
                  rintro e w' ⟨m, rfl, rfl⟩
                  go_wp2_with fail
                  refine (l01Finite_any _ _).mono ?_
                  rw [Qd.out]
                  rintro e w' ⟨m, rfl, rfl⟩
                  go_wp2_with fail
                  refine (lea_any _ _).mono ?_
                  rw [Qs.out]
                  rintro e w' ⟨m, rfl, rfl⟩
                  go_wp2_with fail
                  refine (abv_any _ _).mono ?_
                  rw [Qt.out]
                  rintro e w' ⟨m, rfl, rfl⟩
                  go_wp2_with fail
                  refine (lea_any _ _).mono ?_
                  rw [Qu.out]
                  rintro e w' ⟨m, rfl, rfl⟩
                  go_wp2_with fail
                  refine (lea_any _ _).mono ?_
                  rw [Qv.out]
                  rintro e w' ⟨m, rfl, rfl⟩
                  go_wp2
                  go_ret
                  exact ⟨_, by first | rfl | (simp only [Qa.out, Qb.out, Qc.out, Qd.out, Qs.out, Qt.out, Qu.out, Qv.out]; rfl), rfl⟩
set_option maxHeartbeats 1000000 in
theorem imVtn_any (a b c d s t u v : Nat) (w : World) : Calls Try.prog 138 #[.agg #[.float .f32 a, .float .f32 b, .float .f32 c, .float .f32 d, .float .f32 s, .float .f32 t, .float .f32 u, .float .f32 v]] w fun e w' => e = .returned (.bool (tnB a b c d s t u v)) ∧ Below w.heap.size w w' := by
  have HN := Lib.hid ((NumsIn.newAt (w.alloc (.cells #[.float .f32 a, .float .f32 b, .float .f32 c, .float .f32 d, .float .f32 s, .float .f32 t, .float .f32 u, .float .f32 v] 53)) [a, b, c, d, s, t, u, v] 32 (p := w.heap.size + 1) (by simp)).fsl (n := 8) rfl)
  have G := Lib.hid (((Below.refl w.heap.size w).alloc (Nat.le_refl _) (.cells #[.float .f32 a, .float .f32 b, .float .f32 c, .float .f32 d, .float .f32 s, .float .f32 t, .float .f32 u, .float .f32 v] 53)).alloc (by simp) (.cells #[.float .f32 a, .float .f32 b, .float .f32 c, .float .f32 d, .float .f32 s, .float .f32 t, .float .f32 u, .float .f32 v] 32))
  have hB : tnB a b c d s t u v = (fins [a, b, c, d, s, t, u, v] && (geB c && (geB s && (posB t && (geB u && (geB v)))))) := rfl
  cases qz : fins [a, b, c, d, s, t, u, v]
  · skip
    have QZ := Lib.hid qz
    have HB := Lib.hid (show tnB a b c d s t u v = false by rw [hB, qz]; rfl)
    clear qz hB
    go_enter Try.func138, Try.ntmps138
    go_wp2_with fail
    refine (imFins_any _ _ _ _ _ HN.out (by omega)).mono ?_
    rw [QZ.out]
    rintro e w' ⟨m, rfl, rfl⟩
    go_wp2
    go_ret
    exact ⟨by rw [HB.out]; rfl, below_drewN G.out _⟩
  · skip
    cases qc : geB c
    · skip
      have QZ := Lib.hid qz
      have HB := Lib.hid (show tnB a b c d s t u v = false by rw [hB, qz, qc]; rfl)
      clear qz hB
      have rc : ((FloatKind.format .f32).order c 0 == some Ordering.gt || (FloatKind.format .f32).order c 0 == some Ordering.eq) = false := qc
      clear qc
      go_enter Try.func138, Try.ntmps138
      go_wp2_with fail
      refine (imFins_any _ _ _ _ _ HN.out (by omega)).mono ?_
      rw [QZ.out]
      rintro e w' ⟨m, rfl, rfl⟩
      go_wp2
      go_ret
      exact ⟨by rw [HB.out]; rfl, below_drewN G.out _⟩
    · skip
      cases qs : geB s
      · skip
        have QZ := Lib.hid qz
        have HB := Lib.hid (show tnB a b c d s t u v = false by rw [hB, qz, qc, qs]; rfl)
        clear qz hB
        have rc : ((FloatKind.format .f32).order c 0 == some Ordering.gt || (FloatKind.format .f32).order c 0 == some Ordering.eq) = true := qc
        have rs : ((FloatKind.format .f32).order s 0 == some Ordering.gt || (FloatKind.format .f32).order s 0 == some Ordering.eq) = false := qs
        clear qc qs
        go_enter Try.func138, Try.ntmps138
        go_wp2_with fail
        refine (imFins_any _ _ _ _ _ HN.out (by omega)).mono ?_
        rw [QZ.out]
        rintro e w' ⟨m, rfl, rfl⟩
        go_wp2
        go_ret
        exact ⟨by rw [HB.out]; rfl, below_drewN G.out _⟩
      · skip
        cases qt : posB t
        · skip
          have QZ := Lib.hid qz
          have HB := Lib.hid (show tnB a b c d s t u v = false by rw [hB, qz, qc, qs, qt]; rfl)
          clear qz hB
          have rc : ((FloatKind.format .f32).order c 0 == some Ordering.gt || (FloatKind.format .f32).order c 0 == some Ordering.eq) = true := qc
          have rs : ((FloatKind.format .f32).order s 0 == some Ordering.gt || (FloatKind.format .f32).order s 0 == some Ordering.eq) = true := qs
          have rt : ((FloatKind.format .f32).order t 0 == some Ordering.gt) = false := qt
          clear qc qs qt
          go_enter Try.func138, Try.ntmps138
          go_wp2_with fail
          refine (imFins_any _ _ _ _ _ HN.out (by omega)).mono ?_
          rw [QZ.out]
          rintro e w' ⟨m, rfl, rfl⟩
          go_wp2
          go_ret
          exact ⟨by rw [HB.out]; rfl, below_drewN G.out _⟩
        · skip
          cases qu : geB u
          · skip
            have QZ := Lib.hid qz
            have HB := Lib.hid (show tnB a b c d s t u v = false by rw [hB, qz, qc, qs, qt, qu]; rfl)
            clear qz hB
            have rc : ((FloatKind.format .f32).order c 0 == some Ordering.gt || (FloatKind.format .f32).order c 0 == some Ordering.eq) = true := qc
            have rs : ((FloatKind.format .f32).order s 0 == some Ordering.gt || (FloatKind.format .f32).order s 0 == some Ordering.eq) = true := qs
            have rt : ((FloatKind.format .f32).order t 0 == some Ordering.gt) = true := qt
            have ru : ((FloatKind.format .f32).order u 0 == some Ordering.gt || (FloatKind.format .f32).order u 0 == some Ordering.eq) = false := qu
            clear qc qs qt qu
            go_enter Try.func138, Try.ntmps138
            go_wp2_with fail
            refine (imFins_any _ _ _ _ _ HN.out (by omega)).mono ?_
            rw [QZ.out]
            rintro e w' ⟨m, rfl, rfl⟩
            go_wp2
            go_ret
            exact ⟨by rw [HB.out]; rfl, below_drewN G.out _⟩
          · skip
            cases qv : geB v
            · skip
              have QZ := Lib.hid qz
              have HB := Lib.hid (show tnB a b c d s t u v = false by rw [hB, qz, qc, qs, qt, qu, qv]; rfl)
              clear qz hB
              have rc : ((FloatKind.format .f32).order c 0 == some Ordering.gt || (FloatKind.format .f32).order c 0 == some Ordering.eq) = true := qc
              have rs : ((FloatKind.format .f32).order s 0 == some Ordering.gt || (FloatKind.format .f32).order s 0 == some Ordering.eq) = true := qs
              have rt : ((FloatKind.format .f32).order t 0 == some Ordering.gt) = true := qt
              have ru : ((FloatKind.format .f32).order u 0 == some Ordering.gt || (FloatKind.format .f32).order u 0 == some Ordering.eq) = true := qu
              have rv : ((FloatKind.format .f32).order v 0 == some Ordering.gt || (FloatKind.format .f32).order v 0 == some Ordering.eq) = false := qv
              clear qc qs qt qu qv
              go_enter Try.func138, Try.ntmps138
              go_wp2_with fail
              refine (imFins_any _ _ _ _ _ HN.out (by omega)).mono ?_
              rw [QZ.out]
              rintro e w' ⟨m, rfl, rfl⟩
              go_wp2
              go_ret
              exact ⟨by rw [HB.out]; rfl, below_drewN G.out _⟩
            · skip
              have QZ := Lib.hid qz
              have HB := Lib.hid (show tnB a b c d s t u v = true by rw [hB, qz, qc, qs, qt, qu, qv]; rfl)
              clear qz hB
              have rc : ((FloatKind.format .f32).order c 0 == some Ordering.gt || (FloatKind.format .f32).order c 0 == some Ordering.eq) = true := qc
              have rs : ((FloatKind.format .f32).order s 0 == some Ordering.gt || (FloatKind.format .f32).order s 0 == some Ordering.eq) = true := qs
              have rt : ((FloatKind.format .f32).order t 0 == some Ordering.gt) = true := qt
              have ru : ((FloatKind.format .f32).order u 0 == some Ordering.gt || (FloatKind.format .f32).order u 0 == some Ordering.eq) = true := qu
              have rv : ((FloatKind.format .f32).order v 0 == some Ordering.gt || (FloatKind.format .f32).order v 0 == some Ordering.eq) = true := qv
              clear qc qs qt qu qv
              go_enter Try.func138, Try.ntmps138
              go_wp2_with fail
              refine (imFins_any _ _ _ _ _ HN.out (by omega)).mono ?_
              rw [QZ.out]
              rintro e w' ⟨m, rfl, rfl⟩
              go_wp2
              go_ret
              exact ⟨by rw [HB.out]; rfl, below_drewN G.out _⟩
theorem totn_any (a b c d s t u v : Nat) (w : World) : Calls Try.prog 36 #[.agg #[.float .f32 a, .float .f32 b, .float .f32 c, .float .f32 d, .float .f32 s, .float .f32 t, .float .f32 u, .float .f32 v]] w fun e w' => e = .returned (.agg #[.float .f32 a, .float .f32 b, .float .f32 c, .float .f32 d, .float .f32 s, .float .f32 t, .float .f32 u, .float .f32 v]) ∧ Below w.heap.size w w' := by
  go_enter Try.func36, Try.ntmps36
  go_wp2
  refine bodyPost_ret (v := .agg #[.float .f32 a, .float .f32 b, .float .f32 c, .float .f32 d, .float .f32 s, .float .f32 t, .float .f32 u, .float .f32 v]) ?_ rfl ⟨rfl, ?_⟩
  · have hres : Try.f36.results = #[.cell 2 53] := by kernel_rfl
    simp only [results, hres]
    go_simp
  · first | exact (((Below.refl _ _).alloc (Nat.le_refl _) _).alloc (by simp) _).alloc (by simp; omega) _ | (go_simp; exact (((Below.refl _ _).alloc (Nat.le_refl _) _).alloc (by simp) _).alloc (by simp; omega) _)
theorem eqtn_any (a b c d s t u v a' b' c' d' s' t' u' v' : Nat) (w : World) (ea : cn .f32 a = cn .f32 a') (eb : cn .f32 b = cn .f32 b') (ec : cn .f32 c = cn .f32 c') (ed : cn .f32 d = cn .f32 d') (es : cn .f32 s = cn .f32 s') (et : cn .f32 t = cn .f32 t') (eu : cn .f32 u = cn .f32 u') (ev : cn .f32 v = cn .f32 v') : Calls Try.prog 38 #[.agg #[.float .f32 a, .float .f32 b, .float .f32 c, .float .f32 d, .float .f32 s, .float .f32 t, .float .f32 u, .float .f32 v], .agg #[.float .f32 a', .float .f32 b', .float .f32 c', .float .f32 d', .float .f32 s', .float .f32 t', .float .f32 u', .float .f32 v']] w fun e w' => e = .returned (.bool true) ∧ Below w.heap.size w w' := by
  have G := Lib.hid (((Below.refl w.heap.size w).alloc (Nat.le_refl _) (.cells #[.float .f32 a, .float .f32 b, .float .f32 c, .float .f32 d, .float .f32 s, .float .f32 t, .float .f32 u, .float .f32 v] 53)).alloc (by simp) (.cells #[.float .f32 a', .float .f32 b', .float .f32 c', .float .f32 d', .float .f32 s', .float .f32 t', .float .f32 u', .float .f32 v'] 53))
  have Ea := Lib.hid ea
  have Eb := Lib.hid eb
  have Ec := Lib.hid ec
  have Ed := Lib.hid ed
  have Es := Lib.hid es
  have Et := Lib.hid et
  have Eu := Lib.hid eu
  have Ev := Lib.hid ev
  clear ea eb ec ed es et eu ev
  go_enter Try.func38, Try.ntmps38
  go_wp2_with fail
  refine (sameFloat_true _ _ _ (by rw [cn_wideR, cn_wideR, Ea.out])).mono ?_
  rintro e w' ⟨n0, rfl, rfl⟩
  go_wp2_with fail
  refine (sameFloat_true _ _ _ (by rw [cn_wideR, cn_wideR, Eb.out])).mono ?_
  rintro e w' ⟨n1, rfl, rfl⟩
  go_wp2_with fail
  refine (sameFloat_true _ _ _ (by rw [cn_wideR, cn_wideR, Ec.out])).mono ?_
  rintro e w' ⟨n2, rfl, rfl⟩
  go_wp2_with fail
  refine (sameFloat_true _ _ _ (by rw [cn_wideR, cn_wideR, Ed.out])).mono ?_
  rintro e w' ⟨n3, rfl, rfl⟩
  go_wp2_with fail
  refine (sameFloat_true _ _ _ (by rw [cn_wideR, cn_wideR, Es.out])).mono ?_
  rintro e w' ⟨n4, rfl, rfl⟩
  go_wp2_with fail
  refine (sameFloat_true _ _ _ (by rw [cn_wideR, cn_wideR, Et.out])).mono ?_
  rintro e w' ⟨n5, rfl, rfl⟩
  go_wp2_with fail
  refine (sameFloat_true _ _ _ (by rw [cn_wideR, cn_wideR, Eu.out])).mono ?_
  rintro e w' ⟨n6, rfl, rfl⟩
  go_wp2_with fail
  refine (sameFloat_true _ _ _ (by rw [cn_wideR, cn_wideR, Ev.out])).mono ?_
  rintro e w' ⟨n7, rfl, rfl⟩
  go_wp2
  go_ret
  exact ⟨rfl, below_drewN G.out _⟩
end Go.Proofs.Ytldaamgohdnjnaa
