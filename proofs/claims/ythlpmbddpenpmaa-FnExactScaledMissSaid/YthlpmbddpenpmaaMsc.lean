/-
  ScaledMiss, in both packages.
-/
import Derived.Test.YthlpmbddpenpmaaMsr
import Derived.Test.YthlpmbddpenpmaaRch
import Derived.Test.YthlpmbddpenpmaaCLag
namespace Go.Proofs.Ythlpmbddpenpmaa
open Ieee Go.RowKit
set_option linter.unusedVariables false

def scT (ds : List Nat) (i : Nat) : Nat := absF (cn .f32 (ds.getD i 0))
def scL (ds : List Nat) : List Nat := tells (scT ds) ds.length
def scQ (ps zs ys : List Nat) (q : Int) : Nat := aop .quo .f32 (msV tAbs zs ys) (mean32 (scL (lagR ps q)))
def scOk (ps zs ys : List Nat) (q : Int) : Bool := (msB tAbs zs ys && (lagOk ps q && abvB (mean32 (scL (lagR ps q))))) && fin .f32 (scQ ps zs ys q)
def scV (ps zs ys : List Nat) (q : Int) : Nat := if scOk ps zs ys q then scQ ps zs ys q else 0
theorem sc_bad {ps zs ys : List Nat} {q : Int} (h : (msB tAbs zs ys && (lagOk ps q && abvB (mean32 (scL (lagR ps q))))) = false) : scOk ps zs ys q = false ∧ scV ps zs ys q = 0 := by
  have : scOk ps zs ys q = false := by unfold scOk; rw [h]; rfl
  exact ⟨this, by unfold scV; rw [this]; rfl⟩
theorem sc_end {ps zs ys : List Nat} {q : Int} {r x : Nat} (hr : cn .f32 r = if fin .f32 x then cn .f32 x else 0) (hb : (msB tAbs zs ys && (lagOk ps q && abvB (mean32 (scL (lagR ps q))))) = true) (hx : cn .f32 x = scQ ps zs ys q) : cn .f32 r = scV ps zs ys q ∧ fin .f32 x = scOk ps zs ys q := by
  have hf : fin .f32 x = fin .f32 (scQ ps zs ys q) := fin_congr (hx.trans (cn_aop ..).symm)
  have hB : scOk ps zs ys q = fin .f32 (scQ ps zs ys q) := by unfold scOk; rw [hb]; rfl
  rw [hr, hf, hx, hB]
  unfold scV
  rw [hB]
  exact ⟨rfl, rfl⟩
theorem lag_none {ps : List Nat} {q : Int} (h : lagOk ps q = false) : lagR ps q = [] := by
  cases hb : lagB ps q
  · exact (lag_bad hb).2
  · obtain ⟨e1, e2⟩ := lag_good hb
    rw [e2]
    rw [e1] at h
    unfold lstR; rw [h]; rfl
theorem lag_some {ps : List Nat} {q : Int} (h : lagOk ps q = true) : 1 ≤ (lagR ps q).length ∧ (lagR ps q).length ≤ 96 ∧ fins (lagR ps q) = true := by
  have hb : lagB ps q = true := by
    cases hb : lagB ps q
    · rw [(lag_bad hb).1] at h; cases h
    · rfl
  obtain ⟨e1, e2⟩ := lag_good hb
  rw [e1] at h
  obtain ⟨_, h1, h2, h3⟩ := lagB_t hb
  have e3 : lagR ps q = lagL ps q := by rw [e2]; unfold lstR; rw [h]; rfl
  rw [e3]
  refine ⟨?_, ?_, h⟩
  · unfold lagL lagZ; rw [tells_len]; omega
  · unfold lagL lagZ; rw [tells_len]; omega
theorem sc_is (ps : List Nat) (q : Int) : (lagOk ps q && abvB (mean32 (scL (lagR ps q)))) = (meanB (lstR (scL (lagR ps q))) && posB (meanR (lstR (scL (lagR ps q))))) ∧ (meanB (lstR (scL (lagR ps q))) = true → meanR (lstR (scL (lagR ps q))) = mean32 (scL (lagR ps q)) ∧ fin .f32 (mean32 (scL (lagR ps q))) = true) := by
  cases h : lagOk ps q
  · have e := lag_none h
    rw [e]
    have : meanB (lstR (scL [])) = false := by
      have : lstR (scL []) = [] := by unfold lstR scL tells; simp
      rw [this]; simp [meanB, serB]
    rw [this]
    exact ⟨rfl, fun h => by cases h⟩
  · obtain ⟨h1, h2, h3⟩ := lag_some h
    obtain ⟨m1, m2⟩ := mt_is (xs := scL (lagR ps q)) (by unfold scL; rw [tells_len]; exact h1) (by unfold scL; rw [tells_len]; exact h2)
    rw [m1, m2]
    unfold abvB mtV mtB
    cases hf : fin .f32 (mean32 (scL (lagR ps q)))
    · exact ⟨rfl, fun h => by cases h⟩
    · exact ⟨rfl, fun _ => ⟨rfl, rfl⟩⟩
theorem scL_cnl {rs ds : List Nat} (h : cnl rs = ds) : scL rs = scL ds := by
  have hl : rs.length = ds.length := by rw [← cnl_len, h]
  unfold scL
  rw [hl]
  refine tells_congr fun k hk => ?_
  unfold scT
  rw [← h, cnl_at (by omega), cn_cn]
theorem scl1_any (bl B0 B k : Nat) (a : Option Addr) (len cap : Nat) (zs : List Nat) (wr : World) (h : BoxI bl a len cap zs wr) (hk : k < len) (hm : len ≤ 1048576) :
    Calls Try.prog 62 #[.int .i64 k, .pointer (some ⟨bl, 0, none⟩)] wr (Tells (scT zs) (fun _ => BoxI bl a len cap zs) B0 B k wr) := by
  have HI := Lib.hid h
  obtain ⟨hc, hb⟩ := h
  obtain ⟨b, off, rfl, _, hcs⟩ := hb (by omega)
  have hck := hcs k hk
  have HT := Lib.hid (show scT zs k = absF (cn .f32 (zs.getD k 0)) from rfl)
  clear hb hcs
  generalize zs.getD k 0 = z at *
  go_enter Try.func62, Try.ntmps62
  go_wp2_with fail
  refine (imAbs_any _ _).mono ?_
  rintro e w' ⟨r, n, hr, rfl, rfl⟩
  have HR := Lib.hid hr
  clear hr
  go_wp2
  go_ret
  exact Tells.quiet (I := fun _ => BoxI bl (some ⟨b, off, none⟩) len cap zs) (HR.out.trans HT.out.symm) HI.out
set_option maxHeartbeats 2000000 in
set_option maxRecDepth 100000 in
theorem imScaledMiss_any (a : Option Addr) (len cap : Nat) (ps : List Nat) (a' : Option Addr) (len' cap' : Nat) (zs : List Nat) (a'' : Option Addr) (len'' cap'' : Nat) (ys : List Nat) (q : Int) (w : World) (h : FSl w a len ps) (h' : FSl w a' len' zs) (h'' : FSl w a'' len'' ys) (hm : len ≤ 1048576) (hm' : len' ≤ 1048576) (hm'' : len'' ≤ 1048576) (hcap : len ≤ cap) (hcap2 : cap ≤ 1048576) :
    Calls Try.prog 27 #[.slice a len cap, .slice a' len' cap', .slice a'' len'' cap'', .int .i64 q] w (RetFBk (scV ps zs ys q) (scOk ps zs ys q) w.heap.size w) := by
  have hmf : ∀ (fn : Fn) (first cap : Array Value) (w : World), (Instr.makeFunc fn first cap).run Try.prog w = .ok (.func fn first cap) w := fun _ _ _ _ => rfl
  have H := Lib.hid h
  have H' := Lib.hid h'
  have H'' := Lib.hid h''
  clear h h' h''
  obtain ⟨is1, is2⟩ := sc_is ps q
  have IS1 := Lib.hid is1
  have IS2 := Lib.hid is2
  clear is1 is2
  go_enter Try.func27, Try.ntmps27
  go_wp2_with fail
  refine (imSizeMiss_any _ _ _ _ _ _ _ _ _ H'.out H''.out hm' hm'').mono ?_
  rintro e w1 ⟨r1, hr1, rfl, hb⟩
  have HR1 := Lib.hid hr1
  have G1 := Lib.hid hb
  have H1 := Lib.hid (FSl.below H.out hb)
  clear hr1 hb
  go_wp2_with fail
  refine (implLag_any _ _ _ _ _ _ H1.out hm hcap hcap2).mono ?_
  rintro e w2 ⟨v, rs, rfl, ho, hx, hb⟩
  obtain ⟨A, cp, rfl, hsl, _⟩ := ho.sl
  have G2 := Lib.hid (G1.out.trans (hb.mono G1.out.size))
  have HL := Lib.hid (scL_cnl hx)
  have hlr : rs.length ≤ 1048576 := by have := congrArg List.length hx; rw [cnl_len] at this; have := lagR_len ps q; omega
  have HX := Lib.hid (BoxI.start (cap := cp) (t := 22) hsl)
  have hc0 := HX.out.1
  have hsz : w.heap.size ≤ w2.heap.size := G2.out.size
  clear ho hx hb hsl
  go_wp2_with fail
  refine (meanTold_any 62 #[.pointer (some ⟨w2.heap.size, 0, none⟩)] (scT rs) (fun _ => BoxI w2.heap.size A rs.length cp rs) w.heap.size rs.length _ (enter_of Try.func62 (by kernel_rfl) rfl) hlr (by simp <;> omega) HX.out
    (fun k wr wr' h hb => h.keep (by simp) hb) (fun k => cn_absF _) (fun k wr hk hsz hI => scl1_any _ _ _ _ _ _ _ _ _ hI hk hlr)).mono ?_
  rintro e w3 ⟨r2, hr2, rfl, hb⟩
  have HE := Lib.hid (show tells (scT rs) rs.length = scL (lagR ps q) from HL.out)
  have HR2 := Lib.hid (show cn .f32 r2 = meanR (lstR (scL (lagR ps q))) by rw [hr2, HE.out])
  have G3 := Lib.hid ((G2.out.alloc (by omega) (.cells #[.slice A rs.length cp] 22)).trans hb)
  rw [HE.out]
  clear hr2 hb HX hc0
  cases hB : msB tAbs zs ys
  · have HB := Lib.hid (sc_bad (ps := ps) (q := q) (show (msB tAbs zs ys && _) = false by rw [hB]; rfl))
    clear hB
    go_wp2_with fail
    go_ret2
    exact ⟨0, by rw [HB.out.2]; exact cn_zero, by rw [HB.out.1]; rfl, G3.out⟩
  · cases hM : meanB (lstR (scL (lagR ps q)))
    · have HB := Lib.hid (sc_bad (ps := ps) (q := q) (show (msB tAbs zs ys && _) = false by rw [hB, IS1.out, hM]; rfl))
      clear hB hM
      go_wp2_with fail
      go_ret2
      exact ⟨0, by rw [HB.out.2]; exact cn_zero, by rw [HB.out.1]; rfl, G3.out⟩
    · obtain ⟨i1, i2⟩ := IS2.out hM
      have hfr : fin .f32 r2 = true := (fin_congr (by rw [HR2.out, i1, cn_mean])).trans i2
      have hle := le_pos hfr
      have hpp : posB r2 = posB (meanR (lstR (scL (lagR ps q)))) := posB_congr (by rw [HR2.out, i1, cn_mean])
      cases hP : posB (meanR (lstR (scL (lagR ps q))))
      · rw [hpp, hP] at hle
        have HB := Lib.hid (sc_bad (ps := ps) (q := q) (show (msB tAbs zs ys && _) = false by rw [hB, IS1.out, hM, hP]; rfl))
        clear hB hM hP hpp hfr i1 i2
        go_wp2_with fail
        go_ret2
        exact ⟨0, by rw [HB.out.2]; exact cn_zero, by rw [HB.out.1]; rfl, G3.out⟩
      · rw [hpp, hP] at hle
        have HB := Lib.hid (show (msB tAbs zs ys && (lagOk ps q && abvB (mean32 (scL (lagR ps q))))) = true by rw [hB, IS1.out, hM, hP]; rfl)
        have HI1 := Lib.hid i1
        clear hB hM hP hpp hfr i1 i2
        go_wp2_with fail
        refine (implOnly_any _ _).mono ?_
        rintro e w' ⟨r', n', hr', rfl, rfl⟩
        have W := Lib.hid (sc_end (ps := ps) (zs := zs) (ys := ys) (q := q) hr' HB.out (by rw [cn_fopR, HR1.out, HR2.out, HI1.out]; rfl))
        clear hr'
        go_wp2
        go_ret2
        exact ⟨r', W.out.1, by rw [← W.out.2]; rfl, below_drewN G3.out _⟩
set_option maxHeartbeats 2000000 in
theorem spScaledMiss_any (a : Option Addr) (len cap : Nat) (ps : List Nat) (a' : Option Addr) (len' cap' : Nat) (zs : List Nat) (a'' : Option Addr) (len'' cap'' : Nat) (ys : List Nat) (q : Int) (w : World) (h : FSl w a len ps) (h' : FSl w a' len' zs) (h'' : FSl w a'' len'' ys) (hm : len ≤ 1048576) (hm' : len' ≤ 1048576) (hm'' : len'' ≤ 1048576) (hcap : len ≤ cap) (hcap2 : cap ≤ 1048576) :
    Calls Try.prog 26 #[.slice a len cap, .slice a' len' cap', .slice a'' len'' cap'', .int .i64 q] w (RetFBk (scV ps zs ys q) (scOk ps zs ys q) w.heap.size w) := by
  have H := Lib.hid h
  have H' := Lib.hid h'
  have H'' := Lib.hid h''
  clear h h' h''
  go_enter Try.func26, Try.ntmps26
  go_wp2_with fail
  refine (spSizeMiss_any _ _ _ _ _ _ _ _ _ H'.out H''.out hm' hm'').mono ?_
  rintro e w1 ⟨r1, hr1, rfl, hb⟩
  have HR1 := Lib.hid hr1
  have G1 := Lib.hid hb
  have H1 := Lib.hid (FSl.below H.out hb)
  clear hr1 hb
  go_wp2_with fail
  refine (specLag_any _ _ _ _ _ _ H1.out hm hcap hcap2).mono ?_
  rintro e w2 ⟨v, rs, rfl, ho, hx, hb⟩
  obtain ⟨A, cp, rfl, hsl, _⟩ := ho.sl
  have G2 := Lib.hid (G1.out.trans (hb.mono G1.out.size))
  have HL := Lib.hid (scL_cnl hx)
  have HXx := Lib.hid hx
  have HS := Lib.hid hsl
  have hlr : rs.length ≤ 1048576 := by have := congrArg List.length hx; rw [cnl_len] at this; have := lagR_len ps q; omega
  clear ho hx hb hsl
  cases hB : msB tAbs zs ys
  · have HB := Lib.hid (sc_bad (ps := ps) (q := q) (show (msB tAbs zs ys && _) = false by rw [hB]; rfl))
    clear hB
    go_wp2_with fail
    go_ret2
    exact ⟨0, by rw [HB.out.2]; exact cn_zero, by rw [HB.out.1]; rfl, G2.out⟩
  · cases hM : lagOk ps q
    · have HB := Lib.hid (sc_bad (ps := ps) (q := q) (show (msB tAbs zs ys && _) = false by rw [hB, hM]; rfl))
      clear hB hM
      go_wp2_with fail
      go_ret2
      exact ⟨0, by rw [HB.out.2]; exact cn_zero, by rw [HB.out.1]; rfl, G2.out⟩
    · obtain ⟨_, _, hfs⟩ := lag_some hM
      have HFs := Lib.hid (show fins rs = true by rw [← fins_cnl, HXx.out]; exact hfs)
      have HB1 := Lib.hid hB
      have HM1 := Lib.hid hM
      clear hB hM hfs
      go_wp2_with fail
      refine (sizes_any _ _ _ _ _ HS.out hlr (fun i hi => by
        have hcn : cn .f32 (rs.getD i 0) = (lagR ps q).getD i 0 := by rw [← HXx.out, cnl_at hi]
        rw [hcn]
        cases hb : lagB ps q
        · rw [(lag_bad hb).2]; simp [List.getD]
        · rw [(lag_good hb).2]
          unfold lstR
          split
          · have hil : i < (lagL ps q).length := by
              have h1 := congrArg List.length HXx.out
              rw [cnl_len, (lag_good hb).2] at h1
              unfold lstR at h1
              rename_i hff
              rw [if_pos hff] at h1
              omega
            unfold lagL lagZ at hil ⊢
            rw [tells_len] at hil
            rw [tells_at _ hil]
            exact aop_lt32 ..
          · simp [List.getD])).mono ?_
      rintro e w3 ⟨v2, rs2, rfl, ho, hx, hb⟩
      obtain ⟨A2, cp2, rfl, hsl, _⟩ := ho.sl
      have hlr2 : rs2.length ≤ 1048576 := by have := congrArg List.length hx; rw [cnl_len] at this; unfold absT at this; rw [tells_len] at this; omega
      have HS2 := Lib.hid hsl
      have HX2 := Lib.hid (show mean32 rs2 = mean32 (scL (lagR ps q)) by rw [mean32_of hx, ← HL.out]; rfl)
      have G3 := Lib.hid (G2.out.trans (hb.mono G2.out.size))
      clear ho hx hb hsl
      go_wp2_with fail
      refine (l02Mean_any _ _ _ _ _ HS2.out hlr2).mono ?_
      rintro e w' ⟨me, n, hme, rfl, rfl⟩
      have HMe := Lib.hid (hme.trans HX2.out)
      have HAb := Lib.hid (show abvB me = abvB (mean32 (scL (lagR ps q))) from abvB_congr (by rw [HMe.out, cn_mean]))
      clear hme
      cases hA : abvB (mean32 (scL (lagR ps q)))
      · have HB := Lib.hid (sc_bad (ps := ps) (q := q) (show (msB tAbs zs ys && _) = false by rw [HB1.out, HM1.out, hA]; rfl))
        have HA := Lib.hid (HAb.out.trans hA)
        clear hA
        go_wp2_with fail
        refine (abv_any _ _).mono ?_
        rw [HA.out]
        rintro e w' ⟨m, rfl, rfl⟩
        go_wp2_with fail
        go_ret2
        exact ⟨0, by rw [HB.out.2]; exact cn_zero, by rw [HB.out.1]; rfl, below_drewN G3.out _⟩
      · have HB := Lib.hid (show (msB tAbs zs ys && (lagOk ps q && abvB (mean32 (scL (lagR ps q))))) = true by rw [HB1.out, HM1.out, hA]; rfl)
        have HA := Lib.hid (HAb.out.trans hA)
        clear hA
        go_wp2_with fail
        refine (abv_any _ _).mono ?_
        rw [HA.out]
        rintro e w' ⟨m, rfl, rfl⟩
        go_wp2_with fail
        refine (specNumber_any _ _).mono ?_
        rintro e w' ⟨r', n', hr', rfl, rfl⟩
        have W := Lib.hid (sc_end (ps := ps) (zs := zs) (ys := ys) (q := q) hr' HB.out (by rw [cn_fopR, HR1.out, HMe.out]; rfl))
        clear hr'
        go_wp2
        go_ret2
        exact ⟨r', W.out.1, by rw [← W.out.2]; rfl, below_drewN G3.out _⟩
end Go.Proofs.Ythlpmbddpenpmaa
