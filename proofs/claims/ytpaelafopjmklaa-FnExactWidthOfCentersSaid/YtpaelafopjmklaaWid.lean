/-
  WidthOfCenters, in both packages.
-/
import Derived.Test.YtpaelafopjmklaaNsh
import Derived.Test.YtpaelafopjmklaaMmi
namespace Go.Proofs.Ytpaelafopjmklaa
open Ieee Go.RowKit
set_option linter.unusedVariables false

/-- The greater one of two numbers. -/
def mxF (x y : Nat) : Nat := match (FloatKind.format .f32).order x y with
  | some .lt => y
  | some .gt => x
  | _ => if (FloatKind.f32.decode x).neg then y else x
theorem run_maxF {P : Program} (w : World) (ts : Array TypeId) (t : TypeId) {x y : Nat} (h : (FloatKind.format .f32).order x y ≠ none) : (Builtin.max_ ts t #[.float .f32 x, .float .f32 y]).run P w = .ok (.float .f32 (mxF x y)) w := by
  unfold mxF
  cases ho : (FloatKind.format .f32).order x y with
  | none => exact absurd ho h
  | some o => cases o <;> simp [Builtin.max_, Builtin.max2, List.foldlM, ho]
theorem mxF_fin {x y : Nat} (hx : fin .f32 x = true) (hy : fin .f32 y = true) : fin .f32 (mxF x y) = true := by
  unfold mxF
  repeat' split
  all_goals assumption
def wcR (Z : List (List Nat)) (g : List Int) (i v : Nat) : Nat → Nat
  | 0 => v
  | k + 1 => if g.getD i 0 = g.getD k 0 then mxF (wcR Z g i v k) (farX (Z.getD i []) (Z.getD k [])) else wcR Z g i v k
def wcA (Z : List (List Nat)) (g : List Int) : Nat → Nat
  | 0 => 0
  | i + 1 => wcR Z g i (wcA Z g i) i
def wcQ (Z : List (List Nat)) (g : List Int) (i k : Nat) : Bool := !decide (g.getD i 0 = g.getD k 0) || fin .f32 (farX (Z.getD i []) (Z.getD k []))
def wcG (g : List Int) (i : Nat) : Bool := decide (0 ≤ g.getD i 0 ∧ g.getD i 0 ≤ 15)
def wcB (Z : List (List Nat)) (g : List Int) : Bool := shpZ Z && (decide (g.length = Z.length) && ((List.range Z.length).all (wcG g) && (List.range Z.length).all (fun i => (List.range i).all (wcQ Z g i))))
def wcV (Z : List (List Nat)) (g : List Int) : Nat := if wcB Z g then wcA Z g Z.length else 0
theorem wc_bad {Z : List (List Nat)} {g : List Int} (h : wcB Z g = false) : wcV Z g = 0 ∧ wcB Z g = false := ⟨by unfold wcV; rw [h]; rfl, h⟩
theorem wc_shp {Z : List (List Nat)} {g : List Int} (h : shpZ Z = false) : wcB Z g = false := by unfold wcB; rw [h]; rfl
theorem wc_len {Z : List (List Nat)} {g : List Int} (h : g.length ≠ Z.length) : wcB Z g = false := by unfold wcB; rw [decide_eq_false h]; simp
theorem wc_grp {Z : List (List Nat)} {g : List Int} {i : Nat} (hi : i < Z.length) (h : ¬ (0 ≤ g.getD i 0 ∧ g.getD i 0 ≤ 15)) : wcB Z g = false := by
  unfold wcB
  rw [not_all_range (p := wcG g) hi (decide_eq_false h)]; simp
theorem wc_pair {Z : List (List Nat)} {g : List Int} {i k : Nat} (hi : i < Z.length) (hk : k < i) (h : wcQ Z g i k = false) : wcB Z g = false := by
  unfold wcB
  rw [not_all_range (p := fun i => (List.range i).all (wcQ Z g i)) hi (not_all_range (p := wcQ Z g i) hk h)]; simp
theorem wc_all {Z : List (List Nat)} {g : List Int} (h1 : shpZ Z = true) (h2 : g.length = Z.length) (h3 : ∀ i, i < Z.length → 0 ≤ g.getD i 0 ∧ g.getD i 0 ≤ 15) (h4 : ∀ i, i < Z.length → ∀ k, k < i → wcQ Z g i k = true) : wcB Z g = true ∧ wcV Z g = wcA Z g Z.length := by
  have h : wcB Z g = true := by
    unfold wcB
    rw [h1, decide_eq_true h2, all_range (p := wcG g) (fun i hi => decide_eq_true (h3 i hi)), all_range (p := fun i => (List.range i).all (wcQ Z g i)) (fun i hi => all_range (h4 i hi))]; rfl
  exact ⟨h, by unfold wcV; rw [h]; rfl⟩
theorem wc_far {Z : List (List Nat)} (h : shpZ Z = true) {i k : Nat} (hi : i < Z.length) (hk : k < Z.length) : farB (Z.getD i []) (Z.getD k []) = fin .f32 (farX (Z.getD i []) (Z.getD k [])) := by
  obtain ⟨_, _, hz⟩ := shp_t h
  unfold farB pairB
  rw [(hz i hi).1, (hz k hk).1, (hz i hi).2, (hz k hk).2, decide_eq_true rfl]; rfl
theorem cn_fin {x : Nat} (h : fin .f32 x = true) : cn .f32 x = x := by
  unfold fin at h
  cases hn : isN .f32 x
  · exact cn_num hn
  · rw [hn] at h; cases h
theorem ISl.memI {w w' : World} {a : Option Addr} {len : Nat} {zs : List Int} (h : ISl w a len zs) (hb : Below w.heap.size w w') {k : Nat} (hk : k < len) :
    ∃ b off, a = some ⟨b, off, none⟩ ∧ w'.cell? ⟨b, off + k, none⟩ = some (.int .i64 (zs.getD k 0)) := by
  obtain ⟨b, off, rfl, hlt, hc⟩ := h.at (by omega)
  exact ⟨b, off, rfl, by rw [hb.cell (p := ⟨b, off + k, none⟩) hlt]; exact hc k hk⟩
set_option maxHeartbeats 4000000 in
set_option maxRecDepth 100000 in
theorem imWid_any (a : Option Addr) (n cap : Nat) (L : List FRw) (a' : Option Addr) (len' cap' : Nat) (g : List Int) (w : World) (h : RSl w a n L) (h' : ISl w a' len' g) (hm : n ≤ 1048576) (hm' : len' ≤ 1048576) (hcap : n ≤ cap) (hcap2 : cap ≤ 1048576) :
    Calls Try.prog 46 #[.slice a n cap, .slice a' len' cap'] w (RetFBk (wcV (zz L) g) (wcB (zz L) g) w.heap.size w) := by
  have H := Lib.hid h
  have H' := Lib.hid h'
  have HL := Lib.hid (show (zz L).length = n by rw [zz_len]; exact h.1.1)
  have HG := Lib.hid h'.1
  clear h h'
  cases hs : shpZ (zz L)
  · have HS := Lib.hid hs
    have HB := Lib.hid (wc_bad (wc_shp (g := g) hs))
    clear hs
    go_enter Try.func46, Try.ntmps46
    go_wp2_with fail
    refine (imShp_any _ _ _ _ _ H.out hm).mono ?_
    rw [HS.out]
    rintro e w' ⟨m, rfl, rfl⟩
    have HBl := Lib.hid (below_drewN (Below.refl w.heap.size w) m)
    go_wp2
    go_ret2
    exact ⟨0, by rw [HB.out.1]; exact cn_zero, by rw [HB.out.2]; rfl, HBl.out⟩
  · have HS := Lib.hid hs
    have hn1 := (shp_t hs).1
    have hn2 := (shp_t hs).2.1
    rw [HL.out] at hn1 hn2
    by_cases hll : len' = n
    · subst hll
      have hne : ((len' : Int) != (len' : Int)) = false := bne_self_eq_false _
      by_cases h3 : fMin g len' < 0
      · have d3 : decide (fMin g len' < 0) = true := decide_eq_true h3
        have HB := Lib.hid (wc_bad (by
          obtain ⟨j, hj, he⟩ := fMin_one g len'
          exact wc_grp (Z := zz L) (g := g) (i := j) (by rw [HL.out]; omega) (by omega)))
        clear hs h3
        go_enter Try.func46, Try.ntmps46
        go_wp2_with fail
        refine (imShp_any _ _ _ _ _ H.out hm).mono ?_
        rw [HS.out]
        rintro e w' ⟨m, rfl, rfl⟩
        go_wp2_with fail
        refine (slMin_any _ _ _ _ _ (ISl.drewN H'.out m) hn1 hm).mono ?_
        rintro e w' ⟨rfl, rfl⟩
        have HBl := Lib.hid (below_drewN (Below.refl w.heap.size w) m)
        go_wp2
        go_ret2
        exact ⟨0, by rw [HB.out.1]; exact cn_zero, by rw [HB.out.2]; rfl, HBl.out⟩
      · have d3 : decide (fMin g len' < 0) = false := decide_eq_false h3
        by_cases h4 : 16 ≤ fMax g len'
        · have d4 : decide (16 ≤ fMax g len') = true := decide_eq_true h4
          have HB := Lib.hid (wc_bad (by
            obtain ⟨j, hj, he⟩ := fMax_one g len'
            exact wc_grp (Z := zz L) (g := g) (i := j) (by rw [HL.out]; omega) (by omega)))
          clear hs h3 h4
          go_enter Try.func46, Try.ntmps46
          go_wp2_with fail
          refine (imShp_any _ _ _ _ _ H.out hm).mono ?_
          rw [HS.out]
          rintro e w' ⟨m, rfl, rfl⟩
          go_wp2_with fail
          refine (slMin_any _ _ _ _ _ (ISl.drewN H'.out m) hn1 hm).mono ?_
          rintro e w' ⟨rfl, rfl⟩
          go_wp2_with fail
          refine (slMax_any _ _ _ _ _ (ISl.drewN H'.out m) hn1 hm).mono ?_
          rintro e w' ⟨rfl, rfl⟩
          have HBl := Lib.hid (below_drewN (Below.refl w.heap.size w) m)
          go_wp2
          go_ret2
          exact ⟨0, by rw [HB.out.1]; exact cn_zero, by rw [HB.out.2]; rfl, HBl.out⟩
        · have d4 : decide (16 ≤ fMax g len') = false := decide_eq_false h4
          have HGr := Lib.hid (show ∀ j, j < len' → 0 ≤ g.getD j 0 ∧ g.getD j 0 ≤ 15 from fun j hj => by
            have q1 := fMin_all g len' j hj
            have q2 := fMax_all g len' j hj
            omega)
          clear hs h3 h4
          go_enter Try.func46, Try.ntmps46
          go_wp2_with fail
          refine (imShp_any _ _ _ _ _ H.out hm).mono ?_
          rw [HS.out]
          rintro e w' ⟨m, rfl, rfl⟩
          go_wp2_with fail
          refine (slMin_any _ _ _ _ _ (ISl.drewN H'.out m) hn1 hm).mono ?_
          rintro e w' ⟨rfl, rfl⟩
          go_wp2_with fail
          refine (slMax_any _ _ _ _ _ (ISl.drewN H'.out m) hn1 hm).mono ?_
          rintro e w' ⟨rfl, rfl⟩
          have HBl := Lib.hid (below_drewN (Below.refl w.heap.size w) m)
          go_wp2
          go_loopw [6, 35] (fun s c wr => ∃ i : Nat, i ≤ len' ∧ c = .int .i64 i ∧ s = .float .f32 (wcA (zz L) g i) ∧ Hid (fin .f32 (wcA (zz L) g i) = true) ∧ Hid (∀ j, j < i → ∀ k, k < j → wcQ (zz L) g j k = true) ∧ Hid (Below w.heap.size w wr)) (fun _ c _ => len' - (intOf c).toNat)
          case atStart => exact ⟨0, Nat.zero_le _, rfl, rfl, Lib.hid (by unfold wcA; decide +kernel), Lib.hid (fun j hj => by omega), HBl⟩
          case round =>
            rename World => wo
            obtain ⟨i, hin, rfl, rfl, hfin, hq, hbel⟩ := hrel
            by_cases hlt : i < len'
            · obtain ⟨b, off, rfl, hblt, hc⟩ := H.out.1.at (by omega)
              have hci := hc i hlt
              rw [← hbel.out.cell (p := ⟨b, off + i, none⟩) hblt] at hci
              obtain ⟨hFi, hFmi⟩ := H.out.2 i hlt
              have HFi := Lib.hid hFi
              have HC := Lib.hid hc
              have hzi : (zz L).getD i [] = (L.getD i FRw.none).zs := zz_at L
              have HZi := Lib.hid hzi
              unfold FRw.val at hci
              generalize hri : L.getD i FRw.none = ri at *
              obtain ⟨ia, il, ic, iz⟩ := ri
              simp only at hci hFmi HFi HZi
              have hrw : wcR (zz L) g i (wcA (zz L) g i) 0 = wcA (zz L) g i := rfl
              have HR0 := Lib.hid hrw
              clear hc hFi hzi hri hrw
              go_wp2
              go_loopw [6, 44] (fun s c wr => ∃ k : Nat, k ≤ i ∧ c = .int .i64 k ∧ s = .float .f32 (wcR (zz L) g i (wcA (zz L) g i) k) ∧ Hid (fin .f32 (wcR (zz L) g i (wcA (zz L) g i) k) = true) ∧ Hid (∀ j, j < k → wcQ (zz L) g i j = true) ∧ Hid (Below w.heap.size w wr)) (fun _ c _ => i - (intOf c).toNat)
              case atStart => exact ⟨0, Nat.zero_le _, rfl, by rw [HR0.out], Lib.hid (by rw [HR0.out]; exact hfin.out), Lib.hid (fun j hj => by omega), hbel⟩
              case round =>
                rename World => wr
                obtain ⟨k, hki, rfl, rfl, hfk, hqk, hbk⟩ := hrel
                by_cases hlt2 : k < i
                · have hck := HC.out k (by omega)
                  rw [← hbk.out.cell (p := ⟨b, off + k, none⟩) hblt] at hck
                  obtain ⟨hFk, hFmk⟩ := H.out.2 k (by omega)
                  have HFk := Lib.hid hFk
                  have HFi2 := Lib.hid (FSl.below HFi.out hbk.out)
                  have HFk2 := Lib.hid (FSl.below hFk hbk.out)
                  have hzk : (zz L).getD k [] = (L.getD k FRw.none).zs := zz_at L
                  obtain ⟨gb, go, ea, hg1⟩ := H'.out.memI hbk.out hlt
                  obtain ⟨gb', go', ea', hg2⟩ := H'.out.memI hbk.out (show k < len' by omega)
                  rw [ea] at ea'
                  injection ea' with ea'
                  injection ea' with ea1 ea2
                  subst ea1 ea2
                  have HFB := Lib.hid (show farB iz (L.getD k FRw.none).zs = fin .f32 (farX iz (L.getD k FRw.none).zs) from by
                    have := wc_far HS.out (i := i) (k := k) (by rw [HL.out]; exact hlt) (by rw [HL.out]; omega)
                    rwa [HZi.out, hzk] at this)
                  have HStep := Lib.hid (show wcR (zz L) g i (wcA (zz L) g i) (k + 1) = if g.getD i 0 = g.getD k 0 then mxF (wcR (zz L) g i (wcA (zz L) g i) k) (farX iz (L.getD k FRw.none).zs) else wcR (zz L) g i (wcA (zz L) g i) k from by rw [← HZi.out, ← hzk]; rfl)
                  have HQk := Lib.hid (show wcQ (zz L) g i k = (!decide (g.getD i 0 = g.getD k 0) || fin .f32 (farX iz (L.getD k FRw.none).zs)) from by rw [← HZi.out, ← hzk]; rfl)
                  have HBad := Lib.hid (fun hh => wc_bad (wc_pair (Z := zz L) (g := g) (i := i) (k := k) (by rw [HL.out]; exact hlt) hlt2 hh))
                  have HNx := Lib.hid (show wcQ (zz L) g i k = true → ∀ j, j < k + 1 → wcQ (zz L) g i j = true from fun hh j hj => by
                    rcases Nat.lt_or_ge j k with g1 | g1
                    · exact hqk.out j g1
                    · obtain rfl : j = k := by omega
                      exact hh)
                  subst ea
                  unfold FRw.val at hck
                  generalize L.getD k FRw.none = rk at *
                  obtain ⟨ka, kl, kc, kz⟩ := rk
                  simp only at hck hFmk HFk2 HFB HStep HQk
                  generalize g.getD i 0 = p at *
                  generalize g.getD k 0 = q at *
                  generalize wcR (zz L) g i (wcA (zz L) g i) k = V at *
                  clear hFk hzk HFk
                  by_cases he : p = q
                  · have hne2 : (p != q) = false := by rw [bne_eq_false_iff_eq]; exact he
                    cases hfb : fin .f32 (farX iz kz)
                    · have HB := Lib.hid (HBad.out (by rw [HQk.out, decide_eq_true he, hfb]; rfl))
                      have HFf := Lib.hid (HFB.out.trans hfb)
                      clear he hfb HBad HNx HStep HQk
                      go_wp2
                      go_region
                      all_goals
                        go_wp2_with fail
                        refine (imFar_any _ _ _ _ _ _ _ _ _ (FSl.drewN HFi2.out _) (FSl.drewN HFk2.out _) hFmi hFmk).mono ?_
                        rw [HFf.out]
                        rintro e w2 ⟨r, hr, rfl, hb⟩
                        have HBl2 := Lib.hid ((below_drewN hbk.out _).trans (hb.mono (show w.heap.size ≤ wr.heap.size from hbk.out.size)))
                        clear hr hb
                        go_wp2
                        go_ret2
                        exact ⟨0, by rw [HB.out.1]; exact cn_zero, by rw [HB.out.2]; rfl, HBl2.out⟩
                    · have HN := Lib.hid (HNx.out (by rw [HQk.out, hfb]; simp))
                      have HFf := Lib.hid (HFB.out.trans hfb)
                      have HFv := Lib.hid (show farV iz kz = farX iz kz by unfold farV; rw [HFB.out, hfb]; rfl)
                      have HFfin := Lib.hid hfb
                      have HS2 := Lib.hid (HStep.out.trans (if_pos he))
                      clear he hfb HBad HNx HStep HQk
                      go_wp2
                      go_region
                      all_goals
                        go_wp2_with fail
                        refine (imFar_any _ _ _ _ _ _ _ _ _ (FSl.drewN HFi2.out _) (FSl.drewN HFk2.out _) hFmi hFmk).mono ?_
                        rw [HFf.out]
                        rintro e w2 ⟨r, hr, rfl, hb⟩
                        obtain rfl : r = farX iz kz := fin_word (hr.trans HFv.out) HFfin.out
                        have HBl2 := Lib.hid ((below_drewN hbk.out _).trans (hb.mono (show w.heap.size ≤ wr.heap.size from hbk.out.size)))
                        have hmx := fun (W : World) (ts : Array TypeId) (t : TypeId) => run_maxF (P := Try.prog) W ts t (order_fin hfk.out HFfin.out)
                        have HMf := Lib.hid (mxF_fin hfk.out HFfin.out)
                        clear hr hb
                        go_wp2
                        clear hmx
                        go_roundw
                        case rel => exact ⟨k + 1, by omega, by go_num, by rw [HS2.out], Lib.hid (by rw [HS2.out]; exact HMf.out), HN, HBl2⟩
                        case measure => simp [intOf]; omega
                  · have hne2 : (p != q) = true := by rw [bne_iff_ne]; exact he
                    have HN := Lib.hid (HNx.out (by rw [HQk.out, decide_eq_false he]; rfl))
                    have HS2 := Lib.hid (HStep.out.trans (if_neg he))
                    clear he HBad HNx HStep HQk HFB
                    go_wp2
                    go_region
                    all_goals
                      go_wp2
                      go_roundw
                      case rel => exact ⟨k + 1, by omega, by go_num, by rw [HS2.out], Lib.hid (by rw [HS2.out]; exact hfk.out), HN, Lib.hid (below_drewN hbk.out _)⟩
                      case measure => simp [intOf]; omega
                · have e : k = i := by omega
                  have HA := Lib.hid (show wcR (zz L) g i (wcA (zz L) g i) k = wcA (zz L) g (i + 1) by rw [e]; rfl)
                  have HN := Lib.hid (show ∀ j, j < i + 1 → ∀ k, k < j → wcQ (zz L) g j k = true from fun j hj k2 hk2 => by
                    rcases Nat.lt_or_ge j i with g1 | g1
                    · exact hq.out j g1 k2 hk2
                    · obtain rfl : j = i := by omega
                      exact hqk.out k2 (by omega))
                  rw [HA.out] at hfk
                  clear e
                  go_wp2
                  go_roundw
                  case rel => exact ⟨i + 1, by omega, by go_num, by rw [HA.out], hfk, HN, hbk⟩
                  case measure => simp [intOf]; omega
            · have e : i = len' := by omega
              have HR := Lib.hid (wc_all (Z := zz L) (g := g) HS.out (by rw [HG.out, HL.out]) (fun j hj => HGr.out j (by rw [HL.out] at hj; exact hj)) (fun j hj => hq.out j (by rw [HL.out] at hj; omega)))
              have HV := Lib.hid (show wcA (zz L) g i = wcV (zz L) g by rw [HR.out.2, HL.out, e])
              clear e hq
              go_wp2
              go_ret2
              exact ⟨_, by rw [← HV.out]; exact cn_fin hfin.out, by rw [HR.out.1]; rfl, hbel.out⟩
    · have hne : ((len' : Int) != (n : Int)) = true := by rw [bne_iff_ne]; omega
      have HB := Lib.hid (wc_bad (wc_len (Z := zz L) (g := g) (by rw [HL.out, HG.out]; exact hll)))
      clear hs hll
      go_enter Try.func46, Try.ntmps46
      go_wp2_with fail
      refine (imShp_any _ _ _ _ _ H.out hm).mono ?_
      rw [HS.out]
      rintro e w' ⟨m, rfl, rfl⟩
      have HBl := Lib.hid (below_drewN (Below.refl w.heap.size w) m)
      go_wp2
      go_ret2
      exact ⟨0, by rw [HB.out.1]; exact cn_zero, by rw [HB.out.2]; rfl, HBl.out⟩
set_option maxHeartbeats 4000000 in
set_option maxRecDepth 100000 in
theorem spWid_any (a : Option Addr) (n cap : Nat) (L : List FRw) (a' : Option Addr) (len' cap' : Nat) (g : List Int) (w : World) (h : RSl w a n L) (h' : ISl w a' len' g) (hm : n ≤ 1048576) (hm' : len' ≤ 1048576) (hcap : n ≤ cap) (hcap2 : cap ≤ 1048576) :
    Calls Try.prog 45 #[.slice a n cap, .slice a' len' cap'] w (RetFBk (wcV (zz L) g) (wcB (zz L) g) w.heap.size w) := by
  have H := Lib.hid h
  have H' := Lib.hid h'
  have HL := Lib.hid (show (zz L).length = n by rw [zz_len]; exact h.1.1)
  have HG := Lib.hid h'.1
  clear h h'
  cases hs : shpZ (zz L)
  · have HS := Lib.hid hs
    have HB := Lib.hid (wc_bad (wc_shp (g := g) hs))
    clear hs
    go_enter Try.func45, Try.ntmps45
    go_wp2_with fail
    refine (spShp_any _ _ _ _ _ H.out hm).mono ?_
    rw [HS.out]
    rintro e w' ⟨m, rfl, rfl⟩
    have HBl := Lib.hid (below_drewN (Below.refl w.heap.size w) m)
    go_wp2
    go_ret2
    exact ⟨0, by rw [HB.out.1]; exact cn_zero, by rw [HB.out.2]; rfl, HBl.out⟩
  · have HS := Lib.hid hs
    have hsn := shp_t hs
    have hn1 := hsn.1
    have hn2 := hsn.2.1
    rw [HL.out] at hn1 hn2
    have HLens := Lib.hid (show ∀ i k, i < n → k < n → (L.getD i FRw.none).len ≤ (L.getD k FRw.none).len from fun i k hi hk => by
      have h1 := (hsn.2.2 i (by rw [HL.out]; exact hi)).2
      have h2 := (hsn.2.2 k (by rw [HL.out]; exact hk)).2
      rw [zz_at, (H.out.2 i hi).1.1] at h1
      rw [zz_at, (H.out.2 k hk).1.1] at h2
      omega)
    clear hsn
    by_cases hll : len' = n
    · subst hll
      have hne : ((len' : Int) != (len' : Int)) = false := bne_self_eq_false _
      clear hs
      go_enter Try.func45, Try.ntmps45
      go_wp2_with fail
      refine (spShp_any _ _ _ _ _ H.out hm).mono ?_
      rw [HS.out]
      rintro e w' ⟨m, rfl, rfl⟩
      go_wp2
      go_loopw [6, 22] (fun s c wr => ∃ i q : Nat, i ≤ len' ∧ c = .int .i64 i ∧ s = .float .f32 (wcA (zz L) g i) ∧ wr = w.drewN q ∧ Hid (fin .f32 (wcA (zz L) g i) = true) ∧ Hid (∀ j, j < i → ∀ k, k < j → wcQ (zz L) g j k = true) ∧ Hid (∀ j, j < i → 0 ≤ g.getD j 0 ∧ g.getD j 0 ≤ 15)) (fun _ c _ => len' - (intOf c).toNat)
      case atStart => exact ⟨0, _, Nat.zero_le _, rfl, rfl, rfl, Lib.hid (by unfold wcA; decide +kernel), Lib.hid (fun j hj => by omega), Lib.hid (fun j hj => by omega)⟩
      case round =>
        obtain ⟨i, q, hin, rfl, rfl, rfl, hfin, hq, hgr⟩ := hrel
        by_cases hlt : i < len'
        · obtain ⟨gb, go, rfl, hglt, hgc⟩ := H'.out.at (by omega)
          have hgi := hgc i hlt
          have HGC := Lib.hid hgc
          clear hgc
          by_cases hz : 0 ≤ g.getD i 0 ∧ g.getD i 0 ≤ 15
          · have HGr := Lib.hid (show ∀ j, j < i + 1 → 0 ≤ g.getD j 0 ∧ g.getD j 0 ≤ 15 from fun j hj => by
              rcases Nat.lt_or_ge j i with g1 | g1
              · exact hgr.out j g1
              · obtain rfl : j = i := by omega
                exact hz)
            obtain ⟨b, off, rfl, hblt, hc⟩ := H.out.1.at (by omega)
            have hci := hc i hlt
            obtain ⟨hFi, hFmi⟩ := H.out.2 i hlt
            have HFi := Lib.hid hFi
            have HC := Lib.hid hc
            have hzi : (zz L).getD i [] = (L.getD i FRw.none).zs := zz_at L
            have HZi := Lib.hid hzi
            have HLi := Lib.hid (fun k (hk : k < len') => HLens.out i k hlt hk)
            unfold FRw.val at hci
            generalize hri : L.getD i FRw.none = ri at *
            obtain ⟨ia, il, ic, iz⟩ := ri
            simp only at hci hFmi HFi HZi HLi
            have HR0 := Lib.hid (show wcR (zz L) g i (wcA (zz L) g i) 0 = wcA (zz L) g i from rfl)
            have HIn := Lib.hid (fun W => in_yes (g.getD i 0) 0 15 W hz.1 hz.2)
            generalize hp : g.getD i 0 = p at *
            have HP := Lib.hid hp
            clear hc hFi hzi hri hz hgr hp
            go_wp2_with fail
            refine (HIn.out _).mono ?_
            rintro e w' ⟨rfl, rfl⟩
            go_wp2
            go_loopw [6, 8] (fun s c wr => ∃ k q2 : Nat, k ≤ i ∧ c = .int .i64 k ∧ s = .float .f32 (wcR (zz L) g i (wcA (zz L) g i) k) ∧ wr = w.drewN q2 ∧ Hid (fin .f32 (wcR (zz L) g i (wcA (zz L) g i) k) = true) ∧ Hid (∀ j, j < k → wcQ (zz L) g i j = true)) (fun _ c _ => i - (intOf c).toNat)
            case atStart => exact ⟨0, _, Nat.zero_le _, rfl, by rw [HR0.out], rfl, Lib.hid (by rw [HR0.out]; exact hfin.out), Lib.hid (fun j hj => by omega)⟩
            case round =>
              obtain ⟨k, q2, hki, rfl, rfl, rfl, hfk, hqk⟩ := hrel
              by_cases hlt2 : k < i
              · have hck := HC.out k (by omega)
                obtain ⟨hFk, hFmk⟩ := H.out.2 k (by omega)
                have HFk := Lib.hid hFk
                have hlk := HLi.out k (by omega)
                have hzk : (zz L).getD k [] = (L.getD k FRw.none).zs := zz_at L
                have hgk := HGC.out k (by omega)
                have HStep := Lib.hid (show wcR (zz L) g i (wcA (zz L) g i) (k + 1) = if p = g.getD k 0 then mxF (wcR (zz L) g i (wcA (zz L) g i) k) (farX iz (L.getD k FRw.none).zs) else wcR (zz L) g i (wcA (zz L) g i) k from by rw [← HP.out, ← HZi.out, ← hzk]; rfl)
                have HQk := Lib.hid (show wcQ (zz L) g i k = (!decide (p = g.getD k 0) || fin .f32 (farX iz (L.getD k FRw.none).zs)) from by rw [← HP.out, ← HZi.out, ← hzk]; rfl)
                have HBad := Lib.hid (fun hh => wc_bad (wc_pair (Z := zz L) (g := g) (i := i) (k := k) (by rw [HL.out]; exact hlt) hlt2 hh))
                have HNx := Lib.hid (show wcQ (zz L) g i k = true → ∀ j, j < k + 1 → wcQ (zz L) g i j = true from fun hh j hj => by
                  rcases Nat.lt_or_ge j k with g1 | g1
                  · exact hqk.out j g1
                  · obtain rfl : j = k := by omega
                    exact hh)
                unfold FRw.val at hck
                generalize L.getD k FRw.none = rk at *
                obtain ⟨ka, kl, kc, kz⟩ := rk
                simp only at hck hFmk HFk HStep HQk hlk
                generalize g.getD k 0 = r at *
                generalize wcR (zz L) g i (wcA (zz L) g i) k = V at *
                have HFar := Lib.hid (fun W q3 (hW : W = w.drewN q3) => show Calls Try.prog 53 #[.slice ia il ic, .slice ka kl kc] W (RetF .f32 (farX iz kz) W) from by
                  subst hW
                  exact l07Far_any _ _ _ _ _ _ _ _ _ (FSl.drewN HFi.out q3) (FSl.drewN HFk.out q3) hFmi hlk)
                clear hFk hzk hFmk hFmi
                by_cases he : r = p
                · have hne2 : (r == p) = true := by rw [beq_iff_eq]; exact he
                  cases hfb : fin .f32 (farX iz kz)
                  · have HB := Lib.hid (HBad.out (by rw [HQk.out, decide_eq_true he.symm, hfb]; rfl))
                    have HFf := Lib.hid hfb
                    clear he hfb HBad HNx HStep HQk
                    go_wp2
                    go_region
                    all_goals
                      go_wp2
                      go_region_with (first | (go_at_call 53; refine (HFar.out _ _ (by first | rfl | (rw [World.drewN_drewN]))).mono ?_; rintro e w' ⟨y, m5, hy, rfl, rfl⟩; have HY := Lib.hid hy; clear hy))
                      all_goals
                        have HY2 := Lib.hid ((fin_congr (HY.out.trans (cn_farX ..).symm)).trans HFf.out)
                        go_wp2_with fail
                        refine (l01Finite_any _ _).mono ?_
                        rw [HY2.out]
                        rintro e w' ⟨m3, rfl, rfl⟩
                        go_wp2
                        go_ret2
                        exact ⟨0, by rw [HB.out.1]; exact cn_zero, by rw [HB.out.2]; rfl, below_drewN (Below.refl _ _) _⟩
                  · have HN := Lib.hid (HNx.out (by rw [HQk.out, hfb]; simp))
                    have HFf := Lib.hid hfb
                    have HS2 := Lib.hid (HStep.out.trans (if_pos he.symm))
                    clear he hfb HBad HNx HStep HQk
                    go_wp2
                    go_region
                    all_goals
                      go_wp2
                      go_region_with (first | (go_at_call 53; refine (HFar.out _ _ (by first | rfl | (rw [World.drewN_drewN]))).mono ?_; rintro e w' ⟨y, m5, hy, rfl, rfl⟩; have HY := Lib.hid (fin_word hy HFf.out); clear hy))
                      all_goals
                        rw [HY.out]
                        have hmx := fun (W : World) (ts : Array TypeId) (t : TypeId) => run_maxF (P := Try.prog) W ts t (order_fin hfk.out HFf.out)
                        have HMf := Lib.hid (mxF_fin hfk.out HFf.out)
                        clear HY
                        go_wp2_with fail
                        refine (l01Finite_any _ _).mono ?_
                        rw [HFf.out]
                        rintro e w' ⟨m3, rfl, rfl⟩
                        go_wp2
                        clear hmx
                        go_roundw
                        case rel => exact ⟨k + 1, _, by omega, by go_num, by rw [HS2.out], by first | rfl | simp only [World.drewN_drewN], Lib.hid (by rw [HS2.out]; exact HMf.out), HN⟩
                        case measure => simp [intOf]; omega
                · have hne2 : (r == p) = false := by rw [beq_eq_false_iff_ne]; exact he
                  have HN := Lib.hid (HNx.out (by rw [HQk.out, decide_eq_false (fun h => he h.symm)]; rfl))
                  have HS2 := Lib.hid (HStep.out.trans (if_neg (fun h => he h.symm)))
                  clear he HBad HNx HStep HQk
                  go_wp2
                  go_region
                  all_goals
                    go_wp2
                    go_roundw
                    case rel => exact ⟨k + 1, _, by omega, by go_num, by rw [HS2.out], by first | rfl | simp only [World.drewN_drewN], Lib.hid (by rw [HS2.out]; exact hfk.out), HN⟩
                    case measure => simp [intOf]; omega
              · have e : k = i := by omega
                have HA := Lib.hid (show wcR (zz L) g i (wcA (zz L) g i) k = wcA (zz L) g (i + 1) by rw [e]; rfl)
                have HN := Lib.hid (show ∀ j, j < i + 1 → ∀ k, k < j → wcQ (zz L) g j k = true from fun j hj k2 hk2 => by
                  rcases Nat.lt_or_ge j i with g1 | g1
                  · exact hq.out j g1 k2 hk2
                  · obtain rfl : j = i := by omega
                    exact hqk.out k2 (by omega))
                rw [HA.out] at hfk
                clear e
                go_wp2
                go_roundw
                case rel => exact ⟨i + 1, _, by omega, by go_num, by rw [HA.out], rfl, hfk, HN, HGr⟩
                case measure => simp [intOf]; omega
          · have HB := Lib.hid (wc_bad (wc_grp (Z := zz L) (g := g) (i := i) (by rw [HL.out]; exact hlt) hz))
            have HIn := Lib.hid (fun W => in_no (g.getD i 0) 0 15 W (by omega))
            have HBl := Lib.hid (below_drewN (Below.refl w.heap.size w) q)
            generalize g.getD i 0 = p at *
            clear hz hgr
            go_wp2_with fail
            refine (HIn.out _).mono ?_
            rintro e w' ⟨rfl, rfl⟩
            go_wp2
            go_ret2
            exact ⟨0, by rw [HB.out.1]; exact cn_zero, by rw [HB.out.2]; rfl, HBl.out⟩
        · have e : i = len' := by omega
          have HR := Lib.hid (wc_all (Z := zz L) (g := g) HS.out (by rw [HG.out, HL.out]) (fun j hj => hgr.out j (by rw [HL.out] at hj; omega)) (fun j hj => hq.out j (by rw [HL.out] at hj; omega)))
          have HV := Lib.hid (show wcA (zz L) g i = wcV (zz L) g by rw [HR.out.2, HL.out, e])
          clear e hq hgr
          go_wp2
          go_ret2
          exact ⟨_, by rw [← HV.out]; exact cn_fin hfin.out, by rw [HR.out.1]; rfl, below_drewN (Below.refl _ _) _⟩
    · have hne : ((len' : Int) != (n : Int)) = true := by rw [bne_iff_ne]; omega
      have HB := Lib.hid (wc_bad (wc_len (Z := zz L) (g := g) (by rw [HL.out, HG.out]; exact hll)))
      clear hs hll
      go_enter Try.func45, Try.ntmps45
      go_wp2_with fail
      refine (spShp_any _ _ _ _ _ H.out hm).mono ?_
      rw [HS.out]
      rintro e w' ⟨m, rfl, rfl⟩
      have HBl := Lib.hid (below_drewN (Below.refl w.heap.size w) m)
      go_wp2
      go_ret2
      exact ⟨0, by rw [HB.out.1]; exact cn_zero, by rw [HB.out.2]; rfl, HBl.out⟩
end Go.Proofs.Ytpaelafopjmklaa
