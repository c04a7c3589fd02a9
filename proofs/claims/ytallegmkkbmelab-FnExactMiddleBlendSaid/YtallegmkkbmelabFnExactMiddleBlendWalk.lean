/-
  MiddleBlend, in both packages, and the walk of its law (one text: a claim has at most 60 files).
-/
import Derived.Test.YtallegmkkbmelabBld
import Derived.Test.YtallegmkkbmelabCMed
import Derived.Deep.RegionHeld3
import Derived.Test.YtallegmkkbmelabCLaw
import Derived.Test.YtallegmkkbmelabRow
namespace Go.Proofs.Ytallegmkkbmelab
open Ieee Go.RowKit
set_option linter.unusedVariables false

def mdT (Z : List (List Nat)) (j : Nat) : Nat := med32 (tells (colT Z j) Z.length)
def mdL (Z : List (List Nat)) : List Nat := tells (mdT Z) (Z.getD 0 []).length
def mdOk (Z : List (List Nat)) : Bool := waysZ Z && fins (mdL Z)
def mdR (Z : List (List Nat)) : List Nat := if waysZ Z then lstR (mdL Z) else []
theorem md_bad {Z : List (List Nat)} (h : waysZ Z = false) : mdOk Z = false ∧ mdR Z = [] := by unfold mdOk mdR; rw [h]; exact ⟨rfl, rfl⟩
theorem md_good {Z : List (List Nat)} (h : waysZ Z = true) : mdOk Z = fins (mdL Z) ∧ mdR Z = lstR (mdL Z) := by unfold mdOk mdR; rw [h]; exact ⟨rfl, rfl⟩
theorem mdR_len (Z : List (List Nat)) : (mdR Z).length ≤ 1048576 := by
  unfold mdR
  split
  · rename_i h
    obtain ⟨g1, _, g3⟩ := waysZ_t h
    have := (serB_t (g3 0 (by omega)).1).2.1
    unfold lstR
    split
    · unfold mdL; rw [tells_len]; omega
    · simp
  · simp
theorem md_fins {t : Nat → Nat} {n : Nat} (h : ∀ j, j < n → fin .f32 (t j) = true) : fins (tells t n) = true := by
  unfold fins tells
  rw [List.all_map, List.all_eq_true]
  intro x hx
  exact h x (List.mem_range.1 hx)
theorem cnl_fin {cs : List Nat} (h : fins cs = true) : cnl cs = cs := by
  unfold fins at h
  unfold cnl
  conv => rhs; rw [← List.map_id cs]
  exact List.map_congr_left fun x hx => cn_num (fin_noN (List.all_eq_true.1 h x hx))
theorem col_ser {Z : List (List Nat)} (h : waysZ Z = true) {j : Nat} (hj : j < (Z.getD 0 []).length) : serB (tells (colT Z j) Z.length) = true := by
  obtain ⟨g1, g2, g3⟩ := waysZ_t h
  unfold serB
  rw [tells_len, decide_eq_true (show 1 ≤ Z.length ∧ Z.length ≤ 96 by omega), md_fins]
  · rfl
  · intro i hi
    have e := g3 i hi
    exact (fin_congr (cn_cn .f32 _)).trans (fins_at (serB_t e.1).2.2 (by rw [e.2]; exact hj))
theorem mdT_cn {Z : List (List Nat)} (h : waysZ Z = true) {j : Nat} (hj : j < (Z.getD 0 []).length) : cn .f32 (mdT Z j) = mdT Z j := cn_med (col_ser h hj)
/-- A column's words. -/
theorem col_words {Z : List (List Nat)} (h : waysZ Z = true) {j : Nat} (hj : j < (Z.getD 0 []).length) {cs : List Nat} (hc : cnl cs = tells (colT Z j) Z.length) : cs = tells (colT Z j) Z.length := by
  have hf : fins cs = true := by rw [← fins_cnl, hc]; exact (serB_t (col_ser h hj)).2.2
  rw [← hc, cnl_fin hf]
set_option maxHeartbeats 2000000 in
set_option maxRecDepth 100000 in
theorem spMiddle_any (a : Option Addr) (n cap : Nat) (L : List FRw) (w : World) (h : RSl w a n L) (hn : n ≤ 1048576) :
    Calls Try.prog 33 #[.slice a n cap] w (RetOB 28 (mdR (zz L)) (mdOk (zz L)) w) := by
  obtain ⟨i0, hi, hz0, hz1, hz2⟩ := info_parts Try.infoR
  have H1 := Lib.hid h
  have HL := Lib.hid h.1.1
  have HZ := Lib.hid (show (zz L).length = n by rw [zz_len]; exact h.1.1)
  clear h
  cases hw : waysZ (zz L)
  · have HW := Lib.hid hw
    have HB := Lib.hid (md_bad hw)
    clear hw
    go_enter Try.func33, Try.ntmps33
    go_wp2_with fail
    refine (spLists_any _ _ _ _ _ H1.out hn).mono ?_
    rw [HW.out]
    rintro e w' ⟨m, rfl, rfl⟩
    go_wp2_with fail
    go_ret2
    exact fail_ob _ HB.out.1 HB.out.2 (below_drewN (Below.refl _ _) _)
  · have HW := Lib.hid hw
    have HB := Lib.hid (md_good hw)
    obtain ⟨g1, g2, g3⟩ := waysZ_t hw
    rw [HZ.out] at g1 g2 g3
    obtain ⟨g4, _⟩ := g3 0 (by omega)
    have hlens : ∀ k, k < n → (L.getD k FRw.none).len = (L.getD 0 FRw.none).len := fun k hk => by
      have e1 := (g3 k hk).2
      rw [zz_at, zz_at, (H1.out.2 k hk).1.1, (H1.out.2 0 (by omega)).1.1] at e1
      exact e1
    have hl96 : (L.getD 0 FRw.none).len ≤ 96 := by
      have e1 := (serB_t g4).2.1
      rw [zz_at, (H1.out.2 0 (by omega)).1.1] at e1
      exact e1
    have HLen := Lib.hid hlens
    have HTl := Lib.hid (show tells (mdT (zz L)) (L.getD 0 FRw.none).len = mdL (zz L) by unfold mdL; rw [zz_at, (H1.out.2 0 (by omega)).1.1])
    have HLz := Lib.hid (show ((zz L).getD 0 []).length = (L.getD 0 FRw.none).len by rw [zz_at, (H1.out.2 0 (by omega)).1.1])
    obtain ⟨b, off, rfl, hbb, hcr⟩ := H1.out.1.at (by omega)
    have hcr0 := hcr 0 (by omega)
    rw [Nat.add_zero] at hcr0
    unfold FRw.val at hcr0
    clear hw g3 g4 hlens hcr
    generalize hr0 : L.getD 0 FRw.none = r0 at *
    obtain ⟨sa, sl, sc, sz⟩ := r0
    simp only at hl96 hcr0 HLen HTl HLz
    have HN := Lib.hid (fun m => FOwn.made (T := 28) (B := w.heap.size) (w.drewN m) (Nat.le_refl _))
    clear hr0
    go_enter Try.func33, Try.ntmps33
    go_wp2_with fail
    refine (spLists_any _ _ _ _ _ H1.out hn).mono ?_
    rw [HW.out]
    rintro e w' ⟨m, rfl, rfl⟩
    go_wp2
    go_loopw [4, 5] (fun v i wr => ∃ (k : Nat) (rs : List Nat), k ≤ sl ∧ i = .int .i64 k ∧ Hid (rs.length = k) ∧ Hid (FOwn 28 w.heap.size wr v rs) ∧ Hid (cnl rs = tells (mdT (zz L)) k) ∧ Hid (Below w.heap.size w wr)) (fun _ i _ => sl - (intOf i).toNat)
    case atStart => exact ⟨0, [], Nat.zero_le _, rfl, Lib.hid rfl, Lib.hid (HN.out _), Lib.hid rfl, Lib.hid ((below_drewN (Below.refl _ _) _).alloc (by show w.heap.size ≤ w.heap.size; exact Nat.le_refl _) _)⟩
    case round =>
      rename_i wr
      obtain ⟨k, rs, hk, rfl, hrl, hown, hrs, hbel⟩ := hrel
      have hcr1 := hcr0
      rw [← hbel.out.cell (p := ⟨b, off, none⟩) hbb] at hcr1
      by_cases hlt : k < sl
      · have hsz := hbel.out.size
        have hrk : rs.length ≤ 1048576 := by have := hrl.out; omega
        have HRl := Lib.hid hrl.out
        have HSn := Lib.hid (fun r (hr : cn .f32 r = mdT (zz L) k) => (cnl_snoc hrs.out hr).trans (tells_succ (mdT (zz L)) k).symm)
        clear hcr0 hrs hrl
        go_wp2_with fail
        refine (column_any _ _ _ _ k _ (RSl.below H1.out hbel.out) hn (fun i hi => by rw [HLen.out i hi]; exact hlt)).mono ?_
        rintro e w1 ⟨v1, cs, rfl, ho1, hx1, hb1⟩
        obtain ⟨A1, cp1, rfl, hsl1, _⟩ := ho1.sl
        have hcs : cs = tells (colT (zz L) k) n := by rw [← HZ.out] at hx1 ⊢; exact col_words HW.out (by rw [HLz.out]; exact hlt) hx1
        have HSer := Lib.hid (show serB cs = true by rw [hcs, ← HZ.out]; exact col_ser HW.out (by rw [HLz.out]; exact hlt))
        have HD := Lib.hid (show med32 cs = mdT (zz L) k by rw [hcs]; unfold mdT; rw [HZ.out])
        have hlc : cs.length = n := by rw [hcs, tells_len]
        rw [hlc] at hsl1
        have HS1 := Lib.hid hsl1
        have HO1 := Lib.hid (show FOwn 28 w.heap.size w1 _ rs from hown.out.below hb1)
        have HB1 := Lib.hid (hbel.out.trans (hb1.mono hsz))
        have hsz1 := HB1.out.size
        simp only [hlc]
        clear ho1 hx1 hb1 hsl1 hown hbel hlc hcs
        go_wp2_with fail
        refine (l02Med_any _ _ _ _ _ HS1.out hn HSer.out).mono ?_
        rintro e w2 ⟨d, hd, rfl, hb2⟩
        have HCS := Lib.hid (HSn.out d (hd.trans HD.out))
        have HO2 := Lib.hid (show FOwn 28 w.heap.size w2 _ rs from HO1.out.below hb2)
        have HB2 := Lib.hid (HB1.out.trans (hb2.mono hsz1))
        have hsz2 := HB2.out.size
        clear hd HSn hb2 HO1 HB1
        go_wp2_with (at_builtin; refine wpList_append_own _ rfl _ _ 22 rfl w.heap.size 28 i0 (.float .f32 0) 1 4 Try.underlying22 hi hz0 hz1 hz2 rfl (by decide) _ _ _ rfl (World.ownsRow.alloc (FOwn.drewN HO2.out 0) _) ⟨w2.heap.size, 0, none⟩ 1 1 [_] rfl rfl (one_new rfl) ?c2 ?c3 ?c4 ?c5 ?_)
        case c2 => intro u hu; simp at hu; subst hu; rfl
        case c3 => unfold maxLen; omega
        case c4 => omega
        case c5 => simp; show w.heap.size ≤ w2.heap.size + 1; omega
        intro v' w3 hown' hgrow _
        have R := FOwn.push (n := 0) HO2.out HB2.out hsz2 hown' hgrow
        have hR := Lib.hid R
        clear R hown' hgrow HO2 HB2
        go_wp2
        go_roundw
        case rel =>
          refine ⟨k + 1, _, by omega, by go_num, ?_, Lib.hid hR.out.1, HCS, Lib.hid hR.out.2⟩
          exact Lib.hid (by rw [List.length_append, HRl.out]; rfl)
        case measure => simp [intOf]; omega
      · have hfin := Lib.hid (show cnl rs = mdL (zz L) by rw [hrs.out, ← HTl.out, show k = sl by omega])
        obtain ⟨A, cp, rfl, hsl, _⟩ := hown.out.sl
        have HS := Lib.hid hsl
        have hm2 : rs.length ≤ 1048576 := by have := hrl.out; omega
        clear hrs hsl hcr0
        go_wp2_with fail
        refine (specList_any 28 _ _ rs (mdL (zz L)) _ w _ rfl HS.out hfin.out hm2 hown.out hbel.out).mono ?_
        rintro e w3 ⟨v, ys, rfl, ho, hx', hb'⟩
        have HO := Lib.hid ho
        have HX2 := Lib.hid (hx'.trans HB.out.2.symm)
        have HBB := Lib.hid hb'
        have HT := Lib.hid (show fins (mdL (zz L)) = mdOk (zz L) from HB.out.1.symm)
        rw [HT.out]
        clear ho hx' hb'
        go_wp2
        go_ret2
        exact ⟨v, ys, rfl, HO.out, HX2.out, HBB.out⟩
end Go.Proofs.Ytallegmkkbmelab
namespace Go.Proofs.Ytallegmkkbmelab
open Ieee Go.RowKit
set_option linter.unusedVariables false

/-- What the closure reads. -/
def MdI (bl bp : Nat) (a : Option Addr) (n cap : Nat) (L : List FRw) (j : Nat) (_k : Nat) (wr : World) : Prop :=
  BoxR bl a n cap L wr ∧ wr.cell? ⟨bp, 0, none⟩ = some (.int .i64 j)
theorem mdc_any (bl bp B0 B k j : Nat) (a : Option Addr) (n cap : Nat) (L : List FRw) (wr : World) (h : MdI bl bp a n cap L j k wr) (hk : k < n) (hj : j < (L.getD k FRw.none).len) (hm : n ≤ 96) (hml : (L.getD k FRw.none).len ≤ 96) :
    Calls Try.prog 69 #[.int .i64 k, .pointer (some ⟨bl, 0, none⟩), .pointer (some ⟨bp, 0, none⟩)] wr (Tells (colT (zz L) j) (MdI bl bp a n cap L j) B0 B k wr) := by
  have HI := Lib.hid h
  obtain ⟨⟨hr, hrb⟩, hp⟩ := h
  obtain ⟨b, off, rfl, _, hrs⟩ := hrb (by omega)
  obtain ⟨hrk, hin⟩ := hrs k hk
  obtain ⟨c, o, he, _, hcc⟩ := hin (by omega)
  have hz := hcc j hj
  have HT := Lib.hid (show cn .f32 ((L.getD k FRw.none).zs.getD j 0) = colT (zz L) j k by unfold colT; rw [zz_at])
  unfold FRw.val at hrk
  generalize L.getD k FRw.none = r at *
  obtain ⟨ra, rl, rc, rz⟩ := r
  simp only at hrk hz he hj hml HT
  subst he
  clear hrb hrs hin hcc
  generalize rz.getD j 0 = z at *
  go_enter Try.func69, Try.ntmps69
  go_wp2
  go_region
  all_goals
    go_wp2
    go_ret
    exact Tells.quiet HT.out HI.out
set_option maxHeartbeats 4000000 in
set_option maxRecDepth 100000 in
theorem imMiddle_any (a : Option Addr) (n cap : Nat) (L : List FRw) (w : World) (h : RSl w a n L) (hn : n ≤ 1048576) :
    Calls Try.prog 35 #[.slice a n cap] w (RetOB 28 (mdR (zz L)) (mdOk (zz L)) w) := by
  have hmf : ∀ (fn : Fn) (first cap : Array Value) (w : World), (Instr.makeFunc fn first cap).run Try.prog w = .ok (.func fn first cap) w := fun _ _ _ _ => rfl
  have b1 := (Below.refl w.heap.size w).alloc (Nat.le_refl _) (.cells #[.slice a n cap] 53)
  have X1 := BoxR.start (cap := cap) (t := 53) h
  have G := Lib.hid b1
  have Y1 := Lib.hid X1
  have H1 := Lib.hid (RSl.below h b1)
  have hc1 := Y1.out.1
  have HL := Lib.hid h.1.1
  have HZ := Lib.hid (show (zz L).length = n by rw [zz_len]; exact h.1.1)
  clear h b1 X1
  cases hw : waysZ (zz L)
  · have HW := Lib.hid hw
    have HB := Lib.hid (md_bad hw)
    clear hw
    go_enter Try.func35, Try.ntmps35
    go_wp2_with fail
    refine (imWays_any _ _ _ _ _ H1.out hn).mono ?_
    rw [HW.out]
    rintro e w' ⟨m, rfl, rfl⟩
    go_wp2_with fail
    go_ret2
    exact fail_ob _ HB.out.1 HB.out.2 (below_drewN G.out _)
  · have HW := Lib.hid hw
    have HB := Lib.hid (md_good hw)
    obtain ⟨g1, g2, g3⟩ := waysZ_t hw
    rw [HZ.out] at g1 g2 g3
    obtain ⟨g4, _⟩ := g3 0 (by omega)
    have hlens : ∀ k, k < n → (L.getD k FRw.none).len = (L.getD 0 FRw.none).len := fun k hk => by
      have e1 := (g3 k hk).2
      rw [zz_at, zz_at, (H1.out.2 k hk).1.1, (H1.out.2 0 (by omega)).1.1] at e1
      exact e1
    have hl96 : (L.getD 0 FRw.none).len ≤ 96 := by
      have e1 := (serB_t g4).2.1
      rw [zz_at, (H1.out.2 0 (by omega)).1.1] at e1
      exact e1
    have HLen := Lib.hid hlens
    have HTl := Lib.hid (show tells (mdT (zz L)) (L.getD 0 FRw.none).len = mdL (zz L) by unfold mdL; rw [zz_at, (H1.out.2 0 (by omega)).1.1])
    have HLz := Lib.hid (show ((zz L).getD 0 []).length = (L.getD 0 FRw.none).len by rw [zz_at, (H1.out.2 0 (by omega)).1.1])
    obtain ⟨b, off, rfl, hbb, hcr⟩ := H1.out.1.at (by omega)
    have hcr0 := hcr 0 (by omega)
    rw [Nat.add_zero] at hcr0
    unfold FRw.val at hcr0
    clear hw g3 g4 hlens hcr
    generalize hr0 : L.getD 0 FRw.none = r0 at *
    obtain ⟨sa, sl, sc, sz⟩ := r0
    simp only at hl96 hcr0 HLen HTl HLz
    obtain ⟨i0, hi, hz0, hz1, hz2⟩ := info_parts Try.infoR
    have hmk := fun W => run_make_len (P := Try.prog) W 22 28 i0 (.float .f32 0) Try.underlying22 hi hz0 hz1 sl (by rw [hz2]; omega) (by omega)
    clear hi hz0 hz1 hz2 hr0
    go_enter Try.func35, Try.ntmps35
    go_wp2_with fail
    refine (imWays_any _ _ _ _ _ H1.out hn).mono ?_
    rw [HW.out]
    rintro e w' ⟨m, rfl, rfl⟩
    go_wp2
    clear hmk
    have HS0 := Lib.hid (show Head 28 (w.heap.size + 1) sl [] (((w.alloc (.cells #[.slice (some ⟨b, off, none⟩) n cap] 53)).drewN m).alloc (.cells (madeCells (Value.float .f32 0).cells sl) 28)) by simpa using Head.start (T := 28) (w := (w.alloc (.cells #[.slice (some ⟨b, off, none⟩) n cap] 53)).drewN m) (n := sl) (by omega))
    have HB0 := Lib.hid ((below_drewN G.out m).alloc (by simp) (.cells (madeCells (Value.float .f32 0).cells sl) 28))
    have HX0 := Lib.hid (Y1.out.keep (B := w.heap.size + 1) (by omega) ((below_drewN (Below.refl _ _) m).alloc (by simp) (.cells (madeCells (Value.float .f32 0).cells sl) 28)))
    go_loopw [19] (fun i wr => ∃ (k : Nat) (rs : List Nat), k ≤ sl ∧ i = .int .i64 k ∧ Hid (rs.length = k) ∧ Hid (Head 28 (w.heap.size + 1) sl rs wr) ∧ Hid (cnl rs = tells (mdT (zz L)) k) ∧ Hid (fins (tells (mdT (zz L)) k) = true) ∧ Hid (BoxR w.heap.size (some ⟨b, off, none⟩) n cap L wr) ∧ Hid (Below w.heap.size w wr)) (fun i _ => sl - (intOf i).toNat)
    case atStart => exact ⟨0, [], Nat.zero_le _, rfl, Lib.hid rfl, HS0, Lib.hid rfl, Lib.hid rfl, HX0, HB0⟩
    case round =>
      rename_i wr
      obtain ⟨k, rs, hk, rfl, hrl, hhead, hrs, hfin, hbox, hbel⟩ := hrel
      by_cases hlt : k < sl
      · have hcw := hbox.out.1
        have hgl := hhead.out.lt
        have hbl : w.heap.size < wr.heap.size := by omega
        have hKj : k < ((zz L).getD 0 []).length := by rw [HLz.out]; exact hlt
        have HCs := Lib.hid (col_ser HW.out hKj)
        have HCw := Lib.hid (fun cs hc => col_words HW.out hKj (cs := cs) hc)
        have HTc := Lib.hid (mdT_cn HW.out hKj)
        clear hc1 hcr0 hKj HX0 HS0 HB0
        go_wp2_with fail
        refine (places_any 69 #[.pointer (some ⟨w.heap.size, 0, none⟩), .pointer (some ⟨wr.heap.size, 0, none⟩)] (colT (zz L) k) (MdI w.heap.size wr.heap.size (some ⟨b, off, none⟩) n cap L k) (wr.heap.size + 1) n (wr.alloc (.cells #[.int .i64 k] 3)) (enter_of Try.func69 (by kernel_rfl) rfl) (by omega) (by simp)
          (by exact ⟨hbox.out.keep (B := w.heap.size + 1) (by omega) ((Below.refl _ wr).alloc (by omega) _), by rw [World.cell?_alloc_at _ _ _ _ rfl]; rfl⟩) (by exact fun k' wr1 wr2 h hb => ⟨h.1.keep (by simp; omega) hb, by rw [hb.cell (p := ⟨wr.heap.size, 0, none⟩) (by simp)]; exact h.2⟩)
          (by exact fun k' wr1 hk' hsz hI => mdc_any _ _ _ _ _ _ _ _ _ _ _ hI hk' (by rw [HLen.out k' hk']; exact hlt) (by omega) (by rw [HLen.out k' hk']; exact hl96))).mono ?_
        rintro e w2 ⟨v, cs, rfl, ho, hx, hb2⟩
        have hcs : cs = tells (colT (zz L) k) n := by
          have h1 := HCs.out
          have h2 := HCw.out cs
          rw [HZ.out] at h1 h2
          exact h2 (by rw [hx]; unfold lstR; rw [if_pos (serB_t h1).2.2])
        have hlc : cs.length = n := by rw [hcs, tells_len]
        have HD := Lib.hid (show med32 cs = mdT (zz L) k by rw [hcs]; unfold mdT; rw [HZ.out])
        have HSer := Lib.hid (show serB cs = true by have h1 := HCs.out; rw [HZ.out] at h1; rw [hcs]; exact h1)
        obtain ⟨A1, cp1, rfl, hsl1, _⟩ := ho.sl
        rw [hlc] at hsl1
        have HS1 := Lib.hid hsl1
        simp only [hlc]
        have hW2 : Below wr.heap.size wr w2 := ((Below.refl _ wr).alloc (Nat.le_refl _) _).trans (hb2.mono (by omega))
        have hcp2 : w2.cell? ⟨wr.heap.size, 0, none⟩ = some (.int .i64 k) := by rw [hb2.cell (p := ⟨wr.heap.size, 0, none⟩) (by simp), World.cell?_alloc_at _ _ _ _ rfl]; rfl
        have hsz2 : wr.heap.size + 1 ≤ w2.heap.size := by have := hb2.size; simpa using this
        have hh2 := hhead.out.same (hW2.block _ hgl)
        obtain ⟨⟨u, hcg⟩, hfg⟩ := hh2.cell hlt
        have HH2 := Lib.hid hh2
        have HB2 := Lib.hid (hbel.out.trans (hW2.mono (by have := hbel.out.size; exact this)))
        have HX2 := Lib.hid (hbox.out.keep (B := wr.heap.size) (by omega) hW2)
        have hgl2 : w.heap.size + 1 < w2.heap.size := by omega
        clear ho hx hb2 hcs hlc hsl1 hW2 hh2 hhead hbel hbox HCs HCw
        have hmB : medB cs = fin .f32 (mdT (zz L) k) := by unfold medB; rw [HSer.out, HD.out]; rfl
        have HI9 := implMed_any A1 n cp1 cs w2.drew (FSl.drewN HS1.out 1) hn
        rw [hmB] at HI9
        cases hf : fin .f32 (mdT (zz L) k)
        · rw [hf] at HI9
          have HMd := Lib.hid HI9
          have HE := Lib.hid (show fins (mdL (zz L)) = false by rw [← HTl.out]; exact tells_bad hlt hf)
          clear HI9 hmB hf
          go_wp2_with fail
          clear hmf g1 g2 hcw
          go_region_held3 (fun w' => w'.cell? ⟨wr.heap.size, 0, none⟩ = some (.int .i64 k)) (first | go_keep | (rw [hbm.cell (p := ⟨wr.heap.size, 0, none⟩) (by simp; omega)]; exact hcp2) | (rw [World.cell?_setCell_other _ _ _ _ (by intro e; injection e with e1 _ _; omega)]; rw [hbm.cell (p := ⟨wr.heap.size, 0, none⟩) (by simp; omega)]; exact hcp2) | (rw [World.cell?_setCell_other _ _ _ _ (by intro e; injection e with e1 _ _; omega)]; assumption)) (first | ((with_reducible refine HMd.out.mono ?_); rintro e w3 ⟨r, hr, rfl, hbm⟩; have hcg3 : w3.cell? ⟨w.heap.size + 1, k, none⟩ = some u := (by rw [hbm.cell (p := ⟨w.heap.size + 1, k, none⟩) (by simp; omega)]; exact hcg); have hfg3 : w3.frozen? ⟨w.heap.size + 1, k, none⟩ = false := (by unfold World.frozen?; rw [hbm.block (w.heap.size + 1) (by simp; omega)]; exact hfg)))
          all_goals
            have hb' : Below w2.heap.size w2 w3 := (below_drewN (Below.refl _ _) 1).trans hbm
            have HBx := Lib.hid ((HB2.out.trans (hb'.mono (show w.heap.size ≤ w2.heap.size by omega))).setCell (p := ⟨w.heap.size + 1, k, none⟩) (by show w.heap.size ≤ w.heap.size + 1; omega) (.float .f32 r))
            clear hr hbm hb' hcg3 hfg3
            go_wp2_with fail
            go_ret2
            exact fail_ob _ (by rw [HB.out.1, HE.out]) (by rw [HB.out.2]; unfold lstR; rw [HE.out]; rfl) (by first | exact HBx.out | exact below_drewN HBx.out _)
        · rw [hf] at HI9
          have HMv := Lib.hid (show medR cs = mdT (zz L) k by unfold medR; rw [hmB, hf, HD.out]; rfl)
          have HMd := Lib.hid HI9
          have HM := Lib.hid (tells_more hfin.out hf)
          clear HI9 hmB hf
          go_wp2_with fail
          clear hmf g1 g2 hcw
          go_region_held3 (fun w' => w'.cell? ⟨wr.heap.size, 0, none⟩ = some (.int .i64 k)) (first | go_keep | (rw [hbm.cell (p := ⟨wr.heap.size, 0, none⟩) (by simp; omega)]; exact hcp2) | (rw [World.cell?_setCell_other _ _ _ _ (by intro e; injection e with e1 _ _; omega)]; rw [hbm.cell (p := ⟨wr.heap.size, 0, none⟩) (by simp; omega)]; exact hcp2) | (rw [World.cell?_setCell_other _ _ _ _ (by intro e; injection e with e1 _ _; omega)]; assumption)) (first | ((with_reducible refine HMd.out.mono ?_); rintro e w3 ⟨r, hr, rfl, hbm⟩; have hcg3 : w3.cell? ⟨w.heap.size + 1, k, none⟩ = some u := (by rw [hbm.cell (p := ⟨w.heap.size + 1, k, none⟩) (by simp; omega)]; exact hcg); have hfg3 : w3.frozen? ⟨w.heap.size + 1, k, none⟩ = false := (by unfold World.frozen?; rw [hbm.block (w.heap.size + 1) (by simp; omega)]; exact hfg)))
          all_goals
            have hb' : Below w2.heap.size w2 w3 := (below_drewN (Below.refl _ _) 1).trans hbm
            have HBx := Lib.hid ((HB2.out.trans (hb'.mono (show w.heap.size ≤ w2.heap.size by omega))).setCell (p := ⟨w.heap.size + 1, k, none⟩) (by show w.heap.size ≤ w.heap.size + 1; omega) (.float .f32 r))
            have HP := Lib.hid ((HH2.out.same (hb'.block (w.heap.size + 1) hgl2)).push (by rw [hrl.out]; exact hlt) r)
            rw [hrl.out] at HP
            have HXn := Lib.hid ((HX2.out.keep (B := w2.heap.size) (by omega) hb').keep (B := w.heap.size + 1) (by omega) ((Below.refl _ w3).setCell (p := ⟨w.heap.size + 1, k, none⟩) (Nat.le_refl _) (.float .f32 r)))
            have HRc := Lib.hid (show cnl (rs ++ [r]) = tells (mdT (zz L)) (k + 1) by rw [tells_succ]; exact cnl_snoc hrs.out (hr.trans HMv.out))
            have HLn := Lib.hid (show (rs ++ [r]).length = k + 1 by rw [List.length_append, hrl.out]; rfl)
            clear hr hbm hb' hcg3 hfg3
            go_wp2_with fail
            go_roundw
            case rel => exact ⟨k + 1, rs ++ [r], by omega, by go_num, HLn, Lib.hid HP.out, HRc, HM, Lib.hid HXn.out, Lib.hid (by first | exact HBx.out | exact below_drewN HBx.out _)⟩
            case measure => simp [intOf]; omega
      · have hks : k = sl := by omega
        subst hks
        have HE := Lib.hid (show fins (mdL (zz L)) = true by rw [← HTl.out]; exact hfin.out)
        have HO := Lib.hid ((hhead.out.own hrl.out (Nat.le_refl _) (by unfold maxLen; omega)).mono (show w.heap.size ≤ w.heap.size + 1 by omega))
        have HC2 := Lib.hid (show cnl rs = mdR (zz L) by rw [HB.out.2]; unfold lstR; rw [HE.out, hrs.out, HTl.out]; rfl)
        clear hfin hhead hrs HX0 HS0 HB0
        go_wp2
        go_ret2
        exact ⟨_, rs, by rw [HB.out.1, HE.out]; rfl, HO.out, HC2.out, hbel.out⟩
end Go.Proofs.Ytallegmkkbmelab
namespace Go.Proofs.Ytallegmkkbmelab.fnExactMiddleBlend
open Go.RowKit Ieee
set_option linter.unusedVariables false
set_option maxHeartbeats 4000000 in
set_option maxRecDepth 100000 in
theorem walk (a0 : Option Addr) (len0 cap0 : Nat) (L0 : List FRw) (w : World) (w0 : RRow w a0 len0 cap0 L0) :
    Calls Try.prog 9 #[.slice a0 len0 cap0] w fun e w' => e = .returned (.bool true) ∧ Below w.heap.size w w' := by
  have hrb0 := w0.2.1
  have hrc0 := w0.2.2.1
  unfold maxLen at hrc0
  have hrl0 : ∀ j, j < len0 → (L0.getD j FRw.none).len ≤ 9223372036854775807 := fun j hj => by have h1 := (w0.2.2.2 j hj).2.1; have h2 := (w0.2.2.2 j hj).2.2.1; unfold maxLen at h2; omega
  have W0 := Lib.hid w0
  clear w0
  by_cases ht0 : len0 + tot L0 len0 ≤ 1048576
  rotate_left
  · go_enter Try.func9, Try.ntmps9
    go_wp2_with fail
    refine (rsz_any _ _ _ _ 1048576 _ W0.out.1 (by omega) (by omega) hrl0 (-1) (by rw [if_neg ht0])).mono ?_
    rintro e w' ⟨rfl, rfl⟩
    go_wp2_with fail
    go_ret
    exact ⟨rfl, Below.refl _ _⟩
  have hm0 : len0 ≤ 1048576 := by omega
  have hT0 := Lib.hid ht0
  have hq0 : ∀ j, j < len0 → (L0.getD j FRw.none).len ≤ 1048576 := fun j hj => by have := len_tot L0 hj; omega
  have HQ0 := Lib.hid hq0
  have H0 := Lib.hid (W0.out.rsl ht0)
  have HL0 := Lib.hid W0.out.1.1
  obtain ⟨T0, hTv0⟩ : ∃ t, tot L0 len0 = t := ⟨_, rfl⟩
  have HT0 := Lib.hid hTv0
  rw [hTv0] at ht0
  obtain ⟨v0, hv0⟩ : ∃ v : Int, v = if len0 + tot L0 len0 ≤ 1048576 then ((1048576 : Nat) : Int) - len0 - tot L0 len0 else -1 := ⟨_, rfl⟩
  have hv0_0 : decide (v0 < 0) = false := decide_eq_false (by rw [hv0, if_pos hT0.out, hTv0]; omega)
  have HV0 := Lib.hid hv0
  clear hv0 hTv0 hq0
  obtain ⟨x0, hx0⟩ : ∃ x : List Nat, mdR (zz L0) = x := ⟨_, rfl⟩
  have hX0 : x0.length ≤ 1048576 := by rw [← hx0]; exact mdR_len (zz L0)
  obtain ⟨y0, hy0⟩ : ∃ y : Nat, x0.length = y := ⟨_, rfl⟩
  rw [hy0] at hX0
  have HX0 := Lib.hid hx0
  have HY0 := Lib.hid hy0
  clear hx0 hy0
  have G := Lib.hid (Below.refl w.heap.size w)
  go_enter Try.func9, Try.ntmps9
  go_wp2_with fail
  refine (rsz_any _ _ _ _ 1048576 _ W0.out.1 (by omega) (by omega) hrl0 v0 HV0.out).mono ?_
  rintro e w' ⟨rfl, rfl⟩
  clear hrl0
  go_wp2_with fail
  refine (rto_any _ _ _ _ _ (RSl.below H0.out G.out) hm0).mono ?_
  rintro e u1 ⟨bS0, rfl, t, b, q1⟩
  replace G := Lib.hid (G.out.trans (b.mono G.out.size))
  have S0 := Lib.hid t
  have hsS0 : w.heap.size < u1.heap.size := q1
  clear t b q1
  go_wp2_with fail
  refine (spMiddle_any _ _ _ _ _ (S0.out.sl HQ0.out) hm0).mono ?_
  intro e u2 hR
  obtain ⟨AR0, cR0, dR0, rR0, rfl, ⟨t0, hc0, q2_0⟩, b⟩ := hR.resn (by rw [zz_new HL0.out]; exact HX0.out) HY0.out
  try rw [zz_new HL0.out]
  replace S0 := Lib.hid (S0.out.below b)
  replace G := Lib.hid (G.out.trans (b.mono G.out.size))
  have R0 := Lib.hid t0
  have CR0 := Lib.hid hc0
  have hdR0 : u1.heap.size ≤ dR0 := q2_0
  have hlR0 : 0 < y0 → dR0 < u2.heap.size := t0.lt_
  have hzR : u1.heap.size ≤ u2.heap.size := b.size
  clear hR b t0 hc0 q2_0
  clear S0
  go_wp2_with fail
  refine (rto_any _ _ _ _ _ (RSl.below H0.out G.out) hm0).mono ?_
  rintro e u3 ⟨bX0, rfl, t, b, q3⟩
  replace R0 := Lib.hid (R0.out.below b)
  replace G := Lib.hid (G.out.trans (b.mono G.out.size))
  have X0 := Lib.hid t
  have hsX0 : u2.heap.size < u3.heap.size := q3
  clear t b q3
  go_wp2_with fail
  refine (imMiddle_any _ _ _ _ _ (X0.out.sl HQ0.out) hm0).mono ?_
  intro e u4 hR
  obtain ⟨AQ0, cQ0, dQ0, rQ0, rfl, ⟨t0, hc0, q4_0⟩, b⟩ := hR.resn (by rw [zz_new HL0.out]; exact HX0.out) HY0.out
  try rw [zz_new HL0.out]
  replace R0 := Lib.hid (R0.out.below b)
  replace X0 := Lib.hid (X0.out.below b)
  replace G := Lib.hid (G.out.trans (b.mono G.out.size))
  have Q0 := Lib.hid t0
  have CQ0 := Lib.hid hc0
  have hdQ0 : u3.heap.size ≤ dQ0 := q4_0
  have hlQ0 : 0 < y0 → dQ0 < u4.heap.size := t0.lt_
  have hzQ : u3.heap.size ≤ u4.heap.size := b.size
  clear hR b t0 hc0 q4_0
  go_wp2_with fail
  refine (eqF_any _ _ _ _ _ _ _ _ Q0.out.sl R0.out.sl hX0 (same_cny HY0.out CQ0.out CR0.out)).mono ?_
  rintro e w' ⟨n5, rfl, rfl⟩
  go_wp2_with fail
  refine (rto_any _ _ _ _ _ (RSl.below H0.out (below_drewN G.out _)) hm0).mono ?_
  rintro e u6 ⟨bY0, rfl, t, b, q6⟩
  replace R0 := Lib.hid ((R0.out.drewN _).below b)
  replace X0 := Lib.hid ((X0.out.drewN _).below b)
  replace Q0 := Lib.hid ((Q0.out.drewN _).below b)
  replace G := Lib.hid ((below_drewN G.out _).trans (b.mono G.out.size))
  have Y0 := Lib.hid t
  have hsY0 : u4.heap.size < u6.heap.size := q6
  clear t b q6
  go_wp2_with fail
  refine (req_new X0.out Y0.out HQ0.out hm0).mono ?_
  rintro e w' ⟨n7, rfl, rfl⟩
  clear Y0
  go_wp2_with fail
  refine (rmark_any 1 (X0.out.drewN _) hm0 (by rw [HT0.out]; omega) (by omega)).mono ?_
  rintro e u8 ⟨rfl, o⟩
  rw [HT0.out]
  replace R0 := Lib.hid ((R0.out.drewN _).wth o (fun h0 => by (try have := hlR0 h0); (try have := hlQ0 h0); omega))
  replace Q0 := Lib.hid ((Q0.out.drewN _).wth o (fun h0 => by (try have := hlR0 h0); (try have := hlQ0 h0); omega))
  replace G := Lib.hid ((below_drewN G.out _).trans (o.below (by have := G.out.size; omega)))
  clear X0
  have hb8 : u8.heap.size = u6.heap.size := o.size
  have he8 : u6.heap.size ≤ u8.heap.size := Nat.le_of_eq hb8.symm
  clear o hb8
  go_wp2_with fail
  refine (eqF_any _ _ _ _ _ _ _ _ Q0.out.sl R0.out.sl hX0 (same_cny HY0.out CQ0.out CR0.out)).mono ?_
  rintro e w' ⟨n9, rfl, rfl⟩
  go_wp2_with fail
  refine (markt_any 1 (Q0.out.drewN _) hX0 (by omega)).mono ?_
  rintro e u10 ⟨rfl, o, m⟩
  replace R0 := Lib.hid ((R0.out.drewN _).only o (fun h0 => by (try have := hlR0 h0); (try have := hlQ0 h0); omega))
  replace G := Lib.hid ((below_drewN G.out _).trans (o.below (by have := G.out.size; omega)))
  replace Q0 := Lib.hid m
  have hb10 : u10.heap.size = u8.heap.size := o.size
  have he10 : u8.heap.size ≤ u10.heap.size := Nat.le_of_eq hb10.symm
  clear o m hb10
  go_wp2_with fail
  refine (heldt_any 1 Q0.out hX0 (by omega)).mono ?_
  rintro e w' ⟨rfl, rfl⟩
  go_wp2_with fail
  refine (rto_any _ _ _ _ _ (RSl.below H0.out G.out) hm0).mono ?_
  rintro e u11 ⟨bV0, rfl, t, b, q11⟩
  replace R0 := Lib.hid (R0.out.below b)
  replace Q0 := Lib.hid (Q0.out.below b)
  replace G := Lib.hid (G.out.trans (b.mono G.out.size))
  have V0 := Lib.hid t
  have hsV0 : u10.heap.size < u11.heap.size := q11
  clear t b q11
  go_wp2_with fail
  refine (imMiddle_any _ _ _ _ _ (V0.out.sl HQ0.out) hm0).mono ?_
  intro e u12 hR
  obtain ⟨AP0, cP0, dP0, rP0, rfl, ⟨t0, hc0, q12_0⟩, b⟩ := hR.resn (by rw [zz_new HL0.out]; exact HX0.out) HY0.out
  try rw [zz_new HL0.out]
  replace R0 := Lib.hid (R0.out.below b)
  replace Q0 := Lib.hid (Q0.out.below b)
  replace V0 := Lib.hid (V0.out.below b)
  replace G := Lib.hid (G.out.trans (b.mono G.out.size))
  have P0 := Lib.hid t0
  have CP0 := Lib.hid hc0
  have hdP0 : u11.heap.size ≤ dP0 := q12_0
  have hlP0 : 0 < y0 → dP0 < u12.heap.size := t0.lt_
  have hzP : u11.heap.size ≤ u12.heap.size := b.size
  clear hR b t0 hc0 q12_0
  go_wp2_with fail
  refine (eqF_any _ _ _ _ _ _ _ _ P0.out.sl R0.out.sl hX0 (same_cny HY0.out CP0.out CR0.out)).mono ?_
  rintro e w' ⟨n13, rfl, rfl⟩
  go_wp2_with fail
  refine (heldt_any 1 (Q0.out.drewN _) hX0 (by omega)).mono ?_
  rintro e w' ⟨rfl, rfl⟩
  go_wp2
  go_ret
  exact ⟨rfl, (below_drewN G.out _)⟩
end Go.Proofs.Ytallegmkkbmelab.fnExactMiddleBlend
