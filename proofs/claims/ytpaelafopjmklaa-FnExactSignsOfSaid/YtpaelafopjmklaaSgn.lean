/-
  SignsOf, in both packages.
-/
import Derived.Test.YtpaelafopjmklaaPmn
import Derived.Test.YtpaelafopjmklaaCut
import Derived.Test.YtpaelafopjmklaaIbk
namespace Go.Proofs.Ytpaelafopjmklaa
open Ieee Go.RowKit
set_option linter.unusedVariables false

def sgT (zs : List Nat) (q : Int) (cs : List Nat) (j : Nat) : Int := (cntC cs ((pmL zs q).getD j 0) cs.length : Nat)
def sgL (zs : List Nat) (q : Int) (cs : List Nat) : List Int := (List.range q.toNat).map (sgT zs q cs)
def sgB (zs : List Nat) (q : Int) (cs : List Nat) : Bool := pmB zs q && cutB cs
def sgR (zs : List Nat) (q : Int) (cs : List Nat) : List Int := if sgB zs q cs then sgL zs q cs else []
theorem sg_bad {zs : List Nat} {q : Int} {cs : List Nat} (h : sgB zs q cs = false) : sgB zs q cs = false ∧ sgR zs q cs = [] := ⟨h, by unfold sgR; rw [h]; rfl⟩
theorem sg_good {zs : List Nat} {q : Int} {cs : List Nat} (h : sgB zs q cs = true) : sgR zs q cs = sgL zs q cs := by unfold sgR; rw [h]; rfl
theorem pm_full {zs : List Nat} {q : Int} (h : pmB zs q = true) : pmR zs q = pmL zs q ∧ 1 ≤ q ∧ q ≤ 96 := by
  have hs : stepB zs q = true := by unfold pmB at h; exact (Bool.and_eq_true _ _ ▸ h).1
  obtain ⟨_, h1, h2, h3⟩ := stepB_t hs
  refine ⟨?_, h1, by omega⟩
  rw [(pm_good hs).2]; unfold lstR; rw [← (pm_good hs).1, h]; rfl
theorem sgR_len (zs : List Nat) (q : Int) (cs : List Nat) : (sgR zs q cs).length ≤ 1048576 := by
  unfold sgR
  split
  · rename_i h
    have hp : pmB zs q = true := by unfold sgB at h; exact (Bool.and_eq_true _ _ ▸ h).1
    obtain ⟨_, h1, h2⟩ := pm_full hp
    unfold sgL
    simp
    omega
  · simp
/-- The signs behind i parts, and k cuts of the next one. -/
def sgF (zs : List Nat) (q : Int) (cs : List Nat) (i k j : Nat) : Int := if j < i then sgT zs q cs j else if j = i then (cntC cs ((pmL zs q).getD j 0) k : Nat) else 0
set_option maxHeartbeats 4000000 in
set_option maxRecDepth 100000 in
theorem imSgn_any (a : Option Addr) (len cap : Nat) (zs : List Nat) (q : Int) (a' : Option Addr) (len' cap' : Nat) (cs : List Nat) (w : World) (h : FSl w a len zs) (h' : FSl w a' len' cs) (hm : len ≤ 1048576) (hm' : len' ≤ 1048576) (hcap : len ≤ cap) (hcap2 : cap ≤ 1048576) :
    Calls Try.prog 48 #[.slice a len cap, .int .i64 q, .slice a' len' cap'] w (RetOI 2 (sgR zs q cs) (sgB zs q cs) w) := by
  obtain ⟨i0, hi, hz0, hz1, hz2⟩ := info_parts Try.infoI
  have H := Lib.hid h
  have H' := Lib.hid h'
  have HL' := Lib.hid h'.1
  clear h h'
  cases hp : pmB zs q
  · have HP := Lib.hid hp
    have HB := Lib.hid (sg_bad (zs := zs) (q := q) (cs := cs) (by unfold sgB; rw [hp]; rfl))
    clear hp
    go_enter Try.func48, Try.ntmps48
    go_wp2_with fail
    refine (imPmn_any _ _ _ _ _ _ H.out hm hcap hcap2).mono ?_
    rw [HP.out]
    rintro e w1 ⟨v, rs, rfl, ho, hx, hb⟩
    have HBl := Lib.hid hb
    clear ho hx hb
    go_wp2
    go_ret2
    exact fail_oi _ HB.out.1 HB.out.2 HBl.out
  · obtain ⟨hfull, hq1, hq2⟩ := pm_full hp
    have HP := Lib.hid hp
    have HFu := Lib.hid hfull
    cases hc : cutB cs
    · have HC := Lib.hid hc
      have HB := Lib.hid (sg_bad (zs := zs) (q := q) (cs := cs) (by unfold sgB; rw [hc]; simp))
      clear hp hfull hc
      go_enter Try.func48, Try.ntmps48
      go_wp2_with fail
      refine (imPmn_any _ _ _ _ _ _ H.out hm hcap hcap2).mono ?_
      rw [HP.out]
      rintro e w1 ⟨v, rs, rfl, ho, hx, hb⟩
      have HBl := Lib.hid hb
      clear ho hx hb
      go_wp2_with fail
      refine (imCuts_any _ _ _ _ _ (FSl.below H'.out HBl.out) hm').mono ?_
      rw [HC.out]
      rintro e w' ⟨m, rfl, rfl⟩
      go_wp2
      go_ret2
      exact fail_oi _ HB.out.1 HB.out.2 (below_drewN HBl.out _)
    · obtain ⟨n, rfl⟩ : ∃ n : Nat, q = n := ⟨q.toNat, by omega⟩
      have hn1 : 1 ≤ n := by omega
      have hn2 : n ≤ 96 := by omega
      have hk16 := (cut_t hc).1
      rw [HL'.out] at hk16
      have HC := Lib.hid hc
      have hB : sgB zs n cs = true := by unfold sgB; rw [hp, hc]; rfl
      have HB := Lib.hid (And.intro hB (sg_good hB))
      clear hp hfull hc hB hq1 hq2
      go_enter Try.func48, Try.ntmps48
      go_wp2_with fail
      refine (imPmn_any _ _ _ _ _ _ H.out hm hcap hcap2).mono ?_
      rw [HP.out]
      rintro e w1 ⟨v, rs, rfl, ho, hx, hb⟩
      have hlen : rs.length = n := by rw [← cnl_len, hx, HFu.out]; unfold pmL; rw [tells_len, Int.toNat_natCast]
      obtain ⟨A, cp, rfl, hsl, _⟩ := ho.sl
      rw [hlen] at hsl ⊢
      have HSL := Lib.hid hsl
      have HX := Lib.hid (show ∀ j, j < n → cn .f32 (rs.getD j 0) = cn .f32 ((pmL zs n).getD j 0) from fun j hj => by rw [← HFu.out, ← hx, cnl_at (by omega), cn_cn])
      have HBl := Lib.hid hb
      have HS' := Lib.hid (FSl.below H'.out hb)
      clear ho hx hb hsl hlen
      go_wp2_with fail
      refine (imCuts_any _ _ _ _ _ HS'.out hm').mono ?_
      rw [HC.out]
      rintro e w' ⟨m, rfl, rfl⟩
      have hmk := fun W => run_make_len (P := Try.prog) W 45 2 i0 (.int .i64 0) Try.underlying45 hi hz0 hz1 n (by rw [hz2]; omega) (by omega)
      obtain ⟨g, hg⟩ : ∃ g, w1.heap.size = g := ⟨_, rfl⟩
      have HI0 := Lib.hid (show IBlk 2 g n (sgF zs n cs 0 0) ((w1.drewN m).alloc (.cells (madeCells (Value.int .i64 0).cells n) 2)) from by
        have := IBlk.start (w1.drewN m) 2 n
        rw [show (w1.drewN m).heap.size = g from hg] at this
        exact this.congr fun j hj => by unfold sgF; rw [if_neg (by omega)]; split <;> rfl)
      have HB1 := Lib.hid (show Below g w1 ((w1.drewN m).alloc (.cells (madeCells (Value.int .i64 0).cells n) 2)) from (below_drewN (Below.refl _ _) m).alloc (by show g ≤ w1.heap.size; omega) _)
      have HGl := Lib.hid (show w.heap.size ≤ g from by rw [← hg]; exact HBl.out.size)
      have HGe := Lib.hid hg
      clear hi hz0 hz1 hz2
      go_wp2
      try rw [show (w1.drewN m).heap.size = g from hg]
      clear hmk hg
      go_loopw [33] (fun c wr => ∃ i : Nat, i ≤ n ∧ c = .int .i64 i ∧ Hid (IBlk 2 g n (sgF zs n cs i 0) wr) ∧ Hid (Below g w1 wr)) (fun c _ => n - (intOf c).toNat)
      case atStart => exact ⟨0, Nat.zero_le _, rfl, HI0, HB1⟩
      case round =>
        rename World => wo
        obtain ⟨i, hin, rfl, hblk, hbel⟩ := hrel
        by_cases hlt : i < n
        · obtain ⟨b, off, rfl, hb, hcs⟩ := HSL.out.at (by omega)
          have hck := hcs i hlt
          rw [← hbel.out.cell (p := ⟨b, off + i, none⟩) (by show b < g; have := HGe.out; omega)] at hck
          have HXi := Lib.hid (HX.out i hlt)
          generalize rs.getD i 0 = x at *
          clear hcs
          go_wp2
          go_loopw [40] (fun c wr => ∃ k : Nat, k ≤ len' ∧ c = .int .i64 k ∧ Hid (IBlk 2 g n (sgF zs n cs i k) wr) ∧ Hid (Below g w1 wr)) (fun c _ => len' - (intOf c).toNat)
          case atStart => exact ⟨0, Nat.zero_le _, rfl, hblk, hbel⟩
          case round =>
            obtain ⟨k, hkl, rfl, hblk2, hbel2⟩ := hrel
            by_cases hlt2 : k < len'
            · obtain ⟨b', off', rfl, hb', hcs'⟩ := HS'.out.at (by omega)
              have hck' := hcs' k hlt2
              rw [← hbel2.out.cell (p := ⟨b', off' + k, none⟩) (by show b' < g; have := HGe.out; omega)] at hck'
              have HQ := Lib.hid (show leF (cs.getD k 0) ((pmL zs n).getD i 0) = leF (cs.getD k 0) x from leF_congr rfl HXi.out.symm)
              obtain ⟨hci, hfi⟩ := hblk2.out.cell hlt
              have HV := Lib.hid (show sgF zs n cs i k i = ((cntC cs ((pmL zs n).getD i 0) k : Nat) : Int) from by unfold sgF; rw [if_neg (by omega), if_pos rfl])
              rw [HV.out] at hci
              have hcb := cntC_le cs ((pmL zs n).getD i 0) k
              have HSt := Lib.hid (show cntC cs ((pmL zs n).getD i 0) (k + 1) = cntC cs ((pmL zs n).getD i 0) k + if leF (cs.getD k 0) ((pmL zs n).getD i 0) then 1 else 0 from rfl)
              have HSet := Lib.hid (show ∀ y : Int, y = ((cntC cs ((pmL zs n).getD i 0) (k + 1) : Nat) : Int) → ∀ wr2, IBlk 2 g n (sgF zs n cs i k) wr2 → IBlk 2 g n (sgF zs n cs i (k + 1)) (wr2.setCell ⟨g, i, none⟩ (.int .i64 y)) from fun y hy wr2 hw2 => (hw2.set hlt y).congr fun j hj => by
                unfold sgF
                by_cases e : j = i
                · subst e; rw [if_pos rfl, if_neg (by omega), if_pos rfl, hy]
                · rw [if_neg e]; by_cases e2 : j < i
                  · rw [if_pos e2, if_pos e2]
                  · rw [if_neg e2, if_neg e2, if_neg e, if_neg e])
              have HKeep := Lib.hid (show leF (cs.getD k 0) ((pmL zs n).getD i 0) = false → ∀ wr2, IBlk 2 g n (sgF zs n cs i k) wr2 → IBlk 2 g n (sgF zs n cs i (k + 1)) wr2 from fun hf wr2 hw2 => hw2.congr fun j hj => by
                unfold sgF
                by_cases e : j = i
                · subst e; rw [if_neg (by omega), if_pos rfl, if_neg (by omega), if_pos rfl, HSt.out, hf]; simp
                · rw [if_neg e, if_neg e])
              generalize cntC cs ((pmL zs n).getD i 0) k = C at *
              generalize cs.getD k 0 = y at *
              clear hcs' HV
              cases hl : leF y x
              · have ho : ((FloatKind.format .f32).order y x == some Ordering.lt || (FloatKind.format .f32).order y x == some Ordering.eq) = false := hl
                have HN := Lib.hid (HKeep.out (HQ.out.trans hl) _ hblk2.out)
                clear hl HQ HKeep HSet HSt
                go_wp2
                go_roundw
                case rel => exact ⟨k + 1, by omega, by go_num, HN, hbel2⟩
                case measure => simp [intOf]; omega
              · have ho : ((FloatKind.format .f32).order y x == some Ordering.lt || (FloatKind.format .f32).order y x == some Ordering.eq) = true := hl
                have HN := Lib.hid (HSet.out ((C : Int) + 1) (by rw [HSt.out, HQ.out, hl]; simp) _ hblk2.out)
                have HBn := Lib.hid (hbel2.out.setCell (p := ⟨g, i, none⟩) (Nat.le_refl _) (.int .i64 ((C : Int) + 1)))
                clear hl HQ HKeep HSet HSt
                go_wp2
                go_roundw
                case rel => exact ⟨k + 1, by omega, by go_num, HN, HBn⟩
                case measure => simp [intOf]; omega
            · have e : k = len' := by omega
              have HN := Lib.hid (hblk2.out.congr (f' := sgF zs n cs (i + 1) 0) fun j hj => by
                unfold sgF
                by_cases e1 : j < i
                · rw [if_pos e1, if_pos (by omega)]
                · by_cases e2 : j = i
                  · subst e2; rw [if_neg (by omega), if_pos rfl, if_pos (by omega)]; unfold sgT; rw [HL'.out, e]
                  · rw [if_neg e1, if_neg e2, if_neg (by omega)]; split
                    · rfl
                    · rfl)
              clear e
              go_wp2
              go_roundw
              case rel => exact ⟨i + 1, by omega, by go_num, HN, hbel2⟩
              case measure => simp [intOf]; omega
        · have e : i = n := by omega
          have HOw := Lib.hid ((hblk.out.own (by unfold maxLen; omega)).mono HGl.out)
          have HLi := Lib.hid (show (List.range n).map (sgF zs n cs i 0) = sgR zs n cs from by
            rw [HB.out.2]; unfold sgL; rw [Int.toNat_natCast]
            exact List.map_congr_left fun j hj => by unfold sgF; rw [if_pos (by rw [e]; simpa using hj)])
          have HBn := Lib.hid (HBl.out.trans (hbel.out.mono HGl.out))
          clear e
          go_wp2
          go_ret2
          exact ⟨_, by rw [HB.out.1]; rfl, by rw [← HLi.out]; exact HOw.out, HBn.out⟩
set_option maxHeartbeats 4000000 in
set_option maxRecDepth 100000 in
theorem spSgn_any (a : Option Addr) (len cap : Nat) (zs : List Nat) (q : Int) (a' : Option Addr) (len' cap' : Nat) (cs : List Nat) (w : World) (h : FSl w a len zs) (h' : FSl w a' len' cs) (hm : len ≤ 1048576) (hm' : len' ≤ 1048576) (hcap : len ≤ cap) (hcap2 : cap ≤ 1048576) :
    Calls Try.prog 47 #[.slice a len cap, .int .i64 q, .slice a' len' cap'] w (RetOI 2 (sgR zs q cs) (sgB zs q cs) w) := by
  obtain ⟨i0, hi, hz0, hz1, hz2⟩ := info_parts Try.infoI
  have H := Lib.hid h
  have H' := Lib.hid h'
  have HL' := Lib.hid h'.1
  clear h h'
  cases hp : pmB zs q
  · have HP := Lib.hid hp
    have HB := Lib.hid (sg_bad (zs := zs) (q := q) (cs := cs) (by unfold sgB; rw [hp]; rfl))
    clear hp
    go_enter Try.func47, Try.ntmps47
    go_wp2_with fail
    refine (spPmn_any _ _ _ _ _ _ H.out hm hcap hcap2).mono ?_
    rw [HP.out]
    rintro e w1 ⟨v, rs, rfl, ho, hx, hb⟩
    have HBl := Lib.hid hb
    clear ho hx hb
    go_wp2
    go_ret2
    exact fail_oi _ HB.out.1 HB.out.2 HBl.out
  · obtain ⟨hfull, hq1, hq2⟩ := pm_full hp
    have HP := Lib.hid hp
    have HFu := Lib.hid hfull
    cases hc : cutB cs
    · have HC := Lib.hid hc
      have HB := Lib.hid (sg_bad (zs := zs) (q := q) (cs := cs) (by unfold sgB; rw [hc]; simp))
      clear hp hfull hc
      go_enter Try.func47, Try.ntmps47
      go_wp2_with fail
      refine (spPmn_any _ _ _ _ _ _ H.out hm hcap hcap2).mono ?_
      rw [HP.out]
      rintro e w1 ⟨v, rs, rfl, ho, hx, hb⟩
      have HBl := Lib.hid hb
      clear ho hx hb
      go_wp2_with fail
      refine (spCuts_any _ _ _ _ _ (FSl.below H'.out HBl.out) hm').mono ?_
      rw [HC.out]
      rintro e w' ⟨m, rfl, rfl⟩
      go_wp2
      go_ret2
      exact fail_oi _ HB.out.1 HB.out.2 (below_drewN HBl.out _)
    · obtain ⟨n, rfl⟩ : ∃ n : Nat, q = n := ⟨q.toNat, by omega⟩
      have hn1 : 1 ≤ n := by omega
      have hn2 : n ≤ 96 := by omega
      have hk16 := (cut_t hc).1
      rw [HL'.out] at hk16
      have HC := Lib.hid hc
      have hB : sgB zs n cs = true := by unfold sgB; rw [hp, hc]; rfl
      have HB := Lib.hid (And.intro hB (sg_good hB))
      clear hp hfull hc hB hq1 hq2
      go_enter Try.func47, Try.ntmps47
      go_wp2_with fail
      refine (spPmn_any _ _ _ _ _ _ H.out hm hcap hcap2).mono ?_
      rw [HP.out]
      rintro e w1 ⟨v, rs, rfl, ho, hx, hb⟩
      have hlen : rs.length = n := by rw [← cnl_len, hx, HFu.out]; unfold pmL; rw [tells_len, Int.toNat_natCast]
      obtain ⟨A, cp, rfl, hsl, _⟩ := ho.sl
      rw [hlen] at hsl ⊢
      have HSL := Lib.hid hsl
      have HX := Lib.hid (show ∀ j, j < n → cn .f32 (rs.getD j 0) = cn .f32 ((pmL zs n).getD j 0) from fun j hj => by rw [← HFu.out, ← hx, cnl_at (by omega), cn_cn])
      have HBl := Lib.hid hb
      have HS' := Lib.hid (FSl.below H'.out hb)
      clear ho hx hb hsl hlen
      go_wp2_with fail
      refine (spCuts_any _ _ _ _ _ HS'.out hm').mono ?_
      rw [HC.out]
      rintro e w' ⟨m, rfl, rfl⟩
      have HW1 := Lib.hid HBl.out.size
      have HO := Lib.hid (fun q => IOwn.made (T := 2) (B := w1.heap.size) (w1.drewN q) (Nat.le_refl _))
      have HB0 := Lib.hid (fun q => (below_drewN (Below.refl w1.heap.size w1) q).alloc (Nat.le_refl _) (.cells #[] 2))
      go_wp2
      go_loopw [10, 30] (fun v c wr => ∃ i : Nat, i ≤ n ∧ c = .int .i64 i ∧ Hid (IOwn 2 w1.heap.size wr v ((List.range i).map (sgT zs n cs))) ∧ Hid (Below w1.heap.size w1 wr)) (fun _ c _ => n - (intOf c).toNat)
      case atStart => exact ⟨0, Nat.zero_le _, rfl, Lib.hid (HO.out _), Lib.hid (HB0.out _)⟩
      case round =>
        rename World => wo
        obtain ⟨i, hin, rfl, hown, hbel⟩ := hrel
        by_cases hlt : i < n
        · obtain ⟨b, off, rfl, hb, hcs⟩ := HSL.out.at (by omega)
          have hck := hcs i hlt
          rw [← hbel.out.cell (p := ⟨b, off + i, none⟩) hb] at hck
          have HXi := Lib.hid (HX.out i hlt)
          have hsz := hbel.out.size
          generalize rs.getD i 0 = x at *
          clear hcs
          go_wp2
          go_loopw [12, 35] (fun s c wr => ∃ k p : Nat, k ≤ len' ∧ c = .int .i64 k ∧ s = .int .i64 (cntC cs ((pmL zs n).getD i 0) k : Nat) ∧ wr = wo.drewN p) (fun _ c _ => len' - (intOf c).toNat)
          case atStart => exact ⟨0, 0, Nat.zero_le _, rfl, rfl, rfl⟩
          case round =>
            obtain ⟨k, p, hkl, rfl, rfl, rfl⟩ := hrel
            have hcb := cntC_le cs ((pmL zs n).getD i 0) k
            by_cases hlt2 : k < len'
            · obtain ⟨b', off', rfl, hb', hcs'⟩ := HS'.out.at (by omega)
              have hck' := hcs' k hlt2
              rw [← hbel.out.cell (p := ⟨b', off' + k, none⟩) hb'] at hck'
              have HQ := Lib.hid (show leF (cs.getD k 0) ((pmL zs n).getD i 0) = leF (cs.getD k 0) x from leF_congr rfl HXi.out.symm)
              have HSt := Lib.hid (show cntC cs ((pmL zs n).getD i 0) (k + 1) = cntC cs ((pmL zs n).getD i 0) k + if leF (cs.getD k 0) ((pmL zs n).getD i 0) then 1 else 0 from rfl)
              generalize cntC cs ((pmL zs n).getD i 0) k = C at *
              generalize cs.getD k 0 = y at *
              clear hcs'
              cases hl : leF y x
              · have ho : ((FloatKind.format .f32).order y x == some Ordering.lt || (FloatKind.format .f32).order y x == some Ordering.eq) = false := hl
                have HN := Lib.hid (show cntC cs ((pmL zs n).getD i 0) (k + 1) = C by rw [HSt.out, HQ.out, hl]; simp)
                clear hl HQ HSt
                go_wp2
                go_region
                all_goals
                  go_wp2
                  go_roundw
                  case rel => exact ⟨k + 1, _, by omega, by go_num, by rw [HN.out], rfl⟩
                  case measure => simp [intOf]; omega
              · have ho : ((FloatKind.format .f32).order y x == some Ordering.lt || (FloatKind.format .f32).order y x == some Ordering.eq) = true := hl
                have HN := Lib.hid (show cntC cs ((pmL zs n).getD i 0) (k + 1) = C + 1 by rw [HSt.out, HQ.out, hl]; simp)
                clear hl HQ HSt
                go_wp2
                go_region
                all_goals
                  go_wp2
                  go_roundw
                  case rel => exact ⟨k + 1, _, by omega, by go_num, by rw [HN.out]; go_num, rfl⟩
                  case measure => simp [intOf]; omega
            · have e : k = len' := by omega
              obtain ⟨C, hC⟩ : ∃ C, cntC cs ((pmL zs n).getD i 0) k = C := ⟨_, rfl⟩
              obtain ⟨xs, hxs⟩ : ∃ xs, (List.range i).map (sgT zs n cs) = xs := ⟨_, rfl⟩
              have HLi := Lib.hid (show xs ++ [((C : Nat) : Int)] = (List.range (i + 1)).map (sgT zs n cs) from by
                rw [List.range_succ, List.map_append, hxs, ← hC]
                show xs ++ _ = xs ++ [sgT zs n cs i]
                unfold sgT; rw [HL'.out, e])
              have hrk : xs.length ≤ 1048576 := by rw [← hxs]; simp; omega
              have HXs := Lib.hid hxs
              rw [hxs] at hown
              rw [hC] at hcb ⊢
              clear hxs hC e
              go_wp2_with (at_builtin; refine wpList_append_own _ rfl _ _ 45 rfl w1.heap.size 2 i0 (.int .i64 0) 1 8 Try.underlying45 hi hz0 hz1 hz2 rfl (by decide) _ _ _ rfl (World.ownsRow.alloc (IOwn.drewN hown.out _) _) ⟨wo.heap.size, 0, none⟩ 1 1 [_] rfl rfl (one_new rfl) ?c2 ?c3 ?c4 ?c5 ?_)
              case c2 => intro u hu; simp at hu; subst hu; rfl
              case c3 => unfold maxLen; omega
              case c4 => omega
              case c5 => simp; show w1.heap.size ≤ wo.heap.size + 1; omega
              intro v' w2 hown' hgrow _
              have R := IOwn.push hown.out hbel.out hsz hown' hgrow
              have hR := Lib.hid R
              clear R hown' hgrow
              go_wp2
              go_roundw
              case rel => exact ⟨i + 1, by omega, by go_num, by rw [← HLi.out]; exact Lib.hid hR.out.1, Lib.hid hR.out.2⟩
              case measure => simp [intOf]; omega
        · have e : i = n := by omega
          have HOw := Lib.hid (hown.out.mono HW1.out)
          have HLi := Lib.hid (show (List.range i).map (sgT zs n cs) = sgR zs n cs from by rw [HB.out.2]; unfold sgL; rw [Int.toNat_natCast, e])
          have HBn := Lib.hid (HBl.out.trans (hbel.out.mono HW1.out))
          clear e
          go_wp2
          go_ret2
          exact ⟨_, by rw [HB.out.1]; rfl, by rw [← HLi.out]; exact HOw.out, HBn.out⟩
end Go.Proofs.Ytpaelafopjmklaa
