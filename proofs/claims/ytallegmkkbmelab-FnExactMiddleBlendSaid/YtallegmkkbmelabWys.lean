/-
  Lists that can be held together, in both packages: 'areWays', 'l06Lists'; rows of lists in boxes.
-/
import Derived.Test.YtallegmkkbmelabRow
import Derived.Test.YtallegmkkbmelabPr2
import Derived.Test.YtallegmkkbmelabCBox
namespace Go.Proofs.Ytallegmkkbmelab
open Ieee Go.RowKit
set_option linter.unusedVariables false

def allZ (Z : List (List Nat)) : Bool := Z.all fun z => serB z && decide (z.length = (Z.getD 0 []).length)
def waysZ (Z : List (List Nat)) : Bool := decide (1 ≤ Z.length ∧ Z.length ≤ 8) && allZ Z
theorem are_zz (L : List FRw) : areB L = allZ (zz L) := by
  unfold areB allZ
  rw [zz_at]
  unfold zz
  rw [List.all_map]
  rfl
theorem waysZ_t {Z : List (List Nat)} (h : waysZ Z = true) : 1 ≤ Z.length ∧ Z.length ≤ 8 ∧ ∀ i, i < Z.length → serB (Z.getD i []) = true ∧ (Z.getD i []).length = (Z.getD 0 []).length := by
  unfold waysZ at h
  have h1 := of_decide_eq_true (Bool.and_eq_true _ _ ▸ h).1
  have h2 := (Bool.and_eq_true _ _ ▸ h).2
  refine ⟨h1.1, h1.2, fun i hi => ?_⟩
  have := List.all_eq_true.1 h2 (Z.getD i []) (by simp [List.getD, hi])
  exact ⟨(Bool.and_eq_true _ _ ▸ this).1, of_decide_eq_true (Bool.and_eq_true _ _ ▸ this).2⟩
theorem imWays_any (a : Option Addr) (n cap : Nat) (L : List FRw) (w : World) (h : RSl w a n L) (hn : n ≤ 1048576) :
    Calls Try.prog 68 #[.slice a n cap] w (RetV (.bool (waysZ (zz L))) w) := by
  have H := Lib.hid h
  have HL := Lib.hid (show (zz L).length = n by rw [zz_len]; exact h.1.1)
  clear h
  by_cases h1 : 1 ≤ n
  · have hd1 : decide ((1 : Int) ≤ (n : Int)) = true := decide_eq_true (by omega)
    by_cases h2 : n ≤ 8
    · have hd2 : decide ((n : Int) ≤ 8) = true := decide_eq_true (by omega)
      have HB := Lib.hid (show waysZ (zz L) = areB L by unfold waysZ; rw [HL.out, decide_eq_true ⟨h1, h2⟩, are_zz]; rfl)
      go_enter Try.func68, Try.ntmps68
      go_wp2_with fail
      refine (implAre_any _ _ _ _ _ H.out hn).mono ?_
      rintro e w' ⟨m, rfl, rfl⟩
      go_wp2_with fail
      go_ret
      exact ⟨m, by rw [HB.out]; rfl, rfl⟩
    · have hd2 : decide ((n : Int) ≤ 8) = false := decide_eq_false (by omega)
      have HB := Lib.hid (show waysZ (zz L) = false by unfold waysZ; rw [HL.out, decide_eq_false (fun h => h2 h.2)]; rfl)
      go_enter Try.func68, Try.ntmps68
      go_wp2_with fail
      go_ret
      exact ⟨0, by rw [HB.out]; rfl, rfl⟩
  · have hd1 : decide ((1 : Int) ≤ (n : Int)) = false := decide_eq_false (by omega)
    have HB := Lib.hid (show waysZ (zz L) = false by unfold waysZ; rw [HL.out, decide_eq_false (fun h => h1 h.1)]; rfl)
    go_enter Try.func68, Try.ntmps68
    go_wp2_with fail
    go_ret
    exact ⟨0, by rw [HB.out]; rfl, rfl⟩
def prZ (Z : List (List Nat)) (i : Nat) : Bool := pairB (Z.getD i []) (Z.getD 0 [])
theorem all_pr {Z : List (List Nat)} (h0 : 1 ≤ Z.length) (h : ∀ i, i < Z.length → prZ Z i = true) : allZ Z = true := by
  unfold allZ
  rw [List.all_eq_true]
  intro z hz
  obtain ⟨j, hj, rfl⟩ := List.getElem_of_mem hz
  obtain ⟨h1, h2, h3⟩ := pairB_t (h j hj)
  have e : Z.getD j [] = Z[j] := by simp [List.getD, hj]
  rw [e] at h1 h3
  rw [h1, decide_eq_true h3]; rfl
theorem not_pr {Z : List (List Nat)} {k : Nat} (hk : k < Z.length) (h : prZ Z k = false) : allZ Z = false := by
  refine Bool.eq_false_iff.2 fun ha => ?_
  unfold allZ at ha
  rw [List.all_eq_true] at ha
  have g1 := ha (Z.getD k []) (by simp [List.getD, hk])
  have g0 := ha (Z.getD 0 []) (by simp [List.getD, show 0 < Z.length by omega])
  obtain ⟨a1, a2⟩ := Bool.and_eq_true_iff.1 g1
  obtain ⟨b1, _⟩ := Bool.and_eq_true_iff.1 g0
  unfold prZ pairB at h
  rw [a1, b1, a2] at h
  cases h
set_option maxRecDepth 100000 in
theorem spLists_any (a : Option Addr) (n cap : Nat) (L : List FRw) (w : World) (h : RSl w a n L) (hn : n ≤ 1048576) :
    Calls Try.prog 65 #[.slice a n cap] w (RetV (.bool (waysZ (zz L))) w) := by
  have H := Lib.hid h
  have HL := Lib.hid (show (zz L).length = n by rw [zz_len]; exact h.1.1)
  clear h
  by_cases h1 : 1 ≤ n
  · have hd1 : decide ((n : Int) < 1) = false := decide_eq_false (by omega)
    by_cases h2 : n ≤ 8
    · have hd2 : decide ((8 : Int) < (n : Int)) = false := decide_eq_false (by omega)
      have HB := Lib.hid (show waysZ (zz L) = allZ (zz L) by unfold waysZ; rw [HL.out, decide_eq_true ⟨h1, h2⟩]; rfl)
      go_enter Try.func65, Try.ntmps65
      go_wp2
      go_loopw [3] (fun i wr => ∃ k m : Nat, k ≤ n ∧ i = .int .i64 k ∧ wr = w.drewN m ∧ Hid (∀ j, j < k → prZ (zz L) j = true)) (fun i _ => n - (intOf i).toNat)
      case atStart => exact ⟨0, 0, Nat.zero_le _, rfl, rfl, Lib.hid (fun j hj => by omega)⟩
      case round =>
        obtain ⟨k, m, hk, rfl, rfl, hp⟩ := hrel
        by_cases hlt : k < n
        · obtain ⟨b, off, rfl, _, hc⟩ := H.out.1.at (by omega)
          have hck := hc k hlt
          have hc0 := hc 0 (by omega)
          rw [Nat.add_zero] at hc0
          obtain ⟨hF, hFm⟩ := H.out.2 k hlt
          obtain ⟨hF0, hFm0⟩ := H.out.2 0 (by omega)
          have hpk : prZ (zz L) k = pairB (L.getD k FRw.none).zs (L.getD 0 FRw.none).zs := by unfold prZ; rw [zz_at, zz_at]
          unfold FRw.val at hck hc0
          generalize L.getD k FRw.none = r at *
          generalize L.getD 0 FRw.none = r0 at *
          obtain ⟨ra, rl, rc, rz⟩ := r
          obtain ⟨sa, sl, sc, sz⟩ := r0
          simp only at hck hc0 hFm hFm0 hF hF0 hpk
          have HE := Lib.hid (fun W m' (hW : W = w.drewN m') => show Calls Try.prog 81 #[.slice ra rl rc, .slice sa sl sc] W (RetV (.bool (pairB rz sz)) W) from by
            subst hW
            exact spTwo_any _ _ _ _ _ _ _ _ _ (FSl.drewN hF m') (FSl.drewN hF0 m') hFm hFm0)
          clear hc hF hF0
          cases hq : pairB rz sz
          · have HF := Lib.hid (HB.out.trans (not_pr (k := k) (by rw [HL.out]; exact hlt) (hpk.trans hq)))
            rw [hq] at HE
            clear hq hpk
            go_wp2
            go_quiet ((go_at_call 81; exact quiet_add_V (HE.out _ _ rfl)))
            go_wp2
            go_ret
            exact ⟨_, by rw [HF.out]; rfl, (World.drewN_drewN ..).symm⟩
          · have HN := Lib.hid (show ∀ j, j < k + 1 → prZ (zz L) j = true from fun j hj => by
              rcases Nat.lt_or_ge j k with g | g
              · exact hp.out j g
              · obtain rfl : j = k := by omega
                exact hpk.trans hq)
            rw [hq] at HE
            clear hq hpk hp
            go_wp2
            go_quiet ((go_at_call 81; exact quiet_add_V (HE.out _ _ rfl)))
            go_wp2
            go_roundw
            case rel => exact ⟨k + 1, _, by omega, by go_num, rfl, HN⟩
            case measure => simp [intOf]; omega
        · have HF := Lib.hid (HB.out.trans (all_pr (by rw [HL.out]; exact h1) (fun i hi => hp.out i (by rw [HL.out] at hi; omega))))
          clear hp H
          go_wp2
          go_ret
          exact ⟨m, by rw [HF.out]; rfl, rfl⟩
    · have hd2 : decide ((8 : Int) < (n : Int)) = true := decide_eq_true (by omega)
      have HB := Lib.hid (show waysZ (zz L) = false by unfold waysZ; rw [HL.out, decide_eq_false (fun h => h2 h.2)]; rfl)
      go_enter Try.func65, Try.ntmps65
      go_wp2_with fail
      go_ret
      exact ⟨0, by rw [HB.out]; rfl, rfl⟩
  · have hd1 : decide ((n : Int) < 1) = true := decide_eq_true (by omega)
    have HB := Lib.hid (show waysZ (zz L) = false by unfold waysZ; rw [HL.out, decide_eq_false (fun h => h1 h.1)]; rfl)
    go_enter Try.func65, Try.ntmps65
    go_wp2_with fail
    go_ret
    exact ⟨0, by rw [HB.out]; rfl, rfl⟩

/-- What a closure reads: a row of lists in a box. -/
def BoxR (bl : Nat) (a : Option Addr) (n cap : Nat) (L : List FRw) (wr : World) : Prop :=
  wr.cell? ⟨bl, 0, none⟩ = some (.slice a n cap) ∧ (0 < n → ∃ b off, a = some ⟨b, off, none⟩ ∧ b < bl ∧ ∀ i, i < n → wr.cell? ⟨b, off + i, none⟩ = some (L.getD i FRw.none).val ∧
    (0 < (L.getD i FRw.none).len → ∃ c o, (L.getD i FRw.none).a = some ⟨c, o, none⟩ ∧ c < bl ∧ ∀ j, j < (L.getD i FRw.none).len → wr.cell? ⟨c, o + j, none⟩ = some (.float .f32 ((L.getD i FRw.none).zs.getD j 0))))
theorem BoxR.keep {bl B : Nat} {a : Option Addr} {n cap : Nat} {L : List FRw} {wr wr' : World} (h : BoxR bl a n cap L wr) (h1 : bl < B) (hb : Below B wr wr') : BoxR bl a n cap L wr' := by
  refine ⟨by rw [hb.cell (p := ⟨bl, 0, none⟩) h1]; exact h.1, fun hp => ?_⟩
  obtain ⟨b, off, rfl, hlt, hc⟩ := h.2 hp
  refine ⟨b, off, rfl, hlt, fun i hi => ⟨by rw [hb.cell (p := ⟨b, off + i, none⟩) (by show b < B; omega)]; exact (hc i hi).1, fun hl => ?_⟩⟩
  obtain ⟨c, o, e, hcl, hcc⟩ := (hc i hi).2 hl
  exact ⟨c, o, e, hcl, fun j hj => by rw [hb.cell (p := ⟨c, o + j, none⟩) (by show c < B; omega)]; exact hcc j hj⟩
theorem BoxR.drewN {bl : Nat} {a : Option Addr} {n cap : Nat} {L : List FRw} {wr : World} (h : BoxR bl a n cap L wr) (m : Nat) : BoxR bl a n cap L (wr.drewN m) := h
theorem BoxR.start {w : World} {a : Option Addr} {n cap : Nat} {L : List FRw} {t : TypeId} (h : RSl w a n L) : BoxR w.heap.size a n cap L (w.alloc (.cells #[.slice a n cap] t)) := by
  refine ⟨?_, fun hp => ?_⟩
  · rw [World.cell?_alloc_at _ _ _ _ rfl]; rfl
  · obtain ⟨b, off, rfl, hb, hc⟩ := h.1.at hp
    refine ⟨b, off, rfl, hb, fun i hi => ⟨by rw [World.cell?_alloc_past _ _ _ hb]; exact hc i hi, fun hl => ?_⟩⟩
    obtain ⟨c, o, e, hcb, hcc⟩ := (h.2 i hi).1.at hl
    exact ⟨c, o, e, hcb, fun j hj => by rw [World.cell?_alloc_past _ _ _ hcb]; exact hcc j hj⟩
end Go.Proofs.Ytallegmkkbmelab
