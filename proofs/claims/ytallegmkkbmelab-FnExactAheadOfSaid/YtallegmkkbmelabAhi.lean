/-
  AheadOf of the program.
-/
import Derived.Test.YtallegmkkbmelabGue
import Derived.Test.YtallegmkkbmelabPus
import Derived.Test.YtallegmkkbmelabAhd
import Derived.Deep.RegionHeld3
namespace Go.Proofs.Ytallegmkkbmelab
open Ieee Go.RowKit
set_option linter.unusedVariables false
theorem reach_any (n : Int) (w : World) : Calls Try.prog 63 #[.int .i64 n] w fun e w' => e = .returned (.bool (decide (1 ≤ n ∧ n ≤ 32))) ∧ w = w' := by
  by_cases h1 : 1 ≤ n
  · by_cases h2 : n ≤ 32
    · have d1 : decide ((1 : Int) ≤ n) = true := decide_eq_true h1
      have d2 : decide (n ≤ (32 : Int)) = true := decide_eq_true h2
      have HB := Lib.hid (decide_eq_true (show 1 ≤ n ∧ n ≤ 32 from ⟨h1, h2⟩))
      go_enter Try.func63, Try.ntmps63
      go_wp2
      go_ret
      exact ⟨by first | rfl | (rw [HB.out]; rfl), rfl⟩
    · have d1 : decide ((1 : Int) ≤ n) = true := decide_eq_true h1
      have d2 : decide (n ≤ (32 : Int)) = false := decide_eq_false h2
      have HB := Lib.hid (decide_eq_false (show ¬ (1 ≤ n ∧ n ≤ 32) from fun h => h2 h.2))
      go_enter Try.func63, Try.ntmps63
      go_wp2
      go_ret
      exact ⟨by first | rfl | (rw [HB.out]; rfl), rfl⟩
  · have d1 : decide ((1 : Int) ≤ n) = false := decide_eq_false h1
    have HB := Lib.hid (decide_eq_false (show ¬ (1 ≤ n ∧ n ≤ 32) from fun h => h1 h.1))
    go_enter Try.func63, Try.ntmps63
    go_wp2
    go_ret
    exact ⟨by first | rfl | (rw [HB.out]; rfl), rfl⟩
/-- What the closure of AheadOf reads, behind k calls. -/
def AhI (bs bh bv bn l s : Nat) (a : Option Addr) (len cap : Nat) (zs : List Nat) (t : Int) (x y c d k : Nat) (wr : World) : Prop :=
  StIn wr bs l s a len cap t ∧ ShIn wr bh x y c d ∧ (∃ b off, a = some ⟨b, off, none⟩ ∧ b < bs ∧ ∀ j, j < len → wr.cell? ⟨b, off + j, none⟩ = some (.float .f32 (zs.getD j 0))) ∧
    (∃ r, wr.cell? ⟨bv, 0, none⟩ = some (.float .f32 r) ∧ cn .f32 r = (ahD d k).1) ∧ wr.frozen? ⟨bv, 0, none⟩ = false ∧ (∃ r, wr.cell? ⟨bn, 0, none⟩ = some (.float .f32 r) ∧ cn .f32 r = (ahD d k).2) ∧ wr.frozen? ⟨bn, 0, none⟩ = false
section
variable {bs bh bv bn l s : Nat} {a : Option Addr} {len cap : Nat} {zs : List Nat} {t : Int} {x y c d k B : Nat} {wr wr' : World}
theorem AhI.keep (h : AhI bs bh bv bn l s a len cap zs t x y c d k wr) (h1 : bs < B) (h2 : bh < B) (h3 : bv < B) (h4 : bn < B) (hb : Below B wr wr') : AhI bs bh bv bn l s a len cap zs t x y c d k wr' := by
  obtain ⟨i1, i2, ⟨b, off, rfl, hlt, hc⟩, ⟨r, hr, er⟩, f1, ⟨q, hq, eq⟩, f2⟩ := h
  exact ⟨i1.belowB hb h1, i2.belowB hb h2, ⟨b, off, rfl, hlt, fun j hj => by rw [hb.cell (p := ⟨b, off + j, none⟩) (by show b < B; omega)]; exact hc j hj⟩, ⟨r, by rw [hb.cell (p := ⟨bv, 0, none⟩) h3]; exact hr, er⟩, by rw [hb.frozen (p := ⟨bv, 0, none⟩) h3]; exact f1, ⟨q, by rw [hb.cell (p := ⟨bn, 0, none⟩) h4]; exact hq, eq⟩, by rw [hb.frozen (p := ⟨bn, 0, none⟩) h4]; exact f2⟩
theorem set2_far {w : World} {p o n1 n2 : Nat} {u v : Value} (h1 : p ≠ bn) (h2 : p ≠ bv) : ((((w.drewN n1).setCell ⟨bn, 0, none⟩ u).drewN n2).setCell ⟨bv, 0, none⟩ v).cell? ⟨p, o, none⟩ = w.cell? ⟨p, o, none⟩ := by
  rw [far_set h2]
  show ((w.drewN n1).setCell ⟨bn, 0, none⟩ u).cell? ⟨p, o, none⟩ = _
  rw [far_set h1]; rfl
theorem AhI.next {n1 n2 u v : Nat} (h : AhI bs bh bv bn l s a len cap zs t x y c d k wr) (h1 : bs < bh) (h2 : bh < bv) (h2' : bh < bn) (h3 : bv ≠ bn) (hu : cn .f32 u = (ahD d (k + 1)).2) (hv : cn .f32 v = (ahD d (k + 1)).1) :
    AhI bs bh bv bn l s a len cap zs t x y c d (k + 1) ((((wr.drewN n1).setCell ⟨bn, 0, none⟩ (.float .f32 u)).drewN n2).setCell ⟨bv, 0, none⟩ (.float .f32 v)) := by
  obtain ⟨⟨i0, i1, i2, i3⟩, ⟨j0, j1, j2, j3⟩, ⟨b, off, rfl, hlt, hc⟩, ⟨r, hr, er⟩, f1, ⟨q, hq, eq⟩, f2⟩ := h
  refine ⟨⟨?_, ?_, ?_, ?_⟩, ⟨?_, ?_, ?_, ?_⟩, ⟨b, off, rfl, hlt, fun j hj => ?_⟩, ⟨v, ?_, hv⟩, ?_, ⟨u, ?_, hu⟩, ?_⟩
  · rw [set2_far (by omega) (by omega)]; exact i0
  · rw [set2_far (by omega) (by omega)]; exact i1
  · rw [set2_far (by omega) (by omega)]; exact i2
  · rw [set2_far (by omega) (by omega)]; exact i3
  · rw [set2_far (by omega) (by omega)]; exact j0
  · rw [set2_far (by omega) (by omega)]; exact j1
  · rw [set2_far (by omega) (by omega)]; exact j2
  · rw [set2_far (by omega) (by omega)]; exact j3
  · rw [set2_far (by omega) (by omega)]; exact hc j hj
  · refine World.cell?_setCell_same' _ _ _ ?_
    show (((wr.drewN n1).setCell ⟨bn, 0, none⟩ (.float .f32 u)).cell? ⟨bv, 0, none⟩).isSome = true
    rw [far_set (by omega)]
    show (wr.cell? _).isSome = true
    rw [hr]; rfl
  · rw [World.frozen?_setCell]
    show ((wr.drewN n1).setCell ⟨bn, 0, none⟩ (.float .f32 u)).frozen? _ = false
    rw [World.frozen?_setCell]; exact f1
  · rw [far_set (by omega)]
    show ((wr.drewN n1).setCell ⟨bn, 0, none⟩ (.float .f32 u)).cell? _ = _
    exact World.cell?_setCell_same' _ _ _ (by show (wr.cell? _).isSome = true; rw [hq]; rfl)
  · rw [World.frozen?_setCell]
    show ((wr.drewN n1).setCell ⟨bn, 0, none⟩ (.float .f32 u)).frozen? _ = false
    rw [World.frozen?_setCell]; exact f2
end
theorem rem_nat (m n : Nat) : ((m : Nat) : Int).tmod (n : Int) = ((m % n : Nat) : Int) := rfl
set_option maxHeartbeats 1000000 in
set_option maxRecDepth 100000 in
theorem ah1_any (bs bh bv bn B0 B l s : Nat) (a : Option Addr) (len cap : Nat) (zs : List Nat) (k0 x y c d k : Nat) (wr : World) (h : AhI bs bh bv bn l s a len cap zs (k0 : Int) x y c d k wr) (hsz : B < wr.heap.size) (hl : zs.length = len) (hkl : k0 < len) (hm : len ≤ 1048576) (hk : k ≤ 1048576) (h1 : bs < bh) (h2 : bh < bv) (h2' : bh < bn) (h3 : bv ≠ bn) (h4 : bn < B) (h5 : bv < B) (h0 : B0 ≤ bs) :
    Calls Try.prog 64 #[.int .i64 k, .pointer (some ⟨bs, 0, none⟩), .pointer (some ⟨bv, 0, none⟩), .pointer (some ⟨bn, 0, none⟩), .pointer (some ⟨bh, 0, none⟩)] wr (Tells (ahT l s zs (k0 : Int) d) (AhI bs bh bv bn l s a len cap zs (k0 : Int) x y c d) B0 B k wr) := by
  have HA := Lib.hid h
  obtain ⟨i1, i2, ⟨b, off, rfl, hlt, hc⟩, ⟨r, hr, er⟩, f1, ⟨q, hq, eq⟩, f2⟩ := h
  have HF := Lib.hid (show FSl wr (some ⟨b, off, none⟩) len zs from ⟨hl, .inr ⟨b, off, rfl, lt_of_cell (hc 0 (by omega)), hc⟩⟩)
  have HE := Lib.hid er
  have HQ := Lib.hid eq
  have HS := Lib.hid i1
  obtain ⟨c0, c1, c2, c3⟩ := i1
  have hw1 : IntKind.i64.wrap ((k0 : Int) + (k : Int)) = ((k0 + k : Nat) : Int) := by rw [IntKind.wrap_i64]; omega
  have hmod : (k0 + k) % len < len := Nat.mod_lt _ (by omega)
  have hw2 : IntKind.i64.wrap (((k0 + k) % len : Nat) : Int) = (((k0 + k) % len : Nat) : Int) := by rw [IntKind.wrap_i64]; omega
  have hne : (len : Int) ≠ 0 := by omega
  have hdn : decide ((len : Int) = 0) = false := decide_eq_false hne
  have hbq : ((len : Int) == 0) = false := by rw [beq_eq_false_iff_ne]; exact hne
  have HL := Lib.hid hl
  clear hc er eq hl
  have hn0 : ¬ len = 0 := by omega
  have hre : ((k0 : Int) + (k : Int)) % (len : Int) = (((k0 + k) % len : Nat) : Int) := by rw [← Int.natCast_add, ← Int.natCast_emod]
  have hrt : ((k0 : Int) + (k : Int)).tmod (len : Int) = (((k0 + k) % len : Nat) : Int) := by rw [Int.tmod_eq_emod_of_nonneg (by omega)]; exact hre
  generalize hM : (k0 + k) % len = M at *
  have HM := Lib.hid hM
  clear hM
  go_enter Try.func64, Try.ntmps64
  go_wp2_with fail
  go_region_held3 (fun w' => w'.cell? ⟨bs, 0, none⟩ = some (.float .f32 l) ∧ w'.cell? ⟨bs, 1, none⟩ = some (.float .f32 s) ∧ w'.cell? ⟨bs, 2, none⟩ = some (.slice (some ⟨b, off, none⟩) len cap) ∧ w'.cell? ⟨bs, 3, none⟩ = some (.int .i64 (k0 : Int)) ∧ w'.cell? ⟨bv, 0, none⟩ = some (.float .f32 r)) (first | go_keep | exact ⟨(HS.out.drew.below hb1).1, (HS.out.drew.below hb1).2.1, (HS.out.drew.below hb1).2.2.1, (HS.out.drew.below hb1).2.2.2, by rw [hb1.cell (p := ⟨bv, 0, none⟩) (lt_of_cell hr)]; exact hr⟩)
    ((first | (go_at_call 50; refine (at_any _ _ _ _ _ _ _ _ M _ (FSl.drewN HF.out 1) hmod hm).mono ?_; rintro e w1 ⟨g, hg, rfl, hb1⟩)))
  have HG := Lib.hid hg
  have A1 := Lib.hid (HA.out.keep (B := wr.heap.size) (by omega) (by omega) (by omega) (by omega) ((Below.refl wr.heap.size wr).drew.trans hb1))
  have HB1 := Lib.hid ((Below.refl wr.heap.size wr).drew.trans hb1)
  clear hg hb1 hr hq f1 f2 c0 c1 c2 c3 i2
  obtain ⟨-, ⟨-, -, -, e3⟩, -, ⟨r1, hr1', er1⟩, f1, ⟨q1, hq1, eq1⟩, f2⟩ := A1.out
  have HE1 := Lib.hid er1
  have HQ1 := Lib.hid eq1
  clear er1 eq1
  have HU := Lib.hid (show ∀ u1, cn .f32 (fopR .mul .f32 q1 d u1) = (ahD d (k + 1)).2 from fun u1 => by rw [cn_fopR, HQ1.out]; rfl)
  have HV := Lib.hid (show ∀ u1 u2, cn .f32 (fopR .add .f32 r (fopR .mul .f32 q1 d u1) u2) = (ahD d (k + 1)).1 from fun u1 u2 => by rw [cn_fopR, cn_fopR, HQ1.out, HE.out]; rfl)
  have HT := Lib.hid (show cn .f32 g = ahT l s zs (k0 : Int) d k by rw [HG.out]; unfold ahT; rw [HE.out, HL.out, show ((k0 : Int).toNat + k) % len = M from HM.out])
  have hne2 : bv ≠ bn := by omega
  have hne3 : bn ≠ bv := by omega
  go_wp2_with fail
  go_ret
  refine ⟨g, rfl, HT.out, A1.out.next h1 h2 h2' h3 (HU.out _) (HV.out _ _), ?_, ?_⟩
  · exact ((below_drewN (((below_drewN (HB1.out.mono (show B0 ≤ wr.heap.size by omega)) _)).setCell (by show B0 ≤ bn; omega) _) _).setCell (by show B0 ≤ bv; omega) _)
  · rw [Below.heap_setCell _ _ _ _ (by show B ≠ bv; omega)]
    show (World.setCell _ _ _).heap[B]? = _
    rw [Below.heap_setCell _ _ _ _ (by show B ≠ bn; omega)]
    exact HB1.out.block B hsz
end Go.Proofs.Ytallegmkkbmelab
