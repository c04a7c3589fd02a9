/-
  TakeApart of the program: one round.
-/
import Derived.Test.YtallegmkkbmelaaCApp
import Derived.Test.YtallegmkkbmelaaCMvi
import Derived.Test.YtallegmkkbmelaaCSek
import Derived.BigRegion
namespace Go.Proofs.Ytallegmkkbmelaa
open Ieee Go.RowKit
set_option linter.unusedVariables false

/-- A list in a box; both lie below B. -/
def BoxS (B bl : Nat) (a : Option Addr) (len cap : Nat) (zs : List Nat) (wr : World) : Prop :=
  bl < B ∧ zs.length = len ∧ wr.cell? ⟨bl, 0, none⟩ = some (.slice a len cap) ∧ (0 < len → ∃ b off, a = some ⟨b, off, none⟩ ∧ b < B ∧ ∀ j, j < len → wr.cell? ⟨b, off + j, none⟩ = some (.float .f32 (zs.getD j 0)))
theorem BoxS.keep {B bl : Nat} {a : Option Addr} {len cap : Nat} {zs : List Nat} {wr wr' : World} (h : BoxS B bl a len cap zs wr) (hb : Below B wr wr') : BoxS B bl a len cap zs wr' := by
  obtain ⟨h1, h2, h3, h4⟩ := h
  refine ⟨h1, h2, by rw [hb.cell (p := ⟨bl, 0, none⟩) h1]; exact h3, fun hp => ?_⟩
  obtain ⟨b, off, rfl, hlt, hc⟩ := h4 hp
  exact ⟨b, off, rfl, hlt, fun j hj => by rw [hb.cell (p := ⟨b, off + j, none⟩) hlt]; exact hc j hj⟩
theorem BoxS.more {B B' bl : Nat} {a : Option Addr} {len cap : Nat} {zs : List Nat} {wr : World} (h : BoxS B bl a len cap zs wr) (hB : B ≤ B') : BoxS B' bl a len cap zs wr := by
  obtain ⟨h1, h2, h3, h4⟩ := h
  refine ⟨by omega, h2, h3, fun hp => ?_⟩
  obtain ⟨b, off, rfl, hlt, hc⟩ := h4 hp
  exact ⟨b, off, rfl, by omega, hc⟩
theorem BoxS.fsl {B bl : Nat} {a : Option Addr} {len cap : Nat} {zs : List Nat} {wr : World} (h : BoxS B bl a len cap zs wr) : FSl wr a len zs := by
  refine ⟨h.2.1, ?_⟩
  rcases Nat.eq_zero_or_pos len with h0 | h0
  · exact .inl h0
  · obtain ⟨b, off, rfl, _, hc⟩ := h.2.2.2 h0
    exact .inr ⟨b, off, rfl, lt_of_cell (hc 0 h0), hc⟩
theorem BoxS.at {B bl : Nat} {a : Option Addr} {len cap : Nat} {zs : List Nat} {wr : World} (h : BoxS B bl a len cap zs wr) (h0 : 0 < len) : wr.cell? ⟨bl, 0, none⟩ = some (.slice a len cap) ∧ ∃ b off, a = some ⟨b, off, none⟩ ∧ ∀ j, j < len → wr.cell? ⟨b, off + j, none⟩ = some (.float .f32 (zs.getD j 0)) := by
  obtain ⟨b, off, e, _, hc⟩ := h.2.2.2 h0
  exact ⟨h.2.2.1, b, off, e, hc⟩
theorem BoxS.start {w : World} {a : Option Addr} {len cap : Nat} {zs : List Nat} {t : TypeId} (h : FSl w a len zs) : BoxS (w.heap.size + 1) w.heap.size a len cap zs (w.alloc (.cells #[.slice a len cap] t)) := by
  refine ⟨Nat.lt_succ_self _, h.1, ?_, fun hp => ?_⟩
  · rw [World.cell?_alloc_at _ _ _ _ rfl]; rfl
  · obtain ⟨b, off, rfl, hb, hc⟩ := h.at hp
    exact ⟨b, off, rfl, by omega, fun j hj => by rw [World.cell?_alloc_past _ _ _ hb]; exact hc j hj⟩

/-- The calm of a place: its number less the season's. -/
theorem apCalm_any (B bl bs B0 : Nat) (a a' : Option Addr) (len cap m cap' j : Nat) (zs s : List Nat) (wr : World) (h : BoxS B bl a len cap zs wr) (h' : BoxS B bs a' m cap' s wr) (hj : j < len) (hm : len ≤ 96) (hm0 : 0 < m) (hml : m ≤ len) :
    Calls Try.prog 72 #[.int .i64 j, .pointer (some ⟨bl, 0, none⟩), .pointer (some ⟨bs, 0, none⟩)] wr (Tells (fun i => aop .sub .f32 (cn .f32 (zs.getD i 0)) (cn .f32 ((sprZ s len).getD i 0))) (fun _ w' => BoxS B bl a len cap zs w' ∧ BoxS B bs a' m cap' s w') B0 B j wr) := by
  have HI := Lib.hid h
  have HI' := Lib.hid h'
  obtain ⟨c1, b, off, rfl, hc⟩ := h.at (by omega)
  obtain ⟨c2, b', off', rfl, hc'⟩ := h'.at hm0
  obtain ⟨q, hq⟩ : ∃ q, q = j % m := ⟨_, rfl⟩
  have hqm : q < m := by rw [hq]; exact Nat.mod_lt _ hm0
  have c3 := hc j hj
  have c4 := hc' q hqm
  have hqz : (j : Int) % (m : Int) = (q : Int) := by rw [hq]; exact (Int.natCast_emod j m).symm
  have hqt : (j : Int).tmod (m : Int) = (q : Int) := by rw [Int.tmod_eq_emod_of_nonneg (by omega)]; exact hqz
  have HT := Lib.hid (show ∀ x y, zs.getD j 0 = x → s.getD q 0 = y → ∀ W, cn .f32 (fopR .sub .f32 x y W) = aop .sub .f32 (cn .f32 (zs.getD j 0)) (cn .f32 ((sprZ s len).getD j 0)) from fun x y e1 e2 W => by
    rw [cn_fopR, spr_at hj, cn_cn, h'.2.1, ← hq, e1, e2])
  obtain ⟨x, hx⟩ : ∃ x, zs.getD j 0 = x := ⟨_, rfl⟩
  obtain ⟨y, hy⟩ : ∃ y, s.getD q 0 = y := ⟨_, rfl⟩
  have HTz := Lib.hid (HT.out x y hx hy)
  rw [hx] at c3
  rw [hy] at c4
  have d0 : decide ((m : Int) = 0) = false := decide_eq_false (by omega)
  have d00 : ((m : Int) == 0) = false := beq_false_of_ne (by omega)
  have d1 : (m : Int) ≠ 0 := by omega
  have l1 : (j : Int) < (len : Int) := by omega
  have l2 : (q : Int) < (m : Int) := by omega
  have p1 : (0 : Int) ≤ (j : Int) := by omega
  have p2 : (0 : Int) ≤ (q : Int) := by omega
  clear h h' hc hc' HT hx hy hq
  go_enter Try.func72, Try.ntmps72
  go_wp2
  go_region
  all_goals
    go_wp2
    go_ret
    exact ⟨_, rfl, HTz.out _, ⟨HI.out.keep (below_drewN (Below.refl _ _) _), HI'.out.keep (below_drewN (Below.refl _ _) _)⟩, below_drewN (Below.refl _ _) _, rfl⟩
theorem apLevel_any (B bl bs B0 : Nat) (a a' : Option Addr) (len cap cap' j : Nat) (zs ts : List Nat) (wr : World) (h : BoxS B bl a len cap zs wr) (h' : BoxS B bs a' len cap' ts wr) (hj : j < len) (hm : len ≤ 96) :
    Calls Try.prog 74 #[.int .i64 j, .pointer (some ⟨bl, 0, none⟩), .pointer (some ⟨bs, 0, none⟩)] wr (Tells (fun i => aop .sub .f32 (cn .f32 (zs.getD i 0)) (cn .f32 (ts.getD i 0))) (fun _ w' => BoxS B bl a len cap zs w' ∧ BoxS B bs a' len cap' ts w') B0 B j wr) := by
  have HI := Lib.hid h
  have HI' := Lib.hid h'
  obtain ⟨c1, b, off, rfl, hc⟩ := h.at (by omega)
  obtain ⟨c2, b', off', rfl, hc'⟩ := h'.at (by omega)
  have c3 := hc j hj
  have c4 := hc' j hj
  have HT := Lib.hid (show ∀ x y, zs.getD j 0 = x → ts.getD j 0 = y → ∀ W, cn .f32 (fopR .sub .f32 x y W) = aop .sub .f32 (cn .f32 (zs.getD j 0)) (cn .f32 (ts.getD j 0)) from fun x y e1 e2 W => by
    rw [cn_fopR, e1, e2])
  obtain ⟨x, hx⟩ : ∃ x, zs.getD j 0 = x := ⟨_, rfl⟩
  obtain ⟨y, hy⟩ : ∃ y, ts.getD j 0 = y := ⟨_, rfl⟩
  have HTz := Lib.hid (HT.out x y hx hy)
  rw [hx] at c3
  rw [hy] at c4
  have l1 : (j : Int) < (len : Int) := by omega
  have p1 : (0 : Int) ≤ (j : Int) := by omega
  clear h h' hc hc' HT hx hy
  go_enter Try.func74, Try.ntmps74
  go_wp2
  go_region
  all_goals
    go_wp2
    go_ret
    exact ⟨_, rfl, HTz.out _, ⟨HI.out.keep (below_drewN (Below.refl _ _) _), HI'.out.keep (below_drewN (Below.refl _ _) _)⟩, below_drewN (Below.refl _ _) _, rfl⟩
theorem apAll_any (B bs B0 : Nat) (a' : Option Addr) (m cap' j len : Nat) (s : List Nat) (wr : World) (h' : BoxS B bs a' m cap' s wr) (hj : j < len) (hm : len ≤ 96) (hm0 : 0 < m) (hml : m ≤ len) :
    Calls Try.prog 48 #[.int .i64 j, .pointer (some ⟨bs, 0, none⟩)] wr (Tells (fun i => cn .f32 (s.getD (i % s.length) 0)) (fun _ w' => BoxS B bs a' m cap' s w') B0 B j wr) := by
  have HI' := Lib.hid h'
  have hsl := h'.2.1
  obtain ⟨c2, b', off', rfl, hc'⟩ := h'.at hm0
  obtain ⟨q, hq⟩ : ∃ q, q = j % m := ⟨_, rfl⟩
  have hqm : q < m := by rw [hq]; exact Nat.mod_lt _ hm0
  have c4 := hc' q hqm
  have hqz : (j : Int) % (m : Int) = (q : Int) := by rw [hq]; exact (Int.natCast_emod j m).symm
  have hqt : (j : Int).tmod (m : Int) = (q : Int) := by rw [Int.tmod_eq_emod_of_nonneg (by omega)]; exact hqz
  obtain ⟨y, hy⟩ : ∃ y, s.getD q 0 = y := ⟨_, rfl⟩
  have HTz := Lib.hid (show cn .f32 y = cn .f32 (s.getD (j % s.length) 0) by rw [hsl, ← hq, hy])
  rw [hy] at c4
  have d0 : decide ((m : Int) = 0) = false := decide_eq_false (by omega)
  have d00 : ((m : Int) == 0) = false := beq_false_of_ne (by omega)
  have d1 : (m : Int) ≠ 0 := by omega
  have l2 : (q : Int) < (m : Int) := by omega
  have p1 : (0 : Int) ≤ (j : Int) := by omega
  have p2 : (0 : Int) ≤ (q : Int) := by omega
  clear h' hc' hy hq hsl
  go_enter Try.func48, Try.ntmps48
  go_wp2
  go_region
  all_goals
    go_wp2
    go_ret
    exact ⟨_, rfl, HTz.out, HI'.out.keep (below_drewN (Below.refl _ _) _), below_drewN (Below.refl _ _) _, rfl⟩
theorem apRest_any (B bl bt be B0 : Nat) (a a1 a2 : Option Addr) (len cap cap1 cap2 j : Nat) (zs ts es : List Nat) (wr : World) (h : BoxS B bl a len cap zs wr) (h1 : BoxS B bt a1 len cap1 ts wr) (h2 : BoxS B be a2 len cap2 es wr) (hj : j < len) (hm : len ≤ 96) :
    Calls Try.prog 49 #[.int .i64 j, .pointer (some ⟨bl, 0, none⟩), .pointer (some ⟨bt, 0, none⟩), .pointer (some ⟨be, 0, none⟩)] wr (Tells (fun i => aop .sub .f32 (cn .f32 ((offZ zs ts).getD i 0)) (cn .f32 (es.getD i 0))) (fun _ w' => BoxS B bl a len cap zs w' ∧ BoxS B bt a1 len cap1 ts w' ∧ BoxS B be a2 len cap2 es w') B0 B j wr) := by
  have HI := Lib.hid h
  have HI1 := Lib.hid h1
  have HI2 := Lib.hid h2
  obtain ⟨c1, b, off, rfl, hc⟩ := h.at (by omega)
  obtain ⟨c2, b', off', rfl, hc'⟩ := h1.at (by omega)
  obtain ⟨c3, b'', off'', rfl, hc''⟩ := h2.at (by omega)
  have c4 := hc j hj
  have c5 := hc' j hj
  have c6 := hc'' j hj
  have HT := Lib.hid (show ∀ x y z, zs.getD j 0 = x → ts.getD j 0 = y → es.getD j 0 = z → ∀ W W', cn .f32 (fopR .sub .f32 (fopR .sub .f32 x y W) z W') = aop .sub .f32 (cn .f32 ((offZ zs ts).getD j 0)) (cn .f32 (es.getD j 0)) from fun x y z e1 e2 e3 W W' => by
    rw [cn_fopR, cn_fopR, off_at (by rw [h.2.1]; exact hj), cn_aop, e1, e2, e3])
  obtain ⟨x, hx⟩ : ∃ x, zs.getD j 0 = x := ⟨_, rfl⟩
  obtain ⟨y, hy⟩ : ∃ y, ts.getD j 0 = y := ⟨_, rfl⟩
  obtain ⟨z, hz⟩ : ∃ z, es.getD j 0 = z := ⟨_, rfl⟩
  have HTz := Lib.hid (HT.out x y z hx hy hz)
  rw [hx] at c4
  rw [hy] at c5
  rw [hz] at c6
  have l1 : (j : Int) < (len : Int) := by omega
  have p1 : (0 : Int) ≤ (j : Int) := by omega
  clear h h1 h2 hc hc' hc'' HT hx hy hz
  go_enter Try.func49, Try.ntmps49
  go_wp2
  go_region
  all_goals
    go_wp2
    go_ret
    exact ⟨_, rfl, HTz.out _ _, ⟨HI.out.keep (below_drewN (Below.refl _ _) _), HI1.out.keep (below_drewN (Below.refl _ _) _), HI2.out.keep (below_drewN (Below.refl _ _) _)⟩, below_drewN (Below.refl _ _) _, rfl⟩
end Go.Proofs.Ytallegmkkbmelaa
