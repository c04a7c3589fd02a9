/-
  The closure of SimpleLevels.
-/
import Derived.Test.YtallegmkkbmelabCTow
import Derived.Test.YtallegmkkbmelabPus
import Derived.Deep.QuietTactic
import Derived.BigQuiet
import Derived.Deep.RegionHeld3
import Derived.StillTailTactics
namespace Go.Proofs.Ytallegmkkbmelab
open Ieee Go.RowKit
set_option linter.unusedVariables false

/-- What the closure of SimpleLevels reads, behind k calls. -/
def LvI (bv bl bs : Nat) (a : Option Addr) (len cap : Nat) (zs : List Nat) (s k : Nat) (wr : World) : Prop :=
  (∃ r, wr.cell? ⟨bv, 0, none⟩ = some (.float .f32 r) ∧ cn .f32 r = lvT zs s (k - 1)) ∧ wr.frozen? ⟨bv, 0, none⟩ = false ∧ BoxI bl a len cap zs wr ∧ wr.cell? ⟨bs, 0, none⟩ = some (.float .f32 s)
theorem LvI.next {bv bl bs B0 B : Nat} {a : Option Addr} {len cap s k n r : Nat} {zs : List Nat} {wr : World} (h : LvI bv bl bs a len cap zs s k wr) (h1 : bl < bs) (h2 : bs < bv) (h3 : bv < B) (h0 : B0 ≤ bv) (hr : cn .f32 r = lvT zs s k) :
    Tells (lvT zs s) (LvI bv bl bs a len cap zs s) B0 B k wr (.returned (.float .f32 r)) ((wr.drewN n).setCell ⟨bv, 0, none⟩ (.float .f32 r)) := by
  obtain ⟨⟨x, hx, hs⟩, hf, hbx, hcs⟩ := h
  exact ⟨r, rfl, hr, ⟨⟨r, World.cell?_setCell_same' _ _ _ (by show (wr.cell? _).isSome = true; rw [hx]; rfl), hr⟩, by rw [World.frozen?_setCell]; exact hf, BoxI.set (wr := wr.drewN n) hbx (by omega), by rw [far_set (by omega)]; exact hcs⟩, (below_drewN (Below.refl _ _) n).setCell h0 _, Below.heap_setCell (wr.drewN n) _ _ _ (by show B ≠ bv; omega)⟩
theorem LvI.keep {bv bl bs B : Nat} {a : Option Addr} {len cap s k : Nat} {zs : List Nat} {wr wr' : World} (h : LvI bv bl bs a len cap zs s k wr) (h1 : bl < bs) (h2 : bs < bv) (h3 : bv < B) (hb : Below B wr wr') : LvI bv bl bs a len cap zs s k wr' := by
  obtain ⟨⟨x, hx, hs⟩, hf, hbx, hcs⟩ := h
  exact ⟨⟨x, by rw [hb.cell (p := ⟨bv, 0, none⟩) h3]; exact hx, hs⟩, by rw [hb.frozen (p := ⟨bv, 0, none⟩) h3]; exact hf, hbx.keep (by omega) hb, by rw [hb.cell (p := ⟨bs, 0, none⟩) (by show bs < B; omega)]; exact hcs⟩
set_option maxHeartbeats 2000000 in
set_option maxRecDepth 100000 in
theorem lv1_any (bv bl bs B0 B : Nat) (a : Option Addr) (len cap s k : Nat) (zs : List Nat) (wr : World) (h : LvI bv bl bs a len cap zs s k wr) (hk : k < len) (hl : zs.length = len) (hm : len ≤ 1048576) (h1 : bl < bs) (h2 : bs < bv) (h3 : bv < B) (h0 : B0 ≤ bv) :
    Calls Try.prog 76 #[.int .i64 k, .pointer (some ⟨bv, 0, none⟩), .pointer (some ⟨bl, 0, none⟩), .pointer (some ⟨bs, 0, none⟩)] wr (Tells (lvT zs s) (LvI bv bl bs a len cap zs s) B0 B k wr) := by
  have HI := Lib.hid h
  obtain ⟨⟨r, hr, hv⟩, hf, hbx, hcs⟩ := h
  rcases Nat.eq_zero_or_pos k with h00 | hpos
  · subst h00
    have HV := Lib.hid hv
    clear hbx hcs hv
    go_enter Try.func76, Try.ntmps76
    go_wp2
    go_ret
    obtain ⟨-, i2, i3, i4⟩ := HI.out
    exact ⟨r, rfl, HV.out, ⟨⟨r, hr, HV.out⟩, i2, i3, i4⟩, Below.refl _ _, rfl⟩
  · obtain ⟨b, off, rfl, hb, hc⟩ := hbx.2 (by omega)
    have hcl := hbx.1
    have hck := hc k hk
    obtain ⟨z, hz⟩ : ∃ z, zs.getD k 0 = z := ⟨_, rfl⟩
    rw [hz] at hck
    have HSt := Lib.hid (show ∀ x, cn .f32 x = towW (cn .f32 r) (cn .f32 z) (cn .f32 s) → cn .f32 x = lvT zs s k from fun x hx => by
      obtain ⟨j, rfl⟩ : ∃ j, k = j + 1 := ⟨k - 1, by omega⟩
      exact lv_tow hv hz hx)
    have hd : decide ((0 : Int) < (k : Int)) = true := decide_eq_true (by omega)
    have hkl : (k : Int) < (len : Int) := by omega
    have n1 : bl ≠ bv := by omega
    have n2 : bs ≠ bv := by omega
    have n3 : b ≠ bv := by omega
    clear hc hz hv hbx hb
    go_enter Try.func76, Try.ntmps76
    go_wp2_with fail
    go_region_law ((first | (go_simp; go_at_call 60; refine (towards_any _ _ _ _).mono ?_; rintro e w' ⟨x, n, hx, rfl, rfl⟩)))
    all_goals
      have HX := Lib.hid (HSt.out _ hx)
      go_wp2_with fail
      go_ret
      exact HI.out.next h1 h2 h3 h0 HX.out
theorem LvI.start {w : World} {a : Option Addr} {len cap m s z : Nat} {zs : List Nat} {t t' t'' : TypeId} (h : FSl w a len zs) (hz : cn .f32 z = lvT zs s 0) :
    LvI (w.heap.size + 1 + 1) w.heap.size (w.heap.size + 1) a len cap zs s 0 ((((w.alloc (.cells #[.slice a len cap] t)).alloc (.cells #[.float .f32 s] t')).drewN m).alloc (.cells #[.float .f32 z] t'')) := by
  have b1 := BoxI.start (cap := cap) (t := t) h
  have b2 := b1.keep (B := w.heap.size + 1) (by omega) ((Below.refl (w.heap.size + 1) _).alloc (by simp) (.cells #[.float .f32 s] t'))
  have b3 := b2.keep (B := w.heap.size + 1) (by omega) ((below_drewN (Below.refl (w.heap.size + 1) _) m).alloc (by simp) (.cells #[.float .f32 z] t''))
  refine ⟨⟨z, ?_, hz⟩, World.frozen?_alloc_at _ _ _ _ (by simp), b3, ?_⟩
  · rw [World.cell?_alloc_at _ _ _ _ (by simp)]; rfl
  · rw [World.cell?_alloc_past _ _ _ (by simp)]
    show ((w.alloc _).alloc _).cell? _ = _
    rw [World.cell?_alloc_at _ _ _ _ (by simp)]; rfl

end Go.Proofs.Ytallegmkkbmelab
