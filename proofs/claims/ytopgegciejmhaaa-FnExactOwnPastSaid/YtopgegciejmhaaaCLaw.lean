/-
  What the laws over lists use: copies that may be written, results that are lists, and what becomes of them when another block turns.
-/
import Derived.Test.YtopgegciejmhaaaCMrk
import Derived.Test.YtopgegciejmhaaaCCpy
import Derived.Test.YtopgegciejmhaaaCEqf
namespace Go.Proofs.Ytopgegciejmhaaa
open Ieee Go.RowKit
set_option linter.unusedVariables false

theorem toFw_any (a : Option Addr) (len cap : Nat) (zs : List Nat) (w : World) (h : FSl w a len zs) (hm : len ≤ 1048576) :
    Calls Try.prog 16 #[.slice a len cap] w fun e w' => e = .returned (.slice (some ⟨w.heap.size, 0, none⟩) len len) ∧ FSl w' (some ⟨w.heap.size, 0, none⟩) len zs ∧ Below w.heap.size w w' ∧ Wri w' w.heap.size len ∧ w.heap.size < w'.heap.size := by
  obtain ⟨i0, hi, hz0, hz1, hz2⟩ := info_parts Try.infoF
  have hmk := fun W => run_make_len (P := Try.prog) W 22 33 i0 (.float .f32 0) Try.underlying22 hi hz0 hz1 len (by rw [hz2]; omega) (by omega)
  have h0 := Lib.hid (Fills.start (f := Value.float .f32) (d := (0 : Nat)) w.heap.size len zs w (Value.float .f32 0).cells 33 rfl len rfl)
  clear hi hz0 hz1 hz2
  have H := Lib.hid h
  clear h
  go_enter Try.func16, Try.ntmps16
  go_wp2
  clear hmk
  go_loopw [4] (fun i wr => ∃ k : Nat, k ≤ len ∧ i = .int .i64 k ∧ Hid (Fills (Value.float .f32) 0 w.heap.size len zs k w wr)) (fun i _ => len - (intOf i).toNat)
  case atStart => exact ⟨0, Nat.zero_le _, rfl, h0⟩
  case round =>
    rename_i wr
    obtain ⟨k, hk, rfl, hf⟩ := hrel
    by_cases hlt : k < len
    · obtain ⟨b, off, rfl, hb, hc⟩ := H.out.at (by omega)
      have hck := hc k hlt
      rw [← hf.out.1.cell (p := ⟨b, off + k, none⟩) hb] at hck
      obtain ⟨⟨v, hv⟩, hz⟩ := hf.out.next hlt
      have hstep := Lib.hid (hf.out.step hlt)
      generalize zs.getD k 0 = z at *
      clear hc hb h0 hf H
      go_wp2
      go_roundw
      case rel => exact ⟨k + 1, by omega, by go_num, hstep⟩
      case measure => simp [intOf]; omega
    · have e : k = len := by omega
      subst e
      have hfin := Lib.hid (hf.out.done H.out.1)
      have hbel := Lib.hid hf.out.1
      have hwri := Lib.hid (show Wri _ w.heap.size k from fun j hj => ⟨⟨_, hf.out.2.2.1 j hj⟩, hf.out.2.2.2.2 j hj⟩)
      have hbig := hf.out.2.1
      clear hf h0 H
      go_wp2
      go_ret
      exact ⟨rfl, hfin.out, hbel.out, hwri.out, hbig⟩

theorem FSl.same {w w' : World} {a : Option Addr} {len : Nat} {zs : List Nat} (h : FSl w a len zs) (hs : w.heap.size ≤ w'.heap.size) (hb : ∀ b off, 0 < len → a = some ⟨b, off, none⟩ → w'.heap[b]? = w.heap[b]?) : FSl w' a len zs := by
  obtain ⟨h1, h2⟩ := h
  refine ⟨h1, ?_⟩
  rcases Nat.eq_zero_or_pos len with h0 | h0
  · exact .inl h0
  · rcases h2 with h2 | ⟨b, off, rfl, hlt, hc⟩
    · exact .inl h2
    · exact .inr ⟨b, off, rfl, Nat.lt_of_lt_of_le hlt hs, fun i hi => by rw [World.cell?_of_block (a := ⟨b, off + i, none⟩) (hb b off h0 rfl)]; exact hc i hi⟩
theorem FSl.only {w w' : World} {a : Option Addr} {len b c : Nat} {zs : List Nat} (h : FSl w a len zs) (ho : Only c w w') (ha : 0 < len → a = some ⟨b, 0, none⟩ ∧ b ≠ c) : FSl w' a len zs :=
  h.same (Nat.le_of_eq ho.size.symm) fun b' off h0 e => by
    obtain ⟨e1, e2⟩ := ha h0
    rw [e1] at e
    injection e with e
    injection e with e
    subst e
    exact ho.block _ e2
theorem Wri.below {w w' : World} {b len B : Nat} (h : Wri w b len) (hb : Below B w w') (hB : 0 < len → b < B) : Wri w' b len := fun j hj => by
  have hlt := hB (by omega)
  rw [hb.cell (p := ⟨b, j, none⟩) hlt, hb.frozen (p := ⟨b, j, none⟩) hlt]; exact h j hj
theorem Wri.only {w w' : World} {b len c : Nat} (h : Wri w b len) (hb : Only c w w') (hB : 0 < len → b ≠ c) : Wri w' b len := fun j hj => by
  have hlt := hB (by omega)
  rw [hb.cell (p := ⟨b, j, none⟩) hlt, hb.frozen (p := ⟨b, j, none⟩) hlt]; exact h j hj
theorem Wri.drewN {w : World} {b len : Nat} (h : Wri w b len) (n : Nat) : Wri (w.drewN n) b len := h
theorem Marked.below {w w' : World} {b len k B : Nat} (h : Marked w b len k) (hb : Below B w w') (hB : 0 < len → b < B) : Marked w' b len k := fun j hj => by
  rw [hb.cell (p := ⟨b, j, none⟩) (hB (by omega))]; exact h j hj
theorem Marked.drewN {w : World} {b len k : Nat} (h : Marked w b len k) (n : Nat) : Marked (w.drewN n) b len k := h
/-- A list that is held on to. -/
structure Held (w : World) (A : Option Addr) (b len : Nat) (rs : List Nat) : Prop where
  sl : FSl w A len rs
  at_ : 0 < len → A = some ⟨b, 0, none⟩
  lt_ : 0 < len → b < w.heap.size
  wri : Wri w b len
theorem Held.drewN {w : World} {A : Option Addr} {b len : Nat} {rs : List Nat} (h : Held w A b len rs) (n : Nat) : Held (w.drewN n) A b len rs := ⟨FSl.drewN h.sl n, h.at_, h.lt_, h.wri⟩
theorem Held.below {w w' : World} {A : Option Addr} {b len : Nat} {rs : List Nat} (h : Held w A b len rs) (hb : Below w.heap.size w w') : Held w' A b len rs :=
  ⟨FSl.below h.sl hb, h.at_, fun h0 => Nat.lt_of_lt_of_le (h.lt_ h0) hb.size, h.wri.below hb h.lt_⟩
theorem Held.only {w w' : World} {A : Option Addr} {b len c : Nat} {rs : List Nat} (h : Held w A b len rs) (ho : Only c w w') (hc : 0 < len → b ≠ c) : Held w' A b len rs :=
  ⟨FSl.only h.sl ho (fun h0 => ⟨h.at_ h0, hc h0⟩), h.at_, fun h0 => by rw [ho.size]; exact h.lt_ h0, h.wri.only ho hc⟩
/-- A list that bears marks. -/
structure MHeld (w : World) (A : Option Addr) (b len k : Nat) : Prop where
  mks : Marked w b len k
  at_ : 0 < len → A = some ⟨b, 0, none⟩
  lt_ : 0 < len → b < w.heap.size
theorem MHeld.drewN {w : World} {A : Option Addr} {b len k : Nat} (h : MHeld w A b len k) (n : Nat) : MHeld (w.drewN n) A b len k := ⟨h.mks, h.at_, h.lt_⟩
theorem MHeld.below {w w' : World} {A : Option Addr} {b len k : Nat} (h : MHeld w A b len k) (hb : Below w.heap.size w w') : MHeld w' A b len k :=
  ⟨h.mks.below hb h.lt_, h.at_, fun h0 => Nat.lt_of_lt_of_le (h.lt_ h0) hb.size⟩
theorem MHeld.only {w w' : World} {A : Option Addr} {b len k c : Nat} (h : MHeld w A b len k) (ho : Only c w w') (hc : 0 < len → b ≠ c) : MHeld w' A b len k :=
  ⟨fun j hj => by rw [ho.cell (p := ⟨b, j, none⟩) (hc (by omega))]; exact h.mks j hj, h.at_, fun h0 => by rw [ho.size]; exact h.lt_ h0⟩
theorem toFt_any (a : Option Addr) (len cap : Nat) (zs : List Nat) (w : World) (h : FSl w a len zs) (hm : len ≤ 1048576) :
    Calls Try.prog 16 #[.slice a len cap] w fun e w' => e = .returned (.slice (some ⟨w.heap.size, 0, none⟩) len len) ∧ Held w' (some ⟨w.heap.size, 0, none⟩) w.heap.size len zs ∧ Below w.heap.size w w' ∧ w.heap.size < w'.heap.size :=
  (toFw_any a len cap zs w h hm).mono fun _ _ ⟨h1, h2, h3, h4, h5⟩ => ⟨h1, ⟨h2, fun _ => rfl, fun _ => h5, h4⟩, h3, h5⟩
theorem markt_any {A : Option Addr} {b len cap : Nat} {rs : List Nat} (k : Nat) {w : World} (h : Held w A b len rs) (hl : len ≤ 1048576) (hk : k ≤ 16777216) :
    Calls Try.prog 21 #[.slice A len cap, .int .i64 k] w fun e w' => e = .returned (.int .i64 (k + len : Nat)) ∧ Only b w w' ∧ MHeld w' A b len k :=
  (mark_any A b len cap k w h.at_ h.wri hl hk).mono fun _ _ ⟨h1, h2, h3⟩ => ⟨h1, h2, h3, h.at_, fun h0 => by rw [h2.size]; exact h.lt_ h0⟩
theorem heldt_any {A : Option Addr} {b len cap : Nat} (k : Nat) {w : World} (h : MHeld w A b len k) (hl : len ≤ 1048576) (hk : k ≤ 16777216) :
    Calls Try.prog 23 #[.slice A len cap, .int .i64 k] w fun e w' => e = .returned (.int .i64 (k + len : Nat)) ∧ w = w' :=
  held_any A b len cap k w h.at_ h.mks hl hk
theorem FOwn.res {T : TypeId} {B : Nat} {w' : World} {v : Value} {rs xs : List Nat} (h : FOwn T B w' v rs) (hx : cnl rs = xs) : ∃ A cap b, v = .slice A xs.length cap ∧ Held w' A b xs.length rs ∧ B ≤ b := by
  obtain ⟨A, cap, rfl, hs, hf⟩ := h.sl
  have hl : rs.length = xs.length := by rw [← cnl_len, hx]
  rw [hl] at hs hf
  rcases Nat.eq_zero_or_pos xs.length with h0 | h0
  · exact ⟨A, cap, B, by rw [hl], ⟨hs, fun hp => by omega, fun hp => by omega, fun j hj => by omega⟩, Nat.le_refl _⟩
  · obtain ⟨b, rfl, hB, hlt, _⟩ := hf 0 h0
    refine ⟨_, cap, b, by rw [hl], ⟨hs, fun _ => rfl, fun _ => hlt, fun j hj => ?_⟩, hB⟩
    obtain ⟨b', e, _, _, hfz⟩ := hf j hj
    obtain ⟨b2, off, e2, _, hc⟩ := hs.at h0
    injection e with e; injection e with e
    injection e2 with e2; injection e2 with e2 e3
    subst e e2 e3
    have := hc j hj
    rw [Nat.zero_add] at this
    exact ⟨⟨_, this⟩, hfz⟩
theorem RetOB.res {T : TypeId} {xs : List Nat} {ok : Bool} {w : World} {e : Ending} {w' : World} (h : RetOB T xs ok w e w') :
    ∃ A cap b rs, e = .returned (.tuple #[.slice A xs.length cap, .bool ok]) ∧ Held w' A b xs.length rs ∧ cnl rs = xs ∧ w.heap.size ≤ b ∧ Below w.heap.size w w' := by
  obtain ⟨v, rs, rfl, ho, hx, hb⟩ := h
  obtain ⟨A, cap, b, rfl, hr, hB⟩ := ho.res hx
  exact ⟨A, cap, b, rs, rfl, hr, hx, hB, hb⟩
theorem same_cn {xs rs rs' : List Nat} (h : cnl rs = xs) (h' : cnl rs' = xs) : ∀ i, i < xs.length → cn .f32 (rs.getD i 0) = cn .f32 (rs'.getD i 0) := fun i hi =>
  cnl_getD (h.trans h'.symm) i (by rw [← cnl_len, h]; exact hi)
end Go.Proofs.Ytopgegciejmhaaa
