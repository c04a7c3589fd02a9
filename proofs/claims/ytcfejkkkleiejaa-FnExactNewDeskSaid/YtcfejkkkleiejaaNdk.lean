/-
  NewDesk: the program's, the model's, and the law's marks over a desk.
-/
import Derived.Test.YtcfejkkkleiejaaSsi
import Derived.Test.YtcfejkkkleiejaaDsl
import Derived.Test.YtcfejkkkleiejaaStm
namespace Go.Proofs.Ytcfejkkkleiejaa
open Ieee Go.RowKit
set_option linter.unusedVariables false
theorem nd_q : ssQ [1065353216, 1077936128, 1084227584, 1088421888] 1 = ⟨1065353216, 1073741824, [0], 0⟩ ∧ ssB [1065353216, 1077936128, 1084227584, 1088421888] 1 = true := by
  have h : (ssB [1065353216, 1077936128, 1084227584, 1088421888] 1 && ((ssL [1065353216, 1077936128, 1084227584, 1088421888] 1 == 1065353216) && ((ssS [1065353216, 1077936128, 1084227584, 1088421888] 1 == 1073741824) && (ssZ [1065353216, 1077936128, 1084227584, 1088421888] 1 == [0])))) = true := by decide +kernel
  simp only [Bool.and_eq_true, beq_iff_eq] at h
  obtain ⟨h1, h2, h3, h4⟩ := h
  refine ⟨?_, h1⟩
  unfold ssQ
  rw [h1, if_pos rfl]
  show (⟨ssL _ 1, ssS _ 1, ssZ _ 1, 0⟩ : Stt) = _
  rw [h2, h3, h4]
theorem own4 (T : TypeId) (w : World) (a b c d : Nat) : FOwn T w.heap.size (w.alloc (.cells #[.float .f32 a, .float .f32 b, .float .f32 c, .float .f32 d] T)) (.slice (some ⟨w.heap.size, 0, none⟩) 4 4) [a, b, c, d] := by
  refine ⟨by simp, .inr ⟨w.heap.size, 4, #[.float .f32 a, .float .f32 b, .float .f32 c, .float .f32 d], rfl, Nat.le_refl _, heap_alloc_new w _, Nat.le_refl _, by unfold maxLen; omega, by simp, by simp⟩⟩
theorem own1 (T : TypeId) (w : World) (a : Nat) : FOwn T w.heap.size (w.alloc (.cells #[.float .f32 a] T)) (.slice (some ⟨w.heap.size, 0, none⟩) 1 1) [a] := by
  refine ⟨by simp, .inr ⟨w.heap.size, 1, #[.float .f32 a], rfl, Nat.le_refl _, heap_alloc_new w _, Nat.le_refl _, by unfold maxLen; omega, by simp, by simp⟩⟩
theorem own_heldL {T : TypeId} {B n : Nat} {w : World} {A : Option Addr} {cp : Nat} {rs : List Nat} (h : FOwn T B w (.slice A n cp) rs) (hn : n = rs.length) (h0 : 0 < n) : ∃ b, Held w A b n rs ∧ B ≤ b := by
  obtain ⟨b, h1, h2, _⟩ := own_held (far := B) h hn (Nat.le_refl _) (w.heap.size + B + 1) (fun e => by have := (h.lt _ e).2; omega) (by omega)
  exact ⟨b, h1, h2⟩
def RetND (w : World) (e : Ending) (w' : World) : Prop :=
  ∃ A b A2 b2 cp, e = .returned (.agg #[.slice A 4 4, .float .f32 1065353216, .float .f32 1073741824, .slice A2 1 cp, .int .i64 0, .float .f32 1056964608, .float .f32 1056964608, .float .f32 0, .float .f32 1065353216, .int .i64 0]) ∧ Held w' A b 4 [1065353216, 1077936128, 1084227584, 1088421888] ∧ Held w' A2 b2 1 [0] ∧ b ≠ b2 ∧ w.heap.size ≤ b ∧ w.heap.size ≤ b2 ∧ Below w.heap.size w w'
set_option maxHeartbeats 4000000 in
set_option maxRecDepth 100000 in
theorem imNd_any (w : World) : Calls Try.prog 5 #[] w (RetND w) := by
  have HRES := Lib.hid (show Try.f5.results = #[.cell 0 29] by kernel_rfl)
  have G := Lib.hid (((Below.refl w.heap.size w).alloc (Nat.le_refl _) (.cells #[.slice none 0 0, .float .f32 0, .float .f32 0, .slice none 0 0, .int .i64 0, .float .f32 0, .float .f32 0, .float .f32 0, .float .f32 0, .int .i64 0] 29)).alloc (by simp) (.cells #[.float .f32 1065353216, .float .f32 1077936128, .float .f32 1084227584, .float .f32 1088421888] 23))
  have CO := Lib.hid ((CIs.newAt w [.slice none 0 0, .float .f32 0, .float .f32 0, .slice none 0 0, .int .i64 0, .float .f32 0, .float .f32 0, .float .f32 0, .float .f32 0, .int .i64 0] 29 rfl).alloc (.cells #[.float .f32 1065353216, .float .f32 1077936128, .float .f32 1084227584, .float .f32 1088421888] 23))
  have ho4 := own4 23 (w.alloc (.cells #[.slice none 0 0, .float .f32 0, .float .f32 0, .slice none 0 0, .int .i64 0, .float .f32 0, .float .f32 0, .float .f32 0, .float .f32 0, .int .i64 0] 29)) 1065353216 1077936128 1084227584 1088421888
  obtain ⟨b, hh, hb⟩ := own_heldL ho4 rfl (by omega)
  have hb1 : w.heap.size + 1 ≤ b := by have := hb; simp at this; omega
  have HX := Lib.hid hh
  clear ho4 hh hb
  go_enter Try.func5, Try.ntmps5
  go_wp2_with fail
  have HX2 := Lib.hid (show Held ((w.alloc (.cells #[.slice none 0 0, .float .f32 0, .float .f32 0, .slice none 0 0, .int .i64 0, .float .f32 0, .float .f32 0, .float .f32 0, .float .f32 0, .int .i64 0] 29)).alloc (.cells #[.float .f32 1065353216, .float .f32 1077936128, .float .f32 1084227584, .float .f32 1088421888] 23)) (some ⟨w.heap.size + 1, 0, none⟩) b 4 [1065353216, 1077936128, 1084227584, 1088421888] from by have := HX.out; simpa using this)
  generalize ((w.alloc (.cells #[.slice none 0 0, .float .f32 0, .float .f32 0, .slice none 0 0, .int .i64 0, .float .f32 0, .float .f32 0, .float .f32 0, .float .f32 0, .int .i64 0] 29)).alloc (.cells #[.float .f32 1065353216, .float .f32 1077936128, .float .f32 1084227584, .float .f32 1088421888] 23)) = W at *
  refine (imSs_any _ 4 4 [1065353216, 1077936128, 1084227584, 1088421888] 1 _ HX2.out.sl (by omega) (Nat.le_refl _) (by omega)).mono ?_
  rintro e w3 ⟨A2, cp, he, ho, bb⟩
  rw [nd_q.1, nd_q.2] at he
  rw [nd_q.1] at ho
  replace ho : FOwn 23 W.heap.size w3 (.slice A2 1 cp) [0] := ho
  replace he : e = .returned (.tuple #[.agg #[.float .f32 1065353216, .float .f32 1073741824, .slice A2 1 cp, .int .i64 0], .bool true]) := he
  subst he
  obtain ⟨b2, hh, hb2⟩ := own_heldL ho rfl (by omega)
  have hlt := HX2.out.lt_ (by omega)
  have ba := (Below.refl w3.heap.size w3).alloc (Nat.le_refl _) (.cells #[.float .f32 1065353216, .float .f32 1073741824, .slice A2 1 cp, .int .i64 0] 25)
  have hs3 := bb.size
  replace G := Lib.hid ((G.out.trans (bb.mono G.out.size)).trans (ba.mono (by have := G.out.size; omega)))
  replace CO := Lib.hid ((CO.out.below bb).below ba)
  replace HX2 := Lib.hid ((HX2.out.below bb).below ba)
  have HY := Lib.hid (hh.below ba)
  have C := Lib.hid (CIs.newAt w3 [.float .f32 1065353216, .float .f32 1073741824, .slice A2 1 cp, .int .i64 0] 25 rfl)
  clear ho hh bb ba HX
  obtain ⟨g0, g1, g2, g3, g4, g5, g6, g7, g8, g9⟩ := CO.out.c10
  obtain ⟨f0, f1, f2, f3, f4, f5, f6, f7, f8, f9⟩ := CO.out.f10
  obtain ⟨k0, k1, k2, k3⟩ := C.out.c4
  go_wp2
  refine bodyPost_ret (v := .agg #[.slice (some ⟨w.heap.size + 1, 0, none⟩) 4 4, .float .f32 1065353216, .float .f32 1073741824, .slice A2 1 cp, .int .i64 0, .float .f32 1056964608, .float .f32 1056964608, .float .f32 0, .float .f32 1065353216, .int .i64 0]) ?_ rfl ⟨_, b, A2, b2, cp, rfl, ?_, ?_, by omega, by omega, by omega, ?_⟩
  · have hres := HRES.out
    simp only [results, hres]
    go_simp
  · exact (Held.setC (Held.setC (Held.setC (Held.setC (Held.setC (Held.setC (Held.setC (Held.setC (Held.setC (Held.setC HX2.out (by omega)) (by omega)) (by omega)) (by omega)) (by omega)) (by omega)) (by omega)) (by omega)) (by omega)) (by omega))
  · exact (Held.setC (Held.setC (Held.setC (Held.setC (Held.setC (Held.setC (Held.setC (Held.setC (Held.setC (Held.setC HY.out (by omega)) (by omega)) (by omega)) (by omega)) (by omega)) (by omega)) (by omega)) (by omega)) (by omega)) (by omega))
  · exact (Below.setCell (Below.setCell (Below.setCell (Below.setCell (Below.setCell (Below.setCell (Below.setCell (Below.setCell (Below.setCell (Below.setCell G.out (by show w.heap.size ≤ w.heap.size; omega) _) (by show w.heap.size ≤ w.heap.size; omega) _) (by show w.heap.size ≤ w.heap.size; omega) _) (by show w.heap.size ≤ w.heap.size; omega) _) (by show w.heap.size ≤ w.heap.size; omega) _) (by show w.heap.size ≤ w.heap.size; omega) _) (by show w.heap.size ≤ w.heap.size; omega) _) (by show w.heap.size ≤ w.heap.size; omega) _) (by show w.heap.size ≤ w.heap.size; omega) _) (by show w.heap.size ≤ w.heap.size; omega) _)
set_option maxHeartbeats 4000000 in
set_option maxRecDepth 100000 in
theorem spNd_any (w : World) : Calls Try.prog 4 #[] w (RetND w) := by
  have HRES := Lib.hid (show Try.f4.results = #[.cell 0 29] by kernel_rfl)
  have G := Lib.hid (((((Below.refl w.heap.size w).alloc (Nat.le_refl _) (.cells #[.slice (some ⟨w.heap.size + 1, 0, none⟩) 4 4, .float .f32 1065353216, .float .f32 1073741824, .slice (some ⟨w.heap.size + 1 + 1 + 1, 0, none⟩) 1 1, .int .i64 0, .float .f32 1056964608, .float .f32 1056964608, .float .f32 0, .float .f32 1065353216, .int .i64 0] 29)).alloc (by simp) (.cells #[.float .f32 1065353216, .float .f32 1077936128, .float .f32 1084227584, .float .f32 1088421888] 23)).alloc (by simp; omega) (.cells #[.slice (some ⟨w.heap.size + 1, 0, none⟩) 4 4, .float .f32 1065353216, .float .f32 1073741824, .slice (some ⟨w.heap.size + 1 + 1 + 1, 0, none⟩) 1 1, .int .i64 0, .float .f32 1056964608, .float .f32 1056964608, .float .f32 0, .float .f32 1065353216, .int .i64 0] 29)).alloc (by simp; omega) (.cells #[.float .f32 0] 23))
  have o4 := own4 23 (w.alloc (.cells #[.slice (some ⟨w.heap.size + 1, 0, none⟩) 4 4, .float .f32 1065353216, .float .f32 1073741824, .slice (some ⟨w.heap.size + 1 + 1 + 1, 0, none⟩) 1 1, .int .i64 0, .float .f32 1056964608, .float .f32 1056964608, .float .f32 0, .float .f32 1065353216, .int .i64 0] 29)) 1065353216 1077936128 1084227584 1088421888
  have o1 := own1 23 (((w.alloc (.cells #[.slice (some ⟨w.heap.size + 1, 0, none⟩) 4 4, .float .f32 1065353216, .float .f32 1073741824, .slice (some ⟨w.heap.size + 1 + 1 + 1, 0, none⟩) 1 1, .int .i64 0, .float .f32 1056964608, .float .f32 1056964608, .float .f32 0, .float .f32 1065353216, .int .i64 0] 29)).alloc (.cells #[.float .f32 1065353216, .float .f32 1077936128, .float .f32 1084227584, .float .f32 1088421888] 23)).alloc (.cells #[.slice (some ⟨w.heap.size + 1, 0, none⟩) 4 4, .float .f32 1065353216, .float .f32 1073741824, .slice (some ⟨w.heap.size + 1 + 1 + 1, 0, none⟩) 1 1, .int .i64 0, .float .f32 1056964608, .float .f32 1056964608, .float .f32 0, .float .f32 1065353216, .int .i64 0] 29)) 0
  have e4 : (w.alloc (.cells #[.slice (some ⟨w.heap.size + 1, 0, none⟩) 4 4, .float .f32 1065353216, .float .f32 1073741824, .slice (some ⟨w.heap.size + 1 + 1 + 1, 0, none⟩) 1 1, .int .i64 0, .float .f32 1056964608, .float .f32 1056964608, .float .f32 0, .float .f32 1065353216, .int .i64 0] 29)).heap.size = w.heap.size + 1 := by simp
  have e1 : (((w.alloc (.cells #[.slice (some ⟨w.heap.size + 1, 0, none⟩) 4 4, .float .f32 1065353216, .float .f32 1073741824, .slice (some ⟨w.heap.size + 1 + 1 + 1, 0, none⟩) 1 1, .int .i64 0, .float .f32 1056964608, .float .f32 1056964608, .float .f32 0, .float .f32 1065353216, .int .i64 0] 29)).alloc (.cells #[.float .f32 1065353216, .float .f32 1077936128, .float .f32 1084227584, .float .f32 1088421888] 23)).alloc (.cells #[.slice (some ⟨w.heap.size + 1, 0, none⟩) 4 4, .float .f32 1065353216, .float .f32 1073741824, .slice (some ⟨w.heap.size + 1 + 1 + 1, 0, none⟩) 1 1, .int .i64 0, .float .f32 1056964608, .float .f32 1056964608, .float .f32 0, .float .f32 1065353216, .int .i64 0] 29)).heap.size = w.heap.size + 1 + 1 + 1 := by simp
  rw [e4] at o4
  rw [e1] at o1
  obtain ⟨b, hh, hb⟩ := own_heldL o4 rfl (by omega)
  obtain ⟨b2, hh2, hb2⟩ := own_heldL o1 rfl (by omega)
  have hb1 : b < w.heap.size + 1 + 1 := by have h := hh.lt_ (by omega); rwa [show ((w.alloc (.cells #[.slice (some ⟨w.heap.size + 1, 0, none⟩) 4 4, .float .f32 1065353216, .float .f32 1073741824, .slice (some ⟨w.heap.size + 1 + 1 + 1, 0, none⟩) 1 1, .int .i64 0, .float .f32 1056964608, .float .f32 1056964608, .float .f32 0, .float .f32 1065353216, .int .i64 0] 29)).alloc (.cells #[.float .f32 1065353216, .float .f32 1077936128, .float .f32 1084227584, .float .f32 1088421888] 23)).heap.size = w.heap.size + 1 + 1 by simp] at h
  have HX := Lib.hid ((hh.below ((Below.refl _ _).alloc (Nat.le_refl _) (.cells #[.slice (some ⟨w.heap.size + 1, 0, none⟩) 4 4, .float .f32 1065353216, .float .f32 1073741824, .slice (some ⟨w.heap.size + 1 + 1 + 1, 0, none⟩) 1 1, .int .i64 0, .float .f32 1056964608, .float .f32 1056964608, .float .f32 0, .float .f32 1065353216, .int .i64 0] 29))).below ((Below.refl _ _).alloc (Nat.le_refl _) (.cells #[.float .f32 0] 23)))
  have HY := Lib.hid hh2
  clear o4 o1 hh hh2 e4 e1
  go_enter Try.func4, Try.ntmps4
  go_wp2
  refine bodyPost_ret (v := .agg #[.slice (some ⟨w.heap.size + 1, 0, none⟩) 4 4, .float .f32 1065353216, .float .f32 1073741824, .slice (some ⟨w.heap.size + 1 + 1 + 1, 0, none⟩) 1 1, .int .i64 0, .float .f32 1056964608, .float .f32 1056964608, .float .f32 0, .float .f32 1065353216, .int .i64 0]) ?_ rfl ⟨_, b, _, b2, 1, rfl, HX.out, HY.out, by omega, by omega, by omega, G.out⟩
  have hres := HRES.out
  simp only [results, hres]
  go_simp
set_option maxHeartbeats 4000000 in
set_option maxRecDepth 100000 in
theorem markDk_any (A : Option Addr) (b : Nat) (A2 : Option Addr) (b2 cp : Nat) (k : Nat) {r1 r2 : List Nat} (w : World) (hx : Held w A b 4 r1) (hy : Held w A2 b2 1 r2) (hne : b ≠ b2) (hk : k ≤ 1000) :
    Calls Try.prog 7 #[.agg #[.slice A 4 4, .float .f32 1065353216, .float .f32 1073741824, .slice A2 1 cp, .int .i64 0, .float .f32 1056964608, .float .f32 1056964608, .float .f32 0, .float .f32 1065353216, .int .i64 0], .int .i64 k] w fun e w' => e = .returned (.int .i64 (k + 4 + 1 : Nat)) ∧ (∀ A9 b9 n9 r9, Held w A9 b9 n9 r9 → b9 ≠ b → b9 ≠ b2 → Held w' A9 b9 n9 r9) ∧ (∀ p vs, CIs w p vs → p ≠ b → p ≠ b2 → CIs w' p vs) ∧ (∀ w0, Below w0.heap.size w0 w → w0.heap.size ≤ b → w0.heap.size ≤ b2 → Below w0.heap.size w0 w') ∧ MHeld w' A b 4 k ∧ MHeld w' A2 b2 1 (k + 4) := by
  have al := (Below.refl w.heap.size w).alloc (Nat.le_refl _) (.cells #[.slice A 4 4, .float .f32 1065353216, .float .f32 1073741824, .slice A2 1 cp, .int .i64 0, .float .f32 1056964608, .float .f32 1056964608, .float .f32 0, .float .f32 1065353216, .int .i64 0] 29)
  have HX := Lib.hid (hx.below al)
  have HY := Lib.hid (hy.below al)
  have C := Lib.hid (CIs.newAt w [.slice A 4 4, .float .f32 1065353216, .float .f32 1073741824, .slice A2 1 cp, .int .i64 0, .float .f32 1056964608, .float .f32 1056964608, .float .f32 0, .float .f32 1065353216, .int .i64 0] 29 rfl)
  have hlb := hx.lt_ (by omega)
  have hlb2 := hy.lt_ (by omega)
  clear hx hy al
  go_enter Try.func7, Try.ntmps7
  obtain ⟨g0, g1, g2, g3, g4, g5, g6, g7, g8, g9⟩ := C.out.c10
  go_wp2_with fail
  refine (markt_any k HX.out (by omega) (by omega)).mono ?_
  rintro e w1 ⟨rfl, o1, mk⟩
  clear g0 g1 g2 g3 g4 g5 g6 g7 g8 g9 HX
  replace C := Lib.hid (C.out.only o1 (by omega))
  replace HY := Lib.hid (HY.out.only o1 (fun _ => by omega))
  have HO1 := Lib.hid o1
  have HM := Lib.hid mk
  clear o1 mk
  obtain ⟨g0, g1, g2, g3, g4, g5, g6, g7, g8, g9⟩ := C.out.c10
  go_wp2_with fail
  refine (markStM_any _ _ _ (k + 4) HY.out (by omega) (by omega)).mono ?_
  rintro e w2 ⟨rfl, o, o2, mk2⟩
  clear g0 g1 g2 g3 g4 g5 g6 g7 g8 g9
  have al1 := (Below.refl w1.heap.size w1).alloc (Nat.le_refl _) o
  have HO2 := Lib.hid o2
  have HM2 := Lib.hid mk2
  clear o2 mk2 HY C
  go_wp2
  go_ret
  refine ⟨rfl, fun A9 b9 n9 r9 h h1 h2 => ((((h.below ((Below.refl _ _).alloc (Nat.le_refl _) _)).only HO1.out (fun _ => h1)).below al1).only HO2.out (fun _ => h2)), fun p vs h h1 h2 => ((((h.below ((Below.refl _ _).alloc (Nat.le_refl _) _)).only HO1.out h1).below al1).only HO2.out h2), fun w0 h h1 h2 => ?_, (HM.out.below al1).only HO2.out (fun _ => hne), HM2.out⟩
  have z0 := h.size
  have s1 := HO1.out.size
  exact (((h.alloc h.size _).trans (HO1.out.below h1)).alloc (by simp at s1; omega) o).trans (HO2.out.below h2)
set_option maxHeartbeats 4000000 in
set_option maxRecDepth 100000 in
theorem heldDk_any (A : Option Addr) (b : Nat) (A2 : Option Addr) (b2 cp : Nat) (k : Nat) (w : World) (hx : MHeld w A b 4 k) (hy : MHeld w A2 b2 1 (k + 4)) (hk : k ≤ 1000) :
    Calls Try.prog 8 #[.agg #[.slice A 4 4, .float .f32 1065353216, .float .f32 1073741824, .slice A2 1 cp, .int .i64 0, .float .f32 1056964608, .float .f32 1056964608, .float .f32 0, .float .f32 1065353216, .int .i64 0], .int .i64 k] w fun e w' => e = .returned (.int .i64 (k + 4 + 1 : Nat)) ∧ Below w.heap.size w w' := by
  have al := (Below.refl w.heap.size w).alloc (Nat.le_refl _) (.cells #[.slice A 4 4, .float .f32 1065353216, .float .f32 1073741824, .slice A2 1 cp, .int .i64 0, .float .f32 1056964608, .float .f32 1056964608, .float .f32 0, .float .f32 1065353216, .int .i64 0] 29)
  have HX := Lib.hid (hx.below al)
  have HY := Lib.hid (hy.below al)
  have C := Lib.hid (CIs.newAt w [.slice A 4 4, .float .f32 1065353216, .float .f32 1073741824, .slice A2 1 cp, .int .i64 0, .float .f32 1056964608, .float .f32 1056964608, .float .f32 0, .float .f32 1065353216, .int .i64 0] 29 rfl)
  have HA := Lib.hid al
  clear hx hy al
  have hn1 : decide (((k + 4 : Nat) : Int) < 0) = false := decide_eq_false (by omega)
  have hn2 : decide (((k + 4 + 1 : Nat) : Int) < 0) = false := decide_eq_false (by omega)
  go_enter Try.func8, Try.ntmps8
  obtain ⟨g0, g1, g2, g3, g4, g5, g6, g7, g8, g9⟩ := C.out.c10
  go_wp2_with fail
  refine (heldt_any k HX.out (by omega) (by omega)).mono ?_
  rintro e w1 ⟨rfl, rfl⟩
  go_wp2_with fail
  refine (heldSt_any _ _ _ (k + 4) HY.out (by omega) (by omega)).mono ?_
  rintro e w2 ⟨rfl, bb⟩
  have G := Lib.hid (HA.out.trans (bb.mono HA.out.size))
  clear bb g0 g1 g2 g3 g4 g5 g6 g7 g8 g9
  go_wp2
  go_ret
  exact ⟨rfl, G.out⟩
end Go.Proofs.Ytcfejkkkleiejaa
