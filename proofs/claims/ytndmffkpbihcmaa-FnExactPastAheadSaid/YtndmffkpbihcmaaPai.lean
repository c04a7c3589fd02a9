/-
  PastAhead, in both packages: the functions themselves.
-/
import Derived.Test.YtndmffkpbihcmaaPah
namespace Go.Proofs.Ytndmffkpbihcmaa
open Ieee Go.RowKit
set_option linter.unusedVariables false
def PApt (v v' : Value) : Prop := ∀ b, v.ownBlock = some b → v'.ownBlock ≠ some b
theorem PApt.symm {u v : Value} (h : PApt u v) : PApt v u := fun b e0 e1 => h b e1 e0
theorem pa_grown {T : TypeId} {B : Nat} {wy w1 : World} {v : Value} {rs : List Nat} {row : Option Nat} (h : FOwn T B wy v rs) (hg : wy.grownBy w1 row) (hne : ∀ b, v.ownBlock = some b → some b ≠ row) : FOwn T B w1 v rs := by
  refine ⟨h.1, ?_⟩
  have hl := h.lt
  rcases h.2 with h2 | ⟨g, cap, cur, rfl, h3, h4, h5⟩
  · exact .inl h2
  · exact .inr ⟨g, cap, cur, rfl, h3, by rw [hg.block g (hl g rfl).2 (hne g rfl)]; exact h4, h5⟩
theorem papt_grown {T : TypeId} {B : Nat} {w : World} {v v' u : Value} {rs : List Nat} (h : PApt u v) (hu : FOwn T B w u rs) (hat : v'.ownBlock = v.ownBlock ∨ v'.ownBlock = some (w.heap.size + 1)) : PApt u v' := fun b e0 e1 => by
  rcases hat with h2 | h2
  · exact h b e0 (h2 ▸ e1)
  · have h3 := (hu.lt b e0).2
    rw [h2] at e1
    have h4 := Option.some.inj e1
    omega
set_option maxHeartbeats 2000000 in
set_option maxRecDepth 100000 in
theorem imPah_any (a : Option Addr) (n cap : Nat) (ks : List Nat) (a' : Option Addr) (n' cap' : Nat) (ts : List Nat) (m : Nat) (N : Int) (w : World) (h : FSl w a n ks) (h' : FSl w a' n' ts) (hm : n ≤ 1048576) (hm' : n' ≤ 1048576) :
    Calls Try.prog 22 #[.slice a n cap, .slice a' n' cap', .float .f32 m, .int .i64 N] w (RetOB 33 (paR ks ts m N) (paOk ks ts m N) w) := by
  have hmf : ∀ (fn : Fn) (first cap : Array Value) (w : World), (Instr.makeFunc fn first cap).run Try.prog w = .ok (.func fn first cap) w := fun _ _ _ _ => rfl
  have c1 := (Below.refl w.heap.size w).alloc (Nat.le_refl _) (.cells #[.slice a' n' cap'] 23)
  have c2 := c1.alloc (by simp) (.cells #[.float .f32 m] 33)
  have G := Lib.hid c2
  have HT := Lib.hid ((BoxI.start (cap := cap') (t := 23) h').keep (B := w.heap.size + 1) (by omega) ((Below.refl _ _).alloc (by simp) (.cells #[.float .f32 m] 33)))
  have hct := HT.out.1
  have hcm : ((w.alloc (.cells #[.slice a' n' cap'] 23)).alloc (.cells #[.float .f32 m] 33)).cell? ⟨w.heap.size + 1, 0, none⟩ = some (.float .f32 m) := by rw [World.cell?_alloc_at _ _ _ _ (by simp)]; rfl
  have H := Lib.hid (FSl.below h c2)
  have H' := Lib.hid (FSl.below h' c2)
  have HL := Lib.hid h.1
  have HL' := Lib.hid h'.1
  clear h h' c1 c2
  cases hp : paP ks ts m
  · have HP := Lib.hid hp
    have HB := Lib.hid (pa_bad (show paB ks ts m N = false by unfold paB; rw [hp]; rfl))
    clear hp
    go_enter Try.func22, Try.ntmps22
    go_wp2_with fail
    refine (imPst_any _ _ _ _ _ _ _ _ _ _ H.out H'.out hm hm').mono ?_
    rw [HP.out]
    rintro e w' ⟨q, rfl, rfl⟩
    go_wp2_with fail
    go_ret2
    exact fail_ob _ HB.out.1 HB.out.2 (below_drewN G.out _)
  · have HP := Lib.hid hp
    by_cases hnn : n' ≤ n
    · have hd : decide ((n : Int) < (n' : Int)) = false := decide_eq_false (by omega)
      by_cases hN : 0 ≤ N ∧ N ≤ 32
      · have HN := Lib.hid (decide_eq_true hN)
        obtain ⟨N, rfl⟩ : ∃ q : Nat, N = q := ⟨N.toNat, by omega⟩
        have hN32 : N ≤ 32 := by omega
        have HB := Lib.hid (pa_good (show paB ks ts m (N : Int) = true by unfold paB; rw [hp, HL.out, HL'.out, decide_eq_true hnn, HN.out]; rfl))
        have hs := (Bool.and_eq_true_iff.1 hp).1
        have hk1 := (serB_t hs).1
        have hk2 := (serB_t hs).2.1
        rw [HL.out] at hk1 hk2
        obtain ⟨b, off, rfl, _, _⟩ := H.out.at (show 0 < n by omega)
        clear hp hs
        go_enter Try.func22, Try.ntmps22
        go_wp2_with fail
        refine (imPst_any _ _ _ _ _ _ _ _ _ _ H.out H'.out hm hm').mono ?_
        rw [HP.out]
        rintro e w' ⟨q, rfl, rfl⟩
        go_wp2_with fail
        refine (forth_any _ _).mono ?_
        rw [HN.out]
        rintro e w' ⟨rfl, rfl⟩
        go_wp2_with fail
        refine (clone_any _ _ _ _ ks _ (FSl.drewN H.out q) (by omega) hm).mono ?_
        rintro e W3 ⟨v, rfl, ho, bb⟩
        obtain ⟨A, cp, rfl, -, -⟩ := ho.sl
        have hs3 := bb.size
        have hsw : ((w.alloc (.cells #[.slice a' n' cap'] 23)).alloc (.cells #[.float .f32 m] 33)).heap.size = w.heap.size + 1 + 1 := by simp
        have HO := Lib.hid (ho.mono (show w.heap.size + 1 + 1 ≤ _ from by rw [← hsw]; exact Nat.le_refl _))
        have hs3' : w.heap.size + 1 + 1 ≤ W3.heap.size := by rw [← hsw]; exact hs3
        have G3 := Lib.hid ((below_drewN G.out q).trans (bb.mono (below_drewN G.out q).size))
        have HT3 := Lib.hid ((HT.out.keep (B := w.heap.size + 1 + 1) (by omega) ((below_drewN (Below.refl _ _) q).trans (bb.mono (show w.heap.size + 1 + 1 ≤ _ from by rw [← hsw]; exact Nat.le_refl _)))))
        have hcm3 : W3.cell? ⟨w.heap.size + 1, 0, none⟩ = some (.float .f32 m) := by rw [bb.cell (p := ⟨w.heap.size + 1, 0, none⟩) (by show w.heap.size + 1 < ((w.alloc (.cells #[.slice a' n' cap'] 23)).alloc (.cells #[.float .f32 m] 33)).heap.size; omega)]; exact hcm
        clear ho bb hct hcm H H' HT hs3 hsw
        have HLk := Lib.hid (show ks.length = n from HL.out)
        obtain ⟨bk, hbk⟩ : ∃ b, W3.heap.size = b := ⟨_, rfl⟩
        have al := (Below.refl W3.heap.size W3).alloc (Nat.le_refl _) (.cells #[.slice A ks.length cp] 23)
        have HO4 := Lib.hid (pa_keep HO.out al)
        have hlt4 := HO.out.lt
        have HT4 := Lib.hid (HT3.out.keep (B := w.heap.size + 1) (by omega) (al.mono (by omega)))
        have hcm4 : (W3.alloc (.cells #[.slice A ks.length cp] 23)).cell? ⟨w.heap.size + 1, 0, none⟩ = some (.float .f32 m) := by rw [al.cell (p := ⟨w.heap.size + 1, 0, none⟩) (by show w.heap.size + 1 < _; omega)]; exact hcm3
        have hck4 : (W3.alloc (.cells #[.slice A ks.length cp] 23)).cell? ⟨bk, 0, none⟩ = some (.slice A ks.length cp) := by rw [World.cell?_alloc_at _ _ _ _ hbk.symm]; rfl
        have hcf4 : (W3.alloc (.cells #[.slice A ks.length cp] 23)).frozen? ⟨bk, 0, none⟩ = false := by subst hbk; unfold World.frozen?; rw [heap_alloc_new]; rfl
        have G4 := Lib.hid (G3.out.alloc (show w.heap.size ≤ W3.heap.size by omega) (.cells #[.slice A ks.length cp] 23))
        have hsz4 : (W3.alloc (.cells #[.slice A ks.length cp] 23)).heap.size = bk + 1 := by rw [World.size_alloc, hbk]
        clear al HO HT3 hcm3 G3
        go_wp2_with fail
        generalize W3.alloc (.cells #[.slice A ks.length cp] 23) = W4 at *
        have HI0 := Lib.hid (show ∀ wr, Below W4.heap.size W4 wr → PaI 33 bk w.heap.size (w.heap.size + 1) W4.heap.size (w.heap.size + 1 + 1) ks a' n' cap' ts m 0 wr from fun wr hb =>
          ⟨⟨_, ks, by rw [hb.cell (p := ⟨bk, 0, none⟩) (by show bk < _; omega)]; exact hck4, by rw [hb.frozen (p := ⟨bk, 0, none⟩) (by show bk < _; omega)]; exact hcf4, pa_keep HO4.out hb, rfl,
            fun e => by have := (hlt4 _ e).2; omega, fun e => by have := (hlt4 _ e).2; omega⟩, HT4.out.keep (by omega) hb, by rw [hb.cell (p := ⟨w.heap.size + 1, 0, none⟩) (by show w.heap.size + 1 < _; omega)]; exact hcm4⟩)
        clear hck4 hcf4 hcm4 HO4 HT4 hlt4
        refine (places2_any 56 #[.pointer (some ⟨bk, 0, none⟩), .pointer (some ⟨w.heap.size, 0, none⟩), .pointer (some ⟨w.heap.size + 1, 0, none⟩)] (paV ks ts m) (PaI 33 bk w.heap.size (w.heap.size + 1) W4.heap.size (w.heap.size + 1 + 1) ks a' n' cap' ts m) w.heap.size N W4 (enter_of Try.func56 (by kernel_rfl) rfl) (by omega) (by omega) HI0.out
          (fun k wr j v hs hI => hI.setG (by omega) (by omega) (by omega) j v) (fun k wr q hI => hI.drewN q)
          (fun k wr hk hs hI => pa1_any _ _ _ _ _ _ _ _ _ _ _ _ _ _ hI (by omega) (by omega) (by omega) (by omega) (by omega) (by omega) hs (by have := HLk.out; omega) (by have := HLk.out; omega) (by have := HLk.out; omega) HL'.out)).mono ?_
        rintro e w5 ⟨v, rs, rfl, ho, hx, -, hb⟩
        have HX := Lib.hid (show cnl rs = paR ks ts m (N : Int) by rw [hx, HB.out.2]; rfl)
        have HT := Lib.hid (show fins (tells (paV ks ts m) N) = paOk ks ts m (N : Int) by rw [HB.out.1]; rfl)
        have HO := Lib.hid (ho.mono (show w.heap.size ≤ W4.heap.size by omega))
        have HBl := Lib.hid (G4.out.trans hb)
        rw [HT.out]
        clear ho hx hb
        go_wp2
        go_ret2
        exact ⟨v, rs, rfl, HO.out, HX.out, HBl.out⟩
      · have HN := Lib.hid (decide_eq_false hN)
        have HB := Lib.hid (pa_bad (show paB ks ts m N = false by unfold paB; rw [HN.out]; simp))
        clear hp
        go_enter Try.func22, Try.ntmps22
        go_wp2_with fail
        refine (imPst_any _ _ _ _ _ _ _ _ _ _ H.out H'.out hm hm').mono ?_
        rw [HP.out]
        rintro e w' ⟨q, rfl, rfl⟩
        go_wp2_with fail
        refine (forth_any _ _).mono ?_
        rw [HN.out]
        rintro e w' ⟨rfl, rfl⟩
        go_wp2_with fail
        go_ret2
        exact fail_ob _ HB.out.1 HB.out.2 (below_drewN G.out _)
    · have hd : decide ((n : Int) < (n' : Int)) = true := decide_eq_true (by omega)
      have HB := Lib.hid (pa_bad (show paB ks ts m N = false by unfold paB; rw [HL.out, HL'.out, decide_eq_false hnn]; simp))
      clear hp
      go_enter Try.func22, Try.ntmps22
      go_wp2_with fail
      refine (imPst_any _ _ _ _ _ _ _ _ _ _ H.out H'.out hm hm').mono ?_
      rw [HP.out]
      rintro e w' ⟨q, rfl, rfl⟩
      go_wp2_with fail
      go_ret2
      exact fail_ob _ HB.out.1 HB.out.2 (below_drewN G.out _)
end Go.Proofs.Ytndmffkpbihcmaa
