/-
  PastAhead, in both packages.
-/
import Derived.Test.YtndmffkpbihcmaaTbp
import Derived.Test.YtndmffkpbihcmaaPl2
import Derived.Test.YtndmffkpbihcmaaCUnd
import Derived.Test.YtndmffkpbihcmaaCIn
import Derived.Test.YtndmffkpbihcmaaCGiv
import Derived.Test.YtndmffkpbihcmaaCLaw
import Derived.Maps.AppendAt
namespace Go.Proofs.Ytndmffkpbihcmaa
open Ieee Go.RowKit
set_option linter.unusedVariables false
theorem forth_any (n : Int) (w : World) : Calls Try.prog 54 #[.int .i64 n] w fun e w' => e = .returned (.bool (decide (0 ≤ n ∧ n ≤ 32))) ∧ w = w' := by
  by_cases h1 : 0 ≤ n
  · by_cases h2 : n ≤ 32
    · have d1 : decide ((0 : Int) ≤ n) = true := decide_eq_true h1
      have d2 : decide (n ≤ (32 : Int)) = true := decide_eq_true h2
      have HB := Lib.hid (decide_eq_true (show 0 ≤ n ∧ n ≤ 32 from ⟨h1, h2⟩))
      go_enter Try.func54, Try.ntmps54
      go_wp2
      go_ret
      exact ⟨by first | rfl | (rw [HB.out]; rfl), rfl⟩
    · have d1 : decide ((0 : Int) ≤ n) = true := decide_eq_true h1
      have d2 : decide (n ≤ (32 : Int)) = false := decide_eq_false h2
      have HB := Lib.hid (decide_eq_false (show ¬ (0 ≤ n ∧ n ≤ 32) from fun h => h2 h.2))
      go_enter Try.func54, Try.ntmps54
      go_wp2
      go_ret
      exact ⟨by first | rfl | (rw [HB.out]; rfl), rfl⟩
  · have d1 : decide ((0 : Int) ≤ n) = false := decide_eq_false h1
    have HB := Lib.hid (decide_eq_false (show ¬ (0 ≤ n ∧ n ≤ 32) from fun h => h1 h.1))
    go_enter Try.func54, Try.ntmps54
    go_wp2
    go_ret
    exact ⟨by first | rfl | (rw [HB.out]; rfl), rfl⟩

def paTm (ts : List Nat) : Bool := decide (ts.length ≤ 6) && fins ts
def paP (ks ts : List Nat) (m : Nat) : Bool := serB ks && (paTm ts && fin .f32 m)
def paB (ks ts : List Nat) (m : Nat) (N : Int) : Bool := paP ks ts m && (decide (ts.length ≤ ks.length) && decide (0 ≤ N ∧ N ≤ 32))
def paK (ks ts : List Nat) (m : Nat) : Nat → List Nat
  | 0 => cnl ks
  | k + 1 => paK ks ts m k ++ [paT (paK ks ts m k) ts m]
def paV (ks ts : List Nat) (m k : Nat) : Nat := paT (paK ks ts m k) ts m
theorem paK_len (ks ts : List Nat) (m : Nat) : ∀ k, (paK ks ts m k).length = ks.length + k
  | 0 => cnl_len _
  | k + 1 => by unfold paK; rw [List.length_append, paK_len ks ts m k]; rfl
theorem paK_next {ks ts rs : List Nat} {m k r : Nat} (h : cnl rs = paK ks ts m k) (hr : cn .f32 r = paT rs ts m) : cnl (rs ++ [r]) = paK ks ts m (k + 1) ∧ cn .f32 r = paV ks ts m k := by
  have e : cn .f32 r = paV ks ts m k := by unfold paV; rw [← h, paT_cnl]; exact hr
  exact ⟨cnl_snoc h e, e⟩
def paL (ks ts : List Nat) (m : Nat) (N : Int) : List Nat := tells (paV ks ts m) N.toNat
def paOk (ks ts : List Nat) (m : Nat) (N : Int) : Bool := paB ks ts m N && fins (paL ks ts m N)
def paR (ks ts : List Nat) (m : Nat) (N : Int) : List Nat := if paB ks ts m N then lstR (paL ks ts m N) else []
theorem pa_bad {ks ts : List Nat} {m : Nat} {N : Int} (h : paB ks ts m N = false) : paOk ks ts m N = false ∧ paR ks ts m N = [] := by unfold paOk paR; rw [h]; exact ⟨rfl, rfl⟩
theorem pa_good {ks ts : List Nat} {m : Nat} {N : Int} (h : paB ks ts m N = true) : paOk ks ts m N = fins (paL ks ts m N) ∧ paR ks ts m N = lstR (paL ks ts m N) := by unfold paOk paR; rw [h]; exact ⟨rfl, rfl⟩
theorem paR_len (ks ts : List Nat) (m : Nat) (N : Int) : (paR ks ts m N).length ≤ 1048576 := by
  unfold paR
  split
  · rename_i h
    unfold paB at h
    have h2 := of_decide_eq_true (Bool.and_eq_true_iff.1 (Bool.and_eq_true_iff.1 h).2).2
    unfold lstR
    split
    · unfold paL; rw [tells_len]; omega
    · simp
  · simp
theorem imTerms_any (a : Option Addr) (len cap : Nat) (ts : List Nat) (w : World) (h : FSl w a len ts) (hm : len ≤ 1048576) :
    Calls Try.prog 86 #[.slice a len cap] w (RetV (.bool (paTm ts)) w) := by
  have H := Lib.hid h
  have HL := Lib.hid h.1
  clear h
  by_cases h6 : len ≤ 6
  · have hd : decide ((len : Int) ≤ 6) = true := decide_eq_true (by omega)
    have HB := Lib.hid (show paTm ts = fins ts by unfold paTm; rw [HL.out, decide_eq_true h6]; rfl)
    go_enter Try.func86, Try.ntmps86
    go_wp2_with fail
    refine (imFins_any _ _ _ _ _ H.out hm).mono ?_
    rintro e w' ⟨n, rfl, rfl⟩
    go_wp2
    go_ret
    exact ⟨n, by rw [HB.out]; rfl, rfl⟩
  · have hd : decide ((len : Int) ≤ 6) = false := decide_eq_false (by omega)
    have HB := Lib.hid (show paTm ts = false by unfold paTm; rw [HL.out, decide_eq_false h6]; rfl)
    go_enter Try.func86, Try.ntmps86
    go_wp2
    go_ret
    exact ⟨0, by rw [HB.out]; rfl, rfl⟩
theorem spTerms_any (a : Option Addr) (len cap : Nat) (ts : List Nat) (w : World) (h : FSl w a len ts) (hm : len ≤ 1048576) :
    Calls Try.prog 49 #[.slice a len cap] w (RetV (.bool (paTm ts)) w) := by
  have H := Lib.hid h
  have HL := Lib.hid h.1
  clear h
  by_cases h6 : len ≤ 6
  · have hd : decide ((len : Int) ≤ 6) = true := decide_eq_true (by omega)
    have HB := Lib.hid (show paTm ts = fins ts by unfold paTm; rw [HL.out, decide_eq_true h6]; rfl)
    go_enter Try.func49, Try.ntmps49
    go_wp2_with fail
    refine (specFinite_any _ _ _ _ _ H.out hm).mono ?_
    rintro e w' ⟨n, rfl, rfl⟩
    go_wp2
    go_ret
    exact ⟨n, by rw [HB.out]; rfl, rfl⟩
  · have hd : decide ((len : Int) ≤ 6) = false := decide_eq_false (by omega)
    have HB := Lib.hid (show paTm ts = false by unfold paTm; rw [HL.out, decide_eq_false h6]; rfl)
    go_enter Try.func49, Try.ntmps49
    go_wp2
    go_ret
    exact ⟨0, by rw [HB.out]; rfl, rfl⟩
theorem imPst_any (a : Option Addr) (n cap : Nat) (ks : List Nat) (a' : Option Addr) (n' cap' : Nat) (ts : List Nat) (m : Nat) (w : World) (h : FSl w a n ks) (h' : FSl w a' n' ts) (hm : n ≤ 1048576) (hm' : n' ≤ 1048576) :
    Calls Try.prog 53 #[.slice a n cap, .slice a' n' cap', .float .f32 m] w (RetV (.bool (paP ks ts m)) w) := by
  have H := Lib.hid h
  have H' := Lib.hid h'
  clear h h'
  cases hs : serB ks
  · have HB := Lib.hid (show paP ks ts m = false by unfold paP; rw [hs]; rfl)
    have HS := Lib.hid hs
    clear hs
    go_enter Try.func53, Try.ntmps53
    go_wp2_with fail
    refine (implSeries_any _ _ _ _ _ H.out hm).mono ?_
    rw [HS.out]
    rintro e w' ⟨q, rfl, rfl⟩
    go_wp2_with fail
    go_ret
    exact ⟨q, by rw [HB.out]; rfl, rfl⟩
  · cases ht : paTm ts
    · have HB := Lib.hid (show paP ks ts m = false by unfold paP; rw [ht]; simp)
      have HS := Lib.hid hs
      have HT := Lib.hid ht
      clear hs ht
      go_enter Try.func53, Try.ntmps53
      go_wp2_with fail
      refine (implSeries_any _ _ _ _ _ H.out hm).mono ?_
      rw [HS.out]
      rintro e w' ⟨q, rfl, rfl⟩
      go_wp2_with fail
      refine (imTerms_any _ _ _ _ _ (FSl.drewN H'.out _) hm').mono ?_
      rw [HT.out]
      rintro e w' ⟨q2, rfl, rfl⟩
      go_wp2_with fail
      go_ret
      exact ⟨_, by rw [HB.out]; rfl, rfl⟩
    · have HB := Lib.hid (show paP ks ts m = fin .f32 m by unfold paP; rw [hs, ht]; rfl)
      have HS := Lib.hid hs
      have HT := Lib.hid ht
      clear hs ht
      go_enter Try.func53, Try.ntmps53
      go_wp2_with fail
      refine (implSeries_any _ _ _ _ _ H.out hm).mono ?_
      rw [HS.out]
      rintro e w' ⟨q, rfl, rfl⟩
      go_wp2_with fail
      refine (imTerms_any _ _ _ _ _ (FSl.drewN H'.out _) hm').mono ?_
      rw [HT.out]
      rintro e w' ⟨q2, rfl, rfl⟩
      go_wp2_with fail
      refine (isFinite_any _ _).mono ?_
      rintro e w' ⟨q3, rfl, rfl⟩
      go_wp2_with fail
      go_ret
      exact ⟨_, by rw [HB.out]; rfl, rfl⟩
theorem pa_push {T : TypeId} {B r : Nat} {w1 : World} {v : Value} {rs : List Nat} (h : w1.ownsRow B T 1 v (rs.length + 1) (rs.map (Value.float .f32) ++ [.float .f32 r])) : FOwn T B w1 v (rs ++ [r]) := by
  unfold FOwn
  rw [List.length_append, List.map_append]
  exact h
theorem pa_keep {T : TypeId} {B : Nat} {wr wa : World} {v : Value} {rs : List Nat} (h : FOwn T B wr v rs) (hb : Below wr.heap.size wr wa) : FOwn T B wa v rs := by
  have hl := h.lt
  refine ⟨h.1, ?_⟩
  rcases h.2 with h2 | ⟨g, cap, cur, rfl, h3, h4, h5⟩
  · exact .inl h2
  · exact .inr ⟨g, cap, cur, rfl, h3, by rw [hb.block g (hl g rfl).2]; exact h4, h5⟩
theorem FOwn.setO {T : TypeId} {B b : Nat} {w : World} {v : Value} {rs : List Nat} (h : FOwn T B w v rs) (hne : v.ownBlock ≠ some b) (i : Nat) (u : Value) : FOwn T B (w.setCell ⟨b, i, none⟩ u) v rs := by
  refine ⟨h.1, ?_⟩
  rcases h.2 with h2 | ⟨g, cap, cur, rfl, h3, h4, h5⟩
  · exact .inl h2
  · refine .inr ⟨g, cap, cur, rfl, h3, ?_, h5⟩
    rw [Below.heap_setCell w ⟨b, i, none⟩ u g (fun e => hne (by show some g = some b; rw [e]))]; exact h4
/-- What the closure of PastAhead keeps, behind k calls: what is known lies in a list of its own, apart from block g. -/
def PaI (T : TypeId) (bk bt bm g Bl : Nat) (ks : List Nat) (a' : Option Addr) (n' cap' : Nat) (ts : List Nat) (m : Nat) (k : Nat) (wr : World) : Prop :=
  (∃ v rs, wr.cell? ⟨bk, 0, none⟩ = some v ∧ wr.frozen? ⟨bk, 0, none⟩ = false ∧ FOwn T Bl wr v rs ∧ cnl rs = paK ks ts m k ∧ v.ownBlock ≠ some g ∧ v.ownBlock ≠ some bk) ∧
    BoxI bt a' n' cap' ts wr ∧ wr.cell? ⟨bm, 0, none⟩ = some (.float .f32 m)
theorem PaI.setG {T : TypeId} {bk bt bm g Bl : Nat} {ks : List Nat} {a' : Option Addr} {n' cap' : Nat} {ts : List Nat} {m k : Nat} {wr : World} (h : PaI T bk bt bm g Bl ks a' n' cap' ts m k wr) (h1 : bk < g) (h2 : bt < g) (h3 : bm < g) (j : Nat) (u : Value) : PaI T bk bt bm g Bl ks a' n' cap' ts m k (wr.setCell ⟨g, j, none⟩ u) := by
  obtain ⟨⟨v, rs, c1, c2, c3, c4, c5, c6⟩, d1, d2⟩ := h
  have hb := (Below.refl g wr).setCell (p := ⟨g, j, none⟩) (Nat.le_refl _) u
  exact ⟨⟨v, rs, by rw [hb.cell (p := ⟨bk, 0, none⟩) h1]; exact c1, by rw [hb.frozen (p := ⟨bk, 0, none⟩) h1]; exact c2, c3.setO c5 j u, c4, c5, c6⟩, d1.keep h2 hb, by rw [hb.cell (p := ⟨bm, 0, none⟩) h3]; exact d2⟩
theorem PaI.drewN {T : TypeId} {bk bt bm g Bl : Nat} {ks : List Nat} {a' : Option Addr} {n' cap' : Nat} {ts : List Nat} {m k : Nat} {wr : World} (h : PaI T bk bt bm g Bl ks a' n' cap' ts m k wr) (q : Nat) : PaI T bk bt bm g Bl ks a' n' cap' ts m k (wr.drewN q) := by
  obtain ⟨⟨v, rs, c1, c2, c3, c4, c5, c6⟩, d1, d2⟩ := h
  exact ⟨⟨v, rs, c1, c2, FOwn.drewN c3 q, c4, c5, c6⟩, d1, d2⟩
set_option maxHeartbeats 2000000 in
set_option maxRecDepth 100000 in
theorem pa1_any (bk bt bm g Bl B0 k : Nat) (ks : List Nat) (a' : Option Addr) (n' cap' : Nat) (ts : List Nat) (m : Nat) (wr : World) (h : PaI 33 bk bt bm g Bl ks a' n' cap' ts m k wr) (hB0 : B0 ≤ bk) (hBl0 : B0 ≤ Bl) (hbt : bt < Bl) (hbm : bm < Bl) (hBk : Bl ≤ bk) (hbk : bk < g) (hg : g < wr.heap.size) (has0 : 0 < ks.length) (has : ks.length + k ≤ 1048575) (hnn : n' ≤ ks.length) (hts : ts.length = n') :
    Calls Try.prog 56 #[.int .i64 k, .pointer (some ⟨bk, 0, none⟩), .pointer (some ⟨bt, 0, none⟩), .pointer (some ⟨bm, 0, none⟩)] wr (Tells (paV ks ts m) (PaI 33 bk bt bm g Bl ks a' n' cap' ts m) B0 g k wr) := by
  obtain ⟨i0, hi, hz0, hz1, hz2⟩ := info_parts Try.infoR
  obtain ⟨⟨v, rs, c1, c2, c3, c4, c5, c6⟩, d1, d2⟩ := h
  have hrl : rs.length = ks.length + k := by have := congrArg List.length c4; rw [cnl_len, paK_len] at this; exact this
  obtain ⟨A, cp, rfl, hsl, _⟩ := c3.sl
  have HSl := Lib.hid hsl
  have HO := Lib.hid c3
  have HK := Lib.hid c4
  have HG := Lib.hid c5
  have HBk := Lib.hid c6
  have HT := Lib.hid d1
  have HTs := Lib.hid (d1.fsl hts)
  have hct := d1.1
  have HRl := Lib.hid hrl
  clear hsl hrl c3 c4 c5 c6 d1
  go_enter Try.func56, Try.ntmps56
  go_wp2_with fail
  refine (told_any _ _ _ rs _ _ _ ts m _ HSl.out HTs.out (by have := HRl.out; omega) (by have := HRl.out; omega) (by have := HRl.out; omega)).mono ?_
  rintro e w1 ⟨r, hr, rfl, bb⟩
  have HN := Lib.hid (paK_next HK.out hr)
  have hs1 := bb.size
  have HO1 := Lib.hid (pa_keep HO.out bb)
  have HT1 := Lib.hid (HT.out.keep (show bt < wr.heap.size by omega) bb)
  have hck : w1.cell? ⟨bk, 0, none⟩ = some (.slice A rs.length cp) := by rw [bb.cell (p := ⟨bk, 0, none⟩) (by show bk < _; omega)]; exact c1
  have hcf : w1.frozen? ⟨bk, 0, none⟩ = false := by rw [bb.frozen (p := ⟨bk, 0, none⟩) (by show bk < _; omega)]; exact c2
  have hcm : w1.cell? ⟨bm, 0, none⟩ = some (.float .f32 m) := by rw [bb.cell (p := ⟨bm, 0, none⟩) (by show bm < _; omega)]; exact d2
  have HB1 := Lib.hid (bb.mono (show B0 ≤ wr.heap.size by omega))
  have HG1 := Lib.hid (bb.block g hg)
  clear hr bb c1 c2 d2 hct HO HT HTs HSl HK
  go_wp2_with (at_builtin; refine wpList_append_own_at _ rfl _ _ 23 rfl Bl 33 i0 (.float .f32 0) 1 4 Try.underlying23 hi hz0 hz1 hz2 rfl (by decide) _ _ _ rfl (World.ownsRow.alloc HO1.out _) ⟨w1.heap.size, 0, none⟩ 1 1 [_] rfl rfl (one_new rfl) ?c2 ?c3 ?c4 ?c5 ?_)
  case c2 => intro u hu; simp at hu; subst hu; rfl
  case c3 => have := HRl.out; unfold maxLen; omega
  case c4 => have := HRl.out; omega
  case c5 => simp; omega
  intro v1 w2 hown hgrow _ hat
  have HP := Lib.hid (pa_push (rs := rs) hown)
  obtain ⟨A2, cp2, rfl, -, -⟩ := HP.out.sl
  have hb2 : Below Bl w1 w2 := ((Below.refl Bl w1).alloc (by omega) _).grown hgrow (by simp; omega) (fun j e => (HO1.out.lt j e).1)
  have hs2 := hb2.size
  have hbk2 : w2.heap[bk]? = w1.heap[bk]? := by
    rw [hgrow.block bk (by simp; omega) (fun e => HBk.out e.symm)]
    exact ((Below.refl w1.heap.size w1).alloc (Nat.le_refl _) _).block bk (by omega)
  have hg2 : w2.heap[g]? = w1.heap[g]? := by
    rw [hgrow.block g (by simp; omega) (fun e => HG.out e.symm)]
    exact ((Below.refl w1.heap.size w1).alloc (Nat.le_refl _) _).block g (by omega)
  have hck2 : w2.cell? ⟨bk, 0, none⟩ = some (.slice A rs.length cp) := by rw [World.cell?_of_block (w := w1) hbk2]; exact hck
  have hcf2 : w2.frozen? ⟨bk, 0, none⟩ = false := by rw [World.frozen?_of_block (w := w1) hbk2]; exact hcf
  have hng : (Value.slice A2 (rs ++ [r]).length cp2).ownBlock ≠ some g := fun e => by
    rcases hat with h | h
    · exact HG.out (h ▸ e)
    · rw [h] at e; have := Option.some.inj e; omega
  have hnk : (Value.slice A2 (rs ++ [r]).length cp2).ownBlock ≠ some bk := fun e => by
    rcases hat with h | h
    · exact HBk.out (h ▸ e)
    · rw [h] at e; have := Option.some.inj e; omega
  have HI := Lib.hid (show PaI 33 bk bt bm g Bl ks a' n' cap' ts m (k + 1) (w2.setCell ⟨bk, 0, none⟩ (.slice A2 (rs ++ [r]).length cp2)) from
    ⟨⟨.slice A2 (rs ++ [r]).length cp2, rs ++ [r], World.cell?_setCell_same' _ _ _ (by rw [hck2]; rfl), by rw [World.frozen?_setCell]; exact hcf2, HP.out.setO hnk 0 _, HN.out.1, hng, hnk⟩,
      (HT1.out.keep hbt hb2).keep (B := bk) (by omega) ((Below.refl bk w2).setCell (p := ⟨bk, 0, none⟩) (Nat.le_refl _) (.slice A2 (rs ++ [r]).length cp2)),
      by rw [World.cell?_setCell_other _ _ _ _ (by intro e; injection e with e1 _ _; omega), hb2.cell (p := ⟨bm, 0, none⟩) hbm]; exact hcm⟩)
  have HBF := Lib.hid ((HB1.out.trans (hb2.mono hBl0)).setCell (p := ⟨bk, 0, none⟩) hB0 (.slice A2 (rs ++ [r]).length cp2))
  have HGF := Lib.hid (show (w2.setCell ⟨bk, 0, none⟩ (.slice A2 (rs ++ [r]).length cp2)).heap[g]? = wr.heap[g]? by rw [Below.heap_setCell w2 ⟨bk, 0, none⟩ (.slice A2 (rs ++ [r]).length cp2) g (show g ≠ bk by omega), hg2, HG1.out])
  rw [show (rs ++ [r]).length = rs.length + 1 from by simp] at HI HBF HGF
  clear hown hgrow hat hb2 hbk2 hg2 hng hnk HP HO1 HT1 HG1 HB1 hck hcf hcm
  go_wp2_with fail
  go_ret
  exact ⟨r, rfl, HN.out.2, HI.out, HBF.out, HGF.out⟩
end Go.Proofs.Ytndmffkpbihcmaa
