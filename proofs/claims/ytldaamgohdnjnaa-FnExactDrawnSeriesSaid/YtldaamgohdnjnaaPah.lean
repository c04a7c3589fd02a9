/-
  PastAhead, in both packages.
-/
import Derived.Test.YtldaamgohdnjnaaTbp
import Derived.Test.YtldaamgohdnjnaaPl2
import Derived.Test.YtldaamgohdnjnaaCUnd
import Derived.Test.YtldaamgohdnjnaaCIn
import Derived.Test.YtldaamgohdnjnaaCGiv
import Derived.Test.YtldaamgohdnjnaaCLaw
import Derived.Maps.AppendAt
namespace Go.Proofs.Ytldaamgohdnjnaa
open Ieee Go.RowKit
set_option linter.unusedVariables false
def paTm (ts : List Nat) : Bool := decide (ts.length ≤ 6) && fins ts
def paP (ks ts : List Nat) (m : Nat) : Bool := serB ks && (paTm ts && fin .f32 m)
def paB (ks ts : List Nat) (m : Nat) (N : Int) : Bool := paP ks ts m && (decide (ts.length ≤ ks.length) && decide (0 ≤ N ∧ N ≤ 32))
def paK (ks ts : List Nat) (m : Nat) : Nat → List Nat
  | 0 => cnl ks
  | k + 1 => paK ks ts m k ++ [paT (paK ks ts m k) ts m]
def paV (ks ts : List Nat) (m k : Nat) : Nat := paT (paK ks ts m k) ts m
theorem paK_len (ks ts : List Nat) (m : Nat) : ∀ k, (paK ks ts m k).length = ks.length + k
  | 0 => cnl_len _
  | k + 1 => by unfold paK; rw [List.length_append, paK_len ks ts m k]; rfl
theorem paK_next {ks ts rs : List Nat} {m k r : Nat} (h : cnl rs = paK ks ts m k) (hr : cn .f32 r = paT rs ts m) : cnl (rs ++ [r]) = paK ks ts m (k + 1) ∧ cn .f32 r = paV ks ts m k := by
  have e : cn .f32 r = paV ks ts m k := by unfold paV; rw [← h, paT_cnl]; exact hr
  exact ⟨cnl_snoc h e, e⟩
def paL (ks ts : List Nat) (m : Nat) (N : Int) : List Nat := tells (paV ks ts m) N.toNat
def paOk (ks ts : List Nat) (m : Nat) (N : Int) : Bool := paB ks ts m N && fins (paL ks ts m N)
def paR (ks ts : List Nat) (m : Nat) (N : Int) : List Nat := if paB ks ts m N then lstR (paL ks ts m N) else []
theorem pa_bad {ks ts : List Nat} {m : Nat} {N : Int} (h : paB ks ts m N = false) : paOk ks ts m N = false ∧ paR ks ts m N = [] := by unfold paOk paR; rw [h]; exact ⟨rfl, rfl⟩
theorem pa_good {ks ts : List Nat} {m : Nat} {N : Int} (h : paB ks ts m N = true) : paOk ks ts m N = fins (paL ks ts m N) ∧ paR ks ts m N = lstR (paL ks ts m N) := by unfold paOk paR; rw [h]; exact ⟨rfl, rfl⟩
theorem paR_len (ks ts : List Nat) (m : Nat) (N : Int) : (paR ks ts m N).length ≤ 1048576 := by
  unfold paR
  split
  · rename_i h
    unfold paB at h
    have h2 := of_decide_eq_true (Bool.and_eq_true_iff.1 (Bool.and_eq_true_iff.1 h).2).2
    unfold lstR
    split
    · unfold paL; rw [tells_len]; omega
    · simp
  · simp
theorem imTerms_any (a : Option Addr) (len cap : Nat) (ts : List Nat) (w : World) (h : FSl w a len ts) (hm : len ≤ 1048576) :
    Calls Try.prog 74 #[.slice a len cap] w (RetV (.bool (paTm ts)) w) := by
  have H := Lib.hid h
  have HL := Lib.hid h.1
  clear h
  by_cases h6 : len ≤ 6
  · have hd : decide ((len : Int) ≤ 6) = true := decide_eq_true (by omega)
    have HB := Lib.hid (show paTm ts = fins ts by unfold paTm; rw [HL.out, decide_eq_true h6]; rfl)
    go_enter Try.func74, Try.ntmps74
    go_wp2_with fail
    refine (imFins_any _ _ _ _ _ H.out hm).mono ?_
    rintro e w' ⟨n, rfl, rfl⟩
    go_wp2
    go_ret
    exact ⟨n, by rw [HB.out]; rfl, rfl⟩
  · have hd : decide ((len : Int) ≤ 6) = false := decide_eq_false (by omega)
    have HB := Lib.hid (show paTm ts = false by unfold paTm; rw [HL.out, decide_eq_false h6]; rfl)
    go_enter Try.func74, Try.ntmps74
    go_wp2
    go_ret
    exact ⟨0, by rw [HB.out]; rfl, rfl⟩
theorem spTerms_any (a : Option Addr) (len cap : Nat) (ts : List Nat) (w : World) (h : FSl w a len ts) (hm : len ≤ 1048576) :
    Calls Try.prog 70 #[.slice a len cap] w (RetV (.bool (paTm ts)) w) := by
  have H := Lib.hid h
  have HL := Lib.hid h.1
  clear h
  by_cases h6 : len ≤ 6
  · have hd : decide ((len : Int) ≤ 6) = true := decide_eq_true (by omega)
    have HB := Lib.hid (show paTm ts = fins ts by unfold paTm; rw [HL.out, decide_eq_true h6]; rfl)
    go_enter Try.func70, Try.ntmps70
    go_wp2_with fail
    refine (specFinite_any _ _ _ _ _ H.out hm).mono ?_
    rintro e w' ⟨n, rfl, rfl⟩
    go_wp2
    go_ret
    exact ⟨n, by rw [HB.out]; rfl, rfl⟩
  · have hd : decide ((len : Int) ≤ 6) = false := decide_eq_false (by omega)
    have HB := Lib.hid (show paTm ts = false by unfold paTm; rw [HL.out, decide_eq_false h6]; rfl)
    go_enter Try.func70, Try.ntmps70
    go_wp2
    go_ret
    exact ⟨0, by rw [HB.out]; rfl, rfl⟩
theorem pa_push {T : TypeId} {B r : Nat} {w1 : World} {v : Value} {rs : List Nat} (h : w1.ownsRow B T 1 v (rs.length + 1) (rs.map (Value.float .f32) ++ [.float .f32 r])) : FOwn T B w1 v (rs ++ [r]) := by
  unfold FOwn
  rw [List.length_append, List.map_append]
  exact h
theorem pa_keep {T : TypeId} {B : Nat} {wr wa : World} {v : Value} {rs : List Nat} (h : FOwn T B wr v rs) (hb : Below wr.heap.size wr wa) : FOwn T B wa v rs := by
  have hl := h.lt
  refine ⟨h.1, ?_⟩
  rcases h.2 with h2 | ⟨g, cap, cur, rfl, h3, h4, h5⟩
  · exact .inl h2
  · exact .inr ⟨g, cap, cur, rfl, h3, by rw [hb.block g (hl g rfl).2]; exact h4, h5⟩
theorem FOwn.setO {T : TypeId} {B b : Nat} {w : World} {v : Value} {rs : List Nat} (h : FOwn T B w v rs) (hne : v.ownBlock ≠ some b) (i : Nat) (u : Value) : FOwn T B (w.setCell ⟨b, i, none⟩ u) v rs := by
  refine ⟨h.1, ?_⟩
  rcases h.2 with h2 | ⟨g, cap, cur, rfl, h3, h4, h5⟩
  · exact .inl h2
  · refine .inr ⟨g, cap, cur, rfl, h3, ?_, h5⟩
    rw [Below.heap_setCell w ⟨b, i, none⟩ u g (fun e => hne (by show some g = some b; rw [e]))]; exact h4
/-- What the closure of PastAhead keeps, behind k calls: what is known lies in a list of its own, apart from block g. -/
def PaI (T : TypeId) (bk bt bm g Bl : Nat) (ks : List Nat) (a' : Option Addr) (n' cap' : Nat) (ts : List Nat) (m : Nat) (k : Nat) (wr : World) : Prop :=
  (∃ v rs, wr.cell? ⟨bk, 0, none⟩ = some v ∧ wr.frozen? ⟨bk, 0, none⟩ = false ∧ FOwn T Bl wr v rs ∧ cnl rs = paK ks ts m k ∧ v.ownBlock ≠ some g ∧ v.ownBlock ≠ some bk) ∧
    BoxI bt a' n' cap' ts wr ∧ wr.cell? ⟨bm, 0, none⟩ = some (.float .f32 m)
theorem PaI.setG {T : TypeId} {bk bt bm g Bl : Nat} {ks : List Nat} {a' : Option Addr} {n' cap' : Nat} {ts : List Nat} {m k : Nat} {wr : World} (h : PaI T bk bt bm g Bl ks a' n' cap' ts m k wr) (h1 : bk < g) (h2 : bt < g) (h3 : bm < g) (j : Nat) (u : Value) : PaI T bk bt bm g Bl ks a' n' cap' ts m k (wr.setCell ⟨g, j, none⟩ u) := by
  obtain ⟨⟨v, rs, c1, c2, c3, c4, c5, c6⟩, d1, d2⟩ := h
  have hb := (Below.refl g wr).setCell (p := ⟨g, j, none⟩) (Nat.le_refl _) u
  exact ⟨⟨v, rs, by rw [hb.cell (p := ⟨bk, 0, none⟩) h1]; exact c1, by rw [hb.frozen (p := ⟨bk, 0, none⟩) h1]; exact c2, c3.setO c5 j u, c4, c5, c6⟩, d1.keep h2 hb, by rw [hb.cell (p := ⟨bm, 0, none⟩) h3]; exact d2⟩
theorem PaI.drewN {T : TypeId} {bk bt bm g Bl : Nat} {ks : List Nat} {a' : Option Addr} {n' cap' : Nat} {ts : List Nat} {m k : Nat} {wr : World} (h : PaI T bk bt bm g Bl ks a' n' cap' ts m k wr) (q : Nat) : PaI T bk bt bm g Bl ks a' n' cap' ts m k (wr.drewN q) := by
  obtain ⟨⟨v, rs, c1, c2, c3, c4, c5, c6⟩, d1, d2⟩ := h
  exact ⟨⟨v, rs, c1, c2, FOwn.drewN c3 q, c4, c5, c6⟩, d1, d2⟩
end Go.Proofs.Ytldaamgohdnjnaa
