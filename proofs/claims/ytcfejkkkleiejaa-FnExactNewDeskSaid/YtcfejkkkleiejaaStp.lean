/-
  What a step of a state makes, plainly.
-/
import Derived.Test.YtcfejkkkleiejaaGue
import Derived.Test.YtcfejkkkleiejaaFnf
import Derived.Test.YtcfejkkkleiejaaCApa
namespace Go.Proofs.Ytcfejkkkleiejaa
open Ieee Go.RowKit
set_option linter.unusedVariables false
theorem finw {r v : Nat} (h : cn .f32 r = v) (hf : fin .f32 v = true) : r = v := by
  have hN : isN .f32 r = false := by
    rw [← isN_cn, h]
    unfold fin at hf
    cases hn : isN .f32 v
    · rfl
    · rw [hn] at hf; cases hf
  rw [← h, cn_num hN]
theorem finws : ∀ {rs xs : List Nat}, cnl rs = xs → fins xs = true → rs = xs
  | [], xs, h, _ => by rw [← h]; rfl
  | r :: rs, xs, h, hf => by
    cases xs with
    | nil => cases h
    | cons x xs =>
      simp only [cnl, List.map_cons, List.cons.injEq] at h
      have hf2 : fin .f32 x = true ∧ fins xs = true := by simpa [fins, Bool.and_eq_true] using hf
      rw [finw h.1 hf2.1, finws (show cnl rs = xs from h.2) hf2.2]
theorem own_put {T : TypeId} {B g n cap : Nat} {w : World} {rs : List Nat} (h : FOwn T B w (.slice (some ⟨g, 0, none⟩) n cap) rs) (hn : rs.length = n) (j r : Nat) : FOwn T B (w.setCell ⟨g, j, none⟩ (.float .f32 r)) (.slice (some ⟨g, 0, none⟩) n cap) (rs.set j r) := by
  subst hn
  have := (World.ownsRow.stored h j (.float .f32 r)).1
  unfold FOwn
  rw [List.length_set, List.map_set]
  exact this
theorem own_blk {T : TypeId} {B n : Nat} {w : World} {v : Value} {rs : List Nat} (h : FOwn T B w v rs) (hn : rs.length = n) (h0 : 0 < n) : ∃ g cap, v = .slice (some ⟨g, 0, none⟩) n cap ∧ B ≤ g ∧ g < w.heap.size := by
  obtain ⟨A, cap, rfl, _, hf⟩ := h.sl
  obtain ⟨b, rfl, hB, hb, _⟩ := hf 0 (by omega)
  exact ⟨b, cap, by rw [hn], hB, hb⟩
theorem own_cell {T : TypeId} {B g n cap : Nat} {w : World} {rs : List Nat} (h : FOwn T B w (.slice (some ⟨g, 0, none⟩) n cap) rs) (hn : rs.length = n) {j : Nat} (hj : j < n) : w.cell? ⟨g, j, none⟩ = some (.float .f32 (rs.getD j 0)) ∧ w.frozen? ⟨g, j, none⟩ = false := by
  subst hn
  refine ⟨?_, World.ownsRow.frozenAt h j⟩
  rw [World.ownsRow.cellAt h j (by omega)]
  simp [List.getD, hj]
theorem own_fsl {T : TypeId} {B : Nat} {w : World} {A : Option Addr} {n c : Nat} {rs : List Nat} (h : FOwn T B w (.slice A n c) rs) : FSl w A n rs := by
  obtain ⟨A', c', e, hs, _⟩ := h.sl
  injection e with e1 e2 e3
  subst e1 e2
  exact hs
theorem own_ne {T T' : TypeId} {B bA g n c : Nat} {w : World} {rs : List Nat} {cs : Array Value} (h : FOwn T B w (.slice (some ⟨bA, 0, none⟩) n c) rs) (hg : w.heap[g]? = some (.cells cs T')) (hT : T ≠ T') : bA ≠ g := by
  intro e
  subst e
  rcases h.2 with ⟨h1, -⟩ | ⟨g', cap, cur, h1, -, h2, -⟩
  · cases h1
  · injection h1 with h1 _ _
    injection h1 with h1
    injection h1 with h1 _ _
    subst h1
    rw [h2] at hg
    injection hg with hg
    injection hg with _ hg
    exact hT hg
theorem StIn.setQ {w : World} {p q o l s : Nat} {a : Option Addr} {len cap : Nat} {t : Int} {v : Value} (h : StIn w p l s a len cap t) (hp : p ≠ q) : StIn (w.setCell ⟨q, o, none⟩ v) p l s a len cap t := by
  obtain ⟨h0, h1, h2, h3⟩ := h
  refine ⟨?_, ?_, ?_, ?_⟩ <;> (rw [World.cell?_setCell_other _ _ _ _ (by intro e; injection e with e1 _ _; exact hp e1.symm)]; assumption)
theorem ShIn.setQ {w : World} {p q o a b c d : Nat} {v : Value} (h : ShIn w p a b c d) (hp : p ≠ q) : ShIn (w.setCell ⟨q, o, none⟩ v) p a b c d := by
  obtain ⟨h0, h1, h2, h3⟩ := h
  refine ⟨?_, ?_, ?_, ?_⟩ <;> (rw [World.cell?_setCell_other _ _ _ _ (by intro e; injection e with e1 _ _; exact hp e1.symm)]; assumption)
/-- A store into another block. -/
theorem own_else {T : TypeId} {B g : Nat} {w : World} {v : Value} {rs : List Nat} (h : FOwn T B w v rs) (hne : v.ownBlock ≠ some g) (i : Nat) (u : Value) : FOwn T B (w.setCell ⟨g, i, none⟩ u) v rs := h.setO hne i u
theorem set_cn (zs : List Nat) (j r x : Nat) (h : cn .f32 r = x) : cnl (zs.set j r) = (cnl zs).set j x := by
  unfold cnl; rw [List.map_set, h]
theorem stB_cn {L S L' S' : Nat} {Zs Zs' : List Nat} {t : Int} (h1 : cn .f32 L = L') (h2 : cn .f32 S = S') (h3 : cnl Zs = Zs') : stB L S Zs t = stB L' S' Zs' t := by
  have e1 : fin .f32 L = fin .f32 L' := by rw [← h1, fin_congr (cn_cn .f32 L)]
  have e2 : fin .f32 S = fin .f32 S' := by rw [← h2, fin_congr (cn_cn .f32 S)]
  have e3 : Zs.length = Zs'.length := by rw [← h3, cnl_len]
  have e4 : fins Zs = fins Zs' := by
    rw [← h3]; unfold fins cnl
    rw [List.all_map]
    congr 1
    funext y
    exact (fin_congr (cn_cn .f32 y)).symm
  unfold stB seB serB
  rw [e1, e2, e3, e4]
theorem cn_one32 : cn .f32 1065353216 = 1065353216 := by decide +kernel
def sSl (s d : Nat) : Nat := aop .mul .f32 (cn .f32 d) (cn .f32 s)
def sMi (l s : Nat) (zs : List Nat) (t : Int) (d x : Nat) : Nat := aop .sub .f32 (cn .f32 x) (guW l s zs t d)
def sLe (l s a d M : Nat) : Nat := aop .add .f32 (aop .add .f32 (cn .f32 l) (sSl s d)) (aop .mul .f32 (cn .f32 a) (cn .f32 M))
def sSo (s a b d M : Nat) : Nat := aop .add .f32 (sSl s d) (aop .mul .f32 (aop .mul .f32 (cn .f32 a) (cn .f32 b)) (cn .f32 M))
def sLr (a c : Nat) : Nat := aop .mul .f32 (cn .f32 c) (aop .sub .f32 1065353216 (cn .f32 a))
def sZt (z a c M : Nat) : Nat := aop .add .f32 (cn .f32 z) (aop .mul .f32 (sLr a c) (cn .f32 M))
def sZs (zs : List Nat) (t : Int) (a c M : Nat) : List Nat := (cnl zs).set t.toNat (sZt (zs.getD t.toNat 0) a c M)
def sAt (zs : List Nat) (t : Int) : Int := (t + 1) % (zs.length : Int)
theorem sZs_len (zs : List Nat) (t : Int) (a c M : Nat) : (sZs zs t a c M).length = zs.length := by unfold sZs; rw [List.length_set, cnl_len]
/-- The state behind a number: level, slope, season, place; and the miss. -/
structure Stt where
  l : Nat
  s : Nat
  zs : List Nat
  t : Int
def stNx (q : Stt) (a b c d x : Nat) : Stt := ⟨sLe q.l q.s a d (sMi q.l q.s q.zs q.t d x), sSo q.s a b d (sMi q.l q.s q.zs q.t d x), sZs q.zs q.t a c (sMi q.l q.s q.zs q.t d x), sAt q.zs q.t⟩
def stMi (q : Stt) (d x : Nat) : Nat := sMi q.l q.s q.zs q.t d x
def stOk (q : Stt) : Bool := stB q.l q.s q.zs q.t
def stpB (q : Stt) (a b c d x : Nat) : Bool := (stOk q && shB4 a b c d) && (fin .f32 (stMi q d x) && stOk (stNx q a b c d x))
theorem stp_fin {q : Stt} {d x : Nat} (h : fin .f32 (stMi q d x) = true) : fin .f32 x = true ∧ fin .f32 (guW q.l q.s q.zs q.t d) = true := by
  obtain ⟨h1, h2⟩ := fin_sub h
  exact ⟨by rw [← fin_congr (cn_cn .f32 x)]; exact h1, h2⟩
theorem stp_gu {l s : Nat} {zs : List Nat} {t : Int} {a b c d x : Nat} (h : guB l s zs t a b c d = false) : stpB ⟨l, s, zs, t⟩ a b c d x = false := by
  cases hq : stpB ⟨l, s, zs, t⟩ a b c d x
  · rfl
  · exfalso
    unfold stpB at hq
    simp only [Bool.and_eq_true] at hq
    obtain ⟨⟨h1, h2⟩, h3, _⟩ := hq
    have h4 := (stp_fin h3).2
    unfold guB at h
    rw [show stB l s zs t = true from h1, h2, show fin .f32 (guW l s zs t d) = true from h4] at h
    cases h
theorem stp_mi {q : Stt} {a b c d x : Nat} (h : fin .f32 (stMi q d x) = false) : stpB q a b c d x = false := by
  unfold stpB; rw [h, Bool.false_and, Bool.and_false]
/-- A step tells: the state behind it, the miss, whether it is well. -/
def RetStp (T : TypeId) (q : Stt) (a b c d x : Nat) (w : World) (e : Ending) (w' : World) : Prop :=
  Below w.heap.size w w' ∧
  (stpB q a b c d x = true → ∃ v, e = .returned (.tuple #[.agg #[.float .f32 (stNx q a b c d x).l, .float .f32 (stNx q a b c d x).s, v, .int .i64 (stNx q a b c d x).t], .float .f32 (stMi q d x), .bool true]) ∧ FOwn T w.heap.size w' v (stNx q a b c d x).zs) ∧
  (stpB q a b c d x = false → e = .returned (.tuple #[.agg #[.float .f32 0, .float .f32 0, .slice none 0 0, .int .i64 0], .float .f32 0, .bool false]))
theorem stp_no {T : TypeId} {q : Stt} {a b c d x : Nat} {w w' : World} (h : stpB q a b c d x = false) (hb : Below w.heap.size w w') :
    RetStp T q a b c d x w (.returned (.tuple #[.agg #[.float .f32 0, .float .f32 0, .slice none 0 0, .int .i64 0], .float .f32 0, .bool false])) w' :=
  ⟨hb, fun h' => (by rw [h] at h'; cases h'), fun _ => rfl⟩
theorem stp_yes {T : TypeId} {q : Stt} {a b c d x L S M : Nat} {t : Int} {Zs : List Nat} {v : Value} {w w' : World} (h0 : (stOk q && shB4 a b c d) = true) (hM : cn .f32 M = stMi q d x) (hMf : fin .f32 M = true)
    (hL : cn .f32 L = (stNx q a b c d x).l) (hS : cn .f32 S = (stNx q a b c d x).s) (hZ : cnl Zs = (stNx q a b c d x).zs) (ht : t = (stNx q a b c d x).t) (hst : stB L S Zs t = true) (ho : FOwn T w.heap.size w' v Zs) (hb : Below w.heap.size w w') :
    RetStp T q a b c d x w (.returned (.tuple #[.agg #[.float .f32 L, .float .f32 S, v, .int .i64 t], .float .f32 M, .bool true])) w' := by
  obtain ⟨s1, s2, s3, s4, s5⟩ := stB_t hst
  have hfM : fin .f32 (stMi q d x) = true := by rw [← hM, fin_congr (cn_cn .f32 M)]; exact hMf
  have e1 : M = stMi q d x := finw hM hfM
  have e2 : L = (stNx q a b c d x).l := finw hL (by rw [← hL, fin_congr (cn_cn .f32 L)]; exact s2)
  have e3 : S = (stNx q a b c d x).s := finw hS (by rw [← hS, fin_congr (cn_cn .f32 S)]; exact s3)
  have e4 : Zs = (stNx q a b c d x).zs := by
    refine finws hZ ?_
    rw [← hZ]
    have := (serB_t (seB_t s1).1).2.2
    unfold fins cnl at *
    rw [List.all_map, ← this]
    congr 1
    funext y
    exact fin_congr (cn_cn .f32 y)
  subst e1 e2 e3 e4 ht
  refine ⟨hb, fun _ => ⟨v, rfl, ho⟩, fun h => ?_⟩
  have : stpB q a b c d x = true := by unfold stpB; rw [h0, hfM, Bool.true_and, Bool.true_and]; exact hst
  rw [this] at h; cases h
end Go.Proofs.Ytcfejkkkleiejaa
