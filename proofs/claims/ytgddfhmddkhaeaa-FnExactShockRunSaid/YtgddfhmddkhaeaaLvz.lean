/-
  Structs of numbers in a block: all cells, none frozen.
-/
import Derived.Test.YtgddfhmddkhaeaaFsl
import Derived.Test.YtgddfhmddkhaeaaCSer
import Derived.Lib.Hide
import Derived.Below
import Derived.Test.YtgddfhmddkhaeaaFnn
import Derived.Test.YtgddfhmddkhaeaaSam
import Derived.Deep.QuietTactic
import Derived.BigQuiet
import Derived.Laws.Cover2
import Derived.Test.YtgddfhmddkhaeaaCLgn
import Derived.Deep.RegionWith
namespace Go.Proofs.Ytgddfhmddkhaeaa
open Ieee Go.RowKit
set_option linter.unusedVariables false

/-- The numbers xs stand in block p. -/
def NumsIn (w : World) (p : Nat) (xs : List Nat) : Prop := p < w.heap.size ∧ ∀ i, i < xs.length → w.cell? ⟨p, i, none⟩ = some (.float .f32 (xs.getD i 0)) ∧ w.frozen? ⟨p, i, none⟩ = false
theorem NumsIn.new (w : World) (xs : List Nat) (T : TypeId) : NumsIn (w.alloc (.cells (xs.map (Value.float .f32)).toArray T)) w.heap.size xs := by
  refine ⟨by simp, fun i hi => ⟨?_, World.frozen?_alloc_at _ _ _ _ rfl⟩⟩
  rw [World.cell?_alloc_at _ _ _ _ rfl]
  simp [List.getD, hi]
theorem NumsIn.newAt (w : World) (xs : List Nat) (T : TypeId) {p : Nat} (hp : p = w.heap.size) : NumsIn (w.alloc (.cells (xs.map (Value.float .f32)).toArray T)) p xs := by subst hp; exact NumsIn.new w xs T
theorem NumsIn.lt {w : World} {p : Nat} {xs : List Nat} (h : NumsIn w p xs) : p < w.heap.size := h.1
theorem NumsIn.belowB {w w' : World} {p B : Nat} {xs : List Nat} (h : NumsIn w p xs) (hb : Below B w w') (hp : p < B) : NumsIn w' p xs :=
  ⟨Nat.lt_of_lt_of_le h.1 hb.size, fun i hi => ⟨by rw [hb.cell (p := ⟨p, i, none⟩) hp]; exact (h.2 i hi).1, by rw [hb.frozen (p := ⟨p, i, none⟩) hp]; exact (h.2 i hi).2⟩⟩
theorem NumsIn.below {w w' : World} {p : Nat} {xs : List Nat} (h : NumsIn w p xs) (hb : Below w.heap.size w w') : NumsIn w' p xs := h.belowB hb h.lt
theorem NumsIn.alloc {w : World} {p : Nat} {xs : List Nat} (h : NumsIn w p xs) (o : Obj) : NumsIn (w.alloc o) p xs := h.below ((Below.refl _ _).alloc (Nat.le_refl _) o)
theorem NumsIn.drewN {w : World} {p : Nat} {xs : List Nat} (h : NumsIn w p xs) (n : Nat) : NumsIn (w.drewN n) p xs := h
theorem NumsIn.drew {w : World} {p : Nat} {xs : List Nat} (h : NumsIn w p xs) : NumsIn w.drew p xs := h
theorem NumsIn.set {w : World} {p q o : Nat} {v : Value} {xs : List Nat} (h : NumsIn w p xs) (hp : p ≠ q) : NumsIn (w.setCell ⟨q, o, none⟩ v) p xs :=
  ⟨by simpa [World.setCell] using h.1, fun i hi => ⟨by rw [World.cell?_setCell_other _ _ _ _ (by intro e; injection e with e1 _ _; exact hp e1.symm)]; exact (h.2 i hi).1, by rw [World.frozen?_setCell]; exact (h.2 i hi).2⟩⟩
theorem NumsIn.c4 {w : World} {p a b c d : Nat} (h : NumsIn w p [a, b, c, d]) : w.cell? ⟨p, 0, none⟩ = some (.float .f32 a) ∧ w.cell? ⟨p, 1, none⟩ = some (.float .f32 b) ∧ w.cell? ⟨p, 2, none⟩ = some (.float .f32 c) ∧ w.cell? ⟨p, 3, none⟩ = some (.float .f32 d) :=
  ⟨(h.2 0 (by simp)).1, (h.2 1 (by simp)).1, (h.2 2 (by simp)).1, (h.2 3 (by simp)).1⟩
theorem NumsIn.f4 {w : World} {p a b c d : Nat} (h : NumsIn w p [a, b, c, d]) : w.frozen? ⟨p, 0, none⟩ = false ∧ w.frozen? ⟨p, 1, none⟩ = false ∧ w.frozen? ⟨p, 2, none⟩ = false ∧ w.frozen? ⟨p, 3, none⟩ = false :=
  ⟨(h.2 0 (by simp)).2, (h.2 1 (by simp)).2, (h.2 2 (by simp)).2, (h.2 3 (by simp)).2⟩
theorem NumsIn.c8 {w : World} {p a b c d e f g k : Nat} (h : NumsIn w p [a, b, c, d, e, f, g, k]) : w.cell? ⟨p, 0, none⟩ = some (.float .f32 a) ∧ w.cell? ⟨p, 1, none⟩ = some (.float .f32 b) ∧ w.cell? ⟨p, 2, none⟩ = some (.float .f32 c) ∧ w.cell? ⟨p, 3, none⟩ = some (.float .f32 d) ∧ w.cell? ⟨p, 4, none⟩ = some (.float .f32 e) ∧ w.cell? ⟨p, 5, none⟩ = some (.float .f32 f) ∧ w.cell? ⟨p, 6, none⟩ = some (.float .f32 g) ∧ w.cell? ⟨p, 7, none⟩ = some (.float .f32 k) :=
  ⟨(h.2 0 (by simp)).1, (h.2 1 (by simp)).1, (h.2 2 (by simp)).1, (h.2 3 (by simp)).1, (h.2 4 (by simp)).1, (h.2 5 (by simp)).1, (h.2 6 (by simp)).1, (h.2 7 (by simp)).1⟩
theorem NumsIn.f8 {w : World} {p a b c d e f g k : Nat} (h : NumsIn w p [a, b, c, d, e, f, g, k]) : w.frozen? ⟨p, 0, none⟩ = false ∧ w.frozen? ⟨p, 1, none⟩ = false ∧ w.frozen? ⟨p, 2, none⟩ = false ∧ w.frozen? ⟨p, 3, none⟩ = false ∧ w.frozen? ⟨p, 4, none⟩ = false ∧ w.frozen? ⟨p, 5, none⟩ = false ∧ w.frozen? ⟨p, 6, none⟩ = false ∧ w.frozen? ⟨p, 7, none⟩ = false :=
  ⟨(h.2 0 (by simp)).2, (h.2 1 (by simp)).2, (h.2 2 (by simp)).2, (h.2 3 (by simp)).2, (h.2 4 (by simp)).2, (h.2 5 (by simp)).2, (h.2 6 (by simp)).2, (h.2 7 (by simp)).2⟩
/-- The same as a slice. -/
theorem NumsIn.fsl {w : World} {p n : Nat} {xs : List Nat} (h : NumsIn w p xs) (hn : xs.length = n) : FSl w (some ⟨p, 0, none⟩) n xs :=
  ⟨hn, .inr ⟨p, 0, rfl, h.1, fun i hi => by rw [Nat.zero_add]; exact (h.2 i (by omega)).1⟩⟩
end Go.Proofs.Ytgddfhmddkhaeaa

/-
  Levels and trends: valid or not, in both packages; the law's copies.
-/
namespace Go.Proofs.Ytgddfhmddkhaeaa
open Ieee Go.RowKit
set_option linter.unusedVariables false

/-- It is valid. -/
def lvB (a b c d : Nat) : Bool := fins [a, b, c, d] && (geB b && (posB c && (geB d)))
theorem lvB_spec (a b c d : Nat) : lvB a b c d = (fin .f32 a && (leaB b && (abvB c && (leaB d)))) := by
  unfold lvB fins leaB abvB
  simp only [List.all_cons, List.all_nil]
  generalize fin .f32 a = ga
  generalize fin .f32 b = gb
  generalize fin .f32 c = gc
  generalize fin .f32 d = gd
  generalize geB b = hb
  generalize posB c = hc
  generalize geB d = hd
  cases ga <;> cases gb <;> cases gc <;> cases gd <;> simp
theorem lvB_congr {a b c d a' b' c' d' : Nat} (ea : cn .f32 a = cn .f32 a') (eb : cn .f32 b = cn .f32 b') (ec : cn .f32 c = cn .f32 c') (ed : cn .f32 d = cn .f32 d') : lvB a b c d = lvB a' b' c' d' := by
  rw [lvB_spec, lvB_spec, fin_congr ea, leaB_congr eb, abvB_congr ec, leaB_congr ed]
theorem lvB_fins {a b c d : Nat} (h : lvB a b c d = true) : fins [a, b, c, d] = true := by unfold lvB at h; exact (Bool.and_eq_true _ _ ▸ h).1
/-- It is valid. -/
def tnB (a b c d s t u v : Nat) : Bool := fins [a, b, c, d, s, t, u, v] && (geB c && (geB s && (posB t && (geB u && (geB v)))))
theorem tnB_spec (a b c d s t u v : Nat) : tnB a b c d s t u v = (fin .f32 a && (fin .f32 b && (leaB c && (fin .f32 d && (leaB s && (abvB t && (leaB u && (leaB v)))))))) := by
  unfold tnB fins leaB abvB
  simp only [List.all_cons, List.all_nil]
  generalize fin .f32 a = ga
  generalize fin .f32 b = gb
  generalize fin .f32 c = gc
  generalize fin .f32 d = gd
  generalize fin .f32 s = gs
  generalize fin .f32 t = gt
  generalize fin .f32 u = gu
  generalize fin .f32 v = gv
  generalize geB c = hc
  generalize geB s = hs
  generalize posB t = ht
  generalize geB u = hu
  generalize geB v = hv
  cases ga <;> cases gb <;> cases gc <;> cases gd <;> cases gs <;> cases gt <;> cases gu <;> cases gv <;> simp
theorem tnB_congr {a b c d s t u v a' b' c' d' s' t' u' v' : Nat} (ea : cn .f32 a = cn .f32 a') (eb : cn .f32 b = cn .f32 b') (ec : cn .f32 c = cn .f32 c') (ed : cn .f32 d = cn .f32 d') (es : cn .f32 s = cn .f32 s') (et : cn .f32 t = cn .f32 t') (eu : cn .f32 u = cn .f32 u') (ev : cn .f32 v = cn .f32 v') : tnB a b c d s t u v = tnB a' b' c' d' s' t' u' v' := by
  rw [tnB_spec, tnB_spec, fin_congr ea, fin_congr eb, leaB_congr ec, fin_congr ed, leaB_congr es, abvB_congr et, leaB_congr eu, leaB_congr ev]
theorem tnB_fins {a b c d s t u v : Nat} (h : tnB a b c d s t u v = true) : fins [a, b, c, d, s, t, u, v] = true := by unfold tnB at h; exact (Bool.and_eq_true _ _ ▸ h).1
end Go.Proofs.Ytgddfhmddkhaeaa

/-
  LevelStep: what it gives, plainly.
-/
namespace Go.Proofs.Ytgddfhmddkhaeaa
open Ieee Go.RowKit
set_option linter.unusedVariables false

theorem NumsIn.put {w : World} {p : Nat} {xs : List Nat} (h : NumsIn w p xs) {i : Nat} (hi : i < xs.length) (v : Nat) : NumsIn (w.setCell ⟨p, i, none⟩ (.float .f32 v)) p (xs.set i v) := by
  refine ⟨by simpa [World.setCell] using h.1, fun j hj => ⟨?_, by rw [World.frozen?_setCell]; rw [List.length_set] at hj; exact (h.2 j hj).2⟩⟩
  rw [List.length_set] at hj
  by_cases e : j = i
  · subst e
    rw [World.cell?_setCell_same' _ _ _ (by rw [(h.2 j hi).1]; rfl)]
    simp [List.getD, hi]
  · rw [World.cell?_setCell_other _ _ _ _ (by intro q; injection q with _ q2 _; exact e q2.symm)]
    rw [(h.2 j hj).1]
    simp [List.getD, hj, Ne.symm e]
theorem log32_congr {x y : Nat} (h : cn .f32 x = cn .f32 y) : log32 x = log32 y := by
  have hN := isN_congr h
  cases hx : isN .f32 x
  · have hy : isN .f32 y = false := by rw [← hN, hx]
    rw [cn_num hx, cn_num hy] at h; rw [h]
  · rw [log_nan hx, log_nan (by rw [← hN, hx])]
/-- How unlikely a number is that is so far away. -/
def unlW (D F : Nat) : Nat := aop .mul .f32 1056964608 (aop .add .f32 (log32 F) (aop .quo .f32 (aop .mul .f32 D D) F))
theorem cn_unlW (D F : Nat) : cn .f32 (unlW D F) = unlW D F := cn_aop ..
theorem cn_half : cn .f32 1056964608 = 1056964608 := by decide +kernel
theorem unl_step {D F D0 F0 l : Nat} (hD : cn .f32 D = D0) (hF : cn .f32 F = F0) (hl : cn .f32 l = log32 F) (w1 w2 w3 w4 : World) : cn .f32 (fopR .mul .f32 1056964608 (fopR .add .f32 l (fopR .quo .f32 (fopR .mul .f32 D D w1) F w2) w3) w4) = unlW D0 F0 := by
  rw [cn_fopR, cn_fopR, cn_fopR, cn_fopR, hl, hD, hF, cn_half]
  unfold unlW
  rw [log32_congr (show cn .f32 F = cn .f32 F0 by rw [← hF, cn_cn])]
def lsS (b d : Nat) : Nat := aop .add .f32 (cn .f32 b) (cn .f32 d)
def lsF (b c d : Nat) : Nat := aop .add .f32 (lsS b d) (cn .f32 c)
def lsD (a x : Nat) : Nat := aop .sub .f32 (cn .f32 x) (cn .f32 a)
def lsK (b c d : Nat) : Nat := aop .quo .f32 (lsS b d) (lsF b c d)
def lsM (a b c d x : Nat) : Nat := aop .add .f32 (cn .f32 a) (aop .mul .f32 (lsK b c d) (lsD a x))
def lsP (b c d : Nat) : Nat := aop .sub .f32 (lsS b d) (aop .mul .f32 (lsK b c d) (lsS b d))
def lsQ (a b c d x : Nat) : Nat := unlW (lsD a x) (lsF b c d)
/-- The mean, the spread, and how unlikely it was. -/
def sM (s : Bool) (a b c d x : Nat) : Nat := if s then lsM a b c d x else cn .f32 a
def sP (s : Bool) (b c d : Nat) : Nat := if s then lsP b c d else lsS b d
def sQ (s : Bool) (a b c d x : Nat) : Nat := if s then lsQ a b c d x else 0
def lsB0 (a b c d x : Nat) : Bool := lvB a b c d && fin .f32 x
def lsB (s : Bool) (a b c d x : Nat) : Bool := lsB0 a b c d x && (lvB (sM s a b c d x) (sP s b c d) c d && fin .f32 (sQ s a b c d x))
/-- A level, a number and a bool. -/
def RetLv (A B C D Q : Nat) (ok : Bool) (w : World) (e : Ending) (w' : World) : Prop :=
  ∃ m s n d q, cn .f32 m = A ∧ cn .f32 s = B ∧ cn .f32 n = C ∧ cn .f32 d = D ∧ cn .f32 q = Q ∧ e = .returned (.tuple #[.agg #[.float .f32 m, .float .f32 s, .float .f32 n, .float .f32 d], .float .f32 q, .bool ok]) ∧ Below w.heap.size w w'
def lsR (s : Bool) (a b c d x : Nat) (w : World) : Ending → World → Prop :=
  RetLv (if lsB s a b c d x then sM s a b c d x else 0) (if lsB s a b c d x then sP s b c d else 0) (if lsB s a b c d x then cn .f32 c else 0) (if lsB s a b c d x then cn .f32 d else 0) (if lsB s a b c d x then sQ s a b c d x else 0) (lsB s a b c d x) w
theorem lsR_no {s : Bool} {a b c d x : Nat} {w w' : World} (h : lsB s a b c d x = false) (hb : Below w.heap.size w w') :
    lsR s a b c d x w (.returned (.tuple #[.agg #[.float .f32 0, .float .f32 0, .float .f32 0, .float .f32 0], .float .f32 0, .bool false])) w' := by
  unfold lsR; rw [h]
  exact ⟨0, 0, 0, 0, 0, cn_zero, cn_zero, cn_zero, cn_zero, cn_zero, rfl, hb⟩
theorem lsR_yes {s : Bool} {a b c d x m p q : Nat} {w w' : World} (h : lsB s a b c d x = true) (hm : cn .f32 m = sM s a b c d x) (hp : cn .f32 p = sP s b c d) (hq : cn .f32 q = sQ s a b c d x) (hb : Below w.heap.size w w') :
    lsR s a b c d x w (.returned (.tuple #[.agg #[.float .f32 m, .float .f32 p, .float .f32 c, .float .f32 d], .float .f32 q, .bool true])) w' := by
  unfold lsR; rw [h]
  exact ⟨m, p, c, d, q, hm, hp, rfl, rfl, hq, rfl, hb⟩
theorem lsB_0 {s : Bool} {a b c d x : Nat} (h : lsB0 a b c d x = false) : lsB s a b c d x = false := by unfold lsB; rw [h]; rfl
theorem lsB_1 {s : Bool} {a b c d x m p q : Nat} (h : lsB0 a b c d x = true) (hm : cn .f32 m = sM s a b c d x) (hp : cn .f32 p = sP s b c d) (hq : cn .f32 q = sQ s a b c d x) : lsB s a b c d x = (lvB m p c d && fin .f32 q) := by
  unfold lsB; rw [h]
  rw [lvB_congr (a := m) (b := p) (c := c) (d := d) (a' := sM s a b c d x) (b' := sP s b c d) (c' := c) (d' := d) (by rw [← hm, cn_cn]) (by rw [← hp, cn_cn]) rfl rfl, fin_congr (x := q) (y := sQ s a b c d x) (by rw [← hq, cn_cn])]; rfl
theorem unl_any (D F : Nat) (w : World) (hF : F < 4294967296) : Calls Try.prog 90 #[.float .f32 D, .float .f32 F] w (RetF .f32 (unlW (cn .f32 D) (cn .f32 F)) w) := by
  go_enter Try.func90, Try.ntmps90
  go_wp2_with fail
  refine (implLogNumber_any _ _ hF).mono ?_
  rintro e w' ⟨l, n, hl, rfl, rfl⟩
  have H := Lib.hid (unl_step (D := D) (F := F) rfl rfl hl)
  clear hl hF
  go_wp2
  go_ret
  exact ⟨_, _, H.out _ _ _ _, rfl, rfl⟩
end Go.Proofs.Ytgddfhmddkhaeaa

