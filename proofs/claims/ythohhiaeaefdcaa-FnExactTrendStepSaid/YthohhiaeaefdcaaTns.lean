/-
  TrendStep: what it gives, plainly.
-/
import Derived.Test.YthohhiaeaefdcaaLvi
namespace Go.Proofs.Ythohhiaeaefdcaa
open Ieee Go.RowKit
set_option linter.unusedVariables false

/-- A number, but +0 if it is less. -/
def nbW (z : Nat) : Nat := if (FloatKind.format .f32).order z 0 == some .lt then 0 else cn .f32 z
theorem nbW_congr {x y : Nat} (h : cn .f32 x = cn .f32 y) : nbW x = nbW y := by unfold nbW; rw [order_left .f32 h 0, h]
section
variable (a b c d s t u v x : Nat)
def tsE : Nat := aop .add .f32 (cn .f32 a) (cn .f32 b)
def tsA : Nat := aop .add .f32 (aop .add .f32 (aop .add .f32 (cn .f32 c) (cn .f32 d)) (aop .add .f32 (cn .f32 d) (cn .f32 s))) (cn .f32 u)
def tsB : Nat := aop .add .f32 (cn .f32 d) (cn .f32 s)
def tsC : Nat := aop .add .f32 (cn .f32 s) (cn .f32 v)
def tsF : Nat := aop .add .f32 (tsA c d s u) (cn .f32 t)
def tsK : Nat := aop .quo .f32 (tsA c d s u) (tsF c d s t u)
def tsH : Nat := aop .quo .f32 (tsB d s) (tsF c d s t u)
def tsD : Nat := aop .sub .f32 (cn .f32 x) (tsE a b)
def tsL : Nat := aop .add .f32 (tsE a b) (aop .mul .f32 (tsK c d s t u) (tsD a b x))
def tsS : Nat := aop .add .f32 (cn .f32 b) (aop .mul .f32 (tsH c d s t u) (tsD a b x))
def tsA2 : Nat := nbW (aop .sub .f32 (tsA c d s u) (aop .mul .f32 (tsK c d s t u) (tsA c d s u)))
def tsB2 : Nat := aop .sub .f32 (tsB d s) (aop .mul .f32 (tsK c d s t u) (tsB d s))
def tsC2 : Nat := nbW (aop .sub .f32 (tsC s v) (aop .mul .f32 (tsH c d s t u) (tsB d s)))
variable (z : Bool)
def uL : Nat := if z then tsL a b c d s t u x else tsE a b
def uS : Nat := if z then tsS a b c d s t u x else cn .f32 b
def uA : Nat := if z then tsA2 c d s t u else tsA c d s u
def uB : Nat := if z then tsB2 c d s t u else tsB d s
def uC : Nat := if z then tsC2 c d s t u v else tsC s v
def tsB0 : Bool := tnB a b c d s t u v && fin .f32 x
def tsOk : Bool := tsB0 a b c d s t u v x && tnB (uL a b c d s t u x z) (uS a b c d s t u x z) (uA c d s t u z) (uB c d s t u z) (uC c d s t u v z) t u v
end
/-- A trend, a number and a bool. -/
def RetTn (A B C D S T U V Q : Nat) (ok : Bool) (w : World) (e : Ending) (w' : World) : Prop :=
  ∃ a b c d s t u v q, cn .f32 a = A ∧ cn .f32 b = B ∧ cn .f32 c = C ∧ cn .f32 d = D ∧ cn .f32 s = S ∧ cn .f32 t = T ∧ cn .f32 u = U ∧ cn .f32 v = V ∧ cn .f32 q = Q ∧ e = .returned (.tuple #[.agg #[.float .f32 a, .float .f32 b, .float .f32 c, .float .f32 d, .float .f32 s, .float .f32 t, .float .f32 u, .float .f32 v], .float .f32 q, .bool ok]) ∧ Below w.heap.size w w'
def tsR (z : Bool) (a b c d s t u v x : Nat) (w : World) : Ending → World → Prop :=
  let o := tsOk a b c d s t u v x z
  RetTn (if o then uL a b c d s t u x z else 0) (if o then uS a b c d s t u x z else 0) (if o then uA c d s t u z else 0) (if o then uB c d s t u z else 0) (if o then uC c d s t u v z else 0) (if o then cn .f32 t else 0) (if o then cn .f32 u else 0) (if o then cn .f32 v else 0) (if o then tsE a b else 0) o w
theorem tsR_no {z : Bool} {a b c d s t u v x : Nat} {w w' : World} (h : tsOk a b c d s t u v x z = false) (hb : Below w.heap.size w w') :
    tsR z a b c d s t u v x w (.returned (.tuple #[.agg #[.float .f32 0, .float .f32 0, .float .f32 0, .float .f32 0, .float .f32 0, .float .f32 0, .float .f32 0, .float .f32 0], .float .f32 0, .bool false])) w' := by
  unfold tsR; rw [h]
  exact ⟨0, 0, 0, 0, 0, 0, 0, 0, 0, cn_zero, cn_zero, cn_zero, cn_zero, cn_zero, cn_zero, cn_zero, cn_zero, cn_zero, rfl, hb⟩
theorem tsR_yes {z : Bool} {a b c d s t u v x L S A B C e : Nat} {w w' : World} (h : tsOk a b c d s t u v x z = true) (hL : cn .f32 L = uL a b c d s t u x z) (hS : cn .f32 S = uS a b c d s t u x z) (hA : cn .f32 A = uA c d s t u z) (hB : cn .f32 B = uB c d s t u z) (hC : cn .f32 C = uC c d s t u v z) (he : cn .f32 e = tsE a b) (hb : Below w.heap.size w w') :
    tsR z a b c d s t u v x w (.returned (.tuple #[.agg #[.float .f32 L, .float .f32 S, .float .f32 A, .float .f32 B, .float .f32 C, .float .f32 t, .float .f32 u, .float .f32 v], .float .f32 e, .bool true])) w' := by
  unfold tsR; rw [h]
  exact ⟨L, S, A, B, C, t, u, v, e, hL, hS, hA, hB, hC, rfl, rfl, rfl, he, rfl, hb⟩
theorem tsOk_0 {z : Bool} {a b c d s t u v x : Nat} (h : tsB0 a b c d s t u v x = false) : tsOk a b c d s t u v x z = false := by unfold tsOk; rw [h]; rfl
theorem tsOk_1 {z : Bool} {a b c d s t u v x L S A B C : Nat} (h : tsB0 a b c d s t u v x = true) (hL : cn .f32 L = uL a b c d s t u x z) (hS : cn .f32 S = uS a b c d s t u x z) (hA : cn .f32 A = uA c d s t u z) (hB : cn .f32 B = uB c d s t u z) (hC : cn .f32 C = uC c d s t u v z) :
    tsOk a b c d s t u v x z = tnB L S A B C t u v := by
  unfold tsOk; rw [h]
  rw [tnB_congr (a := L) (b := S) (c := A) (d := B) (s := C) (t := t) (u := u) (v := v) (a' := uL a b c d s t u x z) (b' := uS a b c d s t u x z) (c' := uA c d s t u z) (d' := uB c d s t u z) (s' := uC c d s t u v z) (by rw [← hL, cn_cn]) (by rw [← hS, cn_cn]) (by rw [← hA, cn_cn]) (by rw [← hB, cn_cn]) (by rw [← hC, cn_cn]) rfl rfl rfl]; rfl
/-- What is expected is finite where the trend behind a number that was not seen is valid. -/
theorem fin_tsE_of_tsL {a b c d s t u x : Nat} (h : fin .f32 (tsL a b c d s t u x) = true) : fin .f32 (tsE a b) = true := (fin_add h).1
theorem imNb_any (z : Nat) (w : World) : Calls Try.prog 91 #[.float .f32 z] w fun e w' => (∃ r, cn .f32 r = nbW z ∧ e = .returned (.float .f32 r)) ∧ w = w' := by
  cases h : ((FloatKind.format .f32).order z 0 == some Ordering.lt)
  all_goals
    have H := Lib.hid h
    go_enter Try.func91, Try.ntmps91
    go_wp2
    go_ret
    exact ⟨⟨_, by unfold nbW; rw [H.out]; first | rfl | exact cn_zero, rfl⟩, rfl⟩
theorem spNb_any (z : Nat) (w : World) : Calls Try.prog 61 #[.float .f32 z] w fun e w' => (∃ r, cn .f32 r = nbW z ∧ e = .returned (.float .f32 r)) ∧ w = w' := by
  cases h : ((FloatKind.format .f32).order z 0 == some Ordering.lt)
  all_goals
    have H := Lib.hid h
    go_enter Try.func61, Try.ntmps61
    go_wp2
    go_ret
    exact ⟨⟨_, by unfold nbW; rw [H.out]; first | rfl | exact cn_zero, rfl⟩, rfl⟩
end Go.Proofs.Ythohhiaeaefdcaa
