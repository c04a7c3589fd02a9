/-
  Lists that are finite or none, in the model; running sums in the model.
-/
import Derived.Test.YtopgegciejmhaaaCSer
import Derived.Test.YtopgegciejmhaaaCLes
namespace Go.Proofs.Ytopgegciejmhaaa
open Ieee Go.RowKit
set_option linter.unusedVariables false

theorem fins_cnl (rs : List Nat) : fins (cnl rs) = fins rs := by
  unfold fins cnl
  rw [List.all_map]
  congr 1
  funext x
  exact fin_congr (cn_cn .f32 x)
theorem fins_congr {rs rs' : List Nat} (h : cnl rs = cnl rs') : fins rs = fins rs' := by rw [← fins_cnl, h, fins_cnl]
/-- A list if all its numbers are finite, else none. -/
def lstR (xs : List Nat) : List Nat := if fins xs then xs else []
theorem specList_any (T : TypeId) (a : Option Addr) (cap : Nat) (rs xs : List Nat) (v : Value) (w0 w : World) (hv : v = .slice a rs.length cap) (h : FSl w a rs.length rs) (hx : cnl rs = xs) (hm : rs.length ≤ 1048576)
    (ho : FOwn T w0.heap.size w v rs) (hb : Below w0.heap.size w0 w) :
    Calls Try.prog 60 #[.slice a rs.length cap] w (RetOB T (lstR xs) (fins xs) w0) := by
  have HF := Lib.hid (show fins rs = fins xs by rw [← hx, fins_cnl])
  have HS := Lib.hid h
  have HO := Lib.hid ho
  have HV := Lib.hid hv
  have HX := Lib.hid hx
  clear h ho hv hx
  cases hf : fins xs
  · have H := Lib.hid (HF.out.trans hf)
    have HE := Lib.hid (show lstR xs = [] by unfold lstR; rw [hf]; rfl)
    clear hf
    go_enter Try.func60, Try.ntmps60
    go_wp2_with fail
    refine (specFinite_any _ _ _ _ _ HS.out hm).mono ?_
    rw [H.out]
    rintro e w' ⟨n, rfl, rfl⟩
    go_wp2
    go_ret2
    exact ⟨_, [], rfl, FOwn.nil .., HE.out.symm, below_drewN hb n⟩
  · have H := Lib.hid (HF.out.trans hf)
    have HE := Lib.hid (show lstR xs = xs by unfold lstR; rw [hf]; rfl)
    clear hf
    go_enter Try.func60, Try.ntmps60
    go_wp2_with fail
    refine (specFinite_any _ _ _ _ _ HS.out hm).mono ?_
    rw [H.out]
    rintro e w' ⟨n, rfl, rfl⟩
    go_wp2
    go_ret2
    exact ⟨_, rs, rfl, by rw [HV.out] at HO; exact HO.out, HX.out.trans HE.out.symm, below_drewN hb n⟩
end Go.Proofs.Ytopgegciejmhaaa
