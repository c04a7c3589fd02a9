/-
  WorkDayBehind, in both packages.
-/
import Derived.Test.YtlcdbfijjjobjaaCFea
namespace Go.Proofs.Ytlcdbfijjjobjaa
open Go.RowKit
set_option linter.unusedVariables false

def isWork (zs : List Int) (d : Int) : Bool := wkB d && !decide (d ∈ zs)
/-- How many work days there are among the first k days behind a day. -/
def wk (zs : List Int) (n0 : Int) : Nat → Int
  | 0 => 0
  | k + 1 => wk zs n0 k + (if isWork zs (n0 + k + 1) then 1 else 0)
def fe (zs : List Int) (n0 : Int) : Nat → Nat
  | 0 => 0
  | k + 1 => fe zs n0 k + (if n0 + k + 1 ∈ zs then 1 else 0)
def fe1 (z : Int) (n0 : Int) : Nat → Nat
  | 0 => 0
  | k + 1 => fe1 z n0 k + (if n0 + k + 1 = z then 1 else 0)
theorem fe1_eq (z n0 : Int) (k : Nat) : fe1 z n0 k = if n0 < z ∧ z ≤ n0 + k then 1 else 0 := by
  induction k with
  | zero => unfold fe1; split <;> omega
  | succ k ih => unfold fe1; rw [ih]; split <;> split <;> split <;> omega
theorem fe_cons (z : Int) (zs : List Int) (n0 : Int) (k : Nat) : fe (z :: zs) n0 k ≤ fe1 z n0 k + fe zs n0 k := by
  induction k with
  | zero => simp [fe]
  | succ k ih =>
    unfold fe fe1
    by_cases h1 : n0 + k + 1 = z
    · rw [if_pos h1]; split <;> omega
    · by_cases h2 : n0 + (k : Int) + 1 ∈ zs
      · rw [if_neg h1, if_pos h2, if_pos (List.mem_cons_of_mem _ h2)]; omega
      · rw [if_neg h1, if_neg h2, if_neg (by simp [h1, h2])]; omega
theorem fe_le (zs : List Int) (n0 : Int) (k : Nat) : fe zs n0 k ≤ zs.length := by
  induction zs with
  | nil =>
    have : fe [] n0 k = 0 := by
      induction k with
      | zero => rfl
      | succ k ih => unfold fe; rw [ih]; simp
    omega
  | cons z zs ih =>
    have h1 := fe_cons z zs n0 k
    have h2 : fe1 z n0 k ≤ 1 := by rw [fe1_eq]; split <;> omega
    rw [List.length_cons]; omega
theorem wk_ge (zs : List Int) (n0 : Int) (k : Nat) : wbZ (n0 + 1 + k) - wbZ (n0 + 1) ≤ wk zs n0 k + fe zs n0 k := by
  induction k with
  | zero => simp [wk, fe]
  | succ k ih =>
    have h := wbZ_succ (n0 + 1 + k)
    rw [show n0 + 1 + ((k + 1 : Nat) : Int) = n0 + 1 + k + 1 by omega, h]
    unfold wk fe isWork wkB
    rw [show n0 + (k : Int) + 1 = n0 + 1 + k by omega]
    by_cases h5 : wdZ (n0 + 1 + k) < 5
    · by_cases hm : n0 + 1 + (k : Int) ∈ zs
      · simp [h5, hm]; omega
      · simp [h5, hm]; omega
    · simp [h5]; split <;> omega
theorem wk_k (zs : List Int) (n0 : Int) (k : Nat) (hl : zs.length ≤ 32) (h : wk zs n0 k ≤ 1000) : k ≤ 1500 := by
  have h1 := wk_ge zs n0 k
  have h2 := fe_le zs n0 k
  unfold wbZ at h1
  omega
theorem wk_bd (zs : List Int) (n0 : Int) (k : Nat) : 0 ≤ wk zs n0 k ∧ wk zs n0 k ≤ k := by
  induction k with
  | zero => exact ⟨Int.le_refl _, Int.le_refl _⟩
  | succ k ih => unfold wk; split <;> omega
/-- What is returned of a day, a count and feasts. -/
def behP (zs : List Int) (n0 c x : Int) (ok : Bool) : Prop :=
  (ok = true ∧ ∃ k : Nat, x = n0 + k ∧ wk zs n0 k = c ∧ (∀ j, j < k → wk zs n0 j < c) ∧ n0 + k ≤ 73048) ∨ (ok = false ∧ x = 0 ∧ ∀ j : Nat, n0 + j ≤ 73048 → wk zs n0 j < c)
theorem behP_one {zs : List Int} {n0 c x y : Int} {o p : Bool} (h : behP zs n0 c x o) (h' : behP zs n0 c y p) : x = y ∧ o = p := by
  rcases h with ⟨rfl, k, rfl, h1, h2, h3⟩ | ⟨rfl, rfl, h1⟩ <;> rcases h' with ⟨rfl, k', rfl, g1, g2, g3⟩ | ⟨rfl, rfl, g1⟩
  · rcases Nat.lt_trichotomy k k' with h | h | h
    · have := g2 k h; omega
    · subst h; exact ⟨rfl, rfl⟩
    · have := h2 k' h; omega
  · have := g1 k h3; omega
  · have := h1 k' g3; omega
  · exact ⟨rfl, rfl⟩

theorem index_any (d : Int) (a : Option Addr) (len cap : Nat) (zs : List Int) (w : World) (h : ISl w a len zs) (hm : len ≤ 1048576) :
    Calls Try.prog 69 #[.slice a len cap, .int .i64 d] w fun e w' => (∃ r : Int, e = .returned (.int .i64 r) ∧ decide (0 ≤ r) = decide (d ∈ zs)) ∧ w = w' := by
  have H := Lib.hid h
  have HL := Lib.hid h.1
  clear h
  go_enter Try.func69, Try.ntmps69
  go_wp2
  go_loop [5, 8] (fun x i => ∃ k : Nat, k ≤ len ∧ i = .int .i64 k ∧ Hid (∀ j, j < k → zs.getD j 0 ≠ d)) (fun _ i => len - (intOf i).toNat)
  case atStart => exact ⟨0, Nat.zero_le _, rfl, Lib.hid (fun j hj => by omega)⟩
  case round =>
    obtain ⟨k, hk, rfl, hno⟩ := hrel
    by_cases hlt : k < len
    · obtain ⟨b, off, rfl, hb, hc⟩ := H.out.at (by omega)
      have hck := hc k hlt
      by_cases he : zs.getD k 0 = d
      · have HM := Lib.hid (show decide ((0 : Int) ≤ (k : Int)) = decide (d ∈ zs) by
          rw [decide_eq_true (by omega), decide_eq_true (by rw [← he]; simp [List.getD, show k < zs.length by rw [HL.out]; exact hlt])])
        have hbeq : (d == zs.getD k 0) = true := by rw [he]; exact beq_self_eq_true d
        clear he hc hb
        generalize zs.getD k 0 = z at *
        go_wp2
        go_ret
        exact ⟨⟨k, rfl, decide_eq_decide.1 HM.out⟩, rfl⟩
      · have hbeq : (d == zs.getD k 0) = false := beq_false_of_ne (Ne.symm he)
        have hn2 := Lib.hid (show ∀ j, j < k + 1 → zs.getD j 0 ≠ d from fun j hj => by
          by_cases e : j = k
          · rw [e]; exact he
          · exact hno.out j (by omega))
        clear he hc hb hno
        generalize zs.getD k 0 = z at *
        go_wp2
        go_round
        case rel => exact ⟨k + 1, by omega, by go_num, hn2⟩
        case measure => simp [intOf]; omega
    · have HM := Lib.hid (show decide ((0 : Int) ≤ -1) = decide (d ∈ zs) by
        rw [decide_eq_false (by omega), decide_eq_false]
        intro hm
        obtain ⟨j, hj, he⟩ := List.mem_iff_getElem.1 hm
        exact hno.out j (by have := HL.out; omega) (by simp [List.getD, hj, he]))
      go_wp2
      go_ret
      exact ⟨⟨-1, rfl, decide_eq_decide.1 HM.out⟩, rfl⟩
theorem contains_any (d : Int) (a : Option Addr) (len cap : Nat) (zs : List Int) (w : World) (h : ISl w a len zs) (hm : len ≤ 1048576) :
    Calls Try.prog 61 #[.slice a len cap, .int .i64 d] w fun e w' => e = .returned (.bool (decide (d ∈ zs))) ∧ w = w' := by
  have H := Lib.hid h
  clear h
  go_enter Try.func61, Try.ntmps61
  go_wp2_with fail
  refine (index_any _ _ _ _ _ _ H.out hm).mono ?_
  rintro e w' ⟨⟨r, rfl, hr⟩, rfl⟩
  have HR := Lib.hid hr
  clear hr
  go_wp2
  go_ret
  exact ⟨congrArg (fun b => Ending.returned (Value.bool b)) HR.out, rfl⟩
theorem work_any (d : Int) (a : Option Addr) (len cap : Nat) (zs : List Int) (w : World) (h : ISl w a len zs) (hm : len ≤ 1048576) (h1 : -100000 ≤ d) (h2 : d ≤ 100000) :
    Calls Try.prog 60 #[.int .i64 d, .slice a len cap] w fun e w' => e = .returned (.bool (isWork zs d)) ∧ w = w' := by
  have H := Lib.hid h
  have HL := Lib.hid h.1
  clear h
  go_enter Try.func60, Try.ntmps60
  go_wp2
  go_loop [5] (fun i => ∃ k : Nat, k ≤ len ∧ i = .int .i64 k ∧ Hid (∀ j, j < k → zs.getD j 0 ≠ d)) (fun i => len - (intOf i).toNat)
  case atStart => exact ⟨0, Nat.zero_le _, rfl, Lib.hid (fun j hj => by omega)⟩
  case round =>
    obtain ⟨k, hk, rfl, hno⟩ := hrel
    by_cases hlt : k < len
    · obtain ⟨b, off, rfl, hb, hc⟩ := H.out.at (by omega)
      have hck := hc k hlt
      by_cases he : zs.getD k 0 = d
      · have HM := Lib.hid (show isWork zs d = false by
          unfold isWork
          rw [decide_eq_true (by rw [← he]; simp [List.getD, show k < zs.length by rw [HL.out]; exact hlt])]; simp)
        have hbeq : (zs.getD k 0 == d) = true := by rw [he]; exact beq_self_eq_true d
        clear he hc hb
        generalize zs.getD k 0 = z at *
        go_wp2
        go_ret
        exact ⟨congrArg (fun b => Ending.returned (Value.bool b)) HM.out.symm, rfl⟩
      · have hbeq : (zs.getD k 0 == d) = false := beq_false_of_ne he
        have hn2 := Lib.hid (show ∀ j, j < k + 1 → zs.getD j 0 ≠ d from fun j hj => by
          by_cases e : j = k
          · rw [e]; exact he
          · exact hno.out j (by omega))
        clear he hc hb hno
        generalize zs.getD k 0 = z at *
        go_wp2
        go_round
        case rel => exact ⟨k + 1, by omega, by go_num, hn2⟩
        case measure => simp [intOf]; omega
    · have HM := Lib.hid (show isWork zs d = decide (wdZ d < 5) by
        unfold isWork wkB
        rw [decide_eq_false (p := d ∈ zs), Bool.not_false, Bool.and_true]
        intro hm
        obtain ⟨j, hj, he⟩ := List.mem_iff_getElem.1 hm
        exact hno.out j (by have := HL.out; omega) (by simp [List.getD, hj, he]))
      go_wp2_with (go_at_call 54; refine (specWd_any _ _ h1 h2).mono ?_; rintro e w' ⟨rfl, rfl⟩)
      go_ret
      exact ⟨congrArg (fun b => Ending.returned (Value.bool b)) HM.out.symm, rfl⟩
end Go.Proofs.Ytlcdbfijjjobjaa
