/-
  IsName: a walk over runes and one over bytes say the same.
-/
import Derived.Test.YtiecmcpkfbhadaaChecked
import Derived.WalkKit
import Derived.WalkLawsBesides
import Derived.WalkSpells
import Derived.Lib.Hide
import Derived.Below
import Derived.Laws.RangeAny
namespace Go.Proofs.Ytiecmcpkfbhadaa
open Go.RowKit
set_option linter.unusedVariables false

theorem decode_big (s : ByteArray) (pos : Nat) (h : pos < s.size) (ha : 128 ≤ (s[pos]'h).toNat) : 128 ≤ (Utf8.decode s pos).1 := by
  have e : s.get! (pos + 0) = s[pos]'h := by
    show s.get! pos = _
    simp [ByteArray.get!, getElem!_pos, h]
    rfl
  simp only [Utf8.decode, e]
  rw [if_neg (by omega)]
  split
  · split
    · assumption
    · decide
  · split
    · split
      · rename_i hc
        have := (Bool.and_eq_true _ _ ▸ hc).1
        have := of_decide_eq_true this
        show 128 ≤ _
        omega
      · decide
    · split
      · split
        · rename_i hc
          have := (Bool.and_eq_true _ _ ▸ hc).1
          have := of_decide_eq_true this
          show 128 ≤ _
          omega
        · decide
      · decide

def lowB (b : UInt8) : Bool := decide (97 ≤ b.toNat ∧ b.toNat ≤ 122)
def nameB (l : List UInt8) : Bool := decide (1 ≤ l.length ∧ l.length ≤ 8) && l.all lowB
theorem take_snoc (s : ByteArray) (k : Nat) (h : k < s.size) : s.data.toList.take (k + 1) = s.data.toList.take k ++ [s[k]] := by
  rw [List.take_succ_eq_append_getElem (by simpa using h)]; rfl
theorem low_bad (s : ByteArray) (k : Nat) (h : k < s.size) (hb : lowB s[k] = false) : nameB s.data.toList = false := by
  unfold nameB
  have : s.data.toList.all lowB = false := by
    rw [List.all_eq_false]
    exact ⟨s[k], by simp [ByteArray.getElem_eq_getElem_data], by rw [hb]; simp⟩
  rw [this, Bool.and_false]
theorem low_more (s : ByteArray) (k : Nat) (h : k < s.size) (hb : lowB s[k] = true) (ha : (s.data.toList.take k).all lowB = true) : (s.data.toList.take (k + 1)).all lowB = true := by
  rw [take_snoc s k h, List.all_append, ha]; simp [hb]

theorem name_long (s : ByteArray) (h : ¬ (1 ≤ s.size ∧ s.size ≤ 8)) : nameB s.data.toList = false := by
  unfold nameB
  rw [decide_eq_false (by simpa using h)]; rfl
theorem implName_any (s : ByteArray) (w : World) (hs : s.size ≤ 1048576) :
    Calls Try.prog 60 #[.string s] w fun e w' => e = .returned (.bool (nameB s.data.toList)) ∧ Below w.heap.size w w' := by
  by_cases hl : 1 ≤ s.size
  · by_cases hl2 : s.size ≤ 8
    · have hd : decide ((8 : Int) < (s.size : Int)) = false := decide_eq_false (by omega)
      go_enter Try.func60, Try.ntmps60
      go_wp2
      go_loopw [4] (fun r wr => ∃ k : Nat, k ≤ s.size ∧ wr = w.iter s k ∧ Hid ((s.data.toList.take k).all lowB = true)) (fun _ wr => s.size - wr.iterPos w.heap.size)
      case atStart => exact ⟨0, Nat.zero_le _, rfl, Lib.hid (by simp)⟩
      case round =>
        obtain ⟨k, hk, rfl, hal⟩ := hrel
        by_cases hlt : k < s.size
        · by_cases ha : s[k].toNat < 128
          · have hn := fun ty => run_next_ascii (P := Try.prog) w s k ty hlt ha
            cases hb : lowB s[k]
            · have hfin := Lib.hid (low_bad s k hlt hb)
              unfold lowB at hb
              have hb := of_decide_eq_false hb
              by_cases h1 : 97 ≤ s[k].toNat
              · have h2 : 123 ≤ s[k].toNat := by omega
                clear hb
                go_wp2
                go_ret
                exact ⟨congrArg (fun b => Ending.returned (Value.bool b)) hfin.out.symm, (Below.refl _ _).alloc (Nat.le_refl _) _⟩
              · clear hb
                go_wp2
                go_ret
                exact ⟨congrArg (fun b => Ending.returned (Value.bool b)) hfin.out.symm, (Below.refl _ _).alloc (Nat.le_refl _) _⟩
            · have hmore := Lib.hid (low_more s k hlt hb hal.out)
              unfold lowB at hb
              obtain ⟨h1, h2⟩ := of_decide_eq_true hb
              clear hb
              go_wp2
              go_roundw
              case rel => exact ⟨k + 1, by omega, rfl, hmore⟩
              case measure => simp; omega
          · have hn := fun ty => run_next_any (P := Try.prog) w s k ty hlt
            have hbig := decode_big s k hlt (by omega)
            have hfin := Lib.hid (low_bad s k hlt (decide_eq_false (by omega)))
            generalize Utf8.decode s k = d at *
            obtain ⟨d1, d2⟩ := d
            simp only at hbig hn
            go_wp2
            go_ret
            exact ⟨congrArg (fun b => Ending.returned (Value.bool b)) hfin.out.symm, (Below.refl _ _).alloc (Nat.le_refl _) _⟩
        · have hn := fun ty => run_next_end (P := Try.prog) w s k ty hlt
          have hfin := Lib.hid (show nameB s.data.toList = true by
            have := hal.out
            rw [List.take_of_length_le (by simp; omega)] at this
            unfold nameB
            rw [this, Bool.and_true]
            simpa using ⟨hl, hl2⟩)
          clear hal
          go_wp2
          go_ret
          exact ⟨congrArg (fun b => Ending.returned (Value.bool b)) hfin.out.symm, (Below.refl _ _).alloc (Nat.le_refl _) _⟩
    · have hd : decide ((8 : Int) < (s.size : Int)) = true := decide_eq_true (by omega)
      have hfin := Lib.hid (name_long s (by omega))
      go_enter Try.func60, Try.ntmps60
      go_wp2
      go_ret
      exact ⟨congrArg (fun b => Ending.returned (Value.bool b)) hfin.out.symm, Below.refl _ _⟩
  · have hfin := Lib.hid (name_long s (by omega))
    go_enter Try.func60, Try.ntmps60
    go_wp2
    go_ret
    exact ⟨congrArg (fun b => Ending.returned (Value.bool b)) hfin.out.symm, Below.refl _ _⟩
end Go.Proofs.Ytiecmcpkfbhadaa
