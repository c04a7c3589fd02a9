/-
  ValidSaved, in both packages.
-/
import Derived.Test.YtiecmcpkfbhadaaSvd
namespace Go.Proofs.Ytiecmcpkfbhadaa
open Ieee Go.RowKit
set_option linter.unusedVariables false

theorem l07Name_any (s : ByteArray) (w : World) (hs : s.size ≤ 1048576) :
    Calls Try.prog 103 #[.string s] w fun e w' => e = .returned (.bool (nameB s.data.toList)) ∧ w = w' := by
  go_enter Try.func103, Try.ntmps103
  go_wp2
  go_loop [3] (fun i => ∃ k : Nat, k ≤ s.size ∧ i = .int .i64 k ∧ Hid ((s.data.toList.take k).all lowB = true)) (fun i => s.size - (intOf i).toNat)
  case atStart => exact ⟨0, Nat.zero_le _, rfl, Lib.hid (by simp)⟩
  case round =>
    obtain ⟨k, hk, rfl, hal⟩ := hrel
    by_cases hlt : k < s.size
    · cases hb : lowB s[k]
      · have hfin := Lib.hid (low_bad s k hlt hb)
        unfold lowB at hb
        have hb := of_decide_eq_false hb
        by_cases h1 : 97 ≤ s[k].toNat
        · have h2 : 123 ≤ s[k].toNat := by omega
          clear hb
          go_wp2
          go_ret
          exact ⟨congrArg (fun b => Ending.returned (Value.bool b)) hfin.out.symm, rfl⟩
        · clear hb
          go_wp2
          go_ret
          exact ⟨congrArg (fun b => Ending.returned (Value.bool b)) hfin.out.symm, rfl⟩
      · have hmore := Lib.hid (low_more s k hlt hb hal.out)
        unfold lowB at hb
        obtain ⟨h1, h2⟩ := of_decide_eq_true hb
        clear hb
        go_wp2
        go_round
        case rel => exact ⟨k + 1, by omega, by go_num, hmore⟩
        case measure => simp [intOf]; omega
    · have hfin := Lib.hid (show nameB s.data.toList = decide (1 ≤ s.size ∧ s.size ≤ 8) by
        have := hal.out
        rw [List.take_of_length_le (by simp; omega)] at this
        unfold nameB
        rw [this, Bool.and_true]
        simp)
      clear hal
      by_cases h1 : 1 ≤ s.size
      · by_cases h2 : s.size ≤ 8
        · have hf := Lib.hid (hfin.out.trans (decide_eq_true ⟨h1, h2⟩))
          have hd : decide ((s.size : Int) ≤ 8) = true := decide_eq_true (by omega)
          go_wp2
          go_ret
          exact ⟨congrArg (fun b => Ending.returned (Value.bool b)) hf.out.symm, rfl⟩
        · have hf := Lib.hid (hfin.out.trans (decide_eq_false (fun h => h2 h.2)))
          have hd : decide ((s.size : Int) ≤ 8) = false := decide_eq_false (by omega)
          go_wp2
          go_ret
          exact ⟨congrArg (fun b => Ending.returned (Value.bool b)) hf.out.symm, rfl⟩
      · have hf := Lib.hid (hfin.out.trans (decide_eq_false (fun h => h1 h.1)))
        go_wp2
        go_ret
        exact ⟨congrArg (fun b => Ending.returned (Value.bool b)) hf.out.symm, rfl⟩
theorem l07Saved_any (p : Nat) (s : ByteArray) (k : Int) (a : Option Addr) (len cap : Nat) (zs : List Nat) (w : World) (hp : SvIn w p s k a len cap) (h : FSl w a len zs) (hm : len ≤ 1048576) (hs : s.size ≤ 1048576) :
    Calls Try.prog 59 #[.pointer (some ⟨p, 0, none⟩)] w (RetV (.bool (svB s k zs)) w) := by
  have H := Lib.hid h
  obtain ⟨k0, k1, k2⟩ := hp
  clear h
  cases hn : nameB s.data.toList
  · have HN := Lib.hid hn
    have HB := Lib.hid (show svB s k zs = false by unfold svB; rw [hn]; rfl)
    clear hn
    go_enter Try.func59, Try.ntmps59
    go_wp2_with fail
    refine (l07Name_any _ _ hs).mono ?_
    rw [HN.out]
    rintro e w' ⟨rfl, rfl⟩
    go_wp2
    go_ret
    exact ⟨0, congrArg (fun b => Ending.returned (Value.bool b)) HB.out.symm, rfl⟩
  · have HN := Lib.hid hn
    by_cases hk : -1000000 ≤ k ∧ k ≤ 1000000
    · have HB := Lib.hid (show svB s k zs = serB zs by unfold svB; rw [hn, decide_eq_true hk]; rfl)
      clear hn
      go_enter Try.func59, Try.ntmps59
      go_wp2_with fail
      refine (l07Name_any _ _ hs).mono ?_
      rw [HN.out]
      rintro e w' ⟨rfl, rfl⟩
      go_wp2_with fail
      refine (in_yes _ _ _ _ hk.1 hk.2).mono ?_
      rintro e w' ⟨rfl, rfl⟩
      go_wp2_with fail
      refine (specSeries_any _ _ _ _ _ H.out hm).mono ?_
      rintro e w' ⟨m, rfl, rfl⟩
      go_wp2
      go_ret
      exact ⟨m, congrArg (fun b => Ending.returned (Value.bool b)) HB.out.symm, rfl⟩
    · have HB := Lib.hid (show svB s k zs = false by unfold svB; rw [decide_eq_false hk]; simp)
      have hk2 : k < -1000000 ∨ 1000000 < k := by omega
      clear hn hk
      go_enter Try.func59, Try.ntmps59
      go_wp2_with fail
      refine (l07Name_any _ _ hs).mono ?_
      rw [HN.out]
      rintro e w' ⟨rfl, rfl⟩
      go_wp2_with fail
      refine (in_no _ _ _ _ hk2).mono ?_
      rintro e w' ⟨rfl, rfl⟩
      go_wp2
      go_ret
      exact ⟨0, congrArg (fun b => Ending.returned (Value.bool b)) HB.out.symm, rfl⟩
theorem spVsv_any (s : ByteArray) (k : Int) (a : Option Addr) (len cap : Nat) (zs : List Nat) (w : World) (h : FSl w a len zs) (hm : len ≤ 1048576) (hs : s.size ≤ 1048576) :
    Calls Try.prog 16 #[.agg #[.string s, .int .i64 k, .slice a len cap]] w fun e w' => e = .returned (.bool (svB s k zs)) ∧ Below w.heap.size w w' := by
  have HB := Lib.hid ((Below.refl w.heap.size w).alloc (Nat.le_refl _) (.cells #[.string s, .int .i64 k, .slice a len cap] 27))
  have H := Lib.hid (FSl.below h HB.out)
  have HI := Lib.hid (SvIn.new w s k a len cap 27)
  clear h
  go_enter Try.func16, Try.ntmps16
  go_wp2_with fail
  refine (l07Saved_any _ _ _ _ _ _ _ _ HI.out H.out hm hs).mono ?_
  rintro e w' ⟨m, rfl, rfl⟩
  go_wp2
  go_ret
  exact ⟨rfl, below_drewN HB.out _⟩
theorem imVsv_any (s : ByteArray) (k : Int) (a : Option Addr) (len cap : Nat) (zs : List Nat) (w : World) (h : FSl w a len zs) (hm : len ≤ 1048576) (hs : s.size ≤ 1048576) :
    Calls Try.prog 18 #[.agg #[.string s, .int .i64 k, .slice a len cap]] w fun e w' => e = .returned (.bool (svB s k zs)) ∧ Below w.heap.size w w' := by
  have HB := Lib.hid ((Below.refl w.heap.size w).alloc (Nat.le_refl _) (.cells #[.string s, .int .i64 k, .slice a len cap] 27))
  have H := Lib.hid (FSl.below h HB.out)
  have HI := Lib.hid (SvIn.new w s k a len cap 27)
  clear h
  cases hn : nameB s.data.toList
  · have HN := Lib.hid hn
    have HF := Lib.hid (show svB s k zs = false by unfold svB; rw [hn]; rfl)
    clear hn
    go_enter Try.func18, Try.ntmps18
    go_wp2_with fail
    refine (implName_any _ _ hs).mono ?_
    rw [HN.out]
    rintro e w1 ⟨rfl, b⟩
    have HB1 := Lib.hid (HB.out.trans (b.mono HB.out.size))
    clear b
    go_wp2
    go_ret
    exact ⟨congrArg (fun b => Ending.returned (Value.bool b)) HF.out.symm, HB1.out⟩
  · have HN := Lib.hid hn
    by_cases hk1 : -1000000 ≤ k
    · have d1 : decide (-1000000 ≤ k) = true := decide_eq_true hk1
      by_cases hk2 : k ≤ 1000000
      · have d2 : decide (k ≤ 1000000) = true := decide_eq_true hk2
        have HF := Lib.hid (show svB s k zs = serB zs by unfold svB; rw [hn, decide_eq_true ⟨hk1, hk2⟩]; rfl)
        clear hn
        go_enter Try.func18, Try.ntmps18
        go_wp2_with fail
        refine (implName_any _ _ hs).mono ?_
        rw [HN.out]
        rintro e w1 ⟨rfl, b⟩
        have HB1 := Lib.hid (HB.out.trans (b.mono HB.out.size))
        obtain ⟨k0, k1, k2⟩ := HI.out.below b
        have H1 := Lib.hid (FSl.below H.out b)
        clear b
        go_wp2_with fail
        refine (implSeries_any _ _ _ _ _ H1.out hm).mono ?_
        rintro e w' ⟨m, rfl, rfl⟩
        go_wp2
        go_ret
        exact ⟨congrArg (fun b => Ending.returned (Value.bool b)) HF.out.symm, below_drewN HB1.out _⟩
      · have d2 : decide (k ≤ 1000000) = false := decide_eq_false hk2
        have HF := Lib.hid (show svB s k zs = false by unfold svB; rw [decide_eq_false (fun h => hk2 h.2)]; simp)
        clear hn
        go_enter Try.func18, Try.ntmps18
        go_wp2_with fail
        refine (implName_any _ _ hs).mono ?_
        rw [HN.out]
        rintro e w1 ⟨rfl, b⟩
        have HB1 := Lib.hid (HB.out.trans (b.mono HB.out.size))
        obtain ⟨k0, k1, k2⟩ := HI.out.below b
        clear b
        go_wp2
        go_ret
        exact ⟨congrArg (fun b => Ending.returned (Value.bool b)) HF.out.symm, HB1.out⟩
    · have d1 : decide (-1000000 ≤ k) = false := decide_eq_false hk1
      have HF := Lib.hid (show svB s k zs = false by unfold svB; rw [decide_eq_false (fun h => hk1 h.1)]; simp)
      clear hn
      go_enter Try.func18, Try.ntmps18
      go_wp2_with fail
      refine (implName_any _ _ hs).mono ?_
      rw [HN.out]
      rintro e w1 ⟨rfl, b⟩
      have HB1 := Lib.hid (HB.out.trans (b.mono HB.out.size))
      obtain ⟨k0, k1, k2⟩ := HI.out.below b
      clear b
      go_wp2
      go_ret
      exact ⟨congrArg (fun b => Ending.returned (Value.bool b)) HF.out.symm, HB1.out⟩
end Go.Proofs.Ytiecmcpkfbhadaa
