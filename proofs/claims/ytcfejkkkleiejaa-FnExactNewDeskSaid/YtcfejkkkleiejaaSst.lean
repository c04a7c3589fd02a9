/-
  StartState, plainly, and the program's.
-/
import Derived.Test.YtcfejkkkleiejaaStp
import Derived.Test.YtcfejkkkleiejaaVst
import Derived.Test.YtcfejkkkleiejaaCMea
import Derived.Test.YtcfejkkkleiejaaCMov
import Derived.Test.YtcfejkkkleiejaaCPlc
import Derived.Test.YtcfejkkkleiejaaCis
import Derived.Deep.DeepCutAuto
namespace Go.Proofs.Ytcfejkkkleiejaa
open Ieee Go.RowKit
set_option linter.unusedVariables false
theorem allLessO_any (a : Option Addr) (len cap : Nat) (zs : List Nat) (x : Nat) (w : World) (h : FSl w a len zs) (hm : len ≤ 1048576) :
    Calls Try.prog 19 #[.slice a len cap, .float .f32 x] w (RetO 23 (less32 zs (cn .f32 x)) w) := by
  obtain ⟨i0, hi, hz0, hz1, hz2⟩ := info_parts Try.infoR
  have hmk := fun W => run_make_len (P := Try.prog) W 22 23 i0 (.float .f32 0) Try.underlying22 hi hz0 hz1 len (by rw [hz2]; omega) (by omega)
  clear hi hz0 hz1 hz2
  have HS := Lib.hid (Head.start (T := 23) (w := w) (n := len) (by omega))
  have HB := Lib.hid ((Below.refl w.heap.size w).alloc (Nat.le_refl _) (.cells (madeCells (Value.float .f32 0).cells len) 23))
  have H := Lib.hid h
  have HL := Lib.hid h.1
  clear h
  go_enter Try.func19, Try.ntmps19
  go_wp2
  clear hmk
  go_loopw [6, 7, 13] (fun p q i wr => ∃ (k : Nat) (rs : List Nat), k ≤ len ∧ i = .int .i64 k ∧ Hid (rs.length = k) ∧ Hid (Head 23 w.heap.size len rs wr) ∧ Hid (cnl rs = less32 (zs.take k) (cn .f32 x)) ∧ Hid (Below w.heap.size w wr)) (fun _ _ i _ => len - (intOf i).toNat)
  case atStart => exact ⟨0, [], Nat.zero_le _, rfl, Lib.hid rfl, HS, Lib.hid rfl, HB⟩
  case round =>
    rename_i wr
    obtain ⟨k, rs, hk, rfl, hrl, hhead, hrs, hbel⟩ := hrel
    by_cases hlt : k < len
    · obtain ⟨b, off, rfl, hb, hc⟩ := H.out.at (by omega)
      have hck := hc k hlt
      rw [← hbel.out.cell (p := ⟨b, off + k, none⟩) hb] at hck
      have hsn := Lib.hid (less_snoc (m := cn .f32 x) (k := k) (zs := zs) (by rw [HL.out]; exact hlt))
      obtain ⟨⟨u, hcell⟩, hfz⟩ := hhead.out.cell hlt
      have HP := Lib.hid (fun m r => (hhead.out.drewN m).push (by rw [hrl.out]; exact hlt) r)
      have HBn := Lib.hid (fun m r => (below_drewN hbel.out m).setCell (p := ⟨w.heap.size, k, none⟩) (Nat.le_refl _) (.float .f32 r))
      have HLn := Lib.hid (fun r => show (rs ++ [r]).length = k + 1 by rw [List.length_append, hrl.out]; rfl)
      generalize zs.getD k 0 = z at *
      have HRc := Lib.hid (fun w' => (cnl_snoc hrs.out (cn_fopR .sub .f32 z x w')).trans hsn.out.symm)
      rw [hrl.out] at HP
      clear hc hb hrs hhead hbel hsn hrl H HS HB
      go_wp2
      go_roundw
      case rel => exact ⟨k + 1, _, by omega, by go_num, Lib.hid (HLn.out _), Lib.hid (HP.out _ _), Lib.hid (HRc.out _), Lib.hid (HBn.out _ _)⟩
      case measure => simp [intOf]; omega
    · obtain rfl : k = len := by omega
      have HO := Lib.hid (hhead.out.own hrl.out (Nat.le_refl _) (by unfold maxLen; omega))
      have hfin := Lib.hid (show cnl rs = less32 zs (cn .f32 x) by rw [hrs.out, List.take_of_length_le (by rw [HL.out]; omega)])
      clear hhead hrs HS HB H
      go_wp2
      go_ret
      exact ⟨_, rs, rfl, HO.out, hfin.out, hbel.out⟩
def hrB (zs : List Nat) (p : Int) : Bool := serB zs && (decide (1 ≤ p) && (decide (p ≤ 24) && decide (p ≤ (zs.length : Int))))
theorem hasRound_any (a : Option Addr) (len cap : Nat) (zs : List Nat) (p : Int) (w : World) (h : FSl w a len zs) (hm : len ≤ 1048576) :
    Calls Try.prog 17 #[.slice a len cap, .int .i64 p] w (RetV (.bool (hrB zs p)) w) := by
  have H := Lib.hid h
  have HL := Lib.hid h.1
  clear h
  cases hs : serB zs
  · have HS := Lib.hid hs
    have HB := Lib.hid (show hrB zs p = false by unfold hrB; rw [hs]; rfl)
    clear hs
    go_enter Try.func17, Try.ntmps17
    go_wp2_with fail
    refine (implSeries_any _ _ _ _ _ H.out hm).mono ?_
    rw [HS.out]
    rintro e w' ⟨m, rfl, rfl⟩
    go_wp2
    go_ret
    exact ⟨m, by rw [HB.out]; rfl, rfl⟩
  · have HS := Lib.hid hs
    cases d1 : decide (1 ≤ p)
    · have HB := Lib.hid (show hrB zs p = false by unfold hrB; rw [d1]; simp)
      clear hs
      go_enter Try.func17, Try.ntmps17
      go_wp2_with fail
      refine (implSeries_any _ _ _ _ _ H.out hm).mono ?_
      rw [HS.out]
      rintro e w' ⟨m, rfl, rfl⟩
      go_wp2
      go_ret
      exact ⟨m, by rw [HB.out]; rfl, rfl⟩
    · cases d2 : decide (p ≤ 24)
      · have HB := Lib.hid (show hrB zs p = false by unfold hrB; rw [d2]; simp)
        clear hs
        go_enter Try.func17, Try.ntmps17
        go_wp2_with fail
        refine (implSeries_any _ _ _ _ _ H.out hm).mono ?_
        rw [HS.out]
        rintro e w' ⟨m, rfl, rfl⟩
        go_wp2
        go_ret
        exact ⟨m, by rw [HB.out]; rfl, rfl⟩
      · have HB := Lib.hid (show hrB zs p = decide (p ≤ (len : Int)) by unfold hrB; rw [hs, d1, d2, HL.out]; rfl)
        clear hs
        go_enter Try.func17, Try.ntmps17
        go_wp2_with fail
        refine (implSeries_any _ _ _ _ _ H.out hm).mono ?_
        rw [HS.out]
        rintro e w' ⟨m, rfl, rfl⟩
        go_wp2
        go_ret
        exact ⟨m, by rw [HB.out]; rfl, rfl⟩
def ssL (zs : List Nat) (p : Nat) : Nat := mean32 (zs.take p)
def ssM (zs : List Nat) (p : Nat) : Nat := mean32 ((zs.drop p).take p)
def ssS (zs : List Nat) (p : Nat) : Nat := if 2 * p ≤ zs.length then aop .quo .f32 (aop .sub .f32 (ssM zs p) (ssL zs p)) (cn .f32 (i2f p)) else 0
def ssZ (zs : List Nat) (p : Nat) : List Nat := if p = 1 then [0] else less32 (zs.take p) (ssL zs p)
def ssB (zs : List Nat) (p : Int) : Bool := hrB zs p && stB (ssL zs p.toNat) (ssS zs p.toNat) (ssZ zs p.toNat) 0
def ssQ (zs : List Nat) (p : Int) : Stt := if ssB zs p then ⟨ssL zs p.toNat, ssS zs p.toNat, ssZ zs p.toNat, 0⟩ else ⟨0, 0, [], 0⟩
theorem hrB_t {zs : List Nat} {p : Int} (h : hrB zs p = true) : serB zs = true ∧ 1 ≤ p ∧ p ≤ 24 ∧ p ≤ (zs.length : Int) := by
  unfold hrB at h
  simp only [Bool.and_eq_true, decide_eq_true_eq] at h
  exact ⟨h.1, h.2.1, h.2.2.1, h.2.2.2⟩
theorem ser_take {zs : List Nat} {p : Nat} (h : serB zs = true) (h1 : 1 ≤ p) (h2 : p ≤ zs.length) : serB (zs.take p) = true := by
  obtain ⟨-, s2, s3⟩ := serB_t h
  unfold serB
  have hf := fins_part s3 0 p
  rw [List.drop_zero] at hf
  rw [hf, List.length_take, Nat.min_eq_left h2, decide_eq_true ⟨h1, by omega⟩]; rfl
theorem ser_part {zs : List Nat} {p : Nat} (h : serB zs = true) (h1 : 1 ≤ p) (h2 : 2 * p ≤ zs.length) : serB ((zs.drop p).take p) = true := by
  obtain ⟨-, s2, s3⟩ := serB_t h
  unfold serB
  rw [fins_part s3 p p, List.length_take, List.length_drop, Nat.min_eq_left (by omega), decide_eq_true ⟨h1, by omega⟩]; rfl
theorem ssZ_len {zs : List Nat} {p : Nat} (h1 : 1 ≤ p) (h2 : p ≤ zs.length) : (ssZ zs p).length = p := by
  unfold ssZ
  split
  · subst p; rfl
  · rw [less_len, List.length_take, Nat.min_eq_left h2]
/-- What StartState gives. -/
def RetSS (T : TypeId) (zs : List Nat) (p : Int) (w : World) (e : Ending) (w' : World) : Prop :=
  ∃ A cp, e = .returned (.tuple #[.agg #[.float .f32 (ssQ zs p).l, .float .f32 (ssQ zs p).s, .slice A (ssQ zs p).zs.length cp, .int .i64 (ssQ zs p).t], .bool (ssB zs p)]) ∧ FOwn T w.heap.size w' (.slice A (ssQ zs p).zs.length cp) (ssQ zs p).zs ∧ Below w.heap.size w w'
theorem ss_no {T : TypeId} {zs : List Nat} {p : Int} {w w' : World} (h : ssB zs p = false) (hb : Below w.heap.size w w') :
    RetSS T zs p w (.returned (.tuple #[.agg #[.float .f32 0, .float .f32 0, .slice none 0 0, .int .i64 0], .bool false])) w' := by
  have hs : ssQ zs p = ⟨0, 0, [], 0⟩ := by unfold ssQ; rw [h]; rfl
  exact ⟨none, 0, by rw [hs, h]; rfl, by rw [hs]; exact FOwn.nil _ _ _, hb⟩
theorem ss_bad {zs : List Nat} {p : Nat} {L S : Nat} {Zs : List Nat} (hL : cn .f32 L = ssL zs p) (hS : cn .f32 S = ssS zs p) (hZ : cnl Zs = ssZ zs p) (h : stB L S Zs 0 = false) : ssB zs (p : Int) = false := by
  rw [stB_cn hL hS hZ] at h
  unfold ssB
  rw [Int.toNat_natCast, h, Bool.and_false]
theorem ss_yes {T : TypeId} {zs : List Nat} {p : Nat} {L S : Nat} {Zs : List Nat} {A : Option Addr} {cp : Nat} {w w' : World} (hr : hrB zs (p : Int) = true) (hL : cn .f32 L = ssL zs p) (hS : cn .f32 S = ssS zs p) (hZ : cnl Zs = ssZ zs p) (hst : stB L S Zs 0 = true) (ho : FOwn T w.heap.size w' (.slice A Zs.length cp) Zs) (hb : Below w.heap.size w w') :
    RetSS T zs (p : Int) w (.returned (.tuple #[.agg #[.float .f32 L, .float .f32 S, .slice A Zs.length cp, .int .i64 0], .bool true])) w' := by
  obtain ⟨s1, s2, s3, s4, s5⟩ := stB_t hst
  have e2 : L = ssL zs p := finw hL (by rw [← hL, fin_congr (cn_cn .f32 L)]; exact s2)
  have e3 : S = ssS zs p := finw hS (by rw [← hS, fin_congr (cn_cn .f32 S)]; exact s3)
  have e4 : Zs = ssZ zs p := by
    refine finws hZ ?_
    rw [← hZ]
    have := (serB_t (seB_t s1).1).2.2
    unfold fins cnl at *
    rw [List.all_map, ← this]
    congr 1
    funext y
    exact fin_congr (cn_cn .f32 y)
  have hB : ssB zs (p : Int) = true := by unfold ssB; rw [hr, Int.toNat_natCast, ← e2, ← e3, ← e4, hst]; rfl
  have hQ : ssQ zs (p : Int) = ⟨L, S, Zs, 0⟩ := by unfold ssQ; rw [hB, if_pos rfl, Int.toNat_natCast, e2, e3, e4]
  exact ⟨A, cp, by rw [hQ, hB], by rw [hQ]; exact ho, hb⟩
theorem ss_mean {zs : List Nat} {p : Nat} (h : fin .f32 (ssL zs p) = false) : ssB zs (p : Int) = false := by
  unfold ssB stB
  rw [Int.toNat_natCast, h]; simp
theorem ss_next {zs : List Nat} {p : Nat} (h2 : 2 * p ≤ zs.length) (h : fin .f32 (ssM zs p) = false) : ssB zs (p : Int) = false := by
  have hf : fin .f32 (ssS zs p) = false := by
    cases hq : fin .f32 (ssS zs p)
    · rfl
    · unfold ssS at hq
      rw [if_pos h2] at hq
      rw [(fin_sub (fin_quo hq)).1] at h
      cases h
  unfold ssB stB
  rw [Int.toNat_natCast, hf]; simp
end Go.Proofs.Ytcfejkkkleiejaa
