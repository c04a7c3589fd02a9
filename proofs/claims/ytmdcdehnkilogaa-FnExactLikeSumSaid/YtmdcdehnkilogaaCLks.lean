/-
  LikeSum, in both packages.
-/
import Derived.Test.YtmdcdehnkilogaaCSlg
import Derived.Test.YtmdcdehnkilogaaCSmd
import Derived.Test.YtmdcdehnkilogaaCLaw
namespace Go.Proofs.Ytmdcdehnkilogaa
open Ieee Go.RowKit
set_option linter.unusedVariables false

theorem two_cn : cn .f32 1073741824 = 1073741824 := by decide +kernel
def lksT (rs : List Nat) (n : Nat) (i : Nat) : Nat := aop .quo .f32 (aop .mul .f32 (cn .f32 (rs.getD (i + 1) 0)) (cn .f32 (rs.getD (i + 1) 0))) (cn .f32 (i2f ((n : Int) - ((i : Int) + 1))))
def lks32 (zs : List Nat) (a : Int) : Nat := aop .mul .f32 (aop .mul .f32 (cn .f32 (i2f zs.length)) (aop .add .f32 (cn .f32 (i2f zs.length)) 1073741824)) (sumT (lksT (slfL zs a) zs.length) a.toNat)
def lksB (zs : List Nat) (a : Int) : Bool := slfB zs a && fin .f32 (lks32 zs a)
def lksV (zs : List Nat) (a : Int) : Nat := if lksB zs a then lks32 zs a else 0
theorem lks_bad {zs : List Nat} {a : Int} (h : slfB zs a = false) : lksB zs a = false ∧ lksV zs a = 0 := by
  have : lksB zs a = false := by unfold lksB; rw [h]; rfl
  unfold lksV; rw [this]; exact ⟨rfl, rfl⟩
theorem lks_end {zs : List Nat} {a : Int} {r x : Nat} (h : cn .f32 r = if fin .f32 x then cn .f32 x else 0) (hB : slfB zs a = true) (hx : cn .f32 x = lks32 zs a) : cn .f32 r = lksV zs a ∧ fin .f32 x = lksB zs a := by
  have hf : fin .f32 x = fin .f32 (lks32 zs a) := fin_congr (hx.trans (cn_aop ..).symm)
  have hB2 : lksB zs a = fin .f32 (lks32 zs a) := by unfold lksB; rw [hB]; rfl
  rw [h, hf, hx, hB2]
  unfold lksV
  rw [hB2]
  exact ⟨rfl, rfl⟩
theorem lksT_cnl {rs : List Nat} {xs : List Nat} {n i : Nat} (h : cnl rs = xs) (hx : cnl xs = xs) (hi : i + 1 < rs.length) : lksT rs n i = lksT xs n i := by
  unfold lksT
  rw [cnl_getD (h.trans hx.symm) (i + 1) hi]
theorem tells_cnl {f : Nat → Nat} {n : Nat} (h : ∀ k, cn .f32 (f k) = f k) : cnl (tells f n) = tells f n := by
  unfold cnl tells
  rw [List.map_map]
  congr 1
  funext k
  exact h k
theorem slfL_cnl (zs : List Nat) (a : Int) : cnl (slfL zs a) = slfL zs a := tells_cnl fun k => cn_aop ..
theorem lks_word {zs : List Nat} {a : Int} {s : Nat} (hs : cn .f32 s = sumT (lksT (slfL zs a) zs.length) a.toNat) (w1 w2 w3 : World) :
    cn .f32 (fopR .mul .f32 (fopR .mul .f32 (floatOfInt .f32 zs.length) (fopR .add .f32 (floatOfInt .f32 zs.length) 1073741824 w1) w2) s w3) = lks32 zs a := by
  rw [cn_fopR, cn_fopR, cn_fopR, hs, two_cn]; rfl

/-- What the closure of LikeSum reads. -/
def LksI (bl ba : Nat) (A : Option Addr) (m cp : Nat) (rs : List Nat) (a : Option Addr) (len cap : Nat) (_k : Nat) (wr : World) : Prop :=
  BoxI bl A m cp rs wr ∧ wr.cell? ⟨ba, 0, none⟩ = some (.slice a len cap)
theorem lks1_any (bl ba B0 k : Nat) (A : Option Addr) (m cp : Nat) (rs : List Nat) (a : Option Addr) (len cap : Nat) (wr : World) (h : LksI bl ba A m cp rs a len cap k wr) (hk : k + 1 < m) (hm : m ≤ 96) (hl : rs.length = m) (hlen : len ≤ 96) :
    Calls Try.prog 66 #[.int .i64 k, .pointer (some ⟨bl, 0, none⟩), .pointer (some ⟨ba, 0, none⟩)] wr (Adds (lksT rs len) (LksI bl ba A m cp rs a len cap) B0 k wr) := by
  have HI := Lib.hid h
  obtain ⟨⟨hc, hb⟩, ha⟩ := h
  obtain ⟨b, off, rfl, _, hcs⟩ := hb (by omega)
  have hck := hcs (k + 1) hk
  have hw1 : wrap64 ((k : Int) + 1) = ((k + 1 : Nat) : Int) := by unfold wrap64; omega
  have hw2 : wrap64 ((len : Int) - ((k : Int) + 1)) = (len : Int) - ((k : Int) + 1) := by unfold wrap64; omega
  have hstep := Lib.hid (show ∀ z, rs.getD (k + 1) 0 = z → ∀ w1 w2, cn .f32 (fopR .quo .f32 (fopR .mul .f32 z z w1) (floatOfInt .f32 ((len : Int) - ((k : Int) + 1))) w2) = lksT rs len k from fun z hz w1 w2 => by
    rw [cn_fopR, cn_fopR, ← hz]; rfl)
  clear hb hcs
  generalize hz : rs.getD (k + 1) 0 = z at hck
  have hst := Lib.hid (hstep.out z hz)
  clear hz hstep
  go_enter Try.func66, Try.ntmps66
  go_wp2
  go_region
  all_goals
    go_wp2
    go_ret
    exact Adds.quiet (hst.out _ _) HI.out
theorem LksI.keepN {bl ba : Nat} {A : Option Addr} {m cp : Nat} {rs : List Nat} {a : Option Addr} {len cap k j : Nat} {wr : World} (h : LksI bl ba A m cp rs a len cap k wr) (n : Nat) : LksI bl ba A m cp rs a len cap j (wr.drewN n) := h
/-- A float and a bool, behind calls that make memory. -/
def RetFBm (k : FloatKind) (v : Nat) (b : Bool) (w : World) (e : Ending) (w' : World) : Prop := ∃ r, cn k r = v ∧ e = .returned (.tuple #[.float k r, .bool b]) ∧ Below w.heap.size w w'
set_option maxHeartbeats 1000000 in
set_option maxRecDepth 100000 in
theorem implLks_any (a : Option Addr) (len cap : Nat) (zs : List Nat) (q : Int) (w : World) (h : FSl w a len zs) (hm : len ≤ 1048576) :
    Calls Try.prog 25 #[.slice a len cap, .int .i64 q] w (RetFBm .f32 (lksV zs q) (lksB zs q) w) := by
  have hmf : ∀ (fn : Fn) (first cap : Array Value) (w : World), (Instr.makeFunc fn first cap).run Try.prog w = .ok (.func fn first cap) w := fun _ _ _ _ => rfl
  have H := Lib.hid h
  have HL := Lib.hid h.1
  clear h
  have HA0 := Lib.hid (show ((w.alloc (.cells #[.slice a len cap] 22)).cell? ⟨w.heap.size, 0, none⟩ = some (.slice a len cap)) by rw [World.cell?_alloc_at _ _ _ _ rfl]; rfl)
  have HAb := Lib.hid ((Below.refl w.heap.size w).alloc (Nat.le_refl _) (.cells #[.slice a len cap] 22))
  go_enter Try.func25, Try.ntmps25
  go_wp2_with fail
  refine (implSlf_any _ _ _ _ _ _ (FSl.below H.out HAb.out) hm).mono ?_
  intro e w1 hR
  obtain ⟨A, cp, d, rs, rfl, t, hc, hq, hb⟩ := hR.res
  have HB1 := Lib.hid (HAb.out.trans (hb.mono (by simp)))
  have ha1 : w1.cell? ⟨w.heap.size, 0, none⟩ = some (.slice a len cap) := (hb.cell (p := ⟨w.heap.size, 0, none⟩) (by simp)).trans HA0.out
  have hzw : w.heap.size < w1.heap.size := by have := hb.size; simp at this; omega
  have HX := Lib.hid (BoxI.start (cap := cp) (t := 22) t.sl)
  have HC := Lib.hid hc
  have HTl := Lib.hid t.sl.1
  clear hR t hc hq hb
  cases hB : slfB zs q
  · have HB := Lib.hid (lks_bad hB)
    clear hB
    go_wp2
    go_ret2
    exact ⟨_, by rw [HB.out.2]; exact cn_zero, by rw [HB.out.1]; rfl, HB1.out.alloc (by omega) _⟩
  · obtain ⟨e1, e2, e3⟩ := slfR_len2 hB
    obtain ⟨_, h0, h16, hlt, h96⟩ := lagsB_t e2
    obtain ⟨n, rfl⟩ : ∃ n : Nat, q = n := ⟨q.toNat, by omega⟩
    have HBB := Lib.hid hB
    have HRs := Lib.hid (show cnl rs = slfL zs n by rw [HC.out, e3])
    rw [HL.out] at hlt h96
    have hm2 : (slfR zs n).length = n + 1 := by rw [e1, Int.toNat_natCast]
    have hn : n < len := by omega
    rw [hm2] at HX HTl
    have ha2 : ∀ o, (w1.alloc o).cell? ⟨w.heap.size, 0, none⟩ = some (.slice a len cap) := fun o => (World.cell?_alloc_past _ _ _ hzw).trans ha1
    have HI := Lib.hid (show LksI w1.heap.size w.heap.size A (n + 1) cp rs a len cap 0 (w1.alloc (.cells #[.slice A (n + 1) cp] 22)) from ⟨HX.out, ha2 _⟩)
    simp only [hm2]
    clear hB e1 e2 e3 hm2 ha1
    go_wp2_with fail
    refine (summed_any 66 #[.pointer (some ⟨w1.heap.size, 0, none⟩), .pointer (some ⟨w.heap.size, 0, none⟩)] (lksT rs len) (LksI w1.heap.size w.heap.size A (n + 1) cp rs a len cap) w.heap.size n _ (enter_of Try.func66 (by kernel_rfl) rfl) (by omega) (by simp; omega) HI.out (fun k m wr h => h.keepN m) (fun k wr hk hsz hI => lks1_any _ _ _ _ _ _ _ _ _ _ _ _ hI (by omega) (by omega) HTl.out h96)).mono ?_
    rintro e w2 ⟨s, rfl, hs, hi, hb2⟩
    have HSm := Lib.hid (show cn .f32 s = sumT (lksT (slfL zs n) zs.length) (n : Int).toNat by
      rw [hs, HL.out, Int.toNat_natCast]
      exact sumT_congr fun k hk => lksT_cnl HRs.out (slfL_cnl ..) (by rw [HTl.out]; omega))
    have HB2 := Lib.hid ((HB1.out.alloc (by omega) _).trans hb2)
    have ha3 := hi.2
    clear hs hi hb2
    go_wp2_with fail
    refine (implOnly_any _ _).mono ?_
    rintro e w' ⟨r', n', hr', rfl, rfl⟩
    have HR' := Lib.hid hr'
    clear hr'
    go_wp2
    go_ret2
    have W := lks_end HR'.out HBB.out (by rw [← HL.out]; exact lks_word HSm.out _ _ _)
    exact ⟨r', W.1, by rw [← W.2]; rfl, below_drewN HB2.out _⟩
set_option maxHeartbeats 1000000 in
set_option maxRecDepth 100000 in
theorem specLks_any (a : Option Addr) (len cap : Nat) (zs : List Nat) (q : Int) (w : World) (h : FSl w a len zs) (hm : len ≤ 1048576) :
    Calls Try.prog 24 #[.slice a len cap, .int .i64 q] w (RetFBm .f32 (lksV zs q) (lksB zs q) w) := by
  have H := Lib.hid h
  have HL := Lib.hid h.1
  clear h
  go_enter Try.func24, Try.ntmps24
  go_wp2_with fail
  refine (specSlf_any _ _ _ _ _ _ H.out hm).mono ?_
  intro e w1 hR
  obtain ⟨A, cp, d, rs, rfl, t, hc, hq, hb⟩ := hR.res
  have HB1 := Lib.hid hb
  have HT := Lib.hid t.sl
  have HC := Lib.hid hc
  clear hR t hc hq hb
  cases hB : slfB zs q
  · have HB := Lib.hid (lks_bad hB)
    clear hB
    go_wp2
    go_ret2
    exact ⟨_, by rw [HB.out.2]; exact cn_zero, by rw [HB.out.1]; rfl, HB1.out⟩
  · obtain ⟨e1, e2, e3⟩ := slfR_len2 hB
    obtain ⟨_, h0, h16, hlt, h96⟩ := lagsB_t e2
    obtain ⟨n, rfl⟩ : ∃ n : Nat, q = n := ⟨q.toNat, by omega⟩
    have HBB := Lib.hid hB
    have HRs := Lib.hid (show cnl rs = slfL zs n by rw [HC.out, e3])
    rw [HL.out] at hlt h96
    have hm2 : (slfR zs n).length = n + 1 := by rw [e1, Int.toNat_natCast]
    have hn : n < len := by omega
    rw [hm2] at HT
    simp only [hm2]
    clear hB e1 e2 e3 hm2 h0 h16 hlt
    go_wp2
    go_loopw [9, 10] (fun s c wr => ∃ (k r m : Nat), k ≤ n ∧ c = .int .i64 ((k : Int) + 1) ∧ s = .float .f32 r ∧ wr = w1.drewN m ∧ Hid (cn .f32 r = sumT (lksT (slfL zs n) len) k)) (fun _ c _ => n + 1 - (intOf c).toNat)
    case atStart => exact ⟨0, 0, 0, by omega, rfl, rfl, rfl, Lib.hid cn_zero⟩
    case round =>
      obtain ⟨k, r, m, hk, rfl, rfl, rfl, hr⟩ := hrel
      by_cases hlt : k < n
      · obtain ⟨b, off, rfl, hb, hc⟩ := HT.out.at (by omega)
        have hck := hc (k + 1) (by omega)
        have hd : decide (((k : Int) + 1) < ((n + 1 : Nat) : Int)) = true := decide_eq_true (by omega)
        have hw2 : wrap64 ((len : Int) - ((k : Int) + 1)) = (len : Int) - ((k : Int) + 1) := by unfold wrap64; omega
        have hst := Lib.hid (show ∀ z, rs.getD (k + 1) 0 = z → ∀ w1 w2 w3, cn .f32 (fopR .add .f32 r (fopR .quo .f32 (fopR .mul .f32 z z w1) (floatOfInt .f32 ((len : Int) - ((k : Int) + 1))) w2) w3) = sumT (lksT (slfL zs n) len) (k + 1) from fun z hz w1 w2 w3 => by
          refine sum_step hr.out ?_ w3
          rw [cn_fopR, cn_fopR, ← hz, ← lksT_cnl HRs.out (slfL_cnl ..) (by rw [HT.out.1]; omega)]; rfl)
        generalize hz : rs.getD (k + 1) 0 = z at hck
        have hstep := Lib.hid (hst.out z hz)
        clear hz hst hc hb hr
        go_wp2
        go_region
        all_goals
          go_wp2
          go_roundw
          case rel => exact ⟨k + 1, _, _, by omega, by go_num, rfl, rfl, Lib.hid (hstep.out _ _ _)⟩
          case measure => simp [intOf]; omega
      · obtain rfl : k = n := by omega
        have hd : decide (((k : Int) + 1) < ((k + 1 : Nat) : Int)) = false := decide_eq_false (by omega)
        have HSm := Lib.hid (show cn .f32 r = sumT (lksT (slfL zs k) zs.length) (k : Int).toNat by rw [hr.out, HL.out, Int.toNat_natCast])
        clear hr
        go_wp2_with fail
        refine (specNumber_any _ _).mono ?_
        rintro e w' ⟨r', n', hr', rfl, rfl⟩
        have HR' := Lib.hid hr'
        clear hr'
        go_wp2
        go_ret2
        have W := lks_end HR'.out HBB.out (by rw [← HL.out]; exact lks_word HSm.out _ _ _)
        exact ⟨r', W.1, by rw [← W.2]; rfl, below_drewN HB1.out _⟩
end Go.Proofs.Ytmdcdehnkilogaa
