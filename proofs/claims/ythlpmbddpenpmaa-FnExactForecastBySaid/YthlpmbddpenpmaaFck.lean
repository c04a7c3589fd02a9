/-
  The kinds of forecasts of the program: what each gives for a series and a period.
-/
import Derived.Test.YthlpmbddpenpmaaSli
import Derived.Test.YthlpmbddpenpmaaSlv
import Derived.Test.YthlpmbddpenpmaaMta
import Derived.Test.YthlpmbddpenpmaaOpr
namespace Go.Proofs.Ythlpmbddpenpmaa
open Ieee Go.RowKit
set_option linter.unusedVariables false

/-- A function value that tells T of 1 to 32, in every world that comes of w'. -/
def KFun (T : Nat → Nat) (w' : World) (f : Value) : Prop :=
  ∃ K caps, f = .func (.func K) #[] caps ∧ (∀ args W, (callFunc K args).run Try.prog W = .ok (.enter K args) W) ∧ ∀ (k : Nat) wr, 1 ≤ k → k ≤ 32 → Below w'.heap.size w' wr → Calls Try.prog K (#[.int .i64 (k : Int)] ++ caps) wr (RetF .f32 (T k) wr)
/-- A function value, or none. -/
def FunV (f : Value) : Prop := f = .nilFunc ∨ ∃ fn x y, f = .func fn x y
@[go_sem] theorem run_store_func (P : Program) (w : World) (a : Addr) (m : Mode) (fn : Fn) (x y : Array Value) : (store a (.func fn x y) m).run P w = stored P w a (.func fn x y) m := run_store P w a _ m rfl
@[go_sem] theorem run_store_nilf (P : Program) (w : World) (a : Addr) (m : Mode) : (store a .nilFunc m).run P w = stored P w a .nilFunc m := run_store P w a _ m rfl
theorem KFun.funV {T : Nat → Nat} {w' : World} {f : Value} (h : KFun T w' f) : FunV f := by
  obtain ⟨K, caps, rfl, _⟩ := h
  exact .inr ⟨_, _, _, rfl⟩
def RetK (T : Nat → Nat) (ok : Bool) (w : World) (e : Ending) (w' : World) : Prop := ∃ f, e = .returned (.tuple #[f, .bool ok]) ∧ FunV f ∧ (ok = true → KFun T w' f) ∧ Below w.heap.size w w'
theorem always_any (x : Nat) (w : World) : Calls Try.prog 110 #[.float .f32 x] w (fun e w' => ∃ f, e = .returned f ∧ KFun (fun _ => cn .f32 x) w' f ∧ Below w.heap.size w w') := by
  have hmf : ∀ (fn : Fn) (first cap : Array Value) (w : World), (Instr.makeFunc fn first cap).run Try.prog w = .ok (.func fn first cap) w := fun _ _ _ _ => rfl
  have G := Lib.hid ((Below.refl w.heap.size w).alloc (Nat.le_refl _) (.cells #[.float .f32 x] 23))
  have HK := Lib.hid (show KFun (fun _ => cn .f32 x) (w.alloc (.cells #[.float .f32 x] 23)) (.func (.func 114) #[] #[.pointer (some ⟨w.heap.size, 0, none⟩)]) from by
    refine ⟨_, _, rfl, enter_of Try.func114 (by kernel_rfl) rfl, fun k wr h1 h2 hb => ?_⟩
    have hc : wr.cell? ⟨w.heap.size, 0, none⟩ = some (.float .f32 x) := by
      rw [hb.cell (p := ⟨w.heap.size, 0, none⟩) (by simp), World.cell?_alloc_at _ _ _ _ rfl]; rfl
    clear hb
    show Calls Try.prog 114 #[.int .i64 (k : Int), .pointer (some ⟨w.heap.size, 0, none⟩)] wr _
    go_enter Try.func114, Try.ntmps114
    go_wp2
    go_ret
    exact ⟨x, 0, rfl, rfl, rfl⟩)
  go_enter Try.func110, Try.ntmps110
  go_wp2
  go_ret
  exact ⟨_, rfl, HK.out, G.out⟩
theorem KFun.drewN {T : Nat → Nat} {w : World} {f : Value} (h : KFun T w f) (n : Nat) : KFun T (w.drewN n) f := by
  obtain ⟨K, caps, rfl, h1, h2⟩ := h
  exact ⟨K, caps, rfl, h1, fun k wr a b hb => h2 k wr a b (((Below.refl _ _).trans (below_drewN (Below.refl _ _) n)).trans hb)⟩
theorem KFun.congr {T T' : Nat → Nat} {w : World} {f : Value} (h : KFun T w f) (e : ∀ k, 1 ≤ k → k ≤ 32 → T k = T' k) : KFun T' w f := by
  obtain ⟨K, caps, rfl, h1, h2⟩ := h
  exact ⟨K, caps, rfl, h1, fun k wr a b hb => by rw [← e k a b]; exact h2 k wr a b hb⟩
def fcLast (zs : List Nat) : Nat := cn .f32 (zs.getD (zs.length - 1) 0)
def fcSlope (zs : List Nat) : Nat := if zs.length ≤ 1 then 0 else aop .quo .f32 (aop .sub .f32 (fcLast zs) (cn .f32 (zs.getD 0 0))) (cn .f32 (i2f ((zs.length : Int) - 1)))
def lv03 : Nat := 1050253722
/-- The k-th number ahead by a kind, from 1 on. -/
def fcA (zs : List Nat) (q : Nat) (p k : Nat) : Nat :=
  if q = 0 then fcLast zs
  else if q = 1 then cn .f32 (zs.getD (zs.length - p + (k - 1) % p) 0)
  else if q = 2 then mean32 zs
  else if q = 3 then aop .add .f32 (fcLast zs) (aop .mul .f32 (cn .f32 (i2f (k : Int))) (fcSlope zs))
  else (lvL zs lv03).getD (zs.length - 1) 0
def fcK (zs : List Nat) (q : Nat) : Bool := if q = 2 then meanB zs else if q = 4 then lvB zs lv03 else true
theorem lv_yes {zs : List Nat} {s : Nat} (h : lvB zs s = true) : lvR zs s = lvL zs s ∧ fins (lvL zs s) = true := by
  unfold lvB at h
  obtain ⟨h1, h2⟩ := Bool.and_eq_true_iff.1 h
  refine ⟨?_, h2⟩
  unfold lvR lstR
  rw [h1, h2, if_pos rfl, if_pos rfl]
theorem lastK_any (a : Option Addr) (len cap : Nat) (zs : List Nat) (p : Int) (w : World) (h : FSl w a len zs) (h1 : 1 ≤ len) (h96 : len ≤ 96) (T : Nat → Nat) (hT : ∀ k, T k = fcLast zs) :
    Calls Try.prog 100 #[.slice a len cap, .int .i64 p] w (RetK T true w) := by
  have HL := Lib.hid h.1
  obtain ⟨b, off, rfl, hb, hc⟩ := h.at (by omega)
  have hck := hc (len - 1) (by omega)
  have hw : wrap64 ((len : Int) - 1) = ((len - 1 : Nat) : Int) := by unfold wrap64; omega
  have HV := Lib.hid (show ∀ k, cn .f32 (zs.getD (len - 1) 0) = T k from fun k => by rw [hT, ← HL.out]; rfl)
  obtain ⟨m, hm⟩ : ∃ m, len = m + 1 := ⟨len - 1, by omega⟩
  subst hm
  rw [Nat.add_sub_cancel] at hck HV hw
  generalize zs.getD m 0 = z at *
  clear hc hb h hT
  go_enter Try.func100, Try.ntmps100
  go_wp2_with fail
  refine (always_any _ _).mono ?_
  rintro e w1 ⟨f, rfl, hf, hbl⟩
  have HF := Lib.hid hf
  have HB := Lib.hid hbl
  clear hf hbl
  go_wp2
  go_ret2
  exact ⟨f, rfl, HF.out.funV, fun _ => HF.out.congr (fun k _ _ => HV.out k), HB.out⟩
theorem meanK_any (a : Option Addr) (len cap : Nat) (zs : List Nat) (p : Int) (w : World) (h : FSl w a len zs) (hm : len ≤ 1048576) (T : Nat → Nat) (hT : ∀ k, T k = mean32 zs) :
    Calls Try.prog 102 #[.slice a len cap, .int .i64 p] w (RetK T (meanB zs) w) := by
  have H := Lib.hid h
  have HT := Lib.hid hT
  clear h hT
  go_enter Try.func102, Try.ntmps102
  go_wp2_with fail
  refine (implMean_any _ _ _ _ _ H.out hm).mono ?_
  rintro e w' ⟨r, m, hr, rfl, rfl⟩
  have HR := Lib.hid hr
  clear hr
  go_wp2_with fail
  refine (always_any _ _).mono ?_
  rintro e w1 ⟨f, rfl, hf, hbl⟩
  have HF := Lib.hid hf
  have HB := Lib.hid ((below_drewN (Below.refl w.heap.size w) m).trans hbl)
  clear hf hbl
  go_wp2
  go_ret2
  exact ⟨f, rfl, HF.out.funV, fun hb => HF.out.congr (fun k _ _ => by rw [HR.out, HT.out]; unfold meanR; rw [hb, if_pos rfl]), HB.out⟩
theorem levelK_any (a : Option Addr) (len cap : Nat) (zs : List Nat) (p : Int) (w : World) (h : FSl w a len zs) (h1 : 1 ≤ len) (h96 : len ≤ 96) (T : Nat → Nat) (hT : ∀ k, T k = (lvL zs lv03).getD (zs.length - 1) 0) :
    Calls Try.prog 104 #[.slice a len cap, .int .i64 p] w (RetK T (lvB zs lv03) w) := by
  have H := Lib.hid h
  have HL := Lib.hid h.1
  have HT := Lib.hid hT
  clear h hT
  go_enter Try.func104, Try.ntmps104
  go_wp2_with fail
  refine (implLv_any _ _ _ _ lv03 _ H.out (by omega)).mono ?_
  rintro e w1 ⟨v, rs, rfl, ho, hx, hb⟩
  have HB := Lib.hid hb
  cases hlv : lvB zs lv03
  · have HLV := Lib.hid hlv
    clear ho hx hb hlv
    go_wp2_with fail
    go_ret2
    rw [HLV.out]
    exact ⟨_, rfl, .inl rfl, (fun h => by cases h), HB.out⟩
  · have hrx : lvR zs lv03 = lvL zs lv03 := (lv_yes hlv).1
    have hxl : (lvL zs lv03).length = len := by rw [lvL_len]; exact HL.out
    rw [hrx] at hx
    have hlr : rs.length = len := by have := congrArg List.length hx; rw [cnl_len, hxl] at this; exact this
    obtain ⟨A, cp, rfl, hsl, _⟩ := ho.sl
    rw [hlr] at hsl
    obtain ⟨b, off, rfl, _, hc⟩ := hsl.at (by omega)
    have hck := hc (len - 1) (by omega)
    have HV := Lib.hid (show ∀ k, cn .f32 (rs.getD (len - 1) 0) = T k from fun k => by rw [HT.out, HL.out, ← hx, cnl_at (by omega)])
    obtain ⟨m, hm⟩ : ∃ m, len = m + 1 := ⟨len - 1, by omega⟩
    subst hm
    have hw : wrap64 (((m + 1 : Nat) : Int) - 1) = (m : Int) := by unfold wrap64; omega
    rw [Nat.add_sub_cancel] at hck HV
    generalize rs.getD m 0 = z at *
    simp only [hlr]
    have HLV := Lib.hid hlv
    clear hc hsl ho hx hb hrx hxl hlv hlr
    go_wp2_with fail
    refine (always_any _ _).mono ?_
    rintro e w2 ⟨f, rfl, hf, hbl⟩
    have HF := Lib.hid hf
    have HB2 := Lib.hid (HB.out.trans (hbl.mono HB.out.size))
    clear hf hbl
    go_wp2
    go_ret2
    rw [HLV.out]
    exact ⟨f, rfl, HF.out.funV, fun _ => HF.out.congr (fun k _ _ => HV.out k), HB2.out⟩
set_option maxHeartbeats 1000000 in
set_option maxRecDepth 100000 in
theorem roundK_any (a : Option Addr) (len cap : Nat) (zs : List Nat) (p : Nat) (w : World) (h : FSl w a len zs) (h1 : 1 ≤ p) (hp : p ≤ len) (h96 : len ≤ 96) (hcap : len ≤ cap) (hcap2 : cap ≤ 9223372036854775807) (T : Nat → Nat) (hT : ∀ k, T k = cn .f32 (zs.getD (zs.length - p + (k - 1) % p) 0)) :
    Calls Try.prog 101 #[.slice a len cap, .int .i64 (p : Int)] w (RetK T true w) := by
  have hmf : ∀ (fn : Fn) (first cap : Array Value) (w : World), (Instr.makeFunc fn first cap).run Try.prog w = .ok (.func fn first cap) w := fun _ _ _ _ => rfl
  have HL := Lib.hid h.1
  obtain ⟨b, off, rfl, hb, hc⟩ := h.at (by omega)
  have G1 := (Below.refl w.heap.size w).alloc (Nat.le_refl _) (.cells #[.int .i64 (p : Int)] 3)
  have G := Lib.hid (G1.alloc (by simp) (.cells #[.slice (some ⟨b, off + (len - p), none⟩) p (cap - (len - p))] 22))
  have HK := Lib.hid (show KFun T ((w.alloc (.cells #[.int .i64 (p : Int)] 3)).alloc (.cells #[.slice (some ⟨b, off + (len - p), none⟩) p (cap - (len - p))] 22)) (.func (.func 111) #[] #[.pointer (some ⟨w.heap.size + 1, 0, none⟩), .pointer (some ⟨w.heap.size, 0, none⟩)]) from by
    refine ⟨_, _, rfl, enter_of Try.func111 (by kernel_rfl) rfl, fun k wr k1 k2 hbl => ?_⟩
    have hc1 : wr.cell? ⟨w.heap.size + 1, 0, none⟩ = some (.slice (some ⟨b, off + (len - p), none⟩) p (cap - (len - p))) := by
      rw [hbl.cell (p := ⟨w.heap.size + 1, 0, none⟩) (by simp), World.cell?_alloc_at _ _ _ _ (by simp)]; rfl
    have hc2 : wr.cell? ⟨w.heap.size, 0, none⟩ = some (.int .i64 (p : Int)) := by
      rw [hbl.cell (p := ⟨w.heap.size, 0, none⟩) (by simp <;> omega), World.cell?_alloc_past _ _ _ (by simp), World.cell?_alloc_at _ _ _ _ rfl]; rfl
    obtain ⟨r, hr⟩ : ∃ r, (k - 1) % p = r := ⟨_, rfl⟩
    have hrp : r < p := by rw [← hr]; exact Nat.mod_lt _ (by omega)
    have hz : wr.cell? ⟨b, off + (len - p) + r, none⟩ = some (.float .f32 (zs.getD (len - p + r) 0)) := by
      have e : off + (len - p) + r = off + (len - p + r) := by omega
      rw [e, hbl.cell (p := ⟨b, off + (len - p + r), none⟩) (by simp; omega), World.cell?_alloc_past _ _ _ (by simp; omega), World.cell?_alloc_past _ _ _ hb]
      exact hc (len - p + r) (by omega)
    have HV := Lib.hid (show cn .f32 (zs.getD (len - p + r) 0) = T k by rw [hT, ← hr, HL.out])
    have hw1 : wrap64 ((k : Int) - 1) = ((k - 1 : Nat) : Int) := by unfold wrap64; omega
    have hmod : Int.tmod ((k - 1 : Nat) : Int) (p : Int) = (r : Int) := by rw [← hr]; rfl
    have hp0 : (p : Int) ≠ 0 := by omega
    generalize zs.getD (len - p + r) 0 = z at *
    clear hbl hT hc hb
    show Calls Try.prog 111 #[.int .i64 (k : Int), .pointer (some ⟨w.heap.size + 1, 0, none⟩), .pointer (some ⟨w.heap.size, 0, none⟩)] wr _
    obtain ⟨k', rfl⟩ : ∃ k', k = k' + 1 := ⟨k - 1, by omega⟩
    rw [Nat.add_sub_cancel] at hw1 hmod hr
    go_enter Try.func111, Try.ntmps111
    go_wp2
    go_region
    all_goals
      go_wp2
      go_ret
      first | exact ⟨z, 1, HV.out, rfl, rfl⟩ | exact ⟨z, 0, HV.out, rfl, rfl⟩)
  have hw : wrap64 ((len : Int) - (p : Int)) = ((len - p : Nat) : Int) := by unfold wrap64; omega
  have e : len - (len - p) = p := by omega
  have HK2 := Lib.hid (show KFun T ((w.alloc (.cells #[.int .i64 (p : Int)] 3)).alloc (.cells #[.slice (some ⟨b, off + (len - p), none⟩) (len - (len - p)) (cap - (len - p))] 22)) (.func (.func 111) #[] #[.pointer (some ⟨w.heap.size + 1, 0, none⟩), .pointer (some ⟨w.heap.size, 0, none⟩)]) by rw [e]; exact HK.out)
  have G2 := Lib.hid (show Below w.heap.size w ((w.alloc (.cells #[.int .i64 (p : Int)] 3)).alloc (.cells #[.slice (some ⟨b, off + (len - p), none⟩) (len - (len - p)) (cap - (len - p))] 22)) by rw [e]; exact G.out)
  clear hc hb h G1 e
  go_enter Try.func101, Try.ntmps101
  go_wp2
  go_ret2
  exact ⟨_, rfl, HK2.out.funV, fun _ => HK2.out, G2.out⟩
set_option maxHeartbeats 1000000 in
set_option maxRecDepth 100000 in
theorem lineK_any (a : Option Addr) (len cap : Nat) (zs : List Nat) (p : Int) (w : World) (h : FSl w a len zs) (h1 : 1 ≤ len) (h96 : len ≤ 96) (hf : fins zs = true) (T : Nat → Nat) (hT : ∀ k, T k = aop .add .f32 (fcLast zs) (aop .mul .f32 (cn .f32 (i2f (k : Int))) (fcSlope zs))) :
    Calls Try.prog 103 #[.slice a len cap, .int .i64 p] w (RetK T true w) := by
  have hmf : ∀ (fn : Fn) (first cap : Array Value) (w : World), (Instr.makeFunc fn first cap).run Try.prog w = .ok (.func fn first cap) w := fun _ _ _ _ => rfl
  have HL := Lib.hid h.1
  have hkf : ∀ (z y : Nat) (W : World) (n : Nat), cn .f32 z = fcLast zs → cn .f32 y = fcSlope zs → W.cell? ⟨w.heap.size, 0, none⟩ = some (.float .f32 z) → W.cell? ⟨w.heap.size + 1, 0, none⟩ = some (.float .f32 y) → w.heap.size + 1 < W.heap.size → KFun T W (.func (.func 112) #[] #[.pointer (some ⟨w.heap.size, 0, none⟩), .pointer (some ⟨w.heap.size + 1, 0, none⟩)]) := by
    intro z y W n hz hy c1 c2 hsz
    refine ⟨_, _, rfl, enter_of Try.func112 (by kernel_rfl) rfl, fun k wr k1 k2 hbl => ?_⟩
    have hc1 : wr.cell? ⟨w.heap.size, 0, none⟩ = some (.float .f32 z) := by rw [hbl.cell (p := ⟨w.heap.size, 0, none⟩) (by show w.heap.size < W.heap.size; omega)]; exact c1
    have hc2 : wr.cell? ⟨w.heap.size + 1, 0, none⟩ = some (.float .f32 y) := by rw [hbl.cell (p := ⟨w.heap.size + 1, 0, none⟩) hsz]; exact c2
    have HV := Lib.hid (show ∀ w1 w2, cn .f32 (fopR .add .f32 z (fopR .mul .f32 (floatOfInt .f32 (k : Int)) y w1) w2) = T k from fun w1 w2 => by rw [cn_fopR, cn_fopR, hz, hy, hT]; rfl)
    clear hbl hT c1 c2 hz hy
    show Calls Try.prog 112 #[.int .i64 (k : Int), .pointer (some ⟨w.heap.size, 0, none⟩), .pointer (some ⟨w.heap.size + 1, 0, none⟩)] wr _
    go_enter Try.func112, Try.ntmps112
    go_wp2
    go_ret
    exact ⟨_, _, HV.out _ _, rfl, rfl⟩
  have HKF := Lib.hid hkf
  obtain ⟨b, off, rfl, hb, hc⟩ := h.at (by omega)
  have hck := hc (len - 1) (by omega)
  have hc0 := hc 0 (by omega)
  have hfl := fins_at hf (k := len - 1) (by rw [HL.out]; omega)
  have hf0 := fins_at hf (k := 0) (by rw [HL.out]; omega)
  rw [Nat.add_zero] at hc0
  have HLs := Lib.hid (show cn .f32 (zs.getD (len - 1) 0) = fcLast zs by unfold fcLast; rw [HL.out])
  have hsl : len ≤ 1 → fcSlope zs = 0 := fun h => by unfold fcSlope; rw [HL.out, if_pos h]
  have hsl2 : 1 < len → fcSlope zs = aop .quo .f32 (aop .sub .f32 (fcLast zs) (cn .f32 (zs.getD 0 0))) (cn .f32 (i2f ((len : Int) - 1))) := fun h => by unfold fcSlope; rw [HL.out, if_neg (by omega)]
  have G := Lib.hid (((Below.refl w.heap.size w).alloc (Nat.le_refl _) (.cells #[.float .f32 (zs.getD (len - 1) 0)] 23)).alloc (by simp) (.cells #[.float .f32 0] 23))
  have HSz := Lib.hid (show ((w.alloc (.cells #[.float .f32 (zs.getD (len - 1) 0)] 23)).alloc (.cells #[.float .f32 0] 23)).heap.size = w.heap.size + 1 + 1 by simp)
  have HC1 := Lib.hid (show ((w.alloc (.cells #[.float .f32 (zs.getD (len - 1) 0)] 23)).alloc (.cells #[.float .f32 0] 23)).cell? ⟨w.heap.size, 0, none⟩ = some (.float .f32 (zs.getD (len - 1) 0)) by
    rw [World.cell?_alloc_past _ _ _ (by simp), World.cell?_alloc_at _ _ _ _ rfl]; rfl)
  have HC2 := Lib.hid (show ((w.alloc (.cells #[.float .f32 (zs.getD (len - 1) 0)] 23)).alloc (.cells #[.float .f32 0] 23)).cell? ⟨w.heap.size + 1, 0, none⟩ = some (.float .f32 0) by
    rw [World.cell?_alloc_at _ _ _ _ (by simp)]; rfl)
  have hb0 : b < w.heap.size := hb
  obtain ⟨m, hm⟩ : ∃ m, len = m + 1 := ⟨len - 1, by omega⟩
  subst hm
  have hw1 : wrap64 (((m + 1 : Nat) : Int) - 1) = (m : Int) := by unfold wrap64; omega
  rw [Nat.add_sub_cancel] at hck hfl HLs G HSz HC1 HC2
  generalize zs.getD m 0 = z at *
  generalize zs.getD 0 0 = z0 at *
  by_cases hl1 : m + 1 ≤ 1
  · have hd : decide ((1 : Int) < (m : Int) + 1) = false := decide_eq_false (by omega)
    have HK := Lib.hid (HKF.out z 0 _ 0 HLs.out (cn_zero.trans (hsl hl1).symm) HC1.out HC2.out (by rw [HSz.out]; omega))
    clear hc hb h hsl hsl2 HC1 HC2 HSz hkf HKF hl1
    go_enter Try.func103, Try.ntmps103
    go_wp2
    go_ret2
    exact ⟨_, rfl, HK.out.funV, fun _ => HK.out, G.out⟩
  · have hd : decide ((1 : Int) < (m : Int) + 1) = true := decide_eq_true (by omega)
    have hez := fin_cn hfl
    have he0 := fin_cn hf0
    have hsub : ∀ w t, (binOp .sub t (.float .f32 z) (.float .f32 z0)).run Try.prog w = .ok (.float .f32 (aop .sub .f32 z z0)) w := fun w t => op_run t (isN_sub hfl hf0) w
    have HQ := Lib.hid (show ∀ w1, cn .f32 (fopR .quo .f32 (aop .sub .f32 z z0) (floatOfInt .f32 (m : Int)) w1) = fcSlope zs from fun w1 => by
      rw [cn_fopR, cn_aop, hsl2 (by omega), ← HLs.out, hez, he0, show (((m + 1 : Nat) : Int) - 1) = (m : Int) by omega]; rfl)
    have hc0' : ((w.alloc (.cells #[.float .f32 z] 23)).alloc (.cells #[.float .f32 0] 23)).cell? ⟨b, off, none⟩ = some (.float .f32 z0) := by
      rw [World.cell?_alloc_past _ _ _ (by simp; omega), World.cell?_alloc_past _ _ _ hb0]; exact hc0
    have hc1' := HC1.out
    clear hc hb h hsl hsl2 hkf hl1 hez he0 hfl hf0
    go_enter Try.func103, Try.ntmps103
    go_wp2
    go_region
    all_goals
      go_wp2
      have hq := HQ.out ((w.alloc (.cells #[.float .f32 z] 23)).alloc (.cells #[.float .f32 0] 23)).drew
      generalize fopR .quo .f32 (aop .sub .f32 z z0) (floatOfInt .f32 (m : Int)) ((w.alloc (.cells #[.float .f32 z] 23)).alloc (.cells #[.float .f32 0] 23)).drew = q at *
      go_ret2
      refine ⟨_, rfl, .inr ⟨_, _, _, rfl⟩, fun _ => HKF.out z q _ 0 HLs.out hq ?_ ?_ ?_, ?_⟩
      · refine Eq.trans ?_ HC1.out
        apply World.cell?_setCell_other
        intro he
        injection he with h1 h2
        omega
      · refine World.cell?_setCell_same' _ _ _ ?_
        have h2 := HC2.out
        exact (congrArg Option.isSome h2)
      · have h3 := HSz.out
        simp only [World.setCell, Array.size_modify]
        exact Nat.lt_of_lt_of_eq (Nat.lt_succ_self _) h3.symm
      · exact (below_drewN G.out _).setCell (by show w.heap.size ≤ w.heap.size + 1; omega) _
end Go.Proofs.Ythlpmbddpenpmaa
