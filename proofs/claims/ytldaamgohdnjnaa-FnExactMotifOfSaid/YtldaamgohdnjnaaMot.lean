/-
  The least and the greatest one of a profile: MotifOf and DiscordOf, in both packages.
-/
import Derived.Test.YtldaamgohdnjnaaPfz
namespace Go.Proofs.Ytldaamgohdnjnaa
open Ieee Go.RowKit
set_option linter.unusedVariables false

theorem results_tmp4 {fn : Func} {t u v z : Tmp} (h : fn.results = #[.tmp t, .tmp u, .tmp v, .tmp z]) (tmps : Array Value) (P : Program) (w : World) :
    (results fn tmps).run P w = .ok (.tuple #[tmps.getD t undef, tmps.getD u undef, tmps.getD v undef, tmps.getD z undef]) w := by
  simp [results, h]
/-- The first best one, by a key. -/
def bst (f : Nat → Nat) (xs : List Nat) : Nat → Nat
  | 0 => 0
  | k + 1 => if f (xs.getD k 0) < f (xs.getD (bst f xs k) 0) then k else bst f xs k
theorem bst_spec (f : Nat → Nat) (xs : List Nat) : ∀ {n : Nat}, 1 ≤ n → bst f xs n < n ∧ (∀ j, j < n → f (xs.getD (bst f xs n) 0) ≤ f (xs.getD j 0)) ∧ ∀ j, j < bst f xs n → f (xs.getD (bst f xs n) 0) < f (xs.getD j 0)
  | 1, _ => by
    have : bst f xs 1 = 0 := by unfold bst bst; rw [if_neg (Nat.lt_irrefl _)]
    rw [this]
    refine ⟨by omega, fun j hj => ?_, fun j hj => by omega⟩
    obtain rfl : j = 0 := by omega
    exact Nat.le_refl _
  | n + 2, _ => by
    obtain ⟨h1, h2, h3⟩ := bst_spec f xs (n := n + 1) (by omega)
    rw [show bst f xs (n + 2) = if f (xs.getD (n + 1) 0) < f (xs.getD (bst f xs (n + 1)) 0) then n + 1 else bst f xs (n + 1) from rfl]
    by_cases g : f (xs.getD (n + 1) 0) < f (xs.getD (bst f xs (n + 1)) 0)
    · rw [if_pos g]
      refine ⟨by omega, fun j hj => ?_, fun j hj => Nat.lt_of_lt_of_le g (h2 j hj)⟩
      by_cases e : j = n + 1
      · subst e; exact Nat.le_refl _
      · exact Nat.le_of_lt (Nat.lt_of_lt_of_le g (h2 j (by omega)))
    · rw [if_neg g]
      refine ⟨by omega, fun j hj => ?_, h3⟩
      by_cases e : j = n + 1
      · subst e; omega
      · exact h2 j (by omega)
theorem bst_lt (f : Nat → Nat) (xs : List Nat) : ∀ k, bst f xs k ≤ k
  | 0 => Nat.le_refl _
  | k + 1 => by have := bst_lt f xs k; unfold bst; split <;> omega
def kLo (x : Nat) : Nat := x
def kHi (x : Nat) : Nat := 4294967296 - x
def ups (xs : List Nat) : Prop := ∀ j, j < xs.length → xs.getD j 0 < 2139095040
theorem up_order {x y : Nat} (hx : upw x) (hy : upw y) : (FloatKind.format .f32).order x y = some (compare (x : Int) (y : Int)) := by
  rw [order_all .f32 x y (up_noN hx) (up_noN hy)]
  have e : ∀ {z : Nat}, upw z → sr (FloatKind.format .f32) z = (z : Int) := fun {z} hz => by
    unfold upw at hz
    unfold sr
    rw [show (FloatKind.format .f32).signWeight = 2147483648 from s_sign, Nat.div_eq_of_lt (by omega), Nat.mod_eq_of_lt (a := z) (by omega)]
    rfl
  rw [e hx, e hy]
theorem up_cmp {x y : Nat} (hx : upw x) (hy : upw y) : (x < y ∧ (FloatKind.format .f32).order x y = some .lt) ∨ (x = y ∧ (FloatKind.format .f32).order x y = some .eq) ∨ (y < x ∧ (FloatKind.format .f32).order x y = some .gt) := by
  rw [up_order hx hy]
  rcases Nat.lt_trichotomy x y with h | h | h
  · exact .inl ⟨h, congrArg some (Int.compare_eq_lt.2 (by omega))⟩
  · exact .inr (.inl ⟨h, congrArg some (Int.compare_eq_eq.2 (by omega))⟩)
  · exact .inr (.inr ⟨h, congrArg some (Int.compare_eq_gt.2 (by omega))⟩)
theorem run_minU {P : Program} (w : World) (ts : Array TypeId) (t : TypeId) {x y : Nat} (hx : upw x) (hy : upw y) : (Builtin.min_ ts t #[.float .f32 x, .float .f32 y]).run P w = .ok (.float .f32 (if y < x then y else x)) w := by
  rcases up_cmp hx hy with ⟨g, o⟩ | ⟨g, o⟩ | ⟨g, o⟩
  · rw [if_neg (by omega)]; simp [Builtin.min_, Builtin.min2, List.foldlM, o]
  · subst g; rw [if_neg (by omega)]; simp [Builtin.min_, Builtin.min2, List.foldlM, o]
  · rw [if_pos g]; simp [Builtin.min_, Builtin.min2, List.foldlM, o]
theorem run_maxU {P : Program} (w : World) (ts : Array TypeId) (t : TypeId) {x y : Nat} (hx : upw x) (hy : upw y) : (Builtin.max_ ts t #[.float .f32 x, .float .f32 y]).run P w = .ok (.float .f32 (if x < y then y else x)) w := by
  rcases up_cmp hx hy with ⟨g, o⟩ | ⟨g, o⟩ | ⟨g, o⟩
  · rw [if_pos g]; simp [Builtin.max_, Builtin.max2, List.foldlM, o]
  · subst g; rw [if_neg (by omega)]; simp [Builtin.max_, Builtin.max2, List.foldlM, o]
  · rw [if_neg (by omega)]; simp [Builtin.max_, Builtin.max2, List.foldlM, o]
/-- r is the best one of the first k. -/
def isB (f : Nat → Nat) (xs : List Nat) (k r : Nat) : Prop := upw r ∧ (∃ j, j < k ∧ r = xs.getD j 0) ∧ ∀ j, j < k → f r ≤ f (xs.getD j 0)
theorem minU_any (a : Option Addr) (len cap : Nat) (zs : List Nat) (w : World) (h : FSl w a len zs) (h1 : 1 ≤ len) (hm : len ≤ 1048576) (hu : ∀ j, j < len → upw (zs.getD j 0)) :
    Calls Try.prog 107 #[.slice a len cap] w fun e w' => ∃ r, e = .returned (.float .f32 r) ∧ isB kLo zs len r ∧ w = w' := by
  have H := Lib.hid h
  have HU := Lib.hid hu
  obtain ⟨b, off, rfl, hb, hc⟩ := h.at (by omega)
  have hc0 := hc 0 (by omega)
  rw [Nat.add_zero] at hc0
  have HN := Lib.hid (show isB kLo zs 1 (zs.getD 0 0) from ⟨hu 0 (by omega), ⟨0, by omega, rfl⟩, fun j hj => by obtain rfl : j = 0 := (by omega); exact Nat.le_refl _⟩)
  generalize zs.getD 0 0 = z0 at *
  have hd : decide ((len : Int) < 1) = false := decide_eq_false (by omega)
  have hl0 : (0 : Int) < (len : Int) := by omega
  clear h hc hu
  go_enter Try.func107, Try.ntmps107
  go_wp2
  clear hc0
  go_loopw [3, 4] (fun m i wr => ∃ k r : Nat, 1 ≤ k ∧ k ≤ len ∧ i = .int .i64 k ∧ m = .float .f32 r ∧ wr = w ∧ Hid (isB kLo zs k r)) (fun _ i _ => len - (intOf i).toNat)
  case atStart => exact ⟨1, z0, Nat.le_refl _, h1, rfl, rfl, (by trivial), HN⟩
  case round =>
    obtain ⟨k, r, hk1, hk, rfl, rfl, rfl, hr⟩ := hrel
    by_cases hlt : k < len
    · obtain ⟨b', off', e', _, hc'⟩ := H.out.at (by omega)
      injection e' with e'; injection e' with e1 e2
      subst e1 e2
      have hck := hc' k hlt
      have hmin := fun (W : World) (ts : Array TypeId) (t : TypeId) => run_minU (P := Try.prog) W ts t hr.out.1 (HU.out k hlt)
      have HA := Lib.hid (show isB kLo zs (k + 1) (if zs.getD k 0 < r then zs.getD k 0 else r) from by
        obtain ⟨g1, ⟨j0, g2, g3⟩, g4⟩ := hr.out
        have gu := HU.out k hlt
        by_cases g : zs.getD k 0 < r
        · rw [if_pos g]
          refine ⟨gu, ⟨k, by omega, rfl⟩, fun j hj => ?_⟩
          by_cases e : j = k
          · subst e; exact Nat.le_refl _
          · refine Nat.le_trans ?_ (g4 j (by omega))
            unfold upw kLo at *
            omega
        · rw [if_neg g]
          refine ⟨g1, ⟨j0, by omega, g3⟩, fun j hj => ?_⟩
          by_cases e : j = k
          · subst e; unfold upw kLo at *; omega
          · exact g4 j (by omega))
      generalize zs.getD k 0 = z at *
      have hkl : (k : Int) < (len : Int) := by omega
      generalize (if z < r then z else r) = q at *
      clear hc' hr
      go_wp2
      go_roundw
      case rel => exact ⟨k + 1, _, by omega, by omega, by go_num, rfl, (by trivial), HA⟩
      case measure => simp [intOf]; omega
    · have hkl : k = len := by omega
      subst hkl
      go_wp2
      go_ret
      exact ⟨_, rfl, hr.out, rfl⟩
theorem maxU_any (a : Option Addr) (len cap : Nat) (zs : List Nat) (w : World) (h : FSl w a len zs) (h1 : 1 ≤ len) (hm : len ≤ 1048576) (hu : ∀ j, j < len → upw (zs.getD j 0)) :
    Calls Try.prog 109 #[.slice a len cap] w fun e w' => ∃ r, e = .returned (.float .f32 r) ∧ isB kHi zs len r ∧ w = w' := by
  have H := Lib.hid h
  have HU := Lib.hid hu
  obtain ⟨b, off, rfl, hb, hc⟩ := h.at (by omega)
  have hc0 := hc 0 (by omega)
  rw [Nat.add_zero] at hc0
  have HN := Lib.hid (show isB kHi zs 1 (zs.getD 0 0) from ⟨hu 0 (by omega), ⟨0, by omega, rfl⟩, fun j hj => by obtain rfl : j = 0 := (by omega); exact Nat.le_refl _⟩)
  generalize zs.getD 0 0 = z0 at *
  have hd : decide ((len : Int) < 1) = false := decide_eq_false (by omega)
  have hl0 : (0 : Int) < (len : Int) := by omega
  clear h hc hu
  go_enter Try.func109, Try.ntmps109
  go_wp2
  clear hc0
  go_loopw [3, 4] (fun m i wr => ∃ k r : Nat, 1 ≤ k ∧ k ≤ len ∧ i = .int .i64 k ∧ m = .float .f32 r ∧ wr = w ∧ Hid (isB kHi zs k r)) (fun _ i _ => len - (intOf i).toNat)
  case atStart => exact ⟨1, z0, Nat.le_refl _, h1, rfl, rfl, (by trivial), HN⟩
  case round =>
    obtain ⟨k, r, hk1, hk, rfl, rfl, rfl, hr⟩ := hrel
    by_cases hlt : k < len
    · obtain ⟨b', off', e', _, hc'⟩ := H.out.at (by omega)
      injection e' with e'; injection e' with e1 e2
      subst e1 e2
      have hck := hc' k hlt
      have hmin := fun (W : World) (ts : Array TypeId) (t : TypeId) => run_maxU (P := Try.prog) W ts t hr.out.1 (HU.out k hlt)
      have HA := Lib.hid (show isB kHi zs (k + 1) (if r < zs.getD k 0 then zs.getD k 0 else r) from by
        obtain ⟨g1, ⟨j0, g2, g3⟩, g4⟩ := hr.out
        have gu := HU.out k hlt
        by_cases g : r < zs.getD k 0
        · rw [if_pos g]
          refine ⟨gu, ⟨k, by omega, rfl⟩, fun j hj => ?_⟩
          by_cases e : j = k
          · subst e; exact Nat.le_refl _
          · refine Nat.le_trans ?_ (g4 j (by omega))
            unfold upw kHi at *
            omega
        · rw [if_neg g]
          refine ⟨g1, ⟨j0, by omega, g3⟩, fun j hj => ?_⟩
          by_cases e : j = k
          · subst e; unfold upw kHi at *; omega
          · exact g4 j (by omega))
      generalize zs.getD k 0 = z at *
      have hkl : (k : Int) < (len : Int) := by omega
      generalize (if r < z then z else r) = q at *
      clear hc' hr
      go_wp2
      go_roundw
      case rel => exact ⟨k + 1, _, by omega, by omega, by go_num, rfl, (by trivial), HA⟩
      case measure => simp [intOf]; omega
    · have hkl : k = len := by omega
      subst hkl
      go_wp2
      go_ret
      exact ⟨_, rfl, hr.out, rfl⟩
theorem isB_bst {f : Nat → Nat} {xs : List Nat} {n r : Nat} (hn : 1 ≤ n) (hf : ∀ x y, upw x → upw y → f x = f y → x = y) (hu : ∀ j, j < n → upw (xs.getD j 0)) (h : isB f xs n r) : r = xs.getD (bst f xs n) 0 ∧ ∀ j, j < bst f xs n → xs.getD j 0 ≠ r := by
  obtain ⟨h1, ⟨j0, h2, h3⟩, h4⟩ := h
  obtain ⟨g1, g2, g3⟩ := bst_spec f xs hn
  have e : r = xs.getD (bst f xs n) 0 := hf _ _ h1 (hu _ g1) (Nat.le_antisymm (h4 _ g1) (by rw [h3]; exact g2 j0 h2))
  refine ⟨e, fun j hj ee => ?_⟩
  have := g3 j hj
  rw [ee, ← e] at this
  omega
theorem kLo_inj : ∀ x y, upw x → upw y → kLo x = kLo y → x = y := fun _ _ _ _ h => h
theorem kHi_inj : ∀ x y, upw x → upw y → kHi x = kHi y → x = y := fun x y hx hy h => by unfold upw kHi at *; omega
theorem idxF_any (a : Option Addr) (len cap : Nat) (zs : List Nat) (r i : Nat) (w : World) (h : FSl w a len zs) (hm : len ≤ 1048576) (hi : i < len) (hu : ∀ j, j < len → upw (zs.getD j 0)) (hr : zs.getD i 0 = r) (hne : ∀ j, j < i → zs.getD j 0 ≠ r) :
    Calls Try.prog 108 #[.slice a len cap, .float .f32 r] w fun e w' => e = .returned (.int .i64 i) ∧ w = w' := by
  have H := Lib.hid h
  have HU := Lib.hid hu
  have HR := Lib.hid hr
  have HN := Lib.hid hne
  have hur := Lib.hid (show upw r by rw [← hr]; exact hu i hi)
  clear h hu hr hne
  go_enter Try.func108, Try.ntmps108
  go_wp2
  go_loopw [8] (fun c wr => ∃ k : Nat, k ≤ i ∧ c = .int .i64 k ∧ wr = w) (fun c _ => len - (intOf c).toNat)
  case atStart => exact ⟨0, Nat.zero_le _, rfl, (by trivial)⟩
  case round =>
    obtain ⟨k, hk, rfl, rfl⟩ := hrel
    obtain ⟨b, off, rfl, hb, hc⟩ := H.out.at (by omega)
    have hck := hc k (by omega)
    have hkl : (k : Int) < (len : Int) := by omega
    by_cases hki : k < i
    · have ho : ((FloatKind.format .f32).order r (zs.getD k 0) == some Ordering.eq) = false := by
        rcases up_cmp hur.out (HU.out k (by omega)) with ⟨g, o⟩ | ⟨g, o⟩ | ⟨g, o⟩
        · rw [o]; rfl
        · exact absurd g.symm (HN.out k hki)
        · rw [o]; rfl
      generalize zs.getD k 0 = z at *
      clear hc hb
      go_wp2
      go_roundw
      case rel => exact ⟨k + 1, by omega, by go_num, (by trivial)⟩
      case measure => simp [intOf]; omega
    · obtain rfl : k = i := by omega
      have ho : ((FloatKind.format .f32).order r (zs.getD k 0) == some Ordering.eq) = true := by
        rcases up_cmp hur.out (HU.out k (by omega)) with ⟨g, o⟩ | ⟨g, o⟩ | ⟨g, o⟩
        · have := HR.out; omega
        · rw [o]; rfl
        · have := HR.out; omega
      generalize zs.getD k 0 = z at *
      clear hc hb
      go_wp2
      go_ret
      exact ⟨rfl, rfl⟩
/-- Where the best one of a profile stands. -/
def moB (f : Nat → Nat) (zs : List Nat) (q : Int) : Nat := bst f (prX zs q) (prX zs q).length
def moI (f : Nat → Nat) (zs : List Nat) (q : Int) : Int := if prB zs q then (moB f zs q : Int) else 0
def moJ (f : Nat → Nat) (zs : List Nat) (q : Int) : Int := if prB zs q then (prI zs q).getD (moB f zs q) 0 else 0
def moV (f : Nat → Nat) (zs : List Nat) (q : Int) : Nat := if prB zs q then (prX zs q).getD (moB f zs q) 0 else 0
theorem mo_bad {f : Nat → Nat} {zs : List Nat} {q : Int} (h : prB zs q = false) : moI f zs q = 0 ∧ moJ f zs q = 0 ∧ moV f zs q = 0 ∧ prB zs q = false := ⟨by unfold moI; rw [h]; rfl, by unfold moJ; rw [h]; rfl, by unfold moV; rw [h]; rfl, h⟩
theorem mo_good {f : Nat → Nat} {zs : List Nat} {q : Int} (h : prB zs q = true) : moI f zs q = (moB f zs q : Int) ∧ moJ f zs q = (prI zs q).getD (moB f zs q) 0 ∧ moV f zs q = (prX zs q).getD (moB f zs q) 0 := ⟨by unfold moI; rw [h]; rfl, by unfold moJ; rw [h]; rfl, by unfold moV; rw [h]; rfl⟩
theorem pr_lens {zs : List Nat} {q : Int} (h : prB zs q = true) : (prI zs q).length = (prX zs q).length ∧ 1 ≤ (prX zs q).length ∧ (prX zs q).length ≤ 96 ∧ (∀ j, j < (prX zs q).length → upw ((prX zs q).getD j 0)) ∧ fins (prX zs q) = true := by
  obtain ⟨h1, h2⟩ := prB_t h
  have hc := prC_le h1
  have ex : prX zs q = tells (fun i => (prP zs q.toNat i).x) (prC zs q.toNat) := by unfold prX; rw [h]; rfl
  have ei : prI zs q = (List.range (prC zs q.toNat)).map (fun i => ((prP zs q.toNat i).at_ : Int)) := by unfold prI; rw [h]; rfl
  rw [ex, ei, tells_len]
  refine ⟨by simp, hc.2, hc.1, fun j hj => ?_, ?_⟩
  · rw [tells_at _ hj]; exact (pr_fin h1 hj (h2 j hj)).2
  · unfold fins tells
    rw [List.all_map, List.all_eq_true]
    intro j hj
    exact (pr_fin h1 (by simpa using hj) (h2 j (by simpa using hj))).1
def RetMo (i j : Int) (v : Nat) (b : Bool) (w : World) (e : Ending) (w' : World) : Prop := ∃ r, cn .f32 r = v ∧ e = .returned (.tuple #[.int .i64 i, .int .i64 j, .float .f32 r, .bool b]) ∧ Below w.heap.size w w'
def RetDi (i : Int) (v : Nat) (b : Bool) (w : World) (e : Ending) (w' : World) : Prop := ∃ r, cn .f32 r = v ∧ e = .returned (.tuple #[.int .i64 i, .float .f32 r, .bool b]) ∧ Below w.heap.size w w'
/-- What a profile's lists are, once they are there. -/
theorem prof_lists {zs : List Nat} {q : Int} (hB : prB zs q = true) {w w1 : World} {v0 v1 : Value} {r0 : List Nat} (h0 : FOwn 32 w.heap.size w1 v0 r0) (h1 : IOwn 2 w.heap.size w1 v1 (prI zs q)) (hx : cnl r0 = prX zs q) :
    ∃ (A : Option Addr) (c : Nat) (b c' n : Nat), v0 = .slice A n c ∧ v1 = .slice (some ⟨b, 0, none⟩) n c' ∧ (prX zs q).length = n ∧ 1 ≤ n ∧ n ≤ 96 ∧ FSl w1 A n (prX zs q) ∧ ∀ j, j < n → w1.cell? ⟨b, j, none⟩ = some (.int .i64 ((prI zs q).getD j 0)) := by
  obtain ⟨g1, g2, g3, g4, g5⟩ := pr_lens hB
  have hr : r0 = prX zs q := by rw [← hx]; exact (cnl_fins (by rw [← fins_cnl, hx]; exact g5)).symm
  subst hr
  obtain ⟨A, c, rfl, hsl, _⟩ := h0.sl
  obtain ⟨A', c', rfl, hsl', ho⟩ := h1.sl
  obtain ⟨b, rfl, _, _, _⟩ := ho 0 (by omega)
  obtain ⟨b2, off, e, _, hc⟩ := hsl'.at (by omega)
  injection e with e; injection e with e1 e2
  subst e1 e2
  exact ⟨A, c, b, c', _, rfl, by rw [g1], rfl, g2, g3, hsl, fun j hj => by have := hc j (by rw [g1]; exact hj); rwa [Nat.zero_add] at this⟩
set_option maxHeartbeats 4000000 in
set_option maxRecDepth 100000 in
theorem imMotif_any (a : Option Addr) (len cap : Nat) (zs : List Nat) (q : Int) (w : World) (h : FSl w a len zs) (hm : len ≤ 1048576) (hcap : len ≤ cap) (hcap2 : cap ≤ 1048576) :
    Calls Try.prog 49 #[.slice a len cap, .int .i64 q] w (RetMo (moI kLo zs q) (moJ kLo zs q) (moV kLo zs q) (prB zs q) w) := by
  have H := Lib.hid h
  clear h
  cases hB : prB zs q
  · have HB := Lib.hid (mo_bad (f := kLo) hB)
    clear hB
    go_enter Try.func49, Try.ntmps49
    go_wp2_with fail
    refine (imPrf_any _ _ _ _ _ _ H.out hm hcap hcap2).mono ?_
    rintro e w1 ⟨v0, r0, v1, rfl, h0, h1, hx, hap, hb⟩
    rw [HB.out.2.2.2]
    have HBl := Lib.hid hb
    clear h0 h1 hx hap hb
    go_wp2
    (try simp only [Exit.inBlock, Exit.then])
    refine bodyPost_ret (results_tmp4 rfl _ _ _) rfl ?_
    exact ⟨0, by rw [HB.out.2.2.1]; exact cn_zero, by rw [HB.out.1, HB.out.2.1]; rfl, HBl.out⟩
  · have HB := Lib.hid hB
    have HG := Lib.hid (mo_good (f := kLo) hB)
    have HL := Lib.hid (pr_lens hB)
    clear hB
    go_enter Try.func49, Try.ntmps49
    go_wp2_with fail
    refine (imPrf_any _ _ _ _ _ _ H.out hm hcap hcap2).mono ?_
    rintro e w1 ⟨v0, r0, v1, rfl, h0, h1, hx, hap, hb⟩
    rw [HB.out]
    have HBl := Lib.hid hb
    obtain ⟨A, c, b, c', n, rfl, rfl, hn, hn1, hn96, hsl, hc⟩ := prof_lists HB.out h0 h1 hx
    have HS := Lib.hid hsl
    have HC := Lib.hid hc
    have HU := Lib.hid (show ∀ j, j < n → upw ((prX zs q).getD j 0) from fun j hj => HL.out.2.2.2.1 j (by rw [hn]; exact hj))
    have HM := Lib.hid (show moB kLo zs q = bst kLo (prX zs q) n from by unfold moB; rw [hn])
    have hlt := (bst_spec kLo (prX zs q) hn1).1
    clear h0 h1 hx hap hb hsl hc hn
    go_wp2_with fail
    refine (minU_any _ _ _ _ _ HS.out hn1 (by omega) HU.out).mono ?_
    rintro e w' ⟨r, rfl, hr, rfl⟩
    obtain ⟨e1, e2⟩ := isB_bst hn1 kLo_inj HU.out hr
    have HE1 := Lib.hid e1
    have HE2 := Lib.hid e2
    have HUr := Lib.hid hr.1
    clear e1 e2 hr
    go_wp2_with fail
    refine (idxF_any _ _ _ _ _ (bst kLo (prX zs q) n) _ HS.out (by omega) hlt HU.out HE1.out.symm HE2.out).mono ?_
    rintro e w' ⟨rfl, rfl⟩
    have HCn := Lib.hid (cn_num (up_noN HUr.out))
    rw [HM.out] at HG
    have HV := Lib.hid (show moV kLo zs q = r by rw [HG.out.2.2, HE1.out])
    have hcj := HC.out _ hlt
    have hJ := Lib.hid HG.out.2.1
    rw [← HG.out.2.1] at hcj
    have HI := Lib.hid HG.out.1
    clear HG HM HE1 HE2
    generalize bst kLo (prX zs q) n = k at *
    generalize moJ kLo zs q = J at *
    clear hJ HC
    go_wp2
    go_region
    all_goals
      go_wp2
      (try simp only [Exit.inBlock, Exit.then])
      refine bodyPost_ret (results_tmp4 rfl _ _ _) rfl ?_
      exact ⟨r, HCn.out.trans HV.out.symm, by rw [HI.out]; rfl, below_drewN HBl.out _⟩
set_option maxHeartbeats 4000000 in
set_option maxRecDepth 100000 in
theorem imDiscord_any (a : Option Addr) (len cap : Nat) (zs : List Nat) (q : Int) (w : World) (h : FSl w a len zs) (hm : len ≤ 1048576) (hcap : len ≤ cap) (hcap2 : cap ≤ 1048576) :
    Calls Try.prog 51 #[.slice a len cap, .int .i64 q] w (RetDi (moI kHi zs q) (moV kHi zs q) (prB zs q) w) := by
  have H := Lib.hid h
  clear h
  cases hB : prB zs q
  · have HB := Lib.hid (mo_bad (f := kHi) hB)
    clear hB
    go_enter Try.func51, Try.ntmps51
    go_wp2_with fail
    refine (imPrf_any _ _ _ _ _ _ H.out hm hcap hcap2).mono ?_
    rintro e w1 ⟨v0, r0, v1, rfl, h0, h1, hx, hap, hb⟩
    rw [HB.out.2.2.2]
    have HBl := Lib.hid hb
    clear h0 h1 hx hap hb
    go_wp2
    go_ret3
    exact ⟨0, by rw [HB.out.2.2.1]; exact cn_zero, by rw [HB.out.1]; rfl, HBl.out⟩
  · have HB := Lib.hid hB
    have HG := Lib.hid (mo_good (f := kHi) hB)
    have HL := Lib.hid (pr_lens hB)
    clear hB
    go_enter Try.func51, Try.ntmps51
    go_wp2_with fail
    refine (imPrf_any _ _ _ _ _ _ H.out hm hcap hcap2).mono ?_
    rintro e w1 ⟨v0, r0, v1, rfl, h0, h1, hx, hap, hb⟩
    rw [HB.out]
    have HBl := Lib.hid hb
    obtain ⟨A, c, b, c', n, rfl, rfl, hn, hn1, hn96, hsl, hc⟩ := prof_lists HB.out h0 h1 hx
    have HS := Lib.hid hsl
    have HC := Lib.hid hc
    have HU := Lib.hid (show ∀ j, j < n → upw ((prX zs q).getD j 0) from fun j hj => HL.out.2.2.2.1 j (by rw [hn]; exact hj))
    have HM := Lib.hid (show moB kHi zs q = bst kHi (prX zs q) n from by unfold moB; rw [hn])
    have hlt := (bst_spec kHi (prX zs q) hn1).1
    clear h0 h1 hx hap hb hsl hc hn
    go_wp2_with fail
    refine (maxU_any _ _ _ _ _ HS.out hn1 (by omega) HU.out).mono ?_
    rintro e w' ⟨r, rfl, hr, rfl⟩
    obtain ⟨e1, e2⟩ := isB_bst hn1 kHi_inj HU.out hr
    have HE1 := Lib.hid e1
    have HE2 := Lib.hid e2
    have HUr := Lib.hid hr.1
    clear e1 e2 hr
    go_wp2_with fail
    refine (idxF_any _ _ _ _ _ (bst kHi (prX zs q) n) _ HS.out (by omega) hlt HU.out HE1.out.symm HE2.out).mono ?_
    rintro e w' ⟨rfl, rfl⟩
    have HCn := Lib.hid (cn_num (up_noN HUr.out))
    rw [HM.out] at HG
    have HV := Lib.hid (show moV kHi zs q = r by rw [HG.out.2.2, HE1.out])
    have HI := Lib.hid HG.out.1
    clear HG HM HE1 HE2 HC
    generalize bst kHi (prX zs q) n = k at *
    go_wp2
    go_ret3
    exact ⟨r, HCn.out.trans HV.out.symm, by rw [HI.out]; rfl, HBl.out⟩
set_option maxHeartbeats 4000000 in
set_option maxRecDepth 100000 in
theorem spMotif_any (a : Option Addr) (len cap : Nat) (zs : List Nat) (q : Int) (w : World) (h : FSl w a len zs) (hm : len ≤ 1048576) (hcap : len ≤ cap) (hcap2 : cap ≤ 1048576) :
    Calls Try.prog 48 #[.slice a len cap, .int .i64 q] w (RetMo (moI kLo zs q) (moJ kLo zs q) (moV kLo zs q) (prB zs q) w) := by
  have H := Lib.hid h
  clear h
  cases hB : prB zs q
  · have HB := Lib.hid (mo_bad (f := kLo) hB)
    clear hB
    go_enter Try.func48, Try.ntmps48
    go_wp2_with fail
    refine (spPrf_any _ _ _ _ _ _ H.out hm hcap hcap2).mono ?_
    rintro e w1 ⟨v0, r0, v1, rfl, h0, h1, hx, hap, hb⟩
    rw [HB.out.2.2.2]
    have HBl := Lib.hid hb
    clear h0 h1 hx hap hb
    go_wp2
    (try simp only [Exit.inBlock, Exit.then])
    refine bodyPost_ret (results_tmp4 rfl _ _ _) rfl ?_
    exact ⟨0, by rw [HB.out.2.2.1]; exact cn_zero, by rw [HB.out.1, HB.out.2.1]; rfl, HBl.out⟩
  · have HB := Lib.hid hB
    have HG := Lib.hid (mo_good (f := kLo) hB)
    have HL := Lib.hid (pr_lens hB)
    clear hB
    go_enter Try.func48, Try.ntmps48
    go_wp2_with fail
    refine (spPrf_any _ _ _ _ _ _ H.out hm hcap hcap2).mono ?_
    rintro e w1 ⟨v0, r0, v1, rfl, h0, h1, hx, hap, hb⟩
    rw [HB.out]
    have HBl := Lib.hid hb
    obtain ⟨A, c, b, c', n, rfl, rfl, hn, hn1, hn96, hsl, hc⟩ := prof_lists HB.out h0 h1 hx
    obtain ⟨bb, off, rfl, hbb, hcs⟩ := hsl.at (by omega)
    have HC := Lib.hid hc
    have HCs := Lib.hid hcs
    have HU := Lib.hid (show ∀ j, j < n → upw ((prX zs q).getD j 0) from fun j hj => HL.out.2.2.2.1 j (by rw [hn]; exact hj))
    have HM := Lib.hid (show moB kLo zs q = bst kLo (prX zs q) n from by unfold moB; rw [hn])
    have hlt := (bst_spec kLo (prX zs q) hn1).1
    clear h0 h1 hx hap hb hsl hc hn hcs
    go_wp2
    go_loopw [11, 24] (fun bv c wr => ∃ k p : Nat, k ≤ n ∧ c = .int .i64 k ∧ bv = .int .i64 (bst kLo (prX zs q) k : Nat) ∧ wr = w1.drewN p) (fun _ c _ => n - (intOf c).toNat)
    case atStart => exact ⟨0, 0, Nat.zero_le _, rfl, rfl, rfl⟩
    case round =>
      obtain ⟨k, p, hk, rfl, rfl, rfl⟩ := hrel
      by_cases hlt2 : k < n
      · have hbk := bst_lt kLo (prX zs q) k
        have hck := HCs.out k hlt2
        have hcb := HCs.out (bst kLo (prX zs q) k) (by omega)
        have huk := HU.out k hlt2
        have hub := HU.out (bst kLo (prX zs q) k) (by omega)
        have HSt := Lib.hid (show bst kLo (prX zs q) (k + 1) = if kLo ((prX zs q).getD k 0) < kLo ((prX zs q).getD (bst kLo (prX zs q) k) 0) then k else bst kLo (prX zs q) k from rfl)
        generalize bst kLo (prX zs q) k = g at *
        generalize (prX zs q).getD k 0 = x at *
        generalize (prX zs q).getD g 0 = y at *
        by_cases hcmp : x < y
        · have ho : ((FloatKind.format .f32).order x y == some Ordering.lt) = true := by
            rcases up_cmp huk hub with ⟨g1, o⟩ | ⟨g1, o⟩ | ⟨g1, o⟩ <;> first | omega | (rw [o]; rfl)
          have HN := Lib.hid (HSt.out.trans (if_pos (by unfold kLo; unfold upw at *; omega)))
          clear hcmp huk hub HSt
          go_wp2
          go_region
          all_goals
            go_wp2
            go_roundw
            case rel => exact ⟨k + 1, _, by omega, by go_num, by rw [HN.out], rfl⟩
            case measure => simp [intOf]; omega
        · have ho : ((FloatKind.format .f32).order x y == some Ordering.lt) = false := by
            rcases up_cmp huk hub with ⟨g1, o⟩ | ⟨g1, o⟩ | ⟨g1, o⟩ <;> first | omega | (rw [o]; rfl)
          have HN := Lib.hid (HSt.out.trans (if_neg (by unfold kLo; unfold upw at *; omega)))
          clear hcmp huk hub HSt
          go_wp2
          go_region
          all_goals
            go_wp2
            go_roundw
            case rel => exact ⟨k + 1, _, by omega, by go_num, by rw [HN.out], rfl⟩
            case measure => simp [intOf]; omega
      · have e : k = n := by omega
        subst e
        have hcb := HCs.out _ hlt
        have hcj := HC.out _ hlt
        have HUr := Lib.hid (cn_num (up_noN (HU.out _ hlt)))
        rw [HM.out] at HG
        have HI := Lib.hid HG.out.1
        have HJ := Lib.hid HG.out.2.1
        have HV := Lib.hid HG.out.2.2
        clear HG HM
        generalize bst kLo (prX zs q) k = g at *
        generalize (prX zs q).getD g 0 = x at *
        generalize (prI zs q).getD g 0 = J at *
        go_wp2
        go_region
        all_goals
          go_wp2
          (try simp only [Exit.inBlock, Exit.then])
          refine bodyPost_ret (results_tmp4 rfl _ _ _) rfl ?_
          exact ⟨x, HUr.out.trans HV.out.symm, by rw [HI.out, HJ.out]; rfl, below_drewN HBl.out _⟩
set_option maxHeartbeats 4000000 in
set_option maxRecDepth 100000 in
theorem spDiscord_any (a : Option Addr) (len cap : Nat) (zs : List Nat) (q : Int) (w : World) (h : FSl w a len zs) (hm : len ≤ 1048576) (hcap : len ≤ cap) (hcap2 : cap ≤ 1048576) :
    Calls Try.prog 50 #[.slice a len cap, .int .i64 q] w (RetDi (moI kHi zs q) (moV kHi zs q) (prB zs q) w) := by
  have H := Lib.hid h
  clear h
  cases hB : prB zs q
  · have HB := Lib.hid (mo_bad (f := kHi) hB)
    clear hB
    go_enter Try.func50, Try.ntmps50
    go_wp2_with fail
    refine (spPrf_any _ _ _ _ _ _ H.out hm hcap hcap2).mono ?_
    rintro e w1 ⟨v0, r0, v1, rfl, h0, h1, hx, hap, hb⟩
    rw [HB.out.2.2.2]
    have HBl := Lib.hid hb
    clear h0 h1 hx hap hb
    go_wp2
    go_ret3
    exact ⟨0, by rw [HB.out.2.2.1]; exact cn_zero, by rw [HB.out.1]; rfl, HBl.out⟩
  · have HB := Lib.hid hB
    have HG := Lib.hid (mo_good (f := kHi) hB)
    have HL := Lib.hid (pr_lens hB)
    clear hB
    go_enter Try.func50, Try.ntmps50
    go_wp2_with fail
    refine (spPrf_any _ _ _ _ _ _ H.out hm hcap hcap2).mono ?_
    rintro e w1 ⟨v0, r0, v1, rfl, h0, h1, hx, hap, hb⟩
    rw [HB.out]
    have HBl := Lib.hid hb
    obtain ⟨A, c, b, c', n, rfl, rfl, hn, hn1, hn96, hsl, hc⟩ := prof_lists HB.out h0 h1 hx
    obtain ⟨bb, off, rfl, hbb, hcs⟩ := hsl.at (by omega)
    have HC := Lib.hid hc
    have HCs := Lib.hid hcs
    have HU := Lib.hid (show ∀ j, j < n → upw ((prX zs q).getD j 0) from fun j hj => HL.out.2.2.2.1 j (by rw [hn]; exact hj))
    have HM := Lib.hid (show moB kHi zs q = bst kHi (prX zs q) n from by unfold moB; rw [hn])
    have hlt := (bst_spec kHi (prX zs q) hn1).1
    clear h0 h1 hx hap hb hsl hc hn hcs
    go_wp2
    go_loopw [10, 23] (fun bv c wr => ∃ k p : Nat, k ≤ n ∧ c = .int .i64 k ∧ bv = .int .i64 (bst kHi (prX zs q) k : Nat) ∧ wr = w1.drewN p) (fun _ c _ => n - (intOf c).toNat)
    case atStart => exact ⟨0, 0, Nat.zero_le _, rfl, rfl, rfl⟩
    case round =>
      obtain ⟨k, p, hk, rfl, rfl, rfl⟩ := hrel
      by_cases hlt2 : k < n
      · have hbk := bst_lt kHi (prX zs q) k
        have hck := HCs.out k hlt2
        have hcb := HCs.out (bst kHi (prX zs q) k) (by omega)
        have huk := HU.out k hlt2
        have hub := HU.out (bst kHi (prX zs q) k) (by omega)
        have HSt := Lib.hid (show bst kHi (prX zs q) (k + 1) = if kHi ((prX zs q).getD k 0) < kHi ((prX zs q).getD (bst kHi (prX zs q) k) 0) then k else bst kHi (prX zs q) k from rfl)
        generalize bst kHi (prX zs q) k = g at *
        generalize (prX zs q).getD k 0 = x at *
        generalize (prX zs q).getD g 0 = y at *
        by_cases hcmp : y < x
        · have ho : ((FloatKind.format .f32).order x y == some Ordering.gt) = true := by
            rcases up_cmp huk hub with ⟨g1, o⟩ | ⟨g1, o⟩ | ⟨g1, o⟩ <;> first | omega | (rw [o]; rfl)
          have HN := Lib.hid (HSt.out.trans (if_pos (by unfold kHi; unfold upw at *; omega)))
          clear hcmp huk hub HSt
          go_wp2
          go_region
          all_goals
            go_wp2
            go_roundw
            case rel => exact ⟨k + 1, _, by omega, by go_num, by rw [HN.out], rfl⟩
            case measure => simp [intOf]; omega
        · have ho : ((FloatKind.format .f32).order x y == some Ordering.gt) = false := by
            rcases up_cmp huk hub with ⟨g1, o⟩ | ⟨g1, o⟩ | ⟨g1, o⟩ <;> first | omega | (rw [o]; rfl)
          have HN := Lib.hid (HSt.out.trans (if_neg (by unfold kHi; unfold upw at *; omega)))
          clear hcmp huk hub HSt
          go_wp2
          go_region
          all_goals
            go_wp2
            go_roundw
            case rel => exact ⟨k + 1, _, by omega, by go_num, by rw [HN.out], rfl⟩
            case measure => simp [intOf]; omega
      · have e : k = n := by omega
        subst e
        have hcb := HCs.out _ hlt
        have hcj := HC.out _ hlt
        have HUr := Lib.hid (cn_num (up_noN (HU.out _ hlt)))
        rw [HM.out] at HG
        have HI := Lib.hid HG.out.1
        have HJ := Lib.hid HG.out.2.1
        have HV := Lib.hid HG.out.2.2
        clear HG HM
        generalize bst kHi (prX zs q) k = g at *
        generalize (prX zs q).getD g 0 = x at *
        generalize (prI zs q).getD g 0 = J at *
        go_wp2
        go_region
        all_goals
          go_wp2
          go_ret3
          exact ⟨x, HUr.out.trans HV.out.symm, by rw [HI.out]; rfl, below_drewN HBl.out _⟩
end Go.Proofs.Ytldaamgohdnjnaa
