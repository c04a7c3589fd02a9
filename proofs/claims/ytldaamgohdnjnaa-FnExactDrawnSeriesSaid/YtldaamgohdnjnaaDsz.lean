/-
  Draws of both packages: the seed's next, and a rest of four draws.
-/
import Derived.Test.YtldaamgohdnjnaaDrw
import Derived.Test.YtldaamgohdnjnaaPah
import Derived.Test.YtldaamgohdnjnaaRep
import Derived.Test.YtldaamgohdnjnaaRgs
import Derived.Maps.AppendAt
import Derived.Deep.DeepCutAuto
import Derived.Deep.RegionWith
import Derived.Deep.RegionHeld3
import Derived.Deep.AppendLies
import Derived.Test.YtldaamgohdnjnaaPai
import Derived.Test.YtldaamgohdnjnaaPl2
import Derived.Test.YtldaamgohdnjnaaRow
namespace Go.Proofs.Ytldaamgohdnjnaa
open Ieee Go.RowKit
set_option linter.unusedVariables false
set_option linter.unusedSimpArgs false

def nx (s : Nat) : Nat := (1664525 * s + 1013904223) % 4294967296
theorem nx_lt (s : Nat) : nx s < 4294967296 := Nat.mod_lt _ (by omega)
theorem nx_int (s : Nat) : (1664525 * (s : Int) + 1013904223) % 4294967296 = (nx s : Nat) := by unfold nx; omega
def nxs (s : Nat) : Nat → Nat
  | 0 => s
  | k + 1 => nx (nxs s k)
theorem nxs_succ (s k : Nat) : nxs s (k + 1) = nx (nxs s k) := by rw [nxs]
theorem nxs_lt {s : Nat} (hs : s < 4294967296) : ∀ k, nxs s k < 4294967296
  | 0 => hs
  | k + 1 => by rw [nxs_succ]; exact nx_lt _
/-- A draw, of a seed. -/
def drW (q : Nat) : Nat := aop .sub .f32 (aop .quo .f32 (cn .f32 (floatOfInt .f32 ((q / 256 : Nat) : Int))) (cn .f32 1266679808)) (cn .f32 1056964608)
def drT (s k : Nat) : Nat := drW (nxs s (k + 1))
/-- A rest, and the seed then. -/
def drR (s : Nat) : Nat := sumT (drT s) 4
theorem i2f_num (n : Nat) : isN .f32 (floatOfInt .f32 (n : Int)) = false := by
  have : floatOfInt .f32 (n : Int) = single.nearest false n 0 := by
    unfold floatOfInt
    show single.nearest (decide ((n : Int) < 0)) _ 0 = _
    rw [decide_eq_false (by omega)]; rfl
  rw [this]
  exact nearest_nan ..
theorem dr_im (q : Nat) (w1 w2 : World) : cn .f32 (fopR .sub .f32 (fopR .mul .f32 (floatOfInt .f32 ((q : Int) / 256)) 864026624 w1) 1056964608 w2) = drW q := by
  have hc : cn .f32 864026624 = 864026624 := by decide +kernel
  have hc2 : cn .f32 1266679808 = 1266679808 := by decide +kernel
  have hq : ((q : Int) / 256) = ((q / 256 : Nat) : Int) := by omega
  rw [cn_fopR, cn_fopR, hc, hq, cn_num (i2f_num _), (draw_aop (i2f_num _)).1]
  unfold drW
  rw [hc2, cn_num (i2f_num _)]
theorem dr_sp (q : Nat) (w1 w2 : World) : cn .f32 (fopR .sub .f32 (fopR .quo .f32 (floatOfInt .f32 ((q : Int) / 256)) 1266679808 w1) 1056964608 w2) = drW q := by
  have hq : ((q : Int) / 256) = ((q / 256 : Nat) : Int) := by omega
  rw [cn_fopR, cn_fopR, hq]; rfl
set_option maxRecDepth 100000 in
theorem nextSeed_any (s : Nat) (hs : s < 4294967296) (w : World) : Calls Try.prog 129 #[.int .i64 (s : Nat)] w fun e w' => e = .returned (.int .i64 (nx s : Nat)) ∧ w = w' := by
  have h := nx_int s
  generalize nx s = z at *
  go_enter Try.func129, Try.ntmps129
  go_wp2
  go_ret
  exact ⟨by rw [h]; rfl, rfl⟩
/-- What the closure of a rest keeps. -/
def DrI (bt s k : Nat) (wr : World) : Prop := wr.cell? ⟨bt, 0, none⟩ = some (.int .i64 (nxs s k : Nat)) ∧ wr.frozen? ⟨bt, 0, none⟩ = false
theorem DrI.drewN {bt s k : Nat} {wr : World} (h : DrI bt s k wr) (m : Nat) : DrI bt s k (wr.drewN m) := h
set_option maxRecDepth 100000 in
theorem dr1_any (bt B0 k s : Nat) (wr : World) (h : DrI bt s k wr) (hB0 : B0 ≤ bt) (hs : s < 4294967296) :
    Calls Try.prog 128 #[.int .i64 k, .pointer (some ⟨bt, 0, none⟩)] wr (Adds (drT s) (DrI bt s) B0 k wr) := by
  obtain ⟨h1, h2⟩ := h
  have hl := nxs_lt hs k
  have hl2 := nxs_lt hs (k + 1)
  have HD := Lib.hid (nxs_succ s k)
  have HT := Lib.hid (show drT s k = drW (nx (nxs s k)) from by unfold drT; rw [nxs_succ])
  have HI := Lib.hid (show DrI bt s (k + 1) (wr.setCell ⟨bt, 0, none⟩ (.int .i64 (nx (nxs s k) : Nat))) from ⟨by rw [nxs_succ]; exact World.cell?_setCell_same' _ _ _ (by rw [h1]; rfl), by rw [World.frozen?_setCell]; exact h2⟩)
  have HB := Lib.hid ((Below.refl B0 wr).setCell (p := ⟨bt, 0, none⟩) hB0 (.int .i64 (nx (nxs s k) : Nat)))
  rw [HD.out] at hl2
  generalize nxs s k = q at *
  generalize hz : nx q = z at *
  go_enter Try.func128, Try.ntmps128
  go_wp2_with (go_at_call 129; refine (nextSeed_any q hl _).mono ?_; rw [hz]; rintro e w' ⟨rfl, rfl⟩)
  go_ret
  refine ⟨_, rfl, (dr_im _ _ _).trans HT.out.symm, ?_, ?_⟩
  · exact HI.out.drewN _
  · exact below_drewN HB.out _
set_option maxRecDepth 100000 in
theorem rest_any (s : Nat) (hs : s < 4294967296) (w : World) :
    Calls Try.prog 79 #[.int .i64 (s : Nat)] w fun e w' => ∃ r, e = .returned (.tuple #[.float .f32 r, .int .i64 (nxs s 4 : Nat)]) ∧ cn .f32 r = drR s ∧ Below w.heap.size w w' := by
  have hmf : ∀ (fn : Fn) (first cap : Array Value) (w : World), (Instr.makeFunc fn first cap).run Try.prog w = .ok (.func fn first cap) w := fun _ _ _ _ => rfl
  have HI := Lib.hid (show DrI w.heap.size s 0 (w.alloc (.cells #[.int .i64 (s : Nat)] 2)) from ⟨by rw [World.cell?_alloc_at _ _ _ _ rfl]; rfl, World.frozen?_alloc_at _ _ _ _ rfl⟩)
  have HB := Lib.hid ((Below.refl w.heap.size w).alloc (Nat.le_refl _) (.cells #[.int .i64 (s : Nat)] 2))
  go_enter Try.func79, Try.ntmps79
  go_wp2_with fail
  refine (summed_any 128 #[.pointer (some ⟨w.heap.size, 0, none⟩)] (drT s) (DrI w.heap.size s) w.heap.size 4 _ (enter_of Try.func128 (by kernel_rfl) rfl) (by omega) (by simp) HI.out (fun k m wr h => h) (fun k wr hk hw h => dr1_any _ _ _ _ _ h (Nat.le_refl _) hs)).mono ?_
  rintro e w1 ⟨r, rfl, hr, hi, hb⟩
  have HR := Lib.hid hr
  have HB1 := Lib.hid (HB.out.trans hb)
  have hc := hi.1
  clear hr hi hb
  go_wp2_with fail
  go_region
  all_goals
    go_wp2
    (try simp only [Exit.inBlock, Exit.then])
    refine bodyPost_ret (results_tmp2 rfl _ _ _) rfl ?_
    exact ⟨r, rfl, HR.out, by first | exact HB1.out | exact below_drewN HB1.out _⟩
end Go.Proofs.Ytldaamgohdnjnaa

/-
  What is told by the past where the past is the mean ahead of the first number.
-/
namespace Go.Proofs.Ytldaamgohdnjnaa
open Ieee Go.RowKit
set_option linter.unusedVariables false
set_option linter.unusedSimpArgs false

theorem rep_getD_hi {m n' n k : Nat} {zs : List Nat} (hz : zs.length = n) (hk : k < n) : (List.replicate n' m ++ zs).getD ((List.replicate n' m ++ zs).length - 1 - k) 0 = zs.getD (n - 1 - k) 0 := by
  rw [List.length_append, List.length_replicate, hz, List.getD_eq_getElem?_getD, List.getElem?_append_right (by rw [List.length_replicate]; omega), List.length_replicate, show n' + n - 1 - k - n' = n - 1 - k by omega, ← List.getD_eq_getElem?_getD]
theorem rep_getD_lo {m n' n k : Nat} {zs : List Nat} (hz : zs.length = n) (hk : n ≤ k) (hk' : k < n') : (List.replicate n' m ++ zs).getD ((List.replicate n' m ++ zs).length - 1 - k) 0 = m := by
  rw [List.length_append, List.length_replicate, hz, List.getD_eq_getElem?_getD, List.getElem?_append_left (by rw [List.length_replicate]; omega), List.getElem?_replicate, if_pos (by omega)]; rfl
set_option maxHeartbeats 2000000 in
set_option maxRecDepth 100000 in
theorem spToldM_any (a : Option Addr) (n cap : Nat) (zs : List Nat) (a' : Option Addr) (n' cap' : Nat) (ts : List Nat) (m : Nat) (w : World) (h : FSl w a n zs) (h' : FSl w a' n' ts) (hm : n ≤ 1048576) (hm' : n' ≤ 1048576) :
    Calls Try.prog 72 #[.slice a n cap, .slice a' n' cap', .float .f32 m, .int .i64 n] w (RetF .f32 (paT (List.replicate n' m ++ zs) ts m) w) := by
  have H := Lib.hid h
  have H' := Lib.hid h'
  have HL := Lib.hid h.1
  have HL' := Lib.hid h'.1
  clear h h'
  obtain ⟨tl, htl⟩ : ∃ tl, paT1 (List.replicate n' m ++ zs) ts m = tl := ⟨_, rfl⟩
  have HTl := Lib.hid htl
  have HTh := Lib.hid (show ∀ k, k < n → tl k = aop .mul .f32 (cn .f32 (ts.getD k 0)) (aop .sub .f32 (cn .f32 (zs.getD (n - 1 - k) 0)) (cn .f32 m)) from fun k hk => by rw [← htl]; unfold paT1; rw [rep_getD_hi HL.out hk])
  have HTw := Lib.hid (show ∀ k, n ≤ k → k < n' → tl k = aop .mul .f32 (cn .f32 (ts.getD k 0)) (aop .sub .f32 (cn .f32 m) (cn .f32 m)) from fun k hk hk' => by rw [← htl]; unfold paT1; rw [rep_getD_lo HL.out hk hk'])
  have HP := Lib.hid (show paT (List.replicate n' m ++ zs) ts m = aop .add .f32 (cn .f32 m) (sumT tl n') from by unfold paT; rw [htl, HL'.out])
  clear htl
  rw [HP.out]
  go_enter Try.func72, Try.ntmps72
  go_wp2
  go_loopw [9, 14] (fun s i wr => ∃ k r q : Nat, k ≤ n' ∧ i = .int .i64 k ∧ s = .float .f32 r ∧ wr = w.drewN q ∧ Hid (cn .f32 r = sumT tl k)) (fun _ i _ => n' - (intOf i).toNat)
  case atStart => exact ⟨0, 0, 0, Nat.zero_le _, rfl, rfl, rfl, Lib.hid cn_zero⟩
  case round =>
    obtain ⟨k, r, q, hk, rfl, rfl, rfl, hr⟩ := hrel
    by_cases hlt : k < n'
    · obtain ⟨b', off', rfl, _, hc'⟩ := H'.out.at (by omega)
      have hck' := hc' k hlt
      by_cases hkn : k < n
      · obtain ⟨b, off, rfl, _, hc⟩ := H.out.at (by omega)
        have hck := hc (n - 1 - k) (by omega)
        have hw0 : IntKind.i64.wrap ((n : Int) - 1) = ((n - 1 : Nat) : Int) := by rw [IntKind.wrap_i64]; omega
        have hw1 : IntKind.i64.wrap (((n - 1 : Nat) : Int) - (k : Int)) = ((n - 1 - k : Nat) : Int) := by rw [IntKind.wrap_i64]; omega
        have hz0 : (0 : Int) ≤ ((n - 1 - k : Nat) : Int) := by omega
        have hz1 : ((n - 1 - k : Nat) : Int) < (n : Int) := by omega
        have hd : decide ((0 : Int) ≤ ((n - 1 - k : Nat) : Int)) = true := decide_eq_true hz0
        have HT := Lib.hid (fun W1 W2 W3 => sum_step (tell := tl) (r := fopR .mul .f32 (ts.getD k 0) (fopR .sub .f32 (zs.getD (n - 1 - k) 0) m W1) W2) hr.out (by rw [cn_fopR, cn_fopR]; exact (HTh.out k hkn).symm) W3)
        generalize ts.getD k 0 = x at *
        generalize zs.getD (n - 1 - k) 0 = z at *
        obtain ⟨j, hj⟩ : ∃ j, n - 1 - k = j := ⟨_, rfl⟩
        rw [hj] at hck hw1 hz0 hz1 hd
        clear hc hc' hr hj
        go_wp2
        go_roundw
        case rel => exact ⟨k + 1, _, _, by omega, by go_num, rfl, rfl, Lib.hid (HT.out _ _ _)⟩
        case measure => simp [intOf]; omega
      · have hw0 : IntKind.i64.wrap ((n : Int) - 1) = (n : Int) - 1 := by rw [IntKind.wrap_i64]; omega
        have hw1 : IntKind.i64.wrap ((n : Int) - 1 - (k : Int)) = (n : Int) - 1 - (k : Int) := by rw [IntKind.wrap_i64]; omega
        have hz0 : ¬ (0 : Int) ≤ (n : Int) - 1 - (k : Int) := by omega
        have hd : decide ((0 : Int) ≤ (n : Int) - 1 - (k : Int)) = false := decide_eq_false hz0
        have HT := Lib.hid (fun W1 W2 W3 => sum_step (tell := tl) (r := fopR .mul .f32 (ts.getD k 0) (fopR .sub .f32 m m W1) W2) hr.out (by rw [cn_fopR, cn_fopR]; exact (HTw.out k (by omega) hlt).symm) W3)
        generalize ts.getD k 0 = x at *
        clear hc' hr
        go_wp2
        go_roundw
        case rel => exact ⟨k + 1, _, _, by omega, by go_num, rfl, rfl, Lib.hid (HT.out _ _ _)⟩
        case measure => simp [intOf]; omega
    · have hkn : k = n' := by omega
      subst hkn
      have HR := Lib.hid hr.out
      clear hr
      go_wp2
      go_ret
      exact ⟨_, _, by rw [cn_fopR, HR.out], rfl, rfl⟩
set_option maxHeartbeats 2000000 in
set_option maxRecDepth 100000 in
theorem told0_any (a : Option Addr) (cap : Nat) (a' : Option Addr) (cap' m : Nat) (w : World) :
    Calls Try.prog 80 #[.slice a 0 cap, .slice a' 0 cap', .float .f32 m] w fun e w' => ∃ r, cn .f32 r = paT [] [] m ∧ e = .returned (.float .f32 r) ∧ Below w.heap.size w w' := by
  have hmf : ∀ (fn : Fn) (first cap : Array Value) (w : World), (Instr.makeFunc fn first cap).run Try.prog w = .ok (.func fn first cap) w := fun _ _ _ _ => rfl
  have b1 := (Below.refl w.heap.size w).alloc (Nat.le_refl _) (.cells #[.slice a 0 cap] 22)
  have b2 := b1.alloc (by simp) (.cells #[.slice a' 0 cap'] 22)
  have b3 := b2.alloc (by simp; omega) (.cells #[.float .f32 m] 32)
  have b4 := b3.alloc (by simp; omega) (.cells #[.int .i64 (-1)] 3)
  have HI := Lib.hid (show ((((w.alloc (.cells #[.slice a 0 cap] 22)).alloc (.cells #[.slice a' 0 cap'] 22)).alloc (.cells #[.float .f32 m] 32)).alloc (.cells #[.int .i64 (-1)] 3)).cell? ⟨w.heap.size + 1, 0, none⟩ = some (.slice a' 0 cap') ∧ ((((w.alloc (.cells #[.slice a 0 cap] 22)).alloc (.cells #[.slice a' 0 cap'] 22)).alloc (.cells #[.float .f32 m] 32)).alloc (.cells #[.int .i64 (-1)] 3)).cell? ⟨w.heap.size + 1 + 1, 0, none⟩ = some (.float .f32 m) from
    ⟨by rw [World.cell?_alloc_past _ _ _ (by simp), World.cell?_alloc_past _ _ _ (by simp), World.cell?_alloc_at _ _ _ _ (by simp)]; rfl,
     by rw [World.cell?_alloc_past _ _ _ (by simp), World.cell?_alloc_at _ _ _ _ (by simp)]; rfl⟩)
  have G := Lib.hid b4
  clear b1 b2 b3 b4
  go_enter Try.func80, Try.ntmps80
  go_wp2_with fail
  have hct := HI.out.1
  have hcm := HI.out.2
  go_region_with
    ((go_at_call 127; refine (summed_any 130 #[.pointer (some ⟨w.heap.size + 1, 0, none⟩), .pointer (some ⟨w.heap.size, 0, none⟩), .pointer (some ⟨w.heap.size + 1 + 1 + 1, 0, none⟩), .pointer (some ⟨w.heap.size + 1 + 1, 0, none⟩)] (paT1 [] [] m) (fun _ wx => wx.cell? ⟨w.heap.size + 1, 0, none⟩ = some (.slice a' 0 cap') ∧ wx.cell? ⟨w.heap.size + 1 + 1, 0, none⟩ = some (.float .f32 m)) w.heap.size 0 _ (enter_of Try.func130 (by kernel_rfl) rfl) (by omega) G.out.drew.size HI.out (fun k m w' h => h) (fun k w' hk hsz hI => by omega)).mono ?_; rintro e w2 ⟨r, rfl, hr, hi, hb⟩; have hcm2 := hi.2; have hct2 := hi.1))
  all_goals
    go_wp2
    go_ret
    refine ⟨_, ?_, rfl, below_drewN (G.out.drew.trans hb) _⟩
    rw [cn_fopR, hr]
    unfold paT
    rfl
end Go.Proofs.Ytldaamgohdnjnaa

/-
  DrawnSeries: its closure in the program.
-/
namespace Go.Proofs.Ytldaamgohdnjnaa
open Ieee Go.RowKit
set_option linter.unusedVariables false
set_option linter.unusedSimpArgs false

theorem nxs_add (s a : Nat) : ∀ b, nxs s (a + b) = nxs (nxs s a) b
  | 0 => rfl
  | b + 1 => by rw [← Nat.add_assoc, nxs_succ, nxs_add s a b, nxs_succ]
/-- The next number, the past and the seed known. -/
def dsW (rs ts : List Nat) (m wd q : Nat) : Nat := aop .add .f32 (paT rs ts m) (aop .mul .f32 (cn .f32 wd) (drR q))
/-- What is known behind k draws. -/
def dsK (ks ts : List Nat) (m wd s : Nat) : Nat → List Nat
  | 0 => cnl ks
  | k + 1 => dsK ks ts m wd s k ++ [dsW (dsK ks ts m wd s k) ts m wd (nxs s (4 * k))]
def dsV (ks ts : List Nat) (m wd s k : Nat) : Nat := dsW (dsK ks ts m wd s k) ts m wd (nxs s (4 * k))
theorem dsK_succ (ks ts : List Nat) (m wd s k : Nat) : dsK ks ts m wd s (k + 1) = dsK ks ts m wd s k ++ [dsV ks ts m wd s k] := by rw [dsK]; rfl
theorem dsK_len (ks ts : List Nat) (m wd s : Nat) : ∀ k, (dsK ks ts m wd s k).length = ks.length + k
  | 0 => by rw [dsK, cnl_len]; rfl
  | k + 1 => by rw [dsK_succ, List.length_append, dsK_len ks ts m wd s k]; rfl
theorem dsK_next {ks ts rs : List Nat} {m wd s k r : Nat} (h : cnl rs = dsK ks ts m wd s k) (hr : cn .f32 r = dsW rs ts m wd (nxs s (4 * k))) : cnl (rs ++ [r]) = dsK ks ts m wd s (k + 1) ∧ cn .f32 r = dsV ks ts m wd s k := by
  have e : dsW rs ts m wd (nxs s (4 * k)) = dsV ks ts m wd s k := by unfold dsV dsW; rw [← h, paT_cnl]
  rw [e] at hr
  refine ⟨?_, hr⟩
  rw [dsK_succ, ← h]
  unfold cnl
  rw [List.map_append]
  simp [hr]
/-- What the closure keeps behind k calls. -/
def DsI (T : TypeId) (bs bk bt bm bw g Bl : Nat) (ks : List Nat) (a' : Option Addr) (n' cap' : Nat) (ts : List Nat) (m wd s : Nat) (k : Nat) (wr : World) : Prop :=
  (∃ v rs, wr.cell? ⟨bk, 0, none⟩ = some v ∧ wr.frozen? ⟨bk, 0, none⟩ = false ∧ FOwn T Bl wr v rs ∧ cnl rs = dsK ks ts m wd s k ∧ v.ownBlock ≠ some g ∧ v.ownBlock ≠ some bk) ∧
    BoxI bt a' n' cap' ts wr ∧ wr.cell? ⟨bm, 0, none⟩ = some (.float .f32 m) ∧ wr.cell? ⟨bw, 0, none⟩ = some (.float .f32 wd) ∧ wr.cell? ⟨bs, 0, none⟩ = some (.int .i64 (nxs s (4 * k) : Nat)) ∧ wr.frozen? ⟨bs, 0, none⟩ = false
section
variable {T : TypeId} {bs bk bt bm bw g Bl : Nat} {ks : List Nat} {a' : Option Addr} {n' cap' : Nat} {ts : List Nat} {m wd s k : Nat} {wr : World}
theorem DsI.setG (h : DsI T bs bk bt bm bw g Bl ks a' n' cap' ts m wd s k wr) (h1 : bk < g) (h2 : bt < g) (h3 : bm < g) (h4 : bw < g) (h5 : bs < g) (j : Nat) (u : Value) : DsI T bs bk bt bm bw g Bl ks a' n' cap' ts m wd s k (wr.setCell ⟨g, j, none⟩ u) := by
  obtain ⟨⟨v, rs, c1, c2, c3, c4, c5, c6⟩, d1, d2, d3, d4, d5⟩ := h
  have hb := (Below.refl g wr).setCell (p := ⟨g, j, none⟩) (Nat.le_refl _) u
  exact ⟨⟨v, rs, by rw [hb.cell (p := ⟨bk, 0, none⟩) h1]; exact c1, by rw [hb.frozen (p := ⟨bk, 0, none⟩) h1]; exact c2, c3.setO c5 j u, c4, c5, c6⟩, d1.keep h2 hb, by rw [hb.cell (p := ⟨bm, 0, none⟩) h3]; exact d2,
    by rw [hb.cell (p := ⟨bw, 0, none⟩) h4]; exact d3, by rw [hb.cell (p := ⟨bs, 0, none⟩) h5]; exact d4, by rw [hb.frozen (p := ⟨bs, 0, none⟩) h5]; exact d5⟩
theorem DsI.drewN (h : DsI T bs bk bt bm bw g Bl ks a' n' cap' ts m wd s k wr) (q : Nat) : DsI T bs bk bt bm bw g Bl ks a' n' cap' ts m wd s k (wr.drewN q) := by
  obtain ⟨⟨v, rs, c1, c2, c3, c4, c5, c6⟩, d1, d2, d3, d4, d5⟩ := h
  exact ⟨⟨v, rs, c1, c2, FOwn.drewN c3 q, c4, c5, c6⟩, d1, d2, d3, d4, d5⟩
end
theorem toldz_any (a : Option Addr) (n cap : Nat) (zs : List Nat) (a' : Option Addr) (n' cap' : Nat) (ts : List Nat) (m : Nat) (w : World) (h : FSl w a n zs) (h' : FSl w a' n' ts) (hn : n' ≤ n) (hm : n ≤ 1048576) :
    Calls Try.prog 80 #[.slice a n cap, .slice a' n' cap', .float .f32 m] w fun e w' => ∃ r, cn .f32 r = paT zs ts m ∧ e = .returned (.float .f32 r) ∧ Below w.heap.size w w' := by
  rcases Nat.eq_zero_or_pos n with h0 | h0
  · subst h0
    obtain rfl : n' = 0 := by omega
    obtain rfl : zs = [] := List.eq_nil_of_length_eq_zero h.1
    obtain rfl : ts = [] := List.eq_nil_of_length_eq_zero h'.1
    exact told0_any a cap a' cap' m w
  · exact told_any a n cap zs a' n' cap' ts m w h h' hn h0 hm
theorem ds_word {rs ts : List Nat} {m wd q x y : Nat} (hx : cn .f32 x = drR q) (hy : cn .f32 y = paT rs ts m) (w1 w2 : World) : cn .f32 (fopR .add .f32 y (fopR .mul .f32 wd x w1) w2) = dsW rs ts m wd q := by
  rw [cn_fopR, cn_fopR, hx, hy]; rfl
def dsReg (bk bt bm bw cp n' cap' m wd x : Nat) (A a' : Option Addr) (rs ts : List Nat) : Nat → Value → World → Prop
  | 0, v, w => v = (.slice A rs.length cp)
  | 1, v, w => v = (.slice a' n' cap')
  | 2, v, w => v = (.float .f32 m)
  | 3, v, w => ∃ r, v = .float .f32 r ∧ cn .f32 r = (paT rs ts m)
  | 4, v, w => v = (.float .f32 wd)
  | 5, v, w => v = (.float .f32 x)
  | 6, v, w => ∃ r, v = .float .f32 r ∧ cn .f32 r = (aop .mul .f32 (cn .f32 wd) (cn .f32 x))
  | 7, v, w => ∃ r, v = .float .f32 r ∧ cn .f32 r = (aop .add .f32 (paT rs ts m) (aop .mul .f32 (cn .f32 wd) (cn .f32 x)))
  | 8, v, w => ∃ r, v = .float .f32 r ∧ cn .f32 r = (aop .add .f32 (paT rs ts m) (aop .mul .f32 (cn .f32 wd) (cn .f32 x)))
  | _, _, _ => True
theorem dsReg_mono (bk bt bm bw cp n' cap' m wd x : Nat) (A a' : Option Addr) (rs ts : List Nat) : ∀ i v w w', dsReg bk bt bm bw cp n' cap' m wd x A a' rs ts i v w → Below w.heap.size w w' → dsReg bk bt bm bw cp n' cap' m wd x A a' rs ts i v w'
  := by
  intro i v w w' h hb
  unfold dsReg at *
  split
  · exact h
  · exact h
  · exact h
  · exact h
  · exact h
  · exact h
  · exact h
  · exact h
  · exact h
  · trivial
set_option maxHeartbeats 2000000 in
set_option maxRecDepth 100000 in
theorem ds1_any (bs bk bt bm bw g Bl B0 k : Nat) (ks : List Nat) (a' : Option Addr) (n' cap' : Nat) (ts : List Nat) (m wd s : Nat) (wr : World) (h : DsI 32 bs bk bt bm bw g Bl ks a' n' cap' ts m wd s k wr) (hB0 : B0 ≤ bs) (hbt : bt < bs) (hbm : bm < bs) (hbw : bw < bs) (hbs : bs < Bl) (hBk : Bl ≤ bk) (hbk : bk < g) (hg : g < wr.heap.size) (has : ks.length + k ≤ 1048575) (hnn : n' ≤ ks.length) (hts : ts.length = n') (hs : s < 4294967296) :
    Calls Try.prog 78 #[.int .i64 k, .pointer (some ⟨bs, 0, none⟩), .pointer (some ⟨bk, 0, none⟩), .pointer (some ⟨bt, 0, none⟩), .pointer (some ⟨bm, 0, none⟩), .pointer (some ⟨bw, 0, none⟩)] wr (Tells (dsV ks ts m wd s) (DsI 32 bs bk bt bm bw g Bl ks a' n' cap' ts m wd s) B0 g k wr) := by
  obtain ⟨i0, hi, hz0, hz1, hz2⟩ := info_parts Try.infoR
  obtain ⟨⟨v, rs, c1, c2, c3, c4, c5, c6⟩, d1, d2, d3, d4, d5⟩ := h
  have hrl : rs.length = ks.length + k := by have := congrArg List.length c4; rw [cnl_len, dsK_len] at this; exact this
  obtain ⟨A, cp, rfl, hsl, _⟩ := c3.sl
  have hql := nxs_lt hs (4 * k)
  have HQ := Lib.hid (show nxs s (4 * (k + 1)) = nxs (nxs s (4 * k)) 4 from nxs_add s (4 * k) 4)
  have HN := Lib.hid (fun r (hr : cn .f32 r = dsW rs ts m wd (nxs s (4 * k))) => dsK_next c4 hr)
  have HSl := Lib.hid hsl
  have HO := Lib.hid c3
  have HG := Lib.hid c5
  have HBk := Lib.hid c6
  have HT := Lib.hid d1
  have hct := d1.1
  have HRl := Lib.hid hrl
  clear hsl hrl c3 c4 c5 c6 d1
  generalize nxs s (4 * k) = q at *
  obtain ⟨q4, hq4⟩ : ∃ q4, nxs q 4 = q4 := ⟨_, rfl⟩
  go_enter Try.func78, Try.ntmps78
  go_wp2_with fail
  refine (rest_any q hql _).mono ?_
  rw [hq4]
  rintro e w1 ⟨x, rfl, hx, bb⟩
  have hs1 := bb.size
  have hc : ∀ b, b < wr.heap.size → ∀ o, w1.cell? ⟨b, o, none⟩ = wr.cell? ⟨b, o, none⟩ := fun b hb o => bb.cell (p := ⟨b, o, none⟩) hb
  have hsc : w1.cell? ⟨bs, 0, none⟩ = some (.int .i64 (q : Nat)) := by rw [hc bs (by omega)]; exact d4
  have hsf : w1.frozen? ⟨bs, 0, none⟩ = false := by rw [bb.frozen (p := ⟨bs, 0, none⟩) (by show bs < _; omega)]; exact d5
  obtain ⟨ws, hws⟩ : ∃ ws, w1.setCell ⟨bs, 0, none⟩ (.int .i64 (q4 : Nat)) = ws := ⟨_, rfl⟩
  have hbw1 : Below bs wr ws := by rw [← hws]; exact (bb.mono (show bs ≤ wr.heap.size by omega)).setCell (p := ⟨bs, 0, none⟩) (Nat.le_refl _) _
  have hfar : ∀ b, b ≠ bs → b < wr.heap.size → ws.heap[b]? = wr.heap[b]? := fun b hb hlt => by
    rw [← hws, Below.heap_setCell w1 ⟨bs, 0, none⟩ _ b hb]; exact bb.block b hlt
  have hss : wr.heap.size ≤ ws.heap.size := by rw [← hws]; simpa [World.setCell] using hs1
  have HOs := Lib.hid (show FOwn 32 Bl ws (.slice A rs.length cp) rs from by
    rw [← hws]; exact (pa_keep HO.out bb).setO (fun e => by have := (HO.out.lt bs e).1; omega) 0 _)
  have HSs := Lib.hid (show FSl ws A rs.length rs from HSl.out.same hss fun b off h0 e => by
    have hb := HO.out.lt
    have e2 : (Value.slice A rs.length cp).ownBlock = some b := by rw [e]; rfl
    exact hfar b (by have := (hb b e2).1; omega) (hb b e2).2)
  have HTs := Lib.hid (HT.out.keep hbt hbw1)
  have hk1 : ws.cell? ⟨bk, 0, none⟩ = some (.slice A rs.length cp) := by rw [World.cell?_of_block (w := wr) (hfar bk (by omega) (by omega))]; exact c1
  have hk2 : ws.frozen? ⟨bk, 0, none⟩ = false := by rw [World.frozen?_of_block (w := wr) (hfar bk (by omega) (by omega))]; exact c2
  have hm1 : ws.cell? ⟨bm, 0, none⟩ = some (.float .f32 m) := by rw [hbw1.cell (p := ⟨bm, 0, none⟩) hbm]; exact d2
  have hw1 : ws.cell? ⟨bw, 0, none⟩ = some (.float .f32 wd) := by rw [hbw1.cell (p := ⟨bw, 0, none⟩) hbw]; exact d3
  have hq1 : ws.cell? ⟨bs, 0, none⟩ = some (.int .i64 (q4 : Nat)) := by rw [← hws]; exact World.cell?_setCell_same' _ _ _ (by rw [hsc]; rfl)
  have hq2 : ws.frozen? ⟨bs, 0, none⟩ = false := by rw [← hws, World.frozen?_setCell]; exact hsf
  have hg1 : ws.heap[g]? = wr.heap[g]? := hfar g (by omega) hg
  have HX := Lib.hid hx
  have HW := Lib.hid hws
  have ht1 := HTs.out.1
  clear hx hc hfar bb c1 c2 d2 d3 d4 d5 hct hws HO HSl HT
  go_upto_region 3 with fail
  rw [HW.out]
  go_cut [9] (fun v9 wx => ∃ r, v9 = .float .f32 r ∧ Hid (cn .f32 r = dsW rs ts m wd q) ∧ Hid (Below ws.heap.size ws wx))
  case first =>
    have hbwl : bw < ws.heap.size := by omega
    have hbkl : bk < ws.heap.size := by omega
    have hbtl : bt < ws.heap.size := by omega
    have hbml : bm < ws.heap.size := by omega
    have hrle : rs.length ≤ 1048576 := by have := HRl.out; omega
    have hnle : n' ≤ rs.length := by have := HRl.out; omega
    have HTf := Lib.hid (HTs.out.fsl hts)
    clear hk2 hq1 hq2 hg1 hbw1 hss hsc hsf
    go_wp2_with fail
    refine wp_region_MV (dsReg bk bt bm bw cp n' cap' m wd x A a' rs ts) (by kernel_rfl) (dsReg_mono bk bt bm bw cp n' cap' m wd x A a' rs ts) (by kernel_rfl) ?_ ?_
    · refine ⟨?_, ?_, ?_, ?_, ?_, ?_, ?_, ?_, ?_, trivial⟩
      · refine opM_do rfl (fun a_ w' hS hf K hK => ?_)
        have s2 : a_.tmps.getD 2 undef = (.pointer (some ⟨bk, 0, none⟩)) := (hS.rest 2 (by kernel_rfl)).trans rfl
        have k0 := (hS.below.cell (p := ⟨bk, 0, none⟩) (by exact hbkl)).trans hk1
        go_simp
        exact hK _ _ (Below.refl _ _) rfl
      · refine opM_do rfl (fun a_ w' hS hf K hK => ?_)
        have s3 : a_.tmps.getD 3 undef = (.pointer (some ⟨bt, 0, none⟩)) := (hS.rest 3 (by kernel_rfl)).trans rfl
        have k1 := (hS.below.cell (p := ⟨bt, 0, none⟩) (by exact hbtl)).trans ht1
        go_simp
        exact hK _ _ (Below.refl _ _) rfl
      · refine opM_do rfl (fun a_ w' hS hf K hK => ?_)
        have s4 : a_.tmps.getD 4 undef = (.pointer (some ⟨bm, 0, none⟩)) := (hS.rest 4 (by kernel_rfl)).trans rfl
        have k2 := (hS.below.cell (p := ⟨bm, 0, none⟩) (by exact hbml)).trans hm1
        go_simp
        exact hK _ _ (Below.refl _ _) rfl
      · refine opM_do rfl (fun a_ w' hS hf K hK => ?_)
        have s15 : a_.tmps.getD 15 undef = (.slice A rs.length cp) := hf 0 (by kernel_rfl) _ 15 rfl rfl
        have s16 : a_.tmps.getD 16 undef = (.slice a' n' cap') := hf 1 (by kernel_rfl) _ 16 rfl rfl
        have s17 : a_.tmps.getD 17 undef = (.float .f32 m) := hf 2 (by kernel_rfl) _ 17 rfl rfl
        have F1 := FSl.below (FSl.drewN HSs.out 1) hS.below
        have F2 := FSl.below (FSl.drewN HTf.out 1) hS.below
        clear hf hS
        go_simp
        refine (toldz_any _ _ _ rs _ _ _ ts m _ F1 F2 hnle hrle).mono ?_
        rintro e w2 ⟨y, hy, rfl, b2⟩
        exact hK _ _ b2 ⟨_, rfl, hy⟩
      · refine opM_do rfl (fun a_ w' hS hf K hK => ?_)
        have s5 : a_.tmps.getD 5 undef = (.pointer (some ⟨bw, 0, none⟩)) := (hS.rest 5 (by kernel_rfl)).trans rfl
        have k3 := (hS.below.cell (p := ⟨bw, 0, none⟩) (by exact hbwl)).trans hw1
        go_simp
        exact hK _ _ (Below.refl _ _) rfl
      · refine opM_do rfl (fun a_ w' hS hf K hK => ?_)
        have s8 : a_.tmps.getD 8 undef = (.float .f32 x) := (hS.rest 8 (by kernel_rfl)).trans rfl
        go_simp
        exact hK _ _ (Below.refl _ _) rfl
      · refine opM_do rfl (fun a_ w' hS hf K hK => ?_)
        have s19 : a_.tmps.getD 19 undef = (.float .f32 wd) := hf 4 (by kernel_rfl) _ 19 rfl rfl
        have s20 : a_.tmps.getD 20 undef = (.float .f32 x) := hf 5 (by kernel_rfl) _ 20 rfl rfl
        go_simp
        exact hK _ _ (by first | exact Below.refl _ _ | exact below_drewN (Below.refl _ _) _) ⟨_, rfl, by first | (rw [cn_fopR]; done) | rw [cn_fopR, cn_one32] | rw [cn_fopR, List.getD_eq_getElem?_getD]⟩
      · refine opM_do rfl (fun a_ w' hS hf K hK => ?_)
        obtain ⟨r18, s18, e18⟩ := (show ∃ r, a_.tmps.getD 18 undef = .float .f32 r ∧ cn .f32 r = (paT rs ts m) from hf 3 (by kernel_rfl) _ 18 rfl rfl)
        obtain ⟨r21, s21, e21⟩ := (show ∃ r, a_.tmps.getD 21 undef = .float .f32 r ∧ cn .f32 r = (aop .mul .f32 (cn .f32 wd) (cn .f32 x)) from hf 6 (by kernel_rfl) _ 21 rfl rfl)
        go_simp
        exact hK _ _ (by first | exact Below.refl _ _ | exact below_drewN (Below.refl _ _) _) ⟨_, rfl, by first | (rw [cn_fopR, e18, e21]; done) | rw [cn_fopR, e18, e21, cn_one32] | rw [cn_fopR, e18, e21, List.getD_eq_getElem?_getD]⟩
      · refine opM_do rfl (fun a_ w' hS hf K hK => ?_)
        obtain ⟨r22, s22, e22⟩ := (show ∃ r, a_.tmps.getD 22 undef = .float .f32 r ∧ cn .f32 r = (aop .add .f32 (paT rs ts m) (aop .mul .f32 (cn .f32 wd) (cn .f32 x))) from hf 7 (by kernel_rfl) _ 22 rfl rfl)
        go_simp
        exact hK _ _ (Below.refl _ _) ⟨_, rfl, e22⟩
    intro vs a_ wV hbV hv haV
    have hlit : a_ = ⟨#[.int .i64 k, .pointer (some ⟨bs, 0, none⟩), .pointer (some ⟨bk, 0, none⟩), .pointer (some ⟨bt, 0, none⟩), .pointer (some ⟨bm, 0, none⟩), .pointer (some ⟨bw, 0, none⟩), undef, .float .f32 0, .float .f32 x, vs 8, .tuple #[.float .f32 x, .int .i64 q4], .int .i64 q, .tuple #[.float .f32 x, .int .i64 q4], .float .f32 x, .int .i64 q4, vs 0, vs 1, vs 2, vs 3, vs 4, vs 5, vs 6, vs 7, undef, undef, undef, undef, undef], []⟩ := haV.trans (by kernel_rfl)
    clear haV
    obtain ⟨r8, e8, h8⟩ := (show ∃ r, vs 8 = .float .f32 r ∧ cn .f32 r = (aop .add .f32 (paT rs ts m) (aop .mul .f32 (cn .f32 wd) (cn .f32 x))) from hv 8 (by decide) (by kernel_rfl))
    rw [e8] at hlit
    clear hv e8
    subst hlit
    have HB2 := Lib.hid (show Below ws.heap.size ws wV from (below_drewN (Below.refl ws.heap.size ws) 1).trans hbV)
    have HR8 := Lib.hid (show cn .f32 r8 = dsW rs ts m wd q from by rw [h8, HX.out]; rfl)
    clear hbV h8
    go_wp2_with fail
    go_meet
    case rel => exact ⟨_, rfl, HR8, HB2⟩
  case rest =>
    obtain ⟨r, rfl, hr, hb⟩ := hcut
    rename World => wa
    have HNx := Lib.hid (HN.out r hr.out)
    have hsa := hb.out.size
    have HO1 := Lib.hid (pa_keep HOs.out hb.out)
    have HT1 := Lib.hid (HTs.out.keep (show bt < ws.heap.size by omega) hb.out)
    have hck : wa.cell? ⟨bk, 0, none⟩ = some (.slice A rs.length cp) := by rw [hb.out.cell (p := ⟨bk, 0, none⟩) (by show bk < _; omega)]; exact hk1
    have hcf : wa.frozen? ⟨bk, 0, none⟩ = false := by rw [hb.out.frozen (p := ⟨bk, 0, none⟩) (by show bk < _; omega)]; exact hk2
    have hcm : wa.cell? ⟨bm, 0, none⟩ = some (.float .f32 m) := by rw [hb.out.cell (p := ⟨bm, 0, none⟩) (by show bm < _; omega)]; exact hm1
    have hcw : wa.cell? ⟨bw, 0, none⟩ = some (.float .f32 wd) := by rw [hb.out.cell (p := ⟨bw, 0, none⟩) (by show bw < _; omega)]; exact hw1
    have hcq : wa.cell? ⟨bs, 0, none⟩ = some (.int .i64 (q4 : Nat)) := by rw [hb.out.cell (p := ⟨bs, 0, none⟩) (by show bs < _; omega)]; exact hq1
    have hcg : wa.frozen? ⟨bs, 0, none⟩ = false := by rw [hb.out.frozen (p := ⟨bs, 0, none⟩) (by show bs < _; omega)]; exact hq2
    have HB1 := Lib.hid ((hbw1.mono hB0).trans (hb.out.mono (show B0 ≤ ws.heap.size by omega)))
    have HG1 := Lib.hid ((hb.out.block g (by omega)).trans hg1)
    clear hr hb hk1 hk2 hm1 hw1 hq1 hq2 hg1 ht1 HOs HTs HSs HX HN hsc hsf hbw1
    go_wp2_with (at_builtin; refine wpList_append_own_at _ rfl _ _ 22 rfl Bl 32 i0 (.float .f32 0) 1 4 Try.underlying22 hi hz0 hz1 hz2 rfl (by decide) _ _ _ rfl (World.ownsRow.alloc HO1.out _) ⟨wa.heap.size, 0, none⟩ 1 1 [_] rfl rfl (one_new rfl) ?c2 ?c3 ?c4 ?c5 ?_)
    case c2 => intro u hu; simp at hu; subst hu; rfl
    case c3 => have := HRl.out; unfold maxLen; omega
    case c4 => have := HRl.out; omega
    case c5 => simp; omega
    intro v1 w2 hown hgrow _ hat
    have HP := Lib.hid (pa_push (rs := rs) hown)
    obtain ⟨A2, cp2, rfl, -, -⟩ := HP.out.sl
    have hb2 : Below Bl wa w2 := ((Below.refl Bl wa).alloc (by omega) _).grown hgrow (by simp; omega) (fun j e => (HO1.out.lt j e).1)
    have hs2 := hb2.size
    have hbk2 : w2.heap[bk]? = wa.heap[bk]? := by
      rw [hgrow.block bk (by simp; omega) (fun e => HBk.out e.symm)]
      exact ((Below.refl wa.heap.size wa).alloc (Nat.le_refl _) _).block bk (by omega)
    have hg2 : w2.heap[g]? = wa.heap[g]? := by
      rw [hgrow.block g (by simp; omega) (fun e => HG.out e.symm)]
      exact ((Below.refl wa.heap.size wa).alloc (Nat.le_refl _) _).block g (by omega)
    have hck2 : w2.cell? ⟨bk, 0, none⟩ = some (.slice A rs.length cp) := by rw [World.cell?_of_block (w := wa) hbk2]; exact hck
    have hcf2 : w2.frozen? ⟨bk, 0, none⟩ = false := by rw [World.frozen?_of_block (w := wa) hbk2]; exact hcf
    have hng : (Value.slice A2 (rs ++ [r]).length cp2).ownBlock ≠ some g := fun e => by
      rcases hat with h | h
      · exact HG.out (h ▸ e)
      · rw [h] at e; have := Option.some.inj e; omega
    have hnk : (Value.slice A2 (rs ++ [r]).length cp2).ownBlock ≠ some bk := fun e => by
      rcases hat with h | h
      · exact HBk.out (h ▸ e)
      · rw [h] at e; have := Option.some.inj e; omega
    have hst : Below bk w2 (w2.setCell ⟨bk, 0, none⟩ (.slice A2 (rs ++ [r]).length cp2)) := (Below.refl bk w2).setCell (p := ⟨bk, 0, none⟩) (Nat.le_refl _) (.slice A2 (rs ++ [r]).length cp2)
    have hkeep : ∀ b, b < bs + 1 → ∀ o, (w2.setCell ⟨bk, 0, none⟩ (.slice A2 (rs ++ [r]).length cp2)).cell? ⟨b, o, none⟩ = wa.cell? ⟨b, o, none⟩ := fun b hb o => by
      rw [hst.cell (p := ⟨b, o, none⟩) (by show b < bk; omega), hb2.cell (p := ⟨b, o, none⟩) (by show b < Bl; omega)]
    have HI := Lib.hid (show DsI 32 bs bk bt bm bw g Bl ks a' n' cap' ts m wd s (k + 1) (w2.setCell ⟨bk, 0, none⟩ (.slice A2 (rs ++ [r]).length cp2)) from
      ⟨⟨.slice A2 (rs ++ [r]).length cp2, rs ++ [r], World.cell?_setCell_same' _ _ _ (by rw [hck2]; rfl), by rw [World.frozen?_setCell]; exact hcf2, HP.out.setO hnk 0 _, HNx.out.1, hng, hnk⟩,
        (HT1.out.keep (B := Bl) (by omega) hb2).keep (B := bk) (by omega) hst, by rw [hkeep bm (by omega)]; exact hcm, by rw [hkeep bw (by omega)]; exact hcw, by rw [hkeep bs (by omega), HQ.out, hq4]; exact hcq,
        by rw [World.frozen?_setCell, hb2.frozen (p := ⟨bs, 0, none⟩) (by show bs < Bl; omega)]; exact hcg⟩)
    have HBF := Lib.hid ((HB1.out.trans (hb2.mono (show B0 ≤ Bl by omega))).setCell (p := ⟨bk, 0, none⟩) (show B0 ≤ bk by omega) (.slice A2 (rs ++ [r]).length cp2))
    have HGF := Lib.hid (show (w2.setCell ⟨bk, 0, none⟩ (.slice A2 (rs ++ [r]).length cp2)).heap[g]? = wr.heap[g]? by rw [Below.heap_setCell w2 ⟨bk, 0, none⟩ (.slice A2 (rs ++ [r]).length cp2) g (show g ≠ bk by omega), hg2, HG1.out])
    rw [show (rs ++ [r]).length = rs.length + 1 from by simp] at HI HBF HGF
    clear hown hgrow hat hb2 hbk2 hg2 hng hnk HP HO1 HT1 HG1 HB1 hck hcf hcm hcw hcq hcg hst hkeep
    go_wp2_with fail
    go_ret
    exact ⟨r, rfl, HNx.out.2, HI.out, HBF.out, HGF.out⟩
end Go.Proofs.Ytldaamgohdnjnaa

/-
  DrawnSeries plainly; its rest in the model.
-/
namespace Go.Proofs.Ytldaamgohdnjnaa
open Ieee Go.RowKit
set_option linter.unusedVariables false
set_option linter.unusedSimpArgs false

theorem dsK_tells (ks ts : List Nat) (m wd s : Nat) : ∀ k, dsK ks ts m wd s k = cnl ks ++ tells (dsV ks ts m wd s) k
  | 0 => by rw [dsK]; simp [tells]
  | k + 1 => by rw [dsK_succ, dsK_tells ks ts m wd s k, tells_succ, List.append_assoc]
/-- The model's next number: its list lies behind as many means as there are terms. -/
theorem ds_model {ts rs : List Nat} {n' m wd s k r : Nat} (h : cnl rs = tells (dsV (List.replicate n' m) ts m wd s) k) (hr : cn .f32 r = dsW (List.replicate n' m ++ rs) ts m wd (nxs s (4 * k))) :
    cn .f32 r = dsV (List.replicate n' m) ts m wd s k ∧ cnl (rs ++ [r]) = tells (dsV (List.replicate n' m) ts m wd s) (k + 1) := by
  have e : cnl (List.replicate n' m ++ rs) = dsK (List.replicate n' m) ts m wd s k := by
    rw [dsK_tells, ← h]; unfold cnl; rw [List.map_append]
  have h2 := (dsK_next e hr).2
  refine ⟨h2, ?_⟩
  rw [tells_succ, ← h]
  unfold cnl
  rw [List.map_append]
  simp [h2]
/-- What both give. -/
def dsB (ts : List Nat) (m wd : Nat) (s N : Int) : Bool := paTm ts && (fin .f32 m && (fin .f32 wd && (decide (0 ≤ s ∧ s ≤ 4294967295) && decide (1 ≤ N ∧ N ≤ 96))))
def dsL (ts : List Nat) (m wd : Nat) (s N : Int) : List Nat := tells (dsV (List.replicate ts.length m) ts m wd s.toNat) N.toNat
def dsOk (ts : List Nat) (m wd : Nat) (s N : Int) : Bool := dsB ts m wd s N && fins (dsL ts m wd s N)
def dsX (ts : List Nat) (m wd : Nat) (s N : Int) : List Nat := if dsOk ts m wd s N then dsL ts m wd s N else []
def dsS (ts : List Nat) (m wd : Nat) (s N : Int) : Int := if dsOk ts m wd s N then (nxs s.toNat (4 * N.toNat) : Nat) else 0
theorem dsX_len (ts : List Nat) (m wd : Nat) (s N : Int) : (dsX ts m wd s N).length ≤ 1048576 := by
  unfold dsX
  split
  · rename_i h
    unfold dsOk dsB at h
    simp only [Bool.and_eq_true, decide_eq_true_eq] at h
    unfold dsL
    rw [tells_len]; omega
  · simp
end Go.Proofs.Ytldaamgohdnjnaa

/-
  DrawnSeries of the model.
-/
namespace Go.Proofs.Ytldaamgohdnjnaa
open Ieee Go.RowKit
set_option linter.unusedVariables false

def nxF (s k : Nat) : Nat := nxs s (4 * k)
def nx4 (s : Nat) : Nat := nxs s 4
theorem nxF_zero (s : Nat) : nxF s 0 = s := rfl
theorem nxF_succ (s k : Nat) : nxF s (k + 1) = nx4 (nxF s k) := nxs_add s (4 * k) 4
theorem nxF_lt {s : Nat} (hs : s < 4294967296) (k : Nat) : nxF s k < 4294967296 := nxs_lt hs _
/-- A list, a whole number and a bool. -/
def RetDS (T : TypeId) (X : List Nat) (S : Int) (ok : Bool) (w : World) (e : Ending) (w' : World) : Prop :=
  ∃ v r, e = .returned (.tuple #[v, .int .i64 S, .bool ok]) ∧ FOwn T w.heap.size w' v r ∧ cnl r = X ∧ Below w.heap.size w w'
theorem ds_bad {ts : List Nat} {m wd : Nat} {s N : Int} (h : dsOk ts m wd s N = false) : dsX ts m wd s N = [] ∧ dsS ts m wd s N = 0 ∧ dsOk ts m wd s N = false := ⟨by unfold dsX; rw [h]; rfl, by unfold dsS; rw [h]; rfl, h⟩
theorem ds_badB {ts : List Nat} {m wd : Nat} {s N : Int} (h : dsB ts m wd s N = false) : dsOk ts m wd s N = false := by unfold dsOk; rw [h]; rfl
theorem fail_ds (T : TypeId) {X : List Nat} {S : Int} {ok : Bool} (h : X = [] ∧ S = 0 ∧ ok = false) {w w' : World} (hb : Below w.heap.size w w') : RetDS T X S ok w (.returned (.tuple #[.slice none 0 0, .int .i64 0, .bool false])) w' :=
  ⟨_, [], by rw [h.2.1, h.2.2], FOwn.nil .., h.1.symm, hb⟩
set_option maxHeartbeats 2000000 in
set_option maxRecDepth 100000 in
theorem spDrw_any (a : Option Addr) (n cap : Nat) (ts : List Nat) (m wd : Nat) (s N : Int) (w : World) (h : FSl w a n ts) (hm : n ≤ 1048576) :
    Calls Try.prog 24 #[.slice a n cap, .float .f32 m, .float .f32 wd, .int .i64 s, .int .i64 N] w (RetDS 32 (dsX ts m wd s N) (dsS ts m wd s N) (dsOk ts m wd s N) w) := by
  obtain ⟨i0, hi, hz0, hz1, hz2⟩ := info_parts Try.infoR
  have H := Lib.hid h
  have HL := Lib.hid h.1
  clear h
  cases e1 : paTm ts
  · have F1 := Lib.hid e1
    have HB := Lib.hid (ds_bad (ds_badB (show dsB ts m wd s N = false by unfold dsB; rw [F1.out]; rfl)))
    go_enter Try.func24, Try.ntmps24
    go_wp2_with fail
    refine (spTerms_any _ _ _ _ _ H.out hm).mono ?_
    rw [F1.out]
    rintro e w1 ⟨q1, rfl, rfl⟩
    go_wp2_with fail
    go_ret3
    exact fail_ds _ HB.out (below_drewN (Below.refl _ _) _)
  · have F1 := Lib.hid e1
    clear e1
    cases e2 : fin .f32 m
    · have F2 := Lib.hid e2
      clear e2
      have HB := Lib.hid (ds_bad (ds_badB (show dsB ts m wd s N = false by unfold dsB; rw [F2.out]; simp)))
      go_enter Try.func24, Try.ntmps24
      go_wp2_with fail
      refine (spTerms_any _ _ _ _ _ H.out hm).mono ?_
      rw [F1.out]
      rintro e w1 ⟨q1, rfl, rfl⟩
      go_wp2_with fail
      refine (l01Finite_any _ _).mono ?_
      rw [F2.out]
      rintro e w2 ⟨q2, rfl, rfl⟩
      go_wp2_with fail
      go_ret3
      exact fail_ds _ HB.out (below_drewN (Below.refl _ _) _)
    · have F2 := Lib.hid e2
      clear e2
      cases e3 : fin .f32 wd
      · have F3 := Lib.hid e3
        clear e3
        have HB := Lib.hid (ds_bad (ds_badB (show dsB ts m wd s N = false by unfold dsB; rw [F3.out]; simp)))
        go_enter Try.func24, Try.ntmps24
        go_wp2_with fail
        refine (spTerms_any _ _ _ _ _ H.out hm).mono ?_
        rw [F1.out]
        rintro e w1 ⟨q1, rfl, rfl⟩
        go_wp2_with fail
        refine (l01Finite_any _ _).mono ?_
        rw [F2.out]
        rintro e w2 ⟨q2, rfl, rfl⟩
        go_wp2_with fail
        refine (l01Finite_any _ _).mono ?_
        rw [F3.out]
        rintro e w3 ⟨q3, rfl, rfl⟩
        go_wp2_with fail
        go_ret3
        exact fail_ds _ HB.out (below_drewN (Below.refl _ _) _)
      · have F3 := Lib.hid e3
        clear e3
        by_cases h4 : 0 ≤ s ∧ s ≤ 4294967295
        · by_cases h5 : 1 ≤ N ∧ N ≤ 96
          · obtain ⟨s, rfl⟩ : ∃ q : Nat, s = q := ⟨s.toNat, by omega⟩
            obtain ⟨N, rfl⟩ : ∃ q : Nat, N = q := ⟨N.toNat, by omega⟩
            have hs32 : s < 4294967296 := by omega
            have hN1 : N ≤ 96 := by omega
            have HB := Lib.hid (show dsB ts m wd (s : Int) (N : Int) = true by unfold dsB; rw [F1.out, F2.out, F3.out, decide_eq_true h4, decide_eq_true h5]; rfl)
            have HO := Lib.hid (show dsOk ts m wd (s : Int) (N : Int) = fins (tells (dsV (List.replicate n m) ts m wd s) N) by unfold dsOk dsL; rw [HB.out, HL.out]; rfl)
            have hn6 : n ≤ 6 := by
              have h6 := F1.out
              unfold paTm at h6
              have h7 := of_decide_eq_true (Bool.and_eq_true _ _ ▸ h6).1
              rw [HL.out] at h7
              exact h7
            have HF0 := Lib.hid (fun q : Nat => FOwn.made (T := 32) (B := w.heap.size) (w.drewN q) (Nat.le_refl _))
            have HB0 := Lib.hid (fun q : Nat => (below_drewN (Below.refl w.heap.size w) q).alloc (Nat.le_refl _) (.cells #[] 32))
            go_enter Try.func24, Try.ntmps24
            go_wp2_with fail
            refine (spTerms_any _ _ _ _ _ H.out hm).mono ?_
            rw [F1.out]
            rintro e w1 ⟨q1, rfl, rfl⟩
            go_wp2_with fail
            refine (l01Finite_any _ _).mono ?_
            rw [F2.out]
            rintro e w2 ⟨q2, rfl, rfl⟩
            go_wp2_with fail
            refine (l01Finite_any _ _).mono ?_
            rw [F3.out]
            rintro e w3 ⟨q3, rfl, rfl⟩
            go_wp2_with fail
            refine (in_yes _ _ _ _ h4.1 h4.2).mono ?_
            rintro e w4 ⟨rfl, rfl⟩
            go_wp2_with fail
            refine (in_yes _ _ _ _ h5.1 h5.2).mono ?_
            rintro e w5 ⟨rfl, rfl⟩
            have HF1 := Lib.hid (HF0.out (q1 + q2 + q3))
            have HB1 := Lib.hid (HB0.out (q1 + q2 + q3))
            clear HF0 HB0
            have hD0 := Lib.hid (show cnl ([] : List Nat) = tells (dsV (List.replicate n m) ts m wd s) 0 from rfl)
            go_wp2
            go_loopw [3, 13, 14] (fun sd v i wr => ∃ (k : Nat) (rs : List Nat), k ≤ N ∧ i = .int .i64 k ∧ sd = .int .i64 (nxF s k : Nat) ∧ Hid (rs.length = k) ∧ Hid (FOwn 32 w.heap.size wr v rs) ∧ Hid (cnl rs = tells (dsV (List.replicate n m) ts m wd s) k) ∧ Hid (Below w.heap.size w wr)) (fun _ _ i _ => N - (intOf i).toNat)
            case atStart => exact ⟨0, [], Nat.zero_le _, rfl, rfl, Lib.hid rfl, HF1, hD0, HB1⟩
            case round =>
              rename World => wr
              obtain ⟨k, rs, hk, rfl, rfl, hl, ho, hc, hb⟩ := hrel
              by_cases hlt : k < N
              · have hq0 := nxF_lt hs32 k
                have HQ := Lib.hid (nxF_succ s k)
                have HM := Lib.hid (fun r (hr : cn .f32 r = dsW (List.replicate n m ++ rs) ts m wd (nxF s k)) => ds_model hc.out hr)
                have HLr := Lib.hid hl.out
                have HOr := Lib.hid ho.out
                have HBr := Lib.hid hb.out
                have hks : rs.length ≤ 96 := by have := hl.out; omega
                obtain ⟨A, cp, rfl, hsl, _⟩ := ho.out.sl
                have HSl := Lib.hid hsl
                have HTs := Lib.hid (FSl.below H.out hb.out)
                have hwr := hb.out.size
                have hkl := hl.out
                subst hkl
                generalize nxF s rs.length = q0 at *
                clear hl ho hc hb hsl
                go_wp2_with fail
                go_loopw [3, 15, 16] (fun sd sm j wx => ∃ (i r q : Nat), i ≤ 4 ∧ j = .int .i64 i ∧ sd = .int .i64 (nxs q0 i : Nat) ∧ sm = .float .f32 r ∧ wx = wr.drewN q ∧ Hid (cn .f32 r = sumT (drT q0) i)) (fun _ _ j _ => 4 - (intOf j).toNat)
                case atStart => exact ⟨0, 0, 0, by omega, rfl, rfl, rfl, rfl, Lib.hid cn_zero⟩
                case round =>
                  obtain ⟨i, r, q, hi4, rfl, rfl, rfl, rfl, hr⟩ := hrel
                  by_cases hi3 : i < 4
                  · have hz := nxs_lt hq0 i
                    have HZ := Lib.hid (nxs_succ q0 i)
                    have HNi := Lib.hid (nx_int (nxs q0 i))
                    have HT := Lib.hid (fun W1 W2 W3 => sum_step (tell := drT q0) (k := i) (r := fopR .sub .f32 (fopR .quo .f32 (floatOfInt .f32 ((nx (nxs q0 i) : Nat) / 256 : Int)) 1266679808 W1) 1056964608 W2) hr.out (by rw [dr_sp]; unfold drT; rw [nxs_succ]) W3)
                    generalize nxs q0 i = z at *
                    have hzz := nx_lt z
                    generalize nx z = z2 at *
                    have hA : IntKind.i64.wrap (1664525 * (z : Int)) = 1664525 * (z : Int) := by rw [IntKind.wrap_i64]; omega
                    have hB : IntKind.i64.wrap (1664525 * (z : Int) + 1013904223) = 1664525 * (z : Int) + 1013904223 := by rw [IntKind.wrap_i64]; omega
                    have hC : (1664525 * (z : Int) + 1013904223).tmod 4294967296 = (z2 : Int) := by rw [Int.tmod_eq_emod_of_nonneg (by omega)]; exact HNi.out
                    have hD : IntKind.i64.wrap (z2 : Int) = (z2 : Int) := by have := HNi.out; rw [IntKind.wrap_i64]; omega
                    have hd4 : decide ((i : Int) < 4) = true := decide_eq_true (by omega)
                    have hi5 : (i : Int) < 4 := by omega
                    have Hi := Lib.hid hi3
                    clear hr h4 h5 hN1 hn6 hwr hks hq0 hs32 hm hlt hk hz hi3 hi4
                    go_wp2
                    go_roundw
                    case rel => exact ⟨i + 1, _, _, by have := Hi.out; omega, by go_num, by rw [HZ.out], rfl, rfl, Lib.hid (HT.out _ _ _)⟩
                    case measure => have := Hi.out; simp [intOf]; omega
                  · have e4 : i = 4 := by omega
                    have HX := Lib.hid (show cn .f32 r = drR q0 from by rw [hr.out, e4]; rfl)
                    obtain ⟨q4, hq4⟩ : ∃ q4, nxs q0 i = q4 := ⟨_, rfl⟩
                    have HQ4 := Lib.hid (show nx4 q0 = q4 from by unfold nx4; rw [← e4]; exact hq4)
                    rw [hq4]
                    have hd4 : decide ((i : Int) < 4) = false := decide_eq_false (by omega)
                    have hi5 : ¬ (i : Int) < 4 := by omega
                    clear hr hq4 e4 hi3 hi4 hq0 h4 h5
                    go_wp2_with fail
                    refine (spToldM_any _ _ _ rs _ _ _ ts m _ (FSl.drewN HSl.out _) (FSl.drewN HTs.out _) (by omega) (by omega)).mono ?_
                    rintro e wy ⟨y, qy, hy, rfl, rfl⟩
                    have HW := Lib.hid (fun W1 W2 => ds_word (wd := wd) HX.out hy W1 W2)
                    clear hy hd4 hi5
                    go_wp2_with (at_builtin; (have HRr := Lib.hid (HW.out (wr.drewN (q + qy)) (wr.drewN (q + qy + fopN .mul .f32 wd r)))); generalize fopR .add .f32 y (fopR .mul .f32 wd r (wr.drewN (q + qy))) (wr.drewN (q + qy + fopN .mul .f32 wd r)) = r2 at *; generalize q + qy + fopN _ _ _ _ + fopN _ _ _ _ = qq; refine wpList_append_lies _ rfl _ _ 22 rfl (w.heap.size) 32 i0 (.float .f32 0) 1 4 Try.underlying22 hi hz0 hz1 hz2 rfl (by decide) _ _ _ rfl (World.ownsRow.alloc (FOwn.drewN HOr.out qq) _) ⟨wr.heap.size, 0, none⟩ 1 1 [_] rfl rfl (one_new rfl) ?c2 (by decide) ?c3 ?c4 ?c5 _ rfl ?_)
                    case c2 => first | rfl | (intro u hu; simp at hu; subst hu; rfl)
                    case c3 => unfold maxLen; omega
                    case c4 => omega
                    case c5 => first | omega | (simp; omega)
                    intro ga ca w2 hown hgrow hat hglt
                    have R := FOwn.push HOr.out (Below.refl _ _) hwr hown hgrow
                    have Ha2 := Lib.hid R.1
                    have HB2 := Lib.hid (HBr.out.trans R.2)
                    have HM2 := Lib.hid (HM.out _ HRr.out)
                    clear R hown hgrow hat hglt
                    go_wp2
                    go_roundw
                    case rel => exact ⟨rs.length + 1, _, by omega, by go_num, by rw [HQ.out, HQ4.out], Lib.hid (by simp), Ha2, Lib.hid HM2.out.2, HB2⟩
                    case measure => simp [intOf]; omega
              · obtain rfl : k = N := by omega
                obtain ⟨A, cp, rfl, hsl, _⟩ := ho.out.sl
                have HSl := Lib.hid hsl
                have HFn := Lib.hid (show fins rs = dsOk ts m wd (s : Int) (k : Int) from by rw [HO.out, ← hc.out, fins_cnl])
                have HC := Lib.hid (show cnl rs = dsL ts m wd (s : Int) (k : Int) from by unfold dsL; rw [HL.out]; exact hc.out)
                have hks : rs.length ≤ 1048576 := by have := hl.out; omega
                have HOr := Lib.hid ho.out
                have HBr := Lib.hid hb.out
                clear hl ho hc hb hsl
                go_wp2_with fail
                refine (specFinite_any _ _ _ _ _ HSl.out hks).mono ?_
                rw [HFn.out]
                rintro e w6 ⟨q6, rfl, rfl⟩
                cases hk9 : dsOk ts m wd (s : Int) (k : Int)
                · have HBb := Lib.hid (ds_bad hk9)
                  clear hk9
                  go_wp2_with fail
                  go_ret3
                  exact fail_ds _ HBb.out (below_drewN HBr.out _)
                · have HXx := Lib.hid (show dsX ts m wd (s : Int) (k : Int) = dsL ts m wd (s : Int) (k : Int) by unfold dsX; rw [hk9]; rfl)
                  have HSs := Lib.hid (show dsS ts m wd (s : Int) (k : Int) = (nxs s (4 * k) : Nat) by unfold dsS; rw [hk9]; rfl)
                  have HOk := Lib.hid hk9
                  clear hk9
                  go_wp2_with fail
                  go_ret3
                  exact ⟨_, rs, by rw [HSs.out, HOk.out]; rfl, FOwn.drewN HOr.out _, HC.out.trans HXx.out.symm, below_drewN HBr.out _⟩
          · have HB := Lib.hid (ds_bad (ds_badB (show dsB ts m wd s N = false by unfold dsB; rw [F1.out, F2.out, F3.out, decide_eq_true h4, decide_eq_false h5]; rfl)))
            go_enter Try.func24, Try.ntmps24
            go_wp2_with fail
            refine (spTerms_any _ _ _ _ _ H.out hm).mono ?_
            rw [F1.out]
            rintro e w1 ⟨q1, rfl, rfl⟩
            go_wp2_with fail
            refine (l01Finite_any _ _).mono ?_
            rw [F2.out]
            rintro e w2 ⟨q2, rfl, rfl⟩
            go_wp2_with fail
            refine (l01Finite_any _ _).mono ?_
            rw [F3.out]
            rintro e w3 ⟨q3, rfl, rfl⟩
            go_wp2_with fail
            refine (in_yes _ _ _ _ h4.1 h4.2).mono ?_
            rintro e w4 ⟨rfl, rfl⟩
            go_wp2_with fail
            refine (in_no _ _ _ _ (by omega)).mono ?_
            rintro e w5 ⟨rfl, rfl⟩
            go_wp2_with fail
            go_ret3
            exact fail_ds _ HB.out (below_drewN (Below.refl _ _) _)
        · have HB := Lib.hid (ds_bad (ds_badB (show dsB ts m wd s N = false by unfold dsB; rw [F1.out, F2.out, F3.out, decide_eq_false h4]; rfl)))
          go_enter Try.func24, Try.ntmps24
          go_wp2_with fail
          refine (spTerms_any _ _ _ _ _ H.out hm).mono ?_
          rw [F1.out]
          rintro e w1 ⟨q1, rfl, rfl⟩
          go_wp2_with fail
          refine (l01Finite_any _ _).mono ?_
          rw [F2.out]
          rintro e w2 ⟨q2, rfl, rfl⟩
          go_wp2_with fail
          refine (l01Finite_any _ _).mono ?_
          rw [F3.out]
          rintro e w3 ⟨q3, rfl, rfl⟩
          go_wp2_with fail
          refine (in_no _ _ _ _ (by omega)).mono ?_
          rintro e w4 ⟨rfl, rfl⟩
          go_wp2_with fail
          go_ret3
          exact fail_ds _ HB.out (below_drewN (Below.refl _ _) _)
end Go.Proofs.Ytldaamgohdnjnaa

/-
  DrawnSeries of the program.
-/
namespace Go.Proofs.Ytldaamgohdnjnaa
open Ieee Go.RowKit
set_option linter.unusedVariables false
set_option linter.unusedSimpArgs false

theorem seed_any (n : Int) (w : World) : Calls Try.prog 76 #[.int .i64 n] w fun e w' => e = .returned (.bool (decide (0 ≤ n ∧ n ≤ 4294967295))) ∧ w = w' := by
  by_cases h1 : 0 ≤ n
  · by_cases h2 : n < 4294967296
    · have d1 : decide ((0 : Int) ≤ n) = true := decide_eq_true h1
      have d2 : decide (n < (4294967296 : Int)) = true := decide_eq_true h2
      have HB := Lib.hid (decide_eq_true (show 0 ≤ n ∧ n ≤ 4294967295 from ⟨h1, by omega⟩))
      go_enter Try.func76, Try.ntmps76
      go_wp2
      go_ret
      exact ⟨by first | rfl | (rw [HB.out]; rfl) | (rw [decide_eq_false (show ¬ n ≤ 4294967295 by omega)]; rfl) | (rw [decide_eq_true (show n ≤ 4294967295 by omega)]; rfl), rfl⟩
    · have d1 : decide ((0 : Int) ≤ n) = true := decide_eq_true h1
      have d2 : decide (n < (4294967296 : Int)) = false := decide_eq_false h2
      have HB := Lib.hid (decide_eq_false (show ¬ (0 ≤ n ∧ n ≤ 4294967295) from fun h => by omega))
      go_enter Try.func76, Try.ntmps76
      go_wp2
      go_ret
      exact ⟨by first | rfl | (rw [HB.out]; rfl) | (rw [decide_eq_false (show ¬ n ≤ 4294967295 by omega)]; rfl) | (rw [decide_eq_true (show n ≤ 4294967295 by omega)]; rfl), rfl⟩
  · have d1 : decide ((0 : Int) ≤ n) = false := decide_eq_false h1
    have HB := Lib.hid (decide_eq_false (show ¬ (0 ≤ n ∧ n ≤ 4294967295) from fun h => h1 h.1))
    go_enter Try.func76, Try.ntmps76
    go_wp2
    go_ret
    exact ⟨by first | rfl | (rw [HB.out]; rfl) | (rw [decide_eq_false (show ¬ n ≤ 4294967295 by omega)]; rfl) | (rw [decide_eq_true (show n ≤ 4294967295 by omega)]; rfl), rfl⟩
theorem fsl1 (w : World) (x : Nat) (t : TypeId) : FSl (w.alloc (.cells #[.float .f32 x] t)) (some ⟨w.heap.size, 0, none⟩) 1 [x] := by
  refine ⟨rfl, .inr ⟨w.heap.size, 0, rfl, by simp, fun i hi => ?_⟩⟩
  rw [World.cell?_alloc_at _ _ _ _ rfl]
  match i, hi with
  | 0, _ => rfl
theorem fsl2 (w : World) (x y : Nat) (t : TypeId) : FSl (w.alloc (.cells #[.float .f32 x, .float .f32 y] t)) (some ⟨w.heap.size, 0, none⟩) 2 [x, y] := by
  refine ⟨rfl, .inr ⟨w.heap.size, 0, rfl, by simp, fun i hi => ?_⟩⟩
  rw [World.cell?_alloc_at _ _ _ _ rfl]
  match i, hi with
  | 0, _ => rfl
  | 1, _ => rfl
theorem fins2e (m wd : Nat) : fins [m, wd] = (fin .f32 m && fin .f32 wd) := by unfold fins; simp
set_option maxHeartbeats 4000000 in
set_option maxRecDepth 100000 in
theorem imDrw_any (a : Option Addr) (n cap : Nat) (ts : List Nat) (m wd : Nat) (s N : Int) (w : World) (h : FSl w a n ts) (hm : n ≤ 1048576) :
    Calls Try.prog 25 #[.slice a n cap, .float .f32 m, .float .f32 wd, .int .i64 s, .int .i64 N] w (RetDS 32 (dsX ts m wd s N) (dsS ts m wd s N) (dsOk ts m wd s N) w) := by
  have hmf : ∀ (fn : Fn) (first cap : Array Value) (w : World), (Instr.makeFunc fn first cap).run Try.prog w = .ok (.func fn first cap) w := fun _ _ _ _ => rfl
  obtain ⟨W0, hW0⟩ : ∃ W0, (((w.alloc (.cells #[.slice a n cap] 22)).alloc (.cells #[.float .f32 m] 32)).alloc (.cells #[.float .f32 wd] 32)).alloc (.cells #[.int .i64 s] 2) = W0 := ⟨_, rfl⟩
  have b1 := (Below.refl w.heap.size w).alloc (Nat.le_refl _) (.cells #[.slice a n cap] 22)
  have b2 := b1.alloc (by simp) (.cells #[.float .f32 m] 32)
  have b3 := b2.alloc (by simp <;> omega) (.cells #[.float .f32 wd] 32)
  have b4 := b3.alloc (by simp <;> omega) (.cells #[.int .i64 s] 2)
  have hb0 : Below w.heap.size w W0 := by rw [← hW0]; exact b4
  have hs0 : w.heap.size + 4 ≤ W0.heap.size := by rw [← hW0]; simp
  have c0 : W0.cell? ⟨w.heap.size, 0, none⟩ = some (.slice a n cap) := by
    rw [← hW0, World.cell?_alloc_past _ _ _ (by simp <;> omega), World.cell?_alloc_past _ _ _ (by simp <;> omega), World.cell?_alloc_past _ _ _ (by simp), World.cell?_alloc_at _ _ _ _ rfl]; rfl
  have c1 : W0.cell? ⟨w.heap.size + 1, 0, none⟩ = some (.float .f32 m) := by
    rw [← hW0, World.cell?_alloc_past _ _ _ (by simp <;> omega), World.cell?_alloc_past _ _ _ (by simp), World.cell?_alloc_at _ _ _ _ (by simp)]; rfl
  have c2 : W0.cell? ⟨w.heap.size + 1 + 1, 0, none⟩ = some (.float .f32 wd) := by
    rw [← hW0, World.cell?_alloc_past _ _ _ (by simp), World.cell?_alloc_at _ _ _ _ (by simp)]; rfl
  have c3 : W0.cell? ⟨w.heap.size + 1 + 1 + 1, 0, none⟩ = some (.int .i64 s) := by
    rw [← hW0, World.cell?_alloc_at _ _ _ _ (by simp)]; rfl
  have f3 : W0.frozen? ⟨w.heap.size + 1 + 1 + 1, 0, none⟩ = false := by
    rw [← hW0]; exact World.frozen?_alloc_at _ _ _ _ (by simp)
  have HTs := Lib.hid (FSl.below h hb0)
  have HL := Lib.hid h.1
  have HB0 := Lib.hid hb0
  have HS0 := Lib.hid hs0
  have HBI := Lib.hid (show BoxI w.heap.size a n cap ts W0 from (BoxI.start (cap := cap) (t := 22) h).keep (B := w.heap.size + 1) (by omega) (by rw [← hW0]; exact (((Below.refl (w.heap.size + 1) _).alloc (by simp) _).alloc (by simp <;> omega) _).alloc (by simp <;> omega) _))
  have HF2 := Lib.hid (fun q : Nat => (fsl2 (W0.drewN q) m wd 32))
  clear b1 b2 b3 b4 hb0 h
  cases e1 : paTm ts
  · have F1 := Lib.hid e1
    clear e1
    have HB := Lib.hid (ds_bad (ds_badB (show dsB ts m wd s N = false by unfold dsB; rw [F1.out]; rfl)))
    go_enter Try.func25, Try.ntmps25
    go_upto_region 1 with fail
    (try rw [hW0])
    clear hW0
    go_wp2_with fail
    refine (imTerms_any _ _ _ ts _ HTs.out hm).mono ?_
    rw [F1.out]
    rintro e w1 ⟨q1, rfl, rfl⟩
    go_wp2_with fail
    go_ret3
    exact fail_ds _ HB.out (below_drewN HB0.out _)
  have F1 := Lib.hid e1
  clear e1
  cases e2 : fins [m, wd]
  · have F2 := Lib.hid e2
    have hfe : (fin .f32 m && fin .f32 wd) = false := by rw [← fins2e]; exact e2
    clear e2
    have HFe := Lib.hid hfe
    clear hfe
    have HB := Lib.hid (ds_bad (ds_badB (show dsB ts m wd s N = false by unfold dsB; rw [show (fin .f32 m && (fin .f32 wd && (decide (0 ≤ s ∧ s ≤ 4294967295) && decide (1 ≤ N ∧ N ≤ 96)))) = ((fin .f32 m && fin .f32 wd) && (decide (0 ≤ s ∧ s ≤ 4294967295) && decide (1 ≤ N ∧ N ≤ 96))) from (Bool.and_assoc _ _ _).symm, HFe.out]; simp)))
    go_enter Try.func25, Try.ntmps25
    go_upto_region 1 with fail
    (try rw [hW0])
    clear hW0
    go_wp2_with fail
    refine (imTerms_any _ _ _ ts _ HTs.out hm).mono ?_
    rw [F1.out]
    rintro e w1 ⟨q1, rfl, rfl⟩
    go_wp2_with fail
    refine (imFins_any _ _ _ [m, wd] _ (HF2.out q1) (by omega)).mono ?_
    rw [F2.out]
    rintro e W1 ⟨q2, rfl, hw1⟩
    have hb1 : Below W0.heap.size W0 W1 := by rw [← hw1]; exact below_drewN ((below_drewN (Below.refl _ _) q1).alloc (Nat.le_refl _) _) q2
    clear hw1
    have d0 : W1.cell? ⟨w.heap.size, 0, none⟩ = some (.slice a n cap) := by rw [hb1.cell (p := ⟨w.heap.size, 0, none⟩) (by show w.heap.size < _; omega)]; exact c0
    have d1 : W1.cell? ⟨w.heap.size + 1, 0, none⟩ = some (.float .f32 m) := by rw [hb1.cell (p := ⟨w.heap.size + 1, 0, none⟩) (by show w.heap.size + 1 < _; omega)]; exact c1
    have d2 : W1.cell? ⟨w.heap.size + 1 + 1, 0, none⟩ = some (.float .f32 wd) := by rw [hb1.cell (p := ⟨w.heap.size + 1 + 1, 0, none⟩) (by show w.heap.size + 1 + 1 < _; omega)]; exact c2
    have d3 : W1.cell? ⟨w.heap.size + 1 + 1 + 1, 0, none⟩ = some (.int .i64 s) := by rw [hb1.cell (p := ⟨w.heap.size + 1 + 1 + 1, 0, none⟩) (by show w.heap.size + 1 + 1 + 1 < _; omega)]; exact c3
    have g3 : W1.frozen? ⟨w.heap.size + 1 + 1 + 1, 0, none⟩ = false := by rw [hb1.frozen (p := ⟨w.heap.size + 1 + 1 + 1, 0, none⟩) (by show w.heap.size + 1 + 1 + 1 < _; omega)]; exact f3
    have hs1 := hb1.size
    replace hs1 : w.heap.size + 4 ≤ W1.heap.size := by omega
    have HB1 := Lib.hid (HB0.out.trans (hb1.mono HB0.out.size))
    have HBI1 := Lib.hid (HBI.out.keep (show w.heap.size < W0.heap.size by omega) hb1)
    clear hb1 c0 c1 c2 c3 f3 HB0 HBI hs0
    go_wp2_with fail
    go_ret3
    exact fail_ds _ HB.out HB1.out
  have F2 := Lib.hid e2
  have hfe := Bool.and_eq_true_iff.1 (show (fin .f32 m && fin .f32 wd) = true by rw [← fins2e]; exact e2)
  have F21 := Lib.hid hfe.1
  have F22 := Lib.hid hfe.2
  clear e2 hfe
  by_cases h4 : 0 ≤ s ∧ s ≤ 4294967295
  rotate_left
  · have F4 := Lib.hid (decide_eq_false h4)
    clear h4
    have HB := Lib.hid (ds_bad (ds_badB (show dsB ts m wd s N = false by unfold dsB; rw [F4.out]; simp)))
    go_enter Try.func25, Try.ntmps25
    go_upto_region 1 with fail
    (try rw [hW0])
    clear hW0
    go_wp2_with fail
    refine (imTerms_any _ _ _ ts _ HTs.out hm).mono ?_
    rw [F1.out]
    rintro e w1 ⟨q1, rfl, rfl⟩
    go_wp2_with fail
    refine (imFins_any _ _ _ [m, wd] _ (HF2.out q1) (by omega)).mono ?_
    rw [F2.out]
    rintro e W1 ⟨q2, rfl, hw1⟩
    have hb1 : Below W0.heap.size W0 W1 := by rw [← hw1]; exact below_drewN ((below_drewN (Below.refl _ _) q1).alloc (Nat.le_refl _) _) q2
    clear hw1
    have d0 : W1.cell? ⟨w.heap.size, 0, none⟩ = some (.slice a n cap) := by rw [hb1.cell (p := ⟨w.heap.size, 0, none⟩) (by show w.heap.size < _; omega)]; exact c0
    have d1 : W1.cell? ⟨w.heap.size + 1, 0, none⟩ = some (.float .f32 m) := by rw [hb1.cell (p := ⟨w.heap.size + 1, 0, none⟩) (by show w.heap.size + 1 < _; omega)]; exact c1
    have d2 : W1.cell? ⟨w.heap.size + 1 + 1, 0, none⟩ = some (.float .f32 wd) := by rw [hb1.cell (p := ⟨w.heap.size + 1 + 1, 0, none⟩) (by show w.heap.size + 1 + 1 < _; omega)]; exact c2
    have d3 : W1.cell? ⟨w.heap.size + 1 + 1 + 1, 0, none⟩ = some (.int .i64 s) := by rw [hb1.cell (p := ⟨w.heap.size + 1 + 1 + 1, 0, none⟩) (by show w.heap.size + 1 + 1 + 1 < _; omega)]; exact c3
    have g3 : W1.frozen? ⟨w.heap.size + 1 + 1 + 1, 0, none⟩ = false := by rw [hb1.frozen (p := ⟨w.heap.size + 1 + 1 + 1, 0, none⟩) (by show w.heap.size + 1 + 1 + 1 < _; omega)]; exact f3
    have hs1 := hb1.size
    replace hs1 : w.heap.size + 4 ≤ W1.heap.size := by omega
    have HB1 := Lib.hid (HB0.out.trans (hb1.mono HB0.out.size))
    have HBI1 := Lib.hid (HBI.out.keep (show w.heap.size < W0.heap.size by omega) hb1)
    clear hb1 c0 c1 c2 c3 f3 HB0 HBI hs0
    go_wp2_with fail
    refine (seed_any s _).mono ?_
    rw [F4.out]
    rintro e w3 ⟨rfl, rfl⟩
    go_wp2_with fail
    go_ret3
    exact fail_ds _ HB.out HB1.out
  have F4 := Lib.hid (decide_eq_true h4)
  by_cases h5 : 1 ≤ N ∧ N ≤ 96
  rotate_left
  · by_cases h6 : N < 1
    · have hd1 : decide (N < 1) = true := decide_eq_true h6
      have F5 := Lib.hid (decide_eq_false h5)
      clear h5 h4
      have HB := Lib.hid (ds_bad (ds_badB (show dsB ts m wd s N = false by unfold dsB; rw [F5.out]; simp)))
      go_enter Try.func25, Try.ntmps25
      go_upto_region 1 with fail
      (try rw [hW0])
      clear hW0
      go_wp2_with fail
      refine (imTerms_any _ _ _ ts _ HTs.out hm).mono ?_
      rw [F1.out]
      rintro e w1 ⟨q1, rfl, rfl⟩
      go_wp2_with fail
      refine (imFins_any _ _ _ [m, wd] _ (HF2.out q1) (by omega)).mono ?_
      rw [F2.out]
      rintro e W1 ⟨q2, rfl, hw1⟩
      have hb1 : Below W0.heap.size W0 W1 := by rw [← hw1]; exact below_drewN ((below_drewN (Below.refl _ _) q1).alloc (Nat.le_refl _) _) q2
      clear hw1
      have d0 : W1.cell? ⟨w.heap.size, 0, none⟩ = some (.slice a n cap) := by rw [hb1.cell (p := ⟨w.heap.size, 0, none⟩) (by show w.heap.size < _; omega)]; exact c0
      have d1 : W1.cell? ⟨w.heap.size + 1, 0, none⟩ = some (.float .f32 m) := by rw [hb1.cell (p := ⟨w.heap.size + 1, 0, none⟩) (by show w.heap.size + 1 < _; omega)]; exact c1
      have d2 : W1.cell? ⟨w.heap.size + 1 + 1, 0, none⟩ = some (.float .f32 wd) := by rw [hb1.cell (p := ⟨w.heap.size + 1 + 1, 0, none⟩) (by show w.heap.size + 1 + 1 < _; omega)]; exact c2
      have d3 : W1.cell? ⟨w.heap.size + 1 + 1 + 1, 0, none⟩ = some (.int .i64 s) := by rw [hb1.cell (p := ⟨w.heap.size + 1 + 1 + 1, 0, none⟩) (by show w.heap.size + 1 + 1 + 1 < _; omega)]; exact c3
      have g3 : W1.frozen? ⟨w.heap.size + 1 + 1 + 1, 0, none⟩ = false := by rw [hb1.frozen (p := ⟨w.heap.size + 1 + 1 + 1, 0, none⟩) (by show w.heap.size + 1 + 1 + 1 < _; omega)]; exact f3
      have hs1 := hb1.size
      replace hs1 : w.heap.size + 4 ≤ W1.heap.size := by omega
      have HB1 := Lib.hid (HB0.out.trans (hb1.mono HB0.out.size))
      have HBI1 := Lib.hid (HBI.out.keep (show w.heap.size < W0.heap.size by omega) hb1)
      clear hb1 c0 c1 c2 c3 f3 HB0 HBI hs0
      go_wp2_with fail
      refine (seed_any s _).mono ?_
      rw [F4.out]
      rintro e w3 ⟨rfl, rfl⟩
      go_wp2_with fail
      go_ret3
      exact fail_ds _ HB.out HB1.out
    · have hd1 : decide (N < 1) = false := decide_eq_false h6
      have hd2 : decide (96 < N) = true := decide_eq_true (by omega)
      have hd3 : (96 : Int) < N := by omega
      have F5 := Lib.hid (decide_eq_false h5)
      clear h5 h4
      have HB := Lib.hid (ds_bad (ds_badB (show dsB ts m wd s N = false by unfold dsB; rw [F5.out]; simp)))
      go_enter Try.func25, Try.ntmps25
      go_upto_region 1 with fail
      (try rw [hW0])
      clear hW0
      go_wp2_with fail
      refine (imTerms_any _ _ _ ts _ HTs.out hm).mono ?_
      rw [F1.out]
      rintro e w1 ⟨q1, rfl, rfl⟩
      go_wp2_with fail
      refine (imFins_any _ _ _ [m, wd] _ (HF2.out q1) (by omega)).mono ?_
      rw [F2.out]
      rintro e W1 ⟨q2, rfl, hw1⟩
      have hb1 : Below W0.heap.size W0 W1 := by rw [← hw1]; exact below_drewN ((below_drewN (Below.refl _ _) q1).alloc (Nat.le_refl _) _) q2
      clear hw1
      have d0 : W1.cell? ⟨w.heap.size, 0, none⟩ = some (.slice a n cap) := by rw [hb1.cell (p := ⟨w.heap.size, 0, none⟩) (by show w.heap.size < _; omega)]; exact c0
      have d1 : W1.cell? ⟨w.heap.size + 1, 0, none⟩ = some (.float .f32 m) := by rw [hb1.cell (p := ⟨w.heap.size + 1, 0, none⟩) (by show w.heap.size + 1 < _; omega)]; exact c1
      have d2 : W1.cell? ⟨w.heap.size + 1 + 1, 0, none⟩ = some (.float .f32 wd) := by rw [hb1.cell (p := ⟨w.heap.size + 1 + 1, 0, none⟩) (by show w.heap.size + 1 + 1 < _; omega)]; exact c2
      have d3 : W1.cell? ⟨w.heap.size + 1 + 1 + 1, 0, none⟩ = some (.int .i64 s) := by rw [hb1.cell (p := ⟨w.heap.size + 1 + 1 + 1, 0, none⟩) (by show w.heap.size + 1 + 1 + 1 < _; omega)]; exact c3
      have g3 : W1.frozen? ⟨w.heap.size + 1 + 1 + 1, 0, none⟩ = false := by rw [hb1.frozen (p := ⟨w.heap.size + 1 + 1 + 1, 0, none⟩) (by show w.heap.size + 1 + 1 + 1 < _; omega)]; exact f3
      have hs1 := hb1.size
      replace hs1 : w.heap.size + 4 ≤ W1.heap.size := by omega
      have HB1 := Lib.hid (HB0.out.trans (hb1.mono HB0.out.size))
      have HBI1 := Lib.hid (HBI.out.keep (show w.heap.size < W0.heap.size by omega) hb1)
      clear hb1 c0 c1 c2 c3 f3 HB0 HBI hs0
      go_wp2_with fail
      refine (seed_any s _).mono ?_
      rw [F4.out]
      rintro e w3 ⟨rfl, rfl⟩
      go_wp2_with fail
      go_ret3
      exact fail_ds _ HB.out HB1.out
  obtain ⟨s, rfl⟩ : ∃ q : Nat, s = q := ⟨s.toNat, by omega⟩
  obtain ⟨N, rfl⟩ : ∃ q : Nat, N = q := ⟨N.toNat, by omega⟩
  have Hs32 := Lib.hid (show s < 4294967296 by omega)
  have hN1 : N ≤ 96 := by omega
  have hd1 : decide ((N : Int) < 1) = false := decide_eq_false (by omega)
  have hd2 : decide ((96 : Int) < (N : Int)) = false := decide_eq_false (by omega)
  have hd3 : ¬ (96 : Int) < (N : Int) := by omega
  have hd4 : ¬ (N : Int) < 1 := by omega
  have HB := Lib.hid (show dsB ts m wd (s : Int) (N : Int) = true by unfold dsB; rw [F1.out, F21.out, F22.out, decide_eq_true h4, decide_eq_true h5]; rfl)
  have HO := Lib.hid (show dsOk ts m wd (s : Int) (N : Int) = fins (tells (dsV (List.replicate n m) ts m wd s) N) by unfold dsOk dsL; rw [HB.out, HL.out]; rfl)
  have hn6 : n ≤ 6 := by
    have h6 := F1.out
    unfold paTm at h6
    have h7 := of_decide_eq_true (Bool.and_eq_true _ _ ▸ h6).1
    rw [HL.out] at h7
    exact h7
  have HRow := Lib.hid (fun W : World => fsl1 W m 32)
  clear h4 h5
  go_enter Try.func25, Try.ntmps25
  go_upto_region 1 with fail
  (try rw [hW0])
  clear hW0
  go_wp2_with fail
  refine (imTerms_any _ _ _ ts _ HTs.out hm).mono ?_
  rw [F1.out]
  rintro e w1 ⟨q1, rfl, rfl⟩
  go_wp2_with fail
  refine (imFins_any _ _ _ [m, wd] _ (HF2.out q1) (by omega)).mono ?_
  rw [F2.out]
  rintro e W1 ⟨q2, rfl, hw1⟩
  have hb1 : Below W0.heap.size W0 W1 := by rw [← hw1]; exact below_drewN ((below_drewN (Below.refl _ _) q1).alloc (Nat.le_refl _) _) q2
  clear hw1
  have d0 : W1.cell? ⟨w.heap.size, 0, none⟩ = some (.slice a n cap) := by rw [hb1.cell (p := ⟨w.heap.size, 0, none⟩) (by show w.heap.size < _; omega)]; exact c0
  have d1 : W1.cell? ⟨w.heap.size + 1, 0, none⟩ = some (.float .f32 m) := by rw [hb1.cell (p := ⟨w.heap.size + 1, 0, none⟩) (by show w.heap.size + 1 < _; omega)]; exact c1
  have d2 : W1.cell? ⟨w.heap.size + 1 + 1, 0, none⟩ = some (.float .f32 wd) := by rw [hb1.cell (p := ⟨w.heap.size + 1 + 1, 0, none⟩) (by show w.heap.size + 1 + 1 < _; omega)]; exact c2
  have d3 : W1.cell? ⟨w.heap.size + 1 + 1 + 1, 0, none⟩ = some (.int .i64 s) := by rw [hb1.cell (p := ⟨w.heap.size + 1 + 1 + 1, 0, none⟩) (by show w.heap.size + 1 + 1 + 1 < _; omega)]; exact c3
  have g3 : W1.frozen? ⟨w.heap.size + 1 + 1 + 1, 0, none⟩ = false := by rw [hb1.frozen (p := ⟨w.heap.size + 1 + 1 + 1, 0, none⟩) (by show w.heap.size + 1 + 1 + 1 < _; omega)]; exact f3
  have hs1 := hb1.size
  replace hs1 : w.heap.size + 4 ≤ W1.heap.size := by omega
  have HB1 := Lib.hid (HB0.out.trans (hb1.mono HB0.out.size))
  have HBI1 := Lib.hid (HBI.out.keep (show w.heap.size < W0.heap.size by omega) hb1)
  clear hb1 c0 c1 c2 c3 f3 HB0 HBI hs0
  go_wp2_with fail
  refine (seed_any s _).mono ?_
  rw [F4.out]
  rintro e w3 ⟨rfl, rfl⟩
  clear F1 F2 F21 F22 F4 HTs HF2
  have hlt1 : w.heap.size < W1.heap.size := by omega
  go_wp2_with fail
  refine (repeat_any _ _ _ m n _ (HRow.out W1) (by omega)).mono ?_
  rintro e W3 ⟨v, rfl, ho, bb⟩
  obtain ⟨ks, hks⟩ : ∃ ks, List.replicate n m = ks := ⟨_, rfl⟩
  have HLk := Lib.hid (show ks.length = n by rw [← hks, List.length_replicate])
  have HKs := Lib.hid hks
  rw [hks] at ho
  obtain ⟨A, cp, rfl, -, -⟩ := ho.sl
  have hs2 : (W1.alloc (.cells #[.float .f32 m] 32)).heap.size = W1.heap.size + 1 := by simp
  have hs3 : W1.heap.size + 1 ≤ W3.heap.size := by rw [← hs2]; exact bb.size
  have bb1 : Below W1.heap.size W1 W3 := ((Below.refl _ _).alloc (Nat.le_refl _) (.cells #[.float .f32 m] 32)).trans (bb.mono (by rw [hs2]; omega))
  have HO := Lib.hid (FOwn.mono ho (show w.heap.size + 4 ≤ _ by rw [hs2]; omega))
  have e0 : W3.cell? ⟨w.heap.size, 0, none⟩ = some (.slice a n cap) := by rw [bb1.cell (p := ⟨w.heap.size, 0, none⟩) (by show w.heap.size < _; omega)]; exact d0
  have e1 : W3.cell? ⟨w.heap.size + 1, 0, none⟩ = some (.float .f32 m) := by rw [bb1.cell (p := ⟨w.heap.size + 1, 0, none⟩) (by show w.heap.size + 1 < _; omega)]; exact d1
  have e2 : W3.cell? ⟨w.heap.size + 1 + 1, 0, none⟩ = some (.float .f32 wd) := by rw [bb1.cell (p := ⟨w.heap.size + 1 + 1, 0, none⟩) (by show w.heap.size + 1 + 1 < _; omega)]; exact d2
  have e3 : W3.cell? ⟨w.heap.size + 1 + 1 + 1, 0, none⟩ = some (.int .i64 (s : Int)) := by rw [bb1.cell (p := ⟨w.heap.size + 1 + 1 + 1, 0, none⟩) (by show w.heap.size + 1 + 1 + 1 < _; omega)]; exact d3
  have e4 : W3.frozen? ⟨w.heap.size + 1 + 1 + 1, 0, none⟩ = false := by rw [bb1.frozen (p := ⟨w.heap.size + 1 + 1 + 1, 0, none⟩) (by show w.heap.size + 1 + 1 + 1 < _; omega)]; exact g3
  have HB3 := Lib.hid (HB1.out.trans (bb1.mono HB1.out.size))
  have HBI3 := Lib.hid (HBI1.out.keep (show w.heap.size < W1.heap.size by omega) bb1)
  have hs4 : w.heap.size + 5 ≤ W3.heap.size := by omega
  clear ho bb bb1 hs2 hs3 hks hs1 d0 d1 d2 d3 g3 HB1 HBI1
  have HA := Lib.hid (show Below W3.heap.size W3 (W3.alloc (.cells #[.slice A ks.length cp] 22)) from (Below.refl _ _).alloc (Nat.le_refl _) _)
  have HC := Lib.hid (show (W3.alloc (.cells #[.slice A ks.length cp] 22)).cell? ⟨W3.heap.size, 0, none⟩ = some (.slice A ks.length cp) from by rw [World.cell?_alloc_at _ _ _ _ rfl]; rfl)
  have HC2 := Lib.hid (show (W3.alloc (.cells #[.slice A ks.length cp] 22)).frozen? ⟨W3.heap.size, 0, none⟩ = false from World.frozen?_alloc_at _ _ _ _ rfl)
  have hsz4 : (W3.alloc (.cells #[.slice A ks.length cp] 22)).heap.size = W3.heap.size + 1 := by simp
  go_wp2_with fail
  generalize W3.alloc (.cells #[.slice A ks.length cp] 22) = W4 at *
  obtain ⟨bk, hbk⟩ : ∃ b, W3.heap.size = b := ⟨_, rfl⟩
  have hlt4 := HO.out.lt
  have HI0 := Lib.hid (show ∀ wr, Below W4.heap.size W4 wr → DsI 32 (w.heap.size + 1 + 1 + 1) bk w.heap.size (w.heap.size + 1) (w.heap.size + 1 + 1) W4.heap.size (w.heap.size + 4) ks a n cap ts m wd s 0 wr from fun wr hb => by
    have hb2 : Below W3.heap.size W3 wr := HA.out.trans (hb.mono HA.out.size)
    have hc : ∀ b, b < W3.heap.size → wr.cell? ⟨b, 0, none⟩ = W3.cell? ⟨b, 0, none⟩ := fun b hlt => hb2.cell (p := ⟨b, 0, none⟩) hlt
    refine ⟨⟨_, ks, ?_, ?_, pa_keep HO.out hb2, rfl, fun e => ?_, fun e => ?_⟩, HBI3.out.keep (by omega) hb2, by rw [hc _ (by omega)]; exact e1, by rw [hc _ (by omega)]; exact e2, by rw [hc _ (by omega)]; exact e3, ?_⟩
    · rw [hb.cell (p := ⟨bk, 0, none⟩) (by show bk < _; omega), ← hbk]; exact HC.out
    · rw [hb.frozen (p := ⟨bk, 0, none⟩) (by show bk < _; omega), ← hbk]; exact HC2.out
    · have := (hlt4 _ e).2; omega
    · have := (hlt4 _ e).2; omega
    · rw [hb2.frozen (p := ⟨w.heap.size + 1 + 1 + 1, 0, none⟩) (by show w.heap.size + 1 + 1 + 1 < _; omega)]; exact e4)
  have HB4 := Lib.hid (HB3.out.trans (HA.out.mono HB3.out.size))
  clear HC HC2 HO HBI3 e0 e1 e2 e3 e4 hlt4 HA HB3
  rw [hbk]
  refine (places2_any 78 #[.pointer (some ⟨w.heap.size + 1 + 1 + 1, 0, none⟩), .pointer (some ⟨bk, 0, none⟩), .pointer (some ⟨w.heap.size, 0, none⟩), .pointer (some ⟨w.heap.size + 1, 0, none⟩), .pointer (some ⟨w.heap.size + 1 + 1, 0, none⟩)] (dsV ks ts m wd s) (DsI 32 (w.heap.size + 1 + 1 + 1) bk w.heap.size (w.heap.size + 1) (w.heap.size + 1 + 1) W4.heap.size (w.heap.size + 4) ks a n cap ts m wd s) w.heap.size N W4 (enter_of Try.func78 (by kernel_rfl) rfl) (by omega) (by omega) HI0.out
    (fun k wr j v hs hI => hI.setG (by omega) (by omega) (by omega) (by omega) (by omega) j v) (fun k wr q hI => hI.drewN q)
    (fun k wr hk hs hI => ds1_any _ _ _ _ _ _ _ _ _ _ _ _ _ _ _ _ _ _ hI (by omega) (by omega) (by omega) (by omega) (by omega) (by omega) (by omega) hs (by have := HLk.out; omega) (by have := HLk.out; omega) HL.out Hs32.out)).mono ?_
  rintro e w5 ⟨v, rs, rfl, ho, hx, hin, hb⟩
  have HF := Lib.hid (show fins (tells (dsV ks ts m wd s) N) = dsOk ts m wd (s : Int) (N : Int) from by rw [HO.out, HKs.out])
  have HOw := Lib.hid (ho.mono (show w.heap.size ≤ W4.heap.size by omega))
  have HX := Lib.hid hx
  have HBl := Lib.hid (HB4.out.trans hb)
  rw [HF.out]
  rw [HF.out] at hin
  clear ho hx hb
  cases hk9 : dsOk ts m wd (s : Int) (N : Int)
  · have HBb := Lib.hid (ds_bad hk9)
    clear hk9 hin
    go_wp2_with fail
    go_ret3
    exact fail_ds _ HBb.out HBl.out
  · obtain ⟨-, -, -, -, hc, -⟩ := hin hk9
    have HXx := Lib.hid (show dsX ts m wd (s : Int) (N : Int) = lstR (tells (dsV ks ts m wd s) N) by
      unfold dsX lstR; rw [hk9, if_pos rfl, HF.out, hk9, if_pos rfl]; unfold dsL; rw [HL.out, HKs.out]; rfl)
    have HSs := Lib.hid (show dsS ts m wd (s : Int) (N : Int) = (nxs s (4 * N) : Nat) by unfold dsS; rw [hk9]; rfl)
    have HOk := Lib.hid hk9
    clear hk9 hin
    generalize nxs s (4 * N) = z at *
    go_wp2_with fail
    go_region
    all_goals
      go_wp2
      (try simp only [Exit.inBlock, Exit.then])
      go_ret3
      exact ⟨v, rs, by rw [HSs.out, HOk.out]; rfl, by first | exact HOw.out | exact FOwn.drewN HOw.out _, HX.out.trans HXx.out.symm, by first | exact HBl.out | exact below_drewN HBl.out _⟩
end Go.Proofs.Ytldaamgohdnjnaa

/-
  DrawnSeries: what its callers take of it.
-/
namespace Go.Proofs.Ytldaamgohdnjnaa
open Ieee Go.RowKit
set_option linter.unusedVariables false
theorem RetDS.resn {T : TypeId} {X0 x0 : List Nat} {y0 : Nat} {S : Int} {ok : Bool} {w : World} {e : Ending} {w' : World} (h : RetDS T X0 S ok w e w') (hx0 : X0 = x0) (hy0 : x0.length = y0) :
    ∃ A0 c0 d0 r0, e = .returned (.tuple #[.slice A0 y0 c0, .int .i64 S, .bool ok]) ∧ (Held w' A0 d0 y0 r0 ∧ cnl r0 = x0 ∧ w.heap.size ≤ d0) ∧ Below w.heap.size w w' := by
  obtain ⟨v, r, rfl, h1, h2, h3⟩ := h
  obtain ⟨A, c, d, r0, he, h4, h5⟩ := RetOB.resn (ok := ok) ⟨v, r, rfl, h1, h2, h3⟩ hx0 hy0
  have hv : v = .slice A y0 c := by
    injection he with he
    injection he with he
    have := congrArg (fun a : Array Value => a.getD 0 undef) he
    simpa using this
  exact ⟨A, c, d, r0, by rw [hv], h4, h5⟩
end Go.Proofs.Ytldaamgohdnjnaa

