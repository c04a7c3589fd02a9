/-
  RunLong, in both packages.
-/
import Derived.Test.YtpaelafopjmklaaWlk
import Derived.Test.YtpaelafopjmklaaMta
import Derived.WalkMore
import Derived.ScopeJumps
namespace Go.Proofs.Ytpaelafopjmklaa
open Ieee Go.RowKit
set_option linter.unusedVariables false

/-- Steps in the mean from a place to the next one. -/
def rx (up dn : Nat) : Nat → Nat
  | 0 => aop .quo .f32 oneW (cn .f32 up)
  | k + 1 => aop .quo .f32 (aop .add .f32 oneW (aop .mul .f32 (cn .f32 dn) (rx up dn k))) (cn .f32 up)
def rlX (up dn : Nat) (bar : Int) : Nat := sumT (rx up dn) bar.toNat
def rlB (up dn : Nat) (bar : Int) : Bool := wkB up dn bar && fin .f32 (rlX up dn bar)
def rlV (up dn : Nat) (bar : Int) : Nat := if rlB up dn bar then rlX up dn bar else 0
theorem cn_one : cn .f32 oneW = oneW := by decide +kernel
theorem rl_bad {up dn : Nat} {bar : Int} (h : wkB up dn bar = false) : rlV up dn bar = 0 ∧ rlB up dn bar = false := by
  have : rlB up dn bar = false := by unfold rlB; rw [h]; rfl
  exact ⟨by unfold rlV; rw [this]; rfl, this⟩
theorem rl_end {up dn : Nat} {bar : Int} {r x : Nat} (h : cn .f32 r = if fin .f32 x then cn .f32 x else 0) (hs : wkB up dn bar = true) (hx : cn .f32 x = rlX up dn bar) : cn .f32 r = rlV up dn bar ∧ fin .f32 x = rlB up dn bar := by
  have hc : cn .f32 (rlX up dn bar) = rlX up dn bar := sumT_cn _ _
  have hf : fin .f32 x = rlB up dn bar := by rw [fin_congr (hx.trans hc.symm)]; unfold rlB; rw [hs]; rfl
  exact ⟨by rw [h, hf, hx]; rfl, hf⟩
theorem rx_step {up dn x k : Nat} (h : cn .f32 x = rx up dn k) (w1 w2 w3 : World) : cn .f32 (fopR .quo .f32 (fopR .add .f32 1065353216 (fopR .mul .f32 dn x w1) w2) up w3) = rx up dn (k + 1) := by
  rw [cn_fopR, cn_fopR, cn_fopR, h]; rfl
theorem rx_start (up dn : Nat) (w1 : World) : cn .f32 (fopR .quo .f32 1065353216 up w1) = rx up dn 0 := by
  rw [cn_fopR]; rfl
set_option maxHeartbeats 2000000 in
set_option maxRecDepth 100000 in
theorem spRlo_any (up dn : Nat) (bar : Int) (w : World) :
    Calls Try.prog 32 #[.float .f32 up, .float .f32 dn, .int .i64 bar] w (RetFBk (rlV up dn bar) (rlB up dn bar) w.heap.size w) := by
  cases hB : wkB up dn bar
  · have HK := Lib.hid hB
    have HB := Lib.hid (rl_bad hB)
    clear hB
    go_enter Try.func32, Try.ntmps32
    go_wp2_with fail
    refine (spWlk_any _ _ _ _).mono ?_
    rw [HK.out]
    rintro e w' ⟨m1, rfl, rfl⟩
    go_wp2
    go_ret2
    exact ⟨0, by rw [HB.out.1]; exact cn_zero, by rw [HB.out.2]; rfl, below_drewN (Below.refl _ _) _⟩
  · obtain ⟨_, _, _, hb1, hb2⟩ := wk_t hB
    obtain ⟨n, rfl⟩ : ∃ n : Nat, bar = n := ⟨bar.toNat, by omega⟩
    have HK := Lib.hid hB
    clear hB
    go_enter Try.func32, Try.ntmps32
    go_wp2_with fail
    refine (spWlk_any _ _ _ _).mono ?_
    rw [HK.out]
    rintro e w' ⟨m1, rfl, rfl⟩
    go_wp2
    go_loopw [8, 9, 10] (fun x s i wr => ∃ k q y t : Nat, k < n ∧ i = .int .i64 ((k : Int) + 1) ∧ x = .float .f32 y ∧ s = .float .f32 t ∧ wr = w.drewN q ∧ Hid (cn .f32 y = rx up dn k) ∧ Hid (cn .f32 t = sumT (rx up dn) (k + 1))) (fun _ _ i _ => n - (intOf i).toNat)
    case atStart => exact ⟨0, _, _, _, by omega, rfl, rfl, rfl, rfl, Lib.hid (rx_start _ _ _), Lib.hid (sum_step (tell := rx up dn) (s := 0) (k := 0) cn_zero (rx_start _ _ _) _)⟩
    case round =>
      obtain ⟨k, q, y, t, hk, rfl, rfl, rfl, rfl, hy, ht⟩ := hrel
      by_cases hlt : k + 1 < n
      · have hY := Lib.hid (fun w1 w2 w3 => rx_step hy.out w1 w2 w3)
        have hT := Lib.hid (fun w1 w2 w3 w4 => sum_step ht.out (rx_step hy.out w1 w2 w3) w4)
        clear hy ht
        go_wp2
        go_roundw
        case rel => exact ⟨k + 1, _, _, _, by omega, by go_num, rfl, rfl, rfl, Lib.hid (hY.out _ _ _), Lib.hid (hT.out _ _ _ _)⟩
        case measure => simp [intOf]; omega
      · have HT := Lib.hid (show cn .f32 t = rlX up dn n by unfold rlX; rw [ht.out, show k + 1 = n by omega]; rfl)
        clear hy ht
        go_wp2_with fail
        refine (specNumber_any _ _).mono ?_
        rintro e w' ⟨r', n', hr', rfl, rfl⟩
        have W := Lib.hid (rl_end hr' HK.out HT.out)
        clear hr'
        go_wp2
        go_ret2
        exact ⟨r', W.out.1, by rw [← W.out.2]; rfl, below_drewN (Below.refl _ _) _⟩
/-- What holds at the label of RunLong. -/
def RloJ (up dn n : Nat) (w : World) (a' : Act) (w' : World) : Prop :=
  ∃ (p k s x : Nat) (u13 u14 u15 u16 u17 u18 u19 u20 u21 u22 u23 u24 u25 u26 u27 u28 u29 u30 u31 u32 u33 u34 u35 u36 u37 u38 u39 u40 u41 u42 u43 u44 u45 : Value), k < n ∧ a' = { tmps := #[.float .f32 up, .float .f32 dn, .int .i64 (n : Int), undef, undef, undef, .float .f32 0, .bool false, .pointer (some ⟨p, 0, none⟩), .bool true, .float .f32 s, .int .i64 (k : Int), .float .f32 x, u13, u14, u15, u16, u17, u18, u19, u20, u21, u22, u23, u24, u25, u26, u27, u28, u29, u30, u31, u32, u33, u34, u35, u36, u37, u38, u39, u40, u41, u42, u43, u44, u45], defers := [] } ∧ w'.cell? ⟨p, 0, none⟩ = some (.float .f32 up) ∧ w'.cell? ⟨p, 1, none⟩ = some (.float .f32 dn) ∧ w'.cell? ⟨p, 2, none⟩ = some (.int .i64 (n : Int)) ∧ Hid (Below w.heap.size w w') ∧ Hid (cn .f32 s = sumT (rx up dn) k) ∧ Hid (cn .f32 x = rx up dn k)
set_option maxHeartbeats 4000000 in
set_option maxRecDepth 100000 in
theorem imRlo_any (up dn : Nat) (bar : Int) (w : World) :
    Calls Try.prog 33 #[.float .f32 up, .float .f32 dn, .int .i64 bar] w (RetFBk (rlV up dn bar) (rlB up dn bar) w.heap.size w) := by
  cases hB : wkB up dn bar
  · have HK := Lib.hid hB
    have HB := Lib.hid (rl_bad hB)
    clear hB
    go_enter Try.func33, Try.ntmps33
    go_wp2
    go_step3
    go_wp2_with fail
    refine (imWlk_any _ _ _ _).mono ?_
    rw [HK.out]
    rintro e w1 ⟨rfl, b⟩
    go_wp2
    rw [Exit.noGoto_ret]
    go_ret2
    exact ⟨0, by rw [HB.out.1]; exact cn_zero, by rw [HB.out.2]; rfl, b.alloc b.size _⟩
  · obtain ⟨_, _, _, hb1, hb2⟩ := wk_t hB
    obtain ⟨n, rfl⟩ : ∃ n : Nat, bar = n := ⟨bar.toNat, by omega⟩
    have HK := Lib.hid hB
    clear hB
    have hn1 : 1 ≤ n := by omega
    have hn2 : n ≤ 16 := by omega
    clear hb1 hb2
    go_enter Try.func33, Try.ntmps33
    go_wp2
    refine wp_scope_jumps 0 (RloJ up dn n w) (fun a' _ => n - (intOf (a'.tmps.getD 11 undef)).toNat) rfl ?_ ?_
    · go_wp2_with fail
      refine (imWlk_any _ _ _ _).mono ?_
      rw [HK.out]
      rintro e w1 ⟨rfl, b⟩
      have HB1 := Lib.hid (fun q => below_drewN (b.alloc b.size (.cells #[.float .f32 up, .float .f32 dn, .int .i64 (n : Int)] 80)) q)
      have HC := Lib.hid (show (w1.alloc (.cells #[.float .f32 up, .float .f32 dn, .int .i64 (n : Int)] 80)).cell? ⟨w1.heap.size, 0, none⟩ = some (.float .f32 up) ∧ (w1.alloc (.cells #[.float .f32 up, .float .f32 dn, .int .i64 (n : Int)] 80)).cell? ⟨w1.heap.size, 1, none⟩ = some (.float .f32 dn) ∧ (w1.alloc (.cells #[.float .f32 up, .float .f32 dn, .int .i64 (n : Int)] 80)).cell? ⟨w1.heap.size, 2, none⟩ = some (.int .i64 (n : Int)) from ⟨by rw [World.cell?_alloc_at _ _ _ _ rfl]; rfl, by rw [World.cell?_alloc_at _ _ _ _ rfl]; rfl, by rw [World.cell?_alloc_at _ _ _ _ rfl]; rfl⟩)
      have HX0 := Lib.hid (fun W => rx_start up dn W)
      have HS0 := Lib.hid (fun W W' => sum_step (tell := rx up dn) (s := 0) (k := 0) cn_zero (rx_start up dn W) W')
      clear b
      go_wp2
      go_region
      all_goals
        by_cases hlt : 1 < n
        · go_wp2
          go_step3
          go_wp2
          go_step3
          exact ⟨rfl, w1.heap.size, 1, _, _, _, _, _, _, _, _, _, _, _, _, _, _, _, _, _, _, _, _, _, _, _, _, _, _, _, _, _, _, _, _, _, _, _, hlt, by go_num, HC.out.1, HC.out.2.1, HC.out.2.2, Lib.hid (HB1.out _), Lib.hid (HS0.out _ _), Lib.hid (rx_step (HX0.out _) _ _ _)⟩
        · have HT := Lib.hid (show ∀ W W', cn .f32 (fopR .add .f32 0 (fopR .quo .f32 1065353216 up W) W') = rlX up dn n from fun W W' => by rw [HS0.out]; unfold rlX; rw [Int.toNat_natCast, show n = 1 by omega])
          go_wp2
          go_step3
          go_wp2_with fail
          refine (implOnly_any _ _).mono ?_
          rintro e w' ⟨r', n', hr', rfl, rfl⟩
          have W := Lib.hid (rl_end hr' HK.out (HT.out _ _))
          clear hr'
          go_wp2
          simp only [Exit.jump]
          go_ret2
          exact ⟨r', W.out.1, by rw [← W.out.2]; rfl, HB1.out _⟩
    · rintro a' w' ⟨p, k, s, x, u13, u14, u15, u16, u17, u18, u19, u20, u21, u22, u23, u24, u25, u26, u27, u28, u29, u30, u31, u32, u33, u34, u35, u36, u37, u38, u39, u40, u41, u42, u43, u44, u45, hk, rfl, c0, c1, c2, hbel, hs, hx⟩
      have HS := Lib.hid (fun W => sum_step hs.out hx.out W)
      have HXs := Lib.hid (fun w1 w2 w3 => rx_step hx.out w1 w2 w3)
      have HB := Lib.hid (fun q => below_drewN hbel.out q)
      have HC := Lib.hid (And.intro c0 (And.intro c1 c2))
      by_cases hlt : k + 1 < n
      · clear hs hx hbel
        go_wp2
        go_step3
        exact ⟨rfl, ⟨p, k + 1, _, _, _, _, _, _, _, _, _, _, _, _, _, _, _, _, _, _, _, _, _, _, _, _, _, _, _, _, _, _, _, _, _, _, _, hlt, by go_num, HC.out.1, HC.out.2.1, HC.out.2.2, Lib.hid (HB.out _), Lib.hid (HS.out _), Lib.hid (HXs.out _ _ _)⟩, by simp [intOf]; omega⟩
      · have HT := Lib.hid (show ∀ W, cn .f32 (fopR .add .f32 s x W) = rlX up dn n from fun W => by rw [HS.out]; unfold rlX; rw [Int.toNat_natCast, show n = k + 1 by omega])
        clear hs hx hbel
        go_wp2_with fail
        refine (implOnly_any _ _).mono ?_
        rintro e w' ⟨r', n', hr', rfl, rfl⟩
        have W := Lib.hid (rl_end hr' HK.out (HT.out _))
        clear hr'
        go_wp2
        simp only [Exit.jump]
        go_ret2
        exact ⟨r', W.out.1, by rw [← W.out.2]; rfl, HB.out _⟩
end Go.Proofs.Ytpaelafopjmklaa
