/-
  Two sorted neighbours are merged (slices.symMergeCmpFunc): where one of them is of one number.
-/
import Derived.Test.YtallegmkkbmelabCIns
namespace Go.Proofs.Ytallegmkkbmelab
open Ieee Go.RowKit
set_option linter.unusedVariables false

theorem rot_one {f : Nat → Nat} {a k m : Nat} (hm : m = a + 1) (h : a ≤ k) : swapF (rotF f a m (k + 1)) k (k + 1) = rotF f a m (k + 2) := by
  subst hm
  funext x
  simp only [rotF, swapF]
  repeat' split
  all_goals first | rfl | (exfalso; omega) | (congr 1; omega)
theorem rot_back {f : Nat → Nat} {k m : Nat} (h : k + 1 ≤ m) : swapF (rotF f (k + 1) m (m + 1)) k (k + 1) = rotF f k m (m + 1) := by
  funext x
  simp only [rotF, swapF]
  repeat' split
  all_goals first | rfl | (exfalso; omega) | (congr 1; omega)

set_option maxHeartbeats 4000000 in
set_option maxRecDepth 1000000 in
theorem symFirst_any (g n cap c a m b : Nat) (f : Nat → Nat) (w : World) (h : Arr 28 g n c f w) (hN : NoN f n) (hm : m = a + 1) (h1 : m < b) (h2 : b ≤ n) (hn : n ≤ 1048576) (hs : Srt fkey f m b) :
    Calls Try.prog 96 #[.slice (some ⟨g, 0, none⟩) n cap, .int .i64 a, .int .i64 m, .int .i64 b, CMP] w fun e w' => ∃ f', Sw 28 g n c f' w e w' ∧ Mrg fkey n f f' a b := by
  have HA := Lib.hid h
  have HN := Lib.hid hN
  have HS := Lib.hid hs
  have HM := Lib.hid hm
  have eg := enter_of (P := Try.prog) Try.func89 (by kernel_rfl) rfl
  unfold CMP
  have d1 : ((m : Int) - (a : Int)) = 1 := by omega
  have m1 : a < m := by omega
  have m2 : m ≤ a + 1 := by omega
  clear h hN hs hm
  go_enter Try.func96, Try.ntmps96
  go_wp2
  go_loopw [10, 11] (fun vi vj wr => ∃ i j q : Nat, vi = .int .i64 i ∧ vj = .int .i64 j ∧ m ≤ i ∧ i ≤ j ∧ j ≤ b ∧ wr = w.drewN q ∧ Hid (∀ h, m ≤ h → h < i → fkey (f h) < fkey (f a)) ∧ Hid (∀ h, j ≤ h → h < b → fkey (f a) ≤ fkey (f h))) (fun vi vj _ => (intOf vj).toNat - (intOf vi).toNat)
  case atStart => exact ⟨m, b, 0, rfl, rfl, Nat.le_refl _, by omega, Nat.le_refl _, rfl, Lib.hid fun h _ _ => by omega, Lib.hid fun h _ _ => by omega⟩
  case round =>
    obtain ⟨i, j, q, rfl, rfl, hmi, hij, hjb, rfl, k1, k2⟩ := hrel
    by_cases hlt : i < j
    · obtain ⟨p, hp⟩ : ∃ p : Nat, p = (i + j) / 2 := ⟨_, rfl⟩
      have hpz : ((i : Int) + (j : Int)) / 2 = (p : Int) := by omega
      have hp1 : i ≤ p := by omega
      have hp2 : p < j := by omega
      clear hp
      obtain ⟨x, hx⟩ : ∃ x, f p = x := ⟨_, rfl⟩
      obtain ⟨y, hy⟩ : ∃ y, f a = y := ⟨_, rfl⟩
      have c1 := HA.out.cell (j := p) (by omega)
      have c2 := HA.out.cell (j := a) (by omega)
      rw [hx] at c1
      rw [hy] at c2
      have nx : isN .f32 x = false := by rw [← hx]; exact HN.out p (by omega)
      have ny : isN .f32 y = false := by rw [← hy]; exact HN.out a (by omega)
      have hc := Lib.hid (fun W => cmp_any x y W nx ny)
      have l1 : (p : Int) < (n : Int) := by omega
      have l2 : (a : Int) < (n : Int) := by omega
      have p1 : (0 : Int) ≤ (p : Int) := by omega
      have p2 : (0 : Int) ≤ (a : Int) := by omega
      clear nx ny
      by_cases hlv : fkey x < fkey y
      · have hd : decide (cmpZ x y < 0) = true := by rw [cmpZ_lt]; exact decide_eq_true hlv
        have K1 := Lib.hid (show ∀ h, m ≤ h → h < p + 1 → fkey (f h) < fkey (f a) from fun h g1 g2 => by
          have := HS.out.le (i := h) (j := p) g1 (by omega) (by omega)
          rw [hx] at this; rw [hy]; omega)
        clear hx hy
        go_wp2_with fail
        go_quiet ((go_at_call 89; first | exact quiet_V (hc.out _) | exact quiet_add_V (hc.out _)))
        clear c1 c2 hc k1
        go_wp2
        go_roundw
        case rel => exact ⟨p + 1, j, _, by go_num, rfl, by omega, by omega, hjb, by first | rfl | rw [World.drewN_drewN], K1, k2⟩
        case measure => simp [intOf]; omega
      · have hd : decide (cmpZ x y < 0) = false := by rw [cmpZ_lt]; exact decide_eq_false hlv
        have K2 := Lib.hid (show ∀ h, p ≤ h → h < b → fkey (f a) ≤ fkey (f h) from fun h g1 g2 => by
          have := HS.out.le (i := p) (j := h) (by omega) g1 g2
          rw [hx] at this; rw [hy]; omega)
        clear hx hy
        go_wp2_with fail
        go_quiet ((go_at_call 89; first | exact quiet_V (hc.out _) | exact quiet_add_V (hc.out _)))
        clear c1 c2 hc k2
        go_wp2
        go_roundw
        case rel => exact ⟨i, p, _, rfl, rfl, hmi, by omega, by omega, by first | rfl | rw [World.drewN_drewN], k1, K2⟩
        case measure => simp [intOf]; omega
    · obtain rfl : i = j := by omega
      have HMr := Lib.hid (show Mrg fkey n f (rotF f a m i) a b by have := HM.out; subst this; exact mrg_first h2 (by omega) hjb HS.out k1.out k2.out)
      have HA0 := Lib.hid (show Arr 28 g n c (rotF f a m (a + 1)) (w.drewN q) by rw [rotF_id (.inr HM.out)]; exact HA.out)
      clear k1 k2 hlt
      obtain ⟨ip, hip⟩ : ∃ ip, ip + 1 = i := ⟨i - 1, by omega⟩
      have r1 : IntKind.i64.wrap ((i : Int) - 1) = (ip : Int) := by rw [IntKind.wrap_i64]; omega
      have r2 : (i : Int) - 1 = (ip : Int) := by omega
      go_wp2
      go_loopw [13] (fun vk wr => ∃ k : Nat, vk = .int .i64 k ∧ a ≤ k ∧ k ≤ ip ∧ Hid (Only g w wr) ∧ Hid (Arr 28 g n c (rotF f a m (k + 1)) wr)) (fun vk _ => ip - (intOf vk).toNat)
      case atStart => exact ⟨a, rfl, Nat.le_refl _, by omega, Lib.hid ((Only.refl _ _).drewN _), HA0⟩
      case round =>
        obtain ⟨k, rfl, hak, hki, ho, ha⟩ := hrel
        clear HA0
        by_cases hlt : k < ip
        · obtain ⟨j, hj⟩ : ∃ j, k + 1 = j := ⟨_, rfl⟩
          have hne : k ≠ j := by omega
          obtain ⟨x, hx⟩ : ∃ x, rotF f a m (k + 1) k = x := ⟨_, rfl⟩
          obtain ⟨y, hy⟩ : ∃ y, rotF f a m (k + 1) j = y := ⟨_, rfl⟩
          have c1 := ha.out.cell (j := k) (by omega)
          have c2 := ha.out.cell (j := j) (by omega)
          have c3 := ha.out.far (i := k) (j := j) (by omega) hne (.float .f32 y)
          have c4 := ha.out.far (i := j) (j := k) (by omega) (Ne.symm hne) (.float .f32 x)
          rw [hx] at c1 c4
          rw [hy] at c2 c3
          have z1 := ha.out.frozen k
          have z2 := ha.out.frozen j
          have z3 := ha.out.fz k j (.float .f32 y)
          have z4 := ha.out.fz j k (.float .f32 x)
          have HT := Lib.hid (show Arr 28 g n c (rotF f a m (k + 1 + 1)) ((wr.setCell ⟨g, k, none⟩ (.float .f32 y)).setCell ⟨g, j, none⟩ (.float .f32 x)) from by
            subst hj; rw [← rot_one HM.out hak]; exact ha.out.swap (by omega) (by omega) hx hy)
          have HO := Lib.hid ((ho.out.setCell k (.float .f32 y)).setCell j (.float .f32 x))
          have b1 : IntKind.i64.wrap ((k : Int) + 1) = (j : Int) := by rw [IntKind.wrap_i64]; omega
          have l1 : (k : Int) < (n : Int) := by omega
          have l2 : (j : Int) < (n : Int) := by omega
          have p1 : (0 : Int) ≤ (k : Int) := by omega
          have p2 : (0 : Int) ≤ (j : Int) := by omega
          have hj1 : k < j := by omega
          have hj2 : j ≤ k + 1 := by omega
          clear hx hy ha ho hj
          go_wp2_with fail
          go_big_region
          clear c1 c2 c3 c4 z1 z2 z3 z4
          go_wp2
          go_roundw
          case rel => exact ⟨k + 1, by go_num, by omega, by omega, Lib.hid (HO.out.drewN 1), Lib.hid (HT.out.drewN 1)⟩
          case measure => simp [intOf]; omega
        · obtain rfl : k = ip := by omega
          have HAe := Lib.hid (show Arr 28 g n c (rotF f a m i) wr by rw [← hip]; exact ha.out)
          go_wp2
          (try simp only [Exit.inBlock, Exit.then])
          refine bodyPost_ret (results_none rfl _ _ _) rfl ?_
          exact ⟨_, ⟨rfl, ho.out, HAe.out⟩, HMr.out⟩

set_option maxHeartbeats 4000000 in
set_option maxRecDepth 1000000 in
theorem symLast_any (g n cap c a m b : Nat) (f : Nat → Nat) (w : World) (h : Arr 28 g n c f w) (hN : NoN f n) (hb : b = m + 1) (h1 : a + 1 < m) (h2 : b ≤ n) (hn : n ≤ 1048576) (hs : Srt fkey f a m) :
    Calls Try.prog 96 #[.slice (some ⟨g, 0, none⟩) n cap, .int .i64 a, .int .i64 m, .int .i64 b, CMP] w fun e w' => ∃ f', Sw 28 g n c f' w e w' ∧ Mrg fkey n f f' a b := by
  have HA := Lib.hid h
  have HN := Lib.hid hN
  have HS := Lib.hid hs
  have HB := Lib.hid hb
  have eg := enter_of (P := Try.prog) Try.func89 (by kernel_rfl) rfl
  unfold CMP
  have d0 : decide ((m : Int) - (a : Int) = 1) = false := decide_eq_false (by omega)
  have d00 : ((m : Int) - (a : Int) == 1) = false := beq_false_of_ne (by omega)
  have d1 : ((b : Int) - (m : Int)) = 1 := by omega
  have m1 : m < b := by omega
  have m2 : b ≤ m + 1 := by omega
  clear h hN hs hb
  go_enter Try.func96, Try.ntmps96
  go_wp2
  go_loopw [14, 15] (fun vi vj wr => ∃ i j q : Nat, vi = .int .i64 i ∧ vj = .int .i64 j ∧ a ≤ i ∧ i ≤ j ∧ j ≤ m ∧ wr = w.drewN q ∧ Hid (∀ h, a ≤ h → h < i → fkey (f h) ≤ fkey (f m)) ∧ Hid (∀ h, j ≤ h → h < m → fkey (f m) < fkey (f h))) (fun vi vj _ => (intOf vj).toNat - (intOf vi).toNat)
  case atStart => exact ⟨a, m, 0, rfl, rfl, Nat.le_refl _, by omega, Nat.le_refl _, rfl, Lib.hid fun h _ _ => by omega, Lib.hid fun h _ _ => by omega⟩
  case round =>
    obtain ⟨i, j, q, rfl, rfl, hai, hij, hjm, rfl, k1, k2⟩ := hrel
    by_cases hlt : i < j
    · obtain ⟨p, hp⟩ : ∃ p : Nat, p = (i + j) / 2 := ⟨_, rfl⟩
      have hpz : ((i : Int) + (j : Int)) / 2 = (p : Int) := by omega
      have hp1 : i ≤ p := by omega
      have hp2 : p < j := by omega
      clear hp
      obtain ⟨x, hx⟩ : ∃ x, f m = x := ⟨_, rfl⟩
      obtain ⟨y, hy⟩ : ∃ y, f p = y := ⟨_, rfl⟩
      have c1 := HA.out.cell (j := m) (by omega)
      have c2 := HA.out.cell (j := p) (by omega)
      rw [hx] at c1
      rw [hy] at c2
      have nx : isN .f32 x = false := by rw [← hx]; exact HN.out m (by omega)
      have ny : isN .f32 y = false := by rw [← hy]; exact HN.out p (by omega)
      have hc := Lib.hid (fun W => cmp_any x y W nx ny)
      have l1 : (p : Int) < (n : Int) := by omega
      have l2 : (m : Int) < (n : Int) := by omega
      have p1 : (0 : Int) ≤ (p : Int) := by omega
      have p2 : (0 : Int) ≤ (m : Int) := by omega
      clear nx ny
      by_cases hlv : fkey x < fkey y
      · have hd : decide (cmpZ x y < 0) = true := by rw [cmpZ_lt]; exact decide_eq_true hlv
        have K2 := Lib.hid (show ∀ h, p ≤ h → h < m → fkey (f m) < fkey (f h) from fun h g1 g2 => by
          have := HS.out.le (i := p) (j := h) (by omega) g1 g2
          rw [hy] at this; rw [hx]; omega)
        clear hx hy
        go_wp2_with fail
        go_quiet ((go_at_call 89; first | exact quiet_V (hc.out _) | exact quiet_add_V (hc.out _)))
        clear c1 c2 hc k2
        go_wp2
        go_roundw
        case rel => exact ⟨i, p, _, rfl, rfl, hai, by omega, by omega, by first | rfl | rw [World.drewN_drewN], k1, K2⟩
        case measure => simp [intOf]; omega
      · have hd : decide (cmpZ x y < 0) = false := by rw [cmpZ_lt]; exact decide_eq_false hlv
        have K1 := Lib.hid (show ∀ h, a ≤ h → h < p + 1 → fkey (f h) ≤ fkey (f m) from fun h g1 g2 => by
          have := HS.out.le (i := h) (j := p) g1 (by omega) (by omega)
          rw [hy] at this; rw [hx]; omega)
        clear hx hy
        go_wp2_with fail
        go_quiet ((go_at_call 89; first | exact quiet_V (hc.out _) | exact quiet_add_V (hc.out _)))
        clear c1 c2 hc k1
        go_wp2
        go_roundw
        case rel => exact ⟨p + 1, j, _, by go_num, rfl, by omega, by omega, hjm, by first | rfl | rw [World.drewN_drewN], K1, k2⟩
        case measure => simp [intOf]; omega
    · obtain rfl : i = j := by omega
      have HMr := Lib.hid (show Mrg fkey n f (rotF f i m (m + 1)) a b by have := HB.out; subst this; exact mrg_last (by omega) hai hjm HS.out k1.out k2.out)
      have HA0 := Lib.hid (show Arr 28 g n c (rotF f m m (m + 1)) (w.drewN q) by rw [rotF_id (.inl rfl)]; exact HA.out)
      clear k1 k2 hlt
      go_wp2
      go_loopw [17] (fun vk wr => ∃ k : Nat, vk = .int .i64 k ∧ i ≤ k ∧ k ≤ m ∧ Hid (Only g w wr) ∧ Hid (Arr 28 g n c (rotF f k m (m + 1)) wr)) (fun vk _ => (intOf vk).toNat)
      case atStart => exact ⟨m, rfl, by omega, Nat.le_refl _, Lib.hid ((Only.refl _ _).drewN _), HA0⟩
      case round =>
        obtain ⟨k, rfl, hik, hkm, ho, ha⟩ := hrel
        clear HA0
        by_cases hlt : i < k
        · obtain ⟨j, hj⟩ : ∃ j, j + 1 = k := ⟨k - 1, by omega⟩
          have hne : k ≠ j := by omega
          obtain ⟨x, hx⟩ : ∃ x, rotF f k m (m + 1) k = x := ⟨_, rfl⟩
          obtain ⟨y, hy⟩ : ∃ y, rotF f k m (m + 1) j = y := ⟨_, rfl⟩
          have c1 := ha.out.cell (j := k) (by omega)
          have c2 := ha.out.cell (j := j) (by omega)
          have c3 := ha.out.far (i := k) (j := j) (by omega) hne (.float .f32 y)
          have c4 := ha.out.far (i := j) (j := k) (by omega) (Ne.symm hne) (.float .f32 x)
          rw [hx] at c1 c4
          rw [hy] at c2 c3
          have z1 := ha.out.frozen k
          have z2 := ha.out.frozen j
          have z3 := ha.out.fz k j (.float .f32 y)
          have z4 := ha.out.fz j k (.float .f32 x)
          have HT := Lib.hid (show Arr 28 g n c (rotF f j m (m + 1)) ((wr.setCell ⟨g, k, none⟩ (.float .f32 y)).setCell ⟨g, j, none⟩ (.float .f32 x)) from by
            subst hj; rw [← rot_back hkm, swap_comm]; exact ha.out.swap (by omega) (by omega) hx hy)
          have HO := Lib.hid ((ho.out.setCell k (.float .f32 y)).setCell j (.float .f32 x))
          have b1 : IntKind.i64.wrap ((k : Int) - 1) = (j : Int) := by rw [IntKind.wrap_i64]; omega
          have l1 : (k : Int) < (n : Int) := by omega
          have l2 : (j : Int) < (n : Int) := by omega
          have p1 : (0 : Int) ≤ (k : Int) := by omega
          have p2 : (0 : Int) ≤ (j : Int) := by omega
          have hj1 : j < k := by omega
          have hj2 : k ≤ j + 1 := by omega
          clear hx hy ha ho hj
          go_wp2_with fail
          go_big_region
          clear c1 c2 c3 c4 z1 z2 z3 z4
          go_wp2
          go_roundw
          case rel => exact ⟨j, by go_num, by omega, by omega, Lib.hid (HO.out.drewN 1), Lib.hid (HT.out.drewN 1)⟩
          case measure => simp [intOf]; omega
        · obtain rfl : k = i := by omega
          go_wp2
          (try simp only [Exit.inBlock, Exit.then])
          refine bodyPost_ret (results_none rfl _ _ _) rfl ?_
          exact ⟨_, ⟨rfl, ho.out, ha.out⟩, HMr.out⟩
end Go.Proofs.Ytallegmkkbmelab
