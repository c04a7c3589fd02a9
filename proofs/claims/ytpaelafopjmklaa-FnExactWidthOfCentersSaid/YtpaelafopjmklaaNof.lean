/-
  'nearestOf' of the program: the first least one of numbers that may have failed.
-/
import Derived.Test.YtpaelafopjmklaaShp
import Derived.Test.YtpaelafopjmklaaCut
import Derived.Deep.RegionHeld3
namespace Go.Proofs.Ytpaelafopjmklaa
open Ieee Go.RowKit
set_option linter.unusedVariables false

structure Nst where
  at_ : Nat
  x : Nat
  ok : Bool
/-- The first least one of the first k. -/
def nst (F : Nat → Nat) (O : Nat → Bool) : Nat → Nst
  | 0 => ⟨0, 0, false⟩
  | k + 1 => if O k && (!(nst F O k).ok || ltF (F k) (nst F O k).x) then ⟨k, F k, true⟩ else nst F O k
/-- The slice holds numbers that may have failed. -/
def MSl (w : World) (a : Option Addr) (n : Nat) (F : Nat → Nat) (O : Nat → Bool) : Prop :=
  n = 0 ∨ ∃ b off, a = some ⟨b, off, none⟩ ∧ b < w.heap.size ∧ ∀ j, j < n → w.cell? ⟨b, off + j * 2, none⟩ = some (.float .f32 (F j)) ∧ w.cell? ⟨b, off + j * 2 + 1, none⟩ = some (.bool (O j))
theorem MSl.below {w w' : World} {a : Option Addr} {n : Nat} {F : Nat → Nat} {O : Nat → Bool} (h : MSl w a n F O) (hb : Below w.heap.size w w') : MSl w' a n F O := by
  rcases h with h | ⟨b, off, rfl, hlt, hc⟩
  · exact .inl h
  · exact .inr ⟨b, off, rfl, Nat.lt_of_lt_of_le hlt hb.size, fun j hj => ⟨by rw [hb.cell (p := ⟨b, off + j * 2, none⟩) hlt]; exact (hc j hj).1, by rw [hb.cell (p := ⟨b, off + j * 2 + 1, none⟩) hlt]; exact (hc j hj).2⟩⟩
def RetNof (r : Nst) (w : World) (e : Ending) (w' : World) : Prop := e = .returned (.tuple #[.int .i64 (r.at_ : Int), .float .f32 r.x, .bool r.ok]) ∧ Below w.heap.size w w'
/-- The best one so far, in its block. -/
structure BstI (p : Nat) (X : Nat) (B : Bool) (wr : World) : Prop where
  x : wr.cell? ⟨p, 0, none⟩ = some (.float .f32 X)
  o : wr.cell? ⟨p, 1, none⟩ = some (.bool B)
  fx : wr.frozen? ⟨p, 0, none⟩ = false
  fo : wr.frozen? ⟨p, 1, none⟩ = false
theorem BstI.below {p X : Nat} {B : Bool} {wr wr' : World} (h : BstI p X B wr) (hp : p < wr.heap.size) (hb : Below wr.heap.size wr wr') : BstI p X B wr' :=
  ⟨by rw [hb.cell (p := ⟨p, 0, none⟩) hp]; exact h.x, by rw [hb.cell (p := ⟨p, 1, none⟩) hp]; exact h.o, by rw [hb.frozen (p := ⟨p, 0, none⟩) hp]; exact h.fx, by rw [hb.frozen (p := ⟨p, 1, none⟩) hp]; exact h.fo⟩
set_option maxHeartbeats 4000000 in
set_option maxRecDepth 100000 in
theorem nof_any (a : Option Addr) (n cap : Nat) (F : Nat → Nat) (O : Nat → Bool) (w : World) (h : MSl w a n F O) (hm : n ≤ 1048576) :
    Calls Try.prog 90 #[.slice a n cap] w (RetNof (nst F O n) w) := by
  have H := Lib.hid h
  clear h
  have HB0 := Lib.hid ((Below.refl w.heap.size w).alloc (Nat.le_refl _) (.cells #[.float .f32 0, .bool false] 93))
  have HI0 := Lib.hid (show BstI w.heap.size 0 false (w.alloc (.cells #[.float .f32 0, .bool false] 93)) from
    ⟨by rw [World.cell?_alloc_at _ _ _ _ rfl]; rfl, by rw [World.cell?_alloc_at _ _ _ _ rfl]; rfl, World.frozen?_alloc_at _ _ _ _ rfl, World.frozen?_alloc_at _ _ _ _ rfl⟩)
  go_enter Try.func90, Try.ntmps90
  go_wp2
  go_loopw [6, 11] (fun c i wr => ∃ k : Nat, k ≤ n ∧ i = .int .i64 k ∧ c = .int .i64 ((nst F O k).at_ : Int) ∧ Hid (BstI w.heap.size (nst F O k).x (nst F O k).ok wr) ∧ Hid (Below w.heap.size w wr) ∧ w.heap.size < wr.heap.size) (fun _ i _ => n - (intOf i).toNat)
  case atStart => exact ⟨0, Nat.zero_le _, rfl, rfl, HI0, HB0, by simp⟩
  case round =>
    rename World => wo
    obtain ⟨k, hk, rfl, rfl, hb, hbel, hsz⟩ := hrel
    by_cases hlt : k < n
    · obtain ⟨b, off, rfl, hblt, hc⟩ : ∃ b off, a = some ⟨b, off, none⟩ ∧ b < w.heap.size ∧ ∀ j, j < n → w.cell? ⟨b, off + j * 2, none⟩ = some (.float .f32 (F j)) ∧ w.cell? ⟨b, off + j * 2 + 1, none⟩ = some (.bool (O j)) := by
        rcases H.out with h0 | h0
        · omega
        · exact h0
      obtain ⟨hc1, hc2⟩ := hc k hlt
      rw [← hbel.out.cell (p := ⟨b, off + k * 2, none⟩) hblt] at hc1
      rw [← hbel.out.cell (p := ⟨b, off + k * 2 + 1, none⟩) hblt] at hc2
      clear hc
      have HU := Lib.hid (fun (o : Obj) => (Below.refl wo.heap.size wo).alloc (Nat.le_refl _) o)
      have HSt := Lib.hid (show nst F O (k + 1) = if O k && (!(nst F O k).ok || ltF (F k) (nst F O k).x) then ⟨k, F k, true⟩ else nst F O k from rfl)
      have HKo := Lib.hid (show ∀ o, BstI w.heap.size (nst F O k).x (nst F O k).ok (wo.alloc o) from fun o =>
        ⟨by rw [(HU.out o).cell (p := ⟨w.heap.size, 0, none⟩) hsz]; exact hb.out.x, by rw [(HU.out o).cell (p := ⟨w.heap.size, 1, none⟩) hsz]; exact hb.out.o, by rw [(HU.out o).frozen (p := ⟨w.heap.size, 0, none⟩) hsz]; exact hb.out.fx, by rw [(HU.out o).frozen (p := ⟨w.heap.size, 1, none⟩) hsz]; exact hb.out.fo⟩)
      have HBo := Lib.hid (show ∀ o, Below w.heap.size w (wo.alloc o) from fun o => hbel.out.alloc (Nat.le_of_lt hsz) o)
      generalize nst F O k = S at *
      obtain ⟨A, X, B⟩ := S
      simp only at HSt HKo
      have hw1 := hb.out.x
      have hw2 := hb.out.o
      have hw3 := hb.out.fx
      have hw4 := hb.out.fo
      simp only at hw1 hw2
      cases hO : O k
      · rw [hO] at hc2
        have HS := Lib.hid (show nst F O (k + 1) = ⟨A, X, B⟩ by rw [HSt.out, hO]; rfl)
        have HK := Lib.hid (Lib.hid (HKo.out (.cells #[.float .f32 (F k), .bool false] 93)))
        have HBl := Lib.hid (Lib.hid (HBo.out (.cells #[.float .f32 (F k), .bool false] 93)))
        clear hO HSt HKo HBo hb hbel HU
        go_wp2
        go_roundw
        case rel => exact ⟨k + 1, by omega, by go_num, by rw [HS.out], by rw [HS.out]; exact HK.out, HBl.out, by simp; omega⟩
        case measure => simp [intOf]; omega
      · rw [hO] at hc2
        have hK := HKo.out (.cells #[.float .f32 (F k), .bool true] 93)
        have hk1 := hK.x
        have hk2 := hK.o
        have hk3 := hK.fx
        have hk4 := hK.fo
        have HSet := Lib.hid (show BstI w.heap.size (F k) true ((((wo.setCell ⟨w.heap.size, 0, none⟩ (.float .f32 (F k))).setCell ⟨w.heap.size, 1, none⟩ (.bool true)).alloc (.cells #[.float .f32 (F k), .bool true] 93)).drew) from
          BstI.below (wr := (wo.setCell ⟨w.heap.size, 0, none⟩ (.float .f32 (F k))).setCell ⟨w.heap.size, 1, none⟩ (.bool true))
          ⟨by rw [setCell_far (by omega)]; exact World.cell?_setCell_same' _ _ _ ((congrArg Option.isSome hw1).trans rfl), World.cell?_setCell_same' _ _ _ (by rw [setCell_far (by omega)]; exact (congrArg Option.isSome hw2).trans rfl), by rw [World.frozen?_setCell, World.frozen?_setCell]; exact hw3, by rw [World.frozen?_setCell, World.frozen?_setCell]; exact hw4⟩ (by simpa [World.setCell] using hsz) (below_drewN ((Below.refl _ _).alloc (Nat.le_refl _) _) 1))
        have HBl := Lib.hid (Lib.hid (HBo.out (.cells #[.float .f32 (F k), .bool true] 93)))
        have HBl2 := Lib.hid (show Below w.heap.size w ((((wo.setCell ⟨w.heap.size, 0, none⟩ (.float .f32 (F k))).setCell ⟨w.heap.size, 1, none⟩ (.bool true)).alloc (.cells #[.float .f32 (F k), .bool true] 93)).drew) from
          below_drewN (((hbel.out.setCell (Nat.le_refl _) _).setCell (Nat.le_refl _) _).alloc (by simp [World.setCell]; omega) _) 1)
        have HK := Lib.hid (Lib.hid hK)
        have hsz1 : w.heap.size ≠ wo.heap.size := by omega
        clear hK HKo HBo hb hbel HU
        cases hB : B
        · rw [hB] at hk2 hw2
          have HS := Lib.hid (show nst F O (k + 1) = ⟨k, F k, true⟩ by rw [HSt.out, hO, hB]; rfl)
          clear hO HSt hB HK
          go_wp2
          go_region
          all_goals
            go_wp2
            go_roundw
            case rel => exact ⟨k + 1, by omega, by go_num, by rw [HS.out], by rw [HS.out]; exact HSet, HBl2, by simp [World.setCell]; omega⟩
            case measure => simp [intOf]; omega
        · rw [hB] at hk2 hw2
          cases hl : ltF (F k) X
          · have ho : ((FloatKind.format .f32).order (F k) X == some Ordering.lt) = false := hl
            have HS := Lib.hid (show nst F O (k + 1) = ⟨A, X, B⟩ by rw [HSt.out, hO, hB, hl]; rfl)
            clear hO HSt hl hB
            go_wp2
            go_roundw
            case rel => exact ⟨k + 1, by omega, by go_num, by rw [HS.out], by rw [HS.out]; exact HK.out, HBl.out, by simp; omega⟩
            case measure => simp [intOf]; omega
          · have ho : ((FloatKind.format .f32).order (F k) X == some Ordering.lt) = true := hl
            have HS := Lib.hid (show nst F O (k + 1) = ⟨k, F k, true⟩ by rw [HSt.out, hO, hl]; simp)
            clear hO HSt hl hB HK
            go_wp2
            go_region
            all_goals
              go_wp2
              go_roundw
              case rel => exact ⟨k + 1, by omega, by go_num, by rw [HS.out], by rw [HS.out]; exact HSet, HBl2, by simp [World.setCell]; omega⟩
              case measure => simp [intOf]; omega
    · have e : k = n := by omega
      have h1 := hb.out.x
      have h2 := hb.out.o
      have HR := Lib.hid e
      clear e
      generalize hS : nst F O k = S at *
      obtain ⟨A, X, B⟩ := S
      have HV := Lib.hid hS
      clear hS
      go_wp2
      go_region
      all_goals
        go_wp2
        go_ret3
        exact ⟨by rw [← HR.out, HV.out]; rfl, below_drewN hbel.out _⟩
end Go.Proofs.Ytpaelafopjmklaa
