/-
  'missTold' of the program, over any function of a number and its guess.
-/
import Derived.Test.YthlpmbddpenpmaaPr2
import Derived.Deep.RegionHeld3
import Derived.Deep.RegionWith
namespace Go.Proofs.Ythlpmbddpenpmaa
open Ieee Go.RowKit
set_option linter.unusedVariables false

/-- What the closure of missTold reads. -/
def MisI (bl bg bt : Nat) (a : Option Addr) (len cap : Nat) (zs : List Nat) (a' : Option Addr) (len' cap' : Nat) (ys : List Nat) (K : FuncId) (caps : Array Value) (J : World → Prop) (_k : Nat) (wr : World) : Prop :=
  BoxI bl a len cap zs wr ∧ BoxI bg a' len' cap' ys wr ∧ wr.cell? ⟨bt, 0, none⟩ = some (.func (.func K) #[] caps) ∧ J wr
set_option maxHeartbeats 2000000 in
theorem mis1_any (bl bg bt B0 B k : Nat) (a : Option Addr) (len cap : Nat) (zs : List Nat) (a' : Option Addr) (len' cap' : Nat) (ys : List Nat) (K : FuncId) (caps : Array Value) (J : World → Prop) (T : Nat → Nat → Nat) (wr : World)
    (hen : ∀ args w, (callFunc K args).run Try.prog w = .ok (.enter K args) w)
    (hJ : ∀ wr n, J wr → J (wr.drewN n))
    (hK : ∀ x y wr, J wr → Calls Try.prog K (#[.float .f32 x, .float .f32 y] ++ caps) wr (RetF .f32 (T (cn .f32 x) (cn .f32 y)) wr))
    (h : MisI bl bg bt a len cap zs a' len' cap' ys K caps J k wr) (hk : k < len) (hk' : k < len') (hm : len ≤ 1048576) (hm' : len' ≤ 1048576) :
    Calls Try.prog 90 #[.int .i64 k, .pointer (some ⟨bt, 0, none⟩), .pointer (some ⟨bl, 0, none⟩), .pointer (some ⟨bg, 0, none⟩)] wr (Tells (tell2 T zs ys) (MisI bl bg bt a len cap zs a' len' cap' ys K caps J) B0 B k wr) := by
  have HI := Lib.hid h
  obtain ⟨⟨hc, hb⟩, ⟨hc', hb'⟩, ht, hj⟩ := h
  obtain ⟨b, off, rfl, _, hcs⟩ := hb (by omega)
  obtain ⟨b', off', rfl, _, hcs'⟩ := hb' (by omega)
  have hck := hcs k hk
  have hck' := hcs' k hk'
  have HT := Lib.hid (show tell2 T zs ys k = T (cn .f32 (zs.getD k 0)) (cn .f32 (ys.getD k 0)) from rfl)
  have HK := Lib.hid hK
  have HJ := Lib.hid hJ
  have Hj := Lib.hid hj
  have Hd := Lib.hid (show J wr.drew from hJ wr 1 hj)
  clear hcs hcs' hb hb' hK hj hJ
  generalize zs.getD k 0 = z at *
  generalize ys.getD k 0 = y at *
  go_enter Try.func90, Try.ntmps90
  go_wp2
  go_region_held3 (fun w' => w'.cell? ⟨bt, 0, none⟩ = some (.func (.func K) #[] caps) ∧ w'.cell? ⟨bl, 0, none⟩ = some (.slice (some ⟨b, off, none⟩) len cap) ∧ w'.cell? ⟨bg, 0, none⟩ = some (.slice (some ⟨b', off', none⟩) len' cap') ∧ w'.cell? ⟨b, off + k, none⟩ = some (.float .f32 z) ∧ w'.cell? ⟨b', off' + k, none⟩ = some (.float .f32 y)) (go_keep) (first | ((first | with_reducible refine (HK.out _ _ _ Hd.out).mono ?_ | with_reducible refine (HK.out _ _ _ Hj.out).mono ?_); rintro e w' ⟨r, n, hr, rfl, rfl⟩; have HR := Lib.hid hr; clear hr))
  all_goals
    go_wp2
    go_ret
    exact Tells.quiet (HR.out.trans HT.out.symm) ⟨HI.out.1, HI.out.2.1, HI.out.2.2.1, HJ.out _ _ Hj.out⟩
set_option maxHeartbeats 2000000 in
set_option maxRecDepth 100000 in
theorem missTold_any (K : FuncId) (caps : Array Value) (J : World → Prop) (T : Nat → Nat → Nat) (a : Option Addr) (len cap : Nat) (zs : List Nat) (a' : Option Addr) (len' cap' : Nat) (ys : List Nat) (w : World)
    (hen : ∀ args w, (callFunc K args).run Try.prog w = .ok (.enter K args) w) (hcn : ∀ x y, cn .f32 (T x y) = T x y)
    (hJ : ∀ wr wr', J wr → Below w.heap.size wr wr' → J wr') (h0 : J w)
    (hK : ∀ x y wr, J wr → Calls Try.prog K (#[.float .f32 x, .float .f32 y] ++ caps) wr (RetF .f32 (T (cn .f32 x) (cn .f32 y)) wr))
    (h : FSl w a len zs) (h' : FSl w a' len' ys) (hm : len ≤ 1048576) (hm' : len' ≤ 1048576) :
    Calls Try.prog 48 #[.slice a len cap, .slice a' len' cap', .func (.func K) #[] caps] w (RetFBk (msV T zs ys) (msB T zs ys) w.heap.size w) := by
  have hmf : ∀ (fn : Fn) (first cap : Array Value) (w : World), (Instr.makeFunc fn first cap).run Try.prog w = .ok (.func fn first cap) w := fun _ _ _ _ => rfl
  have HL := Lib.hid h.1
  have HL' := Lib.hid h'.1
  have HCn := Lib.hid hcn
  have HJ := Lib.hid hJ
  have HK := Lib.hid hK
  have b1 := (Below.refl w.heap.size w).alloc (Nat.le_refl _) (.cells #[.slice a len cap] 22)
  have b2 := b1.alloc (by simp <;> omega) (.cells #[.slice a' len' cap'] 22)
  have b3 := b2.alloc (by simp <;> omega) (.cells #[.func (.func K) #[] caps] 53)
  have X1 := BoxI.start (cap := cap) (t := 22) h
  have X2 : BoxI (w.heap.size + 1) a' len' cap' ys ((w.alloc (.cells #[.slice a len cap] 22)).alloc (.cells #[.slice a' len' cap'] 22)) := by simpa using BoxI.start (cap := cap') (t := 22) (FSl.below h' b1)
  have X3 : (((w.alloc (.cells #[.slice a len cap] 22)).alloc (.cells #[.slice a' len' cap'] 22)).alloc (.cells #[.func (.func K) #[] caps] 53)).cell? ⟨w.heap.size + 1 + 1, 0, none⟩ = some (.func (.func K) #[] caps) := by
    rw [World.cell?_alloc_at _ _ _ _ (by simp <;> omega)]; rfl
  have G := Lib.hid b3
  have Y1 := Lib.hid ((X1.keep (B := w.heap.size + 1) (by omega) ((Below.refl _ _).alloc (by simp <;> omega) (.cells #[.slice a' len' cap'] 22))).keep (B := w.heap.size + 1) (by omega) ((Below.refl _ _).alloc (by simp <;> omega) (.cells #[.func (.func K) #[] caps] 53)))
  have Y2 := Lib.hid (X2.keep (B := w.heap.size + 1 + 1) (by omega) ((Below.refl _ _).alloc (by simp <;> omega) (.cells #[.func (.func K) #[] caps] 53)))
  have Y3 := Lib.hid X3
  have H1 := Lib.hid (FSl.below h b3)
  have H2 := Lib.hid (FSl.below h' b3)
  have J0 := Lib.hid (hJ _ _ h0 b3)
  have hc1 := Y1.out.1
  have hc2 := Y2.out.1
  clear h h' hcn hJ hK h0 b1 b2 b3 X1 X2
  go_enter Try.func48, Try.ntmps48
  go_wp2_with fail
  refine (implAre_any _ 2 2 [⟨a, len, cap, zs⟩, ⟨a', len', cap', ys⟩] _ (by simpa using RSl.pair (cap := cap) (cap' := cap') 22 H1.out H2.out hm hm') (by omega)).mono ?_
  rintro e w' ⟨m, rfl, rfl⟩
  rw [are_pair]
  have G2 := Lib.hid (below_drewN (G.out.alloc (by simp <;> omega) (.cells #[.slice a len cap, .slice a' len' cap'] 22)) m)
  cases hp : pairB zs ys
  · have HB := Lib.hid (ms_bad (T := T) hp)
    clear hp
    go_wp2
    go_ret2
    exact ⟨0, by rw [HB.out.2]; exact cn_zero, by rw [HB.out.1]; rfl, G2.out⟩
  · obtain ⟨hs, hs', hll⟩ := pairB_t hp
    obtain ⟨l1, l2, _⟩ := serB_t hs
    rw [HL.out] at l1 l2 hll
    rw [HL'.out] at hll
    subst hll
    have HB := Lib.hid (ms_good (T := T) hp)
    have hk1 : ∀ {bl : Nat} {A : Option Addr} {l c : Nat} {xs : List Nat} {W : World} (o : Obj) (n : Nat), bl < W.heap.size → BoxI bl A l c xs W → BoxI bl A l c xs ((W.alloc o).drewN n) := fun o n hb hx => hx.keep hb (below_drewN ((Below.refl _ _).alloc (Nat.le_refl _) o) n)
    have HI0 := Lib.hid (show MisI w.heap.size (w.heap.size + 1) (w.heap.size + 1 + 1) a len cap zs a' len cap' ys K caps J 0 (((((w.alloc (.cells #[.slice a len cap] 22)).alloc (.cells #[.slice a' len cap'] 22)).alloc (.cells #[.func (.func K) #[] caps] 53)).alloc (.cells #[.slice a len cap, .slice a' len cap'] 22)).drewN m) from
      ⟨hk1 _ _ (by simp <;> omega) Y1.out, hk1 _ _ (by simp <;> omega) Y2.out, by
        rw [show ∀ (W : World) (n : Nat) (p : Addr), (W.drewN n).cell? p = W.cell? p from fun _ _ _ => rfl, World.cell?_alloc_past _ _ _ (by simp <;> omega)]; exact Y3.out, HJ.out _ _ J0.out (below_drewN ((Below.refl _ _).alloc (by repeat (first | omega | simp)) _) m)⟩)
    have hd1 := HI0.out.1.1
    clear hp hs hs' hk1
    go_wp2_with fail
    refine (meanTold_any 90 #[.pointer (some ⟨w.heap.size + 1 + 1, 0, none⟩), .pointer (some ⟨w.heap.size, 0, none⟩), .pointer (some ⟨w.heap.size + 1, 0, none⟩)] (tell2 T zs ys) (MisI w.heap.size (w.heap.size + 1) (w.heap.size + 1 + 1) a len cap zs a' len cap' ys K caps J) w.heap.size len _ (enter_of Try.func90 (by kernel_rfl) rfl) hm (by simp <;> omega) HI0.out
      (fun k wr wr' h hb => ⟨h.1.keep (by simp <;> omega) hb, h.2.1.keep (by simp <;> omega) hb, by rw [hb.cell (p := ⟨w.heap.size + 1 + 1, 0, none⟩) (by simp <;> omega)]; exact h.2.2.1, HJ.out _ _ h.2.2.2 (hb.mono (by simp <;> omega))⟩)
      (fun k => HCn.out _ _)
      (fun k wr hk hsz hI => mis1_any _ _ _ _ _ _ _ _ _ _ _ _ _ _ K caps J T _ hen (fun wr n hj => HJ.out _ _ hj (below_drewN (Below.refl _ _) n)) HK.out hI hk (by omega) hm hm')).mono ?_
    rintro e w2 ⟨r, hr, rfl, hb⟩
    have hme := mt_is (xs := tells (tell2 T zs ys) len) (by rw [tells_len]; exact l1) (by rw [tells_len]; exact l2)
    have HR := Lib.hid (show cn .f32 r = msV T zs ys by rw [hr, hme.2, HB.out.2]; unfold msL; rw [HL.out])
    have HE := Lib.hid (show meanB (lstR (tells (tell2 T zs ys) len)) = msB T zs ys by rw [hme.1, HB.out.1]; unfold msL; rw [HL.out])
    have HF := Lib.hid (G2.out.trans hb)
    rw [HE.out]
    clear hr hb hme
    go_wp2
    go_ret2
    exact ⟨r, HR.out, rfl, HF.out⟩
end Go.Proofs.Ythlpmbddpenpmaa
