/-
  EvenSeries, in both packages.
-/
import Derived.Test.YtpaelafopjmklaaCBox
import Derived.Test.YtpaelafopjmklaaCSpo
import Derived.Laws.OwnMore
import Derived.Deep.RegionHeld3
import Derived.Deep.QuietTactic
import Derived.BigQuiet
namespace Go.Proofs.Ytpaelafopjmklaa
open Ieee Go.RowKit
set_option linter.unusedVariables false

theorem fin_datum {k : FloatKind} {x : Nat} (h : fin k x = true) : ∃ s m p, k.format.read x = .number s m p := by
  unfold fin isN isI at h
  cases hr : k.format.read x with
  | number s m p => exact ⟨s, m, p, rfl⟩
  | infinity s => rw [hr] at h; simp [Datum.isNaN, Datum.isInfinity] at h
  | nan s t => rw [hr] at h; simp [Datum.isNaN, Datum.isInfinity] at h
theorem order_fin {x y : Nat} (hx : fin .f32 x = true) (hy : fin .f32 y = true) : (FloatKind.format .f32).order x y ≠ none := by
  obtain ⟨s, m, p, h1⟩ := fin_datum hx
  obtain ⟨s', m', p', h2⟩ := fin_datum hy
  unfold Format.order
  rw [h1, h2]
  simp [Datum.order]
def posB (x : Nat) : Bool := (FloatKind.format .f32).order x 0 == some .gt
theorem posB_congr {x y : Nat} (h : cn .f32 x = cn .f32 y) : posB x = posB y := by unfold posB; rw [order_left .f32 h 0]
/-- Series whose spread is finite and greater than 0. -/
def evnB0 (zs : List Nat) : Bool := spreadB zs && posB (spread32 zs)
def evnT (zs : List Nat) (j : Nat) : Nat := aop .quo .f32 (aop .sub .f32 (cn .f32 (zs.getD j 0)) (mean32 zs)) (spread32 zs)
def evnL (zs : List Nat) : List Nat := tells (evnT zs) zs.length
def evnB (zs : List Nat) : Bool := evnB0 zs && fins (evnL zs)
def evnR (zs : List Nat) : List Nat := if evnB0 zs then lstR (evnL zs) else []
theorem evn_ser {zs : List Nat} (h : evnB0 zs = true) : serB zs = true ∧ spreadB zs = true ∧ posB (spread32 zs) = true ∧ fin .f32 (spread32 zs) = true := by
  unfold evnB0 at h
  have h1 := (Bool.and_eq_true _ _ ▸ h).1
  have h2 := (Bool.and_eq_true _ _ ▸ h).2
  have h3 := h1
  unfold spreadB at h3
  exact ⟨(Bool.and_eq_true _ _ ▸ h3).1, h1, h2, (Bool.and_eq_true _ _ ▸ h3).2⟩
theorem evnR_len (zs : List Nat) : (evnR zs).length ≤ 1048576 := by
  unfold evnR
  split
  · rename_i h
    have := (serB_t (evn_ser h).1).2.1
    unfold lstR
    split
    · unfold evnL; rw [tells_len]; omega
    · simp
  · simp
theorem evn_bad {zs : List Nat} (h : evnB0 zs = false) : evnB zs = false ∧ evnR zs = [] := by unfold evnB evnR; rw [h]; exact ⟨rfl, rfl⟩
theorem evn_good {zs : List Nat} (h : evnB0 zs = true) : evnB zs = fins (evnL zs) ∧ evnR zs = lstR (evnL zs) := by unfold evnB evnR; rw [h]; exact ⟨rfl, rfl⟩

/-- What the closure of EvenSeries reads. -/
def EvnI (bl bm bs : Nat) (a : Option Addr) (len cap : Nat) (zs : List Nat) (_k : Nat) (wr : World) : Prop :=
  BoxI bl a len cap zs wr ∧ (∃ x, wr.cell? ⟨bm, 0, none⟩ = some (.float .f32 x) ∧ cn .f32 x = mean32 zs) ∧ ∃ y, wr.cell? ⟨bs, 0, none⟩ = some (.float .f32 y) ∧ cn .f32 y = spread32 zs
theorem EvnI.keep {bl bm bs B : Nat} {a : Option Addr} {len cap k : Nat} {zs : List Nat} {wr wr' : World} (h : EvnI bl bm bs a len cap zs k wr) (h1 : bl < B) (h2 : bm < B) (h3 : bs < B) (hb : Below B wr wr') : EvnI bl bm bs a len cap zs k wr' := by
  obtain ⟨g1, ⟨x, hx, hx2⟩, y, hy, hy2⟩ := h
  exact ⟨g1.keep h1 hb, ⟨x, by rw [hb.cell (p := ⟨bm, 0, none⟩) h2]; exact hx, hx2⟩, y, by rw [hb.cell (p := ⟨bs, 0, none⟩) h3]; exact hy, hy2⟩
theorem evn1_any (bl bm bs B0 B : Nat) (a : Option Addr) (len cap j : Nat) (zs : List Nat) (wr : World) (h : EvnI bl bm bs a len cap zs j wr) (hj : j < len) (hl : zs.length = len) (hm : len ≤ 96) :
    Calls Try.prog 100 #[.int .i64 j, .pointer (some ⟨bl, 0, none⟩), .pointer (some ⟨bm, 0, none⟩), .pointer (some ⟨bs, 0, none⟩)] wr (Tells (evnT zs) (EvnI bl bm bs a len cap zs) B0 B j wr) := by
  have HI := Lib.hid h
  obtain ⟨hbx, ⟨x, hx, hx2⟩, y, hy, hy2⟩ := h
  have hb1 := hbx.1
  obtain ⟨b, off, rfl, hb, hc⟩ := hbx.2 (by omega)
  have hcj := hc j hj
  have HT := Lib.hid (show ∀ z, zs.getD j 0 = z → ∀ w1 w2, cn .f32 (fopR .quo .f32 (fopR .sub .f32 z x w1) y w2) = evnT zs j from fun z hz w1 w2 => by rw [cn_fopR, cn_fopR, hx2, hy2, ← hz]; rfl)
  obtain ⟨z, hz⟩ : ∃ z, zs.getD j 0 = z := ⟨_, rfl⟩
  rw [hz] at hcj
  have HTz := Lib.hid (HT.out z hz)
  clear hc hb HT hz hx2 hy2 hbx
  go_enter Try.func100, Try.ntmps100
  go_wp2
  go_region
  all_goals
    go_wp2
    go_ret
    exact ⟨_, rfl, HTz.out _ _, HI.out.keep (B := bl + bm + bs + 1) (by omega) (by omega) (by omega) (below_drewN (Below.refl _ _) _), below_drewN (Below.refl _ _) _, rfl⟩
theorem EvnI.start {w : World} {a : Option Addr} {len cap m m2 r x : Nat} {zs : List Nat} {t t' t2 : TypeId} (h : FSl w a len zs) (hr : cn .f32 r = spread32 zs) (hx : cn .f32 x = mean32 zs) :
    EvnI w.heap.size (w.heap.size + 1 + 1) (w.heap.size + 1) a len cap zs 0 (((((w.alloc (.cells #[.slice a len cap] t)).drewN m).alloc (.cells #[.float .f32 r] t')).drewN m2).alloc (.cells #[.float .f32 x] t2)) := by
  have hB : Below (w.heap.size + 1) (w.alloc (.cells #[.slice a len cap] t)) (((((w.alloc (.cells #[.slice a len cap] t)).drewN m).alloc (.cells #[.float .f32 r] t')).drewN m2).alloc (.cells #[.float .f32 x] t2)) :=
    (below_drewN ((below_drewN (Below.refl _ _) m).alloc (by simp) _) m2).alloc (by simp) _
  refine ⟨(BoxI.start h).keep (Nat.lt_succ_self _) hB, ⟨x, ?_, hx⟩, r, ?_, hr⟩
  · rw [World.cell?_alloc_at _ _ _ _ (by simp)]; rfl
  · rw [World.cell?_alloc_past _ _ _ (by simp)]
    show (((w.alloc _).drewN m).alloc _).cell? _ = _
    rw [World.cell?_alloc_at _ _ _ _ (by simp)]; rfl
theorem implEvn_any (a : Option Addr) (len cap : Nat) (zs : List Nat) (w : World) (h : FSl w a len zs) (hm : len ≤ 1048576) :
    Calls Try.prog 58 #[.slice a len cap] w (RetOB 23 (evnR zs) (evnB zs) w) := by
  have hmf : ∀ (fn : Fn) (first cap : Array Value) (w : World), (Instr.makeFunc fn first cap).run Try.prog w = .ok (.func fn first cap) w := fun _ _ _ _ => rfl
  have H := Lib.hid h
  have HL := Lib.hid h.1
  clear h
  cases hs : spreadB zs
  · have HS := Lib.hid hs
    have HB := Lib.hid (evn_bad (zs := zs) (by unfold evnB0; rw [hs]; rfl))
    clear hs
    go_enter Try.func58, Try.ntmps58
    go_wp2_with (go_at_call 98; refine (implSpread_any _ _ _ _ _ (FSl.below H.out ((Below.refl _ _).alloc (Nat.le_refl _) _)) hm).mono ?_; rw [HS.out]; rintro e w' ⟨r, m, hr, rfl, rfl⟩; clear hr)
    go_ret2
    exact fail_ob _ HB.out.1 HB.out.2 ((below_drewN ((Below.refl w.heap.size w).alloc (Nat.le_refl _) _) m).alloc (by simp) _)
  · have HS := Lib.hid hs
    have hse : serB zs = true := (Bool.and_eq_true _ _ ▸ (show (serB zs && fin .f32 (spread32 zs)) = true from hs)).1
    have hfs : fin .f32 (spread32 zs) = true := (Bool.and_eq_true _ _ ▸ (show (serB zs && fin .f32 (spread32 zs)) = true from hs)).2
    have hl := (serB_t hse).2.1
    rw [HL.out] at hl
    have HFS := Lib.hid hfs
    have HV := Lib.hid (show spreadR zs = spread32 zs by unfold spreadR; rw [hs]; rfl)
    have HM := Lib.hid (spread_mean hs)
    have HMV := Lib.hid (show meanR zs = mean32 zs by unfold meanR; rw [spread_mean hs]; rfl)
    have HE := Lib.hid (show evnB0 zs = posB (spread32 zs) by unfold evnB0; rw [hs]; rfl)
    clear hs hse hfs
    go_enter Try.func58, Try.ntmps58
    go_wp2_with fail
    refine (implSpread_any _ _ _ _ _ (FSl.below H.out ((Below.refl _ _).alloc (Nat.le_refl _) _)) hm).mono ?_
    rw [HS.out, HV.out]
    rintro e w' ⟨r, m, hr, rfl, rfl⟩
    have HR := Lib.hid hr
    have HFr := Lib.hid (show fin .f32 r = true from (fin_congr (hr.trans (cn_spread zs).symm)).trans HFS.out)
    have HP := Lib.hid (show posB r = evnB0 zs from (posB_congr (hr.trans (cn_spread zs).symm)).trans HE.out.symm)
    clear hr
    cases ho : (FloatKind.format .f32).order r 0 with
    | none => exact absurd ho (order_fin HFr.out (by decide +kernel))
    | some o =>
      cases hg : posB r
      · have hgt : o ≠ .gt := fun e => by unfold posB at hg; rw [ho, e] at hg; cases hg
        have HB := Lib.hid (evn_bad (HP.out.symm.trans hg))
        cases o with
        | gt => exact absurd rfl hgt
        | lt =>
          clear hg hgt
          go_wp2
          go_ret2
          exact fail_ob _ HB.out.1 HB.out.2 ((below_drewN ((Below.refl w.heap.size w).alloc (Nat.le_refl _) _) m).alloc (by simp) _)
        | eq =>
          clear hg hgt
          go_wp2
          go_ret2
          exact fail_ob _ HB.out.1 HB.out.2 ((below_drewN ((Below.refl w.heap.size w).alloc (Nat.le_refl _) _) m).alloc (by simp) _)
      · have HB := Lib.hid (evn_good (HP.out.symm.trans hg))
        obtain rfl : o = .gt := by unfold posB at hg; rw [ho] at hg; cases o <;> first | rfl | cases hg
        clear hg
        go_wp2_with fail
        refine (implMean_any _ _ _ _ _ (FSl.below H.out ((below_drewN ((Below.refl w.heap.size w).alloc (Nat.le_refl _) _) m).alloc (by simp) _)) hm).mono ?_
        rw [HM.out, HMV.out]
        rintro e w' ⟨x, m2, hx, rfl, rfl⟩
        have HX := Lib.hid hx
        clear hx ho
        go_wp2_with fail
        have HI := Lib.hid (EvnI.start (m := m) (m2 := m2) (cap := cap) (t := 22) (t' := 23) (t2 := 23) H.out HR.out HX.out)
        refine (places_any 100 #[.pointer (some ⟨w.heap.size, 0, none⟩), .pointer (some ⟨w.heap.size + 1 + 1, 0, none⟩), .pointer (some ⟨w.heap.size + 1, 0, none⟩)] (evnT zs) (EvnI w.heap.size (w.heap.size + 1 + 1) (w.heap.size + 1) a len cap zs) w.heap.size len _ (enter_of Try.func100 (by kernel_rfl) rfl) hm (by simp; omega) HI.out (fun k wr wr' h hb => h.keep (by simp; omega) (by simp) (by simp) hb) (fun k wr hk hsz hI => evn1_any _ _ _ _ _ _ _ _ _ _ _ hI hk HL.out hl)).mono ?_
        rintro e w1 ⟨v, rs, rfl, ho, hx, hb⟩
        have HO := Lib.hid (ho.mono (show w.heap.size ≤ _ by simp; omega))
        have HE2 := Lib.hid (show tells (evnT zs) len = evnL zs by unfold evnL; rw [HL.out])
        have HX2 := Lib.hid (show cnl rs = evnR zs by rw [hx, HE2.out, HB.out.2])
        have HBl := Lib.hid (((below_drewN ((below_drewN ((Below.refl w.heap.size w).alloc (Nat.le_refl _) _) m).alloc (by simp) _) m2).alloc (by simp; omega) _).trans hb)
        have HT := Lib.hid (show fins (tells (evnT zs) len) = evnB zs by rw [HE2.out, HB.out.1])
        rw [HT.out]
        clear ho hx hb
        go_wp2
        go_ret2
        exact ⟨v, rs, rfl, HO.out, HX2.out, HBl.out⟩

theorem FOwn.put {T : TypeId} {B g n cap : Nat} {w : World} {rs : List Nat} (h : FOwn T B w (.slice (some ⟨g, 0, none⟩) n cap) rs) (hn : rs.length = n) (j r : Nat) : FOwn T B (w.setCell ⟨g, j, none⟩ (.float .f32 r)) (.slice (some ⟨g, 0, none⟩) n cap) (rs.set j r) := by
  subst hn
  have := (World.ownsRow.stored h j (.float .f32 r)).1
  unfold FOwn
  rw [List.length_set, List.map_set]
  exact this
theorem FOwn.blk {T : TypeId} {B n : Nat} {w : World} {v : Value} {rs : List Nat} (h : FOwn T B w v rs) (hn : rs.length = n) (h0 : 0 < n) : ∃ g cap, v = .slice (some ⟨g, 0, none⟩) n cap ∧ B ≤ g := by
  obtain ⟨A, cap, rfl, _, hf⟩ := h.sl
  obtain ⟨b, rfl, hB, _⟩ := hf 0 (by omega)
  exact ⟨b, cap, by rw [hn], hB⟩
theorem FOwn.cell {T : TypeId} {B g n cap : Nat} {w : World} {rs : List Nat} (h : FOwn T B w (.slice (some ⟨g, 0, none⟩) n cap) rs) (hn : rs.length = n) {j : Nat} (hj : j < n) : w.cell? ⟨g, j, none⟩ = some (.float .f32 (rs.getD j 0)) ∧ w.frozen? ⟨g, j, none⟩ = false := by
  subst hn
  refine ⟨?_, World.ownsRow.frozenAt h j⟩
  rw [World.ownsRow.cellAt h j (by omega)]
  simp [List.getD, hj]
def mixE (zs : List Nat) (k : Nat) : List Nat := tells (fun j => if j < k then evnT zs j else aop .sub .f32 (cn .f32 (zs.getD j 0)) (mean32 zs)) zs.length
theorem mixE_0 (zs : List Nat) : mixE zs 0 = less32 zs (mean32 zs) := by
  unfold mixE tells less32
  refine List.ext_getElem (by simp) fun i h1 h2 => ?_
  have : i < zs.length := by simpa using h1
  simp [List.getD, this]
theorem mixE_n (zs : List Nat) : mixE zs zs.length = evnL zs := by
  unfold mixE evnL
  exact tells_congr fun k hk => by rw [if_pos hk]
theorem mixE_at {zs : List Nat} {k : Nat} (hk : k < zs.length) : (mixE zs k).getD k 0 = aop .sub .f32 (cn .f32 (zs.getD k 0)) (mean32 zs) := by
  unfold mixE
  rw [tells_at _ hk, if_neg (by omega)]
theorem mixE_step {zs rs : List Nat} {k r : Nat} (h : cnl rs = mixE zs k) (hk : k < zs.length) (hr : cn .f32 r = evnT zs k) : cnl (rs.set k r) = mixE zs (k + 1) := by
  have hl : rs.length = zs.length := by rw [← cnl_len, h]; unfold mixE; rw [tells_len]
  refine List.ext_getElem (by rw [cnl_len, List.length_set, hl]; unfold mixE; rw [tells_len]) fun i h1 h2 => ?_
  have hi : i < zs.length := by rw [cnl_len, List.length_set] at h1; omega
  have e1 : (cnl (rs.set k r))[i] = if k = i then cn .f32 r else (cnl rs)[i]'(by rw [cnl_len]; omega) := by
    unfold cnl
    simp [List.getElem_set]
  rw [e1]
  have e2 : (mixE zs (k + 1))[i] = if i < k + 1 then evnT zs i else aop .sub .f32 (cn .f32 (zs.getD i 0)) (mean32 zs) := by
    simp [mixE, tells]
  rw [e2]
  by_cases e : k = i
  · subst e; rw [if_pos rfl, if_pos (by omega), hr]
  · rw [if_neg e]
    have e3 : (cnl rs)[i]'(by rw [cnl_len]; omega) = (mixE zs k)[i]'(by unfold mixE; rw [tells_len]; exact hi) := by congr 1
    rw [e3]
    simp [mixE, tells]
    split <;> split <;> first | rfl | (exfalso; omega)
theorem above_any (x : Nat) (w : World) : Calls Try.prog 97 #[.float .f32 x] w (RetV (.bool (fin .f32 x && posB x)) w) := by
  cases hf : fin .f32 x
  · have HF := Lib.hid hf
    clear hf
    go_enter Try.func97, Try.ntmps97
    go_wp2_with (go_at_call 91; refine (l01Finite_any _ _).mono ?_; rw [HF.out]; rintro e w' ⟨m, rfl, rfl⟩)
    go_ret
    exact ⟨m, rfl, rfl⟩
  · have HF := Lib.hid hf
    have HP := Lib.hid (show posB x = ((FloatKind.format .f32).order x 0 == some .gt) from rfl)
    clear hf
    go_enter Try.func97, Try.ntmps97
    go_wp2_with (go_at_call 91; refine (l01Finite_any _ _).mono ?_; rw [HF.out]; rintro e w' ⟨m, rfl, rfl⟩)
    go_ret
    exact ⟨m, congrArg (fun b => Ending.returned (Value.bool b)) (by rw [HP.out]; rfl), rfl⟩
end Go.Proofs.Ytpaelafopjmklaa
