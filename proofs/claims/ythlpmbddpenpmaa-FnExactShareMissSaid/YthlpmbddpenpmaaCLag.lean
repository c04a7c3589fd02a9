/-
  LagDifferences, in both packages.
-/
import Derived.Test.YthlpmbddpenpmaaCBox
import Derived.Test.YthlpmbddpenpmaaCMea
import Derived.Deep.QuietTactic
import Derived.BigQuiet
import Derived.Test.YthlpmbddpenpmaaFnf
import Derived.Deep.RegionHeld3
import Derived.Deep.AppendLies
namespace Go.Proofs.Ythlpmbddpenpmaa
open Ieee Go.RowKit
set_option linter.unusedVariables false

theorem own_at {T : TypeId} {B : Nat} {wx wr : World} {v : Value} {rs : List Nat} (h : FOwn T B wr v rs) (e : wx.heap = wr.heap) (o : Obj) : (wx.alloc o).ownsRow B T 1 v rs.length (rs.map (Value.float .f32)) := by
  refine World.ownsRow.alloc ⟨h.1, ?_⟩ o
  rw [e]; exact h.2
theorem FOwn.ne {T : TypeId} {B b : Nat} {w : World} {v : Value} {rs : List Nat} (h : FOwn T B w v rs) (hb : b < B) : v.ownBlock ≠ some b := fun e => by have := (h.lt b e).1; omega
theorem push_at {T : TypeId} {B r g c : Nat} {w wy wr w1 : World} {v : Value} {rs : List Nat} (h : FOwn T B wr v rs) (hby : Below B w wy) (hB : B ≤ wy.heap.size)
    (hown : w1.ownsRow B T 1 (.slice (some ⟨g, 0, none⟩) (rs.length + 1) c) (rs.length + 1) (rs.map (Value.float .f32) ++ [.float .f32 r])) (hg : wy.grownBy w1 v.ownBlock) : FOwn T B w1 (.slice (some ⟨g, 0, none⟩) (rs.length + 1) c) (rs ++ [r]) ∧ Below B w w1 := by
  refine ⟨?_, hby.grown hg hB (fun k hk => (h.lt k hk).1)⟩
  unfold FOwn
  rw [List.length_append, List.map_append]
  exact hown

/-- Finite numbers are taken from one another, and added, without a draw. -/
theorem fin_datum {k : FloatKind} {x : Nat} (h : fin k x = true) : ∃ s m p, k.format.read x = .number s m p := by
  unfold fin isN isI at h
  cases hr : k.format.read x with
  | number s m p => exact ⟨s, m, p, rfl⟩
  | infinity s => rw [hr] at h; simp [Datum.isNaN, Datum.isInfinity] at h
  | nan s t => rw [hr] at h; simp [Datum.isNaN, Datum.isInfinity] at h
theorem sub_run {P : Program} (t : TypeId) {x y : Nat} (hx : fin .f32 x = true) (hy : fin .f32 y = true) (w : World) : (binOp .sub t (.float .f32 x) (.float .f32 y)).run P w = .ok (.float .f32 (aop .sub .f32 x y)) w := by
  obtain ⟨s, m, p, h1⟩ := fin_datum hx
  obtain ⟨s', m', p', h2⟩ := fin_datum hy
  have hf : ∃ r, floatBits .sub .f32 x y = some r := by
    show ∃ r, Option.map (FloatKind.format .f32).write (((FloatKind.format .f32).read x).sum (((FloatKind.format .f32).read y).opposite)) = some r
    rw [h1, h2]; exact ⟨_, rfl⟩
  obtain ⟨r, hf⟩ := hf
  rw [run_float_arith w .sub t .f32 x y r hf]
  unfold aop
  rw [hf]; rfl
theorem add_run {P : Program} (t : TypeId) {x y : Nat} (hx : fin .f32 x = true) (hy : fin .f32 y = true) (w : World) : (binOp .add t (.float .f32 x) (.float .f32 y)).run P w = .ok (.float .f32 (aop .add .f32 x y)) w := by
  obtain ⟨s, m, p, h1⟩ := fin_datum hx
  obtain ⟨s', m', p', h2⟩ := fin_datum hy
  have hf : ∃ r, floatBits .add .f32 x y = some r := by
    show ∃ r, Option.map (FloatKind.format .f32).write (((FloatKind.format .f32).read x).sum ((FloatKind.format .f32).read y)) = some r
    rw [h1, h2]; exact ⟨_, rfl⟩
  obtain ⟨r, hf⟩ := hf
  rw [run_float_arith w .add t .f32 x y r hf]
  unfold aop
  rw [hf]; rfl
def lagB (zs : List Nat) (a : Int) : Bool := serB zs && decide (1 ≤ a ∧ a < zs.length)
theorem lagB_t {zs : List Nat} {a : Int} (h : lagB zs a = true) : serB zs = true ∧ 1 ≤ a ∧ a < zs.length ∧ zs.length ≤ 96 := by
  unfold lagB at h
  have h1 := (Bool.and_eq_true _ _ ▸ h).1
  have h2 := of_decide_eq_true (Bool.and_eq_true _ _ ▸ h).2
  exact ⟨h1, h2.1, h2.2, (serB_t h1).2.1⟩
theorem lagB_f {zs : List Nat} {a : Int} (h : lagB zs a = false) (hs : serB zs = true) : a < 1 ∨ (1 ≤ a ∧ zs.length ≤ a) := by
  unfold lagB at h
  rw [hs] at h
  have := of_decide_eq_false (show decide (1 ≤ a ∧ a < zs.length) = false from h)
  omega
def lagZ (zs : List Nat) (n k : Nat) : List Nat := tells (fun j => aop .sub .f32 (cn .f32 (zs.getD (n + j) 0)) (cn .f32 (zs.getD j 0))) k
def lagL (zs : List Nat) (a : Int) : List Nat := lagZ zs a.toNat (zs.length - a.toNat)
def lagOk (zs : List Nat) (a : Int) : Bool := lagB zs a && fins (lagL zs a)
def lagR (zs : List Nat) (a : Int) : List Nat := if lagB zs a then lstR (lagL zs a) else []
theorem lagR_len (zs : List Nat) (a : Int) : (lagR zs a).length ≤ 1048576 := by
  unfold lagR
  split
  · rename_i h
    obtain ⟨_, h1, h2, h3⟩ := lagB_t h
    unfold lstR
    split
    · unfold lagL lagZ
      rw [tells_len]
      omega
    · simp
  · simp
theorem lag_bad {zs : List Nat} {a : Int} (h : lagB zs a = false) : lagOk zs a = false ∧ lagR zs a = [] := by unfold lagOk lagR; rw [h]; exact ⟨rfl, rfl⟩
theorem lag_good {zs : List Nat} {a : Int} (h : lagB zs a = true) : lagOk zs a = fins (lagL zs a) ∧ lagR zs a = lstR (lagL zs a) := by unfold lagOk lagR; rw [h]; exact ⟨rfl, rfl⟩

set_option maxHeartbeats 2000000 in
set_option maxRecDepth 100000 in
theorem specLag_any (a : Option Addr) (len cap : Nat) (zs : List Nat) (q : Int) (w : World) (h : FSl w a len zs) (hm : len ≤ 1048576) (hcap : len ≤ cap) (hcap2 : cap ≤ 1048576) :
    Calls Try.prog 58 #[.slice a len cap, .int .i64 q] w (RetOB 23 (lagR zs q) (lagOk zs q) w) := by
  obtain ⟨i0, hi, hz0, hz1, hz2⟩ := info_parts Try.infoR
  have H := Lib.hid h
  have HL := Lib.hid h.1
  clear h
  cases hB : lagB zs q
  · have HB := Lib.hid (lag_bad hB)
    cases hs : serB zs
    · have HS := Lib.hid hs
      clear hs hB
      go_enter Try.func58, Try.ntmps58
      go_wp2_with (go_at_call 71; refine (specSeries_any _ _ _ _ _ H.out hm).mono ?_; rw [HS.out]; rintro e w' ⟨m, rfl, rfl⟩)
      go_ret2
      exact fail_ob _ HB.out.1 HB.out.2 (below_drewN (Below.refl _ _) _)
    · have hq := lagB_f hB hs
      rw [HL.out] at hq
      have HS := Lib.hid hs
      clear hs hB
      rcases hq with hq | ⟨hq, hq2⟩
      · have hd : decide (q < 1) = true := decide_eq_true hq
        go_enter Try.func58, Try.ntmps58
        go_wp2_with (go_at_call 71; refine (specSeries_any _ _ _ _ _ H.out hm).mono ?_; rw [HS.out]; rintro e w' ⟨m, rfl, rfl⟩)
        go_ret2
        exact fail_ob _ HB.out.1 HB.out.2 (below_drewN (Below.refl _ _) _)
      · have hd : decide (q < 1) = false := decide_eq_false (by omega)
        have hd2 : decide ((len : Int) ≤ q) = true := decide_eq_true hq2
        go_enter Try.func58, Try.ntmps58
        go_wp2_with (go_at_call 71; refine (specSeries_any _ _ _ _ _ H.out hm).mono ?_; rw [HS.out]; rintro e w' ⟨m, rfl, rfl⟩)
        go_ret2
        exact fail_ob _ HB.out.1 HB.out.2 (below_drewN (Below.refl _ _) _)
  · obtain ⟨hs, hq1, hq2, hq3⟩ := lagB_t hB
    obtain ⟨n, rfl⟩ : ∃ n : Nat, q = n := ⟨q.toNat, by omega⟩
    rw [HL.out] at hq2 hq3
    have HS := Lib.hid hs
    have HFi := Lib.hid (serB_t hs).2.2
    have HB := Lib.hid (lag_good hB)
    clear hs hB
    have hn1 : 1 ≤ n := by omega
    have hn2 : n < len := by omega
    have hd : decide ((n : Int) < 1) = false := decide_eq_false (by omega)
    have hd2 : decide ((len : Int) ≤ (n : Int)) = false := decide_eq_false (by omega)
    have hd3 : decide (len ≤ n) = false := decide_eq_false (by omega)
    go_enter Try.func58, Try.ntmps58
    go_wp2_with fail
    refine (specSeries_any _ _ _ _ _ H.out hm).mono ?_
    rw [HS.out]
    rintro e w' ⟨m, rfl, rfl⟩
    have HN := Lib.hid (FOwn.made (T := 23) (B := w.heap.size) (w.drewN m) (Nat.le_refl _))
    have HB0 := Lib.hid ((below_drewN (Below.refl w.heap.size w) m).alloc (Nat.le_refl _) (.cells #[] 23))
    go_wp2
    go_loopw [6, 7] (fun v c wr => ∃ (k i : Nat) (rs : List Nat), i ≤ len ∧ c = .int .i64 i ∧ i = n + k ∧ Hid (rs.length = k) ∧ Hid (FOwn 23 w.heap.size wr v rs) ∧ Hid (cnl rs = lagZ zs n k) ∧ Hid (Below w.heap.size w wr)) (fun _ c _ => len - (intOf c).toNat)
    case atStart => exact ⟨0, n, [], by omega, rfl, by omega, Lib.hid rfl, HN, Lib.hid rfl, HB0⟩
    case round =>
      rename_i wr
      obtain ⟨k, i, rs, hi2, rfl, hik, hrl, hown, hrs, hbel⟩ := hrel
      by_cases hlt : i < len
      · obtain ⟨b, off, rfl, hb, hc⟩ := H.out.at (by omega)
        have hck := hc i hlt
        have hck2 := hc k (by omega)
        rw [← hbel.out.cell (p := ⟨b, off + i, none⟩) hb] at hck
        rw [← hbel.out.cell (p := ⟨b, off + k, none⟩) hb] at hck2
        have hcs := Lib.hid (show cnl (rs ++ [aop .sub .f32 (zs.getD i 0) (zs.getD k 0)]) = lagZ zs n (k + 1) from (cnl_snoc hrs.out (by rw [cn_aop, ← aop_cn, hik])).trans (tells_succ _ k).symm)
        have hsub := fun W => sub_run (P := Try.prog) 23 (fins_at HFi.out (k := i) (by rw [HL.out]; exact hlt)) (fins_at HFi.out (k := k) (by rw [HL.out]; omega)) W
        have hsz := hbel.out.size
        have hrk : rs.length ≤ 1048576 := by have := hrl.out; omega
        have hB' : b < w.heap.size := hb
        clear hc hb H
        generalize zs.getD i 0 = z at *
        generalize zs.getD k 0 = z2 at *
        have hio : IntKind.i64.wrap ((i : Int) - (n : Int)) = (k : Int) := by
          rw [hik]
          have : ((n + k : Nat) : Int) - (n : Int) = (k : Int) := by omega
          rw [this]
          exact IntWalk.i64_in _ (by omega)
        have hi0 : (0 : Int) ≤ (i : Int) := by omega
        have hk0 : (0 : Int) ≤ (k : Int) := by omega
        have hi1 : (i : Int) < (len : Int) := by omega
        have hk1 : (k : Int) < (len : Int) := by omega
        have hb96 : w.heap.size ≤ wr.heap.size + 1 := by omega
        have h3 : rs.length + 1 ≤ maxLen := by unfold maxLen; omega
        have h4 : (rs.length + 1) * 4 ≤ 140737488355328 := by omega
        have ag := hown.out.ne hB'
        have hbw : b < wr.heap.size + 1 := by omega
        have hik2 : i + 1 = n + (k + 1) := by omega
        clear hik
        go_wp2_with fail
        go_region_held3 (fun w' => w'.cell? ⟨b, off + i, none⟩ = some (.float .f32 z) ∧ w'.cell? ⟨b, off + k, none⟩ = some (.float .f32 z2)) (first | go_keep | (go_split_ands; refine ⟨?_, ?_⟩ <;> (rw [hgrow.cell_far _ (by simp; exact hbw) (Ne.symm ag)]; assumption)))
          ((refine step_append_lies _ (by rfl) _ _ 22 (by rfl) w.heap.size 23 i0 (.float .f32 0) 1 4 Try.underlying22 hi hz0 hz1 hz2 rfl (by decide) _ _ _ (by rfl) (own_at hown.out (by rfl) _) ⟨wr.heap.size, 0, none⟩ 1 1 [_] (by rfl) (by rfl) (one_new (by rfl)) (by simp [Value.oneCell']) (by omega) h3 h4 (by simp; exact hb96) _ (by rfl) ?_; intro gg cc w1 hown1 hgrow hat hlt1))
        have R := push_at (rs := rs) hown.out (hbel.out.alloc hsz _).drew (by simp; exact hb96) hown1 hgrow
        have hR := Lib.hid R
        have hrl2 := Lib.hid hrl.out
        clear R hown1 hgrow hown hbel hrs hrl hck hck2 hio hat hlt1 ag hsub
        go_wp2
        go_roundw
        case rel =>
          refine ⟨k + 1, i + 1, _, by omega, by go_num, hik2, ?_, Lib.hid hR.out.1, hcs, Lib.hid hR.out.2⟩
          exact Lib.hid (by rw [List.length_append, hrl2.out]; rfl)
        case measure => simp [intOf]; omega
      · have hkl : k = len - n := by omega
        have hfin := Lib.hid (show cnl rs = lagL zs n by unfold lagL; rw [hrs.out, HL.out, Int.toNat_natCast, hkl])
        have hrk : rs.length ≤ 1048576 := by have := hrl.out; omega
        obtain ⟨A, cp, rfl, hsl, _⟩ := hown.out.sl
        have HSL := Lib.hid hsl
        clear hrs H hsl
        go_wp2_with fail
        refine (specList_any 23 _ _ rs (lagL zs n) _ w _ rfl HSL.out hfin.out hrk hown.out hbel.out).mono ?_
        rintro e w1 ⟨v, rs', rfl, ho, hx', hb'⟩
        have HO := Lib.hid ho
        have HX := Lib.hid hx'
        have HBB := Lib.hid hb'
        clear ho hx' hb'
        go_wp2
        go_ret2
        exact ⟨v, rs', by rw [HB.out.1]; rfl, HO.out, HX.out.trans HB.out.2.symm, HBB.out⟩

/-- What the closure of LagDifferences reads: two lists in boxes, of which the later one is the rest of the other. -/
def LagI (bs bl : Nat) (b off len cap n : Nat) (zs : List Nat) (_k : Nat) (wr : World) : Prop :=
  wr.cell? ⟨bs, 0, none⟩ = some (.slice (some ⟨b, off + n, none⟩) (len - n) (cap - n)) ∧ wr.cell? ⟨bl, 0, none⟩ = some (.slice (some ⟨b, off, none⟩) len cap) ∧ ∀ j, j < len → wr.cell? ⟨b, off + j, none⟩ = some (.float .f32 (zs.getD j 0))
theorem LagI.keep {bs bl b off len cap n k B : Nat} {zs : List Nat} {wr wr' : World} (h : LagI bs bl b off len cap n zs k wr) (h1 : bl < B) (h2 : bs < B) (h3 : b < B) (hb : Below B wr wr') : LagI bs bl b off len cap n zs k wr' :=
  ⟨by rw [hb.cell (p := ⟨bs, 0, none⟩) h2]; exact h.1, by rw [hb.cell (p := ⟨bl, 0, none⟩) h1]; exact h.2.1, fun j hj => by rw [hb.cell (p := ⟨b, off + j, none⟩) h3]; exact h.2.2 j hj⟩
theorem lag1_any (bs bl B0 B b off len cap n k : Nat) (zs : List Nat) (wr : World) (h : LagI bs bl b off len cap n zs k wr) (hk : k < len - n) (hm : len ≤ 96) :
    Calls Try.prog 94 #[.int .i64 k, .pointer (some ⟨bs, 0, none⟩), .pointer (some ⟨bl, 0, none⟩)] wr (Tells (fun j => aop .sub .f32 (cn .f32 (zs.getD (n + j) 0)) (cn .f32 (zs.getD j 0))) (LagI bs bl b off len cap n zs) B0 B k wr) := by
  have HI := Lib.hid h
  obtain ⟨h1, h2, h3⟩ := h
  have hc1 := h3 (n + k) (by omega)
  rw [← Nat.add_assoc] at hc1
  have hc2 := h3 k (by omega)
  have hstep := Lib.hid (show ∀ z z2, zs.getD (n + k) 0 = z → zs.getD k 0 = z2 → ∀ w', cn .f32 (fopR .sub .f32 z z2 w') = (fun j => aop .sub .f32 (cn .f32 (zs.getD (n + j) 0)) (cn .f32 (zs.getD j 0))) k from fun z z2 e1 e2 w' => by rw [cn_fopR, ← e1, ← e2])
  clear h3
  generalize hz : zs.getD (n + k) 0 = z at hc1
  generalize hz2 : zs.getD k 0 = z2 at hc2
  have hst := Lib.hid (hstep.out z z2 hz hz2)
  clear hz hz2 hstep
  go_enter Try.func94, Try.ntmps94
  go_wp2
  go_region
  all_goals
    go_wp2
    go_ret
    exact ⟨_, rfl, hst.out _, HI.out.keep (B := bl + bs + b + 1) (by omega) (by omega) (by omega) (below_drewN (Below.refl _ _) _), below_drewN (Below.refl _ _) _, rfl⟩

theorem LagI.start {w : World} {b off len cap m n : Nat} {zs : List Nat} {t t' : TypeId} (hb : b < w.heap.size) (h : ∀ j, j < len → w.cell? ⟨b, off + j, none⟩ = some (.float .f32 (zs.getD j 0))) :
    LagI (w.heap.size + 1) w.heap.size b off len cap n zs 0 (((w.alloc (.cells #[.slice (some ⟨b, off, none⟩) len cap] t)).drewN m).alloc (.cells #[.slice (some ⟨b, off + n, none⟩) (len - n) (cap - n)] t')) := by
  refine ⟨?_, ?_, fun j hj => ?_⟩
  · rw [World.cell?_alloc_at _ _ _ _ (by simp)]; rfl
  · rw [World.cell?_alloc_past _ _ _ (by simp)]
    show (w.alloc _).cell? _ = _
    rw [World.cell?_alloc_at _ _ _ _ rfl]; rfl
  · rw [World.cell?_alloc_past _ _ _ (by simp; omega)]
    show (w.alloc _).cell? _ = _
    rw [World.cell?_alloc_past _ _ _ hb]
    exact h j hj
set_option maxHeartbeats 1000000 in
theorem implLag_any (a : Option Addr) (len cap : Nat) (zs : List Nat) (q : Int) (w : World) (h : FSl w a len zs) (hm : len ≤ 1048576) (hcap : len ≤ cap) (hcap2 : cap ≤ 1048576) :
    Calls Try.prog 60 #[.slice a len cap, .int .i64 q] w (RetOB 23 (lagR zs q) (lagOk zs q) w) := by
  have hmf : ∀ (fn : Fn) (first cap : Array Value) (w : World), (Instr.makeFunc fn first cap).run Try.prog w = .ok (.func fn first cap) w := fun _ _ _ _ => rfl
  have H := Lib.hid h
  have HL := Lib.hid h.1
  clear h
  cases hB : lagB zs q
  · have HB := Lib.hid (lag_bad hB)
    cases hs : serB zs
    · have HS := Lib.hid hs
      clear hs hB
      go_enter Try.func60, Try.ntmps60
      go_wp2_with (go_at_call 81; refine (implSeries_any _ _ _ _ _ (FSl.below H.out ((Below.refl _ _).alloc (Nat.le_refl _) _)) hm).mono ?_; rw [HS.out]; rintro e w' ⟨m, rfl, rfl⟩)
      go_ret2
      exact fail_ob _ HB.out.1 HB.out.2 (below_drewN ((Below.refl _ _).alloc (Nat.le_refl _) _) _)
    · have hq := lagB_f hB hs
      rw [HL.out] at hq
      have HS := Lib.hid hs
      clear hs hB
      rcases hq with hq | ⟨hq, hq2⟩
      · have hd : decide (q < 1) = true := decide_eq_true hq
        go_enter Try.func60, Try.ntmps60
        go_wp2_with (go_at_call 81; refine (implSeries_any _ _ _ _ _ (FSl.below H.out ((Below.refl _ _).alloc (Nat.le_refl _) _)) hm).mono ?_; rw [HS.out]; rintro e w' ⟨m, rfl, rfl⟩)
        go_ret2
        exact fail_ob _ HB.out.1 HB.out.2 (below_drewN ((Below.refl _ _).alloc (Nat.le_refl _) _) _)
      · have hd : decide (q < 1) = false := decide_eq_false (by omega)
        have hd2 : decide ((len : Int) ≤ q) = true := decide_eq_true hq2
        go_enter Try.func60, Try.ntmps60
        go_wp2_with (go_at_call 81; refine (implSeries_any _ _ _ _ _ (FSl.below H.out ((Below.refl _ _).alloc (Nat.le_refl _) _)) hm).mono ?_; rw [HS.out]; rintro e w' ⟨m, rfl, rfl⟩)
        go_ret2
        exact fail_ob _ HB.out.1 HB.out.2 (below_drewN ((Below.refl _ _).alloc (Nat.le_refl _) _) _)
  · obtain ⟨hs, hq1, hq2, hq3⟩ := lagB_t hB
    obtain ⟨n, rfl⟩ : ∃ n : Nat, q = n := ⟨q.toNat, by omega⟩
    rw [HL.out] at hq2 hq3
    have HS := Lib.hid hs
    have HB := Lib.hid (lag_good hB)
    clear hs hB
    have hn1 : 1 ≤ n := by omega
    have hn2 : n < len := by omega
    have hn3 : n < cap := by omega
    have hd : decide ((n : Int) < 1) = false := decide_eq_false (by omega)
    have hd2 : decide ((len : Int) ≤ (n : Int)) = false := decide_eq_false (by omega)
    have hd3 : decide (len ≤ n) = false := decide_eq_false (by omega)
    have hd4 : decide (cap = n) = false := decide_eq_false (by omega)
    obtain ⟨b, off, rfl, hb, hc⟩ := H.out.at (by omega)
    have HC := Lib.hid hc
    clear hc
    go_enter Try.func60, Try.ntmps60
    go_wp2_with (go_at_call 81; refine (implSeries_any _ _ _ _ _ (FSl.below H.out ((Below.refl _ _).alloc (Nat.le_refl _) _)) hm).mono ?_; rw [HS.out]; rintro e w' ⟨m, rfl, rfl⟩)
    have HI := Lib.hid (LagI.start (m := m) (n := n) (t := 22) (t' := 22) (cap := cap) hb HC.out)
    refine (places_any 94 #[.pointer (some ⟨w.heap.size + 1, 0, none⟩), .pointer (some ⟨w.heap.size, 0, none⟩)] (fun j => aop .sub .f32 (cn .f32 (zs.getD (n + j) 0)) (cn .f32 (zs.getD j 0))) (LagI (w.heap.size + 1) w.heap.size b off len cap n zs) w.heap.size (len - n) _ (enter_of Try.func94 (by kernel_rfl) rfl) (by omega) (by simp; omega) HI.out (fun k wr wr' h hb' => h.keep (by simp; omega) (by simp) (by simp; omega) hb') (fun k wr hk hsz hI => lag1_any _ _ _ _ _ _ _ _ _ _ _ _ hI hk (by omega))).mono ?_
    rintro e w1 ⟨v, rs, rfl, ho, hx, hb'⟩
    have HO := Lib.hid (ho.mono (show w.heap.size ≤ _ by simp; omega))
    have HX := Lib.hid (show cnl rs = lstR (lagL zs n) by unfold lagL lagZ; rw [hx, HL.out, Int.toNat_natCast])
    have HBl := Lib.hid (((below_drewN ((Below.refl w.heap.size w).alloc (Nat.le_refl _) _) m).alloc (by simp) _).trans hb')
    have HF := Lib.hid (show fins (tells (fun j => aop .sub .f32 (cn .f32 (zs.getD (n + j) 0)) (cn .f32 (zs.getD j 0))) (len - n)) = lagOk zs n by rw [HB.out.1]; unfold lagL lagZ; rw [HL.out, Int.toNat_natCast])
    rw [HF.out]
    clear ho hx hb'
    go_wp2
    go_ret2
    exact ⟨v, rs, rfl, HO.out, HX.out.trans HB.out.2.symm, HBl.out⟩
end Go.Proofs.Ythlpmbddpenpmaa
