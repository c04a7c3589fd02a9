/-
  Drifts: the sums of the program, over any way in which they become.
-/
import Derived.Test.YtpaelafopjmklaaCBox
import Derived.Test.YtpaelafopjmklaaCSmd
import Derived.Test.YtpaelafopjmklaaFnn
import Derived.Test.YtpaelafopjmklaaCLaw
import Derived.Test.YtpaelafopjmklaaRch
import Derived.Test.YtpaelafopjmklaaNum
import Derived.StillTailTactics
import Derived.Deep.RegionHeld3
namespace Go.Proofs.Ytpaelafopjmklaa
open Ieee Go.RowKit
set_option linter.unusedVariables false

/-- Less than 0. -/
def ltB (x : Nat) : Bool := (FloatKind.format .f32).order x 0 == some .lt
theorem ltB_congr {x y : Nat} (h : cn .f32 x = cn .f32 y) : ltB x = ltB y := by unfold ltB; rw [order_left .f32 h 0]
theorem ltB_of {r t : Nat} (h : cn .f32 r = t) : ltB r = ltB t := by rw [← h]; exact (ltB_congr (cn_cn .f32 r)).symm
/-- What a sum becomes, but +0 if this is less than 0. -/
def clm (x : Nat) : Nat := if ltB x then 0 else x
def dri (bec : Nat → Nat → Nat) (zs : List Nat) : Nat → Nat
  | 0 => 0
  | k + 1 => clm (bec (dri bec zs k) (cn .f32 (zs.getD k 0)))
def driT (bec : Nat → Nat → Nat) (zs : List Nat) (j : Nat) : Nat := dri bec zs (j + 1)
def upT (m sl : Nat) (s x : Nat) : Nat := aop .sub .f32 (aop .sub .f32 (aop .add .f32 s x) m) sl
def dnT (m sl : Nat) (s x : Nat) : Nat := aop .sub .f32 (aop .sub .f32 (aop .add .f32 s m) x) sl
theorem clm_lt {r t : Nat} (h : cn .f32 r = t) (hl : ltB r = true) : cn .f32 0 = clm t := by
  have : ltB t = true := by rw [← h, ltB_congr (cn_cn .f32 r)]; exact hl
  unfold clm; rw [this]; exact cn_zero
theorem clm_ge {r t : Nat} (h : cn .f32 r = t) (hl : ltB r = false) : cn .f32 r = clm t := by
  have : ltB t = false := by rw [← h, ltB_congr (cn_cn .f32 r)]; exact hl
  unfold clm; rw [this]; exact h
/-- What the sums ask for: a series, a finite mean, and a finite slack that is at least 0. -/
def wchB (m sl : Nat) (zs : List Nat) : Bool := serB zs && (fin .f32 m && leaB sl)
def dfL (bec : Nat → Nat → Nat) (zs : List Nat) : List Nat := tells (driT bec zs) zs.length
def dfB (bec : Nat → Nat → Nat) (m sl : Nat) (zs : List Nat) : Bool := wchB m sl zs && fins (dfL bec zs)
def dfR (bec : Nat → Nat → Nat) (m sl : Nat) (zs : List Nat) : List Nat := if wchB m sl zs then lstR (dfL bec zs) else []
theorem df_bad {bec : Nat → Nat → Nat} {m sl : Nat} {zs : List Nat} (h : wchB m sl zs = false) : dfB bec m sl zs = false ∧ dfR bec m sl zs = [] := by unfold dfB dfR; rw [h]; exact ⟨rfl, rfl⟩
theorem df_good {bec : Nat → Nat → Nat} {m sl : Nat} {zs : List Nat} (h : wchB m sl zs = true) : dfB bec m sl zs = fins (dfL bec zs) ∧ dfR bec m sl zs = lstR (dfL bec zs) := by unfold dfB dfR; rw [h]; exact ⟨rfl, rfl⟩
theorem wch_t {m sl : Nat} {zs : List Nat} (h : wchB m sl zs = true) : serB zs = true ∧ fin .f32 m = true ∧ leaB sl = true := by
  unfold wchB at h
  have h1 := (Bool.and_eq_true _ _ ▸ h).1
  have h2 := (Bool.and_eq_true _ _ ▸ h).2
  exact ⟨h1, (Bool.and_eq_true _ _ ▸ h2).1, (Bool.and_eq_true _ _ ▸ h2).2⟩
theorem dfR_len (bec : Nat → Nat → Nat) (m sl : Nat) (zs : List Nat) : (dfR bec m sl zs).length ≤ 1048576 := by
  unfold dfR
  split
  · rename_i h
    have := (serB_t (wch_t h).1).2.1
    unfold lstR
    split
    · unfold dfL; rw [tells_len]; omega
    · simp
  · simp
/-- What a way in which sums become gives. -/
def RetBec (v : Nat) (w : World) (e : Ending) (w' : World) : Prop := ∃ r, cn .f32 r = v ∧ e = .returned (.float .f32 r) ∧ Below w.heap.size w w'
theorem up_any (m sl s x : Nat) (w : World) : Calls Try.prog 70 #[.agg #[.float .f32 m, .float .f32 sl], .float .f32 s, .float .f32 x] w (RetBec (upT (cn .f32 m) (cn .f32 sl) (cn .f32 s) (cn .f32 x)) w) := by
  go_enter Try.func70, Try.ntmps70
  go_wp2
  go_ret
  exact ⟨_, by rw [cn_fopR, cn_fopR, cn_fopR]; rfl, rfl, below_drewN ((Below.refl w.heap.size w).alloc (Nat.le_refl _) _) _⟩
theorem dn_any (m sl s x : Nat) (w : World) : Calls Try.prog 71 #[.agg #[.float .f32 m, .float .f32 sl], .float .f32 s, .float .f32 x] w (RetBec (dnT (cn .f32 m) (cn .f32 sl) (cn .f32 s) (cn .f32 x)) w) := by
  go_enter Try.func71, Try.ntmps71
  go_wp2
  go_ret
  exact ⟨_, by rw [cn_fopR, cn_fopR, cn_fopR]; rfl, rfl, below_drewN ((Below.refl w.heap.size w).alloc (Nat.le_refl _) _) _⟩
/-- What the closure of the sums reads and writes. -/
structure DriI (bf bd bs bl : Nat) (K : FuncId) (m sl : Nat) (bec : Nat → Nat → Nat) (a : Option Addr) (len cap : Nat) (zs : List Nat) (k : Nat) (wr : World) : Prop where
  fn : wr.cell? ⟨bf, 0, none⟩ = some (.func (.func K) #[] #[])
  me : wr.cell? ⟨bd, 0, none⟩ = some (.float .f32 m)
  sk : wr.cell? ⟨bd, 1, none⟩ = some (.float .f32 sl)
  su : ∃ s, wr.cell? ⟨bs, 0, none⟩ = some (.float .f32 s) ∧ cn .f32 s = dri bec zs k
  fz : wr.frozen? ⟨bs, 0, none⟩ = false
  bx : BoxI bl a len cap zs wr
/-- The same, whatever the sum is. -/
structure DriS (bf bd bs bl : Nat) (K : FuncId) (m sl : Nat) (a : Option Addr) (len cap : Nat) (zs : List Nat) (wr : World) : Prop where
  fn : wr.cell? ⟨bf, 0, none⟩ = some (.func (.func K) #[] #[])
  me : wr.cell? ⟨bd, 0, none⟩ = some (.float .f32 m)
  sk : wr.cell? ⟨bd, 1, none⟩ = some (.float .f32 sl)
  su : (wr.cell? ⟨bs, 0, none⟩).isSome = true
  fz : wr.frozen? ⟨bs, 0, none⟩ = false
  bx : BoxI bl a len cap zs wr
section
variable {bf bd bs bl : Nat} {K : FuncId} {m sl : Nat} {bec : Nat → Nat → Nat} {a : Option Addr} {len cap : Nat} {zs : List Nat} {k : Nat} {wr wr' : World}
theorem DriI.keep {B : Nat} (h : DriI bf bd bs bl K m sl bec a len cap zs k wr) (hf : bf < B) (hd : bd < B) (hs : bs < B) (hl : bl < B) (hb : Below B wr wr') : DriI bf bd bs bl K m sl bec a len cap zs k wr' := by
  obtain ⟨h1, h2, h3, ⟨s, h4, h5⟩, h6, h7⟩ := h
  exact ⟨by rw [hb.cell (p := ⟨bf, 0, none⟩) hf]; exact h1, by rw [hb.cell (p := ⟨bd, 0, none⟩) hd]; exact h2, by rw [hb.cell (p := ⟨bd, 1, none⟩) hd]; exact h3, ⟨s, by rw [hb.cell (p := ⟨bs, 0, none⟩) hs]; exact h4, h5⟩, by rw [hb.frozen (p := ⟨bs, 0, none⟩) hs]; exact h6, h7.keep hl hb⟩
theorem BoxI.set {bl' : Nat} {v : Value} (h : BoxI bl a len cap zs wr) (h1 : bl < bl') : BoxI bl a len cap zs (wr.setCell ⟨bl', 0, none⟩ v) :=
  h.keep (B := bl + 1) (by omega) ((Below.refl _ _).setCell (by show bl + 1 ≤ bl'; omega) v)
theorem cell_other {b c o : Nat} {v : Value} (h : c ≠ b) : (wr.setCell ⟨b, 0, none⟩ v).cell? ⟨c, o, none⟩ = wr.cell? ⟨c, o, none⟩ :=
  World.cell?_setCell_other _ _ _ _ (by intro e; injection e with e1 _ _; exact h e1.symm)
theorem DriI.set {r k' : Nat} (h : DriI bf bd bs bl K m sl bec a len cap zs k wr) (hf : bf < bs) (hd : bd < bs) (hl : bl < bs) (hr : cn .f32 r = dri bec zs k') : DriI bf bd bs bl K m sl bec a len cap zs k' (wr.setCell ⟨bs, 0, none⟩ (.float .f32 r)) := by
  obtain ⟨h1, h2, h3, ⟨s, h4, h5⟩, h6, h7⟩ := h
  exact ⟨by rw [cell_other (by omega)]; exact h1, by rw [cell_other (by omega)]; exact h2, by rw [cell_other (by omega)]; exact h3, ⟨r, World.cell?_setCell_same' _ _ _ (by rw [h4]; rfl), hr⟩, by rw [World.frozen?_setCell]; exact h6, h7.set hl⟩
theorem DriI.setAny (h : DriI bf bd bs bl K m sl bec a len cap zs k wr) (hf : bf < bs) (hd : bd < bs) (hl : bl < bs) (v : Value) : DriS bf bd bs bl K m sl a len cap zs (wr.setCell ⟨bs, 0, none⟩ v) := by
  obtain ⟨h1, h2, h3, ⟨s, h4, h5⟩, h6, h7⟩ := h
  exact ⟨by rw [cell_other (by omega)]; exact h1, by rw [cell_other (by omega)]; exact h2, by rw [cell_other (by omega)]; exact h3, by rw [World.cell?_setCell_same' _ _ _ (by rw [h4]; rfl)]; rfl, by rw [World.frozen?_setCell]; exact h6, h7.set hl⟩
theorem DriS.set {r k' : Nat} (h : DriS bf bd bs bl K m sl a len cap zs wr) (hf : bf < bs) (hd : bd < bs) (hl : bl < bs) (hr : cn .f32 r = dri bec zs k') : DriI bf bd bs bl K m sl bec a len cap zs k' (wr.setCell ⟨bs, 0, none⟩ (.float .f32 r)) := by
  obtain ⟨h1, h2, h3, h4, h6, h7⟩ := h
  exact ⟨by rw [cell_other (by omega)]; exact h1, by rw [cell_other (by omega)]; exact h2, by rw [cell_other (by omega)]; exact h3, ⟨r, World.cell?_setCell_same' _ _ _ h4, hr⟩, by rw [World.frozen?_setCell]; exact h6, h7.set hl⟩
end
set_option maxHeartbeats 2000000 in
set_option maxRecDepth 100000 in
theorem dri1_any (bf bd bs bl B0 B k : Nat) (K : FuncId) (m sl : Nat) (bec : Nat → Nat → Nat) (a : Option Addr) (len cap : Nat) (zs : List Nat) (wr : World)
    (hen : ∀ args w, (callFunc K args).run Try.prog w = .ok (.enter K args) w)
    (hK : ∀ s x w, Calls Try.prog K #[.agg #[.float .f32 m, .float .f32 sl], .float .f32 s, .float .f32 x] w (RetBec (bec (cn .f32 s) (cn .f32 x)) w))
    (h : DriI bf bd bs bl K m sl bec a len cap zs k wr) (hk : k < len) (hm : len ≤ 1048576)
    (hf : bf < bs) (hd : bd < bs) (hl : bl < bs) (hB0 : B0 ≤ bs) (hB : bs < B) (hBw : B < wr.heap.size) :
    Calls Try.prog 102 #[.int .i64 k, .pointer (some ⟨bf, 0, none⟩), .pointer (some ⟨bd, 0, none⟩), .pointer (some ⟨bs, 0, none⟩), .pointer (some ⟨bl, 0, none⟩)] wr (Tells (driT bec zs) (DriI bf bd bs bl K m sl bec a len cap zs) B0 B k wr) := by
  have HI := Lib.hid h
  obtain ⟨h1, h2, h3, ⟨s, h4, h5⟩, h6, h7⟩ := h
  obtain ⟨b, off, rfl, hlt, hc⟩ := h7.2 (by omega)
  have hbx := h7.1
  have hck := hc k hk
  have HK := Lib.hid hK
  have HS := Lib.hid (show ∀ z, zs.getD k 0 = z → ∀ r, cn .f32 r = bec (cn .f32 s) (cn .f32 z) → (ltB r = true → cn .f32 0 = dri bec zs (k + 1)) ∧ (ltB r = false → cn .f32 r = dri bec zs (k + 1)) from fun z hz r hr => by
    rw [h5, ← hz] at hr
    exact ⟨fun hl => clm_lt hr hl, fun hl => clm_ge hr hl⟩)
  obtain ⟨z, hz⟩ : ∃ z, zs.getD k 0 = z := ⟨_, rfl⟩
  rw [hz] at hck
  have HS2 := Lib.hid (HS.out z hz)
  have hbs : bs < wr.heap.size := by omega
  have HKp := Lib.hid (show ∀ w', Below wr.heap.size wr w' → DriI bf bd bs bl K m sl bec (some ⟨b, off, none⟩) len cap zs k w' from fun w' hb => HI.out.keep (by omega) (by omega) hbs (by omega) hb)
  clear h5 h7 hc hK HS hz hlt HI
  go_enter Try.func102, Try.ntmps102
  go_wp2
  go_still_tail 7, (by kernel_rfl)
  go_wp2_with fail
  refine (HK.out _ _ _).mono ?_
  rintro e w1 ⟨r, hr, rfl, hb⟩
  have HR := Lib.hid (HS2.out r hr)
  have hb' : Below wr.heap.size wr w1 := (below_drewN (Below.refl _ _) 1).trans hb
  have HI1 := HKp.out w1 hb'
  have HBl := Lib.hid (hb'.mono (show B0 ≤ wr.heap.size by omega))
  have HBk := Lib.hid (hb'.block B hBw)
  have c1 : w1.cell? ⟨bs, 0, none⟩ = some (.float .f32 s) := by rw [hb'.cell (p := ⟨bs, 0, none⟩) hbs]; exact h4
  have c2 := HI1.fz
  have HI2 := Lib.hid HI1
  clear hr hb hb' HI1 HS2 HKp h1 h2 h3 h4 h6 hbx hck HK hen
  cases hlt : ltB r
  · have ho : ((FloatKind.format .f32).order r 0 == some Ordering.lt) = false := hlt
    have HV := Lib.hid (HR.out.2 hlt)
    clear hlt HR
    go_wp2
    go_ret
    exact ⟨r, rfl, HV.out, HI2.out.set hf hd hl HV.out, HBl.out.setCell hB0 _, (Below.heap_setCell w1 _ _ _ (by show B ≠ bs; omega)).trans HBk.out⟩
  · have ho : ((FloatKind.format .f32).order r 0 == some Ordering.lt) = true := hlt
    have HV := Lib.hid (HR.out.1 hlt)
    clear hlt HR
    go_wp2
    go_ret
    exact ⟨0, rfl, HV.out, (HI2.out.setAny hf hd hl (.float .f32 r)).set hf hd hl HV.out, (HBl.out.setCell hB0 _).setCell hB0 _, ((Below.heap_setCell _ _ _ _ (by show B ≠ bs; omega)).trans (Below.heap_setCell w1 _ _ _ (by show B ≠ bs; omega))).trans HBk.out⟩
set_option maxHeartbeats 2000000 in
set_option maxRecDepth 100000 in
theorem dsums_any (K : FuncId) (m sl : Nat) (bec : Nat → Nat → Nat) (a : Option Addr) (len cap : Nat) (zs : List Nat) (w : World)
    (hen : ∀ args w, (callFunc K args).run Try.prog w = .ok (.enter K args) w)
    (hK : ∀ s x w, Calls Try.prog K #[.agg #[.float .f32 m, .float .f32 sl], .float .f32 s, .float .f32 x] w (RetBec (bec (cn .f32 s) (cn .f32 x)) w))
    (h : FSl w a len zs) (hm : len ≤ 1048576) :
    Calls Try.prog 69 #[.agg #[.float .f32 m, .float .f32 sl], .slice a len cap, .func (.func K) #[] #[]] w (RetOB 23 (dfR bec m sl zs) (dfB bec m sl zs) w) := by
  have hmf : ∀ (fn : Fn) (first cap : Array Value) (w : World), (Instr.makeFunc fn first cap).run Try.prog w = .ok (.func fn first cap) w := fun _ _ _ _ => rfl
  have HL := Lib.hid h.1
  have HK := Lib.hid hK
  have HE := Lib.hid hen
  have b1 := (Below.refl w.heap.size w).alloc (Nat.le_refl _) (.cells #[.float .f32 m, .float .f32 sl] 74)
  have b2 := b1.alloc (by simp <;> omega) (.cells #[.slice a len cap] 22)
  have b3 := b2.alloc (by simp <;> omega) (.cells #[.func (.func K) #[] #[]] 76)
  have H3 := Lib.hid (FSl.below h b3)
  have G3 := Lib.hid b3
  have Y2 : BoxI (w.heap.size + 1) a len cap zs ((w.alloc (.cells #[.float .f32 m, .float .f32 sl] 74)).alloc (.cells #[.slice a len cap] 22)) := by simpa using BoxI.start (cap := cap) (t := 22) (FSl.below h b1)
  have Y3 := Lib.hid (Y2.keep (B := w.heap.size + 1 + 1) (by omega) ((Below.refl _ _).alloc (by simp <;> omega) (.cells #[.func (.func K) #[] #[]] 76)))
  have D0 : (((w.alloc (.cells #[.float .f32 m, .float .f32 sl] 74)).alloc (.cells #[.slice a len cap] 22)).alloc (.cells #[.func (.func K) #[] #[]] 76)).cell? ⟨w.heap.size, 0, none⟩ = some (.float .f32 m) := by
    rw [World.cell?_alloc_past _ _ _ (by simp <;> omega), World.cell?_alloc_past _ _ _ (by simp <;> omega), World.cell?_alloc_at _ _ _ _ rfl]; rfl
  have D1 : (((w.alloc (.cells #[.float .f32 m, .float .f32 sl] 74)).alloc (.cells #[.slice a len cap] 22)).alloc (.cells #[.func (.func K) #[] #[]] 76)).cell? ⟨w.heap.size, 1, none⟩ = some (.float .f32 sl) := by
    rw [World.cell?_alloc_past _ _ _ (by simp <;> omega), World.cell?_alloc_past _ _ _ (by simp <;> omega), World.cell?_alloc_at _ _ _ _ rfl]; rfl
  have D2 : (((w.alloc (.cells #[.float .f32 m, .float .f32 sl] 74)).alloc (.cells #[.slice a len cap] 22)).alloc (.cells #[.func (.func K) #[] #[]] 76)).cell? ⟨w.heap.size + 1 + 1, 0, none⟩ = some (.func (.func K) #[] #[]) := by
    rw [World.cell?_alloc_at _ _ _ _ (by simp <;> omega)]; rfl
  have DD := Lib.hid (And.intro D0 (And.intro D1 D2))
  have hc1 := Y3.out.1
  clear h hK hen b1 b2 b3 Y2 D2
  cases hs : serB zs
  · have HS := Lib.hid hs
    have HB := Lib.hid (df_bad (bec := bec) (m := m) (sl := sl) (zs := zs) (by unfold wchB; rw [hs]; rfl))
    clear hs
    go_enter Try.func69, Try.ntmps69
    go_wp2_with (go_at_call 62; refine (implSeries_any _ _ _ _ _ H3.out hm).mono ?_; rw [HS.out]; rintro e w' ⟨m, rfl, rfl⟩)
    go_ret2
    exact fail_ob _ HB.out.1 HB.out.2 (below_drewN G3.out _)
  · have HS := Lib.hid hs
    have hse := (serB_t hs).2.1
    rw [HL.out] at hse
    have HP := Lib.hid (show ∀ (W : World) (q : Nat), W.heap.size = q → FSl (W.alloc (.cells #[.float .f32 m, .float .f32 sl] 23)) (some ⟨q, 0, none⟩) 2 [m, sl] from fun W q e => by subst e; exact (NumsIn.new W [m, sl] 23).fsl rfl)
    cases hf : fins [m, sl]
    · have HF := Lib.hid hf
      have HB := Lib.hid (df_bad (bec := bec) (m := m) (sl := sl) (zs := zs) (by
        have : (fin .f32 m && (fin .f32 sl && true)) = false := hf
        unfold wchB leaB
        rw [Bool.and_true] at this
        rw [hs, Bool.true_and, ← Bool.and_assoc, this]; rfl))
      clear hs hf
      go_enter Try.func69, Try.ntmps69
      go_wp2_with fail
      refine (implSeries_any _ _ _ _ _ H3.out hm).mono ?_
      rw [HS.out]
      rintro e w' ⟨m1, rfl, rfl⟩
      go_wp2_with fail
      refine (imFins_any _ _ _ [m, sl] _ (HP.out _ _ (by simp)) (by omega)).mono ?_
      rw [HF.out]
      rintro e w' ⟨m2, rfl, rfl⟩
      go_wp2
      go_ret2
      exact fail_ob _ HB.out.1 HB.out.2 (below_drewN ((below_drewN G3.out m1).alloc (by simp <;> omega) _) _)
    · have HF := Lib.hid hf
      have hfm : fin .f32 m = true ∧ fin .f32 sl = true := by
        have : (fin .f32 m && (fin .f32 sl && true)) = true := hf
        rw [Bool.and_true] at this
        exact ⟨(Bool.and_eq_true _ _ ▸ this).1, (Bool.and_eq_true _ _ ▸ this).2⟩
      have hlg := lt_ge hfm.2
      cases hl : ltB sl
      · have ho : ((FloatKind.format .f32).order sl 0 == some Ordering.lt) = false := hl
        have HB := Lib.hid (df_good (bec := bec) (m := m) (sl := sl) (zs := zs) (by
          unfold wchB leaB
          rw [hs, hfm.1, hfm.2]
          rw [ho] at hlg
          simpa using hlg))
        clear hs hf hfm hlg hl
        go_enter Try.func69, Try.ntmps69
        go_wp2_with fail
        refine (implSeries_any _ _ _ _ _ H3.out hm).mono ?_
        rw [HS.out]
        rintro e w' ⟨m1, rfl, rfl⟩
        go_wp2_with fail
        refine (imFins_any _ _ _ [m, sl] _ (HP.out _ _ (by simp)) (by omega)).mono ?_
        rw [HF.out]
        rintro e w' ⟨m2, rfl, rfl⟩
        have hq : Below (w.heap.size + 1 + 1 + 1) (((w.alloc (.cells #[.float .f32 m, .float .f32 sl] 74)).alloc (.cells #[.slice a len cap] 22)).alloc (.cells #[.func (.func K) #[] #[]] 76))
            ((((((w.alloc (.cells #[.float .f32 m, .float .f32 sl] 74)).alloc (.cells #[.slice a len cap] 22)).alloc (.cells #[.func (.func K) #[] #[]] 76)).drewN m1).alloc (.cells #[.float .f32 m, .float .f32 sl] 23)).drewN m2) :=
          below_drewN ((below_drewN (Below.refl _ _) m1).alloc (by simp <;> omega) _) m2
        have hc2 := (Y3.out.keep (B := w.heap.size + 1 + 1 + 1) (by omega) hq).1
        have hq5 := hq.alloc (by simp <;> omega) (.cells #[.float .f32 0] 23)
        have HI0 := Lib.hid (show DriI (w.heap.size + 1 + 1) w.heap.size (w.heap.size + 1 + 1 + 1 + 1) (w.heap.size + 1) K m sl bec a len cap zs 0 _ from
          ⟨by rw [hq5.cell (p := ⟨w.heap.size + 1 + 1, 0, none⟩) (by show w.heap.size + 1 + 1 < _; omega)]; exact DD.out.2.2, by rw [hq5.cell (p := ⟨w.heap.size, 0, none⟩) (by show w.heap.size < _; omega)]; exact DD.out.1, by rw [hq5.cell (p := ⟨w.heap.size, 1, none⟩) (by show w.heap.size < _; omega)]; exact DD.out.2.1,
            ⟨0, by rw [World.cell?_alloc_at _ _ _ _ (by simp <;> omega)]; rfl, cn_zero⟩, World.frozen?_alloc_at _ _ _ _ (by simp <;> omega), Y3.out.keep (B := w.heap.size + 1 + 1 + 1) (by omega) hq5⟩)
        have G5 := Lib.hid (G3.out.trans (hq5.mono (by omega)))
        have hd1 := HI0.out.bx.1
        clear hq hq5
        go_wp2_with fail
        refine (places_any 102 #[.pointer (some ⟨w.heap.size + 1 + 1, 0, none⟩), .pointer (some ⟨w.heap.size, 0, none⟩), .pointer (some ⟨w.heap.size + 1 + 1 + 1 + 1, 0, none⟩), .pointer (some ⟨w.heap.size + 1, 0, none⟩)] (driT bec zs) (DriI (w.heap.size + 1 + 1) w.heap.size (w.heap.size + 1 + 1 + 1 + 1) (w.heap.size + 1) K m sl bec a len cap zs) w.heap.size len _ (enter_of Try.func102 (by kernel_rfl) rfl) hm (by simp; omega) HI0.out
          (fun k wr wr' h hb => h.keep (by simp <;> omega) (by simp <;> omega) (by simp <;> omega) (by simp <;> omega) hb)
          (fun k wr hk hsz hI => dri1_any _ _ _ _ _ _ _ K m sl bec _ _ _ _ _ HE.out HK.out hI hk hm (by omega) (by omega) (by omega) (by omega) (by simp <;> omega) hsz)).mono ?_
        rintro e w1 ⟨v, rs, rfl, ho, hx, hb⟩
        have HO := Lib.hid (ho.mono (show w.heap.size ≤ _ by simp; omega))
        have HX := Lib.hid (show cnl rs = dfR bec m sl zs by rw [hx, HB.out.2]; unfold dfL; rw [HL.out])
        have HFi := Lib.hid (show fins (tells (driT bec zs) len) = dfB bec m sl zs by rw [HB.out.1]; unfold dfL; rw [HL.out])
        have HBl := Lib.hid (G5.out.trans hb)
        rw [HFi.out]
        clear ho hx hb
        go_wp2
        go_ret2
        exact ⟨v, rs, rfl, HO.out, HX.out, HBl.out⟩
      · have ho : ((FloatKind.format .f32).order sl 0 == some Ordering.lt) = true := hl
        have HB := Lib.hid (df_bad (bec := bec) (m := m) (sl := sl) (zs := zs) (by
          unfold wchB leaB
          rw [hs, hfm.1, hfm.2]
          rw [ho] at hlg
          have : geB sl = false := by
            cases hg : geB sl with
            | false => rfl
            | true => rw [hg] at hlg; cases hlg
          rw [this]; rfl))
        clear hs hf hfm hlg hl
        go_enter Try.func69, Try.ntmps69
        go_wp2_with fail
        refine (implSeries_any _ _ _ _ _ H3.out hm).mono ?_
        rw [HS.out]
        rintro e w' ⟨m1, rfl, rfl⟩
        go_wp2_with fail
        refine (imFins_any _ _ _ [m, sl] _ (HP.out _ _ (by simp)) (by omega)).mono ?_
        rw [HF.out]
        rintro e w' ⟨m2, rfl, rfl⟩
        have hq : Below (w.heap.size + 1 + 1 + 1) (((w.alloc (.cells #[.float .f32 m, .float .f32 sl] 74)).alloc (.cells #[.slice a len cap] 22)).alloc (.cells #[.func (.func K) #[] #[]] 76))
            ((((((w.alloc (.cells #[.float .f32 m, .float .f32 sl] 74)).alloc (.cells #[.slice a len cap] 22)).alloc (.cells #[.func (.func K) #[] #[]] 76)).drewN m1).alloc (.cells #[.float .f32 m, .float .f32 sl] 23)).drewN m2) :=
          below_drewN ((below_drewN (Below.refl _ _) m1).alloc (by simp <;> omega) _) m2
        have hd1 := (hq.cell (p := ⟨w.heap.size, 1, none⟩) (by show w.heap.size < _; omega)).trans DD.out.2.1
        clear hq
        go_wp2
        go_ret2
        exact fail_ob _ HB.out.1 HB.out.2 (below_drewN ((below_drewN G3.out m1).alloc (by simp <;> omega) _) _)
/-! ### The model -/
theorem watch_any (a : Option Addr) (len cap : Nat) (zs : List Nat) (m sl : Nat) (w : World) (h : FSl w a len zs) (hm : len ≤ 1048576) :
    Calls Try.prog 66 #[.slice a len cap, .float .f32 m, .float .f32 sl] w (RetV (.bool (wchB m sl zs)) w) := by
  have H := Lib.hid h
  clear h
  cases hs : serB zs
  · have HS := Lib.hid hs
    have HB := Lib.hid (show wchB m sl zs = false by unfold wchB; rw [hs]; rfl)
    clear hs
    go_enter Try.func66, Try.ntmps66
    go_wp2_with (go_at_call 51; refine (specSeries_any _ _ _ _ _ H.out hm).mono ?_; rw [HS.out]; rintro e w' ⟨m, rfl, rfl⟩)
    go_ret
    exact ⟨_, congrArg (fun b => Ending.returned (Value.bool b)) HB.out.symm, rfl⟩
  · have HS := Lib.hid hs
    cases hf : fin .f32 m
    · have HF := Lib.hid hf
      have HB := Lib.hid (show wchB m sl zs = false by unfold wchB; rw [hf]; simp)
      clear hs hf
      go_enter Try.func66, Try.ntmps66
      go_wp2_with fail
      refine (specSeries_any _ _ _ _ _ H.out hm).mono ?_
      rw [HS.out]
      rintro e w' ⟨m1, rfl, rfl⟩
      go_wp2_with fail
      refine (l01Finite_any _ _).mono ?_
      rw [HF.out]
      rintro e w' ⟨m2, rfl, rfl⟩
      go_wp2
      go_ret
      exact ⟨_, congrArg (fun b => Ending.returned (Value.bool b)) HB.out.symm, rfl⟩
    · have HF := Lib.hid hf
      have HB := Lib.hid (show wchB m sl zs = leaB sl by unfold wchB; rw [hs, hf]; rfl)
      clear hs hf
      go_enter Try.func66, Try.ntmps66
      go_wp2_with fail
      refine (specSeries_any _ _ _ _ _ H.out hm).mono ?_
      rw [HS.out]
      rintro e w' ⟨m1, rfl, rfl⟩
      go_wp2_with fail
      refine (l01Finite_any _ _).mono ?_
      rw [HF.out]
      rintro e w' ⟨m2, rfl, rfl⟩
      go_wp2_with fail
      refine (lea_any _ _).mono ?_
      rintro e w' ⟨m3, rfl, rfl⟩
      go_wp2
      go_ret
      exact ⟨_, congrArg (fun b => Ending.returned (Value.bool b)) HB.out.symm, rfl⟩
/-- A list of the call's own. -/
def RetOwn (T : TypeId) (xs : List Nat) (w : World) (e : Ending) (w' : World) : Prop := ∃ v rs, e = .returned v ∧ FOwn T w.heap.size w' v rs ∧ cnl rs = xs ∧ Below w.heap.size w w'
def becT (m sl : Nat) (down : Bool) : Nat → Nat → Nat := if down then dnT (cn .f32 m) (cn .f32 sl) else upT (cn .f32 m) (cn .f32 sl)
set_option maxHeartbeats 2000000 in
set_option maxRecDepth 100000 in
theorem l07Drift_any (a : Option Addr) (len cap : Nat) (zs : List Nat) (m sl : Nat) (down : Bool) (w : World) (h : FSl w a len zs) (hm : len ≤ 1048576) :
    Calls Try.prog 68 #[.slice a len cap, .float .f32 m, .float .f32 sl, .bool down] w (RetOwn 23 (dfL (becT m sl down) zs) w) := by
  obtain ⟨i0, hi, hz0, hz1, hz2⟩ := info_parts Try.infoR
  have H := Lib.hid h
  have HL := Lib.hid h.1
  clear h
  have HO := Lib.hid (FOwn.made (T := 23) (B := w.heap.size) w (Nat.le_refl _))
  have HB0 := Lib.hid ((Below.refl w.heap.size w).alloc (Nat.le_refl _) (.cells #[] 23))
  go_enter Try.func68, Try.ntmps68
  go_wp2
  go_loopw [9, 10, 15] (fun v s i wr => ∃ (k : Nat) (rs : List Nat) (x : Nat), k ≤ len ∧ i = .int .i64 k ∧ s = .float .f32 x ∧ Hid (rs.length = k) ∧ Hid (cn .f32 x = dri (becT m sl down) zs k) ∧ Hid (FOwn 23 w.heap.size wr v rs) ∧ Hid (cnl rs = tells (driT (becT m sl down) zs) k) ∧ Hid (Below w.heap.size w wr)) (fun _ _ i _ => len - (intOf i).toNat)
  case atStart => exact ⟨0, [], 0, Nat.zero_le _, rfl, rfl, Lib.hid rfl, Lib.hid cn_zero, HO, Lib.hid rfl, HB0⟩
  case round =>
    rename_i wr
    obtain ⟨k, rs, x, hk, rfl, rfl, hrl, hx, hown, hrs, hbel⟩ := hrel
    by_cases hlt : k < len
    · obtain ⟨b, off, rfl, hb, hc⟩ := H.out.at (by omega)
      have hck := hc k hlt
      rw [← hbel.out.cell (p := ⟨b, off + k, none⟩) hb] at hck
      have HS := Lib.hid (show ∀ z, zs.getD k 0 = z → ∀ r, cn .f32 r = becT m sl down (cn .f32 x) (cn .f32 z) → (ltB r = true → cn .f32 0 = dri (becT m sl down) zs (k + 1)) ∧ (ltB r = false → cn .f32 r = dri (becT m sl down) zs (k + 1)) from fun z hz r hr => by
        rw [hx.out, ← hz] at hr
        exact ⟨fun hl => clm_lt hr hl, fun hl => clm_ge hr hl⟩)
      obtain ⟨z, hz⟩ : ∃ z, zs.getD k 0 = z := ⟨_, rfl⟩
      rw [hz] at hck
      have HS2 := Lib.hid (HS.out z hz)
      have hsz := hbel.out.size
      have hrk : rs.length ≤ 1048576 := by have := hrl.out; omega
      clear hc hb H HS hz hx
      have HPush := Lib.hid (show ∀ r, cn .f32 r = dri (becT m sl down) zs (k + 1) → cnl (rs ++ [r]) = tells (driT (becT m sl down) zs) (k + 1) from fun r hr => (cnl_snoc hrs.out hr).trans (tells_succ (driT (becT m sl down) zs) k).symm)
      cases down
      · have hr : ∀ w1 w2 w3, cn .f32 (fopR .sub .f32 (fopR .sub .f32 (fopR .add .f32 x z w1) m w2) sl w3) = becT m sl false (cn .f32 x) (cn .f32 z) := fun w1 w2 w3 => by rw [cn_fopR, cn_fopR, cn_fopR]; rfl
        rename World => wo
        cases hT : ltB (becT m sl false (cn .f32 x) (cn .f32 z))
        · have ho : ∀ w1 w2 w3, ((FloatKind.format .f32).order (fopR .sub .f32 (fopR .sub .f32 (fopR .add .f32 x z w1) m w2) sl w3) 0 == some Ordering.lt) = false := fun w1 w2 w3 => (ltB_of (hr w1 w2 w3)).trans hT
          have HV := Lib.hid (fun w1 w2 w3 => (HS2.out _ (hr w1 w2 w3)).2 ((ltB_of (hr w1 w2 w3)).trans hT))
          have HP := Lib.hid (fun w1 w2 w3 => HPush.out _ (HV.out w1 w2 w3))
          clear hT hr HS2 HPush
          go_wp2_with (at_builtin; refine wpList_append_own _ rfl _ _ 22 rfl w.heap.size 23 i0 (.float .f32 0) 1 4 Try.underlying22 hi hz0 hz1 hz2 rfl (by decide) _ _ _ rfl (World.ownsRow.alloc (FOwn.drewN hown.out _) _) ⟨wo.heap.size, 0, none⟩ 1 1 [_] rfl rfl (one_new rfl) ?c2 ?c3 ?c4 ?c5 ?_)
          case c2 => intro u hu; simp at hu; subst hu; rfl
          case c3 => unfold maxLen; omega
          case c4 => omega
          case c5 => simp; show w.heap.size ≤ wo.heap.size + 1; omega
          intro v' w1 hown' hgrow _
          have R := FOwn.push hown.out hbel.out hsz hown' hgrow
          have hR := Lib.hid R
          have hrl2 := Lib.hid hrl.out
          clear R hown' hgrow hown hbel hrs hrl hck ho
          go_wp2
          go_roundw
          case rel =>
            refine ⟨k + 1, _, _, by omega, by go_num, rfl, ?_, Lib.hid (HV.out _ _ _), Lib.hid hR.out.1, Lib.hid (HP.out _ _ _), Lib.hid hR.out.2⟩
            exact Lib.hid (by rw [List.length_append, hrl2.out]; rfl)
          case measure => simp [intOf]; omega
        · have ho : ∀ w1 w2 w3, ((FloatKind.format .f32).order (fopR .sub .f32 (fopR .sub .f32 (fopR .add .f32 x z w1) m w2) sl w3) 0 == some Ordering.lt) = true := fun w1 w2 w3 => (ltB_of (hr w1 w2 w3)).trans hT
          have HV := Lib.hid ((HS2.out _ (hr w w w)).1 ((ltB_of (hr w w w)).trans hT))
          have HP := Lib.hid (HPush.out _ HV.out)
          clear hT hr HS2 HPush
          go_wp2_with (at_builtin; refine wpList_append_own _ rfl _ _ 22 rfl w.heap.size 23 i0 (.float .f32 0) 1 4 Try.underlying22 hi hz0 hz1 hz2 rfl (by decide) _ _ _ rfl (World.ownsRow.alloc (FOwn.drewN hown.out _) _) ⟨wo.heap.size, 0, none⟩ 1 1 [_] rfl rfl (one_new rfl) ?c2 ?c3 ?c4 ?c5 ?_)
          case c2 => intro u hu; simp at hu; subst hu; rfl
          case c3 => unfold maxLen; omega
          case c4 => omega
          case c5 => simp; show w.heap.size ≤ wo.heap.size + 1; omega
          intro v' w1 hown' hgrow _
          have R := FOwn.push hown.out hbel.out hsz hown' hgrow
          have hR := Lib.hid R
          have hrl2 := Lib.hid hrl.out
          clear R hown' hgrow hown hbel hrs hrl hck ho
          go_wp2
          go_roundw
          case rel =>
            refine ⟨k + 1, _, _, by omega, by go_num, rfl, ?_, Lib.hid HV.out, Lib.hid hR.out.1, Lib.hid HP.out, Lib.hid hR.out.2⟩
            exact Lib.hid (by rw [List.length_append, hrl2.out]; rfl)
          case measure => simp [intOf]; omega
      · have hr : ∀ w1 w2 w3, cn .f32 (fopR .sub .f32 (fopR .sub .f32 (fopR .add .f32 x m w1) z w2) sl w3) = becT m sl true (cn .f32 x) (cn .f32 z) := fun w1 w2 w3 => by rw [cn_fopR, cn_fopR, cn_fopR]; rfl
        rename World => wo
        cases hT : ltB (becT m sl true (cn .f32 x) (cn .f32 z))
        · have ho : ∀ w1 w2 w3, ((FloatKind.format .f32).order (fopR .sub .f32 (fopR .sub .f32 (fopR .add .f32 x m w1) z w2) sl w3) 0 == some Ordering.lt) = false := fun w1 w2 w3 => (ltB_of (hr w1 w2 w3)).trans hT
          have HV := Lib.hid (fun w1 w2 w3 => (HS2.out _ (hr w1 w2 w3)).2 ((ltB_of (hr w1 w2 w3)).trans hT))
          have HP := Lib.hid (fun w1 w2 w3 => HPush.out _ (HV.out w1 w2 w3))
          clear hT hr HS2 HPush
          go_wp2_with (at_builtin; refine wpList_append_own _ rfl _ _ 22 rfl w.heap.size 23 i0 (.float .f32 0) 1 4 Try.underlying22 hi hz0 hz1 hz2 rfl (by decide) _ _ _ rfl (World.ownsRow.alloc (FOwn.drewN hown.out _) _) ⟨wo.heap.size, 0, none⟩ 1 1 [_] rfl rfl (one_new rfl) ?c2 ?c3 ?c4 ?c5 ?_)
          case c2 => intro u hu; simp at hu; subst hu; rfl
          case c3 => unfold maxLen; omega
          case c4 => omega
          case c5 => simp; show w.heap.size ≤ wo.heap.size + 1; omega
          intro v' w1 hown' hgrow _
          have R := FOwn.push hown.out hbel.out hsz hown' hgrow
          have hR := Lib.hid R
          have hrl2 := Lib.hid hrl.out
          clear R hown' hgrow hown hbel hrs hrl hck ho
          go_wp2
          go_roundw
          case rel =>
            refine ⟨k + 1, _, _, by omega, by go_num, rfl, ?_, Lib.hid (HV.out _ _ _), Lib.hid hR.out.1, Lib.hid (HP.out _ _ _), Lib.hid hR.out.2⟩
            exact Lib.hid (by rw [List.length_append, hrl2.out]; rfl)
          case measure => simp [intOf]; omega
        · have ho : ∀ w1 w2 w3, ((FloatKind.format .f32).order (fopR .sub .f32 (fopR .sub .f32 (fopR .add .f32 x m w1) z w2) sl w3) 0 == some Ordering.lt) = true := fun w1 w2 w3 => (ltB_of (hr w1 w2 w3)).trans hT
          have HV := Lib.hid ((HS2.out _ (hr w w w)).1 ((ltB_of (hr w w w)).trans hT))
          have HP := Lib.hid (HPush.out _ HV.out)
          clear hT hr HS2 HPush
          go_wp2_with (at_builtin; refine wpList_append_own _ rfl _ _ 22 rfl w.heap.size 23 i0 (.float .f32 0) 1 4 Try.underlying22 hi hz0 hz1 hz2 rfl (by decide) _ _ _ rfl (World.ownsRow.alloc (FOwn.drewN hown.out _) _) ⟨wo.heap.size, 0, none⟩ 1 1 [_] rfl rfl (one_new rfl) ?c2 ?c3 ?c4 ?c5 ?_)
          case c2 => intro u hu; simp at hu; subst hu; rfl
          case c3 => unfold maxLen; omega
          case c4 => omega
          case c5 => simp; show w.heap.size ≤ wo.heap.size + 1; omega
          intro v' w1 hown' hgrow _
          have R := FOwn.push hown.out hbel.out hsz hown' hgrow
          have hR := Lib.hid R
          have hrl2 := Lib.hid hrl.out
          clear R hown' hgrow hown hbel hrs hrl hck ho
          go_wp2
          go_roundw
          case rel =>
            refine ⟨k + 1, _, _, by omega, by go_num, rfl, ?_, Lib.hid HV.out, Lib.hid hR.out.1, Lib.hid HP.out, Lib.hid hR.out.2⟩
            exact Lib.hid (by rw [List.length_append, hrl2.out]; rfl)
          case measure => simp [intOf]; omega
    · have hkl : k = len := by omega
      have hfin := Lib.hid (show cnl rs = dfL (becT m sl down) zs by unfold dfL; rw [hrs.out, HL.out, hkl])
      clear hrs H
      go_wp2
      go_ret
      exact ⟨_, rs, rfl, hown.out, hfin.out, hbel.out⟩
end Go.Proofs.Ytpaelafopjmklaa
