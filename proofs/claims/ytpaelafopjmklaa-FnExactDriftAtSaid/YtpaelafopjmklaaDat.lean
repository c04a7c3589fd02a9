/-
  DriftAt, in both packages.
-/
import Derived.Test.YtpaelafopjmklaaDup
import Derived.Test.YtpaelafopjmklaaRow
namespace Go.Proofs.Ytpaelafopjmklaa
open Ieee Go.RowKit
set_option linter.unusedVariables false

def gtB (x y : Nat) : Bool := (FloatKind.format .f32).order x y == some .gt
theorem gtB_congr {x x' y y' : Nat} (h : cn .f32 x = cn .f32 x') (h' : cn .f32 y = cn .f32 y') : gtB x y = gtB x' y' := by unfold gtB; rw [order_left .f32 h y, order_right .f32 x' h']
/-- One of both is greater than the bar. -/
def atQ (us ds : List Nat) (bar k : Nat) : Bool := gtB (us.getD k 0) bar || gtB (ds.getD k 0) bar
def atV (us ds : List Nat) (bar n : Nat) : Int := match (List.range n).find? (atQ us ds bar) with
  | some k => (k : Int)
  | none => -1
theorem at_none {us ds : List Nat} {bar n : Nat} (h : ∀ j, j < n → atQ us ds bar j = false) : atV us ds bar n = -1 := by
  unfold atV
  have : (List.range n).find? (atQ us ds bar) = none := by
    rw [List.find?_eq_none]
    intro j hj
    rw [h j (by simpa using hj)]; simp
  rw [this]
theorem at_some {us ds : List Nat} {bar n k : Nat} (h : ∀ j, j < k → atQ us ds bar j = false) (hk : k < n) (hq : atQ us ds bar k = true) : atV us ds bar n = k := by
  unfold atV
  have : (List.range n).find? (atQ us ds bar) = some k := by
    rw [List.find?_range_eq_some]
    exact ⟨hq, by simpa using hk, fun j hj => by rw [h j hj]; rfl⟩
  rw [this]
def daB (m sl bar : Nat) (zs : List Nat) : Bool := dfB (becT m sl false) m sl zs && (dfB (becT m sl true) m sl zs && leaB bar)
def daV (m sl bar : Nat) (zs : List Nat) : Int := if daB m sl bar zs then atV (dfL (becT m sl false) zs) (dfL (becT m sl true) zs) bar zs.length else 0
theorem da_bad {m sl bar : Nat} {zs : List Nat} (h : daB m sl bar zs = false) : daV m sl bar zs = 0 ∧ daB m sl bar zs = false := ⟨by unfold daV; rw [h]; rfl, h⟩
theorem df_full {bec : Nat → Nat → Nat} {m sl : Nat} {zs : List Nat} (h : dfB bec m sl zs = true) : dfR bec m sl zs = dfL bec zs := by
  have hw : wchB m sl zs = true := by unfold dfB at h; exact (Bool.and_eq_true _ _ ▸ h).1
  rw [(df_good hw).2]; unfold lstR; rw [← (df_good (bec := bec) hw).1, h]; rfl
/-- A whole number and a bool. -/
def RetIB (v : Int) (b : Bool) (w : World) (e : Ending) (w' : World) : Prop := e = .returned (.tuple #[.int .i64 v, .bool b]) ∧ Below w.heap.size w w'
set_option maxHeartbeats 2000000 in
set_option maxRecDepth 100000 in
theorem imDat_any (a : Option Addr) (len cap : Nat) (zs : List Nat) (m sl bar : Nat) (w : World) (h : FSl w a len zs) (hm : len ≤ 1048576) :
    Calls Try.prog 31 #[.slice a len cap, .float .f32 m, .float .f32 sl, .float .f32 bar] w (RetIB (daV m sl bar zs) (daB m sl bar zs) w) := by
  have H := Lib.hid h
  have HL := Lib.hid h.1
  clear h
  cases h1 : dfB (becT m sl false) m sl zs
  · cases h2 : dfB (becT m sl true) m sl zs
    · have H1 := Lib.hid h1
      have H2 := Lib.hid h2
      have HB := Lib.hid (da_bad (m := m) (sl := sl) (bar := bar) (zs := zs) (by unfold daB; rw [h1, h2]; simp))
      clear h1 h2
      go_enter Try.func31, Try.ntmps31
      go_wp2_with fail
      refine (imUp_any _ _ _ _ _ _ _ H.out hm).mono ?_
      rw [H1.out]
      rintro e w1 ⟨v1, us, rfl, hu, xu, b1⟩
      have HU := Lib.hid hu
      have XU := Lib.hid xu
      have B1 := Lib.hid b1
      clear hu xu b1
      go_wp2_with fail
      refine (imDown_any _ _ _ _ _ _ _ (FSl.below H.out B1.out) hm).mono ?_
      rw [H2.out]
      rintro e w2 ⟨v2, ds, rfl, hd, xd, b2⟩
      have HD := Lib.hid (hd.mono B1.out.size)
      have XD := Lib.hid xd
      have HU2 := Lib.hid (FOwn.below HU.out b2)
      have B2 := Lib.hid (B1.out.trans (b2.mono B1.out.size))
      clear hd xd b2
      go_wp2
      go_ret2
      exact ⟨by rw [HB.out.1, HB.out.2]; rfl, B2.out⟩
    · have H1 := Lib.hid h1
      have H2 := Lib.hid h2
      have HB := Lib.hid (da_bad (m := m) (sl := sl) (bar := bar) (zs := zs) (by unfold daB; rw [h1, h2]; simp))
      clear h1 h2
      go_enter Try.func31, Try.ntmps31
      go_wp2_with fail
      refine (imUp_any _ _ _ _ _ _ _ H.out hm).mono ?_
      rw [H1.out]
      rintro e w1 ⟨v1, us, rfl, hu, xu, b1⟩
      have HU := Lib.hid hu
      have XU := Lib.hid xu
      have B1 := Lib.hid b1
      clear hu xu b1
      go_wp2_with fail
      refine (imDown_any _ _ _ _ _ _ _ (FSl.below H.out B1.out) hm).mono ?_
      rw [H2.out]
      rintro e w2 ⟨v2, ds, rfl, hd, xd, b2⟩
      have HD := Lib.hid (hd.mono B1.out.size)
      have XD := Lib.hid xd
      have HU2 := Lib.hid (FOwn.below HU.out b2)
      have B2 := Lib.hid (B1.out.trans (b2.mono B1.out.size))
      clear hd xd b2
      go_wp2
      go_ret2
      exact ⟨by rw [HB.out.1, HB.out.2]; rfl, B2.out⟩
  · cases h2 : dfB (becT m sl true) m sl zs
    · have H1 := Lib.hid h1
      have H2 := Lib.hid h2
      have HB := Lib.hid (da_bad (m := m) (sl := sl) (bar := bar) (zs := zs) (by unfold daB; rw [h1, h2]; simp))
      clear h1 h2
      go_enter Try.func31, Try.ntmps31
      go_wp2_with fail
      refine (imUp_any _ _ _ _ _ _ _ H.out hm).mono ?_
      rw [H1.out]
      rintro e w1 ⟨v1, us, rfl, hu, xu, b1⟩
      have HU := Lib.hid hu
      have XU := Lib.hid xu
      have B1 := Lib.hid b1
      clear hu xu b1
      go_wp2_with fail
      refine (imDown_any _ _ _ _ _ _ _ (FSl.below H.out B1.out) hm).mono ?_
      rw [H2.out]
      rintro e w2 ⟨v2, ds, rfl, hd, xd, b2⟩
      have HD := Lib.hid (hd.mono B1.out.size)
      have XD := Lib.hid xd
      have HU2 := Lib.hid (FOwn.below HU.out b2)
      have B2 := Lib.hid (B1.out.trans (b2.mono B1.out.size))
      clear hd xd b2
      go_wp2
      go_ret2
      exact ⟨by rw [HB.out.1, HB.out.2]; rfl, B2.out⟩
    · have hf1 := df_full h1
      have hf2 := df_full h2
      have H1 := Lib.hid h1
      have H2 := Lib.hid h2
      cases hb : leaB bar
      · cases hfb : fin .f32 bar
        · have HB := Lib.hid (da_bad (m := m) (sl := sl) (bar := bar) (zs := zs) (by unfold daB; rw [hb]; simp))
          have HFb := Lib.hid hfb
          clear h1 h2 hf1 hf2 hb hfb
          go_enter Try.func31, Try.ntmps31
          go_wp2_with fail
          refine (imUp_any _ _ _ _ _ _ _ H.out hm).mono ?_
          rw [H1.out]
          rintro e w1 ⟨v1, us, rfl, hu, xu, b1⟩
          have HU := Lib.hid hu
          have XU := Lib.hid xu
          have B1 := Lib.hid b1
          clear hu xu b1
          go_wp2_with fail
          refine (imDown_any _ _ _ _ _ _ _ (FSl.below H.out B1.out) hm).mono ?_
          rw [H2.out]
          rintro e w2 ⟨v2, ds, rfl, hd, xd, b2⟩
          have HD := Lib.hid (hd.mono B1.out.size)
          have XD := Lib.hid xd
          have HU2 := Lib.hid (FOwn.below HU.out b2)
          have B2 := Lib.hid (B1.out.trans (b2.mono B1.out.size))
          clear hd xd b2
          go_wp2_with fail
          refine (isFinite_any _ _).mono ?_
          rw [HFb.out]
          rintro e w' ⟨n, rfl, rfl⟩
          go_wp2
          go_ret2
          exact ⟨by rw [HB.out.1, HB.out.2]; rfl, below_drewN B2.out _⟩
        · have HB := Lib.hid (da_bad (m := m) (sl := sl) (bar := bar) (zs := zs) (by unfold daB; rw [hb]; simp))
          have HFb := Lib.hid hfb
          have ho : ((FloatKind.format .f32).order bar 0 == some Ordering.lt) = true := by
            have hg : geB bar = false := by unfold leaB at hb; rw [hfb] at hb; exact hb
            rw [lt_ge hfb, hg]; rfl
          clear h1 h2 hf1 hf2 hb hfb
          go_enter Try.func31, Try.ntmps31
          go_wp2_with fail
          refine (imUp_any _ _ _ _ _ _ _ H.out hm).mono ?_
          rw [H1.out]
          rintro e w1 ⟨v1, us, rfl, hu, xu, b1⟩
          have HU := Lib.hid hu
          have XU := Lib.hid xu
          have B1 := Lib.hid b1
          clear hu xu b1
          go_wp2_with fail
          refine (imDown_any _ _ _ _ _ _ _ (FSl.below H.out B1.out) hm).mono ?_
          rw [H2.out]
          rintro e w2 ⟨v2, ds, rfl, hd, xd, b2⟩
          have HD := Lib.hid (hd.mono B1.out.size)
          have XD := Lib.hid xd
          have HU2 := Lib.hid (FOwn.below HU.out b2)
          have B2 := Lib.hid (B1.out.trans (b2.mono B1.out.size))
          clear hd xd b2
          go_wp2_with fail
          refine (isFinite_any _ _).mono ?_
          rw [HFb.out]
          rintro e w' ⟨n, rfl, rfl⟩
          go_wp2
          go_ret2
          exact ⟨by rw [HB.out.1, HB.out.2]; rfl, below_drewN B2.out _⟩
      · have HA := Lib.hid (show daV m sl bar zs = atV (dfL (becT m sl false) zs) (dfL (becT m sl true) zs) bar len ∧ daB m sl bar zs = true from by
          have hd : daB m sl bar zs = true := by unfold daB; rw [h1, h2, hb]; rfl
          exact ⟨by unfold daV; rw [hd, HL.out]; rfl, hd⟩)
        have hfb : fin .f32 bar = true := by unfold leaB at hb; exact (Bool.and_eq_true _ _ ▸ hb).1
        have HFb := Lib.hid hfb
        have ho : ((FloatKind.format .f32).order bar 0 == some Ordering.lt) = false := by
          have hg : geB bar = true := by unfold leaB at hb; exact (Bool.and_eq_true _ _ ▸ hb).2
          rw [lt_ge hfb, hg]; rfl
        clear hfb
        have HF1 := Lib.hid hf1
        have HF2 := Lib.hid hf2
        clear h1 h2 hf1 hf2 hb
        go_enter Try.func31, Try.ntmps31
        go_wp2_with fail
        refine (imUp_any _ _ _ _ _ _ _ H.out hm).mono ?_
        rw [H1.out]
        rintro e w1 ⟨v1, us, rfl, hu, xu, b1⟩
        have HU := Lib.hid hu
        have XU := Lib.hid xu
        have B1 := Lib.hid b1
        clear hu xu b1
        go_wp2_with fail
        refine (imDown_any _ _ _ _ _ _ _ (FSl.below H.out B1.out) hm).mono ?_
        rw [H2.out]
        rintro e w2 ⟨v2, ds, rfl, hd, xd, b2⟩
        have HD := Lib.hid (hd.mono B1.out.size)
        have XD := Lib.hid xd
        have HU2 := Lib.hid (FOwn.below HU.out b2)
        have B2 := Lib.hid (B1.out.trans (b2.mono B1.out.size))
        clear hd xd b2
        obtain ⟨A1, c1, rfl, s1, _⟩ := HU2.out.sl
        obtain ⟨A2, c2, rfl, s2, _⟩ := HD.out.sl
        have hl1 : us.length = len := by rw [← cnl_len, XU.out, HF1.out]; unfold dfL; rw [tells_len, HL.out]
        have hl2 : ds.length = len := by rw [← cnl_len, XD.out, HF2.out]; unfold dfL; rw [tells_len, HL.out]
        have HQ := Lib.hid (show ∀ k, k < len → atQ (dfL (becT m sl false) zs) (dfL (becT m sl true) zs) bar k = (gtB (us.getD k 0) bar || gtB (ds.getD k 0) bar) from fun k hk => by
          unfold atQ
          rw [gtB_congr (x := (dfL (becT m sl false) zs).getD k 0) (x' := us.getD k 0) (y' := bar) (by rw [← HF1.out, ← XU.out, cnl_at (by omega), cn_cn]) rfl, gtB_congr (x := (dfL (becT m sl true) zs).getD k 0) (x' := ds.getD k 0) (y' := bar) (by rw [← HF2.out, ← XD.out, cnl_at (by omega), cn_cn]) rfl])
        rw [hl1] at s1
        rw [hl2] at s2
        have S1 := Lib.hid s1
        have S2 := Lib.hid s2
        rw [hl1]
        rw [hl2]
        clear hl1 hl2 s1 s2 HU HU2 HD
        go_wp2_with fail
        refine (isFinite_any _ _).mono ?_
        rw [HFb.out]
        rintro e w' ⟨n, rfl, rfl⟩
        go_wp2
        go_loopw [46] (fun i wr => ∃ k q : Nat, k ≤ len ∧ i = .int .i64 k ∧ wr = w2.drewN q ∧ Hid (∀ j, j < k → atQ (dfL (becT m sl false) zs) (dfL (becT m sl true) zs) bar j = false)) (fun i _ => len - (intOf i).toNat)
        case atStart => exact ⟨0, _, Nat.zero_le _, rfl, rfl, Lib.hid (fun j hj => by omega)⟩
        case round =>
          obtain ⟨k, q, hk, rfl, rfl, hq⟩ := hrel
          by_cases hlt : k < len
          · obtain ⟨b, off, rfl, hb, hc⟩ := S1.out.at (by omega)
            obtain ⟨b', off', rfl, hb', hc'⟩ := S2.out.at (by omega)
            have hck := hc k hlt
            have hck' := hc' k hlt
            have hQ := HQ.out k hlt
            generalize us.getD k 0 = x at *
            generalize ds.getD k 0 = y at *
            cases g1 : gtB x bar
            · have o1 : ((FloatKind.format .f32).order x bar == some Ordering.gt) = false := g1
              cases g2 : gtB y bar
              · have o2 : ((FloatKind.format .f32).order y bar == some Ordering.gt) = false := g2
                rw [g1, g2] at hQ
                have HN := Lib.hid (show ∀ j, j < k + 1 → atQ (dfL (becT m sl false) zs) (dfL (becT m sl true) zs) bar j = false from fun j hj => by
                  rcases Nat.lt_or_ge j k with h1 | h1
                  · exact hq.out j h1
                  · obtain rfl : j = k := by omega
                    exact hQ)
                clear hc hc' hb hb' hq hQ g1 g2
                go_wp2
                go_roundw
                case rel => exact ⟨k + 1, _, by omega, by go_num, rfl, HN⟩
                case measure => simp [intOf]; omega
              · have o2 : ((FloatKind.format .f32).order y bar == some Ordering.gt) = true := g2
                rw [g1, g2] at hQ
                have HV := Lib.hid (at_some hq.out hlt hQ)
                clear hc hc' hb hb' hq hQ g1 g2
                go_wp2
                go_ret2
                exact ⟨by rw [HA.out.1, HA.out.2, HV.out]; rfl, below_drewN B2.out _⟩
            · have o1 : ((FloatKind.format .f32).order x bar == some Ordering.gt) = true := g1
              rw [g1] at hQ
              have HV := Lib.hid (at_some hq.out hlt (by rw [hQ]; rfl))
              clear hc hc' hb hb' hq hQ g1
              go_wp2
              go_ret2
              exact ⟨by rw [HA.out.1, HA.out.2, HV.out]; rfl, below_drewN B2.out _⟩
          · have e : k = len := by omega
            have HV := Lib.hid (at_none (n := len) (by rw [← e]; exact hq.out))
            clear e hq
            go_wp2
            go_ret2
            exact ⟨by rw [HA.out.1, HA.out.2, HV.out]; rfl, below_drewN B2.out _⟩
set_option maxHeartbeats 2000000 in
set_option maxRecDepth 100000 in
theorem spDat_any (a : Option Addr) (len cap : Nat) (zs : List Nat) (m sl bar : Nat) (w : World) (h : FSl w a len zs) (hm : len ≤ 1048576) :
    Calls Try.prog 30 #[.slice a len cap, .float .f32 m, .float .f32 sl, .float .f32 bar] w (RetIB (daV m sl bar zs) (daB m sl bar zs) w) := by
  have H := Lib.hid h
  have HL := Lib.hid h.1
  clear h
  cases h1 : dfB (becT m sl false) m sl zs
  · cases h2 : dfB (becT m sl true) m sl zs
    · have H1 := Lib.hid h1
      have H2 := Lib.hid h2
      have HB := Lib.hid (da_bad (m := m) (sl := sl) (bar := bar) (zs := zs) (by unfold daB; rw [h1, h2]; simp))
      clear h1 h2
      go_enter Try.func30, Try.ntmps30
      go_wp2_with fail
      refine (spUp_any _ _ _ _ _ _ _ H.out hm).mono ?_
      rw [H1.out]
      rintro e w1 ⟨v1, us, rfl, hu, xu, b1⟩
      have HU := Lib.hid hu
      have XU := Lib.hid xu
      have B1 := Lib.hid b1
      clear hu xu b1
      go_wp2_with fail
      refine (spDown_any _ _ _ _ _ _ _ (FSl.below H.out B1.out) hm).mono ?_
      rw [H2.out]
      rintro e w2 ⟨v2, ds, rfl, hd, xd, b2⟩
      have HD := Lib.hid (hd.mono B1.out.size)
      have XD := Lib.hid xd
      have HU2 := Lib.hid (FOwn.below HU.out b2)
      have B2 := Lib.hid (B1.out.trans (b2.mono B1.out.size))
      clear hd xd b2
      go_wp2
      go_ret2
      exact ⟨by rw [HB.out.1, HB.out.2]; rfl, B2.out⟩
    · have H1 := Lib.hid h1
      have H2 := Lib.hid h2
      have HB := Lib.hid (da_bad (m := m) (sl := sl) (bar := bar) (zs := zs) (by unfold daB; rw [h1, h2]; simp))
      clear h1 h2
      go_enter Try.func30, Try.ntmps30
      go_wp2_with fail
      refine (spUp_any _ _ _ _ _ _ _ H.out hm).mono ?_
      rw [H1.out]
      rintro e w1 ⟨v1, us, rfl, hu, xu, b1⟩
      have HU := Lib.hid hu
      have XU := Lib.hid xu
      have B1 := Lib.hid b1
      clear hu xu b1
      go_wp2_with fail
      refine (spDown_any _ _ _ _ _ _ _ (FSl.below H.out B1.out) hm).mono ?_
      rw [H2.out]
      rintro e w2 ⟨v2, ds, rfl, hd, xd, b2⟩
      have HD := Lib.hid (hd.mono B1.out.size)
      have XD := Lib.hid xd
      have HU2 := Lib.hid (FOwn.below HU.out b2)
      have B2 := Lib.hid (B1.out.trans (b2.mono B1.out.size))
      clear hd xd b2
      go_wp2
      go_ret2
      exact ⟨by rw [HB.out.1, HB.out.2]; rfl, B2.out⟩
  · cases h2 : dfB (becT m sl true) m sl zs
    · have H1 := Lib.hid h1
      have H2 := Lib.hid h2
      have HB := Lib.hid (da_bad (m := m) (sl := sl) (bar := bar) (zs := zs) (by unfold daB; rw [h1, h2]; simp))
      clear h1 h2
      go_enter Try.func30, Try.ntmps30
      go_wp2_with fail
      refine (spUp_any _ _ _ _ _ _ _ H.out hm).mono ?_
      rw [H1.out]
      rintro e w1 ⟨v1, us, rfl, hu, xu, b1⟩
      have HU := Lib.hid hu
      have XU := Lib.hid xu
      have B1 := Lib.hid b1
      clear hu xu b1
      go_wp2_with fail
      refine (spDown_any _ _ _ _ _ _ _ (FSl.below H.out B1.out) hm).mono ?_
      rw [H2.out]
      rintro e w2 ⟨v2, ds, rfl, hd, xd, b2⟩
      have HD := Lib.hid (hd.mono B1.out.size)
      have XD := Lib.hid xd
      have HU2 := Lib.hid (FOwn.below HU.out b2)
      have B2 := Lib.hid (B1.out.trans (b2.mono B1.out.size))
      clear hd xd b2
      go_wp2
      go_ret2
      exact ⟨by rw [HB.out.1, HB.out.2]; rfl, B2.out⟩
    · have hf1 := df_full h1
      have hf2 := df_full h2
      have H1 := Lib.hid h1
      have H2 := Lib.hid h2
      cases hb : leaB bar
      · have HB := Lib.hid (da_bad (m := m) (sl := sl) (bar := bar) (zs := zs) (by unfold daB; rw [hb]; simp))
        have HLe := Lib.hid hb
        clear h1 h2 hf1 hf2 hb
        go_enter Try.func30, Try.ntmps30
        go_wp2_with fail
        refine (spUp_any _ _ _ _ _ _ _ H.out hm).mono ?_
        rw [H1.out]
        rintro e w1 ⟨v1, us, rfl, hu, xu, b1⟩
        have HU := Lib.hid hu
        have XU := Lib.hid xu
        have B1 := Lib.hid b1
        clear hu xu b1
        go_wp2_with fail
        refine (spDown_any _ _ _ _ _ _ _ (FSl.below H.out B1.out) hm).mono ?_
        rw [H2.out]
        rintro e w2 ⟨v2, ds, rfl, hd, xd, b2⟩
        have HD := Lib.hid (hd.mono B1.out.size)
        have XD := Lib.hid xd
        have HU2 := Lib.hid (FOwn.below HU.out b2)
        have B2 := Lib.hid (B1.out.trans (b2.mono B1.out.size))
        clear hd xd b2
        go_wp2_with fail
        refine (lea_any _ _).mono ?_
        rw [HLe.out]
        rintro e w' ⟨n, rfl, rfl⟩
        go_wp2
        go_ret2
        exact ⟨by rw [HB.out.1, HB.out.2]; rfl, below_drewN B2.out _⟩
      · have HA := Lib.hid (show daV m sl bar zs = atV (dfL (becT m sl false) zs) (dfL (becT m sl true) zs) bar len ∧ daB m sl bar zs = true from by
          have hd : daB m sl bar zs = true := by unfold daB; rw [h1, h2, hb]; rfl
          exact ⟨by unfold daV; rw [hd, HL.out]; rfl, hd⟩)
        have HLe := Lib.hid hb
        have HF1 := Lib.hid hf1
        have HF2 := Lib.hid hf2
        clear h1 h2 hf1 hf2 hb
        go_enter Try.func30, Try.ntmps30
        go_wp2_with fail
        refine (spUp_any _ _ _ _ _ _ _ H.out hm).mono ?_
        rw [H1.out]
        rintro e w1 ⟨v1, us, rfl, hu, xu, b1⟩
        have HU := Lib.hid hu
        have XU := Lib.hid xu
        have B1 := Lib.hid b1
        clear hu xu b1
        go_wp2_with fail
        refine (spDown_any _ _ _ _ _ _ _ (FSl.below H.out B1.out) hm).mono ?_
        rw [H2.out]
        rintro e w2 ⟨v2, ds, rfl, hd, xd, b2⟩
        have HD := Lib.hid (hd.mono B1.out.size)
        have XD := Lib.hid xd
        have HU2 := Lib.hid (FOwn.below HU.out b2)
        have B2 := Lib.hid (B1.out.trans (b2.mono B1.out.size))
        clear hd xd b2
        obtain ⟨A1, c1, rfl, s1, _⟩ := HU2.out.sl
        obtain ⟨A2, c2, rfl, s2, _⟩ := HD.out.sl
        have hl1 : us.length = len := by rw [← cnl_len, XU.out, HF1.out]; unfold dfL; rw [tells_len, HL.out]
        have hl2 : ds.length = len := by rw [← cnl_len, XD.out, HF2.out]; unfold dfL; rw [tells_len, HL.out]
        have HQ := Lib.hid (show ∀ k, k < len → atQ (dfL (becT m sl false) zs) (dfL (becT m sl true) zs) bar k = (gtB (us.getD k 0) bar || gtB (ds.getD k 0) bar) from fun k hk => by
          unfold atQ
          rw [gtB_congr (x := (dfL (becT m sl false) zs).getD k 0) (x' := us.getD k 0) (y' := bar) (by rw [← HF1.out, ← XU.out, cnl_at (by omega), cn_cn]) rfl, gtB_congr (x := (dfL (becT m sl true) zs).getD k 0) (x' := ds.getD k 0) (y' := bar) (by rw [← HF2.out, ← XD.out, cnl_at (by omega), cn_cn]) rfl])
        rw [hl1] at s1
        rw [hl2] at s2
        have S1 := Lib.hid s1
        have S2 := Lib.hid s2
        rw [hl1]
        rw [hl2]
        clear hl1 hl2 s1 s2 HU HU2 HD
        go_wp2_with fail
        refine (lea_any _ _).mono ?_
        rw [HLe.out]
        rintro e w' ⟨n, rfl, rfl⟩
        go_wp2
        go_loopw [42] (fun i wr => ∃ k q : Nat, k ≤ len ∧ i = .int .i64 k ∧ wr = w2.drewN q ∧ Hid (∀ j, j < k → atQ (dfL (becT m sl false) zs) (dfL (becT m sl true) zs) bar j = false)) (fun i _ => len - (intOf i).toNat)
        case atStart => exact ⟨0, _, Nat.zero_le _, rfl, rfl, Lib.hid (fun j hj => by omega)⟩
        case round =>
          obtain ⟨k, q, hk, rfl, rfl, hq⟩ := hrel
          by_cases hlt : k < len
          · obtain ⟨b, off, rfl, hb, hc⟩ := S1.out.at (by omega)
            obtain ⟨b', off', rfl, hb', hc'⟩ := S2.out.at (by omega)
            have hck := hc k hlt
            have hck' := hc' k hlt
            have hQ := HQ.out k hlt
            generalize us.getD k 0 = x at *
            generalize ds.getD k 0 = y at *
            cases g1 : gtB x bar
            · have o1 : ((FloatKind.format .f32).order x bar == some Ordering.gt) = false := g1
              cases g2 : gtB y bar
              · have o2 : ((FloatKind.format .f32).order y bar == some Ordering.gt) = false := g2
                rw [g1, g2] at hQ
                have HN := Lib.hid (show ∀ j, j < k + 1 → atQ (dfL (becT m sl false) zs) (dfL (becT m sl true) zs) bar j = false from fun j hj => by
                  rcases Nat.lt_or_ge j k with h1 | h1
                  · exact hq.out j h1
                  · obtain rfl : j = k := by omega
                    exact hQ)
                clear hc hc' hb hb' hq hQ g1 g2
                go_wp2
                go_roundw
                case rel => exact ⟨k + 1, _, by omega, by go_num, rfl, HN⟩
                case measure => simp [intOf]; omega
              · have o2 : ((FloatKind.format .f32).order y bar == some Ordering.gt) = true := g2
                rw [g1, g2] at hQ
                have HV := Lib.hid (at_some hq.out hlt hQ)
                clear hc hc' hb hb' hq hQ g1 g2
                go_wp2
                go_ret2
                exact ⟨by rw [HA.out.1, HA.out.2, HV.out]; rfl, below_drewN B2.out _⟩
            · have o1 : ((FloatKind.format .f32).order x bar == some Ordering.gt) = true := g1
              rw [g1] at hQ
              have HV := Lib.hid (at_some hq.out hlt (by rw [hQ]; rfl))
              clear hc hc' hb hb' hq hQ g1
              go_wp2
              go_ret2
              exact ⟨by rw [HA.out.1, HA.out.2, HV.out]; rfl, below_drewN B2.out _⟩
          · have e : k = len := by omega
            have HV := Lib.hid (at_none (n := len) (by rw [← e]; exact hq.out))
            clear e hq
            go_wp2
            go_ret2
            exact ⟨by rw [HA.out.1, HA.out.2, HV.out]; rfl, below_drewN B2.out _⟩
end Go.Proofs.Ytpaelafopjmklaa
