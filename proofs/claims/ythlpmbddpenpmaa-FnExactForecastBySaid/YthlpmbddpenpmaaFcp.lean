/-
  ForecastBy of the model.
-/
import Derived.Test.YthlpmbddpenpmaaFcs
import Derived.Test.YthlpmbddpenpmaaCIn
import Derived.Test.YthlpmbddpenpmaaCLaw
namespace Go.Proofs.Ythlpmbddpenpmaa
open Ieee Go.RowKit
set_option linter.unusedVariables false

set_option maxHeartbeats 1000000 in
theorem can_any (a : Option Addr) (len cap : Nat) (zs : List Nat) (q p c : Int) (w : World) (h : FSl w a len zs) (hm : len ≤ 1048576) :
    Calls Try.prog 85 #[.slice a len cap, .int .i64 q, .int .i64 p, .int .i64 c] w (RetV (.bool (fcB zs q p c)) w) := by
  have H := Lib.hid h
  have HL := Lib.hid h.1
  clear h
  cases hs : serB zs
  · have HS := Lib.hid hs
    have HB := Lib.hid (show fcB zs q p c = false by unfold fcB; rw [hs]; rfl)
    clear hs
    go_enter Try.func85, Try.ntmps85
    go_wp2_with fail
    refine (specSeries_any _ _ _ _ _ H.out hm).mono ?_
    rw [HS.out]
    rintro e w' ⟨m, rfl, rfl⟩
    go_wp2_with fail
    go_ret
    exact ⟨_, by rw [HB.out]; rfl, rfl⟩
  · have HS := Lib.hid hs
    by_cases hq : 0 ≤ q ∧ q ≤ 4
    · have HQ := Lib.hid hq
      by_cases hp : 1 ≤ p ∧ p ≤ (len : Int)
      · have HP := Lib.hid hp
        by_cases hc : 1 ≤ c ∧ c ≤ 32
        · have HC := Lib.hid hc
          have HB := Lib.hid (show fcB zs q p c = true by unfold fcB; rw [hs, decide_eq_true hq, HL.out, decide_eq_true hp, decide_eq_true hc]; rfl)
          clear hs hq hp hc
          go_enter Try.func85, Try.ntmps85
          go_wp2_with fail
          refine (specSeries_any _ _ _ _ _ H.out hm).mono ?_
          rw [HS.out]
          rintro e w' ⟨m, rfl, rfl⟩
          go_wp2_with fail
          refine (in_yes _ _ _ _ HQ.out.1 HQ.out.2).mono ?_
          rintro e w' ⟨rfl, rfl⟩
          go_wp2_with fail
          refine (in_yes _ _ _ _ HP.out.1 HP.out.2).mono ?_
          rintro e w' ⟨rfl, rfl⟩
          go_wp2_with fail
          refine (in_yes _ _ _ _ HC.out.1 HC.out.2).mono ?_
          rintro e w' ⟨rfl, rfl⟩
          go_wp2_with fail
          go_ret
          exact ⟨_, by rw [HB.out]; rfl, rfl⟩
        · have HC := Lib.hid (show c < 1 ∨ 32 < c by omega)
          have HB := Lib.hid (show fcB zs q p c = false by unfold fcB; rw [decide_eq_false hc]; simp)
          clear hs hq hp hc
          go_enter Try.func85, Try.ntmps85
          go_wp2_with fail
          refine (specSeries_any _ _ _ _ _ H.out hm).mono ?_
          rw [HS.out]
          rintro e w' ⟨m, rfl, rfl⟩
          go_wp2_with fail
          refine (in_yes _ _ _ _ HQ.out.1 HQ.out.2).mono ?_
          rintro e w' ⟨rfl, rfl⟩
          go_wp2_with fail
          refine (in_yes _ _ _ _ HP.out.1 HP.out.2).mono ?_
          rintro e w' ⟨rfl, rfl⟩
          go_wp2_with fail
          refine (in_no _ _ _ _ HC.out).mono ?_
          rintro e w' ⟨rfl, rfl⟩
          go_wp2_with fail
          go_ret
          exact ⟨_, by rw [HB.out]; rfl, rfl⟩
      · have HP := Lib.hid (show p < 1 ∨ (len : Int) < p by omega)
        have HB := Lib.hid (show fcB zs q p c = false by unfold fcB; rw [HL.out, decide_eq_false hp]; simp)
        clear hs hq hp
        go_enter Try.func85, Try.ntmps85
        go_wp2_with fail
        refine (specSeries_any _ _ _ _ _ H.out hm).mono ?_
        rw [HS.out]
        rintro e w' ⟨m, rfl, rfl⟩
        go_wp2_with fail
        refine (in_yes _ _ _ _ HQ.out.1 HQ.out.2).mono ?_
        rintro e w' ⟨rfl, rfl⟩
        go_wp2_with fail
        refine (in_no _ _ _ _ HP.out).mono ?_
        rintro e w' ⟨rfl, rfl⟩
        go_wp2_with fail
        go_ret
        exact ⟨_, by rw [HB.out]; rfl, rfl⟩
    · have HQ := Lib.hid (show q < 0 ∨ 4 < q by omega)
      have HB := Lib.hid (show fcB zs q p c = false by unfold fcB; rw [decide_eq_false hq]; simp)
      clear hs hq
      go_enter Try.func85, Try.ntmps85
      go_wp2_with fail
      refine (specSeries_any _ _ _ _ _ H.out hm).mono ?_
      rw [HS.out]
      rintro e w' ⟨m, rfl, rfl⟩
      go_wp2_with fail
      refine (in_no _ _ _ _ HQ.out).mono ?_
      rintro e w' ⟨rfl, rfl⟩
      go_wp2_with fail
      go_ret
      exact ⟨_, by rw [HB.out]; rfl, rfl⟩
theorem FOwn.belowF {T : TypeId} {B : Nat} {w w' : World} {v : Value} {rs : List Nat} (h : FOwn T B w v rs) (hb : Below w.heap.size w w') : FOwn T B w' v rs := by
  refine ⟨h.1, ?_⟩
  rcases h.2 with h2 | ⟨g, cap, cur, rfl, h3, h4, h5⟩
  · exact .inl h2
  · have hlt : g < w.heap.size := by
      rcases Nat.lt_or_ge g w.heap.size with hlt | hge
      · exact hlt
      · rw [Array.getElem?_eq_none hge] at h4; cases h4
    exact .inr ⟨g, cap, cur, rfl, h3, (hb.block g hlt).trans h4, h5⟩
def RetAh (v : Nat) (w : World) (e : Ending) (w' : World) : Prop := ∃ r, cn .f32 r = v ∧ e = .returned (.float .f32 r) ∧ Below w.heap.size w w'
set_option maxHeartbeats 2000000 in
set_option maxRecDepth 100000 in
theorem ahead_any (a : Option Addr) (len cap : Nat) (zs : List Nat) (q p k : Nat) (w : World) (h : FSl w a len zs) (h1 : 1 ≤ len) (h96 : len ≤ 96) (hf : fins zs = true) (hq : q ≤ 4) (hp : 1 ≤ p) (hpl : p ≤ len) (hk : 1 ≤ k) (hk32 : k ≤ 32) :
    Calls Try.prog 86 #[.slice a len cap, .int .i64 (q : Int), .int .i64 (p : Int), .int .i64 (k : Int)] w (RetAh (fcA zs q p k) w) := by
  have H := Lib.hid h
  have HL := Lib.hid h.1
  obtain ⟨b, off, rfl, hb, hc⟩ := h.at (by omega)
  have hck := hc (len - 1) (by omega)
  have hc0 := hc 0 (by omega)
  rw [Nat.add_zero] at hc0
  have HLs := Lib.hid (show cn .f32 (zs.getD (len - 1) 0) = fcLast zs by unfold fcLast; rw [HL.out])
  have hfl := fins_at hf (k := len - 1) (by rw [HL.out]; omega)
  have hf0 := fins_at hf (k := 0) (by rw [HL.out]; omega)
  obtain ⟨m, hm⟩ : ∃ m, len = m + 1 := ⟨len - 1, by omega⟩
  have hw1 : wrap64 ((len : Int) - 1) = (m : Int) := by unfold wrap64; omega
  have hq' : q = 0 ∨ q = 1 ∨ q = 2 ∨ q = 3 ∨ q = 4 := by omega
  have hwp : wrap64 ((len : Int) - (p : Int)) = ((len - p : Nat) : Int) := by unfold wrap64; omega
  subst hm
  rw [Nat.add_sub_cancel] at hck HLs hfl
  rcases hq' with rfl | rfl | rfl | rfl | rfl
  · have HV := Lib.hid (show cn .f32 (zs.getD m 0) = fcA zs 0 p k from HLs.out)
    generalize zs.getD m 0 = z at *
    clear hc hb h hc0 hf hfl hf0 HLs hwp
    go_enter Try.func86, Try.ntmps86
    go_wp2
    go_ret
    exact ⟨z, HV.out, rfl, Below.refl _ _⟩
  · obtain ⟨r, hr⟩ : ∃ r, (k - 1) % p = r := ⟨_, rfl⟩
    have hrp : r < p := by rw [← hr]; exact Nat.mod_lt _ (by omega)
    have hcr := hc (m + 1 - p + r) (by omega)
    have HV := Lib.hid (show cn .f32 (zs.getD (m + 1 - p + r) 0) = fcA zs 1 p k by rw [← hr, ← HL.out]; rfl)
    obtain ⟨k', rfl⟩ : ∃ k', k = k' + 1 := ⟨k - 1, by omega⟩
    rw [Nat.add_sub_cancel] at hr
    have hmod : Int.tmod (k' : Int) (p : Int) = (r : Int) := by rw [← hr]; rfl
    have hw2 : wrap64 (((m + 1 : Nat) : Int) - (p : Int) + (r : Int)) = ((m + 1 - p + r : Nat) : Int) := by unfold wrap64; omega
    have hw3 : wrap64 (((m : Int) + 1) - (p : Int)) = (m : Int) + 1 - (p : Int) := by unfold wrap64; omega
    have hp0 : (p : Int) ≠ 0 := by omega
    generalize zs.getD (m + 1 - p + r) 0 = z1 at *
    generalize zs.getD m 0 = z at *
    clear hc hb h hc0 hf hfl hf0 HLs
    go_enter Try.func86, Try.ntmps86
    go_wp2
    go_ret
    exact ⟨z1, HV.out, rfl, Below.refl _ _⟩
  · have HV := Lib.hid (show mean32 zs = fcA zs 2 p k from rfl)
    generalize zs.getD m 0 = z at *
    clear hc hb h hc0 hf hfl hf0 HLs hwp
    go_enter Try.func86, Try.ntmps86
    go_wp2_with fail
    refine (l02Mean_any _ _ _ _ _ H.out (by omega)).mono ?_
    rintro e w' ⟨r, n, hr, rfl, rfl⟩
    have HR := Lib.hid (hr.trans HV.out)
    clear hr
    go_wp2
    go_ret
    exact ⟨r, HR.out, rfl, below_drewN (Below.refl _ _) _⟩
  · by_cases hm1 : m = 0
    · subst hm1
      have HV := Lib.hid (show ∀ z w1 w2, cn .f32 z = fcLast zs → cn .f32 (fopR .add .f32 z (fopR .mul .f32 (floatOfInt .f32 (k : Int)) 0 w1) w2) = fcA zs 3 p k from fun z w1 w2 hz => by
        rw [cn_fopR, cn_fopR, hz, cn_zero]
        show _ = aop .add .f32 (fcLast zs) (aop .mul .f32 (cn .f32 (i2f (k : Int))) (fcSlope zs))
        unfold fcSlope
        rw [HL.out, if_pos (by omega)]; rfl)
      have HV2 := Lib.hid (fun w1 w2 => HV.out _ w1 w2 HLs.out)
      generalize zs.getD 0 0 = z at *
      clear hc hb h hf hfl hf0 HLs hwp HV hck
      go_enter Try.func86, Try.ntmps86
      go_wp2
      go_ret
      exact ⟨_, HV2.out _ _, rfl, below_drewN (Below.refl _ _) _⟩
    · have hez := fin_cn hfl
      have he0 := fin_cn hf0
      have HV := Lib.hid (show ∀ w0 w1 w2, cn .f32 (fopR .add .f32 (zs.getD m 0) (fopR .mul .f32 (floatOfInt .f32 (k : Int)) (fopR .quo .f32 (aop .sub .f32 (zs.getD m 0) (zs.getD 0 0)) (floatOfInt .f32 (m : Int)) w0) w1) w2) = fcA zs 3 p k from fun w0 w1 w2 => by
        rw [cn_fopR, cn_fopR, cn_fopR, cn_aop, HLs.out]
        show _ = aop .add .f32 (fcLast zs) (aop .mul .f32 (cn .f32 (i2f (k : Int))) (fcSlope zs))
        unfold fcSlope
        rw [HL.out, if_neg (by omega), ← HLs.out, hez, he0, show (((m + 1 : Nat) : Int) - 1) = (m : Int) by omega]; rfl)
      have hsub : ∀ w t, (binOp .sub t (.float .f32 (zs.getD m 0)) (.float .f32 (zs.getD 0 0))).run Try.prog w = .ok (.float .f32 (aop .sub .f32 (zs.getD m 0) (zs.getD 0 0))) w := fun w t => op_run t (isN_sub hfl hf0) w
      have hn1 : ((m : Int) + 1 == 1) = false := by rw [beq_eq_false_iff_ne]; omega
      generalize zs.getD m 0 = z at *
      generalize zs.getD 0 0 = z0 at *
      clear hc hb h hf hfl hf0 HLs hwp hez he0
      go_enter Try.func86, Try.ntmps86
      go_wp2
      go_ret
      exact ⟨_, HV.out _ _ _, rfl, below_drewN (Below.refl _ _) _⟩
  · have HVl := Lib.hid (show (lvL zs lv03).getD m 0 = fcA zs 4 p k by
      show _ = (lvL zs lv03).getD (zs.length - 1) 0
      rw [HL.out]; rfl)
    generalize zs.getD m 0 = z at *
    clear hc hb h hc0 hf hfl hf0 HLs hwp
    go_enter Try.func86, Try.ntmps86
    go_wp2_with fail
    refine (levels_any _ _ _ _ lv03 _ H.out (by omega) (by omega)).mono ?_
    rintro e w1 ⟨v, rs, rfl, ho, hx, hlr, hb⟩
    obtain ⟨A, cp, rfl, hsl, _⟩ := ho.sl
    rw [hlr] at hsl
    obtain ⟨c, o, rfl, _, hcc⟩ := hsl.at (by omega)
    have hcz := hcc m (by omega)
    have HR := Lib.hid (show cn .f32 (rs.getD m 0) = fcA zs 4 p k by rw [← HVl.out, ← hx, cnl_at (by omega)])
    have HB := Lib.hid hb
    generalize rs.getD m 0 = y at *
    simp only [hlr]
    clear ho hx hlr hb hsl hcc
    go_wp2
    go_ret
    exact ⟨y, HR.out, rfl, HB.out⟩
set_option maxHeartbeats 2000000 in
set_option maxRecDepth 100000 in
theorem spFc_any (a : Option Addr) (len cap : Nat) (zs : List Nat) (q p c : Int) (w : World) (h : FSl w a len zs) (hm : len ≤ 1048576) (hcap : len ≤ cap) (hcap2 : cap ≤ 9223372036854775807) :
    Calls Try.prog 40 #[.slice a len cap, .int .i64 q, .int .i64 p, .int .i64 c] w (RetOB 23 (fcR zs q p c) (fcOk zs q p c) w) := by
  obtain ⟨i0, hi, hz0, hz1, hz2⟩ := info_parts Try.infoR
  have H := Lib.hid h
  have HL := Lib.hid h.1
  clear h hcap hcap2
  cases hb : fcB zs q p c
  · have HB := Lib.hid (fc_bad hb)
    have HC := Lib.hid hb
    clear hb hi hz0 hz1 hz2
    go_enter Try.func40, Try.ntmps40
    go_wp2_with fail
    refine (can_any _ _ _ _ _ _ _ _ H.out hm).mono ?_
    rw [HC.out]
    rintro e w' ⟨m, rfl, rfl⟩
    go_wp2_with fail
    go_ret2
    exact fail_ob _ HB.out.1 HB.out.2 (below_drewN (Below.refl _ _) _)
  · have HB := Lib.hid (fc_good hb)
    have HC := Lib.hid hb
    obtain ⟨hs, hq, hp, hc⟩ := fcB_t hb
    obtain ⟨h1, h96, hfn⟩ := serB_t hs
    rw [HL.out] at h1 h96 hp
    obtain ⟨q, rfl⟩ : ∃ n : Nat, q = n := ⟨q.toNat, by omega⟩
    obtain ⟨p, rfl⟩ : ∃ n : Nat, p = n := ⟨p.toNat, by omega⟩
    obtain ⟨c, rfl⟩ : ∃ n : Nat, c = n := ⟨c.toNat, by omega⟩
    have HFn := Lib.hid hfn
    have HTl := Lib.hid (show tells (fun k => fcA zs q p (k + 1)) c = fcL zs q p c from rfl)
    have hq4 : q ≤ 4 := by omega
    have hp1 : 1 ≤ p := by omega
    have hpl : p ≤ len := by omega
    have hc32 : c ≤ 32 := by omega
    have HN := Lib.hid (fun m => FOwn.made (T := 23) (B := w.heap.size) (w.drewN m) (Nat.le_refl _))
    clear hb hs hfn hq hp
    go_enter Try.func40, Try.ntmps40
    go_wp2_with fail
    refine (can_any _ _ _ _ _ _ _ _ H.out hm).mono ?_
    rw [HC.out]
    rintro e w' ⟨m, rfl, rfl⟩
    go_wp2
    go_loopw [10, 11] (fun v i wr => ∃ (k : Nat) (rs : List Nat), k ≤ c ∧ i = .int .i64 ((k : Int) + 1) ∧ Hid (rs.length = k) ∧ Hid (FOwn 23 w.heap.size wr v rs) ∧ Hid (cnl rs = tells (fun k => fcA zs q p (k + 1)) k) ∧ Hid (Below w.heap.size w wr)) (fun _ i _ => c + 1 - (intOf i).toNat)
    case atStart => exact ⟨0, [], Nat.zero_le _, rfl, Lib.hid rfl, Lib.hid (HN.out _), Lib.hid rfl, Lib.hid ((below_drewN (Below.refl _ _) _).alloc (by show w.heap.size ≤ w.heap.size; exact Nat.le_refl _) _)⟩
    case round =>
      rename_i wr
      obtain ⟨k, rs, hk, rfl, hrl, hown, hrs, hbel⟩ := hrel
      by_cases hlt : k < c
      · have hd : decide ((k : Int) + 1 ≤ (c : Int)) = true := decide_eq_true (by omega)
        have hsz := hbel.out.size
        have hrk : rs.length ≤ 1048576 := by have := hrl.out; omega
        have HRl := Lib.hid hrl.out
        have HSn := Lib.hid (fun r (hr : cn .f32 r = fcA zs q p (k + 1)) => (cnl_snoc hrs.out hr).trans (tells_succ (fun k => fcA zs q p (k + 1)) k).symm)
        clear hrs hrl
        go_wp2_with fail
        refine (ahead_any _ _ _ zs q p (k + 1) _ (FSl.below H.out hbel.out) h1 h96 HFn.out hq4 hp1 hpl (by omega) (by omega)).mono ?_
        rintro e w1 ⟨r, hr, rfl, hb1⟩
        have HCS := Lib.hid (HSn.out r hr)
        have HO1 := Lib.hid (show FOwn 23 w.heap.size w1 _ rs from hown.out.belowF hb1)
        have HB1 := Lib.hid (hbel.out.trans (hb1.mono hsz))
        have hsz1 := HB1.out.size
        clear hr hb1 HSn hown hbel
        go_wp2_with (at_builtin; refine wpList_append_own _ rfl _ _ 22 rfl w.heap.size 23 i0 (.float .f32 0) 1 4 Try.underlying22 hi hz0 hz1 hz2 rfl (by decide) _ _ _ rfl (World.ownsRow.alloc (FOwn.drewN HO1.out 0) _) ⟨w1.heap.size, 0, none⟩ 1 1 [_] rfl rfl (one_new rfl) ?c2 ?c3 ?c4 ?c5 ?_)
        case c2 => intro u hu; simp at hu; subst hu; rfl
        case c3 => unfold maxLen; omega
        case c4 => omega
        case c5 => simp <;> omega
        intro v' w3 hown' hgrow _
        have R := FOwn.push (n := 0) HO1.out HB1.out hsz1 hown' hgrow
        have hR := Lib.hid R
        clear R hown' hgrow HO1 HB1
        go_wp2
        go_roundw
        case rel =>
          refine ⟨k + 1, _, by omega, by go_num, ?_, Lib.hid hR.out.1, HCS, Lib.hid hR.out.2⟩
          exact Lib.hid (by rw [List.length_append, HRl.out]; rfl)
        case measure => simp [intOf]; omega
      · have hd : decide ((k : Int) + 1 ≤ (c : Int)) = false := decide_eq_false (by omega)
        have hfin := Lib.hid (show cnl rs = fcL zs q p c by rw [hrs.out, ← HTl.out, show k = c by omega])
        obtain ⟨A, cp, rfl, hsl, _⟩ := hown.out.sl
        have HS := Lib.hid hsl
        have hm2 : rs.length ≤ 1048576 := by have := hrl.out; omega
        clear hrs hsl
        go_wp2_with fail
        refine (specList_any 23 _ _ rs (fcL zs q p c) _ w _ rfl HS.out hfin.out hm2 hown.out hbel.out).mono ?_
        rintro e w3 ⟨v, ys, rfl, ho, hx', hb'⟩
        have HO := Lib.hid ho
        have HX2 := Lib.hid (hx'.trans HB.out.2.symm)
        have HBB := Lib.hid hb'
        have HT := Lib.hid (show fins (fcL zs q p c) = fcOk zs q p c from HB.out.1.symm)
        rw [HT.out]
        clear ho hx' hb'
        go_wp2
        go_ret2
        exact ⟨v, ys, rfl, HO.out, HX2.out, HBB.out⟩
end Go.Proofs.Ythlpmbddpenpmaa
