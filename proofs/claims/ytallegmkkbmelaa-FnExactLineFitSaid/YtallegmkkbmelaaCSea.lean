/-
  SeasonOf, in both packages.
-/
import Derived.Test.YtallegmkkbmelaaCBox
import Derived.Test.YtallegmkkbmelaaCMea
import Derived.Test.YtallegmkkbmelaaFnf
import Derived.Deep.QuietTactic
import Derived.BigQuiet
namespace Go.Proofs.Ytallegmkkbmelaa
open Ieee Go.RowKit
set_option linter.unusedVariables false

theorem mean32_congr {rs rs' : List Nat} (h : cnl rs = cnl rs') : mean32 rs = mean32 rs' := by
  have hl : rs.length = rs'.length := by rw [← cnl_len, h, cnl_len]
  unfold mean32
  rw [sum32_congr h, hl]
theorem mean32_cnl (rs : List Nat) : mean32 (cnl rs) = mean32 rs := mean32_congr (cnl_cnl rs)
theorem serB_congr {rs rs' : List Nat} (h : cnl rs = cnl rs') : serB rs = serB rs' := by
  have hl : rs.length = rs'.length := by rw [← cnl_len, h, cnl_len]
  unfold serB
  rw [fins_congr h, hl]
/-- The first q numbers at the places p, p + n, and so on. -/
def colQ (zs : List Nat) (n p q : Nat) : List Nat := tells (fun j => cn .f32 (zs.getD (p + j * n) 0)) q
def colZ (zs : List Nat) (n p : Nat) : List Nat := colQ zs n p ((zs.length - p + n - 1) / n)
theorem colQ_cnl (zs : List Nat) (n p q : Nat) : cnl (colQ zs n p q) = colQ zs n p q := by
  unfold colQ tells cnl
  rw [List.map_map]
  congr 1
  funext j
  exact cn_cn .f32 _
theorem col_end {zs : List Nat} {n p q i : Nat} (hp : p < zs.length) (hi : i = p + q * n) (h1 : zs.length ≤ i) (h2 : i < zs.length + n) : colZ zs n p = colQ zs n p q := by
  unfold colZ
  congr 1
  subst hi
  refine Nat.div_eq_of_lt_le (by omega) ?_
  rw [Nat.succ_mul]
  omega
theorem col_len {zs : List Nat} {n p : Nat} (hn : 1 ≤ n) (hp : p < zs.length) : 1 ≤ (colZ zs n p).length ∧ (colZ zs n p).length ≤ zs.length := by
  unfold colZ colQ
  rw [tells_len]
  constructor
  · exact Nat.div_pos (by omega) (by omega)
  · have h1 : (zs.length - p + n - 1) / n ≤ zs.length - p := by
      rw [Nat.div_le_iff_le_mul_add_pred (by omega)]
      have := Nat.le_mul_of_pos_left (zs.length - p) (show 0 < n by omega)
      omega
    omega
theorem col_ser {zs : List Nat} {n p : Nat} (h : serB zs = true) (hn : 1 ≤ n) (hp : p < zs.length) (hpn : p < n) : serB (colZ zs n p) = true := by
  obtain ⟨h1, h2, h3⟩ := serB_t h
  obtain ⟨a, b⟩ := col_len hn hp
  unfold serB
  rw [decide_eq_true ⟨a, by omega⟩, Bool.true_and]
  unfold colZ colQ
  refine List.all_eq_true.2 fun x hx => ?_
  unfold tells at hx
  obtain ⟨j, hj, rfl⟩ := List.mem_map.1 hx
  have hj : j < (zs.length - p + n - 1) / n := by simpa using hj
  have hjn : (j + 1) * n ≤ zs.length - p + n - 1 := Nat.le_trans (Nat.mul_le_mul_right n hj) (Nat.div_mul_le_self _ _)
  rw [Nat.succ_mul] at hjn
  rw [fin_congr (cn_cn .f32 _)]
  exact fins_at h3 (by omega)
def meansZ (zs : List Nat) (n k : Nat) : List Nat := tells (fun p => mean32 (colZ zs n p)) k
def seaM (zs : List Nat) (n : Nat) : Nat := mean32 (meansZ zs n n)
def seaZ (zs : List Nat) (n : Nat) : List Nat := less32 (meansZ zs n n) (seaM zs n)
def seaL (zs : List Nat) (a : Int) : List Nat := seaZ zs a.toNat
def seaB (zs : List Nat) (a : Int) : Bool := stepB zs a && fins (seaL zs a)
def seaR (zs : List Nat) (a : Int) : List Nat := if stepB zs a then lstR (seaL zs a) else []
theorem seaZ_len (zs : List Nat) (n : Nat) : (seaZ zs n).length = n := by unfold seaZ; rw [less_len]; unfold meansZ; rw [tells_len]
theorem seaR_len (zs : List Nat) (a : Int) : (seaR zs a).length ≤ 1048576 := by
  unfold seaR
  split
  · rename_i h
    obtain ⟨_, h1, h2, h3⟩ := stepB_t h
    unfold lstR
    split
    · unfold seaL; rw [seaZ_len]; omega
    · simp
  · simp
theorem sea_bad {zs : List Nat} {a : Int} (h : stepB zs a = false) : seaB zs a = false ∧ seaR zs a = [] := by unfold seaB seaR; rw [h]; exact ⟨rfl, rfl⟩
theorem sea_good {zs : List Nat} {a : Int} (h : stepB zs a = true) : seaB zs a = fins (seaL zs a) ∧ seaR zs a = lstR (seaL zs a) := by unfold seaB seaR; rw [h]; exact ⟨rfl, rfl⟩
theorem means_cnl (zs : List Nat) (n k : Nat) : cnl (meansZ zs n k) = meansZ zs n k := by
  unfold meansZ tells cnl
  rw [List.map_map]
  congr 1
  funext j
  exact cn_mean _
theorem fin_foldl {zs : List Nat} : ∀ {s : Nat}, fin .f32 (zs.foldl (fun s x => aop .add .f32 s (cn .f32 x)) s) = true → fin .f32 s = true ∧ fins zs = true := by
  induction zs with
  | nil => intro s h; exact ⟨h, rfl⟩
  | cons x xs ih =>
    intro s h
    obtain ⟨h1, h2⟩ := ih h
    obtain ⟨h3, h4⟩ := fin_add h1
    refine ⟨h3, ?_⟩
    unfold fins at *
    rw [List.all_cons, h2, fin_congr (cn_cn .f32 x).symm, h4]; rfl
theorem fins_of_mean {zs : List Nat} (h : fin .f32 (mean32 zs) = true) : fins zs = true := (fin_foldl (fin_quo h)).2
/-- Means that are not finite leave no season. -/
theorem sea_mean {zs : List Nat} {n : Nat} (hn : 1 ≤ n) (h : fins (seaZ zs n) = true) : fin .f32 (seaM zs n) = true := by
  have h0 := fins_at h (k := 0) (by rw [seaZ_len]; omega)
  have e : (seaZ zs n).getD 0 0 = aop .sub .f32 (cn .f32 ((meansZ zs n n).getD 0 0)) (seaM zs n) := by
    unfold seaZ less32
    have : 0 < (meansZ zs n n).length := by unfold meansZ; rw [tells_len]; omega
    simp [List.getD, this]
  rw [e] at h0
  exact (fin_sub h0).2
theorem sea_fins {zs : List Nat} {n : Nat} (hn : 1 ≤ n) (h : fins (seaZ zs n) = true) : fins (meansZ zs n n) = true := fins_of_mean (sea_mean hn h)

set_option maxHeartbeats 4000000 in
set_option maxRecDepth 100000 in
theorem season_any (a : Option Addr) (len cap n : Nat) (zs : List Nat) (w : World) (h : FSl w a len zs) (hm : len ≤ 96) (hn : 1 ≤ n) (hn2 : n ≤ len) :
    Calls Try.prog 44 #[.slice a len cap, .int .i64 n] w (RetO 23 (seaZ zs n) w) := by
  obtain ⟨i0, hi, hz0, hz1, hz2⟩ := info_parts Try.infoR
  have H := Lib.hid h
  have HL := Lib.hid h.1
  have HN := Lib.hid (FOwn.made (T := 23) w (Nat.le_refl _))
  clear h
  go_enter Try.func44, Try.ntmps44
  go_wp2
  go_loopw [5, 6] (fun v i wr => ∃ (p : Nat) (rs : List Nat), p ≤ n ∧ i = .int .i64 p ∧ Hid (rs.length = p) ∧ Hid (FOwn 23 w.heap.size wr v rs) ∧ Hid (cnl rs = meansZ zs n p) ∧ Hid (Below w.heap.size w wr)) (fun _ i _ => n - (intOf i).toNat)
  case atStart => exact ⟨0, [], Nat.zero_le _, rfl, Lib.hid rfl, HN, Lib.hid rfl, Lib.hid ((Below.refl _ _).alloc (Nat.le_refl _) _)⟩
  case round =>
    obtain ⟨p, rs, hp, rfl, hrl, hown, hrs, hbel⟩ := hrel
    rename World => wo
    by_cases hplt : p < n
    · have hsz := hbel.out.size
      have hrk : rs.length ≤ 1048576 := by have := hrl.out; omega
      have HN2 := Lib.hid (FOwn.made (T := 23) wo (Nat.le_refl _))
      go_wp2
      go_loopw [7, 8] (fun u c wx => ∃ (q i : Nat) (xs : List Nat), i < len + n ∧ c = .int .i64 i ∧ Hid (i = p + q * n) ∧ q ≤ i ∧ Hid (xs.length = q) ∧ Hid (FOwn 23 wo.heap.size wx u xs) ∧ Hid (cnl xs = colQ zs n p q) ∧ Hid (Below wo.heap.size wo wx)) (fun _ c _ => len + n - (intOf c).toNat)
      case atStart => exact ⟨0, p, [], by omega, rfl, Lib.hid (by simp), by omega, Lib.hid rfl, HN2, Lib.hid rfl, Lib.hid ((Below.refl _ _).alloc (Nat.le_refl _) _)⟩
      case round =>
        obtain ⟨q, i, xs, hi2, rfl, hiq, hqi, hxl, hxo, hxs, hxb⟩ := hrel
        have hsx := hxb.out.size
        by_cases hlt : i < len
        · obtain ⟨b, off, rfl, hb, hc⟩ := H.out.at (by omega)
          have hck := hc i hlt
          have hbb := hbel.out.trans (hxb.out.mono hbel.out.size)
          rw [← hbb.cell (p := ⟨b, off + i, none⟩) hb] at hck
          have hcs := Lib.hid (show ∀ z, zs.getD i 0 = z → cnl (xs ++ [z]) = colQ zs n p (q + 1) from fun z hz => (cnl_snoc hxs.out (by rw [← hz, hiq.out])).trans (tells_succ (fun j => cn .f32 (zs.getD (p + j * n) 0)) q).symm)
          have hcz := Lib.hid (hcs.out _ rfl)
          have hxk : xs.length ≤ 1048576 := by have := hxl.out; omega
          clear hcs hc hb hbb H
          generalize zs.getD i 0 = z at *
          go_wp2_with (at_builtin; refine wpList_append_own _ rfl _ _ 22 rfl wo.heap.size 23 i0 (.float .f32 0) 1 4 Try.underlying22 hi hz0 hz1 hz2 rfl (by decide) _ _ _ rfl (World.ownsRow.alloc (FOwn.drewN hxo.out 0) _) ⟨wr.heap.size, 0, none⟩ 1 1 [_] rfl rfl (one_new rfl) ?c2 ?c3 ?c4 ?c5 ?_)
          case c2 => intro u hu; simp at hu; subst hu; rfl
          case c3 => unfold maxLen; omega
          case c4 => omega
          case c5 => simp; show wo.heap.size ≤ wr.heap.size + 1; omega
          intro v' w1 hown' hgrow _
          have R := FOwn.push (n := 0) hxo.out hxb.out hsx hown' hgrow
          have hR := Lib.hid R
          have hxl2 := Lib.hid hxl.out
          have hiq2 := Lib.hid (show i + n = p + (q + 1) * n by rw [hiq.out, Nat.succ_mul, Nat.add_assoc])
          clear R hown' hgrow hxo hxb hxs hxl hck hiq
          go_wp2
          go_roundw
          case rel =>
            refine ⟨q + 1, i + n, _, by omega, by go_num, hiq2, by omega, ?_, Lib.hid hR.out.1, hcz, Lib.hid hR.out.2⟩
            exact Lib.hid (by rw [List.length_append, hxl2.out]; rfl)
          case measure => simp [intOf]; omega
        · have hcol := Lib.hid (show cnl xs = colZ zs n p by rw [hxs.out, col_end (by rw [HL.out]; omega) hiq.out (by rw [HL.out]; omega) (by rw [HL.out]; omega)])
          have hxk : xs.length ≤ 1048576 := by have := hxl.out; omega
          obtain ⟨A, cp, rfl, hsl, _⟩ := hxo.out.sl
          have HSL := Lib.hid hsl
          have HO1 := Lib.hid (show FOwn 23 w.heap.size wr u5 rs from World.ownsRow.kept hown.out (⟨hxb.out.os, hxb.out.tape, hxb.out.output, hxb.out.size, fun k hk _ => hxb.out.block k hk⟩ : wo.grownBy wr none) (by
            rcases hown.out.2 with ⟨rfl, _⟩ | ⟨g, cap, cur, rfl, _⟩
            · exact .inl rfl
            · exact .inr (by simp [Value.ownBlock])))
          have HB1 := Lib.hid (hbel.out.trans (hxb.out.mono hbel.out.size))
          have hsz1 := HB1.out.size
          have hcs := Lib.hid (show ∀ r, cn .f32 r = mean32 xs → cnl (rs ++ [r]) = meansZ zs n (p + 1) from fun r hr => (cnl_snoc hrs.out (by rw [hr, ← mean32_cnl xs, hcol.out])).trans (tells_succ (fun p => mean32 (colZ zs n p)) p).symm)
          clear hsl hxo hxs hxb hcol hown hbel hrs hxl hiq
          go_wp2_with fail
          refine (l02Mean_any _ _ _ _ _ HSL.out hxk).mono ?_
          rintro e w' ⟨r, m2, hr, rfl, rfl⟩
          have hcz := Lib.hid (hcs.out _ hr)
          clear hr hcs
          go_wp2_with (at_builtin; refine wpList_append_own _ rfl _ _ 22 rfl w.heap.size 23 i0 (.float .f32 0) 1 4 Try.underlying22 hi hz0 hz1 hz2 rfl (by decide) _ _ _ rfl (World.ownsRow.alloc (FOwn.drewN HO1.out _) _) ⟨wr.heap.size, 0, none⟩ 1 1 [_] rfl rfl (one_new rfl) ?c2 ?c3 ?c4 ?c5 ?_)
          case c2 => intro u hu; simp at hu; subst hu; rfl
          case c3 => unfold maxLen; omega
          case c4 => omega
          case c5 => simp; show w.heap.size ≤ wr.heap.size + 1; omega
          intro v' w1 hown' hgrow _
          have R := FOwn.push HO1.out HB1.out hsz1 hown' hgrow
          have hR := Lib.hid R
          have hrl2 := Lib.hid hrl.out
          clear R hown' hgrow HO1 HB1 hrl
          go_wp2
          go_roundw
          case rel =>
            refine ⟨p + 1, _, by omega, by go_num, ?_, Lib.hid hR.out.1, hcz, Lib.hid hR.out.2⟩
            exact Lib.hid (by rw [List.length_append, hrl2.out]; rfl)
          case measure => simp [intOf]; omega
    · have hpn : p = n := by omega
      have HR0 := Lib.hid (show cnl rs = meansZ zs n n by rw [hrs.out, hpn])
      have hrk : rs.length ≤ 1048576 := by have := hrl.out; omega
      obtain ⟨A, cp, rfl, hsl, _⟩ := hown.out.sl
      have HSL := Lib.hid hsl
      clear hsl hown hrs hrl H
      go_wp2_with fail
      refine (l02Mean_any _ _ _ _ _ HSL.out hrk).mono ?_
      rintro e w' ⟨x, m, hx, rfl, rfl⟩
      have HX := Lib.hid (show cn .f32 x = seaM zs n by rw [hx, ← mean32_cnl, HR0.out]; rfl)
      clear hx
      go_wp2_with fail
      refine (l02Less_any _ _ _ _ _ _ (FSl.drewN HSL.out m) hrk).mono ?_
      rintro e w1 ⟨v, ys, rfl, hown, hys, hb⟩
      have HO := Lib.hid (hown.mono (show w.heap.size ≤ _ from hbel.out.size))
      have HY := Lib.hid (show cnl ys = seaZ zs n by
        rw [hys, HX.out]
        unfold seaZ
        rw [← HR0.out]
        unfold less32 cnl
        rw [List.map_map]
        congr 1
        funext z
        show _ = aop .sub .f32 (cn .f32 (cn .f32 z)) _
        rw [cn_cn])
      have HB := Lib.hid ((below_drewN hbel.out m).trans (hb.mono (show w.heap.size ≤ _ from hbel.out.size)))
      clear hown hys hb
      go_wp2
      go_ret
      exact ⟨v, ys, rfl, HO.out, HY.out, HB.out⟩
end Go.Proofs.Ytallegmkkbmelaa
