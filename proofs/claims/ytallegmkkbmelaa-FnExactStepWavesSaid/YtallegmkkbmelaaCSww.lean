/-
  StepWaves, in both packages: the functions themselves.
-/
import Derived.Test.YtallegmkkbmelaaCSwv
import Derived.Deep.RegionHeld3
import Derived.Deep.AppendLies
namespace Go.Proofs.Ytallegmkkbmelaa
open Ieee Go.RowKit
set_option linter.unusedVariables false

set_option maxHeartbeats 1000000 in
set_option maxRecDepth 100000 in
theorem implSw_any (a : Option Addr) (len cap : Nat) (zs : List Nat) (w : World) (h : FSl w a len zs) (hm : len ≤ 1048576) :
    Calls Try.prog 28 #[.slice a len cap] w (RetL2 23 (swL zs (swM zs)) (swL zs (swS zs)) (swB zs) w) := by
  have hmf : ∀ (fn : Fn) (first cap : Array Value) (w : World), (Instr.makeFunc fn first cap).run Try.prog w = .ok (.func fn first cap) w := fun _ _ _ _ => rfl
  have HB0 := Lib.hid ((Below.refl w.heap.size w).alloc (Nat.le_refl _) (.cells #[.slice a len cap] 22))
  have H := Lib.hid (FSl.below h HB0.out)
  have HL := Lib.hid h.1
  have HX := Lib.hid (BoxI.start (cap := cap) (t := 22) h)
  clear h
  cases hs : serB zs
  · have HS := Lib.hid hs
    have HN := Lib.hid (show swB zs = false by unfold swB swP; rw [hs]; rfl)
    clear hs
    go_enter Try.func28, Try.ntmps28
    go_wp2_with (go_at_call 32; refine (implSeries_any _ _ _ _ _ H.out hm).mono ?_; rw [HS.out]; rintro e w' ⟨m, rfl, rfl⟩)
    go_ret3
    exact fail_l2 _ HN.out (sw_bad HN.out _) (sw_bad HN.out _) (below_drewN HB0.out _)
  · have HS := Lib.hid hs
    have h96 : len ≤ 96 := by have := (serB_t hs).2.1; rw [HL.out] at this; exact this
    by_cases he : len % 2 = 0
    · obtain ⟨k, hk⟩ : ∃ k, len / 2 = k := ⟨_, rfl⟩
      have hr : ((len : Int) % 2 != 0) = false := by rw [bne_eq_false_iff_eq]; omega
      have hq : ((len : Int).tdiv 2) = (k : Int) := by rw [← hk]; exact (Int.ofNat_tdiv len 2).symm
      have HK := Lib.hid hk
      have HBq := Lib.hid (show swB zs = (fins (tells (swM zs) k) && fins (tells (swS zs) k)) by unfold swB swP; rw [hs, HL.out, decide_eq_true he, hk]; rfl)
      have HLk := Lib.hid (show zs.length / 2 = k by rw [HL.out]; exact hk)
      have hkl : k ≤ len := by omega
      clear hs he hk
      go_enter Try.func28, Try.ntmps28
      go_wp2_with fail
      refine (implSeries_any _ _ _ _ _ H.out hm).mono ?_
      rw [HS.out]
      rintro e w' ⟨m, rfl, rfl⟩
      have HI := Lib.hid (show BoxI w.heap.size a len cap zs ((w.alloc (.cells #[.slice a len cap] 22)).drewN m) from HX.out)
      have HB1 := Lib.hid (below_drewN HB0.out m)
      go_wp2_with fail
      refine (places_any 63 #[.pointer (some ⟨w.heap.size, 0, none⟩)] (swM zs) (fun _ => BoxI w.heap.size a len cap zs) (w.heap.size + 1) k _ (enter_of Try.func63 (by kernel_rfl) rfl) (by omega) (by simp) HI.out (fun k wr wr' h hb => h.keep (by simp) hb) (fun k wr hk hsz hI => sw1_any _ _ _ _ _ _ _ _ _ hI (by rw [HK.out]; exact hk) h96)).mono ?_
      rintro e w1 ⟨v0, r0, rfl, ho, hx, hb⟩
      have hz1 : w.heap.size < w1.heap.size := by have := hb.size; simp at this; omega
      have HI1 := Lib.hid (HI.out.keep (B := w.heap.size + 1) (by omega) hb)
      have HO0 := Lib.hid (show FOwn 23 w.heap.size w1 v0 r0 from ho.mono (by simp))
      have HX0 := Lib.hid hx
      have HB2 := Lib.hid (HB1.out.trans (hb.mono (by omega)))
      obtain ⟨A0, cp0, rfl, _, _⟩ := ho.sl
      clear ho hx hb HI HX
      go_wp2_with fail
      refine (places_any 64 #[.pointer (some ⟨w.heap.size, 0, none⟩)] (swS zs) (fun _ => BoxI w.heap.size a len cap zs) w1.heap.size k _ (enter_of Try.func64 (by kernel_rfl) rfl) (by omega) (Nat.le_refl _) HI1.out (fun k wr wr' h hb => h.keep hz1 hb) (fun k wr hk hsz hI => sw2_any _ _ _ _ _ _ _ _ _ hI (by rw [HK.out]; exact hk) h96)).mono ?_
      rintro e w2 ⟨v1, r1, rfl, ho, hx, hb⟩
      have HO1 := Lib.hid (show FOwn 23 w.heap.size w2 v1 r1 from ho.mono (by omega))
      have HX1 := Lib.hid hx
      have HAp := Lib.hid (show Apt (.slice A0 r0.length cp0) v1 from fun b e0 e1 => by have h1 := (HO0.out.lt b e0).2; have h2 := (ho.lt b e1).1; omega)
      have HO0' := Lib.hid (HO0.out.keepS hb)
      have HB3 := Lib.hid (HB2.out.trans (hb.mono (by omega)))
      obtain ⟨A1, cp1, rfl, _, _⟩ := ho.sl
      clear ho hx hb HI1 HO0
      cases hf0 : fins (tells (swM zs) k)
      · have HN := Lib.hid (show swB zs = false by rw [HBq.out, hf0]; rfl)
        clear hf0
        go_wp2
        go_ret3
        exact fail_l2 _ HN.out (sw_bad HN.out _) (sw_bad HN.out _) HB3.out
      · cases hf1 : fins (tells (swS zs) k)
        · have HN := Lib.hid (show swB zs = false by rw [HBq.out, hf1, Bool.and_false])
          clear hf0 hf1
          go_wp2
          go_ret3
          exact fail_l2 _ HN.out (sw_bad HN.out _) (sw_bad HN.out _) HB3.out
        · have HY := Lib.hid (show swB zs = true by rw [HBq.out, hf0, hf1]; rfl)
          have HE0 := Lib.hid (show cnl r0 = swL zs (swM zs) by rw [HX0.out]; unfold lstR swL; rw [hf0, HY.out, HLk.out])
          have HE1 := Lib.hid (show cnl r1 = swL zs (swS zs) by rw [HX1.out]; unfold lstR swL; rw [hf1, HY.out, HLk.out])
          clear hf0 hf1
          go_wp2
          go_ret3
          exact ⟨_, r0, _, r1, by rw [HY.out]; rfl, ⟨HO0'.out, HO1.out⟩, ⟨HE0.out, HE1.out⟩, HAp.out, HB3.out⟩
    · have hr : ((len : Int) % 2 != 0) = true := by rw [bne_iff_ne]; omega
      have HN := Lib.hid (show swB zs = false by unfold swB swP; rw [HL.out, decide_eq_false he, Bool.and_false]; rfl)
      clear hs he
      go_enter Try.func28, Try.ntmps28
      go_wp2_with (go_at_call 32; refine (implSeries_any _ _ _ _ _ H.out hm).mono ?_; rw [HS.out]; rintro e w' ⟨m, rfl, rfl⟩)
      go_ret3
      exact fail_l2 _ HN.out (sw_bad HN.out _) (sw_bad HN.out _) (below_drewN HB0.out _)
theorem own_at {T : TypeId} {B : Nat} {wx wr : World} {v : Value} {rs : List Nat} (h : FOwn T B wr v rs) (e : wx.heap = wr.heap) (o : Obj) : (wx.alloc o).ownsRow B T 1 v rs.length (rs.map (Value.float .f32)) := by
  refine World.ownsRow.alloc ⟨h.1, ?_⟩ o
  rw [e]; exact h.2
theorem FOwn.ne {T : TypeId} {B b : Nat} {w : World} {v : Value} {rs : List Nat} (h : FOwn T B w v rs) (hb : b < B) : v.ownBlock ≠ some b := fun e => by have := (h.lt b e).1; omega
theorem push_at {T : TypeId} {B r g c : Nat} {w wy wr w1 : World} {v : Value} {rs : List Nat} (h : FOwn T B wr v rs) (hby : Below B w wy) (hB : B ≤ wy.heap.size)
    (hown : w1.ownsRow B T 1 (.slice (some ⟨g, 0, none⟩) (rs.length + 1) c) (rs.length + 1) (rs.map (Value.float .f32) ++ [.float .f32 r])) (hg : wy.grownBy w1 v.ownBlock) : FOwn T B w1 (.slice (some ⟨g, 0, none⟩) (rs.length + 1) c) (rs ++ [r]) ∧ Below B w w1 := by
  refine ⟨?_, hby.grown hg hB (fun k hk => (h.lt k hk).1)⟩
  unfold FOwn
  rw [List.length_append, List.map_append]
  exact hown
theorem FOwn.grown {T : TypeId} {B : Nat} {wy w1 : World} {v : Value} {rs : List Nat} {row : Option Nat} (h : FOwn T B wy v rs) (hg : wy.grownBy w1 row) (hne : ∀ b, v.ownBlock = some b → some b ≠ row) : FOwn T B w1 v rs := by
  refine ⟨h.1, ?_⟩
  have hl := h.lt
  rcases h.2 with h2 | ⟨g, cap, cur, rfl, h3, h4, h5⟩
  · exact .inl h2
  · exact .inr ⟨g, cap, cur, rfl, h3, by rw [hg.block g (hl g rfl).2 (hne g rfl)]; exact h4, h5⟩
theorem add_noN {x y : Nat} (hx : fin .f32 x = true) (hy : fin .f32 y = true) : isN .f32 (aop .add .f32 x y) = false := by
  obtain ⟨s, m, p, h1⟩ := fin_datum hx
  obtain ⟨s', m', p', h2⟩ := fin_datum hy
  have hf : ∃ r, floatBits .add .f32 x y = some r := by
    show ∃ r, Option.map (FloatKind.format .f32).write (((FloatKind.format .f32).read x).sum ((FloatKind.format .f32).read y)) = some r
    rw [h1, h2]; exact ⟨_, rfl⟩
  obtain ⟨r, hf⟩ := hf
  unfold aop
  rw [hf]
  exact (floatBits_nan hf).2.2
theorem sub_noN {x y : Nat} (hx : fin .f32 x = true) (hy : fin .f32 y = true) : isN .f32 (aop .sub .f32 x y) = false := by
  obtain ⟨s, m, p, h1⟩ := fin_datum hx
  obtain ⟨s', m', p', h2⟩ := fin_datum hy
  have hf : ∃ r, floatBits .sub .f32 x y = some r := by
    show ∃ r, Option.map (FloatKind.format .f32).write (((FloatKind.format .f32).read x).sum (((FloatKind.format .f32).read y).opposite)) = some r
    rw [h1, h2]; exact ⟨_, rfl⟩
  obtain ⟨r, hf⟩ := hf
  unfold aop
  rw [hf]
  exact (floatBits_nan hf).2.2
theorem sw_meas {i len : Nat} (h : i < len) : len - (intOf (.int .i64 ((i + 2 : Nat) : Int))).toNat < len - (intOf (.int .i64 (i : Int))).toNat := by simp [intOf]; omega
set_option maxHeartbeats 2000000 in
set_option maxRecDepth 100000 in
theorem specSw_any (a : Option Addr) (len cap : Nat) (zs : List Nat) (w : World) (h : FSl w a len zs) (hm : len ≤ 1048576) :
    Calls Try.prog 27 #[.slice a len cap] w (RetL2 23 (swL zs (swM zs)) (swL zs (swS zs)) (swB zs) w) := by
  obtain ⟨i0, hi, hz0, hz1, hz2⟩ := info_parts Try.infoR
  have H := Lib.hid h
  have HL := Lib.hid h.1
  clear h
  cases hs : serB zs
  · have HS := Lib.hid hs
    have HN := Lib.hid (show swB zs = false by unfold swB swP; rw [hs]; rfl)
    clear hs hi hz0 hz1 hz2
    go_enter Try.func27, Try.ntmps27
    go_wp2_with (go_at_call 29; refine (specSeries_any _ _ _ _ _ H.out hm).mono ?_; rw [HS.out]; rintro e w' ⟨m, rfl, rfl⟩)
    go_ret3
    exact fail_l2 _ HN.out (sw_bad HN.out _) (sw_bad HN.out _) (below_drewN (Below.refl _ _) _)
  · have HS := Lib.hid hs
    have h96 : len ≤ 96 := by have := (serB_t hs).2.1; rw [HL.out] at this; exact this
    by_cases he : len % 2 = 0
    · obtain ⟨K, hK⟩ : ∃ K, len / 2 = K := ⟨_, rfl⟩
      have hlK : len = 2 * K := by omega
      have hr : ((len : Int) % 2 != 0) = false := by rw [bne_eq_false_iff_eq]; omega
      have HBq := Lib.hid (show swB zs = (fins (tells (swM zs) K) && fins (tells (swS zs) K)) by unfold swB swP; rw [hs, HL.out, decide_eq_true he, hK]; rfl)
      have HLk := Lib.hid (show zs.length / 2 = K by rw [HL.out]; exact hK)
      have HFi := Lib.hid (serB_t hs).2.2
      have HlK := Lib.hid hlK
      clear hs he hK hlK
      go_enter Try.func27, Try.ntmps27
      go_wp2_with fail
      refine (specSeries_any _ _ _ _ _ H.out hm).mono ?_
      rw [HS.out]
      rintro e w' ⟨m, rfl, rfl⟩
      have HN0 := Lib.hid (show FOwn 23 w.heap.size (((w.drewN m).alloc (.cells #[] 23)).alloc (.cells #[] 23)) (.slice (some ⟨w.heap.size, 0, none⟩) 0 0) [] from (FOwn.made (T := 23) (B := w.heap.size) (w.drewN m) (Nat.le_refl _)).alloc _)
      have HN1 := Lib.hid (show FOwn 23 w.heap.size (((w.drewN m).alloc (.cells #[] 23)).alloc (.cells #[] 23)) (.slice (some ⟨w.heap.size + 1, 0, none⟩) 0 0) [] from by
        have := FOwn.made (T := 23) (B := w.heap.size) ((w.drewN m).alloc (.cells #[] 23)) (by simp)
        simp only [World.size_alloc] at this
        exact this)
      have HNa := Lib.hid (show Apt (.slice (some ⟨w.heap.size, 0, none⟩) 0 0) (.slice (some ⟨w.heap.size + 1, 0, none⟩) 0 0) from fun b e0 e1 => by simp [Value.ownBlock] at e0 e1; omega)
      have HB0 := Lib.hid (((below_drewN (Below.refl w.heap.size w) m).alloc (Nat.le_refl _) (.cells #[] 23)).alloc (by simp) (.cells #[] 23))
      go_wp2
      go_loopw [5, 6, 7] (fun v0 v1 c wr => ∃ (k i : Nat) (r0 r1 : List Nat), i ≤ len ∧ c = .int .i64 (i : Int) ∧ Hid (i = 2 * k) ∧ Hid (r0.length = k ∧ r1.length = k) ∧ Hid (FOwn 23 w.heap.size wr v0 r0) ∧ Hid (FOwn 23 w.heap.size wr v1 r1) ∧ Hid (Apt v0 v1) ∧ Hid (cnl r0 = tells (swM zs) k) ∧ Hid (cnl r1 = tells (swS zs) k) ∧ Hid (Below w.heap.size w wr)) (fun _ _ c _ => len - (intOf c).toNat)
      case atStart => exact ⟨0, 0, [], [], Nat.zero_le _, rfl, Lib.hid rfl, Lib.hid ⟨rfl, rfl⟩, HN0, HN1, HNa, Lib.hid rfl, Lib.hid rfl, HB0⟩
      case round =>
        rename_i wr
        obtain ⟨k, i, r0, r1, hk, rfl, hik, hrl, ho0, ho1, hap, hrs0, hrs1, hbel⟩ := hrel
        by_cases hlt : i < len
        · have hi2 : i + 1 < len := by have := HlK.out; have := hik.out; omega
          obtain ⟨jj, hjj⟩ : ∃ jj, i + 1 = jj := ⟨_, rfl⟩
          rw [hjj] at hi2
          obtain ⟨b, off, rfl, hb, hc⟩ := H.out.at (by omega)
          have HCa := Lib.hid (hc i hlt)
          have HCb := Lib.hid (hc jj hi2)
          have hck := hc i hlt
          have hck2 := hc jj hi2
          rw [← hbel.out.cell (p := ⟨b, off + i, none⟩) hb] at hck
          rw [← hbel.out.cell (p := ⟨b, off + jj, none⟩) hb] at hck2
          have hfz := fins_at HFi.out (k := i) (by rw [HL.out]; omega)
          have hfy := fins_at HFi.out (k := jj) (by rw [HL.out]; omega)
          have hcs0 := Lib.hid (show cnl (r0 ++ [aop .quo .f32 (aop .add .f32 (zs.getD i 0) (zs.getD jj 0)) 1073741824]) = tells (swM zs) (k + 1) from (cnl_snoc hrs0.out (by rw [cn_aop]; unfold swM; rw [aop_cn, ← hik.out, hjj])).trans (tells_succ (swM zs) k).symm)
          have hcs1 := Lib.hid (show cnl (r1 ++ [aop .quo .f32 (aop .sub .f32 (zs.getD i 0) (zs.getD jj 0)) 1073741824]) = tells (swS zs) (k + 1) from (cnl_snoc hrs1.out (by rw [cn_aop]; unfold swS; rw [aop_cn, ← hik.out, hjj])).trans (tells_succ (swS zs) k).symm)
          have hadd := fun W => add_run (P := Try.prog) 23 hfz hfy W
          have hsub := fun W => sub_run (P := Try.prog) 23 hfz hfy W
          have hmu0 := fun W => mulh_run (P := Try.prog) 23 (add_noN hfz hfy) W
          have hmu1 := fun W => mulh_run (P := Try.prog) 23 (sub_noN hfz hfy) W
          have hsz := hbel.out.size
          have hkl := hik.out
          have hrk0 : r0.length ≤ 1048576 := by have := hrl.out; omega
          have hrk1 : r1.length ≤ 1048576 := by have := hrl.out; omega
          have hB' : b < w.heap.size := hb
          have hio : IntKind.i64.wrap ((i : Int) + 1) = (jj : Int) := by
            rw [show (i : Int) + 1 = (jj : Int) by omega]
            exact IntWalk.i64_in _ (by omega)
          have hw2 : wrap64 ((i : Int) + 1) = (jj : Int) := by unfold wrap64; omega
          have hi0 : (0 : Int) ≤ (i : Int) := by omega
          have hj0 : (0 : Int) ≤ (jj : Int) := by omega
          have hi1 : (i : Int) < (len : Int) := by omega
          have hj1 : (jj : Int) < (len : Int) := by omega
          have HI2 := Lib.hid (show i + 2 ≤ len by omega)
          have HK2 := Lib.hid (show i + 2 = 2 * (k + 1) by have := hik.out; omega)
          clear hc hb hfz hfy hkl hjj
          generalize zs.getD i 0 = z at *
          generalize zs.getD jj 0 = y at *
          have hb96 : w.heap.size ≤ wr.heap.size + 1 := by omega
          have h3 : r0.length + 1 ≤ maxLen := by unfold maxLen; omega
          have h4 : (r0.length + 1) * 4 ≤ 140737488355328 := by omega
          have ag := ho0.out.ne hB'
          have hbw : b < wr.heap.size + 1 := by omega
          go_wp2_with fail
          go_region_held3 (fun w' => w'.cell? ⟨b, off + i, none⟩ = some (.float .f32 z) ∧ w'.cell? ⟨b, off + jj, none⟩ = some (.float .f32 y)) (first | go_keep | (go_split_ands; refine ⟨?_, ?_⟩ <;> (rw [hgrow.cell_far _ (by simp; exact hbw) (Ne.symm ag)]; assumption)))
            ((refine step_append_lies _ (by rfl) _ _ 22 (by rfl) w.heap.size 23 i0 (.float .f32 0) 1 4 Try.underlying22 hi hz0 hz1 hz2 rfl (by decide) _ _ _ (by rfl) (own_at ho0.out (by rfl) _) ⟨wr.heap.size, 0, none⟩ 1 1 [_] (by rfl) (by rfl) (one_new (by rfl)) (by simp [Value.oneCell']) (by omega) h3 h4 (by simp; exact hb96) _ (by rfl) ?_; intro gg cc w1 hown1 hgrow hat hlt1))
          have R := push_at (rs := r0) ho0.out (hbel.out.alloc hsz _).drew (by simp; exact hb96) hown1 hgrow
          have HA := Lib.hid R.1
          have HB1 := Lib.hid R.2
          have HO1 := Lib.hid ((ho1.out.keepS ((Below.refl wr.heap.size wr).alloc (Nat.le_refl _) _).drew).grown hgrow (fun b e1 e2 => hap.out b e2.symm e1))
          have HAp := Lib.hid (show Apt (.slice (some ⟨gg, 0, none⟩) (r0.length + 1) cc) _ from fun b e0 e1 => by
            have hg : gg = b := by simpa [Value.ownBlock] using e0
            subst hg
            rcases hat with h | h
            · exact hap.out _ h e1
            · have := (ho1.out.lt _ e1).2; simp at h; omega)
          have HRl := Lib.hid hrl.out
          have hc1 : w1.cell? ⟨b, off + i, none⟩ = some (.float .f32 z) := (R.2.cell (p := ⟨b, off + i, none⟩) hB').trans HCa.out
          have hc2 : w1.cell? ⟨b, off + jj, none⟩ = some (.float .f32 y) := (R.2.cell (p := ⟨b, off + jj, none⟩) hB').trans HCb.out
          have hsz1 : w.heap.size ≤ w1.heap.size := R.2.size
          have hb97 : w.heap.size ≤ w1.heap.size + 1 := by omega
          have h5 : r1.length + 1 ≤ maxLen := by unfold maxLen; omega
          have h6 : (r1.length + 1) * 4 ≤ 140737488355328 := by omega
          have ag1 := HO1.out.ne hB'
          have hbw1 : b < w1.heap.size + 1 := by omega
          clear R hown1 hgrow hat hlt1 ho0 ho1 hap hbel hrs0 hrs1 hik hrl hck hck2 ag hbw hadd hmu0 h3 h4 hb96 hsz
          go_wp2_with fail
          go_region_held3 (fun w' => w'.cell? ⟨b, off + i, none⟩ = some (.float .f32 z) ∧ w'.cell? ⟨b, off + jj, none⟩ = some (.float .f32 y)) (first | go_keep | (go_split_ands; refine ⟨?_, ?_⟩ <;> (rw [hgrow.cell_far _ (by simp; exact hbw1) (Ne.symm ag1)]; assumption)))
            ((refine step_append_lies _ (by rfl) _ _ 22 (by rfl) w.heap.size 23 i0 (.float .f32 0) 1 4 Try.underlying22 hi hz0 hz1 hz2 rfl (by decide) _ _ _ (by rfl) (own_at HO1.out (by rfl) _) ⟨w1.heap.size, 0, none⟩ 1 1 [_] (by rfl) (by rfl) (one_new (by rfl)) (by simp [Value.oneCell']) (by omega) h5 h6 (by simp; exact hb97) _ (by rfl) ?_; intro gg2 cc2 w3 hown2 hgrow hat2 hlt2))
          have R2 := push_at (rs := r1) HO1.out (HB1.out.alloc hsz1 _).drew (by simp; exact hb97) hown2 hgrow
          have HA2 := Lib.hid R2.1
          have HB2 := Lib.hid R2.2
          have HO0 := Lib.hid ((HA.out.keepS ((Below.refl w1.heap.size w1).alloc (Nat.le_refl _) _).drew).grown hgrow (fun b e1 e2 => HAp.out b e1 e2.symm))
          have HAp2 := Lib.hid (show Apt (.slice (some ⟨gg, 0, none⟩) (r0.length + 1) cc) (.slice (some ⟨gg2, 0, none⟩) (r1.length + 1) cc2) from fun b e0 e1 => by
            have hg : gg2 = b := by simpa [Value.ownBlock] using e1
            subst hg
            rcases hat2 with h | h
            · exact HAp.out _ e0 h
            · have := (HA.out.lt _ e0).2; simp at h; omega)
          clear R2 hown2 hgrow hat2 hlt2 HA HO1 HAp HB1 hc1 hc2 ag1 hbw1 hsub hmu1 h5 h6 hb97
          go_wp2
          go_roundw
          case rel =>
            refine ⟨k + 1, i + 2, _, _, HI2.out, by go_num, HK2, ?_, HO0, HA2, HAp2, hcs0, hcs1, HB2⟩
            exact Lib.hid ⟨by rw [List.length_append, HRl.out.1]; rfl, by rw [List.length_append, HRl.out.2]; rfl⟩
          case measure => exact sw_meas hlt
        · have hkK : k = K := by have := HlK.out; have := hik.out; omega
          have HX0 := Lib.hid (show cnl r0 = tells (swM zs) K by rw [hrs0.out, hkK])
          have HX1 := Lib.hid (show cnl r1 = tells (swS zs) K by rw [hrs1.out, hkK])
          have HF0 := Lib.hid (show fins r0 = fins (tells (swM zs) K) by rw [← fins_cnl, HX0.out])
          have HF1 := Lib.hid (show fins r1 = fins (tells (swS zs) K) by rw [← fins_cnl, HX1.out])
          obtain ⟨A0, cp0, rfl, hs0, _⟩ := ho0.out.sl
          obtain ⟨A1, cp1, rfl, hs1, _⟩ := ho1.out.sl
          have HS0 := Lib.hid hs0
          have HS1 := Lib.hid hs1
          have hrk0 : r0.length ≤ 1048576 := by have := hrl.out; have := HlK.out; omega
          have hrk1 : r1.length ≤ 1048576 := by have := hrl.out; have := HlK.out; omega
          have hdl : decide ((i : Int) < (len : Int)) = false := decide_eq_false (by omega)
          clear hs0 hs1 hrs0 hrs1
          cases hf0 : fins (tells (swM zs) K)
          · have HG := Lib.hid (HF0.out.trans hf0)
            have HN := Lib.hid (show swB zs = false by rw [HBq.out, hf0]; rfl)
            clear hf0
            go_wp2_with (go_at_call 45; refine (specFinite_any _ _ _ _ _ HS0.out hrk0).mono ?_; rw [HG.out]; rintro e w' ⟨n, rfl, rfl⟩)
            go_ret3
            exact fail_l2 _ HN.out (sw_bad HN.out _) (sw_bad HN.out _) (below_drewN hbel.out _)
          · have HG := Lib.hid (HF0.out.trans hf0)
            cases hf1 : fins (tells (swS zs) K)
            · have HG1 := Lib.hid (HF1.out.trans hf1)
              have HN := Lib.hid (show swB zs = false by rw [HBq.out, hf1, Bool.and_false])
              clear hf0 hf1
              go_wp2_with fail
              refine (specFinite_any _ _ _ _ _ HS0.out hrk0).mono ?_
              rw [HG.out]
              rintro e w' ⟨n, rfl, rfl⟩
              go_wp2_with (go_at_call 45; refine (specFinite_any _ _ _ _ _ (FSl.drewN HS1.out n) hrk1).mono ?_; rw [HG1.out]; rintro e w' ⟨n2, rfl, rfl⟩)
              go_ret3
              exact fail_l2 _ HN.out (sw_bad HN.out _) (sw_bad HN.out _) (below_drewN hbel.out _)
            · have HG1 := Lib.hid (HF1.out.trans hf1)
              have HY := Lib.hid (show swB zs = true by rw [HBq.out, hf0, hf1]; rfl)
              have HE0 := Lib.hid (show cnl r0 = swL zs (swM zs) by rw [HX0.out]; unfold swL; rw [HY.out, HLk.out]; rfl)
              have HE1 := Lib.hid (show cnl r1 = swL zs (swS zs) by rw [HX1.out]; unfold swL; rw [HY.out, HLk.out]; rfl)
              clear hf0 hf1
              go_wp2_with fail
              refine (specFinite_any _ _ _ _ _ HS0.out hrk0).mono ?_
              rw [HG.out]
              rintro e w' ⟨n, rfl, rfl⟩
              go_wp2_with (go_at_call 45; refine (specFinite_any _ _ _ _ _ (FSl.drewN HS1.out n) hrk1).mono ?_; rw [HG1.out]; rintro e w' ⟨n2, rfl, rfl⟩)
              go_ret3
              exact ⟨_, r0, _, r1, by rw [HY.out]; rfl, ⟨ho0.out.drewN _, ho1.out.drewN _⟩, ⟨HE0.out, HE1.out⟩, hap.out, below_drewN hbel.out _⟩
    · have hr : ((len : Int) % 2 != 0) = true := by rw [bne_iff_ne]; omega
      have HN := Lib.hid (show swB zs = false by unfold swB swP; rw [HL.out, decide_eq_false he, Bool.and_false]; rfl)
      clear hs he hi hz0 hz1 hz2
      go_enter Try.func27, Try.ntmps27
      go_wp2_with (go_at_call 29; refine (specSeries_any _ _ _ _ _ H.out hm).mono ?_; rw [HS.out]; rintro e w' ⟨m, rfl, rfl⟩)
      go_ret3
      exact fail_l2 _ HN.out (sw_bad HN.out _) (sw_bad HN.out _) (below_drewN (Below.refl _ _) _)
end Go.Proofs.Ytallegmkkbmelaa
