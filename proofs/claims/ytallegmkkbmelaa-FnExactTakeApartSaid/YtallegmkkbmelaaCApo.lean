/-
  TakeApart of the program: a round whole.
-/
import Derived.Test.YtallegmkkbmelaaCApi
namespace Go.Proofs.Ytallegmkkbmelaa
open Ieee Go.RowKit
set_option linter.unusedVariables false

theorem cnl_all (zs : List Nat) (k : Nat) : (cnl zs).getD k 0 = cn .f32 (zs.getD k 0) := by
  by_cases h : k < zs.length
  · exact cnl_at h
  · have h1 : zs.getD k 0 = 0 := by simp [List.getD, List.getElem?_eq_none (show zs.length ≤ k by omega)]
    have h2 : (cnl zs).getD k 0 = 0 := by simp [List.getD, List.getElem?_eq_none (show (cnl zs).length ≤ k by rw [cnl_len]; omega)]
    rw [h1, h2, cn_zero]
theorem win_cnl (zs : List Nat) (s j : Nat) : win (cnl zs) s j = cnl (win zs s j) := by
  unfold win cnl
  rw [List.length_map, List.map_take, List.map_drop]
theorem movZ_cnl (zs : List Nat) (s k : Nat) : movZ (cnl zs) s k = movZ zs s k := by
  unfold movZ
  exact tells_congr fun j _ => by rw [win_cnl, mean32_cnl]
theorem movZ_congr {rs xs : List Nat} (h : cnl rs = xs) (s k : Nat) : movZ rs s k = movZ xs s k := by rw [← h, movZ_cnl]
theorem offZ_cnl2 (zs ts : List Nat) : offZ zs (cnl ts) = offZ zs ts := by
  unfold offZ
  exact tells_congr fun j _ => by rw [cnl_all, cn_cn]
theorem seaZ_cnl (zs : List Nat) (n : Nat) : seaZ (cnl zs) n = seaZ zs n := by
  have h1 : ∀ p q, colQ (cnl zs) n p q = colQ zs n p q := fun p q => by
    unfold colQ
    exact tells_congr fun j _ => by rw [cnl_all, cn_cn]
  have h2 : ∀ k, meansZ (cnl zs) n k = meansZ zs n k := fun k => by
    unfold meansZ
    exact tells_congr fun p _ => by unfold colZ; rw [cnl_len, h1]
  unfold seaZ seaM
  rw [h2]
theorem sprZ_cnl (s : List Nat) (n : Nat) : sprZ (cnl s) n = sprZ s n := by
  unfold sprZ
  exact tells_congr fun j _ => by rw [cnl_all, cn_cn, cnl_len]
theorem calmZ_cnl (zs s : List Nat) : calmZ zs (cnl s) = calmZ zs s := by unfold calmZ; rw [sprZ_cnl]
theorem trZ_cnl (zs s : List Nat) (sd : Nat) : trZ zs (cnl s) sd = trZ zs s sd := by unfold trZ; rw [calmZ_cnl]
theorem nxZ_cnl (zs s : List Nat) (sd : Nat) : nxZ zs (cnl s) sd = nxZ zs s sd := by unfold nxZ lvZ; rw [trZ_cnl, cnl_len]
theorem serB_of {xs : List Nat} (h1 : 1 ≤ xs.length) (h2 : xs.length ≤ 96) (h3 : fins xs = true) : serB xs = true := by unfold serB; rw [decide_eq_true ⟨h1, h2⟩, h3]; rfl
theorem FOwn.cap {T : TypeId} {B : Nat} {w : World} {A : Option Addr} {n c : Nat} {rs : List Nat} (h : FOwn T B w (.slice A n c) rs) : n ≤ c ∧ c ≤ 9223372036854775807 := by
  rcases h.2 with ⟨h1, _⟩ | ⟨g, cap, cur, h1, _, _, h2, h3, _⟩
  · injection h1 with _ h4 h5; omega
  · injection h1 with _ h4 h5; unfold maxLen at h3; omega
/-- Which blocks the two lists lie in. -/
def Apt (v v' : Value) : Prop := ∀ b, v.ownBlock = some b → v'.ownBlock ≠ some b
theorem apt_of {T : TypeId} {B B' : Nat} {w w' : World} {v v' : Value} {rs rs' : List Nat} (h : FOwn T B w v rs) (h' : FOwn T B' w' v' rs') (hB : w.heap.size ≤ B') : Apt v v' := fun b e e' => by
  have h1 := (h.lt b e).2
  have h2 := (h'.lt b e').1
  omega
def RetOnce (T : TypeId) (zs s : List Nat) (q : Int) (w : World) (e : Ending) (w' : World) : Prop :=
  ∃ A1 n1 c1 A2 n2 c2 rs1 rs2, e = .returned (.tuple #[.slice A1 n1 c1, .slice A2 n2 c2, .bool (onceB zs s q)]) ∧ (onceB zs s q = true → FOwn T w.heap.size w' (.slice A1 n1 c1) rs1 ∧ FOwn T w.heap.size w' (.slice A2 n2 c2) rs2 ∧ cnl rs1 = trZ zs s q.toNat ∧ cnl rs2 = nxZ zs s q.toNat ∧ Apt (.slice A1 n1 c1) (.slice A2 n2 c2)) ∧ Below w.heap.size w w'
theorem once_no (T : TypeId) {zs s : List Nat} {q : Int} {w w' : World} (h : onceB zs s q = false) (hb : Below w.heap.size w w') : RetOnce T zs s q w (.returned (.tuple #[.slice none 0 0, .slice none 0 0, .bool false])) w' :=
  ⟨_, _, _, _, _, _, [], [], by rw [h], fun e => (by rw [h] at e; cases e), hb⟩
theorem results_tmp4 {fn : Func} {t u v x : Tmp} (h : fn.results = #[.tmp t, .tmp u, .tmp v, .tmp x]) (tmps : Array Value) (P : Program) (w : World) :
    (results fn tmps).run P w = .ok (.tuple #[tmps.getD t undef, tmps.getD u undef, tmps.getD v undef, tmps.getD x undef]) w := by simp [results, h]
theorem FOwn.keepS {T : TypeId} {B : Nat} {wr wa : World} {v : Value} {rs : List Nat} (h : FOwn T B wr v rs) (hb : Below wr.heap.size wr wa) : FOwn T B wa v rs := by
  have hl := h.lt
  refine ⟨h.1, ?_⟩
  rcases h.2 with h2 | ⟨g, cap, cur, rfl, h3, h4, h5⟩
  · exact .inl h2
  · exact .inr ⟨g, cap, cur, rfl, h3, by rw [hb.block g (hl g rfl).2]; exact h4, h5⟩

theorem BoxS.stored {w : World} {a : Option Addr} {len cap : Nat} {zs : List Nat} {t : TypeId} {u : Value} (h : FSl w a len zs) : BoxS (w.heap.size + 1) w.heap.size a len cap zs ((w.alloc (.cells #[u] t)).setCell ⟨w.heap.size, 0, none⟩ (.slice a len cap)) := by
  refine ⟨Nat.lt_succ_self _, h.1, World.cell?_setCell_same' _ _ _ (by rw [World.cell?_alloc_at _ _ _ _ rfl]; rfl), fun hp => ?_⟩
  obtain ⟨b, off, rfl, hb, hc⟩ := h.at hp
  refine ⟨b, off, rfl, by omega, fun j hj => ?_⟩
  rw [World.cell?_setCell_other _ _ _ _ (fun he => by injection he with he; omega), World.cell?_alloc_past _ _ _ hb]
  exact hc j hj
theorem lstR_true {xs : List Nat} (h : fins xs = true) : lstR xs = xs := by unfold lstR; rw [h]; rfl
theorem rs_len {rs xs : List Nat} (h : cnl rs = xs) : rs.length = xs.length := by rw [← h, cnl_len]

set_option maxHeartbeats 4000000 in
theorem once_any (a a' : Option Addr) (len cap m cap' : Nat) (zs s : List Nat) (q : Int) (w : World) (h : FSl w a len zs) (h' : FSl w a' m s) (hs : serB zs = true) (hm1 : 1 ≤ m) (hml : m ≤ len) :
    Calls Try.prog 46 #[.slice a len cap, .slice a' m cap', .int .i64 q] w (RetOnce 23 zs s q w) := by
  have hmf : ∀ (fn : Fn) (first cap : Array Value) (w : World), (Instr.makeFunc fn first cap).run Try.prog w = .ok (.func fn first cap) w := fun _ _ _ _ => rfl
  have hl := h.1
  have hl' := h'.1
  have hlen : len ≤ 96 := by rw [← hl]; exact (serB_t hs).2.1
  have HL := Lib.hid hl
  have HL' := Lib.hid hl'
  -- both boxes
  have HB1 := Lib.hid (((BoxS.start (cap := cap) (t := 22) h).keep ((Below.refl _ _).alloc (by simp) (.cells #[.slice a' m cap'] 22))).more (B' := w.heap.size + 2) (by omega))
  have HB2 := Lib.hid (show BoxS (w.heap.size + 2) (w.heap.size + 1) a' m cap' s ((w.alloc (.cells #[.slice a len cap] 22)).alloc (.cells #[.slice a' m cap'] 22)) by
    have := BoxS.start (cap := cap') (t := 22) (FSl.below h' ((Below.refl _ _).alloc (Nat.le_refl _) (.cells #[.slice a len cap] 22)))
    simpa using this)
  have HBel := Lib.hid (((Below.refl w.heap.size w).alloc (Nat.le_refl _) (.cells #[.slice a len cap] 22)).alloc (by simp) (.cells #[.slice a' m cap'] 22))
  have HSz := Lib.hid (show ((w.alloc (.cells #[.slice a len cap] 22)).alloc (.cells #[.slice a' m cap'] 22)).heap.size = w.heap.size + 2 by simp)
  have HNo := Lib.hid (show ∀ b, (fins (calmZ zs s) = false ∨ movB0 zs q = false ∨ fins (trZ zs s q.toNat) = false ∨ fins (lvZ zs s q.toNat) = false) → b = onceB zs s q → b = false from fun b hc e => by
    rw [e]
    refine Bool.eq_false_iff.2 fun hb => ?_
    unfold onceB at hb
    simp only [Bool.and_eq_true, decide_eq_true_eq] at hb
    obtain ⟨g1, g2, g3, _⟩ := round_fins (by omega) (by omega) hb.2
    rcases hc with hc | hc | hc | hc
    · rw [g1] at hc; cases hc
    · unfold movB0 at hc
      rw [hs, Bool.true_and] at hc
      exact of_decide_eq_false hc hb.1
    · rw [g2] at hc; cases hc
    · rw [g3] at hc; cases hc)
  have HSer := Lib.hid hs
  clear h h' hs
  go_enter Try.func46, Try.ntmps46
  go_wp2_with fail
  have hcal : tells (fun i => aop .sub .f32 (cn .f32 (zs.getD i 0)) (cn .f32 ((sprZ s len).getD i 0))) len = calmZ zs s := by unfold calmZ offZ; rw [hl]
  refine (places_any 72 #[.pointer (some ⟨w.heap.size, 0, none⟩), .pointer (some ⟨w.heap.size + 1, 0, none⟩)] (fun i => aop .sub .f32 (cn .f32 (zs.getD i 0)) (cn .f32 ((sprZ s len).getD i 0))) (fun _ wr => BoxS (w.heap.size + 2) w.heap.size a len cap zs wr ∧ BoxS (w.heap.size + 2) (w.heap.size + 1) a' m cap' s wr) (w.heap.size + 2) len _ (enter_of Try.func72 (by kernel_rfl) rfl) (by omega) (by simp) ⟨HB1.out, HB2.out⟩ (fun k wr wr' h hb => by rw [HSz.out] at hb; exact ⟨h.1.keep hb, h.2.keep hb⟩) (fun k wr hk hsz hI => by rw [HSz.out]; exact apCalm_any _ _ _ _ _ _ _ _ _ _ _ _ _ _ hI.1 hI.2 hk hlen (by omega) hml)).mono ?_
  rw [hcal]
  rintro e w1 ⟨v, rs, rfl, ho, hx, hb⟩
  have K1 := Lib.hid (HB1.out.keep hb)
  have K2 := Lib.hid (HB2.out.keep hb)
  have G1 := Lib.hid (HBel.out.trans (hb.mono (by omega)))
  have hz1 : w.heap.size + 2 ≤ w1.heap.size := by have := hb.size; simpa using this
  clear HB1 HB2 HBel
  cases hf : fins (calmZ zs s)
  · have HN := Lib.hid (HNo.out _ (.inl hf) rfl)
    clear hx ho hb hf hcal
    go_wp2
    go_ret3
    exact once_no _ HN.out G1.out
  rw [lstR_true hf] at hx
  have hrl : rs.length = len := by rw [rs_len hx]; unfold calmZ; rw [offZ_len, hl]
  obtain ⟨A, cp, rfl, hsl, _⟩ := ho.sl
  have hcp := ho.cap
  have hss : serB rs = true := by rw [serB_congr (show cnl rs = cnl (calmZ zs s) by rw [← hx, cnl_cnl])]; exact serB_of (by unfold calmZ; rw [offZ_len]; omega) (by unfold calmZ; rw [offZ_len]; omega) hf
  have hMt : movL rs q = trZ zs s q.toNat := by unfold movL trZ; rw [movZ_congr hx, hrl, hl]
  have HMB := Lib.hid (show movB rs q = (decide (0 ≤ q ∧ q ≤ 96) && fins (trZ zs s q.toNat)) by unfold movB movB0; rw [hss, hMt, Bool.true_and])
  have HMR := Lib.hid (show movB rs q = true → movR rs q = trZ zs s q.toNat from fun hb => by
    unfold movB at hb
    unfold movR
    rw [if_pos (Bool.and_eq_true _ _ ▸ hb).1, lstR_true (Bool.and_eq_true _ _ ▸ hb).2, hMt])
  have HSl := Lib.hid hsl
  rw [hrl] at HSl hcp ⊢
  obtain ⟨hcp1, hcp2⟩ := hcp
  clear hx ho hb hf hcal hsl hss hMt
  go_wp2_with fail
  refine (implMov_any _ _ _ _ _ _ HSl.out (by omega) hcp1 hcp2).mono ?_
  rintro e w3 ⟨v2, rs2, rfl, ho2, hx2, hb2⟩
  have K3 := Lib.hid (K1.out.keep (hb2.mono hz1))
  have K4 := Lib.hid (K2.out.keep (hb2.mono hz1))
  have G3 := Lib.hid (G1.out.trans (hb2.mono (by omega)))
  have hz3 : w1.heap.size ≤ w3.heap.size := hb2.size
  clear K1 K2 G1
  obtain ⟨A2, cp2, rfl, hsl2, _⟩ := ho2.sl
  cases hf : movB rs q
  · have HN := Lib.hid (HNo.out _ (by
      rw [HMB.out] at hf
      cases hd : decide (0 ≤ q ∧ q ≤ 96)
      · exact .inr (.inl (by unfold movB0; rw [hd, Bool.and_false]))
      · rw [hd, Bool.true_and] at hf; exact .inr (.inr (.inl hf))) rfl)
    have G4 := Lib.hid (G3.out.trans (((Below.refl w3.heap.size w3).alloc (Nat.le_refl _) (.cells #[.slice A2 rs2.length cp2] 22)).mono (show w.heap.size ≤ w3.heap.size by omega)))
    clear hx2 ho2 hb2 hf hsl2
    go_wp2
    go_ret3
    exact once_no _ HN.out G4.out
  rw [HMR.out hf] at hx2
  rw [HMB.out] at hf
  have hd : 0 ≤ q ∧ q ≤ 96 := of_decide_eq_true (Bool.and_eq_true _ _ ▸ hf).1
  have hrl2 : rs2.length = len := by rw [rs_len hx2, trZ_len, hl]
  have HX2 := Lib.hid hx2
  have HO2 := Lib.hid ho2
  rw [hrl2] at hsl2 HO2 ⊢
  have K5 := Lib.hid (BoxS.start (cap := cp2) (t := 22) hsl2)
  have hb4 : Below w3.heap.size w3 (w3.alloc (.cells #[.slice A2 len cp2] 22)) := (Below.refl _ _).alloc (Nat.le_refl _) _
  have K6 := Lib.hid ((K3.out.keep (hb4.mono (by omega))).more (B' := w3.heap.size + 1) (by omega))
  have K7 := Lib.hid (K4.out.keep (hb4.mono (by omega)))
  have HO4 := Lib.hid (HO2.out.keepS hb4)
  have G4 := Lib.hid (G3.out.trans (hb4.mono (by omega)))
  have HSz4 := Lib.hid (show (w3.alloc (.cells #[.slice A2 len cp2] 22)).heap.size = w3.heap.size + 1 by simp)
  have ca := K6.out.2.2.1
  have HBo := Lib.hid (show decide (0 ≤ q ∧ q ≤ 96) = true from decide_eq_true hd)
  clear hx2 ho2 hb2 hf hsl2 hb4 HO2 K3 K4 G3 hd
  go_wp2_with fail
  have hlev : tells (fun i => aop .sub .f32 (cn .f32 (zs.getD i 0)) (cn .f32 (rs2.getD i 0))) len = lvZ zs s q.toNat := by
    unfold lvZ
    rw [← HX2.out, offZ_cnl2]
    unfold offZ
    rw [hl]
  refine (places_any 74 #[.pointer (some ⟨w.heap.size, 0, none⟩), .pointer (some ⟨w3.heap.size, 0, none⟩)] (fun i => aop .sub .f32 (cn .f32 (zs.getD i 0)) (cn .f32 (rs2.getD i 0))) (fun _ wr => BoxS (w3.heap.size + 1) w.heap.size a len cap zs wr ∧ BoxS (w3.heap.size + 1) w3.heap.size A2 len cp2 rs2 wr) (w3.heap.size + 1) len _ (enter_of Try.func74 (by kernel_rfl) rfl) (by omega) (by rw [HSz4.out]; exact Nat.le_refl _) ⟨K6.out, K5.out⟩ (fun k wr wr' h hb => by rw [HSz4.out] at hb; exact ⟨h.1.keep hb, h.2.keep hb⟩) (fun k wr hk hsz hI => by rw [HSz4.out]; exact apLevel_any _ _ _ _ _ _ _ _ _ _ _ _ _ hI.1 hI.2 hk hlen)).mono ?_
  rw [hlev]
  rintro e w5 ⟨v3, rs3, rfl, ho3, hx3, hb3⟩
  have K8 := Lib.hid (K5.out.keep hb3)
  have K9 := Lib.hid (K7.out.keep (hb3.mono (by omega)))
  have HO5 := Lib.hid (HO4.out.keepS (by rw [HSz4.out]; exact hb3))
  have G5 := Lib.hid (G4.out.trans (hb3.mono (by omega)))
  have hz5 : w3.heap.size + 1 ≤ w5.heap.size := by have := hb3.size; rwa [HSz4.out] at this
  clear K5 K6 K7 G4 HO4
  cases hf : fins (lvZ zs s q.toNat)
  · have HN := Lib.hid (HNo.out _ (.inr (.inr (.inr hf))) rfl)
    clear hx3 ho3 hb3 hf hlev ca
    go_wp2
    go_ret3
    exact once_no _ HN.out G5.out
  rw [lstR_true hf] at hx3
  have hrl3 : rs3.length = len := by rw [rs_len hx3]; unfold lvZ; rw [offZ_len, hl]
  obtain ⟨A3, cp3, rfl, hsl3, _⟩ := ho3.sl
  have hss3 : serB rs3 = true := by rw [serB_congr (show cnl rs3 = cnl (lvZ zs s q.toNat) by rw [← hx3, cnl_cnl])]; exact serB_of (by unfold lvZ; rw [offZ_len]; omega) (by unfold lvZ; rw [offZ_len]; omega) hf
  have hst : stepB rs3 (m : Int) = true := by unfold stepB; rw [hss3, decide_eq_true (by omega)]; rfl
  have hsz3 : seaL rs3 (m : Int) = nxZ zs s q.toNat := by unfold seaL nxZ; rw [Int.toNat_natCast, ← seaZ_cnl, hx3, hl']
  have HSB := Lib.hid (show seaB rs3 (m : Int) = onceB zs s q by unfold seaB onceB; rw [hst, hsz3, HBo.out])
  have HSR := Lib.hid (show seaB rs3 (m : Int) = true → seaR rs3 (m : Int) = nxZ zs s q.toNat from fun hb => by
    unfold seaB at hb
    unfold seaR
    rw [if_pos hst, lstR_true (Bool.and_eq_true _ _ ▸ hb).2, hsz3])
  have HSl3 := Lib.hid hsl3
  rw [hrl3] at HSl3 ⊢
  have cb := K9.out.2.2.1
  have ct := K8.out.2.2.1
  clear hx3 ho3 hf hlev hsl3 hss3 hst hsz3 hb3 ca
  go_wp2_with fail
  refine (implSea_any _ _ _ _ _ _ HSl3.out (by omega)).mono ?_
  rintro e w6 ⟨v4, rs4, rfl, ho4, hx4, hb4⟩
  obtain ⟨A4, cp4, rfl, _, _⟩ := ho4.sl
  have ct6 := (K8.out.keep (hb4.mono hz5)).2.2.1
  have HFin := Lib.hid (show onceB zs s q = true → FOwn 23 w.heap.size w6 (.slice A2 len cp2) rs2 ∧ FOwn 23 w.heap.size w6 (.slice A4 rs4.length cp4) rs4 ∧ cnl rs2 = trZ zs s q.toNat ∧ cnl rs4 = nxZ zs s q.toNat ∧ Apt (.slice A2 len cp2) (.slice A4 rs4.length cp4) from fun hb =>
    ⟨(HO5.out.keepS hb4).mono (by omega), ho4.mono (by omega), HX2.out, by rw [hx4, HSR.out (HSB.out.trans hb)], apt_of HO5.out ho4 (Nat.le_refl _)⟩)
  have G6 := Lib.hid (G5.out.trans (hb4.mono (by omega)))
  rw [HSB.out]
  clear hx4 ho4 hb4 K8 K9 G5 HO5 cb ct
  go_wp2
  go_ret3
  exact ⟨_, _, _, _, _, _, rs2, rs4, rfl, HFin.out, G6.out⟩
end Go.Proofs.Ytallegmkkbmelaa
