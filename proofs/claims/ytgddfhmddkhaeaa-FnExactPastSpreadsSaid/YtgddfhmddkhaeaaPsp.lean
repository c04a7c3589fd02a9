/-
  PastSpreads, plainly, and the program's closures.
-/
import Derived.Test.YtgddfhmddkhaeaaCSmd
import Derived.Test.YtgddfhmddkhaeaaCBox
import Derived.Test.YtgddfhmddkhaeaaCPos
import Derived.Test.YtgddfhmddkhaeaaPl2
import Derived.Test.YtgddfhmddkhaeaaCIn
import Derived.Test.YtgddfhmddkhaeaaCGiv
import Derived.Test.YtgddfhmddkhaeaaCLaw
import Derived.Maps.AppendAt
namespace Go.Proofs.Ytgddfhmddkhaeaa
open Ieee Go.RowKit
set_option linter.unusedVariables false
theorem forth_any (n : Int) (w : World) : Calls Try.prog 94 #[.int .i64 n] w fun e w' => e = .returned (.bool (decide (0 ≤ n ∧ n ≤ 32))) ∧ w = w' := by
  by_cases h1 : 0 ≤ n
  · by_cases h2 : n ≤ 32
    · have d1 : decide ((0 : Int) ≤ n) = true := decide_eq_true h1
      have d2 : decide (n ≤ (32 : Int)) = true := decide_eq_true h2
      have HB := Lib.hid (decide_eq_true (show 0 ≤ n ∧ n ≤ 32 from ⟨h1, h2⟩))
      go_enter Try.func94, Try.ntmps94
      go_wp2
      go_ret
      exact ⟨by first | rfl | (rw [HB.out]; rfl), rfl⟩
    · have d1 : decide ((0 : Int) ≤ n) = true := decide_eq_true h1
      have d2 : decide (n ≤ (32 : Int)) = false := decide_eq_false h2
      have HB := Lib.hid (decide_eq_false (show ¬ (0 ≤ n ∧ n ≤ 32) from fun h => h2 h.2))
      go_enter Try.func94, Try.ntmps94
      go_wp2
      go_ret
      exact ⟨by first | rfl | (rw [HB.out]; rfl), rfl⟩
  · have d1 : decide ((0 : Int) ≤ n) = false := decide_eq_false h1
    have HB := Lib.hid (decide_eq_false (show ¬ (0 ≤ n ∧ n ≤ 32) from fun h => h1 h.1))
    go_enter Try.func94, Try.ntmps94
    go_wp2
    go_ret
    exact ⟨by first | rfl | (rw [HB.out]; rfl), rfl⟩
def paTm (ts : List Nat) : Bool := decide (ts.length ≤ 6) && fins ts
theorem imTerms_any (a : Option Addr) (len cap : Nat) (ts : List Nat) (w : World) (h : FSl w a len ts) (hm : len ≤ 1048576) :
    Calls Try.prog 93 #[.slice a len cap] w (RetV (.bool (paTm ts)) w) := by
  have H := Lib.hid h
  have HL := Lib.hid h.1
  clear h
  by_cases h6 : len ≤ 6
  · have hd : decide ((len : Int) ≤ 6) = true := decide_eq_true (by omega)
    have HB := Lib.hid (show paTm ts = fins ts by unfold paTm; rw [HL.out, decide_eq_true h6]; rfl)
    go_enter Try.func93, Try.ntmps93
    go_wp2_with fail
    refine (imFins_any _ _ _ _ _ H.out hm).mono ?_
    rintro e w' ⟨n, rfl, rfl⟩
    go_wp2
    go_ret
    exact ⟨n, by rw [HB.out]; rfl, rfl⟩
  · have hd : decide ((len : Int) ≤ 6) = false := decide_eq_false (by omega)
    have HB := Lib.hid (show paTm ts = false by unfold paTm; rw [HL.out, decide_eq_false h6]; rfl)
    go_enter Try.func93, Try.ntmps93
    go_wp2
    go_ret
    exact ⟨0, by rw [HB.out]; rfl, rfl⟩
theorem spTerms_any (a : Option Addr) (len cap : Nat) (ts : List Nat) (w : World) (h : FSl w a len ts) (hm : len ≤ 1048576) :
    Calls Try.prog 91 #[.slice a len cap] w (RetV (.bool (paTm ts)) w) := by
  have H := Lib.hid h
  have HL := Lib.hid h.1
  clear h
  by_cases h6 : len ≤ 6
  · have hd : decide ((len : Int) ≤ 6) = true := decide_eq_true (by omega)
    have HB := Lib.hid (show paTm ts = fins ts by unfold paTm; rw [HL.out, decide_eq_true h6]; rfl)
    go_enter Try.func91, Try.ntmps91
    go_wp2_with fail
    refine (specFinite_any _ _ _ _ _ H.out hm).mono ?_
    rintro e w' ⟨n, rfl, rfl⟩
    go_wp2
    go_ret
    exact ⟨n, by rw [HB.out]; rfl, rfl⟩
  · have hd : decide ((len : Int) ≤ 6) = false := decide_eq_false (by omega)
    have HB := Lib.hid (show paTm ts = false by unfold paTm; rw [HL.out, decide_eq_false h6]; rfl)
    go_enter Try.func91, Try.ntmps91
    go_wp2
    go_ret
    exact ⟨0, by rw [HB.out]; rfl, rfl⟩
theorem pa_push {T : TypeId} {B r : Nat} {w1 : World} {v : Value} {rs : List Nat} (h : w1.ownsRow B T 1 v (rs.length + 1) (rs.map (Value.float .f32) ++ [.float .f32 r])) : FOwn T B w1 v (rs ++ [r]) := by
  unfold FOwn
  rw [List.length_append, List.map_append]
  exact h
theorem pa_keep {T : TypeId} {B : Nat} {wr wa : World} {v : Value} {rs : List Nat} (h : FOwn T B wr v rs) (hb : Below wr.heap.size wr wa) : FOwn T B wa v rs := by
  have hl := h.lt
  refine ⟨h.1, ?_⟩
  rcases h.2 with h2 | ⟨g, cap, cur, rfl, h3, h4, h5⟩
  · exact .inl h2
  · exact .inr ⟨g, cap, cur, rfl, h3, by rw [hb.block g (hl g rfl).2]; exact h4, h5⟩
theorem FOwn.setO {T : TypeId} {B b : Nat} {w : World} {v : Value} {rs : List Nat} (h : FOwn T B w v rs) (hne : v.ownBlock ≠ some b) (i : Nat) (u : Value) : FOwn T B (w.setCell ⟨b, i, none⟩ u) v rs := by
  refine ⟨h.1, ?_⟩
  rcases h.2 with h2 | ⟨g, cap, cur, rfl, h3, h4, h5⟩
  · exact .inl h2
  · refine .inr ⟨g, cap, cur, rfl, h3, ?_, h5⟩
    rw [Below.heap_setCell w ⟨b, i, none⟩ u g (fun e => hne (by show some g = some b; rw [e]))]; exact h4

theorem run_minI {P : Program} (w : World) (ts : Array TypeId) (t : TypeId) (x y : Int) : (Builtin.min_ ts t #[.int .i64 x, .int .i64 y]).run P w = .ok (.int .i64 (min x y)) w := by
  have h : (if y < x then y else x) = min x y := by split <;> omega
  simp [Builtin.min_, Builtin.min2, List.foldlM, h]
theorem one32 : cn .f32 1065353216 = 1065353216 := by decide +kernel
theorem getD_cnl (zs : List Nat) (j : Nat) : cn .f32 ((cnl zs).getD j 0) = cn .f32 (zs.getD j 0) := by
  by_cases h : j < zs.length
  · rw [cnl_at h, cn_cn]
  · have h1 : (cnl zs).getD j 0 = 0 := by simp [List.getD, List.getElem?_eq_none (show (cnl zs).length ≤ j by rw [cnl_len]; omega)]
    have h2 : zs.getD j 0 = 0 := by simp [List.getD, List.getElem?_eq_none (show zs.length ≤ j by omega)]
    rw [h1, h2]
def psT1 (ts ws : List Nat) (k i : Nat) : Nat := aop .mul .f32 (cn .f32 (ts.getD i 0)) (cn .f32 (ws.getD (k - 1 - i) 0))
def psX (ts ws : List Nat) (k : Nat) : Nat := if k = 0 then 1065353216 else sumT (psT1 ts ws k) (min k ts.length)
def psW (ts : List Nat) : Nat → List Nat
  | 0 => []
  | k + 1 => psW ts k ++ [psX ts (psW ts k) k]
def psS (ts : List Nat) : Nat → Nat
  | 0 => 0
  | k + 1 => aop .add .f32 (psS ts k) (aop .mul .f32 (psX ts (psW ts k) k) (psX ts (psW ts k) k))
def psV (ts : List Nat) (sp k : Nat) : Nat := aop .mul .f32 (cn .f32 sp) (psS ts (k + 1))
theorem psX_cnl (ts ws : List Nat) (k : Nat) : psX ts (cnl ws) k = psX ts ws k := by
  unfold psX
  split
  · rfl
  · exact sumT_congr fun i hi => by unfold psT1; rw [getD_cnl]
theorem psW_len (ts : List Nat) : ∀ k, (psW ts k).length = k
  | 0 => rfl
  | k + 1 => by unfold psW; rw [List.length_append, psW_len ts k]; rfl
theorem psW_next {ts rs : List Nat} {k r : Nat} (h : cnl rs = psW ts k) (hr : cn .f32 r = psX ts rs k) : cnl (rs ++ [r]) = psW ts (k + 1) ∧ cn .f32 r = psX ts (psW ts k) k := by
  have e : cn .f32 r = psX ts (psW ts k) k := by rw [← h, psX_cnl]; exact hr
  exact ⟨cnl_snoc h e, e⟩
/-- What the inner closure reads. -/
def PsJ (bt bw bp : Nat) (a' : Option Addr) (n' cap' : Nat) (ts : List Nat) (A : Option Addr) (n c : Nat) (ws : List Nat) (k : Nat) (_i : Nat) (wr : World) : Prop :=
  BoxI bt a' n' cap' ts wr ∧ wr.cell? ⟨bw, 0, none⟩ = some (.slice A n c) ∧ FSl wr A n ws ∧ wr.cell? ⟨bp, 0, none⟩ = some (.int .i64 (k : Int))
theorem PsJ.drewN {bt bw bp : Nat} {a' : Option Addr} {n' cap' : Nat} {ts : List Nat} {A : Option Addr} {n c : Nat} {ws : List Nat} {k i : Nat} {wr : World} (h : PsJ bt bw bp a' n' cap' ts A n c ws k i wr) (m : Nat) : PsJ bt bw bp a' n' cap' ts A n c ws k i (wr.drewN m) := ⟨h.1, h.2.1, FSl.drewN h.2.2.1 m, h.2.2.2⟩
theorem ps11_any (bt bw bp B0 i : Nat) (a' : Option Addr) (n' cap' : Nat) (ts : List Nat) (A : Option Addr) (n c : Nat) (ws : List Nat) (k : Nat) (wr : World) (h : PsJ bt bw bp a' n' cap' ts A n c ws k i wr) (hi : i < n') (hik : i < k) (hk : k = n) (hm : n ≤ 1048576) :
    Calls Try.prog 97 #[.int .i64 i, .pointer (some ⟨bt, 0, none⟩), .pointer (some ⟨bw, 0, none⟩), .pointer (some ⟨bp, 0, none⟩)] wr (Adds (psT1 ts ws k) (PsJ bt bw bp a' n' cap' ts A n c ws k) B0 i wr) := by
  subst hk
  have HI := Lib.hid h
  obtain ⟨⟨hc, hb⟩, hcw, hF, hp⟩ := h
  obtain ⟨b', off', rfl, _, hcs⟩ := hb (by omega)
  obtain ⟨b, off, rfl, _, hzs⟩ := hF.at (by omega)
  have hck := hcs i hi
  have hzk := hzs (k - 1 - i) (by omega)
  have hw0 : IntKind.i64.wrap ((k : Int) - 1) = ((k - 1 : Nat) : Int) := by rw [IntKind.wrap_i64]; omega
  have hw : IntKind.i64.wrap (((k - 1 : Nat) : Int) - (i : Int)) = ((k - 1 - i : Nat) : Int) := by rw [IntKind.wrap_i64]; omega
  have h0 : (0 : Int) ≤ ((k - 1 - i : Nat) : Int) := by omega
  have h1 : ((k - 1 - i : Nat) : Int) < (k : Int) := by omega
  have HT := Lib.hid (show ∀ w1, cn .f32 (fopR .mul .f32 (ts.getD i 0) (ws.getD (k - 1 - i) 0) w1) = psT1 ts ws k i from fun w1 => by rw [cn_fopR]; rfl)
  clear hcs hzs hb hF
  generalize ts.getD i 0 = x at *
  generalize ws.getD (k - 1 - i) 0 = z at *
  obtain ⟨j, hj⟩ : ∃ j, k - 1 - i = j := ⟨_, rfl⟩
  rw [hj] at hzk hw h0 h1
  go_enter Try.func97, Try.ntmps97
  go_wp2
  go_region
  all_goals
    go_wp2
    go_ret
    exact Adds.quiet (HT.out _) (HI.out.drewN _)
/-- What the closure of PastSpreads keeps, behind k calls. -/
def PsI (T : TypeId) (bt bw bs bm g Bl : Nat) (a' : Option Addr) (n' cap' : Nat) (ts : List Nat) (sp : Nat) (k : Nat) (wr : World) : Prop :=
  (∃ v rs, wr.cell? ⟨bw, 0, none⟩ = some v ∧ wr.frozen? ⟨bw, 0, none⟩ = false ∧ FOwn T Bl wr v rs ∧ cnl rs = psW ts k ∧ v.ownBlock ≠ some g) ∧
    (∃ r, wr.cell? ⟨bs, 0, none⟩ = some (.float .f32 r) ∧ wr.frozen? ⟨bs, 0, none⟩ = false ∧ cn .f32 r = psS ts k) ∧
    BoxI bt a' n' cap' ts wr ∧ wr.cell? ⟨bm, 0, none⟩ = some (.float .f32 sp)
theorem PsI.setG {T : TypeId} {bt bw bs bm g Bl : Nat} {a' : Option Addr} {n' cap' : Nat} {ts : List Nat} {sp k : Nat} {wr : World} (h : PsI T bt bw bs bm g Bl a' n' cap' ts sp k wr) (h1 : bw < g) (h2 : bt < g) (h3 : bm < g) (h4 : bs < g) (j : Nat) (u : Value) : PsI T bt bw bs bm g Bl a' n' cap' ts sp k (wr.setCell ⟨g, j, none⟩ u) := by
  obtain ⟨⟨v, rs, c1, c2, c3, c4, c5⟩, ⟨r, e1, e2, e3⟩, d1, d2⟩ := h
  have hb := (Below.refl g wr).setCell (p := ⟨g, j, none⟩) (Nat.le_refl _) u
  exact ⟨⟨v, rs, by rw [hb.cell (p := ⟨bw, 0, none⟩) h1]; exact c1, by rw [hb.frozen (p := ⟨bw, 0, none⟩) h1]; exact c2, c3.setO c5 j u, c4, c5⟩,
    ⟨r, by rw [hb.cell (p := ⟨bs, 0, none⟩) h4]; exact e1, by rw [hb.frozen (p := ⟨bs, 0, none⟩) h4]; exact e2, e3⟩, d1.keep h2 hb, by rw [hb.cell (p := ⟨bm, 0, none⟩) h3]; exact d2⟩
theorem PsI.drewN {T : TypeId} {bt bw bs bm g Bl : Nat} {a' : Option Addr} {n' cap' : Nat} {ts : List Nat} {sp k : Nat} {wr : World} (h : PsI T bt bw bs bm g Bl a' n' cap' ts sp k wr) (q : Nat) : PsI T bt bw bs bm g Bl a' n' cap' ts sp k (wr.drewN q) := by
  obtain ⟨⟨v, rs, c1, c2, c3, c4, c5⟩, d0, d1, d2⟩ := h
  exact ⟨⟨v, rs, c1, c2, FOwn.drewN c3 q, c4, c5⟩, d0, d1, d2⟩
set_option maxHeartbeats 2000000 in
set_option maxRecDepth 100000 in
theorem ps1_zero (bt bw bs bm g Bl B0 k : Nat) (a' : Option Addr) (n' cap' : Nat) (ts : List Nat) (sp : Nat) (wr : World) (h : PsI 22 bt bw bs bm g Bl a' n' cap' ts sp k wr) (hB0 : B0 ≤ bw) (hB1 : B0 ≤ bs) (hBl0 : B0 ≤ Bl) (hbt : bt < Bl) (hbm : bm < Bl) (hbw : bw < Bl) (hbs : bs < Bl) (hdd : bw ≠ bs) (hd2 : bm ≠ bw) (hd3 : bm ≠ bs) (hd4 : bt < bw) (hd5 : bt < bs) (hBg : Bl ≤ g) (hg : g < wr.heap.size) (hk : k ≤ 32) (hm' : n' ≤ 1048576) (hts : ts.length = n') (hk0 : k = 0) :
    Calls Try.prog 95 #[.int .i64 k, .pointer (some ⟨bt, 0, none⟩), .pointer (some ⟨bw, 0, none⟩), .pointer (some ⟨bs, 0, none⟩), .pointer (some ⟨bm, 0, none⟩)] wr (Tells (psV ts sp) (PsI 22 bt bw bs bm g Bl a' n' cap' ts sp) B0 g k wr) := by
  have hmf : ∀ (fn : Fn) (first cap : Array Value) (w : World), (Instr.makeFunc fn first cap).run Try.prog w = .ok (.func fn first cap) w := fun _ _ _ _ => rfl
  obtain ⟨i0, hi, hz0, hz1, hz2⟩ := info_parts Try.infoR
  obtain ⟨⟨v, rs, c1, c2, c3, c4, c5⟩, ⟨s, e1, e2, e3⟩, d1, d2⟩ := h
  have hrl : rs.length = k := by have := congrArg List.length c4; rw [cnl_len, psW_len] at this; exact this
  obtain ⟨A, cp, rfl, hsl, _⟩ := c3.sl
  have bb := (Below.refl wr.heap.size wr).alloc (Nat.le_refl _) (.cells #[.int .i64 (k : Int)] 3)
  have HK := Lib.hid c4
  have HG := Lib.hid c5
  have HE := Lib.hid e3
  have HRl := Lib.hid hrl
  have HO1 := Lib.hid (pa_keep c3 bb)
  have HT1 := Lib.hid (d1.keep (show bt < wr.heap.size by omega) bb)
  have HSl := Lib.hid (FSl.below hsl bb)
  have hck : (wr.alloc (.cells #[.int .i64 (k : Int)] 3)).cell? ⟨bw, 0, none⟩ = some (.slice A rs.length cp) := by rw [bb.cell (p := ⟨bw, 0, none⟩) (by show bw < _; omega)]; exact c1
  have hcf : (wr.alloc (.cells #[.int .i64 (k : Int)] 3)).frozen? ⟨bw, 0, none⟩ = false := by rw [bb.frozen (p := ⟨bw, 0, none⟩) (by show bw < _; omega)]; exact c2
  have hsk : (wr.alloc (.cells #[.int .i64 (k : Int)] 3)).cell? ⟨bs, 0, none⟩ = some (.float .f32 s) := by rw [bb.cell (p := ⟨bs, 0, none⟩) (by show bs < _; omega)]; exact e1
  have hsf : (wr.alloc (.cells #[.int .i64 (k : Int)] 3)).frozen? ⟨bs, 0, none⟩ = false := by rw [bb.frozen (p := ⟨bs, 0, none⟩) (by show bs < _; omega)]; exact e2
  have hcm : (wr.alloc (.cells #[.int .i64 (k : Int)] 3)).cell? ⟨bm, 0, none⟩ = some (.float .f32 sp) := by rw [bb.cell (p := ⟨bm, 0, none⟩) (by show bm < _; omega)]; exact d2
  have hcp : (wr.alloc (.cells #[.int .i64 (k : Int)] 3)).cell? ⟨wr.heap.size, 0, none⟩ = some (.int .i64 (k : Int)) := by rw [World.cell?_alloc_at _ _ _ _ rfl]; rfl
  have HB1 := Lib.hid (bb.mono (show B0 ≤ wr.heap.size by omega))
  have HG1 := Lib.hid (bb.block g hg)
  have hct := HT1.out.1
  have hsz1 : (wr.alloc (.cells #[.int .i64 (k : Int)] 3)).heap.size = wr.heap.size + 1 := World.size_alloc _ _
  clear c1 c2 c3 c4 c5 d1 d2 e1 e2 e3 hsl hrl bb
  have hr : cn .f32 1065353216 = psX ts rs k := by unfold psX; rw [if_pos hk0]; exact one32
  have hd0 : decide ((0 : Int) < (k : Int)) = false := decide_eq_false (by omega)
  have hk00 : ¬ (0 < k) := by omega
  clear hk0
  go_enter Try.func95, Try.ntmps95
  have HN := Lib.hid (psW_next HK.out hr)
  clear hr HK
  go_wp2_with (at_builtin; refine wpList_append_own_at _ rfl _ _ 23 rfl Bl 22 i0 (.float .f32 0) 1 4 Try.underlying23 hi hz0 hz1 hz2 rfl (by decide) _ _ _ rfl (World.ownsRow.alloc HO1.out _) ⟨wr.heap.size + 1, 0, none⟩ 1 1 [_] rfl rfl (one_new (World.size_alloc _ _).symm) ?c2 ?c3 ?c4 ?c5 ?_)
  case c2 => intro u hu; simp at hu; subst hu; rfl
  case c3 => have := HRl.out; unfold maxLen; omega
  case c4 => have := HRl.out; omega
  case c5 => simp; omega
  intro v1 w2 hown hgrow _ hat
  have HP := Lib.hid (pa_push (rs := rs) hown)
  obtain ⟨A2, cp2, rfl, -, -⟩ := HP.out.sl
  have hb2 : Below Bl (wr.alloc (.cells #[.int .i64 (k : Int)] 3)) w2 := ((Below.refl Bl (wr.alloc (.cells #[.int .i64 (k : Int)] 3))).alloc (by omega) _).grown hgrow (by simp; omega) (fun j e => (HO1.out.lt j e).1)
  have hg2 : w2.heap[g]? = (wr.alloc (.cells #[.int .i64 (k : Int)] 3)).heap[g]? := by
    rw [hgrow.block g (by simp; omega) (fun e => HG.out e.symm)]
    exact ((Below.refl (wr.alloc (.cells #[.int .i64 (k : Int)] 3)).heap.size (wr.alloc (.cells #[.int .i64 (k : Int)] 3))).alloc (Nat.le_refl _) _).block g (by omega)
  have hng : (Value.slice A2 (rs ++ [(1065353216 : Nat)]).length cp2).ownBlock ≠ some g := fun e => by
    rcases hat with h | h
    · exact HG.out (h ▸ e)
    · rw [h] at e; have := Option.some.inj e; omega
  have hlB := HP.out.lt
  have hnw : (Value.slice A2 (rs ++ [(1065353216 : Nat)]).length cp2).ownBlock ≠ some bw := fun e => by have := (hlB _ e).1; omega
  have hns : (Value.slice A2 (rs ++ [(1065353216 : Nat)]).length cp2).ownBlock ≠ some bs := fun e => by have := (hlB _ e).1; omega
  have hck2 : w2.cell? ⟨bw, 0, none⟩ = some (.slice A rs.length cp) := by rw [hb2.cell (p := ⟨bw, 0, none⟩) hbw]; exact hck
  have hcf2 : w2.frozen? ⟨bw, 0, none⟩ = false := by rw [hb2.frozen (p := ⟨bw, 0, none⟩) hbw]; exact hcf
  have hsk2 : (w2.setCell ⟨bw, 0, none⟩ (.slice A2 (rs ++ [(1065353216 : Nat)]).length cp2)).cell? ⟨bs, 0, none⟩ = some (.float .f32 s) := by rw [World.cell?_setCell_other _ _ _ _ (by intro e; injection e with e1 _ _; omega), hb2.cell (p := ⟨bs, 0, none⟩) hbs]; exact hsk
  have hsf2 : (w2.setCell ⟨bw, 0, none⟩ (.slice A2 (rs ++ [(1065353216 : Nat)]).length cp2)).frozen? ⟨bs, 0, none⟩ = false := by rw [World.frozen?_setCell, hb2.frozen (p := ⟨bs, 0, none⟩) hbs]; exact hsf
  have hskq := fun q => show (((w2.setCell ⟨bw, 0, none⟩ (.slice A2 (rs ++ [(1065353216 : Nat)]).length cp2)).drewN q).cell? ⟨bs, 0, none⟩) = some (.float .f32 s) from hsk2
  have HI := Lib.hid (show ∀ q r', cn .f32 r' = psS ts (k + 1) → PsI 22 bt bw bs bm g Bl a' n' cap' ts sp (k + 1) (((w2.setCell ⟨bw, 0, none⟩ (.slice A2 (rs ++ [(1065353216 : Nat)]).length cp2)).drewN q).setCell ⟨bs, 0, none⟩ (.float .f32 r')) from fun q r' hr' =>
    ⟨⟨.slice A2 (rs ++ [(1065353216 : Nat)]).length cp2, rs ++ [(1065353216 : Nat)], by rw [World.cell?_setCell_other _ _ _ _ (by intro e; injection e with e1 _ _; omega)]; exact World.cell?_setCell_same' _ _ _ (by rw [hck2]; rfl), by rw [World.frozen?_setCell]; exact (World.frozen?_setCell _ _ _ _).trans hcf2, (FOwn.drewN (HP.out.setO hnw 0 _) q).setO hns 0 _, HN.out.1, hng⟩,
      ⟨r', World.cell?_setCell_same' _ _ _ (by rw [hskq q]; rfl), by rw [World.frozen?_setCell]; exact hsf2, hr'⟩,
      (((HT1.out.keep hbt hb2).keep (B := bw) hd4 ((Below.refl bw w2).setCell (p := ⟨bw, 0, none⟩) (Nat.le_refl _) _)).keep (B := bs) hd5 ((below_drewN (Below.refl bs _) q).setCell (p := ⟨bs, 0, none⟩) (Nat.le_refl _) _)),
      by rw [World.cell?_setCell_other _ _ _ _ (by intro e; injection e with e1 _ _; omega)]; exact ((World.cell?_setCell_other _ _ _ _ (by intro e; injection e with e1 _ _; omega)).trans (hb2.cell (p := ⟨bm, 0, none⟩) hbm)).trans hcm⟩)
  have HBF := Lib.hid (show ∀ q u, Below B0 wr (((w2.setCell ⟨bw, 0, none⟩ (.slice A2 (rs ++ [(1065353216 : Nat)]).length cp2)).drewN q).setCell ⟨bs, 0, none⟩ u) from fun q u => (below_drewN ((HB1.out.trans (hb2.mono hBl0)).setCell (p := ⟨bw, 0, none⟩) hB0 _) q).setCell (p := ⟨bs, 0, none⟩) hB1 u)
  have HGF := Lib.hid (show ∀ q u, (((w2.setCell ⟨bw, 0, none⟩ (.slice A2 (rs ++ [(1065353216 : Nat)]).length cp2)).drewN q).setCell ⟨bs, 0, none⟩ u).heap[g]? = wr.heap[g]? from fun q u => by
    rw [Below.heap_setCell _ ⟨bs, 0, none⟩ u g (show g ≠ bs by omega)]
    show (w2.setCell ⟨bw, 0, none⟩ _).heap[g]? = _
    rw [Below.heap_setCell _ ⟨bw, 0, none⟩ _ g (show g ≠ bw by omega), hg2, HG1.out])
  have hcm2 : (w2.setCell ⟨bw, 0, none⟩ (.slice A2 (rs ++ [(1065353216 : Nat)]).length cp2)).cell? ⟨bm, 0, none⟩ = some (.float .f32 sp) := by rw [World.cell?_setCell_other _ _ _ _ (by intro e; injection e with e1 _ _; omega), hb2.cell (p := ⟨bm, 0, none⟩) hbm]; exact hcm
  have hll : (rs ++ [(1065353216 : Nat)]).length = rs.length + 1 := by simp
  rw [hll] at HI HBF HGF hcm2 hsk2 hsf2
  clear hskq hown hgrow hat hb2 hg2 hng hnw hns HP HO1 HT1 HG1 HB1 hck hcf hcm hsk hsf hlB hll
  go_wp2_with fail
  go_ret
  refine ⟨_, rfl, ?_, (HI.out _ _ ?_).drewN _, below_drewN (HBF.out _ _) _, HGF.out _ _⟩
  · rw [cn_fopR, cn_fopR, cn_fopR, HE.out, HN.out.2]; rfl
  · rw [cn_fopR, cn_fopR, HE.out, HN.out.2]; rfl
set_option maxHeartbeats 2000000 in
set_option maxRecDepth 100000 in
theorem ps1_pos (bt bw bs bm g Bl B0 k : Nat) (a' : Option Addr) (n' cap' : Nat) (ts : List Nat) (sp : Nat) (wr : World) (h : PsI 22 bt bw bs bm g Bl a' n' cap' ts sp k wr) (hB0 : B0 ≤ bw) (hB1 : B0 ≤ bs) (hBl0 : B0 ≤ Bl) (hbt : bt < Bl) (hbm : bm < Bl) (hbw : bw < Bl) (hbs : bs < Bl) (hdd : bw ≠ bs) (hd2 : bm ≠ bw) (hd3 : bm ≠ bs) (hd4 : bt < bw) (hd5 : bt < bs) (hBg : Bl ≤ g) (hg : g < wr.heap.size) (hk : k ≤ 32) (hm' : n' ≤ 1048576) (hts : ts.length = n') (hk0 : 0 < k) :
    Calls Try.prog 95 #[.int .i64 k, .pointer (some ⟨bt, 0, none⟩), .pointer (some ⟨bw, 0, none⟩), .pointer (some ⟨bs, 0, none⟩), .pointer (some ⟨bm, 0, none⟩)] wr (Tells (psV ts sp) (PsI 22 bt bw bs bm g Bl a' n' cap' ts sp) B0 g k wr) := by
  have hmf : ∀ (fn : Fn) (first cap : Array Value) (w : World), (Instr.makeFunc fn first cap).run Try.prog w = .ok (.func fn first cap) w := fun _ _ _ _ => rfl
  obtain ⟨i0, hi, hz0, hz1, hz2⟩ := info_parts Try.infoR
  obtain ⟨⟨v, rs, c1, c2, c3, c4, c5⟩, ⟨s, e1, e2, e3⟩, d1, d2⟩ := h
  have hrl : rs.length = k := by have := congrArg List.length c4; rw [cnl_len, psW_len] at this; exact this
  obtain ⟨A, cp, rfl, hsl, _⟩ := c3.sl
  have bb := (Below.refl wr.heap.size wr).alloc (Nat.le_refl _) (.cells #[.int .i64 (k : Int)] 3)
  have HK := Lib.hid c4
  have HG := Lib.hid c5
  have HE := Lib.hid e3
  have HRl := Lib.hid hrl
  have HO1 := Lib.hid (pa_keep c3 bb)
  have HT1 := Lib.hid (d1.keep (show bt < wr.heap.size by omega) bb)
  have HSl := Lib.hid (FSl.below hsl bb)
  have hck : (wr.alloc (.cells #[.int .i64 (k : Int)] 3)).cell? ⟨bw, 0, none⟩ = some (.slice A rs.length cp) := by rw [bb.cell (p := ⟨bw, 0, none⟩) (by show bw < _; omega)]; exact c1
  have hcf : (wr.alloc (.cells #[.int .i64 (k : Int)] 3)).frozen? ⟨bw, 0, none⟩ = false := by rw [bb.frozen (p := ⟨bw, 0, none⟩) (by show bw < _; omega)]; exact c2
  have hsk : (wr.alloc (.cells #[.int .i64 (k : Int)] 3)).cell? ⟨bs, 0, none⟩ = some (.float .f32 s) := by rw [bb.cell (p := ⟨bs, 0, none⟩) (by show bs < _; omega)]; exact e1
  have hsf : (wr.alloc (.cells #[.int .i64 (k : Int)] 3)).frozen? ⟨bs, 0, none⟩ = false := by rw [bb.frozen (p := ⟨bs, 0, none⟩) (by show bs < _; omega)]; exact e2
  have hcm : (wr.alloc (.cells #[.int .i64 (k : Int)] 3)).cell? ⟨bm, 0, none⟩ = some (.float .f32 sp) := by rw [bb.cell (p := ⟨bm, 0, none⟩) (by show bm < _; omega)]; exact d2
  have hcp : (wr.alloc (.cells #[.int .i64 (k : Int)] 3)).cell? ⟨wr.heap.size, 0, none⟩ = some (.int .i64 (k : Int)) := by rw [World.cell?_alloc_at _ _ _ _ rfl]; rfl
  have HB1 := Lib.hid (bb.mono (show B0 ≤ wr.heap.size by omega))
  have HG1 := Lib.hid (bb.block g hg)
  have hct := HT1.out.1
  have hsz1 : (wr.alloc (.cells #[.int .i64 (k : Int)] 3)).heap.size = wr.heap.size + 1 := World.size_alloc _ _
  clear c1 c2 c3 c4 c5 d1 d2 e1 e2 e3 hsl hrl bb
  have hd0 : decide ((0 : Int) < (k : Int)) = true := decide_eq_true (by omega)
  have hmin := fun (W : World) (us : Array TypeId) (t : TypeId) => run_minI (P := Try.prog) W us t (k : Int) (n' : Int)
  rw [show min (k : Int) (n' : Int) = ((min k n' : Nat) : Int) by omega] at hmin
  have hmk : min k n' ≤ k := Nat.min_le_left _ _
  have hmn : min k n' ≤ n' := Nat.min_le_right _ _
  have HPx := Lib.hid (show psX ts rs k = sumT (psT1 ts rs k) (min k n') by unfold psX; rw [if_neg (by omega), hts])
  generalize min k n' = mn at *
  go_enter Try.func95, Try.ntmps95
  go_wp2_with fail
  have HJ := Lib.hid (show PsJ bt bw wr.heap.size a' n' cap' ts A rs.length cp rs k 0 (wr.alloc (.cells #[.int .i64 (k : Int)] 3)) from ⟨HT1.out, hck, HSl.out, hcp⟩)
  refine (summed_any 97 #[.pointer (some ⟨bt, 0, none⟩), .pointer (some ⟨bw, 0, none⟩), .pointer (some ⟨wr.heap.size, 0, none⟩)] (psT1 ts rs k) (PsJ bt bw wr.heap.size a' n' cap' ts A rs.length cp rs k) (wr.heap.size + 1) mn _ (enter_of Try.func97 (by kernel_rfl) rfl) (by omega) (by omega) HJ.out (fun i m w' h => h.drewN m) (fun i w' hi hsz hI => ps11_any _ _ _ _ _ _ _ _ _ _ _ _ _ _ _ hI (by omega) (by omega) HRl.out.symm (by have := HRl.out; omega))).mono ?_
  rintro e W1 ⟨r, rfl, hr0, -, bb⟩
  have hr : cn .f32 r = psX ts rs k := by rw [HPx.out]; exact hr0
  have bb1 : Below (wr.alloc (.cells #[.int .i64 (k : Int)] 3)).heap.size (wr.alloc (.cells #[.int .i64 (k : Int)] 3)) W1 := by rw [hsz1]; exact bb
  have hs1 := bb.size
  replace HO1 := Lib.hid (pa_keep HO1.out bb1)
  replace HT1 := Lib.hid (HT1.out.keep (B := wr.heap.size + 1) (by omega) bb)
  replace hck : W1.cell? ⟨bw, 0, none⟩ = some (.slice A rs.length cp) := by rw [bb.cell (p := ⟨bw, 0, none⟩) (by show bw < _; omega)]; exact hck
  replace hcf : W1.frozen? ⟨bw, 0, none⟩ = false := by rw [bb.frozen (p := ⟨bw, 0, none⟩) (by show bw < _; omega)]; exact hcf
  replace hsk : W1.cell? ⟨bs, 0, none⟩ = some (.float .f32 s) := by rw [bb.cell (p := ⟨bs, 0, none⟩) (by show bs < _; omega)]; exact hsk
  replace hsf : W1.frozen? ⟨bs, 0, none⟩ = false := by rw [bb.frozen (p := ⟨bs, 0, none⟩) (by show bs < _; omega)]; exact hsf
  replace hcm : W1.cell? ⟨bm, 0, none⟩ = some (.float .f32 sp) := by rw [bb.cell (p := ⟨bm, 0, none⟩) (by show bm < _; omega)]; exact hcm
  replace HB1 := Lib.hid (HB1.out.trans (bb.mono (show B0 ≤ wr.heap.size + 1 by omega)))
  replace HG1 := Lib.hid ((bb.block g (by omega)).trans HG1.out)
  have hgW : g < W1.heap.size := by omega
  clear bb bb1 hr0 hcp hct HJ HPx hmin HSl
  have HN := Lib.hid (psW_next HK.out hr)
  clear hr HK
  go_wp2_with (at_builtin; refine wpList_append_own_at _ rfl _ _ 23 rfl Bl 22 i0 (.float .f32 0) 1 4 Try.underlying23 hi hz0 hz1 hz2 rfl (by decide) _ _ _ rfl (World.ownsRow.alloc HO1.out _) ⟨W1.heap.size, 0, none⟩ 1 1 [_] rfl rfl (one_new rfl) ?c2 ?c3 ?c4 ?c5 ?_)
  case c2 => intro u hu; simp at hu; subst hu; rfl
  case c3 => have := HRl.out; unfold maxLen; omega
  case c4 => have := HRl.out; omega
  case c5 => simp; omega
  intro v1 w2 hown hgrow _ hat
  have HP := Lib.hid (pa_push (rs := rs) hown)
  obtain ⟨A2, cp2, rfl, -, -⟩ := HP.out.sl
  have hb2 : Below Bl W1 w2 := ((Below.refl Bl W1).alloc (by omega) _).grown hgrow (by simp; omega) (fun j e => (HO1.out.lt j e).1)
  have hg2 : w2.heap[g]? = W1.heap[g]? := by
    rw [hgrow.block g (by simp; omega) (fun e => HG.out e.symm)]
    exact ((Below.refl W1.heap.size W1).alloc (Nat.le_refl _) _).block g (by omega)
  have hng : (Value.slice A2 (rs ++ [r]).length cp2).ownBlock ≠ some g := fun e => by
    rcases hat with h | h
    · exact HG.out (h ▸ e)
    · rw [h] at e; have := Option.some.inj e; omega
  have hlB := HP.out.lt
  have hnw : (Value.slice A2 (rs ++ [r]).length cp2).ownBlock ≠ some bw := fun e => by have := (hlB _ e).1; omega
  have hns : (Value.slice A2 (rs ++ [r]).length cp2).ownBlock ≠ some bs := fun e => by have := (hlB _ e).1; omega
  have hck2 : w2.cell? ⟨bw, 0, none⟩ = some (.slice A rs.length cp) := by rw [hb2.cell (p := ⟨bw, 0, none⟩) hbw]; exact hck
  have hcf2 : w2.frozen? ⟨bw, 0, none⟩ = false := by rw [hb2.frozen (p := ⟨bw, 0, none⟩) hbw]; exact hcf
  have hsk2 : (w2.setCell ⟨bw, 0, none⟩ (.slice A2 (rs ++ [r]).length cp2)).cell? ⟨bs, 0, none⟩ = some (.float .f32 s) := by rw [World.cell?_setCell_other _ _ _ _ (by intro e; injection e with e1 _ _; omega), hb2.cell (p := ⟨bs, 0, none⟩) hbs]; exact hsk
  have hsf2 : (w2.setCell ⟨bw, 0, none⟩ (.slice A2 (rs ++ [r]).length cp2)).frozen? ⟨bs, 0, none⟩ = false := by rw [World.frozen?_setCell, hb2.frozen (p := ⟨bs, 0, none⟩) hbs]; exact hsf
  have hskq := fun q => show (((w2.setCell ⟨bw, 0, none⟩ (.slice A2 (rs ++ [r]).length cp2)).drewN q).cell? ⟨bs, 0, none⟩) = some (.float .f32 s) from hsk2
  have HI := Lib.hid (show ∀ q r', cn .f32 r' = psS ts (k + 1) → PsI 22 bt bw bs bm g Bl a' n' cap' ts sp (k + 1) (((w2.setCell ⟨bw, 0, none⟩ (.slice A2 (rs ++ [r]).length cp2)).drewN q).setCell ⟨bs, 0, none⟩ (.float .f32 r')) from fun q r' hr' =>
    ⟨⟨.slice A2 (rs ++ [r]).length cp2, rs ++ [r], by rw [World.cell?_setCell_other _ _ _ _ (by intro e; injection e with e1 _ _; omega)]; exact World.cell?_setCell_same' _ _ _ (by rw [hck2]; rfl), by rw [World.frozen?_setCell]; exact (World.frozen?_setCell _ _ _ _).trans hcf2, (FOwn.drewN (HP.out.setO hnw 0 _) q).setO hns 0 _, HN.out.1, hng⟩,
      ⟨r', World.cell?_setCell_same' _ _ _ (by rw [hskq q]; rfl), by rw [World.frozen?_setCell]; exact hsf2, hr'⟩,
      (((HT1.out.keep hbt hb2).keep (B := bw) hd4 ((Below.refl bw w2).setCell (p := ⟨bw, 0, none⟩) (Nat.le_refl _) _)).keep (B := bs) hd5 ((below_drewN (Below.refl bs _) q).setCell (p := ⟨bs, 0, none⟩) (Nat.le_refl _) _)),
      by rw [World.cell?_setCell_other _ _ _ _ (by intro e; injection e with e1 _ _; omega)]; exact ((World.cell?_setCell_other _ _ _ _ (by intro e; injection e with e1 _ _; omega)).trans (hb2.cell (p := ⟨bm, 0, none⟩) hbm)).trans hcm⟩)
  have HBF := Lib.hid (show ∀ q u, Below B0 wr (((w2.setCell ⟨bw, 0, none⟩ (.slice A2 (rs ++ [r]).length cp2)).drewN q).setCell ⟨bs, 0, none⟩ u) from fun q u => (below_drewN ((HB1.out.trans (hb2.mono hBl0)).setCell (p := ⟨bw, 0, none⟩) hB0 _) q).setCell (p := ⟨bs, 0, none⟩) hB1 u)
  have HGF := Lib.hid (show ∀ q u, (((w2.setCell ⟨bw, 0, none⟩ (.slice A2 (rs ++ [r]).length cp2)).drewN q).setCell ⟨bs, 0, none⟩ u).heap[g]? = wr.heap[g]? from fun q u => by
    rw [Below.heap_setCell _ ⟨bs, 0, none⟩ u g (show g ≠ bs by omega)]
    show (w2.setCell ⟨bw, 0, none⟩ _).heap[g]? = _
    rw [Below.heap_setCell _ ⟨bw, 0, none⟩ _ g (show g ≠ bw by omega), hg2, HG1.out])
  have hcm2 : (w2.setCell ⟨bw, 0, none⟩ (.slice A2 (rs ++ [r]).length cp2)).cell? ⟨bm, 0, none⟩ = some (.float .f32 sp) := by rw [World.cell?_setCell_other _ _ _ _ (by intro e; injection e with e1 _ _; omega), hb2.cell (p := ⟨bm, 0, none⟩) hbm]; exact hcm
  have hll : (rs ++ [r]).length = rs.length + 1 := by simp
  rw [hll] at HI HBF HGF hcm2 hsk2 hsf2
  clear hskq hown hgrow hat hb2 hg2 hng hnw hns HP HO1 HT1 HG1 HB1 hck hcf hcm hsk hsf hlB hll
  go_wp2_with fail
  go_ret
  refine ⟨_, rfl, ?_, (HI.out _ _ ?_).drewN _, below_drewN (HBF.out _ _) _, HGF.out _ _⟩
  · rw [cn_fopR, cn_fopR, cn_fopR, HE.out, HN.out.2]; rfl
  · rw [cn_fopR, cn_fopR, HE.out, HN.out.2]; rfl
end Go.Proofs.Ytgddfhmddkhaeaa
