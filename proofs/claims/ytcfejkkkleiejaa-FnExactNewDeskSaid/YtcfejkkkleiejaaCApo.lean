/-
  TakeApart of the program: a round whole.
-/
import Derived.Test.YtcfejkkkleiejaaCApi
namespace Go.Proofs.Ytcfejkkkleiejaa
open Ieee Go.RowKit
set_option linter.unusedVariables false

theorem cnl_all (zs : List Nat) (k : Nat) : (cnl zs).getD k 0 = cn .f32 (zs.getD k 0) := by
  by_cases h : k < zs.length
  · exact cnl_at h
  · have h1 : zs.getD k 0 = 0 := by simp [List.getD, List.getElem?_eq_none (show zs.length ≤ k by omega)]
    have h2 : (cnl zs).getD k 0 = 0 := by simp [List.getD, List.getElem?_eq_none (show (cnl zs).length ≤ k by rw [cnl_len]; omega)]
    rw [h1, h2, cn_zero]
theorem win_cnl (zs : List Nat) (s j : Nat) : win (cnl zs) s j = cnl (win zs s j) := by
  unfold win cnl
  rw [List.length_map, List.map_take, List.map_drop]
theorem movZ_cnl (zs : List Nat) (s k : Nat) : movZ (cnl zs) s k = movZ zs s k := by
  unfold movZ
  exact tells_congr fun j _ => by rw [win_cnl, mean32_cnl]
theorem movZ_congr {rs xs : List Nat} (h : cnl rs = xs) (s k : Nat) : movZ rs s k = movZ xs s k := by rw [← h, movZ_cnl]
theorem offZ_cnl2 (zs ts : List Nat) : offZ zs (cnl ts) = offZ zs ts := by
  unfold offZ
  exact tells_congr fun j _ => by rw [cnl_all, cn_cn]
theorem seaZ_cnl (zs : List Nat) (n : Nat) : seaZ (cnl zs) n = seaZ zs n := by
  have h1 : ∀ p q, colQ (cnl zs) n p q = colQ zs n p q := fun p q => by
    unfold colQ
    exact tells_congr fun j _ => by rw [cnl_all, cn_cn]
  have h2 : ∀ k, meansZ (cnl zs) n k = meansZ zs n k := fun k => by
    unfold meansZ
    exact tells_congr fun p _ => by unfold colZ; rw [cnl_len, h1]
  unfold seaZ seaM
  rw [h2]
theorem sprZ_cnl (s : List Nat) (n : Nat) : sprZ (cnl s) n = sprZ s n := by
  unfold sprZ
  exact tells_congr fun j _ => by rw [cnl_all, cn_cn, cnl_len]
theorem calmZ_cnl (zs s : List Nat) : calmZ zs (cnl s) = calmZ zs s := by unfold calmZ; rw [sprZ_cnl]
theorem trZ_cnl (zs s : List Nat) (sd : Nat) : trZ zs (cnl s) sd = trZ zs s sd := by unfold trZ; rw [calmZ_cnl]
theorem nxZ_cnl (zs s : List Nat) (sd : Nat) : nxZ zs (cnl s) sd = nxZ zs s sd := by unfold nxZ lvZ; rw [trZ_cnl, cnl_len]
theorem serB_of {xs : List Nat} (h1 : 1 ≤ xs.length) (h2 : xs.length ≤ 96) (h3 : fins xs = true) : serB xs = true := by unfold serB; rw [decide_eq_true ⟨h1, h2⟩, h3]; rfl
theorem FOwn.cap {T : TypeId} {B : Nat} {w : World} {A : Option Addr} {n c : Nat} {rs : List Nat} (h : FOwn T B w (.slice A n c) rs) : n ≤ c ∧ c ≤ 9223372036854775807 := by
  rcases h.2 with ⟨h1, _⟩ | ⟨g, cap, cur, h1, _, _, h2, h3, _⟩
  · injection h1 with _ h4 h5; omega
  · injection h1 with _ h4 h5; unfold maxLen at h3; omega
/-- Which blocks the two lists lie in. -/
def Apt (v v' : Value) : Prop := ∀ b, v.ownBlock = some b → v'.ownBlock ≠ some b
theorem apt_of {T : TypeId} {B B' : Nat} {w w' : World} {v v' : Value} {rs rs' : List Nat} (h : FOwn T B w v rs) (h' : FOwn T B' w' v' rs') (hB : w.heap.size ≤ B') : Apt v v' := fun b e e' => by
  have h1 := (h.lt b e).2
  have h2 := (h'.lt b e').1
  omega
def RetOnce (T : TypeId) (zs s : List Nat) (q : Int) (w : World) (e : Ending) (w' : World) : Prop :=
  ∃ A1 n1 c1 A2 n2 c2 rs1 rs2, e = .returned (.tuple #[.slice A1 n1 c1, .slice A2 n2 c2, .bool (onceB zs s q)]) ∧ (onceB zs s q = true → FOwn T w.heap.size w' (.slice A1 n1 c1) rs1 ∧ FOwn T w.heap.size w' (.slice A2 n2 c2) rs2 ∧ cnl rs1 = trZ zs s q.toNat ∧ cnl rs2 = nxZ zs s q.toNat ∧ Apt (.slice A1 n1 c1) (.slice A2 n2 c2)) ∧ Below w.heap.size w w'
theorem once_no (T : TypeId) {zs s : List Nat} {q : Int} {w w' : World} (h : onceB zs s q = false) (hb : Below w.heap.size w w') : RetOnce T zs s q w (.returned (.tuple #[.slice none 0 0, .slice none 0 0, .bool false])) w' :=
  ⟨_, _, _, _, _, _, [], [], by rw [h], fun e => (by rw [h] at e; cases e), hb⟩
theorem results_tmp4 {fn : Func} {t u v x : Tmp} (h : fn.results = #[.tmp t, .tmp u, .tmp v, .tmp x]) (tmps : Array Value) (P : Program) (w : World) :
    (results fn tmps).run P w = .ok (.tuple #[tmps.getD t undef, tmps.getD u undef, tmps.getD v undef, tmps.getD x undef]) w := by simp [results, h]
theorem FOwn.keepS {T : TypeId} {B : Nat} {wr wa : World} {v : Value} {rs : List Nat} (h : FOwn T B wr v rs) (hb : Below wr.heap.size wr wa) : FOwn T B wa v rs := by
  have hl := h.lt
  refine ⟨h.1, ?_⟩
  rcases h.2 with h2 | ⟨g, cap, cur, rfl, h3, h4, h5⟩
  · exact .inl h2
  · exact .inr ⟨g, cap, cur, rfl, h3, by rw [hb.block g (hl g rfl).2]; exact h4, h5⟩

theorem BoxS.stored {w : World} {a : Option Addr} {len cap : Nat} {zs : List Nat} {t : TypeId} {u : Value} (h : FSl w a len zs) : BoxS (w.heap.size + 1) w.heap.size a len cap zs ((w.alloc (.cells #[u] t)).setCell ⟨w.heap.size, 0, none⟩ (.slice a len cap)) := by
  refine ⟨Nat.lt_succ_self _, h.1, World.cell?_setCell_same' _ _ _ (by rw [World.cell?_alloc_at _ _ _ _ rfl]; rfl), fun hp => ?_⟩
  obtain ⟨b, off, rfl, hb, hc⟩ := h.at hp
  refine ⟨b, off, rfl, by omega, fun j hj => ?_⟩
  rw [World.cell?_setCell_other _ _ _ _ (fun he => by injection he with he; omega), World.cell?_alloc_past _ _ _ hb]
  exact hc j hj
theorem lstR_true {xs : List Nat} (h : fins xs = true) : lstR xs = xs := by unfold lstR; rw [h]; rfl
theorem rs_len {rs xs : List Nat} (h : cnl rs = xs) : rs.length = xs.length := by rw [← h, cnl_len]

end Go.Proofs.Ytcfejkkkleiejaa
