/-
  RunningSums, in both packages.
-/
import Derived.Test.YtnjmkleodaadbaaCPlc
import Derived.Deep.QuietTactic
import Derived.BigQuiet
namespace Go.Proofs.Ytnjmkleodaadbaa
open Ieee Go.RowKit
set_option linter.unusedVariables false

def runs (zs : List Nat) : List Nat := tells (fun j => sum32 (zs.take (j + 1))) zs.length
def runB (zs : List Nat) : Bool := serB zs && fins (runs zs)
def runR (zs : List Nat) : List Nat := if serB zs then lstR (runs zs) else []
theorem runR_len (zs : List Nat) : (runR zs).length ≤ 1048576 := by
  unfold runR
  split
  · rename_i h
    have := (serB_t h).2.1
    unfold lstR
    split
    · unfold runs; rw [tells_len]; omega
    · simp
  · simp
theorem run_bad {zs : List Nat} (h : serB zs = false) : runB zs = false ∧ runR zs = [] := by
  unfold runB runR; rw [h]; exact ⟨rfl, rfl⟩
theorem run_good {zs : List Nat} (h : serB zs = true) : runB zs = fins (runs zs) ∧ runR zs = lstR (runs zs) := by
  unfold runB runR; rw [h]; exact ⟨rfl, rfl⟩
theorem fail_ob (T : TypeId) {xs : List Nat} {ok : Bool} (hok : ok = false) (hx : xs = []) {w w' : World} (hb : Below w.heap.size w w') : RetOB T xs ok w (.returned (.tuple #[.slice none 0 0, .bool false])) w' :=
  ⟨_, [], by rw [hok], FOwn.nil .., hx.symm, hb⟩

set_option maxHeartbeats 1000000 in
theorem specRuns_any (a : Option Addr) (len cap : Nat) (zs : List Nat) (w : World) (h : FSl w a len zs) (hm : len ≤ 1048576) :
    Calls Try.prog 24 #[.slice a len cap] w (RetOB 26 (runR zs) (runB zs) w) := by
  obtain ⟨i0, hi, hz0, hz1, hz2⟩ := info_parts Try.infoR
  have H := Lib.hid h
  have HL := Lib.hid h.1
  clear h
  cases hs : serB zs
  · have HS := Lib.hid hs
    have HB := Lib.hid (run_bad hs)
    clear hs
    go_enter Try.func24, Try.ntmps24
    go_wp2_with (go_at_call 44; refine (specSeries_any _ _ _ _ _ H.out hm).mono ?_; rw [HS.out]; rintro e w' ⟨m, rfl, rfl⟩)
    go_ret2
    exact fail_ob _ HB.out.1 HB.out.2 (below_drewN (Below.refl _ _) _)
  · have HS := Lib.hid hs
    have HB := Lib.hid (run_good hs)
    clear hs
    go_enter Try.func24, Try.ntmps24
    go_wp2_with fail
    refine (specSeries_any _ _ _ _ _ H.out hm).mono ?_
    rw [HS.out]
    rintro e w' ⟨m, rfl, rfl⟩
    have HN := Lib.hid (FOwn.made (T := 26) (B := w.heap.size) (w.drewN m) (Nat.le_refl _))
    have HB0 := Lib.hid ((below_drewN (Below.refl w.heap.size w) m).alloc (Nat.le_refl _) (.cells #[] 26))
    go_wp2
    go_loopw [4, 5, 6] (fun v s i wr => ∃ (k : Nat) (rs : List Nat) (x : Nat), k ≤ len ∧ i = .int .i64 k ∧ s = .float .f32 x ∧ Hid (rs.length = k) ∧ Hid (cn .f32 x = sum32 (zs.take k)) ∧ Hid (FOwn 26 w.heap.size wr v rs) ∧ Hid (cnl rs = tells (fun j => sum32 (zs.take (j + 1))) k) ∧ Hid (Below w.heap.size w wr)) (fun _ _ i _ => len - (intOf i).toNat)
    case atStart => exact ⟨0, [], 0, Nat.zero_le _, rfl, rfl, Lib.hid rfl, Lib.hid cn_zero, HN, Lib.hid rfl, HB0⟩
    case round =>
      rename_i wr
      obtain ⟨k, rs, x, hk, rfl, rfl, hrl, hx, hown, hrs, hbel⟩ := hrel
      by_cases hlt : k < len
      · obtain ⟨b, off, rfl, hb, hc⟩ := H.out.at (by omega)
        have hck := hc k hlt
        rw [← hbel.out.cell (p := ⟨b, off + k, none⟩) hb] at hck
        have hstep := Lib.hid (fun w' => sum32_step (w := w') (by rw [HL.out]; exact hlt) hx.out)
        have hsz := hbel.out.size
        have hrk : rs.length ≤ 1048576 := by have := hrl.out; omega
        generalize zs.getD k 0 = z at *
        clear hc hb H hx
        go_wp2_with (at_builtin; refine wpList_append_own _ rfl _ _ 22 rfl w.heap.size 26 i0 (.float .f32 0) 1 4 Try.underlying22 hi hz0 hz1 hz2 rfl (by decide) _ _ _ rfl (World.ownsRow.alloc (FOwn.drewN hown.out _) _) ⟨wr.heap.size, 0, none⟩ 1 1 [_] rfl rfl (one_new rfl) ?c2 ?c3 ?c4 ?c5 ?_)
        case c2 => intro u hu; simp at hu; subst hu; rfl
        case c3 => unfold maxLen; omega
        case c4 => omega
        case c5 => simp; show w.heap.size ≤ wr.heap.size + 1; omega
        intro v' w1 hown' hgrow _
        have R := FOwn.push hown.out hbel.out hsz hown' hgrow
        have hR := Lib.hid R
        have hcs := Lib.hid (fun w' : World => (cnl_snoc hrs.out (hstep.out w')).trans (tells_succ (fun j => sum32 (zs.take (j + 1))) k).symm)
        have hrl2 := Lib.hid hrl.out
        clear R hown' hgrow hown hbel hrs hrl hck
        go_wp2
        go_roundw
        case rel =>
          refine ⟨k + 1, _, _, by omega, by go_num, rfl, ?_, Lib.hid (hstep.out _), Lib.hid hR.out.1, Lib.hid (hcs.out _), Lib.hid hR.out.2⟩
          exact Lib.hid (by rw [List.length_append, hrl2.out]; rfl)
        case measure => simp [intOf]; omega
      · have hkl : k = len := by omega
        have hfin := Lib.hid (show cnl rs = runs zs by unfold runs; rw [hrs.out, HL.out, hkl])
        have hrk : rs.length ≤ 1048576 := by have := hrl.out; omega
        obtain ⟨A, cp, rfl, hsl, _⟩ := hown.out.sl
        have HSL := Lib.hid hsl
        clear hrs H hsl
        go_wp2_with fail
        refine (specList_any 26 _ _ rs (runs zs) _ w _ rfl HSL.out hfin.out hrk hown.out hbel.out).mono ?_
        rintro e w1 ⟨v, rs', rfl, ho, hx', hb'⟩
        have HO := Lib.hid ho
        have HX := Lib.hid hx'
        have HBB := Lib.hid hb'
        clear ho hx' hb'
        go_wp2
        go_ret2
        exact ⟨v, rs', by rw [HB.out.1]; rfl, HO.out, HX.out.trans HB.out.2.symm, HBB.out⟩

/-- What the closure of RunningSums reads, behind k calls. -/
def RunI (bs bl : Nat) (a : Option Addr) (len cap : Nat) (zs : List Nat) (k : Nat) (wr : World) : Prop :=
  (∃ r, wr.cell? ⟨bs, 0, none⟩ = some (.float .f32 r) ∧ cn .f32 r = sum32 (zs.take k)) ∧ wr.frozen? ⟨bs, 0, none⟩ = false ∧ wr.cell? ⟨bl, 0, none⟩ = some (.slice a len cap) ∧
    (0 < len → ∃ b off, a = some ⟨b, off, none⟩ ∧ b < bl ∧ ∀ j, j < len → wr.cell? ⟨b, off + j, none⟩ = some (.float .f32 (zs.getD j 0)))
theorem set_far {w : World} {b c : Nat} {o : Nat} {u : Value} (h : c ≠ b) : (w.setCell ⟨b, 0, none⟩ u).cell? ⟨c, o, none⟩ = w.cell? ⟨c, o, none⟩ :=
  World.cell?_setCell_other _ _ _ _ (by intro e; injection e with e1 _ _; exact h e1.symm)
theorem RunI.next {bs bl B0 B : Nat} {a : Option Addr} {len cap k n r : Nat} {zs : List Nat} {wr : World} (h : RunI bs bl a len cap zs k wr) (h1 : bl < bs) (h2 : bs < B) (h0 : B0 ≤ bs) (hr : cn .f32 r = sum32 (zs.take (k + 1))) :
    Tells (fun j => sum32 (zs.take (j + 1))) (RunI bs bl a len cap zs) B0 B k wr (.returned (.float .f32 r)) ((wr.drewN n).setCell ⟨bs, 0, none⟩ (.float .f32 r)) := by
  obtain ⟨⟨x, hx, hs⟩, hf, hcl, hz⟩ := h
  refine ⟨r, rfl, hr, ⟨⟨r, World.cell?_setCell_same' _ _ _ (by show (wr.cell? _).isSome = true; rw [hx]; rfl), hr⟩, by rw [World.frozen?_setCell]; exact hf, by rw [set_far (by omega)]; exact hcl, fun hp => ?_⟩, (below_drewN (Below.refl _ _) n).setCell h0 _, Below.heap_setCell (wr.drewN n) _ _ _ (by show B ≠ bs; omega)⟩
  obtain ⟨b, off, rfl, hb, hc⟩ := hz hp
  exact ⟨b, off, rfl, hb, fun j hj => by rw [set_far (by omega)]; exact hc j hj⟩
theorem RunI.keep {bs bl B : Nat} {a : Option Addr} {len cap k : Nat} {zs : List Nat} {wr wr' : World} (h : RunI bs bl a len cap zs k wr) (h1 : bl < bs) (h2 : bs < B) (hb : Below B wr wr') : RunI bs bl a len cap zs k wr' := by
  obtain ⟨⟨x, hx, hs⟩, hf, hcl, hz⟩ := h
  refine ⟨⟨x, by rw [hb.cell (p := ⟨bs, 0, none⟩) h2]; exact hx, hs⟩, by rw [hb.frozen (p := ⟨bs, 0, none⟩) h2]; exact hf, by rw [hb.cell (p := ⟨bl, 0, none⟩) (by show bl < B; omega)]; exact hcl, fun hp => ?_⟩
  obtain ⟨b, off, rfl, hlt, hc⟩ := hz hp
  exact ⟨b, off, rfl, hlt, fun j hj => by rw [hb.cell (p := ⟨b, off + j, none⟩) (by show b < B; omega)]; exact hc j hj⟩
theorem runs1_any (bs bl B0 B : Nat) (a : Option Addr) (len cap k : Nat) (zs : List Nat) (wr : World) (h : RunI bs bl a len cap zs k wr) (hk : k < len) (hl : zs.length = len) (hm : len ≤ 1048576) (h1 : bl < bs) (h2 : bs < B) (h0 : B0 ≤ bs) :
    Calls Try.prog 55 #[.int .i64 k, .pointer (some ⟨bs, 0, none⟩), .pointer (some ⟨bl, 0, none⟩)] wr (Tells (fun j => sum32 (zs.take (j + 1))) (RunI bs bl a len cap zs) B0 B k wr) := by
  have HR := Lib.hid h
  obtain ⟨⟨r, hr, hs⟩, hf, hcl, hz⟩ := h
  obtain ⟨b, off, rfl, hb, hc⟩ := hz (by omega)
  have hck := hc k hk
  have hstep := Lib.hid (fun w' => sum32_step (w := w') (by rw [hl]; exact hk) hs)
  clear hc hz hs
  generalize hzk : zs.getD k 0 = z at *
  clear hzk
  go_enter Try.func55, Try.ntmps55
  go_wp2
  go_region
  all_goals
    go_wp2
    go_ret
    exact HR.out.next h1 h2 h0 (hstep.out _)

theorem RunI.start {w : World} {a : Option Addr} {len cap m : Nat} {zs : List Nat} {t t' : TypeId} (h : FSl w a len zs) :
    RunI (w.heap.size + 1) w.heap.size a len cap zs 0 (((w.alloc (.cells #[.slice a len cap] t)).drewN m).alloc (.cells #[.float .f32 0] t')) := by
  refine ⟨⟨0, ?_, cn_zero⟩, World.frozen?_alloc_at _ _ _ _ (by simp), ?_, fun hp => ?_⟩
  · rw [World.cell?_alloc_at _ _ _ _ (by simp)]; rfl
  · rw [World.cell?_alloc_past _ _ _ (by simp)]
    show (w.alloc _).cell? _ = _
    rw [World.cell?_alloc_at _ _ _ _ rfl]; rfl
  · obtain ⟨b, off, rfl, hb, hc⟩ := h.at hp
    refine ⟨b, off, rfl, hb, fun j hj => ?_⟩
    rw [World.cell?_alloc_past _ _ _ (by simp; omega)]
    show (w.alloc _).cell? _ = _
    rw [World.cell?_alloc_past _ _ _ hb]
    exact hc j hj
theorem implRuns_any (a : Option Addr) (len cap : Nat) (zs : List Nat) (w : World) (h : FSl w a len zs) (hm : len ≤ 1048576) :
    Calls Try.prog 25 #[.slice a len cap] w (RetOB 26 (runR zs) (runB zs) w) := by
  have hmf : ∀ (fn : Fn) (first cap : Array Value) (w : World), (Instr.makeFunc fn first cap).run Try.prog w = .ok (.func fn first cap) w := fun _ _ _ _ => rfl
  have H := Lib.hid h
  have HL := Lib.hid h.1
  clear h
  cases hs : serB zs
  · have HS := Lib.hid hs
    have HB := Lib.hid (run_bad hs)
    clear hs
    go_enter Try.func25, Try.ntmps25
    go_wp2_with (go_at_call 17; refine (implSeries_any _ _ _ _ _ (FSl.below H.out ((Below.refl _ _).alloc (Nat.le_refl _) _)) hm).mono ?_; rw [HS.out]; rintro e w' ⟨m, rfl, rfl⟩)
    go_ret2
    exact fail_ob _ HB.out.1 HB.out.2 (below_drewN ((Below.refl _ _).alloc (Nat.le_refl _) _) _)
  · have HS := Lib.hid hs
    have HB := Lib.hid (run_good hs)
    clear hs
    go_enter Try.func25, Try.ntmps25
    go_wp2_with (go_at_call 17; refine (implSeries_any _ _ _ _ _ (FSl.below H.out ((Below.refl _ _).alloc (Nat.le_refl _) _)) hm).mono ?_; rw [HS.out]; rintro e w' ⟨m, rfl, rfl⟩)
    have HI := Lib.hid (RunI.start (m := m) (cap := cap) (t := 22) (t' := 26) H.out)
    refine (places_any 55 #[.pointer (some ⟨w.heap.size + 1, 0, none⟩), .pointer (some ⟨w.heap.size, 0, none⟩)] (fun j => sum32 (zs.take (j + 1))) (RunI (w.heap.size + 1) w.heap.size a len cap zs) w.heap.size len _ (enter_of Try.func55 (by kernel_rfl) rfl) hm (by simp; omega) HI.out (fun k wr wr' h hb => h.keep (by omega) (by simp) hb) (fun k wr hk hsz hI => runs1_any _ _ _ _ _ _ _ _ _ _ hI hk HL.out hm (by omega) (by simp) (by omega))).mono ?_
    rintro e w1 ⟨v, rs, rfl, ho, hx, hb⟩
    have HO := Lib.hid (ho.mono (show w.heap.size ≤ _ by simp; omega))
    have HX := Lib.hid (show cnl rs = lstR (runs zs) by unfold runs; rw [hx, HL.out])
    have HBl := Lib.hid (((below_drewN ((Below.refl w.heap.size w).alloc (Nat.le_refl _) _) m).alloc (by simp) _).trans hb)
    have HF := Lib.hid (show fins (tells (fun j => sum32 (zs.take (j + 1))) len) = runB zs by rw [HB.out.1]; unfold runs; rw [HL.out])
    rw [HF.out]
    clear ho hx hb
    go_wp2
    go_ret2
    exact ⟨v, rs, rfl, HO.out, HX.out.trans HB.out.2.symm, HBl.out⟩
end Go.Proofs.Ytnjmkleodaadbaa
