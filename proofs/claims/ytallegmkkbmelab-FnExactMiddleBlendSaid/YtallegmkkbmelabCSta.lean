/-
  A stable sort of a list (slices.SortStableFunc under cmp.Compare; 'ascending' of the program).
-/
import Derived.Test.YtallegmkkbmelabCSyg
import Derived.Test.YtallegmkkbmelabCUnd
namespace Go.Proofs.Ytallegmkkbmelab
open Ieee Go.RowKit
set_option linter.unusedVariables false

def Heads (d : Nat) (f : Nat → Nat) (a : Nat) : Prop := ∀ q, d ∣ q → q + d ≤ a → Srt fkey f q (q + d)
theorem heads_step {d a n : Nat} {f f' : Nat → Nat} (h : Heads d f a) (hd : d ∣ a) (hm : Mrg fkey n f f' a (a + d)) : Heads d f' (a + d) := fun p hp hpa => by
  rcases Nat.lt_trichotomy p a with c | c | c
  · exact (h p hp (dvd_gap hp hd c)).out hm.outs (.inl (dvd_gap hp hd c))
  · rw [c]; exact hm.srt
  · have := dvd_gap hd hp c
    exact fun i j _ _ _ => by omega
theorem heads_end {d a n : Nat} {f f' : Nat → Nat} (h : Heads d f a) (hd : d ∣ a) (hn : n < a + d) (hm : Mrg fkey n f f' a n) : Blks fkey d f' 0 n := by
  refine ⟨fun p _ hp => fun i j _ _ _ => by omega, fun p hp _ => ?_⟩
  rcases Nat.lt_trichotomy p a with c | c | c
  · exact ((h p hp (dvd_gap hp hd c)).out hm.outs (.inl (dvd_gap hp hd c))).part (Nat.le_refl _) (by omega)
  · rw [c]; exact hm.srt.part (Nat.le_refl _) (by omega)
  · have := dvd_gap hd hp c
    exact fun i j _ _ _ => by omega

set_option maxHeartbeats 8000000 in
set_option maxRecDepth 1000000 in
theorem stable_any (g n cap c : Nat) (f : Nat → Nat) (w : World) (h : Arr 28 g n c f w) (hN : NoN f n) (hn : n ≤ 1048576) :
    Calls Try.prog 91 #[.slice (some ⟨g, 0, none⟩) n cap, .int .i64 n, CMP] w fun e w' => ∃ f', Sw 28 g n c f' w e w' ∧ Srt fkey f' 0 n ∧ Stb fkey n f f' := by
  have HA := Lib.hid h
  have HN := Lib.hid hN
  have HI := Lib.hid (insert_any g n cap c)
  have HM := Lib.hid (fun (a m b : Nat) (f : Nat → Nat) (w : World) => sym_any g n c cap hn (b - a) a m b f w (Nat.le_refl _))
  unfold CMP at HI HM ⊢
  clear h hN
  go_enter Try.func91, Try.ntmps91
  go_wp2
  go_loopw [7, 8] (fun va vb wr => ∃ (a b : Nat) (f1 : Nat → Nat), va = .int .i64 a ∧ vb = .int .i64 b ∧ b ≤ a + 20 ∧ a + 20 ≤ b ∧ a ≤ n ∧ Hid (20 ∣ a) ∧ Hid (Only g w wr) ∧ Hid (Arr 28 g n c f1 wr) ∧ Hid (Heads 20 f1 a) ∧ Hid (Stb fkey n f f1)) (fun va _ _ => n - (intOf va).toNat)
  case atStart => exact ⟨0, 20, f, rfl, rfl, by omega, by omega, by omega, Lib.hid (Nat.dvd_zero _), Lib.hid (Only.refl _ _), HA, Lib.hid fun q _ _ => by omega, Lib.hid (Stb.refl _ _ _)⟩
  case round =>
    rename World => wo
    obtain ⟨a, b, f1, rfl, rfl, hb1, hb2, han, hd, ho, ha, hh, hs⟩ := hrel
    clear HA
    by_cases hlt : b ≤ n
    · have hltz : (b : Int) ≤ (n : Int) := by omega
      obtain ⟨b3, hb3⟩ : ∃ b3 : Nat, b3 = b + 20 := ⟨_, rfl⟩
      have hb3z : (b : Int) + 20 = (b3 : Int) := by omega
      have b31 : b3 ≤ b + 20 := by omega
      have b32 : b + 20 ≤ b3 := by omega
      clear hb3
      go_wp2_with fail
      with_reducible refine (HI.out a b f1 _ ha.out (HN.out.stb hs.out) (by omega) hlt hn).mono ?_
      rintro _ w1 ⟨f2, ⟨rfl, ho1, ha1⟩, hm⟩
      have HO := Lib.hid (ho.out.trans ho1)
      have HA1 := Lib.hid ha1
      have HS1 := Lib.hid (hs.out.trans hm.stb)
      have HH1 := Lib.hid (show Heads 20 f2 b by rw [show b = a + 20 by omega]; exact heads_step hh.out hd.out (by rw [show a + 20 = b by omega]; exact hm))
      have HD1 := Lib.hid (show 20 ∣ b by rw [show b = a + 20 by omega]; exact Nat.dvd_add hd.out (Nat.dvd_refl _))
      clear ho1 ha1 hm ho ha hh hs hd
      go_wp2
      go_roundw
      case rel => exact ⟨b, b3, f2, rfl, by go_num, b31, b32, hlt, HD1, HO, HA1, HH1, HS1⟩
      case measure => simp [intOf]; omega
    · have hltz : decide ((b : Int) ≤ (n : Int)) = false := decide_eq_false (by omega)
      go_wp2_with fail
      with_reducible refine (HI.out a n f1 _ ha.out (HN.out.stb hs.out) (by omega) (by omega) hn).mono ?_
      rintro _ w1 ⟨f2, ⟨rfl, ho1, ha1⟩, hm⟩
      have HO := Lib.hid (ho.out.trans ho1)
      have HA1 := Lib.hid ha1
      have HS1 := Lib.hid (hs.out.trans hm.stb)
      have HB1 := Lib.hid (heads_end hh.out hd.out (by omega) hm)
      clear ho1 ha1 hm ho ha hh hs hd hlt hltz
      go_wp2
      go_loopw [6, 7, 8, 9] (fun vs va vb vm wr => ∃ (bs : Nat) (f1 : Nat → Nat), vs = .int .i64 bs ∧ 1 ≤ bs ∧ bs ≤ 2 * n + 20 ∧ Hid (Only g w wr) ∧ Hid (Arr 28 g n c f1 wr) ∧ Hid (Blks fkey bs f1 0 n) ∧ Hid (Stb fkey n f f1)) (fun vs _ _ _ _ => n - (intOf vs).toNat)
      case atStart => exact ⟨20, f2, rfl, by omega, by omega, HO, HA1, HB1, HS1⟩
      case round =>
        rename World => wo2
        obtain ⟨bs, f1, rfl, hbs1, hbs2, ho, ha, hb, hs⟩ := hrel
        clear HO HA1 HB1 HS1
        by_cases hlt : bs < n
        · have hltz : (bs : Int) < (n : Int) := by omega
          obtain ⟨b2, hb2⟩ : ∃ b2 : Nat, b2 = 2 * bs := ⟨_, rfl⟩
          have hbz : 2 * (bs : Int) = (b2 : Int) := by omega
          have hbz2 : (bs : Int) * 2 = (b2 : Int) := by omega
          have b21 : b2 ≤ 2 * bs := by omega
          have b22 : 2 * bs ≤ b2 := by omega
          have HD := Lib.hid hb2
          have HO2 := ho
          have HA2 := ha
          have HB2 := hb
          have HS2 := hs
          clear hb2 ho ha hb hs
          go_wp2
          go_loopw [7, 8] (fun va vb wr => ∃ (a b : Nat) (f2 : Nat → Nat), va = .int .i64 a ∧ vb = .int .i64 b ∧ b ≤ a + b2 ∧ a + b2 ≤ b ∧ a ≤ n ∧ Hid (2 * bs ∣ a) ∧ Hid (Only g w wr) ∧ Hid (Arr 28 g n c f2 wr) ∧ Hid (Blks fkey bs f2 a n) ∧ Hid (Stb fkey n f f2)) (fun va _ _ => n - (intOf va).toNat)
          case atStart => exact ⟨0, b2, f1, rfl, rfl, by omega, by omega, by omega, Lib.hid (Nat.dvd_zero _), HO2, HA2, HB2, HS2⟩
          case round =>
            obtain ⟨a, b, f2, rfl, rfl, e1, e2, han, hd, ho, ha, hb, hs⟩ := hrel
            clear HO2 HA2 HB2 HS2
            obtain ⟨m, hm⟩ : ∃ m : Nat, m = a + bs := ⟨_, rfl⟩
            have hmz : (a : Int) + (bs : Int) = (m : Int) := by omega
            have m1 : m ≤ a + bs := by omega
            have m2 : a + bs ≤ m := by omega
            have HMm := Lib.hid hm
            have HBm := Lib.hid (show b = a + 2 * bs by omega)
            clear hm
            by_cases hlt2 : b ≤ n
            · have hlt2z : (b : Int) ≤ (n : Int) := by omega
              obtain ⟨b3, hb3⟩ : ∃ b3 : Nat, b3 = b + b2 := ⟨_, rfl⟩
              have hb3z : (b : Int) + (b2 : Int) = (b3 : Int) := by omega
              have b31 : b3 ≤ b + b2 := by omega
              have b32 : b + b2 ≤ b3 := by omega
              have HT := Lib.hid (show Srt fkey f2 a m ∧ Srt fkey f2 m b by
                have := blks_two hb.out hd.out (show a + bs ≤ n by omega)
                rw [← HMm.out, ← HBm.out, Nat.min_eq_left hlt2] at this
                exact this)
              clear hb3
              go_wp2_with fail
              with_reducible refine (HM.out a m b f2 _ ha.out (HN.out.stb hs.out) (by omega) (by omega) hlt2 HT.out.1 HT.out.2).mono ?_
              rintro _ w1 ⟨f3, ⟨rfl, ho1, ha1⟩, hm⟩
              have HO := Lib.hid (ho.out.trans ho1)
              have HA1 := Lib.hid ha1
              have HS1 := Lib.hid (hs.out.trans hm.stb)
              have HB1 := Lib.hid (show Blks fkey bs f3 b n by rw [HBm.out]; exact blks_step hb.out hd.out (by omega) (by rw [← HBm.out]; exact hm))
              have HD1 := Lib.hid (show 2 * bs ∣ b by rw [HBm.out]; exact Nat.dvd_add hd.out (Nat.dvd_refl _))
              clear ho1 ha1 hm ho ha hb hs hd HT
              go_wp2
              go_roundw
              case rel => exact ⟨b, b3, f3, rfl, by go_num, b31, b32, hlt2, HD1, HO, HA1, HB1, HS1⟩
              case measure => simp [intOf]; omega
            · have hlt2z : decide ((b : Int) ≤ (n : Int)) = false := decide_eq_false (by omega)
              by_cases hmn : m < n
              · have hmnz : (m : Int) < (n : Int) := by omega
                have HT := Lib.hid (show Srt fkey f2 a m ∧ Srt fkey f2 m n by
                  have := blks_two hb.out hd.out (show a + bs ≤ n by omega)
                  rw [← HMm.out, ← HBm.out, Nat.min_eq_right (by omega)] at this
                  exact this)
                go_wp2_with fail
                with_reducible refine (HM.out a m n f2 _ ha.out (HN.out.stb hs.out) (by omega) hmn (Nat.le_refl _) HT.out.1 HT.out.2).mono ?_
                rintro _ w1 ⟨f3, ⟨rfl, ho1, ha1⟩, hm⟩
                have HO := Lib.hid (ho.out.trans ho1)
                have HA1 := Lib.hid ha1
                have HS1 := Lib.hid (hs.out.trans hm.stb)
                have HB1 := Lib.hid (show Blks fkey b2 f3 0 n by rw [HD.out]; exact blks_next hb.out hbs1 hd.out (by omega) hm.srt hm.outs)
                clear ho1 ha1 hm ho ha hb hs hd HT
                go_wp2
                go_roundw
                case rel => exact ⟨b2, f3, by go_num, by omega, by omega, HO, HA1, HB1, HS1⟩
                case measure => simp [intOf]; omega
              · have hmnz : decide ((m : Int) < (n : Int)) = false := decide_eq_false (by omega)
                have HB1 := Lib.hid (show Blks fkey b2 f2 0 n by
                  rw [HD.out]
                  exact blks_next hb.out hbs1 hd.out (by omega) ((hb.out.2 a (Nat.dvd_trans (Nat.dvd_mul_left bs 2) hd.out) (Nat.le_refl _)).part (Nat.le_refl _) (by omega)) (Outs.refl _ _ _))
                clear hb hd
                go_wp2
                go_roundw
                case rel => exact ⟨b2, f2, by go_num, by omega, by omega, ho, ha, HB1, hs⟩
                case measure => simp [intOf]; omega
        · have hltz : decide ((bs : Int) < (n : Int)) = false := decide_eq_false (by omega)
          have HE := Lib.hid (blks_end hb.out (by omega))
          clear hb
          go_wp2
          go_end0
          exact ⟨f1, ⟨rfl, ho.out, ha.out⟩, HE.out, hs.out⟩

/-! ### A row of the call's own -/
theorem FOwn.arr {T : TypeId} {B : Nat} {w : World} {v : Value} {rs : List Nat} (h : FOwn T B w v rs) (h0 : 0 < rs.length) :
    ∃ g cap c, v = .slice (some ⟨g, 0, none⟩) rs.length cap ∧ B ≤ g ∧ Arr T g rs.length c (fun i => rs.getD i 0) w ∧
      ∀ (f' : Nat → Nat) (w' : World), Arr T g rs.length c f' w' → FOwn T B w' v (seg f' 0 rs.length) := by
  unfold FOwn at h
  rcases h.2 with ⟨rfl, h1⟩ | ⟨g, cap, cur, rfl, hb, hg, hn, hm, hcs, htk⟩
  · omega
  · refine ⟨g, cap, cur.size, rfl, hb, ⟨cur, hg, rfl, by omega, fun j hj => ?_⟩, fun f' w' ha => ?_⟩
    · have h3 : cur.toList[j]? = (rs.map (Value.float .f32))[j]? := by
        rw [← htk, List.getElem?_take]; rw [if_pos (by omega)]
      rw [← Array.getElem?_toList, h3, List.getElem?_map, List.getElem?_eq_getElem hj]
      simp [List.getD, hj]
    · obtain ⟨cur', g1, g2, g3, g4⟩ := ha
      refine ⟨by simp [seg_len], .inr ⟨g, cap, cur', by rw [seg_len], hb, g1, by rw [seg_len]; exact hn, hm, by omega, ?_⟩⟩
      refine List.ext_getElem? fun j => ?_
      rw [List.getElem?_take, seg_len, Nat.mul_one]
      by_cases hj : j < rs.length
      · rw [if_pos hj, Array.getElem?_toList, g4 j hj, List.getElem?_map]
        have : (seg f' 0 rs.length)[j]? = some (f' j) := by
          have : ∀ (n a j : Nat), j < n → (seg f' a n)[j]? = some (f' (a + j)) := by
            intro n
            induction n with
            | zero => intro a j hj; omega
            | succ n ih =>
              intro a j hj
              show (f' a :: seg f' (a + 1) n)[j]? = _
              cases j with
              | zero => rfl
              | succ j => rw [List.getElem?_cons_succ, ih (a + 1) j (by omega)]; congr 2; omega
          have := this rs.length 0 j hj
          rwa [Nat.zero_add] at this
        rw [this]; rfl
      · rw [if_neg hj, List.getElem?_eq_none (by rw [List.length_map, seg_len]; omega)]

theorem fin_noN {x : Nat} (h : fin .f32 x = true) : isN .f32 x = false := by
  unfold fin at h
  cases hn : isN .f32 x
  · rfl
  · rw [hn] at h; cases h
theorem noN_fins {zs : List Nat} (h : fins zs = true) : NoN (fun i => zs.getD i 0) zs.length := fun i hi => fin_noN (fins_at h hi)
def srtL (zs : List Nat) : List Nat := sortK fkey zs
theorem srtL_len (zs : List Nat) : (srtL zs).length = zs.length := sort_len _ _
theorem srtL_fins {zs : List Nat} (h : fins zs = true) : fins (srtL zs) = true := by
  unfold fins at *
  rw [List.all_eq_true] at *
  exact fun x hx => h x (sort_mem hx)

theorem asc_any (b off len cap : Nat) (zs : List Nat) (w : World) (h : FSl w (some ⟨b, off, none⟩) len zs) (h0 : 0 < len) (hm : len ≤ 1048576) (hf : fins zs = true) :
    Calls Try.prog 83 #[.slice (some ⟨b, off, none⟩) len cap] w (fun e w' => ∃ v, e = .returned v ∧ FOwn 28 w.heap.size w' v (srtL zs) ∧ Below w.heap.size w w') := by
  have H := Lib.hid h
  have HL := Lib.hid h.1
  have HF := Lib.hid hf
  clear h hf
  go_enter Try.func83, Try.ntmps83
  go_wp2_with fail
  refine (clone_any _ _ _ cap _ _ H.out h0 hm).mono ?_
  rintro e w1 ⟨v, rfl, ho, hb⟩
  obtain ⟨g, cp, c, rfl, hg, ha, hback⟩ := ho.arr (by rw [HL.out]; exact h0)
  have hlt := ha.lt
  rw [HL.out] at ha hback ⊢
  have HA := Lib.hid ha
  have HBk := Lib.hid hback
  have HB := Lib.hid hb
  have HN := Lib.hid (show NoN (fun i => zs.getD i 0) len by rw [← HL.out]; exact noN_fins HF.out)
  have HSe := Lib.hid (show seg (fun i => zs.getD i 0) 0 len = zs by rw [← HL.out]; exact seg_list zs)
  clear ha hback hb ho
  have hst : Calls Try.prog 88 #[.slice (some ⟨g, 0, none⟩) len cp, CMP] w1 (fun e w' => ∃ f', Sw 28 g len c f' w1 e w' ∧ Srt fkey f' 0 len ∧ Stb fkey len (fun i => zs.getD i 0) f') := by
    have HS := Lib.hid (stable_any g len cp c (fun i => zs.getD i 0) w1 HA.out HN.out hm)
    unfold CMP at HS ⊢
    go_enter Try.func88, Try.ntmps88
    go_wp2_with fail
    with_reducible refine HS.out.mono ?_
    rintro _ w2 ⟨f2, ⟨rfl, ho2, ha2⟩, hs2, hst2⟩
    have HO := Lib.hid ho2
    have HA2 := Lib.hid ha2
    have HS2 := Lib.hid hs2
    have HT2 := Lib.hid hst2
    clear ho2 ha2 hs2 hst2 HS
    go_wp2
    go_end0
    exact ⟨f2, ⟨rfl, HO.out, HA2.out⟩, HS2.out, HT2.out⟩
  have HST := Lib.hid hst
  clear hst
  unfold CMP at HST
  go_wp2_with fail
  with_reducible refine HST.out.mono ?_
  rintro _ w2 ⟨f2, ⟨rfl, ho2, ha2⟩, hs2, hst2⟩
  have HX := Lib.hid (show FOwn 28 w.heap.size w2 (.slice (some ⟨g, 0, none⟩) len cp) (srtL zs) by
    have := HBk.out f2 w2 ha2
    rwa [sort_is hs2 hst2, HSe.out] at this)
  have HB2 := Lib.hid (HB.out.trans (ho2.below hg))
  clear ho2 ha2 hs2 hst2 HST HA HBk
  go_wp2
  go_ret
  exact ⟨_, rfl, HX.out, HB2.out⟩
end Go.Proofs.Ytallegmkkbmelab
