/-
  Sorting, plainly: words as a function of places; order by a key; equals keep their order.
-/
namespace Go.Proofs.Ytallegmkkbmelab
set_option linter.unusedVariables false

/-- The places from a to before b rise. -/
def Srt (key : Nat → Int) (f : Nat → Nat) (a b : Nat) : Prop := ∀ i j, a ≤ i → i < j → j < b → key (f i) ≤ key (f j)
/-- What stands from a to before b stood there. -/
def Frm (f f' : Nat → Nat) (a b : Nat) : Prop := ∀ i, a ≤ i → i < b → ∃ j, a ≤ j ∧ j < b ∧ f' i = f j
def Outs (f f' : Nat → Nat) (a b : Nat) : Prop := ∀ i, i < a ∨ b ≤ i → f' i = f i
def seg (f : Nat → Nat) (a : Nat) : Nat → List Nat
  | 0 => []
  | n + 1 => f a :: seg f (a + 1) n
/-- Those of a key, in their order. -/
def cls (key : Nat → Int) (k : Int) (l : List Nat) : List Nat := l.filter (fun x => key x == k)
def Stb (key : Nat → Int) (n : Nat) (f f' : Nat → Nat) : Prop := ∀ k, cls key k (seg f' 0 n) = cls key k (seg f 0 n)

theorem seg_shift {f f' : Nat → Nat} : ∀ {n a a' : Nat}, (∀ i, i < n → f' (a' + i) = f (a + i)) → seg f' a' n = seg f a n
  | 0, _, _, _ => rfl
  | n + 1, a, a', h => by
    show f' a' :: seg f' (a' + 1) n = f a :: seg f (a + 1) n
    rw [show f' a' = f a from h 0 (by omega), seg_shift (n := n) (a := a + 1) (a' := a' + 1) fun i hi => by
      have := h (i + 1) (by omega)
      rw [show a' + 1 + i = a' + (i + 1) by omega, show a + 1 + i = a + (i + 1) by omega]; exact this]
theorem seg_app (f : Nat → Nat) : ∀ (m n a : Nat), seg f a (m + n) = seg f a m ++ seg f (a + m) n
  | 0, n, a => by simp [seg]
  | m + 1, n, a => by
    rw [show m + 1 + n = (m + n) + 1 by omega]
    show f a :: seg f (a + 1) (m + n) = f a :: (seg f (a + 1) m ++ seg f (a + (m + 1)) n)
    rw [seg_app f m n (a + 1), show a + 1 + m = a + (m + 1) by omega]
theorem seg_mem {f : Nat → Nat} : ∀ {n a x : Nat}, x ∈ seg f a n ↔ ∃ i, i < n ∧ x = f (a + i)
  | 0, a, x => by simp [seg]
  | n + 1, a, x => by
    show x ∈ f a :: seg f (a + 1) n ↔ _
    rw [List.mem_cons, seg_mem (n := n) (a := a + 1)]
    constructor
    · rintro (rfl | ⟨i, hi, rfl⟩)
      · exact ⟨0, by omega, rfl⟩
      · exact ⟨i + 1, by omega, by rw [show a + 1 + i = a + (i + 1) by omega]⟩
    · rintro ⟨i, hi, rfl⟩
      cases i with
      | zero => exact .inl rfl
      | succ i => exact .inr ⟨i, by omega, by rw [show a + 1 + i = a + (i + 1) by omega]⟩
theorem seg_len (f : Nat → Nat) : ∀ (n a : Nat), (seg f a n).length = n
  | 0, _ => rfl
  | n + 1, a => by show (seg f (a + 1) n).length + 1 = n + 1; rw [seg_len f n]
theorem cls_app (key : Nat → Int) (k : Int) (l l' : List Nat) : cls key k (l ++ l') = cls key k l ++ cls key k l' := List.filter_append ..
theorem cls_none {key : Nat → Int} {k : Int} {l : List Nat} (h : ∀ x ∈ l, key x ≠ k) : cls key k l = [] := by
  unfold cls
  rw [List.filter_eq_nil_iff]
  intro x hx
  simpa using h x hx

theorem Stb.refl (key : Nat → Int) (n : Nat) (f : Nat → Nat) : Stb key n f f := fun _ => rfl
theorem Stb.trans {key : Nat → Int} {n : Nat} {f g h : Nat → Nat} (h1 : Stb key n f g) (h2 : Stb key n g h) : Stb key n f h := fun k => (h2 k).trans (h1 k)
theorem Stb.from {key : Nat → Int} {n : Nat} {f f' : Nat → Nat} (h : Stb key n f f') (i : Nat) (hi : i < n) : ∃ j, j < n ∧ f' i = f j := by
  have h1 : f' i ∈ cls key (key (f' i)) (seg f' 0 n) := by
    unfold cls
    rw [List.mem_filter]
    exact ⟨seg_mem.2 ⟨i, hi, by rw [Nat.zero_add]⟩, by simp⟩
  rw [h] at h1
  unfold cls at h1
  rw [List.mem_filter] at h1
  obtain ⟨j, hj, e⟩ := seg_mem.1 h1.1
  exact ⟨j, hj, by rw [e, Nat.zero_add]⟩
theorem Frm.refl (f : Nat → Nat) (a b : Nat) : Frm f f a b := fun i h1 h2 => ⟨i, h1, h2, rfl⟩
theorem Frm.trans {f g h : Nat → Nat} {a b : Nat} (h1 : Frm f g a b) (h2 : Frm g h a b) : Frm f h a b := fun i g1 g2 => by
  obtain ⟨j, j1, j2, e⟩ := h2 i g1 g2
  obtain ⟨k, k1, k2, e'⟩ := h1 j j1 j2
  exact ⟨k, k1, k2, e.trans e'⟩
theorem Outs.refl (f : Nat → Nat) (a b : Nat) : Outs f f a b := fun _ _ => rfl
theorem Outs.trans {f g h : Nat → Nat} {a b : Nat} (h1 : Outs f g a b) (h2 : Outs g h a b) : Outs f h a b := fun i hi => (h2 i hi).trans (h1 i hi)
theorem Outs.wide {f f' : Nat → Nat} {a b a' b' : Nat} (h : Outs f f' a b) (h1 : a' ≤ a) (h2 : b ≤ b') : Outs f f' a' b' := fun i hi => h i (by omega)
theorem Frm.wide {f f' : Nat → Nat} {a b a' b' : Nat} (h : Frm f f' a b) (ho : Outs f f' a b) (h1 : a' ≤ a) (h2 : b ≤ b') : Frm f f' a' b' := fun i g1 g2 => by
  by_cases hi : a ≤ i ∧ i < b
  · obtain ⟨j, j1, j2, e⟩ := h i hi.1 hi.2
    exact ⟨j, by omega, by omega, e⟩
  · exact ⟨i, g1, g2, ho i (by omega)⟩
theorem Srt.part {key : Nat → Int} {f : Nat → Nat} {a b a' b' : Nat} (h : Srt key f a b) (h1 : a ≤ a') (h2 : b' ≤ b) : Srt key f a' b' := fun i j g1 g2 g3 => h i j (by omega) g2 (by omega)
theorem Srt.out {key : Nat → Int} {f f' : Nat → Nat} {a b p q : Nat} (h : Srt key f p q) (ho : Outs f f' a b) (h1 : q ≤ a ∨ b ≤ p) : Srt key f' p q := fun i j g1 g2 g3 => by
  rw [ho i (by omega), ho j (by omega)]; exact h i j g1 g2 g3
theorem Srt.le {key : Nat → Int} {f : Nat → Nat} {a b i j : Nat} (h : Srt key f a b) (h1 : a ≤ i) (h2 : i ≤ j) (h3 : j < b) : key (f i) ≤ key (f j) := by
  rcases Nat.eq_or_lt_of_le h2 with rfl | h2
  · exact Int.le_refl _
  · exact h i j h1 h2 h3

/-! ### Two blocks change places -/
def rotF (f : Nat → Nat) (a m b : Nat) : Nat → Nat := fun i => if a ≤ i ∧ i < a + (b - m) then f (i + (m - a)) else if a + (b - m) ≤ i ∧ i < b then f (i - (b - m)) else f i
theorem rotF_left {f : Nat → Nat} {a m b i : Nat} (h1 : a ≤ i) (h2 : i < a + (b - m)) : rotF f a m b i = f (i + (m - a)) := by unfold rotF; rw [if_pos ⟨h1, h2⟩]
theorem rotF_right {f : Nat → Nat} {a m b i : Nat} (h1 : a + (b - m) ≤ i) (h2 : i < b) : rotF f a m b i = f (i - (b - m)) := by
  unfold rotF; rw [if_neg (by omega), if_pos ⟨h1, h2⟩]
theorem rotF_out {f : Nat → Nat} {a m b i : Nat} (hm : a ≤ m) (hb : m ≤ b) (h : i < a ∨ b ≤ i) : rotF f a m b i = f i := by
  unfold rotF; rw [if_neg (by omega), if_neg (by omega)]
theorem rotF_id {f : Nat → Nat} {a m b : Nat} (h : a = m ∨ m = b) : rotF f a m b = f := by
  funext i
  unfold rotF
  split
  · congr 1; omega
  · split
    · congr 1; omega
    · rfl
theorem rot_outs {f : Nat → Nat} {a m b : Nat} (hm : a ≤ m) (hb : m ≤ b) : Outs f (rotF f a m b) a b := fun i hi => rotF_out hm hb hi
theorem rot_frm {f : Nat → Nat} {a m b : Nat} (hm : a ≤ m) (hb : m ≤ b) : Frm f (rotF f a m b) a b := fun i h1 h2 => by
  by_cases h : i < a + (b - m)
  · exact ⟨i + (m - a), by omega, by omega, rotF_left h1 h⟩
  · exact ⟨i - (b - m), by omega, by omega, rotF_right (by omega) h2⟩
theorem rot_stb {key : Nat → Int} {n a m b : Nat} {f : Nat → Nat} (hm : a ≤ m) (hb : m ≤ b) (hn : b ≤ n) (h : ∀ i j, a ≤ i → i < m → m ≤ j → j < b → key (f j) < key (f i)) : Stb key n f (rotF f a m b) := by
  intro k
  have e1 : seg (rotF f a m b) 0 n = seg f 0 a ++ (seg f m (b - m) ++ (seg f a (m - a) ++ seg f b (n - b))) := by
    rw [show n = a + ((b - m) + ((m - a) + (n - b))) by omega, seg_app, seg_app, seg_app]
    congr 1
    · exact seg_shift fun i hi => rotF_out hm hb (by omega)
    congr 1
    · exact seg_shift fun i hi => by rw [rotF_left (by omega) (by omega)]; congr 1; omega
    congr 1
    · exact seg_shift fun i hi => by rw [rotF_right (by omega) (by omega)]; congr 1; omega
    · rw [show a + ((b - m) + ((m - a) + (n - b))) - b = n - b by omega]
      exact seg_shift fun i hi => by rw [rotF_out hm hb (by omega)]; congr 1; omega
  have e2 : seg f 0 n = seg f 0 a ++ (seg f a (m - a) ++ (seg f m (b - m) ++ seg f b (n - b))) := by
    rw [show n = a + ((m - a) + ((b - m) + (n - b))) by omega, seg_app, seg_app, seg_app]
    rw [show a + ((m - a) + ((b - m) + (n - b))) - b = n - b by omega, show 0 + a = a by omega, show a + (m - a) = m by omega, show m + (b - m) = b by omega]
  rw [e1, e2]
  simp only [cls_app]
  have e3 : cls key k (seg f m (b - m)) = [] ∨ cls key k (seg f a (m - a)) = [] := by
    by_cases hx : ∃ i, i < m - a ∧ key (f (a + i)) = k
    · obtain ⟨i, hi, rfl⟩ := hx
      refine .inl (cls_none fun x hx => ?_)
      obtain ⟨j, hj, rfl⟩ := seg_mem.1 hx
      have := h (a + i) (m + j) (by omega) (by omega) (by omega) (by omega)
      omega
    · refine .inr (cls_none fun x hx' => ?_)
      obtain ⟨j, hj, rfl⟩ := seg_mem.1 hx'
      exact fun e => hx ⟨j, hj, e⟩
  rcases e3 with e3 | e3 <;> rw [e3] <;> simp

/-! ### Two neighbours change places -/
def swapF (f : Nat → Nat) (i j : Nat) : Nat → Nat := fun x => if x = i then f j else if x = j then f i else f x
theorem swap_rot (f : Nat → Nat) (a : Nat) : swapF f a (a + 1) = rotF f a (a + 1) (a + 2) := by
  funext x
  unfold swapF rotF
  split
  · subst_vars; rw [if_pos (by omega)]; congr 1; omega
  · split
    · subst_vars; rw [if_neg (by omega), if_pos (by omega)]; congr 1; omega
    · rw [if_neg (by omega), if_neg (by omega)]
theorem swap_comm (f : Nat → Nat) (i j : Nat) : swapF f i j = swapF f j i := by
  funext x
  unfold swapF
  by_cases h1 : x = i <;> by_cases h2 : x = j <;> simp_all
theorem swap_stb {key : Nat → Int} {n a : Nat} {f : Nat → Nat} (hn : a + 2 ≤ n) (h : key (f (a + 1)) < key (f a)) : Stb key n f (swapF f a (a + 1)) := by
  rw [swap_rot]
  refine rot_stb (by omega) (by omega) hn fun i j h1 h2 h3 h4 => ?_
  have e1 : i = a := by omega
  have e2 : j = a + 1 := by omega
  rw [e1, e2]; exact h

/-! ### Insertion -/
/-- All pairs rise whose later place is not j. -/
def Hole (key : Nat → Int) (f : Nat → Nat) (a i j : Nat) : Prop := ∀ p q, a ≤ p → p < q → q ≤ i → q ≠ j → key (f p) ≤ key (f q)
theorem hole_start {key : Nat → Int} {f : Nat → Nat} {a i : Nat} (h : Srt key f a i) : Hole key f a i i := fun p q h1 h2 h3 h4 => h p q h1 h2 (by omega)
theorem hole_step {key : Nat → Int} {f : Nat → Nat} {a i j : Nat} (h : Hole key f a i (j + 1)) (h1 : a ≤ j) (h2 : j + 1 ≤ i) (h3 : key (f (j + 1)) < key (f j)) : Hole key (swapF f j (j + 1)) a i j := by
  intro p q g1 g2 g3 g4
  unfold swapF
  by_cases q1 : q = j + 1
  · subst q1
    rw [if_neg (show ¬ (j + 1 = j) by omega), if_pos rfl]
    by_cases p1 : p = j
    · rw [if_pos p1]; omega
    · rw [if_neg p1, if_neg (by omega)]
      exact h p j g1 (by omega) (by omega) (by omega)
  · rw [if_neg g4, if_neg q1]
    by_cases p1 : p = j
    · rw [if_pos p1]; exact h (j + 1) q (by omega) (by omega) g3 q1
    · rw [if_neg p1]
      by_cases p2 : p = j + 1
      · rw [if_pos p2]; exact h j q (by omega) (by omega) g3 q1
      · rw [if_neg p2]; exact h p q g1 g2 g3 q1
theorem hole_end {key : Nat → Int} {f : Nat → Nat} {a i j : Nat} (h : Hole key f a i j) (h1 : a ≤ j) (h2 : j = a ∨ key (f (j - 1)) ≤ key (f j)) : Srt key f a (i + 1) := by
  intro p q g1 g2 g3
  by_cases e : q = j
  · subst e
    rcases h2 with h2 | h2
    · omega
    · by_cases e2 : p = q - 1
      · rw [e2]; exact h2
      · have := h p (q - 1) g1 (by omega) (by omega) (by omega)
        omega
  · exact h p q g1 g2 (by omega) e
theorem swap_outs {f : Nat → Nat} {i j a b : Nat} (h1 : a ≤ i) (h2 : i < b) (h3 : a ≤ j) (h4 : j < b) : Outs f (swapF f i j) a b := fun x hx => by
  unfold swapF; rw [if_neg (by omega), if_neg (by omega)]
theorem swap_frm {f : Nat → Nat} {i j a b : Nat} (h1 : a ≤ i) (h2 : i < b) (h3 : a ≤ j) (h4 : j < b) : Frm f (swapF f i j) a b := fun x g1 g2 => by
  unfold swapF
  by_cases e : x = i
  · exact ⟨j, h3, h4, by rw [if_pos e]⟩
  · by_cases e2 : x = j
    · exact ⟨i, h1, h2, by rw [if_neg e, if_pos e2]⟩
    · exact ⟨x, g1, g2, by rw [if_neg e, if_neg e2]⟩

/-! ### What a sort, or a merge, of the places from a to before b makes -/
structure Mrg (key : Nat → Int) (n : Nat) (f f' : Nat → Nat) (a b : Nat) : Prop where
  outs : Outs f f' a b
  frm : Frm f f' a b
  srt : Srt key f' a b
  stb : Stb key n f f'
/-- One block of one number goes behind those that are less. -/
theorem mrg_first {key : Nat → Int} {n a b i : Nat} {f : Nat → Nat} (hn : b ≤ n) (hi1 : a + 1 ≤ i) (hi2 : i ≤ b) (hs : Srt key f (a + 1) b) (h1 : ∀ h, a + 1 ≤ h → h < i → key (f h) < key (f a)) (h2 : ∀ h, i ≤ h → h < b → key (f a) ≤ key (f h)) :
    Mrg key n f (rotF f a (a + 1) i) a b := by
  refine ⟨(rot_outs (by omega) (by omega)).wide (by omega) hi2, (rot_frm (by omega) (by omega)).wide (rot_outs (by omega) (by omega)) (by omega) hi2, fun p q g1 g2 g3 => ?_, rot_stb (by omega) (by omega) (by omega) fun x y x1 x2 y1 y2 => ?_⟩
  · by_cases p1 : p < a + (i - (a + 1))
    · rw [rotF_left g1 p1]
      by_cases q1 : q < a + (i - (a + 1))
      · rw [rotF_left (by omega) q1]; exact hs.le (by omega) (by omega) (by omega)
      · by_cases q2 : q < i
        · rw [rotF_right (by omega) q2, show q - (i - (a + 1)) = a by omega]
          exact Int.le_of_lt (h1 _ (by omega) (by omega))
        · rw [rotF_out (by omega) (by omega) (by omega)]; exact hs.le (by omega) (by omega) (by omega)
    · by_cases p2 : p < i
      · rw [rotF_right (by omega) p2, show p - (i - (a + 1)) = a by omega, rotF_out (by omega) (by omega) (by omega)]
        exact h2 _ (by omega) g3
      · rw [rotF_out (by omega) (by omega) (by omega), rotF_out (by omega) (by omega) (by omega)]; exact hs.le (by omega) (by omega) (by omega)
  · rw [show x = a by omega]; exact h1 y y1 y2
theorem mrg_last {key : Nat → Int} {n a m i : Nat} {f : Nat → Nat} (hn : m + 1 ≤ n) (hi1 : a ≤ i) (hi2 : i ≤ m) (hs : Srt key f a m) (h1 : ∀ h, a ≤ h → h < i → key (f h) ≤ key (f m)) (h2 : ∀ h, i ≤ h → h < m → key (f m) < key (f h)) :
    Mrg key n f (rotF f i m (m + 1)) a (m + 1) := by
  refine ⟨(rot_outs (by omega) (by omega)).wide (by omega) (by omega), (rot_frm (by omega) (by omega)).wide (rot_outs (by omega) (by omega)) (by omega) (by omega), fun p q g1 g2 g3 => ?_, rot_stb (by omega) (by omega) (by omega) fun x y x1 x2 y1 y2 => ?_⟩
  · by_cases p1 : p < i
    · rw [rotF_out (by omega) (by omega) (by omega)]
      by_cases q1 : q < i
      · rw [rotF_out (by omega) (by omega) (by omega)]; exact hs.le (by omega) (by omega) (by omega)
      · by_cases q2 : q < i + (m + 1 - m)
        · rw [rotF_left (by omega) q2, show q + (m - i) = m by omega]; exact h1 p g1 p1
        · rw [rotF_right (by omega) g3]; exact hs.le (by omega) (by omega) (by omega)
    · by_cases p2 : p < i + (m + 1 - m)
      · rw [rotF_left (by omega) p2, show p + (m - i) = m by omega, rotF_right (by omega) g3]
        exact Int.le_of_lt (h2 _ (by omega) (by omega))
      · rw [rotF_right (by omega) (by omega), rotF_right (by omega) g3]; exact hs.le (by omega) (by omega) (by omega)
  · rw [show y = m by omega]; exact h2 x x1 x2
/-- The halves behind the rotation. -/
theorem sym_halves {key : Nat → Int} {n a m b mid s e s0 r0 : Nat} {f : Nat → Nat} (hn : b ≤ n) (ham : a < m) (hmb : m < b) (hmid : mid = (a + b) / 2) (hs0 : (mid < m ∧ s0 = mid + m - b ∧ r0 = mid) ∨ (m ≤ mid ∧ s0 = a ∧ r0 = m))
    (h1 : s0 ≤ s) (h2 : s ≤ r0) (he : e = mid + m - s) (hl : Srt key f a m) (hr : Srt key f m b) (k1 : ∀ c, s0 ≤ c → c < s → key (f c) ≤ key (f (mid + m - 1 - c))) (k2 : ∀ c, s ≤ c → c < r0 → key (f (mid + m - 1 - c)) < key (f c)) :
    a ≤ s ∧ s ≤ m ∧ m ≤ e ∧ e ≤ b ∧ s ≤ mid ∧ mid ≤ e ∧ a < mid ∧ mid < b ∧ Stb key n f (rotF f s m e) ∧ (∀ i j, a ≤ i → i < mid → mid ≤ j → j < b → key (rotF f s m e i) ≤ key (rotF f s m e j)) ∧
    Srt key (rotF f s m e) a s ∧ Srt key (rotF f s m e) s mid ∧ Srt key (rotF f s m e) mid e ∧ Srt key (rotF f s m e) e b := by
  have a1 : a ≤ s := by omega
  have a2 : s ≤ m := by omega
  have a3 : m ≤ e := by omega
  have a4 : e ≤ b := by omega
  have hm' : s + (e - m) = mid := by omega
  have K1 : ∀ i j, s ≤ i → i < m → m ≤ j → j < e → key (f j) < key (f i) := fun i j i1 i2 j1 j2 => by
    have hlt : s < r0 := by omega
    have g1 := k2 s (Nat.le_refl _) hlt
    have g2 := hl.le (i := s) (j := i) a1 i1 i2
    have g3 := hr.le (i := j) (j := mid + m - 1 - s) j1 (by omega) (by omega)
    omega
  have K3 : ∀ i j, a ≤ i → i < s → e ≤ j → j < b → key (f i) ≤ key (f j) := fun i j i1 i2 j1 j2 => by
    have hlt : s0 < s := by omega
    have g1 := k1 (s - 1) (by omega) (by omega)
    have g2 := hl.le (i := i) (j := s - 1) i1 (by omega) (by omega)
    have g3 := hr.le (i := mid + m - 1 - (s - 1)) (j := j) (by omega) (by omega) j2
    omega
  refine ⟨a1, a2, a3, a4, by omega, by omega, by omega, by omega, rot_stb a2 a3 (by omega) K1, fun i j i1 i2 j1 j2 => ?_, fun i j i1 i2 i3 => ?_, fun i j i1 i2 i3 => ?_, fun i j i1 i2 i3 => ?_, fun i j i1 i2 i3 => ?_⟩
  · by_cases c1 : i < s
    · rw [rotF_out a2 a3 (by omega)]
      by_cases c2 : j < e
      · rw [rotF_right (by omega) c2]; exact hl.le i1 (by omega) (by omega)
      · rw [rotF_out a2 a3 (by omega)]; exact K3 i j i1 c1 (by omega) j2
    · rw [rotF_left (by omega) (by omega)]
      by_cases c2 : j < e
      · rw [rotF_right (by omega) c2]; exact Int.le_of_lt (K1 _ _ (by omega) (by omega) (by omega) (by omega))
      · rw [rotF_out a2 a3 (by omega)]; exact hr.le (by omega) (by omega) (by omega)
  · rw [rotF_out a2 a3 (by omega), rotF_out a2 a3 (by omega)]; exact hl.le i1 (by omega) (by omega)
  · rw [rotF_left (by omega) (by omega), rotF_left (by omega) (by omega)]; exact hr.le (by omega) (by omega) (by omega)
  · rw [rotF_right (by omega) (by omega), rotF_right (by omega) (by omega)]; exact hl.le (by omega) (by omega) (by omega)
  · rw [rotF_out a2 a3 (by omega), rotF_out a2 a3 (by omega)]; exact hr.le (by omega) (by omega) (by omega)
/-- Both halves are merged. -/
theorem sym_mrg {key : Nat → Int} {n a m b mid s e : Nat} {f f1 f2 f3 : Nat → Nat} (h1 : a ≤ s) (h2 : e ≤ b) (h3 : s ≤ m) (h4 : m ≤ e) (e1 : f1 = rotF f s m e) (ha : a < mid) (hb : mid < b)
    (hst : Stb key n f f1) (hh : ∀ i j, a ≤ i → i < mid → mid ≤ j → j < b → key (f1 i) ≤ key (f1 j)) (hl : Mrg key n f1 f2 a mid) (hr : Mrg key n f2 f3 mid b) : Mrg key n f f3 a b := by
  have o1 : Outs f f1 a b := by rw [e1]; exact (rot_outs h3 h4).wide h1 h2
  have r1 : Frm f f1 a b := by rw [e1]; exact (rot_frm h3 h4).wide (rot_outs h3 h4) h1 h2
  have o2 := hl.outs.wide (Nat.le_refl a) (Nat.le_of_lt hb)
  have r2 := hl.frm.wide hl.outs (Nat.le_refl a) (Nat.le_of_lt hb)
  have o3 := hr.outs.wide (Nat.le_of_lt ha) (Nat.le_refl b)
  have r3 := hr.frm.wide hr.outs (Nat.le_of_lt ha) (Nat.le_refl b)
  refine ⟨(o1.trans o2).trans o3, (r1.trans r2).trans r3, fun i j i1 i2 i3 => ?_, (hst.trans hl.stb).trans hr.stb⟩
  by_cases c1 : i < mid
  · by_cases c2 : j < mid
    · rw [hr.outs i (by omega), hr.outs j (by omega)]; exact hl.srt.le i1 (by omega) c2
    · rw [hr.outs i (by omega)]
      obtain ⟨p, p1, p2, ep⟩ := hl.frm i i1 c1
      obtain ⟨q, q1, q2, eq⟩ := hr.frm j (by omega) i3
      rw [ep, eq, hl.outs q (by omega)]
      exact hh p q p1 p2 q1 q2
  · exact hr.srt.le (by omega) (by omega) i3
theorem mrg_refl {key : Nat → Int} {n a b : Nat} {f : Nat → Nat} (h : Srt key f a b) : Mrg key n f f a b := ⟨Outs.refl _ _ _, Frm.refl _ _ _, h, Stb.refl _ _ _⟩

/-! ### Blocks -/
/-- Blocks of two times bs are sorted up to a, and blocks of bs from a on. -/
def Blks (key : Nat → Int) (bs : Nat) (f : Nat → Nat) (a n : Nat) : Prop := (∀ p, 2 * bs ∣ p → p + 2 * bs ≤ a → Srt key f p (p + 2 * bs)) ∧ (∀ p, bs ∣ p → a ≤ p → Srt key f p (min (p + bs) n))
theorem dvd_gap {d p q : Nat} (h1 : d ∣ p) (h2 : d ∣ q) (h : p < q) : p + d ≤ q := by
  obtain ⟨u, rfl⟩ := h1
  obtain ⟨v, rfl⟩ := h2
  have : u < v := by
    rcases Nat.lt_or_ge u v with h3 | h3
    · exact h3
    · have := Nat.mul_le_mul_left d h3; omega
  have := Nat.mul_le_mul_left d (show u + 1 ≤ v from this)
  rw [Nat.mul_add] at this; omega
theorem blks_step {key : Nat → Int} {bs a n : Nat} {f f' : Nat → Nat} (h : Blks key bs f a n) (hd : 2 * bs ∣ a) (hn : a + 2 * bs ≤ n) (hm : Mrg key n f f' a (a + 2 * bs)) : Blks key bs f' (a + 2 * bs) n := by
  refine ⟨fun p hp hpa => ?_, fun p hp hpa => (h.2 p hp (by omega)).out hm.outs (.inr hpa)⟩
  rcases Nat.lt_trichotomy p a with c | c | c
  · exact (h.1 p hp (dvd_gap hp hd c)).out hm.outs (.inl (dvd_gap hp hd c))
  · rw [c]; exact hm.srt
  · omega
theorem blks_two {key : Nat → Int} {bs a n : Nat} {f : Nat → Nat} (h : Blks key bs f a n) (hd : 2 * bs ∣ a) (hn : a + bs ≤ n) : Srt key f a (a + bs) ∧ Srt key f (a + bs) (min (a + 2 * bs) n) := by
  have hb : bs ∣ a := Nat.dvd_trans (Nat.dvd_mul_left bs 2) hd
  refine ⟨(h.2 a hb (Nat.le_refl _)).part (Nat.le_refl _) (by omega), ?_⟩
  have := h.2 (a + bs) (Nat.dvd_add hb (Nat.dvd_refl _)) (by omega)
  exact this.part (Nat.le_refl _) (by omega)
theorem blks_next {key : Nat → Int} {bs a n : Nat} {f f' : Nat → Nat} (h : Blks key bs f a n) (hbs : 1 ≤ bs) (hd : 2 * bs ∣ a) (hn : n < a + 2 * bs) (hs : Srt key f' a n) (ho : Outs f f' a n) : Blks key (2 * bs) f' 0 n := by
  refine ⟨fun p _ hp => by omega, fun p hp _ => ?_⟩
  rcases Nat.lt_trichotomy p a with c | c | c
  · exact ((h.1 p hp (dvd_gap hp hd c)).out ho (.inl (dvd_gap hp hd c))).part (Nat.le_refl _) (by omega)
  · rw [c]; exact hs.part (Nat.le_refl _) (by omega)
  · have := dvd_gap hd hp c
    exact fun i j _ _ _ => by omega
theorem blks_end {key : Nat → Int} {bs n : Nat} {f : Nat → Nat} (h : Blks key bs f 0 n) (hn : n ≤ bs) : Srt key f 0 n := (h.2 0 (Nat.dvd_zero _) (Nat.le_refl _)).part (Nat.le_refl _) (by omega)

/-! ### One list is sorted in one way -/
theorem sorted_one {key : Nat → Int} : ∀ {l l' : List Nat}, l.Pairwise (fun x y => key x ≤ key y) → l'.Pairwise (fun x y => key x ≤ key y) → (∀ k, cls key k l = cls key k l') → l = l'
  | [], [], _, _, _ => rfl
  | [], y :: t, _, _, h => by
    have := h (key y)
    simp [cls] at this
  | x :: t, [], _, _, h => by
    have := h (key x)
    simp [cls] at this
  | x :: t, y :: t', h1, h2, h => by
    rw [List.pairwise_cons] at h1 h2
    have m1 : y ∈ x :: t := by
      have : y ∈ cls key (key y) (y :: t') := by unfold cls; rw [List.mem_filter]; exact ⟨by simp, by simp⟩
      rw [← h] at this
      unfold cls at this
      exact (List.mem_filter.1 this).1
    have m2 : x ∈ y :: t' := by
      have : x ∈ cls key (key x) (x :: t) := by unfold cls; rw [List.mem_filter]; exact ⟨by simp, by simp⟩
      rw [h] at this
      unfold cls at this
      exact (List.mem_filter.1 this).1
    have ek : key x = key y := by
      have g1 : key x ≤ key y := by
        rcases List.mem_cons.1 m1 with e | e
        · rw [e]; exact Int.le_refl _
        · exact h1.1 y e
      have g2 : key y ≤ key x := by
        rcases List.mem_cons.1 m2 with e | e
        · rw [e]; exact Int.le_refl _
        · exact h2.1 x e
      omega
    have exy : x = y := by
      have := h (key x)
      unfold cls at this
      rw [List.filter_cons_of_pos (by simp), List.filter_cons_of_pos (by simp [ek])] at this
      exact (List.cons.inj this).1
    subst exy
    congr 1
    refine sorted_one h1.2 h2.2 fun k => ?_
    have := h k
    unfold cls at this ⊢
    by_cases hk : key x = k
    · rw [List.filter_cons_of_pos (by simp [hk]), List.filter_cons_of_pos (by simp [hk])] at this
      exact (List.cons.inj this).2
    · rw [List.filter_cons_of_neg (by simp [hk]), List.filter_cons_of_neg (by simp [hk])] at this
      exact this
theorem srt_seg {key : Nat → Int} {f : Nat → Nat} : ∀ {n a : Nat}, Srt key f a (a + n) → (seg f a n).Pairwise (fun x y => key x ≤ key y)
  | 0, _, _ => List.Pairwise.nil
  | n + 1, a, h => by
    refine List.pairwise_cons.2 ⟨fun y hy => ?_, srt_seg (h.part (by omega) (by omega))⟩
    obtain ⟨i, hi, rfl⟩ := seg_mem.1 hy
    exact h a (a + 1 + i) (Nat.le_refl _) (by omega) (by omega)
/-- Sorted, equals in their order: what an insertion from the end makes. -/
def insK (key : Nat → Int) (x : Nat) : List Nat → List Nat
  | [] => [x]
  | y :: t => if key y < key x then y :: insK key x t else x :: y :: t
def sortK (key : Nat → Int) : List Nat → List Nat
  | [] => []
  | x :: t => insK key x (sortK key t)
theorem ins_mem {key : Nat → Int} {x z : Nat} : ∀ {l : List Nat}, z ∈ insK key x l → z = x ∨ z ∈ l
  | [], h => by simp [insK] at h; exact .inl h
  | y :: t, h => by
    unfold insK at h
    split at h
    · rcases List.mem_cons.1 h with h | h
      · exact .inr (by simp [h])
      · rcases ins_mem h with h | h
        · exact .inl h
        · exact .inr (by simp [h])
    · rcases List.mem_cons.1 h with h | h
      · exact .inl h
      · exact .inr h
theorem ins_sorted {key : Nat → Int} {x : Nat} : ∀ {l : List Nat}, l.Pairwise (fun x y => key x ≤ key y) → (insK key x l).Pairwise (fun x y => key x ≤ key y)
  | [], _ => by simp [insK]
  | y :: t, h => by
    unfold insK
    rw [List.pairwise_cons] at h
    split
    · refine List.pairwise_cons.2 ⟨fun z hz => ?_, ins_sorted h.2⟩
      rcases ins_mem hz with rfl | hz
      · omega
      · exact h.1 z hz
    · refine List.pairwise_cons.2 ⟨fun z hz => ?_, List.pairwise_cons.2 h⟩
      rcases List.mem_cons.1 hz with rfl | hz
      · omega
      · have := h.1 z hz; omega
theorem ins_cls {key : Nat → Int} {x : Nat} (k : Int) : ∀ {l : List Nat}, cls key k (insK key x l) = cls key k (x :: l)
  | [] => rfl
  | y :: t => by
    unfold insK
    split
    · rename_i hlt
      have ih := ins_cls (key := key) (x := x) k (l := t)
      unfold cls at ih ⊢
      by_cases hy : key y = k
      · have hx : ¬ key x = k := by omega
        rw [List.filter_cons_of_pos (by simp [hy]), ih, List.filter_cons_of_neg (by simp [hx]), List.filter_cons_of_neg (by simp [hx]), List.filter_cons_of_pos (by simp [hy])]
      · rw [List.filter_cons_of_neg (by simp [hy]), ih, List.filter_cons, List.filter_cons, List.filter_cons_of_neg (by simp [hy])]
    · rfl
theorem sort_sorted (key : Nat → Int) : ∀ l : List Nat, (sortK key l).Pairwise (fun x y => key x ≤ key y)
  | [] => List.Pairwise.nil
  | x :: t => ins_sorted (sort_sorted key t)
theorem sort_cls (key : Nat → Int) (k : Int) : ∀ l : List Nat, cls key k (sortK key l) = cls key k l
  | [] => rfl
  | x :: t => by
    show cls key k (insK key x (sortK key t)) = _
    rw [ins_cls]
    have := sort_cls key k t
    unfold cls at this ⊢
    rw [List.filter_cons, List.filter_cons, this]
theorem ins_len (key : Nat → Int) (x : Nat) : ∀ l : List Nat, (insK key x l).length = l.length + 1
  | [] => rfl
  | y :: t => by
    unfold insK
    split
    · show (insK key x t).length + 1 = _; rw [ins_len key x t]; rfl
    · rfl
theorem sort_len (key : Nat → Int) : ∀ l : List Nat, (sortK key l).length = l.length
  | [] => rfl
  | x :: t => by show (insK key x (sortK key t)).length = _; rw [ins_len, sort_len key t]; rfl
/-- A list that is sorted so is this one. -/
theorem sort_is {key : Nat → Int} {n : Nat} {f f' : Nat → Nat} (h : Srt key f' 0 n) (hs : Stb key n f f') : seg f' 0 n = sortK key (seg f 0 n) :=
  sorted_one (srt_seg (by rw [Nat.zero_add]; exact h)) (sort_sorted ..) fun k => by rw [sort_cls]; exact hs k
theorem sort_mem {key : Nat → Int} {z : Nat} : ∀ {l : List Nat}, z ∈ sortK key l → z ∈ l
  | [], h => h
  | x :: t, h => by
    rcases ins_mem h with rfl | h
    · simp
    · exact List.mem_cons_of_mem _ (sort_mem h)
theorem seg_list (zs : List Nat) : seg (fun i => zs.getD i 0) 0 zs.length = zs := by
  have : ∀ (zs : List Nat) (pre : List Nat), seg (fun i => (pre ++ zs).getD i 0) pre.length zs.length = zs := by
    intro zs
    induction zs with
    | nil => intro pre; rfl
    | cons x t ih =>
      intro pre
      show (pre ++ x :: t).getD pre.length 0 :: seg _ (pre.length + 1) t.length = x :: t
      have h1 : (pre ++ x :: t).getD pre.length 0 = x := by simp [List.getD]
      have h2 := ih (pre ++ [x])
      rw [List.append_assoc] at h2
      rw [h1]
      congr 1
      simpa using h2
  simpa using this zs []
end Go.Proofs.Ytallegmkkbmelab
