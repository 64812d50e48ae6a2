/- Every accepted plan costs at least the binomial cost: a bound on what is still to pay. -/
import Derived.Test.YtndmpoomdoojpaaKM2
namespace Go.Proofs.Ytndmpoomdoojpaa.Ck
open Go.ChangeShapes Go.WideShapes Go.ChangeAt Go.RowKit
set_option linter.unusedVariables false

theorem ckz_ok : ((List.range 65).all fun (s : Nat) => co 0 s == 0 && co 1 s == 0) = true := by decide +kernel
theorem co_zero' (s : Nat) (h : s < 65) : co ((0 : Nat) : Int) s = 0 := by
  have := List.all_eq_true.1 ckz_ok s (List.mem_range.2 h)
  rw [Bool.and_eq_true] at this
  exact beq_iff_eq.1 this.1
theorem co_ext' (s : Nat) (h : s < 65) : co ((1 : Nat) : Int) s = 0 := by
  have := List.all_eq_true.1 ckz_ok s (List.mem_range.2 h)
  rw [Bool.and_eq_true] at this
  exact beq_iff_eq.1 this.2
/-- The least cost of reversing a number of steps with k registers besides the first state: with one or more, the binomial cost. -/
def F (k n : Nat) : Int := match k with
  | 0 => if n ≤ 1 then 0 else 10000
  | s + 1 => co n s
def top : List Nat → Nat → Nat
  | [], _ => 0
  | x :: C, h => if x ≤ h then max x (top C h) else top C h
def D (C : List Nat) : Nat → List Nat → Int
  | _, [] => 0
  | g, h :: t => ((h - max g (top C h) : Nat) : Int) + D C h t
def cst : Nat → Nat → List Nat → Nat → Int
  | k, g, [], L => F k (L - g)
  | k, g, h :: t, L => F k (h - g) + cst (k - 1) h t L
def srt : Nat → List Nat → Nat → Prop
  | g, [], L => g < L
  | g, h :: t, L => g < h ∧ srt h t L
theorem srt_lt : ∀ {l : List Nat} {g L : Nat}, srt g l L → g < L
  | [], _, _, h => h
  | h :: t, g, L, ⟨h1, h2⟩ => by have := srt_lt h2; omega
theorem F_bd {k n : Nat} (hk : k ≤ 65) (hn : n ≤ 64) : 0 ≤ F k n ∧ F k n ≤ 10000 := by
  cases k with
  | zero => unfold F; simp only; split <;> omega
  | succ s => unfold F; simp only; have := co_bd (n := n) (s := s) (by omega) (by omega) (by omega) (by omega); omega
theorem F_one (k : Nat) (hk : k ≤ 65) : F k 1 = 0 := by
  cases k with
  | zero => rfl
  | succ s =>
    unfold F; simp only
    have h := co_ext' s (by omega)
    exact h
theorem bl_le (prev row : List Int) (n m : Nat) : ∀ K, m + 1 ≤ K → bl prev row n K ≤ ((m + 1 : Nat) : Int) + prev.getD (n - (m + 1)) 0 + row.getD (m + 1) 0
  | 0, h => by omega
  | K + 1, h => by
    unfold bl
    by_cases e : m = K
    · subst e; exact Int.min_le_right _ _
    · exact Int.le_trans (Int.min_le_left _ _) (bl_le prev row n m K (by omega))
theorem tri (m : Nat) : ((m + 1 : Nat) : Int) * (((m + 1 : Nat) : Int) - 1) / 2 = m + (m : Int) * ((m : Int) - 1) / 2 := by
  have e : ((m + 1 : Nat) : Int) * (((m + 1 : Nat) : Int) - 1) = (m : Int) * ((m : Int) - 1) + m * 2 := by
    push_cast; grind
  rw [e, Int.add_mul_ediv_right _ _ (by decide)]; omega
theorem F_rec {k n m : Nat} (h1 : 1 ≤ m) (h2 : m < n) (hn : n ≤ 64) (hk : k + 1 ≤ 65) : F (k + 1) n ≤ m + F k (n - m) + F (k + 1) m := by
  cases k with
  | zero =>
    by_cases e : n - m ≤ 1
    · obtain rfl : n = m + 1 := by omega
      show co ((m + 1 : Nat) : Int) ((0 : Nat) : Int) ≤ m + F 0 (m + 1 - m) + co (m : Int) ((0 : Nat) : Int)
      have a := rec_zero (n := m + 1) (by omega)
      have b := rec_zero (n := m) (by omega)
      rw [tri] at a
      rw [show m + 1 - m = 1 by omega, F_one 0 (by omega)]
      have z : ((0 : Nat) : Int) = 0 := rfl
      rw [z, ← a, ← b]; omega
    · have a := F_bd (k := 0 + 1) (n := m) (by omega) (by omega)
      have b := F_bd (k := 0 + 1) (n := n) (by omega) (by omega)
      have c : F 0 (n - m) = 10000 := by unfold F; simp only; rw [if_neg e]
      rw [c]; omega
  | succ s =>
    obtain ⟨j, rfl⟩ : ∃ j, m = j + 1 := ⟨m - 1, by omega⟩
    have h := bl_le (R s) (R (s + 1)) n j (n - 1) (by omega)
    rw [rec_ok (by omega) (by omega), R_get (by omega), R_get (by omega)] at h
    exact h
theorem F_mono {k n : Nat} (hk : k + 1 ≤ 65) (hn : n ≤ 64) : F (k + 1) n ≤ F k n := by
  cases k with
  | zero =>
    by_cases e : n ≤ 1
    · have : F (0 + 1) n = 0 := by
        rcases (by omega : n = 0 ∨ n = 1) with rfl | rfl
        · decide +kernel
        · exact F_one _ (by omega)
      rw [this]; exact (F_bd (by omega) hn).1
    · have b := F_bd (k := 0 + 1) (n := n) (by omega) (by omega)
      have c : F 0 n = 10000 := by unfold F; simp only; rw [if_neg e]
      rw [c]; exact b.2
  | succ s =>
    have h := (co_ext (n := n) (s := s) (by omega) (by omega) (by omega) (by omega)).2.2.1
    exact h
theorem cst_nonneg : ∀ {l : List Nat} {k g L : Nat}, srt g l L → L ≤ 64 → k ≤ 65 → 0 ≤ cst k g l L
  | [], k, g, L, h, hL, hk => (F_bd hk (by omega)).1
  | h :: t, k, g, L, ⟨h1, h2⟩, hL, hk => by
    have a := srt_lt h2
    have b := (F_bd (k := k) (n := h - g) hk (by omega)).1
    have c := cst_nonneg (k := k - 1) h2 hL (by omega)
    show 0 ≤ F k (h - g) + cst (k - 1) h t L
    omega
theorem cst_mono : ∀ {l : List Nat} {k g L : Nat}, srt g l L → L ≤ 64 → k + 1 ≤ 65 → cst (k + 1) g l L ≤ cst k g l L
  | [], k, g, L, h, hL, hk => F_mono hk (by omega)
  | h :: t, k, g, L, ⟨h1, h2⟩, hL, hk => by
    have a := srt_lt h2
    have b := F_mono (k := k) (n := h - g) hk (by omega)
    show F (k + 1) (h - g) + cst (k + 1 - 1) h t L ≤ F k (h - g) + cst (k - 1) h t L
    cases k with
    | zero => show F (0 + 1) (h - g) + cst 0 h t L ≤ F 0 (h - g) + cst 0 h t L; omega
    | succ j =>
      have c := cst_mono (k := j) h2 hL (by omega)
      show F (j + 1 + 1) (h - g) + cst (j + 1) h t L ≤ F (j + 1) (h - g) + cst j h t L
      omega
theorem start_ge {C : List Nat} (hC : ∀ h, top C h = 0) : ∀ {l : List Nat} {k g L : Nat}, srt g l L → L ≤ 64 → k ≤ 65 → l.length ≤ k → F k (L - g) ≤ D C g l + cst k g l L
  | [], k, g, L, h, hL, hk, hl => by show F k (L - g) ≤ 0 + F k (L - g); omega
  | h :: t, k, g, L, ⟨h1, h2⟩, hL, hk, hl => by
    have a := srt_lt h2
    obtain ⟨j, rfl⟩ : ∃ j, k = j + 1 := ⟨k - 1, by simp at hl; omega⟩
    have ih := start_ge hC (k := j) h2 hL (by omega) (by simp at hl; omega)
    have r := F_rec (k := j) (n := L - g) (m := h - g) (by omega) (by omega) (by omega) (by omega)
    rw [show L - g - (h - g) = L - h by omega] at r
    show F (j + 1) (L - g) ≤ ((h - max g (top C h) : Nat) : Int) + D C h t + (F (j + 1) (h - g) + cst j h t L)
    rw [hC h, show h - max g 0 = h - g by omega]
    omega
theorem top_le : ∀ (C : List Nat) (h : Nat), top C h ≤ h
  | [], h => Nat.zero_le _
  | x :: C, h => by unfold top; have := top_le C h; split <;> omega
theorem le_top : ∀ {C : List Nat} {x h : Nat}, x ∈ C → x ≤ h → x ≤ top C h
  | y :: C, x, h, hx, hl => by
    unfold top
    rcases List.mem_cons.1 hx with rfl | hx
    · rw [if_pos hl]; omega
    · have := le_top hx hl; split <;> omega
theorem top_mem : ∀ (C : List Nat) (h : Nat), top C h = 0 ∨ top C h ∈ C
  | [], h => .inl rfl
  | x :: C, h => by
    have ih := top_mem C h
    unfold top
    split
    · rcases (by omega : max x (top C h) = x ∨ max x (top C h) = top C h) with e | e
      · rw [e]; exact .inr (List.mem_cons_self)
      · rw [e]; exact ih.imp id (List.mem_cons_of_mem _)
    · exact ih.imp id (List.mem_cons_of_mem _)
theorem top_anti {C C' : List Nat} (hs : ∀ x ∈ C', x = 0 ∨ x ∈ C) (h : Nat) : top C' h ≤ top C h := by
  rcases top_mem C' h with e | e
  · omega
  · rcases hs _ e with e2 | e2
    · omega
    · exact le_top e2 (top_le _ _)
theorem D_anti {C C' : List Nat} (hs : ∀ x ∈ C', x = 0 ∨ x ∈ C) : ∀ (l : List Nat) (g : Nat), D C g l ≤ D C' g l
  | [], g => Int.le_refl _
  | h :: t, g => by
    have ih := D_anti hs t h
    have a := top_anti hs h
    show ((h - max g (top C h) : Nat) : Int) + D C h t ≤ ((h - max g (top C' h) : Nat) : Int) + D C' h t
    omega
theorem D_far {p : Nat} {H : List Nat} : ∀ {l : List Nat} {g L : Nat}, srt g l L → p + 1 ≤ g → D (p :: H) g l = D ((p + 1) :: H) g l
  | [], g, L, hs, hg => rfl
  | h :: t, g, L, ⟨h1, h2⟩, hg => by
    have ih := D_far (p := p) (H := H) h2 (by omega)
    show ((h - max g (top (p :: H) h) : Nat) : Int) + D (p :: H) h t = ((h - max g (top ((p + 1) :: H) h) : Nat) : Int) + D ((p + 1) :: H) h t
    rw [ih]
    have e1 : top (p :: H) h = max p (top H h) := by unfold top; rw [if_pos (by omega)]; cases H <;> rfl
    have e2 : top ((p + 1) :: H) h = max (p + 1) (top H h) := by unfold top; rw [if_pos (by omega)]; cases H <;> rfl
    rw [e1, e2]
    omega
theorem D_adv {p : Nat} {H : List Nat} : ∀ {l : List Nat} {g L : Nat}, srt g l L → D (p :: H) g l ≤ D ((p + 1) :: H) g l + 1
  | [], g, L, hs => by show (0 : Int) ≤ 0 + 1; omega
  | h :: t, g, L, ⟨h1, h2⟩ => by
    show ((h - max g (top (p :: H) h) : Nat) : Int) + D (p :: H) h t ≤ ((h - max g (top ((p + 1) :: H) h) : Nat) : Int) + D ((p + 1) :: H) h t + 1
    have e1 : top (p :: H) h = if p ≤ h then max p (top H h) else top H h := by cases H <;> rfl
    have e2 : top ((p + 1) :: H) h = if p + 1 ≤ h then max (p + 1) (top H h) else top H h := by cases H <;> rfl
    by_cases hp : p + 1 ≤ h
    · have ih := D_far (p := p) (H := H) h2 hp
      rw [if_pos (by omega)] at e1
      rw [if_pos hp] at e2
      rw [ih, e1, e2]
      omega
    · have ih := D_adv (p := p) (H := H) h2
      rw [if_neg hp] at e2
      split at e1
      · rw [e1, e2]; omega
      · rw [e1, e2]; omega
theorem snoc_srt : ∀ {l : List Nat} {g M : Nat}, srt g l M → srt g (l ++ [M]) (M + 1)
  | [], g, M, h => ⟨h, Nat.lt_succ_self _⟩
  | x :: t, g, M, ⟨h1, h2⟩ => ⟨h1, snoc_srt h2⟩
theorem snoc_cst : ∀ {l : List Nat} {k g M : Nat}, k ≤ 65 → cst k g (l ++ [M]) (M + 1) = cst k g l M
  | [], k, g, M, hk => by
    show F k (M - g) + F (k - 1) (M + 1 - M) = F k (M - g)
    rw [show M + 1 - M = 1 by omega, F_one _ (by omega)]; omega
  | x :: t, k, g, M, hk => by
    show F k (x - g) + cst (k - 1) x (t ++ [M]) (M + 1) = F k (x - g) + cst (k - 1) x t M
    rw [snoc_cst (by omega)]
theorem snoc_D {H : List Nat} : ∀ {l : List Nat} {g M : Nat}, srt g l M → D (M :: H) g (l ++ [M]) = D (M :: H) g l
  | [], g, M, h => by
    show ((M - max g (top (M :: H) M) : Nat) : Int) + 0 = 0
    have := le_top (C := M :: H) (x := M) (h := M) (List.mem_cons_self) (Nat.le_refl _)
    omega
  | x :: t, g, M, ⟨h1, h2⟩ => by
    show ((x - max g (top (M :: H) x) : Nat) : Int) + D (M :: H) x (t ++ [M]) = ((x - max g (top (M :: H) x) : Nat) : Int) + D (M :: H) x t
    rw [snoc_D h2]
def full (C : List Nat) : Nat → List Nat → Prop
  | _, [] => True
  | g, h :: t => g < top C h ∧ full C h t
theorem count_step : ∀ {H : List Nat} {x g h : Nat}, x ∈ H → g < x → x ≤ h → H.countP (fun y => decide (h < y)) + 1 ≤ H.countP (fun y => decide (g < y))
  | y :: H, x, g, h, hx, h1, h2 => by
    have mono : H.countP (fun y => decide (h < y)) ≤ H.countP (fun y => decide (g < y)) := List.countP_mono_left (fun z _ hz => by simp at hz ⊢; omega)
    rcases List.mem_cons.1 hx with rfl | hx
    · rw [List.countP_cons_of_neg (by simpa using h2), List.countP_cons_of_pos (by simpa using h1)]
      omega
    · have ih := count_step hx h1 h2
      by_cases hy : h < y
      · rw [List.countP_cons_of_pos (by simpa using hy), List.countP_cons_of_pos (by simp; omega)]; omega
      · rw [List.countP_cons_of_neg (by simpa using hy)]
        have := List.countP_cons (p := fun y => decide (g < y)) (a := y) (l := H)
        rw [this]; omega
theorem full_len {C : List Nat} : ∀ {l : List Nat} {g : Nat}, full C g l → l.length ≤ C.countP (fun y => decide (g < y))
  | [], g, _ => Nat.zero_le _
  | h :: t, g, ⟨h1, h2⟩ => by
    have ih := full_len h2
    have hm : top C h ∈ C := by rcases top_mem C h with e | e; · omega
                                · exact e
    have := count_step hm h1 (top_le C h)
    simp only [List.length_cons]
    omega
theorem drop_one {C : List Nat} {M : Nat} (hM : M ≤ 64) : ∀ {l : List Nat} {k g : Nat}, srt g l M → l.length ≤ k → k ≤ 65 → (∃ l', srt g l' M ∧ l'.length + 1 = l.length ∧ D C g l' + cst k g l' M ≤ D C g l + cst k g l M) ∨ full C g l
  | [], k, g, h, hl, hk => .inr trivial
  | h :: t, k, g, ⟨h1, h2⟩, hl, hk => by
    have hlt := srt_lt h2
    obtain ⟨j, rfl⟩ : ∃ j, k = j + 1 := ⟨k - 1, by simp at hl; omega⟩
    simp only [List.length_cons] at hl
    rcases drop_one (C := C) hM (k := j) h2 (by omega) (by omega) with ⟨l', s1, s2, s3⟩ | hf
    · refine .inl ⟨h :: l', ⟨h1, s1⟩, by simp only [List.length_cons]; omega, ?_⟩
      show ((h - max g (top C h) : Nat) : Int) + D C h l' + (F (j + 1) (h - g) + cst j h l' M) ≤ ((h - max g (top C h) : Nat) : Int) + D C h t + (F (j + 1) (h - g) + cst j h t M)
      omega
    · by_cases hg : g < top C h
      · exact .inr ⟨hg, hf⟩
      · left
        have hd : h - max g (top C h) = h - g := by omega
        cases t with
        | nil =>
          refine ⟨[], by show g < M; omega, rfl, ?_⟩
          show 0 + F (j + 1) (M - g) ≤ ((h - max g (top C h) : Nat) : Int) + 0 + (F (j + 1) (h - g) + F j (M - h))
          have hm : h < M := h2
          have r := F_rec (k := j) (n := M - g) (m := h - g) (by omega) (by omega) (by omega) (by omega)
          rw [show M - g - (h - g) = M - h by omega] at r
          rw [hd]; omega
        | cons h3 t3 =>
          obtain ⟨u1, u2⟩ := h2
          obtain ⟨v1, v2⟩ := hf
          have hlt3 := srt_lt u2
          refine ⟨h3 :: t3, ⟨by omega, u2⟩, rfl, ?_⟩
          obtain ⟨i, rfl⟩ : ∃ i, j = i + 1 := ⟨j - 1, by simp at hl; omega⟩
          show ((h3 - max g (top C h3) : Nat) : Int) + D C h3 t3 + (F (i + 1 + 1) (h3 - g) + cst (i + 1) h3 t3 M) ≤ ((h - max g (top C h) : Nat) : Int) + (((h3 - max h (top C h3) : Nat) : Int) + D C h3 t3) + (F (i + 1 + 1) (h - g) + (F (i + 1) (h3 - h) + cst i h3 t3 M))
          have r := F_rec (k := i + 1) (n := h3 - g) (m := h - g) (by omega) (by omega) (by omega) (by omega)
          rw [show h3 - g - (h - g) = h3 - h by omega] at r
          have m := cst_mono (k := i) u2 hM (by omega)
          have e : h3 - max g (top C h3) = h3 - max h (top C h3) := by omega
          rw [hd, e]; omega
/-- What is still to pay, at least, whatever is stored where. -/
def Low (c : Nat) (C : List Nat) (L : Nat) (T : Int) : Prop := (1 ≤ L → ∀ l, srt 0 l L → l.length ≤ c → T ≤ D C 0 l + cst c 0 l L) ∧ (L = 0 → T ≤ 0)
theorem Low.anti {c L : Nat} {C C' : List Nat} {T : Int} (h : Low c C L T) (hs : ∀ x ∈ C', x = 0 ∨ x ∈ C) : Low c C' L T :=
  ⟨fun hL l h1 h2 => Int.le_trans (h.1 hL l h1 h2) (by have := D_anti hs l 0; omega), h.2⟩
theorem Low.adv {c L p : Nat} {H : List Nat} {T : Int} (h : Low c (p :: H) L T) : Low c ((p + 1) :: H) L (T - 1) :=
  ⟨fun hL l h1 h2 => by have a := h.1 hL l h1 h2; have b := D_adv (p := p) (H := H) h1; omega, fun h0 => by have := h.2 h0; omega⟩
theorem Low.rev {c L : Nat} {H : List Nat} {T : Int} (hc : c ≤ 65) (hL : L ≤ 63) (hH : H.length < c) (h : Low c (L :: H) (L + 1) T) : Low c (L :: H) L T := by
  refine ⟨fun h1 l hs hl => ?_, fun h0 => ?_⟩
  · have one : ∀ l', srt 0 l' L → l'.length < c → T ≤ D (L :: H) 0 l' + cst c 0 l' L := fun l' s1 s2 => by
      have := h.1 (by omega) (l' ++ [L]) (snoc_srt s1) (by simp; omega)
      rw [snoc_D s1, snoc_cst hc] at this
      exact this
    by_cases hlt : l.length < c
    · exact one l hs hlt
    · rcases drop_one (C := L :: H) (by omega) (k := c) hs hl hc with ⟨l', s1, s2, s3⟩ | hf
      · exact Int.le_trans (one l' s1 (by omega)) s3
      · exfalso
        have hf2 : full H 0 l := by
          have g : ∀ {l : List Nat} {g : Nat}, srt g l L → full (L :: H) g l → full H g l := by
            intro l
            induction l with
            | nil => intro g _ _; trivial
            | cons x t ih =>
              intro g ⟨a1, a2⟩ ⟨b1, b2⟩
              have := srt_lt a2
              have e : top (L :: H) x = top H x := by
                have e1 : top (L :: H) x = if L ≤ x then max L (top H x) else top H x := by cases H <;> rfl
                rw [e1, if_neg (by omega)]
              exact ⟨by rw [← e]; exact b1, ih a2 b2⟩
          exact g hs hf
        have a := full_len hf2
        have b := List.countP_le_length (p := fun y => decide (0 < y)) (l := H)
        omega
  · subst h0
    have := h.1 (by omega) [] (by show 0 < 1; omega) (Nat.zero_le _)
    have e : D (0 :: H) 0 [] + cst c 0 [] 1 = 0 := by show 0 + F c (1 - 0) = 0; rw [show 1 - 0 = 1 by rfl, F_one c hc]; rfl
    have e2 : D (0 :: H) 0 [] + cst c 0 [] (0 + 1) = 0 := e
    rw [e2] at this
    exact this
theorem Low.start {c n : Nat} {C : List Nat} (hC : ∀ x ∈ C, x = 0) (hc : c ≤ 65) (hn : n ≤ 64) : Low c C n (F c n) := by
  have ht : ∀ h, top C h = 0 := fun h => by
    rcases top_mem C h with e | e
    · exact e
    · exact hC _ e
  refine ⟨fun h l hs hl => ?_, fun h => ?_⟩
  · have := start_ge ht hs hn hc hl
    simpa using this
  · subst h
    cases c with
    | zero => decide
    | succ s => have := co_zero' s (by omega); show co ((0 : Nat) : Int) s ≤ 0; rw [this]; exact Int.le_refl _
end Go.Proofs.Ytndmpoomdoojpaa.Ck
