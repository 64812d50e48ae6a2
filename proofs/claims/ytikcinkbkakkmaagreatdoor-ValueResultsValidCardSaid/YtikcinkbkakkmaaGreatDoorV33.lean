/- Results are valid numbers; texts are read back: mathematics. -/
import Derived.Test.YtikcinkbkakkmaaGreatDoorV30
import Derived.Test.YtikcinkbkakkmaaGreatDoorGM
import Derived.Test.YtikcinkbkakkmaaGreatDoorGB
import Derived.Test.YtikcinkbkakkmaaGreatDoorFlo

namespace Go.Proofs.YtikcinkbkakkmaaGreatDoor.Va
open Go.ChangeShapes Go.WideShapes Go.ChangeAt Go.RowKit
open Fr Fx
set_option maxRecDepth 8000
set_option linter.unusedVariables false
set_option linter.unusedSimpArgs false

theorem nv_rng {n B O : Int} (hb : 2 ≤ B) (hb' : B ≤ 31) (ho : O = 1 ∨ O = 2) : - Nx.half B ≤ Nx.nv n B O ∧ Nx.nv n B O ≤ Nx.half B - 1 := by
  obtain ⟨hH, H0, H1, hF⟩ := half_of hb hb'
  have hg : ¬ Nx.nbad B O := by unfold Nx.nbad; omega
  unfold Nx.nv
  rw [if_neg hg]
  have m0 := Int.emod_nonneg (n + Nx.half B) (b := Nx.full B) (by omega)
  have m1 := Int.emod_lt_of_pos (n + Nx.half B) (b := Nx.full B) (by omega)
  generalize (n + Nx.half B) % Nx.full B = m at *
  by_cases h1 : n < - Nx.half B
  · rw [if_pos h1]
    by_cases h : O = 1
    · rw [if_pos h]; omega
    · rw [if_neg h]; omega
  · rw [if_neg h1]
    by_cases h2 : Nx.half B - 1 < n
    · rw [if_pos h2]
      by_cases h : O = 1
      · rw [if_pos h]; omega
      · rw [if_neg h]; omega
    · rw [if_neg h2]; omega
theorem fv_nv {K B F R O n : Int} (h : tv K B F R O = true) : fv K B F R O (Nx.nv n B O) 1 = true := by
  obtain ⟨k1, k2, k3, k4, k5, k6, k7, k8⟩ := tv_parts h
  have := nv_rng (n := n) k2 k3 k8
  unfold fv
  rw [h, Bool.true_and]
  exact decide_eq_true ⟨rfl, this⟩
theorem vv_of_vld {K B F R O n d : Int} (hk : K = 1) (ht : ty K B F R O = true) (h : vld n d = true) : vv K B F R O n d = true := by
  unfold vv; rw [if_neg (by omega), ht, if_pos hk]; exact h
theorem vv_of_int {K B F R O n : Int} (hk : K = 3) (ht : ty K B F R O = true) (h : -2147483647 ≤ n ∧ n ≤ 2147483647) : vv K B F R O n 1 = true := by
  unfold vv; rw [if_neg (by omega), ht, if_neg (by omega), Bool.true_and]; exact decide_eq_true ⟨rfl, h⟩
theorem ty_kind {K B F R O : Int} (ht : ty K B F R O = true) : K = 1 ∨ K = 3 ∨ (K = 2 ∧ tv K B F R O = true) := by
  rcases ty_cases K B F R O with ⟨_, h | h⟩ | ⟨h', _⟩
  · exact Or.inr (Or.inr h)
  · omega
  · rw [h'] at ht; cases ht
theorem vld_vv {K B F R O n d : Int} (h : vv K B F R O n d = true) : vld n d = true := by
  obtain ⟨x1, x2, x3, x4, x5⟩ := vv_small h
  by_cases k1 : K = 1
  · have ht := vv_ty h
    unfold vv at h
    rw [if_neg (by omega), ht, if_pos k1] at h
    exact h
  · obtain rfl := x5 k1
    exact vld_one x3 x4
theorem nw_ok {n d x y : Int} (h : nw n d = (x, y, 0)) : vld x y = true := by
  unfold nw at h
  simp only [Prod.mk.injEq] at h
  obtain ⟨rfl, rfl, h⟩ := h
  exact new_valid n d h
theorem apv_valid {op K B F R O n1 d1 n2 d2 x y : Int} (h : apv op K B F R O n1 d1 n2 d2 = (x, y, 0)) : vv K B F R O x y = true := by
  unfold apv at h
  by_cases c1 : op < 4 ∨ 10 < op
  · rw [if_pos c1] at h; simp at h
  rw [if_neg c1] at h
  by_cases c2 : ty K B F R O = false
  · rw [if_pos c2] at h; simp at h
  rw [if_neg c2] at h
  have ht : ty K B F R O = true := by simpa using c2
  by_cases c3 : vv K B F R O n1 d1 = false ∨ (op ≠ 8 ∧ vv K B F R O n2 d2 = false)
  · rw [if_pos c3] at h; simp at h
  rw [if_neg c3] at h
  have v1 : vv K B F R O n1 d1 = true := by
    cases e : vv K B F R O n1 d1
    · exact absurd (Or.inl e) c3
    · rfl
  have v2 : op ≠ 8 → vv K B F R O n2 d2 = true := fun ho => by
    cases e : vv K B F R O n2 d2
    · exact absurd (Or.inr ⟨ho, e⟩) c3
    · rfl
  by_cases c4 : op = 9
  · rw [if_pos c4] at h
    by_cases c : cpv K B F R O n1 d1 n2 d2 ≤ 0
    · rw [if_pos c] at h; simp only [Prod.mk.injEq, and_true] at h; obtain ⟨rfl, rfl⟩ := h; exact v1
    · rw [if_neg c] at h; simp only [Prod.mk.injEq, and_true] at h; obtain ⟨rfl, rfl⟩ := h; exact v2 (by omega)
  rw [if_neg c4] at h
  by_cases c5 : op = 10
  · rw [if_pos c5] at h
    by_cases c : 0 ≤ cpv K B F R O n1 d1 n2 d2
    · rw [if_pos c] at h; simp only [Prod.mk.injEq, and_true] at h; obtain ⟨rfl, rfl⟩ := h; exact v1
    · rw [if_neg c] at h; simp only [Prod.mk.injEq, and_true] at h; obtain ⟨rfl, rfl⟩ := h; exact v2 (by omega)
  rw [if_neg c5] at h
  by_cases c6 : K = 1
  · rw [if_pos c6] at h
    refine vv_of_vld c6 ht ?_
    unfold frv at h
    by_cases e4 : op = 4
    · rw [if_pos e4] at h; exact nw_ok h
    rw [if_neg e4] at h
    by_cases e5 : op = 5
    · rw [if_pos e5] at h; exact nw_ok h
    rw [if_neg e5] at h
    by_cases e6 : op = 6
    · rw [if_pos e6] at h; exact nw_ok h
    rw [if_neg e6] at h
    by_cases e7 : op = 7
    · rw [if_pos e7] at h; exact nw_ok h
    rw [if_neg e7] at h
    simp only [Prod.mk.injEq, and_true] at h
    obtain ⟨rfl, rfl⟩ := h
    rw [vld_neg]
    exact vld_vv v1
  rw [if_neg c6] at h
  by_cases c7 : K = 2
  · rw [if_pos c7] at h
    rw [vv_fix c7]
    have htv : tv K B F R O = true := by
      rcases ty_kind ht with h | h | h
      · exact absurd h c6
      · omega
      · exact h.2
    unfold fxv at h
    by_cases e7 : op = 7 ∧ n2 = 0
    · rw [if_pos e7] at h; simp at h
    rw [if_neg e7] at h
    simp only [Prod.mk.injEq, and_true] at h
    obtain ⟨rfl, rfl⟩ := h
    exact fv_nv htv
  · rw [if_neg c7] at h
    have k3 : K = 3 := by
      rcases ty_kind ht with h | h | h
      · exact absurd h c6
      · exact h
      · exact absurd h.1 c7
    unfold whv at h
    by_cases e7 : op = 7 ∧ n2 = 0
    · rw [if_pos e7] at h; simp at h
    rw [if_neg e7] at h
    by_cases e8 : -2147483647 ≤ whn op n1 n2 ∧ whn op n1 n2 ≤ 2147483647
    · rw [if_pos e8] at h
      simp only [Prod.mk.injEq, and_true] at h
      obtain ⟨rfl, rfl⟩ := h
      exact vv_of_int k3 ht e8
    · rw [if_neg e8] at h; simp at h
theorem cav_valid {K B F R O K' B' F' R' O' n d x y : Int} (h : cav K B F R O K' B' F' R' O' n d = (x, y, 0)) : vv K' B' F' R' O' x y = true := by
  unfold cav at h
  by_cases c1 : ty K B F R O = false ∨ ty K' B' F' R' O' = false
  · rw [if_pos c1] at h; simp at h
  rw [if_neg c1] at h
  have ht : ty K' B' F' R' O' = true := by
    cases e : ty K' B' F' R' O'
    · exact absurd (Or.inr e) c1
    · rfl
  by_cases c2 : vv K B F R O n d = false
  · rw [if_pos c2] at h; simp at h
  rw [if_neg c2] at h
  have hr := rat_vld (show vv K B F R O n d = true by simpa using c2)
  obtain ⟨y0, y1, x0, x1, _⟩ := vld_parts hr
  by_cases k3 : K' = 3
  · rw [if_pos k3] at h
    simp only [Prod.mk.injEq, and_true] at h
    obtain ⟨rfl, rfl⟩ := h
    refine vv_of_int k3 ht ⟨(Int.le_ediv_iff_mul_le (by omega)).2 ?_, ?_⟩
    · have := Int.mul_le_mul_of_nonneg_left y0 (show (0 : Int) ≤ 2147483647 by decide)
      rw [Int.neg_mul]; omega
    · by_cases hx : 0 ≤ (rat K F n d).1
      · exact Int.le_trans (Int.ediv_le_self _ hx) x1
      · have := Int.ediv_neg_of_neg_of_pos (show (rat K F n d).1 < 0 by omega) (show 0 < (rat K F n d).2 by omega)
        omega
  rw [if_neg k3] at h
  by_cases k2 : K' = 2
  · rw [if_pos k2] at h
    simp only [Prod.mk.injEq, and_true] at h
    obtain ⟨rfl, rfl⟩ := h
    rw [vv_fix k2]
    rcases ty_kind ht with h | h | h
    · omega
    · omega
    · exact fv_nv h.2
  · rw [if_neg k2] at h
    simp only [Prod.mk.injEq, and_true] at h
    obtain ⟨rfl, rfl⟩ := h
    rcases ty_kind ht with h | h | h
    · exact vv_of_vld h ht hr
    · exact absurd h k3
    · exact absurd h.1 k2
theorem cav_same {K B F R O n d : Int} (h : vv K B F R O n d = true) : cav K B F R O K B F R O n d = (n, d, 0) := by
  have ht := vv_ty h
  unfold cav
  rw [if_neg (by rw [ht]; decide), if_neg (by rw [h]; decide)]
  obtain ⟨x1, x2, x3, x4, x5⟩ := vv_small h
  rcases ty_kind ht with k | k | ⟨k, htv⟩
  · rw [if_neg (by omega), if_neg (by omega)]
    unfold rat
    rw [if_neg (by omega)]
  · obtain rfl := x5 (by omega)
    rw [if_pos k]
    unfold rat
    rw [if_neg (by omega)]
    simp
  · obtain rfl := x5 (by omega)
    rw [vv_fix k] at h
    rw [if_neg (by omega), if_pos k]
    unfold rat
    rw [if_pos k, (back K B F R O n h).2]
theorem half_small {B : Int} (h : 2 ≤ B) (h' : B ≤ 31) : Nx.half B ≤ 1073741824 := (half_of h h').2.2.1
theorem vpv_ok {K B F R O x y : Int} {l : List UInt8} (h : vpv K B F R O l = (x, y, 0)) : vv K B F R O x y = true ∧ vfm K B F R O x y = l := by
  unfold vpv at h
  by_cases c1 : ty K B F R O = false
  · rw [if_pos c1] at h; simp at h
  rw [if_neg c1] at h
  have ht : ty K B F R O = true := by simpa using c1
  obtain ⟨r, hr⟩ : ∃ r, Tx.psv l = r := ⟨_, rfl⟩
  rw [hr] at h
  obtain ⟨a, b, e⟩ := r
  dsimp only at h
  by_cases c2 : e ≠ 0
  · rw [if_pos c2] at h; simp at h; exact absurd h.2.2 c2
  rw [if_neg c2] at h
  have he : e = 0 := by simpa using c2
  subst he
  obtain ⟨hv, hf⟩ := Tx.format_parse hr
  obtain ⟨y0, y1, x0, x1, _⟩ := vld_parts hv
  have fin : ∀ n d, vv K B F R O n d = true → rat K F n d = (a, b) → vfm K B F R O n d = l := fun n d h1 h2 => by
    unfold vfm
    rw [if_neg (by rw [h1]; decide), h2]
    exact hf
  by_cases k3 : K = 3
  · rw [if_pos k3] at h
    by_cases hb : b ≠ 1
    · rw [if_pos hb] at h; simp at h
    rw [if_neg hb] at h
    simp only [Prod.mk.injEq, and_true] at h
    obtain ⟨rfl, rfl⟩ := h
    have hb1 : b = 1 := by simpa using hb
    subst hb1
    have hvv := vv_of_int (n := a) k3 ht ⟨x0, x1⟩
    exact ⟨hvv, fin _ _ hvv (by unfold rat; rw [if_neg (by omega)])⟩
  rw [if_neg k3] at h
  by_cases k2 : K = 2
  · rw [if_pos k2] at h
    by_cases c3 : 2 ^ F.toNat % b ≠ 0
    · rw [if_pos c3] at h; simp at h
    rw [if_neg c3] at h
    by_cases c4 : fv K B F R O (a * (2 ^ F.toNat / b)) 1 = false
    · rw [if_pos c4] at h; simp at h
    rw [if_neg c4] at h
    simp only [Prod.mk.injEq, and_true] at h
    obtain ⟨rfl, rfl⟩ := h
    have hfv : fv K B F R O (a * (2 ^ F.toNat / b)) 1 = true := by simpa using c4
    have hvv : vv K B F R O (a * (2 ^ F.toNat / b)) 1 = true := by rw [vv_fix k2]; exact hfv
    refine ⟨hvv, fin _ _ hvv ?_⟩
    obtain ⟨htv, _, _, _, i0, i1⟩ := fv_parts hfv
    obtain ⟨_, _, _, f0, f1, _, _, _⟩ := tv_parts htv
    have hp := (two_pow F f0 f1).1
    obtain ⟨g1, g2, g3⟩ := Fx.new_red (a * (2 ^ F.toNat / b)) F.toNat (by omega) (by omega) (by omega)
    have hdiv : b * (2 ^ F.toNat / b) = 2 ^ F.toNat := Int.mul_ediv_cancel' (Int.dvd_of_emod_eq_zero (by simpa using c3))
    obtain ⟨e1, e2, _⟩ := new_back (a * (2 ^ F.toNat / b)) (2 ^ F.toNat) a b (by omega) hv (by rw [Int.mul_assoc, Int.mul_comm _ b, hdiv])
    unfold rat
    rw [if_pos k2, ← g1, ← g2, e1, e2]
  · rw [if_neg k2] at h
    simp only [Prod.mk.injEq, and_true] at h
    obtain ⟨rfl, rfl⟩ := h
    have k1 : K = 1 := by
      rcases ty_kind ht with h | h | h
      · exact h
      · exact absurd h k3
      · exact absurd h.1 k2
    have hvv := vv_of_vld k1 ht hv
    exact ⟨hvv, fin _ _ hvv (by unfold rat; rw [if_neg k2])⟩
theorem vpv_back {K B F R O n d : Int} (h : vv K B F R O n d = true) : vpv K B F R O (vfm K B F R O n d) = (n, d, 0) := by
  have ht := vv_ty h
  have hr := rat_vld h
  obtain ⟨x1, x2, x3, x4, x5⟩ := vv_small h
  have hl : vfm K B F R O n d = Tx.fmv (rat K F n d).1 (rat K F n d).2 := by unfold vfm; rw [if_neg (by rw [h]; decide)]
  rw [hl]
  unfold vpv
  rw [if_neg (by rw [ht]; decide), Tx.parse_format hr]
  dsimp only
  rw [if_neg (by decide)]
  rcases ty_kind ht with k | k | ⟨k, htv⟩
  · rw [if_neg (by omega), if_neg (by omega)]
    unfold rat
    rw [if_neg (by omega)]
  · obtain rfl := x5 (by omega)
    rw [if_pos k]
    have e : rat K F n 1 = (n, 1) := by unfold rat; rw [if_neg (by omega)]
    rw [e]
    dsimp only
    rw [if_neg (by decide)]
  · obtain rfl := x5 (by omega)
    rw [vv_fix k] at h
    rw [if_neg (by omega), if_pos k]
    obtain ⟨j, h1, h2, h3⟩ := red_spec F.toNat n
    have e : rat K F n 1 = ((red n F.toNat).1, 2 ^ (red n F.toNat).2) := by unfold rat; rw [if_pos k]
    rw [e]
    dsimp only
    have hp : (2 : Int) ^ F.toNat = 2 ^ (red n F.toNat).2 * 2 ^ j := by rw [← Int.pow_add, h2]
    have hq : (0 : Int) < 2 ^ (red n F.toNat).2 := Int.pow_pos (by decide)
    rw [hp, Int.mul_emod_right, Int.mul_ediv_cancel_left _ (by omega), h1]
    rw [if_neg (by decide), if_neg (by rw [h]; decide)]
end Go.Proofs.YtikcinkbkakkmaaGreatDoor.Va
