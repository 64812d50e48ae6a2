/- The walks of the statements for every input. -/
import Derived.Test.YtikcinkbkakkmaaGreatDoorFxU

namespace Go.Proofs.YtikcinkbkakkmaaGreatDoor.Fx
open Go.ChangeShapes Go.WideShapes Go.ChangeAt Go.RowKit
open Fr
set_option linter.unusedVariables false
set_option linter.unusedSimpArgs false
theorem red_spec : ∀ (m : Nat) (n : Int), ∃ j, (red n m).1 * 2 ^ j = n ∧ (red n m).2 + j = m ∧ ((red n m).2 = 0 ∨ (red n m).1 % 2 ≠ 0)
  | 0, n => ⟨0, by simp [red], rfl, .inl rfl⟩
  | m + 1, n => by
    by_cases he : n % 2 = 0
    · rw [red_even he]
      obtain ⟨j, h1, h2, h3⟩ := red_spec m (n / 2)
      refine ⟨j + 1, ?_, by omega, h3⟩
      rw [Int.pow_succ, ← Int.mul_assoc, h1]
      omega
    · rw [red_odd he]
      exact ⟨0, by simp, rfl, .inr he⟩
theorem dval_exact (how n d : Int) (h : 1 ≤ how) (h' : how ≤ 4) (hd : 1 ≤ d) : Dv.dval how (n * d) d = n := by
  unfold Dv.dval
  rw [if_neg (by omega), if_neg (by omega), if_neg (by omega), Int.mul_tmod_left, Int.mul_tdiv_cancel _ (by omega)]
  unfold Plain.rnd
  rw [if_pos rfl]
/-- What ToFrac answers is a fraction, and FromFrac of it is the number. -/
theorem back (K B F R O n : Int) (h : fv K B F R O n 1 = true) : vld (red n F.toNat).1 (2 ^ (red n F.toNat).2) = true ∧ Nx.nv (Dv.dval R ((red n F.toNat).1 * 2 ^ F.toNat) (2 ^ (red n F.toNat).2)) B O = n := by
  obtain ⟨t, _, l0, m0, i0, i1⟩ := fv_parts h
  obtain ⟨k1, k2, k3, k4, k5, k6, k7, k8⟩ := tv_parts t
  obtain ⟨j, h1, h2, h3⟩ := red_spec F.toNat n
  have hb := red_bound F.toNat n
  obtain ⟨N, hN⟩ : ∃ N, (red n F.toNat).1 = N := ⟨_, rfl⟩
  obtain ⟨m, hm⟩ : ∃ m, (red n F.toNat).2 = m := ⟨_, rfl⟩
  rw [hN] at h1 h3 hb ⊢
  rw [hm] at h2 h3 ⊢
  obtain ⟨b0, b1⟩ := bnd2 m (by omega)
  constructor
  · have hg : Int.gcd N (2 ^ m) = 1 := by
      rcases h3 with rfl | h3
      · exact Int.gcd_one_right _
      · exact gcd_odd N m h3
    unfold vld
    rw [hg]
    simp
    omega
  · have e : N * 2 ^ F.toNat = n * 2 ^ m := by
      rw [← h2, Int.pow_add, ← h1, Int.mul_assoc, Int.mul_comm (2 ^ m)]
    rw [e, dval_exact R n _ k6 k7 b0]
    exact nv_same l0 m0 k2 k3 k8
end Go.Proofs.YtikcinkbkakkmaaGreatDoor.Fx


namespace Go.Proofs.YtikcinkbkakkmaaGreatDoor.Fx
open Go.ChangeShapes Go.WideShapes Go.ChangeAt Go.RowKit
open Fr
set_option linter.unusedVariables false
set_option linter.unusedSimpArgs false
theorem rerr (how q r d : Int) (hd : 0 < d) (h0 : -d < r) (h1 : r < d) (m0 : 1 ≤ how) (m1 : how ≤ 4) :
    ∃ k X : Int, Plain.rnd how q r d = q + k ∧ ((k = 0 ∧ X = r) ∨ (k = 1 ∧ X = r - d) ∨ (k = -1 ∧ X = r + d)) ∧ -d < X ∧ X < d ∧ (how = 1 → 0 ≤ X) ∧ (how = 2 → X ≤ 0) ∧ (how = 3 → X = r) ∧
      (how = 4 → -d ≤ 2 * X ∧ 2 * X ≤ d ∧ ((2 * X = d ∨ 2 * X = -d) → (q + k) % 2 = 0)) := by
  unfold Plain.rnd
  (repeat' split)
  all_goals first
    | exact ⟨0, r, by omega, .inl ⟨rfl, rfl⟩, by omega, by omega, by omega, by omega, by omega, by omega⟩
    | exact ⟨1, r - d, by omega, .inr (.inl ⟨rfl, rfl⟩), by omega, by omega, by omega, by omega, by omega, by omega⟩
    | exact ⟨-1, r + d, by omega, .inr (.inr ⟨rfl, rfl⟩), by omega, by omega, by omega, by omega, by omega, by omega⟩
theorem dv_spec (how T d : Int) (hd : 0 < d) (m0 : 1 ≤ how) (m1 : how ≤ 4) :
    ∃ X, Dv.dval how T d * d + X = T ∧ -d < X ∧ X < d ∧ (how = 1 → 0 ≤ X) ∧ (how = 2 → X ≤ 0) ∧ (how = 3 → (0 ≤ T → 0 ≤ X) ∧ (T < 0 → X ≤ 0)) ∧
      (how = 4 → -d ≤ 2 * X ∧ 2 * X ≤ d ∧ ((2 * X = d ∨ 2 * X = -d) → Dv.dval how T d % 2 = 0)) := by
  rw [show Dv.dval how T d = Plain.rnd how (T.tdiv d) (T.tmod d) d from by unfold Dv.dval; rw [if_neg (by omega), if_neg (by omega), if_neg (by omega)]]
  have e := Int.mul_tdiv_add_tmod T d
  obtain ⟨f1, _, _, f4, f5⟩ := Plain.tfacts T d (by omega)
  obtain ⟨k, X, h1, h2, h3, h4, h5, h6, h7, h8⟩ := rerr how (T.tdiv d) (T.tmod d) d hd (by omega) (by omega) m0 m1
  rw [h1]
  have e2 : (T.tdiv d + k) * d = d * T.tdiv d + k * d := by rw [Int.add_mul, Int.mul_comm (T.tdiv d) d]
  refine ⟨X, ?_, h3, h4, h5, h6, fun h => ?_, h8⟩
  · rw [e2]
    rcases h2 with ⟨rfl, rfl⟩ | ⟨rfl, rfl⟩ | ⟨rfl, rfl⟩
    · omega
    · omega
    · omega
  · have := h7 h
    exact ⟨by omega, by omega⟩
theorem dv_mono (how T d T' d' : Int) (hd : 0 < d) (hd' : 0 < d') (m0 : 1 ≤ how) (m1 : how ≤ 4) (h : T * d' ≤ T' * d) : Dv.dval how T d ≤ Dv.dval how T' d' := by
  obtain ⟨X, x1, x2, x3, x4, x5, x6, x7⟩ := dv_spec how T d hd m0 m1
  obtain ⟨Y, y1, y2, y3, y4, y5, y6, y7⟩ := dv_spec how T' d' hd' m0 m1
  generalize Dv.dval how T d = v at *
  generalize Dv.dval how T' d' = v' at *
  have hP : 0 < d * d' := Int.mul_pos hd hd'
  have e1 : T * d' = v * (d * d') + X * d' := by rw [← x1, Int.add_mul, Int.mul_assoc]
  have e2 : T' * d = v' * (d * d') + Y * d := by rw [← y1, Int.add_mul, Int.mul_assoc, Int.mul_comm d' d]
  have a1 : X * d' < d * d' := Int.mul_lt_mul_of_pos_right x3 hd'
  have a2 : -d * d' < X * d' := Int.mul_lt_mul_of_pos_right x2 hd'
  have b1 : Y * d < d' * d := Int.mul_lt_mul_of_pos_right y3 hd
  have b2 : -d' * d < Y * d := Int.mul_lt_mul_of_pos_right y2 hd
  rw [Int.mul_comm d' d] at b1
  rw [Int.neg_mul, Int.mul_comm d' d] at b2
  rw [Int.neg_mul] at a2
  by_cases hle : v ≤ v'
  · exact hle
  · exfalso
    have g := Int.mul_nonneg (a := v - v' - 1) (b := d * d') (by omega) (by omega)
    rw [Int.sub_mul, Int.sub_mul, Int.one_mul] at g
    rcases (by omega : how = 1 ∨ how = 2 ∨ how = 3 ∨ how = 4) with rfl | rfl | rfl | rfl
    · have := Int.mul_nonneg (x4 rfl) (by omega : 0 ≤ d')
      omega
    · have := Int.mul_nonpos_of_nonpos_of_nonneg (y5 rfl) (by omega : 0 ≤ d)
      omega
    · obtain ⟨u1, u2⟩ := x6 rfl
      obtain ⟨w1, w2⟩ := y6 rfl
      by_cases hT : 0 ≤ T
      · have := Int.mul_nonneg (u1 hT) (by omega : 0 ≤ d')
        omega
      · by_cases hT' : 0 ≤ T'
        · have hv : v ≤ 0 := by
            by_cases h0 : v ≤ 0
            · exact h0
            · have := Int.mul_nonneg (a := v - 1) (b := d) (by omega) (by omega)
              rw [Int.sub_mul, Int.one_mul] at this
              omega
          have hv' : 0 ≤ v' := by
            by_cases h0 : 0 ≤ v'
            · exact h0
            · have := Int.mul_nonneg (a := -v' - 1) (b := d') (by omega) (by omega)
              rw [Int.sub_mul, Int.one_mul, Int.neg_mul] at this
              omega
          omega
        · have := Int.mul_nonpos_of_nonpos_of_nonneg (w2 (by omega)) (by omega : 0 ≤ d)
          omega
    · obtain ⟨u1, u2, u3⟩ := x7 rfl
      obtain ⟨w1, w2, w3⟩ := y7 rfl
      have c1 : 2 * Y * d ≤ d' * d := Int.mul_le_mul_of_nonneg_right w2 (by omega)
      have c2 : -d * d' ≤ 2 * X * d' := Int.mul_le_mul_of_nonneg_right u1 (by omega)
      rw [Int.mul_comm d' d, Int.mul_assoc] at c1
      rw [Int.neg_mul, Int.mul_assoc] at c2
      have q1 : 2 * (Y * d) = d * d' := by omega
      have q2 : 2 * (X * d') = -(d * d') := by omega
      have t1 : 2 * Y = d' := by
        have : (2 * Y) * d = d' * d := by rw [Int.mul_assoc, q1, Int.mul_comm]
        exact Int.eq_of_mul_eq_mul_right (by omega) this
      have t2 : 2 * X = -d := by
        have : (2 * X) * d' = (-d) * d' := by rw [Int.mul_assoc, q2, Int.neg_mul]
        exact Int.eq_of_mul_eq_mul_right (by omega) this
      have p1 := u3 (.inr t2)
      have p2 := w3 (.inl t1)
      have g2 := Int.mul_nonneg (a := v - v' - 2) (b := d * d') (by omega) (by omega)
      rw [Int.sub_mul, Int.sub_mul] at g2
      omega
theorem nv_mono (a b B : Int) (h : a ≤ b) (hb : 2 ≤ B) (hb' : B ≤ 31) : Nx.nv a B 1 ≤ Nx.nv b B 1 := by
  obtain ⟨_, h2, _, _⟩ := half_of hb hb'
  have hg : ¬ Nx.nbad B 1 := by unfold Nx.nbad; omega
  unfold Nx.nv
  simp only [if_neg hg, ↓reduceIte]
  (repeat' split) <;> omega
theorem nv_range (a B O : Int) (hb : 2 ≤ B) (hb' : B ≤ 31) (ho : O = 1 ∨ O = 2) : - Nx.half B ≤ Nx.nv a B O ∧ Nx.nv a B O ≤ Nx.half B - 1 := by
  obtain ⟨_, h2, _, h4⟩ := half_of hb hb'
  have hg : ¬ Nx.nbad B O := by unfold Nx.nbad; omega
  have p0 := Int.emod_nonneg (a + Nx.half B) (b := Nx.full B) (by omega)
  have p1 := Int.emod_lt_of_pos (a + Nx.half B) (b := Nx.full B) (by omega)
  unfold Nx.nv
  simp only [if_neg hg]
  (repeat' split) <;> omega
theorem nv_wrap (a B : Int) (hb : 2 ≤ B) (hb' : B ≤ 31) : Nx.nv a B 2 = (a + Nx.half B) % Nx.full B - Nx.half B := by
  obtain ⟨_, h2, _, h4⟩ := half_of hb hb'
  have hg : ¬ Nx.nbad B 2 := by unfold Nx.nbad; omega
  unfold Nx.nv
  simp only [if_neg hg]
  (repeat' split)
  all_goals first
    | omega
    | (rw [Int.emod_eq_of_lt (by omega) (by omega)]; omega)
theorem nv_nv (a c B : Int) (hb : 2 ≤ B) (hb' : B ≤ 31) : Nx.nv (Nx.nv a B 2 + c) B 2 = Nx.nv (a + c) B 2 := by
  rw [nv_wrap a B hb hb', nv_wrap _ B hb hb', nv_wrap (a + c) B hb hb']
  have e : (a + Nx.half B) % Nx.full B - Nx.half B + c + Nx.half B = (a + Nx.half B) % Nx.full B + c := by omega
  rw [e, Int.emod_add_emod]
  have e2 : a + Nx.half B + c = a + c + Nx.half B := by omega
  rw [e2]
theorem fv_nv (K B F R O a : Int) (t : tv K B F R O = true) : fv K B F R O (Nx.nv a B O) 1 = true := by
  obtain ⟨k1, k2, k3, k4, k5, k6, k7, k8⟩ := tv_parts t
  obtain ⟨h0, h1⟩ := nv_range a B O k2 k3 k8
  unfold fv
  rw [t, Bool.true_and]
  exact decide_eq_true ⟨rfl, h0, h1⟩
end Go.Proofs.YtikcinkbkakkmaaGreatDoor.Fx
