/- The law on rounding. -/
import Derived.Test.YtikcinkbkakkmaaDoorV20
import Derived.Test.YtikcinkbkakkmaaDoorGJ
import Derived.Test.YtikcinkbkakkmaaDoorFlo

namespace Go.Proofs.YtikcinkbkakkmaaDoor.Va
open Go.ChangeShapes Go.WideShapes Go.ChangeAt Go.RowKit
open Fr Fx

set_option linter.unusedVariables false
set_option linter.unusedSimpArgs false
set_option maxRecDepth 100000 in
set_option maxHeartbeats 16000000 in
theorem re_k (K B F R O n d : Int) (w : World) (k2 : (K != 2) = true) (EX : Hid (∀ w, Calls Tryd.prog 15 #[] w (Ret (.bool true) w))) :
    Calls Tryd.prog 6 #[T5 K B F R O, V2 n d] w (Ret (.bool true) w) := by
  go_enter Tryd.func6, Tryd.ntmps6
  go_wp2_with fail
  refine (EX.out _).mono ?_
  rintro e w1 ⟨rfl, hb⟩
  have L : Below w.heap.size w w1 := ((((Below.refl _ _).alloc (by simp <;> omega) _).alloc (by simp <;> omega) _).alloc (by simp <;> omega) _).trans (hb.mono (by simp <;> omega))
  have K1 : Below w.heap.size w w1 := L
  have lt : w.heap.size < w1.heap.size := Nat.lt_of_lt_of_le (by simp <;> omega) hb.size
  have t0 : w1.cell? ⟨w.heap.size, 0, none⟩ = some (.int .i64 K) := Rg.keep hb (by simp <;> omega) (by go_cell)
  have t1 : w1.cell? ⟨w.heap.size, 1, none⟩ = some (.int .i64 B) := Rg.keep hb (by simp <;> omega) (by go_cell)
  have t2 : w1.cell? ⟨w.heap.size, 2, none⟩ = some (.int .i64 F) := Rg.keep hb (by simp <;> omega) (by go_cell)
  have t3 : w1.cell? ⟨w.heap.size, 3, none⟩ = some (.int .i64 R) := Rg.keep hb (by simp <;> omega) (by go_cell)
  have t4 : w1.cell? ⟨w.heap.size, 4, none⟩ = some (.int .i64 O) := Rg.keep hb (by simp <;> omega) (by go_cell)
  have lv : w.heap.size + 1 < w1.heap.size := Nat.lt_of_lt_of_le (by simp <;> omega) hb.size
  have v0 : w1.cell? ⟨w.heap.size + 1, 0, none⟩ = some (.int .i64 n) := Rg.keep hb (by simp <;> omega) (by go_cell)
  have v1 : w1.cell? ⟨w.heap.size + 1, 1, none⟩ = some (.int .i64 d) := Rg.keep hb (by simp <;> omega) (by go_cell)
  have lx : w.heap.size + 1 + 1 < w1.heap.size := Nat.lt_of_lt_of_le (by simp <;> omega) hb.size
  have x0 : w1.cell? ⟨w.heap.size + 1 + 1, 0, none⟩ = some (.int .i64 1) := Rg.keep hb (by simp <;> omega) (by go_cell)
  have x1 : w1.cell? ⟨w.heap.size + 1 + 1, 1, none⟩ = some (.int .i64 0) := Rg.keep hb (by simp <;> omega) (by go_cell)
  have x2 : w1.cell? ⟨w.heap.size + 1 + 1, 2, none⟩ = some (.int .i64 0) := Rg.keep hb (by simp <;> omega) (by go_cell)
  have x3 : w1.cell? ⟨w.heap.size + 1 + 1, 3, none⟩ = some (.int .i64 0) := Rg.keep hb (by simp <;> omega) (by go_cell)
  have x4 : w1.cell? ⟨w.heap.size + 1 + 1, 4, none⟩ = some (.int .i64 0) := Rg.keep hb (by simp <;> omega) (by go_cell)
  clear hb L
  go_wp2
  go_ret
  exact ⟨rfl, K1⟩
set_option maxRecDepth 100000 in
set_option maxHeartbeats 16000000 in
theorem re_t (K B F R O n d : Int) (w : World) (k2 : (K != 2) = false) (VT : Hid (∀ w, Calls Tryd.prog 9 #[T5 K B F R O] w (Ret (.int .i64 10) w))) (EX : Hid (∀ w, Calls Tryd.prog 15 #[] w (Ret (.bool true) w))) :
    Calls Tryd.prog 6 #[T5 K B F R O, V2 n d] w (Ret (.bool true) w) := by
  go_enter Tryd.func6, Tryd.ntmps6
  go_wp2_with fail
  refine (VT.out _).mono ?_
  rintro e w1 ⟨rfl, hb⟩
  have L : Below w.heap.size w w1 := ((((Below.refl _ _).alloc (by simp <;> omega) _).alloc (by simp <;> omega) _).alloc (by simp <;> omega) _).trans (hb.mono (by simp <;> omega))
  have K1 : Below w.heap.size w w1 := L
  have lt : w.heap.size < w1.heap.size := Nat.lt_of_lt_of_le (by simp <;> omega) hb.size
  have t0 : w1.cell? ⟨w.heap.size, 0, none⟩ = some (.int .i64 K) := Rg.keep hb (by simp <;> omega) (by go_cell)
  have t1 : w1.cell? ⟨w.heap.size, 1, none⟩ = some (.int .i64 B) := Rg.keep hb (by simp <;> omega) (by go_cell)
  have t2 : w1.cell? ⟨w.heap.size, 2, none⟩ = some (.int .i64 F) := Rg.keep hb (by simp <;> omega) (by go_cell)
  have t3 : w1.cell? ⟨w.heap.size, 3, none⟩ = some (.int .i64 R) := Rg.keep hb (by simp <;> omega) (by go_cell)
  have t4 : w1.cell? ⟨w.heap.size, 4, none⟩ = some (.int .i64 O) := Rg.keep hb (by simp <;> omega) (by go_cell)
  have lv : w.heap.size + 1 < w1.heap.size := Nat.lt_of_lt_of_le (by simp <;> omega) hb.size
  have v0 : w1.cell? ⟨w.heap.size + 1, 0, none⟩ = some (.int .i64 n) := Rg.keep hb (by simp <;> omega) (by go_cell)
  have v1 : w1.cell? ⟨w.heap.size + 1, 1, none⟩ = some (.int .i64 d) := Rg.keep hb (by simp <;> omega) (by go_cell)
  have lx : w.heap.size + 1 + 1 < w1.heap.size := Nat.lt_of_lt_of_le (by simp <;> omega) hb.size
  have x0 : w1.cell? ⟨w.heap.size + 1 + 1, 0, none⟩ = some (.int .i64 1) := Rg.keep hb (by simp <;> omega) (by go_cell)
  have x1 : w1.cell? ⟨w.heap.size + 1 + 1, 1, none⟩ = some (.int .i64 0) := Rg.keep hb (by simp <;> omega) (by go_cell)
  have x2 : w1.cell? ⟨w.heap.size + 1 + 1, 2, none⟩ = some (.int .i64 0) := Rg.keep hb (by simp <;> omega) (by go_cell)
  have x3 : w1.cell? ⟨w.heap.size + 1 + 1, 3, none⟩ = some (.int .i64 0) := Rg.keep hb (by simp <;> omega) (by go_cell)
  have x4 : w1.cell? ⟨w.heap.size + 1 + 1, 4, none⟩ = some (.int .i64 0) := Rg.keep hb (by simp <;> omega) (by go_cell)
  clear hb L
  go_wp2_with fail
  refine (EX.out _).mono ?_
  rintro e w2 ⟨rfl, hb⟩
  have L : Below w1.heap.size w1 w2 := (Below.refl _ _).trans (hb.mono (by simp <;> omega))
  have K2 : Below w.heap.size w w2 := K1.trans (L.mono K1.size)
  have t0 := Rg.keep L lt t0
  have t1 := Rg.keep L lt t1
  have t2 := Rg.keep L lt t2
  have t3 := Rg.keep L lt t3
  have t4 := Rg.keep L lt t4
  have v0 := Rg.keep L lv v0
  have v1 := Rg.keep L lv v1
  have x0 := Rg.keep L lx x0
  have x1 := Rg.keep L lx x1
  have x2 := Rg.keep L lx x2
  have x3 := Rg.keep L lx x3
  have x4 := Rg.keep L lx x4
  have lt := Nat.lt_of_lt_of_le lt L.size
  have lv := Nat.lt_of_lt_of_le lv L.size
  have lx := Nat.lt_of_lt_of_le lx L.size
  clear hb L
  go_wp2
  go_ret
  exact ⟨rfl, K2⟩
set_option maxRecDepth 100000 in
set_option maxHeartbeats 16000000 in
theorem re_v (K B F R O n d : Int) (w : World) (k2 : (K != 2) = false) (VT : Hid (∀ w, Calls Tryd.prog 9 #[T5 K B F R O] w (Ret (.int .i64 0) w))) (VA : Hid (∀ w, Calls Tryd.prog 11 #[T5 1 0 0 0 0, V2 n d] w (Ret (.bool false) w))) (EX : Hid (∀ w, Calls Tryd.prog 15 #[] w (Ret (.bool true) w))) :
    Calls Tryd.prog 6 #[T5 K B F R O, V2 n d] w (Ret (.bool true) w) := by
  go_enter Tryd.func6, Tryd.ntmps6
  go_wp2_with fail
  refine (VT.out _).mono ?_
  rintro e w1 ⟨rfl, hb⟩
  have L : Below w.heap.size w w1 := ((((Below.refl _ _).alloc (by simp <;> omega) _).alloc (by simp <;> omega) _).alloc (by simp <;> omega) _).trans (hb.mono (by simp <;> omega))
  have K1 : Below w.heap.size w w1 := L
  have lt : w.heap.size < w1.heap.size := Nat.lt_of_lt_of_le (by simp <;> omega) hb.size
  have t0 : w1.cell? ⟨w.heap.size, 0, none⟩ = some (.int .i64 K) := Rg.keep hb (by simp <;> omega) (by go_cell)
  have t1 : w1.cell? ⟨w.heap.size, 1, none⟩ = some (.int .i64 B) := Rg.keep hb (by simp <;> omega) (by go_cell)
  have t2 : w1.cell? ⟨w.heap.size, 2, none⟩ = some (.int .i64 F) := Rg.keep hb (by simp <;> omega) (by go_cell)
  have t3 : w1.cell? ⟨w.heap.size, 3, none⟩ = some (.int .i64 R) := Rg.keep hb (by simp <;> omega) (by go_cell)
  have t4 : w1.cell? ⟨w.heap.size, 4, none⟩ = some (.int .i64 O) := Rg.keep hb (by simp <;> omega) (by go_cell)
  have lv : w.heap.size + 1 < w1.heap.size := Nat.lt_of_lt_of_le (by simp <;> omega) hb.size
  have v0 : w1.cell? ⟨w.heap.size + 1, 0, none⟩ = some (.int .i64 n) := Rg.keep hb (by simp <;> omega) (by go_cell)
  have v1 : w1.cell? ⟨w.heap.size + 1, 1, none⟩ = some (.int .i64 d) := Rg.keep hb (by simp <;> omega) (by go_cell)
  have lx : w.heap.size + 1 + 1 < w1.heap.size := Nat.lt_of_lt_of_le (by simp <;> omega) hb.size
  have x0 : w1.cell? ⟨w.heap.size + 1 + 1, 0, none⟩ = some (.int .i64 1) := Rg.keep hb (by simp <;> omega) (by go_cell)
  have x1 : w1.cell? ⟨w.heap.size + 1 + 1, 1, none⟩ = some (.int .i64 0) := Rg.keep hb (by simp <;> omega) (by go_cell)
  have x2 : w1.cell? ⟨w.heap.size + 1 + 1, 2, none⟩ = some (.int .i64 0) := Rg.keep hb (by simp <;> omega) (by go_cell)
  have x3 : w1.cell? ⟨w.heap.size + 1 + 1, 3, none⟩ = some (.int .i64 0) := Rg.keep hb (by simp <;> omega) (by go_cell)
  have x4 : w1.cell? ⟨w.heap.size + 1 + 1, 4, none⟩ = some (.int .i64 0) := Rg.keep hb (by simp <;> omega) (by go_cell)
  clear hb L
  go_wp2_with fail
  refine (VA.out _).mono ?_
  rintro e w2 ⟨rfl, hb⟩
  have L : Below w1.heap.size w1 w2 := (Below.refl _ _).trans (hb.mono (by simp <;> omega))
  have K2 : Below w.heap.size w w2 := K1.trans (L.mono K1.size)
  have t0 := Rg.keep L lt t0
  have t1 := Rg.keep L lt t1
  have t2 := Rg.keep L lt t2
  have t3 := Rg.keep L lt t3
  have t4 := Rg.keep L lt t4
  have v0 := Rg.keep L lv v0
  have v1 := Rg.keep L lv v1
  have x0 := Rg.keep L lx x0
  have x1 := Rg.keep L lx x1
  have x2 := Rg.keep L lx x2
  have x3 := Rg.keep L lx x3
  have x4 := Rg.keep L lx x4
  have lt := Nat.lt_of_lt_of_le lt L.size
  have lv := Nat.lt_of_lt_of_le lv L.size
  have lx := Nat.lt_of_lt_of_le lx L.size
  clear hb L
  go_wp2_with fail
  refine (EX.out _).mono ?_
  rintro e w3 ⟨rfl, hb⟩
  have L : Below w2.heap.size w2 w3 := (Below.refl _ _).trans (hb.mono (by simp <;> omega))
  have K3 : Below w.heap.size w w3 := K2.trans (L.mono K2.size)
  have t0 := Rg.keep L lt t0
  have t1 := Rg.keep L lt t1
  have t2 := Rg.keep L lt t2
  have t3 := Rg.keep L lt t3
  have t4 := Rg.keep L lt t4
  have v0 := Rg.keep L lv v0
  have v1 := Rg.keep L lv v1
  have x0 := Rg.keep L lx x0
  have x1 := Rg.keep L lx x1
  have x2 := Rg.keep L lx x2
  have x3 := Rg.keep L lx x3
  have x4 := Rg.keep L lx x4
  have lt := Nat.lt_of_lt_of_le lt L.size
  have lv := Nat.lt_of_lt_of_le lv L.size
  have lx := Nat.lt_of_lt_of_le lx L.size
  clear hb L
  go_wp2
  go_ret
  exact ⟨rfl, K3⟩

theorem nv_in {n B O : Int} (hb : 2 ≤ B) (hb' : B ≤ 31) : -2147483648 ≤ Nx.nv n B O ∧ Nx.nv n B O ≤ 2147483648 := by
  obtain ⟨hH, H0, H1, hF⟩ := half_of hb hb'
  unfold Nx.nv
  have m0 := Int.emod_nonneg (n + Nx.half B) (b := Nx.full B) (by omega)
  have m1 := Int.emod_lt_of_pos (n + Nx.half B) (b := Nx.full B) (by omega)
  generalize (n + Nx.half B) % Nx.full B = m at *
  by_cases h : Nx.nbad B O
  · rw [if_pos h]; omega
  · rw [if_neg h]
    by_cases h1 : n < - Nx.half B
    · rw [if_pos h1]
      by_cases ho : O = 1
      · rw [if_pos ho]; omega
      · rw [if_neg ho]; omega
    · rw [if_neg h1]
      by_cases h2 : Nx.half B - 1 < n
      · rw [if_pos h2]
        by_cases ho : O = 1
        · rw [if_pos ho]; omega
        · rw [if_neg ho]; omega
      · rw [if_neg h2]; omega
theorem sat_in {q B H N : Int} (hb : 2 ≤ B) (hb' : B ≤ 31) (hH : Nx.half B = H) (hN : Nx.nv q B 1 = N) (b1 : N ≠ -H) (b2 : N ≠ H - 1) : -H ≤ q ∧ q ≤ H - 1 := by
  have hg : ¬ Nx.nbad B 1 := by unfold Nx.nbad; omega
  unfold Nx.nv at hN
  rw [if_neg hg, hH] at hN
  by_cases h1 : q < -H
  · rw [if_pos h1, if_pos rfl] at hN; omega
  · rw [if_neg h1] at hN
    by_cases h2 : H - 1 < q
    · rw [if_pos h2, if_pos rfl] at hN; omega
    · omega
theorem wrap_in {n d p H F B R : Int} (f0 : 0 ≤ F) (f1 : F < B) (hp : (2 : Int) ^ F.toNat = p) (p0 : 1 ≤ p) (hH : (2 : Int) ^ (B.toNat - 1) = H) (H0 : 2 ≤ H) (hd : 1 ≤ d) (r0 : 1 ≤ R) (r1 : R ≤ 4)
    (h7 : -H / p ≤ n / d) (h8 : -((-n) / d) ≤ (H - 1) / p) : -H ≤ Dv.dval R (n * p) d ∧ Dv.dval R (n * p) d ≤ H - 1 := by
  obtain ⟨m, hm⟩ : ∃ m : Int, H = p * m := by
    refine ⟨2 ^ (B.toNat - 1 - F.toNat), ?_⟩
    rw [← hH, ← hp, ← Int.pow_add]
    congr 1
    omega
  have e1 : -H / p = -m := by
    rw [hm, ← Int.mul_neg]
    exact Int.mul_ediv_cancel_left _ (by omega)
  have e2 : (H - 1) / p = m - 1 := by
    rw [hm]
    have := (Int.ediv_emod_unique (a := p * m - 1) (b := p) (r := p - 1) (q := m - 1) (by omega)).mpr ⟨by rw [Int.mul_sub]; omega, by omega, by omega⟩
    exact this.1
  rw [e1] at h7
  rw [e2] at h8
  have a1 : -m * d ≤ n := by
    have := Int.mul_le_mul_of_nonneg_right h7 (by omega : 0 ≤ d)
    have := Int.ediv_mul_le n (b := d) (by omega)
    omega
  have a2 : n ≤ (m - 1) * d := by
    have k := Int.ediv_mul_le (-n) (b := d) (by omega)
    have := Int.mul_le_mul_of_nonneg_right h8 (by omega : 0 ≤ d)
    rw [Int.neg_mul] at this
    omega
  have b1 := Int.mul_le_mul_of_nonneg_right a1 (by omega : 0 ≤ p)
  have b2 := Int.mul_le_mul_of_nonneg_right a2 (by omega : 0 ≤ p)
  have c1 : -m * d * p = -H * d := by rw [hm, Int.neg_mul, Int.neg_mul, Int.neg_mul]; simp only [Int.mul_comm, Int.mul_left_comm]
  have c2 : (m - 1) * d * p ≤ (H - 1) * d := by
    have g : (m - 1) * d * p = (H - p) * d := by
      rw [hm, Int.sub_mul, Int.sub_mul, Int.sub_mul, Int.one_mul]
      simp only [Int.mul_comm, Int.mul_left_comm]
    rw [g]
    exact Int.mul_le_mul_of_nonneg_right (by omega) (by omega)
  rw [c1] at b1
  have d1 := dv_mono R (-H * d) d (n * p) d (by omega) (by omega) r0 r1 (Int.mul_le_mul_of_nonneg_right b1 (by omega))
  have d2 := dv_mono R (n * p) d ((H - 1) * d) d (by omega) (by omega) r0 r1 (Int.mul_le_mul_of_nonneg_right (by omega) (by omega))
  rw [dval_exact R (-H) d r0 r1 hd] at d1
  rw [dval_exact R (H - 1) d r0 r1 hd] at d2
  exact ⟨d1, d2⟩
theorem near {q d T R : Int} (hd : 1 ≤ d) (r0 : 1 ≤ R) (r1 : R ≤ 4) (hq : Dv.dval R T d = q) : (q - 1) * d < T ∧ T < (q + 1) * d := by
  obtain ⟨X, x1, x2, x3, _⟩ := dv_spec R T d (by omega) r0 r1
  rw [hq] at x1
  rw [Int.sub_mul, Int.add_mul, Int.one_mul]
  omega
theorem small_prod {N d : Int} (N0 : -2147483649 ≤ N) (N1 : N ≤ 2147483649) (d0 : 1 ≤ d) (d1 : d ≤ 2147483647) : -9223372036854775808 ≤ N * d ∧ N * d ≤ 9223372036854775807 := by
  have h := Int.natAbs_mul N d
  have h2 := Nat.mul_le_mul (show N.natAbs ≤ 2147483649 by omega) (show d.natAbs ≤ 2147483647 by omega)
  omega
set_option maxHeartbeats 4000000 in
theorem law_re (K B F R O n d : Int) (w : World) (b0 : -9223372036854775808 ≤ B) (b1 : B ≤ 9223372036854775807) :
    Calls Tryd.prog 6 #[T5 K B F R O, V2 n d] w (Ret (.bool true) w) := by
  have EX := Lib.hid fun w => examples_true w
  by_cases hk : K = 2
  · have k2 : (K != 2) = false := by simpa using hk
    cases ht : ty K B F R O
    · exact re_t K B F R O n d w k2 (Lib.hid fun w => vtF ht w) EX
    · have VT := Lib.hid fun w => vtT ht w
      have hv0 := c_va 1 0 0 0 0 n d
      rw [show vv 1 0 0 0 0 n d = vld n d from vv_frac n d] at hv0
      cases hv : vld n d
      · rw [hv] at hv0
        exact re_v K B F R O n d w k2 VT (Lib.hid fun w => hv0 w (by decide) (by decide)) EX
      · rw [hv] at hv0
        have VA := Lib.hid fun w => hv0 w (by decide) (by decide)
        have htv : tv K B F R O = true := by
          rcases ty_cases K B F R O with ⟨_, h | h⟩ | ⟨h, _⟩
          · exact h.2
          · omega
          · rw [h] at ht; cases ht
        obtain ⟨k1, k2', k3, k4, k5, k6, k7, k8⟩ := tv_parts htv
        obtain ⟨d0, d1, n0, n1, _⟩ := vld_parts hv
        obtain ⟨p0, p1⟩ := two_pow F k4 k5
        obtain ⟨hH, H0, H1, _⟩ := half_of k2' k3
        have CA := Lib.hid fun w => c_cast 1 0 0 0 0 K B F R O n d w (by decide) (by decide) b0 b1
        have hca : cav 1 0 0 0 0 K B F R O n d = (Nx.nv (Dv.dval R (n * 2 ^ F.toNat) d) B O, 1, 0) := by
          unfold cav
          rw [if_neg (by rw [ht, ty_frac]; decide), vv_frac, if_neg (by rw [hv]; decide), if_neg (by omega), if_pos hk]
          rfl
        rw [hca] at CA
        have hni := nv_in (n := Dv.dval R (n * 2 ^ F.toNat) d) (O := O) k2' k3
        have hFL := fun w => floor_any n d w
        have hCE := fun w => ceil_any n d w
        rw [show flo n d = n / d by unfold flo; rw [hv]; rfl] at hFL
        rw [show cei n d = -((-n) / d) by unfold cei; rw [hv]; rfl] at hCE
        have FL := Lib.hid hFL
        have CE := Lib.hid hCE
        obtain ⟨p, hp⟩ : ∃ p, (2 : Int) ^ F.toNat = p := ⟨_, rfl⟩
        rw [hp] at p0 p1 CA hni
        obtain ⟨H, hHH⟩ : ∃ H, Nx.half B = H := ⟨_, rfl⟩
        rw [hHH] at hH H0 H1
        obtain ⟨q, hq⟩ : ∃ q, Dv.dval R (n * p) d = q := ⟨_, rfl⟩
        rw [hq] at CA hni
        obtain ⟨N, hN⟩ : ∃ N, Nx.nv q B O = N := ⟨_, rfl⟩
        rw [hN] at CA hni
        obtain ⟨N0, N1⟩ := hni
        obtain ⟨Q, hQ⟩ : ∃ Q, 2147483647 / p = Q := ⟨_, rfl⟩
        have Q0 : 1 ≤ Q := by rw [← hQ]; exact (Int.le_ediv_iff_mul_le (by omega)).mpr (by omega)
        have Q1 : Q ≤ 2147483647 := by rw [← hQ]; exact Int.ediv_le_self _ (by omega)
        by_cases c1 : N = -H
        · exact re_b1 K B F R O n d N p H 0 Q 0 0 0 0 0 0 w k2 hp p0 p1 k4 k5 hH H0 H1 k2' k3 hQ Q0 Q1 N0 N1 d0 d1 n0 n1 VT VA CA EX (by simpa using c1)
        · by_cases c2 : N = H - 1
          · exact re_b2 K B F R O n d N p H 0 Q 0 0 0 0 0 0 w k2 hp p0 p1 k4 k5 hH H0 H1 k2' k3 hQ Q0 Q1 N0 N1 d0 d1 n0 n1 VT VA CA EX (by simpa using c1) (by simpa using c2)
          · have g1 : (N == -H) = false := by simpa using c1
            have g2 : (N == H - 1) = false := by simpa using c2
            by_cases c3 : Q < n
            · exact re_b3 K B F R O n d N p H 0 Q 0 0 0 0 0 0 w k2 hp p0 p1 k4 k5 hH H0 H1 k2' k3 hQ Q0 Q1 N0 N1 d0 d1 n0 n1 VT VA CA EX g1 g2 c3
            · by_cases c4 : n < -Q
              · exact re_b4 K B F R O n d N p H 0 Q 0 0 0 0 0 0 w k2 hp p0 p1 k4 k5 hH H0 H1 k2' k3 hQ Q0 Q1 N0 N1 d0 d1 n0 n1 VT VA CA EX g1 g2 (by omega) c4
              · have hQp : Q * p ≤ 2147483647 := by rw [← hQ]; exact Int.ediv_mul_le _ (by omega)
                have T1 : n * p ≤ 2147483647 := Int.le_trans (Int.mul_le_mul_of_nonneg_right (by omega : n ≤ Q) (by omega)) hQp
                have T0 : -2147483647 ≤ n * p := by
                  have := Int.mul_le_mul_of_nonneg_right (by omega : -Q ≤ n) (by omega : 0 ≤ p)
                  rw [Int.neg_mul] at this
                  omega
                obtain ⟨T, hT⟩ : ∃ T, n * p = T := ⟨_, rfl⟩
                rw [hT] at T0 T1
                obtain ⟨S1, hS1⟩ : ∃ S, -H / p = S := ⟨_, rfl⟩
                obtain ⟨S2, hS2⟩ : ∃ S, (H - 1) / p = S := ⟨_, rfl⟩
                have s0 : -2147483648 ≤ S1 := by rw [← hS1]; exact (Int.le_ediv_iff_mul_le (by omega)).mpr (by omega)
                have s1 : S1 ≤ 2147483648 := by rw [← hS1]; exact Int.le_trans (Int.ediv_le_ediv (by omega) (show -H ≤ 0 by omega)) (by rw [Int.zero_ediv]; omega)
                have s2 : -2147483648 ≤ S2 := by rw [← hS2]; exact (Int.le_ediv_iff_mul_le (by omega)).mpr (by omega)
                have s3 : S2 ≤ 2147483648 := by rw [← hS2]; exact Int.le_trans (Int.ediv_le_self _ (by omega)) (by omega)
                have P1 := small_prod (N := N - 1) (by omega) (by omega) d0 d1
                have P2 := small_prod (N := N + 1) (by omega) (by omega) d0 d1
                have fin : (-H ≤ q ∧ q ≤ H - 1) → (N - 1) * d < T ∧ T < (N + 1) * d := by
                  rintro ⟨u1, u2⟩
                  have : N = q := by rw [← hN]; exact nv_same (by omega) (by omega) k2' k3 k8
                  rw [this]
                  exact near d0 k6 k7 (by rw [← hT]; exact hq)
                by_cases c5 : O = 2
                · by_cases c6 : B ≤ F
                  · exact re_w1 K B F R O n d N p H T Q S1 S2 (n / d) (-((-n) / d)) 0 0 w k2 hp p0 p1 k4 k5 hH H0 H1 k2' k3 hQ Q0 Q1 N0 N1 d0 d1 n0 n1 VT VA CA EX FL CE g1 g2 (by omega) (by omega) hT T0 T1 hS1 hS2 s0 s1 s2 s3 (by simpa using c5) (by simpa using c6)
                  · by_cases c7 : n / d < S1
                    · exact re_w2 K B F R O n d N p H T Q S1 S2 (n / d) (-((-n) / d)) 0 0 w k2 hp p0 p1 k4 k5 hH H0 H1 k2' k3 hQ Q0 Q1 N0 N1 d0 d1 n0 n1 VT VA CA EX FL CE g1 g2 (by omega) (by omega) hT T0 T1 hS1 hS2 s0 s1 s2 s3 (by simpa using c5) (by simpa using c6) (by simpa using c7)
                    · by_cases c8 : S2 < -((-n) / d)
                      · exact re_w3 K B F R O n d N p H T Q S1 S2 (n / d) (-((-n) / d)) 0 0 w k2 hp p0 p1 k4 k5 hH H0 H1 k2' k3 hQ Q0 Q1 N0 N1 d0 d1 n0 n1 VT VA CA EX FL CE g1 g2 (by omega) (by omega) hT T0 T1 hS1 hS2 s0 s1 s2 s3 (by simpa using c5) (by simpa using c6) (by simpa using c7) (by simpa using c8)
                      · have u := fin (by rw [← hq]; exact wrap_in k4 (by omega) hp p0 hH H0 d0 k6 k7 (by rw [hS1]; omega) (by rw [hS2]; omega))
                        exact re_c1 K B F R O n d N p H T Q S1 S2 (n / d) (-((-n) / d)) _ _ w k2 hp p0 p1 k4 k5 hH H0 H1 k2' k3 hQ Q0 Q1 N0 N1 d0 d1 n0 n1 VT VA CA EX FL CE g1 g2 (by omega) (by omega) hT T0 T1 hS1 hS2 s0 s1 s2 s3 rfl rfl P1.1 P1.2 P2.1 P2.2 u.1 u.2 (by simpa using c5) (by simpa using c6) (by simpa using c7) (by simpa using c8)
                · obtain rfl : O = 1 := by omega
                  have u := fin (sat_in k2' k3 hHH hN c1 c2)
                  exact re_c0 K B F R 1 n d N p H T Q S1 S2 (n / d) (-((-n) / d)) _ _ w k2 hp p0 p1 k4 k5 hH H0 H1 k2' k3 hQ Q0 Q1 N0 N1 d0 d1 n0 n1 VT VA CA EX FL CE g1 g2 (by omega) (by omega) hT T0 T1 hS1 hS2 s0 s1 s2 s3 rfl rfl P1.1 P1.2 P2.1 P2.2 u.1 u.2 (by decide)
  · exact re_k K B F R O n d w (by simpa using hk) EX
end Go.Proofs.YtikcinkbkakkmaaDoor.Va
