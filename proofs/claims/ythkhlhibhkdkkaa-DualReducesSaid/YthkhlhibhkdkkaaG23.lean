/- Cast of package value. -/
import Derived.Test.YthkhlhibhkdkkaaV6
import Derived.Test.YthkhlhibhkdkkaaG16

namespace Go.Proofs.Ythkhlhibhkdkkaa.Va
open Go.ChangeShapes Go.WideShapes Go.ChangeAt Go.RowKit
open Fr Fx
set_option maxRecDepth 8000
set_option linter.unusedVariables false
set_option linter.unusedSimpArgs false
set_option maxRecDepth 8000
set_option maxRecDepth 8000
theorem rat_vld {K B F R O n d : Int} (h : vv K B F R O n d = true) : vld (rat K F n d).1 (rat K F n d).2 = true := by
  obtain ⟨x1, x2, x3, x4, x5⟩ := vv_small h
  unfold rat
  by_cases k2 : K = 2
  · rw [if_pos k2]
    rw [vv_fix k2] at h
    obtain ⟨_, rfl, _⟩ := fv_parts h
    exact (back K B F R O n h).1
  · rw [if_neg k2]
    by_cases k1 : K = 1
    · have ht := vv_ty h
      unfold vv at h
      rw [if_neg k2, ht, if_pos k1] at h
      exact h
    · obtain rfl := x5 k1
      exact vld_one x3 x4
end Go.Proofs.Ythkhlhibhkdkkaa.Va


namespace Go.Proofs.Ythkhlhibhkdkkaa.Va
open Go.ChangeShapes Go.WideShapes Go.ChangeAt Go.RowKit
open Fr Fx
set_option maxRecDepth 8000
set_option linter.unusedVariables false
set_option linter.unusedSimpArgs false
set_option maxRecDepth 8000
set_option maxRecDepth 8000
theorem dval_floor {n d : Int} (hd : 0 < d) (n0 : -9223372036854775808 ≤ n) : Dv.dval 1 n d = n / d ∧ Dv.dval 1 n d = (if n.tmod d < 0 then n.tdiv d - 1 else n.tdiv d) := by
  have e1 : Dv.dval 1 n d = Plain.rnd 1 (n.tdiv d) (n.tmod d) d := by unfold Dv.dval; rw [if_neg (by omega), if_neg (by omega), if_neg (by omega)]
  have F := floor_eq n d hd
  rw [e1]
  unfold Plain.rnd
  by_cases h : n.tmod d < 0
  · obtain ⟨f1, _⟩ := F.1 h
    rw [if_neg (by omega), if_neg (by omega), if_pos rfl, if_neg (by omega), if_pos h]
    exact ⟨f1.symm, rfl⟩
  · obtain ⟨f1, _⟩ := F.2 h
    by_cases h0 : n.tmod d = 0
    · rw [if_pos h0, if_neg h]; exact ⟨f1.symm, rfl⟩
    · rw [if_neg h0, if_neg (by omega), if_pos rfl, if_pos (by omega), if_neg h]; exact ⟨f1.symm, rfl⟩
set_option maxHeartbeats 4000000 in
theorem r_floor (n d : Int) (w : World) (n0 : -4611686020574871552 ≤ n) (n1 : n ≤ 4611686020574871552) (d0 : 1 ≤ d) (d1 : d ≤ 4611686020574871552) :
    Calls Try.prog 69 #[.int .i64 n, .int .i64 d] w fun e w' => e = .returned (.int .i64 (Dv.dval 1 n d)) ∧ w = w' := by
  rw [(dval_floor (by omega) (by omega)).2]
  have F := Plain.tfacts n d (by omega)
  have T := tdiv_bound n d (by omega)
  have E := Int.mul_tdiv_add_tmod n d
  rw [Int.mul_comm] at E
  obtain ⟨q, hq⟩ : ∃ q, n.tdiv d = q := ⟨_, rfl⟩
  obtain ⟨r, hr⟩ : ∃ r, n.tmod d = r := ⟨_, rfl⟩
  rw [hq] at T E ⊢
  rw [hr] at E ⊢
  rw [hq, hr] at F
  obtain ⟨P, hP⟩ : ∃ P, q * d = P := ⟨_, rfl⟩
  rw [hP] at E
  obtain ⟨F1, F2, F3, F4, F5⟩ := F
  have dz : (d == 0) = false := by simp; omega
  have P0 : -4611686020574871552 ≤ P := by omega
  have P1 : P ≤ 4611686020574871552 := by omega
  have q0 : -4611686020574871552 ≤ q := by omega
  have q1 : q ≤ 4611686020574871552 := by omega
  by_cases h : r < 0
  · rw [if_pos h]
    have k : decide (n < P) = true := by simp; omega
    clear F1 F2 F3 F4 F5 E T h hr
    go_enter Try.func69, Try.ntmps69
    go_wp2
    go_ret
    exact ⟨rfl, rfl⟩
  · rw [if_neg h]
    have k : decide (n < P) = false := by simp; omega
    clear F1 F2 F3 F4 F5 E T h hr
    go_enter Try.func69, Try.ntmps69
    go_wp2
    go_ret
    exact ⟨rfl, rfl⟩
set_option maxHeartbeats 8000000 in
theorem r_round (n d how : Int) (w : World) (m0 : 1 ≤ how) (m1 : how ≤ 4) (n0 : -4611686018427387904 ≤ n) (n1 : n ≤ 4611686018427387904) (d0 : 1 ≤ d) (d1 : d ≤ 2305843009213693952) :
    Calls Try.prog 67 #[.int .i64 n, .int .i64 d, .int .i64 how] w fun e w' => e = .returned (.int .i64 (Dv.dval how n d)) ∧ w = w' := by
  have FL := Lib.hid fun w => r_floor n d w (by omega) (by omega) d0 (by omega)
  obtain ⟨Q, hQ⟩ : ∃ Q, Dv.dval 1 n d = Q := ⟨_, rfl⟩
  obtain ⟨X0, X1, HR⟩ := rnd_floor how n d Q (by omega) m0 m1 hQ (by omega)
  have QB : -4611686018427387905 ≤ Q ∧ Q ≤ 4611686018427387904 := by
    have T := tdiv_bound n d (by omega)
    have := (dval_floor (n := n) (d := d) (by omega) (by omega)).2
    rw [hQ] at this
    split at this <;> omega
  rw [hQ] at FL
  have HE := Lib.hid (Plain.even_iff Q)
  obtain ⟨P, hP⟩ : ∃ P, Q * d = P := ⟨_, rfl⟩
  rw [hP] at X0 X1 HR
  obtain ⟨Xn, hX⟩ : ∃ X, n - P = X := ⟨_, rfl⟩
  rw [hX] at X0 X1 HR
  rw [HR]
  obtain ⟨A, hA⟩ : ∃ A, (if Xn = 0 ∨ how = 1 then Q else if how = 2 then Q + 1 else if how = 3 then (if n < 0 then Q + 1 else Q) else if d - Xn < Xn ∨ (Xn = d - Xn ∧ Q % 2 ≠ 0) then Q + 1 else Q) = A := ⟨_, rfl⟩
  rw [hA]
  have HA := Lib.hid hA
  have PB : -9223372036854775808 ≤ P ∧ P ≤ 9223372036854775807 := by omega
  clear hA HR hQ
  obtain ⟨q0, q1⟩ := QB
  obtain ⟨P0, P1⟩ := PB
  obtain ⟨D, hD⟩ : ∃ D, d - Xn = D := ⟨_, rfl⟩
  have hA := HA.out
  clear HA
  by_cases hz : Xn = 0
  · subst hz
    rw [if_pos (Or.inl rfl)] at hA
    subst hA
    clear HE hD
    go_enter Try.func67, Try.ntmps67
    go_wp2_with (first | (go_at_call 69; (with_reducible refine (FL.out _).mono ?_); rintro e w9 ⟨rfl, rfl⟩))
    go_ret
    exact ⟨rfl, rfl⟩
  have z1 : (Xn == 0) = false := by simpa using hz
  rcases (by omega : how = 1 ∨ how = 2 ∨ how = 3 ∨ how = 4) with rfl | rfl | rfl | rfl
  · rw [if_pos (Or.inr rfl)] at hA
    subst hA
    clear HE hD hz
    go_enter Try.func67, Try.ntmps67
    go_wp2_with (first | (go_at_call 69; (with_reducible refine (FL.out _).mono ?_); rintro e w9 ⟨rfl, rfl⟩))
    go_ret
    exact ⟨rfl, rfl⟩
  · rw [if_neg (by omega), if_pos rfl] at hA
    subst hA
    clear HE hD hz
    go_enter Try.func67, Try.ntmps67
    go_wp2_with (first | (go_at_call 69; (with_reducible refine (FL.out _).mono ?_); rintro e w9 ⟨rfl, rfl⟩))
    go_ret
    exact ⟨rfl, rfl⟩
  · rw [if_neg (by omega), if_neg (by omega), if_pos rfl] at hA
    by_cases hn : n < 0
    · rw [if_pos hn] at hA
      have n2 : decide (n < 0) = true := by simpa using hn
      subst hA
      clear HE hD hz hn
      go_enter Try.func67, Try.ntmps67
      go_wp2_with (first | (go_at_call 69; (with_reducible refine (FL.out _).mono ?_); rintro e w9 ⟨rfl, rfl⟩))
      go_ret
      exact ⟨rfl, rfl⟩
    · rw [if_neg hn] at hA
      have n2 : decide (n < 0) = false := by simpa using hn
      subst hA
      clear HE hD hz hn
      go_enter Try.func67, Try.ntmps67
      go_wp2_with (first | (go_at_call 69; (with_reducible refine (FL.out _).mono ?_); rintro e w9 ⟨rfl, rfl⟩))
      go_ret
      exact ⟨rfl, rfl⟩
  · rw [if_neg (by omega), if_neg (by omega), if_neg (by omega)] at hA
    rw [hD] at hA
    by_cases h1 : D < Xn
    · rw [if_pos (Or.inl h1)] at hA
      have k1 : decide (D < Xn) = true := by simpa using h1
      subst hA
      clear HE hz h1
      go_enter Try.func67, Try.ntmps67
      go_wp2_with (first | (go_at_call 69; (with_reducible refine (FL.out _).mono ?_); rintro e w9 ⟨rfl, rfl⟩))
      go_ret
      exact ⟨rfl, rfl⟩
    · have k1 : decide (D < Xn) = false := by simpa using h1
      by_cases h2 : Xn = D
      · subst h2
        by_cases h3 : Q % 2 = 0
        · rw [if_neg (by omega)] at hA
          have k3 : Q.tmod 2 = 0 := HE.out.mpr h3
          subst hA
          clear HE hz h1 h3
          go_enter Try.func67, Try.ntmps67
          go_wp2_with (first | (go_at_call 69; (with_reducible refine (FL.out _).mono ?_); rintro e w9 ⟨rfl, rfl⟩))
          go_ret
          exact ⟨rfl, rfl⟩
        · rw [if_pos (Or.inr ⟨rfl, h3⟩)] at hA
          have k3 : (Q.tmod 2 == 0) = false := by
            cases e : (Q.tmod 2 == 0)
            · rfl
            · exact absurd (HE.out.mp (by simpa using e)) h3
          subst hA
          clear HE hz h1 h3
          go_enter Try.func67, Try.ntmps67
          go_wp2_with (first | (go_at_call 69; (with_reducible refine (FL.out _).mono ?_); rintro e w9 ⟨rfl, rfl⟩))
          go_ret
          exact ⟨rfl, rfl⟩
      · rw [if_neg (by omega)] at hA
        have k2 : (Xn == D) = false := by simpa using h2
        subst hA
        clear HE hz h1 h2
        go_enter Try.func67, Try.ntmps67
        go_wp2_with (first | (go_at_call 69; (with_reducible refine (FL.out _).mono ?_); rintro e w9 ⟨rfl, rfl⟩))
        go_ret
        exact ⟨rfl, rfl⟩
theorem retV {a b : Int} (h : a = b) : Ending.returned (V2 a 1) = .returned (V2 b 1) := by rw [h]
set_option maxHeartbeats 8000000 in
theorem r_fit (K B F R O n : Int) (w : World) (h : tv K B F R O = true) (n0 : -4611686018427387904 ≤ n) (n1 : n ≤ 4611686018427387904) :
    Calls Try.prog 66 #[T5 K B F R O, .int .i64 n] w (Ret (V2 (Nx.nv n B O) 1) w) := by
  obtain ⟨-, h2, h3, -, -, -, -, h8⟩ := tv_parts h
  obtain ⟨H1, H2, H3, H4⟩ := half_of h2 h3
  have hg : ¬ Nx.nbad B O := by unfold Nx.nbad; omega
  have HV : Nx.nv n B O = if n < - Nx.half B then (if O = 1 then - Nx.half B else (n + Nx.half B) % (2 * Nx.half B) - Nx.half B)
      else if Nx.half B - 1 < n then (if O = 1 then Nx.half B - 1 else (n + Nx.half B) % (2 * Nx.half B) - Nx.half B) else n := by
    unfold Nx.nv; rw [if_neg hg, H4]
  rw [HV]
  clear HV hg H4 h
  generalize Nx.half B = H at *
  have g1 : 0 ≤ B - 1 := by omega
  rcases h8 with h8 | h8
  · subst h8
    have o1 : ((1 : Int) == 2) = false := rfl
    simp only [eq_self, if_true]
    obtain ⟨A, hA⟩ : ∃ A, (if n < -H then -H else if H - 1 < n then H - 1 else n) = A := ⟨_, rfl⟩
    rw [hA]
    have HA := Lib.hid hA
    clear hA
    go_enter Try.func66, Try.ntmps66
    go_wp2
    all_goals
      refine bodyPost_ret (v := V2 _ 1) (by simp [results, Try.results66, go_sem]; first | rfl | exact ⟨rfl, rfl⟩) rfl ⟨?_, by go_grown⟩
      refine retV ?_
      have hA := HA.out
      rw [← hA]
      clear hA HA
      (repeat' split) <;> omega
  · subst h8
    have FL := Lib.hid fun w => r_floor (n + H) (2 * H) w (by omega) (by omega) (by omega) (by omega)
    obtain ⟨Q, hQ⟩ : ∃ Q, Dv.dval 1 (n + H) (2 * H) = Q := ⟨_, rfl⟩
    rw [hQ] at FL
    rw [(dval_floor (by omega) (by omega)).1] at hQ
    have E := Int.mul_ediv_add_emod (n + H) (2 * H)
    have X0 := Int.emod_nonneg (n + H) (b := 2 * H) (by omega)
    have X1 := Int.emod_lt_of_pos (n + H) (b := 2 * H) (by omega)
    rw [hQ] at E
    obtain ⟨M, hM⟩ : ∃ M, (n + H) % (2 * H) = M := ⟨_, rfl⟩
    rw [hM] at E X0 X1 ⊢
    obtain ⟨P, hP⟩ : ∃ P, Q * 2 * H = P := ⟨_, rfl⟩
    have E2 : 2 * H * Q = P := by rw [← hP, Int.mul_comm Q 2, Int.mul_assoc, Int.mul_assoc, Int.mul_comm H Q]
    rw [E2] at E
    have hQB : -4611686020574871552 ≤ Q ∧ Q ≤ 4611686020574871552 := by
      rw [← hQ]
      constructor
      · exact Int.le_ediv_of_mul_le (by omega) (by omega)
      · exact Int.ediv_le_of_le_mul (by omega) (by omega)
    obtain ⟨A, hA⟩ : ∃ A, (if n < -H then (if (2 : Int) = 1 then -H else M - H) else if H - 1 < n then (if (2 : Int) = 1 then H - 1 else M - H) else n) = A := ⟨_, rfl⟩
    rw [hA]
    have hM2 : 0 ≤ n + H → n + H < 2 * H → M = n + H := fun a b => by rw [← hM]; exact Int.emod_eq_of_lt a b
    have hA2 : A = M - H := by
      rw [← hA]
      split
      · rfl
      · split
        · rfl
        · have := hM2 (by omega) (by omega)
          omega
    have hA3 : n - P = A := by omega
    have A0 : -H ≤ A := by omega
    have A1 : A ≤ H - 1 := by omega
    obtain ⟨q0, q1⟩ := hQB
    have qb : -4611686020574871552 ≤ Q * 2 ∧ Q * 2 ≤ 4611686020574871552 := by
      constructor
      · by_cases h : -2305843009213693952 ≤ Q
        · omega
        · exfalso
          have := Int.mul_le_mul_of_nonneg_left (show (Q : Int) ≤ -2305843009213693953 by omega) (show 0 ≤ 2 * H by omega)
          omega
      · by_cases h : Q ≤ 2305843009213693951
        · omega
        · exfalso
          have := Int.mul_le_mul_of_nonneg_left (show (2305843009213693952 : Int) ≤ Q by omega) (show 0 ≤ 2 * H by omega)
          omega
    have PB : -9223372036854775808 ≤ P ∧ P ≤ 9223372036854775807 := by omega
    obtain ⟨q2, q3⟩ := qb
    obtain ⟨P0, P1⟩ := PB
    have m1 : min (H - 1) A = A := by omega
    have m2 : max (-H) A = A := by omega
    clear hA hA2 hM2 hM E E2 X0 X1 hQ
    go_enter Try.func66, Try.ntmps66
    go_wp2_with (first | (go_at_call 69; (with_reducible refine (FL.out _).mono ?_); rintro e w9 ⟨rfl, rfl⟩))
    all_goals
      refine bodyPost_ret (v := V2 _ 1) (by simp [results, Try.results66, go_sem]; first | rfl | exact ⟨rfl, rfl⟩) rfl ⟨?_, by go_grown⟩
      refine retV ?_
      omega
end Go.Proofs.Ythkhlhibhkdkkaa.Va


namespace Go.Proofs.Ythkhlhibhkdkkaa.Va
open Go.ChangeShapes Go.WideShapes Go.ChangeAt Go.RowKit
open Fr Fx
set_option maxRecDepth 8000
set_option linter.unusedVariables false
set_option linter.unusedSimpArgs false
set_option maxRecDepth 8000
set_option maxRecDepth 8000
set_option maxHeartbeats 4000000 in
theorem b_ty (K B F R O : Int) (w : World) : Calls Try.prog 39 #[T5 K B F R O] w (Ret (.bool (ty K B F R O)) w) := by
  by_cases hk : K = 2
  · have e : ty K B F R O = tv K B F R O := by
      unfold ty
      rw [decide_eq_false (by omega), Bool.or_false]
    rw [e]
    by_cases h : tv K B F R O = true
    · rw [h]; exact bt_ok K B F R O w h
    · have h' : tv K B F R O = false := by simpa using h
      rw [h']; exact bt_bad K B F R O w h' hk
  · have hT : tv K B F R O = false := by
      unfold tv
      exact decide_eq_false (by omega)
    rw [show ty K B F R O = decide ((K = 1 ∨ K = 3) ∧ B = 0 ∧ F = 0 ∧ R = 0 ∧ O = 0) by unfold ty; rw [hT, Bool.false_or]]
    obtain ⟨r, hr⟩ : ∃ r, decide ((K = 1 ∨ K = 3) ∧ B = 0 ∧ F = 0 ∧ R = 0 ∧ O = 0) = r := ⟨_, rfl⟩
    rw [hr]
    have HR := Lib.hid hr
    have k1 : (K == 2) = false := by simpa using hk
    clear hr hT hk
    go_enter Try.func39, Try.ntmps39
    go_wp2
    all_goals
      go_ret
      refine ⟨retb ?_, by go_grown⟩
      have hr := HR.out
      rw [← hr]
      clear hr HR
      first | (simp_all; done) | (refine Bool.eq_iff_iff.mpr ?_; simp_all)
set_option maxHeartbeats 4000000 in
theorem b_int (n d : Int) (w : World) : Calls Try.prog 40 #[T5 3 0 0 0 0, V2 n d] w (Ret (.bool (decide (d = 1 ∧ -2147483647 ≤ n ∧ n ≤ 2147483647))) w) := by
  obtain ⟨r, hr⟩ : ∃ r, decide (d = 1 ∧ -2147483647 ≤ n ∧ n ≤ 2147483647) = r := ⟨_, rfl⟩
  rw [hr]
  have HR := Lib.hid hr
  clear hr
  go_enter Try.func40, Try.ntmps40
  go_wp2_with fail
  all_goals
    go_ret
    refine ⟨retb ?_, by go_grown⟩
    have hr := HR.out
    rw [← hr]
    clear hr HR
    first | (simp_all; done) | (refine Bool.eq_iff_iff.mpr ?_; simp_all; done) | (refine Bool.eq_iff_iff.mpr ?_; simp_all; omega)
theorem b_vv (K B F R O n d : Int) (w : World) (h : ty K B F R O = true) : Calls Try.prog 40 #[T5 K B F R O, V2 n d] w (Ret (.bool (vv K B F R O n d)) w) := by
  rcases ty_cases K B F R O with ⟨_, ⟨h1, h2⟩ | ⟨h1, rfl, rfl, rfl, rfl, _⟩⟩ | ⟨h3, _⟩
  · rw [vv_fix h1]; exact bvk K B F R O n d w h2
  · rcases h1 with rfl | rfl
    · rw [vv_frac]; exact bval_any n d w
    · rw [vv_int]; exact b_int n d w
  · rw [h] at h3; cases h3

theorem step_any (K B F R O p : Int) (w : World) (f0 : 0 ≤ F) (f1 : F ≤ 30) (hp : (2 : Int) ^ F.toNat = p) (p0 : 1 ≤ p) (p1 : p ≤ 1073741824) : Calls Try.prog 68 #[T5 K B F R O] w (Ret (.int .i64 p) w) := by
  go_enter Try.func68, Try.ntmps68
  go_wp2
  go_ret
  exact ⟨rfl, by go_grown⟩
theorem r_va (K B F R O n d : Int) (w : World) : Calls Try.prog 65 #[T5 K B F R O, V2 n d] w (Ret (.bool (vv K B F R O n d)) w) := by
  have BT := Lib.hid fun w => b_ty K B F R O w
  cases h : ty K B F R O
  · rw [h] at BT
    rw [vv_bad h]
    clear h
    go_enter Try.func65, Try.ntmps65
    go_wp2_with (first | (go_at_call 39; (with_reducible refine (BT.out _).mono ?_); rintro e w1 ⟨rfl, hb1⟩; have hc1 := (bcell hb1).1; have hf1 := (bcell hb1).2; have z1_0 : w.heap.size < w1.heap.size := (by have hzz := hb1.size; (try simp at hzz); omega); have z1_1 : w.heap.size + 1 < w1.heap.size := (by have hzz := hb1.size; (try simp at hzz); omega); have K1 : Below w.heap.size w w1 := Below.trans (b := _) (by (repeat' (first | (with_reducible exact Below.refl _ _) | (with_reducible refine Below.alloc ?_ ?_ _) | (with_reducible refine Below.setCell ?_ ?_ _) | (with_reducible refine below_drewN ?_ _) | (simp; done) | omega | (simp; omega)))) (hb1.mono (by have hzz := hb1.size; (try simp at hzz); first | omega | (simp; done) | (simp; omega)))))
    go_ret
    exact ⟨rfl, K1⟩
  · rw [h] at BT
    have BV := Lib.hid fun w => b_vv K B F R O n d w h
    clear h
    go_enter Try.func65, Try.ntmps65
    go_wp2_with (first | (go_at_call 39; (with_reducible refine (BT.out _).mono ?_); rintro e w1 ⟨rfl, hb1⟩; have hc1 := (bcell hb1).1; have hf1 := (bcell hb1).2; have z1_0 : w.heap.size < w1.heap.size := (by have hzz := hb1.size; (try simp at hzz); omega); have z1_1 : w.heap.size + 1 < w1.heap.size := (by have hzz := hb1.size; (try simp at hzz); omega); have K1 : Below w.heap.size w w1 := Below.trans (b := _) (by (repeat' (first | (with_reducible exact Below.refl _ _) | (with_reducible refine Below.alloc ?_ ?_ _) | (with_reducible refine Below.setCell ?_ ?_ _) | (with_reducible refine below_drewN ?_ _) | (simp; done) | omega | (simp; omega)))) (hb1.mono (by have hzz := hb1.size; (try simp at hzz); first | omega | (simp; done) | (simp; omega)))) | (go_at_call 40; (with_reducible refine (BV.out _).mono ?_); rintro e w2 ⟨rfl, hb2⟩; have hc2 := (bcell hb2).1; have hf2 := (bcell hb2).2; have z2_0 : w.heap.size < w2.heap.size := (by have hzz := hb2.size; (try simp at hzz); omega); have z2_1 : w.heap.size + 1 < w2.heap.size := (by have hzz := hb2.size; (try simp at hzz); omega); have K2 : Below w.heap.size w w2 := Below.trans (b := _) (by (repeat' (first | (with_reducible exact Below.refl _ _) | (with_reducible exact K1) | (with_reducible refine Below.alloc ?_ ?_ _) | (with_reducible refine Below.setCell ?_ ?_ _) | (with_reducible refine below_drewN ?_ _) | (simp; done) | omega | (simp; omega)))) (hb2.mono (by have hzz := hb2.size; (try simp at hzz); first | omega | (simp; done) | (simp; omega)))))
    go_ret
    exact ⟨rfl, K2⟩
end Go.Proofs.Ythkhlhibhkdkkaa.Va
