/- The walks of the statements on the rounding error, on monotony and on the group laws, for every input. -/
import Derived.Test.YtaagegiehjpgiaaFxN
import Derived.Test.YtaagegiehjpgiaaFxG
import Derived.Test.YtaagegiehjpgiaaFxY
namespace Go.Proofs.Ytaagegiehjpgiaa.Fx
open Go.ChangeShapes Go.WideShapes Go.ChangeAt Go.RowKit
set_option linter.unusedVariables false

open Fr
theorem walk_er (K B F R O n d : Int) (w : World) (hK : -9223372036854775808 ≤ K ∧ K ≤ 9223372036854775807) (hB : -9223372036854775808 ≤ B ∧ B ≤ 9223372036854775807) (hF : -9223372036854775808 ≤ F ∧ F ≤ 9223372036854775807) (hR : -9223372036854775808 ≤ R ∧ R ≤ 9223372036854775807) (hO : -9223372036854775808 ≤ O ∧ O ≤ 9223372036854775807) (hn : -9223372036854775808 ≤ n ∧ n ≤ 9223372036854775807) (hd : -9223372036854775808 ≤ d ∧ d ≤ 9223372036854775807) : Calls Try.prog 7 #[T5 K B F R O, V2 n d] w (Ret (.bool true) w) := by
  have EX := Lib.hid examples_true
  have FR := Lib.hid fun w => frac_any n d w
  by_cases t : tv K B F R O = true
  · obtain ⟨k1, k2, k3, k4, k5, k6, k7, k8⟩ := tv_parts t
    have VT := Lib.hid fun w => rvt_ok K B F R O w t
    by_cases v : vld n d = true
    · rw [v] at FR
      obtain ⟨e1, e2, e3, e4, _⟩ := vld_parts v
      have FF := (ff_ok2 K B F R O n d t v).1
      obtain ⟨p0, p1⟩ := two_pow F k4 k5
      obtain ⟨hH, H0, H1, _⟩ := half_of k2 k3
      obtain ⟨p, hp⟩ : ∃ p, (2 : Int) ^ F.toNat = p := ⟨_, rfl⟩
      rw [hp] at p0 p1 FF
      obtain ⟨s0, s1⟩ := pb n p (by omega) (by omega)
      obtain ⟨T, hT⟩ : ∃ T, n * p = T := ⟨_, rfl⟩
      rw [hT] at s0 s1 FF
      have D1 := Lib.hid fun w => rd_any 1 T d w (by omega) (by omega) (by omega) (by omega) e1 (by omega)
      have D2 := Lib.hid fun w => rd_any 2 T d w (by omega) (by omega) (by omega) (by omega) e1 (by omega)
      obtain ⟨X, x1, x2, x3, x4, x5, x6, x7⟩ := dv_spec R T d (by omega) k6 k7
      obtain ⟨X1, u1, u2, u3, u4, _⟩ := dv_spec 1 T d (by omega) (by omega) (by omega)
      obtain ⟨X2, w1, w2, w3, _, w5, _⟩ := dv_spec 2 T d (by omega) (by omega) (by omega)
      have hlo : Dv.dval 1 T d ≤ Dv.dval R T d := by
        have := u4 rfl
        generalize Dv.dval 1 T d = lo at *
        generalize Dv.dval R T d = q at *
        by_cases h : lo ≤ q
        · exact h
        · have := Int.mul_nonneg (a := lo - q - 1) (b := d) (by omega) (by omega)
          rw [Int.sub_mul, Int.sub_mul, Int.one_mul] at this
          omega
      have hhi : Dv.dval R T d ≤ Dv.dval 2 T d := by
        have := w5 rfl
        generalize Dv.dval 2 T d = hi at *
        generalize Dv.dval R T d = q at *
        by_cases h : q ≤ hi
        · exact h
        · have := Int.mul_nonneg (a := q - hi - 1) (b := d) (by omega) (by omega)
          rw [Int.sub_mul, Int.sub_mul, Int.one_mul] at this
          omega
      generalize Dv.dval 1 T d = lo at *
      generalize Dv.dval 2 T d = hi at *
      generalize hq : Dv.dval R T d = q at *
      by_cases c1 : lo < - Nx.half B
      · exact er_lo K B F R O n d p T _ lo hi w hp p0 p1 k4 k5 hT (by omega) (by omega) hH H0 H1 k2 k3 (by simpa using c1) VT FR D1 D2 EX
      · by_cases c2 : Nx.half B ≤ hi
        · exact er_hi K B F R O n d p T _ lo hi w hp p0 p1 k4 k5 hT (by omega) (by omega) hH H0 H1 k2 k3 (by simpa using c1) (by simpa using c2) VT FR D1 D2 EX
        · rw [nv_same (by omega) (by omega) k2 k3 k8] at FF
          obtain ⟨s, hs⟩ : ∃ s, q * d = s := ⟨_, rfl⟩
          rw [hs] at x1
          by_cases c3 : s - T < 0
          · refine er_neg K B F R O n d p T _ lo hi q w hp p0 p1 k4 k5 hT (by omega) (by omega) hH H0 H1 k2 k3 (by simpa using c1) (by simpa using c2) s hs (by omega) (by omega) (by omega) (by omega) e1 e2 (by simpa using hlo) (by simpa using hhi) (by simpa using c3) (by simp; omega) ?_ VT FR D1 D2 (Lib.hid FF) EX
            by_cases c4 : R = 4
            · have := x7 c4; exact .inr (by simp; omega)
            · exact .inl (by simpa using c4)
          · refine er_pos K B F R O n d p T _ lo hi q w hp p0 p1 k4 k5 hT (by omega) (by omega) hH H0 H1 k2 k3 (by simpa using c1) (by simpa using c2) s hs (by omega) (by omega) (by omega) (by omega) e1 e2 (by simpa using hlo) (by simpa using hhi) (by simpa using c3) (by simp; omega) ?_ VT FR D1 D2 (Lib.hid FF) EX
            by_cases c4 : R = 4
            · have := x7 c4; exact .inr (by simp; omega)
            · exact .inl (by simpa using c4)
    · rw [show vld n d = false by simpa using v] at FR
      exact er_fr K B F R O n d w VT FR EX
  · exact er_tv K B F R O n d w (Lib.hid fun w => rvt_bad K B F R O w (by simpa using t)) EX
theorem walk_mo (K B F R O n0 d0 n1 d1 : Int) (w : World) (hK : -9223372036854775808 ≤ K ∧ K ≤ 9223372036854775807) (hB : -9223372036854775808 ≤ B ∧ B ≤ 9223372036854775807) (hF : -9223372036854775808 ≤ F ∧ F ≤ 9223372036854775807) (hR : -9223372036854775808 ≤ R ∧ R ≤ 9223372036854775807) (hO : -9223372036854775808 ≤ O ∧ O ≤ 9223372036854775807) (hn0 : -9223372036854775808 ≤ n0 ∧ n0 ≤ 9223372036854775807) (hd0 : -9223372036854775808 ≤ d0 ∧ d0 ≤ 9223372036854775807) (hn1 : -9223372036854775808 ≤ n1 ∧ n1 ≤ 9223372036854775807) (hd1 : -9223372036854775808 ≤ d1 ∧ d1 ≤ 9223372036854775807) : Calls Try.prog 8 #[T5 K B F R O, V2 n0 d0, V2 n1 d1] w (Ret (.bool true) w) := by
  have EX := Lib.hid examples_true
  have FRa := Lib.hid fun w => frac_any n0 d0 w
  have FRb := Lib.hid fun w => frac_any n1 d1 w
  by_cases t : tv K B F R O = true
  · obtain ⟨k1, k2, k3, k4, k5, k6, k7, k8⟩ := tv_parts t
    have VT := Lib.hid fun w => rvt_ok K B F R O w t
    by_cases ho : O = 1
    · subst ho
      by_cases v0 : vld n0 d0 = true
      · rw [v0] at FRa
        by_cases v1 : vld n1 d1 = true
        · rw [v1] at FRb
          obtain ⟨e1, e2, e3, e4, _⟩ := vld_parts v0
          obtain ⟨g1, g2, g3, g4, _⟩ := vld_parts v1
          obtain ⟨p0, p1⟩ := two_pow F k4 k5
          have FFa := (ff_ok2 K B F R 1 n0 d0 t v0).1
          have FFb := (ff_ok2 K B F R 1 n1 d1 t v1).1
          have b0 : -4611686018427387904 ≤ n0 * d1 ∧ n0 * d1 ≤ 4611686018427387904 := by
            have h := Int.natAbs_mul n0 d1
            have h2 := Nat.mul_le_mul (show n0.natAbs ≤ 2147483647 by omega) (show d1.natAbs ≤ 2147483647 by omega)
            omega
          have b1 : -4611686018427387904 ≤ n1 * d0 ∧ n1 * d0 ≤ 4611686018427387904 := by
            have h := Int.natAbs_mul n1 d0
            have h2 := Nat.mul_le_mul (show n1.natAbs ≤ 2147483647 by omega) (show d0.natAbs ≤ 2147483647 by omega)
            omega
          have sw : ∀ (a c : Int), (a * 2 ^ F.toNat) * c = (a * c) * 2 ^ F.toNat := fun a c => by rw [Int.mul_assoc, Int.mul_comm _ c, Int.mul_assoc]
          by_cases hc : n1 * d0 < n0 * d1
          · have hm := dv_mono R (n1 * 2 ^ F.toNat) d1 (n0 * 2 ^ F.toNat) d0 (by omega) (by omega) k6 k7 (by rw [sw, sw]; exact Int.mul_le_mul_of_nonneg_right (by omega) (by omega))
            have hn := nv_mono _ _ B hm k2 k3
            exact mo_sw K B F R 1 n0 d0 n1 d1 _ _ w _ _ rfl rfl b0.1 b0.2 b1.1 b1.2 (by simpa using hc) (by simpa using hn) rfl VT FRa FRb (Lib.hid FFa) (Lib.hid FFb) EX
          · have hm := dv_mono R (n0 * 2 ^ F.toNat) d0 (n1 * 2 ^ F.toNat) d1 (by omega) (by omega) k6 k7 (by rw [sw, sw]; exact Int.mul_le_mul_of_nonneg_right (by omega) (by omega))
            have hn := nv_mono _ _ B hm k2 k3
            exact mo_ok K B F R 1 n0 d0 n1 d1 _ _ w _ _ rfl rfl b0.1 b0.2 b1.1 b1.2 (by simpa using hc) (by simpa using hn) rfl VT FRa FRb (Lib.hid FFa) (Lib.hid FFb) EX
        · rw [show vld n1 d1 = false by simpa using v1] at FRb
          exact mo_b K B F R 1 n0 d0 n1 d1 w rfl VT FRa FRb EX
      · rw [show vld n0 d0 = false by simpa using v0] at FRa
        exact mo_a K B F R 1 n0 d0 n1 d1 w rfl VT FRa EX
    · exact mo_ov K B F R O n0 d0 n1 d1 w (by simpa using ho) VT EX
  · exact mo_tv K B F R O n0 d0 n1 d1 w (Lib.hid fun w => rvt_bad K B F R O w (by simpa using t)) EX
theorem walk_gr (K B F R O n0 d0 n1 d1 n2 d2 : Int) (w : World) (hK : -9223372036854775808 ≤ K ∧ K ≤ 9223372036854775807) (hB : -9223372036854775808 ≤ B ∧ B ≤ 9223372036854775807) (hF : -9223372036854775808 ≤ F ∧ F ≤ 9223372036854775807) (hR : -9223372036854775808 ≤ R ∧ R ≤ 9223372036854775807) (hO : -9223372036854775808 ≤ O ∧ O ≤ 9223372036854775807) (hn0 : -9223372036854775808 ≤ n0 ∧ n0 ≤ 9223372036854775807) (hd0 : -9223372036854775808 ≤ d0 ∧ d0 ≤ 9223372036854775807) (hn1 : -9223372036854775808 ≤ n1 ∧ n1 ≤ 9223372036854775807) (hd1 : -9223372036854775808 ≤ d1 ∧ d1 ≤ 9223372036854775807) (hn2 : -9223372036854775808 ≤ n2 ∧ n2 ≤ 9223372036854775807) (hd2 : -9223372036854775808 ≤ d2 ∧ d2 ≤ 9223372036854775807) : Calls Try.prog 9 #[T5 K B F R O, V2 n0 d0, V2 n1 d1, V2 n2 d2] w (Ret (.bool true) w) := by
  have EX := Lib.hid examples_true
  have V0 := Lib.hid fun w => rval K B F R O n0 d0 w
  have V1 := Lib.hid fun w => rval K B F R O n1 d1 w
  have V2 := Lib.hid fun w => rval K B F R O n2 d2 w
  by_cases c0 : fv K B F R O n0 d0 = true
  · rw [c0] at V0
    by_cases c1 : fv K B F R O n1 d1 = true
    · rw [c1] at V1
      by_cases c2 : fv K B F R O n2 d2 = true
      · rw [c2] at V2
        obtain ⟨t, rfl, l0, m0, _⟩ := fv_parts c0
        obtain ⟨_, rfl, _⟩ := fv_parts c1
        obtain ⟨_, rfl, _⟩ := fv_parts c2
        obtain ⟨k1, k2, k3, k4, k5, k6, k7, k8⟩ := tv_parts t
        have S1 := (add_ok2 K B F R O n0 1 n1 1 c0 c1).1
        have S2 := (add_ok2 K B F R O n1 1 n0 1 c1 c0).1
        have M1 := (mul_ok2 K B F R O n0 1 n1 1 c0 c1).1
        have M2 := (mul_ok2 K B F R O n1 1 n0 1 c1 c0).1
        rw [Int.add_comm n1 n0] at S2
        rw [Int.mul_comm n1 n0] at M2
        by_cases ho : O = 2
        · subst ho
          have cs := fv_nv K B F R 2 (n0 + n1) t
          have cb := fv_nv K B F R 2 (n1 + n2) t
          have L1 := (add_ok2 K B F R 2 _ 1 n2 1 cs c2).1
          have B1 := (add_ok2 K B F R 2 n1 1 n2 1 c1 c2).1
          have R1 := (add_ok2 K B F R 2 n0 1 _ 1 c0 cb).1
          have Z1 := (sub_ok2 K B F R 2 _ 1 n1 1 cs c1).1
          rw [nv_nv (n0 + n1) n2 B k2 k3] at L1
          rw [Int.add_comm n0, nv_nv (n1 + n2) n0 B k2 k3, show n1 + n2 + n0 = n0 + n1 + n2 by omega] at R1
          rw [Int.sub_eq_add_neg, nv_nv (n0 + n1) (-n1) B k2 k3, show n0 + n1 + -n1 = n0 by omega, nv_same l0 m0 k2 k3 k8] at Z1
          exact gr_wrap K B F R 2 n0 1 n1 1 n2 1 _ _ _ _ w rfl V0 V1 V2 (Lib.hid S1) (Lib.hid S2) (Lib.hid M1) (Lib.hid M2) (Lib.hid L1) (Lib.hid B1) (Lib.hid R1) (Lib.hid Z1) EX
        · exact gr_sat K B F R O n0 1 n1 1 n2 1 _ _ w (by simpa using ho) V0 V1 V2 (Lib.hid S1) (Lib.hid S2) (Lib.hid M1) (Lib.hid M2) EX
      · rw [show fv K B F R O n2 d2 = false by simpa using c2] at V2
        exact gr_2 K B F R O n0 d0 n1 d1 n2 d2 w V0 V1 V2 EX
    · rw [show fv K B F R O n1 d1 = false by simpa using c1] at V1
      exact gr_1 K B F R O n0 d0 n1 d1 n2 d2 w V0 V1 EX
  · rw [show fv K B F R O n0 d0 = false by simpa using c0] at V0
    exact gr_0 K B F R O n0 d0 n1 d1 n2 d2 w V0 EX
end Go.Proofs.Ytaagegiehjpgiaa.Fx
