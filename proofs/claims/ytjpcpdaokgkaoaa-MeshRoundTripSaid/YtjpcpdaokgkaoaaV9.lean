/- Offset. -/
import Derived.Test.YtjpcpdaokgkaoaaV8
namespace Go.Proofs.Ytjpcpdaokgkaoaa.Sh
open Go.ChangeShapes Go.WideShapes Go.ChangeAt Go.RowKit
set_option linter.unusedVariables false

/-- The offset of an index, as long as it lies in the shape. -/
def of : Int → List Int → List Int → Option Int
  | n, z :: zs, x :: xs => if 0 ≤ x ∧ x < z then of (n * z + x) zs xs else none
  | n, _, _ => some n
def oA (zs xs : List Int) : Option Int := if vE zs = 0 ∧ xs.length = zs.length then of 0 zs xs else none
def oE (a : Option Int) : Ending := .returned (.tuple #[.int .i64 (a.getD 0), .bool a.isSome])
theorem of_none {n z x : Int} {zs xs : List Int} (h : ¬ (0 ≤ x ∧ x < z)) : of n (z :: zs) (x :: xs) = none := by
  show (if 0 ≤ x ∧ x < z then of (n * z + x) zs xs else none) = _
  rw [if_neg h]
theorem of_go {n z x : Int} {zs xs : List Int} (h : 0 ≤ x ∧ x < z) : of n (z :: zs) (x :: xs) = of (n * z + x) zs xs := by
  show (if 0 ≤ x ∧ x < z then of (n * z + x) zs xs else none) = _
  rw [if_pos h]
theorem oA_ok {zs xs : List Int} (h : vE zs = 0) (hl : xs.length = zs.length) : oA zs xs = of 0 zs xs := if_pos ⟨h, hl⟩
theorem oA_no {zs xs : List Int} (h : ¬ (vE zs = 0 ∧ xs.length = zs.length)) : oA zs xs = none := if_neg h
/-- One step of the offset keeps within the limit. -/
theorem of_step {S z x P : Int} (hS : 0 ≤ S) (hP : 1 ≤ P) (h : (S + 1) * (P * z) ≤ 4096) (hx : 0 ≤ x) (hxz : x < z) :
    0 ≤ S * z ∧ S * z ≤ 4096 ∧ z ≤ 4096 ∧ (S * z + x + 1) * P ≤ 4096 := by
  have hz : 1 ≤ z := by omega
  have h1 : 0 ≤ S * z := Int.mul_nonneg hS (by omega)
  have h2 : (S + 1) * z = S * z + z := by rw [Int.add_mul, Int.one_mul]
  have h3 : (S + 1) * (P * z) = (S + 1) * z * P := by rw [Int.mul_comm P z, Int.mul_assoc]
  rw [h3, h2] at h
  have h4 : S * z + z ≤ (S * z + z) * P := by
    have := Int.mul_le_mul_of_nonneg_left hP (by omega : 0 ≤ S * z + z)
    omega
  have h5 : (S * z + x + 1) * P ≤ (S * z + z) * P := Int.mul_le_mul_of_nonneg_right (by omega) (by omega)
  exact ⟨h1, by omega, by omega, by omega⟩
theorem oE_none {a : Option Int} (h : a = none) : Ending.returned (.tuple #[.int .i64 0, .bool false]) = oE a := by subst h; rfl
theorem oE_some {a : Option Int} {s : Int} (h : a = some s) : Ending.returned (.tuple #[.int .i64 s, .bool true]) = oE a := by subst h; rfl
set_option maxHeartbeats 4000000 in
theorem c21_ok (p q : Option Addr) (zs xs : List Int) (c d : Nat) (w : World) (RA : Hid (SlI w p zs)) (RB : Hid (SlI w q xs)) (hv : vE zs = 0) (hl : xs.length = zs.length) :
    Calls Try.prog 21 #[.slice p zs.length c, .slice q xs.length d] w fun e w' => e = oE (oA zs xs) ∧ w = w' := by
  obtain ⟨h6, hlow, hP, hS, hD⟩ := valid_of hv
  have C := Lib.hid (c14 p zs c w (by unfold maxLen; omega) RA)
  rw [hv] at C
  rw [oA_ok hv hl]
  obtain ⟨n, hn⟩ : ∃ n, zs.length = n := ⟨_, rfl⟩
  have HN := Lib.hid hn
  have HM : Hid (xs.length = n) := Lib.hid (by omega)
  have hm : xs.length = n := by omega
  rw [hn] at C h6 ⊢
  rw [hm]
  clear hn hm hl hv hP hlow
  have HD := Lib.hid hD
  have S0 : (0 + 1) * sp (zs.drop 0) ≤ 4096 := by simpa using hS
  have HS0 := Lib.hid S0
  clear hD hS S0
  go_enter Try.func21, Try.ntmps21
  go_wp2_with (go_at_call 14; refine (C.out).mono ?_; rintro e w' ⟨rfl, rfl⟩)
  go_loop [6, 21] (fun s i => ∃ (k : Nat) (S : Int), s = .int .i64 S ∧ i = .int .i64 k ∧ k ≤ n ∧ 0 ≤ S ∧ S ≤ 4096 ∧ Hid ((S + 1) * sp (zs.drop k) ≤ 4096) ∧ Hid (of 0 zs xs = of S (zs.drop k) (xs.drop k))) (fun _ i => n - (intOf i).toNat)
  case atStart => exact ⟨0, 0, rfl, rfl, by omega, by omega, by omega, HS0, Lib.hid rfl⟩
  case round =>
    obtain ⟨k, S, rfl, rfl, hk, s0, s1, hB, hO⟩ := hrel
    by_cases hlt : k < n
    · obtain ⟨b, o, rfl, hc⟩ := RA.out k (by rw [HN.out]; exact hlt)
      obtain ⟨b', o', rfl, hc'⟩ := RB.out k (by rw [HM.out]; exact hlt)
      have dz := drop_cons (zs := zs) (k := k) (by rw [HN.out]; exact hlt)
      have dx := drop_cons (zs := xs) (k := k) (by rw [HM.out]; exact hlt)
      obtain ⟨z, hz⟩ : ∃ z, zs.getD k 0 = z := ⟨_, rfl⟩
      obtain ⟨x, hx⟩ : ∃ x, xs.getD k 0 = x := ⟨_, rfl⟩
      rw [hz] at hc dz
      rw [hx] at hc' dx
      have DZ := Lib.hid dz
      have DX := Lib.hid dx
      clear dz dx hz hx
      have b0 : (0 : Int) ≤ k := by omega
      have b1 : (k : Int) < n := by omega
      by_cases x0 : x < 0
      · have k1 : decide (x < 0) = true := by simpa using x0
        have e : of 0 zs xs = none := by rw [hO.out, DZ.out, DX.out]; exact of_none (by omega)
        have HE := Lib.hid e
        clear e x0
        go_wp2
        refine bodyPost_ret (v := .tuple #[.int .i64 0, .bool false]) (by simp [results, Try.results21, go_sem]) rfl ⟨oE_none HE.out, rfl⟩
      · have k1 : decide (x < 0) = false := by simpa using x0
        by_cases x1 : z ≤ x
        · have k2 : decide (z ≤ x) = true := by simpa using x1
          have e : of 0 zs xs = none := by rw [hO.out, DZ.out, DX.out]; exact of_none (by omega)
          have HE := Lib.hid e
          clear e x0 x1
          go_wp2
          refine bodyPost_ret (v := .tuple #[.int .i64 0, .bool false]) (by simp [results, Try.results21, go_sem]) rfl ⟨oE_none HE.out, rfl⟩
        · have k2 : decide (z ≤ x) = false := by simpa using x1
          have hP1 := (HD.out (k + 1)).1
          have hB2 := hB.out
          rw [DZ.out] at hB2
          change (S + 1) * (sp (zs.drop (k + 1)) * z) ≤ 4096 at hB2
          obtain ⟨t0, t1, t2, hB3⟩ := of_step (x := x) s0 hP1 hB2 (by omega) (by omega)
          have hO2 : Hid (of 0 zs xs = of (S * z + x) (zs.drop (k + 1)) (xs.drop (k + 1))) := Lib.hid (by rw [hO.out, DZ.out, DX.out, of_go (by omega)])
          have hB4 := Lib.hid hB3
          have t3 : S * z + x ≤ 4096 := by
            have := Int.mul_le_mul_of_nonneg_left hP1 (by omega : 0 ≤ S * z + x + 1)
            omega
          obtain ⟨T, hT⟩ : ∃ T, S * z = T := ⟨_, rfl⟩
          rw [hT] at t0 t1 t3 hO2 hB4
          clear hB2 hB3 hP1 hB hO
          have x0' : 0 ≤ x := by omega
          have x1' : x < z := by omega
          go_wp2
          go_round
          case rel => exact ⟨k + 1, T + x, rfl, by go_num, by omega, by omega, by omega, hB4, hO2⟩
          case measure => simp [intOf]; omega
    · have e : of 0 zs xs = some S := by
        have h := hO.out
        rw [List.drop_of_length_le (by rw [HN.out]; omega), List.drop_of_length_le (by rw [HM.out]; omega)] at h
        exact h
      have HE := Lib.hid e
      clear e
      go_wp2
      refine bodyPost_ret (v := .tuple #[.int .i64 S, .bool true]) (by simp [results, Try.results21, go_sem]) rfl ⟨oE_some HE.out, rfl⟩
set_option maxHeartbeats 4000000 in
theorem c21_bad (p q : Option Addr) (zs xs : List Int) (c d : Nat) (w : World) (hn : zs.length ≤ maxLen) (RA : Hid (SlI w p zs)) (hv : ¬ (vE zs = 0 ∧ xs.length = zs.length)) :
    Calls Try.prog 21 #[.slice p zs.length c, .slice q xs.length d] w fun e w' => e = oE (oA zs xs) ∧ w = w' := by
  have C := Lib.hid (c14 p zs c w hn RA)
  rw [oA_no hv]
  obtain ⟨t, ht⟩ : ∃ t, (vE zs != 0) = t := ⟨_, rfl⟩
  cases t
  · have h0 : vE zs = 0 := by simpa using ht
    have hl : ¬ xs.length = zs.length := fun h => hv ⟨h0, h⟩
    have k1 : ((xs.length : Int) != zs.length) = true := by simp <;> omega
    have k2 : (xs.length != zs.length) = true := by simpa using hl
    have k3 : (xs.length == zs.length) = false := by simpa using hl
    generalize vE zs = e at *
    clear hl hv h0
    go_enter Try.func21, Try.ntmps21
    go_wp2_with (go_at_call 14; refine (C.out).mono ?_; rintro e w' ⟨rfl, rfl⟩)
    refine bodyPost_ret (v := .tuple #[.int .i64 0, .bool false]) (by simp [results, Try.results21, go_sem]) rfl ⟨rfl, rfl⟩
  · clear hv
    generalize vE zs = e at *
    go_enter Try.func21, Try.ntmps21
    go_wp2_with (go_at_call 14; refine (C.out).mono ?_; rintro e w' ⟨rfl, rfl⟩)
    refine bodyPost_ret (v := .tuple #[.int .i64 0, .bool false]) (by simp [results, Try.results21, go_sem]) rfl ⟨rfl, rfl⟩
theorem c21 (p q : Option Addr) (zs xs : List Int) (c d : Nat) (w : World) (hn : zs.length ≤ maxLen) (RA : Hid (SlI w p zs)) (RB : Hid (SlI w q xs)) :
    Calls Try.prog 21 #[.slice p zs.length c, .slice q xs.length d] w fun e w' => e = oE (oA zs xs) ∧ w = w' := by
  by_cases h : vE zs = 0 ∧ xs.length = zs.length
  · exact c21_ok p q zs xs c d w RA RB h.1 h.2
  · exact c21_bad p q zs xs c d w hn RA h
end Go.Proofs.Ytjpcpdaokgkaoaa.Sh
