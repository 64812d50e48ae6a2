/- A valid mesh; Validate of package mesh and of the reference. -/
import Derived.Test.YtjpcpdaokgkaoaaV14
namespace Go.Proofs.Ytjpcpdaokgkaoaa.Sh
open Go.ChangeShapes Go.WideShapes Go.ChangeAt Go.RowKit
set_option linter.unusedVariables false

/-- A valid mesh. -/
def mok (zs : List Int) : Bool := decide (1 ≤ zs.length ∧ zs.length ≤ 3) && (!zs.any low && decide (sp zs ≤ 16))
def mV (zs : List Int) : Int := if mok zs = true then 0 else 23
theorem mok_iff {zs : List Int} : mok zs = true ↔ (1 ≤ zs.length ∧ zs.length ≤ 3) ∧ zs.any low = false ∧ sp zs ≤ 16 := by
  unfold mok
  simp
theorem mV_ok {zs : List Int} (h : mok zs = true) : mV zs = 0 := if_pos h
theorem mV_no {zs : List Int} (h : ¬ mok zs = true) : mV zs = 23 := if_neg h
theorem mok_big {zs : List Int} {k : Nat} {S z : Int} (hk : k < zs.length) (hz : zs.getD k 0 = z) (s0 : 1 ≤ S) (hS : S * sp (zs.drop k) = sp zs) (hb : 16 < S * z) : ¬ mok zs = true := by
  intro h
  obtain ⟨_, hl, hs⟩ := mok_iff.1 h
  have h1 := sp_pos (any_drop hl (k + 1))
  rw [drop_cons hk, hz] at hS
  change S * (sp (zs.drop (k + 1)) * z) = sp zs at hS
  rw [Int.mul_comm (sp _) z, ← Int.mul_assoc] at hS
  have := Int.mul_le_mul_of_nonneg_left h1 (by omega : 0 ≤ S * z)
  omega
theorem mok_low {zs : List Int} {k : Nat} (hk : k < zs.length) (hz : zs.getD k 0 < 1) : ¬ mok zs = true := by
  intro h
  obtain ⟨_, hl, hs⟩ := mok_iff.1 h
  have := pos_of hl hk
  omega
theorem mok_mul {zs : List Int} {k : Nat} {S z : Int} (hk : k < zs.length) (hz : zs.getD k 0 = z) (hS : S * sp (zs.drop k) = sp zs) : S * z * sp (zs.drop (k + 1)) = sp zs := by
  rw [← hS, drop_cons hk, hz]
  change _ = S * (sp (zs.drop (k + 1)) * z)
  rw [Int.mul_comm (sp _) z, ← Int.mul_assoc]
theorem mok_end {zs : List Int} {k : Nat} {S : Int} (hk : k = zs.length) (h13 : 1 ≤ zs.length ∧ zs.length ≤ 3) (hL : ∀ j, j < k → low (zs.getD j 0) = false) (hS : S * sp (zs.drop k) = sp zs) (h : S ≤ 16) : mok zs = true := by
  refine mok_iff.2 ⟨h13, any_take hL hk, ?_⟩
  rw [List.drop_of_length_le (by omega)] at hS
  change S * 1 = sp zs at hS
  omega
theorem mok_over {zs : List Int} {k : Nat} {S : Int} (hk : k = zs.length) (hS : S * sp (zs.drop k) = sp zs) (h : 16 < S) : ¬ mok zs = true := by
  intro h2
  obtain ⟨_, hl, hs⟩ := mok_iff.1 h2
  rw [List.drop_of_length_le (by omega)] at hS
  change S * 1 = sp zs at hS
  omega
theorem quo16 (s z : Int) (hs : 1 ≤ s) : 16 / s < z ↔ 16 < s * z := by
  constructor
  · intro h
    have h1 := Int.lt_mul_of_ediv_lt (by omega : 0 < s) h
    rw [Int.mul_comm] at h1
    exact h1
  · intro h
    rw [Int.mul_comm] at h
    exact Int.ediv_lt_of_lt_mul (by omega : 0 < s) h
/-- Beside what was there, the call has made memory. -/
def NB (v : Value) (w : World) (e : Ending) (w' : World) : Prop := e = .returned v ∧ Below w.heap.size w w'
theorem low_step {zs : List Int} {k : Nat} {z : Int} (hL : ∀ j, j < k → low (zs.getD j 0) = false) (hz : zs.getD k 0 = z) (h : 1 ≤ z) : ∀ j, j < k + 1 → low (zs.getD j 0) = false := fun j hj => by
  rcases (by omega : j < k ∨ j = k) with h' | rfl
  · exact hL j h'
  · rw [hz]; exact decide_eq_false (by omega)
set_option maxHeartbeats 4000000 in
theorem c37 (p : Option Addr) (zs : List Int) (c : Nat) (w : World) (hn : zs.length ≤ maxLen) (RA : Hid (SlI w p zs)) :
    Calls Try.prog 37 #[.agg #[.slice p zs.length c]] w (Ret (.int .i64 (mV zs)) w) := by
  unfold maxLen at hn
  by_cases h1 : zs.length < 1
  · have e : mV zs = 23 := mV_no fun h => by have := (mok_iff.1 h).1; omega
    have k1 : decide ((zs.length : Int) < 1) = true := decide_eq_true (by omega)
    have k2 : decide (zs.length < 1) = true := decide_eq_true (by omega)
    rw [e]
    clear e
    go_enter Try.func37, Try.ntmps37
    go_wp2
    go_ret
    exact ⟨rfl, (Below.refl _ _).alloc (Nat.le_refl _) _⟩
  · by_cases h3 : 3 < zs.length
    · have e : mV zs = 23 := mV_no fun h => by have := (mok_iff.1 h).1; omega
      have k1 : decide ((zs.length : Int) < 1) = false := decide_eq_false (by omega)
      have k2 : decide (zs.length < 1) = false := decide_eq_false (by omega)
      have k3 : decide (3 < (zs.length : Int)) = true := decide_eq_true (by omega)
      have k4 : decide (3 < zs.length) = true := decide_eq_true (by omega)
      rw [e]
      clear e
      go_enter Try.func37, Try.ntmps37
      go_wp2
      go_ret
      exact ⟨rfl, (Below.refl _ _).alloc (Nat.le_refl _) _⟩
    · have k1 : decide ((zs.length : Int) < 1) = false := decide_eq_false (by omega)
      have k2 : decide (zs.length < 1) = false := decide_eq_false (by omega)
      have k3 : decide (3 < (zs.length : Int)) = false := decide_eq_false (by omega)
      have k4 : decide (3 < zs.length) = false := decide_eq_false (by omega)
      have k5 : (zs.length == 0) = false := beq_false_of_ne (by omega)
      obtain ⟨V, hV⟩ : ∃ V, mV zs = V := ⟨_, rfl⟩
      rw [hV]
      have HV := Lib.hid hV
      have H13 : Hid (1 ≤ zs.length ∧ zs.length ≤ 3) := Lib.hid ⟨by omega, by omega⟩
      have hlen : zs.length ≤ 3 := by omega
      clear hV h1 h3
      go_enter Try.func37, Try.ntmps37
      go_wp2
      go_loopw [3, 18] (fun s i wr => ∃ (k : Nat) (S : Int) (m : Nat), wr = (w.alloc (Obj.cells #[Value.slice p zs.length c] 41)).drewN m ∧ s = .int .i64 S ∧ i = .int .i64 k ∧ k ≤ zs.length ∧ 1 ≤ S ∧ S ≤ 16 ∧ Hid (∀ j, j < k → low (zs.getD j 0) = false) ∧ Hid (S * sp (zs.drop k) = sp zs)) (fun _ i _ => zs.length - (intOf i).toNat)
      case atStart => exact ⟨0, 1, 0, rfl, rfl, rfl, by omega, by omega, by omega, Lib.hid fun j hj => by omega, Lib.hid (by rw [Int.one_mul]; rfl)⟩
      case round =>
        obtain ⟨k, S, m, rfl, rfl, rfl, hk, s0, s1, hL, hS⟩ := hrel
        have sz : (S == 0) = false := beq_false_of_ne (by omega)
        by_cases hlt : k < zs.length
        · obtain ⟨b, o, rfl, hc⟩ := RA.out k hlt
          have hb : b < w.heap.size := by have := World.block_lt_of_cell? w _ hc; simpa using this
          have hc := Rg.keep' ((Below.refl _ _).alloc (Nat.le_refl _) (Obj.cells #[Value.slice (some ⟨b, o, none⟩) zs.length c] 41)) hb hc
          obtain ⟨z, hz⟩ : ∃ z, zs.getD k 0 = z := ⟨_, rfl⟩
          rw [hz] at hc
          have i0 : (0 : Int) ≤ k := by omega
          have i1 : (k : Int) < zs.length := by omega
          by_cases hz1 : z < 1
          · have e : V = 23 := by rw [← HV.out]; exact mV_no (mok_low hlt (by omega))
            have HE := Lib.hid e
            have q1 : decide (z < 1) = true := decide_eq_true hz1
            clear e hz hz1
            go_wp2
            go_quiet (fail)
            go_wp2
            go_ret
            exact ⟨ret_int HE.out.symm, by (repeat refine below_drewN ?_ _); exact (Below.refl _ _).alloc (Nat.le_refl _) _⟩
          · have q1 : decide (z < 1) = false := decide_eq_false hz1
            have hq := quo16 S z s0
            obtain ⟨q, hQ⟩ : ∃ q, 16 / S = q := ⟨_, rfl⟩
            rw [hQ] at hq
            obtain ⟨T, hT⟩ : ∃ T, S * z = T := ⟨_, rfl⟩
            have hmul := mok_mul hlt hz hS.out
            have HB : Hid (16 < S * z → ¬ mok zs = true) := Lib.hid (mok_big hlt hz s0 hS.out)
            have HL2 := Lib.hid (low_step hL.out hz (by omega))
            have t0 : 0 < T := by rw [← hT]; exact Int.mul_pos (by omega) (by omega)
            rw [hT] at hmul hq HB
            have HM := Lib.hid hmul
            clear hz hmul hL hS
            by_cases hb : 16 < T
            · have k1 : decide (q < z) = true := decide_eq_true (by omega)
              have e : V = 23 := by rw [← HV.out]; exact mV_no (HB.out hb)
              have HE := Lib.hid e
              clear e hq hT hz1
              go_wp2
              go_quiet (fail)
              go_wp2
              go_ret
              exact ⟨ret_int HE.out.symm, by (repeat refine below_drewN ?_ _); exact (Below.refl _ _).alloc (Nat.le_refl _) _⟩
            · have k1 : decide (q < z) = false := decide_eq_false (by omega)
              have t1 : T ≤ 16 := by omega
              clear hq hz1 hb
              go_wp2
              go_quiet (fail)
              go_wp2
              go_roundw
              case rel => exact ⟨k + 1, T, m + nq, by first | rfl | rw [World.drewN_drewN], rfl, by go_num, by omega, by omega, by omega, HL2, HM⟩
              case measure => simp [intOf]; omega
        · have e : V = 0 := by rw [← HV.out]; exact mV_ok (mok_end (k := k) (by omega) H13.out hL.out hS.out s1)
          have HE := Lib.hid e
          clear e
          go_wp2
          go_ret
          exact ⟨ret_int HE.out.symm, by (repeat refine below_drewN ?_ _); exact (Below.refl _ _).alloc (Nat.le_refl _) _⟩
set_option maxHeartbeats 4000000 in
theorem c38 (p : Option Addr) (zs : List Int) (c : Nat) (w : World) (hn : zs.length ≤ maxLen) (RA : Hid (SlI w p zs)) :
    Calls Try.prog 38 #[.agg #[.slice p zs.length c]] w (Ret (.int .i64 (mV zs)) w) := by
  unfold maxLen at hn
  by_cases h1 : zs.length < 1
  · have e : mV zs = 23 := mV_no fun h => by have := (mok_iff.1 h).1; omega
    have k1 : decide ((zs.length : Int) < 1) = true := decide_eq_true (by omega)
    have k2 : decide (zs.length < 1) = true := decide_eq_true (by omega)
    rw [e]
    clear e
    go_enter Try.func38, Try.ntmps38
    go_wp2
    go_ret
    exact ⟨rfl, (Below.refl _ _).alloc (Nat.le_refl _) _⟩
  · by_cases h3 : 3 < zs.length
    · have e : mV zs = 23 := mV_no fun h => by have := (mok_iff.1 h).1; omega
      have k1 : decide ((zs.length : Int) < 1) = false := decide_eq_false (by omega)
      have k2 : decide (zs.length < 1) = false := decide_eq_false (by omega)
      have k3 : decide (3 < (zs.length : Int)) = true := decide_eq_true (by omega)
      have k4 : decide (3 < zs.length) = true := decide_eq_true (by omega)
      rw [e]
      clear e
      go_enter Try.func38, Try.ntmps38
      go_wp2
      go_ret
      exact ⟨rfl, (Below.refl _ _).alloc (Nat.le_refl _) _⟩
    · have k1 : decide ((zs.length : Int) < 1) = false := decide_eq_false (by omega)
      have k2 : decide (zs.length < 1) = false := decide_eq_false (by omega)
      have k3 : decide (3 < (zs.length : Int)) = false := decide_eq_false (by omega)
      have k4 : decide (3 < zs.length) = false := decide_eq_false (by omega)
      have k5 : (zs.length == 0) = false := beq_false_of_ne (by omega)
      obtain ⟨V, hV⟩ : ∃ V, mV zs = V := ⟨_, rfl⟩
      rw [hV]
      have HV := Lib.hid hV
      have H13 : Hid (1 ≤ zs.length ∧ zs.length ≤ 3) := Lib.hid ⟨by omega, by omega⟩
      have hlen : zs.length ≤ 3 := by omega
      clear hV h1 h3
      go_enter Try.func38, Try.ntmps38
      go_wp2
      go_loopw [3, 4] (fun s i wr => ∃ (k : Nat) (S : Int) (m : Nat), wr = (w.alloc (Obj.cells #[Value.slice p zs.length c] 41)).drewN m ∧ s = .int .i64 S ∧ i = .int .i64 k ∧ k ≤ zs.length ∧ 1 ≤ S ∧ S ≤ 4096 ∧ Hid (S ≤ 16 ^ k) ∧ Hid (∀ j, j < k → low (zs.getD j 0) = false) ∧ Hid (S * sp (zs.drop k) = sp zs)) (fun _ i _ => zs.length - (intOf i).toNat)
      case atStart => exact ⟨0, 1, 0, rfl, rfl, rfl, by omega, by omega, by omega, Lib.hid (by decide), Lib.hid fun j hj => by omega, Lib.hid (by rw [Int.one_mul]; rfl)⟩
      case round =>
        obtain ⟨k, S, m, rfl, rfl, rfl, hk, s0, s1, hP, hL, hS⟩ := hrel
        by_cases hlt : k < zs.length
        · obtain ⟨b, o, rfl, hc⟩ := RA.out k hlt
          have hb : b < w.heap.size := by have := World.block_lt_of_cell? w _ hc; simpa using this
          have hc := Rg.keep' ((Below.refl _ _).alloc (Nat.le_refl _) (Obj.cells #[Value.slice (some ⟨b, o, none⟩) zs.length c] 41)) hb hc
          obtain ⟨z, hz⟩ : ∃ z, zs.getD k 0 = z := ⟨_, rfl⟩
          rw [hz] at hc
          have i0 : (0 : Int) ≤ k := by omega
          have i1 : (k : Int) < zs.length := by omega
          by_cases hz1 : z < 1
          · have e : V = 23 := by rw [← HV.out]; exact mV_no (mok_low hlt (by omega))
            have HE := Lib.hid e
            have q1 : decide (z < 1) = true := decide_eq_true hz1
            clear e hz hz1
            go_wp2
            go_ret
            exact ⟨ret_int HE.out.symm, by (repeat refine below_drewN ?_ _); exact (Below.refl _ _).alloc (Nat.le_refl _) _⟩
          · have q1 : decide (z < 1) = false := decide_eq_false hz1
            by_cases hb : 16 < z
            · have k1 : decide (16 < z) = true := decide_eq_true (by omega)
              have e : V = 23 := by
                rw [← HV.out]
                refine mV_no (mok_big hlt hz s0 hS.out ?_)
                have := Int.mul_le_mul_of_nonneg_right s0 (by omega : 0 ≤ z)
                omega
              have HE := Lib.hid e
              clear e hz1 hz hb
              go_wp2
              go_ret
              exact ⟨ret_int HE.out.symm, by (repeat refine below_drewN ?_ _); exact (Below.refl _ _).alloc (Nat.le_refl _) _⟩
            · have k1 : decide (16 < z) = false := decide_eq_false (by omega)
              obtain ⟨T, hT⟩ : ∃ T, S * z = T := ⟨_, rfl⟩
              have hmul := mok_mul hlt hz hS.out
              have HL2 := Lib.hid (low_step hL.out hz (by omega))
              have t0 : 0 < T := by rw [← hT]; exact Int.mul_pos (by omega) (by omega)
              have hP2 : T ≤ 16 ^ (k + 1) := by
                rw [← hT, Int.pow_succ]
                exact Int.le_trans (Int.mul_le_mul_of_nonneg_right hP.out (by omega)) (Int.mul_le_mul_of_nonneg_left (by omega) (by exact Int.le_trans (by omega) hP.out))
              have t1 : T ≤ 4096 := by
                have : k = 0 ∨ k = 1 ∨ k = 2 := by omega
                rcases this with rfl | rfl | rfl <;> omega
              rw [hT] at hmul
              have HM := Lib.hid hmul
              have HP2 := Lib.hid hP2
              clear hz hmul hL hS hP2 hP hz1 hb
              go_wp2
              go_roundw
              case rel => exact ⟨k + 1, T, m, rfl, rfl, by go_num, by omega, by omega, by omega, HP2, HL2, HM⟩
              case measure => simp [intOf]; omega
        · by_cases hb : 16 < S
          · have k1 : decide (16 < S) = true := decide_eq_true (by omega)
            have e : V = 23 := by rw [← HV.out]; exact mV_no (mok_over (k := k) (by omega) hS.out hb)
            have HE := Lib.hid e
            clear e
            go_wp2
            go_ret
            exact ⟨ret_int HE.out.symm, by (repeat refine below_drewN ?_ _); exact (Below.refl _ _).alloc (Nat.le_refl _) _⟩
          · have k1 : decide (16 < S) = false := decide_eq_false (by omega)
            have e : V = 0 := by rw [← HV.out]; exact mV_ok (mok_end (k := k) (by omega) H13.out hL.out hS.out (by omega))
            have HE := Lib.hid e
            clear e
            go_wp2
            go_ret
            exact ⟨ret_int HE.out.symm, by (repeat refine below_drewN ?_ _); exact (Below.refl _ _).alloc (Nat.le_refl _) _⟩
end Go.Proofs.Ytjpcpdaokgkaoaa.Sh
