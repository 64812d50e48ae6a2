/- Boxes: Validate. -/
import Derived.Test.YtkdfidjoighknaaB0
namespace Go.Proofs.Ytkdfidjoighknaa.Bx
open Go.ChangeShapes Go.WideShapes Go.ChangeAt Go.RowKit
set_option linter.unusedVariables false
set_option linter.unusedSimpArgs false
def ng (z : Int) : Bool := decide (z < 0)
def zr (z : Int) : Bool := z == 0
/-- The answer of Validate. -/
def bV (zs : List Int) : Int := if 16 < zs.length then 2 else if zs.any ng = true then 1 else if zs.any zr = true then 0 else if 65536 < sp zs then 2 else 0
theorem ret_int {k : IntKind} {a b : Int} (h : a = b) : Ending.returned (.int k a) = .returned (.int k b) := by rw [h]
theorem bV_long {zs : List Int} (h : 16 < zs.length) : bV zs = 2 := if_pos h
theorem bV_neg {zs : List Int} (h : ¬ 16 < zs.length) {k : Nat} (hk : k < zs.length) (hz : zs.getD k 0 < 0) : bV zs = 1 := by
  unfold bV
  rw [if_neg h, if_pos (any_at (k := k) (decide_eq_true hz) hk)]
theorem no_neg {zs : List Int} {k : Nat} (h : ∀ j, j < k → 0 ≤ zs.getD j 0) (hk : k = zs.length) : zs.any ng = false :=
  any_take (fun j hj => decide_eq_false (by have := h j hj; omega)) hk
theorem bV_empty {zs : List Int} (h : ¬ 16 < zs.length) (h1 : zs.any ng = false) (h2 : zs.any zr = true) : bV zs = 0 := by
  unfold bV
  rw [if_neg h, h1, if_neg (by decide), if_pos h2]
theorem bV_full {zs : List Int} (h : ¬ 16 < zs.length) (h1 : zs.any ng = false) (h2 : zs.any zr = false) : bV zs = if 65536 < sp zs then 2 else 0 := by
  unfold bV
  rw [if_neg h, h1, if_neg (by decide), h2, if_neg (by decide)]
theorem low_of {zs : List Int} (h1 : zs.any ng = false) (h2 : zs.any zr = false) : zs.any low = false := by
  rw [List.any_eq_false] at h1 h2 ⊢
  intro x hx
  have a := h1 x hx
  have b := h2 x hx
  unfold ng at a
  unfold zr at b
  unfold low
  simp at a b ⊢
  omega
theorem sp_zero : ∀ {zs : List Int}, zs.any zr = true → sp zs = 0
  | [], h => by simp at h
  | z :: zs, h => by
    show sp zs * z = 0
    rw [List.any_cons, Bool.or_eq_true] at h
    rcases h with h | h
    · have : z = 0 := by unfold zr at h; simpa using h
      rw [this, Int.mul_zero]
    · rw [sp_zero h, Int.zero_mul]
theorem any_take_succ (f : Int → Bool) {zs : List Int} {k : Nat} (hk : k < zs.length) : (zs.take (k + 1)).any f = ((zs.take k).any f || f (zs.getD k 0)) := by
  rw [List.take_succ_eq_append_getElem hk, List.any_append, List.any_cons, List.any_nil, Bool.or_false, getD_at hk]
theorem mul_step {zs : List Int} {k : Nat} {S z : Int} (hk : k < zs.length) (hz : zs.getD k 0 = z) (hS : S * sp (zs.drop k) = sp zs) : S * z * sp (zs.drop (k + 1)) = sp zs := by
  rw [← hS, drop_cons hk, hz]
  show _ = S * (sp (zs.drop (k + 1)) * z)
  rw [Int.mul_comm (sp _) z, ← Int.mul_assoc]
theorem mul_big {zs : List Int} {k : Nat} {S z : Int} (hl : zs.any low = false) (hk : k < zs.length) (hz : zs.getD k 0 = z) (s0 : 1 ≤ S) (hS : S * sp (zs.drop k) = sp zs) (hb : 65536 < S * z) : 65536 < sp zs := by
  have h1 := sp_pos (any_drop hl (k + 1))
  have h2 := mul_step hk hz hS
  have := Int.mul_le_mul_of_nonneg_left h1 (by omega : 0 ≤ S * z)
  omega
theorem mul_end {zs : List Int} {k : Nat} {S : Int} (hk : zs.length ≤ k) (hS : S * sp (zs.drop k) = sp zs) : sp zs = S := by
  rw [List.drop_of_length_le hk] at hS
  show sp zs = S
  rw [← hS]
  show S * 1 = S
  omega
theorem quo64 (s z : Int) (hs : 1 ≤ s) : 65536 / s < z ↔ 65536 < s * z := by
  constructor
  · intro h
    have h1 := Int.lt_mul_of_ediv_lt (by omega : 0 < s) h
    rw [Int.mul_comm] at h1
    exact h1
  · intro h
    rw [Int.mul_comm] at h
    exact Int.ediv_lt_of_lt_mul (by omega : 0 < s) h
/-- What a valid box that is not empty gives. -/
theorem bV_facts {zs : List Int} (h : bV zs = 0) : zs.length ≤ 16 ∧ zs.any ng = false ∧ (zs.any zr = false → zs.any low = false ∧ 1 ≤ sp zs ∧ sp zs ≤ 65536) := by
  unfold bV at h
  by_cases h1 : 16 < zs.length
  · rw [if_pos h1] at h; omega
  · rw [if_neg h1] at h
    by_cases h2 : zs.any ng = true
    · rw [if_pos h2] at h; omega
    · rw [if_neg h2] at h
      rw [Bool.not_eq_true] at h2
      refine ⟨by omega, h2, fun h3 => ?_⟩
      rw [h3, if_neg (by decide)] at h
      have hl := low_of h2 h3
      refine ⟨hl, sp_pos hl, ?_⟩
      by_cases h4 : 65536 < sp zs
      · rw [if_pos h4] at h; omega
      · omega
def cnt (zs : List Int) : Int := if bV zs = 0 then sp zs else 0
theorem cnt_bd (zs : List Int) : 0 ≤ cnt zs ∧ cnt zs ≤ 65536 := by
  unfold cnt
  by_cases h : bV zs = 0
  · rw [if_pos h]
    obtain ⟨_, _, h3⟩ := bV_facts h
    cases hz : zs.any zr with
    | true => rw [sp_zero hz]; omega
    | false => have := h3 hz; omega
  · rw [if_neg h]; omega
/-- A box with points. -/
theorem cnt_pos {zs : List Int} {a : Int} (h0 : 0 ≤ a) (h : a < cnt zs) : bV zs = 0 ∧ zs.length ≤ 16 ∧ zs.any low = false ∧ cnt zs = sp zs ∧ 1 ≤ sp zs ∧ sp zs ≤ 65536 := by
  unfold cnt at h ⊢
  by_cases hb : bV zs = 0
  · rw [if_pos hb] at h ⊢
    obtain ⟨h1, h2, h3⟩ := bV_facts hb
    cases hz : zs.any zr with
    | true => rw [sp_zero hz] at h; omega
    | false => exact ⟨hb, h1, (h3 hz).1, rfl, (h3 hz).2⟩
  · rw [if_neg hb] at h; omega
set_option maxHeartbeats 8000000 in
theorem bval1 (p : Option Addr) (zs : List Int) (c : Nat) (w : World) (hn : zs.length ≤ maxLen) (RA : Hid (SlI w p zs)) :
    Calls Try.prog 15 #[.slice p zs.length c] w fun e w' => e = .returned (.int .i64 (bV zs)) ∧ w = w' := by
  unfold maxLen at hn
  by_cases h16 : 16 < zs.length
  · have k3 : decide (16 < (zs.length : Int)) = true := decide_eq_true (by omega)
    have k4 : decide (16 < zs.length) = true := decide_eq_true (by omega)
    rw [bV_long h16]
    go_enter Try.func15, Try.ntmps15
    go_wp2
    go_ret
    exact ⟨rfl, rfl⟩
  · have k3 : decide (16 < (zs.length : Int)) = false := decide_eq_false (by omega)
    have k4 : decide (16 < zs.length) = false := decide_eq_false (by omega)
    have H16 := Lib.hid h16
    obtain ⟨V, hV⟩ : ∃ V, bV zs = V := ⟨_, rfl⟩
    rw [hV]
    have HV := Lib.hid hV
    clear hV h16
    go_enter Try.func15, Try.ntmps15
    go_wp2
    go_loop [3, 14] (fun b i => ∃ (k : Nat) (B : Bool), b = .bool B ∧ i = .int .i64 k ∧ k ≤ zs.length ∧ Hid (∀ j, j < k → 0 ≤ zs.getD j 0) ∧ Hid (B = (zs.take k).any zr)) (fun _ i => zs.length - (intOf i).toNat)
    case atStart => exact ⟨0, false, rfl, rfl, by omega, Lib.hid fun j hj => by omega, Lib.hid (by simp)⟩
    case round =>
      obtain ⟨k, B, rfl, rfl, hk, hL, hB⟩ := hrel
      have k0 : (0 : Int) ≤ k := by omega
      by_cases hlt : k < zs.length
      · obtain ⟨b, o, rfl, hc⟩ := RA.out k hlt
        have hs := any_take_succ zr hlt
        rw [← hB.out] at hs
        obtain ⟨z, hz⟩ : ∃ z, zs.getD k 0 = z := ⟨_, rfl⟩
        rw [hz] at hc hs
        have HZ := Lib.hid hz
        have HS := Lib.hid hs
        have k1 : (k : Int) < zs.length := by omega
        clear hz hs
        by_cases h1 : z < 0
        · have HE : Hid (V = 1) := Lib.hid (by rw [← HV.out]; exact bV_neg H16.out hlt (by rw [HZ.out]; exact h1))
          go_wp2
          go_ret
          exact ⟨ret_int HE.out.symm, rfl⟩
        · have HL2 : Hid (∀ j, j < k + 1 → 0 ≤ zs.getD j 0) := Lib.hid fun j hj => by
            rcases Nat.lt_or_ge j k with h | h
            · exact hL.out j h
            · obtain rfl : j = k := by omega
              rw [HZ.out]; omega
          cases B
          · obtain ⟨C, hC⟩ : ∃ C, (z == 0) = C := ⟨_, rfl⟩
            have HB2 : Hid (C = (zs.take (k + 1)).any zr) := Lib.hid (by rw [HS.out, ← hC]; rfl)
            go_wp2
            go_round
            case rel => exact ⟨k + 1, C, by first | rfl | rw [hC], by go_num, by omega, HL2, HB2⟩
            case measure => simp [intOf]; omega
          · have HB2 : Hid (true = (zs.take (k + 1)).any zr) := Lib.hid (by rw [HS.out]; rfl)
            go_wp2
            go_round
            case rel => exact ⟨k + 1, true, rfl, by go_num, by omega, HL2, HB2⟩
            case measure => simp [intOf]; omega
      · have k1 : ¬ (k : Int) < zs.length := by omega
        have HN := Lib.hid (no_neg (k := k) hL.out (by omega))
        have hB2 : B = zs.any zr := by rw [hB.out, List.take_of_length_le (by omega)]
        cases B
        · have HZ0 := Lib.hid hB2.symm
          have HF := Lib.hid (bV_full H16.out HN.out HZ0.out)
          have HLO := Lib.hid (low_of HN.out HZ0.out)
          clear hB2 hB hL
          go_wp2
          go_loop [6, 28] (fun s i => ∃ (k : Nat) (S : Int), s = .int .i64 S ∧ i = .int .i64 k ∧ k ≤ zs.length ∧ 1 ≤ S ∧ S ≤ 65536 ∧ Hid (S * sp (zs.drop k) = sp zs)) (fun _ i => zs.length - (intOf i).toNat)
          case atStart => exact ⟨0, 1, rfl, rfl, by omega, by omega, by omega, Lib.hid (by rw [Int.one_mul]; rfl)⟩
          case round =>
            obtain ⟨j, S, rfl, rfl, hj, s0, s1, hS⟩ := hrel
            have j0 : (0 : Int) ≤ j := by omega
            have szz : (S == 0) = false := beq_false_of_ne (by omega)
            by_cases hjl : j < zs.length
            · obtain ⟨b, o, rfl, hc⟩ := RA.out j hjl
              have hpos := pos_of HLO.out hjl
              have hst := fun z hz => mul_step (z := z) hjl hz hS.out
              have hbg := fun z hz => mul_big (z := z) HLO.out hjl hz s0 hS.out
              obtain ⟨z, hz⟩ : ∃ z, zs.getD j 0 = z := ⟨_, rfl⟩
              have HST := Lib.hid (hst z hz)
              have HBG := Lib.hid (hbg z hz)
              rw [hz] at hc hpos
              have j1 : (j : Int) < zs.length := by omega
              have hq := quo64 S z s0
              obtain ⟨q, hQ⟩ : ∃ q, 65536 / S = q := ⟨_, rfl⟩
              rw [hQ] at hq
              obtain ⟨T, hT⟩ : ∃ T, S * z = T := ⟨_, rfl⟩
              have t0 : 0 < T := by rw [← hT]; exact Int.mul_pos (by omega) (by omega)
              rw [hT] at HST HBG hq
              clear hz hst hbg
              by_cases hb : 65536 < T
              · have k1 : decide (q < z) = true := decide_eq_true (by omega)
                have HE : Hid (V = 2) := Lib.hid (by rw [← HV.out, HF.out, if_pos (HBG.out hb)])
                clear hq hT
                go_wp2
                go_ret
                exact ⟨ret_int HE.out.symm, rfl⟩
              · have k1 : decide (q < z) = false := decide_eq_false (by omega)
                have t1 : T ≤ 65536 := by omega
                clear hq hb
                go_wp2
                go_round
                case rel => exact ⟨j + 1, T, by first | rfl | rw [hT], by go_num, by omega, by omega, by omega, HST⟩
                case measure => simp [intOf]; omega
            · have j1 : ¬ (j : Int) < zs.length := by omega
              have HE : Hid (V = 0) := Lib.hid (by rw [← HV.out, HF.out, mul_end (k := j) (by omega) hS.out, if_neg (by omega)])
              go_wp2
              go_ret
              exact ⟨ret_int HE.out.symm, rfl⟩
        · have HE : Hid (V = 0) := Lib.hid (by rw [← HV.out]; exact bV_empty H16.out HN.out hB2.symm)
          clear hB2 hB hL
          go_wp2
          go_loop [28] (fun i => ∃ (j : Nat), i = .int .i64 j ∧ j ≤ zs.length) (fun i => zs.length - (intOf i).toNat)
          case atStart => exact ⟨0, rfl, by omega⟩
          case round =>
            obtain ⟨j, rfl, hj⟩ := hrel
            have j0 : (0 : Int) ≤ j := by omega
            by_cases hjl : j < zs.length
            · obtain ⟨b, o, rfl, hc⟩ := RA.out j hjl
              have j1 : (j : Int) < zs.length := by omega
              go_wp2
              go_ret
              exact ⟨ret_int HE.out.symm, rfl⟩
            · have j1 : ¬ (j : Int) < zs.length := by omega
              go_wp2
              go_ret
              exact ⟨ret_int HE.out.symm, rfl⟩
end Go.Proofs.Ytkdfidjoighknaa.Bx
