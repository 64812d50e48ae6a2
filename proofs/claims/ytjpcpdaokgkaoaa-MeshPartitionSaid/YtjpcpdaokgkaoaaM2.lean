/- Devices of a mesh. -/
import Derived.Test.YtjpcpdaokgkaoaaM1
import Derived.Test.YtjpcpdaokgkaoaaV25
namespace Go.Proofs.Ytjpcpdaokgkaoaa.Sh
open Go.ChangeShapes Go.WideShapes Go.ChangeAt Go.RowKit
set_option linter.unusedVariables false

/-- What a valid mesh gives. -/
theorem mok_facts {zs : List Int} (h : mok zs = true) : 1 ≤ zs.length ∧ zs.length ≤ 3 ∧ zs.any low = false ∧ 1 ≤ sp zs ∧ sp zs ≤ 16 ∧ vE zs = 0 := by
  obtain ⟨⟨h1, h3⟩, hl, hs⟩ := mok_iff.1 h
  have hp := sp_pos hl
  exact ⟨h1, h3, hl, hp, hs, vE_some (by omega) hl (pr_ok zs 1 (by omega) hl (by omega))⟩
theorem mok_el {zs : List Int} (h : mok zs = true) {k : Nat} (hk : k < zs.length) : 1 ≤ zs.getD k 0 ∧ zs.getD k 0 ≤ 16 := by
  obtain ⟨_, _, hl, _, hs, _⟩ := mok_facts h
  have h1 := pos_of hl hk
  refine ⟨h1, ?_⟩
  have h2 := sp_drop_le hl k
  rw [drop_cons hk] at h2
  change sp (zs.drop (k + 1)) * zs.getD k 0 ≤ sp zs at h2
  have := Int.mul_le_mul_of_nonneg_right (sp_pos (any_drop hl (k + 1))) (by omega : 0 ≤ zs.getD k 0)
  omega
set_option maxHeartbeats 4000000 in
/-- box.Validate of a valid mesh. -/
theorem c55 (p : Option Addr) (zs : List Int) (c : Nat) (w : World) (RA : Hid (SlI w p zs)) (hv : mok zs = true) :
    Calls Try.prog 55 #[.slice p zs.length c] w fun e w' => e = .returned (.int .i64 0) ∧ w = w' := by
  obtain ⟨h1, h3, hl, s0, s1, _⟩ := mok_facts hv
  have k3 : decide (16 < (zs.length : Int)) = false := decide_eq_false (by omega)
  have k4 : decide (16 < zs.length) = false := decide_eq_false (by omega)
  have HL := Lib.hid hl
  have HE := Lib.hid fun (k : Nat) (hk : k < zs.length) => mok_el hv hk
  have S0 := Lib.hid (show (1 : Int) * sp (zs.drop 0) = sp zs by rw [Int.one_mul]; rfl)
  have S1 := Lib.hid s1
  clear hl hv s0 s1
  go_enter Try.func55, Try.ntmps55
  go_wp2
  go_loop [3, 14] (fun t i => ∃ (k : Nat), t = .bool false ∧ i = .int .i64 k ∧ k ≤ zs.length) (fun _ i => zs.length - (intOf i).toNat)
  case atStart => exact ⟨0, rfl, rfl, by omega⟩
  case round =>
    obtain ⟨k, rfl, rfl, hk⟩ := hrel
    by_cases hlt : k < zs.length
    · obtain ⟨b, o, rfl, hc⟩ := RA.out k hlt
      obtain ⟨z0, z1⟩ := HE.out k hlt
      obtain ⟨z, hz⟩ : ∃ z, zs.getD k 0 = z := ⟨_, rfl⟩
      rw [hz] at hc z0 z1
      have q1 : decide (z < 0) = false := decide_eq_false (by omega)
      have q2 : (z == 0) = false := beq_false_of_ne (by omega)
      clear hz
      go_wp2
      go_round
      case rel => exact ⟨k + 1, rfl, by go_num, by omega⟩
      case measure => simp [intOf]; omega
    · go_wp2
      go_loop [6, 28] (fun s i => ∃ (k : Nat) (S : Int), s = .int .i64 S ∧ i = .int .i64 k ∧ k ≤ zs.length ∧ 1 ≤ S ∧ S ≤ 16 ∧ Hid (S * sp (zs.drop k) = sp zs)) (fun _ i => zs.length - (intOf i).toNat)
      case atStart => exact ⟨0, 1, rfl, rfl, by omega, by omega, by omega, S0⟩
      case round =>
        obtain ⟨m, S, rfl, rfl, hm, s0, s1, hS⟩ := hrel
        by_cases hlt2 : m < zs.length
        · obtain ⟨b, o, rfl, hc⟩ := RA.out m hlt2
          obtain ⟨z0, z1⟩ := HE.out m hlt2
          have hmul := mok_mul hlt2 rfl hS.out
          have hpos := sp_pos (any_drop HL.out (m + 1))
          obtain ⟨z, hz⟩ : ∃ z, zs.getD m 0 = z := ⟨_, rfl⟩
          rw [hz] at hc z0 z1 hmul
          obtain ⟨T, hT⟩ : ∃ T, S * z = T := ⟨_, rfl⟩
          rw [hT] at hmul
          have t0 : 1 ≤ T := by rw [← hT]; exact Int.mul_pos (by omega) (by omega)
          have t1 : T ≤ 16 := by
            have := Int.mul_le_mul_of_nonneg_left hpos (by omega : 0 ≤ T)
            have := S1.out
            omega
          have sz : (S == 0) = false := beq_false_of_ne (by omega)
          have hq : z ≤ 65536 / S := (Int.le_ediv_iff_mul_le (by omega)).2 (by rw [Int.mul_comm, hT]; omega)
          obtain ⟨q, hQ⟩ : ∃ q, 65536 / S = q := ⟨_, rfl⟩
          rw [hQ] at hq
          have k1 : decide (q < z) = false := decide_eq_false (by omega)
          have HM := Lib.hid hmul
          clear hz hmul hpos hq
          go_wp2
          go_round
          case rel => exact ⟨m + 1, T, rfl, by go_num, by omega, by omega, by omega, HM⟩
          case measure => simp [intOf]; omega
        · go_wp2
          go_ret
          exact ⟨rfl, rfl⟩
set_option maxHeartbeats 4000000 in
/-- slices.Index of nought among numbers that are none. -/
theorem c57 (p : Option Addr) (zs : List Int) (c : Nat) (w : World) (hn : zs.length ≤ maxLen) (RA : Hid (SlI w p zs)) (hl : Hid (zs.any low = false)) :
    Calls Try.prog 57 #[.slice p zs.length c, .int .i64 0] w fun e w' => e = .returned (.int .i64 (-1)) ∧ w = w' := by
  unfold maxLen at hn
  go_enter Try.func57, Try.ntmps57
  go_wp2
  go_loop [8] (fun i => ∃ (k : Nat), i = .int .i64 k ∧ k ≤ zs.length) (fun i => zs.length - (intOf i).toNat)
  case atStart => exact ⟨0, rfl, by omega⟩
  case round =>
    obtain ⟨k, rfl, hk⟩ := hrel
    by_cases hlt : k < zs.length
    · obtain ⟨b, o, rfl, hc⟩ := RA.out k hlt
      have z1 := pos_of hl.out hlt
      obtain ⟨z, hz⟩ : ∃ z, zs.getD k 0 = z := ⟨_, rfl⟩
      rw [hz] at hc z1
      have q2 : (0 == z) = false := beq_false_of_ne (by omega)
      clear hz
      go_wp2
      go_round
      case rel => exact ⟨k + 1, by go_num, by omega⟩
      case measure => simp [intOf]; omega
    · go_wp2
      go_ret
      exact ⟨rfl, rfl⟩
theorem c56 (p : Option Addr) (zs : List Int) (c : Nat) (w : World) (hn : zs.length ≤ maxLen) (RA : Hid (SlI w p zs)) (hl : Hid (zs.any low = false)) :
    Calls Try.prog 56 #[.slice p zs.length c, .int .i64 0] w fun e w' => e = .returned (.bool false) ∧ w = w' := by
  have C := Lib.hid (c57 p zs c w hn RA hl)
  go_enter Try.func56, Try.ntmps56
  go_wp2_with (go_at_call 57; refine (C.out).mono ?_; rintro e w' ⟨rfl, rfl⟩)
  go_ret
  exact ⟨rfl, rfl⟩
set_option maxHeartbeats 4000000 in
/-- box.Count of a valid mesh. -/
theorem c52 (p : Option Addr) (zs : List Int) (c : Nat) (w : World) (RA : Hid (SlI w p zs)) (hv : mok zs = true) :
    Calls Try.prog 52 #[.slice p zs.length c] w fun e w' => e = .returned (.int .i64 (sp zs)) ∧ w = w' := by
  obtain ⟨h1, h3, hl, s0, s1, _⟩ := mok_facts hv
  have HL := Lib.hid hl
  have C := Lib.hid (c55 p zs c w RA hv)
  have D := Lib.hid (c56 p zs c w (by unfold maxLen; omega) RA HL)
  have HE := Lib.hid fun (k : Nat) (hk : k < zs.length) => mok_el hv hk
  have S0 := Lib.hid (show (1 : Int) * sp (zs.drop 0) = sp zs by rw [Int.one_mul]; rfl)
  have S1 := Lib.hid s1
  clear hl hv s0 s1
  go_enter Try.func52, Try.ntmps52
  go_wp2_with (first | (go_at_call 55; refine (C.out).mono ?_; rintro e w' ⟨rfl, rfl⟩) | (go_at_call 56; refine (D.out).mono ?_; rintro e w' ⟨rfl, rfl⟩))
  go_loop [3, 15] (fun s i => ∃ (k : Nat) (S : Int), s = .int .i64 S ∧ i = .int .i64 k ∧ k ≤ zs.length ∧ 1 ≤ S ∧ S ≤ 16 ∧ Hid (S * sp (zs.drop k) = sp zs)) (fun _ i => zs.length - (intOf i).toNat)
  case atStart => exact ⟨0, 1, rfl, rfl, by omega, by omega, by omega, S0⟩
  case round =>
    obtain ⟨m, S, rfl, rfl, hm, s0, s1, hS⟩ := hrel
    by_cases hlt2 : m < zs.length
    · obtain ⟨b, o, rfl, hc⟩ := RA.out m hlt2
      obtain ⟨z0, z1⟩ := HE.out m hlt2
      have hmul := mok_mul hlt2 rfl hS.out
      have hpos := sp_pos (any_drop HL.out (m + 1))
      obtain ⟨z, hz⟩ : ∃ z, zs.getD m 0 = z := ⟨_, rfl⟩
      rw [hz] at hc z0 z1 hmul
      obtain ⟨T, hT⟩ : ∃ T, S * z = T := ⟨_, rfl⟩
      rw [hT] at hmul
      have t0 : 1 ≤ T := by rw [← hT]; exact Int.mul_pos (by omega) (by omega)
      have t1 : T ≤ 16 := by
        have := Int.mul_le_mul_of_nonneg_left hpos (by omega : 0 ≤ T)
        have := S1.out
        omega
      have HM := Lib.hid hmul
      clear hz hmul hpos
      go_wp2
      go_round
      case rel => exact ⟨m + 1, T, rfl, by go_num, by omega, by omega, by omega, HM⟩
      case measure => simp [intOf]; omega
    · have e : S = sp zs := by
        have h := hS.out
        rw [List.drop_of_length_le (by omega)] at h
        change S * 1 = sp zs at h
        omega
      have HE2 := Lib.hid e
      clear e
      go_wp2
      go_ret
      exact ⟨ret_int HE2.out, rfl⟩
def dv (zs : List Int) : Int := if mok zs = true then sp zs else 0
theorem mV_bad {zs : List Int} (h : ¬ mok zs = true) : (mV zs != 0) = true := by rw [mV_no h]; rfl
theorem boxed {w w' : World} {v : Value} {T : TypeId} (hb : Below (w.alloc (Obj.cells #[v] T)).heap.size (w.alloc (Obj.cells #[v] T)) w') : w'.cell? ⟨w.heap.size, 0, none⟩ = some v ∧ Below w.heap.size w w' :=
  ⟨by rw [hb.cell (p := ⟨w.heap.size, 0, none⟩) (by simp)]; go_cell, ((Below.refl _ _).alloc (Nat.le_refl _) _).trans (hb.mono (by simp))⟩
set_option maxHeartbeats 4000000 in
theorem c39 (p : Option Addr) (zs : List Int) (c : Nat) (w : World) (hn : zs.length ≤ maxLen) (RA : Hid (SlI w p zs)) :
    Calls Try.prog 39 #[.agg #[.slice p zs.length c]] w (Ret (.int .i64 (dv zs)) w) := by
  have R1 := SlI.keep ((Below.refl _ _).alloc (Nat.le_refl _) (Obj.cells #[Value.slice p zs.length c] 41)) RA.out
  have R1 := Lib.hid R1
  have C := Lib.hid fun (y : World) (h : SlI y p zs) => c37 p zs c y hn (Lib.hid h)
  by_cases hv : mok zs = true
  · have D := Lib.hid fun (y : World) (h : SlI y p zs) => c52 p zs c y (Lib.hid h) hv
    rw [mV_ok hv] at C
    rw [show dv zs = sp zs from if_pos hv]
    clear hv hn
    go_enter Try.func39, Try.ntmps39
    go_wp2_with (first | (go_at_call 37; refine (C.out _ R1.out).mono ?_; rintro e w' ⟨rfl, hb⟩; obtain ⟨hx, hB⟩ := boxed hb; have RS := Lib.hid (SlI.keep hB RA.out); clear hb) | (go_at_call 52; refine (D.out _ RS.out).mono ?_; rintro e w' ⟨rfl, rfl⟩))
    go_ret
    exact ⟨rfl, hB⟩
  · have hV := mV_bad hv
    rw [show dv zs = 0 from if_neg hv]
    generalize mV zs = V at C hV
    clear hv hn
    go_enter Try.func39, Try.ntmps39
    go_wp2_with (go_at_call 37; refine (C.out _ R1.out).mono ?_; rintro e w' ⟨rfl, hb⟩; obtain ⟨hx, hB⟩ := boxed hb; clear hb)
    go_ret
    exact ⟨rfl, hB⟩
set_option maxHeartbeats 4000000 in
theorem c40 (p : Option Addr) (zs : List Int) (c : Nat) (w : World) (hn : zs.length ≤ maxLen) (RA : Hid (SlI w p zs)) :
    Calls Try.prog 40 #[.agg #[.slice p zs.length c]] w (Ret (.int .i64 (dv zs)) w) := by
  have R1 := SlI.keep ((Below.refl _ _).alloc (Nat.le_refl _) (Obj.cells #[Value.slice p zs.length c] 41)) RA.out
  have R1 := Lib.hid R1
  have C := Lib.hid fun (y : World) (h : SlI y p zs) => c38 p zs c y hn (Lib.hid h)
  by_cases hv : mok zs = true
  · obtain ⟨h1, h3, hl, s0, s1, _⟩ := mok_facts hv
    have HL := Lib.hid hl
    have HE := Lib.hid fun (k : Nat) (hk : k < zs.length) => mok_el hv hk
    have S0 := Lib.hid (show (1 : Int) * sp (zs.drop 0) = sp zs by rw [Int.one_mul]; rfl)
    have S1 := Lib.hid s1
    rw [mV_ok hv] at C
    rw [show dv zs = sp zs from if_pos hv]
    clear hv hn hl s0 s1
    go_enter Try.func40, Try.ntmps40
    go_wp2_with (first | (go_at_call 38; refine (C.out _ R1.out).mono ?_; rintro e w' ⟨rfl, hb⟩; obtain ⟨hx, hB⟩ := boxed hb; have RS := Lib.hid (SlI.keep hB RA.out); clear hb))
    go_loop [3, 4] (fun s i => ∃ (k : Nat) (S : Int), s = .int .i64 S ∧ i = .int .i64 k ∧ k ≤ zs.length ∧ 1 ≤ S ∧ S ≤ 16 ∧ Hid (S * sp (zs.drop k) = sp zs)) (fun _ i => zs.length - (intOf i).toNat)
    case atStart => exact ⟨0, 1, rfl, rfl, by omega, by omega, by omega, S0⟩
    case round =>
      obtain ⟨m, S, rfl, rfl, hm, s0, s1, hS⟩ := hrel
      by_cases hlt2 : m < zs.length
      · obtain ⟨b, o, rfl, hc⟩ := RS.out m hlt2
        obtain ⟨z0, z1⟩ := HE.out m hlt2
        have hmul := mok_mul hlt2 rfl hS.out
        have hpos := sp_pos (any_drop HL.out (m + 1))
        obtain ⟨z, hz⟩ : ∃ z, zs.getD m 0 = z := ⟨_, rfl⟩
        rw [hz] at hc z0 z1 hmul
        obtain ⟨T, hT⟩ : ∃ T, S * z = T := ⟨_, rfl⟩
        rw [hT] at hmul
        have t0 : 1 ≤ T := by rw [← hT]; exact Int.mul_pos (by omega) (by omega)
        have t1 : T ≤ 16 := by
          have := Int.mul_le_mul_of_nonneg_left hpos (by omega : 0 ≤ T)
          have := S1.out
          omega
        have HM := Lib.hid hmul
        clear hz hmul hpos
        go_wp2
        go_round
        case rel => exact ⟨m + 1, T, rfl, by go_num, by omega, by omega, by omega, HM⟩
        case measure => simp [intOf]; omega
      · have e : S = sp zs := by
          have h := hS.out
          rw [List.drop_of_length_le (by omega)] at h
          change S * 1 = sp zs at h
          omega
        have HE2 := Lib.hid e
        clear e
        go_wp2
        go_ret
        exact ⟨ret_int HE2.out, hB⟩
  · have hV := mV_bad hv
    rw [show dv zs = 0 from if_neg hv]
    generalize mV zs = V at C hV
    clear hv hn
    go_enter Try.func40, Try.ntmps40
    go_wp2_with (go_at_call 38; refine (C.out _ R1.out).mono ?_; rintro e w' ⟨rfl, hb⟩; obtain ⟨hx, hB⟩ := boxed hb; clear hb)
    go_ret
    exact ⟨rfl, hB⟩
end Go.Proofs.Ytjpcpdaokgkaoaa.Sh
