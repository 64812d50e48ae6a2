/- Device of the reference. -/
import Derived.Test.YtjpcpdaokgkaoaaM4
namespace Go.Proofs.Ytjpcpdaokgkaoaa.Sh
open Go.ChangeShapes Go.WideShapes Go.ChangeAt Go.RowKit
set_option linter.unusedVariables false

theorem dA_parts {zs xs : List Int} (h : mok zs = true ∧ xs.length = zs.length) : dA zs xs = of 0 zs xs := by
  unfold dA
  rw [if_pos h.1, oA_ok (mok_facts h.1).2.2.2.2.2 h.2]
theorem dA_no {zs xs : List Int} (h : ¬ (mok zs = true ∧ xs.length = zs.length)) : dA zs xs = none := by
  unfold dA
  by_cases hm : mok zs = true
  · rw [if_pos hm]; exact oA_no fun g => h ⟨hm, g.2⟩
  · rw [if_neg hm]
set_option maxHeartbeats 8000000 in
theorem c36_ok (p q : Option Addr) (zs xs : List Int) (c d : Nat) (w : World) (RA : Hid (SlI w p zs)) (RB : Hid (SlI w q xs)) (hm : mok zs = true) (hl : xs.length = zs.length) :
    Calls Try.prog 36 #[.agg #[.slice p zs.length c], .slice q xs.length d] w (DV (dA zs xs) w) := by
  rw [dA_parts ⟨hm, hl⟩]
  obtain ⟨h1, h3, hlow, s0, s1, hv⟩ := mok_facts hm
  obtain ⟨_, _, _, hS, hD⟩ := valid_of hv
  have R1 := SlI.keep ((Below.refl _ _).alloc (Nat.le_refl _) (Obj.cells #[Value.slice p zs.length c] 41)) RA.out
  have R1 := Lib.hid R1
  have C := Lib.hid fun (y : World) (h : SlI y p zs) => c38 p zs c y (by unfold maxLen; omega) (Lib.hid h)
  rw [mV_ok hm] at C
  obtain ⟨n, hn⟩ : ∃ n, zs.length = n := ⟨_, rfl⟩
  have HN := Lib.hid hn
  have HM : Hid (xs.length = n) := Lib.hid (by omega)
  have hm' : xs.length = n := by omega
  rw [hn] at C R1 h1 h3 ⊢
  rw [hm']
  have HD := Lib.hid hD
  have S0 : (0 + 1) * sp (zs.drop 0) ≤ 4096 := by simpa using hS
  have HS0 := Lib.hid S0
  clear hn hm' hl hv hm hlow s0 s1 hD hS S0
  go_enter Try.func36, Try.ntmps36
  go_wp2_with (go_at_call 38; refine (C.out _ R1.out).mono ?_; rintro e w' ⟨rfl, hb⟩; obtain ⟨hx, hB⟩ := boxed hb; have RS := Lib.hid (SlI.keep hB RA.out); have RT := Lib.hid (SlI.keep hB RB.out); clear hb R1)
  go_loopw [6, 7] (fun s i wr => ∃ (k : Nat) (S : Int) (m : Nat), wr = w'.drewN m ∧ s = .int .i64 S ∧ i = .int .i64 k ∧ k ≤ n ∧ 0 ≤ S ∧ S ≤ 4096 ∧ Hid ((S + 1) * sp (zs.drop k) ≤ 4096) ∧ Hid (of 0 zs xs = of S (zs.drop k) (xs.drop k))) (fun _ i _ => n - (intOf i).toNat)
  case atStart => exact ⟨0, 0, 0, rfl, rfl, rfl, by omega, by omega, by omega, HS0, Lib.hid rfl⟩
  case round =>
    obtain ⟨k, S, m, rfl, rfl, rfl, hk, s0, s1, hBB, hO⟩ := hrel
    by_cases hlt : k < n
    · obtain ⟨b, o, rfl, hc⟩ := RS.out k (by rw [HN.out]; exact hlt)
      obtain ⟨b', o', rfl, hc'⟩ := RT.out k (by rw [HM.out]; exact hlt)
      have dz := drop_cons (zs := zs) (k := k) (by rw [HN.out]; exact hlt)
      have dx := drop_cons (zs := xs) (k := k) (by rw [HM.out]; exact hlt)
      obtain ⟨z, hz⟩ : ∃ z, zs.getD k 0 = z := ⟨_, rfl⟩
      obtain ⟨x, hxx⟩ : ∃ x, xs.getD k 0 = x := ⟨_, rfl⟩
      rw [hz] at hc dz
      rw [hxx] at hc' dx
      have DZ := Lib.hid dz
      have DX := Lib.hid dx
      clear dz dx hz hxx
      have b0 : (0 : Int) ≤ k := by omega
      have b1 : (k : Int) < n := by omega
      by_cases x0 : x < 0
      · have k1 : decide (x < 0) = true := by simpa using x0
        have e : of 0 zs xs = none := by rw [hO.out, DZ.out, DX.out]; exact of_none (by omega)
        have HE := Lib.hid e
        clear e x0
        go_wp2
        go_quiet (fail)
        go_wp2
        refine bodyPost_ret (v := .tuple #[.int .i64 0, .bool false]) (by simp [results, Try.results36, go_sem]) rfl ⟨oE_none HE.out, by (repeat refine below_drewN ?_ _); exact hB⟩
      · have k1 : decide (x < 0) = false := by simpa using x0
        by_cases x1 : z ≤ x
        · have k2 : decide (z ≤ x) = true := by simpa using x1
          have e : of 0 zs xs = none := by rw [hO.out, DZ.out, DX.out]; exact of_none (by omega)
          have HE := Lib.hid e
          clear e x0 x1
          go_wp2
          go_quiet (fail)
          go_wp2
          refine bodyPost_ret (v := .tuple #[.int .i64 0, .bool false]) (by simp [results, Try.results36, go_sem]) rfl ⟨oE_none HE.out, by (repeat refine below_drewN ?_ _); exact hB⟩
        · have k2 : decide (z ≤ x) = false := by simpa using x1
          have hP1 := (HD.out (k + 1)).1
          have hB2 := hBB.out
          rw [DZ.out] at hB2
          change (S + 1) * (sp (zs.drop (k + 1)) * z) ≤ 4096 at hB2
          obtain ⟨t0, t1, t2, hB3⟩ := of_step (x := x) s0 hP1 hB2 (by omega) (by omega)
          have hO2 : Hid (of 0 zs xs = of (S * z + x) (zs.drop (k + 1)) (xs.drop (k + 1))) := Lib.hid (by rw [hO.out, DZ.out, DX.out, of_go (by omega)])
          have hB4 := Lib.hid hB3
          have t3 : S * z + x ≤ 4096 := by
            have := Int.mul_le_mul_of_nonneg_left hP1 (by omega : 0 ≤ S * z + x + 1)
            omega
          obtain ⟨T, hT⟩ : ∃ T, S * z = T := ⟨_, rfl⟩
          rw [hT] at t0 t1 t3 hO2 hB4
          have tw : IntKind.i64.wrap T = T := IntWalk.i64_in _ (by omega)
          have tw1 : IntKind.i64.wrap (S * z) = T := by rw [hT]; exact tw
          have tw2 : IntKind.i64.wrap (T + x) = T + x := IntWalk.i64_in _ (by omega)
          have r0 : 0 ≤ T + x := by omega
          clear hB2 hB3 hP1 hBB hO x0 x1
          go_wp2
          go_quiet (fail)
          go_wp2
          go_quiet (fail)
          go_wp2
          clear tw tw1 tw2
          go_roundw
          case rel => exact ⟨k + 1, T + x, _, by first | rfl | rw [World.drewN_drewN], rfl, by go_num, by omega, r0, t3, hB4, hO2⟩
          case measure => simp [intOf]; omega
    · have e : of 0 zs xs = some S := by
        have h := hO.out
        rw [List.drop_of_length_le (by rw [HN.out]; omega), List.drop_of_length_le (by rw [HM.out]; omega)] at h
        exact h
      have HE := Lib.hid e
      clear e
      go_wp2
      refine bodyPost_ret (v := .tuple #[.int .i64 S, .bool true]) (by simp [results, Try.results36, go_sem]) rfl ⟨oE_some HE.out, by (repeat refine below_drewN ?_ _); exact hB⟩
set_option maxHeartbeats 4000000 in
theorem c36_bad (p q : Option Addr) (zs xs : List Int) (c d : Nat) (w : World) (hn : zs.length ≤ maxLen) (hxl : xs.length ≤ maxLen) (RA : Hid (SlI w p zs)) (hno : ¬ (mok zs = true ∧ xs.length = zs.length)) :
    Calls Try.prog 36 #[.agg #[.slice p zs.length c], .slice q xs.length d] w (DV (dA zs xs) w) := by
  rw [dA_no hno]
  have R1 := SlI.keep ((Below.refl _ _).alloc (Nat.le_refl _) (Obj.cells #[Value.slice p zs.length c] 41)) RA.out
  have R1 := Lib.hid R1
  have C := Lib.hid fun (y : World) (h : SlI y p zs) => c38 p zs c y hn (Lib.hid h)
  unfold maxLen at hxl hn
  by_cases hm : mok zs = true
  · have hl : ¬ xs.length = zs.length := fun h => hno ⟨hm, h⟩
    have k2 : (xs.length != zs.length) = true := by simpa using hl
    have k1 : ((xs.length : Int) != zs.length) = true := bne_iff_ne.2 (by omega)
    have k3 : (xs.length == zs.length) = false := by simpa using hl
    rw [mV_ok hm] at C
    clear hm hno hl
    go_enter Try.func36, Try.ntmps36
    go_wp2_with (go_at_call 38; refine (C.out _ R1.out).mono ?_; rintro e w' ⟨rfl, hb⟩; obtain ⟨hx, hB⟩ := boxed hb; clear hb)
    exact bodyPost_ret (v := .tuple #[.int .i64 0, .bool false]) (by simp [results, Try.results36, go_sem]) rfl ⟨rfl, hB⟩
  · have hV := mV_bad hm
    generalize mV zs = V at C hV
    clear hm hno
    go_enter Try.func36, Try.ntmps36
    go_wp2_with (go_at_call 38; refine (C.out _ R1.out).mono ?_; rintro e w' ⟨rfl, hb⟩; obtain ⟨hx, hB⟩ := boxed hb; clear hb)
    exact bodyPost_ret (v := .tuple #[.int .i64 0, .bool false]) (by simp [results, Try.results36, go_sem]) rfl ⟨rfl, hB⟩
theorem c36 (p q : Option Addr) (zs xs : List Int) (c d : Nat) (w : World) (hn : zs.length ≤ maxLen) (hxl : xs.length ≤ maxLen) (RA : Hid (SlI w p zs)) (RB : Hid (SlI w q xs)) :
    Calls Try.prog 36 #[.agg #[.slice p zs.length c], .slice q xs.length d] w (DV (dA zs xs) w) := by
  by_cases h : mok zs = true ∧ xs.length = zs.length
  · exact c36_ok p q zs xs c d w RA RB h.1 h.2
  · exact c36_bad p q zs xs c d w hn hxl RA h
end Go.Proofs.Ytjpcpdaokgkaoaa.Sh
