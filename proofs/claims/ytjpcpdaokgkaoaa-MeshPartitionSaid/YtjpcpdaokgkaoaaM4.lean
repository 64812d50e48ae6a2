/- Rank of package box in a valid mesh; Device. -/
import Derived.Test.YtjpcpdaokgkaoaaM3
namespace Go.Proofs.Ytjpcpdaokgkaoaa.Sh
open Go.ChangeShapes Go.WideShapes Go.ChangeAt Go.RowKit
set_option linter.unusedVariables false

theorem c34 (p : Option Addr) (zs : List Int) (c : Nat) (a0 : Int) (w : World) (hn : zs.length ≤ maxLen) (RA : Hid (SlI w p zs)) :
    Calls Try.prog 34 #[.agg #[.slice p zs.length c], .int .i64 a0] w (PW (cL zs a0) (cB zs a0) w) := by
  by_cases h : cB zs a0 = true
  · have e : cL zs a0 = pt zs a0 := by
      unfold cL pL
      have hm := (cB_valid h).1
      rw [if_pos hm]
      unfold cB at h
      rw [if_pos hm] at h
      rw [if_pos h]
    rw [e, h]
    exact c34_ok p zs c a0 w RA h
  · have h' : cB zs a0 = false := by simpa using h
    have e : cL zs a0 = [] := by
      unfold cL pL
      by_cases hm : mok zs = true
      · rw [if_pos hm]
        unfold cB at h
        rw [if_pos hm] at h
        rw [if_neg h]
      · rw [if_neg hm]
    rw [e, h']
    exact c34_bad p zs c a0 w hn RA h'
theorem of_some (zs : List Int) : ∀ (n m : Int) (xs : List Int), (of n zs xs).isSome = (of m zs xs).isSome := by
  induction zs with
  | nil => intro n m xs; cases xs <;> rfl
  | cons z zs ih =>
    intro n m xs
    cases xs with
    | nil => rfl
    | cons x xs =>
      by_cases h : 0 ≤ x ∧ x < z
      · rw [of_go h, of_go h]; exact ih _ _ _
      · rw [of_none h, of_none h]
set_option maxHeartbeats 4000000 in
/-- box.contains in a valid mesh. -/
theorem c54 (p q : Option Addr) (zs xs : List Int) (c d : Nat) (w : World) (hx : xs.length ≤ maxLen) (RA : Hid (SlI w p zs)) (RB : Hid (SlI w q xs)) (hm : mok zs = true) :
    Calls Try.prog 54 #[.slice p zs.length c, .slice q xs.length d] w fun e w' => e = .returned (.bool (oA zs xs).isSome) ∧ w = w' := by
  have C := Lib.hid (c55 p zs c w RA hm)
  obtain ⟨h1, h3, hlow, s0, s1, hv⟩ := mok_facts hm
  unfold maxLen at hx
  by_cases hl : xs.length = zs.length
  · rw [oA_ok hv hl]
    obtain ⟨n, hn⟩ : ∃ n, zs.length = n := ⟨_, rfl⟩
    have HN := Lib.hid hn
    have HM : Hid (xs.length = n) := Lib.hid (by omega)
    have hm' : xs.length = n := by omega
    rw [hn] at C h1 h3 ⊢
    rw [hm']
    clear hn hm' hl hv hm hlow s0 s1 hx
    obtain ⟨V, hV⟩ : ∃ V, (of 0 zs xs).isSome = V := ⟨_, rfl⟩
    rw [hV]
    have HV := Lib.hid hV
    clear hV
    go_enter Try.func54, Try.ntmps54
    go_wp2_with (go_at_call 55; refine (C.out).mono ?_; rintro e w' ⟨rfl, rfl⟩)
    go_loop [19] (fun i => ∃ (k : Nat), i = .int .i64 k ∧ k ≤ n ∧ Hid ((of 0 (zs.drop k) (xs.drop k)).isSome = V)) (fun i => n - (intOf i).toNat)
    case atStart => exact ⟨0, rfl, by omega, HV⟩
    case round =>
      obtain ⟨k, rfl, hk, hO⟩ := hrel
      by_cases hlt : k < n
      · obtain ⟨b, o, rfl, hc⟩ := RA.out k (by rw [HN.out]; exact hlt)
        obtain ⟨b', o', rfl, hc'⟩ := RB.out k (by rw [HM.out]; exact hlt)
        have dz := drop_cons (zs := zs) (k := k) (by rw [HN.out]; exact hlt)
        have dx := drop_cons (zs := xs) (k := k) (by rw [HM.out]; exact hlt)
        obtain ⟨z, hz⟩ : ∃ z, zs.getD k 0 = z := ⟨_, rfl⟩
        obtain ⟨x, hx⟩ : ∃ x, xs.getD k 0 = x := ⟨_, rfl⟩
        rw [hz] at hc dz
        rw [hx] at hc' dx
        have DZ := Lib.hid dz
        have DX := Lib.hid dx
        clear dz dx hz hx
        have b0 : (0 : Int) ≤ k := by omega
        have b1 : (k : Int) < n := by omega
        by_cases x0 : x < 0
        · have k1 : decide (x < 0) = true := by simpa using x0
          have e : V = false := by rw [← hO.out, DZ.out, DX.out, of_none (by omega)]; rfl
          have HE := Lib.hid e
          clear e x0
          go_wp2
          go_ret
          exact ⟨ret_bool HE.out.symm, rfl⟩
        · have k1 : decide (x < 0) = false := by simpa using x0
          by_cases x1 : z ≤ x
          · have k2 : decide (z ≤ x) = true := by simpa using x1
            have e : V = false := by rw [← hO.out, DZ.out, DX.out, of_none (by omega)]; rfl
            have HE := Lib.hid e
            clear e x0 x1
            go_wp2
            go_ret
            exact ⟨ret_bool HE.out.symm, rfl⟩
          · have k2 : decide (z ≤ x) = false := by simpa using x1
            have hO2 : Hid ((of 0 (zs.drop (k + 1)) (xs.drop (k + 1))).isSome = V) := Lib.hid (by rw [← hO.out, DZ.out, DX.out, of_go (by omega)]; exact of_some _ _ _ _)
            clear hO x0 x1
            go_wp2
            go_round
            case rel => exact ⟨k + 1, by go_num, by omega, hO2⟩
            case measure => simp [intOf]; omega
      · have e : V = true := by
          have h := hO.out
          rw [List.drop_of_length_le (by rw [HN.out]; omega), List.drop_of_length_le (by rw [HM.out]; omega)] at h
          exact h.symm
        have HE := Lib.hid e
        clear e
        go_wp2
        go_ret
        exact ⟨ret_bool HE.out.symm, rfl⟩
  · rw [oA_no fun h => hl h.2]
    have k2 : (xs.length != zs.length) = true := by simpa using hl
    have k1 : ((xs.length : Int) != zs.length) = true := bne_iff_ne.2 (by omega)
    have k3 : (xs.length == zs.length) = false := by simpa using hl
    clear hl hv hlow s0 s1 hm
    go_enter Try.func54, Try.ntmps54
    go_wp2_with (go_at_call 55; refine (C.out).mono ?_; rintro e w' ⟨rfl, rfl⟩)
    go_ret
    exact ⟨rfl, rfl⟩
theorem oA_parts {zs xs : List Int} (h : (oA zs xs).isSome = true) : vE zs = 0 ∧ xs.length = zs.length ∧ oA zs xs = of 0 zs xs := by
  unfold oA at h ⊢
  by_cases g : vE zs = 0 ∧ xs.length = zs.length
  · exact ⟨g.1, g.2, if_pos g⟩
  · rw [if_neg g] at h; cases h
theorem of_cons {n z x : Int} {zs xs : List Int} (h : (of n (z :: zs) (x :: xs)).isSome = true) : (0 ≤ x ∧ x < z) ∧ of n (z :: zs) (x :: xs) = of (n * z + x) zs xs := by
  by_cases g : 0 ≤ x ∧ x < z
  · exact ⟨g, of_go g⟩
  · rw [of_none g] at h; cases h
set_option maxHeartbeats 4000000 in
/-- box.Rank in a valid mesh. -/
theorem c51 (p q : Option Addr) (zs xs : List Int) (c d : Nat) (w : World) (hx : xs.length ≤ maxLen) (RA : Hid (SlI w p zs)) (RB : Hid (SlI w q xs)) (hm : mok zs = true) :
    Calls Try.prog 51 #[.slice p zs.length c, .slice q xs.length d] w fun e w' => e = oE (oA zs xs) ∧ w = w' := by
  have C := Lib.hid (c54 p q zs xs c d w hx RA RB hm)
  obtain ⟨h1, h3, hlow, s0, s1, hv⟩ := mok_facts hm
  obtain ⟨_, _, _, hS, hD⟩ := valid_of hv
  by_cases hs : (oA zs xs).isSome = true
  · obtain ⟨_, hl, he⟩ := oA_parts hs
    rw [hs] at C
    rw [he] at hs ⊢
    obtain ⟨n, hn⟩ : ∃ n, zs.length = n := ⟨_, rfl⟩
    have HN := Lib.hid hn
    have HM : Hid (xs.length = n) := Lib.hid (by omega)
    have hm' : xs.length = n := by omega
    rw [hn] at C h1 h3 ⊢
    rw [hm'] at C ⊢
    have HD := Lib.hid hD
    have S0 : (0 + 1) * sp (zs.drop 0) ≤ 4096 := by simpa using hS
    have HS0 := Lib.hid S0
    have HS := Lib.hid hs
    clear hn hm' hl hv hm hlow s0 s1 hx he hD hS S0 hs
    go_enter Try.func51, Try.ntmps51
    go_wp2_with (go_at_call 54; refine (C.out).mono ?_; rintro e w' ⟨rfl, rfl⟩)
    go_loop [6, 15] (fun s i => ∃ (k : Nat) (S : Int), s = .int .i64 S ∧ i = .int .i64 k ∧ k ≤ n ∧ 0 ≤ S ∧ S ≤ 4096 ∧ Hid ((S + 1) * sp (zs.drop k) ≤ 4096) ∧ Hid (of 0 zs xs = of S (zs.drop k) (xs.drop k))) (fun _ i => n - (intOf i).toNat)
    case atStart => exact ⟨0, 0, rfl, rfl, by omega, by omega, by omega, HS0, Lib.hid rfl⟩
    case round =>
      obtain ⟨k, S, rfl, rfl, hk, s0, s1, hB, hO⟩ := hrel
      by_cases hlt : k < n
      · obtain ⟨b, o, rfl, hc⟩ := RA.out k (by rw [HN.out]; exact hlt)
        obtain ⟨b', o', rfl, hc'⟩ := RB.out k (by rw [HM.out]; exact hlt)
        have dz := drop_cons (zs := zs) (k := k) (by rw [HN.out]; exact hlt)
        have dx := drop_cons (zs := xs) (k := k) (by rw [HM.out]; exact hlt)
        obtain ⟨z, hz⟩ : ∃ z, zs.getD k 0 = z := ⟨_, rfl⟩
        obtain ⟨x, hx⟩ : ∃ x, xs.getD k 0 = x := ⟨_, rfl⟩
        rw [hz] at hc dz
        rw [hx] at hc' dx
        have hso := HS.out
        rw [hO.out, dz, dx] at hso
        obtain ⟨⟨x0, x1⟩, hgo⟩ := of_cons hso
        have DZ := Lib.hid dz
        have hO2 : Hid (of 0 zs xs = of (S * z + x) (zs.drop (k + 1)) (xs.drop (k + 1))) := Lib.hid (by rw [hO.out, dz, dx, hgo])
        clear dz dx hz hx hso hgo
        have hP1 := (HD.out (k + 1)).1
        have hB2 := hB.out
        rw [DZ.out] at hB2
        change (S + 1) * (sp (zs.drop (k + 1)) * z) ≤ 4096 at hB2
        obtain ⟨t0, t1, t2, hB3⟩ := of_step (x := x) s0 hP1 hB2 (by omega) (by omega)
        have hB4 := Lib.hid hB3
        have t3 : S * z + x ≤ 4096 := by
          have := Int.mul_le_mul_of_nonneg_left hP1 (by omega : 0 ≤ S * z + x + 1)
          omega
        obtain ⟨T, hT⟩ : ∃ T, S * z = T := ⟨_, rfl⟩
        rw [hT] at t0 t1 t3 hO2 hB4
        clear hB2 hB3 hP1 hB hO
        have b0 : (0 : Int) ≤ k := by omega
        have b1 : (k : Int) < n := by omega
        go_wp2
        go_round
        case rel => exact ⟨k + 1, T + x, rfl, by go_num, by omega, by omega, by omega, hB4, hO2⟩
        case measure => simp [intOf]; omega
      · have e : of 0 zs xs = some S := by
          have h := hO.out
          rw [List.drop_of_length_le (by rw [HN.out]; omega), List.drop_of_length_le (by rw [HM.out]; omega)] at h
          exact h
        have HE := Lib.hid e
        clear e
        go_wp2
        refine bodyPost_ret (v := .tuple #[.int .i64 S, .bool true]) (by simp [results, Try.results51, go_sem]) rfl ⟨oE_some HE.out, rfl⟩
  · have hs' : (oA zs xs).isSome = false := by simpa using hs
    have e : oA zs xs = none := by simpa using hs'
    rw [hs'] at C
    rw [e]
    clear hs hs' e hv hlow s0 s1 hm hD hS
    go_enter Try.func51, Try.ntmps51
    go_wp2_with (go_at_call 54; refine (C.out).mono ?_; rintro e w' ⟨rfl, rfl⟩)
    refine bodyPost_ret (v := .tuple #[.int .i64 0, .bool false]) (by simp [results, Try.results51, go_sem]) rfl ⟨rfl, rfl⟩
/-- The device of a point of a mesh. -/
def dA (zs xs : List Int) : Option Int := if mok zs = true then oA zs xs else none
def DV (a : Option Int) (w : World) (e : Ending) (w' : World) : Prop := e = oE a ∧ Below w.heap.size w w'
set_option maxHeartbeats 4000000 in
theorem c35 (p q : Option Addr) (zs xs : List Int) (c d : Nat) (w : World) (hn : zs.length ≤ maxLen) (hx : xs.length ≤ maxLen) (RA : Hid (SlI w p zs)) (RB : Hid (SlI w q xs)) :
    Calls Try.prog 35 #[.agg #[.slice p zs.length c], .slice q xs.length d] w (DV (dA zs xs) w) := by
  have R1 := SlI.keep ((Below.refl _ _).alloc (Nat.le_refl _) (Obj.cells #[Value.slice p zs.length c] 41)) RA.out
  have R1 := Lib.hid R1
  have C := Lib.hid fun (y : World) (h : SlI y p zs) => c37 p zs c y hn (Lib.hid h)
  by_cases hv : mok zs = true
  · have D := Lib.hid fun (y : World) (h : SlI y p zs) (h' : SlI y q xs) => c51 p q zs xs c d y hx (Lib.hid h) (Lib.hid h') hv
    rw [mV_ok hv] at C
    rw [show dA zs xs = oA zs xs from if_pos hv]
    generalize oA zs xs = A at D ⊢
    have D2 : Hid (∀ y, SlI y p zs → SlI y q xs → Calls Try.prog 51 #[.slice p zs.length c, .slice q xs.length d] y fun e w' => e = .returned (.tuple #[.int .i64 (A.getD 0), .bool A.isSome]) ∧ y = w') := D
    clear D
    unfold DV oE
    generalize A.getD 0 = A1 at D2 ⊢
    generalize A.isSome = A2 at D2 ⊢
    clear hv hn hx
    go_enter Try.func35, Try.ntmps35
    go_wp2_with (first | (go_at_call 37; refine (C.out _ R1.out).mono ?_; rintro e w' ⟨rfl, hb⟩; obtain ⟨hx, hB⟩ := boxed hb; have RS := Lib.hid (SlI.keep hB RA.out); have RT := Lib.hid (SlI.keep hB RB.out); clear hb) | (go_at_call 51; refine (D2.out _ RS.out RT.out).mono ?_; rintro e w' ⟨rfl, rfl⟩))
    exact bodyPost_ret (v := .tuple #[.int .i64 A1, .bool A2]) (by simp [results, Try.results35, go_sem]) rfl ⟨rfl, hB⟩
  · have hV := mV_bad hv
    rw [show dA zs xs = none from if_neg hv]
    generalize mV zs = V at C hV
    clear hv hn hx
    go_enter Try.func35, Try.ntmps35
    go_wp2_with (go_at_call 37; refine (C.out _ R1.out).mono ?_; rintro e w' ⟨rfl, hb⟩; obtain ⟨hx, hB⟩ := boxed hb; clear hb)
    exact bodyPost_ret (v := .tuple #[.int .i64 0, .bool false]) (by simp [results, Try.results35, go_sem]) rfl ⟨rfl, hB⟩
end Go.Proofs.Ytjpcpdaokgkaoaa.Sh
