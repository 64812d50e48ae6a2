/- Lifetimes: the law on the extremes. -/
import Derived.Test.YtipeapjbodnagaaL9
namespace Go.Proofs.Ytipeapjbodnagaa.Lv
open Go.ChangeShapes Go.WideShapes Go.ChangeAt Go.RowKit
set_option linter.unusedVariables false

set_option maxRecDepth 100000 in
set_option maxHeartbeats 16000000 in
theorem law_ext (p : Option Addr) (xs : List Lf) (c : Nat) (w : World) (hn : xs.length ≤ maxLen) (RA : Hid (SlL w p xs)) (RS : Hid (∀ i, i < xs.length → (xs.getD i lf0).1.size ≤ maxLen)) :
    Calls Try.prog 14 #[.slice p xs.length c] w fun e w' => e = .returned (.bool true) ∧ Below w.heap.size w w' := by
  have EX := Lib.hid alive
  by_cases h4 : 30 < xs.length
  · have l1 : decide ((30 : Int) < xs.length) = true := decide_eq_true (by omega)
    have l2 : decide (30 < xs.length) = true := decide_eq_true h4
    go_enter Try.func14, Try.ntmps14
    go_wp2_with (go_at_call 43; refine (EX.out _).mono ?_; rintro e w1 ⟨rfl, hb1⟩)
    go_ret
    exact ⟨rfl, hb1⟩
  have l1 : decide ((30 : Int) < xs.length) = false := decide_eq_false (by omega)
  have l2 : decide (30 < xs.length) = false := decide_eq_false h4
  have C1 := Lib.hid (rval p xs c w (by omega) RA RS)
  by_cases hv : vE xs = 0
  · rw [hv] at C1
    have HV := Lib.hid hv
    clear hv
    go_enter Try.func14, Try.ntmps14
    go_wp2_with fail
    refine (C1.out).mono ?_
    rintro e w1 ⟨rfl, hb1⟩
    clear C1
    go_wp2_with fail
    go_loopw [3, 4, 5] (fun a b j wr => ∃ i : Nat, j = .int .i64 (i : Int) ∧ i ≤ xs.length ∧ a = .bool (noB xs i) ∧ b = .bool (alB xs i) ∧ Below w.heap.size w wr) (fun _ _ j _ => xs.length - (intOf j).toNat)
    case atStart => exact ⟨0, rfl, by omega, rfl, rfl, hb1⟩
    case round =>
      obtain ⟨i, rfl, hi, rfl, rfl, hB⟩ := hrel
      by_cases hlt : i < xs.length
      · have i0 : (0 : Int) ≤ i := by omega
        have i1 : (i : Int) < xs.length := by omega
        have hNs := noB_step xs i
        have hAs := alB_step xs i
        obtain ⟨N0, hN0⟩ : ∃ N0, noB xs i = N0 := ⟨_, rfl⟩
        obtain ⟨A0, hA0⟩ : ∃ A0, alB xs i = A0 := ⟨_, rfl⟩
        rw [hN0] at hNs ⊢
        rw [hA0] at hAs ⊢
        have HNs := Lib.hid hNs
        have HAs := Lib.hid hAs
        clear hNs hAs hN0 hA0
        go_wp2
        go_loopw [3, 4, 6] (fun a b j wr => ∃ k : Nat, j = .int .i64 (k : Int) ∧ k ≤ i ∧ a = .bool (N0 && noR xs i k) ∧ b = .bool (A0 && alR xs i k) ∧ Below w.heap.size w wr) (fun _ _ j _ => i - (intOf j).toNat)
        case atStart => exact ⟨0, rfl, by omega, by simp [noR], by simp [alR], hB⟩
        case round =>
          obtain ⟨k, rfl, hk, rfl, rfl, hB2⟩ := hrel
          by_cases hlt2 : k < i
          · have hk3 : k < xs.length := by omega
            have hNr := noR_step xs i k
            have hAr := alR_step xs i k
            obtain ⟨b, o, rfl, c0, c1, c2, c3⟩ := RA.out i hlt
            obtain ⟨b', o', e, d0, d1, d2, d3⟩ := RA.out k hk3
            cases e
            have hb : b < w.heap.size := by have := World.block_lt_of_cell? w _ c0; simpa using this
            have c0 := kpb hB2 hb c0
            have c1 := kpb hB2 hb c1
            have c2 := kpb hB2 hb c2
            have c3 := kpb hB2 hb c3
            have d0 := kpb hB2 hb d0
            have d1 := kpb hB2 hb d1
            have d2 := kpb hB2 hb d2
            have d3 := kpb hB2 hb d3
            obtain ⟨x, hx⟩ : ∃ x, xs.getD i lf0 = x := ⟨_, rfl⟩
            obtain ⟨y, hy⟩ : ∃ y, xs.getD k lf0 = y := ⟨_, rfl⟩
            rw [hx] at c0 c1 c2 c3 hNr hAr
            rw [hy] at d0 d1 d2 d3 hNr hAr
            clear hx hy
            have OV := Lib.hid fun w => over1 x y w
            obtain ⟨s, f, t, z⟩ := x
            obtain ⟨s', f', t', z'⟩ := y
            simp only at c0 c1 c2 c3 d0 d1 d2 d3
            unfold Lv4 at OV
            simp only at OV
            obtain ⟨q, hq⟩ : ∃ q, ov (s, f, t, z) (s', f', t', z') = q := ⟨_, rfl⟩
            rw [hq] at OV hNr hAr
            clear hq
            obtain ⟨N1, hN1⟩ : ∃ N1, (N0 && noR xs i k) = N1 := ⟨_, rfl⟩
            obtain ⟨A1, hA1⟩ : ∃ A1, (A0 && alR xs i k) = A1 := ⟨_, rfl⟩
            have HNr : Hid ((N0 && noR xs i (k + 1)) = (N1 && !q)) := Lib.hid (by rw [hNr, ← hN1, Bool.and_assoc])
            have HAr : Hid ((A0 && alR xs i (k + 1)) = (A1 && q)) := Lib.hid (by rw [hAr, ← hA1, Bool.and_assoc])
            rw [hN1, hA1]
            clear hNr hAr hN1 hA1
            have k0 : (0 : Int) ≤ k := by omega
            have k1 : (k : Int) < i := by omega
            have k2 : (k : Int) < xs.length := by omega
            have hbr : b < wr.heap.size := by have := hB2.size; omega
            have HS : Hid (∀ w', Below wr.heap.size wr w' → w'.cell? ⟨b, o + i * 4, none⟩ = some (Value.string s) ∧ w'.cell? ⟨b, o + i * 4 + 1, none⟩ = some (.int .i64 f) ∧ w'.cell? ⟨b, o + i * 4 + 2, none⟩ = some (.int .i64 t) ∧ w'.cell? ⟨b, o + i * 4 + 3, none⟩ = some (.int .i64 z) ∧ w'.cell? ⟨b, o + k * 4, none⟩ = some (Value.string s') ∧ w'.cell? ⟨b, o + k * 4 + 1, none⟩ = some (.int .i64 f') ∧ w'.cell? ⟨b, o + k * 4 + 2, none⟩ = some (.int .i64 t') ∧ w'.cell? ⟨b, o + k * 4 + 3, none⟩ = some (.int .i64 z') ∧ Below wr.heap.size wr w') := Lib.hid (fun w' h => ⟨kp h hbr c0, kp h hbr c1, kp h hbr c2, kp h hbr c3, kp h hbr d0, kp h hbr d1, kp h hbr d2, kp h hbr d3, h⟩)
            clear c0 c1 c2 c3 d0 d1 d2 d3
            go_wp2_with fail
            go_region_held3 (fun w' => w'.cell? ⟨b, o + i * 4, none⟩ = some (Value.string s) ∧ w'.cell? ⟨b, o + i * 4 + 1, none⟩ = some (.int .i64 f) ∧ w'.cell? ⟨b, o + i * 4 + 2, none⟩ = some (.int .i64 t) ∧ w'.cell? ⟨b, o + i * 4 + 3, none⟩ = some (.int .i64 z) ∧ w'.cell? ⟨b, o + k * 4, none⟩ = some (Value.string s') ∧ w'.cell? ⟨b, o + k * 4 + 1, none⟩ = some (.int .i64 f') ∧ w'.cell? ⟨b, o + k * 4 + 2, none⟩ = some (.int .i64 t') ∧ w'.cell? ⟨b, o + k * 4 + 3, none⟩ = some (.int .i64 z') ∧ Below wr.heap.size wr w') (first | exact HS.out _ (by assumption) | exact HS.out _ (Below.drew (Below.refl _ _)) | exact HS.out _ (Below.refl _ _) | exact HS.out _ (Below.drew (by assumption)))
              (first | (go_at_call 41; obtain ⟨_, _, _, _, _, _, _, _, iB⟩ := ‹_ ∧ _ ∧ _ ∧ _ ∧ _ ∧ _ ∧ _ ∧ _ ∧ Below _ _ _›; (with_reducible refine (OV.out _).mono ?_); rintro e u ⟨rfl, hb⟩; have jB := iB.trans (hb.mono iB.size)))
            have hB3 := hB2.trans (jB.mono hB2.size)
            clear HS iB jB
            cases N1 <;> cases A1 <;> cases q
            all_goals
              go_wp2
              go_roundw
              case rel => exact ⟨k + 1, by go_num, by omega, by rw [HNr.out]; rfl, by rw [HAr.out]; rfl, hB3⟩
              case measure => simp [intOf]; omega
          · obtain rfl : k = i := by omega
            go_wp2
            go_roundw
            case rel => exact ⟨k + 1, by go_num, by omega, by rw [HNs.out], by rw [HAs.out], hB2⟩
            case measure => simp [intOf]; omega
      · obtain rfl : i = xs.length := by omega
        have C2 := Lib.hid (pml p xs c wr (by omega) (Lib.hid (RA.out.keep' hB)))
        have e1 := ex1 xs
        have e2 := fun h => ex2 (xs := xs) h
        have e3 := fun h => ex3 HV.out h
        have e0 := ml_nonneg xs
        obtain ⟨N1, hN1⟩ : ∃ N1, noB xs xs.length = N1 := ⟨_, rfl⟩
        obtain ⟨A1, hA1⟩ : ∃ A1, alB xs xs.length = A1 := ⟨_, rfl⟩
        rw [hN1] at e2 ⊢
        rw [hA1] at e3 ⊢
        obtain ⟨m, hm⟩ : ∃ m, ml xs = m := ⟨_, rfl⟩
        rw [hm] at e0 e1 e2 e3 C2
        clear hN1 hA1 hm
        have d0 : decide (m ≤ (xs.length : Int)) = true := decide_eq_true e1
        cases N1 <;> cases A1
        all_goals
          first
          | (have e2' := e2 rfl; have d1 : decide (m ≤ 1) = true := decide_eq_true e2')
          | skip
          first
          | (have d2 : (m == (xs.length : Int)) = true := beq_iff_eq.2 (e3 rfl))
          | skip
          clear e2 e3
          go_wp2_with fail
          refine (C2.out).mono ?_
          rintro e w3 ⟨rfl, hb3⟩
          have kb3 := hB.trans (hb3.mono hB.size)
          go_wp2_with fail
          refine (EX.out _).mono ?_
          rintro e w4 ⟨rfl, hb4⟩
          have kb4 := kb3.trans (hb4.mono kb3.size)
          go_wp2
          go_ret
          exact ⟨rfl, kb4⟩
  · generalize vE xs = v at *
    have e1 : (v == 0) = false := beq_false_of_ne hv
    have e2 : (v != 0) = true := bne_iff_ne.2 hv
    clear hv
    go_enter Try.func14, Try.ntmps14
    go_wp2_with fail
    refine (C1.out).mono ?_
    rintro e w1 ⟨rfl, hb1⟩
    go_wp2_with fail
    refine (EX.out _).mono ?_
    rintro e w2 ⟨rfl, hb2⟩
    have kb2 := hb1.trans (hb2.mono hb1.size)
    go_wp2
    go_ret
    exact ⟨rfl, kb2⟩
end Go.Proofs.Ytipeapjbodnagaa.Lv
