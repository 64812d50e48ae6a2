/- Linear forms: near numbers. -/
import Derived.Test.YthdeaneffnlffaaY46
namespace Go.Proofs.Ythdeaneffnlffaa.Ln
open Go.ChangeShapes Go.WideShapes Go.ChangeAt Go.RowKit
set_option linter.unusedVariables false
set_option linter.unusedSimpArgs false
theorem near1 (n : Int) (w : World) : Calls Try.prog 32 #[.int .i64 n] w fun e w' => e = .returned (.bool (nr n)) ∧ w = w' := by
  have HR := Lib.hid (show nr n = (decide (-1048576 ≤ n) && decide (n ≤ 1048576)) from rfl)
  by_cases h1 : -1048576 ≤ n
  · by_cases h2 : n ≤ 1048576
    · have HF := Lib.hid (HR.out.trans (by rw [decide_eq_true h1, decide_eq_true h2]))
      go_enter Try.func32, Try.ntmps32
      go_wp2
      go_ret
      exact ⟨ret_bool HF.out.symm, rfl⟩
    · have HF := Lib.hid (HR.out.trans (by rw [decide_eq_true h1, decide_eq_false h2]))
      go_enter Try.func32, Try.ntmps32
      go_wp2
      go_ret
      exact ⟨ret_bool HF.out.symm, rfl⟩
  · have HF := Lib.hid (HR.out.trans (by rw [decide_eq_false h1, Bool.false_and]))
    go_enter Try.func32, Try.ntmps32
    go_wp2
    go_ret
    exact ⟨ret_bool HF.out.symm, rfl⟩
set_option maxRecDepth 100000 in
set_option maxHeartbeats 8000000 in
theorem nearLin1 (k : Int) (p : Option Addr) (xs : List Mo) (c : Nat) (w : World) (hn : xs.length ≤ maxLen) (RA : Hid (SlM w p xs)) :
    Calls Try.prog 28 #[Lv k p xs.length c] w fun e w' => e = .returned (.bool (nlB k xs)) ∧ Below w.heap.size w w' := by
  have CN := Lib.hid near1
  have C0 := Lib.hid fun w R => small2 k p xs c w hn R
  have B0 : Below w.heap.size w (w.alloc (Obj.cells #[Value.int .i64 k, Value.slice p xs.length c] 24)) := (Below.refl _ _).alloc (Nat.le_refl _) _
  have F : Cl [(w.heap.size, 0, .int .i64 k), (w.heap.size, 1, .slice p xs.length c)] (w.alloc (Obj.cells #[Value.int .i64 k, Value.slice p xs.length c] 24)) := Cl.cons (by go_cell) (by first | go_cell | simp) (Cl.cons (by go_cell) (by first | go_cell | simp) (Cl.nil _))
  unfold maxLen at hn
  obtain ⟨R, hR⟩ : ∃ R, nlB k xs = R := ⟨_, rfl⟩
  rw [hR]
  obtain ⟨v, hv⟩ : ∃ v, smB xs = v := ⟨_, rfl⟩
  obtain ⟨v2, hv2⟩ : ∃ v, nr k = v := ⟨_, rfl⟩
  rw [show nlB k xs = (smB xs && nr k && xs.all fun m => nr m.2) from rfl, hv, hv2] at hR
  have HR := Lib.hid hR
  have CK := Lib.hid fun w => near1 k w
  rw [hv2] at CK
  rw [hv] at C0
  clear hR hv hv2
  unfold Lv at *
  cases v
  case false =>
    obtain rfl : false = R := HR.out
    go_enter Try.func28, Try.ntmps28
    go_wp2_with fail
    generalize (w.alloc (Obj.cells #[Value.int .i64 k, Value.slice p xs.length c] 24)) = z at *
    refine (C0.out _ (RA.out.up B0)).mono ?_
    rintro e w1 ⟨rfl, hb⟩
    have K := B0.trans (hb.mono B0.size)
    clear hb F B0
    go_wp2
    go_ret
    exact ⟨rfl, K⟩
  case true =>
    cases v2
    case false =>
      obtain rfl : false = R := HR.out
      go_enter Try.func28, Try.ntmps28
      go_wp2_with fail
      generalize (w.alloc (Obj.cells #[Value.int .i64 k, Value.slice p xs.length c] 24)) = z at *
      refine (C0.out _ (RA.out.up B0)).mono ?_
      rintro e w1 ⟨rfl, hb⟩
      have F1 := F.below hb
      have K := B0.trans (hb.mono B0.size)
      clear hb F B0
      have f0 := F1.head
      have f1 := F1.tail.head
      go_wp2_with fail
      refine (CK.out _).mono ?_
      rintro e w2 ⟨rfl, rfl⟩
      go_wp2
      go_ret
      exact ⟨rfl, K⟩
    case true =>
      have HT := Lib.hid (show (xs.all fun m => nr m.2) = R by rw [← HR.out]; simp)
      clear HR
      go_enter Try.func28, Try.ntmps28
      go_wp2_with fail
      generalize (w.alloc (Obj.cells #[Value.int .i64 k, Value.slice p xs.length c] 24)) = z at *
      refine (C0.out _ (RA.out.up B0)).mono ?_
      rintro e w1 ⟨rfl, hb⟩
      have F1 := F.below hb
      have K := B0.trans (hb.mono B0.size)
      clear hb F B0
      have f0 := F1.head
      have f1 := F1.tail.head
      go_wp2_with fail
      refine (CK.out _).mono ?_
      rintro e w2 ⟨rfl, rfl⟩
      have RA1 := Lib.hid (SlM.keep K RA.out)
      go_wp2_with fail
      go_loopw [3] (fun i wr => ∃ j : Nat, i = .int .i64 (j : Int) ∧ j ≤ xs.length ∧ wr = w1 ∧ Hid (∀ m ∈ xs.take j, nr m.2 = true)) (fun i _ => xs.length - (intOf i).toNat)
      case atStart => exact ⟨0, rfl, by omega, rfl, Lib.hid (by simp)⟩
      case round =>
        obtain ⟨j, rfl, hk, rfl, HJ⟩ := hrel
        have k0 : (0 : Int) ≤ j := by omega
        by_cases hlt : j < xs.length
        · obtain ⟨b, o, rfl, c0, c1⟩ := RA1.out j hlt
          have htk := Lib.hid (take_step hlt)
          have hmem := Lib.hid (getD_mem hlt)
          obtain ⟨x, hx⟩ : ∃ x, xs.getD j mo0 = x := ⟨_, rfl⟩
          have htk := Lib.hid (by have h := htk.out; rw [hx] at h; exact h)
          have hmem := Lib.hid (by have h := hmem.out; rw [hx] at h; exact h)
          rw [hx] at c0 c1
          clear hx
          obtain ⟨s, a⟩ := x
          simp only at c0 c1
          have k1 : (j : Int) < xs.length := by omega
          have CA := CN.out a wr
          obtain ⟨v3, hv3⟩ : ∃ v, nr a = v := ⟨_, rfl⟩
          rw [hv3] at CA
          have CA := Lib.hid CA
          have HV := Lib.hid hv3
          clear hv3
          cases v3
          · have HF := Lib.hid (HT.out.symm.trans (show (xs.all fun m => nr m.2) = false from by
              rw [List.all_eq_false]
              exact ⟨_, hmem.out, by simp [HV.out]⟩))
            go_wp2_with fail
            refine CA.out.mono ?_
            rintro e w2 ⟨rfl, rfl⟩
            go_wp2
            go_ret
            exact ⟨ret_bool HF.out.symm, K⟩
          · have HJ2 : Hid (∀ m ∈ xs.take (j + 1), nr m.2 = true) := Lib.hid (by
              rw [htk.out]
              intro m hm
              rcases List.mem_append.1 hm with h | h
              · exact HJ.out m h
              · rw [List.mem_singleton] at h; rw [h]; exact HV.out)
            go_wp2_with fail
            refine CA.out.mono ?_
            rintro e w2 ⟨rfl, rfl⟩
            go_wp2
            go_roundw
            case rel => exact ⟨j + 1, by go_num, by omega, by first | rfl | trivial, HJ2⟩
            case measure => simp [intOf]; omega
        · have k1 : ¬ (j : Int) < xs.length := by omega
          have HF := Lib.hid (HT.out.symm.trans (show (xs.all fun m => nr m.2) = true from by
            rw [List.all_eq_true]
            have h := HJ.out
            rw [List.take_of_length_le (by omega)] at h
            intro m hm
            simpa using h m hm))
          go_wp2
          go_ret
          exact ⟨ret_bool HF.out.symm, K⟩
set_option maxRecDepth 100000 in
set_option maxHeartbeats 8000000 in
theorem nearEnv1 (p : Option Addr) (xs : List Mo) (c : Nat) (w : World) (hn : xs.length ≤ maxLen) (RA : Hid (SlM w p xs)) :
    Calls Try.prog 29 #[.slice p xs.length c] w fun e w' => e = .returned (.bool (neB xs)) ∧ w = w' := by
  have CN := Lib.hid near1
  unfold maxLen at hn
  by_cases h40 : 40 < xs.length
  · have d1 : (40 : Int) < xs.length := by omega
    have HT := Lib.hid (show neB xs = false by unfold neB; rw [decide_eq_false (by omega)]; rfl)
    go_enter Try.func29, Try.ntmps29
    go_wp2
    go_ret
    exact ⟨ret_bool HT.out.symm, rfl⟩
  · have d1 : ¬ (40 : Int) < xs.length := by omega
    have HT := Lib.hid (show neB xs = xs.all fun m => nr m.2 by unfold neB; rw [decide_eq_true (by omega)]; rfl)
    go_enter Try.func29, Try.ntmps29
    go_wp2
    go_loopw [3] (fun i wr => ∃ j : Nat, i = .int .i64 (j : Int) ∧ j ≤ xs.length ∧ wr = w ∧ Hid (∀ m ∈ xs.take j, nr m.2 = true)) (fun i _ => xs.length - (intOf i).toNat)
    case atStart => exact ⟨0, rfl, by omega, rfl, Lib.hid (by simp)⟩
    case round =>
      obtain ⟨j, rfl, hk, rfl, HJ⟩ := hrel
      have k0 : (0 : Int) ≤ j := by omega
      by_cases hlt : j < xs.length
      · obtain ⟨b, o, rfl, c0, c1⟩ := RA.out j hlt
        have htk := Lib.hid (take_step hlt)
        have hmem := Lib.hid (getD_mem hlt)
        obtain ⟨x, hx⟩ : ∃ x, xs.getD j mo0 = x := ⟨_, rfl⟩
        have htk := Lib.hid (by have h := htk.out; rw [hx] at h; exact h)
        have hmem := Lib.hid (by have h := hmem.out; rw [hx] at h; exact h)
        rw [hx] at c0 c1
        clear hx
        obtain ⟨s, a⟩ := x
        simp only at c0 c1
        have k1 : (j : Int) < xs.length := by omega
        have CA := CN.out a wr
        obtain ⟨v3, hv3⟩ : ∃ v, nr a = v := ⟨_, rfl⟩
        rw [hv3] at CA
        have CA := Lib.hid CA
        have HV := Lib.hid hv3
        clear hv3
        cases v3
        · have HF := Lib.hid (HT.out.trans (show (xs.all fun m => nr m.2) = false from by
            rw [List.all_eq_false]
            exact ⟨_, hmem.out, by simp [HV.out]⟩))
          go_wp2_with fail
          refine CA.out.mono ?_
          rintro e w2 ⟨rfl, rfl⟩
          go_wp2
          go_ret
          exact ⟨ret_bool HF.out.symm, rfl⟩
        · have HJ2 : Hid (∀ m ∈ xs.take (j + 1), nr m.2 = true) := Lib.hid (by
            rw [htk.out]
            intro m hm
            rcases List.mem_append.1 hm with h | h
            · exact HJ.out m h
            · rw [List.mem_singleton] at h; rw [h]; exact HV.out)
          go_wp2_with fail
          refine CA.out.mono ?_
          rintro e w2 ⟨rfl, rfl⟩
          go_wp2
          go_roundw
          case rel => exact ⟨j + 1, by go_num, by omega, by first | rfl | trivial, HJ2⟩
          case measure => simp [intOf]; omega
      · have k1 : ¬ (j : Int) < xs.length := by omega
        have HF := Lib.hid (HT.out.trans (show (xs.all fun m => nr m.2) = true from by
          rw [List.all_eq_true]
          have h := HJ.out
          rw [List.take_of_length_le (by omega)] at h
          intro m hm
          simpa using h m hm))
        go_wp2
        go_ret
        exact ⟨ret_bool HF.out.symm, rfl⟩
end Go.Proofs.Ythdeaneffnlffaa.Ln
