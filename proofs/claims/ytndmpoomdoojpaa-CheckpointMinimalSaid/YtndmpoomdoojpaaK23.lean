/- The statement on the least cost: its walk. -/
import Derived.Test.YtndmpoomdoojpaaKM4
import Derived.Test.YtndmpoomdoojpaaK6
namespace Go.Proofs.Ytndmpoomdoojpaa.Ck
open Go.ChangeShapes Go.WideShapes Go.ChangeAt Go.RowKit
set_option linter.unusedVariables false

set_option maxRecDepth 100000 in
set_option maxHeartbeats 8000000 in
theorem law_min (n s : Int) (p : Option Addr) (xs : List Act3) (c : Nat) (m : Int) (w : World) (hn : xs.length ≤ maxLen) (RA : Hid (SlA w p xs)) (m0 : 0 ≤ m) (m1 : m ≤ 255) :
    Calls Try.prog 10 #[.int .i64 n, .int .i64 s, .slice p xs.length c, .int .u8 m] w fun e w' => e = .returned (.bool true) ∧ Below w.heap.size w w' := by
  have EX := Lib.hid ex28
  by_cases h4 : 400 < xs.length
  · have l1 : decide ((400 : Int) < xs.length) = true := decide_eq_true (by omega)
    have l2 : decide (400 < xs.length) = true := decide_eq_true h4
    go_enter Try.func10, Try.ntmps10
    go_wp2_with (go_at_call 22; refine (EX.out _).mono ?_; rintro e w1 ⟨rfl, hb1⟩)
    go_ret
    exact ⟨rfl, hb1⟩
  · have l1 : decide ((400 : Int) < xs.length) = false := decide_eq_false (by omega)
    have l2 : decide (400 < xs.length) = false := decide_eq_false h4
    obtain ⟨V, hV⟩ : ∃ V, ck n s xs = V := ⟨_, rfl⟩
    obtain ⟨x, y⟩ := V
    have C1 := Lib.hid (by have h := cp p xs c n s w hn RA; rw [hV] at h; exact h)
    by_cases hy : y = 0
    · subst hy
      obtain ⟨⟨n0, n1, s0, s1⟩, hx, hw⟩ := ck_min (by omega) hV
      have C2 := Lib.hid fun w => cost_ok (n := n) (s := s) ⟨n0, n1, s0, s1⟩ w
      obtain ⟨b, hb⟩ : ∃ b, co n s = b := ⟨_, rfl⟩
      have wide : ∀ z, s ≤ z → z ≤ 64 → co n z ≤ b ∧ ck n z xs = (x, 0) := fun z h1 h2 => by
        refine ⟨?_, hw z h1 h2⟩
        have := co_wide n0 n1 s0 (z - s).toNat (by omega)
        rw [show s + ((z - s).toNat : Int) = z by omega, hb] at this
        exact this
      rw [hb] at C2 hx
      have d1 : decide (b ≤ x) = true := decide_eq_true hx
      have HW := Lib.hid wide
      clear wide hw hb hx hV
      by_cases hm : 64 ≤ s + m
      all_goals
        first
        | (have hz : s ≤ 64 := by omega
           obtain ⟨hz1, hz2⟩ := HW.out 64 (by omega) (by omega)
           obtain ⟨d, hd⟩ : ∃ d, co n 64 = d := ⟨_, rfl⟩
           have C3 := Lib.hid (fun w1 (hb : Below w.heap.size w w1) => by have h := cp p xs c n 64 w1 hn (Lib.hid (SlA.keep hb RA.out)); rw [hz2] at h; exact h)
           have C4 := Lib.hid fun w => cost_ok (n := n) (s := 64) ⟨n0, n1, by omega, by omega⟩ w
           have q1 : decide (s + m < 64) = false := decide_eq_false (by omega)
           rw [hd] at C4 hz1)
        | (obtain ⟨hz1, hz2⟩ := HW.out (s + m) (by omega) (by omega)
           obtain ⟨d, hd⟩ : ∃ d, co n (s + m) = d := ⟨_, rfl⟩
           have C3 := Lib.hid (fun w1 (hb : Below w.heap.size w w1) => by have h := cp p xs c n (s + m) w1 hn (Lib.hid (SlA.keep hb RA.out)); rw [hz2] at h; exact h)
           have C4 := Lib.hid fun w => cost_ok (n := n) (s := s + m) ⟨n0, n1, by omega, by omega⟩ w
           have q1 : decide (s + m < 64) = true := decide_eq_true (by omega)
           have q2 : s + m < 64 := by omega
           rw [hd] at C4 hz1)
        have d2 : decide (d ≤ b) = true := decide_eq_true hz1
        clear HW hz1 hz2 hd
        go_enter Try.func10, Try.ntmps10
        go_wp2_with fail
        refine (C1.out).mono ?_
        rintro e w1 ⟨rfl, hb1⟩
        unfold NE
        go_wp2_with fail
        refine (C2.out _).mono ?_
        rintro e w2 ⟨rfl, rfl⟩
        go_wp2_with fail
        all_goals
          first | (exfalso; omega) | skip
          refine (C3.out _ hb1).mono ?_
          rintro e w3 ⟨rfl, hb3⟩
          unfold NE
          have kb3 := hb1.trans (hb3.mono hb1.size)
          go_wp2_with fail
          refine (C4.out _).mono ?_
          rintro e w4 ⟨rfl, rfl⟩
          go_wp2_with fail
          refine (EX.out _).mono ?_
          rintro e w5 ⟨rfl, hb5⟩
          have kb5 := kb3.trans (hb5.mono kb3.size)
          go_wp2
          go_ret
          exact ⟨rfl, kb5⟩
    · have e1 : (y == 0) = false := beq_false_of_ne hy
      have e2 : (y != 0) = true := bne_iff_ne.2 hy
      have e3 : decide (y = 0) = false := decide_eq_false hy
      clear hV hy
      go_enter Try.func10, Try.ntmps10
      go_wp2_with fail
      refine (C1.out).mono ?_
      rintro e w1 ⟨rfl, hb1⟩
      unfold NE
      go_wp2_with fail
      refine (EX.out _).mono ?_
      rintro e w2 ⟨rfl, hb2⟩
      have kb2 := hb1.trans (hb2.mono hb1.size)
      go_wp2
      go_ret
      exact ⟨rfl, kb2⟩
theorem law_min' (n s : Int) (p : Option Addr) (xs : List Act3) (c : Nat) (m : Int) (w : World) {X Y : Prop} (_ : X) (_ : Y) (hl : xs.length ≤ c) (hm : c ≤ maxLen) (RA : Hid (SlA w p xs)) (RB : ∀ z ∈ xs, (-9223372036854775808 ≤ z.2.1 ∧ z.2.1 ≤ 9223372036854775807) ∧ (-9223372036854775808 ≤ z.2.2 ∧ z.2.2 ≤ 9223372036854775807)) (hb : 0 ≤ m ∧ m ≤ 255) :
    Calls Try.prog 10 #[.int .i64 n, .int .i64 s, .slice p xs.length c, .int .u8 m] w fun e w' => e = .returned (.bool true) ∧ Below w.heap.size w w' :=
  law_min n s p xs c m w (Nat.le_trans hl hm) RA hb.1 hb.2
end Go.Proofs.Ytndmpoomdoojpaa.Ck
