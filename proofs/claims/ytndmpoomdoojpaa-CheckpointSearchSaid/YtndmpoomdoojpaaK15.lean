/- Do of the reference: a step back. -/
import Derived.Test.YtndmpoomdoojpaaK13
namespace Go.Proofs.Ytndmpoomdoojpaa.Ck
open Go.ChangeShapes Go.WideShapes Go.ChangeAt Go.RowKit
set_option linter.unusedVariables false

set_option maxRecDepth 100000 in
set_option maxHeartbeats 16000000 in
theorem do4 (n : Int) (s : Nat) (held : List Int) (now left cost : Int) (A z : Int) (v : Value) (w : World) (base : Nat) (hb : base ≤ w.heap.size) (hn : 0 ≤ n ∧ n ≤ 64) (hs : s ≤ 64) (hnow : 0 ≤ now ∧ now ≤ 64) (hleft : 0 ≤ left ∧ left ≤ 64) (hA0 : -9223372036854775808 ≤ A) (hl : held.length = 64) (hO : Hid (w.ownsRow base 3 1 v s ((held.take s).map (Value.int .i64)))) : Calls Try.prog 52 #[rv now left v, .int .i64 n, .agg #[.int .i64 4, .int .i64 A, .int .i64 z]] w (DW n s ⟨held, now, left, cost⟩ (4, A, z) base v w) := by
  obtain ⟨q, cap, rfl, hq⟩ := own_any hO.out
  have HQ := Lib.hid hq
  clear hq
  have HZ := slot s z
  unfold rv
  by_cases h1 : 1 ≤ left
  · have d1 : decide (left < 1) = false := decide_eq_false (by omega)
    have d1' : decide (1 ≤ left) = true := decide_eq_true h1
    by_cases h2 : A = left
    · subst h2
      by_cases h3 : now = A - 1
      · subst h3
        by_cases h4 : z = 0
        · subst h4
          have V : Hid (val n s ⟨held, A - 1, A, cost⟩ (4, A, 0) = true) := Lib.hid (by rw [val4, decide_eq_true h1]; simp)
          rcases HZ with ⟨hz, y0, y1⟩ | ⟨hz, y0⟩ | ⟨hz, y0, y1⟩
          all_goals
            go_enter Try.func52, Try.ntmps52
            go_wp2
            exact bodyPost_ret (v := .tuple #[rv (A - 1) (A - 1) (.slice q s cap), .bool true]) (by simp [results, Try.results52, go_sem, rv]) rfl ⟨(by (repeat refine below_drewN ?_ _); exact (((Below.refl _ _).alloc (Nat.le_refl _) _).alloc (by simp) _).alloc (by rw [World.size_alloc, World.size_alloc]; omega) _), .inr ⟨by exact V.out, _, rfl, (((hO.out.alloc _).alloc _).alloc _)⟩⟩
        · have d4 : (z == 0) = false := beq_false_of_ne h4
          have V : Hid (val n s ⟨held, A - 1, A, cost⟩ (4, A, z) = false) := Lib.hid (by rw [val4, decide_eq_false h4]; simp)
          rcases HZ with ⟨hz, y0, y1⟩ | ⟨hz, y0⟩ | ⟨hz, y0, y1⟩
          all_goals
            go_enter Try.func52, Try.ntmps52
            go_wp2
            exact bodyPost_ret (v := .tuple #[rv (A - 1) A (.slice q s cap), .bool false]) (by simp [results, Try.results52, go_sem, rv]) rfl ⟨(by (repeat refine below_drewN ?_ _); exact (((Below.refl _ _).alloc (Nat.le_refl _) _).alloc (by simp) _).alloc (by rw [World.size_alloc, World.size_alloc]; omega) _), .inl ⟨by exact V.out, rfl⟩⟩
      · have d3 : (now == A - 1) = false := beq_false_of_ne h3
        have V : Hid (val n s ⟨held, now, A, cost⟩ (4, A, z) = false) := Lib.hid (by rw [val4, decide_eq_false h3]; simp)
        rcases HZ with ⟨hz, y0, y1⟩ | ⟨hz, y0⟩ | ⟨hz, y0, y1⟩
        all_goals
          go_enter Try.func52, Try.ntmps52
          go_wp2
          exact bodyPost_ret (v := .tuple #[rv now A (.slice q s cap), .bool false]) (by simp [results, Try.results52, go_sem, rv]) rfl ⟨(by (repeat refine below_drewN ?_ _); exact (((Below.refl _ _).alloc (Nat.le_refl _) _).alloc (by simp) _).alloc (by rw [World.size_alloc, World.size_alloc]; omega) _), .inl ⟨by exact V.out, rfl⟩⟩
    · have d2 : (A == left) = false := beq_false_of_ne h2
      have V : Hid (val n s ⟨held, now, left, cost⟩ (4, A, z) = false) := Lib.hid (by rw [val4, decide_eq_false h2]; simp)
      rcases HZ with ⟨hz, y0, y1⟩ | ⟨hz, y0⟩ | ⟨hz, y0, y1⟩
      all_goals
        go_enter Try.func52, Try.ntmps52
        go_wp2
        exact bodyPost_ret (v := .tuple #[rv now left (.slice q s cap), .bool false]) (by simp [results, Try.results52, go_sem, rv]) rfl ⟨(by (repeat refine below_drewN ?_ _); exact (((Below.refl _ _).alloc (Nat.le_refl _) _).alloc (by simp) _).alloc (by rw [World.size_alloc, World.size_alloc]; omega) _), .inl ⟨by exact V.out, rfl⟩⟩
  · have d1 : decide (left < 1) = true := decide_eq_true (by omega)
    have V : Hid (val n s ⟨held, now, left, cost⟩ (4, A, z) = false) := Lib.hid (by rw [val4, decide_eq_false h1]; simp)
    rcases HZ with ⟨hz, y0, y1⟩ | ⟨hz, y0⟩ | ⟨hz, y0, y1⟩
    all_goals
      go_enter Try.func52, Try.ntmps52
      go_wp2
      exact bodyPost_ret (v := .tuple #[rv now left (.slice q s cap), .bool false]) (by simp [results, Try.results52, go_sem, rv]) rfl ⟨(by (repeat refine below_drewN ?_ _); exact (((Below.refl _ _).alloc (Nat.le_refl _) _).alloc (by simp) _).alloc (by rw [World.size_alloc, World.size_alloc]; omega) _), .inl ⟨by exact V.out, rfl⟩⟩
end Go.Proofs.Ytndmpoomdoojpaa.Ck
