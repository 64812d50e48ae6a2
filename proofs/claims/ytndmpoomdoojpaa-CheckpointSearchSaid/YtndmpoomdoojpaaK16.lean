/- Do of the reference: no action. -/
import Derived.Test.YtndmpoomdoojpaaK13
namespace Go.Proofs.Ytndmpoomdoojpaa.Ck
open Go.ChangeShapes Go.WideShapes Go.ChangeAt Go.RowKit
set_option linter.unusedVariables false

set_option maxRecDepth 100000 in
set_option maxHeartbeats 16000000 in
theorem do0 (n : Int) (s : Nat) (held : List Int) (now left cost : Int) (op : Int) (A z : Int) (v : Value) (w : World) (base : Nat) (hb : base ≤ w.heap.size) (hn : 0 ≤ n ∧ n ≤ 64) (hs : s ≤ 64) (hnow : 0 ≤ now ∧ now ≤ 64) (hleft : 0 ≤ left ∧ left ≤ 64) (hA0 : -9223372036854775808 ≤ A) (hl : held.length = 64) (hO : Hid (w.ownsRow base 3 1 v s ((held.take s).map (Value.int .i64)))) (o1 : ¬ op = 1) (o2 : ¬ op = 2) (o3 : ¬ op = 3) (o4 : ¬ op = 4) : Calls Try.prog 52 #[rv now left v, .int .i64 n, .agg #[.int .i64 op, .int .i64 A, .int .i64 z]] w (DW n s ⟨held, now, left, cost⟩ (op, A, z) base v w) := by
  obtain ⟨q, cap, rfl, hq⟩ := own_any hO.out
  have HQ := Lib.hid hq
  clear hq
  have HZ := slot s z
  unfold rv
  have d1 : (op == 1) = false := beq_false_of_ne o1
  have d2 : (op == 2) = false := beq_false_of_ne o2
  have d3 : (op == 3) = false := beq_false_of_ne o3
  have d4 : (op == 4) = false := beq_false_of_ne o4
  have V : Hid (val n s ⟨held, now, left, cost⟩ (op, A, z) = false) := Lib.hid (val0 o1 o2 o3 o4)
  rcases HZ with ⟨hz, y0, y1⟩ | ⟨hz, y0⟩ | ⟨hz, y0, y1⟩
  all_goals
    go_enter Try.func52, Try.ntmps52
    go_wp2
    exact bodyPost_ret (v := .tuple #[rv now left (.slice q s cap), .bool false]) (by simp [results, Try.results52, go_sem, rv]) rfl ⟨(by (repeat refine below_drewN ?_ _); exact (((Below.refl _ _).alloc (Nat.le_refl _) _).alloc (by simp) _).alloc (by rw [World.size_alloc, World.size_alloc]; omega) _), .inl ⟨by exact V.out, rfl⟩⟩
end Go.Proofs.Ytndmpoomdoojpaa.Ck
