/- Sub of package frac. -/
import Derived.Test.YtnmjenpeiafnkaaDoorOps
namespace Go.Proofs.YtnmjenpeiafnkaaDoor.Fr
open Go.ChangeShapes Go.WideShapes Go.ChangeAt Go.RowKit
set_option linter.unusedVariables false

/-- Go's negation of an int64. -/
def neg64 (n : Int) : Int := if n = -9223372036854775808 then n else -n
set_option maxHeartbeats 4000000 in
theorem sub_any (n1 d1 n2 d2 x y e m : Int) (w : World) (hm : wrap64 (-n2) = m)
    (AD : Hid (∀ w, Calls Tryd.prog 17 #[.agg #[.int .i64 n1, .int .i64 d1], .agg #[.int .i64 m, .int .i64 d2]] w (Ret (Frac3 x y e) w))) :
    Calls Tryd.prog 19 #[.agg #[.int .i64 n1, .int .i64 d1], .agg #[.int .i64 n2, .int .i64 d2]] w (Ret (Frac3 x y e) w) := by

  go_enter Tryd.func19, Tryd.ntmps19
  go_wp2_with fail
  refine (AD.out _).mono ?_
  rintro e w1 ⟨rfl, hb1⟩
  have Bt := hb1.mono (B' := w.heap.size + 3) (by simp)
  obtain ⟨c0, c1, c2, c3, c4, c5, c6, c7, c8⟩ := cells3 Bt
  go_wp2
  refine bodyPost_ret (v := Frac3 _ _ _) (by simp [results, Tryd.results19, go_sem, c4, c5]) rfl ⟨rfl, ?_⟩
  refine Below.setCell (Below.setCell ?_ (by simp <;> omega) _) (by simp <;> omega) _
  exact (below3 _ _ _ _).trans (Bt.mono (by omega))
end Go.Proofs.YtnmjenpeiafnkaaDoor.Fr
