/- The closures that compute the raw results. -/
import Derived.Test.YtikcinkbkakkmaaGreatDoorFxC
import Derived.Test.YtikcinkbkakkmaaGreatDoorGB

namespace Go.Proofs.YtikcinkbkakkmaaGreatDoor.Fx
open Go.ChangeShapes Go.WideShapes Go.ChangeAt Go.RowKit
open Fr
set_option linter.unusedVariables false
set_option linter.unusedSimpArgs false
theorem cl57 (K B F R O n0 n1 p : Int) (w : World) (x : Nat) (h : TyAt K B F R O x w) (a0 : -1099511627776 ≤ n0) (a1 : n0 ≤ 1099511627776) (b0 : -1099511627776 ≤ n1) (b1 : n1 ≤ 1099511627776) : Calls Tryz.prog 99 #[.agg #[Fo1 x, Fo2 x, .int .i64 p], .int .i64 n0, .int .i64 n1] w (Ret (.int .i64 (n0 + n1)) w) := by
  clear h
  go_enter Tryz.func99, Tryz.ntmps99
  go_wp2
  go_ret
  exact ⟨rfl, by go_grown⟩
theorem cl58 (K B F R O n0 n1 p : Int) (w : World) (x : Nat) (h : TyAt K B F R O x w) (a0 : -1099511627776 ≤ n0) (a1 : n0 ≤ 1099511627776) (b0 : -1099511627776 ≤ n1) (b1 : n1 ≤ 1099511627776) : Calls Tryz.prog 100 #[.agg #[Fo1 x, Fo2 x, .int .i64 p], .int .i64 n0, .int .i64 n1] w (Ret (.int .i64 (n0 - n1)) w) := by
  clear h
  go_enter Tryz.func100, Tryz.ntmps100
  go_wp2
  go_ret
  exact ⟨rfl, by go_grown⟩
theorem cl61 (K B F R O n0 n1 p : Int) (w : World) (x : Nat) (h : TyAt K B F R O x w) (a0 : -1099511627776 ≤ n0) (a1 : n0 ≤ 1099511627776) (b0 : -1099511627776 ≤ n1) (b1 : n1 ≤ 1099511627776) : Calls Tryz.prog 104 #[.agg #[Fo1 x, Fo2 x, .int .i64 p], .int .i64 n0, .int .i64 n1] w (Ret (.int .i64 (-n0)) w) := by
  clear h
  go_enter Tryz.func104, Tryz.ntmps104
  go_wp2
  go_ret
  exact ⟨rfl, by go_grown⟩
set_option maxHeartbeats 4000000 in
theorem cl59 (K B F R O n0 n1 p t : Int) (w : World) (x : Nat) (h : TyAt K B F R O x w) (hx : x < w.heap.size) (ht : n0 * n1 = t) (t0 : -4611686018427387904 ≤ t) (t1 : t ≤ 4611686018427387904) (p0 : 1 ≤ p) (p1 : p ≤ 1073741824) (a0 : -1099511627776 ≤ n0) (a1 : n0 ≤ 1099511627776) (b0 : -1099511627776 ≤ n1) (b1 : n1 ≤ 1099511627776) : Calls Tryz.prog 101 #[.agg #[Fo1 x, Fo2 x, .int .i64 p], .int .i64 n0, .int .i64 n1] w (Ret (.int .i64 (Dv.dval R t p)) w) := by
  have D := Lib.hid (fo1 K B F R O t p x (w.alloc (.cells #[Fo1 x, Fo2 x, .int .i64 p] 92)) (h.keep ((Below.refl _ _).alloc (Nat.le_refl _) _) hx) (by omega) (by omega) (by omega) (by omega))
  generalize Dv.dval R t p = q at *
  clear h
  go_enter Tryz.func101, Tryz.ntmps101
  go_wp2_with (refine (D.out).mono ?_; rintro e w' ⟨rfl, kd, rfl⟩)
  go_ret
  exact ⟨rfl, below_drewN ((Below.refl _ _).alloc (Nat.le_refl _) _) _⟩
set_option maxHeartbeats 4000000 in
theorem cl60 (K B F R O n0 n1 p t : Int) (w : World) (x : Nat) (h : TyAt K B F R O x w) (hx : x < w.heap.size) (ht : n0 * p = t) (t0 : -4611686018427387904 ≤ t) (t1 : t ≤ 4611686018427387904) (p0 : 1 ≤ p) (p1 : p ≤ 1073741824) (a0 : -1099511627776 ≤ n0) (a1 : n0 ≤ 1099511627776) (b0 : -1099511627776 ≤ n1) (b1 : n1 ≤ 1099511627776) : Calls Tryz.prog 103 #[.agg #[Fo1 x, Fo2 x, .int .i64 p], .int .i64 n0, .int .i64 n1] w (Ret (.int .i64 (Dv.dval R t n1)) w) := by
  have D := Lib.hid (fo1 K B F R O t n1 x (w.alloc (.cells #[Fo1 x, Fo2 x, .int .i64 p] 92)) (h.keep ((Below.refl _ _).alloc (Nat.le_refl _) _) hx) (by omega) (by omega) (by omega) (by omega))
  generalize Dv.dval R t n1 = q at *
  clear h
  go_enter Tryz.func103, Tryz.ntmps103
  go_wp2_with (refine (D.out).mono ?_; rintro e w' ⟨rfl, kd, rfl⟩)
  go_ret
  exact ⟨rfl, below_drewN ((Below.refl _ _).alloc (Nat.le_refl _) _) _⟩
end Go.Proofs.YtikcinkbkakkmaaGreatDoor.Fx
