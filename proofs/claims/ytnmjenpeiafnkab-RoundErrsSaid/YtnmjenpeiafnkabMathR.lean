/- The rounded quotient, in the terms of the reference: the remainder toward zero. -/
import Derived.Test.YtnmjenpeiafnkabMath
namespace Go.Proofs.Ytnmjenpeiafnkab.Plain
theorem rrnd4_pp_gt (q r d : Int) (b3 : 0 < r) (b4 : r < d) (t : d - r < r) : rnd 4 q r d = q + 1 := by
  unfold rnd; (repeat' split) <;> omega
theorem rrnd4_pp_lt (q r d : Int) (b3 : 0 < r) (b4 : r < d) (t : r < d - r) : rnd 4 q r d = q := by
  unfold rnd; (repeat' split) <;> omega
theorem rrnd4_pp_ev (q r d : Int) (b3 : 0 < r) (b4 : r < d) (t : r = d - r) (e : q % 2 = 0) : rnd 4 q r d = q := by
  unfold rnd; (repeat' split) <;> omega
theorem rrnd4_pp_od (q r d : Int) (b3 : 0 < r) (b4 : r < d) (t : r = d - r) (e : q % 2 = 1) : rnd 4 q r d = q + 1 := by
  unfold rnd; (repeat' split) <;> omega
theorem rrnd4_np_gt (q r d : Int) (b3 : r < 0) (b4 : -r < d) (t : d + r < (-r)) : rnd 4 q r d = q - 1 := by
  unfold rnd; (repeat' split) <;> omega
theorem rrnd4_np_lt (q r d : Int) (b3 : r < 0) (b4 : -r < d) (t : (-r) < d + r) : rnd 4 q r d = q := by
  unfold rnd; (repeat' split) <;> omega
theorem rrnd4_np_ev (q r d : Int) (b3 : r < 0) (b4 : -r < d) (t : (-r) = d + r) (e : q % 2 = 0) : rnd 4 q r d = q := by
  unfold rnd; (repeat' split) <;> omega
theorem rrnd4_np_od (q r d : Int) (b3 : r < 0) (b4 : -r < d) (t : (-r) = d + r) (e : q % 2 = 1) : rnd 4 q r d = q - 1 := by
  unfold rnd; (repeat' split) <;> omega
theorem rrnd4_nn_gt (q r d : Int) (b3 : r < 0) (b4 : d < r) (t : -d + r < (-r)) : rnd 4 q r d = q + 1 := by
  unfold rnd; (repeat' split) <;> omega
theorem rrnd4_nn_lt (q r d : Int) (b3 : r < 0) (b4 : d < r) (t : (-r) < -d + r) : rnd 4 q r d = q := by
  unfold rnd; (repeat' split) <;> omega
theorem rrnd4_nn_ev (q r d : Int) (b3 : r < 0) (b4 : d < r) (t : (-r) = -d + r) (e : q % 2 = 0) : rnd 4 q r d = q := by
  unfold rnd; (repeat' split) <;> omega
theorem rrnd4_nn_od (q r d : Int) (b3 : r < 0) (b4 : d < r) (t : (-r) = -d + r) (e : q % 2 = 1) : rnd 4 q r d = q + 1 := by
  unfold rnd; (repeat' split) <;> omega
theorem rrnd4_pn_gt (q r d : Int) (b3 : 0 < r) (b4 : r < -d) (t : -d - r < r) : rnd 4 q r d = q - 1 := by
  unfold rnd; (repeat' split) <;> omega
theorem rrnd4_pn_lt (q r d : Int) (b3 : 0 < r) (b4 : r < -d) (t : r < -d - r) : rnd 4 q r d = q := by
  unfold rnd; (repeat' split) <;> omega
theorem rrnd4_pn_ev (q r d : Int) (b3 : 0 < r) (b4 : r < -d) (t : r = -d - r) (e : q % 2 = 0) : rnd 4 q r d = q := by
  unfold rnd; (repeat' split) <;> omega
theorem rrnd4_pn_od (q r d : Int) (b3 : 0 < r) (b4 : r < -d) (t : r = -d - r) (e : q % 2 = 1) : rnd 4 q r d = q - 1 := by
  unfold rnd; (repeat' split) <;> omega
end Go.Proofs.Ytnmjenpeiafnkab.Plain
