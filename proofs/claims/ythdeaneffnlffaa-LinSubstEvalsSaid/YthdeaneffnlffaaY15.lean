/- Linear forms: sums in 192 bits, the code. -/
import Derived.Test.YthdeaneffnlffaaY13
import Derived.Test.YthdeaneffnlffaaY14
namespace Go.Proofs.Ythdeaneffnlffaa.Ln
open Go.ChangeShapes Go.WideShapes Go.ChangeAt Go.RowKit
set_option linter.unusedVariables false

theorem u64w (n : Int) : IntKind.u64.wrap n = n % 18446744073709551616 := by simp [IntKind.wrap, IntKind.bits, IntKind.signed]
def addS (x y c : Int) : Int := (x + y + c) % 18446744073709551616
def addC (x y c : Int) : Int := (x + y + c) / 18446744073709551616
theorem addG (x y c : Int) (hx : 0 ≤ x ∧ x < 18446744073709551616) (hy : 0 ≤ y ∧ y < 18446744073709551616) (hc : 0 ≤ c ∧ c ≤ 1) (w : World) : (callFunc 59 #[.int .u64 x, .int .u64 y, .int .u64 c]).run Try.prog w = .ok (.value (.tuple #[.int .u64 (addS x y c), .int .u64 (addC x y c)])) w := by
  rw [run_callFunc_extern Try.func59 (by kernel_rfl) (by kernel_rfl) (by kernel_rfl) (e := add64Entry) (by kernel_rfl), run_add64 x y c hx.1 hy.1 hc.1 hc.2]
  rfl
theorem mulG (x y : Int) (hx : 0 ≤ x ∧ x < 18446744073709551616) (hy : 0 ≤ y ∧ y < 18446744073709551616) (w : World) : Calls Try.prog 58 #[.int .u64 x, .int .u64 y] w fun e w' => e = .returned (.tuple #[.int .u64 (x * y / 18446744073709551616), .int .u64 (x * y % 18446744073709551616)]) ∧ w = w' := by
  obtain ⟨n, rfl⟩ := Int.eq_ofNat_of_zero_le hx.1
  obtain ⟨m, rfl⟩ := Int.eq_ofNat_of_zero_le hy.1
  refine (Try.bits_Mul64 n m (by omega) (by omega) w).mono ?_
  rintro e w' ⟨rfl, rfl⟩
  exact ⟨by rw [Int.natCast_ediv, Int.natCast_emod, Int.natCast_mul]; rfl, rfl⟩
set_option maxRecDepth 100000 in
set_option maxHeartbeats 8000000 in
theorem waddT (g : Nat) (x0 x1 x2 a b A B H H1 H2 L : Int) (w : World) (hA : IntKind.u64.wrap a = A) (hB : IntKind.u64.wrap b = B)
    (C1 : Hid (∀ w, Calls Try.prog 58 #[.int .u64 A, .int .u64 B] w fun e w' => e = .returned (.tuple #[.int .u64 H, .int .u64 L]) ∧ w = w'))
    (e1 : Hid (a < 0 → IntKind.u64.wrap (H - B) = H1)) (e1' : Hid (¬ a < 0 → H = H1)) (e2 : Hid (b < 0 → IntKind.u64.wrap (H1 - A) = H2)) (e2' : Hid (¬ b < 0 → H1 = H2))
    (a0 : w.cell? ⟨g, 0, none⟩ = some (.int .u64 x2)) (a1 : w.cell? ⟨g, 1, none⟩ = some (.int .u64 x1)) (a2 : w.cell? ⟨g, 2, none⟩ = some (.int .u64 x0)) (z0 : w.frozen? ⟨g, 0, none⟩ = false) (z1 : w.frozen? ⟨g, 1, none⟩ = false) (z2 : w.frozen? ⟨g, 2, none⟩ = false) 
    (y0 c0 y1 c1 y2 c2 S : Int) (hS : IntKind.u64.wrap (wrap64 H2 / 9223372036854775808) = S)
    (D0 : ∀ w, (callFunc 59 #[.int .u64 x0, .int .u64 L, .int .u64 0]).run Try.prog w = .ok (.value (.tuple #[.int .u64 y0, .int .u64 c0])) w)
    (D1 : ∀ w, (callFunc 59 #[.int .u64 x1, .int .u64 H2, .int .u64 c0]).run Try.prog w = .ok (.value (.tuple #[.int .u64 y1, .int .u64 c1])) w)
    (D2 : ∀ w, (callFunc 59 #[.int .u64 x2, .int .u64 S, .int .u64 c1]).run Try.prog w = .ok (.value (.tuple #[.int .u64 y2, .int .u64 c2])) w) :
    Calls Try.prog 39 #[.pointer (some ⟨g, 0, none⟩), .int .i64 a, .int .i64 b] w fun e w' => e = .returned (.tuple #[]) ∧ w' = ((w.setCell ⟨g, 2, none⟩ (.int .u64 y0)).setCell ⟨g, 1, none⟩ (.int .u64 y1)).setCell ⟨g, 0, none⟩ (.int .u64 y2) := by
  by_cases ha : a < 0
  · have f1 := e1.out ha
    by_cases hb : b < 0
    · have f2 := e2.out hb
      go_enter Try.func39, Try.ntmps39
      go_wp2_with fail
      refine (C1.out _).mono ?_
      rintro e w' ⟨rfl, rfl⟩
      go_wp2
      go_end0
      exact ⟨rfl, rfl⟩
    · obtain rfl := e2'.out hb
      go_enter Try.func39, Try.ntmps39
      go_wp2_with fail
      refine (C1.out _).mono ?_
      rintro e w' ⟨rfl, rfl⟩
      go_wp2
      go_end0
      exact ⟨rfl, rfl⟩
  · obtain rfl := e1'.out ha
    by_cases hb : b < 0
    · have f2 := e2.out hb
      go_enter Try.func39, Try.ntmps39
      go_wp2_with fail
      refine (C1.out _).mono ?_
      rintro e w' ⟨rfl, rfl⟩
      go_wp2
      go_end0
      exact ⟨rfl, rfl⟩
    · obtain rfl := e2'.out hb
      go_enter Try.func39, Try.ntmps39
      go_wp2_with fail
      refine (C1.out _).mono ?_
      rintro e w' ⟨rfl, rfl⟩
      go_wp2
      go_end0
      exact ⟨rfl, rfl⟩
theorem sgn {X : Int} (h1 : -85070591730234615865843651857942052864 ≤ X) (h2 : X ≤ 85070591730234615865843651857942052864) : IntKind.u64.wrap (wrap64 (l1 X) / 9223372036854775808) = l2 X := by
  have hb := l_bd X
  rw [← sg_eq h1 h2, u64w]
  unfold wrap64
  split <;> omega
theorem hbd {A B : Int} (a0 : 0 ≤ A) (a1 : A < 18446744073709551616) (b0 : 0 ≤ B) (b1 : B < 18446744073709551616) : 0 ≤ A * B / 18446744073709551616 ∧ A * B / 18446744073709551616 < 18446744073709551616 := by
  have h1 : A * B ≤ 18446744073709551615 * B := Int.mul_le_mul_of_nonneg_right (by omega) b0
  have h0 : 0 ≤ A * B := Int.mul_nonneg a0 b0
  generalize A * B = P at *
  omega
theorem modd (h c d : Int) : ((h - c) % 18446744073709551616 - d) % 18446744073709551616 = (h - c - d) % 18446744073709551616 := by omega
theorem waddG (g : Nat) (V a b : Int) (w : World) (ha1 : -9223372036854775808 ≤ a) (ha2 : a ≤ 9223372036854775807) (hb1 : -9223372036854775808 ≤ b) (hb2 : b ≤ 9223372036854775807)
    (a0 : w.cell? ⟨g, 0, none⟩ = some (.int .u64 (l2 V))) (a1 : w.cell? ⟨g, 1, none⟩ = some (.int .u64 (l1 V))) (a2 : w.cell? ⟨g, 2, none⟩ = some (.int .u64 (l0 V))) (z0 : w.frozen? ⟨g, 0, none⟩ = false) (z1 : w.frozen? ⟨g, 1, none⟩ = false) (z2 : w.frozen? ⟨g, 2, none⟩ = false) :
    Calls Try.prog 39 #[.pointer (some ⟨g, 0, none⟩), .int .i64 a, .int .i64 b] w fun e w' => e = .returned (.tuple #[]) ∧ w' = ((w.setCell ⟨g, 2, none⟩ (.int .u64 (l0 (V + a * b)))).setCell ⟨g, 1, none⟩ (.int .u64 (l1 (V + a * b)))).setCell ⟨g, 0, none⟩ (.int .u64 (l2 (V + a * b))) := by
  have hp := prod_bd ha1 ha2 hb1 hb2
  have lo := lo_eq ha1 ha2 hb1 hb2
  have hi := hi_eq ha1 ha2 hb1 hb2
  have bV := l_bd V
  have bX := l_bd (a * b)
  have A0 := l0_add V (a * b)
  have A1 := l1_add V (a * b)
  have A2 := l2_add V (a * b)
  have hS := sgn hp.1 hp.2
  generalize a * b = X at *
  have c0 : addC (l0 V) (l0 X) 0 = (l0 V + l0 X) / 18446744073709551616 := by unfold addC; rw [Int.add_zero]
  have c1 : addC (l1 V) (l1 X) (addC (l0 V) (l0 X) 0) = (l1 V + l1 X + (l0 V + l0 X) / 18446744073709551616) / 18446744073709551616 := by rw [c0]; rfl
  have s0 : addS (l0 V) (l0 X) 0 = l0 (V + X) := by unfold addS; rw [Int.add_zero, A0]
  have s1 : addS (l1 V) (l1 X) (addC (l0 V) (l0 X) 0) = l1 (V + X) := by rw [c0]; unfold addS; rw [A1]
  have s2 : addS (l2 V) (l2 X) (addC (l1 V) (l1 X) (addC (l0 V) (l0 X) 0)) = l2 (V + X) := by rw [c1]; unfold addS; rw [A2]
  have D0 := addG (l0 V) (l0 X) 0 bV.1 bX.1 (by omega)
  have D1 := addG (l1 V) (l1 X) (addC (l0 V) (l0 X) 0) bV.2.1 bX.2.1 (by rw [c0]; omega)
  have D2 := addG (l2 V) (l2 X) (addC (l1 V) (l1 X) (addC (l0 V) (l0 X) 0)) bV.2.2 bX.2.2 (by rw [c1]; omega)
  rw [s0] at D0
  rw [s1] at D1
  rw [s2] at D2
  refine waddT g (l0 V) (l1 V) (l2 V) a b (a % 18446744073709551616) (b % 18446744073709551616) (a % 18446744073709551616 * (b % 18446744073709551616) / 18446744073709551616)
    ((a % 18446744073709551616 * (b % 18446744073709551616) / 18446744073709551616 - (if a < 0 then b % 18446744073709551616 else 0)) % 18446744073709551616) (l1 X) (l0 X) w (u64w a) (u64w b) (Lib.hid ?_) (Lib.hid ?_) (Lib.hid ?_) (Lib.hid ?_) (Lib.hid ?_) a0 a1 a2 z0 z1 z2 _ _ _ _ _ _ _ hS D0 D1 D2
  · intro w
    rw [← lo]
    exact mulG _ _ ⟨Int.emod_nonneg _ (by decide), Int.emod_lt_of_pos _ (by decide)⟩ ⟨Int.emod_nonneg _ (by decide), Int.emod_lt_of_pos _ (by decide)⟩ w
  · intro h
    rw [u64w, if_pos h]
  · intro h
    have hh := hbd (A := a % 18446744073709551616) (B := b % 18446744073709551616) (Int.emod_nonneg _ (by decide)) (Int.emod_lt_of_pos _ (by decide)) (Int.emod_nonneg _ (by decide)) (Int.emod_lt_of_pos _ (by decide))
    rw [if_neg h, Int.sub_zero, Int.emod_eq_of_lt hh.1 hh.2]
  · intro h
    rw [u64w, ← hi, if_pos h, modd]
  · intro h
    rw [← hi, if_neg h, Int.sub_zero]
set_option maxRecDepth 100000 in
set_option maxHeartbeats 8000000 in
theorem wfitT (g : Nat) (x0 x1 x2 S : Int) (q1 q2 : Bool) (w : World) (hS : IntKind.u64.wrap (wrap64 x0 / 9223372036854775808) = S) (h1 : (x1 == S) = q1) (h2 : (x2 == S) = q2)
    (a0 : w.cell? ⟨g, 0, none⟩ = some (.int .u64 x2)) (a1 : w.cell? ⟨g, 1, none⟩ = some (.int .u64 x1)) (a2 : w.cell? ⟨g, 2, none⟩ = some (.int .u64 x0)) :
    Calls Try.prog 40 #[.pointer (some ⟨g, 0, none⟩)] w fun e w' => e = .returned (.bool (q1 && q2)) ∧ ∃ n, w' = w.drewN n := by
  cases q1 <;> cases q2
  all_goals
    go_enter Try.func40, Try.ntmps40
    go_wp2
    go_ret
    first | exact ⟨rfl, 0, rfl⟩ | exact ⟨rfl, 1, rfl⟩
end Go.Proofs.Ythdeaneffnlffaa.Ln
