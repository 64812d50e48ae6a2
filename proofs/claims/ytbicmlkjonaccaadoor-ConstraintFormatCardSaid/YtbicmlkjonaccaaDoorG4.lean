/- Constraints: division that rounds down. -/
import Derived.Test.YtbicmlkjonaccaaDoorG3
import Derived.Test.YtbicmlkjonaccaaDoorG1
import Derived.IntWalk
import Derived.Deep.Quiet
import Derived.WalkKit
import Derived.ProofKit
import Derived.OpenShut
import Derived.Laws.AppendOwn
import Derived.Laws.OwnMore
import Derived.OneCell
import Derived.Deep.Onto

namespace Go.Proofs.YtbicmlkjonaccaaDoor.Ln
open Go.ChangeShapes Go.WideShapes Go.ChangeAt Go.RowKit
open Go.Proofs.YtbicmlkjonaccaaDoor.Nm
set_option linter.unusedVariables false
set_option linter.unusedSimpArgs false
set_option maxRecDepth 8000

theorem tdm {n : Int} {G : Nat} (g0 : 1 ≤ G) : (0 ≤ n → n.tdiv G = n / G ∧ n.tmod G = n % G) ∧ (n < 0 → n % G = 0 → n.tdiv G = n / G ∧ n.tmod G = 0) ∧ (n < 0 → n % G ≠ 0 → n.tdiv G = n / G + 1 ∧ n.tmod G < 0) := by
  have hG : (0 : Int) < G := by omega
  refine ⟨fun h => ⟨Int.tdiv_eq_ediv_of_nonneg h, Int.tmod_eq_emod_of_nonneg h⟩, fun h hz => ?_, fun h hz => ?_⟩
  · have hd : (G : Int) ∣ n := Int.dvd_of_emod_eq_zero hz
    exact ⟨Int.tdiv_eq_ediv_of_dvd hd, Int.tmod_eq_zero_of_dvd hd⟩
  · have h1 := Int.tdiv_eq_ediv (a := n) (b := (G : Int))
    have hnd : ¬ (G : Int) ∣ n := fun hd => hz (Int.emod_eq_zero_of_dvd hd)
    have e : n.tdiv G = n / G + 1 := by
      rw [h1, if_neg (by rintro (h2 | h2); omega; exact hnd h2), Int.sign_eq_one_of_pos hG]
    refine ⟨e, ?_⟩
    have h2 := Int.mul_tdiv_add_tmod n (G : Int)
    have h3 := Int.mul_ediv_add_emod n (G : Int)
    have h4 := Int.emod_lt_of_pos n hG
    rw [e] at h2
    rw [Int.mul_add] at h2
    omega

set_option maxRecDepth 100000 in
theorem fd_pos (n g q r : Int) (w : World) (hne : g ≠ 0) (hg : (g == 0) = false) (h0 : decide (g < 0) = false) (e1 : n.tdiv g = q) (e2 : n.tmod g = r) (w1 : IntKind.i64.wrap q = q) (w2 : IntKind.i64.wrap r = r)  (h1 : decide (r < 0) = false) (b : Bool) (hb : (r == 0) = b) : Calls Tryd.prog 60 #[.int .i64 n, .int .i64 g] w fun e w' => e = .returned (.tuple #[.int .i64 q, .bool b]) ∧ Below w.heap.size w w' := by
  go_enter Tryd.func60, Tryd.ntmps60
  go_wp2_with fail
  have hz : Below w.heap.size w w := Below.refl _ _
  have HS : Hid (∀ u u' : World, Below w.heap.size w u → Below u.heap.size u u' → Below w.heap.size w u') := Lib.hid (fun u u' h hb => h.trans (hb.mono h.size))
  refine Rk.begin (S := fun wS => Below w.heap.size w wS) 5 (by kernel_rfl) (HS.out _ _ hz (Below.drew (Below.refl _ _))) (fun hHeld => ?_)
  refine Rk.takeP (i := 0) (v := ?_) rfl (by kernel_rfl) (by kernel_rfl) (by kernel_rfl) (by kernel_rfl) (fun _ _ _ h => h) (Or.inl ⟨by kernel_rfl, ?_⟩) (by assumption) ?_
  rotate_left
  · ((intro w hSw; go_simp) <;> with_reducible rfl)
  try simp only [Act.put, List.setIfInBounds_toArray, List.set_cons_zero, List.set_cons_succ]
  refine Rk.takeP (i := 1) (v := ?_) rfl (by kernel_rfl) (by kernel_rfl) (by kernel_rfl) (by kernel_rfl) (fun _ _ _ h => h) (Or.inl ⟨by kernel_rfl, ?_⟩) (by assumption) ?_
  rotate_left
  · ((intro w hSw; go_simp) <;> with_reducible rfl)
  try simp only [Act.put, List.setIfInBounds_toArray, List.set_cons_zero, List.set_cons_succ]
  refine Rk.takeP (i := 2) (v := ?_) rfl (by kernel_rfl) (by kernel_rfl) (by kernel_rfl) (by kernel_rfl) (fun _ _ _ h => h) (Or.inl ⟨by kernel_rfl, ?_⟩) (by assumption) ?_
  rotate_left
  · ((intro w hSw; go_simp) <;> with_reducible rfl)
  try simp only [Act.put, List.setIfInBounds_toArray, List.set_cons_zero, List.set_cons_succ]
  refine Rk.takeP (i := 3) (v := ?_) rfl (by kernel_rfl) (by kernel_rfl) (by kernel_rfl) (by kernel_rfl) (fun _ _ _ h => h) (Or.inl ⟨by kernel_rfl, ?_⟩) (by assumption) ?_
  rotate_left
  · ((intro w hSw; go_simp) <;> with_reducible rfl)
  try simp only [Act.put, List.setIfInBounds_toArray, List.set_cons_zero, List.set_cons_succ]
  refine Rk.takeP (i := 4) (v := ?_) rfl (by kernel_rfl) (by kernel_rfl) (by kernel_rfl) (by kernel_rfl) (fun _ _ _ h => h) (Or.inl ⟨by kernel_rfl, ?_⟩) (by assumption) ?_
  rotate_left
  · ((intro w hSw; go_simp) <;> with_reducible rfl)
  try simp only [Act.put, List.setIfInBounds_toArray, List.set_cons_zero, List.set_cons_succ]
  refine Rk.tail [5, 6] [_, _] (by kernel_rfl) (by kernel_rfl) rfl (by decide) ?_
  go_wp2
  refine bodyPost_ret (v := .tuple #[.int .i64 q, .bool b]) (by simp [results, Tryd.results60, go_sem]) rfl ⟨rfl, hHeld⟩

set_option maxRecDepth 100000 in
theorem fd_neg (n g q r : Int) (w : World) (hne : g ≠ 0) (hg : (g == 0) = false) (h0 : decide (g < 0) = false) (e1 : n.tdiv g = q) (e2 : n.tmod g = r) (w1 : IntKind.i64.wrap q = q) (w2 : IntKind.i64.wrap r = r) (w3 : IntKind.i64.wrap (q - 1) = q - 1) (h1 : decide (r < 0) = true) (b : Bool) (hb : (r == 0) = b) : Calls Tryd.prog 60 #[.int .i64 n, .int .i64 g] w fun e w' => e = .returned (.tuple #[.int .i64 (q - 1), .bool b]) ∧ Below w.heap.size w w' := by
  go_enter Tryd.func60, Tryd.ntmps60
  go_wp2_with fail
  have hz : Below w.heap.size w w := Below.refl _ _
  have HS : Hid (∀ u u' : World, Below w.heap.size w u → Below u.heap.size u u' → Below w.heap.size w u') := Lib.hid (fun u u' h hb => h.trans (hb.mono h.size))
  refine Rk.begin (S := fun wS => Below w.heap.size w wS) 5 (by kernel_rfl) (HS.out _ _ hz (Below.drew (Below.refl _ _))) (fun hHeld => ?_)
  refine Rk.takeP (i := 0) (v := ?_) rfl (by kernel_rfl) (by kernel_rfl) (by kernel_rfl) (by kernel_rfl) (fun _ _ _ h => h) (Or.inl ⟨by kernel_rfl, ?_⟩) (by assumption) ?_
  rotate_left
  · ((intro w hSw; go_simp) <;> with_reducible rfl)
  try simp only [Act.put, List.setIfInBounds_toArray, List.set_cons_zero, List.set_cons_succ]
  refine Rk.takeP (i := 1) (v := ?_) rfl (by kernel_rfl) (by kernel_rfl) (by kernel_rfl) (by kernel_rfl) (fun _ _ _ h => h) (Or.inl ⟨by kernel_rfl, ?_⟩) (by assumption) ?_
  rotate_left
  · ((intro w hSw; go_simp) <;> with_reducible rfl)
  try simp only [Act.put, List.setIfInBounds_toArray, List.set_cons_zero, List.set_cons_succ]
  refine Rk.takeP (i := 2) (v := ?_) rfl (by kernel_rfl) (by kernel_rfl) (by kernel_rfl) (by kernel_rfl) (fun _ _ _ h => h) (Or.inl ⟨by kernel_rfl, ?_⟩) (by assumption) ?_
  rotate_left
  · ((intro w hSw; go_simp) <;> with_reducible rfl)
  try simp only [Act.put, List.setIfInBounds_toArray, List.set_cons_zero, List.set_cons_succ]
  refine Rk.takeP (i := 3) (v := ?_) rfl (by kernel_rfl) (by kernel_rfl) (by kernel_rfl) (by kernel_rfl) (fun _ _ _ h => h) (Or.inl ⟨by kernel_rfl, ?_⟩) (by assumption) ?_
  rotate_left
  · ((intro w hSw; go_simp) <;> with_reducible rfl)
  try simp only [Act.put, List.setIfInBounds_toArray, List.set_cons_zero, List.set_cons_succ]
  refine Rk.takeP (i := 4) (v := ?_) rfl (by kernel_rfl) (by kernel_rfl) (by kernel_rfl) (by kernel_rfl) (fun _ _ _ h => h) (Or.inl ⟨by kernel_rfl, ?_⟩) (by assumption) ?_
  rotate_left
  · ((intro w hSw; go_simp) <;> with_reducible rfl)
  try simp only [Act.put, List.setIfInBounds_toArray, List.set_cons_zero, List.set_cons_succ]
  refine Rk.tail [5, 6] [_, _] (by kernel_rfl) (by kernel_rfl) rfl (by decide) ?_
  go_wp2
  refine bodyPost_ret (v := .tuple #[.int .i64 (q - 1), .bool b]) (by simp [results, Tryd.results60, go_sem]) rfl ⟨rfl, hHeld⟩

set_option maxRecDepth 100000 in
theorem fd_big (n : Int) (w : World) (b : Bool) (h1 : (n == -9223372036854775808) = false) (h2 : (n == 0) = b) : Calls Tryd.prog 60 #[.int .i64 n, .int .i64 (-9223372036854775808)] w fun e w' => e = .returned (.tuple #[.int .i64 (n / 9223372036854775808), .bool b]) ∧ Below w.heap.size w w' := by
  go_enter Tryd.func60, Tryd.ntmps60
  go_wp2
  refine bodyPost_ret (v := .tuple #[.int .i64 (n / 9223372036854775808), .bool b]) (by simp [results, Tryd.results60, go_sem]) rfl ⟨rfl, Below.refl _ _⟩
set_option maxRecDepth 100000 in
theorem fd_min (w : World) : Calls Tryd.prog 60 #[.int .i64 (-9223372036854775808), .int .i64 (-9223372036854775808)] w fun e w' => e = .returned (.tuple #[.int .i64 (-1), .bool true]) ∧ Below w.heap.size w w' := by
  go_enter Tryd.func60, Tryd.ntmps60
  go_wp2
  refine bodyPost_ret (v := .tuple #[.int .i64 (-1), .bool true]) (by simp [results, Tryd.results60, go_sem]) rfl ⟨rfl, Below.refl _ _⟩
/-- floorDiv by a positive number up to 2^63, which stands as -2^63. -/
theorem fdiv (n : Int) (G : Nat) (n0 : -9223372036854775808 ≤ n) (n1 : n ≤ 9223372036854775807) (g0 : 1 ≤ G) (g1 : G ≤ 9223372036854775808) (w : World) : Calls Tryd.prog 60 #[.int .i64 n, .int .i64 (wrap64 (G : Int))] w fun e w' => e = .returned (.tuple #[.int .i64 (n / (G : Int)), .bool (n % (G : Int) == 0)]) ∧ Below w.heap.size w w' := by
  by_cases hG : G = 9223372036854775808
  · subst hG
    rw [show wrap64 ((9223372036854775808 : Nat) : Int) = -9223372036854775808 by decide +kernel]
    by_cases hm : n = -9223372036854775808
    · subst hm
      exact fd_min w
    · have h1 : (n == -9223372036854775808) = false := by rw [beq_eq_false_iff_ne]; exact hm
      have h2 : (n == 0) = (n % ((9223372036854775808 : Nat) : Int) == 0) := by
        rw [Bool.eq_iff_iff, beq_iff_eq, beq_iff_eq]
        omega
      exact fd_big n w _ h1 h2
  · have hw : wrap64 (G : Int) = (G : Int) := by unfold wrap64; omega
    rw [hw]
    obtain ⟨t1, t2, t3⟩ := tdm (n := n) g0
    have hne : (G : Int) ≠ 0 := by omega
    have hg : ((G : Int) == 0) = false := by rw [beq_eq_false_iff_ne]; exact hne
    have h0 : decide ((G : Int) < 0) = false := by simp
    have hd1 := Int.mul_ediv_add_emod n (G : Int)
    have hd2 := Int.emod_lt_of_pos n (show (0 : Int) < G by omega)
    have hd3 := Int.emod_nonneg n hne
    have hq0 : -9223372036854775808 ≤ n / (G : Int) := by
      rcases Int.lt_or_le n 0 with h | h
      · have := Int.ediv_le_ediv (c := (G : Int)) (by omega) n0
        have h5 : -9223372036854775808 ≤ -9223372036854775808 / (G : Int) := Int.le_ediv_of_mul_le (by omega) (by omega)
        omega
      · have := Int.ediv_nonneg h (show (0 : Int) ≤ G by omega)
        omega
    have hq1 : n / (G : Int) ≤ 9223372036854775807 := by
      rcases Int.lt_or_le n 0 with h | h
      · have := Int.ediv_neg_of_neg_of_pos h (show (0 : Int) < G by omega)
        omega
      · have := Int.ediv_le_self (G : Int) h
        omega
    rcases Int.lt_or_le n 0 with h | h
    · by_cases hz : n % (G : Int) = 0
      · obtain ⟨a, b⟩ := t2 h hz
        exact fd_pos n G _ _ w hne hg h0 a b (by rw [IntKind.wrap_i64]; omega) (by decide) (by decide) _ (by rw [hz])
      · obtain ⟨a, b⟩ := t3 h hz
        have c1 : n.tmod (G : Int) ≠ 0 := by omega
        have hlo : -9223372036854775808 ≤ n.tmod (G : Int) := by
          have := Int.mul_tdiv_add_tmod n (G : Int)
          rw [a, Int.mul_add] at this
          omega
        have := fd_neg n G _ _ w hne hg h0 a rfl (by have := Int.ediv_neg_of_neg_of_pos h (show (0 : Int) < G by omega); rw [IntKind.wrap_i64]; omega) (by rw [IntKind.wrap_i64]; omega) (by rw [IntKind.wrap_i64]; omega) (by simpa using b) _ rfl
        rw [show n / (G : Int) + 1 - 1 = n / (G : Int) by omega] at this
        rw [show (n % (G : Int) == 0) = (n.tmod (G : Int) == 0) by rw [Bool.eq_iff_iff, beq_iff_eq, beq_iff_eq]; exact ⟨fun q => absurd q hz, fun q => absurd q c1⟩]
        exact this
    · obtain ⟨a, b⟩ := t1 h
      exact fd_pos n G _ _ w hne hg h0 a b (by rw [IntKind.wrap_i64]; omega) (by rw [IntKind.wrap_i64]; omega) (by simp; omega) _ rfl
end Go.Proofs.YtbicmlkjonaccaaDoor.Ln


namespace Go.Proofs.YtbicmlkjonaccaaDoor.Ln
open Go.ChangeShapes Go.WideShapes Go.ChangeAt Go.RowKit
set_option linter.unusedVariables false
set_option linter.unusedSimpArgs false
/-- The three limbs of a number in two's complement. -/
def l0 (V : Int) : Int := V % 18446744073709551616
def l1 (V : Int) : Int := V / 18446744073709551616 % 18446744073709551616
def l2 (V : Int) : Int := V / 340282366920938463463374607431768211456 % 18446744073709551616
theorem l0_add (V X : Int) : (l0 V + l0 X) % 18446744073709551616 = l0 (V + X) := by unfold l0; omega
theorem l1_add (V X : Int) : (l1 V + l1 X + (l0 V + l0 X) / 18446744073709551616) % 18446744073709551616 = l1 (V + X) := by unfold l1 l0; omega
theorem l2_add (V X : Int) : (l2 V + l2 X + (l1 V + l1 X + (l0 V + l0 X) / 18446744073709551616) / 18446744073709551616) % 18446744073709551616 = l2 (V + X) := by
  have e : ∀ Y : Int, Y / 340282366920938463463374607431768211456 = Y / 18446744073709551616 / 18446744073709551616 := fun Y => by omega
  unfold l2 l1 l0
  rw [e V, e X, e (V + X)]
  obtain ⟨q, hq⟩ : ∃ q, V / 18446744073709551616 = q := ⟨_, rfl⟩
  obtain ⟨r, hr⟩ : ∃ r, X / 18446744073709551616 = r := ⟨_, rfl⟩
  obtain ⟨u, hu⟩ : ∃ u, (V + X) / 18446744073709551616 = u := ⟨_, rfl⟩
  have hc : u = q + r + (V % 18446744073709551616 + X % 18446744073709551616) / 18446744073709551616 := by omega
  rw [hq, hr, hu, hc]
  generalize (V % 18446744073709551616 + X % 18446744073709551616) / 18446744073709551616 = c
  clear hq hr hu hc e
  omega
theorem l_bd (V : Int) : (0 ≤ l0 V ∧ l0 V < 18446744073709551616) ∧ (0 ≤ l1 V ∧ l1 V < 18446744073709551616) ∧ (0 ≤ l2 V ∧ l2 V < 18446744073709551616) := by unfold l2 l1 l0; omega
/-- The two limbs that the unsigned product gives. -/
theorem mul_pp {a b : Int} (ha : 0 ≤ a) (ha2 : a ≤ 9223372036854775807) (hb : 0 ≤ b) (hb2 : b ≤ 9223372036854775807) : (a % 18446744073709551616) * (b % 18446744073709551616) = a * b := by
  rw [Int.emod_eq_of_lt ha (by omega), Int.emod_eq_of_lt hb (by omega)]
theorem neg_mod {a : Int} (ha : a < 0) (ha2 : -9223372036854775808 ≤ a) : a % 18446744073709551616 = a + 18446744073709551616 := by omega
theorem pos_mod {a : Int} (ha : 0 ≤ a) (ha2 : a ≤ 9223372036854775807) : a % 18446744073709551616 = a := by omega
theorem lo_eq {a b : Int} (ha1 : -9223372036854775808 ≤ a) (ha2 : a ≤ 9223372036854775807) (hb1 : -9223372036854775808 ≤ b) (hb2 : b ≤ 9223372036854775807) : (a % 18446744073709551616) * (b % 18446744073709551616) % 18446744073709551616 = l0 (a * b) := by
  unfold l0
  rw [← Int.mul_emod]
theorem hi_eq {a b : Int} (ha1 : -9223372036854775808 ≤ a) (ha2 : a ≤ 9223372036854775807) (hb1 : -9223372036854775808 ≤ b) (hb2 : b ≤ 9223372036854775807) :
    ((a % 18446744073709551616) * (b % 18446744073709551616) / 18446744073709551616 - (if a < 0 then b % 18446744073709551616 else 0) - (if b < 0 then a % 18446744073709551616 else 0)) % 18446744073709551616 = l1 (a * b) := by
  unfold l1
  by_cases h1 : a < 0
  · by_cases h2 : b < 0
    · rw [if_pos h1, if_pos h2, neg_mod h1 ha1, neg_mod h2 hb1]
      have e : (a + 18446744073709551616) * (b + 18446744073709551616) = a * b + 18446744073709551616 * a + 18446744073709551616 * b + 340282366920938463463374607431768211456 := by grind
      rw [e]
      generalize a * b = X
      omega
    · rw [if_pos h1, if_neg h2, neg_mod h1 ha1, pos_mod (by omega) hb2]
      have e : (a + 18446744073709551616) * b = a * b + 18446744073709551616 * b := by grind
      rw [e]
      generalize a * b = X
      omega
  · by_cases h2 : b < 0
    · rw [if_neg h1, if_pos h2, pos_mod (by omega) ha2, neg_mod h2 hb1]
      have e : a * (b + 18446744073709551616) = a * b + 18446744073709551616 * a := by grind
      rw [e]
      generalize a * b = X
      omega
    · rw [if_neg h1, if_neg h2, pos_mod (by omega) ha2, pos_mod (by omega) hb2]
      generalize a * b = X
      omega
theorem prod_bd {a b : Int} (ha1 : -9223372036854775808 ≤ a) (ha2 : a ≤ 9223372036854775807) (hb1 : -9223372036854775808 ≤ b) (hb2 : b ≤ 9223372036854775807) : -85070591730234615865843651857942052864 ≤ a * b ∧ a * b ≤ 85070591730234615865843651857942052864 := by
  have h : (a * b).natAbs ≤ 9223372036854775808 * 9223372036854775808 := by
    rw [Int.natAbs_mul]
    exact Nat.mul_le_mul (by omega) (by omega)
  omega
theorem sg_eq {X : Int} (h1 : -85070591730234615865843651857942052864 ≤ X) (h2 : X ≤ 85070591730234615865843651857942052864) : (if l1 X < 9223372036854775808 then 0 else 18446744073709551615) = l2 X := by
  unfold l1 l2
  split <;> omega
/-- A sum in 192 bits that fits in 64: both upper limbs repeat the lower one's sign. -/
theorem fits_iff {V : Int} (h1 : -1569275433846670190958947355801916604025588861116008628224 ≤ V) (h2 : V ≤ 1569275433846670190958947355801916604025588861116008628224) :
    (l1 V = (if l0 V < 9223372036854775808 then 0 else 18446744073709551615) ∧ l2 V = (if l0 V < 9223372036854775808 then 0 else 18446744073709551615)) ↔ (-9223372036854775808 ≤ V ∧ V ≤ 9223372036854775807) := by
  unfold l0 l1 l2
  constructor
  · intro h
    split at h <;> omega
  · intro h
    split <;> omega
end Go.Proofs.YtbicmlkjonaccaaDoor.Ln


namespace Go.Proofs.YtbicmlkjonaccaaDoor.Ln
open Go.ChangeShapes Go.WideShapes Go.ChangeAt Go.RowKit
set_option linter.unusedVariables false
set_option linter.unusedSimpArgs false
theorem u64w (n : Int) : IntKind.u64.wrap n = n % 18446744073709551616 := by simp [IntKind.wrap, IntKind.bits, IntKind.signed]
def addS (x y c : Int) : Int := (x + y + c) % 18446744073709551616
def addC (x y c : Int) : Int := (x + y + c) / 18446744073709551616
theorem addG (x y c : Int) (hx : 0 ≤ x ∧ x < 18446744073709551616) (hy : 0 ≤ y ∧ y < 18446744073709551616) (hc : 0 ≤ c ∧ c ≤ 1) (w : World) : (callFunc 112 #[.int .u64 x, .int .u64 y, .int .u64 c]).run Tryd.prog w = .ok (.value (.tuple #[.int .u64 (addS x y c), .int .u64 (addC x y c)])) w := by
  rw [run_callFunc_extern Tryd.func112 (by kernel_rfl) (by kernel_rfl) (by kernel_rfl) (e := add64Entry) (by kernel_rfl), run_add64 x y c hx.1 hy.1 hc.1 hc.2]
  rfl
theorem mulG (x y : Int) (hx : 0 ≤ x ∧ x < 18446744073709551616) (hy : 0 ≤ y ∧ y < 18446744073709551616) (w : World) : Calls Tryd.prog 111 #[.int .u64 x, .int .u64 y] w fun e w' => e = .returned (.tuple #[.int .u64 (x * y / 18446744073709551616), .int .u64 (x * y % 18446744073709551616)]) ∧ w = w' := by
  obtain ⟨n, rfl⟩ := Int.eq_ofNat_of_zero_le hx.1
  obtain ⟨m, rfl⟩ := Int.eq_ofNat_of_zero_le hy.1
  refine (Tryd.bits_Mul64 n m (by omega) (by omega) w).mono ?_
  rintro e w' ⟨rfl, rfl⟩
  exact ⟨by rw [Int.natCast_ediv, Int.natCast_emod, Int.natCast_mul]; rfl, rfl⟩
set_option maxRecDepth 100000 in
set_option maxHeartbeats 8000000 in
theorem waddT (g : Nat) (x0 x1 x2 a b A B H H1 H2 L : Int) (w : World) (hA : IntKind.u64.wrap a = A) (hB : IntKind.u64.wrap b = B)
    (C1 : Hid (∀ w, Calls Tryd.prog 111 #[.int .u64 A, .int .u64 B] w fun e w' => e = .returned (.tuple #[.int .u64 H, .int .u64 L]) ∧ w = w'))
    (e1 : Hid (a < 0 → IntKind.u64.wrap (H - B) = H1)) (e1' : Hid (¬ a < 0 → H = H1)) (e2 : Hid (b < 0 → IntKind.u64.wrap (H1 - A) = H2)) (e2' : Hid (¬ b < 0 → H1 = H2))
    (a0 : w.cell? ⟨g, 0, none⟩ = some (.int .u64 x2)) (a1 : w.cell? ⟨g, 1, none⟩ = some (.int .u64 x1)) (a2 : w.cell? ⟨g, 2, none⟩ = some (.int .u64 x0)) (z0 : w.frozen? ⟨g, 0, none⟩ = false) (z1 : w.frozen? ⟨g, 1, none⟩ = false) (z2 : w.frozen? ⟨g, 2, none⟩ = false) 
    (y0 c0 y1 c1 y2 c2 S : Int) (hS : IntKind.u64.wrap (wrap64 H2 / 9223372036854775808) = S)
    (D0 : ∀ w, (callFunc 112 #[.int .u64 x0, .int .u64 L, .int .u64 0]).run Tryd.prog w = .ok (.value (.tuple #[.int .u64 y0, .int .u64 c0])) w)
    (D1 : ∀ w, (callFunc 112 #[.int .u64 x1, .int .u64 H2, .int .u64 c0]).run Tryd.prog w = .ok (.value (.tuple #[.int .u64 y1, .int .u64 c1])) w)
    (D2 : ∀ w, (callFunc 112 #[.int .u64 x2, .int .u64 S, .int .u64 c1]).run Tryd.prog w = .ok (.value (.tuple #[.int .u64 y2, .int .u64 c2])) w) :
    Calls Tryd.prog 80 #[.pointer (some ⟨g, 0, none⟩), .int .i64 a, .int .i64 b] w fun e w' => e = .returned (.tuple #[]) ∧ w' = ((w.setCell ⟨g, 2, none⟩ (.int .u64 y0)).setCell ⟨g, 1, none⟩ (.int .u64 y1)).setCell ⟨g, 0, none⟩ (.int .u64 y2) := by
  by_cases ha : a < 0
  · have f1 := e1.out ha
    by_cases hb : b < 0
    · have f2 := e2.out hb
      go_enter Tryd.func80, Tryd.ntmps80
      go_wp2_with fail
      refine (C1.out _).mono ?_
      rintro e w' ⟨rfl, rfl⟩
      go_wp2
      go_end0
      exact ⟨rfl, rfl⟩
    · obtain rfl := e2'.out hb
      go_enter Tryd.func80, Tryd.ntmps80
      go_wp2_with fail
      refine (C1.out _).mono ?_
      rintro e w' ⟨rfl, rfl⟩
      go_wp2
      go_end0
      exact ⟨rfl, rfl⟩
  · obtain rfl := e1'.out ha
    by_cases hb : b < 0
    · have f2 := e2.out hb
      go_enter Tryd.func80, Tryd.ntmps80
      go_wp2_with fail
      refine (C1.out _).mono ?_
      rintro e w' ⟨rfl, rfl⟩
      go_wp2
      go_end0
      exact ⟨rfl, rfl⟩
    · obtain rfl := e2'.out hb
      go_enter Tryd.func80, Tryd.ntmps80
      go_wp2_with fail
      refine (C1.out _).mono ?_
      rintro e w' ⟨rfl, rfl⟩
      go_wp2
      go_end0
      exact ⟨rfl, rfl⟩
theorem sgn {X : Int} (h1 : -85070591730234615865843651857942052864 ≤ X) (h2 : X ≤ 85070591730234615865843651857942052864) : IntKind.u64.wrap (wrap64 (l1 X) / 9223372036854775808) = l2 X := by
  have hb := l_bd X
  rw [← sg_eq h1 h2, u64w]
  unfold wrap64
  split <;> omega
theorem hbd {A B : Int} (a0 : 0 ≤ A) (a1 : A < 18446744073709551616) (b0 : 0 ≤ B) (b1 : B < 18446744073709551616) : 0 ≤ A * B / 18446744073709551616 ∧ A * B / 18446744073709551616 < 18446744073709551616 := by
  have h1 : A * B ≤ 18446744073709551615 * B := Int.mul_le_mul_of_nonneg_right (by omega) b0
  have h0 : 0 ≤ A * B := Int.mul_nonneg a0 b0
  generalize A * B = P at *
  omega
theorem modd (h c d : Int) : ((h - c) % 18446744073709551616 - d) % 18446744073709551616 = (h - c - d) % 18446744073709551616 := by omega
theorem waddG (g : Nat) (V a b : Int) (w : World) (ha1 : -9223372036854775808 ≤ a) (ha2 : a ≤ 9223372036854775807) (hb1 : -9223372036854775808 ≤ b) (hb2 : b ≤ 9223372036854775807)
    (a0 : w.cell? ⟨g, 0, none⟩ = some (.int .u64 (l2 V))) (a1 : w.cell? ⟨g, 1, none⟩ = some (.int .u64 (l1 V))) (a2 : w.cell? ⟨g, 2, none⟩ = some (.int .u64 (l0 V))) (z0 : w.frozen? ⟨g, 0, none⟩ = false) (z1 : w.frozen? ⟨g, 1, none⟩ = false) (z2 : w.frozen? ⟨g, 2, none⟩ = false) :
    Calls Tryd.prog 80 #[.pointer (some ⟨g, 0, none⟩), .int .i64 a, .int .i64 b] w fun e w' => e = .returned (.tuple #[]) ∧ w' = ((w.setCell ⟨g, 2, none⟩ (.int .u64 (l0 (V + a * b)))).setCell ⟨g, 1, none⟩ (.int .u64 (l1 (V + a * b)))).setCell ⟨g, 0, none⟩ (.int .u64 (l2 (V + a * b))) := by
  have hp := prod_bd ha1 ha2 hb1 hb2
  have lo := lo_eq ha1 ha2 hb1 hb2
  have hi := hi_eq ha1 ha2 hb1 hb2
  have bV := l_bd V
  have bX := l_bd (a * b)
  have A0 := l0_add V (a * b)
  have A1 := l1_add V (a * b)
  have A2 := l2_add V (a * b)
  have hS := sgn hp.1 hp.2
  generalize a * b = X at *
  have c0 : addC (l0 V) (l0 X) 0 = (l0 V + l0 X) / 18446744073709551616 := by unfold addC; rw [Int.add_zero]
  have c1 : addC (l1 V) (l1 X) (addC (l0 V) (l0 X) 0) = (l1 V + l1 X + (l0 V + l0 X) / 18446744073709551616) / 18446744073709551616 := by rw [c0]; rfl
  have s0 : addS (l0 V) (l0 X) 0 = l0 (V + X) := by unfold addS; rw [Int.add_zero, A0]
  have s1 : addS (l1 V) (l1 X) (addC (l0 V) (l0 X) 0) = l1 (V + X) := by rw [c0]; unfold addS; rw [A1]
  have s2 : addS (l2 V) (l2 X) (addC (l1 V) (l1 X) (addC (l0 V) (l0 X) 0)) = l2 (V + X) := by rw [c1]; unfold addS; rw [A2]
  have D0 := addG (l0 V) (l0 X) 0 bV.1 bX.1 (by omega)
  have D1 := addG (l1 V) (l1 X) (addC (l0 V) (l0 X) 0) bV.2.1 bX.2.1 (by rw [c0]; omega)
  have D2 := addG (l2 V) (l2 X) (addC (l1 V) (l1 X) (addC (l0 V) (l0 X) 0)) bV.2.2 bX.2.2 (by rw [c1]; omega)
  rw [s0] at D0
  rw [s1] at D1
  rw [s2] at D2
  refine waddT g (l0 V) (l1 V) (l2 V) a b (a % 18446744073709551616) (b % 18446744073709551616) (a % 18446744073709551616 * (b % 18446744073709551616) / 18446744073709551616)
    ((a % 18446744073709551616 * (b % 18446744073709551616) / 18446744073709551616 - (if a < 0 then b % 18446744073709551616 else 0)) % 18446744073709551616) (l1 X) (l0 X) w (u64w a) (u64w b) (Lib.hid ?_) (Lib.hid ?_) (Lib.hid ?_) (Lib.hid ?_) (Lib.hid ?_) a0 a1 a2 z0 z1 z2 _ _ _ _ _ _ _ hS D0 D1 D2
  · intro w
    rw [← lo]
    exact mulG _ _ ⟨Int.emod_nonneg _ (by decide), Int.emod_lt_of_pos _ (by decide)⟩ ⟨Int.emod_nonneg _ (by decide), Int.emod_lt_of_pos _ (by decide)⟩ w
  · intro h
    rw [u64w, if_pos h]
  · intro h
    have hh := hbd (A := a % 18446744073709551616) (B := b % 18446744073709551616) (Int.emod_nonneg _ (by decide)) (Int.emod_lt_of_pos _ (by decide)) (Int.emod_nonneg _ (by decide)) (Int.emod_lt_of_pos _ (by decide))
    rw [if_neg h, Int.sub_zero, Int.emod_eq_of_lt hh.1 hh.2]
  · intro h
    rw [u64w, ← hi, if_pos h, modd]
  · intro h
    rw [← hi, if_neg h, Int.sub_zero]
set_option maxRecDepth 100000 in
set_option maxHeartbeats 8000000 in
theorem wfitT (g : Nat) (x0 x1 x2 S : Int) (q1 q2 : Bool) (w : World) (hS : IntKind.u64.wrap (wrap64 x0 / 9223372036854775808) = S) (h1 : (x1 == S) = q1) (h2 : (x2 == S) = q2)
    (a0 : w.cell? ⟨g, 0, none⟩ = some (.int .u64 x2)) (a1 : w.cell? ⟨g, 1, none⟩ = some (.int .u64 x1)) (a2 : w.cell? ⟨g, 2, none⟩ = some (.int .u64 x0)) :
    Calls Tryd.prog 83 #[.pointer (some ⟨g, 0, none⟩)] w fun e w' => e = .returned (.bool (q1 && q2)) ∧ ∃ n, w' = w.drewN n := by
  cases q1 <;> cases q2
  all_goals
    go_enter Tryd.func83, Tryd.ntmps83
    go_wp2
    go_ret
    first | exact ⟨rfl, 0, rfl⟩ | exact ⟨rfl, 1, rfl⟩
end Go.Proofs.YtbicmlkjonaccaaDoor.Ln


namespace Go.Proofs.YtbicmlkjonaccaaDoor.Ln
open Go.ChangeShapes Go.WideShapes Go.ChangeAt Go.RowKit
set_option linter.unusedVariables false
set_option linter.unusedSimpArgs false
theorem sgn0 {x : Int} (h0 : 0 ≤ x) (h1 : x < 18446744073709551616) : IntKind.u64.wrap (wrap64 x / 9223372036854775808) = if x < 9223372036854775808 then 0 else 18446744073709551615 := by
  rw [u64w]
  unfold wrap64
  split <;> omega
theorem wfitG (g : Nat) (V : Int) (w : World) (h1 : -1569275433846670190958947355801916604025588861116008628224 ≤ V) (h2 : V ≤ 1569275433846670190958947355801916604025588861116008628224)
    (a0 : w.cell? ⟨g, 0, none⟩ = some (.int .u64 (l2 V))) (a1 : w.cell? ⟨g, 1, none⟩ = some (.int .u64 (l1 V))) (a2 : w.cell? ⟨g, 2, none⟩ = some (.int .u64 (l0 V))) :
    Calls Tryd.prog 83 #[.pointer (some ⟨g, 0, none⟩)] w fun e w' => e = .returned (.bool (fit64 V)) ∧ ∃ n, w' = w.drewN n := by
  have hb := l_bd V
  have hi := fits_iff h1 h2
  refine (wfitT g (l0 V) (l1 V) (l2 V) _ _ _ w (sgn0 hb.1.1 hb.1.2) rfl rfl a0 a1 a2).mono ?_
  rintro e w' ⟨rfl, hn⟩
  refine ⟨?_, hn⟩
  rw [show fit64 V = ((l1 V == (if l0 V < 9223372036854775808 then 0 else 18446744073709551615)) && (l2 V == (if l0 V < 9223372036854775808 then 0 else 18446744073709551615))) from ?_]
  rw [Bool.eq_iff_iff, fit_yes, Bool.and_eq_true, beq_iff_eq, beq_iff_eq]
  exact hi.symm
theorem grown_of {w w2 : World} {a : Addr} {v : Value} (h : Below w.heap.size w w2) : w.grownBy (w2.setCell a v) (some a.block) :=
  ⟨h.os, h.tape, h.output, by rw [World.size_setCell]; exact h.size, fun k hk hne => (Below.heap_setCell w2 a v k (fun e => hne (by rw [e]))).trans (h.block k hk)⟩
def TW (x by' : Int) (f : Bool) (gf : Nat) (w : World) (e : Ending) (w' : World) : Prop :=
  e = .returned (.int .i64 (wrap64 (x * by'))) ∧ w.grownBy w' (some gf) ∧ w'.cell? ⟨gf, 0, none⟩ = some (.bool (f && fit64 (x * by'))) ∧ w'.frozen? ⟨gf, 0, none⟩ = false
set_option maxRecDepth 100000 in
set_option maxHeartbeats 8000000 in
theorem times1 (x by' : Int) (f : Bool) (gb gf : Nat) (w : World) (x1 : -9223372036854775808 ≤ x) (x2 : x ≤ 9223372036854775807) (b1 : -9223372036854775808 ≤ by') (b2 : by' ≤ 9223372036854775807)
    (hb : w.cell? ⟨gb, 0, none⟩ = some (.int .i64 by')) (hf : w.cell? ⟨gf, 0, none⟩ = some (.bool f)) (hz : w.frozen? ⟨gf, 0, none⟩ = false) (hne : gb ≠ gf) (hne' : gf ≠ gb) :
    Calls Tryd.prog 95 #[.int .i64 x, .pointer (some ⟨gb, 0, none⟩), .pointer (some ⟨gf, 0, none⟩)] w (TW x by' f gf w) := by
  have hg : gf < w.heap.size := by have := World.block_lt_of_cell? w _ hf; simpa using this
  have hgb : gb < w.heap.size := by have := World.block_lt_of_cell? w _ hb; simpa using this
  have C1 := Lib.hid fun (w1 : World) (g : Nat) h0 h1 h2 z0 z1 z2 => waddG g 0 x by' w1 x1 x2 b1 b2 h0 h1 h2 z0 z1 z2
  have C2 := Lib.hid fun (w1 : World) (g : Nat) h0 h1 h2 => wfitG g (x * by') w1 (by have := prod_bd x1 x2 b1 b2; omega) (by have := prod_bd x1 x2 b1 b2; omega) h0 h1 h2
  rw [Int.zero_add, show l2 0 = 0 from rfl, show l1 0 = 0 from rfl, show l0 0 = 0 from rfl] at C1
  have B0 : Below w.heap.size w (w.alloc (Obj.cells #[Value.int .u64 0, Value.int .u64 0, Value.int .u64 0] 102)) := (Below.refl _ _).alloc (Nat.le_refl _) _
  have f1 := kp B0 hgb hb
  go_enter Tryd.func95, Tryd.ntmps95
  go_wp2_with fail
  have hfz := (B0.frozen (p := ⟨gf, 0, none⟩) hg).trans hz
  have f2 := kp B0 hg hf
  refine (C1.out (w.alloc (Obj.cells #[Value.int .u64 0, Value.int .u64 0, Value.int .u64 0] 102)) w.heap.size (by go_cell) (by go_cell) (by go_cell) (by first | go_cell | simp) (by first | go_cell | simp) (by first | go_cell | simp)).mono ?_
  rintro e w2 ⟨rfl, h2⟩
  have r0 : w2.cell? ⟨w.heap.size, 0, none⟩ = some (.int .u64 (l2 (x * by'))) := by rw [h2]; go_cell
  have r1 : w2.cell? ⟨w.heap.size, 1, none⟩ = some (.int .u64 (l1 (x * by'))) := by rw [h2]; go_cell
  have r2 : w2.cell? ⟨w.heap.size, 2, none⟩ = some (.int .u64 (l0 (x * by'))) := by rw [h2]; go_cell
  have K2 : Below w.heap.size w w2 := by
    rw [h2]
    exact ((B0.setCell (p := ⟨w.heap.size, 2, none⟩) (Nat.le_refl _) _).setCell (p := ⟨w.heap.size, 1, none⟩) (Nat.le_refl _) _).setCell (p := ⟨w.heap.size, 0, none⟩) (Nat.le_refl _) _
  have C3 := Lib.hid (C2.out w2 w.heap.size r0 r1 r2)
  clear h2 f1 f2 hfz B0 r0 r1 r2 C1 C2
  have f1 := kp K2 hgb hb
  have f2 := kp K2 hg hf
  have hfz := (K2.frozen (p := ⟨gf, 0, none⟩) hg).trans hz
  obtain ⟨v, hv⟩ : ∃ v, fit64 (x * by') = v := ⟨_, rfl⟩
  rw [hv] at C3
  have HV := Lib.hid hv
  clear hv
  cases f
  · go_wp2
    go_ret
    exact ⟨rfl, grown_of (a := ⟨gf, 0, none⟩) K2, by go_cell, by first | go_cell | simp [World.frozen?_setCell, hfz]⟩
  · go_wp2_with (first | (go_at_call 83; refine C3.out.mono ?_; rintro e w3 ⟨rfl, n, rfl⟩))
    go_ret
    exact ⟨rfl, grown_of (a := ⟨gf, 0, none⟩) (below_drewN K2 n), by rw [HV.out, Bool.true_and]; go_cell, by first | go_cell | simp [World.frozen?_setCell, hfz]⟩
/-- Cells of blocks of the call's own. -/
def Cl (L : List (Nat × Nat × Value)) (u : World) : Prop := ∀ b o v, (b, o, v) ∈ L → u.cell? ⟨b, o, none⟩ = some v ∧ u.frozen? ⟨b, o, none⟩ = false
theorem lt_of_cell {u : World} {b o : Nat} {v : Value} (h : u.cell? ⟨b, o, none⟩ = some v) : b < u.heap.size := by have := World.block_lt_of_cell? u _ h; simpa using this
theorem Cl.below {L : List (Nat × Nat × Value)} {u u' : World} (h : Cl L u) (hb : Below u.heap.size u u') : Cl L u' := fun b o v hm => by
  obtain ⟨h1, h2⟩ := h b o v hm
  have := lt_of_cell h1
  exact ⟨(hb.cell (p := ⟨b, o, none⟩) this).trans h1, (hb.frozen (p := ⟨b, o, none⟩) this).trans h2⟩
theorem Cl.grown {L : List (Nat × Nat × Value)} {u u' : World} {r : Option Nat} (h : Cl L u) (hg : u.grownBy u' r) (hne : ∀ x ∈ L, some x.1 ≠ r) : Cl L u' := fun b o v hm => by
  obtain ⟨h1, h2⟩ := h b o v hm
  have hb := hg.block b (lt_of_cell h1) (hne _ hm)
  exact ⟨(World.cell?_of_block (a := ⟨b, o, none⟩) hb).trans h1, (World.frozen?_of_block (a := ⟨b, o, none⟩) hb).trans h2⟩
theorem Cl.far {L : List (Nat × Nat × Value)} {u : World} {a : Addr} {x : Value} (h : Cl L u) (hne : ∀ y ∈ L, y.1 ≠ a.block) : Cl L (u.setCell a x) := fun b o v hm => by
  obtain ⟨h1, h2⟩ := h b o v hm
  have hb := Below.heap_setCell u a x b (hne _ hm)
  exact ⟨(World.cell?_of_block (a := ⟨b, o, none⟩) hb).trans h1, (World.frozen?_of_block (a := ⟨b, o, none⟩) hb).trans h2⟩
theorem Cl.drewN {L : List (Nat × Nat × Value)} {u : World} (h : Cl L u) (n : Nat) : Cl L (u.drewN n) := fun b o v hm => h b o v hm
theorem Cl.drew {L : List (Nat × Nat × Value)} {u : World} (h : Cl L u) : Cl L u.drew := fun b o v hm => h b o v hm
theorem Cl.nil (u : World) : Cl [] u := fun _ _ _ h => by cases h
theorem Cl.cons {L : List (Nat × Nat × Value)} {u : World} {b o : Nat} {v : Value} (h1 : u.cell? ⟨b, o, none⟩ = some v) (h2 : u.frozen? ⟨b, o, none⟩ = false) (h : Cl L u) : Cl ((b, o, v) :: L) u := fun b' o' v' hm => by
  rcases List.mem_cons.1 hm with e | e
  · cases e; exact ⟨h1, h2⟩
  · exact h _ _ _ e
theorem Cl.head {L : List (Nat × Nat × Value)} {u : World} {b o : Nat} {v : Value} (h : Cl ((b, o, v) :: L) u) : u.cell? ⟨b, o, none⟩ = some v := (h b o v (by simp)).1
theorem Cl.headF {L : List (Nat × Nat × Value)} {u : World} {b o : Nat} {v : Value} (h : Cl ((b, o, v) :: L) u) : u.frozen? ⟨b, o, none⟩ = false := (h b o v (by simp)).2
theorem Cl.tail {L : List (Nat × Nat × Value)} {u : World} {x : Nat × Nat × Value} (h : Cl (x :: L) u) : Cl L u := fun b o v hm => h b o v (List.mem_cons_of_mem _ hm)
theorem Cl.sub {L L' : List (Nat × Nat × Value)} {u : World} (h : Cl L u) (hs : ∀ x ∈ L', x ∈ L) : Cl L' u := fun b o v hm => h b o v (hs _ hm)
theorem Cl.append {L L' : List (Nat × Nat × Value)} {u : World} (h : Cl L u) (h' : Cl L' u) : Cl (L ++ L') u := fun b o v hm => (List.mem_append.1 hm).elim (h b o v) (h' b o v)
theorem own_ne {u : World} {base : Nat} {E : TypeId} {sz n : Nat} {v : Value} {xs : List Value} {g : Nat} (h : u.ownsRow base E sz v n xs) (hg : g < base) : v.ownBlock = none ∨ v.ownBlock ≠ some g := by
  cases hb : v.ownBlock with
  | none => exact .inl rfl
  | some q => exact .inr (fun e => by cases e; have := (h.lt _ hb).1; omega)
theorem Cl.own {L : List (Nat × Nat × Value)} {u u' : World} {base : Nat} {E : TypeId} {sz n : Nat} {v : Value} {xs : List Value} (h : Cl L u) (hO : u.ownsRow base E sz v n xs) (hg : u.grownBy u' v.ownBlock) (hL : ∀ x ∈ L, x.1 < base) : Cl L u' :=
  h.grown hg (fun x hx e => by have := (hO.lt _ e.symm).1; have := hL x hx; omega)
theorem grown_set {u : World} {a : Addr} {v : Value} : u.grownBy (u.setCell a v) (some a.block) := grown_of (Below.refl _ _)
theorem own_set {u : World} {base : Nat} {E : TypeId} {sz n : Nat} {v : Value} {xs : List Value} {a : Addr} {y : Value} (h : u.ownsRow base E sz v n xs) (ha : a.block < base) : (u.setCell a y).ownsRow base E sz v n xs := h.kept grown_set (own_ne h ha)
theorem own_slice {u : World} {base : Nat} {E : TypeId} {sz n : Nat} {v : Value} {xs : List Value} (h : u.ownsRow base E sz v n xs) : ∃ q c, v = .slice q n c := by
  rcases h.2 with ⟨rfl, hn⟩ | ⟨g, cap, cur, rfl, _⟩
  · exact ⟨none, 0, by rw [hn]⟩
  · exact ⟨_, _, rfl⟩
theorem below_grown {B : Nat} {w u u' : World} {r : Option Nat} (h : Below B w u) (hg : u.grownBy u' r) (hB : B ≤ u.heap.size) (hr : ∀ k, r = some k → B ≤ k) : Below B w u' := h.grown hg hB hr
/-- Monomials in a row of the call's own. -/
def moC (m : Mo) : List Value := [.string m.1, .int .i64 m.2]
def moCs (l : List Mo) : List Value := l.flatMap moC
theorem moCs_len (l : List Mo) : (moCs l).length = l.length * 2 := by
  induction l with
  | nil => rfl
  | cons t ts ih => unfold moCs at ih ⊢; rw [List.flatMap_cons, List.length_append, ih, List.length_cons]; show 2 + _ = _; omega
theorem moCs_snoc (l : List Mo) (m : Mo) : moCs (l ++ [m]) = moCs l ++ moC m := by unfold moCs; rw [List.flatMap_append]; simp
theorem moCs_get : ∀ (l : List Mo) (i : Nat), i < l.length → (moCs l)[i * 2]? = some (.string (l.getD i mo0).1) ∧ (moCs l)[i * 2 + 1]? = some (.int .i64 (l.getD i mo0).2)
  | [], i, h => absurd h (by simp)
  | m :: l, 0, h => ⟨rfl, rfl⟩
  | m :: l, i + 1, h => by
    obtain ⟨h1, h2⟩ := moCs_get l i (by simpa using h)
    unfold moCs at h1 h2 ⊢
    rw [List.flatMap_cons]
    have e1 : (i + 1) * 2 = (i * 2 + 1) + 1 := by omega
    have e2 : (i + 1) * 2 + 1 = (i * 2 + 1 + 1) + 1 := by omega
    refine ⟨?_, ?_⟩
    · rw [e1]; show (_ :: _ :: _)[_]? = _; rw [List.getElem?_cons_succ, List.getElem?_cons_succ]; exact h1
    · rw [e2]; show (_ :: _ :: _)[_]? = _; rw [List.getElem?_cons_succ, List.getElem?_cons_succ]; exact h2
theorem addr_add (g k : Nat) : (⟨g, 0, none⟩ : Addr).add k = ⟨g, k, none⟩ := by
  unfold Addr.add
  split <;> simp_all
theorem own_sl {w : World} {base : Nat} {v : Value} {l : List Mo} (h : w.ownsRow base 59 2 v l.length (moCs l)) : ∃ p c, v = .slice p l.length c ∧ SlM w p l := by
  obtain ⟨h1, h2⟩ := h
  rcases h2 with ⟨rfl, hn⟩ | ⟨g, cap, cur, rfl, hb, hh, hc, hm, hs, ht⟩
  · exact ⟨none, 0, by rw [hn], fun i hi => absurd hi (by omega)⟩
  · refine ⟨some ⟨g, 0, none⟩, cap, rfl, fun i hi => ⟨g, 0, rfl, ?_⟩⟩
    have hO : w.ownsRow base 59 2 (.slice (some ⟨g, 0, none⟩) l.length cap) l.length (moCs l) := ⟨h1, .inr ⟨g, cap, cur, rfl, hb, hh, hc, hm, hs, ht⟩⟩
    obtain ⟨c1, c2⟩ := moCs_get l i hi
    have d1 := hO.cells (g := g) rfl _ _ c1
    have d2 := hO.cells (g := g) rfl _ _ c2
    rw [addr_add] at d1 d2
    exact ⟨by rw [Nat.zero_add]; exact d1, by rw [Nat.zero_add]; exact d2⟩
theorem own_sl' {w : World} {base n : Nat} {v : Value} {l : List Mo} (h : w.ownsRow base 59 2 v n (moCs l)) (hn : n = l.length) : ∃ p c, v = .slice p n c ∧ SlM w p l := by
  subst hn
  exact own_sl h
theorem SlM.below {w u : World} {p : Option Addr} {xs : List Mo} (h : SlM w p xs) (hb : Below w.heap.size w u) : SlM u p xs := SlM.keep hb h
def LR (k : Int) (ys : List Mo) (er : Int) (w : World) (e : Ending) (w' : World) : Prop := ∃ p c, e = .returned (.tuple #[Lv k p ys.length c, .int .i64 er]) ∧ SlM w' p ys ∧ Below w.heap.size w w'
theorem LR.zero {er : Int} {w w' : World} {e : Ending} (h : e = .returned (.tuple #[.agg #[.int .i64 0, .slice none 0 0], .int .i64 er])) (hb : Below w.heap.size w w') : LR 0 [] er w e w' := ⟨none, 0, h, fun i hi => absurd hi (by simp), hb⟩
theorem infoMo : (Tryd.prog.info? 59).map (fun i => (i.zero, i.size, i.bytes)) = some (some (.agg #[.string ⟨#[]⟩, .int .i64 0]), 2, 24) := by kernel_rfl
end Go.Proofs.YtbicmlkjonaccaaDoor.Ln
