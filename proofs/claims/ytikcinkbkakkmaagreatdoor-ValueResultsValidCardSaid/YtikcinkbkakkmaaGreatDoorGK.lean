/- New and Valid of the reference. -/
import Derived.Test.YtikcinkbkakkmaaGreatDoorGB
import Derived.Test.YtikcinkbkakkmaaGreatDoorGA

namespace Go.Proofs.YtikcinkbkakkmaaGreatDoor.Fr
open Go.ChangeShapes Go.WideShapes Go.ChangeAt Go.RowKit
set_option linter.unusedVariables false
set_option linter.unusedSimpArgs false
set_option maxHeartbeats 1000000 in
theorem rfgcd (x y : Int) (w : World) (x0 : 0 ≤ x) (x1 : x ≤ 9223372036854775808) (y0 : 0 ≤ y) (y1 : y ≤ 9223372036854775808) :
    Calls Tryz.prog 87 #[.int .u64 x, .int .u64 y] w (Val1 .u64 (Int.gcd x y) w) := by
  go_enter Tryz.func87, Tryz.ntmps87
  go_wp2
  go_loopw [0, 1] (fun a b wr => ∃ p q : Int, a = .int .u64 p ∧ b = .int .u64 q ∧ 0 ≤ p ∧ p ≤ 9223372036854775808 ∧ 0 ≤ q ∧ q ≤ 9223372036854775808 ∧ Int.gcd p q = Int.gcd x y ∧ ∃ n, wr = w.drewN n) (fun _ b _ => (intOf b).toNat)
  case atStart => exact ⟨x, y, rfl, rfl, x0, x1, y0, y1, rfl, 0, rfl⟩
  case round =>
    obtain ⟨p, q, rfl, rfl, p0, p1, q0, q1, hg, n, rfl⟩ := hrel
    have HG := Lib.hid hg
    clear hg
    by_cases hq : q = 0
    · subst hq
      go_wp2
      go_ret
      exact val1_end _ (by rw [← HG.out, gcd_done _ p0])
    · have hq1 : (q != 0) = true := by simpa using hq
      have hq2 : (q == 0) = false := by simpa using hq
      have hq3 : 0 < q := by omega
      have hm := Int.emod_nonneg p hq
      have hl := Int.emod_lt_of_pos p hq3
      clear hq
      go_wp2
      go_quiet (fail)
      go_wp2
      go_roundw
      case rel => exact ⟨q, p % q, rfl, rfl, by omega, by omega, by omega, by omega, by rw [gcd_step _ _ p0 hq3, HG.out], n + nq, by rw [World.drewN_drewN]⟩
      case measure => simp [intOf]; omega
theorem rsize_neg (n : Int) (w : World) (h : n < 0) (h' : -9223372036854775808 ≤ n) :
    Calls Tryz.prog 88 #[.int .i64 n] w fun e w' => e = .returned (.int .u64 (-n)) ∧ w = w' := by
  have e : ∀ a b : Int, a = b → Ending.returned (.int .u64 a) = .returned (.int .u64 b) := fun a b h => by rw [h]
  go_enter Tryz.func88, Tryz.ntmps88
  go_wp2
  go_ret
  exact ⟨e _ _ (by omega), rfl⟩
theorem rsize_pos (n : Int) (w : World) (h : 0 ≤ n) (h' : n ≤ 9223372036854775807) :
    Calls Tryz.prog 88 #[.int .i64 n] w fun e w' => e = .returned (.int .u64 n) ∧ w = w' := by
  go_enter Tryz.func88, Tryz.ntmps88
  go_wp2
  go_ret
  exact ⟨rfl, rfl⟩
set_option maxHeartbeats 4000000 in
theorem rmade_any (neg : Bool) (n d : Int) (w : World) (n0 : 0 ≤ n) (n1 : n ≤ 9223372036854775808) (d0 : 1 ≤ d) (d1 : d ≤ 9223372036854775808) :
    Calls Tryz.prog 107 #[.bool neg, .int .u64 n, .int .u64 d] w (Ret (Frac3 (lowN neg n d) (lowD n d) (lowE n d)) w) := by
  obtain ⟨g0, g1, q0, q1, r0, r1⟩ := gcd_facts n d n0 (by omega)
  obtain ⟨b, hb⟩ : ∃ b, decide (2147483647 < n / (Int.gcd n d : Int) ∨ 2147483647 < d / (Int.gcd n d : Int)) = b := ⟨_, rfl⟩
  have HN : lowN neg n d = if b then 0 else if neg then -(n / (Int.gcd n d : Int)) else n / (Int.gcd n d : Int) := by unfold lowN; subst hb; simp
  have HD : lowD n d = if b then 0 else d / (Int.gcd n d : Int) := by unfold lowD; subst hb; simp
  have HE : lowE n d = if b then 3 else 0 := by unfold lowE; subst hb; simp
  rw [HN, HD, HE]
  clear HN HD HE
  obtain ⟨q, hq⟩ : ∃ q, n / (Int.gcd n d : Int) = q := ⟨_, rfl⟩
  obtain ⟨r, hr⟩ : ∃ r, d / (Int.gcd n d : Int) = r := ⟨_, rfl⟩
  rw [hq] at q0 q1 hb ⊢
  rw [hr] at r0 r1 hb ⊢
  have gz : ((Int.gcd n d : Int) == 0) = false := by simp; omega
  obtain ⟨x, y, hx, hy, hxy⟩ : ∃ x y, decide (2147483647 < q) = x ∧ decide (2147483647 < r) = y ∧ (x || y) = b := ⟨_, _, rfl, rfl, by rw [← hb]; simp⟩
  clear hb
  have hx2 : x = false → q ≤ 2147483647 := fun h => by rw [h] at hx; simpa using hx
  have hy2 : y = false → r ≤ 2147483647 := fun h => by rw [h] at hy; simpa using hy
  cases x <;> cases y <;> simp only [Bool.or_false, Bool.or_true] at hxy <;> subst hxy
  all_goals cases neg
  all_goals
    try simp only [Bool.false_eq_true, ↓reduceIte]
    try have hx3 := hx2 rfl
    try have hy3 := hy2 rfl
    clear hx2 hy2
    go_enter Tryz.func107, Tryz.ntmps107
    go_wp2_with (go_at_call 87; refine (rfgcd _ _ _ (by omega) (by omega) (by omega) (by omega)).mono ?_; rintro e w1 ⟨rfl, k, rfl⟩)
    go_returns
    refine ⟨rfl, ?_⟩
    repeat' (first | (with_reducible exact Below.refl _ _) | (with_reducible refine below_drewN ?_ _) | (with_reducible refine Below.drew ?_) | (with_reducible refine Below.alloc ?_ ?_ _) | (with_reducible refine Below.setCell ?_ ?_ _) | (with_reducible assumption) | (simp; done) | (simp; omega) | omega)
set_option maxHeartbeats 4000000 in
theorem rnew_any (n d : Int) (w : World) (n0 : -9223372036854775808 ≤ n) (n1 : n ≤ 9223372036854775807) (d0 : -9223372036854775808 ≤ d) (d1 : d ≤ 9223372036854775807) :
    Calls Tryz.prog 77 #[.int .i64 n, .int .i64 d] w (Ret (Frac3 (newN n d) (newD n d) (newE n d)) w) := by
  by_cases hd : d = 0
  · subst hd
    have e1 : newN n 0 = 0 := rfl
    have e2 : newD n 0 = 0 := rfl
    have e3 : newE n 0 = 4 := rfl
    rw [e1, e2, e3]
    clear e1 e2 e3
    go_enter Tryz.func77, Tryz.ntmps77
    go_wp2
    go_returns
    refine ⟨rfl, ?_⟩
    repeat' (first | (with_reducible exact Below.refl _ _) | (with_reducible refine below_drewN ?_ _) | (with_reducible refine Below.drew ?_) | (with_reducible refine Below.alloc ?_ ?_ _) | (with_reducible refine Below.setCell ?_ ?_ _) | (with_reducible assumption) | (simp; done) | (simp; omega) | omega)
  · have hz : (d == 0) = false := by simpa using hd
    obtain ⟨x, y, hx, hy⟩ : ∃ x y, decide (n < 0) = x ∧ decide (d < 0) = y := ⟨_, _, rfl, rfl⟩
    obtain ⟨m, hm, m0, m1⟩ : ∃ m, (if n < 0 then -n else n) = m ∧ 0 ≤ m ∧ m ≤ 9223372036854775808 := ⟨_, rfl, by split <;> omega, by split <;> omega⟩
    obtain ⟨c, hc, c0, c1⟩ : ∃ c, (if d < 0 then -d else d) = c ∧ 1 ≤ c ∧ c ≤ 9223372036854775808 := ⟨_, rfl, by split <;> omega, by split <;> omega⟩
    have e1 : newN n d = lowN (x != y) m c := by unfold newN; rw [if_neg hd, hx, hy, hm, hc]
    have e2 : newD n d = lowD m c := by unfold newD; rw [if_neg hd, hm, hc]
    have e3 : newE n d = lowE m c := by unfold newE; rw [if_neg hd, hm, hc]
    rw [e1, e2, e3]
    have hx1 : x = true → n < 0 ∧ m = -n := fun h => by
      have h1 : n < 0 := by rw [h] at hx; simpa using hx
      exact ⟨h1, by rw [if_pos h1] at hm; exact hm.symm⟩
    have hx2 : x = false → 0 ≤ n ∧ m = n := fun h => by
      have h1 : 0 ≤ n := by rw [h] at hx; simpa using hx
      exact ⟨h1, by rw [if_neg (by omega)] at hm; exact hm.symm⟩
    have hy1 : y = true → d < 0 ∧ c = -d := fun h => by
      have h1 : d < 0 := by rw [h] at hy; simpa using hy
      exact ⟨h1, by rw [if_pos h1] at hc; exact hc.symm⟩
    have hy2 : y = false → 0 < d ∧ c = d := fun h => by
      have h1 : 0 ≤ d := by rw [h] at hy; simpa using hy
      exact ⟨by omega, by rw [if_neg (by omega)] at hc; exact hc.symm⟩
    have LW := Lib.hid (fun b (w : World) => rmade_any b m c w m0 m1 c0 c1)
    clear e1 e2 e3 hm hc
    cases x <;> cases y
    all_goals
      (first | obtain ⟨h1, rfl⟩ := hx1 rfl | obtain ⟨h1, rfl⟩ := hx2 rfl)
      (first | obtain ⟨h2, rfl⟩ := hy1 rfl | obtain ⟨h2, rfl⟩ := hy2 rfl)
      clear hx1 hx2 hy1 hy2
      go_enter Tryz.func77, Tryz.ntmps77
      go_wp2_with (first | (go_at_call 88; refine (rsize_pos _ _ (by omega) (by omega)).mono ?_; rintro e w1 ⟨rfl, rfl⟩) | (go_at_call 88; refine (rsize_neg _ _ (by omega) (by omega)).mono ?_; rintro e w1 ⟨rfl, rfl⟩) | (go_at_call 107; refine (LW.out _ _).mono ?_; rintro e w1 ⟨rfl, hb⟩; have hc := (bcell hb).1; have hf := (bcell hb).2))
      refine bodyPost_ret (v := Frac3 _ _ _) (by simp [results, Tryz.results77, go_sem, hc]) rfl ⟨rfl, ?_⟩
      refine Below.setCell (Below.setCell ?_ (by simp) _) (by simp) _
      exact ((Below.refl _ _).alloc (Nat.le_refl _) _).trans (hb.mono (by simp))
theorem rvalid_any (n d : Int) (w : World) : Calls Tryz.prog 76 #[.agg #[.int .i64 n, .int .i64 d]] w (Ret (.bool (vld n d)) w) := by
  go_enter Tryz.func76, Tryz.ntmps76
  go_wp2_with (go_at_call 30; refine (bval_any _ _ _).mono ?_; rintro e w1 ⟨rfl, hb⟩)
  go_ret
  exact ⟨rfl, ((Below.refl _ _).alloc (Nat.le_refl _) _).trans (hb.mono (by simp))⟩
end Go.Proofs.YtikcinkbkakkmaaGreatDoor.Fr


namespace Go.Proofs.YtikcinkbkakkmaaGreatDoor.Fr
open Go.ChangeShapes Go.WideShapes Go.ChangeAt Go.RowKit
set_option linter.unusedVariables false
set_option linter.unusedSimpArgs false
theorem step {k : Nat} {W w1 w2 : World} (B : Below k W w1) (hb : Below w1.heap.size w1 w2) (hk : k ≤ W.heap.size) : Below k W w2 := B.trans (hb.mono (Nat.le_trans hk B.size))
theorem cells3 {w w1 : World} {n1 d1 n2 d2 n3 d3 : Int} (h : Below (w.heap.size + 3) (((w.alloc (.cells #[.int .i64 n1, .int .i64 d1] 25)).alloc (.cells #[.int .i64 n2, .int .i64 d2] 25)).alloc (.cells #[.int .i64 n3, .int .i64 d3] 25)) w1) :
    w1.cell? ⟨w.heap.size, 0, none⟩ = some (.int .i64 n1) ∧ w1.cell? ⟨w.heap.size, 1, none⟩ = some (.int .i64 d1) ∧ w1.cell? ⟨w.heap.size + 1, 0, none⟩ = some (.int .i64 n2) ∧ w1.cell? ⟨w.heap.size + 1, 1, none⟩ = some (.int .i64 d2) ∧
    w1.cell? ⟨w.heap.size + 2, 0, none⟩ = some (.int .i64 n3) ∧ w1.cell? ⟨w.heap.size + 2, 1, none⟩ = some (.int .i64 d3) ∧ w1.frozen? ⟨w.heap.size + 2, 0, none⟩ = false ∧ w1.frozen? ⟨w.heap.size + 2, 1, none⟩ = false ∧ w.heap.size + 3 ≤ w1.heap.size := by
  have s := h.size
  simp at s
  refine ⟨?_, ?_, ?_, ?_, ?_, ?_, ?_, ?_, by omega⟩
  · rw [h.cell (p := ⟨w.heap.size, 0, none⟩) (show w.heap.size < w.heap.size + 3 by omega)]; go_cell
  · rw [h.cell (p := ⟨w.heap.size, 1, none⟩) (show w.heap.size < w.heap.size + 3 by omega)]; go_cell
  · rw [h.cell (p := ⟨w.heap.size + 1, 0, none⟩) (show w.heap.size + 1 < w.heap.size + 3 by omega)]; go_cell
  · rw [h.cell (p := ⟨w.heap.size + 1, 1, none⟩) (show w.heap.size + 1 < w.heap.size + 3 by omega)]; go_cell
  · rw [h.cell (p := ⟨w.heap.size + 2, 0, none⟩) (show w.heap.size + 2 < w.heap.size + 3 by omega)]; go_cell
  · rw [h.cell (p := ⟨w.heap.size + 2, 1, none⟩) (show w.heap.size + 2 < w.heap.size + 3 by omega)]; go_cell
  · rw [h.frozen (p := ⟨w.heap.size + 2, 0, none⟩) (show w.heap.size + 2 < w.heap.size + 3 by omega)]; go_cell
  · rw [h.frozen (p := ⟨w.heap.size + 2, 1, none⟩) (show w.heap.size + 2 < w.heap.size + 3 by omega)]; go_cell
theorem below3 (w : World) (a b c : Obj) : Below w.heap.size w (((w.alloc a).alloc b).alloc c) := (((Below.refl _ _).alloc (Nat.le_refl _) _).alloc (by simp) _).alloc (by simp; omega) _
/-- Both operands are valid fractions. -/
def both (n1 d1 n2 d2 : Int) : Bool := vld n1 d1 && vld n2 d2
end Go.Proofs.YtikcinkbkakkmaaGreatDoor.Fr
