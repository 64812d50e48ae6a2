/- Floor, Ceil and Neg of package frac and of the reference. -/
import Derived.Test.YteaaikmejacpaaaGreatDoorR5
import Derived.Laws.StructEq
import Derived.Test.YteaaikmejacpaaaGreatDoorR0

namespace Go.Proofs.YteaaikmejacpaaaGreatDoor.Fr
open Go.ChangeShapes Go.WideShapes Go.ChangeAt Go.RowKit
set_option linter.unusedVariables false
set_option linter.unusedSimpArgs false
/-- The floor of n/d by Go's quotient and remainder. -/
theorem floor_eq (n d : Int) (hd : 0 < d) : (n.tmod d < 0 -> n / d = n.tdiv d - 1 /\ n < n.tdiv d * d) /\ (¬ n.tmod d < 0 -> n / d = n.tdiv d /\ n.tdiv d * d <= n) := by
 have h1 := Int.mul_tdiv_add_tmod n d
 have h2 := Int.emod_nonneg n (by omega : d ≠ 0)
 have h3 := Int.emod_lt_of_pos n hd
 have h4 := Int.mul_ediv_add_emod n d
 have h5 : (n.tmod d).natAbs < d.natAbs := by
  rw [Int.natAbs_tmod]; exact Nat.mod_lt _ (by omega)
 obtain ⟨q, hq⟩ : ∃ q, n.tdiv d = q := ⟨_, rfl⟩
 obtain ⟨r, hr⟩ : ∃ r, n.tmod d = r := ⟨_, rfl⟩
 obtain ⟨p, hp⟩ : ∃ p, n / d = p := ⟨_, rfl⟩
 obtain ⟨s, hs⟩ : ∃ s, n % d = s := ⟨_, rfl⟩
 rw [hq, hr] at h1
 rw [hp, hs] at h4
 rw [hs] at h2 h3
 rw [hr] at h5
 rw [hq, hr, hp]
 have key : ∀ a b : Int, d * a <= d * b + (d - 1) -> a <= b := by
  intro a b hab
  by_cases hlt : a <= b
  ·exact hlt
  ·have := Int.mul_le_mul_of_nonneg_left (by omega : b + 1 <= a) (by omega : 0 <= d)
   rw [Int.mul_add, Int.mul_one] at this
   omega
 have hqd : q * d = d * q := Int.mul_comm _ _
 constructor
 ·intro hlt
  have a1 := key p (q - 1) (by rw [Int.mul_sub, Int.mul_one]; omega)
  have a2 := key (q - 1) p (by rw [Int.mul_sub, Int.mul_one]; omega)
  exact ⟨by omega, by omega⟩
 ·intro hge
  have a1 := key p q (by omega)
  have a2 := key q p (by omega)
  exact ⟨by omega, by omega⟩
theorem tdiv_bound (n d : Int) (hd : 0 < d) : -(n.natAbs : Int) <= n.tdiv d /\ n.tdiv d <= n.natAbs := by
 have h : (n.tdiv d).natAbs <= n.natAbs := by
  rw [Int.natAbs_tdiv]; exact Nat.div_le_self _ _
 omega
theorem vld_of {n d : Int} (h : vld n d = true) : 1 <= d /\ d <= 2147483647 /\ -2147483647 <= n /\ n <= 2147483647 /\ Int.gcd n d = 1 := by
 unfold vld at h
 simpa using h
theorem ret1 {k : IntKind} {a b : Int} (h : a = b) : Ending.returned (.int k a) = .returned (.int k b) := by rw [h]

def ngN (n d : Int) : Int := if vld n d then -n else 0
def ngD (n d : Int) : Int := if vld n d then d else 0
theorem vld_neg (n d : Int) : vld (-n) d = vld n d := by
 unfold vld
 rw [Int.neg_gcd]
 congr 1
 apply propext
 constructor <;> (intro h; omega)
set_option maxHeartbeats 2000000 in
theorem neg_any (n d : Int) (w : World) : Calls Tryz.prog 147 #[.agg #[.int .i64 n, .int .i64 d]] w (Ret (.agg #[.int .i64 (ngN n d), .int .i64 (ngD n d)]) w) := by
 obtain ⟨x, hx⟩ : ∃ x, vld n d = x := ⟨_, rfl⟩
 have e1 : ngN n d = if x then -n else 0 := by unfold ngN; rw [hx]
 have e2 : ngD n d = if x then d else 0 := by unfold ngD; rw [hx]
 rw [e1, e2]
 clear e1 e2
 have hb : x = true -> -2147483647 <= n /\ n <= 2147483647 := fun h => by
  rw [h] at hx; obtain ⟨d0, d1, n0, n1, _⟩ := vld_of hx; exact ⟨n0, n1⟩
 cases x
 all_goals
  try (have hn0 := (hb rfl).1; have hn1 := (hb rfl).2)
  clear hb
  simp only [Bool.false_eq_true, ↓reduceIte]
  go_enter Tryz.func147, Tryz.ntmps147
  go_wp2_with fail
  refine (valid_any _ _ _).mono ?_
  rintro e w1 ⟨rfl, hb1⟩
  have Bt : Below (w.heap.size + 2) ((w.alloc (.cells #[.int .i64 n, .int .i64 d] 29)).alloc (.cells #[.int .i64 0, .int .i64 0] 29)) w1 := hb1.mono (by simp)
  have z := Bt.size
  simp at z
  have c0 := Bt.cell (p := ⟨w.heap.size, 0, none⟩) (show w.heap.size < w.heap.size + 2 by omega)
  have c1 := Bt.cell (p := ⟨w.heap.size, 1, none⟩) (show w.heap.size < w.heap.size + 2 by omega)
  have c2 := Bt.cell (p := ⟨w.heap.size + 1, 0, none⟩) (show w.heap.size + 1 < w.heap.size + 2 by omega)
  have c3 := Bt.cell (p := ⟨w.heap.size + 1, 1, none⟩) (show w.heap.size + 1 < w.heap.size + 2 by omega)
  have f2 := Bt.frozen (p := ⟨w.heap.size + 1, 0, none⟩) (show w.heap.size + 1 < w.heap.size + 2 by omega)
  have f3 := Bt.frozen (p := ⟨w.heap.size + 1, 1, none⟩) (show w.heap.size + 1 < w.heap.size + 2 by omega)
  simp at c0 c1 c2 c3 f2 f3
  go_wp2
  refine bodyPost_ret (v := .agg #[.int .i64 _, .int .i64 _]) (by simp [results, Tryz.results147, go_sem, c2, c3]) rfl ⟨rfl, ?_⟩
  refine Below.setCell (Below.setCell ?_ (by simp <;> omega) _) (by simp <;> omega) _
  exact (((Below.refl _ _).alloc (Nat.le_refl _) _).alloc (by simp) _).trans (Bt.mono (by omega))
set_option maxHeartbeats 2000000 in
theorem rneg_any (n d : Int) (w : World) : Calls Tryz.prog 99 #[.agg #[.int .i64 n, .int .i64 d]] w (Ret (.agg #[.int .i64 (ngN n d), .int .i64 (ngD n d)]) w) := by
 obtain ⟨x, hx⟩ : ∃ x, vld n d = x := ⟨_, rfl⟩
 have e1 : ngN n d = if x then -n else 0 := by unfold ngN; rw [hx]
 have e2 : ngD n d = if x then d else 0 := by unfold ngD; rw [hx]
 rw [e1, e2]
 clear e1 e2
 have hb : x = true -> -2147483647 <= n /\ n <= 2147483647 := fun h => by
  rw [h] at hx; obtain ⟨d0, d1, n0, n1, _⟩ := vld_of hx; exact ⟨n0, n1⟩
 cases x
 all_goals
  try (have hn0 := (hb rfl).1; have hn1 := (hb rfl).2)
  clear hb
  simp only [Bool.false_eq_true, ↓reduceIte]
  go_enter Tryz.func99, Tryz.ntmps99
  go_wp2_with fail
  refine (rvalid_any _ _ _).mono ?_
  rintro e w1 ⟨rfl, hb1⟩
  have Bt : Below (w.heap.size + 2) ((w.alloc (.cells #[.int .i64 n, .int .i64 d] 29)).alloc (.cells #[.int .i64 0, .int .i64 0] 29)) w1 := hb1.mono (by simp)
  have z := Bt.size
  simp at z
  have c0 := Bt.cell (p := ⟨w.heap.size, 0, none⟩) (show w.heap.size < w.heap.size + 2 by omega)
  have c1 := Bt.cell (p := ⟨w.heap.size, 1, none⟩) (show w.heap.size < w.heap.size + 2 by omega)
  have c2 := Bt.cell (p := ⟨w.heap.size + 1, 0, none⟩) (show w.heap.size + 1 < w.heap.size + 2 by omega)
  have c3 := Bt.cell (p := ⟨w.heap.size + 1, 1, none⟩) (show w.heap.size + 1 < w.heap.size + 2 by omega)
  have f2 := Bt.frozen (p := ⟨w.heap.size + 1, 0, none⟩) (show w.heap.size + 1 < w.heap.size + 2 by omega)
  have f3 := Bt.frozen (p := ⟨w.heap.size + 1, 1, none⟩) (show w.heap.size + 1 < w.heap.size + 2 by omega)
  simp at c0 c1 c2 c3 f2 f3
  go_wp2
  refine bodyPost_ret (v := .agg #[.int .i64 _, .int .i64 _]) (by simp [results, Tryz.results99, go_sem, c2, c3]) rfl ⟨rfl, ?_⟩
  refine Below.setCell (Below.setCell ?_ (by simp <;> omega) _) (by simp <;> omega) _
  exact (((Below.refl _ _).alloc (Nat.le_refl _) _).alloc (by simp) _).trans (Bt.mono (by omega))
end Go.Proofs.YteaaikmejacpaaaGreatDoor.Fr


namespace Go.Proofs.YteaaikmejacpaaaGreatDoor.Fr

set_option linter.unusedVariables false
set_option linter.unusedSimpArgs false
theorem uniq (X Y n d : Int) (hY : 0 < Y) (hd : 0 < d) (hc : Int.gcd n d = 1) (h : X * d = n * Y) : ∃ k, 0 < k /\ X = k * n /\ Y = k * d := by
 have h1 : d.natAbs ∣ n.natAbs * Y.natAbs := by
  rw [<- Int.natAbs_mul]
  exact Int.natAbs_dvd_natAbs.2 ⟨X, by rw [<- h, Int.mul_comm]⟩
 have h2 : d.natAbs ∣ Y.natAbs := Nat.Coprime.dvd_of_dvd_mul_left (by rw [Nat.Coprime, Nat.gcd_comm]; exact hc) h1
 obtain ⟨k, hk⟩ := Int.natAbs_dvd_natAbs.1 h2
 have hk0 : 0 < k := by
  rcases (by omega : k <= 0 \/ 0 < k) with h0 | h0
  ·have := Int.mul_nonpos_of_nonneg_of_nonpos (by omega : 0 <= d) h0
   omega
  ·exact h0
 refine ⟨k, hk0, ?_, by rw [hk, Int.mul_comm]⟩
 have h3 : X * d = k * n * d := by rw [h, hk]; grind
 exact Int.eq_of_mul_eq_mul_right (by omega) h3
/-- New at a multiple of a pair in lowest terms. -/
theorem new_mult (k n d : Int) (hk : 0 < k) (hd : 0 < d) (hc : Int.gcd n d = 1) :
  newN (k * n) (k * d) = (if 2147483647 < (if n < 0 then -n else n) \/ 2147483647 < d then 0 else n) /\
  newD (k * n) (k * d) = (if 2147483647 < (if n < 0 then -n else n) \/ 2147483647 < d then 0 else d) /\
  newE (k * n) (k * d) = (if 2147483647 < (if n < 0 then -n else n) \/ 2147483647 < d then 3 else 0) := by
 have hkd : 0 < k * d := Int.mul_pos hk hd
 have hneg : k * n < 0 ↔ n < 0 := by
  constructor
  ·intro h
   rcases (by omega : n < 0 \/ 0 <= n) with h0 | h0
   ·exact h0
   ·have := Int.mul_nonneg (by omega : 0 <= k) h0; omega
  ·intro h; exact Int.mul_neg_of_pos_of_neg hk h
 obtain ⟨m, hm, m0, hmc⟩ : ∃ m, (if n < 0 then -n else n) = m /\ 0 <= m /\ Int.gcd m d = 1 := by
  refine ⟨_, rfl, by split <;> omega, ?_⟩
  split
  ·rw [Int.neg_gcd]; exact hc
  ·exact hc
 have habs : (if k * n < 0 then -(k * n) else k * n) = k * m := by
  by_cases h : n < 0
  ·rw [if_pos (hneg.2 h)]; rw [if_pos h] at hm; rw [<- hm, Int.mul_neg]
  ·rw [if_neg (fun h' => h (hneg.1 h'))]; rw [if_neg h] at hm; rw [<- hm]
 have hg : (Int.gcd (k * m) (k * d) : Int) = k := by
  rw [Int.gcd_mul_left, hmc]; omega
 have q1 : k * m / k = m := Int.mul_ediv_cancel_left _ (by omega)
 have q2 : k * d / k = d := Int.mul_ediv_cancel_left _ (by omega)
 have hs : (decide (k * n < 0) != decide (k * d < 0)) = decide (n < 0) := by
  rw [decide_eq_false (by omega : ¬ k * d < 0)]
  simp [hneg]
 unfold newN newD newE
 have e0 : ¬ k * d = 0 := by omega
 have e1 : ¬ k * d < 0 := by omega
 rw [if_neg e0, if_neg e0, if_neg e0, habs, if_neg e1, hs, hm]
 unfold lowN lowD lowE
 rw [hg, q1, q2]
 refine ⟨?_, rfl, rfl⟩
 by_cases h : n < 0
 ·rw [if_pos h] at hm
  simp only [decide_eq_true h, ↓reduceIte]
  split <;> omega
 ·rw [if_neg h] at hm
  simp only [decide_eq_false h, Bool.false_eq_true, ↓reduceIte]
  split <;> omega
theorem lowest_of (X Y : Int) (hY : 0 < Y) : ∃ k n d, 0 < k /\ 0 < d /\ Int.gcd n d = 1 /\ X = k * n /\ Y = k * d := by
 have g0 : 0 < (Int.gcd X Y : Int) := by
  have : Int.gcd X Y ≠ 0 := by
   intro h; have := (Int.gcd_eq_zero_iff.1 h).2; omega
  omega
 have e1 := Int.mul_ediv_cancel' (Int.gcd_dvd_left X Y)
 have e2 := Int.mul_ediv_cancel' (Int.gcd_dvd_right X Y)
 refine ⟨(Int.gcd X Y : Int), X / (Int.gcd X Y : Int), Y / (Int.gcd X Y : Int), g0, ?_, ?_, e1.symm, e2.symm⟩
 ·rcases (by omega : Y / (Int.gcd X Y : Int) <= 0 \/ 0 < Y / (Int.gcd X Y : Int)) with h0 | h0
  ·have := Int.mul_nonpos_of_nonneg_of_nonpos (by omega : 0 <= (Int.gcd X Y : Int)) h0
   omega
  ·exact h0
 ·rw [Int.gcd_ediv (Int.gcd_dvd_left X Y) (Int.gcd_dvd_right X Y), Int.natAbs_natCast, Nat.div_self (by omega)]

theorem new_back (X Y n d : Int) (hY : 0 < Y) (hv : vld n d = true) (h : X * d = n * Y) : newN X Y = n /\ newD X Y = d /\ newE X Y = 0 := by
 obtain ⟨d0, d1, n0, n1, hc⟩ := vld_of hv
 obtain ⟨k, k0, rfl, rfl⟩ := uniq X Y n d hY (by omega) hc h
 obtain ⟨a1, a2, a3⟩ := new_mult k n d k0 (by omega) hc
 have hk : ¬ (2147483647 < (if n < 0 then -n else n) \/ 2147483647 < d) := by split <;> omega
 rw [if_neg hk] at a1 a2 a3
 exact ⟨a1, a2, a3⟩
theorem new_red (X Y : Int) (hY : 0 < Y) (he : newE X Y = 0) : newN X Y * Y = X * newD X Y := by
 obtain ⟨k, n, d, k0, d0, hc, rfl, rfl⟩ := lowest_of X Y hY
 obtain ⟨a1, a2, a3⟩ := new_mult k n d k0 d0 hc
 have hk : ¬ (2147483647 < (if n < 0 then -n else n) \/ 2147483647 < d) := by
  intro hk; rw [a3, if_pos hk] at he; revert he; decide
 rw [if_neg hk] at a1 a2
 rw [a1, a2]; grind
end Go.Proofs.YteaaikmejacpaaaGreatDoor.Fr


namespace Go.Proofs.YteaaikmejacpaaaGreatDoor.Fr
open Go.ChangeShapes Go.WideShapes Go.ChangeAt Go.RowKit
set_option linter.unusedVariables false
set_option linter.unusedSimpArgs false
def cmpv (x y : Int) : Int := if x < y then -1 else if y < x then 1 else 0
def cmpr (n1 d1 n2 d2 : Int) : Int := if both n1 d1 n2 d2 then cmpv (n1 * d2) (n2 * d1) else if n1 = n2 then cmpv d1 d2 else cmpv n1 n2
theorem cmpv_cases (x y : Int) : (x < y /\ cmpv x y = -1) \/ (y < x /\ cmpv x y = 1) \/ (x = y /\ cmpv x y = 0) := by
 unfold cmpv
 by_cases h : x < y
 ·exact .inl ⟨h, if_pos h⟩
 ·by_cases h' : y < x
  ·exact .inr (.inl ⟨h', by rw [if_neg h, if_pos h']⟩)
  ·exact .inr (.inr ⟨by omega, by rw [if_neg h, if_neg h']⟩)
theorem cmp45 (x y : Int) (w : World) : Calls Tryz.prog 142 #[.int .i64 x, .int .i64 y] w fun e w' => e = .returned (.int .i64 (cmpv x y)) /\ w = w' := by
 rcases cmpv_cases x y with ⟨h, e⟩ | ⟨h, e⟩ | ⟨h, e⟩
 ·rw [e]
  have h1 : decide (x < y) = true := by simpa using h
  clear e h
  go_enter Tryz.func142, Tryz.ntmps142
  go_wp2
  go_ret
  exact ⟨rfl, rfl⟩
 ·rw [e]
  have h1 : decide (x < y) = false := by simp; omega
  have h2 : decide (y < x) = true := by simpa using h
  clear e
  go_enter Tryz.func142, Tryz.ntmps142
  go_wp2
  go_ret
  exact ⟨rfl, rfl⟩
 ·subst h
  rw [e]
  clear e
  go_enter Tryz.func142, Tryz.ntmps142
  go_wp2
  go_ret
  exact ⟨rfl, rfl⟩
theorem ord46 (x y : Int) (w : World) : Calls Tryz.prog 138 #[.int .i64 x, .int .i64 y] w fun e w' => e = .returned (.int .i64 (cmpv x y)) /\ w = w' := by
 rcases cmpv_cases x y with ⟨h, e⟩ | ⟨h, e⟩ | ⟨h, e⟩
 ·rw [e]
  have h1 : decide (x < y) = true := by simpa using h
  clear e h
  go_enter Tryz.func138, Tryz.ntmps138
  go_wp2
  go_ret
  exact ⟨rfl, rfl⟩
 ·rw [e]
  have h1 : decide (x < y) = false := by simp; omega
  have h2 : decide (y < x) = true := by simpa using h
  clear e
  go_enter Tryz.func138, Tryz.ntmps138
  go_wp2
  go_ret
  exact ⟨rfl, rfl⟩
 ·subst h
  rw [e]
  clear e
  go_enter Tryz.func138, Tryz.ntmps138
  go_wp2
  go_ret
  exact ⟨rfl, rfl⟩
theorem cells2 {w w1 : World} {n1 d1 n2 d2 : Int} (h : Below (w.heap.size + 2) ((w.alloc (.cells #[.int .i64 n1, .int .i64 d1] 29)).alloc (.cells #[.int .i64 n2, .int .i64 d2] 29)) w1) :
  w1.cell? ⟨w.heap.size, 0, none⟩ = some (.int .i64 n1) /\ w1.cell? ⟨w.heap.size, 1, none⟩ = some (.int .i64 d1) /\ w1.cell? ⟨w.heap.size + 1, 0, none⟩ = some (.int .i64 n2) /\ w1.cell? ⟨w.heap.size + 1, 1, none⟩ = some (.int .i64 d2) /\ w.heap.size + 2 <= w1.heap.size := by
 have s := h.size
 simp at s
 refine ⟨?_, ?_, ?_, ?_, by omega⟩
 ·rw [h.cell (p := ⟨w.heap.size, 0, none⟩) (show w.heap.size < w.heap.size + 2 by omega)]; go_cell
 ·rw [h.cell (p := ⟨w.heap.size, 1, none⟩) (show w.heap.size < w.heap.size + 2 by omega)]; go_cell
 ·rw [h.cell (p := ⟨w.heap.size + 1, 0, none⟩) (show w.heap.size + 1 < w.heap.size + 2 by omega)]; go_cell
 ·rw [h.cell (p := ⟨w.heap.size + 1, 1, none⟩) (show w.heap.size + 1 < w.heap.size + 2 by omega)]; go_cell
theorem below2 (w : World) (a b : Obj) : Below w.heap.size w ((w.alloc a).alloc b) := ((Below.refl _ _).alloc (Nat.le_refl _) _).alloc (by simp) _
set_option maxHeartbeats 8000000 in
theorem cmp_ok (n1 d1 n2 d2 a b : Int) (w : World) (h : both n1 d1 n2 d2 = true) (hA : n1 * d2 = a) (hB : n2 * d1 = b) (p0 : -4611686014132420609 <= a) (p1 : a <= 4611686014132420609) (q0 : -4611686014132420609 <= b) (q1 : b <= 4611686014132420609) :
  Calls Tryz.prog 141 #[.agg #[.int .i64 n1, .int .i64 d1], .agg #[.int .i64 n2, .int .i64 d2]] w (Ret (.int .i64 (cmpr n1 d1 n2 d2)) w) := by
 have HV : Hid (cmpr n1 d1 n2 d2 = cmpv a b) := Lib.hid (by unfold cmpr; rw [if_pos h, hA, hB])
 unfold both at h
 simp only [Bool.and_eq_true] at h
 obtain ⟨v1, v2⟩ := h
 ·go_enter Tryz.func141, Tryz.ntmps141
  go_wp2_with fail
  refine (valid_any _ _ _).mono ?_
  rintro e w1 ⟨rfl, hb1⟩
  have Bt := hb1.mono (B' := w.heap.size + 2) (by simp)
  obtain ⟨c0, c1, c2, c3, c4⟩ := cells2 Bt
  go_wp2_with fail
  refine (valid_any _ _ _).mono ?_
  rintro e w2 ⟨rfl, hb2⟩
  have Bt := step Bt hb2 (by simp)
  clear c0 c1 c2 c3 c4
  obtain ⟨c0, c1, c2, c3, c4⟩ := cells2 Bt
  go_wp2_with (go_at_call 142; refine (cmp45 _ _ _).mono ?_; rintro e w5 ⟨rfl, rfl⟩)
  go_ret
  exact ⟨by first | (rw [HV.out]; done) | (rw [HV.out]; rfl), (below2 _ _ _).trans (Bt.mono (by omega))⟩

set_option maxHeartbeats 8000000 in
theorem rcmp_ok (n1 d1 n2 d2 a b : Int) (w : World) (h : both n1 d1 n2 d2 = true) (hA : n1 * d2 = a) (hB : n2 * d1 = b) (p0 : -4611686014132420609 <= a) (p1 : a <= 4611686014132420609) (q0 : -4611686014132420609 <= b) (q1 : b <= 4611686014132420609) :
  Calls Tryz.prog 116 #[.agg #[.int .i64 n1, .int .i64 d1], .agg #[.int .i64 n2, .int .i64 d2]] w (Ret (.int .i64 (cmpr n1 d1 n2 d2)) w) := by
 have HV : Hid (cmpr n1 d1 n2 d2 = cmpv a b) := Lib.hid (by unfold cmpr; rw [if_pos h, hA, hB])
 unfold both at h
 simp only [Bool.and_eq_true] at h
 obtain ⟨v1, v2⟩ := h
 ·go_enter Tryz.func116, Tryz.ntmps116
  go_wp2_with fail
  refine (rvalid_any _ _ _).mono ?_
  rintro e w1 ⟨rfl, hb1⟩
  have Bt := hb1.mono (B' := w.heap.size + 2) (by simp)
  obtain ⟨c0, c1, c2, c3, c4⟩ := cells2 Bt
  go_wp2_with fail
  refine (rvalid_any _ _ _).mono ?_
  rintro e w2 ⟨rfl, hb2⟩
  have Bt := step Bt hb2 (by simp)
  clear c0 c1 c2 c3 c4
  obtain ⟨c0, c1, c2, c3, c4⟩ := cells2 Bt
  go_wp2_with (go_at_call 138; refine (ord46 _ _ _).mono ?_; rintro e w5 ⟨rfl, rfl⟩)
  go_ret
  exact ⟨by first | (rw [HV.out]; done) | (rw [HV.out]; rfl), (below2 _ _ _).trans (Bt.mono (by omega))⟩

end Go.Proofs.YteaaikmejacpaaaGreatDoor.Fr


namespace Go.Proofs.YteaaikmejacpaaaGreatDoor.Fr
open Go.ChangeShapes Go.WideShapes Go.ChangeAt Go.RowKit
set_option linter.unusedVariables false
set_option linter.unusedSimpArgs false

set_option maxHeartbeats 2000000 in
theorem radd_ok (n1 d1 n2 d2 : Int) (w : World) (h : both n1 d1 n2 d2 = true) {a b c : Int} (hA : n1 * d2 = a) (hB : n2 * d1 = b) (hC : d1 * d2 = c) (p0 : -4611686014132420609 <= a) (p1 : a <= 4611686014132420609) (q0 : -4611686014132420609 <= b) (q1 : b <= 4611686014132420609) (r0 : -4611686014132420609 <= c) (r1 : c <= 4611686014132420609) :
  Calls Tryz.prog 95 #[.agg #[.int .i64 n1, .int .i64 d1], .agg #[.int .i64 n2, .int .i64 d2]] w (Ret (Frac3 (newN (a + b) c) (newD (a + b) c) (newE (a + b) c)) w) := by
 unfold both at h
 simp only [Bool.and_eq_true] at h
 obtain ⟨v1, v2⟩ := h
 have NW := Lib.hid (fun w => rnew_any (a + b) c w (by omega) (by omega) (by omega) (by omega))
 go_enter Tryz.func95, Tryz.ntmps95
 go_wp2_with fail
 refine (rvalid_any _ _ _).mono ?_
 rintro e w1 ⟨rfl, hb1⟩
 have Bt := hb1.mono (B' := w.heap.size + 3) (by simp)
 obtain ⟨c0, c1, c2, c3, c4, c5, c6, c7, c8⟩ := cells3 Bt
 go_wp2_with fail
 refine (rvalid_any _ _ _).mono ?_
 rintro e w2 ⟨rfl, hb2⟩
 have Bu := step Bt hb2 (by simp)
 clear c0 c1 c2 c3 c4 c5 c6 c7 c8
 obtain ⟨c0, c1, c2, c3, c4, c5, c6, c7, c8⟩ := cells3 Bu
 go_wp2_with fail
 refine (NW.out _).mono ?_
 rintro e w3 ⟨rfl, hb3⟩
 have Bv := step Bu hb3 (by simp)
 clear c0 c1 c2 c3 c4 c5 c6 c7 c8
 obtain ⟨c0, c1, c2, c3, c4, c5, c6, c7, c8⟩ := cells3 Bv
 go_wp2
 refine bodyPost_ret (v := Frac3 _ _ _) (by simp [results, Tryz.results95, go_sem, c4, c5]) rfl ⟨rfl, ?_⟩
 refine Below.setCell (Below.setCell ?_ (by simp <;> omega) _) (by simp <;> omega) _
 exact (below3 _ _ _ _).trans (Bv.mono (by omega))

set_option maxHeartbeats 2000000 in
theorem rmul_ok (n1 d1 n2 d2 : Int) (w : World) (h : both n1 d1 n2 d2 = true) {a c : Int} (hA : n1 * n2 = a) (hC : d1 * d2 = c) (p0 : -4611686014132420609 <= a) (p1 : a <= 4611686014132420609) (r0 : -4611686014132420609 <= c) (r1 : c <= 4611686014132420609) :
  Calls Tryz.prog 97 #[.agg #[.int .i64 n1, .int .i64 d1], .agg #[.int .i64 n2, .int .i64 d2]] w (Ret (Frac3 (newN a c) (newD a c) (newE a c)) w) := by
 unfold both at h
 simp only [Bool.and_eq_true] at h
 obtain ⟨v1, v2⟩ := h
 have NW := Lib.hid (fun w => rnew_any a c w (by omega) (by omega) (by omega) (by omega))
 go_enter Tryz.func97, Tryz.ntmps97
 go_wp2_with fail
 refine (rvalid_any _ _ _).mono ?_
 rintro e w1 ⟨rfl, hb1⟩
 have Bt := hb1.mono (B' := w.heap.size + 3) (by simp)
 obtain ⟨c0, c1, c2, c3, c4, c5, c6, c7, c8⟩ := cells3 Bt
 go_wp2_with fail
 refine (rvalid_any _ _ _).mono ?_
 rintro e w2 ⟨rfl, hb2⟩
 have Bu := step Bt hb2 (by simp)
 clear c0 c1 c2 c3 c4 c5 c6 c7 c8
 obtain ⟨c0, c1, c2, c3, c4, c5, c6, c7, c8⟩ := cells3 Bu
 go_wp2_with fail
 refine (NW.out _).mono ?_
 rintro e w3 ⟨rfl, hb3⟩
 have Bv := step Bu hb3 (by simp)
 clear c0 c1 c2 c3 c4 c5 c6 c7 c8
 obtain ⟨c0, c1, c2, c3, c4, c5, c6, c7, c8⟩ := cells3 Bv
 go_wp2
 refine bodyPost_ret (v := Frac3 _ _ _) (by simp [results, Tryz.results97, go_sem, c4, c5]) rfl ⟨rfl, ?_⟩
 refine Below.setCell (Below.setCell ?_ (by simp <;> omega) _) (by simp <;> omega) _
 exact (below3 _ _ _ _).trans (Bv.mono (by omega))

set_option maxHeartbeats 2000000 in
theorem rdiv_ok (n1 d1 n2 d2 : Int) (w : World) (h : both n1 d1 n2 d2 = true) {a c : Int} (hA : n1 * d2 = a) (hC : d1 * n2 = c) (p0 : -4611686014132420609 <= a) (p1 : a <= 4611686014132420609) (r0 : -4611686014132420609 <= c) (r1 : c <= 4611686014132420609) :
  Calls Tryz.prog 98 #[.agg #[.int .i64 n1, .int .i64 d1], .agg #[.int .i64 n2, .int .i64 d2]] w (Ret (Frac3 (newN a c) (newD a c) (newE a c)) w) := by
 unfold both at h
 simp only [Bool.and_eq_true] at h
 obtain ⟨v1, v2⟩ := h
 have NW := Lib.hid (fun w => rnew_any a c w (by omega) (by omega) (by omega) (by omega))
 go_enter Tryz.func98, Tryz.ntmps98
 go_wp2_with fail
 refine (rvalid_any _ _ _).mono ?_
 rintro e w1 ⟨rfl, hb1⟩
 have Bt := hb1.mono (B' := w.heap.size + 3) (by simp)
 obtain ⟨c0, c1, c2, c3, c4, c5, c6, c7, c8⟩ := cells3 Bt
 go_wp2_with fail
 refine (rvalid_any _ _ _).mono ?_
 rintro e w2 ⟨rfl, hb2⟩
 have Bu := step Bt hb2 (by simp)
 clear c0 c1 c2 c3 c4 c5 c6 c7 c8
 obtain ⟨c0, c1, c2, c3, c4, c5, c6, c7, c8⟩ := cells3 Bu
 go_wp2_with fail
 refine (NW.out _).mono ?_
 rintro e w3 ⟨rfl, hb3⟩
 have Bv := step Bu hb3 (by simp)
 clear c0 c1 c2 c3 c4 c5 c6 c7 c8
 obtain ⟨c0, c1, c2, c3, c4, c5, c6, c7, c8⟩ := cells3 Bv
 go_wp2
 refine bodyPost_ret (v := Frac3 _ _ _) (by simp [results, Tryz.results98, go_sem, c4, c5]) rfl ⟨rfl, ?_⟩
 refine Below.setCell (Below.setCell ?_ (by simp <;> omega) _) (by simp <;> omega) _
 exact (below3 _ _ _ _).trans (Bv.mono (by omega))

set_option maxHeartbeats 2000000 in
theorem rsub_ok (n1 d1 n2 d2 : Int) (w : World) (h : both n1 d1 n2 d2 = true) {a b c : Int} (hA : n1 * d2 = a) (hB : n2 * d1 = b) (hC : d1 * d2 = c) (p0 : -4611686014132420609 <= a) (p1 : a <= 4611686014132420609) (q0 : -4611686014132420609 <= b) (q1 : b <= 4611686014132420609) (r0 : -4611686014132420609 <= c) (r1 : c <= 4611686014132420609) :
  Calls Tryz.prog 96 #[.agg #[.int .i64 n1, .int .i64 d1], .agg #[.int .i64 n2, .int .i64 d2]] w (Ret (Frac3 (newN (a - b) c) (newD (a - b) c) (newE (a - b) c)) w) := by
 unfold both at h
 simp only [Bool.and_eq_true] at h
 obtain ⟨v1, v2⟩ := h
 have NW := Lib.hid (fun w => rnew_any (a - b) c w (by omega) (by omega) (by omega) (by omega))
 go_enter Tryz.func96, Tryz.ntmps96
 go_wp2_with fail
 refine (rvalid_any _ _ _).mono ?_
 rintro e w1 ⟨rfl, hb1⟩
 have Bt := hb1.mono (B' := w.heap.size + 3) (by simp)
 obtain ⟨c0, c1, c2, c3, c4, c5, c6, c7, c8⟩ := cells3 Bt
 go_wp2_with fail
 refine (rvalid_any _ _ _).mono ?_
 rintro e w2 ⟨rfl, hb2⟩
 have Bu := step Bt hb2 (by simp)
 clear c0 c1 c2 c3 c4 c5 c6 c7 c8
 obtain ⟨c0, c1, c2, c3, c4, c5, c6, c7, c8⟩ := cells3 Bu
 go_wp2_with fail
 refine (NW.out _).mono ?_
 rintro e w3 ⟨rfl, hb3⟩
 have Bv := step Bu hb3 (by simp)
 clear c0 c1 c2 c3 c4 c5 c6 c7 c8
 obtain ⟨c0, c1, c2, c3, c4, c5, c6, c7, c8⟩ := cells3 Bv
 go_wp2
 refine bodyPost_ret (v := Frac3 _ _ _) (by simp [results, Tryz.results96, go_sem, c4, c5]) rfl ⟨rfl, ?_⟩
 refine Below.setCell (Below.setCell ?_ (by simp <;> omega) _) (by simp <;> omega) _
 exact (below3 _ _ _ _).trans (Bv.mono (by omega))
end Go.Proofs.YteaaikmejacpaaaGreatDoor.Fr


namespace Go.Proofs.YteaaikmejacpaaaGreatDoor.Fr
open Go.ChangeShapes Go.WideShapes Go.ChangeAt Go.RowKit
set_option linter.unusedVariables false
set_option linter.unusedSimpArgs false

set_option maxHeartbeats 2000000 in
theorem add_ok (n1 d1 n2 d2 : Int) (w : World) (h : both n1 d1 n2 d2 = true) {a b c : Int} (hA : n1 * d2 = a) (hB : n2 * d1 = b) (hC : d1 * d2 = c) (p0 : -4611686014132420609 <= a) (p1 : a <= 4611686014132420609) (q0 : -4611686014132420609 <= b) (q1 : b <= 4611686014132420609) (r0 : -4611686014132420609 <= c) (r1 : c <= 4611686014132420609) :
  Calls Tryz.prog 143 #[.agg #[.int .i64 n1, .int .i64 d1], .agg #[.int .i64 n2, .int .i64 d2]] w (Ret (Frac3 (newN (a + b) c) (newD (a + b) c) (newE (a + b) c)) w) := by
 unfold both at h
 simp only [Bool.and_eq_true] at h
 obtain ⟨v1, v2⟩ := h
 have NW := Lib.hid (fun w => new_any (a + b) c w (by omega) (by omega) (by omega) (by omega))
 go_enter Tryz.func143, Tryz.ntmps143
 go_wp2_with fail
 refine (valid_any _ _ _).mono ?_
 rintro e w1 ⟨rfl, hb1⟩
 have Bt := hb1.mono (B' := w.heap.size + 3) (by simp)
 obtain ⟨c0, c1, c2, c3, c4, c5, c6, c7, c8⟩ := cells3 Bt
 go_wp2_with fail
 refine (valid_any _ _ _).mono ?_
 rintro e w2 ⟨rfl, hb2⟩
 have Bu := step Bt hb2 (by simp)
 clear c0 c1 c2 c3 c4 c5 c6 c7 c8
 obtain ⟨c0, c1, c2, c3, c4, c5, c6, c7, c8⟩ := cells3 Bu
 go_wp2_with fail
 refine (NW.out _).mono ?_
 rintro e w3 ⟨rfl, hb3⟩
 have Bv := step Bu hb3 (by simp)
 clear c0 c1 c2 c3 c4 c5 c6 c7 c8
 obtain ⟨c0, c1, c2, c3, c4, c5, c6, c7, c8⟩ := cells3 Bv
 go_wp2
 refine bodyPost_ret (v := Frac3 _ _ _) (by simp [results, Tryz.results143, go_sem, c4, c5]) rfl ⟨rfl, ?_⟩
 refine Below.setCell (Below.setCell ?_ (by simp <;> omega) _) (by simp <;> omega) _
 exact (below3 _ _ _ _).trans (Bv.mono (by omega))

set_option maxHeartbeats 2000000 in
theorem mul_ok (n1 d1 n2 d2 : Int) (w : World) (h : both n1 d1 n2 d2 = true) {a c : Int} (hA : n1 * n2 = a) (hC : d1 * d2 = c) (p0 : -4611686014132420609 <= a) (p1 : a <= 4611686014132420609) (r0 : -4611686014132420609 <= c) (r1 : c <= 4611686014132420609) :
  Calls Tryz.prog 145 #[.agg #[.int .i64 n1, .int .i64 d1], .agg #[.int .i64 n2, .int .i64 d2]] w (Ret (Frac3 (newN a c) (newD a c) (newE a c)) w) := by
 unfold both at h
 simp only [Bool.and_eq_true] at h
 obtain ⟨v1, v2⟩ := h
 have NW := Lib.hid (fun w => new_any a c w (by omega) (by omega) (by omega) (by omega))
 go_enter Tryz.func145, Tryz.ntmps145
 go_wp2_with fail
 refine (valid_any _ _ _).mono ?_
 rintro e w1 ⟨rfl, hb1⟩
 have Bt := hb1.mono (B' := w.heap.size + 3) (by simp)
 obtain ⟨c0, c1, c2, c3, c4, c5, c6, c7, c8⟩ := cells3 Bt
 go_wp2_with fail
 refine (valid_any _ _ _).mono ?_
 rintro e w2 ⟨rfl, hb2⟩
 have Bu := step Bt hb2 (by simp)
 clear c0 c1 c2 c3 c4 c5 c6 c7 c8
 obtain ⟨c0, c1, c2, c3, c4, c5, c6, c7, c8⟩ := cells3 Bu
 go_wp2_with fail
 refine (NW.out _).mono ?_
 rintro e w3 ⟨rfl, hb3⟩
 have Bv := step Bu hb3 (by simp)
 clear c0 c1 c2 c3 c4 c5 c6 c7 c8
 obtain ⟨c0, c1, c2, c3, c4, c5, c6, c7, c8⟩ := cells3 Bv
 go_wp2
 refine bodyPost_ret (v := Frac3 _ _ _) (by simp [results, Tryz.results145, go_sem, c4, c5]) rfl ⟨rfl, ?_⟩
 refine Below.setCell (Below.setCell ?_ (by simp <;> omega) _) (by simp <;> omega) _
 exact (below3 _ _ _ _).trans (Bv.mono (by omega))
set_option maxHeartbeats 2000000 in
theorem div_bad (n1 d1 n2 d2 : Int) (w : World) (h : both n1 d1 n2 d2 = false) :
  Calls Tryz.prog 146 #[.agg #[.int .i64 n1, .int .i64 d1], .agg #[.int .i64 n2, .int .i64 d2]] w (Ret (Frac3 0 0 1) w) := by
 unfold both at h
 obtain ⟨x1, x2, y1, y2⟩ : ∃ x1 x2, vld n1 d1 = x1 /\ vld n2 d2 = x2 := ⟨_, _, rfl, rfl⟩
 rw [y1, y2] at h
 cases x1
 ·clear h
  go_enter Tryz.func146, Tryz.ntmps146
  go_wp2_with fail
  refine (valid_any _ _ _).mono ?_
  rintro e w1 ⟨rfl, hb1⟩
  have Bt := hb1.mono (B' := w.heap.size + 3) (by simp)
  obtain ⟨c0, c1, c2, c3, c4, c5, c6, c7, c8⟩ := cells3 Bt
  go_wp2
  refine bodyPost_ret (v := Frac3 0 0 1) (by simp [results, Tryz.results146, go_sem, c4, c5]) rfl ⟨rfl, ?_⟩
  refine Below.setCell (Below.setCell ?_ (by simp <;> omega) _) (by simp <;> omega) _
  exact (below3 _ _ _ _).trans (Bt.mono (by omega))
 ·cases x2
  ·clear h
   go_enter Tryz.func146, Tryz.ntmps146
   go_wp2_with fail
   refine (valid_any _ _ _).mono ?_
   rintro e w1 ⟨rfl, hb1⟩
   have Bt := hb1.mono (B' := w.heap.size + 3) (by simp)
   obtain ⟨c0, c1, c2, c3, c4, c5, c6, c7, c8⟩ := cells3 Bt
   go_wp2_with fail
   refine (valid_any _ _ _).mono ?_
   rintro e w2 ⟨rfl, hb2⟩
   have Bu := step Bt hb2 (by simp)
   clear c0 c1 c2 c3 c4 c5 c6 c7 c8
   obtain ⟨c0, c1, c2, c3, c4, c5, c6, c7, c8⟩ := cells3 Bu
   go_wp2
   refine bodyPost_ret (v := Frac3 0 0 1) (by simp [results, Tryz.results146, go_sem, c4, c5]) rfl ⟨rfl, ?_⟩
   refine Below.setCell (Below.setCell ?_ (by simp <;> omega) _) (by simp <;> omega) _
   exact (below3 _ _ _ _).trans (Bu.mono (by omega))
  ·simp at h
set_option maxHeartbeats 2000000 in
theorem div_ok (n1 d1 n2 d2 : Int) (w : World) (h : both n1 d1 n2 d2 = true) {a c : Int} (hA : n1 * d2 = a) (hC : d1 * n2 = c) (p0 : -4611686014132420609 <= a) (p1 : a <= 4611686014132420609) (r0 : -4611686014132420609 <= c) (r1 : c <= 4611686014132420609) :
  Calls Tryz.prog 146 #[.agg #[.int .i64 n1, .int .i64 d1], .agg #[.int .i64 n2, .int .i64 d2]] w (Ret (Frac3 (newN a c) (newD a c) (newE a c)) w) := by
 unfold both at h
 simp only [Bool.and_eq_true] at h
 obtain ⟨v1, v2⟩ := h
 have NW := Lib.hid (fun w => new_any a c w (by omega) (by omega) (by omega) (by omega))
 go_enter Tryz.func146, Tryz.ntmps146
 go_wp2_with fail
 refine (valid_any _ _ _).mono ?_
 rintro e w1 ⟨rfl, hb1⟩
 have Bt := hb1.mono (B' := w.heap.size + 3) (by simp)
 obtain ⟨c0, c1, c2, c3, c4, c5, c6, c7, c8⟩ := cells3 Bt
 go_wp2_with fail
 refine (valid_any _ _ _).mono ?_
 rintro e w2 ⟨rfl, hb2⟩
 have Bu := step Bt hb2 (by simp)
 clear c0 c1 c2 c3 c4 c5 c6 c7 c8
 obtain ⟨c0, c1, c2, c3, c4, c5, c6, c7, c8⟩ := cells3 Bu
 go_wp2_with fail
 refine (NW.out _).mono ?_
 rintro e w3 ⟨rfl, hb3⟩
 have Bv := step Bu hb3 (by simp)
 clear c0 c1 c2 c3 c4 c5 c6 c7 c8
 obtain ⟨c0, c1, c2, c3, c4, c5, c6, c7, c8⟩ := cells3 Bv
 go_wp2
 refine bodyPost_ret (v := Frac3 _ _ _) (by simp [results, Tryz.results146, go_sem, c4, c5]) rfl ⟨rfl, ?_⟩
 refine Below.setCell (Below.setCell ?_ (by simp <;> omega) _) (by simp <;> omega) _
 exact (below3 _ _ _ _).trans (Bv.mono (by omega))
end Go.Proofs.YteaaikmejacpaaaGreatDoor.Fr


namespace Go.Proofs.YteaaikmejacpaaaGreatDoor.Fr
open Go.ChangeShapes Go.WideShapes Go.ChangeAt Go.RowKit
set_option linter.unusedVariables false
set_option linter.unusedSimpArgs false

set_option maxHeartbeats 4000000 in
theorem sub_any (n1 d1 n2 d2 x y e m : Int) (w : World) (hm : wrap64 (-n2) = m)
  (AD : Hid (∀ w, Calls Tryz.prog 143 #[.agg #[.int .i64 n1, .int .i64 d1], .agg #[.int .i64 m, .int .i64 d2]] w (Ret (Frac3 x y e) w))) :
  Calls Tryz.prog 144 #[.agg #[.int .i64 n1, .int .i64 d1], .agg #[.int .i64 n2, .int .i64 d2]] w (Ret (Frac3 x y e) w) := by

 go_enter Tryz.func144, Tryz.ntmps144
 go_wp2_with fail
 refine (AD.out _).mono ?_
 rintro e w1 ⟨rfl, hb1⟩
 have Bt := hb1.mono (B' := w.heap.size + 3) (by simp)
 obtain ⟨c0, c1, c2, c3, c4, c5, c6, c7, c8⟩ := cells3 Bt
 go_wp2
 refine bodyPost_ret (v := Frac3 _ _ _) (by simp [results, Tryz.results144, go_sem, c4, c5]) rfl ⟨rfl, ?_⟩
 refine Below.setCell (Below.setCell ?_ (by simp <;> omega) _) (by simp <;> omega) _
 exact (below3 _ _ _ _).trans (Bt.mono (by omega))
end Go.Proofs.YteaaikmejacpaaaGreatDoor.Fr


namespace Go.Proofs.YteaaikmejacpaaaGreatDoor.Va
open Fr Fx
open Go.ChangeShapes Go.WideShapes Go.ChangeAt Go.RowKit
set_option linter.unusedVariables false
set_option linter.unusedSimpArgs false
/-- The element types. -/
def ty (K B F R O : Int) : Bool := tv K B F R O || decide ((K = 1 \/ K = 3) /\ B = 0 /\ F = 0 /\ R = 0 /\ O = 0)
/-- The numbers of a type. -/
def vv (K B F R O n d : Int) : Bool :=
 if K = 2 then fv K B F R O n d else ty K B F R O && (if K = 1 then vld n d else decide (d = 1 /\ -2147483647 <= n /\ n <= 2147483647))
abbrev A3 := Int × Int × Int
abbrev F3 (r : A3) : Value := Frac3 r.1 r.2.1 r.2.2
def nw (n d : Int) : A3 := (newN n d, newD n d, newE n d)
/-- The operators on fractions. -/
def frv (op n1 d1 n2 d2 : Int) : A3 :=
 if op = 4 then nw (n1 * d2 + n2 * d1) (d1 * d2) else if op = 5 then nw (n1 * d2 - n2 * d1) (d1 * d2) else if op = 6 then nw (n1 * n2) (d1 * d2)
 else if op = 7 then nw (n1 * d2) (d1 * n2) else (-n1, d1, 0)
/-- The operators on fixed-point numbers. -/
def fxv (op B F R O n1 n2 : Int) : A3 :=
 if op = 7 /\ n2 = 0 then (0, 0, 4) else (Nx.nv (if op = 4 then n1 + n2 else if op = 5 then n1 - n2 else if op = 6 then Dv.dval R (n1 * n2) (2 ^ F.toNat) else if op = 7 then Dv.dval R (n1 * 2 ^ F.toNat) n2 else -n1) B O, 1, 0)
def whn (op a b : Int) : Int := if op = 4 then a + b else if op = 5 then a - b else if op = 6 then a * b else if op = 7 then Dv.dval 1 a b else -a
/-- The operators on integers. -/
def whv (op a b : Int) : A3 :=
 if op = 7 /\ b = 0 then (0, 0, 4) else if -2147483647 <= whn op a b /\ whn op a b <= 2147483647 then (whn op a b, 1, 0) else (0, 0, 3)
/-- The order of two numbers of a type. -/
def cpv (K B F R O n1 d1 n2 d2 : Int) : Int :=
 if vv K B F R O n1 d1 && vv K B F R O n2 d2 then cmpv (n1 * d2) (n2 * d1) else 0
/-- The answer of Apply. -/
def apv (op K B F R O n1 d1 n2 d2 : Int) : A3 :=
 if op < 4 \/ 10 < op then (0, 0, 1) else if ty K B F R O = false then (0, 0, 10)
 else if vv K B F R O n1 d1 = false \/ (op ≠ 8 /\ vv K B F R O n2 d2 = false) then (0, 0, 1)
 else if op = 9 then (if cpv K B F R O n1 d1 n2 d2 <= 0 then (n1, d1, 0) else (n2, d2, 0))
 else if op = 10 then (if 0 <= cpv K B F R O n1 d1 n2 d2 then (n1, d1, 0) else (n2, d2, 0))
 else if K = 1 then frv op n1 d1 n2 d2 else if K = 2 then fxv op B F R O n1 n2 else whv op n1 n2
/-- The answer of One. -/
def onv (K B F R O : Int) : A3 :=
 if ty K B F R O = false then (0, 0, 10) else if K = 2 then (if fv K B F R O (2 ^ F.toNat) 1 then (2 ^ F.toNat, 1, 0) else (0, 0, 3)) else (1, 1, 0)
/-- The value of a number as a fraction. -/
def rat (K F n d : Int) : Int × Int := if K = 2 then ((red n F.toNat).1, 2 ^ (red n F.toNat).2) else (n, d)

theorem ty_cases (K B F R O : Int) : (ty K B F R O = true /\ ((K = 2 /\ tv K B F R O = true) \/ ((K = 1 \/ K = 3) /\ B = 0 /\ F = 0 /\ R = 0 /\ O = 0 /\ tv K B F R O = false))) \/
  (ty K B F R O = false /\ tv K B F R O = false /\ (K = 2 \/ (K ≠ 1 /\ K ≠ 2 /\ K ≠ 3) \/ ((K = 1 \/ K = 3) /\ (B ≠ 0 \/ F ≠ 0 \/ R ≠ 0 \/ O ≠ 0)))) := by
 unfold ty
 by_cases h : tv K B F R O = true
 ·left
  obtain ⟨k, _⟩ := tv_parts h
  exact ⟨by rw [h]; rfl, .inl ⟨k, h⟩⟩
 ·have h' : tv K B F R O = false := by simpa using h
  rw [h', Bool.false_or]
  by_cases g : (K = 1 \/ K = 3) /\ B = 0 /\ F = 0 /\ R = 0 /\ O = 0
  ·left
   exact ⟨decide_eq_true g, .inr ⟨g.1, g.2.1, g.2.2.1, g.2.2.2.1, g.2.2.2.2, rfl⟩⟩
  ·right
   refine ⟨decide_eq_false g, rfl, ?_⟩
   omega
theorem vv_ty {K B F R O n d : Int} (h : vv K B F R O n d = true) : ty K B F R O = true := by
 unfold vv at h
 split at h
 ·obtain ⟨t, _⟩ := fv_parts h
  unfold ty; rw [t]; rfl
 ·simp only [Bool.and_eq_true] at h
  exact h.1
theorem vv_fix {K B F R O n d : Int} (h : K = 2) : vv K B F R O n d = fv K B F R O n d := by unfold vv; rw [if_pos h]
theorem ty_frac : ty 1 0 0 0 0 = true := by decide
theorem ty_int : ty 3 0 0 0 0 = true := by decide
theorem vv_frac (n d : Int) : vv 1 0 0 0 0 n d = vld n d := by unfold vv; rw [if_neg (by decide), ty_frac, if_pos rfl, Bool.true_and]
theorem vv_int (n d : Int) : vv 3 0 0 0 0 n d = decide (d = 1 /\ -2147483647 <= n /\ n <= 2147483647) := by unfold vv; rw [if_neg (by decide), ty_int, if_neg (by decide), Bool.true_and]
theorem vv_bad {K B F R O n d : Int} (h : ty K B F R O = false) : vv K B F R O n d = false := by
 cases e : vv K B F R O n d with
 | false => rfl
 | true => rw [vv_ty e] at h; cases h
/-- What is valid lies within 31 bits, and its denominator is positive. -/
theorem vv_small {K B F R O n d : Int} (h : vv K B F R O n d = true) : 1 <= d /\ d <= 2147483647 /\ -2147483647 <= n /\ n <= 2147483647 /\ (K ≠ 1 -> d = 1) := by
 unfold vv at h
 split at h
 ·obtain ⟨t, e, _, _, x, y⟩ := fv_parts h
  omega
 ·simp only [Bool.and_eq_true] at h
  obtain ⟨_, h⟩ := h
  split at h
  ·obtain ⟨a, b, c, e, _⟩ := vld_parts h
   omega
  ·have := of_decide_eq_true h
   omega
theorem vld_one {n : Int} (h : -2147483647 <= n) (h' : n <= 2147483647) : vld n 1 = true := by
 rw [vld_in (by decide) (by decide) h h']
 simp
/-- Rounding, by the quotient rounded down and what is left. -/
theorem rnd_floor (how n d q : Int) (hd : 0 < d) (m0 : 1 <= how) (m1 : how <= 4) (hq : Dv.dval 1 n d = q) (n0 : -9223372036854775808 <= n) :
  0 <= n - q * d /\ n - q * d < d /\ Dv.dval how n d = (if n - q * d = 0 \/ how = 1 then q else if how = 2 then q + 1 else if how = 3 then (if n < 0 then q + 1 else q)
   else if d - (n - q * d) < n - q * d \/ (n - q * d = d - (n - q * d) /\ q % 2 ≠ 0) then q + 1 else q) := by
 have e1 : Dv.dval 1 n d = Plain.rnd 1 (n.tdiv d) (n.tmod d) d := by unfold Dv.dval; rw [if_neg (by omega), if_neg (by omega), if_neg (by omega)]
 have e2 : Dv.dval how n d = Plain.rnd how (n.tdiv d) (n.tmod d) d := by unfold Dv.dval; rw [if_neg (by omega), if_neg (by omega), if_neg (by omega)]
 rw [e1] at hq
 rw [e2]
 have F := Plain.tfacts n d (by omega)
 have S := Plain.tsign n d
 have E := Int.mul_tdiv_add_tmod n d
 generalize n.tdiv d = a at *
 generalize n.tmod d = r at *
 obtain ⟨F1, F2, F3, F4, F5⟩ := F
 have hq1 : r < 0 -> q = a - 1 := by
  intro h
  rw [<- hq]; unfold Plain.rnd; rw [if_neg (by omega), if_neg (by omega), if_pos rfl, if_neg (by omega)]
 have hq2 : 0 <= r -> q = a := by
  intro h
  rw [<- hq]; unfold Plain.rnd
  by_cases h0 : r = 0
  ·rw [if_pos h0]
  ·rw [if_neg h0, if_neg (by omega), if_pos rfl, if_pos (by omega)]
 clear hq e1 e2
 have hP : (r < 0 -> q = a - 1 /\ q * d = a * d - d) /\ (0 <= r -> q = a /\ q * d = a * d) := by
  constructor
  ·intro h
   refine ⟨hq1 h, ?_⟩
   rw [hq1 h, Int.sub_mul, Int.one_mul]
  ·intro h
   refine ⟨hq2 h, ?_⟩
   rw [hq2 h]
 rw [Int.mul_comm d a] at E
 generalize q * d = P at *
 generalize a * d = Q at *
 clear hq1 hq2
 refine ⟨?_, ?_, ?_⟩
 ·by_cases h : r < 0
  ·have := hP.1 h; omega
  ·have := hP.2 (by omega); omega
 ·by_cases h : r < 0
  ·have := hP.1 h; omega
  ·have := hP.2 (by omega); omega
 ·unfold Plain.rnd
  by_cases h : r < 0
  ·obtain ⟨h1, h2⟩ := hP.1 h
   subst h1
   (repeat' split) <;> omega
  ·obtain ⟨h1, h2⟩ := hP.2 (by omega)
   subst h1
   (repeat' split) <;> omega
end Go.Proofs.YteaaikmejacpaaaGreatDoor.Va


namespace Go.Proofs.YteaaikmejacpaaaGreatDoor.Va
open Go.ChangeShapes Go.WideShapes Go.ChangeAt Go.RowKit
open Fr Fx
set_option maxRecDepth 8000
set_option linter.unusedVariables false
set_option linter.unusedSimpArgs false
set_option maxRecDepth 8000
theorem ret1' {k : IntKind} {a b : Int} (h : a = b) : Ending.returned (.int k a) = .returned (.int k b) := by rw [h]
theorem retb {a b : Bool} (h : a = b) : Ending.returned (.bool a) = .returned (.bool b) := by rw [h]
/-- ValidateType of package fixed. -/
theorem fvt (K B F R O : Int) (w : World) : Calls Tryz.prog 81 #[T5 K B F R O] w (Ret (.int .i64 (if tv K B F R O then 0 else 10)) w) := by
 by_cases h : tv K B F R O = true
 ·rw [h]; exact vt_ok K B F R O w h
 ·have h' : tv K B F R O = false := by simpa using h
  rw [h']; exact vt_bad K B F R O w h'
set_option maxHeartbeats 4000000 in
theorem c_vt (K B F R O : Int) (w : World) : Calls Tryz.prog 46 #[T5 K B F R O] w (Ret (.int .i64 (if ty K B F R O then 0 else 10)) w) := by
 have VT := Lib.hid fun w => fvt K B F R O w
 by_cases hk : K = 2
 ·have e : ty K B F R O = tv K B F R O := by
   unfold ty
   rw [decide_eq_false (by omega), Bool.or_false]
  rw [e]
  clear e
  obtain ⟨r, hr⟩ : ∃ r, (if tv K B F R O = true then (0 : Int) else 10) = r := ⟨_, rfl⟩
  rw [hr] at VT ⊢
  have k1 : (K == 2) = true := by simpa using hk
  clear hk hr
  go_enter Tryz.func46, Tryz.ntmps46
  go_wp2_with (go_at_call 81; refine (VT.out _).mono ?_; rintro e w1 ⟨rfl, hb⟩)
  go_ret
  exact ⟨rfl, ((Below.refl _ _).alloc (Nat.le_refl _) _).trans (hb.mono (by simp))⟩
 ·have hT : tv K B F R O = false := by
   unfold tv
   exact decide_eq_false (by omega)
  clear VT
  rw [show ty K B F R O = decide ((K = 1 \/ K = 3) /\ B = 0 /\ F = 0 /\ R = 0 /\ O = 0) by unfold ty; rw [hT, Bool.false_or]]
  obtain ⟨r, hr⟩ : ∃ r, (if decide ((K = 1 \/ K = 3) /\ B = 0 /\ F = 0 /\ R = 0 /\ O = 0) = true then (0 : Int) else 10) = r := ⟨_, rfl⟩
  rw [hr]
  have HR := Lib.hid hr
  clear hr
  have k1 : (K == 2) = false := by simpa using hk
  clear hk hT
  go_enter Tryz.func46, Tryz.ntmps46
  go_wp2
  all_goals
   go_ret
   refine ⟨ret1' ?_, by go_grown⟩
   have hr := HR.out
   rw [<- hr]
   clear hr HR
   first | (simp_all; done) | (simp_all; omega)
theorem vtF {K B F R O : Int} (h : ty K B F R O = false) (w : World) : Calls Tryz.prog 46 #[T5 K B F R O] w (Ret (.int .i64 10) w) := by
 have := c_vt K B F R O w
 rw [h] at this
 exact this
theorem vtT {K B F R O : Int} (h : ty K B F R O = true) (w : World) : Calls Tryz.prog 46 #[T5 K B F R O] w (Ret (.int .i64 0) w) := by
 have := c_vt K B F R O w
 rw [h] at this
 exact this
theorem c_fits (n : Int) (w : World) : Calls Tryz.prog 85 #[.int .i64 n] w fun e w' => e = .returned (.bool (decide (-2147483647 <= n /\ n <= 2147483647))) /\ w = w' := by
 go_enter Tryz.func85, Tryz.ntmps85
 go_wp2
 all_goals
  go_ret
  refine ⟨retb ?_, rfl⟩
  first | (simp_all; done) | (simp_all; omega)
set_option maxHeartbeats 4000000 in
theorem c_va (K B F R O n d : Int) (w : World) (b0 : -9223372036854775808 <= B) (b1 : B <= 9223372036854775807) : Calls Tryz.prog 48 #[T5 K B F R O, V2 n d] w (Ret (.bool (vv K B F R O n d)) w) := by
  have FV := Lib.hid fun w => fval K B F R O n d w b0 b1
  have VA := Lib.hid fun w => valid_any n d w
  have FI := Lib.hid fun w => c_fits n w
  have HV1 := Lib.hid (vv_frac n d)
  have HV3 := Lib.hid (vv_int n d)
  have HF := Lib.hid (show ¬ ((K = 1 \/ K = 3) /\ B = 0 /\ F = 0 /\ R = 0 /\ O = 0) -> vv K B F R O n d = fv K B F R O n d by
    intro h
    by_cases h2 : K = 2
    · exact vv_fix h2
    · rcases ty_cases K B F R O with ⟨_, h3 | h3⟩ | ⟨h3, h4, _⟩
      · exact absurd h3.1 h2
      · exact absurd ⟨h3.1, h3.2.1, h3.2.2.1, h3.2.2.2.1, h3.2.2.2.2.1⟩ h
      · rw [vv_bad h3]; unfold fv; rw [h4]; rfl)
  clear b0 b1
  go_enter Tryz.func48, Tryz.ntmps48
  go_wp2_with fail
  all_goals (try subst_vars)
  all_goals try
     (with_reducible refine (VA.out _).mono ?_
      rintro e w1 ⟨rfl, hb⟩
      go_wp2
      go_ret
      refine ⟨retb ?_, (((Below.refl _ _).alloc (Nat.le_refl _) _).alloc (by simp) _).trans (hb.mono (by simp <;> omega))⟩
      exact HV1.out.symm)
  all_goals try
     (with_reducible refine (FV.out _).mono ?_
      rintro e w1 ⟨rfl, hb⟩
      go_wp2
      go_ret
      refine ⟨retb ?_, (((Below.refl _ _).alloc (Nat.le_refl _) _).alloc (by simp) _).trans (hb.mono (by simp <;> omega))⟩
      exact (HF.out (by omega)).symm)
  all_goals try
     (with_reducible refine (FI.out _).mono ?_
      rintro e w1 ⟨rfl, rfl⟩
      go_wp2
      go_ret
      refine ⟨retb ?_, by go_grown⟩
      rw [HV3.out]
      simp_all)
  all_goals
    go_ret
    refine ⟨retb ?_, by go_grown⟩
    rw [HV3.out]
    simp_all
end Go.Proofs.YteaaikmejacpaaaGreatDoor.Va


namespace Go.Proofs.YteaaikmejacpaaaGreatDoor.Va
open Go.ChangeShapes Go.WideShapes Go.ChangeAt Go.RowKit
open Fr Fx
set_option maxRecDepth 8000
set_option linter.unusedVariables false
set_option linter.unusedSimpArgs false
set_option maxRecDepth 8000
theorem c_zero (K B F R O : Int) (w : World) : Calls Tryz.prog 128 #[T5 K B F R O] w (Ret (V2 0 (if ty K B F R O then 1 else 0)) w) := by
 cases h : ty K B F R O
 ·have VT := Lib.hid fun w => vtF h w
  go_enter Tryz.func128, Tryz.ntmps128
  go_wp2_with (first | (go_at_call 46; (with_reducible refine (VT.out _).mono ?_); rintro e w1 ⟨rfl, hb1⟩; have hc1 := (bcell hb1).1; have hf1 := (bcell hb1).2; have z1_0 : w.heap.size < w1.heap.size := SqB.z hb1; have z1_1 : w.heap.size + 1 < w1.heap.size := SqB.z hb1; have K1 : Below w.heap.size w w1 := SqB.t hb1))
  refine bodyPost_ret (v := V2 0 0) (by simp [results, Tryz.results128, go_sem, hc1, hf1, SqB.n z1_0, SqB.n z1_1]) rfl ⟨rfl, ?_⟩; exact SqB.b
 ·have VT := Lib.hid fun w => vtT h w
  go_enter Tryz.func128, Tryz.ntmps128
  go_wp2_with (first | (go_at_call 46; (with_reducible refine (VT.out _).mono ?_); rintro e w1 ⟨rfl, hb1⟩; have hc1 := (bcell hb1).1; have hf1 := (bcell hb1).2; have z1_0 : w.heap.size < w1.heap.size := SqB.z hb1; have z1_1 : w.heap.size + 1 < w1.heap.size := SqB.z hb1; have K1 : Below w.heap.size w w1 := SqB.t hb1))
  refine bodyPost_ret (v := V2 0 1) (by simp [results, Tryz.results128, go_sem, hc1, hf1, SqB.n z1_0, SqB.n z1_1]) rfl ⟨rfl, ?_⟩; exact SqB.b
set_option maxHeartbeats 4000000 in
theorem c_one (K B F R O : Int) (w : World) (b0 : -9223372036854775808 <= B) (b1 : B <= 9223372036854775807) : Calls Tryz.prog 129 #[T5 K B F R O] w (Ret (F3 (onv K B F R O)) w) := by
 have HV := Lib.hid fun n d w => c_va K B F R O n d w b0 b1
 cases h : ty K B F R O
 ·have VT := Lib.hid fun w => vtF h w
  rw [show onv K B F R O = (0, 0, 10) by unfold onv; rw [h]; rfl]
  clear HV b0 b1 h
  go_enter Tryz.func129, Tryz.ntmps129
  go_wp2_with (first | (go_at_call 46; (with_reducible refine (VT.out _).mono ?_); rintro e w1 ⟨rfl, hb1⟩; have hc1 := (bcell hb1).1; have hf1 := (bcell hb1).2; have z1_0 : w.heap.size < w1.heap.size := SqB.z hb1; have z1_1 : w.heap.size + 1 < w1.heap.size := SqB.z hb1; have K1 : Below w.heap.size w w1 := SqB.t hb1))
  refine bodyPost_ret (v := Frac3 0 0 10) (by simp [results, Tryz.results129, go_sem, hc1, hf1, SqB.n z1_0, SqB.n z1_1]) rfl ⟨rfl, ?_⟩; exact SqB.b
 ·have VT := Lib.hid fun w => vtT h w
  by_cases hk : K = 2
  ·have ht : tv K B F R O = true := by
    rcases ty_cases K B F R O with ⟨_, h3 | h3⟩ | ⟨h3, _⟩
    ·exact h3.2
    ·exact absurd hk (by omega)
    ·rw [h] at h3; cases h3
   obtain ⟨-, -, -, f0, f1, -, -, -⟩ := tv_parts ht
   obtain ⟨p0, p1⟩ := two_pow F f0 f1
   rw [show onv K B F R O = (if fv K B F R O (2 ^ F.toNat) 1 then (2 ^ F.toNat, 1, 0) else (0, 0, 3)) by unfold onv; rw [h, if_neg (by decide), if_pos hk]]
   have k1 : (K == 2) = true := by simpa using hk
   have VA := Lib.hid fun w => HV.out (2 ^ F.toNat) 1 w
   rw [vv_fix hk] at VA
   clear HV hk ht h b0 b1
   obtain ⟨p, hp⟩ : ∃ p, (2 : Int) ^ F.toNat = p := ⟨_, rfl⟩
   rw [hp] at p0 p1 VA ⊢
   cases h2 : fv K B F R O p 1
   ·rw [h2] at VA
    clear h2
    go_enter Tryz.func129, Tryz.ntmps129
    go_wp2_with (first | (go_at_call 46; (with_reducible refine (VT.out _).mono ?_); rintro e w1 ⟨rfl, hb1⟩; have hc1 := (bcell hb1).1; have hf1 := (bcell hb1).2; have z1_0 : w.heap.size < w1.heap.size := SqB.z hb1; have z1_1 : w.heap.size + 1 < w1.heap.size := SqB.z hb1; have K1 : Below w.heap.size w w1 := SqB.t hb1) | (go_at_call 48; (with_reducible refine (VA.out _).mono ?_); rintro e w2 ⟨rfl, hb2⟩; have hc2 := (bcell hb2).1; have hf2 := (bcell hb2).2; have z2_0 : w.heap.size < w2.heap.size := SqB.z hb2; have z2_1 : w.heap.size + 1 < w2.heap.size := SqB.z hb2; have K2 : Below w.heap.size w w2 := SqB.t hb2))
    refine bodyPost_ret (v := Frac3 0 0 3) (by simp [results, Tryz.results129, go_sem, hc1, hf1, hc2, hf2, SqB.n z1_0, SqB.n z1_1, SqB.n z2_0, SqB.n z2_1]) rfl ⟨rfl, ?_⟩; exact SqB.b
   ·rw [h2] at VA
    clear h2
    go_enter Tryz.func129, Tryz.ntmps129
    go_wp2_with (first | (go_at_call 46; (with_reducible refine (VT.out _).mono ?_); rintro e w1 ⟨rfl, hb1⟩; have hc1 := (bcell hb1).1; have hf1 := (bcell hb1).2; have z1_0 : w.heap.size < w1.heap.size := SqB.z hb1; have z1_1 : w.heap.size + 1 < w1.heap.size := SqB.z hb1; have K1 : Below w.heap.size w w1 := SqB.t hb1) | (go_at_call 48; (with_reducible refine (VA.out _).mono ?_); rintro e w2 ⟨rfl, hb2⟩; have hc2 := (bcell hb2).1; have hf2 := (bcell hb2).2; have z2_0 : w.heap.size < w2.heap.size := SqB.z hb2; have z2_1 : w.heap.size + 1 < w2.heap.size := SqB.z hb2; have K2 : Below w.heap.size w w2 := SqB.t hb2))
    refine bodyPost_ret (v := Frac3 p 1 0) (by simp [results, Tryz.results129, go_sem, hc1, hf1, hc2, hf2, SqB.n z1_0, SqB.n z1_1, SqB.n z2_0, SqB.n z2_1]) rfl ⟨rfl, ?_⟩; exact SqB.b
  ·rw [show onv K B F R O = (1, 1, 0) by unfold onv; rw [h, if_neg (by decide), if_neg hk]]
   have hv : vv K B F R O 1 1 = true := by
    unfold vv
    rw [if_neg hk, h]
    split <;> decide
   have k1 : (K == 2) = false := by simpa using hk
   have VA := Lib.hid fun w => HV.out 1 1 w
   rw [hv] at VA
   clear HV hk h hv b0 b1
   go_enter Tryz.func129, Tryz.ntmps129
   go_wp2_with (first | (go_at_call 46; (with_reducible refine (VT.out _).mono ?_); rintro e w1 ⟨rfl, hb1⟩; have hc1 := (bcell hb1).1; have hf1 := (bcell hb1).2; have z1_0 : w.heap.size < w1.heap.size := SqB.z hb1; have z1_1 : w.heap.size + 1 < w1.heap.size := SqB.z hb1; have K1 : Below w.heap.size w w1 := SqB.t hb1) | (go_at_call 48; (with_reducible refine (VA.out _).mono ?_); rintro e w2 ⟨rfl, hb2⟩; have hc2 := (bcell hb2).1; have hf2 := (bcell hb2).2; have z2_0 : w.heap.size < w2.heap.size := SqB.z hb2; have z2_1 : w.heap.size + 1 < w2.heap.size := SqB.z hb2; have K2 : Below w.heap.size w w2 := SqB.t hb2))
   refine bodyPost_ret (v := Frac3 1 1 0) (by simp [results, Tryz.results129, go_sem, hc1, hf1, hc2, hf2, SqB.n z1_0, SqB.n z1_1, SqB.n z2_0, SqB.n z2_1]) rfl ⟨rfl, ?_⟩; exact SqB.b
end Go.Proofs.YteaaikmejacpaaaGreatDoor.Va
