/- New and Valid of the reference. -/
import Derived.Test.YthkhlhibhkdkkaaG8
import Derived.Test.YthkhlhibhkdkkaaG4

namespace Go.Proofs.Ythkhlhibhkdkkaa.Fr
open Go.ChangeShapes Go.WideShapes Go.ChangeAt Go.RowKit
set_option linter.unusedVariables false
set_option linter.unusedSimpArgs false
set_option maxHeartbeats 1000000 in
theorem rfgcd (x y : Int) (w : World) (x0 : 0 ≤ x) (x1 : x ≤ 9223372036854775808) (y0 : 0 ≤ y) (y1 : y ≤ 9223372036854775808) :
    Calls Try.prog 89 #[.int .u64 x, .int .u64 y] w (Val1 .u64 (Int.gcd x y) w) := by
  go_enter Try.func89, Try.ntmps89
  go_wp2
  go_loopw [0, 1] (fun a b wr => ∃ p q : Int, a = .int .u64 p ∧ b = .int .u64 q ∧ 0 ≤ p ∧ p ≤ 9223372036854775808 ∧ 0 ≤ q ∧ q ≤ 9223372036854775808 ∧ Int.gcd p q = Int.gcd x y ∧ ∃ n, wr = w.drewN n) (fun _ b _ => (intOf b).toNat)
  case atStart => exact ⟨x, y, rfl, rfl, x0, x1, y0, y1, rfl, 0, rfl⟩
  case round =>
    obtain ⟨p, q, rfl, rfl, p0, p1, q0, q1, hg, n, rfl⟩ := hrel
    have HG := Lib.hid hg
    clear hg
    by_cases hq : q = 0
    · subst hq
      go_wp2
      go_ret
      exact val1_end _ (by rw [← HG.out, gcd_done _ p0])
    · have hq1 : (q != 0) = true := by simpa using hq
      have hq2 : (q == 0) = false := by simpa using hq
      have hq3 : 0 < q := by omega
      have hm := Int.emod_nonneg p hq
      have hl := Int.emod_lt_of_pos p hq3
      clear hq
      go_wp2
      go_quiet (fail)
      go_wp2
      go_roundw
      case rel => exact ⟨q, p % q, rfl, rfl, by omega, by omega, by omega, by omega, by rw [gcd_step _ _ p0 hq3, HG.out], n + nq, by rw [World.drewN_drewN]⟩
      case measure => simp [intOf]; omega
theorem rsize_neg (n : Int) (w : World) (h : n < 0) (h' : -9223372036854775808 ≤ n) :
    Calls Try.prog 86 #[.int .i64 n] w fun e w' => e = .returned (.int .u64 (-n)) ∧ w = w' := by
  have e : ∀ a b : Int, a = b → Ending.returned (.int .u64 a) = .returned (.int .u64 b) := fun a b h => by rw [h]
  go_enter Try.func86, Try.ntmps86
  go_wp2
  go_ret
  exact ⟨e _ _ (by omega), rfl⟩
theorem rsize_pos (n : Int) (w : World) (h : 0 ≤ n) (h' : n ≤ 9223372036854775807) :
    Calls Try.prog 86 #[.int .i64 n] w fun e w' => e = .returned (.int .u64 n) ∧ w = w' := by
  go_enter Try.func86, Try.ntmps86
  go_wp2
  go_ret
  exact ⟨rfl, rfl⟩
set_option maxHeartbeats 4000000 in
theorem rmade_any (neg : Bool) (n d : Int) (w : World) (n0 : 0 ≤ n) (n1 : n ≤ 9223372036854775808) (d0 : 1 ≤ d) (d1 : d ≤ 9223372036854775808) :
    Calls Try.prog 85 #[.bool neg, .int .u64 n, .int .u64 d] w (Ret (Frac3 (lowN neg n d) (lowD n d) (lowE n d)) w) := by
  obtain ⟨g0, g1, q0, q1, r0, r1⟩ := gcd_facts n d n0 (by omega)
  obtain ⟨b, hb⟩ : ∃ b, decide (2147483647 < n / (Int.gcd n d : Int) ∨ 2147483647 < d / (Int.gcd n d : Int)) = b := ⟨_, rfl⟩
  have HN : lowN neg n d = if b then 0 else if neg then -(n / (Int.gcd n d : Int)) else n / (Int.gcd n d : Int) := by unfold lowN; subst hb; simp
  have HD : lowD n d = if b then 0 else d / (Int.gcd n d : Int) := by unfold lowD; subst hb; simp
  have HE : lowE n d = if b then 3 else 0 := by unfold lowE; subst hb; simp
  rw [HN, HD, HE]
  clear HN HD HE
  obtain ⟨q, hq⟩ : ∃ q, n / (Int.gcd n d : Int) = q := ⟨_, rfl⟩
  obtain ⟨r, hr⟩ : ∃ r, d / (Int.gcd n d : Int) = r := ⟨_, rfl⟩
  rw [hq] at q0 q1 hb ⊢
  rw [hr] at r0 r1 hb ⊢
  have gz : ((Int.gcd n d : Int) == 0) = false := by simp; omega
  obtain ⟨x, y, hx, hy, hxy⟩ : ∃ x y, decide (2147483647 < q) = x ∧ decide (2147483647 < r) = y ∧ (x || y) = b := ⟨_, _, rfl, rfl, by rw [← hb]; simp⟩
  clear hb
  have hx2 : x = false → q ≤ 2147483647 := fun h => by rw [h] at hx; simpa using hx
  have hy2 : y = false → r ≤ 2147483647 := fun h => by rw [h] at hy; simpa using hy
  cases x <;> cases y <;> simp only [Bool.or_false, Bool.or_true] at hxy <;> subst hxy
  all_goals cases neg
  all_goals
    try simp only [Bool.false_eq_true, ↓reduceIte]
    try have hx3 := hx2 rfl
    try have hy3 := hy2 rfl
    clear hx2 hy2
    go_enter Try.func85, Try.ntmps85
    go_wp2_with (go_at_call 89; refine (rfgcd _ _ _ (by omega) (by omega) (by omega) (by omega)).mono ?_; rintro e w1 ⟨rfl, k, rfl⟩)
    go_returns
    refine ⟨rfl, ?_⟩
    repeat' (first | (with_reducible exact Below.refl _ _) | (with_reducible refine below_drewN ?_ _) | (with_reducible refine Below.drew ?_) | (with_reducible refine Below.alloc ?_ ?_ _) | (with_reducible refine Below.setCell ?_ ?_ _) | (with_reducible assumption) | (simp; done) | (simp; omega) | omega)
set_option maxHeartbeats 4000000 in
theorem rnew_any (n d : Int) (w : World) (n0 : -9223372036854775808 ≤ n) (n1 : n ≤ 9223372036854775807) (d0 : -9223372036854775808 ≤ d) (d1 : d ≤ 9223372036854775807) :
    Calls Try.prog 70 #[.int .i64 n, .int .i64 d] w (Ret (Frac3 (newN n d) (newD n d) (newE n d)) w) := by
  by_cases hd : d = 0
  · subst hd
    have e1 : newN n 0 = 0 := rfl
    have e2 : newD n 0 = 0 := rfl
    have e3 : newE n 0 = 4 := rfl
    rw [e1, e2, e3]
    clear e1 e2 e3
    go_enter Try.func70, Try.ntmps70
    go_wp2
    go_returns
    refine ⟨rfl, ?_⟩
    repeat' (first | (with_reducible exact Below.refl _ _) | (with_reducible refine below_drewN ?_ _) | (with_reducible refine Below.drew ?_) | (with_reducible refine Below.alloc ?_ ?_ _) | (with_reducible refine Below.setCell ?_ ?_ _) | (with_reducible assumption) | (simp; done) | (simp; omega) | omega)
  · have hz : (d == 0) = false := by simpa using hd
    obtain ⟨x, y, hx, hy⟩ : ∃ x y, decide (n < 0) = x ∧ decide (d < 0) = y := ⟨_, _, rfl, rfl⟩
    obtain ⟨m, hm, m0, m1⟩ : ∃ m, (if n < 0 then -n else n) = m ∧ 0 ≤ m ∧ m ≤ 9223372036854775808 := ⟨_, rfl, by split <;> omega, by split <;> omega⟩
    obtain ⟨c, hc, c0, c1⟩ : ∃ c, (if d < 0 then -d else d) = c ∧ 1 ≤ c ∧ c ≤ 9223372036854775808 := ⟨_, rfl, by split <;> omega, by split <;> omega⟩
    have e1 : newN n d = lowN (x != y) m c := by unfold newN; rw [if_neg hd, hx, hy, hm, hc]
    have e2 : newD n d = lowD m c := by unfold newD; rw [if_neg hd, hm, hc]
    have e3 : newE n d = lowE m c := by unfold newE; rw [if_neg hd, hm, hc]
    rw [e1, e2, e3]
    have hx1 : x = true → n < 0 ∧ m = -n := fun h => by
      have h1 : n < 0 := by rw [h] at hx; simpa using hx
      exact ⟨h1, by rw [if_pos h1] at hm; exact hm.symm⟩
    have hx2 : x = false → 0 ≤ n ∧ m = n := fun h => by
      have h1 : 0 ≤ n := by rw [h] at hx; simpa using hx
      exact ⟨h1, by rw [if_neg (by omega)] at hm; exact hm.symm⟩
    have hy1 : y = true → d < 0 ∧ c = -d := fun h => by
      have h1 : d < 0 := by rw [h] at hy; simpa using hy
      exact ⟨h1, by rw [if_pos h1] at hc; exact hc.symm⟩
    have hy2 : y = false → 0 < d ∧ c = d := fun h => by
      have h1 : 0 ≤ d := by rw [h] at hy; simpa using hy
      exact ⟨by omega, by rw [if_neg (by omega)] at hc; exact hc.symm⟩
    have LW := Lib.hid (fun b (w : World) => rmade_any b m c w m0 m1 c0 c1)
    clear e1 e2 e3 hm hc
    cases x <;> cases y
    all_goals
      (first | obtain ⟨h1, rfl⟩ := hx1 rfl | obtain ⟨h1, rfl⟩ := hx2 rfl)
      (first | obtain ⟨h2, rfl⟩ := hy1 rfl | obtain ⟨h2, rfl⟩ := hy2 rfl)
      clear hx1 hx2 hy1 hy2
      go_enter Try.func70, Try.ntmps70
      go_wp2_with (first | (go_at_call 86; refine (rsize_pos _ _ (by omega) (by omega)).mono ?_; rintro e w1 ⟨rfl, rfl⟩) | (go_at_call 86; refine (rsize_neg _ _ (by omega) (by omega)).mono ?_; rintro e w1 ⟨rfl, rfl⟩) | (go_at_call 85; refine (LW.out _ _).mono ?_; rintro e w1 ⟨rfl, hb⟩; have hc := (bcell hb).1; have hf := (bcell hb).2))
      refine bodyPost_ret (v := Frac3 _ _ _) (by simp [results, Try.results70, go_sem, hc]) rfl ⟨rfl, ?_⟩
      refine Below.setCell (Below.setCell ?_ (by simp) _) (by simp) _
      exact ((Below.refl _ _).alloc (Nat.le_refl _) _).trans (hb.mono (by simp))
theorem rvalid_any (n d : Int) (w : World) : Calls Try.prog 38 #[.agg #[.int .i64 n, .int .i64 d]] w (Ret (.bool (vld n d)) w) := by
  go_enter Try.func38, Try.ntmps38
  go_wp2_with (go_at_call 40; refine (bval_any _ _ _).mono ?_; rintro e w1 ⟨rfl, hb⟩)
  go_ret
  exact ⟨rfl, ((Below.refl _ _).alloc (Nat.le_refl _) _).trans (hb.mono (by simp))⟩
end Go.Proofs.Ythkhlhibhkdkkaa.Fr


namespace Go.Proofs.Ythkhlhibhkdkkaa.Fr
open Go.ChangeShapes Go.WideShapes Go.ChangeAt Go.RowKit
set_option linter.unusedVariables false
set_option linter.unusedSimpArgs false
theorem step {k : Nat} {W w1 w2 : World} (B : Below k W w1) (hb : Below w1.heap.size w1 w2) (hk : k ≤ W.heap.size) : Below k W w2 := B.trans (hb.mono (Nat.le_trans hk B.size))
theorem cells3 {w w1 : World} {n1 d1 n2 d2 n3 d3 : Int} (h : Below (w.heap.size + 3) (((w.alloc (.cells #[.int .i64 n1, .int .i64 d1] 23)).alloc (.cells #[.int .i64 n2, .int .i64 d2] 23)).alloc (.cells #[.int .i64 n3, .int .i64 d3] 23)) w1) :
    w1.cell? ⟨w.heap.size, 0, none⟩ = some (.int .i64 n1) ∧ w1.cell? ⟨w.heap.size, 1, none⟩ = some (.int .i64 d1) ∧ w1.cell? ⟨w.heap.size + 1, 0, none⟩ = some (.int .i64 n2) ∧ w1.cell? ⟨w.heap.size + 1, 1, none⟩ = some (.int .i64 d2) ∧
    w1.cell? ⟨w.heap.size + 2, 0, none⟩ = some (.int .i64 n3) ∧ w1.cell? ⟨w.heap.size + 2, 1, none⟩ = some (.int .i64 d3) ∧ w1.frozen? ⟨w.heap.size + 2, 0, none⟩ = false ∧ w1.frozen? ⟨w.heap.size + 2, 1, none⟩ = false ∧ w.heap.size + 3 ≤ w1.heap.size := by
  have s := h.size
  simp at s
  refine ⟨?_, ?_, ?_, ?_, ?_, ?_, ?_, ?_, by omega⟩
  · rw [h.cell (p := ⟨w.heap.size, 0, none⟩) (show w.heap.size < w.heap.size + 3 by omega)]; go_cell
  · rw [h.cell (p := ⟨w.heap.size, 1, none⟩) (show w.heap.size < w.heap.size + 3 by omega)]; go_cell
  · rw [h.cell (p := ⟨w.heap.size + 1, 0, none⟩) (show w.heap.size + 1 < w.heap.size + 3 by omega)]; go_cell
  · rw [h.cell (p := ⟨w.heap.size + 1, 1, none⟩) (show w.heap.size + 1 < w.heap.size + 3 by omega)]; go_cell
  · rw [h.cell (p := ⟨w.heap.size + 2, 0, none⟩) (show w.heap.size + 2 < w.heap.size + 3 by omega)]; go_cell
  · rw [h.cell (p := ⟨w.heap.size + 2, 1, none⟩) (show w.heap.size + 2 < w.heap.size + 3 by omega)]; go_cell
  · rw [h.frozen (p := ⟨w.heap.size + 2, 0, none⟩) (show w.heap.size + 2 < w.heap.size + 3 by omega)]; go_cell
  · rw [h.frozen (p := ⟨w.heap.size + 2, 1, none⟩) (show w.heap.size + 2 < w.heap.size + 3 by omega)]; go_cell
theorem below3 (w : World) (a b c : Obj) : Below w.heap.size w (((w.alloc a).alloc b).alloc c) := (((Below.refl _ _).alloc (Nat.le_refl _) _).alloc (by simp) _).alloc (by simp; omega) _
/-- Both operands are valid fractions. -/
def both (n1 d1 n2 d2 : Int) : Bool := vld n1 d1 && vld n2 d2
end Go.Proofs.Ythkhlhibhkdkkaa.Fr


namespace Go.Proofs.Ythkhlhibhkdkkaa.Fr
open Go.ChangeShapes Go.WideShapes Go.ChangeAt Go.RowKit
set_option linter.unusedVariables false
set_option linter.unusedSimpArgs false
/-- The floor of n/d by Go's quotient and remainder. -/
theorem floor_eq (n d : Int) (hd : 0 < d) : (n.tmod d < 0 → n / d = n.tdiv d - 1 ∧ n < n.tdiv d * d) ∧ (¬ n.tmod d < 0 → n / d = n.tdiv d ∧ n.tdiv d * d ≤ n) := by
  have h1 := Int.mul_tdiv_add_tmod n d
  have h2 := Int.emod_nonneg n (by omega : d ≠ 0)
  have h3 := Int.emod_lt_of_pos n hd
  have h4 := Int.mul_ediv_add_emod n d
  have h5 : (n.tmod d).natAbs < d.natAbs := by
    rw [Int.natAbs_tmod]; exact Nat.mod_lt _ (by omega)
  obtain ⟨q, hq⟩ : ∃ q, n.tdiv d = q := ⟨_, rfl⟩
  obtain ⟨r, hr⟩ : ∃ r, n.tmod d = r := ⟨_, rfl⟩
  obtain ⟨p, hp⟩ : ∃ p, n / d = p := ⟨_, rfl⟩
  obtain ⟨s, hs⟩ : ∃ s, n % d = s := ⟨_, rfl⟩
  rw [hq, hr] at h1
  rw [hp, hs] at h4
  rw [hs] at h2 h3
  rw [hr] at h5
  rw [hq, hr, hp]
  have key : ∀ a b : Int, d * a ≤ d * b + (d - 1) → a ≤ b := by
    intro a b hab
    by_cases hlt : a ≤ b
    · exact hlt
    · have := Int.mul_le_mul_of_nonneg_left (by omega : b + 1 ≤ a) (by omega : 0 ≤ d)
      rw [Int.mul_add, Int.mul_one] at this
      omega
  have hqd : q * d = d * q := Int.mul_comm _ _
  constructor
  · intro hlt
    have a1 := key p (q - 1) (by rw [Int.mul_sub, Int.mul_one]; omega)
    have a2 := key (q - 1) p (by rw [Int.mul_sub, Int.mul_one]; omega)
    exact ⟨by omega, by omega⟩
  · intro hge
    have a1 := key p q (by omega)
    have a2 := key q p (by omega)
    exact ⟨by omega, by omega⟩
theorem tdiv_bound (n d : Int) (hd : 0 < d) : -(n.natAbs : Int) ≤ n.tdiv d ∧ n.tdiv d ≤ n.natAbs := by
  have h : (n.tdiv d).natAbs ≤ n.natAbs := by
    rw [Int.natAbs_tdiv]; exact Nat.div_le_self _ _
  omega
theorem vld_of {n d : Int} (h : vld n d = true) : 1 ≤ d ∧ d ≤ 2147483647 ∧ -2147483647 ≤ n ∧ n ≤ 2147483647 ∧ Int.gcd n d = 1 := by
  unfold vld at h
  simpa using h
theorem ret1 {k : IntKind} {a b : Int} (h : a = b) : Ending.returned (.int k a) = .returned (.int k b) := by rw [h]
theorem cells1 {w w1 : World} {n d : Int} (h : Below (w.heap.size + 1) (w.alloc (.cells #[.int .i64 n, .int .i64 d] 23)) w1) :
    w1.cell? ⟨w.heap.size, 0, none⟩ = some (.int .i64 n) ∧ w1.cell? ⟨w.heap.size, 1, none⟩ = some (.int .i64 d) ∧ w.heap.size + 1 ≤ w1.heap.size := by
  have s := h.size
  simp at s
  refine ⟨?_, ?_, by omega⟩
  · rw [h.cell (p := ⟨w.heap.size, 0, none⟩) (show w.heap.size < w.heap.size + 1 by omega)]; go_cell
  · rw [h.cell (p := ⟨w.heap.size, 1, none⟩) (show w.heap.size < w.heap.size + 1 by omega)]; go_cell
def flo (n d : Int) : Int := if vld n d then n / d else 0
def cei (n d : Int) : Int := if vld n d then -((-n) / d) else 0
def ngN (n d : Int) : Int := if vld n d then -n else 0
def ngD (n d : Int) : Int := if vld n d then d else 0
theorem vld_neg (n d : Int) : vld (-n) d = vld n d := by
  unfold vld
  rw [Int.neg_gcd]
  congr 1
  apply propext
  constructor <;> (intro h; omega)
set_option maxHeartbeats 2000000 in
theorem neg_any (n d : Int) (w : World) : Calls Try.prog 37 #[.agg #[.int .i64 n, .int .i64 d]] w (Ret (.agg #[.int .i64 (ngN n d), .int .i64 (ngD n d)]) w) := by
  obtain ⟨x, hx⟩ : ∃ x, vld n d = x := ⟨_, rfl⟩
  have e1 : ngN n d = if x then -n else 0 := by unfold ngN; rw [hx]
  have e2 : ngD n d = if x then d else 0 := by unfold ngD; rw [hx]
  rw [e1, e2]
  clear e1 e2
  have hb : x = true → -2147483647 ≤ n ∧ n ≤ 2147483647 := fun h => by
    rw [h] at hx; obtain ⟨d0, d1, n0, n1, _⟩ := vld_of hx; exact ⟨n0, n1⟩
  cases x
  all_goals
    try (have hn0 := (hb rfl).1; have hn1 := (hb rfl).2)
    clear hb
    simp only [Bool.false_eq_true, ↓reduceIte]
    go_enter Try.func37, Try.ntmps37
    go_wp2_with fail
    refine (valid_any _ _ _).mono ?_
    rintro e w1 ⟨rfl, hb1⟩
    have Bt : Below (w.heap.size + 2) ((w.alloc (.cells #[.int .i64 n, .int .i64 d] 23)).alloc (.cells #[.int .i64 0, .int .i64 0] 23)) w1 := hb1.mono (by simp)
    have z := Bt.size
    simp at z
    have c0 := Bt.cell (p := ⟨w.heap.size, 0, none⟩) (show w.heap.size < w.heap.size + 2 by omega)
    have c1 := Bt.cell (p := ⟨w.heap.size, 1, none⟩) (show w.heap.size < w.heap.size + 2 by omega)
    have c2 := Bt.cell (p := ⟨w.heap.size + 1, 0, none⟩) (show w.heap.size + 1 < w.heap.size + 2 by omega)
    have c3 := Bt.cell (p := ⟨w.heap.size + 1, 1, none⟩) (show w.heap.size + 1 < w.heap.size + 2 by omega)
    have f2 := Bt.frozen (p := ⟨w.heap.size + 1, 0, none⟩) (show w.heap.size + 1 < w.heap.size + 2 by omega)
    have f3 := Bt.frozen (p := ⟨w.heap.size + 1, 1, none⟩) (show w.heap.size + 1 < w.heap.size + 2 by omega)
    simp at c0 c1 c2 c3 f2 f3
    go_wp2
    refine bodyPost_ret (v := .agg #[.int .i64 _, .int .i64 _]) (by simp [results, Try.results37, go_sem, c2, c3]) rfl ⟨rfl, ?_⟩
    refine Below.setCell (Below.setCell ?_ (by simp <;> omega) _) (by simp <;> omega) _
    exact (((Below.refl _ _).alloc (Nat.le_refl _) _).alloc (by simp) _).trans (Bt.mono (by omega))
set_option maxHeartbeats 2000000 in
theorem rneg_any (n d : Int) (w : World) : Calls Try.prog 48 #[.agg #[.int .i64 n, .int .i64 d]] w (Ret (.agg #[.int .i64 (ngN n d), .int .i64 (ngD n d)]) w) := by
  obtain ⟨x, hx⟩ : ∃ x, vld n d = x := ⟨_, rfl⟩
  have e1 : ngN n d = if x then -n else 0 := by unfold ngN; rw [hx]
  have e2 : ngD n d = if x then d else 0 := by unfold ngD; rw [hx]
  rw [e1, e2]
  clear e1 e2
  have hb : x = true → -2147483647 ≤ n ∧ n ≤ 2147483647 := fun h => by
    rw [h] at hx; obtain ⟨d0, d1, n0, n1, _⟩ := vld_of hx; exact ⟨n0, n1⟩
  cases x
  all_goals
    try (have hn0 := (hb rfl).1; have hn1 := (hb rfl).2)
    clear hb
    simp only [Bool.false_eq_true, ↓reduceIte]
    go_enter Try.func48, Try.ntmps48
    go_wp2_with fail
    refine (rvalid_any _ _ _).mono ?_
    rintro e w1 ⟨rfl, hb1⟩
    have Bt : Below (w.heap.size + 2) ((w.alloc (.cells #[.int .i64 n, .int .i64 d] 23)).alloc (.cells #[.int .i64 0, .int .i64 0] 23)) w1 := hb1.mono (by simp)
    have z := Bt.size
    simp at z
    have c0 := Bt.cell (p := ⟨w.heap.size, 0, none⟩) (show w.heap.size < w.heap.size + 2 by omega)
    have c1 := Bt.cell (p := ⟨w.heap.size, 1, none⟩) (show w.heap.size < w.heap.size + 2 by omega)
    have c2 := Bt.cell (p := ⟨w.heap.size + 1, 0, none⟩) (show w.heap.size + 1 < w.heap.size + 2 by omega)
    have c3 := Bt.cell (p := ⟨w.heap.size + 1, 1, none⟩) (show w.heap.size + 1 < w.heap.size + 2 by omega)
    have f2 := Bt.frozen (p := ⟨w.heap.size + 1, 0, none⟩) (show w.heap.size + 1 < w.heap.size + 2 by omega)
    have f3 := Bt.frozen (p := ⟨w.heap.size + 1, 1, none⟩) (show w.heap.size + 1 < w.heap.size + 2 by omega)
    simp at c0 c1 c2 c3 f2 f3
    go_wp2
    refine bodyPost_ret (v := .agg #[.int .i64 _, .int .i64 _]) (by simp [results, Try.results48, go_sem, c2, c3]) rfl ⟨rfl, ?_⟩
    refine Below.setCell (Below.setCell ?_ (by simp <;> omega) _) (by simp <;> omega) _
    exact (((Below.refl _ _).alloc (Nat.le_refl _) _).alloc (by simp) _).trans (Bt.mono (by omega))
end Go.Proofs.Ythkhlhibhkdkkaa.Fr


namespace Go.Proofs.Ythkhlhibhkdkkaa.Fr

set_option linter.unusedVariables false
set_option linter.unusedSimpArgs false
theorem uniq (X Y n d : Int) (hY : 0 < Y) (hd : 0 < d) (hc : Int.gcd n d = 1) (h : X * d = n * Y) : ∃ k, 0 < k ∧ X = k * n ∧ Y = k * d := by
  have h1 : d.natAbs ∣ n.natAbs * Y.natAbs := by
    rw [← Int.natAbs_mul]
    exact Int.natAbs_dvd_natAbs.2 ⟨X, by rw [← h, Int.mul_comm]⟩
  have h2 : d.natAbs ∣ Y.natAbs := Nat.Coprime.dvd_of_dvd_mul_left (by rw [Nat.Coprime, Nat.gcd_comm]; exact hc) h1
  obtain ⟨k, hk⟩ := Int.natAbs_dvd_natAbs.1 h2
  have hk0 : 0 < k := by
    rcases (by omega : k ≤ 0 ∨ 0 < k) with h0 | h0
    · have := Int.mul_nonpos_of_nonneg_of_nonpos (by omega : 0 ≤ d) h0
      omega
    · exact h0
  refine ⟨k, hk0, ?_, by rw [hk, Int.mul_comm]⟩
  have h3 : X * d = k * n * d := by rw [h, hk]; grind
  exact Int.eq_of_mul_eq_mul_right (by omega) h3
/-- New at a multiple of a pair in lowest terms. -/
theorem new_mult (k n d : Int) (hk : 0 < k) (hd : 0 < d) (hc : Int.gcd n d = 1) :
    newN (k * n) (k * d) = (if 2147483647 < (if n < 0 then -n else n) ∨ 2147483647 < d then 0 else n) ∧
    newD (k * n) (k * d) = (if 2147483647 < (if n < 0 then -n else n) ∨ 2147483647 < d then 0 else d) ∧
    newE (k * n) (k * d) = (if 2147483647 < (if n < 0 then -n else n) ∨ 2147483647 < d then 3 else 0) := by
  have hkd : 0 < k * d := Int.mul_pos hk hd
  have hneg : k * n < 0 ↔ n < 0 := by
    constructor
    · intro h
      rcases (by omega : n < 0 ∨ 0 ≤ n) with h0 | h0
      · exact h0
      · have := Int.mul_nonneg (by omega : 0 ≤ k) h0; omega
    · intro h; exact Int.mul_neg_of_pos_of_neg hk h
  obtain ⟨m, hm, m0, hmc⟩ : ∃ m, (if n < 0 then -n else n) = m ∧ 0 ≤ m ∧ Int.gcd m d = 1 := by
    refine ⟨_, rfl, by split <;> omega, ?_⟩
    split
    · rw [Int.neg_gcd]; exact hc
    · exact hc
  have habs : (if k * n < 0 then -(k * n) else k * n) = k * m := by
    by_cases h : n < 0
    · rw [if_pos (hneg.2 h)]; rw [if_pos h] at hm; rw [← hm, Int.mul_neg]
    · rw [if_neg (fun h' => h (hneg.1 h'))]; rw [if_neg h] at hm; rw [← hm]
  have hg : (Int.gcd (k * m) (k * d) : Int) = k := by
    rw [Int.gcd_mul_left, hmc]; omega
  have q1 : k * m / k = m := Int.mul_ediv_cancel_left _ (by omega)
  have q2 : k * d / k = d := Int.mul_ediv_cancel_left _ (by omega)
  have hs : (decide (k * n < 0) != decide (k * d < 0)) = decide (n < 0) := by
    rw [decide_eq_false (by omega : ¬ k * d < 0)]
    simp [hneg]
  unfold newN newD newE
  have e0 : ¬ k * d = 0 := by omega
  have e1 : ¬ k * d < 0 := by omega
  rw [if_neg e0, if_neg e0, if_neg e0, habs, if_neg e1, hs, hm]
  unfold lowN lowD lowE
  rw [hg, q1, q2]
  refine ⟨?_, rfl, rfl⟩
  by_cases h : n < 0
  · rw [if_pos h] at hm
    simp only [decide_eq_true h, ↓reduceIte]
    split <;> omega
  · rw [if_neg h] at hm
    simp only [decide_eq_false h, Bool.false_eq_true, ↓reduceIte]
    split <;> omega
theorem lowest_of (X Y : Int) (hY : 0 < Y) : ∃ k n d, 0 < k ∧ 0 < d ∧ Int.gcd n d = 1 ∧ X = k * n ∧ Y = k * d := by
  have g0 : 0 < (Int.gcd X Y : Int) := by
    have : Int.gcd X Y ≠ 0 := by
      intro h; have := (Int.gcd_eq_zero_iff.1 h).2; omega
    omega
  have e1 := Int.mul_ediv_cancel' (Int.gcd_dvd_left X Y)
  have e2 := Int.mul_ediv_cancel' (Int.gcd_dvd_right X Y)
  refine ⟨(Int.gcd X Y : Int), X / (Int.gcd X Y : Int), Y / (Int.gcd X Y : Int), g0, ?_, ?_, e1.symm, e2.symm⟩
  · rcases (by omega : Y / (Int.gcd X Y : Int) ≤ 0 ∨ 0 < Y / (Int.gcd X Y : Int)) with h0 | h0
    · have := Int.mul_nonpos_of_nonneg_of_nonpos (by omega : 0 ≤ (Int.gcd X Y : Int)) h0
      omega
    · exact h0
  · rw [Int.gcd_ediv (Int.gcd_dvd_left X Y) (Int.gcd_dvd_right X Y), Int.natAbs_natCast, Nat.div_self (by omega)]
theorem new_same (X Y X' Y' : Int) (hY : 0 < Y) (hY' : 0 < Y') (h : X * Y' = X' * Y) : newN X Y = newN X' Y' ∧ newD X Y = newD X' Y' ∧ newE X Y = newE X' Y' := by
  obtain ⟨k, n, d, k0, d0, hc, rfl, rfl⟩ := lowest_of X Y hY
  have h2 : X' * d = n * Y' := by
    have : k * (X' * d) = k * (n * Y') := by grind
    exact Int.eq_of_mul_eq_mul_left (by omega) this
  obtain ⟨j, j0, rfl, rfl⟩ := uniq X' Y' n d hY' d0 hc h2
  obtain ⟨a1, a2, a3⟩ := new_mult k n d k0 d0 hc
  obtain ⟨b1, b2, b3⟩ := new_mult j n d j0 d0 hc
  exact ⟨a1.trans b1.symm, a2.trans b2.symm, a3.trans b3.symm⟩
theorem new_back (X Y n d : Int) (hY : 0 < Y) (hv : vld n d = true) (h : X * d = n * Y) : newN X Y = n ∧ newD X Y = d ∧ newE X Y = 0 := by
  obtain ⟨d0, d1, n0, n1, hc⟩ := vld_of hv
  obtain ⟨k, k0, rfl, rfl⟩ := uniq X Y n d hY (by omega) hc h
  obtain ⟨a1, a2, a3⟩ := new_mult k n d k0 (by omega) hc
  have hk : ¬ (2147483647 < (if n < 0 then -n else n) ∨ 2147483647 < d) := by split <;> omega
  rw [if_neg hk] at a1 a2 a3
  exact ⟨a1, a2, a3⟩
theorem new_red (X Y : Int) (hY : 0 < Y) (he : newE X Y = 0) : newN X Y * Y = X * newD X Y := by
  obtain ⟨k, n, d, k0, d0, hc, rfl, rfl⟩ := lowest_of X Y hY
  obtain ⟨a1, a2, a3⟩ := new_mult k n d k0 d0 hc
  have hk : ¬ (2147483647 < (if n < 0 then -n else n) ∨ 2147483647 < d) := by
    intro hk; rw [a3, if_pos hk] at he; revert he; decide
  rw [if_neg hk] at a1 a2
  rw [a1, a2]; grind
end Go.Proofs.Ythkhlhibhkdkkaa.Fr


namespace Go.Proofs.Ythkhlhibhkdkkaa.Fr
open Go.ChangeShapes Go.WideShapes Go.ChangeAt Go.RowKit
set_option linter.unusedVariables false
set_option linter.unusedSimpArgs false
def cmpv (x y : Int) : Int := if x < y then -1 else if y < x then 1 else 0
def cmpr (n1 d1 n2 d2 : Int) : Int := if both n1 d1 n2 d2 then cmpv (n1 * d2) (n2 * d1) else if n1 = n2 then cmpv d1 d2 else cmpv n1 n2
theorem cmpv_cases (x y : Int) : (x < y ∧ cmpv x y = -1) ∨ (y < x ∧ cmpv x y = 1) ∨ (x = y ∧ cmpv x y = 0) := by
  unfold cmpv
  by_cases h : x < y
  · exact .inl ⟨h, if_pos h⟩
  · by_cases h' : y < x
    · exact .inr (.inl ⟨h', by rw [if_neg h, if_pos h']⟩)
    · exact .inr (.inr ⟨by omega, by rw [if_neg h, if_neg h']⟩)
theorem cmp45 (x y : Int) (w : World) : Calls Try.prog 56 #[.int .i64 x, .int .i64 y] w fun e w' => e = .returned (.int .i64 (cmpv x y)) ∧ w = w' := by
  rcases cmpv_cases x y with ⟨h, e⟩ | ⟨h, e⟩ | ⟨h, e⟩
  · rw [e]
    have h1 : decide (x < y) = true := by simpa using h
    clear e h
    go_enter Try.func56, Try.ntmps56
    go_wp2
    go_ret
    exact ⟨rfl, rfl⟩
  · rw [e]
    have h1 : decide (x < y) = false := by simp; omega
    have h2 : decide (y < x) = true := by simpa using h
    clear e
    go_enter Try.func56, Try.ntmps56
    go_wp2
    go_ret
    exact ⟨rfl, rfl⟩
  · subst h
    rw [e]
    clear e
    go_enter Try.func56, Try.ntmps56
    go_wp2
    go_ret
    exact ⟨rfl, rfl⟩
theorem ord46 (x y : Int) (w : World) : Calls Try.prog 71 #[.int .i64 x, .int .i64 y] w fun e w' => e = .returned (.int .i64 (cmpv x y)) ∧ w = w' := by
  rcases cmpv_cases x y with ⟨h, e⟩ | ⟨h, e⟩ | ⟨h, e⟩
  · rw [e]
    have h1 : decide (x < y) = true := by simpa using h
    clear e h
    go_enter Try.func71, Try.ntmps71
    go_wp2
    go_ret
    exact ⟨rfl, rfl⟩
  · rw [e]
    have h1 : decide (x < y) = false := by simp; omega
    have h2 : decide (y < x) = true := by simpa using h
    clear e
    go_enter Try.func71, Try.ntmps71
    go_wp2
    go_ret
    exact ⟨rfl, rfl⟩
  · subst h
    rw [e]
    clear e
    go_enter Try.func71, Try.ntmps71
    go_wp2
    go_ret
    exact ⟨rfl, rfl⟩
theorem cells2 {w w1 : World} {n1 d1 n2 d2 : Int} (h : Below (w.heap.size + 2) ((w.alloc (.cells #[.int .i64 n1, .int .i64 d1] 23)).alloc (.cells #[.int .i64 n2, .int .i64 d2] 23)) w1) :
    w1.cell? ⟨w.heap.size, 0, none⟩ = some (.int .i64 n1) ∧ w1.cell? ⟨w.heap.size, 1, none⟩ = some (.int .i64 d1) ∧ w1.cell? ⟨w.heap.size + 1, 0, none⟩ = some (.int .i64 n2) ∧ w1.cell? ⟨w.heap.size + 1, 1, none⟩ = some (.int .i64 d2) ∧ w.heap.size + 2 ≤ w1.heap.size := by
  have s := h.size
  simp at s
  refine ⟨?_, ?_, ?_, ?_, by omega⟩
  · rw [h.cell (p := ⟨w.heap.size, 0, none⟩) (show w.heap.size < w.heap.size + 2 by omega)]; go_cell
  · rw [h.cell (p := ⟨w.heap.size, 1, none⟩) (show w.heap.size < w.heap.size + 2 by omega)]; go_cell
  · rw [h.cell (p := ⟨w.heap.size + 1, 0, none⟩) (show w.heap.size + 1 < w.heap.size + 2 by omega)]; go_cell
  · rw [h.cell (p := ⟨w.heap.size + 1, 1, none⟩) (show w.heap.size + 1 < w.heap.size + 2 by omega)]; go_cell
theorem below2 (w : World) (a b : Obj) : Below w.heap.size w ((w.alloc a).alloc b) := ((Below.refl _ _).alloc (Nat.le_refl _) _).alloc (by simp) _
set_option maxHeartbeats 8000000 in
theorem cmp_ok (n1 d1 n2 d2 a b : Int) (w : World) (h : both n1 d1 n2 d2 = true) (hA : n1 * d2 = a) (hB : n2 * d1 = b) (p0 : -4611686014132420609 ≤ a) (p1 : a ≤ 4611686014132420609) (q0 : -4611686014132420609 ≤ b) (q1 : b ≤ 4611686014132420609) :
    Calls Try.prog 55 #[.agg #[.int .i64 n1, .int .i64 d1], .agg #[.int .i64 n2, .int .i64 d2]] w (Ret (.int .i64 (cmpr n1 d1 n2 d2)) w) := by
  have HV : Hid (cmpr n1 d1 n2 d2 = cmpv a b) := Lib.hid (by unfold cmpr; rw [if_pos h, hA, hB])
  unfold both at h
  simp only [Bool.and_eq_true] at h
  obtain ⟨v1, v2⟩ := h
  · go_enter Try.func55, Try.ntmps55
    go_wp2_with fail
    refine (valid_any _ _ _).mono ?_
    rintro e w1 ⟨rfl, hb1⟩
    have Bt := hb1.mono (B' := w.heap.size + 2) (by simp)
    obtain ⟨c0, c1, c2, c3, c4⟩ := cells2 Bt
    go_wp2_with fail
    refine (valid_any _ _ _).mono ?_
    rintro e w2 ⟨rfl, hb2⟩
    have Bt := step Bt hb2 (by simp)
    clear c0 c1 c2 c3 c4
    obtain ⟨c0, c1, c2, c3, c4⟩ := cells2 Bt
    go_wp2_with (go_at_call 56; refine (cmp45 _ _ _).mono ?_; rintro e w5 ⟨rfl, rfl⟩)
    go_ret
    exact ⟨by first | (rw [HV.out]; done) | (rw [HV.out]; rfl), (below2 _ _ _).trans (Bt.mono (by omega))⟩
set_option maxHeartbeats 8000000 in
theorem cmp_bad (n1 d1 n2 d2 : Int) (w : World) (h : both n1 d1 n2 d2 = false) :
    Calls Try.prog 55 #[.agg #[.int .i64 n1, .int .i64 d1], .agg #[.int .i64 n2, .int .i64 d2]] w (Ret (.int .i64 (cmpr n1 d1 n2 d2)) w) := by
  have HV : cmpr n1 d1 n2 d2 = if n1 = n2 then cmpv d1 d2 else cmpv n1 n2 := by unfold cmpr; rw [if_neg (by rw [h]; decide)]
  unfold both at h
  obtain ⟨x1, x2, y1, y2⟩ : ∃ x1 x2, vld n1 d1 = x1 ∧ vld n2 d2 = x2 := ⟨_, _, rfl, rfl⟩
  rw [y1, y2] at h
  obtain ⟨cv, hcv⟩ : ∃ cv, cmpv n1 n2 = cv := ⟨_, rfl⟩
  have hcc := cmpv_cases n1 n2
  rw [hcv] at hcc
  by_cases hn : n1 = n2
  · have hc0 : (cv != 0) = false := by simp; omega
    have hne : (n1 != n2) = false := by simpa using hn
    rw [if_pos hn] at HV
    have HV := Lib.hid HV
    clear hn hcc
    cases x1
    · clear h
      go_enter Try.func55, Try.ntmps55
      go_wp2_with fail
      refine (valid_any _ _ _).mono ?_
      rintro e w1 ⟨rfl, hb1⟩
      have Bt := hb1.mono (B' := w.heap.size + 2) (by simp)
      obtain ⟨c0, c1, c2, c3, c4⟩ := cells2 Bt
      go_wp2_with (go_at_call 56; refine (cmp45 _ _ _).mono ?_; rintro e w5 ⟨rfl, rfl⟩)
      go_ret
      exact ⟨by first | (rw [HV.out]; done) | (rw [HV.out]; rfl), (below2 _ _ _).trans (Bt.mono (by omega))⟩
    · cases x2
      · clear h
        go_enter Try.func55, Try.ntmps55
        go_wp2_with fail
        refine (valid_any _ _ _).mono ?_
        rintro e w1 ⟨rfl, hb1⟩
        have Bt := hb1.mono (B' := w.heap.size + 2) (by simp)
        obtain ⟨c0, c1, c2, c3, c4⟩ := cells2 Bt
        go_wp2_with fail
        refine (valid_any _ _ _).mono ?_
        rintro e w2 ⟨rfl, hb2⟩
        have Bt := step Bt hb2 (by simp)
        clear c0 c1 c2 c3 c4
        obtain ⟨c0, c1, c2, c3, c4⟩ := cells2 Bt
        go_wp2_with (go_at_call 56; refine (cmp45 _ _ _).mono ?_; rintro e w5 ⟨rfl, rfl⟩)
        go_ret
        exact ⟨by first | (rw [HV.out]; done) | (rw [HV.out]; rfl), (below2 _ _ _).trans (Bt.mono (by omega))⟩
      · simp at h
  · have hc0 : (cv != 0) = true := by simp; omega
    have hne : (n1 != n2) = true := by simpa using hn
    rw [if_neg hn, hcv] at HV
    have HV := Lib.hid HV
    clear hn hcc
    cases x1
    · clear h
      go_enter Try.func55, Try.ntmps55
      go_wp2_with fail
      refine (valid_any _ _ _).mono ?_
      rintro e w1 ⟨rfl, hb1⟩
      have Bt := hb1.mono (B' := w.heap.size + 2) (by simp)
      obtain ⟨c0, c1, c2, c3, c4⟩ := cells2 Bt
      go_wp2_with (go_at_call 56; refine (cmp45 _ _ _).mono ?_; rintro e w5 ⟨rfl, rfl⟩)
      go_ret
      exact ⟨by first | (rw [HV.out]; done) | (rw [HV.out]; rfl), (below2 _ _ _).trans (Bt.mono (by omega))⟩
    · cases x2
      · clear h
        go_enter Try.func55, Try.ntmps55
        go_wp2_with fail
        refine (valid_any _ _ _).mono ?_
        rintro e w1 ⟨rfl, hb1⟩
        have Bt := hb1.mono (B' := w.heap.size + 2) (by simp)
        obtain ⟨c0, c1, c2, c3, c4⟩ := cells2 Bt
        go_wp2_with fail
        refine (valid_any _ _ _).mono ?_
        rintro e w2 ⟨rfl, hb2⟩
        have Bt := step Bt hb2 (by simp)
        clear c0 c1 c2 c3 c4
        obtain ⟨c0, c1, c2, c3, c4⟩ := cells2 Bt
        go_wp2_with (go_at_call 56; refine (cmp45 _ _ _).mono ?_; rintro e w5 ⟨rfl, rfl⟩)
        go_ret
        exact ⟨by first | (rw [HV.out]; done) | (rw [HV.out]; rfl), (below2 _ _ _).trans (Bt.mono (by omega))⟩
      · simp at h
set_option maxHeartbeats 8000000 in
theorem rcmp_ok (n1 d1 n2 d2 a b : Int) (w : World) (h : both n1 d1 n2 d2 = true) (hA : n1 * d2 = a) (hB : n2 * d1 = b) (p0 : -4611686014132420609 ≤ a) (p1 : a ≤ 4611686014132420609) (q0 : -4611686014132420609 ≤ b) (q1 : b ≤ 4611686014132420609) :
    Calls Try.prog 49 #[.agg #[.int .i64 n1, .int .i64 d1], .agg #[.int .i64 n2, .int .i64 d2]] w (Ret (.int .i64 (cmpr n1 d1 n2 d2)) w) := by
  have HV : Hid (cmpr n1 d1 n2 d2 = cmpv a b) := Lib.hid (by unfold cmpr; rw [if_pos h, hA, hB])
  unfold both at h
  simp only [Bool.and_eq_true] at h
  obtain ⟨v1, v2⟩ := h
  · go_enter Try.func49, Try.ntmps49
    go_wp2_with fail
    refine (rvalid_any _ _ _).mono ?_
    rintro e w1 ⟨rfl, hb1⟩
    have Bt := hb1.mono (B' := w.heap.size + 2) (by simp)
    obtain ⟨c0, c1, c2, c3, c4⟩ := cells2 Bt
    go_wp2_with fail
    refine (rvalid_any _ _ _).mono ?_
    rintro e w2 ⟨rfl, hb2⟩
    have Bt := step Bt hb2 (by simp)
    clear c0 c1 c2 c3 c4
    obtain ⟨c0, c1, c2, c3, c4⟩ := cells2 Bt
    go_wp2_with (go_at_call 71; refine (ord46 _ _ _).mono ?_; rintro e w5 ⟨rfl, rfl⟩)
    go_ret
    exact ⟨by first | (rw [HV.out]; done) | (rw [HV.out]; rfl), (below2 _ _ _).trans (Bt.mono (by omega))⟩
set_option maxHeartbeats 8000000 in
theorem rcmp_bad (n1 d1 n2 d2 : Int) (w : World) (h : both n1 d1 n2 d2 = false) :
    Calls Try.prog 49 #[.agg #[.int .i64 n1, .int .i64 d1], .agg #[.int .i64 n2, .int .i64 d2]] w (Ret (.int .i64 (cmpr n1 d1 n2 d2)) w) := by
  have HV : cmpr n1 d1 n2 d2 = if n1 = n2 then cmpv d1 d2 else cmpv n1 n2 := by unfold cmpr; rw [if_neg (by rw [h]; decide)]
  unfold both at h
  obtain ⟨x1, x2, y1, y2⟩ : ∃ x1 x2, vld n1 d1 = x1 ∧ vld n2 d2 = x2 := ⟨_, _, rfl, rfl⟩
  rw [y1, y2] at h
  obtain ⟨cv, hcv⟩ : ∃ cv, cmpv n1 n2 = cv := ⟨_, rfl⟩
  have hcc := cmpv_cases n1 n2
  rw [hcv] at hcc
  by_cases hn : n1 = n2
  · have hc0 : (cv != 0) = false := by simp; omega
    have hne : (n1 != n2) = false := by simpa using hn
    rw [if_pos hn] at HV
    have HV := Lib.hid HV
    clear hn hcc
    cases x1
    · clear h
      go_enter Try.func49, Try.ntmps49
      go_wp2_with fail
      refine (rvalid_any _ _ _).mono ?_
      rintro e w1 ⟨rfl, hb1⟩
      have Bt := hb1.mono (B' := w.heap.size + 2) (by simp)
      obtain ⟨c0, c1, c2, c3, c4⟩ := cells2 Bt
      go_wp2_with (go_at_call 71; refine (ord46 _ _ _).mono ?_; rintro e w5 ⟨rfl, rfl⟩)
      go_ret
      exact ⟨by first | (rw [HV.out]; done) | (rw [HV.out]; rfl), (below2 _ _ _).trans (Bt.mono (by omega))⟩
    · cases x2
      · clear h
        go_enter Try.func49, Try.ntmps49
        go_wp2_with fail
        refine (rvalid_any _ _ _).mono ?_
        rintro e w1 ⟨rfl, hb1⟩
        have Bt := hb1.mono (B' := w.heap.size + 2) (by simp)
        obtain ⟨c0, c1, c2, c3, c4⟩ := cells2 Bt
        go_wp2_with fail
        refine (rvalid_any _ _ _).mono ?_
        rintro e w2 ⟨rfl, hb2⟩
        have Bt := step Bt hb2 (by simp)
        clear c0 c1 c2 c3 c4
        obtain ⟨c0, c1, c2, c3, c4⟩ := cells2 Bt
        go_wp2_with (go_at_call 71; refine (ord46 _ _ _).mono ?_; rintro e w5 ⟨rfl, rfl⟩)
        go_ret
        exact ⟨by first | (rw [HV.out]; done) | (rw [HV.out]; rfl), (below2 _ _ _).trans (Bt.mono (by omega))⟩
      · simp at h
  · have hc0 : (cv != 0) = true := by simp; omega
    have hne : (n1 != n2) = true := by simpa using hn
    rw [if_neg hn, hcv] at HV
    have HV := Lib.hid HV
    clear hn hcc
    cases x1
    · clear h
      go_enter Try.func49, Try.ntmps49
      go_wp2_with fail
      refine (rvalid_any _ _ _).mono ?_
      rintro e w1 ⟨rfl, hb1⟩
      have Bt := hb1.mono (B' := w.heap.size + 2) (by simp)
      obtain ⟨c0, c1, c2, c3, c4⟩ := cells2 Bt
      go_wp2_with (go_at_call 71; refine (ord46 _ _ _).mono ?_; rintro e w5 ⟨rfl, rfl⟩)
      go_ret
      exact ⟨by first | (rw [HV.out]; done) | (rw [HV.out]; rfl), (below2 _ _ _).trans (Bt.mono (by omega))⟩
    · cases x2
      · clear h
        go_enter Try.func49, Try.ntmps49
        go_wp2_with fail
        refine (rvalid_any _ _ _).mono ?_
        rintro e w1 ⟨rfl, hb1⟩
        have Bt := hb1.mono (B' := w.heap.size + 2) (by simp)
        obtain ⟨c0, c1, c2, c3, c4⟩ := cells2 Bt
        go_wp2_with fail
        refine (rvalid_any _ _ _).mono ?_
        rintro e w2 ⟨rfl, hb2⟩
        have Bt := step Bt hb2 (by simp)
        clear c0 c1 c2 c3 c4
        obtain ⟨c0, c1, c2, c3, c4⟩ := cells2 Bt
        go_wp2_with (go_at_call 71; refine (ord46 _ _ _).mono ?_; rintro e w5 ⟨rfl, rfl⟩)
        go_ret
        exact ⟨by first | (rw [HV.out]; done) | (rw [HV.out]; rfl), (below2 _ _ _).trans (Bt.mono (by omega))⟩
      · simp at h
end Go.Proofs.Ythkhlhibhkdkkaa.Fr
