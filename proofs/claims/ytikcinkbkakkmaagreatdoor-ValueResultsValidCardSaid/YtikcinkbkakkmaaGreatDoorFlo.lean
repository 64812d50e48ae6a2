/- Floor, Ceil and Neg of package frac and of the reference. -/
import Derived.Test.YtikcinkbkakkmaaGreatDoorGK

namespace Go.Proofs.YtikcinkbkakkmaaGreatDoor.Fr
open Go.ChangeShapes Go.WideShapes Go.ChangeAt Go.RowKit
set_option linter.unusedVariables false
set_option linter.unusedSimpArgs false
/-- The floor of n/d by Go's quotient and remainder. -/
theorem floor_eq (n d : Int) (hd : 0 < d) : (n.tmod d < 0 → n / d = n.tdiv d - 1 ∧ n < n.tdiv d * d) ∧ (¬ n.tmod d < 0 → n / d = n.tdiv d ∧ n.tdiv d * d ≤ n) := by
  have h1 := Int.mul_tdiv_add_tmod n d
  have h2 := Int.emod_nonneg n (by omega : d ≠ 0)
  have h3 := Int.emod_lt_of_pos n hd
  have h4 := Int.mul_ediv_add_emod n d
  have h5 : (n.tmod d).natAbs < d.natAbs := by
    rw [Int.natAbs_tmod]; exact Nat.mod_lt _ (by omega)
  obtain ⟨q, hq⟩ : ∃ q, n.tdiv d = q := ⟨_, rfl⟩
  obtain ⟨r, hr⟩ : ∃ r, n.tmod d = r := ⟨_, rfl⟩
  obtain ⟨p, hp⟩ : ∃ p, n / d = p := ⟨_, rfl⟩
  obtain ⟨s, hs⟩ : ∃ s, n % d = s := ⟨_, rfl⟩
  rw [hq, hr] at h1
  rw [hp, hs] at h4
  rw [hs] at h2 h3
  rw [hr] at h5
  rw [hq, hr, hp]
  have key : ∀ a b : Int, d * a ≤ d * b + (d - 1) → a ≤ b := by
    intro a b hab
    by_cases hlt : a ≤ b
    · exact hlt
    · have := Int.mul_le_mul_of_nonneg_left (by omega : b + 1 ≤ a) (by omega : 0 ≤ d)
      rw [Int.mul_add, Int.mul_one] at this
      omega
  have hqd : q * d = d * q := Int.mul_comm _ _
  constructor
  · intro hlt
    have a1 := key p (q - 1) (by rw [Int.mul_sub, Int.mul_one]; omega)
    have a2 := key (q - 1) p (by rw [Int.mul_sub, Int.mul_one]; omega)
    exact ⟨by omega, by omega⟩
  · intro hge
    have a1 := key p q (by omega)
    have a2 := key q p (by omega)
    exact ⟨by omega, by omega⟩
theorem tdiv_bound (n d : Int) (hd : 0 < d) : -(n.natAbs : Int) ≤ n.tdiv d ∧ n.tdiv d ≤ n.natAbs := by
  have h : (n.tdiv d).natAbs ≤ n.natAbs := by
    rw [Int.natAbs_tdiv]; exact Nat.div_le_self _ _
  omega
theorem vld_of {n d : Int} (h : vld n d = true) : 1 ≤ d ∧ d ≤ 2147483647 ∧ -2147483647 ≤ n ∧ n ≤ 2147483647 ∧ Int.gcd n d = 1 := by
  unfold vld at h
  simpa using h
theorem ret1 {k : IntKind} {a b : Int} (h : a = b) : Ending.returned (.int k a) = .returned (.int k b) := by rw [h]
set_option maxHeartbeats 1000000 in
theorem fldiv (n d : Int) (w : World) (n0 : -4294967296 ≤ n) (n1 : n ≤ 4294967296) (d0 : 1 ≤ d) (d1 : d ≤ 2147483647) :
    Calls Tryz.prog 92 #[.int .i64 n, .int .i64 d] w fun e w' => e = .returned (.int .i64 (n / d)) ∧ w = w' := by
  have F := floor_eq n d (by omega)
  have B := tdiv_bound n d (by omega)
  have dz : (d == 0) = false := by simp; omega
  have dm : (d == -1) = false := by simp; omega
  rcases (by omega : 0 ≤ n ∨ n < 0) with hn | hn
  · have h1 := Int.emod_nonneg n (by omega : d ≠ 0)
    have h2 := Int.ediv_nonneg hn (by omega : 0 ≤ d)
    have h3 := Int.ediv_le_self d hn
    clear F B
    go_enter Tryz.func92, Tryz.ntmps92
    go_wp2
    go_ret
    exact ⟨rfl, rfl⟩
  · obtain ⟨q, hq⟩ : ∃ q, n.tdiv d = q := ⟨_, rfl⟩
    obtain ⟨r, hr⟩ : ∃ r, n.tmod d = r := ⟨_, rfl⟩
    rw [hq, hr] at F
    rw [hq] at B
    obtain ⟨c, hc⟩ : ∃ c, decide (r < 0) = c := ⟨_, rfl⟩
    have H : n / d = if c then q - 1 else q := by
      subst hc
      by_cases h : r < 0
      · rw [decide_eq_true h, if_pos rfl]; exact (F.1 h).1
      · rw [decide_eq_false h, if_neg (by decide)]; exact (F.2 h).1
    have HH := Lib.hid H
    have b0 : -5000000000 ≤ q := by omega
    have b1 : q ≤ 5000000000 := by omega
    clear F H B
    cases c
    all_goals
      go_enter Tryz.func92, Tryz.ntmps92
      go_wp2
      go_ret
      exact ⟨ret1 (by first | exact HH.out.symm | rfl), rfl⟩
theorem cells1 {w w1 : World} {n d : Int} (h : Below (w.heap.size + 1) (w.alloc (.cells #[.int .i64 n, .int .i64 d] 25)) w1) :
    w1.cell? ⟨w.heap.size, 0, none⟩ = some (.int .i64 n) ∧ w1.cell? ⟨w.heap.size, 1, none⟩ = some (.int .i64 d) ∧ w.heap.size + 1 ≤ w1.heap.size := by
  have s := h.size
  simp at s
  refine ⟨?_, ?_, by omega⟩
  · rw [h.cell (p := ⟨w.heap.size, 0, none⟩) (show w.heap.size < w.heap.size + 1 by omega)]; go_cell
  · rw [h.cell (p := ⟨w.heap.size, 1, none⟩) (show w.heap.size < w.heap.size + 1 by omega)]; go_cell
def flo (n d : Int) : Int := if vld n d then n / d else 0
def cei (n d : Int) : Int := if vld n d then -((-n) / d) else 0
def ngN (n d : Int) : Int := if vld n d then -n else 0
def ngD (n d : Int) : Int := if vld n d then d else 0
theorem vld_neg (n d : Int) : vld (-n) d = vld n d := by
  unfold vld
  rw [Int.neg_gcd]
  congr 1
  apply propext
  constructor <;> (intro h; omega)
set_option maxHeartbeats 2000000 in
theorem floor_any (n d : Int) (w : World) : Calls Tryz.prog 56 #[.agg #[.int .i64 n, .int .i64 d]] w (Ret (.int .i64 (flo n d)) w) := by
  obtain ⟨x, hx⟩ : ∃ x, vld n d = x := ⟨_, rfl⟩
  cases x
  · have e : flo n d = 0 := by unfold flo; rw [hx]; rfl
    rw [e]
    clear e
    go_enter Tryz.func56, Tryz.ntmps56
    go_wp2_with fail
    refine (valid_any _ _ _).mono ?_
    rintro e w1 ⟨rfl, hb1⟩
    go_wp2
    go_ret
    exact ⟨rfl, ((Below.refl _ _).alloc (Nat.le_refl _) _).trans (hb1.mono (by simp))⟩
  · obtain ⟨d0, d1, n0, n1, _⟩ := vld_of hx
    have e : flo n d = n / d := by unfold flo; rw [hx]; rfl
    rw [e]
    have FD := Lib.hid (fun w => fldiv n d w (by omega) (by omega) d0 d1)
    clear e
    go_enter Tryz.func56, Tryz.ntmps56
    go_wp2_with fail
    refine (valid_any _ _ _).mono ?_
    rintro e w1 ⟨rfl, hb1⟩
    obtain ⟨c0, c1, z1⟩ := cells1 (hb1.mono (by simp))
    go_wp2_with (go_at_call 92; refine (FD.out _).mono ?_; rintro e w2 ⟨rfl, rfl⟩)
    go_ret
    exact ⟨rfl, ((Below.refl _ _).alloc (Nat.le_refl _) _).trans (hb1.mono (by simp))⟩
set_option maxHeartbeats 2000000 in
theorem neg_any (n d : Int) (w : World) : Calls Tryz.prog 65 #[.agg #[.int .i64 n, .int .i64 d]] w (Ret (.agg #[.int .i64 (ngN n d), .int .i64 (ngD n d)]) w) := by
  obtain ⟨x, hx⟩ : ∃ x, vld n d = x := ⟨_, rfl⟩
  have e1 : ngN n d = if x then -n else 0 := by unfold ngN; rw [hx]
  have e2 : ngD n d = if x then d else 0 := by unfold ngD; rw [hx]
  rw [e1, e2]
  clear e1 e2
  have hb : x = true → -2147483647 ≤ n ∧ n ≤ 2147483647 := fun h => by
    rw [h] at hx; obtain ⟨d0, d1, n0, n1, _⟩ := vld_of hx; exact ⟨n0, n1⟩
  cases x
  all_goals
    try (have hn0 := (hb rfl).1; have hn1 := (hb rfl).2)
    clear hb
    simp only [Bool.false_eq_true, ↓reduceIte]
    go_enter Tryz.func65, Tryz.ntmps65
    go_wp2_with fail
    refine (valid_any _ _ _).mono ?_
    rintro e w1 ⟨rfl, hb1⟩
    have Bt : Below (w.heap.size + 2) ((w.alloc (.cells #[.int .i64 n, .int .i64 d] 25)).alloc (.cells #[.int .i64 0, .int .i64 0] 25)) w1 := hb1.mono (by simp)
    have z := Bt.size
    simp at z
    have c0 := Bt.cell (p := ⟨w.heap.size, 0, none⟩) (show w.heap.size < w.heap.size + 2 by omega)
    have c1 := Bt.cell (p := ⟨w.heap.size, 1, none⟩) (show w.heap.size < w.heap.size + 2 by omega)
    have c2 := Bt.cell (p := ⟨w.heap.size + 1, 0, none⟩) (show w.heap.size + 1 < w.heap.size + 2 by omega)
    have c3 := Bt.cell (p := ⟨w.heap.size + 1, 1, none⟩) (show w.heap.size + 1 < w.heap.size + 2 by omega)
    have f2 := Bt.frozen (p := ⟨w.heap.size + 1, 0, none⟩) (show w.heap.size + 1 < w.heap.size + 2 by omega)
    have f3 := Bt.frozen (p := ⟨w.heap.size + 1, 1, none⟩) (show w.heap.size + 1 < w.heap.size + 2 by omega)
    simp at c0 c1 c2 c3 f2 f3
    go_wp2
    refine bodyPost_ret (v := .agg #[.int .i64 _, .int .i64 _]) (by simp [results, Tryz.results65, go_sem, c2, c3]) rfl ⟨rfl, ?_⟩
    refine Below.setCell (Below.setCell ?_ (by simp <;> omega) _) (by simp <;> omega) _
    exact (((Below.refl _ _).alloc (Nat.le_refl _) _).alloc (by simp) _).trans (Bt.mono (by omega))
set_option maxHeartbeats 2000000 in
theorem rneg_any (n d : Int) (w : World) : Calls Tryz.prog 37 #[.agg #[.int .i64 n, .int .i64 d]] w (Ret (.agg #[.int .i64 (ngN n d), .int .i64 (ngD n d)]) w) := by
  obtain ⟨x, hx⟩ : ∃ x, vld n d = x := ⟨_, rfl⟩
  have e1 : ngN n d = if x then -n else 0 := by unfold ngN; rw [hx]
  have e2 : ngD n d = if x then d else 0 := by unfold ngD; rw [hx]
  rw [e1, e2]
  clear e1 e2
  have hb : x = true → -2147483647 ≤ n ∧ n ≤ 2147483647 := fun h => by
    rw [h] at hx; obtain ⟨d0, d1, n0, n1, _⟩ := vld_of hx; exact ⟨n0, n1⟩
  cases x
  all_goals
    try (have hn0 := (hb rfl).1; have hn1 := (hb rfl).2)
    clear hb
    simp only [Bool.false_eq_true, ↓reduceIte]
    go_enter Tryz.func37, Tryz.ntmps37
    go_wp2_with fail
    refine (rvalid_any _ _ _).mono ?_
    rintro e w1 ⟨rfl, hb1⟩
    have Bt : Below (w.heap.size + 2) ((w.alloc (.cells #[.int .i64 n, .int .i64 d] 25)).alloc (.cells #[.int .i64 0, .int .i64 0] 25)) w1 := hb1.mono (by simp)
    have z := Bt.size
    simp at z
    have c0 := Bt.cell (p := ⟨w.heap.size, 0, none⟩) (show w.heap.size < w.heap.size + 2 by omega)
    have c1 := Bt.cell (p := ⟨w.heap.size, 1, none⟩) (show w.heap.size < w.heap.size + 2 by omega)
    have c2 := Bt.cell (p := ⟨w.heap.size + 1, 0, none⟩) (show w.heap.size + 1 < w.heap.size + 2 by omega)
    have c3 := Bt.cell (p := ⟨w.heap.size + 1, 1, none⟩) (show w.heap.size + 1 < w.heap.size + 2 by omega)
    have f2 := Bt.frozen (p := ⟨w.heap.size + 1, 0, none⟩) (show w.heap.size + 1 < w.heap.size + 2 by omega)
    have f3 := Bt.frozen (p := ⟨w.heap.size + 1, 1, none⟩) (show w.heap.size + 1 < w.heap.size + 2 by omega)
    simp at c0 c1 c2 c3 f2 f3
    go_wp2
    refine bodyPost_ret (v := .agg #[.int .i64 _, .int .i64 _]) (by simp [results, Tryz.results37, go_sem, c2, c3]) rfl ⟨rfl, ?_⟩
    refine Below.setCell (Below.setCell ?_ (by simp <;> omega) _) (by simp <;> omega) _
    exact (((Below.refl _ _).alloc (Nat.le_refl _) _).alloc (by simp) _).trans (Bt.mono (by omega))
end Go.Proofs.YtikcinkbkakkmaaGreatDoor.Fr
