/- For every n, d and fraction v, New and Valid of package frac answer as the reference does, and what New returns is valid (1.1). -/
import Derived.Test.YtnmjenpeiafnkaaDoorExam
import Derived.Deep.RegionHeld3
import Derived.Deep.RegionWith
namespace Go.Proofs.YtnmjenpeiafnkaaDoor.Fr
open Go.ChangeShapes Go.WideShapes Go.ChangeAt Go.RowKit
set_option linter.unusedVariables false

theorem new_valid (n d : Int) (h : newE n d = 0) : vld (newN n d) (newD n d) = true := by
  have hd : d ≠ 0 := by
    intro h0; subst h0; revert h; unfold newE; rw [if_pos rfl]; decide
  unfold newE at h
  rw [if_neg hd] at h
  unfold newN newD
  rw [if_neg hd, if_neg hd]
  obtain ⟨m, hm, m0⟩ : ∃ m, (if n < 0 then -n else n) = m ∧ 0 ≤ m := ⟨_, rfl, by split <;> omega⟩
  obtain ⟨c, hc, c0⟩ : ∃ c, (if d < 0 then -d else d) = c ∧ 0 < c := ⟨_, rfl, by split <;> omega⟩
  rw [hm, hc] at h ⊢
  generalize (decide (n < 0) != decide (d < 0)) = s
  obtain ⟨g0, g1, a0, a1, b0, b1⟩ := gcd_facts m c m0 c0
  have hcop : Int.gcd (m / (Int.gcd m c : Int)) (c / (Int.gcd m c : Int)) = 1 := by
    rw [Int.gcd_ediv (Int.gcd_dvd_left m c) (Int.gcd_dvd_right m c), Int.natAbs_natCast, Nat.div_self (by omega)]
  unfold lowE at h
  unfold lowN lowD
  have hk : ¬ (2147483647 < m / (Int.gcd m c : Int) ∨ 2147483647 < c / (Int.gcd m c : Int)) := by
    intro hk; rw [if_pos hk] at h; revert h; decide
  rw [if_neg hk, if_neg hk]
  unfold vld
  rw [decide_eq_true_eq]
  cases s
  · exact ⟨by omega, by omega, by simp only [Bool.false_eq_true, ↓reduceIte]; omega, by simp only [Bool.false_eq_true, ↓reduceIte]; omega, by simpa using hcop⟩
  · exact ⟨by omega, by omega, by simp only [↓reduceIte]; omega, by simp only [↓reduceIte]; omega, by simp only [↓reduceIte]; rw [Int.neg_gcd]; exact hcop⟩

set_option maxHeartbeats 4000000 in
theorem law_new (n d p q x y e : Int) (w : World) (b c : Bool)
    (N1 : Hid (∀ w, Calls Tryd.prog 12 #[.int .i64 n, .int .i64 d] w (Ret (Frac3 x y e) w)))
    (N2 : Hid (∀ w, Calls Tryd.prog 13 #[.int .i64 n, .int .i64 d] w (Ret (Frac3 x y e) w)))
    (V1 : Hid (∀ w, Calls Tryd.prog 14 #[.agg #[.int .i64 p, .int .i64 q]] w (Ret (.bool b) w)))
    (V2 : Hid (∀ w, Calls Tryd.prog 15 #[.agg #[.int .i64 p, .int .i64 q]] w (Ret (.bool b) w)))
    (V3 : Hid (∀ w, Calls Tryd.prog 14 #[.agg #[.int .i64 x, .int .i64 y]] w (Ret (.bool c) w)))
    (EX : Hid (∀ w, Calls Tryd.prog 16 #[] w (Ret (.bool true) w)))
    (he : ((e != 0) = true) ∨ ((e != 0) = false ∧ c = true)) :
    Calls Tryd.prog 3 #[.int .i64 n, .int .i64 d, .agg #[.int .i64 p, .int .i64 q]] w fun e w' => e = .returned (.bool true) ∧ Below w.heap.size w w' := by
  rcases he with he | ⟨he, rfl⟩
  · go_enter Tryd.func3, Tryd.ntmps3
    go_wp2_with fail
    refine (N1.out _).mono ?_
    rintro e w1 ⟨rfl, h1⟩
    have K1 : Below w.heap.size w w1 := ((Below.refl _ _).alloc (Nat.le_refl _) _).trans (h1.mono (by simp))
    have s1 : w.heap.size < w1.heap.size := by
      have := h1.size
      simp at this
      omega
    have a0 := keep h1 (b := w.heap.size) (o := 0) (v := .int .i64 p) (by simp) (by go_cell)
    have a1 := keep h1 (b := w.heap.size) (o := 1) (v := .int .i64 q) (by simp) (by go_cell)
    clear h1
    go_wp2_with fail
    refine (N2.out _).mono ?_
    rintro e w2 ⟨rfl, h2⟩
    have hy : Below w1.heap.size w1 w2 := ((Below.refl _ _).alloc (Nat.le_refl _) _).trans (h2.mono (by simp))
    have K2 : Below w.heap.size w w2 := K1.trans (hy.mono (by omega))
    have s2 : w.heap.size < w2.heap.size := Nat.lt_of_lt_of_le s1 hy.size
    have r2 : w1.heap.size < w2.heap.size := by
      have := h2.size
      simp at this
      omega
    have a2 := keep hy s1 a0
    have a3 := keep hy s1 a1
    have b0 := keep h2 (b := w1.heap.size) (o := 0) (v := .int .i64 x) (by simp) (by go_cell)
    have b1 := keep h2 (b := w1.heap.size) (o := 1) (v := .int .i64 y) (by simp) (by go_cell)
    clear h2 hy a0 a1 K1 s1
    generalize w1.heap.size = p1 at *
    have K3 : Below w.heap.size w (w2.alloc (.cells #[.int .i64 x, .int .i64 y] 23)) := K2.alloc (by omega) _
    have hy : Below w2.heap.size w2 (w2.alloc (.cells #[.int .i64 x, .int .i64 y] 23)) := (Below.refl _ _).alloc (Nat.le_refl _) _
    have a0 := keep hy s2 a2
    have a1 := keep hy s2 a3
    have b2 := keep hy r2 b0
    have b3 := keep hy r2 b1
    have c0 : (w2.alloc (.cells #[.int .i64 x, .int .i64 y] 23)).cell? ⟨w2.heap.size, 0, none⟩ = some (.int .i64 x) := by go_cell
    have c1 : (w2.alloc (.cells #[.int .i64 x, .int .i64 y] 23)).cell? ⟨w2.heap.size, 1, none⟩ = some (.int .i64 y) := by go_cell
    have t0 : w.heap.size < (w2.alloc (.cells #[.int .i64 x, .int .i64 y] 23)).heap.size := by simp; omega
    have t1 : p1 < (w2.alloc (.cells #[.int .i64 x, .int .i64 y] 23)).heap.size := by simp; omega
    have t2 : w2.heap.size < (w2.alloc (.cells #[.int .i64 x, .int .i64 y] 23)).heap.size := by simp
    clear hy a2 a3 b0 b1
    go_wp2_with fail
    generalize w2.alloc (.cells #[.int .i64 x, .int .i64 y] 23) = z at *
    generalize w2.heap.size = p2 at *
    clear K2 s2 r2
    have HS : Hid (∀ w', Below z.heap.size z w' → w'.cell? ⟨w.heap.size, 0, none⟩ = some (.int .i64 p) ∧ w'.cell? ⟨w.heap.size, 1, none⟩ = some (.int .i64 q) ∧ w'.cell? ⟨p1, 0, none⟩ = some (.int .i64 x) ∧ w'.cell? ⟨p1, 1, none⟩ = some (.int .i64 y) ∧ w'.cell? ⟨p2, 0, none⟩ = some (.int .i64 x) ∧ w'.cell? ⟨p2, 1, none⟩ = some (.int .i64 y) ∧ Below z.heap.size z w') := Lib.hid (fun w' h => ⟨keep h t0 a0, keep h t0 a1, keep h t1 b2, keep h t1 b3, keep h t2 c0, keep h t2 c1, h⟩)
    go_region_with (first | (go_at_call 14; ((with_reducible refine (V1.out _).mono ?_); rintro e u ⟨rfl, hb⟩); have jB : Below z.heap.size z u := (by first | exact step (Below.drew (Below.refl _ _)) hb (Nat.le_refl _) | exact step (by assumption) hb (Nat.le_refl _)); obtain ⟨i0, i1, i2, i3, i4, i5, _⟩ := HS.out u jB) | (go_at_call 15; ((with_reducible refine (V2.out _).mono ?_); rintro e u ⟨rfl, hb⟩); have jB : Below z.heap.size z u := (by first | exact step (Below.drew (Below.refl _ _)) hb (Nat.le_refl _) | exact step (by assumption) hb (Nat.le_refl _)); obtain ⟨i0, i1, i2, i3, i4, i5, _⟩ := HS.out u jB) | (go_at_call 16; ((with_reducible refine (EX.out _).mono ?_); rintro e u ⟨rfl, hb⟩); have jB : Below z.heap.size z u := (by first | exact step (Below.drew (Below.refl _ _)) hb (Nat.le_refl _) | exact step (by assumption) hb (Nat.le_refl _)); obtain ⟨i0, i1, i2, i3, i4, i5, _⟩ := HS.out u jB))
    all_goals
      clear HS
      go_wp2
      go_ret
      exact ⟨rfl, K3.trans (jB.mono (by omega))⟩
  · go_enter Tryd.func3, Tryd.ntmps3
    go_wp2_with fail
    refine (N1.out _).mono ?_
    rintro e w1 ⟨rfl, h1⟩
    have K1 : Below w.heap.size w w1 := ((Below.refl _ _).alloc (Nat.le_refl _) _).trans (h1.mono (by simp))
    have s1 : w.heap.size < w1.heap.size := by
      have := h1.size
      simp at this
      omega
    have a0 := keep h1 (b := w.heap.size) (o := 0) (v := .int .i64 p) (by simp) (by go_cell)
    have a1 := keep h1 (b := w.heap.size) (o := 1) (v := .int .i64 q) (by simp) (by go_cell)
    clear h1
    go_wp2_with fail
    refine (N2.out _).mono ?_
    rintro e w2 ⟨rfl, h2⟩
    have hy : Below w1.heap.size w1 w2 := ((Below.refl _ _).alloc (Nat.le_refl _) _).trans (h2.mono (by simp))
    have K2 : Below w.heap.size w w2 := K1.trans (hy.mono (by omega))
    have s2 : w.heap.size < w2.heap.size := Nat.lt_of_lt_of_le s1 hy.size
    have r2 : w1.heap.size < w2.heap.size := by
      have := h2.size
      simp at this
      omega
    have a2 := keep hy s1 a0
    have a3 := keep hy s1 a1
    have b0 := keep h2 (b := w1.heap.size) (o := 0) (v := .int .i64 x) (by simp) (by go_cell)
    have b1 := keep h2 (b := w1.heap.size) (o := 1) (v := .int .i64 y) (by simp) (by go_cell)
    clear h2 hy a0 a1 K1 s1
    generalize w1.heap.size = p1 at *
    have K3 : Below w.heap.size w (w2.alloc (.cells #[.int .i64 x, .int .i64 y] 23)) := K2.alloc (by omega) _
    have hy : Below w2.heap.size w2 (w2.alloc (.cells #[.int .i64 x, .int .i64 y] 23)) := (Below.refl _ _).alloc (Nat.le_refl _) _
    have a0 := keep hy s2 a2
    have a1 := keep hy s2 a3
    have b2 := keep hy r2 b0
    have b3 := keep hy r2 b1
    have c0 : (w2.alloc (.cells #[.int .i64 x, .int .i64 y] 23)).cell? ⟨w2.heap.size, 0, none⟩ = some (.int .i64 x) := by go_cell
    have c1 : (w2.alloc (.cells #[.int .i64 x, .int .i64 y] 23)).cell? ⟨w2.heap.size, 1, none⟩ = some (.int .i64 y) := by go_cell
    have t0 : w.heap.size < (w2.alloc (.cells #[.int .i64 x, .int .i64 y] 23)).heap.size := by simp; omega
    have t1 : p1 < (w2.alloc (.cells #[.int .i64 x, .int .i64 y] 23)).heap.size := by simp; omega
    have t2 : w2.heap.size < (w2.alloc (.cells #[.int .i64 x, .int .i64 y] 23)).heap.size := by simp
    clear hy a2 a3 b0 b1
    go_wp2_with fail
    generalize w2.alloc (.cells #[.int .i64 x, .int .i64 y] 23) = z at *
    generalize w2.heap.size = p2 at *
    clear K2 s2 r2
    have HS : Hid (∀ w', Below z.heap.size z w' → w'.cell? ⟨w.heap.size, 0, none⟩ = some (.int .i64 p) ∧ w'.cell? ⟨w.heap.size, 1, none⟩ = some (.int .i64 q) ∧ w'.cell? ⟨p1, 0, none⟩ = some (.int .i64 x) ∧ w'.cell? ⟨p1, 1, none⟩ = some (.int .i64 y) ∧ w'.cell? ⟨p2, 0, none⟩ = some (.int .i64 x) ∧ w'.cell? ⟨p2, 1, none⟩ = some (.int .i64 y) ∧ Below z.heap.size z w') := Lib.hid (fun w' h => ⟨keep h t0 a0, keep h t0 a1, keep h t1 b2, keep h t1 b3, keep h t2 c0, keep h t2 c1, h⟩)
    clear a0 a1 b2 b3 c0 c1 t1 t2
    go_region_held3 (fun w' => w'.cell? ⟨w.heap.size, 0, none⟩ = some (.int .i64 p) ∧ w'.cell? ⟨w.heap.size, 1, none⟩ = some (.int .i64 q) ∧ w'.cell? ⟨p1, 0, none⟩ = some (.int .i64 x) ∧ w'.cell? ⟨p1, 1, none⟩ = some (.int .i64 y) ∧ w'.cell? ⟨p2, 0, none⟩ = some (.int .i64 x) ∧ w'.cell? ⟨p2, 1, none⟩ = some (.int .i64 y) ∧ Below z.heap.size z w') (first | exact HS.out _ (by assumption) | exact HS.out _ (Below.drew (Below.refl _ _)) | exact HS.out _ (Below.refl _ _) | exact HS.out _ (Below.drew (by assumption)))
      (first | (go_at_call 14; obtain ⟨_, _, _, _, _, _, iB⟩ := ‹_ ∧ _ ∧ _ ∧ _ ∧ _ ∧ _ ∧ Below _ _ _›; ((with_reducible refine (V1.out _).mono ?_); rintro e u ⟨rfl, hb⟩); have jB := iB.trans (hb.mono iB.size)) | (go_at_call 14; obtain ⟨_, _, _, _, _, _, iB⟩ := ‹_ ∧ _ ∧ _ ∧ _ ∧ _ ∧ _ ∧ Below _ _ _›; ((with_reducible refine (V3.out _).mono ?_); rintro e u ⟨rfl, hb⟩); have jB := iB.trans (hb.mono iB.size)) | (go_at_call 15; obtain ⟨_, _, _, _, _, _, iB⟩ := ‹_ ∧ _ ∧ _ ∧ _ ∧ _ ∧ _ ∧ Below _ _ _›; ((with_reducible refine (V2.out _).mono ?_); rintro e u ⟨rfl, hb⟩); have jB := iB.trans (hb.mono iB.size)) | (go_at_call 16; obtain ⟨_, _, _, _, _, _, iB⟩ := ‹_ ∧ _ ∧ _ ∧ _ ∧ _ ∧ _ ∧ Below _ _ _›; ((with_reducible refine (EX.out _).mono ?_); rintro e u ⟨rfl, hb⟩); have jB := iB.trans (hb.mono iB.size)))
    clear HS
    go_wp2
    go_ret
    exact ⟨rfl, K3.trans ((jB).mono (by omega))⟩
end Go.Proofs.YtnmjenpeiafnkaaDoor.Fr
