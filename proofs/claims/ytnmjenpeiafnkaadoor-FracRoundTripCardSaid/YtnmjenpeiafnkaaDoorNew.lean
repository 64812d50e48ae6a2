/- New of package frac, for every two integers. -/
import Derived.Test.YtnmjenpeiafnkaaDoorLow
namespace Go.Proofs.YtnmjenpeiafnkaaDoor.Fr
open Go.ChangeShapes Go.WideShapes Go.ChangeAt Go.RowKit
set_option linter.unusedVariables false

def newN (n d : Int) : Int := if d = 0 then 0 else lowN (decide (n < 0) != decide (d < 0)) (if n < 0 then -n else n) (if d < 0 then -d else d)
def newD (n d : Int) : Int := if d = 0 then 0 else lowD (if n < 0 then -n else n) (if d < 0 then -d else d)
def newE (n d : Int) : Int := if d = 0 then 4 else lowE (if n < 0 then -n else n) (if d < 0 then -d else d)
set_option maxHeartbeats 4000000 in
theorem new_any (n d : Int) (w : World) (n0 : -9223372036854775808 ≤ n) (n1 : n ≤ 9223372036854775807) (d0 : -9223372036854775808 ≤ d) (d1 : d ≤ 9223372036854775807) :
    Calls Tryd.prog 12 #[.int .i64 n, .int .i64 d] w (Ret (Frac3 (newN n d) (newD n d) (newE n d)) w) := by
  by_cases hd : d = 0
  · subst hd
    have e1 : newN n 0 = 0 := rfl
    have e2 : newD n 0 = 0 := rfl
    have e3 : newE n 0 = 4 := rfl
    rw [e1, e2, e3]
    clear e1 e2 e3
    go_enter Tryd.func12, Tryd.ntmps12
    go_wp2
    go_returns
    refine ⟨rfl, ?_⟩
    repeat' (first | (with_reducible exact Below.refl _ _) | (with_reducible refine below_drewN ?_ _) | (with_reducible refine Below.drew ?_) | (with_reducible refine Below.alloc ?_ ?_ _) | (with_reducible refine Below.setCell ?_ ?_ _) | (with_reducible assumption) | (simp; done) | (simp; omega) | omega)
  · have hz : (d == 0) = false := by simpa using hd
    obtain ⟨x, y, hx, hy⟩ : ∃ x y, decide (n < 0) = x ∧ decide (d < 0) = y := ⟨_, _, rfl, rfl⟩
    obtain ⟨m, hm, m0, m1⟩ : ∃ m, (if n < 0 then -n else n) = m ∧ 0 ≤ m ∧ m ≤ 9223372036854775808 := ⟨_, rfl, by split <;> omega, by split <;> omega⟩
    obtain ⟨c, hc, c0, c1⟩ : ∃ c, (if d < 0 then -d else d) = c ∧ 1 ≤ c ∧ c ≤ 9223372036854775808 := ⟨_, rfl, by split <;> omega, by split <;> omega⟩
    have e1 : newN n d = lowN (x != y) m c := by unfold newN; rw [if_neg hd, hx, hy, hm, hc]
    have e2 : newD n d = lowD m c := by unfold newD; rw [if_neg hd, hm, hc]
    have e3 : newE n d = lowE m c := by unfold newE; rw [if_neg hd, hm, hc]
    rw [e1, e2, e3]
    have hx1 : x = true → n < 0 ∧ m = -n := fun h => by
      have h1 : n < 0 := by rw [h] at hx; simpa using hx
      exact ⟨h1, by rw [if_pos h1] at hm; exact hm.symm⟩
    have hx2 : x = false → 0 ≤ n ∧ m = n := fun h => by
      have h1 : 0 ≤ n := by rw [h] at hx; simpa using hx
      exact ⟨h1, by rw [if_neg (by omega)] at hm; exact hm.symm⟩
    have hy1 : y = true → d < 0 ∧ c = -d := fun h => by
      have h1 : d < 0 := by rw [h] at hy; simpa using hy
      exact ⟨h1, by rw [if_pos h1] at hc; exact hc.symm⟩
    have hy2 : y = false → 0 < d ∧ c = d := fun h => by
      have h1 : 0 ≤ d := by rw [h] at hy; simpa using hy
      exact ⟨by omega, by rw [if_neg (by omega)] at hc; exact hc.symm⟩
    have LW := Lib.hid (fun b (w : World) => low_any b m c w m0 m1 c0 c1)
    clear e1 e2 e3 hm hc
    cases x <;> cases y
    all_goals
      (first | obtain ⟨h1, rfl⟩ := hx1 rfl | obtain ⟨h1, rfl⟩ := hx2 rfl)
      (first | obtain ⟨h2, rfl⟩ := hy1 rfl | obtain ⟨h2, rfl⟩ := hy2 rfl)
      clear hx1 hx2 hy1 hy2
      go_enter Tryd.func12, Tryd.ntmps12
      go_wp2_with (first | (go_at_call 40; refine (fmag_pos _ _ (by omega) (by omega)).mono ?_; rintro e w1 ⟨rfl, rfl⟩) | (go_at_call 40; refine (fmag_neg _ _ (by omega) (by omega)).mono ?_; rintro e w1 ⟨rfl, rfl⟩) | (go_at_call 39; refine (LW.out _ _).mono ?_; rintro e w1 ⟨rfl, hb⟩; have hc := (bcell hb).1; have hf := (bcell hb).2))
      refine bodyPost_ret (v := Frac3 _ _ _) (by simp [results, Tryd.results12, go_sem, hc]) rfl ⟨rfl, ?_⟩
      refine Below.setCell (Below.setCell ?_ (by simp) _) (by simp) _
      exact ((Below.refl _ _).alloc (Nat.le_refl _) _).trans (hb.mono (by simp))
end Go.Proofs.YtnmjenpeiafnkaaDoor.Fr
