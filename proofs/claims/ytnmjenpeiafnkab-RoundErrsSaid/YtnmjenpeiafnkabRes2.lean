/- Residual of the reference. -/
import Derived.Test.YtnmjenpeiafnkabRes0
namespace Go.Proofs.Ytnmjenpeiafnkab.Fr
open Go.ChangeShapes Go.WideShapes Go.ChangeAt Go.RowKit
set_option linter.unusedVariables false

set_option maxHeartbeats 8000000 in
theorem rres_ok (n d frac how p T q S X Y : Int) (w : World) (f0 : 0 ≤ frac) (f1 : frac ≤ 30) (hp : (2 : Int) ^ frac.toNat = p) (p0 : 1 ≤ p) (p1 : p ≤ 1073741824) (hT : n * p = T) (t0 : -2305843009213693952 ≤ T) (t1 : T ≤ 2305843009213693952)
    (hS : q * d = S) (s0 : -2305843011361177600 ≤ S) (s1 : S ≤ 2305843011361177600) (hY : d * p = Y) (y0 : 1 ≤ Y) (y1 : Y ≤ 2305843009213693952) (hX : T - S = X)
    (Q : Hid (∀ w, Calls Try.prog 15 #[.agg #[.int .i64 n, .int .i64 d], .int .i64 frac, .int .i64 how] w (Ret (.tuple #[.int .i64 q, .int .i64 0]) w))) :
    Calls Try.prog 12 #[.agg #[.int .i64 n, .int .i64 d], .int .i64 frac, .int .i64 how] w (Ret (Frac3 (newN X Y) (newD X Y) (newE X Y)) w) := by
  have u0 : -9223372036854775808 ≤ X := by omega
  have u1 : X ≤ 9223372036854775807 := by omega
  have yz : (Y == 0) = false := by simp <;> omega
  rcases (by omega : X < 0 ∨ 0 ≤ X) with hs | hs
  · obtain ⟨g0, g1, a0, a1, c0, c1⟩ := gcd_facts (-X) Y (by omega) (by omega)
    obtain ⟨G, hG⟩ : ∃ G, ((Int.gcd (-X) Y : Nat) : Int) = G := ⟨_, rfl⟩
    rw [hG] at g0 g1 a0 a1 c0 c1
    obtain ⟨a, hA⟩ : ∃ a, (-X) / G = a := ⟨_, rfl⟩
    obtain ⟨b, hB⟩ : ∃ b, Y / G = b := ⟨_, rfl⟩
    rw [hA] at a0 a1
    rw [hB] at c0 c1
    obtain ⟨x, hx⟩ : ∃ x, decide (2147483647 < a) = x := ⟨_, rfl⟩
    obtain ⟨y, hy⟩ : ∃ y, decide (2147483647 < b) = y := ⟨_, rfl⟩
    have HH : newN X Y = (if x || y then 0 else -a) ∧ newD X Y = (if x || y then 0 else b) ∧ newE X Y = (if x || y then 3 else 0) := by
      have e1 : newN X Y = lowN true (-X) Y := by
        unfold newN; rw [if_neg (by omega), decide_eq_true (by omega), decide_eq_false (by omega), if_pos (by omega), if_neg (by omega)]; try rfl
      have e2 : newD X Y = lowD (-X) Y := by unfold newD; rw [if_neg (by omega), if_pos (by omega), if_neg (by omega)]
      have e3 : newE X Y = lowE (-X) Y := by unfold newE; rw [if_neg (by omega), if_pos (by omega), if_neg (by omega)]
      rw [e1, e2, e3]
      unfold lowN lowD lowE
      rw [hG, hA, hB, ← hx, ← hy]
      simp
    rw [HH.1, HH.2.1, HH.2.2]
    clear HH
    have gz : (G == 0) = false := by simp <;> omega
    have hm : max X (-X) = (-X) := by omega
    have hm2 : decide (X < -X) = true := by simp <;> omega
    have hm3 : decide (-X < X) = false := by simp <;> omega
    have hq : X.tdiv G = -a := by rw [← hA, ← Int.tdiv_eq_ediv_of_nonneg (by omega), Int.neg_tdiv, Int.neg_neg]
    have t2 : decide (2147483647 < -a) = false := by simp <;> omega
    have t3 : decide (-a < -2147483647) = x := by rw [← hx]; simp <;> omega
    have RG := Lib.hid (fun w => rgcd (-X) Y w (by omega) (by omega) (by omega) (by omega))
    rw [hG] at RG
    have ga : a ≤ 9223372036854775807 := by omega
    have gb : b ≤ 9223372036854775807 := by omega
    have gG : G ≤ 9223372036854775807 := by omega
    clear hG
    cases x <;> cases y
    all_goals
      simp only [Bool.or_false, Bool.or_true, Bool.false_eq_true, ↓reduceIte]
      go_enter Try.func12, Try.ntmps12
      go_wp2_with (go_at_call 15; refine (Q.out _).mono ?_; rintro e w1 ⟨rfl, hb⟩; have hc := (bcell hb).1; have hf := (bcell hb).2)
      have h0 := hc w.heap.size 0 (by simp <;> omega)
      have h1 := hc w.heap.size 1 (by simp <;> omega)
      have h2 := hc (w.heap.size + 1) 0 (by simp <;> omega)
      have h3 := hc (w.heap.size + 1) 1 (by simp <;> omega)
      have j2 := hf (w.heap.size + 1) 0 (by simp <;> omega)
      have j3 := hf (w.heap.size + 1) 1 (by simp <;> omega)
      have hz : w.heap.size + 2 ≤ w1.heap.size := by have := hb.size; simp at this; omega
      simp at h0 h1 h2 h3 j2 j3
      clear hc hf
      have hz0 : w.heap.size < w1.heap.size := by omega
      have hz1 : w.heap.size + 1 < w1.heap.size := by omega
      have k1 : IntKind.i64.wrap T = T := IntWalk.i64_in _ ⟨by omega, by omega⟩
      have k2 : IntKind.i64.wrap S = S := IntWalk.i64_in _ ⟨by clear k1; omega, by clear k1; omega⟩
      have k3 : IntKind.i64.wrap X = X := IntWalk.i64_in _ ⟨u0, u1⟩
      have k4 : IntKind.i64.wrap Y = Y := IntWalk.i64_in _ ⟨by clear k1 k2 k3; omega, by clear k1 k2 k3; omega⟩
      go_quiet (fail)
      clear k1 k2 k3 k4
      go_wp2_with (go_at_call 16; refine (RG.out _).mono ?_; rintro e w3 ⟨rfl, k, rfl⟩)
      refine bodyPost_ret (v := Frac3 _ _ _) (by simp [results, Try.results12, go_sem, h2, h3]) rfl ⟨rfl, ?_⟩
      refine Below.setCell (Below.setCell ?_ (by simp) _) (by simp) _
      refine below_drewN ?_ _
      exact (((Below.refl _ _).alloc (Nat.le_refl _) _).alloc (by simp) _).trans (hb.mono (by simp <;> omega))
  · obtain ⟨g0, g1, a0, a1, c0, c1⟩ := gcd_facts X Y (by omega) (by omega)
    obtain ⟨G, hG⟩ : ∃ G, ((Int.gcd X Y : Nat) : Int) = G := ⟨_, rfl⟩
    rw [hG] at g0 g1 a0 a1 c0 c1
    obtain ⟨a, hA⟩ : ∃ a, X / G = a := ⟨_, rfl⟩
    obtain ⟨b, hB⟩ : ∃ b, Y / G = b := ⟨_, rfl⟩
    rw [hA] at a0 a1
    rw [hB] at c0 c1
    obtain ⟨x, hx⟩ : ∃ x, decide (2147483647 < a) = x := ⟨_, rfl⟩
    obtain ⟨y, hy⟩ : ∃ y, decide (2147483647 < b) = y := ⟨_, rfl⟩
    have HH : newN X Y = (if x || y then 0 else a) ∧ newD X Y = (if x || y then 0 else b) ∧ newE X Y = (if x || y then 3 else 0) := by
      have e1 : newN X Y = lowN false X Y := by
        unfold newN; rw [if_neg (by omega), decide_eq_false (by omega), decide_eq_false (by omega), if_neg (by omega), if_neg (by omega)]; try rfl
      have e2 : newD X Y = lowD X Y := by unfold newD; rw [if_neg (by omega), if_neg (by omega), if_neg (by omega)]
      have e3 : newE X Y = lowE X Y := by unfold newE; rw [if_neg (by omega), if_neg (by omega), if_neg (by omega)]
      rw [e1, e2, e3]
      unfold lowN lowD lowE
      rw [hG, hA, hB, ← hx, ← hy]
      simp
    rw [HH.1, HH.2.1, HH.2.2]
    clear HH
    have gz : (G == 0) = false := by simp <;> omega
    have hm : max X (-X) = X := by omega
    have hm2 : decide (X < -X) = false := by simp <;> omega
    skip
    skip
    have t2 : decide (a < -2147483647) = false := by simp <;> omega
    skip
    have RG := Lib.hid (fun w => rgcd X Y w (by omega) (by omega) (by omega) (by omega))
    rw [hG] at RG
    have ga : a ≤ 9223372036854775807 := by omega
    have gb : b ≤ 9223372036854775807 := by omega
    have gG : G ≤ 9223372036854775807 := by omega
    clear hG
    cases x <;> cases y
    all_goals
      simp only [Bool.or_false, Bool.or_true, Bool.false_eq_true, ↓reduceIte]
      go_enter Try.func12, Try.ntmps12
      go_wp2_with (go_at_call 15; refine (Q.out _).mono ?_; rintro e w1 ⟨rfl, hb⟩; have hc := (bcell hb).1; have hf := (bcell hb).2)
      have h0 := hc w.heap.size 0 (by simp <;> omega)
      have h1 := hc w.heap.size 1 (by simp <;> omega)
      have h2 := hc (w.heap.size + 1) 0 (by simp <;> omega)
      have h3 := hc (w.heap.size + 1) 1 (by simp <;> omega)
      have j2 := hf (w.heap.size + 1) 0 (by simp <;> omega)
      have j3 := hf (w.heap.size + 1) 1 (by simp <;> omega)
      have hz : w.heap.size + 2 ≤ w1.heap.size := by have := hb.size; simp at this; omega
      simp at h0 h1 h2 h3 j2 j3
      clear hc hf
      have hz0 : w.heap.size < w1.heap.size := by omega
      have hz1 : w.heap.size + 1 < w1.heap.size := by omega
      have k1 : IntKind.i64.wrap T = T := IntWalk.i64_in _ ⟨by omega, by omega⟩
      have k2 : IntKind.i64.wrap S = S := IntWalk.i64_in _ ⟨by clear k1; omega, by clear k1; omega⟩
      have k3 : IntKind.i64.wrap X = X := IntWalk.i64_in _ ⟨u0, u1⟩
      have k4 : IntKind.i64.wrap Y = Y := IntWalk.i64_in _ ⟨by clear k1 k2 k3; omega, by clear k1 k2 k3; omega⟩
      go_quiet (fail)
      clear k1 k2 k3 k4
      go_wp2_with (go_at_call 16; refine (RG.out _).mono ?_; rintro e w3 ⟨rfl, k, rfl⟩)
      refine bodyPost_ret (v := Frac3 _ _ _) (by simp [results, Try.results12, go_sem, h2, h3]) rfl ⟨rfl, ?_⟩
      refine Below.setCell (Below.setCell ?_ (by simp) _) (by simp) _
      refine below_drewN ?_ _
      exact (((Below.refl _ _).alloc (Nat.le_refl _) _).alloc (by simp) _).trans (hb.mono (by simp <;> omega))
end Go.Proofs.Ytnmjenpeiafnkab.Fr
