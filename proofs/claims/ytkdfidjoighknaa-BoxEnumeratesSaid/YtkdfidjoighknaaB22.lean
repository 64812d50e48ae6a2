/- Boxes: the order; the statement on it: its walk. -/
import Derived.Test.YtkdfidjoighknaaB20
import Derived.Test.YtkdfidjoighknaaBM
namespace Go.Proofs.Ytkdfidjoighknaa.Bx
open Go.ChangeShapes Go.WideShapes Go.ChangeAt Go.RowKit
set_option linter.unusedVariables false
set_option linter.unusedSimpArgs false
open Go.Proofs.Ytkdfidjoighknaa.Nm Go.Proofs.Ytkdfidjoighknaa.Ln
theorem lc_anti : ∀ xs ys : List Int, lc ys xs = - lc xs ys
  | [], [] => rfl
  | [], _ :: _ => rfl
  | _ :: _, [] => rfl
  | x :: xs, y :: ys => by
    show (if y < x then (-1 : Int) else if x < y then 1 else lc ys xs) = - (if x < y then (-1 : Int) else if y < x then 1 else lc xs ys)
    have := lc_anti xs ys
    split <;> split <;> first | rfl | omega
theorem lc_vals : ∀ xs ys : List Int, lc xs ys = -1 ∨ lc xs ys = 0 ∨ lc xs ys = 1
  | [], [] => .inr (.inl rfl)
  | [], _ :: _ => .inl rfl
  | _ :: _, [] => .inr (.inr rfl)
  | x :: xs, y :: ys => by
    show (if x < y then (-1 : Int) else if y < x then 1 else lc xs ys) = -1 ∨ (if x < y then (-1 : Int) else if y < x then 1 else lc xs ys) = 0 ∨ (if x < y then (-1 : Int) else if y < x then 1 else lc xs ys) = 1
    split
    · exact .inl rfl
    · split
      · exact .inr (.inr rfl)
      · exact lc_vals xs ys
theorem lc_zero : ∀ xs ys : List Int, lc xs ys = 0 ↔ xs = ys
  | [], [] => ⟨fun _ => rfl, fun _ => rfl⟩
  | [], _ :: _ => ⟨fun h => by revert h; show (-1 : Int) = 0 → _; omega, fun h => by cases h⟩
  | _ :: _, [] => ⟨fun h => by revert h; show (1 : Int) = 0 → _; omega, fun h => by cases h⟩
  | x :: xs, y :: ys => by
    show (if x < y then (-1 : Int) else if y < x then 1 else lc xs ys) = 0 ↔ _
    have := lc_zero xs ys
    split
    · exact ⟨fun h => by omega, fun h => by simp at h; omega⟩
    · split
      · exact ⟨fun h => by omega, fun h => by simp at h; omega⟩
      · rw [this, List.cons.injEq]
        exact ⟨fun h => ⟨by omega, h⟩, fun h => h.2⟩
theorem lc_trans : ∀ xs ys zs : List Int, lc xs ys ≤ 0 → lc ys zs ≤ 0 → lc xs zs ≤ 0
  | [], _, [] => fun _ _ => Int.le_refl 0
  | [], _, _ :: _ => fun _ _ => by show (-1 : Int) ≤ 0; omega
  | _ :: _, [], _ => fun h _ => by have : (1 : Int) ≤ 0 := h; omega
  | _ :: _, _ :: _, [] => fun _ h => by have : (1 : Int) ≤ 0 := h; omega
  | x :: xs, y :: ys, z :: zs => by
    show (if x < y then (-1 : Int) else if y < x then 1 else lc xs ys) ≤ 0 → (if y < z then (-1 : Int) else if z < y then 1 else lc ys zs) ≤ 0 → (if x < z then (-1 : Int) else if z < x then 1 else lc xs zs) ≤ 0
    have := lc_trans xs ys zs
    intro h1 h2
    by_cases a1 : x < y <;> by_cases a2 : y < x <;> by_cases b1 : y < z <;> by_cases b2 : z < y <;> by_cases c1 : x < z <;> by_cases c2 : z < x <;> simp only [a1, a2, b1, b2, c1, c2, if_true, if_false] at h1 h2 ⊢ <;> omega
/-- A point of a smaller rank is smaller. -/
theorem lc_rk {zs ps qs : List Int} (h : ins zs ps) (h2 : ins zs qs) (hlt : rk zs ps zs.length < rk zs qs zs.length) : ∀ (d k : Nat), k + d = zs.length → rk zs ps k = rk zs qs k → lc (ps.drop k) (qs.drop k) = -1
  | 0, k, e, he => by
    obtain rfl : k = zs.length := by omega
    omega
  | d + 1, k, e, he => by
    have hk : k < zs.length := by omega
    have l1 := h.1
    have l2 := h2.1
    rw [lc_step (by omega) (by omega)]
    by_cases a1 : ps.getD k 0 < qs.getD k 0
    · exact if_pos a1
    · rw [if_neg a1]
      by_cases a2 : qs.getD k 0 < ps.getD k 0
      · exfalso
        have b1 := (rk_between h d (k + 1) (by omega)).1
        have b2 := (rk_between h2 d (k + 1) (by omega)).2
        have s1 := sp_pos (any_drop (low_ins h) (k + 1))
        have e1 : rk zs qs (k + 1) + 1 ≤ rk zs ps (k + 1) := by rw [rk_step, rk_step, he]; omega
        have := Int.mul_le_mul_of_nonneg_right e1 (by omega : 0 ≤ sp (zs.drop (k + 1)))
        omega
      · rw [if_neg a2]
        exact lc_rk h h2 hlt d (k + 1) (by omega) (by rw [rk_step, rk_step, he, show ps.getD k 0 = qs.getD k 0 by omega])
theorem lc_next {zs : List Int} {a : Int} (hl : zs.any low = false) (h0 : 0 ≤ a) (h1 : a + 1 < sp zs) : lc (pt zs a) (pt zs (a + 1)) = -1 := by
  have := lc_rk (pt_ins hl a) (pt_ins hl (a + 1)) (by rw [rk_pt_end hl h0 (by omega), rk_pt_end hl (by omega) h1]; omega) zs.length 0 (by omega) rfl
  exact this
def RT (w : World) (e : Ending) (w' : World) : Prop := e = .returned (.bool true) ∧ Below w.heap.size w w'
theorem intEq1 (p q : Option Addr) (xs ys : List Int) (c d : Nat) (w : World) (hx : xs.length ≤ maxLen) (hy : ys.length ≤ maxLen) (RA : Hid (SlI w p xs)) (RB : Hid (SlI w q ys)) :
    Calls Try.prog 21 #[.slice p xs.length c, .slice q ys.length d] w (DR (.bool (decide (xs = ys))) w) := ints1 p q xs ys c d w hx hy RA RB
set_option maxHeartbeats 16000000 in
theorem order_m (Y Z : Int) (n1 n2 n3 c1 c2 c3 : Nat) (p1 p2 p3 : Option Addr) (w : World) (l1 : n1 ≤ 1000) (l2 : n2 ≤ 1000) (l3 : n3 ≤ 1000)
    (hZ : (-1 : Int) ≤ 0 → Y ≤ 0 → Z ≤ 0)
    (C1 : Hid (∀ u, Below w.heap.size w u → Calls Try.prog 29 #[.slice p1 n1 c1, .slice p2 n2 c2] u (DR (.int .i64 (-1)) u)))
    (C2 : Hid (∀ u, Below w.heap.size w u → Calls Try.prog 29 #[.slice p2 n2 c2, .slice p3 n3 c3] u (DR (.int .i64 Y) u)))
    (C3 : Hid (∀ u, Below w.heap.size w u → Calls Try.prog 30 #[.slice p1 n1 c1, .slice p2 n2 c2] u (DR (.int .i64 (-1)) u)))
    (C4 : Hid (∀ u, Below w.heap.size w u → Calls Try.prog 29 #[.slice p2 n2 c2, .slice p1 n1 c1] u (DR (.int .i64 1) u)))
    (C5 : Hid (∀ u, Below w.heap.size w u → Calls Try.prog 21 #[.slice p1 n1 c1, .slice p2 n2 c2] u (DR (.bool false) u)))
    (C6 : Hid (∀ u, Below w.heap.size w u → Calls Try.prog 29 #[.slice p1 n1 c1, .slice p3 n3 c3] u (DR (.int .i64 Z) u))) :
    Calls Try.prog 7 #[.slice p1 n1 c1, .slice p2 n2 c2, .slice p3 n3 c3] w (RT w) := by
  have EX := Lib.hid exam
  have j1 : decide ((1000 : Int) < n1) = false := decide_eq_false (by omega)
  have j2 : decide ((1000 : Int) < n2) = false := decide_eq_false (by omega)
  have j3 : decide ((1000 : Int) < n3) = false := decide_eq_false (by omega)
  have K := Lib.hid (Below.refl w.heap.size w)
  by_cases hY : 0 < Y
  · have y1 : decide (0 < Y) = true := decide_eq_true hY
    go_enter Try.func7, Try.ntmps7
    go_wp2_with fail
    refine (C1.out _ K.out).mono ?_
    rintro e w' ⟨rfl, m, rfl⟩
    replace K := Lib.hid (World.below_drewN' K.out m)
    clear C1
    generalize w.drewN m = u1 at K ⊢
    clear m
    go_wp2_with fail
    refine (C2.out _ K.out).mono ?_
    rintro e w' ⟨rfl, m, rfl⟩
    replace K := Lib.hid (World.below_drewN' K.out m)
    clear C2
    generalize u1.drewN m = u2 at K ⊢
    clear m
    go_wp2_with fail
    refine (C3.out _ K.out).mono ?_
    rintro e w' ⟨rfl, m, rfl⟩
    replace K := Lib.hid (World.below_drewN' K.out m)
    clear C3
    generalize u2.drewN m = u3 at K ⊢
    clear m
    go_wp2_with fail
    refine (C4.out _ K.out).mono ?_
    rintro e w' ⟨rfl, m, rfl⟩
    replace K := Lib.hid (World.below_drewN' K.out m)
    clear C4
    generalize u3.drewN m = u4 at K ⊢
    clear m
    go_wp2_with fail
    refine (C5.out _ K.out).mono ?_
    rintro e w' ⟨rfl, m, rfl⟩
    replace K := Lib.hid (World.below_drewN' K.out m)
    clear C5
    generalize u4.drewN m = u5 at K ⊢
    clear m
    go_wp2_with fail
    refine (EX.out _).mono ?_
    rintro e w3 ⟨rfl, hb⟩
    have K3 := Lib.hid (K.out.trans (hb.mono K.out.size))
    clear hb
    go_wp2
    go_ret
    exact ⟨rfl, K3.out⟩
  · have y1 : decide (0 < Y) = false := decide_eq_false hY
    have z1 : decide (Z ≤ 0) = true := decide_eq_true (hZ (by omega) (by omega))
    go_enter Try.func7, Try.ntmps7
    go_wp2_with fail
    refine (C1.out _ K.out).mono ?_
    rintro e w' ⟨rfl, m, rfl⟩
    replace K := Lib.hid (World.below_drewN' K.out m)
    clear C1
    generalize w.drewN m = u1 at K ⊢
    clear m
    go_wp2_with fail
    refine (C2.out _ K.out).mono ?_
    rintro e w' ⟨rfl, m, rfl⟩
    replace K := Lib.hid (World.below_drewN' K.out m)
    clear C2
    generalize u1.drewN m = u2 at K ⊢
    clear m
    go_wp2_with fail
    refine (C3.out _ K.out).mono ?_
    rintro e w' ⟨rfl, m, rfl⟩
    replace K := Lib.hid (World.below_drewN' K.out m)
    clear C3
    generalize u2.drewN m = u3 at K ⊢
    clear m
    go_wp2_with fail
    refine (C4.out _ K.out).mono ?_
    rintro e w' ⟨rfl, m, rfl⟩
    replace K := Lib.hid (World.below_drewN' K.out m)
    clear C4
    generalize u3.drewN m = u4 at K ⊢
    clear m
    go_wp2_with fail
    refine (C5.out _ K.out).mono ?_
    rintro e w' ⟨rfl, m, rfl⟩
    replace K := Lib.hid (World.below_drewN' K.out m)
    clear C5
    generalize u4.drewN m = u5 at K ⊢
    clear m
    go_wp2_with fail
    refine (C6.out _ K.out).mono ?_
    rintro e w' ⟨rfl, m, rfl⟩
    replace K := Lib.hid (World.below_drewN' K.out m)
    clear C6
    generalize u5.drewN m = u6 at K ⊢
    clear m
    go_wp2_with fail
    refine (EX.out _).mono ?_
    rintro e w3 ⟨rfl, hb⟩
    have K3 := Lib.hid (K.out.trans (hb.mono K.out.size))
    clear hb
    go_wp2
    go_ret
    exact ⟨rfl, K3.out⟩
set_option maxHeartbeats 16000000 in
theorem order_z (Y Z : Int) (n1 n2 n3 c1 c2 c3 : Nat) (p1 p2 p3 : Option Addr) (w : World) (l1 : n1 ≤ 1000) (l2 : n2 ≤ 1000) (l3 : n3 ≤ 1000)
    (hZ : (0 : Int) ≤ 0 → Y ≤ 0 → Z ≤ 0)
    (C1 : Hid (∀ u, Below w.heap.size w u → Calls Try.prog 29 #[.slice p1 n1 c1, .slice p2 n2 c2] u (DR (.int .i64 0) u)))
    (C2 : Hid (∀ u, Below w.heap.size w u → Calls Try.prog 29 #[.slice p2 n2 c2, .slice p3 n3 c3] u (DR (.int .i64 Y) u)))
    (C3 : Hid (∀ u, Below w.heap.size w u → Calls Try.prog 30 #[.slice p1 n1 c1, .slice p2 n2 c2] u (DR (.int .i64 0) u)))
    (C4 : Hid (∀ u, Below w.heap.size w u → Calls Try.prog 29 #[.slice p2 n2 c2, .slice p1 n1 c1] u (DR (.int .i64 0) u)))
    (C5 : Hid (∀ u, Below w.heap.size w u → Calls Try.prog 21 #[.slice p1 n1 c1, .slice p2 n2 c2] u (DR (.bool true) u)))
    (C6 : Hid (∀ u, Below w.heap.size w u → Calls Try.prog 29 #[.slice p1 n1 c1, .slice p3 n3 c3] u (DR (.int .i64 Z) u))) :
    Calls Try.prog 7 #[.slice p1 n1 c1, .slice p2 n2 c2, .slice p3 n3 c3] w (RT w) := by
  have EX := Lib.hid exam
  have j1 : decide ((1000 : Int) < n1) = false := decide_eq_false (by omega)
  have j2 : decide ((1000 : Int) < n2) = false := decide_eq_false (by omega)
  have j3 : decide ((1000 : Int) < n3) = false := decide_eq_false (by omega)
  have K := Lib.hid (Below.refl w.heap.size w)
  by_cases hY : 0 < Y
  · have y1 : decide (0 < Y) = true := decide_eq_true hY
    go_enter Try.func7, Try.ntmps7
    go_wp2_with fail
    refine (C1.out _ K.out).mono ?_
    rintro e w' ⟨rfl, m, rfl⟩
    replace K := Lib.hid (World.below_drewN' K.out m)
    clear C1
    generalize w.drewN m = u1 at K ⊢
    clear m
    go_wp2_with fail
    refine (C2.out _ K.out).mono ?_
    rintro e w' ⟨rfl, m, rfl⟩
    replace K := Lib.hid (World.below_drewN' K.out m)
    clear C2
    generalize u1.drewN m = u2 at K ⊢
    clear m
    go_wp2_with fail
    refine (C3.out _ K.out).mono ?_
    rintro e w' ⟨rfl, m, rfl⟩
    replace K := Lib.hid (World.below_drewN' K.out m)
    clear C3
    generalize u2.drewN m = u3 at K ⊢
    clear m
    go_wp2_with fail
    refine (C4.out _ K.out).mono ?_
    rintro e w' ⟨rfl, m, rfl⟩
    replace K := Lib.hid (World.below_drewN' K.out m)
    clear C4
    generalize u3.drewN m = u4 at K ⊢
    clear m
    go_wp2_with fail
    refine (C5.out _ K.out).mono ?_
    rintro e w' ⟨rfl, m, rfl⟩
    replace K := Lib.hid (World.below_drewN' K.out m)
    clear C5
    generalize u4.drewN m = u5 at K ⊢
    clear m
    go_wp2_with fail
    refine (EX.out _).mono ?_
    rintro e w3 ⟨rfl, hb⟩
    have K3 := Lib.hid (K.out.trans (hb.mono K.out.size))
    clear hb
    go_wp2
    go_ret
    exact ⟨rfl, K3.out⟩
  · have y1 : decide (0 < Y) = false := decide_eq_false hY
    have z1 : decide (Z ≤ 0) = true := decide_eq_true (hZ (by omega) (by omega))
    go_enter Try.func7, Try.ntmps7
    go_wp2_with fail
    refine (C1.out _ K.out).mono ?_
    rintro e w' ⟨rfl, m, rfl⟩
    replace K := Lib.hid (World.below_drewN' K.out m)
    clear C1
    generalize w.drewN m = u1 at K ⊢
    clear m
    go_wp2_with fail
    refine (C2.out _ K.out).mono ?_
    rintro e w' ⟨rfl, m, rfl⟩
    replace K := Lib.hid (World.below_drewN' K.out m)
    clear C2
    generalize u1.drewN m = u2 at K ⊢
    clear m
    go_wp2_with fail
    refine (C3.out _ K.out).mono ?_
    rintro e w' ⟨rfl, m, rfl⟩
    replace K := Lib.hid (World.below_drewN' K.out m)
    clear C3
    generalize u2.drewN m = u3 at K ⊢
    clear m
    go_wp2_with fail
    refine (C4.out _ K.out).mono ?_
    rintro e w' ⟨rfl, m, rfl⟩
    replace K := Lib.hid (World.below_drewN' K.out m)
    clear C4
    generalize u3.drewN m = u4 at K ⊢
    clear m
    go_wp2_with fail
    refine (C5.out _ K.out).mono ?_
    rintro e w' ⟨rfl, m, rfl⟩
    replace K := Lib.hid (World.below_drewN' K.out m)
    clear C5
    generalize u4.drewN m = u5 at K ⊢
    clear m
    go_wp2_with fail
    refine (C6.out _ K.out).mono ?_
    rintro e w' ⟨rfl, m, rfl⟩
    replace K := Lib.hid (World.below_drewN' K.out m)
    clear C6
    generalize u5.drewN m = u6 at K ⊢
    clear m
    go_wp2_with fail
    refine (EX.out _).mono ?_
    rintro e w3 ⟨rfl, hb⟩
    have K3 := Lib.hid (K.out.trans (hb.mono K.out.size))
    clear hb
    go_wp2
    go_ret
    exact ⟨rfl, K3.out⟩
set_option maxHeartbeats 16000000 in
theorem order_p (Y Z : Int) (n1 n2 n3 c1 c2 c3 : Nat) (p1 p2 p3 : Option Addr) (w : World) (l1 : n1 ≤ 1000) (l2 : n2 ≤ 1000) (l3 : n3 ≤ 1000)
    (hZ : (1 : Int) ≤ 0 → Y ≤ 0 → Z ≤ 0)
    (C1 : Hid (∀ u, Below w.heap.size w u → Calls Try.prog 29 #[.slice p1 n1 c1, .slice p2 n2 c2] u (DR (.int .i64 1) u)))
    (C2 : Hid (∀ u, Below w.heap.size w u → Calls Try.prog 29 #[.slice p2 n2 c2, .slice p3 n3 c3] u (DR (.int .i64 Y) u)))
    (C3 : Hid (∀ u, Below w.heap.size w u → Calls Try.prog 30 #[.slice p1 n1 c1, .slice p2 n2 c2] u (DR (.int .i64 1) u)))
    (C4 : Hid (∀ u, Below w.heap.size w u → Calls Try.prog 29 #[.slice p2 n2 c2, .slice p1 n1 c1] u (DR (.int .i64 (-1)) u)))
    (C5 : Hid (∀ u, Below w.heap.size w u → Calls Try.prog 21 #[.slice p1 n1 c1, .slice p2 n2 c2] u (DR (.bool false) u)))
    (C6 : Hid (∀ u, Below w.heap.size w u → Calls Try.prog 29 #[.slice p1 n1 c1, .slice p3 n3 c3] u (DR (.int .i64 Z) u))) :
    Calls Try.prog 7 #[.slice p1 n1 c1, .slice p2 n2 c2, .slice p3 n3 c3] w (RT w) := by
  have EX := Lib.hid exam
  have j1 : decide ((1000 : Int) < n1) = false := decide_eq_false (by omega)
  have j2 : decide ((1000 : Int) < n2) = false := decide_eq_false (by omega)
  have j3 : decide ((1000 : Int) < n3) = false := decide_eq_false (by omega)
  have K := Lib.hid (Below.refl w.heap.size w)
  go_enter Try.func7, Try.ntmps7
  go_wp2_with fail
  refine (C1.out _ K.out).mono ?_
  rintro e w' ⟨rfl, m, rfl⟩
  replace K := Lib.hid (World.below_drewN' K.out m)
  clear C1
  generalize w.drewN m = u1 at K ⊢
  clear m
  go_wp2_with fail
  refine (C2.out _ K.out).mono ?_
  rintro e w' ⟨rfl, m, rfl⟩
  replace K := Lib.hid (World.below_drewN' K.out m)
  clear C2
  generalize u1.drewN m = u2 at K ⊢
  clear m
  go_wp2_with fail
  refine (C3.out _ K.out).mono ?_
  rintro e w' ⟨rfl, m, rfl⟩
  replace K := Lib.hid (World.below_drewN' K.out m)
  clear C3
  generalize u2.drewN m = u3 at K ⊢
  clear m
  go_wp2_with fail
  refine (C4.out _ K.out).mono ?_
  rintro e w' ⟨rfl, m, rfl⟩
  replace K := Lib.hid (World.below_drewN' K.out m)
  clear C4
  generalize u3.drewN m = u4 at K ⊢
  clear m
  go_wp2_with fail
  refine (C5.out _ K.out).mono ?_
  rintro e w' ⟨rfl, m, rfl⟩
  replace K := Lib.hid (World.below_drewN' K.out m)
  clear C5
  generalize u4.drewN m = u5 at K ⊢
  clear m
  go_wp2_with fail
  refine (EX.out _).mono ?_
  rintro e w3 ⟨rfl, hb⟩
  have K3 := Lib.hid (K.out.trans (hb.mono K.out.size))
  clear hb
  go_wp2
  go_ret
  exact ⟨rfl, K3.out⟩

set_option maxHeartbeats 4000000 in
theorem law7 (p1 : Option Addr) (xs : List Int) (c1 : Nat) (p2 : Option Addr) (ys : List Int) (c2 : Nat) (p3 : Option Addr) (zs : List Int) (c3 : Nat) (w : World)
    (hc1 : xs.length ≤ c1) (hm1 : c1 ≤ maxLen) (R1 : Hid (SlI w p1 xs)) (_ : ∀ z ∈ xs, -9223372036854775808 ≤ z ∧ z ≤ 9223372036854775807)
    (hc2 : ys.length ≤ c2) (hm2 : c2 ≤ maxLen) (R2 : Hid (SlI w p2 ys)) (_ : ∀ z ∈ ys, -9223372036854775808 ≤ z ∧ z ≤ 9223372036854775807)
    (hc3 : zs.length ≤ c3) (hm3 : c3 ≤ maxLen) (R3 : Hid (SlI w p3 zs)) (_ : ∀ z ∈ zs, -9223372036854775808 ≤ z ∧ z ≤ 9223372036854775807) :
    Calls Try.prog 7 #[.slice p1 xs.length c1, .slice p2 ys.length c2, .slice p3 zs.length c3] w (RT w) := by
  have h1 : xs.length ≤ maxLen := Nat.le_trans hc1 hm1
  have h2 : ys.length ≤ maxLen := Nat.le_trans hc2 hm2
  have h3 : zs.length ≤ maxLen := Nat.le_trans hc3 hm3
  have K1 := fun (u : World) (hu : Below w.heap.size w u) => Lib.hid (SlI.keep hu R1.out)
  have K2 := fun (u : World) (hu : Below w.heap.size w u) => Lib.hid (SlI.keep hu R2.out)
  have K3 := fun (u : World) (hu : Below w.heap.size w u) => Lib.hid (SlI.keep hu R3.out)
  by_cases l : xs.length ≤ 1000 ∧ ys.length ≤ 1000 ∧ zs.length ≤ 1000
  · have C1 := Lib.hid fun u hu => compare1 p1 p2 xs ys c1 c2 u h1 h2 (K1 u hu) (K2 u hu)
    have C2 := Lib.hid fun u hu => compare1 p2 p3 ys zs c2 c3 u h2 h3 (K2 u hu) (K3 u hu)
    have C3 := Lib.hid fun u hu => rcompare1 p1 p2 xs ys c1 c2 u h1 h2 (K1 u hu) (K2 u hu)
    have C4 := Lib.hid fun u hu => compare1 p2 p1 ys xs c2 c1 u h2 h1 (K2 u hu) (K1 u hu)
    have C5 := Lib.hid fun u hu => intEq1 p1 p2 xs ys c1 c2 u h1 h2 (K1 u hu) (K2 u hu)
    have C6 := Lib.hid fun u hu => compare1 p1 p3 xs zs c1 c3 u h1 h3 (K1 u hu) (K3 u hu)
    have hz := lc_trans xs ys zs
    have ha := lc_anti xs ys
    have he := lc_zero xs ys
    rw [ha] at C4
    rcases lc_vals xs ys with e | e | e
    · rw [e] at C1 C3 C4 hz he
      rw [decide_eq_false (fun h => absurd (he.2 h) (by omega))] at C5
      exact order_m _ _ _ _ _ _ _ _ _ _ _ w l.1 l.2.1 l.2.2 hz C1 C2 C3 C4 C5 C6
    · rw [e] at C1 C3 C4 hz he
      rw [decide_eq_true (he.1 rfl)] at C5
      exact order_z _ _ _ _ _ _ _ _ _ _ _ w l.1 l.2.1 l.2.2 hz C1 C2 C3 C4 C5 C6
    · rw [e] at C1 C3 C4 hz he
      rw [decide_eq_false (fun h => absurd (he.2 h) (by omega))] at C5
      exact order_p _ _ _ _ _ _ _ _ _ _ _ w l.1 l.2.1 l.2.2 hz C1 C2 C3 C4 C5 C6
  · have EX := Lib.hid exam
    clear K1 K2 K3
    obtain ⟨n1, e1⟩ : ∃ n, xs.length = n := ⟨_, rfl⟩
    obtain ⟨n2, e2⟩ : ∃ n, ys.length = n := ⟨_, rfl⟩
    obtain ⟨n3, e3⟩ : ∃ n, zs.length = n := ⟨_, rfl⟩
    rw [e1, e2, e3] at l
    rw [e1, e2, e3]
    rw [e1] at h1
    rw [e2] at h2
    rw [e3] at h3
    clear e1 e2 e3 R1 R2 R3 hc1 hc2 hc3
    unfold maxLen at h1 h2 h3
    by_cases a1 : 1000 < n1
    · have j1 : decide ((1000 : Int) < n1) = true := decide_eq_true (by omega)
      go_enter Try.func7, Try.ntmps7
      go_wp2_with fail
      refine (EX.out _).mono ?_
      rintro e w1 ⟨rfl, hb⟩
      go_wp2
      go_ret
      exact ⟨rfl, hb⟩
    · have j1 : decide ((1000 : Int) < n1) = false := decide_eq_false (by omega)
      by_cases a2 : 1000 < n2
      · have j2 : decide ((1000 : Int) < n2) = true := decide_eq_true (by omega)
        go_enter Try.func7, Try.ntmps7
        go_wp2_with fail
        refine (EX.out _).mono ?_
        rintro e w1 ⟨rfl, hb⟩
        go_wp2
        go_ret
        exact ⟨rfl, hb⟩
      · have j2 : decide ((1000 : Int) < n2) = false := decide_eq_false (by omega)
        have j3 : decide ((1000 : Int) < n3) = true := decide_eq_true (by omega)
        go_enter Try.func7, Try.ntmps7
        go_wp2_with fail
        refine (EX.out _).mono ?_
        rintro e w1 ⟨rfl, hb⟩
        go_wp2
        go_ret
        exact ⟨rfl, hb⟩
end Go.Proofs.Ytkdfidjoighknaa.Bx
