/- Boxes: the statement on inverses: its walk. -/
import Derived.Test.YtkdfidjoighknaaB22
namespace Go.Proofs.Ytkdfidjoighknaa.Bx
open Go.ChangeShapes Go.WideShapes Go.ChangeAt Go.RowKit
set_option linter.unusedVariables false
set_option linter.unusedSimpArgs false
open Go.Proofs.Ytkdfidjoighknaa.Nm Go.Proofs.Ytkdfidjoighknaa.Ln
set_option maxHeartbeats 16000000 in
theorem inverse_end (a C : Int) (L F : List Int) (n1 c1 : Nat) (p1 : Option Addr) (w : World) (l1 : n1 ≤ 1000) (h0 : 0 ≤ a) (h1 : a < C) (hC : C ≤ 65536) (hE : a + 1 = C)
    (C0 : Hid (∀ u, Below w.heap.size w u → Calls Try.prog 18 #[.slice p1 n1 c1] u (DR (.int .i64 C) u)))
    (C1 : Hid (∀ u, Below w.heap.size w u → Calls Try.prog 19 #[.slice p1 n1 c1, .int .i64 a] u (PW L true u)))
    (C2 : Hid (∀ u, Below w.heap.size w u → ∀ q d, Hid (SlI u q L) → Calls Try.prog 22 #[.slice p1 n1 c1, .slice q L.length d] u (RW a true u)))
    (C3 : Hid (∀ u, Below w.heap.size w u → ∀ q d, Hid (SlI u q L) → Calls Try.prog 28 #[.slice p1 n1 c1, .slice q L.length d] u (DR (.bool true) u)))
    (C4 : Hid (∀ u, Below w.heap.size w u → ∀ q d, L.length ≤ d → Hid (SlI u q L) → Calls Try.prog 24 #[.slice p1 n1 c1, .slice q L.length d] u (PW F false u)))
   :
    Calls Try.prog 6 #[.slice p1 n1 c1, .int .i64 a] w (RT w) := by
  have EX := Lib.hid exam
  have j1 : decide ((1000 : Int) < n1) = false := decide_eq_false (by omega)
  have j2 : decide (a < 0) = false := decide_eq_false (by omega)
  have j3 : decide (C ≤ a) = false := decide_eq_false (by omega)
  have K := Lib.hid (Below.refl w.heap.size w)
  obtain ⟨m1, e1⟩ : ∃ n, L.length = n := ⟨_, rfl⟩
  obtain ⟨m2, e2⟩ : ∃ n, F.length = n := ⟨_, rfl⟩
  have O1 : Hid (∀ (u u' : World) e, PW L true u e u' → ∃ q d, e = .returned (.tuple #[.slice q m1 d, .bool true]) ∧ m1 ≤ d ∧ Below u.heap.size u u' ∧ Hid (SlI u' q L)) := Lib.hid (by
    rintro u u' e ⟨v, rfl, hb, ho⟩
    obtain ⟨q, d, rfl, hd, _, S⟩ := own_SlI ho
    exact ⟨q, d, by rw [e1], by omega, hb, S⟩)
  have O2 : Hid (∀ (u u' : World) e, PW F false u e u' → ∃ q d, e = .returned (.tuple #[.slice q m2 d, .bool false]) ∧ Below u.heap.size u u' ∧ Hid (SlI u' q F)) := Lib.hid (by
    rintro u u' e ⟨v, rfl, hb, ho⟩
    obtain ⟨q, d, rfl, _, _, S⟩ := own_SlI ho
    exact ⟨q, d, by rw [e2], hb, S⟩)
  rw [e1] at C2 C3 C4
  clear e1 e2
  go_enter Try.func6, Try.ntmps6
  go_wp2_with fail
  refine (C0.out _ K.out).mono ?_
  rintro e w' ⟨rfl, m, rfl⟩
  replace K := Lib.hid (World.below_drewN' K.out m)
  generalize w.drewN m = u0 at K ⊢
  go_wp2_with fail
  refine (C1.out _ K.out).mono ?_
  intro e u1 h
  obtain ⟨q1, d1, rfl, hd1, hb, S1⟩ := O1.out _ _ _ h
  replace K := Lib.hid (K.out.trans (hb.mono K.out.size))
  clear h hb O1 C1
  go_wp2_with fail
  refine (C2.out _ K.out q1 d1 S1).mono ?_
  rintro e w' ⟨rfl, m3, rfl⟩
  replace S1 := Lib.hid (SlI.keep (World.below_drewN' (Below.refl _ u1) m3) S1.out)
  replace K := Lib.hid (World.below_drewN' K.out m3)
  generalize u1.drewN m3 = u2 at K S1 ⊢
  go_wp2_with fail
  refine (C3.out _ K.out q1 d1 S1).mono ?_
  rintro e w' ⟨rfl, m4, rfl⟩
  replace S1 := Lib.hid (SlI.keep (World.below_drewN' (Below.refl _ u2) m4) S1.out)
  replace K := Lib.hid (World.below_drewN' K.out m4)
  generalize u2.drewN m4 = u3 at K S1 ⊢
  go_wp2_with fail
  refine (C4.out _ K.out q1 d1 hd1 S1).mono ?_
  intro e u4 h
  obtain ⟨q2, d2, rfl, hb, S2⟩ := O2.out _ _ _ h
  replace S1 := Lib.hid (SlI.keep hb S1.out)
  replace K := Lib.hid (K.out.trans (hb.mono K.out.size))
  clear h hb O2 C4
  have wr : IntKind.i64.wrap (a + 1) = C := by rw [IntKind.wrap_i64]; omega
  have j4 : decide (C = C) = true := decide_eq_true rfl
  go_wp2_with fail
  refine (C0.out _ K.out).mono ?_
  rintro e w' ⟨rfl, m5, rfl⟩
  replace K := Lib.hid (World.below_drewN' K.out m5)
  generalize u4.drewN m5 = u5 at K ⊢
  go_wp2_with fail
  refine (EX.out _).mono ?_
  rintro e w9 ⟨rfl, hb⟩
  have K9 := Lib.hid (K.out.trans (hb.mono K.out.size))
  clear hb
  go_wp2
  go_ret
  exact ⟨rfl, K9.out⟩
set_option maxHeartbeats 16000000 in
theorem inverse_more (a C : Int) (L F : List Int) (n1 c1 : Nat) (p1 : Option Addr) (w : World) (l1 : n1 ≤ 1000) (h0 : 0 ≤ a) (h1 : a < C) (hC : C ≤ 65536) (hE : a + 1 < C)
    (C0 : Hid (∀ u, Below w.heap.size w u → Calls Try.prog 18 #[.slice p1 n1 c1] u (DR (.int .i64 C) u)))
    (C1 : Hid (∀ u, Below w.heap.size w u → Calls Try.prog 19 #[.slice p1 n1 c1, .int .i64 a] u (PW L true u)))
    (C2 : Hid (∀ u, Below w.heap.size w u → ∀ q d, Hid (SlI u q L) → Calls Try.prog 22 #[.slice p1 n1 c1, .slice q L.length d] u (RW a true u)))
    (C3 : Hid (∀ u, Below w.heap.size w u → ∀ q d, Hid (SlI u q L) → Calls Try.prog 28 #[.slice p1 n1 c1, .slice q L.length d] u (DR (.bool true) u)))
    (C4 : Hid (∀ u, Below w.heap.size w u → ∀ q d, L.length ≤ d → Hid (SlI u q L) → Calls Try.prog 24 #[.slice p1 n1 c1, .slice q L.length d] u (PW F true u)))
    (C5 : Hid (∀ u, Below w.heap.size w u → ∀ q d, Hid (SlI u q F) → Calls Try.prog 22 #[.slice p1 n1 c1, .slice q F.length d] u (RW (a + 1) true u)))
    (C6 : Hid (∀ u, Below w.heap.size w u → ∀ q d q' d', Hid (SlI u q L) → Hid (SlI u q' F) → Calls Try.prog 29 #[.slice q L.length d, .slice q' F.length d'] u (DR (.int .i64 (-1)) u))) :
    Calls Try.prog 6 #[.slice p1 n1 c1, .int .i64 a] w (RT w) := by
  have EX := Lib.hid exam
  have j1 : decide ((1000 : Int) < n1) = false := decide_eq_false (by omega)
  have j2 : decide (a < 0) = false := decide_eq_false (by omega)
  have j3 : decide (C ≤ a) = false := decide_eq_false (by omega)
  have K := Lib.hid (Below.refl w.heap.size w)
  obtain ⟨m1, e1⟩ : ∃ n, L.length = n := ⟨_, rfl⟩
  obtain ⟨m2, e2⟩ : ∃ n, F.length = n := ⟨_, rfl⟩
  have O1 : Hid (∀ (u u' : World) e, PW L true u e u' → ∃ q d, e = .returned (.tuple #[.slice q m1 d, .bool true]) ∧ m1 ≤ d ∧ Below u.heap.size u u' ∧ Hid (SlI u' q L)) := Lib.hid (by
    rintro u u' e ⟨v, rfl, hb, ho⟩
    obtain ⟨q, d, rfl, hd, _, S⟩ := own_SlI ho
    exact ⟨q, d, by rw [e1], by omega, hb, S⟩)
  have O2 : Hid (∀ (u u' : World) e, PW F true u e u' → ∃ q d, e = .returned (.tuple #[.slice q m2 d, .bool true]) ∧ Below u.heap.size u u' ∧ Hid (SlI u' q F)) := Lib.hid (by
    rintro u u' e ⟨v, rfl, hb, ho⟩
    obtain ⟨q, d, rfl, _, _, S⟩ := own_SlI ho
    exact ⟨q, d, by rw [e2], hb, S⟩)
  rw [e1] at C2 C3 C4 C6
  rw [e2] at C5 C6
  clear e1 e2
  go_enter Try.func6, Try.ntmps6
  go_wp2_with fail
  refine (C0.out _ K.out).mono ?_
  rintro e w' ⟨rfl, m, rfl⟩
  replace K := Lib.hid (World.below_drewN' K.out m)
  generalize w.drewN m = u0 at K ⊢
  go_wp2_with fail
  refine (C1.out _ K.out).mono ?_
  intro e u1 h
  obtain ⟨q1, d1, rfl, hd1, hb, S1⟩ := O1.out _ _ _ h
  replace K := Lib.hid (K.out.trans (hb.mono K.out.size))
  clear h hb O1 C1
  go_wp2_with fail
  refine (C2.out _ K.out q1 d1 S1).mono ?_
  rintro e w' ⟨rfl, m3, rfl⟩
  replace S1 := Lib.hid (SlI.keep (World.below_drewN' (Below.refl _ u1) m3) S1.out)
  replace K := Lib.hid (World.below_drewN' K.out m3)
  generalize u1.drewN m3 = u2 at K S1 ⊢
  go_wp2_with fail
  refine (C3.out _ K.out q1 d1 S1).mono ?_
  rintro e w' ⟨rfl, m4, rfl⟩
  replace S1 := Lib.hid (SlI.keep (World.below_drewN' (Below.refl _ u2) m4) S1.out)
  replace K := Lib.hid (World.below_drewN' K.out m4)
  generalize u2.drewN m4 = u3 at K S1 ⊢
  go_wp2_with fail
  refine (C4.out _ K.out q1 d1 hd1 S1).mono ?_
  intro e u4 h
  obtain ⟨q2, d2, rfl, hb, S2⟩ := O2.out _ _ _ h
  replace S1 := Lib.hid (SlI.keep hb S1.out)
  replace K := Lib.hid (K.out.trans (hb.mono K.out.size))
  clear h hb O2 C4
  go_wp2_with fail
  refine (C5.out _ K.out q2 d2 S2).mono ?_
  rintro e w' ⟨rfl, m5, rfl⟩
  replace S1 := Lib.hid (SlI.keep (World.below_drewN' (Below.refl _ u4) m5) S1.out)
  replace S2 := Lib.hid (SlI.keep (World.below_drewN' (Below.refl _ u4) m5) S2.out)
  replace K := Lib.hid (World.below_drewN' K.out m5)
  generalize u4.drewN m5 = u5 at K S1 S2 ⊢
  go_wp2_with fail
  refine (C6.out _ K.out q1 d1 q2 d2 S1 S2).mono ?_
  rintro e w' ⟨rfl, m6, rfl⟩
  replace K := Lib.hid (World.below_drewN' K.out m6)
  generalize u5.drewN m6 = u6 at K ⊢
  go_wp2_with fail
  refine (EX.out _).mono ?_
  rintro e w9 ⟨rfl, hb⟩
  have K9 := Lib.hid (K.out.trans (hb.mono K.out.size))
  clear hb
  go_wp2
  go_ret
  exact ⟨rfl, K9.out⟩

set_option maxHeartbeats 4000000 in
theorem law6 (p1 : Option Addr) (xs : List Int) (c1 : Nat) (a : Int) (w : World)
    (hc1 : xs.length ≤ c1) (hm1 : c1 ≤ maxLen) (R1 : Hid (SlI w p1 xs)) (_ : ∀ z ∈ xs, -9223372036854775808 ≤ z ∧ z ≤ 9223372036854775807)
    (_ : -9223372036854775808 ≤ a ∧ a ≤ 9223372036854775807) :
    Calls Try.prog 6 #[.slice p1 xs.length c1, .int .i64 a] w (RT w) := by
  have h1 : xs.length ≤ maxLen := Nat.le_trans hc1 hm1
  have K1 := fun (u : World) (hu : Below w.heap.size w u) => Lib.hid (SlI.keep hu R1.out)
  have C0 := Lib.hid fun u hu => rcount1 p1 xs c1 u h1 (K1 u hu)
  by_cases l : xs.length ≤ 1000 ∧ 0 ≤ a ∧ a < cnt xs
  · obtain ⟨l1, a0, a1⟩ := l
    obtain ⟨hb, h6, hl, hcn, p0, hS⟩ := cnt_pos a0 a1
    have C1 := Lib.hid fun u hu => point1 p1 xs c1 a u h1 (K1 u hu)
    rw [show pP xs a = pt xs a from if_pos (pB_of a0 a1), pB_of a0 a1] at C1
    have pl := pt_length xs a
    have i1 := ins_inB hb (pt_ins hl a)
    have r1 : rN xs (pt xs a) = a := by unfold rN; rw [if_pos i1, rk_pt_end hl a0 (by omega)]
    have C2 := Lib.hid fun u hu q d (S : Hid (SlI u q (pt xs a))) => rank1 p1 q xs (pt xs a) c1 d u h1 (by rw [pl]; exact h1) (K1 u hu) S
    have C3 := Lib.hid fun u hu q d (S : Hid (SlI u q (pt xs a))) => rcont1 p1 q xs (pt xs a) c1 d u h1 (by rw [pl]; exact h1) (K1 u hu) S
    have C4 := Lib.hid fun u hu q d (hd : (pt xs a).length ≤ d) (S : Hid (SlI u q (pt xs a))) => next1 p1 q xs (pt xs a) c1 d u h1 (by rw [pl]; exact h1) hc1 hd (K1 u hu) S
    rw [r1, i1] at C2
    rw [i1] at C3
    have n1 : nP xs (pt xs a) = pP xs (a + 1) := by unfold nP; rw [if_pos i1, rk_pt_end hl a0 (by omega)]
    have n2 : nB xs (pt xs a) = pB xs (a + 1) := by unfold nB; rw [if_pos i1, rk_pt_end hl a0 (by omega)]
    rw [n1, n2] at C4
    by_cases hE : a + 1 = cnt xs
    · have b1 : pB xs (a + 1) = false := by
        cases hp : pB xs (a + 1) with
        | false => rfl
        | true => have := (pB_yes hp).2; omega
      rw [b1] at C4
      exact inverse_end a _ _ _ _ _ _ w l1 a0 a1 (by omega) hE C0 C1 C2 C3 C4
    · have b1 : pB xs (a + 1) = true := pB_of (by omega) (by omega)
      rw [show pP xs (a + 1) = pt xs (a + 1) from if_pos b1, b1] at C4
      have pl2 := pt_length xs (a + 1)
      have i2 := ins_inB hb (pt_ins hl (a + 1))
      have r2 : rN xs (pt xs (a + 1)) = a + 1 := by unfold rN; rw [if_pos i2, rk_pt_end hl (by omega) (by omega)]
      have C5 := Lib.hid fun u hu q d (S : Hid (SlI u q (pt xs (a + 1)))) => rank1 p1 q xs (pt xs (a + 1)) c1 d u h1 (by rw [pl2]; exact h1) (K1 u hu) S
      rw [r2, i2] at C5
      have C6 : Hid (∀ u, Below w.heap.size w u → ∀ q d q' d', Hid (SlI u q (pt xs a)) → Hid (SlI u q' (pt xs (a + 1))) → Calls Try.prog 29 #[.slice q (pt xs a).length d, .slice q' (pt xs (a + 1)).length d'] u (DR (.int .i64 (-1)) u)) := Lib.hid fun u hu q d q' d' S S' => by
        have := compare1 q q' (pt xs a) (pt xs (a + 1)) d d' u (by rw [pl]; exact h1) (by rw [pl2]; exact h1) S S'
        rw [lc_next hl a0 (by omega)] at this
        exact this
      exact inverse_more a _ _ _ _ _ _ w l1 a0 a1 (by omega) (by omega) C0 C1 C2 C3 C4 C5 C6
  · have EX := Lib.hid exam
    clear K1
    generalize cnt xs = C at C0 l
    obtain ⟨n1, e1⟩ : ∃ n, xs.length = n := ⟨_, rfl⟩
    rw [e1] at l C0
    rw [e1]
    rw [e1] at h1
    clear e1 R1 hc1
    unfold maxLen at h1
    by_cases a1 : 1000 < n1
    · have j1 : decide ((1000 : Int) < n1) = true := decide_eq_true (by omega)
      go_enter Try.func6, Try.ntmps6
      go_wp2_with fail
      refine (EX.out _).mono ?_
      rintro e w1 ⟨rfl, hb⟩
      go_wp2
      go_ret
      exact ⟨rfl, hb⟩
    · have j1 : decide ((1000 : Int) < n1) = false := decide_eq_false (by omega)
      by_cases a2 : a < 0
      · have j2 : decide (a < 0) = true := decide_eq_true a2
        go_enter Try.func6, Try.ntmps6
        go_wp2_with fail
        refine (EX.out _).mono ?_
        rintro e w1 ⟨rfl, hb⟩
        go_wp2
        go_ret
        exact ⟨rfl, hb⟩
      · have j2 : decide (a < 0) = false := decide_eq_false a2
        have j3 : decide (C ≤ a) = true := decide_eq_true (by omega)
        go_enter Try.func6, Try.ntmps6
        go_wp2_with fail
        refine (C0.out _ (Below.refl _ _)).mono ?_
        rintro e w' ⟨rfl, m, rfl⟩
        have K := Lib.hid (World.below_drewN' (Below.refl w.heap.size w) m)
        generalize w.drewN m = u at K ⊢
        go_wp2_with fail
        refine (EX.out _).mono ?_
        rintro e w1 ⟨rfl, hb⟩
        have K9 := Lib.hid (K.out.trans (hb.mono K.out.size))
        clear hb
        go_wp2
        go_ret
        exact ⟨rfl, K9.out⟩
end Go.Proofs.Ytkdfidjoighknaa.Bx
