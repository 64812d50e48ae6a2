/- Boxes: the statement on points, ranks and successors: its walk. -/
import Derived.Test.YtkdfidjoighknaaB22
namespace Go.Proofs.Ytkdfidjoighknaa.Bx
open Go.ChangeShapes Go.WideShapes Go.ChangeAt Go.RowKit
set_option linter.unusedVariables false
set_option linter.unusedSimpArgs false
open Go.Proofs.Ytkdfidjoighknaa.Nm Go.Proofs.Ytkdfidjoighknaa.Ln
set_option maxHeartbeats 16000000 in
theorem points_in (T I M : Bool) (a r : Int) (L F : List Int) (n1 n2 c1 c2 : Nat) (p1 p2 : Option Addr) (w : World) (l1 : n1 ≤ 1000) (l2 : n2 ≤ 1000) (hL : L.length ≤ maxLen) (hF : F.length ≤ maxLen)
    (C1 : Hid (∀ u, Below w.heap.size w u → Calls Try.prog 19 #[.slice p1 n1 c1, .int .i64 a] u (PW L T u)))
    (C2 : Hid (∀ u, Below w.heap.size w u → Calls Try.prog 20 #[.slice p1 n1 c1, .int .i64 a] u (PW L T u)))
    (C3 : Hid (∀ u, Below w.heap.size w u → Calls Try.prog 22 #[.slice p1 n1 c1, .slice p2 n2 c2] u (RW r I u)))
    (C4 : Hid (∀ u, Below w.heap.size w u → Calls Try.prog 23 #[.slice p1 n1 c1, .slice p2 n2 c2] u (RW r I u)))
    (C5 : Hid (∀ u, Below w.heap.size w u → Calls Try.prog 24 #[.slice p1 n1 c1, .slice p2 n2 c2] u (PW F M u)))
    (C6 : Hid (∀ u, Below w.heap.size w u → Calls Try.prog 25 #[.slice p1 n1 c1, .slice p2 n2 c2] u (PW F M u))) :
    Calls Try.prog 4 #[.slice p1 n1 c1, .int .i64 a, .slice p2 n2 c2] w (RT w) := by
  have EX := Lib.hid exam
  have E1 := Lib.hid fun (u : World) (p q : Option Addr) (c d : Nat) (A : Hid (SlI u p L)) (B : Hid (SlI u q L)) => (by
    have := intEq1 p q L L c d u hL hL A B
    rw [decide_eq_true rfl] at this
    exact this : Calls Try.prog 21 #[.slice p L.length c, .slice q L.length d] u (DR (.bool true) u))
  have E2 := Lib.hid fun (u : World) (p q : Option Addr) (c d : Nat) (A : Hid (SlI u p F)) (B : Hid (SlI u q F)) => (by
    have := intEq1 p q F F c d u hF hF A B
    rw [decide_eq_true rfl] at this
    exact this : Calls Try.prog 21 #[.slice p F.length c, .slice q F.length d] u (DR (.bool true) u))
  obtain ⟨m1, e1⟩ : ∃ n, L.length = n := ⟨_, rfl⟩
  obtain ⟨m2, e2⟩ : ∃ n, F.length = n := ⟨_, rfl⟩
  have O1 : Hid (∀ (u u' : World) e, PW L T u e u' → ∃ q d, e = .returned (.tuple #[.slice q m1 d, .bool T]) ∧ Below u.heap.size u u' ∧ Hid (SlI u' q L)) := Lib.hid (by
    rintro u u' e ⟨v, rfl, hb, ho⟩
    obtain ⟨q, d, rfl, _, _, S⟩ := own_SlI ho
    exact ⟨q, d, by rw [e1], hb, S⟩)
  have O2 : Hid (∀ (u u' : World) e, PW F M u e u' → ∃ q d, e = .returned (.tuple #[.slice q m2 d, .bool M]) ∧ Below u.heap.size u u' ∧ Hid (SlI u' q F)) := Lib.hid (by
    rintro u u' e ⟨v, rfl, hb, ho⟩
    obtain ⟨q, d, rfl, _, _, S⟩ := own_SlI ho
    exact ⟨q, d, by rw [e2], hb, S⟩)
  rw [e1] at E1
  rw [e2] at E2
  have j1 : decide ((1000 : Int) < n1) = false := decide_eq_false (by omega)
  have j2 : decide ((1000 : Int) < n2) = false := decide_eq_false (by omega)
  have K := Lib.hid (Below.refl w.heap.size w)
  clear hL hF e1 e2
  cases T <;> cases I <;> cases M
  all_goals
    go_enter Try.func4, Try.ntmps4
    go_wp2_with fail
    refine (C1.out _ K.out).mono ?_
    intro e u1 h
    obtain ⟨q1, d1, rfl, hb, S1⟩ := O1.out _ _ _ h
    replace K := Lib.hid (K.out.trans (hb.mono K.out.size))
    clear h hb
    go_wp2_with fail
    refine (C2.out _ K.out).mono ?_
    intro e u2 h
    obtain ⟨q2, d2, rfl, hb, S2⟩ := O1.out _ _ _ h
    replace K := Lib.hid (K.out.trans (hb.mono K.out.size))
    replace S1 := Lib.hid (SlI.keep hb S1.out)
    clear h hb O1
    go_wp2_with fail
    refine (E1.out _ q1 q2 d1 d2 S1 S2).mono ?_
    rintro e w' ⟨rfl, m, rfl⟩
    replace K := Lib.hid (World.below_drewN' K.out m)
    clear S1 S2 E1
    generalize u2.drewN m = u3 at K ⊢
    go_wp2_with fail
    refine (C3.out _ K.out).mono ?_
    rintro e w' ⟨rfl, m2, rfl⟩
    replace K := Lib.hid (World.below_drewN' K.out m2)
    generalize u3.drewN m2 = u4 at K ⊢
    go_wp2_with fail
    refine (C4.out _ K.out).mono ?_
    rintro e w' ⟨rfl, m3, rfl⟩
    replace K := Lib.hid (World.below_drewN' K.out m3)
    generalize u4.drewN m3 = u5 at K ⊢
    go_wp2_with fail
    refine (C5.out _ K.out).mono ?_
    intro e u6 h
    obtain ⟨q3, d3, rfl, hb, S3⟩ := O2.out _ _ _ h
    replace K := Lib.hid (K.out.trans (hb.mono K.out.size))
    clear h hb
    go_wp2_with fail
    refine (C6.out _ K.out).mono ?_
    intro e u7 h
    obtain ⟨q4, d4, rfl, hb, S4⟩ := O2.out _ _ _ h
    replace K := Lib.hid (K.out.trans (hb.mono K.out.size))
    replace S3 := Lib.hid (SlI.keep hb S3.out)
    clear h hb O2
    go_wp2_with fail
    refine (E2.out _ q3 q4 d3 d4 S3 S4).mono ?_
    rintro e w' ⟨rfl, m4, rfl⟩
    replace K := Lib.hid (World.below_drewN' K.out m4)
    clear S3 S4 E2
    generalize u7.drewN m4 = u8 at K ⊢
    go_wp2_with fail
    refine (EX.out _).mono ?_
    rintro e w9 ⟨rfl, hb⟩
    have K9 := Lib.hid (K.out.trans (hb.mono K.out.size))
    clear hb
    go_wp2
    go_ret
    exact ⟨rfl, K9.out⟩
theorem pP_len {zs : List Int} (a : Int) (h : zs.length ≤ maxLen) : (pP zs a).length ≤ maxLen := by
  unfold pP
  split
  · rw [pt_length]; exact h
  · exact Nat.zero_le _
theorem nP_len {zs ps : List Int} (h : zs.length ≤ maxLen) : (nP zs ps).length ≤ maxLen := by
  unfold nP
  split
  · exact pP_len _ h
  · exact Nat.zero_le _
set_option maxHeartbeats 4000000 in
theorem law4 (p1 : Option Addr) (xs : List Int) (c1 : Nat) (a : Int) (p2 : Option Addr) (ys : List Int) (c2 : Nat) (w : World)
    (hc1 : xs.length ≤ c1) (hm1 : c1 ≤ maxLen) (R1 : Hid (SlI w p1 xs)) (_ : ∀ z ∈ xs, -9223372036854775808 ≤ z ∧ z ≤ 9223372036854775807)
    (_ : -9223372036854775808 ≤ a ∧ a ≤ 9223372036854775807)
    (hc2 : ys.length ≤ c2) (hm2 : c2 ≤ maxLen) (R2 : Hid (SlI w p2 ys)) (_ : ∀ z ∈ ys, -9223372036854775808 ≤ z ∧ z ≤ 9223372036854775807) :
    Calls Try.prog 4 #[.slice p1 xs.length c1, .int .i64 a, .slice p2 ys.length c2] w (RT w) := by
  have h1 : xs.length ≤ maxLen := Nat.le_trans hc1 hm1
  have h2 : ys.length ≤ maxLen := Nat.le_trans hc2 hm2
  have K1 := fun (u : World) (hu : Below w.heap.size w u) => Lib.hid (SlI.keep hu R1.out)
  have K2 := fun (u : World) (hu : Below w.heap.size w u) => Lib.hid (SlI.keep hu R2.out)
  by_cases l : xs.length ≤ 1000 ∧ ys.length ≤ 1000
  · have C1 := Lib.hid fun u hu => point1 p1 xs c1 a u h1 (K1 u hu)
    have C2 := Lib.hid fun u hu => rpoint1 p1 xs c1 a u h1 (K1 u hu)
    have C3 := Lib.hid fun u hu => rank1 p1 p2 xs ys c1 c2 u h1 h2 (K1 u hu) (K2 u hu)
    have C4 := Lib.hid fun u hu => rrank1 p1 p2 xs ys c1 c2 u h1 h2 (K1 u hu) (K2 u hu)
    have C5 := Lib.hid fun u hu => next1 p1 p2 xs ys c1 c2 u h1 h2 hc1 hc2 (K1 u hu) (K2 u hu)
    have C6 := Lib.hid fun u hu => rnext1 p1 p2 xs ys c1 c2 u h1 h2 (K1 u hu) (K2 u hu)
    exact points_in _ _ _ a _ _ _ _ _ _ _ _ _ w l.1 l.2 (pP_len a h1) (nP_len h1) C1 C2 C3 C4 C5 C6
  · have EX := Lib.hid exam
    clear K1 K2
    obtain ⟨n1, e1⟩ : ∃ n, xs.length = n := ⟨_, rfl⟩
    obtain ⟨n2, e2⟩ : ∃ n, ys.length = n := ⟨_, rfl⟩
    rw [e1, e2] at l
    rw [e1, e2]
    rw [e1] at h1
    rw [e2] at h2
    clear e1 e2 R1 R2 hc1 hc2
    unfold maxLen at h1 h2
    by_cases a1 : 1000 < n1
    · have j1 : decide ((1000 : Int) < n1) = true := decide_eq_true (by omega)
      go_enter Try.func4, Try.ntmps4
      go_wp2_with fail
      refine (EX.out _).mono ?_
      rintro e w1 ⟨rfl, hb⟩
      go_wp2
      go_ret
      exact ⟨rfl, hb⟩
    · have j1 : decide ((1000 : Int) < n1) = false := decide_eq_false (by omega)
      have j2 : decide ((1000 : Int) < n2) = true := decide_eq_true (by omega)
      go_enter Try.func4, Try.ntmps4
      go_wp2_with fail
      refine (EX.out _).mono ?_
      rintro e w1 ⟨rfl, hb⟩
      go_wp2
      go_ret
      exact ⟨rfl, hb⟩
end Go.Proofs.Ytkdfidjoighknaa.Bx
