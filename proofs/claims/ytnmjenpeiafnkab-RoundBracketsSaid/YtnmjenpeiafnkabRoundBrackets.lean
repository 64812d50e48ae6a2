/- For every n, d and how within its bounds, each rounding mode returns the floor or the ceiling, which differ by at most one, and by nothing exactly where the quotient is an integer (P2.6). -/
import Derived.Test.YtnmjenpeiafnkabRows
import Derived.Test.YtnmjenpeiafnkabBrack
import Derived.WalkKit
import Derived.ProofKit
import Derived.OpenShut
namespace Go.Proofs.Ytnmjenpeiafnkab.roundBrackets
open Go.ChangeShapes Go.WideShapes Go.ChangeAt Go.RowKit
set_option linter.unusedVariables false      -- a walk need not use every 'w<i>' (that an integer argument fits its kind)

theorem own : ownKnob Try.prog.godebug = none := by kernel_rfl

theorem out (n d how : Int) (w : World) (h : d < 1 ∨ 2147483648 < d ∨ n < -1099511627776 ∨ 1099511627776 < n) :
    Calls Try.prog 3 #[.int .i64 n, .int .i64 d, .int .i64 how] w fun e w' => e = .returned (.bool true) ∧ Grown w w' := by
  obtain ⟨x1, x2, x3, x4, y1, y2, y3, y4⟩ : ∃ x1 x2 x3 x4, decide (d < 1) = x1 ∧ decide (2147483648 < d) = x2 ∧ decide (n < -1099511627776) = x3 ∧ decide (1099511627776 < n) = x4 := ⟨_, _, _, _, rfl, rfl, rfl, rfl⟩
  have hx : (x1 || x2 || x3 || x4) = true := by subst y1 y2 y3 y4; simp; omega
  clear h
  cases x1 <;> cases x2 <;> cases x3 <;> cases x4 <;> (first | (exfalso; simp at hx; done) | skip)
  all_goals
    clear hx
    go_enter Try.func3, Try.ntmps3
    go_wp2
    go_ret
    exact ⟨rfl, Grown.refl _⟩
theorem inside (n d how L H P Q X E : Int) (w : World) (h0 : 1 ≤ d) (h1 : d ≤ 2147483648) (h2 : -1099511627776 ≤ n) (h3 : n ≤ 1099511627776)
    (C1 : Hid (∀ w, Calls Try.prog 5 #[.int .i64 n, .int .i64 d, .int .i64 1] w fun e w' => e = .returned (.tuple #[.int .i64 L, .int .i64 0]) ∧ ∃ k, w' = w.drewN k))
    (C2 : Hid (∀ w, Calls Try.prog 5 #[.int .i64 n, .int .i64 d, .int .i64 2] w fun e w' => e = .returned (.tuple #[.int .i64 H, .int .i64 0]) ∧ ∃ k, w' = w.drewN k))
    (C3 : Hid (∀ w, Calls Try.prog 5 #[.int .i64 n, .int .i64 d, .int .i64 how] w fun e w' => e = .returned (.tuple #[.int .i64 X, .int .i64 E]) ∧ ∃ k, w' = w.drewN k))
    (l0 : -1099511627776 ≤ L) (l1 : L ≤ 1099511627776) (hP : L * d = P) (hQ : H * d = Q)
    (hc : (H = L ∧ P = n ∧ Q = n) ∨ (H = L + 1 ∧ P < n ∧ n < P + d ∧ Q = P + d))
    (hh : (1 ≤ how ∧ how ≤ 4 ∧ E = 0 ∧ (X = L ∨ X = H)) ∨ ((how < 1 ∨ 4 < how) ∧ E = 1 ∧ X = 0)) :
    Calls Try.prog 3 #[.int .i64 n, .int .i64 d, .int .i64 how] w fun e w' => e = .returned (.bool true) ∧ Grown w w' := by
  have a1 : decide (d < 1) = false := by simp; omega
  have a2 : decide (2147483648 < d) = false := by simp; omega
  have a3 : decide (n < -1099511627776) = false := by simp; omega
  have a4 : decide (1099511627776 < n) = false := by simp; omega
  have a5 : decide (L < -1099511627776) = false := by simp; omega
  have a6 : decide (1099511627776 < L) = false := by simp; omega
  have a7 : decide (1 < H - L) = false := by simp; omega
  have a8 : decide (H < L) = false := by simp; omega
  have a9 : decide (n < P) = false := by simp; omega
  have a10 : decide (Q < n) = false := by simp; omega
  have p0 : -1200000000000 ≤ P := by omega
  have p1 : P ≤ 1200000000000 := by omega
  have q0 : -1200000000000 ≤ Q := by omega
  have q1 : Q ≤ 1200000000000 := by omega
  have g0 : L ≤ H := by omega
  have g1 : H ≤ L + 1 := by omega
  obtain ⟨b, b1, b2⟩ : ∃ b, (L == H) = b ∧ (P == n) = b := by
    rcases hc with hc | hc
    · exact ⟨true, by simp; omega, by simp; omega⟩
    · exact ⟨false, by simp; omega, by simp; omega⟩
  rcases hh with ⟨m1, m2, rfl, hX⟩ | ⟨m, rfl, rfl⟩
  · have c1 : decide (how < 1) = false := by simp; omega
    have c2 : decide (4 < how) = false := by simp; omega
    obtain ⟨s, t, s1, t1, st⟩ : ∃ s t, (X == L) = s ∧ (X == H) = t ∧ (s = true ∨ t = true) := ⟨_, _, rfl, rfl, by simpa using hX⟩
    clear hc hX m1 m2
    cases s <;> cases t <;> (first | (exfalso; simp at st; done) | skip)
    all_goals cases b
    all_goals
      clear st
      go_enter Try.func3, Try.ntmps3
      go_wp2_with (first | (go_at_call 5; ((with_reducible refine (C1.out _).mono ?_); rintro e w' ⟨rfl, k1, rfl⟩)) | (go_at_call 5; ((with_reducible refine (C2.out _).mono ?_); rintro e w' ⟨rfl, k2, rfl⟩)) | (go_at_call 5; ((with_reducible refine (C3.out _).mono ?_); rintro e w' ⟨rfl, k3, rfl⟩)))
      go_ret
      exact ⟨rfl, by repeat (first | exact Grown.refl _ | apply Grown.drewN | apply Grown.drew | apply Grown.alloc)⟩
  · clear hc
    obtain ⟨x1, x2, y1, y2, y3⟩ : ∃ x1 x2, decide (how < 1) = x1 ∧ decide (4 < how) = x2 ∧ (x1 = true ∨ x2 = true) := ⟨_, _, rfl, rfl, by simpa using m⟩
    clear m
    cases x1 <;> cases x2 <;> (first | (exfalso; simp at y3; done) | skip)
    all_goals cases b
    all_goals
      clear y3
      go_enter Try.func3, Try.ntmps3
      go_wp2_with (first | (go_at_call 5; ((with_reducible refine (C1.out _).mono ?_); rintro e w' ⟨rfl, k1, rfl⟩)) | (go_at_call 5; ((with_reducible refine (C2.out _).mono ?_); rintro e w' ⟨rfl, k2, rfl⟩)) | (go_at_call 5; ((with_reducible refine (C3.out _).mono ?_); rintro e w' ⟨rfl, k3, rfl⟩)))
      go_ret
      exact ⟨rfl, by repeat (first | exact Grown.refl _ | apply Grown.drewN | apply Grown.drew | apply Grown.alloc)⟩

theorem walk (a0 : Int) (a1 : Int) (a2 : Int) (w0 : (Lit.int .i64 a0).wf = true) (w1 : (Lit.int .i64 a1).wf = true) (w2 : (Lit.int .i64 a2).wf = true) (w : World) :
    Calls Try.prog 3 #[.int .i64 a0, .int .i64 a1, .int .i64 a2] w fun e w' => e = .returned (.bool true) ∧ Grown w w' := by
  have b0 := bounds_i64 w0
  have b1 := bounds_i64 w1
  by_cases h : a1 < 1 ∨ 2147483648 < a1 ∨ a0 < -1099511627776 ∨ 1099511627776 < a0
  · exact out a0 a1 a2 w h
  · obtain ⟨L, H, P, Q, v1, v2, e1, e2, hP, hQ, l0, l1, hc, hh⟩ := Dv.brack a0 a1 (by omega) (by omega) (by omega)
    have c1 := fun w => Dv.div_any 1 a0 a1 w b0.1 b0.2 b1.1 b1.2
    have c2 := fun w => Dv.div_any 2 a0 a1 w b0.1 b0.2 b1.1 b1.2
    have c3 := fun w => Dv.div_any a2 a0 a1 w b0.1 b0.2 b1.1 b1.2
    rw [v1, e1] at c1
    rw [v2, e2] at c2
    refine inside a0 a1 a2 L H P Q _ _ w (by omega) (by omega) (by omega) (by omega) (Lib.hid c1) (Lib.hid c2) (Lib.hid c3) l0 l1 hP hQ hc ?_
    by_cases hm : a2 < 1 ∨ 4 < a2
    · exact .inr ⟨hm, by unfold Dv.derr; rw [if_pos hm], by unfold Dv.dval; rw [if_pos hm]⟩
    · exact .inl ⟨by omega, by omega, (hh a2 (by omega) (by omega)).1, (hh a2 (by omega) (by omega)).2⟩

/-! ### THE ROW's STEP: WRITTEN OUT: LEAVE IT -/
set_option maxRecDepth 100000 in
theorem lifted (os : Os) (started : os.Started) (H : Type) (enc : TypeId × Value → H) :
    ReturnsInHanded {} Try.checked os 3 .any (Rows.roundBracketsSpec.pre6 enc Try.prog Try.f3 Rows.roundBracketsRow.domain false) (Rows.roundBracketsSpec.post enc Try.prog Try.f3 false true false false) := by
  refine returnsInHanded_of_change (C := Try.checked) own started (by kernel_rfl) Try.func3
    (ChangeSpec.witness6 (enc := enc) (C := Try.checked) false ⟨#[], #[.int .i64 0, .int .i64 0, .int .i64 0], []⟩ 8 (by kernel_rfl) (by kernel_rfl) (by kernel_rfl) (by kernel_rfl)) ?_
  intro W base args ds gs before hval0 hW hcnd _
  have hval : ∀ (j : Nat) t v, Try.f3.params[j]? = some t → args[j]? = some v → Value.okWide Try.prog W .any base t v := hval0
  have hW' := hW
  obtain ⟨p, q, hA0, hV, rfl, hfz, hnd⟩ := hW
  have hA : DataW.TrodAll enc Try.prog W 0 (fun _ => true) true Try.f3.params.toList args.toList ds p := hA0
  rw [Try.params3] at hA hval
  obtain ⟨v0, vs0, d0, ds0, p0, q0, hargs, rfl, rfl, h0, r0⟩ := trodAll_cons hA
  obtain ⟨v1, vs1, d1, ds1, p1, q1, rfl, rfl, rfl, h1, r1⟩ := trodAll_cons r0
  obtain ⟨v2, vs2, d2, ds2, p2, q2, rfl, rfl, rfl, h2, r2⟩ := trodAll_cons r1
  obtain ⟨rfl, rfl, rfl⟩ := trodAll_nil r2
  obtain rfl : args = #[v0, v1, v2] := by cases args; simp_all
  obtain ⟨rfl, rfl⟩ := trodVars_none hV
  obtain ⟨a0, rfl, rfl, rfl, w0⟩ := open_int Try.underlying2 (hval 0 2 v0 rfl rfl) h0
  obtain ⟨a1, rfl, rfl, rfl, w1⟩ := open_int Try.underlying2 (hval 1 2 v1 rfl rfl) h1
  obtain ⟨a2, rfl, rfl, rfl, w2⟩ := open_int Try.underlying3 (hval 2 3 v2 rfl rfl) h2
  clear hA0 hval0
  simp only [List.append_nil] at hW'
  refine (walk a0 a1 a2 w0 w1 w2 W).mono fun e W' ⟨he, hg⟩ => ?_
  subst he
  exact ⟨_, rfl, post_of_same (pa := []) (pv := []) hW' (fun _ _ _ => (trodAll_cons_mk (shut_bool Try.underlying4 _) trodAll_mk0)) (fun sp _ => (trodAll_cons_mk (shut_int Try.underlying2 w0) (trodAll_cons_mk (shut_int Try.underlying2 w1) (trodAll_cons_mk (shut_int Try.underlying3 w2) trodAll_mk0)))) (fun _ _ => rfl) rfl
    (hg.frame _) hg.2.1 (ok_one (by kernel_rfl) rfl (okWide_bool_mk Try.underlying4 _))⟩

theorem over : Rows.roundBracketsRow.holds Try.pinned (OpenSpec.ofChange Rows.roundBracketsSpec) :=
  OpenClaim.holds_of_wide 3 Try.f3 rfl rfl rfl rfl rfl rfl rfl ⟨rfl, rfl, rfl, rfl, rfl⟩ rfl rfl rfl rfl rfl (by kernel_rfl) Try.func3 (by kernel_rfl)
    (of_decide_eq_true (by kernel_rfl)) (by unfold Func.isWrapper; first | (rw [if_pos (by decide +kernel)]; kernel_rfl) | (rw [if_neg (by decide +kernel)]; exact ⟨rfl, rfl⟩))
    (fun os started H enc _ => lifted os started H enc)

/-- ████ THE STATEMENT ████ -/
theorem proved : Rows.RoundBracketsSaid :=
  over
#print axioms proved
end Go.Proofs.Ytnmjenpeiafnkab.roundBrackets
