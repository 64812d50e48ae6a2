/- For every fraction, frac and how, the rounding error that Residual returns is bounded as the mode implies, and an error is the one that the reference returns (P2.7). -/
import Derived.Test.YtnmjenpeiafnkabRes1
import Derived.Test.YtnmjenpeiafnkabRes2
import Derived.Test.YtnmjenpeiafnkabFacts
import Derived.Test.YtnmjenpeiafnkabDivRAll
import Derived.Lib.SmallJoins
namespace Go.Proofs.Ytnmjenpeiafnkab.roundErrs
open Go.ChangeShapes Go.WideShapes Go.ChangeAt Go.RowKit Go.Joins
set_option linter.unusedVariables false

theorem own : ownKnob Try.prog.godebug = none := by kernel_rfl
theorem cells2 : Try.prog.cellsOf 2 = 1 := by kernel_rfl
theorem cells27 : Try.prog.cellsOf 27 = 2 := by kernel_rfl

theorem new_cases (X Y : Int) (hY : 1 ≤ Y) : (Fr.newE X Y = 3 ∧ Fr.newN X Y = 0 ∧ Fr.newD X Y = 0) ∨
    (Fr.newE X Y = 0 ∧ ∃ G, 0 < G ∧ Fr.newN X Y * G = X ∧ Fr.newD X Y * G = Y ∧ 1 ≤ Fr.newD X Y ∧ Fr.newD X Y ≤ 2147483647 ∧ -2147483647 ≤ Fr.newN X Y ∧ Fr.newN X Y ≤ 2147483647) := by
  obtain ⟨m, hm, m0⟩ : ∃ m, (if X < 0 then -X else X) = m ∧ 0 ≤ m := ⟨_, rfl, by split <;> omega⟩
  have e1 : Fr.newN X Y = Fr.lowN (decide (X < 0)) m Y := by
    unfold Fr.newN; rw [if_neg (by omega), hm, if_neg (by omega : ¬ Y < 0), decide_eq_false (by omega : ¬ Y < 0)]; simp
  have e2 : Fr.newD X Y = Fr.lowD m Y := by unfold Fr.newD; rw [if_neg (by omega), hm, if_neg (by omega)]
  have e3 : Fr.newE X Y = Fr.lowE m Y := by unfold Fr.newE; rw [if_neg (by omega), hm, if_neg (by omega)]
  rw [e1, e2, e3]
  obtain ⟨g0, g1, a0, a1, c0, c1⟩ := Fr.gcd_facts m Y m0 (by omega)
  have d1 : m / (Int.gcd m Y : Int) * (Int.gcd m Y : Int) = m := Int.ediv_mul_cancel (Int.gcd_dvd_left m Y)
  have d2 : Y / (Int.gcd m Y : Int) * (Int.gcd m Y : Int) = Y := Int.ediv_mul_cancel (Int.gcd_dvd_right m Y)
  unfold Fr.lowN Fr.lowD Fr.lowE
  by_cases h : 2147483647 < m / (Int.gcd m Y : Int) ∨ 2147483647 < Y / (Int.gcd m Y : Int)
  · left; rw [if_pos h, if_pos h, if_pos h]; exact ⟨rfl, rfl, rfl⟩
  · right
    rw [if_neg h, if_neg h, if_neg h]
    refine ⟨rfl, (Int.gcd m Y : Int), g0, ?_, d2, by omega, by omega, ?_, ?_⟩
    · by_cases hx : X < 0
      · rw [decide_eq_true hx, if_pos rfl, Int.neg_mul, d1]; rw [if_pos hx] at hm; omega
      · rw [decide_eq_false hx, if_neg (by decide), d1]; rw [if_neg hx] at hm; omega
    · split <;> omega
    · split <;> omega
theorem lt_of (M B G x y : Int) (hG : 0 < G) (h1 : M * G = x) (h2 : B * G = y) (h : x < y) : M < B := by
  rw [← h1, ← h2] at h
  exact Int.lt_of_mul_lt_mul_right h (by omega)
theorem le_of (M B G x y : Int) (hG : 0 < G) (h1 : M * G = x) (h2 : B * G = y) (h : x ≤ y) : M ≤ B := by
  rw [← h1, ← h2] at h
  exact Int.le_of_mul_le_mul_right h hG

theorem erf (n d frac how u v g : Int) (w : World)
    (C : Hid (∀ w, Calls Try.prog 12 #[.agg #[.int .i64 n, .int .i64 d], .int .i64 frac, .int .i64 how] w (Fr.Ret (Fr.Frac3 u v g) w))) :
    Calls Try.prog 7 #[.agg #[.int .i64 n, .int .i64 d], .int .i64 frac, .int .i64 how] w (Fr.Ret (.int .i64 g) w) := by
  go_enter Try.func7, Try.ntmps7
  go_wp2_with (go_at_call 12; refine (C.out _).mono ?_; rintro e w1 ⟨rfl, hb⟩)
  have z := hb.size
  simp at z
  go_ret
  refine ⟨rfl, ?_⟩
  refine Below.alloc ?_ (by omega) _
  exact ((Below.refl _ _).alloc (Nat.le_refl _) _).trans (hb.mono (by simp))

set_option maxHeartbeats 8000000 in
theorem lawE (n d frac k how g : Int) (w : World) (hk : frac % 31 = k) (f0 : 0 ≤ frac) (f1 : frac ≤ 255) (k0 : 0 ≤ k) (k1 : k ≤ 30) (hg : g = 1 ∨ g = 3)
    (C1 : Hid (∀ w, Calls Try.prog 6 #[.agg #[.int .i64 n, .int .i64 d], .int .i64 k, .int .i64 how] w (Fr.Ret (Fr.Frac3 0 0 g) w)))
    (C2 : Hid (∀ w, Calls Try.prog 7 #[.agg #[.int .i64 n, .int .i64 d], .int .i64 k, .int .i64 how] w (Fr.Ret (.int .i64 g) w))) :
    Calls Try.prog 4 #[.agg #[.int .i64 n, .int .i64 d], .int .u8 frac, .int .i64 how] w fun e w' => e = .returned (.bool true) ∧ Below w.heap.size w w' := by
  have hg0 : (g != 0) = true := by simp; omega
  go_enter Try.func4, Try.ntmps4
  go_wp2_with fail
  refine (C1.out _).mono ?_
  rintro e w1 ⟨rfl, hb1⟩
  have z1 : w.heap.size < w1.heap.size := by
    have := hb1.size
    simp at this
    omega
  have a0 := (Fr.bcell hb1).1 w.heap.size 0 (by simp)
  have a1 := (Fr.bcell hb1).1 w.heap.size 1 (by simp)
  simp at a0 a1
  go_wp2_with (go_at_call 7; refine (C2.out _).mono ?_; rintro e w2 ⟨rfl, hb2⟩)
  go_ret
  refine ⟨rfl, ?_⟩
  refine Below.trans ?_ (hb2.mono (by simp; omega))
  refine Below.alloc ?_ (by omega) _
  refine Below.trans ?_ (hb1.mono (by simp))
  exact (Below.refl _ _).alloc (Nat.le_refl _) _

set_option maxHeartbeats 8000000 in
theorem lawV (n d frac k how u v p M : Int) (w : World) (hk : frac % 31 = k) (f0 : 0 ≤ frac) (f1 : frac ≤ 255) (k0 : 0 ≤ k) (k1 : k ≤ 30) (hm : how = 1 ∨ how = 2 ∨ how = 3 ∨ how = 4)
    (hp : (2 : Int) ^ k.toNat = p) (p0 : 1 ≤ p) (p1 : p ≤ 1073741824) (hM : u * p = M) (v0 : 1 ≤ v) (v1 : v ≤ 2147483647) (u0 : -2147483647 ≤ u) (u1 : u ≤ 2147483647)
    (M0 : -v < M) (M1 : M < v) (M2 : how = 1 → 0 ≤ M) (M3 : how = 2 → M ≤ 0) (M4 : how = 4 → -v ≤ 2 * M ∧ 2 * M ≤ v)
    (C1 : Hid (∀ w, Calls Try.prog 6 #[.agg #[.int .i64 n, .int .i64 d], .int .i64 k, .int .i64 how] w (Fr.Ret (Fr.Frac3 u v 0) w))) :
    Calls Try.prog 4 #[.agg #[.int .i64 n, .int .i64 d], .int .u8 frac, .int .i64 how] w fun e w' => e = .returned (.bool true) ∧ Below w.heap.size w w' := by
  have b1 : decide (v < 1) = false := by simp; omega
  have b2 : decide (2147483647 < v) = false := by simp; omega
  have b3 : decide (2147483647 < u) = false := by simp; omega
  have b4 : decide (u < -2147483647) = false := by simp; omega
  have b5 : decide (M < v) = true := by simp; omega
  have b6 : decide (-v < M) = true := by simp; omega
  have b7 : how = 1 → decide (0 ≤ M) = true := fun h => by have := M2 h; simp; omega
  have b8 : how = 2 → decide (M ≤ 0) = true := fun h => by have := M3 h; simp; omega
  have b9 : how = 4 → decide (2 * M ≤ v) = true ∧ decide (-v ≤ 2 * M) = true := fun h => by have := M4 h; simp; omega
  clear M2 M3 M4
  rcases hm with rfl | rfl | rfl | rfl
  all_goals
    try have c7 := b7 rfl
    try have c8 := b8 rfl
    try have c9 := (b9 rfl).1
    try have c10 := (b9 rfl).2
    clear b7 b8 b9
    go_enter Try.func4, Try.ntmps4
    go_wp2_with (go_at_call 6; refine (C1.out _).mono ?_; rintro e w1 ⟨rfl, hb1⟩)
    have z1 := hb1.size
    simp at z1
    go_ret
    refine ⟨rfl, ?_⟩
    refine Below.alloc ?_ (by omega) _
    refine Below.trans ?_ (hb1.mono (by simp))
    exact (Below.refl _ _).alloc (Nat.le_refl _) _

theorem walk (n d frac how : Int) (w : World) (hf : (Lit.int .u8 frac).wf = true) :
    Calls Try.prog 4 #[.agg #[.int .i64 n, .int .i64 d], .int .u8 frac, .int .i64 how] w fun e w' => e = .returned (.bool true) ∧ Below w.heap.size w w' := by
  have f0 := (bounds_u8 hf).1
  have f1 := (bounds_u8 hf).2
  obtain ⟨k, hk, k0, k1⟩ : ∃ k, frac % 31 = k ∧ 0 ≤ k ∧ k ≤ 30 := ⟨_, rfl, by omega, by omega⟩
  by_cases h : Fr.qok n d k how = true
  · obtain ⟨p, T, q, S, X, Y, _, _, m0, m1, hp, p0, p1, hT, t0, t1, hS, s0, s1, hY, y0, y1, hX, hq, he, d0, d1, x0, x1, x2, x3, x4⟩ := Fr.facts n d k how h
    have D := fun w => Dv.div_any how T d w (by omega) (by omega) (by omega) (by omega)
    have RD := fun w => Dv.rdiv_any how T d w (by omega) (by omega) (by omega) (by omega)
    rw [hq, he] at D RD
    have Q := fun w => Fr.quant_ok n d k how p T q w h hp p0 p1 hT t0 t1 (Lib.hid D)
    have RQ := fun w => Fr.rquant_ok n d k how p T q w h hp p0 p1 hT t0 t1 (Lib.hid RD)
    have R := fun w => Fr.res_ok n d k how p T q S Y w k0 k1 hp p0 p1 hT t0 t1 hS s0 s1 hY y0 y1 (Lib.hid Q)
    have RR := fun w => Fr.rres_ok n d k how p T q S X Y w k0 k1 hp p0 p1 hT t0 t1 hS s0 s1 hY y0 y1 hX (Lib.hid RQ)
    rw [hX] at R
    rcases new_cases X Y y0 with ⟨e1, e2, e3⟩ | ⟨e1, G, hG, e2, e3, v0, v1, u0, u1⟩
    · rw [e1, e2, e3] at R RR
      exact lawE n d frac k how 3 w hk f0 f1 k0 k1 (.inr rfl) (Lib.hid R) (Lib.hid fun w => erf n d k how 0 0 3 w (Lib.hid RR))
    · rw [e1] at R
      obtain ⟨u, hu⟩ : ∃ u, Fr.newN X Y = u := ⟨_, rfl⟩
      obtain ⟨v, hv⟩ : ∃ v, Fr.newD X Y = v := ⟨_, rfl⟩
      rw [hu] at R e2 u0 u1
      rw [hv] at R e3 v0 v1
      obtain ⟨M, hM⟩ : ∃ M, u * p = M := ⟨_, rfl⟩
      have hMG : M * G = X * p := by rw [← hM, ← e2, Int.mul_assoc, Int.mul_assoc, Int.mul_comm p G]
      have hvG : v * G = d * p := by rw [e3, hY]
      have hnG : (-v) * G = (-d) * p := by rw [Int.neg_mul, Int.neg_mul, hvG]
      have h2G : (2 * M) * G = (2 * X) * p := by rw [Int.mul_assoc, hMG, Int.mul_assoc]
      have hpp : 0 < p := by omega
      refine lawV n d frac k how u v p M w hk f0 f1 k0 k1 (by omega) hp p0 p1 hM v0 v1 u0 u1 ?_ ?_ ?_ ?_ ?_ (Lib.hid R)
      · exact lt_of _ _ G _ _ hG hnG hMG (Int.mul_lt_mul_of_pos_right x0 hpp)
      · exact lt_of _ _ G _ _ hG hMG hvG (Int.mul_lt_mul_of_pos_right x1 hpp)
      · intro hh; exact le_of 0 M G 0 _ hG (by omega) hMG (Int.mul_nonneg (x2 hh) (by omega))
      · intro hh; exact le_of M 0 G _ 0 hG hMG (by omega) (Int.mul_nonpos_of_nonpos_of_nonneg (x3 hh) (by omega))
      · intro hh
        exact ⟨le_of _ _ G _ _ hG hnG h2G (Int.mul_le_mul_of_nonneg_right (x4 hh).1 (by omega)), le_of _ _ G _ _ hG h2G hvG (Int.mul_le_mul_of_nonneg_right (x4 hh).2 (by omega))⟩
  · have h : Fr.qok n d k how = false := by simpa using h
    exact lawE n d frac k how 1 w hk f0 f1 k0 k1 (.inl rfl) (Lib.hid fun w => Fr.res_bad n d k how w h) (Lib.hid fun w => erf n d k how 0 0 1 w (Lib.hid fun w => Fr.rres_bad n d k how w h))

set_option maxRecDepth 100000 in
theorem lifted (os : Os) (started : os.Started) (H : Type) (enc : TypeId × Value → H) :
    ReturnsInHanded {} Try.checked os 4 .any (Rows.roundErrsSpec.pre6 enc Try.prog Try.f4 Rows.roundErrsRow.domain false) (Rows.roundErrsSpec.post enc Try.prog Try.f4 false true false false) := by
  refine returnsInHanded_of_change (C := Try.checked) own started (by kernel_rfl) Try.func4
    (ChangeSpec.witness6 (enc := enc) (C := Try.checked) false ⟨#[], #[.agg #[.int .i64 0, .int .i64 0], .int .u8 0, .int .i64 0], []⟩ 8 (by kernel_rfl) (by kernel_rfl) (by kernel_rfl) (by kernel_rfl)) ?_
  intro W base args ds gs before hval0 hW hcnd _
  have hval : ∀ (j : Nat) t v, Try.f4.params[j]? = some t → args[j]? = some v → Value.okWide Try.prog W .any base t v := hval0
  have hW' := hW
  obtain ⟨p, q, hA0, hV, rfl, hfz, hnd⟩ := hW
  have hA : DataW.TrodAll enc Try.prog W 0 (fun _ => true) true Try.f4.params.toList args.toList ds p := hA0
  rw [Try.params4] at hA hval
  obtain ⟨v0, vs0, d0, ds0, p0, q0, hargs, rfl, rfl, h0, r0⟩ := trodAll_cons hA
  obtain ⟨v1, vs1, d1, ds1, p1, q1, rfl, rfl, rfl, h1, r1⟩ := trodAll_cons r0
  obtain ⟨v2, vs2, d2, ds2, p2, q2, rfl, rfl, rfl, h2, r2⟩ := trodAll_cons r1
  obtain ⟨rfl, rfl, rfl⟩ := trodAll_nil r2
  obtain rfl : args = #[v0, v1, v2] := by cases args; simp_all
  obtain ⟨rfl, rfl⟩ := trodVars_none hV
  obtain ⟨c0, c1, y0, y1, m, rfl, rfl, rfl, hy0, hy1⟩ := open_agg2 Try.underlying27 (by kernel_rfl) cells27 (hval 0 27 v0 rfl rfl) h0
  obtain ⟨a, e0, rfl, wa⟩ := DataW.trod_int Try.underlying2 hy0
  obtain ⟨b, e1, rfl, wb⟩ := DataW.trod_int Try.underlying2 hy1
  simp at e0 e1
  subst e0 e1
  obtain ⟨a1, rfl, rfl, rfl, w1⟩ := open_int Try.underlying5 (hval 1 5 v1 rfl rfl) h1
  obtain ⟨a2, rfl, rfl, rfl, w2⟩ := open_int Try.underlying3 (hval 2 3 v2 rfl rfl) h2
  clear hA0 hval0
  simp only [List.append_nil] at hW'
  have structReads : ∀ (W' : World) (sp : Nat → Bool), DataW.Trod enc Try.prog W' 0 sp true 27 (.agg #[.int .i64 a, .int .i64 b]) (.agg [.lit (.int .i64 a), .lit (.int .i64 b)]) [] := fun W' sp =>
    shut_agg2 (y0 := (.lit (.int .i64 a), [])) (y1 := (.lit (.int .i64 b), [])) Try.underlying27 (by kernel_rfl) cells27 ⟨1, by simp [DataW.trod, Try.underlying2, wa]⟩ ⟨1, by simp [DataW.trod, Try.underlying2, wb]⟩
  refine (walk a b a1 a2 W w1).mono fun e W' ⟨he, bel⟩ => ?_
  subst he
  exact ⟨_, rfl, _, _, _, [], _, [], hW', trodAll_mk1 (shut_bool Try.underlying4 _), (trodAll_cons_mk (structReads _ _) (trodAll_cons_mk (shut_int Try.underlying5 w1) (trodAll_cons_mk (shut_int Try.underlying3 w2) trodAll_mk0))), rfl, bel.frame _, fun h => by cases h⟩

theorem over : Rows.roundErrsRow.holds Try.pinned (OpenSpec.ofChange Rows.roundErrsSpec) :=
  OpenClaim.holds_of_wide 4 Try.f4 rfl rfl rfl rfl rfl rfl rfl ⟨rfl, rfl, rfl, rfl, rfl⟩ rfl rfl rfl rfl rfl (by kernel_rfl) Try.func4 (by kernel_rfl)
    (of_decide_eq_true (by kernel_rfl)) (by unfold Func.isWrapper; first | (rw [if_pos (by decide +kernel)]; kernel_rfl) | (rw [if_neg (by decide +kernel)]; exact ⟨rfl, rfl⟩))
    (fun os started H enc _ => lifted os started H enc)

theorem proved : Rows.RoundErrsSaid := over
#print axioms proved
end Go.Proofs.Ytnmjenpeiafnkab.roundErrs
