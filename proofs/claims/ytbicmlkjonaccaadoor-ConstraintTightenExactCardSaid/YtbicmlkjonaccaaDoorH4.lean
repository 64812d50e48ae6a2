/- Lists of constraints by the tests. -/
import Derived.Test.YtbicmlkjonaccaaDoorH3
import Derived.WalkKit
import Derived.ProofKit
import Derived.OpenShut
import Derived.Laws.AppendOwn
import Derived.Laws.OwnMore
import Derived.OneCell
import Derived.Deep.Onto

namespace Go.Proofs.YtbicmlkjonaccaaDoor.Ln
open Go.ChangeShapes Go.WideShapes Go.ChangeAt Go.RowKit
open Go.Proofs.YtbicmlkjonaccaaDoor.Nm
set_option linter.unusedVariables false
set_option linter.unusedSimpArgs false
set_option maxRecDepth 8000

theorem SlQ.kp {w w' : World} {p : Option Addr} {l : List Qm} (hb : Below w.heap.size w w') (h : SlQ w p l) : SlQ w' p l := fun i hi => by
  obtain ⟨b, o, q, c, hp, c0, c1, c2, hS⟩ := h i hi
  have lb : b < w.heap.size := World.block_lt_of_cell? _ _ c0
  exact ⟨b, o, q, c, hp, Rg.keep hb lb c0, Rg.keep hb lb c1, Rg.keep hb lb c2, SlM.keep hb hS⟩
set_option maxRecDepth 100000 in
set_option maxHeartbeats 8000000 in
/-- Two lists that read the same are the same by the tests. -/
theorem consEq (p q : Option Addr) (l : List Qm) (c d : Nat) (w : World) (hl : l.length ≤ 1000) (hx : Hid (∀ f ∈ l, f.2.1.length ≤ maxLen)) (RA : Hid (SlQ w p l)) (RB : Hid (SlQ w q l)) : Calls Tryd.prog 33 #[.slice p l.length c, .slice q l.length d] w fun e w' => e = .returned (.bool true) ∧ Below w.heap.size w w' := by
  obtain ⟨n, hnn⟩ : ∃ n, l.length = n := ⟨_, rfl⟩
  have HN := Lib.hid hnn
  rw [hnn] at hl ⊢
  clear hnn
  go_enter Tryd.func33, Tryd.ntmps33
  go_wp2_with fail
  go_loopw [5] (fun i wr => ∃ (j : Nat), i = .int .i64 j ∧ j ≤ n ∧ Below w.heap.size w wr) (fun i _ => n - (intOf i).toNat)
  case atStart => exact ⟨0, rfl, Nat.zero_le _, Below.refl _ _⟩
  case round =>
    obtain ⟨j, rfl, hj, hB⟩ := hrel
    have jj : (0 : Int) ≤ j := by omega
    by_cases hlt : j < n
    · obtain ⟨b, o, qa, da, rfl, c0, c1, c2, hM⟩ := RA.out j (by rw [HN.out]; exact hlt)
      obtain ⟨b', o', qb, db, rfl, e0, e1, e2, hM'⟩ := RB.out j (by rw [HN.out]; exact hlt)
      have j2 : (j : Int) < n := by omega
      have hbw : b < w.heap.size := World.block_lt_of_cell? _ _ c0
      have hbw' : b' < w.heap.size := World.block_lt_of_cell? _ _ e0
      replace c0 := Rg.keep hB hbw c0
      replace c1 := Rg.keep hB hbw c1
      replace c2 := Rg.keep hB hbw c2
      replace e0 := Rg.keep hB hbw' e0
      replace e1 := Rg.keep hB hbw' e1
      replace e2 := Rg.keep hB hbw' e2
      have HM1 := Lib.hid (SlM.keep hB hM)
      have HM2 := Lib.hid (SlM.keep hB hM')
      have hlx := hx.out _ (qget (l := l) (i := j) (by rw [HN.out]; exact hlt))
      obtain ⟨f, hf⟩ : ∃ f, l.getD j q0m = f := ⟨_, rfl⟩
      rw [hf] at c0 c1 c2 e0 e1 e2 HM1 HM2 hlx
      obtain ⟨k, xs, eq⟩ := f
      dsimp only at c0 c1 c2 e0 e1 e2 HM1 HM2 hlx
      have CE := Lib.hid fun p q c d w h1 h2 => conEq k p q xs c d eq w hlx h1 h2
      have HB := Lib.hid hB
      unfold Cv at CE
      clear hM hM' hf hlx hB
      have HS : Hid (∀ u u' : World, (u.cell? ⟨b, o + j * 3, none⟩ = some (.int .i64 k) ∧ u.cell? ⟨b, o + j * 3 + 1, none⟩ = some (.slice qa xs.length da) ∧ u.cell? ⟨b, o + j * 3 + 2, none⟩ = some (.bool eq) ∧ u.cell? ⟨b', o' + j * 3, none⟩ = some (.int .i64 k) ∧ u.cell? ⟨b', o' + j * 3 + 1, none⟩ = some (.slice qb xs.length db) ∧ u.cell? ⟨b', o' + j * 3 + 2, none⟩ = some (.bool eq) ∧ Below wr.heap.size wr u) → Below u.heap.size u u' → (u'.cell? ⟨b, o + j * 3, none⟩ = some (.int .i64 k) ∧ u'.cell? ⟨b, o + j * 3 + 1, none⟩ = some (.slice qa xs.length da) ∧ u'.cell? ⟨b, o + j * 3 + 2, none⟩ = some (.bool eq) ∧ u'.cell? ⟨b', o' + j * 3, none⟩ = some (.int .i64 k) ∧ u'.cell? ⟨b', o' + j * 3 + 1, none⟩ = some (.slice qb xs.length db) ∧ u'.cell? ⟨b', o' + j * 3 + 2, none⟩ = some (.bool eq) ∧ Below wr.heap.size wr u')) := Lib.hid (fun u u' h hb => ⟨Rg.keep hb (World.block_lt_of_cell? _ _ h.1) h.1, Rg.keep hb (World.block_lt_of_cell? _ _ h.2.1) h.2.1, Rg.keep hb (World.block_lt_of_cell? _ _ h.2.2.1) h.2.2.1, Rg.keep hb (World.block_lt_of_cell? _ _ h.2.2.2.1) h.2.2.2.1, Rg.keep hb (World.block_lt_of_cell? _ _ h.2.2.2.2.1) h.2.2.2.2.1, Rg.keep hb (World.block_lt_of_cell? _ _ h.2.2.2.2.2.1) h.2.2.2.2.2.1, h.2.2.2.2.2.2.trans (hb.mono h.2.2.2.2.2.2.size)⟩)
      go_wp2_with fail
      refine Rk.begin (S := fun wS => wS.cell? ⟨b, o + j * 3, none⟩ = some (.int .i64 k) ∧ wS.cell? ⟨b, o + j * 3 + 1, none⟩ = some (.slice qa xs.length da) ∧ wS.cell? ⟨b, o + j * 3 + 2, none⟩ = some (.bool eq) ∧ wS.cell? ⟨b', o' + j * 3, none⟩ = some (.int .i64 k) ∧ wS.cell? ⟨b', o' + j * 3 + 1, none⟩ = some (.slice qb xs.length db) ∧ wS.cell? ⟨b', o' + j * 3 + 2, none⟩ = some (.bool eq) ∧ Below wr.heap.size wr wS) 9 (by kernel_rfl) ⟨c0, c1, c2, e0, e1, e2, (Below.refl _ _).drew⟩ (fun hHeld => ?_)
      refine Rk.takeP (i := 0) (v := ?_) rfl (by kernel_rfl) (by kernel_rfl) (by kernel_rfl) (by kernel_rfl) (fun _ _ _ h => h) (Or.inl ⟨by kernel_rfl, ?_⟩) (by assumption) ?_
      rotate_left
      · ((intro w hSw; go_simp) <;> with_reducible rfl)
      try simp only [Act.put, List.setIfInBounds_toArray, List.set_cons_zero, List.set_cons_succ]
      refine Rk.takeP (i := 1) (v := ?_) rfl (by kernel_rfl) (by kernel_rfl) (by kernel_rfl) (by kernel_rfl) (fun _ _ _ h => h) (Or.inl ⟨by kernel_rfl, ?_⟩) (by assumption) ?_
      rotate_left
      · ((intro w hSw; go_simp) <;> with_reducible rfl)
      try simp only [Act.put, List.setIfInBounds_toArray, List.set_cons_zero, List.set_cons_succ]
      refine Rk.takeP (i := 2) (v := ?_) rfl (by kernel_rfl) (by kernel_rfl) (by kernel_rfl) (by kernel_rfl) (fun _ _ _ h => h) (Or.inl ⟨by kernel_rfl, ?_⟩) (by assumption) ?_
      rotate_left
      · ((intro w hSw; go_simp) <;> with_reducible rfl)
      try simp only [Act.put, List.setIfInBounds_toArray, List.set_cons_zero, List.set_cons_succ]
      refine Rk.take [8, 9] (i := 3) (v := ?_) rfl (by kernel_rfl) (by kernel_rfl) (by kernel_rfl) (by kernel_rfl) (by kernel_rfl) (fun _ _ _ h => h) (Or.inl ⟨by kernel_rfl, ?_⟩) (by assumption) ?_
      rotate_left
      · ((intro w hSw; (try dsimp only at hSw); go_simp) <;> with_reducible rfl)
      try simp only [Act.put, List.setIfInBounds_toArray, List.set_cons_zero, List.set_cons_succ]
      refine Rk.takeP (i := 4) (v := ?_) rfl (by kernel_rfl) (by kernel_rfl) (by kernel_rfl) (by kernel_rfl) (fun _ _ _ h => h) (Or.inl ⟨by kernel_rfl, ?_⟩) (by assumption) ?_
      rotate_left
      · ((intro w hSw; go_simp) <;> with_reducible rfl)
      try simp only [Act.put, List.setIfInBounds_toArray, List.set_cons_zero, List.set_cons_succ]
      refine Rk.takeP (i := 5) (v := ?_) rfl (by kernel_rfl) (by kernel_rfl) (by kernel_rfl) (by kernel_rfl) (fun _ _ _ h => h) (Or.inl ⟨by kernel_rfl, ?_⟩) (by assumption) ?_
      rotate_left
      · ((intro w hSw; go_simp) <;> with_reducible rfl)
      try simp only [Act.put, List.setIfInBounds_toArray, List.set_cons_zero, List.set_cons_succ]
      refine Rk.takeP (i := 6) (v := ?_) rfl (by kernel_rfl) (by kernel_rfl) (by kernel_rfl) (by kernel_rfl) (fun _ _ _ h => h) (Or.inl ⟨by kernel_rfl, ?_⟩) (by assumption) ?_
      rotate_left
      · ((intro w hSw; go_simp) <;> with_reducible rfl)
      try simp only [Act.put, List.setIfInBounds_toArray, List.set_cons_zero, List.set_cons_succ]
      refine Rk.take [8, 9] (i := 7) (v := ?_) rfl (by kernel_rfl) (by kernel_rfl) (by kernel_rfl) (by kernel_rfl) (by kernel_rfl) (fun _ _ _ h => h) (Or.inl ⟨by kernel_rfl, ?_⟩) (by assumption) ?_
      rotate_left
      · ((intro w hSw; (try dsimp only at hSw); go_simp) <;> with_reducible rfl)
      try simp only [Act.put, List.setIfInBounds_toArray, List.set_cons_zero, List.set_cons_succ]
      refine Rk.one (i := 8) (by kernel_rfl) rfl (fun KK hK => ?_)
      rw [if_pos (by kernel_rfl)]
      go_simp
      ((with_reducible refine (CE.out qa qb da db _ (Lib.hid (SlM.keep hHeld.2.2.2.2.2.2 HM1.out)) (Lib.hid (SlM.keep hHeld.2.2.2.2.2.2 HM2.out))).mono ?_); rintro e u ⟨rfl, hb⟩)
      first | (refine hK.out _ _ (fun _ => HS.out _ _ hHeld hb) (fun hHeld => ?_)) | (refine hK.out _ _ (HS.out _ _ hHeld hb) (fun hHeld => ?_)) | (go_wp2_with fail; refine hK.out _ _ (HS.out _ _ hHeld hb) (fun hHeld => ?_))
      clear hK KK
      refine Rk.tail [9] [_] (by kernel_rfl) (by kernel_rfl) rfl (by decide) ?_
      have KU := HB.out.trans ((hHeld.2.2.2.2.2.2).mono HB.out.size)
      clear hHeld
      go_wp2_with fail
      go_roundw
      case rel => exact ⟨j + 1, by go_num, by omega, KU⟩
      case measure => simp [intOf]; omega
    · obtain rfl : j = n := by omega
      go_wp2
      go_ret
      exact ⟨rfl, hB⟩
end Go.Proofs.YtbicmlkjonaccaaDoor.Ln


namespace Go.Proofs.YtbicmlkjonaccaaDoor.Ln
open Go.ChangeShapes Go.WideShapes Go.ChangeAt Go.RowKit
set_option linter.unusedVariables false
set_option linter.unusedSimpArgs false
def fit64 (n : Int) : Bool := decide (-9223372036854775808 ≤ n) && decide (n ≤ 9223372036854775807)
theorem fit_yes {n : Int} : fit64 n = true ↔ -9223372036854775808 ≤ n ∧ n ≤ 9223372036854775807 := by
  unfold fit64
  rw [Bool.and_eq_true, decide_eq_true_eq, decide_eq_true_eq]
theorem wrap_off (n : Int) : ∃ m : Int, IntKind.i64.wrap n = n - m * 18446744073709551616 ∧ -9223372036854775808 ≤ IntKind.i64.wrap n ∧ IntKind.i64.wrap n ≤ 9223372036854775807 := by
  rw [IntKind.wrap_i64]
  refine ⟨(n + 9223372036854775808) / 18446744073709551616, ?_, ?_, ?_⟩ <;> omega
/-- The quotient gives the factor back just where the product fits. -/
theorem back {a b C : Int} (hb : b ≠ 0) (hb1 : -9223372036854775808 ≤ b) (hb2 : b ≤ 9223372036854775807) (hC : C = IntKind.i64.wrap (a * b)) (h : C.tdiv b = a) : fit64 (a * b) = true := by
  obtain ⟨m, h1, h2, h3⟩ := wrap_off (a * b)
  rw [← hC] at h1 h2 h3
  have e := Int.mul_tdiv_add_tmod C b
  rw [h] at e
  have hm : (C.tmod b).natAbs < b.natAbs := by rw [Int.natAbs_tmod]; exact Nat.mod_lt _ (by omega)
  have hc : b * a = a * b := Int.mul_comm b a
  rw [hc] at e
  rw [fit_yes]
  generalize C.tmod b = r at *
  generalize a * b = P at *
  omega
theorem there {a b C : Int} (hb : b ≠ 0) (hC : C = IntKind.i64.wrap (a * b)) (h : fit64 (a * b) = true) : C = a * b ∧ C.tdiv b = a := by
  have hf := fit_yes.1 h
  have : C = a * b := by rw [hC]; exact IntWalk.i64_in _ hf
  exact ⟨this, by rw [this]; exact Int.mul_tdiv_cancel a hb⟩
set_option maxRecDepth 100000 in
set_option maxHeartbeats 8000000 in
theorem times (a b : Int) (w : World) (ha1 : -9223372036854775808 ≤ a) (ha2 : a ≤ 9223372036854775807) (hb1 : -9223372036854775808 ≤ b) (hb2 : b ≤ 9223372036854775807) :
    Calls Tryd.prog 98 #[.int .i64 a, .int .i64 b] w fun e w' => e = .returned (.tuple #[.int .i64 (if fit64 (a * b) = true then a * b else 0), .bool (fit64 (a * b))]) ∧ w = w' := by
  by_cases ha : a = 0
  · subst ha
    rw [Int.zero_mul, show fit64 0 = true from rfl, if_pos rfl]
    go_enter Tryd.func98, Tryd.ntmps98
    go_wp2
    exact bodyPost_ret (v := .tuple #[.int .i64 0, .bool true]) (by simp [results, Tryd.results98, go_sem]) rfl ⟨rfl, rfl⟩
  · have ha' : (a == 0) = false := beq_false_of_ne ha
    by_cases hb : b = 0
    · subst hb
      rw [Int.mul_zero, show fit64 0 = true from rfl, if_pos rfl]
      go_enter Tryd.func98, Tryd.ntmps98
      go_wp2
      exact bodyPost_ret (v := .tuple #[.int .i64 0, .bool true]) (by simp [results, Tryd.results98, go_sem]) rfl ⟨rfl, rfl⟩
    · have hb' : (b == 0) = false := beq_false_of_ne hb
      obtain ⟨C, hC⟩ : ∃ C, C = IntKind.i64.wrap (a * b) := ⟨_, rfl⟩
      obtain ⟨m, hmm, hC1, hC2⟩ := wrap_off (a * b)
      clear hmm
      rw [← hC] at hC1 hC2
      obtain ⟨D, hD⟩ : ∃ D, D = IntKind.i64.wrap (C.tdiv b) := ⟨_, rfl⟩
      by_cases hs : (a = -1 ∧ b = -9223372036854775808) ∨ (b = -1 ∧ a = -9223372036854775808)
      · rcases hs with ⟨rfl, rfl⟩ | ⟨rfl, rfl⟩
        · rw [show fit64 (-1 * -9223372036854775808) = false from rfl, if_neg (by decide)]
          go_enter Tryd.func98, Tryd.ntmps98
          go_wp2
          exact bodyPost_ret (v := .tuple #[.int .i64 0, .bool false]) (by simp [results, Tryd.results98, go_sem]) rfl ⟨rfl, rfl⟩
        · rw [show fit64 (-9223372036854775808 * -1) = false from rfl, if_neg (by decide)]
          go_enter Tryd.func98, Tryd.ntmps98
          go_wp2
          exact bodyPost_ret (v := .tuple #[.int .i64 0, .bool false]) (by simp [results, Tryd.results98, go_sem]) rfl ⟨rfl, rfl⟩
      · have W1 : wrap64 (a * b) = C := by rw [hC, IntKind.wrap_i64]; first | rfl | simp [wrap64]
        have W2 : wrap64 (C.tdiv b) = D := by rw [hD, IntKind.wrap_i64]; first | rfl | simp [wrap64]
        have W1' := hC.symm
        have W2' := hD.symm
        obtain ⟨q1, h1⟩ : ∃ q, (a == -1) = q := ⟨_, rfl⟩
        obtain ⟨q2, h2⟩ : ∃ q, (b == -9223372036854775808) = q := ⟨_, rfl⟩
        obtain ⟨q3, h3⟩ : ∃ q, (b == -1) = q := ⟨_, rfl⟩
        obtain ⟨q4, h4⟩ : ∃ q, (a == -9223372036854775808) = q := ⟨_, rfl⟩
        obtain ⟨q5, h5⟩ : ∃ q, (D == a) = q := ⟨_, rfl⟩
        have HF : fit64 (a * b) = q5 ∧ (q5 = true → C = a * b) := by
          have hr : -9223372036854775808 ≤ C.tdiv b ∧ C.tdiv b ≤ 9223372036854775807 := by
            by_cases hbm : b = -1
            · subst hbm
              have hn : C ≠ -9223372036854775808 := by
                rw [hC, show a * -1 = -a by omega, IntKind.wrap_i64]
                intro h
                exact hs (.inr ⟨rfl, by omega⟩)
              rw [Int.tdiv_neg, Int.tdiv_one]
              omega
            · by_cases hbp : b = 1
              · subst hbp
                rw [Int.tdiv_one]
                omega
              · have e1 : (C.tdiv b).natAbs = C.natAbs / b.natAbs := Int.natAbs_tdiv C b
                have e2 : C.natAbs / b.natAbs ≤ C.natAbs / 2 := Nat.div_le_div_left (by omega) (by omega)
                omega
          have hDC : D = C.tdiv b := by rw [hD]; exact IntWalk.i64_in _ hr
          have HA : q5 = true → fit64 (a * b) = true := fun h => back hb hb1 hb2 hC (by rw [← hDC]; rw [h] at h5; exact beq_iff_eq.1 h5)
          have HB : fit64 (a * b) = true → q5 = true := fun h => by rw [← h5, beq_iff_eq, hDC]; exact (there hb hC h).2
          exact ⟨by rw [Bool.eq_iff_iff]; exact ⟨HB, HA⟩, fun h => (there hb hC (HA h)).1⟩
        have H1 : ¬ (q1 = true ∧ q2 = true) := fun h => hs (.inl ⟨by have := h.1; rw [← h1, beq_iff_eq] at this; exact this, by have := h.2; rw [← h2, beq_iff_eq] at this; exact this⟩)
        have H2 : ¬ (q3 = true ∧ q4 = true) := fun h => hs (.inr ⟨by have := h.1; rw [← h3, beq_iff_eq] at this; exact this, by have := h.2; rw [← h4, beq_iff_eq] at this; exact this⟩)
        rw [HF.1]
        have HC := Lib.hid HF.2
        clear HF hD hC hs
        cases q5
        · rw [if_neg (by decide)]
          clear HC
          cases q1 <;> cases q2 <;> cases q3 <;> cases q4 <;> first | exact absurd ⟨rfl, rfl⟩ H1 | exact absurd ⟨rfl, rfl⟩ H2 | skip
          all_goals
            go_enter Tryd.func98, Tryd.ntmps98
            go_wp2
            first | done | exact bodyPost_ret (v := .tuple #[.int .i64 0, .bool false]) (by simp [results, Tryd.results98, go_sem]) rfl ⟨rfl, rfl⟩
        · rw [if_pos rfl, ← HC.out rfl]
          clear HC
          cases q1 <;> cases q2 <;> cases q3 <;> cases q4 <;> first | exact absurd ⟨rfl, rfl⟩ H1 | exact absurd ⟨rfl, rfl⟩ H2 | skip
          all_goals
            go_enter Tryd.func98, Tryd.ntmps98
            go_wp2
            first | done | exact bodyPost_ret (v := .tuple #[.int .i64 C, .bool true]) (by simp [results, Tryd.results98, go_sem]) rfl ⟨rfl, rfl⟩
end Go.Proofs.YtbicmlkjonaccaaDoor.Ln


namespace Go.Proofs.YtbicmlkjonaccaaDoor.Ln
open Go.ChangeShapes Go.WideShapes Go.ChangeAt Go.RowKit
set_option linter.unusedVariables false
set_option linter.unusedSimpArgs false
/-- The three limbs of a number in two's complement. -/
def l0 (V : Int) : Int := V % 18446744073709551616
def l1 (V : Int) : Int := V / 18446744073709551616 % 18446744073709551616
def l2 (V : Int) : Int := V / 340282366920938463463374607431768211456 % 18446744073709551616
theorem l0_add (V X : Int) : (l0 V + l0 X) % 18446744073709551616 = l0 (V + X) := by unfold l0; omega
theorem l1_add (V X : Int) : (l1 V + l1 X + (l0 V + l0 X) / 18446744073709551616) % 18446744073709551616 = l1 (V + X) := by unfold l1 l0; omega
theorem l2_add (V X : Int) : (l2 V + l2 X + (l1 V + l1 X + (l0 V + l0 X) / 18446744073709551616) / 18446744073709551616) % 18446744073709551616 = l2 (V + X) := by
  have e : ∀ Y : Int, Y / 340282366920938463463374607431768211456 = Y / 18446744073709551616 / 18446744073709551616 := fun Y => by omega
  unfold l2 l1 l0
  rw [e V, e X, e (V + X)]
  obtain ⟨q, hq⟩ : ∃ q, V / 18446744073709551616 = q := ⟨_, rfl⟩
  obtain ⟨r, hr⟩ : ∃ r, X / 18446744073709551616 = r := ⟨_, rfl⟩
  obtain ⟨u, hu⟩ : ∃ u, (V + X) / 18446744073709551616 = u := ⟨_, rfl⟩
  have hc : u = q + r + (V % 18446744073709551616 + X % 18446744073709551616) / 18446744073709551616 := by omega
  rw [hq, hr, hu, hc]
  generalize (V % 18446744073709551616 + X % 18446744073709551616) / 18446744073709551616 = c
  clear hq hr hu hc e
  omega
theorem l_bd (V : Int) : (0 ≤ l0 V ∧ l0 V < 18446744073709551616) ∧ (0 ≤ l1 V ∧ l1 V < 18446744073709551616) ∧ (0 ≤ l2 V ∧ l2 V < 18446744073709551616) := by unfold l2 l1 l0; omega
/-- The two limbs that the unsigned product gives. -/
theorem mul_pp {a b : Int} (ha : 0 ≤ a) (ha2 : a ≤ 9223372036854775807) (hb : 0 ≤ b) (hb2 : b ≤ 9223372036854775807) : (a % 18446744073709551616) * (b % 18446744073709551616) = a * b := by
  rw [Int.emod_eq_of_lt ha (by omega), Int.emod_eq_of_lt hb (by omega)]
theorem neg_mod {a : Int} (ha : a < 0) (ha2 : -9223372036854775808 ≤ a) : a % 18446744073709551616 = a + 18446744073709551616 := by omega
theorem pos_mod {a : Int} (ha : 0 ≤ a) (ha2 : a ≤ 9223372036854775807) : a % 18446744073709551616 = a := by omega
theorem lo_eq {a b : Int} (ha1 : -9223372036854775808 ≤ a) (ha2 : a ≤ 9223372036854775807) (hb1 : -9223372036854775808 ≤ b) (hb2 : b ≤ 9223372036854775807) : (a % 18446744073709551616) * (b % 18446744073709551616) % 18446744073709551616 = l0 (a * b) := by
  unfold l0
  rw [← Int.mul_emod]
theorem hi_eq {a b : Int} (ha1 : -9223372036854775808 ≤ a) (ha2 : a ≤ 9223372036854775807) (hb1 : -9223372036854775808 ≤ b) (hb2 : b ≤ 9223372036854775807) :
    ((a % 18446744073709551616) * (b % 18446744073709551616) / 18446744073709551616 - (if a < 0 then b % 18446744073709551616 else 0) - (if b < 0 then a % 18446744073709551616 else 0)) % 18446744073709551616 = l1 (a * b) := by
  unfold l1
  by_cases h1 : a < 0
  · by_cases h2 : b < 0
    · rw [if_pos h1, if_pos h2, neg_mod h1 ha1, neg_mod h2 hb1]
      have e : (a + 18446744073709551616) * (b + 18446744073709551616) = a * b + 18446744073709551616 * a + 18446744073709551616 * b + 340282366920938463463374607431768211456 := by grind
      rw [e]
      generalize a * b = X
      omega
    · rw [if_pos h1, if_neg h2, neg_mod h1 ha1, pos_mod (by omega) hb2]
      have e : (a + 18446744073709551616) * b = a * b + 18446744073709551616 * b := by grind
      rw [e]
      generalize a * b = X
      omega
  · by_cases h2 : b < 0
    · rw [if_neg h1, if_pos h2, pos_mod (by omega) ha2, neg_mod h2 hb1]
      have e : a * (b + 18446744073709551616) = a * b + 18446744073709551616 * a := by grind
      rw [e]
      generalize a * b = X
      omega
    · rw [if_neg h1, if_neg h2, pos_mod (by omega) ha2, pos_mod (by omega) hb2]
      generalize a * b = X
      omega
theorem prod_bd {a b : Int} (ha1 : -9223372036854775808 ≤ a) (ha2 : a ≤ 9223372036854775807) (hb1 : -9223372036854775808 ≤ b) (hb2 : b ≤ 9223372036854775807) : -85070591730234615865843651857942052864 ≤ a * b ∧ a * b ≤ 85070591730234615865843651857942052864 := by
  have h : (a * b).natAbs ≤ 9223372036854775808 * 9223372036854775808 := by
    rw [Int.natAbs_mul]
    exact Nat.mul_le_mul (by omega) (by omega)
  omega
theorem sg_eq {X : Int} (h1 : -85070591730234615865843651857942052864 ≤ X) (h2 : X ≤ 85070591730234615865843651857942052864) : (if l1 X < 9223372036854775808 then 0 else 18446744073709551615) = l2 X := by
  unfold l1 l2
  split <;> omega
/-- A sum in 192 bits that fits in 64: both upper limbs repeat the lower one's sign. -/
theorem fits_iff {V : Int} (h1 : -1569275433846670190958947355801916604025588861116008628224 ≤ V) (h2 : V ≤ 1569275433846670190958947355801916604025588861116008628224) :
    (l1 V = (if l0 V < 9223372036854775808 then 0 else 18446744073709551615) ∧ l2 V = (if l0 V < 9223372036854775808 then 0 else 18446744073709551615)) ↔ (-9223372036854775808 ≤ V ∧ V ≤ 9223372036854775807) := by
  unfold l0 l1 l2
  constructor
  · intro h
    split at h <;> omega
  · intro h
    split <;> omega
end Go.Proofs.YtbicmlkjonaccaaDoor.Ln


namespace Go.Proofs.YtbicmlkjonaccaaDoor.Ln
open Go.ChangeShapes Go.WideShapes Go.ChangeAt Go.RowKit
set_option linter.unusedVariables false
set_option linter.unusedSimpArgs false
theorem u64w (n : Int) : IntKind.u64.wrap n = n % 18446744073709551616 := by simp [IntKind.wrap, IntKind.bits, IntKind.signed]
def addS (x y c : Int) : Int := (x + y + c) % 18446744073709551616
def addC (x y c : Int) : Int := (x + y + c) / 18446744073709551616
theorem addG (x y c : Int) (hx : 0 ≤ x ∧ x < 18446744073709551616) (hy : 0 ≤ y ∧ y < 18446744073709551616) (hc : 0 ≤ c ∧ c ≤ 1) (w : World) : (callFunc 112 #[.int .u64 x, .int .u64 y, .int .u64 c]).run Tryd.prog w = .ok (.value (.tuple #[.int .u64 (addS x y c), .int .u64 (addC x y c)])) w := by
  rw [run_callFunc_extern Tryd.func112 (by kernel_rfl) (by kernel_rfl) (by kernel_rfl) (e := add64Entry) (by kernel_rfl), run_add64 x y c hx.1 hy.1 hc.1 hc.2]
  rfl
theorem mulG (x y : Int) (hx : 0 ≤ x ∧ x < 18446744073709551616) (hy : 0 ≤ y ∧ y < 18446744073709551616) (w : World) : Calls Tryd.prog 111 #[.int .u64 x, .int .u64 y] w fun e w' => e = .returned (.tuple #[.int .u64 (x * y / 18446744073709551616), .int .u64 (x * y % 18446744073709551616)]) ∧ w = w' := by
  obtain ⟨n, rfl⟩ := Int.eq_ofNat_of_zero_le hx.1
  obtain ⟨m, rfl⟩ := Int.eq_ofNat_of_zero_le hy.1
  refine (Tryd.bits_Mul64 n m (by omega) (by omega) w).mono ?_
  rintro e w' ⟨rfl, rfl⟩
  exact ⟨by rw [Int.natCast_ediv, Int.natCast_emod, Int.natCast_mul]; rfl, rfl⟩
set_option maxRecDepth 100000 in
set_option maxHeartbeats 8000000 in
theorem waddT (g : Nat) (x0 x1 x2 a b A B H H1 H2 L : Int) (w : World) (hA : IntKind.u64.wrap a = A) (hB : IntKind.u64.wrap b = B)
    (C1 : Hid (∀ w, Calls Tryd.prog 111 #[.int .u64 A, .int .u64 B] w fun e w' => e = .returned (.tuple #[.int .u64 H, .int .u64 L]) ∧ w = w'))
    (e1 : Hid (a < 0 → IntKind.u64.wrap (H - B) = H1)) (e1' : Hid (¬ a < 0 → H = H1)) (e2 : Hid (b < 0 → IntKind.u64.wrap (H1 - A) = H2)) (e2' : Hid (¬ b < 0 → H1 = H2))
    (a0 : w.cell? ⟨g, 0, none⟩ = some (.int .u64 x2)) (a1 : w.cell? ⟨g, 1, none⟩ = some (.int .u64 x1)) (a2 : w.cell? ⟨g, 2, none⟩ = some (.int .u64 x0)) (z0 : w.frozen? ⟨g, 0, none⟩ = false) (z1 : w.frozen? ⟨g, 1, none⟩ = false) (z2 : w.frozen? ⟨g, 2, none⟩ = false) 
    (y0 c0 y1 c1 y2 c2 S : Int) (hS : IntKind.u64.wrap (wrap64 H2 / 9223372036854775808) = S)
    (D0 : ∀ w, (callFunc 112 #[.int .u64 x0, .int .u64 L, .int .u64 0]).run Tryd.prog w = .ok (.value (.tuple #[.int .u64 y0, .int .u64 c0])) w)
    (D1 : ∀ w, (callFunc 112 #[.int .u64 x1, .int .u64 H2, .int .u64 c0]).run Tryd.prog w = .ok (.value (.tuple #[.int .u64 y1, .int .u64 c1])) w)
    (D2 : ∀ w, (callFunc 112 #[.int .u64 x2, .int .u64 S, .int .u64 c1]).run Tryd.prog w = .ok (.value (.tuple #[.int .u64 y2, .int .u64 c2])) w) :
    Calls Tryd.prog 80 #[.pointer (some ⟨g, 0, none⟩), .int .i64 a, .int .i64 b] w fun e w' => e = .returned (.tuple #[]) ∧ w' = ((w.setCell ⟨g, 2, none⟩ (.int .u64 y0)).setCell ⟨g, 1, none⟩ (.int .u64 y1)).setCell ⟨g, 0, none⟩ (.int .u64 y2) := by
  by_cases ha : a < 0
  · have f1 := e1.out ha
    by_cases hb : b < 0
    · have f2 := e2.out hb
      go_enter Tryd.func80, Tryd.ntmps80
      go_wp2_with fail
      refine (C1.out _).mono ?_
      rintro e w' ⟨rfl, rfl⟩
      go_wp2
      go_end0
      exact ⟨rfl, rfl⟩
    · obtain rfl := e2'.out hb
      go_enter Tryd.func80, Tryd.ntmps80
      go_wp2_with fail
      refine (C1.out _).mono ?_
      rintro e w' ⟨rfl, rfl⟩
      go_wp2
      go_end0
      exact ⟨rfl, rfl⟩
  · obtain rfl := e1'.out ha
    by_cases hb : b < 0
    · have f2 := e2.out hb
      go_enter Tryd.func80, Tryd.ntmps80
      go_wp2_with fail
      refine (C1.out _).mono ?_
      rintro e w' ⟨rfl, rfl⟩
      go_wp2
      go_end0
      exact ⟨rfl, rfl⟩
    · obtain rfl := e2'.out hb
      go_enter Tryd.func80, Tryd.ntmps80
      go_wp2_with fail
      refine (C1.out _).mono ?_
      rintro e w' ⟨rfl, rfl⟩
      go_wp2
      go_end0
      exact ⟨rfl, rfl⟩
theorem sgn {X : Int} (h1 : -85070591730234615865843651857942052864 ≤ X) (h2 : X ≤ 85070591730234615865843651857942052864) : IntKind.u64.wrap (wrap64 (l1 X) / 9223372036854775808) = l2 X := by
  have hb := l_bd X
  rw [← sg_eq h1 h2, u64w]
  unfold wrap64
  split <;> omega
theorem hbd {A B : Int} (a0 : 0 ≤ A) (a1 : A < 18446744073709551616) (b0 : 0 ≤ B) (b1 : B < 18446744073709551616) : 0 ≤ A * B / 18446744073709551616 ∧ A * B / 18446744073709551616 < 18446744073709551616 := by
  have h1 : A * B ≤ 18446744073709551615 * B := Int.mul_le_mul_of_nonneg_right (by omega) b0
  have h0 : 0 ≤ A * B := Int.mul_nonneg a0 b0
  generalize A * B = P at *
  omega
theorem modd (h c d : Int) : ((h - c) % 18446744073709551616 - d) % 18446744073709551616 = (h - c - d) % 18446744073709551616 := by omega
theorem waddG (g : Nat) (V a b : Int) (w : World) (ha1 : -9223372036854775808 ≤ a) (ha2 : a ≤ 9223372036854775807) (hb1 : -9223372036854775808 ≤ b) (hb2 : b ≤ 9223372036854775807)
    (a0 : w.cell? ⟨g, 0, none⟩ = some (.int .u64 (l2 V))) (a1 : w.cell? ⟨g, 1, none⟩ = some (.int .u64 (l1 V))) (a2 : w.cell? ⟨g, 2, none⟩ = some (.int .u64 (l0 V))) (z0 : w.frozen? ⟨g, 0, none⟩ = false) (z1 : w.frozen? ⟨g, 1, none⟩ = false) (z2 : w.frozen? ⟨g, 2, none⟩ = false) :
    Calls Tryd.prog 80 #[.pointer (some ⟨g, 0, none⟩), .int .i64 a, .int .i64 b] w fun e w' => e = .returned (.tuple #[]) ∧ w' = ((w.setCell ⟨g, 2, none⟩ (.int .u64 (l0 (V + a * b)))).setCell ⟨g, 1, none⟩ (.int .u64 (l1 (V + a * b)))).setCell ⟨g, 0, none⟩ (.int .u64 (l2 (V + a * b))) := by
  have hp := prod_bd ha1 ha2 hb1 hb2
  have lo := lo_eq ha1 ha2 hb1 hb2
  have hi := hi_eq ha1 ha2 hb1 hb2
  have bV := l_bd V
  have bX := l_bd (a * b)
  have A0 := l0_add V (a * b)
  have A1 := l1_add V (a * b)
  have A2 := l2_add V (a * b)
  have hS := sgn hp.1 hp.2
  generalize a * b = X at *
  have c0 : addC (l0 V) (l0 X) 0 = (l0 V + l0 X) / 18446744073709551616 := by unfold addC; rw [Int.add_zero]
  have c1 : addC (l1 V) (l1 X) (addC (l0 V) (l0 X) 0) = (l1 V + l1 X + (l0 V + l0 X) / 18446744073709551616) / 18446744073709551616 := by rw [c0]; rfl
  have s0 : addS (l0 V) (l0 X) 0 = l0 (V + X) := by unfold addS; rw [Int.add_zero, A0]
  have s1 : addS (l1 V) (l1 X) (addC (l0 V) (l0 X) 0) = l1 (V + X) := by rw [c0]; unfold addS; rw [A1]
  have s2 : addS (l2 V) (l2 X) (addC (l1 V) (l1 X) (addC (l0 V) (l0 X) 0)) = l2 (V + X) := by rw [c1]; unfold addS; rw [A2]
  have D0 := addG (l0 V) (l0 X) 0 bV.1 bX.1 (by omega)
  have D1 := addG (l1 V) (l1 X) (addC (l0 V) (l0 X) 0) bV.2.1 bX.2.1 (by rw [c0]; omega)
  have D2 := addG (l2 V) (l2 X) (addC (l1 V) (l1 X) (addC (l0 V) (l0 X) 0)) bV.2.2 bX.2.2 (by rw [c1]; omega)
  rw [s0] at D0
  rw [s1] at D1
  rw [s2] at D2
  refine waddT g (l0 V) (l1 V) (l2 V) a b (a % 18446744073709551616) (b % 18446744073709551616) (a % 18446744073709551616 * (b % 18446744073709551616) / 18446744073709551616)
    ((a % 18446744073709551616 * (b % 18446744073709551616) / 18446744073709551616 - (if a < 0 then b % 18446744073709551616 else 0)) % 18446744073709551616) (l1 X) (l0 X) w (u64w a) (u64w b) (Lib.hid ?_) (Lib.hid ?_) (Lib.hid ?_) (Lib.hid ?_) (Lib.hid ?_) a0 a1 a2 z0 z1 z2 _ _ _ _ _ _ _ hS D0 D1 D2
  · intro w
    rw [← lo]
    exact mulG _ _ ⟨Int.emod_nonneg _ (by decide), Int.emod_lt_of_pos _ (by decide)⟩ ⟨Int.emod_nonneg _ (by decide), Int.emod_lt_of_pos _ (by decide)⟩ w
  · intro h
    rw [u64w, if_pos h]
  · intro h
    have hh := hbd (A := a % 18446744073709551616) (B := b % 18446744073709551616) (Int.emod_nonneg _ (by decide)) (Int.emod_lt_of_pos _ (by decide)) (Int.emod_nonneg _ (by decide)) (Int.emod_lt_of_pos _ (by decide))
    rw [if_neg h, Int.sub_zero, Int.emod_eq_of_lt hh.1 hh.2]
  · intro h
    rw [u64w, ← hi, if_pos h, modd]
  · intro h
    rw [← hi, if_neg h, Int.sub_zero]
set_option maxRecDepth 100000 in
set_option maxHeartbeats 8000000 in
theorem wfitT (g : Nat) (x0 x1 x2 S : Int) (q1 q2 : Bool) (w : World) (hS : IntKind.u64.wrap (wrap64 x0 / 9223372036854775808) = S) (h1 : (x1 == S) = q1) (h2 : (x2 == S) = q2)
    (a0 : w.cell? ⟨g, 0, none⟩ = some (.int .u64 x2)) (a1 : w.cell? ⟨g, 1, none⟩ = some (.int .u64 x1)) (a2 : w.cell? ⟨g, 2, none⟩ = some (.int .u64 x0)) :
    Calls Tryd.prog 83 #[.pointer (some ⟨g, 0, none⟩)] w fun e w' => e = .returned (.bool (q1 && q2)) ∧ ∃ n, w' = w.drewN n := by
  cases q1 <;> cases q2
  all_goals
    go_enter Tryd.func83, Tryd.ntmps83
    go_wp2
    go_ret
    first | exact ⟨rfl, 0, rfl⟩ | exact ⟨rfl, 1, rfl⟩
end Go.Proofs.YtbicmlkjonaccaaDoor.Ln


namespace Go.Proofs.YtbicmlkjonaccaaDoor.Ln
open Go.ChangeShapes Go.WideShapes Go.ChangeAt Go.RowKit
set_option linter.unusedVariables false
set_option linter.unusedSimpArgs false
theorem sgn0 {x : Int} (h0 : 0 ≤ x) (h1 : x < 18446744073709551616) : IntKind.u64.wrap (wrap64 x / 9223372036854775808) = if x < 9223372036854775808 then 0 else 18446744073709551615 := by
  rw [u64w]
  unfold wrap64
  split <;> omega
theorem wfitG (g : Nat) (V : Int) (w : World) (h1 : -1569275433846670190958947355801916604025588861116008628224 ≤ V) (h2 : V ≤ 1569275433846670190958947355801916604025588861116008628224)
    (a0 : w.cell? ⟨g, 0, none⟩ = some (.int .u64 (l2 V))) (a1 : w.cell? ⟨g, 1, none⟩ = some (.int .u64 (l1 V))) (a2 : w.cell? ⟨g, 2, none⟩ = some (.int .u64 (l0 V))) :
    Calls Tryd.prog 83 #[.pointer (some ⟨g, 0, none⟩)] w fun e w' => e = .returned (.bool (fit64 V)) ∧ ∃ n, w' = w.drewN n := by
  have hb := l_bd V
  have hi := fits_iff h1 h2
  refine (wfitT g (l0 V) (l1 V) (l2 V) _ _ _ w (sgn0 hb.1.1 hb.1.2) rfl rfl a0 a1 a2).mono ?_
  rintro e w' ⟨rfl, hn⟩
  refine ⟨?_, hn⟩
  rw [show fit64 V = ((l1 V == (if l0 V < 9223372036854775808 then 0 else 18446744073709551615)) && (l2 V == (if l0 V < 9223372036854775808 then 0 else 18446744073709551615))) from ?_]
  rw [Bool.eq_iff_iff, fit_yes, Bool.and_eq_true, beq_iff_eq, beq_iff_eq]
  exact hi.symm
theorem grown_of {w w2 : World} {a : Addr} {v : Value} (h : Below w.heap.size w w2) : w.grownBy (w2.setCell a v) (some a.block) :=
  ⟨h.os, h.tape, h.output, by rw [World.size_setCell]; exact h.size, fun k hk hne => (Below.heap_setCell w2 a v k (fun e => hne (by rw [e]))).trans (h.block k hk)⟩
def TW (x by' : Int) (f : Bool) (gf : Nat) (w : World) (e : Ending) (w' : World) : Prop :=
  e = .returned (.int .i64 (wrap64 (x * by'))) ∧ w.grownBy w' (some gf) ∧ w'.cell? ⟨gf, 0, none⟩ = some (.bool (f && fit64 (x * by'))) ∧ w'.frozen? ⟨gf, 0, none⟩ = false
set_option maxRecDepth 100000 in
set_option maxHeartbeats 8000000 in
theorem times1 (x by' : Int) (f : Bool) (gb gf : Nat) (w : World) (x1 : -9223372036854775808 ≤ x) (x2 : x ≤ 9223372036854775807) (b1 : -9223372036854775808 ≤ by') (b2 : by' ≤ 9223372036854775807)
    (hb : w.cell? ⟨gb, 0, none⟩ = some (.int .i64 by')) (hf : w.cell? ⟨gf, 0, none⟩ = some (.bool f)) (hz : w.frozen? ⟨gf, 0, none⟩ = false) (hne : gb ≠ gf) (hne' : gf ≠ gb) :
    Calls Tryd.prog 95 #[.int .i64 x, .pointer (some ⟨gb, 0, none⟩), .pointer (some ⟨gf, 0, none⟩)] w (TW x by' f gf w) := by
  have hg : gf < w.heap.size := by have := World.block_lt_of_cell? w _ hf; simpa using this
  have hgb : gb < w.heap.size := by have := World.block_lt_of_cell? w _ hb; simpa using this
  have C1 := Lib.hid fun (w1 : World) (g : Nat) h0 h1 h2 z0 z1 z2 => waddG g 0 x by' w1 x1 x2 b1 b2 h0 h1 h2 z0 z1 z2
  have C2 := Lib.hid fun (w1 : World) (g : Nat) h0 h1 h2 => wfitG g (x * by') w1 (by have := prod_bd x1 x2 b1 b2; omega) (by have := prod_bd x1 x2 b1 b2; omega) h0 h1 h2
  rw [Int.zero_add, show l2 0 = 0 from rfl, show l1 0 = 0 from rfl, show l0 0 = 0 from rfl] at C1
  have B0 : Below w.heap.size w (w.alloc (Obj.cells #[Value.int .u64 0, Value.int .u64 0, Value.int .u64 0] 102)) := (Below.refl _ _).alloc (Nat.le_refl _) _
  have f1 := kp B0 hgb hb
  go_enter Tryd.func95, Tryd.ntmps95
  go_wp2_with fail
  have hfz := (B0.frozen (p := ⟨gf, 0, none⟩) hg).trans hz
  have f2 := kp B0 hg hf
  refine (C1.out (w.alloc (Obj.cells #[Value.int .u64 0, Value.int .u64 0, Value.int .u64 0] 102)) w.heap.size (by go_cell) (by go_cell) (by go_cell) (by first | go_cell | simp) (by first | go_cell | simp) (by first | go_cell | simp)).mono ?_
  rintro e w2 ⟨rfl, h2⟩
  have r0 : w2.cell? ⟨w.heap.size, 0, none⟩ = some (.int .u64 (l2 (x * by'))) := by rw [h2]; go_cell
  have r1 : w2.cell? ⟨w.heap.size, 1, none⟩ = some (.int .u64 (l1 (x * by'))) := by rw [h2]; go_cell
  have r2 : w2.cell? ⟨w.heap.size, 2, none⟩ = some (.int .u64 (l0 (x * by'))) := by rw [h2]; go_cell
  have K2 : Below w.heap.size w w2 := by
    rw [h2]
    exact ((B0.setCell (p := ⟨w.heap.size, 2, none⟩) (Nat.le_refl _) _).setCell (p := ⟨w.heap.size, 1, none⟩) (Nat.le_refl _) _).setCell (p := ⟨w.heap.size, 0, none⟩) (Nat.le_refl _) _
  have C3 := Lib.hid (C2.out w2 w.heap.size r0 r1 r2)
  clear h2 f1 f2 hfz B0 r0 r1 r2 C1 C2
  have f1 := kp K2 hgb hb
  have f2 := kp K2 hg hf
  have hfz := (K2.frozen (p := ⟨gf, 0, none⟩) hg).trans hz
  obtain ⟨v, hv⟩ : ∃ v, fit64 (x * by') = v := ⟨_, rfl⟩
  rw [hv] at C3
  have HV := Lib.hid hv
  clear hv
  cases f
  · go_wp2
    go_ret
    exact ⟨rfl, grown_of (a := ⟨gf, 0, none⟩) K2, by go_cell, by first | go_cell | simp [World.frozen?_setCell, hfz]⟩
  · go_wp2_with (first | (go_at_call 83; refine C3.out.mono ?_; rintro e w3 ⟨rfl, n, rfl⟩))
    go_ret
    exact ⟨rfl, grown_of (a := ⟨gf, 0, none⟩) (below_drewN K2 n), by rw [HV.out, Bool.true_and]; go_cell, by first | go_cell | simp [World.frozen?_setCell, hfz]⟩
/-- Cells of blocks of the call's own. -/
def Cl (L : List (Nat × Nat × Value)) (u : World) : Prop := ∀ b o v, (b, o, v) ∈ L → u.cell? ⟨b, o, none⟩ = some v ∧ u.frozen? ⟨b, o, none⟩ = false
theorem lt_of_cell {u : World} {b o : Nat} {v : Value} (h : u.cell? ⟨b, o, none⟩ = some v) : b < u.heap.size := by have := World.block_lt_of_cell? u _ h; simpa using this
theorem Cl.below {L : List (Nat × Nat × Value)} {u u' : World} (h : Cl L u) (hb : Below u.heap.size u u') : Cl L u' := fun b o v hm => by
  obtain ⟨h1, h2⟩ := h b o v hm
  have := lt_of_cell h1
  exact ⟨(hb.cell (p := ⟨b, o, none⟩) this).trans h1, (hb.frozen (p := ⟨b, o, none⟩) this).trans h2⟩
theorem Cl.grown {L : List (Nat × Nat × Value)} {u u' : World} {r : Option Nat} (h : Cl L u) (hg : u.grownBy u' r) (hne : ∀ x ∈ L, some x.1 ≠ r) : Cl L u' := fun b o v hm => by
  obtain ⟨h1, h2⟩ := h b o v hm
  have hb := hg.block b (lt_of_cell h1) (hne _ hm)
  exact ⟨(World.cell?_of_block (a := ⟨b, o, none⟩) hb).trans h1, (World.frozen?_of_block (a := ⟨b, o, none⟩) hb).trans h2⟩
theorem Cl.far {L : List (Nat × Nat × Value)} {u : World} {a : Addr} {x : Value} (h : Cl L u) (hne : ∀ y ∈ L, y.1 ≠ a.block) : Cl L (u.setCell a x) := fun b o v hm => by
  obtain ⟨h1, h2⟩ := h b o v hm
  have hb := Below.heap_setCell u a x b (hne _ hm)
  exact ⟨(World.cell?_of_block (a := ⟨b, o, none⟩) hb).trans h1, (World.frozen?_of_block (a := ⟨b, o, none⟩) hb).trans h2⟩
theorem Cl.drewN {L : List (Nat × Nat × Value)} {u : World} (h : Cl L u) (n : Nat) : Cl L (u.drewN n) := fun b o v hm => h b o v hm
theorem Cl.drew {L : List (Nat × Nat × Value)} {u : World} (h : Cl L u) : Cl L u.drew := fun b o v hm => h b o v hm
theorem Cl.nil (u : World) : Cl [] u := fun _ _ _ h => by cases h
theorem Cl.cons {L : List (Nat × Nat × Value)} {u : World} {b o : Nat} {v : Value} (h1 : u.cell? ⟨b, o, none⟩ = some v) (h2 : u.frozen? ⟨b, o, none⟩ = false) (h : Cl L u) : Cl ((b, o, v) :: L) u := fun b' o' v' hm => by
  rcases List.mem_cons.1 hm with e | e
  · cases e; exact ⟨h1, h2⟩
  · exact h _ _ _ e
theorem Cl.head {L : List (Nat × Nat × Value)} {u : World} {b o : Nat} {v : Value} (h : Cl ((b, o, v) :: L) u) : u.cell? ⟨b, o, none⟩ = some v := (h b o v (by simp)).1
theorem Cl.headF {L : List (Nat × Nat × Value)} {u : World} {b o : Nat} {v : Value} (h : Cl ((b, o, v) :: L) u) : u.frozen? ⟨b, o, none⟩ = false := (h b o v (by simp)).2
theorem Cl.tail {L : List (Nat × Nat × Value)} {u : World} {x : Nat × Nat × Value} (h : Cl (x :: L) u) : Cl L u := fun b o v hm => h b o v (List.mem_cons_of_mem _ hm)
theorem Cl.sub {L L' : List (Nat × Nat × Value)} {u : World} (h : Cl L u) (hs : ∀ x ∈ L', x ∈ L) : Cl L' u := fun b o v hm => h b o v (hs _ hm)
theorem Cl.append {L L' : List (Nat × Nat × Value)} {u : World} (h : Cl L u) (h' : Cl L' u) : Cl (L ++ L') u := fun b o v hm => (List.mem_append.1 hm).elim (h b o v) (h' b o v)
theorem own_ne {u : World} {base : Nat} {E : TypeId} {sz n : Nat} {v : Value} {xs : List Value} {g : Nat} (h : u.ownsRow base E sz v n xs) (hg : g < base) : v.ownBlock = none ∨ v.ownBlock ≠ some g := by
  cases hb : v.ownBlock with
  | none => exact .inl rfl
  | some q => exact .inr (fun e => by cases e; have := (h.lt _ hb).1; omega)
theorem Cl.own {L : List (Nat × Nat × Value)} {u u' : World} {base : Nat} {E : TypeId} {sz n : Nat} {v : Value} {xs : List Value} (h : Cl L u) (hO : u.ownsRow base E sz v n xs) (hg : u.grownBy u' v.ownBlock) (hL : ∀ x ∈ L, x.1 < base) : Cl L u' :=
  h.grown hg (fun x hx e => by have := (hO.lt _ e.symm).1; have := hL x hx; omega)
theorem grown_set {u : World} {a : Addr} {v : Value} : u.grownBy (u.setCell a v) (some a.block) := grown_of (Below.refl _ _)
theorem own_set {u : World} {base : Nat} {E : TypeId} {sz n : Nat} {v : Value} {xs : List Value} {a : Addr} {y : Value} (h : u.ownsRow base E sz v n xs) (ha : a.block < base) : (u.setCell a y).ownsRow base E sz v n xs := h.kept grown_set (own_ne h ha)
theorem own_slice {u : World} {base : Nat} {E : TypeId} {sz n : Nat} {v : Value} {xs : List Value} (h : u.ownsRow base E sz v n xs) : ∃ q c, v = .slice q n c := by
  rcases h.2 with ⟨rfl, hn⟩ | ⟨g, cap, cur, rfl, _⟩
  · exact ⟨none, 0, by rw [hn]⟩
  · exact ⟨_, _, rfl⟩
theorem below_grown {B : Nat} {w u u' : World} {r : Option Nat} (h : Below B w u) (hg : u.grownBy u' r) (hB : B ≤ u.heap.size) (hr : ∀ k, r = some k → B ≤ k) : Below B w u' := h.grown hg hB hr
/-- Monomials in a row of the call's own. -/
def moC (m : Mo) : List Value := [.string m.1, .int .i64 m.2]
def moCs (l : List Mo) : List Value := l.flatMap moC
theorem moCs_len (l : List Mo) : (moCs l).length = l.length * 2 := by
  induction l with
  | nil => rfl
  | cons t ts ih => unfold moCs at ih ⊢; rw [List.flatMap_cons, List.length_append, ih, List.length_cons]; show 2 + _ = _; omega
theorem moCs_snoc (l : List Mo) (m : Mo) : moCs (l ++ [m]) = moCs l ++ moC m := by unfold moCs; rw [List.flatMap_append]; simp
theorem moCs_get : ∀ (l : List Mo) (i : Nat), i < l.length → (moCs l)[i * 2]? = some (.string (l.getD i mo0).1) ∧ (moCs l)[i * 2 + 1]? = some (.int .i64 (l.getD i mo0).2)
  | [], i, h => absurd h (by simp)
  | m :: l, 0, h => ⟨rfl, rfl⟩
  | m :: l, i + 1, h => by
    obtain ⟨h1, h2⟩ := moCs_get l i (by simpa using h)
    unfold moCs at h1 h2 ⊢
    rw [List.flatMap_cons]
    have e1 : (i + 1) * 2 = (i * 2 + 1) + 1 := by omega
    have e2 : (i + 1) * 2 + 1 = (i * 2 + 1 + 1) + 1 := by omega
    refine ⟨?_, ?_⟩
    · rw [e1]; show (_ :: _ :: _)[_]? = _; rw [List.getElem?_cons_succ, List.getElem?_cons_succ]; exact h1
    · rw [e2]; show (_ :: _ :: _)[_]? = _; rw [List.getElem?_cons_succ, List.getElem?_cons_succ]; exact h2
theorem addr_add (g k : Nat) : (⟨g, 0, none⟩ : Addr).add k = ⟨g, k, none⟩ := by
  unfold Addr.add
  split <;> simp_all
theorem own_sl {w : World} {base : Nat} {v : Value} {l : List Mo} (h : w.ownsRow base 59 2 v l.length (moCs l)) : ∃ p c, v = .slice p l.length c ∧ SlM w p l := by
  obtain ⟨h1, h2⟩ := h
  rcases h2 with ⟨rfl, hn⟩ | ⟨g, cap, cur, rfl, hb, hh, hc, hm, hs, ht⟩
  · exact ⟨none, 0, by rw [hn], fun i hi => absurd hi (by omega)⟩
  · refine ⟨some ⟨g, 0, none⟩, cap, rfl, fun i hi => ⟨g, 0, rfl, ?_⟩⟩
    have hO : w.ownsRow base 59 2 (.slice (some ⟨g, 0, none⟩) l.length cap) l.length (moCs l) := ⟨h1, .inr ⟨g, cap, cur, rfl, hb, hh, hc, hm, hs, ht⟩⟩
    obtain ⟨c1, c2⟩ := moCs_get l i hi
    have d1 := hO.cells (g := g) rfl _ _ c1
    have d2 := hO.cells (g := g) rfl _ _ c2
    rw [addr_add] at d1 d2
    exact ⟨by rw [Nat.zero_add]; exact d1, by rw [Nat.zero_add]; exact d2⟩
theorem own_sl' {w : World} {base n : Nat} {v : Value} {l : List Mo} (h : w.ownsRow base 59 2 v n (moCs l)) (hn : n = l.length) : ∃ p c, v = .slice p n c ∧ SlM w p l := by
  subst hn
  exact own_sl h
theorem SlM.below {w u : World} {p : Option Addr} {xs : List Mo} (h : SlM w p xs) (hb : Below w.heap.size w u) : SlM u p xs := SlM.keep hb h
def LR (k : Int) (ys : List Mo) (er : Int) (w : World) (e : Ending) (w' : World) : Prop := ∃ p c, e = .returned (.tuple #[Lv k p ys.length c, .int .i64 er]) ∧ SlM w' p ys ∧ Below w.heap.size w w'
theorem LR.zero {er : Int} {w w' : World} {e : Ending} (h : e = .returned (.tuple #[.agg #[.int .i64 0, .slice none 0 0], .int .i64 er])) (hb : Below w.heap.size w w') : LR 0 [] er w e w' := ⟨none, 0, h, fun i hi => absurd hi (by simp), hb⟩
theorem infoMo : (Tryd.prog.info? 59).map (fun i => (i.zero, i.size, i.bytes)) = some (some (.agg #[.string ⟨#[]⟩, .int .i64 0]), 2, 24) := by kernel_rfl
end Go.Proofs.YtbicmlkjonaccaaDoor.Ln
