/- Divide for every three integers: package round. -/
import Derived.Test.YtikcinkbkakkmaaGreatDoorGC
import Derived.Test.YtikcinkbkakkmaaGreatDoorGD
import Derived.Test.YtikcinkbkakkmaaGreatDoorGE

namespace Go.Proofs.YtikcinkbkakkmaaGreatDoor.Dv
open Go.ChangeShapes Go.WideShapes Go.ChangeAt Go.RowKit
set_option linter.unusedVariables false
set_option linter.unusedSimpArgs false
def dval (how n d : Int) : Int :=
  if how < 1 ∨ 4 < how then 0 else if d = 0 then 0 else if n = -9223372036854775808 ∧ d = -1 then 0 else Plain.rnd how (n.tdiv d) (n.tmod d) d
def derr (how n d : Int) : Int :=
  if how < 1 ∨ 4 < how then 1 else if d = 0 then 4 else if n = -9223372036854775808 ∧ d = -1 then 3 else 0
set_option maxHeartbeats 4000000 in
theorem div_exact (n d q how : Int) (b c : Bool) (w : World) (n0 : -9223372036854775808 ≤ n) (n1 : n ≤ 9223372036854775807) (hq : n.tdiv d = q) (hr : n.tmod d = 0)
   (b1 : -9223372036854775808 ≤ q) (b2 : q ≤ 9223372036854775807) (b6 : -9223372036854775808 ≤ d) (b7 : d ≤ 9223372036854775807) (g0 : (n == -9223372036854775808) = b) (g1 : (d == -1) = c) (hbc : b = false ∨ c = false) (hd : d < 0 ∨ 0 < d) (h : 1 ≤ how) (h' : how ≤ 4) :
    Calls Tryz.prog 71 #[.int .i64 n, .int .i64 d, .int .i64 how] w fun e w' => e = .returned (.tuple #[.int .i64 q, .int .i64 0]) ∧ ∃ k, w' = w.drewN k := by
  have d0 : (d == 0) = false := by simp; omega
  have m2 : decide (how ≤ 4) = true := by simp; omega
  have m1 : decide (1 ≤ how) = true := by simp; omega
  cases b <;> cases c <;> (first | (exfalso; simp at hbc; done) | skip)
  all_goals rcases hd with hd | hd
  all_goals
    clear hbc
    go_enter Tryz.func71, Tryz.ntmps71
    go_wp2_with (first | (go_at_call 105; refine (mode_ok _ _ (by omega) (by omega)).mono ?_; rintro e w' ⟨rfl, rfl⟩))
    go_step3
    go_wp2
    go_quiet (fail)
    go_wp2_with (first | (go_at_call 106; refine (mag_pos _ _ (by omega) (by omega)).mono ?_; rintro e w' ⟨rfl, rfl⟩) | (go_at_call 106; refine (mag_neg _ _ (by omega) (by omega)).mono ?_; rintro e w' ⟨rfl, rfl⟩))
    go_step3
    go_wp2
    refine wp_loop_rounds 2 ?_
    repeat any_goals (rw [rounds_succ]; go_wp2)
    try rw [Exit.noGoto_ret]
    go_ret2
    exact ⟨rfl, _, rfl⟩
theorem div_any (how n d : Int) (w : World) (n0 : -9223372036854775808 ≤ n) (n1 : n ≤ 9223372036854775807) (b6 : -9223372036854775808 ≤ d) (b7 : d ≤ 9223372036854775807) :
    Calls Tryz.prog 71 #[.int .i64 n, .int .i64 d, .int .i64 how] w fun e w' => e = .returned (.tuple #[.int .i64 (dval how n d), .int .i64 (derr how n d)]) ∧ ∃ k, w' = w.drewN k := by
  by_cases hm : how < 1 ∨ 4 < how
  · rw [show dval how n d = 0 from by unfold dval; rw [if_pos hm], show derr how n d = 1 from by unfold derr; rw [if_pos hm]]
    exact div_bad n d how w hm
  · by_cases hd : d = 0
    · subst hd
      rw [show dval how n 0 = 0 from by unfold dval; rw [if_neg hm, if_pos rfl], show derr how n 0 = 4 from by unfold derr; rw [if_neg hm, if_pos rfl]]
      exact div_zero n how w (by omega) (by omega)
    · by_cases hx : n = -9223372036854775808 ∧ d = -1
      · rw [show dval how n d = 0 from by unfold dval; rw [if_neg hm, if_neg hd, if_pos hx], show derr how n d = 3 from by unfold derr; rw [if_neg hm, if_neg hd, if_pos hx]]
        obtain ⟨rfl, rfl⟩ := hx
        exact div_min how w (by omega) (by omega)
      · rw [show dval how n d = Plain.rnd how (n.tdiv d) (n.tmod d) d from by unfold dval; rw [if_neg hm, if_neg hd, if_neg hx], show derr how n d = 0 from by unfold derr; rw [if_neg hm, if_neg hd, if_neg hx]]
        have F := Plain.tfacts n d hd
        have S := Plain.tsign n d
        obtain ⟨q, hq⟩ : ∃ q, n.tdiv d = q := ⟨_, rfl⟩
        obtain ⟨r, hr⟩ : ∃ r, n.tmod d = r := ⟨_, rfl⟩
        rw [hq, hr] at F
        rw [hq] at S
        rw [hq, hr]
        obtain ⟨F1, F2, F3, F4, F5⟩ := F
        obtain ⟨S1, S2, S3, S4⟩ := S
        by_cases h0 : r = 0
        · subst h0
          rw [show Plain.rnd how q 0 d = q from by unfold Plain.rnd; rw [if_pos rfl]]
          have hmax : q ≤ 9223372036854775807 := by
            by_cases hn : n = -9223372036854775808
            · by_cases hdd : 0 < d
              · have := S4 (by omega) hdd; omega
              · have h2 : 2 ≤ d.natAbs := by
                  have : d ≠ -1 := fun h => hx ⟨hn, h⟩
                  omega
                have hq2 := congrArg Int.natAbs hq
                rw [Plain.natAbs_div] at hq2
                have h3 := Nat.div_mul_le_self n.natAbs d.natAbs
                have h4 := Nat.mul_le_mul_left (n.natAbs / d.natAbs) h2
                omega
            · omega
          refine div_exact n d q how _ _ w n0 n1 hq hr (by omega) hmax b6 b7 rfl rfl ?_ (by omega) (by omega) (by omega)
          by_cases hn : n = -9223372036854775808
          · exact .inr (by simp; exact fun h => hx ⟨hn, h⟩)
          · exact .inl (by simpa using hn)
        · have F3' := F3 h0
          have g1 : (d == -1) = false := by simp; omega
          rcases (by omega : how = 1 ∨ how = 2 ∨ how = 3 ∨ how = 4) with rfl | rfl | rfl | rfl
          all_goals
            by_cases hr0 : 0 < r
            all_goals by_cases hd0 : 0 < d
          · have hn := F4 hr0; exact div_pp1 n d q r _ w n0 n1 hq hr (by omega) (by omega) b6 b7 rfl g1 (by omega) (by omega) (S1 hn hd0)
          · have hn := F4 hr0; exact div_pn1 n d q r _ w n0 n1 hq hr (by omega) (by omega) b6 b7 rfl g1 (by omega) (by omega) (S3 hn (by omega))
          · have hn := F5 (by omega); exact div_np1 n d q r _ w n0 n1 hq hr (by omega) (by omega) b6 b7 rfl g1 (by omega) (by omega) (S4 hn hd0)
          · have hn := F5 (by omega); exact div_nn1 n d q r _ w n0 n1 hq hr (by omega) (by omega) b6 b7 rfl g1 (by omega) (by omega) (S2 hn (by omega))
          · have hn := F4 hr0; exact div_pp2 n d q r _ w n0 n1 hq hr (by omega) (by omega) b6 b7 rfl g1 (by omega) (by omega) (S1 hn hd0)
          · have hn := F4 hr0; exact div_pn2 n d q r _ w n0 n1 hq hr (by omega) (by omega) b6 b7 rfl g1 (by omega) (by omega) (S3 hn (by omega))
          · have hn := F5 (by omega); exact div_np2 n d q r _ w n0 n1 hq hr (by omega) (by omega) b6 b7 rfl g1 (by omega) (by omega) (S4 hn hd0)
          · have hn := F5 (by omega); exact div_nn2 n d q r _ w n0 n1 hq hr (by omega) (by omega) b6 b7 rfl g1 (by omega) (by omega) (S2 hn (by omega))
          · have hn := F4 hr0; exact div_pp3 n d q r _ w n0 n1 hq hr (by omega) (by omega) b6 b7 rfl g1 (by omega) (by omega) (S1 hn hd0)
          · have hn := F4 hr0; exact div_pn3 n d q r _ w n0 n1 hq hr (by omega) (by omega) b6 b7 rfl g1 (by omega) (by omega) (S3 hn (by omega))
          · have hn := F5 (by omega); exact div_np3 n d q r _ w n0 n1 hq hr (by omega) (by omega) b6 b7 rfl g1 (by omega) (by omega) (S4 hn hd0)
          · have hn := F5 (by omega); exact div_nn3 n d q r _ w n0 n1 hq hr (by omega) (by omega) b6 b7 rfl g1 (by omega) (by omega) (S2 hn (by omega))
          · have hn := F4 hr0; exact div_pp4 n d q r _ w n0 n1 hq hr (by omega) (by omega) b6 b7 rfl g1 (by omega) (by omega) (S1 hn hd0)
          · have hn := F4 hr0; exact div_pn4 n d q r _ w n0 n1 hq hr (by omega) (by omega) b6 b7 rfl g1 (by omega) (by omega) (S3 hn (by omega))
          · have hn := F5 (by omega); exact div_np4 n d q r _ w n0 n1 hq hr (by omega) (by omega) b6 b7 rfl g1 (by omega) (by omega) (S4 hn hd0)
          · have hn := F5 (by omega); exact div_nn4 n d q r _ w n0 n1 hq hr (by omega) (by omega) b6 b7 rfl g1 (by omega) (by omega) (S2 hn (by omega))
end Go.Proofs.YtikcinkbkakkmaaGreatDoor.Dv
