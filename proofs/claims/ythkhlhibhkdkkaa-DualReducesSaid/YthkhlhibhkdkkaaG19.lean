/- Dual numbers: Apply, whatever it is given. -/
import Derived.Test.YthkhlhibhkdkkaaG11
import Derived.Test.YthkhlhibhkdkkaaD2
import Derived.Test.YthkhlhibhkdkkaaG13
import Derived.Test.YthkhlhibhkdkkaaD4b
import Derived.Test.YthkhlhibhkdkkaaD4c
import Derived.Test.YthkhlhibhkdkkaaV6

namespace Go.Proofs.Ythkhlhibhkdkkaa.Va
open Go.ChangeShapes Go.WideShapes Go.ChangeAt Go.RowKit
open Fr Fx
set_option maxRecDepth 8000
set_option linter.unusedVariables false
set_option linter.unusedSimpArgs false

theorem c_tan (op n1 d1 t1 u1 n2 d2 t2 u2 vn vd : Int) (w : World) (h0 : 4 ≤ op) (h1 : op ≤ 10) (v1 : vld n1 d1 = true) (v2 : vld t1 u1 = true) (v34 : op ≠ 8 → vld n2 d2 = true ∧ vld t2 u2 = true) (vv : op = 7 → vld vn vd = true)
    (H9 : op = 9 → (vn, vd) = (if cmpv (n1 * d2) (n2 * d1) ≤ 0 then (n1, d1) else (n2, d2))) (H10 : op = 10 → (vn, vd) = (if 0 ≤ cmpv (n1 * d2) (n2 * d1) then (n1, d1) else (n2, d2))) :
    Calls Try.prog 16 #[.int .i64 op, D4 n1 d1 t1 u1, D4 n2 d2 t2 u2, V2 vn vd] w (Ret (F3 (dtn op n1 d1 t1 u1 n2 d2 t2 u2 vn vd)) w) := by
  by_cases o4 : op = 4
  · obtain ⟨v3, v4⟩ := v34 (by omega)
    rw [show dtn op n1 d1 t1 u1 n2 d2 t2 u2 vn vd = nw (t1 * u2 + t2 * u1) (u1 * u2) by unfold dtn; rw [if_pos o4]]
    exact c_t4 op n1 d1 t1 u1 n2 d2 t2 u2 vn vd _ w o4 (Lib.hid fun w => fr_add v2 v4 w)
  by_cases o5 : op = 5
  · obtain ⟨v3, v4⟩ := v34 (by omega)
    rw [show dtn op n1 d1 t1 u1 n2 d2 t2 u2 vn vd = nw (t1 * u2 - t2 * u1) (u1 * u2) by unfold dtn; rw [if_neg o4, if_pos o5]]
    exact c_t5 op n1 d1 t1 u1 n2 d2 t2 u2 vn vd _ w o5 (Lib.hid fun w => fr_sub v2 v4 w)
  by_cases o6 : op = 6
  · obtain ⟨v3, v4⟩ := v34 (by omega)
    rw [o6, dtn_six, thn_congr]
    rw [show (fun (_ _ : Int) => thn (nw (n1 * t2) (d1 * u2)) fun c d => nw ((nw (t1 * n2) (u1 * d2)).1 * d + c * (nw (t1 * n2) (u1 * d2)).2.1) ((nw (t1 * n2) (u1 * d2)).2.1 * d)) = (fun (_ _ : Int) => thn (nw (n1 * t2) (d1 * u2)) fun _ _ => nw ((nw (t1 * n2) (u1 * d2)).1 * (nw (n1 * t2) (d1 * u2)).2.1 + (nw (n1 * t2) (d1 * u2)).1 * (nw (t1 * n2) (u1 * d2)).2.1) ((nw (t1 * n2) (u1 * d2)).2.1 * (nw (n1 * t2) (d1 * u2)).2.1)) from funext fun _ => funext fun _ => thn_congr _ _]
    exact c_t6 6 n1 d1 t1 u1 n2 d2 t2 u2 vn vd _ _ _ w rfl (Lib.hid fun w => fr_mul v2 v3 w) (Lib.hid fun _ w => fr_mul v1 v4 w) (Lib.hid fun hl hr w => fr_add (nw_vld hl) (nw_vld hr) w)
  by_cases o7 : op = 7
  · obtain ⟨v3, v4⟩ := v34 (by omega)
    have v5 := vv o7
    rw [o7, dtn_seven, thn_congr]
    rw [show (fun (_ _ : Int) => thn (nw (t1 * (nw (vn * t2) (vd * u2)).2.1 - (nw (vn * t2) (vd * u2)).1 * u1) (u1 * (nw (vn * t2) (vd * u2)).2.1)) fun c d => nw (c * d2) (d * n2)) = (fun (_ _ : Int) => thn (nw (t1 * (nw (vn * t2) (vd * u2)).2.1 - (nw (vn * t2) (vd * u2)).1 * u1) (u1 * (nw (vn * t2) (vd * u2)).2.1)) fun _ _ => nw ((nw (t1 * (nw (vn * t2) (vd * u2)).2.1 - (nw (vn * t2) (vd * u2)).1 * u1) (u1 * (nw (vn * t2) (vd * u2)).2.1)).1 * d2) ((nw (t1 * (nw (vn * t2) (vd * u2)).2.1 - (nw (vn * t2) (vd * u2)).1 * u1) (u1 * (nw (vn * t2) (vd * u2)).2.1)).2.1 * n2)) from funext fun _ => funext fun _ => thn_congr _ _]
    exact c_t7 7 n1 d1 t1 u1 n2 d2 t2 u2 vn vd _ _ _ w rfl (Lib.hid fun w => fr_mul v5 v4 w) (Lib.hid fun hl w => fr_sub v2 (nw_vld hl) w) (Lib.hid fun hl hr w => fr_div (nw_vld hr) v3 w)
  by_cases o8 : op = 8
  · rw [show dtn op n1 d1 t1 u1 n2 d2 t2 u2 vn vd = (-t1, u1, 0) by unfold dtn; rw [if_neg o4, if_neg o5, if_neg o6, if_neg o7, if_pos o8]]
    exact c_t8 op n1 d1 t1 u1 n2 d2 t2 u2 vn vd w o8 (Lib.hid fun w => fr_neg v2 w)
  rw [show dtn op n1 d1 t1 u1 n2 d2 t2 u2 vn vd = (if vn = n1 ∧ vd = d1 then (t1, u1, 0) else (t2, u2, 0)) by unfold dtn; rw [if_neg o4, if_neg o5, if_neg o6, if_neg o7, if_neg o8]]
  exact c_t9 op n1 d1 t1 u1 n2 d2 t2 u2 vn vd w (by omega)

theorem c_dap (op n1 d1 t1 u1 n2 d2 t2 u2 : Int) (w : World) (hn2 : -9223372036854775808 ≤ n2 ∧ n2 ≤ 9223372036854775807) : Calls Try.prog 6 #[.int .i64 op, D4 n1 d1 t1 u1, D4 n2 d2 t2 u2] w (Ret (F5 (dav op n1 d1 t1 u1 n2 d2 t2 u2)) w) := by
  by_cases h4 : op < 4
  · rw [show dav op n1 d1 t1 u1 n2 d2 t2 u2 = (0, 0, 0, 0, 1) by unfold dav; rw [if_pos (.inl h4)]]
    exact c_da_lo op n1 d1 t1 u1 n2 d2 t2 u2 w (by simpa using h4)
  by_cases h10 : 10 < op
  · rw [show dav op n1 d1 t1 u1 n2 d2 t2 u2 = (0, 0, 0, 0, 1) by unfold dav; rw [if_pos (.inr (.inl h10))]]
    exact c_da_hi op n1 d1 t1 u1 n2 d2 t2 u2 w (by simpa using h4) (by simpa using h10)
  have g1 : decide (op < 4) = false := by simpa using h4
  have g2 : decide (10 < op) = false := by simpa using h10
  cases ha : vld n1 d1 && vld t1 u1
  · rw [show dav op n1 d1 t1 u1 n2 d2 t2 u2 = (0, 0, 0, 0, 1) by unfold dav; rw [if_pos (.inr (.inr (.inl ha)))]]
    exact c_da_n1 op n1 d1 t1 u1 n2 d2 t2 u2 w g1 g2 (Lib.hid fun b w c0 c1 c2 c3 => by have := c_vl b 0 n1 d1 t1 u1 w c0 c1 c2 c3; rw [ha] at this; exact this)
  have v1 : vld n1 d1 = true := by cases q : vld n1 d1 <;> simp_all
  have v2 : vld t1 u1 = true := by cases q : vld t1 u1 <;> simp_all
  have AP : ∀ w, Calls Try.prog 14 #[.int .i64 op, T5 1 0 0 0 0, V2 n1 d1, V2 n2 d2] w (Ret (F3 (apv op 1 0 0 0 0 n1 d1 n2 d2)) w) := fun w => c_ap op 1 0 0 0 0 n1 d1 n2 d2 w (by decide) (by decide) hn2
  have hvv : ∀ (hb : op ≠ 8 → vld n2 d2 = true), (op = 7 → (apv op 1 0 0 0 0 n1 d1 n2 d2).2.2 = 0 → vld (apv op 1 0 0 0 0 n1 d1 n2 d2).1 (apv op 1 0 0 0 0 n1 d1 n2 d2).2.1 = true) ∧
      (op = 9 → ((apv op 1 0 0 0 0 n1 d1 n2 d2).1, (apv op 1 0 0 0 0 n1 d1 n2 d2).2.1) = (if cmpv (n1 * d2) (n2 * d1) ≤ 0 then (n1, d1) else (n2, d2))) ∧ (op = 10 → ((apv op 1 0 0 0 0 n1 d1 n2 d2).1, (apv op 1 0 0 0 0 n1 d1 n2 d2).2.1) = (if 0 ≤ cmpv (n1 * d2) (n2 * d1) then (n1, d1) else (n2, d2))) := fun hb => by
    refine ⟨fun o7 he => ?_, fun o9 => ?_, fun o10 => ?_⟩
    · have e : apv op 1 0 0 0 0 n1 d1 n2 d2 = nw (n1 * d2) (d1 * n2) := by rw [o7, ap_frac 7 (.inr rfl) v1 (hb (by omega))]; unfold frv; simp
      rw [e] at he ⊢
      exact nw_vld he
    · have e : apv op 1 0 0 0 0 n1 d1 n2 d2 = (if cmpv (n1 * d2) (n2 * d1) ≤ 0 then (n1, d1, 0) else (n2, d2, 0)) := by
        unfold apv
        rw [if_neg (by omega), if_neg (by rw [ty_frac]; decide), if_neg (by rw [vv_frac, vv_frac, v1, hb (by omega)]; simp), if_pos o9]
        unfold cpv
        rw [vv_frac, vv_frac, v1, hb (by omega)]
        simp
      rw [e]
      split <;> rfl
    · have e : apv op 1 0 0 0 0 n1 d1 n2 d2 = (if 0 ≤ cmpv (n1 * d2) (n2 * d1) then (n1, d1, 0) else (n2, d2, 0)) := by
        unfold apv
        rw [if_neg (by omega), if_neg (by rw [ty_frac]; decide), if_neg (by rw [vv_frac, vv_frac, v1, hb (by omega)]; simp), if_neg (by omega), if_pos o10]
        unfold cpv
        rw [vv_frac, vv_frac, v1, hb (by omega)]
        simp
      rw [e]
      split <;> rfl
  by_cases h8 : op = 8
  · have e : dav op n1 d1 t1 u1 n2 d2 t2 u2 = (if (apv op 1 0 0 0 0 n1 d1 n2 d2).2.2 ≠ 0 then (0, 0, 0, 0, (apv op 1 0 0 0 0 n1 d1 n2 d2).2.2) else
        if (dtn op n1 d1 t1 u1 n2 d2 t2 u2 (apv op 1 0 0 0 0 n1 d1 n2 d2).1 (apv op 1 0 0 0 0 n1 d1 n2 d2).2.1).2.2 ≠ 0 then (0, 0, 0, 0, (dtn op n1 d1 t1 u1 n2 d2 t2 u2 (apv op 1 0 0 0 0 n1 d1 n2 d2).1 (apv op 1 0 0 0 0 n1 d1 n2 d2).2.1).2.2)
        else ((apv op 1 0 0 0 0 n1 d1 n2 d2).1, (apv op 1 0 0 0 0 n1 d1 n2 d2).2.1, (dtn op n1 d1 t1 u1 n2 d2 t2 u2 (apv op 1 0 0 0 0 n1 d1 n2 d2).1 (apv op 1 0 0 0 0 n1 d1 n2 d2).2.1).1, (dtn op n1 d1 t1 u1 n2 d2 t2 u2 (apv op 1 0 0 0 0 n1 d1 n2 d2).1 (apv op 1 0 0 0 0 n1 d1 n2 d2).2.1).2.1, 0)) := by
      unfold dav
      rw [if_neg (by rw [ha]; simp; omega)]
    rw [e]
    obtain ⟨q7, q9, q10⟩ := hvv (fun h => absurd h8 h)
    exact c_da_ok1 op n1 d1 t1 u1 n2 d2 t2 u2 _ _ _ _ _ _ w g1 g2 (by simpa using h8) (by simpa using h8) (Lib.hid fun b w c0 c1 c2 c3 => by have := c_vl b 0 n1 d1 t1 u1 w c0 c1 c2 c3; rw [ha] at this; exact this) (Lib.hid fun w => c_kf w) (Lib.hid AP)
      (Lib.hid fun he w => c_tan op n1 d1 t1 u1 n2 d2 t2 u2 _ _ w (by omega) (by omega) v1 v2 (fun h => absurd h8 h) (fun h => by omega) (fun h => by omega) (fun h => by omega))
  cases hb : vld n2 d2 && vld t2 u2
  · rw [show dav op n1 d1 t1 u1 n2 d2 t2 u2 = (0, 0, 0, 0, 1) by unfold dav; rw [if_pos (.inr (.inr (.inr ⟨h8, hb⟩)))]]
    exact c_da_n2 op n1 d1 t1 u1 n2 d2 t2 u2 w g1 g2 (by simpa using h8) (by simpa using h8) (Lib.hid fun b w c0 c1 c2 c3 => by have := c_vl b 0 n1 d1 t1 u1 w c0 c1 c2 c3; rw [ha] at this; exact this) (Lib.hid fun b w c0 c1 c2 c3 => by have := c_vl b 0 n2 d2 t2 u2 w c0 c1 c2 c3; rw [hb] at this; exact this)
  have v3 : vld n2 d2 = true := by cases q : vld n2 d2 <;> simp_all
  have v4 : vld t2 u2 = true := by cases q : vld t2 u2 <;> simp_all
  have e : dav op n1 d1 t1 u1 n2 d2 t2 u2 = (if (apv op 1 0 0 0 0 n1 d1 n2 d2).2.2 ≠ 0 then (0, 0, 0, 0, (apv op 1 0 0 0 0 n1 d1 n2 d2).2.2) else
      if (dtn op n1 d1 t1 u1 n2 d2 t2 u2 (apv op 1 0 0 0 0 n1 d1 n2 d2).1 (apv op 1 0 0 0 0 n1 d1 n2 d2).2.1).2.2 ≠ 0 then (0, 0, 0, 0, (dtn op n1 d1 t1 u1 n2 d2 t2 u2 (apv op 1 0 0 0 0 n1 d1 n2 d2).1 (apv op 1 0 0 0 0 n1 d1 n2 d2).2.1).2.2)
      else ((apv op 1 0 0 0 0 n1 d1 n2 d2).1, (apv op 1 0 0 0 0 n1 d1 n2 d2).2.1, (dtn op n1 d1 t1 u1 n2 d2 t2 u2 (apv op 1 0 0 0 0 n1 d1 n2 d2).1 (apv op 1 0 0 0 0 n1 d1 n2 d2).2.1).1, (dtn op n1 d1 t1 u1 n2 d2 t2 u2 (apv op 1 0 0 0 0 n1 d1 n2 d2).1 (apv op 1 0 0 0 0 n1 d1 n2 d2).2.1).2.1, 0)) := by
    unfold dav
    rw [if_neg (by rw [ha, hb]; simp; omega)]
  rw [e]
  obtain ⟨q7, q9, q10⟩ := hvv (fun _ => v3)
  exact c_da_ok2 op n1 d1 t1 u1 n2 d2 t2 u2 _ _ _ _ _ _ w g1 g2 (by simpa using h8) (by simpa using h8) (Lib.hid fun b w c0 c1 c2 c3 => by have := c_vl b 0 n1 d1 t1 u1 w c0 c1 c2 c3; rw [ha] at this; exact this) (Lib.hid fun b w c0 c1 c2 c3 => by have := c_vl b 0 n2 d2 t2 u2 w c0 c1 c2 c3; rw [hb] at this; exact this) (Lib.hid fun w => c_kf w) (Lib.hid AP)
    (Lib.hid fun he w => c_tan op n1 d1 t1 u1 n2 d2 t2 u2 _ _ w (by omega) (by omega) v1 v2 (fun _ => ⟨v3, v4⟩) (fun h => q7 h he) q9 q10)
end Go.Proofs.Ythkhlhibhkdkkaa.Va


namespace Go.Proofs.Ythkhlhibhkdkkaa.Va
open Go.ChangeShapes Go.WideShapes Go.ChangeAt Go.RowKit
open Fr Fx
set_option maxRecDepth 8000
set_option linter.unusedVariables false
set_option linter.unusedSimpArgs false

theorem on1 (n d : Int) (w : World) : Calls Try.prog 21 #[.int .i64 n, .int .i64 d] w (Ret (D4 n 1 d 1) w) := by
  go_enter Try.func21, Try.ntmps21
  go_wp2
  refine bodyPost_ret (v := D4 n 1 d 1) (by simp [results, Try.results21, go_sem]) rfl ⟨rfl, ?_⟩; (repeat' (first | (with_reducible exact Below.refl _ _) | (with_reducible refine Below.alloc ?_ ?_ _) | (with_reducible refine Below.setCell ?_ ?_ _) | (with_reducible refine below_drewN ?_ _) | (simp; done) | omega | (simp; omega)))
theorem six : dav 6 2 1 1 1 3 1 0 1 = (6, 1, 3, 1, 0) := by decide +kernel

set_option maxHeartbeats 2000000 in
theorem alive1 (w : World) : Calls Try.prog 10 #[] w (Ret (.bool true) w) := by
  have O1 := Lib.hid fun w => on1 2 1 w
  have O2 := Lib.hid fun w => on1 3 0 w
  have O3 := Lib.hid fun w => on1 6 3 w
  have AP := Lib.hid fun w => c_dap 6 2 1 1 1 3 1 0 1 w (by decide)
  rw [six] at AP
  go_enter Try.func10, Try.ntmps10
  go_wp2_with fail
  refine (O1.out _).mono ?_
  rintro e w1 ⟨rfl, hb⟩
  have L : Below w.heap.size w w1 := (Below.refl _ _).trans (hb.mono (by simp <;> omega))
  have K1 : Below w.heap.size w w1 := L
  clear hb L
  go_wp2_with fail
  refine (O2.out _).mono ?_
  rintro e w2 ⟨rfl, hb⟩
  have L : Below w1.heap.size w1 w2 := (Below.refl _ _).trans (hb.mono (by simp <;> omega))
  have K2 : Below w.heap.size w w2 := K1.trans (L.mono K1.size)
  clear hb L
  go_wp2_with fail
  refine (AP.out _).mono ?_
  rintro e w3 ⟨rfl, hb⟩
  have L : Below w2.heap.size w2 w3 := (Below.refl _ _).trans (hb.mono (by simp <;> omega))
  have K3 : Below w.heap.size w w3 := K2.trans (L.mono K2.size)
  clear hb L
  go_wp2_with fail
  obtain ⟨zw4, hzw⟩ : ∃ zw4, zw4 = (w3.alloc (.cells #[.int .i64 6, .int .i64 1, .int .i64 3, .int .i64 1] 26)) := ⟨_, rfl⟩
  have hb : Below (w3.alloc (.cells #[.int .i64 6, .int .i64 1, .int .i64 3, .int .i64 1] 26)).heap.size (w3.alloc (.cells #[.int .i64 6, .int .i64 1, .int .i64 3, .int .i64 1] 26)) zw4 := by rw [hzw]; exact Below.refl _ _
  rw [← hzw]
  clear hzw
  have L : Below w3.heap.size w3 zw4 := ((Below.refl _ _).alloc (by simp <;> omega) _).trans (hb.mono (by simp <;> omega))
  have K4 : Below w.heap.size w zw4 := K3.trans (L.mono K3.size)
  have la : w3.heap.size < zw4.heap.size := Nat.lt_of_lt_of_le (by simp <;> omega) hb.size
  have a0 : zw4.cell? ⟨w3.heap.size, 0, none⟩ = some (.int .i64 6) := Rg.keep hb (by simp <;> omega) (by go_cell)
  have a1 : zw4.cell? ⟨w3.heap.size, 1, none⟩ = some (.int .i64 1) := Rg.keep hb (by simp <;> omega) (by go_cell)
  have a2 : zw4.cell? ⟨w3.heap.size, 2, none⟩ = some (.int .i64 3) := Rg.keep hb (by simp <;> omega) (by go_cell)
  have a3 : zw4.cell? ⟨w3.heap.size, 3, none⟩ = some (.int .i64 1) := Rg.keep hb (by simp <;> omega) (by go_cell)
  clear hb L
  have hz : zw4.cell? ⟨w3.heap.size, 0, none⟩ = some (.int .i64 6) ∧ zw4.cell? ⟨w3.heap.size, 1, none⟩ = some (.int .i64 1) ∧ zw4.cell? ⟨w3.heap.size, 2, none⟩ = some (.int .i64 3) ∧ zw4.cell? ⟨w3.heap.size, 3, none⟩ = some (.int .i64 1) ∧ Below w.heap.size w zw4 := ⟨a0, a1, a2, a3, K4⟩
  have HS : Hid (∀ u u' : World, (u.cell? ⟨w3.heap.size, 0, none⟩ = some (.int .i64 6) ∧ u.cell? ⟨w3.heap.size, 1, none⟩ = some (.int .i64 1) ∧ u.cell? ⟨w3.heap.size, 2, none⟩ = some (.int .i64 3) ∧ u.cell? ⟨w3.heap.size, 3, none⟩ = some (.int .i64 1) ∧ Below w.heap.size w u) → Below u.heap.size u u' → (u'.cell? ⟨w3.heap.size, 0, none⟩ = some (.int .i64 6) ∧ u'.cell? ⟨w3.heap.size, 1, none⟩ = some (.int .i64 1) ∧ u'.cell? ⟨w3.heap.size, 2, none⟩ = some (.int .i64 3) ∧ u'.cell? ⟨w3.heap.size, 3, none⟩ = some (.int .i64 1) ∧ Below w.heap.size w u')) := Lib.hid (fun u u' h hb => ⟨Rg.keep hb (World.block_lt_of_cell? _ _ h.1) h.1, Rg.keep hb (World.block_lt_of_cell? _ _ h.2.1) h.2.1, Rg.keep hb (World.block_lt_of_cell? _ _ h.2.2.1) h.2.2.1, Rg.keep hb (World.block_lt_of_cell? _ _ h.2.2.2.1) h.2.2.2.1, h.2.2.2.2.trans (hb.mono h.2.2.2.2.size)⟩)
  refine Rk.begin (S := fun wS => wS.cell? ⟨w3.heap.size, 0, none⟩ = some (.int .i64 6) ∧ wS.cell? ⟨w3.heap.size, 1, none⟩ = some (.int .i64 1) ∧ wS.cell? ⟨w3.heap.size, 2, none⟩ = some (.int .i64 3) ∧ wS.cell? ⟨w3.heap.size, 3, none⟩ = some (.int .i64 1) ∧ Below w.heap.size w wS) 6 (by kernel_rfl) (HS.out _ _ hz (Below.drew (Below.refl _ _))) (fun hHeld => ?_)
  refine Rk.takeP (i := 0) (v := ?_) rfl (by kernel_rfl) (by kernel_rfl) (by kernel_rfl) (by kernel_rfl) (fun _ _ _ h => h) (Or.inl ⟨by kernel_rfl, ?_⟩) (by assumption) ?_
  rotate_left
  · ((intro w hSw; go_simp) <;> with_reducible rfl)
  try simp only [Act.put, List.setIfInBounds_toArray, List.set_cons_zero, List.set_cons_succ]
  refine Rk.takeP (i := 1) (v := ?_) rfl (by kernel_rfl) (by kernel_rfl) (by kernel_rfl) (by kernel_rfl) (fun _ _ _ h => h) (Or.inl ⟨by kernel_rfl, ?_⟩) (by assumption) ?_
  rotate_left
  · ((intro w hSw; go_simp) <;> with_reducible rfl)
  try simp only [Act.put, List.setIfInBounds_toArray, List.set_cons_zero, List.set_cons_succ]
  refine Rk.takeP (i := 2) (v := ?_) rfl (by kernel_rfl) (by kernel_rfl) (by kernel_rfl) (by kernel_rfl) (fun _ _ _ h => h) (Or.inl ⟨by kernel_rfl, ?_⟩) (by assumption) ?_
  rotate_left
  · ((intro w hSw; go_simp) <;> with_reducible rfl)
  try simp only [Act.put, List.setIfInBounds_toArray, List.set_cons_zero, List.set_cons_succ]
  refine Rk.take [6] (i := 3) (v := ?_) rfl (by kernel_rfl) (by kernel_rfl) (by kernel_rfl) (by kernel_rfl) (by kernel_rfl) (fun _ _ _ h => h) (Or.inl ⟨by kernel_rfl, ?_⟩) (by assumption) ?_
  rotate_left
  · ((intro w hSw; (try dsimp only at hSw); go_simp) <;> with_reducible rfl)
  try simp only [Act.put, List.setIfInBounds_toArray, List.set_cons_zero, List.set_cons_succ]
  refine Rk.takeP (i := 4) (v := ?_) rfl (by kernel_rfl) (by kernel_rfl) (by kernel_rfl) (by kernel_rfl) (fun _ _ _ h => h) (Or.inl ⟨by kernel_rfl, ?_⟩) (by assumption) ?_
  rotate_left
  · ((intro w hSw; go_simp) <;> with_reducible rfl)
  try simp only [Act.put, List.setIfInBounds_toArray, List.set_cons_zero, List.set_cons_succ]
  refine Rk.one (i := 5) (by kernel_rfl) rfl (fun KK hK => ?_)
  rw [if_pos (by kernel_rfl)]
  go_simp
  ((with_reducible refine (O3.out _).mono ?_); rintro e u ⟨rfl, hb⟩)
  first | (refine hK.out _ _ (fun _ => HS.out _ _ hHeld hb) (fun hHeld => ?_)) | (refine hK.out _ _ (HS.out _ _ hHeld hb) (fun hHeld => ?_)) | (go_wp2_with fail; refine hK.out _ _ (HS.out _ _ hHeld hb) (fun hHeld => ?_))
  clear hK KK
  refine Rk.tail [6, 7, 8] [_, _, _] (by kernel_rfl) (by kernel_rfl) rfl (by decide) ?_
  obtain ⟨a0, a1, a2, a3, KE⟩ := hHeld
  go_wp2
  go_ret
  exact ⟨rfl, KE⟩
end Go.Proofs.Ythkhlhibhkdkkaa.Va
