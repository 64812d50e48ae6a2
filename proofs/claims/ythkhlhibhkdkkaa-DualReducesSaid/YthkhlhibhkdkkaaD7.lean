/- Dual numbers: Apply of the reference, whatever it is given. -/
import Derived.Test.YthkhlhibhkdkkaaG11
import Derived.Test.YthkhlhibhkdkkaaG20
import Derived.Test.YthkhlhibhkdkkaaD5b
import Derived.Test.YthkhlhibhkdkkaaD5c
import Derived.Test.YthkhlhibhkdkkaaV15

namespace Go.Proofs.Ythkhlhibhkdkkaa.Va
open Go.ChangeShapes Go.WideShapes Go.ChangeAt Go.RowKit
open Fr Fx
set_option maxRecDepth 8000
set_option linter.unusedVariables false
set_option linter.unusedSimpArgs false

theorem r_tan (op n1 d1 t1 u1 n2 d2 t2 u2 vn vd : Int) (w : World) (h0 : 4 ≤ op) (h1 : op ≤ 10) (v1 : vld n1 d1 = true) (v2 : vld t1 u1 = true) (v34 : op ≠ 8 → vld n2 d2 = true ∧ vld t2 u2 = true) (vv : op = 7 → vld vn vd = true)
    (H9 : op = 9 → (vn, vd) = (if cmpv (n1 * d2) (n2 * d1) ≤ 0 then (n1, d1) else (n2, d2))) (H10 : op = 10 → (vn, vd) = (if 0 ≤ cmpv (n1 * d2) (n2 * d1) then (n1, d1) else (n2, d2))) :
    Calls Try.prog 20 #[.int .i64 op, D4 n1 d1 t1 u1, D4 n2 d2 t2 u2, V2 vn vd] w (Ret (F3 (dtn op n1 d1 t1 u1 n2 d2 t2 u2 vn vd)) w) := by
  by_cases o4 : op = 4
  · obtain ⟨v3, v4⟩ := v34 (by omega)
    rw [show dtn op n1 d1 t1 u1 n2 d2 t2 u2 vn vd = nw (t1 * u2 + t2 * u1) (u1 * u2) by unfold dtn; rw [if_pos o4]]
    exact r_t4 op n1 d1 t1 u1 n2 d2 t2 u2 vn vd _ w o4 (Lib.hid fun w => rr_add v2 v4 w)
  by_cases o5 : op = 5
  · obtain ⟨v3, v4⟩ := v34 (by omega)
    rw [show dtn op n1 d1 t1 u1 n2 d2 t2 u2 vn vd = nw (t1 * u2 - t2 * u1) (u1 * u2) by unfold dtn; rw [if_neg o4, if_pos o5]]
    exact r_t5 op n1 d1 t1 u1 n2 d2 t2 u2 vn vd _ w o5 (Lib.hid fun w => rr_sub v2 v4 w)
  by_cases o6 : op = 6
  · obtain ⟨v3, v4⟩ := v34 (by omega)
    rw [o6, dtn_six, thn_congr]
    rw [show (fun (_ _ : Int) => thn (nw (n1 * t2) (d1 * u2)) fun c d => nw ((nw (t1 * n2) (u1 * d2)).1 * d + c * (nw (t1 * n2) (u1 * d2)).2.1) ((nw (t1 * n2) (u1 * d2)).2.1 * d)) = (fun (_ _ : Int) => thn (nw (n1 * t2) (d1 * u2)) fun _ _ => nw ((nw (t1 * n2) (u1 * d2)).1 * (nw (n1 * t2) (d1 * u2)).2.1 + (nw (n1 * t2) (d1 * u2)).1 * (nw (t1 * n2) (u1 * d2)).2.1) ((nw (t1 * n2) (u1 * d2)).2.1 * (nw (n1 * t2) (d1 * u2)).2.1)) from funext fun _ => funext fun _ => thn_congr _ _]
    exact r_t6 6 n1 d1 t1 u1 n2 d2 t2 u2 vn vd _ _ _ w rfl (Lib.hid fun w => rr_mul v2 v3 w) (Lib.hid fun _ w => rr_mul v1 v4 w) (Lib.hid fun hl hr w => rr_add (nw_vld hl) (nw_vld hr) w)
  by_cases o7 : op = 7
  · obtain ⟨v3, v4⟩ := v34 (by omega)
    have v5 := vv o7
    rw [o7, dtn_seven, thn_congr]
    rw [show (fun (_ _ : Int) => thn (nw (t1 * (nw (vn * t2) (vd * u2)).2.1 - (nw (vn * t2) (vd * u2)).1 * u1) (u1 * (nw (vn * t2) (vd * u2)).2.1)) fun c d => nw (c * d2) (d * n2)) = (fun (_ _ : Int) => thn (nw (t1 * (nw (vn * t2) (vd * u2)).2.1 - (nw (vn * t2) (vd * u2)).1 * u1) (u1 * (nw (vn * t2) (vd * u2)).2.1)) fun _ _ => nw ((nw (t1 * (nw (vn * t2) (vd * u2)).2.1 - (nw (vn * t2) (vd * u2)).1 * u1) (u1 * (nw (vn * t2) (vd * u2)).2.1)).1 * d2) ((nw (t1 * (nw (vn * t2) (vd * u2)).2.1 - (nw (vn * t2) (vd * u2)).1 * u1) (u1 * (nw (vn * t2) (vd * u2)).2.1)).2.1 * n2)) from funext fun _ => funext fun _ => thn_congr _ _]
    exact r_t7 7 n1 d1 t1 u1 n2 d2 t2 u2 vn vd _ _ _ w rfl (Lib.hid fun w => rr_mul v5 v4 w) (Lib.hid fun hl w => rr_sub v2 (nw_vld hl) w) (Lib.hid fun hl hr w => rr_div (nw_vld hr) v3 w)
  by_cases o8 : op = 8
  · rw [show dtn op n1 d1 t1 u1 n2 d2 t2 u2 vn vd = (-t1, u1, 0) by unfold dtn; rw [if_neg o4, if_neg o5, if_neg o6, if_neg o7, if_pos o8]]
    exact r_t8 op n1 d1 t1 u1 n2 d2 t2 u2 vn vd w o8 (Lib.hid fun w => rr_neg v2 w)
  rw [show dtn op n1 d1 t1 u1 n2 d2 t2 u2 vn vd = (if vn = n1 ∧ vd = d1 then (t1, u1, 0) else (t2, u2, 0)) by unfold dtn; rw [if_neg o4, if_neg o5, if_neg o6, if_neg o7, if_neg o8]]
  obtain ⟨v3, v4⟩ := v34 o8
  have CM := Lib.hid fun w => rr_cmp v1 v3 w
  have hne : ∀ {c : Int}, cmpv (n1 * d2) (n2 * d1) = c → c ≠ 0 → ¬ (n2 = n1 ∧ d2 = d1) := fun hc h0 hh => by
    obtain ⟨rfl, rfl⟩ := hh
    rcases cmpv_cases (n2 * d2) (n2 * d2) with ⟨a, _⟩ | ⟨a, _⟩ | ⟨_, a⟩
    · omega
    · omega
    · exact h0 (hc.symm.trans a)
  obtain ⟨c, hc⟩ : ∃ c, cmpv (n1 * d2) (n2 * d1) = c := ⟨_, rfl⟩
  rw [hc] at CM H9 H10
  have hne := hne hc
  by_cases o9 : op = 9
  · have h := H9 o9
    by_cases hp : c ≤ 0
    · rw [if_pos hp] at h
      obtain ⟨rfl, rfl⟩ := Prod.mk.inj h
      rw [if_pos ⟨rfl, rfl⟩, o9]
      exact r_t9a _ _ t1 u1 n2 d2 t2 u2 _ _ c w (by simp; omega) CM
    · rw [if_neg hp] at h
      obtain ⟨rfl, rfl⟩ := Prod.mk.inj h
      rw [if_neg (hne (by omega)), o9]
      exact r_t9b n1 d1 t1 u1 _ _ t2 u2 _ _ c w (by simp; omega) CM
  · have o10 : op = 10 := by omega
    have h := H10 o10
    by_cases hp : 0 ≤ c
    · rw [if_pos hp] at h
      obtain ⟨rfl, rfl⟩ := Prod.mk.inj h
      rw [if_pos ⟨rfl, rfl⟩, o10]
      exact r_t10a _ _ t1 u1 n2 d2 t2 u2 _ _ c w (by simp; omega) CM
    · rw [if_neg hp] at h
      obtain ⟨rfl, rfl⟩ := Prod.mk.inj h
      rw [if_neg (hne (by omega)), o10]
      exact r_t10b n1 d1 t1 u1 _ _ t2 u2 _ _ c w (by simp; omega) CM

theorem r_dap (op n1 d1 t1 u1 n2 d2 t2 u2 : Int) (w : World) (hn2 : -9223372036854775808 ≤ n2 ∧ n2 ≤ 9223372036854775807) : Calls Try.prog 8 #[.int .i64 op, D4 n1 d1 t1 u1, D4 n2 d2 t2 u2] w (Ret (F5 (dav op n1 d1 t1 u1 n2 d2 t2 u2)) w) := by
  by_cases h4 : op < 4
  · rw [show dav op n1 d1 t1 u1 n2 d2 t2 u2 = (0, 0, 0, 0, 1) by unfold dav; rw [if_pos (.inl h4)]]
    exact r_da_lo op n1 d1 t1 u1 n2 d2 t2 u2 w (by simpa using h4)
  by_cases h10 : 10 < op
  · rw [show dav op n1 d1 t1 u1 n2 d2 t2 u2 = (0, 0, 0, 0, 1) by unfold dav; rw [if_pos (.inr (.inl h10))]]
    exact r_da_hi op n1 d1 t1 u1 n2 d2 t2 u2 w (by simpa using h4) (by simpa using h10)
  have g1 : decide (op < 4) = false := by simpa using h4
  have g2 : decide (10 < op) = false := by simpa using h10
  cases ha : vld n1 d1 && vld t1 u1
  · rw [show dav op n1 d1 t1 u1 n2 d2 t2 u2 = (0, 0, 0, 0, 1) by unfold dav; rw [if_pos (.inr (.inr (.inl ha)))]]
    exact r_da_n1 op n1 d1 t1 u1 n2 d2 t2 u2 w g1 g2 (Lib.hid fun w => by have := r_vl n1 d1 t1 u1 w; rw [ha] at this; exact this)
  have v1 : vld n1 d1 = true := by cases q : vld n1 d1 <;> simp_all
  have v2 : vld t1 u1 = true := by cases q : vld t1 u1 <;> simp_all
  have AP : ∀ w, Calls Try.prog 18 #[.int .i64 op, T5 1 0 0 0 0, V2 n1 d1, V2 n2 d2] w (Ret (F3 (apv op 1 0 0 0 0 n1 d1 n2 d2)) w) := fun w => r_ap op 1 0 0 0 0 n1 d1 n2 d2 w
  have hvv : ∀ (hb : op ≠ 8 → vld n2 d2 = true), (op = 7 → (apv op 1 0 0 0 0 n1 d1 n2 d2).2.2 = 0 → vld (apv op 1 0 0 0 0 n1 d1 n2 d2).1 (apv op 1 0 0 0 0 n1 d1 n2 d2).2.1 = true) ∧
      (op = 9 → ((apv op 1 0 0 0 0 n1 d1 n2 d2).1, (apv op 1 0 0 0 0 n1 d1 n2 d2).2.1) = (if cmpv (n1 * d2) (n2 * d1) ≤ 0 then (n1, d1) else (n2, d2))) ∧ (op = 10 → ((apv op 1 0 0 0 0 n1 d1 n2 d2).1, (apv op 1 0 0 0 0 n1 d1 n2 d2).2.1) = (if 0 ≤ cmpv (n1 * d2) (n2 * d1) then (n1, d1) else (n2, d2))) := fun hb => by
    refine ⟨fun o7 he => ?_, fun o9 => ?_, fun o10 => ?_⟩
    · have e : apv op 1 0 0 0 0 n1 d1 n2 d2 = nw (n1 * d2) (d1 * n2) := by rw [o7, ap_frac 7 (.inr rfl) v1 (hb (by omega))]; unfold frv; simp
      rw [e] at he ⊢
      exact nw_vld he
    · have e : apv op 1 0 0 0 0 n1 d1 n2 d2 = (if cmpv (n1 * d2) (n2 * d1) ≤ 0 then (n1, d1, 0) else (n2, d2, 0)) := by
        unfold apv
        rw [if_neg (by omega), if_neg (by rw [ty_frac]; decide), if_neg (by rw [vv_frac, vv_frac, v1, hb (by omega)]; simp), if_pos o9]
        unfold cpv
        rw [vv_frac, vv_frac, v1, hb (by omega)]
        simp
      rw [e]
      split <;> rfl
    · have e : apv op 1 0 0 0 0 n1 d1 n2 d2 = (if 0 ≤ cmpv (n1 * d2) (n2 * d1) then (n1, d1, 0) else (n2, d2, 0)) := by
        unfold apv
        rw [if_neg (by omega), if_neg (by rw [ty_frac]; decide), if_neg (by rw [vv_frac, vv_frac, v1, hb (by omega)]; simp), if_neg (by omega), if_pos o10]
        unfold cpv
        rw [vv_frac, vv_frac, v1, hb (by omega)]
        simp
      rw [e]
      split <;> rfl
  by_cases h8 : op = 8
  · have e : dav op n1 d1 t1 u1 n2 d2 t2 u2 = (if (apv op 1 0 0 0 0 n1 d1 n2 d2).2.2 ≠ 0 then (0, 0, 0, 0, (apv op 1 0 0 0 0 n1 d1 n2 d2).2.2) else
        if (dtn op n1 d1 t1 u1 n2 d2 t2 u2 (apv op 1 0 0 0 0 n1 d1 n2 d2).1 (apv op 1 0 0 0 0 n1 d1 n2 d2).2.1).2.2 ≠ 0 then (0, 0, 0, 0, (dtn op n1 d1 t1 u1 n2 d2 t2 u2 (apv op 1 0 0 0 0 n1 d1 n2 d2).1 (apv op 1 0 0 0 0 n1 d1 n2 d2).2.1).2.2)
        else ((apv op 1 0 0 0 0 n1 d1 n2 d2).1, (apv op 1 0 0 0 0 n1 d1 n2 d2).2.1, (dtn op n1 d1 t1 u1 n2 d2 t2 u2 (apv op 1 0 0 0 0 n1 d1 n2 d2).1 (apv op 1 0 0 0 0 n1 d1 n2 d2).2.1).1, (dtn op n1 d1 t1 u1 n2 d2 t2 u2 (apv op 1 0 0 0 0 n1 d1 n2 d2).1 (apv op 1 0 0 0 0 n1 d1 n2 d2).2.1).2.1, 0)) := by
      unfold dav
      rw [if_neg (by rw [ha]; simp; omega)]
    rw [e]
    obtain ⟨q7, q9, q10⟩ := hvv (fun h => absurd h8 h)
    exact r_da_ok1 op n1 d1 t1 u1 n2 d2 t2 u2 _ _ _ _ _ _ w g1 g2 (by simpa using h8) (by simpa using h8) (Lib.hid fun w => by have := r_vl n1 d1 t1 u1 w; rw [ha] at this; exact this) (Lib.hid fun w => r_kf w) (Lib.hid AP)
      (Lib.hid fun he w => r_tan op n1 d1 t1 u1 n2 d2 t2 u2 _ _ w (by omega) (by omega) v1 v2 (fun h => absurd h8 h) (fun h => by omega) (fun h => by omega) (fun h => by omega))
  cases hb : vld n2 d2 && vld t2 u2
  · rw [show dav op n1 d1 t1 u1 n2 d2 t2 u2 = (0, 0, 0, 0, 1) by unfold dav; rw [if_pos (.inr (.inr (.inr ⟨h8, hb⟩)))]]
    exact r_da_n2 op n1 d1 t1 u1 n2 d2 t2 u2 w g1 g2 (by simpa using h8) (by simpa using h8) (Lib.hid fun w => by have := r_vl n1 d1 t1 u1 w; rw [ha] at this; exact this) (Lib.hid fun w => by have := r_vl n2 d2 t2 u2 w; rw [hb] at this; exact this)
  have v3 : vld n2 d2 = true := by cases q : vld n2 d2 <;> simp_all
  have v4 : vld t2 u2 = true := by cases q : vld t2 u2 <;> simp_all
  have e : dav op n1 d1 t1 u1 n2 d2 t2 u2 = (if (apv op 1 0 0 0 0 n1 d1 n2 d2).2.2 ≠ 0 then (0, 0, 0, 0, (apv op 1 0 0 0 0 n1 d1 n2 d2).2.2) else
      if (dtn op n1 d1 t1 u1 n2 d2 t2 u2 (apv op 1 0 0 0 0 n1 d1 n2 d2).1 (apv op 1 0 0 0 0 n1 d1 n2 d2).2.1).2.2 ≠ 0 then (0, 0, 0, 0, (dtn op n1 d1 t1 u1 n2 d2 t2 u2 (apv op 1 0 0 0 0 n1 d1 n2 d2).1 (apv op 1 0 0 0 0 n1 d1 n2 d2).2.1).2.2)
      else ((apv op 1 0 0 0 0 n1 d1 n2 d2).1, (apv op 1 0 0 0 0 n1 d1 n2 d2).2.1, (dtn op n1 d1 t1 u1 n2 d2 t2 u2 (apv op 1 0 0 0 0 n1 d1 n2 d2).1 (apv op 1 0 0 0 0 n1 d1 n2 d2).2.1).1, (dtn op n1 d1 t1 u1 n2 d2 t2 u2 (apv op 1 0 0 0 0 n1 d1 n2 d2).1 (apv op 1 0 0 0 0 n1 d1 n2 d2).2.1).2.1, 0)) := by
    unfold dav
    rw [if_neg (by rw [ha, hb]; simp; omega)]
  rw [e]
  obtain ⟨q7, q9, q10⟩ := hvv (fun _ => v3)
  exact r_da_ok2 op n1 d1 t1 u1 n2 d2 t2 u2 _ _ _ _ _ _ w g1 g2 (by simpa using h8) (by simpa using h8) (Lib.hid fun w => by have := r_vl n1 d1 t1 u1 w; rw [ha] at this; exact this) (Lib.hid fun w => by have := r_vl n2 d2 t2 u2 w; rw [hb] at this; exact this) (Lib.hid fun w => r_kf w) (Lib.hid AP)
    (Lib.hid fun he w => r_tan op n1 d1 t1 u1 n2 d2 t2 u2 _ _ w (by omega) (by omega) v1 v2 (fun _ => ⟨v3, v4⟩) (fun h => q7 h he) q9 q10)
end Go.Proofs.Ythkhlhibhkdkkaa.Va
