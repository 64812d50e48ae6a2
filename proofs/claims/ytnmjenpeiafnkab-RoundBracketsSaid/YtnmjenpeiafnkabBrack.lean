/- What RoundBrackets asks of the floor, the ceiling and the rounded quotient, as plain facts. -/
import Derived.Test.YtnmjenpeiafnkabDivAll
namespace Go.Proofs.Ytnmjenpeiafnkab.Dv
set_option linter.unusedVariables false

theorem brack (n d : Int) (hd : 1 ≤ d) (h0 : -1099511627776 ≤ n) (h1 : n ≤ 1099511627776) :
    ∃ L H P Q : Int, dval 1 n d = L ∧ dval 2 n d = H ∧ derr 1 n d = 0 ∧ derr 2 n d = 0 ∧ L * d = P ∧ H * d = Q ∧ -1099511627776 ≤ L ∧ L ≤ 1099511627776 ∧
      ((H = L ∧ P = n ∧ Q = n) ∨ (H = L + 1 ∧ P < n ∧ n < P + d ∧ Q = P + d)) ∧
      (∀ how, 1 ≤ how → how ≤ 4 → derr how n d = 0 ∧ (dval how n d = L ∨ dval how n d = H)) := by
  have F := Plain.tfacts n d (by omega)
  have hx : ¬ (n = -9223372036854775808 ∧ d = -1) := by omega
  have hv : ∀ how, 1 ≤ how → how ≤ 4 → derr how n d = 0 ∧ dval how n d = Plain.rnd how (n.tdiv d) (n.tmod d) d := by
    intro how a b
    unfold derr dval
    rw [if_neg (by omega), if_neg (by omega), if_neg hx, if_neg (by omega), if_neg (by omega), if_neg hx]
    exact ⟨rfl, rfl⟩
  have hm := Int.mul_tdiv_add_tmod n d
  obtain ⟨q, hq⟩ : ∃ q, n.tdiv d = q := ⟨_, rfl⟩
  obtain ⟨r, hr⟩ : ∃ r, n.tmod d = r := ⟨_, rfl⟩
  rw [hq, hr] at F hv hm
  rw [Int.mul_comm] at hm
  obtain ⟨F1, F2, F3, F4, F5⟩ := F
  obtain ⟨p, hp⟩ : ∃ p, q * d = p := ⟨_, rfl⟩
  rw [hp] at hm
  obtain ⟨e1, v1⟩ := hv 1 (by omega) (by omega)
  obtain ⟨e2, v2⟩ := hv 2 (by omega) (by omega)
  by_cases z : r = 0
  · subst z
    have hz : ∀ how, Plain.rnd how q 0 d = q := fun how => by unfold Plain.rnd; rw [if_pos rfl]
    refine ⟨q, q, p, p, by rw [v1, hz], by rw [v2, hz], e1, e2, hp, hp, by omega, by omega, .inl ⟨rfl, by omega, by omega⟩, fun how a b => ⟨(hv how a b).1, .inl ?_⟩⟩
    rw [(hv how a b).2, hz]
  · have F3' := F3 z
    by_cases hs : 0 < r
    · refine ⟨q, q + 1, p, p + d, ?_, ?_, e1, e2, hp, by rw [Int.add_mul, Int.one_mul, hp], by omega, by omega, .inr ⟨rfl, by omega, by omega, rfl⟩, fun how a b => ⟨(hv how a b).1, ?_⟩⟩
      · rw [v1]; unfold Plain.rnd; rw [if_neg z, if_neg (by decide), if_pos rfl, if_pos (by omega)]
      · rw [v2]; unfold Plain.rnd; rw [if_neg z, if_neg (by decide), if_neg (by decide), if_pos rfl, if_pos (by omega)]
      · rw [(hv how a b).2]
        rcases (by omega : how = 1 ∨ how = 2 ∨ how = 3 ∨ how = 4) with rfl | rfl | rfl | rfl
        · left; unfold Plain.rnd; rw [if_neg z, if_neg (by decide), if_pos rfl, if_pos (by omega)]
        · right; unfold Plain.rnd; rw [if_neg z, if_neg (by decide), if_neg (by decide), if_pos rfl, if_pos (by omega)]
        · left; unfold Plain.rnd; rw [if_neg z, if_pos rfl]
        · unfold Plain.rnd; rw [if_neg z, if_neg (by decide), if_neg (by decide), if_neg (by decide)]
          (repeat' split) <;> omega
    · refine ⟨q - 1, q, p - d, p, ?_, ?_, e1, e2, by rw [Int.sub_mul, Int.one_mul, hp], hp, by omega, by omega, .inr ⟨by omega, by omega, by omega, by omega⟩, fun how a b => ⟨(hv how a b).1, ?_⟩⟩
      · rw [v1]; unfold Plain.rnd; rw [if_neg z, if_neg (by decide), if_pos rfl, if_neg (by omega)]
      · rw [v2]; unfold Plain.rnd; rw [if_neg z, if_neg (by decide), if_neg (by decide), if_pos rfl, if_neg (by omega)]
      · rw [(hv how a b).2]
        rcases (by omega : how = 1 ∨ how = 2 ∨ how = 3 ∨ how = 4) with rfl | rfl | rfl | rfl
        · left; unfold Plain.rnd; rw [if_neg z, if_neg (by decide), if_pos rfl, if_neg (by omega)]
        · right; unfold Plain.rnd; rw [if_neg z, if_neg (by decide), if_neg (by decide), if_pos rfl, if_neg (by omega)]
        · right; unfold Plain.rnd; rw [if_neg z, if_pos rfl]
        · unfold Plain.rnd; rw [if_neg z, if_neg (by decide), if_neg (by decide), if_neg (by decide)]
          (repeat' split) <;> omega
end Go.Proofs.Ytnmjenpeiafnkab.Dv
