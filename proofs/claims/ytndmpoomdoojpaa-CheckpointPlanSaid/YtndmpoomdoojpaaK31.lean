/- Optimal plans: their entries. -/
import Derived.Test.YtndmpoomdoojpaaRows
import Derived.WalkKit
import Derived.ProofKit
import Derived.OpenShut
import Derived.WalkLawsBesides
import Derived.WalkSpells
import Derived.Outline
import Derived.Handy
import Derived.IntWalk
import Derived.Deep.QuietTactic
import Derived.BigQuiet
import Derived.Lib.Hide
import Derived.Test.YtndmpoomdoojpaaKM5
namespace Go.Proofs.Ytndmpoomdoojpaa.Ck
open Go.ChangeShapes Go.WideShapes Go.ChangeAt Go.RowKit
set_option linter.unusedVariables false

theorem pl_bd : ∀ (m n f : Nat) (fr z nx : Int), 0 ≤ fr → fr + (n : Int) ≤ 64 → 0 ≤ nx → nx + (f : Int) ≤ 64 → -1 ≤ z → z ≤ 64 → ∀ a ∈ pl m fr n f z nx, (0 ≤ a.2.1 ∧ a.2.1 ≤ 64) ∧ -1 ≤ a.2.2 ∧ a.2.2 ≤ 64
  | 0, n, f, fr, z, nx, h0, h1, h2, h3, h4, h5, a, ha => by cases ha
  | m + 1, n, f, fr, z, nx, h0, h1, h2, h3, h4, h5, a, ha => by
    have hadv : ∀ k : Nat, fr + (k : Int) ≤ 64 → a ∈ adv fr k → (0 ≤ a.2.1 ∧ a.2.1 ≤ 64) ∧ -1 ≤ a.2.2 ∧ a.2.2 ≤ 64 := fun k => by
      induction k with
      | zero => intro _ h; cases h
      | succ k ih =>
        intro hk h
        rw [adv, List.mem_append] at h
        rcases h with h | h
        · exact ih (by omega) h
        · rw [List.mem_singleton] at h
          subst h
          refine ⟨⟨?_, ?_⟩, ?_, ?_⟩ <;> simp <;> omega
    have hb := spl_bd n f (n - 1)
    unfold pl at ha
    split at ha
    · cases ha
    split at ha
    · rw [List.mem_singleton] at ha; subst ha
      refine ⟨⟨?_, ?_⟩, ?_, ?_⟩ <;> simp <;> omega
    split at ha
    · simp only [List.mem_append, List.mem_cons, List.not_mem_nil, or_false] at ha
      rcases ha with h | (rfl | rfl) | h
      · exact hadv _ (by omega) h
      · refine ⟨⟨?_, ?_⟩, ?_, ?_⟩ <;> simp <;> omega
      · refine ⟨⟨?_, ?_⟩, ?_, ?_⟩ <;> simp <;> omega
      · exact pl_bd m _ f fr z nx h0 (by omega) h2 h3 h4 h5 a h
    · simp only [List.mem_append, List.mem_cons, List.not_mem_nil, or_false] at ha
      rcases ha with h | rfl | h | rfl | h
      · exact hadv _ (by omega) h
      · refine ⟨⟨?_, ?_⟩, ?_, ?_⟩ <;> simp <;> omega
      · exact pl_bd m _ (f - 1) _ _ (nx + 1) (by omega) (by omega) (by omega) (by omega) (by omega) (by omega) a h
      · refine ⟨⟨?_, ?_⟩, ?_, ?_⟩ <;> simp <;> omega
      · exact pl_bd m _ f fr z nx h0 (by omega) h2 h3 h4 h5 a h
end Go.Proofs.Ytndmpoomdoojpaa.Ck
