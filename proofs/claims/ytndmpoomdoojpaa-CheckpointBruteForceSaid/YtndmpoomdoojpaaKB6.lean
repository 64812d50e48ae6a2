/- How many flags of a row are not set, read off the world. -/
import Derived.Test.YtndmpoomdoojpaaKB5
namespace Go.Proofs.Ytndmpoomdoojpaa.Ck.Bf
open Go.ChangeShapes Go.WideShapes Go.ChangeAt Go.RowKit Go.Proofs.Ytndmpoomdoojpaa.Ck
set_option linter.unusedVariables false
def isF : Option Value → Bool
  | some (.bool false) => true
  | _ => false
def unW (g M : Nat) (w : World) : Nat := (List.range M).countP fun k => isF (w.cell? ⟨g, k, none⟩)
def lenOf : Value → Nat
  | .slice _ n _ => n
  | _ => 0
theorem un_range : ∀ sn : List Bool, un sn = (List.range sn.length).countP fun k => !(sn.getD k false)
  | [] => rfl
  | b :: r => by
    rw [List.length_cons, List.range_succ_eq_map, List.countP_cons, List.countP_map]
    have ih := un_range r
    have e : (List.range r.length).countP ((fun k => !((b :: r).getD k false)) ∘ Nat.succ) = (List.range r.length).countP fun k => !(r.getD k false) := by
      congr 1
    rw [e, ← ih]
    unfold un
    rw [List.countP_cons]
    rfl
theorem unW_eq {w : World} {base : Nat} {E : TypeId} {M c g : Nat} {sn : List Bool} (h : w.ownsRow base E 1 (.slice (some ⟨g, 0, none⟩) M c) M (sn.map Value.bool)) (hl : sn.length = M) : unW g M w = un sn := by
  rw [un_range, hl]
  unfold unW
  refine List.countP_congr fun k hk => ?_
  rw [ownB_get h hl (List.mem_range.1 hk)]
  cases sn.getD k false <;> simp [isF]
/-- How long the rows get. -/
def Sz (sn : List Bool) (fr nx : List Nd) (M : Nat) : Prop := fr.length + nx.length + 40 * un sn ≤ 40 * M + 1
theorem un_le (sn : List Bool) : un sn ≤ sn.length := List.countP_le_length
theorem un_rep (M : Nat) : un (List.replicate M false) = M := by
  unfold un
  rw [List.countP_replicate]
  rfl
theorem M_le {N : Nat} (hN : N ≤ 12) : 2 ^ (max N 1) * 169 ≤ 692224 := by
  have h : 2 ^ (max N 1) ≤ 2 ^ 12 := Nat.pow_le_pow_right (by decide) (by omega)
  omega
theorem Sz.take {sn : List Bool} {fr nx : List Nd} {x : Nd} {M N S k : Nat} {y : Nd} (hN : N ≤ 12) (h : Sz sn (fr ++ [x]) nx M) (hk : un (sn.set k true) + 1 = un sn) : Sz (sn.set k true) (fr ++ nb N S x) (nx ++ if x.1 < N then [y] else []) M := by
  unfold Sz at h ⊢
  have := nb_len N S x
  rw [List.length_append, List.length_singleton] at h
  rw [List.length_append, List.length_append]
  split <;> simp <;> omega
end Go.Proofs.Ytndmpoomdoojpaa.Ck.Bf
