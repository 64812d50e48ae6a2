/- The planner: its memory. -/
import Derived.Test.YtndmpoomdoojpaaRows
import Derived.WalkKit
import Derived.ProofKit
import Derived.OpenShut
import Derived.WalkLawsBesides
import Derived.WalkSpells
import Derived.Outline
import Derived.Handy
import Derived.IntWalk
import Derived.Deep.QuietTactic
import Derived.BigQuiet
import Derived.Lib.Hide
import Derived.Test.YtndmpoomdoojpaaK27
namespace Go.Proofs.Ytndmpoomdoojpaa.Ck
open Go.ChangeShapes Go.WideShapes Go.ChangeAt Go.RowKit
set_option linter.unusedVariables false

/-- An empty planner. -/
def z84 : Value := .agg ((Array.replicate 4225 (.int .i64 0)).push (.slice none 0 0))
theorem info84 : (Try.prog.info? 84).map (fun i => (i.zero, i.size)) = some (some z84, 4226) := by kernel_rfl
def Z84 : Array Value := z84.cells
theorem Z84_eq : Z84 = (Array.replicate 4225 (Value.int .i64 0)).push (.slice none 0 0) := rfl
theorem Z84_size : Z84.size = 4226 := by rw [Z84_eq]; simp
theorem Z84_last : Z84[4225]? = some (.slice none 0 0) := by
  rw [Z84_eq, Array.getElem?_push, if_pos (by simp)]
theorem run_alloc_of {P : Program} {t : TypeId} {i : TypeInfo} {z : Value} (hi : P.info? t = some i) (hz : i.zero = some z) (w : World) : (Instr.alloc t true (.tuple #[])).run P w = .ok (.pointer (some ⟨w.heap.size, 0, none⟩)) (w.alloc (.cells z.cells t)) := by
  have h1 : (typeInfo t).run P w = .ok i w := by simp [typeInfo, go_sem, hi]
  have h2 : (zeroValue t).run P w = .ok z w := by
    unfold zeroValue
    simp only [Sem.run_bind, h1, Result.andThen_ok, hz, Sem.run_pure]
  unfold Instr.alloc
  simp only [Sem.run_bind, h2, Result.andThen_ok, Sem.run_pure]
  simp [newVar, go_sem]
theorem run_alloc84 (w : World) : (Instr.alloc 84 true (.tuple #[])).run Try.prog w = .ok (.pointer (some ⟨w.heap.size, 0, none⟩)) (w.alloc (.cells Z84 84)) := by
  obtain ⟨i, hi, hz⟩ := Option.map_eq_some_iff.1 info84
  exact run_alloc_of hi (Prod.mk.inj hz).1 w
theorem wpList_alloc84 {ops : Array Oper} {rest : List Oper} {o : Oper} {a : Act} {Q : Exit → Act → World → Prop} {w : World} (hgd : o.guard = none) (ho : o.op = .alloc 84)
    (h : wpList Try.prog ops Q rest (a.put o.dst (.pointer (some ⟨w.heap.size, 0, none⟩))) (w.alloc (.cells Z84 84))) : wpList Try.prog ops Q (o :: rest) a w := by
  refine wpList_plain hgd fun _ hK => ?_
  unfold Oper.wp execOp
  simp only [ho, Sem.run_bind, Sem.run_pure, Result.andThen_ok, run_alloc84]
  exact hK _ _ h
end Go.Proofs.Ytndmpoomdoojpaa.Ck
