/- The planner: sum. -/
import Derived.Test.YtndmpoomdoojpaaRows
import Derived.WalkKit
import Derived.ProofKit
import Derived.OpenShut
import Derived.WalkLawsBesides
import Derived.WalkSpells
import Derived.Outline
import Derived.Handy
import Derived.IntWalk
import Derived.Deep.QuietTactic
import Derived.BigQuiet
import Derived.Lib.Hide
import Derived.Test.YtndmpoomdoojpaaKM5
import Derived.Test.YtndmpoomdoojpaaK12
namespace Go.Proofs.Ytndmpoomdoojpaa.Ck
open Go.ChangeShapes Go.WideShapes Go.ChangeAt Go.RowKit
set_option linter.unusedVariables false

theorem ple_lt {A : World} {b : Nat} {x : Obj} (h : A.heap[b]? = some x) : b < A.heap.size := (Array.getElem?_eq_some_iff.1 h).1
/-- A block that holds a planner. -/
def PL (A : World) (b : Nat) (arr : Array Value) : Prop := A.heap[b]? = some (.cells arr 84 (0, 0))
theorem PL.cell {A : World} {b : Nat} {arr : Array Value} (h : PL A b arr) (k : Nat) : A.cell? ⟨b, k, none⟩ = arr[k]? := by unfold PL at h; simp [World.cell?, h]
theorem PL.fz {A : World} {b : Nat} {arr : Array Value} (h : PL A b arr) (j : Nat) : A.frozen? ⟨b, j, none⟩ = false := by unfold PL at h; simp [World.frozen?, h]
theorem PL.set {A : World} {b : Nat} {arr : Array Value} (h : PL A b arr) (k : Nat) (u : Value) : PL (A.setCell ⟨b, k, none⟩ u) b (arr.setIfInBounds k u) := by
  have hlt := ple_lt h
  unfold PL at *
  have h' : A.heap[b] = .cells arr 84 (0, 0) := by simpa [Array.getElem?_eq_getElem hlt] using h
  show (A.heap.modify b _)[b]? = _
  rw [Array.getElem?_eq_getElem (by simpa using hlt), Array.getElem_modify_self, h']
  rfl
/-- The table of the costs, as far as it goes. -/
def Tb (arr : Array Value) (n s : Nat) : Prop := ∀ i j : Nat, i ≤ s → j ≤ n → arr[i * 65 + j]? = some (.int .i64 (co (j : Int) (i : Int)))
set_option maxRecDepth 100000 in
theorem sum1 (b : Nat) (arr : Array Value) (N S k n f : Nat) (w : World) (hP : PL w b arr) (hT : Tb arr N S) (hN : N ≤ 64) (hS : S ≤ 64) (h1 : 1 ≤ k) (hk : k ≤ n) (hn : n ≤ N) (hf : 1 ≤ f) (hfS : f ≤ S) :
    Calls Try.prog 72 #[.pointer (some ⟨b, 0, none⟩), .int .i64 (k : Int), .int .i64 (n : Int), .int .i64 (f : Int)] w fun e w' => e = .returned (.int .i64 (sm n f k)) ∧ ∃ m, w' = w.drewN m := by
  have c1 := (hP.cell ((f - 1) * 65 + (n - k))).trans (hT (f - 1) (n - k) (by omega) (by omega))
  have c2 := (hP.cell (f * 65 + k)).trans (hT f k (by omega) (by omega))
  have d1 := co_bd (n := ((n - k : Nat) : Int)) (s := ((f - 1 : Nat) : Int)) (by omega) (by omega) (by omega) (by omega)
  have d2 := co_bd (n := (k : Int)) (s := (f : Int)) (by omega) (by omega) (by omega) (by omega)
  obtain ⟨g, hg⟩ : ∃ g, f - 1 = g := ⟨_, rfl⟩
  obtain ⟨l, hl⟩ : ∃ l, n - k = l := ⟨_, rfl⟩
  have hs : sm n f k = (k : Int) + co (l : Int) (g : Int) + co (k : Int) (f : Int) := by unfold sm; rw [hg, hl]
  rw [hg, hl] at c1 d1
  obtain ⟨x, hx⟩ : ∃ x, co (l : Int) (g : Int) = x := ⟨_, rfl⟩
  obtain ⟨y, hy⟩ : ∃ y, co (k : Int) (f : Int) = y := ⟨_, rfl⟩
  rw [hx] at c1 d1 hs
  rw [hy] at c2 d2 hs
  rw [hs]
  have e1 : (f : Int) - 1 = (g : Int) := by omega
  have e2 : (n : Int) - (k : Int) = (l : Int) := by omega
  have w1 : IntKind.i64.wrap ((f : Int) - 1) = (g : Int) := by rw [IntKind.wrap_i64]; omega
  have w2 : IntKind.i64.wrap ((n : Int) - (k : Int)) = (l : Int) := by rw [IntKind.wrap_i64]; omega
  have w3 : IntKind.i64.wrap ((k : Int) + x) = (k : Int) + x := by rw [IntKind.wrap_i64]; omega
  have w4 : IntKind.i64.wrap ((k : Int) + x + y) = (k : Int) + x + y := by rw [IntKind.wrap_i64]; omega
  have a1 : Program.arrayLen Try.prog 82 = 65 := by kernel_rfl
  have a2 : Program.arrayLen Try.prog 81 = 65 := by kernel_rfl
  have g65 : g < 65 := by omega
  have l65 : l < 65 := by omega
  have f65 : f < 65 := by omega
  have k65 : k < 65 := by omega
  have g0 : (0 : Int) ≤ g := by omega
  have l0 : (0 : Int) ≤ l := by omega
  have f0 : (0 : Int) ≤ f := by omega
  have k0 : (0 : Int) ≤ k := by omega
  have g1 : (g : Int) < 65 := by omega
  have l1 : (l : Int) < 65 := by omega
  have f1 : (f : Int) < 65 := by omega
  have k1 : (k : Int) < 65 := by omega
  clear hs hx hy hT hP hg hl
  go_enter Try.func72, Try.ntmps72
  go_wp2
  go_quiet (fail)
  go_wp2
  go_ret
  exact ⟨rfl, _, rfl⟩
end Go.Proofs.Ytndmpoomdoojpaa.Ck
