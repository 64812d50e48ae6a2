/- A range over a function whose iterator makes the memory that it hands out: the statement by the iterator's call, the round by the body. -/
import Derived.RangeFuncNested
import Derived.RangeFuncBound
import Derived.RangeFuncCalls
import Derived.RangeFuncLeaves
import Derived.Shelf.Abstract
import Derived.Shelf.RegionOpen
import Derived.WalkKit
import Derived.OwnWalkIn
import Derived.TacticsInMore
import Derived.LoopNIn
import Derived.LoopIn
import Derived.Test.YtkdfidjoighknaaB10
namespace Go.Proofs.Ytkdfidjoighknaa.Rf
open Go.RowKit Go.Shelf
set_option linter.unusedVariables false

variable {F : Fence} {n m : Nat} {P : Program}
/-- How a round ends: the record is ready again, or it is done and bears the jump. -/
def RdEnd (l : Nat) (L : Loop) (R : Ending → World → Prop) : Exit → Act → World → Prop
  | .normal, _, W => W.heap[l]? = some (.loop { L with state := .busy, pending := none }) ∧ R (.returned (.bool true)) (W.putObj l (.loop { L with state := .ready, pending := none }))
  | .ret, _, W => W.heap[l]? = some (.loop { L with state := .busy, pending := none }) ∧ R (.returned (.bool false)) (W.putObj l (.loop { L with state := .done, pending := some .ret }))
  | .exit k, _, W => W.heap[l]? = some (.loop { L with state := .busy, pending := none }) ∧ R (.returned (.bool false)) (W.putObj l (.loop { L with state := .done, pending := some (.exit k) }))
  | _, _, _ => False
/-- One call of yield, by the walk of the loop's assignment and body. -/
theorem rf_yield (L : Loop) {l : Nat} {W : World} {args : Array Value} {R : Ending → World → Prop} (hF : F.fn L.fn) (hl : W.heap[l]? = some (.loop { L with state := .ready, pending := none })) (hs : args.size = L.params.size)
    (h : L.assign.wpIn (F.inRound l) m P (Exit.then (fun a1 W1 => W1.heap[l]? = some (.loop { L with state := .ready, pending := none }) ∧ L.body.wpIn (F.inRound l) m P (RdEnd l L R) a1 (W1.putObj l (.loop { L with state := .busy, pending := none }))) (fun _ _ _ => False))
      { tmps := (L.params.zip args).foldl (fun tmps (t, a) => tmps.setIfInBounds t a) L.tmps, defers := [] } W) : YieldAt F m P l args W R := by
  refine ⟨_, _, _, _, run_yield (P := P) hl hs, roundIn_of_wpIn hF (wpIn_mono h ?_)⟩
  intro e a W1 hq
  cases e with
  | normal =>
    obtain ⟨h1, h2⟩ := hq
    refine ⟨_, run_beginRound h1 rfl, wpIn_mono h2 ?_⟩
    intro e2 a2 W2 hq2
    cases e2 with
    | normal => exact ⟨_, _, run_endRound (P := P) none hq2.1, hq2.2⟩
    | ret => exact ⟨_, _, run_endRound (P := P) (some .ret) hq2.1, hq2.2⟩
    | exit k => exact ⟨_, _, run_endRound (P := P) (some (.exit k)) hq2.1, hq2.2⟩
    | goto t => exact hq2.elim
    | panic c => exact hq2.elim
    | outgrown => exact hq2.elim
  | ret => exact hq.elim
  | exit k => exact hq.elim
  | goto t => exact hq.elim
  | panic c => exact hq.elim
  | outgrown => exact hq.elim
/-- The same, the frame behind the assignment named. -/
theorem rf_yield2 (L : Loop) {l : Nat} {W : World} {args : Array Value} {R : Ending → World → Prop} (a1 : Act) (hF : F.fn L.fn) (hl : W.heap[l]? = some (.loop { L with state := .ready, pending := none })) (hs : args.size = L.params.size)
    (hA : L.assign.wpIn (F.inRound l) m P (Exit.then (fun a2 W1 => a2 = a1 ∧ W1 = W) (fun _ _ _ => False)) { tmps := (L.params.zip args).foldl (fun tmps (t, a) => tmps.setIfInBounds t a) L.tmps, defers := [] } W)
    (hB : L.body.wpIn (F.inRound l) m P (RdEnd l L R) a1 (W.putObj l (.loop { L with state := .busy, pending := none }))) : YieldAt F m P l args W R := by
  refine rf_yield L hF hl hs (wpIn_mono hA ?_)
  intro e a W1 hq
  cases e with
  | normal =>
    obtain ⟨rfl, rfl⟩ := hq
    exact ⟨hl, hB⟩
  | ret => exact hq.elim
  | exit k => exact hq.elim
  | goto t => exact hq.elim
  | panic c => exact hq.elim
  | outgrown => exact hq.elim
/-- What lies behind the iterator's call: the record says whether a round has left the loop. -/
def RfEnd (F : Fence) (n : Nat) (P : Program) (l : Nat) (L : Loop) (Q : Exit → Act → World → Prop) (a : Act) (e : Ending) (W : World) : Prop :=
  (∃ v, e = .returned v) ∧ ∃ st pe, W.heap[l]? = some (.loop { L with state := st, pending := pe }) ∧ st ≠ .busy ∧
    (match pe with
     | none => Q .normal a (W.putObj l (.loop { L with state := .exhausted, pending := none }))
     | some c => c.wpIn F n P Q a (W.putObj l (.loop { L with state := .exhausted, pending := some c })))
/-- The statement, by the iterator's call alone. -/
theorem rf_stmt {g : Operand} {ps : Array Tmp} {assign body : Code} {Q : Exit → Act → World → Prop} {a : Act} {w : World} (hro : F.round = none) (h1 : 1 ≤ n) {gf : Nat} {lb : Array Value}
    (hg : a.eval g = .func (.func gf) #[] lb) (hF : F.fn gf) (eg : ∀ args w, (callFunc gf args).run P w = .ok (.enter gf args) w)
    (h : ∀ fn, F.fn fn → CallsIn F (n - 1) P gf (#[.func (.yield (w.heap.size + 1)) #[] #[]] ++ lb) ((w.alloc (.deferred (some []))).alloc (.loop { state := .ready, pending := none, fn, tmps := a.tmps, params := ps, assign, body, defers := w.heap.size }))
      (RfEnd F n P (w.heap.size + 1) { state := .ready, pending := none, fn, tmps := a.tmps, params := ps, assign, body, defers := w.heap.size } Q { a with defers := { target := .collected w.heap.size, args := #[] } :: a.defers })) :
    (Code.rangeFunc g ps assign body).wpIn F n P Q a w := by
  refine wpIn_rangeFunc fun fn hfn => ?_
  rw [hro]
  have h := h fn hfn
  generalize hL : ({ state := .ready, pending := none, fn, tmps := a.tmps, params := ps, assign, body, defers := w.heap.size } : Loop) = L at h
  generalize hW1 : (w.alloc (.deferred (some []))).alloc (.loop L) = W1 at h
  refine ⟨w.heap.size + 1, [{ target := .collected w.heap.size, args := #[] }], W1, { target := .fn (.func gf) lb, args := #[.func (.yield (w.heap.size + 1)) #[] #[]] }, W1, gf, #[.func (.yield (w.heap.size + 1)) #[] #[]] ++ lb, W1, ?_, ?_, ?_, ?_, fun _ => h1, ?_⟩
  · rw [← hW1, ← hL]
    exact run_enterLoop_outer _ _ _ _ _
  · clear h hL hW1
    simp only [resolve, hg]
    simp [go_sem]
  · clear h hL hW1
    intro f' hf'
    simp [Target.leads] at hf'
    exact hf' ▸ hF
  · clear h hL hW1
    simp [invoke, go_sem, eg]
  · clear hL hW1
    refine h.mono ?_
    rintro e W ⟨⟨v, rfl⟩, st, pe, hl, hb, hq⟩
    have hr := run_endLoop (P := P) hl hb
    exact ⟨pe, _, hr, by cases pe <;> exact hq⟩
end Go.Proofs.Ytkdfidjoighknaa.Rf
