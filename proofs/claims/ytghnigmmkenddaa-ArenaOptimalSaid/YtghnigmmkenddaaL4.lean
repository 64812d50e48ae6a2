/- Lifetimes: MaxLive of the program. -/
import Derived.Test.YtghnigmmkenddaaL3
namespace Go.Proofs.Ytghnigmmkenddaa.Lv
open Go.ChangeShapes Go.WideShapes Go.ChangeAt Go.RowKit
set_option linter.unusedVariables false
set_option linter.unusedSimpArgs false
theorem kpb {B : Nat} {y y' : World} {b o : Nat} {v : Value} (hy : Below B y y') (hb : b < B) (h : y.cell? ⟨b, o, none⟩ = some v) : y'.cell? ⟨b, o, none⟩ = some v := (hy.cell (p := ⟨b, o, none⟩) hb).trans h
theorem Pr.mk {base : Nat} {w : World} {a b : Value} {n m : Nat} {la lb : List Int} (h1 : w.ownsRow base 3 1 a n (la.map (Value.int .i64))) (h2 : w.ownsRow base 3 1 b m (lb.map (Value.int .i64))) (h3 : ∀ g, a.ownBlock = some g → b.ownBlock = some g → False) : Pr base w a b n m la lb := ⟨h1, h2, h3⟩
theorem own_any {w : World} {base n : Nat} {e : TypeId} {v : Value} {xs : List Value} (h : w.ownsRow base e 1 v n xs) : ∃ q cap, v = .slice q n cap ∧ (0 < n → ∃ g, q = some ⟨g, 0, none⟩) := by
  rcases h.2 with ⟨rfl, rfl⟩ | ⟨g, cap, cur, rfl, _⟩
  · exact ⟨none, 0, rfl, fun h => by omega⟩
  · exact ⟨_, cap, rfl, fun _ => ⟨g, rfl⟩⟩
theorem cellI {w : World} {base g n cap j : Nat} {t : TypeId} {xs : List Int} (h : w.ownsRow base t 1 (.slice (some ⟨g, 0, none⟩) n cap) n (xs.map (Value.int .i64))) (hj : j < n) (hx : xs.length = n) :
    w.cell? ⟨g, j, none⟩ = some (.int .i64 (xs.getD j 0)) := by
  rw [h.cellAt j (by omega), List.getElem?_map, List.getElem?_eq_getElem (by omega), List.getD, List.getElem?_eq_getElem (by omega)]
  rfl
def Pq (w0 w : World) (a b : Value) (n m : Nat) (la lb : List Int) : Prop := Pr w0.heap.size w a b n m la lb ∧ Below w0.heap.size w0 w
theorem Pq.alloc {w0 w : World} {a b : Value} {n m : Nat} {la lb : List Int} (h : Pq w0 w a b n m la lb) (o : Obj) : Pq w0 (w.alloc o) a b n m la lb := ⟨h.1.alloc o, h.2.alloc h.2.size o⟩
theorem Pq.drew {w0 w : World} {a b : Value} {n m : Nat} {la lb : List Int} (h : Pq w0 w a b n m la lb) : Pq w0 w.drew a b n m la lb := ⟨h.1, Below.drew h.2⟩
theorem Pq.stepA {w0 w w' : World} {a b : Value} {n m : Nat} {la lb : List Int} {x : Int} {g cap H : Nat} (h : Pq w0 w a b n m la lb) (hown : w'.ownsRow w0.heap.size 3 1 (.slice (some ⟨g, 0, none⟩) (n + 1) cap) (n + 1) (la.map (Value.int .i64) ++ [.int .i64 x]))
    (hg : w.grownBy w' a.ownBlock) (hat : a.ownBlock = some g ∨ g = H) (hH : w.heap.size = H) : Pq w0 w' (.slice (some ⟨g, 0, none⟩) (n + 1) cap) b (n + 1) m (la ++ [x]) lb :=
  ⟨h.1.stepA hown hg hat hH, below_grown h.2 h.1.1 (Nat.le_refl _) hg h.2.size⟩
theorem Pq.swap {w0 w : World} {a b : Value} {n m : Nat} {la lb : List Int} (h : Pq w0 w a b n m la lb) : Pq w0 w b a m n lb la := ⟨h.1.swap, h.2⟩
theorem Pq.stepB {w0 w w' : World} {a b : Value} {n m : Nat} {la lb : List Int} {x : Int} {g cap H : Nat} (h : Pq w0 w b a n m lb la) (hown : w'.ownsRow w0.heap.size 3 1 (.slice (some ⟨g, 0, none⟩) (m + 1) cap) (m + 1) (la.map (Value.int .i64) ++ [.int .i64 x]))
    (hg : w.grownBy w' a.ownBlock) (hat : a.ownBlock = some g ∨ g = H) (hH : w.heap.size = H) : Pq w0 w' b (.slice (some ⟨g, 0, none⟩) (m + 1) cap) n (m + 1) lb (la ++ [x]) := (h.swap.stepA hown hg hat hH).swap
end Go.Proofs.Ytghnigmmkenddaa.Lv
