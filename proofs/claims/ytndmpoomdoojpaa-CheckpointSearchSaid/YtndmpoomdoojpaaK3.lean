/- CheckPlan. -/
import Derived.Test.YtndmpoomdoojpaaK2
import Derived.OwnWalk
import Derived.Laws.OwnMore
import Derived.Laws.AppendOwn
import Derived.OneCell
import Derived.WalkSmall
import Derived.Deep.Onto
import Derived.Deep.RegionHeld
namespace Go.Proofs.Ytndmpoomdoojpaa.Ck
open Go.ChangeShapes Go.WideShapes Go.ChangeAt Go.RowKit
set_option linter.unusedVariables false

/-- An action: what it does, the state and the slot. -/
abbrev Act3 := Int × Int × Int
def SlA (w : World) (p : Option Addr) (xs : List Act3) : Prop := ∀ i, i < xs.length → ∃ b o, p = some ⟨b, o, none⟩ ∧ w.cell? ⟨b, o + i * 3, none⟩ = some (.int .i64 (xs.getD i (0, 0, 0)).1) ∧ w.cell? ⟨b, o + i * 3 + 1, none⟩ = some (.int .i64 (xs.getD i (0, 0, 0)).2.1) ∧ w.cell? ⟨b, o + i * 3 + 2, none⟩ = some (.int .i64 (xs.getD i (0, 0, 0)).2.2)
def sl (s z : Int) : Bool := decide (0 ≤ z ∧ z < s)
theorem isSlot (z s : Int) (B : Nat) (w : World) (hc : w.cell? ⟨B, 0, none⟩ = some (.int .i64 s)) : Calls Try.prog 55 #[.int .i64 z, .pointer (some ⟨B, 0, none⟩)] w fun e w' => e = .returned (.bool (sl s z)) ∧ w = w' := by
  by_cases h0 : 0 ≤ z
  · by_cases h1 : z < s
    · rw [show sl s z = true from decide_eq_true ⟨h0, h1⟩]
      go_enter Try.func55, Try.ntmps55
      go_wp2
      go_ret
      exact ⟨rfl, rfl⟩
    · rw [show sl s z = false from decide_eq_false (by omega)]
      have d1 : decide (z < s) = false := decide_eq_false h1
      go_enter Try.func55, Try.ntmps55
      go_wp2
      go_ret
      exact ⟨rfl, rfl⟩
  · rw [show sl s z = false from decide_eq_false (by omega)]
    have d1 : decide (0 ≤ z) = false := decide_eq_false h0
    go_enter Try.func55, Try.ntmps55
    go_wp2
    go_ret
    exact ⟨rfl, rfl⟩
/-- Where a plan stands. -/
structure St where
  held : List Int
  now : Int
  left : Int
  cost : Int
def val (n s : Int) (t : St) (a : Act3) : Bool :=
  if a.1 = 1 then decide (a.2.2 = 0) && (decide (a.2.1 = t.now + 1) && decide (a.2.1 ≤ n))
  else if a.1 = 2 then decide (a.2.1 = t.now) && sl s a.2.2
  else if a.1 = 3 then (sl s a.2.2 && (decide (t.held.getD a.2.2.toNat 0 = a.2.1) && decide (0 ≤ a.2.1))) || (decide (a.2.2 = -1) && decide (a.2.1 = 0))
  else if a.1 = 4 then decide (a.2.2 = 0) && (decide (1 ≤ t.left) && (decide (a.2.1 = t.left) && decide (t.now = t.left - 1)))
  else false
def nxt (t : St) (a : Act3) : St :=
  if a.1 = 1 then ⟨t.held, a.2.1, t.left, t.cost + 1⟩
  else if a.1 = 2 then ⟨t.held.set a.2.2.toNat t.now, t.now, t.left, t.cost⟩
  else if a.1 = 3 then ⟨t.held, a.2.1, t.left, t.cost⟩
  else ⟨t.held, t.now, t.left - 1, t.cost⟩
def go (n s : Int) (len : Int) : St → Int → List Act3 → Int × Int
  | t, i, [] => if 0 < t.left then (len, 6) else (t.cost, 0)
  | t, i, a :: xs => if val n s t a = true then go n s len (nxt t a) (i + 1) xs else (i, 26)
def ck (n s : Int) (xs : List Act3) : Int × Int := if inr n s = false then (0, 1) else if 65536 < xs.length then (0, 2) else go n s xs.length ⟨List.replicate 64 (-1), 0, n, 0⟩ 0 xs
def CW (r : Int × Int) (w : World) (e : Ending) (w' : World) : Prop := e = NE r.1 r.2 ∧ Below w.heap.size w w'
theorem getD_at {zs : List Int} {k : Nat} (h : k < zs.length) : zs.getD k 0 = zs[k] := by
  unfold List.getD
  rw [List.getElem?_eq_getElem h]
  rfl
theorem val1 {n s A z : Int} {t : St} : val n s t (1, A, z) = (decide (z = 0) && (decide (A = t.now + 1) && decide (A ≤ n))) := rfl
theorem val2 {n s A z : Int} {t : St} : val n s t (2, A, z) = (decide (A = t.now) && sl s z) := rfl
theorem val3 {n s A z : Int} {t : St} : val n s t (3, A, z) = ((sl s z && (decide (t.held.getD z.toNat 0 = A) && decide (0 ≤ A))) || (decide (z = -1) && decide (A = 0))) := rfl
theorem val4 {n s A z : Int} {t : St} : val n s t (4, A, z) = (decide (z = 0) && (decide (1 ≤ t.left) && (decide (A = t.left) && decide (t.now = t.left - 1)))) := rfl
theorem val0 {n s A z op : Int} {t : St} (h1 : ¬ op = 1) (h2 : ¬ op = 2) (h3 : ¬ op = 3) (h4 : ¬ op = 4) : val n s t (op, A, z) = false := by
  unfold val
  rw [if_neg h1, if_neg h2, if_neg h3, if_neg h4]
theorem kp {y y' : World} {b o : Nat} {v : Value} (hy : Below y.heap.size y y') (hb : b < y.heap.size) (h : y.cell? ⟨b, o, none⟩ = some v) : y'.cell? ⟨b, o, none⟩ = some v := (hy.cell (p := ⟨b, o, none⟩) hb).trans h
theorem heldR (j : Nat) : (List.replicate 64 (-1 : Int)).getD j 0 ≤ 64 := by
  by_cases h : j < 64
  · rw [getD_at (by simpa using h), List.getElem_replicate]; decide
  · rw [List.getD, List.getElem?_eq_none (by simp; omega)]; decide
theorem held_set {l : List Int} (h : ∀ j, l.getD j 0 ≤ 64) {i : Nat} {x : Int} (hx : x ≤ 64) (j : Nat) : (l.set i x).getD j 0 ≤ 64 := by
  by_cases hj : j < l.length
  · rw [getD_at (by simpa using hj)]
    by_cases hij : i = j
    · subst hij; rw [List.getElem_set_self]; exact hx
    · rw [List.getElem_set_ne hij, ← getD_at hj]; exact h j
  · rw [List.getD, List.getElem?_eq_none (by simp; omega)]; decide
theorem go_bad {n s L : Int} {t : St} {i : Int} {a : Act3} {r : List Act3} (h : val n s t a = false) : go n s L t i (a :: r) = (i, 26) := by
  show (if val n s t a = true then _ else _) = _
  rw [h]; rfl
theorem go_ok {n s L : Int} {t : St} {i : Int} {a : Act3} {r : List Act3} (h : val n s t a = true) : go n s L t i (a :: r) = go n s L (nxt t a) (i + 1) r := by
  show (if val n s t a = true then _ else _) = _
  rw [if_pos h]
theorem dropA {xs : List Act3} {k : Nat} (h : k < xs.length) : xs.drop k = xs.getD k (0, 0, 0) :: xs.drop (k + 1) := by
  rw [List.drop_eq_getElem_cons h, List.getD, List.getElem?_eq_getElem h]
  rfl
theorem cellT {w : World} {base g n cap j : Nat} {t : TypeId} {xs : List Int} (h : w.ownsRow base t 1 (.slice (some ⟨g, 0, none⟩) n cap) n (xs.map (Value.int .i64))) (hj : j < n) (hx : xs.length = n) :
    w.cell? ⟨g, j, none⟩ = some (.int .i64 (xs.getD j 0)) := by
  rw [h.cellAt j (by omega), List.getElem?_map, List.getElem?_eq_getElem (by omega), getD_at (by omega)]
  rfl
set_option maxRecDepth 100000 in
set_option maxHeartbeats 8000000 in
theorem cp (p : Option Addr) (xs : List Act3) (c : Nat) (n s : Int) (w : World) (hn : xs.length ≤ maxLen) (RA : Hid (SlA w p xs)) :
    Calls Try.prog 28 #[.int .i64 n, .int .i64 s, .slice p xs.length c] w (CW (ck n s xs) w) := by
  have C := Lib.hid (inRange n s)
  unfold maxLen at hn
  by_cases h : 0 ≤ n ∧ n ≤ 64 ∧ 0 ≤ s ∧ s ≤ 64
  · rw [inr_ok h] at C
    by_cases hl : 65536 < xs.length
    · have l1 : decide ((65536 : Int) < xs.length) = true := decide_eq_true (by omega)
      have l2 : decide (65536 < xs.length) = true := decide_eq_true (by omega)
      rw [show ck n s xs = (0, 2) by unfold ck; rw [inr_ok h, if_neg (by decide), if_pos hl]]
      clear h hl
      go_enter Try.func28, Try.ntmps28
      go_wp2_with (go_at_call 46; refine (C.out _).mono ?_; rintro e w' ⟨rfl, rfl⟩)
      exact bodyPost_ret (v := .tuple #[.int .i64 0, .int .i64 2]) (by simp [results, Try.results28, go_sem]) rfl ⟨rfl, (Below.refl _ _).alloc (Nat.le_refl _) _⟩
    · have l1 : decide ((65536 : Int) < xs.length) = false := decide_eq_false (by omega)
      have l2 : decide (65536 < xs.length) = false := decide_eq_false (by omega)
      obtain ⟨V, hV⟩ : ∃ V, ck n s xs = V := ⟨_, rfl⟩
      rw [hV]
      have HV := Lib.hid (show go n s xs.length ⟨List.replicate 64 (-1), 0, n, 0⟩ 0 xs = V by rw [← hV]; unfold ck; rw [inr_ok h, if_neg (by decide), if_neg hl])
      obtain ⟨n0, n1, s0, s1⟩ := h
      clear hV
      go_enter Try.func28, Try.ntmps28
      go_wp2_with (go_at_call 46; refine (C.out _).mono ?_; rintro e w' ⟨rfl, rfl⟩)
      have hO0 : Hid (((w.alloc (Obj.cells #[Value.int IntKind.i64 s] 3)).alloc (Obj.cells #[Value.int IntKind.i64 0, Value.int IntKind.i64 0, Value.int IntKind.i64 0, Value.int IntKind.i64 0, Value.int IntKind.i64 0, Value.int IntKind.i64 0, Value.int IntKind.i64 0, Value.int IntKind.i64 0, Value.int IntKind.i64 0, Value.int IntKind.i64 0, Value.int IntKind.i64 0, Value.int IntKind.i64 0, Value.int IntKind.i64 0, Value.int IntKind.i64 0, Value.int IntKind.i64 0, Value.int IntKind.i64 0, Value.int IntKind.i64 0, Value.int IntKind.i64 0, Value.int IntKind.i64 0, Value.int IntKind.i64 0, Value.int IntKind.i64 0, Value.int IntKind.i64 0, Value.int IntKind.i64 0, Value.int IntKind.i64 0, Value.int IntKind.i64 0, Value.int IntKind.i64 0, Value.int IntKind.i64 0, Value.int IntKind.i64 0, Value.int IntKind.i64 0, Value.int IntKind.i64 0, Value.int IntKind.i64 0, Value.int IntKind.i64 0, Value.int IntKind.i64 0, Value.int IntKind.i64 0, Value.int IntKind.i64 0, Value.int IntKind.i64 0, Value.int IntKind.i64 0, Value.int IntKind.i64 0, Value.int IntKind.i64 0, Value.int IntKind.i64 0, Value.int IntKind.i64 0, Value.int IntKind.i64 0, Value.int IntKind.i64 0, Value.int IntKind.i64 0, Value.int IntKind.i64 0, Value.int IntKind.i64 0, Value.int IntKind.i64 0, Value.int IntKind.i64 0, Value.int IntKind.i64 0, Value.int IntKind.i64 0, Value.int IntKind.i64 0, Value.int IntKind.i64 0, Value.int IntKind.i64 0, Value.int IntKind.i64 0, Value.int IntKind.i64 0, Value.int IntKind.i64 0, Value.int IntKind.i64 0, Value.int IntKind.i64 0, Value.int IntKind.i64 0, Value.int IntKind.i64 0, Value.int IntKind.i64 0, Value.int IntKind.i64 0, Value.int IntKind.i64 0, Value.int IntKind.i64 0] 86)).ownsRow (w.heap.size + 1) 86 1 (.slice (some ⟨w.heap.size + 1, 0, none⟩) 64 64) 64 ((List.replicate 64 (0 : Int)).map (Value.int .i64))) :=
        Lib.hid (by
          have h := World.ownsRow_lit (base := w.heap.size + 1) (e := 86) (size := 1) (w.alloc (Obj.cells #[Value.int IntKind.i64 s] 3)) #[Value.int IntKind.i64 0, Value.int IntKind.i64 0, Value.int IntKind.i64 0, Value.int IntKind.i64 0, Value.int IntKind.i64 0, Value.int IntKind.i64 0, Value.int IntKind.i64 0, Value.int IntKind.i64 0, Value.int IntKind.i64 0, Value.int IntKind.i64 0, Value.int IntKind.i64 0, Value.int IntKind.i64 0, Value.int IntKind.i64 0, Value.int IntKind.i64 0, Value.int IntKind.i64 0, Value.int IntKind.i64 0, Value.int IntKind.i64 0, Value.int IntKind.i64 0, Value.int IntKind.i64 0, Value.int IntKind.i64 0, Value.int IntKind.i64 0, Value.int IntKind.i64 0, Value.int IntKind.i64 0, Value.int IntKind.i64 0, Value.int IntKind.i64 0, Value.int IntKind.i64 0, Value.int IntKind.i64 0, Value.int IntKind.i64 0, Value.int IntKind.i64 0, Value.int IntKind.i64 0, Value.int IntKind.i64 0, Value.int IntKind.i64 0, Value.int IntKind.i64 0, Value.int IntKind.i64 0, Value.int IntKind.i64 0, Value.int IntKind.i64 0, Value.int IntKind.i64 0, Value.int IntKind.i64 0, Value.int IntKind.i64 0, Value.int IntKind.i64 0, Value.int IntKind.i64 0, Value.int IntKind.i64 0, Value.int IntKind.i64 0, Value.int IntKind.i64 0, Value.int IntKind.i64 0, Value.int IntKind.i64 0, Value.int IntKind.i64 0, Value.int IntKind.i64 0, Value.int IntKind.i64 0, Value.int IntKind.i64 0, Value.int IntKind.i64 0, Value.int IntKind.i64 0, Value.int IntKind.i64 0, Value.int IntKind.i64 0, Value.int IntKind.i64 0, Value.int IntKind.i64 0, Value.int IntKind.i64 0, Value.int IntKind.i64 0, Value.int IntKind.i64 0, Value.int IntKind.i64 0, Value.int IntKind.i64 0, Value.int IntKind.i64 0, Value.int IntKind.i64 0, Value.int IntKind.i64 0] 64 (by simp) (by unfold maxLen; decide) rfl
          simp only [World.size_alloc] at h
          exact h)
      have hB0 : Below w.heap.size w ((w.alloc (Obj.cells #[Value.int IntKind.i64 s] 3)).alloc (Obj.cells #[Value.int IntKind.i64 0, Value.int IntKind.i64 0, Value.int IntKind.i64 0, Value.int IntKind.i64 0, Value.int IntKind.i64 0, Value.int IntKind.i64 0, Value.int IntKind.i64 0, Value.int IntKind.i64 0, Value.int IntKind.i64 0, Value.int IntKind.i64 0, Value.int IntKind.i64 0, Value.int IntKind.i64 0, Value.int IntKind.i64 0, Value.int IntKind.i64 0, Value.int IntKind.i64 0, Value.int IntKind.i64 0, Value.int IntKind.i64 0, Value.int IntKind.i64 0, Value.int IntKind.i64 0, Value.int IntKind.i64 0, Value.int IntKind.i64 0, Value.int IntKind.i64 0, Value.int IntKind.i64 0, Value.int IntKind.i64 0, Value.int IntKind.i64 0, Value.int IntKind.i64 0, Value.int IntKind.i64 0, Value.int IntKind.i64 0, Value.int IntKind.i64 0, Value.int IntKind.i64 0, Value.int IntKind.i64 0, Value.int IntKind.i64 0, Value.int IntKind.i64 0, Value.int IntKind.i64 0, Value.int IntKind.i64 0, Value.int IntKind.i64 0, Value.int IntKind.i64 0, Value.int IntKind.i64 0, Value.int IntKind.i64 0, Value.int IntKind.i64 0, Value.int IntKind.i64 0, Value.int IntKind.i64 0, Value.int IntKind.i64 0, Value.int IntKind.i64 0, Value.int IntKind.i64 0, Value.int IntKind.i64 0, Value.int IntKind.i64 0, Value.int IntKind.i64 0, Value.int IntKind.i64 0, Value.int IntKind.i64 0, Value.int IntKind.i64 0, Value.int IntKind.i64 0, Value.int IntKind.i64 0, Value.int IntKind.i64 0, Value.int IntKind.i64 0, Value.int IntKind.i64 0, Value.int IntKind.i64 0, Value.int IntKind.i64 0, Value.int IntKind.i64 0, Value.int IntKind.i64 0, Value.int IntKind.i64 0, Value.int IntKind.i64 0, Value.int IntKind.i64 0, Value.int IntKind.i64 0] 86)) := ((Below.refl _ _).alloc (Nat.le_refl _) _).alloc (by simp) _
      have hx0 : ((w.alloc (Obj.cells #[Value.int IntKind.i64 s] 3)).alloc (Obj.cells #[Value.int IntKind.i64 0, Value.int IntKind.i64 0, Value.int IntKind.i64 0, Value.int IntKind.i64 0, Value.int IntKind.i64 0, Value.int IntKind.i64 0, Value.int IntKind.i64 0, Value.int IntKind.i64 0, Value.int IntKind.i64 0, Value.int IntKind.i64 0, Value.int IntKind.i64 0, Value.int IntKind.i64 0, Value.int IntKind.i64 0, Value.int IntKind.i64 0, Value.int IntKind.i64 0, Value.int IntKind.i64 0, Value.int IntKind.i64 0, Value.int IntKind.i64 0, Value.int IntKind.i64 0, Value.int IntKind.i64 0, Value.int IntKind.i64 0, Value.int IntKind.i64 0, Value.int IntKind.i64 0, Value.int IntKind.i64 0, Value.int IntKind.i64 0, Value.int IntKind.i64 0, Value.int IntKind.i64 0, Value.int IntKind.i64 0, Value.int IntKind.i64 0, Value.int IntKind.i64 0, Value.int IntKind.i64 0, Value.int IntKind.i64 0, Value.int IntKind.i64 0, Value.int IntKind.i64 0, Value.int IntKind.i64 0, Value.int IntKind.i64 0, Value.int IntKind.i64 0, Value.int IntKind.i64 0, Value.int IntKind.i64 0, Value.int IntKind.i64 0, Value.int IntKind.i64 0, Value.int IntKind.i64 0, Value.int IntKind.i64 0, Value.int IntKind.i64 0, Value.int IntKind.i64 0, Value.int IntKind.i64 0, Value.int IntKind.i64 0, Value.int IntKind.i64 0, Value.int IntKind.i64 0, Value.int IntKind.i64 0, Value.int IntKind.i64 0, Value.int IntKind.i64 0, Value.int IntKind.i64 0, Value.int IntKind.i64 0, Value.int IntKind.i64 0, Value.int IntKind.i64 0, Value.int IntKind.i64 0, Value.int IntKind.i64 0, Value.int IntKind.i64 0, Value.int IntKind.i64 0, Value.int IntKind.i64 0, Value.int IntKind.i64 0, Value.int IntKind.i64 0, Value.int IntKind.i64 0] 86)).cell? ⟨w.heap.size, 0, none⟩ = some (.int .i64 s) := by go_cell
      have hz0 : w.heap.size + 2 ≤ ((w.alloc (Obj.cells #[Value.int IntKind.i64 s] 3)).alloc (Obj.cells #[Value.int IntKind.i64 0, Value.int IntKind.i64 0, Value.int IntKind.i64 0, Value.int IntKind.i64 0, Value.int IntKind.i64 0, Value.int IntKind.i64 0, Value.int IntKind.i64 0, Value.int IntKind.i64 0, Value.int IntKind.i64 0, Value.int IntKind.i64 0, Value.int IntKind.i64 0, Value.int IntKind.i64 0, Value.int IntKind.i64 0, Value.int IntKind.i64 0, Value.int IntKind.i64 0, Value.int IntKind.i64 0, Value.int IntKind.i64 0, Value.int IntKind.i64 0, Value.int IntKind.i64 0, Value.int IntKind.i64 0, Value.int IntKind.i64 0, Value.int IntKind.i64 0, Value.int IntKind.i64 0, Value.int IntKind.i64 0, Value.int IntKind.i64 0, Value.int IntKind.i64 0, Value.int IntKind.i64 0, Value.int IntKind.i64 0, Value.int IntKind.i64 0, Value.int IntKind.i64 0, Value.int IntKind.i64 0, Value.int IntKind.i64 0, Value.int IntKind.i64 0, Value.int IntKind.i64 0, Value.int IntKind.i64 0, Value.int IntKind.i64 0, Value.int IntKind.i64 0, Value.int IntKind.i64 0, Value.int IntKind.i64 0, Value.int IntKind.i64 0, Value.int IntKind.i64 0, Value.int IntKind.i64 0, Value.int IntKind.i64 0, Value.int IntKind.i64 0, Value.int IntKind.i64 0, Value.int IntKind.i64 0, Value.int IntKind.i64 0, Value.int IntKind.i64 0, Value.int IntKind.i64 0, Value.int IntKind.i64 0, Value.int IntKind.i64 0, Value.int IntKind.i64 0, Value.int IntKind.i64 0, Value.int IntKind.i64 0, Value.int IntKind.i64 0, Value.int IntKind.i64 0, Value.int IntKind.i64 0, Value.int IntKind.i64 0, Value.int IntKind.i64 0, Value.int IntKind.i64 0, Value.int IntKind.i64 0, Value.int IntKind.i64 0, Value.int IntKind.i64 0, Value.int IntKind.i64 0] 86)).heap.size := by simp
      generalize (w.alloc (Obj.cells #[Value.int IntKind.i64 s] 3)).alloc (Obj.cells #[Value.int IntKind.i64 0, Value.int IntKind.i64 0, Value.int IntKind.i64 0, Value.int IntKind.i64 0, Value.int IntKind.i64 0, Value.int IntKind.i64 0, Value.int IntKind.i64 0, Value.int IntKind.i64 0, Value.int IntKind.i64 0, Value.int IntKind.i64 0, Value.int IntKind.i64 0, Value.int IntKind.i64 0, Value.int IntKind.i64 0, Value.int IntKind.i64 0, Value.int IntKind.i64 0, Value.int IntKind.i64 0, Value.int IntKind.i64 0, Value.int IntKind.i64 0, Value.int IntKind.i64 0, Value.int IntKind.i64 0, Value.int IntKind.i64 0, Value.int IntKind.i64 0, Value.int IntKind.i64 0, Value.int IntKind.i64 0, Value.int IntKind.i64 0, Value.int IntKind.i64 0, Value.int IntKind.i64 0, Value.int IntKind.i64 0, Value.int IntKind.i64 0, Value.int IntKind.i64 0, Value.int IntKind.i64 0, Value.int IntKind.i64 0, Value.int IntKind.i64 0, Value.int IntKind.i64 0, Value.int IntKind.i64 0, Value.int IntKind.i64 0, Value.int IntKind.i64 0, Value.int IntKind.i64 0, Value.int IntKind.i64 0, Value.int IntKind.i64 0, Value.int IntKind.i64 0, Value.int IntKind.i64 0, Value.int IntKind.i64 0, Value.int IntKind.i64 0, Value.int IntKind.i64 0, Value.int IntKind.i64 0, Value.int IntKind.i64 0, Value.int IntKind.i64 0, Value.int IntKind.i64 0, Value.int IntKind.i64 0, Value.int IntKind.i64 0, Value.int IntKind.i64 0, Value.int IntKind.i64 0, Value.int IntKind.i64 0, Value.int IntKind.i64 0, Value.int IntKind.i64 0, Value.int IntKind.i64 0, Value.int IntKind.i64 0, Value.int IntKind.i64 0, Value.int IntKind.i64 0, Value.int IntKind.i64 0, Value.int IntKind.i64 0, Value.int IntKind.i64 0, Value.int IntKind.i64 0] 86) = w1 at *
      go_loopw [24] (fun i wr => ∃ (k : Nat) (hs : List Int), i = .int .i64 k ∧ k ≤ 64 ∧ hs.length = 64 ∧ Hid (∀ j, j < k → hs.getD j 0 = -1) ∧ Below w.heap.size w wr ∧ w.heap.size + 2 ≤ wr.heap.size ∧ wr.cell? ⟨w.heap.size, 0, none⟩ = some (.int .i64 s) ∧ Hid (wr.ownsRow (w.heap.size + 1) 86 1 (.slice (some ⟨w.heap.size + 1, 0, none⟩) 64 64) 64 (hs.map (Value.int .i64)))) (fun i _ => 64 - (intOf i).toNat)
      case atStart => exact ⟨0, _, rfl, by omega, by simp, Lib.hid fun j hj => by omega, hB0, hz0, hx0, hO0⟩
      case round =>
        obtain ⟨k, hs, rfl, hk, hl64, hJ, hB, hz, hx, hO⟩ := hrel
        clear hO0 hB0 hx0 hz0
        by_cases hlt : k < 64
        · have kk : (0 : Int) ≤ k := by omega
          have k2 : (k : Int) < 64 := by omega
          have oc := cellT hO.out (j := k) hlt hl64
          have of := hO.out.frozenAt k
          have oS : Hid ((wr.setCell ⟨w.heap.size + 1, k, none⟩ (.int .i64 (-1))).ownsRow (w.heap.size + 1) 86 1 (.slice (some ⟨w.heap.size + 1, 0, none⟩) 64 64) 64 ((hs.set k (-1)).map (Value.int .i64))) := Lib.hid (by rw [List.map_set]; exact (hO.out.stored k (.int .i64 (-1))).1)
          have ne : ¬ w.heap.size + 1 = w.heap.size := by omega
          have hx2 : (wr.setCell ⟨w.heap.size + 1, k, none⟩ (.int .i64 (-1))).cell? ⟨w.heap.size, 0, none⟩ = some (.int .i64 s) := by rw [World.cell?_setCell_far _ _ _ _ ne]; exact hx
          have hJ2 : Hid (∀ j, j < k + 1 → (hs.set k (-1)).getD j 0 = -1) := Lib.hid fun j hj => by
            by_cases hjk : j = k
            · subst hjk
              rw [getD_at (by simp [hl64]; omega), List.getElem_set_self]
            · rw [getD_at (by simp [hl64]; omega), List.getElem_set_ne (by omega), ← getD_at (by omega)]
              exact hJ.out j (by omega)
          go_wp2
          go_roundw
          case rel => exact ⟨k + 1, _, by go_num, by omega, by simp [hl64], hJ2, hB.setCell (by show _ ≤ w.heap.size + 1; omega) _, by simpa using hz, hx2, oS⟩
          case measure => simp [intOf]; omega
        · have e : hs = List.replicate 64 (-1) := by
            refine List.ext_getElem (by simp [hl64]) fun j h1 h2 => ?_
            have := hJ.out j (by omega)
            rw [getD_at h1] at this
            rw [List.getElem_replicate]
            exact this
          subst e
          clear hJ
          go_wp2
          go_loopw [10, 11, 12, 34] (fun a b c i wr => ∃ (k : Nat) (t : St), a = .int .i64 t.now ∧ b = .int .i64 t.left ∧ c = .int .i64 t.cost ∧ i = .int .i64 k ∧ k ≤ xs.length ∧ Hid (go n s xs.length t k (xs.drop k) = V) ∧ (0 ≤ t.now ∧ t.now ≤ 64) ∧ (0 ≤ t.left ∧ t.left ≤ 64) ∧ (0 ≤ t.cost ∧ t.cost ≤ k) ∧ t.held.length = 64 ∧ Hid (∀ j, t.held.getD j 0 ≤ 64) ∧ Below w.heap.size w wr ∧ w.heap.size + 2 ≤ wr.heap.size ∧ wr.cell? ⟨w.heap.size, 0, none⟩ = some (.int .i64 s) ∧ Hid (wr.ownsRow (w.heap.size + 1) 86 1 (.slice (some ⟨w.heap.size + 1, 0, none⟩) 64 64) 64 (t.held.map (Value.int .i64)))) (fun _ _ _ i _ => xs.length - (intOf i).toNat)
          case atStart => exact ⟨0, ⟨List.replicate 64 (-1), 0, n, 0⟩, rfl, rfl, rfl, rfl, by omega, HV, ⟨by simp, by simp⟩, ⟨n0, n1⟩, ⟨by simp, by simp⟩, by simp, Lib.hid heldR, hB, hz, hx, hO⟩
          case round =>
            obtain ⟨k, t, rfl, rfl, rfl, rfl, hk, hG, hnow, hleft, hcost, hl64, hH, hB, hz, hx, hO⟩ := hrel
            by_cases hlt : k < xs.length
            · obtain ⟨b, o, rfl, c0, c1, c2⟩ := RA.out k hlt
              have hb : b < w.heap.size := by have := World.block_lt_of_cell? w _ c0; simpa using this
              have c0 := (hB.cell (p := ⟨b, o + k * 3, none⟩) hb).trans c0
              have c1 := (hB.cell (p := ⟨b, o + k * 3 + 1, none⟩) hb).trans c1
              have c2 := (hB.cell (p := ⟨b, o + k * 3 + 2, none⟩) hb).trans c2
              have hd := dropA hlt
              have hGb : Hid (val n s t (xs.getD k (0, 0, 0)) = false → V = ((k : Int), 26)) := Lib.hid fun h => by rw [← hG.out, hd, go_bad h]
              have hGo : Hid (val n s t (xs.getD k (0, 0, 0)) = true → go n s xs.length (nxt t (xs.getD k (0, 0, 0))) ((k + 1 : Nat) : Int) (xs.drop (k + 1)) = V) := Lib.hid fun h => by rw [← hG.out, hd, go_ok h]; rfl
              clear hG hd
              obtain ⟨a, ha⟩ : ∃ a, xs.getD k (0, 0, 0) = a := ⟨_, rfl⟩
              rw [ha] at c0 c1 c2 hGb hGo
              clear ha
              obtain ⟨op, A, z⟩ := a
              simp only at c0 c1 c2
              have ii : (0 : Int) ≤ k := by omega
              have i2 : (k : Int) < xs.length := by omega
              have WB : Below w.heap.size w (wr.alloc (Obj.cells #[.int .i64 op, .int .i64 A, .int .i64 z] 66)) := hB.alloc (by omega) _
              have WX : (wr.alloc (Obj.cells #[.int .i64 op, .int .i64 A, .int .i64 z] 66)).cell? ⟨w.heap.size, 0, none⟩ = some (.int .i64 s) := kp ((Below.refl _ _).alloc (Nat.le_refl _) _) (by omega) hx
              have WO := Lib.hid (hO.out.alloc (Obj.cells #[.int .i64 op, .int .i64 A, .int .i64 z] 66))
              have SC : Hid (Calls Try.prog 55 #[.int .i64 z, .pointer (some ⟨w.heap.size, 0, none⟩)] (wr.alloc (Obj.cells #[.int .i64 op, .int .i64 A, .int .i64 z] 66)) fun e w' => e = .returned (.bool (sl s z)) ∧ (wr.alloc (Obj.cells #[.int .i64 op, .int .i64 A, .int .i64 z] 66)) = w') := Lib.hid (isSlot z s w.heap.size _ WX)
              have SQ : Hid (∀ m : Nat, Calls Try.prog 55 #[.int .i64 z, .pointer (some ⟨w.heap.size, 0, none⟩)] ((wr.alloc (Obj.cells #[.int .i64 op, .int .i64 A, .int .i64 z] 66)).drewN m) fun e w' => e = .returned (.bool (sl s z)) ∧ w' = (wr.alloc (Obj.cells #[.int .i64 op, .int .i64 A, .int .i64 z] 66)).drewN m) := Lib.hid fun m => (isSlot z s w.heap.size ((wr.alloc (Obj.cells #[.int .i64 op, .int .i64 A, .int .i64 z] 66)).drewN m) WX).mono fun _ _ h => ⟨h.1, h.2.symm⟩
              by_cases o1 : op = 1
              · subst o1
                clear SC SQ
                by_cases hz0 : z = 0
                · subst hz0
                  by_cases hA : A = t.now + 1
                  · have eA : (A == t.now + 1) = true := beq_iff_eq.2 hA
                    by_cases hn2 : A ≤ n
                    · have d1 : decide (A ≤ n) = true := decide_eq_true hn2
                      have hv : val n s t (1, A, 0) = true := by rw [val1, decide_eq_true hA, d1]; rfl
                      have HG : Hid (go n s xs.length ⟨t.held, A, t.left, t.cost + 1⟩ ((k + 1 : Nat) : Int) (xs.drop (k + 1)) = V) := Lib.hid (hGo.out hv)
                      have bA : 0 ≤ A ∧ A ≤ 64 := by omega
                      clear hv hGb hGo hA hn2
                      go_wp2
                      go_roundw
                      case rel => exact ⟨k + 1, ⟨t.held, A, t.left, t.cost + 1⟩, rfl, rfl, rfl, by go_num, by omega, HG, bA, hleft, ⟨by simp only; omega, by simp only; omega⟩, hl64, hH, WB, by rw [World.size_alloc]; omega, WX, WO⟩
                      case measure => simp [intOf]; omega
                    · have d1 : decide (A ≤ n) = false := decide_eq_false hn2
                      have hv : val n s t (1, A, 0) = false := by rw [val1, decide_eq_true hA, d1]; rfl
                      have HE := Lib.hid (hGb.out hv)
                      clear hv hGb hGo hA hn2
                      go_wp2
                      exact bodyPost_ret (v := .tuple #[.int .i64 (k : Int), .int .i64 26]) (by simp [results, Try.results28, go_sem]) rfl ⟨by rw [HE.out]; rfl, WB⟩
                  · have eA : (A == t.now + 1) = false := beq_false_of_ne hA
                    have hv : val n s t (1, A, 0) = false := by rw [val1, decide_eq_false hA]; rfl
                    have HE := Lib.hid (hGb.out hv)
                    clear hv hGb hGo hA
                    go_wp2
                    exact bodyPost_ret (v := .tuple #[.int .i64 (k : Int), .int .i64 26]) (by simp [results, Try.results28, go_sem]) rfl ⟨by rw [HE.out]; rfl, WB⟩
                · have ez : (z == 0) = false := beq_false_of_ne hz0
                  have hv : val n s t (1, A, z) = false := by rw [val1, decide_eq_false hz0]; rfl
                  have HE := Lib.hid (hGb.out hv)
                  clear hv hGb hGo hz0
                  go_wp2
                  exact bodyPost_ret (v := .tuple #[.int .i64 (k : Int), .int .i64 26]) (by simp [results, Try.results28, go_sem]) rfl ⟨by rw [HE.out]; rfl, WB⟩
              · have e1 : (op == 1) = false := beq_false_of_ne o1
                by_cases o2 : op = 2
                · subst o2
                  clear SQ
                  by_cases hA : A = t.now
                  · have eA : (A == t.now) = true := beq_iff_eq.2 hA
                    by_cases hs : 0 ≤ z ∧ z < s
                    · obtain ⟨zn, rfl⟩ : ∃ zn : Nat, z = (zn : Int) := ⟨z.toNat, by omega⟩
                      have hsl : sl s (zn : Int) = true := decide_eq_true hs
                      rw [hsl] at SC
                      have zl : zn < 64 := by omega
                      have zl2 : (zn : Int) < 64 := by omega
                      have z0 : (0 : Int) ≤ zn := by omega
                      have oc := cellT WO.out (j := zn) zl hl64
                      have of := WO.out.frozenAt zn
                      have oS : Hid (((wr.alloc (Obj.cells #[.int .i64 2, .int .i64 A, .int .i64 zn] 66)).setCell ⟨w.heap.size + 1, zn, none⟩ (.int .i64 t.now)).ownsRow (w.heap.size + 1) 86 1 (.slice (some ⟨w.heap.size + 1, 0, none⟩) 64 64) 64 ((t.held.set zn t.now).map (Value.int .i64))) := Lib.hid (by rw [List.map_set]; exact (WO.out.stored zn (.int .i64 t.now)).1)
                      have ne : ¬ w.heap.size + 1 = w.heap.size := by omega
                      have hx2 : ((wr.alloc (Obj.cells #[.int .i64 2, .int .i64 A, .int .i64 zn] 66)).setCell ⟨w.heap.size + 1, zn, none⟩ (.int .i64 t.now)).cell? ⟨w.heap.size, 0, none⟩ = some (.int .i64 s) := by rw [World.cell?_setCell_far _ _ _ _ ne]; exact WX
                      have hH2 := Lib.hid (held_set hH.out (i := zn) hnow.2)
                      have hv : val n s t (2, A, (zn : Int)) = true := by rw [val2, decide_eq_true hA, hsl]; rfl
                      have HG : Hid (go n s xs.length ⟨t.held.set zn t.now, t.now, t.left, t.cost⟩ ((k + 1 : Nat) : Int) (xs.drop (k + 1)) = V) := Lib.hid (hGo.out hv)
                      clear hv hGb hGo hs hA hsl
                      go_wp2_with (go_at_call 55; refine (SC.out).mono ?_; rintro e w' ⟨rfl, rfl⟩)
                      go_roundw
                      case rel => exact ⟨k + 1, ⟨t.held.set zn t.now, t.now, t.left, t.cost⟩, rfl, rfl, rfl, by go_num, by omega, HG, hnow, hleft, ⟨by simp only; omega, by simp only; omega⟩, by simp [hl64], hH2, WB.setCell (by show _ ≤ w.heap.size + 1; omega) _, by rw [World.size_setCell, World.size_alloc]; omega, hx2, oS⟩
                      case measure => simp [intOf]; omega
                    · have hsl : sl s z = false := decide_eq_false hs
                      rw [hsl] at SC
                      have hv : val n s t (2, A, z) = false := by rw [val2, decide_eq_true hA, hsl]; rfl
                      have HE := Lib.hid (hGb.out hv)
                      clear hv hGb hGo hs hA hsl
                      go_wp2_with (go_at_call 55; refine (SC.out).mono ?_; rintro e w' ⟨rfl, rfl⟩)
                      exact bodyPost_ret (v := .tuple #[.int .i64 (k : Int), .int .i64 26]) (by simp [results, Try.results28, go_sem]) rfl ⟨by rw [HE.out]; rfl, WB⟩
                  · have eA : (A == t.now) = false := beq_false_of_ne hA
                    have hv : val n s t (2, A, z) = false := by rw [val2, decide_eq_false hA]; rfl
                    have HE := Lib.hid (hGb.out hv)
                    clear hv hGb hGo hA SC
                    go_wp2
                    exact bodyPost_ret (v := .tuple #[.int .i64 (k : Int), .int .i64 26]) (by simp [results, Try.results28, go_sem]) rfl ⟨by rw [HE.out]; rfl, WB⟩
                · have e2 : (op == 2) = false := beq_false_of_ne o2
                  by_cases o3 : op = 3
                  · subst o3
                    clear SC
                    by_cases hs : 0 ≤ z ∧ z < s
                    · obtain ⟨zn, rfl⟩ : ∃ zn : Nat, z = (zn : Int) := ⟨z.toNat, by omega⟩
                      have hsl : sl s (zn : Int) = true := decide_eq_true hs
                      rw [hsl] at SQ
                      have zl : zn < 64 := by omega
                      have zl2 : (zn : Int) < 64 := by omega
                      have z0 : (0 : Int) ≤ zn := by omega
                      have oc := cellT WO.out (j := zn) zl hl64
                      have hH1 := hH.out zn
                      have em1 : ((zn : Int) == -1) = false := beq_false_of_ne (by omega)
                      have em2 : decide ((zn : Int) = -1) = false := decide_eq_false (by omega)
                      obtain ⟨hh, hhe⟩ : ∃ hh, t.held.getD zn 0 = hh := ⟨_, rfl⟩
                      rw [hhe] at oc hH1
                      by_cases hA : hh = A
                      · have eA : (hh == A) = true := beq_iff_eq.2 hA
                        by_cases hA0 : 0 ≤ A
                        · have d0 : decide (0 ≤ A) = true := decide_eq_true hA0
                          have hv : val n s t (3, A, (zn : Int)) = true := by rw [val3, hsl, Int.toNat_natCast, hhe, decide_eq_true hA, d0]; rfl
                          have HG : Hid (go n s xs.length ⟨t.held, A, t.left, t.cost⟩ ((k + 1 : Nat) : Int) (xs.drop (k + 1)) = V) := Lib.hid (hGo.out hv)
                          have bA : 0 ≤ A ∧ A ≤ 64 := by omega
                          clear hv hGb hGo hs hhe hsl hA em2
                          go_wp2
                          go_quiet ((go_at_call 55; exact Calls.quiet_of_same (SQ.out _)))
                          go_wp2
                          go_roundw
                          case rel => exact ⟨k + 1, ⟨t.held, A, t.left, t.cost⟩, rfl, rfl, rfl, by go_num, by omega, HG, bA, hleft, ⟨by simp only; omega, by simp only; omega⟩, hl64, hH, by (repeat refine below_drewN ?_ _); exact WB, by have := hz; show _ ≤ (wr.alloc _).heap.size; rw [World.size_alloc]; omega, WX, Lib.hid WO.out⟩
                          case measure => simp [intOf]; omega
                        · have d0 : decide (0 ≤ A) = false := decide_eq_false hA0
                          have hv : val n s t (3, A, (zn : Int)) = false := by rw [val3, hsl, Int.toNat_natCast, hhe, decide_eq_true hA, d0, em2]; rfl
                          have HE := Lib.hid (hGb.out hv)
                          clear hv hGb hGo hs hhe hsl hA em2
                          go_wp2
                          go_quiet ((go_at_call 55; exact Calls.quiet_of_same (SQ.out _)))
                          go_wp2
                          exact bodyPost_ret (v := .tuple #[.int .i64 (k : Int), .int .i64 26]) (by simp [results, Try.results28, go_sem]) rfl ⟨by rw [HE.out]; rfl, by (repeat refine below_drewN ?_ _); exact WB⟩
                      · have eA : (hh == A) = false := beq_false_of_ne hA
                        have hv : val n s t (3, A, (zn : Int)) = false := by rw [val3, hsl, Int.toNat_natCast, hhe, decide_eq_false hA, em2]; rfl
                        have HE := Lib.hid (hGb.out hv)
                        clear hv hGb hGo hs hhe hsl hA em2
                        go_wp2
                        go_quiet ((go_at_call 55; exact Calls.quiet_of_same (SQ.out _)))
                        go_wp2
                        exact bodyPost_ret (v := .tuple #[.int .i64 (k : Int), .int .i64 26]) (by simp [results, Try.results28, go_sem]) rfl ⟨by rw [HE.out]; rfl, by (repeat refine below_drewN ?_ _); exact WB⟩
                    · have hsl : sl s z = false := decide_eq_false hs
                      rw [hsl] at SQ
                      by_cases hm : z = -1
                      · subst hm
                        by_cases hA : A = 0
                        · subst hA
                          have hv : val n s t (3, 0, -1) = true := by rw [val3, hsl]; rfl
                          have HG : Hid (go n s xs.length ⟨t.held, 0, t.left, t.cost⟩ ((k + 1 : Nat) : Int) (xs.drop (k + 1)) = V) := Lib.hid (hGo.out hv)
                          clear hv hGb hGo hs hsl
                          go_wp2
                          go_quiet ((go_at_call 55; exact Calls.quiet_of_same (SQ.out _)))
                          go_wp2
                          go_roundw
                          case rel => exact ⟨k + 1, ⟨t.held, 0, t.left, t.cost⟩, rfl, rfl, rfl, by go_num, by omega, HG, ⟨by simp only; omega, by simp only; omega⟩, hleft, ⟨by simp only; omega, by simp only; omega⟩, hl64, hH, by (repeat refine below_drewN ?_ _); exact WB, by have := hz; show _ ≤ (wr.alloc _).heap.size; rw [World.size_alloc]; omega, WX, Lib.hid WO.out⟩
                          case measure => simp [intOf]; omega
                        · have eA : (A == 0) = false := beq_false_of_ne hA
                          have hv : val n s t (3, A, -1) = false := by rw [val3, hsl, decide_eq_false hA]; rfl
                          have HE := Lib.hid (hGb.out hv)
                          clear hv hGb hGo hs hsl hA
                          go_wp2
                          go_quiet ((go_at_call 55; exact Calls.quiet_of_same (SQ.out _)))
                          go_wp2
                          exact bodyPost_ret (v := .tuple #[.int .i64 (k : Int), .int .i64 26]) (by simp [results, Try.results28, go_sem]) rfl ⟨by rw [HE.out]; rfl, by (repeat refine below_drewN ?_ _); exact WB⟩
                      · have em : (z == -1) = false := beq_false_of_ne hm
                        have hv : val n s t (3, A, z) = false := by rw [val3, hsl, decide_eq_false hm]; rfl
                        have HE := Lib.hid (hGb.out hv)
                        clear hv hGb hGo hs hsl hm
                        go_wp2
                        go_quiet ((go_at_call 55; exact Calls.quiet_of_same (SQ.out _)))
                        go_wp2
                        exact bodyPost_ret (v := .tuple #[.int .i64 (k : Int), .int .i64 26]) (by simp [results, Try.results28, go_sem]) rfl ⟨by rw [HE.out]; rfl, by (repeat refine below_drewN ?_ _); exact WB⟩
                  · have e3 : (op == 3) = false := beq_false_of_ne o3
                    clear SC SQ
                    by_cases o4 : op = 4
                    · subst o4
                      by_cases hz0 : z = 0
                      · subst hz0
                        by_cases hl1 : 1 ≤ t.left
                        · have d1 : decide (1 ≤ t.left) = true := decide_eq_true hl1
                          by_cases hA : A = t.left
                          · have eA : (A == t.left) = true := beq_iff_eq.2 hA
                            by_cases hN : t.now = t.left - 1
                            · have eN : (t.now == t.left - 1) = true := beq_iff_eq.2 hN
                              have hv : val n s t (4, A, 0) = true := by rw [val4, d1, decide_eq_true hA, decide_eq_true hN]; rfl
                              have HG : Hid (go n s xs.length ⟨t.held, t.now, t.left - 1, t.cost⟩ ((k + 1 : Nat) : Int) (xs.drop (k + 1)) = V) := Lib.hid (hGo.out hv)
                              clear hv hGb hGo hA hN
                              go_wp2
                              go_roundw
                              case rel => exact ⟨k + 1, ⟨t.held, t.now, t.left - 1, t.cost⟩, rfl, rfl, rfl, by go_num, by omega, HG, hnow, ⟨by simp only; omega, by simp only; omega⟩, ⟨by simp only; omega, by simp only; omega⟩, hl64, hH, WB, by rw [World.size_alloc]; omega, WX, WO⟩
                              case measure => simp [intOf]; omega
                            · have eN : (t.now == t.left - 1) = false := beq_false_of_ne hN
                              have hv : val n s t (4, A, 0) = false := by rw [val4, d1, decide_eq_true hA, decide_eq_false hN]; rfl
                              have HE := Lib.hid (hGb.out hv)
                              clear hv hGb hGo hA hN
                              go_wp2
                              exact bodyPost_ret (v := .tuple #[.int .i64 (k : Int), .int .i64 26]) (by simp [results, Try.results28, go_sem]) rfl ⟨by rw [HE.out]; rfl, WB⟩
                          · have eA : (A == t.left) = false := beq_false_of_ne hA
                            have hv : val n s t (4, A, 0) = false := by rw [val4, d1, decide_eq_false hA]; rfl
                            have HE := Lib.hid (hGb.out hv)
                            clear hv hGb hGo hA
                            go_wp2
                            exact bodyPost_ret (v := .tuple #[.int .i64 (k : Int), .int .i64 26]) (by simp [results, Try.results28, go_sem]) rfl ⟨by rw [HE.out]; rfl, WB⟩
                        · have d1 : decide (1 ≤ t.left) = false := decide_eq_false hl1
                          have hv : val n s t (4, A, 0) = false := by rw [val4, d1]; rfl
                          have HE := Lib.hid (hGb.out hv)
                          clear hv hGb hGo hl1
                          go_wp2
                          exact bodyPost_ret (v := .tuple #[.int .i64 (k : Int), .int .i64 26]) (by simp [results, Try.results28, go_sem]) rfl ⟨by rw [HE.out]; rfl, WB⟩
                      · have ez : (z == 0) = false := beq_false_of_ne hz0
                        have hv : val n s t (4, A, z) = false := by rw [val4, decide_eq_false hz0]; rfl
                        have HE := Lib.hid (hGb.out hv)
                        clear hv hGb hGo hz0
                        go_wp2
                        exact bodyPost_ret (v := .tuple #[.int .i64 (k : Int), .int .i64 26]) (by simp [results, Try.results28, go_sem]) rfl ⟨by rw [HE.out]; rfl, WB⟩
                    · have e4 : (op == 4) = false := beq_false_of_ne o4
                      have hv : val n s t (op, A, z) = false := val0 o1 o2 o3 o4
                      have HE := Lib.hid (hGb.out hv)
                      clear hv hGb hGo o1 o2 o3 o4
                      go_wp2
                      exact bodyPost_ret (v := .tuple #[.int .i64 (k : Int), .int .i64 26]) (by simp [results, Try.results28, go_sem]) rfl ⟨by rw [HE.out]; rfl, WB⟩
            · have hG2 := hG.out
              rw [List.drop_of_length_le (by omega)] at hG2
              have hG3 : (if 0 < t.left then ((xs.length : Int), (6 : Int)) else (t.cost, 0)) = V := hG2
              by_cases hl0 : 0 < t.left
              · have d1 : decide (0 < t.left) = true := decide_eq_true hl0
                rw [if_pos hl0] at hG3
                have HE := Lib.hid hG3.symm
                clear hG2 hG3 hG
                go_wp2
                exact bodyPost_ret (v := .tuple #[.int .i64 (xs.length : Int), .int .i64 6]) (by simp [results, Try.results28, go_sem]) rfl ⟨by rw [HE.out]; rfl, hB⟩
              · have d1 : decide (0 < t.left) = false := decide_eq_false hl0
                rw [if_neg hl0] at hG3
                have HE := Lib.hid hG3.symm
                clear hG2 hG3 hG
                go_wp2
                exact bodyPost_ret (v := .tuple #[.int .i64 t.cost, .int .i64 0]) (by simp [results, Try.results28, go_sem]) rfl ⟨by rw [HE.out]; rfl, hB⟩
  · rw [inr_no h] at C
    rw [show ck n s xs = (0, 1) by unfold ck; rw [inr_no h]; rfl]
    clear h
    go_enter Try.func28, Try.ntmps28
    go_wp2_with (go_at_call 46; refine (C.out _).mono ?_; rintro e w' ⟨rfl, rfl⟩)
    exact bodyPost_ret (v := .tuple #[.int .i64 0, .int .i64 1]) (by simp [results, Try.results28, go_sem]) rfl ⟨rfl, (Below.refl _ _).alloc (Nat.le_refl _) _⟩
end Go.Proofs.Ytndmpoomdoojpaa.Ck
