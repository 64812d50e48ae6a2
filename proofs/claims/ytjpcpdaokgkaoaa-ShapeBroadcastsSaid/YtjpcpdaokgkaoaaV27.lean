/- Broadcast: its plain answer; Clone of any slice. -/
import Derived.Test.YtjpcpdaokgkaoaaV26
namespace Go.Proofs.Ytjpcpdaokgkaoaa.Sh
open Go.ChangeShapes Go.WideShapes Go.ChangeAt Go.RowKit
set_option linter.unusedVariables false

set_option maxHeartbeats 4000000 in
theorem c48_none (c : Nat) (w : World) : Calls Try.prog 48 #[.slice none 0 c] w (OW [] w) := by
  have EN : (binOp .eql 22 (.slice none 0 c) (.slice none 0 0)).run Try.prog w = .ok (.bool true) w := by kernel_rfl
  go_enter Try.func48, Try.ntmps48
  go_wp2
  go_ret
  exact ⟨_, rfl, Below.refl _ _, World.ownsRow_nil _ _ _ _⟩
set_option maxHeartbeats 4000000 in
theorem c48_empty (ad : Addr) (c : Nat) (w : World) : Calls Try.prog 48 #[.slice (some ad) 0 c] w (OW [] w) := by
  obtain ⟨i0, hi, hz0, hz1, hz2⟩ := info_parts info3
  have EN : (binOp .eql 22 (.slice (some ad) 0 c) (.slice none 0 0)).run Try.prog w = .ok (.bool false) w := by kernel_rfl
  go_enter Try.func48, Try.ntmps48
  go_wp2_with (at_builtin; refine wpList_append_own _ rfl _ _ 22 rfl w.heap.size 3 i0 (.int .i64 0) 1 8 Try.underlying22 hi hz0 hz1 hz2 rfl (by decide) _ _ _ rfl (World.ownsRow_lit w #[] 0 (Nat.le_refl _) (by decide) rfl) ad 0 c [] rfl rfl ?_ ?_ ?_ ?_ ?_ ?_)
  · intro j u hj; simp at hj
  · intro u hu; cases hu
  · decide
  · decide
  · simp
  intro v' w1 hown' hgrow _
  have hB2 : Below w.heap.size w w1 := ((Below.refl _ _).alloc (Nat.le_refl _) _).grown hgrow (by simp) (fun j hj => by cases hj; exact Nat.le_refl _)
  have hO2 := Lib.hid hown'
  clear hown' hgrow hi hz0 hz1 hz2
  go_wp2
  go_ret
  exact ⟨_, rfl, hB2, hO2.out⟩
/-- slices.Clone of any slice. -/
theorem c48g (p : Option Addr) (zs : List Int) (c : Nat) (w : World) (hn : zs.length ≤ maxLen) (hby : zs.length * 8 ≤ 140737488355328) (RA : Hid (SlI w p zs)) :
    Calls Try.prog 48 #[.slice p zs.length c] w (OW zs w) := by
  by_cases h : zs.length = 0
  · obtain rfl := List.eq_nil_of_length_eq_zero h
    cases p with
    | none => exact c48_none c w
    | some ad => exact c48_empty ad c w
  · obtain ⟨b, o, rfl, _⟩ := RA.out 0 (by omega)
    exact c48 b o zs c w hn hby RA
/-- The size along axis j of a list that is aligned at its end with n axes. -/
def ga (a : List Int) (n j : Nat) : Int := if j < n - a.length then 1 else a.getD (j - (n - a.length)) 0
def bn (a b : List Int) : Nat := max a.length b.length
def bc (a b : List Int) : List Int := (List.range (bn a b)).map fun j => max (ga a (bn a b) j) (ga b (bn a b) j)
def bk (a b : List Int) (j : Nat) : Prop := ga a (bn a b) j = ga b (bn a b) j ∨ ga a (bn a b) j = 1 ∨ ga b (bn a b) j = 1
def bok (a b : List Int) : Prop := ∀ j, j < bn a b → bk a b j
theorem bn_comm (a b : List Int) : bn a b = bn b a := Nat.max_comm _ _
theorem bc_comm (a b : List Int) : bc a b = bc b a := by
  unfold bc
  rw [bn_comm]
  congr 1
  funext j
  exact Int.max_comm _ _
theorem bk_comm {a b : List Int} {j : Nat} : bk a b j ↔ bk b a j := by
  unfold bk
  rw [bn_comm a b]
  constructor
  · rintro (h | h | h)
    · exact Or.inl h.symm
    · exact Or.inr (Or.inr h)
    · exact Or.inr (Or.inl h)
  · rintro (h | h | h)
    · exact Or.inl h.symm
    · exact Or.inr (Or.inr h)
    · exact Or.inr (Or.inl h)
theorem bok_comm {a b : List Int} : bok a b ↔ bok b a := by
  unfold bok
  rw [bn_comm a b]
  exact ⟨fun h j hj => bk_comm.1 (h j hj), fun h j hj => bk_comm.1 (h j hj)⟩
theorem bc_length (a b : List Int) : (bc a b).length = bn a b := by simp [bc]
theorem bc_get {a b : List Int} {j : Nat} (h : j < bn a b) : (bc a b).getD j 0 = max (ga a (bn a b) j) (ga b (bn a b) j) := by
  rw [getD_at (by rw [bc_length]; exact h)]
  simp [bc]
open Classical in
noncomputable def bE (a b : List Int) : Int := if (vE a != 0) = true then vE a else if (vE b != 0) = true then vE b else if bok a b then vE (bc a b) else 15
open Classical in
noncomputable def bL (a b : List Int) : List Int := if (vE a != 0) = true then [] else if (vE b != 0) = true then [] else if bok a b then (if vE (bc a b) = 0 then bc a b else []) else []
/-- What Broadcast returns for two valid shapes. -/
def BW (a b : List Int) (w : World) (e : Ending) (w' : World) : Prop := (¬ bok a b ∧ QW [] 15 w e w') ∨ (bok a b ∧ vE (bc a b) = 0 ∧ QW (bc a b) 0 w e w') ∨ (bok a b ∧ ¬ vE (bc a b) = 0 ∧ QW [] (vE (bc a b)) w e w')
/-- The longer list, at an axis. -/
theorem ga_long {a b : List Int} (h : b.length ≤ a.length) {j : Nat} : ga a (bn a b) j = a.getD j 0 := by
  have e : bn a b = a.length := Nat.max_eq_left h
  unfold ga
  rw [e, Nat.sub_self, if_neg (by omega), Nat.sub_zero]
theorem ga_lead {a b : List Int} (h : b.length ≤ a.length) {j : Nat} (hj : j < a.length - b.length) : ga b (bn a b) j = 1 := by
  have e : bn a b = a.length := Nat.max_eq_left h
  unfold ga
  rw [e, if_pos hj]
theorem ga_short {a b : List Int} (h : b.length ≤ a.length) {k : Nat} : ga b (bn a b) (a.length - b.length + k) = b.getD k 0 := by
  have e : bn a b = a.length := Nat.max_eq_left h
  unfold ga
  rw [e, if_neg (by omega), Nat.add_sub_cancel_left]
end Go.Proofs.Ytjpcpdaokgkaoaa.Sh
