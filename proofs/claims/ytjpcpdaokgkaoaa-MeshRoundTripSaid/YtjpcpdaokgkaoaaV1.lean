/- The predicates of package shape: ContainsFunc; what Validate answers, as a plain function. -/
import Derived.Test.YtjpcpdaokgkaoaaRows
import Derived.WalkKit
import Derived.ProofKit
import Derived.OpenShut
import Derived.WalkLawsBesides
import Derived.WalkSpells
import Derived.Outline
import Derived.Handy
import Derived.IntWalk
import Derived.Deep.QuietTactic
import Derived.BigQuiet
import Derived.Lib.Hide
namespace Go.Proofs.Ytjpcpdaokgkaoaa.Sh
open Go.ChangeShapes Go.WideShapes Go.ChangeAt Go.RowKit
set_option linter.unusedVariables false

/-- A slice value reads as a list of integers. -/
def SlI (w : World) (p : Option Addr) (zs : List Int) : Prop := ∀ i, i < zs.length → ∃ b o, p = some ⟨b, o, none⟩ ∧ w.cell? ⟨b, o + i, none⟩ = some (.int .i64 (zs.getD i 0))
theorem ret_int {k : IntKind} {a b : Int} (h : a = b) : Ending.returned (.int k a) = .returned (.int k b) := by rw [h]
theorem ret_bool {a b : Bool} (h : a = b) : Ending.returned (.bool a) = .returned (.bool b) := by rw [h]
theorem getD_at {zs : List Int} {k : Nat} (h : k < zs.length) : zs.getD k 0 = zs[k] := by
  unfold List.getD
  rw [List.getElem?_eq_getElem h]
  rfl
theorem any_take {zs : List Int} {f : Int → Bool} {k : Nat} (h : ∀ j, j < k → f (zs.getD j 0) = false) (hk : k = zs.length) : zs.any f = false := by
  rw [List.any_eq_false]
  intro x hx
  obtain ⟨j, hj, rfl⟩ := List.getElem_of_mem hx
  have := h j (by omega)
  rw [getD_at hj] at this
  simpa using this
theorem any_at {zs : List Int} {f : Int → Bool} {k : Nat} (h : f (zs.getD k 0) = true) (hk : k < zs.length) : zs.any f = true := by
  rw [List.any_eq_true]
  exact ⟨zs[k], List.getElem_mem hk, by rw [getD_at hk] at h; exact h⟩
def low (z : Int) : Bool := decide (z < 1)
theorem c47 (n : Int) (w : World) : Calls Try.prog 47 #[.int .i64 n] w fun e w' => e = .returned (.bool (low n)) ∧ w = w' := by
  go_enter Try.func47, Try.ntmps47
  go_wp2
  go_ret
  exact ⟨rfl, rfl⟩
def IX (zs : List Int) (w : World) (e : Ending) (w' : World) : Prop := ∃ r : Int, e = .returned (.int .i64 r) ∧ decide (0 ≤ r) = zs.any low ∧ w = w'
set_option maxHeartbeats 2000000 in
theorem c53 (p : Option Addr) (zs : List Int) (c : Nat) (w : World) (hn : zs.length ≤ maxLen) (RA : Hid (SlI w p zs)) :
    Calls Try.prog 53 #[.slice p zs.length c, .func (.func 47) #[] #[]] w (IX zs w) := by
  unfold maxLen at hn
  go_enter Try.func53, Try.ntmps53
  go_wp2
  go_loop [8] (fun i => ∃ k : Nat, i = .int .i64 k ∧ k ≤ zs.length ∧ Hid (∀ j, j < k → low (zs.getD j 0) = false)) (fun i => zs.length - (intOf i).toNat)
  case atStart => exact ⟨0, rfl, by omega, Lib.hid fun j hj => by omega⟩
  case round =>
    obtain ⟨k, rfl, hk, hL⟩ := hrel
    by_cases hlt : k < zs.length
    · obtain ⟨b, o, rfl, hc⟩ := RA.out k hlt
      obtain ⟨z, hz⟩ : ∃ z, zs.getD k 0 = z := ⟨_, rfl⟩
      rw [hz] at hc
      obtain ⟨x, hx⟩ : ∃ x, low z = x := ⟨_, rfl⟩
      have HX := Lib.hid hx
      have HZ := Lib.hid hz
      have C := Lib.hid fun w => c47 z w
      rw [hx] at C
      clear hx hz
      cases x
      · go_wp2_with (go_at_call 47; refine (C.out _).mono ?_; rintro e w' ⟨rfl, rfl⟩)
        go_round
        case rel => exact ⟨k + 1, by go_num, by omega, Lib.hid fun j hj => by
          rcases (by omega : j < k ∨ j = k) with h | rfl
          · exact hL.out j h
          · rw [HZ.out]; exact HX.out⟩
        case measure => simp [intOf]; omega
      · go_wp2_with (go_at_call 47; refine (C.out _).mono ?_; rintro e w' ⟨rfl, rfl⟩)
        go_ret
        exact ⟨_, rfl, by rw [any_at (k := k) (by rw [HZ.out]; exact HX.out) hlt]; simp, rfl⟩
    · go_wp2
      go_ret
      exact ⟨_, rfl, by rw [any_take (k := k) hL.out (by omega)]; rfl, rfl⟩
theorem c46 (p : Option Addr) (zs : List Int) (c : Nat) (w : World) (hn : zs.length ≤ maxLen) (RA : Hid (SlI w p zs)) :
    Calls Try.prog 46 #[.slice p zs.length c, .func (.func 47) #[] #[]] w fun e w' => e = .returned (.bool (zs.any low)) ∧ w = w' := by
  have C := Lib.hid (c53 p zs c w hn RA)
  go_enter Try.func46, Try.ntmps46
  go_wp2_with (go_at_call 53; refine (C.out).mono ?_; rintro e w' ⟨r, rfl, hr, rfl⟩; have HR := Lib.hid hr; clear hr)
  go_ret
  exact ⟨ret_bool HR.out, rfl⟩
/-- The product as long as it stays within the limit. -/
def pr : Int → List Int → Option Int
  | s, [] => some s
  | s, z :: zs => if 4096 < s * z then none else pr (s * z) zs
/-- What Validate answers. -/
def vE (zs : List Int) : Int := if 6 < zs.length then 2 else if zs.any low = true then 1 else if pr 1 zs = none then 2 else 0
theorem drop_cons {zs : List Int} {k : Nat} (h : k < zs.length) : zs.drop k = zs.getD k 0 :: zs.drop (k + 1) := by
  rw [List.drop_eq_getElem_cons h, getD_at h]
theorem pos_of {zs : List Int} (h : zs.any low = false) {k : Nat} (hk : k < zs.length) : 1 ≤ zs.getD k 0 := by
  rw [List.any_eq_false] at h
  have := h zs[k] (List.getElem_mem hk)
  rw [getD_at hk]
  unfold low at this
  simp at this
  omega
theorem quo_lt (s z : Int) (hs : 1 ≤ s) (hs' : s ≤ 4096) : 4096 / s < z ↔ 4096 < s * z := by
  constructor
  · intro h
    have h1 := Int.lt_mul_of_ediv_lt (by omega : 0 < s) h
    rw [Int.mul_comm] at h1
    exact h1
  · intro h
    rw [Int.mul_comm] at h
    exact Int.ediv_lt_of_lt_mul (by omega : 0 < s) h
end Go.Proofs.Ytjpcpdaokgkaoaa.Sh
