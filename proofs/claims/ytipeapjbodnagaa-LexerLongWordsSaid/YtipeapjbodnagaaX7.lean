/- The lexer: what every statement checks first. -/
import Derived.Test.YtipeapjbodnagaaX6
import Derived.Test.YtipeapjbodnagaaL5
namespace Go.Proofs.Ytipeapjbodnagaa.Lx
open Go.ChangeShapes Go.WideShapes Go.ChangeAt Go.RowKit
open Go.Proofs.Ytipeapjbodnagaa.Nm
set_option linter.unusedVariables false

set_option maxRecDepth 100000 in
set_option maxHeartbeats 8000000 in
theorem sameT (p q : Option Addr) (xs ys : List Tk) (c d : Nat) (f : Bool) (w : World) (hn : xs.length ≤ maxLen) (hl : ys.length = xs.length) (RA : Hid (SlT3 w p xs)) (RB : Hid (SlT3 w q ys))
    (HE : Hid (∀ i, i < xs.length → (xs.getD i tk0).1 = (ys.getD i tk0).1 ∧ (xs.getD i tk0).2.2 = (ys.getD i tk0).2.2 ∧ (f = true → (xs.getD i tk0).2.1 = (ys.getD i tk0).2.1))) :
    Calls Try.prog 33 #[.slice p xs.length c, .slice q ys.length d, .bool f] w fun e w' => e = .returned (.bool true) ∧ Below w.heap.size w w' := by
  unfold maxLen at hn
  have HL := Lib.hid hl
  rw [hl]
  clear hl
  go_enter Try.func33, Try.ntmps33
  go_wp2
  go_loopw [7] (fun a wr => ∃ k r : Nat, a = .int .i64 (k : Int) ∧ k ≤ xs.length ∧ wr = w.drewN r) (fun a _ => xs.length - (intOf a).toNat)
  case atStart => exact ⟨0, 0, rfl, by omega, rfl⟩
  case round =>
    obtain ⟨k, r, rfl, hk, rfl⟩ := hrel
    by_cases hlt : k < xs.length
    · obtain ⟨b, o, rfl, c0, c1, c2⟩ := RA.out k hlt
      obtain ⟨b', o', rfl, d0, d1, d2⟩ := RB.out k (by rw [HL.out]; exact hlt)
      obtain ⟨e0, e1, e2⟩ := HE.out k hlt
      rw [← e0] at d0
      rw [← e1] at d2
      obtain ⟨x, hx⟩ : ∃ x, (xs.getD k tk0).1 = x := ⟨_, rfl⟩
      obtain ⟨z, hz⟩ : ∃ z, (xs.getD k tk0).2.2 = z := ⟨_, rfl⟩
      rw [hx] at c0 d0
      rw [hz] at c2 d2
      have k0 : (0 : Int) ≤ k := by omega
      have k1 : (k : Int) < xs.length := by omega
      clear e0 e1 hx hz
      cases f
      · clear e2
        obtain ⟨y, hy⟩ : ∃ y, (xs.getD k tk0).2.1 = y := ⟨_, rfl⟩
        obtain ⟨y', hy'⟩ : ∃ y, (ys.getD k tk0).2.1 = y := ⟨_, rfl⟩
        rw [hy] at c1
        rw [hy'] at d1
        clear hy hy'
        go_wp2
        go_quiet (fail)
        go_wp2
        go_roundw
        case rel => exact ⟨k + 1, _, by go_num, by omega, rfl⟩
        case measure => simp [intOf]; omega
      · rw [← e2 rfl] at d1
        obtain ⟨y, hy⟩ : ∃ y, (xs.getD k tk0).2.1 = y := ⟨_, rfl⟩
        rw [hy] at c1 d1
        clear e2 hy
        go_wp2
        go_quiet (fail)
        go_wp2
        go_roundw
        case rel => exact ⟨k + 1, _, by go_num, by omega, rfl⟩
        case measure => simp [intOf]; omega
    · obtain rfl : k = xs.length := by omega
      go_wp2
      go_ret
      exact ⟨rfl, below_drewN (Below.refl _ _) _⟩
theorem lexKw (s : ByteArray) (w : World) : Calls Try.prog 38 #[.string s] w fun e w' => e = .returned (.bool (kwB s.toList)) ∧ w = w' := by
  have C := Lib.hid (isKeyword s)
  go_enter Try.func38, Try.ntmps38
  go_wp2_with (go_at_call 76; refine (C.out _).mono ?_; rintro e w' ⟨rfl, rfl⟩)
  go_ret
  exact ⟨rfl, rfl⟩
def ex1 : List Tk := [(1, 0, ⟨#[97]⟩), (3, 1, ⟨#[91]⟩), (1, 2, ⟨#[105]⟩), (3, 3, ⟨#[43]⟩), (2, 4, ⟨#[49]⟩), (3, 5, ⟨#[93]⟩), (3, 6, ⟨#[60, 61]⟩), (2, 8, ⟨#[48, 51]⟩)]
theorem et1 : tkz ⟨#[97, 91, 105, 43, 49, 93, 60, 61, 48, 51, 32, 35, 32, 101, 110, 100]⟩ = (ex1, 0, 0) := by decide +kernel
theorem et2 : tkz ⟨#[120, 32, 62]⟩ = ([], 2, 5) := by decide +kernel
theorem ej1 : jk ex1 8 = [97, 32, 91, 32, 105, 32, 43, 32, 49, 32, 93, 32, 60, 61, 32, 48, 51] := by decide +kernel
theorem ek1 : kwB (⟨#[115, 117, 109]⟩ : ByteArray).toList = true := by rw [ByteArray.toList_eq]; decide +kernel
theorem en1 : nmB ⟨#[115, 117, 109]⟩ = false := by unfold nmB; rw [ek1]; simp
end Go.Proofs.Ytipeapjbodnagaa.Lx
