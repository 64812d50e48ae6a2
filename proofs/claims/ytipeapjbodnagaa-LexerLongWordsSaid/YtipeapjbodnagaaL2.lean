/- Lifetimes: Overlap, and MaxLive of the reference. -/
import Derived.Test.YtipeapjbodnagaaRows
import Derived.WalkKit
import Derived.ProofKit
import Derived.OpenShut
import Derived.WalkLawsBesides
import Derived.WalkSpells
import Derived.Outline
import Derived.Handy
import Derived.IntWalk
import Derived.Deep.QuietTactic
import Derived.BigQuiet
import Derived.Lib.Hide
import Derived.Test.YtipeapjbodnagaaL1
import Derived.WalkSmall
import Derived.OwnWalk
import Derived.Deep.RegionHeld
namespace Go.Proofs.Ytipeapjbodnagaa.Lv
open Go.ChangeShapes Go.WideShapes Go.ChangeAt Go.RowKit
set_option linter.unusedVariables false

theorem ret_bool {a b : Bool} (h : a = b) : Ending.returned (.bool a) = .returned (.bool b) := by rw [h]
theorem ret_int {a b : Int} (h : a = b) : Ending.returned (.int .i64 a) = .returned (.int .i64 b) := by rw [h]
abbrev lf0 : Lf := (ByteArray.empty, 0, 0, 0)
def SlL (w : World) (p : Option Addr) (xs : List Lf) : Prop := ∀ i, i < xs.length → ∃ b o, p = some ⟨b, o, none⟩ ∧ w.cell? ⟨b, o + i * 4, none⟩ = some (.string (xs.getD i lf0).1) ∧ w.cell? ⟨b, o + i * 4 + 1, none⟩ = some (.int .i64 (xs.getD i lf0).2.1) ∧ w.cell? ⟨b, o + i * 4 + 2, none⟩ = some (.int .i64 (xs.getD i lf0).2.2.1) ∧ w.cell? ⟨b, o + i * 4 + 3, none⟩ = some (.int .i64 (xs.getD i lf0).2.2.2)
theorem kp {y y' : World} {b o : Nat} {v : Value} (hy : Below y.heap.size y y') (hb : b < y.heap.size) (h : y.cell? ⟨b, o, none⟩ = some v) : y'.cell? ⟨b, o, none⟩ = some v := (hy.cell (p := ⟨b, o, none⟩) hb).trans h
theorem SlL.keep {w w' : World} {p : Option Addr} {xs : List Lf} (hB : Below w.heap.size w w') (h : SlL w p xs) : SlL w' p xs := fun i hi => by
  obtain ⟨b, o, rfl, c0, c1, c2, c3⟩ := h i hi
  have hb : b < w.heap.size := by have := World.block_lt_of_cell? w _ c0; simpa using this
  exact ⟨b, o, rfl, kp hB hb c0, kp hB hb c1, kp hB hb c2, kp hB hb c3⟩
theorem getD_lf {xs : List Lf} {k : Nat} (h : k < xs.length) : xs.getD k lf0 = xs[k] := by
  unfold List.getD
  rw [List.getElem?_eq_getElem h]
  rfl
def ov (a b : Lf) : Bool := decide (a.2.1 ≤ b.2.2.1) && decide (b.2.1 ≤ a.2.2.1)
def Lv4 (a : Lf) : Value := .agg #[.string a.1, .int .i64 a.2.1, .int .i64 a.2.2.1, .int .i64 a.2.2.2]
set_option maxHeartbeats 4000000 in
theorem over1 (a b : Lf) (w : World) : Calls Try.prog 41 #[Lv4 a, Lv4 b] w fun e w' => e = .returned (.bool (ov a b)) ∧ Below w.heap.size w w' := by
  obtain ⟨s, f, t, z⟩ := a
  obtain ⟨s', f', t', z'⟩ := b
  unfold Lv4 ov
  simp only
  by_cases h1 : f ≤ t'
  · have e1 : decide (f ≤ t') = true := decide_eq_true h1
    rw [e1, Bool.true_and]
    go_enter Try.func41, Try.ntmps41
    go_wp2
    go_ret
    exact ⟨rfl, ((Below.refl _ _).alloc (Nat.le_refl _) _).alloc (by simp) _⟩
  · have e1 : decide (f ≤ t') = false := decide_eq_false h1
    rw [e1, Bool.false_and]
    go_enter Try.func41, Try.ntmps41
    go_wp2
    go_ret
    exact ⟨rfl, ((Below.refl _ _).alloc (Nat.le_refl _) _).alloc (by simp) _⟩
set_option maxHeartbeats 4000000 in
theorem over2 (a b : Lf) (w : World) : Calls Try.prog 42 #[Lv4 a, Lv4 b] w fun e w' => e = .returned (.bool (ov a b)) ∧ Below w.heap.size w w' := by
  obtain ⟨s, f, t, z⟩ := a
  obtain ⟨s', f', t', z'⟩ := b
  unfold Lv4 ov
  simp only
  by_cases h1 : f ≤ t'
  · have e1 : decide (f ≤ t') = true := decide_eq_true h1
    rw [e1, Bool.true_and]
    go_enter Try.func42, Try.ntmps42
    go_wp2
    go_ret
    exact ⟨rfl, ((Below.refl _ _).alloc (Nat.le_refl _) _).alloc (by simp) _⟩
  · have e1 : decide (f ≤ t') = false := decide_eq_false h1
    rw [e1, Bool.false_and]
    go_enter Try.func42, Try.ntmps42
    go_wp2
    go_ret
    exact ⟨rfl, ((Below.refl _ _).alloc (Nat.le_refl _) _).alloc (by simp) _⟩
set_option maxRecDepth 100000 in
set_option maxHeartbeats 8000000 in
theorem rml (p : Option Addr) (xs : List Lf) (c : Nat) (w : World) (hn : xs.length ≤ 60) (RA : Hid (SlL w p xs)) :
    Calls Try.prog 45 #[.slice p xs.length c] w fun e w' => e = .returned (.int .i64 (ml xs)) ∧ Below w.heap.size w w' := by
  go_enter Try.func45, Try.ntmps45
  go_wp2
  go_loopw [3, 4] (fun m i wr => ∃ k : Nat, i = .int .i64 (k : Int) ∧ k ≤ xs.length ∧ m = .int .i64 (mlx xs (xs.take k)) ∧ ∃ q, wr = w.drewN q) (fun _ i _ => xs.length - (intOf i).toNat)
  case atStart => exact ⟨0, rfl, by omega, rfl, 0, rfl⟩
  case round =>
    obtain ⟨k, rfl, hk, rfl, q, rfl⟩ := hrel
    by_cases hlt : k < xs.length
    · have hst := mlx_step hlt xs
      obtain ⟨b, o, rfl, c0, c1, c2, c3⟩ := RA.out k hlt
      rw [getD_lf hlt] at c1
      obtain ⟨f, hf⟩ : ∃ f, xs[k].2.1 = f := ⟨_, rfl⟩
      rw [hf] at c1 hst
      clear hf
      have cK := Lib.hid c1
      clear c0 c1 c2 c3
      obtain ⟨M, hM⟩ : ∃ M, mlx xs (xs.take k) = M := ⟨_, rfl⟩
      rw [hM] at hst ⊢
      have HST := Lib.hid hst
      clear hst hM
      go_wp2
      go_loopw [5, 6] (fun n j wr => ∃ l q : Nat, j = .int .i64 (l : Int) ∧ l ≤ xs.length ∧ n = .int .i64 (((xs.take l).countP (inn f) : Nat) : Int) ∧ wr = w.drewN q) (fun _ j _ => xs.length - (intOf j).toNat)
      case atStart => exact ⟨0, q, rfl, by omega, rfl, rfl⟩
      case round =>
        obtain ⟨l, q2, rfl, hl, rfl, rfl⟩ := hrel
        by_cases hl2 : l < xs.length
        · obtain ⟨b', o', e, d0, d1, d2, d3⟩ := RA.out l hl2
          cases e
          rw [getD_lf hl2] at d1 d2
          have c1 := cK.out
          have cle : (xs.take l).countP (inn f) ≤ l := Nat.le_trans List.countP_le_length (by simp; omega)
          have cst : (xs.take (l + 1)).countP (inn f) = (xs.take l).countP (inn f) + if inn f xs[l] = true then 1 else 0 := by
            rw [List.take_succ_eq_append_getElem hl2, List.countP_append]; simp [List.countP_cons]
          have hin : inn f xs[l] = (decide (xs[l].2.1 ≤ f) && decide (f ≤ xs[l].2.2.1)) := rfl
          obtain ⟨x, hx⟩ : ∃ x, xs[l].2.1 = x := ⟨_, rfl⟩
          obtain ⟨y, hy⟩ : ∃ y, xs[l].2.2.1 = y := ⟨_, rfl⟩
          rw [hx] at d1 hin
          rw [hy] at d2 hin
          obtain ⟨t, ht⟩ : ∃ t, (decide (x ≤ f) && decide (f ≤ y)) = t := ⟨_, rfl⟩
          rw [hin, ht] at cst
          obtain ⟨C, hC⟩ : ∃ C, (xs.take l).countP (inn f) = C := ⟨_, rfl⟩
          rw [hC] at cle cst ⊢
          have HC := Lib.hid cst
          clear hin hx hy hC cst d0 d3
          have k1 : (0 : Int) ≤ k := by omega
          have k2 : (k : Int) < xs.length := by omega
          have l1 : (0 : Int) ≤ l := by omega
          have l2 : (l : Int) < xs.length := by omega
          by_cases h1 : x ≤ f
          · have e1 : decide (x ≤ f) = true := decide_eq_true h1
            rw [e1, Bool.true_and] at ht
            cases t
            · go_wp2
              go_quiet (fail)
              go_wp2
              go_roundw
              case rel => exact ⟨l + 1, _, by go_num, by omega, by rw [HC.out]; simp, rfl⟩
              case measure => simp [intOf]; omega
            · go_wp2
              go_quiet (fail)
              go_wp2
              go_roundw
              case rel => exact ⟨l + 1, _, by go_num, by omega, by rw [HC.out]; go_num, rfl⟩
              case measure => simp [intOf]; omega
          · have e1 : decide (x ≤ f) = false := decide_eq_false h1
            rw [e1, Bool.false_and] at ht
            subst ht
            go_wp2
            go_quiet (fail)
            go_wp2
            go_roundw
            case rel => exact ⟨l + 1, _, by go_num, by omega, by rw [HC.out]; simp, rfl⟩
            case measure => simp [intOf]; omega
        · obtain rfl : l = xs.length := by omega
          rw [List.take_length]
          have hcb : xs.countP (inn f) ≤ 60 := Nat.le_trans List.countP_le_length hn
          obtain ⟨C, hC⟩ : ∃ C, cnt xs f = C := ⟨_, rfl⟩
          have hC2 : xs.countP (inn f) = C := hC
          rw [hC] at HST
          rw [hC2] at hcb ⊢
          clear hC hC2
          have HS2 := HST
          by_cases hm : (C : Int) > M
          all_goals
            first | have m1 : decide (M < (C : Int)) = true := decide_eq_true hm | have m1 : decide (M < (C : Int)) = false := decide_eq_false hm
            go_wp2
            all_goals
              first | (exfalso; omega) | skip
              go_roundw
              case rel => exact ⟨k + 1, by go_num, by omega, by first | (rw [HS2.out]; congr 1; omega) | (rw [HS2.out]; rfl), _, rfl⟩
              case measure => simp [intOf]; omega
    · obtain rfl : k = xs.length := by omega
      rw [List.take_length]
      go_wp2
      go_ret
      exact ⟨rfl, by first | exact below_drewN (Below.refl _ _) _ | exact Below.refl _ _⟩
end Go.Proofs.Ytipeapjbodnagaa.Lv
