/- Linear forms: a sum and whether it fits. -/
import Derived.Test.YthdeaneffnlffaaY21
namespace Go.Proofs.Ythdeaneffnlffaa.Ln
open Go.ChangeShapes Go.WideShapes Go.ChangeAt Go.RowKit
set_option linter.unusedVariables false

def PW (x y : Int) (f : Bool) (gf : Nat) (w : World) (e : Ending) (w' : World) : Prop :=
  e = .returned (.int .i64 (wrap64 (x + y))) ∧ w.grownBy w' (some gf) ∧ w'.cell? ⟨gf, 0, none⟩ = some (.bool (f && fit64 (x + y))) ∧ w'.frozen? ⟨gf, 0, none⟩ = false
theorem sum_fit {x y C : Int} (x1 : -9223372036854775808 ≤ x) (x2 : x ≤ 9223372036854775807) (y1 : -9223372036854775808 ≤ y) (y2 : y ≤ 9223372036854775807) (hC : wrap64 (x + y) = C) :
    fit64 (x + y) = !((decide (x < 0) == decide (y < 0)) && (decide (C < 0) != decide (x < 0))) := by
  rw [Bool.eq_iff_iff, fit_yes]
  unfold wrap64 at hC
  by_cases h1 : x < 0 <;> by_cases h2 : y < 0 <;> by_cases h3 : C < 0 <;> simp [h1, h2, h3] <;> omega
set_option maxRecDepth 100000 in
set_option maxHeartbeats 8000000 in
theorem plus1 (x y : Int) (f : Bool) (gf : Nat) (w : World) (x1 : -9223372036854775808 ≤ x) (x2 : x ≤ 9223372036854775807) (y1 : -9223372036854775808 ≤ y) (y2 : y ≤ 9223372036854775807)
    (hf : w.cell? ⟨gf, 0, none⟩ = some (.bool f)) (hz : w.frozen? ⟨gf, 0, none⟩ = false) :
    Calls Try.prog 35 #[.int .i64 x, .int .i64 y, .pointer (some ⟨gf, 0, none⟩)] w (PW x y f gf w) := by
  obtain ⟨C, hC⟩ : ∃ C, wrap64 (x + y) = C := ⟨_, rfl⟩
  have hfit := sum_fit x1 x2 y1 y2 hC
  have HC := Lib.hid hC
  have hs0 : w.grownBy w (some gf) := ⟨rfl, rfl, rfl, Nat.le_refl _, fun _ _ _ => rfl⟩
  obtain ⟨q1, h1⟩ : ∃ q, decide (x < 0) = q := ⟨_, rfl⟩
  obtain ⟨q2, h2⟩ : ∃ q, decide (y < 0) = q := ⟨_, rfl⟩
  obtain ⟨q3, h3⟩ : ∃ q, decide (C < 0) = q := ⟨_, rfl⟩
  rw [h1, h2, h3] at hfit
  have HF := Lib.hid hfit
  clear hfit
  cases q1 <;> cases q2 <;> cases q3
  all_goals
    go_enter Try.func35, Try.ntmps35
    go_wp2
    go_ret
    first
    | exact ⟨by rw [HC.out]; rfl, hs0, by rw [HF.out, hf]; cases f <;> rfl, hz⟩
    | exact ⟨by rw [HC.out]; rfl, grown_set, by rw [HF.out]; (first | go_cell | (cases f <;> go_cell)), by simp [World.frozen?_setCell, hz]⟩
theorem plusY (a b : Int) (w : World) (ha1 : -9223372036854775808 ≤ a) (ha2 : a ≤ 9223372036854775807) (hb1 : -9223372036854775808 ≤ b) (hb2 : b ≤ 9223372036854775807) (h : fit64 (a + b) = true) :
    Calls Try.prog 37 #[.int .i64 a, .int .i64 b] w fun e w' => e = .returned (.tuple #[.int .i64 (wrap64 (a + b)), .bool true]) ∧ w = w' := by
  have hb := fit_yes.1 h
  rw [show wrap64 (a + b) = a + b by unfold wrap64; omega]
  have e1 : -9223372036854775808 ≤ a + b := hb.1
  have e2 : a + b ≤ 9223372036854775807 := hb.2
  clear hb h
  by_cases hp : 0 < b
  · have c1 : ¬ 9223372036854775807 - b < a := by omega
    go_enter Try.func37, Try.ntmps37
    go_wp2
    exact bodyPost_ret (v := .tuple #[.int .i64 (a + b), .bool true]) (by simp [results, Try.results37, go_sem]) rfl ⟨rfl, rfl⟩
  · by_cases hn : b < 0
    · have c1 : ¬ a < -9223372036854775808 - b := by omega
      go_enter Try.func37, Try.ntmps37
      go_wp2
      exact bodyPost_ret (v := .tuple #[.int .i64 (a + b), .bool true]) (by simp [results, Try.results37, go_sem]) rfl ⟨rfl, rfl⟩
    · go_enter Try.func37, Try.ntmps37
      go_wp2
      exact bodyPost_ret (v := .tuple #[.int .i64 (a + b), .bool true]) (by simp [results, Try.results37, go_sem]) rfl ⟨rfl, rfl⟩
theorem plusN (a b : Int) (w : World) (ha1 : -9223372036854775808 ≤ a) (ha2 : a ≤ 9223372036854775807) (hb1 : -9223372036854775808 ≤ b) (hb2 : b ≤ 9223372036854775807) (h : fit64 (a + b) = false) :
    Calls Try.prog 37 #[.int .i64 a, .int .i64 b] w fun e w' => e = .returned (.tuple #[.int .i64 0, .bool false]) ∧ w = w' := by
  have hb : ¬ (-9223372036854775808 ≤ a + b ∧ a + b ≤ 9223372036854775807) := fun hh => by rw [fit_yes.2 hh] at h; cases h
  clear h
  by_cases hp : 0 < b
  · have c1 : 9223372036854775807 - b < a := by omega
    clear hb
    go_enter Try.func37, Try.ntmps37
    go_wp2
    exact bodyPost_ret (v := .tuple #[.int .i64 0, .bool false]) (by simp [results, Try.results37, go_sem]) rfl ⟨rfl, rfl⟩
  · have hn : b < 0 := by omega
    have c1 : a < -9223372036854775808 - b := by omega
    clear hb
    go_enter Try.func37, Try.ntmps37
    go_wp2
    exact bodyPost_ret (v := .tuple #[.int .i64 0, .bool false]) (by simp [results, Try.results37, go_sem]) rfl ⟨rfl, rfl⟩
theorem cut1 {w : World} {b o c : Nat} {x : Mo} {xa : List Mo} (h : SlM w (some ⟨b, o, none⟩) (x :: xa)) (hc : (x :: xa).length ≤ c) :
    ∃ A : Option Addr, (if c = 1 then some (⟨b, o, none⟩ : Addr) else some ⟨b, o + 2, none⟩) = A ∧ SlM w A xa ∧ xa.length ≤ c - 1 ∧ ∀ b' o', A = some ⟨b', o', none⟩ → b' = b := by
  rw [List.length_cons] at hc
  refine ⟨_, rfl, fun i hi => ?_, by omega, fun b' o' e => ?_⟩
  · rw [if_neg (by omega)]
    obtain ⟨b1, o1, e, c0, c1⟩ := h (i + 1) (by rw [List.length_cons]; omega)
    cases e
    refine ⟨b, o + 2, rfl, ?_, ?_⟩
    · rw [show o + 2 + i * 2 = o + (i + 1) * 2 by omega]; exact c0
    · rw [show o + 2 + i * 2 + 1 = o + (i + 1) * 2 + 1 by omega]; exact c1
  · split at e <;> (cases e; rfl)
theorem SlM.grown {w u : World} {p : Option Addr} {xs : List Mo} {g : Nat} (h : SlM w p xs) (hg : w.grownBy u (some g)) (hp : ∀ b o, p = some ⟨b, o, none⟩ → b ≠ g) : SlM u p xs := fun i hi => by
  obtain ⟨b, o, rfl, c0, c1⟩ := h i hi
  have hb := hg.block b (lt_of_cell c0) (fun e => hp b o rfl (by cases e; rfl))
  exact ⟨b, o, rfl, (World.cell?_of_block (a := ⟨b, _, none⟩) hb).trans c0, (World.cell?_of_block (a := ⟨b, _, none⟩) hb).trans c1⟩
theorem grown_trans {w u v : World} {g : Nat} (h : w.grownBy u (some g)) (h2 : u.grownBy v (some g)) : w.grownBy v (some g) :=
  ⟨h2.os.trans h.os, h2.tape.trans h.tape, h2.output.trans h.output, Nat.le_trans h.size h2.size, fun k hk hne => (h2.block k (Nat.lt_of_lt_of_le hk h.size) hne).trans (h.block k hk hne)⟩
theorem grown_drew {w u : World} {r : Option Nat} (h : w.grownBy u r) : w.grownBy u.drew r := ⟨h.os, h.tape, h.output, h.size, h.block⟩
theorem grown_drewN {w u : World} {r : Option Nat} (h : w.grownBy u r) (n : Nat) : w.grownBy (u.drewN n) r := ⟨h.os, h.tape, h.output, h.size, h.block⟩
theorem grown_alloc {w u : World} {r : Option Nat} (h : w.grownBy u r) (o : Obj) : w.grownBy (u.alloc o) r :=
  ⟨h.os, h.tape, h.output, by simp; have := h.size; omega, fun k hk hne => (Below.heap_alloc u o k (Nat.lt_of_lt_of_le hk h.size)).trans (h.block k hk hne)⟩
/-- A growth of blocks of the call's own. -/
theorem grown_own {w u v : World} {g base : Nat} {E : TypeId} {sz n : Nat} {x : Value} {xs : List Value} (h : w.grownBy u (some g)) (hO : u.ownsRow base E sz x n xs) (hb : w.heap.size ≤ base) (h2 : u.grownBy v x.ownBlock) : w.grownBy v (some g) :=
  ⟨h2.os.trans h.os, h2.tape.trans h.tape, h2.output.trans h.output, Nat.le_trans h.size h2.size, fun k hk hne => (h2.block k (Nat.lt_of_lt_of_le hk h.size) (fun e => by have := (hO.lt k e.symm).1; omega)).trans (h.block k hk hne)⟩
end Go.Proofs.Ythdeaneffnlffaa.Ln
