/- Lists of dual numbers and their combination. -/
import Derived.Test.YthkhlhibhkdkkaaG11
import Derived.Test.YthkhlhibhkdkkaaG13
import Derived.Test.YthkhlhibhkdkkaaG19

namespace Go.Proofs.Ythkhlhibhkdkkaa.Va
open Go.ChangeShapes Go.WideShapes Go.ChangeAt Go.RowKit
open Fr Fx
set_option maxRecDepth 8000
set_option linter.unusedVariables false
set_option linter.unusedSimpArgs false

abbrev Q4 := Int × Int × Int × Int
abbrev q0 : Q4 := (0, 0, 0, 0)
def inB (z : Int) : Prop := -9223372036854775808 ≤ z ∧ z ≤ 9223372036854775807
def SlD (w : World) (p : Option Addr) (xs : List Q4) : Prop := ∀ i, i < xs.length → ∃ b o, p = some ⟨b, o, none⟩ ∧ w.cell? ⟨b, o + i * 4, none⟩ = some (.int .i64 (xs.getD i q0).1) ∧ w.cell? ⟨b, o + i * 4 + 1, none⟩ = some (.int .i64 (xs.getD i q0).2.1) ∧
  w.cell? ⟨b, o + i * 4 + 2, none⟩ = some (.int .i64 (xs.getD i q0).2.2.1) ∧ w.cell? ⟨b, o + i * 4 + 3, none⟩ = some (.int .i64 (xs.getD i q0).2.2.2)
theorem SlD.below {w w' : World} {p : Option Addr} {xs : List Q4} (h : SlD w p xs) (hb : Below w.heap.size w w') : SlD w' p xs := fun i hi => by
  obtain ⟨b, o, rfl, c0, c1, c2, c3⟩ := h i hi
  exact ⟨b, o, rfl, Rg.keep hb (World.block_lt_of_cell? _ _ c0) c0, Rg.keep hb (World.block_lt_of_cell? _ _ c1) c1, Rg.keep hb (World.block_lt_of_cell? _ _ c2) c2, Rg.keep hb (World.block_lt_of_cell? _ _ c3) c3⟩
theorem cutD {w : World} {b o c : Nat} {x : Q4} {xa : List Q4} (h : SlD w (some ⟨b, o, none⟩) (x :: xa)) (hc : (x :: xa).length ≤ c) :
    ∃ A : Option Addr, (if c = 1 then some (⟨b, o, none⟩ : Addr) else some ⟨b, o + 4, none⟩) = A ∧ SlD w A xa := by
  rw [List.length_cons] at hc
  refine ⟨_, rfl, fun i hi => ?_⟩
  rw [if_neg (by omega)]
  obtain ⟨b1, o1, e, c0, c1, c2, c3⟩ := h (i + 1) (by rw [List.length_cons]; omega)
  cases e
  refine ⟨b, o + 4, rfl, ?_, ?_, ?_, ?_⟩
  · rw [show o + 4 + i * 4 = o + (i + 1) * 4 by omega]; exact c0
  · rw [show o + 4 + i * 4 = o + (i + 1) * 4 by omega]; exact c1
  · rw [show o + 4 + i * 4 = o + (i + 1) * 4 by omega]; exact c2
  · rw [show o + 4 + i * 4 = o + (i + 1) * 4 by omega]; exact c3
/-- Apply to two dual numbers. -/
def dav2 (op : Int) (a e : Q4) : A5 := dav op a.1 a.2.1 a.2.2.1 a.2.2.2 e.1 e.2.1 e.2.2.1 e.2.2.2
/-- The combination of dual numbers. -/
def drf (op : Int) : List Q4 → Q4 → A5
  | [], a => (a.1, a.2.1, a.2.2.1, a.2.2.2, 0)
  | e :: r, a => if (dav2 op a e).2.2.2.2 = 0 then drf op r ((dav2 op a e).1, (dav2 op a e).2.1, (dav2 op a e).2.2.1, (dav2 op a e).2.2.2.1) else (0, 0, 0, 0, (dav2 op a e).2.2.2.2)
theorem drf_step {op : Int} {xs : List Q4} {i : Nat} (h : i < xs.length) (a : Q4) : drf op (xs.drop i) a = if (dav2 op a (xs.getD i q0)).2.2.2.2 = 0 then drf op (xs.drop (i + 1)) ((dav2 op a (xs.getD i q0)).1, (dav2 op a (xs.getD i q0)).2.1, (dav2 op a (xs.getD i q0)).2.2.1, (dav2 op a (xs.getD i q0)).2.2.2.1) else (0, 0, 0, 0, (dav2 op a (xs.getD i q0)).2.2.2.2) := by
  rw [List.drop_eq_getElem_cons h]
  have e1 : xs.getD i q0 = xs[i] := by unfold List.getD; rw [List.getElem?_eq_getElem h]; rfl
  rw [e1]
  rfl
theorem drf_end (op : Int) (xs : List Q4) (a : Q4) : drf op (xs.drop xs.length) a = (a.1, a.2.1, a.2.2.1, a.2.2.2, 0) := by rw [List.drop_length]; rfl
def vq (a : Q4) : Bool := vld a.1 a.2.1 && vld a.2.2.1 a.2.2.2
/-- The answer of Reduce with a known fold. -/
def drt (fold op : Int) : List Q4 → A5
  | [] => if fold = 1 then (0, 1, 0, 1, 0) else if fold = 2 then (1, 1, 0, 1, 0) else (0, 0, 0, 0, 1)
  | a :: r => if vq a = false then (0, 0, 0, 0, 1) else drf op r a
def dop (fold : Int) : Int := if fold = 1 then 4 else if fold = 2 then 6 else if fold = 3 then 9 else if fold = 4 then 10 else 0
def drd (fold : Int) (xs : List Q4) : A5 := if dop fold = 0 then (0, 0, 0, 0, 1) else drt fold (dop fold) xs
theorem dav2_bad (op : Int) {a : Q4} (e : Q4) (h : vq a = false) : dav2 op a e = (0, 0, 0, 0, 1) := by
  unfold dav2 dav
  rw [if_pos (.inr (.inr (.inl h)))]
theorem dav2_err (op : Int) (a e : Q4) (h : (dav2 op a e).2.2.2.2 ≠ 0) : dav2 op a e = (0, 0, 0, 0, (dav2 op a e).2.2.2.2) := by
  unfold dav2 at *
  unfold dav at *
  by_cases hb : op < 4 ∨ 10 < op ∨ (vld a.1 a.2.1 && vld a.2.2.1 a.2.2.2) = false ∨ (op ≠ 8 ∧ (vld e.1 e.2.1 && vld e.2.2.1 e.2.2.2) = false)
  · rw [if_pos hb]
  · rw [if_neg hb] at h ⊢
    dsimp only at h ⊢
    split
    · rfl
    · rename_i h1
      rw [if_neg h1] at h
      split
      · rfl
      · rename_i h2
        rw [if_neg h2] at h
        exact absurd rfl h
theorem kpa {G : World} {b o : Nat} {v : Value} (O : Obj) (h : G.cell? ⟨b, o, none⟩ = some v) : (G.alloc O).cell? ⟨b, o, none⟩ = some v := Rg.keep ((Below.refl _ _).alloc (Nat.le_refl _) O) (World.block_lt_of_cell? _ _ h) h
theorem kpf {G : World} {b o o' : Nat} {v : Value} (O : Obj) (h : G.cell? ⟨b, o', none⟩ = some v) (hf : G.frozen? ⟨b, o, none⟩ = false) : (G.alloc O).frozen? ⟨b, o, none⟩ = false := Rg.keepF ((Below.refl _ _).alloc (Nat.le_refl _) O) (World.block_lt_of_cell? _ _ h) hf
theorem c_num (n : Int) (w : World) : Calls Try.prog 22 #[.int .i64 n] w (Ret (D4 n 1 0 1) w) := by
  go_enter Try.func22, Try.ntmps22
  go_wp2
  refine bodyPost_ret (v := D4 n 1 0 1) (by simp [results, Try.results22, go_sem]) rfl ⟨rfl, ?_⟩; (repeat' (first | (with_reducible exact Below.refl _ _) | (with_reducible refine Below.alloc ?_ ?_ _) | (with_reducible refine Below.setCell ?_ ?_ _) | (with_reducible refine below_drewN ?_ _) | (simp; done) | omega | (simp; omega)))
theorem r_num (n : Int) (w : World) : Calls Try.prog 24 #[.int .i64 n] w (Ret (D4 n 1 0 1) w) := by
  go_enter Try.func24, Try.ntmps24
  go_wp2
  refine bodyPost_ret (v := D4 n 1 0 1) (by simp [results, Try.results24, go_sem]) rfl ⟨rfl, ?_⟩; (repeat' (first | (with_reducible exact Below.refl _ _) | (with_reducible refine Below.alloc ?_ ?_ _) | (with_reducible refine Below.setCell ?_ ?_ _) | (with_reducible refine below_drewN ?_ _) | (simp; done) | omega | (simp; omega)))
theorem r_dop (fold : Int) (w : World) : Calls Try.prog 23 #[.int .i64 fold] w fun e w' => e = .returned (.int .i64 (dop fold)) ∧ w = w' := by
  unfold dop
  by_cases h1 : fold = 1
  · subst h1
    go_enter Try.func23, Try.ntmps23
    go_wp2
    go_ret
    exact ⟨rfl, rfl⟩
  rw [if_neg h1]
  have g1 : (fold == 1) = false := by simpa using h1
  by_cases h2 : fold = 2
  · subst h2
    go_enter Try.func23, Try.ntmps23
    go_wp2
    go_ret
    exact ⟨rfl, rfl⟩
  rw [if_neg h2]
  have g2 : (fold == 2) = false := by simpa using h2
  by_cases h3 : fold = 3
  · subst h3
    go_enter Try.func23, Try.ntmps23
    go_wp2
    go_ret
    exact ⟨rfl, rfl⟩
  rw [if_neg h3]
  have g3 : (fold == 3) = false := by simpa using h3
  by_cases h4 : fold = 4
  · subst h4
    go_enter Try.func23, Try.ntmps23
    go_wp2
    go_ret
    exact ⟨rfl, rfl⟩
  rw [if_neg h4]
  have g4 : (fold == 4) = false := by simpa using h4
  clear h1 h2 h3 h4
  go_enter Try.func23, Try.ntmps23
  go_wp2
  go_ret
  exact ⟨rfl, rfl⟩
end Go.Proofs.Ythkhlhibhkdkkaa.Va


namespace Go.Proofs.Ythkhlhibhkdkkaa.Va
open Go.ChangeShapes Go.WideShapes Go.ChangeAt Go.RowKit
open Fr Fx
set_option maxRecDepth 8000
set_option linter.unusedVariables false
set_option linter.unusedSimpArgs false

set_option maxRecDepth 100000 in
set_option maxHeartbeats 4000000 in
theorem c_rd1 (p : Option Addr) (xs : List Q4) (c : Nat) (w : World) (hn : xs.length ≤ maxLen) (hc : xs.length ≤ c) (RA : Hid (SlD w p xs)) (RB : Hid (∀ i, i < xs.length → inB (xs.getD i q0).1)) :
    Calls Try.prog 11 #[.int .i64 1, .slice p xs.length c] w (Ret (F5 (drt 1 4 xs)) w) := by
  have hn2 : xs.length ≤ 9223372036854775807 := Nat.le_trans hn (by decide)
  clear hn
  cases xs with
  | nil =>
    rw [show drt 1 4 [] = (0, 1, 0, 1, 0) from rfl]
    have NM := Lib.hid fun w => c_num 0 w
    clear RA RB hn2
    rw [List.length_nil] at hc ⊢
    go_enter Try.func11, Try.ntmps11
    go_wp2_with (first | (go_at_call 22; (with_reducible refine (NM.out _).mono ?_); rintro e w1 ⟨rfl, hb1⟩; have hc1 := (bcell hb1).1; have hf1 := (bcell hb1).2; have z1_0 : w.heap.size < w1.heap.size := (by have hzz := hb1.size; (try simp at hzz); omega); have K1 : Below w.heap.size w w1 := Below.trans (b := _) (by (repeat' (first | (with_reducible exact Below.refl _ _) | (with_reducible refine Below.alloc ?_ ?_ _) | (with_reducible refine Below.setCell ?_ ?_ _) | (with_reducible refine below_drewN ?_ _) | (simp; done) | omega | (simp; omega)))) (hb1.mono (by have hzz := hb1.size; (try simp at hzz); first | omega | (simp; done) | (simp; omega)))))
    refine bodyPost_ret (v := F5 (0, 1, 0, 1, 0)) (by simp [results, Try.results11, go_sem, hc1, hf1, z1_0, Nat.lt_succ_of_lt z1_0, Nat.ne_of_lt z1_0, Nat.ne_of_gt z1_0]) rfl ⟨rfl, ?_⟩; (repeat' (first | (with_reducible exact Below.refl _ _) | (with_reducible exact K1) | (with_reducible exact K1.size) | (with_reducible refine Below.alloc ?_ ?_ _) | (with_reducible refine Below.setCell ?_ ?_ _) | (with_reducible refine below_drewN ?_ _) | (simp; done) | omega | (simp; omega)))
  | cons v r =>
    obtain ⟨b, o, hp, c0, c1, c2, c3⟩ := RA.out 0 (by simp)
    subst hp
    simp only [List.getD_cons_zero, Nat.zero_mul, Nat.add_zero] at c0 c1 c2 c3
    have hbw : b < w.heap.size := World.block_lt_of_cell? _ _ c0
    obtain ⟨Q, hQ, RQ⟩ := cutD RA.out hc
    have RQ := Lib.hid RQ
    have RBr : Hid (∀ i, i < r.length → inB (r.getD i q0).1) := Lib.hid fun i hi => by
      have := RB.out (i + 1) (by rw [List.length_cons]; omega)
      rwa [List.getD_cons_succ] at this
    rw [List.length_cons] at hc hn2
    obtain ⟨n, hnn⟩ : ∃ n, r.length = n := ⟨_, rfl⟩
    rw [List.length_cons]
    have HR := Lib.hid hnn
    rw [hnn] at hc hn2 ⊢
    have c1' : 1 ≤ c := by omega
    have gn : decide ((0 : Int) < ((n + 1 : Nat) : Int)) = true := decide_eq_true (by omega)
    have VL := Lib.hid fun b w c0 c1 c2 c3 => c_vl b 0 v.1 v.2.1 v.2.2.1 v.2.2.2 w c0 c1 c2 c3
    have hvq : (vld v.1 v.2.1 && vld v.2.2.1 v.2.2.2) = vq v := rfl
    rw [hvq] at VL
    clear hnn RA RB hvq
    cases hv : vq v
    · rw [show drt 1 4 (v :: r) = (0, 0, 0, 0, 1) from by show (if vq v = false then _ else _) = _; rw [if_pos hv]]
      rw [hv] at VL
      clear hv RQ RBr HR
      go_enter Try.func11, Try.ntmps11
      go_wp2_with (first | (go_at_call 13; (with_reducible refine (VL.out _ _ ?_ ?_ ?_ ?_).mono ?_); (any_goals (go_cell; done)); rintro e w1 ⟨rfl, hb1⟩; have hc1 := (bcell hb1).1; have hf1 := (bcell hb1).2; have z1_0 : w.heap.size < w1.heap.size := (by have hzz := hb1.size; (try simp at hzz); omega); have z1_1 : w.heap.size + 1 < w1.heap.size := (by have hzz := hb1.size; (try simp at hzz); omega); have K1 : Below w.heap.size w w1 := Below.trans (b := _) (by (repeat' (first | (with_reducible exact Below.refl _ _) | (with_reducible refine Below.alloc ?_ ?_ _) | (with_reducible refine Below.setCell ?_ ?_ _) | (with_reducible refine below_drewN ?_ _) | (simp; done) | omega | (simp; omega)))) (hb1.mono (by have hzz := hb1.size; (try simp at hzz); first | omega | (simp; done) | (simp; omega)))))
      have hS : Hid (w1.cell? ⟨w.heap.size, 0, none⟩ = some (.int .i64 0) ∧ w1.cell? ⟨w.heap.size, 1, none⟩ = some (.int .i64 0) ∧ w1.cell? ⟨w.heap.size, 2, none⟩ = some (.int .i64 0) ∧ w1.cell? ⟨w.heap.size, 3, none⟩ = some (.int .i64 0) ∧ w1.frozen? ⟨w.heap.size, 0, none⟩ = false ∧ w1.frozen? ⟨w.heap.size, 1, none⟩ = false ∧ w1.frozen? ⟨w.heap.size, 2, none⟩ = false ∧ w1.frozen? ⟨w.heap.size, 3, none⟩ = false ∧ Below w.heap.size w w1) := Lib.hid ⟨(by simp [go_sem, hc1, hf1, z1_0, Nat.lt_succ_of_lt z1_0, Nat.ne_of_lt z1_0, Nat.ne_of_gt z1_0, z1_1, Nat.lt_succ_of_lt z1_1, Nat.ne_of_lt z1_1, Nat.ne_of_gt z1_1]), (by simp [go_sem, hc1, hf1, z1_0, Nat.lt_succ_of_lt z1_0, Nat.ne_of_lt z1_0, Nat.ne_of_gt z1_0, z1_1, Nat.lt_succ_of_lt z1_1, Nat.ne_of_lt z1_1, Nat.ne_of_gt z1_1]), (by simp [go_sem, hc1, hf1, z1_0, Nat.lt_succ_of_lt z1_0, Nat.ne_of_lt z1_0, Nat.ne_of_gt z1_0, z1_1, Nat.lt_succ_of_lt z1_1, Nat.ne_of_lt z1_1, Nat.ne_of_gt z1_1]), (by simp [go_sem, hc1, hf1, z1_0, Nat.lt_succ_of_lt z1_0, Nat.ne_of_lt z1_0, Nat.ne_of_gt z1_0, z1_1, Nat.lt_succ_of_lt z1_1, Nat.ne_of_lt z1_1, Nat.ne_of_gt z1_1]), (by simp [go_sem, hc1, hf1, z1_0, Nat.lt_succ_of_lt z1_0, Nat.ne_of_lt z1_0, Nat.ne_of_gt z1_0, z1_1, Nat.lt_succ_of_lt z1_1, Nat.ne_of_lt z1_1, Nat.ne_of_gt z1_1]), (by simp [go_sem, hc1, hf1, z1_0, Nat.lt_succ_of_lt z1_0, Nat.ne_of_lt z1_0, Nat.ne_of_gt z1_0, z1_1, Nat.lt_succ_of_lt z1_1, Nat.ne_of_lt z1_1, Nat.ne_of_gt z1_1]), (by simp [go_sem, hc1, hf1, z1_0, Nat.lt_succ_of_lt z1_0, Nat.ne_of_lt z1_0, Nat.ne_of_gt z1_0, z1_1, Nat.lt_succ_of_lt z1_1, Nat.ne_of_lt z1_1, Nat.ne_of_gt z1_1]), (by simp [go_sem, hc1, hf1, z1_0, Nat.lt_succ_of_lt z1_0, Nat.ne_of_lt z1_0, Nat.ne_of_gt z1_0, z1_1, Nat.lt_succ_of_lt z1_1, Nat.ne_of_lt z1_1, Nat.ne_of_gt z1_1]), K1⟩
      obtain ⟨r0, r1, r2, r3, fr0, fr1, fr2, fr3, K0⟩ := hS.out
      have lt := z1_0
      refine bodyPost_ret (v := F5 (0, 0, 0, 0, 1)) (by simp [results, Try.results11, go_sem, r0, r1, r2, r3, fr0, fr1, fr2, fr3, lt]) rfl ⟨rfl, ?_⟩; (repeat' (first | (with_reducible exact Below.refl _ _) | (with_reducible exact K0) | (with_reducible exact K0.size) | (with_reducible refine Below.alloc ?_ ?_ _) | (with_reducible refine Below.setCell ?_ ?_ _) | (with_reducible refine below_drewN ?_ _) | (simp; done) | omega | (simp; omega)))
    · rw [hv] at VL
      have AP := Lib.hid fun a e w (h : inB (e : Q4).1) => c_dap 4 (a : Q4).1 a.2.1 a.2.2.1 a.2.2.2 e.1 e.2.1 e.2.2.1 e.2.2.2 w h
      obtain ⟨A, hA⟩ : ∃ A, drt 1 4 (v :: r) = A := ⟨_, rfl⟩
      have HW2 : Hid (drf 4 r v = A) := Lib.hid (by rw [← hA]; show _ = (if vq v = false then _ else _); rw [if_neg (by rw [hv]; decide)])
      rw [hA]
      clear hA hv
      go_enter Try.func11, Try.ntmps11
      go_wp2_with (first | (go_at_call 13; (with_reducible refine (VL.out _ _ ?_ ?_ ?_ ?_).mono ?_); (any_goals (go_cell; done)); rintro e w1 ⟨rfl, hb1⟩; have hc1 := (bcell hb1).1; have hf1 := (bcell hb1).2; have z1_0 : w.heap.size < w1.heap.size := (by have hzz := hb1.size; (try simp at hzz); omega); have z1_1 : w.heap.size + 1 < w1.heap.size := (by have hzz := hb1.size; (try simp at hzz); omega); have K1 : Below w.heap.size w w1 := Below.trans (b := _) (by (repeat' (first | (with_reducible exact Below.refl _ _) | (with_reducible refine Below.alloc ?_ ?_ _) | (with_reducible refine Below.setCell ?_ ?_ _) | (with_reducible refine below_drewN ?_ _) | (simp; done) | omega | (simp; omega)))) (hb1.mono (by have hzz := hb1.size; (try simp at hzz); first | omega | (simp; done) | (simp; omega))); have d0 := Rg.keep K1 hbw c0; have d1 := Rg.keep K1 hbw c1; have d2 := Rg.keep K1 hbw c2; have d3 := Rg.keep K1 hbw c3; have hbr : b < w1.heap.size := World.block_lt_of_cell? _ _ d0))
      have hS : Hid (w1.cell? ⟨w.heap.size, 0, none⟩ = some (.int .i64 0) ∧ w1.cell? ⟨w.heap.size, 1, none⟩ = some (.int .i64 0) ∧ w1.cell? ⟨w.heap.size, 2, none⟩ = some (.int .i64 0) ∧ w1.cell? ⟨w.heap.size, 3, none⟩ = some (.int .i64 0) ∧ w1.frozen? ⟨w.heap.size, 0, none⟩ = false ∧ w1.frozen? ⟨w.heap.size, 1, none⟩ = false ∧ w1.frozen? ⟨w.heap.size, 2, none⟩ = false ∧ w1.frozen? ⟨w.heap.size, 3, none⟩ = false ∧ Below w.heap.size w w1) := Lib.hid ⟨(by simp [go_sem, hc1, hf1, z1_0, Nat.lt_succ_of_lt z1_0, Nat.ne_of_lt z1_0, Nat.ne_of_gt z1_0, z1_1, Nat.lt_succ_of_lt z1_1, Nat.ne_of_lt z1_1, Nat.ne_of_gt z1_1]), (by simp [go_sem, hc1, hf1, z1_0, Nat.lt_succ_of_lt z1_0, Nat.ne_of_lt z1_0, Nat.ne_of_gt z1_0, z1_1, Nat.lt_succ_of_lt z1_1, Nat.ne_of_lt z1_1, Nat.ne_of_gt z1_1]), (by simp [go_sem, hc1, hf1, z1_0, Nat.lt_succ_of_lt z1_0, Nat.ne_of_lt z1_0, Nat.ne_of_gt z1_0, z1_1, Nat.lt_succ_of_lt z1_1, Nat.ne_of_lt z1_1, Nat.ne_of_gt z1_1]), (by simp [go_sem, hc1, hf1, z1_0, Nat.lt_succ_of_lt z1_0, Nat.ne_of_lt z1_0, Nat.ne_of_gt z1_0, z1_1, Nat.lt_succ_of_lt z1_1, Nat.ne_of_lt z1_1, Nat.ne_of_gt z1_1]), (by simp [go_sem, hc1, hf1, z1_0, Nat.lt_succ_of_lt z1_0, Nat.ne_of_lt z1_0, Nat.ne_of_gt z1_0, z1_1, Nat.lt_succ_of_lt z1_1, Nat.ne_of_lt z1_1, Nat.ne_of_gt z1_1]), (by simp [go_sem, hc1, hf1, z1_0, Nat.lt_succ_of_lt z1_0, Nat.ne_of_lt z1_0, Nat.ne_of_gt z1_0, z1_1, Nat.lt_succ_of_lt z1_1, Nat.ne_of_lt z1_1, Nat.ne_of_gt z1_1]), (by simp [go_sem, hc1, hf1, z1_0, Nat.lt_succ_of_lt z1_0, Nat.ne_of_lt z1_0, Nat.ne_of_gt z1_0, z1_1, Nat.lt_succ_of_lt z1_1, Nat.ne_of_lt z1_1, Nat.ne_of_gt z1_1]), (by simp [go_sem, hc1, hf1, z1_0, Nat.lt_succ_of_lt z1_0, Nat.ne_of_lt z1_0, Nat.ne_of_gt z1_0, z1_1, Nat.lt_succ_of_lt z1_1, Nat.ne_of_lt z1_1, Nat.ne_of_gt z1_1]), K1⟩
      clear d0 d1 d2 d3
      obtain ⟨wt, hwt⟩ : ∃ wt : World, wt = w1 := ⟨w1, rfl⟩
      subst hwt
      have lt := z1_0
      clear VL hb1 hc1 hf1 z1_0 z1_1 K1
      obtain ⟨r0, r1, r2, r3, fr0, fr1, fr2, fr3, K0⟩ := hS.out
      have HS2 : Hid (∀ (a : Q4) (u u' : World), (u.cell? ⟨w.heap.size, 0, none⟩ = some (.int .i64 0) ∧ u.cell? ⟨w.heap.size, 1, none⟩ = some (.int .i64 0) ∧ u.cell? ⟨w.heap.size, 2, none⟩ = some (.int .i64 0) ∧ u.cell? ⟨w.heap.size, 3, none⟩ = some (.int .i64 0) ∧ u.cell? ⟨wt.heap.size, 0, none⟩ = some (.int .i64 a.1) ∧ u.cell? ⟨wt.heap.size, 1, none⟩ = some (.int .i64 a.2.1) ∧ u.cell? ⟨wt.heap.size, 2, none⟩ = some (.int .i64 a.2.2.1) ∧ u.cell? ⟨wt.heap.size, 3, none⟩ = some (.int .i64 a.2.2.2) ∧ u.frozen? ⟨w.heap.size, 0, none⟩ = false ∧ u.frozen? ⟨w.heap.size, 1, none⟩ = false ∧ u.frozen? ⟨w.heap.size, 2, none⟩ = false ∧ u.frozen? ⟨w.heap.size, 3, none⟩ = false ∧ u.frozen? ⟨wt.heap.size, 0, none⟩ = false ∧ u.frozen? ⟨wt.heap.size, 1, none⟩ = false ∧ u.frozen? ⟨wt.heap.size, 2, none⟩ = false ∧ u.frozen? ⟨wt.heap.size, 3, none⟩ = false ∧ Below w.heap.size w u) → Below u.heap.size u u' → (u'.cell? ⟨w.heap.size, 0, none⟩ = some (.int .i64 0) ∧ u'.cell? ⟨w.heap.size, 1, none⟩ = some (.int .i64 0) ∧ u'.cell? ⟨w.heap.size, 2, none⟩ = some (.int .i64 0) ∧ u'.cell? ⟨w.heap.size, 3, none⟩ = some (.int .i64 0) ∧ u'.cell? ⟨wt.heap.size, 0, none⟩ = some (.int .i64 a.1) ∧ u'.cell? ⟨wt.heap.size, 1, none⟩ = some (.int .i64 a.2.1) ∧ u'.cell? ⟨wt.heap.size, 2, none⟩ = some (.int .i64 a.2.2.1) ∧ u'.cell? ⟨wt.heap.size, 3, none⟩ = some (.int .i64 a.2.2.2) ∧ u'.frozen? ⟨w.heap.size, 0, none⟩ = false ∧ u'.frozen? ⟨w.heap.size, 1, none⟩ = false ∧ u'.frozen? ⟨w.heap.size, 2, none⟩ = false ∧ u'.frozen? ⟨w.heap.size, 3, none⟩ = false ∧ u'.frozen? ⟨wt.heap.size, 0, none⟩ = false ∧ u'.frozen? ⟨wt.heap.size, 1, none⟩ = false ∧ u'.frozen? ⟨wt.heap.size, 2, none⟩ = false ∧ u'.frozen? ⟨wt.heap.size, 3, none⟩ = false ∧ Below w.heap.size w u')) := Lib.hid (fun a u u' h hb => ⟨Rg.keep hb (World.block_lt_of_cell? _ _ h.1) h.1, Rg.keep hb (World.block_lt_of_cell? _ _ h.2.1) h.2.1, Rg.keep hb (World.block_lt_of_cell? _ _ h.2.2.1) h.2.2.1, Rg.keep hb (World.block_lt_of_cell? _ _ h.2.2.2.1) h.2.2.2.1, Rg.keep hb (World.block_lt_of_cell? _ _ h.2.2.2.2.1) h.2.2.2.2.1, Rg.keep hb (World.block_lt_of_cell? _ _ h.2.2.2.2.2.1) h.2.2.2.2.2.1, Rg.keep hb (World.block_lt_of_cell? _ _ h.2.2.2.2.2.2.1) h.2.2.2.2.2.2.1, Rg.keep hb (World.block_lt_of_cell? _ _ h.2.2.2.2.2.2.2.1) h.2.2.2.2.2.2.2.1, Rg.keepF hb (World.block_lt_of_cell? _ _ h.1) h.2.2.2.2.2.2.2.2.1, Rg.keepF hb (World.block_lt_of_cell? _ _ h.1) h.2.2.2.2.2.2.2.2.2.1, Rg.keepF hb (World.block_lt_of_cell? _ _ h.1) h.2.2.2.2.2.2.2.2.2.2.1, Rg.keepF hb (World.block_lt_of_cell? _ _ h.1) h.2.2.2.2.2.2.2.2.2.2.2.1, Rg.keepF hb (World.block_lt_of_cell? _ _ h.2.2.2.2.1) h.2.2.2.2.2.2.2.2.2.2.2.2.1, Rg.keepF hb (World.block_lt_of_cell? _ _ h.2.2.2.2.1) h.2.2.2.2.2.2.2.2.2.2.2.2.2.1, Rg.keepF hb (World.block_lt_of_cell? _ _ h.2.2.2.2.1) h.2.2.2.2.2.2.2.2.2.2.2.2.2.2.1, Rg.keepF hb (World.block_lt_of_cell? _ _ h.2.2.2.2.1) h.2.2.2.2.2.2.2.2.2.2.2.2.2.2.2.1, h.2.2.2.2.2.2.2.2.2.2.2.2.2.2.2.2.trans (hb.mono h.2.2.2.2.2.2.2.2.2.2.2.2.2.2.2.2.size)⟩)
      have hS2 : Hid ((wt.alloc (Obj.cells #[Value.int .i64 v.1, Value.int .i64 v.2.1, Value.int .i64 v.2.2.1, Value.int .i64 v.2.2.2] 26)).cell? ⟨w.heap.size, 0, none⟩ = some (.int .i64 0) ∧ (wt.alloc (Obj.cells #[Value.int .i64 v.1, Value.int .i64 v.2.1, Value.int .i64 v.2.2.1, Value.int .i64 v.2.2.2] 26)).cell? ⟨w.heap.size, 1, none⟩ = some (.int .i64 0) ∧ (wt.alloc (Obj.cells #[Value.int .i64 v.1, Value.int .i64 v.2.1, Value.int .i64 v.2.2.1, Value.int .i64 v.2.2.2] 26)).cell? ⟨w.heap.size, 2, none⟩ = some (.int .i64 0) ∧ (wt.alloc (Obj.cells #[Value.int .i64 v.1, Value.int .i64 v.2.1, Value.int .i64 v.2.2.1, Value.int .i64 v.2.2.2] 26)).cell? ⟨w.heap.size, 3, none⟩ = some (.int .i64 0) ∧ (wt.alloc (Obj.cells #[Value.int .i64 v.1, Value.int .i64 v.2.1, Value.int .i64 v.2.2.1, Value.int .i64 v.2.2.2] 26)).cell? ⟨wt.heap.size, 0, none⟩ = some (.int .i64 v.1) ∧ (wt.alloc (Obj.cells #[Value.int .i64 v.1, Value.int .i64 v.2.1, Value.int .i64 v.2.2.1, Value.int .i64 v.2.2.2] 26)).cell? ⟨wt.heap.size, 1, none⟩ = some (.int .i64 v.2.1) ∧ (wt.alloc (Obj.cells #[Value.int .i64 v.1, Value.int .i64 v.2.1, Value.int .i64 v.2.2.1, Value.int .i64 v.2.2.2] 26)).cell? ⟨wt.heap.size, 2, none⟩ = some (.int .i64 v.2.2.1) ∧ (wt.alloc (Obj.cells #[Value.int .i64 v.1, Value.int .i64 v.2.1, Value.int .i64 v.2.2.1, Value.int .i64 v.2.2.2] 26)).cell? ⟨wt.heap.size, 3, none⟩ = some (.int .i64 v.2.2.2) ∧ (wt.alloc (Obj.cells #[Value.int .i64 v.1, Value.int .i64 v.2.1, Value.int .i64 v.2.2.1, Value.int .i64 v.2.2.2] 26)).frozen? ⟨w.heap.size, 0, none⟩ = false ∧ (wt.alloc (Obj.cells #[Value.int .i64 v.1, Value.int .i64 v.2.1, Value.int .i64 v.2.2.1, Value.int .i64 v.2.2.2] 26)).frozen? ⟨w.heap.size, 1, none⟩ = false ∧ (wt.alloc (Obj.cells #[Value.int .i64 v.1, Value.int .i64 v.2.1, Value.int .i64 v.2.2.1, Value.int .i64 v.2.2.2] 26)).frozen? ⟨w.heap.size, 2, none⟩ = false ∧ (wt.alloc (Obj.cells #[Value.int .i64 v.1, Value.int .i64 v.2.1, Value.int .i64 v.2.2.1, Value.int .i64 v.2.2.2] 26)).frozen? ⟨w.heap.size, 3, none⟩ = false ∧ (wt.alloc (Obj.cells #[Value.int .i64 v.1, Value.int .i64 v.2.1, Value.int .i64 v.2.2.1, Value.int .i64 v.2.2.2] 26)).frozen? ⟨wt.heap.size, 0, none⟩ = false ∧ (wt.alloc (Obj.cells #[Value.int .i64 v.1, Value.int .i64 v.2.1, Value.int .i64 v.2.2.1, Value.int .i64 v.2.2.2] 26)).frozen? ⟨wt.heap.size, 1, none⟩ = false ∧ (wt.alloc (Obj.cells #[Value.int .i64 v.1, Value.int .i64 v.2.1, Value.int .i64 v.2.2.1, Value.int .i64 v.2.2.2] 26)).frozen? ⟨wt.heap.size, 2, none⟩ = false ∧ (wt.alloc (Obj.cells #[Value.int .i64 v.1, Value.int .i64 v.2.1, Value.int .i64 v.2.2.1, Value.int .i64 v.2.2.2] 26)).frozen? ⟨wt.heap.size, 3, none⟩ = false ∧ Below w.heap.size w (wt.alloc (Obj.cells #[Value.int .i64 v.1, Value.int .i64 v.2.1, Value.int .i64 v.2.2.1, Value.int .i64 v.2.2.2] 26))) := Lib.hid ⟨Rg.keep ((Below.refl wt.heap.size wt).alloc (Nat.le_refl _) (Obj.cells #[Value.int .i64 v.1, Value.int .i64 v.2.1, Value.int .i64 v.2.2.1, Value.int .i64 v.2.2.2] 26)) lt r0, Rg.keep ((Below.refl wt.heap.size wt).alloc (Nat.le_refl _) (Obj.cells #[Value.int .i64 v.1, Value.int .i64 v.2.1, Value.int .i64 v.2.2.1, Value.int .i64 v.2.2.2] 26)) lt r1, Rg.keep ((Below.refl wt.heap.size wt).alloc (Nat.le_refl _) (Obj.cells #[Value.int .i64 v.1, Value.int .i64 v.2.1, Value.int .i64 v.2.2.1, Value.int .i64 v.2.2.2] 26)) lt r2, Rg.keep ((Below.refl wt.heap.size wt).alloc (Nat.le_refl _) (Obj.cells #[Value.int .i64 v.1, Value.int .i64 v.2.1, Value.int .i64 v.2.2.1, Value.int .i64 v.2.2.2] 26)) lt r3, by go_cell, by go_cell, by go_cell, by go_cell, Rg.keepF ((Below.refl wt.heap.size wt).alloc (Nat.le_refl _) (Obj.cells #[Value.int .i64 v.1, Value.int .i64 v.2.1, Value.int .i64 v.2.2.1, Value.int .i64 v.2.2.2] 26)) lt fr0, Rg.keepF ((Below.refl wt.heap.size wt).alloc (Nat.le_refl _) (Obj.cells #[Value.int .i64 v.1, Value.int .i64 v.2.1, Value.int .i64 v.2.2.1, Value.int .i64 v.2.2.2] 26)) lt fr1, Rg.keepF ((Below.refl wt.heap.size wt).alloc (Nat.le_refl _) (Obj.cells #[Value.int .i64 v.1, Value.int .i64 v.2.1, Value.int .i64 v.2.2.1, Value.int .i64 v.2.2.2] 26)) lt fr2, Rg.keepF ((Below.refl wt.heap.size wt).alloc (Nat.le_refl _) (Obj.cells #[Value.int .i64 v.1, Value.int .i64 v.2.1, Value.int .i64 v.2.2.1, Value.int .i64 v.2.2.2] 26)) lt fr3, by simp only [frozen?_alloc_cells]; exact Rg.notFrozen (Nat.le_refl _), by simp only [frozen?_alloc_cells]; exact Rg.notFrozen (Nat.le_refl _), by simp only [frozen?_alloc_cells]; exact Rg.notFrozen (Nat.le_refl _), by simp only [frozen?_alloc_cells]; exact Rg.notFrozen (Nat.le_refl _), K0.alloc K0.size _⟩
      clear hS gn
      go_loopw [48] (fun i wr => ∃ (j : Nat) (a : Q4), i = .int .i64 j ∧ j ≤ n ∧ Hid (wr.cell? ⟨w.heap.size, 0, none⟩ = some (.int .i64 0) ∧ wr.cell? ⟨w.heap.size, 1, none⟩ = some (.int .i64 0) ∧ wr.cell? ⟨w.heap.size, 2, none⟩ = some (.int .i64 0) ∧ wr.cell? ⟨w.heap.size, 3, none⟩ = some (.int .i64 0) ∧ wr.cell? ⟨wt.heap.size, 0, none⟩ = some (.int .i64 a.1) ∧ wr.cell? ⟨wt.heap.size, 1, none⟩ = some (.int .i64 a.2.1) ∧ wr.cell? ⟨wt.heap.size, 2, none⟩ = some (.int .i64 a.2.2.1) ∧ wr.cell? ⟨wt.heap.size, 3, none⟩ = some (.int .i64 a.2.2.2) ∧ wr.frozen? ⟨w.heap.size, 0, none⟩ = false ∧ wr.frozen? ⟨w.heap.size, 1, none⟩ = false ∧ wr.frozen? ⟨w.heap.size, 2, none⟩ = false ∧ wr.frozen? ⟨w.heap.size, 3, none⟩ = false ∧ wr.frozen? ⟨wt.heap.size, 0, none⟩ = false ∧ wr.frozen? ⟨wt.heap.size, 1, none⟩ = false ∧ wr.frozen? ⟨wt.heap.size, 2, none⟩ = false ∧ wr.frozen? ⟨wt.heap.size, 3, none⟩ = false ∧ Below w.heap.size w wr) ∧ Hid (drf 4 (r.drop j) a = A)) (fun i _ => n - (intOf i).toNat)
      case atStart => exact ⟨0, v, rfl, Nat.zero_le _, hS2, HW2⟩
      case round =>
        obtain ⟨j, a, rfl, hj, hT, hF⟩ := hrel
        clear hS2 r0 r1 r2 r3 fr0 fr1 fr2 fr3 K0 c0 c1 c2 c3
        obtain ⟨r0, r1, r2, r3, T0, T1, T2, T3, fr0, fr1, fr2, fr3, fT0, fT1, fT2, fT3, KB⟩ := hT.out
        have lr : w.heap.size < wr.heap.size := World.block_lt_of_cell? _ _ r0
        have lT : wt.heap.size < wr.heap.size := World.block_lt_of_cell? _ _ T0
        have jj : (0 : Int) ≤ j := by omega
        by_cases hlt : j < n
        · obtain ⟨b2, o2, hQ2, c0, c1, c2, c3⟩ := RQ.out j (by rw [HR.out]; exact hlt)
          subst hQ2
          have j2 : (j : Int) < n := by omega
          have hbw2 : b2 < w.heap.size := World.block_lt_of_cell? _ _ c0
          replace c0 := Rg.keep KB hbw2 c0
          replace c1 := Rg.keep KB hbw2 c1
          replace c2 := Rg.keep KB hbw2 c2
          replace c3 := Rg.keep KB hbw2 c3
          have hbr2 : b2 < wr.heap.size := World.block_lt_of_cell? _ _ c0
          have hst := drf_step (op := 4) (xs := r) (i := j) (by rw [HR.out]; exact hlt) a
          have hbe := RBr.out j (by rw [HR.out]; exact hlt)
          obtain ⟨e, he⟩ : ∃ e, r.getD j q0 = e := ⟨_, rfl⟩
          rw [he] at c0 c1 c2 c3 hst hbe
          have AC := Lib.hid fun w => AP.out a e w hbe
          obtain ⟨q, hq⟩ : ∃ q, dav2 4 a e = q := ⟨_, rfl⟩
          rw [hq] at hst
          rw [show dav 4 a.1 a.2.1 a.2.2.1 a.2.2.2 e.1 e.2.1 e.2.2.1 e.2.2.2 = q from hq] at AC
          obtain ⟨x, y, z, s, f⟩ := q
          clear he hbe hq
          dsimp only at hst
          by_cases hz : f = 0
          · subst hz
            rw [if_pos rfl] at hst
            rw [hst] at hF
            clear hst
            go_wp2_with (first | (go_at_call 6; (with_reducible refine (AC.out _).mono ?_); rintro e w7 ⟨rfl, hb7⟩; have hc7 := (bcell hb7).1; have hf7 := (bcell hb7).2; have z7_0 : w.heap.size < w7.heap.size := (by have hzz := hb7.size; (try simp at hzz); omega); have z7_1 : wt.heap.size < w7.heap.size := (by have hzz := hb7.size; (try simp at hzz); omega); have K7 : Below w.heap.size w w7 := Below.trans (b := _) (by (repeat' (first | (with_reducible exact Below.refl _ _) | (with_reducible exact KB) | (with_reducible exact KB.size) | (with_reducible refine Below.alloc ?_ ?_ _) | (with_reducible refine Below.setCell ?_ ?_ _) | (with_reducible refine below_drewN ?_ _) | (simp; done) | omega | (simp; omega)))) (hb7.mono (by have hzz := hb7.size; (try simp at hzz); first | omega | (simp; done) | (simp; omega)))))
            go_roundw
            case rel =>
              have M7 : Below wr.heap.size wr w7 := Below.trans (b := _) ((Below.refl _ _).alloc (Nat.le_refl _) _) (hb7.mono (by simp))
              obtain ⟨r0, r1, r2, r3, T0, T1, T2, T3, fr0, fr1, fr2, fr3, fT0, fT1, fT2, fT3, KC⟩ := HS2.out _ _ _ hT.out M7
              have n0 : wt.heap.size ≠ w.heap.size := by omega
              have KD := Below.setCell (p := ⟨wt.heap.size, 3, none⟩) (Below.setCell (p := ⟨wt.heap.size, 2, none⟩) (Below.setCell (p := ⟨wt.heap.size, 1, none⟩) (Below.setCell (p := ⟨wt.heap.size, 0, none⟩) KC (by dsimp only; omega) (.int .i64 x)) (by dsimp only; omega) (.int .i64 y)) (by dsimp only; omega) (.int .i64 z)) (by dsimp only; omega) (.int .i64 s)
              have hst := st4 (x := .int .i64 x) (y := .int .i64 y) (z := .int .i64 z) (t := .int .i64 s) T0 T1 T2 T3
              obtain ⟨s0, s1, s2, s3⟩ := hst
              exact ⟨j + 1, (x, y, z, s), rfl, by omega, Lib.hid ⟨kpa _ (far4 n0 r0), kpa _ (far4 n0 r1), kpa _ (far4 n0 r2), kpa _ (far4 n0 r3), kpa _ s0, kpa _ s1, kpa _ s2, kpa _ s3, kpf _ (far4 n0 r0) (by simpa [World.frozen?_setCell] using fr0), kpf _ (far4 n0 r1) (by simpa [World.frozen?_setCell] using fr1), kpf _ (far4 n0 r2) (by simpa [World.frozen?_setCell] using fr2), kpf _ (far4 n0 r3) (by simpa [World.frozen?_setCell] using fr3), kpf _ s0 (by simpa [World.frozen?_setCell] using fT0), kpf _ s1 (by simpa [World.frozen?_setCell] using fT1), kpf _ s2 (by simpa [World.frozen?_setCell] using fT2), kpf _ s3 (by simpa [World.frozen?_setCell] using fT3), KD.alloc KD.size _⟩, hF⟩
            case measure => simp [intOf]; omega
          · rw [if_neg hz] at hst
            have hAA : A = (0, 0, 0, 0, f) := by rw [← hF.out, hst]
            subst hAA
            have z1 : (f != 0) = true := by simpa using hz
            have z2 : (f == 0) = false := by simpa using hz
            clear hst hF hz hT HW2 AP
            go_wp2_with (first | (go_at_call 6; (with_reducible refine (AC.out _).mono ?_); rintro e w7 ⟨rfl, hb7⟩; have hc7 := (bcell hb7).1; have hf7 := (bcell hb7).2; have z7_0 : w.heap.size < w7.heap.size := (by have hzz := hb7.size; (try simp at hzz); omega); have z7_1 : wt.heap.size < w7.heap.size := (by have hzz := hb7.size; (try simp at hzz); omega); have K7 : Below w.heap.size w w7 := Below.trans (b := _) (by (repeat' (first | (with_reducible exact Below.refl _ _) | (with_reducible exact KB) | (with_reducible exact KB.size) | (with_reducible refine Below.alloc ?_ ?_ _) | (with_reducible refine Below.setCell ?_ ?_ _) | (with_reducible refine below_drewN ?_ _) | (simp; done) | omega | (simp; omega)))) (hb7.mono (by have hzz := hb7.size; (try simp at hzz); first | omega | (simp; done) | (simp; omega)))))
            refine bodyPost_ret (v := F5 (0, 0, 0, 0, f)) (by simp [results, Try.results11, go_sem, hc7, hf7, z7_0, Nat.lt_succ_of_lt z7_0, Nat.ne_of_lt z7_0, Nat.ne_of_gt z7_0, z7_1, Nat.lt_succ_of_lt z7_1, Nat.ne_of_lt z7_1, Nat.ne_of_gt z7_1, r0, r1, r2, r3, fr0, fr1, fr2, fr3, lr, Nat.lt_succ_of_lt lr]) rfl ⟨rfl, ?_⟩; (repeat' (first | (with_reducible exact Below.refl _ _) | (with_reducible exact K7) | (with_reducible exact K7.size) | (with_reducible refine Below.alloc ?_ ?_ _) | (with_reducible refine Below.setCell ?_ ?_ _) | (with_reducible refine below_drewN ?_ _) | (simp; done) | omega | (simp; omega)))
        · have ej : j = n := by omega
          subst ej
          have hAA : A = (a.1, a.2.1, a.2.2.1, a.2.2.2, 0) := by rw [← hF.out, ← HR.out, drf_end]
          subst hAA
          clear hF hT HW2 AP RQ
          go_wp2
          refine bodyPost_ret (v := F5 (a.1, a.2.1, a.2.2.1, a.2.2.2, 0)) (by simp [results, Try.results11, go_sem, r0, r1, r2, r3, fr0, fr1, fr2, fr3, T0, T1, T2, T3, lr, lT]) rfl ⟨rfl, ?_⟩; (repeat' (first | (with_reducible exact Below.refl _ _) | (with_reducible exact KB) | (with_reducible exact KB.size) | (with_reducible refine Below.alloc ?_ ?_ _) | (with_reducible refine Below.setCell ?_ ?_ _) | (with_reducible refine below_drewN ?_ _) | (simp; done) | omega | (simp; omega)))
end Go.Proofs.Ythkhlhibhkdkkaa.Va
