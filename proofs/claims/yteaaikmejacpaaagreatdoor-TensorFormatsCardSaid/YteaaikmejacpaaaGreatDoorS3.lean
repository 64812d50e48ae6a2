/- Narrow, width by width, where it wraps around. -/
import Derived.Test.YteaaikmejacpaaaGreatDoorS0
import Derived.Test.YteaaikmejacpaaaGreatDoorS2
import Derived.Test.YteaaikmejacpaaaGreatDoorS1
import Derived.Laws.EntriesVeiled

namespace Go.Proofs.YteaaikmejacpaaaGreatDoor.Nx
open Go.ChangeShapes Go.WideShapes Go.ChangeAt Go.RowKit
set_option linter.unusedVariables false
set_option linter.unusedSimpArgs false
set_option maxHeartbeats 16000000 in
theorem cnar_2 (n bits : Int) (w : World) (n0 : -9223372036854775808 <= n) (n1 : n <= 9223372036854775807) (h0 : 2 <= bits) (h1 : bits <= 31) :
  Calls Tryz.prog 180 #[.int .i64 n, .int .i64 bits, .int .i64 2] w fun e w' => e = .returned (.tuple #[.int .i64 (nv n bits 2), .bool (nb n bits 2)]) /\ w = w' := by
 have hg : ¬ nbad bits 2 := by unfold nbad; omega
 rcases (by omega : n < - half bits \/ half bits - 1 < n \/ (- half bits <= n /\ n <= half bits - 1)) with c | c | ⟨c, c'⟩
 ·have Hn : nb n bits 2 = true := by unfold nb; rw [if_neg hg]; simp; omega
  have H : nv n bits 2 = (n + half bits) % full bits - half bits := by unfold nv; rw [if_neg hg, if_pos c]; rw [if_neg (by decide)]
  rw [Hn]
  have HH := Lib.hid H
  clear H Hn hg
  rcases widths bits h0 h1 with ⟨rfl, hh, hf⟩ | ⟨rfl, hh, hf⟩ | ⟨rfl, hh, hf⟩ | ⟨rfl, hh, hf⟩ | ⟨rfl, hh, hf⟩ | ⟨rfl, hh, hf⟩ | ⟨rfl, hh, hf⟩ | ⟨rfl, hh, hf⟩ | ⟨rfl, hh, hf⟩ | ⟨rfl, hh, hf⟩ | ⟨rfl, hh, hf⟩ | ⟨rfl, hh, hf⟩ | ⟨rfl, hh, hf⟩ | ⟨rfl, hh, hf⟩ | ⟨rfl, hh, hf⟩ | ⟨rfl, hh, hf⟩ | ⟨rfl, hh, hf⟩ | ⟨rfl, hh, hf⟩ | ⟨rfl, hh, hf⟩ | ⟨rfl, hh, hf⟩ | ⟨rfl, hh, hf⟩ | ⟨rfl, hh, hf⟩ | ⟨rfl, hh, hf⟩ | ⟨rfl, hh, hf⟩ | ⟨rfl, hh, hf⟩ | ⟨rfl, hh, hf⟩ | ⟨rfl, hh, hf⟩ | ⟨rfl, hh, hf⟩ | ⟨rfl, hh, hf⟩ | ⟨rfl, hh, hf⟩
  all_goals
   rw [hh, hf] at HH
   rw [hh] at c
   clear hh hf h0 h1
   go_enter Tryz.func180, Tryz.ntmps180
   go_wp2
   all_goals
    go_ret2
    exact ⟨ret2v (by have h := HH.out; simp only [wrap64]; omega) rfl, rfl⟩
 ·have Hn : nb n bits 2 = true := by unfold nb; rw [if_neg hg]; simp; omega
  have hl : 0 < half bits := by unfold half; exact Int.pow_pos (by decide)
  have H : nv n bits 2 = (n + half bits) % full bits - half bits := by unfold nv; rw [if_neg hg, if_neg (by omega), if_pos c]; rw [if_neg (by decide)]
  rw [Hn]
  have HH := Lib.hid H
  clear H Hn hg hl
  rcases widths bits h0 h1 with ⟨rfl, hh, hf⟩ | ⟨rfl, hh, hf⟩ | ⟨rfl, hh, hf⟩ | ⟨rfl, hh, hf⟩ | ⟨rfl, hh, hf⟩ | ⟨rfl, hh, hf⟩ | ⟨rfl, hh, hf⟩ | ⟨rfl, hh, hf⟩ | ⟨rfl, hh, hf⟩ | ⟨rfl, hh, hf⟩ | ⟨rfl, hh, hf⟩ | ⟨rfl, hh, hf⟩ | ⟨rfl, hh, hf⟩ | ⟨rfl, hh, hf⟩ | ⟨rfl, hh, hf⟩ | ⟨rfl, hh, hf⟩ | ⟨rfl, hh, hf⟩ | ⟨rfl, hh, hf⟩ | ⟨rfl, hh, hf⟩ | ⟨rfl, hh, hf⟩ | ⟨rfl, hh, hf⟩ | ⟨rfl, hh, hf⟩ | ⟨rfl, hh, hf⟩ | ⟨rfl, hh, hf⟩ | ⟨rfl, hh, hf⟩ | ⟨rfl, hh, hf⟩ | ⟨rfl, hh, hf⟩ | ⟨rfl, hh, hf⟩ | ⟨rfl, hh, hf⟩ | ⟨rfl, hh, hf⟩
  all_goals
   rw [hh, hf] at HH
   rw [hh] at c
   clear hh hf h0 h1
   go_enter Tryz.func180, Tryz.ntmps180
   go_wp2
   all_goals
    go_ret2
    exact ⟨ret2v (by have h := HH.out; simp only [wrap64]; omega) rfl, rfl⟩
 ·have Hn : nb n bits 2 = false := by unfold nb; rw [if_neg hg]; simp; omega
  have H : nv n bits 2 = n := by unfold nv; rw [if_neg hg, if_neg (by omega), if_neg (by omega)]
  rw [Hn]
  have HH := Lib.hid H
  clear H Hn hg
  rcases widths bits h0 h1 with ⟨rfl, hh, hf⟩ | ⟨rfl, hh, hf⟩ | ⟨rfl, hh, hf⟩ | ⟨rfl, hh, hf⟩ | ⟨rfl, hh, hf⟩ | ⟨rfl, hh, hf⟩ | ⟨rfl, hh, hf⟩ | ⟨rfl, hh, hf⟩ | ⟨rfl, hh, hf⟩ | ⟨rfl, hh, hf⟩ | ⟨rfl, hh, hf⟩ | ⟨rfl, hh, hf⟩ | ⟨rfl, hh, hf⟩ | ⟨rfl, hh, hf⟩ | ⟨rfl, hh, hf⟩ | ⟨rfl, hh, hf⟩ | ⟨rfl, hh, hf⟩ | ⟨rfl, hh, hf⟩ | ⟨rfl, hh, hf⟩ | ⟨rfl, hh, hf⟩ | ⟨rfl, hh, hf⟩ | ⟨rfl, hh, hf⟩ | ⟨rfl, hh, hf⟩ | ⟨rfl, hh, hf⟩ | ⟨rfl, hh, hf⟩ | ⟨rfl, hh, hf⟩ | ⟨rfl, hh, hf⟩ | ⟨rfl, hh, hf⟩ | ⟨rfl, hh, hf⟩ | ⟨rfl, hh, hf⟩
  all_goals
   rw [hh] at c c'
   clear hh hf h0 h1
   go_enter Tryz.func180, Tryz.ntmps180
   go_wp2
   all_goals
    go_ret2
    exact ⟨ret2v HH.out.symm rfl, rfl⟩
end Go.Proofs.YteaaikmejacpaaaGreatDoor.Nx


namespace Go.Proofs.YteaaikmejacpaaaGreatDoor.Nx
open Go.ChangeShapes Go.WideShapes Go.ChangeAt Go.RowKit
set_option linter.unusedVariables false
set_option linter.unusedSimpArgs false
theorem cnar_any (n bits over : Int) (w : World) (n0 : -9223372036854775808 <= n) (n1 : n <= 9223372036854775807) (h0 : -9223372036854775808 <= bits) (h1 : bits <= 9223372036854775807) :
  Calls Tryz.prog 180 #[.int .i64 n, .int .i64 bits, .int .i64 over] w fun e w' => e = .returned (.tuple #[.int .i64 (nv n bits over), .bool (nb n bits over)]) /\ w = w' := by
 by_cases hb : nbad bits over
 ·rw [show nv n bits over = 0 from by unfold nv; rw [if_pos hb], show nb n bits over = false from by unfold nb; rw [if_pos hb]]
  exact cnar_bad n bits over w h0 h1 hb
 ·have hb' := hb
  unfold nbad at hb'
  rcases (by omega : over = 1 \/ over = 2) with rfl | rfl
  ·exact cnar_1 n bits w n0 n1 (by omega) (by omega)
  ·exact cnar_2 n bits w n0 n1 (by omega) (by omega)
end Go.Proofs.YteaaikmejacpaaaGreatDoor.Nx


namespace Go.Proofs.YteaaikmejacpaaaGreatDoor.Fx
open Go.ChangeShapes Go.WideShapes Go.ChangeAt Go.RowKit
open Fr
set_option linter.unusedVariables false
set_option linter.unusedSimpArgs false
/-- The five cells of a type. -/
def TyAt (K B F R O : Int) (x : Nat) (w : World) : Prop := w.cell? ⟨x, 0, none⟩ = some (.int .i64 K) /\ w.cell? ⟨x, 1, none⟩ = some (.int .i64 B) /\ w.cell? ⟨x, 2, none⟩ = some (.int .i64 F) /\ w.cell? ⟨x, 3, none⟩ = some (.int .i64 R) /\ w.cell? ⟨x, 4, none⟩ = some (.int .i64 O)
theorem TyAt.keep {K B F R O : Int} {x : Nat} {y y' : World} (hy : Below y.heap.size y y') (hb : x < y.heap.size) (h : TyAt K B F R O x y) : TyAt K B F R O x y' :=
 ⟨Rg.keep hy hb h.1, Rg.keep hy hb h.2.1, Rg.keep hy hb h.2.2.1, Rg.keep hy hb h.2.2.2.1, Rg.keep hy hb h.2.2.2.2⟩
theorem TyAt.mk {K B F R O : Int} {x : Nat} {w : World} (h0 : w.cell? ⟨x, 0, none⟩ = some (.int .i64 K)) (h1 : w.cell? ⟨x, 1, none⟩ = some (.int .i64 B)) (h2 : w.cell? ⟨x, 2, none⟩ = some (.int .i64 F)) (h3 : w.cell? ⟨x, 3, none⟩ = some (.int .i64 R)) (h4 : w.cell? ⟨x, 4, none⟩ = some (.int .i64 O)) : TyAt K B F R O x w := ⟨h0, h1, h2, h3, h4⟩
abbrev Fo1 (x : Nat) : Value := .func (.func 178) #[] #[.pointer (some ⟨x, 0, none⟩)]
abbrev Fo2 (x : Nat) : Value := .func (.func 179) #[] #[.pointer (some ⟨x, 0, none⟩)]
set_option maxHeartbeats 4000000 in
theorem fo1 (K B F R O n d : Int) (x : Nat) (w : World) (h : TyAt K B F R O x w) (n0 : -9223372036854775808 <= n) (n1 : n <= 9223372036854775807) (b6 : -9223372036854775808 <= d) (b7 : d <= 9223372036854775807) :
  Calls Tryz.prog 178 #[.int .i64 n, .int .i64 d, .pointer (some ⟨x, 0, none⟩)] w (Val1 .i64 (Dv.dval R n d) w) := by
 obtain ⟨h0, h1, h2, h3, h4⟩ := h
 have D := Lib.hid fun w => Dv.div_any R n d w n0 n1 b6 b7
 generalize Dv.dval R n d = q at *
 go_enter Tryz.func178, Tryz.ntmps178
 go_wp2_with (go_at_call 153; refine (D.out _).mono ?_; rintro e w' ⟨rfl, k, rfl⟩)
 go_ret
 exact ⟨rfl, _, rfl⟩
set_option maxHeartbeats 4000000 in
theorem fo2 (K B F R O n : Int) (x : Nat) (w : World) (h : TyAt K B F R O x w) (n0 : -9223372036854775808 <= n) (n1 : n <= 9223372036854775807) (b6 : -9223372036854775808 <= B) (b7 : B <= 9223372036854775807) :
  Calls Tryz.prog 179 #[.int .i64 n, .pointer (some ⟨x, 0, none⟩)] w fun e w' => e = .returned (.int .i64 (Nx.nv n B O)) /\ w = w' := by
 obtain ⟨h0, h1, h2, h3, h4⟩ := h
 have D := Lib.hid fun w => Nx.cnar_any n B O w n0 n1 b6 b7
 generalize Nx.nv n B O = q at *
 generalize Nx.nb n B O = q' at *
 go_enter Tryz.func179, Tryz.ntmps179
 go_wp2_with (go_at_call 180; refine (D.out _).mono ?_; rintro e w' ⟨rfl, rfl⟩)
 go_ret
 exact ⟨rfl, rfl⟩
def FO (K B F R O p : Int) (w : World) (e : Ending) (w' : World) : Prop :=
 e = .returned (.agg #[Fo1 w.heap.size, Fo2 w.heap.size, .int .i64 p]) /\ Below w.heap.size w w' /\ w.heap.size < w'.heap.size /\ TyAt K B F R O w.heap.size w'
set_option maxHeartbeats 4000000 in
theorem fo_any (K B F R O p : Int) (w : World) (hp : (2 : Int) ^ F.toNat = p) (p0 : 1 <= p) (p1 : p <= 1073741824) (f0 : 0 <= F) (f1 : F <= 30) :
  Calls Tryz.prog 173 #[.agg #[.int .i64 K, .int .i64 B, .int .i64 F, .int .i64 R, .int .i64 O]] w (FO K B F R O p w) := by
 go_enter Tryz.func173, Tryz.ntmps173
 go_wp2
 refine bodyPost_ret (v := .agg #[Fo1 w.heap.size, Fo2 w.heap.size, .int .i64 p]) (by simp [results, Tryz.results173, go_sem]) rfl ⟨rfl, ?_, ?_, ?_, ?_, ?_, ?_, ?_⟩
 ·go_grown
 ·simp <;> omega
 all_goals go_cell
end Go.Proofs.YteaaikmejacpaaaGreatDoor.Fx


namespace Go.Proofs.YteaaikmejacpaaaGreatDoor.Fr
open Go.ChangeShapes Go.WideShapes Go.ChangeAt Go.RowKit
set_option linter.unusedVariables false
set_option linter.unusedSimpArgs false
/-- A fraction of a sign and two magnitudes, in lowest terms: numerator, denominator, error. -/
def lowN (neg : Bool) (n d : Int) : Int := if 2147483647 < n / Int.gcd n d \/ 2147483647 < d / Int.gcd n d then 0 else if neg then -(n / Int.gcd n d) else n / Int.gcd n d
def lowD (n d : Int) : Int := if 2147483647 < n / Int.gcd n d \/ 2147483647 < d / Int.gcd n d then 0 else d / Int.gcd n d
def lowE (n d : Int) : Int := if 2147483647 < n / Int.gcd n d \/ 2147483647 < d / Int.gcd n d then 3 else 0
abbrev Frac3 (a b c : Int) : Value := .tuple #[.agg #[.int .i64 a, .int .i64 b], .int .i64 c]
theorem gcd_facts (n d : Int) (hn : 0 <= n) (hd : 0 < d) : 0 < (Int.gcd n d : Int) /\ (Int.gcd n d : Int) <= d /\ 0 <= n / (Int.gcd n d : Int) /\ n / (Int.gcd n d : Int) <= n /\ 0 < d / (Int.gcd n d : Int) /\ d / (Int.gcd n d : Int) <= d := by
 have h1 : 0 < (Int.gcd n d : Int) := by
  have : Int.gcd n d ≠ 0 := by
   intro h; have := (Int.gcd_eq_zero_iff.1 h).2; omega
  omega
 have h2 : (Int.gcd n d : Int) ∣ d := Int.gcd_dvd_right n d
 have h3 := Int.le_of_dvd hd h2
 refine ⟨h1, h3, Int.ediv_nonneg hn (by omega), Int.ediv_le_self _ hn, ?_, Int.ediv_le_self _ (by omega)⟩
 obtain ⟨c, hc⟩ := h2
 have hq : d / (Int.gcd n d : Int) = c := by
  have h5 := congrArg (fun x => x / (Int.gcd n d : Int)) hc
  simpa [Int.mul_ediv_cancel_left _ (by omega : (Int.gcd n d : Int) ≠ 0)] using h5
 rw [hq]
 by_cases hc0 : 0 < c
 ·exact hc0
 ·have : (Int.gcd n d : Int) * c <= 0 := Int.mul_nonpos_of_nonneg_of_nonpos (by omega) (by omega)
  omega
set_option maxHeartbeats 4000000 in
theorem low_any (neg : Bool) (n d : Int) (w : World) (n0 : 0 <= n) (n1 : n <= 9223372036854775808) (d0 : 1 <= d) (d1 : d <= 9223372036854775808) :
  Calls Tryz.prog 172 #[.bool neg, .int .u64 n, .int .u64 d] w (Ret (Frac3 (lowN neg n d) (lowD n d) (lowE n d)) w) := by
 obtain ⟨g0, g1, q0, q1, r0, r1⟩ := gcd_facts n d n0 (by omega)
 obtain ⟨b, hb⟩ : ∃ b, decide (2147483647 < n / (Int.gcd n d : Int) \/ 2147483647 < d / (Int.gcd n d : Int)) = b := ⟨_, rfl⟩
 have HN : lowN neg n d = if b then 0 else if neg then -(n / (Int.gcd n d : Int)) else n / (Int.gcd n d : Int) := by unfold lowN; subst hb; simp
 have HD : lowD n d = if b then 0 else d / (Int.gcd n d : Int) := by unfold lowD; subst hb; simp
 have HE : lowE n d = if b then 3 else 0 := by unfold lowE; subst hb; simp
 rw [HN, HD, HE]
 clear HN HD HE
 obtain ⟨q, hq⟩ : ∃ q, n / (Int.gcd n d : Int) = q := ⟨_, rfl⟩
 obtain ⟨r, hr⟩ : ∃ r, d / (Int.gcd n d : Int) = r := ⟨_, rfl⟩
 rw [hq] at q0 q1 hb ⊢
 rw [hr] at r0 r1 hb ⊢
 have gz : ((Int.gcd n d : Int) == 0) = false := by simp; omega
 obtain ⟨x, y, hx, hy, hxy⟩ : ∃ x y, decide (2147483647 < q) = x /\ decide (2147483647 < r) = y /\ (x || y) = b := ⟨_, _, rfl, rfl, by rw [<- hb]; simp⟩
 clear hb
 have hx2 : x = false -> q <= 2147483647 := fun h => by rw [h] at hx; simpa using hx
 have hy2 : y = false -> r <= 2147483647 := fun h => by rw [h] at hy; simpa using hy
 cases x <;> cases y <;> simp only [Bool.or_false, Bool.or_true] at hxy <;> subst hxy
 all_goals cases neg
 all_goals
  try simp only [Bool.false_eq_true, ↓reduceIte]
  try have hx3 := hx2 rfl
  try have hy3 := hy2 rfl
  clear hx2 hy2
  go_enter Tryz.func172, Tryz.ntmps172
  go_wp2_with (go_at_call 109; refine (fgcd _ _ _ (by omega) (by omega) (by omega) (by omega)).mono ?_; rintro e w1 ⟨rfl, k, rfl⟩)
  go_quiet (fail)
  go_wp2
  go_returns
  refine ⟨rfl, ?_⟩
  repeat' (first | (with_reducible exact Below.refl _ _) | (with_reducible refine below_drewN ?_ _) | (with_reducible refine Below.drew ?_) | (with_reducible refine Below.alloc ?_ ?_ _) | (with_reducible refine Below.setCell ?_ ?_ _) | (with_reducible assumption) | (simp; done) | (simp; omega) | omega)
end Go.Proofs.YteaaikmejacpaaaGreatDoor.Fr


namespace Go.Proofs.YteaaikmejacpaaaGreatDoor.Fx
open Go.ChangeShapes Go.WideShapes Go.ChangeAt Go.RowKit
open Fr
set_option linter.unusedVariables false
set_option linter.unusedSimpArgs false
set_option maxHeartbeats 4000000 in
theorem add_any (K B F R O n0 d0 n1 d1 x y e : Int) (w : World) (CB : Hid (∀ w, Calls Tryz.prog 161 #[.agg #[.int .i64 K, .int .i64 B, .int .i64 F, .int .i64 R, .int .i64 O], .agg #[.int .i64 n0, .int .i64 d0], .agg #[.int .i64 n1, .int .i64 d1], .func (.func 162) #[] #[]] w (Ret (Frac3 x y e) w))) :
  Calls Tryz.prog 148 #[.agg #[.int .i64 K, .int .i64 B, .int .i64 F, .int .i64 R, .int .i64 O], .agg #[.int .i64 n0, .int .i64 d0], .agg #[.int .i64 n1, .int .i64 d1]] w (Ret (Frac3 x y e) w) := by
 go_enter Tryz.func148, Tryz.ntmps148
 go_wp2_with fail
 refine (CB.out _).mono ?_
 rintro e w1 ⟨rfl, hb⟩
 have L : Below w.heap.size w w1 := (((((Below.refl _ _).alloc (by simp <;> omega) _).alloc (by simp <;> omega) _).alloc (by simp <;> omega) _).alloc (by simp <;> omega) _).trans (hb.mono (by simp <;> omega))
 have K1 : Below w.heap.size w w1 := L
 have RF0 : w1.frozen? ⟨w.heap.size + 1 + 1 + 1, 0, none⟩ = false := Rg.keepF hb (by simp <;> omega) (by simp only [frozen?_alloc_cells]; exact Rg.notFrozen (by omega))
 have RF1 : w1.frozen? ⟨w.heap.size + 1 + 1 + 1, 1, none⟩ = false := Rg.keepF hb (by simp <;> omega) (by simp only [frozen?_alloc_cells]; exact Rg.notFrozen (by omega))
 have lt : w.heap.size < w1.heap.size := Nat.lt_of_lt_of_le (by simp <;> omega) hb.size
 have t0 : w1.cell? ⟨w.heap.size, 0, none⟩ = some (.int .i64 K) := Rg.keep hb (by simp <;> omega) (by go_cell)
 have t1 : w1.cell? ⟨w.heap.size, 1, none⟩ = some (.int .i64 B) := Rg.keep hb (by simp <;> omega) (by go_cell)
 have t2 : w1.cell? ⟨w.heap.size, 2, none⟩ = some (.int .i64 F) := Rg.keep hb (by simp <;> omega) (by go_cell)
 have t3 : w1.cell? ⟨w.heap.size, 3, none⟩ = some (.int .i64 R) := Rg.keep hb (by simp <;> omega) (by go_cell)
 have t4 : w1.cell? ⟨w.heap.size, 4, none⟩ = some (.int .i64 O) := Rg.keep hb (by simp <;> omega) (by go_cell)
 have la : w.heap.size + 1 < w1.heap.size := Nat.lt_of_lt_of_le (by simp <;> omega) hb.size
 have a0 : w1.cell? ⟨w.heap.size + 1, 0, none⟩ = some (.int .i64 n0) := Rg.keep hb (by simp <;> omega) (by go_cell)
 have a1 : w1.cell? ⟨w.heap.size + 1, 1, none⟩ = some (.int .i64 d0) := Rg.keep hb (by simp <;> omega) (by go_cell)
 have lb : w.heap.size + 1 + 1 < w1.heap.size := Nat.lt_of_lt_of_le (by simp <;> omega) hb.size
 have b0 : w1.cell? ⟨w.heap.size + 1 + 1, 0, none⟩ = some (.int .i64 n1) := Rg.keep hb (by simp <;> omega) (by go_cell)
 have b1 : w1.cell? ⟨w.heap.size + 1 + 1, 1, none⟩ = some (.int .i64 d1) := Rg.keep hb (by simp <;> omega) (by go_cell)
 have lr : w.heap.size + 1 + 1 + 1 < w1.heap.size := Nat.lt_of_lt_of_le (by simp <;> omega) hb.size
 have r0 : w1.cell? ⟨w.heap.size + 1 + 1 + 1, 0, none⟩ = some (.int .i64 0) := Rg.keep hb (by simp <;> omega) (by go_cell)
 have r1 : w1.cell? ⟨w.heap.size + 1 + 1 + 1, 1, none⟩ = some (.int .i64 0) := Rg.keep hb (by simp <;> omega) (by go_cell)
 clear hb L
 have hRC := (⟨⟨_, r0⟩, ⟨_, r1⟩, RF0, RF1⟩ : Rg.RC (w.heap.size + 1 + 1 + 1) w1)
 have z0 : w.heap.size <= w.heap.size + 1 + 1 + 1 := by omega
 go_wp2
 have f0 := Rg.RC.read00 (x := x) hRC
 have f1 := Rg.RC.read1 (x := x) (y := y) hRC
 refine bodyPost_ret (v := Frac3 (x) (y) (e)) (by simp [results, Tryz.results148, go_sem, f0, f1]) rfl ⟨rfl, ?_⟩
 exact Below.setCell (Below.setCell K1 z0 _) z0 _
set_option maxHeartbeats 4000000 in
theorem sub_any (K B F R O n0 d0 n1 d1 x y e : Int) (w : World) (CB : Hid (∀ w, Calls Tryz.prog 161 #[.agg #[.int .i64 K, .int .i64 B, .int .i64 F, .int .i64 R, .int .i64 O], .agg #[.int .i64 n0, .int .i64 d0], .agg #[.int .i64 n1, .int .i64 d1], .func (.func 163) #[] #[]] w (Ret (Frac3 x y e) w))) :
  Calls Tryz.prog 149 #[.agg #[.int .i64 K, .int .i64 B, .int .i64 F, .int .i64 R, .int .i64 O], .agg #[.int .i64 n0, .int .i64 d0], .agg #[.int .i64 n1, .int .i64 d1]] w (Ret (Frac3 x y e) w) := by
 go_enter Tryz.func149, Tryz.ntmps149
 go_wp2_with fail
 refine (CB.out _).mono ?_
 rintro e w1 ⟨rfl, hb⟩
 have L : Below w.heap.size w w1 := (((((Below.refl _ _).alloc (by simp <;> omega) _).alloc (by simp <;> omega) _).alloc (by simp <;> omega) _).alloc (by simp <;> omega) _).trans (hb.mono (by simp <;> omega))
 have K1 : Below w.heap.size w w1 := L
 have RF0 : w1.frozen? ⟨w.heap.size + 1 + 1 + 1, 0, none⟩ = false := Rg.keepF hb (by simp <;> omega) (by simp only [frozen?_alloc_cells]; exact Rg.notFrozen (by omega))
 have RF1 : w1.frozen? ⟨w.heap.size + 1 + 1 + 1, 1, none⟩ = false := Rg.keepF hb (by simp <;> omega) (by simp only [frozen?_alloc_cells]; exact Rg.notFrozen (by omega))
 have lt : w.heap.size < w1.heap.size := Nat.lt_of_lt_of_le (by simp <;> omega) hb.size
 have t0 : w1.cell? ⟨w.heap.size, 0, none⟩ = some (.int .i64 K) := Rg.keep hb (by simp <;> omega) (by go_cell)
 have t1 : w1.cell? ⟨w.heap.size, 1, none⟩ = some (.int .i64 B) := Rg.keep hb (by simp <;> omega) (by go_cell)
 have t2 : w1.cell? ⟨w.heap.size, 2, none⟩ = some (.int .i64 F) := Rg.keep hb (by simp <;> omega) (by go_cell)
 have t3 : w1.cell? ⟨w.heap.size, 3, none⟩ = some (.int .i64 R) := Rg.keep hb (by simp <;> omega) (by go_cell)
 have t4 : w1.cell? ⟨w.heap.size, 4, none⟩ = some (.int .i64 O) := Rg.keep hb (by simp <;> omega) (by go_cell)
 have la : w.heap.size + 1 < w1.heap.size := Nat.lt_of_lt_of_le (by simp <;> omega) hb.size
 have a0 : w1.cell? ⟨w.heap.size + 1, 0, none⟩ = some (.int .i64 n0) := Rg.keep hb (by simp <;> omega) (by go_cell)
 have a1 : w1.cell? ⟨w.heap.size + 1, 1, none⟩ = some (.int .i64 d0) := Rg.keep hb (by simp <;> omega) (by go_cell)
 have lb : w.heap.size + 1 + 1 < w1.heap.size := Nat.lt_of_lt_of_le (by simp <;> omega) hb.size
 have b0 : w1.cell? ⟨w.heap.size + 1 + 1, 0, none⟩ = some (.int .i64 n1) := Rg.keep hb (by simp <;> omega) (by go_cell)
 have b1 : w1.cell? ⟨w.heap.size + 1 + 1, 1, none⟩ = some (.int .i64 d1) := Rg.keep hb (by simp <;> omega) (by go_cell)
 have lr : w.heap.size + 1 + 1 + 1 < w1.heap.size := Nat.lt_of_lt_of_le (by simp <;> omega) hb.size
 have r0 : w1.cell? ⟨w.heap.size + 1 + 1 + 1, 0, none⟩ = some (.int .i64 0) := Rg.keep hb (by simp <;> omega) (by go_cell)
 have r1 : w1.cell? ⟨w.heap.size + 1 + 1 + 1, 1, none⟩ = some (.int .i64 0) := Rg.keep hb (by simp <;> omega) (by go_cell)
 clear hb L
 have hRC := (⟨⟨_, r0⟩, ⟨_, r1⟩, RF0, RF1⟩ : Rg.RC (w.heap.size + 1 + 1 + 1) w1)
 have z0 : w.heap.size <= w.heap.size + 1 + 1 + 1 := by omega
 go_wp2
 have f0 := Rg.RC.read00 (x := x) hRC
 have f1 := Rg.RC.read1 (x := x) (y := y) hRC
 refine bodyPost_ret (v := Frac3 (x) (y) (e)) (by simp [results, Tryz.results149, go_sem, f0, f1]) rfl ⟨rfl, ?_⟩
 exact Below.setCell (Below.setCell K1 z0 _) z0 _
set_option maxHeartbeats 4000000 in
theorem mul_any (K B F R O n0 d0 n1 d1 x y e : Int) (w : World) (CB : Hid (∀ w, Calls Tryz.prog 161 #[.agg #[.int .i64 K, .int .i64 B, .int .i64 F, .int .i64 R, .int .i64 O], .agg #[.int .i64 n0, .int .i64 d0], .agg #[.int .i64 n1, .int .i64 d1], .func (.func 164) #[] #[]] w (Ret (Frac3 x y e) w))) :
  Calls Tryz.prog 150 #[.agg #[.int .i64 K, .int .i64 B, .int .i64 F, .int .i64 R, .int .i64 O], .agg #[.int .i64 n0, .int .i64 d0], .agg #[.int .i64 n1, .int .i64 d1]] w (Ret (Frac3 x y e) w) := by
 go_enter Tryz.func150, Tryz.ntmps150
 go_wp2_with fail
 refine (CB.out _).mono ?_
 rintro e w1 ⟨rfl, hb⟩
 have L : Below w.heap.size w w1 := (((((Below.refl _ _).alloc (by simp <;> omega) _).alloc (by simp <;> omega) _).alloc (by simp <;> omega) _).alloc (by simp <;> omega) _).trans (hb.mono (by simp <;> omega))
 have K1 : Below w.heap.size w w1 := L
 have RF0 : w1.frozen? ⟨w.heap.size + 1 + 1 + 1, 0, none⟩ = false := Rg.keepF hb (by simp <;> omega) (by simp only [frozen?_alloc_cells]; exact Rg.notFrozen (by omega))
 have RF1 : w1.frozen? ⟨w.heap.size + 1 + 1 + 1, 1, none⟩ = false := Rg.keepF hb (by simp <;> omega) (by simp only [frozen?_alloc_cells]; exact Rg.notFrozen (by omega))
 have lt : w.heap.size < w1.heap.size := Nat.lt_of_lt_of_le (by simp <;> omega) hb.size
 have t0 : w1.cell? ⟨w.heap.size, 0, none⟩ = some (.int .i64 K) := Rg.keep hb (by simp <;> omega) (by go_cell)
 have t1 : w1.cell? ⟨w.heap.size, 1, none⟩ = some (.int .i64 B) := Rg.keep hb (by simp <;> omega) (by go_cell)
 have t2 : w1.cell? ⟨w.heap.size, 2, none⟩ = some (.int .i64 F) := Rg.keep hb (by simp <;> omega) (by go_cell)
 have t3 : w1.cell? ⟨w.heap.size, 3, none⟩ = some (.int .i64 R) := Rg.keep hb (by simp <;> omega) (by go_cell)
 have t4 : w1.cell? ⟨w.heap.size, 4, none⟩ = some (.int .i64 O) := Rg.keep hb (by simp <;> omega) (by go_cell)
 have la : w.heap.size + 1 < w1.heap.size := Nat.lt_of_lt_of_le (by simp <;> omega) hb.size
 have a0 : w1.cell? ⟨w.heap.size + 1, 0, none⟩ = some (.int .i64 n0) := Rg.keep hb (by simp <;> omega) (by go_cell)
 have a1 : w1.cell? ⟨w.heap.size + 1, 1, none⟩ = some (.int .i64 d0) := Rg.keep hb (by simp <;> omega) (by go_cell)
 have lb : w.heap.size + 1 + 1 < w1.heap.size := Nat.lt_of_lt_of_le (by simp <;> omega) hb.size
 have b0 : w1.cell? ⟨w.heap.size + 1 + 1, 0, none⟩ = some (.int .i64 n1) := Rg.keep hb (by simp <;> omega) (by go_cell)
 have b1 : w1.cell? ⟨w.heap.size + 1 + 1, 1, none⟩ = some (.int .i64 d1) := Rg.keep hb (by simp <;> omega) (by go_cell)
 have lr : w.heap.size + 1 + 1 + 1 < w1.heap.size := Nat.lt_of_lt_of_le (by simp <;> omega) hb.size
 have r0 : w1.cell? ⟨w.heap.size + 1 + 1 + 1, 0, none⟩ = some (.int .i64 0) := Rg.keep hb (by simp <;> omega) (by go_cell)
 have r1 : w1.cell? ⟨w.heap.size + 1 + 1 + 1, 1, none⟩ = some (.int .i64 0) := Rg.keep hb (by simp <;> omega) (by go_cell)
 clear hb L
 have hRC := (⟨⟨_, r0⟩, ⟨_, r1⟩, RF0, RF1⟩ : Rg.RC (w.heap.size + 1 + 1 + 1) w1)
 have z0 : w.heap.size <= w.heap.size + 1 + 1 + 1 := by omega
 go_wp2
 have f0 := Rg.RC.read00 (x := x) hRC
 have f1 := Rg.RC.read1 (x := x) (y := y) hRC
 refine bodyPost_ret (v := Frac3 (x) (y) (e)) (by simp [results, Tryz.results150, go_sem, f0, f1]) rfl ⟨rfl, ?_⟩
 exact Below.setCell (Below.setCell K1 z0 _) z0 _
set_option maxHeartbeats 4000000 in
theorem neg_any (K B F R O n0 d0 x y e : Int) (w : World) (CB : Hid (∀ w, Calls Tryz.prog 161 #[.agg #[.int .i64 K, .int .i64 B, .int .i64 F, .int .i64 R, .int .i64 O], .agg #[.int .i64 n0, .int .i64 d0], .agg #[.int .i64 n0, .int .i64 d0], .func (.func 167) #[] #[]] w (Ret (Frac3 x y e) w))) :
  Calls Tryz.prog 152 #[.agg #[.int .i64 K, .int .i64 B, .int .i64 F, .int .i64 R, .int .i64 O], .agg #[.int .i64 n0, .int .i64 d0]] w (Ret (Frac3 x y e) w) := by
 go_enter Tryz.func152, Tryz.ntmps152
 go_wp2_with fail
 refine (CB.out _).mono ?_
 rintro e w1 ⟨rfl, hb⟩
 have L : Below w.heap.size w w1 := ((((Below.refl _ _).alloc (by simp <;> omega) _).alloc (by simp <;> omega) _).alloc (by simp <;> omega) _).trans (hb.mono (by simp <;> omega))
 have K1 : Below w.heap.size w w1 := L
 have RF0 : w1.frozen? ⟨w.heap.size + 1 + 1, 0, none⟩ = false := Rg.keepF hb (by simp <;> omega) (by simp only [frozen?_alloc_cells]; exact Rg.notFrozen (by omega))
 have RF1 : w1.frozen? ⟨w.heap.size + 1 + 1, 1, none⟩ = false := Rg.keepF hb (by simp <;> omega) (by simp only [frozen?_alloc_cells]; exact Rg.notFrozen (by omega))
 have lt : w.heap.size < w1.heap.size := Nat.lt_of_lt_of_le (by simp <;> omega) hb.size
 have t0 : w1.cell? ⟨w.heap.size, 0, none⟩ = some (.int .i64 K) := Rg.keep hb (by simp <;> omega) (by go_cell)
 have t1 : w1.cell? ⟨w.heap.size, 1, none⟩ = some (.int .i64 B) := Rg.keep hb (by simp <;> omega) (by go_cell)
 have t2 : w1.cell? ⟨w.heap.size, 2, none⟩ = some (.int .i64 F) := Rg.keep hb (by simp <;> omega) (by go_cell)
 have t3 : w1.cell? ⟨w.heap.size, 3, none⟩ = some (.int .i64 R) := Rg.keep hb (by simp <;> omega) (by go_cell)
 have t4 : w1.cell? ⟨w.heap.size, 4, none⟩ = some (.int .i64 O) := Rg.keep hb (by simp <;> omega) (by go_cell)
 have la : w.heap.size + 1 < w1.heap.size := Nat.lt_of_lt_of_le (by simp <;> omega) hb.size
 have a0 : w1.cell? ⟨w.heap.size + 1, 0, none⟩ = some (.int .i64 n0) := Rg.keep hb (by simp <;> omega) (by go_cell)
 have a1 : w1.cell? ⟨w.heap.size + 1, 1, none⟩ = some (.int .i64 d0) := Rg.keep hb (by simp <;> omega) (by go_cell)
 have lr : w.heap.size + 1 + 1 < w1.heap.size := Nat.lt_of_lt_of_le (by simp <;> omega) hb.size
 have r0 : w1.cell? ⟨w.heap.size + 1 + 1, 0, none⟩ = some (.int .i64 0) := Rg.keep hb (by simp <;> omega) (by go_cell)
 have r1 : w1.cell? ⟨w.heap.size + 1 + 1, 1, none⟩ = some (.int .i64 0) := Rg.keep hb (by simp <;> omega) (by go_cell)
 clear hb L
 have hRC := (⟨⟨_, r0⟩, ⟨_, r1⟩, RF0, RF1⟩ : Rg.RC (w.heap.size + 1 + 1) w1)
 have z0 : w.heap.size <= w.heap.size + 1 + 1 := by omega
 go_wp2
 have f0 := Rg.RC.read00 (x := x) hRC
 have f1 := Rg.RC.read1 (x := x) (y := y) hRC
 refine bodyPost_ret (v := Frac3 (x) (y) (e)) (by simp [results, Tryz.results152, go_sem, f0, f1]) rfl ⟨rfl, ?_⟩
 exact Below.setCell (Below.setCell K1 z0 _) z0 _
set_option maxHeartbeats 4000000 in
theorem div_zero (K B F R O n0 d0 n1 d1 x y e c : Int) (w : World) (hz : (n1 == 0) = true) (CH : Hid (∀ (w : World) (x : Nat), x < w.heap.size -> w.cell? ⟨x, 0, none⟩ = some (.int .i64 n0) -> w.cell? ⟨x, 1, none⟩ = some (.int .i64 d0) -> w.cell? ⟨x, 2, none⟩ = some (.int .i64 n1) -> w.cell? ⟨x, 3, none⟩ = some (.int .i64 d1) ->
   Calls Tryz.prog 165 #[.agg #[.int .i64 K, .int .i64 B, .int .i64 F, .int .i64 R, .int .i64 O], .slice (some ⟨x, 0, none⟩) 2 2] w (Ret (.int .i64 0) w)))  :
  Calls Tryz.prog 151 #[.agg #[.int .i64 K, .int .i64 B, .int .i64 F, .int .i64 R, .int .i64 O], .agg #[.int .i64 n0, .int .i64 d0], .agg #[.int .i64 n1, .int .i64 d1]] w (Ret (Frac3 0 0 4) w) := by
 go_enter Tryz.func151, Tryz.ntmps151
 go_wp2_with fail
 refine (CH.out _ _ (by simp <;> omega) (by go_cell) (by go_cell) (by go_cell) (by go_cell)).mono ?_
 rintro e w1 ⟨rfl, hb⟩
 have L : Below w.heap.size w w1 := ((((((Below.refl _ _).alloc (by simp <;> omega) _).alloc (by simp <;> omega) _).alloc (by simp <;> omega) _).alloc (by simp <;> omega) _).alloc (by simp <;> omega) _).trans (hb.mono (by simp <;> omega))
 have K1 : Below w.heap.size w w1 := L
 have RF0 : w1.frozen? ⟨w.heap.size + 1 + 1 + 1, 0, none⟩ = false := Rg.keepF hb (by simp <;> omega) (by simp only [frozen?_alloc_cells]; exact Rg.notFrozen (by omega))
 have RF1 : w1.frozen? ⟨w.heap.size + 1 + 1 + 1, 1, none⟩ = false := Rg.keepF hb (by simp <;> omega) (by simp only [frozen?_alloc_cells]; exact Rg.notFrozen (by omega))
 have lt : w.heap.size < w1.heap.size := Nat.lt_of_lt_of_le (by simp <;> omega) hb.size
 have t0 : w1.cell? ⟨w.heap.size, 0, none⟩ = some (.int .i64 K) := Rg.keep hb (by simp <;> omega) (by go_cell)
 have t1 : w1.cell? ⟨w.heap.size, 1, none⟩ = some (.int .i64 B) := Rg.keep hb (by simp <;> omega) (by go_cell)
 have t2 : w1.cell? ⟨w.heap.size, 2, none⟩ = some (.int .i64 F) := Rg.keep hb (by simp <;> omega) (by go_cell)
 have t3 : w1.cell? ⟨w.heap.size, 3, none⟩ = some (.int .i64 R) := Rg.keep hb (by simp <;> omega) (by go_cell)
 have t4 : w1.cell? ⟨w.heap.size, 4, none⟩ = some (.int .i64 O) := Rg.keep hb (by simp <;> omega) (by go_cell)
 have la : w.heap.size + 1 < w1.heap.size := Nat.lt_of_lt_of_le (by simp <;> omega) hb.size
 have a0 : w1.cell? ⟨w.heap.size + 1, 0, none⟩ = some (.int .i64 n0) := Rg.keep hb (by simp <;> omega) (by go_cell)
 have a1 : w1.cell? ⟨w.heap.size + 1, 1, none⟩ = some (.int .i64 d0) := Rg.keep hb (by simp <;> omega) (by go_cell)
 have lb : w.heap.size + 1 + 1 < w1.heap.size := Nat.lt_of_lt_of_le (by simp <;> omega) hb.size
 have b0 : w1.cell? ⟨w.heap.size + 1 + 1, 0, none⟩ = some (.int .i64 n1) := Rg.keep hb (by simp <;> omega) (by go_cell)
 have b1 : w1.cell? ⟨w.heap.size + 1 + 1, 1, none⟩ = some (.int .i64 d1) := Rg.keep hb (by simp <;> omega) (by go_cell)
 have lr : w.heap.size + 1 + 1 + 1 < w1.heap.size := Nat.lt_of_lt_of_le (by simp <;> omega) hb.size
 have r0 : w1.cell? ⟨w.heap.size + 1 + 1 + 1, 0, none⟩ = some (.int .i64 0) := Rg.keep hb (by simp <;> omega) (by go_cell)
 have r1 : w1.cell? ⟨w.heap.size + 1 + 1 + 1, 1, none⟩ = some (.int .i64 0) := Rg.keep hb (by simp <;> omega) (by go_cell)
 have ls : w.heap.size + 1 + 1 + 1 + 1 < w1.heap.size := Nat.lt_of_lt_of_le (by simp <;> omega) hb.size
 have s0 : w1.cell? ⟨w.heap.size + 1 + 1 + 1 + 1, 0, none⟩ = some (.int .i64 n0) := Rg.keep hb (by simp <;> omega) (by go_cell)
 have s1 : w1.cell? ⟨w.heap.size + 1 + 1 + 1 + 1, 1, none⟩ = some (.int .i64 d0) := Rg.keep hb (by simp <;> omega) (by go_cell)
 have s2 : w1.cell? ⟨w.heap.size + 1 + 1 + 1 + 1, 2, none⟩ = some (.int .i64 n1) := Rg.keep hb (by simp <;> omega) (by go_cell)
 have s3 : w1.cell? ⟨w.heap.size + 1 + 1 + 1 + 1, 3, none⟩ = some (.int .i64 d1) := Rg.keep hb (by simp <;> omega) (by go_cell)
 clear hb L
 clear s0 s1 s2 s3
 have hRC := (⟨⟨_, r0⟩, ⟨_, r1⟩, RF0, RF1⟩ : Rg.RC (w.heap.size + 1 + 1 + 1) w1)
 have z0 : w.heap.size <= w.heap.size + 1 + 1 + 1 := by omega
 go_wp2
 have f0 := Rg.RC.read00 (x := 0) hRC
 have f1 := Rg.RC.read1 (x := 0) (y := 0) hRC
 refine bodyPost_ret (v := Frac3 (0) (0) (4)) (by simp [results, Tryz.results151, go_sem, f0, f1]) rfl ⟨rfl, ?_⟩
 exact Below.setCell (Below.setCell K1 z0 _) z0 _
set_option maxHeartbeats 4000000 in
theorem div_bad (K B F R O n0 d0 n1 d1 x y e c : Int) (w : World) (hc : (c == 0) = false) (CH : Hid (∀ (w : World) (x : Nat), x < w.heap.size -> w.cell? ⟨x, 0, none⟩ = some (.int .i64 n0) -> w.cell? ⟨x, 1, none⟩ = some (.int .i64 d0) -> w.cell? ⟨x, 2, none⟩ = some (.int .i64 n1) -> w.cell? ⟨x, 3, none⟩ = some (.int .i64 d1) ->
   Calls Tryz.prog 165 #[.agg #[.int .i64 K, .int .i64 B, .int .i64 F, .int .i64 R, .int .i64 O], .slice (some ⟨x, 0, none⟩) 2 2] w (Ret (.int .i64 c) w))) (CB : Hid (∀ w, Calls Tryz.prog 161 #[.agg #[.int .i64 K, .int .i64 B, .int .i64 F, .int .i64 R, .int .i64 O], .agg #[.int .i64 n0, .int .i64 d0], .agg #[.int .i64 n1, .int .i64 d1], .func (.func 166) #[] #[]] w (Ret (Frac3 x y e) w))) :
  Calls Tryz.prog 151 #[.agg #[.int .i64 K, .int .i64 B, .int .i64 F, .int .i64 R, .int .i64 O], .agg #[.int .i64 n0, .int .i64 d0], .agg #[.int .i64 n1, .int .i64 d1]] w (Ret (Frac3 x y e) w) := by
 go_enter Tryz.func151, Tryz.ntmps151
 go_wp2_with fail
 refine (CH.out _ _ (by simp <;> omega) (by go_cell) (by go_cell) (by go_cell) (by go_cell)).mono ?_
 rintro e w1 ⟨rfl, hb⟩
 have L : Below w.heap.size w w1 := ((((((Below.refl _ _).alloc (by simp <;> omega) _).alloc (by simp <;> omega) _).alloc (by simp <;> omega) _).alloc (by simp <;> omega) _).alloc (by simp <;> omega) _).trans (hb.mono (by simp <;> omega))
 have K1 : Below w.heap.size w w1 := L
 have RF0 : w1.frozen? ⟨w.heap.size + 1 + 1 + 1, 0, none⟩ = false := Rg.keepF hb (by simp <;> omega) (by simp only [frozen?_alloc_cells]; exact Rg.notFrozen (by omega))
 have RF1 : w1.frozen? ⟨w.heap.size + 1 + 1 + 1, 1, none⟩ = false := Rg.keepF hb (by simp <;> omega) (by simp only [frozen?_alloc_cells]; exact Rg.notFrozen (by omega))
 have lt : w.heap.size < w1.heap.size := Nat.lt_of_lt_of_le (by simp <;> omega) hb.size
 have t0 : w1.cell? ⟨w.heap.size, 0, none⟩ = some (.int .i64 K) := Rg.keep hb (by simp <;> omega) (by go_cell)
 have t1 : w1.cell? ⟨w.heap.size, 1, none⟩ = some (.int .i64 B) := Rg.keep hb (by simp <;> omega) (by go_cell)
 have t2 : w1.cell? ⟨w.heap.size, 2, none⟩ = some (.int .i64 F) := Rg.keep hb (by simp <;> omega) (by go_cell)
 have t3 : w1.cell? ⟨w.heap.size, 3, none⟩ = some (.int .i64 R) := Rg.keep hb (by simp <;> omega) (by go_cell)
 have t4 : w1.cell? ⟨w.heap.size, 4, none⟩ = some (.int .i64 O) := Rg.keep hb (by simp <;> omega) (by go_cell)
 have la : w.heap.size + 1 < w1.heap.size := Nat.lt_of_lt_of_le (by simp <;> omega) hb.size
 have a0 : w1.cell? ⟨w.heap.size + 1, 0, none⟩ = some (.int .i64 n0) := Rg.keep hb (by simp <;> omega) (by go_cell)
 have a1 : w1.cell? ⟨w.heap.size + 1, 1, none⟩ = some (.int .i64 d0) := Rg.keep hb (by simp <;> omega) (by go_cell)
 have lb : w.heap.size + 1 + 1 < w1.heap.size := Nat.lt_of_lt_of_le (by simp <;> omega) hb.size
 have b0 : w1.cell? ⟨w.heap.size + 1 + 1, 0, none⟩ = some (.int .i64 n1) := Rg.keep hb (by simp <;> omega) (by go_cell)
 have b1 : w1.cell? ⟨w.heap.size + 1 + 1, 1, none⟩ = some (.int .i64 d1) := Rg.keep hb (by simp <;> omega) (by go_cell)
 have lr : w.heap.size + 1 + 1 + 1 < w1.heap.size := Nat.lt_of_lt_of_le (by simp <;> omega) hb.size
 have r0 : w1.cell? ⟨w.heap.size + 1 + 1 + 1, 0, none⟩ = some (.int .i64 0) := Rg.keep hb (by simp <;> omega) (by go_cell)
 have r1 : w1.cell? ⟨w.heap.size + 1 + 1 + 1, 1, none⟩ = some (.int .i64 0) := Rg.keep hb (by simp <;> omega) (by go_cell)
 have ls : w.heap.size + 1 + 1 + 1 + 1 < w1.heap.size := Nat.lt_of_lt_of_le (by simp <;> omega) hb.size
 have s0 : w1.cell? ⟨w.heap.size + 1 + 1 + 1 + 1, 0, none⟩ = some (.int .i64 n0) := Rg.keep hb (by simp <;> omega) (by go_cell)
 have s1 : w1.cell? ⟨w.heap.size + 1 + 1 + 1 + 1, 1, none⟩ = some (.int .i64 d0) := Rg.keep hb (by simp <;> omega) (by go_cell)
 have s2 : w1.cell? ⟨w.heap.size + 1 + 1 + 1 + 1, 2, none⟩ = some (.int .i64 n1) := Rg.keep hb (by simp <;> omega) (by go_cell)
 have s3 : w1.cell? ⟨w.heap.size + 1 + 1 + 1 + 1, 3, none⟩ = some (.int .i64 d1) := Rg.keep hb (by simp <;> omega) (by go_cell)
 clear hb L
 clear s0 s1 s2 s3
 go_wp2_with fail
 refine (CB.out _).mono ?_
 rintro e w2 ⟨rfl, hb⟩
 have L : Below w1.heap.size w1 w2 := (Below.refl _ _).trans (hb.mono (by simp <;> omega))
 have K2 : Below w.heap.size w w2 := K1.trans (L.mono K1.size)
 have RF0 := Rg.keepF L lr RF0
 have RF1 := Rg.keepF L lr RF1
 have t0 := Rg.keep L lt t0
 have t1 := Rg.keep L lt t1
 have t2 := Rg.keep L lt t2
 have t3 := Rg.keep L lt t3
 have t4 := Rg.keep L lt t4
 have a0 := Rg.keep L la a0
 have a1 := Rg.keep L la a1
 have b0 := Rg.keep L lb b0
 have b1 := Rg.keep L lb b1
 have r0 := Rg.keep L lr r0
 have r1 := Rg.keep L lr r1
 have lt := Nat.lt_of_lt_of_le lt L.size
 have la := Nat.lt_of_lt_of_le la L.size
 have lb := Nat.lt_of_lt_of_le lb L.size
 have lr := Nat.lt_of_lt_of_le lr L.size
 have ls := Nat.lt_of_lt_of_le ls L.size
 clear hb L
 have hRC := (⟨⟨_, r0⟩, ⟨_, r1⟩, RF0, RF1⟩ : Rg.RC (w.heap.size + 1 + 1 + 1) w2)
 have z0 : w.heap.size <= w.heap.size + 1 + 1 + 1 := by omega
 go_wp2
 have f0 := Rg.RC.read00 (x := x) hRC
 have f1 := Rg.RC.read1 (x := x) (y := y) hRC
 refine bodyPost_ret (v := Frac3 (x) (y) (e)) (by simp [results, Tryz.results151, go_sem, f0, f1]) rfl ⟨rfl, ?_⟩
 exact Below.setCell (Below.setCell K2 z0 _) z0 _
set_option maxHeartbeats 4000000 in
theorem div_go (K B F R O n0 d0 n1 d1 x y e c : Int) (w : World) (hz : (n1 == 0) = false) (CH : Hid (∀ (w : World) (x : Nat), x < w.heap.size -> w.cell? ⟨x, 0, none⟩ = some (.int .i64 n0) -> w.cell? ⟨x, 1, none⟩ = some (.int .i64 d0) -> w.cell? ⟨x, 2, none⟩ = some (.int .i64 n1) -> w.cell? ⟨x, 3, none⟩ = some (.int .i64 d1) ->
   Calls Tryz.prog 165 #[.agg #[.int .i64 K, .int .i64 B, .int .i64 F, .int .i64 R, .int .i64 O], .slice (some ⟨x, 0, none⟩) 2 2] w (Ret (.int .i64 0) w))) (CB : Hid (∀ w, Calls Tryz.prog 161 #[.agg #[.int .i64 K, .int .i64 B, .int .i64 F, .int .i64 R, .int .i64 O], .agg #[.int .i64 n0, .int .i64 d0], .agg #[.int .i64 n1, .int .i64 d1], .func (.func 166) #[] #[]] w (Ret (Frac3 x y e) w))) :
  Calls Tryz.prog 151 #[.agg #[.int .i64 K, .int .i64 B, .int .i64 F, .int .i64 R, .int .i64 O], .agg #[.int .i64 n0, .int .i64 d0], .agg #[.int .i64 n1, .int .i64 d1]] w (Ret (Frac3 x y e) w) := by
 go_enter Tryz.func151, Tryz.ntmps151
 go_wp2_with fail
 refine (CH.out _ _ (by simp <;> omega) (by go_cell) (by go_cell) (by go_cell) (by go_cell)).mono ?_
 rintro e w1 ⟨rfl, hb⟩
 have L : Below w.heap.size w w1 := ((((((Below.refl _ _).alloc (by simp <;> omega) _).alloc (by simp <;> omega) _).alloc (by simp <;> omega) _).alloc (by simp <;> omega) _).alloc (by simp <;> omega) _).trans (hb.mono (by simp <;> omega))
 have K1 : Below w.heap.size w w1 := L
 have RF0 : w1.frozen? ⟨w.heap.size + 1 + 1 + 1, 0, none⟩ = false := Rg.keepF hb (by simp <;> omega) (by simp only [frozen?_alloc_cells]; exact Rg.notFrozen (by omega))
 have RF1 : w1.frozen? ⟨w.heap.size + 1 + 1 + 1, 1, none⟩ = false := Rg.keepF hb (by simp <;> omega) (by simp only [frozen?_alloc_cells]; exact Rg.notFrozen (by omega))
 have lt : w.heap.size < w1.heap.size := Nat.lt_of_lt_of_le (by simp <;> omega) hb.size
 have t0 : w1.cell? ⟨w.heap.size, 0, none⟩ = some (.int .i64 K) := Rg.keep hb (by simp <;> omega) (by go_cell)
 have t1 : w1.cell? ⟨w.heap.size, 1, none⟩ = some (.int .i64 B) := Rg.keep hb (by simp <;> omega) (by go_cell)
 have t2 : w1.cell? ⟨w.heap.size, 2, none⟩ = some (.int .i64 F) := Rg.keep hb (by simp <;> omega) (by go_cell)
 have t3 : w1.cell? ⟨w.heap.size, 3, none⟩ = some (.int .i64 R) := Rg.keep hb (by simp <;> omega) (by go_cell)
 have t4 : w1.cell? ⟨w.heap.size, 4, none⟩ = some (.int .i64 O) := Rg.keep hb (by simp <;> omega) (by go_cell)
 have la : w.heap.size + 1 < w1.heap.size := Nat.lt_of_lt_of_le (by simp <;> omega) hb.size
 have a0 : w1.cell? ⟨w.heap.size + 1, 0, none⟩ = some (.int .i64 n0) := Rg.keep hb (by simp <;> omega) (by go_cell)
 have a1 : w1.cell? ⟨w.heap.size + 1, 1, none⟩ = some (.int .i64 d0) := Rg.keep hb (by simp <;> omega) (by go_cell)
 have lb : w.heap.size + 1 + 1 < w1.heap.size := Nat.lt_of_lt_of_le (by simp <;> omega) hb.size
 have b0 : w1.cell? ⟨w.heap.size + 1 + 1, 0, none⟩ = some (.int .i64 n1) := Rg.keep hb (by simp <;> omega) (by go_cell)
 have b1 : w1.cell? ⟨w.heap.size + 1 + 1, 1, none⟩ = some (.int .i64 d1) := Rg.keep hb (by simp <;> omega) (by go_cell)
 have lr : w.heap.size + 1 + 1 + 1 < w1.heap.size := Nat.lt_of_lt_of_le (by simp <;> omega) hb.size
 have r0 : w1.cell? ⟨w.heap.size + 1 + 1 + 1, 0, none⟩ = some (.int .i64 0) := Rg.keep hb (by simp <;> omega) (by go_cell)
 have r1 : w1.cell? ⟨w.heap.size + 1 + 1 + 1, 1, none⟩ = some (.int .i64 0) := Rg.keep hb (by simp <;> omega) (by go_cell)
 have ls : w.heap.size + 1 + 1 + 1 + 1 < w1.heap.size := Nat.lt_of_lt_of_le (by simp <;> omega) hb.size
 have s0 : w1.cell? ⟨w.heap.size + 1 + 1 + 1 + 1, 0, none⟩ = some (.int .i64 n0) := Rg.keep hb (by simp <;> omega) (by go_cell)
 have s1 : w1.cell? ⟨w.heap.size + 1 + 1 + 1 + 1, 1, none⟩ = some (.int .i64 d0) := Rg.keep hb (by simp <;> omega) (by go_cell)
 have s2 : w1.cell? ⟨w.heap.size + 1 + 1 + 1 + 1, 2, none⟩ = some (.int .i64 n1) := Rg.keep hb (by simp <;> omega) (by go_cell)
 have s3 : w1.cell? ⟨w.heap.size + 1 + 1 + 1 + 1, 3, none⟩ = some (.int .i64 d1) := Rg.keep hb (by simp <;> omega) (by go_cell)
 clear hb L
 clear s0 s1 s2 s3
 go_wp2_with fail
 refine (CB.out _).mono ?_
 rintro e w2 ⟨rfl, hb⟩
 have L : Below w1.heap.size w1 w2 := (Below.refl _ _).trans (hb.mono (by simp <;> omega))
 have K2 : Below w.heap.size w w2 := K1.trans (L.mono K1.size)
 have RF0 := Rg.keepF L lr RF0
 have RF1 := Rg.keepF L lr RF1
 have t0 := Rg.keep L lt t0
 have t1 := Rg.keep L lt t1
 have t2 := Rg.keep L lt t2
 have t3 := Rg.keep L lt t3
 have t4 := Rg.keep L lt t4
 have a0 := Rg.keep L la a0
 have a1 := Rg.keep L la a1
 have b0 := Rg.keep L lb b0
 have b1 := Rg.keep L lb b1
 have r0 := Rg.keep L lr r0
 have r1 := Rg.keep L lr r1
 have lt := Nat.lt_of_lt_of_le lt L.size
 have la := Nat.lt_of_lt_of_le la L.size
 have lb := Nat.lt_of_lt_of_le lb L.size
 have lr := Nat.lt_of_lt_of_le lr L.size
 have ls := Nat.lt_of_lt_of_le ls L.size
 clear hb L
 have hRC := (⟨⟨_, r0⟩, ⟨_, r1⟩, RF0, RF1⟩ : Rg.RC (w.heap.size + 1 + 1 + 1) w2)
 have z0 : w.heap.size <= w.heap.size + 1 + 1 + 1 := by omega
 go_wp2
 have f0 := Rg.RC.read00 (x := x) hRC
 have f1 := Rg.RC.read1 (x := x) (y := y) hRC
 refine bodyPost_ret (v := Frac3 (x) (y) (e)) (by simp [results, Tryz.results151, go_sem, f0, f1]) rfl ⟨rfl, ?_⟩
 exact Below.setCell (Below.setCell K2 z0 _) z0 _
end Go.Proofs.YteaaikmejacpaaaGreatDoor.Fx


namespace Go.Proofs.YteaaikmejacpaaaGreatDoor.Fx
open Go.ChangeShapes Go.WideShapes Go.ChangeAt Go.RowKit
open Fr
set_option linter.unusedVariables false
set_option linter.unusedSimpArgs false
theorem cl57 (K B F R O n0 n1 p : Int) (w : World) (x : Nat) (h : TyAt K B F R O x w) (a0 : -1099511627776 <= n0) (a1 : n0 <= 1099511627776) (b0 : -1099511627776 <= n1) (b1 : n1 <= 1099511627776) : Calls Tryz.prog 162 #[.agg #[Fo1 x, Fo2 x, .int .i64 p], .int .i64 n0, .int .i64 n1] w (Ret (.int .i64 (n0 + n1)) w) := by
 clear h
 go_enter Tryz.func162, Tryz.ntmps162
 go_wp2
 go_ret
 exact ⟨rfl, by go_grown⟩
theorem cl58 (K B F R O n0 n1 p : Int) (w : World) (x : Nat) (h : TyAt K B F R O x w) (a0 : -1099511627776 <= n0) (a1 : n0 <= 1099511627776) (b0 : -1099511627776 <= n1) (b1 : n1 <= 1099511627776) : Calls Tryz.prog 163 #[.agg #[Fo1 x, Fo2 x, .int .i64 p], .int .i64 n0, .int .i64 n1] w (Ret (.int .i64 (n0 - n1)) w) := by
 clear h
 go_enter Tryz.func163, Tryz.ntmps163
 go_wp2
 go_ret
 exact ⟨rfl, by go_grown⟩
theorem cl61 (K B F R O n0 n1 p : Int) (w : World) (x : Nat) (h : TyAt K B F R O x w) (a0 : -1099511627776 <= n0) (a1 : n0 <= 1099511627776) (b0 : -1099511627776 <= n1) (b1 : n1 <= 1099511627776) : Calls Tryz.prog 167 #[.agg #[Fo1 x, Fo2 x, .int .i64 p], .int .i64 n0, .int .i64 n1] w (Ret (.int .i64 (-n0)) w) := by
 clear h
 go_enter Tryz.func167, Tryz.ntmps167
 go_wp2
 go_ret
 exact ⟨rfl, by go_grown⟩
set_option maxHeartbeats 4000000 in
theorem cl59 (K B F R O n0 n1 p t : Int) (w : World) (x : Nat) (h : TyAt K B F R O x w) (hx : x < w.heap.size) (ht : n0 * n1 = t) (t0 : -4611686018427387904 <= t) (t1 : t <= 4611686018427387904) (p0 : 1 <= p) (p1 : p <= 1073741824) (a0 : -1099511627776 <= n0) (a1 : n0 <= 1099511627776) (b0 : -1099511627776 <= n1) (b1 : n1 <= 1099511627776) : Calls Tryz.prog 164 #[.agg #[Fo1 x, Fo2 x, .int .i64 p], .int .i64 n0, .int .i64 n1] w (Ret (.int .i64 (Dv.dval R t p)) w) := by
 have D := Lib.hid (fo1 K B F R O t p x (w.alloc (.cells #[Fo1 x, Fo2 x, .int .i64 p] 163)) (h.keep ((Below.refl _ _).alloc (Nat.le_refl _) _) hx) (by omega) (by omega) (by omega) (by omega))
 generalize Dv.dval R t p = q at *
 clear h
 go_enter Tryz.func164, Tryz.ntmps164
 go_wp2_with (refine (D.out).mono ?_; rintro e w' ⟨rfl, kd, rfl⟩)
 go_ret
 exact ⟨rfl, below_drewN ((Below.refl _ _).alloc (Nat.le_refl _) _) _⟩
set_option maxHeartbeats 4000000 in
theorem cl60 (K B F R O n0 n1 p t : Int) (w : World) (x : Nat) (h : TyAt K B F R O x w) (hx : x < w.heap.size) (ht : n0 * p = t) (t0 : -4611686018427387904 <= t) (t1 : t <= 4611686018427387904) (p0 : 1 <= p) (p1 : p <= 1073741824) (a0 : -1099511627776 <= n0) (a1 : n0 <= 1099511627776) (b0 : -1099511627776 <= n1) (b1 : n1 <= 1099511627776) : Calls Tryz.prog 166 #[.agg #[Fo1 x, Fo2 x, .int .i64 p], .int .i64 n0, .int .i64 n1] w (Ret (.int .i64 (Dv.dval R t n1)) w) := by
 have D := Lib.hid (fo1 K B F R O t n1 x (w.alloc (.cells #[Fo1 x, Fo2 x, .int .i64 p] 163)) (h.keep ((Below.refl _ _).alloc (Nat.le_refl _) _) hx) (by omega) (by omega) (by omega) (by omega))
 generalize Dv.dval R t n1 = q at *
 clear h
 go_enter Tryz.func166, Tryz.ntmps166
 go_wp2_with (refine (D.out).mono ?_; rintro e w' ⟨rfl, kd, rfl⟩)
 go_ret
 exact ⟨rfl, below_drewN ((Below.refl _ _).alloc (Nat.le_refl _) _) _⟩
end Go.Proofs.YteaaikmejacpaaaGreatDoor.Fx


namespace Go.Proofs.YteaaikmejacpaaaGreatDoor.Fr
open Go.ChangeShapes Go.WideShapes Go.ChangeAt Go.RowKit
set_option linter.unusedVariables false
set_option linter.unusedSimpArgs false
set_option maxHeartbeats 2000000 in
theorem valid_out (n d : Int) (w : World) (h : d < 1 \/ 2147483647 < d \/ n < -2147483647 \/ 2147483647 < n) :
  Calls Tryz.prog 84 #[.agg #[.int .i64 n, .int .i64 d]] w (Ret (.bool false) w) := by
 obtain ⟨x1, x2, x3, x4, y1, y2, y3, y4⟩ : ∃ x1 x2 x3 x4, decide (d < 1) = x1 /\ decide (2147483647 < d) = x2 /\ decide (n < -2147483647) = x3 /\ decide (2147483647 < n) = x4 := ⟨_, _, _, _, rfl, rfl, rfl, rfl⟩
 have hx : (x1 || x2 || x3 || x4) = true := by subst y1 y2 y3 y4; simp; omega
 clear h
 cases x1 <;> cases x2 <;> cases x3 <;> cases x4 <;> (first | (exfalso; simp at hx; done) | skip)
 all_goals
  clear hx
  go_enter Tryz.func84, Tryz.ntmps84
  go_wp2
  go_ret
  exact ⟨rfl, by go_grown⟩
set_option maxHeartbeats 2000000 in
theorem valid_in (n d : Int) (w : World) (h1 : 1 <= d) (h2 : d <= 2147483647) (h3 : -2147483647 <= n) (h4 : n <= 2147483647) :
  Calls Tryz.prog 84 #[.agg #[.int .i64 n, .int .i64 d]] w (Ret (.bool (vld n d)) w) := by
 have HV := Lib.hid (vld_in h1 h2 h3 h4)
 have c1 : decide (d < 1) = false := by simp; omega
 have c2 : decide (2147483647 < d) = false := by simp; omega
 have c3 : decide (n < -2147483647) = false := by simp; omega
 have c4 : decide (2147483647 < n) = false := by simp; omega
 rcases (by omega : n < 0 \/ 0 <= n) with hn | hn
 ·have hg := gcd_abs n d
  go_enter Tryz.func84, Tryz.ntmps84
  go_wp2
  go_quiet ((first | (go_at_call 110; exact Calls.quiet_of_same ((fmag_neg n _ (by omega) (by omega)).mono fun _ _ h => ⟨h.1, h.2.symm⟩)) | (go_at_call 109; exact Calls.quiet_of (fgcd _ _ _ (by omega) (by omega) (by omega) (by omega)))))
  go_wp2
  go_ret
  exact ⟨by rw [HV.out]; rfl, below_drewN (by go_grown) _⟩
 ·go_enter Tryz.func84, Tryz.ntmps84
  go_wp2
  go_quiet ((first | (go_at_call 110; exact Calls.quiet_of_same ((fmag_pos n _ (by omega) (by omega)).mono fun _ _ h => ⟨h.1, h.2.symm⟩)) | (go_at_call 109; exact Calls.quiet_of (fgcd _ _ _ (by omega) (by omega) (by omega) (by omega)))))
  go_wp2
  go_ret
  exact ⟨by rw [HV.out]; rfl, below_drewN (by go_grown) _⟩
theorem valid_any (n d : Int) (w : World) : Calls Tryz.prog 84 #[.agg #[.int .i64 n, .int .i64 d]] w (Ret (.bool (vld n d)) w) := by
 by_cases h : d < 1 \/ 2147483647 < d \/ n < -2147483647 \/ 2147483647 < n
 ·rw [vld_out h]; exact valid_out n d w h
 ·exact valid_in n d w (by omega) (by omega) (by omega) (by omega)
end Go.Proofs.YteaaikmejacpaaaGreatDoor.Fr


namespace Go.Proofs.YteaaikmejacpaaaGreatDoor.Fr
open Go.ChangeShapes Go.WideShapes Go.ChangeAt Go.RowKit
set_option linter.unusedVariables false
set_option linter.unusedSimpArgs false
set_option maxHeartbeats 2000000 in
theorem bval_out (n d : Int) (w : World) (h : d < 1 \/ 2147483647 < d \/ n < -2147483647 \/ 2147483647 < n) :
  Calls Tryz.prog 54 #[.agg #[.int .i64 1, .int .i64 0, .int .i64 0, .int .i64 0, .int .i64 0], .agg #[.int .i64 n, .int .i64 d]] w (Ret (.bool false) w) := by
 obtain ⟨x1, x2, x3, x4, y1, y2, y3, y4⟩ : ∃ x1 x2 x3 x4, decide (d < 1) = x1 /\ decide (2147483647 < d) = x2 /\ decide (n < -2147483647) = x3 /\ decide (2147483647 < n) = x4 := ⟨_, _, _, _, rfl, rfl, rfl, rfl⟩
 have hx : (x1 || x2 || x3 || x4) = true := by subst y1 y2 y3 y4; simp; omega
 clear h
 cases x1 <;> cases x2 <;> cases x3 <;> cases x4 <;> (first | (exfalso; simp at hx; done) | skip)
 all_goals
  clear hx
  go_enter Tryz.func54, Tryz.ntmps54
  go_wp2
  go_ret
  exact ⟨rfl, by go_grown⟩
set_option maxHeartbeats 2000000 in
theorem bval_in (n d : Int) (w : World) (h1 : 1 <= d) (h2 : d <= 2147483647) (h3 : -2147483647 <= n) (h4 : n <= 2147483647) :
  Calls Tryz.prog 54 #[.agg #[.int .i64 1, .int .i64 0, .int .i64 0, .int .i64 0, .int .i64 0], .agg #[.int .i64 n, .int .i64 d]] w (Ret (.bool (vld n d)) w) := by
 have HV := Lib.hid (vld_in h1 h2 h3 h4)
 have c1 : decide (d < 1) = false := by simp; omega
 have c2 : decide (2147483647 < d) = false := by simp; omega
 have c3 : decide (n < -2147483647) = false := by simp; omega
 have c4 : decide (2147483647 < n) = false := by simp; omega
 rcases (by omega : n < 0 \/ 0 <= n) with hn | hn
 ·have hg := gcd_abs n d
  have hm : max n (-n) = -n := by omega
  have hm2 : decide (n < -n) = true := by simp; omega
  have hm3 : decide (-n < n) = false := by simp; omega
  go_enter Tryz.func54, Tryz.ntmps54
  go_wp2_with (go_at_call 88; refine (bgcd _ _ _ (by omega) (by omega) (by omega) (by omega)).mono ?_; rintro e w1 ⟨rfl, k, rfl⟩)
  go_ret
  exact ⟨by rw [HV.out]; rfl, below_drewN (by go_grown) _⟩
 ·have hm : max n (-n) = n := by omega
  have hm2 : decide (n < -n) = false := by simp; omega
  go_enter Tryz.func54, Tryz.ntmps54
  go_wp2_with (go_at_call 88; refine (bgcd _ _ _ (by omega) (by omega) (by omega) (by omega)).mono ?_; rintro e w1 ⟨rfl, k, rfl⟩)
  go_ret
  exact ⟨by rw [HV.out]; rfl, below_drewN (by go_grown) _⟩
theorem bval_any (n d : Int) (w : World) : Calls Tryz.prog 54 #[.agg #[.int .i64 1, .int .i64 0, .int .i64 0, .int .i64 0, .int .i64 0], .agg #[.int .i64 n, .int .i64 d]] w (Ret (.bool (vld n d)) w) := by
 by_cases h : d < 1 \/ 2147483647 < d \/ n < -2147483647 \/ 2147483647 < n
 ·rw [vld_out h]; exact bval_out n d w h
 ·exact bval_in n d w (by omega) (by omega) (by omega) (by omega)
end Go.Proofs.YteaaikmejacpaaaGreatDoor.Fr


namespace Go.Proofs.YteaaikmejacpaaaGreatDoor.Fr
open Go.ChangeShapes Go.WideShapes Go.ChangeAt Go.RowKit
set_option linter.unusedVariables false
set_option linter.unusedSimpArgs false

end Go.Proofs.YteaaikmejacpaaaGreatDoor.Fr
