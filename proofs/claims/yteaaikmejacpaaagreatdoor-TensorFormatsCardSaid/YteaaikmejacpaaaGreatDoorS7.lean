/- Mathematics of package value: types, valid numbers, the answers of the operators. -/
import Derived.Test.YteaaikmejacpaaaGreatDoorS6
import Derived.Laws.StructEq

namespace Go.Proofs.YteaaikmejacpaaaGreatDoor.Va
open Fr Fx
open Go.ChangeShapes Go.WideShapes Go.ChangeAt Go.RowKit
set_option linter.unusedVariables false
set_option linter.unusedSimpArgs false
/-- The element types. -/
def ty (K B F R O : Int) : Bool := tv K B F R O || decide ((K = 1 \/ K = 3) /\ B = 0 /\ F = 0 /\ R = 0 /\ O = 0)
/-- The numbers of a type. -/
def vv (K B F R O n d : Int) : Bool :=
 if K = 2 then fv K B F R O n d else ty K B F R O && (if K = 1 then vld n d else decide (d = 1 /\ -2147483647 <= n /\ n <= 2147483647))
abbrev A3 := Int × Int × Int
abbrev F3 (r : A3) : Value := Frac3 r.1 r.2.1 r.2.2
def nw (n d : Int) : A3 := (newN n d, newD n d, newE n d)
/-- The operators on fractions. -/
def frv (op n1 d1 n2 d2 : Int) : A3 :=
 if op = 4 then nw (n1 * d2 + n2 * d1) (d1 * d2) else if op = 5 then nw (n1 * d2 - n2 * d1) (d1 * d2) else if op = 6 then nw (n1 * n2) (d1 * d2)
 else if op = 7 then nw (n1 * d2) (d1 * n2) else (-n1, d1, 0)
/-- The operators on fixed-point numbers. -/
def fxv (op B F R O n1 n2 : Int) : A3 :=
 if op = 7 /\ n2 = 0 then (0, 0, 4) else (Nx.nv (if op = 4 then n1 + n2 else if op = 5 then n1 - n2 else if op = 6 then Dv.dval R (n1 * n2) (2 ^ F.toNat) else if op = 7 then Dv.dval R (n1 * 2 ^ F.toNat) n2 else -n1) B O, 1, 0)
def whn (op a b : Int) : Int := if op = 4 then a + b else if op = 5 then a - b else if op = 6 then a * b else if op = 7 then Dv.dval 1 a b else -a
/-- The operators on integers. -/
def whv (op a b : Int) : A3 :=
 if op = 7 /\ b = 0 then (0, 0, 4) else if -2147483647 <= whn op a b /\ whn op a b <= 2147483647 then (whn op a b, 1, 0) else (0, 0, 3)
/-- The order of two numbers of a type. -/
def cpv (K B F R O n1 d1 n2 d2 : Int) : Int :=
 if vv K B F R O n1 d1 && vv K B F R O n2 d2 then cmpv (n1 * d2) (n2 * d1) else 0
/-- The answer of Apply. -/
def apv (op K B F R O n1 d1 n2 d2 : Int) : A3 :=
 if op < 4 \/ 10 < op then (0, 0, 1) else if ty K B F R O = false then (0, 0, 10)
 else if vv K B F R O n1 d1 = false \/ (op ≠ 8 /\ vv K B F R O n2 d2 = false) then (0, 0, 1)
 else if op = 9 then (if cpv K B F R O n1 d1 n2 d2 <= 0 then (n1, d1, 0) else (n2, d2, 0))
 else if op = 10 then (if 0 <= cpv K B F R O n1 d1 n2 d2 then (n1, d1, 0) else (n2, d2, 0))
 else if K = 1 then frv op n1 d1 n2 d2 else if K = 2 then fxv op B F R O n1 n2 else whv op n1 n2
/-- The answer of One. -/
def onv (K B F R O : Int) : A3 :=
 if ty K B F R O = false then (0, 0, 10) else if K = 2 then (if fv K B F R O (2 ^ F.toNat) 1 then (2 ^ F.toNat, 1, 0) else (0, 0, 3)) else (1, 1, 0)
/-- The value of a number as a fraction. -/
def rat (K F n d : Int) : Int × Int := if K = 2 then ((red n F.toNat).1, 2 ^ (red n F.toNat).2) else (n, d)

theorem ty_cases (K B F R O : Int) : (ty K B F R O = true /\ ((K = 2 /\ tv K B F R O = true) \/ ((K = 1 \/ K = 3) /\ B = 0 /\ F = 0 /\ R = 0 /\ O = 0 /\ tv K B F R O = false))) \/
  (ty K B F R O = false /\ tv K B F R O = false /\ (K = 2 \/ (K ≠ 1 /\ K ≠ 2 /\ K ≠ 3) \/ ((K = 1 \/ K = 3) /\ (B ≠ 0 \/ F ≠ 0 \/ R ≠ 0 \/ O ≠ 0)))) := by
 unfold ty
 by_cases h : tv K B F R O = true
 ·left
  obtain ⟨k, _⟩ := tv_parts h
  exact ⟨by rw [h]; rfl, .inl ⟨k, h⟩⟩
 ·have h' : tv K B F R O = false := by simpa using h
  rw [h', Bool.false_or]
  by_cases g : (K = 1 \/ K = 3) /\ B = 0 /\ F = 0 /\ R = 0 /\ O = 0
  ·left
   exact ⟨decide_eq_true g, .inr ⟨g.1, g.2.1, g.2.2.1, g.2.2.2.1, g.2.2.2.2, rfl⟩⟩
  ·right
   refine ⟨decide_eq_false g, rfl, ?_⟩
   omega
theorem vv_ty {K B F R O n d : Int} (h : vv K B F R O n d = true) : ty K B F R O = true := by
 unfold vv at h
 split at h
 ·obtain ⟨t, _⟩ := fv_parts h
  unfold ty; rw [t]; rfl
 ·simp only [Bool.and_eq_true] at h
  exact h.1
theorem vv_fix {K B F R O n d : Int} (h : K = 2) : vv K B F R O n d = fv K B F R O n d := by unfold vv; rw [if_pos h]
theorem ty_frac : ty 1 0 0 0 0 = true := by decide
theorem ty_int : ty 3 0 0 0 0 = true := by decide
theorem vv_frac (n d : Int) : vv 1 0 0 0 0 n d = vld n d := by unfold vv; rw [if_neg (by decide), ty_frac, if_pos rfl, Bool.true_and]
theorem vv_int (n d : Int) : vv 3 0 0 0 0 n d = decide (d = 1 /\ -2147483647 <= n /\ n <= 2147483647) := by unfold vv; rw [if_neg (by decide), ty_int, if_neg (by decide), Bool.true_and]
theorem vv_bad {K B F R O n d : Int} (h : ty K B F R O = false) : vv K B F R O n d = false := by
 cases e : vv K B F R O n d with
 | false => rfl
 | true => rw [vv_ty e] at h; cases h
/-- What is valid lies within 31 bits, and its denominator is positive. -/
theorem vv_small {K B F R O n d : Int} (h : vv K B F R O n d = true) : 1 <= d /\ d <= 2147483647 /\ -2147483647 <= n /\ n <= 2147483647 /\ (K ≠ 1 -> d = 1) := by
 unfold vv at h
 split at h
 ·obtain ⟨t, e, _, _, x, y⟩ := fv_parts h
  omega
 ·simp only [Bool.and_eq_true] at h
  obtain ⟨_, h⟩ := h
  split at h
  ·obtain ⟨a, b, c, e, _⟩ := vld_parts h
   omega
  ·have := of_decide_eq_true h
   omega
theorem vld_one {n : Int} (h : -2147483647 <= n) (h' : n <= 2147483647) : vld n 1 = true := by
 rw [vld_in (by decide) (by decide) h h']
 simp

end Go.Proofs.YteaaikmejacpaaaGreatDoor.Va


namespace Go.Proofs.YteaaikmejacpaaaGreatDoor.Va
open Go.ChangeShapes Go.WideShapes Go.ChangeAt Go.RowKit
open Fr Fx
set_option maxRecDepth 8000
set_option linter.unusedVariables false
set_option linter.unusedSimpArgs false
set_option maxRecDepth 8000
theorem ret1' {k : IntKind} {a b : Int} (h : a = b) : Ending.returned (.int k a) = .returned (.int k b) := by rw [h]
theorem retb {a b : Bool} (h : a = b) : Ending.returned (.bool a) = .returned (.bool b) := by rw [h]
/-- ValidateType of package fixed. -/
theorem fvt (K B F R O : Int) (w : World) : Calls Tryz.prog 81 #[T5 K B F R O] w (Ret (.int .i64 (if tv K B F R O then 0 else 10)) w) := by
 by_cases h : tv K B F R O = true
 ·rw [h]; exact vt_ok K B F R O w h
 ·have h' : tv K B F R O = false := by simpa using h
  rw [h']; exact vt_bad K B F R O w h'
set_option maxHeartbeats 4000000 in
theorem c_vt (K B F R O : Int) (w : World) : Calls Tryz.prog 46 #[T5 K B F R O] w (Ret (.int .i64 (if ty K B F R O then 0 else 10)) w) := by
 have VT := Lib.hid fun w => fvt K B F R O w
 by_cases hk : K = 2
 ·have e : ty K B F R O = tv K B F R O := by
   unfold ty
   rw [decide_eq_false (by omega), Bool.or_false]
  rw [e]
  clear e
  obtain ⟨r, hr⟩ : ∃ r, (if tv K B F R O = true then (0 : Int) else 10) = r := ⟨_, rfl⟩
  rw [hr] at VT ⊢
  have k1 : (K == 2) = true := by simpa using hk
  clear hk hr
  go_enter Tryz.func46, Tryz.ntmps46
  go_wp2_with (go_at_call 81; refine (VT.out _).mono ?_; rintro e w1 ⟨rfl, hb⟩)
  go_ret
  exact ⟨rfl, ((Below.refl _ _).alloc (Nat.le_refl _) _).trans (hb.mono (by simp))⟩
 ·have hT : tv K B F R O = false := by
   unfold tv
   exact decide_eq_false (by omega)
  clear VT
  rw [show ty K B F R O = decide ((K = 1 \/ K = 3) /\ B = 0 /\ F = 0 /\ R = 0 /\ O = 0) by unfold ty; rw [hT, Bool.false_or]]
  obtain ⟨r, hr⟩ : ∃ r, (if decide ((K = 1 \/ K = 3) /\ B = 0 /\ F = 0 /\ R = 0 /\ O = 0) = true then (0 : Int) else 10) = r := ⟨_, rfl⟩
  rw [hr]
  have HR := Lib.hid hr
  clear hr
  have k1 : (K == 2) = false := by simpa using hk
  clear hk hT
  go_enter Tryz.func46, Tryz.ntmps46
  go_wp2
  all_goals
   go_ret
   refine ⟨ret1' ?_, by go_grown⟩
   have hr := HR.out
   rw [<- hr]
   clear hr HR
   first | (simp_all; done) | (simp_all; omega)
theorem vtF {K B F R O : Int} (h : ty K B F R O = false) (w : World) : Calls Tryz.prog 46 #[T5 K B F R O] w (Ret (.int .i64 10) w) := by
 have := c_vt K B F R O w
 rw [h] at this
 exact this
theorem vtT {K B F R O : Int} (h : ty K B F R O = true) (w : World) : Calls Tryz.prog 46 #[T5 K B F R O] w (Ret (.int .i64 0) w) := by
 have := c_vt K B F R O w
 rw [h] at this
 exact this
theorem c_fits (n : Int) (w : World) : Calls Tryz.prog 85 #[.int .i64 n] w fun e w' => e = .returned (.bool (decide (-2147483647 <= n /\ n <= 2147483647))) /\ w = w' := by
 go_enter Tryz.func85, Tryz.ntmps85
 go_wp2
 all_goals
  go_ret
  refine ⟨retb ?_, rfl⟩
  first | (simp_all; done) | (simp_all; omega)
set_option maxHeartbeats 4000000 in
theorem c_va (K B F R O n d : Int) (w : World) (b0 : -9223372036854775808 <= B) (b1 : B <= 9223372036854775807) : Calls Tryz.prog 48 #[T5 K B F R O, V2 n d] w (Ret (.bool (vv K B F R O n d)) w) := by
  have FV := Lib.hid fun w => fval K B F R O n d w b0 b1
  have VA := Lib.hid fun w => valid_any n d w
  have FI := Lib.hid fun w => c_fits n w
  have HV1 := Lib.hid (vv_frac n d)
  have HV3 := Lib.hid (vv_int n d)
  have HF := Lib.hid (show ¬ ((K = 1 \/ K = 3) /\ B = 0 /\ F = 0 /\ R = 0 /\ O = 0) -> vv K B F R O n d = fv K B F R O n d by
    intro h
    by_cases h2 : K = 2
    · exact vv_fix h2
    · rcases ty_cases K B F R O with ⟨_, h3 | h3⟩ | ⟨h3, h4, _⟩
      · exact absurd h3.1 h2
      · exact absurd ⟨h3.1, h3.2.1, h3.2.2.1, h3.2.2.2.1, h3.2.2.2.2.1⟩ h
      · rw [vv_bad h3]; unfold fv; rw [h4]; rfl)
  clear b0 b1
  go_enter Tryz.func48, Tryz.ntmps48
  go_wp2_with fail
  all_goals (try subst_vars)
  all_goals try
     (with_reducible refine (VA.out _).mono ?_
      rintro e w1 ⟨rfl, hb⟩
      go_wp2
      go_ret
      refine ⟨retb ?_, (((Below.refl _ _).alloc (Nat.le_refl _) _).alloc (by simp) _).trans (hb.mono (by simp <;> omega))⟩
      exact HV1.out.symm)
  all_goals try
     (with_reducible refine (FV.out _).mono ?_
      rintro e w1 ⟨rfl, hb⟩
      go_wp2
      go_ret
      refine ⟨retb ?_, (((Below.refl _ _).alloc (Nat.le_refl _) _).alloc (by simp) _).trans (hb.mono (by simp <;> omega))⟩
      exact (HF.out (by omega)).symm)
  all_goals try
     (with_reducible refine (FI.out _).mono ?_
      rintro e w1 ⟨rfl, rfl⟩
      go_wp2
      go_ret
      refine ⟨retb ?_, by go_grown⟩
      rw [HV3.out]
      simp_all)
  all_goals
    go_ret
    refine ⟨retb ?_, by go_grown⟩
    rw [HV3.out]
    simp_all
end Go.Proofs.YteaaikmejacpaaaGreatDoor.Va


namespace Go.Proofs.YteaaikmejacpaaaGreatDoor.Va
open Go.ChangeShapes Go.WideShapes Go.ChangeAt Go.RowKit
open Fr Fx
set_option maxRecDepth 8000
set_option linter.unusedVariables false
set_option linter.unusedSimpArgs false
set_option maxRecDepth 8000
theorem c_zero (K B F R O : Int) (w : World) : Calls Tryz.prog 128 #[T5 K B F R O] w (Ret (V2 0 (if ty K B F R O then 1 else 0)) w) := by
 cases h : ty K B F R O
 ·have VT := Lib.hid fun w => vtF h w
  go_enter Tryz.func128, Tryz.ntmps128
  go_wp2_with (first | (go_at_call 46; (with_reducible refine (VT.out _).mono ?_); rintro e w1 ⟨rfl, hb1⟩; have hc1 := (bcell hb1).1; have hf1 := (bcell hb1).2; have z1_0 : w.heap.size < w1.heap.size := (by have hzz := hb1.size; (try simp at hzz); omega); have z1_1 : w.heap.size + 1 < w1.heap.size := (by have hzz := hb1.size; (try simp at hzz); omega); have K1 : Below w.heap.size w w1 := Below.trans (b := _) (by (repeat' (first | (with_reducible exact Below.refl _ _) | (with_reducible refine Below.alloc ?_ ?_ _) | (with_reducible refine Below.setCell ?_ ?_ _) | (with_reducible refine below_drewN ?_ _) | (simp; done) | omega | (simp; omega)))) (hb1.mono (by have hzz := hb1.size; (try simp at hzz); first | omega | (simp; done) | (simp; omega)))))
  refine bodyPost_ret (v := V2 0 0) (by simp [results, Tryz.results128, go_sem, hc1, hf1, z1_0, Nat.lt_succ_of_lt z1_0, Nat.ne_of_lt z1_0, Nat.ne_of_gt z1_0, z1_1, Nat.lt_succ_of_lt z1_1, Nat.ne_of_lt z1_1, Nat.ne_of_gt z1_1]) rfl ⟨rfl, ?_⟩; (repeat' (first | (with_reducible exact Below.refl _ _) | (with_reducible exact K1) | (with_reducible refine Below.alloc ?_ ?_ _) | (with_reducible refine Below.setCell ?_ ?_ _) | (with_reducible refine below_drewN ?_ _) | (simp; done) | omega | (simp; omega)))
 ·have VT := Lib.hid fun w => vtT h w
  go_enter Tryz.func128, Tryz.ntmps128
  go_wp2_with (first | (go_at_call 46; (with_reducible refine (VT.out _).mono ?_); rintro e w1 ⟨rfl, hb1⟩; have hc1 := (bcell hb1).1; have hf1 := (bcell hb1).2; have z1_0 : w.heap.size < w1.heap.size := (by have hzz := hb1.size; (try simp at hzz); omega); have z1_1 : w.heap.size + 1 < w1.heap.size := (by have hzz := hb1.size; (try simp at hzz); omega); have K1 : Below w.heap.size w w1 := Below.trans (b := _) (by (repeat' (first | (with_reducible exact Below.refl _ _) | (with_reducible refine Below.alloc ?_ ?_ _) | (with_reducible refine Below.setCell ?_ ?_ _) | (with_reducible refine below_drewN ?_ _) | (simp; done) | omega | (simp; omega)))) (hb1.mono (by have hzz := hb1.size; (try simp at hzz); first | omega | (simp; done) | (simp; omega)))))
  refine bodyPost_ret (v := V2 0 1) (by simp [results, Tryz.results128, go_sem, hc1, hf1, z1_0, Nat.lt_succ_of_lt z1_0, Nat.ne_of_lt z1_0, Nat.ne_of_gt z1_0, z1_1, Nat.lt_succ_of_lt z1_1, Nat.ne_of_lt z1_1, Nat.ne_of_gt z1_1]) rfl ⟨rfl, ?_⟩; (repeat' (first | (with_reducible exact Below.refl _ _) | (with_reducible exact K1) | (with_reducible refine Below.alloc ?_ ?_ _) | (with_reducible refine Below.setCell ?_ ?_ _) | (with_reducible refine below_drewN ?_ _) | (simp; done) | omega | (simp; omega)))
set_option maxHeartbeats 4000000 in
theorem c_one (K B F R O : Int) (w : World) (b0 : -9223372036854775808 <= B) (b1 : B <= 9223372036854775807) : Calls Tryz.prog 129 #[T5 K B F R O] w (Ret (F3 (onv K B F R O)) w) := by
 have HV := Lib.hid fun n d w => c_va K B F R O n d w b0 b1
 cases h : ty K B F R O
 ·have VT := Lib.hid fun w => vtF h w
  rw [show onv K B F R O = (0, 0, 10) by unfold onv; rw [h]; rfl]
  clear HV b0 b1 h
  go_enter Tryz.func129, Tryz.ntmps129
  go_wp2_with (first | (go_at_call 46; (with_reducible refine (VT.out _).mono ?_); rintro e w1 ⟨rfl, hb1⟩; have hc1 := (bcell hb1).1; have hf1 := (bcell hb1).2; have z1_0 : w.heap.size < w1.heap.size := (by have hzz := hb1.size; (try simp at hzz); omega); have z1_1 : w.heap.size + 1 < w1.heap.size := (by have hzz := hb1.size; (try simp at hzz); omega); have K1 : Below w.heap.size w w1 := Below.trans (b := _) (by (repeat' (first | (with_reducible exact Below.refl _ _) | (with_reducible refine Below.alloc ?_ ?_ _) | (with_reducible refine Below.setCell ?_ ?_ _) | (with_reducible refine below_drewN ?_ _) | (simp; done) | omega | (simp; omega)))) (hb1.mono (by have hzz := hb1.size; (try simp at hzz); first | omega | (simp; done) | (simp; omega)))))
  refine bodyPost_ret (v := Frac3 0 0 10) (by simp [results, Tryz.results129, go_sem, hc1, hf1, z1_0, Nat.lt_succ_of_lt z1_0, Nat.ne_of_lt z1_0, Nat.ne_of_gt z1_0, z1_1, Nat.lt_succ_of_lt z1_1, Nat.ne_of_lt z1_1, Nat.ne_of_gt z1_1]) rfl ⟨rfl, ?_⟩; (repeat' (first | (with_reducible exact Below.refl _ _) | (with_reducible exact K1) | (with_reducible refine Below.alloc ?_ ?_ _) | (with_reducible refine Below.setCell ?_ ?_ _) | (with_reducible refine below_drewN ?_ _) | (simp; done) | omega | (simp; omega)))
 ·have VT := Lib.hid fun w => vtT h w
  by_cases hk : K = 2
  ·have ht : tv K B F R O = true := by
    rcases ty_cases K B F R O with ⟨_, h3 | h3⟩ | ⟨h3, _⟩
    ·exact h3.2
    ·exact absurd hk (by omega)
    ·rw [h] at h3; cases h3
   obtain ⟨-, -, -, f0, f1, -, -, -⟩ := tv_parts ht
   obtain ⟨p0, p1⟩ := two_pow F f0 f1
   rw [show onv K B F R O = (if fv K B F R O (2 ^ F.toNat) 1 then (2 ^ F.toNat, 1, 0) else (0, 0, 3)) by unfold onv; rw [h, if_neg (by decide), if_pos hk]]
   have k1 : (K == 2) = true := by simpa using hk
   have VA := Lib.hid fun w => HV.out (2 ^ F.toNat) 1 w
   rw [vv_fix hk] at VA
   clear HV hk ht h b0 b1
   obtain ⟨p, hp⟩ : ∃ p, (2 : Int) ^ F.toNat = p := ⟨_, rfl⟩
   rw [hp] at p0 p1 VA ⊢
   cases h2 : fv K B F R O p 1
   ·rw [h2] at VA
    clear h2
    go_enter Tryz.func129, Tryz.ntmps129
    go_wp2_with (first | (go_at_call 46; (with_reducible refine (VT.out _).mono ?_); rintro e w1 ⟨rfl, hb1⟩; have hc1 := (bcell hb1).1; have hf1 := (bcell hb1).2; have z1_0 : w.heap.size < w1.heap.size := (by have hzz := hb1.size; (try simp at hzz); omega); have z1_1 : w.heap.size + 1 < w1.heap.size := (by have hzz := hb1.size; (try simp at hzz); omega); have K1 : Below w.heap.size w w1 := Below.trans (b := _) (by (repeat' (first | (with_reducible exact Below.refl _ _) | (with_reducible refine Below.alloc ?_ ?_ _) | (with_reducible refine Below.setCell ?_ ?_ _) | (with_reducible refine below_drewN ?_ _) | (simp; done) | omega | (simp; omega)))) (hb1.mono (by have hzz := hb1.size; (try simp at hzz); first | omega | (simp; done) | (simp; omega)))) | (go_at_call 48; (with_reducible refine (VA.out _).mono ?_); rintro e w2 ⟨rfl, hb2⟩; have hc2 := (bcell hb2).1; have hf2 := (bcell hb2).2; have z2_0 : w.heap.size < w2.heap.size := (by have hzz := hb2.size; (try simp at hzz); omega); have z2_1 : w.heap.size + 1 < w2.heap.size := (by have hzz := hb2.size; (try simp at hzz); omega); have K2 : Below w.heap.size w w2 := Below.trans (b := _) (by (repeat' (first | (with_reducible exact Below.refl _ _) | (with_reducible exact K1) | (with_reducible refine Below.alloc ?_ ?_ _) | (with_reducible refine Below.setCell ?_ ?_ _) | (with_reducible refine below_drewN ?_ _) | (simp; done) | omega | (simp; omega)))) (hb2.mono (by have hzz := hb2.size; (try simp at hzz); first | omega | (simp; done) | (simp; omega)))))
    refine bodyPost_ret (v := Frac3 0 0 3) (by simp [results, Tryz.results129, go_sem, hc1, hf1, hc2, hf2, z1_0, Nat.lt_succ_of_lt z1_0, Nat.ne_of_lt z1_0, Nat.ne_of_gt z1_0, z1_1, Nat.lt_succ_of_lt z1_1, Nat.ne_of_lt z1_1, Nat.ne_of_gt z1_1, z2_0, Nat.lt_succ_of_lt z2_0, Nat.ne_of_lt z2_0, Nat.ne_of_gt z2_0, z2_1, Nat.lt_succ_of_lt z2_1, Nat.ne_of_lt z2_1, Nat.ne_of_gt z2_1]) rfl ⟨rfl, ?_⟩; (repeat' (first | (with_reducible exact Below.refl _ _) | (with_reducible exact K1) | (with_reducible exact K2) | (with_reducible refine Below.alloc ?_ ?_ _) | (with_reducible refine Below.setCell ?_ ?_ _) | (with_reducible refine below_drewN ?_ _) | (simp; done) | omega | (simp; omega)))
   ·rw [h2] at VA
    clear h2
    go_enter Tryz.func129, Tryz.ntmps129
    go_wp2_with (first | (go_at_call 46; (with_reducible refine (VT.out _).mono ?_); rintro e w1 ⟨rfl, hb1⟩; have hc1 := (bcell hb1).1; have hf1 := (bcell hb1).2; have z1_0 : w.heap.size < w1.heap.size := (by have hzz := hb1.size; (try simp at hzz); omega); have z1_1 : w.heap.size + 1 < w1.heap.size := (by have hzz := hb1.size; (try simp at hzz); omega); have K1 : Below w.heap.size w w1 := Below.trans (b := _) (by (repeat' (first | (with_reducible exact Below.refl _ _) | (with_reducible refine Below.alloc ?_ ?_ _) | (with_reducible refine Below.setCell ?_ ?_ _) | (with_reducible refine below_drewN ?_ _) | (simp; done) | omega | (simp; omega)))) (hb1.mono (by have hzz := hb1.size; (try simp at hzz); first | omega | (simp; done) | (simp; omega)))) | (go_at_call 48; (with_reducible refine (VA.out _).mono ?_); rintro e w2 ⟨rfl, hb2⟩; have hc2 := (bcell hb2).1; have hf2 := (bcell hb2).2; have z2_0 : w.heap.size < w2.heap.size := (by have hzz := hb2.size; (try simp at hzz); omega); have z2_1 : w.heap.size + 1 < w2.heap.size := (by have hzz := hb2.size; (try simp at hzz); omega); have K2 : Below w.heap.size w w2 := Below.trans (b := _) (by (repeat' (first | (with_reducible exact Below.refl _ _) | (with_reducible exact K1) | (with_reducible refine Below.alloc ?_ ?_ _) | (with_reducible refine Below.setCell ?_ ?_ _) | (with_reducible refine below_drewN ?_ _) | (simp; done) | omega | (simp; omega)))) (hb2.mono (by have hzz := hb2.size; (try simp at hzz); first | omega | (simp; done) | (simp; omega)))))
    refine bodyPost_ret (v := Frac3 p 1 0) (by simp [results, Tryz.results129, go_sem, hc1, hf1, hc2, hf2, z1_0, Nat.lt_succ_of_lt z1_0, Nat.ne_of_lt z1_0, Nat.ne_of_gt z1_0, z1_1, Nat.lt_succ_of_lt z1_1, Nat.ne_of_lt z1_1, Nat.ne_of_gt z1_1, z2_0, Nat.lt_succ_of_lt z2_0, Nat.ne_of_lt z2_0, Nat.ne_of_gt z2_0, z2_1, Nat.lt_succ_of_lt z2_1, Nat.ne_of_lt z2_1, Nat.ne_of_gt z2_1]) rfl ⟨rfl, ?_⟩; (repeat' (first | (with_reducible exact Below.refl _ _) | (with_reducible exact K1) | (with_reducible exact K2) | (with_reducible refine Below.alloc ?_ ?_ _) | (with_reducible refine Below.setCell ?_ ?_ _) | (with_reducible refine below_drewN ?_ _) | (simp; done) | omega | (simp; omega)))
  ·rw [show onv K B F R O = (1, 1, 0) by unfold onv; rw [h, if_neg (by decide), if_neg hk]]
   have hv : vv K B F R O 1 1 = true := by
    unfold vv
    rw [if_neg hk, h]
    split <;> decide
   have k1 : (K == 2) = false := by simpa using hk
   have VA := Lib.hid fun w => HV.out 1 1 w
   rw [hv] at VA
   clear HV hk h hv b0 b1
   go_enter Tryz.func129, Tryz.ntmps129
   go_wp2_with (first | (go_at_call 46; (with_reducible refine (VT.out _).mono ?_); rintro e w1 ⟨rfl, hb1⟩; have hc1 := (bcell hb1).1; have hf1 := (bcell hb1).2; have z1_0 : w.heap.size < w1.heap.size := (by have hzz := hb1.size; (try simp at hzz); omega); have z1_1 : w.heap.size + 1 < w1.heap.size := (by have hzz := hb1.size; (try simp at hzz); omega); have K1 : Below w.heap.size w w1 := Below.trans (b := _) (by (repeat' (first | (with_reducible exact Below.refl _ _) | (with_reducible refine Below.alloc ?_ ?_ _) | (with_reducible refine Below.setCell ?_ ?_ _) | (with_reducible refine below_drewN ?_ _) | (simp; done) | omega | (simp; omega)))) (hb1.mono (by have hzz := hb1.size; (try simp at hzz); first | omega | (simp; done) | (simp; omega)))) | (go_at_call 48; (with_reducible refine (VA.out _).mono ?_); rintro e w2 ⟨rfl, hb2⟩; have hc2 := (bcell hb2).1; have hf2 := (bcell hb2).2; have z2_0 : w.heap.size < w2.heap.size := (by have hzz := hb2.size; (try simp at hzz); omega); have z2_1 : w.heap.size + 1 < w2.heap.size := (by have hzz := hb2.size; (try simp at hzz); omega); have K2 : Below w.heap.size w w2 := Below.trans (b := _) (by (repeat' (first | (with_reducible exact Below.refl _ _) | (with_reducible exact K1) | (with_reducible refine Below.alloc ?_ ?_ _) | (with_reducible refine Below.setCell ?_ ?_ _) | (with_reducible refine below_drewN ?_ _) | (simp; done) | omega | (simp; omega)))) (hb2.mono (by have hzz := hb2.size; (try simp at hzz); first | omega | (simp; done) | (simp; omega)))))
   refine bodyPost_ret (v := Frac3 1 1 0) (by simp [results, Tryz.results129, go_sem, hc1, hf1, hc2, hf2, z1_0, Nat.lt_succ_of_lt z1_0, Nat.ne_of_lt z1_0, Nat.ne_of_gt z1_0, z1_1, Nat.lt_succ_of_lt z1_1, Nat.ne_of_lt z1_1, Nat.ne_of_gt z1_1, z2_0, Nat.lt_succ_of_lt z2_0, Nat.ne_of_lt z2_0, Nat.ne_of_gt z2_0, z2_1, Nat.lt_succ_of_lt z2_1, Nat.ne_of_lt z2_1, Nat.ne_of_gt z2_1]) rfl ⟨rfl, ?_⟩; (repeat' (first | (with_reducible exact Below.refl _ _) | (with_reducible exact K1) | (with_reducible exact K2) | (with_reducible refine Below.alloc ?_ ?_ _) | (with_reducible refine Below.setCell ?_ ?_ _) | (with_reducible refine below_drewN ?_ _) | (simp; done) | omega | (simp; omega)))
end Go.Proofs.YteaaikmejacpaaaGreatDoor.Va


namespace Go.Proofs.YteaaikmejacpaaaGreatDoor.Va
open Go.ChangeShapes Go.WideShapes Go.ChangeAt Go.RowKit
open Fr Fx
set_option maxRecDepth 8000
set_option linter.unusedVariables false
set_option linter.unusedSimpArgs false
set_option maxRecDepth 8000
theorem prod_bound {a b : Int} (h1 : -2147483647 <= a) (h2 : a <= 2147483647) (h3 : 0 <= b) (h4 : b <= 2147483647) : -4611686014132420609 <= a * b /\ a * b <= 4611686014132420609 := by
 have e1 := Int.mul_le_mul_of_nonneg_right h2 h3
 have e2 := Int.mul_le_mul_of_nonneg_right h1 h3
 omega
theorem prod_bound2 {a b : Int} (h1 : -2147483647 <= a) (h2 : a <= 2147483647) (h3 : -2147483647 <= b) (h4 : b <= 2147483647) : -4611686014132420609 <= a * b /\ a * b <= 4611686014132420609 := by
 by_cases h : 0 <= b
 ·exact prod_bound h1 h2 h h4
 ·have := prod_bound h1 h2 (b := -b) (by omega) (by omega)
  rw [Int.mul_neg] at this
  omega
theorem both_of {n1 d1 n2 d2 : Int} (v1 : vld n1 d1 = true) (v2 : vld n2 d2 = true) : both n1 d1 n2 d2 = true := by unfold both; rw [v1, v2]; rfl
theorem fr_add {n1 d1 n2 d2 : Int} (v1 : vld n1 d1 = true) (v2 : vld n2 d2 = true) (w : World) : Calls Tryz.prog 143 #[V2 n1 d1, V2 n2 d2] w (Ret (F3 (nw (n1 * d2 + n2 * d1) (d1 * d2))) w) := by
 obtain ⟨x0, x1, x2, x3, _⟩ := vld_of v1
 obtain ⟨y0, y1, y2, y3, _⟩ := vld_of v2
 obtain ⟨a0, a1⟩ := prod_bound x2 x3 (b := d2) (by omega) y1
 obtain ⟨b0, b1⟩ := prod_bound y2 y3 (b := d1) (by omega) x1
 obtain ⟨c0, c1⟩ := prod_bound (a := d1) (b := d2) (by omega) x1 (by omega) y1
 exact add_ok n1 d1 n2 d2 w (both_of v1 v2) rfl rfl rfl a0 a1 b0 b1 c0 c1
theorem fr_sub {n1 d1 n2 d2 : Int} (v1 : vld n1 d1 = true) (v2 : vld n2 d2 = true) (w : World) : Calls Tryz.prog 144 #[V2 n1 d1, V2 n2 d2] w (Ret (F3 (nw (n1 * d2 - n2 * d1) (d1 * d2))) w) := by
 have v3 : vld (-n2) d2 = true := by rw [vld_neg]; exact v2
 obtain ⟨y0, y1, y2, y3, _⟩ := vld_of v2
 have hm : wrap64 (-n2) = -n2 := by unfold wrap64; omega
 have A := Lib.hid fun w => fr_add v1 v3 w
 rw [Int.neg_mul, <- Int.sub_eq_add_neg] at A
 exact sub_any n1 d1 n2 d2 _ _ _ _ w hm A
theorem fr_mul {n1 d1 n2 d2 : Int} (v1 : vld n1 d1 = true) (v2 : vld n2 d2 = true) (w : World) : Calls Tryz.prog 145 #[V2 n1 d1, V2 n2 d2] w (Ret (F3 (nw (n1 * n2) (d1 * d2))) w) := by
 obtain ⟨x0, x1, x2, x3, _⟩ := vld_of v1
 obtain ⟨y0, y1, y2, y3, _⟩ := vld_of v2
 obtain ⟨a0, a1⟩ := prod_bound2 x2 x3 y2 y3
 obtain ⟨c0, c1⟩ := prod_bound (a := d1) (b := d2) (by omega) x1 (by omega) y1
 exact mul_ok n1 d1 n2 d2 w (both_of v1 v2) rfl rfl a0 a1 c0 c1
theorem fr_div {n1 d1 n2 d2 : Int} (v1 : vld n1 d1 = true) (v2 : vld n2 d2 = true) (w : World) : Calls Tryz.prog 146 #[V2 n1 d1, V2 n2 d2] w (Ret (F3 (nw (n1 * d2) (d1 * n2))) w) := by
 obtain ⟨x0, x1, x2, x3, _⟩ := vld_of v1
 obtain ⟨y0, y1, y2, y3, _⟩ := vld_of v2
 obtain ⟨a0, a1⟩ := prod_bound x2 x3 (b := d2) (by omega) y1
 obtain ⟨c0, c1⟩ := prod_bound2 (a := d1) (b := n2) (by omega) x1 y2 y3
 exact div_ok n1 d1 n2 d2 w (both_of v1 v2) rfl rfl a0 a1 c0 c1
theorem fr_neg {n1 d1 : Int} (v1 : vld n1 d1 = true) (w : World) : Calls Tryz.prog 147 #[V2 n1 d1] w (Ret (V2 (-n1) d1) w) := by
 have := Fr.neg_any n1 d1 w
 unfold ngN ngD at this
 rw [v1] at this
 exact this
theorem fr_cmp {n1 d1 n2 d2 : Int} (v1 : vld n1 d1 = true) (v2 : vld n2 d2 = true) (w : World) : Calls Tryz.prog 141 #[V2 n1 d1, V2 n2 d2] w (Ret (.int .i64 (cmpv (n1 * d2) (n2 * d1))) w) := by
 obtain ⟨x0, x1, x2, x3, _⟩ := vld_of v1
 obtain ⟨y0, y1, y2, y3, _⟩ := vld_of v2
 obtain ⟨a0, a1⟩ := prod_bound x2 x3 (b := d2) (by omega) y1
 obtain ⟨b0, b1⟩ := prod_bound y2 y3 (b := d1) (by omega) x1
 have := cmp_ok n1 d1 n2 d2 _ _ w (both_of v1 v2) rfl rfl a0 a1 b0 b1
 unfold cmpr at this
 rw [if_pos (both_of v1 v2)] at this
 exact this

set_option maxHeartbeats 4000000 in
theorem c_afr4 (op : Int) {n1 d1 n2 d2 : Int} (r : A3) (w : World) (f : Nat) (h : op = 4 \/ op = 5 \/ op = 6 \/ op = 7)
  (CA : Hid (∀ w, op = 4 -> Calls Tryz.prog 143 #[V2 n1 d1, V2 n2 d2] w (Ret (F3 r) w))) (CS : Hid (∀ w, op = 5 -> Calls Tryz.prog 144 #[V2 n1 d1, V2 n2 d2] w (Ret (F3 r) w)))
  (CM : Hid (∀ w, op = 6 -> Calls Tryz.prog 145 #[V2 n1 d1, V2 n2 d2] w (Ret (F3 r) w))) (CD : Hid (∀ w, op = 7 -> Calls Tryz.prog 146 #[V2 n1 d1, V2 n2 d2] w (Ret (F3 r) w))) :
  Calls Tryz.prog 125 #[.int .i64 op, V2 n1 d1, V2 n2 d2] w (Ret (F3 r) w) := by
 obtain ⟨x, y, z⟩ := r
 rcases h with rfl | rfl | rfl | rfl
 ·have C := Lib.hid fun w => CA.out w rfl
  clear CA CS CM CD
  go_enter Tryz.func125, Tryz.ntmps125
  go_wp2_with (first | (go_at_call 143; (with_reducible refine (C.out _).mono ?_); rintro e w1 ⟨rfl, hb1⟩; have hc1 := (bcell hb1).1; have hf1 := (bcell hb1).2; have z1_0 : w.heap.size < w1.heap.size := (by have hzz := hb1.size; (try simp at hzz); omega); have z1_1 : w.heap.size + 1 < w1.heap.size := (by have hzz := hb1.size; (try simp at hzz); omega); have z1_2 : w.heap.size + 1 + 1 < w1.heap.size := (by have hzz := hb1.size; (try simp at hzz); omega); have K1 : Below w.heap.size w w1 := Below.trans (b := _) (by (repeat' (first | (with_reducible exact Below.refl _ _) | (with_reducible refine Below.alloc ?_ ?_ _) | (with_reducible refine Below.setCell ?_ ?_ _) | (with_reducible refine below_drewN ?_ _) | (simp; done) | omega | (simp; omega)))) (hb1.mono (by have hzz := hb1.size; (try simp at hzz); first | omega | (simp; done) | (simp; omega)))))
  refine bodyPost_ret (v := Frac3 x y z) (by simp [results, Tryz.results125, go_sem, hc1, hf1, z1_0, Nat.lt_succ_of_lt z1_0, Nat.ne_of_lt z1_0, Nat.ne_of_gt z1_0, z1_1, Nat.lt_succ_of_lt z1_1, Nat.ne_of_lt z1_1, Nat.ne_of_gt z1_1, z1_2, Nat.lt_succ_of_lt z1_2, Nat.ne_of_lt z1_2, Nat.ne_of_gt z1_2]) rfl ⟨rfl, ?_⟩; (repeat' (first | (with_reducible exact Below.refl _ _) | (with_reducible exact K1) | (with_reducible refine Below.alloc ?_ ?_ _) | (with_reducible refine Below.setCell ?_ ?_ _) | (with_reducible refine below_drewN ?_ _) | (simp; done) | omega | (simp; omega)))
 ·have C := Lib.hid fun w => CS.out w rfl
  clear CA CS CM CD
  go_enter Tryz.func125, Tryz.ntmps125
  go_wp2_with (first | (go_at_call 144; (with_reducible refine (C.out _).mono ?_); rintro e w1 ⟨rfl, hb1⟩; have hc1 := (bcell hb1).1; have hf1 := (bcell hb1).2; have z1_0 : w.heap.size < w1.heap.size := (by have hzz := hb1.size; (try simp at hzz); omega); have z1_1 : w.heap.size + 1 < w1.heap.size := (by have hzz := hb1.size; (try simp at hzz); omega); have z1_2 : w.heap.size + 1 + 1 < w1.heap.size := (by have hzz := hb1.size; (try simp at hzz); omega); have K1 : Below w.heap.size w w1 := Below.trans (b := _) (by (repeat' (first | (with_reducible exact Below.refl _ _) | (with_reducible refine Below.alloc ?_ ?_ _) | (with_reducible refine Below.setCell ?_ ?_ _) | (with_reducible refine below_drewN ?_ _) | (simp; done) | omega | (simp; omega)))) (hb1.mono (by have hzz := hb1.size; (try simp at hzz); first | omega | (simp; done) | (simp; omega)))))
  refine bodyPost_ret (v := Frac3 x y z) (by simp [results, Tryz.results125, go_sem, hc1, hf1, z1_0, Nat.lt_succ_of_lt z1_0, Nat.ne_of_lt z1_0, Nat.ne_of_gt z1_0, z1_1, Nat.lt_succ_of_lt z1_1, Nat.ne_of_lt z1_1, Nat.ne_of_gt z1_1, z1_2, Nat.lt_succ_of_lt z1_2, Nat.ne_of_lt z1_2, Nat.ne_of_gt z1_2]) rfl ⟨rfl, ?_⟩; (repeat' (first | (with_reducible exact Below.refl _ _) | (with_reducible exact K1) | (with_reducible refine Below.alloc ?_ ?_ _) | (with_reducible refine Below.setCell ?_ ?_ _) | (with_reducible refine below_drewN ?_ _) | (simp; done) | omega | (simp; omega)))
 ·have C := Lib.hid fun w => CM.out w rfl
  clear CA CS CM CD
  go_enter Tryz.func125, Tryz.ntmps125
  go_wp2_with (first | (go_at_call 145; (with_reducible refine (C.out _).mono ?_); rintro e w1 ⟨rfl, hb1⟩; have hc1 := (bcell hb1).1; have hf1 := (bcell hb1).2; have z1_0 : w.heap.size < w1.heap.size := (by have hzz := hb1.size; (try simp at hzz); omega); have z1_1 : w.heap.size + 1 < w1.heap.size := (by have hzz := hb1.size; (try simp at hzz); omega); have z1_2 : w.heap.size + 1 + 1 < w1.heap.size := (by have hzz := hb1.size; (try simp at hzz); omega); have K1 : Below w.heap.size w w1 := Below.trans (b := _) (by (repeat' (first | (with_reducible exact Below.refl _ _) | (with_reducible refine Below.alloc ?_ ?_ _) | (with_reducible refine Below.setCell ?_ ?_ _) | (with_reducible refine below_drewN ?_ _) | (simp; done) | omega | (simp; omega)))) (hb1.mono (by have hzz := hb1.size; (try simp at hzz); first | omega | (simp; done) | (simp; omega)))))
  refine bodyPost_ret (v := Frac3 x y z) (by simp [results, Tryz.results125, go_sem, hc1, hf1, z1_0, Nat.lt_succ_of_lt z1_0, Nat.ne_of_lt z1_0, Nat.ne_of_gt z1_0, z1_1, Nat.lt_succ_of_lt z1_1, Nat.ne_of_lt z1_1, Nat.ne_of_gt z1_1, z1_2, Nat.lt_succ_of_lt z1_2, Nat.ne_of_lt z1_2, Nat.ne_of_gt z1_2]) rfl ⟨rfl, ?_⟩; (repeat' (first | (with_reducible exact Below.refl _ _) | (with_reducible exact K1) | (with_reducible refine Below.alloc ?_ ?_ _) | (with_reducible refine Below.setCell ?_ ?_ _) | (with_reducible refine below_drewN ?_ _) | (simp; done) | omega | (simp; omega)))
 ·have C := Lib.hid fun w => CD.out w rfl
  clear CA CS CM CD
  go_enter Tryz.func125, Tryz.ntmps125
  go_wp2_with (first | (go_at_call 146; (with_reducible refine (C.out _).mono ?_); rintro e w1 ⟨rfl, hb1⟩; have hc1 := (bcell hb1).1; have hf1 := (bcell hb1).2; have z1_0 : w.heap.size < w1.heap.size := (by have hzz := hb1.size; (try simp at hzz); omega); have z1_1 : w.heap.size + 1 < w1.heap.size := (by have hzz := hb1.size; (try simp at hzz); omega); have z1_2 : w.heap.size + 1 + 1 < w1.heap.size := (by have hzz := hb1.size; (try simp at hzz); omega); have K1 : Below w.heap.size w w1 := Below.trans (b := _) (by (repeat' (first | (with_reducible exact Below.refl _ _) | (with_reducible refine Below.alloc ?_ ?_ _) | (with_reducible refine Below.setCell ?_ ?_ _) | (with_reducible refine below_drewN ?_ _) | (simp; done) | omega | (simp; omega)))) (hb1.mono (by have hzz := hb1.size; (try simp at hzz); first | omega | (simp; done) | (simp; omega)))))
  refine bodyPost_ret (v := Frac3 x y z) (by simp [results, Tryz.results125, go_sem, hc1, hf1, z1_0, Nat.lt_succ_of_lt z1_0, Nat.ne_of_lt z1_0, Nat.ne_of_gt z1_0, z1_1, Nat.lt_succ_of_lt z1_1, Nat.ne_of_lt z1_1, Nat.ne_of_gt z1_1, z1_2, Nat.lt_succ_of_lt z1_2, Nat.ne_of_lt z1_2, Nat.ne_of_gt z1_2]) rfl ⟨rfl, ?_⟩; (repeat' (first | (with_reducible exact Below.refl _ _) | (with_reducible exact K1) | (with_reducible refine Below.alloc ?_ ?_ _) | (with_reducible refine Below.setCell ?_ ?_ _) | (with_reducible refine below_drewN ?_ _) | (simp; done) | omega | (simp; omega)))
theorem c_afr8 (op : Int) {n1 d1 n2 d2 : Int} (w : World) (h : op = 8) (v1 : vld n1 d1 = true) : Calls Tryz.prog 125 #[.int .i64 op, V2 n1 d1, V2 n2 d2] w (Ret (F3 (-n1, d1, 0)) w) := by
 have C := Lib.hid fun w => fr_neg v1 w
 subst h
 clear v1
 go_enter Tryz.func125, Tryz.ntmps125
 go_wp2_with (first | (go_at_call 147; (with_reducible refine (C.out _).mono ?_); rintro e w1 ⟨rfl, hb1⟩; have hc1 := (bcell hb1).1; have hf1 := (bcell hb1).2; have z1_0 : w.heap.size < w1.heap.size := (by have hzz := hb1.size; (try simp at hzz); omega); have z1_1 : w.heap.size + 1 < w1.heap.size := (by have hzz := hb1.size; (try simp at hzz); omega); have z1_2 : w.heap.size + 1 + 1 < w1.heap.size := (by have hzz := hb1.size; (try simp at hzz); omega); have K1 : Below w.heap.size w w1 := Below.trans (b := _) (by (repeat' (first | (with_reducible exact Below.refl _ _) | (with_reducible refine Below.alloc ?_ ?_ _) | (with_reducible refine Below.setCell ?_ ?_ _) | (with_reducible refine below_drewN ?_ _) | (simp; done) | omega | (simp; omega)))) (hb1.mono (by have hzz := hb1.size; (try simp at hzz); first | omega | (simp; done) | (simp; omega)))))
 refine bodyPost_ret (v := Frac3 (-n1) d1 0) (by simp [results, Tryz.results125, go_sem, hc1, hf1, z1_0, Nat.lt_succ_of_lt z1_0, Nat.ne_of_lt z1_0, Nat.ne_of_gt z1_0, z1_1, Nat.lt_succ_of_lt z1_1, Nat.ne_of_lt z1_1, Nat.ne_of_gt z1_1, z1_2, Nat.lt_succ_of_lt z1_2, Nat.ne_of_lt z1_2, Nat.ne_of_gt z1_2]) rfl ⟨rfl, ?_⟩; (repeat' (first | (with_reducible exact Below.refl _ _) | (with_reducible exact K1) | (with_reducible refine Below.alloc ?_ ?_ _) | (with_reducible refine Below.setCell ?_ ?_ _) | (with_reducible refine below_drewN ?_ _) | (simp; done) | omega | (simp; omega)))
theorem c_afr (op : Int) {n1 d1 n2 d2 : Int} (w : World) (h0 : 4 <= op) (h1 : op <= 8) (v1 : vld n1 d1 = true) (v2 : op ≠ 8 -> vld n2 d2 = true) : Calls Tryz.prog 125 #[.int .i64 op, V2 n1 d1, V2 n2 d2] w (Ret (F3 (frv op n1 d1 n2 d2)) w) := by
 by_cases h8 : op = 8
 ·rw [show frv op n1 d1 n2 d2 = (-n1, d1, 0) by unfold frv; rw [if_neg (by omega), if_neg (by omega), if_neg (by omega), if_neg (by omega)]]
  exact c_afr8 op w h8 v1
 ·refine c_afr4 op (frv op n1 d1 n2 d2) w 0 (by omega) (Lib.hid fun w h => ?_) (Lib.hid fun w h => ?_) (Lib.hid fun w h => ?_) (Lib.hid fun w h => ?_)
  ·subst h; exact fr_add v1 (v2 h8) w
  ·subst h; exact fr_sub v1 (v2 h8) w
  ·subst h; exact fr_mul v1 (v2 h8) w
  ·subst h; exact fr_div v1 (v2 h8) w

set_option maxHeartbeats 4000000 in
theorem c_afx4 (op K B F R O : Int) {n1 d1 n2 d2 : Int} (r : A3) (w : World) (h : op = 4 \/ op = 5 \/ op = 6 \/ op = 7)
  (CA : Hid (∀ w, op = 4 -> Calls Tryz.prog 148 #[T5 K B F R O, V2 n1 d1, V2 n2 d2] w (Ret (F3 r) w))) (CS : Hid (∀ w, op = 5 -> Calls Tryz.prog 149 #[T5 K B F R O, V2 n1 d1, V2 n2 d2] w (Ret (F3 r) w)))
  (CM : Hid (∀ w, op = 6 -> Calls Tryz.prog 150 #[T5 K B F R O, V2 n1 d1, V2 n2 d2] w (Ret (F3 r) w))) (CD : Hid (∀ w, op = 7 -> Calls Tryz.prog 151 #[T5 K B F R O, V2 n1 d1, V2 n2 d2] w (Ret (F3 r) w))) :
  Calls Tryz.prog 126 #[.int .i64 op, T5 K B F R O, V2 n1 d1, V2 n2 d2] w (Ret (F3 r) w) := by
 obtain ⟨x, y, z⟩ := r
 rcases h with rfl | rfl | rfl | rfl
 ·have C := Lib.hid fun w => CA.out w rfl
  clear CA CS CM CD
  go_enter Tryz.func126, Tryz.ntmps126
  go_wp2_with (first | (go_at_call 148; (with_reducible refine (C.out _).mono ?_); rintro e w1 ⟨rfl, hb1⟩; have hc1 := (bcell hb1).1; have hf1 := (bcell hb1).2; have z1_0 : w.heap.size < w1.heap.size := (by have hzz := hb1.size; (try simp at hzz); omega); have z1_1 : w.heap.size + 1 < w1.heap.size := (by have hzz := hb1.size; (try simp at hzz); omega); have z1_2 : w.heap.size + 1 + 1 < w1.heap.size := (by have hzz := hb1.size; (try simp at hzz); omega); have z1_3 : w.heap.size + 1 + 1 + 1 < w1.heap.size := (by have hzz := hb1.size; (try simp at hzz); omega); have K1 : Below w.heap.size w w1 := Below.trans (b := _) (by (repeat' (first | (with_reducible exact Below.refl _ _) | (with_reducible refine Below.alloc ?_ ?_ _) | (with_reducible refine Below.setCell ?_ ?_ _) | (with_reducible refine below_drewN ?_ _) | (simp; done) | omega | (simp; omega)))) (hb1.mono (by have hzz := hb1.size; (try simp at hzz); first | omega | (simp; done) | (simp; omega)))))
  refine bodyPost_ret (v := Frac3 x y z) (by simp [results, Tryz.results126, go_sem, hc1, hf1, z1_0, Nat.lt_succ_of_lt z1_0, Nat.ne_of_lt z1_0, Nat.ne_of_gt z1_0, z1_1, Nat.lt_succ_of_lt z1_1, Nat.ne_of_lt z1_1, Nat.ne_of_gt z1_1, z1_2, Nat.lt_succ_of_lt z1_2, Nat.ne_of_lt z1_2, Nat.ne_of_gt z1_2, z1_3, Nat.lt_succ_of_lt z1_3, Nat.ne_of_lt z1_3, Nat.ne_of_gt z1_3]) rfl ⟨rfl, ?_⟩; (repeat' (first | (with_reducible exact Below.refl _ _) | (with_reducible exact K1) | (with_reducible refine Below.alloc ?_ ?_ _) | (with_reducible refine Below.setCell ?_ ?_ _) | (with_reducible refine below_drewN ?_ _) | (simp; done) | omega | (simp; omega)))
 ·have C := Lib.hid fun w => CS.out w rfl
  clear CA CS CM CD
  go_enter Tryz.func126, Tryz.ntmps126
  go_wp2_with (first | (go_at_call 149; (with_reducible refine (C.out _).mono ?_); rintro e w1 ⟨rfl, hb1⟩; have hc1 := (bcell hb1).1; have hf1 := (bcell hb1).2; have z1_0 : w.heap.size < w1.heap.size := (by have hzz := hb1.size; (try simp at hzz); omega); have z1_1 : w.heap.size + 1 < w1.heap.size := (by have hzz := hb1.size; (try simp at hzz); omega); have z1_2 : w.heap.size + 1 + 1 < w1.heap.size := (by have hzz := hb1.size; (try simp at hzz); omega); have z1_3 : w.heap.size + 1 + 1 + 1 < w1.heap.size := (by have hzz := hb1.size; (try simp at hzz); omega); have K1 : Below w.heap.size w w1 := Below.trans (b := _) (by (repeat' (first | (with_reducible exact Below.refl _ _) | (with_reducible refine Below.alloc ?_ ?_ _) | (with_reducible refine Below.setCell ?_ ?_ _) | (with_reducible refine below_drewN ?_ _) | (simp; done) | omega | (simp; omega)))) (hb1.mono (by have hzz := hb1.size; (try simp at hzz); first | omega | (simp; done) | (simp; omega)))))
  refine bodyPost_ret (v := Frac3 x y z) (by simp [results, Tryz.results126, go_sem, hc1, hf1, z1_0, Nat.lt_succ_of_lt z1_0, Nat.ne_of_lt z1_0, Nat.ne_of_gt z1_0, z1_1, Nat.lt_succ_of_lt z1_1, Nat.ne_of_lt z1_1, Nat.ne_of_gt z1_1, z1_2, Nat.lt_succ_of_lt z1_2, Nat.ne_of_lt z1_2, Nat.ne_of_gt z1_2, z1_3, Nat.lt_succ_of_lt z1_3, Nat.ne_of_lt z1_3, Nat.ne_of_gt z1_3]) rfl ⟨rfl, ?_⟩; (repeat' (first | (with_reducible exact Below.refl _ _) | (with_reducible exact K1) | (with_reducible refine Below.alloc ?_ ?_ _) | (with_reducible refine Below.setCell ?_ ?_ _) | (with_reducible refine below_drewN ?_ _) | (simp; done) | omega | (simp; omega)))
 ·have C := Lib.hid fun w => CM.out w rfl
  clear CA CS CM CD
  go_enter Tryz.func126, Tryz.ntmps126
  go_wp2_with (first | (go_at_call 150; (with_reducible refine (C.out _).mono ?_); rintro e w1 ⟨rfl, hb1⟩; have hc1 := (bcell hb1).1; have hf1 := (bcell hb1).2; have z1_0 : w.heap.size < w1.heap.size := (by have hzz := hb1.size; (try simp at hzz); omega); have z1_1 : w.heap.size + 1 < w1.heap.size := (by have hzz := hb1.size; (try simp at hzz); omega); have z1_2 : w.heap.size + 1 + 1 < w1.heap.size := (by have hzz := hb1.size; (try simp at hzz); omega); have z1_3 : w.heap.size + 1 + 1 + 1 < w1.heap.size := (by have hzz := hb1.size; (try simp at hzz); omega); have K1 : Below w.heap.size w w1 := Below.trans (b := _) (by (repeat' (first | (with_reducible exact Below.refl _ _) | (with_reducible refine Below.alloc ?_ ?_ _) | (with_reducible refine Below.setCell ?_ ?_ _) | (with_reducible refine below_drewN ?_ _) | (simp; done) | omega | (simp; omega)))) (hb1.mono (by have hzz := hb1.size; (try simp at hzz); first | omega | (simp; done) | (simp; omega)))))
  refine bodyPost_ret (v := Frac3 x y z) (by simp [results, Tryz.results126, go_sem, hc1, hf1, z1_0, Nat.lt_succ_of_lt z1_0, Nat.ne_of_lt z1_0, Nat.ne_of_gt z1_0, z1_1, Nat.lt_succ_of_lt z1_1, Nat.ne_of_lt z1_1, Nat.ne_of_gt z1_1, z1_2, Nat.lt_succ_of_lt z1_2, Nat.ne_of_lt z1_2, Nat.ne_of_gt z1_2, z1_3, Nat.lt_succ_of_lt z1_3, Nat.ne_of_lt z1_3, Nat.ne_of_gt z1_3]) rfl ⟨rfl, ?_⟩; (repeat' (first | (with_reducible exact Below.refl _ _) | (with_reducible exact K1) | (with_reducible refine Below.alloc ?_ ?_ _) | (with_reducible refine Below.setCell ?_ ?_ _) | (with_reducible refine below_drewN ?_ _) | (simp; done) | omega | (simp; omega)))
 ·have C := Lib.hid fun w => CD.out w rfl
  clear CA CS CM CD
  go_enter Tryz.func126, Tryz.ntmps126
  go_wp2_with (first | (go_at_call 151; (with_reducible refine (C.out _).mono ?_); rintro e w1 ⟨rfl, hb1⟩; have hc1 := (bcell hb1).1; have hf1 := (bcell hb1).2; have z1_0 : w.heap.size < w1.heap.size := (by have hzz := hb1.size; (try simp at hzz); omega); have z1_1 : w.heap.size + 1 < w1.heap.size := (by have hzz := hb1.size; (try simp at hzz); omega); have z1_2 : w.heap.size + 1 + 1 < w1.heap.size := (by have hzz := hb1.size; (try simp at hzz); omega); have z1_3 : w.heap.size + 1 + 1 + 1 < w1.heap.size := (by have hzz := hb1.size; (try simp at hzz); omega); have K1 : Below w.heap.size w w1 := Below.trans (b := _) (by (repeat' (first | (with_reducible exact Below.refl _ _) | (with_reducible refine Below.alloc ?_ ?_ _) | (with_reducible refine Below.setCell ?_ ?_ _) | (with_reducible refine below_drewN ?_ _) | (simp; done) | omega | (simp; omega)))) (hb1.mono (by have hzz := hb1.size; (try simp at hzz); first | omega | (simp; done) | (simp; omega)))))
  refine bodyPost_ret (v := Frac3 x y z) (by simp [results, Tryz.results126, go_sem, hc1, hf1, z1_0, Nat.lt_succ_of_lt z1_0, Nat.ne_of_lt z1_0, Nat.ne_of_gt z1_0, z1_1, Nat.lt_succ_of_lt z1_1, Nat.ne_of_lt z1_1, Nat.ne_of_gt z1_1, z1_2, Nat.lt_succ_of_lt z1_2, Nat.ne_of_lt z1_2, Nat.ne_of_gt z1_2, z1_3, Nat.lt_succ_of_lt z1_3, Nat.ne_of_lt z1_3, Nat.ne_of_gt z1_3]) rfl ⟨rfl, ?_⟩; (repeat' (first | (with_reducible exact Below.refl _ _) | (with_reducible exact K1) | (with_reducible refine Below.alloc ?_ ?_ _) | (with_reducible refine Below.setCell ?_ ?_ _) | (with_reducible refine below_drewN ?_ _) | (simp; done) | omega | (simp; omega)))
theorem c_afx8 (op K B F R O : Int) {n1 d1 n2 d2 : Int} (r : A3) (w : World) (h : op = 8) (C : Hid (∀ w, Calls Tryz.prog 152 #[T5 K B F R O, V2 n1 d1] w (Ret (F3 r) w))) : Calls Tryz.prog 126 #[.int .i64 op, T5 K B F R O, V2 n1 d1, V2 n2 d2] w (Ret (F3 r) w) := by
 obtain ⟨x, y, z⟩ := r
 subst h
 go_enter Tryz.func126, Tryz.ntmps126
 go_wp2_with (first | (go_at_call 152; (with_reducible refine (C.out _).mono ?_); rintro e w1 ⟨rfl, hb1⟩; have hc1 := (bcell hb1).1; have hf1 := (bcell hb1).2; have z1_0 : w.heap.size < w1.heap.size := (by have hzz := hb1.size; (try simp at hzz); omega); have z1_1 : w.heap.size + 1 < w1.heap.size := (by have hzz := hb1.size; (try simp at hzz); omega); have z1_2 : w.heap.size + 1 + 1 < w1.heap.size := (by have hzz := hb1.size; (try simp at hzz); omega); have z1_3 : w.heap.size + 1 + 1 + 1 < w1.heap.size := (by have hzz := hb1.size; (try simp at hzz); omega); have K1 : Below w.heap.size w w1 := Below.trans (b := _) (by (repeat' (first | (with_reducible exact Below.refl _ _) | (with_reducible refine Below.alloc ?_ ?_ _) | (with_reducible refine Below.setCell ?_ ?_ _) | (with_reducible refine below_drewN ?_ _) | (simp; done) | omega | (simp; omega)))) (hb1.mono (by have hzz := hb1.size; (try simp at hzz); first | omega | (simp; done) | (simp; omega)))))
 refine bodyPost_ret (v := Frac3 x y z) (by simp [results, Tryz.results126, go_sem, hc1, hf1, z1_0, Nat.lt_succ_of_lt z1_0, Nat.ne_of_lt z1_0, Nat.ne_of_gt z1_0, z1_1, Nat.lt_succ_of_lt z1_1, Nat.ne_of_lt z1_1, Nat.ne_of_gt z1_1, z1_2, Nat.lt_succ_of_lt z1_2, Nat.ne_of_lt z1_2, Nat.ne_of_gt z1_2, z1_3, Nat.lt_succ_of_lt z1_3, Nat.ne_of_lt z1_3, Nat.ne_of_gt z1_3]) rfl ⟨rfl, ?_⟩; (repeat' (first | (with_reducible exact Below.refl _ _) | (with_reducible exact K1) | (with_reducible refine Below.alloc ?_ ?_ _) | (with_reducible refine Below.setCell ?_ ?_ _) | (with_reducible refine below_drewN ?_ _) | (simp; done) | omega | (simp; omega)))
theorem c_afx (op K B F R O : Int) {n1 d1 n2 d2 : Int} (w : World) (h0 : 4 <= op) (h1 : op <= 8) (v1 : fv K B F R O n1 d1 = true) (v2 : op ≠ 8 -> fv K B F R O n2 d2 = true) : Calls Tryz.prog 126 #[.int .i64 op, T5 K B F R O, V2 n1 d1, V2 n2 d2] w (Ret (F3 (fxv op B F R O n1 n2)) w) := by
 by_cases h8 : op = 8
 ·refine c_afx8 op K B F R O _ w h8 (Lib.hid fun w => ?_)
  subst h8
  exact neg_ok2 K B F R O n1 d1 v1 w
 ·have v3 := v2 h8
  refine c_afx4 op K B F R O _ w (by omega) (Lib.hid fun w h => ?_) (Lib.hid fun w h => ?_) (Lib.hid fun w h => ?_) (Lib.hid fun w h => ?_)
  ·subst h; exact add_ok2 K B F R O n1 d1 n2 d2 v1 v3 w
  ·subst h; exact sub_ok2 K B F R O n1 d1 n2 d2 v1 v3 w
  ·subst h; exact mul_ok2 K B F R O n1 d1 n2 d2 v1 v3 w
  ·subst h
   by_cases hz : n2 = 0
   ·subst hz
    exact div_zero2 K B F R O n1 d1 d2 v1 v3 w
   ·have e : fxv 7 B F R O n1 n2 = (Nx.nv (Dv.dval R (n1 * 2 ^ F.toNat) n2) B O, 1, 0) := by unfold fxv; rw [if_neg (by omega)]; rfl
    rw [e]
    exact div_ok2 K B F R O n1 d1 n2 d2 v1 v3 hz w
end Go.Proofs.YteaaikmejacpaaaGreatDoor.Va
