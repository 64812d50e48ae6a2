/- Apply of the reference. -/
import Derived.Test.YteaaikmejacpaaaGreatDoorR0
import Derived.Test.YteaaikmejacpaaaGreatDoorV14
import Derived.Test.YteaaikmejacpaaaGreatDoorR8

namespace Go.Proofs.YteaaikmejacpaaaGreatDoor.Va
open Go.ChangeShapes Go.WideShapes Go.ChangeAt Go.RowKit
open Fr Fx
set_option maxRecDepth 8000
set_option linter.unusedVariables false
set_option linter.unusedSimpArgs false
set_option maxRecDepth 8000
set_option maxHeartbeats 8000000 in
theorem r_whole (op a b : Int) (w : World) (h0 : 4 <= op) (h1 : op <= 8) (a0 : -2147483647 <= a) (a1 : a <= 2147483647) (hb : op ≠ 8 -> -2147483647 <= b /\ b <= 2147483647) : Calls Tryz.prog 94 #[.int .i64 op, .int .i64 a, .int .i64 b] w (Ret (F3 (whv op a b)) w) := by
 have hv : ∀ m : Int, ¬ (op = 7 /\ b = 0) -> whn op a b = m -> whv op a b = if -2147483647 <= m /\ m <= 2147483647 then (m, 1, 0) else (0, 0, 3) := by
  intro m h1 h2
  unfold whv
  rw [if_neg h1, h2]
 rcases (by omega : op = 4 \/ op = 5 \/ op = 6 \/ op = 7 \/ op = 8) with rfl | rfl | rfl | rfl | rfl
 ·obtain ⟨b0, b1⟩ := hb (by decide)
  obtain ⟨m, hm⟩ : ∃ m, a + b = m := ⟨_, rfl⟩
  rw [hv m (by omega) hm]
  clear hv h0 h1 hb
  by_cases hm1 : 2147483647 < m
  ·rw [if_neg (by omega)]
   have g1 : decide (2147483647 < m) = true := by simpa using hm1
   clear hm1
   go_enter Tryz.func94, Tryz.ntmps94
   go_wp2
   refine bodyPost_ret (v := Frac3 0 0 3) (by simp [results, Tryz.results94, go_sem]) rfl ⟨rfl, ?_⟩; exact SqB.b
  ·have g1 : decide (2147483647 < m) = false := by simpa using hm1
   by_cases hm2 : m < -2147483647
   ·rw [if_neg (by omega)]
    have g2 : decide (m < -2147483647) = true := by simpa using hm2
    clear hm1 hm2
    go_enter Tryz.func94, Tryz.ntmps94
    go_wp2
    refine bodyPost_ret (v := Frac3 0 0 3) (by simp [results, Tryz.results94, go_sem]) rfl ⟨rfl, ?_⟩; exact SqB.b
   ·rw [if_pos (by omega)]
    have g2 : decide (m < -2147483647) = false := by simpa using hm2
    clear hm1 hm2
    go_enter Tryz.func94, Tryz.ntmps94
    go_wp2
    refine bodyPost_ret (v := Frac3 m 1 0) (by simp [results, Tryz.results94, go_sem]) rfl ⟨rfl, ?_⟩; exact SqB.b
 ·obtain ⟨b0, b1⟩ := hb (by decide)
  obtain ⟨m, hm⟩ : ∃ m, a - b = m := ⟨_, rfl⟩
  rw [hv m (by omega) hm]
  clear hv h0 h1 hb
  by_cases hm1 : 2147483647 < m
  ·rw [if_neg (by omega)]
   have g1 : decide (2147483647 < m) = true := by simpa using hm1
   clear hm1
   go_enter Tryz.func94, Tryz.ntmps94
   go_wp2
   refine bodyPost_ret (v := Frac3 0 0 3) (by simp [results, Tryz.results94, go_sem]) rfl ⟨rfl, ?_⟩; exact SqB.b
  ·have g1 : decide (2147483647 < m) = false := by simpa using hm1
   by_cases hm2 : m < -2147483647
   ·rw [if_neg (by omega)]
    have g2 : decide (m < -2147483647) = true := by simpa using hm2
    clear hm1 hm2
    go_enter Tryz.func94, Tryz.ntmps94
    go_wp2
    refine bodyPost_ret (v := Frac3 0 0 3) (by simp [results, Tryz.results94, go_sem]) rfl ⟨rfl, ?_⟩; exact SqB.b
   ·rw [if_pos (by omega)]
    have g2 : decide (m < -2147483647) = false := by simpa using hm2
    clear hm1 hm2
    go_enter Tryz.func94, Tryz.ntmps94
    go_wp2
    refine bodyPost_ret (v := Frac3 m 1 0) (by simp [results, Tryz.results94, go_sem]) rfl ⟨rfl, ?_⟩; exact SqB.b
 ·obtain ⟨b0, b1⟩ := hb (by decide)
  obtain ⟨p0, p1⟩ := prod_bound2 a0 a1 b0 b1
  obtain ⟨m, hm⟩ : ∃ m, a * b = m := ⟨_, rfl⟩
  rw [hm] at p0 p1
  rw [hv m (by omega) hm]
  clear hv h0 h1 hb
  by_cases hm1 : 2147483647 < m
  ·rw [if_neg (by omega)]
   have g1 : decide (2147483647 < m) = true := by simpa using hm1
   clear hm1
   go_enter Tryz.func94, Tryz.ntmps94
   go_wp2
   refine bodyPost_ret (v := Frac3 0 0 3) (by simp [results, Tryz.results94, go_sem]) rfl ⟨rfl, ?_⟩; exact SqB.b
  ·have g1 : decide (2147483647 < m) = false := by simpa using hm1
   by_cases hm2 : m < -2147483647
   ·rw [if_neg (by omega)]
    have g2 : decide (m < -2147483647) = true := by simpa using hm2
    clear hm1 hm2
    go_enter Tryz.func94, Tryz.ntmps94
    go_wp2
    refine bodyPost_ret (v := Frac3 0 0 3) (by simp [results, Tryz.results94, go_sem]) rfl ⟨rfl, ?_⟩; exact SqB.b
   ·rw [if_pos (by omega)]
    have g2 : decide (m < -2147483647) = false := by simpa using hm2
    clear hm1 hm2
    go_enter Tryz.func94, Tryz.ntmps94
    go_wp2
    refine bodyPost_ret (v := Frac3 m 1 0) (by simp [results, Tryz.results94, go_sem]) rfl ⟨rfl, ?_⟩; exact SqB.b
 ·by_cases hz : b = 0
  ·subst hz
   rw [show whv 7 a 0 = (0, 0, 4) by unfold whv; rw [if_pos ⟨rfl, rfl⟩]]
   clear hv hb h0 h1
   go_enter Tryz.func94, Tryz.ntmps94
   go_wp2
   refine bodyPost_ret (v := Frac3 0 0 4) (by simp [results, Tryz.results94, go_sem]) rfl ⟨rfl, ?_⟩; exact SqB.b
  ·obtain ⟨b0, b1⟩ := hb (by decide)
   obtain ⟨m, hm⟩ : ∃ m, Dv.dval 1 a b = m := ⟨_, rfl⟩
   rw [hv m (by omega) hm]
   have z0 : (b == 0) = false := by simpa using hz
   by_cases hl : b < 0
   ·have FL := Lib.hid fun w => r_floor (-a) (-b) w (by omega) (by omega) (by omega) (by omega)
    rw [dval_neg 1 a b (by omega) (by omega) (by omega) (by omega) hz, hm] at FL
    have z1 : decide (b < 0) = true := by simpa using hl
    clear hv hb h0 h1 hm hz hl
    by_cases hm1 : 2147483647 < m
    ·rw [if_neg (by omega)]
     have g1 : decide (2147483647 < m) = true := by simpa using hm1
     clear hm1
     go_enter Tryz.func94, Tryz.ntmps94
     go_wp2_with (first | (go_at_call 120; (with_reducible refine (FL.out _).mono ?_); rintro e w9 ⟨rfl, rfl⟩))
     refine bodyPost_ret (v := Frac3 0 0 3) (by simp [results, Tryz.results94, go_sem]) rfl ⟨rfl, ?_⟩; exact SqB.b
    ·have g1 : decide (2147483647 < m) = false := by simpa using hm1
     by_cases hm2 : m < -2147483647
     ·rw [if_neg (by omega)]
      have g2 : decide (m < -2147483647) = true := by simpa using hm2
      clear hm1 hm2
      go_enter Tryz.func94, Tryz.ntmps94
      go_wp2_with (first | (go_at_call 120; (with_reducible refine (FL.out _).mono ?_); rintro e w9 ⟨rfl, rfl⟩))
      refine bodyPost_ret (v := Frac3 0 0 3) (by simp [results, Tryz.results94, go_sem]) rfl ⟨rfl, ?_⟩; exact SqB.b
     ·rw [if_pos (by omega)]
      have g2 : decide (m < -2147483647) = false := by simpa using hm2
      clear hm1 hm2
      go_enter Tryz.func94, Tryz.ntmps94
      go_wp2_with (first | (go_at_call 120; (with_reducible refine (FL.out _).mono ?_); rintro e w9 ⟨rfl, rfl⟩))
      refine bodyPost_ret (v := Frac3 m 1 0) (by simp [results, Tryz.results94, go_sem]) rfl ⟨rfl, ?_⟩; exact SqB.b
   ·have FL := Lib.hid fun w => r_floor a b w (by omega) (by omega) (by omega) (by omega)
    rw [hm] at FL
    have z1 : decide (b < 0) = false := by simpa using hl
    clear hv hb h0 h1 hm hz hl
    by_cases hm1 : 2147483647 < m
    ·rw [if_neg (by omega)]
     have g1 : decide (2147483647 < m) = true := by simpa using hm1
     clear hm1
     go_enter Tryz.func94, Tryz.ntmps94
     go_wp2_with (first | (go_at_call 120; (with_reducible refine (FL.out _).mono ?_); rintro e w9 ⟨rfl, rfl⟩))
     refine bodyPost_ret (v := Frac3 0 0 3) (by simp [results, Tryz.results94, go_sem]) rfl ⟨rfl, ?_⟩; exact SqB.b
    ·have g1 : decide (2147483647 < m) = false := by simpa using hm1
     by_cases hm2 : m < -2147483647
     ·rw [if_neg (by omega)]
      have g2 : decide (m < -2147483647) = true := by simpa using hm2
      clear hm1 hm2
      go_enter Tryz.func94, Tryz.ntmps94
      go_wp2_with (first | (go_at_call 120; (with_reducible refine (FL.out _).mono ?_); rintro e w9 ⟨rfl, rfl⟩))
      refine bodyPost_ret (v := Frac3 0 0 3) (by simp [results, Tryz.results94, go_sem]) rfl ⟨rfl, ?_⟩; exact SqB.b
     ·rw [if_pos (by omega)]
      have g2 : decide (m < -2147483647) = false := by simpa using hm2
      clear hm1 hm2
      go_enter Tryz.func94, Tryz.ntmps94
      go_wp2_with (first | (go_at_call 120; (with_reducible refine (FL.out _).mono ?_); rintro e w9 ⟨rfl, rfl⟩))
      refine bodyPost_ret (v := Frac3 m 1 0) (by simp [results, Tryz.results94, go_sem]) rfl ⟨rfl, ?_⟩; exact SqB.b
 ·obtain ⟨m, hm⟩ : ∃ m, -a = m := ⟨_, rfl⟩
  rw [hv m (by omega) hm]
  clear hv h0 h1 hb
  by_cases hm1 : 2147483647 < m
  ·rw [if_neg (by omega)]
   have g1 : decide (2147483647 < m) = true := by simpa using hm1
   clear hm1
   go_enter Tryz.func94, Tryz.ntmps94
   go_wp2
   refine bodyPost_ret (v := Frac3 0 0 3) (by simp [results, Tryz.results94, go_sem]) rfl ⟨rfl, ?_⟩; exact SqB.b
  ·have g1 : decide (2147483647 < m) = false := by simpa using hm1
   by_cases hm2 : m < -2147483647
   ·rw [if_neg (by omega)]
    have g2 : decide (m < -2147483647) = true := by simpa using hm2
    clear hm1 hm2
    go_enter Tryz.func94, Tryz.ntmps94
    go_wp2
    refine bodyPost_ret (v := Frac3 0 0 3) (by simp [results, Tryz.results94, go_sem]) rfl ⟨rfl, ?_⟩; exact SqB.b
   ·rw [if_pos (by omega)]
    have g2 : decide (m < -2147483647) = false := by simpa using hm2
    clear hm1 hm2
    go_enter Tryz.func94, Tryz.ntmps94
    go_wp2
    refine bodyPost_ret (v := Frac3 m 1 0) (by simp [results, Tryz.results94, go_sem]) rfl ⟨rfl, ?_⟩; exact SqB.b
theorem vv_vld {K B F R O n d : Int} (h : vv K B F R O n d = true) : vld n d = true := by
 obtain ⟨x1, x2, x3, x4, x5⟩ := vv_small h
 by_cases hk : K = 1
 ·have t1 := vv_ty h
  unfold vv at h
  rw [if_neg (by omega), t1, if_pos hk] at h
  exact h
 ·obtain rfl := x5 hk
  exact vld_one x3 x4
theorem vld_eq {n1 d1 n2 d2 : Int} (v1 : vld n1 d1 = true) (v2 : vld n2 d2 = true) (h : n1 * d2 = n2 * d1) : n1 = n2 /\ d1 = d2 := by
 obtain ⟨x1, _⟩ := vld_parts v1
 obtain ⟨a1, a2, _⟩ := new_back n1 d1 n1 d1 (by omega) v1 rfl
 obtain ⟨b1, b2, _⟩ := new_back n1 d1 n2 d2 (by omega) v2 h
 exact ⟨by rw [<- a1, b1], by rw [<- a2, b2]⟩
theorem cpv_zero {K B F R O n1 d1 n2 d2 : Int} (h1 : vv K B F R O n1 d1 = true) (h2 : vv K B F R O n2 d2 = true) (h : cpv K B F R O n1 d1 n2 d2 = 0) : n1 = n2 /\ d1 = d2 := by
 unfold cpv at h
 rw [h1, h2] at h
 simp only [Bool.and_self, if_true] at h
 refine vld_eq (vv_vld h1) (vv_vld h2) ?_
 rcases cmpv_cases (n1 * d2) (n2 * d1) with ⟨_, e⟩ | ⟨_, e⟩ | ⟨e, _⟩
 ·omega
 ·omega
 ·exact e
set_option maxHeartbeats 4000000 in
theorem r_cmp (K B F R O n1 d1 n2 d2 : Int) (w : World) : Calls Tryz.prog 92 #[T5 K B F R O, V2 n1 d1, V2 n2 d2] w (Ret (.int .i64 (cpv K B F R O n1 d1 n2 d2)) w) := by
 have V1 := Lib.hid fun w => r_va K B F R O n1 d1 w
 have V2 := Lib.hid fun w => r_va K B F R O n2 d2 w
 unfold cpv
 cases h1 : vv K B F R O n1 d1
 ·rw [h1] at V1
  clear V2 h1
  go_enter Tryz.func92, Tryz.ntmps92
  go_wp2_with (first | (go_at_call 115; (with_reducible refine (V1.out _).mono ?_); rintro e w1 ⟨rfl, hb1⟩; have hc1 := (bcell hb1).1; have hf1 := (bcell hb1).2; have z1_0 : w.heap.size < w1.heap.size := SqB.z hb1; have z1_1 : w.heap.size + 1 < w1.heap.size := SqB.z hb1; have z1_2 : w.heap.size + 1 + 1 < w1.heap.size := SqB.z hb1; have K1 : Below w.heap.size w w1 := SqB.t hb1))
  go_ret
  exact ⟨rfl, K1⟩
 ·rw [h1] at V1
  cases h2 : vv K B F R O n2 d2
  ·rw [h2] at V2
   clear h1 h2
   go_enter Tryz.func92, Tryz.ntmps92
   go_wp2_with (first | (go_at_call 115; (with_reducible refine (V1.out _).mono ?_); rintro e w1 ⟨rfl, hb1⟩; have hc1 := (bcell hb1).1; have hf1 := (bcell hb1).2; have z1_0 : w.heap.size < w1.heap.size := SqB.z hb1; have z1_1 : w.heap.size + 1 < w1.heap.size := SqB.z hb1; have z1_2 : w.heap.size + 1 + 1 < w1.heap.size := SqB.z hb1; have K1 : Below w.heap.size w w1 := SqB.t hb1) | (go_at_call 115; (with_reducible refine (V2.out _).mono ?_); rintro e w2 ⟨rfl, hb2⟩; have hc2 := (bcell hb2).1; have hf2 := (bcell hb2).2; have z2_0 : w.heap.size < w2.heap.size := SqB.z hb2; have z2_1 : w.heap.size + 1 < w2.heap.size := SqB.z hb2; have z2_2 : w.heap.size + 1 + 1 < w2.heap.size := SqB.z hb2; have K2 : Below w.heap.size w w2 := SqB.t hb2))
   go_ret
   exact ⟨rfl, K2⟩
  ·rw [h2] at V2
   obtain ⟨x1, x2, x3, x4, x5⟩ := vv_small h1
   obtain ⟨y1, y2, y3, y4, y5⟩ := vv_small h2
   have w1 : vld n1 d1 = true := by
    by_cases hk : K = 1
    ·have t1 := vv_ty h1
     unfold vv at h1
     rw [if_neg (by omega), t1, if_pos hk] at h1
     exact h1
    ·obtain rfl := x5 hk
     exact vld_one x3 x4
   have w2 : vld n2 d2 = true := by
    by_cases hk : K = 1
    ·have t1 := vv_ty h2
     unfold vv at h2
     rw [if_neg (by omega), t1, if_pos hk] at h2
     exact h2
    ·obtain rfl := y5 hk
     exact vld_one y3 y4
   have FC := Lib.hid fun w => rr_cmp w1 w2 w
   clear h1 h2 w1 w2 x5 y5
   go_enter Tryz.func92, Tryz.ntmps92
   go_wp2_with (first | (go_at_call 115; (with_reducible refine (V1.out _).mono ?_); rintro e w1 ⟨rfl, hb1⟩; have hc1 := (bcell hb1).1; have hf1 := (bcell hb1).2; have z1_0 : w.heap.size < w1.heap.size := SqB.z hb1; have z1_1 : w.heap.size + 1 < w1.heap.size := SqB.z hb1; have z1_2 : w.heap.size + 1 + 1 < w1.heap.size := SqB.z hb1; have K1 : Below w.heap.size w w1 := SqB.t hb1) | (go_at_call 115; (with_reducible refine (V2.out _).mono ?_); rintro e w2 ⟨rfl, hb2⟩; have hc2 := (bcell hb2).1; have hf2 := (bcell hb2).2; have z2_0 : w.heap.size < w2.heap.size := SqB.z hb2; have z2_1 : w.heap.size + 1 < w2.heap.size := SqB.z hb2; have z2_2 : w.heap.size + 1 + 1 < w2.heap.size := SqB.z hb2; have K2 : Below w.heap.size w w2 := SqB.t hb2) | (go_at_call 116; (with_reducible refine (FC.out _).mono ?_); rintro e w3 ⟨rfl, hb3⟩; have hc3 := (bcell hb3).1; have hf3 := (bcell hb3).2; have z3_0 : w.heap.size < w3.heap.size := SqB.z hb3; have z3_1 : w.heap.size + 1 < w3.heap.size := SqB.z hb3; have z3_2 : w.heap.size + 1 + 1 < w3.heap.size := SqB.z hb3; have K3 : Below w.heap.size w w3 := SqB.t hb3))
   go_ret
   exact ⟨rfl, K3⟩

set_option maxHeartbeats 8000000 in
theorem r_ap (op K B F R O n1 d1 n2 d2 : Int) (w : World) :
  Calls Tryz.prog 61 #[.int .i64 op, T5 K B F R O, V2 n1 d1, V2 n2 d2] w (Ret (F3 (apv op K B F R O n1 d1 n2 d2)) w) := by
 by_cases ho : op < 4 \/ 10 < op
 ·rw [show apv op K B F R O n1 d1 n2 d2 = (0, 0, 1) by unfold apv; rw [if_pos ho]]
  rcases ho with ho | ho
  ·have o1 : decide (op < 4) = true := by simpa using ho
   clear ho
   go_enter Tryz.func61, Tryz.ntmps61
   go_wp2
   refine bodyPost_ret (v := Frac3 0 0 1) (by simp [results, Tryz.results61, go_sem]) rfl ⟨rfl, ?_⟩; exact SqB.b
  ·have o1 : decide (op < 4) = false := by simp; omega
   have o2 : decide (10 < op) = true := by simpa using ho
   clear ho
   go_enter Tryz.func61, Tryz.ntmps61
   go_wp2
   refine bodyPost_ret (v := Frac3 0 0 1) (by simp [results, Tryz.results61, go_sem]) rfl ⟨rfl, ?_⟩; exact SqB.b
 have o1 : decide (op < 4) = false := by simp; omega
 have o2 : decide (10 < op) = false := by simp; omega
 have VT := Lib.hid fun w => b_ty K B F R O w
 cases ht : ty K B F R O
 ·rw [show apv op K B F R O n1 d1 n2 d2 = (0, 0, 10) by unfold apv; rw [if_neg ho, if_pos ht]]
  rw [ht] at VT
  clear ho ht
  go_enter Tryz.func61, Tryz.ntmps61
  go_wp2_with (first | (go_at_call 52; (with_reducible refine (VT.out _).mono ?_); rintro e w1 ⟨rfl, hb1⟩; have hc1 := (bcell hb1).1; have hf1 := (bcell hb1).2; have z1_0 : w.heap.size < w1.heap.size := SqB.z hb1; have z1_1 : w.heap.size + 1 < w1.heap.size := SqB.z hb1; have z1_2 : w.heap.size + 1 + 1 < w1.heap.size := SqB.z hb1; have z1_3 : w.heap.size + 1 + 1 + 1 < w1.heap.size := SqB.z hb1; have K1 : Below w.heap.size w w1 := SqB.t hb1))
  refine bodyPost_ret (v := Frac3 0 0 10) (by simp [results, Tryz.results61, go_sem, hc1, hf1, SqB.n z1_0, SqB.n z1_1, SqB.n z1_2, SqB.n z1_3]) rfl ⟨rfl, ?_⟩; exact SqB.b
 rw [ht] at VT
 have V1 := Lib.hid fun w => b_vv K B F R O n1 d1 w ht
 have V2 := Lib.hid fun w => b_vv K B F R O n2 d2 w ht
 cases h1 : vv K B F R O n1 d1
 ·rw [show apv op K B F R O n1 d1 n2 d2 = (0, 0, 1) by unfold apv; rw [if_neg ho, if_neg (by rw [ht]; decide), if_pos (Or.inl h1)]]
  rw [h1] at V1
  clear ho ht h1 V2
  go_enter Tryz.func61, Tryz.ntmps61
  go_wp2_with (first | (go_at_call 52; (with_reducible refine (VT.out _).mono ?_); rintro e w1 ⟨rfl, hb1⟩; have hc1 := (bcell hb1).1; have hf1 := (bcell hb1).2; have z1_0 : w.heap.size < w1.heap.size := SqB.z hb1; have z1_1 : w.heap.size + 1 < w1.heap.size := SqB.z hb1; have z1_2 : w.heap.size + 1 + 1 < w1.heap.size := SqB.z hb1; have z1_3 : w.heap.size + 1 + 1 + 1 < w1.heap.size := SqB.z hb1; have K1 : Below w.heap.size w w1 := SqB.t hb1) | (go_at_call 54; (with_reducible refine (V1.out _).mono ?_); rintro e w2 ⟨rfl, hb2⟩; have hc2 := (bcell hb2).1; have hf2 := (bcell hb2).2; have z2_0 : w.heap.size < w2.heap.size := SqB.z hb2; have z2_1 : w.heap.size + 1 < w2.heap.size := SqB.z hb2; have z2_2 : w.heap.size + 1 + 1 < w2.heap.size := SqB.z hb2; have z2_3 : w.heap.size + 1 + 1 + 1 < w2.heap.size := SqB.z hb2; have K2 : Below w.heap.size w w2 := SqB.t hb2))
  refine bodyPost_ret (v := Frac3 0 0 1) (by simp [results, Tryz.results61, go_sem, hc1, hf1, hc2, hf2, SqB.n z1_0, SqB.n z1_1, SqB.n z1_2, SqB.n z1_3, SqB.n z2_0, SqB.n z2_1, SqB.n z2_2, SqB.n z2_3]) rfl ⟨rfl, ?_⟩; exact SqB.b
 rw [h1] at V1
 by_cases h2 : op ≠ 8 /\ vv K B F R O n2 d2 = false
 ·rw [show apv op K B F R O n1 d1 n2 d2 = (0, 0, 1) by unfold apv; rw [if_neg ho, if_neg (by rw [ht]; decide), if_pos (Or.inr h2)]]
  rw [h2.2] at V2
  have o8 : (op != 8) = true := by simpa using h2.1
  clear ho ht h1 h2
  go_enter Tryz.func61, Tryz.ntmps61
  go_wp2_with (first | (go_at_call 52; (with_reducible refine (VT.out _).mono ?_); rintro e w1 ⟨rfl, hb1⟩; have hc1 := (bcell hb1).1; have hf1 := (bcell hb1).2; have z1_0 : w.heap.size < w1.heap.size := SqB.z hb1; have z1_1 : w.heap.size + 1 < w1.heap.size := SqB.z hb1; have z1_2 : w.heap.size + 1 + 1 < w1.heap.size := SqB.z hb1; have z1_3 : w.heap.size + 1 + 1 + 1 < w1.heap.size := SqB.z hb1; have K1 : Below w.heap.size w w1 := SqB.t hb1) | (go_at_call 54; (with_reducible refine (V1.out _).mono ?_); rintro e w2 ⟨rfl, hb2⟩; have hc2 := (bcell hb2).1; have hf2 := (bcell hb2).2; have z2_0 : w.heap.size < w2.heap.size := SqB.z hb2; have z2_1 : w.heap.size + 1 < w2.heap.size := SqB.z hb2; have z2_2 : w.heap.size + 1 + 1 < w2.heap.size := SqB.z hb2; have z2_3 : w.heap.size + 1 + 1 + 1 < w2.heap.size := SqB.z hb2; have K2 : Below w.heap.size w w2 := SqB.t hb2) | (go_at_call 54; (with_reducible refine (V2.out _).mono ?_); rintro e w3 ⟨rfl, hb3⟩; have hc3 := (bcell hb3).1; have hf3 := (bcell hb3).2; have z3_0 : w.heap.size < w3.heap.size := SqB.z hb3; have z3_1 : w.heap.size + 1 < w3.heap.size := SqB.z hb3; have z3_2 : w.heap.size + 1 + 1 < w3.heap.size := SqB.z hb3; have z3_3 : w.heap.size + 1 + 1 + 1 < w3.heap.size := SqB.z hb3; have K3 : Below w.heap.size w w3 := SqB.t hb3))
  refine bodyPost_ret (v := Frac3 0 0 1) (by simp [results, Tryz.results61, go_sem, hc1, hf1, hc2, hf2, hc3, hf3, SqB.n z1_0, SqB.n z1_1, SqB.n z1_2, SqB.n z1_3, SqB.n z2_0, SqB.n z2_1, SqB.n z2_2, SqB.n z2_3, SqB.n z3_0, SqB.n z3_1, SqB.n z3_2, SqB.n z3_3]) rfl ⟨rfl, ?_⟩; exact SqB.b
 have h3 : op ≠ 8 -> vv K B F R O n2 d2 = true := fun h => by
  cases h4 : vv K B F R O n2 d2
  ·exact absurd ⟨h, h4⟩ h2
  ·rfl
 have V2 : Hid (op ≠ 8 -> ∀ w, Calls Tryz.prog 54 #[T5 K B F R O, Fx.V2 n2 d2] w (Ret (.bool true) w)) := Lib.hid fun h w => by
  have := V2.out w
  rw [h3 h] at this
  exact this
 have hA : ∀ r : A3, (if op = 9 then (if cpv K B F R O n1 d1 n2 d2 <= 0 then (n1, d1, 0) else (n2, d2, 0)) else if op = 10 then (if 0 <= cpv K B F R O n1 d1 n2 d2 then (n1, d1, 0) else (n2, d2, 0))
   else if K = 1 then frv op n1 d1 n2 d2 else if K = 2 then fxv op B F R O n1 n2 else whv op n1 n2) = r -> apv op K B F R O n1 d1 n2 d2 = r := by
  intro r hr
  unfold apv
  rw [if_neg ho, if_neg (by rw [ht]; decide), if_neg (by rw [h1]; simpa using h3), hr]
 obtain ⟨x1, x2, x3, x4, x5⟩ := vv_small h1
 by_cases h9 : op = 9
 ·have CP := Lib.hid fun w => r_cmp K B F R O n1 d1 n2 d2 w
  have V9 := Lib.hid (V2.out (by omega))
  clear V2
  have V2 := V9
  clear V9
  rw [if_pos h9] at hA
  rw [hA _ rfl]
  subst h9
  have hc : cpv K B F R O n1 d1 n2 d2 = -1 \/ cpv K B F R O n1 d1 n2 d2 = 0 \/ cpv K B F R O n1 d1 n2 d2 = 1 := by
   unfold cpv
   split
   ·rcases cmpv_cases (n1 * d2) (n2 * d1) with ⟨_, h⟩ | ⟨_, h⟩ | ⟨_, h⟩ <;> omega
   ·omega
  have hz : cpv K B F R O n1 d1 n2 d2 = 0 -> n1 = n2 /\ d1 = d2 := cpv_zero h1 (h3 (by omega))
  generalize cpv K B F R O n1 d1 n2 d2 = c at *
  clear hA h1 h2 h3 ht ho x1 x2 x3 x4 x5
  rcases hc with rfl | rfl | rfl
  ·clear hz
   show Calls _ _ _ _ (Ret (Frac3 n1 d1 0) w)
   go_enter Tryz.func61, Tryz.ntmps61
   go_wp2_with (first | (go_at_call 52; (with_reducible refine (VT.out _).mono ?_); rintro e w1 ⟨rfl, hb1⟩; have hc1 := (bcell hb1).1; have hf1 := (bcell hb1).2; have z1_0 : w.heap.size < w1.heap.size := SqB.z hb1; have z1_1 : w.heap.size + 1 < w1.heap.size := SqB.z hb1; have z1_2 : w.heap.size + 1 + 1 < w1.heap.size := SqB.z hb1; have z1_3 : w.heap.size + 1 + 1 + 1 < w1.heap.size := SqB.z hb1; have K1 : Below w.heap.size w w1 := SqB.t hb1) | (go_at_call 54; (with_reducible refine (V1.out _).mono ?_); rintro e w2 ⟨rfl, hb2⟩; have hc2 := (bcell hb2).1; have hf2 := (bcell hb2).2; have z2_0 : w.heap.size < w2.heap.size := SqB.z hb2; have z2_1 : w.heap.size + 1 < w2.heap.size := SqB.z hb2; have z2_2 : w.heap.size + 1 + 1 < w2.heap.size := SqB.z hb2; have z2_3 : w.heap.size + 1 + 1 + 1 < w2.heap.size := SqB.z hb2; have K2 : Below w.heap.size w w2 := SqB.t hb2) | (go_at_call 54; (with_reducible refine (V2.out _).mono ?_); rintro e w3 ⟨rfl, hb3⟩; have hc3 := (bcell hb3).1; have hf3 := (bcell hb3).2; have z3_0 : w.heap.size < w3.heap.size := SqB.z hb3; have z3_1 : w.heap.size + 1 < w3.heap.size := SqB.z hb3; have z3_2 : w.heap.size + 1 + 1 < w3.heap.size := SqB.z hb3; have z3_3 : w.heap.size + 1 + 1 + 1 < w3.heap.size := SqB.z hb3; have K3 : Below w.heap.size w w3 := SqB.t hb3) | (go_at_call 92; (with_reducible refine (CP.out _).mono ?_); rintro e w4 ⟨rfl, hb4⟩; have hc4 := (bcell hb4).1; have hf4 := (bcell hb4).2; have z4_0 : w.heap.size < w4.heap.size := SqB.z hb4; have z4_1 : w.heap.size + 1 < w4.heap.size := SqB.z hb4; have z4_2 : w.heap.size + 1 + 1 < w4.heap.size := SqB.z hb4; have z4_3 : w.heap.size + 1 + 1 + 1 < w4.heap.size := SqB.z hb4; have K4 : Below w.heap.size w w4 := SqB.t hb4))
   refine bodyPost_ret (v := Frac3 n1 d1 0) (by simp [results, Tryz.results61, go_sem, hc1, hf1, hc2, hf2, hc3, hf3, hc4, hf4, SqB.n z1_0, SqB.n z1_1, SqB.n z1_2, SqB.n z1_3, SqB.n z2_0, SqB.n z2_1, SqB.n z2_2, SqB.n z2_3, SqB.n z3_0, SqB.n z3_1, SqB.n z3_2, SqB.n z3_3, SqB.n z4_0, SqB.n z4_1, SqB.n z4_2, SqB.n z4_3]) rfl ⟨rfl, ?_⟩; exact SqB.b
  ·clear hz
   show Calls _ _ _ _ (Ret (Frac3 n1 d1 0) w)
   go_enter Tryz.func61, Tryz.ntmps61
   go_wp2_with (first | (go_at_call 52; (with_reducible refine (VT.out _).mono ?_); rintro e w1 ⟨rfl, hb1⟩; have hc1 := (bcell hb1).1; have hf1 := (bcell hb1).2; have z1_0 : w.heap.size < w1.heap.size := SqB.z hb1; have z1_1 : w.heap.size + 1 < w1.heap.size := SqB.z hb1; have z1_2 : w.heap.size + 1 + 1 < w1.heap.size := SqB.z hb1; have z1_3 : w.heap.size + 1 + 1 + 1 < w1.heap.size := SqB.z hb1; have K1 : Below w.heap.size w w1 := SqB.t hb1) | (go_at_call 54; (with_reducible refine (V1.out _).mono ?_); rintro e w2 ⟨rfl, hb2⟩; have hc2 := (bcell hb2).1; have hf2 := (bcell hb2).2; have z2_0 : w.heap.size < w2.heap.size := SqB.z hb2; have z2_1 : w.heap.size + 1 < w2.heap.size := SqB.z hb2; have z2_2 : w.heap.size + 1 + 1 < w2.heap.size := SqB.z hb2; have z2_3 : w.heap.size + 1 + 1 + 1 < w2.heap.size := SqB.z hb2; have K2 : Below w.heap.size w w2 := SqB.t hb2) | (go_at_call 54; (with_reducible refine (V2.out _).mono ?_); rintro e w3 ⟨rfl, hb3⟩; have hc3 := (bcell hb3).1; have hf3 := (bcell hb3).2; have z3_0 : w.heap.size < w3.heap.size := SqB.z hb3; have z3_1 : w.heap.size + 1 < w3.heap.size := SqB.z hb3; have z3_2 : w.heap.size + 1 + 1 < w3.heap.size := SqB.z hb3; have z3_3 : w.heap.size + 1 + 1 + 1 < w3.heap.size := SqB.z hb3; have K3 : Below w.heap.size w w3 := SqB.t hb3) | (go_at_call 92; (with_reducible refine (CP.out _).mono ?_); rintro e w4 ⟨rfl, hb4⟩; have hc4 := (bcell hb4).1; have hf4 := (bcell hb4).2; have z4_0 : w.heap.size < w4.heap.size := SqB.z hb4; have z4_1 : w.heap.size + 1 < w4.heap.size := SqB.z hb4; have z4_2 : w.heap.size + 1 + 1 < w4.heap.size := SqB.z hb4; have z4_3 : w.heap.size + 1 + 1 + 1 < w4.heap.size := SqB.z hb4; have K4 : Below w.heap.size w w4 := SqB.t hb4))
   refine bodyPost_ret (v := Frac3 n1 d1 0) (by simp [results, Tryz.results61, go_sem, hc1, hf1, hc2, hf2, hc3, hf3, hc4, hf4, SqB.n z1_0, SqB.n z1_1, SqB.n z1_2, SqB.n z1_3, SqB.n z2_0, SqB.n z2_1, SqB.n z2_2, SqB.n z2_3, SqB.n z3_0, SqB.n z3_1, SqB.n z3_2, SqB.n z3_3, SqB.n z4_0, SqB.n z4_1, SqB.n z4_2, SqB.n z4_3]) rfl ⟨rfl, ?_⟩; exact SqB.b
  ·clear hz
   show Calls _ _ _ _ (Ret (Frac3 n2 d2 0) w)
   go_enter Tryz.func61, Tryz.ntmps61
   go_wp2_with (first | (go_at_call 52; (with_reducible refine (VT.out _).mono ?_); rintro e w1 ⟨rfl, hb1⟩; have hc1 := (bcell hb1).1; have hf1 := (bcell hb1).2; have z1_0 : w.heap.size < w1.heap.size := SqB.z hb1; have z1_1 : w.heap.size + 1 < w1.heap.size := SqB.z hb1; have z1_2 : w.heap.size + 1 + 1 < w1.heap.size := SqB.z hb1; have z1_3 : w.heap.size + 1 + 1 + 1 < w1.heap.size := SqB.z hb1; have K1 : Below w.heap.size w w1 := SqB.t hb1) | (go_at_call 54; (with_reducible refine (V1.out _).mono ?_); rintro e w2 ⟨rfl, hb2⟩; have hc2 := (bcell hb2).1; have hf2 := (bcell hb2).2; have z2_0 : w.heap.size < w2.heap.size := SqB.z hb2; have z2_1 : w.heap.size + 1 < w2.heap.size := SqB.z hb2; have z2_2 : w.heap.size + 1 + 1 < w2.heap.size := SqB.z hb2; have z2_3 : w.heap.size + 1 + 1 + 1 < w2.heap.size := SqB.z hb2; have K2 : Below w.heap.size w w2 := SqB.t hb2) | (go_at_call 54; (with_reducible refine (V2.out _).mono ?_); rintro e w3 ⟨rfl, hb3⟩; have hc3 := (bcell hb3).1; have hf3 := (bcell hb3).2; have z3_0 : w.heap.size < w3.heap.size := SqB.z hb3; have z3_1 : w.heap.size + 1 < w3.heap.size := SqB.z hb3; have z3_2 : w.heap.size + 1 + 1 < w3.heap.size := SqB.z hb3; have z3_3 : w.heap.size + 1 + 1 + 1 < w3.heap.size := SqB.z hb3; have K3 : Below w.heap.size w w3 := SqB.t hb3) | (go_at_call 92; (with_reducible refine (CP.out _).mono ?_); rintro e w4 ⟨rfl, hb4⟩; have hc4 := (bcell hb4).1; have hf4 := (bcell hb4).2; have z4_0 : w.heap.size < w4.heap.size := SqB.z hb4; have z4_1 : w.heap.size + 1 < w4.heap.size := SqB.z hb4; have z4_2 : w.heap.size + 1 + 1 < w4.heap.size := SqB.z hb4; have z4_3 : w.heap.size + 1 + 1 + 1 < w4.heap.size := SqB.z hb4; have K4 : Below w.heap.size w w4 := SqB.t hb4))
   refine bodyPost_ret (v := Frac3 n2 d2 0) (by simp [results, Tryz.results61, go_sem, hc1, hf1, hc2, hf2, hc3, hf3, hc4, hf4, SqB.n z1_0, SqB.n z1_1, SqB.n z1_2, SqB.n z1_3, SqB.n z2_0, SqB.n z2_1, SqB.n z2_2, SqB.n z2_3, SqB.n z3_0, SqB.n z3_1, SqB.n z3_2, SqB.n z3_3, SqB.n z4_0, SqB.n z4_1, SqB.n z4_2, SqB.n z4_3]) rfl ⟨rfl, ?_⟩; exact SqB.b
 by_cases h10 : op = 10
 ·have CP := Lib.hid fun w => r_cmp K B F R O n1 d1 n2 d2 w
  have V9 := Lib.hid (V2.out (by omega))
  clear V2
  have V2 := V9
  clear V9
  rw [if_neg h9, if_pos h10] at hA
  rw [hA _ rfl]
  subst h10
  have hc : cpv K B F R O n1 d1 n2 d2 = -1 \/ cpv K B F R O n1 d1 n2 d2 = 0 \/ cpv K B F R O n1 d1 n2 d2 = 1 := by
   unfold cpv
   split
   ·rcases cmpv_cases (n1 * d2) (n2 * d1) with ⟨_, h⟩ | ⟨_, h⟩ | ⟨_, h⟩ <;> omega
   ·omega
  have hz : cpv K B F R O n1 d1 n2 d2 = 0 -> n1 = n2 /\ d1 = d2 := cpv_zero h1 (h3 (by omega))
  generalize cpv K B F R O n1 d1 n2 d2 = c at *
  clear hA h1 h2 h3 ht ho x1 x2 x3 x4 x5
  rcases hc with rfl | rfl | rfl
  ·clear hz
   show Calls _ _ _ _ (Ret (Frac3 n2 d2 0) w)
   go_enter Tryz.func61, Tryz.ntmps61
   go_wp2_with (first | (go_at_call 52; (with_reducible refine (VT.out _).mono ?_); rintro e w1 ⟨rfl, hb1⟩; have hc1 := (bcell hb1).1; have hf1 := (bcell hb1).2; have z1_0 : w.heap.size < w1.heap.size := SqB.z hb1; have z1_1 : w.heap.size + 1 < w1.heap.size := SqB.z hb1; have z1_2 : w.heap.size + 1 + 1 < w1.heap.size := SqB.z hb1; have z1_3 : w.heap.size + 1 + 1 + 1 < w1.heap.size := SqB.z hb1; have K1 : Below w.heap.size w w1 := SqB.t hb1) | (go_at_call 54; (with_reducible refine (V1.out _).mono ?_); rintro e w2 ⟨rfl, hb2⟩; have hc2 := (bcell hb2).1; have hf2 := (bcell hb2).2; have z2_0 : w.heap.size < w2.heap.size := SqB.z hb2; have z2_1 : w.heap.size + 1 < w2.heap.size := SqB.z hb2; have z2_2 : w.heap.size + 1 + 1 < w2.heap.size := SqB.z hb2; have z2_3 : w.heap.size + 1 + 1 + 1 < w2.heap.size := SqB.z hb2; have K2 : Below w.heap.size w w2 := SqB.t hb2) | (go_at_call 54; (with_reducible refine (V2.out _).mono ?_); rintro e w3 ⟨rfl, hb3⟩; have hc3 := (bcell hb3).1; have hf3 := (bcell hb3).2; have z3_0 : w.heap.size < w3.heap.size := SqB.z hb3; have z3_1 : w.heap.size + 1 < w3.heap.size := SqB.z hb3; have z3_2 : w.heap.size + 1 + 1 < w3.heap.size := SqB.z hb3; have z3_3 : w.heap.size + 1 + 1 + 1 < w3.heap.size := SqB.z hb3; have K3 : Below w.heap.size w w3 := SqB.t hb3) | (go_at_call 92; (with_reducible refine (CP.out _).mono ?_); rintro e w4 ⟨rfl, hb4⟩; have hc4 := (bcell hb4).1; have hf4 := (bcell hb4).2; have z4_0 : w.heap.size < w4.heap.size := SqB.z hb4; have z4_1 : w.heap.size + 1 < w4.heap.size := SqB.z hb4; have z4_2 : w.heap.size + 1 + 1 < w4.heap.size := SqB.z hb4; have z4_3 : w.heap.size + 1 + 1 + 1 < w4.heap.size := SqB.z hb4; have K4 : Below w.heap.size w w4 := SqB.t hb4))
   refine bodyPost_ret (v := Frac3 n2 d2 0) (by simp [results, Tryz.results61, go_sem, hc1, hf1, hc2, hf2, hc3, hf3, hc4, hf4, SqB.n z1_0, SqB.n z1_1, SqB.n z1_2, SqB.n z1_3, SqB.n z2_0, SqB.n z2_1, SqB.n z2_2, SqB.n z2_3, SqB.n z3_0, SqB.n z3_1, SqB.n z3_2, SqB.n z3_3, SqB.n z4_0, SqB.n z4_1, SqB.n z4_2, SqB.n z4_3]) rfl ⟨rfl, ?_⟩; exact SqB.b
  ·obtain ⟨e1, e2⟩ := hz rfl
   show Calls _ _ _ _ (Ret (Frac3 n1 d1 0) w)
   rw [show Frac3 n1 d1 0 = Frac3 n2 d2 0 by rw [e1, e2]]
   clear e1 e2 hz
   go_enter Tryz.func61, Tryz.ntmps61
   go_wp2_with (first | (go_at_call 52; (with_reducible refine (VT.out _).mono ?_); rintro e w1 ⟨rfl, hb1⟩; have hc1 := (bcell hb1).1; have hf1 := (bcell hb1).2; have z1_0 : w.heap.size < w1.heap.size := SqB.z hb1; have z1_1 : w.heap.size + 1 < w1.heap.size := SqB.z hb1; have z1_2 : w.heap.size + 1 + 1 < w1.heap.size := SqB.z hb1; have z1_3 : w.heap.size + 1 + 1 + 1 < w1.heap.size := SqB.z hb1; have K1 : Below w.heap.size w w1 := SqB.t hb1) | (go_at_call 54; (with_reducible refine (V1.out _).mono ?_); rintro e w2 ⟨rfl, hb2⟩; have hc2 := (bcell hb2).1; have hf2 := (bcell hb2).2; have z2_0 : w.heap.size < w2.heap.size := SqB.z hb2; have z2_1 : w.heap.size + 1 < w2.heap.size := SqB.z hb2; have z2_2 : w.heap.size + 1 + 1 < w2.heap.size := SqB.z hb2; have z2_3 : w.heap.size + 1 + 1 + 1 < w2.heap.size := SqB.z hb2; have K2 : Below w.heap.size w w2 := SqB.t hb2) | (go_at_call 54; (with_reducible refine (V2.out _).mono ?_); rintro e w3 ⟨rfl, hb3⟩; have hc3 := (bcell hb3).1; have hf3 := (bcell hb3).2; have z3_0 : w.heap.size < w3.heap.size := SqB.z hb3; have z3_1 : w.heap.size + 1 < w3.heap.size := SqB.z hb3; have z3_2 : w.heap.size + 1 + 1 < w3.heap.size := SqB.z hb3; have z3_3 : w.heap.size + 1 + 1 + 1 < w3.heap.size := SqB.z hb3; have K3 : Below w.heap.size w w3 := SqB.t hb3) | (go_at_call 92; (with_reducible refine (CP.out _).mono ?_); rintro e w4 ⟨rfl, hb4⟩; have hc4 := (bcell hb4).1; have hf4 := (bcell hb4).2; have z4_0 : w.heap.size < w4.heap.size := SqB.z hb4; have z4_1 : w.heap.size + 1 < w4.heap.size := SqB.z hb4; have z4_2 : w.heap.size + 1 + 1 < w4.heap.size := SqB.z hb4; have z4_3 : w.heap.size + 1 + 1 + 1 < w4.heap.size := SqB.z hb4; have K4 : Below w.heap.size w w4 := SqB.t hb4))
   refine bodyPost_ret (v := Frac3 n2 d2 0) (by simp [results, Tryz.results61, go_sem, hc1, hf1, hc2, hf2, hc3, hf3, hc4, hf4, SqB.n z1_0, SqB.n z1_1, SqB.n z1_2, SqB.n z1_3, SqB.n z2_0, SqB.n z2_1, SqB.n z2_2, SqB.n z2_3, SqB.n z3_0, SqB.n z3_1, SqB.n z3_2, SqB.n z3_3, SqB.n z4_0, SqB.n z4_1, SqB.n z4_2, SqB.n z4_3]) rfl ⟨rfl, ?_⟩; exact SqB.b
  ·clear hz
   show Calls _ _ _ _ (Ret (Frac3 n1 d1 0) w)
   go_enter Tryz.func61, Tryz.ntmps61
   go_wp2_with (first | (go_at_call 52; (with_reducible refine (VT.out _).mono ?_); rintro e w1 ⟨rfl, hb1⟩; have hc1 := (bcell hb1).1; have hf1 := (bcell hb1).2; have z1_0 : w.heap.size < w1.heap.size := SqB.z hb1; have z1_1 : w.heap.size + 1 < w1.heap.size := SqB.z hb1; have z1_2 : w.heap.size + 1 + 1 < w1.heap.size := SqB.z hb1; have z1_3 : w.heap.size + 1 + 1 + 1 < w1.heap.size := SqB.z hb1; have K1 : Below w.heap.size w w1 := SqB.t hb1) | (go_at_call 54; (with_reducible refine (V1.out _).mono ?_); rintro e w2 ⟨rfl, hb2⟩; have hc2 := (bcell hb2).1; have hf2 := (bcell hb2).2; have z2_0 : w.heap.size < w2.heap.size := SqB.z hb2; have z2_1 : w.heap.size + 1 < w2.heap.size := SqB.z hb2; have z2_2 : w.heap.size + 1 + 1 < w2.heap.size := SqB.z hb2; have z2_3 : w.heap.size + 1 + 1 + 1 < w2.heap.size := SqB.z hb2; have K2 : Below w.heap.size w w2 := SqB.t hb2) | (go_at_call 54; (with_reducible refine (V2.out _).mono ?_); rintro e w3 ⟨rfl, hb3⟩; have hc3 := (bcell hb3).1; have hf3 := (bcell hb3).2; have z3_0 : w.heap.size < w3.heap.size := SqB.z hb3; have z3_1 : w.heap.size + 1 < w3.heap.size := SqB.z hb3; have z3_2 : w.heap.size + 1 + 1 < w3.heap.size := SqB.z hb3; have z3_3 : w.heap.size + 1 + 1 + 1 < w3.heap.size := SqB.z hb3; have K3 : Below w.heap.size w w3 := SqB.t hb3) | (go_at_call 92; (with_reducible refine (CP.out _).mono ?_); rintro e w4 ⟨rfl, hb4⟩; have hc4 := (bcell hb4).1; have hf4 := (bcell hb4).2; have z4_0 : w.heap.size < w4.heap.size := SqB.z hb4; have z4_1 : w.heap.size + 1 < w4.heap.size := SqB.z hb4; have z4_2 : w.heap.size + 1 + 1 < w4.heap.size := SqB.z hb4; have z4_3 : w.heap.size + 1 + 1 + 1 < w4.heap.size := SqB.z hb4; have K4 : Below w.heap.size w w4 := SqB.t hb4))
   refine bodyPost_ret (v := Frac3 n1 d1 0) (by simp [results, Tryz.results61, go_sem, hc1, hf1, hc2, hf2, hc3, hf3, hc4, hf4, SqB.n z1_0, SqB.n z1_1, SqB.n z1_2, SqB.n z1_3, SqB.n z2_0, SqB.n z2_1, SqB.n z2_2, SqB.n z2_3, SqB.n z3_0, SqB.n z3_1, SqB.n z3_2, SqB.n z3_3, SqB.n z4_0, SqB.n z4_1, SqB.n z4_2, SqB.n z4_3]) rfl ⟨rfl, ?_⟩; exact SqB.b
 have o9 : (op == 9) = false := by simpa using h9
 have o10 : (op == 10) = false := by simpa using h10
 rw [if_neg h9, if_neg h10] at hA
 by_cases k2 : K = 2
 ·rw [if_neg (by omega), if_pos k2] at hA
  rw [hA _ rfl]
  have hk2 : (K == 2) = true := by simpa using k2
  have FR := Lib.hid fun w => r_fix op K B F R O n1 n2 d1 d2 w (by omega) (by omega)
   (by rw [vv_fix k2] at h1; exact h1) (fun h => by have h4 := h3 h; rw [vv_fix k2] at h4; exact h4)
  obtain ⟨r, hr⟩ : ∃ r, fxv op B F R O n1 n2 = r := ⟨_, rfl⟩
  rw [hr] at FR ⊢
  obtain ⟨x, y, z⟩ := r
  clear hr hA h1 h2 h3 ht ho x5 x1 x2 x3 x4 k2 h9 h10
  by_cases h8 : op = 8
  ·have o8 : (op != 8) = false := by simpa using h8
   clear V2 h8
   go_enter Tryz.func61, Tryz.ntmps61
   go_wp2_with (first | (go_at_call 52; (with_reducible refine (VT.out _).mono ?_); rintro e w1 ⟨rfl, hb1⟩; have hc1 := (bcell hb1).1; have hf1 := (bcell hb1).2; have z1_0 : w.heap.size < w1.heap.size := SqB.z hb1; have z1_1 : w.heap.size + 1 < w1.heap.size := SqB.z hb1; have z1_2 : w.heap.size + 1 + 1 < w1.heap.size := SqB.z hb1; have z1_3 : w.heap.size + 1 + 1 + 1 < w1.heap.size := SqB.z hb1; have K1 : Below w.heap.size w w1 := SqB.t hb1) | (go_at_call 54; (with_reducible refine (V1.out _).mono ?_); rintro e w2 ⟨rfl, hb2⟩; have hc2 := (bcell hb2).1; have hf2 := (bcell hb2).2; have z2_0 : w.heap.size < w2.heap.size := SqB.z hb2; have z2_1 : w.heap.size + 1 < w2.heap.size := SqB.z hb2; have z2_2 : w.heap.size + 1 + 1 < w2.heap.size := SqB.z hb2; have z2_3 : w.heap.size + 1 + 1 + 1 < w2.heap.size := SqB.z hb2; have K2 : Below w.heap.size w w2 := SqB.t hb2) | (go_at_call 93; (with_reducible refine (FR.out _).mono ?_); rintro e w4 ⟨rfl, hb4⟩; have hc4 := (bcell hb4).1; have hf4 := (bcell hb4).2; have z4_0 : w.heap.size < w4.heap.size := SqB.z hb4; have z4_1 : w.heap.size + 1 < w4.heap.size := SqB.z hb4; have z4_2 : w.heap.size + 1 + 1 < w4.heap.size := SqB.z hb4; have z4_3 : w.heap.size + 1 + 1 + 1 < w4.heap.size := SqB.z hb4; have K4 : Below w.heap.size w w4 := SqB.t hb4))
   refine bodyPost_ret (v := Frac3 x y z) (by simp [results, Tryz.results61, go_sem, hc1, hf1, hc2, hf2, hc4, hf4, SqB.n z1_0, SqB.n z1_1, SqB.n z1_2, SqB.n z1_3, SqB.n z2_0, SqB.n z2_1, SqB.n z2_2, SqB.n z2_3, SqB.n z4_0, SqB.n z4_1, SqB.n z4_2, SqB.n z4_3]) rfl ⟨rfl, ?_⟩; exact SqB.b
  ·have o8 : (op != 8) = true := by simpa using h8
   have V2 := Lib.hid (V2.out h8)
   clear h8
   go_enter Tryz.func61, Tryz.ntmps61
   go_wp2_with (first | (go_at_call 52; (with_reducible refine (VT.out _).mono ?_); rintro e w1 ⟨rfl, hb1⟩; have hc1 := (bcell hb1).1; have hf1 := (bcell hb1).2; have z1_0 : w.heap.size < w1.heap.size := SqB.z hb1; have z1_1 : w.heap.size + 1 < w1.heap.size := SqB.z hb1; have z1_2 : w.heap.size + 1 + 1 < w1.heap.size := SqB.z hb1; have z1_3 : w.heap.size + 1 + 1 + 1 < w1.heap.size := SqB.z hb1; have K1 : Below w.heap.size w w1 := SqB.t hb1) | (go_at_call 54; (with_reducible refine (V1.out _).mono ?_); rintro e w2 ⟨rfl, hb2⟩; have hc2 := (bcell hb2).1; have hf2 := (bcell hb2).2; have z2_0 : w.heap.size < w2.heap.size := SqB.z hb2; have z2_1 : w.heap.size + 1 < w2.heap.size := SqB.z hb2; have z2_2 : w.heap.size + 1 + 1 < w2.heap.size := SqB.z hb2; have z2_3 : w.heap.size + 1 + 1 + 1 < w2.heap.size := SqB.z hb2; have K2 : Below w.heap.size w w2 := SqB.t hb2) | (go_at_call 54; (with_reducible refine (V2.out _).mono ?_); rintro e w3 ⟨rfl, hb3⟩; have hc3 := (bcell hb3).1; have hf3 := (bcell hb3).2; have z3_0 : w.heap.size < w3.heap.size := SqB.z hb3; have z3_1 : w.heap.size + 1 < w3.heap.size := SqB.z hb3; have z3_2 : w.heap.size + 1 + 1 < w3.heap.size := SqB.z hb3; have z3_3 : w.heap.size + 1 + 1 + 1 < w3.heap.size := SqB.z hb3; have K3 : Below w.heap.size w w3 := SqB.t hb3) | (go_at_call 93; (with_reducible refine (FR.out _).mono ?_); rintro e w4 ⟨rfl, hb4⟩; have hc4 := (bcell hb4).1; have hf4 := (bcell hb4).2; have z4_0 : w.heap.size < w4.heap.size := SqB.z hb4; have z4_1 : w.heap.size + 1 < w4.heap.size := SqB.z hb4; have z4_2 : w.heap.size + 1 + 1 < w4.heap.size := SqB.z hb4; have z4_3 : w.heap.size + 1 + 1 + 1 < w4.heap.size := SqB.z hb4; have K4 : Below w.heap.size w w4 := SqB.t hb4))
   refine bodyPost_ret (v := Frac3 x y z) (by simp [results, Tryz.results61, go_sem, hc1, hf1, hc2, hf2, hc3, hf3, hc4, hf4, SqB.n z1_0, SqB.n z1_1, SqB.n z1_2, SqB.n z1_3, SqB.n z2_0, SqB.n z2_1, SqB.n z2_2, SqB.n z2_3, SqB.n z3_0, SqB.n z3_1, SqB.n z3_2, SqB.n z3_3, SqB.n z4_0, SqB.n z4_1, SqB.n z4_2, SqB.n z4_3]) rfl ⟨rfl, ?_⟩; exact SqB.b
 have hk2 : (K == 2) = false := by simpa using k2
 by_cases k1 : K = 1
 ·rw [if_pos k1] at hA
  rw [hA _ rfl]
  have hk1 : (K == 3) = false := by simp; omega
  have u1 : vld n1 d1 = true := by unfold vv at h1; rw [if_neg (by omega), ht, if_pos k1] at h1; exact h1
  have u2 : op ≠ 8 -> vld n2 d2 = true := fun h => by have h4 := h3 h; unfold vv at h4; rw [if_neg (by omega), ht, if_pos k1] at h4; exact h4
  clear hA h1 h2 h3 ht x5 x1 x2 x3 x4 k1 k2
  rcases (by omega : op = 4 \/ op = 5 \/ op = 6 \/ op = 7 \/ op = 8) with rfl | rfl | rfl | rfl | rfl
  ·have FR := Lib.hid fun w => rr_add u1 (u2 (by decide)) w
   have V9 := Lib.hid (V2.out (by decide))
   clear V2
   have V2 := V9
   clear V9
   show Calls _ _ _ _ (Ret (F3 (nw (n1 * d2 + n2 * d1) (d1 * d2))) w)
   obtain ⟨r, hr⟩ : ∃ r, nw (n1 * d2 + n2 * d1) (d1 * d2) = r := ⟨_, rfl⟩
   rw [hr] at FR ⊢
   obtain ⟨x, y, z⟩ := r
   clear hr u1 u2 ho h9 h10
   go_enter Tryz.func61, Tryz.ntmps61
   go_wp2_with (first | (go_at_call 52; (with_reducible refine (VT.out _).mono ?_); rintro e w1 ⟨rfl, hb1⟩; have hc1 := (bcell hb1).1; have hf1 := (bcell hb1).2; have z1_0 : w.heap.size < w1.heap.size := SqB.z hb1; have z1_1 : w.heap.size + 1 < w1.heap.size := SqB.z hb1; have z1_2 : w.heap.size + 1 + 1 < w1.heap.size := SqB.z hb1; have z1_3 : w.heap.size + 1 + 1 + 1 < w1.heap.size := SqB.z hb1; have K1 : Below w.heap.size w w1 := SqB.t hb1) | (go_at_call 54; (with_reducible refine (V1.out _).mono ?_); rintro e w2 ⟨rfl, hb2⟩; have hc2 := (bcell hb2).1; have hf2 := (bcell hb2).2; have z2_0 : w.heap.size < w2.heap.size := SqB.z hb2; have z2_1 : w.heap.size + 1 < w2.heap.size := SqB.z hb2; have z2_2 : w.heap.size + 1 + 1 < w2.heap.size := SqB.z hb2; have z2_3 : w.heap.size + 1 + 1 + 1 < w2.heap.size := SqB.z hb2; have K2 : Below w.heap.size w w2 := SqB.t hb2) | (go_at_call 54; (with_reducible refine (V2.out _).mono ?_); rintro e w3 ⟨rfl, hb3⟩; have hc3 := (bcell hb3).1; have hf3 := (bcell hb3).2; have z3_0 : w.heap.size < w3.heap.size := SqB.z hb3; have z3_1 : w.heap.size + 1 < w3.heap.size := SqB.z hb3; have z3_2 : w.heap.size + 1 + 1 < w3.heap.size := SqB.z hb3; have z3_3 : w.heap.size + 1 + 1 + 1 < w3.heap.size := SqB.z hb3; have K3 : Below w.heap.size w w3 := SqB.t hb3) | (go_at_call 95; (with_reducible refine (FR.out _).mono ?_); rintro e w4 ⟨rfl, hb4⟩; have hc4 := (bcell hb4).1; have hf4 := (bcell hb4).2; have z4_0 : w.heap.size < w4.heap.size := SqB.z hb4; have z4_1 : w.heap.size + 1 < w4.heap.size := SqB.z hb4; have z4_2 : w.heap.size + 1 + 1 < w4.heap.size := SqB.z hb4; have z4_3 : w.heap.size + 1 + 1 + 1 < w4.heap.size := SqB.z hb4; have K4 : Below w.heap.size w w4 := SqB.t hb4))
   refine bodyPost_ret (v := Frac3 x y z) (by simp [results, Tryz.results61, go_sem, hc1, hf1, hc2, hf2, hc3, hf3, hc4, hf4, SqB.n z1_0, SqB.n z1_1, SqB.n z1_2, SqB.n z1_3, SqB.n z2_0, SqB.n z2_1, SqB.n z2_2, SqB.n z2_3, SqB.n z3_0, SqB.n z3_1, SqB.n z3_2, SqB.n z3_3, SqB.n z4_0, SqB.n z4_1, SqB.n z4_2, SqB.n z4_3]) rfl ⟨rfl, ?_⟩; exact SqB.b
  ·have FR := Lib.hid fun w => rr_sub u1 (u2 (by decide)) w
   have V9 := Lib.hid (V2.out (by decide))
   clear V2
   have V2 := V9
   clear V9
   show Calls _ _ _ _ (Ret (F3 (nw (n1 * d2 - n2 * d1) (d1 * d2))) w)
   obtain ⟨r, hr⟩ : ∃ r, nw (n1 * d2 - n2 * d1) (d1 * d2) = r := ⟨_, rfl⟩
   rw [hr] at FR ⊢
   obtain ⟨x, y, z⟩ := r
   clear hr u1 u2 ho h9 h10
   go_enter Tryz.func61, Tryz.ntmps61
   go_wp2_with (first | (go_at_call 52; (with_reducible refine (VT.out _).mono ?_); rintro e w1 ⟨rfl, hb1⟩; have hc1 := (bcell hb1).1; have hf1 := (bcell hb1).2; have z1_0 : w.heap.size < w1.heap.size := SqB.z hb1; have z1_1 : w.heap.size + 1 < w1.heap.size := SqB.z hb1; have z1_2 : w.heap.size + 1 + 1 < w1.heap.size := SqB.z hb1; have z1_3 : w.heap.size + 1 + 1 + 1 < w1.heap.size := SqB.z hb1; have K1 : Below w.heap.size w w1 := SqB.t hb1) | (go_at_call 54; (with_reducible refine (V1.out _).mono ?_); rintro e w2 ⟨rfl, hb2⟩; have hc2 := (bcell hb2).1; have hf2 := (bcell hb2).2; have z2_0 : w.heap.size < w2.heap.size := SqB.z hb2; have z2_1 : w.heap.size + 1 < w2.heap.size := SqB.z hb2; have z2_2 : w.heap.size + 1 + 1 < w2.heap.size := SqB.z hb2; have z2_3 : w.heap.size + 1 + 1 + 1 < w2.heap.size := SqB.z hb2; have K2 : Below w.heap.size w w2 := SqB.t hb2) | (go_at_call 54; (with_reducible refine (V2.out _).mono ?_); rintro e w3 ⟨rfl, hb3⟩; have hc3 := (bcell hb3).1; have hf3 := (bcell hb3).2; have z3_0 : w.heap.size < w3.heap.size := SqB.z hb3; have z3_1 : w.heap.size + 1 < w3.heap.size := SqB.z hb3; have z3_2 : w.heap.size + 1 + 1 < w3.heap.size := SqB.z hb3; have z3_3 : w.heap.size + 1 + 1 + 1 < w3.heap.size := SqB.z hb3; have K3 : Below w.heap.size w w3 := SqB.t hb3) | (go_at_call 96; (with_reducible refine (FR.out _).mono ?_); rintro e w4 ⟨rfl, hb4⟩; have hc4 := (bcell hb4).1; have hf4 := (bcell hb4).2; have z4_0 : w.heap.size < w4.heap.size := SqB.z hb4; have z4_1 : w.heap.size + 1 < w4.heap.size := SqB.z hb4; have z4_2 : w.heap.size + 1 + 1 < w4.heap.size := SqB.z hb4; have z4_3 : w.heap.size + 1 + 1 + 1 < w4.heap.size := SqB.z hb4; have K4 : Below w.heap.size w w4 := SqB.t hb4))
   refine bodyPost_ret (v := Frac3 x y z) (by simp [results, Tryz.results61, go_sem, hc1, hf1, hc2, hf2, hc3, hf3, hc4, hf4, SqB.n z1_0, SqB.n z1_1, SqB.n z1_2, SqB.n z1_3, SqB.n z2_0, SqB.n z2_1, SqB.n z2_2, SqB.n z2_3, SqB.n z3_0, SqB.n z3_1, SqB.n z3_2, SqB.n z3_3, SqB.n z4_0, SqB.n z4_1, SqB.n z4_2, SqB.n z4_3]) rfl ⟨rfl, ?_⟩; exact SqB.b
  ·have FR := Lib.hid fun w => rr_mul u1 (u2 (by decide)) w
   have V9 := Lib.hid (V2.out (by decide))
   clear V2
   have V2 := V9
   clear V9
   show Calls _ _ _ _ (Ret (F3 (nw (n1 * n2) (d1 * d2))) w)
   obtain ⟨r, hr⟩ : ∃ r, nw (n1 * n2) (d1 * d2) = r := ⟨_, rfl⟩
   rw [hr] at FR ⊢
   obtain ⟨x, y, z⟩ := r
   clear hr u1 u2 ho h9 h10
   go_enter Tryz.func61, Tryz.ntmps61
   go_wp2_with (first | (go_at_call 52; (with_reducible refine (VT.out _).mono ?_); rintro e w1 ⟨rfl, hb1⟩; have hc1 := (bcell hb1).1; have hf1 := (bcell hb1).2; have z1_0 : w.heap.size < w1.heap.size := SqB.z hb1; have z1_1 : w.heap.size + 1 < w1.heap.size := SqB.z hb1; have z1_2 : w.heap.size + 1 + 1 < w1.heap.size := SqB.z hb1; have z1_3 : w.heap.size + 1 + 1 + 1 < w1.heap.size := SqB.z hb1; have K1 : Below w.heap.size w w1 := SqB.t hb1) | (go_at_call 54; (with_reducible refine (V1.out _).mono ?_); rintro e w2 ⟨rfl, hb2⟩; have hc2 := (bcell hb2).1; have hf2 := (bcell hb2).2; have z2_0 : w.heap.size < w2.heap.size := SqB.z hb2; have z2_1 : w.heap.size + 1 < w2.heap.size := SqB.z hb2; have z2_2 : w.heap.size + 1 + 1 < w2.heap.size := SqB.z hb2; have z2_3 : w.heap.size + 1 + 1 + 1 < w2.heap.size := SqB.z hb2; have K2 : Below w.heap.size w w2 := SqB.t hb2) | (go_at_call 54; (with_reducible refine (V2.out _).mono ?_); rintro e w3 ⟨rfl, hb3⟩; have hc3 := (bcell hb3).1; have hf3 := (bcell hb3).2; have z3_0 : w.heap.size < w3.heap.size := SqB.z hb3; have z3_1 : w.heap.size + 1 < w3.heap.size := SqB.z hb3; have z3_2 : w.heap.size + 1 + 1 < w3.heap.size := SqB.z hb3; have z3_3 : w.heap.size + 1 + 1 + 1 < w3.heap.size := SqB.z hb3; have K3 : Below w.heap.size w w3 := SqB.t hb3) | (go_at_call 97; (with_reducible refine (FR.out _).mono ?_); rintro e w4 ⟨rfl, hb4⟩; have hc4 := (bcell hb4).1; have hf4 := (bcell hb4).2; have z4_0 : w.heap.size < w4.heap.size := SqB.z hb4; have z4_1 : w.heap.size + 1 < w4.heap.size := SqB.z hb4; have z4_2 : w.heap.size + 1 + 1 < w4.heap.size := SqB.z hb4; have z4_3 : w.heap.size + 1 + 1 + 1 < w4.heap.size := SqB.z hb4; have K4 : Below w.heap.size w w4 := SqB.t hb4))
   refine bodyPost_ret (v := Frac3 x y z) (by simp [results, Tryz.results61, go_sem, hc1, hf1, hc2, hf2, hc3, hf3, hc4, hf4, SqB.n z1_0, SqB.n z1_1, SqB.n z1_2, SqB.n z1_3, SqB.n z2_0, SqB.n z2_1, SqB.n z2_2, SqB.n z2_3, SqB.n z3_0, SqB.n z3_1, SqB.n z3_2, SqB.n z3_3, SqB.n z4_0, SqB.n z4_1, SqB.n z4_2, SqB.n z4_3]) rfl ⟨rfl, ?_⟩; exact SqB.b
  ·have FR := Lib.hid fun w => rr_div u1 (u2 (by decide)) w
   have V9 := Lib.hid (V2.out (by decide))
   clear V2
   have V2 := V9
   clear V9
   show Calls _ _ _ _ (Ret (F3 (nw (n1 * d2) (d1 * n2))) w)
   obtain ⟨r, hr⟩ : ∃ r, nw (n1 * d2) (d1 * n2) = r := ⟨_, rfl⟩
   rw [hr] at FR ⊢
   obtain ⟨x, y, z⟩ := r
   clear hr u1 u2 ho h9 h10
   go_enter Tryz.func61, Tryz.ntmps61
   go_wp2_with (first | (go_at_call 52; (with_reducible refine (VT.out _).mono ?_); rintro e w1 ⟨rfl, hb1⟩; have hc1 := (bcell hb1).1; have hf1 := (bcell hb1).2; have z1_0 : w.heap.size < w1.heap.size := SqB.z hb1; have z1_1 : w.heap.size + 1 < w1.heap.size := SqB.z hb1; have z1_2 : w.heap.size + 1 + 1 < w1.heap.size := SqB.z hb1; have z1_3 : w.heap.size + 1 + 1 + 1 < w1.heap.size := SqB.z hb1; have K1 : Below w.heap.size w w1 := SqB.t hb1) | (go_at_call 54; (with_reducible refine (V1.out _).mono ?_); rintro e w2 ⟨rfl, hb2⟩; have hc2 := (bcell hb2).1; have hf2 := (bcell hb2).2; have z2_0 : w.heap.size < w2.heap.size := SqB.z hb2; have z2_1 : w.heap.size + 1 < w2.heap.size := SqB.z hb2; have z2_2 : w.heap.size + 1 + 1 < w2.heap.size := SqB.z hb2; have z2_3 : w.heap.size + 1 + 1 + 1 < w2.heap.size := SqB.z hb2; have K2 : Below w.heap.size w w2 := SqB.t hb2) | (go_at_call 54; (with_reducible refine (V2.out _).mono ?_); rintro e w3 ⟨rfl, hb3⟩; have hc3 := (bcell hb3).1; have hf3 := (bcell hb3).2; have z3_0 : w.heap.size < w3.heap.size := SqB.z hb3; have z3_1 : w.heap.size + 1 < w3.heap.size := SqB.z hb3; have z3_2 : w.heap.size + 1 + 1 < w3.heap.size := SqB.z hb3; have z3_3 : w.heap.size + 1 + 1 + 1 < w3.heap.size := SqB.z hb3; have K3 : Below w.heap.size w w3 := SqB.t hb3) | (go_at_call 98; (with_reducible refine (FR.out _).mono ?_); rintro e w4 ⟨rfl, hb4⟩; have hc4 := (bcell hb4).1; have hf4 := (bcell hb4).2; have z4_0 : w.heap.size < w4.heap.size := SqB.z hb4; have z4_1 : w.heap.size + 1 < w4.heap.size := SqB.z hb4; have z4_2 : w.heap.size + 1 + 1 < w4.heap.size := SqB.z hb4; have z4_3 : w.heap.size + 1 + 1 + 1 < w4.heap.size := SqB.z hb4; have K4 : Below w.heap.size w w4 := SqB.t hb4))
   refine bodyPost_ret (v := Frac3 x y z) (by simp [results, Tryz.results61, go_sem, hc1, hf1, hc2, hf2, hc3, hf3, hc4, hf4, SqB.n z1_0, SqB.n z1_1, SqB.n z1_2, SqB.n z1_3, SqB.n z2_0, SqB.n z2_1, SqB.n z2_2, SqB.n z2_3, SqB.n z3_0, SqB.n z3_1, SqB.n z3_2, SqB.n z3_3, SqB.n z4_0, SqB.n z4_1, SqB.n z4_2, SqB.n z4_3]) rfl ⟨rfl, ?_⟩; exact SqB.b
  ·have FR := Lib.hid fun w => rr_neg u1 w
   show Calls _ _ _ _ (Ret (Frac3 (-n1) d1 0) w)
   clear u1 u2 V2 ho h9 h10
   go_enter Tryz.func61, Tryz.ntmps61
   go_wp2_with (first | (go_at_call 52; (with_reducible refine (VT.out _).mono ?_); rintro e w1 ⟨rfl, hb1⟩; have hc1 := (bcell hb1).1; have hf1 := (bcell hb1).2; have z1_0 : w.heap.size < w1.heap.size := SqB.z hb1; have z1_1 : w.heap.size + 1 < w1.heap.size := SqB.z hb1; have z1_2 : w.heap.size + 1 + 1 < w1.heap.size := SqB.z hb1; have z1_3 : w.heap.size + 1 + 1 + 1 < w1.heap.size := SqB.z hb1; have K1 : Below w.heap.size w w1 := SqB.t hb1) | (go_at_call 54; (with_reducible refine (V1.out _).mono ?_); rintro e w2 ⟨rfl, hb2⟩; have hc2 := (bcell hb2).1; have hf2 := (bcell hb2).2; have z2_0 : w.heap.size < w2.heap.size := SqB.z hb2; have z2_1 : w.heap.size + 1 < w2.heap.size := SqB.z hb2; have z2_2 : w.heap.size + 1 + 1 < w2.heap.size := SqB.z hb2; have z2_3 : w.heap.size + 1 + 1 + 1 < w2.heap.size := SqB.z hb2; have K2 : Below w.heap.size w w2 := SqB.t hb2) | (go_at_call 99; (with_reducible refine (FR.out _).mono ?_); rintro e w4 ⟨rfl, hb4⟩; have hc4 := (bcell hb4).1; have hf4 := (bcell hb4).2; have z4_0 : w.heap.size < w4.heap.size := SqB.z hb4; have z4_1 : w.heap.size + 1 < w4.heap.size := SqB.z hb4; have z4_2 : w.heap.size + 1 + 1 < w4.heap.size := SqB.z hb4; have z4_3 : w.heap.size + 1 + 1 + 1 < w4.heap.size := SqB.z hb4; have K4 : Below w.heap.size w w4 := SqB.t hb4))
   refine bodyPost_ret (v := Frac3 (-n1) d1 0) (by simp [results, Tryz.results61, go_sem, hc1, hf1, hc2, hf2, hc4, hf4, SqB.n z1_0, SqB.n z1_1, SqB.n z1_2, SqB.n z1_3, SqB.n z2_0, SqB.n z2_1, SqB.n z2_2, SqB.n z2_3, SqB.n z4_0, SqB.n z4_1, SqB.n z4_2, SqB.n z4_3]) rfl ⟨rfl, ?_⟩; exact SqB.b
 have hk1 : (K == 3) = true := by
  rcases ty_cases K B F R O with ⟨_, h4 | h4⟩ | ⟨h4, _⟩
  ·exact absurd h4.1 k2
  ·simp; omega
  ·rw [ht] at h4; cases h4
 rw [if_neg k1, if_neg k2] at hA
 rw [hA _ rfl]
 have FR := Lib.hid fun w => r_whole op n1 n2 w (by omega) (by omega) x3 x4 (fun h => by obtain ⟨_, _, y3, y4, _⟩ := vv_small (h3 h); exact ⟨y3, y4⟩)
 obtain ⟨r, hr⟩ : ∃ r, whv op n1 n2 = r := ⟨_, rfl⟩
 rw [hr] at FR ⊢
 obtain ⟨x, y, z⟩ := r
 clear hr hA h1 h2 h3 ht ho x5 x1 x2 x3 x4 k1 k2 h9 h10
 by_cases h8 : op = 8
 ·have o8 : (op != 8) = false := by simpa using h8
  clear V2 h8
  go_enter Tryz.func61, Tryz.ntmps61
  go_wp2_with (first | (go_at_call 52; (with_reducible refine (VT.out _).mono ?_); rintro e w1 ⟨rfl, hb1⟩; have hc1 := (bcell hb1).1; have hf1 := (bcell hb1).2; have z1_0 : w.heap.size < w1.heap.size := SqB.z hb1; have z1_1 : w.heap.size + 1 < w1.heap.size := SqB.z hb1; have z1_2 : w.heap.size + 1 + 1 < w1.heap.size := SqB.z hb1; have z1_3 : w.heap.size + 1 + 1 + 1 < w1.heap.size := SqB.z hb1; have K1 : Below w.heap.size w w1 := SqB.t hb1) | (go_at_call 54; (with_reducible refine (V1.out _).mono ?_); rintro e w2 ⟨rfl, hb2⟩; have hc2 := (bcell hb2).1; have hf2 := (bcell hb2).2; have z2_0 : w.heap.size < w2.heap.size := SqB.z hb2; have z2_1 : w.heap.size + 1 < w2.heap.size := SqB.z hb2; have z2_2 : w.heap.size + 1 + 1 < w2.heap.size := SqB.z hb2; have z2_3 : w.heap.size + 1 + 1 + 1 < w2.heap.size := SqB.z hb2; have K2 : Below w.heap.size w w2 := SqB.t hb2) | (go_at_call 94; (with_reducible refine (FR.out _).mono ?_); rintro e w4 ⟨rfl, hb4⟩; have hc4 := (bcell hb4).1; have hf4 := (bcell hb4).2; have z4_0 : w.heap.size < w4.heap.size := SqB.z hb4; have z4_1 : w.heap.size + 1 < w4.heap.size := SqB.z hb4; have z4_2 : w.heap.size + 1 + 1 < w4.heap.size := SqB.z hb4; have z4_3 : w.heap.size + 1 + 1 + 1 < w4.heap.size := SqB.z hb4; have K4 : Below w.heap.size w w4 := SqB.t hb4))
  refine bodyPost_ret (v := Frac3 x y z) (by simp [results, Tryz.results61, go_sem, hc1, hf1, hc2, hf2, hc4, hf4, SqB.n z1_0, SqB.n z1_1, SqB.n z1_2, SqB.n z1_3, SqB.n z2_0, SqB.n z2_1, SqB.n z2_2, SqB.n z2_3, SqB.n z4_0, SqB.n z4_1, SqB.n z4_2, SqB.n z4_3]) rfl ⟨rfl, ?_⟩; exact SqB.b
 ·have o8 : (op != 8) = true := by simpa using h8
  have V2 := Lib.hid (V2.out h8)
  clear h8
  go_enter Tryz.func61, Tryz.ntmps61
  go_wp2_with (first | (go_at_call 52; (with_reducible refine (VT.out _).mono ?_); rintro e w1 ⟨rfl, hb1⟩; have hc1 := (bcell hb1).1; have hf1 := (bcell hb1).2; have z1_0 : w.heap.size < w1.heap.size := SqB.z hb1; have z1_1 : w.heap.size + 1 < w1.heap.size := SqB.z hb1; have z1_2 : w.heap.size + 1 + 1 < w1.heap.size := SqB.z hb1; have z1_3 : w.heap.size + 1 + 1 + 1 < w1.heap.size := SqB.z hb1; have K1 : Below w.heap.size w w1 := SqB.t hb1) | (go_at_call 54; (with_reducible refine (V1.out _).mono ?_); rintro e w2 ⟨rfl, hb2⟩; have hc2 := (bcell hb2).1; have hf2 := (bcell hb2).2; have z2_0 : w.heap.size < w2.heap.size := SqB.z hb2; have z2_1 : w.heap.size + 1 < w2.heap.size := SqB.z hb2; have z2_2 : w.heap.size + 1 + 1 < w2.heap.size := SqB.z hb2; have z2_3 : w.heap.size + 1 + 1 + 1 < w2.heap.size := SqB.z hb2; have K2 : Below w.heap.size w w2 := SqB.t hb2) | (go_at_call 54; (with_reducible refine (V2.out _).mono ?_); rintro e w3 ⟨rfl, hb3⟩; have hc3 := (bcell hb3).1; have hf3 := (bcell hb3).2; have z3_0 : w.heap.size < w3.heap.size := SqB.z hb3; have z3_1 : w.heap.size + 1 < w3.heap.size := SqB.z hb3; have z3_2 : w.heap.size + 1 + 1 < w3.heap.size := SqB.z hb3; have z3_3 : w.heap.size + 1 + 1 + 1 < w3.heap.size := SqB.z hb3; have K3 : Below w.heap.size w w3 := SqB.t hb3) | (go_at_call 94; (with_reducible refine (FR.out _).mono ?_); rintro e w4 ⟨rfl, hb4⟩; have hc4 := (bcell hb4).1; have hf4 := (bcell hb4).2; have z4_0 : w.heap.size < w4.heap.size := SqB.z hb4; have z4_1 : w.heap.size + 1 < w4.heap.size := SqB.z hb4; have z4_2 : w.heap.size + 1 + 1 < w4.heap.size := SqB.z hb4; have z4_3 : w.heap.size + 1 + 1 + 1 < w4.heap.size := SqB.z hb4; have K4 : Below w.heap.size w w4 := SqB.t hb4))
  refine bodyPost_ret (v := Frac3 x y z) (by simp [results, Tryz.results61, go_sem, hc1, hf1, hc2, hf2, hc3, hf3, hc4, hf4, SqB.n z1_0, SqB.n z1_1, SqB.n z1_2, SqB.n z1_3, SqB.n z2_0, SqB.n z2_1, SqB.n z2_2, SqB.n z2_3, SqB.n z3_0, SqB.n z3_1, SqB.n z3_2, SqB.n z3_3, SqB.n z4_0, SqB.n z4_1, SqB.n z4_2, SqB.n z4_3]) rfl ⟨rfl, ?_⟩; exact SqB.b
end Go.Proofs.YteaaikmejacpaaaGreatDoor.Va
