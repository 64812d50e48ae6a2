/- The operators of package value, kind by kind. -/
import Derived.Test.YteaaikmejacpaaaGreatDoorR0
import Derived.Test.YteaaikmejacpaaaGreatDoorR6

namespace Go.Proofs.YteaaikmejacpaaaGreatDoor.Va
open Go.ChangeShapes Go.WideShapes Go.ChangeAt Go.RowKit
open Fr Fx
set_option maxRecDepth 8000
set_option linter.unusedVariables false
set_option linter.unusedSimpArgs false
set_option maxRecDepth 8000
theorem prod_bound {a b : Int} (h1 : -2147483647 <= a) (h2 : a <= 2147483647) (h3 : 0 <= b) (h4 : b <= 2147483647) : -4611686014132420609 <= a * b /\ a * b <= 4611686014132420609 := by
 have e1 := Int.mul_le_mul_of_nonneg_right h2 h3
 have e2 := Int.mul_le_mul_of_nonneg_right h1 h3
 omega
theorem prod_bound2 {a b : Int} (h1 : -2147483647 <= a) (h2 : a <= 2147483647) (h3 : -2147483647 <= b) (h4 : b <= 2147483647) : -4611686014132420609 <= a * b /\ a * b <= 4611686014132420609 := by
 by_cases h : 0 <= b
 ·exact prod_bound h1 h2 h h4
 ·have := prod_bound h1 h2 (b := -b) (by omega) (by omega)
  rw [Int.mul_neg] at this
  omega
theorem both_of {n1 d1 n2 d2 : Int} (v1 : vld n1 d1 = true) (v2 : vld n2 d2 = true) : both n1 d1 n2 d2 = true := by unfold both; rw [v1, v2]; rfl
theorem fr_add {n1 d1 n2 d2 : Int} (v1 : vld n1 d1 = true) (v2 : vld n2 d2 = true) (w : World) : Calls Tryz.prog 143 #[V2 n1 d1, V2 n2 d2] w (Ret (F3 (nw (n1 * d2 + n2 * d1) (d1 * d2))) w) := by
 obtain ⟨x0, x1, x2, x3, _⟩ := vld_of v1
 obtain ⟨y0, y1, y2, y3, _⟩ := vld_of v2
 obtain ⟨a0, a1⟩ := prod_bound x2 x3 (b := d2) (by omega) y1
 obtain ⟨b0, b1⟩ := prod_bound y2 y3 (b := d1) (by omega) x1
 obtain ⟨c0, c1⟩ := prod_bound (a := d1) (b := d2) (by omega) x1 (by omega) y1
 exact add_ok n1 d1 n2 d2 w (both_of v1 v2) rfl rfl rfl a0 a1 b0 b1 c0 c1
theorem fr_sub {n1 d1 n2 d2 : Int} (v1 : vld n1 d1 = true) (v2 : vld n2 d2 = true) (w : World) : Calls Tryz.prog 144 #[V2 n1 d1, V2 n2 d2] w (Ret (F3 (nw (n1 * d2 - n2 * d1) (d1 * d2))) w) := by
 have v3 : vld (-n2) d2 = true := by rw [vld_neg]; exact v2
 obtain ⟨y0, y1, y2, y3, _⟩ := vld_of v2
 have hm : wrap64 (-n2) = -n2 := by unfold wrap64; omega
 have A := Lib.hid fun w => fr_add v1 v3 w
 rw [Int.neg_mul, <- Int.sub_eq_add_neg] at A
 exact sub_any n1 d1 n2 d2 _ _ _ _ w hm A
theorem fr_mul {n1 d1 n2 d2 : Int} (v1 : vld n1 d1 = true) (v2 : vld n2 d2 = true) (w : World) : Calls Tryz.prog 145 #[V2 n1 d1, V2 n2 d2] w (Ret (F3 (nw (n1 * n2) (d1 * d2))) w) := by
 obtain ⟨x0, x1, x2, x3, _⟩ := vld_of v1
 obtain ⟨y0, y1, y2, y3, _⟩ := vld_of v2
 obtain ⟨a0, a1⟩ := prod_bound2 x2 x3 y2 y3
 obtain ⟨c0, c1⟩ := prod_bound (a := d1) (b := d2) (by omega) x1 (by omega) y1
 exact mul_ok n1 d1 n2 d2 w (both_of v1 v2) rfl rfl a0 a1 c0 c1
theorem fr_div {n1 d1 n2 d2 : Int} (v1 : vld n1 d1 = true) (v2 : vld n2 d2 = true) (w : World) : Calls Tryz.prog 146 #[V2 n1 d1, V2 n2 d2] w (Ret (F3 (nw (n1 * d2) (d1 * n2))) w) := by
 obtain ⟨x0, x1, x2, x3, _⟩ := vld_of v1
 obtain ⟨y0, y1, y2, y3, _⟩ := vld_of v2
 obtain ⟨a0, a1⟩ := prod_bound x2 x3 (b := d2) (by omega) y1
 obtain ⟨c0, c1⟩ := prod_bound2 (a := d1) (b := n2) (by omega) x1 y2 y3
 exact div_ok n1 d1 n2 d2 w (both_of v1 v2) rfl rfl a0 a1 c0 c1
theorem fr_neg {n1 d1 : Int} (v1 : vld n1 d1 = true) (w : World) : Calls Tryz.prog 147 #[V2 n1 d1] w (Ret (V2 (-n1) d1) w) := by
 have := Fr.neg_any n1 d1 w
 unfold ngN ngD at this
 rw [v1] at this
 exact this
theorem fr_cmp {n1 d1 n2 d2 : Int} (v1 : vld n1 d1 = true) (v2 : vld n2 d2 = true) (w : World) : Calls Tryz.prog 141 #[V2 n1 d1, V2 n2 d2] w (Ret (.int .i64 (cmpv (n1 * d2) (n2 * d1))) w) := by
 obtain ⟨x0, x1, x2, x3, _⟩ := vld_of v1
 obtain ⟨y0, y1, y2, y3, _⟩ := vld_of v2
 obtain ⟨a0, a1⟩ := prod_bound x2 x3 (b := d2) (by omega) y1
 obtain ⟨b0, b1⟩ := prod_bound y2 y3 (b := d1) (by omega) x1
 have := cmp_ok n1 d1 n2 d2 _ _ w (both_of v1 v2) rfl rfl a0 a1 b0 b1
 unfold cmpr at this
 rw [if_pos (both_of v1 v2)] at this
 exact this

set_option maxHeartbeats 4000000 in
theorem c_afr4 (op : Int) {n1 d1 n2 d2 : Int} (r : A3) (w : World) (f : Nat) (h : op = 4 \/ op = 5 \/ op = 6 \/ op = 7)
  (CA : Hid (∀ w, op = 4 -> Calls Tryz.prog 143 #[V2 n1 d1, V2 n2 d2] w (Ret (F3 r) w))) (CS : Hid (∀ w, op = 5 -> Calls Tryz.prog 144 #[V2 n1 d1, V2 n2 d2] w (Ret (F3 r) w)))
  (CM : Hid (∀ w, op = 6 -> Calls Tryz.prog 145 #[V2 n1 d1, V2 n2 d2] w (Ret (F3 r) w))) (CD : Hid (∀ w, op = 7 -> Calls Tryz.prog 146 #[V2 n1 d1, V2 n2 d2] w (Ret (F3 r) w))) :
  Calls Tryz.prog 125 #[.int .i64 op, V2 n1 d1, V2 n2 d2] w (Ret (F3 r) w) := by
 obtain ⟨x, y, z⟩ := r
 rcases h with rfl | rfl | rfl | rfl
 ·have C := Lib.hid fun w => CA.out w rfl
  clear CA CS CM CD
  go_enter Tryz.func125, Tryz.ntmps125
  go_wp2_with (first | (go_at_call 143; (with_reducible refine (C.out _).mono ?_); rintro e w1 ⟨rfl, hb1⟩; have hc1 := (bcell hb1).1; have hf1 := (bcell hb1).2; have z1_0 : w.heap.size < w1.heap.size := SqB.z hb1; have z1_1 : w.heap.size + 1 < w1.heap.size := SqB.z hb1; have z1_2 : w.heap.size + 1 + 1 < w1.heap.size := SqB.z hb1; have K1 : Below w.heap.size w w1 := SqB.t hb1))
  refine bodyPost_ret (v := Frac3 x y z) (by simp [results, Tryz.results125, go_sem, hc1, hf1, SqB.n z1_0, SqB.n z1_1, SqB.n z1_2]) rfl ⟨rfl, ?_⟩; exact SqB.b
 ·have C := Lib.hid fun w => CS.out w rfl
  clear CA CS CM CD
  go_enter Tryz.func125, Tryz.ntmps125
  go_wp2_with (first | (go_at_call 144; (with_reducible refine (C.out _).mono ?_); rintro e w1 ⟨rfl, hb1⟩; have hc1 := (bcell hb1).1; have hf1 := (bcell hb1).2; have z1_0 : w.heap.size < w1.heap.size := SqB.z hb1; have z1_1 : w.heap.size + 1 < w1.heap.size := SqB.z hb1; have z1_2 : w.heap.size + 1 + 1 < w1.heap.size := SqB.z hb1; have K1 : Below w.heap.size w w1 := SqB.t hb1))
  refine bodyPost_ret (v := Frac3 x y z) (by simp [results, Tryz.results125, go_sem, hc1, hf1, SqB.n z1_0, SqB.n z1_1, SqB.n z1_2]) rfl ⟨rfl, ?_⟩; exact SqB.b
 ·have C := Lib.hid fun w => CM.out w rfl
  clear CA CS CM CD
  go_enter Tryz.func125, Tryz.ntmps125
  go_wp2_with (first | (go_at_call 145; (with_reducible refine (C.out _).mono ?_); rintro e w1 ⟨rfl, hb1⟩; have hc1 := (bcell hb1).1; have hf1 := (bcell hb1).2; have z1_0 : w.heap.size < w1.heap.size := SqB.z hb1; have z1_1 : w.heap.size + 1 < w1.heap.size := SqB.z hb1; have z1_2 : w.heap.size + 1 + 1 < w1.heap.size := SqB.z hb1; have K1 : Below w.heap.size w w1 := SqB.t hb1))
  refine bodyPost_ret (v := Frac3 x y z) (by simp [results, Tryz.results125, go_sem, hc1, hf1, SqB.n z1_0, SqB.n z1_1, SqB.n z1_2]) rfl ⟨rfl, ?_⟩; exact SqB.b
 ·have C := Lib.hid fun w => CD.out w rfl
  clear CA CS CM CD
  go_enter Tryz.func125, Tryz.ntmps125
  go_wp2_with (first | (go_at_call 146; (with_reducible refine (C.out _).mono ?_); rintro e w1 ⟨rfl, hb1⟩; have hc1 := (bcell hb1).1; have hf1 := (bcell hb1).2; have z1_0 : w.heap.size < w1.heap.size := SqB.z hb1; have z1_1 : w.heap.size + 1 < w1.heap.size := SqB.z hb1; have z1_2 : w.heap.size + 1 + 1 < w1.heap.size := SqB.z hb1; have K1 : Below w.heap.size w w1 := SqB.t hb1))
  refine bodyPost_ret (v := Frac3 x y z) (by simp [results, Tryz.results125, go_sem, hc1, hf1, SqB.n z1_0, SqB.n z1_1, SqB.n z1_2]) rfl ⟨rfl, ?_⟩; exact SqB.b
theorem c_afr8 (op : Int) {n1 d1 n2 d2 : Int} (w : World) (h : op = 8) (v1 : vld n1 d1 = true) : Calls Tryz.prog 125 #[.int .i64 op, V2 n1 d1, V2 n2 d2] w (Ret (F3 (-n1, d1, 0)) w) := by
 have C := Lib.hid fun w => fr_neg v1 w
 subst h
 clear v1
 go_enter Tryz.func125, Tryz.ntmps125
 go_wp2_with (first | (go_at_call 147; (with_reducible refine (C.out _).mono ?_); rintro e w1 ⟨rfl, hb1⟩; have hc1 := (bcell hb1).1; have hf1 := (bcell hb1).2; have z1_0 : w.heap.size < w1.heap.size := SqB.z hb1; have z1_1 : w.heap.size + 1 < w1.heap.size := SqB.z hb1; have z1_2 : w.heap.size + 1 + 1 < w1.heap.size := SqB.z hb1; have K1 : Below w.heap.size w w1 := SqB.t hb1))
 refine bodyPost_ret (v := Frac3 (-n1) d1 0) (by simp [results, Tryz.results125, go_sem, hc1, hf1, SqB.n z1_0, SqB.n z1_1, SqB.n z1_2]) rfl ⟨rfl, ?_⟩; exact SqB.b
theorem c_afr (op : Int) {n1 d1 n2 d2 : Int} (w : World) (h0 : 4 <= op) (h1 : op <= 8) (v1 : vld n1 d1 = true) (v2 : op ≠ 8 -> vld n2 d2 = true) : Calls Tryz.prog 125 #[.int .i64 op, V2 n1 d1, V2 n2 d2] w (Ret (F3 (frv op n1 d1 n2 d2)) w) := by
 by_cases h8 : op = 8
 ·rw [show frv op n1 d1 n2 d2 = (-n1, d1, 0) by unfold frv; rw [if_neg (by omega), if_neg (by omega), if_neg (by omega), if_neg (by omega)]]
  exact c_afr8 op w h8 v1
 ·refine c_afr4 op (frv op n1 d1 n2 d2) w 0 (by omega) (Lib.hid fun w h => ?_) (Lib.hid fun w h => ?_) (Lib.hid fun w h => ?_) (Lib.hid fun w h => ?_)
  ·subst h; exact fr_add v1 (v2 h8) w
  ·subst h; exact fr_sub v1 (v2 h8) w
  ·subst h; exact fr_mul v1 (v2 h8) w
  ·subst h; exact fr_div v1 (v2 h8) w

set_option maxHeartbeats 4000000 in
theorem c_afx4 (op K B F R O : Int) {n1 d1 n2 d2 : Int} (r : A3) (w : World) (h : op = 4 \/ op = 5 \/ op = 6 \/ op = 7)
  (CA : Hid (∀ w, op = 4 -> Calls Tryz.prog 148 #[T5 K B F R O, V2 n1 d1, V2 n2 d2] w (Ret (F3 r) w))) (CS : Hid (∀ w, op = 5 -> Calls Tryz.prog 149 #[T5 K B F R O, V2 n1 d1, V2 n2 d2] w (Ret (F3 r) w)))
  (CM : Hid (∀ w, op = 6 -> Calls Tryz.prog 150 #[T5 K B F R O, V2 n1 d1, V2 n2 d2] w (Ret (F3 r) w))) (CD : Hid (∀ w, op = 7 -> Calls Tryz.prog 151 #[T5 K B F R O, V2 n1 d1, V2 n2 d2] w (Ret (F3 r) w))) :
  Calls Tryz.prog 126 #[.int .i64 op, T5 K B F R O, V2 n1 d1, V2 n2 d2] w (Ret (F3 r) w) := by
 obtain ⟨x, y, z⟩ := r
 rcases h with rfl | rfl | rfl | rfl
 ·have C := Lib.hid fun w => CA.out w rfl
  clear CA CS CM CD
  go_enter Tryz.func126, Tryz.ntmps126
  go_wp2_with (first | (go_at_call 148; (with_reducible refine (C.out _).mono ?_); rintro e w1 ⟨rfl, hb1⟩; have hc1 := (bcell hb1).1; have hf1 := (bcell hb1).2; have z1_0 : w.heap.size < w1.heap.size := SqB.z hb1; have z1_1 : w.heap.size + 1 < w1.heap.size := SqB.z hb1; have z1_2 : w.heap.size + 1 + 1 < w1.heap.size := SqB.z hb1; have z1_3 : w.heap.size + 1 + 1 + 1 < w1.heap.size := SqB.z hb1; have K1 : Below w.heap.size w w1 := SqB.t hb1))
  refine bodyPost_ret (v := Frac3 x y z) (by simp [results, Tryz.results126, go_sem, hc1, hf1, SqB.n z1_0, SqB.n z1_1, SqB.n z1_2, SqB.n z1_3]) rfl ⟨rfl, ?_⟩; exact SqB.b
 ·have C := Lib.hid fun w => CS.out w rfl
  clear CA CS CM CD
  go_enter Tryz.func126, Tryz.ntmps126
  go_wp2_with (first | (go_at_call 149; (with_reducible refine (C.out _).mono ?_); rintro e w1 ⟨rfl, hb1⟩; have hc1 := (bcell hb1).1; have hf1 := (bcell hb1).2; have z1_0 : w.heap.size < w1.heap.size := SqB.z hb1; have z1_1 : w.heap.size + 1 < w1.heap.size := SqB.z hb1; have z1_2 : w.heap.size + 1 + 1 < w1.heap.size := SqB.z hb1; have z1_3 : w.heap.size + 1 + 1 + 1 < w1.heap.size := SqB.z hb1; have K1 : Below w.heap.size w w1 := SqB.t hb1))
  refine bodyPost_ret (v := Frac3 x y z) (by simp [results, Tryz.results126, go_sem, hc1, hf1, SqB.n z1_0, SqB.n z1_1, SqB.n z1_2, SqB.n z1_3]) rfl ⟨rfl, ?_⟩; exact SqB.b
 ·have C := Lib.hid fun w => CM.out w rfl
  clear CA CS CM CD
  go_enter Tryz.func126, Tryz.ntmps126
  go_wp2_with (first | (go_at_call 150; (with_reducible refine (C.out _).mono ?_); rintro e w1 ⟨rfl, hb1⟩; have hc1 := (bcell hb1).1; have hf1 := (bcell hb1).2; have z1_0 : w.heap.size < w1.heap.size := SqB.z hb1; have z1_1 : w.heap.size + 1 < w1.heap.size := SqB.z hb1; have z1_2 : w.heap.size + 1 + 1 < w1.heap.size := SqB.z hb1; have z1_3 : w.heap.size + 1 + 1 + 1 < w1.heap.size := SqB.z hb1; have K1 : Below w.heap.size w w1 := SqB.t hb1))
  refine bodyPost_ret (v := Frac3 x y z) (by simp [results, Tryz.results126, go_sem, hc1, hf1, SqB.n z1_0, SqB.n z1_1, SqB.n z1_2, SqB.n z1_3]) rfl ⟨rfl, ?_⟩; exact SqB.b
 ·have C := Lib.hid fun w => CD.out w rfl
  clear CA CS CM CD
  go_enter Tryz.func126, Tryz.ntmps126
  go_wp2_with (first | (go_at_call 151; (with_reducible refine (C.out _).mono ?_); rintro e w1 ⟨rfl, hb1⟩; have hc1 := (bcell hb1).1; have hf1 := (bcell hb1).2; have z1_0 : w.heap.size < w1.heap.size := SqB.z hb1; have z1_1 : w.heap.size + 1 < w1.heap.size := SqB.z hb1; have z1_2 : w.heap.size + 1 + 1 < w1.heap.size := SqB.z hb1; have z1_3 : w.heap.size + 1 + 1 + 1 < w1.heap.size := SqB.z hb1; have K1 : Below w.heap.size w w1 := SqB.t hb1))
  refine bodyPost_ret (v := Frac3 x y z) (by simp [results, Tryz.results126, go_sem, hc1, hf1, SqB.n z1_0, SqB.n z1_1, SqB.n z1_2, SqB.n z1_3]) rfl ⟨rfl, ?_⟩; exact SqB.b
theorem c_afx8 (op K B F R O : Int) {n1 d1 n2 d2 : Int} (r : A3) (w : World) (h : op = 8) (C : Hid (∀ w, Calls Tryz.prog 152 #[T5 K B F R O, V2 n1 d1] w (Ret (F3 r) w))) : Calls Tryz.prog 126 #[.int .i64 op, T5 K B F R O, V2 n1 d1, V2 n2 d2] w (Ret (F3 r) w) := by
 obtain ⟨x, y, z⟩ := r
 subst h
 go_enter Tryz.func126, Tryz.ntmps126
 go_wp2_with (first | (go_at_call 152; (with_reducible refine (C.out _).mono ?_); rintro e w1 ⟨rfl, hb1⟩; have hc1 := (bcell hb1).1; have hf1 := (bcell hb1).2; have z1_0 : w.heap.size < w1.heap.size := SqB.z hb1; have z1_1 : w.heap.size + 1 < w1.heap.size := SqB.z hb1; have z1_2 : w.heap.size + 1 + 1 < w1.heap.size := SqB.z hb1; have z1_3 : w.heap.size + 1 + 1 + 1 < w1.heap.size := SqB.z hb1; have K1 : Below w.heap.size w w1 := SqB.t hb1))
 refine bodyPost_ret (v := Frac3 x y z) (by simp [results, Tryz.results126, go_sem, hc1, hf1, SqB.n z1_0, SqB.n z1_1, SqB.n z1_2, SqB.n z1_3]) rfl ⟨rfl, ?_⟩; exact SqB.b
theorem c_afx (op K B F R O : Int) {n1 d1 n2 d2 : Int} (w : World) (h0 : 4 <= op) (h1 : op <= 8) (v1 : fv K B F R O n1 d1 = true) (v2 : op ≠ 8 -> fv K B F R O n2 d2 = true) : Calls Tryz.prog 126 #[.int .i64 op, T5 K B F R O, V2 n1 d1, V2 n2 d2] w (Ret (F3 (fxv op B F R O n1 n2)) w) := by
 by_cases h8 : op = 8
 ·refine c_afx8 op K B F R O _ w h8 (Lib.hid fun w => ?_)
  subst h8
  exact neg_ok2 K B F R O n1 d1 v1 w
 ·have v3 := v2 h8
  refine c_afx4 op K B F R O _ w (by omega) (Lib.hid fun w h => ?_) (Lib.hid fun w h => ?_) (Lib.hid fun w h => ?_) (Lib.hid fun w h => ?_)
  ·subst h; exact add_ok2 K B F R O n1 d1 n2 d2 v1 v3 w
  ·subst h; exact sub_ok2 K B F R O n1 d1 n2 d2 v1 v3 w
  ·subst h; exact mul_ok2 K B F R O n1 d1 n2 d2 v1 v3 w
  ·subst h
   by_cases hz : n2 = 0
   ·subst hz
    exact div_zero2 K B F R O n1 d1 d2 v1 v3 w
   ·have e : fxv 7 B F R O n1 n2 = (Nx.nv (Dv.dval R (n1 * 2 ^ F.toNat) n2) B O, 1, 0) := by unfold fxv; rw [if_neg (by omega)]; rfl
    rw [e]
    exact div_ok2 K B F R O n1 d1 n2 d2 v1 v3 hz w
end Go.Proofs.YteaaikmejacpaaaGreatDoor.Va


namespace Go.Proofs.YteaaikmejacpaaaGreatDoor.Va
open Go.ChangeShapes Go.WideShapes Go.ChangeAt Go.RowKit
open Fr Fx
set_option maxRecDepth 8000
set_option linter.unusedVariables false
set_option linter.unusedSimpArgs false
set_option maxRecDepth 8000
theorem c_choose (b : Bool) (n1 d1 n2 d2 : Int) (w : World) : Calls Tryz.prog 123 #[.bool b, V2 n1 d1, V2 n2 d2] w (Ret (V2 (if b then n1 else n2) (if b then d1 else d2)) w) := by
 cases b
 ·go_enter Tryz.func123, Tryz.ntmps123
  go_wp2
  refine bodyPost_ret (v := V2 n2 d2) (by simp [results, Tryz.results123, go_sem]) rfl ⟨rfl, ?_⟩; exact SqB.b
 ·go_enter Tryz.func123, Tryz.ntmps123
  go_wp2
  refine bodyPost_ret (v := V2 n1 d1) (by simp [results, Tryz.results123, go_sem]) rfl ⟨rfl, ?_⟩; exact SqB.b
set_option maxHeartbeats 4000000 in
theorem c_aint (op a b : Int) (w : World) (h0 : 4 <= op) (h1 : op <= 8) (a0 : -2147483647 <= a) (a1 : a <= 2147483647) (hb : op ≠ 8 -> -2147483647 <= b /\ b <= 2147483647) (b2 : -9223372036854775808 <= b) (b3 : b <= 9223372036854775807) : Calls Tryz.prog 127 #[.int .i64 op, .int .i64 a, .int .i64 b] w (Ret (F3 (whv op a b)) w) := by
 have FT := Lib.hid fun n w => c_fits n w
 have hv : ∀ m : Int, ¬ (op = 7 /\ b = 0) -> whn op a b = m -> whv op a b = if decide (-2147483647 <= m /\ m <= 2147483647) then (m, 1, 0) else (0, 0, 3) := by
  intro m h1 h2
  unfold whv
  rw [if_neg h1, h2]
  simp only [decide_eq_true_eq]
 rcases (by omega : op = 4 \/ op = 5 \/ op = 6 \/ op = 7 \/ op = 8) with rfl | rfl | rfl | rfl | rfl
 ·obtain ⟨b0, b1⟩ := hb (by decide)
  obtain ⟨m, hm⟩ : ∃ m, a + b = m := ⟨_, rfl⟩
  rw [hv m (by omega) hm]
  have FM := Lib.hid fun w => FT.out m w
  clear hv FT h0 h1 hb
  cases hd : decide (-2147483647 <= m /\ m <= 2147483647)
  ·rw [hd] at FM
   clear hd
   go_enter Tryz.func127, Tryz.ntmps127
   go_wp2_with (first | (go_at_call 85; (with_reducible refine (FM.out _).mono ?_); rintro e w9 ⟨rfl, rfl⟩))
   refine bodyPost_ret (v := Frac3 0 0 3) (by simp [results, Tryz.results127, go_sem]) rfl ⟨rfl, ?_⟩; exact SqB.b
  ·rw [hd] at FM
   clear hd
   go_enter Tryz.func127, Tryz.ntmps127
   go_wp2_with (first | (go_at_call 85; (with_reducible refine (FM.out _).mono ?_); rintro e w9 ⟨rfl, rfl⟩))
   refine bodyPost_ret (v := Frac3 m 1 0) (by simp [results, Tryz.results127, go_sem]) rfl ⟨rfl, ?_⟩; exact SqB.b
 ·obtain ⟨b0, b1⟩ := hb (by decide)
  obtain ⟨m, hm⟩ : ∃ m, a - b = m := ⟨_, rfl⟩
  rw [hv m (by omega) hm]
  have FM := Lib.hid fun w => FT.out m w
  clear hv FT h0 h1 hb
  cases hd : decide (-2147483647 <= m /\ m <= 2147483647)
  ·rw [hd] at FM
   clear hd
   go_enter Tryz.func127, Tryz.ntmps127
   go_wp2_with (first | (go_at_call 85; (with_reducible refine (FM.out _).mono ?_); rintro e w9 ⟨rfl, rfl⟩))
   refine bodyPost_ret (v := Frac3 0 0 3) (by simp [results, Tryz.results127, go_sem]) rfl ⟨rfl, ?_⟩; exact SqB.b
  ·rw [hd] at FM
   clear hd
   go_enter Tryz.func127, Tryz.ntmps127
   go_wp2_with (first | (go_at_call 85; (with_reducible refine (FM.out _).mono ?_); rintro e w9 ⟨rfl, rfl⟩))
   refine bodyPost_ret (v := Frac3 m 1 0) (by simp [results, Tryz.results127, go_sem]) rfl ⟨rfl, ?_⟩; exact SqB.b
 ·obtain ⟨b0, b1⟩ := hb (by decide)
  obtain ⟨p0, p1⟩ := prod_bound2 a0 a1 b0 b1
  obtain ⟨m, hm⟩ : ∃ m, a * b = m := ⟨_, rfl⟩
  rw [hm] at p0 p1
  rw [hv m (by omega) hm]
  have FM := Lib.hid fun w => FT.out m w
  clear hv FT h0 h1 hb
  cases hd : decide (-2147483647 <= m /\ m <= 2147483647)
  ·rw [hd] at FM
   clear hd
   go_enter Tryz.func127, Tryz.ntmps127
   go_wp2_with (first | (go_at_call 85; (with_reducible refine (FM.out _).mono ?_); rintro e w9 ⟨rfl, rfl⟩))
   refine bodyPost_ret (v := Frac3 0 0 3) (by simp [results, Tryz.results127, go_sem]) rfl ⟨rfl, ?_⟩; exact SqB.b
  ·rw [hd] at FM
   clear hd
   go_enter Tryz.func127, Tryz.ntmps127
   go_wp2_with (first | (go_at_call 85; (with_reducible refine (FM.out _).mono ?_); rintro e w9 ⟨rfl, rfl⟩))
   refine bodyPost_ret (v := Frac3 m 1 0) (by simp [results, Tryz.results127, go_sem]) rfl ⟨rfl, ?_⟩; exact SqB.b
 ·have DV := Lib.hid fun w => Dv.div_any 1 a b w (by omega) (by omega) b2 b3
  by_cases hz : b = 0
  ·subst hz
   rw [show whv 7 a 0 = (0, 0, 4) by unfold whv; rw [if_pos ⟨rfl, rfl⟩]]
   rw [show Dv.dval 1 a 0 = 0 from rfl, show Dv.derr 1 a 0 = 4 from rfl] at DV
   clear hv FT h0 h1 hb
   go_enter Tryz.func127, Tryz.ntmps127
   go_wp2_with (first | (go_at_call 153; (with_reducible refine (DV.out _).mono ?_); rintro e w9 ⟨rfl, kd, rfl⟩))
   refine bodyPost_ret (v := Frac3 0 0 4) (by simp [results, Tryz.results127, go_sem]) rfl ⟨rfl, ?_⟩; exact SqB.b
  ·obtain ⟨b0, b1⟩ := hb (by decide)
   have he : Dv.derr 1 a b = 0 := by unfold Dv.derr; rw [if_neg (by omega), if_neg (by omega), if_neg (by omega)]
   rw [he] at DV
   obtain ⟨m, hm⟩ : ∃ m, Dv.dval 1 a b = m := ⟨_, rfl⟩
   rw [hm] at DV
   rw [hv m (by omega) hm]
   have FM := Lib.hid fun w => FT.out m w
   clear hv FT h0 h1 hb he hm hz
   cases hd : decide (-2147483647 <= m /\ m <= 2147483647)
   ·rw [hd] at FM
    clear hd
    go_enter Tryz.func127, Tryz.ntmps127
    go_wp2_with (first | (go_at_call 153; (with_reducible refine (DV.out _).mono ?_); rintro e w8 ⟨rfl, kd, rfl⟩) | (go_at_call 85; (with_reducible refine (FM.out _).mono ?_); rintro e w9 ⟨rfl, rfl⟩))
    refine bodyPost_ret (v := Frac3 0 0 3) (by simp [results, Tryz.results127, go_sem]) rfl ⟨rfl, ?_⟩; exact SqB.b
   ·rw [hd] at FM
    clear hd
    go_enter Tryz.func127, Tryz.ntmps127
    go_wp2_with (first | (go_at_call 153; (with_reducible refine (DV.out _).mono ?_); rintro e w8 ⟨rfl, kd, rfl⟩) | (go_at_call 85; (with_reducible refine (FM.out _).mono ?_); rintro e w9 ⟨rfl, rfl⟩))
    refine bodyPost_ret (v := Frac3 m 1 0) (by simp [results, Tryz.results127, go_sem]) rfl ⟨rfl, ?_⟩; exact SqB.b
 ·obtain ⟨m, hm⟩ : ∃ m, -a = m := ⟨_, rfl⟩
  rw [hv m (by omega) hm]
  have FM := Lib.hid fun w => FT.out m w
  clear hv FT h0 h1 hb
  cases hd : decide (-2147483647 <= m /\ m <= 2147483647)
  ·rw [hd] at FM
   clear hd
   go_enter Tryz.func127, Tryz.ntmps127
   go_wp2_with (first | (go_at_call 85; (with_reducible refine (FM.out _).mono ?_); rintro e w9 ⟨rfl, rfl⟩))
   refine bodyPost_ret (v := Frac3 0 0 3) (by simp [results, Tryz.results127, go_sem]) rfl ⟨rfl, ?_⟩; exact SqB.b
  ·rw [hd] at FM
   clear hd
   go_enter Tryz.func127, Tryz.ntmps127
   go_wp2_with (first | (go_at_call 85; (with_reducible refine (FM.out _).mono ?_); rintro e w9 ⟨rfl, rfl⟩))
   refine bodyPost_ret (v := Frac3 m 1 0) (by simp [results, Tryz.results127, go_sem]) rfl ⟨rfl, ?_⟩; exact SqB.b
theorem cmp_int (x y : Int) (w : World) : Calls Tryz.prog 142 #[.int .i64 x, .int .i64 y] w fun e w' => e = .returned (.int .i64 (cmpv x y)) /\ w = w' := cmp45 x y w
set_option maxHeartbeats 4000000 in
theorem c_cmp (K B F R O n1 d1 n2 d2 : Int) (w : World) (b0 : -9223372036854775808 <= B) (b1 : B <= 9223372036854775807) : Calls Tryz.prog 124 #[T5 K B F R O, V2 n1 d1, V2 n2 d2] w (Ret (.int .i64 (cpv K B F R O n1 d1 n2 d2)) w) := by
 have V1 := Lib.hid fun w => c_va K B F R O n1 d1 w b0 b1
 have V2 := Lib.hid fun w => c_va K B F R O n2 d2 w b0 b1
 clear b0 b1
 unfold cpv
 cases h1 : vv K B F R O n1 d1
 ·rw [h1] at V1
  clear V2 h1
  go_enter Tryz.func124, Tryz.ntmps124
  go_wp2_with (first | (go_at_call 48; (with_reducible refine (V1.out _).mono ?_); rintro e w1 ⟨rfl, hb1⟩; have hc1 := (bcell hb1).1; have hf1 := (bcell hb1).2; have z1_0 : w.heap.size < w1.heap.size := SqB.z hb1; have z1_1 : w.heap.size + 1 < w1.heap.size := SqB.z hb1; have z1_2 : w.heap.size + 1 + 1 < w1.heap.size := SqB.z hb1; have K1 : Below w.heap.size w w1 := SqB.t hb1))
  go_ret
  exact ⟨rfl, K1⟩
 ·rw [h1] at V1
  cases h2 : vv K B F R O n2 d2
  ·rw [h2] at V2
   clear h1 h2
   go_enter Tryz.func124, Tryz.ntmps124
   go_wp2_with (first | (go_at_call 48; (with_reducible refine (V1.out _).mono ?_); rintro e w1 ⟨rfl, hb1⟩; have hc1 := (bcell hb1).1; have hf1 := (bcell hb1).2; have z1_0 : w.heap.size < w1.heap.size := SqB.z hb1; have z1_1 : w.heap.size + 1 < w1.heap.size := SqB.z hb1; have z1_2 : w.heap.size + 1 + 1 < w1.heap.size := SqB.z hb1; have K1 : Below w.heap.size w w1 := SqB.t hb1) | (go_at_call 48; (with_reducible refine (V2.out _).mono ?_); rintro e w2 ⟨rfl, hb2⟩; have hc2 := (bcell hb2).1; have hf2 := (bcell hb2).2; have z2_0 : w.heap.size < w2.heap.size := SqB.z hb2; have z2_1 : w.heap.size + 1 < w2.heap.size := SqB.z hb2; have z2_2 : w.heap.size + 1 + 1 < w2.heap.size := SqB.z hb2; have K2 : Below w.heap.size w w2 := SqB.t hb2))
   go_ret
   exact ⟨rfl, K2⟩
  ·rw [h2] at V2
   obtain ⟨x1, x2, x3, x4, x5⟩ := vv_small h1
   obtain ⟨y1, y2, y3, y4, y5⟩ := vv_small h2
   by_cases hk : K = 1
   ·have hk1 : (K == 1) = true := by simpa using hk
    have t1 := vv_ty h1
    have w1 : vld n1 d1 = true := by
     unfold vv at h1
     rw [if_neg (by omega), t1, if_pos hk] at h1
     exact h1
    have w2 : vld n2 d2 = true := by
     unfold vv at h2
     rw [if_neg (by omega), t1, if_pos hk] at h2
     exact h2
    have FC := Lib.hid fun w => fr_cmp w1 w2 w
    clear h1 h2 w1 w2 t1 hk
    go_enter Tryz.func124, Tryz.ntmps124
    go_wp2_with (first | (go_at_call 48; (with_reducible refine (V1.out _).mono ?_); rintro e w1 ⟨rfl, hb1⟩; have hc1 := (bcell hb1).1; have hf1 := (bcell hb1).2; have z1_0 : w.heap.size < w1.heap.size := SqB.z hb1; have z1_1 : w.heap.size + 1 < w1.heap.size := SqB.z hb1; have z1_2 : w.heap.size + 1 + 1 < w1.heap.size := SqB.z hb1; have K1 : Below w.heap.size w w1 := SqB.t hb1) | (go_at_call 48; (with_reducible refine (V2.out _).mono ?_); rintro e w2 ⟨rfl, hb2⟩; have hc2 := (bcell hb2).1; have hf2 := (bcell hb2).2; have z2_0 : w.heap.size < w2.heap.size := SqB.z hb2; have z2_1 : w.heap.size + 1 < w2.heap.size := SqB.z hb2; have z2_2 : w.heap.size + 1 + 1 < w2.heap.size := SqB.z hb2; have K2 : Below w.heap.size w w2 := SqB.t hb2) | (go_at_call 141; (with_reducible refine (FC.out _).mono ?_); rintro e w3 ⟨rfl, hb3⟩; have hc3 := (bcell hb3).1; have hf3 := (bcell hb3).2; have z3_0 : w.heap.size < w3.heap.size := SqB.z hb3; have z3_1 : w.heap.size + 1 < w3.heap.size := SqB.z hb3; have z3_2 : w.heap.size + 1 + 1 < w3.heap.size := SqB.z hb3; have K3 : Below w.heap.size w w3 := SqB.t hb3))
    go_ret
    exact ⟨rfl, K3⟩
   ·have hk1 : (K == 1) = false := by simpa using hk
    obtain rfl := x5 hk
    obtain rfl := y5 hk
    rw [Int.mul_one, Int.mul_one]
    have CI := Lib.hid fun w => cmp_int n1 n2 w
    clear h1 h2 x5 y5 hk
    go_enter Tryz.func124, Tryz.ntmps124
    go_wp2_with (first | (go_at_call 48; (with_reducible refine (V1.out _).mono ?_); rintro e w1 ⟨rfl, hb1⟩; have hc1 := (bcell hb1).1; have hf1 := (bcell hb1).2; have z1_0 : w.heap.size < w1.heap.size := SqB.z hb1; have z1_1 : w.heap.size + 1 < w1.heap.size := SqB.z hb1; have z1_2 : w.heap.size + 1 + 1 < w1.heap.size := SqB.z hb1; have K1 : Below w.heap.size w w1 := SqB.t hb1) | (go_at_call 48; (with_reducible refine (V2.out _).mono ?_); rintro e w2 ⟨rfl, hb2⟩; have hc2 := (bcell hb2).1; have hf2 := (bcell hb2).2; have z2_0 : w.heap.size < w2.heap.size := SqB.z hb2; have z2_1 : w.heap.size + 1 < w2.heap.size := SqB.z hb2; have z2_2 : w.heap.size + 1 + 1 < w2.heap.size := SqB.z hb2; have K2 : Below w.heap.size w w2 := SqB.t hb2) | (go_at_call 142; (with_reducible refine (CI.out _).mono ?_); rintro e w9 ⟨rfl, rfl⟩))
    go_ret
    exact ⟨rfl, K2⟩
end Go.Proofs.YteaaikmejacpaaaGreatDoor.Va
