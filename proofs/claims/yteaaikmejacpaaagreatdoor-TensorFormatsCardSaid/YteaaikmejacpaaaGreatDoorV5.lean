/- The operators of package value on integers; Compare. -/
import Derived.Test.YteaaikmejacpaaaGreatDoorS7

namespace Go.Proofs.YteaaikmejacpaaaGreatDoor.Va
open Go.ChangeShapes Go.WideShapes Go.ChangeAt Go.RowKit
open Fr Fx
set_option maxRecDepth 8000
set_option linter.unusedVariables false
set_option linter.unusedSimpArgs false
set_option maxRecDepth 8000
theorem c_choose (b : Bool) (n1 d1 n2 d2 : Int) (w : World) : Calls Tryz.prog 123 #[.bool b, V2 n1 d1, V2 n2 d2] w (Ret (V2 (if b then n1 else n2) (if b then d1 else d2)) w) := by
 cases b
 ·go_enter Tryz.func123, Tryz.ntmps123
  go_wp2
  refine bodyPost_ret (v := V2 n2 d2) (by simp [results, Tryz.results123, go_sem]) rfl ⟨rfl, ?_⟩; (repeat' (first | (with_reducible exact Below.refl _ _) | (with_reducible refine Below.alloc ?_ ?_ _) | (with_reducible refine Below.setCell ?_ ?_ _) | (with_reducible refine below_drewN ?_ _) | (simp; done) | omega | (simp; omega)))
 ·go_enter Tryz.func123, Tryz.ntmps123
  go_wp2
  refine bodyPost_ret (v := V2 n1 d1) (by simp [results, Tryz.results123, go_sem]) rfl ⟨rfl, ?_⟩; (repeat' (first | (with_reducible exact Below.refl _ _) | (with_reducible refine Below.alloc ?_ ?_ _) | (with_reducible refine Below.setCell ?_ ?_ _) | (with_reducible refine below_drewN ?_ _) | (simp; done) | omega | (simp; omega)))
set_option maxHeartbeats 4000000 in
theorem c_aint (op a b : Int) (w : World) (h0 : 4 <= op) (h1 : op <= 8) (a0 : -2147483647 <= a) (a1 : a <= 2147483647) (hb : op ≠ 8 -> -2147483647 <= b /\ b <= 2147483647) (b2 : -9223372036854775808 <= b) (b3 : b <= 9223372036854775807) : Calls Tryz.prog 127 #[.int .i64 op, .int .i64 a, .int .i64 b] w (Ret (F3 (whv op a b)) w) := by
 have FT := Lib.hid fun n w => c_fits n w
 have hv : ∀ m : Int, ¬ (op = 7 /\ b = 0) -> whn op a b = m -> whv op a b = if decide (-2147483647 <= m /\ m <= 2147483647) then (m, 1, 0) else (0, 0, 3) := by
  intro m h1 h2
  unfold whv
  rw [if_neg h1, h2]
  simp only [decide_eq_true_eq]
 rcases (by omega : op = 4 \/ op = 5 \/ op = 6 \/ op = 7 \/ op = 8) with rfl | rfl | rfl | rfl | rfl
 ·obtain ⟨b0, b1⟩ := hb (by decide)
  obtain ⟨m, hm⟩ : ∃ m, a + b = m := ⟨_, rfl⟩
  rw [hv m (by omega) hm]
  have FM := Lib.hid fun w => FT.out m w
  clear hv FT h0 h1 hb
  cases hd : decide (-2147483647 <= m /\ m <= 2147483647)
  ·rw [hd] at FM
   clear hd
   go_enter Tryz.func127, Tryz.ntmps127
   go_wp2_with (first | (go_at_call 85; (with_reducible refine (FM.out _).mono ?_); rintro e w9 ⟨rfl, rfl⟩))
   refine bodyPost_ret (v := Frac3 0 0 3) (by simp [results, Tryz.results127, go_sem]) rfl ⟨rfl, ?_⟩; (repeat' (first | (with_reducible exact Below.refl _ _) | (with_reducible refine Below.alloc ?_ ?_ _) | (with_reducible refine Below.setCell ?_ ?_ _) | (with_reducible refine below_drewN ?_ _) | (simp; done) | omega | (simp; omega)))
  ·rw [hd] at FM
   clear hd
   go_enter Tryz.func127, Tryz.ntmps127
   go_wp2_with (first | (go_at_call 85; (with_reducible refine (FM.out _).mono ?_); rintro e w9 ⟨rfl, rfl⟩))
   refine bodyPost_ret (v := Frac3 m 1 0) (by simp [results, Tryz.results127, go_sem]) rfl ⟨rfl, ?_⟩; (repeat' (first | (with_reducible exact Below.refl _ _) | (with_reducible refine Below.alloc ?_ ?_ _) | (with_reducible refine Below.setCell ?_ ?_ _) | (with_reducible refine below_drewN ?_ _) | (simp; done) | omega | (simp; omega)))
 ·obtain ⟨b0, b1⟩ := hb (by decide)
  obtain ⟨m, hm⟩ : ∃ m, a - b = m := ⟨_, rfl⟩
  rw [hv m (by omega) hm]
  have FM := Lib.hid fun w => FT.out m w
  clear hv FT h0 h1 hb
  cases hd : decide (-2147483647 <= m /\ m <= 2147483647)
  ·rw [hd] at FM
   clear hd
   go_enter Tryz.func127, Tryz.ntmps127
   go_wp2_with (first | (go_at_call 85; (with_reducible refine (FM.out _).mono ?_); rintro e w9 ⟨rfl, rfl⟩))
   refine bodyPost_ret (v := Frac3 0 0 3) (by simp [results, Tryz.results127, go_sem]) rfl ⟨rfl, ?_⟩; (repeat' (first | (with_reducible exact Below.refl _ _) | (with_reducible refine Below.alloc ?_ ?_ _) | (with_reducible refine Below.setCell ?_ ?_ _) | (with_reducible refine below_drewN ?_ _) | (simp; done) | omega | (simp; omega)))
  ·rw [hd] at FM
   clear hd
   go_enter Tryz.func127, Tryz.ntmps127
   go_wp2_with (first | (go_at_call 85; (with_reducible refine (FM.out _).mono ?_); rintro e w9 ⟨rfl, rfl⟩))
   refine bodyPost_ret (v := Frac3 m 1 0) (by simp [results, Tryz.results127, go_sem]) rfl ⟨rfl, ?_⟩; (repeat' (first | (with_reducible exact Below.refl _ _) | (with_reducible refine Below.alloc ?_ ?_ _) | (with_reducible refine Below.setCell ?_ ?_ _) | (with_reducible refine below_drewN ?_ _) | (simp; done) | omega | (simp; omega)))
 ·obtain ⟨b0, b1⟩ := hb (by decide)
  obtain ⟨p0, p1⟩ := prod_bound2 a0 a1 b0 b1
  obtain ⟨m, hm⟩ : ∃ m, a * b = m := ⟨_, rfl⟩
  rw [hm] at p0 p1
  rw [hv m (by omega) hm]
  have FM := Lib.hid fun w => FT.out m w
  clear hv FT h0 h1 hb
  cases hd : decide (-2147483647 <= m /\ m <= 2147483647)
  ·rw [hd] at FM
   clear hd
   go_enter Tryz.func127, Tryz.ntmps127
   go_wp2_with (first | (go_at_call 85; (with_reducible refine (FM.out _).mono ?_); rintro e w9 ⟨rfl, rfl⟩))
   refine bodyPost_ret (v := Frac3 0 0 3) (by simp [results, Tryz.results127, go_sem]) rfl ⟨rfl, ?_⟩; (repeat' (first | (with_reducible exact Below.refl _ _) | (with_reducible refine Below.alloc ?_ ?_ _) | (with_reducible refine Below.setCell ?_ ?_ _) | (with_reducible refine below_drewN ?_ _) | (simp; done) | omega | (simp; omega)))
  ·rw [hd] at FM
   clear hd
   go_enter Tryz.func127, Tryz.ntmps127
   go_wp2_with (first | (go_at_call 85; (with_reducible refine (FM.out _).mono ?_); rintro e w9 ⟨rfl, rfl⟩))
   refine bodyPost_ret (v := Frac3 m 1 0) (by simp [results, Tryz.results127, go_sem]) rfl ⟨rfl, ?_⟩; (repeat' (first | (with_reducible exact Below.refl _ _) | (with_reducible refine Below.alloc ?_ ?_ _) | (with_reducible refine Below.setCell ?_ ?_ _) | (with_reducible refine below_drewN ?_ _) | (simp; done) | omega | (simp; omega)))
 ·have DV := Lib.hid fun w => Dv.div_any 1 a b w (by omega) (by omega) b2 b3
  by_cases hz : b = 0
  ·subst hz
   rw [show whv 7 a 0 = (0, 0, 4) by unfold whv; rw [if_pos ⟨rfl, rfl⟩]]
   rw [show Dv.dval 1 a 0 = 0 from rfl, show Dv.derr 1 a 0 = 4 from rfl] at DV
   clear hv FT h0 h1 hb
   go_enter Tryz.func127, Tryz.ntmps127
   go_wp2_with (first | (go_at_call 153; (with_reducible refine (DV.out _).mono ?_); rintro e w9 ⟨rfl, kd, rfl⟩))
   refine bodyPost_ret (v := Frac3 0 0 4) (by simp [results, Tryz.results127, go_sem]) rfl ⟨rfl, ?_⟩; (repeat' (first | (with_reducible exact Below.refl _ _) | (with_reducible refine Below.alloc ?_ ?_ _) | (with_reducible refine Below.setCell ?_ ?_ _) | (with_reducible refine below_drewN ?_ _) | (simp; done) | omega | (simp; omega)))
  ·obtain ⟨b0, b1⟩ := hb (by decide)
   have he : Dv.derr 1 a b = 0 := by unfold Dv.derr; rw [if_neg (by omega), if_neg (by omega), if_neg (by omega)]
   rw [he] at DV
   obtain ⟨m, hm⟩ : ∃ m, Dv.dval 1 a b = m := ⟨_, rfl⟩
   rw [hm] at DV
   rw [hv m (by omega) hm]
   have FM := Lib.hid fun w => FT.out m w
   clear hv FT h0 h1 hb he hm hz
   cases hd : decide (-2147483647 <= m /\ m <= 2147483647)
   ·rw [hd] at FM
    clear hd
    go_enter Tryz.func127, Tryz.ntmps127
    go_wp2_with (first | (go_at_call 153; (with_reducible refine (DV.out _).mono ?_); rintro e w8 ⟨rfl, kd, rfl⟩) | (go_at_call 85; (with_reducible refine (FM.out _).mono ?_); rintro e w9 ⟨rfl, rfl⟩))
    refine bodyPost_ret (v := Frac3 0 0 3) (by simp [results, Tryz.results127, go_sem]) rfl ⟨rfl, ?_⟩; (repeat' (first | (with_reducible exact Below.refl _ _) | (with_reducible refine Below.alloc ?_ ?_ _) | (with_reducible refine Below.setCell ?_ ?_ _) | (with_reducible refine below_drewN ?_ _) | (simp; done) | omega | (simp; omega)))
   ·rw [hd] at FM
    clear hd
    go_enter Tryz.func127, Tryz.ntmps127
    go_wp2_with (first | (go_at_call 153; (with_reducible refine (DV.out _).mono ?_); rintro e w8 ⟨rfl, kd, rfl⟩) | (go_at_call 85; (with_reducible refine (FM.out _).mono ?_); rintro e w9 ⟨rfl, rfl⟩))
    refine bodyPost_ret (v := Frac3 m 1 0) (by simp [results, Tryz.results127, go_sem]) rfl ⟨rfl, ?_⟩; (repeat' (first | (with_reducible exact Below.refl _ _) | (with_reducible refine Below.alloc ?_ ?_ _) | (with_reducible refine Below.setCell ?_ ?_ _) | (with_reducible refine below_drewN ?_ _) | (simp; done) | omega | (simp; omega)))
 ·obtain ⟨m, hm⟩ : ∃ m, -a = m := ⟨_, rfl⟩
  rw [hv m (by omega) hm]
  have FM := Lib.hid fun w => FT.out m w
  clear hv FT h0 h1 hb
  cases hd : decide (-2147483647 <= m /\ m <= 2147483647)
  ·rw [hd] at FM
   clear hd
   go_enter Tryz.func127, Tryz.ntmps127
   go_wp2_with (first | (go_at_call 85; (with_reducible refine (FM.out _).mono ?_); rintro e w9 ⟨rfl, rfl⟩))
   refine bodyPost_ret (v := Frac3 0 0 3) (by simp [results, Tryz.results127, go_sem]) rfl ⟨rfl, ?_⟩; (repeat' (first | (with_reducible exact Below.refl _ _) | (with_reducible refine Below.alloc ?_ ?_ _) | (with_reducible refine Below.setCell ?_ ?_ _) | (with_reducible refine below_drewN ?_ _) | (simp; done) | omega | (simp; omega)))
  ·rw [hd] at FM
   clear hd
   go_enter Tryz.func127, Tryz.ntmps127
   go_wp2_with (first | (go_at_call 85; (with_reducible refine (FM.out _).mono ?_); rintro e w9 ⟨rfl, rfl⟩))
   refine bodyPost_ret (v := Frac3 m 1 0) (by simp [results, Tryz.results127, go_sem]) rfl ⟨rfl, ?_⟩; (repeat' (first | (with_reducible exact Below.refl _ _) | (with_reducible refine Below.alloc ?_ ?_ _) | (with_reducible refine Below.setCell ?_ ?_ _) | (with_reducible refine below_drewN ?_ _) | (simp; done) | omega | (simp; omega)))
theorem cmp_int (x y : Int) (w : World) : Calls Tryz.prog 142 #[.int .i64 x, .int .i64 y] w fun e w' => e = .returned (.int .i64 (cmpv x y)) /\ w = w' := cmp45 x y w
set_option maxHeartbeats 4000000 in
theorem c_cmp (K B F R O n1 d1 n2 d2 : Int) (w : World) (b0 : -9223372036854775808 <= B) (b1 : B <= 9223372036854775807) : Calls Tryz.prog 124 #[T5 K B F R O, V2 n1 d1, V2 n2 d2] w (Ret (.int .i64 (cpv K B F R O n1 d1 n2 d2)) w) := by
 have V1 := Lib.hid fun w => c_va K B F R O n1 d1 w b0 b1
 have V2 := Lib.hid fun w => c_va K B F R O n2 d2 w b0 b1
 clear b0 b1
 unfold cpv
 cases h1 : vv K B F R O n1 d1
 ·rw [h1] at V1
  clear V2 h1
  go_enter Tryz.func124, Tryz.ntmps124
  go_wp2_with (first | (go_at_call 48; (with_reducible refine (V1.out _).mono ?_); rintro e w1 ⟨rfl, hb1⟩; have hc1 := (bcell hb1).1; have hf1 := (bcell hb1).2; have z1_0 : w.heap.size < w1.heap.size := (by have hzz := hb1.size; (try simp at hzz); omega); have z1_1 : w.heap.size + 1 < w1.heap.size := (by have hzz := hb1.size; (try simp at hzz); omega); have z1_2 : w.heap.size + 1 + 1 < w1.heap.size := (by have hzz := hb1.size; (try simp at hzz); omega); have K1 : Below w.heap.size w w1 := Below.trans (b := _) (by (repeat' (first | (with_reducible exact Below.refl _ _) | (with_reducible refine Below.alloc ?_ ?_ _) | (with_reducible refine Below.setCell ?_ ?_ _) | (with_reducible refine below_drewN ?_ _) | (simp; done) | omega | (simp; omega)))) (hb1.mono (by have hzz := hb1.size; (try simp at hzz); first | omega | (simp; done) | (simp; omega)))))
  go_ret
  exact ⟨rfl, K1⟩
 ·rw [h1] at V1
  cases h2 : vv K B F R O n2 d2
  ·rw [h2] at V2
   clear h1 h2
   go_enter Tryz.func124, Tryz.ntmps124
   go_wp2_with (first | (go_at_call 48; (with_reducible refine (V1.out _).mono ?_); rintro e w1 ⟨rfl, hb1⟩; have hc1 := (bcell hb1).1; have hf1 := (bcell hb1).2; have z1_0 : w.heap.size < w1.heap.size := (by have hzz := hb1.size; (try simp at hzz); omega); have z1_1 : w.heap.size + 1 < w1.heap.size := (by have hzz := hb1.size; (try simp at hzz); omega); have z1_2 : w.heap.size + 1 + 1 < w1.heap.size := (by have hzz := hb1.size; (try simp at hzz); omega); have K1 : Below w.heap.size w w1 := Below.trans (b := _) (by (repeat' (first | (with_reducible exact Below.refl _ _) | (with_reducible refine Below.alloc ?_ ?_ _) | (with_reducible refine Below.setCell ?_ ?_ _) | (with_reducible refine below_drewN ?_ _) | (simp; done) | omega | (simp; omega)))) (hb1.mono (by have hzz := hb1.size; (try simp at hzz); first | omega | (simp; done) | (simp; omega)))) | (go_at_call 48; (with_reducible refine (V2.out _).mono ?_); rintro e w2 ⟨rfl, hb2⟩; have hc2 := (bcell hb2).1; have hf2 := (bcell hb2).2; have z2_0 : w.heap.size < w2.heap.size := (by have hzz := hb2.size; (try simp at hzz); omega); have z2_1 : w.heap.size + 1 < w2.heap.size := (by have hzz := hb2.size; (try simp at hzz); omega); have z2_2 : w.heap.size + 1 + 1 < w2.heap.size := (by have hzz := hb2.size; (try simp at hzz); omega); have K2 : Below w.heap.size w w2 := Below.trans (b := _) (by (repeat' (first | (with_reducible exact Below.refl _ _) | (with_reducible exact K1) | (with_reducible refine Below.alloc ?_ ?_ _) | (with_reducible refine Below.setCell ?_ ?_ _) | (with_reducible refine below_drewN ?_ _) | (simp; done) | omega | (simp; omega)))) (hb2.mono (by have hzz := hb2.size; (try simp at hzz); first | omega | (simp; done) | (simp; omega)))))
   go_ret
   exact ⟨rfl, K2⟩
  ·rw [h2] at V2
   obtain ⟨x1, x2, x3, x4, x5⟩ := vv_small h1
   obtain ⟨y1, y2, y3, y4, y5⟩ := vv_small h2
   by_cases hk : K = 1
   ·have hk1 : (K == 1) = true := by simpa using hk
    have t1 := vv_ty h1
    have w1 : vld n1 d1 = true := by
     unfold vv at h1
     rw [if_neg (by omega), t1, if_pos hk] at h1
     exact h1
    have w2 : vld n2 d2 = true := by
     unfold vv at h2
     rw [if_neg (by omega), t1, if_pos hk] at h2
     exact h2
    have FC := Lib.hid fun w => fr_cmp w1 w2 w
    clear h1 h2 w1 w2 t1 hk
    go_enter Tryz.func124, Tryz.ntmps124
    go_wp2_with (first | (go_at_call 48; (with_reducible refine (V1.out _).mono ?_); rintro e w1 ⟨rfl, hb1⟩; have hc1 := (bcell hb1).1; have hf1 := (bcell hb1).2; have z1_0 : w.heap.size < w1.heap.size := (by have hzz := hb1.size; (try simp at hzz); omega); have z1_1 : w.heap.size + 1 < w1.heap.size := (by have hzz := hb1.size; (try simp at hzz); omega); have z1_2 : w.heap.size + 1 + 1 < w1.heap.size := (by have hzz := hb1.size; (try simp at hzz); omega); have K1 : Below w.heap.size w w1 := Below.trans (b := _) (by (repeat' (first | (with_reducible exact Below.refl _ _) | (with_reducible refine Below.alloc ?_ ?_ _) | (with_reducible refine Below.setCell ?_ ?_ _) | (with_reducible refine below_drewN ?_ _) | (simp; done) | omega | (simp; omega)))) (hb1.mono (by have hzz := hb1.size; (try simp at hzz); first | omega | (simp; done) | (simp; omega)))) | (go_at_call 48; (with_reducible refine (V2.out _).mono ?_); rintro e w2 ⟨rfl, hb2⟩; have hc2 := (bcell hb2).1; have hf2 := (bcell hb2).2; have z2_0 : w.heap.size < w2.heap.size := (by have hzz := hb2.size; (try simp at hzz); omega); have z2_1 : w.heap.size + 1 < w2.heap.size := (by have hzz := hb2.size; (try simp at hzz); omega); have z2_2 : w.heap.size + 1 + 1 < w2.heap.size := (by have hzz := hb2.size; (try simp at hzz); omega); have K2 : Below w.heap.size w w2 := Below.trans (b := _) (by (repeat' (first | (with_reducible exact Below.refl _ _) | (with_reducible exact K1) | (with_reducible refine Below.alloc ?_ ?_ _) | (with_reducible refine Below.setCell ?_ ?_ _) | (with_reducible refine below_drewN ?_ _) | (simp; done) | omega | (simp; omega)))) (hb2.mono (by have hzz := hb2.size; (try simp at hzz); first | omega | (simp; done) | (simp; omega)))) | (go_at_call 141; (with_reducible refine (FC.out _).mono ?_); rintro e w3 ⟨rfl, hb3⟩; have hc3 := (bcell hb3).1; have hf3 := (bcell hb3).2; have z3_0 : w.heap.size < w3.heap.size := (by have hzz := hb3.size; (try simp at hzz); omega); have z3_1 : w.heap.size + 1 < w3.heap.size := (by have hzz := hb3.size; (try simp at hzz); omega); have z3_2 : w.heap.size + 1 + 1 < w3.heap.size := (by have hzz := hb3.size; (try simp at hzz); omega); have K3 : Below w.heap.size w w3 := Below.trans (b := _) (by (repeat' (first | (with_reducible exact Below.refl _ _) | (with_reducible exact K1) | (with_reducible exact K2) | (with_reducible refine Below.alloc ?_ ?_ _) | (with_reducible refine Below.setCell ?_ ?_ _) | (with_reducible refine below_drewN ?_ _) | (simp; done) | omega | (simp; omega)))) (hb3.mono (by have hzz := hb3.size; (try simp at hzz); first | omega | (simp; done) | (simp; omega)))))
    go_ret
    exact ⟨rfl, K3⟩
   ·have hk1 : (K == 1) = false := by simpa using hk
    obtain rfl := x5 hk
    obtain rfl := y5 hk
    rw [Int.mul_one, Int.mul_one]
    have CI := Lib.hid fun w => cmp_int n1 n2 w
    clear h1 h2 x5 y5 hk
    go_enter Tryz.func124, Tryz.ntmps124
    go_wp2_with (first | (go_at_call 48; (with_reducible refine (V1.out _).mono ?_); rintro e w1 ⟨rfl, hb1⟩; have hc1 := (bcell hb1).1; have hf1 := (bcell hb1).2; have z1_0 : w.heap.size < w1.heap.size := (by have hzz := hb1.size; (try simp at hzz); omega); have z1_1 : w.heap.size + 1 < w1.heap.size := (by have hzz := hb1.size; (try simp at hzz); omega); have z1_2 : w.heap.size + 1 + 1 < w1.heap.size := (by have hzz := hb1.size; (try simp at hzz); omega); have K1 : Below w.heap.size w w1 := Below.trans (b := _) (by (repeat' (first | (with_reducible exact Below.refl _ _) | (with_reducible refine Below.alloc ?_ ?_ _) | (with_reducible refine Below.setCell ?_ ?_ _) | (with_reducible refine below_drewN ?_ _) | (simp; done) | omega | (simp; omega)))) (hb1.mono (by have hzz := hb1.size; (try simp at hzz); first | omega | (simp; done) | (simp; omega)))) | (go_at_call 48; (with_reducible refine (V2.out _).mono ?_); rintro e w2 ⟨rfl, hb2⟩; have hc2 := (bcell hb2).1; have hf2 := (bcell hb2).2; have z2_0 : w.heap.size < w2.heap.size := (by have hzz := hb2.size; (try simp at hzz); omega); have z2_1 : w.heap.size + 1 < w2.heap.size := (by have hzz := hb2.size; (try simp at hzz); omega); have z2_2 : w.heap.size + 1 + 1 < w2.heap.size := (by have hzz := hb2.size; (try simp at hzz); omega); have K2 : Below w.heap.size w w2 := Below.trans (b := _) (by (repeat' (first | (with_reducible exact Below.refl _ _) | (with_reducible exact K1) | (with_reducible refine Below.alloc ?_ ?_ _) | (with_reducible refine Below.setCell ?_ ?_ _) | (with_reducible refine below_drewN ?_ _) | (simp; done) | omega | (simp; omega)))) (hb2.mono (by have hzz := hb2.size; (try simp at hzz); first | omega | (simp; done) | (simp; omega)))) | (go_at_call 142; (with_reducible refine (CI.out _).mono ?_); rintro e w9 ⟨rfl, rfl⟩))
    go_ret
    exact ⟨rfl, K2⟩
end Go.Proofs.YteaaikmejacpaaaGreatDoor.Va
