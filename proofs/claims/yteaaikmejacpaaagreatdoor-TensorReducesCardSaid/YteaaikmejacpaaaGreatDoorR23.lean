/- Identity, Reorderable and Operator of the reference. -/
import Derived.Test.YteaaikmejacpaaaGreatDoorR0
import Derived.Test.YteaaikmejacpaaaGreatDoorR8
import Derived.Test.YteaaikmejacpaaaGreatDoorV15
import Derived.Test.YteaaikmejacpaaaGreatDoorR14

namespace Go.Proofs.YteaaikmejacpaaaGreatDoor.Va
open Go.ChangeShapes Go.WideShapes Go.ChangeAt Go.RowKit
open Fr Fx
set_option maxRecDepth 8000
set_option linter.unusedVariables false
set_option linter.unusedSimpArgs false
set_option maxRecDepth 8000
theorem r_op (fold : Int) (w : World) : Calls Tryz.prog 104 #[.int .i64 fold] w fun e w' => e = .returned (.int .i64 (opv fold)) /\ w = w' := by
 by_cases h2 : fold = 2
 ·subst h2
  go_enter Tryz.func104, Tryz.ntmps104
  go_wp2
  go_ret
  exact ⟨rfl, rfl⟩
 by_cases h3 : fold = 3
 ·subst h3
  go_enter Tryz.func104, Tryz.ntmps104
  go_wp2
  go_ret
  exact ⟨rfl, rfl⟩
 by_cases h4 : fold = 4
 ·subst h4
  go_enter Tryz.func104, Tryz.ntmps104
  go_wp2
  go_ret
  exact ⟨rfl, rfl⟩
 rw [show opv fold = 4 by unfold opv; rw [if_neg h2, if_neg h3, if_neg h4]]
 have g2 : (fold == 2) = false := by simpa using h2
 have g3 : (fold == 3) = false := by simpa using h3
 have g4 : (fold == 4) = false := by simpa using h4
 clear h2 h3 h4
 go_enter Tryz.func104, Tryz.ntmps104
 go_wp2
 go_ret
 exact ⟨rfl, rfl⟩
set_option maxHeartbeats 4000000 in
theorem r_id (fold K B F R O : Int) (w : World) : Calls Tryz.prog 103 #[.int .i64 fold, T5 K B F R O] w (Ret (I3 (idv fold K B F R O)) w) := by
 have VT := Lib.hid fun w => b_ty K B F R O w
 have ON := Lib.hid fun w => r_one K B F R O w
 cases h : ty K B F R O
 ·rw [show idv fold K B F R O = (0, 0, false) by unfold idv; rw [if_pos h]]
  rw [h] at VT
  rw [show onv K B F R O = (0, 0, 10) by unfold onv; rw [if_pos h]] at ON
  by_cases h2 : fold = 2
  ·have g2 : (fold == 2) = true := by simpa using h2
   clear h h2
   go_enter Tryz.func103, Tryz.ntmps103
   go_wp2_with (first | (go_at_call 52; (with_reducible refine (VT.out _).mono ?_); rintro e w1 ⟨rfl, hb1⟩; have hc1 := (bcell hb1).1; have hf1 := (bcell hb1).2; have z1_0 : w.heap.size < w1.heap.size := SqB.z hb1; have z1_1 : w.heap.size + 1 < w1.heap.size := SqB.z hb1; have K1 : Below w.heap.size w w1 := SqB.t hb1) | (go_at_call 131; (with_reducible refine (ON.out _).mono ?_); rintro e w2 ⟨rfl, hb2⟩; have hc2 := (bcell hb2).1; have hf2 := (bcell hb2).2; have z2_0 : w.heap.size < w2.heap.size := SqB.z hb2; have z2_1 : w.heap.size + 1 < w2.heap.size := SqB.z hb2; have K2 : Below w.heap.size w w2 := SqB.t hb2))
   refine bodyPost_ret (v := .tuple #[V2 0 0, .bool false]) (by simp [results, Tryz.results103, go_sem, hc1, hf1, hc2, hf2, SqB.n z1_0, SqB.n z1_1, SqB.n z2_0, SqB.n z2_1]) rfl ⟨rfl, ?_⟩; exact SqB.b
  ·have g2 : (fold == 2) = false := by simpa using h2
   clear h h2
   go_enter Tryz.func103, Tryz.ntmps103
   go_wp2_with (first | (go_at_call 52; (with_reducible refine (VT.out _).mono ?_); rintro e w1 ⟨rfl, hb1⟩; have hc1 := (bcell hb1).1; have hf1 := (bcell hb1).2; have z1_0 : w.heap.size < w1.heap.size := SqB.z hb1; have z1_1 : w.heap.size + 1 < w1.heap.size := SqB.z hb1; have K1 : Below w.heap.size w w1 := SqB.t hb1))
   refine bodyPost_ret (v := .tuple #[V2 0 0, .bool false]) (by simp [results, Tryz.results103, go_sem, hc1, hf1, SqB.n z1_0, SqB.n z1_1]) rfl ⟨rfl, ?_⟩; exact SqB.b
 rw [h] at VT
 have ZE := Lib.hid fun w => r_zero K B F R O w
 rw [h, if_pos rfl] at ZE
 by_cases h1 : fold = 1
 ·rw [show idv fold K B F R O = (0, 1, true) by unfold idv; rw [if_neg (by rw [h]; decide), if_pos (Or.inl h1)]]
  have g1 : (fold == 1) = true := by simpa using h1
  clear h h1 ON
  go_enter Tryz.func103, Tryz.ntmps103
  go_wp2_with (first | (go_at_call 52; (with_reducible refine (VT.out _).mono ?_); rintro e w1 ⟨rfl, hb1⟩; have hc1 := (bcell hb1).1; have hf1 := (bcell hb1).2; have z1_0 : w.heap.size < w1.heap.size := SqB.z hb1; have z1_1 : w.heap.size + 1 < w1.heap.size := SqB.z hb1; have K1 : Below w.heap.size w w1 := SqB.t hb1) | (go_at_call 130; (with_reducible refine (ZE.out _).mono ?_); rintro e w2 ⟨rfl, hb2⟩; have hc2 := (bcell hb2).1; have hf2 := (bcell hb2).2; have z2_0 : w.heap.size < w2.heap.size := SqB.z hb2; have z2_1 : w.heap.size + 1 < w2.heap.size := SqB.z hb2; have K2 : Below w.heap.size w w2 := SqB.t hb2))
  refine bodyPost_ret (v := .tuple #[V2 0 1, .bool true]) (by simp [results, Tryz.results103, go_sem, hc1, hf1, hc2, hf2, SqB.n z1_0, SqB.n z1_1, SqB.n z2_0, SqB.n z2_1]) rfl ⟨rfl, ?_⟩; exact SqB.b
 have g1 : (fold == 1) = false := by simpa using h1
 by_cases h5 : fold = 5
 ·rw [show idv fold K B F R O = (0, 1, true) by unfold idv; rw [if_neg (by rw [h]; decide), if_pos (Or.inr h5)]]
  have g5 : (fold == 5) = true := by simpa using h5
  clear h h1 h5 ON
  go_enter Tryz.func103, Tryz.ntmps103
  go_wp2_with (first | (go_at_call 52; (with_reducible refine (VT.out _).mono ?_); rintro e w1 ⟨rfl, hb1⟩; have hc1 := (bcell hb1).1; have hf1 := (bcell hb1).2; have z1_0 : w.heap.size < w1.heap.size := SqB.z hb1; have z1_1 : w.heap.size + 1 < w1.heap.size := SqB.z hb1; have K1 : Below w.heap.size w w1 := SqB.t hb1) | (go_at_call 130; (with_reducible refine (ZE.out _).mono ?_); rintro e w2 ⟨rfl, hb2⟩; have hc2 := (bcell hb2).1; have hf2 := (bcell hb2).2; have z2_0 : w.heap.size < w2.heap.size := SqB.z hb2; have z2_1 : w.heap.size + 1 < w2.heap.size := SqB.z hb2; have K2 : Below w.heap.size w w2 := SqB.t hb2))
  refine bodyPost_ret (v := .tuple #[V2 0 1, .bool true]) (by simp [results, Tryz.results103, go_sem, hc1, hf1, hc2, hf2, SqB.n z1_0, SqB.n z1_1, SqB.n z2_0, SqB.n z2_1]) rfl ⟨rfl, ?_⟩; exact SqB.b
 have g5 : (fold == 5) = false := by simpa using h5
 by_cases h2 : fold = 2
 ·rw [show idv fold K B F R O = ((onv K B F R O).1, (onv K B F R O).2.1, decide ((onv K B F R O).2.2 = 0)) by unfold idv; rw [if_neg (by rw [h]; decide), if_neg (by omega), if_pos h2]]
  have g2 : (fold == 2) = true := by simpa using h2
  obtain ⟨r, hr⟩ : ∃ r, onv K B F R O = r := ⟨_, rfl⟩
  rw [hr] at ON ⊢
  obtain ⟨x, y, z⟩ := r
  clear h h1 h5 h2 hr
  show Calls _ _ _ _ (Ret (.tuple #[Fx.V2 x y, .bool (decide (z = 0))]) w)
  rw [show decide (z = 0) = (z == 0) from by rw [Bool.eq_iff_iff]; simp]
  go_enter Tryz.func103, Tryz.ntmps103
  go_wp2_with (first | (go_at_call 52; (with_reducible refine (VT.out _).mono ?_); rintro e w1 ⟨rfl, hb1⟩; have hc1 := (bcell hb1).1; have hf1 := (bcell hb1).2; have z1_0 : w.heap.size < w1.heap.size := SqB.z hb1; have z1_1 : w.heap.size + 1 < w1.heap.size := SqB.z hb1; have K1 : Below w.heap.size w w1 := SqB.t hb1) | (go_at_call 131; (with_reducible refine (ON.out _).mono ?_); rintro e w2 ⟨rfl, hb2⟩; have hc2 := (bcell hb2).1; have hf2 := (bcell hb2).2; have z2_0 : w.heap.size < w2.heap.size := SqB.z hb2; have z2_1 : w.heap.size + 1 < w2.heap.size := SqB.z hb2; have K2 : Below w.heap.size w w2 := SqB.t hb2))
  refine bodyPost_ret (v := .tuple #[V2 x y, .bool (z == 0)]) (by simp [results, Tryz.results103, go_sem, hc1, hf1, hc2, hf2, SqB.n z1_0, SqB.n z1_1, SqB.n z2_0, SqB.n z2_1]) rfl ⟨rfl, ?_⟩; exact SqB.b
 ·rw [show idv fold K B F R O = (0, 0, false) by unfold idv; rw [if_neg (by rw [h]; decide), if_neg (by omega), if_neg h2]]
  have g2 : (fold == 2) = false := by simpa using h2
  clear h h1 h5 h2 ON
  go_enter Tryz.func103, Tryz.ntmps103
  go_wp2_with (first | (go_at_call 52; (with_reducible refine (VT.out _).mono ?_); rintro e w1 ⟨rfl, hb1⟩; have hc1 := (bcell hb1).1; have hf1 := (bcell hb1).2; have z1_0 : w.heap.size < w1.heap.size := SqB.z hb1; have z1_1 : w.heap.size + 1 < w1.heap.size := SqB.z hb1; have K1 : Below w.heap.size w w1 := SqB.t hb1))
  refine bodyPost_ret (v := .tuple #[V2 0 0, .bool false]) (by simp [results, Tryz.results103, go_sem, hc1, hf1, SqB.n z1_0, SqB.n z1_1]) rfl ⟨rfl, ?_⟩; exact SqB.b
theorem nw_err {n d : Int} (h : (nw n d).2.2 ≠ 0) : nw n d = (0, 0, (nw n d).2.2) := by
 unfold nw at h ⊢
 dsimp only at h ⊢
 unfold newE newN newD at *
 by_cases hd : d = 0
 ·simp only [if_pos hd]
 ·simp only [if_neg hd] at h ⊢
  unfold lowE lowN lowD at *
  generalize (if n < 0 then -n else n) = a at *
  generalize (if d < 0 then -d else d) = b at *
  by_cases hc : 2147483647 < a / ↑(Int.gcd a b) \/ 2147483647 < b / ↑(Int.gcd a b)
  ·simp only [if_pos hc]
  ·simp only [if_neg hc] at h
   exact absurd rfl h
theorem apv_err {op K B F R O n1 d1 n2 d2 : Int} (h : (apv op K B F R O n1 d1 n2 d2).2.2 ≠ 0) : apv op K B F R O n1 d1 n2 d2 = (0, 0, (apv op K B F R O n1 d1 n2 d2).2.2) := by
 unfold apv at h ⊢
 by_cases c1 : op < 4 \/ 10 < op
 ·simp only [if_pos c1]
 simp only [if_neg c1] at h ⊢
 by_cases c2 : ty K B F R O = false
 ·simp only [if_pos c2]
 simp only [if_neg c2] at h ⊢
 by_cases c3 : vv K B F R O n1 d1 = false \/ (op ≠ 8 /\ vv K B F R O n2 d2 = false)
 ·simp only [if_pos c3]
 simp only [if_neg c3] at h ⊢
 by_cases c4 : op = 9
 ·simp only [if_pos c4] at h
  split at h <;> exact absurd rfl h
 simp only [if_neg c4] at h ⊢
 by_cases c5 : op = 10
 ·simp only [if_pos c5] at h
  split at h <;> exact absurd rfl h
 simp only [if_neg c5] at h ⊢
 by_cases c6 : K = 1
 ·simp only [if_pos c6] at h ⊢
  unfold frv at h ⊢
  by_cases e4 : op = 4
  ·simp only [if_pos e4] at h ⊢; exact nw_err h
  simp only [if_neg e4] at h ⊢
  by_cases e5 : op = 5
  ·simp only [if_pos e5] at h ⊢; exact nw_err h
  simp only [if_neg e5] at h ⊢
  by_cases e6 : op = 6
  ·simp only [if_pos e6] at h ⊢; exact nw_err h
  simp only [if_neg e6] at h ⊢
  by_cases e7 : op = 7
  ·simp only [if_pos e7] at h ⊢; exact nw_err h
  simp only [if_neg e7] at h
  exact absurd rfl h
 simp only [if_neg c6] at h ⊢
 by_cases c7 : K = 2
 ·simp only [if_pos c7] at h ⊢
  unfold fxv at h ⊢
  by_cases e7 : op = 7 /\ n2 = 0
  ·simp only [if_pos e7]
  simp only [if_neg e7] at h
  exact absurd rfl h
 ·simp only [if_neg c7] at h ⊢
  unfold whv at h ⊢
  by_cases e7 : op = 7 /\ n2 = 0
  ·simp only [if_pos e7]
  simp only [if_neg e7] at h ⊢
  by_cases e8 : -2147483647 <= whn op n1 n2 /\ whn op n1 n2 <= 2147483647
  ·simp only [if_pos e8] at h; exact absurd rfl h
  ·simp only [if_neg e8]
end Go.Proofs.YteaaikmejacpaaaGreatDoor.Va


namespace Go.Proofs.YteaaikmejacpaaaGreatDoor.Va
open Go.ChangeShapes Go.WideShapes Go.ChangeAt Go.RowKit
open Fr Fx
set_option maxRecDepth 8000
set_option linter.unusedVariables false
set_option linter.unusedSimpArgs false
set_option maxRecDepth 8000
set_option maxRecDepth 100000 in
set_option maxHeartbeats 16000000 in
theorem r_red (fold K B F R O : Int) (p : Option Addr) (xs : List (Int × Int)) (c : Nat) (w : World) (hn : xs.length <= maxLen) (hc : xs.length <= c) (RA : Hid (SlV w p xs)) :
  Calls Tryz.prog 68 #[.int .i64 fold, T5 K B F R O, .slice p xs.length c] w (Ret (F3 (rdv fold K B F R O xs)) w) := by
 have HN := Lib.hid hn
 have hn2 : xs.length <= 9223372036854775807 := Nat.le_trans hn (by decide)
 clear hn
 cases hk : known fold
 ·rw [show rdv fold K B F R O xs = (0, 0, 1) by unfold rdv; rw [if_pos hk]]
  unfold known at hk
  rw [decide_eq_false_iff_not] at hk
  by_cases h1 : fold < 1
  ·have g1 : decide (fold < 1) = true := by simpa using h1
   clear hk h1 RA
   go_enter Tryz.func68, Tryz.ntmps68
   go_wp2
   refine bodyPost_ret (v := Frac3 0 0 1) (by simp [results, Tryz.results68, go_sem]) rfl ⟨rfl, ?_⟩; exact SqB.b
  ·have g1 : decide (fold < 1) = false := by simpa using h1
   have g2 : decide (5 < fold) = true := by simp; omega
   clear hk h1 RA
   go_enter Tryz.func68, Tryz.ntmps68
   go_wp2
   refine bodyPost_ret (v := Frac3 0 0 1) (by simp [results, Tryz.results68, go_sem]) rfl ⟨rfl, ?_⟩; exact SqB.b
 have hk' := hk
 unfold known at hk'
 rw [decide_eq_true_iff] at hk'
 have g1 : decide (fold < 1) = false := by simp; omega
 have g2 : decide (5 < fold) = false := by simp; omega
 clear hk'
 have VT := Lib.hid fun w => b_ty K B F R O w
 cases ht : ty K B F R O
 ·rw [show rdv fold K B F R O xs = (0, 0, 10) by unfold rdv; rw [if_neg (by rw [hk]; decide), if_pos ht]]
  rw [ht] at VT
  clear hk ht RA
  go_enter Tryz.func68, Tryz.ntmps68
  go_wp2_with (first | (go_at_call 52; (with_reducible refine (VT.out _).mono ?_); rintro e w1 ⟨rfl, hb1⟩; have hc1 := (bcell hb1).1; have hf1 := (bcell hb1).2; have z1_0 : w.heap.size < w1.heap.size := SqB.z hb1; have z1_1 : w.heap.size + 1 < w1.heap.size := SqB.z hb1; have K1 : Below w.heap.size w w1 := SqB.t hb1))
  refine bodyPost_ret (v := Frac3 0 0 10) (by simp [results, Tryz.results68, go_sem, hc1, hf1, SqB.n z1_0, SqB.n z1_1]) rfl ⟨rfl, ?_⟩; exact SqB.b
 rw [ht] at VT
 have CV := Lib.hid fun n d w => b_vv K B F R O n d w ht
 have ID := Lib.hid fun w => r_id fold K B F R O w
 have OP := Lib.hid fun w => r_op fold w
 have AP := Lib.hid fun a e w => r_ap (opv fold) K B F R O (a : Int × Int).1 a.2 (e : Int × Int).1 e.2 w
 have HV : Hid (∀ r : A3, (if (∃ i, i < xs.length /\ vv K B F R O (xs.getD i (0, 0)).1 (xs.getD i (0, 0)).2 = false) then (0, 0, 1)
   else rdt fold K B F R O xs : A3) = r -> rdv fold K B F R O xs = r) := Lib.hid fun r hr => by
  unfold rdv
  rw [if_neg (by rw [hk]; decide), if_neg (by rw [ht]; decide)]
  exact hr
 clear hk ht
 obtain ⟨A, hA⟩ : ∃ A, rdv fold K B F R O xs = A := ⟨_, rfl⟩
 rw [hA] at HV ⊢
 clear hA
 obtain ⟨oq, hoq⟩ : ∃ q, opv fold = q := ⟨_, rfl⟩
 have HOQ := Lib.hid hoq
 rw [hoq] at OP AP
 clear hoq
 go_enter Tryz.func68, Tryz.ntmps68
 go_wp2_with (first | (go_at_call 52; (with_reducible refine (VT.out _).mono ?_); rintro e w1 ⟨rfl, hb1⟩; have hc1 := (bcell hb1).1; have hf1 := (bcell hb1).2; have z1_0 : w.heap.size < w1.heap.size := SqB.z hb1; have z1_1 : w.heap.size + 1 < w1.heap.size := SqB.z hb1; have K1 : Below w.heap.size w w1 := SqB.t hb1))
 have hS : Hid (w1.cell? ⟨w.heap.size, 0, none⟩ = some (.int .i64 K) /\ w1.cell? ⟨w.heap.size, 1, none⟩ = some (.int .i64 B) /\ w1.cell? ⟨w.heap.size, 2, none⟩ = some (.int .i64 F) /\ w1.cell? ⟨w.heap.size, 3, none⟩ = some (.int .i64 R) /\ w1.cell? ⟨w.heap.size, 4, none⟩ = some (.int .i64 O) /\ w1.cell? ⟨w.heap.size + 1, 0, none⟩ = some (.int .i64 0) /\ w1.cell? ⟨w.heap.size + 1, 1, none⟩ = some (.int .i64 0) /\ w1.frozen? ⟨w.heap.size + 1, 0, none⟩ = false /\ w1.frozen? ⟨w.heap.size + 1, 1, none⟩ = false /\ Below w.heap.size w w1) := Lib.hid ⟨Rg.keep hb1 (by simp <;> omega) (by go_cell), Rg.keep hb1 (by simp <;> omega) (by go_cell), Rg.keep hb1 (by simp <;> omega) (by go_cell), Rg.keep hb1 (by simp <;> omega) (by go_cell), Rg.keep hb1 (by simp <;> omega) (by go_cell), Rg.keep hb1 (by simp <;> omega) (by go_cell), Rg.keep hb1 (by simp <;> omega) (by go_cell), Rg.keepF hb1 (by simp <;> omega) (by simp only [frozen?_alloc_cells]; exact Rg.notFrozen (by omega)), Rg.keepF hb1 (by simp <;> omega) (by simp only [frozen?_alloc_cells]; exact Rg.notFrozen (by omega)), K1⟩
 have HS : Hid (∀ u u' : World, (u.cell? ⟨w.heap.size, 0, none⟩ = some (.int .i64 K) /\ u.cell? ⟨w.heap.size, 1, none⟩ = some (.int .i64 B) /\ u.cell? ⟨w.heap.size, 2, none⟩ = some (.int .i64 F) /\ u.cell? ⟨w.heap.size, 3, none⟩ = some (.int .i64 R) /\ u.cell? ⟨w.heap.size, 4, none⟩ = some (.int .i64 O) /\ u.cell? ⟨w.heap.size + 1, 0, none⟩ = some (.int .i64 0) /\ u.cell? ⟨w.heap.size + 1, 1, none⟩ = some (.int .i64 0) /\ u.frozen? ⟨w.heap.size + 1, 0, none⟩ = false /\ u.frozen? ⟨w.heap.size + 1, 1, none⟩ = false /\ Below w.heap.size w u) -> Below u.heap.size u u' -> (u'.cell? ⟨w.heap.size, 0, none⟩ = some (.int .i64 K) /\ u'.cell? ⟨w.heap.size, 1, none⟩ = some (.int .i64 B) /\ u'.cell? ⟨w.heap.size, 2, none⟩ = some (.int .i64 F) /\ u'.cell? ⟨w.heap.size, 3, none⟩ = some (.int .i64 R) /\ u'.cell? ⟨w.heap.size, 4, none⟩ = some (.int .i64 O) /\ u'.cell? ⟨w.heap.size + 1, 0, none⟩ = some (.int .i64 0) /\ u'.cell? ⟨w.heap.size + 1, 1, none⟩ = some (.int .i64 0) /\ u'.frozen? ⟨w.heap.size + 1, 0, none⟩ = false /\ u'.frozen? ⟨w.heap.size + 1, 1, none⟩ = false /\ Below w.heap.size w u')) := Lib.hid (fun u u' h hb => ⟨Rg.keep hb (World.block_lt_of_cell? _ _ h.1) h.1, Rg.keep hb (World.block_lt_of_cell? _ _ h.2.1) h.2.1, Rg.keep hb (World.block_lt_of_cell? _ _ h.2.2.1) h.2.2.1, Rg.keep hb (World.block_lt_of_cell? _ _ h.2.2.2.1) h.2.2.2.1, Rg.keep hb (World.block_lt_of_cell? _ _ h.2.2.2.2.1) h.2.2.2.2.1, Rg.keep hb (World.block_lt_of_cell? _ _ h.2.2.2.2.2.1) h.2.2.2.2.2.1, Rg.keep hb (World.block_lt_of_cell? _ _ h.2.2.2.2.2.2.1) h.2.2.2.2.2.2.1, Rg.keepF hb (World.block_lt_of_cell? _ _ h.2.2.2.2.2.1) h.2.2.2.2.2.2.2.1, Rg.keepF hb (World.block_lt_of_cell? _ _ h.2.2.2.2.2.1) h.2.2.2.2.2.2.2.2.1, h.2.2.2.2.2.2.2.2.2.trans (hb.mono h.2.2.2.2.2.2.2.2.2.size)⟩)
 clear VT hb1 hc1 hf1 z1_0 z1_1 K1 g1 g2
 go_loopw [8] (fun i wr => ∃ (j : Nat), i = .int .i64 j /\ j <= xs.length /\ Hid (wr.cell? ⟨w.heap.size, 0, none⟩ = some (.int .i64 K) /\ wr.cell? ⟨w.heap.size, 1, none⟩ = some (.int .i64 B) /\ wr.cell? ⟨w.heap.size, 2, none⟩ = some (.int .i64 F) /\ wr.cell? ⟨w.heap.size, 3, none⟩ = some (.int .i64 R) /\ wr.cell? ⟨w.heap.size, 4, none⟩ = some (.int .i64 O) /\ wr.cell? ⟨w.heap.size + 1, 0, none⟩ = some (.int .i64 0) /\ wr.cell? ⟨w.heap.size + 1, 1, none⟩ = some (.int .i64 0) /\ wr.frozen? ⟨w.heap.size + 1, 0, none⟩ = false /\ wr.frozen? ⟨w.heap.size + 1, 1, none⟩ = false /\ Below w.heap.size w wr) /\ Hid (∀ k, k < j -> vv K B F R O (xs.getD k (0, 0)).1 (xs.getD k (0, 0)).2 = true)) (fun i _ => xs.length - (intOf i).toNat)
 case atStart => exact ⟨0, rfl, Nat.zero_le _, hS, Lib.hid fun k h => absurd h (Nat.not_lt_zero _)⟩
 case round =>
  obtain ⟨j, rfl, hj, hT, hL⟩ := hrel
  clear hS
  obtain ⟨t0, t1, t2, t3, t4, r0, r1, fr0, fr1, K0⟩ := hT.out
  have lt : w.heap.size < wr.heap.size := World.block_lt_of_cell? _ _ t0
  have lr : w.heap.size + 1 < wr.heap.size := World.block_lt_of_cell? _ _ r0
  have jj : (0 : Int) <= j := by omega
  by_cases hlt : j < xs.length
  ·obtain ⟨b, o, rfl, c0, c1⟩ := RA.out j hlt
   have j2 : (j : Int) < xs.length := by omega
   have hbw : b < w.heap.size := World.block_lt_of_cell? _ _ c0
   replace c0 := Rg.keep K0 hbw c0
   replace c1 := Rg.keep K0 hbw c1
   obtain ⟨e, he⟩ : ∃ e, xs.getD j (0, 0) = e := ⟨_, rfl⟩
   rw [he] at c0 c1
   have V := Lib.hid fun w => CV.out e.1 e.2 w
   have HE := Lib.hid he
   have hz8 : wr.cell? ⟨w.heap.size, 0, none⟩ = some (.int .i64 K) /\ wr.cell? ⟨w.heap.size, 1, none⟩ = some (.int .i64 B) /\ wr.cell? ⟨w.heap.size, 2, none⟩ = some (.int .i64 F) /\ wr.cell? ⟨w.heap.size, 3, none⟩ = some (.int .i64 R) /\ wr.cell? ⟨w.heap.size, 4, none⟩ = some (.int .i64 O) /\ wr.cell? ⟨w.heap.size + 1, 0, none⟩ = some (.int .i64 0) /\ wr.cell? ⟨w.heap.size + 1, 1, none⟩ = some (.int .i64 0) /\ wr.cell? ⟨b, o + j * 2, none⟩ = some (.int .i64 e.1) /\ wr.cell? ⟨b, o + j * 2 + 1, none⟩ = some (.int .i64 e.2) /\ wr.frozen? ⟨w.heap.size + 1, 0, none⟩ = false /\ wr.frozen? ⟨w.heap.size + 1, 1, none⟩ = false /\ Below w.heap.size w wr := ⟨t0, t1, t2, t3, t4, r0, r1, c0, c1, fr0, fr1, K0⟩
   have HS8 : Hid (∀ u u' : World, (u.cell? ⟨w.heap.size, 0, none⟩ = some (.int .i64 K) /\ u.cell? ⟨w.heap.size, 1, none⟩ = some (.int .i64 B) /\ u.cell? ⟨w.heap.size, 2, none⟩ = some (.int .i64 F) /\ u.cell? ⟨w.heap.size, 3, none⟩ = some (.int .i64 R) /\ u.cell? ⟨w.heap.size, 4, none⟩ = some (.int .i64 O) /\ u.cell? ⟨w.heap.size + 1, 0, none⟩ = some (.int .i64 0) /\ u.cell? ⟨w.heap.size + 1, 1, none⟩ = some (.int .i64 0) /\ u.cell? ⟨b, o + j * 2, none⟩ = some (.int .i64 e.1) /\ u.cell? ⟨b, o + j * 2 + 1, none⟩ = some (.int .i64 e.2) /\ u.frozen? ⟨w.heap.size + 1, 0, none⟩ = false /\ u.frozen? ⟨w.heap.size + 1, 1, none⟩ = false /\ Below w.heap.size w u) -> Below u.heap.size u u' -> (u'.cell? ⟨w.heap.size, 0, none⟩ = some (.int .i64 K) /\ u'.cell? ⟨w.heap.size, 1, none⟩ = some (.int .i64 B) /\ u'.cell? ⟨w.heap.size, 2, none⟩ = some (.int .i64 F) /\ u'.cell? ⟨w.heap.size, 3, none⟩ = some (.int .i64 R) /\ u'.cell? ⟨w.heap.size, 4, none⟩ = some (.int .i64 O) /\ u'.cell? ⟨w.heap.size + 1, 0, none⟩ = some (.int .i64 0) /\ u'.cell? ⟨w.heap.size + 1, 1, none⟩ = some (.int .i64 0) /\ u'.cell? ⟨b, o + j * 2, none⟩ = some (.int .i64 e.1) /\ u'.cell? ⟨b, o + j * 2 + 1, none⟩ = some (.int .i64 e.2) /\ u'.frozen? ⟨w.heap.size + 1, 0, none⟩ = false /\ u'.frozen? ⟨w.heap.size + 1, 1, none⟩ = false /\ Below w.heap.size w u')) := Lib.hid (fun u u' h hb => ⟨Rg.keep hb (World.block_lt_of_cell? _ _ h.1) h.1, Rg.keep hb (World.block_lt_of_cell? _ _ h.2.1) h.2.1, Rg.keep hb (World.block_lt_of_cell? _ _ h.2.2.1) h.2.2.1, Rg.keep hb (World.block_lt_of_cell? _ _ h.2.2.2.1) h.2.2.2.1, Rg.keep hb (World.block_lt_of_cell? _ _ h.2.2.2.2.1) h.2.2.2.2.1, Rg.keep hb (World.block_lt_of_cell? _ _ h.2.2.2.2.2.1) h.2.2.2.2.2.1, Rg.keep hb (World.block_lt_of_cell? _ _ h.2.2.2.2.2.2.1) h.2.2.2.2.2.2.1, Rg.keep hb (World.block_lt_of_cell? _ _ h.2.2.2.2.2.2.2.1) h.2.2.2.2.2.2.2.1, Rg.keep hb (World.block_lt_of_cell? _ _ h.2.2.2.2.2.2.2.2.1) h.2.2.2.2.2.2.2.2.1, Rg.keepF hb (World.block_lt_of_cell? _ _ h.2.2.2.2.2.1) h.2.2.2.2.2.2.2.2.2.1, Rg.keepF hb (World.block_lt_of_cell? _ _ h.2.2.2.2.2.1) h.2.2.2.2.2.2.2.2.2.2.1, h.2.2.2.2.2.2.2.2.2.2.2.trans (hb.mono h.2.2.2.2.2.2.2.2.2.2.2.size)⟩)
   clear t0 t1 t2 t3 t4 r0 r1 c0 c1 fr0 fr1 K0
   cases hv : vv K B F R O e.1 e.2
   ·rw [hv] at V
    have hA := HV.out (0, 0, 1) (by rw [if_pos ⟨j, hlt, by rw [he]; exact hv⟩])
    subst hA
    clear he hv HV AP ID CV hT hL
    go_wp2_with fail
    refine Rk.begin (S := fun wS => wS.cell? ⟨w.heap.size, 0, none⟩ = some (.int .i64 K) /\ wS.cell? ⟨w.heap.size, 1, none⟩ = some (.int .i64 B) /\ wS.cell? ⟨w.heap.size, 2, none⟩ = some (.int .i64 F) /\ wS.cell? ⟨w.heap.size, 3, none⟩ = some (.int .i64 R) /\ wS.cell? ⟨w.heap.size, 4, none⟩ = some (.int .i64 O) /\ wS.cell? ⟨w.heap.size + 1, 0, none⟩ = some (.int .i64 0) /\ wS.cell? ⟨w.heap.size + 1, 1, none⟩ = some (.int .i64 0) /\ wS.cell? ⟨b, o + j * 2, none⟩ = some (.int .i64 e.1) /\ wS.cell? ⟨b, o + j * 2 + 1, none⟩ = some (.int .i64 e.2) /\ wS.frozen? ⟨w.heap.size + 1, 0, none⟩ = false /\ wS.frozen? ⟨w.heap.size + 1, 1, none⟩ = false /\ Below w.heap.size w wS) 6 (by kernel_rfl) (HS8.out _ _ hz8 (Below.drew (Below.refl _ _))) (fun hHeld => ?_)
    refine SqR.l [5, 6] 0 ?_
    refine SqR.p 1 ?_
    refine SqR.p 2 ?_
    refine SqR.p 3 ?_
    refine SqR.l [5, 6] 4 ?_
    refine Rk.one (i := 5) (by kernel_rfl) rfl (fun KK hK => ?_)
    rw [if_pos (by kernel_rfl)]
    go_simp
    ((with_reducible refine (V.out _).mono ?_); rintro e u ⟨rfl, hb⟩)
    first | (refine hK.out _ _ (fun _ => HS8.out _ _ hHeld hb) (fun hHeld => ?_)) | (refine hK.out _ _ (HS8.out _ _ hHeld hb) (fun hHeld => ?_)) | (go_wp2_with fail; refine hK.out _ _ (HS8.out _ _ hHeld hb) (fun hHeld => ?_))
    clear hK KK
    refine Rk.tail [6] [_] (by kernel_rfl) (by kernel_rfl) rfl (by decide) ?_
    obtain ⟨t0, t1, t2, t3, t4, r0, r1, c0, c1, fr0, fr1, K9⟩ := hHeld
    clear hz8 HS8
    have lr : w.heap.size + 1 < u.heap.size := World.block_lt_of_cell? _ _ r0
    go_wp2
    refine bodyPost_ret (v := Frac3 0 0 1) (by simp [results, Tryz.results68, go_sem, r0, r1, fr0, fr1, lr]) rfl ⟨rfl, ?_⟩; exact SqB.b
   ·rw [hv] at V
    have hv2 := Lib.hid hv
    clear he hv
    go_wp2_with fail
    refine Rk.begin (S := fun wS => wS.cell? ⟨w.heap.size, 0, none⟩ = some (.int .i64 K) /\ wS.cell? ⟨w.heap.size, 1, none⟩ = some (.int .i64 B) /\ wS.cell? ⟨w.heap.size, 2, none⟩ = some (.int .i64 F) /\ wS.cell? ⟨w.heap.size, 3, none⟩ = some (.int .i64 R) /\ wS.cell? ⟨w.heap.size, 4, none⟩ = some (.int .i64 O) /\ wS.cell? ⟨w.heap.size + 1, 0, none⟩ = some (.int .i64 0) /\ wS.cell? ⟨w.heap.size + 1, 1, none⟩ = some (.int .i64 0) /\ wS.cell? ⟨b, o + j * 2, none⟩ = some (.int .i64 e.1) /\ wS.cell? ⟨b, o + j * 2 + 1, none⟩ = some (.int .i64 e.2) /\ wS.frozen? ⟨w.heap.size + 1, 0, none⟩ = false /\ wS.frozen? ⟨w.heap.size + 1, 1, none⟩ = false /\ Below w.heap.size w wS) 6 (by kernel_rfl) (HS8.out _ _ hz8 (Below.drew (Below.refl _ _))) (fun hHeld => ?_)
    refine SqR.l [5, 6] 0 ?_
    refine SqR.p 1 ?_
    refine SqR.p 2 ?_
    refine SqR.p 3 ?_
    refine SqR.l [5, 6] 4 ?_
    refine Rk.one (i := 5) (by kernel_rfl) rfl (fun KK hK => ?_)
    rw [if_pos (by kernel_rfl)]
    go_simp
    ((with_reducible refine (V.out _).mono ?_); rintro e u ⟨rfl, hb⟩)
    first | (refine hK.out _ _ (fun _ => HS8.out _ _ hHeld hb) (fun hHeld => ?_)) | (refine hK.out _ _ (HS8.out _ _ hHeld hb) (fun hHeld => ?_)) | (go_wp2_with fail; refine hK.out _ _ (HS8.out _ _ hHeld hb) (fun hHeld => ?_))
    clear hK KK
    refine Rk.tail [6] [_] (by kernel_rfl) (by kernel_rfl) rfl (by decide) ?_
    obtain ⟨t0, t1, t2, t3, t4, r0, r1, c0, c1, fr0, fr1, K9⟩ := hHeld
    clear hz8 HS8
    have hN : Hid (u.cell? ⟨w.heap.size, 0, none⟩ = some (.int .i64 K) /\ u.cell? ⟨w.heap.size, 1, none⟩ = some (.int .i64 B) /\ u.cell? ⟨w.heap.size, 2, none⟩ = some (.int .i64 F) /\ u.cell? ⟨w.heap.size, 3, none⟩ = some (.int .i64 R) /\ u.cell? ⟨w.heap.size, 4, none⟩ = some (.int .i64 O) /\ u.cell? ⟨w.heap.size + 1, 0, none⟩ = some (.int .i64 0) /\ u.cell? ⟨w.heap.size + 1, 1, none⟩ = some (.int .i64 0) /\ u.frozen? ⟨w.heap.size + 1, 0, none⟩ = false /\ u.frozen? ⟨w.heap.size + 1, 1, none⟩ = false /\ Below w.heap.size w u) := Lib.hid ⟨t0, t1, t2, t3, t4, r0, r1, fr0, fr1, K9⟩
    clear t0 t1 t2 t3 t4 r0 r1 c0 c1 fr0 fr1 K9
    go_wp2_with fail
    case roundEnd =>
     refine ⟨⟨j + 1, by simp, by omega, hN, Lib.hid fun k h => ?_⟩, by simp [intOf]; omega⟩
     rcases (by omega : k < j \/ k = j) with h | rfl
     ·exact hL.out k h
     ·rw [HE.out]; exact hv2.out
  ·have ej : j = xs.length := by omega
   subst ej
   have hne : ¬ ∃ i, i < xs.length /\ vv K B F R O (xs.getD i (0, 0)).1 (xs.getD i (0, 0)).2 = false := by
    rintro ⟨i, h1, h2⟩
    rw [hL.out i h1] at h2
    cases h2
   have HW := Lib.hid fun r h => HV.out r (by rw [if_neg hne]; exact h)
   clear HV hL hne
   cases xs with
   | nil =>
    obtain ⟨q, hq⟩ : ∃ q, idv fold K B F R O = q := ⟨_, rfl⟩
    rw [hq] at ID
    obtain ⟨x, y, f⟩ := q
    cases f
    ·have hA := HW.out (0, 0, 1) (by unfold rdt; rw [hq]; rfl)
     subst hA
     clear HW hq AP CV RA hT
     go_wp2_with (first | (go_at_call 103; (with_reducible refine (ID.out _).mono ?_); rintro e w5 ⟨rfl, hb5⟩; have hc5 := (bcell hb5).1; have hf5 := (bcell hb5).2; have z5_0 : w.heap.size < w5.heap.size := SqB.z hb5; have z5_1 : w.heap.size + 1 < w5.heap.size := SqB.z hb5; have K5 : Below w.heap.size w w5 := SqB.t hb5))
     refine bodyPost_ret (v := Frac3 0 0 1) (by simp [results, Tryz.results68, go_sem, hc5, hf5, SqB.n z5_0, SqB.n z5_1, r0, r1, fr0, fr1, lr, Nat.lt_succ_of_lt lr]) rfl ⟨rfl, ?_⟩; exact SqB.b
    ·have hA := HW.out (x, y, 0) (by unfold rdt; rw [hq]; rfl)
     subst hA
     clear HW hq AP CV RA hT
     go_wp2_with (first | (go_at_call 103; (with_reducible refine (ID.out _).mono ?_); rintro e w5 ⟨rfl, hb5⟩; have hc5 := (bcell hb5).1; have hf5 := (bcell hb5).2; have z5_0 : w.heap.size < w5.heap.size := SqB.z hb5; have z5_1 : w.heap.size + 1 < w5.heap.size := SqB.z hb5; have K5 : Below w.heap.size w w5 := SqB.t hb5))
     refine bodyPost_ret (v := Frac3 x y 0) (by simp [results, Tryz.results68, go_sem, hc5, hf5, SqB.n z5_0, SqB.n z5_1, r0, r1, fr0, fr1, lr, Nat.lt_succ_of_lt lr]) rfl ⟨rfl, ?_⟩; exact SqB.b
   | cons v r =>
    have HW2 : Hid (rdf oq K B F R O r v = A) := Lib.hid (HW.out _ (by unfold rdt; rw [HOQ.out])).symm
    obtain ⟨b, o, hp, c0, c1⟩ := RA.out 0 (by simp)
    subst hp
    simp only [List.getD_cons_zero, Nat.zero_mul, Nat.add_zero] at c0 c1
    have hbw : b < w.heap.size := World.block_lt_of_cell? _ _ c0
    replace c0 := Rg.keep K0 hbw c0
    replace c1 := Rg.keep K0 hbw c1
    have hbr : b < wr.heap.size := World.block_lt_of_cell? _ _ c0
    obtain ⟨xs, hxs⟩ : ∃ xs, v :: r = xs := ⟨_, rfl⟩
    have hx1 : 1 <= xs.length := by rw [<- hxs]; simp
    have HD : Hid (xs.drop 1 = r) := Lib.hid (by rw [<- hxs]; rfl)
    rw [hxs] at RA hc hn2 hj HN ⊢
    clear hxs
    obtain ⟨n, hnn⟩ : ∃ n, xs.length = n := ⟨_, rfl⟩
    have HR := Lib.hid hnn
    rw [hnn] at hc hn2 hx1 ⊢
    clear hnn HW ID CV hlt hj
    have gn : ((n : Int) == 0) = false := by simp; omega
    have gn2 : (0 : Int) < n := by omega
    obtain ⟨wt, hwt⟩ : ∃ wt : World, wt = wr := ⟨wr, rfl⟩
    subst hwt
    have lr0 := lr
    have HS2 : Hid (∀ (a : Int × Int) (u u' : World), (u.cell? ⟨w.heap.size, 0, none⟩ = some (.int .i64 K) /\ u.cell? ⟨w.heap.size, 1, none⟩ = some (.int .i64 B) /\ u.cell? ⟨w.heap.size, 2, none⟩ = some (.int .i64 F) /\ u.cell? ⟨w.heap.size, 3, none⟩ = some (.int .i64 R) /\ u.cell? ⟨w.heap.size, 4, none⟩ = some (.int .i64 O) /\ u.cell? ⟨w.heap.size + 1, 0, none⟩ = some (.int .i64 0) /\ u.cell? ⟨w.heap.size + 1, 1, none⟩ = some (.int .i64 0) /\ u.cell? ⟨wt.heap.size, 0, none⟩ = some (.int .i64 a.1) /\ u.cell? ⟨wt.heap.size, 1, none⟩ = some (.int .i64 a.2) /\ u.frozen? ⟨w.heap.size + 1, 0, none⟩ = false /\ u.frozen? ⟨w.heap.size + 1, 1, none⟩ = false /\ u.frozen? ⟨wt.heap.size, 0, none⟩ = false /\ u.frozen? ⟨wt.heap.size, 1, none⟩ = false /\ Below w.heap.size w u) -> Below u.heap.size u u' -> (u'.cell? ⟨w.heap.size, 0, none⟩ = some (.int .i64 K) /\ u'.cell? ⟨w.heap.size, 1, none⟩ = some (.int .i64 B) /\ u'.cell? ⟨w.heap.size, 2, none⟩ = some (.int .i64 F) /\ u'.cell? ⟨w.heap.size, 3, none⟩ = some (.int .i64 R) /\ u'.cell? ⟨w.heap.size, 4, none⟩ = some (.int .i64 O) /\ u'.cell? ⟨w.heap.size + 1, 0, none⟩ = some (.int .i64 0) /\ u'.cell? ⟨w.heap.size + 1, 1, none⟩ = some (.int .i64 0) /\ u'.cell? ⟨wt.heap.size, 0, none⟩ = some (.int .i64 a.1) /\ u'.cell? ⟨wt.heap.size, 1, none⟩ = some (.int .i64 a.2) /\ u'.frozen? ⟨w.heap.size + 1, 0, none⟩ = false /\ u'.frozen? ⟨w.heap.size + 1, 1, none⟩ = false /\ u'.frozen? ⟨wt.heap.size, 0, none⟩ = false /\ u'.frozen? ⟨wt.heap.size, 1, none⟩ = false /\ Below w.heap.size w u')) := Lib.hid (fun a u u' h hb => ⟨Rg.keep hb (World.block_lt_of_cell? _ _ h.1) h.1, Rg.keep hb (World.block_lt_of_cell? _ _ h.2.1) h.2.1, Rg.keep hb (World.block_lt_of_cell? _ _ h.2.2.1) h.2.2.1, Rg.keep hb (World.block_lt_of_cell? _ _ h.2.2.2.1) h.2.2.2.1, Rg.keep hb (World.block_lt_of_cell? _ _ h.2.2.2.2.1) h.2.2.2.2.1, Rg.keep hb (World.block_lt_of_cell? _ _ h.2.2.2.2.2.1) h.2.2.2.2.2.1, Rg.keep hb (World.block_lt_of_cell? _ _ h.2.2.2.2.2.2.1) h.2.2.2.2.2.2.1, Rg.keep hb (World.block_lt_of_cell? _ _ h.2.2.2.2.2.2.2.1) h.2.2.2.2.2.2.2.1, Rg.keep hb (World.block_lt_of_cell? _ _ h.2.2.2.2.2.2.2.2.1) h.2.2.2.2.2.2.2.2.1, Rg.keepF hb (World.block_lt_of_cell? _ _ h.2.2.2.2.2.1) h.2.2.2.2.2.2.2.2.2.1, Rg.keepF hb (World.block_lt_of_cell? _ _ h.2.2.2.2.2.1) h.2.2.2.2.2.2.2.2.2.2.1, Rg.keepF hb (World.block_lt_of_cell? _ _ h.2.2.2.2.2.2.2.1) h.2.2.2.2.2.2.2.2.2.2.2.1, Rg.keepF hb (World.block_lt_of_cell? _ _ h.2.2.2.2.2.2.2.1) h.2.2.2.2.2.2.2.2.2.2.2.2.1, h.2.2.2.2.2.2.2.2.2.2.2.2.2.trans (hb.mono h.2.2.2.2.2.2.2.2.2.2.2.2.2.size)⟩)
    go_wp2_with fail
    have hS2 : Hid ((wt.alloc (Obj.cells #[Value.int .i64 v.1, Value.int .i64 v.2] 29)).cell? ⟨w.heap.size, 0, none⟩ = some (.int .i64 K) /\ (wt.alloc (Obj.cells #[Value.int .i64 v.1, Value.int .i64 v.2] 29)).cell? ⟨w.heap.size, 1, none⟩ = some (.int .i64 B) /\ (wt.alloc (Obj.cells #[Value.int .i64 v.1, Value.int .i64 v.2] 29)).cell? ⟨w.heap.size, 2, none⟩ = some (.int .i64 F) /\ (wt.alloc (Obj.cells #[Value.int .i64 v.1, Value.int .i64 v.2] 29)).cell? ⟨w.heap.size, 3, none⟩ = some (.int .i64 R) /\ (wt.alloc (Obj.cells #[Value.int .i64 v.1, Value.int .i64 v.2] 29)).cell? ⟨w.heap.size, 4, none⟩ = some (.int .i64 O) /\ (wt.alloc (Obj.cells #[Value.int .i64 v.1, Value.int .i64 v.2] 29)).cell? ⟨w.heap.size + 1, 0, none⟩ = some (.int .i64 0) /\ (wt.alloc (Obj.cells #[Value.int .i64 v.1, Value.int .i64 v.2] 29)).cell? ⟨w.heap.size + 1, 1, none⟩ = some (.int .i64 0) /\ (wt.alloc (Obj.cells #[Value.int .i64 v.1, Value.int .i64 v.2] 29)).cell? ⟨wt.heap.size, 0, none⟩ = some (.int .i64 v.1) /\ (wt.alloc (Obj.cells #[Value.int .i64 v.1, Value.int .i64 v.2] 29)).cell? ⟨wt.heap.size, 1, none⟩ = some (.int .i64 v.2) /\ (wt.alloc (Obj.cells #[Value.int .i64 v.1, Value.int .i64 v.2] 29)).frozen? ⟨w.heap.size + 1, 0, none⟩ = false /\ (wt.alloc (Obj.cells #[Value.int .i64 v.1, Value.int .i64 v.2] 29)).frozen? ⟨w.heap.size + 1, 1, none⟩ = false /\ (wt.alloc (Obj.cells #[Value.int .i64 v.1, Value.int .i64 v.2] 29)).frozen? ⟨wt.heap.size, 0, none⟩ = false /\ (wt.alloc (Obj.cells #[Value.int .i64 v.1, Value.int .i64 v.2] 29)).frozen? ⟨wt.heap.size, 1, none⟩ = false /\ Below w.heap.size w (wt.alloc (Obj.cells #[Value.int .i64 v.1, Value.int .i64 v.2] 29))) := Lib.hid ⟨Rg.keep ((Below.refl wt.heap.size wt).alloc (Nat.le_refl _) (Obj.cells #[Value.int .i64 v.1, Value.int .i64 v.2] 29)) lt t0, Rg.keep ((Below.refl wt.heap.size wt).alloc (Nat.le_refl _) (Obj.cells #[Value.int .i64 v.1, Value.int .i64 v.2] 29)) lt t1, Rg.keep ((Below.refl wt.heap.size wt).alloc (Nat.le_refl _) (Obj.cells #[Value.int .i64 v.1, Value.int .i64 v.2] 29)) lt t2, Rg.keep ((Below.refl wt.heap.size wt).alloc (Nat.le_refl _) (Obj.cells #[Value.int .i64 v.1, Value.int .i64 v.2] 29)) lt t3, Rg.keep ((Below.refl wt.heap.size wt).alloc (Nat.le_refl _) (Obj.cells #[Value.int .i64 v.1, Value.int .i64 v.2] 29)) lt t4, Rg.keep ((Below.refl wt.heap.size wt).alloc (Nat.le_refl _) (Obj.cells #[Value.int .i64 v.1, Value.int .i64 v.2] 29)) lr r0, Rg.keep ((Below.refl wt.heap.size wt).alloc (Nat.le_refl _) (Obj.cells #[Value.int .i64 v.1, Value.int .i64 v.2] 29)) lr r1, by go_cell, by go_cell, Rg.keepF ((Below.refl wt.heap.size wt).alloc (Nat.le_refl _) (Obj.cells #[Value.int .i64 v.1, Value.int .i64 v.2] 29)) lr fr0, Rg.keepF ((Below.refl wt.heap.size wt).alloc (Nat.le_refl _) (Obj.cells #[Value.int .i64 v.1, Value.int .i64 v.2] 29)) lr fr1, by simp only [frozen?_alloc_cells]; exact Rg.notFrozen (Nat.le_refl _), by simp only [frozen?_alloc_cells]; exact Rg.notFrozen (Nat.le_refl _), K0.alloc K0.size _⟩
    clear hT
    go_loopw [12, 13] (fun ev i wr => ∃ (j : Nat) (a : Int × Int) (z : Int), ev = .int .i64 z /\ i = .int .i64 j /\ 1 <= j /\ j <= n /\ Hid (wr.cell? ⟨w.heap.size, 0, none⟩ = some (.int .i64 K) /\ wr.cell? ⟨w.heap.size, 1, none⟩ = some (.int .i64 B) /\ wr.cell? ⟨w.heap.size, 2, none⟩ = some (.int .i64 F) /\ wr.cell? ⟨w.heap.size, 3, none⟩ = some (.int .i64 R) /\ wr.cell? ⟨w.heap.size, 4, none⟩ = some (.int .i64 O) /\ wr.cell? ⟨w.heap.size + 1, 0, none⟩ = some (.int .i64 0) /\ wr.cell? ⟨w.heap.size + 1, 1, none⟩ = some (.int .i64 0) /\ wr.cell? ⟨wt.heap.size, 0, none⟩ = some (.int .i64 a.1) /\ wr.cell? ⟨wt.heap.size, 1, none⟩ = some (.int .i64 a.2) /\ wr.frozen? ⟨w.heap.size + 1, 0, none⟩ = false /\ wr.frozen? ⟨w.heap.size + 1, 1, none⟩ = false /\ wr.frozen? ⟨wt.heap.size, 0, none⟩ = false /\ wr.frozen? ⟨wt.heap.size, 1, none⟩ = false /\ Below w.heap.size w wr) /\ Hid ((z = 0 /\ rdf oq K B F R O (xs.drop j) a = A) \/ (z ≠ 0 /\ A = (0, 0, z) /\ a = (0, 0)))) (fun _ i _ => n - (intOf i).toNat)
    case atStart => exact ⟨1, v, 0, rfl, rfl, Nat.le_refl _, hx1, hS2, Lib.hid (Or.inl ⟨rfl, by rw [HD.out]; exact HW2.out⟩)⟩
    case round =>
     obtain ⟨j, a, z, rfl, rfl, hj1, hj, hT, hF⟩ := hrel
     clear hS2 t0 t1 t2 t3 t4 r0 r1 fr0 fr1 c0 c1 gn gn2
     obtain ⟨t0, t1, t2, t3, t4, r0, r1, T0, T1, fr0, fr1, fT0, fT1, KB⟩ := hT.out
     have lt : w.heap.size < wr.heap.size := World.block_lt_of_cell? _ _ t0
     have lr : w.heap.size + 1 < wr.heap.size := World.block_lt_of_cell? _ _ r0
     have lT : wt.heap.size < wr.heap.size := World.block_lt_of_cell? _ _ T0
     have wT : w.heap.size + 1 < wt.heap.size := lr0
     have jj : (0 : Int) <= j := by omega
     by_cases hz : z = 0
     ·subst hz
      replace hF : Hid (rdf oq K B F R O (xs.drop j) a = A) := Lib.hid (by
       rcases hF.out with ⟨_, h⟩ | ⟨h, _⟩
       ·exact h
       ·exact absurd rfl h)
      by_cases hlt : j < n
      ·have j2 : (j : Int) < n := by omega
       obtain ⟨b2, o2, hQ2, c0, c1⟩ := RA.out j (by rw [HR.out]; exact hlt)
       cases hQ2
       have hbw2 : b < w.heap.size := World.block_lt_of_cell? _ _ c0
       replace c0 := Rg.keep KB hbw2 c0
       replace c1 := Rg.keep KB hbw2 c1
       have hst := rdf_step (op := oq) (K := K) (B := B) (F := F) (R := R) (O := O) (xs := xs) (i := j) (by rw [HR.out]; exact hlt) a
       obtain ⟨e, he⟩ : ∃ e, xs.getD j (0, 0) = e := ⟨_, rfl⟩
       rw [he] at c0 c1 hst
       have AC := Lib.hid fun w => AP.out a e w
       have herr := @apv_err oq K B F R O a.1 a.2 e.1 e.2
       obtain ⟨q, hq⟩ : ∃ q, apv oq K B F R O a.1 a.2 e.1 e.2 = q := ⟨_, rfl⟩
       rw [hq] at AC hst herr
       obtain ⟨x, y, z⟩ := q
       dsimp only at hst herr
       have HNX : Hid ((z = 0 /\ rdf oq K B F R O (xs.drop (j + 1)) (x, y) = A) \/ (z ≠ 0 /\ A = (0, 0, z) /\ (x, y) = ((0, 0) : Int × Int))) := Lib.hid (by
        by_cases hz : z = 0
        ·left
         rw [if_pos hz] at hst
         exact ⟨hz, by rw [<- hst]; exact hF.out⟩
        ·right
         rw [if_neg hz] at hst
         have := herr hz
         exact ⟨hz, by rw [<- hF.out, hst], by cases this; rfl⟩)
       clear he hq hst herr hF AP
       have hz9 : wr.cell? ⟨w.heap.size, 0, none⟩ = some (.int .i64 K) /\ wr.cell? ⟨w.heap.size, 1, none⟩ = some (.int .i64 B) /\ wr.cell? ⟨w.heap.size, 2, none⟩ = some (.int .i64 F) /\ wr.cell? ⟨w.heap.size, 3, none⟩ = some (.int .i64 R) /\ wr.cell? ⟨w.heap.size, 4, none⟩ = some (.int .i64 O) /\ wr.cell? ⟨w.heap.size + 1, 0, none⟩ = some (.int .i64 0) /\ wr.cell? ⟨w.heap.size + 1, 1, none⟩ = some (.int .i64 0) /\ wr.cell? ⟨wt.heap.size, 0, none⟩ = some (.int .i64 a.1) /\ wr.cell? ⟨wt.heap.size, 1, none⟩ = some (.int .i64 a.2) /\ wr.cell? ⟨b, o + j * 2, none⟩ = some (.int .i64 e.1) /\ wr.cell? ⟨b, o + j * 2 + 1, none⟩ = some (.int .i64 e.2) /\ wr.frozen? ⟨w.heap.size + 1, 0, none⟩ = false /\ wr.frozen? ⟨w.heap.size + 1, 1, none⟩ = false /\ wr.frozen? ⟨wt.heap.size, 0, none⟩ = false /\ wr.frozen? ⟨wt.heap.size, 1, none⟩ = false /\ Below w.heap.size w wr := ⟨t0, t1, t2, t3, t4, r0, r1, T0, T1, c0, c1, fr0, fr1, fT0, fT1, KB⟩
       have HS9 : Hid (∀ u u' : World, (u.cell? ⟨w.heap.size, 0, none⟩ = some (.int .i64 K) /\ u.cell? ⟨w.heap.size, 1, none⟩ = some (.int .i64 B) /\ u.cell? ⟨w.heap.size, 2, none⟩ = some (.int .i64 F) /\ u.cell? ⟨w.heap.size, 3, none⟩ = some (.int .i64 R) /\ u.cell? ⟨w.heap.size, 4, none⟩ = some (.int .i64 O) /\ u.cell? ⟨w.heap.size + 1, 0, none⟩ = some (.int .i64 0) /\ u.cell? ⟨w.heap.size + 1, 1, none⟩ = some (.int .i64 0) /\ u.cell? ⟨wt.heap.size, 0, none⟩ = some (.int .i64 a.1) /\ u.cell? ⟨wt.heap.size, 1, none⟩ = some (.int .i64 a.2) /\ u.cell? ⟨b, o + j * 2, none⟩ = some (.int .i64 e.1) /\ u.cell? ⟨b, o + j * 2 + 1, none⟩ = some (.int .i64 e.2) /\ u.frozen? ⟨w.heap.size + 1, 0, none⟩ = false /\ u.frozen? ⟨w.heap.size + 1, 1, none⟩ = false /\ u.frozen? ⟨wt.heap.size, 0, none⟩ = false /\ u.frozen? ⟨wt.heap.size, 1, none⟩ = false /\ Below w.heap.size w u) -> Below u.heap.size u u' -> (u'.cell? ⟨w.heap.size, 0, none⟩ = some (.int .i64 K) /\ u'.cell? ⟨w.heap.size, 1, none⟩ = some (.int .i64 B) /\ u'.cell? ⟨w.heap.size, 2, none⟩ = some (.int .i64 F) /\ u'.cell? ⟨w.heap.size, 3, none⟩ = some (.int .i64 R) /\ u'.cell? ⟨w.heap.size, 4, none⟩ = some (.int .i64 O) /\ u'.cell? ⟨w.heap.size + 1, 0, none⟩ = some (.int .i64 0) /\ u'.cell? ⟨w.heap.size + 1, 1, none⟩ = some (.int .i64 0) /\ u'.cell? ⟨wt.heap.size, 0, none⟩ = some (.int .i64 a.1) /\ u'.cell? ⟨wt.heap.size, 1, none⟩ = some (.int .i64 a.2) /\ u'.cell? ⟨b, o + j * 2, none⟩ = some (.int .i64 e.1) /\ u'.cell? ⟨b, o + j * 2 + 1, none⟩ = some (.int .i64 e.2) /\ u'.frozen? ⟨w.heap.size + 1, 0, none⟩ = false /\ u'.frozen? ⟨w.heap.size + 1, 1, none⟩ = false /\ u'.frozen? ⟨wt.heap.size, 0, none⟩ = false /\ u'.frozen? ⟨wt.heap.size, 1, none⟩ = false /\ Below w.heap.size w u')) := Lib.hid (fun u u' h hb => ⟨Rg.keep hb (World.block_lt_of_cell? _ _ h.1) h.1, Rg.keep hb (World.block_lt_of_cell? _ _ h.2.1) h.2.1, Rg.keep hb (World.block_lt_of_cell? _ _ h.2.2.1) h.2.2.1, Rg.keep hb (World.block_lt_of_cell? _ _ h.2.2.2.1) h.2.2.2.1, Rg.keep hb (World.block_lt_of_cell? _ _ h.2.2.2.2.1) h.2.2.2.2.1, Rg.keep hb (World.block_lt_of_cell? _ _ h.2.2.2.2.2.1) h.2.2.2.2.2.1, Rg.keep hb (World.block_lt_of_cell? _ _ h.2.2.2.2.2.2.1) h.2.2.2.2.2.2.1, Rg.keep hb (World.block_lt_of_cell? _ _ h.2.2.2.2.2.2.2.1) h.2.2.2.2.2.2.2.1, Rg.keep hb (World.block_lt_of_cell? _ _ h.2.2.2.2.2.2.2.2.1) h.2.2.2.2.2.2.2.2.1, Rg.keep hb (World.block_lt_of_cell? _ _ h.2.2.2.2.2.2.2.2.2.1) h.2.2.2.2.2.2.2.2.2.1, Rg.keep hb (World.block_lt_of_cell? _ _ h.2.2.2.2.2.2.2.2.2.2.1) h.2.2.2.2.2.2.2.2.2.2.1, Rg.keepF hb (World.block_lt_of_cell? _ _ h.2.2.2.2.2.1) h.2.2.2.2.2.2.2.2.2.2.2.1, Rg.keepF hb (World.block_lt_of_cell? _ _ h.2.2.2.2.2.1) h.2.2.2.2.2.2.2.2.2.2.2.2.1, Rg.keepF hb (World.block_lt_of_cell? _ _ h.2.2.2.2.2.2.2.1) h.2.2.2.2.2.2.2.2.2.2.2.2.2.1, Rg.keepF hb (World.block_lt_of_cell? _ _ h.2.2.2.2.2.2.2.1) h.2.2.2.2.2.2.2.2.2.2.2.2.2.2.1, h.2.2.2.2.2.2.2.2.2.2.2.2.2.2.2.trans (hb.mono h.2.2.2.2.2.2.2.2.2.2.2.2.2.2.2.size)⟩)
       clear t0 t1 t2 t3 t4 r0 r1 T0 T1 c0 c1 fr0 fr1 fT0 fT1 KB hT
       go_wp2_with fail
       refine Rk.begin (S := fun wS => wS.cell? ⟨w.heap.size, 0, none⟩ = some (.int .i64 K) /\ wS.cell? ⟨w.heap.size, 1, none⟩ = some (.int .i64 B) /\ wS.cell? ⟨w.heap.size, 2, none⟩ = some (.int .i64 F) /\ wS.cell? ⟨w.heap.size, 3, none⟩ = some (.int .i64 R) /\ wS.cell? ⟨w.heap.size, 4, none⟩ = some (.int .i64 O) /\ wS.cell? ⟨w.heap.size + 1, 0, none⟩ = some (.int .i64 0) /\ wS.cell? ⟨w.heap.size + 1, 1, none⟩ = some (.int .i64 0) /\ wS.cell? ⟨wt.heap.size, 0, none⟩ = some (.int .i64 a.1) /\ wS.cell? ⟨wt.heap.size, 1, none⟩ = some (.int .i64 a.2) /\ wS.cell? ⟨b, o + j * 2, none⟩ = some (.int .i64 e.1) /\ wS.cell? ⟨b, o + j * 2 + 1, none⟩ = some (.int .i64 e.2) /\ wS.frozen? ⟨w.heap.size + 1, 0, none⟩ = false /\ wS.frozen? ⟨w.heap.size + 1, 1, none⟩ = false /\ wS.frozen? ⟨wt.heap.size, 0, none⟩ = false /\ wS.frozen? ⟨wt.heap.size, 1, none⟩ = false /\ Below w.heap.size w wS) 12 (by kernel_rfl) (HS9.out _ _ hz9 (Below.drew (Below.refl _ _))) (fun hHeld => ?_)
       refine SqR.p 0 ?_
       refine SqR.l [12] 2 ?_
       refine SqR.l [12] 3 ?_
       refine SqR.p 4 ?_
       refine SqR.p 5 ?_
       refine SqR.p 6 ?_
       refine SqR.l [12] 7 ?_
       refine Rk.one (i := 1) (by kernel_rfl) rfl (fun KK hK => ?_)
       rw [if_pos (by kernel_rfl)]
       go_simp
       ((with_reducible refine (OP.out _).mono ?_); rintro e u9 ⟨rfl, rfl⟩)
       first | (refine hK.out _ _ (fun _ => hHeld) (fun hHeld => ?_)) | (refine hK.out _ _ hHeld (fun hHeld => ?_)) | (go_wp2_with fail; refine hK.out _ _ hHeld (fun hHeld => ?_))
       clear hK KK
       refine Rk.one (i := 8) (by kernel_rfl) rfl (fun KK hK => ?_)
       rw [if_pos (by kernel_rfl)]
       go_simp
       ((with_reducible refine (AC.out _).mono ?_); rintro e u ⟨rfl, hb⟩)
       first | (refine hK.out _ _ (fun _ => HS9.out _ _ hHeld hb) (fun hHeld => ?_)) | (refine hK.out _ _ (HS9.out _ _ hHeld hb) (fun hHeld => ?_)) | (go_wp2_with fail; refine hK.out _ _ (HS9.out _ _ hHeld hb) (fun hHeld => ?_))
       clear hK KK
       refine SqR.p 9 ?_
       refine SqR.p 10 ?_
       refine SqR.p 11 ?_
       refine Rk.tail [12, 13] [_, _] (by kernel_rfl) (by kernel_rfl) rfl (by decide) ?_
       obtain ⟨t0, t1, t2, t3, t4, r0, r1, T0, T1, c0, c1, fr0, fr1, fT0, fT1, KC⟩ := hHeld
       clear hz9 HS9
       have lT : wt.heap.size < u.heap.size := World.block_lt_of_cell? _ _ T0
       go_wp2_with fail
       go_roundw
       case rel =>
        have hRC : Rg.RC wt.heap.size u := Rg.RC.mk T0 T1 fT0 fT1
        have hRS := Rg.RC.store (x := x) (y := y) hRC
        have hRR : Rg.RC (w.heap.size + 1) u := Rg.RC.mk r0 r1 fr0 fr1
        have hRF := Rg.RC.far (r := wt.heap.size) (x := .int .i64 x) (y := .int .i64 y) (by omega) hRR
        have n0 : wt.heap.size ≠ w.heap.size := by omega
        have n1 : wt.heap.size ≠ w.heap.size + 1 := by omega
        have KD := Below.setCell (p := ⟨wt.heap.size, 1, none⟩) (Below.setCell (p := ⟨wt.heap.size, 0, none⟩) KC (by dsimp only; omega) (.int .i64 x)) (by dsimp only; omega) (.int .i64 y)
        exact ⟨j + 1, (x, y), z, rfl, by simp, by omega, by omega, Lib.hid ⟨Rg.far n0 t0, Rg.far n0 t1, Rg.far n0 t2, Rg.far n0 t3, Rg.far n0 t4, Rg.far n1 r0, Rg.far n1 r1, Rg.RC.read0 hRC, Rg.RC.read1 hRC, hRF.2.2.1, hRF.2.2.2, hRS.2.2.1, hRS.2.2.2, KD⟩, HNX⟩
       case measure => simp [intOf]; omega
      ·have ej : j = n := by omega
       subst ej
       have hAA : A = (a.1, a.2, 0) := by
        have h := hF.out
        rw [<- HR.out, rdf_end] at h
        exact h.symm
       subst hAA
       have g1 : decide ((j : Int) < j) = false := by simp
       clear hF hT AP OP
       go_wp2
       refine bodyPost_ret (v := Frac3 a.1 a.2 0) (by simp [results, Tryz.results68, go_sem, T0, T1, r0, r1, fr0, fr1, lr, lT]) rfl ⟨rfl, ?_⟩; exact SqB.b
     ·obtain ⟨hA, ha⟩ : A = (0, 0, z) /\ a = (0, 0) := by
       rcases hF.out with ⟨h, _⟩ | ⟨_, h⟩
       ·exact absurd h hz
       ·exact h
      subst hA ha
      have gz : (z == 0) = false := by simpa using hz
      clear hF hT AP OP hz
      dsimp only at T0 T1
      by_cases hlt : j < n
      ·have j2 : (j : Int) < n := by omega
       go_wp2
       refine bodyPost_ret (v := Frac3 0 0 z) (by simp [results, Tryz.results68, go_sem, T0, T1, r0, r1, fr0, fr1, lr, lT]) rfl ⟨rfl, ?_⟩; exact SqB.b
      ·obtain rfl : j = n := by omega
       go_wp2
       refine bodyPost_ret (v := Frac3 0 0 z) (by simp [results, Tryz.results68, go_sem, T0, T1, r0, r1, fr0, fr1, lr, lT]) rfl ⟨rfl, ?_⟩; exact SqB.b
end Go.Proofs.YteaaikmejacpaaaGreatDoor.Va
