/- Parse of the reference of package value. -/
import Derived.Test.YtikcinkbkakkmaaGreatDoorV30
import Derived.Test.YtikcinkbkakkmaaGreatDoorRk

namespace Go.Proofs.YtikcinkbkakkmaaGreatDoor.Va
open Go.ChangeShapes Go.WideShapes Go.ChangeAt Go.RowKit
open Fr Fx

set_option linter.unusedVariables false
set_option linter.unusedSimpArgs false

set_option maxRecDepth 100000 in
set_option maxHeartbeats 16000000 in
theorem r_vp (K B F R O : Int) (s : ByteArray) (w : World) (hs : s.size ≤ maxLen) : Calls Tryz.prog 19 #[T5 K B F R O, .string s] w (Ret (F3 (vpv K B F R O s.data.toList)) w) := by
  have VT := Lib.hid fun w => b_ty K B F R O w
  cases h : ty K B F R O
  · rw [show vpv K B F R O s.data.toList = (0, 0, 10) by unfold vpv; rw [if_pos h]]
    rw [h] at VT
    clear h
    go_enter Tryz.func19, Tryz.ntmps19
    go_wp2_with (first | (go_at_call 29; (with_reducible refine (VT.out _).mono ?_); rintro e w1 ⟨rfl, hb1⟩; have hc1 := (bcell hb1).1; have hf1 := (bcell hb1).2; have z1_0 : w.heap.size < w1.heap.size := (by have hzz := hb1.size; (try simp at hzz); omega); have z1_1 : w.heap.size + 1 < w1.heap.size := (by have hzz := hb1.size; (try simp at hzz); omega); have K1 : Below w.heap.size w w1 := Below.trans (b := _) (by (repeat' (first | (with_reducible exact Below.refl _ _) | (with_reducible refine Below.alloc ?_ ?_ _) | (with_reducible refine Below.setCell ?_ ?_ _) | (with_reducible refine below_drewN ?_ _) | (simp; done) | omega | (simp; omega)))) (hb1.mono (by have hzz := hb1.size; (try simp at hzz); first | omega | (simp; done) | (simp; omega)))))
    refine bodyPost_ret (v := Frac3 0 0 10) (by simp [results, Tryz.results19, go_sem, hc1, hf1, z1_0, Nat.lt_succ_of_lt z1_0, Nat.ne_of_lt z1_0, Nat.ne_of_gt z1_0, z1_1, Nat.lt_succ_of_lt z1_1, Nat.ne_of_lt z1_1, Nat.ne_of_gt z1_1]) rfl ⟨rfl, ?_⟩; (repeat' (first | (with_reducible exact Below.refl _ _) | (with_reducible exact K1) | (with_reducible exact K1.size) | (with_reducible refine Below.alloc ?_ ?_ _) | (with_reducible refine Below.setCell ?_ ?_ _) | (with_reducible refine below_drewN ?_ _) | (simp; done) | omega | (simp; omega)))
  rw [h] at VT
  have CP := Lib.hid fun w => Tx.r_parse s w hs

  have HV : Hid (∀ r : A3, (if (Tx.psv s.data.toList).2.2 ≠ 0 then (0, 0, (Tx.psv s.data.toList).2.2)
      else if K = 3 then (if (Tx.psv s.data.toList).2.1 ≠ 1 then (0, 0, 5) else Tx.psv s.data.toList)
      else if K = 2 then (if 2 ^ F.toNat % (Tx.psv s.data.toList).2.1 ≠ 0 then (0, 0, 5) else if fv K B F R O ((Tx.psv s.data.toList).1 * (2 ^ F.toNat / (Tx.psv s.data.toList).2.1)) 1 = false then (0, 0, 3) else ((Tx.psv s.data.toList).1 * (2 ^ F.toNat / (Tx.psv s.data.toList).2.1), 1, 0))
      else Tx.psv s.data.toList : A3) = r → vpv K B F R O s.data.toList = r) := Lib.hid fun r hr => by
    unfold vpv
    rw [if_neg (by rw [h]; decide)]
    exact hr
  have hok := @psv_ok s.data.toList (Tx.psv s.data.toList).1 (Tx.psv s.data.toList).2.1
  have herr := @psv_err s.data.toList
  obtain ⟨r, hr⟩ : ∃ r, Tx.psv s.data.toList = r := ⟨_, rfl⟩
  rw [hr] at CP HV hok herr
  obtain ⟨x, y, e⟩ := r
  dsimp only at HV hok herr
  clear hs
  by_cases he : e = 0
  · subst he
    replace hok := hok rfl
    obtain ⟨y0, y1, x0, x1, -⟩ := vld_parts hok
    rw [if_neg (by decide)] at HV
    by_cases k3 : K = 3
    · rw [if_pos k3] at HV
      have g3 : (K == 3) = true := by simpa using k3
      have g1 : (K == 1) = false := by simp; omega
      by_cases hy : y = 1
      · rw [if_neg (by omega)] at HV
        rw [HV.out _ rfl]
        have gy : (y != 1) = false := by simpa using hy
        clear h hr hok herr HV k3 hy y0 y1 x0 x1
        go_enter Tryz.func19, Tryz.ntmps19
        go_wp2_with (first | (go_at_call 29; (with_reducible refine (VT.out _).mono ?_); rintro e w1 ⟨rfl, hb1⟩; have hc1 := (bcell hb1).1; have hf1 := (bcell hb1).2; have z1_0 : w.heap.size < w1.heap.size := (by have hzz := hb1.size; (try simp at hzz); omega); have z1_1 : w.heap.size + 1 < w1.heap.size := (by have hzz := hb1.size; (try simp at hzz); omega); have K1 : Below w.heap.size w w1 := Below.trans (b := _) (by (repeat' (first | (with_reducible exact Below.refl _ _) | (with_reducible refine Below.alloc ?_ ?_ _) | (with_reducible refine Below.setCell ?_ ?_ _) | (with_reducible refine below_drewN ?_ _) | (simp; done) | omega | (simp; omega)))) (hb1.mono (by have hzz := hb1.size; (try simp at hzz); first | omega | (simp; done) | (simp; omega)))) | (go_at_call 50; (with_reducible refine (CP.out _).mono ?_); rintro e w2 ⟨rfl, hb2⟩; have hc2 := (bcell hb2).1; have hf2 := (bcell hb2).2; have z2_0 : w.heap.size < w2.heap.size := (by have hzz := hb2.size; (try simp at hzz); omega); have z2_1 : w.heap.size + 1 < w2.heap.size := (by have hzz := hb2.size; (try simp at hzz); omega); have K2 : Below w.heap.size w w2 := Below.trans (b := _) (by (repeat' (first | (with_reducible exact Below.refl _ _) | (with_reducible exact K1) | (with_reducible exact K1.size) | (with_reducible refine Below.alloc ?_ ?_ _) | (with_reducible refine Below.setCell ?_ ?_ _) | (with_reducible refine below_drewN ?_ _) | (simp; done) | omega | (simp; omega)))) (hb2.mono (by have hzz := hb2.size; (try simp at hzz); first | omega | (simp; done) | (simp; omega)))))
        refine bodyPost_ret (v := Frac3 x y 0) (by simp [results, Tryz.results19, go_sem, hc1, hf1, hc2, hf2, z1_0, Nat.lt_succ_of_lt z1_0, Nat.ne_of_lt z1_0, Nat.ne_of_gt z1_0, z1_1, Nat.lt_succ_of_lt z1_1, Nat.ne_of_lt z1_1, Nat.ne_of_gt z1_1, z2_0, Nat.lt_succ_of_lt z2_0, Nat.ne_of_lt z2_0, Nat.ne_of_gt z2_0, z2_1, Nat.lt_succ_of_lt z2_1, Nat.ne_of_lt z2_1, Nat.ne_of_gt z2_1, Nat.lt_succ_of_lt z2_0, Nat.lt_succ_of_lt z2_1]) rfl ⟨rfl, ?_⟩; (repeat' (first | (with_reducible exact Below.refl _ _) | (with_reducible exact K1) | (with_reducible exact K1.size) | (with_reducible exact K2) | (with_reducible exact K2.size) | (with_reducible refine Below.alloc ?_ ?_ _) | (with_reducible refine Below.setCell ?_ ?_ _) | (with_reducible refine below_drewN ?_ _) | (simp; done) | omega | (simp; omega)))
      · rw [if_pos hy] at HV
        rw [HV.out _ rfl]
        have gy : (y != 1) = true := by simpa using hy
        clear h hr hok herr HV k3 hy y0 y1 x0 x1
        go_enter Tryz.func19, Tryz.ntmps19
        go_wp2_with (first | (go_at_call 29; (with_reducible refine (VT.out _).mono ?_); rintro e w1 ⟨rfl, hb1⟩; have hc1 := (bcell hb1).1; have hf1 := (bcell hb1).2; have z1_0 : w.heap.size < w1.heap.size := (by have hzz := hb1.size; (try simp at hzz); omega); have z1_1 : w.heap.size + 1 < w1.heap.size := (by have hzz := hb1.size; (try simp at hzz); omega); have K1 : Below w.heap.size w w1 := Below.trans (b := _) (by (repeat' (first | (with_reducible exact Below.refl _ _) | (with_reducible refine Below.alloc ?_ ?_ _) | (with_reducible refine Below.setCell ?_ ?_ _) | (with_reducible refine below_drewN ?_ _) | (simp; done) | omega | (simp; omega)))) (hb1.mono (by have hzz := hb1.size; (try simp at hzz); first | omega | (simp; done) | (simp; omega)))) | (go_at_call 50; (with_reducible refine (CP.out _).mono ?_); rintro e w2 ⟨rfl, hb2⟩; have hc2 := (bcell hb2).1; have hf2 := (bcell hb2).2; have z2_0 : w.heap.size < w2.heap.size := (by have hzz := hb2.size; (try simp at hzz); omega); have z2_1 : w.heap.size + 1 < w2.heap.size := (by have hzz := hb2.size; (try simp at hzz); omega); have K2 : Below w.heap.size w w2 := Below.trans (b := _) (by (repeat' (first | (with_reducible exact Below.refl _ _) | (with_reducible exact K1) | (with_reducible exact K1.size) | (with_reducible refine Below.alloc ?_ ?_ _) | (with_reducible refine Below.setCell ?_ ?_ _) | (with_reducible refine below_drewN ?_ _) | (simp; done) | omega | (simp; omega)))) (hb2.mono (by have hzz := hb2.size; (try simp at hzz); first | omega | (simp; done) | (simp; omega)))))
        refine bodyPost_ret (v := Frac3 0 0 5) (by simp [results, Tryz.results19, go_sem, hc1, hf1, hc2, hf2, z1_0, Nat.lt_succ_of_lt z1_0, Nat.ne_of_lt z1_0, Nat.ne_of_gt z1_0, z1_1, Nat.lt_succ_of_lt z1_1, Nat.ne_of_lt z1_1, Nat.ne_of_gt z1_1, z2_0, Nat.lt_succ_of_lt z2_0, Nat.ne_of_lt z2_0, Nat.ne_of_gt z2_0, z2_1, Nat.lt_succ_of_lt z2_1, Nat.ne_of_lt z2_1, Nat.ne_of_gt z2_1, Nat.lt_succ_of_lt z2_0, Nat.lt_succ_of_lt z2_1]) rfl ⟨rfl, ?_⟩; (repeat' (first | (with_reducible exact Below.refl _ _) | (with_reducible exact K1) | (with_reducible exact K1.size) | (with_reducible exact K2) | (with_reducible exact K2.size) | (with_reducible refine Below.alloc ?_ ?_ _) | (with_reducible refine Below.setCell ?_ ?_ _) | (with_reducible refine below_drewN ?_ _) | (simp; done) | omega | (simp; omega)))
    rw [if_neg k3] at HV
    have g3 : (K == 3) = false := by simpa using k3
    by_cases k2 : K = 2
    · rw [if_pos k2] at HV
      have g1 : (K == 1) = false := by simp; omega
      have htv : tv K B F R O = true := by
        rcases ty_cases K B F R O with ⟨_, h | h⟩ | ⟨h', _⟩
        · exact h.2
        · omega
        · rw [h'] at h; cases h
      obtain ⟨-, q2, q3, f0, f1, -, -, -⟩ := tv_parts htv
      obtain ⟨p0, p1⟩ := two_pow F f0 f1
      have VA := Lib.hid fun T w => b_vv K B F R O T 1 w h
      obtain ⟨p, hp⟩ : ∃ p, (2 : Int) ^ F.toNat = p := ⟨_, rfl⟩
      rw [hp] at p0 p1 HV
      have SP := Lib.hid fun w => step_any K B F R O p w f0 f1 hp p0 p1
      obtain ⟨m, hm⟩ : ∃ m, p % y = m := ⟨_, rfl⟩
      obtain ⟨k, hk⟩ : ∃ k, p / y = k := ⟨_, rfl⟩
      have k0 : 0 ≤ k := by rw [← hk]; exact Int.ediv_nonneg (by omega) (by omega)
      have k1 : k ≤ 1073741824 := by rw [← hk]; exact Int.le_trans (Int.ediv_le_self _ (by omega)) p1
      have m0 : 0 ≤ m := by rw [← hm]; exact Int.emod_nonneg _ (by omega)
      have m1 : m < y := by rw [← hm]; exact Int.emod_lt_of_pos _ (by omega)
      rw [hm, hk] at HV
      obtain ⟨T0, T1⟩ := pb x k (by omega) (by omega)
      obtain ⟨T, hT⟩ : ∃ T, x * k = T := ⟨_, rfl⟩
      rw [hT] at HV T0 T1
      have HM := Lib.hid hm
      have HK := Lib.hid hk
      have HT := Lib.hid hT
      clear hp hm hk hT
      have hmm : Hid (IntKind.i64.wrap (p.tmod y) = m) := Lib.hid (by rw [Int.tmod_eq_emod_of_nonneg (by omega), HM.out]; exact IntWalk.i64_in _ (by omega))
      by_cases hm0 : m = 0
      · rw [if_neg (by omega)] at HV
        have gm : (m != 0) = false := by simpa using hm0
        replace VA := Lib.hid fun w => VA.out T w
        rw [show vv K B F R O T 1 = fv K B F R O T 1 from vv_fix k2] at VA
        clear h hr hok herr k3 k2 htv q2 q3 hm0
        cases hf : fv K B F R O T 1
        all_goals
          rw [hf] at VA
          first | rw [HV.out (0, 0, 3) (by rw [if_pos hf])] | rw [HV.out (T, 1, 0) (by rw [if_neg (by rw [hf]; decide)])]
          clear HV hf
          go_enter Tryz.func19, Tryz.ntmps19
          go_wp2_with (first | (go_at_call 29; (with_reducible refine (VT.out _).mono ?_); rintro e w1 ⟨rfl, hb1⟩; have hc1 := (bcell hb1).1; have hf1 := (bcell hb1).2; have z1_0 : w.heap.size < w1.heap.size := (by have hzz := hb1.size; (try simp at hzz); omega); have z1_1 : w.heap.size + 1 < w1.heap.size := (by have hzz := hb1.size; (try simp at hzz); omega); have K1 : Below w.heap.size w w1 := Below.trans (b := _) (by (repeat' (first | (with_reducible exact Below.refl _ _) | (with_reducible refine Below.alloc ?_ ?_ _) | (with_reducible refine Below.setCell ?_ ?_ _) | (with_reducible refine below_drewN ?_ _) | (simp; done) | omega | (simp; omega)))) (hb1.mono (by have hzz := hb1.size; (try simp at hzz); first | omega | (simp; done) | (simp; omega)))) | (go_at_call 50; (with_reducible refine (CP.out _).mono ?_); rintro e w2 ⟨rfl, hb2⟩; have hc2 := (bcell hb2).1; have hf2 := (bcell hb2).2; have z2_0 : w.heap.size < w2.heap.size := (by have hzz := hb2.size; (try simp at hzz); omega); have z2_1 : w.heap.size + 1 < w2.heap.size := (by have hzz := hb2.size; (try simp at hzz); omega); have K2 : Below w.heap.size w w2 := Below.trans (b := _) (by (repeat' (first | (with_reducible exact Below.refl _ _) | (with_reducible exact K1) | (with_reducible exact K1.size) | (with_reducible refine Below.alloc ?_ ?_ _) | (with_reducible refine Below.setCell ?_ ?_ _) | (with_reducible refine below_drewN ?_ _) | (simp; done) | omega | (simp; omega)))) (hb2.mono (by have hzz := hb2.size; (try simp at hzz); first | omega | (simp; done) | (simp; omega)))))
          have hbz : Below w2.heap.size w2 (w2.alloc (.cells #[.int .i64 x, .int .i64 y] 25)) := (Below.refl _ _).alloc (Nat.le_refl _) _
          have hz : (w2.alloc (.cells #[.int .i64 x, .int .i64 y] 25)).cell? ⟨w.heap.size, 0, none⟩ = some (.int .i64 K) ∧ (w2.alloc (.cells #[.int .i64 x, .int .i64 y] 25)).cell? ⟨w.heap.size, 1, none⟩ = some (.int .i64 B) ∧ (w2.alloc (.cells #[.int .i64 x, .int .i64 y] 25)).cell? ⟨w.heap.size, 2, none⟩ = some (.int .i64 F) ∧ (w2.alloc (.cells #[.int .i64 x, .int .i64 y] 25)).cell? ⟨w.heap.size, 3, none⟩ = some (.int .i64 R) ∧ (w2.alloc (.cells #[.int .i64 x, .int .i64 y] 25)).cell? ⟨w.heap.size, 4, none⟩ = some (.int .i64 O) ∧ (w2.alloc (.cells #[.int .i64 x, .int .i64 y] 25)).cell? ⟨w.heap.size + 1, 0, none⟩ = some (.int .i64 0) ∧ (w2.alloc (.cells #[.int .i64 x, .int .i64 y] 25)).cell? ⟨w.heap.size + 1, 1, none⟩ = some (.int .i64 0) ∧ (w2.alloc (.cells #[.int .i64 x, .int .i64 y] 25)).cell? ⟨w2.heap.size, 0, none⟩ = some (.int .i64 x) ∧ (w2.alloc (.cells #[.int .i64 x, .int .i64 y] 25)).cell? ⟨w2.heap.size, 1, none⟩ = some (.int .i64 y) ∧ (w2.alloc (.cells #[.int .i64 x, .int .i64 y] 25)).frozen? ⟨w.heap.size + 1, 0, none⟩ = false ∧ (w2.alloc (.cells #[.int .i64 x, .int .i64 y] 25)).frozen? ⟨w.heap.size + 1, 1, none⟩ = false ∧ (w2.alloc (.cells #[.int .i64 x, .int .i64 y] 25)).frozen? ⟨w2.heap.size, 0, none⟩ = false ∧ (w2.alloc (.cells #[.int .i64 x, .int .i64 y] 25)).frozen? ⟨w2.heap.size, 1, none⟩ = false ∧ Below w.heap.size w (w2.alloc (.cells #[.int .i64 x, .int .i64 y] 25)) := ⟨Rg.keep hbz z2_0 (Rg.keep hb2 z1_0 (Rg.keep hb1 (by simp <;> omega) (by go_cell))), Rg.keep hbz z2_0 (Rg.keep hb2 z1_0 (Rg.keep hb1 (by simp <;> omega) (by go_cell))), Rg.keep hbz z2_0 (Rg.keep hb2 z1_0 (Rg.keep hb1 (by simp <;> omega) (by go_cell))), Rg.keep hbz z2_0 (Rg.keep hb2 z1_0 (Rg.keep hb1 (by simp <;> omega) (by go_cell))), Rg.keep hbz z2_0 (Rg.keep hb2 z1_0 (Rg.keep hb1 (by simp <;> omega) (by go_cell))), Rg.keep hbz z2_1 (Rg.keep hb2 z1_1 (Rg.keep hb1 (by simp <;> omega) (by go_cell))), Rg.keep hbz z2_1 (Rg.keep hb2 z1_1 (Rg.keep hb1 (by simp <;> omega) (by go_cell))), (by go_cell), (by go_cell), Rg.keepF hbz z2_1 (Rg.keepF hb2 z1_1 (Rg.keepF hb1 (by simp <;> omega) (by simp only [frozen?_alloc_cells]; exact Rg.notFrozen (by omega)))), Rg.keepF hbz z2_1 (Rg.keepF hb2 z1_1 (Rg.keepF hb1 (by simp <;> omega) (by simp only [frozen?_alloc_cells]; exact Rg.notFrozen (by omega)))), by simp only [frozen?_alloc_cells]; exact Rg.notFrozen (Nat.le_refl _), by simp only [frozen?_alloc_cells]; exact Rg.notFrozen (Nat.le_refl _), K2.trans (hbz.mono (Nat.le_of_lt z2_0))⟩
          generalize (w2.alloc (.cells #[.int .i64 x, .int .i64 y] 25)) = z at *
          have HS : Hid (∀ u u' : World, (u.cell? ⟨w.heap.size, 0, none⟩ = some (.int .i64 K) ∧ u.cell? ⟨w.heap.size, 1, none⟩ = some (.int .i64 B) ∧ u.cell? ⟨w.heap.size, 2, none⟩ = some (.int .i64 F) ∧ u.cell? ⟨w.heap.size, 3, none⟩ = some (.int .i64 R) ∧ u.cell? ⟨w.heap.size, 4, none⟩ = some (.int .i64 O) ∧ u.cell? ⟨w.heap.size + 1, 0, none⟩ = some (.int .i64 0) ∧ u.cell? ⟨w.heap.size + 1, 1, none⟩ = some (.int .i64 0) ∧ u.cell? ⟨w2.heap.size, 0, none⟩ = some (.int .i64 x) ∧ u.cell? ⟨w2.heap.size, 1, none⟩ = some (.int .i64 y) ∧ u.frozen? ⟨w.heap.size + 1, 0, none⟩ = false ∧ u.frozen? ⟨w.heap.size + 1, 1, none⟩ = false ∧ u.frozen? ⟨w2.heap.size, 0, none⟩ = false ∧ u.frozen? ⟨w2.heap.size, 1, none⟩ = false ∧ Below w.heap.size w u) → Below u.heap.size u u' → (u'.cell? ⟨w.heap.size, 0, none⟩ = some (.int .i64 K) ∧ u'.cell? ⟨w.heap.size, 1, none⟩ = some (.int .i64 B) ∧ u'.cell? ⟨w.heap.size, 2, none⟩ = some (.int .i64 F) ∧ u'.cell? ⟨w.heap.size, 3, none⟩ = some (.int .i64 R) ∧ u'.cell? ⟨w.heap.size, 4, none⟩ = some (.int .i64 O) ∧ u'.cell? ⟨w.heap.size + 1, 0, none⟩ = some (.int .i64 0) ∧ u'.cell? ⟨w.heap.size + 1, 1, none⟩ = some (.int .i64 0) ∧ u'.cell? ⟨w2.heap.size, 0, none⟩ = some (.int .i64 x) ∧ u'.cell? ⟨w2.heap.size, 1, none⟩ = some (.int .i64 y) ∧ u'.frozen? ⟨w.heap.size + 1, 0, none⟩ = false ∧ u'.frozen? ⟨w.heap.size + 1, 1, none⟩ = false ∧ u'.frozen? ⟨w2.heap.size, 0, none⟩ = false ∧ u'.frozen? ⟨w2.heap.size, 1, none⟩ = false ∧ Below w.heap.size w u')) := Lib.hid (fun u u' h hb => ⟨Rg.keep hb (World.block_lt_of_cell? _ _ h.1) h.1, Rg.keep hb (World.block_lt_of_cell? _ _ h.2.1) h.2.1, Rg.keep hb (World.block_lt_of_cell? _ _ h.2.2.1) h.2.2.1, Rg.keep hb (World.block_lt_of_cell? _ _ h.2.2.2.1) h.2.2.2.1, Rg.keep hb (World.block_lt_of_cell? _ _ h.2.2.2.2.1) h.2.2.2.2.1, Rg.keep hb (World.block_lt_of_cell? _ _ h.2.2.2.2.2.1) h.2.2.2.2.2.1, Rg.keep hb (World.block_lt_of_cell? _ _ h.2.2.2.2.2.2.1) h.2.2.2.2.2.2.1, Rg.keep hb (World.block_lt_of_cell? _ _ h.2.2.2.2.2.2.2.1) h.2.2.2.2.2.2.2.1, Rg.keep hb (World.block_lt_of_cell? _ _ h.2.2.2.2.2.2.2.2.1) h.2.2.2.2.2.2.2.2.1, Rg.keepF hb (World.block_lt_of_cell? _ _ h.2.2.2.2.2.1) h.2.2.2.2.2.2.2.2.2.1, Rg.keepF hb (World.block_lt_of_cell? _ _ h.2.2.2.2.2.1) h.2.2.2.2.2.2.2.2.2.2.1, Rg.keepF hb (World.block_lt_of_cell? _ _ h.2.2.2.2.2.2.2.1) h.2.2.2.2.2.2.2.2.2.2.2.1, Rg.keepF hb (World.block_lt_of_cell? _ _ h.2.2.2.2.2.2.2.1) h.2.2.2.2.2.2.2.2.2.2.2.2.1, h.2.2.2.2.2.2.2.2.2.2.2.2.2.trans (hb.mono h.2.2.2.2.2.2.2.2.2.2.2.2.2.size)⟩)
          have hy0 : ¬ y = 0 := by omega
          have hm := hmm.out
          refine Rk.begin (S := fun wS => wS.cell? ⟨w.heap.size, 0, none⟩ = some (.int .i64 K) ∧ wS.cell? ⟨w.heap.size, 1, none⟩ = some (.int .i64 B) ∧ wS.cell? ⟨w.heap.size, 2, none⟩ = some (.int .i64 F) ∧ wS.cell? ⟨w.heap.size, 3, none⟩ = some (.int .i64 R) ∧ wS.cell? ⟨w.heap.size, 4, none⟩ = some (.int .i64 O) ∧ wS.cell? ⟨w.heap.size + 1, 0, none⟩ = some (.int .i64 0) ∧ wS.cell? ⟨w.heap.size + 1, 1, none⟩ = some (.int .i64 0) ∧ wS.cell? ⟨w2.heap.size, 0, none⟩ = some (.int .i64 x) ∧ wS.cell? ⟨w2.heap.size, 1, none⟩ = some (.int .i64 y) ∧ wS.frozen? ⟨w.heap.size + 1, 0, none⟩ = false ∧ wS.frozen? ⟨w.heap.size + 1, 1, none⟩ = false ∧ wS.frozen? ⟨w2.heap.size, 0, none⟩ = false ∧ wS.frozen? ⟨w2.heap.size, 1, none⟩ = false ∧ Below w.heap.size w wS) 5 (by kernel_rfl) (HS.out _ _ hz (Below.drew (Below.refl _ _))) (fun hHeld => ?_)
          refine Rk.take [1, 4, 5] (i := 0) (v := ?_) rfl (by kernel_rfl) (by kernel_rfl) (by kernel_rfl) (by kernel_rfl) (by kernel_rfl) (fun _ _ _ h => h) (Or.inl ⟨by kernel_rfl, ?_⟩) (by assumption) ?_
          rotate_left
          · ((intro w hSw; (try dsimp only at hSw); go_simp) <;> with_reducible rfl)
          try simp only [Act.put, List.setIfInBounds_toArray, List.set_cons_zero, List.set_cons_succ]
          refine Rk.takeP (i := 2) (v := ?_) rfl (by kernel_rfl) (by kernel_rfl) (by kernel_rfl) (by kernel_rfl) (fun _ _ _ h => h) (Or.inl ⟨by kernel_rfl, ?_⟩) (by assumption) ?_
          rotate_left
          · ((intro w hSw; go_simp) <;> with_reducible rfl)
          try simp only [Act.put, List.setIfInBounds_toArray, List.set_cons_zero, List.set_cons_succ]
          refine Rk.take [4, 5] (i := 3) (v := ?_) rfl (by kernel_rfl) (by kernel_rfl) (by kernel_rfl) (by kernel_rfl) (by kernel_rfl) (fun _ _ _ h => h) (Or.inl ⟨by kernel_rfl, ?_⟩) (by assumption) ?_
          rotate_left
          · ((intro w hSw; (try dsimp only at hSw); go_simp) <;> with_reducible rfl)
          try simp only [Act.put, List.setIfInBounds_toArray, List.set_cons_zero, List.set_cons_succ]
          refine Rk.one (i := 1) (by kernel_rfl) rfl (fun KK hK => ?_)
          rw [if_pos (by kernel_rfl)]
          go_simp
          ((with_reducible refine (SP.out _).mono ?_); rintro e u ⟨rfl, hb⟩)
          first | (refine hK.out _ _ (fun _ => HS.out _ _ hHeld hb) (fun hHeld => ?_)) | (refine hK.out _ _ (HS.out _ _ hHeld hb) (fun hHeld => ?_)) | (go_wp2_with fail; refine hK.out _ _ (HS.out _ _ hHeld hb) (fun hHeld => ?_))
          clear hK KK
          refine Rk.takeP (i := 4) (v := ?_) rfl (by kernel_rfl) (by kernel_rfl) (by kernel_rfl) (by kernel_rfl) (fun _ _ _ h => h) (Or.inl ⟨by kernel_rfl, ?_⟩) (by assumption) ?_
          rotate_left
          · ((intro w hSw; go_simp) <;> with_reducible rfl)
          try simp only [Act.put, List.setIfInBounds_toArray, List.set_cons_zero, List.set_cons_succ]
          refine Rk.tail [5] [_] (by kernel_rfl) (by kernel_rfl) rfl (by decide) ?_
          clear hz hm
          have hz := hHeld
          have hm2 := HM.out
          go_wp2_with fail
          clear hHeld gm hm2
          generalize u = z at *
          have zx0 := hz.2.2.2.2.2.2.2.1
          have zK := hz.2.2.2.2.2.2.2.2.2.2.2.2.2
          have hk : IntKind.i64.wrap (p.tdiv y) = k := by rw [Int.tdiv_eq_ediv_of_nonneg (by omega), HK.out]; exact IntWalk.i64_in _ (by omega)
          have hT : IntKind.i64.wrap (x * k) = T := by rw [HT.out]; exact IntWalk.i64_in _ (by omega)
          refine Rk.begin (S := fun wS => wS.cell? ⟨w.heap.size, 0, none⟩ = some (.int .i64 K) ∧ wS.cell? ⟨w.heap.size, 1, none⟩ = some (.int .i64 B) ∧ wS.cell? ⟨w.heap.size, 2, none⟩ = some (.int .i64 F) ∧ wS.cell? ⟨w.heap.size, 3, none⟩ = some (.int .i64 R) ∧ wS.cell? ⟨w.heap.size, 4, none⟩ = some (.int .i64 O) ∧ wS.cell? ⟨w.heap.size + 1, 0, none⟩ = some (.int .i64 0) ∧ wS.cell? ⟨w.heap.size + 1, 1, none⟩ = some (.int .i64 0) ∧ wS.cell? ⟨w2.heap.size, 0, none⟩ = some (.int .i64 x) ∧ wS.cell? ⟨w2.heap.size, 1, none⟩ = some (.int .i64 y) ∧ wS.frozen? ⟨w.heap.size + 1, 0, none⟩ = false ∧ wS.frozen? ⟨w.heap.size + 1, 1, none⟩ = false ∧ wS.frozen? ⟨w2.heap.size, 0, none⟩ = false ∧ wS.frozen? ⟨w2.heap.size, 1, none⟩ = false ∧ Below w.heap.size w wS) 10 (by kernel_rfl) (HS.out _ _ hz (Below.drew (Below.refl _ _))) (fun hHeld => ?_)
          refine Rk.takeP (i := 0) (v := ?_) rfl (by kernel_rfl) (by kernel_rfl) (by kernel_rfl) (by kernel_rfl) (fun _ _ _ h => h) (Or.inl ⟨by kernel_rfl, ?_⟩) (by assumption) ?_
          rotate_left
          · ((intro w hSw; go_simp) <;> with_reducible rfl)
          try simp only [Act.put, List.setIfInBounds_toArray, List.set_cons_zero, List.set_cons_succ]
          refine Rk.take [10] (i := 1) (v := ?_) rfl (by kernel_rfl) (by kernel_rfl) (by kernel_rfl) (by kernel_rfl) (by kernel_rfl) (fun _ _ _ h => h) (Or.inl ⟨by kernel_rfl, ?_⟩) (by assumption) ?_
          rotate_left
          · ((intro w hSw; (try dsimp only at hSw); go_simp) <;> with_reducible rfl)
          try simp only [Act.put, List.setIfInBounds_toArray, List.set_cons_zero, List.set_cons_succ]
          refine Rk.take [10] (i := 2) (v := ?_) rfl (by kernel_rfl) (by kernel_rfl) (by kernel_rfl) (by kernel_rfl) (by kernel_rfl) (fun _ _ _ h => h) (Or.inl ⟨by kernel_rfl, ?_⟩) (by assumption) ?_
          rotate_left
          · ((intro w hSw; (try dsimp only at hSw); go_simp) <;> with_reducible rfl)
          try simp only [Act.put, List.setIfInBounds_toArray, List.set_cons_zero, List.set_cons_succ]
          refine Rk.takeP (i := 4) (v := ?_) rfl (by kernel_rfl) (by kernel_rfl) (by kernel_rfl) (by kernel_rfl) (fun _ _ _ h => h) (Or.inl ⟨by kernel_rfl, ?_⟩) (by assumption) ?_
          rotate_left
          · ((intro w hSw; go_simp) <;> with_reducible rfl)
          try simp only [Act.put, List.setIfInBounds_toArray, List.set_cons_zero, List.set_cons_succ]
          refine Rk.take [10] (i := 5) (v := ?_) rfl (by kernel_rfl) (by kernel_rfl) (by kernel_rfl) (by kernel_rfl) (by kernel_rfl) (fun _ _ _ h => h) (Or.inl ⟨by kernel_rfl, ?_⟩) (by assumption) ?_
          rotate_left
          · ((intro w hSw; (try dsimp only at hSw); go_simp) <;> with_reducible rfl)
          try simp only [Act.put, List.setIfInBounds_toArray, List.set_cons_zero, List.set_cons_succ]
          refine Rk.two (i := 3) (j := 9) (by kernel_rfl) rfl rfl (fun KK hK => ?_) (fun KK hK => ?_)
          · rw [if_pos (by kernel_rfl)]
            go_simp
            ((with_reducible refine (SP.out _).mono ?_); rintro e u ⟨rfl, hb⟩)
            have hNew := HS.out _ _ hHeld hb
            first | (refine hK.out _ _ (fun _ => hNew) (fun _ => ?_)) | (refine hK.out _ _ hNew (fun _ => ?_)) | (go_wp2_with fail; refine hK.out _ _ hNew (fun _ => ?_))
            replace hHeld := hNew
            clear hNew hb
            clear hK KK
            refine Rk.takeP (i := 6) (v := ?_) rfl (by kernel_rfl) (by kernel_rfl) (by kernel_rfl) (by kernel_rfl) (fun _ _ _ h => h) (Or.inl ⟨by kernel_rfl, ?_⟩) (by assumption) ?_
            rotate_left
            · ((intro w hSw; go_simp) <;> with_reducible rfl)
            try simp only [Act.put, List.setIfInBounds_toArray, List.set_cons_zero, List.set_cons_succ]
            refine Rk.takeP (i := 7) (v := ?_) rfl (by kernel_rfl) (by kernel_rfl) (by kernel_rfl) (by kernel_rfl) (fun _ _ _ h => h) (Or.inl ⟨by kernel_rfl, ?_⟩) (by assumption) ?_
            rotate_left
            · ((intro w hSw; go_simp) <;> with_reducible rfl)
            try simp only [Act.put, List.setIfInBounds_toArray, List.set_cons_zero, List.set_cons_succ]
            refine Rk.takeP (i := 8) (v := ?_) rfl (by kernel_rfl) (by kernel_rfl) (by kernel_rfl) (by kernel_rfl) (fun _ _ _ h => h) (Or.inl ⟨by kernel_rfl, ?_⟩) (by assumption) ?_
            rotate_left
            · ((intro w hSw; go_simp) <;> with_reducible rfl)
            try simp only [Act.put, List.setIfInBounds_toArray, List.set_cons_zero, List.set_cons_succ]
            refine Rk.one (i := 9) (by kernel_rfl) rfl (fun KK hK => ?_)
            rw [if_pos (by kernel_rfl)]
            go_simp
            have lu : w2.heap.size < u.heap.size := World.block_lt_of_cell? _ _ hHeld.2.2.2.2.2.2.2.1
            have hNew := HS.out _ _ hHeld ((Below.refl _ _).alloc (Nat.le_refl _) (Obj.cells #[Value.int .i64 0, Value.int .i64 0] 25))
            refine hK.out _ _ hNew (fun _ => ?_)
            replace hHeld := hNew
            clear hNew
            clear hK KK
            refine Rk.tail [10] [_] (by kernel_rfl) (by kernel_rfl) rfl (by decide) ?_
            obtain ⟨t0, t1, t2, t3, t4, r0, r1, x0, x1, fr0, fr1, fx0, fx1, K9⟩ := hHeld
            have q0 : (u.alloc (Obj.cells #[Value.int .i64 0, Value.int .i64 0] 25)).cell? ⟨u.heap.size, 0, none⟩ = some (.int .i64 0) := by go_cell
            have q1 : (u.alloc (Obj.cells #[Value.int .i64 0, Value.int .i64 0] 25)).cell? ⟨u.heap.size, 1, none⟩ = some (.int .i64 0) := by go_cell
            have fq0 : (u.alloc (Obj.cells #[Value.int .i64 0, Value.int .i64 0] 25)).frozen? ⟨u.heap.size, 0, none⟩ = false := by simp only [frozen?_alloc_cells]; exact Rg.notFrozen (Nat.le_refl _)
            have fq1 : (u.alloc (Obj.cells #[Value.int .i64 0, Value.int .i64 0] 25)).frozen? ⟨u.heap.size, 1, none⟩ = false := by simp only [frozen?_alloc_cells]; exact Rg.notFrozen (Nat.le_refl _)
            have lu1 : w.heap.size + 1 < u.heap.size := by omega
            generalize (u.alloc (Obj.cells #[Value.int .i64 0, Value.int .i64 0] 25)) = g at *
            have n0 : u.heap.size ≠ w.heap.size := by omega
            have n1 : u.heap.size ≠ w.heap.size + 1 := by omega
            have lq : u.heap.size < g.heap.size := World.block_lt_of_cell? _ _ q0
            have lr : w.heap.size + 1 < g.heap.size := World.block_lt_of_cell? _ _ r0
            go_wp2_with fail
            have hRX : Rg.RC (u.heap.size) g := Rg.RC.mk q0 q1 fq0 fq1
            have hRR : Rg.RC (w.heap.size + 1) g := Rg.RC.mk r0 r1 fr0 fr1
            have hRS := Rg.RC.store (x := T) (y := 1) hRX
            have hRF := Rg.RC.far (r := u.heap.size) (x := .int .i64 T) (y := .int .i64 1) n1 hRR
            have s0 : ((g.setCell ⟨u.heap.size, 0, none⟩ (.int .i64 T)).setCell ⟨u.heap.size, 1, none⟩ (.int .i64 1)).cell? ⟨w.heap.size + 1, 0, none⟩ = some (.int .i64 0) := Rg.far n1 r0
            have s1 : ((g.setCell ⟨u.heap.size, 0, none⟩ (.int .i64 T)).setCell ⟨u.heap.size, 1, none⟩ (.int .i64 1)).cell? ⟨w.heap.size + 1, 1, none⟩ = some (.int .i64 0) := Rg.far n1 r1
            have s2 : ((g.setCell ⟨u.heap.size, 0, none⟩ (.int .i64 T)).setCell ⟨u.heap.size, 1, none⟩ (.int .i64 1)).cell? ⟨u.heap.size, 0, none⟩ = some (.int .i64 T) := Rg.RC.read0 hRX
            have s3 : ((g.setCell ⟨u.heap.size, 0, none⟩ (.int .i64 T)).setCell ⟨u.heap.size, 1, none⟩ (.int .i64 1)).cell? ⟨u.heap.size, 1, none⟩ = some (.int .i64 1) := Rg.RC.read1 hRX
            have s4 := hRF.2.2.1
            have s5 := hRF.2.2.2
            have KS : Below w.heap.size w ((g.setCell ⟨u.heap.size, 0, none⟩ (.int .i64 T)).setCell ⟨u.heap.size, 1, none⟩ (.int .i64 1)) := Below.setCell (Below.setCell K9 (by dsimp only; omega) _) (by dsimp only; omega) _
            clear t0 t1 t2 t3 t4 r0 r1 x0 x1 fr0 fr1 fx0 fx1 K9 hRX hRR hRS hRF lq lr q0 q1 fq0 fq1
            generalize ((g.setCell ⟨u.heap.size, 0, none⟩ (.int .i64 T)).setCell ⟨u.heap.size, 1, none⟩ (.int .i64 1)) = sw at *
            refine (VA.out _).mono ?_
            rintro e w6 ⟨rfl, hb6⟩
            have l1 : w.heap.size + 1 < sw.heap.size := World.block_lt_of_cell? _ _ s0
            have l2 : u.heap.size < sw.heap.size := World.block_lt_of_cell? _ _ s2
            have s4 := Rg.keepF hb6 l1 s4
            have s5 := Rg.keepF hb6 l1 s5
            have s0 := Rg.keep hb6 l1 s0
            have s1 := Rg.keep hb6 l1 s1
            have s2 := Rg.keep hb6 l2 s2
            have s3 := Rg.keep hb6 l2 s3
            have l1 := Nat.lt_of_lt_of_le l1 hb6.size
            have l2 := Nat.lt_of_lt_of_le l2 hb6.size
            have K6 := KS.trans (hb6.mono KS.size)
            clear hb6 KS
            go_wp2
            first | (refine bodyPost_ret (v := Frac3 0 0 3) (by simp [results, Tryz.results19, go_sem, s0, s1, s2, s3, s4, s5, l1, l2]) rfl ⟨rfl, ?_⟩; (repeat' (first | (with_reducible exact Below.refl _ _) | (with_reducible exact K6) | (with_reducible exact K6.size) | (with_reducible refine Below.alloc ?_ ?_ _) | (with_reducible refine Below.setCell ?_ ?_ _) | (with_reducible refine below_drewN ?_ _) | (simp; done) | omega | (simp; omega)))) | (refine bodyPost_ret (v := Frac3 T 1 0) (by simp [results, Tryz.results19, go_sem, s0, s1, s2, s3, s4, s5, l1, l2]) rfl ⟨rfl, ?_⟩; (repeat' (first | (with_reducible exact Below.refl _ _) | (with_reducible exact K6) | (with_reducible exact K6.size) | (with_reducible refine Below.alloc ?_ ?_ _) | (with_reducible refine Below.setCell ?_ ?_ _) | (with_reducible refine below_drewN ?_ _) | (simp; done) | omega | (simp; omega))))
          · rw [if_pos (by kernel_rfl)]
            go_simp
            have hNew := HS.out _ _ hHeld ((Below.refl _ _).alloc (Nat.le_refl _) (Obj.cells #[Value.int .i64 0, Value.int .i64 0] 25))
            refine hK.out _ _ hNew (fun _ => ?_)
            replace hHeld := hNew
            clear hNew
            clear hK KK
            refine Rk.one (i := 3) (by kernel_rfl) rfl (fun KK hK => ?_)
            rw [if_pos (by kernel_rfl)]
            go_simp
            ((with_reducible refine (SP.out _).mono ?_); rintro e u ⟨rfl, hb⟩)
            have hNew := HS.out _ _ hHeld hb
            have q0 : u.cell? ⟨z.heap.size, 0, none⟩ = some (.int .i64 0) := Rg.keep hb (by simp) (by go_cell)
            have q1 : u.cell? ⟨z.heap.size, 1, none⟩ = some (.int .i64 0) := Rg.keep hb (by simp) (by go_cell)
            have fq0 : u.frozen? ⟨z.heap.size, 0, none⟩ = false := Rg.keepF hb (by simp) (by show (z.drew.alloc (Obj.cells #[Value.int .i64 0, Value.int .i64 0] 25)).frozen? ⟨z.drew.heap.size, 0, none⟩ = false; simp only [frozen?_alloc_cells]; exact Rg.notFrozen (Nat.le_refl _))
            have fq1 : u.frozen? ⟨z.heap.size, 1, none⟩ = false := Rg.keepF hb (by simp) (by show (z.drew.alloc (Obj.cells #[Value.int .i64 0, Value.int .i64 0] 25)).frozen? ⟨z.drew.heap.size, 1, none⟩ = false; simp only [frozen?_alloc_cells]; exact Rg.notFrozen (Nat.le_refl _))
            first | (refine hK.out _ _ (fun _ => hNew) (fun _ => ?_)) | (refine hK.out _ _ hNew (fun _ => ?_)) | (go_wp2_with fail; refine hK.out _ _ hNew (fun _ => ?_))
            replace hHeld := hNew
            clear hNew hb
            clear hK KK
            refine Rk.takeP (i := 6) (v := ?_) rfl (by kernel_rfl) (by kernel_rfl) (by kernel_rfl) (by kernel_rfl) (fun _ _ _ h => h) (Or.inl ⟨by kernel_rfl, ?_⟩) (by assumption) ?_
            rotate_left
            · ((intro w hSw; go_simp) <;> with_reducible rfl)
            try simp only [Act.put, List.setIfInBounds_toArray, List.set_cons_zero, List.set_cons_succ]
            refine Rk.takeP (i := 7) (v := ?_) rfl (by kernel_rfl) (by kernel_rfl) (by kernel_rfl) (by kernel_rfl) (fun _ _ _ h => h) (Or.inl ⟨by kernel_rfl, ?_⟩) (by assumption) ?_
            rotate_left
            · ((intro w hSw; go_simp) <;> with_reducible rfl)
            try simp only [Act.put, List.setIfInBounds_toArray, List.set_cons_zero, List.set_cons_succ]
            refine Rk.takeP (i := 8) (v := ?_) rfl (by kernel_rfl) (by kernel_rfl) (by kernel_rfl) (by kernel_rfl) (fun _ _ _ h => h) (Or.inl ⟨by kernel_rfl, ?_⟩) (by assumption) ?_
            rotate_left
            · ((intro w hSw; go_simp) <;> with_reducible rfl)
            try simp only [Act.put, List.setIfInBounds_toArray, List.set_cons_zero, List.set_cons_succ]
            refine Rk.tail [10] [_] (by kernel_rfl) (by kernel_rfl) rfl (by decide) ?_
            obtain ⟨t0, t1, t2, t3, t4, r0, r1, x0, x1, fr0, fr1, fx0, fx1, K9⟩ := hHeld
            have lu : w2.heap.size < z.heap.size := World.block_lt_of_cell? _ _ zx0
            have lu1 : w.heap.size + 1 < z.heap.size := by omega
            have n0 : z.heap.size ≠ w.heap.size := by omega
            have n1 : z.heap.size ≠ w.heap.size + 1 := by omega
            have lq : z.heap.size < u.heap.size := World.block_lt_of_cell? _ _ q0
            have lr : w.heap.size + 1 < u.heap.size := World.block_lt_of_cell? _ _ r0
            go_wp2_with fail
            have hRX : Rg.RC (z.heap.size) u := Rg.RC.mk q0 q1 fq0 fq1
            have hRR : Rg.RC (w.heap.size + 1) u := Rg.RC.mk r0 r1 fr0 fr1
            have hRS := Rg.RC.store (x := T) (y := 1) hRX
            have hRF := Rg.RC.far (r := z.heap.size) (x := .int .i64 T) (y := .int .i64 1) n1 hRR
            have s0 : ((u.setCell ⟨z.heap.size, 0, none⟩ (.int .i64 T)).setCell ⟨z.heap.size, 1, none⟩ (.int .i64 1)).cell? ⟨w.heap.size + 1, 0, none⟩ = some (.int .i64 0) := Rg.far n1 r0
            have s1 : ((u.setCell ⟨z.heap.size, 0, none⟩ (.int .i64 T)).setCell ⟨z.heap.size, 1, none⟩ (.int .i64 1)).cell? ⟨w.heap.size + 1, 1, none⟩ = some (.int .i64 0) := Rg.far n1 r1
            have s2 : ((u.setCell ⟨z.heap.size, 0, none⟩ (.int .i64 T)).setCell ⟨z.heap.size, 1, none⟩ (.int .i64 1)).cell? ⟨z.heap.size, 0, none⟩ = some (.int .i64 T) := Rg.RC.read0 hRX
            have s3 : ((u.setCell ⟨z.heap.size, 0, none⟩ (.int .i64 T)).setCell ⟨z.heap.size, 1, none⟩ (.int .i64 1)).cell? ⟨z.heap.size, 1, none⟩ = some (.int .i64 1) := Rg.RC.read1 hRX
            have s4 := hRF.2.2.1
            have s5 := hRF.2.2.2
            have KS : Below w.heap.size w ((u.setCell ⟨z.heap.size, 0, none⟩ (.int .i64 T)).setCell ⟨z.heap.size, 1, none⟩ (.int .i64 1)) := Below.setCell (Below.setCell K9 (by dsimp only; omega) _) (by dsimp only; omega) _
            clear t0 t1 t2 t3 t4 r0 r1 x0 x1 fr0 fr1 fx0 fx1 K9 hRX hRR hRS hRF lq lr q0 q1 fq0 fq1
            generalize ((u.setCell ⟨z.heap.size, 0, none⟩ (.int .i64 T)).setCell ⟨z.heap.size, 1, none⟩ (.int .i64 1)) = sw at *
            refine (VA.out _).mono ?_
            rintro e w6 ⟨rfl, hb6⟩
            have l1 : w.heap.size + 1 < sw.heap.size := World.block_lt_of_cell? _ _ s0
            have l2 : z.heap.size < sw.heap.size := World.block_lt_of_cell? _ _ s2
            have s4 := Rg.keepF hb6 l1 s4
            have s5 := Rg.keepF hb6 l1 s5
            have s0 := Rg.keep hb6 l1 s0
            have s1 := Rg.keep hb6 l1 s1
            have s2 := Rg.keep hb6 l2 s2
            have s3 := Rg.keep hb6 l2 s3
            have l1 := Nat.lt_of_lt_of_le l1 hb6.size
            have l2 := Nat.lt_of_lt_of_le l2 hb6.size
            have K6 := KS.trans (hb6.mono KS.size)
            clear hb6 KS
            go_wp2
            first | (refine bodyPost_ret (v := Frac3 0 0 3) (by simp [results, Tryz.results19, go_sem, s0, s1, s2, s3, s4, s5, l1, l2]) rfl ⟨rfl, ?_⟩; (repeat' (first | (with_reducible exact Below.refl _ _) | (with_reducible exact K6) | (with_reducible exact K6.size) | (with_reducible refine Below.alloc ?_ ?_ _) | (with_reducible refine Below.setCell ?_ ?_ _) | (with_reducible refine below_drewN ?_ _) | (simp; done) | omega | (simp; omega)))) | (refine bodyPost_ret (v := Frac3 T 1 0) (by simp [results, Tryz.results19, go_sem, s0, s1, s2, s3, s4, s5, l1, l2]) rfl ⟨rfl, ?_⟩; (repeat' (first | (with_reducible exact Below.refl _ _) | (with_reducible exact K6) | (with_reducible exact K6.size) | (with_reducible refine Below.alloc ?_ ?_ _) | (with_reducible refine Below.setCell ?_ ?_ _) | (with_reducible refine below_drewN ?_ _) | (simp; done) | omega | (simp; omega))))

      · rw [if_pos hm0] at HV
        rw [HV.out _ rfl]
        have gm : (m != 0) = true := by simpa using hm0
        clear h hr hok herr HV k3 k2 htv q2 q3 hm0 VA HK HT
        go_enter Tryz.func19, Tryz.ntmps19
        go_wp2_with (first | (go_at_call 29; (with_reducible refine (VT.out _).mono ?_); rintro e w1 ⟨rfl, hb1⟩; have hc1 := (bcell hb1).1; have hf1 := (bcell hb1).2; have z1_0 : w.heap.size < w1.heap.size := (by have hzz := hb1.size; (try simp at hzz); omega); have z1_1 : w.heap.size + 1 < w1.heap.size := (by have hzz := hb1.size; (try simp at hzz); omega); have K1 : Below w.heap.size w w1 := Below.trans (b := _) (by (repeat' (first | (with_reducible exact Below.refl _ _) | (with_reducible refine Below.alloc ?_ ?_ _) | (with_reducible refine Below.setCell ?_ ?_ _) | (with_reducible refine below_drewN ?_ _) | (simp; done) | omega | (simp; omega)))) (hb1.mono (by have hzz := hb1.size; (try simp at hzz); first | omega | (simp; done) | (simp; omega)))) | (go_at_call 50; (with_reducible refine (CP.out _).mono ?_); rintro e w2 ⟨rfl, hb2⟩; have hc2 := (bcell hb2).1; have hf2 := (bcell hb2).2; have z2_0 : w.heap.size < w2.heap.size := (by have hzz := hb2.size; (try simp at hzz); omega); have z2_1 : w.heap.size + 1 < w2.heap.size := (by have hzz := hb2.size; (try simp at hzz); omega); have K2 : Below w.heap.size w w2 := Below.trans (b := _) (by (repeat' (first | (with_reducible exact Below.refl _ _) | (with_reducible exact K1) | (with_reducible exact K1.size) | (with_reducible refine Below.alloc ?_ ?_ _) | (with_reducible refine Below.setCell ?_ ?_ _) | (with_reducible refine below_drewN ?_ _) | (simp; done) | omega | (simp; omega)))) (hb2.mono (by have hzz := hb2.size; (try simp at hzz); first | omega | (simp; done) | (simp; omega)))))
        have hbz : Below w2.heap.size w2 (w2.alloc (.cells #[.int .i64 x, .int .i64 y] 25)) := (Below.refl _ _).alloc (Nat.le_refl _) _
        have hz : (w2.alloc (.cells #[.int .i64 x, .int .i64 y] 25)).cell? ⟨w.heap.size, 0, none⟩ = some (.int .i64 K) ∧ (w2.alloc (.cells #[.int .i64 x, .int .i64 y] 25)).cell? ⟨w.heap.size, 1, none⟩ = some (.int .i64 B) ∧ (w2.alloc (.cells #[.int .i64 x, .int .i64 y] 25)).cell? ⟨w.heap.size, 2, none⟩ = some (.int .i64 F) ∧ (w2.alloc (.cells #[.int .i64 x, .int .i64 y] 25)).cell? ⟨w.heap.size, 3, none⟩ = some (.int .i64 R) ∧ (w2.alloc (.cells #[.int .i64 x, .int .i64 y] 25)).cell? ⟨w.heap.size, 4, none⟩ = some (.int .i64 O) ∧ (w2.alloc (.cells #[.int .i64 x, .int .i64 y] 25)).cell? ⟨w.heap.size + 1, 0, none⟩ = some (.int .i64 0) ∧ (w2.alloc (.cells #[.int .i64 x, .int .i64 y] 25)).cell? ⟨w.heap.size + 1, 1, none⟩ = some (.int .i64 0) ∧ (w2.alloc (.cells #[.int .i64 x, .int .i64 y] 25)).cell? ⟨w2.heap.size, 0, none⟩ = some (.int .i64 x) ∧ (w2.alloc (.cells #[.int .i64 x, .int .i64 y] 25)).cell? ⟨w2.heap.size, 1, none⟩ = some (.int .i64 y) ∧ (w2.alloc (.cells #[.int .i64 x, .int .i64 y] 25)).frozen? ⟨w.heap.size + 1, 0, none⟩ = false ∧ (w2.alloc (.cells #[.int .i64 x, .int .i64 y] 25)).frozen? ⟨w.heap.size + 1, 1, none⟩ = false ∧ (w2.alloc (.cells #[.int .i64 x, .int .i64 y] 25)).frozen? ⟨w2.heap.size, 0, none⟩ = false ∧ (w2.alloc (.cells #[.int .i64 x, .int .i64 y] 25)).frozen? ⟨w2.heap.size, 1, none⟩ = false ∧ Below w.heap.size w (w2.alloc (.cells #[.int .i64 x, .int .i64 y] 25)) := ⟨Rg.keep hbz z2_0 (Rg.keep hb2 z1_0 (Rg.keep hb1 (by simp <;> omega) (by go_cell))), Rg.keep hbz z2_0 (Rg.keep hb2 z1_0 (Rg.keep hb1 (by simp <;> omega) (by go_cell))), Rg.keep hbz z2_0 (Rg.keep hb2 z1_0 (Rg.keep hb1 (by simp <;> omega) (by go_cell))), Rg.keep hbz z2_0 (Rg.keep hb2 z1_0 (Rg.keep hb1 (by simp <;> omega) (by go_cell))), Rg.keep hbz z2_0 (Rg.keep hb2 z1_0 (Rg.keep hb1 (by simp <;> omega) (by go_cell))), Rg.keep hbz z2_1 (Rg.keep hb2 z1_1 (Rg.keep hb1 (by simp <;> omega) (by go_cell))), Rg.keep hbz z2_1 (Rg.keep hb2 z1_1 (Rg.keep hb1 (by simp <;> omega) (by go_cell))), (by go_cell), (by go_cell), Rg.keepF hbz z2_1 (Rg.keepF hb2 z1_1 (Rg.keepF hb1 (by simp <;> omega) (by simp only [frozen?_alloc_cells]; exact Rg.notFrozen (by omega)))), Rg.keepF hbz z2_1 (Rg.keepF hb2 z1_1 (Rg.keepF hb1 (by simp <;> omega) (by simp only [frozen?_alloc_cells]; exact Rg.notFrozen (by omega)))), by simp only [frozen?_alloc_cells]; exact Rg.notFrozen (Nat.le_refl _), by simp only [frozen?_alloc_cells]; exact Rg.notFrozen (Nat.le_refl _), K2.trans (hbz.mono (Nat.le_of_lt z2_0))⟩
        generalize (w2.alloc (.cells #[.int .i64 x, .int .i64 y] 25)) = z at *
        have HS : Hid (∀ u u' : World, (u.cell? ⟨w.heap.size, 0, none⟩ = some (.int .i64 K) ∧ u.cell? ⟨w.heap.size, 1, none⟩ = some (.int .i64 B) ∧ u.cell? ⟨w.heap.size, 2, none⟩ = some (.int .i64 F) ∧ u.cell? ⟨w.heap.size, 3, none⟩ = some (.int .i64 R) ∧ u.cell? ⟨w.heap.size, 4, none⟩ = some (.int .i64 O) ∧ u.cell? ⟨w.heap.size + 1, 0, none⟩ = some (.int .i64 0) ∧ u.cell? ⟨w.heap.size + 1, 1, none⟩ = some (.int .i64 0) ∧ u.cell? ⟨w2.heap.size, 0, none⟩ = some (.int .i64 x) ∧ u.cell? ⟨w2.heap.size, 1, none⟩ = some (.int .i64 y) ∧ u.frozen? ⟨w.heap.size + 1, 0, none⟩ = false ∧ u.frozen? ⟨w.heap.size + 1, 1, none⟩ = false ∧ u.frozen? ⟨w2.heap.size, 0, none⟩ = false ∧ u.frozen? ⟨w2.heap.size, 1, none⟩ = false ∧ Below w.heap.size w u) → Below u.heap.size u u' → (u'.cell? ⟨w.heap.size, 0, none⟩ = some (.int .i64 K) ∧ u'.cell? ⟨w.heap.size, 1, none⟩ = some (.int .i64 B) ∧ u'.cell? ⟨w.heap.size, 2, none⟩ = some (.int .i64 F) ∧ u'.cell? ⟨w.heap.size, 3, none⟩ = some (.int .i64 R) ∧ u'.cell? ⟨w.heap.size, 4, none⟩ = some (.int .i64 O) ∧ u'.cell? ⟨w.heap.size + 1, 0, none⟩ = some (.int .i64 0) ∧ u'.cell? ⟨w.heap.size + 1, 1, none⟩ = some (.int .i64 0) ∧ u'.cell? ⟨w2.heap.size, 0, none⟩ = some (.int .i64 x) ∧ u'.cell? ⟨w2.heap.size, 1, none⟩ = some (.int .i64 y) ∧ u'.frozen? ⟨w.heap.size + 1, 0, none⟩ = false ∧ u'.frozen? ⟨w.heap.size + 1, 1, none⟩ = false ∧ u'.frozen? ⟨w2.heap.size, 0, none⟩ = false ∧ u'.frozen? ⟨w2.heap.size, 1, none⟩ = false ∧ Below w.heap.size w u')) := Lib.hid (fun u u' h hb => ⟨Rg.keep hb (World.block_lt_of_cell? _ _ h.1) h.1, Rg.keep hb (World.block_lt_of_cell? _ _ h.2.1) h.2.1, Rg.keep hb (World.block_lt_of_cell? _ _ h.2.2.1) h.2.2.1, Rg.keep hb (World.block_lt_of_cell? _ _ h.2.2.2.1) h.2.2.2.1, Rg.keep hb (World.block_lt_of_cell? _ _ h.2.2.2.2.1) h.2.2.2.2.1, Rg.keep hb (World.block_lt_of_cell? _ _ h.2.2.2.2.2.1) h.2.2.2.2.2.1, Rg.keep hb (World.block_lt_of_cell? _ _ h.2.2.2.2.2.2.1) h.2.2.2.2.2.2.1, Rg.keep hb (World.block_lt_of_cell? _ _ h.2.2.2.2.2.2.2.1) h.2.2.2.2.2.2.2.1, Rg.keep hb (World.block_lt_of_cell? _ _ h.2.2.2.2.2.2.2.2.1) h.2.2.2.2.2.2.2.2.1, Rg.keepF hb (World.block_lt_of_cell? _ _ h.2.2.2.2.2.1) h.2.2.2.2.2.2.2.2.2.1, Rg.keepF hb (World.block_lt_of_cell? _ _ h.2.2.2.2.2.1) h.2.2.2.2.2.2.2.2.2.2.1, Rg.keepF hb (World.block_lt_of_cell? _ _ h.2.2.2.2.2.2.2.1) h.2.2.2.2.2.2.2.2.2.2.2.1, Rg.keepF hb (World.block_lt_of_cell? _ _ h.2.2.2.2.2.2.2.1) h.2.2.2.2.2.2.2.2.2.2.2.2.1, h.2.2.2.2.2.2.2.2.2.2.2.2.2.trans (hb.mono h.2.2.2.2.2.2.2.2.2.2.2.2.2.size)⟩)
        have hy0 : ¬ y = 0 := by omega
        have hm := hmm.out
        refine Rk.begin (S := fun wS => wS.cell? ⟨w.heap.size, 0, none⟩ = some (.int .i64 K) ∧ wS.cell? ⟨w.heap.size, 1, none⟩ = some (.int .i64 B) ∧ wS.cell? ⟨w.heap.size, 2, none⟩ = some (.int .i64 F) ∧ wS.cell? ⟨w.heap.size, 3, none⟩ = some (.int .i64 R) ∧ wS.cell? ⟨w.heap.size, 4, none⟩ = some (.int .i64 O) ∧ wS.cell? ⟨w.heap.size + 1, 0, none⟩ = some (.int .i64 0) ∧ wS.cell? ⟨w.heap.size + 1, 1, none⟩ = some (.int .i64 0) ∧ wS.cell? ⟨w2.heap.size, 0, none⟩ = some (.int .i64 x) ∧ wS.cell? ⟨w2.heap.size, 1, none⟩ = some (.int .i64 y) ∧ wS.frozen? ⟨w.heap.size + 1, 0, none⟩ = false ∧ wS.frozen? ⟨w.heap.size + 1, 1, none⟩ = false ∧ wS.frozen? ⟨w2.heap.size, 0, none⟩ = false ∧ wS.frozen? ⟨w2.heap.size, 1, none⟩ = false ∧ Below w.heap.size w wS) 5 (by kernel_rfl) (HS.out _ _ hz (Below.drew (Below.refl _ _))) (fun hHeld => ?_)
        refine Rk.take [1, 4, 5] (i := 0) (v := ?_) rfl (by kernel_rfl) (by kernel_rfl) (by kernel_rfl) (by kernel_rfl) (by kernel_rfl) (fun _ _ _ h => h) (Or.inl ⟨by kernel_rfl, ?_⟩) (by assumption) ?_
        rotate_left
        · ((intro w hSw; (try dsimp only at hSw); go_simp) <;> with_reducible rfl)
        try simp only [Act.put, List.setIfInBounds_toArray, List.set_cons_zero, List.set_cons_succ]
        refine Rk.takeP (i := 2) (v := ?_) rfl (by kernel_rfl) (by kernel_rfl) (by kernel_rfl) (by kernel_rfl) (fun _ _ _ h => h) (Or.inl ⟨by kernel_rfl, ?_⟩) (by assumption) ?_
        rotate_left
        · ((intro w hSw; go_simp) <;> with_reducible rfl)
        try simp only [Act.put, List.setIfInBounds_toArray, List.set_cons_zero, List.set_cons_succ]
        refine Rk.take [4, 5] (i := 3) (v := ?_) rfl (by kernel_rfl) (by kernel_rfl) (by kernel_rfl) (by kernel_rfl) (by kernel_rfl) (fun _ _ _ h => h) (Or.inl ⟨by kernel_rfl, ?_⟩) (by assumption) ?_
        rotate_left
        · ((intro w hSw; (try dsimp only at hSw); go_simp) <;> with_reducible rfl)
        try simp only [Act.put, List.setIfInBounds_toArray, List.set_cons_zero, List.set_cons_succ]
        refine Rk.one (i := 1) (by kernel_rfl) rfl (fun KK hK => ?_)
        rw [if_pos (by kernel_rfl)]
        go_simp
        ((with_reducible refine (SP.out _).mono ?_); rintro e u ⟨rfl, hb⟩)
        first | (refine hK.out _ _ (fun _ => HS.out _ _ hHeld hb) (fun hHeld => ?_)) | (refine hK.out _ _ (HS.out _ _ hHeld hb) (fun hHeld => ?_)) | (go_wp2_with fail; refine hK.out _ _ (HS.out _ _ hHeld hb) (fun hHeld => ?_))
        clear hK KK
        refine Rk.takeP (i := 4) (v := ?_) rfl (by kernel_rfl) (by kernel_rfl) (by kernel_rfl) (by kernel_rfl) (fun _ _ _ h => h) (Or.inl ⟨by kernel_rfl, ?_⟩) (by assumption) ?_
        rotate_left
        · ((intro w hSw; go_simp) <;> with_reducible rfl)
        try simp only [Act.put, List.setIfInBounds_toArray, List.set_cons_zero, List.set_cons_succ]
        refine Rk.tail [5] [_] (by kernel_rfl) (by kernel_rfl) rfl (by decide) ?_
        obtain ⟨t0, t1, t2, t3, t4, r0, r1, x0, x1, fr0, fr1, fx0, fx1, K9⟩ := hHeld
        clear hz HS hm
        have hm2 := HM.out
        have l1 : w.heap.size + 1 < u.heap.size := World.block_lt_of_cell? _ _ r0
        have l2 : w2.heap.size < u.heap.size := World.block_lt_of_cell? _ _ x0
        go_wp2
        refine bodyPost_ret (v := Frac3 0 0 5) (by simp [results, Tryz.results19, go_sem, r0, r1, fr0, fr1, x0, x1, fx0, fx1, l1, l2]) rfl ⟨rfl, ?_⟩; (repeat' (first | (with_reducible exact Below.refl _ _) | (with_reducible exact K9) | (with_reducible exact K9.size) | (with_reducible refine Below.alloc ?_ ?_ _) | (with_reducible refine Below.setCell ?_ ?_ _) | (with_reducible refine below_drewN ?_ _) | (simp; done) | omega | (simp; omega)))
    · rw [if_neg k2] at HV
      rw [HV.out _ rfl]
      have k1 : K = 1 := by
        rcases ty_cases K B F R O with ⟨_, h | h⟩ | ⟨h', _⟩
        · omega
        · omega
        · rw [h'] at h; cases h
      have g1 : (K == 1) = true := by simpa using k1
      clear h hr hok herr HV k3 k2 k1 y0 y1 x0 x1
      go_enter Tryz.func19, Tryz.ntmps19
      go_wp2_with (first | (go_at_call 29; (with_reducible refine (VT.out _).mono ?_); rintro e w1 ⟨rfl, hb1⟩; have hc1 := (bcell hb1).1; have hf1 := (bcell hb1).2; have z1_0 : w.heap.size < w1.heap.size := (by have hzz := hb1.size; (try simp at hzz); omega); have z1_1 : w.heap.size + 1 < w1.heap.size := (by have hzz := hb1.size; (try simp at hzz); omega); have K1 : Below w.heap.size w w1 := Below.trans (b := _) (by (repeat' (first | (with_reducible exact Below.refl _ _) | (with_reducible refine Below.alloc ?_ ?_ _) | (with_reducible refine Below.setCell ?_ ?_ _) | (with_reducible refine below_drewN ?_ _) | (simp; done) | omega | (simp; omega)))) (hb1.mono (by have hzz := hb1.size; (try simp at hzz); first | omega | (simp; done) | (simp; omega)))) | (go_at_call 50; (with_reducible refine (CP.out _).mono ?_); rintro e w2 ⟨rfl, hb2⟩; have hc2 := (bcell hb2).1; have hf2 := (bcell hb2).2; have z2_0 : w.heap.size < w2.heap.size := (by have hzz := hb2.size; (try simp at hzz); omega); have z2_1 : w.heap.size + 1 < w2.heap.size := (by have hzz := hb2.size; (try simp at hzz); omega); have K2 : Below w.heap.size w w2 := Below.trans (b := _) (by (repeat' (first | (with_reducible exact Below.refl _ _) | (with_reducible exact K1) | (with_reducible exact K1.size) | (with_reducible refine Below.alloc ?_ ?_ _) | (with_reducible refine Below.setCell ?_ ?_ _) | (with_reducible refine below_drewN ?_ _) | (simp; done) | omega | (simp; omega)))) (hb2.mono (by have hzz := hb2.size; (try simp at hzz); first | omega | (simp; done) | (simp; omega)))))
      refine bodyPost_ret (v := Frac3 x y 0) (by simp [results, Tryz.results19, go_sem, hc1, hf1, hc2, hf2, z1_0, Nat.lt_succ_of_lt z1_0, Nat.ne_of_lt z1_0, Nat.ne_of_gt z1_0, z1_1, Nat.lt_succ_of_lt z1_1, Nat.ne_of_lt z1_1, Nat.ne_of_gt z1_1, z2_0, Nat.lt_succ_of_lt z2_0, Nat.ne_of_lt z2_0, Nat.ne_of_gt z2_0, z2_1, Nat.lt_succ_of_lt z2_1, Nat.ne_of_lt z2_1, Nat.ne_of_gt z2_1, Nat.lt_succ_of_lt z2_0, Nat.lt_succ_of_lt z2_1]) rfl ⟨rfl, ?_⟩; (repeat' (first | (with_reducible exact Below.refl _ _) | (with_reducible exact K1) | (with_reducible exact K1.size) | (with_reducible exact K2) | (with_reducible exact K2.size) | (with_reducible refine Below.alloc ?_ ?_ _) | (with_reducible refine Below.setCell ?_ ?_ _) | (with_reducible refine below_drewN ?_ _) | (simp; done) | omega | (simp; omega)))
  · rw [if_pos he] at HV
    have hxy := herr he
    simp only [Prod.mk.injEq, and_true] at hxy
    obtain ⟨rfl, rfl⟩ := hxy
    rw [HV.out _ rfl]
    have ge : (e != 0) = true := by simpa using he
    clear h hr hok herr HV he
    go_enter Tryz.func19, Tryz.ntmps19
    go_wp2_with (first | (go_at_call 29; (with_reducible refine (VT.out _).mono ?_); rintro e w1 ⟨rfl, hb1⟩; have hc1 := (bcell hb1).1; have hf1 := (bcell hb1).2; have z1_0 : w.heap.size < w1.heap.size := (by have hzz := hb1.size; (try simp at hzz); omega); have z1_1 : w.heap.size + 1 < w1.heap.size := (by have hzz := hb1.size; (try simp at hzz); omega); have K1 : Below w.heap.size w w1 := Below.trans (b := _) (by (repeat' (first | (with_reducible exact Below.refl _ _) | (with_reducible refine Below.alloc ?_ ?_ _) | (with_reducible refine Below.setCell ?_ ?_ _) | (with_reducible refine below_drewN ?_ _) | (simp; done) | omega | (simp; omega)))) (hb1.mono (by have hzz := hb1.size; (try simp at hzz); first | omega | (simp; done) | (simp; omega)))) | (go_at_call 50; (with_reducible refine (CP.out _).mono ?_); rintro e w2 ⟨rfl, hb2⟩; have hc2 := (bcell hb2).1; have hf2 := (bcell hb2).2; have z2_0 : w.heap.size < w2.heap.size := (by have hzz := hb2.size; (try simp at hzz); omega); have z2_1 : w.heap.size + 1 < w2.heap.size := (by have hzz := hb2.size; (try simp at hzz); omega); have K2 : Below w.heap.size w w2 := Below.trans (b := _) (by (repeat' (first | (with_reducible exact Below.refl _ _) | (with_reducible exact K1) | (with_reducible exact K1.size) | (with_reducible refine Below.alloc ?_ ?_ _) | (with_reducible refine Below.setCell ?_ ?_ _) | (with_reducible refine below_drewN ?_ _) | (simp; done) | omega | (simp; omega)))) (hb2.mono (by have hzz := hb2.size; (try simp at hzz); first | omega | (simp; done) | (simp; omega)))))
    refine bodyPost_ret (v := Frac3 0 0 e) (by simp [results, Tryz.results19, go_sem, hc1, hf1, hc2, hf2, z1_0, Nat.lt_succ_of_lt z1_0, Nat.ne_of_lt z1_0, Nat.ne_of_gt z1_0, z1_1, Nat.lt_succ_of_lt z1_1, Nat.ne_of_lt z1_1, Nat.ne_of_gt z1_1, z2_0, Nat.lt_succ_of_lt z2_0, Nat.ne_of_lt z2_0, Nat.ne_of_gt z2_0, z2_1, Nat.lt_succ_of_lt z2_1, Nat.ne_of_lt z2_1, Nat.ne_of_gt z2_1, Nat.lt_succ_of_lt z2_0, Nat.lt_succ_of_lt z2_1]) rfl ⟨rfl, ?_⟩; (repeat' (first | (with_reducible exact Below.refl _ _) | (with_reducible exact K1) | (with_reducible exact K1.size) | (with_reducible exact K2) | (with_reducible exact K2.size) | (with_reducible refine Below.alloc ?_ ?_ _) | (with_reducible refine Below.setCell ?_ ?_ _) | (with_reducible refine below_drewN ?_ _) | (simp; done) | omega | (simp; omega)))
end Go.Proofs.YtikcinkbkakkmaaGreatDoor.Va
