/- The law on results. -/
import Derived.Test.YtikcinkbkakkmaaGreatDoorV34a
import Derived.Test.YtikcinkbkakkmaaGreatDoorV34b
import Derived.Test.YtikcinkbkakkmaaGreatDoorV34c
import Derived.Test.YtikcinkbkakkmaaGreatDoorV34d
import Derived.Test.YtikcinkbkakkmaaGreatDoorV9

namespace Go.Proofs.YtikcinkbkakkmaaGreatDoor.Va
open Go.ChangeShapes Go.WideShapes Go.ChangeAt Go.RowKit
open Fr Fx
set_option maxRecDepth 8000
set_option linter.unusedVariables false
set_option linter.unusedSimpArgs false

set_option maxRecDepth 100000 in
theorem rv_long (op K B F R O K' B' F' R' O' n1 d1 n2 d2 : Int) (s : ByteArray) (w : World) (g1 : decide ((100 : Int) < s.size) = true) (EX : Hid (∀ w, Calls Tryz.prog 11 #[] w (Ret (.bool true) w))) : Calls Tryz.prog 6 #[.int .i64 op, .agg #[.int .i64 K, .int .i64 B, .int .i64 F, .int .i64 R, .int .i64 O, .int .i64 K', .int .i64 B', .int .i64 F', .int .i64 R', .int .i64 O'], .agg #[.int .i64 n1, .int .i64 d1, .int .i64 n2, .int .i64 d2], .string s] w (Ret (.bool true) w) := by
  go_enter Tryz.func6, Tryz.ntmps6
  go_wp2_with fail
  refine (EX.out _).mono ?_
  rintro e w1 ⟨rfl, hb⟩
  have L : Below w.heap.size w w1 := (((Below.refl _ _).alloc (by simp <;> omega) _).alloc (by simp <;> omega) _).trans (hb.mono (by simp <;> omega))
  have K1 : Below w.heap.size w w1 := L
  have lp : w.heap.size < w1.heap.size := Nat.lt_of_lt_of_le (by simp <;> omega) hb.size
  have p0 : w1.cell? ⟨w.heap.size, 0, none⟩ = some (.int .i64 K) := Rg.keep hb (by simp <;> omega) (by go_cell)
  have p1 : w1.cell? ⟨w.heap.size, 1, none⟩ = some (.int .i64 B) := Rg.keep hb (by simp <;> omega) (by go_cell)
  have p2 : w1.cell? ⟨w.heap.size, 2, none⟩ = some (.int .i64 F) := Rg.keep hb (by simp <;> omega) (by go_cell)
  have p3 : w1.cell? ⟨w.heap.size, 3, none⟩ = some (.int .i64 R) := Rg.keep hb (by simp <;> omega) (by go_cell)
  have p4 : w1.cell? ⟨w.heap.size, 4, none⟩ = some (.int .i64 O) := Rg.keep hb (by simp <;> omega) (by go_cell)
  have p5 : w1.cell? ⟨w.heap.size, 5, none⟩ = some (.int .i64 K') := Rg.keep hb (by simp <;> omega) (by go_cell)
  have p6 : w1.cell? ⟨w.heap.size, 6, none⟩ = some (.int .i64 B') := Rg.keep hb (by simp <;> omega) (by go_cell)
  have p7 : w1.cell? ⟨w.heap.size, 7, none⟩ = some (.int .i64 F') := Rg.keep hb (by simp <;> omega) (by go_cell)
  have p8 : w1.cell? ⟨w.heap.size, 8, none⟩ = some (.int .i64 R') := Rg.keep hb (by simp <;> omega) (by go_cell)
  have p9 : w1.cell? ⟨w.heap.size, 9, none⟩ = some (.int .i64 O') := Rg.keep hb (by simp <;> omega) (by go_cell)
  have lq : w.heap.size + 1 < w1.heap.size := Nat.lt_of_lt_of_le (by simp <;> omega) hb.size
  have q0 : w1.cell? ⟨w.heap.size + 1, 0, none⟩ = some (.int .i64 n1) := Rg.keep hb (by simp <;> omega) (by go_cell)
  have q1 : w1.cell? ⟨w.heap.size + 1, 1, none⟩ = some (.int .i64 d1) := Rg.keep hb (by simp <;> omega) (by go_cell)
  have q2 : w1.cell? ⟨w.heap.size + 1, 2, none⟩ = some (.int .i64 n2) := Rg.keep hb (by simp <;> omega) (by go_cell)
  have q3 : w1.cell? ⟨w.heap.size + 1, 3, none⟩ = some (.int .i64 d2) := Rg.keep hb (by simp <;> omega) (by go_cell)
  clear hb L
  go_wp2
  go_ret
  exact ⟨rfl, K1⟩
theorem vfm_len (K B F R O n d : Int) : (vfm K B F R O n d).length ≤ 23 := by
  unfold vfm
  split
  · simp
  · unfold Tx.fmv
    split
    · simp
    · rename_i hv
      have hv : vld (rat K F n d).1 (rat K F n d).2 = true := by simpa using hv
      obtain ⟨v0, v1, v2, v3, _⟩ := vld_parts hv
      have l1 := Tx.itoa_len v2 v3
      have l2 := Tx.itoa_len (n := (rat K F n d).2) (by omega) v1
      split
      · omega
      · rw [List.length_append, List.length_cons]; omega
theorem law_rv (op K B F R O K' B' F' R' O' n1 d1 n2 d2 : Int) (s : ByteArray) (w : World) (b0 : -9223372036854775808 ≤ B) (b1 : B ≤ 9223372036854775807) (b2 : -9223372036854775808 ≤ B') (b3 : B' ≤ 9223372036854775807) (hn2 : -9223372036854775808 ≤ n2 ∧ n2 ≤ 9223372036854775807) (hL : Tx.LA w) :
    Calls Tryz.prog 6 #[.int .i64 op, .agg #[.int .i64 K, .int .i64 B, .int .i64 F, .int .i64 R, .int .i64 O, .int .i64 K', .int .i64 B', .int .i64 F', .int .i64 R', .int .i64 O'], .agg #[.int .i64 n1, .int .i64 d1, .int .i64 n2, .int .i64 d2], .string s] w (Ret (.bool true) w) := by
  have EX := Lib.hid fun w => examples_true w
  by_cases h : 100 < s.size
  · exact rv_long op K B F R O K' B' F' R' O' n1 d1 n2 d2 s w (by simp; omega) EX
  have g1 : decide ((100 : Int) < s.size) = false := by simp; omega
  have C1 := fun w => c_ap op K B F R O n1 d1 n2 d2 w b0 b1 hn2
  have C2 := fun w => c_cast K B F R O K' B' F' R' O' n1 d1 w b0 b1 b2 b3
  have C3 := fun w h => c_vp K B F R O s w b0 b1 (by omega) h
  have m1 := @apv_valid op K B F R O n1 d1 n2 d2
  have m2 := @cav_valid K B F R O K' B' F' R' O' n1 d1
  have m3 := fun x y => @vpv_ok K B F R O x y s.data.toList
  generalize apv op K B F R O n1 d1 n2 d2 = r1 at *
  generalize cav K B F R O K' B' F' R' O' n1 d1 = r2 at *
  generalize vpv K B F R O s.data.toList = r3 at *
  obtain ⟨x, y, z⟩ := r1
  obtain ⟨x2, y2, z2⟩ := r2
  obtain ⟨x3, y3, z3⟩ := r3
  have hV := fun w => c_va K B F R O n1 d1 w b0 b1
  have HA : z = 0 → Hid (∀ w, Calls Tryz.prog 23 #[T5 K B F R O, V2 x y] w (Ret (.bool true) w)) := fun hz => Lib.hid fun w => by
    have h := c_va K B F R O x y w b0 b1
    rw [m1 (by rw [hz])] at h
    exact h
  have HB : z2 = 0 → Hid (∀ w, Calls Tryz.prog 23 #[T5 K' B' F' R' O', V2 x2 y2] w (Ret (.bool true) w)) := fun hz => Lib.hid fun w => by
    have h := c_va K' B' F' R' O' x2 y2 w b2 b3
    rw [m2 (by rw [hz])] at h
    exact h
  have HC : z3 = 0 → Hid (∀ w, Calls Tryz.prog 23 #[T5 K B F R O, V2 x3 y3] w (Ret (.bool true) w)) := fun hz => Lib.hid fun w => by
    have h := c_va K B F R O x3 y3 w b0 b1
    rw [(m3 x3 y3 (by rw [hz])).1] at h
    exact h
  have HF : z3 = 0 → Hid (∀ w, Tx.LA w → Calls Tryz.prog 20 #[T5 K B F R O, V2 x3 y3] w (Ret (.string s) w)) := fun hz => Lib.hid fun w hw => by
    have h := c_vfm K B F R O x3 y3 w b0 b1 hw
    rw [(m3 x3 y3 (by rw [hz])).2, Tx.mk_list] at h
    exact h
  cases hv : vv K B F R O n1 d1
  all_goals rw [hv] at hV
  case true =>
    have C4 : Hid (∀ w, Calls Tryz.prog 22 #[T5 K B F R O, T5 K B F R O, V2 n1 d1] w (Ret (Frac3 n1 d1 0) w)) := Lib.hid fun w => by
      have h := c_cast K B F R O K B F R O n1 d1 w b0 b1 b0 b1
      rw [cav_same hv] at h
      exact h
    have F4 := Lib.hid fun w h => c_vfm K B F R O n1 d1 w b0 b1 h
    have P4 : Hid (∀ w, Tx.LA w → Calls Tryz.prog 18 #[T5 K B F R O, .string ⟨(vfm K B F R O n1 d1).toArray⟩] w (Ret (Frac3 n1 d1 0) w)) := Lib.hid fun w hw => by
      have hl := vfm_len K B F R O n1 d1
      have h := c_vp K B F R O ⟨(vfm K B F R O n1 d1).toArray⟩ w b0 b1 (by rw [Tx.arr_size]; omega) hw
      rw [show (⟨(vfm K B F R O n1 d1).toArray⟩ : ByteArray).data.toList = vfm K B F R O n1 d1 from by simp, vpv_back hv] at h
      exact h
    by_cases h1 : z = 0
    · by_cases h2 : z2 = 0
      · by_cases h3 : z3 = 0
        · exact rv_tttt op K B F R O K' B' F' R' O' n1 d1 n2 d2 x y z x2 y2 z2 x3 y3 z3 s ⟨(vfm K B F R O n1 d1).toArray⟩ w g1 (Lib.hid hL) EX (Lib.hid C1) (Lib.hid C2) (Lib.hid C3) (by simpa using h1) (by simpa using h2) (by simpa using h3) (HA h1) (HB h2) (HC h3) (HF h3) (Lib.hid hV) C4 F4 P4
        · exact rv_ttft op K B F R O K' B' F' R' O' n1 d1 n2 d2 x y z x2 y2 z2 x3 y3 z3 s ⟨(vfm K B F R O n1 d1).toArray⟩ w g1 (Lib.hid hL) EX (Lib.hid C1) (Lib.hid C2) (Lib.hid C3) (by simpa using h1) (by simpa using h2) (by simpa using h3) (HA h1) (HB h2) (Lib.hid hV) C4 F4 P4
      · by_cases h3 : z3 = 0
        · exact rv_tftt op K B F R O K' B' F' R' O' n1 d1 n2 d2 x y z x2 y2 z2 x3 y3 z3 s ⟨(vfm K B F R O n1 d1).toArray⟩ w g1 (Lib.hid hL) EX (Lib.hid C1) (Lib.hid C2) (Lib.hid C3) (by simpa using h1) (by simpa using h2) (by simpa using h3) (HA h1) (HC h3) (HF h3) (Lib.hid hV) C4 F4 P4
        · exact rv_tfft op K B F R O K' B' F' R' O' n1 d1 n2 d2 x y z x2 y2 z2 x3 y3 z3 s ⟨(vfm K B F R O n1 d1).toArray⟩ w g1 (Lib.hid hL) EX (Lib.hid C1) (Lib.hid C2) (Lib.hid C3) (by simpa using h1) (by simpa using h2) (by simpa using h3) (HA h1) (Lib.hid hV) C4 F4 P4
    · by_cases h2 : z2 = 0
      · by_cases h3 : z3 = 0
        · exact rv_fttt op K B F R O K' B' F' R' O' n1 d1 n2 d2 x y z x2 y2 z2 x3 y3 z3 s ⟨(vfm K B F R O n1 d1).toArray⟩ w g1 (Lib.hid hL) EX (Lib.hid C1) (Lib.hid C2) (Lib.hid C3) (by simpa using h1) (by simpa using h2) (by simpa using h3) (HB h2) (HC h3) (HF h3) (Lib.hid hV) C4 F4 P4
        · exact rv_ftft op K B F R O K' B' F' R' O' n1 d1 n2 d2 x y z x2 y2 z2 x3 y3 z3 s ⟨(vfm K B F R O n1 d1).toArray⟩ w g1 (Lib.hid hL) EX (Lib.hid C1) (Lib.hid C2) (Lib.hid C3) (by simpa using h1) (by simpa using h2) (by simpa using h3) (HB h2) (Lib.hid hV) C4 F4 P4
      · by_cases h3 : z3 = 0
        · exact rv_fftt op K B F R O K' B' F' R' O' n1 d1 n2 d2 x y z x2 y2 z2 x3 y3 z3 s ⟨(vfm K B F R O n1 d1).toArray⟩ w g1 (Lib.hid hL) EX (Lib.hid C1) (Lib.hid C2) (Lib.hid C3) (by simpa using h1) (by simpa using h2) (by simpa using h3) (HC h3) (HF h3) (Lib.hid hV) C4 F4 P4
        · exact rv_ffft op K B F R O K' B' F' R' O' n1 d1 n2 d2 x y z x2 y2 z2 x3 y3 z3 s ⟨(vfm K B F R O n1 d1).toArray⟩ w g1 (Lib.hid hL) EX (Lib.hid C1) (Lib.hid C2) (Lib.hid C3) (by simpa using h1) (by simpa using h2) (by simpa using h3) (Lib.hid hV) C4 F4 P4
  case false =>
    by_cases h1 : z = 0
    · by_cases h2 : z2 = 0
      · by_cases h3 : z3 = 0
        · exact rv_tttf op K B F R O K' B' F' R' O' n1 d1 n2 d2 x y z x2 y2 z2 x3 y3 z3 s ⟨#[]⟩ w g1 (Lib.hid hL) EX (Lib.hid C1) (Lib.hid C2) (Lib.hid C3) (by simpa using h1) (by simpa using h2) (by simpa using h3) (HA h1) (HB h2) (HC h3) (HF h3) (Lib.hid hV)
        · exact rv_ttff op K B F R O K' B' F' R' O' n1 d1 n2 d2 x y z x2 y2 z2 x3 y3 z3 s ⟨#[]⟩ w g1 (Lib.hid hL) EX (Lib.hid C1) (Lib.hid C2) (Lib.hid C3) (by simpa using h1) (by simpa using h2) (by simpa using h3) (HA h1) (HB h2) (Lib.hid hV)
      · by_cases h3 : z3 = 0
        · exact rv_tftf op K B F R O K' B' F' R' O' n1 d1 n2 d2 x y z x2 y2 z2 x3 y3 z3 s ⟨#[]⟩ w g1 (Lib.hid hL) EX (Lib.hid C1) (Lib.hid C2) (Lib.hid C3) (by simpa using h1) (by simpa using h2) (by simpa using h3) (HA h1) (HC h3) (HF h3) (Lib.hid hV)
        · exact rv_tfff op K B F R O K' B' F' R' O' n1 d1 n2 d2 x y z x2 y2 z2 x3 y3 z3 s ⟨#[]⟩ w g1 (Lib.hid hL) EX (Lib.hid C1) (Lib.hid C2) (Lib.hid C3) (by simpa using h1) (by simpa using h2) (by simpa using h3) (HA h1) (Lib.hid hV)
    · by_cases h2 : z2 = 0
      · by_cases h3 : z3 = 0
        · exact rv_fttf op K B F R O K' B' F' R' O' n1 d1 n2 d2 x y z x2 y2 z2 x3 y3 z3 s ⟨#[]⟩ w g1 (Lib.hid hL) EX (Lib.hid C1) (Lib.hid C2) (Lib.hid C3) (by simpa using h1) (by simpa using h2) (by simpa using h3) (HB h2) (HC h3) (HF h3) (Lib.hid hV)
        · exact rv_ftff op K B F R O K' B' F' R' O' n1 d1 n2 d2 x y z x2 y2 z2 x3 y3 z3 s ⟨#[]⟩ w g1 (Lib.hid hL) EX (Lib.hid C1) (Lib.hid C2) (Lib.hid C3) (by simpa using h1) (by simpa using h2) (by simpa using h3) (HB h2) (Lib.hid hV)
      · by_cases h3 : z3 = 0
        · exact rv_fftf op K B F R O K' B' F' R' O' n1 d1 n2 d2 x y z x2 y2 z2 x3 y3 z3 s ⟨#[]⟩ w g1 (Lib.hid hL) EX (Lib.hid C1) (Lib.hid C2) (Lib.hid C3) (by simpa using h1) (by simpa using h2) (by simpa using h3) (HC h3) (HF h3) (Lib.hid hV)
        · exact rv_ffff op K B F R O K' B' F' R' O' n1 d1 n2 d2 x y z x2 y2 z2 x3 y3 z3 s ⟨#[]⟩ w g1 (Lib.hid hL) EX (Lib.hid C1) (Lib.hid C2) (Lib.hid C3) (by simpa using h1) (by simpa using h2) (by simpa using h3) (Lib.hid hV)
end Go.Proofs.YtikcinkbkakkmaaGreatDoor.Va
