/- Broadcast of the reference. -/
import Derived.Test.YtjpcpdaokgkaoaaV30
namespace Go.Proofs.Ytjpcpdaokgkaoaa.Sh
open Go.ChangeShapes Go.WideShapes Go.ChangeAt Go.RowKit
set_option linter.unusedVariables false

set_option maxHeartbeats 4000000 in
theorem c26_ok (p q : Option Addr) (xs ys : List Int) (c d : Nat) (w : World) (RA : Hid (SlI w p xs)) (RB : Hid (SlI w q ys)) (hx : vE xs = 0) (hy : vE ys = 0) :
    Calls Try.prog 26 #[.slice p xs.length c, .slice q ys.length d] w (BW xs ys w) := by
  obtain ⟨h6, hlx, _⟩ := valid_of hx
  obtain ⟨h7, hly, _⟩ := valid_of hy
  have CX := Lib.hid (c15 p xs c w (by unfold maxLen; omega) RA)
  have CY := Lib.hid (c15 q ys d w (by unfold maxLen; omega) RB)
  rw [hx] at CX
  rw [hy] at CY
  obtain ⟨i0, hi, hz0, hz1, hz2⟩ := info_parts info3
  have CR : Hid (∀ (y : World) (p1 : Option Addr) (c1 : Nat) (rs : List Int), rs.length = bn xs ys → SlI y p1 rs → Calls Try.prog 15 #[.slice p1 (bn xs ys) c1] y fun e w' => e = .returned (.int .i64 (vE rs)) ∧ y = w') := Lib.hid fun y p1 c1 rs hr hs => by
    have h2 := c15 p1 rs c1 y (by rw [hr]; unfold bn maxLen; omega) (Lib.hid hs)
    rw [hr] at h2
    exact h2
  have PX := Lib.hid (fun j (hj : j < xs.length) => pos_of hlx hj)
  have PY := Lib.hid (fun j (hj : j < ys.length) => pos_of hly hj)
  have FB := Lib.hid (fun j (hj : j < bn xs ys) => bc_get (a := xs) (b := ys) hj)
  have HBL := Lib.hid (bc_length xs ys)
  obtain ⟨n, hN⟩ : ∃ n, bn xs ys = n := ⟨_, rfl⟩
  have HNB := Lib.hid hN
  obtain ⟨a, hA⟩ : ∃ a, xs.length = a := ⟨_, rfl⟩
  obtain ⟨b, hB⟩ : ∃ b, ys.length = b := ⟨_, rfl⟩
  have HA := Lib.hid hA
  have HB := Lib.hid hB
  have hmax : max a b = n := by rw [← hA, ← hB]; exact hN
  have MX : (if (a : Int) < b then (b : Int) else a) = n := by split <;> omega
  have MX2 : (if a < b then (b : Int) else a) = n := by split <;> omega
  have lan : a ≤ n := by omega
  have lbn : b ≤ n := by omega
  have lor : n = a ∨ n = b := by omega
  rw [hA] at CX h6 PX ⊢
  rw [hB] at CY h7 PY ⊢
  rw [hN] at CR FB HBL
  have n6 : n ≤ 6 := by omega
  clear hN hA hB hx hy hmax hlx hly
  go_enter Try.func26, Try.ntmps26
  go_wp2_with fail
  refine (CX.out).mono ?_
  rintro e w' ⟨rfl, rfl⟩
  go_wp2_with fail
  refine (CY.out).mono ?_
  rintro e w' ⟨rfl, rfl⟩
  go_wp2_with (refine wpList_make_full _ rfl _ _ 22 rfl w.heap.size 3 i0 (.int .i64 0) 1 Try.underlying22 hi hz0 hz1 .i64 .i64 _ _ n rfl rfl rfl rfl (by rw [hz2]; omega) (by unfold maxLen; omega) (Nat.le_refl _) ?_; intro w1 hown hg; have hB := below_own (Nat.le_refl _) hg; clear hg hi hz0 hz1 hz2 i0)
  have rs1 : Hid (w1.ownsRow w.heap.size 3 1 (.slice (some ⟨w.heap.size, 0, none⟩) n n) n ((List.replicate n (0 : Int)).map (Value.int .i64))) := Lib.hid (by
    have h := hown
    rw [show (Value.int IntKind.i64 0).cells = #[.int .i64 0] from rfl, toList_madeCells_one, Nat.mul_one] at h
    rw [List.map_replicate]
    exact h)
  clear hown CX CY MX MX2
  go_loopw [10] (fun i wr => ∃ (k : Nat) (rs : List Int), i = .int .i64 (k : Int) ∧ k ≤ n ∧ Below w.heap.size w wr ∧ rs.length = n ∧ Hid (∀ j, n - k ≤ j → j < n → rs.getD j 0 = (bc xs ys).getD j 0 ∧ bk xs ys j) ∧ Hid (wr.ownsRow w.heap.size 3 1 (.slice (some ⟨w.heap.size, 0, none⟩) n n) n (rs.map (Value.int .i64)))) (fun i _ => n - (intOf i).toNat)
  case atStart => exact ⟨0, _, rfl, by omega, hB, by simp, Lib.hid fun j h1 h2 => by omega, rs1⟩
  case round =>
    obtain ⟨k, rs, rfl, hk, KB, hr, hD, oR⟩ := hrel
    clear rs1 hB
    by_cases hlt : k < n
    · have i0 : (0 : Int) ≤ k := by omega
      have i1 : (k : Int) < n := by omega
      by_cases ka : k < a
      · have ka1 : decide ((k : Int) < a) = true := by simp <;> omega
        by_cases kb : k < b
        · have kb1 : decide ((k : Int) < b) = true := by simp <;> omega
          have ja0 : (a : Int) - 1 - k = ((a - 1 - k : Nat) : Int) := by omega
          obtain ⟨b1, o1, rfl, x1⟩ := RA.out (a - 1 - k) (by rw [HA.out]; omega)
          have lt1 : b1 < w.heap.size := by have := World.block_lt_of_cell? w _ x1; simpa using this
          have x2 := Rg.keep' KB lt1 x1
          have px := PX.out (a - 1 - k) (by omega)
          have ga1 : ga xs n (n - 1 - k) = xs.getD (a - 1 - k) 0 := by unfold ga; rw [HA.out, if_neg (by omega)]; congr 1; omega
          obtain ⟨X, hX⟩ : ∃ X, xs.getD (a - 1 - k) 0 = X := ⟨_, rfl⟩
          rw [hX] at x2 px ga1
          have iax : (((a - 1 - k : Nat) : Int)) < a := by omega
          generalize a - 1 - k = ja at *
          have jb0 : (b : Int) - 1 - k = ((b - 1 - k : Nat) : Int) := by omega
          obtain ⟨b2, o2, rfl, y1⟩ := RB.out (b - 1 - k) (by rw [HB.out]; omega)
          have lt2 : b2 < w.heap.size := by have := World.block_lt_of_cell? w _ y1; simpa using this
          have y2 := Rg.keep' KB lt2 y1
          have py := PY.out (b - 1 - k) (by omega)
          have gb1 : ga ys n (n - 1 - k) = ys.getD (b - 1 - k) 0 := by unfold ga; rw [HB.out, if_neg (by omega)]; congr 1; omega
          obtain ⟨Y, hY⟩ : ∃ Y, ys.getD (b - 1 - k) 0 = Y := ⟨_, rfl⟩
          rw [hY] at y2 py gb1
          have ibx : (((b - 1 - k : Nat) : Int)) < b := by omega
          generalize b - 1 - k = jb at *
          have fb := FB.out (n - 1 - k) (by omega)
          rw [ga1, gb1] at fb
          have fk : bk xs ys (n - 1 - k) ↔ (X = Y ∨ X = 1 ∨ Y = 1) := by unfold bk; rw [HNB.out, ga1, gb1]
          have FBK := Lib.hid fb
          have FK := Lib.hid fk
          clear fb fk ga1 gb1
          by_cases hbad : X ≠ Y ∧ X ≠ 1 ∧ Y ≠ 1
          · have k1 : (X != Y) = true := by simpa using hbad.1
            have k2 : (X != 1) = true := by simpa using hbad.2.1
            have k3 : (Y != 1) = true := by simpa using hbad.2.2
            have k1' : (X == Y) = false := by simpa using hbad.1
            have k2' : (X == 1) = false := by simpa using hbad.2.1
            have k3' : (Y == 1) = false := by simpa using hbad.2.2
            have NB : Hid (¬ bok xs ys) := Lib.hid fun hb => by
              have := FK.out.1 (hb (n - 1 - k) (by rw [HNB.out]; omega))
              omega
            clear hbad
            go_wp2
            refine bodyPost_ret (v := .tuple #[.slice none 0 0, .int .i64 15]) (by simp [results, Try.results26, go_sem]) rfl (Or.inl ⟨NB.out, _, rfl, KB, World.ownsRow_nil _ _ _ _⟩)
          have q1 : X = Y ∨ (X ≠ Y ∧ X = 1) ∨ (X ≠ Y ∧ X ≠ 1 ∧ Y = 1) := by omega
          rcases q1 with rfl | ⟨q2, rfl⟩ | ⟨q2, q3, rfl⟩
          · have bk1 : Hid (bk xs ys (n - 1 - k)) := Lib.hid (FK.out.2 (by omega))
            have hz2 : Hid ((bc xs ys).getD (n - 1 - k) 0 = X) := Lib.hid (by rw [FBK.out]; omega)
            have jn0 : (n : Int) - 1 - k = ((n - 1 - k : Nat) : Int) := by omega
            obtain ⟨jn, hjn⟩ : ∃ jn, n - 1 - k = jn := ⟨_, rfl⟩
            rw [hjn] at jn0 hz2 bk1
            have oc := cells_of oR.out (j := jn) (by omega) hr
            have of := oR.out.frozenAt jn
            have sR := Lib.hid (oR.out.stored jn (.int .i64 X)).1
            have KB2 : Below w.heap.size w (wr.setCell ⟨w.heap.size, jn, none⟩ (.int .i64 X)) := Below.setCell KB (Nat.le_refl _) _
            have ijn : (jn : Int) < n := by omega
            have HJ := Lib.hid hjn
            clear hjn FK FBK
            go_wp2
            go_roundw
            case rel =>
              have hjn := HJ.out
              refine ⟨k + 1, rs.set jn X, by go_num, by omega, KB2, by simp [hr], Lib.hid fun j h1 h2 => ?_, Lib.hid (by rw [List.map_set]; exact sR.out)⟩
              by_cases e : j = jn
              · subst e
                rw [getD_at (by rw [List.length_set, hr]; omega), List.getElem_set_self]
                exact ⟨hz2.out.symm, bk1.out⟩
              · rw [getD_at (by rw [List.length_set, hr]; omega), List.getElem_set_ne (by omega), ← getD_at (by omega)]
                exact hD.out j (by omega) h2
            case measure => simp [intOf]; omega
          · have k1 : ((1 : Int) != Y) = true := by simpa using q2
            have k1' : ((1 : Int) == Y) = false := by simpa using q2
            have bk1 : Hid (bk xs ys (n - 1 - k)) := Lib.hid (FK.out.2 (by omega))
            have hz2 : Hid ((bc xs ys).getD (n - 1 - k) 0 = Y) := Lib.hid (by rw [FBK.out]; omega)
            have jn0 : (n : Int) - 1 - k = ((n - 1 - k : Nat) : Int) := by omega
            obtain ⟨jn, hjn⟩ : ∃ jn, n - 1 - k = jn := ⟨_, rfl⟩
            rw [hjn] at jn0 hz2 bk1
            have oc := cells_of oR.out (j := jn) (by omega) hr
            have of := oR.out.frozenAt jn
            have sR := Lib.hid (oR.out.stored jn (.int .i64 Y)).1
            have KB2 : Below w.heap.size w (wr.setCell ⟨w.heap.size, jn, none⟩ (.int .i64 Y)) := Below.setCell KB (Nat.le_refl _) _
            have ijn : (jn : Int) < n := by omega
            have HJ := Lib.hid hjn
            clear hjn FK FBK
            go_wp2
            go_roundw
            case rel =>
              have hjn := HJ.out
              refine ⟨k + 1, rs.set jn Y, by go_num, by omega, KB2, by simp [hr], Lib.hid fun j h1 h2 => ?_, Lib.hid (by rw [List.map_set]; exact sR.out)⟩
              by_cases e : j = jn
              · subst e
                rw [getD_at (by rw [List.length_set, hr]; omega), List.getElem_set_self]
                exact ⟨hz2.out.symm, bk1.out⟩
              · rw [getD_at (by rw [List.length_set, hr]; omega), List.getElem_set_ne (by omega), ← getD_at (by omega)]
                exact hD.out j (by omega) h2
            case measure => simp [intOf]; omega
          · have k1 : (X != 1) = true := by simpa using q3
            have k1' : (X == 1) = false := by simpa using q3
            have bk1 : Hid (bk xs ys (n - 1 - k)) := Lib.hid (FK.out.2 (by omega))
            have hz2 : Hid ((bc xs ys).getD (n - 1 - k) 0 = X) := Lib.hid (by rw [FBK.out]; omega)
            have jn0 : (n : Int) - 1 - k = ((n - 1 - k : Nat) : Int) := by omega
            obtain ⟨jn, hjn⟩ : ∃ jn, n - 1 - k = jn := ⟨_, rfl⟩
            rw [hjn] at jn0 hz2 bk1
            have oc := cells_of oR.out (j := jn) (by omega) hr
            have of := oR.out.frozenAt jn
            have sR := Lib.hid (oR.out.stored jn (.int .i64 X)).1
            have KB2 : Below w.heap.size w (wr.setCell ⟨w.heap.size, jn, none⟩ (.int .i64 X)) := Below.setCell KB (Nat.le_refl _) _
            have ijn : (jn : Int) < n := by omega
            have HJ := Lib.hid hjn
            clear hjn FK FBK
            go_wp2
            go_roundw
            case rel =>
              have hjn := HJ.out
              refine ⟨k + 1, rs.set jn X, by go_num, by omega, KB2, by simp [hr], Lib.hid fun j h1 h2 => ?_, Lib.hid (by rw [List.map_set]; exact sR.out)⟩
              by_cases e : j = jn
              · subst e
                rw [getD_at (by rw [List.length_set, hr]; omega), List.getElem_set_self]
                exact ⟨hz2.out.symm, bk1.out⟩
              · rw [getD_at (by rw [List.length_set, hr]; omega), List.getElem_set_ne (by omega), ← getD_at (by omega)]
                exact hD.out j (by omega) h2
            case measure => simp [intOf]; omega
        · have kb1 : decide ((k : Int) < b) = false := by simp <;> omega
          have ja0 : (a : Int) - 1 - k = ((a - 1 - k : Nat) : Int) := by omega
          obtain ⟨b1, o1, rfl, x1⟩ := RA.out (a - 1 - k) (by rw [HA.out]; omega)
          have lt1 : b1 < w.heap.size := by have := World.block_lt_of_cell? w _ x1; simpa using this
          have x2 := Rg.keep' KB lt1 x1
          have px := PX.out (a - 1 - k) (by omega)
          have ga1 : ga xs n (n - 1 - k) = xs.getD (a - 1 - k) 0 := by unfold ga; rw [HA.out, if_neg (by omega)]; congr 1; omega
          obtain ⟨X, hX⟩ : ∃ X, xs.getD (a - 1 - k) 0 = X := ⟨_, rfl⟩
          rw [hX] at x2 px ga1
          have iax : (((a - 1 - k : Nat) : Int)) < a := by omega
          generalize a - 1 - k = ja at *
          have py : (1 : Int) ≤ 1 := by omega
          have gb1 : ga ys n (n - 1 - k) = 1 := by unfold ga; rw [HB.out, if_pos (by omega)]
          have fb := FB.out (n - 1 - k) (by omega)
          rw [ga1, gb1] at fb
          have fk : bk xs ys (n - 1 - k) ↔ (X = (1 : Int) ∨ X = 1 ∨ (1 : Int) = 1) := by unfold bk; rw [HNB.out, ga1, gb1]
          have FBK := Lib.hid fb
          have FK := Lib.hid fk
          clear fb fk ga1 gb1
          rcases (by omega : X = 1 ∨ ¬ X = 1) with rfl | q2
          · have bk1 : Hid (bk xs ys (n - 1 - k)) := Lib.hid (FK.out.2 (by omega))
            have hz2 : Hid ((bc xs ys).getD (n - 1 - k) 0 = 1) := Lib.hid (by rw [FBK.out]; omega)
            have jn0 : (n : Int) - 1 - k = ((n - 1 - k : Nat) : Int) := by omega
            obtain ⟨jn, hjn⟩ : ∃ jn, n - 1 - k = jn := ⟨_, rfl⟩
            rw [hjn] at jn0 hz2 bk1
            have oc := cells_of oR.out (j := jn) (by omega) hr
            have of := oR.out.frozenAt jn
            have sR := Lib.hid (oR.out.stored jn (.int .i64 1)).1
            have KB2 : Below w.heap.size w (wr.setCell ⟨w.heap.size, jn, none⟩ (.int .i64 1)) := Below.setCell KB (Nat.le_refl _) _
            have ijn : (jn : Int) < n := by omega
            have HJ := Lib.hid hjn
            clear hjn FK FBK
            go_wp2
            go_roundw
            case rel =>
              have hjn := HJ.out
              refine ⟨k + 1, rs.set jn 1, by go_num, by omega, KB2, by simp [hr], Lib.hid fun j h1 h2 => ?_, Lib.hid (by rw [List.map_set]; exact sR.out)⟩
              by_cases e : j = jn
              · subst e
                rw [getD_at (by rw [List.length_set, hr]; omega), List.getElem_set_self]
                exact ⟨hz2.out.symm, bk1.out⟩
              · rw [getD_at (by rw [List.length_set, hr]; omega), List.getElem_set_ne (by omega), ← getD_at (by omega)]
                exact hD.out j (by omega) h2
            case measure => simp [intOf]; omega
          · have k1 : (X != 1) = true := by simpa using q2
            have k1' : (X == 1) = false := by simpa using q2
            have k4 : ((1 : Int) != X) = true := by simpa using fun h : (1 : Int) = X => q2 h.symm
            have k4' : ((1 : Int) == X) = false := by simpa using fun h : (1 : Int) = X => q2 h.symm
            have bk1 : Hid (bk xs ys (n - 1 - k)) := Lib.hid (FK.out.2 (by omega))
            have hz2 : Hid ((bc xs ys).getD (n - 1 - k) 0 = X) := Lib.hid (by rw [FBK.out]; omega)
            have jn0 : (n : Int) - 1 - k = ((n - 1 - k : Nat) : Int) := by omega
            obtain ⟨jn, hjn⟩ : ∃ jn, n - 1 - k = jn := ⟨_, rfl⟩
            rw [hjn] at jn0 hz2 bk1
            have oc := cells_of oR.out (j := jn) (by omega) hr
            have of := oR.out.frozenAt jn
            have sR := Lib.hid (oR.out.stored jn (.int .i64 X)).1
            have KB2 : Below w.heap.size w (wr.setCell ⟨w.heap.size, jn, none⟩ (.int .i64 X)) := Below.setCell KB (Nat.le_refl _) _
            have ijn : (jn : Int) < n := by omega
            have HJ := Lib.hid hjn
            clear hjn FK FBK
            go_wp2
            go_roundw
            case rel =>
              have hjn := HJ.out
              refine ⟨k + 1, rs.set jn X, by go_num, by omega, KB2, by simp [hr], Lib.hid fun j h1 h2 => ?_, Lib.hid (by rw [List.map_set]; exact sR.out)⟩
              by_cases e : j = jn
              · subst e
                rw [getD_at (by rw [List.length_set, hr]; omega), List.getElem_set_self]
                exact ⟨hz2.out.symm, bk1.out⟩
              · rw [getD_at (by rw [List.length_set, hr]; omega), List.getElem_set_ne (by omega), ← getD_at (by omega)]
                exact hD.out j (by omega) h2
            case measure => simp [intOf]; omega
      · have ka1 : decide ((k : Int) < a) = false := by simp <;> omega
        have kb : k < b := by omega
        have kb1 : decide ((k : Int) < b) = true := by simp <;> omega
        have px : (1 : Int) ≤ 1 := by omega
        have ga1 : ga xs n (n - 1 - k) = 1 := by unfold ga; rw [HA.out, if_pos (by omega)]
        have jb0 : (b : Int) - 1 - k = ((b - 1 - k : Nat) : Int) := by omega
        obtain ⟨b2, o2, rfl, y1⟩ := RB.out (b - 1 - k) (by rw [HB.out]; omega)
        have lt2 : b2 < w.heap.size := by have := World.block_lt_of_cell? w _ y1; simpa using this
        have y2 := Rg.keep' KB lt2 y1
        have py := PY.out (b - 1 - k) (by omega)
        have gb1 : ga ys n (n - 1 - k) = ys.getD (b - 1 - k) 0 := by unfold ga; rw [HB.out, if_neg (by omega)]; congr 1; omega
        obtain ⟨Y, hY⟩ : ∃ Y, ys.getD (b - 1 - k) 0 = Y := ⟨_, rfl⟩
        rw [hY] at y2 py gb1
        have ibx : (((b - 1 - k : Nat) : Int)) < b := by omega
        generalize b - 1 - k = jb at *
        have fb := FB.out (n - 1 - k) (by omega)
        rw [ga1, gb1] at fb
        have fk : bk xs ys (n - 1 - k) ↔ ((1 : Int) = Y ∨ (1 : Int) = 1 ∨ Y = 1) := by unfold bk; rw [HNB.out, ga1, gb1]
        have FBK := Lib.hid fb
        have FK := Lib.hid fk
        clear fb fk ga1 gb1
        rcases (by omega : Y = 1 ∨ ¬ Y = 1) with rfl | q2
        · have bk1 : Hid (bk xs ys (n - 1 - k)) := Lib.hid (FK.out.2 (by omega))
          have hz2 : Hid ((bc xs ys).getD (n - 1 - k) 0 = 1) := Lib.hid (by rw [FBK.out]; omega)
          have jn0 : (n : Int) - 1 - k = ((n - 1 - k : Nat) : Int) := by omega
          obtain ⟨jn, hjn⟩ : ∃ jn, n - 1 - k = jn := ⟨_, rfl⟩
          rw [hjn] at jn0 hz2 bk1
          have oc := cells_of oR.out (j := jn) (by omega) hr
          have of := oR.out.frozenAt jn
          have sR := Lib.hid (oR.out.stored jn (.int .i64 1)).1
          have KB2 : Below w.heap.size w (wr.setCell ⟨w.heap.size, jn, none⟩ (.int .i64 1)) := Below.setCell KB (Nat.le_refl _) _
          have ijn : (jn : Int) < n := by omega
          have HJ := Lib.hid hjn
          clear hjn FK FBK
          go_wp2
          go_roundw
          case rel =>
            have hjn := HJ.out
            refine ⟨k + 1, rs.set jn 1, by go_num, by omega, KB2, by simp [hr], Lib.hid fun j h1 h2 => ?_, Lib.hid (by rw [List.map_set]; exact sR.out)⟩
            by_cases e : j = jn
            · subst e
              rw [getD_at (by rw [List.length_set, hr]; omega), List.getElem_set_self]
              exact ⟨hz2.out.symm, bk1.out⟩
            · rw [getD_at (by rw [List.length_set, hr]; omega), List.getElem_set_ne (by omega), ← getD_at (by omega)]
              exact hD.out j (by omega) h2
          case measure => simp [intOf]; omega
        · have k1 : (Y != 1) = true := by simpa using q2
          have k1' : (Y == 1) = false := by simpa using q2
          have k4 : ((1 : Int) != Y) = true := by simpa using fun h : (1 : Int) = Y => q2 h.symm
          have k4' : ((1 : Int) == Y) = false := by simpa using fun h : (1 : Int) = Y => q2 h.symm
          have bk1 : Hid (bk xs ys (n - 1 - k)) := Lib.hid (FK.out.2 (by omega))
          have hz2 : Hid ((bc xs ys).getD (n - 1 - k) 0 = Y) := Lib.hid (by rw [FBK.out]; omega)
          have jn0 : (n : Int) - 1 - k = ((n - 1 - k : Nat) : Int) := by omega
          obtain ⟨jn, hjn⟩ : ∃ jn, n - 1 - k = jn := ⟨_, rfl⟩
          rw [hjn] at jn0 hz2 bk1
          have oc := cells_of oR.out (j := jn) (by omega) hr
          have of := oR.out.frozenAt jn
          have sR := Lib.hid (oR.out.stored jn (.int .i64 Y)).1
          have KB2 : Below w.heap.size w (wr.setCell ⟨w.heap.size, jn, none⟩ (.int .i64 Y)) := Below.setCell KB (Nat.le_refl _) _
          have ijn : (jn : Int) < n := by omega
          have HJ := Lib.hid hjn
          clear hjn FK FBK
          go_wp2
          go_roundw
          case rel =>
            have hjn := HJ.out
            refine ⟨k + 1, rs.set jn Y, by go_num, by omega, KB2, by simp [hr], Lib.hid fun j h1 h2 => ?_, Lib.hid (by rw [List.map_set]; exact sR.out)⟩
            by_cases e : j = jn
            · subst e
              rw [getD_at (by rw [List.length_set, hr]; omega), List.getElem_set_self]
              exact ⟨hz2.out.symm, bk1.out⟩
            · rw [getD_at (by rw [List.length_set, hr]; omega), List.getElem_set_ne (by omega), ← getD_at (by omega)]
              exact hD.out j (by omega) h2
          case measure => simp [intOf]; omega
    · obtain rfl : k = n := by omega
      have e : rs = bc xs ys := by
        refine List.ext_getElem (by rw [hr, HBL.out]) fun j h1 h2 => ?_
        have h := (hD.out j (by omega) (by omega)).1
        rw [getD_at h1, getD_at h2] at h
        exact h
      have BO : Hid (bok xs ys) := Lib.hid fun j hj => (hD.out j (by omega) (by rw [HNB.out] at hj; exact hj)).2
      subst e
      have S1 : Hid (SlI wr (some ⟨w.heap.size, 0, none⟩) (bc xs ys)) := Lib.hid fun i hi => ⟨_, _, rfl, by rw [Nat.zero_add]; exact cells_of oR.out (by omega) hr⟩
      have CF := Lib.hid (CR.out wr (some ⟨w.heap.size, 0, none⟩) k _ hr S1.out)
      clear CR S1 hD
      by_cases hE : vE (bc xs ys) = 0
      · rw [hE] at CF
        go_wp2_with fail
        refine (CF.out).mono ?_
        rintro e w' ⟨rfl, rfl⟩
        go_wp2
        refine bodyPost_ret (v := .tuple #[.slice (some ⟨w.heap.size, 0, none⟩) k k, .int .i64 0]) (by simp [results, Try.results26, go_sem]) rfl (Or.inr (Or.inl ⟨BO.out, hE, _, rfl, KB, ?_⟩))
        rw [hr]
        exact oR.out
      · have k1 : (vE (bc xs ys) != 0) = true := by simpa using hE
        have HE := Lib.hid hE
        clear hE
        obtain ⟨E, hEE⟩ : ∃ E, vE (bc xs ys) = E := ⟨_, rfl⟩
        rw [hEE] at CF k1
        have HEE := Lib.hid hEE
        clear hEE
        go_wp2_with fail
        refine (CF.out).mono ?_
        rintro e w' ⟨rfl, rfl⟩
        go_wp2
        refine bodyPost_ret (v := .tuple #[.slice none 0 0, .int .i64 E]) (by simp [results, Try.results26, go_sem]) rfl (Or.inr (Or.inr ⟨BO.out, HE.out, _, by rw [HEE.out], KB, World.ownsRow_nil _ _ _ _⟩))
end Go.Proofs.Ytjpcpdaokgkaoaa.Sh
