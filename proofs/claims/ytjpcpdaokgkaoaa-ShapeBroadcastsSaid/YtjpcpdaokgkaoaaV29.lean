/- Broadcast of package shape, the first list shorter. -/
import Derived.Test.YtjpcpdaokgkaoaaV28
namespace Go.Proofs.Ytjpcpdaokgkaoaa.Sh
open Go.ChangeShapes Go.WideShapes Go.ChangeAt Go.RowKit
set_option linter.unusedVariables false

set_option maxHeartbeats 8000000 in
theorem c25_lt (p q : Option Addr) (xs ys : List Int) (c d : Nat) (w : World) (RA : Hid (SlI w p xs)) (RB : Hid (SlI w q ys)) (hx : vE xs = 0) (hy : vE ys = 0) (h : ys.length < xs.length) :
    Calls Try.prog 25 #[.slice q ys.length d, .slice p xs.length c] w (BW xs ys w) := by
  obtain ⟨h6, hlx, _⟩ := valid_of hx
  obtain ⟨h7, hly, _⟩ := valid_of hy
  have h' : ys.length ≤ xs.length := by omega
  have CX := Lib.hid (c14 p xs c w (by unfold maxLen; omega) RA)
  have CY := Lib.hid (c14 q ys d w (by unfold maxLen; omega) RB)
  have C48 := Lib.hid (c48g p xs c w (by unfold maxLen; omega) (by omega) RA)
  rw [hx] at CX
  rw [hy] at CY
  have CR : Hid (∀ (y : World) (p1 : Option Addr) (c1 : Nat) (rs : List Int), rs.length = xs.length → SlI y p1 rs → Calls Try.prog 14 #[.slice p1 xs.length c1] y fun e w' => e = .returned (.int .i64 (vE rs)) ∧ y = w') := Lib.hid fun y p1 c1 rs hr hs => by
    have h2 := c14 p1 rs c1 y (by unfold maxLen; omega) (Lib.hid hs)
    rw [hr] at h2
    exact h2
  have PX := Lib.hid (fun j (hj : j < xs.length) => pos_of hlx hj)
  have PY := Lib.hid (fun j (hj : j < ys.length) => pos_of hly hj)
  have EX := Lib.hid (fun j (hj : j < xs.length) => el_le hx hj)
  have EY := Lib.hid (fun j (hj : j < ys.length) => el_le hy hj)
  have bnx : bn xs ys = xs.length := Nat.max_eq_left h'
  have FB := Lib.hid (fun j (hj : j < xs.length) => bc_get (a := xs) (b := ys) (j := j) (by rw [bnx]; exact hj))
  have FL := Lib.hid (fun j => ga_long (a := xs) (b := ys) h' (j := j))
  have FD := Lib.hid (fun j (hj : j < xs.length - ys.length) => ga_lead (a := xs) (b := ys) h' hj)
  have FS := Lib.hid (fun k => ga_short (a := xs) (b := ys) h' (k := k))
  have HBL : Hid ((bc xs ys).length = xs.length) := Lib.hid (by rw [bc_length, bnx])
  have HBN := Lib.hid bnx
  clear hlx hly hx hy bnx
  obtain ⟨l, hl⟩ : ∃ l, xs.length - ys.length = l := ⟨_, rfl⟩
  obtain ⟨n, hN⟩ : ∃ n, xs.length = n := ⟨_, rfl⟩
  obtain ⟨m, hM⟩ : ∃ m, ys.length = m := ⟨_, rfl⟩
  have HN := Lib.hid hN
  have HM := Lib.hid hM
  rw [hl] at FD FS
  rw [hN] at CX C48 CR PX EX FB HBL HBN h6 h h' hl ⊢
  rw [hM] at CY PY EY h7 h h' hl ⊢
  clear hN hM
  have hln : l + m = n := by omega
  have LQ : (n : Int) - m = l := by omega
  have t1 : decide ((m : Int) < n) = true := by simp <;> omega
  have t2 : decide (m < n) = true := by simp <;> omega
  go_enter Try.func25, Try.ntmps25
  go_wp2_with fail
  refine (CY.out).mono ?_
  rintro e w' ⟨rfl, rfl⟩
  go_wp2_with fail
  refine (CX.out).mono ?_
  rintro e w' ⟨rfl, rfl⟩
  go_wp2_with fail
  refine (C48.out).mono ?_
  rintro e w1 ⟨v1, rfl, KB0, O1⟩
  rw [HN.out] at O1
  have O1 := Lib.hid O1
  clear CX CY C48
  go_wp2_with fail
  go_loopw [40] (fun i wr => ∃ (k : Nat) (rs : List Int), i = .int .i64 (k : Int) ∧ k ≤ m ∧ Below w.heap.size w wr ∧ rs.length = n ∧ Hid (∀ j, j < l + k → rs.getD j 0 = (bc xs ys).getD j 0 ∧ bk xs ys j) ∧ Hid (∀ j, l + k ≤ j → j < n → rs.getD j 0 = xs.getD j 0) ∧ Hid (wr.ownsRow w.heap.size 3 1 v1 n (rs.map (Value.int .i64)))) (fun i _ => m - (intOf i).toNat)
  case atStart =>
    refine ⟨0, xs, rfl, by omega, KB0, HN.out, Lib.hid fun j hj => ?_, Lib.hid fun j _ _ => rfl, O1⟩
    have p1 := PX.out j (by omega)
    rw [FB.out j (by omega), FL.out j, FD.out j (by omega)]
    exact ⟨by omega, Or.inr (Or.inr (FD.out j (by omega)))⟩
  case round =>
    obtain ⟨k, rs, rfl, hk, KB, hr, hD, hT, oR⟩ := hrel
    clear O1 KB0
    by_cases hlt : k < m
    · obtain ⟨b1, o1, rfl, x1⟩ := RA.out (l + k) (by rw [HN.out]; omega)
      obtain ⟨b2, o2, rfl, y1⟩ := RB.out k (by rw [HM.out]; exact hlt)
      have lt1 : b1 < w.heap.size := by have := World.block_lt_of_cell? w _ x1; simpa using this
      have lt2 : b2 < w.heap.size := by have := World.block_lt_of_cell? w _ y1; simpa using this
      have x2 := Rg.keep' KB lt1 x1
      have y2 := Rg.keep' KB lt2 y1
      have px := PX.out (l + k) (by omega)
      have py := PY.out k hlt
      have ex := EX.out (l + k) (by omega)
      have ey := EY.out k hlt
      have fb := FB.out (l + k) (by omega)
      rw [FL.out, FS.out] at fb
      have fk : bk xs ys (l + k) ↔ (xs.getD (l + k) 0 = ys.getD k 0 ∨ xs.getD (l + k) 0 = 1 ∨ ys.getD k 0 = 1) := by unfold bk; rw [FL.out, FS.out]
      have tl := hT.out (l + k) (Nat.le_refl _) (by omega)
      obtain ⟨x, hX⟩ : ∃ x, xs.getD (l + k) 0 = x := ⟨_, rfl⟩
      obtain ⟨y, hY⟩ : ∃ y, ys.getD k 0 = y := ⟨_, rfl⟩
      rw [hX] at x2 px ex fb fk tl
      rw [hY] at y2 py ey fb fk
      have FK := Lib.hid fk
      have FBK := Lib.hid fb
      have TL := Lib.hid tl
      clear hX hY x1 y1 fk fb tl
      obtain ⟨g, cap, hv, gb, cle⟩ := own_form oR.out (by omega)
      subst hv
      have oc := cells_of oR.out (j := l + k) (by omega) hr
      have of := oR.out.frozenAt (l + k)
      have sR := Lib.hid (oR.out.stored (l + k) (.int .i64 y)).1
      have i0 : (0 : Int) ≤ k := by omega
      have i1 : (k : Int) < m := by omega
      have i2 : (l : Int) + k < n := by omega
      have i3 : (0 : Int) ≤ (l : Int) + k := by omega
      have KB2 : Below w.heap.size w (wr.setCell ⟨g, l + k, none⟩ (.int .i64 y)) := Below.setCell KB gb _
      have gcap : n ≤ cap := cle
      by_cases hx1 : x = 1
      · subst hx1
        go_wp2
        go_roundw
        case rel =>
          refine ⟨k + 1, rs.set (l + k) y, by go_num, by omega, KB2, by simp [hr], Lib.hid fun j hj => ?_, Lib.hid fun j h1 h2 => ?_, Lib.hid (by rw [List.map_set]; exact sR.out)⟩
          · by_cases e : j = l + k
            · subst e
              rw [getD_at (by rw [List.length_set, hr]; omega), List.getElem_set_self]
              exact ⟨by rw [FBK.out]; omega, FK.out.2 (Or.inr (Or.inl rfl))⟩
            · rw [getD_at (by rw [List.length_set, hr]; omega), List.getElem_set_ne (by omega), ← getD_at (by omega)]
              exact hD.out j (by omega)
          · rw [getD_at (by rw [List.length_set, hr]; omega), List.getElem_set_ne (by omega), ← getD_at (by omega)]
            exact hT.out j (by omega) h2
        case measure => simp [intOf]; omega
      · have k1 : (x == 1) = false := by simpa using hx1
        by_cases hbad : y ≠ 1 ∧ y ≠ x
        · have k2 : (y != 1) = true := by simpa using hbad.1
          have k2' : (y == 1) = false := by simpa using hbad.1
          have k3 : (y != x) = true := by simpa using hbad.2
          have k3' : (y == x) = false := by simpa using hbad.2
          have NB : Hid (¬ bok xs ys) := Lib.hid fun hb => by
            have := FK.out.1 (hb (l + k) (by rw [HBN.out]; omega))
            omega
          clear hbad hx1
          go_wp2
          refine bodyPost_ret (v := .tuple #[.slice none 0 0, .int .i64 15]) (by simp [results, Try.results25, go_sem]) rfl (Or.inl ⟨NB.out, _, rfl, KB, World.ownsRow_nil _ _ _ _⟩)
        · have done : Hid (∀ j, j < l + (k + 1) → rs.getD j 0 = (bc xs ys).getD j 0 ∧ bk xs ys j) := Lib.hid fun j hj => by
            by_cases e : j = l + k
            · subst e
              exact ⟨by rw [TL.out, FBK.out]; omega, FK.out.2 (by omega)⟩
            · exact hD.out j (by omega)
          by_cases hy1 : y = 1
          · subst hy1
            clear hbad hx1
            go_wp2
            go_roundw
            case rel => exact ⟨k + 1, rs, by go_num, by omega, KB, hr, done, Lib.hid fun j h1 h2 => hT.out j (by omega) h2, oR⟩
            case measure => simp [intOf]; omega
          · obtain rfl : y = x := by omega
            clear hbad hx1
            go_wp2
            go_roundw
            case rel => exact ⟨k + 1, rs, by go_num, by omega, KB, hr, done, Lib.hid fun j h1 h2 => hT.out j (by omega) h2, oR⟩
            case measure => simp [intOf]; omega
    · obtain rfl : k = m := by omega
      have e : rs = bc xs ys := by
        refine List.ext_getElem (by rw [hr, HBL.out]) fun j h1 h2 => ?_
        have h := (hD.out j (by omega)).1
        rw [getD_at h1, getD_at h2] at h
        exact h
      have BO : Hid (bok xs ys) := Lib.hid fun j hj => (hD.out j (by rw [HBN.out] at hj; omega)).2
      subst e
      obtain ⟨p1, c1, hv1, _, _, S1⟩ := own_SlI (l := bc xs ys) (by rw [hr]; exact oR.out)
      rw [hr] at hv1
      subst hv1
      have CF := Lib.hid (CR.out wr p1 c1 _ hr S1.out)
      clear CR S1 hD hT
      by_cases hE : vE (bc xs ys) = 0
      · rw [hE] at CF
        go_wp2_with fail
        refine (CF.out).mono ?_
        rintro e w' ⟨rfl, rfl⟩
        go_wp2
        refine bodyPost_ret (v := .tuple #[.slice p1 n c1, .int .i64 0]) (by simp [results, Try.results25, go_sem]) rfl (Or.inr (Or.inl ⟨BO.out, hE, _, rfl, KB, ?_⟩))
        rw [hr]
        exact oR.out
      · have k1 : (vE (bc xs ys) != 0) = true := by simpa using hE
        have HE := Lib.hid hE
        clear hE
        obtain ⟨E, hEE⟩ : ∃ E, vE (bc xs ys) = E := ⟨_, rfl⟩
        rw [hEE] at CF k1
        have HEE := Lib.hid hEE
        clear hEE
        go_wp2_with fail
        refine (CF.out).mono ?_
        rintro e w' ⟨rfl, rfl⟩
        go_wp2
        refine bodyPost_ret (v := .tuple #[.slice none 0 0, .int .i64 E]) (by simp [results, Try.results25, go_sem]) rfl (Or.inr (Or.inr ⟨BO.out, HE.out, _, by rw [HEE.out], KB, World.ownsRow_nil _ _ _ _⟩))
end Go.Proofs.Ytjpcpdaokgkaoaa.Sh
