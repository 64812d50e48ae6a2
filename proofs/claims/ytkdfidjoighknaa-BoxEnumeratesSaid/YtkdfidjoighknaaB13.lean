/- Boxes: the reference's Next, Compare of both. -/
import Derived.Test.YtkdfidjoighknaaB12
namespace Go.Proofs.Ytkdfidjoighknaa.Bx
open Go.ChangeShapes Go.WideShapes Go.ChangeAt Go.RowKit
set_option linter.unusedVariables false
set_option linter.unusedSimpArgs false
theorem rnext1 (p q : Option Addr) (zs ps : List Int) (c d : Nat) (w : World) (hn : zs.length ≤ maxLen) (hp : ps.length ≤ maxLen) (RA : Hid (SlI w p zs)) (RB : Hid (SlI w q ps)) :
    Calls Try.prog 25 #[.slice p zs.length c, .slice q ps.length d] w (PW (nP zs ps) (nB zs ps) w) := by
  have C := Lib.hid (rrank1 p q zs ps c d w hn hp RA RB)
  by_cases h : inB zs ps = true
  · rw [show nP zs ps = pP zs (rk zs ps zs.length + 1) from if_pos h, show nB zs ps = pB zs (rk zs ps zs.length + 1) from if_pos h]
    rw [show rN zs ps = rk zs ps zs.length from if_pos h, h] at C
    obtain ⟨r0, r1⟩ := rk_lt h _ (Nat.le_refl _)
    obtain ⟨R, hR⟩ : ∃ R, rk zs ps zs.length = R := ⟨_, rfl⟩
    rw [hR] at C r0 r1 ⊢
    have D := Lib.hid fun (u : World) (hu : Below w.heap.size w u) => rpoint1 p zs c (R + 1) u hn (Lib.hid (SlI.keep hu RA.out))
    generalize pP zs (R + 1) = L at D ⊢
    generalize pB zs (R + 1) = T at D ⊢
    clear h hR hn hp
    go_enter Try.func25, Try.ntmps25
    go_wp2_with fail
    refine C.out.mono ?_
    rintro e w' ⟨rfl, md, rfl⟩
    have KD := Lib.hid (World.below_drewN' (Below.refl w.heap.size w) md)
    generalize w.drewN md = u at *
    go_wp2_with fail
    refine (D.out u KD.out).mono ?_
    rintro e w2 ⟨v, rfl, hb, ho⟩
    have K2 := Lib.hid (KD.out.trans (hb.mono KD.out.size))
    have HO := Lib.hid (ho.mono KD.out.size)
    clear hb ho
    go_wp2
    exact bodyPost_ret (v := .tuple #[v, .bool T]) (by simp [results, Try.results25, go_sem]) rfl ⟨v, rfl, K2.out, HO.out⟩
  · rw [show nP zs ps = [] from if_neg h, show nB zs ps = false from if_neg h]
    rw [show rN zs ps = 0 from if_neg h, show inB zs ps = false by simpa using h] at C
    clear h hn hp
    go_enter Try.func25, Try.ntmps25
    go_wp2_with fail
    refine C.out.mono ?_
    rintro e w' ⟨rfl, md, rfl⟩
    have KD := Lib.hid (World.below_drewN' (Below.refl w.heap.size w) md)
    generalize w.drewN md = u at *
    go_wp2
    exact bodyPost_ret (v := .tuple #[.slice none 0 0, .bool false]) (by simp [results, Try.results25, go_sem]) rfl ⟨_, rfl, KD.out, World.ownsRow_nil _ _ _ _⟩
/-- The lexicographic order. -/
def lc : List Int → List Int → Int
  | [], [] => 0
  | [], _ :: _ => -1
  | _ :: _, [] => 1
  | x :: xs, y :: ys => if x < y then -1 else if y < x then 1 else lc xs ys
theorem nan1 (x : Int) (w : World) : Calls Try.prog 103 #[.int .i64 x] w fun e w' => e = .returned (.bool false) ∧ w = w' := by
  go_enter Try.func103, Try.ntmps103
  go_wp2
  go_ret
  exact ⟨by first | rfl | simp, rfl⟩
def cm (x y : Int) : Int := if x < y then -1 else if y < x then 1 else 0
theorem cmp1 (x y : Int) (w : World) : Calls Try.prog 85 #[.int .i64 x, .int .i64 y] w fun e w' => e = .returned (.int .i64 (cm x y)) ∧ w = w' := by
  have N1 := Lib.hid fun z => nan1 z w
  unfold cm
  by_cases h : x < y
  · rw [if_pos h]
    have d1 : decide (x < y) = true := decide_eq_true h
    go_enter Try.func85, Try.ntmps85
    go_wp2_with (go_at_call 103; refine (N1.out _).mono ?_; rintro e w' ⟨rfl, rfl⟩)
    go_ret
    exact ⟨rfl, rfl⟩
  · rw [if_neg h]
    have d1 : decide (x < y) = false := decide_eq_false h
    by_cases h2 : y < x
    · rw [if_pos h2]
      have d2 : decide (y < x) = true := decide_eq_true h2
      go_enter Try.func85, Try.ntmps85
      go_wp2_with (go_at_call 103; refine (N1.out _).mono ?_; rintro e w' ⟨rfl, rfl⟩)
      go_ret
      exact ⟨rfl, rfl⟩
    · rw [if_neg h2]
      have d2 : decide (y < x) = false := decide_eq_false h2
      go_enter Try.func85, Try.ntmps85
      go_wp2_with (go_at_call 103; refine (N1.out _).mono ?_; rintro e w' ⟨rfl, rfl⟩)
      go_ret
      exact ⟨rfl, rfl⟩
theorem lc_step {xs ys : List Int} {k : Nat} (h1 : k < xs.length) (h2 : k < ys.length) : lc (xs.drop k) (ys.drop k) = if xs.getD k 0 < ys.getD k 0 then -1 else if ys.getD k 0 < xs.getD k 0 then 1 else lc (xs.drop (k + 1)) (ys.drop (k + 1)) := by
  rw [drop_cons h1, drop_cons h2]; rfl
theorem lc_long {xs ys : List Int} {k : Nat} (h1 : k < xs.length) (h2 : ys.length ≤ k) : lc (xs.drop k) (ys.drop k) = 1 := by
  rw [drop_cons h1, List.drop_of_length_le h2]; rfl
theorem lc_short {xs ys : List Int} {k : Nat} (h1 : xs.length ≤ k) (h2 : k < ys.length) : lc (xs.drop k) (ys.drop k) = -1 := by
  rw [drop_cons h2, List.drop_of_length_le h1]; rfl
theorem lc_end {xs ys : List Int} {k : Nat} (h1 : xs.length ≤ k) (h2 : ys.length ≤ k) : lc (xs.drop k) (ys.drop k) = 0 := by
  rw [List.drop_of_length_le h1, List.drop_of_length_le h2]; rfl
set_option maxHeartbeats 4000000 in
theorem scmp1 (p q : Option Addr) (xs ys : List Int) (c d : Nat) (w : World) (hx : xs.length ≤ maxLen) (hy : ys.length ≤ maxLen) (RA : Hid (SlI w p xs)) (RB : Hid (SlI w q ys)) :
    Calls Try.prog 53 #[.slice p xs.length c, .slice q ys.length d] w fun e w' => e = .returned (.int .i64 (lc xs ys)) ∧ w = w' := by
  have CC := Lib.hid fun x y => cmp1 x y w
  obtain ⟨V, hV⟩ : ∃ V, lc xs ys = V := ⟨_, rfl⟩
  rw [hV]
  have HV := Lib.hid hV
  clear hV
  unfold maxLen at hx hy
  go_enter Try.func53, Try.ntmps53
  go_wp2
  go_loop [11] (fun i => ∃ (k : Nat), i = .int .i64 k ∧ k ≤ xs.length ∧ k ≤ ys.length ∧ Hid (V = lc (xs.drop k) (ys.drop k))) (fun i => xs.length - (intOf i).toNat)
  case atStart => exact ⟨0, rfl, by omega, by omega, Lib.hid HV.out.symm⟩
  case round =>
    obtain ⟨k, rfl, hk, hk2, hE⟩ := hrel
    have k0 : (0 : Int) ≤ k := by omega
    by_cases h1 : k < xs.length
    · obtain ⟨b, o, rfl, hc⟩ := RA.out k h1
      have k1 : (k : Int) < xs.length := by omega
      by_cases h2 : k < ys.length
      · obtain ⟨b2, o2, rfl, hc2⟩ := RB.out k h2
        have hs := lc_step h1 h2
        rw [← hE.out] at hs
        obtain ⟨x, hx9⟩ : ∃ x, xs.getD k 0 = x := ⟨_, rfl⟩
        obtain ⟨y, hy9⟩ : ∃ y, ys.getD k 0 = y := ⟨_, rfl⟩
        rw [hx9] at hc hs
        rw [hy9] at hc2 hs
        have k2 : (k : Int) < ys.length := by omega
        clear hx9 hy9
        by_cases a1 : x < y
        · rw [if_pos a1] at hs
          have HS := Lib.hid hs
          have CK := CC.out x y
          rw [show cm x y = -1 from if_pos a1] at CK
          have CK := Lib.hid CK
          clear hs a1
          go_wp2_with fail
          refine CK.out.mono ?_
          rintro e w' ⟨rfl, rfl⟩
          go_wp2
          go_ret
          exact ⟨ret_int HS.out.symm, rfl⟩
        · by_cases a2 : y < x
          · rw [if_neg a1, if_pos a2] at hs
            have HS := Lib.hid hs
            have CK := CC.out x y
            rw [show cm x y = 1 by unfold cm; rw [if_neg a1, if_pos a2]] at CK
            have CK := Lib.hid CK
            clear hs a1 a2
            go_wp2_with fail
            refine CK.out.mono ?_
            rintro e w' ⟨rfl, rfl⟩
            go_wp2
            go_ret
            exact ⟨ret_int HS.out.symm, rfl⟩
          · rw [if_neg a1, if_neg a2] at hs
            have HS := Lib.hid hs
            have CK := CC.out x y
            rw [show cm x y = 0 by unfold cm; rw [if_neg a1, if_neg a2]] at CK
            have CK := Lib.hid CK
            clear hs a1 a2
            go_wp2_with fail
            refine CK.out.mono ?_
            rintro e w' ⟨rfl, rfl⟩
            go_wp2
            go_round
            case rel => exact ⟨k + 1, by go_num, by omega, by omega, HS⟩
            case measure => simp [intOf]; omega
      · have k2 : (ys.length : Int) ≤ k := by omega
        have HS : Hid (V = 1) := Lib.hid (by rw [hE.out]; exact lc_long h1 (by omega))
        go_wp2
        go_ret
        exact ⟨ret_int HS.out.symm, rfl⟩
    · have k1 : ¬ (k : Int) < xs.length := by omega
      by_cases h2 : xs.length < ys.length
      · have k2 : (xs.length : Int) < ys.length := by omega
        have HS : Hid (V = -1) := Lib.hid (by rw [hE.out]; exact lc_short (by omega) (by omega))
        go_wp2
        go_ret
        exact ⟨ret_int HS.out.symm, rfl⟩
      · have k2 : (ys.length : Int) ≤ xs.length := by omega
        have HS : Hid (V = 0) := Lib.hid (by rw [hE.out]; exact lc_end (by omega) (by omega))
        go_wp2
        go_ret
        exact ⟨ret_int HS.out.symm, rfl⟩
theorem compare1 (p q : Option Addr) (xs ys : List Int) (c d : Nat) (w : World) (hx : xs.length ≤ maxLen) (hy : ys.length ≤ maxLen) (RA : Hid (SlI w p xs)) (RB : Hid (SlI w q ys)) :
    Calls Try.prog 29 #[.slice p xs.length c, .slice q ys.length d] w (DR (.int .i64 (lc xs ys)) w) := by
  have C := Lib.hid (scmp1 p q xs ys c d w hx hy RA RB)
  go_enter Try.func29, Try.ntmps29
  go_wp2_with fail
  refine C.out.mono ?_
  rintro e w' ⟨rfl, rfl⟩
  go_wp2
  go_ret
  exact ⟨rfl, 0, rfl⟩
set_option maxHeartbeats 8000000 in
theorem rcompare1 (p q : Option Addr) (xs ys : List Int) (c d : Nat) (w : World) (hx : xs.length ≤ maxLen) (hy : ys.length ≤ maxLen) (RA : Hid (SlI w p xs)) (RB : Hid (SlI w q ys)) :
    Calls Try.prog 30 #[.slice p xs.length c, .slice q ys.length d] w (DR (.int .i64 (lc xs ys)) w) := by
  obtain ⟨V, hV⟩ : ∃ V, lc xs ys = V := ⟨_, rfl⟩
  rw [hV]
  have HV := Lib.hid hV
  clear hV
  unfold maxLen at hx hy
  go_enter Try.func30, Try.ntmps30
  go_wp2
  go_loopw [5] (fun i wr => ∃ (k m : Nat), i = .int .i64 k ∧ k ≤ xs.length ∧ k ≤ ys.length ∧ wr = w.drewN m ∧ Hid (V = lc (xs.drop k) (ys.drop k))) (fun i _ => xs.length - (intOf i).toNat)
  case atStart => exact ⟨0, 0, rfl, by omega, by omega, rfl, Lib.hid HV.out.symm⟩
  case round =>
    obtain ⟨k, m, rfl, hk, hk2, rfl, hE⟩ := hrel
    have k0 : (0 : Int) ≤ k := by omega
    by_cases h1 : k < xs.length
    · obtain ⟨b, o, rfl, hc⟩ := RA.out k h1
      have k1 : (k : Int) < xs.length := by omega
      by_cases h2 : k < ys.length
      · obtain ⟨b2, o2, rfl, hc2⟩ := RB.out k h2
        have hs := lc_step h1 h2
        rw [← hE.out] at hs
        obtain ⟨x, hx9⟩ : ∃ x, xs.getD k 0 = x := ⟨_, rfl⟩
        obtain ⟨y, hy9⟩ : ∃ y, ys.getD k 0 = y := ⟨_, rfl⟩
        rw [hx9] at hc hs
        rw [hy9] at hc2 hs
        have k2 : (k : Int) < ys.length := by omega
        clear hx9 hy9
        by_cases a1 : x < y
        · rw [if_pos a1] at hs
          have HS := Lib.hid hs
          have d1 : decide (x < y) = true := decide_eq_true a1
          clear hs
          go_wp2
          go_quiet (fail)
          go_wp2
          go_ret
          exact ⟨ret_int HS.out.symm, _, by first | rfl | (rw [World.drewN_drewN]; done) | (simp only [World.drewN_drewN]; rfl)⟩
        · have d1 : decide (x < y) = false := decide_eq_false a1
          by_cases a2 : y < x
          · rw [if_neg a1, if_pos a2] at hs
            have HS := Lib.hid hs
            have d2 : decide (y < x) = true := decide_eq_true a2
            clear hs
            go_wp2
            go_quiet (fail)
            go_wp2
            go_quiet (fail)
            go_wp2
            go_ret
            exact ⟨ret_int HS.out.symm, _, by first | rfl | (rw [World.drewN_drewN]; done) | (simp only [World.drewN_drewN]; rfl)⟩
          · rw [if_neg a1, if_neg a2] at hs
            have HS := Lib.hid hs
            have d2 : decide (y < x) = false := decide_eq_false a2
            clear hs
            go_wp2
            go_quiet (fail)
            go_wp2
            go_quiet (fail)
            go_wp2
            go_roundw
            case rel => exact ⟨k + 1, _, by go_num, by omega, by omega, by first | rfl | (rw [World.drewN_drewN]; done) | (simp only [World.drewN_drewN]; rfl), HS⟩
            case measure => simp [intOf]; omega
      · have k2 : ¬ (k : Int) < ys.length := by omega
        have k3 : ¬ (xs.length : Int) < ys.length := by omega
        have k4 : (ys.length : Int) < xs.length := by omega
        have HS : Hid (V = 1) := Lib.hid (by rw [hE.out]; exact lc_long h1 (by omega))
        go_wp2
        go_ret
        exact ⟨ret_int HS.out.symm, _, rfl⟩
    · have k1 : ¬ (k : Int) < xs.length := by omega
      by_cases h2 : xs.length < ys.length
      · have k2 : (xs.length : Int) < ys.length := by omega
        have HS : Hid (V = -1) := Lib.hid (by rw [hE.out]; exact lc_short (by omega) (by omega))
        go_wp2
        go_ret
        exact ⟨ret_int HS.out.symm, _, rfl⟩
      · have k2 : ¬ (xs.length : Int) < ys.length := by omega
        have k3 : ¬ (ys.length : Int) < xs.length := by omega
        have HS : Hid (V = 0) := Lib.hid (by rw [hE.out]; exact lc_end (by omega) (by omega))
        go_wp2
        go_ret
        exact ⟨ret_int HS.out.symm, _, rfl⟩
end Go.Proofs.Ytkdfidjoighknaa.Bx
