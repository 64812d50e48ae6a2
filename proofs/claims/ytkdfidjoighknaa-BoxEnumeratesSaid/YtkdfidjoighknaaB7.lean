/- Boxes: Inside. -/
import Derived.Test.YtkdfidjoighknaaB6
namespace Go.Proofs.Ytkdfidjoighknaa.Bx
open Go.ChangeShapes Go.WideShapes Go.ChangeAt Go.RowKit
set_option linter.unusedVariables false
set_option linter.unusedSimpArgs false
set_option maxHeartbeats 8000000 in
theorem rcont1_eq (n : Nat) (p q : Option Addr) (zs ps : List Int) (c d : Nat) (w : World) (hn : n ≤ maxLen) (hb : Hid (bV zs = 0)) (HZl : Hid (zs.length = n)) (HPl : Hid (ps.length = n)) (RA : Hid (SlI w p zs)) (RB : Hid (SlI w q ps)) :
    Calls Try.prog 28 #[.slice p n c, .slice q n d] w (DR (.bool (inB zs ps)) w) := by
  have C := Lib.hid (rbval_dr (c := c) (w := w) (by rw [HZl.out]; exact hn) RA)
  rw [hb.out, HZl.out] at C
  unfold maxLen at hn
  go_enter Try.func28, Try.ntmps28
  go_wp2_with fail
  refine C.out.mono ?_
  rintro e w' ⟨rfl, md, rfl⟩
  clear C
  go_wp2
  go_loopw [5] (fun i wr => ∃ (k m : Nat), i = .int .i64 k ∧ k ≤ n ∧ wr = w.drewN m ∧ Hid (∀ j, j < k → ib zs ps j = true)) (fun i _ => n - (intOf i).toNat)
  case atStart => exact ⟨0, md, rfl, by omega, rfl, Lib.hid fun j hj => by omega⟩
  case round =>
    obtain ⟨k, m, rfl, hk, rfl, hL⟩ := hrel
    have k0 : (0 : Int) ≤ k := by omega
    by_cases hlt : k < n
    · obtain ⟨b, o, rfl, hc⟩ := RA.out k (by rw [HZl.out]; exact hlt)
      obtain ⟨b2, o2, rfl, hc2⟩ := RB.out k (by rw [HPl.out]; exact hlt)
      obtain ⟨z, hz⟩ : ∃ z, zs.getD k 0 = z := ⟨_, rfl⟩
      obtain ⟨y, hy⟩ : ∃ y, ps.getD k 0 = y := ⟨_, rfl⟩
      rw [hz] at hc
      rw [hy] at hc2
      have HIB : Hid (ib zs ps k = (decide (0 ≤ y) && decide (y < z))) := Lib.hid (by unfold ib; rw [hz, hy])
      have k1 : (k : Int) < n := by omega
      clear hz hy
      by_cases h1 : y < 0
      · have HF : Hid (inB zs ps = false) := Lib.hid (inB_no (k := k) (by rw [HZl.out]; exact hlt) (by rw [HIB.out, decide_eq_false (by omega)]; rfl))
        have d1 : decide (y < 0) = true := decide_eq_true h1
        go_wp2
        go_quiet (fail)
        go_wp2
        go_ret
        exact ⟨ret_bool HF.out.symm, _, by first | rfl | rw [World.drewN_drewN]⟩
      · have d1 : decide (y < 0) = false := decide_eq_false h1
        by_cases h2 : z ≤ y
        · have HF : Hid (inB zs ps = false) := Lib.hid (inB_no (k := k) (by rw [HZl.out]; exact hlt) (by rw [HIB.out, decide_eq_false (p := y < z) (by omega), Bool.and_false]))
          have d2 : decide (z ≤ y) = true := decide_eq_true h2
          go_wp2
          go_quiet (fail)
          go_wp2
          go_ret
          exact ⟨ret_bool HF.out.symm, _, by first | rfl | rw [World.drewN_drewN]⟩
        · have d2 : decide (z ≤ y) = false := decide_eq_false h2
          have HL2 : Hid (∀ j, j < k + 1 → ib zs ps j = true) := Lib.hid fun j hj => by
            rcases Nat.lt_or_ge j k with h | h
            · exact hL.out j h
            · obtain rfl : j = k := by omega
              rw [HIB.out, decide_eq_true (p := 0 ≤ y) (by omega), decide_eq_true (p := y < z) (by omega)]; rfl
          go_wp2
          go_quiet (fail)
          go_wp2
          go_roundw
          case rel => exact ⟨k + 1, _, by go_num, by omega, by first | rfl | rw [World.drewN_drewN], HL2⟩
          case measure => simp [intOf]; omega
    · have k1 : ¬ (k : Int) < n := by omega
      have HT : Hid (inB zs ps = true) := Lib.hid (inB_of hb.out (by rw [HPl.out, HZl.out]) hL.out (by rw [HZl.out]; omega))
      go_wp2
      go_ret
      exact ⟨ret_bool HT.out.symm, m, rfl⟩
set_option maxHeartbeats 8000000 in
theorem rcont1 (p q : Option Addr) (zs ps : List Int) (c d : Nat) (w : World) (hn : zs.length ≤ maxLen) (hp : ps.length ≤ maxLen) (RA : Hid (SlI w p zs)) (RB : Hid (SlI w q ps)) :
    Calls Try.prog 28 #[.slice p zs.length c, .slice q ps.length d] w (DR (.bool (inB zs ps)) w) := by
  have C := Lib.hid (rbval_dr (c := c) (w := w) hn RA)
  by_cases hb : bV zs = 0
  · by_cases hl : ps.length = zs.length
    · have D := rcont1_eq zs.length p q zs ps c d w hn (Lib.hid hb) (Lib.hid rfl) (Lib.hid hl) RA RB
      rw [hl]
      exact D
    · rw [inB_ne (zs := zs) (ps := ps) (fun h => hl h.2)]
      rw [hb] at C
      have k2 : ((ps.length : Int) == zs.length) = false := beq_false_of_ne (by omega)
      have k3 : (ps.length == zs.length) = false := beq_false_of_ne hl
      have HL := Lib.hid hl
      unfold maxLen at hn hp
      clear hb hl
      go_enter Try.func28, Try.ntmps28
      go_wp2_with fail
      refine C.out.mono ?_
      rintro e w' ⟨rfl, md, rfl⟩
      go_wp2
      go_ret
      exact ⟨rfl, md, rfl⟩
  · rw [inB_ne (zs := zs) (ps := ps) (fun h => hb h.1)]
    obtain ⟨V, hV⟩ : ∃ V, bV zs = V := ⟨_, rfl⟩
    rw [hV] at C hb
    have q6 : (V == 0) = false := beq_false_of_ne hb
    unfold maxLen at hn hp
    clear hV
    go_enter Try.func28, Try.ntmps28
    go_wp2_with fail
    refine C.out.mono ?_
    rintro e w' ⟨rfl, md, rfl⟩
    go_wp2
    go_ret
    exact ⟨rfl, md, rfl⟩
end Go.Proofs.Ytkdfidjoighknaa.Bx
