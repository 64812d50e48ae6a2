/- Boxes: contains. -/
import Derived.Test.YtkdfidjoighknaaB5
namespace Go.Proofs.Ytkdfidjoighknaa.Bx
open Go.ChangeShapes Go.WideShapes Go.ChangeAt Go.RowKit
set_option linter.unusedVariables false
set_option linter.unusedSimpArgs false
def ib (zs ps : List Int) (i : Nat) : Bool := decide (0 ≤ ps.getD i 0) && decide (ps.getD i 0 < zs.getD i 0)
/-- A point of a box. -/
def inB (zs ps : List Int) : Bool := decide (bV zs = 0 ∧ ps.length = zs.length) && (List.range zs.length).all (ib zs ps)
theorem inB_of {zs ps : List Int} (h1 : bV zs = 0) (h2 : ps.length = zs.length) {k : Nat} (h : ∀ j, j < k → ib zs ps j = true) (hk : zs.length ≤ k) : inB zs ps = true := by
  unfold inB
  rw [decide_eq_true ⟨h1, h2⟩, Bool.true_and, List.all_eq_true]
  intro j hj
  exact h j (by have := List.mem_range.1 hj; omega)
theorem inB_no {zs ps : List Int} {k : Nat} (hk : k < zs.length) (h : ib zs ps k = false) : inB zs ps = false := by
  unfold inB
  rw [show (List.range zs.length).all (ib zs ps) = false from List.all_eq_false.2 ⟨k, List.mem_range.2 hk, by rw [h]; decide⟩, Bool.and_false]
theorem inB_ne {zs ps : List Int} (h : ¬ (bV zs = 0 ∧ ps.length = zs.length)) : inB zs ps = false := by
  unfold inB
  rw [decide_eq_false h, Bool.false_and]
theorem inB_yes {zs ps : List Int} (h : inB zs ps = true) : bV zs = 0 ∧ ps.length = zs.length ∧ ∀ j, j < zs.length → 0 ≤ ps.getD j 0 ∧ ps.getD j 0 < zs.getD j 0 := by
  unfold inB at h
  rw [Bool.and_eq_true] at h
  obtain ⟨h1, h2⟩ := of_decide_eq_true h.1
  refine ⟨h1, h2, fun j hj => ?_⟩
  have h3 := List.all_eq_true.1 h.2 j (List.mem_range.2 hj)
  unfold ib at h3
  rw [Bool.and_eq_true] at h3
  exact ⟨of_decide_eq_true h3.1, of_decide_eq_true h3.2⟩
theorem inB_full {zs ps : List Int} (h : inB zs ps = true) : zs.length ≤ 16 ∧ zs.any low = false ∧ cnt zs = sp zs ∧ 1 ≤ sp zs ∧ sp zs ≤ 65536 := by
  obtain ⟨h1, h2, h3⟩ := inB_yes h
  obtain ⟨h4, h5, h6⟩ := bV_facts h1
  have hz : zs.any zr = false := by
    rw [List.any_eq_false]
    intro x hx
    obtain ⟨j, hj, e⟩ := List.mem_iff_getElem.1 hx
    have := h3 j hj
    rw [getD_at hj, e] at this
    unfold zr
    simp
    omega
  obtain ⟨a, b, c⟩ := h6 hz
  exact ⟨h4, a, if_pos h1, b, c⟩
theorem bval_dr {p : Option Addr} {zs : List Int} {c : Nat} {w : World} (hn : zs.length ≤ maxLen) (RA : Hid (SlI w p zs)) : Calls Try.prog 15 #[.slice p zs.length c] w (DR (.int .i64 (bV zs)) w) :=
  (bval1 p zs c w hn RA).mono fun e w' ⟨h1, h2⟩ => ⟨h1, 0, h2.symm⟩
theorem rbval_dr {p : Option Addr} {zs : List Int} {c : Nat} {w : World} (hn : zs.length ≤ maxLen) (RA : Hid (SlI w p zs)) : Calls Try.prog 16 #[.slice p zs.length c] w (DR (.int .i64 (bV zs)) w) := rbval1 p zs c w hn RA
set_option maxHeartbeats 8000000 in
theorem cont1_eq (n : Nat) (p q : Option Addr) (zs ps : List Int) (c d : Nat) (w : World) (hn : n ≤ maxLen) (hb : Hid (bV zs = 0)) (HZl : Hid (zs.length = n)) (HPl : Hid (ps.length = n)) (RA : Hid (SlI w p zs)) (RB : Hid (SlI w q ps)) :
    Calls Try.prog 51 #[.slice p n c, .slice q n d] w (DR (.bool (inB zs ps)) w) := by
  have C := Lib.hid (bval_dr (c := c) (w := w) (by rw [HZl.out]; exact hn) RA)
  rw [hb.out, HZl.out] at C
  unfold maxLen at hn
  go_enter Try.func51, Try.ntmps51
  go_wp2_with fail
  refine C.out.mono ?_
  rintro e w' ⟨rfl, md, rfl⟩
  clear C
  go_wp2
  go_loopw [19] (fun i wr => ∃ (k m : Nat), i = .int .i64 k ∧ k ≤ n ∧ wr = w.drewN m ∧ Hid (∀ j, j < k → ib zs ps j = true)) (fun i _ => n - (intOf i).toNat)
  case atStart => exact ⟨0, md, rfl, by omega, rfl, Lib.hid fun j hj => by omega⟩
  case round =>
    obtain ⟨k, m, rfl, hk, rfl, hL⟩ := hrel
    have k0 : (0 : Int) ≤ k := by omega
    by_cases hlt : k < n
    · obtain ⟨b, o, rfl, hc⟩ := RA.out k (by rw [HZl.out]; exact hlt)
      obtain ⟨b2, o2, rfl, hc2⟩ := RB.out k (by rw [HPl.out]; exact hlt)
      obtain ⟨z, hz⟩ : ∃ z, zs.getD k 0 = z := ⟨_, rfl⟩
      obtain ⟨y, hy⟩ : ∃ y, ps.getD k 0 = y := ⟨_, rfl⟩
      rw [hz] at hc
      rw [hy] at hc2
      have HIB : Hid (ib zs ps k = (decide (0 ≤ y) && decide (y < z))) := Lib.hid (by unfold ib; rw [hz, hy])
      have k1 : (k : Int) < n := by omega
      clear hz hy
      by_cases h1 : y < 0
      · have HF : Hid (inB zs ps = false) := Lib.hid (inB_no (k := k) (by rw [HZl.out]; exact hlt) (by rw [HIB.out, decide_eq_false (by omega)]; rfl))
        have d1 : decide (y < 0) = true := decide_eq_true h1
        go_wp2
        go_ret
        exact ⟨ret_bool HF.out.symm, m, rfl⟩
      · have d1 : decide (y < 0) = false := decide_eq_false h1
        by_cases h2 : z ≤ y
        · have HF : Hid (inB zs ps = false) := Lib.hid (inB_no (k := k) (by rw [HZl.out]; exact hlt) (by rw [HIB.out, decide_eq_false (p := y < z) (by omega), Bool.and_false]))
          have d2 : decide (z ≤ y) = true := decide_eq_true h2
          go_wp2
          go_ret
          exact ⟨ret_bool HF.out.symm, m, rfl⟩
        · have d2 : decide (z ≤ y) = false := decide_eq_false h2
          have HL2 : Hid (∀ j, j < k + 1 → ib zs ps j = true) := Lib.hid fun j hj => by
            rcases Nat.lt_or_ge j k with h | h
            · exact hL.out j h
            · obtain rfl : j = k := by omega
              rw [HIB.out, decide_eq_true (p := 0 ≤ y) (by omega), decide_eq_true (p := y < z) (by omega)]; rfl
          go_wp2
          go_roundw
          case rel => exact ⟨k + 1, _, by go_num, by omega, by first | rfl | rw [World.drewN_drewN], HL2⟩
          case measure => simp [intOf]; omega
    · have k1 : ¬ (k : Int) < n := by omega
      have HT : Hid (inB zs ps = true) := Lib.hid (inB_of hb.out (by rw [HPl.out, HZl.out]) hL.out (by rw [HZl.out]; omega))
      go_wp2
      go_ret
      exact ⟨ret_bool HT.out.symm, m, rfl⟩
set_option maxHeartbeats 8000000 in
theorem cont1 (p q : Option Addr) (zs ps : List Int) (c d : Nat) (w : World) (hn : zs.length ≤ maxLen) (hp : ps.length ≤ maxLen) (RA : Hid (SlI w p zs)) (RB : Hid (SlI w q ps)) :
    Calls Try.prog 51 #[.slice p zs.length c, .slice q ps.length d] w (DR (.bool (inB zs ps)) w) := by
  have C := Lib.hid (bval_dr (c := c) (w := w) hn RA)
  by_cases hb : bV zs = 0
  · by_cases hl : ps.length = zs.length
    · have D := cont1_eq zs.length p q zs ps c d w hn (Lib.hid hb) (Lib.hid rfl) (Lib.hid hl) RA RB
      rw [hl]
      exact D
    · rw [inB_ne (zs := zs) (ps := ps) (fun h => hl h.2)]
      rw [hb] at C
      have k2 : ((ps.length : Int) == zs.length) = false := beq_false_of_ne (by omega)
      have k3 : (ps.length == zs.length) = false := beq_false_of_ne hl
      have HL := Lib.hid hl
      unfold maxLen at hn hp
      clear hb hl
      go_enter Try.func51, Try.ntmps51
      go_wp2_with fail
      refine C.out.mono ?_
      rintro e w' ⟨rfl, md, rfl⟩
      go_wp2
      go_ret
      exact ⟨rfl, md, rfl⟩
  · rw [inB_ne (zs := zs) (ps := ps) (fun h => hb h.1)]
    obtain ⟨V, hV⟩ : ∃ V, bV zs = V := ⟨_, rfl⟩
    rw [hV] at C hb
    have q6 : (V == 0) = false := beq_false_of_ne hb
    unfold maxLen at hn hp
    clear hV
    go_enter Try.func51, Try.ntmps51
    go_wp2_with fail
    refine C.out.mono ?_
    rintro e w' ⟨rfl, md, rfl⟩
    go_wp2
    go_ret
    exact ⟨rfl, md, rfl⟩
end Go.Proofs.Ytkdfidjoighknaa.Bx
