/- Boxes: names. -/
import Derived.Test.YtkdfidjoighknaaB15
import Derived.Test.YtkdfidjoighknaaBL
namespace Go.Proofs.Ytkdfidjoighknaa.Bx
open Go.ChangeShapes Go.WideShapes Go.ChangeAt Go.RowKit
set_option linter.unusedVariables false
set_option linter.unusedSimpArgs false
open Go.Proofs.Ytkdfidjoighknaa.Nm Go.Proofs.Ytkdfidjoighknaa.Ln
/-- The place of a name, or the length. -/
def fx (ns : List ByteArray) (s : ByteArray) : Nat := ns.findIdx fun t => s.toList == t.toList
theorem fx_le (ns : List ByteArray) (s : ByteArray) : fx ns s ≤ ns.length := List.findIdx_le_length
theorem getS {ns : List ByteArray} {k : Nat} (h : k < ns.length) : ns.getD k ByteArray.empty = ns[k] := by rw [List.getD, List.getElem?_eq_getElem h]; rfl
theorem fx_at {ns : List ByteArray} {s : ByteArray} {k : Nat} (hk : k < ns.length) (h : (s.toList == (ns.getD k ByteArray.empty).toList) = true) (hL : ∀ j, j < k → (s.toList == (ns.getD j ByteArray.empty).toList) = false) : fx ns s = k := by
  refine (List.findIdx_eq hk).2 ⟨by rw [← getS hk]; exact h, fun j hj => ?_⟩
  have := hL j hj
  rw [getS (by omega)] at this
  exact this
theorem fx_no {ns : List ByteArray} {s : ByteArray} {k : Nat} (hk : ns.length ≤ k) (hL : ∀ j, j < k → (s.toList == (ns.getD j ByteArray.empty).toList) = false) : fx ns s = ns.length := by
  refine List.findIdx_eq_length.2 fun x hx => ?_
  obtain ⟨j, hj, rfl⟩ := List.getElem_of_mem hx
  have := hL j (by omega)
  rw [getS hj] at this
  exact this
def ixV (ls : List ByteArray) (s : ByteArray) : Int := if fx ls s < ls.length then (fx ls s : Int) else -1
def exV (n : Nat) (ls : List ByteArray) (zs : List Int) (s : ByteArray) : Int := if fx ls s < n then zs.getD (fx ls s) 0 else 0
set_option maxHeartbeats 4000000 in
theorem sidx1 (p : Option Addr) (ls : List ByteArray) (c : Nat) (s : ByteArray) (w : World) (hn : ls.length ≤ maxLen) (RA : Hid (SlT w p ls)) :
    Calls Try.prog 56 #[.slice p ls.length c, .string s] w fun e w' => e = .returned (.int .i64 (ixV ls s)) ∧ w = w' := by
  have HLE := Lib.hid (fx_le ls s)
  unfold maxLen at hn
  go_enter Try.func56, Try.ntmps56
  go_wp2
  go_loop [8] (fun i => ∃ (k : Nat), i = .int .i64 k ∧ k ≤ ls.length ∧ Hid (∀ j, j < k → (s.toList == (ls.getD j ByteArray.empty).toList) = false)) (fun i => ls.length - (intOf i).toNat)
  case atStart => exact ⟨0, rfl, by omega, Lib.hid fun j hj => by omega⟩
  case round =>
    obtain ⟨k, rfl, hk, hL⟩ := hrel
    by_cases hlt : k < ls.length
    · obtain ⟨b, o, rfl, hc⟩ := RA.out k hlt
      obtain ⟨x, hx⟩ : ∃ x, ls.getD k ByteArray.empty = x := ⟨_, rfl⟩
      rw [hx] at hc
      have HX := Lib.hid hx
      clear hx
      obtain ⟨t, ht⟩ : ∃ t, (s.toList == x.toList) = t := ⟨_, rfl⟩
      cases t
      · have hL2 : Hid (∀ j, j < k + 1 → (s.toList == (ls.getD j ByteArray.empty).toList) = false) := Lib.hid fun j hj => by
          rcases (by omega : j < k ∨ j = k) with h | rfl
          · exact hL.out j h
          · rw [HX.out]; exact ht
        go_wp2
        go_round
        case rel => exact ⟨k + 1, by go_num, by omega, hL2⟩
        case measure => simp [intOf]; omega
      · have HE : Hid (ixV ls s = (k : Int)) := Lib.hid (by
          unfold ixV
          have := fx_at hlt (by rw [HX.out]; exact ht) hL.out
          rw [this, if_pos hlt])
        go_wp2
        go_ret
        exact ⟨by rw [HE.out]; rfl, rfl⟩
    · have HE : Hid (ixV ls s = -1) := Lib.hid (by
        unfold ixV
        have := fx_no (k := k) (by omega) hL.out
        rw [this, if_neg (by omega)])
      go_wp2
      go_ret
      exact ⟨by rw [HE.out]; rfl, rfl⟩
theorem scont1 (p : Option Addr) (ls : List ByteArray) (c : Nat) (s : ByteArray) (w : World) (hn : ls.length ≤ maxLen) (RA : Hid (SlT w p ls)) :
    Calls Try.prog 55 #[.slice p ls.length c, .string s] w fun e w' => e = .returned (.bool (decide (fx ls s < ls.length))) ∧ w = w' := by
  have C := Lib.hid (sidx1 p ls c s w hn RA)
  by_cases h : fx ls s < ls.length
  · rw [show ixV ls s = (fx ls s : Int) from if_pos h] at C
    rw [decide_eq_true h]
    have i0 : (0 : Int) ≤ (fx ls s : Int) := by omega
    generalize fx ls s = i at *
    clear h
    go_enter Try.func55, Try.ntmps55
    go_wp2_with fail
    refine C.out.mono ?_
    rintro e w' ⟨rfl, rfl⟩
    go_wp2
    go_ret
    exact ⟨rfl, rfl⟩
  · rw [show ixV ls s = -1 from if_neg h] at C
    rw [decide_eq_false h]
    clear h
    go_enter Try.func55, Try.ntmps55
    go_wp2_with fail
    refine C.out.mono ?_
    rintro e w' ⟨rfl, rfl⟩
    go_wp2
    go_ret
    exact ⟨rfl, rfl⟩
set_option maxHeartbeats 4000000 in
theorem ext1 (n : Nat) (p q : Option Addr) (ls : List ByteArray) (zs : List Int) (c d : Nat) (s : ByteArray) (w : World) (hn : n ≤ maxLen) (HL1 : Hid (ls.length = n)) (HL2 : Hid (zs.length = n)) (RA : Hid (SlT w p ls)) (RB : Hid (SlI w q zs)) :
    Calls Try.prog 59 #[.slice p n c, .slice q n d, .string s] w fun e w' => e = .returned (.tuple #[.int .i64 (exV n ls zs s), .bool (decide (fx ls s < n))]) ∧ w = w' := by
  unfold maxLen at hn
  go_enter Try.func59, Try.ntmps59
  go_wp2
  go_loop [8] (fun i => ∃ (k : Nat), i = .int .i64 k ∧ k ≤ n ∧ Hid (∀ j, j < k → (s.toList == (ls.getD j ByteArray.empty).toList) = false)) (fun i => n - (intOf i).toNat)
  case atStart => exact ⟨0, rfl, by omega, Lib.hid fun j hj => by omega⟩
  case round =>
    obtain ⟨k, rfl, hk, hL⟩ := hrel
    have k0 : (0 : Int) ≤ k := by omega
    by_cases hlt : k < n
    · obtain ⟨b, o, rfl, hc⟩ := RA.out k (by rw [HL1.out]; exact hlt)
      obtain ⟨b2, o2, rfl, hc2⟩ := RB.out k (by rw [HL2.out]; exact hlt)
      obtain ⟨x, hx⟩ : ∃ x, ls.getD k ByteArray.empty = x := ⟨_, rfl⟩
      rw [hx] at hc
      have HX := Lib.hid hx
      have k1 : (k : Int) < n := by omega
      clear hx
      obtain ⟨t, ht⟩ : ∃ t, (s.toList == x.toList) = t := ⟨_, rfl⟩
      have ht2 : (x.toList == s.toList) = t := by rw [← ht, Bool.eq_iff_iff, beq_iff_eq, beq_iff_eq]; exact eq_comm
      cases t
      · have hL2 : Hid (∀ j, j < k + 1 → (s.toList == (ls.getD j ByteArray.empty).toList) = false) := Lib.hid fun j hj => by
          rcases (by omega : j < k ∨ j = k) with h | rfl
          · exact hL.out j h
          · rw [HX.out]; exact ht
        go_wp2
        go_round
        case rel => exact ⟨k + 1, by go_num, by omega, hL2⟩
        case measure => simp [intOf]; omega
      · obtain ⟨y, hy⟩ : ∃ y, zs.getD k 0 = y := ⟨_, rfl⟩
        rw [hy] at hc2
        have HE : Hid (exV n ls zs s = y ∧ decide (fx ls s < n) = true) := Lib.hid (by
          have h := fx_at (by rw [HL1.out]; exact hlt) (by rw [HX.out]; exact ht) hL.out
          unfold exV
          rw [h, if_pos hlt, decide_eq_true hlt]
          exact ⟨hy, rfl⟩)
        clear hy
        go_wp2
        refine bodyPost_ret (v := .tuple #[.int .i64 y, .bool true]) (by simp [results, Try.results59, go_sem]) rfl ⟨?_, rfl⟩
        rw [HE.out.1, HE.out.2]
    · have HE : Hid (exV n ls zs s = 0 ∧ decide (fx ls s < n) = false) := Lib.hid (by
        have := fx_no (k := k) (by rw [HL1.out]; omega) hL.out
        have h : ¬ fx ls s < n := by rw [this, HL1.out]; omega
        unfold exV
        rw [if_neg h, decide_eq_false h]
        exact ⟨rfl, rfl⟩)
      go_wp2
      refine bodyPost_ret (v := .tuple #[.int .i64 0, .bool false]) (by simp [results, Try.results59, go_sem]) rfl ⟨?_, rfl⟩
      rw [HE.out.1, HE.out.2]
end Go.Proofs.Ytkdfidjoighknaa.Bx
