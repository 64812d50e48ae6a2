/- Peak of the reference. -/
import Derived.Test.YtndmpoomdoojpaaK6
namespace Go.Proofs.Ytndmpoomdoojpaa.Ck
open Go.ChangeShapes Go.WideShapes Go.ChangeAt Go.RowKit
set_option linter.unusedVariables false

theorem pk1_has (l : List Int) (op A y z : Int) : (pk1 l (op, A, y)).contains z = (l.contains z || ((op == 2) && (y == z))) := by
  unfold pk1
  by_cases o2 : op = 2
  · subst o2
    cases hc : l.contains y
    · rw [if_pos ⟨rfl, rfl⟩]
      rw [Bool.eq_iff_iff]
      simp
      constructor
      · rintro (h | h)
        · exact .inl h
        · exact .inr h.symm
      · rintro (h | h)
        · exact .inl h
        · exact .inr h.symm
    · rw [if_neg (by simp)]
      by_cases hy : y = z
      · subst hy; rw [hc]; rfl
      · rw [show (y == z) = false from beq_false_of_ne hy]; simp
  · rw [if_neg (fun h => o2 h.1), show (op == 2) = false from beq_false_of_ne o2]; simp
theorem pk1_grow (l : List Int) (op A z : Int) : (pk1 l (op, A, z)).length = if ((op != 2) || l.contains z) = true then l.length else l.length + 1 := by
  unfold pk1
  by_cases o2 : op = 2
  · subst o2
    cases hc : l.contains z <;> simp
  · rw [if_neg (fun h => o2 h.1), if_pos (by simp [o2])]
theorem below_drewN' {B : Nat} {a w : World} (h : Below B a w) (n : Nat) : Below B a (w.drewN n) := ⟨h.os, h.tape, h.output, h.size, h.block⟩
set_option maxRecDepth 100000 in
set_option maxHeartbeats 8000000 in
theorem rpeak (p : Option Addr) (xs : List Act3) (c : Nat) (w : World) (hn : xs.length ≤ 65536) (RA : Hid (SlA w p xs)) :
    Calls Try.prog 31 #[.slice p xs.length c] w fun e w' => e = .returned (.int .i64 ((pkS xs xs.length).length : Int)) ∧ Below w.heap.size w w' := by
  go_enter Try.func31, Try.ntmps31
  go_wp2
  go_loopw [3, 4] (fun n i wr => ∃ (k m l : Nat), wr = w.drewN m ∧ n = .int .i64 (l : Int) ∧ i = .int .i64 k ∧ k ≤ xs.length ∧ l ≤ k ∧ Hid ((pkS xs k).length = l)) (fun _ i _ => xs.length - (intOf i).toNat)
  case atStart => exact ⟨0, 0, 0, rfl, rfl, rfl, by omega, by omega, Lib.hid rfl⟩
  case round =>
    obtain ⟨i, m, l, rfl, rfl, rfl, hi, hli, hP⟩ := hrel
    have ii : (0 : Int) ≤ i := by omega
    by_cases hlt : i < xs.length
    · obtain ⟨b, o, rfl, c0, c1, c2⟩ := RA.out i hlt
      have i2 : (i : Int) < xs.length := by omega
      have hst := pkS_step hlt
      obtain ⟨a, ha⟩ : ∃ a, xs.getD i (0, 0, 0) = a := ⟨_, rfl⟩
      rw [ha] at c0 c1 c2 hst
      clear ha
      obtain ⟨op, A, z⟩ := a
      simp only at c0 c1 c2
      have hgr := pk1_grow (pkS xs i) op A z
      rw [← hst, hP.out] at hgr
      have HG := Lib.hid hgr
      obtain ⟨q, hq⟩ : ∃ q, (op != 2) = q := ⟨_, rfl⟩
      have HQ : Hid (q = ((op != 2) || (pkS xs 0).contains z)) := Lib.hid (by rw [hq]; simp [pkS])
      rw [hq] at HG
      clear hst hgr
      go_wp2
      have HO := Lib.hid hq
      clear hq
      go_loopw [5, 6] (fun t j wr => ∃ (k m' : Nat) (B : Bool), wr = w.drewN m' ∧ t = .bool B ∧ j = .int .i64 k ∧ k ≤ i ∧ Hid (B = ((op != 2) || (pkS xs k).contains z))) (fun _ j _ => i - (intOf j).toNat)
      case atStart => exact ⟨0, m, q, rfl, rfl, rfl, by omega, HQ⟩
      case round =>
        obtain ⟨k, m', B, rfl, rfl, rfl, hk, hB⟩ := hrel
        have kk : (0 : Int) ≤ k := by omega
        by_cases hki : k < i
        · obtain ⟨b', o', e', d0, d1, d2⟩ := RA.out k (by omega)
          cases e'
          have k1 : (k : Int) < i := by omega
          have k2 : (k : Int) < xs.length := by omega
          have hs2 := pkS_step (xs := xs) (k := k) (by omega)
          obtain ⟨a, ha⟩ : ∃ a, xs.getD k (0, 0, 0) = a := ⟨_, rfl⟩
          rw [ha] at d0 d1 d2 hs2
          clear ha
          obtain ⟨op', A', z'⟩ := a
          simp only at d0 d1 d2
          have hh := pk1_has (pkS xs k) op' A' z' z
          rw [← hs2] at hh
          have HH := Lib.hid hh
          clear hh hs2
          cases B
          · by_cases o2 : op' = 2
            · have e1 : (op' == 2) = true := beq_iff_eq.2 o2
              obtain ⟨t, ht⟩ : ∃ t, (z' == z) = t := ⟨_, rfl⟩
              have HT := Lib.hid ht
              have HE := Lib.hid e1
              clear ht o2
              have ht := HT.out
              cases t
              all_goals
                go_wp2
                go_quiet (fail)
                go_wp2
                go_roundw
                case rel => exact ⟨k + 1, _, _, by first | rfl | rw [World.drewN_drewN], rfl, by go_num, by omega, Lib.hid (by rw [HH.out, HE.out, HT.out, ← Bool.or_assoc, ← hB.out]; rfl)⟩
                case measure => simp [intOf]; omega
            · have e1 : (op' == 2) = false := beq_false_of_ne o2
              have HE := Lib.hid e1
              clear o2
              go_wp2
              go_quiet (fail)
              go_wp2
              go_roundw
              case rel => exact ⟨k + 1, _, _, by first | rfl | rw [World.drewN_drewN], rfl, by go_num, by omega, Lib.hid (by rw [HH.out, HE.out, ← Bool.or_assoc, ← hB.out]; rfl)⟩
              case measure => simp [intOf]; omega
          · go_wp2
            go_quiet (fail)
            go_wp2
            go_roundw
            case rel => exact ⟨k + 1, _, true, by first | rfl | rw [World.drewN_drewN], rfl, by go_num, by omega, Lib.hid (by rw [HH.out, ← Bool.or_assoc, ← hB.out]; rfl)⟩
            case measure => simp [intOf]; omega
        · obtain rfl : k = i := by omega
          have hg := HG.out
          rw [show q = (op != 2) from HO.out.symm, ← hB.out] at hg
          cases B
          · have HL : Hid ((pkS xs (k + 1)).length = l + 1) := Lib.hid (by simpa using hg)
            clear hg
            go_wp2
            go_roundw
            case rel => exact ⟨k + 1, _, l + 1, rfl, by go_num, by go_num, by omega, by omega, HL⟩
            case measure => simp [intOf]; omega
          · have HL : Hid ((pkS xs (k + 1)).length = l) := Lib.hid (by simpa using hg)
            clear hg
            go_wp2
            go_roundw
            case rel => exact ⟨k + 1, _, l, rfl, rfl, by go_num, by omega, by omega, HL⟩
            case measure => simp [intOf]; omega
    · obtain rfl : i = xs.length := by omega
      have HL := Lib.hid hP.out.symm
      go_wp2
      go_ret
      exact ⟨ret_int (by rw [HL.out]), below_drewN' (Below.refl _ _) _⟩
end Go.Proofs.Ytndmpoomdoojpaa.Ck
