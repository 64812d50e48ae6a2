/- Linear forms: the greatest common divisor. -/
import Derived.Test.YthdeaneffnlffaaY24
namespace Go.Proofs.Ythdeaneffnlffaa.Ln
open Go.ChangeShapes Go.WideShapes Go.ChangeAt Go.RowKit
set_option linter.unusedVariables false
set_option linter.unusedSimpArgs false
/-- The greatest common divisor of a number and of the magnitudes of the coefficients. -/
def gcdL (g : Nat) : List Mo → Nat
  | [] => g
  | m :: r => gcdL (Nat.gcd g m.2.natAbs) r
theorem gcdL_step {xs : List Mo} {j g : Nat} (h : j < xs.length) : gcdL g (xs.drop j) = gcdL (Nat.gcd g (xs.getD j mo0).2.natAbs) (xs.drop (j + 1)) := by
  rw [List.drop_eq_getElem_cons h]
  have e1 : xs.getD j mo0 = xs[j] := by unfold List.getD; rw [List.getElem?_eq_getElem h]; rfl
  rw [e1]
  rfl
theorem gcd_bd {g n : Nat} (hg : g < 18446744073709551616) (hn : n < 18446744073709551616) : Nat.gcd g n < 18446744073709551616 := by
  by_cases h : n = 0
  · subst h; rw [Nat.gcd_zero_right]; exact hg
  · exact Nat.lt_of_le_of_lt (Nat.le_of_dvd (by omega) (Nat.gcd_dvd_right g n)) hn
theorem gcd_step {g n : Nat} : Nat.gcd n (g % n) = Nat.gcd g n := by rw [Nat.gcd_comm n, ← Nat.gcd_rec, Nat.gcd_comm]
set_option maxRecDepth 100000 in
set_option maxHeartbeats 16000000 in
theorem gcd1 (k : Int) (p : Option Addr) (xs : List Mo) (c : Nat) (w : World) (hn : xs.length ≤ maxLen) (RA : Hid (SlM w p xs)) (RS : Hid (∀ i, i < xs.length → (xs.getD i mo0).1.size ≤ maxLen ∧ -9223372036854775808 ≤ (xs.getD i mo0).2 ∧ (xs.getD i mo0).2 ≤ 9223372036854775807)) :
    Calls Try.prog 23 #[Lv k p xs.length c] w fun e w' => e = .returned (.int .i64 (wrap64 (gcdL 0 xs))) ∧ Below w.heap.size w w' := by
  have B0 : Below w.heap.size w (w.alloc (Obj.cells #[Value.int .i64 k, Value.slice p xs.length c] 24)) := (Below.refl _ _).alloc (Nat.le_refl _) _
  have f1 : ((w.alloc (Obj.cells #[Value.int .i64 k, Value.slice p xs.length c] 24))).cell? ⟨w.heap.size, 1, none⟩ = some (.slice p xs.length c) := by go_cell
  unfold maxLen at hn
  unfold Lv
  go_enter Try.func23, Try.ntmps23
  go_wp2
  have RA1 := Lib.hid (SlM.keep B0 RA.out)
  generalize (w.alloc (Obj.cells #[Value.int .i64 k, Value.slice p xs.length c] 24)) = z at *
  go_loopw [3, 10] (fun gv i wr => ∃ j g : Nat, i = .int .i64 (j : Int) ∧ gv = .int .u64 (g : Int) ∧ j ≤ xs.length ∧ g < 18446744073709551616 ∧ Below z.heap.size z wr ∧ Hid (gcdL 0 xs = gcdL g (xs.drop j))) (fun _ i _ => xs.length - (intOf i).toNat)
  case atStart => exact ⟨0, 0, rfl, rfl, by omega, by omega, Below.refl _ _, Lib.hid rfl⟩
  case round =>
    obtain ⟨j, g, rfl, rfl, hj, hg, hB, HL⟩ := hrel
    have j0 : (0 : Int) ≤ j := by omega
    by_cases hlt : j < xs.length
    · obtain ⟨b, o, rfl, c0, c1⟩ := SlM.keep hB RA1.out j hlt
      have hst := Lib.hid (gcdL_step (g := g) hlt)
      have hrs := RS.out j hlt
      obtain ⟨⟨t, a⟩, hx⟩ : ∃ x, xs.getD j mo0 = x := ⟨_, rfl⟩
      replace hst := Lib.hid (by have h := hst.out; rw [hx] at h; exact h)
      rw [hx] at c0 c1 hrs
      simp only at c0 c1 hrs
      clear hx
      obtain ⟨_, a1, a2⟩ := hrs
      have j1 : (j : Int) < xs.length := by omega
      obtain ⟨n, hnn⟩ : ∃ n, a.natAbs = n := ⟨_, rfl⟩
      have hn2 : n < 18446744073709551616 := by omega
      have HS := Lib.hid (show gcdL 0 xs = gcdL (Nat.gcd g n) (xs.drop (j + 1)) by rw [HL.out, hst.out, ← hnn])
      clear HL hst
      have hB2 := hB.alloc hB.size (Obj.cells #[Value.string t, Value.int .i64 a] 55)
      by_cases ha : a < 0
      all_goals
        first
        | (have u1 : IntKind.u64.wrap a = a + 18446744073709551616 := by rw [u64w]; omega
           have u2 : IntKind.u64.wrap (-(a + 18446744073709551616)) = (n : Int) := by rw [u64w]; omega)
        | (have u1 : IntKind.u64.wrap a = (n : Int) := by rw [u64w]; omega)
        go_wp2_with fail
        clear c0 c1
        clear hB ha
        go_loopw [3, 6] (fun gv av wr => ∃ g' a' : Nat, gv = .int .u64 (g' : Int) ∧ av = .int .u64 (a' : Int) ∧ g' < 18446744073709551616 ∧ a' < 18446744073709551616 ∧ Below z.heap.size z wr ∧ Hid (Nat.gcd g' a' = Nat.gcd g n)) (fun _ av _ => (intOf av).toNat)
        case atStart => exact ⟨g, n, rfl, rfl, hg, hn2, hB2, Lib.hid rfl⟩
        case round =>
          clear hB2
          obtain ⟨g', a', rfl, rfl, hg', ha', hB3, HG⟩ := hrel
          by_cases h0 : a' = 0
          · subst h0
            have HS2 := Lib.hid (show gcdL 0 xs = gcdL g' (xs.drop (j + 1)) by rw [HS.out, ← HG.out, Nat.gcd_zero_right])
            clear HS HG
            go_wp2
            go_roundw
            case rel => exact ⟨j + 1, g', by go_num, rfl, by omega, hg', hB3, HS2⟩
            case measure => simp [intOf]; omega
          · have hb0 : ((a' : Int) == 0) = false := beq_false_of_ne (by omega)
            have hb1 : ((a' : Int) != 0) = true := by rw [bne, hb0]; rfl
            have hb2 : ((a' : Int) = 0) = False := by simp; exact h0
            have hmod : g' % a' < a' := Nat.mod_lt _ (by omega)
            have HG2 := Lib.hid (show Nat.gcd a' (g' % a') = Nat.gcd g n by rw [gcd_step, HG.out])
            have e1 : ((g' : Int) % (a' : Int)) = ((g' % a' : Nat) : Int) := (Int.natCast_emod g' a').symm
            have e2 : Int.tmod (g' : Int) (a' : Int) = ((g' % a' : Nat) : Int) := by rw [Int.tmod_eq_emod_of_nonneg (by omega)]; exact e1
            obtain ⟨r, hr⟩ : ∃ r, g' % a' = r := ⟨_, rfl⟩
            rw [hr] at e1 e2 HG2 hmod
            clear hr HG hb2
            go_wp2_with fail
            go_quiet (fail)
            go_wp2
            go_roundw
            case rel => exact ⟨a', r, rfl, rfl, ha', by omega, below_drewN hB3 _, HG2⟩
            case measure => simp [intOf]; omega
    · have j1 : ¬ (j : Int) < xs.length := by omega
      have HE := Lib.hid (show gcdL 0 xs = g by rw [HL.out, List.drop_of_length_le (by omega)]; rfl)
      go_wp2
      go_ret
      exact ⟨by rw [HE.out]; rfl, B0.trans (hB.mono B0.size)⟩
end Go.Proofs.Ythdeaneffnlffaa.Ln
