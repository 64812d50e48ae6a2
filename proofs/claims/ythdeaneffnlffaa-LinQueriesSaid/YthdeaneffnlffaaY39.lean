/- Linear forms: the greatest common divisor, in the reference. -/
import Derived.Test.YthdeaneffnlffaaY38
namespace Go.Proofs.Ythdeaneffnlffaa.Ln
open Go.ChangeShapes Go.WideShapes Go.ChangeAt Go.RowKit
set_option linter.unusedVariables false
set_option linter.unusedSimpArgs false
def magN (n : Int) : Int := if n < 0 then -n else n
theorem sizeN (n : Int) (w : World) (h1 : -9223372036854775808 ≤ n) (h2 : n ≤ 9223372036854775807) : Calls Try.prog 50 #[.int .i64 n] w fun e w' => e = .returned (.int .u64 (n.natAbs : Int)) ∧ w = w' := by
  rw [show (n.natAbs : Int) = magN n by unfold magN; split <;> omega]
  unfold magN
  by_cases h : n < 0
  · rw [if_pos h]
    have e1 : IntKind.u64.wrap (-(n + 1)) = -n - 1 := by rw [u64w]; omega
    have e2 : IntKind.u64.wrap (-n - 1 + 1) = -n := by rw [u64w]; omega
    go_enter Try.func50, Try.ntmps50
    go_wp2
    go_ret
    exact ⟨by first | rfl | (rw [← e2]; rfl) | (congr 2; omega), rfl⟩
  · rw [if_neg h]
    have e1 : IntKind.u64.wrap n = n := by rw [u64w]; omega
    go_enter Try.func50, Try.ntmps50
    go_wp2
    go_ret
    exact ⟨rfl, rfl⟩
set_option maxRecDepth 100000 in
set_option maxHeartbeats 16000000 in
theorem gcd2 (k : Int) (p : Option Addr) (xs : List Mo) (c : Nat) (w : World) (hn : xs.length ≤ maxLen) (RA : Hid (SlM w p xs)) (RS : Hid (∀ i, i < xs.length → (xs.getD i mo0).1.size ≤ maxLen ∧ -9223372036854775808 ≤ (xs.getD i mo0).2 ∧ (xs.getD i mo0).2 ≤ 9223372036854775807)) :
    Calls Try.prog 24 #[Lv k p xs.length c] w fun e w' => e = .returned (.int .i64 (wrap64 (gcdL 0 xs))) ∧ Below w.heap.size w w' := by
  have B0 : Below w.heap.size w (w.alloc (Obj.cells #[Value.int .i64 k, Value.slice p xs.length c] 24)) := (Below.refl _ _).alloc (Nat.le_refl _) _
  have S0 : w.heap.size < ((w.alloc (Obj.cells #[Value.int .i64 k, Value.slice p xs.length c] 24))).heap.size := by simp
  have f1 : ((w.alloc (Obj.cells #[Value.int .i64 k, Value.slice p xs.length c] 24))).cell? ⟨w.heap.size, 1, none⟩ = some (.slice p xs.length c) := by go_cell
  have SZ := Lib.hid sizeN
  unfold maxLen at hn
  unfold Lv
  go_enter Try.func24, Try.ntmps24
  go_wp2
  have RA1 := Lib.hid (SlM.keep B0 RA.out)
  generalize (w.alloc (Obj.cells #[Value.int .i64 k, Value.slice p xs.length c] 24)) = z at *
  go_loopw [3, 4] (fun gv i wr => ∃ j g : Nat, i = .int .i64 (j : Int) ∧ gv = .int .u64 (g : Int) ∧ j ≤ xs.length ∧ g < 18446744073709551616 ∧ Below z.heap.size z wr ∧ Hid (gcdL 0 xs = gcdL g (xs.drop j))) (fun _ i _ => xs.length - (intOf i).toNat)
  case atStart => exact ⟨0, 0, rfl, rfl, by omega, by omega, Below.refl _ _, Lib.hid rfl⟩
  case round =>
    obtain ⟨j, g, rfl, rfl, hj, hg, hB, HL⟩ := hrel
    have j0 : (0 : Int) ≤ j := by omega
    have F1 := kp hB S0 f1
    by_cases hlt : j < xs.length
    · obtain ⟨b, o, rfl, c0, c1⟩ := SlM.keep hB RA1.out j hlt
      have hst := Lib.hid (gcdL_step (g := g) hlt)
      have hrs := RS.out j hlt
      obtain ⟨⟨t, a⟩, hx⟩ : ∃ x, xs.getD j mo0 = x := ⟨_, rfl⟩
      replace hst := Lib.hid (by have h := hst.out; rw [hx] at h; exact h)
      rw [hx] at c0 c1 hrs
      simp only at c0 c1 hrs
      clear hx
      obtain ⟨_, a1, a2⟩ := hrs
      have j1 : (j : Int) < xs.length := by omega
      have S1 := Lib.hid (SZ.out a wr a1 a2)
      obtain ⟨n, hnn⟩ : ∃ n, a.natAbs = n := ⟨_, rfl⟩
      have hn2 : n < 18446744073709551616 := by omega
      rw [hnn] at S1
      have HS := Lib.hid (show gcdL 0 xs = gcdL (Nat.gcd g n) (xs.drop (j + 1)) by rw [HL.out, hst.out, ← hnn])
      clear HL hst hnn
      go_wp2_with (go_at_call 50; refine S1.out.mono ?_; rintro e w' ⟨rfl, rfl⟩)
      clear c0 c1 f1 S1
      go_loopw [5, 6] (fun gv av wr => ∃ g' a' : Nat, gv = .int .u64 (g' : Int) ∧ av = .int .u64 (a' : Int) ∧ g' < 18446744073709551616 ∧ a' < 18446744073709551616 ∧ Below z.heap.size z wr ∧ Hid (Nat.gcd g' a' = Nat.gcd g n)) (fun _ av _ => (intOf av).toNat)
      case atStart => exact ⟨g, n, rfl, rfl, hg, hn2, hB, Lib.hid rfl⟩
      case round =>
        clear hB F1
        obtain ⟨g', a', rfl, rfl, hg', ha', hB3, HG⟩ := hrel
        by_cases h0 : a' = 0
        · subst h0
          have HS2 := Lib.hid (show gcdL 0 xs = gcdL g' (xs.drop (j + 1)) by rw [HS.out, ← HG.out, Nat.gcd_zero_right])
          clear HS HG
          go_wp2
          go_roundw
          case rel => exact ⟨j + 1, g', by go_num, rfl, by omega, hg', hB3, HS2⟩
          case measure => simp [intOf]; omega
        · have hb0 : ((a' : Int) == 0) = false := beq_false_of_ne (by omega)
          have hb1 : ((a' : Int) != 0) = true := by rw [bne, hb0]; rfl
          have hmod : g' % a' < a' := Nat.mod_lt _ (by omega)
          have HG2 := Lib.hid (show Nat.gcd a' (g' % a') = Nat.gcd g n by rw [gcd_step, HG.out])
          have e1 : ((g' : Int) % (a' : Int)) = ((g' % a' : Nat) : Int) := (Int.natCast_emod g' a').symm
          have e2 : Int.tmod (g' : Int) (a' : Int) = ((g' % a' : Nat) : Int) := by rw [Int.tmod_eq_emod_of_nonneg (by omega)]; exact e1
          obtain ⟨r, hr⟩ : ∃ r, g' % a' = r := ⟨_, rfl⟩
          rw [hr] at e1 e2 HG2 hmod
          clear hr HG
          go_wp2_with fail
          go_quiet (fail)
          go_wp2
          go_roundw
          case rel => exact ⟨a', r, rfl, rfl, ha', by omega, below_drewN hB3 _, HG2⟩
          case measure => simp [intOf]; omega
    · have j1 : ¬ (j : Int) < xs.length := by omega
      have HE := Lib.hid (show gcdL 0 xs = g by rw [HL.out, List.drop_of_length_le (by omega)]; rfl)
      go_wp2
      go_ret
      exact ⟨by rw [HE.out]; rfl, B0.trans (hB.mono B0.size)⟩
end Go.Proofs.Ythdeaneffnlffaa.Ln
