/- Constraints: division that rounds down. -/
import Derived.Test.YtbicmlkjonaccaaDoorJ3
import Derived.Test.YtbicmlkjonaccaaDoorJ1
import Derived.Test.YtbicmlkjonaccaaDoorJ4
import Derived.IntWalk
import Derived.Deep.Quiet
import Derived.Test.YtbicmlkjonaccaaDoorY24
import Derived.Test.YtbicmlkjonaccaaDoorJ5

namespace Go.Proofs.YtbicmlkjonaccaaDoor.Ln
open Go.ChangeShapes Go.WideShapes Go.ChangeAt Go.RowKit
open Go.Proofs.YtbicmlkjonaccaaDoor.Nm
set_option linter.unusedVariables false
set_option linter.unusedSimpArgs false
set_option maxRecDepth 8000

theorem tdm {n : Int} {G : Nat} (g0 : 1 ≤ G) : (0 ≤ n → n.tdiv G = n / G ∧ n.tmod G = n % G) ∧ (n < 0 → n % G = 0 → n.tdiv G = n / G ∧ n.tmod G = 0) ∧ (n < 0 → n % G ≠ 0 → n.tdiv G = n / G + 1 ∧ n.tmod G < 0) := by
  have hG : (0 : Int) < G := by omega
  refine ⟨fun h => ⟨Int.tdiv_eq_ediv_of_nonneg h, Int.tmod_eq_emod_of_nonneg h⟩, fun h hz => ?_, fun h hz => ?_⟩
  · have hd : (G : Int) ∣ n := Int.dvd_of_emod_eq_zero hz
    exact ⟨Int.tdiv_eq_ediv_of_dvd hd, Int.tmod_eq_zero_of_dvd hd⟩
  · have h1 := Int.tdiv_eq_ediv (a := n) (b := (G : Int))
    have hnd : ¬ (G : Int) ∣ n := fun hd => hz (Int.emod_eq_zero_of_dvd hd)
    have e : n.tdiv G = n / G + 1 := by
      rw [h1, if_neg (by rintro (h2 | h2); omega; exact hnd h2), Int.sign_eq_one_of_pos hG]
    refine ⟨e, ?_⟩
    have h2 := Int.mul_tdiv_add_tmod n (G : Int)
    have h3 := Int.mul_ediv_add_emod n (G : Int)
    have h4 := Int.emod_lt_of_pos n hG
    rw [e] at h2
    rw [Int.mul_add] at h2
    omega

set_option maxRecDepth 100000 in
theorem fd_pos (n g q r : Int) (w : World) (hne : g ≠ 0) (hg : (g == 0) = false) (h0 : decide (g < 0) = false) (e1 : n.tdiv g = q) (e2 : n.tmod g = r) (w1 : IntKind.i64.wrap q = q) (w2 : IntKind.i64.wrap r = r)  (h1 : decide (r < 0) = false) (b : Bool) (hb : (r == 0) = b) : Calls Tryd.prog 60 #[.int .i64 n, .int .i64 g] w fun e w' => e = .returned (.tuple #[.int .i64 q, .bool b]) ∧ Below w.heap.size w w' := by
  go_enter Tryd.func60, Tryd.ntmps60
  go_wp2_with fail
  have hz : Below w.heap.size w w := Below.refl _ _
  have HS : Hid (∀ u u' : World, Below w.heap.size w u → Below u.heap.size u u' → Below w.heap.size w u') := Lib.hid (fun u u' h hb => h.trans (hb.mono h.size))
  refine Rk.begin (S := fun wS => Below w.heap.size w wS) 5 (by kernel_rfl) (HS.out _ _ hz (Below.drew (Below.refl _ _))) (fun hHeld => ?_)
  refine Rk.takeP (i := 0) (v := ?_) rfl (by kernel_rfl) (by kernel_rfl) (by kernel_rfl) (by kernel_rfl) (fun _ _ _ h => h) (Or.inl ⟨by kernel_rfl, ?_⟩) (by assumption) ?_
  rotate_left
  · ((intro w hSw; go_simp) <;> with_reducible rfl)
  try simp only [Act.put, List.setIfInBounds_toArray, List.set_cons_zero, List.set_cons_succ]
  refine Rk.takeP (i := 1) (v := ?_) rfl (by kernel_rfl) (by kernel_rfl) (by kernel_rfl) (by kernel_rfl) (fun _ _ _ h => h) (Or.inl ⟨by kernel_rfl, ?_⟩) (by assumption) ?_
  rotate_left
  · ((intro w hSw; go_simp) <;> with_reducible rfl)
  try simp only [Act.put, List.setIfInBounds_toArray, List.set_cons_zero, List.set_cons_succ]
  refine Rk.takeP (i := 2) (v := ?_) rfl (by kernel_rfl) (by kernel_rfl) (by kernel_rfl) (by kernel_rfl) (fun _ _ _ h => h) (Or.inl ⟨by kernel_rfl, ?_⟩) (by assumption) ?_
  rotate_left
  · ((intro w hSw; go_simp) <;> with_reducible rfl)
  try simp only [Act.put, List.setIfInBounds_toArray, List.set_cons_zero, List.set_cons_succ]
  refine Rk.takeP (i := 3) (v := ?_) rfl (by kernel_rfl) (by kernel_rfl) (by kernel_rfl) (by kernel_rfl) (fun _ _ _ h => h) (Or.inl ⟨by kernel_rfl, ?_⟩) (by assumption) ?_
  rotate_left
  · ((intro w hSw; go_simp) <;> with_reducible rfl)
  try simp only [Act.put, List.setIfInBounds_toArray, List.set_cons_zero, List.set_cons_succ]
  refine Rk.takeP (i := 4) (v := ?_) rfl (by kernel_rfl) (by kernel_rfl) (by kernel_rfl) (by kernel_rfl) (fun _ _ _ h => h) (Or.inl ⟨by kernel_rfl, ?_⟩) (by assumption) ?_
  rotate_left
  · ((intro w hSw; go_simp) <;> with_reducible rfl)
  try simp only [Act.put, List.setIfInBounds_toArray, List.set_cons_zero, List.set_cons_succ]
  refine Rk.tail [5, 6] [_, _] (by kernel_rfl) (by kernel_rfl) rfl (by decide) ?_
  go_wp2
  refine bodyPost_ret (v := .tuple #[.int .i64 q, .bool b]) (by simp [results, Tryd.results60, go_sem]) rfl ⟨rfl, hHeld⟩

set_option maxRecDepth 100000 in
theorem fd_neg (n g q r : Int) (w : World) (hne : g ≠ 0) (hg : (g == 0) = false) (h0 : decide (g < 0) = false) (e1 : n.tdiv g = q) (e2 : n.tmod g = r) (w1 : IntKind.i64.wrap q = q) (w2 : IntKind.i64.wrap r = r) (w3 : IntKind.i64.wrap (q - 1) = q - 1) (h1 : decide (r < 0) = true) (b : Bool) (hb : (r == 0) = b) : Calls Tryd.prog 60 #[.int .i64 n, .int .i64 g] w fun e w' => e = .returned (.tuple #[.int .i64 (q - 1), .bool b]) ∧ Below w.heap.size w w' := by
  go_enter Tryd.func60, Tryd.ntmps60
  go_wp2_with fail
  have hz : Below w.heap.size w w := Below.refl _ _
  have HS : Hid (∀ u u' : World, Below w.heap.size w u → Below u.heap.size u u' → Below w.heap.size w u') := Lib.hid (fun u u' h hb => h.trans (hb.mono h.size))
  refine Rk.begin (S := fun wS => Below w.heap.size w wS) 5 (by kernel_rfl) (HS.out _ _ hz (Below.drew (Below.refl _ _))) (fun hHeld => ?_)
  refine Rk.takeP (i := 0) (v := ?_) rfl (by kernel_rfl) (by kernel_rfl) (by kernel_rfl) (by kernel_rfl) (fun _ _ _ h => h) (Or.inl ⟨by kernel_rfl, ?_⟩) (by assumption) ?_
  rotate_left
  · ((intro w hSw; go_simp) <;> with_reducible rfl)
  try simp only [Act.put, List.setIfInBounds_toArray, List.set_cons_zero, List.set_cons_succ]
  refine Rk.takeP (i := 1) (v := ?_) rfl (by kernel_rfl) (by kernel_rfl) (by kernel_rfl) (by kernel_rfl) (fun _ _ _ h => h) (Or.inl ⟨by kernel_rfl, ?_⟩) (by assumption) ?_
  rotate_left
  · ((intro w hSw; go_simp) <;> with_reducible rfl)
  try simp only [Act.put, List.setIfInBounds_toArray, List.set_cons_zero, List.set_cons_succ]
  refine Rk.takeP (i := 2) (v := ?_) rfl (by kernel_rfl) (by kernel_rfl) (by kernel_rfl) (by kernel_rfl) (fun _ _ _ h => h) (Or.inl ⟨by kernel_rfl, ?_⟩) (by assumption) ?_
  rotate_left
  · ((intro w hSw; go_simp) <;> with_reducible rfl)
  try simp only [Act.put, List.setIfInBounds_toArray, List.set_cons_zero, List.set_cons_succ]
  refine Rk.takeP (i := 3) (v := ?_) rfl (by kernel_rfl) (by kernel_rfl) (by kernel_rfl) (by kernel_rfl) (fun _ _ _ h => h) (Or.inl ⟨by kernel_rfl, ?_⟩) (by assumption) ?_
  rotate_left
  · ((intro w hSw; go_simp) <;> with_reducible rfl)
  try simp only [Act.put, List.setIfInBounds_toArray, List.set_cons_zero, List.set_cons_succ]
  refine Rk.takeP (i := 4) (v := ?_) rfl (by kernel_rfl) (by kernel_rfl) (by kernel_rfl) (by kernel_rfl) (fun _ _ _ h => h) (Or.inl ⟨by kernel_rfl, ?_⟩) (by assumption) ?_
  rotate_left
  · ((intro w hSw; go_simp) <;> with_reducible rfl)
  try simp only [Act.put, List.setIfInBounds_toArray, List.set_cons_zero, List.set_cons_succ]
  refine Rk.tail [5, 6] [_, _] (by kernel_rfl) (by kernel_rfl) rfl (by decide) ?_
  go_wp2
  refine bodyPost_ret (v := .tuple #[.int .i64 (q - 1), .bool b]) (by simp [results, Tryd.results60, go_sem]) rfl ⟨rfl, hHeld⟩

set_option maxRecDepth 100000 in
theorem fd_big (n : Int) (w : World) (b : Bool) (h1 : (n == -9223372036854775808) = false) (h2 : (n == 0) = b) : Calls Tryd.prog 60 #[.int .i64 n, .int .i64 (-9223372036854775808)] w fun e w' => e = .returned (.tuple #[.int .i64 (n / 9223372036854775808), .bool b]) ∧ Below w.heap.size w w' := by
  go_enter Tryd.func60, Tryd.ntmps60
  go_wp2
  refine bodyPost_ret (v := .tuple #[.int .i64 (n / 9223372036854775808), .bool b]) (by simp [results, Tryd.results60, go_sem]) rfl ⟨rfl, Below.refl _ _⟩
set_option maxRecDepth 100000 in
theorem fd_min (w : World) : Calls Tryd.prog 60 #[.int .i64 (-9223372036854775808), .int .i64 (-9223372036854775808)] w fun e w' => e = .returned (.tuple #[.int .i64 (-1), .bool true]) ∧ Below w.heap.size w w' := by
  go_enter Tryd.func60, Tryd.ntmps60
  go_wp2
  refine bodyPost_ret (v := .tuple #[.int .i64 (-1), .bool true]) (by simp [results, Tryd.results60, go_sem]) rfl ⟨rfl, Below.refl _ _⟩
/-- floorDiv by a positive number up to 2^63, which stands as -2^63. -/
theorem fdiv (n : Int) (G : Nat) (n0 : -9223372036854775808 ≤ n) (n1 : n ≤ 9223372036854775807) (g0 : 1 ≤ G) (g1 : G ≤ 9223372036854775808) (w : World) : Calls Tryd.prog 60 #[.int .i64 n, .int .i64 (wrap64 (G : Int))] w fun e w' => e = .returned (.tuple #[.int .i64 (n / (G : Int)), .bool (n % (G : Int) == 0)]) ∧ Below w.heap.size w w' := by
  by_cases hG : G = 9223372036854775808
  · subst hG
    rw [show wrap64 ((9223372036854775808 : Nat) : Int) = -9223372036854775808 by decide +kernel]
    by_cases hm : n = -9223372036854775808
    · subst hm
      exact fd_min w
    · have h1 : (n == -9223372036854775808) = false := by rw [beq_eq_false_iff_ne]; exact hm
      have h2 : (n == 0) = (n % ((9223372036854775808 : Nat) : Int) == 0) := by
        rw [Bool.eq_iff_iff, beq_iff_eq, beq_iff_eq]
        omega
      exact fd_big n w _ h1 h2
  · have hw : wrap64 (G : Int) = (G : Int) := by unfold wrap64; omega
    rw [hw]
    obtain ⟨t1, t2, t3⟩ := tdm (n := n) g0
    have hne : (G : Int) ≠ 0 := by omega
    have hg : ((G : Int) == 0) = false := by rw [beq_eq_false_iff_ne]; exact hne
    have h0 : decide ((G : Int) < 0) = false := by simp
    have hd1 := Int.mul_ediv_add_emod n (G : Int)
    have hd2 := Int.emod_lt_of_pos n (show (0 : Int) < G by omega)
    have hd3 := Int.emod_nonneg n hne
    have hq0 : -9223372036854775808 ≤ n / (G : Int) := by
      rcases Int.lt_or_le n 0 with h | h
      · have := Int.ediv_le_ediv (c := (G : Int)) (by omega) n0
        have h5 : -9223372036854775808 ≤ -9223372036854775808 / (G : Int) := Int.le_ediv_of_mul_le (by omega) (by omega)
        omega
      · have := Int.ediv_nonneg h (show (0 : Int) ≤ G by omega)
        omega
    have hq1 : n / (G : Int) ≤ 9223372036854775807 := by
      rcases Int.lt_or_le n 0 with h | h
      · have := Int.ediv_neg_of_neg_of_pos h (show (0 : Int) < G by omega)
        omega
      · have := Int.ediv_le_self (G : Int) h
        omega
    rcases Int.lt_or_le n 0 with h | h
    · by_cases hz : n % (G : Int) = 0
      · obtain ⟨a, b⟩ := t2 h hz
        exact fd_pos n G _ _ w hne hg h0 a b (by rw [IntKind.wrap_i64]; omega) (by decide) (by decide) _ (by rw [hz])
      · obtain ⟨a, b⟩ := t3 h hz
        have c1 : n.tmod (G : Int) ≠ 0 := by omega
        have hlo : -9223372036854775808 ≤ n.tmod (G : Int) := by
          have := Int.mul_tdiv_add_tmod n (G : Int)
          rw [a, Int.mul_add] at this
          omega
        have := fd_neg n G _ _ w hne hg h0 a rfl (by have := Int.ediv_neg_of_neg_of_pos h (show (0 : Int) < G by omega); rw [IntKind.wrap_i64]; omega) (by rw [IntKind.wrap_i64]; omega) (by rw [IntKind.wrap_i64]; omega) (by simpa using b) _ rfl
        rw [show n / (G : Int) + 1 - 1 = n / (G : Int) by omega] at this
        rw [show (n % (G : Int) == 0) = (n.tmod (G : Int) == 0) by rw [Bool.eq_iff_iff, beq_iff_eq, beq_iff_eq]; exact ⟨fun q => absurd q hz, fun q => absurd q c1⟩]
        exact this
    · obtain ⟨a, b⟩ := t1 h
      exact fd_pos n G _ _ w hne hg h0 a b (by rw [IntKind.wrap_i64]; omega) (by rw [IntKind.wrap_i64]; omega) (by simp; omega) _ rfl
end Go.Proofs.YtbicmlkjonaccaaDoor.Ln


namespace Go.Proofs.YtbicmlkjonaccaaDoor.Ln
open Go.ChangeShapes Go.WideShapes Go.ChangeAt Go.RowKit
set_option linter.unusedVariables false
set_option linter.unusedSimpArgs false
/-- The greatest common divisor of a number and of the magnitudes of the coefficients. -/
def gcdL (g : Nat) : List Mo → Nat
  | [] => g
  | m :: r => gcdL (Nat.gcd g m.2.natAbs) r
theorem gcdL_step {xs : List Mo} {j g : Nat} (h : j < xs.length) : gcdL g (xs.drop j) = gcdL (Nat.gcd g (xs.getD j mo0).2.natAbs) (xs.drop (j + 1)) := by
  rw [List.drop_eq_getElem_cons h]
  have e1 : xs.getD j mo0 = xs[j] := by unfold List.getD; rw [List.getElem?_eq_getElem h]; rfl
  rw [e1]
  rfl
theorem gcd_bd {g n : Nat} (hg : g < 18446744073709551616) (hn : n < 18446744073709551616) : Nat.gcd g n < 18446744073709551616 := by
  by_cases h : n = 0
  · subst h; rw [Nat.gcd_zero_right]; exact hg
  · exact Nat.lt_of_le_of_lt (Nat.le_of_dvd (by omega) (Nat.gcd_dvd_right g n)) hn
theorem gcd_step {g n : Nat} : Nat.gcd n (g % n) = Nat.gcd g n := by rw [Nat.gcd_comm n, ← Nat.gcd_rec, Nat.gcd_comm]
set_option maxRecDepth 100000 in
set_option maxHeartbeats 16000000 in
theorem gcd1 (k : Int) (p : Option Addr) (xs : List Mo) (c : Nat) (w : World) (hn : xs.length ≤ maxLen) (RA : Hid (SlM w p xs)) (RS : Hid (∀ i, i < xs.length → (xs.getD i mo0).1.size ≤ maxLen ∧ -9223372036854775808 ≤ (xs.getD i mo0).2 ∧ (xs.getD i mo0).2 ≤ 9223372036854775807)) :
    Calls Tryd.prog 59 #[Lv k p xs.length c] w fun e w' => e = .returned (.int .i64 (wrap64 (gcdL 0 xs))) ∧ Below w.heap.size w w' := by
  have B0 : Below w.heap.size w (w.alloc (Obj.cells #[Value.int .i64 k, Value.slice p xs.length c] 24)) := (Below.refl _ _).alloc (Nat.le_refl _) _
  have f1 : ((w.alloc (Obj.cells #[Value.int .i64 k, Value.slice p xs.length c] 24))).cell? ⟨w.heap.size, 1, none⟩ = some (.slice p xs.length c) := by go_cell
  unfold maxLen at hn
  unfold Lv
  go_enter Tryd.func59, Tryd.ntmps59
  go_wp2
  have RA1 := Lib.hid (SlM.keep B0 RA.out)
  generalize (w.alloc (Obj.cells #[Value.int .i64 k, Value.slice p xs.length c] 24)) = z at *
  go_loopw [3, 10] (fun gv i wr => ∃ j g : Nat, i = .int .i64 (j : Int) ∧ gv = .int .u64 (g : Int) ∧ j ≤ xs.length ∧ g < 18446744073709551616 ∧ Below z.heap.size z wr ∧ Hid (gcdL 0 xs = gcdL g (xs.drop j))) (fun _ i _ => xs.length - (intOf i).toNat)
  case atStart => exact ⟨0, 0, rfl, rfl, by omega, by omega, Below.refl _ _, Lib.hid rfl⟩
  case round =>
    obtain ⟨j, g, rfl, rfl, hj, hg, hB, HL⟩ := hrel
    have j0 : (0 : Int) ≤ j := by omega
    by_cases hlt : j < xs.length
    · obtain ⟨b, o, rfl, c0, c1⟩ := SlM.keep hB RA1.out j hlt
      have hst := Lib.hid (gcdL_step (g := g) hlt)
      have hrs := RS.out j hlt
      obtain ⟨⟨t, a⟩, hx⟩ : ∃ x, xs.getD j mo0 = x := ⟨_, rfl⟩
      replace hst := Lib.hid (by have h := hst.out; rw [hx] at h; exact h)
      rw [hx] at c0 c1 hrs
      simp only at c0 c1 hrs
      clear hx
      obtain ⟨_, a1, a2⟩ := hrs
      have j1 : (j : Int) < xs.length := by omega
      obtain ⟨n, hnn⟩ : ∃ n, a.natAbs = n := ⟨_, rfl⟩
      have hn2 : n < 18446744073709551616 := by omega
      have HS := Lib.hid (show gcdL 0 xs = gcdL (Nat.gcd g n) (xs.drop (j + 1)) by rw [HL.out, hst.out, ← hnn])
      clear HL hst
      have hB2 := hB.alloc hB.size (Obj.cells #[Value.string t, Value.int .i64 a] 59)
      by_cases ha : a < 0
      all_goals
        first
        | (have u1 : IntKind.u64.wrap a = a + 18446744073709551616 := by rw [u64w]; omega
           have u2 : IntKind.u64.wrap (-(a + 18446744073709551616)) = (n : Int) := by rw [u64w]; omega)
        | (have u1 : IntKind.u64.wrap a = (n : Int) := by rw [u64w]; omega)
        go_wp2_with fail
        clear c0 c1
        clear hB ha
        go_loopw [3, 6] (fun gv av wr => ∃ g' a' : Nat, gv = .int .u64 (g' : Int) ∧ av = .int .u64 (a' : Int) ∧ g' < 18446744073709551616 ∧ a' < 18446744073709551616 ∧ Below z.heap.size z wr ∧ Hid (Nat.gcd g' a' = Nat.gcd g n)) (fun _ av _ => (intOf av).toNat)
        case atStart => exact ⟨g, n, rfl, rfl, hg, hn2, hB2, Lib.hid rfl⟩
        case round =>
          clear hB2
          obtain ⟨g', a', rfl, rfl, hg', ha', hB3, HG⟩ := hrel
          by_cases h0 : a' = 0
          · subst h0
            have HS2 := Lib.hid (show gcdL 0 xs = gcdL g' (xs.drop (j + 1)) by rw [HS.out, ← HG.out, Nat.gcd_zero_right])
            clear HS HG
            go_wp2
            go_roundw
            case rel => exact ⟨j + 1, g', by go_num, rfl, by omega, hg', hB3, HS2⟩
            case measure => simp [intOf]; omega
          · have hb0 : ((a' : Int) == 0) = false := beq_false_of_ne (by omega)
            have hb1 : ((a' : Int) != 0) = true := by rw [bne, hb0]; rfl
            have hb2 : ((a' : Int) = 0) = False := by simp; exact h0
            have hmod : g' % a' < a' := Nat.mod_lt _ (by omega)
            have HG2 := Lib.hid (show Nat.gcd a' (g' % a') = Nat.gcd g n by rw [gcd_step, HG.out])
            have e1 : ((g' : Int) % (a' : Int)) = ((g' % a' : Nat) : Int) := (Int.natCast_emod g' a').symm
            have e2 : Int.tmod (g' : Int) (a' : Int) = ((g' % a' : Nat) : Int) := by rw [Int.tmod_eq_emod_of_nonneg (by omega)]; exact e1
            obtain ⟨r, hr⟩ : ∃ r, g' % a' = r := ⟨_, rfl⟩
            rw [hr] at e1 e2 HG2 hmod
            clear hr HG hb2
            go_wp2_with fail
            go_quiet (fail)
            go_wp2
            go_roundw
            case rel => exact ⟨a', r, rfl, rfl, ha', by omega, below_drewN hB3 _, HG2⟩
            case measure => simp [intOf]; omega
    · have j1 : ¬ (j : Int) < xs.length := by omega
      have HE := Lib.hid (show gcdL 0 xs = g by rw [HL.out, List.drop_of_length_le (by omega)]; rfl)
      go_wp2
      go_ret
      exact ⟨by rw [HE.out]; rfl, B0.trans (hB.mono B0.size)⟩
end Go.Proofs.YtbicmlkjonaccaaDoor.Ln


namespace Go.Proofs.YtbicmlkjonaccaaDoor.Ln
open Go.ChangeShapes Go.WideShapes Go.ChangeAt Go.RowKit
open Go.Proofs.YtbicmlkjonaccaaDoor.Nm
set_option linter.unusedVariables false
set_option linter.unusedSimpArgs false
set_option maxRecDepth 8000

def tdY (G : Nat) (xs : List Mo) : List Mo := xs.map fun m => (m.1, m.2 / (G : Int))
/-- What Tighten answers: constant, monomials, whether it is an equation, kind, error. -/
def tgR (k : Int) (xs : List Mo) (eq : Bool) : Int × List Mo × Bool × Int × Int :=
  if okL xs = false then (0, [], false, 0, 1) else if xs.length = 0 then (if hB k eq = true then (0, [], false, 1, 0) else (-1, [], false, 2, 0))
  else if (eq && !(k % (gcdL 0 xs : Int) == 0)) = true then (-1, [], false, 2, 0)
  else if (eq && decide (((tdY (gcdL 0 xs) xs).getD 0 mo0).2 < 0)) = true then
    (if (sclR (-1) (k / (gcdL 0 xs : Int)) (tdY (gcdL 0 xs) xs)).2.2 ≠ 0 then (0, [], false, 0, (sclR (-1) (k / (gcdL 0 xs : Int)) (tdY (gcdL 0 xs) xs)).2.2) else ((sclR (-1) (k / (gcdL 0 xs : Int)) (tdY (gcdL 0 xs) xs)).1, (sclR (-1) (k / (gcdL 0 xs : Int)) (tdY (gcdL 0 xs) xs)).2.1, eq, 0, 0))
  else (k / (gcdL 0 xs : Int), tdY (gcdL 0 xs) xs, eq, 0, 0)
def TR (r : Int × List Mo × Bool × Int × Int) (w : World) (e : Ending) (w' : World) : Prop := ∃ p c, e = .returned (.tuple #[Cv r.1 p r.2.1.length c r.2.2.1, .int .i64 r.2.2.2.1, .int .i64 r.2.2.2.2]) ∧ SlM w' p r.2.1 ∧ (∀ b o, p = some ⟨b, o, none⟩ → r.2.1 ≠ [] → ∃ cur, w'.heap[b]? = some (.cells cur 59 (0, 0))) ∧ Below w.heap.size w w'
theorem TR.nil {k : Int} {eq : Bool} {kind er : Int} {w w' : World} (hb : Below w.heap.size w w') : TR (k, [], eq, kind, er) w (.returned (.tuple #[.agg #[.int .i64 k, .slice none 0 0, .bool eq], .int .i64 kind, .int .i64 er])) w' := ⟨none, 0, rfl, fun i hi => absurd hi (by simp), (fun b o h _ => absurd h (by simp)), hb⟩
theorem ok_ne {xs : List Mo} (h : okL xs = true) {i : Nat} (hi : i < xs.length) : (xs.getD i mo0).2 ≠ 0 := by
  have h1 := List.all_eq_true.1 h i (List.mem_range.2 hi)
  intro h0
  unfold bd at h1
  rw [h0] at h1
  simp at h1
theorem gcdL_dvd : ∀ (xs : List Mo) (g : Nat), gcdL g xs ∣ g
  | [], g => Nat.dvd_refl _
  | m :: r, g => Nat.dvd_trans (gcdL_dvd r (Nat.gcd g m.2.natAbs)) (Nat.gcd_dvd_left _ _)
theorem gcdL_bd {xs : List Mo} (h : okL xs = true) (hn : xs.length ≠ 0) (hb : ∀ i, i < xs.length → -9223372036854775808 ≤ (xs.getD i mo0).2 ∧ (xs.getD i mo0).2 ≤ 9223372036854775807) : 1 ≤ gcdL 0 xs ∧ gcdL 0 xs ≤ 9223372036854775808 := by
  cases xs with
  | nil => exact absurd rfl hn
  | cons m r =>
    have h0 := ok_ne h (i := 0) (by simp)
    have hb0 := hb 0 (by simp)
    simp only [List.getD_cons_zero] at h0 hb0
    have hd : gcdL 0 (m :: r) ∣ m.2.natAbs := by
      show gcdL (Nat.gcd 0 m.2.natAbs) r ∣ _
      rw [Nat.gcd_zero_left]
      exact gcdL_dvd r _
    have hp : 0 < m.2.natAbs := by omega
    exact ⟨Nat.pos_of_dvd_of_pos hd hp, Nat.le_trans (Nat.le_of_dvd hp hd) (by omega)⟩

set_option maxHeartbeats 4000000 in
theorem tig_bad (k : Int) (p : Option Addr) (xs : List Mo) (c : Nat) (eq : Bool) (w : World) (hn : xs.length ≤ 1000) (RA : Hid (SlM w p xs)) (RS : Hid (∀ i, i < xs.length → (xs.getD i mo0).1.size ≤ maxLen ∧ -9223372036854775808 ≤ (xs.getD i mo0).2 ∧ (xs.getD i mo0).2 ≤ 9223372036854775807)) (k1 : -9223372036854775808 ≤ k) (k2 : k ≤ 9223372036854775807) (hok : okL xs = false) : Calls Tryd.prog 28 #[Cv k p xs.length c eq] w (TR (0, [], false, 0, 1) w) := by
  have VL := Lib.hid fun w h => cval1 k p xs c eq w (by unfold maxLen; omega) h (Lib.hid fun i hi => (RS.out i hi).1)
  have B0 : Below w.heap.size w ((w.alloc (Obj.cells #[Value.int .i64 k, Value.slice p xs.length c, Value.bool eq] 36)).alloc (Obj.cells #[Value.int .i64 0, Value.slice none 0 0, Value.bool false] 36)) := ((Below.refl _ _).alloc (Nat.le_refl _) _).alloc (by simp) _
  have RA2 := Lib.hid (SlM.keep B0 RA.out)
  have hv : vL xs = 1 := by unfold vL; rw [hok]; rfl
  rw [hv] at VL
  unfold Cv at *
  clear hok hv RS
  go_enter Tryd.func28, Tryd.ntmps28
  go_wp2_with (first | (go_at_call 24; (with_reducible refine (VL.out _ RA2).mono ?_); rintro e w1 ⟨rfl, hb1⟩; have hc1 := (Rg.bcell hb1).1; have hf1 := (Rg.bcell hb1).2; have z1_0 : w.heap.size < w1.heap.size := (by have hzz := hb1.size; (try simp at hzz); omega); have z1_1 : w.heap.size + 1 < w1.heap.size := (by have hzz := hb1.size; (try simp at hzz); omega); have K1 : Below w.heap.size w w1 := Below.trans (b := _) (by (repeat' (first | (with_reducible exact Below.refl _ _) | (with_reducible refine Below.alloc ?_ ?_ _) | (with_reducible refine Below.setCell ?_ ?_ _) | (with_reducible refine below_drewN ?_ _) | (simp; done) | omega | (simp; omega)))) (hb1.mono (by have hzz := hb1.size; (try simp at hzz); first | omega | (simp; done) | (simp; omega)))))
  refine bodyPost_ret (v := .tuple #[.agg #[.int .i64 0, .slice none 0 0, .bool false], .int .i64 0, .int .i64 1]) (by simp [results, Tryd.results28, go_sem, hc1, hf1, z1_0, Nat.lt_succ_of_lt z1_0, Nat.ne_of_lt z1_0, Nat.ne_of_gt z1_0, z1_1, Nat.lt_succ_of_lt z1_1, Nat.ne_of_lt z1_1, Nat.ne_of_gt z1_1]) rfl (TR.nil ?_); (repeat' (first | (with_reducible exact Below.refl _ _) | (with_reducible exact K1) | (with_reducible exact K1.size) | (with_reducible refine Below.alloc ?_ ?_ _) | (with_reducible refine Below.setCell ?_ ?_ _) | (with_reducible refine below_drewN ?_ _) | (simp; done) | omega | (simp; omega)))

set_option maxHeartbeats 4000000 in
theorem tig_true (k : Int) (p : Option Addr) (xs : List Mo) (c : Nat) (eq : Bool) (w : World) (hn : xs.length ≤ 1000) (RA : Hid (SlM w p xs)) (RS : Hid (∀ i, i < xs.length → (xs.getD i mo0).1.size ≤ maxLen ∧ -9223372036854775808 ≤ (xs.getD i mo0).2 ∧ (xs.getD i mo0).2 ≤ 9223372036854775807)) (k1 : -9223372036854775808 ≤ k) (k2 : k ≤ 9223372036854775807) (hok : okL xs = true) (h0 : xs.length = 0) (hh : hB k eq = true) : Calls Tryd.prog 28 #[Cv k p xs.length c eq] w (TR (0, [], false, 1, 0) w) := by
  have VL := Lib.hid fun w h => cval1 k p xs c eq w (by unfold maxLen; omega) h (Lib.hid fun i hi => (RS.out i hi).1)
  have B0 : Below w.heap.size w ((w.alloc (Obj.cells #[Value.int .i64 k, Value.slice p xs.length c, Value.bool eq] 36)).alloc (Obj.cells #[Value.int .i64 0, Value.slice none 0 0, Value.bool false] 36)) := ((Below.refl _ _).alloc (Nat.le_refl _) _).alloc (by simp) _
  have RA2 := Lib.hid (SlM.keep B0 RA.out)
  have hv : vL xs = 0 := by unfold vL; rw [hok]; rfl
  rw [hv] at VL
  have HF := Lib.hid fun w => holdsF k p xs.length c eq k w
  rw [hh] at HF
  have NV := Lib.hid fun w => never1 w
  have g0 : ((xs.length : Int) == 0) = true := by simp [h0]
  unfold Cv at *
  clear hok hv RS hh h0
  go_enter Tryd.func28, Tryd.ntmps28
  go_wp2_with (first | (go_at_call 24; (with_reducible refine (VL.out _ RA2).mono ?_); rintro e w1 ⟨rfl, hb1⟩; have hc1 := (Rg.bcell hb1).1; have hf1 := (Rg.bcell hb1).2; have z1_0 : w.heap.size < w1.heap.size := (by have hzz := hb1.size; (try simp at hzz); omega); have z1_1 : w.heap.size + 1 < w1.heap.size := (by have hzz := hb1.size; (try simp at hzz); omega); have K1 : Below w.heap.size w w1 := Below.trans (b := _) (by (repeat' (first | (with_reducible exact Below.refl _ _) | (with_reducible refine Below.alloc ?_ ?_ _) | (with_reducible refine Below.setCell ?_ ?_ _) | (with_reducible refine below_drewN ?_ _) | (simp; done) | omega | (simp; omega)))) (hb1.mono (by have hzz := hb1.size; (try simp at hzz); first | omega | (simp; done) | (simp; omega)))) | (go_at_call 54; (with_reducible refine (HF.out _).mono ?_); rintro e w2 ⟨rfl, hb2⟩; have hc2 := (Rg.bcell hb2).1; have hf2 := (Rg.bcell hb2).2; have z2_0 : w.heap.size < w2.heap.size := (by have hzz := hb2.size; (try simp at hzz); omega); have z2_1 : w.heap.size + 1 < w2.heap.size := (by have hzz := hb2.size; (try simp at hzz); omega); have K2 : Below w.heap.size w w2 := Below.trans (b := _) (by (repeat' (first | (with_reducible exact Below.refl _ _) | (with_reducible exact K1) | (with_reducible exact K1.size) | (with_reducible refine Below.alloc ?_ ?_ _) | (with_reducible refine Below.setCell ?_ ?_ _) | (with_reducible refine below_drewN ?_ _) | (simp; done) | omega | (simp; omega)))) (hb2.mono (by have hzz := hb2.size; (try simp at hzz); first | omega | (simp; done) | (simp; omega)))))
  refine bodyPost_ret (v := .tuple #[.agg #[.int .i64 0, .slice none 0 0, .bool false], .int .i64 1, .int .i64 0]) (by simp [results, Tryd.results28, go_sem, hc1, hf1, hc2, hf2, z1_0, Nat.lt_succ_of_lt z1_0, Nat.ne_of_lt z1_0, Nat.ne_of_gt z1_0, z1_1, Nat.lt_succ_of_lt z1_1, Nat.ne_of_lt z1_1, Nat.ne_of_gt z1_1, z2_0, Nat.lt_succ_of_lt z2_0, Nat.ne_of_lt z2_0, Nat.ne_of_gt z2_0, z2_1, Nat.lt_succ_of_lt z2_1, Nat.ne_of_lt z2_1, Nat.ne_of_gt z2_1]) rfl (TR.nil ?_); (repeat' (first | (with_reducible exact Below.refl _ _) | (with_reducible exact K1) | (with_reducible exact K1.size) | (with_reducible exact K2) | (with_reducible exact K2.size) | (with_reducible refine Below.alloc ?_ ?_ _) | (with_reducible refine Below.setCell ?_ ?_ _) | (with_reducible refine below_drewN ?_ _) | (simp; done) | omega | (simp; omega)))

set_option maxHeartbeats 4000000 in
theorem tig_false (k : Int) (p : Option Addr) (xs : List Mo) (c : Nat) (eq : Bool) (w : World) (hn : xs.length ≤ 1000) (RA : Hid (SlM w p xs)) (RS : Hid (∀ i, i < xs.length → (xs.getD i mo0).1.size ≤ maxLen ∧ -9223372036854775808 ≤ (xs.getD i mo0).2 ∧ (xs.getD i mo0).2 ≤ 9223372036854775807)) (k1 : -9223372036854775808 ≤ k) (k2 : k ≤ 9223372036854775807) (hok : okL xs = true) (h0 : xs.length = 0) (hh : hB k eq = false) : Calls Tryd.prog 28 #[Cv k p xs.length c eq] w (TR (-1, [], false, 2, 0) w) := by
  have VL := Lib.hid fun w h => cval1 k p xs c eq w (by unfold maxLen; omega) h (Lib.hid fun i hi => (RS.out i hi).1)
  have B0 : Below w.heap.size w ((w.alloc (Obj.cells #[Value.int .i64 k, Value.slice p xs.length c, Value.bool eq] 36)).alloc (Obj.cells #[Value.int .i64 0, Value.slice none 0 0, Value.bool false] 36)) := ((Below.refl _ _).alloc (Nat.le_refl _) _).alloc (by simp) _
  have RA2 := Lib.hid (SlM.keep B0 RA.out)
  have hv : vL xs = 0 := by unfold vL; rw [hok]; rfl
  rw [hv] at VL
  have HF := Lib.hid fun w => holdsF k p xs.length c eq k w
  rw [hh] at HF
  have NV := Lib.hid fun w => never1 w
  have g0 : ((xs.length : Int) == 0) = true := by simp [h0]
  unfold Cv at *
  clear hok hv RS hh h0
  go_enter Tryd.func28, Tryd.ntmps28
  go_wp2_with (first | (go_at_call 24; (with_reducible refine (VL.out _ RA2).mono ?_); rintro e w1 ⟨rfl, hb1⟩; have hc1 := (Rg.bcell hb1).1; have hf1 := (Rg.bcell hb1).2; have z1_0 : w.heap.size < w1.heap.size := (by have hzz := hb1.size; (try simp at hzz); omega); have z1_1 : w.heap.size + 1 < w1.heap.size := (by have hzz := hb1.size; (try simp at hzz); omega); have K1 : Below w.heap.size w w1 := Below.trans (b := _) (by (repeat' (first | (with_reducible exact Below.refl _ _) | (with_reducible refine Below.alloc ?_ ?_ _) | (with_reducible refine Below.setCell ?_ ?_ _) | (with_reducible refine below_drewN ?_ _) | (simp; done) | omega | (simp; omega)))) (hb1.mono (by have hzz := hb1.size; (try simp at hzz); first | omega | (simp; done) | (simp; omega)))) | (go_at_call 54; (with_reducible refine (HF.out _).mono ?_); rintro e w2 ⟨rfl, hb2⟩; have hc2 := (Rg.bcell hb2).1; have hf2 := (Rg.bcell hb2).2; have z2_0 : w.heap.size < w2.heap.size := (by have hzz := hb2.size; (try simp at hzz); omega); have z2_1 : w.heap.size + 1 < w2.heap.size := (by have hzz := hb2.size; (try simp at hzz); omega); have K2 : Below w.heap.size w w2 := Below.trans (b := _) (by (repeat' (first | (with_reducible exact Below.refl _ _) | (with_reducible exact K1) | (with_reducible exact K1.size) | (with_reducible refine Below.alloc ?_ ?_ _) | (with_reducible refine Below.setCell ?_ ?_ _) | (with_reducible refine below_drewN ?_ _) | (simp; done) | omega | (simp; omega)))) (hb2.mono (by have hzz := hb2.size; (try simp at hzz); first | omega | (simp; done) | (simp; omega)))) | (go_at_call 58; (with_reducible refine (NV.out _).mono ?_); rintro e w3 ⟨rfl, hb3⟩; have hc3 := (Rg.bcell hb3).1; have hf3 := (Rg.bcell hb3).2; have z3_0 : w.heap.size < w3.heap.size := (by have hzz := hb3.size; (try simp at hzz); omega); have z3_1 : w.heap.size + 1 < w3.heap.size := (by have hzz := hb3.size; (try simp at hzz); omega); have K3 : Below w.heap.size w w3 := Below.trans (b := _) (by (repeat' (first | (with_reducible exact Below.refl _ _) | (with_reducible exact K1) | (with_reducible exact K1.size) | (with_reducible exact K2) | (with_reducible exact K2.size) | (with_reducible refine Below.alloc ?_ ?_ _) | (with_reducible refine Below.setCell ?_ ?_ _) | (with_reducible refine below_drewN ?_ _) | (simp; done) | omega | (simp; omega)))) (hb3.mono (by have hzz := hb3.size; (try simp at hzz); first | omega | (simp; done) | (simp; omega)))))
  refine bodyPost_ret (v := .tuple #[.agg #[.int .i64 (-1), .slice none 0 0, .bool false], .int .i64 2, .int .i64 0]) (by simp [results, Tryd.results28, go_sem, hc1, hf1, hc2, hf2, hc3, hf3, z1_0, Nat.lt_succ_of_lt z1_0, Nat.ne_of_lt z1_0, Nat.ne_of_gt z1_0, z1_1, Nat.lt_succ_of_lt z1_1, Nat.ne_of_lt z1_1, Nat.ne_of_gt z1_1, z2_0, Nat.lt_succ_of_lt z2_0, Nat.ne_of_lt z2_0, Nat.ne_of_gt z2_0, z2_1, Nat.lt_succ_of_lt z2_1, Nat.ne_of_lt z2_1, Nat.ne_of_gt z2_1, z3_0, Nat.lt_succ_of_lt z3_0, Nat.ne_of_lt z3_0, Nat.ne_of_gt z3_0, z3_1, Nat.lt_succ_of_lt z3_1, Nat.ne_of_lt z3_1, Nat.ne_of_gt z3_1]) rfl (TR.nil ?_); (repeat' (first | (with_reducible exact Below.refl _ _) | (with_reducible exact K1) | (with_reducible exact K1.size) | (with_reducible exact K2) | (with_reducible exact K2.size) | (with_reducible exact K3) | (with_reducible exact K3.size) | (with_reducible refine Below.alloc ?_ ?_ _) | (with_reducible refine Below.setCell ?_ ?_ _) | (with_reducible refine below_drewN ?_ _) | (simp; done) | omega | (simp; omega)))

set_option maxHeartbeats 4000000 in
theorem tig_no (k : Int) (p : Option Addr) (xs : List Mo) (c : Nat) (eq : Bool) (w : World) (hn : xs.length ≤ 1000) (RA : Hid (SlM w p xs)) (RS : Hid (∀ i, i < xs.length → (xs.getD i mo0).1.size ≤ maxLen ∧ -9223372036854775808 ≤ (xs.getD i mo0).2 ∧ (xs.getD i mo0).2 ≤ 9223372036854775807)) (k1 : -9223372036854775808 ≤ k) (k2 : k ≤ 9223372036854775807) (hok : okL xs = true) (h0 : xs.length ≠ 0) (he : eq = true) (hx : (k % (gcdL 0 xs : Int) == 0) = false) : Calls Tryd.prog 28 #[Cv k p xs.length c eq] w (TR (-1, [], false, 2, 0) w) := by
  have VL := Lib.hid fun w h => cval1 k p xs c eq w (by unfold maxLen; omega) h (Lib.hid fun i hi => (RS.out i hi).1)
  have B0 : Below w.heap.size w ((w.alloc (Obj.cells #[Value.int .i64 k, Value.slice p xs.length c, Value.bool eq] 36)).alloc (Obj.cells #[Value.int .i64 0, Value.slice none 0 0, Value.bool false] 36)) := ((Below.refl _ _).alloc (Nat.le_refl _) _).alloc (by simp) _
  have RA2 := Lib.hid (SlM.keep B0 RA.out)
  have hv : vL xs = 0 := by unfold vL; rw [hok]; rfl
  rw [hv] at VL
  obtain ⟨q0, q1⟩ := gcdL_bd hok h0 (fun i hi => (RS.out i hi).2)
  have GC := Lib.hid fun w h => gcd1 k p xs c w (by unfold maxLen; omega) h RS
  have FD := Lib.hid fun w => fdiv k (gcdL 0 xs) k1 k2 q0 q1 w
  rw [hx] at FD
  have NV := Lib.hid fun w => never1 w
  have g0 : ((xs.length : Int) == 0) = false := by rw [beq_eq_false_iff_ne]; omega
  subst he
  unfold Cv Lv at *
  obtain ⟨G, hG⟩ : ∃ G, wrap64 (gcdL 0 xs : Int) = G := ⟨_, rfl⟩
  obtain ⟨D, hD⟩ : ∃ D, k / (gcdL 0 xs : Int) = D := ⟨_, rfl⟩
  rw [hG] at GC FD
  rw [hD] at FD
  clear hok hv RS hx h0 hG hD q0 q1
  go_enter Tryd.func28, Tryd.ntmps28
  go_wp2_with (first | (go_at_call 24; (with_reducible refine (VL.out _ RA2).mono ?_); rintro e w1 ⟨rfl, hb1⟩; have hc1 := (Rg.bcell hb1).1; have hf1 := (Rg.bcell hb1).2; have z1_0 : w.heap.size < w1.heap.size := (by have hzz := hb1.size; (try simp at hzz); omega); have z1_1 : w.heap.size + 1 < w1.heap.size := (by have hzz := hb1.size; (try simp at hzz); omega); have K1 : Below w.heap.size w w1 := Below.trans (b := _) (by (repeat' (first | (with_reducible exact Below.refl _ _) | (with_reducible refine Below.alloc ?_ ?_ _) | (with_reducible refine Below.setCell ?_ ?_ _) | (with_reducible refine below_drewN ?_ _) | (simp; done) | omega | (simp; omega)))) (hb1.mono (by have hzz := hb1.size; (try simp at hzz); first | omega | (simp; done) | (simp; omega)))) | (go_at_call 59; (with_reducible refine (GC.out _ (Lib.hid (SlM.keep K1 RA.out))).mono ?_); rintro e w2 ⟨rfl, hb2⟩; have hc2 := (Rg.bcell hb2).1; have hf2 := (Rg.bcell hb2).2; have z2_0 : w.heap.size < w2.heap.size := (by have hzz := hb2.size; (try simp at hzz); omega); have z2_1 : w.heap.size + 1 < w2.heap.size := (by have hzz := hb2.size; (try simp at hzz); omega); have K2 : Below w.heap.size w w2 := Below.trans (b := _) (by (repeat' (first | (with_reducible exact Below.refl _ _) | (with_reducible exact K1) | (with_reducible exact K1.size) | (with_reducible refine Below.alloc ?_ ?_ _) | (with_reducible refine Below.setCell ?_ ?_ _) | (with_reducible refine below_drewN ?_ _) | (simp; done) | omega | (simp; omega)))) (hb2.mono (by have hzz := hb2.size; (try simp at hzz); first | omega | (simp; done) | (simp; omega)))) | (go_at_call 60; (with_reducible refine (FD.out _).mono ?_); rintro e w3 ⟨rfl, hb3⟩; have hc3 := (Rg.bcell hb3).1; have hf3 := (Rg.bcell hb3).2; have z3_0 : w.heap.size < w3.heap.size := (by have hzz := hb3.size; (try simp at hzz); omega); have z3_1 : w.heap.size + 1 < w3.heap.size := (by have hzz := hb3.size; (try simp at hzz); omega); have K3 : Below w.heap.size w w3 := Below.trans (b := _) (by (repeat' (first | (with_reducible exact Below.refl _ _) | (with_reducible exact K1) | (with_reducible exact K1.size) | (with_reducible exact K2) | (with_reducible exact K2.size) | (with_reducible refine Below.alloc ?_ ?_ _) | (with_reducible refine Below.setCell ?_ ?_ _) | (with_reducible refine below_drewN ?_ _) | (simp; done) | omega | (simp; omega)))) (hb3.mono (by have hzz := hb3.size; (try simp at hzz); first | omega | (simp; done) | (simp; omega)))) | (go_at_call 58; (with_reducible refine (NV.out _).mono ?_); rintro e w4 ⟨rfl, hb4⟩; have hc4 := (Rg.bcell hb4).1; have hf4 := (Rg.bcell hb4).2; have z4_0 : w.heap.size < w4.heap.size := (by have hzz := hb4.size; (try simp at hzz); omega); have z4_1 : w.heap.size + 1 < w4.heap.size := (by have hzz := hb4.size; (try simp at hzz); omega); have K4 : Below w.heap.size w w4 := Below.trans (b := _) (by (repeat' (first | (with_reducible exact Below.refl _ _) | (with_reducible exact K1) | (with_reducible exact K1.size) | (with_reducible exact K2) | (with_reducible exact K2.size) | (with_reducible exact K3) | (with_reducible exact K3.size) | (with_reducible refine Below.alloc ?_ ?_ _) | (with_reducible refine Below.setCell ?_ ?_ _) | (with_reducible refine below_drewN ?_ _) | (simp; done) | omega | (simp; omega)))) (hb4.mono (by have hzz := hb4.size; (try simp at hzz); first | omega | (simp; done) | (simp; omega)))))
  refine bodyPost_ret (v := .tuple #[.agg #[.int .i64 (-1), .slice none 0 0, .bool false], .int .i64 2, .int .i64 0]) (by simp [results, Tryd.results28, go_sem, hc1, hf1, hc2, hf2, hc3, hf3, hc4, hf4, z1_0, Nat.lt_succ_of_lt z1_0, Nat.ne_of_lt z1_0, Nat.ne_of_gt z1_0, z1_1, Nat.lt_succ_of_lt z1_1, Nat.ne_of_lt z1_1, Nat.ne_of_gt z1_1, z2_0, Nat.lt_succ_of_lt z2_0, Nat.ne_of_lt z2_0, Nat.ne_of_gt z2_0, z2_1, Nat.lt_succ_of_lt z2_1, Nat.ne_of_lt z2_1, Nat.ne_of_gt z2_1, z3_0, Nat.lt_succ_of_lt z3_0, Nat.ne_of_lt z3_0, Nat.ne_of_gt z3_0, z3_1, Nat.lt_succ_of_lt z3_1, Nat.ne_of_lt z3_1, Nat.ne_of_gt z3_1, z4_0, Nat.lt_succ_of_lt z4_0, Nat.ne_of_lt z4_0, Nat.ne_of_gt z4_0, z4_1, Nat.lt_succ_of_lt z4_1, Nat.ne_of_lt z4_1, Nat.ne_of_gt z4_1]) rfl (TR.nil ?_); (repeat' (first | (with_reducible exact Below.refl _ _) | (with_reducible exact K1) | (with_reducible exact K1.size) | (with_reducible exact K2) | (with_reducible exact K2.size) | (with_reducible exact K3) | (with_reducible exact K3.size) | (with_reducible exact K4) | (with_reducible exact K4.size) | (with_reducible refine Below.alloc ?_ ?_ _) | (with_reducible refine Below.setCell ?_ ?_ _) | (with_reducible refine below_drewN ?_ _) | (simp; done) | omega | (simp; omega)))
end Go.Proofs.YtbicmlkjonaccaaDoor.Ln
