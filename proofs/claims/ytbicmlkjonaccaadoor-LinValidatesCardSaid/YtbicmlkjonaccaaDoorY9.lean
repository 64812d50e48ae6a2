/- Linear forms: Validate. -/
import Derived.Test.YtbicmlkjonaccaaDoorY6
import Derived.Deep.Quiet
namespace Go.Proofs.YtbicmlkjonaccaaDoor.Ln
open Go.ChangeShapes Go.WideShapes Go.ChangeAt Go.RowKit
open Go.Proofs.YtbicmlkjonaccaaDoor.Nm
set_option linter.unusedVariables false
set_option linter.unusedSimpArgs false
def bd (xs : List Mo) (k : Nat) : Bool := !nmB (xs.getD k mo0).1 || ((xs.getD k mo0).2 == 0 || (decide (0 < k) && !Op.bytesLess (xs.getD (k - 1) mo0).1.toList (xs.getD k mo0).1.toList))
def okL (xs : List Mo) : Bool := (List.range xs.length).all fun k => !bd xs k
theorem ok_bad {xs : List Mo} {k : Nat} (hk : k < xs.length) (h : bd xs k = true) : okL xs = false := by
  unfold okL
  rw [List.all_eq_false]
  exact ⟨k, List.mem_range.2 hk, by rw [h]; simp⟩
theorem ok_all {xs : List Mo} {k : Nat} (hk : k = xs.length) (h : ∀ j, j < k → bd xs j = false) : okL xs = true := by
  unfold okL
  rw [List.all_eq_true]
  intro j hj
  rw [h j (by rw [hk]; exact List.mem_range.1 hj)]
  rfl
theorem all_next {xs : List Mo} {k : Nat} (h : ∀ j, j < k → bd xs j = false) (hb : bd xs k = false) : ∀ j, j < k + 1 → bd xs j = false := fun j hj => by
  by_cases hjk : j = k
  · rw [hjk]; exact hb
  · exact h j (by omega)
def vL (xs : List Mo) : Int := if okL xs = true then 0 else 1
set_option maxRecDepth 100000 in
set_option maxHeartbeats 8000000 in
theorem val1 (k : Int) (p : Option Addr) (xs : List Mo) (c : Nat) (w : World) (hn : xs.length ≤ maxLen) (RA : Hid (SlM w p xs)) (RS : Hid (∀ i, i < xs.length → (xs.getD i mo0).1.size ≤ maxLen)) :
    Calls Tryd.prog 16 #[Lv k p xs.length c] w fun e w' => e = .returned (.int .i64 (vL xs)) ∧ Below w.heap.size w w' := by
  have B0 : Below w.heap.size w (w.alloc (Obj.cells #[Value.int .i64 k, Value.slice p xs.length c] 24)) := (Below.refl _ _).alloc (Nat.le_refl _) _
  have S0 : w.heap.size < ((w.alloc (Obj.cells #[Value.int .i64 k, Value.slice p xs.length c] 24))).heap.size := by simp
  have f1 : ((w.alloc (Obj.cells #[Value.int .i64 k, Value.slice p xs.length c] 24))).cell? ⟨w.heap.size, 1, none⟩ = some (.slice p xs.length c) := by go_cell
  unfold maxLen at hn
  unfold Lv
  go_enter Tryd.func16, Tryd.ntmps16
  go_wp2
  have RA1 := Lib.hid (SlM.keep B0 RA.out)
  generalize (w.alloc (Obj.cells #[Value.int .i64 k, Value.slice p xs.length c] 24)) = z at *
  go_loopw [8] (fun i wr => ∃ j : Nat, i = .int .i64 (j : Int) ∧ j ≤ xs.length ∧ Below z.heap.size z wr ∧ Hid (∀ i, i < j → bd xs i = false)) (fun i _ => xs.length - (intOf i).toNat)
  case atStart => exact ⟨0, rfl, by omega, Below.refl _ _, Lib.hid fun i hi => absurd hi (by omega)⟩
  case round =>
    obtain ⟨j, rfl, hk, hB, HG⟩ := hrel
    have k0 : (0 : Int) ≤ j := by omega
    have BK : Below w.heap.size w wr := B0.trans (hB.mono B0.size)
    by_cases hlt : j < xs.length
    · obtain ⟨b, o, rfl, c0, c1⟩ := SlM.keep hB RA1.out j hlt
      have hbd : bd xs j = (!nmB (xs.getD j mo0).1 || ((xs.getD j mo0).2 == 0 || (decide (0 < j) && !Op.bytesLess (xs.getD (j - 1) mo0).1.toList (xs.getD j mo0).1.toList))) := rfl
      have hsz := RS.out j hlt
      have k1 : (j : Int) < xs.length := by omega
      have F1 := kp hB S0 f1
      have u1 : w.heap.size < wr.heap.size := Nat.lt_of_lt_of_le S0 hB.size
      obtain ⟨⟨t, e⟩, hy⟩ : ∃ y, xs.getD (j - 1) mo0 = y := ⟨_, rfl⟩
      have hprev : 0 < j → wr.cell? ⟨b, o + (j - 1) * 2, none⟩ = some (.string t) := fun h0 => by
        obtain ⟨b', o', he, d0, d1⟩ := SlM.keep hB RA1.out (j - 1) (by omega)
        cases he
        rw [hy] at d0
        exact d0
      obtain ⟨⟨s, a⟩, hx⟩ : ∃ x, xs.getD j mo0 = x := ⟨_, rfl⟩
      have hb : b < wr.heap.size := by have := World.block_lt_of_cell? wr _ c0; simpa using this
      rw [hx] at c0 c1 hsz
      rw [hx, hy] at hbd
      simp only at c0 c1 hsz hbd
      clear hx hy f1
      have C := Lib.hid fun w => isName s w hsz
      obtain ⟨q1, hq1⟩ : ∃ q, nmB s = q := ⟨_, rfl⟩
      obtain ⟨q3, hq3⟩ : ∃ q, Op.bytesLess t.toList s.toList = q := ⟨_, rfl⟩
      rw [hq1] at C hbd
      have CQ := Lib.hid fun w => (C.out w).mono fun e w' h => (show e = .returned (.bool q1) ∧ w' = w from ⟨h.1, h.2.symm⟩)
      clear C
      rw [hq3] at hbd
      go_wp2
      have H0 : (wr.alloc (Obj.cells #[Value.string s, Value.int .i64 a] 59)).cell? ⟨wr.heap.size, 0, none⟩ = some (.string s) := by go_cell
      have H1 : (wr.alloc (Obj.cells #[Value.string s, Value.int .i64 a] 59)).cell? ⟨wr.heap.size, 1, none⟩ = some (.int .i64 a) := by go_cell
      have B1 : Below wr.heap.size wr (wr.alloc (Obj.cells #[Value.string s, Value.int .i64 a] 59)) := (Below.refl _ _).alloc (Nat.le_refl _) _
      have F2 := kp B1 u1 F1
      have P2 : 0 < j → (wr.alloc (Obj.cells #[Value.string s, Value.int .i64 a] 59)).cell? ⟨b, o + (j - 1) * 2, none⟩ = some (.string t) := fun h0 => kp B1 hb (hprev h0)
      have BZ : Below z.heap.size z (wr.alloc (Obj.cells #[Value.string s, Value.int .i64 a] 59)) := hB.alloc hB.size _
      have BW : Below w.heap.size w (wr.alloc (Obj.cells #[Value.string s, Value.int .i64 a] 59)) := BK.alloc BK.size _
      generalize wr.heap.size = g at *
      generalize wr.alloc (Obj.cells #[Value.string s, Value.int .i64 a] 59) = zz at *
      clear c0 c1 hprev F1 B1 hB BK hb u1
      have HBAD : Hid (bd xs j = true → vL xs = 1) := Lib.hid fun h => by unfold vL; rw [ok_bad hlt h]; rfl
      have HOK : Hid (bd xs j = false → ∀ i, i < j + 1 → bd xs i = false) := Lib.hid (all_next HG.out)
      clear HG
      by_cases ha : a = 0
      · subst ha
        have HT := Lib.hid (HBAD.out (by rw [hbd]; cases q1 <;> simp))
        clear hbd HBAD HOK P2 hq3 hq1
        cases q1
        all_goals
          go_quiet ((go_at_call 44; exact Calls.quiet_of_same (CQ.out _)))
          go_wp2
          go_ret
          exact ⟨ret_int (by rw [HT.out]), below_drewN BW _⟩
      · have ha2 : (a == 0) = false := beq_false_of_ne ha
        rw [ha2, Bool.false_or] at hbd
        cases q1
        · have HT := Lib.hid (HBAD.out (by rw [hbd]; simp))
          clear hbd HBAD HOK P2 hq3 hq1
          go_quiet ((go_at_call 44; exact Calls.quiet_of_same (CQ.out _)))
          go_wp2
          go_ret
          exact ⟨ret_int (by rw [HT.out]), below_drewN BW _⟩
        · by_cases hj : 0 < j
          · obtain ⟨i, rfl⟩ : ∃ i, j = i + 1 := ⟨j - 1, by omega⟩
            have P3 := P2 (by omega)
            rw [show i + 1 - 1 = i by omega] at P3
            have e1 : (0 : Int) < ((i + 1 : Nat) : Int) := by omega
            have e2 : decide ((0 : Int) < ((i + 1 : Nat) : Int)) = true := decide_eq_true e1
            have e3 : (0 : Int) < (i : Int) + 1 := by omega
            have e4 : decide ((0 : Int) < (i : Int) + 1) = true := decide_eq_true e3
            have w1 : IntKind.i64.wrap (((i + 1 : Nat) : Int) - 1) = (i : Int) := by rw [show ((i + 1 : Nat) : Int) - 1 = (i : Int) by omega]; exact IntWalk.i64_in _ (by omega)
            have w2 : IntKind.i64.wrap ((i : Int) + 1 - 1) = (i : Int) := by rw [show (i : Int) + 1 - 1 = (i : Int) by omega]; exact IntWalk.i64_in _ (by omega)
            have i0 : (0 : Int) ≤ i := by omega
            have i1 : (i : Int) < xs.length := by omega
            rw [decide_eq_true (show 0 < i + 1 by omega), Bool.true_and] at hbd
            clear P2
            cases q3
            · have HT := Lib.hid (HBAD.out (by rw [hbd]; simp))
              clear hbd HBAD HOK
              go_quiet ((go_at_call 44; exact Calls.quiet_of_same (CQ.out _)))
              go_wp2
              go_ret
              exact ⟨ret_int (by rw [HT.out]), below_drewN BW _⟩
            · have HT := Lib.hid (HOK.out (by rw [hbd]; simp))
              clear hbd HBAD HOK
              go_quiet ((go_at_call 44; exact Calls.quiet_of_same (CQ.out _)))
              go_wp2
              go_roundw
              case rel => exact ⟨i + 1 + 1, by go_num, by omega, below_drewN BZ _, HT⟩
              case measure => simp [intOf]; omega
          · obtain rfl : j = 0 := by omega
            have HT := Lib.hid (HOK.out (by rw [hbd]; simp))
            clear hbd HBAD HOK P2
            go_quiet ((go_at_call 44; exact Calls.quiet_of_same (CQ.out _)))
            go_wp2
            go_roundw
            case rel => exact ⟨0 + 1, by go_num, by omega, below_drewN BZ _, HT⟩
            case measure => simp [intOf]; omega
    · have k1 : ¬ (j : Int) < xs.length := by omega
      have HT := Lib.hid (show vL xs = 0 by unfold vL; rw [ok_all (show j = xs.length by omega) HG.out]; rfl)
      go_wp2
      go_ret
      exact ⟨ret_int (by rw [HT.out]), BK⟩
end Go.Proofs.YtbicmlkjonaccaaDoor.Ln
