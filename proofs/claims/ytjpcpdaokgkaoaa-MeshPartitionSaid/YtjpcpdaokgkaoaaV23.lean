/- Permute of package shape. -/
import Derived.Test.YtjpcpdaokgkaoaaV22
namespace Go.Proofs.Ytjpcpdaokgkaoaa.Sh
open Go.ChangeShapes Go.WideShapes Go.ChangeAt Go.RowKit
set_option linter.unusedVariables false

/-- Permute of a valid shape, by an order of as many axes. -/
def MW (zs os : List Int) (w : World) (e : Ending) (w' : World) : Prop := (gd zs.length os zs.length ∧ QW (pm zs os) 0 w e w') ∨ (¬ gd zs.length os zs.length ∧ QW [] 1 w e w')
set_option maxHeartbeats 8000000 in
theorem c27_ok (p q : Option Addr) (zs os : List Int) (c d : Nat) (w : World) (RA : Hid (SlI w p zs)) (RB : Hid (SlI w q os)) (hv : vE zs = 0) (hl : os.length = zs.length) :
    Calls Try.prog 27 #[.slice p zs.length c, .slice q os.length d] w (MW zs os w) := by
  obtain ⟨h6, _⟩ := valid_of hv
  have C := Lib.hid (c14 p zs c w (by unfold maxLen; omega) RA)
  rw [hv] at C
  clear hv
  obtain ⟨i0, hi, hz0, hz1, hz2⟩ := info_parts info3
  have hpl : (pm zs os).length = os.length := by simp [pm]
  obtain ⟨n, hN⟩ : ∃ n, zs.length = n := ⟨_, rfl⟩
  have HN := Lib.hid hN
  have HM : Hid (os.length = n) := Lib.hid (by omega)
  have HPL : Hid ((pm zs os).length = n) := Lib.hid (by omega)
  have hm : os.length = n := by omega
  rw [hN] at C h6 ⊢
  rw [hm]
  clear hN hm hl hpl
  go_enter Try.func27, Try.ntmps27
  go_wp2_with (first | (go_at_call 14; refine (C.out).mono ?_; rintro e w' ⟨rfl, rfl⟩) | (refine wpList_make_full _ rfl _ _ 22 rfl w.heap.size 3 i0 (.int .i64 0) 1 Try.underlying22 hi hz0 hz1 .i64 .i64 _ _ n rfl rfl rfl rfl (by rw [hz2]; omega) (by unfold maxLen; omega) (by simp) ?_; intro w1 hown hg; have hB0 := below_own (Nat.le_refl _) hg; have hg2 := Lib.hid hg; clear hg hi hz0 hz1 hz2 i0))
  have us0 : Hid ((w.alloc (.cells #[.bool false, .bool false, .bool false, .bool false, .bool false, .bool false] 57)).ownsRow w.heap.size 57 1 (.slice (some ⟨w.heap.size, 0, none⟩) 6 6) 6 ((List.replicate 6 false).map Value.bool)) :=
    Lib.hid (World.ownsRow_lit w _ 6 (Nat.le_refl _) (by unfold maxLen; decide) rfl)
  have us1 : Hid (w1.ownsRow w.heap.size 57 1 (.slice (some ⟨w.heap.size, 0, none⟩) 6 6) 6 ((List.replicate 6 false).map Value.bool)) := Lib.hid (us0.out.kept hg2.out (Or.inr (by simp [Value.ownBlock])))
  have hB : Below w.heap.size w w1 := ((Below.refl _ _).alloc (Nat.le_refl _) _).trans (hB0.mono (by simp))
  clear us0 hg2 hB0 C
  have rs1 : Hid (w1.ownsRow w.heap.size 3 1 (.slice (some ⟨w.heap.size + 1, 0, none⟩) n n) n ((List.replicate n (0 : Int)).map (Value.int .i64))) := Lib.hid (by
    have h := hown
    rw [show (Value.int IntKind.i64 0).cells = #[.int .i64 0] from rfl, toList_madeCells_one, Nat.mul_one] at h
    rw [List.map_replicate]
    simpa using h)
  clear hown
  go_loopw [26] (fun i wr => ∃ (k : Nat) (us : List Bool) (rs : List Int), i = .int .i64 (k : Int) ∧ k ≤ n ∧ Below w.heap.size w wr ∧ us.length = 6 ∧ rs.length = n ∧ Hid (gd n os k) ∧ Hid (∀ y, y < 6 → (us.getD y false = true ↔ ∃ i, i < k ∧ os.getD i 0 = (y : Int))) ∧ Hid (∀ j, j < k → rs.getD j 0 = (pm zs os).getD j 0) ∧
    Hid (wr.ownsRow w.heap.size 57 1 (.slice (some ⟨w.heap.size, 0, none⟩) 6 6) 6 (us.map Value.bool)) ∧ Hid (wr.ownsRow w.heap.size 3 1 (.slice (some ⟨w.heap.size + 1, 0, none⟩) n n) n (rs.map (Value.int .i64)))) (fun i _ => n - (intOf i).toNat)
  case atStart =>
    refine ⟨0, _, _, rfl, by omega, hB, by simp, by simp, Lib.hid fun i hi => by omega, Lib.hid fun y hy => ?_, Lib.hid fun j hj => by omega, us1, rs1⟩
    constructor
    · intro h
      rcases (by omega : y = 0 ∨ y = 1 ∨ y = 2 ∨ y = 3 ∨ y = 4 ∨ y = 5) with rfl | rfl | rfl | rfl | rfl | rfl <;> cases h
    · rintro ⟨i, hi, _⟩; omega
  case round =>
    obtain ⟨k, us, rs, rfl, hk, KB, hu, hr, hG, hU, hR, oU, oR⟩ := hrel
    clear us1 rs1 hB
    by_cases hlt : k < n
    · obtain ⟨b2, o2, rfl, c2⟩ := RB.out k (by rw [HM.out]; exact hlt)
      obtain ⟨x, hX⟩ : ∃ x, os.getD k 0 = x := ⟨_, rfl⟩
      rw [hX] at c2
      have lt2 : b2 < w.heap.size := by have := World.block_lt_of_cell? w _ c2; simpa using this
      have c2 := Rg.keep' KB lt2 c2
      have HX := Lib.hid hX
      have i0 : (0 : Int) ≤ k := by omega
      have i1 : (k : Int) < n := by omega
      clear hX
      by_cases x0 : x < 0
      · have k1 : decide (x < 0) = true := by simpa using x0
        have NG : Hid (¬ gd zs.length os zs.length) := Lib.hid fun h => by have := (h k (by rw [HN.out]; exact hlt)).1; rw [HX.out] at this; omega
        clear x0
        go_wp2
        refine bodyPost_ret (v := .tuple #[.slice none 0 0, .int .i64 1]) (by simp [results, Try.results27, go_sem]) rfl (Or.inr ⟨NG.out, _, rfl, KB, World.ownsRow_nil _ _ _ _⟩)
      have k1 : decide (x < 0) = false := by simpa using x0
      by_cases x1 : (n : Int) ≤ x
      · have k2 : decide ((n : Int) ≤ x) = true := by simpa using x1
        have NG : Hid (¬ gd zs.length os zs.length) := Lib.hid fun h => by have := (h k (by rw [HN.out]; exact hlt)).2.1; rw [HX.out, HN.out] at this; omega
        clear x0 x1
        go_wp2
        refine bodyPost_ret (v := .tuple #[.slice none 0 0, .int .i64 1]) (by simp [results, Try.results27, go_sem]) rfl (Or.inr ⟨NG.out, _, rfl, KB, World.ownsRow_nil _ _ _ _⟩)
      obtain ⟨X, rfl⟩ : ∃ X : Nat, x = X := ⟨x.toNat, by omega⟩
      have k2 : decide ((n : Int) ≤ (X : Int)) = false := by simp <;> omega
      have k2' : decide (n ≤ X) = false := by simp <;> omega
      have hXn : X < n := by omega
      have j0 : (0 : Int) ≤ X := by omega
      have j1 : (X : Int) < n := by omega
      have j2 : (X : Int) < 6 := by omega
      have cu := bools_at oU.out (j := X) (by omega) hu
      have hUX := hU.out X (by omega)
      have AL : Try.prog.arrayLen 57 = 6 := by kernel_rfl
      obtain ⟨t, ht⟩ : ∃ t, us.getD X false = t := ⟨_, rfl⟩
      rw [ht] at cu hUX
      clear ht x0 x1
      cases t
      · have hne : ∀ i, i < k → os.getD i 0 ≠ (X : Int) := fun i hi e => by have := hUX.2 ⟨i, hi, e⟩; cases this
        have HG2 : Hid (gd n os (k + 1)) := Lib.hid (gd_step hG.out HX.out hXn hne)
        have HU2 := Lib.hid (us_step HX.out hu (by omega) hU.out)
        clear hne hUX
        obtain ⟨b1, o1, rfl, c1⟩ := RA.out X (by rw [HN.out]; exact hXn)
        have lt1 : b1 < w.heap.size := by have := World.block_lt_of_cell? w _ c1; simpa using this
        have c1 := Rg.keep' KB lt1 c1
        have hpm : (pm zs os).getD k 0 = zs.getD X 0 := by rw [pm_get (by rw [HM.out]; exact hlt), HX.out, Int.toNat_natCast]
        obtain ⟨z, hz⟩ : ∃ z, zs.getD X 0 = z := ⟨_, rfl⟩
        rw [hz] at c1 hpm
        have HPM := Lib.hid hpm
        clear hz hpm
        have n1 : ¬ w.heap.size = b1 := by omega
        have n2 : ¬ w.heap.size = b2 := by omega
        have n3 : ¬ w.heap.size + 1 = b1 := by omega
        have n4 : ¬ w.heap.size + 1 = b2 := by omega
        have f1 := oU.out.frozenAt X
        have sU := oU.out.stored X (.bool true)
        have oU1 := Lib.hid sU.1
        have oR1 := Lib.hid (oR.out.kept sU.2 (Or.inr (by simp [Value.ownBlock])))
        have c1' : (wr.setCell ⟨w.heap.size, X, none⟩ (.bool true)).cell? ⟨b1, o1 + X, none⟩ = some (.int .i64 z) := by rw [World.cell?_setCell_far _ _ _ _ n1]; exact c1
        have cr := cells_of oR1.out (j := k) (by omega) hr
        have fr := oR1.out.frozenAt k
        have sR := oR1.out.stored k (.int .i64 z)
        have oR2 := Lib.hid sR.1
        have oU2 := Lib.hid (oU1.out.kept sR.2 (Or.inr (by simp [Value.ownBlock])))
        have KB2 : Below w.heap.size w ((wr.setCell ⟨w.heap.size, X, none⟩ (.bool true)).setCell ⟨w.heap.size + 1, k, none⟩ (.int .i64 z)) := Below.setCell (Below.setCell KB (Nat.le_refl _) _) (Nat.le_succ _) _
        clear sU sR hU hG
        go_wp2
        go_roundw
        case rel =>
          refine ⟨k + 1, us.set X true, rs.set k z, by go_num, by omega, KB2, by simp [hu], by simp [hr], HG2, HU2, Lib.hid fun j hj => ?_, Lib.hid (by rw [List.map_set]; exact oU2.out), Lib.hid (by rw [List.map_set]; exact oR2.out)⟩
          by_cases e : j = k
          · subst e
            rw [getD_at (by simp [hr]; omega), List.getElem_set_self]
            exact HPM.out.symm
          · rw [getD_at (by simp [hr]; omega), List.getElem_set_ne (by omega), ← getD_at (by omega)]
            exact hR.out j (by omega)
        case measure => simp [intOf]; omega
      · have NG : Hid (¬ gd zs.length os zs.length) := Lib.hid fun h => by
          obtain ⟨i, hi, e⟩ := hUX.1 rfl
          exact (h k (by rw [HN.out]; exact hlt)).2.2 i hi (by rw [e, HX.out])
        clear hUX
        go_wp2
        refine bodyPost_ret (v := .tuple #[.slice none 0 0, .int .i64 1]) (by simp [results, Try.results27, go_sem]) rfl (Or.inr ⟨NG.out, _, rfl, KB, World.ownsRow_nil _ _ _ _⟩)
    · obtain rfl : k = n := by omega
      have e : rs = pm zs os := by
        refine List.ext_getElem (by rw [hr, HPL.out]) fun j h1 h2 => ?_
        have h := hR.out j (by omega)
        rw [getD_at h1, getD_at h2] at h
        exact h
      have HE := Lib.hid e
      clear e
      go_wp2
      refine bodyPost_ret (v := .tuple #[.slice (some ⟨w.heap.size + 1, 0, none⟩) k k, .int .i64 0]) (by simp [results, Try.results27, go_sem]) rfl (Or.inl ⟨by rw [HN.out]; exact hG.out, _, rfl, KB, ?_⟩)
      rw [← HE.out, hr]
      exact oR.out
end Go.Proofs.Ytjpcpdaokgkaoaa.Sh
