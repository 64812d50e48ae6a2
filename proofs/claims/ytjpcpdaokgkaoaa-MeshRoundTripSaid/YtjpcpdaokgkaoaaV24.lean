/- Permute of the reference. -/
import Derived.Test.YtjpcpdaokgkaoaaV23
import Derived.Deep.Onto
namespace Go.Proofs.Ytjpcpdaokgkaoaa.Sh
open Go.ChangeShapes Go.WideShapes Go.ChangeAt Go.RowKit
set_option linter.unusedVariables false

theorem info4 : (Try.prog.info? 4).map (fun i => (i.zero, i.size, i.bytes)) = some (some (.bool false), 1, 1) := by kernel_rfl
set_option maxHeartbeats 8000000 in
theorem c28_ok (p q : Option Addr) (zs os : List Int) (c d : Nat) (w : World) (RA : Hid (SlI w p zs)) (RB : Hid (SlI w q os)) (hv : vE zs = 0) (hl : os.length = zs.length) :
    Calls Try.prog 28 #[.slice p zs.length c, .slice q os.length d] w (MW zs os w) := by
  obtain ⟨h6, _⟩ := valid_of hv
  have C := Lib.hid (c15 p zs c w (by unfold maxLen; omega) RA)
  rw [hv] at C
  clear hv
  obtain ⟨i0', hi, hz0, hz1, hz2⟩ := info_parts info3
  obtain ⟨q0, hq, hy0, hy1, hy2⟩ := info_parts info4
  have hpl : (pm zs os).length = os.length := by simp [pm]
  obtain ⟨n, hN⟩ : ∃ n, zs.length = n := ⟨_, rfl⟩
  have HN := Lib.hid hN
  have HM : Hid (os.length = n) := Lib.hid (by omega)
  have HPL : Hid ((pm zs os).length = n) := Lib.hid (by omega)
  have hm : os.length = n := by omega
  rw [hN] at C h6 ⊢
  rw [hm]
  clear hN hm hl hpl
  go_enter Try.func28, Try.ntmps28
  go_wp2_with (first | (go_at_call 15; refine (C.out).mono ?_; rintro e w' ⟨rfl, rfl⟩) | (refine wpList_make_full _ rfl _ _ 58 rfl w.heap.size 4 q0 (.bool false) 1 Try.underlying58 hq hy0 hy1 .i64 .i64 _ _ n rfl rfl rfl rfl (by rw [hy2]; omega) (by unfold maxLen; omega) (Nat.le_refl _) ?_; intro w1 hown hg; have hB := below_own (Nat.le_refl _) hg; clear hg hq hy0 hy1 hy2 q0))
  have us1 : Hid (w1.ownsRow w.heap.size 4 1 (.slice (some ⟨w.heap.size, 0, none⟩) n n) n ((List.replicate n false).map Value.bool)) := Lib.hid (by
    have h := hown
    rw [show (Value.bool false).cells = #[.bool false] from rfl, toList_madeCells_one, Nat.mul_one] at h
    rw [List.map_replicate]
    exact h)
  clear hown C
  go_loopw [8, 9] (fun v i wr => ∃ (k : Nat) (us : List Bool), i = .int .i64 (k : Int) ∧ k ≤ n ∧ Below w.heap.size w wr ∧ us.length = n ∧ Hid (gd n os k) ∧ Hid (∀ y, y < n → (us.getD y false = true ↔ ∃ i, i < k ∧ os.getD i 0 = (y : Int))) ∧
    Hid (wr.ownsRow w.heap.size 4 1 (.slice (some ⟨w.heap.size, 0, none⟩) n n) n (us.map Value.bool)) ∧ Hid (wr.ownsRow (w.heap.size + 1) 3 1 v k (((pm zs os).take k).map (Value.int .i64)))) (fun _ i _ => n - (intOf i).toNat)
  case atStart =>
    refine ⟨0, _, rfl, by omega, hB, by simp, Lib.hid fun i hi => by omega, Lib.hid fun y hy => ?_, us1, Lib.hid (World.ownsRow_nil _ _ _ _)⟩
    constructor
    · intro h
      unfold List.getD at h
      rw [List.getElem?_replicate, if_pos hy] at h
      cases h
    · rintro ⟨i, hi, _⟩; omega
  case round =>
    obtain ⟨k, us, rfl, hk, KB, hu, hG, hU, oU, hO⟩ := hrel
    clear us1 hB
    by_cases hlt : k < n
    · obtain ⟨b2, o2, rfl, c2⟩ := RB.out k (by rw [HM.out]; exact hlt)
      obtain ⟨x, hX⟩ : ∃ x, os.getD k 0 = x := ⟨_, rfl⟩
      rw [hX] at c2
      have lt2 : b2 < w.heap.size := by have := World.block_lt_of_cell? w _ c2; simpa using this
      have c2 := Rg.keep' KB lt2 c2
      have HX := Lib.hid hX
      have i0 : (0 : Int) ≤ k := by omega
      have i1 : (k : Int) < n := by omega
      clear hX
      by_cases x0 : x < 0
      · have k1 : decide (x < 0) = true := by simpa using x0
        have NG : Hid (¬ gd zs.length os zs.length) := Lib.hid fun h => by have := (h k (by rw [HN.out]; exact hlt)).1; rw [HX.out] at this; omega
        clear x0
        go_wp2
        refine bodyPost_ret (v := .tuple #[.slice none 0 0, .int .i64 1]) (by simp [results, Try.results28, go_sem]) rfl (Or.inr ⟨NG.out, _, rfl, KB, World.ownsRow_nil _ _ _ _⟩)
      have k1 : decide (x < 0) = false := by simpa using x0
      by_cases x1 : (n : Int) ≤ x
      · have k2 : decide ((n : Int) ≤ x) = true := by simpa using x1
        have NG : Hid (¬ gd zs.length os zs.length) := Lib.hid fun h => by have := (h k (by rw [HN.out]; exact hlt)).2.1; rw [HX.out, HN.out] at this; omega
        clear x0 x1
        go_wp2
        refine bodyPost_ret (v := .tuple #[.slice none 0 0, .int .i64 1]) (by simp [results, Try.results28, go_sem]) rfl (Or.inr ⟨NG.out, _, rfl, KB, World.ownsRow_nil _ _ _ _⟩)
      obtain ⟨X, rfl⟩ : ∃ X : Nat, x = X := ⟨x.toNat, by omega⟩
      have k2 : decide ((n : Int) ≤ (X : Int)) = false := by simp <;> omega
      have k2' : decide (n ≤ X) = false := by simp <;> omega
      have hXn : X < n := by omega
      have j0 : (0 : Int) ≤ X := by omega
      have j1 : (X : Int) < n := by omega
      have j2 : (X : Int) < 6 := by omega
      have cu := bools_at oU.out (j := X) (by omega) hu
      have hUX := hU.out X hXn
      obtain ⟨t, ht⟩ : ∃ t, us.getD X false = t := ⟨_, rfl⟩
      rw [ht] at cu hUX
      clear ht x0 x1
      cases t
      · have hne : ∀ i, i < k → os.getD i 0 ≠ (X : Int) := fun i hi e => by have := hUX.2 ⟨i, hi, e⟩; cases this
        have HG2 : Hid (gd n os (k + 1)) := Lib.hid (gd_step hG.out HX.out hXn hne)
        have HU2 := Lib.hid (us_step HX.out hu (by omega) hU.out)
        clear hne hUX
        obtain ⟨b1, o1, rfl, c1⟩ := RA.out X (by rw [HN.out]; exact hXn)
        have lt1 : b1 < w.heap.size := by have := World.block_lt_of_cell? w _ c1; simpa using this
        have c1 := Rg.keep' KB lt1 c1
        have hpm : (pm zs os).getD k 0 = zs.getD X 0 := by rw [pm_get (by rw [HM.out]; exact hlt), HX.out, Int.toNat_natCast]
        obtain ⟨z, hz⟩ : ∃ z, zs.getD X 0 = z := ⟨_, rfl⟩
        rw [hz] at c1 hpm
        have HPM := Lib.hid hpm
        clear hz hpm
        have n1 : ¬ w.heap.size = b1 := by omega
        have n2 : ¬ w.heap.size = b2 := by omega
        have f1 := oU.out.frozenAt X
        have sU := oU.out.stored X (.bool true)
        have lw : w.heap.size < wr.heap.size := (oU.out.lt w.heap.size rfl).2
        have oU1 := Lib.hid sU.1
        have hO1 := Lib.hid (hO.out.kept sU.2 (Or.inr (fun e => by have := (hO.out.lt _ e).1; omega)))
        have c1' : (wr.setCell ⟨w.heap.size, X, none⟩ (.bool true)).cell? ⟨b1, o1 + X, none⟩ = some (.int .i64 z) := by rw [World.cell?_setCell_far _ _ _ _ n1]; exact c1
        have c2' : (wr.setCell ⟨w.heap.size, X, none⟩ (.bool true)).cell? ⟨b2, o2 + k, none⟩ = some (.int .i64 (X : Int)) := by rw [World.cell?_setCell_far _ _ _ _ n2]; exact c2
        have KB1 : Below w.heap.size w (wr.setCell ⟨w.heap.size, X, none⟩ (.bool true)) := Below.setCell KB (Nat.le_refl _) _
        have tk : (pm zs os).take (k + 1) = (pm zs os).take k ++ [z] := by
          rw [List.take_succ_eq_append_getElem (by rw [HPL.out]; exact hlt), ← getD_at (by rw [HPL.out]; exact hlt), HPM.out]
        have TK := Lib.hid tk
        have lw1 : w.heap.size < (wr.setCell ⟨w.heap.size, X, none⟩ (.bool true)).heap.size := by simpa using lw
        have lbl := Lib.hid (fun (e : some w.heap.size = Value.ownBlock _) => by have := (hO1.out.lt _ e.symm).1; omega)
        clear sU hU hG tk
        go_wp2_with (at_builtin; refine wpList_append_own _ rfl _ _ 22 rfl (w.heap.size + 1) 3 i0' (.int .i64 0) 1 8 Try.underlying22 hi hz0 hz1 hz2 rfl (by decide) _ _ _ rfl (hO1.out.alloc _) ⟨wr.heap.size, 0, none⟩ 1 1 [.int .i64 z] ?_ rfl ?_ ?_ ?_ ?_ ?_ ?_)
        · first | rfl | simp
        · intro j u hj
          cases j with
          | zero => cases hj; go_cell
          | succ j => cases hj
        · intro u hu
          cases List.mem_singleton.1 hu
          rfl
        · unfold maxLen; omega
        · omega
        · simp; omega
        intro v' w1 hown' hgrow _
        have hO2 : Hid (w1.ownsRow (w.heap.size + 1) 3 1 v' (k + 1) (((pm zs os).take (k + 1)).map (Value.int .i64))) := Lib.hid (by
          have h := hown'
          rw [TK.out, List.map_append]
          simpa [List.map_take] using h)
        have oU2 := Lib.hid ((oU1.out.alloc _).kept hgrow (Or.inr (fun e => absurd (lbl.out e) (by omega))))
        have hB2 : Below w.heap.size w w1 := (KB1.alloc (by omega) _).grown hgrow (by simp; omega) (fun j hj => by have := (hO1.out.lt j hj).1; omega)
        clear hown' hgrow hi hz0 hz1 hz2
        go_wp2
        go_roundw
        case rel => exact ⟨k + 1, us.set X true, by go_num, by omega, hB2, by simp [hu], HG2, HU2, Lib.hid (by rw [List.map_set]; exact oU2.out), hO2⟩
        case measure => simp [intOf]; omega
      · have NG : Hid (¬ gd zs.length os zs.length) := Lib.hid fun h => by
          obtain ⟨i, hi, e⟩ := hUX.1 rfl
          exact (h k (by rw [HN.out]; exact hlt)).2.2 i hi (by rw [e, HX.out])
        clear hUX
        go_wp2
        refine bodyPost_ret (v := .tuple #[.slice none 0 0, .int .i64 1]) (by simp [results, Try.results28, go_sem]) rfl (Or.inr ⟨NG.out, _, rfl, KB, World.ownsRow_nil _ _ _ _⟩)
    · obtain rfl : k = n := by omega
      go_wp2
      refine bodyPost_ret (v := .tuple #[u8, .int .i64 0]) (by simp [results, Try.results28, go_sem]) rfl (Or.inl ⟨by rw [HN.out]; exact hG.out, _, rfl, KB, ?_⟩)
      have h := hO.out
      rw [List.take_of_length_le (by rw [HPL.out]; exact Nat.le_refl _)] at h
      rw [HPL.out]
      exact h.mono (Nat.le_succ _)
end Go.Proofs.Ytjpcpdaokgkaoaa.Sh
