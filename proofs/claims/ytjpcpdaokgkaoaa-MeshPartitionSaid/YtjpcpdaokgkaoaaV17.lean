/- Slice of the reference. -/
import Derived.Test.YtjpcpdaokgkaoaaV16
namespace Go.Proofs.Ytjpcpdaokgkaoaa.Sh
open Go.ChangeShapes Go.WideShapes Go.ChangeAt Go.RowKit
set_option linter.unusedVariables false

set_option maxHeartbeats 2000000 in
theorem c30_ok (p : Option Addr) (zs : List Int) (c : Nat) (k : Nat) (fr tt : Int) (w : World) (hn : zs.length ≤ maxLen) (RA : Hid (SlI w p zs)) (hv : vE zs = 0) (hk : k < zs.length) (f0 : 0 ≤ fr) (f1 : fr < tt) (f2 : tt ≤ zs.getD k 0) :
    Calls Try.prog 30 #[.slice p zs.length c, .int .i64 (k : Int), .int .i64 fr, .int .i64 tt] w (QW (zs.set k (tt - fr)) 0 w) := by
  have C := Lib.hid (c15 p zs c w hn RA)
  rw [hv] at C
  obtain ⟨h6, _⟩ := valid_of hv
  have hle := el_le hv hk
  obtain ⟨b, o, rfl, hc⟩ := RA.out k hk
  generalize zs.getD k 0 = z at *
  obtain ⟨i0, hi, hz0, hz1, hz2⟩ := info_parts info3
  clear hv
  have q0 : (0 : Int) ≤ k := by omega
  have q1 : (k : Int) < zs.length := by omega
  have k1 : decide ((k : Int) < 0) = false := by simp <;> omega
  have k2 : decide ((zs.length : Int) ≤ k) = false := by simp <;> omega
  have k3 : decide (zs.length ≤ k) = false := by simp <;> omega
  have m1 : decide (fr < 0) = false := by simp <;> omega
  have m2 : decide (tt ≤ fr) = false := by simp <;> omega
  have m3 : decide (z < tt) = false := by simp <;> omega
  obtain ⟨n, hN⟩ : ∃ n, zs.length = n := ⟨_, rfl⟩
  have HN := Lib.hid hN
  rw [hN] at C q1 k2 k3 hk h6 ⊢
  clear hN hn
  go_enter Try.func30, Try.ntmps30
  go_wp2_with (go_at_call 15; refine (C.out).mono ?_; rintro e w' ⟨rfl, rfl⟩)
  clear k1 k2 k3 m1 m2 m3 C
  go_loopw [11, 12] (fun v i wr => ∃ (j : Nat), i = .int .i64 j ∧ j ≤ n ∧ Below w.heap.size w wr ∧ Hid (wr.ownsRow w.heap.size 3 1 v j (((zs.set k (tt - fr)).take j).map (Value.int .i64)))) (fun _ i _ => n - (intOf i).toNat)
  case atStart => exact ⟨0, rfl, by omega, Below.refl _ _, Lib.hid (World.ownsRow_nil _ _ _ _)⟩
  case round =>
    obtain ⟨j0, rfl, hj, KB, hO⟩ := hrel
    by_cases hlt : j0 < n
    · have hks : w.heap.size ≤ wr.heap.size := KB.size
      obtain ⟨_, _, e0, hx⟩ := RA.out j0 (by rw [HN.out]; exact hlt)
      cases e0
      obtain ⟨x, hX⟩ : ∃ x, zs.getD j0 0 = x := ⟨_, rfl⟩
      rw [hX] at hx
      have hx2 := Rg.keep' KB (by have := World.block_lt_of_cell? w _ hx; simpa using this) hx
      have tk : (zs.set k (tt - fr)).take (j0 + 1) = (zs.set k (tt - fr)).take j0 ++ [if j0 = k then tt - fr else x] := by
        rw [List.take_succ_eq_append_getElem (by rw [List.length_set, HN.out]; exact hlt)]
        congr 2
        by_cases h : j0 = k
        · subst h
          rw [if_pos rfl, List.getElem_set_self]
        · rw [if_neg h, List.getElem_set_ne (by omega), ← getD_at (by rw [HN.out]; exact hlt)]
          exact hX
      clear hX hx hc
      by_cases h : j0 = k
      · rw [if_pos h] at tk
        have TK := Lib.hid tk
        subst h
        clear tk
        go_wp2_with (at_builtin; refine wpList_append_own _ rfl _ _ 22 rfl w.heap.size 3 i0 (.int .i64 0) 1 8 Try.underlying22 hi hz0 hz1 hz2 rfl (by decide) _ _ _ rfl (hO.out.alloc _) ⟨wr.heap.size, 0, none⟩ 1 1 [.int .i64 (tt - fr)] rfl rfl ?_ ?_ ?_ ?_ ?_ ?_)
        · intro j u hj
          cases j with
          | zero => cases hj; go_cell
          | succ j => cases hj
        · intro u hu
          cases List.mem_singleton.1 hu
          rfl
        · unfold maxLen; omega
        · omega
        · simp; omega
        intro v' w1 hown' hgrow _
        have hO2 : Hid (w1.ownsRow w.heap.size 3 1 v' (j0 + 1) (((zs.set j0 (tt - fr)).take (j0 + 1)).map (Value.int .i64))) := Lib.hid (by
          have h := hown'
          rw [TK.out]
          simpa [List.map_take, List.map_set] using h)
        have hB2 : Below w.heap.size w w1 := (KB.alloc hks _).grown hgrow (by simp; omega) (fun j hj => (hO.out.lt j hj).1)
        clear hown' hgrow hi hz0 hz1 hz2
        go_wp2
        go_roundw
        case rel => exact ⟨j0 + 1, by go_num, by omega, hB2, hO2⟩
        case measure => simp [intOf]; omega
      · rw [if_neg h] at tk
        have TK := Lib.hid tk
        have e1 : ((j0 : Int) == k) = false := by simp <;> omega
        have e2 : (j0 == k) = false := by simpa using h
        clear tk
        go_wp2_with (at_builtin; refine wpList_append_own _ rfl _ _ 22 rfl w.heap.size 3 i0 (.int .i64 0) 1 8 Try.underlying22 hi hz0 hz1 hz2 rfl (by decide) _ _ _ rfl (hO.out.alloc _) ⟨wr.heap.size, 0, none⟩ 1 1 [.int .i64 (x)] rfl rfl ?_ ?_ ?_ ?_ ?_ ?_)
        · intro j u hj
          cases j with
          | zero => cases hj; go_cell
          | succ j => cases hj
        · intro u hu
          cases List.mem_singleton.1 hu
          rfl
        · unfold maxLen; omega
        · omega
        · simp; omega
        intro v' w1 hown' hgrow _
        have hO2 : Hid (w1.ownsRow w.heap.size 3 1 v' (j0 + 1) (((zs.set k (tt - fr)).take (j0 + 1)).map (Value.int .i64))) := Lib.hid (by
          have h := hown'
          rw [TK.out]
          simpa [List.map_take, List.map_set] using h)
        have hB2 : Below w.heap.size w w1 := (KB.alloc hks _).grown hgrow (by simp; omega) (fun j hj => (hO.out.lt j hj).1)
        clear hown' hgrow hi hz0 hz1 hz2
        go_wp2
        go_roundw
        case rel => exact ⟨j0 + 1, by go_num, by omega, hB2, hO2⟩
        case measure => simp [intOf]; omega
    · obtain rfl : j0 = n := by omega
      go_wp2
      refine bodyPost_ret (v := .tuple #[u11, .int .i64 0]) (by simp [results, Try.results30, go_sem]) rfl ⟨_, rfl, KB, ?_⟩
      have h := hO.out
      rw [List.take_of_length_le (by rw [List.length_set, HN.out]; exact Nat.le_refl _)] at h
      rw [List.length_set, HN.out]
      exact h
theorem c29 (p : Option Addr) (zs : List Int) (c : Nat) (ax fr tt : Int) (w : World) (hn : zs.length ≤ maxLen) (RA : Hid (SlI w p zs)) :
    Calls Try.prog 29 #[.slice p zs.length c, .int .i64 ax, .int .i64 fr, .int .i64 tt] w (QW (slL zs ax fr tt) (slE zs ax fr tt) w) := by
  unfold slL slE
  by_cases h1 : (vE zs != 0) = true
  · rw [if_pos h1, if_pos h1]; exact c29_v p zs c ax fr tt w hn RA h1
  rw [if_neg h1, if_neg h1]
  have hv : vE zs = 0 := by simpa using h1
  by_cases h2 : ax < 0 ∨ (zs.length : Int) ≤ ax
  · rw [if_pos h2, if_pos h2]; exact c29_a p zs c ax fr tt w hn RA hv h2
  rw [if_neg h2, if_neg h2]
  obtain ⟨k, rfl⟩ : ∃ k : Nat, ax = k := ⟨ax.toNat, by omega⟩
  rw [Int.toNat_natCast]
  by_cases h3 : fr < 0 ∨ tt ≤ fr ∨ zs.getD k 0 < tt
  · rw [if_pos h3, if_pos h3]; exact c29_b p zs c k fr tt w hn RA hv (by omega) h3
  rw [if_neg h3, if_neg h3]
  exact c29_ok p zs c k fr tt w hn RA hv (by omega) (by omega) (by omega) (by omega)
theorem c30 (p : Option Addr) (zs : List Int) (c : Nat) (ax fr tt : Int) (w : World) (hn : zs.length ≤ maxLen) (RA : Hid (SlI w p zs)) :
    Calls Try.prog 30 #[.slice p zs.length c, .int .i64 ax, .int .i64 fr, .int .i64 tt] w (QW (slL zs ax fr tt) (slE zs ax fr tt) w) := by
  unfold slL slE
  by_cases h1 : (vE zs != 0) = true
  · rw [if_pos h1, if_pos h1]; exact c30_v p zs c ax fr tt w hn RA h1
  rw [if_neg h1, if_neg h1]
  have hv : vE zs = 0 := by simpa using h1
  by_cases h2 : ax < 0 ∨ (zs.length : Int) ≤ ax
  · rw [if_pos h2, if_pos h2]; exact c30_a p zs c ax fr tt w hn RA hv h2
  rw [if_neg h2, if_neg h2]
  obtain ⟨k, rfl⟩ : ∃ k : Nat, ax = k := ⟨ax.toNat, by omega⟩
  rw [Int.toNat_natCast]
  by_cases h3 : fr < 0 ∨ tt ≤ fr ∨ zs.getD k 0 < tt
  · rw [if_pos h3, if_pos h3]; exact c30_b p zs c k fr tt w hn RA hv (by omega) h3
  rw [if_neg h3, if_neg h3]
  exact c30_ok p zs c k fr tt w hn RA hv (by omega) (by omega) (by omega) (by omega)
end Go.Proofs.Ytjpcpdaokgkaoaa.Sh
