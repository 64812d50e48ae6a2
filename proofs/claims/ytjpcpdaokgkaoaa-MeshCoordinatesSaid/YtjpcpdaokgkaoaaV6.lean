/- Strides of the reference. -/
import Derived.Test.YtjpcpdaokgkaoaaV5
import Derived.Laws.AppendOwn
namespace Go.Proofs.Ytjpcpdaokgkaoaa.Sh
open Go.ChangeShapes Go.WideShapes Go.ChangeAt Go.RowKit
set_option linter.unusedVariables false

theorem c19 (p : Option Addr) (zs : List Int) (c : Nat) (w : World) (hn : zs.length ≤ maxLen) (RA : Hid (SlI w p zs)) :
    Calls Try.prog 19 #[.slice p zs.length c] w (OW (sts zs) w) := by
  unfold sts
  by_cases h : vE zs = 0
  · rw [if_pos h]; exact c19_ok p zs c w RA h
  · rw [if_neg h]; exact c19_bad p zs c w hn RA (by simpa using h)
set_option maxHeartbeats 4000000 in
theorem c20_bad (p : Option Addr) (zs : List Int) (c : Nat) (w : World) (hn : zs.length ≤ maxLen) (RA : Hid (SlI w p zs)) (hv : (vE zs != 0) = true) :
    Calls Try.prog 20 #[.slice p zs.length c] w (OW [] w) := by
  have C := Lib.hid (c15 p zs c w hn RA)
  generalize vE zs = e at *
  go_enter Try.func20, Try.ntmps20
  go_wp2_with (go_at_call 15; refine (C.out).mono ?_; rintro e w' ⟨rfl, rfl⟩)
  go_ret
  exact ⟨_, rfl, Below.refl _ _, World.ownsRow_nil _ _ _ _⟩
/-- A suffix of a valid list is valid. -/
theorem vE_drop {zs : List Int} (h : vE zs = 0) (k : Nat) : vE (zs.drop k) = 0 := by
  obtain ⟨h6, hl, hP, hS, hD⟩ := valid_of h
  have e := any_drop hl k
  have key : ∀ (ys : List Int) (s : Int), 1 ≤ s → ys.any low = false → s * sp ys ≤ 4096 → pr s ys = some (s * sp ys) := by
    intro ys
    induction ys with
    | nil => intro s _ _ _; unfold pr sp; rw [Int.mul_one]
    | cons z ys ih =>
      intro s h1 h2 h3
      simp only [List.any_cons, Bool.or_eq_false_iff] at h2
      have hz : 1 ≤ z := by have := h2.1; unfold low at this; simp at this; omega
      have hp := sp_pos h2.2
      have h4 : s * sp (z :: ys) = s * z * sp ys := by
        show s * (sp ys * z) = _
        rw [Int.mul_assoc, Int.mul_comm z]
      rw [h4] at h3 ⊢
      have h5 : 1 ≤ s * z := by have := Int.mul_pos (by omega : 0 < s) (by omega : 0 < z); omega
      have h6 := Int.mul_le_mul_of_nonneg_left hp (by omega : 0 ≤ s * z)
      rw [pr_go (by omega)]
      exact ih (s * z) h5 h2.2 h3
  have hk := hD k
  exact vE_some (s := 1 * sp (zs.drop k)) (by rw [List.length_drop]; omega) e (key _ 1 (by decide) e (by omega))
theorem sz_drop {zs : List Int} (h : vE zs = 0) (k : Nat) : sz (zs.drop k) = sp (zs.drop k) := by
  have h2 := vE_drop h k
  obtain ⟨_, _, hP, _⟩ := valid_of h2
  unfold sz
  rw [if_pos h2, hP]
  rfl
theorem SlI.drop {w : World} {b o : Nat} {zs : List Int} (h : SlI w (some ⟨b, o, none⟩) zs) (k : Nat) : SlI w (some ⟨b, o + k, none⟩) (zs.drop k) := by
  intro i hi
  rw [List.length_drop] at hi
  obtain ⟨b', o', e, hc⟩ := h (k + i) (by omega)
  cases e
  refine ⟨b, o + k, rfl, ?_⟩
  rw [getD_at (by rw [List.length_drop]; omega), List.getElem_drop, ← getD_at (by omega), Nat.add_assoc]
  exact hc
theorem SlI.empty {w : World} {p : Option Addr} {zs : List Int} (h : zs.length = 0) : SlI w p zs := fun i hi => by omega
theorem SlI.keep {w w' : World} {p : Option Addr} {zs : List Int} (hB : Below w.heap.size w w') (h : SlI w p zs) : SlI w' p zs := by
  intro i hi
  obtain ⟨b, o, e, hc⟩ := h i hi
  exact ⟨b, o, e, Rg.keep' hB (by have := World.block_lt_of_cell? w _ hc; simpa using this) hc⟩
set_option maxHeartbeats 8000000 in
theorem c20_ok (b o : Nat) (zs : List Int) (c : Nat) (w : World) (hc : zs.length ≤ c) (hc' : c ≤ maxLen) (RA : Hid (SlI w (some ⟨b, o, none⟩) zs)) (hv : vE zs = 0) :
    Calls Try.prog 20 #[.slice (some ⟨b, o, none⟩) zs.length c] w (OW (st zs) w) := by
  obtain ⟨h6, hl, hP, hS, hD⟩ := valid_of hv
  have C := Lib.hid (c15 (some ⟨b, o, none⟩) zs c w (by unfold maxLen; omega) RA)
  rw [hv] at C
  have HV := Lib.hid hv
  clear hv hP hS
  unfold maxLen at hc'
  obtain ⟨i0, hi, hz0, hz1, hz2⟩ := info_parts info3
  have HD := Lib.hid hD
  clear hD hl
  have S17 : Hid (∀ (k cc : Nat) (q : Option Addr) (w' : World), k + 1 ≤ zs.length → SlI w' q (zs.drop (k + 1)) → Calls Try.prog 17 #[.slice q (zs.length - (k + 1)) cc] w' fun e w'' => e = .returned (.int .i64 (sp (zs.drop (k + 1)))) ∧ w' = w'') := Lib.hid fun k cc q w' hk h => by
    have h2 := c17 q (zs.drop (k + 1)) cc w' (by rw [List.length_drop]; unfold maxLen; omega) (Lib.hid h)
    rw [List.length_drop, sz_drop HV.out] at h2
    exact h2
  obtain ⟨n, hn⟩ : ∃ n, zs.length = n := ⟨_, rfl⟩
  have HN := Lib.hid hn
  rw [hn] at C h6 hc S17 ⊢
  clear hn
  go_enter Try.func20, Try.ntmps20
  go_wp2_with (go_at_call 15; refine (C.out).mono ?_; rintro e w' ⟨rfl, rfl⟩)
  go_loopw [3, 4] (fun v i wr => ∃ (k : Nat), i = .int .i64 k ∧ k ≤ n ∧ Below w.heap.size w wr ∧ Hid (wr.ownsRow w.heap.size 3 1 v k (((st zs).take k).map (Value.int .i64)))) (fun _ i _ => n - (intOf i).toNat)
  case atStart => exact ⟨0, rfl, by omega, Below.refl _ _, Lib.hid (World.ownsRow_nil _ _ _ _)⟩
  case round =>
    obtain ⟨k, rfl, hk, KB, hO⟩ := hrel
    clear C
    by_cases hlt : k < n
    · have tk : (st zs).take (k + 1) = (st zs).take k ++ [sp (zs.drop (k + 1))] := by
        rw [List.take_succ_eq_append_getElem (by rw [st_length, HN.out]; exact hlt), ← getD_at, st_get (by rw [HN.out]; exact hlt)]
      have TK := Lib.hid tk
      clear tk
      have sb := (HD.out (k + 1))
      obtain ⟨r, hr⟩ : ∃ r, sp (zs.drop (k + 1)) = r := ⟨_, rfl⟩
      rw [hr] at sb
      have HR := Lib.hid hr
      obtain ⟨s0, s1⟩ := sb
      have RW : SlI wr (some ⟨b, o, none⟩) zs := SlI.keep KB RA.out
      have RD := Lib.hid (RW.drop (k + 1))
      have RN : k + 1 = n → Hid (SlI wr (some ⟨b, o, none⟩) (zs.drop (k + 1))) := fun h => Lib.hid (SlI.empty (by rw [List.length_drop, HN.out]; omega))
      have W17 : Hid (∀ (q : Option Addr) (l cc : Nat), l = n - (k + 1) → SlI wr q (zs.drop (k + 1)) → Calls Try.prog 17 #[.slice q l cc] wr fun e w'' => e = .returned (.int .i64 (sp (zs.drop (k + 1)))) ∧ wr = w'') := Lib.hid fun q l cc hl h => by subst hl; exact S17.out k cc q wr (by omega) h
      rw [hr] at W17
      clear RW hr
      have hks : w.heap.size ≤ wr.heap.size := KB.size
      by_cases hcap : c = k + 1
      · obtain rfl : n = k + 1 := by omega
        have RN2 := RN rfl
        subst hcap
        clear RN
        go_wp2_with fail
        refine (W17.out _ _ _ (by omega) RN2.out).mono ?_
        rintro e w' ⟨rfl, rfl⟩
        clear W17 S17 RD
        go_wp2_with (at_builtin; refine wpList_append_own _ rfl _ _ 22 rfl w.heap.size 3 i0 (.int .i64 0) 1 8 Try.underlying22 hi hz0 hz1 hz2 rfl (by decide) _ _ _ rfl (hO.out.alloc _) ⟨wr.heap.size, 0, none⟩ 1 1 [.int .i64 r] rfl rfl ?_ ?_ ?_ ?_ ?_ ?_)
        · intro j u hj
          cases j with
          | zero => cases hj; go_cell
          | succ j => cases hj
        · intro u hu
          cases List.mem_singleton.1 hu
          rfl
        · unfold maxLen; omega
        · omega
        · simp; omega
        intro v' w1 hown' hgrow _
        have hO2 : Hid (w1.ownsRow w.heap.size 3 1 v' (k + 1) (((st zs).take (k + 1)).map (Value.int .i64))) := Lib.hid (by
          have h := hown'
          rw [TK.out, HR.out, List.map_append, List.map_take]
          exact h)
        have hB2 : Below w.heap.size w w1 := (KB.alloc hks _).grown hgrow (by simp; omega) (fun j hj => (hO.out.lt j hj).1)
        clear hown' hgrow hi hz0 hz1 hz2
        go_wp2
        go_roundw
        case rel => exact ⟨k + 1, by go_num, by omega, hB2, hO2⟩
        case measure => simp [intOf]
      · have hcl : k + 1 < c := by omega
        clear RN
        go_wp2_with fail
        refine (W17.out _ _ _ (by omega) RD.out).mono ?_
        rintro e w' ⟨rfl, rfl⟩
        clear W17 S17 RD
        go_wp2_with (at_builtin; refine wpList_append_own _ rfl _ _ 22 rfl w.heap.size 3 i0 (.int .i64 0) 1 8 Try.underlying22 hi hz0 hz1 hz2 rfl (by decide) _ _ _ rfl (hO.out.alloc _) ⟨wr.heap.size, 0, none⟩ 1 1 [.int .i64 r] rfl rfl ?_ ?_ ?_ ?_ ?_ ?_)
        · intro j u hj
          cases j with
          | zero => cases hj; go_cell
          | succ j => cases hj
        · intro u hu
          cases List.mem_singleton.1 hu
          rfl
        · unfold maxLen; omega
        · omega
        · simp; omega
        intro v' w1 hown' hgrow _
        have hO2 : Hid (w1.ownsRow w.heap.size 3 1 v' (k + 1) (((st zs).take (k + 1)).map (Value.int .i64))) := Lib.hid (by
          have h := hown'
          rw [TK.out, HR.out, List.map_append, List.map_take]
          exact h)
        have hB2 : Below w.heap.size w w1 := (KB.alloc hks _).grown hgrow (by simp; omega) (fun j hj => (hO.out.lt j hj).1)
        clear hown' hgrow hi hz0 hz1 hz2
        go_wp2
        go_roundw
        case rel => exact ⟨k + 1, by go_num, by omega, hB2, hO2⟩
        case measure => simp [intOf]; omega
    · obtain rfl : k = n := by omega
      go_wp2
      go_ret
      refine ⟨_, rfl, KB, ?_⟩
      have h := hO.out
      rw [List.take_of_length_le (by rw [st_length, HN.out]; exact Nat.le_refl _)] at h
      rw [st_length, HN.out]
      exact h
theorem c20_nil (p : Option Addr) (c : Nat) (w : World) : Calls Try.prog 20 #[.slice p 0 c] w (OW [] w) := by
  have C := Lib.hid (c15 p [] c w (by simp) (Lib.hid (SlI.empty rfl)))
  rw [show vE [] = 0 from by decide, show ([] : List Int).length = 0 from rfl] at C
  go_enter Try.func20, Try.ntmps20
  go_wp2_with (go_at_call 15; refine (C.out).mono ?_; rintro e w' ⟨rfl, rfl⟩)
  refine wp_loop_rounds 1 ?_
  rw [rounds_succ]
  go_wp2
  go_ret
  exact ⟨_, rfl, Below.refl _ _, World.ownsRow_nil _ _ _ _⟩
theorem c20 (p : Option Addr) (zs : List Int) (c : Nat) (w : World) (hc : zs.length ≤ c) (hc' : c ≤ maxLen) (RA : Hid (SlI w p zs)) :
    Calls Try.prog 20 #[.slice p zs.length c] w (OW (sts zs) w) := by
  unfold sts
  by_cases h : vE zs = 0
  · rw [if_pos h]
    by_cases h0 : zs.length = 0
    · obtain rfl := List.eq_nil_of_length_eq_zero h0
      exact c20_nil p c w
    · obtain ⟨b, o, rfl, _⟩ := RA.out 0 (by omega)
      exact c20_ok b o zs c w hc hc' RA h
  · rw [if_neg h]; exact c20_bad p zs c w (Nat.le_trans hc hc') RA (by simpa using h)
end Go.Proofs.Ytjpcpdaokgkaoaa.Sh
