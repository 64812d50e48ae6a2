/- Lifetimes: Validate of the reference. -/
import Derived.Test.YtghnigmmkenddaaL5
namespace Go.Proofs.Ytghnigmmkenddaa.Lv
open Go.ChangeShapes Go.WideShapes Go.ChangeAt Go.RowKit
open Go.Maps Go.Proofs.Ytghnigmmkenddaa.Nm
set_option linter.unusedVariables false
set_option linter.unusedSimpArgs false
theorem dup_step {xs : List Lf} {k : Nat} (h : k < xs.length) (x : Lf) : dup (xs.take (k + 1)) x = (dup (xs.take k) x || (xs[k].1.toList == x.1.toList)) := by
  unfold dup
  rw [List.take_succ_eq_append_getElem h, List.any_append]
  simp
theorem dup_mono {xs : List Lf} {l k : Nat} (h : l < k) (hk : k ≤ xs.length) (x : Lf) (he : (xs[l]'(by omega)).1.toList == x.1.toList) : dup (xs.take k) x = true := by
  unfold dup
  rw [List.any_eq_true]
  refine ⟨xs[l]'(by omega), ?_, he⟩
  rw [List.mem_take_iff_getElem]
  exact ⟨l, by omega, rfl⟩
set_option maxRecDepth 100000 in
set_option maxHeartbeats 8000000 in
theorem rval (p : Option Addr) (xs : List Lf) (c : Nat) (w : World) (hn : xs.length ≤ 60) (RA : Hid (SlL w p xs)) (RS : Hid (∀ i, i < xs.length → (xs.getD i lf0).1.size ≤ maxLen)) :
    Calls Try.prog 23 #[.slice p xs.length c] w fun e w' => e = .returned (.int .i64 (vE xs)) ∧ Below w.heap.size w w' := by
  go_enter Try.func23, Try.ntmps23
  go_wp2
  go_loopw [3] (fun i wr => ∃ (k : Nat), i = .int .i64 (k : Int) ∧ k ≤ xs.length ∧ Below w.heap.size w wr ∧ Hid (vgo (xs.take k) (xs.drop k) = vE xs)) (fun i _ => xs.length - (intOf i).toNat)
  case atStart => exact ⟨0, rfl, by omega, Below.refl _ _, Lib.hid rfl⟩
  case round =>
    obtain ⟨k, rfl, hk, hB, hV⟩ := hrel
    by_cases hlt : k < xs.length
    · obtain ⟨b, o, rfl, c0, c1, c2, c3⟩ := RA.out k hlt
      have hb : b < w.heap.size := by have := World.block_lt_of_cell? w _ c0; simpa using this
      have hss := RS.out k hlt
      have hst := vgo_at hlt
      rw [hV.out] at hst
      rw [getD_lf hlt] at c0 c1 c2 c3 hss
      obtain ⟨x, hx⟩ : ∃ x, xs[k] = x := ⟨_, rfl⟩
      rw [hx] at c0 c1 c2 c3 hst hss
      clear hx
      have HST := Lib.hid hst
      obtain ⟨s, f, t, z⟩ := x
      simp only at c0 c1 c2 c3 hss
      have K0 := Lib.hid c0
      have K1 := Lib.hid c1
      have K2 := Lib.hid c2
      have K3 := Lib.hid c3
      have c0 := kpb hB hb c0
      have ii : (0 : Int) ≤ k := by omega
      have i2 : (k : Int) < xs.length := by omega
      have C := Lib.hid fun w => name s w hss
      clear hst hss hV c1 c2 c3
      by_cases hnm : nmB s = true
      · rw [hnm] at C
        have HNM := Lib.hid hnm
        clear hnm
        go_wp2_with (go_at_call 38; refine (C.out _).mono ?_; rintro e w1 ⟨rfl, hb1⟩)
        have hB1 := hB.trans (hb1.mono hB.size)
        clear hb1 hB c0 C
        go_loopw [4] (fun j wr => ∃ (l : Nat), j = .int .i64 (l : Int) ∧ l ≤ k ∧ Below w.heap.size w wr ∧ Hid (dup (xs.take l) (s, f, t, z) = false)) (fun j _ => k - (intOf j).toNat)
        case atStart => exact ⟨0, rfl, by omega, hB1, Lib.hid rfl⟩
        case round =>
          obtain ⟨l, rfl, hl, hB2, hD⟩ := hrel
          by_cases hl2 : l < k
          · have hl3 : l < xs.length := by omega
            obtain ⟨b', o', e, d0, d1, d2, d3⟩ := RA.out l hl3
            cases e
            rw [getD_lf hl3] at d0
            have hds := dup_step hl3 (s, f, t, z)
            have hdm := fun he => dup_mono hl2 hk (s, f, t, z) he
            obtain ⟨y, hy⟩ : ∃ y, xs[l].1 = y := ⟨_, rfl⟩
            rw [hy] at d0 hds hdm
            clear hy d1 d2 d3
            have d0 := kpb hB2 hb d0
            have c0 := kpb hB2 hb K0.out
            obtain ⟨q, hq⟩ : ∃ q, (y.toList == s.toList) = q := ⟨_, rfl⟩
            have l0 : (0 : Int) ≤ l := by omega
            have l1 : (l : Int) < k := by omega
            have l2 : (l : Int) < xs.length := by omega
            cases q
            · have hD2 : Hid (dup (xs.take (l + 1)) (s, f, t, z) = false) := Lib.hid (by rw [hds, hD.out, Bool.false_or]; exact hq)
              clear hds hdm hD
              go_wp2
              go_quiet (fail)
              go_wp2
              go_roundw
              case rel => exact ⟨l + 1, by go_num, by omega, below_drewN hB2 _, hD2⟩
              case measure => simp [intOf]; omega
            · have E := Lib.hid (show vE xs = 8 by rw [HST.out, vs8 HNM.out (hdm hq)]; rfl)
              clear hds hdm hD
              go_wp2
              go_quiet (fail)
              go_wp2
              go_ret
              exact ⟨ret_int E.out.symm, below_drewN hB2 _⟩
          · obtain rfl : l = k := by omega
            have c0 := kpb hB2 hb K0.out
            have c1 := kpb hB2 hb K1.out
            have c2 := kpb hB2 hb K2.out
            have c3 := kpb hB2 hb K3.out
            by_cases b1 : f < 0
            case pos =>
              have hbd : bad (s, f, t, z) = true := by unfold bad; simp [b1]
              have E := Lib.hid (show vE xs = 1 by rw [HST.out, vs1 HNM.out hD.out hbd]; rfl)
              have d1 : decide (f < 0) = true := decide_eq_true b1
              clear hbd b1
              go_wp2
              go_quiet (fail)
              go_wp2
              go_ret
              exact ⟨ret_int E.out.symm, below_drewN hB2 _⟩
            by_cases b2 : t < f
            case pos =>
              have hbd : bad (s, f, t, z) = true := by unfold bad; simp [b2]
              have E := Lib.hid (show vE xs = 1 by rw [HST.out, vs1 HNM.out hD.out hbd]; rfl)
              have d1 : decide (f < 0) = false := decide_eq_false b1
              have d2 : decide (t < f) = true := decide_eq_true b2
              clear hbd b1 b2
              go_wp2
              go_quiet (fail)
              go_wp2
              go_ret
              exact ⟨ret_int E.out.symm, below_drewN hB2 _⟩
            by_cases b3 : z < 1
            case pos =>
              have hbd : bad (s, f, t, z) = true := by unfold bad; simp [b3]
              have E := Lib.hid (show vE xs = 1 by rw [HST.out, vs1 HNM.out hD.out hbd]; rfl)
              have d1 : decide (f < 0) = false := decide_eq_false b1
              have d2 : decide (t < f) = false := decide_eq_false b2
              have d3 : decide (z < 1) = true := decide_eq_true b3
              clear hbd b1 b2 b3
              go_wp2
              go_quiet (fail)
              go_wp2
              go_ret
              exact ⟨ret_int E.out.symm, below_drewN hB2 _⟩
            by_cases b4 : 4096 < z
            case pos =>
              have hbd : bad (s, f, t, z) = true := by unfold bad; simp [b4]
              have E := Lib.hid (show vE xs = 1 by rw [HST.out, vs1 HNM.out hD.out hbd]; rfl)
              have d1 : decide (f < 0) = false := decide_eq_false b1
              have d2 : decide (t < f) = false := decide_eq_false b2
              have d3 : decide (z < 1) = false := decide_eq_false b3
              have d4 : decide (4096 < z) = true := decide_eq_true b4
              clear hbd b1 b2 b3 b4
              go_wp2
              go_quiet (fail)
              go_wp2
              go_ret
              exact ⟨ret_int E.out.symm, below_drewN hB2 _⟩
            have hbd : bad (s, f, t, z) = false := by unfold bad; simp; omega
            have HV2 : Hid (vgo (xs.take (l + 1)) (xs.drop (l + 1)) = vE xs) := Lib.hid (by rw [HST.out, vs0 HNM.out hD.out hbd]; rfl)
            have d1 : decide (f < 0) = false := decide_eq_false b1
            have d2 : decide (t < f) = false := decide_eq_false b2
            have d3 : decide (z < 1) = false := decide_eq_false b3
            have d4 : decide (4096 < z) = false := decide_eq_false b4
            clear hbd b1 b2 b3 b4
            go_wp2
            go_quiet (fail)
            go_wp2
            go_roundw
            case rel => exact ⟨l + 1, by go_num, by omega, below_drewN hB2 _, HV2⟩
            case measure => simp [intOf]; omega
      · have hnm : nmB s = false := by simpa using hnm
        rw [hnm] at C
        have E := Lib.hid (show vE xs = 7 by rw [HST.out, vs7 hnm]; rfl)
        clear hnm
        go_wp2_with (go_at_call 38; refine (C.out _).mono ?_; rintro e w1 ⟨rfl, hb1⟩)
        go_ret
        exact ⟨ret_int E.out.symm, hB.trans (hb1.mono hB.size)⟩
    · obtain rfl : k = xs.length := by omega
      have E := Lib.hid (hV.out.symm.trans vgo_end)
      clear hV
      go_wp2
      go_ret
      exact ⟨ret_int E.out.symm, hB⟩
end Go.Proofs.Ytghnigmmkenddaa.Lv
