/- Specs: Validate. -/
import Derived.Test.YtndmpoomdoojpaaS3
namespace Go.Proofs.Ytndmpoomdoojpaa.Sh
open Go.ChangeShapes Go.WideShapes Go.ChangeAt Go.RowKit
set_option linter.unusedVariables false
set_option linter.unusedSimpArgs false
def sb (ms zs ss : List Int) (i : Nat) : Bool := decide (0 ≤ ss.getD i 0) && !(zs.getD i 0 % ms.getD (ss.getD i 0).toNat 0 == 0)
/-- The answer of Validate. -/
def hV (ms zs ss : List Int) : Int := if mok ms = true then (if vE zs = 0 then (if ss.length = zs.length ∧ plB ms.length ss = true then (if (List.range ss.length).any (sb ms zs ss) = true then 15 else 0) else 24) else vE zs) else 23
theorem hV1 {ms zs ss : List Int} (h : ¬ mok ms = true) : hV ms zs ss = 23 := if_neg h
theorem hV2 {ms zs ss : List Int} (h : mok ms = true) (h2 : ¬ vE zs = 0) : hV ms zs ss = vE zs := by unfold hV; rw [if_pos h, if_neg h2]
theorem hV3 {ms zs ss : List Int} (h : mok ms = true) (h2 : vE zs = 0) (h3 : ¬ (ss.length = zs.length ∧ plB ms.length ss = true)) : hV ms zs ss = 24 := by unfold hV; rw [if_pos h, if_pos h2, if_neg h3]
theorem hV4 {ms zs ss : List Int} (h : mok ms = true) (h2 : vE zs = 0) (h3 : ss.length = zs.length ∧ plB ms.length ss = true) {k : Nat} (hk : k < ss.length) (h4 : sb ms zs ss k = true) : hV ms zs ss = 15 := by
  unfold hV; rw [if_pos h, if_pos h2, if_pos h3, if_pos (List.any_eq_true.2 ⟨k, List.mem_range.2 hk, h4⟩)]
theorem hV5 {ms zs ss : List Int} (h : mok ms = true) (h2 : vE zs = 0) (h3 : ss.length = zs.length ∧ plB ms.length ss = true) {k : Nat} (hk : ss.length ≤ k) (h4 : ∀ j, j < k → sb ms zs ss j = false) : hV ms zs ss = 0 := by
  unfold hV; rw [if_pos h, if_pos h2, if_pos h3, if_neg (fun e => by
    obtain ⟨j, hj, h5⟩ := List.any_eq_true.1 e
    rw [h4 j (by have := List.mem_range.1 hj; omega)] at h5
    cases h5)]
theorem vpos {zs : List Int} (h : vE zs = 0) {k : Nat} (hk : k < zs.length) : 1 ≤ zs.getD k 0 := by
  exact pos_of (vE_zero h).2.1 hk
set_option maxRecDepth 100000 in
set_option maxHeartbeats 16000000 in
theorem valid1_eq (N : Nat) (p p2 q : Option Addr) (ms zs ss : List Int) (c c2 d : Nat) (w : World) (hm : ms.length ≤ maxLen) (hn : N ≤ maxLen) (HZl : Hid (zs.length = N)) (HSl : Hid (ss.length = N)) (hd : N ≤ d) (RM : Hid (SlI w p ms)) (RZ : Hid (SlI w p2 zs)) (RS : Hid (SlI w q ss)) :
    Calls Try.prog 36 #[.agg #[.slice p ms.length c], .slice p2 N c2, .slice q N d] w (Ret (.int .i64 (hV ms zs ss)) w) := by
  have BA := (Below.refl w.heap.size w).alloc (Nat.le_refl _) (Obj.cells #[Value.slice p ms.length c] 48)
  have hbx : (w.alloc (Obj.cells #[Value.slice p ms.length c] 48)).cell? ⟨w.heap.size, 0, none⟩ = some (.slice p ms.length c) := by go_cell
  have hlt0 : w.heap.size < (w.alloc (Obj.cells #[Value.slice p ms.length c] 48)).heap.size := by simp
  have CM := Lib.hid fun u (hu : Below w.heap.size w u) => c37 p ms c u hm (Lib.hid (SlI.keep hu RM.out))
  have CZ := Lib.hid fun u (hu : Below w.heap.size w u) => c14 p2 zs c2 u (by rw [HZl.out]; exact hn) (Lib.hid (SlI.keep hu RZ.out))
  have CP := Lib.hid fun u (hu : Below w.heap.size w u) => plain1 p q ms ss c d u hm (by rw [HSl.out]; exact hn) (by rw [HSl.out]; exact hd) (Lib.hid (SlI.keep hu RS.out))
  rw [HZl.out] at CZ
  rw [HSl.out] at CP
  have HBA := Lib.hid BA
  have HLT := Lib.hid hlt0
  unfold maxLen at hm hn
  clear BA hlt0
  go_enter Try.func36, Try.ntmps36
  go_wp2_with fail
  generalize w.alloc (Obj.cells #[Value.slice p ms.length c] 48) = wb at *
  refine (CM.out wb HBA.out).mono ?_
  rintro e w1 ⟨rfl, hb1⟩
  have K1 := Lib.hid (HBA.out.trans (hb1.mono HBA.out.size))
  have hbx1 : w1.cell? ⟨w.heap.size, 0, none⟩ = some (.slice p ms.length c) := (hb1.cell (p := ⟨w.heap.size, 0, none⟩) HLT.out).trans hbx
  have HLT1 := Lib.hid (Nat.lt_of_lt_of_le HLT.out hb1.size)
  clear hb1 hbx CM HBA HLT
  by_cases h1 : mok ms = true
  · rw [mV_ok h1]
    have H1 := Lib.hid h1
    clear h1
    go_wp2_with fail
    refine (CZ.out w1 K1.out).mono ?_
    rintro e w2 ⟨rfl, rfl⟩
    by_cases h2 : vE zs = 0
    · rw [h2]
      have H2 := Lib.hid h2
      clear h2 CZ
      by_cases hpl : plB ms.length ss = true
      · have H3 := Lib.hid (And.intro (HSl.out.trans HZl.out.symm) hpl)
        rw [hpl] at CP
        have HPL := Lib.hid hpl
        clear hpl
        go_wp2_with fail
        refine (CP.out w1 K1.out).mono ?_
        rintro e w3 ⟨rfl, hb3⟩
        have K3 := Lib.hid (K1.out.trans (hb3.mono K1.out.size))
        have hbx3 : w3.cell? ⟨w.heap.size, 0, none⟩ = some (.slice p ms.length c) := (hb3.cell (p := ⟨w.heap.size, 0, none⟩) HLT1.out).trans hbx1
        clear hb3 hbx1 HLT1 K1 CP
        go_wp2_with fail
        go_loopw [34] (fun i wr => ∃ (k r : Nat), i = .int .i64 k ∧ k ≤ N ∧ wr = w3.drewN r ∧ Hid (∀ j, j < k → sb ms zs ss j = false)) (fun i _ => N - (intOf i).toNat)
        case atStart => exact ⟨0, 0, rfl, by omega, rfl, Lib.hid fun j hj => by omega⟩
        case round =>
          obtain ⟨k, r, rfl, hk, rfl, hL⟩ := hrel
          have k0 : (0 : Int) ≤ k := by omega
          by_cases hlt : k < N
          · obtain ⟨b, o, rfl, hc⟩ := SlI.keep K3.out RS.out k (by rw [HSl.out]; exact hlt)
            obtain ⟨b2, o2, rfl, hc2⟩ := SlI.keep K3.out RZ.out k (by rw [HZl.out]; exact hlt)
            have hr := okAt_rg (plB_at HPL.out (show k < ss.length by rw [HSl.out]; exact hlt))
            have hz1 := vpos H2.out (show k < zs.length by rw [HZl.out]; exact hlt)
            obtain ⟨z, hz9⟩ : ∃ z, ss.getD k 0 = z := ⟨_, rfl⟩
            obtain ⟨y, hy9⟩ : ∃ y, zs.getD k 0 = y := ⟨_, rfl⟩
            rw [hz9] at hc hr
            rw [hy9] at hc2 hz1
            have HZ := Lib.hid hz9
            have HY := Lib.hid hy9
            have k1 : (k : Int) < N := by omega
            obtain ⟨hr1, hr2, _⟩ := hr
            clear hz9 hy9
            by_cases h0 : 0 ≤ z
            · obtain ⟨n, rfl⟩ : ∃ n : Nat, (n : Int) = z := ⟨z.toNat, by omega⟩
              have hnl : n < ms.length := by omega
              obtain ⟨b3, o3, rfl, hc3⟩ := SlI.keep K3.out RM.out n hnl
              have hm1 := mok_el H1.out hnl
              obtain ⟨x, hx9⟩ : ∃ x, ms.getD n 0 = x := ⟨_, rfl⟩
              rw [hx9] at hc3 hm1
              have HX := Lib.hid hx9
              clear hx9
              obtain ⟨m1, m2⟩ := hm1
              have n0 : (0 : Int) ≤ n := by omega
              have x0 : ¬ x = 0 := by omega
              have y0 : 0 ≤ y := by omega
              have hsb : sb ms zs ss k = !(y % x == 0) := by
                unfold sb
                rw [HZ.out, HY.out, Int.toNat_natCast, HX.out, decide_eq_true n0]; rfl
              by_cases h4 : y % x = 0
              · have HL2 : Hid (∀ j, j < k + 1 → sb ms zs ss j = false) := Lib.hid fun j hj => by
                  rcases Nat.lt_or_ge j k with h | h
                  · exact hL.out j h
                  · obtain rfl : j = k := by omega
                    rw [hsb, h4]; rfl
                clear hsb
                go_wp2
                go_quiet (fail)
                go_wp2
                go_roundw
                case rel => exact ⟨k + 1, _, by go_num, by omega, by first | rfl | rw [World.drewN_drewN], HL2⟩
                case measure => simp [intOf]; omega
              · have HF : Hid (hV ms zs ss = 15) := Lib.hid (hV4 H1.out H2.out H3.out (show k < ss.length by rw [HSl.out]; exact hlt) (by rw [hsb, beq_false_of_ne h4]; rfl))
                clear hsb
                go_wp2
                go_quiet (fail)
                go_wp2
                go_ret
                exact ⟨by rw [HF.out]; rfl, below_drewN (by first | exact K3.out | exact below_drewN K3.out _) _⟩
            · have HL2 : Hid (∀ j, j < k + 1 → sb ms zs ss j = false) := Lib.hid fun j hj => by
                rcases Nat.lt_or_ge j k with h | h
                · exact hL.out j h
                · obtain rfl : j = k := by omega
                  unfold sb
                  rw [HZ.out, decide_eq_false h0]; rfl
              have q3 : decide (0 ≤ z) = false := decide_eq_false h0
              have q4 : z < 0 := by omega
              go_wp2
              go_quiet (fail)
              go_wp2
              go_roundw
              case rel => exact ⟨k + 1, _, by go_num, by omega, by first | rfl | rw [World.drewN_drewN], HL2⟩
              case measure => simp [intOf]; omega
          · have HF : Hid (hV ms zs ss = 0) := Lib.hid (hV5 H1.out H2.out H3.out (show ss.length ≤ k by rw [HSl.out]; omega) hL.out)
            have k1 : ¬ (k : Int) < N := by omega
            go_wp2
            go_ret
            exact ⟨by rw [HF.out]; rfl, below_drewN K3.out _⟩
      · have HF : Hid (hV ms zs ss = 24) := Lib.hid (hV3 H1.out H2.out fun h => hpl h.2)
        rw [Bool.not_eq_true] at hpl
        rw [hpl] at CP
        clear hpl
        go_wp2_with fail
        refine (CP.out w1 K1.out).mono ?_
        rintro e w3 ⟨rfl, hb3⟩
        have K3 := Lib.hid (K1.out.trans (hb3.mono K1.out.size))
        clear hb3
        go_wp2
        go_ret
        exact ⟨by rw [HF.out]; rfl, K3.out⟩
    · have HF : Hid (hV ms zs ss = vE zs) := Lib.hid (hV2 H1.out h2)
      obtain ⟨V, hV9⟩ : ∃ V, vE zs = V := ⟨_, rfl⟩
      rw [hV9] at HF h2 ⊢
      have q6 : (V == 0) = false := beq_false_of_ne h2
      go_wp2
      go_ret
      exact ⟨by rw [HF.out]; rfl, K1.out⟩
  · have HF : Hid (hV ms zs ss = 23) := Lib.hid (hV1 h1)
    rw [mV_no h1]
    clear h1
    go_wp2
    go_ret
    exact ⟨by rw [HF.out]; rfl, K1.out⟩
set_option maxRecDepth 100000 in
set_option maxHeartbeats 16000000 in
theorem valid1_ne (p p2 q : Option Addr) (ms zs ss : List Int) (c c2 d : Nat) (w : World) (h3 : ¬ ss.length = zs.length) (hm : ms.length ≤ maxLen) (hz : zs.length ≤ maxLen) (hn : ss.length ≤ maxLen) (RM : Hid (SlI w p ms)) (RZ : Hid (SlI w p2 zs)) :
    Calls Try.prog 36 #[.agg #[.slice p ms.length c], .slice p2 zs.length c2, .slice q ss.length d] w (Ret (.int .i64 (hV ms zs ss)) w) := by
  have BA := (Below.refl w.heap.size w).alloc (Nat.le_refl _) (Obj.cells #[Value.slice p ms.length c] 48)
  have hbx : (w.alloc (Obj.cells #[Value.slice p ms.length c] 48)).cell? ⟨w.heap.size, 0, none⟩ = some (.slice p ms.length c) := by go_cell
  have CM := Lib.hid fun u (hu : Below w.heap.size w u) => c37 p ms c u hm (Lib.hid (SlI.keep hu RM.out))
  have CZ := Lib.hid fun u (hu : Below w.heap.size w u) => c14 p2 zs c2 u hz (Lib.hid (SlI.keep hu RZ.out))
  have HBA := Lib.hid BA
  unfold maxLen at hm hz hn
  clear BA
  go_enter Try.func36, Try.ntmps36
  go_wp2_with fail
  generalize w.alloc (Obj.cells #[Value.slice p ms.length c] 48) = wb at *
  refine (CM.out wb HBA.out).mono ?_
  rintro e w1 ⟨rfl, hb1⟩
  have K1 := Lib.hid (HBA.out.trans (hb1.mono HBA.out.size))
  clear hb1 hbx CM HBA
  by_cases h1 : mok ms = true
  · rw [mV_ok h1]
    have H1 := Lib.hid h1
    clear h1
    go_wp2_with fail
    refine (CZ.out w1 K1.out).mono ?_
    rintro e w2 ⟨rfl, rfl⟩
    by_cases h2 : vE zs = 0
    · rw [h2]
      have H2 := Lib.hid h2
      clear h2 CZ
      have HF : Hid (hV ms zs ss = 24) := Lib.hid (hV3 H1.out H2.out fun h => h3 h.1)
      have h3i : ¬ (ss.length : Int) = zs.length := by omega
      have q5 : ((ss.length : Int) == zs.length) = false := beq_false_of_ne h3i
      go_wp2_with fail
      go_ret
      exact ⟨by rw [HF.out]; rfl, K1.out⟩
    · have HF : Hid (hV ms zs ss = vE zs) := Lib.hid (hV2 H1.out h2)
      obtain ⟨V, hV9⟩ : ∃ V, vE zs = V := ⟨_, rfl⟩
      rw [hV9] at HF h2 ⊢
      have q6 : (V == 0) = false := beq_false_of_ne h2
      go_wp2
      go_ret
      exact ⟨by rw [HF.out]; rfl, K1.out⟩
  · have HF : Hid (hV ms zs ss = 23) := Lib.hid (hV1 h1)
    rw [mV_no h1]
    clear h1
    go_wp2
    go_ret
    exact ⟨by rw [HF.out]; rfl, K1.out⟩
theorem valid1 (p p2 q : Option Addr) (ms zs ss : List Int) (c c2 d : Nat) (w : World) (hm : ms.length ≤ maxLen) (hz : zs.length ≤ maxLen) (hn : ss.length ≤ maxLen) (hd : ss.length ≤ d) (RM : Hid (SlI w p ms)) (RZ : Hid (SlI w p2 zs)) (RS : Hid (SlI w q ss)) :
    Calls Try.prog 36 #[.agg #[.slice p ms.length c], .slice p2 zs.length c2, .slice q ss.length d] w (Ret (.int .i64 (hV ms zs ss)) w) := by
  by_cases h3 : ss.length = zs.length
  · have C := valid1_eq zs.length p p2 q ms zs ss c c2 d w hm hz (Lib.hid rfl) (Lib.hid h3) (by omega) RM RZ RS
    rw [h3]
    exact C
  · exact valid1_ne p p2 q ms zs ss c c2 d w h3 hm hz hn RM RZ
end Go.Proofs.Ytndmpoomdoojpaa.Sh
