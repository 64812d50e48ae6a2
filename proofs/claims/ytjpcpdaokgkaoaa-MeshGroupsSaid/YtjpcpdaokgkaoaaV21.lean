/- The statement on counting through a shape: its walk. -/
import Derived.Test.YtjpcpdaokgkaoaaV20
namespace Go.Proofs.Ytjpcpdaokgkaoaa.Sh
open Go.ChangeShapes Go.WideShapes Go.ChangeAt Go.RowKit
set_option linter.unusedVariables false

set_option maxHeartbeats 4000000 in
theorem law8_bad (p : Option Addr) (zs : List Int) (c : Nat) (w : World) (hc : zs.length ≤ c) (hc' : c ≤ maxLen) (RA : Hid (SlI w p zs)) (hv : (vE zs != 0) = true) : Calls Try.prog 8 #[.slice p zs.length c] w (Ret (.bool true) w) := by
  have AL := Lib.hid alive
  have hn : zs.length ≤ maxLen := Nat.le_trans hc hc'
  have C15 := Lib.hid (c15 p zs c w hn RA)
  generalize vE zs = e at *
  generalize zs.length = n at *
  go_enter Try.func8, Try.ntmps8
  go_wp2_with (first | (go_at_call 15; refine (C15.out).mono ?_; rintro e w' ⟨rfl, rfl⟩) | (go_at_call 13; refine (AL.out _).mono ?_; rintro e w1 ⟨rfl, hb⟩))
  go_ret
  exact ⟨rfl, hb⟩
set_option maxHeartbeats 4000000 in
theorem law8_big (p : Option Addr) (zs : List Int) (c : Nat) (w : World) (hc : zs.length ≤ c) (hc' : c ≤ maxLen) (RA : Hid (SlI w p zs)) (hv : vE zs = 0) (hb : 300 < sp zs) : Calls Try.prog 8 #[.slice p zs.length c] w (Ret (.bool true) w) := by
  have AL := Lib.hid alive
  have hn : zs.length ≤ maxLen := Nat.le_trans hc hc'
  have C15 := Lib.hid (c15 p zs c w hn RA)
  have C17 := Lib.hid (c17 p zs c w hn RA)
  rw [hv] at C15
  rw [sz_ok hv] at C17
  obtain ⟨_, _, _, hS, _⟩ := valid_of hv
  clear hv
  generalize sp zs = P at *
  generalize zs.length = n at *
  have k1 : decide (300 < P) = true := by simpa using hb
  clear hb
  go_enter Try.func8, Try.ntmps8
  go_wp2_with (first | (go_at_call 15; refine (C15.out).mono ?_; rintro e w' ⟨rfl, rfl⟩) | (go_at_call 17; refine (C17.out).mono ?_; rintro e w' ⟨rfl, rfl⟩) | (go_at_call 13; refine (AL.out _).mono ?_; rintro e w1 ⟨rfl, hb⟩))
  go_ret
  exact ⟨rfl, hb⟩
set_option maxHeartbeats 8000000 in
theorem law8_ok (p : Option Addr) (zs : List Int) (c : Nat) (w : World) (hc : zs.length ≤ c) (hc' : c ≤ maxLen) (RA : Hid (SlI w p zs)) (hv : vE zs = 0) (hb : sp zs ≤ 300) : Calls Try.prog 8 #[.slice p zs.length c] w (Ret (.bool true) w) := by
  have AL := Lib.hid alive
  have hn : zs.length ≤ maxLen := Nat.le_trans hc hc'
  obtain ⟨h6, _, _, _, hD⟩ := valid_of hv
  have C15 := Lib.hid (c15 p zs c w hn RA)
  have C17 := Lib.hid fun (y : World) (h : Below w.heap.size w y) => c17 p zs c y hn (Lib.hid (SlI.keep h RA.out))
  have C19 := Lib.hid (c19_ok p zs c w RA hv)
  rw [hv] at C15
  rw [sz_ok hv] at C17
  have C23 : Hid (∀ (a : Nat) (y : World), (a : Int) < sp zs → Below w.heap.size w y → Calls Try.prog 23 #[.slice p zs.length c, .int .i64 (a : Int)] y (PW (pt zs a) true y)) := Lib.hid fun a y h1 h2 =>
    c23_ok p zs c a y (Lib.hid (SlI.keep h2 RA.out)) (pA_ok hv (by omega) h1)
  have C21 : Hid (∀ (a : Nat) (y : World) (q : Option Addr) (cc : Nat), (a : Int) < sp zs → Below w.heap.size w y → SlI y q (pt zs a) → Calls Try.prog 21 #[.slice p zs.length c, .slice q zs.length cc] y fun e w' => e = .returned (.tuple #[.int .i64 (a : Int), .bool true]) ∧ y = w') := Lib.hid fun a y q cc h1 h2 h3 => by
    have h := c21 p q zs (pt zs a) c cc y hn (Lib.hid (SlI.keep h2 RA.out)) (Lib.hid h3)
    rw [pt_length, of_pt hv (by omega) h1] at h
    exact h
  have ST : Hid (∀ (a k : Nat), k < zs.length → _) := Lib.hid fun a k hk => sum_step (a := (a : Int)) hv (by omega) hk
  have P1 : 1 ≤ sp zs := (hD 0).1
  have HS0 : Hid (∀ a : Nat, (a : Int) < sp zs → (0 : Int) = a - a % sp (zs.drop 0)) := Lib.hid fun a h => by rw [List.drop_zero, Int.emod_eq_of_lt (by omega) h]; omega
  have HSn : Hid (∀ a : Nat, (a : Int) - a % sp (zs.drop zs.length) = a) := Lib.hid fun a => by
    rw [List.drop_of_length_le (Nat.le_refl _)]
    show (a : Int) - a % 1 = a
    rw [Int.emod_one]
    omega
  clear hv hD
  obtain ⟨n, hN⟩ : ∃ n, zs.length = n := ⟨_, rfl⟩
  obtain ⟨P, hP⟩ : ∃ P, sp zs = P := ⟨_, rfl⟩
  have HN := Lib.hid hN
  rw [hN] at C15 C17 C19 C23 C21 ST h6 HSn hc ⊢
  rw [hP] at C17 C23 C21 HS0 P1 hb
  clear hN hP hn
  have k1 : decide (300 < P) = false := by simp <;> omega
  go_enter Try.func8, Try.ntmps8
  go_wp2_with (first | (go_at_call 15; refine (C15.out).mono ?_; rintro e w' ⟨rfl, rfl⟩) | (go_at_call 17; refine (C17.out _ (Below.refl _ _)).mono ?_; rintro e w' ⟨rfl, rfl⟩))
  refine (C19.out).mono ?_
  rintro e w1 ⟨v1, rfl, K1, O1⟩
  obtain ⟨p1, c1, rfl, _, _, S1⟩ := own_SlI O1
  rw [st_length, HN.out]
  clear C15 C19 O1 k1
  go_wp2_with fail
  go_loopw [4] (fun i wr => ∃ a : Nat, i = .int .i64 (a : Int) ∧ (a : Int) ≤ P ∧ Below w1.heap.size w1 wr) (fun i _ => (P - intOf i).toNat)
  case atStart => exact ⟨0, rfl, by omega, Below.refl _ _⟩
  case round =>
    obtain ⟨a, rfl, ha, KR⟩ := hrel
    have KW : Below w.heap.size w wr := K1.trans (KR.mono K1.size)
    by_cases hlt : (a : Int) < P
    · have k1 : decide ((a : Int) < P) = true := by simpa using hlt
      have s0 := HS0.out a hlt
      have HS0a := Lib.hid s0
      clear s0
      go_wp2_with (go_at_call 17; refine (C17.out _ KW).mono ?_; rintro e w' ⟨rfl, rfl⟩)
      refine (C23.out a _ hlt KW).mono ?_
      rintro e w2 ⟨v2, rfl, K2, O2⟩
      obtain ⟨p2, c2, rfl, _, _, S2⟩ := own_SlI O2
      rw [pt_length, HN.out]
      have K12 : Below w1.heap.size w1 w2 := KR.trans (K2.mono KR.size)
      have KW2 : Below w.heap.size w w2 := KW.trans (K2.mono KW.size)
      have S12 : Hid (SlI w2 p1 (st zs)) := Lib.hid (SlI.keep K12 S1.out)
      clear O2 K2 KW
      go_wp2_with (go_at_call 21; refine (C21.out a _ _ _ hlt KW2 S2.out).mono ?_; rintro e w' ⟨rfl, rfl⟩)
      clear C21 C23
      go_loopw [9, 10] (fun s i wr2 => ∃ (k m : Nat) (S : Int), s = .int .i64 S ∧ i = .int .i64 (k : Int) ∧ k ≤ n ∧ wr2 = w2.drewN m ∧ Hid (S = a - a % sp (zs.drop k))) (fun _ i _ => n - (intOf i).toNat)
      case atStart => exact ⟨0, 0, 0, rfl, rfl, by omega, rfl, HS0a⟩
      case round =>
        obtain ⟨k, m, S, rfl, rfl, hk, rfl, hS⟩ := hrel
        by_cases hkn : k < n
        · obtain ⟨x0, x1, t0, t1, m0, e1, e0, e2⟩ := ST.out a k hkn
          rw [← hS.out] at e1 e0
          obtain ⟨b1, o1, rfl, c1x⟩ := S12.out k (by rw [st_length, HN.out]; exact hkn)
          obtain ⟨b2, o2, rfl, c2x⟩ := S2.out k (by rw [pt_length, HN.out]; exact hkn)
          generalize (pt zs a).getD k 0 = x at *
          generalize (st zs).getD k 0 = t at *
          obtain ⟨T, hT⟩ : ∃ T, x * t = T := ⟨_, rfl⟩
          rw [hT] at m0 e1
          have hS2 : Hid (S + T = a - a % sp (zs.drop (k + 1))) := Lib.hid e1
          have u1 : S + T ≤ 300 := by omega
          have i0 : (0 : Int) ≤ k := by omega
          have i1 : (k : Int) < n := by omega
          clear e1 e2 hS
          go_wp2
          go_quiet (fail)
          go_wp2
          go_roundw
          case rel => exact ⟨k + 1, m + nq, S + T, rfl, by go_num, by omega, by first | rfl | rw [World.drewN_drewN], hS2⟩
          case measure => simp [intOf]; omega
        · obtain rfl : k = n := by omega
          obtain rfl : S = (a : Int) := by rw [hS.out]; exact HSn.out a
          have KD : Below w1.heap.size w1 (w2.drewN m) := below_drewN K12 m
          go_wp2
          go_roundw
          case rel => exact ⟨a + 1, by go_num, by omega, KD⟩
          case measure => simp [intOf]; omega
    · obtain rfl : P = (a : Int) := by omega
      go_wp2_with (first | (go_at_call 17; refine (C17.out _ KW).mono ?_; rintro e w' ⟨rfl, rfl⟩) | (go_at_call 13; refine (AL.out _).mono ?_; rintro e w3 ⟨rfl, hb3⟩))
      go_ret
      exact ⟨rfl, KW.trans (hb3.mono KW.size)⟩
theorem law8 (p : Option Addr) (zs : List Int) (c : Nat) (w : World) (hc : zs.length ≤ c) (hc' : c ≤ maxLen) (RA : Hid (SlI w p zs)) : Calls Try.prog 8 #[.slice p zs.length c] w (Ret (.bool true) w) := by
  by_cases h : vE zs = 0
  · by_cases h2 : sp zs ≤ 300
    · exact law8_ok p zs c w hc hc' RA h h2
    · exact law8_big p zs c w hc hc' RA h (by omega)
  · exact law8_bad p zs c w hc hc' RA (by simpa using h)
end Go.Proofs.Ytjpcpdaokgkaoaa.Sh
