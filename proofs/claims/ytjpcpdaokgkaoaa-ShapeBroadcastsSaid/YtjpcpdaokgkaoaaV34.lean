/- The statement on Broadcast: its walk. -/
import Derived.Test.YtjpcpdaokgkaoaaV33
namespace Go.Proofs.Ytjpcpdaokgkaoaa.Sh
open Go.ChangeShapes Go.WideShapes Go.ChangeAt Go.RowKit
set_option linter.unusedVariables false

set_option maxHeartbeats 8000000 in
theorem law5_a (p : Option Addr) (zs : List Int) (c : Nat) (q : Option Addr) (os : List Int) (d : Nat) (w : World) (hc : zs.length ≤ c) (hc' : c ≤ maxLen) (RA : Hid (SlI w p zs)) (hd : os.length ≤ d) (hd' : d ≤ maxLen) (RB : Hid (SlI w q os)) (h5 : ¬ 50 < zs.length) (h6 : ¬ 50 < os.length) (hE : bE zs os = 0) (hv : vE zs = 0) : Calls Try.prog 5 #[.slice p zs.length c, .slice q os.length d] w (Ret (.bool true) w) := by
  have AL := Lib.hid alive
  have l1 : decide ((50 : Int) < zs.length) = false := by simp <;> omega
  have l2 : decide (50 < zs.length) = false := by simp <;> omega
  have m1 : decide ((50 : Int) < os.length) = false := by simp <;> omega
  have m2 : decide (50 < os.length) = false := by simp <;> omega
  have hn : zs.length ≤ maxLen := Nat.le_trans hc hc'
  have hm : os.length ≤ maxLen := Nat.le_trans hd hd'
  have CA := Lib.hid (c25 p q zs os c d w hn hm RA RB)
  have CB := Lib.hid fun (y : World) (h : Below w.heap.size w y) => c26 p q zs os c d y hn hm (Lib.hid (SlI.keep h RA.out)) (Lib.hid (SlI.keep h RB.out))
  have CC := Lib.hid fun (y : World) (h : Below w.heap.size w y) => c25 q p os zs d c y hm hn (Lib.hid (SlI.keep h RB.out)) (Lib.hid (SlI.keep h RA.out))
  have CV := Lib.hid fun (y : World) (h : Below w.heap.size w y) => c15 p zs c y hn (Lib.hid (SlI.keep h RA.out))
  have HSL := Lib.hid (bL_len hn hm)
  have CD := Lib.hid fun (y : World) (h : Below w.heap.size w y) => c25 p p zs zs c c y hn hn (Lib.hid (SlI.keep h RA.out)) (Lib.hid (SlI.keep h RA.out))
  rw [(bE_self hv).1, (bE_self hv).2] at CD
  have CZ : Hid (∀ (y : World) (q1 : Option Addr) (cc : Nat), Below w.heap.size w y → SlI y q1 zs → Calls Try.prog 18 #[.slice q1 zs.length cc, .slice p zs.length c] y fun e w' => e = .returned (.bool true) ∧ ∃ k, w' = y.drewN k) := Lib.hid fun y q1 cc h s => by
    have h2 := c18 q1 p zs zs cc c y hn hn (Lib.hid s) (Lib.hid (SlI.keep h RA.out))
    rw [decide_eq_true rfl] at h2
    exact h2
  rw [hv] at CV
  rw [hE] at CA CB
  rw [bE_comm0.1 hE, bL_comm hE] at CC
  generalize bL zs os = L at *
  clear h5 h6 hn hm
  go_enter Try.func5, Try.ntmps5
  go_wp2_with fail
  refine (CA.out).mono ?_
  rintro e w1 ⟨v1, rfl, K1, O1⟩
  obtain ⟨p1, c1, rfl, _, _, S1⟩ := own_SlI O1
  clear O1 CA
  go_wp2_with fail
  refine (CB.out w1 K1).mono ?_
  rintro e w2 ⟨v2, rfl, K2, O2⟩
  obtain ⟨p2, c2, rfl, _, _, S2⟩ := own_SlI O2
  have S1' := Lib.hid (SlI.keep K2 S1.out)
  have KB : Below w.heap.size w w2 := K1.trans (K2.mono K1.size)
  have CI := Lib.hid (c18 p1 p2 L L c1 c2 w2 HSL.out HSL.out S1' S2)
  rw [decide_eq_true rfl] at CI
  clear O2 CB S1 S2 K2 K1
  go_wp2_with fail
  refine (CI.out).mono ?_
  rintro e w3 ⟨rfl, k3, hw3⟩
  have K3 : Below w.heap.size w w3 := by rw [hw3]; exact below_drewN KB k3
  have S1 : Hid (SlI w3 p1 L) := Lib.hid (SlI.keep (by rw [hw3]; exact below_drewN (Below.refl _ _) k3) S1'.out)
  clear CI hw3 KB S1'
  go_wp2_with fail
  refine (CC.out w3 K3).mono ?_
  rintro e w4 ⟨v4, rfl, K4a, O4⟩
  obtain ⟨p4, c4, rfl, _, _, S4⟩ := own_SlI O4
  have K4 : Below w.heap.size w w4 := K3.trans (K4a.mono K3.size)
  have S14 := Lib.hid (SlI.keep K4a S1.out)
  have CJ := Lib.hid (c18 p1 p4 L L c1 c4 w4 HSL.out HSL.out S14 S4)
  rw [decide_eq_true rfl] at CJ
  clear O4 CC S1 S4 K4a
  go_wp2_with fail
  refine (CJ.out).mono ?_
  rintro e w5 ⟨rfl, k5, hw5⟩
  have K5 : Below w.heap.size w w5 := by rw [hw5]; exact below_drewN K4 k5
  clear CJ hw5
  go_wp2_with fail
  refine (CV.out w5 K5).mono ?_
  rintro e w' ⟨rfl, rfl⟩
  clear CV
  go_wp2_with fail
  refine (CD.out w5 K5).mono ?_
  rintro e w6 ⟨v6, rfl, K6a, O6⟩
  obtain ⟨p6, c6, rfl, _, _, S6⟩ := own_SlI O6
  have K6 : Below w.heap.size w w6 := K5.trans (K6a.mono K5.size)
  clear CD O6 K6a
  go_wp2_with fail
  refine (CZ.out w6 _ _ K6 S6.out).mono ?_
  rintro e w7 ⟨rfl, k7, hw7⟩
  have K7 : Below w.heap.size w w7 := by rw [hw7]; exact below_drewN K6 k7
  clear CZ hw7
  go_wp2_with fail
  refine (AL.out _).mono ?_
  rintro e w8 ⟨rfl, hb⟩
  go_wp2
  go_ret
  exact ⟨rfl, K7.trans (hb.mono K7.size)⟩
set_option maxHeartbeats 8000000 in
theorem law5_b (p : Option Addr) (zs : List Int) (c : Nat) (q : Option Addr) (os : List Int) (d : Nat) (w : World) (hc : zs.length ≤ c) (hc' : c ≤ maxLen) (RA : Hid (SlI w p zs)) (hd : os.length ≤ d) (hd' : d ≤ maxLen) (RB : Hid (SlI w q os)) (h5 : ¬ 50 < zs.length) (h6 : ¬ 50 < os.length) (hE : ¬ bE zs os = 0) (hv : vE zs = 0) : Calls Try.prog 5 #[.slice p zs.length c, .slice q os.length d] w (Ret (.bool true) w) := by
  have AL := Lib.hid alive
  have l1 : decide ((50 : Int) < zs.length) = false := by simp <;> omega
  have l2 : decide (50 < zs.length) = false := by simp <;> omega
  have m1 : decide ((50 : Int) < os.length) = false := by simp <;> omega
  have m2 : decide (50 < os.length) = false := by simp <;> omega
  have hn : zs.length ≤ maxLen := Nat.le_trans hc hc'
  have hm : os.length ≤ maxLen := Nat.le_trans hd hd'
  have CA := Lib.hid (c25 p q zs os c d w hn hm RA RB)
  have CB := Lib.hid fun (y : World) (h : Below w.heap.size w y) => c26 p q zs os c d y hn hm (Lib.hid (SlI.keep h RA.out)) (Lib.hid (SlI.keep h RB.out))
  have CC := Lib.hid fun (y : World) (h : Below w.heap.size w y) => c25 q p os zs d c y hm hn (Lib.hid (SlI.keep h RB.out)) (Lib.hid (SlI.keep h RA.out))
  have CV := Lib.hid fun (y : World) (h : Below w.heap.size w y) => c15 p zs c y hn (Lib.hid (SlI.keep h RA.out))
  have HSL := Lib.hid (bL_len hn hm)
  have CD := Lib.hid fun (y : World) (h : Below w.heap.size w y) => c25 p p zs zs c c y hn hn (Lib.hid (SlI.keep h RA.out)) (Lib.hid (SlI.keep h RA.out))
  rw [(bE_self hv).1, (bE_self hv).2] at CD
  have CZ : Hid (∀ (y : World) (q1 : Option Addr) (cc : Nat), Below w.heap.size w y → SlI y q1 zs → Calls Try.prog 18 #[.slice q1 zs.length cc, .slice p zs.length c] y fun e w' => e = .returned (.bool true) ∧ ∃ k, w' = y.drewN k) := Lib.hid fun y q1 cc h s => by
    have h2 := c18 q1 p zs zs cc c y hn hn (Lib.hid s) (Lib.hid (SlI.keep h RA.out))
    rw [decide_eq_true rfl] at h2
    exact h2
  rw [hv] at CV
  have hG : ¬ bE os zs = 0 := fun h => hE (bE_comm0.1 h)
  generalize bE zs os = E at CA CB hE
  generalize bE os zs = F at CC hG
  have b1 : (E != E) = false := by simp
  have b2 : (E == 0) = false := by simpa using hE
  have b3 : (F == 0) = false := by simpa using hG
  generalize bL os zs = L2 at CC
  generalize bL zs os = L at *
  clear h5 h6 hn hm
  go_enter Try.func5, Try.ntmps5
  go_wp2_with fail
  refine (CA.out).mono ?_
  rintro e w1 ⟨v1, rfl, K1, O1⟩
  obtain ⟨p1, c1, rfl, _, _, S1⟩ := own_SlI O1
  clear O1 CA
  go_wp2_with fail
  refine (CB.out w1 K1).mono ?_
  rintro e w2 ⟨v2, rfl, K2, O2⟩
  obtain ⟨p2, c2, rfl, _, _, S2⟩ := own_SlI O2
  have S1' := Lib.hid (SlI.keep K2 S1.out)
  have KB : Below w.heap.size w w2 := K1.trans (K2.mono K1.size)
  have CI := Lib.hid (c18 p1 p2 L L c1 c2 w2 HSL.out HSL.out S1' S2)
  rw [decide_eq_true rfl] at CI
  clear O2 CB S1 S2 K2 K1
  go_wp2_with fail
  refine (CI.out).mono ?_
  rintro e w3 ⟨rfl, k3, hw3⟩
  have K3 : Below w.heap.size w w3 := by rw [hw3]; exact below_drewN KB k3
  have S1 : Hid (SlI w3 p1 L) := Lib.hid (SlI.keep (by rw [hw3]; exact below_drewN (Below.refl _ _) k3) S1'.out)
  clear CI hw3 KB S1'
  go_wp2_with fail
  refine (CC.out w3 K3).mono ?_
  rintro e w4 ⟨v4, rfl, K4a, O4⟩
  obtain ⟨p4, c4, rfl, _, _, S4⟩ := own_SlI O4
  have K4 : Below w.heap.size w w4 := K3.trans (K4a.mono K3.size)
  clear O4 CC S1 S4 K4a
  obtain ⟨w5, hw5⟩ : ∃ w5, w4 = w5 := ⟨_, rfl⟩
  subst hw5
  have K5 := K4
  go_wp2_with fail
  refine (CV.out w4 K5).mono ?_
  rintro e w' ⟨rfl, rfl⟩
  clear CV
  go_wp2_with fail
  refine (CD.out w4 K5).mono ?_
  rintro e w6 ⟨v6, rfl, K6a, O6⟩
  obtain ⟨p6, c6, rfl, _, _, S6⟩ := own_SlI O6
  have K6 : Below w.heap.size w w6 := K5.trans (K6a.mono K5.size)
  clear CD O6 K6a
  go_wp2_with fail
  refine (CZ.out w6 _ _ K6 S6.out).mono ?_
  rintro e w7 ⟨rfl, k7, hw7⟩
  have K7 : Below w.heap.size w w7 := by rw [hw7]; exact below_drewN K6 k7
  clear CZ hw7
  go_wp2_with fail
  refine (AL.out _).mono ?_
  rintro e w8 ⟨rfl, hb⟩
  go_wp2
  go_ret
  exact ⟨rfl, K7.trans (hb.mono K7.size)⟩
set_option maxHeartbeats 8000000 in
theorem law5_c (p : Option Addr) (zs : List Int) (c : Nat) (q : Option Addr) (os : List Int) (d : Nat) (w : World) (hc : zs.length ≤ c) (hc' : c ≤ maxLen) (RA : Hid (SlI w p zs)) (hd : os.length ≤ d) (hd' : d ≤ maxLen) (RB : Hid (SlI w q os)) (h5 : ¬ 50 < zs.length) (h6 : ¬ 50 < os.length) (hE : ¬ bE zs os = 0) (hv : ¬ vE zs = 0) : Calls Try.prog 5 #[.slice p zs.length c, .slice q os.length d] w (Ret (.bool true) w) := by
  have AL := Lib.hid alive
  have l1 : decide ((50 : Int) < zs.length) = false := by simp <;> omega
  have l2 : decide (50 < zs.length) = false := by simp <;> omega
  have m1 : decide ((50 : Int) < os.length) = false := by simp <;> omega
  have m2 : decide (50 < os.length) = false := by simp <;> omega
  have hn : zs.length ≤ maxLen := Nat.le_trans hc hc'
  have hm : os.length ≤ maxLen := Nat.le_trans hd hd'
  have CA := Lib.hid (c25 p q zs os c d w hn hm RA RB)
  have CB := Lib.hid fun (y : World) (h : Below w.heap.size w y) => c26 p q zs os c d y hn hm (Lib.hid (SlI.keep h RA.out)) (Lib.hid (SlI.keep h RB.out))
  have CC := Lib.hid fun (y : World) (h : Below w.heap.size w y) => c25 q p os zs d c y hm hn (Lib.hid (SlI.keep h RB.out)) (Lib.hid (SlI.keep h RA.out))
  have CV := Lib.hid fun (y : World) (h : Below w.heap.size w y) => c15 p zs c y hn (Lib.hid (SlI.keep h RA.out))
  have HSL := Lib.hid (bL_len hn hm)
  generalize vE zs = V at CV hv
  have v1 : (V == 0) = false := by simpa using hv
  clear hv
  have hG : ¬ bE os zs = 0 := fun h => hE (bE_comm0.1 h)
  generalize bE zs os = E at CA CB hE
  generalize bE os zs = F at CC hG
  have b1 : (E != E) = false := by simp
  have b2 : (E == 0) = false := by simpa using hE
  have b3 : (F == 0) = false := by simpa using hG
  generalize bL os zs = L2 at CC
  generalize bL zs os = L at *
  clear h5 h6 hn hm
  go_enter Try.func5, Try.ntmps5
  go_wp2_with fail
  refine (CA.out).mono ?_
  rintro e w1 ⟨v1, rfl, K1, O1⟩
  obtain ⟨p1, c1, rfl, _, _, S1⟩ := own_SlI O1
  clear O1 CA
  go_wp2_with fail
  refine (CB.out w1 K1).mono ?_
  rintro e w2 ⟨v2, rfl, K2, O2⟩
  obtain ⟨p2, c2, rfl, _, _, S2⟩ := own_SlI O2
  have S1' := Lib.hid (SlI.keep K2 S1.out)
  have KB : Below w.heap.size w w2 := K1.trans (K2.mono K1.size)
  have CI := Lib.hid (c18 p1 p2 L L c1 c2 w2 HSL.out HSL.out S1' S2)
  rw [decide_eq_true rfl] at CI
  clear O2 CB S1 S2 K2 K1
  go_wp2_with fail
  refine (CI.out).mono ?_
  rintro e w3 ⟨rfl, k3, hw3⟩
  have K3 : Below w.heap.size w w3 := by rw [hw3]; exact below_drewN KB k3
  have S1 : Hid (SlI w3 p1 L) := Lib.hid (SlI.keep (by rw [hw3]; exact below_drewN (Below.refl _ _) k3) S1'.out)
  clear CI hw3 KB S1'
  go_wp2_with fail
  refine (CC.out w3 K3).mono ?_
  rintro e w4 ⟨v4, rfl, K4a, O4⟩
  obtain ⟨p4, c4, rfl, _, _, S4⟩ := own_SlI O4
  have K4 : Below w.heap.size w w4 := K3.trans (K4a.mono K3.size)
  clear O4 CC S1 S4 K4a
  obtain ⟨w5, hw5⟩ : ∃ w5, w4 = w5 := ⟨_, rfl⟩
  subst hw5
  have K5 := K4
  go_wp2_with fail
  refine (CV.out w4 K5).mono ?_
  rintro e w' ⟨rfl, rfl⟩
  clear CV
  have K7 := K5
  go_wp2_with fail
  refine (AL.out _).mono ?_
  rintro e w8 ⟨rfl, hb⟩
  go_wp2
  go_ret
  exact ⟨rfl, K7.trans (hb.mono K7.size)⟩
set_option maxHeartbeats 4000000 in
theorem law5_long1 (p : Option Addr) (zs : List Int) (c : Nat) (q : Option Addr) (os : List Int) (d : Nat) (w : World) (hc : zs.length ≤ c) (hc' : c ≤ maxLen) (RA : Hid (SlI w p zs)) (hd : os.length ≤ d) (hd' : d ≤ maxLen) (RB : Hid (SlI w q os)) (h5 : 50 < zs.length) : Calls Try.prog 5 #[.slice p zs.length c, .slice q os.length d] w (Ret (.bool true) w) := by
  have AL := Lib.hid alive
  have l1 : decide ((50 : Int) < zs.length) = true := by simp <;> omega
  have l2 : decide (50 < zs.length) = true := by simp <;> omega
  go_enter Try.func5, Try.ntmps5
  go_wp2_with (go_at_call 13; refine (AL.out _).mono ?_; rintro e w1 ⟨rfl, hb⟩)
  go_ret
  exact ⟨rfl, hb⟩
set_option maxHeartbeats 4000000 in
theorem law5_long2 (p : Option Addr) (zs : List Int) (c : Nat) (q : Option Addr) (os : List Int) (d : Nat) (w : World) (hc : zs.length ≤ c) (hc' : c ≤ maxLen) (RA : Hid (SlI w p zs)) (hd : os.length ≤ d) (hd' : d ≤ maxLen) (RB : Hid (SlI w q os)) (h5 : ¬ 50 < zs.length) (h6 : 50 < os.length) : Calls Try.prog 5 #[.slice p zs.length c, .slice q os.length d] w (Ret (.bool true) w) := by
  have AL := Lib.hid alive
  have l1 : decide ((50 : Int) < zs.length) = false := by simp <;> omega
  have l2 : decide (50 < zs.length) = false := by simp <;> omega
  have m1 : decide ((50 : Int) < os.length) = true := by simp <;> omega
  have m2 : decide (50 < os.length) = true := by simp <;> omega
  go_enter Try.func5, Try.ntmps5
  go_wp2_with (go_at_call 13; refine (AL.out _).mono ?_; rintro e w1 ⟨rfl, hb⟩)
  go_ret
  exact ⟨rfl, hb⟩
theorem law5 (p : Option Addr) (zs : List Int) (c : Nat) (q : Option Addr) (os : List Int) (d : Nat) (w : World) (hc : zs.length ≤ c) (hc' : c ≤ maxLen) (RA : Hid (SlI w p zs)) (hd : os.length ≤ d) (hd' : d ≤ maxLen) (RB : Hid (SlI w q os)) : Calls Try.prog 5 #[.slice p zs.length c, .slice q os.length d] w (Ret (.bool true) w) := by
  by_cases h5 : 50 < zs.length
  · exact law5_long1 p zs c q os d w hc hc' RA hd hd' RB h5
  by_cases h6 : 50 < os.length
  · exact law5_long2 p zs c q os d w hc hc' RA hd hd' RB h5 h6
  by_cases hE : bE zs os = 0
  · exact law5_a p zs c q os d w hc hc' RA hd hd' RB h5 h6 hE (bE_zero.1 hE).1
  by_cases hv : vE zs = 0
  · exact law5_b p zs c q os d w hc hc' RA hd hd' RB h5 h6 hE hv
  · exact law5_c p zs c q os d w hc hc' RA hd hd' RB h5 h6 hE hv
end Go.Proofs.Ytjpcpdaokgkaoaa.Sh
