/- The statement on Slice and Same: its walk. -/
import Derived.Test.YtjpcpdaokgkaoaaV18
namespace Go.Proofs.Ytjpcpdaokgkaoaa.Sh
open Go.ChangeShapes Go.WideShapes Go.ChangeAt Go.RowKit
set_option linter.unusedVariables false

set_option maxHeartbeats 4000000 in
theorem law7_long (p : Option Addr) (zs : List Int) (c : Nat) (a0 a1 a2 : Int) (w : World) (hc : zs.length ≤ c) (hc' : c ≤ maxLen) (RA : Hid (SlI w p zs)) (h5 : 50 < zs.length) : Calls Try.prog 7 #[.slice p zs.length c, .agg #[.int .i64 a0, .int .i64 a1, .int .i64 a2]] w (Ret (.bool true) w) := by
  have AL := Lib.hid alive
  have l1 : decide ((50 : Int) < zs.length) = true := by simp <;> omega
  have l2 : decide (50 < zs.length) = true := by simp <;> omega
  go_enter Try.func7, Try.ntmps7
  go_wp2_with (go_at_call 13; refine (AL.out _).mono ?_; rintro e w1 ⟨rfl, hb⟩)
  go_ret
  exact ⟨rfl, ((Below.refl _ _ : Below w.heap.size w w).alloc (Nat.le_refl _) _).trans (hb.mono (by simp))⟩
set_option maxHeartbeats 4000000 in
theorem law7_nil (p : Option Addr) (_u : Unit) (c : Nat) (a0 a1 a2 : Int) (w : World) (hc : 0 ≤ c) (hc' : c ≤ maxLen) (RA : Hid (SlI w p [])) : Calls Try.prog 7 #[.slice p 0 c, .agg #[.int .i64 a0, .int .i64 a1, .int .i64 a2]] w (Ret (.bool true) w) := by
  have AL := Lib.hid alive
  have hn : ([] : List Int).length ≤ maxLen := Nat.zero_le _
  have C29 := Lib.hid fun (y : World) (h : Below w.heap.size w y) => c29 p [] c a0 a1 a2 y hn (Lib.hid (SlI.keep h RA.out))
  have C30 := Lib.hid fun (y : World) (h : Below w.heap.size w y) => c30 p [] c a0 a1 a2 y hn (Lib.hid (SlI.keep h RA.out))
  have hsl : (slL [] a0 a1 a2).length ≤ maxLen := by
    unfold slL
    repeat' split
    all_goals first | (simp; done) | (rw [List.length_set]; exact hn)
  have HSL := Lib.hid hsl
  have C31 := Lib.hid fun (y : World) (h : Below w.heap.size w y) => c31 p p [] [] c c y hn hn (Lib.hid (SlI.keep h RA.out)) (Lib.hid (SlI.keep h RA.out))
  rw [decide_eq_true rfl] at C31
  generalize slL [] a0 a1 a2 = L at *
  generalize slE [] a0 a1 a2 = E at *
  have b1 : (E == E) = true := by simp
  simp only [List.length_nil] at C29 C30 C31
  go_enter Try.func7, Try.ntmps7
  go_wp2_with fail
  have K0 : Below w.heap.size w (w.alloc (.cells #[.int .i64 a0, .int .i64 a1, .int .i64 a2] 37)) := (Below.refl _ _ : Below w.heap.size w w).alloc (Nat.le_refl _) _
  refine (C29.out _ K0).mono ?_
  rintro e w1 ⟨v1, rfl, K1, O1⟩
  obtain ⟨p1, c1, rfl, _, _, S1⟩ := own_SlI O1
  have K01 : Below w.heap.size w w1 := K0.trans (K1.mono K0.size)
  have r0 : w1.cell? ⟨w.heap.size, 0, none⟩ = some (.int .i64 a0) := Rg.keep' K1 (by simp) (by go_cell)
  have r1 : w1.cell? ⟨w.heap.size, 1, none⟩ = some (.int .i64 a1) := Rg.keep' K1 (by simp) (by go_cell)
  have r2 : w1.cell? ⟨w.heap.size, 2, none⟩ = some (.int .i64 a2) := Rg.keep' K1 (by simp) (by go_cell)
  clear O1 C29 K0 K1
  go_wp2_with fail
  refine (C30.out w1 K01).mono ?_
  rintro e w2 ⟨v2, rfl, K2, O2⟩
  obtain ⟨p2, c2, rfl, _, _, S2⟩ := own_SlI O2
  have S1' := Lib.hid (SlI.keep K2 S1.out)
  have KB : Below w.heap.size w w2 := K01.trans (K2.mono K01.size)
  have CI := Lib.hid (c18 p1 p2 L L c1 c2 w2 HSL.out HSL.out S1' S2)
  rw [decide_eq_true rfl] at CI
  clear O2 C30 S1 S2 S1' HSL r0 r1 r2 K2 K01
  go_wp2_with fail
  refine (CI.out).mono ?_
  rintro e w3 ⟨rfl, k3, hw3⟩
  have K3 : Below w.heap.size w w3 := by rw [hw3]; exact below_drewN KB k3
  clear CI hw3 KB
  go_wp2_with fail
  refine (C31.out w3 K3).mono ?_
  rintro e w4 ⟨rfl, k4, hw4⟩
  have K4 : Below w.heap.size w w4 := by rw [hw4]; exact below_drewN K3 k4
  clear C31 hw4 K3
  go_wp2_with fail
  refine (AL.out _).mono ?_
  rintro e w9 ⟨rfl, hb⟩
  go_wp2
  go_ret
  exact ⟨rfl, K4.trans (hb.mono K4.size)⟩
set_option maxHeartbeats 4000000 in
theorem law7_one (p : Option Addr) (zs : List Int) (c : Nat) (a0 a1 a2 : Int) (w : World) (hc : zs.length ≤ c) (hc' : c ≤ maxLen) (RA : Hid (SlI w p zs)) (h5 : ¬ 50 < zs.length) (hz : 0 < zs.length) (hcap : c = 1) : Calls Try.prog 7 #[.slice p zs.length c, .agg #[.int .i64 a0, .int .i64 a1, .int .i64 a2]] w (Ret (.bool true) w) := by
  have AL := Lib.hid alive
  have l1 : decide ((50 : Int) < zs.length) = false := by simp <;> omega
  have l2 : decide (50 < zs.length) = false := by simp <;> omega
  have hn : zs.length ≤ maxLen := Nat.le_trans hc hc'
  have C29 := Lib.hid fun (y : World) (h : Below w.heap.size w y) => c29 p zs c a0 a1 a2 y hn (Lib.hid (SlI.keep h RA.out))
  have C30 := Lib.hid fun (y : World) (h : Below w.heap.size w y) => c30 p zs c a0 a1 a2 y hn (Lib.hid (SlI.keep h RA.out))
  have hsl : (slL zs a0 a1 a2).length ≤ maxLen := by
    unfold slL
    repeat' split
    all_goals first | (simp; done) | (rw [List.length_set]; exact hn)
  have HSL := Lib.hid hsl
  have C31 := Lib.hid fun (y : World) (h : Below w.heap.size w y) => c31 p p zs zs c c y hn hn (Lib.hid (SlI.keep h RA.out)) (Lib.hid (SlI.keep h RA.out))
  rw [decide_eq_true rfl] at C31
  clear hsl h5
  generalize slL zs a0 a1 a2 = L at *
  generalize slE zs a0 a1 a2 = E at *
  have b1 : (E == E) = true := by simp
  have z1 : ((zs.length : Int) == 0) = false := beq_false_of_ne (by omega)
  have z2 : (zs.length == 0) = false := beq_false_of_ne (by omega)
  obtain ⟨b, o, rfl, _⟩ := RA.out 0 hz
  have C31b : Hid (∀ (y : World) (q : Option Addr) (l cc : Nat), Below w.heap.size w y → l = zs.length - 1 → SlI y q (zs.drop 1) → Calls Try.prog 31 #[.slice (some ⟨b, o, none⟩) zs.length c, .slice q l cc] y fun e w' => e = .returned (.bool false) ∧ ∃ k, w' = y.drewN k) := Lib.hid fun y q l cc h hl hS => by
    subst hl
    have h2 := c31 (some ⟨b, o, none⟩) q zs (zs.drop 1) c cc y hn (by rw [List.length_drop]; omega) (Lib.hid (SlI.keep h RA.out)) (Lib.hid hS)
    rw [List.length_drop, decide_eq_false (fun e => by have := congrArg List.length e; rw [List.length_drop] at this; omega)] at h2
    exact h2
  subst hcap
  have hz1 : zs.length = 1 := by omega
  have SE : Hid (∀ (y : World) (q : Option Addr), SlI y q (zs.drop 1)) := Lib.hid fun y q => SlI.empty (by rw [List.length_drop]; omega)
  obtain ⟨z, rfl⟩ := List.length_eq_one_iff.1 hz1
  have hl1 : [z].length = 1 := rfl
  simp only [hl1] at C29 C30 C31 C31b hz hc z1 z2 l1 l2 ⊢
  clear hz1 hz
  go_enter Try.func7, Try.ntmps7
  go_wp2_with fail
  have K0 : Below w.heap.size w (w.alloc (.cells #[.int .i64 a0, .int .i64 a1, .int .i64 a2] 37)) := (Below.refl _ _ : Below w.heap.size w w).alloc (Nat.le_refl _) _
  refine (C29.out _ K0).mono ?_
  rintro e w1 ⟨v1, rfl, K1, O1⟩
  obtain ⟨p1, c1, rfl, _, _, S1⟩ := own_SlI O1
  have K01 : Below w.heap.size w w1 := K0.trans (K1.mono K0.size)
  have r0 : w1.cell? ⟨w.heap.size, 0, none⟩ = some (.int .i64 a0) := Rg.keep' K1 (by simp) (by go_cell)
  have r1 : w1.cell? ⟨w.heap.size, 1, none⟩ = some (.int .i64 a1) := Rg.keep' K1 (by simp) (by go_cell)
  have r2 : w1.cell? ⟨w.heap.size, 2, none⟩ = some (.int .i64 a2) := Rg.keep' K1 (by simp) (by go_cell)
  clear O1 C29 K0 K1
  go_wp2_with fail
  refine (C30.out w1 K01).mono ?_
  rintro e w2 ⟨v2, rfl, K2, O2⟩
  obtain ⟨p2, c2, rfl, _, _, S2⟩ := own_SlI O2
  have S1' := Lib.hid (SlI.keep K2 S1.out)
  have KB : Below w.heap.size w w2 := K01.trans (K2.mono K01.size)
  have CI := Lib.hid (c18 p1 p2 L L c1 c2 w2 HSL.out HSL.out S1' S2)
  rw [decide_eq_true rfl] at CI
  clear O2 C30 S1 S2 S1' HSL r0 r1 r2 K2 K01
  go_wp2_with fail
  refine (CI.out).mono ?_
  rintro e w3 ⟨rfl, k3, hw3⟩
  have K3 : Below w.heap.size w w3 := by rw [hw3]; exact below_drewN KB k3
  clear CI hw3 KB
  go_wp2_with fail
  refine (C31.out w3 K3).mono ?_
  rintro e w4 ⟨rfl, k4, hw4⟩
  have K4 : Below w.heap.size w w4 := by rw [hw4]; exact below_drewN K3 k4
  clear C31 hw4 K3
  go_wp2_with fail
  refine (C31b.out w4 _ _ _ K4 (by omega) (SE.out _ _)).mono ?_
  rintro e w5 ⟨rfl, k5, hw5⟩
  have K5 : Below w.heap.size w w5 := by rw [hw5]; exact below_drewN K4 k5
  clear C31b hw5
  go_wp2_with fail
  refine (AL.out _).mono ?_
  rintro e w9 ⟨rfl, hb⟩
  go_wp2
  go_ret
  exact ⟨rfl, K5.trans (hb.mono K5.size)⟩
set_option maxHeartbeats 4000000 in
theorem law7_more (p : Option Addr) (zs : List Int) (c : Nat) (a0 a1 a2 : Int) (w : World) (hc : zs.length ≤ c) (hc' : c ≤ maxLen) (RA : Hid (SlI w p zs)) (h5 : ¬ 50 < zs.length) (hz : 0 < zs.length) (hcap : 1 < c) : Calls Try.prog 7 #[.slice p zs.length c, .agg #[.int .i64 a0, .int .i64 a1, .int .i64 a2]] w (Ret (.bool true) w) := by
  have AL := Lib.hid alive
  have l1 : decide ((50 : Int) < zs.length) = false := by simp <;> omega
  have l2 : decide (50 < zs.length) = false := by simp <;> omega
  have hn : zs.length ≤ maxLen := Nat.le_trans hc hc'
  have C29 := Lib.hid fun (y : World) (h : Below w.heap.size w y) => c29 p zs c a0 a1 a2 y hn (Lib.hid (SlI.keep h RA.out))
  have C30 := Lib.hid fun (y : World) (h : Below w.heap.size w y) => c30 p zs c a0 a1 a2 y hn (Lib.hid (SlI.keep h RA.out))
  have hsl : (slL zs a0 a1 a2).length ≤ maxLen := by
    unfold slL
    repeat' split
    all_goals first | (simp; done) | (rw [List.length_set]; exact hn)
  have HSL := Lib.hid hsl
  have C31 := Lib.hid fun (y : World) (h : Below w.heap.size w y) => c31 p p zs zs c c y hn hn (Lib.hid (SlI.keep h RA.out)) (Lib.hid (SlI.keep h RA.out))
  rw [decide_eq_true rfl] at C31
  clear hsl h5
  generalize slL zs a0 a1 a2 = L at *
  generalize slE zs a0 a1 a2 = E at *
  have b1 : (E == E) = true := by simp
  have z1 : ((zs.length : Int) == 0) = false := beq_false_of_ne (by omega)
  have z2 : (zs.length == 0) = false := beq_false_of_ne (by omega)
  obtain ⟨b, o, rfl, _⟩ := RA.out 0 hz
  have C31b : Hid (∀ (y : World) (q : Option Addr) (l cc : Nat), Below w.heap.size w y → l = zs.length - 1 → SlI y q (zs.drop 1) → Calls Try.prog 31 #[.slice (some ⟨b, o, none⟩) zs.length c, .slice q l cc] y fun e w' => e = .returned (.bool false) ∧ ∃ k, w' = y.drewN k) := Lib.hid fun y q l cc h hl hS => by
    subst hl
    have h2 := c31 (some ⟨b, o, none⟩) q zs (zs.drop 1) c cc y hn (by rw [List.length_drop]; omega) (Lib.hid (SlI.keep h RA.out)) (Lib.hid hS)
    rw [List.length_drop, decide_eq_false (fun e => by have := congrArg List.length e; rw [List.length_drop] at this; omega)] at h2
    exact h2
  go_enter Try.func7, Try.ntmps7
  go_wp2_with fail
  have K0 : Below w.heap.size w (w.alloc (.cells #[.int .i64 a0, .int .i64 a1, .int .i64 a2] 37)) := (Below.refl _ _ : Below w.heap.size w w).alloc (Nat.le_refl _) _
  refine (C29.out _ K0).mono ?_
  rintro e w1 ⟨v1, rfl, K1, O1⟩
  obtain ⟨p1, c1, rfl, _, _, S1⟩ := own_SlI O1
  have K01 : Below w.heap.size w w1 := K0.trans (K1.mono K0.size)
  have r0 : w1.cell? ⟨w.heap.size, 0, none⟩ = some (.int .i64 a0) := Rg.keep' K1 (by simp) (by go_cell)
  have r1 : w1.cell? ⟨w.heap.size, 1, none⟩ = some (.int .i64 a1) := Rg.keep' K1 (by simp) (by go_cell)
  have r2 : w1.cell? ⟨w.heap.size, 2, none⟩ = some (.int .i64 a2) := Rg.keep' K1 (by simp) (by go_cell)
  clear O1 C29 K0 K1
  go_wp2_with fail
  refine (C30.out w1 K01).mono ?_
  rintro e w2 ⟨v2, rfl, K2, O2⟩
  obtain ⟨p2, c2, rfl, _, _, S2⟩ := own_SlI O2
  have S1' := Lib.hid (SlI.keep K2 S1.out)
  have KB : Below w.heap.size w w2 := K01.trans (K2.mono K01.size)
  have CI := Lib.hid (c18 p1 p2 L L c1 c2 w2 HSL.out HSL.out S1' S2)
  rw [decide_eq_true rfl] at CI
  clear O2 C30 S1 S2 S1' HSL r0 r1 r2 K2 K01
  go_wp2_with fail
  refine (CI.out).mono ?_
  rintro e w3 ⟨rfl, k3, hw3⟩
  have K3 : Below w.heap.size w w3 := by rw [hw3]; exact below_drewN KB k3
  clear CI hw3 KB
  go_wp2_with fail
  refine (C31.out w3 K3).mono ?_
  rintro e w4 ⟨rfl, k4, hw4⟩
  have K4 : Below w.heap.size w w4 := by rw [hw4]; exact below_drewN K3 k4
  clear C31 hw4 K3
  have RD := Lib.hid (SlI.drop (SlI.keep K4 RA.out) 1)
  go_wp2_with fail
  refine (C31b.out w4 _ _ _ K4 (by omega) RD.out).mono ?_
  rintro e w5 ⟨rfl, k5, hw5⟩
  have K5 : Below w.heap.size w w5 := by rw [hw5]; exact below_drewN K4 k5
  clear C31b hw5
  go_wp2_with fail
  refine (AL.out _).mono ?_
  rintro e w9 ⟨rfl, hb⟩
  go_wp2
  go_ret
  exact ⟨rfl, K5.trans (hb.mono K5.size)⟩
theorem law7 (p : Option Addr) (zs : List Int) (c : Nat) (a0 a1 a2 : Int) (w : World) (hc : zs.length ≤ c) (hc' : c ≤ maxLen) (RA : Hid (SlI w p zs)) (b0 : -9223372036854775808 ≤ a0 ∧ a0 ≤ 9223372036854775807) (b1 : -9223372036854775808 ≤ a1 ∧ a1 ≤ 9223372036854775807) (b2 : -9223372036854775808 ≤ a2 ∧ a2 ≤ 9223372036854775807) : Calls Try.prog 7 #[.slice p zs.length c, .agg #[.int .i64 a0, .int .i64 a1, .int .i64 a2]] w (Ret (.bool true) w) := by
  by_cases h5 : 50 < zs.length
  · exact law7_long p zs c a0 a1 a2 w hc hc' RA h5
  by_cases h : zs.length = 0
  · obtain rfl := List.eq_nil_of_length_eq_zero h
    exact law7_nil p () c a0 a1 a2 w hc hc' RA
  · by_cases h1 : c = 1
    · exact law7_one p zs c a0 a1 a2 w hc hc' RA h5 (by omega) h1
    · exact law7_more p zs c a0 a1 a2 w hc hc' RA h5 (by omega) (by omega)
end Go.Proofs.Ytjpcpdaokgkaoaa.Sh
