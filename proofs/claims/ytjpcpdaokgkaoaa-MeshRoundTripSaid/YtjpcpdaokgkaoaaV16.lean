/- Slice of package shape, where there is an answer. -/
import Derived.Test.YtjpcpdaokgkaoaaV15
namespace Go.Proofs.Ytjpcpdaokgkaoaa.Sh
open Go.ChangeShapes Go.WideShapes Go.ChangeAt Go.RowKit
set_option linter.unusedVariables false

theorem own_form {w : World} {base n : Nat} {v : Value} {xs : List Value} (h : w.ownsRow base 3 1 v n xs) (hn : 0 < n) : ∃ g cap, v = .slice (some ⟨g, 0, none⟩) n cap ∧ base ≤ g ∧ n ≤ cap := by
  rcases h.2 with ⟨_, h0⟩ | ⟨g, cap, _, hv, h1, _, h2, _⟩
  · omega
  · exact ⟨g, cap, hv, h1, h2⟩
set_option maxHeartbeats 1000000 in
theorem c29_ok (p : Option Addr) (zs : List Int) (c : Nat) (k : Nat) (fr tt : Int) (w : World) (hn : zs.length ≤ maxLen) (RA : Hid (SlI w p zs)) (hv : vE zs = 0) (hk : k < zs.length) (f0 : 0 ≤ fr) (f1 : fr < tt) (f2 : tt ≤ zs.getD k 0) :
    Calls Try.prog 29 #[.slice p zs.length c, .int .i64 (k : Int), .int .i64 fr, .int .i64 tt] w (QW (zs.set k (tt - fr)) 0 w) := by
  have C := Lib.hid (c14 p zs c w hn RA)
  rw [hv] at C
  obtain ⟨h6, _⟩ := valid_of hv
  have hle := el_le hv hk
  obtain ⟨b, o, rfl, hc⟩ := RA.out k hk
  have C48 := Lib.hid (c48 b o zs c w hn (by omega) RA)
  generalize zs.getD k 0 = z at *
  clear hv
  have q0 : (0 : Int) ≤ k := by omega
  have q1 : (k : Int) < zs.length := by omega
  have k1 : decide ((k : Int) < 0) = false := by simp <;> omega
  have k2 : decide ((zs.length : Int) ≤ k) = false := by simp <;> omega
  have k3 : decide (zs.length ≤ k) = false := by simp <;> omega
  have m1 : decide (fr < 0) = false := by simp <;> omega
  have m2 : decide (tt ≤ fr) = false := by simp <;> omega
  have m3 : decide (z < tt) = false := by simp <;> omega
  obtain ⟨n, hN⟩ : ∃ n, zs.length = n := ⟨_, rfl⟩
  have HN := Lib.hid hN
  rw [hN] at C C48 q1 k2 k3 hk h6 ⊢
  clear hN hn
  go_enter Try.func29, Try.ntmps29
  go_wp2_with (go_at_call 14; refine (C.out).mono ?_; rintro e w' ⟨rfl, rfl⟩)
  refine (C48.out).mono ?_
  rintro e w1 ⟨v, rfl, KB, O⟩
  rw [HN.out] at O
  obtain ⟨g, cap, rfl, gb, cle⟩ := own_form O (by omega)
  have oc := cells_of O (j := k) (by omega) HN.out
  have of := O.frozenAt k
  have oS := Lib.hid (O.stored k (.int .i64 (tt - fr))).1
  clear O C C48
  go_wp2
  refine bodyPost_ret (v := .tuple #[.slice (some ⟨g, 0, none⟩) n cap, .int .i64 0]) (by simp [results, Try.results29, go_sem]) rfl ⟨_, rfl, ?_, ?_⟩
  · exact Below.setCell KB gb _
  · rw [List.length_set, HN.out, List.map_set]
    exact oS.out
end Go.Proofs.Ytjpcpdaokgkaoaa.Sh
