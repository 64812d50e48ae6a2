/- The lexer: the statement on Tokenize. -/
import Derived.Test.YtipeapjbodnagaaX14
import Derived.Test.YtipeapjbodnagaaX8
namespace Go.Proofs.Ytipeapjbodnagaa.Lx
open Go.ChangeShapes Go.WideShapes Go.ChangeAt Go.RowKit
open Go.Proofs.Ytipeapjbodnagaa.Nm
set_option linter.unusedVariables false

theorem own_len {w : World} {B n : Nat} {v : Value} {xs : List Value} (h : w.ownsRow B 47 3 v n xs) : n ≤ maxLen := by
  rcases h.2 with ⟨_, h⟩ | ⟨g, cap, cur, hv, _, _, h1, h2, _⟩
  · omega
  · omega
set_option maxRecDepth 100000 in
set_option maxHeartbeats 8000000 in
theorem law_tok (s : ByteArray) (w : World) (hs : s.size ≤ maxLen) : Calls Try.prog 6 #[.string s] w fun e w' => e = .returned (.bool true) ∧ Below w.heap.size w w' := by
  have EX := Lib.hid exams
  by_cases h5 : 5000 < s.size ∧ s.size ≤ 65536
  · obtain ⟨h5, h6⟩ := h5
    have l1 : decide ((5000 : Int) < s.size) = true := decide_eq_true (by omega)
    have l2 : decide (5000 < s.size) = true := decide_eq_true h5
    have l3 : decide ((s.size : Int) ≤ 65536) = true := decide_eq_true (by omega)
    have l4 : decide (s.size ≤ 65536) = true := decide_eq_true h6
    go_enter Try.func6, Try.ntmps6
    go_wp2_with (go_at_call 30; refine (EX.out _).mono ?_; rintro e w1 ⟨rfl, hb1⟩)
    go_ret
    exact ⟨rfl, hb1⟩
  have C1 := Lib.hid (tokenize s w hs)
  have C2 := Lib.hid fun w => rtokenize s w hs
  generalize tkz s = V at C1 C2
  obtain ⟨ts, x, y⟩ := V
  rcases (by omega : s.size ≤ 5000 ∨ (5000 < s.size ∧ 65536 < s.size)) with h7 | ⟨h7, h8⟩
  all_goals
    first
    | (have l1 : decide ((5000 : Int) < s.size) = false := decide_eq_false (by omega)
       have l2 : decide (5000 < s.size) = false := decide_eq_false (by omega))
    | (have l1 : decide ((5000 : Int) < s.size) = true := decide_eq_true (by omega)
       have l2 : decide (5000 < s.size) = true := decide_eq_true (by omega)
       have l3 : decide ((s.size : Int) ≤ 65536) = false := decide_eq_false (by omega)
       have l4 : decide (s.size ≤ 65536) = false := decide_eq_false (by omega))
    clear h5 h7
    try clear h8
    go_enter Try.func6, Try.ntmps6
    go_wp2_with fail
    refine C1.out.mono ?_
    rintro e w1 ⟨v1, rfl, o1, b1⟩
    obtain ⟨p1, c1, rfl, S1⟩ := tw_sl o1
    have hn := own_len o1
    simp only at hn S1
    simp only
    clear o1
    go_wp2_with fail
    refine (C2.out _).mono ?_
    rintro e w2 ⟨v2, rfl, o2, b2⟩
    obtain ⟨p2, c2, rfl, S2⟩ := tw_sl o2
    simp only at S2
    simp only
    have K2 := b1.trans (b2.mono b1.size)
    have T1 := Lib.hid (S1.keep b2)
    have T2 := Lib.hid S2
    clear o2 S1 S2 b1 b2
    go_wp2_with fail
    refine (sameT p1 p2 ts ts c1 c2 true w2 hn rfl T1 T2 (Lib.hid fun i hi => ⟨rfl, rfl, fun _ => rfl⟩)).mono ?_
    rintro e w3 ⟨rfl, b3⟩
    have K3 := K2.trans (b3.mono K2.size)
    clear b3 T1 T2
    go_wp2_with fail
    refine (EX.out _).mono ?_
    rintro e w4 ⟨rfl, b4⟩
    go_wp2
    go_ret
    exact ⟨rfl, K3.trans (b4.mono K3.size)⟩
end Go.Proofs.Ytipeapjbodnagaa.Lx
