/- Broadcast of package shape for every two lists. -/
import Derived.Test.YtjpcpdaokgkaoaaV29
namespace Go.Proofs.Ytjpcpdaokgkaoaa.Sh
open Go.ChangeShapes Go.WideShapes Go.ChangeAt Go.RowKit
set_option linter.unusedVariables false

set_option maxHeartbeats 4000000 in
theorem c25_v (p q : Option Addr) (xs ys : List Int) (c d : Nat) (w : World) (hn : xs.length ≤ maxLen) (hm : ys.length ≤ maxLen) (RA : Hid (SlI w p xs)) (RB : Hid (SlI w q ys)) (hv : (vE xs != 0) = true) : Calls Try.prog 25 #[.slice p xs.length c, .slice q ys.length d] w (QW [] (vE xs) w) := by
  have C := Lib.hid (c14 p xs c w hn RA)
  generalize vE xs = e at *
  go_enter Try.func25, Try.ntmps25
  go_wp2_with (go_at_call 14; refine (C.out).mono ?_; rintro e w' ⟨rfl, rfl⟩)
  refine bodyPost_ret (v := .tuple #[.slice none 0 0, .int .i64 e]) (by simp [results, Try.results25, go_sem]) rfl ⟨_, rfl, Below.refl _ _, World.ownsRow_nil _ _ _ _⟩
set_option maxHeartbeats 4000000 in
theorem c25_v2 (p q : Option Addr) (xs ys : List Int) (c d : Nat) (w : World) (hn : xs.length ≤ maxLen) (hm : ys.length ≤ maxLen) (RA : Hid (SlI w p xs)) (RB : Hid (SlI w q ys)) (hx : vE xs = 0) (hv : (vE ys != 0) = true) : Calls Try.prog 25 #[.slice p xs.length c, .slice q ys.length d] w (QW [] (vE ys) w) := by
  have C := Lib.hid (c14 p xs c w hn RA)
  have D := Lib.hid (c14 q ys d w hm RB)
  rw [hx] at C
  clear hx
  generalize vE ys = e at *
  go_enter Try.func25, Try.ntmps25
  go_wp2_with fail
  refine (C.out).mono ?_
  rintro e' w' ⟨rfl, rfl⟩
  go_wp2_with fail
  refine (D.out).mono ?_
  rintro e' w' ⟨rfl, rfl⟩
  go_wp2
  refine bodyPost_ret (v := .tuple #[.slice none 0 0, .int .i64 e]) (by simp [results, Try.results25, go_sem]) rfl ⟨_, rfl, Below.refl _ _, World.ownsRow_nil _ _ _ _⟩
set_option maxHeartbeats 4000000 in
theorem c26_v (p q : Option Addr) (xs ys : List Int) (c d : Nat) (w : World) (hn : xs.length ≤ maxLen) (hm : ys.length ≤ maxLen) (RA : Hid (SlI w p xs)) (RB : Hid (SlI w q ys)) (hv : (vE xs != 0) = true) : Calls Try.prog 26 #[.slice p xs.length c, .slice q ys.length d] w (QW [] (vE xs) w) := by
  have C := Lib.hid (c15 p xs c w hn RA)
  generalize vE xs = e at *
  go_enter Try.func26, Try.ntmps26
  go_wp2_with (go_at_call 15; refine (C.out).mono ?_; rintro e w' ⟨rfl, rfl⟩)
  refine bodyPost_ret (v := .tuple #[.slice none 0 0, .int .i64 e]) (by simp [results, Try.results26, go_sem]) rfl ⟨_, rfl, Below.refl _ _, World.ownsRow_nil _ _ _ _⟩
set_option maxHeartbeats 4000000 in
theorem c26_v2 (p q : Option Addr) (xs ys : List Int) (c d : Nat) (w : World) (hn : xs.length ≤ maxLen) (hm : ys.length ≤ maxLen) (RA : Hid (SlI w p xs)) (RB : Hid (SlI w q ys)) (hx : vE xs = 0) (hv : (vE ys != 0) = true) : Calls Try.prog 26 #[.slice p xs.length c, .slice q ys.length d] w (QW [] (vE ys) w) := by
  have C := Lib.hid (c15 p xs c w hn RA)
  have D := Lib.hid (c15 q ys d w hm RB)
  rw [hx] at C
  clear hx
  generalize vE ys = e at *
  go_enter Try.func26, Try.ntmps26
  go_wp2_with fail
  refine (C.out).mono ?_
  rintro e' w' ⟨rfl, rfl⟩
  go_wp2_with fail
  refine (D.out).mono ?_
  rintro e' w' ⟨rfl, rfl⟩
  go_wp2
  refine bodyPost_ret (v := .tuple #[.slice none 0 0, .int .i64 e]) (by simp [results, Try.results26, go_sem]) rfl ⟨_, rfl, Below.refl _ _, World.ownsRow_nil _ _ _ _⟩
theorem BW_comm {a b : List Int} {w : World} {e : Ending} {w' : World} (h : BW a b w e w') : BW b a w e w' := by
  unfold BW at *
  rw [bc_comm b a]
  rcases h with ⟨h1, h2⟩ | ⟨h1, h2⟩ | ⟨h1, h2⟩
  · exact Or.inl ⟨fun h => h1 (bok_comm.1 h), h2⟩
  · exact Or.inr (Or.inl ⟨bok_comm.1 h1, h2⟩)
  · exact Or.inr (Or.inr ⟨bok_comm.1 h1, h2⟩)
theorem BW_out {a b : List Int} {w : World} {e : Ending} {w' : World} (ha : vE a = 0) (hb : vE b = 0) (h : BW a b w e w') : QW (bL a b) (bE a b) w e w' := by
  unfold bL bE
  have ea : ¬ (vE a != 0) = true := by rw [ha]; decide
  have eb : ¬ (vE b != 0) = true := by rw [hb]; decide
  rw [if_neg ea, if_neg ea, if_neg eb, if_neg eb]
  rcases h with ⟨h1, h2⟩ | ⟨h1, h2, h3⟩ | ⟨h1, h2, h3⟩
  · rw [if_neg h1, if_neg h1]; exact h2
  · rw [if_pos h1, if_pos h1, if_pos h2, h2]; exact h3
  · rw [if_pos h1, if_pos h1, if_neg h2]; exact h3
theorem c25 (p q : Option Addr) (xs ys : List Int) (c d : Nat) (w : World) (hn : xs.length ≤ maxLen) (hm : ys.length ≤ maxLen) (RA : Hid (SlI w p xs)) (RB : Hid (SlI w q ys)) :
    Calls Try.prog 25 #[.slice p xs.length c, .slice q ys.length d] w (QW (bL xs ys) (bE xs ys) w) := by
  by_cases h1 : (vE xs != 0) = true
  · unfold bL bE
    rw [if_pos h1, if_pos h1]
    exact c25_v p q xs ys c d w hn hm RA RB h1
  have h1' : vE xs = 0 := by simpa using h1
  by_cases h2 : (vE ys != 0) = true
  · unfold bL bE
    rw [if_neg h1, if_neg h1, if_pos h2, if_pos h2]
    exact c25_v2 p q xs ys c d w hn hm RA RB h1' h2
  have h2' : vE ys = 0 := by simpa using h2
  by_cases h3 : ys.length ≤ xs.length
  · exact (c25_ge p q xs ys c d w RA RB h1' h2' h3).mono fun e w' h => BW_out h1' h2' h
  · exact (c25_lt q p ys xs d c w RB RA h2' h1' (by omega)).mono fun e w' h => BW_out h1' h2' (BW_comm h)
end Go.Proofs.Ytjpcpdaokgkaoaa.Sh
