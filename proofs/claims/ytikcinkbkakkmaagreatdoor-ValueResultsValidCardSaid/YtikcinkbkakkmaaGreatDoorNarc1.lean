/- Narrow, width by width, where it saturates. -/
import Derived.Test.YtikcinkbkakkmaaGreatDoorGF

namespace Go.Proofs.YtikcinkbkakkmaaGreatDoor.Nx
open Go.ChangeShapes Go.WideShapes Go.ChangeAt Go.RowKit
set_option linter.unusedVariables false
set_option linter.unusedSimpArgs false
set_option maxHeartbeats 16000000 in
theorem cnar_1 (n bits : Int) (w : World) (n0 : -9223372036854775808 ≤ n) (n1 : n ≤ 9223372036854775807) (h0 : 2 ≤ bits) (h1 : bits ≤ 31) :
    Calls Tryz.prog 117 #[.int .i64 n, .int .i64 bits, .int .i64 1] w fun e w' => e = .returned (.tuple #[.int .i64 (nv n bits 1), .bool (nb n bits 1)]) ∧ w = w' := by
  have hg : ¬ nbad bits 1 := by unfold nbad; omega
  rcases (by omega : n < - half bits ∨ half bits - 1 < n ∨ (- half bits ≤ n ∧ n ≤ half bits - 1)) with c | c | ⟨c, c'⟩
  · have Hn : nb n bits 1 = true := by unfold nb; rw [if_neg hg]; simp; omega
    have H : nv n bits 1 = - half bits := by unfold nv; rw [if_neg hg, if_pos c]; rw [if_pos rfl]
    rw [Hn]
    have HH := Lib.hid H
    clear H Hn hg
    rcases widths bits h0 h1 with ⟨rfl, hh, hf⟩ | ⟨rfl, hh, hf⟩ | ⟨rfl, hh, hf⟩ | ⟨rfl, hh, hf⟩ | ⟨rfl, hh, hf⟩ | ⟨rfl, hh, hf⟩ | ⟨rfl, hh, hf⟩ | ⟨rfl, hh, hf⟩ | ⟨rfl, hh, hf⟩ | ⟨rfl, hh, hf⟩ | ⟨rfl, hh, hf⟩ | ⟨rfl, hh, hf⟩ | ⟨rfl, hh, hf⟩ | ⟨rfl, hh, hf⟩ | ⟨rfl, hh, hf⟩ | ⟨rfl, hh, hf⟩ | ⟨rfl, hh, hf⟩ | ⟨rfl, hh, hf⟩ | ⟨rfl, hh, hf⟩ | ⟨rfl, hh, hf⟩ | ⟨rfl, hh, hf⟩ | ⟨rfl, hh, hf⟩ | ⟨rfl, hh, hf⟩ | ⟨rfl, hh, hf⟩ | ⟨rfl, hh, hf⟩ | ⟨rfl, hh, hf⟩ | ⟨rfl, hh, hf⟩ | ⟨rfl, hh, hf⟩ | ⟨rfl, hh, hf⟩ | ⟨rfl, hh, hf⟩
    all_goals
      rw [hh] at HH
      rw [hh] at c
      clear hh hf h0 h1
      go_enter Tryz.func117, Tryz.ntmps117
      go_wp2
      all_goals
        go_ret2
        exact ⟨ret2v (by have h := HH.out; omega) rfl, rfl⟩
  · have Hn : nb n bits 1 = true := by unfold nb; rw [if_neg hg]; simp; omega
    have hl : 0 < half bits := by unfold half; exact Int.pow_pos (by decide)
    have H : nv n bits 1 = half bits - 1 := by unfold nv; rw [if_neg hg, if_neg (by omega), if_pos c]; rw [if_pos rfl]
    rw [Hn]
    have HH := Lib.hid H
    clear H Hn hg hl
    rcases widths bits h0 h1 with ⟨rfl, hh, hf⟩ | ⟨rfl, hh, hf⟩ | ⟨rfl, hh, hf⟩ | ⟨rfl, hh, hf⟩ | ⟨rfl, hh, hf⟩ | ⟨rfl, hh, hf⟩ | ⟨rfl, hh, hf⟩ | ⟨rfl, hh, hf⟩ | ⟨rfl, hh, hf⟩ | ⟨rfl, hh, hf⟩ | ⟨rfl, hh, hf⟩ | ⟨rfl, hh, hf⟩ | ⟨rfl, hh, hf⟩ | ⟨rfl, hh, hf⟩ | ⟨rfl, hh, hf⟩ | ⟨rfl, hh, hf⟩ | ⟨rfl, hh, hf⟩ | ⟨rfl, hh, hf⟩ | ⟨rfl, hh, hf⟩ | ⟨rfl, hh, hf⟩ | ⟨rfl, hh, hf⟩ | ⟨rfl, hh, hf⟩ | ⟨rfl, hh, hf⟩ | ⟨rfl, hh, hf⟩ | ⟨rfl, hh, hf⟩ | ⟨rfl, hh, hf⟩ | ⟨rfl, hh, hf⟩ | ⟨rfl, hh, hf⟩ | ⟨rfl, hh, hf⟩ | ⟨rfl, hh, hf⟩
    all_goals
      rw [hh] at HH
      rw [hh] at c
      clear hh hf h0 h1
      go_enter Tryz.func117, Tryz.ntmps117
      go_wp2
      all_goals
        go_ret2
        exact ⟨ret2v (by have h := HH.out; omega) rfl, rfl⟩
  · have Hn : nb n bits 1 = false := by unfold nb; rw [if_neg hg]; simp; omega
    have H : nv n bits 1 = n := by unfold nv; rw [if_neg hg, if_neg (by omega), if_neg (by omega)]
    rw [Hn]
    have HH := Lib.hid H
    clear H Hn hg
    rcases widths bits h0 h1 with ⟨rfl, hh, hf⟩ | ⟨rfl, hh, hf⟩ | ⟨rfl, hh, hf⟩ | ⟨rfl, hh, hf⟩ | ⟨rfl, hh, hf⟩ | ⟨rfl, hh, hf⟩ | ⟨rfl, hh, hf⟩ | ⟨rfl, hh, hf⟩ | ⟨rfl, hh, hf⟩ | ⟨rfl, hh, hf⟩ | ⟨rfl, hh, hf⟩ | ⟨rfl, hh, hf⟩ | ⟨rfl, hh, hf⟩ | ⟨rfl, hh, hf⟩ | ⟨rfl, hh, hf⟩ | ⟨rfl, hh, hf⟩ | ⟨rfl, hh, hf⟩ | ⟨rfl, hh, hf⟩ | ⟨rfl, hh, hf⟩ | ⟨rfl, hh, hf⟩ | ⟨rfl, hh, hf⟩ | ⟨rfl, hh, hf⟩ | ⟨rfl, hh, hf⟩ | ⟨rfl, hh, hf⟩ | ⟨rfl, hh, hf⟩ | ⟨rfl, hh, hf⟩ | ⟨rfl, hh, hf⟩ | ⟨rfl, hh, hf⟩ | ⟨rfl, hh, hf⟩ | ⟨rfl, hh, hf⟩
    all_goals
      rw [hh] at c c'
      clear hh hf h0 h1
      go_enter Tryz.func117, Tryz.ntmps117
      go_wp2
      all_goals
        go_ret2
        exact ⟨ret2v HH.out.symm rfl, rfl⟩
end Go.Proofs.YtikcinkbkakkmaaGreatDoor.Nx
