/- Narrow, width by width, where it wraps around. -/
import Derived.Test.YtikcinkbkakkmaaGreatDoorGF

namespace Go.Proofs.YtikcinkbkakkmaaGreatDoor.Nx
open Go.ChangeShapes Go.WideShapes Go.ChangeAt Go.RowKit
set_option linter.unusedVariables false
set_option linter.unusedSimpArgs false
set_option maxHeartbeats 16000000 in
theorem cnar_2 (n bits : Int) (w : World) (n0 : -9223372036854775808 ≤ n) (n1 : n ≤ 9223372036854775807) (h0 : 2 ≤ bits) (h1 : bits ≤ 31) :
    Calls Tryz.prog 117 #[.int .i64 n, .int .i64 bits, .int .i64 2] w fun e w' => e = .returned (.tuple #[.int .i64 (nv n bits 2), .bool (nb n bits 2)]) ∧ w = w' := by
  have hg : ¬ nbad bits 2 := by unfold nbad; omega
  rcases (by omega : n < - half bits ∨ half bits - 1 < n ∨ (- half bits ≤ n ∧ n ≤ half bits - 1)) with c | c | ⟨c, c'⟩
  · have Hn : nb n bits 2 = true := by unfold nb; rw [if_neg hg]; simp; omega
    have H : nv n bits 2 = (n + half bits) % full bits - half bits := by unfold nv; rw [if_neg hg, if_pos c]; rw [if_neg (by decide)]
    rw [Hn]
    have HH := Lib.hid H
    clear H Hn hg
    rcases widths bits h0 h1 with ⟨rfl, hh, hf⟩ | ⟨rfl, hh, hf⟩ | ⟨rfl, hh, hf⟩ | ⟨rfl, hh, hf⟩ | ⟨rfl, hh, hf⟩ | ⟨rfl, hh, hf⟩ | ⟨rfl, hh, hf⟩ | ⟨rfl, hh, hf⟩ | ⟨rfl, hh, hf⟩ | ⟨rfl, hh, hf⟩ | ⟨rfl, hh, hf⟩ | ⟨rfl, hh, hf⟩ | ⟨rfl, hh, hf⟩ | ⟨rfl, hh, hf⟩ | ⟨rfl, hh, hf⟩ | ⟨rfl, hh, hf⟩ | ⟨rfl, hh, hf⟩ | ⟨rfl, hh, hf⟩ | ⟨rfl, hh, hf⟩ | ⟨rfl, hh, hf⟩ | ⟨rfl, hh, hf⟩ | ⟨rfl, hh, hf⟩ | ⟨rfl, hh, hf⟩ | ⟨rfl, hh, hf⟩ | ⟨rfl, hh, hf⟩ | ⟨rfl, hh, hf⟩ | ⟨rfl, hh, hf⟩ | ⟨rfl, hh, hf⟩ | ⟨rfl, hh, hf⟩ | ⟨rfl, hh, hf⟩
    all_goals
      rw [hh, hf] at HH
      rw [hh] at c
      clear hh hf h0 h1
      go_enter Tryz.func117, Tryz.ntmps117
      go_wp2
      all_goals
        go_ret2
        exact ⟨ret2v (by have h := HH.out; simp only [wrap64]; omega) rfl, rfl⟩
  · have Hn : nb n bits 2 = true := by unfold nb; rw [if_neg hg]; simp; omega
    have hl : 0 < half bits := by unfold half; exact Int.pow_pos (by decide)
    have H : nv n bits 2 = (n + half bits) % full bits - half bits := by unfold nv; rw [if_neg hg, if_neg (by omega), if_pos c]; rw [if_neg (by decide)]
    rw [Hn]
    have HH := Lib.hid H
    clear H Hn hg hl
    rcases widths bits h0 h1 with ⟨rfl, hh, hf⟩ | ⟨rfl, hh, hf⟩ | ⟨rfl, hh, hf⟩ | ⟨rfl, hh, hf⟩ | ⟨rfl, hh, hf⟩ | ⟨rfl, hh, hf⟩ | ⟨rfl, hh, hf⟩ | ⟨rfl, hh, hf⟩ | ⟨rfl, hh, hf⟩ | ⟨rfl, hh, hf⟩ | ⟨rfl, hh, hf⟩ | ⟨rfl, hh, hf⟩ | ⟨rfl, hh, hf⟩ | ⟨rfl, hh, hf⟩ | ⟨rfl, hh, hf⟩ | ⟨rfl, hh, hf⟩ | ⟨rfl, hh, hf⟩ | ⟨rfl, hh, hf⟩ | ⟨rfl, hh, hf⟩ | ⟨rfl, hh, hf⟩ | ⟨rfl, hh, hf⟩ | ⟨rfl, hh, hf⟩ | ⟨rfl, hh, hf⟩ | ⟨rfl, hh, hf⟩ | ⟨rfl, hh, hf⟩ | ⟨rfl, hh, hf⟩ | ⟨rfl, hh, hf⟩ | ⟨rfl, hh, hf⟩ | ⟨rfl, hh, hf⟩ | ⟨rfl, hh, hf⟩
    all_goals
      rw [hh, hf] at HH
      rw [hh] at c
      clear hh hf h0 h1
      go_enter Tryz.func117, Tryz.ntmps117
      go_wp2
      all_goals
        go_ret2
        exact ⟨ret2v (by have h := HH.out; simp only [wrap64]; omega) rfl, rfl⟩
  · have Hn : nb n bits 2 = false := by unfold nb; rw [if_neg hg]; simp; omega
    have H : nv n bits 2 = n := by unfold nv; rw [if_neg hg, if_neg (by omega), if_neg (by omega)]
    rw [Hn]
    have HH := Lib.hid H
    clear H Hn hg
    rcases widths bits h0 h1 with ⟨rfl, hh, hf⟩ | ⟨rfl, hh, hf⟩ | ⟨rfl, hh, hf⟩ | ⟨rfl, hh, hf⟩ | ⟨rfl, hh, hf⟩ | ⟨rfl, hh, hf⟩ | ⟨rfl, hh, hf⟩ | ⟨rfl, hh, hf⟩ | ⟨rfl, hh, hf⟩ | ⟨rfl, hh, hf⟩ | ⟨rfl, hh, hf⟩ | ⟨rfl, hh, hf⟩ | ⟨rfl, hh, hf⟩ | ⟨rfl, hh, hf⟩ | ⟨rfl, hh, hf⟩ | ⟨rfl, hh, hf⟩ | ⟨rfl, hh, hf⟩ | ⟨rfl, hh, hf⟩ | ⟨rfl, hh, hf⟩ | ⟨rfl, hh, hf⟩ | ⟨rfl, hh, hf⟩ | ⟨rfl, hh, hf⟩ | ⟨rfl, hh, hf⟩ | ⟨rfl, hh, hf⟩ | ⟨rfl, hh, hf⟩ | ⟨rfl, hh, hf⟩ | ⟨rfl, hh, hf⟩ | ⟨rfl, hh, hf⟩ | ⟨rfl, hh, hf⟩ | ⟨rfl, hh, hf⟩
    all_goals
      rw [hh] at c c'
      clear hh hf h0 h1
      go_enter Tryz.func117, Tryz.ntmps117
      go_wp2
      all_goals
        go_ret2
        exact ⟨ret2v HH.out.symm rfl, rfl⟩
end Go.Proofs.YtikcinkbkakkmaaGreatDoor.Nx
