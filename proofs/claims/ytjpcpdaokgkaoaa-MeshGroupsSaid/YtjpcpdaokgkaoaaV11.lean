/- Clone of the standard library. -/
import Derived.Test.YtjpcpdaokgkaoaaV10
namespace Go.Proofs.Ytjpcpdaokgkaoaa.Sh
open Go.ChangeShapes Go.WideShapes Go.ChangeAt Go.RowKit
set_option linter.unusedVariables false

theorem add_at (b o j : Nat) : (⟨b, o, none⟩ : Addr).add j = ⟨b, o + j, none⟩ := by
  unfold Addr.add
  split
  · next h => subst h; rfl
  · rfl
set_option maxHeartbeats 4000000 in
/-- slices.Clone of a slice that is not nil. -/
theorem c48 (b o : Nat) (zs : List Int) (c : Nat) (w : World) (hn : zs.length ≤ maxLen) (hby : zs.length * 8 ≤ 140737488355328) (RA : Hid (SlI w (some ⟨b, o, none⟩) zs)) :
    Calls Try.prog 48 #[.slice (some ⟨b, o, none⟩) zs.length c] w (OW zs w) := by
  obtain ⟨i0, hi, hz0, hz1, hz2⟩ := info_parts info3
  have RN := Lib.hid (fun o' : Obj => SlI.keep (w' := w.alloc o') ((Below.refl _ _).alloc (Nat.le_refl _) _) RA.out)
  have HN := Lib.hid hn
  have HB := Lib.hid hby
  clear hn hby
  have EN : (binOp .eql 22 (.slice (some ⟨b, o, none⟩) zs.length c) (.slice none 0 0)).run Try.prog w = .ok (.bool false) w := by kernel_rfl
  go_enter Try.func48, Try.ntmps48
  go_wp2_with (at_builtin; refine wpList_append_own _ rfl _ _ 22 rfl w.heap.size 3 i0 (.int .i64 0) 1 8 Try.underlying22 hi hz0 hz1 hz2 rfl (by decide) _ _ _ rfl (World.ownsRow_lit w #[] 0 (Nat.le_refl _) (by decide) rfl) ⟨b, o, none⟩ zs.length c (zs.map (Value.int .i64)) rfl ?_ ?_ ?_ ?_ ?_ ?_ ?_)
  · simp
  · intro j u hj
    rw [List.getElem?_map] at hj
    have hj2 : j < zs.length := by
      by_cases h : j < zs.length
      · exact h
      · rw [List.getElem?_eq_none (by omega)] at hj; cases hj
    rw [List.getElem?_eq_getElem hj2] at hj
    cases hj
    obtain ⟨b', o', e, hc⟩ := RN.out (.cells #[] 3 (0, 0)) j hj2
    cases e
    rw [getD_at hj2] at hc
    rw [add_at]
    exact hc
  · intro u hu
    obtain ⟨x, _, rfl⟩ := List.mem_map.1 hu
    rfl
  · rw [Nat.zero_add]; exact HN.out
  · rw [Nat.zero_add]; exact HB.out
  · simp
  intro v' w1 hown' hgrow _
  have hO2 : Hid (w1.ownsRow w.heap.size 3 1 v' zs.length (zs.map (Value.int .i64))) := Lib.hid (by first | exact hown' | (have h := hown'; rw [Nat.zero_add] at h; exact h))
  have hB2 : Below w.heap.size w w1 := ((Below.refl _ _).alloc (Nat.le_refl _) _).grown hgrow (by simp) (fun j hj => by cases hj; exact Nat.le_refl _)
  clear hown' hgrow hi hz0 hz1 hz2
  go_wp2
  go_ret
  exact ⟨_, rfl, hB2, hO2.out⟩
end Go.Proofs.Ytjpcpdaokgkaoaa.Sh
