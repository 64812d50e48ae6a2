/- Permute: its plain answer, and where it has none. -/
import Derived.Test.YtjpcpdaokgkaoaaV21
namespace Go.Proofs.Ytjpcpdaokgkaoaa.Sh
open Go.ChangeShapes Go.WideShapes Go.ChangeAt Go.RowKit
set_option linter.unusedVariables false

/-- The first k axes are axes, each but once. -/
def gd (n : Nat) (os : List Int) (k : Nat) : Prop := ∀ i, i < k → 0 ≤ os.getD i 0 ∧ os.getD i 0 < n ∧ ∀ j, j < i → os.getD j 0 ≠ os.getD i 0
def pm (zs os : List Int) : List Int := os.map fun x => zs.getD x.toNat 0
open Classical in
noncomputable def pmE (zs os : List Int) : Int := if (vE zs != 0) = true then vE zs else if os.length = zs.length ∧ gd zs.length os zs.length then 0 else 1
open Classical in
noncomputable def pmL (zs os : List Int) : List Int := if (vE zs != 0) = true then [] else if os.length = zs.length ∧ gd zs.length os zs.length then pm zs os else []
theorem pm_get {zs os : List Int} {k : Nat} (h : k < os.length) : (pm zs os).getD k 0 = zs.getD (os.getD k 0).toNat 0 := by
  rw [getD_at (by simp [pm]; exact h), getD_at h]
  simp [pm]
theorem gd_step {n k : Nat} {os : List Int} {x : Nat} (h : gd n os k) (hx : os.getD k 0 = x) (h1 : x < n) (h2 : ∀ i, i < k → os.getD i 0 ≠ x) : gd n os (k + 1) := by
  intro i hi
  rcases (by omega : i < k ∨ i = k) with h3 | rfl
  · exact h i h3
  · rw [hx]
    exact ⟨by omega, by omega, h2⟩
theorem bools_at {w : World} {base g n cap j : Nat} {t : TypeId} {bs : List Bool} (h : w.ownsRow base t 1 (.slice (some ⟨g, 0, none⟩) n cap) n (bs.map Value.bool)) (hj : j < n) (hx : bs.length = n) :
    w.cell? ⟨g, j, none⟩ = some (.bool (bs.getD j false)) := by
  rw [h.cellAt j (by omega), List.getElem?_map, List.getElem?_eq_getElem (by omega)]
  unfold List.getD
  rw [List.getElem?_eq_getElem (by omega)]
  rfl
theorem us_step {os : List Int} {k x m : Nat} {us : List Bool} (hx : os.getD k 0 = (x : Int)) (hm : us.length = m) (hxm : x < m) (h : ∀ y, y < m → (us.getD y false = true ↔ ∃ i, i < k ∧ os.getD i 0 = (y : Int))) :
    ∀ y, y < m → ((us.set x true).getD y false = true ↔ ∃ i, i < k + 1 ∧ os.getD i 0 = (y : Int)) := by
  intro y hy
  by_cases e : y = x
  · subst e
    rw [show (us.set y true).getD y false = true by unfold List.getD; rw [List.getElem?_set_self (by omega)]; rfl]
    exact ⟨fun _ => ⟨k, by omega, hx⟩, fun _ => rfl⟩
  · rw [show (us.set x true).getD y false = us.getD y false by unfold List.getD; rw [List.getElem?_set_ne (by omega)], h y hy]
    constructor
    · rintro ⟨i, hi, h1⟩; exact ⟨i, by omega, h1⟩
    · rintro ⟨i, hi, h1⟩
      rcases (by omega : i < k ∨ i = k) with h3 | rfl
      · exact ⟨i, h3, h1⟩
      · rw [hx] at h1; omega
set_option maxHeartbeats 4000000 in
theorem c27_v (p q : Option Addr) (zs os : List Int) (c d : Nat) (w : World) (hn : zs.length ≤ maxLen) (RA : Hid (SlI w p zs)) (hv : (vE zs != 0) = true) :
    Calls Try.prog 27 #[.slice p zs.length c, .slice q os.length d] w (QW [] (vE zs) w) := by
  have C := Lib.hid (c14 p zs c w hn RA)
  generalize vE zs = e at *
  go_enter Try.func27, Try.ntmps27
  go_wp2_with (go_at_call 14; refine (C.out).mono ?_; rintro e w' ⟨rfl, rfl⟩)
  refine bodyPost_ret (v := .tuple #[.slice none 0 0, .int .i64 e]) (by simp [results, Try.results27, go_sem]) rfl ⟨_, rfl, Below.refl _ _, World.ownsRow_nil _ _ _ _⟩
set_option maxHeartbeats 4000000 in
theorem c27_l (p q : Option Addr) (zs os : List Int) (c d : Nat) (w : World) (hn : zs.length ≤ maxLen) (RA : Hid (SlI w p zs)) (hv : vE zs = 0) (hl : ¬ os.length = zs.length) :
    Calls Try.prog 27 #[.slice p zs.length c, .slice q os.length d] w (QW [] 1 w) := by
  have C := Lib.hid (c14 p zs c w hn RA)
  rw [hv] at C
  clear hv
  have k1 : ((os.length : Int) != zs.length) = true := by simp <;> omega
  have k2 : (os.length != zs.length) = true := by simpa using hl
  have k3 : (os.length == zs.length) = false := by simpa using hl
  generalize zs.length = n at *
  generalize os.length = m at *
  clear hl
  go_enter Try.func27, Try.ntmps27
  go_wp2_with (go_at_call 14; refine (C.out).mono ?_; rintro e w' ⟨rfl, rfl⟩)
  refine bodyPost_ret (v := .tuple #[.slice none 0 0, .int .i64 1]) (by simp [results, Try.results27, go_sem]) rfl ⟨_, rfl, (Below.refl _ _).alloc (Nat.le_refl _) _, World.ownsRow_nil _ _ _ _⟩
set_option maxHeartbeats 4000000 in
theorem c28_v (p q : Option Addr) (zs os : List Int) (c d : Nat) (w : World) (hn : zs.length ≤ maxLen) (RA : Hid (SlI w p zs)) (hv : (vE zs != 0) = true) :
    Calls Try.prog 28 #[.slice p zs.length c, .slice q os.length d] w (QW [] (vE zs) w) := by
  have C := Lib.hid (c15 p zs c w hn RA)
  generalize vE zs = e at *
  go_enter Try.func28, Try.ntmps28
  go_wp2_with (go_at_call 15; refine (C.out).mono ?_; rintro e w' ⟨rfl, rfl⟩)
  refine bodyPost_ret (v := .tuple #[.slice none 0 0, .int .i64 e]) (by simp [results, Try.results28, go_sem]) rfl ⟨_, rfl, Below.refl _ _, World.ownsRow_nil _ _ _ _⟩
set_option maxHeartbeats 4000000 in
theorem c28_l (p q : Option Addr) (zs os : List Int) (c d : Nat) (w : World) (hn : zs.length ≤ maxLen) (RA : Hid (SlI w p zs)) (hv : vE zs = 0) (hl : ¬ os.length = zs.length) :
    Calls Try.prog 28 #[.slice p zs.length c, .slice q os.length d] w (QW [] 1 w) := by
  have C := Lib.hid (c15 p zs c w hn RA)
  rw [hv] at C
  clear hv
  have k1 : ((os.length : Int) != zs.length) = true := by simp <;> omega
  have k2 : (os.length != zs.length) = true := by simpa using hl
  have k3 : (os.length == zs.length) = false := by simpa using hl
  generalize zs.length = n at *
  generalize os.length = m at *
  clear hl
  go_enter Try.func28, Try.ntmps28
  go_wp2_with (go_at_call 15; refine (C.out).mono ?_; rintro e w' ⟨rfl, rfl⟩)
  refine bodyPost_ret (v := .tuple #[.slice none 0 0, .int .i64 1]) (by simp [results, Try.results28, go_sem]) rfl ⟨_, rfl, Below.refl _ _, World.ownsRow_nil _ _ _ _⟩
end Go.Proofs.Ytjpcpdaokgkaoaa.Sh
