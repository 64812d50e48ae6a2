/- Group of package mesh for every argument; where the reference's Group has no answer. -/
import Derived.Test.YtjpcpdaokgkaoaaM6
namespace Go.Proofs.Ytjpcpdaokgkaoaa.Sh
open Go.ChangeShapes Go.WideShapes Go.ChangeAt Go.RowKit
set_option linter.unusedVariables false

/-- The group of a device along an axis. -/
def gL (zs : List Int) (ax d : Int) : List Int := if cB zs d = true ∧ 0 ≤ ax ∧ ax < zs.length then gm zs ax.toNat d else []
set_option maxHeartbeats 4000000 in
theorem c41_bad (p : Option Addr) (zs : List Int) (c : Nat) (ax d : Int) (w : World) (hn : zs.length ≤ maxLen) (RA : Hid (SlI w p zs)) (hno : ¬ (cB zs d = true ∧ 0 ≤ ax ∧ ax < zs.length)) :
    Calls Try.prog 41 #[.agg #[.slice p zs.length c], .int .i64 ax, .int .i64 d] w (OW [] w) := by
  have R1 := SlI.keep ((Below.refl _ _).alloc (Nat.le_refl _) (Obj.cells #[Value.slice p zs.length c] 41)) RA.out
  have R1 := Lib.hid R1
  have C := Lib.hid fun (y : World) (h : SlI y p zs) => c33 p zs c d y hn (Lib.hid h)
  unfold maxLen at hn
  obtain ⟨t, ht⟩ : ∃ t, cB zs d = t := ⟨_, rfl⟩
  rw [ht] at C hno
  clear ht
  generalize cL zs d = L at C
  cases t
  · clear hno
    go_enter Try.func41, Try.ntmps41
    go_wp2_with (go_at_call 33; refine (C.out _ R1.out).mono ?_; rintro e w' ⟨v, rfl, hb, ho⟩; obtain ⟨hx, hB⟩ := boxed hb; clear hb ho)
    go_ret
    exact ⟨_, rfl, hB, World.ownsRow_nil _ _ _ _⟩
  · by_cases h0 : ax < 0
    · have q1 : decide (ax < 0) = true := decide_eq_true h0
      clear hno
      go_enter Try.func41, Try.ntmps41
      go_wp2_with (go_at_call 33; refine (C.out _ R1.out).mono ?_; rintro e w' ⟨v, rfl, hb, ho⟩; obtain ⟨hx, hB⟩ := boxed hb; clear hb ho)
      go_ret
      exact ⟨_, rfl, hB, World.ownsRow_nil _ _ _ _⟩
    · have q1 : decide (ax < 0) = false := decide_eq_false h0
      have q2 : decide ((zs.length : Int) ≤ ax) = true := decide_eq_true (by have : ¬ (0 ≤ ax ∧ ax < zs.length) := fun h => hno ⟨rfl, h⟩; omega)
      clear hno
      go_enter Try.func41, Try.ntmps41
      go_wp2_with (go_at_call 33; refine (C.out _ R1.out).mono ?_; rintro e w' ⟨v, rfl, hb, ho⟩; obtain ⟨hx, hB⟩ := boxed hb; clear hb ho)
      go_ret
      exact ⟨_, rfl, hB, World.ownsRow_nil _ _ _ _⟩
theorem c41 (p : Option Addr) (zs : List Int) (c : Nat) (ax d : Int) (w : World) (hn : zs.length ≤ maxLen) (RA : Hid (SlI w p zs)) :
    Calls Try.prog 41 #[.agg #[.slice p zs.length c], .int .i64 ax, .int .i64 d] w (OW (gL zs ax d) w) := by
  unfold gL
  by_cases h : cB zs d = true ∧ 0 ≤ ax ∧ ax < zs.length
  · rw [if_pos h]
    have := c41_ok p zs c ax.toNat d w RA h.1 (by omega)
    rw [Int.toNat_of_nonneg h.2.1] at this
    exact this
  · rw [if_neg h]
    exact c41_bad p zs c ax d w hn RA h
set_option maxHeartbeats 4000000 in
theorem c42_bad (p : Option Addr) (zs : List Int) (c : Nat) (ax d : Int) (w : World) (hn : zs.length ≤ maxLen) (RA : Hid (SlI w p zs)) (hno : ¬ (cB zs d = true ∧ 0 ≤ ax ∧ ax < zs.length)) :
    Calls Try.prog 42 #[.agg #[.slice p zs.length c], .int .i64 ax, .int .i64 d] w (OW [] w) := by
  have R1 := SlI.keep ((Below.refl _ _).alloc (Nat.le_refl _) (Obj.cells #[Value.slice p zs.length c] 41)) RA.out
  have R1 := Lib.hid R1
  have C := Lib.hid fun (y : World) (h : SlI y p zs) => c34 p zs c d y hn (Lib.hid h)
  unfold maxLen at hn
  obtain ⟨t, ht⟩ : ∃ t, cB zs d = t := ⟨_, rfl⟩
  rw [ht] at C hno
  clear ht
  generalize cL zs d = L at C
  cases t
  · clear hno
    go_enter Try.func42, Try.ntmps42
    go_wp2_with (go_at_call 34; refine (C.out _ R1.out).mono ?_; rintro e w' ⟨v, rfl, hb, ho⟩; obtain ⟨hx, hB⟩ := boxed hb; clear hb ho)
    go_ret
    exact ⟨_, rfl, hB, World.ownsRow_nil _ _ _ _⟩
  · by_cases h0 : ax < 0
    · have q1 : decide (ax < 0) = true := decide_eq_true h0
      clear hno
      go_enter Try.func42, Try.ntmps42
      go_wp2_with (go_at_call 34; refine (C.out _ R1.out).mono ?_; rintro e w' ⟨v, rfl, hb, ho⟩; obtain ⟨hx, hB⟩ := boxed hb; clear hb ho)
      go_ret
      exact ⟨_, rfl, hB, World.ownsRow_nil _ _ _ _⟩
    · have q1 : decide (ax < 0) = false := decide_eq_false h0
      have q2 : decide ((zs.length : Int) ≤ ax) = true := decide_eq_true (by have : ¬ (0 ≤ ax ∧ ax < zs.length) := fun h => hno ⟨rfl, h⟩; omega)
      clear hno
      go_enter Try.func42, Try.ntmps42
      go_wp2_with (go_at_call 34; refine (C.out _ R1.out).mono ?_; rintro e w' ⟨v, rfl, hb, ho⟩; obtain ⟨hx, hB⟩ := boxed hb; clear hb ho)
      go_ret
      exact ⟨_, rfl, hB, World.ownsRow_nil _ _ _ _⟩
def ag (ax n : Nat) (P Q : List Int) : Bool := (List.range n).all fun i => i == ax || P.getD i 0 == Q.getD i 0
/-- The group of a device along an axis, as the reference makes it. -/
def gr (zs : List Int) (ax : Nat) (d : Int) (k : Nat) : List Int := ((List.range k).filter fun (e : Nat) => ag ax zs.length (pt zs d) (pt zs (e : Int))).map fun (e : Nat) => (e : Int)
theorem gr_step {zs : List Int} {ax : Nat} {d : Int} {k : Nat} : gr zs ax d (k + 1) = gr zs ax d k ++ if ag ax zs.length (pt zs d) (pt zs (k : Int)) = true then [(k : Int)] else [] := by
  unfold gr
  rw [List.range_succ, List.filter_append, List.map_append]
  congr 1
  by_cases h : ag ax zs.length (pt zs d) (pt zs (k : Int)) = true
  · simp [h]
  · simp [h]
theorem ag_step {ax m : Nat} {P Q : List Int} : ag ax (m + 1) P Q = (ag ax m P Q && (m == ax || P.getD m 0 == Q.getD m 0)) := by
  unfold ag
  rw [List.range_succ, List.all_append]
  simp
theorem gr_len (zs : List Int) (ax : Nat) (d : Int) (k : Nat) : (gr zs ax d k).length ≤ k := by
  unfold gr
  rw [List.length_map]
  exact Nat.le_trans (List.length_filter_le _ _) (by simp)
end Go.Proofs.Ytjpcpdaokgkaoaa.Sh
