/- Negated lists. -/
import Derived.Test.YtbicmlkjonaccaaDoorE30

namespace Go.Proofs.YtbicmlkjonaccaaDoor.Ln
open Go.ChangeShapes Go.WideShapes Go.ChangeAt Go.RowKit
open Go.Proofs.YtbicmlkjonaccaaDoor.Nm
set_option linter.unusedVariables false
set_option linter.unusedSimpArgs false
set_option maxRecDepth 8000

def ng (m : Mo) : Mo := (m.1, -m.2)
def ngT (Y : List Mo) (t : Nat) : List Mo := (Y.take t).map ng ++ Y.drop t
theorem ngT_len (Y : List Mo) (t : Nat) (h : t <= Y.length) : (ngT Y t).length = Y.length := by unfold ngT; simp; omega
theorem ngT_get (Y : List Mo) (t : Nat) (h : t < Y.length) : (ngT Y t).getD t mo0 = Y.getD t mo0 := by
 unfold ngT
 rw [List.getD_eq_getElem?_getD, List.getD_eq_getElem?_getD, List.getElem?_append_right (by simp; omega)]
 simp
 rw [Nat.min_eq_left (by omega), Nat.sub_self, Nat.add_zero]
theorem ngT_all (Y : List Mo) : ngT Y Y.length = Y.map ng := by unfold ngT; simp
theorem moCs_set (l r : List Mo) (a b : Mo) (h : a.1 = b.1) : (moCs (l ++ a :: r)).set (l.length * 2 + 1) (.int .i64 b.2) = moCs (l ++ b :: r) := by
 unfold moCs
 rw [List.flatMap_append, List.flatMap_append, List.set_append_right _ _ (by have := moCs_len l; unfold moCs at this; omega)]
 have h2 := moCs_len l
 unfold moCs at h2
 rw [h2, show l.length * 2 + 1 - l.length * 2 = 1 by omega]
 simp [moC, h]
theorem ngT_step (Y : List Mo) (t : Nat) (h : t < Y.length) : (moCs (ngT Y t)).set (t * 2 + 1) (.int .i64 (-(Y.getD t mo0).2)) = moCs (ngT Y (t + 1)) := by
 have e1 : Y.getD t mo0 = Y[t] := by unfold List.getD; rw [List.getElem?_eq_getElem h]; rfl
 have e2 : ngT Y t = (Y.take t).map ng ++ Y[t] :: Y.drop (t + 1) := by unfold ngT; rw [List.drop_eq_getElem_cons h]
 have e3 : ngT Y (t + 1) = (Y.take t).map ng ++ ng Y[t] :: Y.drop (t + 1) := by
  unfold ngT
  rw [List.take_succ_eq_append_getElem h, List.map_append, List.append_assoc]
  rfl
 have e4 := moCs_set ((Y.take t).map ng) (Y.drop (t + 1)) Y[t] (ng Y[t]) rfl
 rw [List.length_map, List.length_take, Nat.min_eq_left (by omega)] at e4
 rw [e1, e2, e3]
 exact e4
theorem fit_neg {a : Int} (h1 : -9223372036854775808 <= a) (h2 : a <= 9223372036854775807) : fit64 (a * -1) = !(a == -9223372036854775808) := by
 unfold fit64
 by_cases h : a = -9223372036854775808
 ·subst h; decide
 ·have e : (a == -9223372036854775808) = false := by simpa using h
  rw [e]
  simp
  omega
theorem sclN_k {Y : List Mo} (hok : okL Y = true) : sclR (-1) (-9223372036854775808) Y = (0, [], 3) := by
 unfold sclR
 rw [if_neg (by rw [hok]; decide), if_neg (by decide), if_neg]
 unfold sclF
 rw [show fit64 (-9223372036854775808 * -1) = false by decide]
 simp
theorem sclN_m {Y : List Mo} {D : Int} {t : Nat} (hok : okL Y = true) (ht : t < Y.length) (h : (Y.getD t mo0).2 = -9223372036854775808) : sclR (-1) D Y = (0, [], 3) := by
 unfold sclR
 rw [if_neg (by rw [hok]; decide), if_neg (by decide), if_neg]
 unfold sclF
 have hf : (Y.all fun m => fit64 (m.2 * -1)) = false := by
  rw [List.all_eq_false]
  exact ⟨_, getD_mem ht, by rw [h]; decide⟩
 rw [hf]
 simp
theorem sclN_ok {Y : List Mo} {D : Int} (hok : okL Y = true) (d1 : -9223372036854775808 <= D) (d2 : D <= 9223372036854775807) (hd : D ≠ -9223372036854775808) (hb : ∀ i, i < Y.length -> -9223372036854775808 <= (Y.getD i mo0).2 /\ (Y.getD i mo0).2 <= 9223372036854775807) (hy : ∀ i, i < Y.length -> (Y.getD i mo0).2 ≠ -9223372036854775808) : sclR (-1) D Y = (-D, Y.map ng, 0) := by
 have key : ∀ m ∈ Y, (-9223372036854775808 <= m.2 /\ m.2 <= 9223372036854775807) /\ m.2 ≠ -9223372036854775808 := fun m hm => by
  obtain ⟨j, hj, rfl⟩ := List.getElem_of_mem hm
  have h1 := hb j hj
  have h2 := hy j hj
  have e1 : Y.getD j mo0 = Y[j] := by unfold List.getD; rw [List.getElem?_eq_getElem hj]; rfl
  rw [e1] at h1 h2
  exact ⟨h1, h2⟩
 have hf : sclF (-1) D Y = true := by
  unfold sclF
  rw [fit_neg d1 d2, Bool.and_eq_true, List.all_eq_true]
  refine ⟨by simpa using hd, fun m hm => ?_⟩
  rw [fit_neg (key m hm).1.1 (key m hm).1.2]
  simpa using (key m hm).2
 unfold sclR
 rw [if_neg (by rw [hok]; decide), if_neg (by decide), if_pos hf]
 have e1 : wrap64 (D * -1) = -D := by unfold wrap64; omega
 have e2 : sclV (-1) Y = Y.map ng := by
  unfold sclV
  apply List.map_congr_left
  intro m hm
  have h := key m hm
  have : wrap64 (m.2 * -1) = -m.2 := by unfold wrap64; omega
  rw [this]; rfl
 rw [e1, e2]
end Go.Proofs.YtbicmlkjonaccaaDoor.Ln
