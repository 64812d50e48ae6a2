/- What TensorScanTotal needs beside the base. -/
import Derived.Test.YteaaikmejacpaaaGreatDoorE16
import Derived.Test.YteaaikmejacpaaaGreatDoorR0
import Derived.Test.YteaaikmejacpaaaGreatDoorR1
import Derived.Test.YteaaikmejacpaaaGreatDoorR10
import Derived.Test.YteaaikmejacpaaaGreatDoorR11
import Derived.Test.YteaaikmejacpaaaGreatDoorR12
import Derived.Test.YteaaikmejacpaaaGreatDoorR13
import Derived.Test.YteaaikmejacpaaaGreatDoorR14
import Derived.Test.YteaaikmejacpaaaGreatDoorR16
import Derived.Test.YteaaikmejacpaaaGreatDoorR17
import Derived.Test.YteaaikmejacpaaaGreatDoorR18
import Derived.Test.YteaaikmejacpaaaGreatDoorR19
import Derived.Test.YteaaikmejacpaaaGreatDoorR2
import Derived.Test.YteaaikmejacpaaaGreatDoorR20
import Derived.Test.YteaaikmejacpaaaGreatDoorR3
import Derived.Test.YteaaikmejacpaaaGreatDoorR4
import Derived.Test.YteaaikmejacpaaaGreatDoorR5
import Derived.Test.YteaaikmejacpaaaGreatDoorR6
import Derived.Test.YteaaikmejacpaaaGreatDoorR7
import Derived.Test.YteaaikmejacpaaaGreatDoorR8
import Derived.Test.YteaaikmejacpaaaGreatDoorR9
import Derived.Deep.RegionHeld3
import Derived.Deep.RegionWith
import Derived.Deep.CutRange
namespace Go.Proofs.YteaaikmejacpaaaGreatDoor.Fx
open Go.ChangeShapes Go.WideShapes Go.ChangeAt Go.RowKit
open Fr
set_option linter.unusedVariables false
set_option linter.unusedSimpArgs false

theorem nv_range (a B O : Int) (hb : 2 <= B) (hb' : B <= 31) (ho : O = 1 \/ O = 2) : - Nx.half B <= Nx.nv a B O /\ Nx.nv a B O <= Nx.half B - 1 := by
 obtain ⟨_, h2, _, h4⟩ := half_of hb hb'
 have hg : ¬ Nx.nbad B O := by unfold Nx.nbad; omega
 have p0 := Int.emod_nonneg (a + Nx.half B) (b := Nx.full B) (by omega)
 have p1 := Int.emod_lt_of_pos (a + Nx.half B) (b := Nx.full B) (by omega)
 unfold Nx.nv
 simp only [if_neg hg]
 (repeat' split) <;> omega

theorem fv_nv (K B F R O a : Int) (t : tv K B F R O = true) : fv K B F R O (Nx.nv a B O) 1 = true := by
 obtain ⟨k1, k2, k3, k4, k5, k6, k7, k8⟩ := tv_parts t
 obtain ⟨h0, h1⟩ := nv_range a B O k2 k3 k8
 unfold fv
 rw [t, Bool.true_and]
 exact decide_eq_true ⟨rfl, h0, h1⟩
end Go.Proofs.YteaaikmejacpaaaGreatDoor.Fx

namespace Go.Proofs.YteaaikmejacpaaaGreatDoor.Fr
open Go.ChangeShapes Go.WideShapes Go.ChangeAt Go.RowKit
set_option linter.unusedVariables false
set_option linter.unusedSimpArgs false
theorem new_valid (n d : Int) (h : newE n d = 0) : vld (newN n d) (newD n d) = true := by
 have hd : d ≠ 0 := by
  intro h0; subst h0; revert h; unfold newE; rw [if_pos rfl]; decide
 unfold newE at h
 rw [if_neg hd] at h
 unfold newN newD
 rw [if_neg hd, if_neg hd]
 obtain ⟨m, hm, m0⟩ : ∃ m, (if n < 0 then -n else n) = m /\ 0 <= m := ⟨_, rfl, by split <;> omega⟩
 obtain ⟨c, hc, c0⟩ : ∃ c, (if d < 0 then -d else d) = c /\ 0 < c := ⟨_, rfl, by split <;> omega⟩
 rw [hm, hc] at h ⊢
 generalize (decide (n < 0) != decide (d < 0)) = s
 obtain ⟨g0, g1, a0, a1, b0, b1⟩ := gcd_facts m c m0 c0
 have hcop : Int.gcd (m / (Int.gcd m c : Int)) (c / (Int.gcd m c : Int)) = 1 := by
  rw [Int.gcd_ediv (Int.gcd_dvd_left m c) (Int.gcd_dvd_right m c), Int.natAbs_natCast, Nat.div_self (by omega)]
 unfold lowE at h
 unfold lowN lowD
 have hk : ¬ (2147483647 < m / (Int.gcd m c : Int) \/ 2147483647 < c / (Int.gcd m c : Int)) := by
  intro hk; rw [if_pos hk] at h; revert h; decide
 rw [if_neg hk, if_neg hk]
 unfold vld
 rw [decide_eq_true_eq]
 cases s
 ·exact ⟨by omega, by omega, by simp only [Bool.false_eq_true, ↓reduceIte]; omega, by simp only [Bool.false_eq_true, ↓reduceIte]; omega, by simpa using hcop⟩
 ·exact ⟨by omega, by omega, by simp only [↓reduceIte]; omega, by simp only [↓reduceIte]; omega, by simp only [↓reduceIte]; rw [Int.neg_gcd]; exact hcop⟩

end Go.Proofs.YteaaikmejacpaaaGreatDoor.Fr

namespace Go.Proofs.YteaaikmejacpaaaGreatDoor.Sh
open Go.ChangeShapes Go.WideShapes Go.ChangeAt Go.RowKit
set_option maxRecDepth 8000
set_option linter.unusedVariables false
set_option linter.unusedSimpArgs false

def slE (zs : List Int) (ax fr tt : Int) : Int := if (vE zs != 0) = true then vE zs else if ax < 0 \/ (zs.length : Int) <= ax then 11 else if fr < 0 \/ tt <= fr \/ zs.getD ax.toNat 0 < tt then 12 else 0
def slL (zs : List Int) (ax fr tt : Int) : List Int := if (vE zs != 0) = true then [] else if ax < 0 \/ (zs.length : Int) <= ax then [] else if fr < 0 \/ tt <= fr \/ zs.getD ax.toNat 0 < tt then [] else zs.set ax.toNat (tt - fr)
theorem el_le {zs : List Int} (h : vE zs = 0) {k : Nat} (hk : k < zs.length) : zs.getD k 0 <= 4096 := by
 obtain ⟨_, hl, _, hS, hD⟩ := valid_of h
 have h1 := (hD k).2
 rw [drop_cons hk] at h1
 change sp (zs.drop (k + 1)) * zs.getD k 0 <= 4096 at h1
 have h2 := (hD (k + 1)).1
 have h3 := pos_of hl hk
 have := Int.mul_le_mul_of_nonneg_right h2 (by omega : 0 <= zs.getD k 0)
 omega
set_option maxHeartbeats 4000000 in
theorem c29_v (p : Option Addr) (zs : List Int) (c : Nat) (ax fr tt : Int) (w : World) (hn : zs.length <= maxLen) (RA : Hid (SlI w p zs)) (hv : (vE zs != 0) = true) :
  Calls Tryz.prog 70 #[.slice p zs.length c, .int .i64 ax, .int .i64 fr, .int .i64 tt] w (QW [] (vE zs) w) := by
 have C := Lib.hid (c14 p zs c w hn RA)
 generalize vE zs = e at *
 go_enter Tryz.func70, Tryz.ntmps70
 go_wp2_with (go_at_call 47; refine (C.out).mono ?_; rintro e w' ⟨rfl, rfl⟩)
 refine bodyPost_ret (v := .tuple #[.slice none 0 0, .int .i64 e]) (by simp [results, Tryz.results70, go_sem]) rfl ⟨_, rfl, Below.refl _ _, World.ownsRow_nil _ _ _ _⟩
set_option maxHeartbeats 4000000 in
theorem c29_a (p : Option Addr) (zs : List Int) (c : Nat) (ax fr tt : Int) (w : World) (hn : zs.length <= maxLen) (RA : Hid (SlI w p zs)) (hv : vE zs = 0) (ha : ax < 0 \/ (zs.length : Int) <= ax) :
  Calls Tryz.prog 70 #[.slice p zs.length c, .int .i64 ax, .int .i64 fr, .int .i64 tt] w (QW [] 11 w) := by
 have C := Lib.hid (c14 p zs c w hn RA)
 rw [hv] at C
 clear hv
 generalize zs.length = n at *
 by_cases h : ax < 0
 ·have k1 : decide (ax < 0) = true := by simpa using h
  clear ha h
  go_enter Tryz.func70, Tryz.ntmps70
  go_wp2_with (go_at_call 47; refine (C.out).mono ?_; rintro e w' ⟨rfl, rfl⟩)
  refine bodyPost_ret (v := .tuple #[.slice none 0 0, .int .i64 11]) (by simp [results, Tryz.results70, go_sem]) rfl ⟨_, rfl, Below.refl _ _, World.ownsRow_nil _ _ _ _⟩
 ·have k1 : decide (ax < 0) = false := by simpa using h
  have k2 : decide ((n : Int) <= ax) = true := by simp <;> omega
  clear ha h
  go_enter Tryz.func70, Tryz.ntmps70
  go_wp2_with (go_at_call 47; refine (C.out).mono ?_; rintro e w' ⟨rfl, rfl⟩)
  refine bodyPost_ret (v := .tuple #[.slice none 0 0, .int .i64 11]) (by simp [results, Tryz.results70, go_sem]) rfl ⟨_, rfl, Below.refl _ _, World.ownsRow_nil _ _ _ _⟩
set_option maxHeartbeats 4000000 in
theorem c29_b (p : Option Addr) (zs : List Int) (c : Nat) (k : Nat) (fr tt : Int) (w : World) (hn : zs.length <= maxLen) (RA : Hid (SlI w p zs)) (hv : vE zs = 0) (hk : k < zs.length) (ha : fr < 0 \/ tt <= fr \/ zs.getD k 0 < tt) :
  Calls Tryz.prog 70 #[.slice p zs.length c, .int .i64 (k : Int), .int .i64 fr, .int .i64 tt] w (QW [] 12 w) := by
 have C := Lib.hid (c14 p zs c w hn RA)
 rw [hv] at C
 obtain ⟨h6, _⟩ := valid_of hv
 obtain ⟨b, o, rfl, hc⟩ := RA.out k hk
 generalize zs.getD k 0 = z at *
 clear hv
 have q0 : (0 : Int) <= k := by omega
 have q1 : (k : Int) < zs.length := by omega
 have k1 : decide ((k : Int) < 0) = false := by simp <;> omega
 have k2 : decide ((zs.length : Int) <= k) = false := by simp <;> omega
 have k3 : decide (zs.length <= k) = false := by simp <;> omega
 generalize zs.length = n at *
 by_cases h : fr < 0
 ·have m1 : decide (fr < 0) = true := by simpa using h
  clear ha h
  go_enter Tryz.func70, Tryz.ntmps70
  go_wp2_with (go_at_call 47; refine (C.out).mono ?_; rintro e w' ⟨rfl, rfl⟩)
  refine bodyPost_ret (v := .tuple #[.slice none 0 0, .int .i64 12]) (by simp [results, Tryz.results70, go_sem]) rfl ⟨_, rfl, Below.refl _ _, World.ownsRow_nil _ _ _ _⟩
 have m1 : decide (fr < 0) = false := by simpa using h
 by_cases h2 : tt <= fr
 ·have m2 : decide (tt <= fr) = true := by simpa using h2
  clear ha h
  go_enter Tryz.func70, Tryz.ntmps70
  go_wp2_with (go_at_call 47; refine (C.out).mono ?_; rintro e w' ⟨rfl, rfl⟩)
  refine bodyPost_ret (v := .tuple #[.slice none 0 0, .int .i64 12]) (by simp [results, Tryz.results70, go_sem]) rfl ⟨_, rfl, Below.refl _ _, World.ownsRow_nil _ _ _ _⟩
 have m2 : decide (tt <= fr) = false := by simpa using h2
 have m3 : decide (z < tt) = true := by simp <;> omega
 clear ha h h2
 go_enter Tryz.func70, Tryz.ntmps70
 go_wp2_with (go_at_call 47; refine (C.out).mono ?_; rintro e w' ⟨rfl, rfl⟩)
 refine bodyPost_ret (v := .tuple #[.slice none 0 0, .int .i64 12]) (by simp [results, Tryz.results70, go_sem]) rfl ⟨_, rfl, Below.refl _ _, World.ownsRow_nil _ _ _ _⟩
end Go.Proofs.YteaaikmejacpaaaGreatDoor.Sh

namespace Go.Proofs.YteaaikmejacpaaaGreatDoor.Sh
open Go.ChangeShapes Go.WideShapes Go.ChangeAt Go.RowKit
set_option maxRecDepth 8000
set_option linter.unusedVariables false
set_option linter.unusedSimpArgs false

set_option maxHeartbeats 1000000 in
theorem c29_ok (p : Option Addr) (zs : List Int) (c : Nat) (k : Nat) (fr tt : Int) (w : World) (hn : zs.length <= maxLen) (RA : Hid (SlI w p zs)) (hv : vE zs = 0) (hk : k < zs.length) (f0 : 0 <= fr) (f1 : fr < tt) (f2 : tt <= zs.getD k 0) :
  Calls Tryz.prog 70 #[.slice p zs.length c, .int .i64 (k : Int), .int .i64 fr, .int .i64 tt] w (QW (zs.set k (tt - fr)) 0 w) := by
 have C := Lib.hid (c14 p zs c w hn RA)
 rw [hv] at C
 obtain ⟨h6, _⟩ := valid_of hv
 have hle := el_le hv hk
 obtain ⟨b, o, rfl, hc⟩ := RA.out k hk
 have C48 := Lib.hid (c48 b o zs c w hn (by omega) RA)
 generalize zs.getD k 0 = z at *
 clear hv
 have q0 : (0 : Int) <= k := by omega
 have q1 : (k : Int) < zs.length := by omega
 have k1 : decide ((k : Int) < 0) = false := by simp <;> omega
 have k2 : decide ((zs.length : Int) <= k) = false := by simp <;> omega
 have k3 : decide (zs.length <= k) = false := by simp <;> omega
 have m1 : decide (fr < 0) = false := by simp <;> omega
 have m2 : decide (tt <= fr) = false := by simp <;> omega
 have m3 : decide (z < tt) = false := by simp <;> omega
 obtain ⟨n, hN⟩ : ∃ n, zs.length = n := ⟨_, rfl⟩
 have HN := Lib.hid hN
 rw [hN] at C C48 q1 k2 k3 hk h6 ⊢
 clear hN hn
 go_enter Tryz.func70, Tryz.ntmps70
 go_wp2_with (go_at_call 47; refine (C.out).mono ?_; rintro e w' ⟨rfl, rfl⟩)
 refine (C48.out).mono ?_
 rintro e w1 ⟨v, rfl, KB, O⟩
 rw [HN.out] at O
 obtain ⟨g, cap, rfl, gb, cle⟩ := own_form O (by omega)
 have oc := cells_of O (j := k) (by omega) HN.out
 have of := O.frozenAt k
 have oS := Lib.hid (O.stored k (.int .i64 (tt - fr))).1
 clear O C C48
 go_wp2
 refine bodyPost_ret (v := .tuple #[.slice (some ⟨g, 0, none⟩) n cap, .int .i64 0]) (by simp [results, Tryz.results70, go_sem]) rfl ⟨_, rfl, ?_, ?_⟩
 ·exact Below.setCell KB gb _
 ·rw [List.length_set, HN.out, List.map_set]
  exact oS.out
end Go.Proofs.YteaaikmejacpaaaGreatDoor.Sh

namespace Go.Proofs.YteaaikmejacpaaaGreatDoor.Sh
open Go.ChangeShapes Go.WideShapes Go.ChangeAt Go.RowKit
set_option maxRecDepth 8000
set_option linter.unusedVariables false
set_option linter.unusedSimpArgs false
theorem c29 (p : Option Addr) (zs : List Int) (c : Nat) (ax fr tt : Int) (w : World) (hn : zs.length <= maxLen) (RA : Hid (SlI w p zs)) :
  Calls Tryz.prog 70 #[.slice p zs.length c, .int .i64 ax, .int .i64 fr, .int .i64 tt] w (QW (slL zs ax fr tt) (slE zs ax fr tt) w) := by
 unfold slL slE
 by_cases h1 : (vE zs != 0) = true
 ·rw [if_pos h1, if_pos h1]; exact c29_v p zs c ax fr tt w hn RA h1
 rw [if_neg h1, if_neg h1]
 have hv : vE zs = 0 := by simpa using h1
 by_cases h2 : ax < 0 \/ (zs.length : Int) <= ax
 ·rw [if_pos h2, if_pos h2]; exact c29_a p zs c ax fr tt w hn RA hv h2
 rw [if_neg h2, if_neg h2]
 obtain ⟨k, rfl⟩ : ∃ k : Nat, ax = k := ⟨ax.toNat, by omega⟩
 rw [Int.toNat_natCast]
 by_cases h3 : fr < 0 \/ tt <= fr \/ zs.getD k 0 < tt
 ·rw [if_pos h3, if_pos h3]; exact c29_b p zs c k fr tt w hn RA hv (by omega) h3
 rw [if_neg h3, if_neg h3]
 exact c29_ok p zs c k fr tt w hn RA hv (by omega) (by omega) (by omega) (by omega)
end Go.Proofs.YteaaikmejacpaaaGreatDoor.Sh

namespace Go.Proofs.YteaaikmejacpaaaGreatDoor.Te
open Go.ChangeShapes Go.WideShapes Go.ChangeAt Go.RowKit
open Va
set_option maxRecDepth 8000
set_option linter.unusedVariables false
set_option linter.unusedSimpArgs false

theorem fe_congr {g h : Nat -> Int} : ∀ (n i : Nat), (∀ j, i <= j -> j < i + n -> g j = h j) -> fe g n i = fe h n i
 | 0, i, _ => rfl
 | n + 1, i, H => by
  unfold fe
  rw [H i (by omega) (by omega), fe_congr n (i + 1) (fun j a b => H j (by omega) (by omega))]
end Go.Proofs.YteaaikmejacpaaaGreatDoor.Te

namespace Go.Proofs.YteaaikmejacpaaaGreatDoor.Te
open Go.ChangeShapes Go.WideShapes Go.ChangeAt Go.RowKit
open Fx Va Sh
set_option maxRecDepth 8000
set_option linter.unusedVariables false
set_option linter.unusedSimpArgs false

/-- A block of a part along an axis. -/
def slB (vs : List (Int × Int)) (my af f t i : Nat) : List (Int × Int) := (vs.drop (i * my * af + f * af)).take (t * af - f * af)
/-- The elements of a part along an axis: the first blocks. -/
def slV (vs : List (Int × Int)) (my af f t n : Nat) : List (Int × Int) := (List.range n).flatMap (slB vs my af f t)
theorem slV_zero (vs : List (Int × Int)) (my af f t : Nat) : slV vs my af f t 0 = [] := rfl
theorem slV_succ (vs : List (Int × Int)) (my af f t n : Nat) : slV vs my af f t (n + 1) = slV vs my af f t n ++ slB vs my af f t n := by
 unfold slV
 rw [List.range_succ, List.flatMap_append]
 simp
theorem slB_hi {my af t i bf m : Nat} (ht : t <= my) (hi : i < bf) (hm : m = bf * my * af) : i * my * af + t * af <= m := by
 have h1 : i * my * af + t * af <= i * my * af + my * af := Nat.add_le_add_left (Nat.mul_le_mul_right _ ht) _
 have h2 : i * my * af + my * af = (i + 1) * my * af := by rw [Nat.add_mul, Nat.add_mul, Nat.one_mul]
 have h3 : (i + 1) * my * af <= bf * my * af := Nat.mul_le_mul_right _ (Nat.mul_le_mul_right _ hi)
 omega
theorem slB_len {vs : List (Int × Int)} {my af f t i bf : Nat} (hf : f <= t) (ht : t <= my) (hi : i < bf) (hm : vs.length = bf * my * af) : (slB vs my af f t i).length = t * af - f * af := by
 have h := slB_hi (t := t) ht hi hm
 have h2 : f * af <= t * af := Nat.mul_le_mul_right _ hf
 unfold slB
 rw [List.length_take, List.length_drop]; omega
theorem slV_len {vs : List (Int × Int)} {my af f t bf : Nat} (hf : f <= t) (ht : t <= my) (hm : vs.length = bf * my * af) : ∀ n, n <= bf -> (slV vs my af f t n).length = n * (t * af - f * af)
 | 0, _ => by rw [slV_zero, Nat.zero_mul]; rfl
 | n + 1, h => by rw [slV_succ, List.length_append, slV_len hf ht hm n (by omega), slB_len hf ht (by omega) hm, Nat.succ_mul]
/-- The numbers of one block of a part. -/
theorem sl_nums {my af f t i bf m : Nat} (hf : f < t) (ht : t <= my) (hi : i < bf) (ha : 1 <= af) (hm : m = bf * my * af) (m4 : m <= 4096) : ∃ e1 e2 g1 g2 x y : Nat, (i : Int) * (my : Int) = e1 /\ (e1 : Int) * (af : Int) = e2 /\ (f : Int) * (af : Int) = g1 /\ (t : Int) * (af : Int) = g2 /\ (e2 : Int) + g1 = x /\ (e2 : Int) + g2 = y /\ e1 <= e2 /\ e2 <= x /\ g1 <= x /\ g2 <= y /\ x < y /\ y <= m /\ x = i * my * af + f * af /\ y - x = t * af - f * af := by
 have h := slB_hi (t := t) ht hi hm
 have h2 : f * af < t * af := Nat.mul_lt_mul_of_pos_right hf (by omega)
 refine ⟨i * my, i * my * af, f * af, t * af, i * my * af + f * af, i * my * af + t * af, ?_, ?_, ?_, ?_, ?_, ?_, Nat.le_mul_of_pos_right _ (by omega), Nat.le_add_right _ _, Nat.le_add_left _ _, Nat.le_add_left _ _, by omega, h, rfl, by omega⟩ <;> push_cast <;> rfl

end Go.Proofs.YteaaikmejacpaaaGreatDoor.Te

namespace Go.Proofs.YteaaikmejacpaaaGreatDoor.Te
open Go.ChangeShapes Go.WideShapes Go.ChangeAt Go.RowKit
open Fx Va Sh
set_option maxRecDepth 8000
set_option linter.unusedVariables false
set_option linter.unusedSimpArgs false

theorem flV_app (a b : List (Int × Int)) : flV (a ++ b) = flV a ++ flV b := by unfold flV; exact List.flatMap_append
theorem one_V (l : List (Int × Int)) : ∀ u ∈ flV l, u.oneCell' = true := fun u hu => by
 obtain ⟨z, rfl⟩ := flV_in hu
 rfl
theorem sl_cellsV {w : World} {b o x n : Nat} {vs : List (Int × Int)} (h : SlV w (some ⟨b, o, none⟩) vs) (hx : x + n <= vs.length) : ∀ (j : Nat) (u : Value), (flV ((vs.drop x).take n))[j]? = some u -> w.cell? ((⟨b, o + x * 2, none⟩ : Addr).add j) = some u := by
 intro j u hj
 have hl := (List.getElem?_eq_some_iff.1 hj).1
 rw [flV_len, List.length_take, List.length_drop] at hl
 have hk : j / 2 < ((vs.drop x).take n).length := by rw [List.length_take, List.length_drop]; omega
 obtain ⟨g0, g1⟩ := flV_get _ _ hk
 have e : ((vs.drop x).take n).getD (j / 2) (0, 0) = vs.getD (x + j / 2) (0, 0) := by
  rw [List.getD_eq_getElem?_getD, List.getD_eq_getElem?_getD, List.getElem?_take_of_lt (by omega), List.getElem?_drop]
 rw [e] at g0 g1
 obtain ⟨b', o', ee, c0, c1⟩ := h (x + j / 2) (by omega)
 cases ee
 rw [add_at]
 by_cases hp : j % 2 = 0
 ·rw [show j / 2 * 2 = j by omega] at g0
  rw [g0] at hj
  rw [show o + x * 2 + j = o + (x + j / 2) * 2 by omega, c0]
  exact hj
 ·rw [show j / 2 * 2 + 1 = j by omega] at g1
  rw [g1] at hj
  rw [show o + x * 2 + j = o + (x + j / 2) * 2 + 1 by omega, c1]
  exact hj
theorem sl_ok {zs : List Int} {a f t : Nat} (hv : vE zs = 0) (ha : a < zs.length) (hf : f < t) (ht : (t : Int) <= zs.getD a 0) : slE zs a f t = 0 /\ slL zs a f t = zs.set a ((t : Int) - f) := by
 unfold slE slL
 have h1 : ¬ (vE zs != 0) = true := by rw [hv]; decide
 have h2 : ¬ ((a : Int) < 0 \/ (zs.length : Int) <= a) := by omega
 have h3 : ¬ ((f : Int) < 0 \/ (t : Int) <= f \/ zs.getD (a : Int).toNat 0 < t) := by rw [Int.toNat_natCast]; omega
 rw [if_neg h1, if_neg h2, if_neg h3, if_neg h1, if_neg h2, if_neg h3, Int.toNat_natCast]
 exact ⟨rfl, rfl⟩

set_option maxRecDepth 100000 in
set_option maxHeartbeats 2000000 in
theorem ts_c (K B F R O : Int) (p : Option Addr) (zs : List Int) (c : Nat) (q : Option Addr) (vs : List (Int × Int)) (d : Nat) (a f t : Nat) (w : World) (b0 : -9223372036854775808 <= B) (b1 : B <= 9223372036854775807) (hn : zs.length <= maxLen) (hm : vs.length <= maxLen) (RA : Hid (SlI w p zs)) (RB : Hid (SlV w q vs)) (ht : tE K B F R O zs vs = 0) (ha : a < zs.length) (hc : zs.length <= c) (hc2 : c <= 9223372036854775807) (hd : vs.length <= d) (hd2 : d <= 9223372036854775807) (hf : f < t) (htt : (t : Int) <= zs.getD a 0) (bf my af : Nat) (hbf : sp (zs.take a) = bf) (hmy : zs.getD a 0 = my) (haf : sp (zs.drop (a + 1)) = af) (q1 : 1 <= bf) (q2 : 1 <= my) (q3 : 1 <= af) (hmm3 : vs.length = bf * my * af) (q5 : bf * af <= vs.length) (q6 : my <= vs.length) (q7 : bf <= vs.length) (q8 : af <= vs.length) :
  Calls Tryz.prog 35 #[Tn K B F R O p zs.length c q vs.length d, .int .i64 a, .int .i64 f, .int .i64 t] w (TRes K B F R O (zs.set a ((t : Int) - f)) (slV vs my af f t bf) 0 w) := by
 have TV0 := fun w h1 h2 => tval K B F R O p zs c q vs d w b0 b1 hn hm h1 h2
 rw [ht] at TV0
 obtain ⟨-, hv, tl, -⟩ := tE_ok ht
 obtain ⟨h6, -, -, hsp, -⟩ := valid_of hv
 obtain ⟨se, sl⟩ := sl_ok hv ha hf htt
 have SP0 := fun w h1 => c29 p zs c a f t w hn h1
 unfold QW at SP0
 rw [se, sl, List.length_set] at SP0
 have SP := Lib.hid SP0
 have AR0 := fun w h => tar p zs c a w ha hc hc2 hv h
 rw [hbf, haf] at AR0
 have AR := Lib.hid AR0
 have m4 : vs.length <= 4096 := by omega
 have htm : t <= my := by omega
 have NM := Lib.hid fun (j : Nat) (hj : j < bf) => sl_nums hf htm hj q3 hmm3 m4
 have LN := Lib.hid (slV_len (vs := vs) (Nat.le_of_lt hf) htm hmm3)
 have LB := Lib.hid fun (j : Nat) (hj : j < bf) => slB_len (vs := vs) (Nat.le_of_lt hf) htm hj hmm3
 obtain ⟨bb, oo, hpp, hcell⟩ := RA.out a ha
 rw [hmy] at hcell
 have HCELL := Lib.hid hcell
 have hbb : bb < w.heap.size := World.block_lt_of_cell? _ _ hcell
 subst hpp
 obtain ⟨vb, vo, hqq, -⟩ := RB.out 0 (by omega)
 subst hqq
 have HLE : Hid (∀ j, j <= bf -> (slV vs my af f t j).length <= vs.length) := Lib.hid fun j hj => by
  rw [LN.out j hj, hmm3]
  have h1 : t * af - f * af <= my * af := Nat.le_trans (Nat.sub_le _ _) (Nat.mul_le_mul_right _ htm)
  have h2 : j * (t * af - f * af) <= bf * (my * af) := Nat.mul_le_mul hj h1
  rwa [<- Nat.mul_assoc] at h2
 obtain ⟨m, hmm⟩ : ∃ m, vs.length = m := ⟨_, rfl⟩
 have HM := Lib.hid hmm
 rw [hmm] at TV0 NM HLE hm tl hmm3 q5 q6 q7 q8 m4 hd ⊢
 have TV := Lib.hid TV0
 have B0 : Hid (Below w.heap.size w ((w.alloc (Obj.cells #[Value.int .i64 K, Value.int .i64 B, Value.int .i64 F, Value.int .i64 R, Value.int .i64 O, Value.slice (some ⟨bb, oo, none⟩) zs.length c, Value.slice (some ⟨vb, vo, none⟩) m d] 27)).alloc (Obj.cells #[Value.int .i64 0, Value.int .i64 0, Value.int .i64 0, Value.int .i64 0, Value.int .i64 0, Value.slice none 0 0, Value.slice none 0 0] 27))) := Lib.hid (((Below.refl _ _).alloc (Nat.le_refl _) _).alloc (by simp) _)
 have T0 : Hid (B7 ((w.alloc (Obj.cells #[Value.int .i64 K, Value.int .i64 B, Value.int .i64 F, Value.int .i64 R, Value.int .i64 O, Value.slice (some ⟨bb, oo, none⟩) zs.length c, Value.slice (some ⟨vb, vo, none⟩) m d] 27)).alloc (Obj.cells #[Value.int .i64 0, Value.int .i64 0, Value.int .i64 0, Value.int .i64 0, Value.int .i64 0, Value.slice none 0 0, Value.slice none 0 0] 27)) (w.heap.size) (.int .i64 K) (.int .i64 B) (.int .i64 F) (.int .i64 R) (.int .i64 O) (.slice (some ⟨bb, oo, none⟩) zs.length c) (.slice (some ⟨vb, vo, none⟩) m d)) := Lib.hid ((B7.new w _ (.int .i64 K) (.int .i64 B) (.int .i64 F) (.int .i64 R) (.int .i64 O) (.slice (some ⟨bb, oo, none⟩) zs.length c) (.slice (some ⟨vb, vo, none⟩) m d)).alloc _)
 have R0 : Hid (B7 ((w.alloc (Obj.cells #[Value.int .i64 K, Value.int .i64 B, Value.int .i64 F, Value.int .i64 R, Value.int .i64 O, Value.slice (some ⟨bb, oo, none⟩) zs.length c, Value.slice (some ⟨vb, vo, none⟩) m d] 27)).alloc (Obj.cells #[Value.int .i64 0, Value.int .i64 0, Value.int .i64 0, Value.int .i64 0, Value.int .i64 0, Value.slice none 0 0, Value.slice none 0 0] 27)) (w.heap.size + 1) (.int .i64 0) (.int .i64 0) (.int .i64 0) (.int .i64 0) (.int .i64 0) (.slice none 0 0) (.slice none 0 0)) := Lib.hid (by have h := B7.new (w.alloc (Obj.cells #[Value.int .i64 K, Value.int .i64 B, Value.int .i64 F, Value.int .i64 R, Value.int .i64 O, Value.slice (some ⟨bb, oo, none⟩) zs.length c, Value.slice (some ⟨vb, vo, none⟩) m d] 27)) 27 (.int .i64 0) (.int .i64 0) (.int .i64 0) (.int .i64 0) (.int .i64 0) (.slice none 0 0) (.slice none 0 0); simpa using h)
 clear TV0
 have HM3 := Lib.hid hmm3
 have a0 : (0 : Int) <= a := by omega
 have a1 : (a : Int) < zs.length := by omega
 have a2 : (a : Int) <= c := by omega
 have h6' := h6
 clear ht hm hmm hmm3 tl SP0 AR0 hv hbf hmy haf hsp hcell se sl htt LN
 unfold Tn at *
 go_enter Tryz.func35, Tryz.ntmps35
 go_upto_region 4 with (go_at_call 20; (with_reducible refine (TV.out _ (Lib.hid (SlI.keep B0.out RA.out)) (Lib.hid (SlV.below RB.out B0.out))).mono ?_); rintro e w1 ⟨rfl, hb⟩; have KB := Lib.hid (B0.out.trans (hb.mono B0.out.size)); have TB := Lib.hid (B7.keep hb (by simp <;> omega) T0.out); have RB9 := Lib.hid (B7.keep hb (by simp <;> omega) R0.out); obtain ⟨⟨c0, c1, c2, c3, c4, c5, c6⟩, -⟩ := TB.out; obtain ⟨⟨z0, z1, z2, z3, z4, z5, z6⟩, ⟨f0, f1, f2, f3, f4, f5, f6⟩⟩ := RB9.out; have lr : w.heap.size + 1 < w1.heap.size := RB9.out.lt; clear hb)
 have HLR := Lib.hid lr
 go_upto_region 10 with (first | (go_at_call 20; (with_reducible refine (TV.out _ (Lib.hid (SlI.keep B0.out RA.out)) (Lib.hid (SlV.below RB.out B0.out))).mono ?_); rintro e w1 ⟨rfl, hb⟩; have KB := Lib.hid (B0.out.trans (hb.mono B0.out.size)); have TB := Lib.hid (B7.keep hb (by simp <;> omega) T0.out); have RB9 := Lib.hid (B7.keep hb (by simp <;> omega) R0.out); obtain ⟨⟨c0, c1, c2, c3, c4, c5, c6⟩, -⟩ := TB.out; obtain ⟨⟨z0, z1, z2, z3, z4, z5, z6⟩, ⟨f0, f1, f2, f3, f4, f5, f6⟩⟩ := RB9.out; have lr : w.heap.size + 1 < w1.heap.size := RB9.out.lt; clear hb) | (go_at_call 70; (with_reducible refine (SP.out _ (Lib.hid (SlI.keep KB.out RA.out))).mono ?_); rintro e w2 ⟨v2, rfl, hb2, O2⟩; have KB2 := Lib.hid (KB.out.trans (hb2.mono KB.out.size)); have TB2 := Lib.hid (B7.keep hb2 TB.out.lt TB.out); have RB2 := Lib.hid (B7.keep hb2 RB9.out.lt RB9.out); have lr : w.heap.size + 1 < w2.heap.size := RB2.out.lt; obtain ⟨⟨z0, z1, z2, z3, z4, z5, z6⟩, ⟨f0, f1, f2, f3, f4, f5, f6⟩⟩ := RB2.out; obtain ⟨⟨c0, c1, c2, c3, c4, c5, c6⟩, -⟩ := TB2.out; have hs2 := hb2.size; have lt2 : w.heap.size < w2.heap.size := TB2.out.lt; obtain ⟨pd, cd, rfl⟩ := own_slice O2; have HO2 := Lib.hid O2; clear hb2 O2) | (go_at_call 64; (with_reducible refine (AR.out _ (Lib.hid (SlI.keep (KB2.out.alloc KB2.out.size (Obj.cells #[Value.int .i64 K, Value.int .i64 B, Value.int .i64 F, Value.int .i64 R, Value.int .i64 O, Value.slice pd zs.length cd, Value.slice none 0 0] 27)) RA.out))).mono ?_); rintro e w5 ⟨rfl, hb5⟩; have hW : Below w2.heap.size w2 (w2.alloc (Obj.cells #[Value.int .i64 K, Value.int .i64 B, Value.int .i64 F, Value.int .i64 R, Value.int .i64 O, Value.slice pd zs.length cd, Value.slice none 0 0] 27)) := (Below.refl _ _).alloc (Nat.le_refl _) (Obj.cells #[Value.int .i64 K, Value.int .i64 B, Value.int .i64 F, Value.int .i64 R, Value.int .i64 O, Value.slice pd zs.length cd, Value.slice none 0 0] 27); have hX := hW.trans (hb5.mono hW.size); have T5 := Lib.hid (B7.keep hX TB2.out.lt TB2.out); have R5 := Lib.hid (B7.keep hX RB2.out.lt RB2.out); have D5 := Lib.hid (B7.keep hb5 (by simp) (B7.new w2 27 (.int .i64 K) (.int .i64 B) (.int .i64 F) (.int .i64 R) (.int .i64 O) (.slice pd zs.length cd) (.slice none 0 0))); have P5 := Lib.hid (own_belowE HO2.out hX); have K5 := Lib.hid (KB2.out.trans (hX.mono KB2.out.size)); have X5 := Lib.hid hX; have s5 : w2.heap.size + 1 <= w5.heap.size := (by have h := hb5.size; simp at h; omega); clear hb5 hW hX))
 have hpn : ∀ g : Nat, w2.heap.size <= g -> ((Value.slice pd zs.length cd).ownBlock = none \/ (Value.slice pd zs.length cd).ownBlock ≠ some g) := fun g hg => by
  cases hb : (Value.slice pd zs.length cd).ownBlock with
  | none => exact .inl rfl
  | some q => exact .inr (fun e => by have e' : q = g := Option.some.inj e; have := (HO2.out.lt _ hb).2; omega)
 have HPN := Lib.hid hpn
 clear hpn
 have HB0 : Hid ((B7 w5 (w.heap.size) (.int .i64 K) (.int .i64 B) (.int .i64 F) (.int .i64 R) (.int .i64 O) (.slice (some ⟨bb, oo, none⟩) zs.length c) (.slice (some ⟨vb, vo, none⟩) m d)) /\ (B7 w5 (w.heap.size + 1) (.int .i64 0) (.int .i64 0) (.int .i64 0) (.int .i64 0) (.int .i64 0) (.slice none 0 0) (.slice none 0 0)) /\ (B7 w5 (w2.heap.size) (.int .i64 K) (.int .i64 B) (.int .i64 F) (.int .i64 R) (.int .i64 O) (.slice pd zs.length cd) (.slice none 0 0)) /\ w5.ownsRow w1.heap.size 3 1 (.slice pd zs.length cd) zs.length ((zs.set a ((t : Int) - f)).map (Value.int .i64)) /\ w5.ownsRow (w2.heap.size + 1) 29 2 (.slice none 0 0) 0 (flV (slV vs my af f t 0)) /\ Below w.heap.size w w5 /\ w2.heap.size + 1 <= w5.heap.size) := Lib.hid ⟨T5.out, R5.out, D5.out, P5.out, World.ownsRow_nil _ _ _ _, K5.out, s5⟩
 clear T5 R5 D5 P5 K5 X5 s5 TB2 RB2 KB2 HO2 TB RB9 KB z0 f0 z1 f1 z2 f2 z3 f3 z4 f4 z5 f5 z6 f6 c0 c1 c2 c3 c4 c5 c6 lr
 have lw1 : w.heap.size + 1 < w1.heap.size := HLR.out
 go_loopw [49] (fun iv wr => ∃ (j : Nat) (qv : Option Addr) (n9 dv : Nat), iv = .int .i64 (j : Int) /\ j <= bf /\ Hid ((slV vs my af f t j).length = n9) /\ Hid ((B7 wr (w.heap.size) (.int .i64 K) (.int .i64 B) (.int .i64 F) (.int .i64 R) (.int .i64 O) (.slice (some ⟨bb, oo, none⟩) zs.length c) (.slice (some ⟨vb, vo, none⟩) m d)) /\ (B7 wr (w.heap.size + 1) (.int .i64 0) (.int .i64 0) (.int .i64 0) (.int .i64 0) (.int .i64 0) (.slice none 0 0) (.slice none 0 0)) /\ (B7 wr (w2.heap.size) (.int .i64 K) (.int .i64 B) (.int .i64 F) (.int .i64 R) (.int .i64 O) (.slice pd zs.length cd) (.slice qv n9 dv)) /\ wr.ownsRow w1.heap.size 3 1 (.slice pd zs.length cd) zs.length ((zs.set a ((t : Int) - f)).map (Value.int .i64)) /\ wr.ownsRow (w2.heap.size + 1) 29 2 (.slice qv n9 dv) n9 (flV (slV vs my af f t j)) /\ Below w.heap.size w wr /\ w2.heap.size + 1 <= wr.heap.size)) (fun iv _ => bf - (intOf iv).toNat)
 case atStart => exact ⟨0, none, 0, 0, rfl, Nat.zero_le _, Lib.hid rfl, HB0⟩
 case round =>
  obtain ⟨j, qv, n9, dv, rfl, hj, HN, HJ⟩ := hrel
  clear HB0
  obtain ⟨TJ, RJ, DJ, PJ, VJ, KJ, hszr⟩ := HJ.out
  have lDJ := DJ.lt
  by_cases hjb : j < bf
  ·have hj2 : (j : Int) < bf := by omega
   have hj0 : (0 : Int) <= j := by omega
   have hcr := Rg.keep KJ hbb HCELL.out
   obtain ⟨⟨c0, c1, c2, c3, c4, c5, c6⟩, -⟩ := TJ
   obtain ⟨⟨m0, m1, m2, m3, m4, m5, m6⟩, ⟨g0, g1, g2, g3, g4, g5, g6⟩⟩ := DJ
   have TJ := HJ.out.1
   have DJ := HJ.out.2.2.1
   obtain ⟨e1, e2, g1, g2, x, y, p1, p2, p3, p4, p5, p6, o1, o2, o3, o4, o5, o6, o7, o8⟩ := NM.out j hjb
   have be1 : e1 <= 4096 := by omega
   have be2 : e2 <= 4096 := by omega
   have bg1 : g1 <= 4096 := by omega
   have bg2 : g2 <= 4096 := by omega
   have bx : x <= 4096 := by omega
   have bY : y <= 4096 := by omega
   have x0 : (0 : Int) <= x := by omega
   have xy : (x : Int) <= y := by omega
   have yd : (y : Int) <= d := by omega
   have xm : (y : Int) <= m := by omega
   have hne : ¬ d = x := by omega
   have hlb := LB.out j hjb
   have HFL := Lib.hid (show (flV (slB vs my af f t j)).length = (y - x) * 2 by rw [flV_len, hlb, o8])
   have HX := Lib.hid o7
   have hvb : vb < w.heap.size := by
    obtain ⟨b', o', ee, v0, -⟩ := RB.out x (by rw [HM.out]; omega)
    cases ee
    exact World.block_lt_of_cell? _ _ v0
   have HNW : Hid (∀ (k : Nat) (u : Value), (flV (slB vs my af f t j))[k]? = some u -> wr.cell? ((⟨vb, vo + x * 2, none⟩ : Addr).add k) = some u) := Lib.hid (by
    have h := sl_cellsV (x := x) (n := y - x) (SlV.below RB.out KJ) (by rw [HM.out]; omega)
    have e : (vs.drop x).take (y - x) = slB vs my af f t j := by unfold slB; rw [o7, <- o8, o7]
    rw [e] at h
    exact h)
   have HN9 : Hid (n9 + (y - x) <= 4096) := Lib.hid (by
    have h := HLE.out (j + 1) hjb
    rw [slV_succ, List.length_append, hlb, HN.out] at h
    omega)
   obtain ⟨i0, hi, hz0, hz1, hz2⟩ := info_parts infoV
   have HSC := Lib.hid (slV_succ vs my af f t j)
   have HLB := Lib.hid (hlb.trans o8.symm)
   clear o7 o8 hlb o1 o2 o3 o4
   have HP := Lib.hid (And.intro p3 (And.intro p4 (And.intro p5 p6)))
   have hbe1 : (e1 : Int) <= 4096 := by omega
   have hbe2 : (e2 : Int) <= 4096 := by omega
   clear p3 p4 p5 p6
   go_upto_region 13 with fail
   clear p1 p2 hcr
   obtain ⟨p3, p4, p5, p6⟩ := HP.out
   skip
   have w5' : IntKind.i64.wrap (g1 : Int) = g1 := wnI bg1
   have w6' : IntKind.i64.wrap (g2 : Int) = g2 := wnI bg2
   have w7' : IntKind.i64.wrap (x : Int) = x := wnI bx
   have w8' : IntKind.i64.wrap (y : Int) = y := wnI bY
   refine Rk.begin (S := fun wS => wS.cell? ⟨w2.heap.size, 6, none⟩ = some (.slice qv n9 dv) /\ wS.cell? ⟨w.heap.size, 6, none⟩ = some (.slice (some ⟨vb, vo, none⟩) m d) /\ Below wr.heap.size wr wS) 15 (by kernel_rfl) ⟨m6, c6, Below.drew (Below.refl _ _)⟩ (fun hHeld => ?_)
   refine SqR.p 0 ?_
   refine SqR.l [15] 1 ?_
   refine SqR.p 2 ?_
   refine SqR.l [14, 15] 3 ?_
   refine SqR.p 4 ?_
   refine SqR.p 5 ?_
   refine SqR.p 6 ?_
   refine SqR.p 7 ?_
   refine SqR.p 8 ?_
   refine SqR.p 9 ?_
   refine SqR.p 10 ?_
   refine SqR.p 11 ?_
   refine SqR.p 12 ?_
   refine SqR.p 13 ?_
   refine SqR.p 14 ?_
   refine Rk.tail [15, 16, 17] [_, _, _] (by kernel_rfl) (by kernel_rfl) rfl (by decide) ?_
   clear w5' w6' w7' w8' p3 p4 p5 p6
   clear hHeld
   go_wp2_with (at_builtin; refine wpList_append_own _ rfl _ _ 25 rfl (w2.heap.size + 1) 29 i0 (.agg #[.int .i64 0, .int .i64 0]) 2 16 Tryz.underlying25 hi hz0 hz1 hz2 rfl (by decide) _ _ _ rfl VJ.drew ⟨vb, vo + x * 2, none⟩ (y - x) _ (flV (slB vs my af f t j)) rfl HFL.out HNW.out (one_V _) (by unfold maxLen; have := HN9.out; omega) (by have := HN9.out; omega) (by exact hszr) ?_; intro v8 w8 hown8 hgrow _; obtain ⟨qn, dn, rfl⟩ := own_slice hown8; have hrow := row_base VJ; have D8 := Lib.hid ((DJ.drew).grown hgrow (fun e => by have := hrow _ e.symm; omega)); have T8 := Lib.hid ((TJ.drew).grown hgrow (fun e => by have := hrow _ e.symm; omega)); have R8 := Lib.hid ((RJ.drew).grown hgrow (fun e => by have := hrow _ e.symm; omega)); have P8 := Lib.hid ((PJ.drew).kept hgrow (own_apart PJ VJ)); have V8 := Lib.hid hown8; have K8 := Lib.hid ((KJ.drew).grown hgrow (by have := KJ.size; exact this) (fun k e => by have := hrow _ e; omega)); have hs8 := hgrow.size; obtain ⟨⟨m0, m1, m2, m3, m4, m5, m6⟩, ⟨g0, g1, g2, g3, g4, g5, g6⟩⟩ := D8.out; have lD8 := D8.out.lt; clear hown8 hgrow)
   go_roundw
   case rel =>
    have e1 : n9 + (y - x) = (slV vs my af f t (j + 1)).length := by rw [HSC.out, List.length_append, HN.out, HLB.out]
    exact ⟨j + 1, qn, n9 + (y - x), dn, by simp, by omega, Lib.hid e1.symm, Lib.hid ⟨T8.out.far (by omega), R8.out.far (by omega), D8.out.set6, P8.out.kept grown_set (HPN.out _ (Nat.le_refl _)), own_set (by rw [HSC.out, flV_app]; exact V8.out) (by dsimp only; omega), K8.out.setCell (p := ⟨w2.heap.size, 6, none⟩) (by dsimp only; omega) _, by rw [World.size_setCell]; omega⟩⟩
   case measure => simp [intOf]; omega
  ·obtain rfl : j = bf := by omega
   have gN : decide ((j : Int) < j) = false := by simp
   have lr : w.heap.size + 1 < wr.heap.size := RJ.lt
   obtain ⟨⟨z0, z1, z2, z3, z4, z5, z6⟩, ⟨f0, f1, f2, f3, f4, f5, f6⟩⟩ := RJ
   obtain ⟨⟨m0, m1, m2, m3, m4, m5, m6⟩, -⟩ := DJ
   go_upto_region 15 with fail
   repeat go_step
   have SBB := (((((((KJ).setCell (p := ⟨w.heap.size + 1, 0, none⟩) (by dsimp only; omega) (.int .i64 K)).setCell (p := ⟨w.heap.size + 1, 1, none⟩) (by dsimp only; omega) (.int .i64 B)).setCell (p := ⟨w.heap.size + 1, 2, none⟩) (by dsimp only; omega) (.int .i64 F)).setCell (p := ⟨w.heap.size + 1, 3, none⟩) (by dsimp only; omega) (.int .i64 R)).setCell (p := ⟨w.heap.size + 1, 4, none⟩) (by dsimp only; omega) (.int .i64 O)).setCell (p := ⟨w.heap.size + 1, 5, none⟩) (by dsimp only; omega) (.slice pd zs.length cd)).setCell (p := ⟨w.heap.size + 1, 6, none⟩) (by dsimp only; omega) (.slice qv n9 dv)
   have hlz : (zs.set a ((t : Int) - f)).length = zs.length := List.length_set
   refine bodyPost_ret (v := .tuple #[Tn K B F R O pd zs.length cd qv n9 dv, .int .i64 0]) (by simp [results, Tryz.results35, go_sem, z0, f0, z1, f1, z2, f2, z3, f3, z4, f4, z5, f5, z6, f6, lr, Tn]) rfl ?_
   refine ⟨pd, cd, qv, dv, by rw [hlz, HN.out], ?_, ?_, SBB⟩
   ·rw [hlz]; exact own_base (own_set (own_set (own_set (own_set (own_set (own_set (own_set PJ (by dsimp only; omega)) (by dsimp only; omega)) (by dsimp only; omega)) (by dsimp only; omega)) (by dsimp only; omega)) (by dsimp only; omega)) (by dsimp only; omega)) (by omega)
   ·rw [HN.out]; exact own_base (own_set (own_set (own_set (own_set (own_set (own_set (own_set VJ (by dsimp only; omega)) (by dsimp only; omega)) (by dsimp only; omega)) (by dsimp only; omega)) (by dsimp only; omega)) (by dsimp only; omega)) (by dsimp only; omega)) (by omega)
end Go.Proofs.YteaaikmejacpaaaGreatDoor.Te

namespace Go.Proofs.YteaaikmejacpaaaGreatDoor.Te
open Go.ChangeShapes Go.WideShapes Go.ChangeAt Go.RowKit
open Fx Va Sh
set_option maxRecDepth 8000
set_option linter.unusedVariables false
set_option linter.unusedSimpArgs false

theorem rdVs_get {fold K B F R O : Int} {vs : List (Int × Int)} {my af n j : Nat} (h : j < n) : (rdVs fold K B F R O vs my af n).getD j (0, 0) = ((rdL fold K B F R O vs my af j).1, (rdL fold K B F R O vs my af j).2.1) := by
 unfold rdVs
 rw [List.getD_eq_getElem?_getD, List.getElem?_map, List.getElem?_range h]
 rfl
theorem TS.no {er : Int} {w w' : World} (hb : Below w.heap.size w w') : TS 0 0 0 0 0 [] [] er w (.returned (.tuple #[.agg #[.int .i64 0, .int .i64 0, .int .i64 0, .int .i64 0, .int .i64 0, .slice none 0 0, .slice none 0 0], .int .i64 er])) w' := (TRes.no hb).ts

end Go.Proofs.YteaaikmejacpaaaGreatDoor.Te

namespace Go.Proofs.YteaaikmejacpaaaGreatDoor.Te
open Go.ChangeShapes Go.WideShapes Go.ChangeAt Go.RowKit
open Fx Va Sh
set_option maxRecDepth 8000
set_option linter.unusedVariables false
set_option linter.unusedSimpArgs false

section
variable {f : Int × Int -> Int × Int -> Int × Int × Int}
/-- The running value behind an element of a line. -/
def acc (f : Int × Int -> Int × Int -> Int × Int × Int) (L : List (Int × Int)) (k : Nat) : Int × Int := (scV f L).getD k (0, 0)

end

end Go.Proofs.YteaaikmejacpaaaGreatDoor.Te

namespace Go.Proofs.YteaaikmejacpaaaGreatDoor.Va
open Go.ChangeShapes Go.WideShapes Go.ChangeAt Go.RowKit
open Fr Fx
set_option maxRecDepth 8000
set_option linter.unusedVariables false
set_option linter.unusedSimpArgs false

theorem nv_rng {n B O : Int} (hb : 2 <= B) (hb' : B <= 31) (ho : O = 1 \/ O = 2) : - Nx.half B <= Nx.nv n B O /\ Nx.nv n B O <= Nx.half B - 1 := by
 obtain ⟨hH, H0, H1, hF⟩ := half_of hb hb'
 have hg : ¬ Nx.nbad B O := by unfold Nx.nbad; omega
 unfold Nx.nv
 rw [if_neg hg]
 have m0 := Int.emod_nonneg (n + Nx.half B) (b := Nx.full B) (by omega)
 have m1 := Int.emod_lt_of_pos (n + Nx.half B) (b := Nx.full B) (by omega)
 generalize (n + Nx.half B) % Nx.full B = m at *
 by_cases h1 : n < - Nx.half B
 ·rw [if_pos h1]
  by_cases h : O = 1
  ·rw [if_pos h]; omega
  ·rw [if_neg h]; omega
 ·rw [if_neg h1]
  by_cases h2 : Nx.half B - 1 < n
  ·rw [if_pos h2]
   by_cases h : O = 1
   ·rw [if_pos h]; omega
   ·rw [if_neg h]; omega
  ·rw [if_neg h2]; omega
theorem fv_nv {K B F R O n : Int} (h : tv K B F R O = true) : fv K B F R O (Nx.nv n B O) 1 = true := by
 obtain ⟨k1, k2, k3, k4, k5, k6, k7, k8⟩ := tv_parts h
 have := nv_rng (n := n) k2 k3 k8
 unfold fv
 rw [h, Bool.true_and]
 exact decide_eq_true ⟨rfl, this⟩
theorem vv_of_vld {K B F R O n d : Int} (hk : K = 1) (ht : ty K B F R O = true) (h : vld n d = true) : vv K B F R O n d = true := by
 unfold vv; rw [if_neg (by omega), ht, if_pos hk]; exact h
theorem vv_of_int {K B F R O n : Int} (hk : K = 3) (ht : ty K B F R O = true) (h : -2147483647 <= n /\ n <= 2147483647) : vv K B F R O n 1 = true := by
 unfold vv; rw [if_neg (by omega), ht, if_neg (by omega), Bool.true_and]; exact decide_eq_true ⟨rfl, h⟩
theorem ty_kind {K B F R O : Int} (ht : ty K B F R O = true) : K = 1 \/ K = 3 \/ (K = 2 /\ tv K B F R O = true) := by
 rcases ty_cases K B F R O with ⟨_, h | h⟩ | ⟨h', _⟩
 ·exact Or.inr (Or.inr h)
 ·omega
 ·rw [h'] at ht; cases ht
theorem vld_vv {K B F R O n d : Int} (h : vv K B F R O n d = true) : vld n d = true := by
 obtain ⟨x1, x2, x3, x4, x5⟩ := vv_small h
 by_cases k1 : K = 1
 ·have ht := vv_ty h
  unfold vv at h
  rw [if_neg (by omega), ht, if_pos k1] at h
  exact h
 ·obtain rfl := x5 k1
  exact vld_one x3 x4
theorem nw_ok {n d x y : Int} (h : nw n d = (x, y, 0)) : vld x y = true := by
 unfold nw at h
 simp only [Prod.mk.injEq] at h
 obtain ⟨rfl, rfl, h⟩ := h
 exact new_valid n d h
theorem apv_valid {op K B F R O n1 d1 n2 d2 x y : Int} (h : apv op K B F R O n1 d1 n2 d2 = (x, y, 0)) : vv K B F R O x y = true := by
 unfold apv at h
 by_cases c1 : op < 4 \/ 10 < op
 ·rw [if_pos c1] at h; simp at h
 rw [if_neg c1] at h
 by_cases c2 : ty K B F R O = false
 ·rw [if_pos c2] at h; simp at h
 rw [if_neg c2] at h
 have ht : ty K B F R O = true := by simpa using c2
 by_cases c3 : vv K B F R O n1 d1 = false \/ (op ≠ 8 /\ vv K B F R O n2 d2 = false)
 ·rw [if_pos c3] at h; simp at h
 rw [if_neg c3] at h
 have v1 : vv K B F R O n1 d1 = true := by
  cases e : vv K B F R O n1 d1
  ·exact absurd (Or.inl e) c3
  ·rfl
 have v2 : op ≠ 8 -> vv K B F R O n2 d2 = true := fun ho => by
  cases e : vv K B F R O n2 d2
  ·exact absurd (Or.inr ⟨ho, e⟩) c3
  ·rfl
 by_cases c4 : op = 9
 ·rw [if_pos c4] at h
  by_cases c : cpv K B F R O n1 d1 n2 d2 <= 0
  ·rw [if_pos c] at h; simp only [Prod.mk.injEq, and_true] at h; obtain ⟨rfl, rfl⟩ := h; exact v1
  ·rw [if_neg c] at h; simp only [Prod.mk.injEq, and_true] at h; obtain ⟨rfl, rfl⟩ := h; exact v2 (by omega)
 rw [if_neg c4] at h
 by_cases c5 : op = 10
 ·rw [if_pos c5] at h
  by_cases c : 0 <= cpv K B F R O n1 d1 n2 d2
  ·rw [if_pos c] at h; simp only [Prod.mk.injEq, and_true] at h; obtain ⟨rfl, rfl⟩ := h; exact v1
  ·rw [if_neg c] at h; simp only [Prod.mk.injEq, and_true] at h; obtain ⟨rfl, rfl⟩ := h; exact v2 (by omega)
 rw [if_neg c5] at h
 by_cases c6 : K = 1
 ·rw [if_pos c6] at h
  refine vv_of_vld c6 ht ?_
  unfold frv at h
  by_cases e4 : op = 4
  ·rw [if_pos e4] at h; exact nw_ok h
  rw [if_neg e4] at h
  by_cases e5 : op = 5
  ·rw [if_pos e5] at h; exact nw_ok h
  rw [if_neg e5] at h
  by_cases e6 : op = 6
  ·rw [if_pos e6] at h; exact nw_ok h
  rw [if_neg e6] at h
  by_cases e7 : op = 7
  ·rw [if_pos e7] at h; exact nw_ok h
  rw [if_neg e7] at h
  simp only [Prod.mk.injEq, and_true] at h
  obtain ⟨rfl, rfl⟩ := h
  rw [vld_neg]
  exact vld_vv v1
 rw [if_neg c6] at h
 by_cases c7 : K = 2
 ·rw [if_pos c7] at h
  rw [vv_fix c7]
  have htv : tv K B F R O = true := by
   rcases ty_kind ht with h | h | h
   ·exact absurd h c6
   ·omega
   ·exact h.2
  unfold fxv at h
  by_cases e7 : op = 7 /\ n2 = 0
  ·rw [if_pos e7] at h; simp at h
  rw [if_neg e7] at h
  simp only [Prod.mk.injEq, and_true] at h
  obtain ⟨rfl, rfl⟩ := h
  exact fv_nv htv
 ·rw [if_neg c7] at h
  have k3 : K = 3 := by
   rcases ty_kind ht with h | h | h
   ·exact absurd h c6
   ·exact h
   ·exact absurd h.1 c7
  unfold whv at h
  by_cases e7 : op = 7 /\ n2 = 0
  ·rw [if_pos e7] at h; simp at h
  rw [if_neg e7] at h
  by_cases e8 : -2147483647 <= whn op n1 n2 /\ whn op n1 n2 <= 2147483647
  ·rw [if_pos e8] at h
   simp only [Prod.mk.injEq, and_true] at h
   obtain ⟨rfl, rfl⟩ := h
   exact vv_of_int k3 ht e8
  ·rw [if_neg e8] at h; simp at h
end Go.Proofs.YteaaikmejacpaaaGreatDoor.Va

namespace Go.Proofs.YteaaikmejacpaaaGreatDoor.Te
open Go.ChangeShapes Go.WideShapes Go.ChangeAt Go.RowKit
open Fx Va Sh
set_option maxRecDepth 8000
set_option linter.unusedVariables false
set_option linter.unusedSimpArgs false

theorem fop_err {K B F R O : Int} {a b : Int × Int} (ha : vv K B F R O a.1 a.2 = true) (hb : vv K B F R O b.1 b.2 = true) : (fop K B F R O a b).2.2 = 0 \/ (fop K B F R O a b).2.2 = 3 := by
 have ht := vv_ty ha
 show (apv 4 K B F R O a.1 a.2 b.1 b.2).2.2 = 0 \/ (apv 4 K B F R O a.1 a.2 b.1 b.2).2.2 = 3
 unfold apv
 rw [if_neg (by decide), if_neg (by rw [ht]; decide), if_neg (by rw [ha, hb]; simp), if_neg (by decide), if_neg (by decide)]
 by_cases k1 : K = 1
 ·rw [if_pos k1]
  unfold frv
  rw [if_pos rfl]
  show Fr.newE _ _ = 0 \/ Fr.newE _ _ = 3
  have h1 := (vv_small ha)
  have h2 := (vv_small hb)
  have v1 := vld_vv ha
  have v2 := vld_vv hb
  unfold Fr.vld at v1 v2
  have w1 := of_decide_eq_true v1
  have w2 := of_decide_eq_true v2
  have : 0 < a.2 * b.2 := Int.mul_pos (by omega) (by omega)
  unfold Fr.newE
  rw [if_neg (by omega)]
  have low : ∀ x y, Fr.lowE x y = 0 \/ Fr.lowE x y = 3 := fun x y => by
   unfold Fr.lowE
   split
   ·exact .inr rfl
   ·exact .inl rfl
  exact low _ _
 ·rw [if_neg k1]
  by_cases k2 : K = 2
  ·rw [if_pos k2]
   unfold fxv
   rw [if_neg (by omega)]
   exact .inl rfl
  ·rw [if_neg k2]
   unfold whv
   rw [if_neg (by omega)]
   split
   ·exact .inl rfl
   ·exact .inr rfl
theorem fop_valid {K B F R O : Int} {a b : Int × Int} (h : (fop K B F R O a b).2.2 = 0) : vv K B F R O (fop K B F R O a b).1 (fop K B F R O a b).2.1 = true :=
 apv_valid (op := 4) (n1 := a.1) (d1 := a.2) (n2 := b.1) (d2 := b.2) (by
  show fop K B F R O a b = _
  rw [<- h])
/-- The last running value. -/
def lastv (f : Int × Int -> Int × Int -> Int × Int × Int) : Int × Int -> List (Int × Int) -> Int × Int
 | a, [] => a
 | a, v :: r => lastv f ((f a v).1, (f a v).2.1) r
theorem rdf_run (K B F R O : Int) : ∀ (r : List (Int × Int)) (a : Int × Int), rdf 4 K B F R O r a = if runE (fop K B F R O) a r = 0 then ((lastv (fop K B F R O) a r).1, (lastv (fop K B F R O) a r).2, 0) else (0, 0, runE (fop K B F R O) a r)
 | [], a => by
  show (a.1, a.2, 0) = _
  rw [if_pos (show runE (fop K B F R O) a [] = 0 from rfl)]
  rfl
 | v :: r, a => by
  have e : rdf 4 K B F R O (v :: r) a = if (fop K B F R O a v).2.2 = 0 then rdf 4 K B F R O r ((fop K B F R O a v).1, (fop K B F R O a v).2.1) else (0, 0, (fop K B F R O a v).2.2) := rfl
  have e2 : lastv (fop K B F R O) a (v :: r) = lastv (fop K B F R O) ((fop K B F R O a v).1, (fop K B F R O a v).2.1) r := rfl
  rw [e, e2, runE_cons]
  by_cases h : (fop K B F R O a v).2.2 = 0
  ·rw [if_pos h, if_neg (show ¬ (fop K B F R O a v).2.2 ≠ 0 from fun g => g h), rdf_run]
  ·rw [if_neg h, if_pos (show (fop K B F R O a v).2.2 ≠ 0 from h), if_neg h]
theorem acc_last {f : Int × Int -> Int × Int -> Int × Int × Int} : ∀ (r : List (Int × Int)) (x : Int × Int), acc f (x :: r) r.length = lastv f x r
 | [], x => rfl
 | y :: l, x => acc_last l ((f x y).1, (f x y).2.1)
theorem run_facts (K B F R O : Int) : ∀ (r : List (Int × Int)) (x : Int × Int), vv K B F R O x.1 x.2 = true -> (∀ v ∈ r, vv K B F R O v.1 v.2 = true) -> (runE (fop K B F R O) x r = 0 \/ runE (fop K B F R O) x r = 3) /\ (runE (fop K B F R O) x r = 0 -> ∀ k, k <= r.length -> vv K B F R O (acc (fop K B F R O) (x :: r) k).1 (acc (fop K B F R O) (x :: r) k).2 = true)
 | [], x, hx, _ => ⟨.inl rfl, fun _ k hk => by
  obtain rfl : k = 0 := by simpa using hk
  exact hx⟩
 | v :: r, x, hx, hr => by
  have hv := hr v (List.mem_cons_self ..)
  rw [runE_cons]
  by_cases h : (fop K B F R O x v).2.2 = 0
  ·rw [if_neg (by simpa using h)]
   obtain ⟨h1, h2⟩ := run_facts K B F R O r ((fop K B F R O x v).1, (fop K B F R O x v).2.1) (fop_valid h) (fun u hu => hr u (List.mem_cons_of_mem _ hu))
   refine ⟨h1, fun he k hk => ?_⟩
   cases k with
   | zero => exact hx
   | succ k => exact h2 he k (by simpa using hk)
  ·rw [if_pos h]
   refine ⟨fop_err hx hv, fun he => absurd he h⟩
/-- The sum along a line is the last of its scan. -/
theorem rd_line {K B F R O : Int} {L : List (Int × Int)} (ht : ty K B F R O = true) (hl : 1 <= L.length) (hv : ∀ v ∈ L, vv K B F R O v.1 v.2 = true) :
  rdv 1 K B F R O L = (if scE (fop K B F R O) L = 0 then ((acc (fop K B F R O) L (L.length - 1)).1, (acc (fop K B F R O) L (L.length - 1)).2, 0) else (0, 0, scE (fop K B F R O) L)) /\ (scE (fop K B F R O) L = 0 \/ scE (fop K B F R O) L = 3) /\ (scE (fop K B F R O) L = 0 -> ∀ k, k < L.length -> vv K B F R O (acc (fop K B F R O) L k).1 (acc (fop K B F R O) L k).2 = true) := by
 cases L with
 | nil => exact absurd hl (by simp)
 | cons x r =>
  have hno : ¬ ∃ i, i < (x :: r).length /\ vv K B F R O ((x :: r).getD i (0, 0)).1 ((x :: r).getD i (0, 0)).2 = false := by
   rintro ⟨i, hi, h⟩
   have hm : (x :: r).getD i (0, 0) ∈ x :: r := by
    rw [List.getD_eq_getElem?_getD, List.getElem?_eq_getElem hi]
    exact List.getElem_mem hi
   rw [hv _ hm] at h
   cases h
  obtain ⟨h1, h2⟩ := run_facts K B F R O r x (hv x (List.mem_cons_self ..)) (fun u hu => hv u (List.mem_cons_of_mem _ hu))
  refine ⟨?_, h1, fun he k hk => h2 he k (by simpa using Nat.lt_succ_iff.1 hk)⟩
  unfold rdv
  rw [if_neg (by decide), if_neg (by rw [ht]; decide), if_neg hno]
  show rdf 4 K B F R O r x = _
  rw [rdf_run, List.length_cons, Nat.add_sub_cancel, acc_last]
  rfl
theorem fe_all {g : Nat -> Int} : ∀ n i, fe g n i = 0 -> ∀ j, i <= j -> j < i + n -> g j = 0
 | 0, i, _, j, h1, h2 => by omega
 | n + 1, i, h, j, h1, h2 => by
  by_cases hg : g i = 0
  ·rw [fe_go hg] at h
   by_cases e : j = i
   ·rw [e]; exact hg
   ·exact fe_all n (i + 1) h j (by omega) (by omega)
  ·rw [fe_stop hg] at h
   exact absurd h hg
theorem fe_in {g : Nat -> Int} {P : Int -> Prop} : ∀ n i, P 0 -> (∀ j, i <= j -> j < i + n -> P (g j)) -> P (fe g n i)
 | 0, i, h0, _ => h0
 | n + 1, i, h0, H => by
  by_cases hg : g i = 0
  ·rw [fe_go hg]
   exact fe_in n (i + 1) h0 fun j a b => H j (by omega) (by omega)
  ·rw [fe_stop hg]
   exact H i (Nat.le_refl _) (by omega)
theorem lnV_valid {K B F R O : Int} {vs : List (Int × Int)} {bf my af j : Nat} (h : vs.any (badV K B F R O) = false) (q3 : 1 <= af) (hj : j < bf * af) (hm : vs.length = bf * my * af) : ∀ v ∈ lnV vs my af j, vv K B F R O v.1 v.2 = true := fun v hv => by
 unfold lnV at hv
 obtain ⟨k, hk, rfl⟩ := List.mem_map.1 hv
 exact any_valid h (by rw [hm]; exact ln_lt (List.mem_range.1 hk) q3 hj)
/-- All about the sums and scans of a tensor. -/
theorem sum_scan {K B F R O : Int} {vs : List (Int × Int)} {bf my af : Nat} (ht : ty K B F R O = true) (h : vs.any (badV K B F R O) = false) (q2 : 1 <= my) (q3 : 1 <= af) (hm : vs.length = bf * my * af) :
  fe (rdE 1 K B F R O vs my af) (bf * af) 0 = fe (snE K B F R O vs my af) (bf * af) 0 /\ (fe (snE K B F R O vs my af) (bf * af) 0 = 0 \/ fe (snE K B F R O vs my af) (bf * af) 0 = 3) /\
  (fe (snE K B F R O vs my af) (bf * af) 0 = 0 -> (scA (fop K B F R O) vs my af (bf * my * af)).any (badV K B F R O) = false /\ ∀ j, j < bf * af -> ((rdL 1 K B F R O vs my af j).1, (rdL 1 K B F R O vs my af j).2.1) = (scA (fop K B F R O) vs my af (bf * my * af)).getD (lnF my af j + (my - 1) * af) (0, 0)) := by
 have hl := fun j (hj : j < bf * af) => rd_line (L := lnV vs my af j) ht (by rw [lnV_length]; exact q2) (lnV_valid h q3 hj hm)
 refine ⟨fe_congr _ _ fun j _ hj => ?_, ?_, fun he => ⟨?_, fun j hj => ?_⟩⟩
 ·obtain ⟨e, -, -⟩ := hl j (by omega)
  show (rdv 1 K B F R O (lnV vs my af j)).2.2 = scE _ _
  rw [e]
  split
  ·rename_i h0; exact h0.symm
  ·rfl
 ·exact fe_in (P := fun e => e = 0 \/ e = 3) _ _ (.inl rfl) fun j _ hj => (hl j (by omega)).2.1
 ·have h0 := fe_all _ _ he
  rw [List.any_eq_false]
  intro v hv
  unfold scA at hv
  obtain ⟨a, ha, rfl⟩ := List.mem_map.1 hv
  obtain ⟨a1, a2⟩ := lnO_lt q2 q3 (List.mem_range.1 ha)
  have := (hl _ a1).2.2 (h0 _ (Nat.zero_le _) (by omega)) (lnK my af a) (by rw [lnV_length]; exact a2)
  unfold acc at this
  show ¬ (!vv K B F R O _ _) = true
  rw [this]
  decide
 ·have h0 : scE (fop K B F R O) (lnV vs my af j) = 0 := fe_all _ _ he j (Nat.zero_le _) (by omega)
  obtain ⟨e, -, -⟩ := hl j hj
  rw [scA_get q3 (by omega) hj]
  unfold rdL
  rw [e, if_pos h0, lnV_length]
  rfl
theorem slB_get {vs : List (Int × Int)} {my af f t i c : Nat} (hc : c < t * af - f * af) : (slB vs my af f t i).getD c (0, 0) = vs.getD (i * my * af + f * af + c) (0, 0) := by
 unfold slB
 rw [List.getD_eq_getElem?_getD, List.getD_eq_getElem?_getD, List.getElem?_take_of_lt hc, List.getElem?_drop]
theorem slV_get {vs : List (Int × Int)} {my af f t bf b c : Nat} (hf : f <= t) (ht : t <= my) (hm : vs.length = bf * my * af) (hc : c < t * af - f * af) : ∀ n, n <= bf -> b < n -> (slV vs my af f t n).getD (b * (t * af - f * af) + c) (0, 0) = vs.getD (b * my * af + f * af + c) (0, 0)
 | 0, _, h => absurd h (by omega)
 | n + 1, hn, h => by
  have hl := slV_len (vs := vs) hf ht hm n (by omega)
  rw [slV_succ, List.getD_eq_getElem?_getD]
  by_cases e : b = n
  ·subst e
   rw [List.getElem?_append_right (by omega), hl, Nat.add_sub_cancel_left, <- List.getD_eq_getElem?_getD, slB_get hc]
  ·have h1 : b * (t * af - f * af) + c < n * (t * af - f * af) := by
    have : (b + 1) * (t * af - f * af) <= n * (t * af - f * af) := Nat.mul_le_mul_right _ (by omega)
    rw [Nat.succ_mul] at this
    omega
   rw [List.getElem?_append_left (by omega), <- List.getD_eq_getElem?_getD]
   exact slV_get hf ht hm hc n (by omega) (by omega)
/-- The last part of the scans is the sums. -/
theorem last_sum {K B F R O : Int} {vs : List (Int × Int)} {bf my af : Nat} (ht : ty K B F R O = true) (h : vs.any (badV K B F R O) = false) (q2 : 1 <= my) (q3 : 1 <= af) (hm : vs.length = bf * my * af) (he : fe (snE K B F R O vs my af) (bf * af) 0 = 0) :
  slV (scA (fop K B F R O) vs my af (bf * my * af)) my af (my - 1) my bf = rdVs 1 K B F R O vs my af (bf * af) := by
 have hw : my * af - (my - 1) * af = af := by
  rw [<- Nat.sub_mul, show my - (my - 1) = 1 by omega, Nat.one_mul]
 have hl : (slV (scA (fop K B F R O) vs my af (bf * my * af)) my af (my - 1) my bf).length = bf * af := by
  rw [slV_len (bf := bf) (by omega) (Nat.le_refl _) scA_length bf (Nat.le_refl _), hw]
 obtain ⟨-, -, h3⟩ := sum_scan ht h q2 q3 hm
 obtain ⟨-, h4⟩ := h3 he
 refine vals_ext hl (rdVs_length _ _ _ _ _ _ _ _ _ _) fun j hj => ?_
 have e0 : j = j / af * (my * af - (my - 1) * af) + j % af := by rw [hw, Nat.mul_comm]; exact (Nat.div_add_mod j af).symm
 have e1 := slV_get (vs := scA (fop K B F R O) vs my af (bf * my * af)) (f := my - 1) (t := my) (bf := bf) (b := j / af) (c := j % af) (by omega) (Nat.le_refl _) scA_length (by rw [hw]; exact Nat.mod_lt _ (by omega)) bf (Nat.le_refl _) (by rw [Nat.div_lt_iff_lt_mul (by omega)]; exact hj)
 rw [<- e0] at e1
 rw [e1, rdVs_get hj, h4 j hj]
 unfold lnF
 rw [show j / af * my * af + j % af + (my - 1) * af = j / af * my * af + (my - 1) * af + j % af by omega]
end Go.Proofs.YteaaikmejacpaaaGreatDoor.Te

namespace Go.Proofs.YteaaikmejacpaaaGreatDoor.Te
open Go.ChangeShapes Go.WideShapes Go.ChangeAt Go.RowKit
open Fx Va Sh
set_option maxRecDepth 8000
set_option linter.unusedVariables false
set_option linter.unusedSimpArgs false

/-- A block of two cells that may be stored to. -/
def B2 (u : World) (b : Nat) (x y : Value) : Prop := (u.cell? ⟨b, 0, none⟩ = some x /\ u.cell? ⟨b, 1, none⟩ = some y) /\ u.frozen? ⟨b, 0, none⟩ = false /\ u.frozen? ⟨b, 1, none⟩ = false
section
variable {u u' : World} {b r o Bd : Nat} {x y x' y' v : Value}
theorem B2.lt (h : B2 u b x y) : b < u.heap.size := World.block_lt_of_cell? _ _ h.1.1
theorem B2.same (hc : ∀ o, u'.cell? ⟨b, o, none⟩ = u.cell? ⟨b, o, none⟩) (hf : ∀ o, u'.frozen? ⟨b, o, none⟩ = u.frozen? ⟨b, o, none⟩) (h : B2 u b x y) : B2 u' b x y := by
 obtain ⟨⟨c0, c1⟩, f0, f1⟩ := h
 exact ⟨⟨(hc 0).trans c0, (hc 1).trans c1⟩, (hf 0).trans f0, (hf 1).trans f1⟩
theorem B2.keep (hb : Below Bd u u') (hlt : b < Bd) (h : B2 u b x y) : B2 u' b x y :=
 h.same (fun o' => World.cell?_of_block (hb.block b hlt)) (fun o' => World.frozen?_of_block (hb.block b hlt))
theorem B2.far (hr : r ≠ b) (h : B2 u b x y) : B2 (u.setCell ⟨r, o, none⟩ v) b x y := h.same (fun o' => World.cell?_setCell_far _ _ _ _ hr) (fun o' => World.frozen?_setCell _ _ _ _)
theorem B2.st (h : B2 u b x y) : B2 ((u.setCell ⟨b, 0, none⟩ x').setCell ⟨b, 1, none⟩ y') b x' y' := by
 obtain ⟨⟨c0, c1⟩, f0, f1⟩ := h
 refine ⟨⟨?_, ?_⟩, by simpa [World.frozen?_setCell] using f0, by simpa [World.frozen?_setCell] using f1⟩
 ·rw [World.cell?_setCell_other _ _ _ _ (by simp)]
  exact World.cell?_setCell_same _ _ _ c0
 ·exact World.cell?_setCell_same _ _ _ ((World.cell?_setCell_other _ _ _ _ (by simp)).trans c1)
theorem B2.new (u : World) (T : TypeId) (x y : Value) : B2 (u.alloc (Obj.cells #[x, y] T)) u.heap.size x y := by
 refine ⟨⟨?_, ?_⟩, ?_, ?_⟩ <;> go_cell
end

end Go.Proofs.YteaaikmejacpaaaGreatDoor.Te

namespace Go.Proofs.YteaaikmejacpaaaGreatDoor.Te
open Go.ChangeShapes Go.WideShapes Go.ChangeAt Go.RowKit
open Fx Va Sh
set_option maxRecDepth 8000
set_option linter.unusedVariables false
set_option linter.unusedSimpArgs false

set_option maxRecDepth 100000 in
set_option maxHeartbeats 2000000 in
theorem st_a (K B F R O : Int) (p : Option Addr) (zs : List Int) (c : Nat) (q : Option Addr) (vs : List (Int × Int)) (d : Nat) (ax : Int) (w : World) (b0 : -9223372036854775808 <= B) (b1 : B <= 9223372036854775807) (hn : zs.length <= maxLen) (hm : vs.length <= maxLen) (RA : Hid (SlI w p zs)) (RB : Hid (SlV w q vs)) (hc : zs.length <= c) (hc2 : c <= 9223372036854775807) (hd : vs.length <= d) (hd2 : d <= 9223372036854775807) (hLA : Tx.LA w) (hs : (decide ((vs.length : Int) <= 1000) && decide (zs.length <= 20)) = false) :
  Calls Tryz.prog 9 #[Tn K B F R O p zs.length c q vs.length d, .int .i64 ax] w fun en w' => en = .returned (.bool true) /\ Below w.heap.size w w' := by
 have HLA := Lib.hid hLA
 have EX := Lib.hid fun u h => exam12 u h
 have SM0 := fun u => tsmall K B F R O p zs.length c q vs.length d 1000 u
 rw [hs] at SM0
 clear hs
 have SM := Lib.hid SM0
 skip
 obtain ⟨m, hmm⟩ : ∃ m, vs.length = m := ⟨_, rfl⟩
 rw [hmm] at SM  ⊢
 clear SM0 hm hmm
 unfold Tn at *
 go_enter Tryz.func9, Tryz.ntmps9
 go_wp2_with (first | (go_at_call 14; (with_reducible refine (SM.out _).mono ?_); rintro e w1 ⟨rfl, hb⟩; have hW : Below w.heap.size w (w.alloc (Obj.cells #[Value.int .i64 K, Value.int .i64 B, Value.int .i64 F, Value.int .i64 R, Value.int .i64 O, Value.slice p zs.length c, Value.slice q m d] 27)) := (Below.refl _ _).alloc (Nat.le_refl _) (Obj.cells #[Value.int .i64 K, Value.int .i64 B, Value.int .i64 F, Value.int .i64 R, Value.int .i64 O, Value.slice p zs.length c, Value.slice q m d] 27); have hX := hW.trans (hb.mono hW.size); have c0 : w1.cell? ⟨w.heap.size, 0, none⟩ = some (.int .i64 K) := Rg.keep hb (by first | omega | (simp; omega) | (simp; done)) (by go_cell); have c1 : w1.cell? ⟨w.heap.size, 1, none⟩ = some (.int .i64 B) := Rg.keep hb (by first | omega | (simp; omega) | (simp; done)) (by go_cell); have c2 : w1.cell? ⟨w.heap.size, 2, none⟩ = some (.int .i64 F) := Rg.keep hb (by first | omega | (simp; omega) | (simp; done)) (by go_cell); have c3 : w1.cell? ⟨w.heap.size, 3, none⟩ = some (.int .i64 R) := Rg.keep hb (by first | omega | (simp; omega) | (simp; done)) (by go_cell); have c4 : w1.cell? ⟨w.heap.size, 4, none⟩ = some (.int .i64 O) := Rg.keep hb (by first | omega | (simp; omega) | (simp; done)) (by go_cell); have c5 : w1.cell? ⟨w.heap.size, 5, none⟩ = some (.slice p zs.length c) := Rg.keep hb (by first | omega | (simp; omega) | (simp; done)) (by go_cell); have c6 : w1.cell? ⟨w.heap.size, 6, none⟩ = some (.slice q m d) := Rg.keep hb (by first | omega | (simp; omega) | (simp; done)) (by go_cell); have lc : w.heap.size < w1.heap.size := World.block_lt_of_cell? _ _ c0; have KB := Lib.hid hX; clear hb hW hX) | (go_at_call 14; (with_reducible refine (SM.out _).mono ?_); rintro e w1 ⟨rfl, hb⟩; have hW : Below w.heap.size w (w.alloc (Obj.cells #[Value.int .i64 K, Value.int .i64 B, Value.int .i64 F, Value.int .i64 R, Value.int .i64 O, Value.slice p zs.length c, Value.slice q m d] 27)) := (Below.refl _ _).alloc (Nat.le_refl _) (Obj.cells #[Value.int .i64 K, Value.int .i64 B, Value.int .i64 F, Value.int .i64 R, Value.int .i64 O, Value.slice p zs.length c, Value.slice q m d] 27); have hX := hW.trans (hb.mono hW.size); have c0 : w1.cell? ⟨w.heap.size, 0, none⟩ = some (.int .i64 K) := Rg.keep hb (by first | omega | (simp; omega) | (simp; done)) (by go_cell); have c1 : w1.cell? ⟨w.heap.size, 1, none⟩ = some (.int .i64 B) := Rg.keep hb (by first | omega | (simp; omega) | (simp; done)) (by go_cell); have c2 : w1.cell? ⟨w.heap.size, 2, none⟩ = some (.int .i64 F) := Rg.keep hb (by first | omega | (simp; omega) | (simp; done)) (by go_cell); have c3 : w1.cell? ⟨w.heap.size, 3, none⟩ = some (.int .i64 R) := Rg.keep hb (by first | omega | (simp; omega) | (simp; done)) (by go_cell); have c4 : w1.cell? ⟨w.heap.size, 4, none⟩ = some (.int .i64 O) := Rg.keep hb (by first | omega | (simp; omega) | (simp; done)) (by go_cell); have c5 : w1.cell? ⟨w.heap.size, 5, none⟩ = some (.slice p zs.length c) := Rg.keep hb (by first | omega | (simp; omega) | (simp; done)) (by go_cell); have c6 : w1.cell? ⟨w.heap.size, 6, none⟩ = some (.slice q m d) := Rg.keep hb (by first | omega | (simp; omega) | (simp; done)) (by go_cell); have lc : w.heap.size < w1.heap.size := World.block_lt_of_cell? _ _ c0; have KB := Lib.hid hX; clear hb hW hX) | (go_at_call 15; (with_reducible refine (EX.out _ (HLA.out.below KB.out)).mono ?_); rintro e wX ⟨rfl, hb⟩; have KX := Lib.hid (KB.out.trans (hb.mono KB.out.size)); clear hb))
 go_ret
 exact ⟨rfl, KX.out⟩

set_option maxRecDepth 100000 in
set_option maxHeartbeats 2000000 in
theorem st_b (K B F R O : Int) (p : Option Addr) (zs : List Int) (c : Nat) (q : Option Addr) (vs : List (Int × Int)) (d : Nat) (ax : Int) (w : World) (b0 : -9223372036854775808 <= B) (b1 : B <= 9223372036854775807) (hn : zs.length <= maxLen) (hm : vs.length <= maxLen) (RA : Hid (SlI w p zs)) (RB : Hid (SlV w q vs)) (hc : zs.length <= c) (hc2 : c <= 9223372036854775807) (hd : vs.length <= d) (hd2 : d <= 9223372036854775807) (hLA : Tx.LA w) (hs : (decide ((vs.length : Int) <= 1000) && decide (zs.length <= 20)) = true) (ht : tE K B F R O zs vs ≠ 0) :
  Calls Tryz.prog 9 #[Tn K B F R O p zs.length c q vs.length d, .int .i64 ax] w fun en w' => en = .returned (.bool true) /\ Below w.heap.size w w' := by
 have HLA := Lib.hid hLA
 have EX := Lib.hid fun u h => exam12 u h
 have SM0 := fun u => tsmall K B F R O p zs.length c q vs.length d 1000 u
 have RV0 := fun u h1 h2 => rval K B F R O p zs c q vs d u hn hm h1 h2
 rw [hs] at SM0
 obtain ⟨E, hE⟩ : ∃ E, tE K B F R O zs vs = E := ⟨_, rfl⟩
 rw [hE] at RV0 ht
 have g3 : (E == 0) = false := by simpa using ht
 have g4 : (E != 0) = true := by simpa using ht
 clear hs hE ht
 have SM := Lib.hid SM0
 have RVV := Lib.hid RV0
 obtain ⟨m, hmm⟩ : ∃ m, vs.length = m := ⟨_, rfl⟩
 rw [hmm] at SM RVV ⊢
 clear SM0 hm hmm RV0
 unfold Tn at *
 go_enter Tryz.func9, Tryz.ntmps9
 go_wp2_with (first | (go_at_call 14; (with_reducible refine (SM.out _).mono ?_); rintro e w1 ⟨rfl, hb⟩; have hW : Below w.heap.size w (w.alloc (Obj.cells #[Value.int .i64 K, Value.int .i64 B, Value.int .i64 F, Value.int .i64 R, Value.int .i64 O, Value.slice p zs.length c, Value.slice q m d] 27)) := (Below.refl _ _).alloc (Nat.le_refl _) (Obj.cells #[Value.int .i64 K, Value.int .i64 B, Value.int .i64 F, Value.int .i64 R, Value.int .i64 O, Value.slice p zs.length c, Value.slice q m d] 27); have hX := hW.trans (hb.mono hW.size); have c0 : w1.cell? ⟨w.heap.size, 0, none⟩ = some (.int .i64 K) := Rg.keep hb (by first | omega | (simp; omega) | (simp; done)) (by go_cell); have c1 : w1.cell? ⟨w.heap.size, 1, none⟩ = some (.int .i64 B) := Rg.keep hb (by first | omega | (simp; omega) | (simp; done)) (by go_cell); have c2 : w1.cell? ⟨w.heap.size, 2, none⟩ = some (.int .i64 F) := Rg.keep hb (by first | omega | (simp; omega) | (simp; done)) (by go_cell); have c3 : w1.cell? ⟨w.heap.size, 3, none⟩ = some (.int .i64 R) := Rg.keep hb (by first | omega | (simp; omega) | (simp; done)) (by go_cell); have c4 : w1.cell? ⟨w.heap.size, 4, none⟩ = some (.int .i64 O) := Rg.keep hb (by first | omega | (simp; omega) | (simp; done)) (by go_cell); have c5 : w1.cell? ⟨w.heap.size, 5, none⟩ = some (.slice p zs.length c) := Rg.keep hb (by first | omega | (simp; omega) | (simp; done)) (by go_cell); have c6 : w1.cell? ⟨w.heap.size, 6, none⟩ = some (.slice q m d) := Rg.keep hb (by first | omega | (simp; omega) | (simp; done)) (by go_cell); have lc : w.heap.size < w1.heap.size := World.block_lt_of_cell? _ _ c0; have KB := Lib.hid hX; clear hb hW hX) | (go_at_call 21; (with_reducible refine (RVV.out _ (Lib.hid (SlI.keep KB.out RA.out)) (Lib.hid (SlV.below RB.out KB.out))).mono ?_); rintro e w2 ⟨rfl, hb⟩; have hW : Below w1.heap.size w1 w1 := Below.refl _ _; have hX := hW.trans (hb.mono hW.size); have c0 : w2.cell? ⟨w.heap.size, 0, none⟩ = some (.int .i64 K) := Rg.keep hb (by first | omega | (simp; omega) | (simp; done)) (by go_cell); have c1 : w2.cell? ⟨w.heap.size, 1, none⟩ = some (.int .i64 B) := Rg.keep hb (by first | omega | (simp; omega) | (simp; done)) (by go_cell); have c2 : w2.cell? ⟨w.heap.size, 2, none⟩ = some (.int .i64 F) := Rg.keep hb (by first | omega | (simp; omega) | (simp; done)) (by go_cell); have c3 : w2.cell? ⟨w.heap.size, 3, none⟩ = some (.int .i64 R) := Rg.keep hb (by first | omega | (simp; omega) | (simp; done)) (by go_cell); have c4 : w2.cell? ⟨w.heap.size, 4, none⟩ = some (.int .i64 O) := Rg.keep hb (by first | omega | (simp; omega) | (simp; done)) (by go_cell); have c5 : w2.cell? ⟨w.heap.size, 5, none⟩ = some (.slice p zs.length c) := Rg.keep hb (by first | omega | (simp; omega) | (simp; done)) (by go_cell); have c6 : w2.cell? ⟨w.heap.size, 6, none⟩ = some (.slice q m d) := Rg.keep hb (by first | omega | (simp; omega) | (simp; done)) (by go_cell); have lc : w.heap.size < w2.heap.size := World.block_lt_of_cell? _ _ c0; replace KB := Lib.hid (KB.out.trans (hX.mono KB.out.size)); clear hb hW hX) | (go_at_call 15; (with_reducible refine (EX.out _ (HLA.out.below KB.out)).mono ?_); rintro e wX ⟨rfl, hb⟩; have KX := Lib.hid (KB.out.trans (hb.mono KB.out.size)); clear hb))
 go_ret
 exact ⟨rfl, KX.out⟩

set_option maxRecDepth 100000 in
set_option maxHeartbeats 2000000 in
theorem st_c (K B F R O : Int) (p : Option Addr) (zs : List Int) (c : Nat) (q : Option Addr) (vs : List (Int × Int)) (d : Nat) (ax : Int) (w : World) (b0 : -9223372036854775808 <= B) (b1 : B <= 9223372036854775807) (hn : zs.length <= maxLen) (hm : vs.length <= maxLen) (RA : Hid (SlI w p zs)) (RB : Hid (SlV w q vs)) (hc : zs.length <= c) (hc2 : c <= 9223372036854775807) (hd : vs.length <= d) (hd2 : d <= 9223372036854775807) (hLA : Tx.LA w) (hs : (decide ((vs.length : Int) <= 1000) && decide (zs.length <= 20)) = true) (ht : tE K B F R O zs vs = 0) (ha : ax < 0) :
  Calls Tryz.prog 9 #[Tn K B F R O p zs.length c q vs.length d, .int .i64 ax] w fun en w' => en = .returned (.bool true) /\ Below w.heap.size w w' := by
 have HLA := Lib.hid hLA
 have EX := Lib.hid fun u h => exam12 u h
 have SM0 := fun u => tsmall K B F R O p zs.length c q vs.length d 1000 u
 have RV0 := fun u h1 h2 => rval K B F R O p zs c q vs d u hn hm h1 h2
 rw [hs] at SM0
 rw [ht] at RV0
 have g3 : decide (ax < 0) = true := by simpa using ha
 clear hs ht ha
 have SM := Lib.hid SM0
 have RVV := Lib.hid RV0
 obtain ⟨m, hmm⟩ : ∃ m, vs.length = m := ⟨_, rfl⟩
 rw [hmm] at SM RVV ⊢
 clear SM0 hm hmm RV0
 unfold Tn at *
 go_enter Tryz.func9, Tryz.ntmps9
 go_wp2_with (first | (go_at_call 14; (with_reducible refine (SM.out _).mono ?_); rintro e w1 ⟨rfl, hb⟩; have hW : Below w.heap.size w (w.alloc (Obj.cells #[Value.int .i64 K, Value.int .i64 B, Value.int .i64 F, Value.int .i64 R, Value.int .i64 O, Value.slice p zs.length c, Value.slice q m d] 27)) := (Below.refl _ _).alloc (Nat.le_refl _) (Obj.cells #[Value.int .i64 K, Value.int .i64 B, Value.int .i64 F, Value.int .i64 R, Value.int .i64 O, Value.slice p zs.length c, Value.slice q m d] 27); have hX := hW.trans (hb.mono hW.size); have c0 : w1.cell? ⟨w.heap.size, 0, none⟩ = some (.int .i64 K) := Rg.keep hb (by first | omega | (simp; omega) | (simp; done)) (by go_cell); have c1 : w1.cell? ⟨w.heap.size, 1, none⟩ = some (.int .i64 B) := Rg.keep hb (by first | omega | (simp; omega) | (simp; done)) (by go_cell); have c2 : w1.cell? ⟨w.heap.size, 2, none⟩ = some (.int .i64 F) := Rg.keep hb (by first | omega | (simp; omega) | (simp; done)) (by go_cell); have c3 : w1.cell? ⟨w.heap.size, 3, none⟩ = some (.int .i64 R) := Rg.keep hb (by first | omega | (simp; omega) | (simp; done)) (by go_cell); have c4 : w1.cell? ⟨w.heap.size, 4, none⟩ = some (.int .i64 O) := Rg.keep hb (by first | omega | (simp; omega) | (simp; done)) (by go_cell); have c5 : w1.cell? ⟨w.heap.size, 5, none⟩ = some (.slice p zs.length c) := Rg.keep hb (by first | omega | (simp; omega) | (simp; done)) (by go_cell); have c6 : w1.cell? ⟨w.heap.size, 6, none⟩ = some (.slice q m d) := Rg.keep hb (by first | omega | (simp; omega) | (simp; done)) (by go_cell); have lc : w.heap.size < w1.heap.size := World.block_lt_of_cell? _ _ c0; have KB := Lib.hid hX; clear hb hW hX) | (go_at_call 21; (with_reducible refine (RVV.out _ (Lib.hid (SlI.keep KB.out RA.out)) (Lib.hid (SlV.below RB.out KB.out))).mono ?_); rintro e w2 ⟨rfl, hb⟩; have hW : Below w1.heap.size w1 w1 := Below.refl _ _; have hX := hW.trans (hb.mono hW.size); have c0 : w2.cell? ⟨w.heap.size, 0, none⟩ = some (.int .i64 K) := Rg.keep hb (by first | omega | (simp; omega) | (simp; done)) (by go_cell); have c1 : w2.cell? ⟨w.heap.size, 1, none⟩ = some (.int .i64 B) := Rg.keep hb (by first | omega | (simp; omega) | (simp; done)) (by go_cell); have c2 : w2.cell? ⟨w.heap.size, 2, none⟩ = some (.int .i64 F) := Rg.keep hb (by first | omega | (simp; omega) | (simp; done)) (by go_cell); have c3 : w2.cell? ⟨w.heap.size, 3, none⟩ = some (.int .i64 R) := Rg.keep hb (by first | omega | (simp; omega) | (simp; done)) (by go_cell); have c4 : w2.cell? ⟨w.heap.size, 4, none⟩ = some (.int .i64 O) := Rg.keep hb (by first | omega | (simp; omega) | (simp; done)) (by go_cell); have c5 : w2.cell? ⟨w.heap.size, 5, none⟩ = some (.slice p zs.length c) := Rg.keep hb (by first | omega | (simp; omega) | (simp; done)) (by go_cell); have c6 : w2.cell? ⟨w.heap.size, 6, none⟩ = some (.slice q m d) := Rg.keep hb (by first | omega | (simp; omega) | (simp; done)) (by go_cell); have lc : w.heap.size < w2.heap.size := World.block_lt_of_cell? _ _ c0; replace KB := Lib.hid (KB.out.trans (hX.mono KB.out.size)); clear hb hW hX) | (go_at_call 15; (with_reducible refine (EX.out _ (HLA.out.below KB.out)).mono ?_); rintro e wX ⟨rfl, hb⟩; have KX := Lib.hid (KB.out.trans (hb.mono KB.out.size)); clear hb))
 go_ret
 exact ⟨rfl, KX.out⟩

set_option maxRecDepth 100000 in
set_option maxHeartbeats 2000000 in
theorem st_d (K B F R O : Int) (p : Option Addr) (zs : List Int) (c : Nat) (q : Option Addr) (vs : List (Int × Int)) (d : Nat) (ax : Int) (w : World) (b0 : -9223372036854775808 <= B) (b1 : B <= 9223372036854775807) (hn : zs.length <= maxLen) (hm : vs.length <= maxLen) (RA : Hid (SlI w p zs)) (RB : Hid (SlV w q vs)) (hc : zs.length <= c) (hc2 : c <= 9223372036854775807) (hd : vs.length <= d) (hd2 : d <= 9223372036854775807) (hLA : Tx.LA w) (hs : (decide ((vs.length : Int) <= 1000) && decide (zs.length <= 20)) = true) (ht : tE K B F R O zs vs = 0) (ha : ¬ ax < 0) (ha2 : (zs.length : Int) <= ax) :
  Calls Tryz.prog 9 #[Tn K B F R O p zs.length c q vs.length d, .int .i64 ax] w fun en w' => en = .returned (.bool true) /\ Below w.heap.size w w' := by
 have HLA := Lib.hid hLA
 have EX := Lib.hid fun u h => exam12 u h
 have SM0 := fun u => tsmall K B F R O p zs.length c q vs.length d 1000 u
 have RV0 := fun u h1 h2 => rval K B F R O p zs c q vs d u hn hm h1 h2
 rw [hs] at SM0
 rw [ht] at RV0
 have g3 : decide (ax < 0) = false := by simpa using ha
 have g4 : decide ((zs.length : Int) <= ax) = true := by simpa using ha2
 have g5 : decide (ax < (zs.length : Int)) = false := by simpa using ha2
 clear hs ht ha ha2
 have SM := Lib.hid SM0
 have RVV := Lib.hid RV0
 obtain ⟨m, hmm⟩ : ∃ m, vs.length = m := ⟨_, rfl⟩
 rw [hmm] at SM RVV ⊢
 clear SM0 hm hmm RV0
 unfold Tn at *
 go_enter Tryz.func9, Tryz.ntmps9
 go_wp2_with (first | (go_at_call 14; (with_reducible refine (SM.out _).mono ?_); rintro e w1 ⟨rfl, hb⟩; have hW : Below w.heap.size w (w.alloc (Obj.cells #[Value.int .i64 K, Value.int .i64 B, Value.int .i64 F, Value.int .i64 R, Value.int .i64 O, Value.slice p zs.length c, Value.slice q m d] 27)) := (Below.refl _ _).alloc (Nat.le_refl _) (Obj.cells #[Value.int .i64 K, Value.int .i64 B, Value.int .i64 F, Value.int .i64 R, Value.int .i64 O, Value.slice p zs.length c, Value.slice q m d] 27); have hX := hW.trans (hb.mono hW.size); have c0 : w1.cell? ⟨w.heap.size, 0, none⟩ = some (.int .i64 K) := Rg.keep hb (by first | omega | (simp; omega) | (simp; done)) (by go_cell); have c1 : w1.cell? ⟨w.heap.size, 1, none⟩ = some (.int .i64 B) := Rg.keep hb (by first | omega | (simp; omega) | (simp; done)) (by go_cell); have c2 : w1.cell? ⟨w.heap.size, 2, none⟩ = some (.int .i64 F) := Rg.keep hb (by first | omega | (simp; omega) | (simp; done)) (by go_cell); have c3 : w1.cell? ⟨w.heap.size, 3, none⟩ = some (.int .i64 R) := Rg.keep hb (by first | omega | (simp; omega) | (simp; done)) (by go_cell); have c4 : w1.cell? ⟨w.heap.size, 4, none⟩ = some (.int .i64 O) := Rg.keep hb (by first | omega | (simp; omega) | (simp; done)) (by go_cell); have c5 : w1.cell? ⟨w.heap.size, 5, none⟩ = some (.slice p zs.length c) := Rg.keep hb (by first | omega | (simp; omega) | (simp; done)) (by go_cell); have c6 : w1.cell? ⟨w.heap.size, 6, none⟩ = some (.slice q m d) := Rg.keep hb (by first | omega | (simp; omega) | (simp; done)) (by go_cell); have lc : w.heap.size < w1.heap.size := World.block_lt_of_cell? _ _ c0; have KB := Lib.hid hX; clear hb hW hX) | (go_at_call 21; (with_reducible refine (RVV.out _ (Lib.hid (SlI.keep KB.out RA.out)) (Lib.hid (SlV.below RB.out KB.out))).mono ?_); rintro e w2 ⟨rfl, hb⟩; have hW : Below w1.heap.size w1 w1 := Below.refl _ _; have hX := hW.trans (hb.mono hW.size); have c0 : w2.cell? ⟨w.heap.size, 0, none⟩ = some (.int .i64 K) := Rg.keep hb (by first | omega | (simp; omega) | (simp; done)) (by go_cell); have c1 : w2.cell? ⟨w.heap.size, 1, none⟩ = some (.int .i64 B) := Rg.keep hb (by first | omega | (simp; omega) | (simp; done)) (by go_cell); have c2 : w2.cell? ⟨w.heap.size, 2, none⟩ = some (.int .i64 F) := Rg.keep hb (by first | omega | (simp; omega) | (simp; done)) (by go_cell); have c3 : w2.cell? ⟨w.heap.size, 3, none⟩ = some (.int .i64 R) := Rg.keep hb (by first | omega | (simp; omega) | (simp; done)) (by go_cell); have c4 : w2.cell? ⟨w.heap.size, 4, none⟩ = some (.int .i64 O) := Rg.keep hb (by first | omega | (simp; omega) | (simp; done)) (by go_cell); have c5 : w2.cell? ⟨w.heap.size, 5, none⟩ = some (.slice p zs.length c) := Rg.keep hb (by first | omega | (simp; omega) | (simp; done)) (by go_cell); have c6 : w2.cell? ⟨w.heap.size, 6, none⟩ = some (.slice q m d) := Rg.keep hb (by first | omega | (simp; omega) | (simp; done)) (by go_cell); have lc : w.heap.size < w2.heap.size := World.block_lt_of_cell? _ _ c0; replace KB := Lib.hid (KB.out.trans (hX.mono KB.out.size)); clear hb hW hX) | (go_at_call 15; (with_reducible refine (EX.out _ (HLA.out.below KB.out)).mono ?_); rintro e wX ⟨rfl, hb⟩; have KX := Lib.hid (KB.out.trans (hb.mono KB.out.size)); clear hb))
 go_ret
 exact ⟨rfl, KX.out⟩

set_option maxRecDepth 100000 in
set_option maxHeartbeats 2000000 in
theorem st_e (K B F R O : Int) (p : Option Addr) (zs : List Int) (c : Nat) (q : Option Addr) (vs : List (Int × Int)) (d : Nat) (a : Nat) (w : World) (b0 : -9223372036854775808 <= B) (b1 : B <= 9223372036854775807) (hn : zs.length <= maxLen) (hm : vs.length <= maxLen) (RA : Hid (SlI w p zs)) (RB : Hid (SlV w q vs)) (hc : zs.length <= c) (hc2 : c <= 9223372036854775807) (hd : vs.length <= d) (hd2 : d <= 9223372036854775807) (hLA : Tx.LA w) (hs : (decide ((vs.length : Int) <= 1000) && decide (zs.length <= 20)) = true) (ht : tE K B F R O zs vs = 0) (ha : a < zs.length) (bf my af : Nat) (hbf : sp (zs.take a) = bf) (hmy : zs.getD a 0 = my) (haf : sp (zs.drop (a + 1)) = af) (q1 : 1 <= bf) (q2 : 1 <= my) (q3 : 1 <= af) (hmm3 : vs.length = bf * my * af) (q5 : bf * af <= vs.length) (q6 : my <= vs.length) (q7 : bf <= vs.length) (q8 : af <= vs.length) (he : fe (snE K B F R O vs my af) (bf * af) 0 ≠ 0) :
  Calls Tryz.prog 9 #[Tn K B F R O p zs.length c q vs.length d, .int .i64 a] w fun en w' => en = .returned (.bool true) /\ Below w.heap.size w w' := by
 have HLA := Lib.hid hLA
 have EX := Lib.hid fun u h => exam12 u h
 have SM0 := fun u => tsmall K B F R O p zs.length c q vs.length d 1000 u
 have RV0 := fun u h1 h2 => rval K B F R O p zs c q vs d u hn hm h1 h2
 rw [hs] at SM0
 rw [ht] at RV0
 obtain ⟨hty, hv, tl, hval⟩ := tE_ok ht
 obtain ⟨s1, s2, -⟩ := sum_scan hty hval q2 q3 hmm3
 have he3 : fe (snE K B F R O vs my af) (bf * af) 0 = 3 := by
  rcases s2 with h | h
  ·exact absurd h he
  ·exact h
 have RD50 : ∀ u, Hid (SlI u p zs) -> Hid (SlV u q vs) -> Calls Tryz.prog 33 #[Tn K B F R O p zs.length c q vs.length d, .int .i64 a, .int .i64 5] u (TS 0 0 0 0 0 [] [] 3 u) := fun u h1 h2 => (rd_s K B F R O p zs c q vs d a 5 u b0 b1 hn hm h1 h2 ht ha hc hc2 rfl bf my af hbf hmy haf q1 q2 q3 hmm3 q5 q6 q7 q8).mono fun _ _ h => by
  rcases h with ⟨_, h⟩ | ⟨h, _⟩
  ·rw [he3] at h; exact h.ts
  ·exact absurd h he
 have RD10 : ∀ u, Hid (SlI u p zs) -> Hid (SlV u q vs) -> Calls Tryz.prog 33 #[Tn K B F R O p zs.length c q vs.length d, .int .i64 a, .int .i64 1] u (TS 0 0 0 0 0 [] [] 3 u) := fun u h1 h2 => (rd_e K B F R O p zs c q vs d a 1 u b0 b1 hn hm h1 h2 ht ha hc hc2 (by decide) (by decide) bf my af hbf hmy haf q1 q2 q3 hmm3 q5 q6 q7 q8).mono fun _ _ h => by
  rw [s1, he3] at h
  rcases h with ⟨_, h⟩ | ⟨h, _⟩
  ·exact h.ts
  ·exact absurd h (by decide)
 unfold TS at RD50 RD10
 obtain ⟨m, hmm⟩ : ∃ m, vs.length = m := ⟨_, rfl⟩
 rw [hmm] at SM0 RV0 RD50 RD10 ⊢
 have SM := Lib.hid SM0
 have RVV := Lib.hid RV0
 unfold Tn at *
 have RD5 := Lib.hid RD50
 have RD1 := Lib.hid RD10
 have g3 : decide ((a : Int) < 0) = false := by simp
 have g4 : decide ((zs.length : Int) <= a) = false := by simp; omega
 have g5 : decide (zs.length <= a) = false := by simp; omega
 clear hs ht ha SM0 RV0 RD50 RD10 hm hmm hmm3 hty hv tl hval s1 s2 he he3 hbf hmy haf q1 q2 q3 q5 q6 q7 q8 hc hc2 hd hd2
 go_enter Tryz.func9, Tryz.ntmps9
 go_wp2_with (first | (go_at_call 14; (with_reducible refine (SM.out _).mono ?_); rintro e w1 ⟨rfl, hb⟩; have hW : Below w.heap.size w (w.alloc (Obj.cells #[Value.int .i64 K, Value.int .i64 B, Value.int .i64 F, Value.int .i64 R, Value.int .i64 O, Value.slice p zs.length c, Value.slice q m d] 27)) := (Below.refl _ _).alloc (Nat.le_refl _) (Obj.cells #[Value.int .i64 K, Value.int .i64 B, Value.int .i64 F, Value.int .i64 R, Value.int .i64 O, Value.slice p zs.length c, Value.slice q m d] 27); have hX := hW.trans (hb.mono hW.size); have c0 : w1.cell? ⟨w.heap.size, 0, none⟩ = some (.int .i64 K) := Rg.keep hb (by first | omega | (simp; omega) | (simp; done)) (by go_cell); have c1 : w1.cell? ⟨w.heap.size, 1, none⟩ = some (.int .i64 B) := Rg.keep hb (by first | omega | (simp; omega) | (simp; done)) (by go_cell); have c2 : w1.cell? ⟨w.heap.size, 2, none⟩ = some (.int .i64 F) := Rg.keep hb (by first | omega | (simp; omega) | (simp; done)) (by go_cell); have c3 : w1.cell? ⟨w.heap.size, 3, none⟩ = some (.int .i64 R) := Rg.keep hb (by first | omega | (simp; omega) | (simp; done)) (by go_cell); have c4 : w1.cell? ⟨w.heap.size, 4, none⟩ = some (.int .i64 O) := Rg.keep hb (by first | omega | (simp; omega) | (simp; done)) (by go_cell); have c5 : w1.cell? ⟨w.heap.size, 5, none⟩ = some (.slice p zs.length c) := Rg.keep hb (by first | omega | (simp; omega) | (simp; done)) (by go_cell); have c6 : w1.cell? ⟨w.heap.size, 6, none⟩ = some (.slice q m d) := Rg.keep hb (by first | omega | (simp; omega) | (simp; done)) (by go_cell); have lc : w.heap.size < w1.heap.size := World.block_lt_of_cell? _ _ c0; have KB := Lib.hid hX; clear hb hW hX) | (go_at_call 21; (with_reducible refine (RVV.out _ (Lib.hid (SlI.keep KB.out RA.out)) (Lib.hid (SlV.below RB.out KB.out))).mono ?_); rintro e w2 ⟨rfl, hb⟩; have hW : Below w1.heap.size w1 w1 := Below.refl _ _; have hX := hW.trans (hb.mono hW.size); have c0 : w2.cell? ⟨w.heap.size, 0, none⟩ = some (.int .i64 K) := Rg.keep hb (by first | omega | (simp; omega) | (simp; done)) (by go_cell); have c1 : w2.cell? ⟨w.heap.size, 1, none⟩ = some (.int .i64 B) := Rg.keep hb (by first | omega | (simp; omega) | (simp; done)) (by go_cell); have c2 : w2.cell? ⟨w.heap.size, 2, none⟩ = some (.int .i64 F) := Rg.keep hb (by first | omega | (simp; omega) | (simp; done)) (by go_cell); have c3 : w2.cell? ⟨w.heap.size, 3, none⟩ = some (.int .i64 R) := Rg.keep hb (by first | omega | (simp; omega) | (simp; done)) (by go_cell); have c4 : w2.cell? ⟨w.heap.size, 4, none⟩ = some (.int .i64 O) := Rg.keep hb (by first | omega | (simp; omega) | (simp; done)) (by go_cell); have c5 : w2.cell? ⟨w.heap.size, 5, none⟩ = some (.slice p zs.length c) := Rg.keep hb (by first | omega | (simp; omega) | (simp; done)) (by go_cell); have c6 : w2.cell? ⟨w.heap.size, 6, none⟩ = some (.slice q m d) := Rg.keep hb (by first | omega | (simp; omega) | (simp; done)) (by go_cell); have lc : w.heap.size < w2.heap.size := World.block_lt_of_cell? _ _ c0; replace KB := Lib.hid (KB.out.trans (hX.mono KB.out.size)); clear hb hW hX) | (go_at_call 33; (with_reducible refine (RD5.out _ (Lib.hid (SlI.keep KB.out RA.out)) (Lib.hid (SlV.below RB.out KB.out))).mono ?_); rintro e w3 ⟨p3, kc3, q3, d3, rfl, -, -, hb⟩; have hW : Below w2.heap.size w2 w2 := Below.refl _ _; have hX := hW.trans (hb.mono hW.size); have c0 : w3.cell? ⟨w.heap.size, 0, none⟩ = some (.int .i64 K) := Rg.keep hb (by first | omega | (simp; omega) | (simp; done)) (by go_cell); have c1 : w3.cell? ⟨w.heap.size, 1, none⟩ = some (.int .i64 B) := Rg.keep hb (by first | omega | (simp; omega) | (simp; done)) (by go_cell); have c2 : w3.cell? ⟨w.heap.size, 2, none⟩ = some (.int .i64 F) := Rg.keep hb (by first | omega | (simp; omega) | (simp; done)) (by go_cell); have c3 : w3.cell? ⟨w.heap.size, 3, none⟩ = some (.int .i64 R) := Rg.keep hb (by first | omega | (simp; omega) | (simp; done)) (by go_cell); have c4 : w3.cell? ⟨w.heap.size, 4, none⟩ = some (.int .i64 O) := Rg.keep hb (by first | omega | (simp; omega) | (simp; done)) (by go_cell); have c5 : w3.cell? ⟨w.heap.size, 5, none⟩ = some (.slice p zs.length c) := Rg.keep hb (by first | omega | (simp; omega) | (simp; done)) (by go_cell); have c6 : w3.cell? ⟨w.heap.size, 6, none⟩ = some (.slice q m d) := Rg.keep hb (by first | omega | (simp; omega) | (simp; done)) (by go_cell); have lc : w.heap.size < w3.heap.size := World.block_lt_of_cell? _ _ c0; replace KB := Lib.hid (KB.out.trans (hX.mono KB.out.size)); clear hb hW hX) | (go_at_call 33; (with_reducible refine (RD1.out _ (Lib.hid (SlI.keep (KB.out.alloc KB.out.size (Obj.cells #[Value.int .i64 0, Value.int .i64 0, Value.int .i64 0, Value.int .i64 0, Value.int .i64 0, Value.slice p3 0 kc3, Value.slice q3 0 d3] 27)) RA.out)) (Lib.hid (SlV.below RB.out (KB.out.alloc KB.out.size (Obj.cells #[Value.int .i64 0, Value.int .i64 0, Value.int .i64 0, Value.int .i64 0, Value.int .i64 0, Value.slice p3 0 kc3, Value.slice q3 0 d3] 27))))).mono ?_); rintro e w4 ⟨p4, kc4, q4, d4, rfl, -, -, hb⟩; have hW : Below w3.heap.size w3 (w3.alloc (Obj.cells #[Value.int .i64 0, Value.int .i64 0, Value.int .i64 0, Value.int .i64 0, Value.int .i64 0, Value.slice p3 0 kc3, Value.slice q3 0 d3] 27)) := (Below.refl _ _).alloc (Nat.le_refl _) (Obj.cells #[Value.int .i64 0, Value.int .i64 0, Value.int .i64 0, Value.int .i64 0, Value.int .i64 0, Value.slice p3 0 kc3, Value.slice q3 0 d3] 27); have hX := hW.trans (hb.mono hW.size); have c0 : w4.cell? ⟨w.heap.size, 0, none⟩ = some (.int .i64 K) := Rg.keep hb (by first | omega | (simp; omega) | (simp; done)) (by go_cell); have c1 : w4.cell? ⟨w.heap.size, 1, none⟩ = some (.int .i64 B) := Rg.keep hb (by first | omega | (simp; omega) | (simp; done)) (by go_cell); have c2 : w4.cell? ⟨w.heap.size, 2, none⟩ = some (.int .i64 F) := Rg.keep hb (by first | omega | (simp; omega) | (simp; done)) (by go_cell); have c3 : w4.cell? ⟨w.heap.size, 3, none⟩ = some (.int .i64 R) := Rg.keep hb (by first | omega | (simp; omega) | (simp; done)) (by go_cell); have c4 : w4.cell? ⟨w.heap.size, 4, none⟩ = some (.int .i64 O) := Rg.keep hb (by first | omega | (simp; omega) | (simp; done)) (by go_cell); have c5 : w4.cell? ⟨w.heap.size, 5, none⟩ = some (.slice p zs.length c) := Rg.keep hb (by first | omega | (simp; omega) | (simp; done)) (by go_cell); have c6 : w4.cell? ⟨w.heap.size, 6, none⟩ = some (.slice q m d) := Rg.keep hb (by first | omega | (simp; omega) | (simp; done)) (by go_cell); have lc : w.heap.size < w4.heap.size := World.block_lt_of_cell? _ _ c0; have s0 : w4.cell? ⟨w3.heap.size, 0, none⟩ = some (.int .i64 0) := Rg.keep hb (by first | omega | (simp; omega) | (simp; done)) (by go_cell); have s1 : w4.cell? ⟨w3.heap.size, 1, none⟩ = some (.int .i64 0) := Rg.keep hb (by first | omega | (simp; omega) | (simp; done)) (by go_cell); have s2 : w4.cell? ⟨w3.heap.size, 2, none⟩ = some (.int .i64 0) := Rg.keep hb (by first | omega | (simp; omega) | (simp; done)) (by go_cell); have s3 : w4.cell? ⟨w3.heap.size, 3, none⟩ = some (.int .i64 0) := Rg.keep hb (by first | omega | (simp; omega) | (simp; done)) (by go_cell); have s4 : w4.cell? ⟨w3.heap.size, 4, none⟩ = some (.int .i64 0) := Rg.keep hb (by first | omega | (simp; omega) | (simp; done)) (by go_cell); have s5 : w4.cell? ⟨w3.heap.size, 5, none⟩ = some (.slice p3 0 kc3) := Rg.keep hb (by first | omega | (simp; omega) | (simp; done)) (by go_cell); have s6 : w4.cell? ⟨w3.heap.size, 6, none⟩ = some (.slice q3 0 d3) := Rg.keep hb (by first | omega | (simp; omega) | (simp; done)) (by go_cell); have ls : w3.heap.size < w4.heap.size := World.block_lt_of_cell? _ _ s0; replace KB := Lib.hid (KB.out.trans (hX.mono KB.out.size)); clear hb hW hX) | (go_at_call 15; (with_reducible refine (EX.out _ (HLA.out.below (KB.out.alloc KB.out.size (Obj.cells #[Value.int .i64 0, Value.int .i64 0, Value.int .i64 0, Value.int .i64 0, Value.int .i64 0, Value.slice p4 0 kc4, Value.slice q4 0 d4] 27)))).mono ?_); rintro e wX ⟨rfl, hb⟩; have KX := Lib.hid ((KB.out.alloc KB.out.size (Obj.cells #[Value.int .i64 0, Value.int .i64 0, Value.int .i64 0, Value.int .i64 0, Value.int .i64 0, Value.slice p4 0 kc4, Value.slice q4 0 d4] 27)).trans (hb.mono (KB.out.alloc KB.out.size (Obj.cells #[Value.int .i64 0, Value.int .i64 0, Value.int .i64 0, Value.int .i64 0, Value.int .i64 0, Value.slice p4 0 kc4, Value.slice q4 0 d4] 27)).size)); clear hb))
 go_ret
 exact ⟨rfl, KX.out⟩
end Go.Proofs.YteaaikmejacpaaaGreatDoor.Te

namespace Go.Proofs.YteaaikmejacpaaaGreatDoor.Te
open Go.ChangeShapes Go.WideShapes Go.ChangeAt Go.RowKit
open Fx Va Sh
set_option maxRecDepth 8000
set_option linter.unusedVariables false
set_option linter.unusedSimpArgs false

theorem own_ltne {v : Value} {A g : Nat} (h : ∀ k, v.ownBlock = some k -> k < A) (hg : A <= g) : v.ownBlock = none \/ v.ownBlock ≠ some g := by
 cases hb : v.ownBlock with
 | none => exact .inl rfl
 | some q => exact .inr (fun e => by have e' : q = g := Option.some.inj e; have := h _ hb; omega)
theorem tE_of {K B F R O : Int} {zs : List Int} {vs : List (Int × Int)} (h1 : ty K B F R O = true) (h2 : vE zs = 0) (h3 : (vs.length : Int) = sp zs) (h4 : vs.any (badV K B F R O) = false) : tE K B F R O zs vs = 0 := by
 unfold tE
 rw [if_pos h1, if_neg (by rw [h2]; decide), if_neg (by rw [h4, h3]; simp)]

set_option maxRecDepth 100000 in
set_option maxHeartbeats 2000000 in
theorem st_z (K B F R O : Int) (p : Option Addr) (zs : List Int) (c : Nat) (q : Option Addr) (vs : List (Int × Int)) (d : Nat) (a : Nat) (w : World) (b0 : -9223372036854775808 <= B) (b1 : B <= 9223372036854775807) (hn : zs.length <= maxLen) (hm : vs.length <= maxLen) (RA : Hid (SlI w p zs)) (RB : Hid (SlV w q vs)) (hc : zs.length <= c) (hc2 : c <= 9223372036854775807) (hd : vs.length <= d) (hd2 : d <= 9223372036854775807) (hLA : Tx.LA w) (hs : (decide ((vs.length : Int) <= 1000) && decide (zs.length <= 20)) = true) (ht : tE K B F R O zs vs = 0) (ha : a < zs.length) (bf my af : Nat) (hbf : sp (zs.take a) = bf) (hmy : zs.getD a 0 = my) (haf : sp (zs.drop (a + 1)) = af) (q1 : 1 <= bf) (q2 : 1 <= my) (q3 : 1 <= af) (hmm3 : vs.length = bf * my * af) (q5 : bf * af <= vs.length) (q6 : my <= vs.length) (q7 : bf <= vs.length) (q8 : af <= vs.length) (he : fe (snE K B F R O vs my af) (bf * af) 0 = 0) :
  Calls Tryz.prog 9 #[Tn K B F R O p zs.length c q vs.length d, .int .i64 a] w fun en w' => en = .returned (.bool true) /\ Below w.heap.size w w' := by
 have HLA := Lib.hid hLA
 have EX := Lib.hid fun u h => exam12 u h
 have SM0 := fun u => tsmall K B F R O p zs.length c q vs.length d 1000 u
 have RV0 := fun u h1 h2 => rval K B F R O p zs c q vs d u hn hm h1 h2
 rw [hs] at SM0
 rw [ht] at RV0
 obtain ⟨hty, hv, tl, hval⟩ := tE_ok ht
 obtain ⟨h6, -, -, hsp, -⟩ := valid_of hv
 obtain ⟨s1, -, s3⟩ := sum_scan hty hval q2 q3 hmm3
 obtain ⟨s3, -⟩ := s3 he
 have hlast := last_sum hty hval q2 q3 hmm3 he
 have hSl : (scA (fop K B F R O) vs my af (bf * my * af)).length = vs.length := by rw [scA_length, <- hmm3]
 have htS : tE K B F R O zs (scA (fop K B F R O) vs my af (bf * my * af)) = 0 := tE_of hty hv (by rw [hSl]; exact tl) s3
 have hLl := rdVs_length 1 K B F R O vs my af (bf * af)
 have RD50 : ∀ u, Hid (SlI u p zs) -> Hid (SlV u q vs) -> Calls Tryz.prog 33 #[Tn K B F R O p zs.length c q vs.length d, .int .i64 a, .int .i64 5] u (TU K B F R O zs (scA (fop K B F R O) vs my af (bf * my * af)) zs.length vs.length 0 u) := fun u h1 h2 => (rd_s K B F R O p zs c q vs d a 5 u b0 b1 hn hm h1 h2 ht ha hc hc2 rfl bf my af hbf hmy haf q1 q2 q3 hmm3 q5 q6 q7 q8).mono fun _ _ h => by
  rcases h with ⟨h, _⟩ | ⟨_, h⟩
  ·exact absurd he h
  ·exact h.tu rfl hSl
 have RD10 : ∀ u, Hid (SlI u p zs) -> Hid (SlV u q vs) -> Calls Tryz.prog 33 #[Tn K B F R O p zs.length c q vs.length d, .int .i64 a, .int .i64 1] u (TU K B F R O (rst zs a) (rdVs 1 K B F R O vs my af (bf * af)) (zs.length - 1) (bf * af) 0 u) := fun u h1 h2 => (rd_e K B F R O p zs c q vs d a 1 u b0 b1 hn hm h1 h2 ht ha hc hc2 (by decide) (by decide) bf my af hbf hmy haf q1 q2 q3 hmm3 q5 q6 q7 q8).mono fun _ _ h => by
  rw [s1] at h
  rcases h with ⟨h, _⟩ | ⟨_, h⟩
  ·exact absurd he h
  ·exact h.tu (rst_length ha) hLl
 have hm4 : vs.length <= 4096 := by omega
 have SLC0 := fun (p3 : Option Addr) (kc3 : Nat) (q3' : Option Addr) (d3 : Nat) (g1 : zs.length <= kc3) (g2 : kc3 <= 9223372036854775807) (g3 : vs.length <= d3) (g4 : d3 <= 9223372036854775807) (u : World) h1 h2 => ts_c K B F R O p3 zs kc3 q3' (scA (fop K B F R O) vs my af (bf * my * af)) d3 a (my - 1) my u b0 b1 hn (by rw [hSl]; exact hm) h1 h2 htS ha g1 g2 (by rw [hSl]; exact g3) g4 (by omega) (by rw [hmy]; omega) bf my af hbf hmy haf q1 q2 q3 scA_length (by rw [hSl]; exact q5) (by rw [hSl]; exact q6) (by rw [hSl]; exact q7) (by rw [hSl]; exact q8)
 unfold TRes at SLC0
 rw [hlast, hSl, List.length_set] at SLC0
 obtain ⟨L9, hL9⟩ : ∃ L, rdVs 1 K B F R O vs my af (bf * af) = L := ⟨_, rfl⟩
 obtain ⟨SA, hSA⟩ : ∃ L, scA (fop K B F R O) vs my af (bf * my * af) = L := ⟨_, rfl⟩
 rw [hL9] at RD10 SLC0 hLl
 rw [hSA] at RD50 SLC0
 have hN4 : bf * af <= 4096 := by omega
 obtain ⟨N, hN⟩ : ∃ N, bf * af = N := ⟨_, rfl⟩
 rw [hN] at RD10 hLl hN4
 rw [hLl] at SLC0
 have BV0 := fun (r1 r2 : Option Addr) (e1 e2 : Nat) (u : World) h1 h2 => bvals r1 r2 L9 L9 e1 e2 u (by rw [hLl]; unfold maxLen; omega) (by rw [hLl]; unfold maxLen; omega) h1 h2
 rw [decide_eq_true (show L9 = L9 from rfl), hLl] at BV0
 obtain ⟨Z9, hZ9⟩ : ∃ Z, zs.set a ((my : Int) - ((my - 1 : Nat) : Int)) = Z := ⟨_, rfl⟩
 rw [hZ9] at SLC0
 obtain ⟨k1, hk1⟩ : ∃ k, my - 1 = k := ⟨_, rfl⟩
 rw [hk1] at SLC0
 have wk : IntKind.i64.wrap ((my : Int) - 1) = (k1 : Int) := by rw [IntKind.wrap_i64]; omega
 have hkm : (my : Int) - 1 = (k1 : Int) := by omega
 have HL9 := Lib.hid hLl
 unfold TU at RD50 RD10
 obtain ⟨bb, oo, hpp, hcell⟩ := RA.out a ha
 rw [hmy] at hcell
 have hbb : bb < w.heap.size := World.block_lt_of_cell? _ _ hcell
 have HCELL := Lib.hid hcell
 subst hpp
 obtain ⟨m, hmm⟩ : ∃ m, vs.length = m := ⟨_, rfl⟩
 rw [hmm] at SM0 RV0 RD50 RD10 SLC0 ⊢
 have SM := Lib.hid SM0
 have RVV := Lib.hid RV0
 unfold Tn at *
 have RD5 := Lib.hid RD50
 have RD1 := Lib.hid RD10
 have SLH := Lib.hid SLC0
 have BV := Lib.hid BV0
 have WK := Lib.hid wk
 have g3 : decide ((a : Int) < 0) = false := by simp
 have g4 : decide ((zs.length : Int) <= a) = false := by simp; omega
 have g5 : decide (zs.length <= a) = false := by simp; omega
 have a0 : (0 : Int) <= a := by omega
 have a1 : (a : Int) < zs.length := by omega
 clear hs ht ha SM0 RV0 RD50 RD10 SLC0 BV0 wk hkm hm hmm hmm3 hty hv tl hval s1 s3 he hbf hmy haf q1 q2 q3 q5 q6 q7 q8 hc hc2 hd hd2 hlast hSl htS hLl hL9 hSA hN hZ9 hk1 hcell hsp hm4
 go_enter Tryz.func9, Tryz.ntmps9
 go_upto_region 9 with (first | (go_at_call 14; (with_reducible refine (SM.out _).mono ?_); rintro e w1 ⟨rfl, hb⟩; have hW : Below w.heap.size w (w.alloc (Obj.cells #[Value.int .i64 K, Value.int .i64 B, Value.int .i64 F, Value.int .i64 R, Value.int .i64 O, Value.slice (some ⟨bb, oo, none⟩) zs.length c, Value.slice q m d] 27)) := (Below.refl _ _).alloc (Nat.le_refl _) (Obj.cells #[Value.int .i64 K, Value.int .i64 B, Value.int .i64 F, Value.int .i64 R, Value.int .i64 O, Value.slice (some ⟨bb, oo, none⟩) zs.length c, Value.slice q m d] 27); have hX := hW.trans (hb.mono hW.size); have c0 : w1.cell? ⟨w.heap.size, 0, none⟩ = some (.int .i64 K) := Rg.keep hb (by first | omega | (simp; omega) | (simp; done)) (by go_cell); have c1 : w1.cell? ⟨w.heap.size, 1, none⟩ = some (.int .i64 B) := Rg.keep hb (by first | omega | (simp; omega) | (simp; done)) (by go_cell); have c2 : w1.cell? ⟨w.heap.size, 2, none⟩ = some (.int .i64 F) := Rg.keep hb (by first | omega | (simp; omega) | (simp; done)) (by go_cell); have c3 : w1.cell? ⟨w.heap.size, 3, none⟩ = some (.int .i64 R) := Rg.keep hb (by first | omega | (simp; omega) | (simp; done)) (by go_cell); have c4 : w1.cell? ⟨w.heap.size, 4, none⟩ = some (.int .i64 O) := Rg.keep hb (by first | omega | (simp; omega) | (simp; done)) (by go_cell); have c5 : w1.cell? ⟨w.heap.size, 5, none⟩ = some (.slice (some ⟨bb, oo, none⟩) zs.length c) := Rg.keep hb (by first | omega | (simp; omega) | (simp; done)) (by go_cell); have c6 : w1.cell? ⟨w.heap.size, 6, none⟩ = some (.slice q m d) := Rg.keep hb (by first | omega | (simp; omega) | (simp; done)) (by go_cell); have lc : w.heap.size < w1.heap.size := World.block_lt_of_cell? _ _ c0; have KB := Lib.hid hX; clear hb hW hX) | (go_at_call 21; (with_reducible refine (RVV.out _ (Lib.hid (SlI.keep KB.out RA.out)) (Lib.hid (SlV.below RB.out KB.out))).mono ?_); rintro e w2 ⟨rfl, hb⟩; have hW : Below w1.heap.size w1 w1 := Below.refl _ _; have hX := hW.trans (hb.mono hW.size); have c0 : w2.cell? ⟨w.heap.size, 0, none⟩ = some (.int .i64 K) := Rg.keep hb (by first | omega | (simp; omega) | (simp; done)) (by go_cell); have c1 : w2.cell? ⟨w.heap.size, 1, none⟩ = some (.int .i64 B) := Rg.keep hb (by first | omega | (simp; omega) | (simp; done)) (by go_cell); have c2 : w2.cell? ⟨w.heap.size, 2, none⟩ = some (.int .i64 F) := Rg.keep hb (by first | omega | (simp; omega) | (simp; done)) (by go_cell); have c3 : w2.cell? ⟨w.heap.size, 3, none⟩ = some (.int .i64 R) := Rg.keep hb (by first | omega | (simp; omega) | (simp; done)) (by go_cell); have c4 : w2.cell? ⟨w.heap.size, 4, none⟩ = some (.int .i64 O) := Rg.keep hb (by first | omega | (simp; omega) | (simp; done)) (by go_cell); have c5 : w2.cell? ⟨w.heap.size, 5, none⟩ = some (.slice (some ⟨bb, oo, none⟩) zs.length c) := Rg.keep hb (by first | omega | (simp; omega) | (simp; done)) (by go_cell); have c6 : w2.cell? ⟨w.heap.size, 6, none⟩ = some (.slice q m d) := Rg.keep hb (by first | omega | (simp; omega) | (simp; done)) (by go_cell); have lc : w.heap.size < w2.heap.size := World.block_lt_of_cell? _ _ c0; replace KB := Lib.hid (KB.out.trans (hX.mono KB.out.size)); clear hb hW hX) | (go_at_call 33; (with_reducible refine (RD5.out _ (Lib.hid (SlI.keep KB.out RA.out)) (Lib.hid (SlV.below RB.out KB.out))).mono ?_); rintro e w3 ⟨p3, kc3, q3, d3, rfl, hn3, hc3, hm3, hd3, hsi, hsv, hb⟩; have hW : Below w2.heap.size w2 w2 := Below.refl _ _; have hX := hW.trans (hb.mono hW.size); have c0 : w3.cell? ⟨w.heap.size, 0, none⟩ = some (.int .i64 K) := Rg.keep hb (by first | omega | (simp; omega) | (simp; done)) (by go_cell); have c1 : w3.cell? ⟨w.heap.size, 1, none⟩ = some (.int .i64 B) := Rg.keep hb (by first | omega | (simp; omega) | (simp; done)) (by go_cell); have c2 : w3.cell? ⟨w.heap.size, 2, none⟩ = some (.int .i64 F) := Rg.keep hb (by first | omega | (simp; omega) | (simp; done)) (by go_cell); have c3 : w3.cell? ⟨w.heap.size, 3, none⟩ = some (.int .i64 R) := Rg.keep hb (by first | omega | (simp; omega) | (simp; done)) (by go_cell); have c4 : w3.cell? ⟨w.heap.size, 4, none⟩ = some (.int .i64 O) := Rg.keep hb (by first | omega | (simp; omega) | (simp; done)) (by go_cell); have c5 : w3.cell? ⟨w.heap.size, 5, none⟩ = some (.slice (some ⟨bb, oo, none⟩) zs.length c) := Rg.keep hb (by first | omega | (simp; omega) | (simp; done)) (by go_cell); have c6 : w3.cell? ⟨w.heap.size, 6, none⟩ = some (.slice q m d) := Rg.keep hb (by first | omega | (simp; omega) | (simp; done)) (by go_cell); have lc : w.heap.size < w3.heap.size := World.block_lt_of_cell? _ _ c0; replace KB := Lib.hid (KB.out.trans (hX.mono KB.out.size)); have SI3 := Lib.hid hsi; have SV3 := Lib.hid hsv; have K3 := Lib.hid (Below.refl w3.heap.size w3); clear hb hW hX hsi hsv) | (go_at_call 33; (with_reducible refine (RD1.out _ (Lib.hid (SlI.keep (KB.out.alloc KB.out.size (Obj.cells #[Value.int .i64 K, Value.int .i64 B, Value.int .i64 F, Value.int .i64 R, Value.int .i64 O, Value.slice p3 zs.length kc3, Value.slice q3 m d3] 27)) RA.out)) (Lib.hid (SlV.below RB.out (KB.out.alloc KB.out.size (Obj.cells #[Value.int .i64 K, Value.int .i64 B, Value.int .i64 F, Value.int .i64 R, Value.int .i64 O, Value.slice p3 zs.length kc3, Value.slice q3 m d3] 27))))).mono ?_); rintro e w4 ⟨p4, kc4, q4, d4, rfl, hn4, hc4, hm4, hd4, hsi, hsv, hb⟩; have hW : Below w3.heap.size w3 (w3.alloc (Obj.cells #[Value.int .i64 K, Value.int .i64 B, Value.int .i64 F, Value.int .i64 R, Value.int .i64 O, Value.slice p3 zs.length kc3, Value.slice q3 m d3] 27)) := (Below.refl _ _).alloc (Nat.le_refl _) (Obj.cells #[Value.int .i64 K, Value.int .i64 B, Value.int .i64 F, Value.int .i64 R, Value.int .i64 O, Value.slice p3 zs.length kc3, Value.slice q3 m d3] 27); have hX := hW.trans (hb.mono hW.size); have c0 : w4.cell? ⟨w.heap.size, 0, none⟩ = some (.int .i64 K) := Rg.keep hb (by first | omega | (simp; omega) | (simp; done)) (by go_cell); have c1 : w4.cell? ⟨w.heap.size, 1, none⟩ = some (.int .i64 B) := Rg.keep hb (by first | omega | (simp; omega) | (simp; done)) (by go_cell); have c2 : w4.cell? ⟨w.heap.size, 2, none⟩ = some (.int .i64 F) := Rg.keep hb (by first | omega | (simp; omega) | (simp; done)) (by go_cell); have c3 : w4.cell? ⟨w.heap.size, 3, none⟩ = some (.int .i64 R) := Rg.keep hb (by first | omega | (simp; omega) | (simp; done)) (by go_cell); have c4 : w4.cell? ⟨w.heap.size, 4, none⟩ = some (.int .i64 O) := Rg.keep hb (by first | omega | (simp; omega) | (simp; done)) (by go_cell); have c5 : w4.cell? ⟨w.heap.size, 5, none⟩ = some (.slice (some ⟨bb, oo, none⟩) zs.length c) := Rg.keep hb (by first | omega | (simp; omega) | (simp; done)) (by go_cell); have c6 : w4.cell? ⟨w.heap.size, 6, none⟩ = some (.slice q m d) := Rg.keep hb (by first | omega | (simp; omega) | (simp; done)) (by go_cell); have lc : w.heap.size < w4.heap.size := World.block_lt_of_cell? _ _ c0; have s0 : w4.cell? ⟨w3.heap.size, 0, none⟩ = some (.int .i64 K) := Rg.keep hb (by first | omega | (simp; omega) | (simp; done)) (by go_cell); have s1 : w4.cell? ⟨w3.heap.size, 1, none⟩ = some (.int .i64 B) := Rg.keep hb (by first | omega | (simp; omega) | (simp; done)) (by go_cell); have s2 : w4.cell? ⟨w3.heap.size, 2, none⟩ = some (.int .i64 F) := Rg.keep hb (by first | omega | (simp; omega) | (simp; done)) (by go_cell); have s3 : w4.cell? ⟨w3.heap.size, 3, none⟩ = some (.int .i64 R) := Rg.keep hb (by first | omega | (simp; omega) | (simp; done)) (by go_cell); have s4 : w4.cell? ⟨w3.heap.size, 4, none⟩ = some (.int .i64 O) := Rg.keep hb (by first | omega | (simp; omega) | (simp; done)) (by go_cell); have s5 : w4.cell? ⟨w3.heap.size, 5, none⟩ = some (.slice p3 zs.length kc3) := Rg.keep hb (by first | omega | (simp; omega) | (simp; done)) (by go_cell); have s6 : w4.cell? ⟨w3.heap.size, 6, none⟩ = some (.slice q3 m d3) := Rg.keep hb (by first | omega | (simp; omega) | (simp; done)) (by go_cell); have ls : w3.heap.size < w4.heap.size := World.block_lt_of_cell? _ _ s0; replace KB := Lib.hid (KB.out.trans (hX.mono KB.out.size)); replace K3 := Lib.hid (K3.out.trans (hX.mono K3.out.size)); have SI4 := Lib.hid hsi; have SV4 := Lib.hid hsv; have K4 := Lib.hid (Below.refl w4.heap.size w4); clear hb hW hX hsi hsv))
 have hWg : Below w4.heap.size w4 (w4.alloc (Obj.cells #[Value.int .i64 K, Value.int .i64 B, Value.int .i64 F, Value.int .i64 R, Value.int .i64 O, Value.slice p4 (zs.length - 1) kc4, Value.slice q4 N d4] 27)) := (Below.refl _ _).alloc (Nat.le_refl _) _
 have r6 : (w4.alloc (Obj.cells #[Value.int .i64 K, Value.int .i64 B, Value.int .i64 F, Value.int .i64 R, Value.int .i64 O, Value.slice p4 (zs.length - 1) kc4, Value.slice q4 N d4] 27)).cell? ⟨w4.heap.size, 6, none⟩ = some (.slice q4 N d4) := by go_cell
 have l4 : w4.heap.size < (w4.alloc (Obj.cells #[Value.int .i64 K, Value.int .i64 B, Value.int .i64 F, Value.int .i64 R, Value.int .i64 O, Value.slice p4 (zs.length - 1) kc4, Value.slice q4 N d4] 27)).heap.size := by simp
 obtain ⟨wg, hwg⟩ : ∃ x, (w4.alloc (Obj.cells #[Value.int .i64 K, Value.int .i64 B, Value.int .i64 F, Value.int .i64 R, Value.int .i64 O, Value.slice p4 (zs.length - 1) kc4, Value.slice q4 N d4] 27)) = x := ⟨_, rfl⟩
 rw [hwg] at hWg r6 l4 ⊢
 have ls : w3.heap.size < w4.heap.size := World.block_lt_of_cell? _ _ s0
 have lc4 : w.heap.size < w4.heap.size := World.block_lt_of_cell? _ _ c5
 replace s0 := Rg.keep hWg ls s0
 replace s1 := Rg.keep hWg ls s1
 replace s2 := Rg.keep hWg ls s2
 replace s3 := Rg.keep hWg ls s3
 replace s4 := Rg.keep hWg ls s4
 replace s5 := Rg.keep hWg ls s5
 replace s6 := Rg.keep hWg ls s6
 replace c5 := Rg.keep hWg lc4 c5
 have KG := Lib.hid (KB.out.trans (hWg.mono KB.out.size))
 have K3g := Lib.hid (K3.out.trans (hWg.mono K3.out.size))
 have K4g := Lib.hid hWg
 have hcell := Rg.keep KG.out hbb HCELL.out
 have SLC : Hid (∀ u, Below wg.heap.size wg u -> Calls Tryz.prog 35 #[.agg #[.int .i64 K, .int .i64 B, .int .i64 F, .int .i64 R, .int .i64 O, .slice p3 zs.length kc3, .slice q3 m d3], .int .i64 a, .int .i64 k1, .int .i64 my] u fun en u' => ∃ p9 kc9 q9 d9, en = .returned (.tuple #[.agg #[.int .i64 K, .int .i64 B, .int .i64 F, .int .i64 R, .int .i64 O, .slice p9 zs.length kc9, .slice q9 N d9], .int .i64 0]) /\ u'.ownsRow u.heap.size 29 2 (.slice q9 N d9) N (flV L9) /\ Below u.heap.size u u') := Lib.hid fun u h => by
  have KK := K3g.out.trans (h.mono K3g.out.size)
  refine (SLH.out p3 kc3 q3 d3 hn3 hc3 hm3 hd3 u (Lib.hid (SlI.keep KK SI3.out)) (Lib.hid (SlV.below SV3.out KK))).mono fun _ _ g => ?_
  obtain ⟨p9, kc9, q9, d9, e9, -, o2, hb⟩ := g
  exact ⟨p9, kc9, q9, d9, e9, o2, hb⟩
 clear hwg hWg SLH SI3 SV3 K3 K3g RD5 RD1 SM RVV
 have wk := WK.out
 have HS : Hid (∀ u u' : World, (u.cell? ⟨w3.heap.size, 0, none⟩ = some (.int .i64 K) /\ u.cell? ⟨w3.heap.size, 1, none⟩ = some (.int .i64 B) /\ u.cell? ⟨w3.heap.size, 2, none⟩ = some (.int .i64 F) /\ u.cell? ⟨w3.heap.size, 3, none⟩ = some (.int .i64 R) /\ u.cell? ⟨w3.heap.size, 4, none⟩ = some (.int .i64 O) /\ u.cell? ⟨w3.heap.size, 5, none⟩ = some (.slice p3 zs.length kc3) /\ u.cell? ⟨w3.heap.size, 6, none⟩ = some (.slice q3 m d3) /\ u.cell? ⟨w.heap.size, 5, none⟩ = some (.slice (some ⟨bb, oo, none⟩) zs.length c) /\ u.cell? ⟨bb, oo + a, none⟩ = some (.int .i64 my) /\ Below wg.heap.size wg u) -> Below u.heap.size u u' -> (u'.cell? ⟨w3.heap.size, 0, none⟩ = some (.int .i64 K) /\ u'.cell? ⟨w3.heap.size, 1, none⟩ = some (.int .i64 B) /\ u'.cell? ⟨w3.heap.size, 2, none⟩ = some (.int .i64 F) /\ u'.cell? ⟨w3.heap.size, 3, none⟩ = some (.int .i64 R) /\ u'.cell? ⟨w3.heap.size, 4, none⟩ = some (.int .i64 O) /\ u'.cell? ⟨w3.heap.size, 5, none⟩ = some (.slice p3 zs.length kc3) /\ u'.cell? ⟨w3.heap.size, 6, none⟩ = some (.slice q3 m d3) /\ u'.cell? ⟨w.heap.size, 5, none⟩ = some (.slice (some ⟨bb, oo, none⟩) zs.length c) /\ u'.cell? ⟨bb, oo + a, none⟩ = some (.int .i64 my) /\ Below wg.heap.size wg u')) := Lib.hid (fun u u' h hb => ⟨Rg.keep hb (World.block_lt_of_cell? _ _ h.1) h.1, Rg.keep hb (World.block_lt_of_cell? _ _ h.2.1) h.2.1, Rg.keep hb (World.block_lt_of_cell? _ _ h.2.2.1) h.2.2.1, Rg.keep hb (World.block_lt_of_cell? _ _ h.2.2.2.1) h.2.2.2.1, Rg.keep hb (World.block_lt_of_cell? _ _ h.2.2.2.2.1) h.2.2.2.2.1, Rg.keep hb (World.block_lt_of_cell? _ _ h.2.2.2.2.2.1) h.2.2.2.2.2.1, Rg.keep hb (World.block_lt_of_cell? _ _ h.2.2.2.2.2.2.1) h.2.2.2.2.2.2.1, Rg.keep hb (World.block_lt_of_cell? _ _ h.2.2.2.2.2.2.2.1) h.2.2.2.2.2.2.2.1, Rg.keep hb (World.block_lt_of_cell? _ _ h.2.2.2.2.2.2.2.2.1) h.2.2.2.2.2.2.2.2.1, h.2.2.2.2.2.2.2.2.2.trans (hb.mono h.2.2.2.2.2.2.2.2.2.size)⟩)
 go_cut [9, 10] from 53 to 69 (fun p9v e9 wx => ∃ (g9 : Nat) (p9 : Option Addr) (kc9 : Nat) (q9 : Option Addr) (d9 : Nat), p9v = .pointer (some ⟨g9, 0, none⟩) /\ e9 = .int .i64 0 /\ Hid (B7 wx (g9) (.int .i64 K) (.int .i64 B) (.int .i64 F) (.int .i64 R) (.int .i64 O) (.slice p9 zs.length kc9) (.slice q9 N d9)) /\ Hid (SlV wx q9 L9) /\ Hid (Below wg.heap.size wg wx))
 case first =>
  refine Rk.begin (S := fun wS => wS.cell? ⟨w3.heap.size, 0, none⟩ = some (.int .i64 K) /\ wS.cell? ⟨w3.heap.size, 1, none⟩ = some (.int .i64 B) /\ wS.cell? ⟨w3.heap.size, 2, none⟩ = some (.int .i64 F) /\ wS.cell? ⟨w3.heap.size, 3, none⟩ = some (.int .i64 R) /\ wS.cell? ⟨w3.heap.size, 4, none⟩ = some (.int .i64 O) /\ wS.cell? ⟨w3.heap.size, 5, none⟩ = some (.slice p3 zs.length kc3) /\ wS.cell? ⟨w3.heap.size, 6, none⟩ = some (.slice q3 m d3) /\ wS.cell? ⟨w.heap.size, 5, none⟩ = some (.slice (some ⟨bb, oo, none⟩) zs.length c) /\ wS.cell? ⟨bb, oo + a, none⟩ = some (.int .i64 my) /\ Below wg.heap.size wg wS) 18 (by kernel_rfl) ⟨s0, s1, s2, s3, s4, s5, s6, c5, hcell, Below.drew (Below.refl _ _)⟩ (fun hHeld => ?_)
  refine SqR.l [18] 0 ?_
  refine SqR.p 1 ?_
  refine SqR.p 2 ?_
  refine SqR.l [18] 3 ?_
  refine SqR.p 4 ?_
  refine SqR.p 5 ?_
  refine SqR.l [18] 6 ?_
  refine SqR.p 7 ?_
  refine SqR.p 8 ?_
  refine SqR.l [18] 9 ?_
  refine SqR.p 10 ?_
  refine SqR.p 11 ?_
  refine SqR.l [18] 12 ?_
  refine Rk.two (i := 13) (j := 17) (by kernel_rfl) rfl rfl (fun KK hK => ?_) (fun KK hK => ?_)
  ·rw [if_pos (by kernel_rfl)]
   go_simp
   ((with_reducible refine (SLC.out _ (hHeld.2.2.2.2.2.2.2.2.2)).mono ?_); rintro e u7 ⟨p9, kc9, q9, d9, rfl, O9, hb⟩)
   have hNew := HS.out _ _ hHeld hb
   have hsu := hb.size
   try simp at hsu
   have HL7 := fun k e => (O9.lt k e).2
   first | (refine hK.out _ _ (fun _ => hNew) (fun _ => ?_)) | (refine hK.out _ _ hNew (fun _ => ?_)) | (go_wp2_with fail; refine hK.out _ _ hNew (fun _ => ?_))
   replace hHeld := hNew
   clear hNew hb
   clear hK KK
   refine SqR.p 14 ?_
   refine SqR.p 15 ?_
   refine SqR.p 16 ?_
   refine Rk.one (i := 17) (by kernel_rfl) rfl (fun KK hK => ?_)
   rw [if_pos (by kernel_rfl)]
   go_simp
   have hNew := HS.out _ _ hHeld ((Below.refl _ _).alloc (Nat.le_refl _) (Obj.cells #[Value.int .i64 0, Value.int .i64 0, Value.int .i64 0, Value.int .i64 0, Value.int .i64 0, Value.slice none 0 0, Value.slice none 0 0] 27))
   have M7 := B7.new u7 27 (.int .i64 0) (.int .i64 0) (.int .i64 0) (.int .i64 0) (.int .i64 0) (.slice none 0 0) (.slice none 0 0)
   replace O9 := O9.alloc (Obj.cells #[Value.int .i64 0, Value.int .i64 0, Value.int .i64 0, Value.int .i64 0, Value.int .i64 0, Value.slice none 0 0, Value.slice none 0 0] 27)
   refine hK.out _ _ hNew (fun _ => ?_)
   replace hHeld := hNew
   clear hNew
   clear hK KK
   refine Rk.tail [18, 19] [_, _] (by kernel_rfl) (by kernel_rfl) rfl (by decide) ?_
   obtain ⟨-, -, -, -, -, -, -, -, -, K8⟩ := hHeld
   have M8 := M7
   obtain ⟨⟨m0, m1, m2, m3, m4, m5, m6⟩, ⟨g0, g1, g2, g3, g4, g5, g6⟩⟩ := M7
   have lm := M8.lt
   have hnb : wg.heap.size <= u7.heap.size := by first | exact Nat.le_refl _ | omega
   have hr9 : (Value.slice q9 N d9).ownBlock = none \/ (Value.slice q9 N d9).ownBlock ≠ some u7.heap.size := own_ltne HL7 (Nat.le_refl _)
   generalize (u7.alloc (Obj.cells #[Value.int .i64 0, Value.int .i64 0, Value.int .i64 0, Value.int .i64 0, Value.int .i64 0, Value.slice none 0 0, Value.slice none 0 0] 27)) = gz at *
   go_wp2_with fail
   go_meet
   exact ⟨u7.heap.size, p9, kc9, q9, d9, rfl, rfl, Lib.hid M8.st, Lib.hid (SlV_of (own_far7 O9 hr9) HL9.out), Lib.hid (below_set7 K8 hnb)⟩
  ·rw [if_pos (by kernel_rfl)]
   go_simp
   have hNew := HS.out _ _ hHeld ((Below.refl _ _).alloc (Nat.le_refl _) (Obj.cells #[Value.int .i64 0, Value.int .i64 0, Value.int .i64 0, Value.int .i64 0, Value.int .i64 0, Value.slice none 0 0, Value.slice none 0 0] 27))
   have M7 : B7 (wg.alloc (Obj.cells #[Value.int .i64 0, Value.int .i64 0, Value.int .i64 0, Value.int .i64 0, Value.int .i64 0, Value.slice none 0 0, Value.slice none 0 0] 27)).drew (wg.heap.size) (.int .i64 0) (.int .i64 0) (.int .i64 0) (.int .i64 0) (.int .i64 0) (.slice none 0 0) (.slice none 0 0) := B7.new wg _ (.int .i64 0) (.int .i64 0) (.int .i64 0) (.int .i64 0) (.int .i64 0) (.slice none 0 0) (.slice none 0 0)
   refine hK.out _ _ hNew (fun _ => ?_)
   replace hHeld := hNew
   clear hNew
   replace hHeld : (wg.alloc (Obj.cells #[Value.int .i64 0, Value.int .i64 0, Value.int .i64 0, Value.int .i64 0, Value.int .i64 0, Value.slice none 0 0, Value.slice none 0 0] 27)).drew.cell? ⟨w3.heap.size, 0, none⟩ = some (.int .i64 K) /\ (wg.alloc (Obj.cells #[Value.int .i64 0, Value.int .i64 0, Value.int .i64 0, Value.int .i64 0, Value.int .i64 0, Value.slice none 0 0, Value.slice none 0 0] 27)).drew.cell? ⟨w3.heap.size, 1, none⟩ = some (.int .i64 B) /\ (wg.alloc (Obj.cells #[Value.int .i64 0, Value.int .i64 0, Value.int .i64 0, Value.int .i64 0, Value.int .i64 0, Value.slice none 0 0, Value.slice none 0 0] 27)).drew.cell? ⟨w3.heap.size, 2, none⟩ = some (.int .i64 F) /\ (wg.alloc (Obj.cells #[Value.int .i64 0, Value.int .i64 0, Value.int .i64 0, Value.int .i64 0, Value.int .i64 0, Value.slice none 0 0, Value.slice none 0 0] 27)).drew.cell? ⟨w3.heap.size, 3, none⟩ = some (.int .i64 R) /\ (wg.alloc (Obj.cells #[Value.int .i64 0, Value.int .i64 0, Value.int .i64 0, Value.int .i64 0, Value.int .i64 0, Value.slice none 0 0, Value.slice none 0 0] 27)).drew.cell? ⟨w3.heap.size, 4, none⟩ = some (.int .i64 O) /\ (wg.alloc (Obj.cells #[Value.int .i64 0, Value.int .i64 0, Value.int .i64 0, Value.int .i64 0, Value.int .i64 0, Value.slice none 0 0, Value.slice none 0 0] 27)).drew.cell? ⟨w3.heap.size, 5, none⟩ = some (.slice p3 zs.length kc3) /\ (wg.alloc (Obj.cells #[Value.int .i64 0, Value.int .i64 0, Value.int .i64 0, Value.int .i64 0, Value.int .i64 0, Value.slice none 0 0, Value.slice none 0 0] 27)).drew.cell? ⟨w3.heap.size, 6, none⟩ = some (.slice q3 m d3) /\ (wg.alloc (Obj.cells #[Value.int .i64 0, Value.int .i64 0, Value.int .i64 0, Value.int .i64 0, Value.int .i64 0, Value.slice none 0 0, Value.slice none 0 0] 27)).drew.cell? ⟨w.heap.size, 5, none⟩ = some (.slice (some ⟨bb, oo, none⟩) zs.length c) /\ (wg.alloc (Obj.cells #[Value.int .i64 0, Value.int .i64 0, Value.int .i64 0, Value.int .i64 0, Value.int .i64 0, Value.slice none 0 0, Value.slice none 0 0] 27)).drew.cell? ⟨bb, oo + a, none⟩ = some (.int .i64 my) /\ Below wg.heap.size wg (wg.alloc (Obj.cells #[Value.int .i64 0, Value.int .i64 0, Value.int .i64 0, Value.int .i64 0, Value.int .i64 0, Value.slice none 0 0, Value.slice none 0 0] 27)).drew := hHeld
   clear hK KK
   refine Rk.one (i := 13) (by kernel_rfl) rfl (fun KK hK => ?_)
   rw [if_pos (by kernel_rfl)]
   go_simp
   ((with_reducible refine (SLC.out _ (hHeld.2.2.2.2.2.2.2.2.2)).mono ?_); rintro e u7 ⟨p9, kc9, q9, d9, rfl, O9, hb⟩)
   have hNew := HS.out _ _ hHeld hb
   have hsu := hb.size
   try simp at hsu
   replace M7 := B7.keep hb M7.lt M7
   first | (refine hK.out _ _ (fun _ => hNew) (fun _ => ?_)) | (refine hK.out _ _ hNew (fun _ => ?_)) | (go_wp2_with fail; refine hK.out _ _ hNew (fun _ => ?_))
   replace hHeld := hNew
   clear hNew hb
   clear hK KK
   refine SqR.p 14 ?_
   refine SqR.p 15 ?_
   refine SqR.p 16 ?_
   refine Rk.tail [18, 19] [_, _] (by kernel_rfl) (by kernel_rfl) rfl (by decide) ?_
   obtain ⟨-, -, -, -, -, -, -, -, -, K8⟩ := hHeld
   have M8 := M7
   obtain ⟨⟨m0, m1, m2, m3, m4, m5, m6⟩, ⟨g0, g1, g2, g3, g4, g5, g6⟩⟩ := M7
   have lm := M8.lt
   have hnb : wg.heap.size <= wg.heap.size := by first | exact Nat.le_refl _ | omega
   go_wp2_with fail
   go_meet
   exact ⟨wg.heap.size, p9, kc9, q9, d9, rfl, rfl, Lib.hid M8.st, Lib.hid (SlV_of (own_set7 O9 (by show wg.heap.size < (wg.alloc _).heap.size; simp)) HL9.out), Lib.hid (below_set7 K8 hnb)⟩

 case rest =>
  obtain ⟨g9, p9, kc9, q9, d9, rfl, rfl, D9, S9, KX9⟩ := hcut
  clear HS s0 s1 s2 s3 s4 s5 s6 c5 hcell SLC wk
  have r6' := Rg.keep KX9.out l4 r6
  have KBc := Lib.hid (KG.out.trans (KX9.out.mono KG.out.size))
  have S9c := S9
  have S4c := Lib.hid (SlV.below SV4.out (K4g.out.trans (KX9.out.mono K4g.out.size)))
  obtain ⟨⟨m0, m1, m2, m3, m4, m5, m6⟩, -⟩ := D9.out
  clear r6
  go_wp2_with (first | (go_at_call 36; (with_reducible refine (BV.out _ _ _ _ _ S9c S4c).mono ?_); rintro e w8 ⟨rfl, k8, rfl⟩; have KB8 := Lib.hid (below_drewN KBc.out k8)) | (go_at_call 15; (with_reducible refine (EX.out _ (HLA.out.below KB8.out)).mono ?_); rintro e wX ⟨rfl, hb⟩; have KX := Lib.hid (KB8.out.trans (hb.mono KB8.out.size)); clear hb))
  go_ret
  exact ⟨rfl, KX.out⟩
end Go.Proofs.YteaaikmejacpaaaGreatDoor.Te

namespace Go.Proofs.YteaaikmejacpaaaGreatDoor.Te
open Go.ChangeShapes Go.WideShapes Go.ChangeAt Go.RowKit
open Fx Va Sh
set_option maxRecDepth 8000
set_option linter.unusedVariables false
set_option linter.unusedSimpArgs false

set_option maxRecDepth 100000 in
set_option maxHeartbeats 2000000 in
theorem law_st (K B F R O : Int) (p : Option Addr) (zs : List Int) (c : Nat) (q : Option Addr) (vs : List (Int × Int)) (d : Nat) (ax : Int) (w : World) (b0 : -9223372036854775808 <= B) (b1 : B <= 9223372036854775807) (hn : zs.length <= maxLen) (hm : vs.length <= maxLen) (RA : Hid (SlI w p zs)) (RB : Hid (SlV w q vs)) (hc : zs.length <= c) (hc2 : c <= 9223372036854775807) (hd : vs.length <= d) (hd2 : d <= 9223372036854775807) (hLA : Tx.LA w)  :
  Calls Tryz.prog 9 #[Tn K B F R O p zs.length c q vs.length d, .int .i64 ax] w fun en w' => en = .returned (.bool true) /\ Below w.heap.size w w' := by
 cases hs : (decide ((vs.length : Int) <= 1000) && decide (zs.length <= 20))
 ·exact st_a K B F R O p zs c q vs d ax w b0 b1 hn hm RA RB hc hc2 hd hd2 hLA hs
 ·by_cases ht : tE K B F R O zs vs = 0
  ·by_cases ha : ax < 0
   ·exact st_c K B F R O p zs c q vs d ax w b0 b1 hn hm RA RB hc hc2 hd hd2 hLA hs ht ha
   ·by_cases ha2 : (zs.length : Int) <= ax
    ·exact st_d K B F R O p zs c q vs d ax w b0 b1 hn hm RA RB hc hc2 hd hd2 hLA hs ht ha ha2
    ·obtain ⟨a, rfl⟩ : ∃ a : Nat, ax = (a : Int) := ⟨ax.toNat, by omega⟩
     have ha3 : a < zs.length := by omega
     obtain ⟨-, hv, tl, -⟩ := tE_ok ht
     obtain ⟨bf, my, af, k1, k2, k3, k4, k5, k6, k7, k8, k9, ka, kb⟩ := parts hv ha3 tl
     by_cases he : fe (snE K B F R O vs my af) (bf * af) 0 = 0
     ·exact st_z K B F R O p zs c q vs d a w b0 b1 hn hm RA RB hc hc2 hd hd2 hLA hs ht ha3 bf my af k1 k2 k3 k4 k5 k6 k7 k8 k9 ka kb he
     ·exact st_e K B F R O p zs c q vs d a w b0 b1 hn hm RA RB hc hc2 hd hd2 hLA hs ht ha3 bf my af k1 k2 k3 k4 k5 k6 k7 k8 k9 ka kb he
  ·exact st_b K B F R O p zs c q vs d ax w b0 b1 hn hm RA RB hc hc2 hd hd2 hLA hs ht
end Go.Proofs.YteaaikmejacpaaaGreatDoor.Te
