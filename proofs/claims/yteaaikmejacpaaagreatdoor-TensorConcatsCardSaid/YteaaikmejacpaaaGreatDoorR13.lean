/- Lines of a tensor: mathematics. -/
import Derived.Test.YteaaikmejacpaaaGreatDoorR8
import Derived.Shelf.LaysM
import Derived.Ground.Names2Prog
import Derived.Shelf.Slices.Delete
import Derived.Test.YteaaikmejacpaaaGreatDoorProg
import Derived.Test.YteaaikmejacpaaaGreatDoorR12
import Derived.Test.YteaaikmejacpaaaGreatDoorR10
import Derived.Lib.OwnBridge
import Derived.Test.YteaaikmejacpaaaGreatDoorR0

namespace Go.Proofs.YteaaikmejacpaaaGreatDoor.Te
open Go.ChangeShapes Go.WideShapes Go.ChangeAt Go.RowKit
open Va
set_option maxRecDepth 8000
set_option linter.unusedVariables false
set_option linter.unusedSimpArgs false
/-- The number of the line that an element lies in. -/
def lnO (many after a : Nat) : Nat := a / after / many * after + a % after
/-- The place of an element in its line. -/
def lnK (many after a : Nat) : Nat := a / after % many
/-- Where a line begins. -/
def lnF (many after i : Nat) : Nat := i / after * many * after + i % after
theorem ln_pos {many after i k : Nat} (hk : k < many) (ha : 1 <= after) : lnO many after (lnF many after i + k * after) = i /\ lnK many after (lnF many after i + k * after) = k := by
 have e : lnF many after i + k * after = i % after + (i / after * many + k) * after := by unfold lnF; grind
 have h1 : i % after < after := Nat.mod_lt _ ha
 have d : (lnF many after i + k * after) / after = i / after * many + k := by
  rw [e, Nat.add_mul_div_right _ _ ha, Nat.div_eq_of_lt h1, Nat.zero_add]
 have m : (lnF many after i + k * after) % after = i % after := by
  rw [e, Nat.add_mul_mod_self_right, Nat.mod_mod]
 have d2 : (i / after * many + k) / many = i / after := by
  rw [Nat.add_comm, Nat.add_mul_div_right _ _ (by omega), Nat.div_eq_of_lt hk, Nat.zero_add]
 have m2 : (i / after * many + k) % many = k := by
  rw [Nat.add_comm, Nat.add_mul_mod_self_right, Nat.mod_eq_of_lt hk]
 unfold lnO lnK
 rw [d, m, d2, m2]
 exact ⟨by rw [Nat.mul_comm]; exact Nat.div_add_mod i after, rfl⟩
theorem ln_back {many after a : Nat} (ha : 1 <= after) : lnF many after (lnO many after a) + lnK many after a * after = a := by
 have h1 : a % after < after := Nat.mod_lt _ ha
 have d : lnO many after a / after = a / after / many := by
  unfold lnO; rw [Nat.add_comm, Nat.add_mul_div_right _ _ ha, Nat.div_eq_of_lt h1, Nat.zero_add]
 have m : lnO many after a % after = a % after := by
  unfold lnO; rw [Nat.add_comm, Nat.add_mul_mod_self_right, Nat.mod_mod]
 unfold lnF lnK
 rw [d, m]
 have e1 := Nat.div_add_mod (a / after) many
 have e2 := Nat.div_add_mod a after
 have e3 : a / after / many * many * after + a % after + a / after % many * after = after * (many * (a / after / many) + a / after % many) + a % after := by grind
 rw [e3, e1, e2]
theorem ln_lt {before many after i k : Nat} (hk : k < many) (ha : 1 <= after) (hi : i < before * after) : lnF many after i + k * after < before * many * after := by
 have h1 : i % after < after := Nat.mod_lt _ ha
 have h2 : i / after < before := Nat.div_lt_of_lt_mul (by rw [Nat.mul_comm]; exact hi)
 have e : lnF many after i + k * after = i % after + (i / after * many + k) * after := by unfold lnF; grind
 have h3 : i / after * many + k + 1 <= before * many := by
  have := Nat.mul_le_mul_right many (show i / after + 1 <= before by omega)
  have e2 : (i / after + 1) * many = i / after * many + many := by grind
  omega
 have h4 := Nat.mul_le_mul_right after h3
 have e3 : (i / after * many + k + 1) * after = (i / after * many + k) * after + after := by grind
 omega
theorem lnO_lt {before many after a : Nat} (hm : 1 <= many) (ha : 1 <= after) (h : a < before * many * after) : lnO many after a < before * after /\ lnK many after a < many := by
 have h1 : a % after < after := Nat.mod_lt _ ha
 refine ⟨?_, Nat.mod_lt _ hm⟩
 have h2 : a / after < before * many := Nat.div_lt_of_lt_mul (by rw [Nat.mul_comm]; exact h)
 have h3 : a / after / many < before := Nat.div_lt_of_lt_mul (by rw [Nat.mul_comm]; exact h2)
 have h4 := Nat.mul_le_mul_right after (show a / after / many + 1 <= before by omega)
 have e2 : (a / after / many + 1) * after = a / after / many * after + after := by grind
 unfold lnO
 omega
/-- The elements of a line. -/
def lnV (vs : List (Int × Int)) (many after i : Nat) : List (Int × Int) := (List.range many).map fun k => vs.getD (lnF many after i + k * after) (0, 0)
theorem lnV_length (vs : List (Int × Int)) (many after i : Nat) : (lnV vs many after i).length = many := by simp [lnV]
theorem lnV_get {vs : List (Int × Int)} {many after i k : Nat} (h : k < many) : (lnV vs many after i).getD k (0, 0) = vs.getD (lnF many after i + k * after) (0, 0) := by
 unfold lnV
 rw [List.getD_eq_getElem?_getD, List.getElem?_map, List.getElem?_range h]
 rfl
theorem lnV_take (vs : List (Int × Int)) (many after i k : Nat) (h : k < many) : (lnV vs many after i).take (k + 1) = (lnV vs many after i).take k ++ [vs.getD (lnF many after i + k * after) (0, 0)] := by
 have hl : k < (lnV vs many after i).length := by rw [lnV_length]; exact h
 rw [List.take_add_one, List.getElem?_eq_getElem hl]
 have := lnV_get (vs := vs) (after := after) (i := i) h
 rw [List.getD_eq_getElem?_getD, List.getElem?_eq_getElem hl] at this
 simp only [Option.getD_some] at this
 rw [this]; rfl
/-- A row whose first lines (and the first elements of the next) hold another's elements. -/
def mix (S vs : List (Int × Int)) (many after total i k : Nat) : List (Int × Int) := (List.range total).map fun a => if lnO many after a < i \/ lnO many after a = i /\ lnK many after a < k then S.getD a (0, 0) else vs.getD a (0, 0)
theorem mix_length (S vs : List (Int × Int)) (many after total i k : Nat) : (mix S vs many after total i k).length = total := by simp [mix]
theorem mix_get {S vs : List (Int × Int)} {many after total i k a : Nat} (h : a < total) : (mix S vs many after total i k)[a]? = some (if lnO many after a < i \/ lnO many after a = i /\ lnK many after a < k then S.getD a (0, 0) else vs.getD a (0, 0)) := by
 unfold mix
 rw [List.getElem?_map, List.getElem?_range h]
 rfl
theorem mix_set {S vs : List (Int × Int)} {before many after i k : Nat} (ha : 1 <= after) (hk : k < many) (hi : i < before * after) :
  (mix S vs many after (before * many * after) i k).set (lnF many after i + k * after) (S.getD (lnF many after i + k * after) (0, 0)) = mix S vs many after (before * many * after) i (k + 1) := by
 have hlt := ln_lt (before := before) hk ha hi
 obtain ⟨p1, p2⟩ := ln_pos (i := i) hk ha
 refine List.ext_getElem? fun a => ?_
 rw [List.getElem?_set]
 by_cases hat : a < before * many * after
 ·rw [mix_get hat, mix_length]
  by_cases e : lnF many after i + k * after = a
  ·subst e
   rw [if_pos rfl, if_pos hat, mix_get hat, p1, p2, if_pos (.inr ⟨rfl, by omega⟩)]
  ·rw [if_neg e, mix_get hat]
   have hne : ¬ (lnO many after a = i /\ lnK many after a = k) := fun ⟨h1, h2⟩ => e (by rw [<- h1, <- h2]; exact ln_back ha)
   have hiff : (lnO many after a < i \/ lnO many after a = i /\ lnK many after a < k) ↔ (lnO many after a < i \/ lnO many after a = i /\ lnK many after a < k + 1) := by omega
   simp only [hiff]
 ·rw [List.getElem?_eq_none (by rw [mix_length]; omega), List.getElem?_eq_none (by rw [mix_length]; omega)]
  rw [if_neg (by omega)]
theorem mix_next {S vs : List (Int × Int)} {before many after i : Nat} (hm : 1 <= many) : mix S vs many after (before * many * after) i many = mix S vs many after (before * many * after) (i + 1) 0 := by
 unfold mix
 refine List.map_congr_left fun a _ => ?_
 have h2 : lnK many after a < many := Nat.mod_lt _ hm
 have hiff : (lnO many after a < i \/ lnO many after a = i /\ lnK many after a < many) ↔ (lnO many after a < i + 1 \/ lnO many after a = i + 1 /\ lnK many after a < 0) := by omega
 simp only [hiff]
theorem mix_start {S vs : List (Int × Int)} {many after total : Nat} (hl : vs.length = total) : mix S vs many after total 0 0 = vs := by
 refine List.ext_getElem? fun a => ?_
 by_cases h : a < total
 ·rw [mix_get h, if_neg (by omega), List.getElem?_eq_getElem (by omega), List.getD_eq_getElem?_getD, List.getElem?_eq_getElem (by omega)]
  rfl
 ·rw [List.getElem?_eq_none (by rw [mix_length]; omega), List.getElem?_eq_none (by omega)]
theorem mix_end {S vs : List (Int × Int)} {before many after : Nat} (hm : 1 <= many) (ha : 1 <= after) (hl : S.length = before * many * after) : mix S vs many after (before * many * after) (before * after) 0 = S := by
 refine List.ext_getElem? fun a => ?_
 by_cases h : a < before * many * after
 ·rw [mix_get h, if_pos (.inl (lnO_lt hm ha h).1), List.getElem?_eq_getElem (by omega), List.getD_eq_getElem?_getD, List.getElem?_eq_getElem (by omega)]
  rfl
 ·rw [List.getElem?_eq_none (by rw [mix_length]; omega), List.getElem?_eq_none (by omega)]
/-- The running values of an operation. -/
def run (f : Int × Int -> Int × Int -> Int × Int × Int) : Int × Int -> List (Int × Int) -> List (Int × Int)
 | _, [] => []
 | v, x :: l => ((f v x).1, (f v x).2.1) :: run f ((f v x).1, (f v x).2.1) l
/-- The first error of the running values. -/
def runE (f : Int × Int -> Int × Int -> Int × Int × Int) : Int × Int -> List (Int × Int) -> Int
 | _, [] => 0
 | v, x :: l => if (f v x).2.2 ≠ 0 then (f v x).2.2 else runE f ((f v x).1, (f v x).2.1) l
theorem run_length {f : Int × Int -> Int × Int -> Int × Int × Int} : ∀ (l : List (Int × Int)) (v : Int × Int), (run f v l).length = l.length
 | [], v => rfl
 | x :: l, v => by show (run f _ l).length + 1 = l.length + 1; rw [run_length l]
/-- The scan of a line. -/
def scV (f : Int × Int -> Int × Int -> Int × Int × Int) : List (Int × Int) -> List (Int × Int)
 | [] => []
 | v :: l => v :: run f v l
def scE (f : Int × Int -> Int × Int -> Int × Int × Int) : List (Int × Int) -> Int
 | [] => 0
 | v :: l => runE f v l
theorem scV_length {f : Int × Int -> Int × Int -> Int × Int × Int} (l : List (Int × Int)) : (scV f l).length = l.length := by
 cases l with
 | nil => rfl
 | cons v l => show (run f v l).length + 1 = _; rw [run_length]; rfl
/-- The scans of all lines, by the elements' numbers. -/
def scA (f : Int × Int -> Int × Int -> Int × Int × Int) (vs : List (Int × Int)) (many after total : Nat) : List (Int × Int) := (List.range total).map fun a => (scV f (lnV vs many after (lnO many after a))).getD (lnK many after a) (0, 0)
theorem scA_get {f : Int × Int -> Int × Int -> Int × Int × Int} {vs : List (Int × Int)} {before many after i k : Nat} (ha : 1 <= after) (hk : k < many) (hi : i < before * after) : (scA f vs many after (before * many * after)).getD (lnF many after i + k * after) (0, 0) = (scV f (lnV vs many after i)).getD k (0, 0) := by
 have hlt := ln_lt (before := before) hk ha hi
 obtain ⟨p1, p2⟩ := ln_pos (i := i) hk ha
 unfold scA
 rw [List.getD_eq_getElem?_getD, List.getElem?_map, List.getElem?_range hlt]
 simp only [Option.map_some, Option.getD_some, p1, p2]
theorem scA_length {f : Int × Int -> Int × Int -> Int × Int × Int} {vs : List (Int × Int)} {many after total : Nat} : (scA f vs many after total).length = total := by simp [scA]
/-- The first error among the lines from number i on. -/
def fe (g : Nat -> Int) : Nat -> Nat -> Int
 | 0, _ => 0
 | n + 1, i => if g i ≠ 0 then g i else fe g n (i + 1)
theorem fe_go {g : Nat -> Int} {n i : Nat} (h : g i = 0) : fe g (n + 1) i = fe g n (i + 1) := if_neg (by simpa using h)
theorem fe_stop {g : Nat -> Int} {n i : Nat} (h : g i ≠ 0) : fe g (n + 1) i = g i := if_pos h

end Go.Proofs.YteaaikmejacpaaaGreatDoor.Te


namespace Go.Proofs
open Go.Shelf

def Tryz.laysNm223_ren : Go.Shelf.Ren := ⟨fun | 23 => 63 | n => n, fun | 22 => 24 | 3 => 3 | 4 => 4 | 0 => 0 | n => n, fun | n => n⟩

theorem Tryz.laysNm223 : Go.Proofs.Lays2.n23 Tryz.prog Tryz.laysNm223_ren := {
 mixed := by kernel_rfl
 f23 := Tryz.func63.trans (congrArg some (by kernel_rfl))
 t0 := Tryz.underlying0
 a0 := Tryz.isAgg0
 z0 := Tryz.sizeOf0
 v0 := Tryz.zeroValue0
 t3 := Tryz.underlying3
 a3 := Tryz.isAgg3
 z3 := Tryz.sizeOf3
 v3 := Tryz.zeroValue3
 t4 := Tryz.underlying4
 a4 := Tryz.isAgg4
 z4 := Tryz.sizeOf4
 v4 := Tryz.zeroValue4
 t22 := Tryz.underlying24
 a22 := Tryz.isAgg24
 z22 := Tryz.sizeOf24
 v22 := Tryz.zeroValue24
 i3 := by kernel_rfl }

open Go.RowKit Go.Lib Go.Sort in
theorem Tryz.slices_Delete_int (blk off cap i j : Nat) (zs : List Int) (w : World) (hH : Holds (Value.int .i64) w blk off zs.toArray) (hcap : zs.length <= cap) (hm : cap <= 9223372036854775807) (hij : i <= j) (hj : j <= zs.length) :
  Calls Tryz.prog 63 #[.slice (some ⟨blk, off, none⟩) zs.length cap, .int .i64 i, .int .i64 j] w fun e w' => e = .returned (.slice (some ⟨blk, off, none⟩) (zs.length - (j - i)) cap) /\ ∃ q, w' = putRow (Value.int .i64) (Sort.ahead w q) blk off (zs.take i ++ zs.drop j ++ List.replicate (j - i) 0).toArray := Any.slices_Delete_int Tryz.laysNm223 blk off cap i j zs w hH hcap hm hij hj

end Go.Proofs


namespace Go.Proofs.YteaaikmejacpaaaGreatDoor.Te
open Go.ChangeShapes Go.WideShapes Go.ChangeAt Go.RowKit
open Fx Va Sh
set_option maxRecDepth 8000
set_option linter.unusedVariables false
set_option linter.unusedSimpArgs false

theorem sp_append : ∀ a b : List Int, sp (a ++ b) = sp a * sp b
 | [], b => by show sp b = 1 * sp b; omega
 | x :: a, b => by
  have e : ∀ l, sp (x :: l) = x * sp l := fun l => by simp [sp, Int.mul_comm]
  rw [List.cons_append, e, e, sp_append a b, Int.mul_assoc]
theorem low_take {zs : List Int} (h : zs.any low = false) (k : Nat) : (zs.take k).any low = false := by
 rw [List.any_eq_false] at h ⊢
 exact fun x hx => h x (List.mem_of_mem_take hx)
/-- The axes ahead of one and behind it. -/
theorem sp_parts {zs : List Int} (h : vE zs = 0) {a : Nat} (ha : a < zs.length) : sp zs = sp (zs.take a) * zs.getD a 0 * sp (zs.drop (a + 1)) /\ 1 <= sp (zs.take a) /\ 1 <= zs.getD a 0 /\ 1 <= sp (zs.drop (a + 1)) := by
 obtain ⟨h6, hl, _, _, hd⟩ := valid_of h
 have e : zs = zs.take a ++ zs.getD a 0 :: zs.drop (a + 1) := by
  rw [<- drop_cons ha, List.take_append_drop]
 have e2 : ∀ x l, sp (x :: l) = x * sp l := fun x l => by simp [sp, Int.mul_comm]
 refine ⟨?_, sp_pos (low_take hl a), pos_of hl ha, (hd (a + 1)).1⟩
 conv => lhs; rw [e]
 rw [sp_append, e2, Int.mul_assoc]
theorem vE_take {zs : List Int} (h : vE zs = 0) {a : Nat} (ha : a < zs.length) : vE (zs.take a) = 0 := by
 obtain ⟨h6, hl, _, hs, hd⟩ := valid_of h
 obtain ⟨e, p1, p2, p3⟩ := sp_parts h ha
 have b1 : sp (zs.take a) * 1 <= sp (zs.take a) * (zs.getD a 0 * sp (zs.drop (a + 1))) := Int.mul_le_mul_of_nonneg_left (by have := Int.mul_le_mul p2 p3 (by decide) (by omega); omega) (by omega)
 rw [<- Int.mul_assoc, <- e] at b1
 exact vE_some (by rw [List.length_take]; omega) (low_take hl a) (pr_ok _ 1 (by omega) (low_take hl a) (by omega))
theorem SlI_take {w : World} {p : Option Addr} {zs : List Int} (h : SlI w p zs) (k : Nat) : SlI w p (zs.take k) := fun i hi => by
 rw [List.length_take] at hi
 obtain ⟨b, o, e, hc⟩ := h i (by omega)
 refine ⟨b, o, e, ?_⟩
 rw [hc, List.getD_eq_getElem?_getD, List.getD_eq_getElem?_getD, List.getElem?_take_of_lt (by omega)]
set_option maxHeartbeats 1000000 in
theorem tar (p : Option Addr) (zs : List Int) (c a : Nat) (w : World) (ha : a < zs.length) (hc : zs.length <= c) (hc2 : c <= 9223372036854775807) (hv : vE zs = 0) (RA : Hid (SlI w p zs)) :
  Calls Tryz.prog 64 #[.slice p zs.length c, .int .i64 a] w fun e w' => e = .returned (.tuple #[.int .i64 (sp (zs.take a)), .int .i64 (sp (zs.drop (a + 1)))]) /\ Below w.heap.size w w' := by
 obtain ⟨h6, -, -, -, -⟩ := valid_of hv
 obtain ⟨b, o, rfl, _⟩ := RA.out a ha
 have C1 := Lib.hid fun m => (show Calls Tryz.prog 51 #[.slice (some ⟨b, o, none⟩) a c] (w.drewN m) fun e w' => e = .returned (.int .i64 (sp (zs.take a))) /\ w' = w.drewN m from by
  have hb : Below w.heap.size w (w.drewN m) := below_drewN (Below.refl _ _) m
  have h := c16 (some ⟨b, o, none⟩) (zs.take a) c (w.drewN m) (by rw [List.length_take]; unfold maxLen; omega) (Lib.hid (SlI_take (SlI.keep hb RA.out) a))
  rw [sz_ok (vE_take hv ha), List.length_take, Nat.min_eq_left (by omega)] at h
  exact h.mono (fun _ _ g => ⟨g.1, g.2.symm⟩))
 have C2 := Lib.hid fun q (hq : q = some ⟨b, o + (a + 1), none⟩ \/ a + 1 = zs.length) m => (show Calls Tryz.prog 51 #[.slice q (zs.length - (a + 1)) (c - (a + 1))] (w.drewN m) fun e w' => e = .returned (.int .i64 (sp (zs.drop (a + 1)))) /\ w' = w.drewN m from by
  have hb : Below w.heap.size w (w.drewN m) := below_drewN (Below.refl _ _) m
  have hs : SlI (w.drewN m) q (zs.drop (a + 1)) := by
   rcases hq with rfl | hq
   ·exact SlI.drop (SlI.keep hb RA.out) (a + 1)
   ·exact SlI.empty (by rw [List.length_drop]; omega)
  have h := c16 q (zs.drop (a + 1)) (c - (a + 1)) (w.drewN m) (by rw [List.length_drop]; unfold maxLen; omega) (Lib.hid hs)
  rw [sz_drop hv, List.length_drop] at h
  exact h.mono (fun _ _ g => ⟨g.1, g.2.symm⟩))
 have g0 : (0 : Int) <= a := by omega
 have g1 : (a : Int) <= c := by omega
 have g2 : (a : Int) + 1 <= zs.length := by omega
 have g3 : (0 : Int) <= (a : Int) + 1 := by omega
 have g4 : (zs.length : Int) <= c := by omega
 obtain ⟨n, hn⟩ : ∃ n, zs.length = n := ⟨_, rfl⟩
 rw [hn] at C2 g2 g4 ⊢
 obtain ⟨S1, hS1⟩ : ∃ S, sp (zs.take a) = S := ⟨_, rfl⟩
 obtain ⟨S2, hS2⟩ : ∃ S, sp (zs.drop (a + 1)) = S := ⟨_, rfl⟩
 rw [hS1] at C1 ⊢
 rw [hS2] at C2 ⊢
 have hw : IntKind.i64.wrap ((a : Int) + 1) = ((a + 1 : Nat) : Int) := by rw [IntKind.wrap_i64]; omega
 obtain ⟨k, hk⟩ : ∃ k, a + 1 = k := ⟨_, rfl⟩
 rw [hk] at C2 hw
 have g5 : (k : Int) <= n := by omega
 have g6 : (0 : Int) <= k := by omega
 have C3 := Lib.hid (C2.out (if c = k then some ⟨b, o, none⟩ else some ⟨b, o + k, none⟩) (by
  by_cases e : c = k
  ·right; omega
  ·left; rw [if_neg e]))
 clear hn hS1 hS2 RA hv h6 ha hc g2 g3 hk C2
 go_enter Tryz.func64, Tryz.ntmps64
 go_wp2_with fail
 go_quiet ((first | (go_at_call 51; with_reducible exact Calls.quiet_of_same (C1.out _)) | (go_at_call 51; with_reducible exact Calls.quiet_of_same (C3.out _))))
 go_wp2
 all_goals refine bodyPost_ret (v := .tuple #[.int .i64 S1, .int .i64 S2]) (by simp [results, Tryz.results64, go_sem]) rfl ⟨rfl, below_drewN (Below.refl _ _) _⟩

end Go.Proofs.YteaaikmejacpaaaGreatDoor.Te


namespace Go.Proofs.YteaaikmejacpaaaGreatDoor.Te
open Go.ChangeShapes Go.WideShapes Go.ChangeAt Go.RowKit
open Fx Va Sh
set_option maxRecDepth 8000
set_option linter.unusedVariables false
set_option linter.unusedSimpArgs false

theorem st2 {u : World} {r : Nat} {x y a b : Value} (h0 : u.cell? ⟨r, 0, none⟩ = some a) (h1 : u.cell? ⟨r, 1, none⟩ = some b) :
  ((u.setCell ⟨r, 0, none⟩ x).setCell ⟨r, 1, none⟩ y).cell? ⟨r, 0, none⟩ = some x /\ ((u.setCell ⟨r, 0, none⟩ x).setCell ⟨r, 1, none⟩ y).cell? ⟨r, 1, none⟩ = some y := by
 have g1 : (u.setCell ⟨r, 0, none⟩ x).cell? ⟨r, 1, none⟩ = some b := (World.cell?_setCell_other _ _ _ _ (by simp)).trans h1
 exact ⟨(World.cell?_setCell_other _ _ _ _ (by simp)).trans (World.cell?_setCell_same _ _ _ h0), World.cell?_setCell_same _ _ _ g1⟩

theorem run_cons (f : Int × Int -> Int × Int -> Int × Int × Int) (v x : Int × Int) (l : List (Int × Int)) : run f v (x :: l) = ((f v x).1, (f v x).2.1) :: run f ((f v x).1, (f v x).2.1) l := rfl
theorem runE_cons (f : Int × Int -> Int × Int -> Int × Int × Int) (v x : Int × Int) (l : List (Int × Int)) : runE f v (x :: l) = if (f v x).2.2 ≠ 0 then (f v x).2.2 else runE f ((f v x).1, (f v x).2.1) l := rfl
theorem getD_app {X : List (Int × Int)} {k : Nat} (h : k < X.length) (Y : List (Int × Int)) : (X ++ Y).getD k (0, 0) = X.getD k (0, 0) := by
 rw [List.getD_eq_getElem?_getD, List.getD_eq_getElem?_getD, List.getElem?_append_left h]
theorem getD_appR {X : List (Int × Int)} {k : Nat} (h : X.length = k) (y : Int × Int) (Y : List (Int × Int)) : (X ++ y :: Y).getD k (0, 0) = y := by
 rw [List.getD_eq_getElem?_getD, List.getElem?_append_right (by omega), h, Nat.sub_self]; rfl
theorem set_app {X : List (Int × Int)} {k : Nat} (h : X.length = k) (y z : Int × Int) (Y : List (Int × Int)) : (X ++ y :: Y).set k z = X ++ z :: Y := by
 rw [List.set_append_right _ _ (by omega), h, Nat.sub_self]; rfl
theorem row_two {u : World} {B n g c : Nat} {L : List (Int × Int)} (h : u.ownsRow B 29 2 (.slice (some ⟨g, 0, none⟩) n c) n (flV L)) (hl : L.length = n) {k : Nat} (hk : k < n) (a b : Int) :
  ((u.setCell ⟨g, k * 2, none⟩ (.int .i64 a)).setCell ⟨g, k * 2 + 1, none⟩ (.int .i64 b)).ownsRow B 29 2 (.slice (some ⟨g, 0, none⟩) n c) n (flV (L.set k (a, b))) := by
 have h2 := ((h.stored (k * 2) (.int .i64 a)).1.stored (k * 2 + 1) (.int .i64 b)).1
 rw [flV_set L k a b (by omega)] at h2
 exact h2
theorem row_get {u : World} {B n g c : Nat} {L : List (Int × Int)} (h : u.ownsRow B 29 2 (.slice (some ⟨g, 0, none⟩) n c) n (flV L)) (hl : L.length = n) {k : Nat} (hk : k < n) :
  u.cell? ⟨g, k * 2, none⟩ = some (.int .i64 (L.getD k (0, 0)).1) /\ u.cell? ⟨g, k * 2 + 1, none⟩ = some (.int .i64 (L.getD k (0, 0)).2) := by
 obtain ⟨v0, v1⟩ := flV_get L k (by omega)
 exact ⟨(h.cellAt (k * 2) (by omega)).trans v0, (h.cellAt (k * 2 + 1) (by omega)).trans v1⟩
theorem far2o {u : World} {r o1 o2 b o : Nat} {v x y : Value} (h : r ≠ b) (hc : u.cell? ⟨b, o, none⟩ = some v) : ((u.setCell ⟨r, o1, none⟩ x).setCell ⟨r, o2, none⟩ y).cell? ⟨b, o, none⟩ = some v := by
 rw [World.cell?_setCell_far _ _ _ _ h, World.cell?_setCell_far _ _ _ _ h]
 exact hc
abbrev fop (K B F R O : Int) (a b : Int × Int) : Int × Int × Int := apv 4 K B F R O a.1 a.2 b.1 b.2

set_option maxRecDepth 100000 in
set_option maxHeartbeats 1500000 in
theorem tscan (K B F R O : Int) (g n c Bs : Nat) (L : List (Int × Int)) (w : World) (b0 : -9223372036854775808 <= B) (b1 : B <= 9223372036854775807) (HO : Hid (w.ownsRow Bs 29 2 (.slice (some ⟨g, 0, none⟩) n c) n (flV L))) (hl : L.length = n) (h4 : n <= 4096) (hV : Hid (∀ i, i < n -> -9223372036854775808 <= (L.getD i (0, 0)).1 /\ (L.getD i (0, 0)).1 <= 9223372036854775807)) :
  Calls Tryz.prog 65 #[T5 K B F R O, (.slice (some ⟨g, 0, none⟩) n c)] w fun e w' => e = .returned (.int .i64 (scE (fop K B F R O) L)) /\ Below g w w' /\ (scE (fop K B F R O) L = 0 -> w'.ownsRow Bs 29 2 (.slice (some ⟨g, 0, none⟩) n c) n (flV (scV (fop K B F R O) L))) := by
 have hgw0 : g < w.heap.size := (HO.out.lt g rfl).2
 have CA := Lib.hid fun a x u h => c_ap 4 K B F R O (a : Int × Int).1 a.2 (x : Int × Int).1 x.2 u b0 b1 h
 clear b0 b1
 obtain ⟨ER, hE⟩ : ∃ E, scE (fop K B F R O) L = E := ⟨_, rfl⟩
 obtain ⟨S, hSS⟩ : ∃ S, scV (fop K B F R O) L = S := ⟨_, rfl⟩
 rw [hE, hSS]
 have B0 : Below g w (w.alloc (Obj.cells #[Value.int .i64 K, Value.int .i64 B, Value.int .i64 F, Value.int .i64 R, Value.int .i64 O] 23)) := (Below.refl _ _).alloc (by omega) _
 have HT0 : Hid ((w.alloc (Obj.cells #[Value.int .i64 K, Value.int .i64 B, Value.int .i64 F, Value.int .i64 R, Value.int .i64 O] 23)).cell? ⟨w.heap.size, 0, none⟩ = some (.int .i64 K) /\ (w.alloc (Obj.cells #[Value.int .i64 K, Value.int .i64 B, Value.int .i64 F, Value.int .i64 R, Value.int .i64 O] 23)).cell? ⟨w.heap.size, 1, none⟩ = some (.int .i64 B) /\ (w.alloc (Obj.cells #[Value.int .i64 K, Value.int .i64 B, Value.int .i64 F, Value.int .i64 R, Value.int .i64 O] 23)).cell? ⟨w.heap.size, 2, none⟩ = some (.int .i64 F) /\ (w.alloc (Obj.cells #[Value.int .i64 K, Value.int .i64 B, Value.int .i64 F, Value.int .i64 R, Value.int .i64 O] 23)).cell? ⟨w.heap.size, 3, none⟩ = some (.int .i64 R) /\ (w.alloc (Obj.cells #[Value.int .i64 K, Value.int .i64 B, Value.int .i64 F, Value.int .i64 R, Value.int .i64 O] 23)).cell? ⟨w.heap.size, 4, none⟩ = some (.int .i64 O)) := Lib.hid (by refine ⟨?_, ?_, ?_, ?_, ?_⟩ <;> go_cell)
 have HO0 := Lib.hid (own_belowE HO.out ((Below.refl w.heap.size w).alloc (Nat.le_refl _) (Obj.cells #[Value.int .i64 K, Value.int .i64 B, Value.int .i64 F, Value.int .i64 R, Value.int .i64 O] 23)))
 have HB0 := Lib.hid B0
 have n2 : (n : Int) <= 4096 := by omega
 cases n with
 | zero =>
  have hnil : L = [] := List.eq_nil_of_length_eq_zero hl
  subst hnil
  have hS0 : [] = S := hSS
  have hE0 : 0 = ER := hE
  subst hS0 hE0
  clear hE hSS B0
  go_enter Tryz.func65, Tryz.ntmps65
  go_wp2_with fail
  go_loopw [5] (fun i wr => i = .int .i64 1 /\ wr = w.alloc (Obj.cells #[Value.int .i64 K, Value.int .i64 B, Value.int .i64 F, Value.int .i64 R, Value.int .i64 O] 23)) (fun i _ => 0)
  case atStart => exact ⟨rfl, rfl⟩
  case round =>
   obtain ⟨rfl, rfl⟩ := hrel
   go_wp2_with fail
   go_ret
   exact ⟨rfl, HB0.out, fun _ => HO0.out⟩
 | succ n' =>
 have e0 : L = L.getD 0 (0, 0) :: L.drop 1 := by rw [<- drop_step (by omega), List.drop_zero]
 have hER0 : Hid (runE (fop K B F R O) (L.getD 0 (0, 0)) (L.drop 1) = ER) := Lib.hid (by rw [<- hE]; exact congrArg (scE (fop K B F R O)) e0.symm)
 have hS0 : Hid ([L.getD 0 (0, 0)] ++ run (fop K B F R O) (L.getD 0 (0, 0)) (L.drop 1) = S) := Lib.hid (by rw [<- hSS]; exact congrArg (scV (fop K B F R O)) e0.symm)
 have HE0 := Lib.hid e0
 obtain ⟨n, hn⟩ : ∃ n, n' + 1 = n := ⟨_, rfl⟩
 have h1n : 1 <= n := by omega
 rw [hn] at hl h4 HO HO0 hV n2 ⊢
 clear hn hE hSS B0 e0
 have HL := Lib.hid hl
 clear hl
 go_enter Tryz.func65, Tryz.ntmps65
 go_wp2_with fail
 go_loopw [5] (fun i wr => ∃ (k j : Nat) (X : List (Int × Int)) (v : Int × Int), i = .int .i64 k /\ k = j + 1 /\ k <= n /\ X.length = k /\ X.getD j (0, 0) = v /\ Hid (X ++ run (fop K B F R O) v (L.drop k) = S) /\ Hid (runE (fop K B F R O) v (L.drop k) = ER) /\ Hid (wr.ownsRow Bs 29 2 (.slice (some ⟨g, 0, none⟩) n c) n (flV (X ++ L.drop k))) /\ Hid (wr.cell? ⟨w.heap.size, 0, none⟩ = some (.int .i64 K) /\ wr.cell? ⟨w.heap.size, 1, none⟩ = some (.int .i64 B) /\ wr.cell? ⟨w.heap.size, 2, none⟩ = some (.int .i64 F) /\ wr.cell? ⟨w.heap.size, 3, none⟩ = some (.int .i64 R) /\ wr.cell? ⟨w.heap.size, 4, none⟩ = some (.int .i64 O)) /\ Hid (Below g w wr)) (fun i _ => n + 1 - (intOf i).toNat)
 case atStart => exact ⟨1, 0, [L.getD 0 (0, 0)], _, rfl, rfl, h1n, rfl, rfl, hS0, hER0, by rw [List.singleton_append, <- HE0.out]; exact HO0, HT0, HB0⟩
 case round =>
  obtain ⟨k, j, X, v, rfl, hkj, hkn1, hXl, hXv, hS, hER, HOr, HTr, hB⟩ := hrel
  clear HO0 HT0 HB0 hS0 hER0 HE0 HO
  by_cases hkn : k < n
  ·obtain ⟨t0, t1, t2, t3, t4⟩ := HTr.out
   have hkL : k < L.length := by rw [HL.out]; exact hkn
   have hd := drop_step hkL
   obtain ⟨x, hx⟩ : ∃ x, L.getD k (0, 0) = x := ⟨_, rfl⟩
   have hVx := hV.out k hkn
   rw [hx] at hd hVx
   have AP := Lib.hid fun u => CA.out v x u hVx
   obtain ⟨q, hqq⟩ : ∃ q, fop K B F R O v x = q := ⟨_, rfl⟩
   rw [show apv 4 K B F R O v.1 v.2 x.1 x.2 = q from hqq] at AP
   obtain ⟨r1, r2, f3⟩ := q
   have hq := Lib.hid hqq
   have hdr := Lib.hid hd
   have hll : (X ++ L.drop k).length = n := by rw [List.length_append, hXl, List.length_drop, HL.out]; omega
   obtain ⟨v0, v1⟩ := row_get HOr.out hll (show j < n by omega)
   obtain ⟨x0, x1⟩ := row_get HOr.out hll hkn
   rw [getD_app (by omega), hXv] at v0 v1
   rw [hd, getD_appR hXl] at x0 x1
   have HLL := Lib.hid hll
   have hdr2 : Hid (X ++ L.drop k = X ++ x :: L.drop (k + 1)) := Lib.hid (by rw [hd])
   have y0 := HOr.out.frozenAt (k * 2)
   have y1 := HOr.out.frozenAt (k * 2 + 1)
   have lw : w.heap.size < wr.heap.size := World.block_lt_of_cell? _ _ t0
   have lg : g < wr.heap.size := World.block_lt_of_cell? _ _ x0
   have hgw : w.heap.size ≠ g := by omega
   have hgw' : g ≠ w.heap.size := by omega
   have wk : IntKind.i64.wrap ((k : Int) - 1) = (j : Int) := by rw [IntKind.wrap_i64]; omega
   have hj0 : (0 : Int) <= j := by omega
   have hj2 : (j : Int) < n := by omega
   have hk0 : (0 : Int) <= k := by omega
   have hk2 : (k : Int) < n := by omega
   have hz9 : wr.cell? ⟨w.heap.size, 0, none⟩ = some (.int .i64 K) /\ wr.cell? ⟨w.heap.size, 1, none⟩ = some (.int .i64 B) /\ wr.cell? ⟨w.heap.size, 2, none⟩ = some (.int .i64 F) /\ wr.cell? ⟨w.heap.size, 3, none⟩ = some (.int .i64 R) /\ wr.cell? ⟨w.heap.size, 4, none⟩ = some (.int .i64 O) /\ wr.cell? ⟨g, j * 2, none⟩ = some (.int .i64 v.1) /\ wr.cell? ⟨g, j * 2 + 1, none⟩ = some (.int .i64 v.2) /\ wr.cell? ⟨g, k * 2, none⟩ = some (.int .i64 x.1) /\ wr.cell? ⟨g, k * 2 + 1, none⟩ = some (.int .i64 x.2) /\ wr.frozen? ⟨g, k * 2, none⟩ = false /\ wr.frozen? ⟨g, k * 2 + 1, none⟩ = false /\ Below wr.heap.size wr wr := ⟨t0, t1, t2, t3, t4, v0, v1, x0, x1, y0, y1, Below.refl _ _⟩
   have HX := Lib.hid hXv
   have hkj2 := Lib.hid hkj
   clear t0 t1 t2 t3 t4 v0 v1 x0 x1 y0 y1 hd hx hqq hVx hll hXv hkj hkL
   go_wp2_with fail
   have HS : Hid (∀ u u' : World, (u.cell? ⟨w.heap.size, 0, none⟩ = some (.int .i64 K) /\ u.cell? ⟨w.heap.size, 1, none⟩ = some (.int .i64 B) /\ u.cell? ⟨w.heap.size, 2, none⟩ = some (.int .i64 F) /\ u.cell? ⟨w.heap.size, 3, none⟩ = some (.int .i64 R) /\ u.cell? ⟨w.heap.size, 4, none⟩ = some (.int .i64 O) /\ u.cell? ⟨g, j * 2, none⟩ = some (.int .i64 v.1) /\ u.cell? ⟨g, j * 2 + 1, none⟩ = some (.int .i64 v.2) /\ u.cell? ⟨g, k * 2, none⟩ = some (.int .i64 x.1) /\ u.cell? ⟨g, k * 2 + 1, none⟩ = some (.int .i64 x.2) /\ u.frozen? ⟨g, k * 2, none⟩ = false /\ u.frozen? ⟨g, k * 2 + 1, none⟩ = false /\ Below wr.heap.size wr u) -> Below u.heap.size u u' -> (u'.cell? ⟨w.heap.size, 0, none⟩ = some (.int .i64 K) /\ u'.cell? ⟨w.heap.size, 1, none⟩ = some (.int .i64 B) /\ u'.cell? ⟨w.heap.size, 2, none⟩ = some (.int .i64 F) /\ u'.cell? ⟨w.heap.size, 3, none⟩ = some (.int .i64 R) /\ u'.cell? ⟨w.heap.size, 4, none⟩ = some (.int .i64 O) /\ u'.cell? ⟨g, j * 2, none⟩ = some (.int .i64 v.1) /\ u'.cell? ⟨g, j * 2 + 1, none⟩ = some (.int .i64 v.2) /\ u'.cell? ⟨g, k * 2, none⟩ = some (.int .i64 x.1) /\ u'.cell? ⟨g, k * 2 + 1, none⟩ = some (.int .i64 x.2) /\ u'.frozen? ⟨g, k * 2, none⟩ = false /\ u'.frozen? ⟨g, k * 2 + 1, none⟩ = false /\ Below wr.heap.size wr u')) := Lib.hid (fun u u' h hb => ⟨Rg.keep hb (World.block_lt_of_cell? _ _ h.1) h.1, Rg.keep hb (World.block_lt_of_cell? _ _ h.2.1) h.2.1, Rg.keep hb (World.block_lt_of_cell? _ _ h.2.2.1) h.2.2.1, Rg.keep hb (World.block_lt_of_cell? _ _ h.2.2.2.1) h.2.2.2.1, Rg.keep hb (World.block_lt_of_cell? _ _ h.2.2.2.2.1) h.2.2.2.2.1, Rg.keep hb (World.block_lt_of_cell? _ _ h.2.2.2.2.2.1) h.2.2.2.2.2.1, Rg.keep hb (World.block_lt_of_cell? _ _ h.2.2.2.2.2.2.1) h.2.2.2.2.2.2.1, Rg.keep hb (World.block_lt_of_cell? _ _ h.2.2.2.2.2.2.2.1) h.2.2.2.2.2.2.2.1, Rg.keep hb (World.block_lt_of_cell? _ _ h.2.2.2.2.2.2.2.2.1) h.2.2.2.2.2.2.2.2.1, Rg.keepF hb (World.block_lt_of_cell? _ _ h.2.2.2.2.2.1) h.2.2.2.2.2.2.2.2.2.1, Rg.keepF hb (World.block_lt_of_cell? _ _ h.2.2.2.2.2.1) h.2.2.2.2.2.2.2.2.2.2.1, h.2.2.2.2.2.2.2.2.2.2.2.trans (hb.mono h.2.2.2.2.2.2.2.2.2.2.2.size)⟩)
   refine Rk.begin (S := fun wS => wS.cell? ⟨w.heap.size, 0, none⟩ = some (.int .i64 K) /\ wS.cell? ⟨w.heap.size, 1, none⟩ = some (.int .i64 B) /\ wS.cell? ⟨w.heap.size, 2, none⟩ = some (.int .i64 F) /\ wS.cell? ⟨w.heap.size, 3, none⟩ = some (.int .i64 R) /\ wS.cell? ⟨w.heap.size, 4, none⟩ = some (.int .i64 O) /\ wS.cell? ⟨g, j * 2, none⟩ = some (.int .i64 v.1) /\ wS.cell? ⟨g, j * 2 + 1, none⟩ = some (.int .i64 v.2) /\ wS.cell? ⟨g, k * 2, none⟩ = some (.int .i64 x.1) /\ wS.cell? ⟨g, k * 2 + 1, none⟩ = some (.int .i64 x.2) /\ wS.frozen? ⟨g, k * 2, none⟩ = false /\ wS.frozen? ⟨g, k * 2 + 1, none⟩ = false /\ Below wr.heap.size wr wS) 15 (by kernel_rfl) (HS.out _ _ hz9 (Below.drew (Below.refl _ _))) (fun hHeld => ?_)
   refine SqR.l [15] 0 ?_
   refine SqR.p 1 ?_
   refine SqR.p 2 ?_
   refine SqR.p 3 ?_
   refine SqR.p 4 ?_
   refine SqR.l [15] 5 ?_
   refine SqR.p 6 ?_
   refine SqR.p 7 ?_
   refine SqR.p 8 ?_
   refine SqR.l [15] 9 ?_
   refine Rk.two (i := 10) (j := 14) (by kernel_rfl) rfl rfl (fun KK hK => ?_) (fun KK hK => ?_)
   ·rw [if_pos (by kernel_rfl)]
    go_simp
    ((with_reducible refine (AP.out _).mono ?_); rintro e uw10 ⟨rfl, hb⟩)
    have hNew := HS.out _ _ hHeld hb
    have hs_uw10 : wr.heap.size <= uw10.heap.size := by have hzz := hb.size; (try simp at hzz); omega
    first | (refine hK.out _ _ (fun _ => hNew) (fun _ => ?_)) | (refine hK.out _ _ hNew (fun _ => ?_)) | (go_wp2_with fail; refine hK.out _ _ hNew (fun _ => ?_))
    replace hHeld := hNew
    clear hNew hb
    clear hK KK
    refine SqR.p 11 ?_
    refine SqR.p 12 ?_
    refine SqR.p 13 ?_
    refine Rk.one (i := 14) (by kernel_rfl) rfl (fun KK hK => ?_)
    rw [if_pos (by kernel_rfl)]
    go_simp
    have hNew := HS.out _ _ hHeld ((Below.refl _ _).alloc (Nat.le_refl _) (Obj.cells #[Value.int .i64 0, Value.int .i64 0] 29))
    refine hK.out _ _ hNew (fun _ => ?_)
    replace hHeld := hNew
    clear hNew
    clear hK KK
    refine Rk.tail [15, 16] [_, _] (by kernel_rfl) (by kernel_rfl) rfl (by decide) ?_
    obtain ⟨t0, t1, t2, t3, t4, v0, v1, x0, x1, y0, y1, KC⟩ := hHeld
    have m0 : (uw10.alloc (Obj.cells #[Value.int .i64 0, Value.int .i64 0] 29)).cell? ⟨uw10.heap.size, 0, none⟩ = some (.int .i64 0) := by go_cell
    have fm0 : (uw10.alloc (Obj.cells #[Value.int .i64 0, Value.int .i64 0] 29)).frozen? ⟨uw10.heap.size, 0, none⟩ = false := by simp only [frozen?_alloc_cells]; exact Rg.notFrozen (Nat.le_refl _)
    have m1 : (uw10.alloc (Obj.cells #[Value.int .i64 0, Value.int .i64 0] 29)).cell? ⟨uw10.heap.size, 1, none⟩ = some (.int .i64 0) := by go_cell
    have fm1 : (uw10.alloc (Obj.cells #[Value.int .i64 0, Value.int .i64 0] 29)).frozen? ⟨uw10.heap.size, 1, none⟩ = false := by simp only [frozen?_alloc_cells]; exact Rg.notFrozen (Nat.le_refl _)
    generalize (uw10.alloc (Obj.cells #[Value.int .i64 0, Value.int .i64 0] 29)) = gw at *
    have lm : uw10.heap.size < gw.heap.size := World.block_lt_of_cell? _ _ m0
    have lw : wr.heap.size <= uw10.heap.size := by omega
    have ne0 : uw10.heap.size ≠ w.heap.size := by omega
    have ne1 : uw10.heap.size ≠ g := by omega
    have lo0 : w.heap.size < gw.heap.size := by omega
    have lo1 : g < gw.heap.size := by omega
    by_cases hz : f3 = 0
    ·subst hz
     have hst : runE (fop K B F R O) (r1, r2) (L.drop (k + 1)) = ER := by rw [<- hER.out, hdr.out, runE_cons, hq.out]; rfl
     have hsv : X ++ [(r1, r2)] ++ run (fop K B F R O) (r1, r2) (L.drop (k + 1)) = S := by rw [<- hS.out, hdr.out, run_cons, hq.out]; simp
     have hrr := Lib.hid (And.intro hst hsv)
     clear hst hsv hER hS hdr hq AP
     go_wp2_with fail
     have t0 : ((gw.setCell ⟨uw10.heap.size, 0, none⟩ (.int .i64 r1)).setCell ⟨uw10.heap.size, 1, none⟩ (.int .i64 r2)).cell? ⟨w.heap.size, 0, none⟩ = some (.int .i64 K) := Rg.far ne0 t0
     have t1 : ((gw.setCell ⟨uw10.heap.size, 0, none⟩ (.int .i64 r1)).setCell ⟨uw10.heap.size, 1, none⟩ (.int .i64 r2)).cell? ⟨w.heap.size, 1, none⟩ = some (.int .i64 B) := Rg.far ne0 t1
     have t2 : ((gw.setCell ⟨uw10.heap.size, 0, none⟩ (.int .i64 r1)).setCell ⟨uw10.heap.size, 1, none⟩ (.int .i64 r2)).cell? ⟨w.heap.size, 2, none⟩ = some (.int .i64 F) := Rg.far ne0 t2
     have t3 : ((gw.setCell ⟨uw10.heap.size, 0, none⟩ (.int .i64 r1)).setCell ⟨uw10.heap.size, 1, none⟩ (.int .i64 r2)).cell? ⟨w.heap.size, 3, none⟩ = some (.int .i64 R) := Rg.far ne0 t3
     have t4 : ((gw.setCell ⟨uw10.heap.size, 0, none⟩ (.int .i64 r1)).setCell ⟨uw10.heap.size, 1, none⟩ (.int .i64 r2)).cell? ⟨w.heap.size, 4, none⟩ = some (.int .i64 O) := Rg.far ne0 t4
     have v0 : ((gw.setCell ⟨uw10.heap.size, 0, none⟩ (.int .i64 r1)).setCell ⟨uw10.heap.size, 1, none⟩ (.int .i64 r2)).cell? ⟨g, j * 2, none⟩ = some (.int .i64 v.1) := Rg.far ne1 v0
     have v1 : ((gw.setCell ⟨uw10.heap.size, 0, none⟩ (.int .i64 r1)).setCell ⟨uw10.heap.size, 1, none⟩ (.int .i64 r2)).cell? ⟨g, j * 2 + 1, none⟩ = some (.int .i64 v.2) := Rg.far ne1 v1
     have x0 : ((gw.setCell ⟨uw10.heap.size, 0, none⟩ (.int .i64 r1)).setCell ⟨uw10.heap.size, 1, none⟩ (.int .i64 r2)).cell? ⟨g, k * 2, none⟩ = some (.int .i64 x.1) := Rg.far ne1 x0
     have x1 : ((gw.setCell ⟨uw10.heap.size, 0, none⟩ (.int .i64 r1)).setCell ⟨uw10.heap.size, 1, none⟩ (.int .i64 r2)).cell? ⟨g, k * 2 + 1, none⟩ = some (.int .i64 x.2) := Rg.far ne1 x1
     have y0 : ((gw.setCell ⟨uw10.heap.size, 0, none⟩ (.int .i64 r1)).setCell ⟨uw10.heap.size, 1, none⟩ (.int .i64 r2)).frozen? ⟨g, k * 2, none⟩ = false := by simpa [World.frozen?_setCell] using y0
     have y1 : ((gw.setCell ⟨uw10.heap.size, 0, none⟩ (.int .i64 r1)).setCell ⟨uw10.heap.size, 1, none⟩ (.int .i64 r2)).frozen? ⟨g, k * 2 + 1, none⟩ = false := by simpa [World.frozen?_setCell] using y1
     have hst := st2 (x := .int .i64 r1) (y := .int .i64 r2) m0 m1
     obtain ⟨s0, s1⟩ := hst
     have KS : Below wr.heap.size wr ((gw.setCell ⟨uw10.heap.size, 0, none⟩ (.int .i64 r1)).setCell ⟨uw10.heap.size, 1, none⟩ (.int .i64 r2)) := (Below.setCell (Below.setCell KC (by dsimp only; omega) _) (by dsimp only; omega) _)
     have lm : uw10.heap.size < ((gw.setCell ⟨uw10.heap.size, 0, none⟩ (.int .i64 r1)).setCell ⟨uw10.heap.size, 1, none⟩ (.int .i64 r2)).heap.size := World.block_lt_of_cell? _ _ s0
     have lo0 : w.heap.size < ((gw.setCell ⟨uw10.heap.size, 0, none⟩ (.int .i64 r1)).setCell ⟨uw10.heap.size, 1, none⟩ (.int .i64 r2)).heap.size := by simp; omega
     have lo1 : g < ((gw.setCell ⟨uw10.heap.size, 0, none⟩ (.int .i64 r1)).setCell ⟨uw10.heap.size, 1, none⟩ (.int .i64 r2)).heap.size := by simp; omega
     clear KC m0 fm0 m1 fm1
     generalize ((gw.setCell ⟨uw10.heap.size, 0, none⟩ (.int .i64 r1)).setCell ⟨uw10.heap.size, 1, none⟩ (.int .i64 r2)) = gs at *
     have HO2 := Lib.hid (own_belowE HOr.out KS)
     have hgg : g < gs.heap.size := World.block_lt_of_cell? _ _ x0
     go_roundw
     case rel =>
      refine ⟨k + 1, k, X ++ [(r1, r2)], (r1, r2), by simp, rfl, by omega, by rw [List.length_append, hXl]; rfl, getD_appR hXl _ _, Lib.hid hrr.out.2, Lib.hid hrr.out.1, ?_, ?_, ?_⟩
      ·have h5 := row_two HO2.out HLL.out hkn r1 r2
       rw [hdr2.out, set_app hXl] at h5
       rw [List.append_assoc, List.singleton_append]
       exact Lib.hid h5
      ·exact Lib.hid ⟨far2o hgw' t0, far2o hgw' t1, far2o hgw' t2, far2o hgw' t3, far2o hgw' t4⟩
      ·exact (((hB.out.trans (KS.mono (by omega))).setCell (p := ⟨g, k * 2, none⟩) (Nat.le_refl _) _).setCell (p := ⟨g, k * 2 + 1, none⟩) (Nat.le_refl _) _) |> Lib.hid
     case measure => simp [intOf]; omega
    ·have hE : ER = f3 := by rw [<- hER.out, hdr.out, runE_cons, hq.out, if_pos hz]
     have z1 : (f3 != 0) = true := by simpa using hz
     have z2 : (f3 == 0) = false := by simpa using hz
     have HE := Lib.hid hE
     have HZ := Lib.hid hz
     clear hER hS hdr hq hE AP hz
     go_wp2_with fail
     have t0 : ((gw.setCell ⟨uw10.heap.size, 0, none⟩ (.int .i64 r1)).setCell ⟨uw10.heap.size, 1, none⟩ (.int .i64 r2)).cell? ⟨w.heap.size, 0, none⟩ = some (.int .i64 K) := Rg.far ne0 t0
     have t1 : ((gw.setCell ⟨uw10.heap.size, 0, none⟩ (.int .i64 r1)).setCell ⟨uw10.heap.size, 1, none⟩ (.int .i64 r2)).cell? ⟨w.heap.size, 1, none⟩ = some (.int .i64 B) := Rg.far ne0 t1
     have t2 : ((gw.setCell ⟨uw10.heap.size, 0, none⟩ (.int .i64 r1)).setCell ⟨uw10.heap.size, 1, none⟩ (.int .i64 r2)).cell? ⟨w.heap.size, 2, none⟩ = some (.int .i64 F) := Rg.far ne0 t2
     have t3 : ((gw.setCell ⟨uw10.heap.size, 0, none⟩ (.int .i64 r1)).setCell ⟨uw10.heap.size, 1, none⟩ (.int .i64 r2)).cell? ⟨w.heap.size, 3, none⟩ = some (.int .i64 R) := Rg.far ne0 t3
     have t4 : ((gw.setCell ⟨uw10.heap.size, 0, none⟩ (.int .i64 r1)).setCell ⟨uw10.heap.size, 1, none⟩ (.int .i64 r2)).cell? ⟨w.heap.size, 4, none⟩ = some (.int .i64 O) := Rg.far ne0 t4
     have v0 : ((gw.setCell ⟨uw10.heap.size, 0, none⟩ (.int .i64 r1)).setCell ⟨uw10.heap.size, 1, none⟩ (.int .i64 r2)).cell? ⟨g, j * 2, none⟩ = some (.int .i64 v.1) := Rg.far ne1 v0
     have v1 : ((gw.setCell ⟨uw10.heap.size, 0, none⟩ (.int .i64 r1)).setCell ⟨uw10.heap.size, 1, none⟩ (.int .i64 r2)).cell? ⟨g, j * 2 + 1, none⟩ = some (.int .i64 v.2) := Rg.far ne1 v1
     have x0 : ((gw.setCell ⟨uw10.heap.size, 0, none⟩ (.int .i64 r1)).setCell ⟨uw10.heap.size, 1, none⟩ (.int .i64 r2)).cell? ⟨g, k * 2, none⟩ = some (.int .i64 x.1) := Rg.far ne1 x0
     have x1 : ((gw.setCell ⟨uw10.heap.size, 0, none⟩ (.int .i64 r1)).setCell ⟨uw10.heap.size, 1, none⟩ (.int .i64 r2)).cell? ⟨g, k * 2 + 1, none⟩ = some (.int .i64 x.2) := Rg.far ne1 x1
     have y0 : ((gw.setCell ⟨uw10.heap.size, 0, none⟩ (.int .i64 r1)).setCell ⟨uw10.heap.size, 1, none⟩ (.int .i64 r2)).frozen? ⟨g, k * 2, none⟩ = false := by simpa [World.frozen?_setCell] using y0
     have y1 : ((gw.setCell ⟨uw10.heap.size, 0, none⟩ (.int .i64 r1)).setCell ⟨uw10.heap.size, 1, none⟩ (.int .i64 r2)).frozen? ⟨g, k * 2 + 1, none⟩ = false := by simpa [World.frozen?_setCell] using y1
     have hst := st2 (x := .int .i64 r1) (y := .int .i64 r2) m0 m1
     obtain ⟨s0, s1⟩ := hst
     have KS : Below wr.heap.size wr ((gw.setCell ⟨uw10.heap.size, 0, none⟩ (.int .i64 r1)).setCell ⟨uw10.heap.size, 1, none⟩ (.int .i64 r2)) := (Below.setCell (Below.setCell KC (by dsimp only; omega) _) (by dsimp only; omega) _)
     have lm : uw10.heap.size < ((gw.setCell ⟨uw10.heap.size, 0, none⟩ (.int .i64 r1)).setCell ⟨uw10.heap.size, 1, none⟩ (.int .i64 r2)).heap.size := World.block_lt_of_cell? _ _ s0
     have lo0 : w.heap.size < ((gw.setCell ⟨uw10.heap.size, 0, none⟩ (.int .i64 r1)).setCell ⟨uw10.heap.size, 1, none⟩ (.int .i64 r2)).heap.size := by simp; omega
     have lo1 : g < ((gw.setCell ⟨uw10.heap.size, 0, none⟩ (.int .i64 r1)).setCell ⟨uw10.heap.size, 1, none⟩ (.int .i64 r2)).heap.size := by simp; omega
     clear KC m0 fm0 m1 fm1
     generalize ((gw.setCell ⟨uw10.heap.size, 0, none⟩ (.int .i64 r1)).setCell ⟨uw10.heap.size, 1, none⟩ (.int .i64 r2)) = gs at *
     go_ret
     exact ⟨by rw [HE.out]; rfl, hB.out.trans (KS.mono (by omega)), fun h0 => absurd (HE.out.symm.trans h0) HZ.out⟩
   ·rw [if_pos (by kernel_rfl)]
    go_simp
    have hNew := HS.out _ _ hHeld ((Below.refl _ _).alloc (Nat.le_refl _) (Obj.cells #[Value.int .i64 0, Value.int .i64 0] 29))
    refine hK.out _ _ hNew (fun _ => ?_)
    replace hHeld := hNew
    clear hNew
    clear hK KK
    refine Rk.one (i := 10) (by kernel_rfl) rfl (fun KK hK => ?_)
    rw [if_pos (by kernel_rfl)]
    go_simp
    ((with_reducible refine (AP.out _).mono ?_); rintro e uw10 ⟨rfl, hb⟩)
    have hNew := HS.out _ _ hHeld hb
    have hs_uw10 : wr.heap.size <= uw10.heap.size := by have hzz := hb.size; (try simp at hzz); omega
    have m0 : uw10.cell? ⟨wr.heap.size, 0, none⟩ = some (.int .i64 0) := Rg.keep hb (by simp) (by go_cell)
    have fm0 : uw10.frozen? ⟨wr.heap.size, 0, none⟩ = false := Rg.keepF hb (by simp) (by show (wr.drew.alloc (Obj.cells #[Value.int .i64 0, Value.int .i64 0] 29)).frozen? ⟨wr.drew.heap.size, 0, none⟩ = false; simp only [frozen?_alloc_cells]; exact Rg.notFrozen (Nat.le_refl _))
    have m1 : uw10.cell? ⟨wr.heap.size, 1, none⟩ = some (.int .i64 0) := Rg.keep hb (by simp) (by go_cell)
    have fm1 : uw10.frozen? ⟨wr.heap.size, 1, none⟩ = false := Rg.keepF hb (by simp) (by show (wr.drew.alloc (Obj.cells #[Value.int .i64 0, Value.int .i64 0] 29)).frozen? ⟨wr.drew.heap.size, 1, none⟩ = false; simp only [frozen?_alloc_cells]; exact Rg.notFrozen (Nat.le_refl _))
    first | (refine hK.out _ _ (fun _ => hNew) (fun _ => ?_)) | (refine hK.out _ _ hNew (fun _ => ?_)) | (go_wp2_with fail; refine hK.out _ _ hNew (fun _ => ?_))
    replace hHeld := hNew
    clear hNew hb
    clear hK KK
    refine SqR.p 11 ?_
    refine SqR.p 12 ?_
    refine SqR.p 13 ?_
    refine Rk.tail [15, 16] [_, _] (by kernel_rfl) (by kernel_rfl) rfl (by decide) ?_
    obtain ⟨t0, t1, t2, t3, t4, v0, v1, x0, x1, y0, y1, KC⟩ := hHeld
    have lm : wr.heap.size < uw10.heap.size := World.block_lt_of_cell? _ _ m0
    have lw : wr.heap.size <= wr.heap.size := by omega
    have ne0 : wr.heap.size ≠ w.heap.size := by omega
    have ne1 : wr.heap.size ≠ g := by omega
    have lo0 : w.heap.size < uw10.heap.size := by omega
    have lo1 : g < uw10.heap.size := by omega
    by_cases hz : f3 = 0
    ·subst hz
     have hst : runE (fop K B F R O) (r1, r2) (L.drop (k + 1)) = ER := by rw [<- hER.out, hdr.out, runE_cons, hq.out]; rfl
     have hsv : X ++ [(r1, r2)] ++ run (fop K B F R O) (r1, r2) (L.drop (k + 1)) = S := by rw [<- hS.out, hdr.out, run_cons, hq.out]; simp
     have hrr := Lib.hid (And.intro hst hsv)
     clear hst hsv hER hS hdr hq AP
     go_wp2_with fail
     have t0 : ((uw10.setCell ⟨wr.heap.size, 0, none⟩ (.int .i64 r1)).setCell ⟨wr.heap.size, 1, none⟩ (.int .i64 r2)).cell? ⟨w.heap.size, 0, none⟩ = some (.int .i64 K) := Rg.far ne0 t0
     have t1 : ((uw10.setCell ⟨wr.heap.size, 0, none⟩ (.int .i64 r1)).setCell ⟨wr.heap.size, 1, none⟩ (.int .i64 r2)).cell? ⟨w.heap.size, 1, none⟩ = some (.int .i64 B) := Rg.far ne0 t1
     have t2 : ((uw10.setCell ⟨wr.heap.size, 0, none⟩ (.int .i64 r1)).setCell ⟨wr.heap.size, 1, none⟩ (.int .i64 r2)).cell? ⟨w.heap.size, 2, none⟩ = some (.int .i64 F) := Rg.far ne0 t2
     have t3 : ((uw10.setCell ⟨wr.heap.size, 0, none⟩ (.int .i64 r1)).setCell ⟨wr.heap.size, 1, none⟩ (.int .i64 r2)).cell? ⟨w.heap.size, 3, none⟩ = some (.int .i64 R) := Rg.far ne0 t3
     have t4 : ((uw10.setCell ⟨wr.heap.size, 0, none⟩ (.int .i64 r1)).setCell ⟨wr.heap.size, 1, none⟩ (.int .i64 r2)).cell? ⟨w.heap.size, 4, none⟩ = some (.int .i64 O) := Rg.far ne0 t4
     have v0 : ((uw10.setCell ⟨wr.heap.size, 0, none⟩ (.int .i64 r1)).setCell ⟨wr.heap.size, 1, none⟩ (.int .i64 r2)).cell? ⟨g, j * 2, none⟩ = some (.int .i64 v.1) := Rg.far ne1 v0
     have v1 : ((uw10.setCell ⟨wr.heap.size, 0, none⟩ (.int .i64 r1)).setCell ⟨wr.heap.size, 1, none⟩ (.int .i64 r2)).cell? ⟨g, j * 2 + 1, none⟩ = some (.int .i64 v.2) := Rg.far ne1 v1
     have x0 : ((uw10.setCell ⟨wr.heap.size, 0, none⟩ (.int .i64 r1)).setCell ⟨wr.heap.size, 1, none⟩ (.int .i64 r2)).cell? ⟨g, k * 2, none⟩ = some (.int .i64 x.1) := Rg.far ne1 x0
     have x1 : ((uw10.setCell ⟨wr.heap.size, 0, none⟩ (.int .i64 r1)).setCell ⟨wr.heap.size, 1, none⟩ (.int .i64 r2)).cell? ⟨g, k * 2 + 1, none⟩ = some (.int .i64 x.2) := Rg.far ne1 x1
     have y0 : ((uw10.setCell ⟨wr.heap.size, 0, none⟩ (.int .i64 r1)).setCell ⟨wr.heap.size, 1, none⟩ (.int .i64 r2)).frozen? ⟨g, k * 2, none⟩ = false := by simpa [World.frozen?_setCell] using y0
     have y1 : ((uw10.setCell ⟨wr.heap.size, 0, none⟩ (.int .i64 r1)).setCell ⟨wr.heap.size, 1, none⟩ (.int .i64 r2)).frozen? ⟨g, k * 2 + 1, none⟩ = false := by simpa [World.frozen?_setCell] using y1
     have hst := st2 (x := .int .i64 r1) (y := .int .i64 r2) m0 m1
     obtain ⟨s0, s1⟩ := hst
     have KS : Below wr.heap.size wr ((uw10.setCell ⟨wr.heap.size, 0, none⟩ (.int .i64 r1)).setCell ⟨wr.heap.size, 1, none⟩ (.int .i64 r2)) := (Below.setCell (Below.setCell KC (by dsimp only; omega) _) (by dsimp only; omega) _)
     have lm : wr.heap.size < ((uw10.setCell ⟨wr.heap.size, 0, none⟩ (.int .i64 r1)).setCell ⟨wr.heap.size, 1, none⟩ (.int .i64 r2)).heap.size := World.block_lt_of_cell? _ _ s0
     have lo0 : w.heap.size < ((uw10.setCell ⟨wr.heap.size, 0, none⟩ (.int .i64 r1)).setCell ⟨wr.heap.size, 1, none⟩ (.int .i64 r2)).heap.size := by simp; omega
     have lo1 : g < ((uw10.setCell ⟨wr.heap.size, 0, none⟩ (.int .i64 r1)).setCell ⟨wr.heap.size, 1, none⟩ (.int .i64 r2)).heap.size := by simp; omega
     clear KC m0 fm0 m1 fm1
     generalize ((uw10.setCell ⟨wr.heap.size, 0, none⟩ (.int .i64 r1)).setCell ⟨wr.heap.size, 1, none⟩ (.int .i64 r2)) = gs at *
     have HO2 := Lib.hid (own_belowE HOr.out KS)
     have hgg : g < gs.heap.size := World.block_lt_of_cell? _ _ x0
     go_roundw
     case rel =>
      refine ⟨k + 1, k, X ++ [(r1, r2)], (r1, r2), by simp, rfl, by omega, by rw [List.length_append, hXl]; rfl, getD_appR hXl _ _, Lib.hid hrr.out.2, Lib.hid hrr.out.1, ?_, ?_, ?_⟩
      ·have h5 := row_two HO2.out HLL.out hkn r1 r2
       rw [hdr2.out, set_app hXl] at h5
       rw [List.append_assoc, List.singleton_append]
       exact Lib.hid h5
      ·exact Lib.hid ⟨far2o hgw' t0, far2o hgw' t1, far2o hgw' t2, far2o hgw' t3, far2o hgw' t4⟩
      ·exact (((hB.out.trans (KS.mono (by omega))).setCell (p := ⟨g, k * 2, none⟩) (Nat.le_refl _) _).setCell (p := ⟨g, k * 2 + 1, none⟩) (Nat.le_refl _) _) |> Lib.hid
     case measure => simp [intOf]; omega
    ·have hE : ER = f3 := by rw [<- hER.out, hdr.out, runE_cons, hq.out, if_pos hz]
     have z1 : (f3 != 0) = true := by simpa using hz
     have z2 : (f3 == 0) = false := by simpa using hz
     have HE := Lib.hid hE
     have HZ := Lib.hid hz
     clear hER hS hdr hq hE AP hz
     go_wp2_with fail
     have t0 : ((uw10.setCell ⟨wr.heap.size, 0, none⟩ (.int .i64 r1)).setCell ⟨wr.heap.size, 1, none⟩ (.int .i64 r2)).cell? ⟨w.heap.size, 0, none⟩ = some (.int .i64 K) := Rg.far ne0 t0
     have t1 : ((uw10.setCell ⟨wr.heap.size, 0, none⟩ (.int .i64 r1)).setCell ⟨wr.heap.size, 1, none⟩ (.int .i64 r2)).cell? ⟨w.heap.size, 1, none⟩ = some (.int .i64 B) := Rg.far ne0 t1
     have t2 : ((uw10.setCell ⟨wr.heap.size, 0, none⟩ (.int .i64 r1)).setCell ⟨wr.heap.size, 1, none⟩ (.int .i64 r2)).cell? ⟨w.heap.size, 2, none⟩ = some (.int .i64 F) := Rg.far ne0 t2
     have t3 : ((uw10.setCell ⟨wr.heap.size, 0, none⟩ (.int .i64 r1)).setCell ⟨wr.heap.size, 1, none⟩ (.int .i64 r2)).cell? ⟨w.heap.size, 3, none⟩ = some (.int .i64 R) := Rg.far ne0 t3
     have t4 : ((uw10.setCell ⟨wr.heap.size, 0, none⟩ (.int .i64 r1)).setCell ⟨wr.heap.size, 1, none⟩ (.int .i64 r2)).cell? ⟨w.heap.size, 4, none⟩ = some (.int .i64 O) := Rg.far ne0 t4
     have v0 : ((uw10.setCell ⟨wr.heap.size, 0, none⟩ (.int .i64 r1)).setCell ⟨wr.heap.size, 1, none⟩ (.int .i64 r2)).cell? ⟨g, j * 2, none⟩ = some (.int .i64 v.1) := Rg.far ne1 v0
     have v1 : ((uw10.setCell ⟨wr.heap.size, 0, none⟩ (.int .i64 r1)).setCell ⟨wr.heap.size, 1, none⟩ (.int .i64 r2)).cell? ⟨g, j * 2 + 1, none⟩ = some (.int .i64 v.2) := Rg.far ne1 v1
     have x0 : ((uw10.setCell ⟨wr.heap.size, 0, none⟩ (.int .i64 r1)).setCell ⟨wr.heap.size, 1, none⟩ (.int .i64 r2)).cell? ⟨g, k * 2, none⟩ = some (.int .i64 x.1) := Rg.far ne1 x0
     have x1 : ((uw10.setCell ⟨wr.heap.size, 0, none⟩ (.int .i64 r1)).setCell ⟨wr.heap.size, 1, none⟩ (.int .i64 r2)).cell? ⟨g, k * 2 + 1, none⟩ = some (.int .i64 x.2) := Rg.far ne1 x1
     have y0 : ((uw10.setCell ⟨wr.heap.size, 0, none⟩ (.int .i64 r1)).setCell ⟨wr.heap.size, 1, none⟩ (.int .i64 r2)).frozen? ⟨g, k * 2, none⟩ = false := by simpa [World.frozen?_setCell] using y0
     have y1 : ((uw10.setCell ⟨wr.heap.size, 0, none⟩ (.int .i64 r1)).setCell ⟨wr.heap.size, 1, none⟩ (.int .i64 r2)).frozen? ⟨g, k * 2 + 1, none⟩ = false := by simpa [World.frozen?_setCell] using y1
     have hst := st2 (x := .int .i64 r1) (y := .int .i64 r2) m0 m1
     obtain ⟨s0, s1⟩ := hst
     have KS : Below wr.heap.size wr ((uw10.setCell ⟨wr.heap.size, 0, none⟩ (.int .i64 r1)).setCell ⟨wr.heap.size, 1, none⟩ (.int .i64 r2)) := (Below.setCell (Below.setCell KC (by dsimp only; omega) _) (by dsimp only; omega) _)
     have lm : wr.heap.size < ((uw10.setCell ⟨wr.heap.size, 0, none⟩ (.int .i64 r1)).setCell ⟨wr.heap.size, 1, none⟩ (.int .i64 r2)).heap.size := World.block_lt_of_cell? _ _ s0
     have lo0 : w.heap.size < ((uw10.setCell ⟨wr.heap.size, 0, none⟩ (.int .i64 r1)).setCell ⟨wr.heap.size, 1, none⟩ (.int .i64 r2)).heap.size := by simp; omega
     have lo1 : g < ((uw10.setCell ⟨wr.heap.size, 0, none⟩ (.int .i64 r1)).setCell ⟨wr.heap.size, 1, none⟩ (.int .i64 r2)).heap.size := by simp; omega
     clear KC m0 fm0 m1 fm1
     generalize ((uw10.setCell ⟨wr.heap.size, 0, none⟩ (.int .i64 r1)).setCell ⟨wr.heap.size, 1, none⟩ (.int .i64 r2)) = gs at *
     go_ret
     exact ⟨by rw [HE.out]; rfl, hB.out.trans (KS.mono (by omega)), fun h0 => absurd (HE.out.symm.trans h0) HZ.out⟩
  ·have ej : k = n := by omega
   have HS9 : Hid (X = S) := Lib.hid (by rw [<- hS.out, List.drop_of_length_le (by rw [HL.out]; omega)]; exact (List.append_nil X).symm)
   have HE9 : Hid (0 = ER) := Lib.hid (by rw [<- hER.out, List.drop_of_length_le (by rw [HL.out]; omega)]; rfl)
   have HO9 : Hid (wr.ownsRow Bs 29 2 (.slice (some ⟨g, 0, none⟩) n c) n (flV X)) := Lib.hid (by
    have h := HOr.out
    rw [List.drop_of_length_le (by rw [HL.out]; omega), List.append_nil] at h
    exact h)
   have g1 : decide ((k : Int) < n) = false := by simp; omega
   have g2 : (n : Int) <= k := by omega
   clear hS hER HOr HTr hXv hXl hkj ej hkn1 hkn
   go_wp2_with fail
   go_ret
   exact ⟨by rw [HE9.out]; rfl, hB.out, fun _ => by rw [<- HS9.out]; exact HO9.out⟩
end Go.Proofs.YteaaikmejacpaaaGreatDoor.Te
