/- The predicates of package shape: ContainsFunc; what Validate answers, as a plain function. -/
import Derived.Test.YteaaikmejacpaaaGreatDoorRows
import Derived.WalkKit
import Derived.ProofKit
import Derived.OpenShut
import Derived.WalkLawsBesides
import Derived.WalkSpells
import Derived.Outline
import Derived.Handy
import Derived.IntWalk
import Derived.Deep.QuietTactic
import Derived.BigQuiet
import Derived.Lib.Hide
import Derived.OwnWalk
import Derived.Laws.OwnMore
import Derived.Deep.RegionHeld
import Derived.Test.YteaaikmejacpaaaGreatDoorR8
import Derived.Laws.AppendOwn
import Derived.Deep.Onto

namespace Go.Proofs.YteaaikmejacpaaaGreatDoor.Sh
open Go.ChangeShapes Go.WideShapes Go.ChangeAt Go.RowKit
set_option maxRecDepth 8000
set_option linter.unusedVariables false
set_option linter.unusedSimpArgs false
/-- A slice value reads as a list of integers. -/
def SlI (w : World) (p : Option Addr) (zs : List Int) : Prop := ∀ i, i < zs.length -> ∃ b o, p = some ⟨b, o, none⟩ /\ w.cell? ⟨b, o + i, none⟩ = some (.int .i64 (zs.getD i 0))
theorem ret_int {k : IntKind} {a b : Int} (h : a = b) : Ending.returned (.int k a) = .returned (.int k b) := by rw [h]
theorem ret_bool {a b : Bool} (h : a = b) : Ending.returned (.bool a) = .returned (.bool b) := by rw [h]
theorem getD_at {zs : List Int} {k : Nat} (h : k < zs.length) : zs.getD k 0 = zs[k] := by
 unfold List.getD
 rw [List.getElem?_eq_getElem h]
 rfl
theorem any_take {zs : List Int} {f : Int -> Bool} {k : Nat} (h : ∀ j, j < k -> f (zs.getD j 0) = false) (hk : k = zs.length) : zs.any f = false := by
 rw [List.any_eq_false]
 intro x hx
 obtain ⟨j, hj, rfl⟩ := List.getElem_of_mem hx
 have := h j (by omega)
 rw [getD_at hj] at this
 simpa using this
theorem any_at {zs : List Int} {f : Int -> Bool} {k : Nat} (h : f (zs.getD k 0) = true) (hk : k < zs.length) : zs.any f = true := by
 rw [List.any_eq_true]
 exact ⟨zs[k], List.getElem_mem hk, by rw [getD_at hk] at h; exact h⟩
def low (z : Int) : Bool := decide (z < 1)
theorem c47 (n : Int) (w : World) : Calls Tryz.prog 83 #[.int .i64 n] w fun e w' => e = .returned (.bool (low n)) /\ w = w' := by
 go_enter Tryz.func83, Tryz.ntmps83
 go_wp2
 go_ret
 exact ⟨rfl, rfl⟩
def IX (zs : List Int) (w : World) (e : Ending) (w' : World) : Prop := ∃ r : Int, e = .returned (.int .i64 r) /\ decide (0 <= r) = zs.any low /\ w = w'
set_option maxHeartbeats 2000000 in
theorem c53 (p : Option Addr) (zs : List Int) (c : Nat) (w : World) (hn : zs.length <= maxLen) (RA : Hid (SlI w p zs)) :
  Calls Tryz.prog 108 #[.slice p zs.length c, .func (.func 83) #[] #[]] w (IX zs w) := by
 unfold maxLen at hn
 go_enter Tryz.func108, Tryz.ntmps108
 go_wp2
 go_loop [8] (fun i => ∃ k : Nat, i = .int .i64 k /\ k <= zs.length /\ Hid (∀ j, j < k -> low (zs.getD j 0) = false)) (fun i => zs.length - (intOf i).toNat)
 case atStart => exact ⟨0, rfl, by omega, Lib.hid fun j hj => by omega⟩
 case round =>
  obtain ⟨k, rfl, hk, hL⟩ := hrel
  by_cases hlt : k < zs.length
  ·obtain ⟨b, o, rfl, hc⟩ := RA.out k hlt
   obtain ⟨z, hz⟩ : ∃ z, zs.getD k 0 = z := ⟨_, rfl⟩
   rw [hz] at hc
   obtain ⟨x, hx⟩ : ∃ x, low z = x := ⟨_, rfl⟩
   have HX := Lib.hid hx
   have HZ := Lib.hid hz
   have C := Lib.hid fun w => c47 z w
   rw [hx] at C
   clear hx hz
   cases x
   ·go_wp2_with (go_at_call 83; refine (C.out _).mono ?_; rintro e w' ⟨rfl, rfl⟩)
    go_round
    case rel => exact ⟨k + 1, by go_num, by omega, Lib.hid fun j hj => by
     rcases (by omega : j < k \/ j = k) with h | rfl
     ·exact hL.out j h
     ·rw [HZ.out]; exact HX.out⟩
    case measure => simp [intOf]; omega
   ·go_wp2_with (go_at_call 83; refine (C.out _).mono ?_; rintro e w' ⟨rfl, rfl⟩)
    go_ret
    exact ⟨_, rfl, by rw [any_at (k := k) (by rw [HZ.out]; exact HX.out) hlt]; simp, rfl⟩
  ·go_wp2
   go_ret
   exact ⟨_, rfl, by rw [any_take (k := k) hL.out (by omega)]; rfl, rfl⟩
theorem c46 (p : Option Addr) (zs : List Int) (c : Nat) (w : World) (hn : zs.length <= maxLen) (RA : Hid (SlI w p zs)) :
  Calls Tryz.prog 82 #[.slice p zs.length c, .func (.func 83) #[] #[]] w fun e w' => e = .returned (.bool (zs.any low)) /\ w = w' := by
 have C := Lib.hid (c53 p zs c w hn RA)
 go_enter Tryz.func82, Tryz.ntmps82
 go_wp2_with (go_at_call 108; refine (C.out).mono ?_; rintro e w' ⟨r, rfl, hr, rfl⟩; have HR := Lib.hid hr; clear hr)
 go_ret
 exact ⟨ret_bool HR.out, rfl⟩
/-- The product as long as it stays within the limit. -/
def pr : Int -> List Int -> Option Int
 | s, [] => some s
 | s, z :: zs => if 4096 < s * z then none else pr (s * z) zs
/-- What Validate answers. -/
def vE (zs : List Int) : Int := if 6 < zs.length then 2 else if zs.any low = true then 1 else if pr 1 zs = none then 2 else 0
theorem drop_cons {zs : List Int} {k : Nat} (h : k < zs.length) : zs.drop k = zs.getD k 0 :: zs.drop (k + 1) := by
 rw [List.drop_eq_getElem_cons h, getD_at h]
theorem pos_of {zs : List Int} (h : zs.any low = false) {k : Nat} (hk : k < zs.length) : 1 <= zs.getD k 0 := by
 rw [List.any_eq_false] at h
 have := h zs[k] (List.getElem_mem hk)
 rw [getD_at hk]
 unfold low at this
 simp at this
 omega
theorem quo_lt (s z : Int) (hs : 1 <= s) (hs' : s <= 4096) : 4096 / s < z ↔ 4096 < s * z := by
 constructor
 ·intro h
  have h1 := Int.lt_mul_of_ediv_lt (by omega : 0 < s) h
  rw [Int.mul_comm] at h1
  exact h1
 ·intro h
  rw [Int.mul_comm] at h
  exact Int.ediv_lt_of_lt_mul (by omega : 0 < s) h
end Go.Proofs.YteaaikmejacpaaaGreatDoor.Sh


namespace Go.Proofs.YteaaikmejacpaaaGreatDoor.Sh
open Go.ChangeShapes Go.WideShapes Go.ChangeAt Go.RowKit
set_option maxRecDepth 8000
set_option linter.unusedVariables false
set_option linter.unusedSimpArgs false
theorem vE_long {zs : List Int} (h : 6 < zs.length) : vE zs = 2 := by unfold vE; rw [if_pos h]
theorem vE_low {zs : List Int} (h : ¬ 6 < zs.length) (h1 : zs.any low = true) : vE zs = 1 := by unfold vE; rw [if_neg h, if_pos h1]
theorem vE_none {zs : List Int} (h : ¬ 6 < zs.length) (h1 : zs.any low = false) (h2 : pr 1 zs = none) : vE zs = 2 := by unfold vE; rw [if_neg h, h1, if_neg (by decide), if_pos h2]
theorem vE_some {zs : List Int} {s : Int} (h : ¬ 6 < zs.length) (h1 : zs.any low = false) (h2 : pr 1 zs = some s) : vE zs = 0 := by unfold vE; rw [if_neg h, h1, if_neg (by decide), h2, if_neg (by simp)]
theorem pr_none {s z : Int} {zs : List Int} (h : 4096 < s * z) : pr s (z :: zs) = none := by unfold pr; rw [if_pos h]
theorem pr_go {s z : Int} {zs : List Int} (h : ¬ 4096 < s * z) : pr s (z :: zs) = pr (s * z) zs := by
 show (if 4096 < s * z then none else pr (s * z) zs) = _
 rw [if_neg h]
set_option maxHeartbeats 4000000 in
theorem c14 (p : Option Addr) (zs : List Int) (c : Nat) (w : World) (hn : zs.length <= maxLen) (RA : Hid (SlI w p zs)) :
  Calls Tryz.prog 47 #[.slice p zs.length c] w fun e w' => e = .returned (.int .i64 (vE zs)) /\ w = w' := by
 have C := Lib.hid (c46 p zs c w hn RA)
 unfold maxLen at hn
 by_cases h6 : 6 < zs.length
 ·rw [vE_long h6]
  have l1 : decide ((6 : Int) < zs.length) = true := by simp <;> omega
  go_enter Tryz.func47, Tryz.ntmps47
  go_wp2
  go_ret
  exact ⟨rfl, rfl⟩
 ·have l1 : decide ((6 : Int) < zs.length) = false := by simp <;> omega
  have l2 : decide (6 < zs.length) = false := by simp <;> omega
  obtain ⟨x, hx⟩ : ∃ x, zs.any low = x := ⟨_, rfl⟩
  rw [hx] at C
  have HX := Lib.hid hx
  have H6 := Lib.hid h6
  clear h6 hx
  cases x
  ·obtain ⟨V, hV⟩ : ∃ V, vE zs = V := ⟨_, rfl⟩
   rw [hV]
   have HV := Lib.hid hV
   clear hV
   go_enter Tryz.func47, Tryz.ntmps47
   go_wp2_with (go_at_call 82; refine (C.out).mono ?_; rintro e w' ⟨rfl, rfl⟩)
   go_loop [3, 13] (fun s i => ∃ (k : Nat) (S : Int), s = .int .i64 S /\ i = .int .i64 k /\ k <= zs.length /\ 1 <= S /\ S <= 4096 /\ Hid (pr 1 zs = pr S (zs.drop k))) (fun _ i => zs.length - (intOf i).toNat)
   case atStart => exact ⟨0, 1, rfl, rfl, by omega, by omega, by omega, Lib.hid rfl⟩
   case round =>
    obtain ⟨k, S, rfl, rfl, hk, s0, s1, hP⟩ := hrel
    have sz : (S == 0) = false := by simp <;> omega
    by_cases hlt : k < zs.length
    ·obtain ⟨b, o, rfl, hc⟩ := RA.out k hlt
     have z1 := pos_of HX.out hlt
     have hd := drop_cons hlt
     have hq := quo_lt S (zs.getD k 0) s0 s1
     obtain ⟨z, hz⟩ : ∃ z, zs.getD k 0 = z := ⟨_, rfl⟩
     rw [hz] at hc z1 hd hq
     obtain ⟨T, hT⟩ : ∃ T, S * z = T := ⟨_, rfl⟩
     rw [hT] at hq
     obtain ⟨q, hQ⟩ : ∃ q, 4096 / S = q := ⟨_, rfl⟩
     rw [hQ] at hq
     have t0 : 0 < T := by rw [<- hT]; exact Int.mul_pos (by omega) (by omega)
     have HT := Lib.hid hT
     have HD := Lib.hid hd
     clear hz hd
     by_cases hb : 4096 < T
     ·have k1 : decide (q < z) = true := by simp <;> omega
      have e : V = 2 := by rw [<- HV.out]; exact vE_none H6.out HX.out (by rw [hP.out, HD.out]; exact pr_none (by rw [HT.out]; exact hb))
      have HE := Lib.hid e
      clear e hq hT
      go_wp2
      go_ret
      exact ⟨ret_int HE.out.symm, rfl⟩
     ·have k1 : decide (q < z) = false := by simp <;> omega
      have t1 : T <= 4096 := by omega
      have hP2 : Hid (pr 1 zs = pr T (zs.drop (k + 1))) := Lib.hid (by rw [hP.out, HD.out, pr_go (by rw [HT.out]; exact hb), HT.out])
      clear hq hb
      go_wp2
      go_round
      case rel => exact ⟨k + 1, T, rfl, by go_num, by omega, by omega, by omega, hP2⟩
      case measure => simp [intOf]; omega
    ·have e : V = 0 := by
      rw [<- HV.out]
      have h := hP.out
      rw [List.drop_of_length_le (by omega)] at h
      exact vE_some H6.out HX.out h
     have HE := Lib.hid e
     clear e
     go_wp2
     go_ret
     exact ⟨ret_int HE.out.symm, rfl⟩
  ·rw [vE_low H6.out HX.out]
   go_enter Tryz.func47, Tryz.ntmps47
   go_wp2_with (go_at_call 82; refine (C.out).mono ?_; rintro e w' ⟨rfl, rfl⟩)
   go_ret
   exact ⟨rfl, rfl⟩
end Go.Proofs.YteaaikmejacpaaaGreatDoor.Sh


namespace Go.Proofs.YteaaikmejacpaaaGreatDoor.Sh
open Go.ChangeShapes Go.WideShapes Go.ChangeAt Go.RowKit
set_option maxRecDepth 8000
set_option linter.unusedVariables false
set_option linter.unusedSimpArgs false
set_option maxHeartbeats 4000000 in
theorem c16_bad (p : Option Addr) (zs : List Int) (c : Nat) (w : World) (hn : zs.length <= maxLen) (RA : Hid (SlI w p zs)) (hv : (vE zs != 0) = true) :
  Calls Tryz.prog 51 #[.slice p zs.length c] w fun e w' => e = .returned (.int .i64 0) /\ w = w' := by
 have C := Lib.hid (c14 p zs c w hn RA)
 generalize vE zs = e at *
 go_enter Tryz.func51, Tryz.ntmps51
 go_wp2_with (go_at_call 47; refine (C.out).mono ?_; rintro e w' ⟨rfl, rfl⟩)
 go_ret
 exact ⟨rfl, rfl⟩
set_option maxHeartbeats 4000000 in
theorem c16_ok (p : Option Addr) (zs : List Int) (c : Nat) (P : Int) (w : World) (hn : zs.length <= maxLen) (RA : Hid (SlI w p zs)) (hv : vE zs = 0) (hl : Hid (zs.any low = false)) (hP : Hid (pr 1 zs = some P)) :
  Calls Tryz.prog 51 #[.slice p zs.length c] w fun e w' => e = .returned (.int .i64 P) /\ w = w' := by
 have C := Lib.hid (c14 p zs c w hn RA)
 rw [hv] at C
 clear hv
 unfold maxLen at hn
 go_enter Tryz.func51, Tryz.ntmps51
 go_wp2_with (go_at_call 47; refine (C.out).mono ?_; rintro e w' ⟨rfl, rfl⟩)
 go_loop [3, 11] (fun s i => ∃ (k : Nat) (S : Int), s = .int .i64 S /\ i = .int .i64 k /\ k <= zs.length /\ 1 <= S /\ S <= 4096 /\ Hid (pr S (zs.drop k) = some P)) (fun _ i => zs.length - (intOf i).toNat)
 case atStart => exact ⟨0, 1, rfl, rfl, by omega, by omega, by omega, hP⟩
 case round =>
  obtain ⟨k, S, rfl, rfl, hk, s0, s1, hP⟩ := hrel
  by_cases hlt : k < zs.length
  ·obtain ⟨b, o, rfl, hc⟩ := RA.out k hlt
   have z1 := pos_of hl.out hlt
   have hd := drop_cons hlt
   obtain ⟨z, hz⟩ : ∃ z, zs.getD k 0 = z := ⟨_, rfl⟩
   rw [hz] at hc z1 hd
   obtain ⟨T, hT⟩ : ∃ T, S * z = T := ⟨_, rfl⟩
   have t0 : 0 < T := by rw [<- hT]; exact Int.mul_pos (by omega) (by omega)
   have h := hP.out
   rw [hd] at h
   have t1 : T <= 4096 := by
    by_cases hb : 4096 < S * z
    ·rw [pr_none hb] at h
     cases h
    ·omega
   have hP2 : Hid (pr T (zs.drop (k + 1)) = some P) := Lib.hid (by rw [pr_go (by omega), hT] at h; exact h)
   have hd0 := Lib.hid hd
   clear hz hd h
   go_wp2
   go_round
   case rel => exact ⟨k + 1, T, rfl, by go_num, by omega, by omega, by omega, hP2⟩
   case measure => simp [intOf]; omega
  ·have e : S = P := by
    have h := hP.out
    rw [List.drop_of_length_le (by omega)] at h
    exact Option.some.inj h
   subst e
   go_wp2
   go_ret
   exact ⟨rfl, rfl⟩
theorem vE_zero {zs : List Int} (h : vE zs = 0) : zs.length <= 6 /\ zs.any low = false /\ ∃ P, pr 1 zs = some P := by
 unfold vE at h
 by_cases h1 : 6 < zs.length
 ·rw [if_pos h1] at h; cases h
 ·rw [if_neg h1] at h
  by_cases h2 : zs.any low = true
  ·rw [if_pos h2] at h; cases h
  ·rw [if_neg h2] at h
   by_cases h3 : pr 1 zs = none
   ·rw [if_pos h3] at h; cases h
   ·exact ⟨by omega, by simpa using h2, Option.ne_none_iff_exists'.1 h3⟩
def sz (zs : List Int) : Int := if vE zs = 0 then (pr 1 zs).getD 0 else 0
theorem c16 (p : Option Addr) (zs : List Int) (c : Nat) (w : World) (hn : zs.length <= maxLen) (RA : Hid (SlI w p zs)) : Calls Tryz.prog 51 #[.slice p zs.length c] w fun e w' => e = .returned (.int .i64 (sz zs)) /\ w = w' := by
 unfold sz
 by_cases h : vE zs = 0
 ·obtain ⟨_, h2, P, h3⟩ := vE_zero h
  rw [if_pos h, h3]
  exact c16_ok p zs c P w hn RA h (Lib.hid h2) (Lib.hid h3)
 ·rw [if_neg h]
  exact c16_bad p zs c w hn RA (by simpa using h)
end Go.Proofs.YteaaikmejacpaaaGreatDoor.Sh


namespace Go.Proofs.YteaaikmejacpaaaGreatDoor.Sh
open Go.ChangeShapes Go.WideShapes Go.ChangeAt Go.RowKit
set_option maxRecDepth 8000
set_option linter.unusedVariables false
set_option linter.unusedSimpArgs false
/-- The product of a list. -/
def sp : List Int -> Int
 | [] => 1
 | z :: zs => sp zs * z
/-- The strides of a list: for each place the product of what follows. -/
def st (zs : List Int) : List Int := (List.range zs.length).map fun j => sp (zs.drop (j + 1))
theorem st_length (zs : List Int) : (st zs).length = zs.length := by simp [st]
theorem st_get {zs : List Int} {j : Nat} (h : j < zs.length) : (st zs).getD j 0 = sp (zs.drop (j + 1)) := by
 rw [getD_at (by rw [st_length]; exact h)]
 simp [st]
theorem sp_pos : ∀ {zs : List Int}, zs.any low = false -> 1 <= sp zs
 | [], _ => by decide
 | z :: zs, h => by
  simp only [List.any_cons, Bool.or_eq_false_iff] at h
  have h1 := sp_pos h.2
  have h2 : 1 <= z := by have := h.1; unfold low at this; simp at this; omega
  have := Int.mul_le_mul h1 h2 (by decide) (by omega)
  show 1 <= sp zs * z
  omega
theorem pr_sp : ∀ {zs : List Int} {s P : Int}, pr s zs = some P -> P = s * sp zs
 | [], s, P, h => by
  unfold pr at h
  cases h
  show s = s * 1
  omega
 | z :: zs, s, P, h => by
  by_cases hb : 4096 < s * z
  ·rw [pr_none hb] at h; cases h
  ·rw [pr_go hb] at h
   rw [pr_sp h]
   show s * z * sp zs = s * (sp zs * z)
   rw [Int.mul_assoc, Int.mul_comm z]
theorem pr_le : ∀ {zs : List Int} {s P : Int}, s <= 4096 -> pr s zs = some P -> P <= 4096
 | [], s, P, h0, h => by unfold pr at h; cases h; exact h0
 | z :: zs, s, P, h0, h => by
  by_cases hb : 4096 < s * z
  ·rw [pr_none hb] at h; cases h
  ·rw [pr_go hb] at h
   exact pr_le (by omega) h
theorem any_drop {zs : List Int} (h : zs.any low = false) (k : Nat) : (zs.drop k).any low = false := by
 rw [List.any_eq_false] at h ⊢
 intro x hx
 exact h x (List.mem_of_mem_drop hx)
theorem sp_drop_le {zs : List Int} (h : zs.any low = false) : ∀ k, sp (zs.drop k) <= sp zs := by
 induction zs with
 | nil => intro k; simp
 | cons z zs ih =>
  intro k
  simp only [List.any_cons, Bool.or_eq_false_iff] at h
  cases k with
  | zero => exact Int.le_refl _
  | succ k =>
   have h1 := ih h.2 k
   have h2 : 1 <= z := by have := h.1; unfold low at this; simp at this; omega
   have h3 := sp_pos h.2
   have := Int.mul_le_mul_of_nonneg_left h2 (by omega : 0 <= sp zs)
   show sp (zs.drop k) <= sp zs * z
   omega
/-- What a valid list is. -/
theorem valid_of {zs : List Int} (h : vE zs = 0) : zs.length <= 6 /\ zs.any low = false /\ pr 1 zs = some (sp zs) /\ sp zs <= 4096 /\ ∀ k, 1 <= sp (zs.drop k) /\ sp (zs.drop k) <= 4096 := by
 obtain ⟨h1, h2, P, h3⟩ := vE_zero h
 have e := pr_sp h3
 have l := pr_le (by decide) h3
 rw [Int.one_mul] at e
 subst e
 exact ⟨h1, h2, h3, l, fun k => ⟨sp_pos (any_drop h2 k), Int.le_trans (sp_drop_le h2 k) l⟩⟩
theorem info3 : (Tryz.prog.info? 3).map (fun i => (i.zero, i.size, i.bytes)) = some (some (.int .i64 0), 1, 8) := by kernel_rfl
/-- A slice of integers that the call has made. -/
def OW (l : List Int) (w : World) (e : Ending) (w' : World) : Prop := ∃ v, e = .returned v /\ Below w.heap.size w w' /\ w'.ownsRow w.heap.size 3 1 v l.length (l.map (Value.int .i64))
def sts (zs : List Int) : List Int := if vE zs = 0 then st zs else []
theorem below_own {w w' : World} {B : Nat} (hB : B <= w.heap.size) (h : w.grownBy w' none) : Below B w w' := by
 exact (Below.refl _ _).grown h hB (fun k hk => by cases hk)
theorem cells_of {w : World} {base g n cap j : Nat} {xs : List Int} (h : w.ownsRow base 3 1 (.slice (some ⟨g, 0, none⟩) n cap) n (xs.map (Value.int .i64))) (hj : j < n) (hx : xs.length = n) :
  w.cell? ⟨g, j, none⟩ = some (.int .i64 (xs.getD j 0)) := by
 rw [h.cellAt j (by omega), List.getElem?_map, List.getElem?_eq_getElem (by omega), getD_at (by omega)]
 rfl
end Go.Proofs.YteaaikmejacpaaaGreatDoor.Sh


namespace Go.Proofs.YteaaikmejacpaaaGreatDoor.Sh
open Go.ChangeShapes Go.WideShapes Go.ChangeAt Go.RowKit
set_option maxRecDepth 8000
set_option linter.unusedVariables false
set_option linter.unusedSimpArgs false
theorem Rg.keep' {y y' : World} {B b o : Nat} {v : Value} (hy : Below B y y') (hb : b < B) (h : y.cell? ⟨b, o, none⟩ = some v) : y'.cell? ⟨b, o, none⟩ = some v := (hy.cell (p := ⟨b, o, none⟩) hb).trans h
set_option maxHeartbeats 4000000 in
theorem c19_bad (p : Option Addr) (zs : List Int) (c : Nat) (w : World) (hn : zs.length <= maxLen) (RA : Hid (SlI w p zs)) (hv : (vE zs != 0) = true) :
  Calls Tryz.prog 72 #[.slice p zs.length c] w (OW [] w) := by
 have C := Lib.hid (c14 p zs c w hn RA)
 generalize vE zs = e at *
 go_enter Tryz.func72, Tryz.ntmps72
 go_wp2_with (go_at_call 47; refine (C.out).mono ?_; rintro e w' ⟨rfl, rfl⟩)
 go_ret
 exact ⟨_, rfl, Below.refl _ _, World.ownsRow_nil _ _ _ _⟩
set_option maxHeartbeats 8000000 in
theorem c19_ok (p : Option Addr) (zs : List Int) (c : Nat) (w : World) (RA : Hid (SlI w p zs)) (hv : vE zs = 0) :
  Calls Tryz.prog 72 #[.slice p zs.length c] w (OW (st zs) w) := by
 obtain ⟨h6, hl, hP, hS, hD⟩ := valid_of hv
 have C := Lib.hid (c14 p zs c w (by unfold maxLen; omega) RA)
 rw [hv] at C
 clear hv hP hS
 obtain ⟨i0, hi, hz0, hz1, hz2⟩ := info_parts info3
 have HD := Lib.hid hD
 have HL := Lib.hid hl
 clear hD hl
 obtain ⟨n, hn⟩ : ∃ n, zs.length = n := ⟨_, rfl⟩
 have HN := Lib.hid hn
 rw [hn] at C h6 ⊢
 clear hn
 go_enter Tryz.func72, Tryz.ntmps72
 go_wp2_with (first | (go_at_call 47; refine (C.out).mono ?_; rintro e w' ⟨rfl, rfl⟩) | (refine wpList_make_full _ rfl _ _ 24 rfl w.heap.size 3 i0 (.int .i64 0) 1 Tryz.underlying24 hi hz0 hz1 .i64 .i64 _ _ n rfl rfl rfl rfl (by rw [hz2]; omega) (by unfold maxLen; omega) (Nat.le_refl _) ?_; intro w1 hown hg; have hB := below_own (Nat.le_refl _) hg; have hs := hg.size; clear hg hi hz0 hz1 hz2 i0))
 have hown2 : Hid (w1.ownsRow w.heap.size 3 1 (.slice (some ⟨w.heap.size, 0, none⟩) n n) n ((List.replicate n (0 : Int)).map (Value.int .i64))) := Lib.hid (by
  have h := hown
  rw [show (Value.int IntKind.i64 0).cells = #[.int .i64 0] from rfl, toList_madeCells_one, Nat.mul_one] at h
  rw [List.map_replicate]
  exact h)
 clear hown
 go_loopw [4, 5] (fun s i wr => ∃ (m : Nat) (S : Int) (xs : List Int), s = .int .i64 S /\ i = .int .i64 ((m : Int) - 1) /\ m <= n /\ Hid (S = sp (zs.drop m)) /\ 1 <= S /\ S <= 4096 /\ xs.length = n /\ Hid (∀ j, m <= j -> j < n -> xs.getD j 0 = sp (zs.drop (j + 1))) /\ Below w.heap.size w wr /\ w.heap.size < wr.heap.size /\
  Hid (wr.ownsRow w.heap.size 3 1 (.slice (some ⟨w.heap.size, 0, none⟩) n n) n (xs.map (Value.int .i64)))) (fun _ i _ => (intOf i + 1).toNat)
 case atStart =>
  have hlt : w.heap.size < w1.heap.size := (hown2.out.lt w.heap.size rfl).2
  exact ⟨n, 1, _, rfl, rfl, Nat.le_refl _, Lib.hid (by rw [List.drop_of_length_le (by rw [HN.out]; exact Nat.le_refl _)]; rfl), by omega, by omega, by simp, Lib.hid fun j h1 h2 => by omega, hB, hlt, hown2⟩
 case round =>
  obtain ⟨m, S, xs, rfl, rfl, hm, hS, s0, s1, hx, hX, KB, lt, hO⟩ := hrel
  clear hown2 hB hs
  cases m with
  | zero =>
   have e : xs = st zs := by
    refine List.ext_getElem (by rw [st_length, hx, HN.out]) fun j h1 h2 => ?_
    have h := hX.out j (by omega) (by omega)
    rw [<- st_get (by rw [HN.out]; omega), getD_at h1, getD_at h2] at h
    exact h
   have HE := Lib.hid e
   clear e
   go_wp2
   go_ret
   exact ⟨_, rfl, KB, by rw [<- HE.out]; rw [show xs.length = n from hx]; exact hO.out⟩
  | succ m =>
   rw [show ((m + 1 : Nat) : Int) - 1 = (m : Int) by omega]
   obtain ⟨b, o, rfl, hc⟩ := RA.out m (by rw [HN.out]; omega)
   have hb : b < w.heap.size := by have := World.block_lt_of_cell? w _ hc; simpa using this
   have hc := Rg.keep' KB hb hc
   have z1 := pos_of HL.out (k := m) (by rw [HN.out]; omega)
   have hd := drop_cons (zs := zs) (k := m) (by rw [HN.out]; omega)
   obtain ⟨z, hz⟩ : ∃ z, zs.getD m 0 = z := ⟨_, rfl⟩
   rw [hz] at hc z1 hd
   obtain ⟨T, hT⟩ : ∃ T, S * z = T := ⟨_, rfl⟩
   have hsp : T = sp (zs.drop m) := by rw [hd, <- hT, hS.out]; rfl
   have tb := HD.out m
   rw [<- hsp] at tb
   obtain ⟨t0, t1⟩ := tb
   have oc := cells_of hO.out (j := m) (by omega) hx
   have of := hO.out.frozenAt m
   have oS := Lib.hid (hO.out.stored m (.int .i64 S)).1
   have ne : ¬ w.heap.size = b := by omega
   have ne2 : ¬ b = w.heap.size := by omega
   have hc2 : (wr.setCell ⟨w.heap.size, m, none⟩ (.int .i64 S)).cell? ⟨b, o + m, none⟩ = some (.int .i64 z) := by rw [World.cell?_setCell_far _ _ _ _ ne]; exact hc
   have HSP := Lib.hid hsp
   have HDD := Lib.hid hd
   have mlt : m < n := by omega
   have mi : (0 : Int) <= m := by omega
   have mi2 : (m : Int) < n := by omega
   clear hz hd hsp hm
   go_wp2
   go_roundw
   case rel =>
    refine ⟨m, T, xs.set m S, rfl, rfl, by omega, HSP, t0, t1, by simp [hx], Lib.hid fun j h1 h2 => ?_, Below.setCell KB (Nat.le_refl _) _, by simpa using lt, Lib.hid (by rw [List.map_set]; exact oS.out)⟩
    by_cases hj : j = m
    ·subst hj
     rw [getD_at (by simp [hx]; omega), List.getElem_set_self]
     exact hS.out
    ·rw [getD_at (by simp [hx]; omega), List.getElem_set_ne (by omega), <- getD_at (by omega)]
     exact hX.out j (by omega) h2
   case measure => simp [intOf]
end Go.Proofs.YteaaikmejacpaaaGreatDoor.Sh


namespace Go.Proofs.YteaaikmejacpaaaGreatDoor.Te
open Go.ChangeShapes Go.WideShapes Go.ChangeAt Go.RowKit
open Fx Va Sh
set_option maxRecDepth 8000
set_option linter.unusedVariables false
set_option linter.unusedSimpArgs false

theorem below_nq {w w' : World} (n : Nat) (h : Below w.heap.size w w') : Below w.heap.size w (w'.drewN n) := h.trans ⟨rfl, rfl, rfl, Nat.le_refl _, fun _ _ => rfl⟩
set_option maxHeartbeats 4000000 in
/-- The reference's test of a shape. -/
theorem rshape (p : Option Addr) (zs : List Int) (c : Nat) (w : World) (hn : zs.length <= maxLen) (RA : Hid (SlI w p zs)) :
  Calls Tryz.prog 53 #[.slice p zs.length c] w fun e w' => e = .returned (.int .i64 (vE zs)) /\ Below w.heap.size w w' := by
 unfold maxLen at hn
 by_cases h6 : 6 < zs.length
 ·rw [vE_long h6]
  have l1 : decide ((6 : Int) < zs.length) = true := by simp <;> omega
  go_enter Tryz.func53, Tryz.ntmps53
  go_wp2
  go_ret
  exact ⟨rfl, Below.refl _ _⟩
 ·have l1 : decide ((6 : Int) < zs.length) = false := by simp <;> omega
  have l2 : decide (6 < zs.length) = false := by simp <;> omega
  have H6 := Lib.hid h6
  clear h6
  obtain ⟨V, hV⟩ : ∃ V, vE zs = V := ⟨_, rfl⟩
  rw [hV]
  have HV := Lib.hid hV
  clear hV
  go_enter Tryz.func53, Tryz.ntmps53
  go_wp2
  go_loop [3] (fun i => ∃ (k : Nat), i = .int .i64 k /\ k <= zs.length /\ Hid (∀ j, j < k -> low (zs.getD j 0) = false)) (fun i => zs.length - (intOf i).toNat)
  case atStart => exact ⟨0, rfl, by omega, Lib.hid fun j hj => by omega⟩
  case round =>
   obtain ⟨k, rfl, hk, hL⟩ := hrel
   by_cases hlt : k < zs.length
   ·obtain ⟨b, o, rfl, hc⟩ := RA.out k hlt
    obtain ⟨z, hz⟩ : ∃ z, zs.getD k 0 = z := ⟨_, rfl⟩
    rw [hz] at hc
    have HZ := Lib.hid hz
    clear hz
    by_cases hz1 : z < 1
    ·have k1 : decide (z < 1) = true := by simpa using hz1
     have e : V = 1 := by rw [<- HV.out]; exact vE_low H6.out (any_at (k := k) (by rw [HZ.out]; exact k1) hlt)
     have HE := Lib.hid e
     clear e hz1
     go_wp2
     go_ret
     exact ⟨Sh.ret_int HE.out.symm, Below.refl _ _⟩
    ·have k1 : decide (z < 1) = false := by simpa using hz1
     have hL2 : Hid (∀ j, j < k + 1 -> low (zs.getD j 0) = false) := Lib.hid fun j hj => by
      rcases (by omega : j < k \/ j = k) with h | rfl
      ·exact hL.out j h
      ·rw [HZ.out]; exact k1
     clear hz1
     go_wp2
     go_round
     case rel => exact ⟨k + 1, by go_num, by omega, hL2⟩
     case measure => simp [intOf]; omega
   ·have HX : Hid (zs.any low = false) := Lib.hid (any_take (k := k) hL.out (by omega))
    clear hL
    go_wp2
    go_loopw [4, 5] (fun s i wr => ∃ (k : Nat) (S : Int) (r : Nat), s = .int .i64 S /\ i = .int .i64 k /\ k <= zs.length /\ 1 <= S /\ S <= 4096 /\ wr = w.drewN r /\ Hid (pr 1 zs = pr S (zs.drop k))) (fun _ i _ => zs.length - (intOf i).toNat)
    case atStart => exact ⟨0, 1, 0, rfl, rfl, by omega, by omega, by omega, rfl, Lib.hid rfl⟩
    case round =>
     obtain ⟨m, S, r, rfl, rfl, hm, s0, s1, rfl, hP⟩ := hrel
     have mm0 : (0 : Int) <= m := by omega
     by_cases hlt : m < zs.length
     ·obtain ⟨b, o, rfl, hc⟩ := RA.out m hlt
      have m1 : (m : Int) < zs.length := by omega
      have z1 := pos_of HX.out hlt
      have hd := drop_cons hlt
      obtain ⟨z, hz⟩ : ∃ z, zs.getD m 0 = z := ⟨_, rfl⟩
      rw [hz] at hc z1 hd
      have HD := Lib.hid hd
      clear hz hd
      obtain ⟨Q, hQ⟩ : ∃ Q, (4096 : Int).tdiv S = Q := ⟨_, rfl⟩
      have hQ2 : (4096 : Int) / S = Q := by rw [<- hQ, Int.tdiv_eq_ediv_of_nonneg (by decide)]
      have q1 : Q * S <= 4096 := by rw [<- hQ2]; exact Int.ediv_mul_le _ (by omega)
      have q2 : 4096 < (Q + 1) * S := by rw [<- hQ2]; exact Int.lt_ediv_add_one_mul_self _ (by omega)
      have q0 : 0 <= Q := by rw [<- hQ2]; exact Int.ediv_nonneg (by decide) (by omega)
      have q3 : Q <= 4096 := by rw [<- hQ2]; exact Int.ediv_le_self _ (by decide)
      have wq : IntKind.i64.wrap ((4096 : Int).tdiv S) = Q := by rw [hQ, IntKind.wrap_i64]; omega
      have sne : ¬ S = 0 := by omega
      by_cases hb : Q < z
      ·have k1 : decide (Q < z) = true := by simpa using hb
       have e : V = 2 := by
        rw [<- HV.out]
        refine vE_none H6.out HX.out ?_
        rw [hP.out, HD.out]
        refine pr_none ?_
        have h1 := Int.mul_le_mul_of_nonneg_left (by omega : Q + 1 <= z) (by omega : 0 <= S)
        rw [Int.mul_comm S (Q + 1)] at h1
        omega
       have HE := Lib.hid e
       clear e hb q1 q2 hQ hQ2
       go_wp2
       go_quiet (fail)
       go_wp2
       go_ret
       exact ⟨Sh.ret_int HE.out.symm, below_nq _ (below_nq _ (Below.refl _ _))⟩
      ·have k1 : decide (Q < z) = false := by simpa using hb
       obtain ⟨T, hT⟩ : ∃ T, S * z = T := ⟨_, rfl⟩
       have t1 : T <= 4096 := by
        have h1 := Int.mul_le_mul_of_nonneg_left (by omega : z <= Q) (by omega : 0 <= S)
        rw [Int.mul_comm S Q] at h1
        omega
       have t0 : 0 < T := by rw [<- hT]; exact Int.mul_pos (by omega) (by omega)
       have HT := Lib.hid hT
       have hP2 : Hid (pr 1 zs = pr T (zs.drop (m + 1))) := Lib.hid (by rw [hP.out, HD.out, pr_go (by rw [HT.out]; omega), HT.out])
       clear hb q1 q2 hQ hQ2
       go_wp2
       go_quiet (fail)
       go_wp2
       go_roundw
       case rel => exact ⟨m + 1, T, _, rfl, by go_num, by omega, by omega, by omega, rfl, hP2⟩
       case measure => simp [intOf]; omega
     ·have e : V = 0 := by
       rw [<- HV.out]
       have h := hP.out
       rw [List.drop_of_length_le (by omega)] at h
       exact vE_some H6.out HX.out h
      have m1 : ¬ (m : Int) < zs.length := by omega
      have HE := Lib.hid e
      clear e
      go_wp2
      go_ret
      exact ⟨Sh.ret_int HE.out.symm, below_nq _ (Below.refl _ _)⟩
theorem sz_sp {zs : List Int} (h : vE zs = 0) : sz zs = sp zs := by
 obtain ⟨_, _, h3, _⟩ := valid_of h
 unfold sz
 rw [if_pos h, h3]
 rfl

set_option maxHeartbeats 4000000 in
/-- The reference's size of a valid shape. -/
theorem rsize (p : Option Addr) (zs : List Int) (c : Nat) (w : World) (RA : Hid (SlI w p zs)) (hv : vE zs = 0) :
  Calls Tryz.prog 55 #[.slice p zs.length c] w fun e w' => e = .returned (.int .i64 (sp zs)) /\ w = w' := by
 obtain ⟨h6, hlow, hP, hS, hD⟩ := valid_of hv
 have HP := Lib.hid hP
 have HX := Lib.hid hlow
 obtain ⟨V, hV⟩ : ∃ V, sp zs = V := ⟨_, rfl⟩
 rw [hV] at HP ⊢
 clear hP hlow hV hv hD hS
 go_enter Tryz.func55, Tryz.ntmps55
 go_wp2
 go_loop [3, 4] (fun s i => ∃ (k : Nat) (S : Int), s = .int .i64 S /\ i = .int .i64 k /\ k <= zs.length /\ 1 <= S /\ S <= 4096 /\ Hid (pr S (zs.drop k) = some V)) (fun _ i => zs.length - (intOf i).toNat)
 case atStart => exact ⟨0, 1, rfl, rfl, by omega, by omega, by omega, HP⟩
 case round =>
  obtain ⟨m, S, rfl, rfl, hm, s0, s1, hP⟩ := hrel
  have mm0 : (0 : Int) <= m := by omega
  by_cases hlt : m < zs.length
  ·obtain ⟨b, o, rfl, hc⟩ := RA.out m hlt
   have m1 : (m : Int) < zs.length := by omega
   have z1 := pos_of HX.out hlt
   have hd := drop_cons hlt
   obtain ⟨z, hz⟩ : ∃ z, zs.getD m 0 = z := ⟨_, rfl⟩
   rw [hz] at hc z1 hd
   have h := hP.out
   rw [hd] at h
   obtain ⟨T, hT⟩ : ∃ T, S * z = T := ⟨_, rfl⟩
   have hle : ¬ 4096 < T := by
    intro h2
    rw [pr_none (by rw [hT]; exact h2)] at h
    cases h
   have t0 : 0 < T := by rw [<- hT]; exact Int.mul_pos (by omega) (by omega)
   rw [pr_go (by rw [hT]; exact hle), hT] at h
   have HH := Lib.hid h
   clear h hz hd
   go_wp2
   go_round
   case rel => exact ⟨m + 1, T, rfl, by go_num, by omega, by omega, by omega, HH⟩
   case measure => simp [intOf]; omega
  ·have m1 : ¬ (m : Int) < zs.length := by omega
   have e : S = V := by
    have h := hP.out
    rw [List.drop_of_length_le (by omega)] at h
    exact Option.some.inj h
   have HE := Lib.hid e
   clear e
   go_wp2
   go_ret
   exact ⟨Sh.ret_int HE.out, rfl⟩
end Go.Proofs.YteaaikmejacpaaaGreatDoor.Te


namespace Go.Proofs.YteaaikmejacpaaaGreatDoor.Sh
open Go.ChangeShapes Go.WideShapes Go.ChangeAt Go.RowKit
set_option maxRecDepth 8000
set_option linter.unusedVariables false
set_option linter.unusedSimpArgs false
theorem c19 (p : Option Addr) (zs : List Int) (c : Nat) (w : World) (hn : zs.length <= maxLen) (RA : Hid (SlI w p zs)) :
  Calls Tryz.prog 72 #[.slice p zs.length c] w (OW (sts zs) w) := by
 unfold sts
 by_cases h : vE zs = 0
 ·rw [if_pos h]; exact c19_ok p zs c w RA h
 ·rw [if_neg h]; exact c19_bad p zs c w hn RA (by simpa using h)
/-- A suffix of a valid list is valid. -/
theorem vE_drop {zs : List Int} (h : vE zs = 0) (k : Nat) : vE (zs.drop k) = 0 := by
 obtain ⟨h6, hl, hP, hS, hD⟩ := valid_of h
 have e := any_drop hl k
 have key : ∀ (ys : List Int) (s : Int), 1 <= s -> ys.any low = false -> s * sp ys <= 4096 -> pr s ys = some (s * sp ys) := by
  intro ys
  induction ys with
  | nil => intro s _ _ _; unfold pr sp; rw [Int.mul_one]
  | cons z ys ih =>
   intro s h1 h2 h3
   simp only [List.any_cons, Bool.or_eq_false_iff] at h2
   have hz : 1 <= z := by have := h2.1; unfold low at this; simp at this; omega
   have hp := sp_pos h2.2
   have h4 : s * sp (z :: ys) = s * z * sp ys := by
    show s * (sp ys * z) = _
    rw [Int.mul_assoc, Int.mul_comm z]
   rw [h4] at h3 ⊢
   have h5 : 1 <= s * z := by have := Int.mul_pos (by omega : 0 < s) (by omega : 0 < z); omega
   have h6 := Int.mul_le_mul_of_nonneg_left hp (by omega : 0 <= s * z)
   rw [pr_go (by omega)]
   exact ih (s * z) h5 h2.2 h3
 have hk := hD k
 exact vE_some (s := 1 * sp (zs.drop k)) (by rw [List.length_drop]; omega) e (key _ 1 (by decide) e (by omega))
theorem sz_drop {zs : List Int} (h : vE zs = 0) (k : Nat) : sz (zs.drop k) = sp (zs.drop k) := by
 have h2 := vE_drop h k
 obtain ⟨_, _, hP, _⟩ := valid_of h2
 unfold sz
 rw [if_pos h2, hP]
 rfl
theorem SlI.drop {w : World} {b o : Nat} {zs : List Int} (h : SlI w (some ⟨b, o, none⟩) zs) (k : Nat) : SlI w (some ⟨b, o + k, none⟩) (zs.drop k) := by
 intro i hi
 rw [List.length_drop] at hi
 obtain ⟨b', o', e, hc⟩ := h (k + i) (by omega)
 cases e
 refine ⟨b, o + k, rfl, ?_⟩
 rw [getD_at (by rw [List.length_drop]; omega), List.getElem_drop, <- getD_at (by omega), Nat.add_assoc]
 exact hc
theorem SlI.empty {w : World} {p : Option Addr} {zs : List Int} (h : zs.length = 0) : SlI w p zs := fun i hi => by omega
theorem SlI.keep {w w' : World} {p : Option Addr} {zs : List Int} (hB : Below w.heap.size w w') (h : SlI w p zs) : SlI w' p zs := by
 intro i hi
 obtain ⟨b, o, e, hc⟩ := h i hi
 exact ⟨b, o, e, Rg.keep' hB (by have := World.block_lt_of_cell? w _ hc; simpa using this) hc⟩
end Go.Proofs.YteaaikmejacpaaaGreatDoor.Sh


namespace Go.Proofs.YteaaikmejacpaaaGreatDoor.Sh
open Go.ChangeShapes Go.WideShapes Go.ChangeAt Go.RowKit
set_option maxRecDepth 8000
set_option linter.unusedVariables false
set_option linter.unusedSimpArgs false
def Ret (v : Value) (w : World) (e : Ending) (w' : World) : Prop := e = .returned v /\ Below w.heap.size w w'

set_option maxHeartbeats 4000000 in
theorem c18 (p q : Option Addr) (xs ys : List Int) (c d : Nat) (w : World) (hx : xs.length <= maxLen) (hy : ys.length <= maxLen) (RA : Hid (SlI w p xs)) (RB : Hid (SlI w q ys)) :
  Calls Tryz.prog 28 #[.slice p xs.length c, .slice q ys.length d] w fun e w' => e = .returned (.bool (decide (xs = ys))) /\ ∃ k, w' = w.drewN k := by
 unfold maxLen at hx hy
 by_cases hl : xs.length = ys.length
 ·obtain ⟨n, hn⟩ : ∃ n, xs.length = n := ⟨_, rfl⟩
  have hm : ys.length = n := by omega
  have HN := Lib.hid hn
  have HM := Lib.hid hm
  rw [hn] at hx ⊢
  rw [hm]
  clear hn hm hl hy
  go_enter Tryz.func28, Tryz.ntmps28
  go_wp2
  go_loopw [5] (fun i wr => ∃ k : Nat, i = .int .i64 k /\ k <= n /\ Hid (∀ j, j < k -> xs.getD j 0 = ys.getD j 0) /\ ∃ m, wr = w.drewN m) (fun i _ => n - (intOf i).toNat)
  case atStart => exact ⟨0, rfl, by omega, Lib.hid fun j hj => by omega, 0, rfl⟩
  case round =>
   obtain ⟨k, rfl, hk, hL, m, rfl⟩ := hrel
   by_cases hlt : k < n
   ·obtain ⟨b, o, rfl, hc⟩ := RA.out k (by rw [HN.out]; exact hlt)
    obtain ⟨b', o', rfl, hc'⟩ := RB.out k (by rw [HM.out]; exact hlt)
    obtain ⟨x, hX⟩ : ∃ x, xs.getD k 0 = x := ⟨_, rfl⟩
    obtain ⟨y, hY⟩ : ∃ y, ys.getD k 0 = y := ⟨_, rfl⟩
    rw [hX] at hc
    rw [hY] at hc'
    have HX := Lib.hid hX
    have HY := Lib.hid hY
    have mi : (0 : Int) <= k := by omega
    have mi2 : (k : Int) < n := by omega
    clear hX hY
    obtain ⟨t, ht⟩ : ∃ t, (x != y) = t := ⟨_, rfl⟩
    have HT := Lib.hid ht
    cases t
    ·go_wp2
     go_quiet (fail)
     go_wp2
     go_roundw
     case rel => exact ⟨k + 1, by go_num, by omega, Lib.hid fun j hj => by
      rcases (by omega : j < k \/ j = k) with h | rfl
      ·exact hL.out j h
      ·rw [HX.out, HY.out]; simpa using HT.out, m + nq, by first | rfl | rw [World.drewN_drewN]⟩
     case measure => simp [intOf]; omega
    ·go_wp2
     go_quiet (fail)
     go_wp2
     go_ret
     refine ⟨?_, m + nq, by first | rfl | rw [World.drewN_drewN]⟩
     refine ret_bool (decide_eq_false fun h => ?_).symm
     have h2 := HT.out
     rw [<- HX.out, <- HY.out, h] at h2
     simp at h2
   ·go_wp2
    go_ret
    refine ⟨?_, m, rfl⟩
    refine ret_bool (decide_eq_true ?_).symm
    refine List.ext_getElem (by rw [HN.out, HM.out]) fun j h1 h2 => ?_
    have h := hL.out j (by rw [HN.out] at h1; omega)
    rw [getD_at h1, getD_at h2] at h
    exact h
 ·have k1 : ((xs.length : Int) != ys.length) = true := by simp <;> omega
  have k2 : (xs.length != ys.length) = true := by simpa using hl
  have k3 : (xs.length == ys.length) = false := by simpa using hl
  rw [decide_eq_false (fun h => hl (by rw [h]))]
  have HL := Lib.hid hl
  clear hl
  go_enter Tryz.func28, Tryz.ntmps28
  go_wp2
  go_ret
  exact ⟨rfl, 0, rfl⟩

end Go.Proofs.YteaaikmejacpaaaGreatDoor.Sh


namespace Go.Proofs.YteaaikmejacpaaaGreatDoor.Sh
open Go.ChangeShapes Go.WideShapes Go.ChangeAt Go.RowKit
set_option maxRecDepth 8000
set_option linter.unusedVariables false
set_option linter.unusedSimpArgs false

end Go.Proofs.YteaaikmejacpaaaGreatDoor.Sh


namespace Go.Proofs.YteaaikmejacpaaaGreatDoor.Sh
open Go.ChangeShapes Go.WideShapes Go.ChangeAt Go.RowKit
set_option maxRecDepth 8000
set_option linter.unusedVariables false
set_option linter.unusedSimpArgs false
/-- The offset of an index, as long as it lies in the shape. -/
def of : Int -> List Int -> List Int -> Option Int
 | n, z :: zs, x :: xs => if 0 <= x /\ x < z then of (n * z + x) zs xs else none
 | n, _, _ => some n
def oA (zs xs : List Int) : Option Int := if vE zs = 0 /\ xs.length = zs.length then of 0 zs xs else none
def oE (a : Option Int) : Ending := .returned (.tuple #[.int .i64 (a.getD 0), .bool a.isSome])
theorem of_none {n z x : Int} {zs xs : List Int} (h : ¬ (0 <= x /\ x < z)) : of n (z :: zs) (x :: xs) = none := by
 show (if 0 <= x /\ x < z then of (n * z + x) zs xs else none) = _
 rw [if_neg h]
theorem of_go {n z x : Int} {zs xs : List Int} (h : 0 <= x /\ x < z) : of n (z :: zs) (x :: xs) = of (n * z + x) zs xs := by
 show (if 0 <= x /\ x < z then of (n * z + x) zs xs else none) = _
 rw [if_pos h]
theorem oA_ok {zs xs : List Int} (h : vE zs = 0) (hl : xs.length = zs.length) : oA zs xs = of 0 zs xs := if_pos ⟨h, hl⟩
theorem oA_no {zs xs : List Int} (h : ¬ (vE zs = 0 /\ xs.length = zs.length)) : oA zs xs = none := if_neg h
/-- One step of the offset keeps within the limit. -/
theorem of_step {S z x P : Int} (hS : 0 <= S) (hP : 1 <= P) (h : (S + 1) * (P * z) <= 4096) (hx : 0 <= x) (hxz : x < z) :
  0 <= S * z /\ S * z <= 4096 /\ z <= 4096 /\ (S * z + x + 1) * P <= 4096 := by
 have hz : 1 <= z := by omega
 have h1 : 0 <= S * z := Int.mul_nonneg hS (by omega)
 have h2 : (S + 1) * z = S * z + z := by rw [Int.add_mul, Int.one_mul]
 have h3 : (S + 1) * (P * z) = (S + 1) * z * P := by rw [Int.mul_comm P z, Int.mul_assoc]
 rw [h3, h2] at h
 have h4 : S * z + z <= (S * z + z) * P := by
  have := Int.mul_le_mul_of_nonneg_left hP (by omega : 0 <= S * z + z)
  omega
 have h5 : (S * z + x + 1) * P <= (S * z + z) * P := Int.mul_le_mul_of_nonneg_right (by omega) (by omega)
 exact ⟨h1, by omega, by omega, by omega⟩
theorem oE_none {a : Option Int} (h : a = none) : Ending.returned (.tuple #[.int .i64 0, .bool false]) = oE a := by subst h; rfl
theorem oE_some {a : Option Int} {s : Int} (h : a = some s) : Ending.returned (.tuple #[.int .i64 s, .bool true]) = oE a := by subst h; rfl
set_option maxHeartbeats 4000000 in
theorem c21_ok (p q : Option Addr) (zs xs : List Int) (c d : Nat) (w : World) (RA : Hid (SlI w p zs)) (RB : Hid (SlI w q xs)) (hv : vE zs = 0) (hl : xs.length = zs.length) :
  Calls Tryz.prog 90 #[.slice p zs.length c, .slice q xs.length d] w fun e w' => e = oE (oA zs xs) /\ w = w' := by
 obtain ⟨h6, hlow, hP, hS, hD⟩ := valid_of hv
 have C := Lib.hid (c14 p zs c w (by unfold maxLen; omega) RA)
 rw [hv] at C
 rw [oA_ok hv hl]
 obtain ⟨n, hn⟩ : ∃ n, zs.length = n := ⟨_, rfl⟩
 have HN := Lib.hid hn
 have HM : Hid (xs.length = n) := Lib.hid (by omega)
 have hm : xs.length = n := by omega
 rw [hn] at C h6 ⊢
 rw [hm]
 clear hn hm hl hv hP hlow
 have HD := Lib.hid hD
 have S0 : (0 + 1) * sp (zs.drop 0) <= 4096 := by simpa using hS
 have HS0 := Lib.hid S0
 clear hD hS S0
 go_enter Tryz.func90, Tryz.ntmps90
 go_wp2_with (go_at_call 47; refine (C.out).mono ?_; rintro e w' ⟨rfl, rfl⟩)
 go_loop [6, 21] (fun s i => ∃ (k : Nat) (S : Int), s = .int .i64 S /\ i = .int .i64 k /\ k <= n /\ 0 <= S /\ S <= 4096 /\ Hid ((S + 1) * sp (zs.drop k) <= 4096) /\ Hid (of 0 zs xs = of S (zs.drop k) (xs.drop k))) (fun _ i => n - (intOf i).toNat)
 case atStart => exact ⟨0, 0, rfl, rfl, by omega, by omega, by omega, HS0, Lib.hid rfl⟩
 case round =>
  obtain ⟨k, S, rfl, rfl, hk, s0, s1, hB, hO⟩ := hrel
  by_cases hlt : k < n
  ·obtain ⟨b, o, rfl, hc⟩ := RA.out k (by rw [HN.out]; exact hlt)
   obtain ⟨b', o', rfl, hc'⟩ := RB.out k (by rw [HM.out]; exact hlt)
   have dz := drop_cons (zs := zs) (k := k) (by rw [HN.out]; exact hlt)
   have dx := drop_cons (zs := xs) (k := k) (by rw [HM.out]; exact hlt)
   obtain ⟨z, hz⟩ : ∃ z, zs.getD k 0 = z := ⟨_, rfl⟩
   obtain ⟨x, hx⟩ : ∃ x, xs.getD k 0 = x := ⟨_, rfl⟩
   rw [hz] at hc dz
   rw [hx] at hc' dx
   have DZ := Lib.hid dz
   have DX := Lib.hid dx
   clear dz dx hz hx
   have b0 : (0 : Int) <= k := by omega
   have b1 : (k : Int) < n := by omega
   by_cases x0 : x < 0
   ·have k1 : decide (x < 0) = true := by simpa using x0
    have e : of 0 zs xs = none := by rw [hO.out, DZ.out, DX.out]; exact of_none (by omega)
    have HE := Lib.hid e
    clear e x0
    go_wp2
    refine bodyPost_ret (v := .tuple #[.int .i64 0, .bool false]) (by simp [results, Tryz.results90, go_sem]) rfl ⟨oE_none HE.out, rfl⟩
   ·have k1 : decide (x < 0) = false := by simpa using x0
    by_cases x1 : z <= x
    ·have k2 : decide (z <= x) = true := by simpa using x1
     have e : of 0 zs xs = none := by rw [hO.out, DZ.out, DX.out]; exact of_none (by omega)
     have HE := Lib.hid e
     clear e x0 x1
     go_wp2
     refine bodyPost_ret (v := .tuple #[.int .i64 0, .bool false]) (by simp [results, Tryz.results90, go_sem]) rfl ⟨oE_none HE.out, rfl⟩
    ·have k2 : decide (z <= x) = false := by simpa using x1
     have hP1 := (HD.out (k + 1)).1
     have hB2 := hB.out
     rw [DZ.out] at hB2
     change (S + 1) * (sp (zs.drop (k + 1)) * z) <= 4096 at hB2
     obtain ⟨t0, t1, t2, hB3⟩ := of_step (x := x) s0 hP1 hB2 (by omega) (by omega)
     have hO2 : Hid (of 0 zs xs = of (S * z + x) (zs.drop (k + 1)) (xs.drop (k + 1))) := Lib.hid (by rw [hO.out, DZ.out, DX.out, of_go (by omega)])
     have hB4 := Lib.hid hB3
     have t3 : S * z + x <= 4096 := by
      have := Int.mul_le_mul_of_nonneg_left hP1 (by omega : 0 <= S * z + x + 1)
      omega
     obtain ⟨T, hT⟩ : ∃ T, S * z = T := ⟨_, rfl⟩
     rw [hT] at t0 t1 t3 hO2 hB4
     clear hB2 hB3 hP1 hB hO
     have x0' : 0 <= x := by omega
     have x1' : x < z := by omega
     go_wp2
     go_round
     case rel => exact ⟨k + 1, T + x, rfl, by go_num, by omega, by omega, by omega, hB4, hO2⟩
     case measure => simp [intOf]; omega
  ·have e : of 0 zs xs = some S := by
    have h := hO.out
    rw [List.drop_of_length_le (by rw [HN.out]; omega), List.drop_of_length_le (by rw [HM.out]; omega)] at h
    exact h
   have HE := Lib.hid e
   clear e
   go_wp2
   refine bodyPost_ret (v := .tuple #[.int .i64 S, .bool true]) (by simp [results, Tryz.results90, go_sem]) rfl ⟨oE_some HE.out, rfl⟩
set_option maxHeartbeats 4000000 in
theorem c21_bad (p q : Option Addr) (zs xs : List Int) (c d : Nat) (w : World) (hn : zs.length <= maxLen) (RA : Hid (SlI w p zs)) (hv : ¬ (vE zs = 0 /\ xs.length = zs.length)) :
  Calls Tryz.prog 90 #[.slice p zs.length c, .slice q xs.length d] w fun e w' => e = oE (oA zs xs) /\ w = w' := by
 have C := Lib.hid (c14 p zs c w hn RA)
 rw [oA_no hv]
 obtain ⟨t, ht⟩ : ∃ t, (vE zs != 0) = t := ⟨_, rfl⟩
 cases t
 ·have h0 : vE zs = 0 := by simpa using ht
  have hl : ¬ xs.length = zs.length := fun h => hv ⟨h0, h⟩
  have k1 : ((xs.length : Int) != zs.length) = true := by simp <;> omega
  have k2 : (xs.length != zs.length) = true := by simpa using hl
  have k3 : (xs.length == zs.length) = false := by simpa using hl
  generalize vE zs = e at *
  clear hl hv h0
  go_enter Tryz.func90, Tryz.ntmps90
  go_wp2_with (go_at_call 47; refine (C.out).mono ?_; rintro e w' ⟨rfl, rfl⟩)
  refine bodyPost_ret (v := .tuple #[.int .i64 0, .bool false]) (by simp [results, Tryz.results90, go_sem]) rfl ⟨rfl, rfl⟩
 ·clear hv
  generalize vE zs = e at *
  go_enter Tryz.func90, Tryz.ntmps90
  go_wp2_with (go_at_call 47; refine (C.out).mono ?_; rintro e w' ⟨rfl, rfl⟩)
  refine bodyPost_ret (v := .tuple #[.int .i64 0, .bool false]) (by simp [results, Tryz.results90, go_sem]) rfl ⟨rfl, rfl⟩
theorem c21 (p q : Option Addr) (zs xs : List Int) (c d : Nat) (w : World) (hn : zs.length <= maxLen) (RA : Hid (SlI w p zs)) (RB : Hid (SlI w q xs)) :
  Calls Tryz.prog 90 #[.slice p zs.length c, .slice q xs.length d] w fun e w' => e = oE (oA zs xs) /\ w = w' := by
 by_cases h : vE zs = 0 /\ xs.length = zs.length
 ·exact c21_ok p q zs xs c d w RA RB h.1 h.2
 ·exact c21_bad p q zs xs c d w hn RA h
end Go.Proofs.YteaaikmejacpaaaGreatDoor.Sh


namespace Go.Proofs.YteaaikmejacpaaaGreatDoor.Sh
open Go.ChangeShapes Go.WideShapes Go.ChangeAt Go.RowKit
set_option maxRecDepth 8000
set_option linter.unusedVariables false
set_option linter.unusedSimpArgs false

end Go.Proofs.YteaaikmejacpaaaGreatDoor.Sh


namespace Go.Proofs.YteaaikmejacpaaaGreatDoor.Sh
open Go.ChangeShapes Go.WideShapes Go.ChangeAt Go.RowKit
set_option maxRecDepth 8000
set_option linter.unusedVariables false
set_option linter.unusedSimpArgs false
theorem add_at (b o j : Nat) : (⟨b, o, none⟩ : Addr).add j = ⟨b, o + j, none⟩ := by
 unfold Addr.add
 split
 ·next h => subst h; rfl
 ·rfl
set_option maxHeartbeats 4000000 in
/-- slices.Clone of a slice that is not nil. -/
theorem c48 (b o : Nat) (zs : List Int) (c : Nat) (w : World) (hn : zs.length <= maxLen) (hby : zs.length * 8 <= 140737488355328) (RA : Hid (SlI w (some ⟨b, o, none⟩) zs)) :
  Calls Tryz.prog 49 #[.slice (some ⟨b, o, none⟩) zs.length c] w (OW zs w) := by
 obtain ⟨i0, hi, hz0, hz1, hz2⟩ := info_parts info3
 have RN := Lib.hid (fun o' : Obj => SlI.keep (w' := w.alloc o') ((Below.refl _ _).alloc (Nat.le_refl _) _) RA.out)
 have HN := Lib.hid hn
 have HB := Lib.hid hby
 clear hn hby
 have EN : (binOp .eql 24 (.slice (some ⟨b, o, none⟩) zs.length c) (.slice none 0 0)).run Tryz.prog w = .ok (.bool false) w := by kernel_rfl
 go_enter Tryz.func49, Tryz.ntmps49
 go_wp2_with (at_builtin; refine wpList_append_own _ rfl _ _ 24 rfl w.heap.size 3 i0 (.int .i64 0) 1 8 Tryz.underlying24 hi hz0 hz1 hz2 rfl (by decide) _ _ _ rfl (World.ownsRow_lit w #[] 0 (Nat.le_refl _) (by decide) rfl) ⟨b, o, none⟩ zs.length c (zs.map (Value.int .i64)) rfl ?_ ?_ ?_ ?_ ?_ ?_ ?_)
 ·simp
 ·intro j u hj
  rw [List.getElem?_map] at hj
  have hj2 : j < zs.length := by
   by_cases h : j < zs.length
   ·exact h
   ·rw [List.getElem?_eq_none (by omega)] at hj; cases hj
  rw [List.getElem?_eq_getElem hj2] at hj
  cases hj
  obtain ⟨b', o', e, hc⟩ := RN.out (.cells #[] 3 (0, 0)) j hj2
  cases e
  rw [getD_at hj2] at hc
  rw [add_at]
  exact hc
 ·intro u hu
  obtain ⟨x, _, rfl⟩ := List.mem_map.1 hu
  rfl
 ·rw [Nat.zero_add]; exact HN.out
 ·rw [Nat.zero_add]; exact HB.out
 ·simp
 intro v' w1 hown' hgrow _
 have hO2 : Hid (w1.ownsRow w.heap.size 3 1 v' zs.length (zs.map (Value.int .i64))) := Lib.hid (by first | exact hown' | (have h := hown'; rw [Nat.zero_add] at h; exact h))
 have hB2 : Below w.heap.size w w1 := ((Below.refl _ _).alloc (Nat.le_refl _) _).grown hgrow (by simp) (fun j hj => by cases hj; exact Nat.le_refl _)
 clear hown' hgrow hi hz0 hz1 hz2
 go_wp2
 go_ret
 exact ⟨_, rfl, hB2, hO2.out⟩
end Go.Proofs.YteaaikmejacpaaaGreatDoor.Sh


namespace Go.Proofs.YteaaikmejacpaaaGreatDoor.Sh
open Go.ChangeShapes Go.WideShapes Go.ChangeAt Go.RowKit
set_option maxRecDepth 8000
set_option linter.unusedVariables false
set_option linter.unusedSimpArgs false
/-- The index with an offset. -/
def pt (zs : List Int) (a : Int) : List Int := (List.range zs.length).map fun j => (a / sp (zs.drop (j + 1))) % zs.getD j 0
def pA (zs : List Int) (a : Int) : Bool := decide (0 <= a /\ a < sz zs)
def pL (zs : List Int) (a : Int) : List Int := if pA zs a = true then pt zs a else []
theorem pt_length (zs : List Int) (a : Int) : (pt zs a).length = zs.length := by simp [pt]
theorem pt_get {zs : List Int} {a : Int} {j : Nat} (h : j < zs.length) : (pt zs a).getD j 0 = (a / sp (zs.drop (j + 1))) % zs.getD j 0 := by
 rw [getD_at (by rw [pt_length]; exact h)]
 simp [pt]
/-- A slice that the call has made, and whether there is an answer. -/
def PW (l : List Int) (t : Bool) (w : World) (e : Ending) (w' : World) : Prop := ∃ v, e = .returned (.tuple #[v, .bool t]) /\ Below w.heap.size w w' /\ w'.ownsRow w.heap.size 3 1 v l.length (l.map (Value.int .i64))
theorem sz_ok {zs : List Int} (h : vE zs = 0) : sz zs = sp zs := sz_drop (zs := zs) h 0
theorem sz_no {zs : List Int} (h : ¬ vE zs = 0) : sz zs = 0 := by unfold sz; rw [if_neg h]
theorem pA_valid {zs : List Int} {a : Int} (h : pA zs a = true) : vE zs = 0 /\ 0 <= a /\ a < sp zs := by
 unfold pA at h
 have h := of_decide_eq_true h
 by_cases hv : vE zs = 0
 ·rw [sz_ok hv] at h; exact ⟨hv, h⟩
 ·rw [sz_no hv] at h; omega
theorem pt_step {a s z : Int} (hs : 1 <= s) : a / s / z = a / (s * z) := Int.ediv_ediv_of_nonneg (by omega)
end Go.Proofs.YteaaikmejacpaaaGreatDoor.Sh


namespace Go.Proofs.YteaaikmejacpaaaGreatDoor.Sh
open Go.ChangeShapes Go.WideShapes Go.ChangeAt Go.RowKit
set_option maxRecDepth 8000
set_option linter.unusedVariables false
set_option linter.unusedSimpArgs false
set_option maxHeartbeats 4000000 in
theorem c23_bad (p : Option Addr) (zs : List Int) (c : Nat) (a0 : Int) (w : World) (hn : zs.length <= maxLen) (RA : Hid (SlI w p zs)) (hp : pA zs a0 = false) :
  Calls Tryz.prog 73 #[.slice p zs.length c, .int .i64 a0] w (PW [] false w) := by
 have C := Lib.hid (c16 p zs c w hn RA)
 unfold pA at hp
 have hp := of_decide_eq_false hp
 generalize hQ : sz zs = P at C hp
 clear hQ
 by_cases h0 : a0 < 0
 ·have k1 : decide (a0 < 0) = true := by simpa using h0
  clear hp
  go_enter Tryz.func73, Tryz.ntmps73
  go_wp2
  refine bodyPost_ret (v := .tuple #[.slice none 0 0, .bool false]) (by simp [results, Tryz.results73, go_sem]) rfl ⟨_, rfl, Below.refl _ _, World.ownsRow_nil _ _ _ _⟩
 ·have k1 : decide (a0 < 0) = false := by simpa using h0
  have k2 : decide (P <= a0) = true := by simp <;> omega
  clear hp
  go_enter Tryz.func73, Tryz.ntmps73
  go_wp2_with (go_at_call 51; refine (C.out).mono ?_; rintro e w' ⟨rfl, rfl⟩)
  refine bodyPost_ret (v := .tuple #[.slice none 0 0, .bool false]) (by simp [results, Tryz.results73, go_sem]) rfl ⟨_, rfl, Below.refl _ _, World.ownsRow_nil _ _ _ _⟩
theorem cell56 {w : World} {base g n cap j : Nat} {t : TypeId} {xs : List Int} (h : w.ownsRow base t 1 (.slice (some ⟨g, 0, none⟩) n cap) n (xs.map (Value.int .i64))) (hj : j < n) (hx : xs.length = n) :
  w.cell? ⟨g, j, none⟩ = some (.int .i64 (xs.getD j 0)) := by
 rw [h.cellAt j (by omega), List.getElem?_map, List.getElem?_eq_getElem (by omega), getD_at (by omega)]
 rfl
set_option maxHeartbeats 8000000 in
theorem c23_ok (p : Option Addr) (zs : List Int) (c : Nat) (a0 : Int) (w : World) (RA : Hid (SlI w p zs)) (hp : pA zs a0 = true) :
  Calls Tryz.prog 73 #[.slice p zs.length c, .int .i64 a0] w (PW (pt zs a0) true w) := by
 obtain ⟨hv, a1, a2⟩ := pA_valid hp
 obtain ⟨h6, hl, hP, hS, hD⟩ := valid_of hv
 have C := Lib.hid (c16 p zs c w (by unfold maxLen; omega) RA)
 rw [sz_ok hv] at C
 obtain ⟨i0, hi, hz0, hz1, hz2⟩ := info_parts info3
 have HD := Lib.hid hD
 have HL := Lib.hid hl
 have hle : a0 <= 4095 := by omega
 clear hD hl hv hP hp
 generalize hQ : sp zs = P at C a2 hS
 clear hQ
 have k1 : decide (a0 < 0) = false := by simp <;> omega
 have k2 : decide (P <= a0) = false := by simp <;> omega
 obtain ⟨n, hn⟩ : ∃ n, zs.length = n := ⟨_, rfl⟩
 have HN := Lib.hid hn
 rw [hn] at C h6 ⊢
 clear hn
 go_enter Tryz.func73, Tryz.ntmps73
 go_wp2_with (go_at_call 51; refine (C.out).mono ?_; rintro e w' ⟨rfl, rfl⟩)
 have hown2 : Hid ((w.alloc (.cells #[.int .i64 0, .int .i64 0, .int .i64 0, .int .i64 0, .int .i64 0, .int .i64 0] 122)).ownsRow w.heap.size 122 1 (.slice (some ⟨w.heap.size, 0, none⟩) 6 6) 6 ((List.replicate 6 (0 : Int)).map (Value.int .i64))) :=
  Lib.hid (World.ownsRow_lit w _ 6 (Nat.le_refl _) (by unfold maxLen; decide) rfl)
 have hB : Below w.heap.size w (w.alloc (.cells #[.int .i64 0, .int .i64 0, .int .i64 0, .int .i64 0, .int .i64 0, .int .i64 0] 122)) := (Below.refl _ _).alloc (Nat.le_refl _) _
 clear k1 k2 hi hz0 hz1 hz2
 go_loopw [1, 7] (fun s i wr => ∃ (m : Nat) (S : Int) (xs : List Int), s = .int .i64 S /\ i = .int .i64 ((m : Int) - 1) /\ m <= n /\ Hid (S = a0 / sp (zs.drop m)) /\ 0 <= S /\ S <= 4095 /\ xs.length = 6 /\ Hid (∀ j, m <= j -> j < n -> xs.getD j 0 = (pt zs a0).getD j 0) /\ Below w.heap.size w wr /\ w.heap.size < wr.heap.size /\
  Hid (wr.ownsRow w.heap.size 122 1 (.slice (some ⟨w.heap.size, 0, none⟩) 6 6) 6 (xs.map (Value.int .i64)))) (fun _ i _ => (intOf i + 1).toNat)
 case atStart =>
  have hlt := (hown2.out.lt w.heap.size rfl).2
  exact ⟨n, a0, _, rfl, rfl, Nat.le_refl _, Lib.hid (by rw [List.drop_of_length_le (by rw [HN.out]; exact Nat.le_refl _)]; exact (Int.ediv_one _).symm), by omega, by omega, by simp, Lib.hid fun j h1 h2 => by omega, hB, hlt, hown2⟩
 case round =>
  obtain ⟨m, S, xs, rfl, rfl, hm, hS, s0, s1, hx, hX, KB, lt, hO⟩ := hrel
  clear hown2 hB
  cases m with
  | zero =>
   have e : xs.take n = pt zs a0 := by
    refine List.ext_getElem (by rw [pt_length, HN.out, List.length_take, hx]; omega) fun j h1 h2 => ?_
    rw [List.length_take] at h1
    have h := hX.out j (by omega) (by omega)
    rw [getD_at (by omega), getD_at h2] at h
    rw [List.getElem_take]
    exact h
   have S1 : SlI wr (some ⟨w.heap.size, 0, none⟩) (xs.take n) := fun i hi => ⟨_, _, rfl, by
    rw [List.length_take] at hi
    rw [getD_at (by rw [List.length_take]; exact hi), List.getElem_take, <- getD_at (by omega), Nat.zero_add, cell56 hO.out (by omega) hx]⟩
   rw [e] at S1
   have ln := pt_length zs a0
   rw [HN.out] at ln
   have LN := Lib.hid ln
   have C48 : Hid (∀ (l cc : Nat), l = n -> Calls Tryz.prog 49 #[.slice (some ⟨w.heap.size, 0, none⟩) l cc] wr (OW (pt zs a0) wr)) := Lib.hid fun l cc hl => by
    subst hl
    have h := c48 w.heap.size 0 (pt zs a0) cc wr (by rw [LN.out]; unfold maxLen; omega) (by rw [LN.out]; omega) (Lib.hid S1)
    rw [LN.out] at h
    exact h
   have mi : (0 : Int) <= n := by omega
   have mi2 : (n : Int) <= 6 := by omega
   have AL : Tryz.prog.arrayLen 122 = 6 := by kernel_rfl
   clear e S1 ln
   go_wp2_with (go_at_call 49; refine (C48.out _ _ (by omega)).mono ?_; rintro e w2 ⟨v, rfl, K2, O2⟩)
   have KB2 : Below w.heap.size w w2 := KB.trans (K2.mono KB.size)
   refine bodyPost_ret (v := .tuple #[v, .bool true]) (by simp [results, Tryz.results73, go_sem]) rfl ⟨_, rfl, KB2, ?_⟩
   exact O2.mono KB.size
  | succ m =>
   rw [show ((m + 1 : Nat) : Int) - 1 = (m : Int) by omega]
   obtain ⟨b, o, rfl, hc⟩ := RA.out m (by rw [HN.out]; omega)
   have hb : b < w.heap.size := by have := World.block_lt_of_cell? w _ hc; simpa using this
   have hc := Rg.keep' KB hb hc
   have z1 := pos_of HL.out (k := m) (by rw [HN.out]; omega)
   have hd := drop_cons (zs := zs) (k := m) (by rw [HN.out]; omega)
   have hpt := pt_get (zs := zs) (a := a0) (j := m) (by rw [HN.out]; omega)
   obtain ⟨z, hz⟩ : ∃ z, zs.getD m 0 = z := ⟨_, rfl⟩
   rw [hz] at hc z1 hd hpt
   rw [<- hS.out] at hpt
   have hT0 : 0 <= S / z := Int.ediv_nonneg s0 (by omega)
   have hT1 : S / z <= S := Int.ediv_le_self z s0
   have hR0 : 0 <= S % z := Int.emod_nonneg S (by omega)
   have hsp : S / z = a0 / sp (zs.drop m) := by rw [hd, hS.out]; exact pt_step (HD.out (m + 1)).1
   obtain ⟨r, hr⟩ : ∃ r, S % z = r := ⟨_, rfl⟩
   obtain ⟨T, hT⟩ : ∃ T, S / z = T := ⟨_, rfl⟩
   rw [hr] at hpt hR0
   rw [hT] at hT0 hT1 hsp
   have oc := cell56 hO.out (j := m) (by omega) hx
   have of := hO.out.frozenAt m
   have oS := Lib.hid (hO.out.stored m (.int .i64 r)).1
   have ne : ¬ w.heap.size = b := by omega
   have ne2 : ¬ b = w.heap.size := by omega
   have hc2 : (wr.setCell ⟨w.heap.size, m, none⟩ (.int .i64 r)).cell? ⟨b, o + m, none⟩ = some (.int .i64 z) := by rw [World.cell?_setCell_far _ _ _ _ ne]; exact hc
   have HSP := Lib.hid hsp
   have HPT := Lib.hid hpt
   have mlt : m < n := by omega
   have mi : (0 : Int) <= m := by omega
   have mi2 : (m : Int) < n := by omega
   have zz : (z == 0) = false := by simp <;> omega
   clear hz hd hsp hm hpt
   go_wp2
   go_roundw
   case rel =>
    refine ⟨m, T, xs.set m r, by first | rfl | rw [hT], rfl, by omega, HSP, by omega, by omega, by simp [hx], Lib.hid fun j h1 h2 => ?_, Below.setCell KB (Nat.le_refl _) _, by simpa using lt, Lib.hid (by rw [List.map_set]; exact oS.out)⟩
    by_cases hj : j = m
    ·subst hj
     rw [getD_at (by simp [hx]; omega), List.getElem_set_self]
     exact HPT.out.symm
    ·rw [getD_at (by simp [hx]; omega), List.getElem_set_ne (by omega), <- getD_at (by omega)]
     exact hX.out j (by omega) h2
   case measure => simp [intOf]
theorem c23 (p : Option Addr) (zs : List Int) (c : Nat) (a0 : Int) (w : World) (hn : zs.length <= maxLen) (RA : Hid (SlI w p zs)) :
  Calls Tryz.prog 73 #[.slice p zs.length c, .int .i64 a0] w (PW (pL zs a0) (pA zs a0) w) := by
 unfold pL
 by_cases h : pA zs a0 = true
 ·rw [if_pos h, h]; exact c23_ok p zs c a0 w RA h
 ·rw [if_neg h, show pA zs a0 = false by simpa using h]; exact c23_bad p zs c a0 w hn RA (by simpa using h)
end Go.Proofs.YteaaikmejacpaaaGreatDoor.Sh


namespace Go.Proofs.YteaaikmejacpaaaGreatDoor.Sh
open Go.ChangeShapes Go.WideShapes Go.ChangeAt Go.RowKit
set_option maxRecDepth 8000
set_option linter.unusedVariables false
set_option linter.unusedSimpArgs false

end Go.Proofs.YteaaikmejacpaaaGreatDoor.Sh
