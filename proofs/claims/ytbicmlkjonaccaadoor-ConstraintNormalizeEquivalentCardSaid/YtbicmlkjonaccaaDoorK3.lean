/- Linear forms: Validate of the reference. -/
import Derived.Test.YtbicmlkjonaccaaDoorY10
import Derived.Test.YtbicmlkjonaccaaDoorK1
import Derived.IntWalk
import Derived.Deep.Quiet
import Derived.WalkKit
import Derived.ProofKit
import Derived.OpenShut

namespace Go.Proofs.YtbicmlkjonaccaaDoor.Ln
open Go.ChangeShapes Go.WideShapes Go.ChangeAt Go.RowKit
set_option linter.unusedVariables false
set_option linter.unusedSimpArgs false
set_option maxRecDepth 100000 in
set_option maxHeartbeats 4000000 in
theorem val2 (k : Int) (p : Option Addr) (xs : List Mo) (c : Nat) (w : World) (hn : xs.length <= maxLen) (RA : Hid (SlM w p xs)) (RS : Hid (∀ i, i < xs.length -> (xs.getD i mo0).1.size <= maxLen)) :
  Calls Tryd.prog 17 #[Lv k p xs.length c] w fun e w' => e = .returned (.int .i64 (vL xs)) /\ Below w.heap.size w w' := by
 have C := Lib.hid fun w R1 => right k p xs c w hn R1 RS
 have B0 : Below w.heap.size w (w.alloc (Obj.cells #[Value.int .i64 k, Value.slice p xs.length c] 24)) := (Below.refl _ _).alloc (Nat.le_refl _) _
 unfold vL
 generalize okL xs = v at *
 unfold Lv at *
 cases v
 all_goals
  go_enter Tryd.func17, Tryd.ntmps17
  go_wp2_with fail
  refine (C.out _ (Lib.hid (SlM.keep B0 RA.out))).mono ?_
  rintro e w1 ⟨rfl, hb⟩
  go_wp2
  go_ret
  exact ⟨rfl, B0.trans (hb.mono B0.size)⟩
end Go.Proofs.YtbicmlkjonaccaaDoor.Ln


namespace Go.Proofs.YtbicmlkjonaccaaDoor.Ln
open Go.ChangeShapes Go.WideShapes Go.ChangeAt Go.RowKit
open Go.Proofs.YtbicmlkjonaccaaDoor.Nm
set_option linter.unusedVariables false
set_option linter.unusedSimpArgs false
set_option maxRecDepth 8000

/-- A constraint as a value. -/
def Cv (k : Int) (p : Option Addr) (n c : Nat) (eq : Bool) : Value := .agg #[.int .i64 k, .slice p n c, .bool eq]
def hB (k : Int) (eq : Bool) : Bool := (k == 0) || (decide (0 < k) && !eq)
theorem never1 (w : World) : Calls Tryd.prog 58 #[] w fun e w' => e = .returned (Cv (-1) none 0 0 false) /\ Below w.heap.size w w' := by
 unfold Cv
 go_enter Tryd.func58, Tryd.ntmps58
 go_wp2
 refine bodyPost_ret (v := .agg #[.int .i64 (-1), .slice none 0 0, .bool false]) (by simp [results, Tryd.results58, go_sem]) rfl ⟨rfl, ?_⟩; (repeat' (first | (with_reducible exact Below.refl _ _) | (with_reducible refine Below.alloc ?_ ?_ _) | (with_reducible refine Below.setCell ?_ ?_ _) | (with_reducible refine below_drewN ?_ _) | (simp; done) | omega | (simp; omega)))
theorem never2 (w : World) : Calls Tryd.prog 62 #[] w fun e w' => e = .returned (Cv (-1) none 0 0 false) /\ Below w.heap.size w w' := by
 unfold Cv
 go_enter Tryd.func62, Tryd.ntmps62
 go_wp2
 refine bodyPost_ret (v := .agg #[.int .i64 (-1), .slice none 0 0, .bool false]) (by simp [results, Tryd.results62, go_sem]) rfl ⟨rfl, ?_⟩; (repeat' (first | (with_reducible exact Below.refl _ _) | (with_reducible refine Below.alloc ?_ ?_ _) | (with_reducible refine Below.setCell ?_ ?_ _) | (with_reducible refine below_drewN ?_ _) | (simp; done) | omega | (simp; omega)))
theorem holdsF (k : Int) (p : Option Addr) (n c : Nat) (eq : Bool) (m : Int) (w : World) : Calls Tryd.prog 54 #[Cv k p n c eq, .int .i64 m] w fun e w' => e = .returned (.bool (hB m eq)) /\ Below w.heap.size w w' := by
 unfold Cv hB
 have B0 : Below w.heap.size w (w.alloc (Obj.cells #[Value.int .i64 k, Value.slice p n c, Value.bool eq] 36)) := (Below.refl _ _).alloc (Nat.le_refl _) _
 by_cases h0 : m = 0
 ·subst h0
  go_enter Tryd.func54, Tryd.ntmps54
  go_wp2
  go_ret
  exact ⟨by simp, B0⟩
 ·have g0 : (m == 0) = false := by simpa using h0
  by_cases h1 : 0 < m
  ·have g1 : decide (0 < m) = true := by simpa using h1
   rw [g0, g1]
   cases eq
   ·go_enter Tryd.func54, Tryd.ntmps54
    go_wp2
    go_ret
    exact ⟨by simp, B0⟩
   ·go_enter Tryd.func54, Tryd.ntmps54
    go_wp2
    go_ret
    exact ⟨by simp, B0⟩
  ·have g1 : decide (0 < m) = false := by simpa using h1
   rw [g0, g1]
   clear h0 h1
   go_enter Tryd.func54, Tryd.ntmps54
   go_wp2
   go_ret
   exact ⟨by simp, B0⟩
theorem cval1 (k : Int) (p : Option Addr) (xs : List Mo) (c : Nat) (eq : Bool) (w : World) (hn : xs.length <= maxLen) (RA : Hid (SlM w p xs)) (RS : Hid (∀ i, i < xs.length -> (xs.getD i mo0).1.size <= maxLen)) : Calls Tryd.prog 24 #[Cv k p xs.length c eq] w fun e w' => e = .returned (.int .i64 (vL xs)) /\ Below w.heap.size w w' := by
 have VL := Lib.hid fun w h => val1 k p xs c w hn h RS
 have B0 : Below w.heap.size w (w.alloc (Obj.cells #[Value.int .i64 k, Value.slice p xs.length c, Value.bool eq] 36)) := (Below.refl _ _).alloc (Nat.le_refl _) _
 have RA2 := Lib.hid (SlM.keep B0 RA.out)
 unfold Cv
 unfold Lv at VL
 go_enter Tryd.func24, Tryd.ntmps24
 go_wp2_with (go_at_call 16; refine (VL.out _ RA2).mono ?_; rintro e w1 ⟨rfl, hb⟩)
 go_ret
 exact ⟨rfl, B0.trans (hb.mono B0.size)⟩
theorem cval2 (k : Int) (p : Option Addr) (xs : List Mo) (c : Nat) (eq : Bool) (w : World) (hn : xs.length <= maxLen) (RA : Hid (SlM w p xs)) (RS : Hid (∀ i, i < xs.length -> (xs.getD i mo0).1.size <= maxLen)) : Calls Tryd.prog 25 #[Cv k p xs.length c eq] w fun e w' => e = .returned (.int .i64 (vL xs)) /\ Below w.heap.size w w' := by
 have VL := Lib.hid fun w h => right k p xs c w hn h RS
 have B0 : Below w.heap.size w (w.alloc (Obj.cells #[Value.int .i64 k, Value.slice p xs.length c, Value.bool eq] 36)) := (Below.refl _ _).alloc (Nat.le_refl _) _
 have RA2 := Lib.hid (SlM.keep B0 RA.out)
 unfold Cv vL
 unfold Lv at VL
 cases hok : okL xs
 ·rw [hok] at VL
  clear hok
  go_enter Tryd.func25, Tryd.ntmps25
  go_wp2_with (go_at_call 45; refine (VL.out _ RA2).mono ?_; rintro e w1 ⟨rfl, hb⟩)
  go_ret
  exact ⟨by simp, B0.trans (hb.mono B0.size)⟩
 ·rw [hok] at VL
  clear hok
  go_enter Tryd.func25, Tryd.ntmps25
  go_wp2_with (go_at_call 45; refine (VL.out _ RA2).mono ?_; rintro e w1 ⟨rfl, hb⟩)
  go_ret
  exact ⟨by simp, B0.trans (hb.mono B0.size)⟩
end Go.Proofs.YtbicmlkjonaccaaDoor.Ln


namespace Go.Proofs.YtbicmlkjonaccaaDoor.Ln
open Go.ChangeShapes Go.WideShapes Go.ChangeAt Go.RowKit
set_option linter.unusedVariables false
set_option linter.unusedSimpArgs false
def co : List Mo -> ByteArray -> Int
 | [], _ => 0
 | x :: r, s => if (x.1.toList == s.toList) = true then x.2 else co r s

set_option maxRecDepth 100000 in
set_option maxHeartbeats 8000000 in
theorem linEq (k : Int) (p : Option Addr) (xs : List Mo) (c : Nat) (q : Option Addr) (d : Nat) (w : World) (hn : xs.length <= maxLen) (RA : Hid (SlM w p xs)) (RB : Hid (SlM w q xs)) :
  Calls Tryd.prog 66 #[Lv k p xs.length c, Lv k q xs.length d] w fun e w' => e = .returned (.bool true) /\ Below w.heap.size w w' := by
 have B0 : Below w.heap.size w ((w.alloc (Obj.cells #[Value.int .i64 k, Value.slice p xs.length c] 24)).alloc (Obj.cells #[Value.int .i64 k, Value.slice q xs.length d] 24)) := two_below _ _
 have f1 : (((w.alloc (Obj.cells #[Value.int .i64 k, Value.slice p xs.length c] 24)).alloc (Obj.cells #[Value.int .i64 k, Value.slice q xs.length d] 24))).cell? ⟨w.heap.size, 1, none⟩ = some (.slice p xs.length c) := by go_cell
 have g1 : (((w.alloc (Obj.cells #[Value.int .i64 k, Value.slice p xs.length c] 24)).alloc (Obj.cells #[Value.int .i64 k, Value.slice q xs.length d] 24))).cell? ⟨w.heap.size + 1, 1, none⟩ = some (.slice q xs.length d) := by go_cell
 unfold maxLen at hn
 unfold Lv
 go_enter Tryd.func66, Tryd.ntmps66
 go_wp2
 have RA1 := Lib.hid (SlM.keep B0 RA.out)
 have RB1 := Lib.hid (SlM.keep B0 RB.out)
 generalize ((w.alloc (Obj.cells #[Value.int .i64 k, Value.slice p xs.length c] 24)).alloc (Obj.cells #[Value.int .i64 k, Value.slice q xs.length d] 24)) = z at *
 go_loopw [5] (fun i wr => ∃ j r : Nat, i = .int .i64 (j : Int) /\ j <= xs.length /\ wr = z.drewN r) (fun i _ => xs.length - (intOf i).toNat)
 case atStart => exact ⟨0, 0, rfl, by omega, rfl⟩
 case round =>
  obtain ⟨j, r, rfl, hk, rfl⟩ := hrel
  have k0 : (0 : Int) <= j := by omega
  by_cases hlt : j < xs.length
  ·obtain ⟨b, o, rfl, c0, c1⟩ := RA1.out j hlt
   obtain ⟨b', o', rfl, d0, d1⟩ := RB1.out j hlt
   obtain ⟨⟨t, a⟩, hx⟩ : ∃ x, xs.getD j mo0 = x := ⟨_, rfl⟩
   rw [hx] at c0 c1 d0 d1
   simp only at c0 c1 d0 d1
   have k1 : (j : Int) < xs.length := by omega
   clear hx
   go_wp2
   go_quiet (fail)
   go_wp2
   go_roundw
   case rel => exact ⟨j + 1, _, by go_num, by omega, rfl⟩
   case measure => simp [intOf]; omega
  ·have k1 : ¬ (j : Int) < xs.length := by omega
   go_wp2
   go_ret
   exact ⟨rfl, below_drewN B0 _⟩
end Go.Proofs.YtbicmlkjonaccaaDoor.Ln


namespace Go.Proofs.YtbicmlkjonaccaaDoor.Ln
open Go.ChangeShapes Go.WideShapes Go.ChangeAt Go.RowKit
set_option linter.unusedVariables false
set_option linter.unusedSimpArgs false
def fit64 (n : Int) : Bool := decide (-9223372036854775808 <= n) && decide (n <= 9223372036854775807)
theorem fit_yes {n : Int} : fit64 n = true ↔ -9223372036854775808 <= n /\ n <= 9223372036854775807 := by
 unfold fit64
 rw [Bool.and_eq_true, decide_eq_true_eq, decide_eq_true_eq]

end Go.Proofs.YtbicmlkjonaccaaDoor.Ln


namespace Go.Proofs.YtbicmlkjonaccaaDoor.Rk
open Go.ChangeShapes Go.WideShapes Go.ChangeAt Go.RowKit
set_option linter.unusedVariables false
set_option linter.unusedSimpArgs false

section
variable {P : Program} {ops : Array Oper} {Q : Exit -> Act -> World -> Prop} {md : Region.Mode} {S : World -> Prop} {K : Nat}
/-- Operation K has not come up. -/
def Un (K : Nat) (listed : Array Bool) : Prop := listed.getD K true = false
/-- Whatever order is picked, S holds as long as operation K has not come up. -/
def wpK (P : Program) (md : Region.Mode) (ops : Array Oper) (Q : Exit -> Act -> World -> Prop) (S : World -> Prop) (K : Nat) : Nat -> Array Bool -> Act -> World -> Prop
 | 0, listed, a, w => Region.ready md ops listed = [] /\ Q .normal a w
 | fuel + 1, listed, a, w =>
  (Region.ready md ops listed = [] -> Q .normal a w) /\
  ∀ i ∈ Region.ready md ops listed, wpOp P ops Q i (fun a' w' => (Un K (listed.setIfInBounds i true) -> S w') /\ wpK P md ops Q S K fuel (listed.setIfInBounds i true) a' w') a w
theorem wpAny_of : ∀ (fuel : Nat) (listed : Array Bool) (a : Act) (w : World), wpK P md ops Q S K fuel listed a w -> wpAny P md ops Q fuel listed a w
 | 0, _, _, _, h => h
 | fuel + 1, _, _, _, h => ⟨h.1, fun i hi => wpOp_mono (fun a' w' h' => wpAny_of fuel _ a' w' h'.2) (h.2 i hi)⟩
def waits (md : Region.Mode) (ops : Array Oper) (j i : Nat) : Bool :=
 match ops.toList[j]? with
 | some o => o.after.any fun e => Region.binds md e && e.on == i
 | none => false
/-- None of them has come up, and each waits for the one before it. -/
def chain (md : Region.Mode) (ops : Array Oper) (listed : Array Bool) : List Nat -> Bool
 | [] => true
 | [i] => !(listed.getD i true)
 | i :: j :: r => !(listed.getD i true) && waits md ops j i && chain md ops listed (j :: r)
theorem waits_ready {i j : Nat} {listed : Array Bool} (h : waits md ops j i = true) (hu : listed.getD i true = false) : j ∉ Region.ready md ops listed := by
 intro hj
 obtain ⟨_, o, ho, hall⟩ := mem_ready.1 hj
 unfold waits at h
 rw [Array.getElem?_toList, ho] at h
 simp only at h
 rw [Array.any_eq_true] at h
 obtain ⟨k, hk, he⟩ := h
 rw [Bool.and_eq_true, beq_iff_eq] at he
 have := hall _ (Array.getElem_mem hk) he.1
 rw [he.2] at this
 rcases Nat.lt_or_ge i listed.size with h' | h'
 ·simp [h'] at hu this; rw [hu] at this; cases this
 ·simp [Array.getElem?_eq_none h'] at hu
theorem chain_step {j : Nat} {listed : Array Bool} (hj : j ∈ Region.ready md ops listed) : ∀ (i : Nat) (cs : List Nat), j ≠ i -> chain md ops listed (i :: cs) = true -> chain md ops (listed.setIfInBounds j true) (i :: cs) = true
 | i, [], hne, h => by
  unfold chain at h ⊢
  rw [Bool.not_eq_true'] at h ⊢
  rw [getD_set_ne true hne]; exact h
 | i, c :: r, hne, h => by
  unfold chain at h ⊢
  rw [Bool.and_eq_true, Bool.and_eq_true, Bool.not_eq_true'] at h ⊢
  obtain ⟨⟨h1, h2⟩, h3⟩ := h
  have hc : j ≠ c := fun he => waits_ready h2 h1 (he ▸ hj)
  exact ⟨⟨by rw [getD_set_ne true hne]; exact h1, h2⟩, chain_step hj c r hc h3⟩
theorem chain_un {listed : Array Bool} : ∀ (i : Nat) (cs : List Nat), chain md ops listed (i :: cs) = true -> ∀ c ∈ i :: cs, Un c listed
 | i, [], h, c, hc => by
  rw [List.mem_singleton] at hc
  subst hc
  unfold chain at h
  unfold Un
  simpa using h
 | i, d :: r, h, c, hc => by
  unfold chain at h
  rw [Bool.and_eq_true, Bool.and_eq_true, Bool.not_eq_true'] at h
  rcases List.mem_cons.1 hc with rfl | hc
  ·exact h.1.1
  ·exact chain_un d r h.2 c hc
theorem not_on {i : Nat} {listed : Array Bool} {oj : Oper} (hr : i ∈ Region.ready md ops listed) (hall : ∀ e ∈ oj.after, Region.binds md e = true -> listed.getD e.on false = true) : ∀ e ∈ oj.after, Region.binds md e = true -> e.on ≠ i := fun e he hb heq => by
 have h1 := hall e he hb
 have h0 := (mem_ready.1 hr).1
 rw [heq] at h1
 rcases Nat.lt_or_ge i listed.size with h' | h'
 ·simp [h'] at h0 h1; rw [h0] at h1; cases h1
 ·simp [Array.getElem?_eq_none h'] at h0
theorem first {i : Nat} {oi : Oper} {v : Value} {cs : List Nat} (hi : ops[i]? = some oi) (hsel : ∀ (j : Nat) (o : Oper) cs b, ops[j]? = some o -> o.op ≠ .select cs b)
  (hT : K ∈ cs) (hiK : i ≠ K)
  (hQ : ∀ c a w, Q (.panic c) (a.put oi.dst v) w -> Q (.panic c) a w) :
  ∀ (fuel : Nat) (listed : Array Bool) (a : Act) (w : World), chain md ops listed (i :: cs) = true ->
   (∀ j oj, ops[j]? = some oj -> j ≠ i -> listed.getD j true = false -> (∀ e ∈ oj.after, Region.binds md e = true -> e.on ≠ i) -> oi.apart ops oj = true) ->
   i ∈ Region.ready md ops listed -> YieldsIf P ops S oi v a -> S w ->
   wpK P md ops Q S K fuel (listed.setIfInBounds i true) (a.put oi.dst v) w -> wpK P md ops Q S K (fuel + 1) listed a w := by
 intro fuel
 induction fuel with
 | zero =>
  intro listed a w _ _ hr hy hS H
  refine ⟨fun h => (by rw [h] at hr; cases hr), fun j hj => ?_⟩
  by_cases hji : j = i
  ·subst hji; exact hy.wpOp hi hS ⟨fun _ => hS, H⟩
  ·have := ready_mono hj hji
   rw [H.1] at this
   cases this
 | succ fuel ih =>
  intro listed a w hc hfree hr hy hS H
  refine ⟨fun h => (by rw [h] at hr; cases hr), fun j hj => ?_⟩
  by_cases hji : j = i
  ·subst hji; exact hy.wpOp hi hS ⟨fun _ => hS, H⟩
  ·have hc2 := chain_step hj i cs hji hc
   have h1 := H.2 j (ready_mono hj hji)
   obtain ⟨hjun, oj, hoj, hall⟩ := mem_ready.1 hj
   have h2 := wpOp_putIf hoj (hfree j oj hoj hji hjun (not_on hr hall)) (fun cs b => hsel i oi cs b hi) (fun cs b => hsel j oj cs b hoj) hQ hy h1
   have hfree' : ∀ k ok, ops[k]? = some ok -> k ≠ i -> (listed.setIfInBounds j true).getD k true = false ->
     (∀ e ∈ ok.after, Region.binds md e = true -> e.on ≠ i) -> oi.apart ops ok = true := fun k ok hk hki hun hno => by
    refine hfree k ok hk hki ?_ hno
    by_cases hjk : j = k
    ·subst hjk; exact hjun
    ·rw [getD_set_ne true hjk] at hun; exact hun
   have hUn : Un K (listed.setIfInBounds j true) := chain_un i cs hc2 K (List.mem_cons_of_mem _ hT)
   have hst : i ≠ K -> Un K ((listed.setIfInBounds i true).setIfInBounds j true) := fun hne => by
    rw [Array.setIfInBounds_comm _ _ (Ne.symm hji)]
    unfold Un at hUn ⊢
    rw [getD_set_ne true hne]
    exact hUn
   refine wpOp_mono (fun a' w' h3 => ?_) h2
   have hSw := h3.2.1 (hst hiK)
   refine ⟨fun _ => hSw, ih (listed.setIfInBounds j true) a' w' hc2 hfree' (ready_mono hr (Ne.symm hji)) h3.1 hSw ?_⟩
   rw [Array.setIfInBounds_comm _ _ hji]
   exact h3.2.2
/-- One that yields in whatever world. -/
theorem firstP {i : Nat} {oi : Oper} {v : Value} (hi : ops[i]? = some oi) (hsel : ∀ (j : Nat) (o : Oper) cs b, ops[j]? = some o -> o.op ≠ .select cs b)
  (hiK : i ≠ K) (hQ : ∀ c a w, Q (.panic c) (a.put oi.dst v) w -> Q (.panic c) a w) :
  ∀ (fuel : Nat) (listed : Array Bool) (a : Act) (w : World),
   (∀ j oj, ops[j]? = some oj -> j ≠ i -> listed.getD j true = false -> (∀ e ∈ oj.after, Region.binds md e = true -> e.on ≠ i) -> oi.apart ops oj = true) ->
   i ∈ Region.ready md ops listed -> YieldsIf P ops (fun _ => True) oi v a -> (Un K listed -> S w) ->
   wpK P md ops Q S K fuel (listed.setIfInBounds i true) (a.put oi.dst v) w -> wpK P md ops Q S K (fuel + 1) listed a w := by
 have hset : ∀ listed : Array Bool, Un K (listed.setIfInBounds i true) ↔ Un K listed := fun l => by
  unfold Un
  rw [getD_set_ne true hiK]
 intro fuel
 induction fuel with
 | zero =>
  intro listed a w _ hr hy hS H
  refine ⟨fun h => (by rw [h] at hr; cases hr), fun j hj => ?_⟩
  by_cases hji : j = i
  ·subst hji; exact hy.wpOp hi trivial ⟨fun hu => hS ((hset _).1 hu), H⟩
  ·have := ready_mono hj hji
   rw [H.1] at this
   cases this
 | succ fuel ih =>
  intro listed a w hfree hr hy hS H
  refine ⟨fun h => (by rw [h] at hr; cases hr), fun j hj => ?_⟩
  by_cases hji : j = i
  ·subst hji; exact hy.wpOp hi trivial ⟨fun hu => hS ((hset _).1 hu), H⟩
  ·have h1 := H.2 j (ready_mono hj hji)
   obtain ⟨hjun, oj, hoj, hall⟩ := mem_ready.1 hj
   have h2 := wpOp_putIf hoj (hfree j oj hoj hji hjun (not_on hr hall)) (fun cs b => hsel i oi cs b hi) (fun cs b => hsel j oj cs b hoj) hQ hy h1
   have hfree' : ∀ k ok, ops[k]? = some ok -> k ≠ i -> (listed.setIfInBounds j true).getD k true = false ->
     (∀ e ∈ ok.after, Region.binds md e = true -> e.on ≠ i) -> oi.apart ops ok = true := fun k ok hk hki hun hno => by
    refine hfree k ok hk hki ?_ hno
    by_cases hjk : j = k
    ·subst hjk; exact hjun
    ·rw [getD_set_ne true hjk] at hun; exact hun
   refine wpOp_mono (fun a' w' h3 => ?_) h2
   have hSw : Un K (listed.setIfInBounds j true) -> S w' := fun hu => h3.2.1 (by
    rw [Array.setIfInBounds_comm _ _ (Ne.symm hji)]
    exact (hset _).2 hu)
   refine ⟨hSw, ih (listed.setIfInBounds j true) a' w' hfree' (ready_mono hr (Ne.symm hji)) h3.1 hSw ?_⟩
   rw [Array.setIfInBounds_comm _ _ hji]
   exact h3.2.2
/-- An operation that is carried out, or left out, first. -/
theorem take (cs : List Nat) {i : Nat} {oi : Oper} {v : Value} {fuel : Nat} {listed : Array Bool} {a : Act} {w : World} (hi : ops.toList[i]? = some oi)
  (hs : Region.noSelect ops = true) (hf : Region.free md ops listed i = true) (hr : (Region.ready md ops listed).contains i = true)
  (hc : chain md ops listed (i :: cs) = true) (hT : (cs.contains K && !(i == K)) = true)
  (hQ : ∀ c a w, Q (.panic c) (a.put oi.dst v) w -> Q (.panic c) a w) (hy : YieldsIf P ops S oi v a) (hS : S w)
  (h : wpK P md ops Q S K fuel (listed.setIfInBounds i true) (a.put oi.dst v) w) : wpK P md ops Q S K (fuel + 1) listed a w :=
 have hi' : ops[i]? = some oi := by rw [<- Array.getElem?_toList]; exact hi
 have hT' : K ∈ cs /\ i ≠ K := by simpa using hT
 first hi' (Region.noSelect_spec hs) hT'.1 hT'.2 hQ fuel listed a w hc (Region.free_spec hi' hf) (by simpa using hr) hy hS h
theorem takeP {i : Nat} {oi : Oper} {v : Value} {fuel : Nat} {listed : Array Bool} {a : Act} {w : World} (hi : ops.toList[i]? = some oi)
  (hs : Region.noSelect ops = true) (hf : Region.free md ops listed i = true) (hr : (Region.ready md ops listed).contains i = true) (hT : (i == K) = false)
  (hQ : ∀ c a w, Q (.panic c) (a.put oi.dst v) w -> Q (.panic c) a w) (hy : YieldsIf P ops (fun _ => True) oi v a) (hS : S w)
  (h : wpK P md ops Q S K fuel (listed.setIfInBounds i true) (a.put oi.dst v) w) : wpK P md ops Q S K (fuel + 1) listed a w :=
 have hi' : ops[i]? = some oi := by rw [<- Array.getElem?_toList]; exact hi
 firstP hi' (Region.noSelect_spec hs) (by simpa using hT) hQ fuel listed a w (Region.free_spec hi' hf) (by simpa using hr) hy (fun _ => hS) h
/-- The one operation that may come up. -/
theorem one {i : Nat} {o : Oper} {fuel : Nat} {listed : Array Bool} {a : Act} {w : World} (hr : Region.ready md ops listed = [i]) (ho : ops.toList[i]? = some o)
  (h : ∀ K' : Act -> World -> Prop, Shut (∀ a w, S w -> (S w -> wpK P md ops Q S K fuel (listed.setIfInBounds i true) a w) -> K' a w) -> if Region.wanted o (yielded ops a.tmps) = true then Oper.wp P o a w K' Q else K' (a.put o.dst undef) w) :
  wpK P md ops Q S K (fuel + 1) listed a w := by
 have ho' : ops[i]? = some o := by rw [<- Array.getElem?_toList]; exact ho
 refine ⟨fun h0 => (by rw [hr] at h0; cases h0), fun j hj => ?_⟩
 rw [hr, List.mem_singleton] at hj
 subst hj
 exact wpOp_step ho' (fun K' hK => h K' (fun a w hS hW => hK a w ⟨fun _ => hS, hW hS⟩))
/-- One of two comes up. -/
theorem two {i j : Nat} {o o' : Oper} {fuel : Nat} {listed : Array Bool} {a : Act} {w : World} (hr : Region.ready md ops listed = [i, j]) (ho : ops.toList[i]? = some o) (ho' : ops.toList[j]? = some o')
  (h : ∀ K' : Act -> World -> Prop, Shut (∀ a w, S w -> (S w -> wpK P md ops Q S K fuel (listed.setIfInBounds i true) a w) -> K' a w) -> if Region.wanted o (yielded ops a.tmps) = true then Oper.wp P o a w K' Q else K' (a.put o.dst undef) w)
  (h' : ∀ K' : Act -> World -> Prop, Shut (∀ a w, S w -> (S w -> wpK P md ops Q S K fuel (listed.setIfInBounds j true) a w) -> K' a w) -> if Region.wanted o' (yielded ops a.tmps) = true then Oper.wp P o' a w K' Q else K' (a.put o'.dst undef) w) :
  wpK P md ops Q S K (fuel + 1) listed a w := by
 have ho1 : ops[i]? = some o := by rw [<- Array.getElem?_toList]; exact ho
 have ho2 : ops[j]? = some o' := by rw [<- Array.getElem?_toList]; exact ho'
 refine ⟨fun h0 => (by rw [hr] at h0; cases h0), fun k hk => ?_⟩
 rw [hr, List.mem_cons, List.mem_singleton] at hk
 rcases hk with rfl | rfl
 ·exact wpOp_step ho1 (fun K' hK => h K' (fun a w hS hW => hK a w ⟨fun _ => hS, hW hS⟩))
 ·exact wpOp_step ho2 (fun K' hK => h' K' (fun a w hS hW => hK a w ⟨fun _ => hS, hW hS⟩))
/-- The operations that are left come up in this order. -/
def forced (md : Region.Mode) (ops : Array Oper) : Array Bool -> List Nat -> Bool
 | listed, [] => (Region.ready md ops listed).isEmpty
 | listed, i :: r => (Region.ready md ops listed == [i]) && forced md ops (listed.setIfInBounds i true) r
theorem set_self (l : Array Bool) (k : Nat) : (l.setIfInBounds k true).getD k true = true := by
 rcases Nat.lt_or_ge k l.size with h | h <;> simp [h]
theorem not_un {l : Array Bool} {k : Nat} (j : Nat) (h : ¬ Un k l) : ¬ Un k (l.setIfInBounds j true) := by
 unfold Un at h ⊢
 by_cases hj : j = k
 ·subst hj; rw [set_self]; decide
 ·rw [getD_set_ne true hj]; exact h
theorem rest : ∀ (l : List Nat) (os : List Oper) (fuel : Nat) (listed : Array Bool) (a : Act) (w : World), (∀ i, l.head? = some i -> ¬ Un K (listed.setIfInBounds i true)) -> forced md ops listed l = true -> l.map (fun i => ops.toList[i]?) = os.map some -> l.length <= fuel ->
  wpList P ops Q os a w -> wpK P md ops Q S K fuel listed a w
 | [], os, fuel, listed, a, w, _, hf, hm, _, h => by
  obtain rfl : os = [] := by cases os with | nil => rfl | cons => simp at hm
  unfold forced at hf
  have hr : Region.ready md ops listed = [] := by simpa using hf
  cases fuel with
  | zero => exact ⟨hr, h⟩
  | succ n => exact ⟨fun _ => h, by rw [hr]; simp⟩
 | i :: l, os, fuel, listed, a, w, hs, hf, hm, hl, h => by
  cases fuel with
  | zero => simp at hl
  | succ fuel =>
   cases os with
   | nil => simp at hm
   | cons o os =>
    have hs1 := hs i rfl
    unfold forced at hf
    rw [Bool.and_eq_true, beq_iff_eq] at hf
    rw [List.map_cons, List.map_cons, List.cons.injEq] at hm
    have ho : ops[i]? = some o := by rw [<- Array.getElem?_toList]; exact hm.1
    refine ⟨fun h0 => (by rw [hf.1] at h0; cases h0), fun j hj => ?_⟩
    rw [hf.1, List.mem_singleton] at hj
    subst hj
    unfold wpList at h
    unfold wpOp
    simp only [ho]
    have go : ∀ a' w', wpList P ops Q os a' w' -> (Un K (listed.setIfInBounds j true) -> S w') /\ wpK P md ops Q S K fuel (listed.setIfInBounds j true) a' w' := fun a' w' h' =>
     ⟨fun hn => absurd hn hs1, rest l os fuel _ a' w' (fun k _ => not_un k hs1) hf.2 hm.2 (by simpa using hl) h'⟩
    by_cases hw : Region.wanted o (yielded ops a.tmps) = true
    ·simp only [hw, if_true] at h ⊢
     rcases h with h | h
     ·exact .inl (Oper.wp_mono go h)
     ·exact .inr h
    ·simp only [hw] at h ⊢
     exact go _ _ h
/-- From operation K on the rest comes up in this order: it is walked as it stands. -/
theorem tail (l : List Nat) (os : List Oper) {fuel : Nat} {listed : Array Bool} {a : Act} {w : World} (hs : (l.head? == some K) = true) (hf : forced md ops listed l = true) (hm : l.map (fun i => ops.toList[i]?) = os.map some) (hl : l.length <= fuel)
  (h : wpList P ops Q os a w) : wpK P md ops Q S K fuel listed a w := by
 refine rest l os fuel listed a w (fun i hi => ?_) hf hm hl h
 rw [beq_iff_eq, hi] at hs
 injection hs with hs
 subst hs
 unfold Un
 rw [set_self]
 decide
theorem done {fuel : Nat} {listed : Array Bool} {a : Act} {w : World} (hr : Region.ready md ops listed = []) (h : Q .normal a w) : wpK P md ops Q S K fuel listed a w := by
 cases fuel with
 | zero => exact ⟨hr, h⟩
 | succ n => exact ⟨fun _ => h, by rw [hr]; simp⟩
/-- The beginning: S is shown of the world behind the draw, once, and handed on. -/
theorem begin {id : Nat} {a : Act} {w : World} (K : Nat) (hm : P.follows .mixedOrders = true) (hS : S w.drew)
  (h : S w.drew -> wpK P .any ops Q S K ops.size (Array.replicate ops.size false) a w.drew) : (Code.region id ops true).wp P Q a w :=
 wp_region_any hm (wpAny_of _ _ _ _ (h hS))
end
end Go.Proofs.YtbicmlkjonaccaaDoor.Rk


namespace Go.Proofs.YtbicmlkjonaccaaDoor.Ln
open Go.ChangeShapes Go.WideShapes Go.ChangeAt Go.RowKit
open Go.Proofs.YtbicmlkjonaccaaDoor.Nm
set_option linter.unusedVariables false
set_option linter.unusedSimpArgs false
set_option maxRecDepth 8000

theorem tdm {n : Int} {G : Nat} (g0 : 1 <= G) : (0 <= n -> n.tdiv G = n / G /\ n.tmod G = n % G) /\ (n < 0 -> n % G = 0 -> n.tdiv G = n / G /\ n.tmod G = 0) /\ (n < 0 -> n % G ≠ 0 -> n.tdiv G = n / G + 1 /\ n.tmod G < 0) := by
 have hG : (0 : Int) < G := by omega
 refine ⟨fun h => ⟨Int.tdiv_eq_ediv_of_nonneg h, Int.tmod_eq_emod_of_nonneg h⟩, fun h hz => ?_, fun h hz => ?_⟩
 ·have hd : (G : Int) ∣ n := Int.dvd_of_emod_eq_zero hz
  exact ⟨Int.tdiv_eq_ediv_of_dvd hd, Int.tmod_eq_zero_of_dvd hd⟩
 ·have h1 := Int.tdiv_eq_ediv (a := n) (b := (G : Int))
  have hnd : ¬ (G : Int) ∣ n := fun hd => hz (Int.emod_eq_zero_of_dvd hd)
  have e : n.tdiv G = n / G + 1 := by
   rw [h1, if_neg (by rintro (h2 | h2); omega; exact hnd h2), Int.sign_eq_one_of_pos hG]
  refine ⟨e, ?_⟩
  have h2 := Int.mul_tdiv_add_tmod n (G : Int)
  have h3 := Int.mul_ediv_add_emod n (G : Int)
  have h4 := Int.emod_lt_of_pos n hG
  rw [e] at h2
  rw [Int.mul_add] at h2
  omega

set_option maxRecDepth 100000 in
theorem fd_pos (n g q r : Int) (w : World) (hne : g ≠ 0) (hg : (g == 0) = false) (h0 : decide (g < 0) = false) (e1 : n.tdiv g = q) (e2 : n.tmod g = r) (w1 : IntKind.i64.wrap q = q) (w2 : IntKind.i64.wrap r = r)  (h1 : decide (r < 0) = false) (b : Bool) (hb : (r == 0) = b) : Calls Tryd.prog 60 #[.int .i64 n, .int .i64 g] w fun e w' => e = .returned (.tuple #[.int .i64 q, .bool b]) /\ Below w.heap.size w w' := by
 go_enter Tryd.func60, Tryd.ntmps60
 go_wp2_with fail
 have hz : Below w.heap.size w w := Below.refl _ _
 have HS : Hid (∀ u u' : World, Below w.heap.size w u -> Below u.heap.size u u' -> Below w.heap.size w u') := Lib.hid (fun u u' h hb => h.trans (hb.mono h.size))
 refine Rk.begin (S := fun wS => Below w.heap.size w wS) 5 (by kernel_rfl) (HS.out _ _ hz (Below.drew (Below.refl _ _))) (fun hHeld => ?_)
 refine Rk.takeP (i := 0) (v := ?_) rfl (by kernel_rfl) (by kernel_rfl) (by kernel_rfl) (by kernel_rfl) (fun _ _ _ h => h) (Or.inl ⟨by kernel_rfl, ?_⟩) (by assumption) ?_
 rotate_left
 ·((intro w hSw; go_simp) <;> with_reducible rfl)
 try simp only [Act.put, List.setIfInBounds_toArray, List.set_cons_zero, List.set_cons_succ]
 refine Rk.takeP (i := 1) (v := ?_) rfl (by kernel_rfl) (by kernel_rfl) (by kernel_rfl) (by kernel_rfl) (fun _ _ _ h => h) (Or.inl ⟨by kernel_rfl, ?_⟩) (by assumption) ?_
 rotate_left
 ·((intro w hSw; go_simp) <;> with_reducible rfl)
 try simp only [Act.put, List.setIfInBounds_toArray, List.set_cons_zero, List.set_cons_succ]
 refine Rk.takeP (i := 2) (v := ?_) rfl (by kernel_rfl) (by kernel_rfl) (by kernel_rfl) (by kernel_rfl) (fun _ _ _ h => h) (Or.inl ⟨by kernel_rfl, ?_⟩) (by assumption) ?_
 rotate_left
 ·((intro w hSw; go_simp) <;> with_reducible rfl)
 try simp only [Act.put, List.setIfInBounds_toArray, List.set_cons_zero, List.set_cons_succ]
 refine Rk.takeP (i := 3) (v := ?_) rfl (by kernel_rfl) (by kernel_rfl) (by kernel_rfl) (by kernel_rfl) (fun _ _ _ h => h) (Or.inl ⟨by kernel_rfl, ?_⟩) (by assumption) ?_
 rotate_left
 ·((intro w hSw; go_simp) <;> with_reducible rfl)
 try simp only [Act.put, List.setIfInBounds_toArray, List.set_cons_zero, List.set_cons_succ]
 refine Rk.takeP (i := 4) (v := ?_) rfl (by kernel_rfl) (by kernel_rfl) (by kernel_rfl) (by kernel_rfl) (fun _ _ _ h => h) (Or.inl ⟨by kernel_rfl, ?_⟩) (by assumption) ?_
 rotate_left
 ·((intro w hSw; go_simp) <;> with_reducible rfl)
 try simp only [Act.put, List.setIfInBounds_toArray, List.set_cons_zero, List.set_cons_succ]
 refine Rk.tail [5, 6] [_, _] (by kernel_rfl) (by kernel_rfl) rfl (by decide) ?_
 go_wp2
 refine bodyPost_ret (v := .tuple #[.int .i64 q, .bool b]) (by simp [results, Tryd.results60, go_sem]) rfl ⟨rfl, hHeld⟩

set_option maxRecDepth 100000 in
theorem fd_neg (n g q r : Int) (w : World) (hne : g ≠ 0) (hg : (g == 0) = false) (h0 : decide (g < 0) = false) (e1 : n.tdiv g = q) (e2 : n.tmod g = r) (w1 : IntKind.i64.wrap q = q) (w2 : IntKind.i64.wrap r = r) (w3 : IntKind.i64.wrap (q - 1) = q - 1) (h1 : decide (r < 0) = true) (b : Bool) (hb : (r == 0) = b) : Calls Tryd.prog 60 #[.int .i64 n, .int .i64 g] w fun e w' => e = .returned (.tuple #[.int .i64 (q - 1), .bool b]) /\ Below w.heap.size w w' := by
 go_enter Tryd.func60, Tryd.ntmps60
 go_wp2_with fail
 have hz : Below w.heap.size w w := Below.refl _ _
 have HS : Hid (∀ u u' : World, Below w.heap.size w u -> Below u.heap.size u u' -> Below w.heap.size w u') := Lib.hid (fun u u' h hb => h.trans (hb.mono h.size))
 refine Rk.begin (S := fun wS => Below w.heap.size w wS) 5 (by kernel_rfl) (HS.out _ _ hz (Below.drew (Below.refl _ _))) (fun hHeld => ?_)
 refine Rk.takeP (i := 0) (v := ?_) rfl (by kernel_rfl) (by kernel_rfl) (by kernel_rfl) (by kernel_rfl) (fun _ _ _ h => h) (Or.inl ⟨by kernel_rfl, ?_⟩) (by assumption) ?_
 rotate_left
 ·((intro w hSw; go_simp) <;> with_reducible rfl)
 try simp only [Act.put, List.setIfInBounds_toArray, List.set_cons_zero, List.set_cons_succ]
 refine Rk.takeP (i := 1) (v := ?_) rfl (by kernel_rfl) (by kernel_rfl) (by kernel_rfl) (by kernel_rfl) (fun _ _ _ h => h) (Or.inl ⟨by kernel_rfl, ?_⟩) (by assumption) ?_
 rotate_left
 ·((intro w hSw; go_simp) <;> with_reducible rfl)
 try simp only [Act.put, List.setIfInBounds_toArray, List.set_cons_zero, List.set_cons_succ]
 refine Rk.takeP (i := 2) (v := ?_) rfl (by kernel_rfl) (by kernel_rfl) (by kernel_rfl) (by kernel_rfl) (fun _ _ _ h => h) (Or.inl ⟨by kernel_rfl, ?_⟩) (by assumption) ?_
 rotate_left
 ·((intro w hSw; go_simp) <;> with_reducible rfl)
 try simp only [Act.put, List.setIfInBounds_toArray, List.set_cons_zero, List.set_cons_succ]
 refine Rk.takeP (i := 3) (v := ?_) rfl (by kernel_rfl) (by kernel_rfl) (by kernel_rfl) (by kernel_rfl) (fun _ _ _ h => h) (Or.inl ⟨by kernel_rfl, ?_⟩) (by assumption) ?_
 rotate_left
 ·((intro w hSw; go_simp) <;> with_reducible rfl)
 try simp only [Act.put, List.setIfInBounds_toArray, List.set_cons_zero, List.set_cons_succ]
 refine Rk.takeP (i := 4) (v := ?_) rfl (by kernel_rfl) (by kernel_rfl) (by kernel_rfl) (by kernel_rfl) (fun _ _ _ h => h) (Or.inl ⟨by kernel_rfl, ?_⟩) (by assumption) ?_
 rotate_left
 ·((intro w hSw; go_simp) <;> with_reducible rfl)
 try simp only [Act.put, List.setIfInBounds_toArray, List.set_cons_zero, List.set_cons_succ]
 refine Rk.tail [5, 6] [_, _] (by kernel_rfl) (by kernel_rfl) rfl (by decide) ?_
 go_wp2
 refine bodyPost_ret (v := .tuple #[.int .i64 (q - 1), .bool b]) (by simp [results, Tryd.results60, go_sem]) rfl ⟨rfl, hHeld⟩

set_option maxRecDepth 100000 in
theorem fd_big (n : Int) (w : World) (b : Bool) (h1 : (n == -9223372036854775808) = false) (h2 : (n == 0) = b) : Calls Tryd.prog 60 #[.int .i64 n, .int .i64 (-9223372036854775808)] w fun e w' => e = .returned (.tuple #[.int .i64 (n / 9223372036854775808), .bool b]) /\ Below w.heap.size w w' := by
 go_enter Tryd.func60, Tryd.ntmps60
 go_wp2
 refine bodyPost_ret (v := .tuple #[.int .i64 (n / 9223372036854775808), .bool b]) (by simp [results, Tryd.results60, go_sem]) rfl ⟨rfl, Below.refl _ _⟩
set_option maxRecDepth 100000 in
theorem fd_min (w : World) : Calls Tryd.prog 60 #[.int .i64 (-9223372036854775808), .int .i64 (-9223372036854775808)] w fun e w' => e = .returned (.tuple #[.int .i64 (-1), .bool true]) /\ Below w.heap.size w w' := by
 go_enter Tryd.func60, Tryd.ntmps60
 go_wp2
 refine bodyPost_ret (v := .tuple #[.int .i64 (-1), .bool true]) (by simp [results, Tryd.results60, go_sem]) rfl ⟨rfl, Below.refl _ _⟩
/-- floorDiv by a positive number up to 2^63, which stands as -2^63. -/
theorem fdiv (n : Int) (G : Nat) (n0 : -9223372036854775808 <= n) (n1 : n <= 9223372036854775807) (g0 : 1 <= G) (g1 : G <= 9223372036854775808) (w : World) : Calls Tryd.prog 60 #[.int .i64 n, .int .i64 (wrap64 (G : Int))] w fun e w' => e = .returned (.tuple #[.int .i64 (n / (G : Int)), .bool (n % (G : Int) == 0)]) /\ Below w.heap.size w w' := by
 by_cases hG : G = 9223372036854775808
 ·subst hG
  rw [show wrap64 ((9223372036854775808 : Nat) : Int) = -9223372036854775808 by decide +kernel]
  by_cases hm : n = -9223372036854775808
  ·subst hm
   exact fd_min w
  ·have h1 : (n == -9223372036854775808) = false := by rw [beq_eq_false_iff_ne]; exact hm
   have h2 : (n == 0) = (n % ((9223372036854775808 : Nat) : Int) == 0) := by
    rw [Bool.eq_iff_iff, beq_iff_eq, beq_iff_eq]
    omega
   exact fd_big n w _ h1 h2
 ·have hw : wrap64 (G : Int) = (G : Int) := by unfold wrap64; omega
  rw [hw]
  obtain ⟨t1, t2, t3⟩ := tdm (n := n) g0
  have hne : (G : Int) ≠ 0 := by omega
  have hg : ((G : Int) == 0) = false := by rw [beq_eq_false_iff_ne]; exact hne
  have h0 : decide ((G : Int) < 0) = false := by simp
  have hd1 := Int.mul_ediv_add_emod n (G : Int)
  have hd2 := Int.emod_lt_of_pos n (show (0 : Int) < G by omega)
  have hd3 := Int.emod_nonneg n hne
  have hq0 : -9223372036854775808 <= n / (G : Int) := by
   rcases Int.lt_or_le n 0 with h | h
   ·have := Int.ediv_le_ediv (c := (G : Int)) (by omega) n0
    have h5 : -9223372036854775808 <= -9223372036854775808 / (G : Int) := Int.le_ediv_of_mul_le (by omega) (by omega)
    omega
   ·have := Int.ediv_nonneg h (show (0 : Int) <= G by omega)
    omega
  have hq1 : n / (G : Int) <= 9223372036854775807 := by
   rcases Int.lt_or_le n 0 with h | h
   ·have := Int.ediv_neg_of_neg_of_pos h (show (0 : Int) < G by omega)
    omega
   ·have := Int.ediv_le_self (G : Int) h
    omega
  rcases Int.lt_or_le n 0 with h | h
  ·by_cases hz : n % (G : Int) = 0
   ·obtain ⟨a, b⟩ := t2 h hz
    exact fd_pos n G _ _ w hne hg h0 a b (by rw [IntKind.wrap_i64]; omega) (by decide) (by decide) _ (by rw [hz])
   ·obtain ⟨a, b⟩ := t3 h hz
    have c1 : n.tmod (G : Int) ≠ 0 := by omega
    have hlo : -9223372036854775808 <= n.tmod (G : Int) := by
     have := Int.mul_tdiv_add_tmod n (G : Int)
     rw [a, Int.mul_add] at this
     omega
    have := fd_neg n G _ _ w hne hg h0 a rfl (by have := Int.ediv_neg_of_neg_of_pos h (show (0 : Int) < G by omega); rw [IntKind.wrap_i64]; omega) (by rw [IntKind.wrap_i64]; omega) (by rw [IntKind.wrap_i64]; omega) (by simpa using b) _ rfl
    rw [show n / (G : Int) + 1 - 1 = n / (G : Int) by omega] at this
    rw [show (n % (G : Int) == 0) = (n.tmod (G : Int) == 0) by rw [Bool.eq_iff_iff, beq_iff_eq, beq_iff_eq]; exact ⟨fun q => absurd q hz, fun q => absurd q c1⟩]
    exact this
  ·obtain ⟨a, b⟩ := t1 h
   exact fd_pos n G _ _ w hne hg h0 a b (by rw [IntKind.wrap_i64]; omega) (by rw [IntKind.wrap_i64]; omega) (by simp; omega) _ rfl
end Go.Proofs.YtbicmlkjonaccaaDoor.Ln


namespace Go.Proofs.YtbicmlkjonaccaaDoor.Ln
open Go.ChangeShapes Go.WideShapes Go.ChangeAt Go.RowKit
set_option linter.unusedVariables false
set_option linter.unusedSimpArgs false
/-- The three limbs of a number in two's complement. -/
def l0 (V : Int) : Int := V % 18446744073709551616
def l1 (V : Int) : Int := V / 18446744073709551616 % 18446744073709551616
def l2 (V : Int) : Int := V / 340282366920938463463374607431768211456 % 18446744073709551616
theorem l0_add (V X : Int) : (l0 V + l0 X) % 18446744073709551616 = l0 (V + X) := by unfold l0; omega
theorem l1_add (V X : Int) : (l1 V + l1 X + (l0 V + l0 X) / 18446744073709551616) % 18446744073709551616 = l1 (V + X) := by unfold l1 l0; omega
theorem l2_add (V X : Int) : (l2 V + l2 X + (l1 V + l1 X + (l0 V + l0 X) / 18446744073709551616) / 18446744073709551616) % 18446744073709551616 = l2 (V + X) := by
 have e : ∀ Y : Int, Y / 340282366920938463463374607431768211456 = Y / 18446744073709551616 / 18446744073709551616 := fun Y => by omega
 unfold l2 l1 l0
 rw [e V, e X, e (V + X)]
 obtain ⟨q, hq⟩ : ∃ q, V / 18446744073709551616 = q := ⟨_, rfl⟩
 obtain ⟨r, hr⟩ : ∃ r, X / 18446744073709551616 = r := ⟨_, rfl⟩
 obtain ⟨u, hu⟩ : ∃ u, (V + X) / 18446744073709551616 = u := ⟨_, rfl⟩
 have hc : u = q + r + (V % 18446744073709551616 + X % 18446744073709551616) / 18446744073709551616 := by omega
 rw [hq, hr, hu, hc]
 generalize (V % 18446744073709551616 + X % 18446744073709551616) / 18446744073709551616 = c
 clear hq hr hu hc e
 omega
theorem l_bd (V : Int) : (0 <= l0 V /\ l0 V < 18446744073709551616) /\ (0 <= l1 V /\ l1 V < 18446744073709551616) /\ (0 <= l2 V /\ l2 V < 18446744073709551616) := by unfold l2 l1 l0; omega

theorem neg_mod {a : Int} (ha : a < 0) (ha2 : -9223372036854775808 <= a) : a % 18446744073709551616 = a + 18446744073709551616 := by omega
theorem pos_mod {a : Int} (ha : 0 <= a) (ha2 : a <= 9223372036854775807) : a % 18446744073709551616 = a := by omega
theorem lo_eq {a b : Int} (ha1 : -9223372036854775808 <= a) (ha2 : a <= 9223372036854775807) (hb1 : -9223372036854775808 <= b) (hb2 : b <= 9223372036854775807) : (a % 18446744073709551616) * (b % 18446744073709551616) % 18446744073709551616 = l0 (a * b) := by
 unfold l0
 rw [<- Int.mul_emod]
theorem hi_eq {a b : Int} (ha1 : -9223372036854775808 <= a) (ha2 : a <= 9223372036854775807) (hb1 : -9223372036854775808 <= b) (hb2 : b <= 9223372036854775807) :
  ((a % 18446744073709551616) * (b % 18446744073709551616) / 18446744073709551616 - (if a < 0 then b % 18446744073709551616 else 0) - (if b < 0 then a % 18446744073709551616 else 0)) % 18446744073709551616 = l1 (a * b) := by
 unfold l1
 by_cases h1 : a < 0
 ·by_cases h2 : b < 0
  ·rw [if_pos h1, if_pos h2, neg_mod h1 ha1, neg_mod h2 hb1]
   have e : (a + 18446744073709551616) * (b + 18446744073709551616) = a * b + 18446744073709551616 * a + 18446744073709551616 * b + 340282366920938463463374607431768211456 := by grind
   rw [e]
   generalize a * b = X
   omega
  ·rw [if_pos h1, if_neg h2, neg_mod h1 ha1, pos_mod (by omega) hb2]
   have e : (a + 18446744073709551616) * b = a * b + 18446744073709551616 * b := by grind
   rw [e]
   generalize a * b = X
   omega
 ·by_cases h2 : b < 0
  ·rw [if_neg h1, if_pos h2, pos_mod (by omega) ha2, neg_mod h2 hb1]
   have e : a * (b + 18446744073709551616) = a * b + 18446744073709551616 * a := by grind
   rw [e]
   generalize a * b = X
   omega
  ·rw [if_neg h1, if_neg h2, pos_mod (by omega) ha2, pos_mod (by omega) hb2]
   generalize a * b = X
   omega
theorem prod_bd {a b : Int} (ha1 : -9223372036854775808 <= a) (ha2 : a <= 9223372036854775807) (hb1 : -9223372036854775808 <= b) (hb2 : b <= 9223372036854775807) : -85070591730234615865843651857942052864 <= a * b /\ a * b <= 85070591730234615865843651857942052864 := by
 have h : (a * b).natAbs <= 9223372036854775808 * 9223372036854775808 := by
  rw [Int.natAbs_mul]
  exact Nat.mul_le_mul (by omega) (by omega)
 omega
theorem sg_eq {X : Int} (h1 : -85070591730234615865843651857942052864 <= X) (h2 : X <= 85070591730234615865843651857942052864) : (if l1 X < 9223372036854775808 then 0 else 18446744073709551615) = l2 X := by
 unfold l1 l2
 split <;> omega
/-- A sum in 192 bits that fits in 64: both upper limbs repeat the lower one's sign. -/
theorem fits_iff {V : Int} (h1 : -1569275433846670190958947355801916604025588861116008628224 <= V) (h2 : V <= 1569275433846670190958947355801916604025588861116008628224) :
  (l1 V = (if l0 V < 9223372036854775808 then 0 else 18446744073709551615) /\ l2 V = (if l0 V < 9223372036854775808 then 0 else 18446744073709551615)) ↔ (-9223372036854775808 <= V /\ V <= 9223372036854775807) := by
 unfold l0 l1 l2
 constructor
 ·intro h
  split at h <;> omega
 ·intro h
  split <;> omega
end Go.Proofs.YtbicmlkjonaccaaDoor.Ln


namespace Go.Proofs.YtbicmlkjonaccaaDoor.Ln
open Go.ChangeShapes Go.WideShapes Go.ChangeAt Go.RowKit
set_option linter.unusedVariables false
set_option linter.unusedSimpArgs false
theorem u64w (n : Int) : IntKind.u64.wrap n = n % 18446744073709551616 := by simp [IntKind.wrap, IntKind.bits, IntKind.signed]
def addS (x y c : Int) : Int := (x + y + c) % 18446744073709551616
def addC (x y c : Int) : Int := (x + y + c) / 18446744073709551616
theorem addG (x y c : Int) (hx : 0 <= x /\ x < 18446744073709551616) (hy : 0 <= y /\ y < 18446744073709551616) (hc : 0 <= c /\ c <= 1) (w : World) : (callFunc 112 #[.int .u64 x, .int .u64 y, .int .u64 c]).run Tryd.prog w = .ok (.value (.tuple #[.int .u64 (addS x y c), .int .u64 (addC x y c)])) w := by
 rw [run_callFunc_extern Tryd.func112 (by kernel_rfl) (by kernel_rfl) (by kernel_rfl) (e := add64Entry) (by kernel_rfl), run_add64 x y c hx.1 hy.1 hc.1 hc.2]
 rfl
theorem mulG (x y : Int) (hx : 0 <= x /\ x < 18446744073709551616) (hy : 0 <= y /\ y < 18446744073709551616) (w : World) : Calls Tryd.prog 111 #[.int .u64 x, .int .u64 y] w fun e w' => e = .returned (.tuple #[.int .u64 (x * y / 18446744073709551616), .int .u64 (x * y % 18446744073709551616)]) /\ w = w' := by
 obtain ⟨n, rfl⟩ := Int.eq_ofNat_of_zero_le hx.1
 obtain ⟨m, rfl⟩ := Int.eq_ofNat_of_zero_le hy.1
 refine (Tryd.bits_Mul64 n m (by omega) (by omega) w).mono ?_
 rintro e w' ⟨rfl, rfl⟩
 exact ⟨by rw [Int.natCast_ediv, Int.natCast_emod, Int.natCast_mul]; rfl, rfl⟩
set_option maxRecDepth 100000 in
set_option maxHeartbeats 8000000 in
theorem waddT (g : Nat) (x0 x1 x2 a b A B H H1 H2 L : Int) (w : World) (hA : IntKind.u64.wrap a = A) (hB : IntKind.u64.wrap b = B)
  (C1 : Hid (∀ w, Calls Tryd.prog 111 #[.int .u64 A, .int .u64 B] w fun e w' => e = .returned (.tuple #[.int .u64 H, .int .u64 L]) /\ w = w'))
  (e1 : Hid (a < 0 -> IntKind.u64.wrap (H - B) = H1)) (e1' : Hid (¬ a < 0 -> H = H1)) (e2 : Hid (b < 0 -> IntKind.u64.wrap (H1 - A) = H2)) (e2' : Hid (¬ b < 0 -> H1 = H2))
  (a0 : w.cell? ⟨g, 0, none⟩ = some (.int .u64 x2)) (a1 : w.cell? ⟨g, 1, none⟩ = some (.int .u64 x1)) (a2 : w.cell? ⟨g, 2, none⟩ = some (.int .u64 x0)) (z0 : w.frozen? ⟨g, 0, none⟩ = false) (z1 : w.frozen? ⟨g, 1, none⟩ = false) (z2 : w.frozen? ⟨g, 2, none⟩ = false)
  (y0 c0 y1 c1 y2 c2 S : Int) (hS : IntKind.u64.wrap (wrap64 H2 / 9223372036854775808) = S)
  (D0 : ∀ w, (callFunc 112 #[.int .u64 x0, .int .u64 L, .int .u64 0]).run Tryd.prog w = .ok (.value (.tuple #[.int .u64 y0, .int .u64 c0])) w)
  (D1 : ∀ w, (callFunc 112 #[.int .u64 x1, .int .u64 H2, .int .u64 c0]).run Tryd.prog w = .ok (.value (.tuple #[.int .u64 y1, .int .u64 c1])) w)
  (D2 : ∀ w, (callFunc 112 #[.int .u64 x2, .int .u64 S, .int .u64 c1]).run Tryd.prog w = .ok (.value (.tuple #[.int .u64 y2, .int .u64 c2])) w) :
  Calls Tryd.prog 80 #[.pointer (some ⟨g, 0, none⟩), .int .i64 a, .int .i64 b] w fun e w' => e = .returned (.tuple #[]) /\ w' = ((w.setCell ⟨g, 2, none⟩ (.int .u64 y0)).setCell ⟨g, 1, none⟩ (.int .u64 y1)).setCell ⟨g, 0, none⟩ (.int .u64 y2) := by
 by_cases ha : a < 0
 ·have f1 := e1.out ha
  by_cases hb : b < 0
  ·have f2 := e2.out hb
   go_enter Tryd.func80, Tryd.ntmps80
   go_wp2_with fail
   refine (C1.out _).mono ?_
   rintro e w' ⟨rfl, rfl⟩
   go_wp2
   go_end0
   exact ⟨rfl, rfl⟩
  ·obtain rfl := e2'.out hb
   go_enter Tryd.func80, Tryd.ntmps80
   go_wp2_with fail
   refine (C1.out _).mono ?_
   rintro e w' ⟨rfl, rfl⟩
   go_wp2
   go_end0
   exact ⟨rfl, rfl⟩
 ·obtain rfl := e1'.out ha
  by_cases hb : b < 0
  ·have f2 := e2.out hb
   go_enter Tryd.func80, Tryd.ntmps80
   go_wp2_with fail
   refine (C1.out _).mono ?_
   rintro e w' ⟨rfl, rfl⟩
   go_wp2
   go_end0
   exact ⟨rfl, rfl⟩
  ·obtain rfl := e2'.out hb
   go_enter Tryd.func80, Tryd.ntmps80
   go_wp2_with fail
   refine (C1.out _).mono ?_
   rintro e w' ⟨rfl, rfl⟩
   go_wp2
   go_end0
   exact ⟨rfl, rfl⟩
theorem sgn {X : Int} (h1 : -85070591730234615865843651857942052864 <= X) (h2 : X <= 85070591730234615865843651857942052864) : IntKind.u64.wrap (wrap64 (l1 X) / 9223372036854775808) = l2 X := by
 have hb := l_bd X
 rw [<- sg_eq h1 h2, u64w]
 unfold wrap64
 split <;> omega
theorem hbd {A B : Int} (a0 : 0 <= A) (a1 : A < 18446744073709551616) (b0 : 0 <= B) (b1 : B < 18446744073709551616) : 0 <= A * B / 18446744073709551616 /\ A * B / 18446744073709551616 < 18446744073709551616 := by
 have h1 : A * B <= 18446744073709551615 * B := Int.mul_le_mul_of_nonneg_right (by omega) b0
 have h0 : 0 <= A * B := Int.mul_nonneg a0 b0
 generalize A * B = P at *
 omega
theorem modd (h c d : Int) : ((h - c) % 18446744073709551616 - d) % 18446744073709551616 = (h - c - d) % 18446744073709551616 := by omega
theorem waddG (g : Nat) (V a b : Int) (w : World) (ha1 : -9223372036854775808 <= a) (ha2 : a <= 9223372036854775807) (hb1 : -9223372036854775808 <= b) (hb2 : b <= 9223372036854775807)
  (a0 : w.cell? ⟨g, 0, none⟩ = some (.int .u64 (l2 V))) (a1 : w.cell? ⟨g, 1, none⟩ = some (.int .u64 (l1 V))) (a2 : w.cell? ⟨g, 2, none⟩ = some (.int .u64 (l0 V))) (z0 : w.frozen? ⟨g, 0, none⟩ = false) (z1 : w.frozen? ⟨g, 1, none⟩ = false) (z2 : w.frozen? ⟨g, 2, none⟩ = false) :
  Calls Tryd.prog 80 #[.pointer (some ⟨g, 0, none⟩), .int .i64 a, .int .i64 b] w fun e w' => e = .returned (.tuple #[]) /\ w' = ((w.setCell ⟨g, 2, none⟩ (.int .u64 (l0 (V + a * b)))).setCell ⟨g, 1, none⟩ (.int .u64 (l1 (V + a * b)))).setCell ⟨g, 0, none⟩ (.int .u64 (l2 (V + a * b))) := by
 have hp := prod_bd ha1 ha2 hb1 hb2
 have lo := lo_eq ha1 ha2 hb1 hb2
 have hi := hi_eq ha1 ha2 hb1 hb2
 have bV := l_bd V
 have bX := l_bd (a * b)
 have A0 := l0_add V (a * b)
 have A1 := l1_add V (a * b)
 have A2 := l2_add V (a * b)
 have hS := sgn hp.1 hp.2
 generalize a * b = X at *
 have c0 : addC (l0 V) (l0 X) 0 = (l0 V + l0 X) / 18446744073709551616 := by unfold addC; rw [Int.add_zero]
 have c1 : addC (l1 V) (l1 X) (addC (l0 V) (l0 X) 0) = (l1 V + l1 X + (l0 V + l0 X) / 18446744073709551616) / 18446744073709551616 := by rw [c0]; rfl
 have s0 : addS (l0 V) (l0 X) 0 = l0 (V + X) := by unfold addS; rw [Int.add_zero, A0]
 have s1 : addS (l1 V) (l1 X) (addC (l0 V) (l0 X) 0) = l1 (V + X) := by rw [c0]; unfold addS; rw [A1]
 have s2 : addS (l2 V) (l2 X) (addC (l1 V) (l1 X) (addC (l0 V) (l0 X) 0)) = l2 (V + X) := by rw [c1]; unfold addS; rw [A2]
 have D0 := addG (l0 V) (l0 X) 0 bV.1 bX.1 (by omega)
 have D1 := addG (l1 V) (l1 X) (addC (l0 V) (l0 X) 0) bV.2.1 bX.2.1 (by rw [c0]; omega)
 have D2 := addG (l2 V) (l2 X) (addC (l1 V) (l1 X) (addC (l0 V) (l0 X) 0)) bV.2.2 bX.2.2 (by rw [c1]; omega)
 rw [s0] at D0
 rw [s1] at D1
 rw [s2] at D2
 refine waddT g (l0 V) (l1 V) (l2 V) a b (a % 18446744073709551616) (b % 18446744073709551616) (a % 18446744073709551616 * (b % 18446744073709551616) / 18446744073709551616)
  ((a % 18446744073709551616 * (b % 18446744073709551616) / 18446744073709551616 - (if a < 0 then b % 18446744073709551616 else 0)) % 18446744073709551616) (l1 X) (l0 X) w (u64w a) (u64w b) (Lib.hid ?_) (Lib.hid ?_) (Lib.hid ?_) (Lib.hid ?_) (Lib.hid ?_) a0 a1 a2 z0 z1 z2 _ _ _ _ _ _ _ hS D0 D1 D2
 ·intro w
  rw [<- lo]
  exact mulG _ _ ⟨Int.emod_nonneg _ (by decide), Int.emod_lt_of_pos _ (by decide)⟩ ⟨Int.emod_nonneg _ (by decide), Int.emod_lt_of_pos _ (by decide)⟩ w
 ·intro h
  rw [u64w, if_pos h]
 ·intro h
  have hh := hbd (A := a % 18446744073709551616) (B := b % 18446744073709551616) (Int.emod_nonneg _ (by decide)) (Int.emod_lt_of_pos _ (by decide)) (Int.emod_nonneg _ (by decide)) (Int.emod_lt_of_pos _ (by decide))
  rw [if_neg h, Int.sub_zero, Int.emod_eq_of_lt hh.1 hh.2]
 ·intro h
  rw [u64w, <- hi, if_pos h, modd]
 ·intro h
  rw [<- hi, if_neg h, Int.sub_zero]
set_option maxRecDepth 100000 in
set_option maxHeartbeats 8000000 in
theorem wfitT (g : Nat) (x0 x1 x2 S : Int) (q1 q2 : Bool) (w : World) (hS : IntKind.u64.wrap (wrap64 x0 / 9223372036854775808) = S) (h1 : (x1 == S) = q1) (h2 : (x2 == S) = q2)
  (a0 : w.cell? ⟨g, 0, none⟩ = some (.int .u64 x2)) (a1 : w.cell? ⟨g, 1, none⟩ = some (.int .u64 x1)) (a2 : w.cell? ⟨g, 2, none⟩ = some (.int .u64 x0)) :
  Calls Tryd.prog 83 #[.pointer (some ⟨g, 0, none⟩)] w fun e w' => e = .returned (.bool (q1 && q2)) /\ ∃ n, w' = w.drewN n := by
 cases q1 <;> cases q2
 all_goals
  go_enter Tryd.func83, Tryd.ntmps83
  go_wp2
  go_ret
  first | exact ⟨rfl, 0, rfl⟩ | exact ⟨rfl, 1, rfl⟩
end Go.Proofs.YtbicmlkjonaccaaDoor.Ln
