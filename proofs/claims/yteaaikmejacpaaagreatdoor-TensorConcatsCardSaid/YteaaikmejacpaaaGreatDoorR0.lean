/- Steps through a region that draws its order: an operation is taken by its place, be it carried out or left out by its guard. -/
import Derived.Test.YteaaikmejacpaaaGreatDoorRows
import Derived.WalkKit
import Derived.ProofKit
import Derived.OpenShut
import Derived.WalkLawsBesides
import Derived.WalkSpells
import Derived.Outline
import Derived.Handy
import Derived.Deep.QuietTactic
import Derived.BigQuiet
import Derived.Lib.Hide
import Derived.Deep.RegionHeld3

namespace Go.Proofs.YteaaikmejacpaaaGreatDoor.Rg
open Go.ChangeShapes Go.WideShapes Go.ChangeAt Go.RowKit
set_option linter.unusedVariables false
set_option linter.unusedSimpArgs false

section
variable {P : Program} {ops : Array Oper} {Q : Exit -> Act -> World -> Prop} {md : Region.Mode} {S : World -> Prop}
theorem at_of {i : Nat} {oi : Oper} (h : ops.toList[i]? = some oi) : ops[i]? = some oi := by rw [<- Array.getElem?_toList]; exact h
/-- An operation that is carried out, or left out, first. -/
theorem take {i : Nat} {oi : Oper} {v : Value} {fuel : Nat} {listed : Array Bool} {a : Act} {w : World} (hi : ops.toList[i]? = some oi)
  (hs : Region.noSelect ops = true) (hf : Region.free md ops listed i = true) (hr : (Region.ready md ops listed).contains i = true)
  (hQ : ∀ c a w, Q (.panic c) (a.put oi.dst v) w -> Q (.panic c) a w) (hy : YieldsIf P ops S oi v a) (hS : S w)
  (h : wpAnyH P md ops Q S fuel (listed.setIfInBounds i true) (a.put oi.dst v) w) : wpAnyH P md ops Q S (fuel + 1) listed a w :=
 wpAnyH_take (at_of hi) hs hf hr hQ hy hS h
/-- The one operation that may come up. -/
theorem one {i : Nat} {o : Oper} {fuel : Nat} {listed : Array Bool} {a : Act} {w : World} (hr : Region.ready md ops listed = [i]) (ho : ops.toList[i]? = some o)
  (h : ∀ K' : Act -> World -> Prop, Shut (∀ a w, S w -> (S w -> wpAnyH P md ops Q S fuel (listed.setIfInBounds i true) a w) -> K' a w) -> if Region.wanted o (yielded ops a.tmps) = true then Oper.wp P o a w K' Q else K' (a.put o.dst undef) w) :
  wpAnyH P md ops Q S (fuel + 1) listed a w :=
 wpAnyH_ready hr (by simp) (AllReadyH.cons (at_of ho) h AllReadyH.nil)
end
/-- Two cells of a result, whatever they hold. -/
def RC (r : Nat) (w : World) : Prop := (∃ a, w.cell? ⟨r, 0, none⟩ = some (.int .i64 a)) /\ (∃ b, w.cell? ⟨r, 1, none⟩ = some (.int .i64 b)) /\ w.frozen? ⟨r, 0, none⟩ = false /\ w.frozen? ⟨r, 1, none⟩ = false
theorem keep {y y' : World} {b o : Nat} {v : Value} (hy : Below y.heap.size y y') (hb : b < y.heap.size) (h : y.cell? ⟨b, o, none⟩ = some v) : y'.cell? ⟨b, o, none⟩ = some v := (hy.cell (p := ⟨b, o, none⟩) hb).trans h
theorem keepF {y y' : World} {b o : Nat} {v : Bool} (hy : Below y.heap.size y y') (hb : b < y.heap.size) (h : y.frozen? ⟨b, o, none⟩ = v) : y'.frozen? ⟨b, o, none⟩ = v := (hy.frozen (p := ⟨b, o, none⟩) hb).trans h
theorem notFrozen {w : World} {b o : Nat} (h : w.heap.size <= b) : w.frozen? ⟨b, o, none⟩ = false := by
 unfold World.frozen?
 rw [Array.getElem?_eq_none (by simpa using h)]
theorem RC.keep {y y' : World} {r : Nat} (hy : Below y.heap.size y y') (hb : r < y.heap.size) (h : RC r y) : RC r y' := by
 obtain ⟨⟨a, ha⟩, ⟨b, hb'⟩, f, g⟩ := h
 exact ⟨⟨a, Rg.keep hy hb ha⟩, ⟨b, Rg.keep hy hb hb'⟩, keepF hy hb f, keepF hy hb g⟩
theorem RC.store {u : World} {r : Nat} {x y : Int} (h : RC r u) : RC r ((u.setCell ⟨r, 0, none⟩ (.int .i64 x)).setCell ⟨r, 1, none⟩ (.int .i64 y)) := by
 obtain ⟨⟨a, ha⟩, ⟨b, hb⟩, f, g⟩ := h
 have h0 : (u.setCell ⟨r, 0, none⟩ (.int .i64 x)).cell? ⟨r, 0, none⟩ = some (.int .i64 x) := World.cell?_setCell_same _ _ _ ha
 have h1 : (u.setCell ⟨r, 0, none⟩ (.int .i64 x)).cell? ⟨r, 1, none⟩ = some (.int .i64 b) := (World.cell?_setCell_other _ _ _ _ (by simp)).trans hb
 exact ⟨⟨x, (World.cell?_setCell_other _ _ _ _ (by simp)).trans h0⟩, ⟨y, World.cell?_setCell_same _ _ _ h1⟩, by simpa [World.frozen?_setCell] using f, by simpa [World.frozen?_setCell] using g⟩
theorem RC.read0 {u : World} {r : Nat} {x y : Int} (h : RC r u) : ((u.setCell ⟨r, 0, none⟩ (.int .i64 x)).setCell ⟨r, 1, none⟩ (.int .i64 y)).cell? ⟨r, 0, none⟩ = some (.int .i64 x) := by
 obtain ⟨⟨a, ha⟩, _, f, g⟩ := h
 exact (World.cell?_setCell_other _ _ _ _ (by simp)).trans (World.cell?_setCell_same _ _ _ ha)
theorem RC.read00 {u : World} {r : Nat} {x : Int} (h : RC r u) : (u.setCell ⟨r, 0, none⟩ (.int .i64 x)).cell? ⟨r, 0, none⟩ = some (.int .i64 x) := by
 obtain ⟨⟨a, ha⟩, _, f, g⟩ := h
 exact World.cell?_setCell_same _ _ _ ha
theorem RC.read1 {u : World} {r : Nat} {x y : Int} (h : RC r u) : ((u.setCell ⟨r, 0, none⟩ (.int .i64 x)).setCell ⟨r, 1, none⟩ (.int .i64 y)).cell? ⟨r, 1, none⟩ = some (.int .i64 y) := by
 obtain ⟨_, ⟨b, hb⟩, f, g⟩ := h
 have h1 : (u.setCell ⟨r, 0, none⟩ (.int .i64 x)).cell? ⟨r, 1, none⟩ = some (.int .i64 b) := (World.cell?_setCell_other _ _ _ _ (by simp)).trans hb
 exact World.cell?_setCell_same _ _ _ h1
theorem RC.far {u : World} {r b : Nat} {x y : Value} (h : r ≠ b) (hc : RC b u) : RC b ((u.setCell ⟨r, 0, none⟩ x).setCell ⟨r, 1, none⟩ y) := by
 obtain ⟨⟨a, ha⟩, ⟨c, hb⟩, f, g⟩ := hc
 refine ⟨⟨a, ?_⟩, ⟨c, ?_⟩, by simpa [World.frozen?_setCell] using f, by simpa [World.frozen?_setCell] using g⟩
 ·rw [World.cell?_setCell_far _ _ _ _ h, World.cell?_setCell_far _ _ _ _ h]; exact ha
 ·rw [World.cell?_setCell_far _ _ _ _ h, World.cell?_setCell_far _ _ _ _ h]; exact hb
theorem RC.mk {u : World} {r : Nat} {a b : Int} (ha : u.cell? ⟨r, 0, none⟩ = some (.int .i64 a)) (hb : u.cell? ⟨r, 1, none⟩ = some (.int .i64 b)) (f : u.frozen? ⟨r, 0, none⟩ = false) (g : u.frozen? ⟨r, 1, none⟩ = false) : RC r u := ⟨⟨a, ha⟩, ⟨b, hb⟩, f, g⟩
theorem far {u : World} {r b o : Nat} {v x y : Value} (h : r ≠ b) (hc : u.cell? ⟨b, o, none⟩ = some v) : ((u.setCell ⟨r, 0, none⟩ x).setCell ⟨r, 1, none⟩ y).cell? ⟨b, o, none⟩ = some v := by
 rw [World.cell?_setCell_far _ _ _ _ h, World.cell?_setCell_far _ _ _ _ h]
 exact hc
theorem size2 {u : World} {r : Nat} {x y : Value} : ((u.setCell ⟨r, 0, none⟩ x).setCell ⟨r, 1, none⟩ y).heap.size = u.heap.size := by simp
theorem bcell {W w1 : World} (hb : Below W.heap.size W w1) : (∀ b o, b < W.heap.size -> w1.cell? ⟨b, o, none⟩ = W.cell? ⟨b, o, none⟩) /\ (∀ b o, b < W.heap.size -> w1.frozen? ⟨b, o, none⟩ = W.frozen? ⟨b, o, none⟩) :=
 ⟨fun b o h => hb.cell (p := ⟨b, o, none⟩) h, fun b o h => hb.frozen (p := ⟨b, o, none⟩) h⟩
end Go.Proofs.YteaaikmejacpaaaGreatDoor.Rg


namespace Go.Proofs.YteaaikmejacpaaaGreatDoor.Rk
open Go.ChangeShapes Go.WideShapes Go.ChangeAt Go.RowKit
set_option linter.unusedVariables false
set_option linter.unusedSimpArgs false

section
variable {P : Program} {ops : Array Oper} {Q : Exit -> Act -> World -> Prop} {md : Region.Mode} {S : World -> Prop} {K : Nat}
/-- Operation K has not come up. -/
def Un (K : Nat) (listed : Array Bool) : Prop := listed.getD K true = false
/-- Whatever order is picked, S holds as long as operation K has not come up. -/
def wpK (P : Program) (md : Region.Mode) (ops : Array Oper) (Q : Exit -> Act -> World -> Prop) (S : World -> Prop) (K : Nat) : Nat -> Array Bool -> Act -> World -> Prop
 | 0, listed, a, w => Region.ready md ops listed = [] /\ Q .normal a w
 | fuel + 1, listed, a, w =>
  (Region.ready md ops listed = [] -> Q .normal a w) /\
  ∀ i ∈ Region.ready md ops listed, wpOp P ops Q i (fun a' w' => (Un K (listed.setIfInBounds i true) -> S w') /\ wpK P md ops Q S K fuel (listed.setIfInBounds i true) a' w') a w
theorem wpAny_of : ∀ (fuel : Nat) (listed : Array Bool) (a : Act) (w : World), wpK P md ops Q S K fuel listed a w -> wpAny P md ops Q fuel listed a w
 | 0, _, _, _, h => h
 | fuel + 1, _, _, _, h => ⟨h.1, fun i hi => wpOp_mono (fun a' w' h' => wpAny_of fuel _ a' w' h'.2) (h.2 i hi)⟩
def waits (md : Region.Mode) (ops : Array Oper) (j i : Nat) : Bool :=
 match ops.toList[j]? with
 | some o => o.after.any fun e => Region.binds md e && e.on == i
 | none => false
/-- None of them has come up, and each waits for the one before it. -/
def chain (md : Region.Mode) (ops : Array Oper) (listed : Array Bool) : List Nat -> Bool
 | [] => true
 | [i] => !(listed.getD i true)
 | i :: j :: r => !(listed.getD i true) && waits md ops j i && chain md ops listed (j :: r)
theorem waits_ready {i j : Nat} {listed : Array Bool} (h : waits md ops j i = true) (hu : listed.getD i true = false) : j ∉ Region.ready md ops listed := by
 intro hj
 obtain ⟨_, o, ho, hall⟩ := mem_ready.1 hj
 unfold waits at h
 rw [Array.getElem?_toList, ho] at h
 simp only at h
 rw [Array.any_eq_true] at h
 obtain ⟨k, hk, he⟩ := h
 rw [Bool.and_eq_true, beq_iff_eq] at he
 have := hall _ (Array.getElem_mem hk) he.1
 rw [he.2] at this
 rcases Nat.lt_or_ge i listed.size with h' | h'
 ·simp [h'] at hu this; rw [hu] at this; cases this
 ·simp [Array.getElem?_eq_none h'] at hu
theorem chain_step {j : Nat} {listed : Array Bool} (hj : j ∈ Region.ready md ops listed) : ∀ (i : Nat) (cs : List Nat), j ≠ i -> chain md ops listed (i :: cs) = true -> chain md ops (listed.setIfInBounds j true) (i :: cs) = true
 | i, [], hne, h => by
  unfold chain at h ⊢
  rw [Bool.not_eq_true'] at h ⊢
  rw [getD_set_ne true hne]; exact h
 | i, c :: r, hne, h => by
  unfold chain at h ⊢
  rw [Bool.and_eq_true, Bool.and_eq_true, Bool.not_eq_true'] at h ⊢
  obtain ⟨⟨h1, h2⟩, h3⟩ := h
  have hc : j ≠ c := fun he => waits_ready h2 h1 (he ▸ hj)
  exact ⟨⟨by rw [getD_set_ne true hne]; exact h1, h2⟩, chain_step hj c r hc h3⟩
theorem chain_un {listed : Array Bool} : ∀ (i : Nat) (cs : List Nat), chain md ops listed (i :: cs) = true -> ∀ c ∈ i :: cs, Un c listed
 | i, [], h, c, hc => by
  rw [List.mem_singleton] at hc
  subst hc
  unfold chain at h
  unfold Un
  simpa using h
 | i, d :: r, h, c, hc => by
  unfold chain at h
  rw [Bool.and_eq_true, Bool.and_eq_true, Bool.not_eq_true'] at h
  rcases List.mem_cons.1 hc with rfl | hc
  ·exact h.1.1
  ·exact chain_un d r h.2 c hc
theorem not_on {i : Nat} {listed : Array Bool} {oj : Oper} (hr : i ∈ Region.ready md ops listed) (hall : ∀ e ∈ oj.after, Region.binds md e = true -> listed.getD e.on false = true) : ∀ e ∈ oj.after, Region.binds md e = true -> e.on ≠ i := fun e he hb heq => by
 have h1 := hall e he hb
 have h0 := (mem_ready.1 hr).1
 rw [heq] at h1
 rcases Nat.lt_or_ge i listed.size with h' | h'
 ·simp [h'] at h0 h1; rw [h0] at h1; cases h1
 ·simp [Array.getElem?_eq_none h'] at h0
theorem first {i : Nat} {oi : Oper} {v : Value} {cs : List Nat} (hi : ops[i]? = some oi) (hsel : ∀ (j : Nat) (o : Oper) cs b, ops[j]? = some o -> o.op ≠ .select cs b)
  (hT : K ∈ cs) (hiK : i ≠ K)
  (hQ : ∀ c a w, Q (.panic c) (a.put oi.dst v) w -> Q (.panic c) a w) :
  ∀ (fuel : Nat) (listed : Array Bool) (a : Act) (w : World), chain md ops listed (i :: cs) = true ->
   (∀ j oj, ops[j]? = some oj -> j ≠ i -> listed.getD j true = false -> (∀ e ∈ oj.after, Region.binds md e = true -> e.on ≠ i) -> oi.apart ops oj = true) ->
   i ∈ Region.ready md ops listed -> YieldsIf P ops S oi v a -> S w ->
   wpK P md ops Q S K fuel (listed.setIfInBounds i true) (a.put oi.dst v) w -> wpK P md ops Q S K (fuel + 1) listed a w := by
 intro fuel
 induction fuel with
 | zero =>
  intro listed a w _ _ hr hy hS H
  refine ⟨fun h => (by rw [h] at hr; cases hr), fun j hj => ?_⟩
  by_cases hji : j = i
  ·subst hji; exact hy.wpOp hi hS ⟨fun _ => hS, H⟩
  ·have := ready_mono hj hji
   rw [H.1] at this
   cases this
 | succ fuel ih =>
  intro listed a w hc hfree hr hy hS H
  refine ⟨fun h => (by rw [h] at hr; cases hr), fun j hj => ?_⟩
  by_cases hji : j = i
  ·subst hji; exact hy.wpOp hi hS ⟨fun _ => hS, H⟩
  ·have hc2 := chain_step hj i cs hji hc
   have h1 := H.2 j (ready_mono hj hji)
   obtain ⟨hjun, oj, hoj, hall⟩ := mem_ready.1 hj
   have h2 := wpOp_putIf hoj (hfree j oj hoj hji hjun (not_on hr hall)) (fun cs b => hsel i oi cs b hi) (fun cs b => hsel j oj cs b hoj) hQ hy h1
   have hfree' : ∀ k ok, ops[k]? = some ok -> k ≠ i -> (listed.setIfInBounds j true).getD k true = false ->
     (∀ e ∈ ok.after, Region.binds md e = true -> e.on ≠ i) -> oi.apart ops ok = true := fun k ok hk hki hun hno => by
    refine hfree k ok hk hki ?_ hno
    by_cases hjk : j = k
    ·subst hjk; exact hjun
    ·rw [getD_set_ne true hjk] at hun; exact hun
   have hUn : Un K (listed.setIfInBounds j true) := chain_un i cs hc2 K (List.mem_cons_of_mem _ hT)
   have hst : i ≠ K -> Un K ((listed.setIfInBounds i true).setIfInBounds j true) := fun hne => by
    rw [Array.setIfInBounds_comm _ _ (Ne.symm hji)]
    unfold Un at hUn ⊢
    rw [getD_set_ne true hne]
    exact hUn
   refine wpOp_mono (fun a' w' h3 => ?_) h2
   have hSw := h3.2.1 (hst hiK)
   refine ⟨fun _ => hSw, ih (listed.setIfInBounds j true) a' w' hc2 hfree' (ready_mono hr (Ne.symm hji)) h3.1 hSw ?_⟩
   rw [Array.setIfInBounds_comm _ _ hji]
   exact h3.2.2
/-- One that yields in whatever world. -/
theorem firstP {i : Nat} {oi : Oper} {v : Value} (hi : ops[i]? = some oi) (hsel : ∀ (j : Nat) (o : Oper) cs b, ops[j]? = some o -> o.op ≠ .select cs b)
  (hiK : i ≠ K) (hQ : ∀ c a w, Q (.panic c) (a.put oi.dst v) w -> Q (.panic c) a w) :
  ∀ (fuel : Nat) (listed : Array Bool) (a : Act) (w : World),
   (∀ j oj, ops[j]? = some oj -> j ≠ i -> listed.getD j true = false -> (∀ e ∈ oj.after, Region.binds md e = true -> e.on ≠ i) -> oi.apart ops oj = true) ->
   i ∈ Region.ready md ops listed -> YieldsIf P ops (fun _ => True) oi v a -> (Un K listed -> S w) ->
   wpK P md ops Q S K fuel (listed.setIfInBounds i true) (a.put oi.dst v) w -> wpK P md ops Q S K (fuel + 1) listed a w := by
 have hset : ∀ listed : Array Bool, Un K (listed.setIfInBounds i true) ↔ Un K listed := fun l => by
  unfold Un
  rw [getD_set_ne true hiK]
 intro fuel
 induction fuel with
 | zero =>
  intro listed a w _ hr hy hS H
  refine ⟨fun h => (by rw [h] at hr; cases hr), fun j hj => ?_⟩
  by_cases hji : j = i
  ·subst hji; exact hy.wpOp hi trivial ⟨fun hu => hS ((hset _).1 hu), H⟩
  ·have := ready_mono hj hji
   rw [H.1] at this
   cases this
 | succ fuel ih =>
  intro listed a w hfree hr hy hS H
  refine ⟨fun h => (by rw [h] at hr; cases hr), fun j hj => ?_⟩
  by_cases hji : j = i
  ·subst hji; exact hy.wpOp hi trivial ⟨fun hu => hS ((hset _).1 hu), H⟩
  ·have h1 := H.2 j (ready_mono hj hji)
   obtain ⟨hjun, oj, hoj, hall⟩ := mem_ready.1 hj
   have h2 := wpOp_putIf hoj (hfree j oj hoj hji hjun (not_on hr hall)) (fun cs b => hsel i oi cs b hi) (fun cs b => hsel j oj cs b hoj) hQ hy h1
   have hfree' : ∀ k ok, ops[k]? = some ok -> k ≠ i -> (listed.setIfInBounds j true).getD k true = false ->
     (∀ e ∈ ok.after, Region.binds md e = true -> e.on ≠ i) -> oi.apart ops ok = true := fun k ok hk hki hun hno => by
    refine hfree k ok hk hki ?_ hno
    by_cases hjk : j = k
    ·subst hjk; exact hjun
    ·rw [getD_set_ne true hjk] at hun; exact hun
   refine wpOp_mono (fun a' w' h3 => ?_) h2
   have hSw : Un K (listed.setIfInBounds j true) -> S w' := fun hu => h3.2.1 (by
    rw [Array.setIfInBounds_comm _ _ (Ne.symm hji)]
    exact (hset _).2 hu)
   refine ⟨hSw, ih (listed.setIfInBounds j true) a' w' hfree' (ready_mono hr (Ne.symm hji)) h3.1 hSw ?_⟩
   rw [Array.setIfInBounds_comm _ _ hji]
   exact h3.2.2
/-- An operation that is carried out, or left out, first. -/
theorem take (cs : List Nat) {i : Nat} {oi : Oper} {v : Value} {fuel : Nat} {listed : Array Bool} {a : Act} {w : World} (hi : ops.toList[i]? = some oi)
  (hs : Region.noSelect ops = true) (hf : Region.free md ops listed i = true) (hr : (Region.ready md ops listed).contains i = true)
  (hc : chain md ops listed (i :: cs) = true) (hT : (cs.contains K && !(i == K)) = true)
  (hQ : ∀ c a w, Q (.panic c) (a.put oi.dst v) w -> Q (.panic c) a w) (hy : YieldsIf P ops S oi v a) (hS : S w)
  (h : wpK P md ops Q S K fuel (listed.setIfInBounds i true) (a.put oi.dst v) w) : wpK P md ops Q S K (fuel + 1) listed a w :=
 have hi' : ops[i]? = some oi := by rw [<- Array.getElem?_toList]; exact hi
 have hT' : K ∈ cs /\ i ≠ K := by simpa using hT
 first hi' (Region.noSelect_spec hs) hT'.1 hT'.2 hQ fuel listed a w hc (Region.free_spec hi' hf) (by simpa using hr) hy hS h
theorem takeP {i : Nat} {oi : Oper} {v : Value} {fuel : Nat} {listed : Array Bool} {a : Act} {w : World} (hi : ops.toList[i]? = some oi)
  (hs : Region.noSelect ops = true) (hf : Region.free md ops listed i = true) (hr : (Region.ready md ops listed).contains i = true) (hT : (i == K) = false)
  (hQ : ∀ c a w, Q (.panic c) (a.put oi.dst v) w -> Q (.panic c) a w) (hy : YieldsIf P ops (fun _ => True) oi v a) (hS : S w)
  (h : wpK P md ops Q S K fuel (listed.setIfInBounds i true) (a.put oi.dst v) w) : wpK P md ops Q S K (fuel + 1) listed a w :=
 have hi' : ops[i]? = some oi := by rw [<- Array.getElem?_toList]; exact hi
 firstP hi' (Region.noSelect_spec hs) (by simpa using hT) hQ fuel listed a w (Region.free_spec hi' hf) (by simpa using hr) hy (fun _ => hS) h
/-- The one operation that may come up. -/
theorem one {i : Nat} {o : Oper} {fuel : Nat} {listed : Array Bool} {a : Act} {w : World} (hr : Region.ready md ops listed = [i]) (ho : ops.toList[i]? = some o)
  (h : ∀ K' : Act -> World -> Prop, Shut (∀ a w, S w -> (S w -> wpK P md ops Q S K fuel (listed.setIfInBounds i true) a w) -> K' a w) -> if Region.wanted o (yielded ops a.tmps) = true then Oper.wp P o a w K' Q else K' (a.put o.dst undef) w) :
  wpK P md ops Q S K (fuel + 1) listed a w := by
 have ho' : ops[i]? = some o := by rw [<- Array.getElem?_toList]; exact ho
 refine ⟨fun h0 => (by rw [hr] at h0; cases h0), fun j hj => ?_⟩
 rw [hr, List.mem_singleton] at hj
 subst hj
 exact wpOp_step ho' (fun K' hK => h K' (fun a w hS hW => hK a w ⟨fun _ => hS, hW hS⟩))
/-- One of two comes up. -/
theorem two {i j : Nat} {o o' : Oper} {fuel : Nat} {listed : Array Bool} {a : Act} {w : World} (hr : Region.ready md ops listed = [i, j]) (ho : ops.toList[i]? = some o) (ho' : ops.toList[j]? = some o')
  (h : ∀ K' : Act -> World -> Prop, Shut (∀ a w, S w -> (S w -> wpK P md ops Q S K fuel (listed.setIfInBounds i true) a w) -> K' a w) -> if Region.wanted o (yielded ops a.tmps) = true then Oper.wp P o a w K' Q else K' (a.put o.dst undef) w)
  (h' : ∀ K' : Act -> World -> Prop, Shut (∀ a w, S w -> (S w -> wpK P md ops Q S K fuel (listed.setIfInBounds j true) a w) -> K' a w) -> if Region.wanted o' (yielded ops a.tmps) = true then Oper.wp P o' a w K' Q else K' (a.put o'.dst undef) w) :
  wpK P md ops Q S K (fuel + 1) listed a w := by
 have ho1 : ops[i]? = some o := by rw [<- Array.getElem?_toList]; exact ho
 have ho2 : ops[j]? = some o' := by rw [<- Array.getElem?_toList]; exact ho'
 refine ⟨fun h0 => (by rw [hr] at h0; cases h0), fun k hk => ?_⟩
 rw [hr, List.mem_cons, List.mem_singleton] at hk
 rcases hk with rfl | rfl
 ·exact wpOp_step ho1 (fun K' hK => h K' (fun a w hS hW => hK a w ⟨fun _ => hS, hW hS⟩))
 ·exact wpOp_step ho2 (fun K' hK => h' K' (fun a w hS hW => hK a w ⟨fun _ => hS, hW hS⟩))
/-- The operations that are left come up in this order. -/
def forced (md : Region.Mode) (ops : Array Oper) : Array Bool -> List Nat -> Bool
 | listed, [] => (Region.ready md ops listed).isEmpty
 | listed, i :: r => (Region.ready md ops listed == [i]) && forced md ops (listed.setIfInBounds i true) r
theorem set_self (l : Array Bool) (k : Nat) : (l.setIfInBounds k true).getD k true = true := by
 rcases Nat.lt_or_ge k l.size with h | h <;> simp [h]
theorem not_un {l : Array Bool} {k : Nat} (j : Nat) (h : ¬ Un k l) : ¬ Un k (l.setIfInBounds j true) := by
 unfold Un at h ⊢
 by_cases hj : j = k
 ·subst hj; rw [set_self]; decide
 ·rw [getD_set_ne true hj]; exact h
theorem rest : ∀ (l : List Nat) (os : List Oper) (fuel : Nat) (listed : Array Bool) (a : Act) (w : World), (∀ i, l.head? = some i -> ¬ Un K (listed.setIfInBounds i true)) -> forced md ops listed l = true -> l.map (fun i => ops.toList[i]?) = os.map some -> l.length <= fuel ->
  wpList P ops Q os a w -> wpK P md ops Q S K fuel listed a w
 | [], os, fuel, listed, a, w, _, hf, hm, _, h => by
  obtain rfl : os = [] := by cases os with | nil => rfl | cons => simp at hm
  unfold forced at hf
  have hr : Region.ready md ops listed = [] := by simpa using hf
  cases fuel with
  | zero => exact ⟨hr, h⟩
  | succ n => exact ⟨fun _ => h, by rw [hr]; simp⟩
 | i :: l, os, fuel, listed, a, w, hs, hf, hm, hl, h => by
  cases fuel with
  | zero => simp at hl
  | succ fuel =>
   cases os with
   | nil => simp at hm
   | cons o os =>
    have hs1 := hs i rfl
    unfold forced at hf
    rw [Bool.and_eq_true, beq_iff_eq] at hf
    rw [List.map_cons, List.map_cons, List.cons.injEq] at hm
    have ho : ops[i]? = some o := by rw [<- Array.getElem?_toList]; exact hm.1
    refine ⟨fun h0 => (by rw [hf.1] at h0; cases h0), fun j hj => ?_⟩
    rw [hf.1, List.mem_singleton] at hj
    subst hj
    unfold wpList at h
    unfold wpOp
    simp only [ho]
    have go : ∀ a' w', wpList P ops Q os a' w' -> (Un K (listed.setIfInBounds j true) -> S w') /\ wpK P md ops Q S K fuel (listed.setIfInBounds j true) a' w' := fun a' w' h' =>
     ⟨fun hn => absurd hn hs1, rest l os fuel _ a' w' (fun k _ => not_un k hs1) hf.2 hm.2 (by simpa using hl) h'⟩
    by_cases hw : Region.wanted o (yielded ops a.tmps) = true
    ·simp only [hw, if_true] at h ⊢
     rcases h with h | h
     ·exact .inl (Oper.wp_mono go h)
     ·exact .inr h
    ·simp only [hw] at h ⊢
     exact go _ _ h
/-- From operation K on the rest comes up in this order: it is walked as it stands. -/
theorem tail (l : List Nat) (os : List Oper) {fuel : Nat} {listed : Array Bool} {a : Act} {w : World} (hs : (l.head? == some K) = true) (hf : forced md ops listed l = true) (hm : l.map (fun i => ops.toList[i]?) = os.map some) (hl : l.length <= fuel)
  (h : wpList P ops Q os a w) : wpK P md ops Q S K fuel listed a w := by
 refine rest l os fuel listed a w (fun i hi => ?_) hf hm hl h
 rw [beq_iff_eq, hi] at hs
 injection hs with hs
 subst hs
 unfold Un
 rw [set_self]
 decide
theorem done {fuel : Nat} {listed : Array Bool} {a : Act} {w : World} (hr : Region.ready md ops listed = []) (h : Q .normal a w) : wpK P md ops Q S K fuel listed a w := by
 cases fuel with
 | zero => exact ⟨hr, h⟩
 | succ n => exact ⟨fun _ => h, by rw [hr]; simp⟩
/-- The beginning: S is shown of the world behind the draw, once, and handed on. -/
theorem begin {id : Nat} {a : Act} {w : World} (K : Nat) (hm : P.follows .mixedOrders = true) (hS : S w.drew)
  (h : S w.drew -> wpK P .any ops Q S K ops.size (Array.replicate ops.size false) a w.drew) : (Code.region id ops true).wp P Q a w :=
 wp_region_any hm (wpAny_of _ _ _ _ (h hS))
end
end Go.Proofs.YteaaikmejacpaaaGreatDoor.Rk


namespace Go.Proofs.YteaaikmejacpaaaGreatDoor.SqR
open Go.ChangeShapes Go.WideShapes Go.ChangeAt Go.RowKit
set_option linter.unusedVariables false
section
variable {P : Program} {ops : Array Oper} {Q : Exit → Act → World → Prop} {md : Region.Mode} {S : World → Prop} {K : Nat}
theorem p (i : Nat) {oi : Oper} {v : Value} {fuel : Nat} {listed : Array Bool} {a a' : Act} {w : World} (h : Rk.wpK P md ops Q S K fuel (listed.setIfInBounds i true) a' w)
    (hi : ops.toList[i]? = some oi := by rfl) (hs : Region.noSelect ops = true := by kernel_rfl) (hf : Region.free md ops listed i = true := by kernel_rfl) (hr : (Region.ready md ops listed).contains i = true := by kernel_rfl) (hT : (i == K) = false := by kernel_rfl)
    (hQ : ∀ c a w, Q (.panic c) (a.put oi.dst v) w → Q (.panic c) a w := by exact fun _ _ _ h => h) (hy : YieldsIf P ops (fun _ => True) oi v a := by exact Or.inl ⟨by kernel_rfl, by ((intro w hSw; go_simp) <;> with_reducible rfl)⟩) (hS : S w := by assumption)
    (ha : a.put oi.dst v = a' := by (try simp only [Act.put, List.setIfInBounds_toArray, List.set_cons_zero, List.set_cons_succ]) <;> rfl) : Rk.wpK P md ops Q S K (fuel + 1) listed a w :=
  Rk.takeP hi hs hf hr hT hQ hy hS (by rw [ha]; exact h)
theorem l (cs : List Nat) (i : Nat) {oi : Oper} {v : Value} {fuel : Nat} {listed : Array Bool} {a a' : Act} {w : World} (h : Rk.wpK P md ops Q S K fuel (listed.setIfInBounds i true) a' w)
    (hi : ops.toList[i]? = some oi := by rfl) (hs : Region.noSelect ops = true := by kernel_rfl) (hf : Region.free md ops listed i = true := by kernel_rfl) (hr : (Region.ready md ops listed).contains i = true := by kernel_rfl) (hc : Rk.chain md ops listed (i :: cs) = true := by kernel_rfl) (hT : (cs.contains K && !(i == K)) = true := by kernel_rfl)
    (hQ : ∀ c a w, Q (.panic c) (a.put oi.dst v) w → Q (.panic c) a w := by exact fun _ _ _ h => h) (hy : YieldsIf P ops S oi v a := by exact Or.inl ⟨by kernel_rfl, by ((intro w hSw; (try dsimp only at hSw); go_simp) <;> with_reducible rfl)⟩) (hS : S w := by assumption)
    (ha : a.put oi.dst v = a' := by (try simp only [Act.put, List.setIfInBounds_toArray, List.set_cons_zero, List.set_cons_succ]) <;> rfl) : Rk.wpK P md ops Q S K (fuel + 1) listed a w :=
  Rk.take cs hi hs hf hr hc hT hQ hy hS (by rw [ha]; exact h)
theorem g (i : Nat) {oi : Oper} {v : Value} {fuel : Nat} {listed : Array Bool} {a a' : Act} {w : World} (h : wpAnyH P md ops Q S fuel (listed.setIfInBounds i true) a' w)
    (hi : ops.toList[i]? = some oi := by rfl) (hs : Region.noSelect ops = true := by kernel_rfl) (hf : Region.free md ops listed i = true := by kernel_rfl) (hr : (Region.ready md ops listed).contains i = true := by kernel_rfl)
    (hQ : ∀ c a w, Q (.panic c) (a.put oi.dst v) w → Q (.panic c) a w := by exact fun _ _ _ h => h) (hy : YieldsIf P ops S oi v a := by exact Or.inl ⟨by kernel_rfl, by ((intro w hSw; (try dsimp only at hSw); go_simp) <;> with_reducible rfl)⟩) (hS : S w := by assumption)
    (ha : a.put oi.dst v = a' := by (try simp only [Act.put, List.setIfInBounds_toArray, List.set_cons_zero, List.set_cons_succ]) <;> rfl) : wpAnyH P md ops Q S (fuel + 1) listed a w :=
  Rg.take hi hs hf hr hQ hy hS (by rw [ha]; exact h)
end
end Go.Proofs.YteaaikmejacpaaaGreatDoor.SqR


namespace Go.Proofs.YteaaikmejacpaaaGreatDoor.SqB
open Go.ChangeShapes Go.WideShapes Go.ChangeAt Go.RowKit
set_option linter.unusedVariables false
theorem dn {w w' : World} (h : Below w.heap.size w w') (n : Nat) : Below w.heap.size w (w'.drewN n) := h.trans ⟨rfl, rfl, rfl, Nat.le_refl _, fun _ _ => rfl⟩
theorem b {w W : World} (h : Below w.heap.size w W := by (repeat' (first | (with_reducible exact Below.refl _ _) | (with_reducible assumption) | (with_reducible refine Below.alloc ?_ ?_ _) | (with_reducible refine Below.setCell ?_ ?_ _) | (with_reducible refine Go.Proofs.YteaaikmejacpaaaGreatDoor.SqB.dn ?_ _) | (simp; done) | omega | (simp; omega)))) : Below w.heap.size w W := h
theorem t {w W w1 : World} (hb : Below W.heap.size W w1) (h : Below w.heap.size w W := by exact Go.Proofs.YteaaikmejacpaaaGreatDoor.SqB.b) : Below w.heap.size w w1 := h.trans (hb.mono h.size)
theorem z {B x : Nat} {W w1 : World} (hb : Below B W w1) (h : x < W.heap.size := by first | (simp; done) | omega | (simp; omega)) : x < w1.heap.size := Nat.lt_of_lt_of_le h hb.size
theorem n {x y : Nat} (h : x < y) : x < y ∧ x < y + 1 ∧ x ≠ y ∧ y ≠ x := ⟨h, Nat.lt_succ_of_lt h, Nat.ne_of_lt h, Nat.ne_of_gt h⟩
end Go.Proofs.YteaaikmejacpaaaGreatDoor.SqB


namespace Go.Proofs.YteaaikmejacpaaaGreatDoor.Fr
open Go.ChangeShapes Go.WideShapes Go.ChangeAt Go.RowKit
set_option linter.unusedVariables false
set_option linter.unusedSimpArgs false
theorem gcd_step (a b : Int) (ha : 0 <= a) (hb : 0 < b) : Int.gcd b (a % b) = Int.gcd a b := by
 have h : (a % b).natAbs = a.natAbs % b.natAbs := by
  have h1 := Int.emod_nonneg a (by omega : b ≠ 0)
  have h2 : ((a % b).natAbs : Int) = ((a.natAbs % b.natAbs : Nat) : Int) := by
   rw [Int.natAbs_of_nonneg h1, Int.natCast_emod, Int.natAbs_of_nonneg ha, Int.natAbs_of_nonneg (by omega)]
  exact_mod_cast h2
 unfold Int.gcd
 rw [h, Nat.gcd_comm b.natAbs, <- Nat.gcd_rec, Nat.gcd_comm]
theorem gcd_done (a : Int) (ha : 0 <= a) : ((Int.gcd a 0 : Nat) : Int) = a := by
 rw [Int.gcd_zero_right]; omega
def Val1 (k : IntKind) (g : Int) (w : World) (e : Ending) (w' : World) : Prop := e = .returned (.int k g) /\ ∃ n, w' = w.drewN n
theorem val1_end {k : IntKind} {g a : Int} {w : World} (n : Nat) (h : a = g) : Val1 k g w (.returned (.int k a)) (w.drewN n) := ⟨by rw [h], n, rfl⟩
def vld (n d : Int) : Bool := decide (1 <= d /\ d <= 2147483647 /\ -2147483647 <= n /\ n <= 2147483647 /\ Int.gcd n d = 1)
theorem vld_in {n d : Int} (h1 : 1 <= d) (h2 : d <= 2147483647) (h3 : -2147483647 <= n) (h4 : n <= 2147483647) : vld n d = (((Int.gcd n d : Nat) : Int) == 1) := by
 unfold vld
 rw [Bool.eq_iff_iff]
 simp only [decide_eq_true_eq, beq_iff_eq]
 constructor
 ·intro h; omega
 ·intro h; exact ⟨h1, h2, h3, h4, by omega⟩
theorem vld_out {n d : Int} (h : d < 1 \/ 2147483647 < d \/ n < -2147483647 \/ 2147483647 < n) : vld n d = false := by
 unfold vld
 rw [decide_eq_false_iff_not]
 omega
theorem gcd_abs (n d : Int) : Int.gcd (-n) d = Int.gcd n d := Int.neg_gcd

/-- What a call of a function that makes memory leaves: the answer, and everything that was there. -/
def Ret (v : Value) (w : World) (e : Ending) (w' : World) : Prop := e = .returned v /\ Below w.heap.size w w'
theorem bcell {W w1 : World} (hb : Below W.heap.size W w1) : (∀ b o, b < W.heap.size -> w1.cell? ⟨b, o, none⟩ = W.cell? ⟨b, o, none⟩) /\ (∀ b o, b < W.heap.size -> w1.frozen? ⟨b, o, none⟩ = W.frozen? ⟨b, o, none⟩) :=
 ⟨fun b o h => hb.cell (p := ⟨b, o, none⟩) h, fun b o h => hb.frozen (p := ⟨b, o, none⟩) h⟩
set_option maxHeartbeats 1000000 in
theorem fgcd (x y : Int) (w : World) (x0 : 0 <= x) (x1 : x <= 9223372036854775808) (y0 : 0 <= y) (y1 : y <= 9223372036854775808) :
  Calls Tryz.prog 109 #[.int .u64 x, .int .u64 y] w (Val1 .u64 (Int.gcd x y) w) := by
 go_enter Tryz.func109, Tryz.ntmps109
 go_wp2
 go_loopw [0, 1] (fun a b wr => ∃ p q : Int, a = .int .u64 p /\ b = .int .u64 q /\ 0 <= p /\ p <= 9223372036854775808 /\ 0 <= q /\ q <= 9223372036854775808 /\ Int.gcd p q = Int.gcd x y /\ ∃ n, wr = w.drewN n) (fun _ b _ => (intOf b).toNat)
 case atStart => exact ⟨x, y, rfl, rfl, x0, x1, y0, y1, rfl, 0, rfl⟩
 case round =>
  obtain ⟨p, q, rfl, rfl, p0, p1, q0, q1, hg, n, rfl⟩ := hrel
  have HG := Lib.hid hg
  clear hg
  by_cases hq : q = 0
  ·subst hq
   go_wp2
   go_ret
   exact val1_end _ (by rw [<- HG.out, gcd_done _ p0])
  ·have hq1 : (q != 0) = true := by simpa using hq
   have hq2 : (q == 0) = false := by simpa using hq
   have hq3 : 0 < q := by omega
   have hm := Int.emod_nonneg p hq
   have hl := Int.emod_lt_of_pos p hq3
   clear hq
   go_wp2
   go_quiet (fail)
   go_wp2
   go_roundw
   case rel => exact ⟨q, p % q, rfl, rfl, by omega, by omega, by omega, by omega, by rw [gcd_step _ _ p0 hq3, HG.out], n + nq, by rw [World.drewN_drewN]⟩
   case measure => simp [intOf]; omega
set_option maxHeartbeats 1000000 in
theorem bgcd (x y : Int) (w : World) (x0 : 0 <= x) (x1 : x <= 9223372036854775807) (y0 : 0 <= y) (y1 : y <= 9223372036854775807) :
  Calls Tryz.prog 88 #[.int .i64 x, .int .i64 y] w (Val1 .i64 (Int.gcd x y) w) := by
 go_enter Tryz.func88, Tryz.ntmps88
 go_wp2
 go_loopw [0, 1] (fun a b wr => ∃ p q : Int, a = .int .i64 p /\ b = .int .i64 q /\ 0 <= p /\ p <= 9223372036854775807 /\ 0 <= q /\ q <= 9223372036854775807 /\ Int.gcd p q = Int.gcd x y /\ ∃ n, wr = w.drewN n) (fun _ b _ => (intOf b).toNat)
 case atStart => exact ⟨x, y, rfl, rfl, x0, x1, y0, y1, rfl, 0, rfl⟩
 case round =>
  obtain ⟨p, q, rfl, rfl, p0, p1, q0, q1, hg, n, rfl⟩ := hrel
  have HG := Lib.hid hg
  clear hg
  by_cases hq : q = 0
  ·subst hq
   go_wp2
   go_ret
   exact val1_end _ (by rw [<- HG.out, gcd_done _ p0])
  ·have hq1 : (q != 0) = true := by simpa using hq
   have hq2 : (q == 0) = false := by simpa using hq
   have hq3 : 0 < q := by omega
   have hm := Int.emod_nonneg p hq
   have hl := Int.emod_lt_of_pos p hq3
   clear hq
   go_wp2
   go_quiet (fail)
   go_wp2
   go_roundw
   case rel => exact ⟨q, p % q, rfl, rfl, by omega, by omega, by omega, by omega, by rw [gcd_step _ _ p0 hq3, HG.out], n + nq, by rw [World.drewN_drewN]⟩
   case measure => simp [intOf]; omega
theorem fmag_neg (n : Int) (w : World) (h : n < 0) (h' : -9223372036854775808 <= n) :
  Calls Tryz.prog 110 #[.int .i64 n] w fun e w' => e = .returned (.int .u64 (-n)) /\ w = w' := by
 have e : IntKind.u64.wrap (-IntKind.u64.wrap n) = -n := by go_arith
 go_enter Tryz.func110, Tryz.ntmps110
 go_wp2
 go_ret
 exact ⟨rfl, rfl⟩
theorem fmag_pos (n : Int) (w : World) (h : 0 <= n) (h' : n <= 9223372036854775807) :
  Calls Tryz.prog 110 #[.int .i64 n] w fun e w' => e = .returned (.int .u64 n) /\ w = w' := by
 go_enter Tryz.func110, Tryz.ntmps110
 go_wp2
 go_ret
 exact ⟨rfl, rfl⟩
end Go.Proofs.YteaaikmejacpaaaGreatDoor.Fr


namespace Go.Proofs.YteaaikmejacpaaaGreatDoor.Fx
open Go.ChangeShapes Go.WideShapes Go.ChangeAt Go.RowKit
open Fr
set_option linter.unusedVariables false
set_option linter.unusedSimpArgs false

/-- The fixed-point types. -/
def tv (K B F R O : Int) : Bool := decide (K = 2 /\ 2 <= B /\ B <= 31 /\ 0 <= F /\ F <= 30 /\ 1 <= R /\ R <= 4 /\ (O = 1 \/ O = 2))
theorem tv_parts {K B F R O : Int} (h : tv K B F R O = true) : K = 2 /\ 2 <= B /\ B <= 31 /\ 0 <= F /\ F <= 30 /\ 1 <= R /\ R <= 4 /\ (O = 1 \/ O = 2) := by
 unfold tv at h; exact of_decide_eq_true h
theorem tv_cases {K B F R O : Int} (h : tv K B F R O = false) : K ≠ 2 \/ (K = 2 /\ B < 2) \/ (K = 2 /\ 2 <= B /\ 31 < B) \/ (K = 2 /\ 2 <= B /\ B <= 31 /\ F < 0) \/ (K = 2 /\ 2 <= B /\ B <= 31 /\ 0 <= F /\ 30 < F) \/
  (K = 2 /\ 2 <= B /\ B <= 31 /\ 0 <= F /\ F <= 30 /\ R < 1) \/ (K = 2 /\ 2 <= B /\ B <= 31 /\ 0 <= F /\ F <= 30 /\ 1 <= R /\ 4 < R) \/ (K = 2 /\ 2 <= B /\ B <= 31 /\ 0 <= F /\ F <= 30 /\ 1 <= R /\ R <= 4 /\ O ≠ 1 /\ O ≠ 2) := by
 unfold tv at h
 have := of_decide_eq_false h
 omega
set_option maxHeartbeats 4000000 in
theorem vt_bad (K B F R O : Int) (w : World) (h : tv K B F R O = false) : Calls Tryz.prog 81 #[.agg #[.int .i64 K, .int .i64 B, .int .i64 F, .int .i64 R, .int .i64 O]] w (Ret (.int .i64 10) w) := by
 rcases tv_cases h with h | h | h | h | h | h | h | h
 ·have K2a : (K == 2) = false := by simp <;> omega
  have K2b : (K != 2) = true := by simp <;> omega
  clear h
  go_enter Tryz.func81, Tryz.ntmps81
  go_wp2
  go_ret
  exact ⟨rfl, by go_grown⟩
 ·have K2a : (K == 2) = true := by simp <;> omega
  have K2b : (K != 2) = false := by simp <;> omega
  have B0a : decide (2 <= B) = false := by simp <;> omega
  have B0b : decide (B < 2) = true := by simp <;> omega
  clear h
  go_enter Tryz.func81, Tryz.ntmps81
  go_wp2
  go_ret
  exact ⟨rfl, by go_grown⟩
 ·have K2a : (K == 2) = true := by simp <;> omega
  have K2b : (K != 2) = false := by simp <;> omega
  have B0a : decide (2 <= B) = true := by simp <;> omega
  have B0b : decide (B < 2) = false := by simp <;> omega
  have B1a : decide (B <= 31) = false := by simp <;> omega
  have B1b : decide (31 < B) = true := by simp <;> omega
  clear h
  go_enter Tryz.func81, Tryz.ntmps81
  go_wp2
  go_ret
  exact ⟨rfl, by go_grown⟩
 ·have K2a : (K == 2) = true := by simp <;> omega
  have K2b : (K != 2) = false := by simp <;> omega
  have B0a : decide (2 <= B) = true := by simp <;> omega
  have B0b : decide (B < 2) = false := by simp <;> omega
  have B1a : decide (B <= 31) = true := by simp <;> omega
  have B1b : decide (31 < B) = false := by simp <;> omega
  have F0a : decide (0 <= F) = false := by simp <;> omega
  have F0b : decide (F < 0) = true := by simp <;> omega
  clear h
  go_enter Tryz.func81, Tryz.ntmps81
  go_wp2
  go_ret
  exact ⟨rfl, by go_grown⟩
 ·have K2a : (K == 2) = true := by simp <;> omega
  have K2b : (K != 2) = false := by simp <;> omega
  have B0a : decide (2 <= B) = true := by simp <;> omega
  have B0b : decide (B < 2) = false := by simp <;> omega
  have B1a : decide (B <= 31) = true := by simp <;> omega
  have B1b : decide (31 < B) = false := by simp <;> omega
  have F0a : decide (0 <= F) = true := by simp <;> omega
  have F0b : decide (F < 0) = false := by simp <;> omega
  have F1a : decide (F <= 30) = false := by simp <;> omega
  have F1b : decide (30 < F) = true := by simp <;> omega
  clear h
  go_enter Tryz.func81, Tryz.ntmps81
  go_wp2
  go_ret
  exact ⟨rfl, by go_grown⟩
 ·have K2a : (K == 2) = true := by simp <;> omega
  have K2b : (K != 2) = false := by simp <;> omega
  have B0a : decide (2 <= B) = true := by simp <;> omega
  have B0b : decide (B < 2) = false := by simp <;> omega
  have B1a : decide (B <= 31) = true := by simp <;> omega
  have B1b : decide (31 < B) = false := by simp <;> omega
  have F0a : decide (0 <= F) = true := by simp <;> omega
  have F0b : decide (F < 0) = false := by simp <;> omega
  have F1a : decide (F <= 30) = true := by simp <;> omega
  have F1b : decide (30 < F) = false := by simp <;> omega
  have R0a : decide (1 <= R) = false := by simp <;> omega
  have R0b : decide (R < 1) = true := by simp <;> omega
  clear h
  go_enter Tryz.func81, Tryz.ntmps81
  go_wp2
  go_ret
  exact ⟨rfl, by go_grown⟩
 ·have K2a : (K == 2) = true := by simp <;> omega
  have K2b : (K != 2) = false := by simp <;> omega
  have B0a : decide (2 <= B) = true := by simp <;> omega
  have B0b : decide (B < 2) = false := by simp <;> omega
  have B1a : decide (B <= 31) = true := by simp <;> omega
  have B1b : decide (31 < B) = false := by simp <;> omega
  have F0a : decide (0 <= F) = true := by simp <;> omega
  have F0b : decide (F < 0) = false := by simp <;> omega
  have F1a : decide (F <= 30) = true := by simp <;> omega
  have F1b : decide (30 < F) = false := by simp <;> omega
  have R0a : decide (1 <= R) = true := by simp <;> omega
  have R0b : decide (R < 1) = false := by simp <;> omega
  have R1a : decide (R <= 4) = false := by simp <;> omega
  have R1b : decide (4 < R) = true := by simp <;> omega
  clear h
  go_enter Tryz.func81, Tryz.ntmps81
  go_wp2
  go_ret
  exact ⟨rfl, by go_grown⟩
 ·have K2a : (K == 2) = true := by simp <;> omega
  have K2b : (K != 2) = false := by simp <;> omega
  have B0a : decide (2 <= B) = true := by simp <;> omega
  have B0b : decide (B < 2) = false := by simp <;> omega
  have B1a : decide (B <= 31) = true := by simp <;> omega
  have B1b : decide (31 < B) = false := by simp <;> omega
  have F0a : decide (0 <= F) = true := by simp <;> omega
  have F0b : decide (F < 0) = false := by simp <;> omega
  have F1a : decide (F <= 30) = true := by simp <;> omega
  have F1b : decide (30 < F) = false := by simp <;> omega
  have R0a : decide (1 <= R) = true := by simp <;> omega
  have R0b : decide (R < 1) = false := by simp <;> omega
  have R1a : decide (R <= 4) = true := by simp <;> omega
  have R1b : decide (4 < R) = false := by simp <;> omega
  have O1a : (O == 1) = false := by simp <;> omega
  have O1b : (O != 1) = true := by simp <;> omega
  have O2a : (O == 2) = false := by simp <;> omega
  have O2b : (O != 2) = true := by simp <;> omega
  clear h
  go_enter Tryz.func81, Tryz.ntmps81
  go_wp2
  go_ret
  exact ⟨rfl, by go_grown⟩
set_option maxHeartbeats 4000000 in
theorem vt_ok (K B F R O : Int) (w : World) (h : tv K B F R O = true) : Calls Tryz.prog 81 #[.agg #[.int .i64 K, .int .i64 B, .int .i64 F, .int .i64 R, .int .i64 O]] w (Ret (.int .i64 0) w) := by
 obtain ⟨h1, h2, h3, h4, h5, h6, h7, h8⟩ := tv_parts h
 rcases h8 with h8 | h8
 ·have K2a : (K == 2) = true := by simp <;> omega
  have K2b : (K != 2) = false := by simp <;> omega
  have B0a : decide (2 <= B) = true := by simp <;> omega
  have B0b : decide (B < 2) = false := by simp <;> omega
  have B1a : decide (B <= 31) = true := by simp <;> omega
  have B1b : decide (31 < B) = false := by simp <;> omega
  have F0a : decide (0 <= F) = true := by simp <;> omega
  have F0b : decide (F < 0) = false := by simp <;> omega
  have F1a : decide (F <= 30) = true := by simp <;> omega
  have F1b : decide (30 < F) = false := by simp <;> omega
  have R0a : decide (1 <= R) = true := by simp <;> omega
  have R0b : decide (R < 1) = false := by simp <;> omega
  have R1a : decide (R <= 4) = true := by simp <;> omega
  have R1b : decide (4 < R) = false := by simp <;> omega
  have O1a : (O == 1) = true := by simp <;> omega
  have O1b : (O != 1) = false := by simp <;> omega
  have O2a : (O == 2) = false := by simp <;> omega
  have O2b : (O != 2) = true := by simp <;> omega
  clear h h1 h2 h3 h4 h5 h6 h7 h8
  go_enter Tryz.func81, Tryz.ntmps81
  go_wp2
  go_ret
  exact ⟨rfl, by go_grown⟩
 ·have K2a : (K == 2) = true := by simp <;> omega
  have K2b : (K != 2) = false := by simp <;> omega
  have B0a : decide (2 <= B) = true := by simp <;> omega
  have B0b : decide (B < 2) = false := by simp <;> omega
  have B1a : decide (B <= 31) = true := by simp <;> omega
  have B1b : decide (31 < B) = false := by simp <;> omega
  have F0a : decide (0 <= F) = true := by simp <;> omega
  have F0b : decide (F < 0) = false := by simp <;> omega
  have F1a : decide (F <= 30) = true := by simp <;> omega
  have F1b : decide (30 < F) = false := by simp <;> omega
  have R0a : decide (1 <= R) = true := by simp <;> omega
  have R0b : decide (R < 1) = false := by simp <;> omega
  have R1a : decide (R <= 4) = true := by simp <;> omega
  have R1b : decide (4 < R) = false := by simp <;> omega
  have O1a : (O == 1) = false := by simp <;> omega
  have O1b : (O != 1) = true := by simp <;> omega
  have O2a : (O == 2) = true := by simp <;> omega
  have O2b : (O != 2) = false := by simp <;> omega
  clear h h1 h2 h3 h4 h5 h6 h7 h8
  go_enter Tryz.func81, Tryz.ntmps81
  go_wp2
  go_ret
  exact ⟨rfl, by go_grown⟩
set_option maxHeartbeats 4000000 in
theorem bt_bad (K B F R O : Int) (w : World) (h : tv K B F R O = false) (hk : K = 2) : Calls Tryz.prog 52 #[.agg #[.int .i64 K, .int .i64 B, .int .i64 F, .int .i64 R, .int .i64 O]] w (Ret (.bool false) w) := by
 rcases tv_cases h with h | h | h | h | h | h | h | h
 ·exact absurd hk h
 ·have K2a : (K == 2) = true := by simp <;> omega
  have K1a : (K == 1) = false := by simp <;> omega
  have K3a : (K == 3) = false := by simp <;> omega
  have K2b : (K != 2) = false := by simp <;> omega
  have B0a : decide (2 <= B) = false := by simp <;> omega
  have B0b : decide (B < 2) = true := by simp <;> omega
  clear h
  go_enter Tryz.func52, Tryz.ntmps52
  go_wp2
  go_ret
  exact ⟨rfl, by go_grown⟩
 ·have K2a : (K == 2) = true := by simp <;> omega
  have K1a : (K == 1) = false := by simp <;> omega
  have K3a : (K == 3) = false := by simp <;> omega
  have K2b : (K != 2) = false := by simp <;> omega
  have B0a : decide (2 <= B) = true := by simp <;> omega
  have B0b : decide (B < 2) = false := by simp <;> omega
  have B1a : decide (B <= 31) = false := by simp <;> omega
  have B1b : decide (31 < B) = true := by simp <;> omega
  clear h
  go_enter Tryz.func52, Tryz.ntmps52
  go_wp2
  go_ret
  exact ⟨rfl, by go_grown⟩
 ·have K2a : (K == 2) = true := by simp <;> omega
  have K1a : (K == 1) = false := by simp <;> omega
  have K3a : (K == 3) = false := by simp <;> omega
  have K2b : (K != 2) = false := by simp <;> omega
  have B0a : decide (2 <= B) = true := by simp <;> omega
  have B0b : decide (B < 2) = false := by simp <;> omega
  have B1a : decide (B <= 31) = true := by simp <;> omega
  have B1b : decide (31 < B) = false := by simp <;> omega
  have F0a : decide (0 <= F) = false := by simp <;> omega
  have F0b : decide (F < 0) = true := by simp <;> omega
  clear h
  go_enter Tryz.func52, Tryz.ntmps52
  go_wp2
  go_ret
  exact ⟨rfl, by go_grown⟩
 ·have K2a : (K == 2) = true := by simp <;> omega
  have K1a : (K == 1) = false := by simp <;> omega
  have K3a : (K == 3) = false := by simp <;> omega
  have K2b : (K != 2) = false := by simp <;> omega
  have B0a : decide (2 <= B) = true := by simp <;> omega
  have B0b : decide (B < 2) = false := by simp <;> omega
  have B1a : decide (B <= 31) = true := by simp <;> omega
  have B1b : decide (31 < B) = false := by simp <;> omega
  have F0a : decide (0 <= F) = true := by simp <;> omega
  have F0b : decide (F < 0) = false := by simp <;> omega
  have F1a : decide (F <= 30) = false := by simp <;> omega
  have F1b : decide (30 < F) = true := by simp <;> omega
  clear h
  go_enter Tryz.func52, Tryz.ntmps52
  go_wp2
  go_ret
  exact ⟨rfl, by go_grown⟩
 ·have K2a : (K == 2) = true := by simp <;> omega
  have K1a : (K == 1) = false := by simp <;> omega
  have K3a : (K == 3) = false := by simp <;> omega
  have K2b : (K != 2) = false := by simp <;> omega
  have B0a : decide (2 <= B) = true := by simp <;> omega
  have B0b : decide (B < 2) = false := by simp <;> omega
  have B1a : decide (B <= 31) = true := by simp <;> omega
  have B1b : decide (31 < B) = false := by simp <;> omega
  have F0a : decide (0 <= F) = true := by simp <;> omega
  have F0b : decide (F < 0) = false := by simp <;> omega
  have F1a : decide (F <= 30) = true := by simp <;> omega
  have F1b : decide (30 < F) = false := by simp <;> omega
  have R0a : decide (1 <= R) = false := by simp <;> omega
  have R0b : decide (R < 1) = true := by simp <;> omega
  clear h
  go_enter Tryz.func52, Tryz.ntmps52
  go_wp2
  go_ret
  exact ⟨rfl, by go_grown⟩
 ·have K2a : (K == 2) = true := by simp <;> omega
  have K1a : (K == 1) = false := by simp <;> omega
  have K3a : (K == 3) = false := by simp <;> omega
  have K2b : (K != 2) = false := by simp <;> omega
  have B0a : decide (2 <= B) = true := by simp <;> omega
  have B0b : decide (B < 2) = false := by simp <;> omega
  have B1a : decide (B <= 31) = true := by simp <;> omega
  have B1b : decide (31 < B) = false := by simp <;> omega
  have F0a : decide (0 <= F) = true := by simp <;> omega
  have F0b : decide (F < 0) = false := by simp <;> omega
  have F1a : decide (F <= 30) = true := by simp <;> omega
  have F1b : decide (30 < F) = false := by simp <;> omega
  have R0a : decide (1 <= R) = true := by simp <;> omega
  have R0b : decide (R < 1) = false := by simp <;> omega
  have R1a : decide (R <= 4) = false := by simp <;> omega
  have R1b : decide (4 < R) = true := by simp <;> omega
  clear h
  go_enter Tryz.func52, Tryz.ntmps52
  go_wp2
  go_ret
  exact ⟨rfl, by go_grown⟩
 ·have K2a : (K == 2) = true := by simp <;> omega
  have K1a : (K == 1) = false := by simp <;> omega
  have K3a : (K == 3) = false := by simp <;> omega
  have K2b : (K != 2) = false := by simp <;> omega
  have B0a : decide (2 <= B) = true := by simp <;> omega
  have B0b : decide (B < 2) = false := by simp <;> omega
  have B1a : decide (B <= 31) = true := by simp <;> omega
  have B1b : decide (31 < B) = false := by simp <;> omega
  have F0a : decide (0 <= F) = true := by simp <;> omega
  have F0b : decide (F < 0) = false := by simp <;> omega
  have F1a : decide (F <= 30) = true := by simp <;> omega
  have F1b : decide (30 < F) = false := by simp <;> omega
  have R0a : decide (1 <= R) = true := by simp <;> omega
  have R0b : decide (R < 1) = false := by simp <;> omega
  have R1a : decide (R <= 4) = true := by simp <;> omega
  have R1b : decide (4 < R) = false := by simp <;> omega
  have O1a : (O == 1) = false := by simp <;> omega
  have O1b : (O != 1) = true := by simp <;> omega
  have O2a : (O == 2) = false := by simp <;> omega
  have O2b : (O != 2) = true := by simp <;> omega
  clear h
  go_enter Tryz.func52, Tryz.ntmps52
  go_wp2
  go_ret
  exact ⟨rfl, by go_grown⟩
set_option maxHeartbeats 4000000 in
theorem bt_ok (K B F R O : Int) (w : World) (h : tv K B F R O = true) : Calls Tryz.prog 52 #[.agg #[.int .i64 K, .int .i64 B, .int .i64 F, .int .i64 R, .int .i64 O]] w (Ret (.bool true) w) := by
 obtain ⟨h1, h2, h3, h4, h5, h6, h7, h8⟩ := tv_parts h
 rcases h8 with h8 | h8
 ·have K2a : (K == 2) = true := by simp <;> omega
  have K1a : (K == 1) = false := by simp <;> omega
  have K3a : (K == 3) = false := by simp <;> omega
  have K2b : (K != 2) = false := by simp <;> omega
  have B0a : decide (2 <= B) = true := by simp <;> omega
  have B0b : decide (B < 2) = false := by simp <;> omega
  have B1a : decide (B <= 31) = true := by simp <;> omega
  have B1b : decide (31 < B) = false := by simp <;> omega
  have F0a : decide (0 <= F) = true := by simp <;> omega
  have F0b : decide (F < 0) = false := by simp <;> omega
  have F1a : decide (F <= 30) = true := by simp <;> omega
  have F1b : decide (30 < F) = false := by simp <;> omega
  have R0a : decide (1 <= R) = true := by simp <;> omega
  have R0b : decide (R < 1) = false := by simp <;> omega
  have R1a : decide (R <= 4) = true := by simp <;> omega
  have R1b : decide (4 < R) = false := by simp <;> omega
  have O1a : (O == 1) = true := by simp <;> omega
  have O1b : (O != 1) = false := by simp <;> omega
  have O2a : (O == 2) = false := by simp <;> omega
  have O2b : (O != 2) = true := by simp <;> omega
  clear h h1 h2 h3 h4 h5 h6 h7 h8
  go_enter Tryz.func52, Tryz.ntmps52
  go_wp2
  go_ret
  exact ⟨rfl, by go_grown⟩
 ·have K2a : (K == 2) = true := by simp <;> omega
  have K1a : (K == 1) = false := by simp <;> omega
  have K3a : (K == 3) = false := by simp <;> omega
  have K2b : (K != 2) = false := by simp <;> omega
  have B0a : decide (2 <= B) = true := by simp <;> omega
  have B0b : decide (B < 2) = false := by simp <;> omega
  have B1a : decide (B <= 31) = true := by simp <;> omega
  have B1b : decide (31 < B) = false := by simp <;> omega
  have F0a : decide (0 <= F) = true := by simp <;> omega
  have F0b : decide (F < 0) = false := by simp <;> omega
  have F1a : decide (F <= 30) = true := by simp <;> omega
  have F1b : decide (30 < F) = false := by simp <;> omega
  have R0a : decide (1 <= R) = true := by simp <;> omega
  have R0b : decide (R < 1) = false := by simp <;> omega
  have R1a : decide (R <= 4) = true := by simp <;> omega
  have R1b : decide (4 < R) = false := by simp <;> omega
  have O1a : (O == 1) = false := by simp <;> omega
  have O1b : (O != 1) = true := by simp <;> omega
  have O2a : (O == 2) = true := by simp <;> omega
  have O2b : (O != 2) = false := by simp <;> omega
  clear h h1 h2 h3 h4 h5 h6 h7 h8
  go_enter Tryz.func52, Tryz.ntmps52
  go_wp2
  go_ret
  exact ⟨rfl, by go_grown⟩
end Go.Proofs.YteaaikmejacpaaaGreatDoor.Fx


namespace Go.Proofs.YteaaikmejacpaaaGreatDoor.Nx
open Go.ChangeShapes Go.WideShapes Go.ChangeAt Go.RowKit
set_option linter.unusedVariables false
set_option linter.unusedSimpArgs false
def half (bits : Int) : Int := 2 ^ (bits.toNat - 1)
def full (bits : Int) : Int := 2 ^ bits.toNat
def mnv (bits : Int) : Int := if bits < 2 \/ 31 < bits then 0 else - half bits
def mxv (bits : Int) : Int := if bits < 2 \/ 31 < bits then 0 else half bits - 1
def nbad (bits over : Int) : Prop := (bits < 2 \/ 31 < bits) \/ (over ≠ 1 /\ over ≠ 2)
instance (bits over : Int) : Decidable (nbad bits over) := by unfold nbad; infer_instance
def nv (n bits over : Int) : Int :=
 if nbad bits over then 0 else if n < - half bits then (if over = 1 then - half bits else (n + half bits) % full bits - half bits)
 else if half bits - 1 < n then (if over = 1 then half bits - 1 else (n + half bits) % full bits - half bits) else n
def nb (n bits over : Int) : Bool :=
 if nbad bits over then false else decide (n < - half bits \/ half bits - 1 < n)
theorem tmod_neg (n m : Int) (hn : n < 0) (hm : 0 < m) : n.tmod m = -((-n) % m) := by
 rw [<- Int.tmod_eq_emod_of_nonneg (by omega : 0 <= -n), Int.neg_tmod, Int.neg_neg]
theorem widths (bits : Int) (h : 2 <= bits) (h' : bits <= 31) : (bits = 2 /\ half bits = 2 /\ full bits = 4) \/ (bits = 3 /\ half bits = 4 /\ full bits = 8) \/ (bits = 4 /\ half bits = 8 /\ full bits = 16) \/ (bits = 5 /\ half bits = 16 /\ full bits = 32) \/ (bits = 6 /\ half bits = 32 /\ full bits = 64) \/ (bits = 7 /\ half bits = 64 /\ full bits = 128) \/ (bits = 8 /\ half bits = 128 /\ full bits = 256) \/ (bits = 9 /\ half bits = 256 /\ full bits = 512) \/ (bits = 10 /\ half bits = 512 /\ full bits = 1024) \/ (bits = 11 /\ half bits = 1024 /\ full bits = 2048) \/ (bits = 12 /\ half bits = 2048 /\ full bits = 4096) \/ (bits = 13 /\ half bits = 4096 /\ full bits = 8192) \/ (bits = 14 /\ half bits = 8192 /\ full bits = 16384) \/ (bits = 15 /\ half bits = 16384 /\ full bits = 32768) \/ (bits = 16 /\ half bits = 32768 /\ full bits = 65536) \/ (bits = 17 /\ half bits = 65536 /\ full bits = 131072) \/ (bits = 18 /\ half bits = 131072 /\ full bits = 262144) \/ (bits = 19 /\ half bits = 262144 /\ full bits = 524288) \/ (bits = 20 /\ half bits = 524288 /\ full bits = 1048576) \/ (bits = 21 /\ half bits = 1048576 /\ full bits = 2097152) \/ (bits = 22 /\ half bits = 2097152 /\ full bits = 4194304) \/ (bits = 23 /\ half bits = 4194304 /\ full bits = 8388608) \/ (bits = 24 /\ half bits = 8388608 /\ full bits = 16777216) \/ (bits = 25 /\ half bits = 16777216 /\ full bits = 33554432) \/ (bits = 26 /\ half bits = 33554432 /\ full bits = 67108864) \/ (bits = 27 /\ half bits = 67108864 /\ full bits = 134217728) \/ (bits = 28 /\ half bits = 134217728 /\ full bits = 268435456) \/ (bits = 29 /\ half bits = 268435456 /\ full bits = 536870912) \/ (bits = 30 /\ half bits = 536870912 /\ full bits = 1073741824) \/ (bits = 31 /\ half bits = 1073741824 /\ full bits = 2147483648) := by
 rcases (by omega : bits = 2 \/ bits = 3 \/ bits = 4 \/ bits = 5 \/ bits = 6 \/ bits = 7 \/ bits = 8 \/ bits = 9 \/ bits = 10 \/ bits = 11 \/ bits = 12 \/ bits = 13 \/ bits = 14 \/ bits = 15 \/ bits = 16 \/ bits = 17 \/ bits = 18 \/ bits = 19 \/ bits = 20 \/ bits = 21 \/ bits = 22 \/ bits = 23 \/ bits = 24 \/ bits = 25 \/ bits = 26 \/ bits = 27 \/ bits = 28 \/ bits = 29 \/ bits = 30 \/ bits = 31) with rfl | rfl | rfl | rfl | rfl | rfl | rfl | rfl | rfl | rfl | rfl | rfl | rfl | rfl | rfl | rfl | rfl | rfl | rfl | rfl | rfl | rfl | rfl | rfl | rfl | rfl | rfl | rfl | rfl | rfl
 all_goals simp [half, full]
theorem ret2v {k : IntKind} {a b : Int} {x y : Bool} (h : a = b) (h' : x = y) : Ending.returned (.tuple #[.int k a, .bool x]) = .returned (.tuple #[.int k b, .bool y]) := by rw [h, h']
theorem ret1 {k : IntKind} {a b : Int} (h : a = b) : Ending.returned (.int k a) = .returned (.int k b) := by rw [h]
set_option maxHeartbeats 4000000 in
theorem min_any (bits : Int) (w : World) (h0 : -9223372036854775808 <= bits) (h1 : bits <= 9223372036854775807) :
  Calls Tryz.prog 111 #[.int .i64 bits] w fun e w' => e = .returned (.int .i64 (mnv bits)) /\ w = w' := by
 by_cases hb : bits < 2 \/ 31 < bits
 ·rw [show mnv bits = 0 from by unfold mnv; rw [if_pos hb]]
  rcases hb with hb | hb
  ·have k1 : decide (2 <= bits) = false := by simp; omega
   have k2 : decide (bits < 2) = true := by simp; omega
   go_enter Tryz.func111, Tryz.ntmps111
   go_wp2
   go_ret
   exact ⟨rfl, rfl⟩
  ·have k1 : decide (2 <= bits) = true := by simp; omega
   have k2 : decide (bits < 2) = false := by simp; omega
   have k3 : decide (bits <= 31) = false := by simp; omega
   have k4 : decide (31 < bits) = true := by simp; omega
   go_enter Tryz.func111, Tryz.ntmps111
   go_wp2
   go_ret
   exact ⟨rfl, rfl⟩
 ·have H := Lib.hid (show mnv bits = - half bits from by unfold mnv; rw [if_neg hb])
  rcases widths bits (by omega) (by omega) with ⟨rfl, hh, hf⟩ | ⟨rfl, hh, hf⟩ | ⟨rfl, hh, hf⟩ | ⟨rfl, hh, hf⟩ | ⟨rfl, hh, hf⟩ | ⟨rfl, hh, hf⟩ | ⟨rfl, hh, hf⟩ | ⟨rfl, hh, hf⟩ | ⟨rfl, hh, hf⟩ | ⟨rfl, hh, hf⟩ | ⟨rfl, hh, hf⟩ | ⟨rfl, hh, hf⟩ | ⟨rfl, hh, hf⟩ | ⟨rfl, hh, hf⟩ | ⟨rfl, hh, hf⟩ | ⟨rfl, hh, hf⟩ | ⟨rfl, hh, hf⟩ | ⟨rfl, hh, hf⟩ | ⟨rfl, hh, hf⟩ | ⟨rfl, hh, hf⟩ | ⟨rfl, hh, hf⟩ | ⟨rfl, hh, hf⟩ | ⟨rfl, hh, hf⟩ | ⟨rfl, hh, hf⟩ | ⟨rfl, hh, hf⟩ | ⟨rfl, hh, hf⟩ | ⟨rfl, hh, hf⟩ | ⟨rfl, hh, hf⟩ | ⟨rfl, hh, hf⟩ | ⟨rfl, hh, hf⟩
  all_goals
   rw [hh] at H
   clear hb hh hf
   go_enter Tryz.func111, Tryz.ntmps111
   go_wp2
   go_ret
   exact ⟨ret1 (by have h := H.out; omega), rfl⟩
set_option maxHeartbeats 4000000 in
theorem max_any (bits : Int) (w : World) (h0 : -9223372036854775808 <= bits) (h1 : bits <= 9223372036854775807) :
  Calls Tryz.prog 112 #[.int .i64 bits] w fun e w' => e = .returned (.int .i64 (mxv bits)) /\ w = w' := by
 by_cases hb : bits < 2 \/ 31 < bits
 ·rw [show mxv bits = 0 from by unfold mxv; rw [if_pos hb]]
  rcases hb with hb | hb
  ·have k1 : decide (2 <= bits) = false := by simp; omega
   have k2 : decide (bits < 2) = true := by simp; omega
   go_enter Tryz.func112, Tryz.ntmps112
   go_wp2
   go_ret
   exact ⟨rfl, rfl⟩
  ·have k1 : decide (2 <= bits) = true := by simp; omega
   have k2 : decide (bits < 2) = false := by simp; omega
   have k3 : decide (bits <= 31) = false := by simp; omega
   have k4 : decide (31 < bits) = true := by simp; omega
   go_enter Tryz.func112, Tryz.ntmps112
   go_wp2
   go_ret
   exact ⟨rfl, rfl⟩
 ·have H := Lib.hid (show mxv bits = half bits - 1 from by unfold mxv; rw [if_neg hb])
  rcases widths bits (by omega) (by omega) with ⟨rfl, hh, hf⟩ | ⟨rfl, hh, hf⟩ | ⟨rfl, hh, hf⟩ | ⟨rfl, hh, hf⟩ | ⟨rfl, hh, hf⟩ | ⟨rfl, hh, hf⟩ | ⟨rfl, hh, hf⟩ | ⟨rfl, hh, hf⟩ | ⟨rfl, hh, hf⟩ | ⟨rfl, hh, hf⟩ | ⟨rfl, hh, hf⟩ | ⟨rfl, hh, hf⟩ | ⟨rfl, hh, hf⟩ | ⟨rfl, hh, hf⟩ | ⟨rfl, hh, hf⟩ | ⟨rfl, hh, hf⟩ | ⟨rfl, hh, hf⟩ | ⟨rfl, hh, hf⟩ | ⟨rfl, hh, hf⟩ | ⟨rfl, hh, hf⟩ | ⟨rfl, hh, hf⟩ | ⟨rfl, hh, hf⟩ | ⟨rfl, hh, hf⟩ | ⟨rfl, hh, hf⟩ | ⟨rfl, hh, hf⟩ | ⟨rfl, hh, hf⟩ | ⟨rfl, hh, hf⟩ | ⟨rfl, hh, hf⟩ | ⟨rfl, hh, hf⟩ | ⟨rfl, hh, hf⟩
  all_goals
   rw [hh] at H
   clear hb hh hf
   go_enter Tryz.func112, Tryz.ntmps112
   go_wp2
   go_ret
   exact ⟨ret1 (by have h := H.out; omega), rfl⟩
end Go.Proofs.YteaaikmejacpaaaGreatDoor.Nx
