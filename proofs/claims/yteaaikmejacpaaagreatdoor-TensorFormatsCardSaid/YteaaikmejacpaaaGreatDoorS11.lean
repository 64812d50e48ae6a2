/- Steps through a region that draws its order and ends in a forced tail: loads and plain operations are taken first, the tail is walked as it stands. -/
import Derived.Test.YteaaikmejacpaaaGreatDoorS0
import Derived.Test.YteaaikmejacpaaaGreatDoorS10
import Derived.Laws.AppendOwn
import Derived.Deep.Onto

namespace Go.Proofs.YteaaikmejacpaaaGreatDoor.Rk
open Go.ChangeShapes Go.WideShapes Go.ChangeAt Go.RowKit
set_option linter.unusedVariables false
set_option linter.unusedSimpArgs false

section
variable {P : Program} {ops : Array Oper} {Q : Exit -> Act -> World -> Prop} {md : Region.Mode} {S : World -> Prop} {K : Nat}
/-- Operation K has not come up. -/
def Un (K : Nat) (listed : Array Bool) : Prop := listed.getD K true = false
/-- Whatever order is picked, S holds as long as operation K has not come up. -/
def wpK (P : Program) (md : Region.Mode) (ops : Array Oper) (Q : Exit -> Act -> World -> Prop) (S : World -> Prop) (K : Nat) : Nat -> Array Bool -> Act -> World -> Prop
 | 0, listed, a, w => Region.ready md ops listed = [] /\ Q .normal a w
 | fuel + 1, listed, a, w =>
  (Region.ready md ops listed = [] -> Q .normal a w) /\
  ∀ i ∈ Region.ready md ops listed, wpOp P ops Q i (fun a' w' => (Un K (listed.setIfInBounds i true) -> S w') /\ wpK P md ops Q S K fuel (listed.setIfInBounds i true) a' w') a w
theorem wpAny_of : ∀ (fuel : Nat) (listed : Array Bool) (a : Act) (w : World), wpK P md ops Q S K fuel listed a w -> wpAny P md ops Q fuel listed a w
 | 0, _, _, _, h => h
 | fuel + 1, _, _, _, h => ⟨h.1, fun i hi => wpOp_mono (fun a' w' h' => wpAny_of fuel _ a' w' h'.2) (h.2 i hi)⟩
def waits (md : Region.Mode) (ops : Array Oper) (j i : Nat) : Bool :=
 match ops.toList[j]? with
 | some o => o.after.any fun e => Region.binds md e && e.on == i
 | none => false
/-- None of them has come up, and each waits for the one before it. -/
def chain (md : Region.Mode) (ops : Array Oper) (listed : Array Bool) : List Nat -> Bool
 | [] => true
 | [i] => !(listed.getD i true)
 | i :: j :: r => !(listed.getD i true) && waits md ops j i && chain md ops listed (j :: r)
theorem waits_ready {i j : Nat} {listed : Array Bool} (h : waits md ops j i = true) (hu : listed.getD i true = false) : j ∉ Region.ready md ops listed := by
 intro hj
 obtain ⟨_, o, ho, hall⟩ := mem_ready.1 hj
 unfold waits at h
 rw [Array.getElem?_toList, ho] at h
 simp only at h
 rw [Array.any_eq_true] at h
 obtain ⟨k, hk, he⟩ := h
 rw [Bool.and_eq_true, beq_iff_eq] at he
 have := hall _ (Array.getElem_mem hk) he.1
 rw [he.2] at this
 rcases Nat.lt_or_ge i listed.size with h' | h'
 ·simp [h'] at hu this; rw [hu] at this; cases this
 ·simp [Array.getElem?_eq_none h'] at hu
theorem chain_step {j : Nat} {listed : Array Bool} (hj : j ∈ Region.ready md ops listed) : ∀ (i : Nat) (cs : List Nat), j ≠ i -> chain md ops listed (i :: cs) = true -> chain md ops (listed.setIfInBounds j true) (i :: cs) = true
 | i, [], hne, h => by
  unfold chain at h ⊢
  rw [Bool.not_eq_true'] at h ⊢
  rw [getD_set_ne true hne]; exact h
 | i, c :: r, hne, h => by
  unfold chain at h ⊢
  rw [Bool.and_eq_true, Bool.and_eq_true, Bool.not_eq_true'] at h ⊢
  obtain ⟨⟨h1, h2⟩, h3⟩ := h
  have hc : j ≠ c := fun he => waits_ready h2 h1 (he ▸ hj)
  exact ⟨⟨by rw [getD_set_ne true hne]; exact h1, h2⟩, chain_step hj c r hc h3⟩
theorem chain_un {listed : Array Bool} : ∀ (i : Nat) (cs : List Nat), chain md ops listed (i :: cs) = true -> ∀ c ∈ i :: cs, Un c listed
 | i, [], h, c, hc => by
  rw [List.mem_singleton] at hc
  subst hc
  unfold chain at h
  unfold Un
  simpa using h
 | i, d :: r, h, c, hc => by
  unfold chain at h
  rw [Bool.and_eq_true, Bool.and_eq_true, Bool.not_eq_true'] at h
  rcases List.mem_cons.1 hc with rfl | hc
  ·exact h.1.1
  ·exact chain_un d r h.2 c hc
theorem not_on {i : Nat} {listed : Array Bool} {oj : Oper} (hr : i ∈ Region.ready md ops listed) (hall : ∀ e ∈ oj.after, Region.binds md e = true -> listed.getD e.on false = true) : ∀ e ∈ oj.after, Region.binds md e = true -> e.on ≠ i := fun e he hb heq => by
 have h1 := hall e he hb
 have h0 := (mem_ready.1 hr).1
 rw [heq] at h1
 rcases Nat.lt_or_ge i listed.size with h' | h'
 ·simp [h'] at h0 h1; rw [h0] at h1; cases h1
 ·simp [Array.getElem?_eq_none h'] at h0
theorem first {i : Nat} {oi : Oper} {v : Value} {cs : List Nat} (hi : ops[i]? = some oi) (hsel : ∀ (j : Nat) (o : Oper) cs b, ops[j]? = some o -> o.op ≠ .select cs b)
  (hT : K ∈ cs) (hiK : i ≠ K)
  (hQ : ∀ c a w, Q (.panic c) (a.put oi.dst v) w -> Q (.panic c) a w) :
  ∀ (fuel : Nat) (listed : Array Bool) (a : Act) (w : World), chain md ops listed (i :: cs) = true ->
   (∀ j oj, ops[j]? = some oj -> j ≠ i -> listed.getD j true = false -> (∀ e ∈ oj.after, Region.binds md e = true -> e.on ≠ i) -> oi.apart ops oj = true) ->
   i ∈ Region.ready md ops listed -> YieldsIf P ops S oi v a -> S w ->
   wpK P md ops Q S K fuel (listed.setIfInBounds i true) (a.put oi.dst v) w -> wpK P md ops Q S K (fuel + 1) listed a w := by
 intro fuel
 induction fuel with
 | zero =>
  intro listed a w _ _ hr hy hS H
  refine ⟨fun h => (by rw [h] at hr; cases hr), fun j hj => ?_⟩
  by_cases hji : j = i
  ·subst hji; exact hy.wpOp hi hS ⟨fun _ => hS, H⟩
  ·have := ready_mono hj hji
   rw [H.1] at this
   cases this
 | succ fuel ih =>
  intro listed a w hc hfree hr hy hS H
  refine ⟨fun h => (by rw [h] at hr; cases hr), fun j hj => ?_⟩
  by_cases hji : j = i
  ·subst hji; exact hy.wpOp hi hS ⟨fun _ => hS, H⟩
  ·have hc2 := chain_step hj i cs hji hc
   have h1 := H.2 j (ready_mono hj hji)
   obtain ⟨hjun, oj, hoj, hall⟩ := mem_ready.1 hj
   have h2 := wpOp_putIf hoj (hfree j oj hoj hji hjun (not_on hr hall)) (fun cs b => hsel i oi cs b hi) (fun cs b => hsel j oj cs b hoj) hQ hy h1
   have hfree' : ∀ k ok, ops[k]? = some ok -> k ≠ i -> (listed.setIfInBounds j true).getD k true = false ->
     (∀ e ∈ ok.after, Region.binds md e = true -> e.on ≠ i) -> oi.apart ops ok = true := fun k ok hk hki hun hno => by
    refine hfree k ok hk hki ?_ hno
    by_cases hjk : j = k
    ·subst hjk; exact hjun
    ·rw [getD_set_ne true hjk] at hun; exact hun
   have hUn : Un K (listed.setIfInBounds j true) := chain_un i cs hc2 K (List.mem_cons_of_mem _ hT)
   have hst : i ≠ K -> Un K ((listed.setIfInBounds i true).setIfInBounds j true) := fun hne => by
    rw [Array.setIfInBounds_comm _ _ (Ne.symm hji)]
    unfold Un at hUn ⊢
    rw [getD_set_ne true hne]
    exact hUn
   refine wpOp_mono (fun a' w' h3 => ?_) h2
   have hSw := h3.2.1 (hst hiK)
   refine ⟨fun _ => hSw, ih (listed.setIfInBounds j true) a' w' hc2 hfree' (ready_mono hr (Ne.symm hji)) h3.1 hSw ?_⟩
   rw [Array.setIfInBounds_comm _ _ hji]
   exact h3.2.2
/-- One that yields in whatever world. -/
theorem firstP {i : Nat} {oi : Oper} {v : Value} (hi : ops[i]? = some oi) (hsel : ∀ (j : Nat) (o : Oper) cs b, ops[j]? = some o -> o.op ≠ .select cs b)
  (hiK : i ≠ K) (hQ : ∀ c a w, Q (.panic c) (a.put oi.dst v) w -> Q (.panic c) a w) :
  ∀ (fuel : Nat) (listed : Array Bool) (a : Act) (w : World),
   (∀ j oj, ops[j]? = some oj -> j ≠ i -> listed.getD j true = false -> (∀ e ∈ oj.after, Region.binds md e = true -> e.on ≠ i) -> oi.apart ops oj = true) ->
   i ∈ Region.ready md ops listed -> YieldsIf P ops (fun _ => True) oi v a -> (Un K listed -> S w) ->
   wpK P md ops Q S K fuel (listed.setIfInBounds i true) (a.put oi.dst v) w -> wpK P md ops Q S K (fuel + 1) listed a w := by
 have hset : ∀ listed : Array Bool, Un K (listed.setIfInBounds i true) ↔ Un K listed := fun l => by
  unfold Un
  rw [getD_set_ne true hiK]
 intro fuel
 induction fuel with
 | zero =>
  intro listed a w _ hr hy hS H
  refine ⟨fun h => (by rw [h] at hr; cases hr), fun j hj => ?_⟩
  by_cases hji : j = i
  ·subst hji; exact hy.wpOp hi trivial ⟨fun hu => hS ((hset _).1 hu), H⟩
  ·have := ready_mono hj hji
   rw [H.1] at this
   cases this
 | succ fuel ih =>
  intro listed a w hfree hr hy hS H
  refine ⟨fun h => (by rw [h] at hr; cases hr), fun j hj => ?_⟩
  by_cases hji : j = i
  ·subst hji; exact hy.wpOp hi trivial ⟨fun hu => hS ((hset _).1 hu), H⟩
  ·have h1 := H.2 j (ready_mono hj hji)
   obtain ⟨hjun, oj, hoj, hall⟩ := mem_ready.1 hj
   have h2 := wpOp_putIf hoj (hfree j oj hoj hji hjun (not_on hr hall)) (fun cs b => hsel i oi cs b hi) (fun cs b => hsel j oj cs b hoj) hQ hy h1
   have hfree' : ∀ k ok, ops[k]? = some ok -> k ≠ i -> (listed.setIfInBounds j true).getD k true = false ->
     (∀ e ∈ ok.after, Region.binds md e = true -> e.on ≠ i) -> oi.apart ops ok = true := fun k ok hk hki hun hno => by
    refine hfree k ok hk hki ?_ hno
    by_cases hjk : j = k
    ·subst hjk; exact hjun
    ·rw [getD_set_ne true hjk] at hun; exact hun
   refine wpOp_mono (fun a' w' h3 => ?_) h2
   have hSw : Un K (listed.setIfInBounds j true) -> S w' := fun hu => h3.2.1 (by
    rw [Array.setIfInBounds_comm _ _ (Ne.symm hji)]
    exact (hset _).2 hu)
   refine ⟨hSw, ih (listed.setIfInBounds j true) a' w' hfree' (ready_mono hr (Ne.symm hji)) h3.1 hSw ?_⟩
   rw [Array.setIfInBounds_comm _ _ hji]
   exact h3.2.2
/-- An operation that is carried out, or left out, first. -/
theorem take (cs : List Nat) {i : Nat} {oi : Oper} {v : Value} {fuel : Nat} {listed : Array Bool} {a : Act} {w : World} (hi : ops.toList[i]? = some oi)
  (hs : Region.noSelect ops = true) (hf : Region.free md ops listed i = true) (hr : (Region.ready md ops listed).contains i = true)
  (hc : chain md ops listed (i :: cs) = true) (hT : (cs.contains K && !(i == K)) = true)
  (hQ : ∀ c a w, Q (.panic c) (a.put oi.dst v) w -> Q (.panic c) a w) (hy : YieldsIf P ops S oi v a) (hS : S w)
  (h : wpK P md ops Q S K fuel (listed.setIfInBounds i true) (a.put oi.dst v) w) : wpK P md ops Q S K (fuel + 1) listed a w :=
 have hi' : ops[i]? = some oi := by rw [<- Array.getElem?_toList]; exact hi
 have hT' : K ∈ cs /\ i ≠ K := by simpa using hT
 first hi' (Region.noSelect_spec hs) hT'.1 hT'.2 hQ fuel listed a w hc (Region.free_spec hi' hf) (by simpa using hr) hy hS h
theorem takeP {i : Nat} {oi : Oper} {v : Value} {fuel : Nat} {listed : Array Bool} {a : Act} {w : World} (hi : ops.toList[i]? = some oi)
  (hs : Region.noSelect ops = true) (hf : Region.free md ops listed i = true) (hr : (Region.ready md ops listed).contains i = true) (hT : (i == K) = false)
  (hQ : ∀ c a w, Q (.panic c) (a.put oi.dst v) w -> Q (.panic c) a w) (hy : YieldsIf P ops (fun _ => True) oi v a) (hS : S w)
  (h : wpK P md ops Q S K fuel (listed.setIfInBounds i true) (a.put oi.dst v) w) : wpK P md ops Q S K (fuel + 1) listed a w :=
 have hi' : ops[i]? = some oi := by rw [<- Array.getElem?_toList]; exact hi
 firstP hi' (Region.noSelect_spec hs) (by simpa using hT) hQ fuel listed a w (Region.free_spec hi' hf) (by simpa using hr) hy (fun _ => hS) h
/-- The one operation that may come up. -/
theorem one {i : Nat} {o : Oper} {fuel : Nat} {listed : Array Bool} {a : Act} {w : World} (hr : Region.ready md ops listed = [i]) (ho : ops.toList[i]? = some o)
  (h : ∀ K' : Act -> World -> Prop, Shut (∀ a w, S w -> (S w -> wpK P md ops Q S K fuel (listed.setIfInBounds i true) a w) -> K' a w) -> if Region.wanted o (yielded ops a.tmps) = true then Oper.wp P o a w K' Q else K' (a.put o.dst undef) w) :
  wpK P md ops Q S K (fuel + 1) listed a w := by
 have ho' : ops[i]? = some o := by rw [<- Array.getElem?_toList]; exact ho
 refine ⟨fun h0 => (by rw [hr] at h0; cases h0), fun j hj => ?_⟩
 rw [hr, List.mem_singleton] at hj
 subst hj
 exact wpOp_step ho' (fun K' hK => h K' (fun a w hS hW => hK a w ⟨fun _ => hS, hW hS⟩))
/-- One of two comes up. -/
theorem two {i j : Nat} {o o' : Oper} {fuel : Nat} {listed : Array Bool} {a : Act} {w : World} (hr : Region.ready md ops listed = [i, j]) (ho : ops.toList[i]? = some o) (ho' : ops.toList[j]? = some o')
  (h : ∀ K' : Act -> World -> Prop, Shut (∀ a w, S w -> (S w -> wpK P md ops Q S K fuel (listed.setIfInBounds i true) a w) -> K' a w) -> if Region.wanted o (yielded ops a.tmps) = true then Oper.wp P o a w K' Q else K' (a.put o.dst undef) w)
  (h' : ∀ K' : Act -> World -> Prop, Shut (∀ a w, S w -> (S w -> wpK P md ops Q S K fuel (listed.setIfInBounds j true) a w) -> K' a w) -> if Region.wanted o' (yielded ops a.tmps) = true then Oper.wp P o' a w K' Q else K' (a.put o'.dst undef) w) :
  wpK P md ops Q S K (fuel + 1) listed a w := by
 have ho1 : ops[i]? = some o := by rw [<- Array.getElem?_toList]; exact ho
 have ho2 : ops[j]? = some o' := by rw [<- Array.getElem?_toList]; exact ho'
 refine ⟨fun h0 => (by rw [hr] at h0; cases h0), fun k hk => ?_⟩
 rw [hr, List.mem_cons, List.mem_singleton] at hk
 rcases hk with rfl | rfl
 ·exact wpOp_step ho1 (fun K' hK => h K' (fun a w hS hW => hK a w ⟨fun _ => hS, hW hS⟩))
 ·exact wpOp_step ho2 (fun K' hK => h' K' (fun a w hS hW => hK a w ⟨fun _ => hS, hW hS⟩))
/-- The operations that are left come up in this order. -/
def forced (md : Region.Mode) (ops : Array Oper) : Array Bool -> List Nat -> Bool
 | listed, [] => (Region.ready md ops listed).isEmpty
 | listed, i :: r => (Region.ready md ops listed == [i]) && forced md ops (listed.setIfInBounds i true) r
theorem set_self (l : Array Bool) (k : Nat) : (l.setIfInBounds k true).getD k true = true := by
 rcases Nat.lt_or_ge k l.size with h | h <;> simp [h]
theorem not_un {l : Array Bool} {k : Nat} (j : Nat) (h : ¬ Un k l) : ¬ Un k (l.setIfInBounds j true) := by
 unfold Un at h ⊢
 by_cases hj : j = k
 ·subst hj; rw [set_self]; decide
 ·rw [getD_set_ne true hj]; exact h
theorem rest : ∀ (l : List Nat) (os : List Oper) (fuel : Nat) (listed : Array Bool) (a : Act) (w : World), (∀ i, l.head? = some i -> ¬ Un K (listed.setIfInBounds i true)) -> forced md ops listed l = true -> l.map (fun i => ops.toList[i]?) = os.map some -> l.length <= fuel ->
  wpList P ops Q os a w -> wpK P md ops Q S K fuel listed a w
 | [], os, fuel, listed, a, w, _, hf, hm, _, h => by
  obtain rfl : os = [] := by cases os with | nil => rfl | cons => simp at hm
  unfold forced at hf
  have hr : Region.ready md ops listed = [] := by simpa using hf
  cases fuel with
  | zero => exact ⟨hr, h⟩
  | succ n => exact ⟨fun _ => h, by rw [hr]; simp⟩
 | i :: l, os, fuel, listed, a, w, hs, hf, hm, hl, h => by
  cases fuel with
  | zero => simp at hl
  | succ fuel =>
   cases os with
   | nil => simp at hm
   | cons o os =>
    have hs1 := hs i rfl
    unfold forced at hf
    rw [Bool.and_eq_true, beq_iff_eq] at hf
    rw [List.map_cons, List.map_cons, List.cons.injEq] at hm
    have ho : ops[i]? = some o := by rw [<- Array.getElem?_toList]; exact hm.1
    refine ⟨fun h0 => (by rw [hf.1] at h0; cases h0), fun j hj => ?_⟩
    rw [hf.1, List.mem_singleton] at hj
    subst hj
    unfold wpList at h
    unfold wpOp
    simp only [ho]
    have go : ∀ a' w', wpList P ops Q os a' w' -> (Un K (listed.setIfInBounds j true) -> S w') /\ wpK P md ops Q S K fuel (listed.setIfInBounds j true) a' w' := fun a' w' h' =>
     ⟨fun hn => absurd hn hs1, rest l os fuel _ a' w' (fun k _ => not_un k hs1) hf.2 hm.2 (by simpa using hl) h'⟩
    by_cases hw : Region.wanted o (yielded ops a.tmps) = true
    ·simp only [hw, if_true] at h ⊢
     rcases h with h | h
     ·exact .inl (Oper.wp_mono go h)
     ·exact .inr h
    ·simp only [hw] at h ⊢
     exact go _ _ h
/-- From operation K on the rest comes up in this order: it is walked as it stands. -/
theorem tail (l : List Nat) (os : List Oper) {fuel : Nat} {listed : Array Bool} {a : Act} {w : World} (hs : (l.head? == some K) = true) (hf : forced md ops listed l = true) (hm : l.map (fun i => ops.toList[i]?) = os.map some) (hl : l.length <= fuel)
  (h : wpList P ops Q os a w) : wpK P md ops Q S K fuel listed a w := by
 refine rest l os fuel listed a w (fun i hi => ?_) hf hm hl h
 rw [beq_iff_eq, hi] at hs
 injection hs with hs
 subst hs
 unfold Un
 rw [set_self]
 decide
theorem done {fuel : Nat} {listed : Array Bool} {a : Act} {w : World} (hr : Region.ready md ops listed = []) (h : Q .normal a w) : wpK P md ops Q S K fuel listed a w := by
 cases fuel with
 | zero => exact ⟨hr, h⟩
 | succ n => exact ⟨fun _ => h, by rw [hr]; simp⟩
/-- The beginning: S is shown of the world behind the draw, once, and handed on. -/
theorem begin {id : Nat} {a : Act} {w : World} (K : Nat) (hm : P.follows .mixedOrders = true) (hS : S w.drew)
  (h : S w.drew -> wpK P .any ops Q S K ops.size (Array.replicate ops.size false) a w.drew) : (Code.region id ops true).wp P Q a w :=
 wp_region_any hm (wpAny_of _ _ _ _ (h hS))
end
end Go.Proofs.YteaaikmejacpaaaGreatDoor.Rk


namespace Go.Proofs.YteaaikmejacpaaaGreatDoor.Sh
open Go.ChangeShapes Go.WideShapes Go.ChangeAt Go.RowKit
set_option maxRecDepth 8000
set_option linter.unusedVariables false
set_option linter.unusedSimpArgs false
theorem c19 (p : Option Addr) (zs : List Int) (c : Nat) (w : World) (hn : zs.length <= maxLen) (RA : Hid (SlI w p zs)) :
  Calls Tryz.prog 72 #[.slice p zs.length c] w (OW (sts zs) w) := by
 unfold sts
 by_cases h : vE zs = 0
 ·rw [if_pos h]; exact c19_ok p zs c w RA h
 ·rw [if_neg h]; exact c19_bad p zs c w hn RA (by simpa using h)
/-- A suffix of a valid list is valid. -/
theorem vE_drop {zs : List Int} (h : vE zs = 0) (k : Nat) : vE (zs.drop k) = 0 := by
 obtain ⟨h6, hl, hP, hS, hD⟩ := valid_of h
 have e := any_drop hl k
 have key : ∀ (ys : List Int) (s : Int), 1 <= s -> ys.any low = false -> s * sp ys <= 4096 -> pr s ys = some (s * sp ys) := by
  intro ys
  induction ys with
  | nil => intro s _ _ _; unfold pr sp; rw [Int.mul_one]
  | cons z ys ih =>
   intro s h1 h2 h3
   simp only [List.any_cons, Bool.or_eq_false_iff] at h2
   have hz : 1 <= z := by have := h2.1; unfold low at this; simp at this; omega
   have hp := sp_pos h2.2
   have h4 : s * sp (z :: ys) = s * z * sp ys := by
    show s * (sp ys * z) = _
    rw [Int.mul_assoc, Int.mul_comm z]
   rw [h4] at h3 ⊢
   have h5 : 1 <= s * z := by have := Int.mul_pos (by omega : 0 < s) (by omega : 0 < z); omega
   have h6 := Int.mul_le_mul_of_nonneg_left hp (by omega : 0 <= s * z)
   rw [pr_go (by omega)]
   exact ih (s * z) h5 h2.2 h3
 have hk := hD k
 exact vE_some (s := 1 * sp (zs.drop k)) (by rw [List.length_drop]; omega) e (key _ 1 (by decide) e (by omega))
theorem sz_drop {zs : List Int} (h : vE zs = 0) (k : Nat) : sz (zs.drop k) = sp (zs.drop k) := by
 have h2 := vE_drop h k
 obtain ⟨_, _, hP, _⟩ := valid_of h2
 unfold sz
 rw [if_pos h2, hP]
 rfl
theorem SlI.drop {w : World} {b o : Nat} {zs : List Int} (h : SlI w (some ⟨b, o, none⟩) zs) (k : Nat) : SlI w (some ⟨b, o + k, none⟩) (zs.drop k) := by
 intro i hi
 rw [List.length_drop] at hi
 obtain ⟨b', o', e, hc⟩ := h (k + i) (by omega)
 cases e
 refine ⟨b, o + k, rfl, ?_⟩
 rw [getD_at (by rw [List.length_drop]; omega), List.getElem_drop, <- getD_at (by omega), Nat.add_assoc]
 exact hc
theorem SlI.empty {w : World} {p : Option Addr} {zs : List Int} (h : zs.length = 0) : SlI w p zs := fun i hi => by omega
theorem SlI.keep {w w' : World} {p : Option Addr} {zs : List Int} (hB : Below w.heap.size w w') (h : SlI w p zs) : SlI w' p zs := by
 intro i hi
 obtain ⟨b, o, e, hc⟩ := h i hi
 exact ⟨b, o, e, Rg.keep' hB (by have := World.block_lt_of_cell? w _ hc; simpa using this) hc⟩
end Go.Proofs.YteaaikmejacpaaaGreatDoor.Sh


namespace Go.Proofs.YteaaikmejacpaaaGreatDoor.Sh
open Go.ChangeShapes Go.WideShapes Go.ChangeAt Go.RowKit
set_option maxRecDepth 8000
set_option linter.unusedVariables false
set_option linter.unusedSimpArgs false
def Ret (v : Value) (w : World) (e : Ending) (w' : World) : Prop := e = .returned v /\ Below w.heap.size w w'

set_option maxHeartbeats 4000000 in
theorem c18 (p q : Option Addr) (xs ys : List Int) (c d : Nat) (w : World) (hx : xs.length <= maxLen) (hy : ys.length <= maxLen) (RA : Hid (SlI w p xs)) (RB : Hid (SlI w q ys)) :
  Calls Tryz.prog 28 #[.slice p xs.length c, .slice q ys.length d] w fun e w' => e = .returned (.bool (decide (xs = ys))) /\ ∃ k, w' = w.drewN k := by
 unfold maxLen at hx hy
 by_cases hl : xs.length = ys.length
 ·obtain ⟨n, hn⟩ : ∃ n, xs.length = n := ⟨_, rfl⟩
  have hm : ys.length = n := by omega
  have HN := Lib.hid hn
  have HM := Lib.hid hm
  rw [hn] at hx ⊢
  rw [hm]
  clear hn hm hl hy
  go_enter Tryz.func28, Tryz.ntmps28
  go_wp2
  go_loopw [5] (fun i wr => ∃ k : Nat, i = .int .i64 k /\ k <= n /\ Hid (∀ j, j < k -> xs.getD j 0 = ys.getD j 0) /\ ∃ m, wr = w.drewN m) (fun i _ => n - (intOf i).toNat)
  case atStart => exact ⟨0, rfl, by omega, Lib.hid fun j hj => by omega, 0, rfl⟩
  case round =>
   obtain ⟨k, rfl, hk, hL, m, rfl⟩ := hrel
   by_cases hlt : k < n
   ·obtain ⟨b, o, rfl, hc⟩ := RA.out k (by rw [HN.out]; exact hlt)
    obtain ⟨b', o', rfl, hc'⟩ := RB.out k (by rw [HM.out]; exact hlt)
    obtain ⟨x, hX⟩ : ∃ x, xs.getD k 0 = x := ⟨_, rfl⟩
    obtain ⟨y, hY⟩ : ∃ y, ys.getD k 0 = y := ⟨_, rfl⟩
    rw [hX] at hc
    rw [hY] at hc'
    have HX := Lib.hid hX
    have HY := Lib.hid hY
    have mi : (0 : Int) <= k := by omega
    have mi2 : (k : Int) < n := by omega
    clear hX hY
    obtain ⟨t, ht⟩ : ∃ t, (x != y) = t := ⟨_, rfl⟩
    have HT := Lib.hid ht
    cases t
    ·go_wp2
     go_quiet (fail)
     go_wp2
     go_roundw
     case rel => exact ⟨k + 1, by go_num, by omega, Lib.hid fun j hj => by
      rcases (by omega : j < k \/ j = k) with h | rfl
      ·exact hL.out j h
      ·rw [HX.out, HY.out]; simpa using HT.out, m + nq, by first | rfl | rw [World.drewN_drewN]⟩
     case measure => simp [intOf]; omega
    ·go_wp2
     go_quiet (fail)
     go_wp2
     go_ret
     refine ⟨?_, m + nq, by first | rfl | rw [World.drewN_drewN]⟩
     refine ret_bool (decide_eq_false fun h => ?_).symm
     have h2 := HT.out
     rw [<- HX.out, <- HY.out, h] at h2
     simp at h2
   ·go_wp2
    go_ret
    refine ⟨?_, m, rfl⟩
    refine ret_bool (decide_eq_true ?_).symm
    refine List.ext_getElem (by rw [HN.out, HM.out]) fun j h1 h2 => ?_
    have h := hL.out j (by rw [HN.out] at h1; omega)
    rw [getD_at h1, getD_at h2] at h
    exact h
 ·have k1 : ((xs.length : Int) != ys.length) = true := by simp <;> omega
  have k2 : (xs.length != ys.length) = true := by simpa using hl
  have k3 : (xs.length == ys.length) = false := by simpa using hl
  rw [decide_eq_false (fun h => hl (by rw [h]))]
  have HL := Lib.hid hl
  clear hl
  go_enter Tryz.func28, Tryz.ntmps28
  go_wp2
  go_ret
  exact ⟨rfl, 0, rfl⟩

end Go.Proofs.YteaaikmejacpaaaGreatDoor.Sh


namespace Go.Proofs.YteaaikmejacpaaaGreatDoor.Sh
open Go.ChangeShapes Go.WideShapes Go.ChangeAt Go.RowKit
set_option maxRecDepth 8000
set_option linter.unusedVariables false
set_option linter.unusedSimpArgs false

end Go.Proofs.YteaaikmejacpaaaGreatDoor.Sh


namespace Go.Proofs.YteaaikmejacpaaaGreatDoor.Sh
open Go.ChangeShapes Go.WideShapes Go.ChangeAt Go.RowKit
set_option maxRecDepth 8000
set_option linter.unusedVariables false
set_option linter.unusedSimpArgs false
/-- The offset of an index, as long as it lies in the shape. -/
def of : Int -> List Int -> List Int -> Option Int
 | n, z :: zs, x :: xs => if 0 <= x /\ x < z then of (n * z + x) zs xs else none
 | n, _, _ => some n
def oA (zs xs : List Int) : Option Int := if vE zs = 0 /\ xs.length = zs.length then of 0 zs xs else none
def oE (a : Option Int) : Ending := .returned (.tuple #[.int .i64 (a.getD 0), .bool a.isSome])
theorem of_none {n z x : Int} {zs xs : List Int} (h : ¬ (0 <= x /\ x < z)) : of n (z :: zs) (x :: xs) = none := by
 show (if 0 <= x /\ x < z then of (n * z + x) zs xs else none) = _
 rw [if_neg h]
theorem of_go {n z x : Int} {zs xs : List Int} (h : 0 <= x /\ x < z) : of n (z :: zs) (x :: xs) = of (n * z + x) zs xs := by
 show (if 0 <= x /\ x < z then of (n * z + x) zs xs else none) = _
 rw [if_pos h]
theorem oA_ok {zs xs : List Int} (h : vE zs = 0) (hl : xs.length = zs.length) : oA zs xs = of 0 zs xs := if_pos ⟨h, hl⟩
theorem oA_no {zs xs : List Int} (h : ¬ (vE zs = 0 /\ xs.length = zs.length)) : oA zs xs = none := if_neg h
/-- One step of the offset keeps within the limit. -/
theorem of_step {S z x P : Int} (hS : 0 <= S) (hP : 1 <= P) (h : (S + 1) * (P * z) <= 4096) (hx : 0 <= x) (hxz : x < z) :
  0 <= S * z /\ S * z <= 4096 /\ z <= 4096 /\ (S * z + x + 1) * P <= 4096 := by
 have hz : 1 <= z := by omega
 have h1 : 0 <= S * z := Int.mul_nonneg hS (by omega)
 have h2 : (S + 1) * z = S * z + z := by rw [Int.add_mul, Int.one_mul]
 have h3 : (S + 1) * (P * z) = (S + 1) * z * P := by rw [Int.mul_comm P z, Int.mul_assoc]
 rw [h3, h2] at h
 have h4 : S * z + z <= (S * z + z) * P := by
  have := Int.mul_le_mul_of_nonneg_left hP (by omega : 0 <= S * z + z)
  omega
 have h5 : (S * z + x + 1) * P <= (S * z + z) * P := Int.mul_le_mul_of_nonneg_right (by omega) (by omega)
 exact ⟨h1, by omega, by omega, by omega⟩
theorem oE_none {a : Option Int} (h : a = none) : Ending.returned (.tuple #[.int .i64 0, .bool false]) = oE a := by subst h; rfl
theorem oE_some {a : Option Int} {s : Int} (h : a = some s) : Ending.returned (.tuple #[.int .i64 s, .bool true]) = oE a := by subst h; rfl
set_option maxHeartbeats 4000000 in
theorem c21_ok (p q : Option Addr) (zs xs : List Int) (c d : Nat) (w : World) (RA : Hid (SlI w p zs)) (RB : Hid (SlI w q xs)) (hv : vE zs = 0) (hl : xs.length = zs.length) :
  Calls Tryz.prog 90 #[.slice p zs.length c, .slice q xs.length d] w fun e w' => e = oE (oA zs xs) /\ w = w' := by
 obtain ⟨h6, hlow, hP, hS, hD⟩ := valid_of hv
 have C := Lib.hid (c14 p zs c w (by unfold maxLen; omega) RA)
 rw [hv] at C
 rw [oA_ok hv hl]
 obtain ⟨n, hn⟩ : ∃ n, zs.length = n := ⟨_, rfl⟩
 have HN := Lib.hid hn
 have HM : Hid (xs.length = n) := Lib.hid (by omega)
 have hm : xs.length = n := by omega
 rw [hn] at C h6 ⊢
 rw [hm]
 clear hn hm hl hv hP hlow
 have HD := Lib.hid hD
 have S0 : (0 + 1) * sp (zs.drop 0) <= 4096 := by simpa using hS
 have HS0 := Lib.hid S0
 clear hD hS S0
 go_enter Tryz.func90, Tryz.ntmps90
 go_wp2_with (go_at_call 47; refine (C.out).mono ?_; rintro e w' ⟨rfl, rfl⟩)
 go_loop [6, 21] (fun s i => ∃ (k : Nat) (S : Int), s = .int .i64 S /\ i = .int .i64 k /\ k <= n /\ 0 <= S /\ S <= 4096 /\ Hid ((S + 1) * sp (zs.drop k) <= 4096) /\ Hid (of 0 zs xs = of S (zs.drop k) (xs.drop k))) (fun _ i => n - (intOf i).toNat)
 case atStart => exact ⟨0, 0, rfl, rfl, by omega, by omega, by omega, HS0, Lib.hid rfl⟩
 case round =>
  obtain ⟨k, S, rfl, rfl, hk, s0, s1, hB, hO⟩ := hrel
  by_cases hlt : k < n
  ·obtain ⟨b, o, rfl, hc⟩ := RA.out k (by rw [HN.out]; exact hlt)
   obtain ⟨b', o', rfl, hc'⟩ := RB.out k (by rw [HM.out]; exact hlt)
   have dz := drop_cons (zs := zs) (k := k) (by rw [HN.out]; exact hlt)
   have dx := drop_cons (zs := xs) (k := k) (by rw [HM.out]; exact hlt)
   obtain ⟨z, hz⟩ : ∃ z, zs.getD k 0 = z := ⟨_, rfl⟩
   obtain ⟨x, hx⟩ : ∃ x, xs.getD k 0 = x := ⟨_, rfl⟩
   rw [hz] at hc dz
   rw [hx] at hc' dx
   have DZ := Lib.hid dz
   have DX := Lib.hid dx
   clear dz dx hz hx
   have b0 : (0 : Int) <= k := by omega
   have b1 : (k : Int) < n := by omega
   by_cases x0 : x < 0
   ·have k1 : decide (x < 0) = true := by simpa using x0
    have e : of 0 zs xs = none := by rw [hO.out, DZ.out, DX.out]; exact of_none (by omega)
    have HE := Lib.hid e
    clear e x0
    go_wp2
    refine bodyPost_ret (v := .tuple #[.int .i64 0, .bool false]) (by simp [results, Tryz.results90, go_sem]) rfl ⟨oE_none HE.out, rfl⟩
   ·have k1 : decide (x < 0) = false := by simpa using x0
    by_cases x1 : z <= x
    ·have k2 : decide (z <= x) = true := by simpa using x1
     have e : of 0 zs xs = none := by rw [hO.out, DZ.out, DX.out]; exact of_none (by omega)
     have HE := Lib.hid e
     clear e x0 x1
     go_wp2
     refine bodyPost_ret (v := .tuple #[.int .i64 0, .bool false]) (by simp [results, Tryz.results90, go_sem]) rfl ⟨oE_none HE.out, rfl⟩
    ·have k2 : decide (z <= x) = false := by simpa using x1
     have hP1 := (HD.out (k + 1)).1
     have hB2 := hB.out
     rw [DZ.out] at hB2
     change (S + 1) * (sp (zs.drop (k + 1)) * z) <= 4096 at hB2
     obtain ⟨t0, t1, t2, hB3⟩ := of_step (x := x) s0 hP1 hB2 (by omega) (by omega)
     have hO2 : Hid (of 0 zs xs = of (S * z + x) (zs.drop (k + 1)) (xs.drop (k + 1))) := Lib.hid (by rw [hO.out, DZ.out, DX.out, of_go (by omega)])
     have hB4 := Lib.hid hB3
     have t3 : S * z + x <= 4096 := by
      have := Int.mul_le_mul_of_nonneg_left hP1 (by omega : 0 <= S * z + x + 1)
      omega
     obtain ⟨T, hT⟩ : ∃ T, S * z = T := ⟨_, rfl⟩
     rw [hT] at t0 t1 t3 hO2 hB4
     clear hB2 hB3 hP1 hB hO
     have x0' : 0 <= x := by omega
     have x1' : x < z := by omega
     go_wp2
     go_round
     case rel => exact ⟨k + 1, T + x, rfl, by go_num, by omega, by omega, by omega, hB4, hO2⟩
     case measure => simp [intOf]; omega
  ·have e : of 0 zs xs = some S := by
    have h := hO.out
    rw [List.drop_of_length_le (by rw [HN.out]; omega), List.drop_of_length_le (by rw [HM.out]; omega)] at h
    exact h
   have HE := Lib.hid e
   clear e
   go_wp2
   refine bodyPost_ret (v := .tuple #[.int .i64 S, .bool true]) (by simp [results, Tryz.results90, go_sem]) rfl ⟨oE_some HE.out, rfl⟩
set_option maxHeartbeats 4000000 in
theorem c21_bad (p q : Option Addr) (zs xs : List Int) (c d : Nat) (w : World) (hn : zs.length <= maxLen) (RA : Hid (SlI w p zs)) (hv : ¬ (vE zs = 0 /\ xs.length = zs.length)) :
  Calls Tryz.prog 90 #[.slice p zs.length c, .slice q xs.length d] w fun e w' => e = oE (oA zs xs) /\ w = w' := by
 have C := Lib.hid (c14 p zs c w hn RA)
 rw [oA_no hv]
 obtain ⟨t, ht⟩ : ∃ t, (vE zs != 0) = t := ⟨_, rfl⟩
 cases t
 ·have h0 : vE zs = 0 := by simpa using ht
  have hl : ¬ xs.length = zs.length := fun h => hv ⟨h0, h⟩
  have k1 : ((xs.length : Int) != zs.length) = true := by simp <;> omega
  have k2 : (xs.length != zs.length) = true := by simpa using hl
  have k3 : (xs.length == zs.length) = false := by simpa using hl
  generalize vE zs = e at *
  clear hl hv h0
  go_enter Tryz.func90, Tryz.ntmps90
  go_wp2_with (go_at_call 47; refine (C.out).mono ?_; rintro e w' ⟨rfl, rfl⟩)
  refine bodyPost_ret (v := .tuple #[.int .i64 0, .bool false]) (by simp [results, Tryz.results90, go_sem]) rfl ⟨rfl, rfl⟩
 ·clear hv
  generalize vE zs = e at *
  go_enter Tryz.func90, Tryz.ntmps90
  go_wp2_with (go_at_call 47; refine (C.out).mono ?_; rintro e w' ⟨rfl, rfl⟩)
  refine bodyPost_ret (v := .tuple #[.int .i64 0, .bool false]) (by simp [results, Tryz.results90, go_sem]) rfl ⟨rfl, rfl⟩
theorem c21 (p q : Option Addr) (zs xs : List Int) (c d : Nat) (w : World) (hn : zs.length <= maxLen) (RA : Hid (SlI w p zs)) (RB : Hid (SlI w q xs)) :
  Calls Tryz.prog 90 #[.slice p zs.length c, .slice q xs.length d] w fun e w' => e = oE (oA zs xs) /\ w = w' := by
 by_cases h : vE zs = 0 /\ xs.length = zs.length
 ·exact c21_ok p q zs xs c d w RA RB h.1 h.2
 ·exact c21_bad p q zs xs c d w hn RA h
end Go.Proofs.YteaaikmejacpaaaGreatDoor.Sh


namespace Go.Proofs.YteaaikmejacpaaaGreatDoor.Sh
open Go.ChangeShapes Go.WideShapes Go.ChangeAt Go.RowKit
set_option maxRecDepth 8000
set_option linter.unusedVariables false
set_option linter.unusedSimpArgs false

end Go.Proofs.YteaaikmejacpaaaGreatDoor.Sh


namespace Go.Proofs.YteaaikmejacpaaaGreatDoor.Sh
open Go.ChangeShapes Go.WideShapes Go.ChangeAt Go.RowKit
set_option maxRecDepth 8000
set_option linter.unusedVariables false
set_option linter.unusedSimpArgs false
theorem add_at (b o j : Nat) : (⟨b, o, none⟩ : Addr).add j = ⟨b, o + j, none⟩ := by
 unfold Addr.add
 split
 ·next h => subst h; rfl
 ·rfl
set_option maxHeartbeats 4000000 in
/-- slices.Clone of a slice that is not nil. -/
theorem c48 (b o : Nat) (zs : List Int) (c : Nat) (w : World) (hn : zs.length <= maxLen) (hby : zs.length * 8 <= 140737488355328) (RA : Hid (SlI w (some ⟨b, o, none⟩) zs)) :
  Calls Tryz.prog 49 #[.slice (some ⟨b, o, none⟩) zs.length c] w (OW zs w) := by
 obtain ⟨i0, hi, hz0, hz1, hz2⟩ := info_parts info3
 have RN := Lib.hid (fun o' : Obj => SlI.keep (w' := w.alloc o') ((Below.refl _ _).alloc (Nat.le_refl _) _) RA.out)
 have HN := Lib.hid hn
 have HB := Lib.hid hby
 clear hn hby
 have EN : (binOp .eql 24 (.slice (some ⟨b, o, none⟩) zs.length c) (.slice none 0 0)).run Tryz.prog w = .ok (.bool false) w := by kernel_rfl
 go_enter Tryz.func49, Tryz.ntmps49
 go_wp2_with (at_builtin; refine wpList_append_own _ rfl _ _ 24 rfl w.heap.size 3 i0 (.int .i64 0) 1 8 Tryz.underlying24 hi hz0 hz1 hz2 rfl (by decide) _ _ _ rfl (World.ownsRow_lit w #[] 0 (Nat.le_refl _) (by decide) rfl) ⟨b, o, none⟩ zs.length c (zs.map (Value.int .i64)) rfl ?_ ?_ ?_ ?_ ?_ ?_ ?_)
 ·simp
 ·intro j u hj
  rw [List.getElem?_map] at hj
  have hj2 : j < zs.length := by
   by_cases h : j < zs.length
   ·exact h
   ·rw [List.getElem?_eq_none (by omega)] at hj; cases hj
  rw [List.getElem?_eq_getElem hj2] at hj
  cases hj
  obtain ⟨b', o', e, hc⟩ := RN.out (.cells #[] 3 (0, 0)) j hj2
  cases e
  rw [getD_at hj2] at hc
  rw [add_at]
  exact hc
 ·intro u hu
  obtain ⟨x, _, rfl⟩ := List.mem_map.1 hu
  rfl
 ·rw [Nat.zero_add]; exact HN.out
 ·rw [Nat.zero_add]; exact HB.out
 ·simp
 intro v' w1 hown' hgrow _
 have hO2 : Hid (w1.ownsRow w.heap.size 3 1 v' zs.length (zs.map (Value.int .i64))) := Lib.hid (by first | exact hown' | (have h := hown'; rw [Nat.zero_add] at h; exact h))
 have hB2 : Below w.heap.size w w1 := ((Below.refl _ _).alloc (Nat.le_refl _) _).grown hgrow (by simp) (fun j hj => by cases hj; exact Nat.le_refl _)
 clear hown' hgrow hi hz0 hz1 hz2
 go_wp2
 go_ret
 exact ⟨_, rfl, hB2, hO2.out⟩
end Go.Proofs.YteaaikmejacpaaaGreatDoor.Sh


namespace Go.Proofs.YteaaikmejacpaaaGreatDoor.Sh
open Go.ChangeShapes Go.WideShapes Go.ChangeAt Go.RowKit
set_option maxRecDepth 8000
set_option linter.unusedVariables false
set_option linter.unusedSimpArgs false
/-- The index with an offset. -/
def pt (zs : List Int) (a : Int) : List Int := (List.range zs.length).map fun j => (a / sp (zs.drop (j + 1))) % zs.getD j 0
def pA (zs : List Int) (a : Int) : Bool := decide (0 <= a /\ a < sz zs)
def pL (zs : List Int) (a : Int) : List Int := if pA zs a = true then pt zs a else []
theorem pt_length (zs : List Int) (a : Int) : (pt zs a).length = zs.length := by simp [pt]
theorem pt_get {zs : List Int} {a : Int} {j : Nat} (h : j < zs.length) : (pt zs a).getD j 0 = (a / sp (zs.drop (j + 1))) % zs.getD j 0 := by
 rw [getD_at (by rw [pt_length]; exact h)]
 simp [pt]
/-- A slice that the call has made, and whether there is an answer. -/
def PW (l : List Int) (t : Bool) (w : World) (e : Ending) (w' : World) : Prop := ∃ v, e = .returned (.tuple #[v, .bool t]) /\ Below w.heap.size w w' /\ w'.ownsRow w.heap.size 3 1 v l.length (l.map (Value.int .i64))
theorem sz_ok {zs : List Int} (h : vE zs = 0) : sz zs = sp zs := sz_drop (zs := zs) h 0
theorem sz_no {zs : List Int} (h : ¬ vE zs = 0) : sz zs = 0 := by unfold sz; rw [if_neg h]
theorem pA_valid {zs : List Int} {a : Int} (h : pA zs a = true) : vE zs = 0 /\ 0 <= a /\ a < sp zs := by
 unfold pA at h
 have h := of_decide_eq_true h
 by_cases hv : vE zs = 0
 ·rw [sz_ok hv] at h; exact ⟨hv, h⟩
 ·rw [sz_no hv] at h; omega
theorem pt_step {a s z : Int} (hs : 1 <= s) : a / s / z = a / (s * z) := Int.ediv_ediv_of_nonneg (by omega)
end Go.Proofs.YteaaikmejacpaaaGreatDoor.Sh


namespace Go.Proofs.YteaaikmejacpaaaGreatDoor.Sh
open Go.ChangeShapes Go.WideShapes Go.ChangeAt Go.RowKit
set_option maxRecDepth 8000
set_option linter.unusedVariables false
set_option linter.unusedSimpArgs false
set_option maxHeartbeats 4000000 in
theorem c23_bad (p : Option Addr) (zs : List Int) (c : Nat) (a0 : Int) (w : World) (hn : zs.length <= maxLen) (RA : Hid (SlI w p zs)) (hp : pA zs a0 = false) :
  Calls Tryz.prog 73 #[.slice p zs.length c, .int .i64 a0] w (PW [] false w) := by
 have C := Lib.hid (c16 p zs c w hn RA)
 unfold pA at hp
 have hp := of_decide_eq_false hp
 generalize hQ : sz zs = P at C hp
 clear hQ
 by_cases h0 : a0 < 0
 ·have k1 : decide (a0 < 0) = true := by simpa using h0
  clear hp
  go_enter Tryz.func73, Tryz.ntmps73
  go_wp2
  refine bodyPost_ret (v := .tuple #[.slice none 0 0, .bool false]) (by simp [results, Tryz.results73, go_sem]) rfl ⟨_, rfl, Below.refl _ _, World.ownsRow_nil _ _ _ _⟩
 ·have k1 : decide (a0 < 0) = false := by simpa using h0
  have k2 : decide (P <= a0) = true := by simp <;> omega
  clear hp
  go_enter Tryz.func73, Tryz.ntmps73
  go_wp2_with (go_at_call 51; refine (C.out).mono ?_; rintro e w' ⟨rfl, rfl⟩)
  refine bodyPost_ret (v := .tuple #[.slice none 0 0, .bool false]) (by simp [results, Tryz.results73, go_sem]) rfl ⟨_, rfl, Below.refl _ _, World.ownsRow_nil _ _ _ _⟩
theorem cell56 {w : World} {base g n cap j : Nat} {t : TypeId} {xs : List Int} (h : w.ownsRow base t 1 (.slice (some ⟨g, 0, none⟩) n cap) n (xs.map (Value.int .i64))) (hj : j < n) (hx : xs.length = n) :
  w.cell? ⟨g, j, none⟩ = some (.int .i64 (xs.getD j 0)) := by
 rw [h.cellAt j (by omega), List.getElem?_map, List.getElem?_eq_getElem (by omega), getD_at (by omega)]
 rfl
set_option maxHeartbeats 8000000 in
theorem c23_ok (p : Option Addr) (zs : List Int) (c : Nat) (a0 : Int) (w : World) (RA : Hid (SlI w p zs)) (hp : pA zs a0 = true) :
  Calls Tryz.prog 73 #[.slice p zs.length c, .int .i64 a0] w (PW (pt zs a0) true w) := by
 obtain ⟨hv, a1, a2⟩ := pA_valid hp
 obtain ⟨h6, hl, hP, hS, hD⟩ := valid_of hv
 have C := Lib.hid (c16 p zs c w (by unfold maxLen; omega) RA)
 rw [sz_ok hv] at C
 obtain ⟨i0, hi, hz0, hz1, hz2⟩ := info_parts info3
 have HD := Lib.hid hD
 have HL := Lib.hid hl
 have hle : a0 <= 4095 := by omega
 clear hD hl hv hP hp
 generalize hQ : sp zs = P at C a2 hS
 clear hQ
 have k1 : decide (a0 < 0) = false := by simp <;> omega
 have k2 : decide (P <= a0) = false := by simp <;> omega
 obtain ⟨n, hn⟩ : ∃ n, zs.length = n := ⟨_, rfl⟩
 have HN := Lib.hid hn
 rw [hn] at C h6 ⊢
 clear hn
 go_enter Tryz.func73, Tryz.ntmps73
 go_wp2_with (go_at_call 51; refine (C.out).mono ?_; rintro e w' ⟨rfl, rfl⟩)
 have hown2 : Hid ((w.alloc (.cells #[.int .i64 0, .int .i64 0, .int .i64 0, .int .i64 0, .int .i64 0, .int .i64 0] 122)).ownsRow w.heap.size 122 1 (.slice (some ⟨w.heap.size, 0, none⟩) 6 6) 6 ((List.replicate 6 (0 : Int)).map (Value.int .i64))) :=
  Lib.hid (World.ownsRow_lit w _ 6 (Nat.le_refl _) (by unfold maxLen; decide) rfl)
 have hB : Below w.heap.size w (w.alloc (.cells #[.int .i64 0, .int .i64 0, .int .i64 0, .int .i64 0, .int .i64 0, .int .i64 0] 122)) := (Below.refl _ _).alloc (Nat.le_refl _) _
 clear k1 k2 hi hz0 hz1 hz2
 go_loopw [1, 7] (fun s i wr => ∃ (m : Nat) (S : Int) (xs : List Int), s = .int .i64 S /\ i = .int .i64 ((m : Int) - 1) /\ m <= n /\ Hid (S = a0 / sp (zs.drop m)) /\ 0 <= S /\ S <= 4095 /\ xs.length = 6 /\ Hid (∀ j, m <= j -> j < n -> xs.getD j 0 = (pt zs a0).getD j 0) /\ Below w.heap.size w wr /\ w.heap.size < wr.heap.size /\
  Hid (wr.ownsRow w.heap.size 122 1 (.slice (some ⟨w.heap.size, 0, none⟩) 6 6) 6 (xs.map (Value.int .i64)))) (fun _ i _ => (intOf i + 1).toNat)
 case atStart =>
  have hlt := (hown2.out.lt w.heap.size rfl).2
  exact ⟨n, a0, _, rfl, rfl, Nat.le_refl _, Lib.hid (by rw [List.drop_of_length_le (by rw [HN.out]; exact Nat.le_refl _)]; exact (Int.ediv_one _).symm), by omega, by omega, by simp, Lib.hid fun j h1 h2 => by omega, hB, hlt, hown2⟩
 case round =>
  obtain ⟨m, S, xs, rfl, rfl, hm, hS, s0, s1, hx, hX, KB, lt, hO⟩ := hrel
  clear hown2 hB
  cases m with
  | zero =>
   have e : xs.take n = pt zs a0 := by
    refine List.ext_getElem (by rw [pt_length, HN.out, List.length_take, hx]; omega) fun j h1 h2 => ?_
    rw [List.length_take] at h1
    have h := hX.out j (by omega) (by omega)
    rw [getD_at (by omega), getD_at h2] at h
    rw [List.getElem_take]
    exact h
   have S1 : SlI wr (some ⟨w.heap.size, 0, none⟩) (xs.take n) := fun i hi => ⟨_, _, rfl, by
    rw [List.length_take] at hi
    rw [getD_at (by rw [List.length_take]; exact hi), List.getElem_take, <- getD_at (by omega), Nat.zero_add, cell56 hO.out (by omega) hx]⟩
   rw [e] at S1
   have ln := pt_length zs a0
   rw [HN.out] at ln
   have LN := Lib.hid ln
   have C48 : Hid (∀ (l cc : Nat), l = n -> Calls Tryz.prog 49 #[.slice (some ⟨w.heap.size, 0, none⟩) l cc] wr (OW (pt zs a0) wr)) := Lib.hid fun l cc hl => by
    subst hl
    have h := c48 w.heap.size 0 (pt zs a0) cc wr (by rw [LN.out]; unfold maxLen; omega) (by rw [LN.out]; omega) (Lib.hid S1)
    rw [LN.out] at h
    exact h
   have mi : (0 : Int) <= n := by omega
   have mi2 : (n : Int) <= 6 := by omega
   have AL : Tryz.prog.arrayLen 122 = 6 := by kernel_rfl
   clear e S1 ln
   go_wp2_with (go_at_call 49; refine (C48.out _ _ (by omega)).mono ?_; rintro e w2 ⟨v, rfl, K2, O2⟩)
   have KB2 : Below w.heap.size w w2 := KB.trans (K2.mono KB.size)
   refine bodyPost_ret (v := .tuple #[v, .bool true]) (by simp [results, Tryz.results73, go_sem]) rfl ⟨_, rfl, KB2, ?_⟩
   exact O2.mono KB.size
  | succ m =>
   rw [show ((m + 1 : Nat) : Int) - 1 = (m : Int) by omega]
   obtain ⟨b, o, rfl, hc⟩ := RA.out m (by rw [HN.out]; omega)
   have hb : b < w.heap.size := by have := World.block_lt_of_cell? w _ hc; simpa using this
   have hc := Rg.keep' KB hb hc
   have z1 := pos_of HL.out (k := m) (by rw [HN.out]; omega)
   have hd := drop_cons (zs := zs) (k := m) (by rw [HN.out]; omega)
   have hpt := pt_get (zs := zs) (a := a0) (j := m) (by rw [HN.out]; omega)
   obtain ⟨z, hz⟩ : ∃ z, zs.getD m 0 = z := ⟨_, rfl⟩
   rw [hz] at hc z1 hd hpt
   rw [<- hS.out] at hpt
   have hT0 : 0 <= S / z := Int.ediv_nonneg s0 (by omega)
   have hT1 : S / z <= S := Int.ediv_le_self z s0
   have hR0 : 0 <= S % z := Int.emod_nonneg S (by omega)
   have hsp : S / z = a0 / sp (zs.drop m) := by rw [hd, hS.out]; exact pt_step (HD.out (m + 1)).1
   obtain ⟨r, hr⟩ : ∃ r, S % z = r := ⟨_, rfl⟩
   obtain ⟨T, hT⟩ : ∃ T, S / z = T := ⟨_, rfl⟩
   rw [hr] at hpt hR0
   rw [hT] at hT0 hT1 hsp
   have oc := cell56 hO.out (j := m) (by omega) hx
   have of := hO.out.frozenAt m
   have oS := Lib.hid (hO.out.stored m (.int .i64 r)).1
   have ne : ¬ w.heap.size = b := by omega
   have ne2 : ¬ b = w.heap.size := by omega
   have hc2 : (wr.setCell ⟨w.heap.size, m, none⟩ (.int .i64 r)).cell? ⟨b, o + m, none⟩ = some (.int .i64 z) := by rw [World.cell?_setCell_far _ _ _ _ ne]; exact hc
   have HSP := Lib.hid hsp
   have HPT := Lib.hid hpt
   have mlt : m < n := by omega
   have mi : (0 : Int) <= m := by omega
   have mi2 : (m : Int) < n := by omega
   have zz : (z == 0) = false := by simp <;> omega
   clear hz hd hsp hm hpt
   go_wp2
   go_roundw
   case rel =>
    refine ⟨m, T, xs.set m r, by first | rfl | rw [hT], rfl, by omega, HSP, by omega, by omega, by simp [hx], Lib.hid fun j h1 h2 => ?_, Below.setCell KB (Nat.le_refl _) _, by simpa using lt, Lib.hid (by rw [List.map_set]; exact oS.out)⟩
    by_cases hj : j = m
    ·subst hj
     rw [getD_at (by simp [hx]; omega), List.getElem_set_self]
     exact HPT.out.symm
    ·rw [getD_at (by simp [hx]; omega), List.getElem_set_ne (by omega), <- getD_at (by omega)]
     exact hX.out j (by omega) h2
   case measure => simp [intOf]
theorem c23 (p : Option Addr) (zs : List Int) (c : Nat) (a0 : Int) (w : World) (hn : zs.length <= maxLen) (RA : Hid (SlI w p zs)) :
  Calls Tryz.prog 73 #[.slice p zs.length c, .int .i64 a0] w (PW (pL zs a0) (pA zs a0) w) := by
 unfold pL
 by_cases h : pA zs a0 = true
 ·rw [if_pos h, h]; exact c23_ok p zs c a0 w RA h
 ·rw [if_neg h, show pA zs a0 = false by simpa using h]; exact c23_bad p zs c a0 w hn RA (by simpa using h)
end Go.Proofs.YteaaikmejacpaaaGreatDoor.Sh


namespace Go.Proofs.YteaaikmejacpaaaGreatDoor.Sh
open Go.ChangeShapes Go.WideShapes Go.ChangeAt Go.RowKit
set_option maxRecDepth 8000
set_option linter.unusedVariables false
set_option linter.unusedSimpArgs false

end Go.Proofs.YteaaikmejacpaaaGreatDoor.Sh


namespace Go.Proofs.YteaaikmejacpaaaGreatDoor.Sh
open Go.ChangeShapes Go.WideShapes Go.ChangeAt Go.RowKit
set_option maxRecDepth 8000
set_option linter.unusedVariables false
set_option linter.unusedSimpArgs false
/-- A slice that the call has made, and an error number. -/
def QW (l : List Int) (t : Int) (w : World) (e : Ending) (w' : World) : Prop := ∃ v, e = .returned (.tuple #[v, .int .i64 t]) /\ Below w.heap.size w w' /\ w'.ownsRow w.heap.size 3 1 v l.length (l.map (Value.int .i64))

end Go.Proofs.YteaaikmejacpaaaGreatDoor.Sh


namespace Go.Proofs.YteaaikmejacpaaaGreatDoor.Sh
open Go.ChangeShapes Go.WideShapes Go.ChangeAt Go.RowKit
set_option maxRecDepth 8000
set_option linter.unusedVariables false
set_option linter.unusedSimpArgs false
theorem own_form {w : World} {base n : Nat} {v : Value} {xs : List Value} (h : w.ownsRow base 3 1 v n xs) (hn : 0 < n) : ∃ g cap, v = .slice (some ⟨g, 0, none⟩) n cap /\ base <= g /\ n <= cap := by
 rcases h.2 with ⟨_, h0⟩ | ⟨g, cap, _, hv, h1, _, h2, _⟩
 ·omega
 ·exact ⟨g, cap, hv, h1, h2⟩

end Go.Proofs.YteaaikmejacpaaaGreatDoor.Sh


namespace Go.Proofs.YteaaikmejacpaaaGreatDoor.Sh
open Go.ChangeShapes Go.WideShapes Go.ChangeAt Go.RowKit
set_option maxRecDepth 8000
set_option linter.unusedVariables false
set_option linter.unusedSimpArgs false

end Go.Proofs.YteaaikmejacpaaaGreatDoor.Sh


namespace Go.Proofs.YteaaikmejacpaaaGreatDoor.Sh
open Go.ChangeShapes Go.WideShapes Go.ChangeAt Go.RowKit
set_option maxRecDepth 8000
set_option linter.unusedVariables false
set_option linter.unusedSimpArgs false

end Go.Proofs.YteaaikmejacpaaaGreatDoor.Sh


namespace Go.Proofs.YteaaikmejacpaaaGreatDoor.Sh
open Go.ChangeShapes Go.WideShapes Go.ChangeAt Go.RowKit
set_option maxRecDepth 8000
set_option linter.unusedVariables false
set_option linter.unusedSimpArgs false

end Go.Proofs.YteaaikmejacpaaaGreatDoor.Sh


namespace Go.Proofs.YteaaikmejacpaaaGreatDoor.Sh
open Go.ChangeShapes Go.WideShapes Go.ChangeAt Go.RowKit
set_option maxRecDepth 8000
set_option linter.unusedVariables false
set_option linter.unusedSimpArgs false

/-- The offset of an index is the number that the index came from. -/
theorem of_pt {zs : List Int} {a : Int} (hv : vE zs = 0) (ha : 0 <= a) (ha2 : a < sp zs) : oA zs (pt zs a) = some a := by
 obtain ⟨_, hl, _, _, hD⟩ := valid_of hv
 rw [oA_ok hv (pt_length zs a)]
 have key : ∀ k, k <= zs.length -> of 0 zs (pt zs a) = of (a / sp (zs.drop k)) (zs.drop k) ((pt zs a).drop k) := by
  intro k
  induction k with
  | zero =>
   intro _
   rw [List.drop_zero, List.drop_zero, Int.ediv_eq_zero_of_lt ha ha2]
  | succ k ih =>
   intro hk
   rw [ih (by omega), drop_cons (zs := zs) (by omega), drop_cons (zs := pt zs a) (by rw [pt_length]; omega), pt_get (by omega)]
   have hz := pos_of hl (k := k) (by omega)
   have s0 := (hD (k + 1)).1
   change of (a / (sp (zs.drop (k + 1)) * zs.getD k 0)) _ _ = _
   generalize zs.getD k 0 = z at *
   generalize sp (zs.drop (k + 1)) = s at *
   rw [of_go ⟨Int.emod_nonneg _ (by omega), Int.emod_lt_of_pos _ (by omega)⟩, <- pt_step s0]
   congr 1
   have := Int.emod_def (a / s) z
   rw [Int.mul_comm] at this
   omega
 rw [key zs.length (Nat.le_refl _), List.drop_of_length_le (Nat.le_refl _), List.drop_of_length_le (by rw [pt_length]; exact Nat.le_refl _)]
 show some (a / 1) = some a
 rw [Int.ediv_one]
theorem pA_ok {zs : List Int} {a : Int} (hv : vE zs = 0) (ha : 0 <= a) (ha2 : a < sp zs) : pA zs a = true := by
 unfold pA
 rw [sz_ok hv]
 exact decide_eq_true ⟨ha, ha2⟩
end Go.Proofs.YteaaikmejacpaaaGreatDoor.Sh


namespace Go.Proofs.YteaaikmejacpaaaGreatDoor.Sh
open Go.ChangeShapes Go.WideShapes Go.ChangeAt Go.RowKit
set_option maxRecDepth 8000
set_option linter.unusedVariables false
set_option linter.unusedSimpArgs false

end Go.Proofs.YteaaikmejacpaaaGreatDoor.Sh


namespace Go.Proofs.YteaaikmejacpaaaGreatDoor.Sh
open Go.ChangeShapes Go.WideShapes Go.ChangeAt Go.RowKit
set_option maxRecDepth 8000
set_option linter.unusedVariables false
set_option linter.unusedSimpArgs false
/-- The first k axes are axes, each but once. -/
def gd (n : Nat) (os : List Int) (k : Nat) : Prop := ∀ i, i < k -> 0 <= os.getD i 0 /\ os.getD i 0 < n /\ ∀ j, j < i -> os.getD j 0 ≠ os.getD i 0
def pm (zs os : List Int) : List Int := os.map fun x => zs.getD x.toNat 0
open Classical in
noncomputable def pmE (zs os : List Int) : Int := if (vE zs != 0) = true then vE zs else if os.length = zs.length /\ gd zs.length os zs.length then 0 else 1
open Classical in
noncomputable def pmL (zs os : List Int) : List Int := if (vE zs != 0) = true then [] else if os.length = zs.length /\ gd zs.length os zs.length then pm zs os else []
theorem pm_get {zs os : List Int} {k : Nat} (h : k < os.length) : (pm zs os).getD k 0 = zs.getD (os.getD k 0).toNat 0 := by
 rw [getD_at (by simp [pm]; exact h), getD_at h]
 simp [pm]
theorem gd_step {n k : Nat} {os : List Int} {x : Nat} (h : gd n os k) (hx : os.getD k 0 = x) (h1 : x < n) (h2 : ∀ i, i < k -> os.getD i 0 ≠ x) : gd n os (k + 1) := by
 intro i hi
 rcases (by omega : i < k \/ i = k) with h3 | rfl
 ·exact h i h3
 ·rw [hx]
  exact ⟨by omega, by omega, h2⟩
theorem bools_at {w : World} {base g n cap j : Nat} {t : TypeId} {bs : List Bool} (h : w.ownsRow base t 1 (.slice (some ⟨g, 0, none⟩) n cap) n (bs.map Value.bool)) (hj : j < n) (hx : bs.length = n) :
  w.cell? ⟨g, j, none⟩ = some (.bool (bs.getD j false)) := by
 rw [h.cellAt j (by omega), List.getElem?_map, List.getElem?_eq_getElem (by omega)]
 unfold List.getD
 rw [List.getElem?_eq_getElem (by omega)]
 rfl
theorem us_step {os : List Int} {k x m : Nat} {us : List Bool} (hx : os.getD k 0 = (x : Int)) (hm : us.length = m) (hxm : x < m) (h : ∀ y, y < m -> (us.getD y false = true ↔ ∃ i, i < k /\ os.getD i 0 = (y : Int))) :
  ∀ y, y < m -> ((us.set x true).getD y false = true ↔ ∃ i, i < k + 1 /\ os.getD i 0 = (y : Int)) := by
 intro y hy
 by_cases e : y = x
 ·subst e
  rw [show (us.set y true).getD y false = true by unfold List.getD; rw [List.getElem?_set_self (by omega)]; rfl]
  exact ⟨fun _ => ⟨k, by omega, hx⟩, fun _ => rfl⟩
 ·rw [show (us.set x true).getD y false = us.getD y false by unfold List.getD; rw [List.getElem?_set_ne (by omega)], h y hy]
  constructor
  ·rintro ⟨i, hi, h1⟩; exact ⟨i, by omega, h1⟩
  ·rintro ⟨i, hi, h1⟩
   rcases (by omega : i < k \/ i = k) with h3 | rfl
   ·exact ⟨i, h3, h1⟩
   ·rw [hx] at h1; omega
set_option maxHeartbeats 4000000 in
theorem c27_v (p q : Option Addr) (zs os : List Int) (c d : Nat) (w : World) (hn : zs.length <= maxLen) (RA : Hid (SlI w p zs)) (hv : (vE zs != 0) = true) :
  Calls Tryz.prog 71 #[.slice p zs.length c, .slice q os.length d] w (QW [] (vE zs) w) := by
 have C := Lib.hid (c14 p zs c w hn RA)
 generalize vE zs = e at *
 go_enter Tryz.func71, Tryz.ntmps71
 go_wp2_with (go_at_call 47; refine (C.out).mono ?_; rintro e w' ⟨rfl, rfl⟩)
 refine bodyPost_ret (v := .tuple #[.slice none 0 0, .int .i64 e]) (by simp [results, Tryz.results71, go_sem]) rfl ⟨_, rfl, Below.refl _ _, World.ownsRow_nil _ _ _ _⟩
set_option maxHeartbeats 4000000 in
theorem c27_l (p q : Option Addr) (zs os : List Int) (c d : Nat) (w : World) (hn : zs.length <= maxLen) (RA : Hid (SlI w p zs)) (hv : vE zs = 0) (hl : ¬ os.length = zs.length) :
  Calls Tryz.prog 71 #[.slice p zs.length c, .slice q os.length d] w (QW [] 1 w) := by
 have C := Lib.hid (c14 p zs c w hn RA)
 rw [hv] at C
 clear hv
 have k1 : ((os.length : Int) != zs.length) = true := by simp <;> omega
 have k2 : (os.length != zs.length) = true := by simpa using hl
 have k3 : (os.length == zs.length) = false := by simpa using hl
 generalize zs.length = n at *
 generalize os.length = m at *
 clear hl
 go_enter Tryz.func71, Tryz.ntmps71
 go_wp2_with (go_at_call 47; refine (C.out).mono ?_; rintro e w' ⟨rfl, rfl⟩)
 refine bodyPost_ret (v := .tuple #[.slice none 0 0, .int .i64 1]) (by simp [results, Tryz.results71, go_sem]) rfl ⟨_, rfl, (Below.refl _ _).alloc (Nat.le_refl _) _, World.ownsRow_nil _ _ _ _⟩
end Go.Proofs.YteaaikmejacpaaaGreatDoor.Sh
