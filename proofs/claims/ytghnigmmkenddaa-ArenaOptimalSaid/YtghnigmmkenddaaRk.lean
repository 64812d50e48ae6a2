/- Steps through a region that draws its order and ends in a forced tail: loads and plain operations are taken first, the tail is walked as it stands. -/
import Derived.Test.YtghnigmmkenddaaReg
namespace Go.Proofs.Ytghnigmmkenddaa.Rk
open Go.ChangeShapes Go.WideShapes Go.ChangeAt Go.RowKit
set_option linter.unusedVariables false

section
variable {P : Program} {ops : Array Oper} {Q : Exit → Act → World → Prop} {md : Region.Mode} {S : World → Prop} {K : Nat}
/-- Operation K has not come up. -/
def Un (K : Nat) (listed : Array Bool) : Prop := listed.getD K true = false
/-- Whatever order is picked, S holds as long as operation K has not come up. -/
def wpK (P : Program) (md : Region.Mode) (ops : Array Oper) (Q : Exit → Act → World → Prop) (S : World → Prop) (K : Nat) : Nat → Array Bool → Act → World → Prop
  | 0, listed, a, w => Region.ready md ops listed = [] ∧ Q .normal a w
  | fuel + 1, listed, a, w =>
    (Region.ready md ops listed = [] → Q .normal a w) ∧
    ∀ i ∈ Region.ready md ops listed, wpOp P ops Q i (fun a' w' => (Un K (listed.setIfInBounds i true) → S w') ∧ wpK P md ops Q S K fuel (listed.setIfInBounds i true) a' w') a w
theorem wpAny_of : ∀ (fuel : Nat) (listed : Array Bool) (a : Act) (w : World), wpK P md ops Q S K fuel listed a w → wpAny P md ops Q fuel listed a w
  | 0, _, _, _, h => h
  | fuel + 1, _, _, _, h => ⟨h.1, fun i hi => wpOp_mono (fun a' w' h' => wpAny_of fuel _ a' w' h'.2) (h.2 i hi)⟩
def waits (md : Region.Mode) (ops : Array Oper) (j i : Nat) : Bool :=
  match ops.toList[j]? with
  | some o => o.after.any fun e => Region.binds md e && e.on == i
  | none => false
/-- None of them has come up, and each waits for the one before it. -/
def chain (md : Region.Mode) (ops : Array Oper) (listed : Array Bool) : List Nat → Bool
  | [] => true
  | [i] => !(listed.getD i true)
  | i :: j :: r => !(listed.getD i true) && waits md ops j i && chain md ops listed (j :: r)
theorem waits_ready {i j : Nat} {listed : Array Bool} (h : waits md ops j i = true) (hu : listed.getD i true = false) : j ∉ Region.ready md ops listed := by
  intro hj
  obtain ⟨_, o, ho, hall⟩ := mem_ready.1 hj
  unfold waits at h
  rw [Array.getElem?_toList, ho] at h
  simp only at h
  rw [Array.any_eq_true] at h
  obtain ⟨k, hk, he⟩ := h
  rw [Bool.and_eq_true, beq_iff_eq] at he
  have := hall _ (Array.getElem_mem hk) he.1
  rw [he.2] at this
  rcases Nat.lt_or_ge i listed.size with h' | h'
  · simp [h'] at hu this; rw [hu] at this; cases this
  · simp [Array.getElem?_eq_none h'] at hu
theorem chain_step {j : Nat} {listed : Array Bool} (hj : j ∈ Region.ready md ops listed) : ∀ (i : Nat) (cs : List Nat), j ≠ i → chain md ops listed (i :: cs) = true → chain md ops (listed.setIfInBounds j true) (i :: cs) = true
  | i, [], hne, h => by
    unfold chain at h ⊢
    rw [Bool.not_eq_true'] at h ⊢
    rw [getD_set_ne true hne]; exact h
  | i, c :: r, hne, h => by
    unfold chain at h ⊢
    rw [Bool.and_eq_true, Bool.and_eq_true, Bool.not_eq_true'] at h ⊢
    obtain ⟨⟨h1, h2⟩, h3⟩ := h
    have hc : j ≠ c := fun he => waits_ready h2 h1 (he ▸ hj)
    exact ⟨⟨by rw [getD_set_ne true hne]; exact h1, h2⟩, chain_step hj c r hc h3⟩
theorem chain_un {listed : Array Bool} : ∀ (i : Nat) (cs : List Nat), chain md ops listed (i :: cs) = true → ∀ c ∈ i :: cs, Un c listed
  | i, [], h, c, hc => by
    rw [List.mem_singleton] at hc
    subst hc
    unfold chain at h
    unfold Un
    simpa using h
  | i, d :: r, h, c, hc => by
    unfold chain at h
    rw [Bool.and_eq_true, Bool.and_eq_true, Bool.not_eq_true'] at h
    rcases List.mem_cons.1 hc with rfl | hc
    · exact h.1.1
    · exact chain_un d r h.2 c hc
theorem not_on {i : Nat} {listed : Array Bool} {oj : Oper} (hr : i ∈ Region.ready md ops listed) (hall : ∀ e ∈ oj.after, Region.binds md e = true → listed.getD e.on false = true) : ∀ e ∈ oj.after, Region.binds md e = true → e.on ≠ i := fun e he hb heq => by
  have h1 := hall e he hb
  have h0 := (mem_ready.1 hr).1
  rw [heq] at h1
  rcases Nat.lt_or_ge i listed.size with h' | h'
  · simp [h'] at h0 h1; rw [h0] at h1; cases h1
  · simp [Array.getElem?_eq_none h'] at h0
theorem first {i : Nat} {oi : Oper} {v : Value} {cs : List Nat} (hi : ops[i]? = some oi) (hsel : ∀ (j : Nat) (o : Oper) cs b, ops[j]? = some o → o.op ≠ .select cs b)
    (hT : K ∈ cs) (hiK : i ≠ K)
    (hQ : ∀ c a w, Q (.panic c) (a.put oi.dst v) w → Q (.panic c) a w) :
    ∀ (fuel : Nat) (listed : Array Bool) (a : Act) (w : World), chain md ops listed (i :: cs) = true →
      (∀ j oj, ops[j]? = some oj → j ≠ i → listed.getD j true = false → (∀ e ∈ oj.after, Region.binds md e = true → e.on ≠ i) → oi.apart ops oj = true) →
      i ∈ Region.ready md ops listed → YieldsIf P ops S oi v a → S w →
      wpK P md ops Q S K fuel (listed.setIfInBounds i true) (a.put oi.dst v) w → wpK P md ops Q S K (fuel + 1) listed a w := by
  intro fuel
  induction fuel with
  | zero =>
    intro listed a w _ _ hr hy hS H
    refine ⟨fun h => (by rw [h] at hr; cases hr), fun j hj => ?_⟩
    by_cases hji : j = i
    · subst hji; exact hy.wpOp hi hS ⟨fun _ => hS, H⟩
    · have := ready_mono hj hji
      rw [H.1] at this
      cases this
  | succ fuel ih =>
    intro listed a w hc hfree hr hy hS H
    refine ⟨fun h => (by rw [h] at hr; cases hr), fun j hj => ?_⟩
    by_cases hji : j = i
    · subst hji; exact hy.wpOp hi hS ⟨fun _ => hS, H⟩
    · have hc2 := chain_step hj i cs hji hc
      have h1 := H.2 j (ready_mono hj hji)
      obtain ⟨hjun, oj, hoj, hall⟩ := mem_ready.1 hj
      have h2 := wpOp_putIf hoj (hfree j oj hoj hji hjun (not_on hr hall)) (fun cs b => hsel i oi cs b hi) (fun cs b => hsel j oj cs b hoj) hQ hy h1
      have hfree' : ∀ k ok, ops[k]? = some ok → k ≠ i → (listed.setIfInBounds j true).getD k true = false →
          (∀ e ∈ ok.after, Region.binds md e = true → e.on ≠ i) → oi.apart ops ok = true := fun k ok hk hki hun hno => by
        refine hfree k ok hk hki ?_ hno
        by_cases hjk : j = k
        · subst hjk; exact hjun
        · rw [getD_set_ne true hjk] at hun; exact hun
      have hUn : Un K (listed.setIfInBounds j true) := chain_un i cs hc2 K (List.mem_cons_of_mem _ hT)
      have hst : i ≠ K → Un K ((listed.setIfInBounds i true).setIfInBounds j true) := fun hne => by
        rw [Array.setIfInBounds_comm _ _ (Ne.symm hji)]
        unfold Un at hUn ⊢
        rw [getD_set_ne true hne]
        exact hUn
      refine wpOp_mono (fun a' w' h3 => ?_) h2
      have hSw := h3.2.1 (hst hiK)
      refine ⟨fun _ => hSw, ih (listed.setIfInBounds j true) a' w' hc2 hfree' (ready_mono hr (Ne.symm hji)) h3.1 hSw ?_⟩
      rw [Array.setIfInBounds_comm _ _ hji]
      exact h3.2.2
/-- One that yields in whatever world. -/
theorem firstP {i : Nat} {oi : Oper} {v : Value} (hi : ops[i]? = some oi) (hsel : ∀ (j : Nat) (o : Oper) cs b, ops[j]? = some o → o.op ≠ .select cs b)
    (hiK : i ≠ K) (hQ : ∀ c a w, Q (.panic c) (a.put oi.dst v) w → Q (.panic c) a w) :
    ∀ (fuel : Nat) (listed : Array Bool) (a : Act) (w : World),
      (∀ j oj, ops[j]? = some oj → j ≠ i → listed.getD j true = false → (∀ e ∈ oj.after, Region.binds md e = true → e.on ≠ i) → oi.apart ops oj = true) →
      i ∈ Region.ready md ops listed → YieldsIf P ops (fun _ => True) oi v a → (Un K listed → S w) →
      wpK P md ops Q S K fuel (listed.setIfInBounds i true) (a.put oi.dst v) w → wpK P md ops Q S K (fuel + 1) listed a w := by
  have hset : ∀ listed : Array Bool, Un K (listed.setIfInBounds i true) ↔ Un K listed := fun l => by
    unfold Un
    rw [getD_set_ne true hiK]
  intro fuel
  induction fuel with
  | zero =>
    intro listed a w _ hr hy hS H
    refine ⟨fun h => (by rw [h] at hr; cases hr), fun j hj => ?_⟩
    by_cases hji : j = i
    · subst hji; exact hy.wpOp hi trivial ⟨fun hu => hS ((hset _).1 hu), H⟩
    · have := ready_mono hj hji
      rw [H.1] at this
      cases this
  | succ fuel ih =>
    intro listed a w hfree hr hy hS H
    refine ⟨fun h => (by rw [h] at hr; cases hr), fun j hj => ?_⟩
    by_cases hji : j = i
    · subst hji; exact hy.wpOp hi trivial ⟨fun hu => hS ((hset _).1 hu), H⟩
    · have h1 := H.2 j (ready_mono hj hji)
      obtain ⟨hjun, oj, hoj, hall⟩ := mem_ready.1 hj
      have h2 := wpOp_putIf hoj (hfree j oj hoj hji hjun (not_on hr hall)) (fun cs b => hsel i oi cs b hi) (fun cs b => hsel j oj cs b hoj) hQ hy h1
      have hfree' : ∀ k ok, ops[k]? = some ok → k ≠ i → (listed.setIfInBounds j true).getD k true = false →
          (∀ e ∈ ok.after, Region.binds md e = true → e.on ≠ i) → oi.apart ops ok = true := fun k ok hk hki hun hno => by
        refine hfree k ok hk hki ?_ hno
        by_cases hjk : j = k
        · subst hjk; exact hjun
        · rw [getD_set_ne true hjk] at hun; exact hun
      refine wpOp_mono (fun a' w' h3 => ?_) h2
      have hSw : Un K (listed.setIfInBounds j true) → S w' := fun hu => h3.2.1 (by
        rw [Array.setIfInBounds_comm _ _ (Ne.symm hji)]
        exact (hset _).2 hu)
      refine ⟨hSw, ih (listed.setIfInBounds j true) a' w' hfree' (ready_mono hr (Ne.symm hji)) h3.1 hSw ?_⟩
      rw [Array.setIfInBounds_comm _ _ hji]
      exact h3.2.2
/-- An operation that is carried out, or left out, first. -/
theorem take (cs : List Nat) {i : Nat} {oi : Oper} {v : Value} {fuel : Nat} {listed : Array Bool} {a : Act} {w : World} (hi : ops.toList[i]? = some oi)
    (hs : Region.noSelect ops = true) (hf : Region.free md ops listed i = true) (hr : (Region.ready md ops listed).contains i = true)
    (hc : chain md ops listed (i :: cs) = true) (hT : (cs.contains K && !(i == K)) = true)
    (hQ : ∀ c a w, Q (.panic c) (a.put oi.dst v) w → Q (.panic c) a w) (hy : YieldsIf P ops S oi v a) (hS : S w)
    (h : wpK P md ops Q S K fuel (listed.setIfInBounds i true) (a.put oi.dst v) w) : wpK P md ops Q S K (fuel + 1) listed a w :=
  have hi' : ops[i]? = some oi := by rw [← Array.getElem?_toList]; exact hi
  have hT' : K ∈ cs ∧ i ≠ K := by simpa using hT
  first hi' (Region.noSelect_spec hs) hT'.1 hT'.2 hQ fuel listed a w hc (Region.free_spec hi' hf) (by simpa using hr) hy hS h
theorem takeP {i : Nat} {oi : Oper} {v : Value} {fuel : Nat} {listed : Array Bool} {a : Act} {w : World} (hi : ops.toList[i]? = some oi)
    (hs : Region.noSelect ops = true) (hf : Region.free md ops listed i = true) (hr : (Region.ready md ops listed).contains i = true) (hT : (i == K) = false)
    (hQ : ∀ c a w, Q (.panic c) (a.put oi.dst v) w → Q (.panic c) a w) (hy : YieldsIf P ops (fun _ => True) oi v a) (hS : S w)
    (h : wpK P md ops Q S K fuel (listed.setIfInBounds i true) (a.put oi.dst v) w) : wpK P md ops Q S K (fuel + 1) listed a w :=
  have hi' : ops[i]? = some oi := by rw [← Array.getElem?_toList]; exact hi
  firstP hi' (Region.noSelect_spec hs) (by simpa using hT) hQ fuel listed a w (Region.free_spec hi' hf) (by simpa using hr) hy (fun _ => hS) h
/-- The one operation that may come up. -/
theorem one {i : Nat} {o : Oper} {fuel : Nat} {listed : Array Bool} {a : Act} {w : World} (hr : Region.ready md ops listed = [i]) (ho : ops.toList[i]? = some o)
    (h : ∀ K' : Act → World → Prop, Shut (∀ a w, S w → (S w → wpK P md ops Q S K fuel (listed.setIfInBounds i true) a w) → K' a w) → if Region.wanted o (yielded ops a.tmps) = true then Oper.wp P o a w K' Q else K' (a.put o.dst undef) w) :
    wpK P md ops Q S K (fuel + 1) listed a w := by
  have ho' : ops[i]? = some o := by rw [← Array.getElem?_toList]; exact ho
  refine ⟨fun h0 => (by rw [hr] at h0; cases h0), fun j hj => ?_⟩
  rw [hr, List.mem_singleton] at hj
  subst hj
  exact wpOp_step ho' (fun K' hK => h K' (fun a w hS hW => hK a w ⟨fun _ => hS, hW hS⟩))
/-- One of two comes up. -/
theorem two {i j : Nat} {o o' : Oper} {fuel : Nat} {listed : Array Bool} {a : Act} {w : World} (hr : Region.ready md ops listed = [i, j]) (ho : ops.toList[i]? = some o) (ho' : ops.toList[j]? = some o')
    (h : ∀ K' : Act → World → Prop, Shut (∀ a w, S w → (S w → wpK P md ops Q S K fuel (listed.setIfInBounds i true) a w) → K' a w) → if Region.wanted o (yielded ops a.tmps) = true then Oper.wp P o a w K' Q else K' (a.put o.dst undef) w)
    (h' : ∀ K' : Act → World → Prop, Shut (∀ a w, S w → (S w → wpK P md ops Q S K fuel (listed.setIfInBounds j true) a w) → K' a w) → if Region.wanted o' (yielded ops a.tmps) = true then Oper.wp P o' a w K' Q else K' (a.put o'.dst undef) w) :
    wpK P md ops Q S K (fuel + 1) listed a w := by
  have ho1 : ops[i]? = some o := by rw [← Array.getElem?_toList]; exact ho
  have ho2 : ops[j]? = some o' := by rw [← Array.getElem?_toList]; exact ho'
  refine ⟨fun h0 => (by rw [hr] at h0; cases h0), fun k hk => ?_⟩
  rw [hr, List.mem_cons, List.mem_singleton] at hk
  rcases hk with rfl | rfl
  · exact wpOp_step ho1 (fun K' hK => h K' (fun a w hS hW => hK a w ⟨fun _ => hS, hW hS⟩))
  · exact wpOp_step ho2 (fun K' hK => h' K' (fun a w hS hW => hK a w ⟨fun _ => hS, hW hS⟩))
/-- The operations that are left come up in this order. -/
def forced (md : Region.Mode) (ops : Array Oper) : Array Bool → List Nat → Bool
  | listed, [] => (Region.ready md ops listed).isEmpty
  | listed, i :: r => (Region.ready md ops listed == [i]) && forced md ops (listed.setIfInBounds i true) r
theorem set_self (l : Array Bool) (k : Nat) : (l.setIfInBounds k true).getD k true = true := by
  rcases Nat.lt_or_ge k l.size with h | h <;> simp [h]
theorem not_un {l : Array Bool} {k : Nat} (j : Nat) (h : ¬ Un k l) : ¬ Un k (l.setIfInBounds j true) := by
  unfold Un at h ⊢
  by_cases hj : j = k
  · subst hj; rw [set_self]; decide
  · rw [getD_set_ne true hj]; exact h
theorem rest : ∀ (l : List Nat) (os : List Oper) (fuel : Nat) (listed : Array Bool) (a : Act) (w : World), (∀ i, l.head? = some i → ¬ Un K (listed.setIfInBounds i true)) → forced md ops listed l = true → l.map (fun i => ops.toList[i]?) = os.map some → l.length ≤ fuel →
    wpList P ops Q os a w → wpK P md ops Q S K fuel listed a w
  | [], os, fuel, listed, a, w, _, hf, hm, _, h => by
    obtain rfl : os = [] := by cases os with | nil => rfl | cons => simp at hm
    unfold forced at hf
    have hr : Region.ready md ops listed = [] := by simpa using hf
    cases fuel with
    | zero => exact ⟨hr, h⟩
    | succ n => exact ⟨fun _ => h, by rw [hr]; simp⟩
  | i :: l, os, fuel, listed, a, w, hs, hf, hm, hl, h => by
    cases fuel with
    | zero => simp at hl
    | succ fuel =>
      cases os with
      | nil => simp at hm
      | cons o os =>
        have hs1 := hs i rfl
        unfold forced at hf
        rw [Bool.and_eq_true, beq_iff_eq] at hf
        rw [List.map_cons, List.map_cons, List.cons.injEq] at hm
        have ho : ops[i]? = some o := by rw [← Array.getElem?_toList]; exact hm.1
        refine ⟨fun h0 => (by rw [hf.1] at h0; cases h0), fun j hj => ?_⟩
        rw [hf.1, List.mem_singleton] at hj
        subst hj
        unfold wpList at h
        unfold wpOp
        simp only [ho]
        have go : ∀ a' w', wpList P ops Q os a' w' → (Un K (listed.setIfInBounds j true) → S w') ∧ wpK P md ops Q S K fuel (listed.setIfInBounds j true) a' w' := fun a' w' h' =>
          ⟨fun hn => absurd hn hs1, rest l os fuel _ a' w' (fun k _ => not_un k hs1) hf.2 hm.2 (by simpa using hl) h'⟩
        by_cases hw : Region.wanted o (yielded ops a.tmps) = true
        · simp only [hw, if_true] at h ⊢
          rcases h with h | h
          · exact .inl (Oper.wp_mono go h)
          · exact .inr h
        · simp only [hw] at h ⊢
          exact go _ _ h
/-- From operation K on the rest comes up in this order: it is walked as it stands. -/
theorem tail (l : List Nat) (os : List Oper) {fuel : Nat} {listed : Array Bool} {a : Act} {w : World} (hs : (l.head? == some K) = true) (hf : forced md ops listed l = true) (hm : l.map (fun i => ops.toList[i]?) = os.map some) (hl : l.length ≤ fuel)
    (h : wpList P ops Q os a w) : wpK P md ops Q S K fuel listed a w := by
  refine rest l os fuel listed a w (fun i hi => ?_) hf hm hl h
  rw [beq_iff_eq, hi] at hs
  injection hs with hs
  subst hs
  unfold Un
  rw [set_self]
  decide
theorem done {fuel : Nat} {listed : Array Bool} {a : Act} {w : World} (hr : Region.ready md ops listed = []) (h : Q .normal a w) : wpK P md ops Q S K fuel listed a w := by
  cases fuel with
  | zero => exact ⟨hr, h⟩
  | succ n => exact ⟨fun _ => h, by rw [hr]; simp⟩
/-- The beginning: S is shown of the world behind the draw, once, and handed on. -/
theorem begin {id : Nat} {a : Act} {w : World} (K : Nat) (hm : P.follows .mixedOrders = true) (hS : S w.drew)
    (h : S w.drew → wpK P .any ops Q S K ops.size (Array.replicate ops.size false) a w.drew) : (Code.region id ops true).wp P Q a w :=
  wp_region_any hm (wpAny_of _ _ _ _ (h hS))
end
end Go.Proofs.Ytghnigmmkenddaa.Rk
