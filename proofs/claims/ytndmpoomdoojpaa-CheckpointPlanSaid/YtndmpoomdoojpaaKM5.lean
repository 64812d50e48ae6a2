/- Optimal plans: plain mathematics. -/
import Derived.Test.YtndmpoomdoojpaaKM2
import Derived.Test.YtndmpoomdoojpaaK3
import Derived.Test.YtndmpoomdoojpaaK4
namespace Go.Proofs.Ytndmpoomdoojpaa.Ck
open Go.ChangeShapes Go.WideShapes Go.ChangeAt Go.RowKit
set_option linter.unusedVariables false
/-- The sum of a split. -/
def sm (n f k : Nat) : Int := (k : Int) + co ((n - k : Nat) : Int) ((f - 1 : Nat) : Int) + co (k : Int) (f : Int)
/-- The first split of the least sum, of those up to a number. -/
def spl (n f : Nat) : Nat → Nat
  | 0 => 1
  | m + 1 => if sm n f (m + 1) < sm n f (spl n f m) then m + 1 else spl n f m
theorem spl_bd (n f : Nat) : ∀ m, 1 ≤ spl n f m ∧ spl n f m ≤ max 1 m
  | 0 => ⟨Nat.le_refl _, by show 1 ≤ max 1 0; omega⟩
  | m + 1 => by
    have ih := spl_bd n f m
    unfold spl
    split <;> omega
theorem spl_le (n f : Nat) : ∀ m k, 1 ≤ k → k ≤ max 1 m → sm n f (spl n f m) ≤ sm n f k
  | 0, k, h1, h2 => by
    obtain rfl : k = 1 := by omega
    exact Int.le_refl _
  | m + 1, k, h1, h2 => by
    have ih := spl_le n f m
    unfold spl
    by_cases hk : k = m + 1
    · subst hk
      split <;> omega
    · have := ih k h1 (by omega)
      split <;> omega
/-- The least sum is the cost. -/
theorem bl_min {k n : Nat} (hk : k + 1 < 65) (hn : n < 65) : ∀ m, m < n → ∀ x : Int, (∀ j, 1 ≤ j → j ≤ m → x ≤ sm n (k + 1) j) → x ≤ (n : Int) * (n - 1) / 2 → x ≤ bl (R k) (R (k + 1)) n m
  | 0, _, x, _, h => h
  | m + 1, hm, x, hj, h => by
    unfold bl
    have h1 := bl_min hk hn m (by omega) x (fun j a b => hj j a (by omega)) h
    have h2 := hj (m + 1) (by omega) (Nat.le_refl _)
    unfold sm at h2
    rw [R_get (by omega), R_get (by omega)]
    simp only [Nat.add_sub_cancel] at h2
    omega
theorem bl_le {k n : Nat} (hk : k + 1 < 65) (hn : n < 65) : ∀ m, m < n → ∀ j, 1 ≤ j → j ≤ m → bl (R k) (R (k + 1)) n m ≤ sm n (k + 1) j
  | 0, _, j, h1, h2 => by omega
  | m + 1, hm, j, h1, h2 => by
    unfold bl
    by_cases hj : j = m + 1
    · subst hj
      unfold sm
      rw [R_get (by omega), R_get (by omega)]
      simp only [Nat.add_sub_cancel]
      omega
    · have := bl_le hk hn m (by omega) j h1 (by omega)
      omega
theorem co_small {f : Nat} (hf : f < 65) : co 0 f = 0 ∧ co 1 f = 0 := by
  have h : ((List.range 65).all fun (s : Nat) => decide (co 0 s = 0) && decide (co 1 s = 0)) = true := by decide +kernel
  have := List.all_eq_true.1 h f (List.mem_range.2 hf)
  simpa using this
theorem tri (m : Nat) : ((m + 1 : Nat) : Int) * (((m + 1 : Nat) : Int) - 1) / 2 = (m : Int) + (m : Int) * ((m : Int) - 1) / 2 := by
  have e : ((m + 1 : Nat) : Int) * (((m + 1 : Nat) : Int) - 1) = (m : Int) * ((m : Int) - 1) + (m : Int) * 2 := by
    rw [show ((m + 1 : Nat) : Int) - 1 = (m : Int) by omega, show ((m + 1 : Nat) : Int) = (m : Int) + 1 by omega, Int.add_mul, Int.mul_sub]
    omega
  rw [e, Int.add_mul_ediv_right _ _ (by decide), Int.add_comm]
theorem co_tri {n : Nat} (hn : n < 65) : co (n : Int) 0 = (n : Int) * ((n : Int) - 1) / 2 := (rec_zero hn).symm
theorem co_zero_step {m : Nat} (hm : m + 1 < 65) : (m : Int) + co (m : Int) 0 = co ((m + 1 : Nat) : Int) 0 := by
  rw [co_tri hm, co_tri (by omega), tri]
theorem spl_cost {n f : Nat} (h2 : 2 ≤ n) (hn : n < 65) (h1 : 1 ≤ f) (hf : f < 65) : sm n f (spl n f (n - 1)) = co (n : Int) (f : Int) := by
  obtain ⟨k, rfl⟩ : ∃ k, f = k + 1 := ⟨f - 1, by omega⟩
  have hr := rec_ok (k := k) (n := n) (by omega) hn
  have hb := spl_bd n (k + 1) (n - 1)
  refine Int.le_antisymm ?_ ?_
  · rw [← hr]
    refine bl_min (by omega) hn (n - 1) (by omega) _ (fun j a b => spl_le n (k + 1) (n - 1) j a (by omega)) ?_
    have h := spl_le n (k + 1) (n - 1) 1 (Nat.le_refl _) (by omega)
    have hs : sm n (k + 1) 1 = 1 + co ((n - 1 : Nat) : Int) (k : Int) + co 1 ((k + 1 : Nat) : Int) := rfl
    rw [(co_small hf).2] at hs
    have hc : co ((n - 1 : Nat) : Int) (k : Int) ≤ co ((n - 1 : Nat) : Int) 0 := by
      by_cases hk : k ≤ 63
      · exact (co_ext (n := ((n - 1 : Nat) : Int)) (s := (k : Int)) (by omega) (by omega) (by omega) (by omega)).2.2.2.1
      · omega
    obtain ⟨m, rfl⟩ : ∃ m, n = m + 1 := ⟨n - 1, by omega⟩
    rw [tri]
    rw [co_tri (by omega)] at hc
    simp only [Nat.add_sub_cancel] at hc hs h ⊢
    omega
  · rw [← hr]
    exact bl_le (by omega) hn (n - 1) (by omega) _ hb.1 (by omega)
/-- The advances from a state. -/
def adv (fr : Int) : Nat → List Act3
  | 0 => []
  | k + 1 => adv fr k ++ [(1, fr + ((k + 1 : Nat) : Int), 0)]
theorem adv_len (fr : Int) : ∀ k, (adv fr k).length = k
  | 0 => rfl
  | k + 1 => by rw [adv, List.length_append, adv_len fr k]; rfl
/-- The plan of a number of steps after a state, which lies in a slot, with some free slots from a number on. -/
def pl : Nat → Int → Nat → Nat → Int → Int → List Act3
  | 0, _, _, _, _, _ => []
  | m + 1, fr, n, f, z, nx =>
    if n = 0 then [] else if n = 1 then [(4, fr + 1, 0)] else
    if f = 0 then adv fr (n - 1) ++ ([(4, fr + (n : Int), 0), (3, fr, z)] ++ pl m fr (n - 1) f z nx)
    else adv fr (spl n f (n - 1)) ++ ([(2, fr + (spl n f (n - 1) : Int), nx)] ++ (pl m (fr + (spl n f (n - 1) : Int)) (n - spl n f (n - 1)) (f - 1) nx (nx + 1) ++ ([(3, fr, z)] ++ pl m fr (spl n f (n - 1)) f z nx)))
/-- A run of actions that are all valid. -/
def rn (n s : Int) : St → List Act3 → Option St
  | t, [] => some t
  | t, a :: xs => if val n s t a = true then rn n s (nxt t a) xs else none
theorem rn_app {n s : Int} : ∀ {t u : St} {xs ys : List Act3}, rn n s t xs = some u → rn n s t (xs ++ ys) = rn n s u ys
  | t, u, [], ys, h => by cases h; rfl
  | t, u, a :: xs, ys, h => by
    rw [List.cons_append]
    show (if val n s t a = true then rn n s (nxt t a) (xs ++ ys) else none) = _
    have h : (if val n s t a = true then rn n s (nxt t a) xs else none) = some u := h
    by_cases hv : val n s t a = true
    · rw [if_pos hv] at h ⊢; exact rn_app h
    · rw [if_neg hv] at h; cases h
theorem rn_one {n s : Int} {t : St} {a : Act3} {ys : List Act3} (h : val n s t a = true) : rn n s t ([a] ++ ys) = rn n s (nxt t a) ys := by
  rw [List.singleton_append, rn, if_pos h]
theorem go_rn {n s len : Int} : ∀ {xs : List Act3} {t u : St} {i : Int}, rn n s t xs = some u → go n s len t i xs = if 0 < u.left then (len, 6) else (u.cost, 0)
  | [], t, u, i, h => by cases h; rfl
  | a :: xs, t, u, i, h => by
    unfold rn at h
    unfold go
    by_cases hv : val n s t a = true
    · rw [if_pos hv] at h ⊢; exact go_rn h
    · rw [if_neg hv] at h; cases h
theorem adv_run {N s : Int} {t : St} {fr : Int} (hnow : t.now = fr) (h0 : 0 ≤ fr) : ∀ k : Nat, fr + (k : Int) ≤ N → rn N s t (adv fr k) = some ⟨t.held, fr + (k : Int), t.left, t.cost + (k : Int)⟩
  | 0, _ => by
    show some t = some _
    obtain ⟨a, b, c, d⟩ := t
    simp only at hnow
    subst hnow
    simp
  | k + 1, h => by
    rw [adv, rn_app (adv_run hnow h0 k (by omega))]
    show (if val N s _ _ = true then some (nxt _ _) else none) = _
    rw [if_pos]
    · show some (St.mk t.held (fr + ((k + 1 : Nat) : Int)) t.left (t.cost + (k : Int) + 1)) = _
      rw [show t.cost + (k : Int) + 1 = t.cost + ((k + 1 : Nat) : Int) by omega]
    · rw [val1]
      simp only [Bool.and_eq_true, decide_eq_true_eq]
      exact ⟨trivial, by omega, by omega⟩
/-- What a slot holds: the state from which the plan goes on. -/
def Held (t : St) (fr z nx : Int) : Prop := (z = -1 ∧ fr = 0) ∨ (0 ≤ z ∧ z < nx ∧ t.held.getD z.toNat 0 = fr)
theorem val_restore {N s : Int} {t : St} {fr z nx : Int} (h : Held t fr z nx) (h0 : 0 ≤ fr) (hs : nx ≤ s) : val N s t (3, fr, z) = true := by
  rw [val3]
  rcases h with ⟨rfl, rfl⟩ | ⟨a, b, c⟩
  · simp
  · have : sl s z = true := decide_eq_true ⟨a, by omega⟩
    rw [this, decide_eq_true c, decide_eq_true h0]
    rfl
theorem pl_run (N s : Int) (hN : N ≤ 64) (hs : s ≤ 64) : ∀ (m n f : Nat) (fr z nx : Int) (t : St), n ≤ m → 0 ≤ fr → fr + (n : Int) ≤ N → t.now = fr → t.left = fr + (n : Int) → 0 ≤ nx → nx + (f : Int) ≤ s → t.held.length = 64 → Held t fr z nx →
    ∃ u, rn N s t (pl m fr n f z nx) = some u ∧ u.left = fr ∧ u.cost = t.cost + co (n : Int) (f : Int) ∧ u.held.length = 64 ∧ ∀ j : Nat, (j : Int) < nx → u.held.getD j 0 = t.held.getD j 0
  | 0, n, f, fr, z, nx, t, hm, h0, hl, hnow, hleft, hx, hf, hh, hz => by
    obtain rfl : n = 0 := by omega
    refine ⟨t, rfl, by omega, ?_, hh, fun j hj => rfl⟩
    have := (co_small (f := f) (by omega)).1
    simp only [Int.natCast_zero] at *
    omega
  | m + 1, n, f, fr, z, nx, t, hm, h0, hl, hnow, hleft, hx, hf, hh, hz => by
    have hf65 : f < 65 := by omega
    have hn65 : n < 65 := by omega
    unfold pl
    by_cases n0 : n = 0
    · subst n0
      rw [if_pos rfl]
      refine ⟨t, rfl, by omega, ?_, hh, fun j hj => rfl⟩
      have := (co_small hf65).1
      simp only [Int.natCast_zero] at *
      omega
    rw [if_neg n0]
    by_cases n1 : n = 1
    · subst n1
      rw [if_pos rfl]
      have hv : val N s t (4, fr + 1, 0) = true := by
        rw [val4]
        simp only [Bool.and_eq_true, decide_eq_true_eq]
        exact ⟨trivial, by omega, by omega, by omega⟩
      refine ⟨nxt t (4, fr + 1, 0), ?_, ?_, ?_, hh, fun j hj => rfl⟩
      · show (if val N s t _ = true then some _ else none) = _
        rw [if_pos hv]
      · show t.left - 1 = fr
        omega
      · show t.cost = t.cost + co ((1 : Nat) : Int) (f : Int)
        have := (co_small hf65).2
        simp only [Int.natCast_one]
        omega
    rw [if_neg n1]
    by_cases f0 : f = 0
    · subst f0
      rw [if_pos rfl, rn_app (adv_run hnow h0 (n - 1) (by omega))]
      rw [show ([(4, fr + (n : Int), 0), (3, fr, z)] ++ pl m fr (n - 1) 0 z nx : List Act3) = [(4, fr + (n : Int), 0)] ++ ([(3, fr, z)] ++ pl m fr (n - 1) 0 z nx) from rfl]
      rw [rn_one (by
        rw [val4]
        simp only [Bool.and_eq_true, decide_eq_true_eq]
        exact ⟨trivial, by omega, by omega, by omega⟩)]
      rw [rn_one (val_restore (t := nxt _ _) (nx := nx) (by exact hz) h0 (by omega))]
      obtain ⟨u, e1, e2, e3, e4, e5⟩ := pl_run N s hN hs m (n - 1) 0 fr z nx (nxt (nxt ⟨t.held, fr + ((n - 1 : Nat) : Int), t.left, t.cost + ((n - 1 : Nat) : Int)⟩ (4, fr + (n : Int), 0)) (3, fr, z)) (by omega) h0 (by omega) rfl
        (by show t.left - 1 = _; omega) hx hf hh hz
      refine ⟨u, e1, e2, ?_, e4, e5⟩
      rw [e3]
      show t.cost + ((n - 1 : Nat) : Int) + co ((n - 1 : Nat) : Int) ((0 : Nat) : Int) = _
      obtain ⟨k, rfl⟩ : ∃ k, n = k + 1 := ⟨n - 1, by omega⟩
      have := co_zero_step (m := k) (by omega)
      simp only [Nat.add_sub_cancel, Int.natCast_zero] at *
      omega
    rw [if_neg f0]
    have hb := spl_bd n f (n - 1)
    have hcost := spl_cost (n := n) (f := f) (by omega) hn65 (by omega) hf65
    obtain ⟨k, hk⟩ : ∃ k, spl n f (n - 1) = k := ⟨_, rfl⟩
    rw [hk] at hb hcost ⊢
    unfold sm at hcost
    rw [rn_app (adv_run hnow h0 k (by omega))]
    rw [rn_one (by
      rw [val2]
      have : sl s nx = true := decide_eq_true ⟨hx, by omega⟩
      simp [this])]
    have hl2 : nx.toNat < t.held.length := by omega
    obtain ⟨u, e1, e2, e3, e4, e5⟩ := pl_run N s hN hs m (n - k) (f - 1) (fr + (k : Int)) nx (nx + 1) (nxt ⟨t.held, fr + (k : Int), t.left, t.cost + (k : Int)⟩ (2, fr + (k : Int), nx)) (by omega) (by omega) (by omega) rfl
      (by show t.left = _; omega) (by omega) (by omega) (by show (t.held.set _ _).length = 64; rw [List.length_set]; exact hh)
      (.inr ⟨hx, by omega, by
        show (t.held.set nx.toNat (fr + (k : Int))).getD nx.toNat 0 = _
        unfold List.getD
        rw [List.getElem?_set_self hl2]; rfl⟩)
    rw [rn_app e1]
    have keep : ∀ j : Nat, (j : Int) < nx → u.held.getD j 0 = t.held.getD j 0 := fun j hj => by
      rw [e5 j (by omega)]
      show (t.held.set nx.toNat (fr + (k : Int))).getD j 0 = _
      unfold List.getD
      rw [List.getElem?_set_ne (by omega)]
    have hz2 : Held u fr z nx := by
      rcases hz with h | ⟨a, b, c⟩
      · exact .inl h
      · exact .inr ⟨a, b, by rw [keep z.toNat (by omega)]; exact c⟩
    rw [rn_one (val_restore hz2 h0 (by omega))]
    obtain ⟨v, g1, g2, g3, g4, g5⟩ := pl_run N s hN hs m k f fr z nx (nxt u (3, fr, z)) (by omega) h0 (by omega) rfl (by show u.left = _; rw [e2]) hx hf e4 hz2
    refine ⟨v, g1, g2, ?_, g4, fun j hj => ?_⟩
    · rw [g3]
      show u.cost + _ = _
      rw [e3]
      show t.cost + (k : Int) + _ + _ = _
      omega
    · rw [g5 j hj]
      exact keep j hj
theorem pl_len : ∀ (m n f : Nat) (fr z nx : Int), n ≤ m → n < 65 → f < 65 → ((pl m fr n f z nx).length : Int) ≤ co (n : Int) (f : Int) + 5 * (n : Int) ∧ (1 ≤ n → ((pl m fr n f z nx).length : Int) ≤ co (n : Int) (f : Int) + 5 * (n : Int) - 4)
  | 0, n, f, fr, z, nx, hm, hn, hf => by
    obtain rfl : n = 0 := by omega
    have := (co_small hf).1
    simp only [Int.natCast_zero]
    refine ⟨?_, fun h => by omega⟩
    show (0 : Int) ≤ _
    omega
  | m + 1, n, f, fr, z, nx, hm, hn, hf => by
    have c0 := (co_small hf).1
    have c1 := (co_small hf).2
    unfold pl
    by_cases n0 : n = 0
    · subst n0
      rw [if_pos rfl]
      simp only [Int.natCast_zero]
      refine ⟨?_, fun h => by omega⟩
      show (0 : Int) ≤ _
      omega
    rw [if_neg n0]
    by_cases n1 : n = 1
    · subst n1
      rw [if_pos rfl]
      simp only [Int.natCast_one]
      refine ⟨?_, fun h => ?_⟩ <;> show (1 : Int) ≤ _ <;> omega
    rw [if_neg n1]
    by_cases f0 : f = 0
    · subst f0
      rw [if_pos rfl]
      obtain ⟨k, rfl⟩ : ∃ k, n = k + 1 := ⟨n - 1, by omega⟩
      have h := (pl_len m k 0 fr z nx (by omega) (by omega) hf).2 (by omega)
      have e := co_zero_step (m := k) (by omega)
      simp only [Nat.add_sub_cancel, Int.natCast_zero] at *
      simp only [List.length_append, adv_len, List.length_cons, List.length_nil]
      omega
    rw [if_neg f0]
    have hb := spl_bd n f (n - 1)
    have hcost := spl_cost (n := n) (f := f) (by omega) hn (by omega) hf
    obtain ⟨k, hk⟩ : ∃ k, spl n f (n - 1) = k := ⟨_, rfl⟩
    rw [hk] at hb hcost ⊢
    unfold sm at hcost
    have h1 := (pl_len m (n - k) (f - 1) (fr + (k : Int)) nx (nx + 1) (by omega) (by omega) (by omega)).2 (by omega)
    have h2 := (pl_len m k f fr z nx (by omega) (by omega) hf).2 (by omega)
    simp only [List.length_append, adv_len, List.length_cons, List.length_nil]
    omega
/-- The slots that a plan stores into. -/
theorem pl_slots : ∀ (m n f : Nat) (fr z nx : Int), ∀ a ∈ pl m fr n f z nx, a.1 = 2 → nx ≤ a.2.2 ∧ a.2.2 < nx + (f : Int)
  | 0, n, f, fr, z, nx, a, ha, h2 => by cases ha
  | m + 1, n, f, fr, z, nx, a, ha, h2 => by
    have hadv : ∀ k, a ∈ adv fr k → a.1 = 1 := fun k => by
      induction k with
      | zero => intro h; cases h
      | succ k ih =>
        intro h
        rw [adv, List.mem_append] at h
        rcases h with h | h
        · exact ih h
        · rw [List.mem_singleton] at h; rw [h]
    unfold pl at ha
    split at ha
    · cases ha
    split at ha
    · rw [List.mem_singleton] at ha; subst ha; exact absurd h2 (by show ¬ (4 : Int) = 2; decide)
    split at ha
    · simp only [List.mem_append, List.mem_cons, List.not_mem_nil, or_false] at ha
      rcases ha with h | (rfl | rfl) | h
      · rw [hadv _ h] at h2; exact absurd h2 (by decide)
      · exact absurd h2 (by show ¬ (4 : Int) = 2; decide)
      · exact absurd h2 (by show ¬ (3 : Int) = 2; decide)
      · exact pl_slots m _ f fr z nx a h h2
    · rename_i hf
      simp only [List.mem_append, List.mem_cons, List.not_mem_nil, or_false] at ha
      rcases ha with h | rfl | h | rfl | h
      · rw [hadv _ h] at h2; exact absurd h2 (by decide)
      · show nx ≤ nx ∧ nx < nx + (f : Int)
        omega
      · have := pl_slots m _ (f - 1) _ _ (nx + 1) a h h2
        omega
      · exact absurd h2 (by show ¬ (3 : Int) = 2; decide)
      · exact pl_slots m _ f fr z nx a h h2
theorem pk_fold {s : Int} : ∀ (xs : List Act3) (l : List Int), (∀ a ∈ xs, a.1 = 2 → 0 ≤ a.2.2 ∧ a.2.2 < s) → l.Nodup → (∀ z ∈ l, 0 ≤ z ∧ z < s) → (xs.foldl pk1 l).Nodup ∧ ∀ z ∈ xs.foldl pk1 l, 0 ≤ z ∧ z < s
  | [], l, _, h1, h2 => ⟨h1, h2⟩
  | a :: xs, l, ha, h1, h2 => by
    rw [List.foldl_cons]
    refine pk_fold xs (pk1 l a) (fun b hb => ha b (by simp [hb])) ?_ ?_
    · unfold pk1
      split
      · rename_i h
        rw [List.nodup_append]
        refine ⟨h1, by simp, fun x hx y hy => ?_⟩
        rw [List.mem_singleton] at hy
        subst hy
        intro e
        subst e
        have := h.2
        rw [List.contains_eq_mem] at this
        simp [hx] at this
      · exact h1
    · unfold pk1
      split
      · rename_i h
        intro x hx
        rw [List.mem_append, List.mem_singleton] at hx
        rcases hx with hx | rfl
        · exact h2 x hx
        · exact ha a (by simp) h.1
      · exact h2
theorem nodup_len : ∀ {s : Nat} {l : List Int}, l.Nodup → (∀ z ∈ l, 0 ≤ z ∧ z < (s : Int)) → l.length ≤ s
  | 0, l, _, h2 => by
    cases l with
    | nil => exact Nat.le_refl _
    | cons a l => have := h2 a (by simp); omega
  | s + 1, l, h1, h2 => by
    have h := nodup_len (s := s) (l := l.erase (s : Int)) (h1.erase _) (fun z hz => by
      have hm := h1.mem_erase_iff.1 hz
      have := h2 z hm.2
      have := hm.1
      omega)
    by_cases hm : (s : Int) ∈ l
    · rw [List.length_erase_of_mem hm] at h
      omega
    · rw [List.erase_of_not_mem hm] at h
      omega
/-- The plan is accepted at the least cost. -/
theorem pl_ck {n s : Nat} (hn : n < 65) (hs : s < 65) : ck (n : Int) (s : Int) (pl n 0 n s (-1) 0) = (co (n : Int) (s : Int), 0) := by
  have hl := (pl_len n n s 0 (-1) 0 (Nat.le_refl _) hn hs).1
  have hc := co_bd (n := (n : Int)) (s := (s : Int)) (by omega) (by omega) (by omega) (by omega)
  obtain ⟨u, e1, e2, e3, e4, e5⟩ := pl_run (n : Int) (s : Int) (by omega) (by omega) n n s 0 (-1) 0 ⟨List.replicate 64 (-1), 0, (n : Int), 0⟩ (Nat.le_refl _) (Int.le_refl _) (by omega) rfl (by show (n : Int) = _; omega) (Int.le_refl _) (by omega) (by show (List.replicate 64 (-1 : Int)).length = 64; simp) (.inl ⟨rfl, rfl⟩)
  unfold ck
  have hi : inr (n : Int) (s : Int) = true := decide_eq_true ⟨by omega, by omega, by omega, by omega⟩
  rw [if_neg (by rw [hi]; decide), if_neg (by omega), go_rn e1, if_neg (by omega), e3]
  show ((0 : Int) + _, _) = _
  rw [Int.zero_add]
theorem pl_peak {n s : Nat} : (pkS (pl n 0 n s (-1) 0) (pl n 0 n s (-1) 0).length).length ≤ s := by
  unfold pkS
  rw [List.take_length]
  have h := pk_fold (s := (s : Int)) (pl n 0 n s (-1) 0) [] (fun a ha h2 => by have := pl_slots n n s 0 (-1) 0 a ha h2; omega) List.nodup_nil (fun z hz => by cases hz)
  exact nodup_len h.1 h.2
end Go.Proofs.Ytndmpoomdoojpaa.Ck
