/- Linear forms: sums of near numbers, the mathematics. -/
import Derived.Test.YthdeaneffnlffaaY30
import Derived.Test.YthdeaneffnlffaaY24
import Derived.Test.YthdeaneffnlffaaY19
namespace Go.Proofs.Ythdeaneffnlffaa.Ln
open Go.ChangeShapes Go.WideShapes Go.ChangeAt Go.RowKit
set_option linter.unusedVariables false
set_option linter.unusedSimpArgs false
open Go.Proofs.Ythdeaneffnlffaa.Nm
def nr (n : Int) : Bool := decide (-1048576 ≤ n) && decide (n ≤ 1048576)
theorem nr_iff {n : Int} : nr n = true ↔ (-1048576 ≤ n ∧ n ≤ 1048576) := by
  unfold nr
  rw [Bool.and_eq_true, decide_eq_true_eq, decide_eq_true_eq]
def nlB (k : Int) (xs : List Mo) : Bool := smB xs && nr k && xs.all fun m => nr m.2
def neB (es : List Mo) : Bool := decide (es.length ≤ 40) && es.all fun m => nr m.2
theorem nlB_yes {k : Int} {xs : List Mo} (h : nlB k xs = true) : xs.length ≤ 40 ∧ (-1048576 ≤ k ∧ k ≤ 1048576) ∧ ∀ m ∈ xs, -1048576 ≤ m.2 ∧ m.2 ≤ 1048576 := by
  unfold nlB at h
  rw [Bool.and_eq_true, Bool.and_eq_true, List.all_eq_true] at h
  exact ⟨(smB_yes h.1.1).1, nr_iff.1 h.1.2, fun m hm => nr_iff.1 (h.2 m hm)⟩
theorem neB_yes {es : List Mo} (h : neB es = true) : es.length ≤ 40 ∧ ∀ m ∈ es, -1048576 ≤ m.2 ∧ m.2 ≤ 1048576 := by
  unfold neB at h
  rw [Bool.and_eq_true, decide_eq_true_eq, List.all_eq_true] at h
  exact ⟨h.1, fun m hm => nr_iff.1 (h.2 m hm)⟩
theorem mg_bd (A B : Int) (hA : 0 ≤ A) (hB : 0 ≤ B) (xs ys : List Mo) : (∀ m ∈ xs, -A ≤ m.2 ∧ m.2 ≤ A) → (∀ m ∈ ys, -B ≤ m.2 ∧ m.2 ≤ B) → ∀ m ∈ mg xs ys, -(A + B) ≤ m.2 ∧ m.2 ≤ A + B := by
  refine mg_ind (P := fun xs ys => (∀ m ∈ xs, -A ≤ m.2 ∧ m.2 ≤ A) → (∀ m ∈ ys, -B ≤ m.2 ∧ m.2 ≤ B) → ∀ m ∈ mg xs ys, -(A + B) ≤ m.2 ∧ m.2 ≤ A + B) ?_ ?_ ?_ ?_ ?_ _ xs ys (Nat.le_refl _)
  · intro ys _ h m hm; rw [nil_mg] at hm; have := h m hm; omega
  · intro x xs h _ m hm; rw [mg_nil] at hm; have := h m hm; omega
  · intro x xs y ys h ih hx hy m hm
    rw [mg_lt h] at hm
    rcases List.mem_cons.1 hm with rfl | hm
    · have := hx m (by simp); omega
    · exact ih (fun m hm => hx m (List.mem_cons_of_mem _ hm)) hy m hm
  · intro x xs y ys h ih hx hy m hm
    rw [mg_gt h] at hm
    rcases List.mem_cons.1 hm with rfl | hm
    · have := hy m (by simp); omega
    · exact ih hx (fun m hm => hy m (List.mem_cons_of_mem _ hm)) m hm
  · intro x xs y ys h ih hx hy m hm
    rw [mg_eq h] at hm
    rcases List.mem_cons.1 hm with rfl | hm
    · have := hx x (by simp); have := hy y (by simp); simp only; omega
    · exact ih (fun m hm => hx m (List.mem_cons_of_mem _ hm)) (fun m hm => hy m (List.mem_cons_of_mem _ hm)) m hm
theorem mg_comm (xs ys : List Mo) : mg xs ys = mg ys xs := by
  refine mg_ind (P := fun xs ys => mg xs ys = mg ys xs) ?_ ?_ ?_ ?_ ?_ _ xs ys (Nat.le_refl _)
  · intro ys; rw [nil_mg, mg_nil]
  · intro x xs; rw [nil_mg, mg_nil]
  · intro x xs y ys h ih; rw [mg_lt h, mg_gt h, ih]
  · intro x xs y ys h ih; rw [mg_gt h, mg_lt h, ih]
  · intro x xs y ys h ih; rw [mg_eq h, mg_eq h.symm, ih, h, Int.add_comm]
theorem evS_mg (es xs ys : List Mo) : evS es (mg xs ys) = evS es xs + evS es ys := by
  refine mg_ind (P := fun xs ys => evS es (mg xs ys) = evS es xs + evS es ys) ?_ ?_ ?_ ?_ ?_ _ xs ys (Nat.le_refl _)
  · intro ys; rw [nil_mg]; simp [evS]
  · intro x xs; rw [mg_nil]; simp [evS]
  · intro x xs y ys h ih; rw [mg_lt h, evS, ih, show evS es (x :: xs) = x.2 * co es x.1 + evS es xs from rfl, Int.add_assoc]
  · intro x xs y ys h ih; rw [mg_gt h, evS, ih, evS, evS]; omega
  · intro x xs y ys h ih; rw [mg_eq h, evS, ih, evS, evS, h]; simp only; rw [Int.add_mul]; omega
theorem wrap_near {n : Int} (h1 : -9223372036854775808 ≤ n) (h2 : n ≤ 9223372036854775807) : wrap64 n = n := by unfold wrap64; omega
theorem flt_near {l : List Mo} (h : ∀ m ∈ l, -9223372036854775808 ≤ m.2 ∧ m.2 ≤ 9223372036854775807) : flt l = l.filter fun m => m.2 != 0 := by
  unfold flt
  rw [show (l.map fun m => (m.1, wrap64 m.2)) = l from ?_]
  conv => rhs; rw [← List.map_id l]
  exact List.map_congr_left fun m hm => by rw [wrap_near (h m hm).1 (h m hm).2]; rfl
theorem evS_flt (es : List Mo) {l : List Mo} : evS es (l.filter fun m => m.2 != 0) = evS es l := by
  induction l with
  | nil => rfl
  | cons m l ih =>
    rw [List.filter_cons]
    by_cases h : m.2 = 0
    · rw [if_neg (by simp [h]), ih, evS, h]; omega
    · rw [if_pos (by simp [h]), evS, evS, ih]
theorem okL_flt {l : List Mo} (hs : Srt (l.map (·.1))) (hn : ∀ m ∈ l, nmB m.1 = true) : okL (l.filter fun m => m.2 != 0) = true := by
  rw [okL_iff]
  refine ⟨?_, fun m hm => ?_⟩
  · unfold Srt at *
    exact List.Pairwise.sublist (List.Sublist.map _ List.filter_sublist) hs
  · rw [List.mem_filter] at hm
    exact ⟨hn m hm.1, by simpa using hm.2⟩
theorem mg_nm {xs ys : List Mo} (hx : ∀ m ∈ xs, nmB m.1 = true) (hy : ∀ m ∈ ys, nmB m.1 = true) : ∀ m ∈ mg xs ys, nmB m.1 = true := fun m hm => by
  rcases (mg_mem m.1 xs ys).1 (List.mem_map_of_mem hm) with h | h
  · obtain ⟨x, h1, h2⟩ := List.mem_map.1 h; rw [← h2]; exact hx x h1
  · obtain ⟨x, h1, h2⟩ := List.mem_map.1 h; rw [← h2]; exact hy x h1
theorem fit_of {n : Int} (h1 : -9223372036854775808 ≤ n) (h2 : n ≤ 9223372036854775807) : fit64 n = true := fit_yes.2 ⟨h1, h2⟩
/-- The sum of two valid forms whose numbers are at most 2^60. -/
theorem adR_in {k k' : Int} {xs ys : List Mo} (A : Int) (hA : 0 ≤ A) (hA2 : A ≤ 1152921504606846976) (h1 : okL xs = true) (h2 : okL ys = true) (hk : -A ≤ k ∧ k ≤ A) (hk' : -A ≤ k' ∧ k' ≤ A) (hx : ∀ m ∈ xs, -A ≤ m.2 ∧ m.2 ≤ A) (hy : ∀ m ∈ ys, -A ≤ m.2 ∧ m.2 ≤ A) :
    adR k xs k' ys = (k + k', (mg xs ys).filter fun m => m.2 != 0, 0) := by
  have hb := mg_bd A A hA hA xs ys hx hy
  have hf : adF k k' (mg xs ys) = true := by
    unfold adF
    rw [Bool.and_eq_true, List.all_eq_true]
    exact ⟨fit_of (by omega) (by omega), fun m hm => by have := hb m hm; exact fit_of (by omega) (by omega)⟩
  unfold adR
  rw [if_neg (by rw [h1, h2]; decide), if_pos hf, wrap_near (by omega) (by omega), flt_near (fun m hm => by have := hb m hm; omega)]
def ngL (xs : List Mo) : List Mo := xs.map fun m => (m.1, -m.2)
theorem sclR_neg {k : Int} {xs : List Mo} (h1 : okL xs = true) (hk : -1048576 ≤ k ∧ k ≤ 1048576) (hx : ∀ m ∈ xs, -1048576 ≤ m.2 ∧ m.2 ≤ 1048576) : sclR (-1) k xs = (-k, ngL xs, 0) := by
  have hf : sclF (-1) k xs = true := by
    unfold sclF
    rw [Bool.and_eq_true, List.all_eq_true]
    exact ⟨fit_of (by omega) (by omega), fun m hm => by have := hx m hm; exact fit_of (by omega) (by omega)⟩
  unfold sclR
  rw [if_neg (by rw [h1]; decide), if_neg (by decide), if_pos hf, wrap_near (by omega) (by omega)]
  rw [show k * -1 = -k by omega]
  rw [show sclV (-1) xs = ngL xs from ?_]
  unfold sclV ngL
  exact List.map_congr_left fun m hm => by have := hx m hm; rw [wrap_near (by omega) (by omega), show m.2 * -1 = -m.2 by omega]
theorem okL_ng {xs : List Mo} (h : okL xs = true) : okL (ngL xs) = true := by
  rw [okL_iff] at h ⊢
  refine ⟨?_, fun m hm => ?_⟩
  · unfold ngL; rw [List.map_map]; exact h.1
  · obtain ⟨x, h1, h2⟩ := List.mem_map.1 hm
    have := h.2 x h1
    rw [← h2]
    exact ⟨this.1, by simp only; omega⟩
theorem mg_ng (xs : List Mo) : (mg xs (ngL xs)).filter (fun m => m.2 != 0) = [] := by
  induction xs with
  | nil => simp [ngL, nil_mg]
  | cons x xs ih =>
    show (mg (x :: xs) ((x.1, -x.2) :: ngL xs)).filter _ = []
    rw [mg_eq (x := x) (y := (x.1, -x.2)) rfl, List.filter_cons, if_neg (by simp; omega), ih]
theorem mul_bd {a b : Int} (ha : -1048576 ≤ a ∧ a ≤ 1048576) (hb : -1048576 ≤ b ∧ b ≤ 1048576) : -1099511627776 ≤ a * b ∧ a * b ≤ 1099511627776 := by
  have h1 : (a + 1048576) * (b + 1048576) ≥ 0 := Int.mul_nonneg (by omega) (by omega)
  have h2 : (1048576 - a) * (1048576 - b) ≥ 0 := Int.mul_nonneg (by omega) (by omega)
  have h3 : (a + 1048576) * (1048576 - b) ≥ 0 := Int.mul_nonneg (by omega) (by omega)
  have h4 : (1048576 - a) * (b + 1048576) ≥ 0 := Int.mul_nonneg (by omega) (by omega)
  constructor <;> grind
theorem co_near {es : List Mo} (h : ∀ m ∈ es, -1048576 ≤ m.2 ∧ m.2 ≤ 1048576) (s : ByteArray) : -1048576 ≤ co es s ∧ co es s ≤ 1048576 := by
  induction es with
  | nil => rw [co_nil]; omega
  | cons x l ih =>
    rw [co_cons]
    split
    · exact h x (by simp)
    · exact ih (fun m hm => h m (List.mem_cons_of_mem _ hm))
theorem evS_bd {es xs : List Mo} (he : ∀ m ∈ es, -1048576 ≤ m.2 ∧ m.2 ≤ 1048576) (hx : ∀ m ∈ xs, -1048576 ≤ m.2 ∧ m.2 ≤ 1048576) : -1099511627776 * (xs.length : Int) ≤ evS es xs ∧ evS es xs ≤ 1099511627776 * (xs.length : Int) := by
  induction xs with
  | nil => simp [evS]
  | cons m l ih =>
    have h1 := ih (fun m hm => hx m (List.mem_cons_of_mem _ hm))
    have h2 := mul_bd (hx m (by simp)) (co_near he m.1)
    rw [evS]
    simp only [List.length_cons]
    generalize m.2 * co es m.1 = q at *
    omega
theorem EV_ok {k : Int} {xs es : List Mo} {x : Int} (h : EV k xs es x 0) : okL xs = true ∧ (∀ m ∈ xs, m.1 ∈ es.map (·.1)) ∧ x = k + evS es xs := by
  rcases h with ⟨_, _, h⟩ | ⟨_, _, _, h⟩ | ⟨a, b, _, c, _⟩ | ⟨_, _, _, _, h⟩
  · exact absurd h (by decide)
  · exact absurd h (by decide)
  · exact ⟨a, b, c⟩
  · exact absurd h (by decide)
/-- The value of the sum. -/
theorem EV_sum {k k' : Int} {xs ys es : List Mo} {u v w m : Int} (hx : nlB k xs = true) (hy : nlB k' ys = true) (he : neB es = true) (h1 : EV k xs es u 0) (h2 : EV k' ys es v 0) (h3 : EV (k + k') ((mg xs ys).filter fun m => m.2 != 0) es w m) :
    m = 0 ∧ w = u + v ∧ -9223372036854775808 ≤ u + v ∧ u + v ≤ 9223372036854775807 := by
  obtain ⟨lx, kx, bx⟩ := nlB_yes hx
  obtain ⟨ly, ky, bY⟩ := nlB_yes hy
  obtain ⟨le, be⟩ := neB_yes he
  obtain ⟨a1, a2, rfl⟩ := EV_ok h1
  obtain ⟨b1, b2, rfl⟩ := EV_ok h2
  have e1 := evS_bd be bx
  have e2 := evS_bd be bY
  have hs : evS es ((mg xs ys).filter fun m => m.2 != 0) = evS es xs + evS es ys := by rw [evS_flt, evS_mg]
  have o1 := okL_iff.1 a1
  have o2 := okL_iff.1 b1
  have hr : -9223372036854775808 ≤ k + evS es xs + (k' + evS es ys) ∧ k + evS es xs + (k' + evS es ys) ≤ 9223372036854775807 := by omega
  have h4 : EV (k + k') ((mg xs ys).filter fun m => m.2 != 0) es (k + k' + (evS es xs + evS es ys)) 0 := .inr (.inr (.inl ⟨okL_flt (mg_srt xs ys o1.1 o2.1) (mg_nm (fun m hm => (o1.2 m hm).1) (fun m hm => (o2.2 m hm).1)), fun m hm => by
      rw [List.mem_filter] at hm
      rcases (mg_mem m.1 xs ys).1 (List.mem_map_of_mem hm.1) with h | h
      · obtain ⟨x, q1, q2⟩ := List.mem_map.1 h; rw [← q2]; exact a2 x q1
      · obtain ⟨x, q1, q2⟩ := List.mem_map.1 h; rw [← q2]; exact b2 x q1, by rw [hs]; exact fit_of (by omega) (by omega), by rw [hs], rfl⟩))
  obtain ⟨r1, r2⟩ := EV_one h3 h4
  exact ⟨r2, by omega, hr⟩
end Go.Proofs.Ythdeaneffnlffaa.Ln
