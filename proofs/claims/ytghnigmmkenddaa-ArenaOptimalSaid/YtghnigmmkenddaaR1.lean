/- few, clash. -/
import Derived.Test.YtghnigmmkenddaaC4m
namespace Go.Proofs.Ytghnigmmkenddaa.Ar
open Go.ChangeShapes Go.WideShapes Go.ChangeAt Go.RowKit
open Go.Proofs.Ytghnigmmkenddaa.Lv Go.Proofs.Ytghnigmmkenddaa.Nm
set_option linter.unusedVariables false
set_option linter.unusedSimpArgs false

def fewF (xs : List Lf) (most : Nat) : Bool := decide (xs.length ≤ most) && xs.all fun x => decide (x.1.size ≤ 100)
theorem few_at {xs : List Lf} {most : Nat} (h : fewF xs most = true) : xs.length ≤ most ∧ ∀ i, i < xs.length → (xs.getD i lf0).1.size ≤ maxLen := by
  unfold fewF at h
  rw [Bool.and_eq_true, decide_eq_true_eq, List.all_eq_true] at h
  refine ⟨h.1, fun i hi => ?_⟩
  have := of_decide_eq_true (h.2 _ (lf_mem hi))
  unfold maxLen
  omega
theorem all_take {xs : List Lf} {k : Nat} (h : k < xs.length) (P : Lf → Bool) : (xs.take (k + 1)).all P = ((xs.take k).all P && P (xs.getD k lf0)) := by
  rw [List.take_succ_eq_append_getElem h, List.all_append, getD_lf h]
  simp
theorem all_no {xs : List Lf} {k : Nat} (h : k < xs.length) {P : Lf → Bool} (hp : P (xs.getD k lf0) = false) : xs.all P = false := by
  rw [List.all_eq_false]
  exact ⟨_, lf_mem h, by rw [hp]; decide⟩
set_option maxRecDepth 100000 in
set_option maxHeartbeats 4000000 in
/-- few. -/
theorem fewC (p : Option Addr) (xs : List Lf) (c n most : Nat) (w : World) (HN : Hid (xs.length = n)) (hm : most ≤ 100) (RA : Hid (SlL w p xs)) (RZ : Hid (∀ i, i < n → (xs.getD i lf0).1.size ≤ 9223372036854775807)) :
    Calls Try.prog 8 #[.slice p n c, .int .i64 (most : Int)] w fun e w' => e = .returned (.bool (fewF xs most)) ∧ Below w.heap.size w w' := by
  by_cases hl : n ≤ most
  case neg =>
    have HF : Hid (fewF xs most = false) := Lib.hid (by unfold fewF; rw [HN.out, decide_eq_false hl]; rfl)
    have h1 : (most : Int) < n := by omega
    clear hl
    go_enter Try.func8, Try.ntmps8
    go_wp2
    go_ret
    rw [HF.out]
    exact ⟨rfl, Below.refl _ _⟩
  have h1 : ¬ (most : Int) < n := by omega
  obtain ⟨RES, hRES⟩ : ∃ RES, fewF xs most = RES := ⟨_, rfl⟩
  have HR : Hid ((xs.all fun x => decide (x.1.size ≤ 100)) = RES) := Lib.hid (by rw [← hRES]; unfold fewF; rw [HN.out, decide_eq_true hl, Bool.true_and])
  rw [hRES]
  clear hRES
  go_enter Try.func8, Try.ntmps8
  go_wp2
  go_loopw [5] (fun iv wr => ∃ k q : Nat, iv = .int .i64 (k : Int) ∧ k ≤ n ∧ Hid (((xs.take k).all fun x => decide (x.1.size ≤ 100)) = true) ∧ wr = w.drewN q) (fun iv _ => n - (intOf iv).toNat)
  case atStart => exact ⟨0, 0, rfl, Nat.zero_le _, Lib.hid rfl, rfl⟩
  case round =>
    obtain ⟨k, q, rfl, hk, HA, rfl⟩ := hrel
    by_cases hlt : k < n
    case neg =>
      obtain rfl : k = n := by omega
      have k1 : ¬ (k : Int) < k := by omega
      have HE : Hid (RES = true) := Lib.hid (by rw [← HR.out]; have h := HA.out; rw [← HN.out, List.take_length] at h; exact h)
      go_wp2
      go_ret
      rw [HE.out]
      exact ⟨rfl, below_drewN (Below.refl _ _) _⟩
    obtain ⟨b, o, rfl, hb, c0, _⟩ := SlL_at RA.out HN.out hlt
    have hz := RZ.out k hlt
    have HT := Lib.hid (all_take (xs := xs) (k := k) (by rw [HN.out]; exact hlt) fun x => decide (x.1.size ≤ 100))
    have HNO : (∀ h : decide ((xs.getD k lf0).1.size ≤ 100) = false, RES = false) := fun h => by rw [← HR.out]; exact all_no (by rw [HN.out]; exact hlt) h
    obtain ⟨s, hs⟩ : ∃ s, (xs.getD k lf0).1 = s := ⟨_, rfl⟩
    rw [hs] at c0 hz HT HNO
    have HNO := Lib.hid HNO
    clear hs
    have k0 : (0 : Int) ≤ k := by omega
    have k1 : (k : Int) < n := by omega
    by_cases ht : s.size ≤ 100
    · have t1 : ¬ (100 : Int) < s.size := by omega
      have HA2 : Hid (((xs.take (k + 1)).all fun x => decide (x.1.size ≤ 100)) = true) := Lib.hid (by rw [HT.out, HA.out, decide_eq_true ht]; rfl)
      go_wp2
      go_roundw
      case rel => exact ⟨k + 1, q, by go_num, by omega, HA2, rfl⟩
      case measure => simp [intOf]; omega
    · have t1 : (100 : Int) < s.size := by omega
      have HE := Lib.hid (HNO.out (decide_eq_false ht))
      go_wp2
      go_ret
      rw [HE.out]
      exact ⟨rfl, below_drewN (Below.refl _ _) _⟩
/-- Two lifetimes clash at some offsets. -/
def clB (a b : Lf) (x y : Int) : Bool := ov a b && (decide (0 < a.2.2.2) && (decide (0 < b.2.2.2) && (decide (x < y + b.2.2.2) && decide (y < x + a.2.2.2))))
set_option maxHeartbeats 4000000 in
theorem clashC (a b : Lf) (x y : Int) (w : World) (a0 : 1 ≤ a.2.2.2) (a1 : a.2.2.2 ≤ 4096) (b0 : 1 ≤ b.2.2.2) (b1 : b.2.2.2 ≤ 4096) (x0 : 0 ≤ x) (x1 : x + a.2.2.2 ≤ 9223372036854775807) (y0 : 0 ≤ y) (y1 : y + b.2.2.2 ≤ 9223372036854775807) :
    Calls Try.prog 25 #[Lv4 a, Lv4 b, .int .i64 x, .int .i64 y] w fun e w' => e = .returned (.bool (clB a b x y)) ∧ Below w.heap.size w w' := by
  obtain ⟨t, ht⟩ : ∃ t, ov a b = t := ⟨_, rfl⟩
  have OV := Lib.hid (fun w => over2 a b w)
  rw [ht] at OV
  have HC : Hid (clB a b x y = (t && (decide (0 < a.2.2.2) && (decide (0 < b.2.2.2) && (decide (x < y + b.2.2.2) && decide (y < x + a.2.2.2)))))) := Lib.hid (by unfold clB; rw [ht])
  rw [HC.out]
  clear ht HC
  unfold Lv4 at OV ⊢
  obtain ⟨s, f, g, z⟩ := a
  obtain ⟨s', f', g', z'⟩ := b
  simp only at a0 a1 b0 b1 x1 y1 OV ⊢
  have n1 : decide (0 < z) = true := by rw [decide_eq_true_eq]; omega
  have n2 : decide (0 < z') = true := by rw [decide_eq_true_eq]; omega
  have p1 : 0 < z := by omega
  have p2 : 0 < z' := by omega
  rw [n1, n2]
  cases t
  · go_enter Try.func25, Try.ntmps25
    go_wp2_with (go_at_call 40; (with_reducible refine (OV.out _).mono ?_); rintro e w1 ⟨rfl, B1⟩)
    go_ret
    exact ⟨rfl, (((Below.refl _ _).alloc (Nat.le_refl _) _).alloc (by simp) _).trans (B1.mono (by simp; omega))⟩
  · have HA : ∀ {o : Nat} {w1 : World} {v : Value}, Below ((w.alloc (Obj.cells #[.string s, .int .i64 f, .int .i64 g, .int .i64 z] 37)).alloc (Obj.cells #[.string s', .int .i64 f', .int .i64 g', .int .i64 z'] 37)).heap.size ((w.alloc (Obj.cells #[.string s, .int .i64 f, .int .i64 g, .int .i64 z] 37)).alloc (Obj.cells #[.string s', .int .i64 f', .int .i64 g', .int .i64 z'] 37)) w1 → w1.cell? ⟨w.heap.size, 3, none⟩ = some (.int .i64 z) ∧ w1.cell? ⟨w.heap.size + 1, 3, none⟩ = some (.int .i64 z') := fun B => ⟨kp B (by simp; omega) (by go_cell), kp B (by simp) (by go_cell)⟩
    by_cases l1 : x < y + z'
    · by_cases l2 : y < x + z
      · have d1 := decide_eq_true l1; have d2 := decide_eq_true l2
        rw [d1, d2]
        go_enter Try.func25, Try.ntmps25
        go_wp2_with (go_at_call 40; (with_reducible refine (OV.out _).mono ?_); rintro e w1 ⟨rfl, B1⟩; obtain ⟨c1, c2⟩ := HA (o := 0) (v := .nilFunc) B1)
        go_ret
        exact ⟨rfl, (((Below.refl _ _).alloc (Nat.le_refl _) _).alloc (by simp) _).trans (B1.mono (by simp; omega))⟩
      · have d1 := decide_eq_true l1; have d2 := decide_eq_false l2
        rw [d1, d2]
        clear l2
        go_enter Try.func25, Try.ntmps25
        go_wp2_with (go_at_call 40; (with_reducible refine (OV.out _).mono ?_); rintro e w1 ⟨rfl, B1⟩; obtain ⟨c1, c2⟩ := HA (o := 0) (v := .nilFunc) B1)
        go_ret
        exact ⟨rfl, (((Below.refl _ _).alloc (Nat.le_refl _) _).alloc (by simp) _).trans (B1.mono (by simp; omega))⟩
    · have d1 := decide_eq_false l1
      rw [d1]
      clear l1
      go_enter Try.func25, Try.ntmps25
      go_wp2_with (go_at_call 40; (with_reducible refine (OV.out _).mono ?_); rintro e w1 ⟨rfl, B1⟩; obtain ⟨c1, c2⟩ := HA (o := 0) (v := .nilFunc) B1)
      go_ret
      exact ⟨rfl, (((Below.refl _ _).alloc (Nat.le_refl _) _).alloc (by simp) _).trans (B1.mono (by simp; omega))⟩
end Go.Proofs.Ytghnigmmkenddaa.Ar
