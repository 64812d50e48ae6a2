/- The lexer: Join and the names of the reference; the statement on words. -/
import Derived.Test.YtipeapjbodnagaaX8
namespace Go.Proofs.Ytipeapjbodnagaa.Lx
open Go.ChangeShapes Go.WideShapes Go.ChangeAt Go.RowKit
open Go.Proofs.Ytipeapjbodnagaa.Nm
set_option linter.unusedVariables false

theorem app_list (x y : ByteArray) : (x ++ y).data.toList = x.data.toList ++ y.data.toList := by simp
theorem of_list {x : ByteArray} {l : List UInt8} (h : x.data.toList = l) : x = ⟨l.toArray⟩ := by
  cases x with
  | mk d => subst h; simp
theorem ret_str {a b : ByteArray} (h : a = b) : Ending.returned (.string a) = .returned (.string b) := by rw [h]
set_option maxRecDepth 100000 in
set_option maxHeartbeats 8000000 in
theorem rjoin (p : Option Addr) (ts : List Tk) (c : Nat) (w : World) (hn : ts.length ≤ maxLen) (hj : (jk ts ts.length).length ≤ 140737488355328) (RA : Hid (SlT3 w p ts)) :
    Calls Try.prog 35 #[.slice p ts.length c] w fun e w' => e = .returned (.string ⟨(jk ts ts.length).toArray⟩) ∧ w = w' := by
  unfold maxLen at hn
  go_enter Try.func35, Try.ntmps35
  go_wp2
  go_loop [3, 4] (fun v a => ∃ (k : Nat) (x : ByteArray), a = .int .i64 (k : Int) ∧ v = .string x ∧ k ≤ ts.length ∧ Hid (x.data.toList = jk ts k)) (fun _ a => ts.length - (intOf a).toNat)
  case atStart => exact ⟨0, ⟨#[]⟩, rfl, rfl, by omega, Lib.hid rfl⟩
  case round =>
    obtain ⟨k, x, rfl, rfl, hk, hX⟩ := hrel
    by_cases hlt : k < ts.length
    · obtain ⟨b, o, rfl, c0, c1, c2⟩ := RA.out k hlt
      have hst : jk ts (k + 1) = jk ts k ++ ((if 0 < k then [32] else []) ++ (ts.getD k tk0).2.2.data.toList) := rfl
      have hjl := Nat.le_trans (jk_mono ts (show k + 1 ≤ ts.length by omega)) hj
      obtain ⟨t, ht⟩ : ∃ t, ts.getD k tk0 = t := ⟨_, rfl⟩
      rw [ht] at c0 c1 c2 hst
      clear ht
      obtain ⟨t0, t1, z⟩ := t
      simp only at c2 hst
      rw [hst] at hjl
      simp only [List.length_append] at hjl
      have hzl : z.data.toList.length = z.size := len_data z
      have hxl : (jk ts k).length = x.size := by rw [← hX.out]; exact len_data x
      rw [hzl, hxl] at hjl
      have k0 : (0 : Int) ≤ k := by omega
      have k1 : (k : Int) < ts.length := by omega
      clear c0 c1 hzl hxl
      by_cases hk0 : 0 < k
      · have d1 : (0 : Int) < k := by omega
        rw [if_pos hk0] at hst hjl
        have hl1 : [(32 : UInt8)].length = 1 := rfl
        rw [hl1] at hjl
        have HX2 : Hid ((x ++ (⟨#[32]⟩ : ByteArray) ++ z).data.toList = jk ts (k + 1)) := Lib.hid (by rw [app_list, app_list, hX.out, hst, List.append_assoc])
        have s1 : (x ++ (⟨#[32]⟩ : ByteArray)).size = x.size + 1 := by rw [ByteArray.size_append]; rfl
        clear hst hX
        go_wp2
        go_round
        case rel => exact ⟨k + 1, _, by go_num, rfl, by omega, HX2⟩
        case measure => simp [intOf]; omega
      · have d1 : ¬ (0 : Int) < k := by omega
        rw [if_neg hk0] at hst hjl
        have HX2 : Hid ((x ++ z).data.toList = jk ts (k + 1)) := Lib.hid (by rw [app_list, hX.out, hst, List.nil_append])
        clear hst hX
        go_wp2
        go_round
        case rel => exact ⟨k + 1, _, by go_num, rfl, by omega, HX2⟩
        case measure => simp [intOf]; omega
    · obtain rfl : k = ts.length := by omega
      have E := Lib.hid (of_list hX.out)
      clear hX
      go_wp2
      go_ret
      exact ⟨ret_str E.out, rfl⟩
theorem rName (s : ByteArray) (w : World) (hs : s.size ≤ maxLen) : Calls Try.prog 37 #[.string s] w fun e w' => e = .returned (.bool (nmB s)) ∧ Below w.heap.size w w' := by
  have C := Lib.hid fun w => name s w hs
  go_enter Try.func37, Try.ntmps37
  go_wp2_with (go_at_call 75; refine (C.out _).mono ?_; rintro e w' ⟨rfl, hb⟩)
  go_ret
  exact ⟨rfl, hb⟩
theorem rKw (s : ByteArray) (w : World) : Calls Try.prog 39 #[.string s] w fun e w' => e = .returned (.bool (kwB s.toList)) ∧ Below w.heap.size w w' := by
  have HW := Lib.hid (hasWords s w)
  have BK : Below w.heap.size w (w.alloc (Obj.cells #[Value.string ⟨#[115, 105, 122, 101]⟩, Value.string ⟨#[119, 104, 101, 114, 101]⟩, Value.string ⟨#[105, 110]⟩, Value.string ⟨#[100, 101, 102]⟩, Value.string ⟨#[111, 117, 116]⟩, Value.string ⟨#[115, 117, 109]⟩, Value.string ⟨#[112, 114, 111, 100]⟩, Value.string ⟨#[109, 105, 110]⟩, Value.string ⟨#[109, 97, 120]⟩, Value.string ⟨#[115, 99, 97, 110]⟩, Value.string ⟨#[111, 118, 101, 114]⟩, Value.string ⟨#[105, 102]⟩, Value.string ⟨#[99, 97, 115, 116]⟩, Value.string ⟨#[102, 114, 97, 99]⟩, Value.string ⟨#[105, 110, 116]⟩, Value.string ⟨#[102, 105, 120]⟩, Value.string ⟨#[99, 101, 105, 108]⟩, Value.string ⟨#[102, 108, 111, 111, 114]⟩, Value.string ⟨#[122, 101, 114, 111]⟩, Value.string ⟨#[101, 118, 101, 110]⟩, Value.string ⟨#[115, 97, 116]⟩, Value.string ⟨#[119, 114, 97, 112]⟩] 9)) := (Below.refl _ _).alloc (Nat.le_refl _) _
  go_enter Try.func39, Try.ntmps39
  go_wp2_with (first | (go_at_call 78; refine (words _).mono ?_; rintro e w' ⟨rfl, rfl⟩) | (go_at_call 77; refine (HW.out).mono ?_; rintro e w' ⟨rfl, rfl⟩))
  go_ret
  exact ⟨rfl, BK⟩
theorem jk_len (ts : List Tk) : ∀ k, (∀ i, i < k → (ts.getD i tk0).2.2.size ≤ 100) → (jk ts k).length ≤ k * 101
  | 0, _ => Nat.le_refl _
  | k + 1, h => by
    have ih := jk_len ts k (fun i hi => h i (by omega))
    have hk := h k (by omega)
    show (jk ts k ++ ((if 0 < k then [32] else []) ++ (ts.getD k tk0).2.2.data.toList)).length ≤ _
    rw [List.length_append, List.length_append, len_data]
    have : (if 0 < k then [(32 : UInt8)] else []).length ≤ 1 := by split <;> simp
    omega
set_option maxRecDepth 100000 in
set_option maxHeartbeats 8000000 in
theorem law_words (p : Option Addr) (ts : List Tk) (c : Nat) (s : ByteArray) (w : World) (hn : ts.length ≤ maxLen) (RA : Hid (SlT3 w p ts)) (hs : s.size ≤ maxLen) :
    Calls Try.prog 7 #[.slice p ts.length c, .string s] w fun e w' => e = .returned (.bool true) ∧ Below w.heap.size w w' := by
  have EX := Lib.hid exams
  by_cases h1 : 200 < ts.length
  · have l1 : decide ((200 : Int) < ts.length) = true := decide_eq_true (by omega)
    have l2 : decide (200 < ts.length) = true := decide_eq_true h1
    go_enter Try.func7, Try.ntmps7
    go_wp2_with (go_at_call 30; refine (EX.out _).mono ?_; rintro e w1 ⟨rfl, hb1⟩)
    go_ret
    exact ⟨rfl, hb1⟩
  have l1 : decide ((200 : Int) < ts.length) = false := decide_eq_false (by omega)
  have l2 : decide (200 < ts.length) = false := decide_eq_false h1
  by_cases h2 : 100 < s.size
  · have l3 : decide ((100 : Int) < s.size) = true := decide_eq_true (by omega)
    have l4 : decide (100 < s.size) = true := decide_eq_true h2
    go_enter Try.func7, Try.ntmps7
    go_wp2_with (go_at_call 30; refine (EX.out _).mono ?_; rintro e w1 ⟨rfl, hb1⟩)
    go_ret
    exact ⟨rfl, hb1⟩
  have l3 : decide ((100 : Int) < s.size) = false := decide_eq_false (by omega)
  have l4 : decide (100 < s.size) = false := decide_eq_false h2
  go_enter Try.func7, Try.ntmps7
  go_wp2_with fail
  go_loop [5] (fun a => ∃ k : Nat, a = .int .i64 (k : Int) ∧ k ≤ ts.length ∧ Hid (∀ i, i < k → (ts.getD i tk0).2.2.size ≤ 100)) (fun a => ts.length - (intOf a).toNat)
  case atStart => exact ⟨0, rfl, by omega, Lib.hid fun i hi => by omega⟩
  case round =>
    obtain ⟨k, rfl, hk, hL⟩ := hrel
    by_cases hlt : k < ts.length
    · obtain ⟨b, o, rfl, c0, c1, c2⟩ := RA.out k hlt
      obtain ⟨z, hz⟩ : ∃ z, (ts.getD k tk0).2.2 = z := ⟨_, rfl⟩
      rw [hz] at c2
      have HZ := Lib.hid hz
      have k0 : (0 : Int) ≤ k := by omega
      have k1 : (k : Int) < ts.length := by omega
      clear c0 c1 hz
      by_cases hl : 100 < z.size
      · have d1 : (100 : Int) < z.size := by omega
        have d2 : decide ((100 : Int) < z.size) = true := decide_eq_true d1
        go_wp2_with (go_at_call 30; refine (EX.out _).mono ?_; rintro e w1 ⟨rfl, hb1⟩)
        go_ret
        exact ⟨rfl, hb1⟩
      · have d1 : ¬ (100 : Int) < z.size := by omega
        have d2 : decide ((100 : Int) < z.size) = false := decide_eq_false d1
        have hL2 : Hid (∀ i, i < k + 1 → (ts.getD i tk0).2.2.size ≤ 100) := Lib.hid fun i hi => by
          rcases (by omega : i < k ∨ i = k) with h | rfl
          · exact hL.out i h
          · rw [HZ.out]; omega
        go_wp2_with fail
        go_round
        case rel => exact ⟨k + 1, by go_num, by omega, hL2⟩
        case measure => simp [intOf]; omega
    · obtain rfl : k = ts.length := by omega
      have hj : (jk ts ts.length).length ≤ 140737488355328 := by have := jk_len ts ts.length hL.out; omega
      have C1 := Lib.hid fun c w1 (hb : Below w.heap.size w w1) => join p ts c w1 hn hj (Lib.hid (RA.out.keep hb))
      have C2 := Lib.hid fun c w1 (hb : Below w.heap.size w w1) => rjoin p ts c w1 hn hj (Lib.hid (RA.out.keep hb))
      have C3 := Lib.hid fun w => Lv.lexName s w hs
      have C4 := Lib.hid fun w => rName s w hs
      have C5 := Lib.hid fun w => lexKw s w
      have C6 := Lib.hid fun w => rKw s w
      generalize nmB s = q1 at C3 C4
      generalize kwB s.toList = q2 at C5 C6
      obtain ⟨J, hJ⟩ : ∃ J : ByteArray, J = ⟨(jk ts ts.length).toArray⟩ := ⟨_, rfl⟩
      rw [← hJ] at C1 C2
      clear hJ hj hL
      go_wp2_with fail
      refine (C1.out _ _ (Below.refl _ _)).mono ?_
      rintro e w1 ⟨rfl, K1⟩
      go_wp2_with fail
      refine (C2.out _ _ K1).mono ?_
      rintro e w' ⟨rfl, rfl⟩
      go_wp2_with fail
      refine (C3.out _).mono ?_
      rintro e w' ⟨rfl, rfl⟩
      go_wp2_with fail
      refine (C4.out _).mono ?_
      rintro e w2 ⟨rfl, b2⟩
      have K2 := K1.trans (b2.mono K1.size)
      go_wp2_with fail
      refine (C5.out _).mono ?_
      rintro e w' ⟨rfl, rfl⟩
      go_wp2_with fail
      refine (C6.out _).mono ?_
      rintro e w3 ⟨rfl, b3⟩
      have K3 := K2.trans (b3.mono K2.size)
      go_wp2_with fail
      refine (EX.out _).mono ?_
      rintro e w4 ⟨rfl, b4⟩
      go_wp2
      go_ret
      exact ⟨rfl, K3.trans (b4.mono K3.size)⟩
theorem law_words' (p : Option Addr) (ts : List Tk) (c : Nat) (s : ByteArray) (w : World) (hl : ts.length ≤ c) (hm : c ≤ maxLen) (RA : Hid (SlT3 w p ts)) (hs : s.size ≤ maxLen) :
    Calls Try.prog 7 #[.slice p ts.length c, .string s] w fun e w' => e = .returned (.bool true) ∧ Below w.heap.size w w' := law_words p ts c s w (Nat.le_trans hl hm) RA hs
end Go.Proofs.Ytipeapjbodnagaa.Lx
