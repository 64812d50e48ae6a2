/- Package frac: Parse and Format, whatever the text. -/
import Derived.Test.YtnmjenpeiafnkaaDoorT3
import Derived.Lib.AppendIntMem
namespace Go.Proofs.YtnmjenpeiafnkaaDoor.Tx
open Go.ChangeShapes Go.WideShapes Go.ChangeAt Go.RowKit
open Fr
set_option maxRecDepth 8000
set_option linter.unusedVariables false
set_option linter.unusedSimpArgs false

abbrev R3 (r : Int × Int × Int) : Value := Frac3 r.1 r.2.1 r.2.2
theorem list_beq (t : ByteArray) (b : List UInt8) (l : List UInt8) (h : t.data.toList = l) : (t.toList == b) = decide (l = b) := by
  rw [Lib.toList_data, h, Bool.eq_iff_iff, beq_iff_eq, decide_eq_true_iff]
theorem head_neg {t : ByteArray} {l : List UInt8} (h : t.data.toList = l) (hp : 0 < t.size) : ((t[0].toNat : Int) == 45) = neg l := by
  have hl := size_list h
  cases l with
  | nil => have h0 : t.size = 0 := hl; omega
  | cons c r =>
    rw [get_list h 0 hp (by simp)]
    unfold neg
    rw [Bool.eq_iff_iff, beq_iff_eq, decide_eq_true_iff]
    show ((c.toNat : Int) = 45) ↔ _
    omega
theorem whole_size {t : ByteArray} (h : whole t.data.toList = true) : 0 < t.size := by
  obtain ⟨h1, _⟩ := whole_parts h
  rw [Lib.size_eq]
  cases hl : t.data.toList with
  | nil => rw [hl] at h1; exact absurd rfl h1
  | cons c r => simp
theorem one_whole : whole [49] = true ∧ fit [49] = true ∧ sv [49] = 1 ∧ neg [49] = false := by decide
set_option maxHeartbeats 4000000 in
theorem c_parse (s : ByteArray) (w : World) (hs : s.size ≤ 281474976710656) (hL : LA w) : Calls Tryd.prog 35 #[.string s] w (Ret (R3 (psv s.data.toList)) w) := by
  have hmax : s.size ≤ maxLen := by unfold maxLen; omega
  have hsz := Lib.size_eq s
  obtain ⟨l, hl⟩ : ∃ l, s.data.toList = l := ⟨_, rfl⟩
  rw [hl] at hsz ⊢
  rcases split47 l with ⟨hn, hix⟩ | ⟨a, b, hab, hn, hix⟩
  · obtain ⟨e1, e2, e3⟩ := cut_none hn
    obtain ⟨o1, o2, o3, o4⟩ := one_whole
    have hv := fun w => valid_any (sv l) 1 w
    refine (parse0 s s w (whole l) true false false (fit l) true (vld (sv l) 1) (sv l) 1 (Lib.hid fun w => c_cut0 s w (by rw [hl]; exact hix)) (Lib.hid fun w => by rw [← hl]; exact c_isint s w hmax)
      (Lib.hid fun w => by have := c_isint ⟨#[49]⟩ w (by decide); rw [show whole (⟨#[49]⟩ : ByteArray).data.toList = true from o1] at this; exact this) (Lib.hid hL)
      (Lib.hid fun h h' w => by have := c_bo (s := s) w hs (by rw [hl]; exact h) (by rw [hl]; exact h'); rw [hl] at this; exact this) (Lib.hid fun h h' w hw => c_bon (s := s) w hs hw (by rw [hl]; exact h) (by rw [hl]; exact h'))
      (Lib.hid fun h h' w => c_bo (s := ⟨#[49]⟩) w (by decide) o1 o2) (Lib.hid fun h h' w hw => by cases h') (Lib.hid fun w => hv w)).mono ?_
    rintro e w' ⟨rfl, hb⟩
    refine ⟨?_, hb⟩
    congr 1
    unfold psv
    rw [e1, e2, e3, o1, o2, o3, o4]
    generalize whole l = b1
    generalize fit l = b2
    generalize vld (sv l) 1 = b3
    cases b1 <;> cases b2 <;> cases b3 <;> simp [R3]
  · have hlen : l.length = a.length + 1 + b.length := by rw [hab, List.length_append, List.length_cons]; omega
    have e0 := cut_at a b hn
    rw [← hab] at e0
    obtain ⟨e1, e2, e3⟩ := e0
    have hi : a.length + 1 ≤ s.size := by omega
    obtain ⟨tp, htp⟩ : ∃ t, s.extract 0 a.length = t := ⟨_, rfl⟩
    obtain ⟨bt, hbt⟩ : ∃ t, s.extract (a.length + 1) s.size = t := ⟨_, rfl⟩
    have ta : tp.data.toList = a := by rw [← htp, sl_take s _ (by omega), hl, hab]; simp
    have tb : bt.data.toList = b := by rw [← hbt, sl_drop s, hl, hab, ← List.drop_drop, List.drop_left]; rfl
    have sa : tp.size ≤ 281474976710656 := by rw [size_list ta]; omega
    have sb : bt.size ≤ 281474976710656 := by rw [size_list tb]; omega
    have hv := fun w => valid_any (sv a) (sv b) w
    refine (parse1 s tp bt w (whole a) (whole b) (decide (b = [48])) (decide (b = [49])) (fit a) (fit b) (vld (sv a) (sv b)) (sv a) (sv b) (Lib.hid fun w => by rw [← htp, ← hbt]; exact c_cut1 s a.length w (by rw [hl]; exact hix) hi hmax)
      (Lib.hid fun w => by rw [← ta]; exact c_isint tp w (by unfold maxLen; omega)) (Lib.hid fun w => by rw [← tb]; exact c_isint bt w (by unfold maxLen; omega)) (Lib.hid hL)
      (Lib.hid fun h h' w => by have := c_bo (s := tp) w sa (by rw [ta]; exact h) (by rw [ta]; exact h'); rw [ta] at this; exact this) (Lib.hid fun h h' w hw => c_bon (s := tp) w sa hw (by rw [ta]; exact h) (by rw [ta]; exact h'))
      (Lib.hid fun h h' w => by have := c_bo (s := bt) w sb (by rw [tb]; exact h) (by rw [tb]; exact h'); rw [tb] at this; exact this) (Lib.hid fun h h' w hw => c_bon (s := bt) w sb hw (by rw [tb]; exact h) (by rw [tb]; exact h'))
      (Lib.hid fun w => hv w) (Lib.hid fun h => whole_size (by rw [tb]; exact h)) (neg b) (Lib.hid fun h => head_neg tb h) (list_beq bt [48] b tb) (list_beq bt [49] b tb)).mono ?_
    rintro e w' ⟨rfl, hb⟩
    refine ⟨?_, hb⟩
    congr 1
    unfold psv
    rw [e1, e2, e3]
    have hc : (whole a = false ∨ whole b = false ∨ neg b = true ∨ decide (b = [48]) = true ∨ decide (b = [49]) = true) ↔ (whole a = false ∨ whole b = false ∨ neg b = true ∨ b = [48] ∨ (true = true ∧ b = [49])) := by
      rw [decide_eq_true_iff, decide_eq_true_iff]; simp
    by_cases c1 : whole a = false ∨ whole b = false ∨ neg b = true ∨ decide (b = [48]) = true ∨ decide (b = [49]) = true
    · rw [if_pos c1, if_pos (hc.1 c1)]
    · rw [if_neg c1, if_neg (fun h => c1 (hc.2 h))]
      by_cases c2 : fit a = false ∨ fit b = false
      · rw [if_pos c2, if_pos c2]
      · rw [if_neg c2, if_neg c2]
        by_cases c3 : vld (sv a) (sv b) = false
        · rw [if_pos c3, if_pos c3]
        · rw [if_neg c3, if_neg c3]
theorem c_fi (n : Int) (w : World) (n0 : -9223372036854775808 ≤ n) (n1 : n ≤ 9223372036854775807) (hL : LA w) : Calls Tryd.prog 60 #[.int .i64 n, .int .i64 10] w (Ret (.string ⟨(Lib.itoa n).toArray⟩) w) :=
  (Tryd.strconv_FormatInt_10 n n0 n1 w hL.1).mono fun e w' ⟨he, k, os, hw⟩ => ⟨he, by rw [hw]; exact Go.Lib.below_grow _ _ (Nat.le_refl _) k os⟩
theorem cat3 (a b : List UInt8) : (⟨a.toArray⟩ : ByteArray) ++ ((⟨#[47]⟩ : ByteArray) ++ (⟨b.toArray⟩ : ByteArray)) = ⟨(a ++ 47 :: b).toArray⟩ := by
  apply ByteArray.ext
  simp
theorem dec_len : ∀ (m k : Nat), k < 10 ^ (m + 1) → (Lib.decDigits k).length ≤ m + 1
  | 0, k, h => by rw [dec_small (by simpa using h)]; simp
  | m + 1, k, h => by
    by_cases h10 : k < 10
    · rw [dec_small h10]; simp
    · rw [dec_big h10, List.length_append]
      have := dec_len m (k / 10) (by rw [Nat.pow_succ] at h; omega)
      simp; omega
theorem itoa_len {n : Int} (h0 : -2147483647 ≤ n) (h1 : n ≤ 2147483647) : (Lib.itoa n).length ≤ 11 := by
  have h := dec_len 9 n.natAbs (by have : (10 : Nat) ^ (9 + 1) = 10000000000 := by decide
                                   omega)
  unfold Lib.itoa
  split
  · simp; omega
  · rw [show n.toNat = n.natAbs by omega]; omega
theorem arr_size (l : List UInt8) : (⟨l.toArray⟩ : ByteArray).size = l.length := by rw [Lib.size_eq]
set_option maxHeartbeats 4000000 in
theorem c_fmt (n d : Int) (w : World) (hL : LA w) : Calls Tryd.prog 37 #[.agg #[.int .i64 n, .int .i64 d]] w (Ret (.string ⟨(fmv n d).toArray⟩) w) := by
  have LAh := Lib.hid hL
  have VA := Lib.hid fun w => valid_any n d w
  cases hv : vld n d
  · rw [show fmv n d = [] by unfold fmv; rw [if_pos hv]]
    rw [hv] at VA
    clear hv hL
    go_enter Tryd.func37, Tryd.ntmps37
    go_wp2_with (first | (go_at_call 14; (with_reducible refine (VA.out _).mono ?_); rintro e w1 ⟨rfl, hb1⟩; have hc1 := (bcell hb1).1; have hf1 := (bcell hb1).2; have z1_0 : w.heap.size < w1.heap.size := (by have hzz := hb1.size; (try simp at hzz); omega); have K1 : Below w.heap.size w w1 := Below.trans (b := _) (by (repeat' (first | (with_reducible exact Below.refl _ _) | (with_reducible refine Below.alloc ?_ ?_ _) | (with_reducible refine Below.setCell ?_ ?_ _) | (with_reducible refine below_drewN ?_ _) | (simp; done) | omega | (simp; omega)))) (hb1.mono (by have hzz := hb1.size; (try simp at hzz); first | omega | (simp; done) | (simp; omega)))))
    go_ret
    exact ⟨rfl, K1⟩
  rw [hv] at VA
  obtain ⟨d0, d1, n0, n1, _⟩ := vld_parts hv
  have F1 := Lib.hid fun w h => c_fi n w (by omega) (by omega) h
  have F2 := Lib.hid fun w h => c_fi d w (by omega) (by omega) h
  have HF : Hid (∀ l, (if d = 1 then Lib.itoa n else Lib.itoa n ++ 47 :: Lib.itoa d) = l → fmv n d = l) := Lib.hid fun l hl => by
    unfold fmv; rw [if_neg (by rw [hv]; decide)]; exact hl
  clear hv hL
  by_cases h1 : d = 1
  · rw [HF.out _ (if_pos h1)]
    have g1 : (d != 1) = false := by simpa using h1
    clear HF h1 F2
    generalize Lib.itoa n = a at *
    go_enter Tryd.func37, Tryd.ntmps37
    go_wp2_with (first | (go_at_call 14; (with_reducible refine (VA.out _).mono ?_); rintro e w1 ⟨rfl, hb1⟩; have hc1 := (bcell hb1).1; have hf1 := (bcell hb1).2; have z1_0 : w.heap.size < w1.heap.size := (by have hzz := hb1.size; (try simp at hzz); omega); have K1 : Below w.heap.size w w1 := Below.trans (b := _) (by (repeat' (first | (with_reducible exact Below.refl _ _) | (with_reducible refine Below.alloc ?_ ?_ _) | (with_reducible refine Below.setCell ?_ ?_ _) | (with_reducible refine below_drewN ?_ _) | (simp; done) | omega | (simp; omega)))) (hb1.mono (by have hzz := hb1.size; (try simp at hzz); first | omega | (simp; done) | (simp; omega)))) | (go_at_call 60; (with_reducible refine (F1.out _ (LAh.out.below (by (repeat' (first | (with_reducible exact Below.refl _ _) | (with_reducible exact K1) | (with_reducible refine Below.alloc ?_ ?_ _) | (with_reducible refine Below.setCell ?_ ?_ _) | (with_reducible refine below_drewN ?_ _) | (simp; done) | omega | (simp; omega)))))).mono ?_); rintro e w2 ⟨rfl, hb2⟩; have hc2 := (bcell hb2).1; have hf2 := (bcell hb2).2; have z2_0 : w.heap.size < w2.heap.size := (by have hzz := hb2.size; (try simp at hzz); omega); have K2 : Below w.heap.size w w2 := Below.trans (b := _) (by (repeat' (first | (with_reducible exact Below.refl _ _) | (with_reducible exact K1) | (with_reducible refine Below.alloc ?_ ?_ _) | (with_reducible refine Below.setCell ?_ ?_ _) | (with_reducible refine below_drewN ?_ _) | (simp; done) | omega | (simp; omega)))) (hb2.mono (by have hzz := hb2.size; (try simp at hzz); first | omega | (simp; done) | (simp; omega)))))
    go_ret
    exact ⟨rfl, K2⟩
  · rw [HF.out _ (if_neg h1), ← cat3]
    have g1 : (d != 1) = true := by simpa using h1
    clear HF h1
    have ha : (⟨(Lib.itoa n).toArray⟩ : ByteArray).size ≤ 11 := by rw [arr_size]; exact itoa_len n0 n1
    have hb : (⟨(Lib.itoa d).toArray⟩ : ByteArray).size ≤ 11 := by rw [arr_size]; exact itoa_len (by omega) d1
    generalize (⟨(Lib.itoa n).toArray⟩ : ByteArray) = a at *
    generalize (⟨(Lib.itoa d).toArray⟩ : ByteArray) = b at *
    have h1 : (⟨#[47]⟩ : ByteArray).size = 1 := rfl
    have h2 : ((⟨#[47]⟩ : ByteArray) ++ b).size = 1 + b.size := by rw [ByteArray.size_append, h1]
    have hb9 : ((⟨#[47]⟩ : ByteArray) ++ b).size ≤ 12 := by omega
    clear h1 h2
    go_enter Tryd.func37, Tryd.ntmps37
    go_wp2_with fail
    (with_reducible refine (VA.out _).mono ?_); rintro e w1 ⟨rfl, hb1⟩; have hc1 := (bcell hb1).1; have hf1 := (bcell hb1).2; have z1_0 : w.heap.size < w1.heap.size := (by have hzz := hb1.size; (try simp at hzz); omega); have K1 : Below w.heap.size w w1 := Below.trans (b := _) (by (repeat' (first | (with_reducible exact Below.refl _ _) | (with_reducible refine Below.alloc ?_ ?_ _) | (with_reducible refine Below.setCell ?_ ?_ _) | (with_reducible refine below_drewN ?_ _) | (simp; done) | omega | (simp; omega)))) (hb1.mono (by have hzz := hb1.size; (try simp at hzz); first | omega | (simp; done) | (simp; omega)))
    go_wp2_with fail
    (with_reducible refine (F1.out _ (LAh.out.below (by (repeat' (first | (with_reducible exact Below.refl _ _) | (with_reducible exact K1) | (with_reducible refine Below.alloc ?_ ?_ _) | (with_reducible refine Below.setCell ?_ ?_ _) | (with_reducible refine below_drewN ?_ _) | (simp; done) | omega | (simp; omega)))))).mono ?_); rintro e w2 ⟨rfl, hb2⟩; have hc2 := (bcell hb2).1; have hf2 := (bcell hb2).2; have z2_0 : w.heap.size < w2.heap.size := (by have hzz := hb2.size; (try simp at hzz); omega); have K2 : Below w.heap.size w w2 := Below.trans (b := _) (by (repeat' (first | (with_reducible exact Below.refl _ _) | (with_reducible exact K1) | (with_reducible refine Below.alloc ?_ ?_ _) | (with_reducible refine Below.setCell ?_ ?_ _) | (with_reducible refine below_drewN ?_ _) | (simp; done) | omega | (simp; omega)))) (hb2.mono (by have hzz := hb2.size; (try simp at hzz); first | omega | (simp; done) | (simp; omega)))
    go_wp2_with fail
    (with_reducible refine (F2.out _ (LAh.out.below (by (repeat' (first | (with_reducible exact Below.refl _ _) | (with_reducible exact K2) | (with_reducible refine Below.alloc ?_ ?_ _) | (with_reducible refine Below.setCell ?_ ?_ _) | (with_reducible refine below_drewN ?_ _) | (simp; done) | omega | (simp; omega)))))).mono ?_); rintro e w3 ⟨rfl, hb3⟩; have hc3 := (bcell hb3).1; have hf3 := (bcell hb3).2; have z3_0 : w.heap.size < w3.heap.size := (by have hzz := hb3.size; (try simp at hzz); omega); have K3 : Below w.heap.size w w3 := Below.trans (b := _) (by (repeat' (first | (with_reducible exact Below.refl _ _) | (with_reducible exact K1) | (with_reducible exact K2) | (with_reducible refine Below.alloc ?_ ?_ _) | (with_reducible refine Below.setCell ?_ ?_ _) | (with_reducible refine below_drewN ?_ _) | (simp; done) | omega | (simp; omega)))) (hb3.mono (by have hzz := hb3.size; (try simp at hzz); first | omega | (simp; done) | (simp; omega)))
    go_wp2
    go_ret
    exact ⟨rfl, K3⟩
end Go.Proofs.YtnmjenpeiafnkaaDoor.Tx
