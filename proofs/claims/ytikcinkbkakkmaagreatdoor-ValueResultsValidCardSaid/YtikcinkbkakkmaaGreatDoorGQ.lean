/- Package frac: Parse and Format, whatever the text. -/
import Derived.Test.YtikcinkbkakkmaaGreatDoorT3
import Derived.Lib.AppendIntMem
import Derived.Test.YtikcinkbkakkmaaGreatDoorGK
import Derived.Deep.QuietTactic
import Derived.BigQuiet

namespace Go.Proofs.YtikcinkbkakkmaaGreatDoor.Tx
open Go.ChangeShapes Go.WideShapes Go.ChangeAt Go.RowKit
open Fr Fx
set_option maxRecDepth 8000
set_option linter.unusedVariables false
set_option linter.unusedSimpArgs false

abbrev R3 (r : Int × Int × Int) : Value := Frac3 r.1 r.2.1 r.2.2
theorem list_beq (t : ByteArray) (b : List UInt8) (l : List UInt8) (h : t.data.toList = l) : (t.toList == b) = decide (l = b) := by
  rw [Lib.toList_data, h, Bool.eq_iff_iff, beq_iff_eq, decide_eq_true_iff]
theorem head_neg {t : ByteArray} {l : List UInt8} (h : t.data.toList = l) (hp : 0 < t.size) : ((t[0].toNat : Int) == 45) = neg l := by
  have hl := size_list h
  cases l with
  | nil => have h0 : t.size = 0 := hl; omega
  | cons c r =>
    rw [get_list h 0 hp (by simp)]
    unfold neg
    rw [Bool.eq_iff_iff, beq_iff_eq, decide_eq_true_iff]
    show ((c.toNat : Int) = 45) ↔ _
    omega
theorem whole_size {t : ByteArray} (h : whole t.data.toList = true) : 0 < t.size := by
  obtain ⟨h1, _⟩ := whole_parts h
  rw [Lib.size_eq]
  cases hl : t.data.toList with
  | nil => rw [hl] at h1; exact absurd rfl h1
  | cons c r => simp
theorem one_whole : whole [49] = true ∧ fit [49] = true ∧ sv [49] = 1 ∧ neg [49] = false := by decide
set_option maxHeartbeats 4000000 in
theorem c_parse (s : ByteArray) (w : World) (hs : s.size ≤ 281474976710656) (hL : LA w) : Calls Tryz.prog 48 #[.string s] w (Ret (R3 (psv s.data.toList)) w) := by
  have hmax : s.size ≤ maxLen := by unfold maxLen; omega
  have hsz := Lib.size_eq s
  obtain ⟨l, hl⟩ : ∃ l, s.data.toList = l := ⟨_, rfl⟩
  rw [hl] at hsz ⊢
  rcases split47 l with ⟨hn, hix⟩ | ⟨a, b, hab, hn, hix⟩
  · obtain ⟨e1, e2, e3⟩ := cut_none hn
    obtain ⟨o1, o2, o3, o4⟩ := one_whole
    have hv := fun w => valid_any (sv l) 1 w
    refine (parse0 s s w (whole l) true false false (fit l) true (vld (sv l) 1) (sv l) 1 (Lib.hid fun w => c_cut0 s w (by rw [hl]; exact hix)) (Lib.hid fun w => by rw [← hl]; exact c_isint s w hmax)
      (Lib.hid fun w => by have := c_isint ⟨#[49]⟩ w (by decide); rw [show whole (⟨#[49]⟩ : ByteArray).data.toList = true from o1] at this; exact this) (Lib.hid hL)
      (Lib.hid fun h h' w => by have := c_bo (s := s) w hs (by rw [hl]; exact h) (by rw [hl]; exact h'); rw [hl] at this; exact this) (Lib.hid fun h h' w hw => c_bon (s := s) w hs hw (by rw [hl]; exact h) (by rw [hl]; exact h'))
      (Lib.hid fun h h' w => c_bo (s := ⟨#[49]⟩) w (by decide) o1 o2) (Lib.hid fun h h' w hw => by cases h') (Lib.hid fun w => hv w)).mono ?_
    rintro e w' ⟨rfl, hb⟩
    refine ⟨?_, hb⟩
    congr 1
    unfold psv
    rw [e1, e2, e3, o1, o2, o3, o4]
    generalize whole l = b1
    generalize fit l = b2
    generalize vld (sv l) 1 = b3
    cases b1 <;> cases b2 <;> cases b3 <;> simp [R3]
  · have hlen : l.length = a.length + 1 + b.length := by rw [hab, List.length_append, List.length_cons]; omega
    have e0 := cut_at a b hn
    rw [← hab] at e0
    obtain ⟨e1, e2, e3⟩ := e0
    have hi : a.length + 1 ≤ s.size := by omega
    obtain ⟨tp, htp⟩ : ∃ t, s.extract 0 a.length = t := ⟨_, rfl⟩
    obtain ⟨bt, hbt⟩ : ∃ t, s.extract (a.length + 1) s.size = t := ⟨_, rfl⟩
    have ta : tp.data.toList = a := by rw [← htp, sl_take s _ (by omega), hl, hab]; simp
    have tb : bt.data.toList = b := by rw [← hbt, sl_drop s, hl, hab, ← List.drop_drop, List.drop_left]; rfl
    have sa : tp.size ≤ 281474976710656 := by rw [size_list ta]; omega
    have sb : bt.size ≤ 281474976710656 := by rw [size_list tb]; omega
    have hv := fun w => valid_any (sv a) (sv b) w
    refine (parse1 s tp bt w (whole a) (whole b) (decide (b = [48])) (decide (b = [49])) (fit a) (fit b) (vld (sv a) (sv b)) (sv a) (sv b) (Lib.hid fun w => by rw [← htp, ← hbt]; exact c_cut1 s a.length w (by rw [hl]; exact hix) hi hmax)
      (Lib.hid fun w => by rw [← ta]; exact c_isint tp w (by unfold maxLen; omega)) (Lib.hid fun w => by rw [← tb]; exact c_isint bt w (by unfold maxLen; omega)) (Lib.hid hL)
      (Lib.hid fun h h' w => by have := c_bo (s := tp) w sa (by rw [ta]; exact h) (by rw [ta]; exact h'); rw [ta] at this; exact this) (Lib.hid fun h h' w hw => c_bon (s := tp) w sa hw (by rw [ta]; exact h) (by rw [ta]; exact h'))
      (Lib.hid fun h h' w => by have := c_bo (s := bt) w sb (by rw [tb]; exact h) (by rw [tb]; exact h'); rw [tb] at this; exact this) (Lib.hid fun h h' w hw => c_bon (s := bt) w sb hw (by rw [tb]; exact h) (by rw [tb]; exact h'))
      (Lib.hid fun w => hv w) (Lib.hid fun h => whole_size (by rw [tb]; exact h)) (neg b) (Lib.hid fun h => head_neg tb h) (list_beq bt [48] b tb) (list_beq bt [49] b tb)).mono ?_
    rintro e w' ⟨rfl, hb⟩
    refine ⟨?_, hb⟩
    congr 1
    unfold psv
    rw [e1, e2, e3]
    have hc : (whole a = false ∨ whole b = false ∨ neg b = true ∨ decide (b = [48]) = true ∨ decide (b = [49]) = true) ↔ (whole a = false ∨ whole b = false ∨ neg b = true ∨ b = [48] ∨ (true = true ∧ b = [49])) := by
      rw [decide_eq_true_iff, decide_eq_true_iff]; simp
    by_cases c1 : whole a = false ∨ whole b = false ∨ neg b = true ∨ decide (b = [48]) = true ∨ decide (b = [49]) = true
    · rw [if_pos c1, if_pos (hc.1 c1)]
    · rw [if_neg c1, if_neg (fun h => c1 (hc.2 h))]
      by_cases c2 : fit a = false ∨ fit b = false
      · rw [if_pos c2, if_pos c2]
      · rw [if_neg c2, if_neg c2]
        by_cases c3 : vld (sv a) (sv b) = false
        · rw [if_pos c3, if_pos c3]
        · rw [if_neg c3, if_neg c3]
theorem c_fi (n : Int) (w : World) (n0 : -9223372036854775808 ≤ n) (n1 : n ≤ 9223372036854775807) (hL : LA w) : Calls Tryz.prog 89 #[.int .i64 n, .int .i64 10] w (Ret (.string ⟨(Lib.itoa n).toArray⟩) w) :=
  (Tryz.strconv_FormatInt_10 n n0 n1 w hL.1).mono fun e w' ⟨he, k, os, hw⟩ => ⟨he, by rw [hw]; exact Go.Lib.below_grow _ _ (Nat.le_refl _) k os⟩
theorem cat3 (a b : List UInt8) : (⟨a.toArray⟩ : ByteArray) ++ ((⟨#[47]⟩ : ByteArray) ++ (⟨b.toArray⟩ : ByteArray)) = ⟨(a ++ 47 :: b).toArray⟩ := by
  apply ByteArray.ext
  simp
theorem dec_len : ∀ (m k : Nat), k < 10 ^ (m + 1) → (Lib.decDigits k).length ≤ m + 1
  | 0, k, h => by rw [dec_small (by simpa using h)]; simp
  | m + 1, k, h => by
    by_cases h10 : k < 10
    · rw [dec_small h10]; simp
    · rw [dec_big h10, List.length_append]
      have := dec_len m (k / 10) (by rw [Nat.pow_succ] at h; omega)
      simp; omega
theorem itoa_len {n : Int} (h0 : -2147483647 ≤ n) (h1 : n ≤ 2147483647) : (Lib.itoa n).length ≤ 11 := by
  have h := dec_len 9 n.natAbs (by have : (10 : Nat) ^ (9 + 1) = 10000000000 := by decide
                                   omega)
  unfold Lib.itoa
  split
  · simp; omega
  · rw [show n.toNat = n.natAbs by omega]; omega
theorem arr_size (l : List UInt8) : (⟨l.toArray⟩ : ByteArray).size = l.length := by rw [Lib.size_eq]
set_option maxHeartbeats 4000000 in
theorem c_fmt (n d : Int) (w : World) (hL : LA w) : Calls Tryz.prog 52 #[.agg #[.int .i64 n, .int .i64 d]] w (Ret (.string ⟨(fmv n d).toArray⟩) w) := by
  have LAh := Lib.hid hL
  have VA := Lib.hid fun w => valid_any n d w
  cases hv : vld n d
  · rw [show fmv n d = [] by unfold fmv; rw [if_pos hv]]
    rw [hv] at VA
    clear hv hL
    go_enter Tryz.func52, Tryz.ntmps52
    go_wp2_with (first | (go_at_call 58; (with_reducible refine (VA.out _).mono ?_); rintro e w1 ⟨rfl, hb1⟩; have hc1 := (bcell hb1).1; have hf1 := (bcell hb1).2; have z1_0 : w.heap.size < w1.heap.size := (by have hzz := hb1.size; (try simp at hzz); omega); have K1 : Below w.heap.size w w1 := Below.trans (b := _) (by (repeat' (first | (with_reducible exact Below.refl _ _) | (with_reducible refine Below.alloc ?_ ?_ _) | (with_reducible refine Below.setCell ?_ ?_ _) | (with_reducible refine below_drewN ?_ _) | (simp; done) | omega | (simp; omega)))) (hb1.mono (by have hzz := hb1.size; (try simp at hzz); first | omega | (simp; done) | (simp; omega)))))
    go_ret
    exact ⟨rfl, K1⟩
  rw [hv] at VA
  obtain ⟨d0, d1, n0, n1, _⟩ := vld_parts hv
  have F1 := Lib.hid fun w h => c_fi n w (by omega) (by omega) h
  have F2 := Lib.hid fun w h => c_fi d w (by omega) (by omega) h
  have HF : Hid (∀ l, (if d = 1 then Lib.itoa n else Lib.itoa n ++ 47 :: Lib.itoa d) = l → fmv n d = l) := Lib.hid fun l hl => by
    unfold fmv; rw [if_neg (by rw [hv]; decide)]; exact hl
  clear hv hL
  by_cases h1 : d = 1
  · rw [HF.out _ (if_pos h1)]
    have g1 : (d != 1) = false := by simpa using h1
    clear HF h1 F2
    generalize Lib.itoa n = a at *
    go_enter Tryz.func52, Tryz.ntmps52
    go_wp2_with (first | (go_at_call 58; (with_reducible refine (VA.out _).mono ?_); rintro e w1 ⟨rfl, hb1⟩; have hc1 := (bcell hb1).1; have hf1 := (bcell hb1).2; have z1_0 : w.heap.size < w1.heap.size := (by have hzz := hb1.size; (try simp at hzz); omega); have K1 : Below w.heap.size w w1 := Below.trans (b := _) (by (repeat' (first | (with_reducible exact Below.refl _ _) | (with_reducible refine Below.alloc ?_ ?_ _) | (with_reducible refine Below.setCell ?_ ?_ _) | (with_reducible refine below_drewN ?_ _) | (simp; done) | omega | (simp; omega)))) (hb1.mono (by have hzz := hb1.size; (try simp at hzz); first | omega | (simp; done) | (simp; omega)))) | (go_at_call 89; (with_reducible refine (F1.out _ (LAh.out.below (by (repeat' (first | (with_reducible exact Below.refl _ _) | (with_reducible exact K1) | (with_reducible refine Below.alloc ?_ ?_ _) | (with_reducible refine Below.setCell ?_ ?_ _) | (with_reducible refine below_drewN ?_ _) | (simp; done) | omega | (simp; omega)))))).mono ?_); rintro e w2 ⟨rfl, hb2⟩; have hc2 := (bcell hb2).1; have hf2 := (bcell hb2).2; have z2_0 : w.heap.size < w2.heap.size := (by have hzz := hb2.size; (try simp at hzz); omega); have K2 : Below w.heap.size w w2 := Below.trans (b := _) (by (repeat' (first | (with_reducible exact Below.refl _ _) | (with_reducible exact K1) | (with_reducible refine Below.alloc ?_ ?_ _) | (with_reducible refine Below.setCell ?_ ?_ _) | (with_reducible refine below_drewN ?_ _) | (simp; done) | omega | (simp; omega)))) (hb2.mono (by have hzz := hb2.size; (try simp at hzz); first | omega | (simp; done) | (simp; omega)))))
    go_ret
    exact ⟨rfl, K2⟩
  · rw [HF.out _ (if_neg h1), ← cat3]
    have g1 : (d != 1) = true := by simpa using h1
    clear HF h1
    have ha : (⟨(Lib.itoa n).toArray⟩ : ByteArray).size ≤ 11 := by rw [arr_size]; exact itoa_len n0 n1
    have hb : (⟨(Lib.itoa d).toArray⟩ : ByteArray).size ≤ 11 := by rw [arr_size]; exact itoa_len (by omega) d1
    generalize (⟨(Lib.itoa n).toArray⟩ : ByteArray) = a at *
    generalize (⟨(Lib.itoa d).toArray⟩ : ByteArray) = b at *
    have h1 : (⟨#[47]⟩ : ByteArray).size = 1 := rfl
    have h2 : ((⟨#[47]⟩ : ByteArray) ++ b).size = 1 + b.size := by rw [ByteArray.size_append, h1]
    have hb9 : ((⟨#[47]⟩ : ByteArray) ++ b).size ≤ 12 := by omega
    clear h1 h2
    go_enter Tryz.func52, Tryz.ntmps52
    go_wp2_with fail
    (with_reducible refine (VA.out _).mono ?_); rintro e w1 ⟨rfl, hb1⟩; have hc1 := (bcell hb1).1; have hf1 := (bcell hb1).2; have z1_0 : w.heap.size < w1.heap.size := (by have hzz := hb1.size; (try simp at hzz); omega); have K1 : Below w.heap.size w w1 := Below.trans (b := _) (by (repeat' (first | (with_reducible exact Below.refl _ _) | (with_reducible refine Below.alloc ?_ ?_ _) | (with_reducible refine Below.setCell ?_ ?_ _) | (with_reducible refine below_drewN ?_ _) | (simp; done) | omega | (simp; omega)))) (hb1.mono (by have hzz := hb1.size; (try simp at hzz); first | omega | (simp; done) | (simp; omega)))
    go_wp2_with fail
    (with_reducible refine (F1.out _ (LAh.out.below (by (repeat' (first | (with_reducible exact Below.refl _ _) | (with_reducible exact K1) | (with_reducible refine Below.alloc ?_ ?_ _) | (with_reducible refine Below.setCell ?_ ?_ _) | (with_reducible refine below_drewN ?_ _) | (simp; done) | omega | (simp; omega)))))).mono ?_); rintro e w2 ⟨rfl, hb2⟩; have hc2 := (bcell hb2).1; have hf2 := (bcell hb2).2; have z2_0 : w.heap.size < w2.heap.size := (by have hzz := hb2.size; (try simp at hzz); omega); have K2 : Below w.heap.size w w2 := Below.trans (b := _) (by (repeat' (first | (with_reducible exact Below.refl _ _) | (with_reducible exact K1) | (with_reducible refine Below.alloc ?_ ?_ _) | (with_reducible refine Below.setCell ?_ ?_ _) | (with_reducible refine below_drewN ?_ _) | (simp; done) | omega | (simp; omega)))) (hb2.mono (by have hzz := hb2.size; (try simp at hzz); first | omega | (simp; done) | (simp; omega)))
    go_wp2_with fail
    (with_reducible refine (F2.out _ (LAh.out.below (by (repeat' (first | (with_reducible exact Below.refl _ _) | (with_reducible exact K2) | (with_reducible refine Below.alloc ?_ ?_ _) | (with_reducible refine Below.setCell ?_ ?_ _) | (with_reducible refine below_drewN ?_ _) | (simp; done) | omega | (simp; omega)))))).mono ?_); rintro e w3 ⟨rfl, hb3⟩; have hc3 := (bcell hb3).1; have hf3 := (bcell hb3).2; have z3_0 : w.heap.size < w3.heap.size := (by have hzz := hb3.size; (try simp at hzz); omega); have K3 : Below w.heap.size w w3 := Below.trans (b := _) (by (repeat' (first | (with_reducible exact Below.refl _ _) | (with_reducible exact K1) | (with_reducible exact K2) | (with_reducible refine Below.alloc ?_ ?_ _) | (with_reducible refine Below.setCell ?_ ?_ _) | (with_reducible refine below_drewN ?_ _) | (simp; done) | omega | (simp; omega)))) (hb3.mono (by have hzz := hb3.size; (try simp at hzz); first | omega | (simp; done) | (simp; omega)))
    go_wp2
    go_ret
    exact ⟨rfl, K3⟩
end Go.Proofs.YtikcinkbkakkmaaGreatDoor.Tx


namespace Go.Proofs.YtikcinkbkakkmaaGreatDoor.Tx
open Go.ChangeShapes Go.WideShapes Go.ChangeAt Go.RowKit
open Fr Fx
set_option maxRecDepth 8000
set_option linter.unusedVariables false
set_option linter.unusedSimpArgs false

set_option maxHeartbeats 4000000 in
theorem rw_a (s : ByteArray) (w : World) (W u v : Bool) (hs : s.size ≤ maxLen) (y1 : decide ((1 : Int) < s.size) = false) (hf : 0 < s.size) (hu : ((s[0].toNat : Int) != 48) = u) (hv : ((s.size : Int) == 1) = v)
    (H2 : Hid (∀ k (h : k < s.size), 0 ≤ k → isD s[k] = false → W = false)) (H3 : Hid (Hid (∀ k (h : k < s.size), 0 ≤ k → isD s[k] = true) → W = (u || v))) :
    Calls Tryz.prog 85 #[.string s] w fun e w' => e = .returned (.bool W) ∧ w = w' := by
  unfold maxLen at hs
  have hf2 : (0 : Int) < s.size := by omega
  have HU := Lib.hid hu
  have HV := Lib.hid hv
  clear hu hv
  go_enter Tryz.func85, Tryz.ntmps85
  go_wp2
  go_loop [4] (fun i => ∃ k : Nat, i = .int .i64 k ∧ 0 ≤ k ∧ k ≤ s.size ∧ Hid (∀ j (h : j < s.size), 0 ≤ j → j < k → isD s[j] = true)) (fun i => s.size - (intOf i).toNat)
  case atStart => exact ⟨0, rfl, Nat.le_refl _, by omega, Lib.hid fun j h h1 h' => absurd h' (by omega)⟩
  case round =>
    obtain ⟨k, rfl, hk0, hk, HP⟩ := hrel
    skip
    by_cases hlt : k < s.size
    · have kk : (0 : Int) ≤ k := by omega
      have k2 : (k : Int) < s.size := by omega
      by_cases g1 : (s[k].toNat : Int) < 48
      · obtain rfl : W = false := H2.out k hlt hk0 (by unfold isD; exact decide_eq_false (by omega))
        clear H2 H3 HP
        go_wp2
        go_ret
        exact ⟨rfl, rfl⟩
      · by_cases g2 : 57 < (s[k].toNat : Int)
        · obtain rfl : W = false := H2.out k hlt hk0 (by unfold isD; exact decide_eq_false (by omega))
          clear H2 H3 HP
          go_wp2
          go_ret
          exact ⟨rfl, rfl⟩
        · have HN : Hid (∀ j (h : j < s.size), 0 ≤ j → j < k + 1 → isD s[j] = true) := Lib.hid fun j h h1 hj => by
            rcases (by omega : j < k ∨ j = k) with h' | rfl
            · exact HP.out j h h1 h'
            · unfold isD; exact decide_eq_true (by omega)
          have g3 : (48 : Int) ≤ s[k].toNat := by omega
          have g4 : (s[k].toNat : Int) ≤ 57 := by omega
          clear HP g1 g2
          go_wp2
          go_round
          case rel => exact ⟨k + 1, by go_num, by omega, by omega, HN⟩
          case measure => simp [intOf]; omega
    · have hW := H3.out (Lib.hid fun j h h1 => HP.out j h h1 (by omega))
      obtain rfl : k = s.size := by omega
      clear H2 H3 HP
      have hu := HU.out
      have hv := HV.out
      clear HU HV
      subst hW
      cases u <;> cases v
      all_goals
        go_wp2
        go_ret
        exact ⟨rfl, rfl⟩

set_option maxHeartbeats 4000000 in
theorem rw_b (s : ByteArray) (w : World) (W u v : Bool) (hs : s.size ≤ maxLen) (y1 : decide ((1 : Int) < s.size) = true) (p1 : 0 < s.size) (z1 : ((s[0].toNat : Int) == 45) = false) (hf : 0 < s.size) (hu : ((s[0].toNat : Int) != 48) = u) (hv : ((s.size : Int) == 1) = v)
    (H2 : Hid (∀ k (h : k < s.size), 0 ≤ k → isD s[k] = false → W = false)) (H3 : Hid (Hid (∀ k (h : k < s.size), 0 ≤ k → isD s[k] = true) → W = (u || v))) :
    Calls Tryz.prog 85 #[.string s] w fun e w' => e = .returned (.bool W) ∧ w = w' := by
  unfold maxLen at hs
  have hf2 : (0 : Int) < s.size := by omega
  have HU := Lib.hid hu
  have HV := Lib.hid hv
  clear hu hv
  go_enter Tryz.func85, Tryz.ntmps85
  go_wp2
  go_loop [4] (fun i => ∃ k : Nat, i = .int .i64 k ∧ 0 ≤ k ∧ k ≤ s.size ∧ Hid (∀ j (h : j < s.size), 0 ≤ j → j < k → isD s[j] = true)) (fun i => s.size - (intOf i).toNat)
  case atStart => exact ⟨0, rfl, Nat.le_refl _, by omega, Lib.hid fun j h h1 h' => absurd h' (by omega)⟩
  case round =>
    obtain ⟨k, rfl, hk0, hk, HP⟩ := hrel
    try clear z1
    by_cases hlt : k < s.size
    · have kk : (0 : Int) ≤ k := by omega
      have k2 : (k : Int) < s.size := by omega
      by_cases g1 : (s[k].toNat : Int) < 48
      · obtain rfl : W = false := H2.out k hlt hk0 (by unfold isD; exact decide_eq_false (by omega))
        clear H2 H3 HP
        go_wp2
        go_ret
        exact ⟨rfl, rfl⟩
      · by_cases g2 : 57 < (s[k].toNat : Int)
        · obtain rfl : W = false := H2.out k hlt hk0 (by unfold isD; exact decide_eq_false (by omega))
          clear H2 H3 HP
          go_wp2
          go_ret
          exact ⟨rfl, rfl⟩
        · have HN : Hid (∀ j (h : j < s.size), 0 ≤ j → j < k + 1 → isD s[j] = true) := Lib.hid fun j h h1 hj => by
            rcases (by omega : j < k ∨ j = k) with h' | rfl
            · exact HP.out j h h1 h'
            · unfold isD; exact decide_eq_true (by omega)
          have g3 : (48 : Int) ≤ s[k].toNat := by omega
          have g4 : (s[k].toNat : Int) ≤ 57 := by omega
          clear HP g1 g2
          go_wp2
          go_round
          case rel => exact ⟨k + 1, by go_num, by omega, by omega, HN⟩
          case measure => simp [intOf]; omega
    · have hW := H3.out (Lib.hid fun j h h1 => HP.out j h h1 (by omega))
      obtain rfl : k = s.size := by omega
      clear H2 H3 HP
      have hu := HU.out
      have hv := HV.out
      clear HU HV
      subst hW
      cases u <;> cases v
      all_goals
        go_wp2
        go_ret
        exact ⟨rfl, rfl⟩

set_option maxHeartbeats 4000000 in
theorem rw_c (s : ByteArray) (w : World) (W u v : Bool) (hs : s.size ≤ maxLen) (y1 : decide ((1 : Int) < s.size) = true) (p1 : 0 < s.size) (z1 : ((s[0].toNat : Int) == 45) = true) (hf : 1 < s.size) (hu : ((s[1].toNat : Int) != 48) = u) (hv : ((s.size : Int) == 1) = v)
    (H2 : Hid (∀ k (h : k < s.size), 1 ≤ k → isD s[k] = false → W = false)) (H3 : Hid (Hid (∀ k (h : k < s.size), 1 ≤ k → isD s[k] = true) → W = (u || v))) :
    Calls Tryz.prog 85 #[.string s] w fun e w' => e = .returned (.bool W) ∧ w = w' := by
  unfold maxLen at hs
  have hf2 : (1 : Int) < s.size := by omega
  have HU := Lib.hid hu
  have HV := Lib.hid hv
  clear hu hv
  go_enter Tryz.func85, Tryz.ntmps85
  go_wp2
  go_loop [4] (fun i => ∃ k : Nat, i = .int .i64 k ∧ 1 ≤ k ∧ k ≤ s.size ∧ Hid (∀ j (h : j < s.size), 1 ≤ j → j < k → isD s[j] = true)) (fun i => s.size - (intOf i).toNat)
  case atStart => exact ⟨1, rfl, Nat.le_refl _, by omega, Lib.hid fun j h h1 h' => absurd h' (by omega)⟩
  case round =>
    obtain ⟨k, rfl, hk0, hk, HP⟩ := hrel
    clear y1 z1
    by_cases hlt : k < s.size
    · have kk : (0 : Int) ≤ k := by omega
      have k2 : (k : Int) < s.size := by omega
      by_cases g1 : (s[k].toNat : Int) < 48
      · obtain rfl : W = false := H2.out k hlt hk0 (by unfold isD; exact decide_eq_false (by omega))
        clear H2 H3 HP
        go_wp2
        go_ret
        exact ⟨rfl, rfl⟩
      · by_cases g2 : 57 < (s[k].toNat : Int)
        · obtain rfl : W = false := H2.out k hlt hk0 (by unfold isD; exact decide_eq_false (by omega))
          clear H2 H3 HP
          go_wp2
          go_ret
          exact ⟨rfl, rfl⟩
        · have HN : Hid (∀ j (h : j < s.size), 1 ≤ j → j < k + 1 → isD s[j] = true) := Lib.hid fun j h h1 hj => by
            rcases (by omega : j < k ∨ j = k) with h' | rfl
            · exact HP.out j h h1 h'
            · unfold isD; exact decide_eq_true (by omega)
          have g3 : (48 : Int) ≤ s[k].toNat := by omega
          have g4 : (s[k].toNat : Int) ≤ 57 := by omega
          clear HP g1 g2
          go_wp2
          go_round
          case rel => exact ⟨k + 1, by go_num, by omega, by omega, HN⟩
          case measure => simp [intOf]; omega
    · have hW := H3.out (Lib.hid fun j h h1 => HP.out j h h1 (by omega))
      obtain rfl : k = s.size := by omega
      clear H2 H3 HP
      have hu := HU.out
      have hv := HV.out
      clear HU HV
      subst hW
      cases u <;> cases v
      all_goals
        go_wp2
        go_ret
        exact ⟨rfl, rfl⟩

theorem r_whole (s : ByteArray) (w : World) (hs : s.size ≤ maxLen) : Calls Tryz.prog 85 #[.string s] w fun e w' => e = .returned (.bool (whole s.data.toList)) ∧ w = w' := by
  have hsz := Lib.size_eq s
  obtain ⟨l, hl⟩ : ∃ l, s.data.toList = l := ⟨_, rfl⟩
  rw [hl] at hsz ⊢
  by_cases h0 : s.size = 0
  · have hln : l = [] := List.eq_nil_of_length_eq_zero (by omega)
    rw [show whole l = false by rw [hln]; rfl]
    obtain rfl : s = ⟨#[]⟩ := by
      apply ByteArray.ext
      apply Array.ext'
      rw [hl, hln]
    clear hl hsz h0 hln hs
    go_enter Tryz.func85, Tryz.ntmps85
    go_wp2
    refine wp_loop_rounds 1 ?_
    rw [rounds_succ]
    go_wp2
    go_ret
    exact ⟨rfl, rfl⟩
  have hp : 0 < s.size := by omega
  have hge : ∀ k (h : k < s.size), s[k] = l[k]'(by omega) := fun k h => get_list hl k h (by omega)
  have hhn := head_neg hl hp
  have hv1 : ((s.size : Int) == 1) = decide (s.size = 1) := by rw [Bool.eq_iff_iff, beq_iff_eq, decide_eq_true_iff]; omega
  -- the digits from place f on, the first of them
  have key : ∀ (f : Nat) (hf : f < s.size), bd l = l.drop f → ∀ W, W = whole l →
      (∀ k (h : k < s.size), f ≤ k → isD s[k] = false → W = false) ∧ ((∀ k (h : k < s.size), f ≤ k → isD s[k] = true) → W = (((s[f].toNat : Int) != 48) || decide (s.size = 1))) := by
    intro f hf hb W hW
    have hne : bd l ≠ [] := by rw [hb]; intro e; have := congrArg List.length e; rw [List.length_drop] at this; simp at this; omega
    have hhd : (bd l).headD 0 = s[f] := by
      rw [hb, hge f hf, List.headD_eq_head?_getD, List.head?_drop, List.getElem?_eq_getElem (by omega)]; rfl
    have hw : whole l = ((bd l).all isD && !(decide (s[f] = 48) && decide (1 < l.length))) := by
      unfold whole
      rw [decide_eq_true hne, hhd, Bool.true_and]
    refine ⟨fun k h hk hd => ?_, fun hall => ?_⟩
    · rw [hW, hw]
      have : (bd l).all isD = false := by
        cases e : (bd l).all isD
        · rfl
        · rw [List.all_eq_true] at e
          have := e s[k] (by rw [hb, hge k h]; exact List.mem_drop_iff_getElem.2 ⟨k - f, by omega, by congr 1; omega⟩)
          rw [hd] at this; cases this
      rw [this]; rfl
    · rw [hW, hw]
      have : (bd l).all isD = true := by
        rw [List.all_eq_true]
        intro x hx
        rw [hb] at hx
        obtain ⟨i, hi, rfl⟩ := List.mem_drop_iff_getElem.1 hx
        rw [← hge (f + i) (by omega)]
        exact hall _ _ (by omega)
      rw [this, Bool.true_and, Bool.not_and]
      congr 1
      · rw [bne, Bool.eq_iff_iff]
        simp only [Bool.not_eq_true', decide_eq_false_iff_not, beq_eq_false_iff_ne, ne_eq]
        constructor
        · intro h h'; exact h (UInt8.toNat_inj.1 (by have h48 : (48 : UInt8).toNat = 48 := rfl; omega))
        · intro h h'; exact h (by rw [h']; rfl)
      · rw [Bool.eq_iff_iff]; simp only [Bool.not_eq_true', decide_eq_false_iff_not, decide_eq_true_eq]; omega
  by_cases h1 : s.size ≤ 1
  · have hb : bd l = l.drop 0 ∨ neg l = true := by
      cases hn : neg l
      · left; unfold bd; rw [if_neg (by rw [hn]; decide)]; rfl
      · exact Or.inr rfl
    rcases hb with hb | hn
    · obtain ⟨k1, k2⟩ := key 0 hp hb _ rfl
      exact rw_a s w _ _ _ hs (by simp; omega) hp rfl hv1 (Lib.hid fun k h _ hd => k1 k h (Nat.zero_le _) hd) (Lib.hid fun h => k2 fun k h' _ => h.out k h' (Nat.zero_le _))
    · have hw : whole l = false := by
        cases e : whole l
        · rfl
        · obtain ⟨a1, _⟩ := whole_parts e
          unfold bd at a1
          rw [if_pos hn] at a1
          cases l with
          | nil => cases hn
          | cons c r =>
            have hr : s.size = r.length + 1 := hsz
            exact absurd (List.eq_nil_of_length_eq_zero (show r.length = 0 by omega)) a1
      have hs0 : isD s[0] = false := by
        have h45 : (s[0].toNat : Int) = 45 := by rw [hn] at hhn; simpa using hhn
        unfold isD; exact decide_eq_false (by omega)
      rw [hw]
      refine rw_a s w false _ _ hs (by simp; omega) hp rfl hv1 (Lib.hid fun _ _ _ _ => rfl) (Lib.hid fun h => ?_)
      have := h.out 0 hp (Nat.zero_le _)
      rw [hs0] at this; cases this
  · have hy : decide ((1 : Int) < s.size) = true := by simp; omega
    cases hn : neg l
    · have hb : bd l = l.drop 0 := by unfold bd; rw [if_neg (by rw [hn]; decide)]; rfl
      obtain ⟨k1, k2⟩ := key 0 hp hb _ rfl
      exact rw_b s w _ _ _ hs hy hp (by rw [hhn, hn]) hp rfl hv1 (Lib.hid fun k h _ hd => k1 k h (Nat.zero_le _) hd) (Lib.hid fun h => k2 fun k h' _ => h.out k h' (Nat.zero_le _))
    · have hb : bd l = l.drop 1 := by unfold bd; rw [if_pos hn, List.drop_one]
      obtain ⟨k1, k2⟩ := key 1 (by omega) hb _ rfl
      exact rw_c s w _ _ _ hs hy hp (by rw [hhn, hn]) (by omega) rfl hv1 (Lib.hid fun k h h1 hd => k1 k h h1 hd) (Lib.hid fun h => k2 fun k h' h1 => h.out k h' h1)
end Go.Proofs.YtikcinkbkakkmaaGreatDoor.Tx


namespace Go.Proofs.YtikcinkbkakkmaaGreatDoor.Tx
open Go.ChangeShapes Go.WideShapes Go.ChangeAt Go.RowKit
open Fr Fx
set_option maxRecDepth 8000
set_option linter.unusedVariables false
set_option linter.unusedSimpArgs false

set_option maxHeartbeats 4000000 in
theorem rv_p (s : ByteArray) (w : World) (V : Nat) (hs : s.size ≤ maxLen) (p1 : 0 < s.size) (z1 : ((s[0].toNat : Int) == 45) = false) (hd : Hid (∀ k (h : k < s.size), 0 ≤ k → isD s[k] = true)) (hV : V = nv10 0 (s.data.toList.drop 0))
    (H1 : Hid (∀ k (h : k < s.size), 0 ≤ k → 2147483647 < nv10 0 (s.data.toList.take  (k + 1)) → 2147483647 < V)) :
    Calls Tryz.prog 86 #[.string s] w fun e w' => e = .returned (if V ≤ 2147483647 then .tuple #[.int .i64 ((V : Int)), .bool true] else .tuple #[.int .i64 0, .bool false]) ∧ w = w' := by
  unfold maxLen at hs
  have H2 : Hid (∀ e, (if V ≤ 2147483647 then Value.tuple #[.int .i64 ((V : Int)), .bool true] else .tuple #[.int .i64 0, .bool false]) = e → e = e) := Lib.hid fun e h => rfl
  have HV := Lib.hid hV
  have hsz := Lib.size_eq s
  obtain ⟨E, hE⟩ : ∃ E, (if V ≤ 2147483647 then Value.tuple #[.int .i64 ((V : Int)), .bool true] else .tuple #[.int .i64 0, .bool false]) = E := ⟨_, rfl⟩
  rw [hE]
  have HE := Lib.hid hE
  have HS := Lib.hid hsz
  clear hV hE H2 hsz
  go_enter Tryz.func86, Tryz.ntmps86
  go_wp2
  go_loop [4, 5] (fun n i => ∃ k q : Nat, n = .int .i64 q ∧ i = .int .i64 k ∧ k ≤ s.size ∧ q ≤ 2147483647 ∧ Hid (q = nv10 0 (s.data.toList.take k))) (fun _ i => s.size - (intOf i).toNat)
  case atStart => exact ⟨0, 0, rfl, rfl, Nat.zero_le _, by omega, Lib.hid (by rw [List.take_zero]; rfl)⟩
  case round =>
    obtain ⟨k, q, rfl, rfl, hk, hq, HQ⟩ := hrel
    by_cases hlt : k < s.size
    · have kk : (0 : Int) ≤ k := by omega
      have k2 : (k : Int) < s.size := by omega
      have H3 := HE
      have hdk := hd.out k hlt (by omega)
      unfold isD at hdk
      rw [decide_eq_true_iff] at hdk
      have g3 : (48 : Int) ≤ s[k].toNat := by omega
      have g4 : (s[k].toNat : Int) ≤ 57 := by omega
      have g5 : ((s[k].toNat : Int) == 45) = false := by simp; omega
      have HM : Hid (q * 10 + (s[k].toNat - 48) = nv10 0 (s.data.toList.take  (k + 1))) := Lib.hid (by
        rw [get_list rfl k hlt (by rw [← HS.out]; exact hlt)]
        rw [HQ.out]
        rw [List.take_succ_eq_append_getElem (by rw [← HS.out]; exact hlt), nv_snoc])
      obtain ⟨m, hm⟩ : ∃ m : Nat, q * 10 + (s[k].toNat - 48) = m := ⟨_, rfl⟩
      have hmi : (q : Int) * 10 + ((s[k].toNat : Int) - 48) = m := by omega
      rw [hm] at HM
      clear hdk z1
      by_cases hbig : 2147483647 < m
      · have hVb := H1.out k hlt (by omega) (by rw [← HM.out]; exact hbig)
        have hEE : E = .tuple #[.int .i64 0, .bool false] := by rw [← HE.out, if_neg (by omega)]
        subst hEE
        have g6 : decide ((2147483647 : Int) < m) = true := by simp; omega
        clear HM HQ H1 HE H3 HV HS hd hVb hm
        go_wp2
        go_ret2
        exact ⟨rfl, rfl⟩
      · have g6 : decide ((2147483647 : Int) < m) = false := by simp; omega
        clear HQ H3 hm
        go_wp2
        go_round
        case rel => exact ⟨k + 1, m, rfl, by go_num, by omega, by omega, HM⟩
        case measure => simp [intOf]; omega
    · obtain rfl : k = s.size := by omega
      have hqV : q = V := by
        rw [HQ.out, HV.out]
        congr 1
        rw [List.take_of_length_le (by rw [← HS.out]; omega), List.drop_zero]
      subst hqV
      have hEE : E = .tuple #[.int .i64 ((q : Int)), .bool true] := by rw [← HE.out, if_pos hq]
      subst hEE
      have p2 : (0 : Int) < s.size := by omega
      clear HQ HE HV HS H1 hd
      go_wp2
      go_ret2
      exact ⟨rfl, rfl⟩

set_option maxHeartbeats 4000000 in
theorem rv_n (s : ByteArray) (w : World) (V : Nat) (hs : s.size ≤ maxLen) (p1 : 0 < s.size) (z1 : ((s[0].toNat : Int) == 45) = true) (hd : Hid (∀ k (h : k < s.size), 1 ≤ k → isD s[k] = true)) (hV : V = nv10 0 (s.data.toList.drop 1))
    (H1 : Hid (∀ k (h : k < s.size), 1 ≤ k → 2147483647 < nv10 0 ((s.data.toList.drop 1).take ( (k + 1) - 1)) → 2147483647 < V)) :
    Calls Tryz.prog 86 #[.string s] w fun e w' => e = .returned (if V ≤ 2147483647 then .tuple #[.int .i64 (-(V : Int)), .bool true] else .tuple #[.int .i64 0, .bool false]) ∧ w = w' := by
  unfold maxLen at hs
  have H2 : Hid (∀ e, (if V ≤ 2147483647 then Value.tuple #[.int .i64 (-(V : Int)), .bool true] else .tuple #[.int .i64 0, .bool false]) = e → e = e) := Lib.hid fun e h => rfl
  have HV := Lib.hid hV
  have hsz := Lib.size_eq s
  obtain ⟨E, hE⟩ : ∃ E, (if V ≤ 2147483647 then Value.tuple #[.int .i64 (-(V : Int)), .bool true] else .tuple #[.int .i64 0, .bool false]) = E := ⟨_, rfl⟩
  rw [hE]
  have HE := Lib.hid hE
  have HS := Lib.hid hsz
  clear hV hE H2 hsz
  go_enter Tryz.func86, Tryz.ntmps86
  go_wp2
  go_loop [4, 5] (fun n i => ∃ k q : Nat, n = .int .i64 q ∧ i = .int .i64 k ∧ k ≤ s.size ∧ q ≤ 2147483647 ∧ Hid (q = nv10 0 ((s.data.toList.drop 1).take (k - 1)))) (fun _ i => s.size - (intOf i).toNat)
  case atStart => exact ⟨0, 0, rfl, rfl, Nat.zero_le _, by omega, Lib.hid (by rw [Nat.zero_sub, List.take_zero]; rfl)⟩
  case round =>
    obtain ⟨k, q, rfl, rfl, hk, hq, HQ⟩ := hrel
    by_cases hlt : k < s.size
    · have kk : (0 : Int) ≤ k := by omega
      have k2 : (k : Int) < s.size := by omega
      have H3 := HE
      by_cases hk0 : k = 0
      · subst hk0
        have hq0 : q = 0 := by have h := HQ.out; rw [Nat.zero_sub, List.take_zero] at h; exact h
        subst hq0
        have HN : Hid ((0 : Nat) = nv10 0 ((s.data.toList.drop 1).take (1 - 1))) := Lib.hid (by rw [Nat.sub_self, List.take_zero]; rfl)
        have z2 := z1
        clear HQ H3
        go_wp2
        go_round
        case rel => exact ⟨1, 0, rfl, by go_num, by omega, by omega, HN⟩
        case measure => simp [intOf]; omega
      have hdk := hd.out k hlt (by omega)
      unfold isD at hdk
      rw [decide_eq_true_iff] at hdk
      have g3 : (48 : Int) ≤ s[k].toNat := by omega
      have g4 : (s[k].toNat : Int) ≤ 57 := by omega
      have g5 : ((s[k].toNat : Int) == 45) = false := by simp; omega
      have HM : Hid (q * 10 + (s[k].toNat - 48) = nv10 0 ((s.data.toList.drop 1).take ( (k + 1) - 1))) := Lib.hid (by
        rw [get_list rfl k hlt (by rw [← HS.out]; exact hlt)]
        rw [HQ.out]
        rw [show k + 1 - 1 = (k - 1) + 1 by omega, List.take_succ_eq_append_getElem (by rw [List.length_drop, ← HS.out]; omega), nv_snoc]; have e1 : 1 + (k - 1) = k := (by omega); simp only [List.getElem_drop, e1])
      obtain ⟨m, hm⟩ : ∃ m : Nat, q * 10 + (s[k].toNat - 48) = m := ⟨_, rfl⟩
      have hmi : (q : Int) * 10 + ((s[k].toNat : Int) - 48) = m := by omega
      rw [hm] at HM
      clear hdk z1
      by_cases hbig : 2147483647 < m
      · have hVb := H1.out k hlt (by omega) (by rw [← HM.out]; exact hbig)
        have hEE : E = .tuple #[.int .i64 0, .bool false] := by rw [← HE.out, if_neg (by omega)]
        subst hEE
        have g6 : decide ((2147483647 : Int) < m) = true := by simp; omega
        clear HM HQ H1 HE H3 HV HS hd hVb hm
        go_wp2
        go_ret2
        exact ⟨rfl, rfl⟩
      · have g6 : decide ((2147483647 : Int) < m) = false := by simp; omega
        clear HQ H3 hm
        go_wp2
        go_round
        case rel => exact ⟨k + 1, m, rfl, by go_num, by omega, by omega, HM⟩
        case measure => simp [intOf]; omega
    · obtain rfl : k = s.size := by omega
      have hqV : q = V := by
        rw [HQ.out, HV.out]
        congr 1
        rw [List.take_of_length_le (by rw [List.length_drop, ← HS.out]; omega)]
      subst hqV
      have hEE : E = .tuple #[.int .i64 (-(q : Int)), .bool true] := by rw [← HE.out, if_pos hq]
      subst hEE
      have p2 : (0 : Int) < s.size := by omega
      clear HQ HE HV HS H1 hd
      go_wp2
      go_ret2
      exact ⟨rfl, rfl⟩

theorem nv_take_le (l : List UInt8) (k : Nat) : nv10 0 (l.take k) ≤ nv10 0 l := by
  have h := nv_append 0 (l.take k) (l.drop k)
  rw [List.take_append_drop] at h
  rw [h]
  exact nv_ge _ _
theorem r_value (s : ByteArray) (w : World) (hs : s.size ≤ maxLen) (h : Tx.whole s.data.toList = true) :
    Calls Tryz.prog 86 #[.string s] w fun e w' => e = .returned (if fit s.data.toList then .tuple #[.int .i64 (sv s.data.toList), .bool true] else .tuple #[.int .i64 0, .bool false]) ∧ w = w' := by
  have hp := whole_size h
  obtain ⟨h1, h2, h3⟩ := whole_parts h
  have hsz := Lib.size_eq s
  obtain ⟨l, hl⟩ : ∃ l, s.data.toList = l := ⟨_, rfl⟩
  have hhn := head_neg hl hp
  have hge : ∀ k (h : k < s.size), s[k] = l[k]'(by rw [← hl, ← hsz]; exact h) := fun k h => get_list hl k h _
  rw [hl] at h1 h2 hsz ⊢
  have hfit : ∀ e1 e2 : Value, (if fit l then e1 else e2) = if av l ≤ 2147483647 then e1 else e2 := fun e1 e2 => by
    unfold fit
    by_cases hc : av l ≤ 2147483647
    · rw [if_pos hc, if_pos (decide_eq_true hc)]
    · rw [if_neg hc, if_neg (by simp; omega)]
  rw [hfit]
  cases hn : neg l
  · have hb : bd l = l := by unfold bd; rw [if_neg (by rw [hn]; decide)]
    have ha : av l = nv10 0 l := by unfold av; rw [hb]
    rw [show sv l = (av l : Int) by unfold sv; rw [if_neg (by rw [hn]; decide)]]
    refine rv_p s w (av l) hs hp (by rw [hhn, hn]) (Lib.hid fun k hk _ => ?_) (by rw [hl, ha]; rfl) (Lib.hid fun k hk _ hb => ?_)
    · rw [hge k hk]; rw [hb] at h2; exact List.all_eq_true.1 h2 _ (List.getElem_mem _)
    · rw [ha]; rw [hl] at hb; have := nv_take_le l (k + 1); omega
  · have hb : bd l = l.drop 1 := by unfold bd; rw [if_pos hn, List.drop_one]
    have ha : av l = nv10 0 (l.drop 1) := by unfold av; rw [hb]
    rw [show sv l = -(av l : Int) by unfold sv; rw [if_pos hn]]
    refine rv_n s w (av l) hs hp (by rw [hhn, hn]) (Lib.hid fun k hk h1 => ?_) (by rw [hl, ha]) (Lib.hid fun k hk _ hb => ?_)
    · rw [hge k hk]; rw [hb] at h2
      exact List.all_eq_true.1 h2 _ (List.mem_drop_iff_getElem.2 ⟨k - 1, by omega, by congr 1; omega⟩)
    · rw [ha]; rw [hl] at hb; have := nv_take_le (l.drop 1) (k + 1 - 1); omega
end Go.Proofs.YtikcinkbkakkmaaGreatDoor.Tx


namespace Go.Proofs.YtikcinkbkakkmaaGreatDoor.Tx
open Go.ChangeShapes Go.WideShapes Go.ChangeAt Go.RowKit
open Fr Fx
set_option maxRecDepth 8000
set_option linter.unusedVariables false
set_option linter.unusedSimpArgs false

theorem dig_ext : ∀ r : Nat, r < 10 → (⟨#[48, 49, 50, 51, 52, 53, 54, 55, 56, 57]⟩ : ByteArray).extract r (r + 1) = ⟨#[UInt8.ofNat (48 + r)]⟩ := by decide
theorem cat2 (a b : List UInt8) : (⟨a.toArray⟩ : ByteArray) ++ (⟨b.toArray⟩ : ByteArray) = ⟨(a ++ b).toArray⟩ := by
  apply ByteArray.ext
  simp
theorem mk_list (t : ByteArray) : (⟨t.data.toList.toArray⟩ : ByteArray) = t := by
  apply ByteArray.ext
  simp
set_option maxHeartbeats 4000000 in
theorem r_plain (n : Nat) (hn : n ≤ 2147483648) (w : World) : Calls Tryz.prog 113 #[.int .u64 n] w fun e w' => e = .returned (.string ⟨(Lib.decDigits n).toArray⟩) ∧ w = w' := by
  have hlen := dec_len 9 n (by have : (10 : Nat) ^ (9 + 1) = 10000000000 := by decide
                               omega)
  obtain ⟨D, hD⟩ : ∃ D, Lib.decDigits n = D := ⟨_, rfl⟩
  rw [hD] at hlen ⊢
  have HD := Lib.hid hD
  have hcs : (⟨#[48, 49, 50, 51, 52, 53, 54, 55, 56, 57]⟩ : ByteArray).size = 10 := rfl
  clear hD
  go_enter Tryz.func113, Tryz.ntmps113
  go_wp2
  go_loop [0, 3] (fun a b => ∃ (q : Nat) (t : ByteArray), a = .int .u64 q ∧ b = .string t ∧ q ≤ 2147483648 ∧ t.size ≤ 10 ∧ Hid (Lib.decDigits q ++ t.data.toList = D)) (fun a _ => (intOf a).toNat)
  case atStart => exact ⟨n, ⟨#[]⟩, rfl, rfl, hn, by decide, Lib.hid (by rw [HD.out]; simp)⟩
  case round =>
    obtain ⟨q, t, rfl, rfl, hq, ht, HT⟩ := hrel
    have q0 : (0 : Int) ≤ q := by omega
    by_cases h : q < 10
    · have g : decide ((10 : Int) ≤ q) = false := by simp; omega
      have e1 := dig_ext q h
      have hE : (⟨#[UInt8.ofNat (48 + q)]⟩ : ByteArray) ++ t = ⟨D.toArray⟩ := by
        rw [← HT.out, dec_small h, ← cat2, mk_list]
      obtain ⟨c, hc⟩ : ∃ c, (⟨#[UInt8.ofNat (48 + q)]⟩ : ByteArray) = c := ⟨_, rfl⟩
      have hc1 : c.size = 1 := by rw [← hc]; rfl
      rw [hc] at e1 hE
      have j1 : (q : Int) + 1 ≤ 10 := by omega
      have j2 : ((q : Int) + 1).toNat = q + 1 := by omega
      have HE := Lib.hid hE
      clear hE hc h
      go_wp2
      go_ret
      exact ⟨by rw [HE.out]; rfl, rfl⟩
    · obtain ⟨r, hr⟩ : ∃ r : Nat, q % 10 = r := ⟨_, rfl⟩
      obtain ⟨k, hk⟩ : ∃ k : Nat, q / 10 = k := ⟨_, rfl⟩
      have hr10 : r < 10 := by omega
      have g : decide ((10 : Int) ≤ q) = true := by simp; omega
      have e1 := dig_ext r hr10
      have hN : Hid (Lib.decDigits k ++ ((⟨#[UInt8.ofNat (48 + r)]⟩ : ByteArray) ++ t).data.toList = D) := Lib.hid (by
        rw [← HT.out, dec_big h, hr, hk]
        simp)
      have hl : ((⟨#[UInt8.ofNat (48 + r)]⟩ : ByteArray) ++ t).size ≤ 10 := by
        rw [Lib.size_eq]
        have h1 := congrArg List.length hN.out
        have h2 := (dec_spec k).1
        rw [List.length_append] at h1
        have h3 := List.length_pos_iff.2 h2
        omega
      obtain ⟨c, hc⟩ : ∃ c, (⟨#[UInt8.ofNat (48 + r)]⟩ : ByteArray) = c := ⟨_, rfl⟩
      have hc1 : c.size = 1 := by rw [← hc]; rfl
      rw [hc] at e1 hN hl
      have j1 : (r : Int) + 1 ≤ 10 := by omega
      have j2 : ((r : Int) + 1).toNat = r + 1 := by omega
      have j3 : (q : Int) % 10 = r := by omega
      have j4 : (q : Int) / 10 = k := by omega
      have hkq : k < q := by omega
      have hk2 : k ≤ 2147483648 := by omega
      have r0 : (0 : Int) ≤ r := by omega
      clear hc h HT hr hk
      go_wp2
      go_round
      case rel => exact ⟨k, c ++ t, rfl, rfl, hk2, hl, hN⟩
      case measure => simp [intOf]; omega
theorem r_digits (n : Int) (n0 : -2147483648 ≤ n) (n1 : n ≤ 2147483648) (w : World) : Calls Tryz.prog 91 #[.int .i64 n] w fun e w' => e = .returned (.string ⟨(Lib.itoa n).toArray⟩) ∧ w = w' := by
  by_cases hn : n < 0
  · obtain ⟨k, rfl⟩ : ∃ k : Nat, n = -(k : Int) := ⟨n.natAbs, by omega⟩
    have P := Lib.hid fun w => r_plain k (by omega) w
    have S := Lib.hid fun w => rsize_neg (-(k : Int)) w hn (by omega)
    rw [show -(-(k : Int)) = k by omega] at S
    have e : (⟨(Lib.itoa (-(k : Int))).toArray⟩ : ByteArray) = (⟨#[45]⟩ : ByteArray) ++ (⟨(Lib.decDigits k).toArray⟩ : ByteArray) := by
      rw [show Lib.itoa (-(k : Int)) = [45] ++ Lib.decDigits k by unfold Lib.itoa; rw [if_pos hn, show (-(k : Int)).natAbs = k by omega]; rfl, ← cat2]
    rw [e]
    have hs : (⟨(Lib.decDigits k).toArray⟩ : ByteArray).size ≤ 10 := by
      rw [arr_size]
      exact dec_len 9 k (by have : (10 : Nat) ^ (9 + 1) = 10000000000 := by decide
                            omega)
    generalize (⟨(Lib.decDigits k).toArray⟩ : ByteArray) = d at *
    have h1 : (⟨#[45]⟩ : ByteArray).size = 1 := rfl
    have g : decide (-(k : Int) < 0) = true := by simp; omega
    clear e
    go_enter Tryz.func91, Tryz.ntmps91
    go_wp2_with (first | (go_at_call 88; (with_reducible refine (S.out _).mono ?_); rintro e w8 ⟨rfl, rfl⟩) | (go_at_call 113; (with_reducible refine (P.out _).mono ?_); rintro e w7 ⟨rfl, rfl⟩))
    go_ret
    exact ⟨rfl, rfl⟩
  · obtain ⟨k, rfl⟩ : ∃ k : Nat, n = (k : Int) := ⟨n.natAbs, by omega⟩
    have P := Lib.hid fun w => r_plain k (by omega) w
    have S := Lib.hid fun w => rsize_pos (k : Int) w (by omega) (by omega)
    rw [show Lib.itoa (k : Int) = Lib.decDigits k by unfold Lib.itoa; rw [if_neg hn]; rfl]
    generalize (⟨(Lib.decDigits k).toArray⟩ : ByteArray) = d at *
    have g : decide ((k : Int) < 0) = false := by simp
    clear hn
    go_enter Tryz.func91, Tryz.ntmps91
    go_wp2_with (first | (go_at_call 88; (with_reducible refine (S.out _).mono ?_); rintro e w8 ⟨rfl, rfl⟩) | (go_at_call 113; (with_reducible refine (P.out _).mono ?_); rintro e w7 ⟨rfl, rfl⟩))
    go_ret
    exact ⟨rfl, rfl⟩
theorem cat3' (a b : List UInt8) : ((⟨a.toArray⟩ : ByteArray) ++ (⟨#[47]⟩ : ByteArray)) ++ (⟨b.toArray⟩ : ByteArray) = ⟨(a ++ 47 :: b).toArray⟩ := by
  apply ByteArray.ext
  simp
set_option maxHeartbeats 4000000 in
theorem r_fmt (n d : Int) (w : World) : Calls Tryz.prog 54 #[.agg #[.int .i64 n, .int .i64 d]] w (Ret (.string ⟨(fmv n d).toArray⟩) w) := by
  have VA := Lib.hid fun w => rvalid_any n d w
  cases hv : vld n d
  · rw [show fmv n d = [] by unfold fmv; rw [if_pos hv]]
    rw [hv] at VA
    clear hv
    go_enter Tryz.func54, Tryz.ntmps54
    go_wp2_with (first | (go_at_call 76; (with_reducible refine (VA.out _).mono ?_); rintro e w1 ⟨rfl, hb1⟩; have hc1 := (bcell hb1).1; have hf1 := (bcell hb1).2; have z1_0 : w.heap.size < w1.heap.size := (by have hzz := hb1.size; (try simp at hzz); omega); have K1 : Below w.heap.size w w1 := Below.trans (b := _) (by (repeat' (first | (with_reducible exact Below.refl _ _) | (with_reducible refine Below.alloc ?_ ?_ _) | (with_reducible refine Below.setCell ?_ ?_ _) | (with_reducible refine below_drewN ?_ _) | (simp; done) | omega | (simp; omega)))) (hb1.mono (by have hzz := hb1.size; (try simp at hzz); first | omega | (simp; done) | (simp; omega)))))
    go_ret
    exact ⟨rfl, K1⟩
  rw [hv] at VA
  obtain ⟨d0, d1, n0, n1, _⟩ := vld_parts hv
  have F1 := Lib.hid fun w => r_digits n (by omega) (by omega) w
  have F2 := Lib.hid fun w => r_digits d (by omega) (by omega) w
  have HF : Hid (∀ l, (if d = 1 then Lib.itoa n else Lib.itoa n ++ 47 :: Lib.itoa d) = l → fmv n d = l) := Lib.hid fun l hl => by
    unfold fmv; rw [if_neg (by rw [hv]; decide)]; exact hl
  clear hv
  by_cases h1 : d = 1
  · rw [HF.out _ (if_pos h1)]
    have g1 : (d == 1) = true := by simpa using h1
    clear HF h1 F2
    generalize Lib.itoa n = a at *
    go_enter Tryz.func54, Tryz.ntmps54
    go_wp2_with (first | (go_at_call 76; (with_reducible refine (VA.out _).mono ?_); rintro e w1 ⟨rfl, hb1⟩; have hc1 := (bcell hb1).1; have hf1 := (bcell hb1).2; have z1_0 : w.heap.size < w1.heap.size := (by have hzz := hb1.size; (try simp at hzz); omega); have K1 : Below w.heap.size w w1 := Below.trans (b := _) (by (repeat' (first | (with_reducible exact Below.refl _ _) | (with_reducible refine Below.alloc ?_ ?_ _) | (with_reducible refine Below.setCell ?_ ?_ _) | (with_reducible refine below_drewN ?_ _) | (simp; done) | omega | (simp; omega)))) (hb1.mono (by have hzz := hb1.size; (try simp at hzz); first | omega | (simp; done) | (simp; omega)))) | (go_at_call 91; (with_reducible refine (F1.out _).mono ?_); rintro e w7 ⟨rfl, rfl⟩))
    go_ret
    exact ⟨rfl, K1⟩
  · rw [HF.out _ (if_neg h1), ← cat3']
    have g1 : (d == 1) = false := by simpa using h1
    clear HF h1
    have ha : (⟨(Lib.itoa n).toArray⟩ : ByteArray).size ≤ 11 := by rw [arr_size]; exact itoa_len n0 n1
    have hb : (⟨(Lib.itoa d).toArray⟩ : ByteArray).size ≤ 11 := by rw [arr_size]; exact itoa_len (by omega) d1
    generalize (⟨(Lib.itoa n).toArray⟩ : ByteArray) = a at *
    generalize (⟨(Lib.itoa d).toArray⟩ : ByteArray) = b at *
    replace F1 := Lib.hid fun w => (F1.out w).mono fun _ _ h => And.intro h.1 h.2.symm
    replace F2 := Lib.hid fun w => (F2.out w).mono fun _ _ h => And.intro h.1 h.2.symm
    have h1 : (⟨#[47]⟩ : ByteArray).size = 1 := rfl
    have h2 : (a ++ (⟨#[47]⟩ : ByteArray)).size = a.size + 1 := by rw [ByteArray.size_append, h1]
    have hb9 : (a ++ (⟨#[47]⟩ : ByteArray)).size ≤ 12 := by omega
    clear h2
    go_enter Tryz.func54, Tryz.ntmps54
    go_wp2_with fail
    (with_reducible refine (VA.out _).mono ?_); rintro e w1 ⟨rfl, hb1⟩; have hc1 := (bcell hb1).1; have hf1 := (bcell hb1).2; have z1_0 : w.heap.size < w1.heap.size := (by have hzz := hb1.size; (try simp at hzz); omega); have K1 : Below w.heap.size w w1 := Below.trans (b := _) (by (repeat' (first | (with_reducible exact Below.refl _ _) | (with_reducible refine Below.alloc ?_ ?_ _) | (with_reducible refine Below.setCell ?_ ?_ _) | (with_reducible refine below_drewN ?_ _) | (simp; done) | omega | (simp; omega)))) (hb1.mono (by have hzz := hb1.size; (try simp at hzz); first | omega | (simp; done) | (simp; omega)))
    go_wp2_with fail
    go_quiet ((first | (go_at_call 91; with_reducible exact Calls.quiet_of_same (F1.out _)) | (go_at_call 91; with_reducible exact Calls.quiet_of_same (F2.out _))))
    go_wp2
    go_ret
    exact ⟨rfl, (by (repeat' (first | (with_reducible exact Below.refl _ _) | (with_reducible exact K1) | (with_reducible refine Below.alloc ?_ ?_ _) | (with_reducible refine Below.setCell ?_ ?_ _) | (with_reducible refine below_drewN ?_ _) | (simp; done) | omega | (simp; omega))))⟩
end Go.Proofs.YtikcinkbkakkmaaGreatDoor.Tx
