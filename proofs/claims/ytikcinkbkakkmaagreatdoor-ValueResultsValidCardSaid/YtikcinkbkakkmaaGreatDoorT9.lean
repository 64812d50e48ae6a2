/- The reference: Parse, whatever the text. -/
import Derived.Test.YtikcinkbkakkmaaGreatDoorT8

namespace Go.Proofs.YtikcinkbkakkmaaGreatDoor.Tx
open Go.ChangeShapes Go.WideShapes Go.ChangeAt Go.RowKit
open Fr Fx
set_option maxRecDepth 8000
set_option linter.unusedVariables false
set_option linter.unusedSimpArgs false

theorem r_size (n : Int) (w : World) (h0 : -9223372036854775808 ≤ n) (h1 : n ≤ 9223372036854775807) : Calls Tryz.prog 88 #[.int .i64 n] w fun e w' => e = .returned (.int .u64 (n.natAbs : Int)) ∧ w = w' := by
  by_cases h : n < 0
  · have := rsize_neg n w h h0
    rw [show -n = (n.natAbs : Int) by omega] at this
    exact this
  · have := rsize_pos n w (by omega) h1
    rw [show Value.int .u64 n = .int .u64 (n.natAbs : Int) by congr 1; omega] at this
    exact this
theorem sv_bound {l : List UInt8} (h : fit l = true) : -2147483647 ≤ sv l ∧ sv l ≤ 2147483647 := by
  unfold fit at h
  rw [decide_eq_true_iff] at h
  unfold sv
  split <;> omega
theorem vld_gcd {n d : Int} (n0 : -2147483647 ≤ n) (n1 : n ≤ 2147483647) (d0 : 1 ≤ d) (d1 : d ≤ 2147483647) : vld n d = decide (Int.gcd n d = 1) := by
  rw [vld_in d0 d1 n0 n1, Bool.eq_iff_iff, beq_iff_eq, decide_eq_true_iff]
  omega
theorem sv_pos {l : List UInt8} (h : whole l = true) (hn : neg l = false) (h0 : l ≠ [48]) : 1 ≤ sv l := by
  obtain ⟨h1, h2, h3⟩ := whole_parts h
  have hb : bd l = l := by unfold bd; rw [if_neg (by rw [hn]; decide)]
  rw [hb] at h1 h2 h3
  have h48 : l.headD 0 ≠ 48 := fun e => by
    have hl := h3 e
    cases l with
    | nil => exact h1 rfl
    | cons c r =>
      have hc : c = 48 := e
      have hl2 : r.length + 1 ≤ 1 := hl
      have hr : r = [] := List.eq_nil_of_length_eq_zero (by omega)
      rw [hc, hr] at h0
      exact h0 rfl
  have := nv_pos h1 h2 h48
  unfold sv
  rw [if_neg (by rw [hn]; decide)]
  unfold av
  rw [hb]
  omega
theorem r_gcd (n d : Int) (n0 : -2147483647 ≤ n) (n1 : n ≤ 2147483647) (d0 : -2147483647 ≤ d) (d1 : d ≤ 2147483647) (w : World) : Calls Tryz.prog 87 #[.int .u64 (n.natAbs : Int), .int .u64 (d.natAbs : Int)] w (Val1 .u64 (Int.gcd n d : Int) w) := by
  have h := rfgcd (n.natAbs : Int) (d.natAbs : Int) w (by omega) (by omega) (by omega) (by omega)
  rw [show Int.gcd (n.natAbs : Int) (d.natAbs : Int) = Int.gcd n d by unfold Int.gcd; simp] at h
  exact h
theorem ne_one (n d : Int) : (((Int.gcd n d : Nat) : Int) != 1) = !(decide (Int.gcd n d = 1)) := by
  rw [bne, Bool.eq_iff_iff]
  simp only [Bool.not_eq_true', beq_eq_false_iff_ne, decide_eq_false_iff_not, ne_eq]
  omega
set_option maxHeartbeats 4000000 in
theorem r_parse (s : ByteArray) (w : World) (hmax : s.size ≤ maxLen) : Calls Tryz.prog 50 #[.string s] w (Ret (R3 (psv s.data.toList)) w) := by
  have hsz := Lib.size_eq s
  obtain ⟨l, hl⟩ : ∃ l, s.data.toList = l := ⟨_, rfl⟩
  have hge : ∀ k (h : k < s.size), s[k] = l[k]'(by rw [← hl, ← hsz]; exact h) := fun k h => get_list hl k h _
  rw [hl] at hsz ⊢
  have hbyte : ∀ k (h : k < s.size), (s[k] = 47 ↔ ((s[k].toNat : Int) == 47) = true) := fun k h => by
    rw [beq_iff_eq]
    constructor
    · intro e; rw [e]; rfl
    · intro e; exact UInt8.toNat_inj.1 (by have h47 : (47 : UInt8).toNat = 47 := rfl; omega)
  rcases split47 l with ⟨hn, hix⟩ | ⟨a, b, hab, hn, hix⟩
  · obtain ⟨e1, e2, e3⟩ := cut_none hn
    obtain ⟨o1, o2, o3, o4⟩ := one_whole
    refine rparse0 s w _ (whole l) (fit l) true (decide (Int.gcd (sv l) 1 = 1)) (sv l) 1 ((sv l).natAbs : Int) 1 (Int.gcd (sv l) 1 : Int) hmax (Lib.hid fun w => by rw [← hl]; exact r_whole s w hmax)
      (Lib.hid fun h w => by have := r_value s w hmax (by rw [hl]; exact h); rw [hl] at this; exact this) (Lib.hid fun w => by have := r_value ⟨#[49]⟩ w (by decide) o1; exact this)
      (Lib.hid fun h w => r_size _ w (by have := sv_bound h; omega) (by have := sv_bound h; omega)) (Lib.hid fun h w => r_size 1 w (by decide) (by decide))
      (Lib.hid fun h _ w => by obtain ⟨s0, s1⟩ := sv_bound h; exact r_gcd (sv l) 1 s0 s1 (by decide) (by decide) w) (Lib.hid (ne_one _ _)) (Lib.hid ?_) (Lib.hid fun k hk => ?_)
    · unfold psv
      rw [e1, e2, e3, o1, o2, o3, o4]
      have hvl : fit l = true → vld (sv l) 1 = decide (Int.gcd (sv l) 1 = 1) := fun h => by
        obtain ⟨s0, s1⟩ := sv_bound h
        exact vld_gcd s0 s1 (by decide) (by decide)
      cases hf : fit l
      · generalize whole l = b1
        cases b1 <;> simp [R3]
      · rw [hvl hf]
        generalize whole l = b1
        generalize decide (Int.gcd (sv l) 1 = 1) = b3
        cases b1 <;> cases b3 <;> simp [R3]
    · cases e : ((s[k].toNat : Int) == 47)
      · rfl
      · exact absurd ((hbyte k hk).2 e) (fun e2 => hn (by rw [← e2, hge k hk]; exact List.getElem_mem _))
  · have hlen : l.length = a.length + 1 + b.length := by rw [hab, List.length_append, List.length_cons]; omega
    have e0 := cut_at a b hn
    rw [← hab] at e0
    obtain ⟨e1, e2, e3⟩ := e0
    have hi : a.length < s.size := by omega
    obtain ⟨tp, htp⟩ : ∃ t, s.extract 0 a.length = t := ⟨_, rfl⟩
    obtain ⟨bt, hbt⟩ : ∃ t, s.extract (a.length + 1) s.size = t := ⟨_, rfl⟩
    have ta : tp.data.toList = a := by rw [← htp, sl_take s _ (by omega), hl, hab]; simp
    have tb : bt.data.toList = b := by rw [← hbt, sl_drop s, hl, hab, ← List.drop_drop, List.drop_left]; rfl
    have sa : tp.size ≤ maxLen := by rw [size_list ta]; omega
    have sb : bt.size ≤ maxLen := by rw [size_list tb]; omega
    refine rparse1 s tp bt a.length w _ (whole a) (whole b) (neg b) (decide (b = [48])) (decide (b = [49])) (fit a) (fit b) (decide (Int.gcd (sv a) (sv b) = 1)) (sv a) (sv b) ((sv a).natAbs : Int) ((sv b).natAbs : Int) (Int.gcd (sv a) (sv b) : Int) hmax
      (Lib.hid fun w => by rw [← ta]; exact r_whole tp w sa)
      (Lib.hid fun h w => by have := r_value tp w sa (by rw [ta]; exact h); rw [ta] at this; exact this) (Lib.hid fun h w => by have := r_value bt w sb (by rw [tb]; exact h); rw [tb] at this; exact this)
      (Lib.hid fun h w => r_size _ w (by have := sv_bound h; omega) (by have := sv_bound h; omega)) (Lib.hid fun h w => r_size _ w (by have := sv_bound h; omega) (by have := sv_bound h; omega))
      (Lib.hid fun h h' w => by obtain ⟨s0, s1⟩ := sv_bound h; obtain ⟨u0, u1⟩ := sv_bound h'; exact r_gcd _ _ s0 s1 u0 u1 w) (Lib.hid (ne_one _ _)) (Lib.hid ?_)
      (Lib.hid fun w => by rw [← tb]; exact r_whole bt w sb) hi (Lib.hid ?_) (Lib.hid fun k hk => ?_) htp hbt (Lib.hid fun h => whole_size (by rw [tb]; exact h)) (Lib.hid fun h => head_neg tb h) (Lib.hid (list_beq bt [48] b tb)) (Lib.hid (list_beq bt [49] b tb))
    · unfold psv
      rw [e1, e2, e3]
      have hc : (whole a = false ∨ whole b = false ∨ neg b = true ∨ decide (b = [48]) = true ∨ decide (b = [49]) = true) ↔ (whole a = false ∨ whole b = false ∨ neg b = true ∨ b = [48] ∨ (true = true ∧ b = [49])) := by
        rw [decide_eq_true_iff, decide_eq_true_iff]; simp
      by_cases c1 : whole a = false ∨ whole b = false ∨ neg b = true ∨ decide (b = [48]) = true ∨ decide (b = [49]) = true
      · rw [if_pos c1, if_pos (hc.1 c1)]
      · rw [if_neg c1, if_neg (fun h => c1 (hc.2 h))]
        by_cases c2 : fit a = false ∨ fit b = false
        · rw [if_pos c2, if_pos c2]
        · rw [if_neg c2, if_neg c2]
          have fa : fit a = true := by
            cases e : fit a
            · exact absurd (Or.inl e) c2
            · rfl
          have fb : fit b = true := by
            cases e : fit b
            · exact absurd (Or.inr e) c2
            · rfl
          have wb : whole b = true := by
            cases e : whole b
            · exact absurd (Or.inr (Or.inl e)) c1
            · rfl
          have nb : neg b = false := by
            cases e : neg b
            · rfl
            · exact absurd (Or.inr (Or.inr (Or.inl e))) c1
          have b48 : b ≠ [48] := fun e => c1 (Or.inr (Or.inr (Or.inr (Or.inl (decide_eq_true e)))))
          obtain ⟨s0, s1⟩ := sv_bound fa
          obtain ⟨u0, u1⟩ := sv_bound fb
          rw [vld_gcd s0 s1 (sv_pos wb nb b48) u1]
          generalize decide (Int.gcd (sv a) (sv b) = 1) = b3
          cases b3 <;> simp [R3]
    · rw [← hbyte _ hi, hge _ hi]
      simp [hab]
    · cases e : ((s[k].toNat : Int) == 47)
      · rfl
      · have e2 := (hbyte k (by omega)).2 e
        rw [hge k (by omega)] at e2
        simp only [hab, List.getElem_append_left hk] at e2
        exact absurd (e2 ▸ List.getElem_mem hk) hn
end Go.Proofs.YtikcinkbkakkmaaGreatDoor.Tx
