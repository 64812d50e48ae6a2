/- The reference: what is an integer. -/
import Derived.Test.YtnmjenpeiafnkaaDoorT4
namespace Go.Proofs.YtnmjenpeiafnkaaDoor.Tx
open Go.ChangeShapes Go.WideShapes Go.ChangeAt Go.RowKit
open Fr
set_option maxRecDepth 8000
set_option linter.unusedVariables false
set_option linter.unusedSimpArgs false

set_option maxHeartbeats 4000000 in
theorem rw_a (s : ByteArray) (w : World) (W u v : Bool) (hs : s.size ≤ maxLen) (y1 : decide ((1 : Int) < s.size) = false) (hf : 0 < s.size) (hu : ((s[0].toNat : Int) != 48) = u) (hv : ((s.size : Int) == 1) = v)
    (H2 : Hid (∀ k (h : k < s.size), 0 ≤ k → isD s[k] = false → W = false)) (H3 : Hid (Hid (∀ k (h : k < s.size), 0 ≤ k → isD s[k] = true) → W = (u || v))) :
    Calls Tryd.prog 57 #[.string s] w fun e w' => e = .returned (.bool W) ∧ w = w' := by
  unfold maxLen at hs
  have hf2 : (0 : Int) < s.size := by omega
  have HU := Lib.hid hu
  have HV := Lib.hid hv
  clear hu hv
  go_enter Tryd.func57, Tryd.ntmps57
  go_wp2
  go_loop [4] (fun i => ∃ k : Nat, i = .int .i64 k ∧ 0 ≤ k ∧ k ≤ s.size ∧ Hid (∀ j (h : j < s.size), 0 ≤ j → j < k → isD s[j] = true)) (fun i => s.size - (intOf i).toNat)
  case atStart => exact ⟨0, rfl, Nat.le_refl _, by omega, Lib.hid fun j h h1 h' => absurd h' (by omega)⟩
  case round =>
    obtain ⟨k, rfl, hk0, hk, HP⟩ := hrel
    skip
    by_cases hlt : k < s.size
    · have kk : (0 : Int) ≤ k := by omega
      have k2 : (k : Int) < s.size := by omega
      by_cases g1 : (s[k].toNat : Int) < 48
      · obtain rfl : W = false := H2.out k hlt hk0 (by unfold isD; exact decide_eq_false (by omega))
        clear H2 H3 HP
        go_wp2
        go_ret
        exact ⟨rfl, rfl⟩
      · by_cases g2 : 57 < (s[k].toNat : Int)
        · obtain rfl : W = false := H2.out k hlt hk0 (by unfold isD; exact decide_eq_false (by omega))
          clear H2 H3 HP
          go_wp2
          go_ret
          exact ⟨rfl, rfl⟩
        · have HN : Hid (∀ j (h : j < s.size), 0 ≤ j → j < k + 1 → isD s[j] = true) := Lib.hid fun j h h1 hj => by
            rcases (by omega : j < k ∨ j = k) with h' | rfl
            · exact HP.out j h h1 h'
            · unfold isD; exact decide_eq_true (by omega)
          have g3 : (48 : Int) ≤ s[k].toNat := by omega
          have g4 : (s[k].toNat : Int) ≤ 57 := by omega
          clear HP g1 g2
          go_wp2
          go_round
          case rel => exact ⟨k + 1, by go_num, by omega, by omega, HN⟩
          case measure => simp [intOf]; omega
    · have hW := H3.out (Lib.hid fun j h h1 => HP.out j h h1 (by omega))
      obtain rfl : k = s.size := by omega
      clear H2 H3 HP
      have hu := HU.out
      have hv := HV.out
      clear HU HV
      subst hW
      cases u <;> cases v
      all_goals
        go_wp2
        go_ret
        exact ⟨rfl, rfl⟩

set_option maxHeartbeats 4000000 in
theorem rw_b (s : ByteArray) (w : World) (W u v : Bool) (hs : s.size ≤ maxLen) (y1 : decide ((1 : Int) < s.size) = true) (p1 : 0 < s.size) (z1 : ((s[0].toNat : Int) == 45) = false) (hf : 0 < s.size) (hu : ((s[0].toNat : Int) != 48) = u) (hv : ((s.size : Int) == 1) = v)
    (H2 : Hid (∀ k (h : k < s.size), 0 ≤ k → isD s[k] = false → W = false)) (H3 : Hid (Hid (∀ k (h : k < s.size), 0 ≤ k → isD s[k] = true) → W = (u || v))) :
    Calls Tryd.prog 57 #[.string s] w fun e w' => e = .returned (.bool W) ∧ w = w' := by
  unfold maxLen at hs
  have hf2 : (0 : Int) < s.size := by omega
  have HU := Lib.hid hu
  have HV := Lib.hid hv
  clear hu hv
  go_enter Tryd.func57, Tryd.ntmps57
  go_wp2
  go_loop [4] (fun i => ∃ k : Nat, i = .int .i64 k ∧ 0 ≤ k ∧ k ≤ s.size ∧ Hid (∀ j (h : j < s.size), 0 ≤ j → j < k → isD s[j] = true)) (fun i => s.size - (intOf i).toNat)
  case atStart => exact ⟨0, rfl, Nat.le_refl _, by omega, Lib.hid fun j h h1 h' => absurd h' (by omega)⟩
  case round =>
    obtain ⟨k, rfl, hk0, hk, HP⟩ := hrel
    try clear z1
    by_cases hlt : k < s.size
    · have kk : (0 : Int) ≤ k := by omega
      have k2 : (k : Int) < s.size := by omega
      by_cases g1 : (s[k].toNat : Int) < 48
      · obtain rfl : W = false := H2.out k hlt hk0 (by unfold isD; exact decide_eq_false (by omega))
        clear H2 H3 HP
        go_wp2
        go_ret
        exact ⟨rfl, rfl⟩
      · by_cases g2 : 57 < (s[k].toNat : Int)
        · obtain rfl : W = false := H2.out k hlt hk0 (by unfold isD; exact decide_eq_false (by omega))
          clear H2 H3 HP
          go_wp2
          go_ret
          exact ⟨rfl, rfl⟩
        · have HN : Hid (∀ j (h : j < s.size), 0 ≤ j → j < k + 1 → isD s[j] = true) := Lib.hid fun j h h1 hj => by
            rcases (by omega : j < k ∨ j = k) with h' | rfl
            · exact HP.out j h h1 h'
            · unfold isD; exact decide_eq_true (by omega)
          have g3 : (48 : Int) ≤ s[k].toNat := by omega
          have g4 : (s[k].toNat : Int) ≤ 57 := by omega
          clear HP g1 g2
          go_wp2
          go_round
          case rel => exact ⟨k + 1, by go_num, by omega, by omega, HN⟩
          case measure => simp [intOf]; omega
    · have hW := H3.out (Lib.hid fun j h h1 => HP.out j h h1 (by omega))
      obtain rfl : k = s.size := by omega
      clear H2 H3 HP
      have hu := HU.out
      have hv := HV.out
      clear HU HV
      subst hW
      cases u <;> cases v
      all_goals
        go_wp2
        go_ret
        exact ⟨rfl, rfl⟩

set_option maxHeartbeats 4000000 in
theorem rw_c (s : ByteArray) (w : World) (W u v : Bool) (hs : s.size ≤ maxLen) (y1 : decide ((1 : Int) < s.size) = true) (p1 : 0 < s.size) (z1 : ((s[0].toNat : Int) == 45) = true) (hf : 1 < s.size) (hu : ((s[1].toNat : Int) != 48) = u) (hv : ((s.size : Int) == 1) = v)
    (H2 : Hid (∀ k (h : k < s.size), 1 ≤ k → isD s[k] = false → W = false)) (H3 : Hid (Hid (∀ k (h : k < s.size), 1 ≤ k → isD s[k] = true) → W = (u || v))) :
    Calls Tryd.prog 57 #[.string s] w fun e w' => e = .returned (.bool W) ∧ w = w' := by
  unfold maxLen at hs
  have hf2 : (1 : Int) < s.size := by omega
  have HU := Lib.hid hu
  have HV := Lib.hid hv
  clear hu hv
  go_enter Tryd.func57, Tryd.ntmps57
  go_wp2
  go_loop [4] (fun i => ∃ k : Nat, i = .int .i64 k ∧ 1 ≤ k ∧ k ≤ s.size ∧ Hid (∀ j (h : j < s.size), 1 ≤ j → j < k → isD s[j] = true)) (fun i => s.size - (intOf i).toNat)
  case atStart => exact ⟨1, rfl, Nat.le_refl _, by omega, Lib.hid fun j h h1 h' => absurd h' (by omega)⟩
  case round =>
    obtain ⟨k, rfl, hk0, hk, HP⟩ := hrel
    clear y1 z1
    by_cases hlt : k < s.size
    · have kk : (0 : Int) ≤ k := by omega
      have k2 : (k : Int) < s.size := by omega
      by_cases g1 : (s[k].toNat : Int) < 48
      · obtain rfl : W = false := H2.out k hlt hk0 (by unfold isD; exact decide_eq_false (by omega))
        clear H2 H3 HP
        go_wp2
        go_ret
        exact ⟨rfl, rfl⟩
      · by_cases g2 : 57 < (s[k].toNat : Int)
        · obtain rfl : W = false := H2.out k hlt hk0 (by unfold isD; exact decide_eq_false (by omega))
          clear H2 H3 HP
          go_wp2
          go_ret
          exact ⟨rfl, rfl⟩
        · have HN : Hid (∀ j (h : j < s.size), 1 ≤ j → j < k + 1 → isD s[j] = true) := Lib.hid fun j h h1 hj => by
            rcases (by omega : j < k ∨ j = k) with h' | rfl
            · exact HP.out j h h1 h'
            · unfold isD; exact decide_eq_true (by omega)
          have g3 : (48 : Int) ≤ s[k].toNat := by omega
          have g4 : (s[k].toNat : Int) ≤ 57 := by omega
          clear HP g1 g2
          go_wp2
          go_round
          case rel => exact ⟨k + 1, by go_num, by omega, by omega, HN⟩
          case measure => simp [intOf]; omega
    · have hW := H3.out (Lib.hid fun j h h1 => HP.out j h h1 (by omega))
      obtain rfl : k = s.size := by omega
      clear H2 H3 HP
      have hu := HU.out
      have hv := HV.out
      clear HU HV
      subst hW
      cases u <;> cases v
      all_goals
        go_wp2
        go_ret
        exact ⟨rfl, rfl⟩

theorem r_whole (s : ByteArray) (w : World) (hs : s.size ≤ maxLen) : Calls Tryd.prog 57 #[.string s] w fun e w' => e = .returned (.bool (whole s.data.toList)) ∧ w = w' := by
  have hsz := Lib.size_eq s
  obtain ⟨l, hl⟩ : ∃ l, s.data.toList = l := ⟨_, rfl⟩
  rw [hl] at hsz ⊢
  by_cases h0 : s.size = 0
  · have hln : l = [] := List.eq_nil_of_length_eq_zero (by omega)
    rw [show whole l = false by rw [hln]; rfl]
    obtain rfl : s = ⟨#[]⟩ := by
      apply ByteArray.ext
      apply Array.ext'
      rw [hl, hln]
    clear hl hsz h0 hln hs
    go_enter Tryd.func57, Tryd.ntmps57
    go_wp2
    refine wp_loop_rounds 1 ?_
    rw [rounds_succ]
    go_wp2
    go_ret
    exact ⟨rfl, rfl⟩
  have hp : 0 < s.size := by omega
  have hge : ∀ k (h : k < s.size), s[k] = l[k]'(by omega) := fun k h => get_list hl k h (by omega)
  have hhn := head_neg hl hp
  have hv1 : ((s.size : Int) == 1) = decide (s.size = 1) := by rw [Bool.eq_iff_iff, beq_iff_eq, decide_eq_true_iff]; omega
  -- the digits from place f on, the first of them
  have key : ∀ (f : Nat) (hf : f < s.size), bd l = l.drop f → ∀ W, W = whole l →
      (∀ k (h : k < s.size), f ≤ k → isD s[k] = false → W = false) ∧ ((∀ k (h : k < s.size), f ≤ k → isD s[k] = true) → W = (((s[f].toNat : Int) != 48) || decide (s.size = 1))) := by
    intro f hf hb W hW
    have hne : bd l ≠ [] := by rw [hb]; intro e; have := congrArg List.length e; rw [List.length_drop] at this; simp at this; omega
    have hhd : (bd l).headD 0 = s[f] := by
      rw [hb, hge f hf, List.headD_eq_head?_getD, List.head?_drop, List.getElem?_eq_getElem (by omega)]; rfl
    have hw : whole l = ((bd l).all isD && !(decide (s[f] = 48) && decide (1 < l.length))) := by
      unfold whole
      rw [decide_eq_true hne, hhd, Bool.true_and]
    refine ⟨fun k h hk hd => ?_, fun hall => ?_⟩
    · rw [hW, hw]
      have : (bd l).all isD = false := by
        cases e : (bd l).all isD
        · rfl
        · rw [List.all_eq_true] at e
          have := e s[k] (by rw [hb, hge k h]; exact List.mem_drop_iff_getElem.2 ⟨k - f, by omega, by congr 1; omega⟩)
          rw [hd] at this; cases this
      rw [this]; rfl
    · rw [hW, hw]
      have : (bd l).all isD = true := by
        rw [List.all_eq_true]
        intro x hx
        rw [hb] at hx
        obtain ⟨i, hi, rfl⟩ := List.mem_drop_iff_getElem.1 hx
        rw [← hge (f + i) (by omega)]
        exact hall _ _ (by omega)
      rw [this, Bool.true_and, Bool.not_and]
      congr 1
      · rw [bne, Bool.eq_iff_iff]
        simp only [Bool.not_eq_true', decide_eq_false_iff_not, beq_eq_false_iff_ne, ne_eq]
        constructor
        · intro h h'; exact h (UInt8.toNat_inj.1 (by have h48 : (48 : UInt8).toNat = 48 := rfl; omega))
        · intro h h'; exact h (by rw [h']; rfl)
      · rw [Bool.eq_iff_iff]; simp only [Bool.not_eq_true', decide_eq_false_iff_not, decide_eq_true_eq]; omega
  by_cases h1 : s.size ≤ 1
  · have hb : bd l = l.drop 0 ∨ neg l = true := by
      cases hn : neg l
      · left; unfold bd; rw [if_neg (by rw [hn]; decide)]; rfl
      · exact Or.inr rfl
    rcases hb with hb | hn
    · obtain ⟨k1, k2⟩ := key 0 hp hb _ rfl
      exact rw_a s w _ _ _ hs (by simp; omega) hp rfl hv1 (Lib.hid fun k h _ hd => k1 k h (Nat.zero_le _) hd) (Lib.hid fun h => k2 fun k h' _ => h.out k h' (Nat.zero_le _))
    · have hw : whole l = false := by
        cases e : whole l
        · rfl
        · obtain ⟨a1, _⟩ := whole_parts e
          unfold bd at a1
          rw [if_pos hn] at a1
          cases l with
          | nil => cases hn
          | cons c r =>
            have hr : s.size = r.length + 1 := hsz
            exact absurd (List.eq_nil_of_length_eq_zero (show r.length = 0 by omega)) a1
      have hs0 : isD s[0] = false := by
        have h45 : (s[0].toNat : Int) = 45 := by rw [hn] at hhn; simpa using hhn
        unfold isD; exact decide_eq_false (by omega)
      rw [hw]
      refine rw_a s w false _ _ hs (by simp; omega) hp rfl hv1 (Lib.hid fun _ _ _ _ => rfl) (Lib.hid fun h => ?_)
      have := h.out 0 hp (Nat.zero_le _)
      rw [hs0] at this; cases this
  · have hy : decide ((1 : Int) < s.size) = true := by simp; omega
    cases hn : neg l
    · have hb : bd l = l.drop 0 := by unfold bd; rw [if_neg (by rw [hn]; decide)]; rfl
      obtain ⟨k1, k2⟩ := key 0 hp hb _ rfl
      exact rw_b s w _ _ _ hs hy hp (by rw [hhn, hn]) hp rfl hv1 (Lib.hid fun k h _ hd => k1 k h (Nat.zero_le _) hd) (Lib.hid fun h => k2 fun k h' _ => h.out k h' (Nat.zero_le _))
    · have hb : bd l = l.drop 1 := by unfold bd; rw [if_pos hn, List.drop_one]
      obtain ⟨k1, k2⟩ := key 1 (by omega) hb _ rfl
      exact rw_c s w _ _ _ hs hy hp (by rw [hhn, hn]) (by omega) rfl hv1 (Lib.hid fun k h h1 hd => k1 k h h1 hd) (Lib.hid fun h => k2 fun k h' h1 => h.out k h' h1)
end Go.Proofs.YtnmjenpeiafnkaaDoor.Tx
