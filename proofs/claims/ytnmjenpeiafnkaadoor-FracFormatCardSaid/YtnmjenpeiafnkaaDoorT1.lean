/- Package frac: what is an integer. -/
import Derived.Test.YtnmjenpeiafnkaaDoorT0
import Derived.Test.YtnmjenpeiafnkaaDoorShelfT
import Derived.Test.YtnmjenpeiafnkaaDoorReg
import Derived.Test.YtnmjenpeiafnkaaDoorValid
import Derived.Lib.SmallJoins
import Derived.Lib.Hide
namespace Go.Proofs.YtnmjenpeiafnkaaDoor.Tx
open Go.ChangeShapes Go.WideShapes Go.ChangeAt Go.RowKit
open Fr
set_option maxRecDepth 8000
set_option linter.unusedVariables false
set_option linter.unusedSimpArgs false

theorem rb {a b : Bool} (h : a = b) : Ending.returned (.bool a) = .returned (.bool b) := by rw [h]
/-- What the variables of Go's library hold. -/
def LA (w : World) : Prop := Lib.TabIs Tryd.prog w "internal/strconv.uint64pow10" .u64 Lib.pow10Tab ∧ ∃ ev, w.cell? ⟨3, 0, none⟩ = some ev ∧ (ev = .nilIface ∨ ∃ te pe, ev = .iface te pe)
theorem LA.below {w w' : World} (h : LA w) (hb : Below w.heap.size w w') : LA w' := by
  obtain ⟨h1, ev, h2, h3⟩ := h
  exact ⟨Joins.tab_stays (g := 1) (by kernel_rfl) h1 hb (Nat.le_refl _), ev, Rg.keep hb (World.block_lt_of_cell? _ _ h2) h2, h3⟩
theorem c_trim (s : ByteArray) (w : World) : Calls Tryd.prog 74 #[.string s, .string ⟨#[45]⟩] w fun e w' => e = .returned (.string ⟨(bd s.data.toList).toArray⟩) ∧ w = w' :=
  (Tryd.strings_TrimPrefix s ⟨#[45]⟩ w).mono fun e w' ⟨he, hw⟩ => ⟨by rw [he, show (⟨#[45]⟩ : ByteArray).data.toList = [45] from rfl, trim_bd], hw.symm⟩
theorem get_list {t : ByteArray} {B : List UInt8} (h : t.data.toList = B) (k : Nat) (hk : k < t.size) (hB : k < B.length) : t[k] = B[k] := by
  subst h; rfl
theorem size_list {t : ByteArray} {B : List UInt8} (h : t.data.toList = B) : t.size = B.length := by subst h; exact Lib.size_eq t
set_option maxHeartbeats 4000000 in
theorem isint_loop (s t : ByteArray) (w : World) (W z y : Bool) (ht : t.size ≤ maxLen) (h0 : 0 < t.size) (h7 : t.toList.isEmpty = false) (hz : ((t[0].toNat : Int) == 48) = z) (hy : decide ((1 : Int) < s.size) = y) (hs : s.size ≤ maxLen)
    (TR : Hid (∀ w, Calls Tryd.prog 74 #[.string s, .string ⟨#[45]⟩] w fun e w' => e = .returned (.string t) ∧ w = w'))
    (H1 : Hid ((z && y) = true → W = false)) (H2 : Hid (∀ k (h : k < t.size), isD t[k] = false → W = false)) (H3 : Hid ((z && y) = false → (∀ k (h : k < t.size), isD t[k] = true) → W = true)) :
    Calls Tryd.prog 55 #[.string s] w fun e w' => e = .returned (.bool W) ∧ w = w' := by
  unfold maxLen at ht hs
  have TL : Hid ((z && y) = false → Hid (∀ k (h : k < t.size), isD t[k] = true) → W = true) := Lib.hid fun h h' => H3.out h h'.out
  have h8 : (t.toList == []) = false := by
    cases h : t.toList with
    | nil => rw [h] at h7; cases h7
    | cons => rfl
  cases z
  all_goals cases y
  case true.true =>
    rw [H1.out rfl]
    clear H1 H2 H3 TL
    go_enter Tryd.func55, Tryd.ntmps55
    go_wp2_with (first | (go_at_call 74; (with_reducible refine (TR.out _).mono ?_); rintro e w9 ⟨rfl, rfl⟩))
    go_ret
    exact ⟨rfl, rfl⟩
  all_goals
    replace TL := Lib.hid (TL.out rfl)
    clear H1 H3
    go_enter Tryd.func55, Tryd.ntmps55
    go_wp2_with (first | (go_at_call 74; (with_reducible refine (TR.out _).mono ?_); rintro e w9 ⟨rfl, rfl⟩))
    go_loop [21] (fun i => ∃ k : Nat, i = .int .i64 k ∧ k ≤ t.size ∧ Hid (∀ j (h : j < t.size), j < k → isD t[j] = true)) (fun i => t.size - (intOf i).toNat)
    case atStart => exact ⟨0, rfl, Nat.zero_le _, Lib.hid fun j h h' => absurd h' (Nat.not_lt_zero _)⟩
    case round =>
      obtain ⟨k, rfl, hk, HP⟩ := hrel
      clear hz hy h7 h8
      by_cases hlt : k < t.size
      · have kk : (0 : Int) ≤ k := by omega
        have k2 : (k : Int) < t.size := by omega
        by_cases g1 : (t[k].toNat : Int) < 48
        · obtain rfl : W = false := H2.out k hlt (by unfold isD; exact decide_eq_false (by omega))
          clear H2 TL HP
          go_wp2
          go_ret
          exact ⟨rfl, rfl⟩
        · by_cases g2 : 57 < (t[k].toNat : Int)
          · obtain rfl : W = false := H2.out k hlt (by unfold isD; exact decide_eq_false (by omega))
            clear H2 TL HP
            go_wp2
            go_ret
            exact ⟨rfl, rfl⟩
          · have HN : Hid (∀ j (h : j < t.size), j < k + 1 → isD t[j] = true) := Lib.hid fun j h hj => by
              rcases (by omega : j < k ∨ j = k) with h' | rfl
              · exact HP.out j h h'
              · unfold isD; exact decide_eq_true (by omega)
            have g3 : (48 : Int) ≤ t[k].toNat := by omega
            have g4 : (t[k].toNat : Int) ≤ 57 := by omega
            clear HP g1 g2
            go_wp2
            go_round
            case rel => exact ⟨k + 1, by go_num, by omega, HN⟩
            case measure => simp [intOf]; omega
      · have hW := TL.out (Lib.hid fun j h => HP.out j h (by omega))
        subst hW
        clear H2 TL HP
        go_wp2
        go_ret
        exact ⟨rfl, rfl⟩
theorem c_isint (s : ByteArray) (w : World) (hs : s.size ≤ maxLen) : Calls Tryd.prog 55 #[.string s] w fun e w' => e = .returned (.bool (whole s.data.toList)) ∧ w = w' := by
  have TR := Lib.hid fun w => c_trim s w
  have hsz := Lib.size_eq s
  have hbl : (bd s.data.toList).length ≤ s.data.toList.length := by unfold bd; split <;> simp
  obtain ⟨B, hB⟩ : ∃ B, bd s.data.toList = B := ⟨_, rfl⟩
  rw [hB] at TR hbl
  obtain ⟨t, ht⟩ : ∃ t : ByteArray, t = ⟨B.toArray⟩ := ⟨_, rfl⟩
  have htl : t.data.toList = B := by rw [ht]
  rw [← ht] at TR
  have hts := size_list htl
  by_cases h0 : t.size = 0
  · have hBn : B = [] := List.eq_nil_of_length_eq_zero (by omega)
    have hw : whole s.data.toList = false := by unfold whole; rw [hB, hBn]; rfl
    rw [hw]
    obtain rfl : t = ⟨#[]⟩ := by rw [ht, hBn]
    clear ht hB hsz hbl h0 hw hBn hts htl
    go_enter Tryd.func55, Tryd.ntmps55
    go_wp2_with (first | (go_at_call 74; (with_reducible refine (TR.out _).mono ?_); rintro e w9 ⟨rfl, rfl⟩))
    go_ret
    exact ⟨rfl, rfl⟩
  · have hp : 0 < t.size := by omega
    have hne : B ≠ [] := fun e => by rw [e] at hts; exact h0 hts
    have e0 : t[0] = B.headD 0 := by
      rw [get_list htl 0 hp (by omega)]
      cases B with
      | nil => exact absurd rfl hne
      | cons c r => rfl
    have hz : ∀ z, ((t[0].toNat : Int) == 48) = z → decide (B.headD 0 = 48) = z := fun z h => by
      rw [← h, e0, Bool.eq_iff_iff, decide_eq_true_iff, beq_iff_eq]
      constructor
      · intro h; rw [h]; rfl
      · intro h; exact UInt8.toNat_inj.1 (by have h48 : (48 : UInt8).toNat = 48 := rfl; omega)
    have hall : (∀ k (h : k < t.size), isD t[k] = true) ↔ B.all isD = true := by
      rw [List.all_eq_true]
      constructor
      · intro h x hx
        obtain ⟨k, hk, rfl⟩ := List.getElem_of_mem hx
        rw [← get_list htl k (by omega) hk]
        exact h k _
      · intro h k hk
        rw [get_list htl k hk (by omega)]
        exact h _ (List.getElem_mem _)
    have hwd : whole s.data.toList = (B.all isD && !(decide (B.headD 0 = 48) && decide ((1 : Int) < s.size))) := by
      unfold whole
      rw [hB, decide_eq_true hne, Bool.true_and, hsz]
      congr 3
      rw [decide_eq_decide]
      omega
    refine isint_loop s t w _ _ _ (by omega) hp ?_ rfl rfl hs TR (Lib.hid fun h => ?_) (Lib.hid fun k h h' => ?_) (Lib.hid fun h h' => ?_)
    · cases h : t.toList with
      | nil => rw [Lib.toList_data, htl] at h; exact absurd h hne
      | cons => rfl
    · rw [hwd, hz _ rfl, h]; simp
    · rw [hwd]
      cases e : B.all isD
      · rfl
      · rw [hall.2 e k h] at h'; cases h'
    · rw [hwd, hall.1 h', hz _ rfl, h]; rfl
end Go.Proofs.YtnmjenpeiafnkaaDoor.Tx
