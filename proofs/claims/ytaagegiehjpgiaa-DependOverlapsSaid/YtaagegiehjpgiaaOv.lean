/- Overlap of package depend and of the reference: whether two lists of regions share an element. -/
import Derived.Test.YtaagegiehjpgiaaRows
import Derived.WalkKit
import Derived.ProofKit
import Derived.OpenShut
import Derived.WalkLawsBesides
import Derived.WalkSpells
import Derived.Outline
import Derived.Handy
import Derived.Deep.QuietTactic
import Derived.BigQuiet
import Derived.Lib.Hide
import Derived.Deep.LoopGhost
namespace Go.Proofs.Ytaagegiehjpgiaa.Ov
open Go.ChangeShapes Go.WideShapes Go.ChangeAt Go.RowKit
set_option linter.unusedVariables false

/-- One region meets another. -/
def hit (s s' : ByteArray) (f t f' t' : Int) : Bool := (s.toList == s'.toList) && decide (max f f' < min t t')
/-- No pair among the first k of the one list meets. -/
def Free (S S' : Nat → ByteArray) (F T F' T' : Nat → Int) (k l : Nat) : Prop := ∀ i, i < k → ∀ j, j < l → hit (S i) (S' j) (F i) (T i) (F' j) (T' j) = false
def Some2 (S S' : Nat → ByteArray) (F T F' T' : Nat → Int) (k l : Nat) : Prop := ∃ i, i < k ∧ ∃ j, j < l ∧ hit (S i) (S' j) (F i) (T i) (F' j) (T' j) = true
def FreeRow (S S' : Nat → ByteArray) (F T F' T' : Nat → Int) (k m : Nat) : Prop := ∀ j, j < m → hit (S k) (S' j) (F k) (T k) (F' j) (T' j) = false
theorem free_succ {S S' : Nat → ByteArray} {F T F' T' : Nat → Int} {k l : Nat} (h : Free S S' F T F' T' k l) (h' : FreeRow S S' F T F' T' k l) : Free S S' F T F' T' (k + 1) l := by
  intro i hi j hj
  rcases (by omega : i < k ∨ i = k) with h1 | rfl
  · exact h i h1 j hj
  · exact h' j hj
theorem row_succ {S S' : Nat → ByteArray} {F T F' T' : Nat → Int} {k m : Nat} (h : FreeRow S S' F T F' T' k m) (h' : hit (S k) (S' m) (F k) (T k) (F' m) (T' m) = false) : FreeRow S S' F T F' T' k (m + 1) := by
  intro j hj
  rcases (by omega : j < m ∨ j = m) with h1 | rfl
  · exact h j h1
  · exact h'
/-- What Overlap answers. -/
def Post (S S' : Nat → ByteArray) (F T F' T' : Nat → Int) (la lb : Nat) (w : World) (e : Ending) (w' : World) : Prop :=
  ((e = .returned (.bool true) ∧ Some2 S S' F T F' T' la lb) ∨ (e = .returned (.bool false) ∧ Free S S' F T F' T' la lb)) ∧ Below w.heap.size w w'
theorem keep {y y' : World} {b o : Nat} {v : Value} (hy : Below y.heap.size y y') (hb : b < y.heap.size) (h : y.cell? ⟨b, o, none⟩ = some v) : y'.cell? ⟨b, o, none⟩ = some v := (hy.cell (p := ⟨b, o, none⟩) hb).trans h
/-- What a list of regions in memory is: for each place its three cells. -/
def Regs (w : World) (a o l : Nat) (S : Nat → ByteArray) (F T : Nat → Int) : Prop :=
  ∀ i, i < l → w.cell? ⟨a, o + i * 3, none⟩ = some (.string (S i)) ∧ w.cell? ⟨a, o + i * 3 + 1, none⟩ = some (.int .i64 (F i)) ∧ w.cell? ⟨a, o + i * 3 + 2, none⟩ = some (.int .i64 (T i))
set_option maxHeartbeats 4000000 in
theorem ov (w : World) (a b la ca lb cb oa ob : Nat) (S S' : Nat → ByteArray) (F T F' T' : Nat → Int) (hla : la ≤ maxLen) (hlb : lb ≤ maxLen) (hab : a < w.heap.size) (hbb : b < w.heap.size)
    (RA : Regs w a oa la S F T) (RB : Regs w b ob lb S' F' T') :
    Calls Try.prog 44 #[.slice (some ⟨a, oa, none⟩) la ca, .slice (some ⟨b, ob, none⟩) lb cb] w (Post S S' F T F' T' la lb w) := by
  unfold maxLen at hla hlb
  have RA := Lib.hid RA
  have RB := Lib.hid RB
  go_enter Try.func44, Try.ntmps44
  go_wp2
  go_loopw [11] (fun i wr => ∃ k : Nat, i = .int .i64 k ∧ k ≤ la ∧ Below w.heap.size w wr ∧ Free S S' F T F' T' k lb) (fun i _ => la - (intOf i).toNat)
  case atStart => exact ⟨0, rfl, by omega, Below.refl _ _, fun i hi => by omega⟩
  case round =>
    obtain ⟨k, rfl, hk, hB, hF⟩ := hrel
    by_cases hlt : k < la
    · obtain ⟨x0, x1, x2⟩ := RA.out k hlt
      have x0 := keep hB hab x0
      have x1 := keep hB hab x1
      have x2 := keep hB hab x2
      obtain ⟨s, hs⟩ : ∃ s, S k = s := ⟨_, rfl⟩
      obtain ⟨f, hf⟩ : ∃ f, F k = f := ⟨_, rfl⟩
      obtain ⟨t, ht⟩ : ∃ t, T k = t := ⟨_, rfl⟩
      rw [hs] at x0
      rw [hf] at x1
      rw [ht] at x2
      have hs := Lib.hid hs
      have hf := Lib.hid hf
      have ht := Lib.hid ht
      have HF := Lib.hid hF
      clear hF
      go_wp2
      obtain ⟨wo, hwo⟩ : ∃ wo : World, wo = wr := ⟨_, rfl⟩
      have p0 : (wr.alloc (.cells #[.string s, .int .i64 f, .int .i64 t] 73)).cell? ⟨wr.heap.size, 0, none⟩ = some (.string s) := by go_cell
      have p1 : (wr.alloc (.cells #[.string s, .int .i64 f, .int .i64 t] 73)).cell? ⟨wr.heap.size, 1, none⟩ = some (.int .i64 f) := by go_cell
      have p2 : (wr.alloc (.cells #[.string s, .int .i64 f, .int .i64 t] 73)).cell? ⟨wr.heap.size, 2, none⟩ = some (.int .i64 t) := by go_cell
      have hB2 : Below w.heap.size w (wr.alloc (.cells #[.string s, .int .i64 f, .int .i64 t] 73)) := hB.alloc hB.size _
      have hx : wr.heap.size < (wr.alloc (.cells #[.string s, .int .i64 f, .int .i64 t] 73)).heap.size := by simp
      clear x0 x1 x2 hB hwo
      generalize wr.alloc (.cells #[.string s, .int .i64 f, .int .i64 t] 73) = y at *
      generalize wr.heap.size = X at *
      go_loopw [17] (fun i wr => ∃ m : Nat, i = .int .i64 m ∧ m ≤ lb ∧ Below w.heap.size w wr ∧ Below y.heap.size y wr ∧ FreeRow S S' F T F' T' k m) (fun i _ => lb - (intOf i).toNat)
      case atStart => exact ⟨0, rfl, by omega, hB2, Below.refl _ _, fun i hi => by omega⟩
      case round =>
        obtain ⟨m, rfl, hm, hC, hD, hR⟩ := hrel
        by_cases hlm : m < lb
        · obtain ⟨z0, z1, z2⟩ := RB.out m hlm
          have z0 := keep hC hbb z0
          have z1 := keep hC hbb z1
          have z2 := keep hC hbb z2
          have q0 := keep hD hx p0
          have q1 := keep hD hx p1
          have q2 := keep hD hx p2
          clear p0 p1 p2
          have lt0 : X < wr.heap.size := Nat.lt_of_lt_of_le hx hD.size
          have ne0 : ¬ X = wr.heap.size := by omega
          have ne1 : ¬ wr.heap.size = X := by omega
          obtain ⟨s', hs'⟩ : ∃ s', S' m = s' := ⟨_, rfl⟩
          obtain ⟨f', hf'⟩ : ∃ f', F' m = f' := ⟨_, rfl⟩
          obtain ⟨t', ht'⟩ : ∃ t', T' m = t' := ⟨_, rfl⟩
          rw [hs'] at z0
          rw [hf'] at z1
          rw [ht'] at z2
          obtain ⟨b1, hb1⟩ : ∃ b1, (s.toList == s'.toList) = b1 := ⟨_, rfl⟩
          obtain ⟨mx, hmx⟩ : ∃ mx, max f f' = mx := ⟨_, rfl⟩
          obtain ⟨mn, hmn⟩ : ∃ mn, min t t' = mn := ⟨_, rfl⟩
          obtain ⟨b2, hb2⟩ : ∃ b2, decide (mx < mn) = b2 := ⟨_, rfl⟩
          have HH : Hid (hit (S k) (S' m) (F k) (T k) (F' m) (T' m) = (b1 && b2)) := Lib.hid (by unfold hit; rw [hs.out, hf.out, ht.out, hs', hf', ht', hb1, hmx, hmn, hb2])
          have HR := Lib.hid hR
          clear hs' hf' ht' hR
          have hC2 : ∀ o, Below w.heap.size w (wr.alloc o) := fun o => hC.alloc hC.size o
          have hD2 : ∀ o, Below y.heap.size y (wr.alloc o) := fun o => hD.alloc hD.size o
          cases b1 <;> cases b2
          · go_wp2
            go_roundw
            case rel => exact ⟨m + 1, by go_num, by omega, hC2 _, hD2 _, row_succ HR.out HH.out⟩
            case measure => simp [intOf]; omega
          · go_wp2
            go_roundw
            case rel => exact ⟨m + 1, by go_num, by omega, hC2 _, hD2 _, row_succ HR.out HH.out⟩
            case measure => simp [intOf]; omega
          · have hN : ¬ mx < mn := of_decide_eq_false hb2
            have hN2 : ¬ max f f' < min t t' := by rw [hmx, hmn]; exact hN
            clear hb2 hmx hmn hN
            go_wp2
            go_roundw
            case rel => exact ⟨m + 1, by go_num, by omega, hC2 _, hD2 _, row_succ HR.out HH.out⟩
            case measure => simp [intOf]; omega
          · have hN : mx < mn := of_decide_eq_true hb2
            have hN2 : max f f' < min t t' := by rw [hmx, hmn]; exact hN
            clear hb2 hmx hmn hN
            go_wp2
            all_goals
              go_ret
              exact ⟨.inl ⟨rfl, k, hlt, m, hlm, HH.out⟩, hC2 _⟩
        · obtain rfl : m = lb := by omega
          have HR := Lib.hid hR
          clear hR
          go_wp2
          go_roundw
          case rel => exact ⟨k + 1, by go_num, by omega, hC, free_succ HF.out HR.out⟩
          case measure => simp [intOf]; omega
    · go_wp2
      go_ret
      obtain rfl : k = la := by omega
      exact ⟨.inr ⟨rfl, hF⟩, hB⟩
end Go.Proofs.Ytaagegiehjpgiaa.Ov
