/- Overlap of the reference: whether two lists of regions share an element. -/
import Derived.Test.YtaagegiehjpgiaaOv
namespace Go.Proofs.Ytaagegiehjpgiaa.Ov
open Go.ChangeShapes Go.WideShapes Go.ChangeAt Go.RowKit
set_option linter.unusedVariables false

theorem below_drewN {B : Nat} {a w : World} (h : Below B a w) (n : Nat) : Below B a (w.drewN n) := ⟨h.os, h.tape, h.output, h.size, h.block⟩
theorem below_drew {B : Nat} {a w : World} (h : Below B a w) : Below B a w.drew := ⟨h.os, h.tape, h.output, h.size, h.block⟩

set_option maxHeartbeats 4000000 in
theorem rv (w : World) (a b la ca lb cb oa ob : Nat) (S S' : Nat → ByteArray) (F T F' T' : Nat → Int) (hla : la ≤ maxLen) (hlb : lb ≤ maxLen) (hab : a < w.heap.size) (hbb : b < w.heap.size)
    (RA : Regs w a oa la S F T) (RB : Regs w b ob lb S' F' T') :
    Calls Try.prog 45 #[.slice (some ⟨a, oa, none⟩) la ca, .slice (some ⟨b, ob, none⟩) lb cb] w (Post S S' F T F' T' la lb w) := by
  unfold maxLen at hla hlb
  have RA := Lib.hid RA
  have RB := Lib.hid RB
  go_enter Try.func45, Try.ntmps45
  go_wp2
  go_loopw [5] (fun i wr => ∃ k : Nat, i = .int .i64 k ∧ k ≤ la ∧ Below w.heap.size w wr ∧ Free S S' F T F' T' k lb) (fun i _ => la - (intOf i).toNat)
  case atStart => exact ⟨0, rfl, by omega, Below.refl _ _, fun i hi => by omega⟩
  case round =>
    obtain ⟨k, rfl, hk, hB, hF⟩ := hrel
    by_cases hlt : k < la
    · obtain ⟨x0, x1, x2⟩ := RA.out k hlt
      obtain ⟨s, hs⟩ : ∃ s, S k = s := ⟨_, rfl⟩
      obtain ⟨f, hf⟩ : ∃ f, F k = f := ⟨_, rfl⟩
      obtain ⟨t, ht⟩ : ∃ t, T k = t := ⟨_, rfl⟩
      rw [hs] at x0
      rw [hf] at x1
      rw [ht] at x2
      have hs := Lib.hid hs
      have hf := Lib.hid hf
      have ht := Lib.hid ht
      have HF := Lib.hid hF
      clear hF
      have X0 := Lib.hid x0
      have X1 := Lib.hid x1
      have X2 := Lib.hid x2
      clear x0 x1 x2
      go_wp2
      obtain ⟨wo, hwo⟩ : ∃ wo : World, wo = wr := ⟨_, rfl⟩
      clear hwo
      go_loopw [6] (fun i wr => ∃ m : Nat, i = .int .i64 m ∧ m ≤ lb ∧ Below w.heap.size w wr ∧ FreeRow S S' F T F' T' k m) (fun i _ => lb - (intOf i).toNat)
      case atStart => exact ⟨0, rfl, by omega, hB, fun i hi => by omega⟩
      case round =>
        obtain ⟨m, rfl, hm, hC, hR⟩ := hrel
        by_cases hlm : m < lb
        · obtain ⟨z0, z1, z2⟩ := RB.out m hlm
          have z0 := keep hC hbb z0
          have z1 := keep hC hbb z1
          have z2 := keep hC hbb z2
          have q0 := keep hC hab X0.out
          have q1 := keep hC hab X1.out
          have q2 := keep hC hab X2.out
          obtain ⟨s', hs'⟩ : ∃ s', S' m = s' := ⟨_, rfl⟩
          obtain ⟨f', hf'⟩ : ∃ f', F' m = f' := ⟨_, rfl⟩
          obtain ⟨t', ht'⟩ : ∃ t', T' m = t' := ⟨_, rfl⟩
          rw [hs'] at z0
          rw [hf'] at z1
          rw [ht'] at z2
          obtain ⟨b1, hb1⟩ : ∃ b1, (s.toList == s'.toList) = b1 := ⟨_, rfl⟩
          obtain ⟨mx, hmx⟩ : ∃ mx, max f f' = mx := ⟨_, rfl⟩
          obtain ⟨mn, hmn⟩ : ∃ mn, min t t' = mn := ⟨_, rfl⟩
          obtain ⟨b2, hb2⟩ : ∃ b2, decide (mx < mn) = b2 := ⟨_, rfl⟩
          have HH : Hid (hit (S k) (S' m) (F k) (T k) (F' m) (T' m) = (b1 && b2)) := Lib.hid (by unfold hit; rw [hs.out, hf.out, ht.out, hs', hf', ht', hb1, hmx, hmn, hb2])
          have HR := Lib.hid hR
          clear hs' hf' ht' hR
          have i0 : (0 : Int) ≤ k := by omega
          have i1 : (k : Int) < la := by omega
          have i2 : (0 : Int) ≤ m := by omega
          have i3 : (m : Int) < lb := by omega
          cases b1 <;> cases b2
          · go_wp2
            go_quiet (fail)
            go_wp2
            go_roundw
            case rel => exact ⟨m + 1, by go_num, by omega, below_drewN hC _, row_succ HR.out HH.out⟩
            case measure => simp [intOf]; omega
          · go_wp2
            go_quiet (fail)
            go_wp2
            go_roundw
            case rel => exact ⟨m + 1, by go_num, by omega, below_drewN hC _, row_succ HR.out HH.out⟩
            case measure => simp [intOf]; omega
          · have hN : ¬ mx < mn := of_decide_eq_false hb2
            have hN2 : ¬ max f f' < min t t' := by rw [hmx, hmn]; exact hN
            clear hmx hmn hN
            go_wp2
            go_quiet (fail)
            go_wp2
            go_roundw
            case rel => exact ⟨m + 1, by go_num, by omega, below_drewN hC _, row_succ HR.out HH.out⟩
            case measure => simp [intOf]; omega
          · have hN : mx < mn := of_decide_eq_true hb2
            have hN2 : max f f' < min t t' := by rw [hmx, hmn]; exact hN
            clear hb2 hmx hmn hN
            go_wp2
            go_quiet (fail)
            go_wp2
            all_goals
              go_ret
              exact ⟨.inl ⟨rfl, k, hlt, m, hlm, HH.out⟩, below_drewN hC _⟩
        · obtain rfl : m = lb := by omega
          have HR := Lib.hid hR
          clear hR
          go_wp2
          go_roundw
          case rel => exact ⟨k + 1, by go_num, by omega, hC, free_succ HF.out HR.out⟩
          case measure => simp [intOf]; omega
    · go_wp2
      go_ret
      obtain rfl : k = la := by omega
      exact ⟨.inr ⟨rfl, hF⟩, hB⟩

theorem ov_a0 (w : World) (p : Option Addr) (c : Nat) (q : Option Addr) (l c' : Nat) : Calls Try.prog 44 #[.slice p 0 c, .slice q l c'] w (fun e w' => e = .returned (.bool false) ∧ Below w.heap.size w w') := by
  go_enter Try.func44, Try.ntmps44
  go_wp2
  go_loopw [11] (fun i wr => i = .int .i64 0 ∧ w = wr) (fun i _ => 0)
  case atStart => exact ⟨rfl, rfl⟩
  case round =>
    obtain ⟨rfl, rfl⟩ := hrel
    go_wp2
    go_ret
    exact ⟨rfl, Below.refl _ _⟩
theorem rv_a0 (w : World) (p : Option Addr) (c : Nat) (q : Option Addr) (l c' : Nat) : Calls Try.prog 45 #[.slice p 0 c, .slice q l c'] w (fun e w' => e = .returned (.bool false) ∧ Below w.heap.size w w') := by
  go_enter Try.func45, Try.ntmps45
  go_wp2
  go_loopw [5] (fun i wr => i = .int .i64 0 ∧ w = wr) (fun i _ => 0)
  case atStart => exact ⟨rfl, rfl⟩
  case round =>
    obtain ⟨rfl, rfl⟩ := hrel
    go_wp2
    go_ret
    exact ⟨rfl, Below.refl _ _⟩
set_option maxHeartbeats 4000000 in
theorem ov_b0 (w : World) (a la ca oa : Nat) (p : Option Addr) (c : Nat) (S : Nat → ByteArray) (F T : Nat → Int) (hla : la ≤ maxLen) (hab : a < w.heap.size) (RA : Regs w a oa la S F T) :
    Calls Try.prog 44 #[.slice (some ⟨a, oa, none⟩) la ca, .slice p 0 c] w (fun e w' => e = .returned (.bool false) ∧ Below w.heap.size w w') := by
  unfold maxLen at hla
  have RA := Lib.hid RA
  go_enter Try.func44, Try.ntmps44
  go_wp2
  go_loopw [11] (fun i wr => ∃ k : Nat, i = .int .i64 k ∧ k ≤ la ∧ Below w.heap.size w wr) (fun i _ => la - (intOf i).toNat)
  case atStart => exact ⟨0, rfl, by omega, Below.refl _ _⟩
  case round =>
    obtain ⟨k, rfl, hk, hB⟩ := hrel
    by_cases hlt : k < la
    · obtain ⟨x0, x1, x2⟩ := RA.out k hlt
      have x0 := keep hB hab x0
      have x1 := keep hB hab x1
      have x2 := keep hB hab x2
      have hB2 : ∀ o, Below w.heap.size w (wr.alloc o) := fun o => hB.alloc hB.size o
      go_wp2
      go_loopw [17] (fun i wr => i = .int .i64 0 ∧ Below w.heap.size w wr) (fun i _ => 0)
      case atStart => exact ⟨rfl, hB2 _⟩
      case round =>
        obtain ⟨rfl, hC⟩ := hrel
        go_wp2
        go_roundw
        case rel => exact ⟨k + 1, by go_num, by omega, hC⟩
        case measure => simp [intOf]; omega
    · go_wp2
      go_ret
      exact ⟨rfl, hB⟩
set_option maxHeartbeats 4000000 in
theorem rv_b0 (w : World) (a la ca oa : Nat) (p : Option Addr) (c : Nat) (hla : la ≤ maxLen) :
    Calls Try.prog 45 #[.slice (some ⟨a, oa, none⟩) la ca, .slice p 0 c] w (fun e w' => e = .returned (.bool false) ∧ Below w.heap.size w w') := by
  unfold maxLen at hla
  go_enter Try.func45, Try.ntmps45
  go_wp2
  go_loopw [5] (fun i wr => ∃ k : Nat, i = .int .i64 k ∧ k ≤ la ∧ Below w.heap.size w wr) (fun i _ => la - (intOf i).toNat)
  case atStart => exact ⟨0, rfl, by omega, Below.refl _ _⟩
  case round =>
    obtain ⟨k, rfl, hk, hB⟩ := hrel
    by_cases hlt : k < la
    · go_wp2
      go_loopw [6] (fun i wr => i = .int .i64 0 ∧ Below w.heap.size w wr) (fun i _ => 0)
      case atStart => exact ⟨rfl, hB⟩
      case round =>
        obtain ⟨rfl, hC⟩ := hrel
        go_wp2
        go_roundw
        case rel => exact ⟨k + 1, by go_num, by omega, hC⟩
        case measure => simp [intOf]; omega
    · go_wp2
      go_ret
      exact ⟨rfl, hB⟩

/-- A slice of regions. -/
def Sl (w : World) (v : Value) (l : Nat) (S : Nat → ByteArray) (F T : Nat → Int) : Prop :=
  (∃ p c, v = .slice p 0 c ∧ l = 0) ∨ ∃ a o c, v = .slice (some ⟨a, o, none⟩) l c ∧ a < w.heap.size ∧ Regs w a o l S F T
theorem Sl.keep {w w' : World} {v : Value} {l : Nat} {S : Nat → ByteArray} {F T : Nat → Int} (h : Sl w v l S F T) (hb : Below w.heap.size w w') : Sl w' v l S F T := by
  rcases h with h | ⟨a, o, c, rfl, ha, hr⟩
  · exact .inl h
  · exact .inr ⟨a, o, c, rfl, Nat.lt_of_lt_of_le ha hb.size, fun i hi => ⟨Ov.keep hb ha (hr i hi).1, Ov.keep hb ha (hr i hi).2.1, Ov.keep hb ha (hr i hi).2.2⟩⟩
/-- Returned this, and what was in memory stays. -/
def Ret (v : Value) (w : World) (e : Ending) (w' : World) : Prop := e = .returned v ∧ Below w.heap.size w w'
theorem both (va vb : Value) (la lb : Nat) (S S' : Nat → ByteArray) (F T F' T' : Nat → Int) (hla : la ≤ maxLen) (hlb : lb ≤ maxLen) :
    ∃ x : Bool, (∀ w, Sl w va la S F T → Sl w vb lb S' F' T' → Calls Try.prog 44 #[va, vb] w (Ret (.bool x) w)) ∧ (∀ w, Sl w va la S F T → Sl w vb lb S' F' T' → Calls Try.prog 45 #[va, vb] w (Ret (.bool x) w)) ∧
      (x = true ↔ Some2 S S' F T F' T' la lb) := by
  have key : ∀ e w w', Post S S' F T F' T' la lb w e w' → ∀ x : Bool, (x = true ↔ Some2 S S' F T F' T' la lb) → Ret (.bool x) w e w' := by
    rintro e w w' ⟨h, hb⟩ x hx
    rcases h with ⟨rfl, h⟩ | ⟨rfl, h⟩
    · rw [hx.2 h]; exact ⟨rfl, hb⟩
    · have : x = false := by
        cases x
        · rfl
        · obtain ⟨i, hi, j, hj, hh⟩ := hx.1 rfl
          rw [h i hi j hj] at hh
          cases hh
      rw [this]; exact ⟨rfl, hb⟩
  have none_ : ∀ x : Bool, (x = true ↔ Some2 S S' F T F' T' la lb) → (la = 0 ∨ lb = 0) → x = false := by
    intro x hx h0
    cases x
    · rfl
    · obtain ⟨i, hi, j, hj, hh⟩ := hx.1 rfl
      omega
  have step : ∀ x : Bool, (x = true ↔ Some2 S S' F T F' T' la lb) → (∀ w, Sl w va la S F T → Sl w vb lb S' F' T' → Calls Try.prog 44 #[va, vb] w (Ret (.bool x) w)) ∧ (∀ w, Sl w va la S F T → Sl w vb lb S' F' T' → Calls Try.prog 45 #[va, vb] w (Ret (.bool x) w)) := by
    intro x hx
    constructor
    · intro w ha hb
      rcases ha with ⟨p, c, rfl, h0⟩ | ⟨a, o, c, rfl, hA, RA⟩
      · have : ∃ q l c', vb = .slice q l c' := by
          rcases hb with ⟨q, c', rfl, _⟩ | ⟨b, o', c', rfl, _⟩
          · exact ⟨_, _, _, rfl⟩
          · exact ⟨_, _, _, rfl⟩
        obtain ⟨q, l, c', rfl⟩ := this
        rw [none_ x hx (.inl h0)]
        exact ov_a0 w p c q l c'
      · rcases hb with ⟨q, c', rfl, h0⟩ | ⟨b, o', c', rfl, hB, RB⟩
        · rw [none_ x hx (.inr h0)]
          exact ov_b0 w a la c o q c' S F T hla hA RA
        · exact (ov w a b la c lb c' o o' S S' F T F' T' hla hlb hA hB RA RB).mono fun e w' h => key e w w' h x hx
    · intro w ha hb
      rcases ha with ⟨p, c, rfl, h0⟩ | ⟨a, o, c, rfl, hA, RA⟩
      · have : ∃ q l c', vb = .slice q l c' := by
          rcases hb with ⟨q, c', rfl, _⟩ | ⟨b, o', c', rfl, _⟩
          · exact ⟨_, _, _, rfl⟩
          · exact ⟨_, _, _, rfl⟩
        obtain ⟨q, l, c', rfl⟩ := this
        rw [none_ x hx (.inl h0)]
        exact rv_a0 w p c q l c'
      · rcases hb with ⟨q, c', rfl, h0⟩ | ⟨b, o', c', rfl, hB, RB⟩
        · rw [none_ x hx (.inr h0)]
          exact rv_b0 w a la c o q c' hla
        · exact (rv w a b la c lb c' o o' S S' F T F' T' hla hlb hA hB RA RB).mono fun e w' h => key e w w' h x hx
  by_cases h : Some2 S S' F T F' T' la lb
  · have hx : (true = true ↔ Some2 S S' F T F' T' la lb) := ⟨fun _ => h, fun _ => rfl⟩
    exact ⟨true, (step true hx).1, (step true hx).2, hx⟩
  · have hx : (false = true ↔ Some2 S S' F T F' T' la lb) := ⟨(fun h' => by cases h'), fun h' => absurd h' h⟩
    exact ⟨false, (step false hx).1, (step false hx).2, hx⟩
/-- Two lists of one region each. -/
theorem one (w : World) (a b oa ob : Nat) (s s' : ByteArray) (f t f' t' : Int) (x : Bool) (hx : hit s s' f t f' t' = x) (hab : a < w.heap.size) (hbb : b < w.heap.size)
    (x0 : w.cell? ⟨a, oa, none⟩ = some (.string s)) (x1 : w.cell? ⟨a, oa + 1, none⟩ = some (.int .i64 f)) (x2 : w.cell? ⟨a, oa + 2, none⟩ = some (.int .i64 t))
    (y0 : w.cell? ⟨b, ob, none⟩ = some (.string s')) (y1 : w.cell? ⟨b, ob + 1, none⟩ = some (.int .i64 f')) (y2 : w.cell? ⟨b, ob + 2, none⟩ = some (.int .i64 t')) :
    Calls Try.prog 44 #[.slice (some ⟨a, oa, none⟩) 1 1, .slice (some ⟨b, ob, none⟩) 1 1] w (Ret (.bool x) w) := by
  refine (ov w a b 1 1 1 1 oa ob (fun _ => s) (fun _ => s') (fun _ => f) (fun _ => t) (fun _ => f') (fun _ => t') (by decide) (by decide) hab hbb ?_ ?_).mono ?_
  · intro i hi
    obtain rfl : i = 0 := by omega
    simpa using ⟨x0, x1, x2⟩
  · intro i hi
    obtain rfl : i = 0 := by omega
    simpa using ⟨y0, y1, y2⟩
  · rintro e w' ⟨h, hb⟩
    rcases h with ⟨rfl, i, _, j, _, hh⟩ | ⟨rfl, h⟩
    · rw [hx] at hh
      rw [hh]
      exact ⟨rfl, hb⟩
    · have := h 0 (by omega) 0 (by omega)
      rw [hx] at this
      rw [this]
      exact ⟨rfl, hb⟩
end Go.Proofs.Ytaagegiehjpgiaa.Ov
