/- Contracts carried from another seat. -/
import Derived.Test.YtkdfidjoighknaaRows
import Derived.OwnWalk
import Derived.WalkSmall
import Derived.Deep.RegionHeld
import Derived.WalkKit
import Derived.ProofKit
import Derived.OpenShut
import Derived.Lib.Bytealg
import Derived.WalkLawsBesides
import Derived.WalkSpells
import Derived.Outline
import Derived.Handy
import Derived.IntWalk
import Derived.Deep.QuietTactic
import Derived.BigQuiet
import Derived.Lib.Hide
import Derived.Deep.RegionHeld3
import Derived.Deep.RegionWith
import Derived.Laws.Externs
import Derived.Shelf.Spec.BitsCarry
import Derived.Deep.Quiet
import Derived.Laws.AppendOwn
import Derived.Laws.OwnMore
import Derived.OneCell
import Derived.Deep.Onto
import Derived.Laws.Rows
import Derived.Test.YtkdfidjoighknaaBL
import Derived.Test.YtkdfidjoighknaaRk
open Go.Proofs.Ytkdfidjoighknaa.Nm
namespace Go.Proofs.Ytkdfidjoighknaa.Ln
open Go.ChangeShapes Go.WideShapes Go.ChangeAt Go.RowKit
open Go.Proofs.Ytkdfidjoighknaa.Nm
set_option linter.unusedVariables false
set_option linter.unusedSimpArgs false
def cs (a b : ByteArray) : Int := Lib.compareBytes a.data.toList b.data.toList
theorem cb_zero : ∀ a b : List UInt8, Lib.compareBytes a b = 0 ↔ a = b
  | [], [] => by simp [Lib.compareBytes]
  | [], _ :: _ => by simp [Lib.compareBytes]
  | _ :: _, [] => by simp [Lib.compareBytes]
  | a :: a1s, b :: bs => by
    have ih := cb_zero a1s bs
    unfold Lib.compareBytes
    by_cases h1 : a < b
    · have : ¬ a = b := fun h => by subst h; exact UInt8.lt_irrefl _ h1
      simp [h1, this]
    · by_cases h2 : b < a
      · have : ¬ a = b := fun h => by subst h; exact h1 h2
        simp [h1, h2, this]
      · obtain rfl : a = b := UInt8.le_antisymm (UInt8.not_lt.1 h2) (UInt8.not_lt.1 h1)
        simp [ih]
theorem cs_zero {a b : ByteArray} : cs a b = 0 ↔ a = b := by
  unfold cs
  rw [cb_zero]
  exact ⟨fun h => ByteArray.ext (Array.toList_inj.1 h), fun h => by rw [h]⟩
theorem cs_eq (a b : ByteArray) : (a.toList == b.toList) = decide (cs a b = 0) := by
  rw [ByteArray.toList_eq, ByteArray.toList_eq, Bool.eq_iff_iff, beq_iff_eq, decide_eq_true_eq]
  exact (cb_zero _ _).symm
theorem two_below {w : World} (o o' : Obj) : Below w.heap.size w ((w.alloc o).alloc o') := ((Below.refl _ _).alloc (Nat.le_refl _) _).alloc (by simp) _
set_option maxRecDepth 100000 in
set_option maxHeartbeats 4000000 in
theorem val2 (k : Int) (p : Option Addr) (xs : List Mo) (c : Nat) (w : World) (hn : xs.length ≤ maxLen) (RA : Hid (SlM w p xs)) (RS : Hid (∀ i, i < xs.length → (xs.getD i mo0).1.size ≤ maxLen)) :
    Calls Try.prog 62 #[Lv k p xs.length c] w fun e w' => e = .returned (.int .i64 (vL xs)) ∧ Below w.heap.size w w' := by
  have C := Lib.hid fun w R1 => right k p xs c w hn R1 RS
  have B0 : Below w.heap.size w (w.alloc (Obj.cells #[Value.int .i64 k, Value.slice p xs.length c] 44)) := (Below.refl _ _).alloc (Nat.le_refl _) _
  unfold vL
  generalize okL xs = v at *
  unfold Lv at *
  cases v
  all_goals
    go_enter Try.func62, Try.ntmps62
    go_wp2_with fail
    refine (C.out _ (Lib.hid (SlM.keep B0 RA.out))).mono ?_
    rintro e w1 ⟨rfl, hb⟩
    go_wp2
    go_ret
    exact ⟨rfl, B0.trans (hb.mono B0.size)⟩
def co : List Mo → ByteArray → Int
  | [], _ => 0
  | x :: r, s => if (x.1.toList == s.toList) = true then x.2 else co r s
/-- The three limbs of a number in two's complement. -/
def l0 (V : Int) : Int := V % 18446744073709551616
def l1 (V : Int) : Int := V / 18446744073709551616 % 18446744073709551616
def l2 (V : Int) : Int := V / 340282366920938463463374607431768211456 % 18446744073709551616
theorem u64w (n : Int) : IntKind.u64.wrap n = n % 18446744073709551616 := by simp [IntKind.wrap, IntKind.bits, IntKind.signed]
theorem Cl.below {L : List (Nat × Nat × Value)} {u u' : World} (h : Cl L u) (hb : Below u.heap.size u u') : Cl L u' := fun b o v hm => by
  obtain ⟨h1, h2⟩ := h b o v hm
  have := lt_of_cell h1
  exact ⟨(hb.cell (p := ⟨b, o, none⟩) this).trans h1, (hb.frozen (p := ⟨b, o, none⟩) this).trans h2⟩
theorem Cl.far {L : List (Nat × Nat × Value)} {u : World} {a : Addr} {x : Value} (h : Cl L u) (hne : ∀ y ∈ L, y.1 ≠ a.block) : Cl L (u.setCell a x) := fun b o v hm => by
  obtain ⟨h1, h2⟩ := h b o v hm
  have hb := Below.heap_setCell u a x b (hne _ hm)
  exact ⟨(World.cell?_of_block (a := ⟨b, o, none⟩) hb).trans h1, (World.frozen?_of_block (a := ⟨b, o, none⟩) hb).trans h2⟩
theorem Cl.nil (u : World) : Cl [] u := fun _ _ _ h => by cases h
theorem Cl.cons {L : List (Nat × Nat × Value)} {u : World} {b o : Nat} {v : Value} (h1 : u.cell? ⟨b, o, none⟩ = some v) (h2 : u.frozen? ⟨b, o, none⟩ = false) (h : Cl L u) : Cl ((b, o, v) :: L) u := fun b' o' v' hm => by
  rcases List.mem_cons.1 hm with e | e
  · cases e; exact ⟨h1, h2⟩
  · exact h _ _ _ e
theorem Cl.head {L : List (Nat × Nat × Value)} {u : World} {b o : Nat} {v : Value} (h : Cl ((b, o, v) :: L) u) : u.cell? ⟨b, o, none⟩ = some v := (h b o v (by simp)).1
theorem Cl.headF {L : List (Nat × Nat × Value)} {u : World} {b o : Nat} {v : Value} (h : Cl ((b, o, v) :: L) u) : u.frozen? ⟨b, o, none⟩ = false := (h b o v (by simp)).2
theorem Cl.tail {L : List (Nat × Nat × Value)} {u : World} {x : Nat × Nat × Value} (h : Cl (x :: L) u) : Cl L u := fun b o v hm => h b o v (List.mem_cons_of_mem _ hm)
theorem Cl.sub {L L' : List (Nat × Nat × Value)} {u : World} (h : Cl L u) (hs : ∀ x ∈ L', x ∈ L) : Cl L' u := fun b o v hm => h b o v (hs _ hm)
theorem Cl.append {L L' : List (Nat × Nat × Value)} {u : World} (h : Cl L u) (h' : Cl L' u) : Cl (L ++ L') u := fun b o v hm => (List.mem_append.1 hm).elim (h b o v) (h' b o v)
theorem SlM.below {w u : World} {p : Option Addr} {xs : List Mo} (h : SlM w p xs) (hb : Below w.heap.size w u) : SlM u p xs := SlM.keep hb h
theorem take_step {xs : List Mo} {j : Nat} (h : j < xs.length) : xs.take (j + 1) = xs.take j ++ [xs.getD j mo0] := by
  rw [List.take_succ_eq_append_getElem h]
  have e1 : xs.getD j mo0 = xs[j] := by unfold List.getD; rw [List.getElem?_eq_getElem h]; rfl
  rw [e1]
theorem getD_mem {xs : List Mo} {j : Nat} (h : j < xs.length) : xs.getD j mo0 ∈ xs := by
  have e1 : xs.getD j mo0 = xs[j] := by unfold List.getD; rw [List.getElem?_eq_getElem h]; rfl
  rw [e1]
  exact List.getElem_mem h
theorem cb_trans : ∀ a b c : List UInt8, Lib.compareBytes a b < 0 → Lib.compareBytes b c < 0 → Lib.compareBytes a c < 0
  | [], [], _, h, _ => by simp [Lib.compareBytes] at h
  | _ :: _, [], _, h, _ => by simp [Lib.compareBytes] at h
  | [], _ :: _, [], _, h => by simp [Lib.compareBytes] at h
  | [], _ :: _, _ :: _, _, _ => by simp [Lib.compareBytes]
  | _ :: _, _ :: _, [], _, h => by simp [Lib.compareBytes] at h
  | a :: a', b :: b', c :: c', h, h2 => by
    have ih := cb_trans a' b' c'
    unfold Lib.compareBytes at h h2 ⊢
    simp only [UInt8.lt_iff_toNat_lt] at h h2 ⊢
    by_cases h1 : a.toNat < b.toNat
    · by_cases h3 : b.toNat < c.toNat
      · rw [if_pos (by omega)]; omega
      · rw [if_neg h3] at h2
        by_cases h4 : c.toNat < b.toNat
        · rw [if_pos h4] at h2; omega
        · rw [if_pos (by omega)]; omega
    · rw [if_neg h1] at h
      by_cases h5 : b.toNat < a.toNat
      · rw [if_pos h5] at h; omega
      · rw [if_neg h5] at h
        by_cases h3 : b.toNat < c.toNat
        · rw [if_pos (by omega)]; omega
        · rw [if_neg h3] at h2
          by_cases h4 : c.toNat < b.toNat
          · rw [if_pos h4] at h2; omega
          · rw [if_neg h4] at h2
            rw [if_neg (by omega), if_neg (by omega)]
            exact ih h h2
def slt (a b : ByteArray) : Prop := cs a b < 0
theorem slt_trans {a b c : ByteArray} (h : slt a b) (h2 : slt b c) : slt a c := cb_trans _ _ _ h h2
theorem slt_irrefl (a : ByteArray) : ¬ slt a a := by
  unfold slt
  rw [(cs_zero).2 rfl]
  decide
theorem slt_asymm {a b : ByteArray} (h : slt a b) : ¬ slt b a := fun h2 => slt_irrefl _ (slt_trans h h2)
theorem same_iff (a b : ByteArray) : (a.toList == b.toList) = decide (a = b) := by
  rw [cs_eq, Bool.eq_iff_iff, decide_eq_true_eq, decide_eq_true_eq, cs_zero]
def Srt (l : List ByteArray) : Prop := l.Pairwise slt
theorem Srt.ext : ∀ {l m : List ByteArray}, Srt l → Srt m → (∀ x, x ∈ l ↔ x ∈ m) → l = m
  | [], [], _, _, _ => rfl
  | [], b :: m, _, _, h => by have := (h b).2 (by simp); cases this
  | a :: l, [], _, _, h => by have := (h a).1 (by simp); cases this
  | a :: l, b :: m, h1, h2, h => by
    unfold Srt at h1 h2
    rw [List.pairwise_cons] at h1 h2
    have hab : a = b := by
      rcases List.mem_cons.1 ((h a).1 (by simp)) with e | e
      · exact e
      · rcases List.mem_cons.1 ((h b).2 (by simp)) with e2 | e2
        · exact e2.symm
        · exact absurd (h1.1 b e2) (slt_asymm (h2.1 a e))
    subst hab
    rw [Srt.ext h1.2 h2.2 (fun x => by
      have hx := h x
      rw [List.mem_cons, List.mem_cons] at hx
      constructor
      · intro hm
        rcases hx.1 (.inr hm) with e | e
        · subst e; exact absurd (h1.1 _ hm) (slt_irrefl _)
        · exact e
      · intro hm
        rcases hx.2 (.inr hm) with e | e
        · subst e; exact absurd (h2.1 _ hm) (slt_irrefl _)
        · exact e)]
theorem co_nil (s : ByteArray) : co [] s = 0 := rfl
theorem co_cons (x : Mo) (l : List Mo) (s : ByteArray) : co (x :: l) s = if x.1 = s then x.2 else co l s := by
  show (if (x.1.toList == s.toList) = true then x.2 else co l s) = _
  rw [same_iff]
  by_cases h : x.1 = s <;> simp [h]
def okM (m : Mo) : Prop := m.2 ≠ 0 ∧ -9223372036854775808 ≤ m.2 ∧ m.2 ≤ 9223372036854775807
theorem okM.wrap {m : Mo} (h : okM m) : wrap64 m.2 = m.2 := by unfold okM at h; unfold wrap64; omega
/-- A form in a list: its constant, its row, its monomials, the row's room. -/
abbrev Fm := Int × Option Addr × List Mo × Nat
abbrev fm0 : Fm := (0, none, [], 0)
def SlL (w : World) (p : Option Addr) (fs : List Fm) : Prop := ∀ i, i < fs.length → ∃ b o, p = some ⟨b, o, none⟩ ∧ w.cell? ⟨b, o + i * 2, none⟩ = some (.int .i64 (fs.getD i fm0).1) ∧
  w.cell? ⟨b, o + i * 2 + 1, none⟩ = some (.slice (fs.getD i fm0).2.1 (fs.getD i fm0).2.2.1.length (fs.getD i fm0).2.2.2) ∧ SlM w (fs.getD i fm0).2.1 (fs.getD i fm0).2.2.1
theorem SlL.keep {w w' : World} {p : Option Addr} {fs : List Fm} (hB : Below w.heap.size w w') (h : SlL w p fs) : SlL w' p fs := fun i hi => by
  obtain ⟨b, o, rfl, c0, c1, c2⟩ := h i hi
  have hb := lt_of_cell c0
  exact ⟨b, o, rfl, kp hB hb c0, kp hB hb c1, SlM.keep hB c2⟩
theorem co_bd {xs : List Mo} (hb : ∀ i, i < xs.length → (xs.getD i mo0).1.size ≤ maxLen ∧ -9223372036854775808 ≤ (xs.getD i mo0).2 ∧ (xs.getD i mo0).2 ≤ 9223372036854775807) (s : ByteArray) : -9223372036854775808 ≤ co xs s ∧ co xs s ≤ 9223372036854775807 := by
  have key : ∀ l : List Mo, (∀ m ∈ l, -9223372036854775808 ≤ m.2 ∧ m.2 ≤ 9223372036854775807) → -9223372036854775808 ≤ co l s ∧ co l s ≤ 9223372036854775807 := by
    intro l
    induction l with
    | nil => intro _; rw [co_nil]; omega
    | cons x l ih =>
      intro h
      rw [co_cons]
      split
      · exact h x (by simp)
      · exact ih (fun m hm => h m (List.mem_cons_of_mem _ hm))
  refine key xs (fun m hm => ?_)
  obtain ⟨j, hj, rfl⟩ := List.getElem_of_mem hm
  have := hb j hj
  rw [show xs.getD j mo0 = xs[j] by unfold List.getD; rw [List.getElem?_eq_getElem hj]; rfl] at this
  exact this.2
theorem not_mem_of {es : List Mo} {s : ByteArray} {j : Nat} (hj : j = es.length) (h : ∀ i, i < j → (es.getD i mo0).1 ≠ s) : s ∉ es.map (·.1) := by
  intro hm
  obtain ⟨m, hm, e⟩ := List.mem_map.1 hm
  obtain ⟨i, hi, rfl⟩ := List.getElem_of_mem hm
  refine h i (by omega) ?_
  rw [show es.getD i mo0 = es[i] by unfold List.getD; rw [List.getElem?_eq_getElem hi]; rfl]
  exact e
theorem co_first {s : ByteArray} : ∀ {es : List Mo} {j : Nat}, j < es.length → (∀ i, i < j → (es.getD i mo0).1 ≠ s) → (es.getD j mo0).1 = s → (es.getD j mo0).2 = co es s
  | [], j, hj, _, _ => by simp at hj
  | x :: r, 0, _, _, he => by
    have he' : x.1 = s := he
    rw [co_cons, if_pos he']
    rfl
  | x :: r, j + 1, hj, h, he => by
    have h0 : x.1 ≠ s := h 0 (by omega)
    rw [co_cons, if_neg h0]
    exact co_first (es := r) (by simpa using hj) (fun i hi => h (i + 1) (by omega)) he
def evS (es : List Mo) : List Mo → Int
  | [] => 0
  | m :: r => m.2 * co es m.1 + evS es r
theorem evS_app (es l r : List Mo) : evS es (l ++ r) = evS es l + evS es r := by
  induction l with
  | nil => simp [evS]
  | cons m l ih => rw [List.cons_append, evS, evS, ih]; omega
/-- The value of a form, or the error. -/
def EV (k : Int) (xs es : List Mo) (x e : Int) : Prop :=
  (okL xs = false ∧ x = 0 ∧ e = 1) ∨ (okL xs = true ∧ (∃ m ∈ xs, m.1 ∉ es.map (·.1)) ∧ x = 0 ∧ e = 9) ∨
  (okL xs = true ∧ (∀ m ∈ xs, m.1 ∈ es.map (·.1)) ∧ fit64 (k + evS es xs) = true ∧ x = k + evS es xs ∧ e = 0) ∨ (okL xs = true ∧ (∀ m ∈ xs, m.1 ∈ es.map (·.1)) ∧ fit64 (k + evS es xs) = false ∧ x = 0 ∧ e = 3)
def EW (k : Int) (xs es : List Mo) (w : World) (e : Ending) (w' : World) : Prop := ∃ x er, e = .returned (.tuple #[.int .i64 x, .int .i64 er]) ∧ EV k xs es x er ∧ Below w.heap.size w w'
def dval (d0 d1 d2 d3 d4 d5 : Int) : Int := d0 + d1 * 4294967296 + d2 * 18446744073709551616 + d3 * 79228162514264337593543950336 + d4 * 340282366920938463463374607431768211456 + d5 * 1461501637330902918203684832716283019655932542976
def DW (V : Int) (w : World) (e : Ending) (w' : World) : Prop := ∃ d0 d1 d2 d3 d4 d5 : Int, e = .returned (.agg #[.int .u64 d0, .int .u64 d1, .int .u64 d2, .int .u64 d3, .int .u64 d4, .int .u64 d5]) ∧ ((0 ≤ d0 ∧ d0 < 4294967296) ∧ (0 ≤ d1 ∧ d1 < 4294967296) ∧ (0 ≤ d2 ∧ d2 < 4294967296) ∧ (0 ≤ d3 ∧ d3 < 4294967296) ∧ (0 ≤ d4 ∧ d4 < 4294967296) ∧ (0 ≤ d5 ∧ d5 < 4294967296)) ∧ dval d0 d1 d2 d3 d4 d5 = V ∧ Below w.heap.size w w'
set_option maxRecDepth 100000 in
set_option maxHeartbeats 16000000 in
theorem digit0 (d0 d1 d2 d3 d4 d5 n : Int) (w : World) (hd : (0 ≤ d0 ∧ d0 < 4294967296) ∧ (0 ≤ d1 ∧ d1 < 4294967296) ∧ (0 ≤ d2 ∧ d2 < 4294967296) ∧ (0 ≤ d3 ∧ d3 < 4294967296) ∧ (0 ≤ d4 ∧ d4 < 4294967296) ∧ (0 ≤ d5 ∧ d5 < 4294967296)) (hn : (0 ≤ n ∧ n < 18446744073709551616)) (hv : dval d0 d1 d2 d3 d4 d5 + n * 1 < 6277101735386680763835789423207666416102355444464034512896) :
    Calls Try.prog 89 #[.agg #[.int .u64 d0, .int .u64 d1, .int .u64 d2, .int .u64 d3, .int .u64 d4, .int .u64 d5], .int .i64 0, .int .u64 n] w (DW (dval d0 d1 d2 d3 d4 d5 + n * 1) w) := by
  obtain ⟨⟨l0, h0⟩, ⟨l1, h1⟩, ⟨l2, h2⟩, ⟨l3, h3⟩, ⟨l4, h4⟩, ⟨l5, h5⟩⟩ := hd
  obtain ⟨n0, n1⟩ := hn
  obtain ⟨N0, hN0⟩ : ∃ N, N = n := ⟨_, rfl⟩
  obtain ⟨c0, hc0⟩ : ∃ c : Int, c = 0 := ⟨_, rfl⟩
  obtain ⟨q0, hq0⟩ : ∃ q, N0 % 4294967296 = q := ⟨_, rfl⟩
  obtain ⟨u0, hu0⟩ : ∃ u, d0 + q0 = u := ⟨_, rfl⟩
  obtain ⟨s0, hs0⟩ : ∃ s, u0 + c0 = s := ⟨_, rfl⟩
  obtain ⟨r0, hr0⟩ : ∃ r, s0 % 4294967296 = r := ⟨_, rfl⟩
  obtain ⟨c1, hc1⟩ : ∃ c, s0 / 4294967296 = c := ⟨_, rfl⟩
  obtain ⟨N1, hN1⟩ : ∃ N, N0 / 4294967296 = N := ⟨_, rfl⟩
  have bq0 : 0 ≤ q0 ∧ q0 < 4294967296 := by omega
  have bN0 : 0 ≤ N0 ∧ N0 < 18446744073709551616 := by omega
  have bc0 : 0 ≤ c0 ∧ c0 ≤ 1 := by omega
  have bs0 : 0 ≤ s0 ∧ s0 ≤ 8589934591 := by omega
  have br0 : 0 ≤ r0 ∧ r0 < 4294967296 := by omega
  have T0 : r0 * 1 + (c1 + N1) * 4294967296 = (d0 + c0 + N0) * 1 := by omega
  obtain ⟨q1, hq1⟩ : ∃ q, N1 % 4294967296 = q := ⟨_, rfl⟩
  obtain ⟨u1, hu1⟩ : ∃ u, d1 + q1 = u := ⟨_, rfl⟩
  obtain ⟨s1, hs1⟩ : ∃ s, u1 + c1 = s := ⟨_, rfl⟩
  obtain ⟨r1, hr1⟩ : ∃ r, s1 % 4294967296 = r := ⟨_, rfl⟩
  obtain ⟨c2, hc2⟩ : ∃ c, s1 / 4294967296 = c := ⟨_, rfl⟩
  obtain ⟨N2, hN2⟩ : ∃ N, N1 / 4294967296 = N := ⟨_, rfl⟩
  have bq1 : 0 ≤ q1 ∧ q1 < 4294967296 := by omega
  have bN1 : 0 ≤ N1 ∧ N1 < 18446744073709551616 := by omega
  have bc1 : 0 ≤ c1 ∧ c1 ≤ 1 := by omega
  have bs1 : 0 ≤ s1 ∧ s1 ≤ 8589934591 := by omega
  have br1 : 0 ≤ r1 ∧ r1 < 4294967296 := by omega
  have T1 : r1 * 4294967296 + (c2 + N2) * 18446744073709551616 = (d1 + c1 + N1) * 4294967296 := by omega
  obtain ⟨q2, hq2⟩ : ∃ q, N2 % 4294967296 = q := ⟨_, rfl⟩
  obtain ⟨u2, hu2⟩ : ∃ u, d2 + q2 = u := ⟨_, rfl⟩
  obtain ⟨s2, hs2⟩ : ∃ s, u2 + c2 = s := ⟨_, rfl⟩
  obtain ⟨r2, hr2⟩ : ∃ r, s2 % 4294967296 = r := ⟨_, rfl⟩
  obtain ⟨c3, hc3⟩ : ∃ c, s2 / 4294967296 = c := ⟨_, rfl⟩
  obtain ⟨N3, hN3⟩ : ∃ N, N2 / 4294967296 = N := ⟨_, rfl⟩
  have bq2 : 0 ≤ q2 ∧ q2 < 4294967296 := by omega
  have bN2 : 0 ≤ N2 ∧ N2 < 18446744073709551616 := by omega
  have bc2 : 0 ≤ c2 ∧ c2 ≤ 1 := by omega
  have bs2 : 0 ≤ s2 ∧ s2 ≤ 8589934591 := by omega
  have br2 : 0 ≤ r2 ∧ r2 < 4294967296 := by omega
  have T2 : r2 * 18446744073709551616 + (c3 + N3) * 79228162514264337593543950336 = (d2 + c2 + N2) * 18446744073709551616 := by omega
  obtain ⟨q3, hq3⟩ : ∃ q, N3 % 4294967296 = q := ⟨_, rfl⟩
  obtain ⟨u3, hu3⟩ : ∃ u, d3 + q3 = u := ⟨_, rfl⟩
  obtain ⟨s3, hs3⟩ : ∃ s, u3 + c3 = s := ⟨_, rfl⟩
  obtain ⟨r3, hr3⟩ : ∃ r, s3 % 4294967296 = r := ⟨_, rfl⟩
  obtain ⟨c4, hc4⟩ : ∃ c, s3 / 4294967296 = c := ⟨_, rfl⟩
  obtain ⟨N4, hN4⟩ : ∃ N, N3 / 4294967296 = N := ⟨_, rfl⟩
  have bq3 : 0 ≤ q3 ∧ q3 < 4294967296 := by omega
  have bN3 : 0 ≤ N3 ∧ N3 < 18446744073709551616 := by omega
  have bc3 : 0 ≤ c3 ∧ c3 ≤ 1 := by omega
  have bs3 : 0 ≤ s3 ∧ s3 ≤ 8589934591 := by omega
  have br3 : 0 ≤ r3 ∧ r3 < 4294967296 := by omega
  have T3 : r3 * 79228162514264337593543950336 + (c4 + N4) * 340282366920938463463374607431768211456 = (d3 + c3 + N3) * 79228162514264337593543950336 := by omega
  obtain ⟨q4, hq4⟩ : ∃ q, N4 % 4294967296 = q := ⟨_, rfl⟩
  obtain ⟨u4, hu4⟩ : ∃ u, d4 + q4 = u := ⟨_, rfl⟩
  obtain ⟨s4, hs4⟩ : ∃ s, u4 + c4 = s := ⟨_, rfl⟩
  obtain ⟨r4, hr4⟩ : ∃ r, s4 % 4294967296 = r := ⟨_, rfl⟩
  obtain ⟨c5, hc5⟩ : ∃ c, s4 / 4294967296 = c := ⟨_, rfl⟩
  obtain ⟨N5, hN5⟩ : ∃ N, N4 / 4294967296 = N := ⟨_, rfl⟩
  have bq4 : 0 ≤ q4 ∧ q4 < 4294967296 := by omega
  have bN4 : 0 ≤ N4 ∧ N4 < 18446744073709551616 := by omega
  have bc4 : 0 ≤ c4 ∧ c4 ≤ 1 := by omega
  have bs4 : 0 ≤ s4 ∧ s4 ≤ 8589934591 := by omega
  have br4 : 0 ≤ r4 ∧ r4 < 4294967296 := by omega
  have T4 : r4 * 340282366920938463463374607431768211456 + (c5 + N5) * 1461501637330902918203684832716283019655932542976 = (d4 + c4 + N4) * 340282366920938463463374607431768211456 := by omega
  obtain ⟨q5, hq5⟩ : ∃ q, N5 % 4294967296 = q := ⟨_, rfl⟩
  obtain ⟨u5, hu5⟩ : ∃ u, d5 + q5 = u := ⟨_, rfl⟩
  obtain ⟨s5, hs5⟩ : ∃ s, u5 + c5 = s := ⟨_, rfl⟩
  obtain ⟨r5, hr5⟩ : ∃ r, s5 % 4294967296 = r := ⟨_, rfl⟩
  obtain ⟨c6, hc6⟩ : ∃ c, s5 / 4294967296 = c := ⟨_, rfl⟩
  obtain ⟨N6, hN6⟩ : ∃ N, N5 / 4294967296 = N := ⟨_, rfl⟩
  have bq5 : 0 ≤ q5 ∧ q5 < 4294967296 := by omega
  have bN5 : 0 ≤ N5 ∧ N5 < 18446744073709551616 := by omega
  have bc5 : 0 ≤ c5 ∧ c5 ≤ 1 := by omega
  have bs5 : 0 ≤ s5 ∧ s5 ≤ 8589934591 := by omega
  have br5 : 0 ≤ r5 ∧ r5 < 4294967296 := by omega
  have T5 : r5 * 1461501637330902918203684832716283019655932542976 + (c6 + N6) * 6277101735386680763835789423207666416102355444464034512896 = (d5 + c5 + N5) * 1461501637330902918203684832716283019655932542976 := by omega
  have HT : Hid (dval r0 r1 r2 r3 r4 r5 + (c6 + N6) * 6277101735386680763835789423207666416102355444464034512896 = dval d0 d1 d2 d3 d4 d5 + n * 1) := Lib.hid (by unfold dval; omega)
  have bc6 : 0 ≤ c6 := by omega
  have bN6 : 0 ≤ N6 := by omega
  have HB : Hid ((0 ≤ r0 ∧ r0 < 4294967296) ∧ (0 ≤ r1 ∧ r1 < 4294967296) ∧ (0 ≤ r2 ∧ r2 < 4294967296) ∧ (0 ≤ r3 ∧ r3 < 4294967296) ∧ (0 ≤ r4 ∧ r4 < 4294967296) ∧ (0 ≤ r5 ∧ r5 < 4294967296)) := Lib.hid ⟨br0, br1, br2, br3, br4, br5⟩
  have HE : Hid (dval r0 r1 r2 r3 r4 r5 = dval d0 d1 d2 d3 d4 d5 + n * 1) := Lib.hid (by
    have h := HT.out
    have hp : 0 ≤ dval r0 r1 r2 r3 r4 r5 := by unfold dval; omega
    generalize dval r0 r1 r2 r3 r4 r5 = x at *
    generalize dval d0 d1 d2 d3 d4 d5 = y at *
    clear T0 T1 T2 T3 T4 T5
    omega)
  clear T0 T1 T2 T3 T4 T5 HT hv
  subst hN0 hc0
  obtain ⟨xq0, yq0⟩ := bq0
  obtain ⟨xN0, yN0⟩ := bN0
  obtain ⟨xs0, ys0⟩ := bs0
  have wu0 : IntKind.u64.wrap (d0 + q0) = u0 := by rw [hu0, u64w]; omega
  have ws0 : IntKind.u64.wrap (u0 + 0) = s0 := by rw [hs0, u64w]; omega
  obtain ⟨xq1, yq1⟩ := bq1
  obtain ⟨xN1, yN1⟩ := bN1
  obtain ⟨xs1, ys1⟩ := bs1
  have wu1 : IntKind.u64.wrap (d1 + q1) = u1 := by rw [hu1, u64w]; omega
  have ws1 : IntKind.u64.wrap (u1 + c1) = s1 := by rw [hs1, u64w]; omega
  obtain ⟨xq2, yq2⟩ := bq2
  obtain ⟨xN2, yN2⟩ := bN2
  obtain ⟨xs2, ys2⟩ := bs2
  have wu2 : IntKind.u64.wrap (d2 + q2) = u2 := by rw [hu2, u64w]; omega
  have ws2 : IntKind.u64.wrap (u2 + c2) = s2 := by rw [hs2, u64w]; omega
  obtain ⟨xq3, yq3⟩ := bq3
  obtain ⟨xN3, yN3⟩ := bN3
  obtain ⟨xs3, ys3⟩ := bs3
  have wu3 : IntKind.u64.wrap (d3 + q3) = u3 := by rw [hu3, u64w]; omega
  have ws3 : IntKind.u64.wrap (u3 + c3) = s3 := by rw [hs3, u64w]; omega
  obtain ⟨xq4, yq4⟩ := bq4
  obtain ⟨xN4, yN4⟩ := bN4
  obtain ⟨xs4, ys4⟩ := bs4
  have wu4 : IntKind.u64.wrap (d4 + q4) = u4 := by rw [hu4, u64w]; omega
  have ws4 : IntKind.u64.wrap (u4 + c4) = s4 := by rw [hs4, u64w]; omega
  obtain ⟨xq5, yq5⟩ := bq5
  obtain ⟨xN5, yN5⟩ := bN5
  obtain ⟨xs5, ys5⟩ := bs5
  have wu5 : IntKind.u64.wrap (d5 + q5) = u5 := by rw [hu5, u64w]; omega
  have ws5 : IntKind.u64.wrap (u5 + c5) = s5 := by rw [hs5, u64w]; omega
  go_enter Try.func89, Try.ntmps89
  go_wp2
  refine wp_loop_rounds 7 ?_
  rw [rounds_succ]
  go_wp2
  rw [rounds_succ]
  go_wp2
  rw [rounds_succ]
  go_wp2
  rw [rounds_succ]
  go_wp2
  rw [rounds_succ]
  go_wp2
  rw [rounds_succ]
  go_wp2
  rw [rounds_succ]
  go_wp2
  exact bodyPost_ret (v := .agg #[.int .u64 r0, .int .u64 r1, .int .u64 r2, .int .u64 r3, .int .u64 r4, .int .u64 r5]) (by simp [results, Try.results89, go_sem]) rfl ⟨r0, r1, r2, r3, r4, r5, rfl, HB.out, HE.out, ((Below.refl _ _).alloc (Nat.le_refl _) _).alloc (by simp) _⟩
set_option maxRecDepth 100000 in
set_option maxHeartbeats 16000000 in
theorem digit1 (d0 d1 d2 d3 d4 d5 n : Int) (w : World) (hd : (0 ≤ d0 ∧ d0 < 4294967296) ∧ (0 ≤ d1 ∧ d1 < 4294967296) ∧ (0 ≤ d2 ∧ d2 < 4294967296) ∧ (0 ≤ d3 ∧ d3 < 4294967296) ∧ (0 ≤ d4 ∧ d4 < 4294967296) ∧ (0 ≤ d5 ∧ d5 < 4294967296)) (hn : (0 ≤ n ∧ n < 18446744073709551616)) (hv : dval d0 d1 d2 d3 d4 d5 + n * 4294967296 < 6277101735386680763835789423207666416102355444464034512896) :
    Calls Try.prog 89 #[.agg #[.int .u64 d0, .int .u64 d1, .int .u64 d2, .int .u64 d3, .int .u64 d4, .int .u64 d5], .int .i64 1, .int .u64 n] w (DW (dval d0 d1 d2 d3 d4 d5 + n * 4294967296) w) := by
  obtain ⟨⟨l0, h0⟩, ⟨l1, h1⟩, ⟨l2, h2⟩, ⟨l3, h3⟩, ⟨l4, h4⟩, ⟨l5, h5⟩⟩ := hd
  obtain ⟨n0, n1⟩ := hn
  obtain ⟨N1, hN1⟩ : ∃ N, N = n := ⟨_, rfl⟩
  obtain ⟨c1, hc1⟩ : ∃ c : Int, c = 0 := ⟨_, rfl⟩
  obtain ⟨q1, hq1⟩ : ∃ q, N1 % 4294967296 = q := ⟨_, rfl⟩
  obtain ⟨u1, hu1⟩ : ∃ u, d1 + q1 = u := ⟨_, rfl⟩
  obtain ⟨s1, hs1⟩ : ∃ s, u1 + c1 = s := ⟨_, rfl⟩
  obtain ⟨r1, hr1⟩ : ∃ r, s1 % 4294967296 = r := ⟨_, rfl⟩
  obtain ⟨c2, hc2⟩ : ∃ c, s1 / 4294967296 = c := ⟨_, rfl⟩
  obtain ⟨N2, hN2⟩ : ∃ N, N1 / 4294967296 = N := ⟨_, rfl⟩
  have bq1 : 0 ≤ q1 ∧ q1 < 4294967296 := by omega
  have bN1 : 0 ≤ N1 ∧ N1 < 18446744073709551616 := by omega
  have bc1 : 0 ≤ c1 ∧ c1 ≤ 1 := by omega
  have bs1 : 0 ≤ s1 ∧ s1 ≤ 8589934591 := by omega
  have br1 : 0 ≤ r1 ∧ r1 < 4294967296 := by omega
  have T1 : r1 * 4294967296 + (c2 + N2) * 18446744073709551616 = (d1 + c1 + N1) * 4294967296 := by omega
  obtain ⟨q2, hq2⟩ : ∃ q, N2 % 4294967296 = q := ⟨_, rfl⟩
  obtain ⟨u2, hu2⟩ : ∃ u, d2 + q2 = u := ⟨_, rfl⟩
  obtain ⟨s2, hs2⟩ : ∃ s, u2 + c2 = s := ⟨_, rfl⟩
  obtain ⟨r2, hr2⟩ : ∃ r, s2 % 4294967296 = r := ⟨_, rfl⟩
  obtain ⟨c3, hc3⟩ : ∃ c, s2 / 4294967296 = c := ⟨_, rfl⟩
  obtain ⟨N3, hN3⟩ : ∃ N, N2 / 4294967296 = N := ⟨_, rfl⟩
  have bq2 : 0 ≤ q2 ∧ q2 < 4294967296 := by omega
  have bN2 : 0 ≤ N2 ∧ N2 < 18446744073709551616 := by omega
  have bc2 : 0 ≤ c2 ∧ c2 ≤ 1 := by omega
  have bs2 : 0 ≤ s2 ∧ s2 ≤ 8589934591 := by omega
  have br2 : 0 ≤ r2 ∧ r2 < 4294967296 := by omega
  have T2 : r2 * 18446744073709551616 + (c3 + N3) * 79228162514264337593543950336 = (d2 + c2 + N2) * 18446744073709551616 := by omega
  obtain ⟨q3, hq3⟩ : ∃ q, N3 % 4294967296 = q := ⟨_, rfl⟩
  obtain ⟨u3, hu3⟩ : ∃ u, d3 + q3 = u := ⟨_, rfl⟩
  obtain ⟨s3, hs3⟩ : ∃ s, u3 + c3 = s := ⟨_, rfl⟩
  obtain ⟨r3, hr3⟩ : ∃ r, s3 % 4294967296 = r := ⟨_, rfl⟩
  obtain ⟨c4, hc4⟩ : ∃ c, s3 / 4294967296 = c := ⟨_, rfl⟩
  obtain ⟨N4, hN4⟩ : ∃ N, N3 / 4294967296 = N := ⟨_, rfl⟩
  have bq3 : 0 ≤ q3 ∧ q3 < 4294967296 := by omega
  have bN3 : 0 ≤ N3 ∧ N3 < 18446744073709551616 := by omega
  have bc3 : 0 ≤ c3 ∧ c3 ≤ 1 := by omega
  have bs3 : 0 ≤ s3 ∧ s3 ≤ 8589934591 := by omega
  have br3 : 0 ≤ r3 ∧ r3 < 4294967296 := by omega
  have T3 : r3 * 79228162514264337593543950336 + (c4 + N4) * 340282366920938463463374607431768211456 = (d3 + c3 + N3) * 79228162514264337593543950336 := by omega
  obtain ⟨q4, hq4⟩ : ∃ q, N4 % 4294967296 = q := ⟨_, rfl⟩
  obtain ⟨u4, hu4⟩ : ∃ u, d4 + q4 = u := ⟨_, rfl⟩
  obtain ⟨s4, hs4⟩ : ∃ s, u4 + c4 = s := ⟨_, rfl⟩
  obtain ⟨r4, hr4⟩ : ∃ r, s4 % 4294967296 = r := ⟨_, rfl⟩
  obtain ⟨c5, hc5⟩ : ∃ c, s4 / 4294967296 = c := ⟨_, rfl⟩
  obtain ⟨N5, hN5⟩ : ∃ N, N4 / 4294967296 = N := ⟨_, rfl⟩
  have bq4 : 0 ≤ q4 ∧ q4 < 4294967296 := by omega
  have bN4 : 0 ≤ N4 ∧ N4 < 18446744073709551616 := by omega
  have bc4 : 0 ≤ c4 ∧ c4 ≤ 1 := by omega
  have bs4 : 0 ≤ s4 ∧ s4 ≤ 8589934591 := by omega
  have br4 : 0 ≤ r4 ∧ r4 < 4294967296 := by omega
  have T4 : r4 * 340282366920938463463374607431768211456 + (c5 + N5) * 1461501637330902918203684832716283019655932542976 = (d4 + c4 + N4) * 340282366920938463463374607431768211456 := by omega
  obtain ⟨q5, hq5⟩ : ∃ q, N5 % 4294967296 = q := ⟨_, rfl⟩
  obtain ⟨u5, hu5⟩ : ∃ u, d5 + q5 = u := ⟨_, rfl⟩
  obtain ⟨s5, hs5⟩ : ∃ s, u5 + c5 = s := ⟨_, rfl⟩
  obtain ⟨r5, hr5⟩ : ∃ r, s5 % 4294967296 = r := ⟨_, rfl⟩
  obtain ⟨c6, hc6⟩ : ∃ c, s5 / 4294967296 = c := ⟨_, rfl⟩
  obtain ⟨N6, hN6⟩ : ∃ N, N5 / 4294967296 = N := ⟨_, rfl⟩
  have bq5 : 0 ≤ q5 ∧ q5 < 4294967296 := by omega
  have bN5 : 0 ≤ N5 ∧ N5 < 18446744073709551616 := by omega
  have bc5 : 0 ≤ c5 ∧ c5 ≤ 1 := by omega
  have bs5 : 0 ≤ s5 ∧ s5 ≤ 8589934591 := by omega
  have br5 : 0 ≤ r5 ∧ r5 < 4294967296 := by omega
  have T5 : r5 * 1461501637330902918203684832716283019655932542976 + (c6 + N6) * 6277101735386680763835789423207666416102355444464034512896 = (d5 + c5 + N5) * 1461501637330902918203684832716283019655932542976 := by omega
  have HT : Hid (dval d0 r1 r2 r3 r4 r5 + (c6 + N6) * 6277101735386680763835789423207666416102355444464034512896 = dval d0 d1 d2 d3 d4 d5 + n * 4294967296) := Lib.hid (by unfold dval; omega)
  have bc6 : 0 ≤ c6 := by omega
  have bN6 : 0 ≤ N6 := by omega
  have HB : Hid ((0 ≤ d0 ∧ d0 < 4294967296) ∧ (0 ≤ r1 ∧ r1 < 4294967296) ∧ (0 ≤ r2 ∧ r2 < 4294967296) ∧ (0 ≤ r3 ∧ r3 < 4294967296) ∧ (0 ≤ r4 ∧ r4 < 4294967296) ∧ (0 ≤ r5 ∧ r5 < 4294967296)) := Lib.hid ⟨⟨l0, h0⟩, br1, br2, br3, br4, br5⟩
  have HE : Hid (dval d0 r1 r2 r3 r4 r5 = dval d0 d1 d2 d3 d4 d5 + n * 4294967296) := Lib.hid (by
    have h := HT.out
    have hp : 0 ≤ dval d0 r1 r2 r3 r4 r5 := by unfold dval; omega
    generalize dval d0 r1 r2 r3 r4 r5 = x at *
    generalize dval d0 d1 d2 d3 d4 d5 = y at *
    clear T1 T2 T3 T4 T5
    omega)
  clear T1 T2 T3 T4 T5 HT hv
  subst hN1 hc1
  obtain ⟨xq1, yq1⟩ := bq1
  obtain ⟨xN1, yN1⟩ := bN1
  obtain ⟨xs1, ys1⟩ := bs1
  have wu1 : IntKind.u64.wrap (d1 + q1) = u1 := by rw [hu1, u64w]; omega
  have ws1 : IntKind.u64.wrap (u1 + 0) = s1 := by rw [hs1, u64w]; omega
  obtain ⟨xq2, yq2⟩ := bq2
  obtain ⟨xN2, yN2⟩ := bN2
  obtain ⟨xs2, ys2⟩ := bs2
  have wu2 : IntKind.u64.wrap (d2 + q2) = u2 := by rw [hu2, u64w]; omega
  have ws2 : IntKind.u64.wrap (u2 + c2) = s2 := by rw [hs2, u64w]; omega
  obtain ⟨xq3, yq3⟩ := bq3
  obtain ⟨xN3, yN3⟩ := bN3
  obtain ⟨xs3, ys3⟩ := bs3
  have wu3 : IntKind.u64.wrap (d3 + q3) = u3 := by rw [hu3, u64w]; omega
  have ws3 : IntKind.u64.wrap (u3 + c3) = s3 := by rw [hs3, u64w]; omega
  obtain ⟨xq4, yq4⟩ := bq4
  obtain ⟨xN4, yN4⟩ := bN4
  obtain ⟨xs4, ys4⟩ := bs4
  have wu4 : IntKind.u64.wrap (d4 + q4) = u4 := by rw [hu4, u64w]; omega
  have ws4 : IntKind.u64.wrap (u4 + c4) = s4 := by rw [hs4, u64w]; omega
  obtain ⟨xq5, yq5⟩ := bq5
  obtain ⟨xN5, yN5⟩ := bN5
  obtain ⟨xs5, ys5⟩ := bs5
  have wu5 : IntKind.u64.wrap (d5 + q5) = u5 := by rw [hu5, u64w]; omega
  have ws5 : IntKind.u64.wrap (u5 + c5) = s5 := by rw [hs5, u64w]; omega
  go_enter Try.func89, Try.ntmps89
  go_wp2
  refine wp_loop_rounds 6 ?_
  rw [rounds_succ]
  go_wp2
  rw [rounds_succ]
  go_wp2
  rw [rounds_succ]
  go_wp2
  rw [rounds_succ]
  go_wp2
  rw [rounds_succ]
  go_wp2
  rw [rounds_succ]
  go_wp2
  exact bodyPost_ret (v := .agg #[.int .u64 d0, .int .u64 r1, .int .u64 r2, .int .u64 r3, .int .u64 r4, .int .u64 r5]) (by simp [results, Try.results89, go_sem]) rfl ⟨d0, r1, r2, r3, r4, r5, rfl, HB.out, HE.out, ((Below.refl _ _).alloc (Nat.le_refl _) _).alloc (by simp) _⟩
set_option maxRecDepth 100000 in
set_option maxHeartbeats 16000000 in
theorem digit2 (d0 d1 d2 d3 d4 d5 n : Int) (w : World) (hd : (0 ≤ d0 ∧ d0 < 4294967296) ∧ (0 ≤ d1 ∧ d1 < 4294967296) ∧ (0 ≤ d2 ∧ d2 < 4294967296) ∧ (0 ≤ d3 ∧ d3 < 4294967296) ∧ (0 ≤ d4 ∧ d4 < 4294967296) ∧ (0 ≤ d5 ∧ d5 < 4294967296)) (hn : (0 ≤ n ∧ n < 18446744073709551616)) (hv : dval d0 d1 d2 d3 d4 d5 + n * 18446744073709551616 < 6277101735386680763835789423207666416102355444464034512896) :
    Calls Try.prog 89 #[.agg #[.int .u64 d0, .int .u64 d1, .int .u64 d2, .int .u64 d3, .int .u64 d4, .int .u64 d5], .int .i64 2, .int .u64 n] w (DW (dval d0 d1 d2 d3 d4 d5 + n * 18446744073709551616) w) := by
  obtain ⟨⟨l0, h0⟩, ⟨l1, h1⟩, ⟨l2, h2⟩, ⟨l3, h3⟩, ⟨l4, h4⟩, ⟨l5, h5⟩⟩ := hd
  obtain ⟨n0, n1⟩ := hn
  obtain ⟨N2, hN2⟩ : ∃ N, N = n := ⟨_, rfl⟩
  obtain ⟨c2, hc2⟩ : ∃ c : Int, c = 0 := ⟨_, rfl⟩
  obtain ⟨q2, hq2⟩ : ∃ q, N2 % 4294967296 = q := ⟨_, rfl⟩
  obtain ⟨u2, hu2⟩ : ∃ u, d2 + q2 = u := ⟨_, rfl⟩
  obtain ⟨s2, hs2⟩ : ∃ s, u2 + c2 = s := ⟨_, rfl⟩
  obtain ⟨r2, hr2⟩ : ∃ r, s2 % 4294967296 = r := ⟨_, rfl⟩
  obtain ⟨c3, hc3⟩ : ∃ c, s2 / 4294967296 = c := ⟨_, rfl⟩
  obtain ⟨N3, hN3⟩ : ∃ N, N2 / 4294967296 = N := ⟨_, rfl⟩
  have bq2 : 0 ≤ q2 ∧ q2 < 4294967296 := by omega
  have bN2 : 0 ≤ N2 ∧ N2 < 18446744073709551616 := by omega
  have bc2 : 0 ≤ c2 ∧ c2 ≤ 1 := by omega
  have bs2 : 0 ≤ s2 ∧ s2 ≤ 8589934591 := by omega
  have br2 : 0 ≤ r2 ∧ r2 < 4294967296 := by omega
  have T2 : r2 * 18446744073709551616 + (c3 + N3) * 79228162514264337593543950336 = (d2 + c2 + N2) * 18446744073709551616 := by omega
  obtain ⟨q3, hq3⟩ : ∃ q, N3 % 4294967296 = q := ⟨_, rfl⟩
  obtain ⟨u3, hu3⟩ : ∃ u, d3 + q3 = u := ⟨_, rfl⟩
  obtain ⟨s3, hs3⟩ : ∃ s, u3 + c3 = s := ⟨_, rfl⟩
  obtain ⟨r3, hr3⟩ : ∃ r, s3 % 4294967296 = r := ⟨_, rfl⟩
  obtain ⟨c4, hc4⟩ : ∃ c, s3 / 4294967296 = c := ⟨_, rfl⟩
  obtain ⟨N4, hN4⟩ : ∃ N, N3 / 4294967296 = N := ⟨_, rfl⟩
  have bq3 : 0 ≤ q3 ∧ q3 < 4294967296 := by omega
  have bN3 : 0 ≤ N3 ∧ N3 < 18446744073709551616 := by omega
  have bc3 : 0 ≤ c3 ∧ c3 ≤ 1 := by omega
  have bs3 : 0 ≤ s3 ∧ s3 ≤ 8589934591 := by omega
  have br3 : 0 ≤ r3 ∧ r3 < 4294967296 := by omega
  have T3 : r3 * 79228162514264337593543950336 + (c4 + N4) * 340282366920938463463374607431768211456 = (d3 + c3 + N3) * 79228162514264337593543950336 := by omega
  obtain ⟨q4, hq4⟩ : ∃ q, N4 % 4294967296 = q := ⟨_, rfl⟩
  obtain ⟨u4, hu4⟩ : ∃ u, d4 + q4 = u := ⟨_, rfl⟩
  obtain ⟨s4, hs4⟩ : ∃ s, u4 + c4 = s := ⟨_, rfl⟩
  obtain ⟨r4, hr4⟩ : ∃ r, s4 % 4294967296 = r := ⟨_, rfl⟩
  obtain ⟨c5, hc5⟩ : ∃ c, s4 / 4294967296 = c := ⟨_, rfl⟩
  obtain ⟨N5, hN5⟩ : ∃ N, N4 / 4294967296 = N := ⟨_, rfl⟩
  have bq4 : 0 ≤ q4 ∧ q4 < 4294967296 := by omega
  have bN4 : 0 ≤ N4 ∧ N4 < 18446744073709551616 := by omega
  have bc4 : 0 ≤ c4 ∧ c4 ≤ 1 := by omega
  have bs4 : 0 ≤ s4 ∧ s4 ≤ 8589934591 := by omega
  have br4 : 0 ≤ r4 ∧ r4 < 4294967296 := by omega
  have T4 : r4 * 340282366920938463463374607431768211456 + (c5 + N5) * 1461501637330902918203684832716283019655932542976 = (d4 + c4 + N4) * 340282366920938463463374607431768211456 := by omega
  obtain ⟨q5, hq5⟩ : ∃ q, N5 % 4294967296 = q := ⟨_, rfl⟩
  obtain ⟨u5, hu5⟩ : ∃ u, d5 + q5 = u := ⟨_, rfl⟩
  obtain ⟨s5, hs5⟩ : ∃ s, u5 + c5 = s := ⟨_, rfl⟩
  obtain ⟨r5, hr5⟩ : ∃ r, s5 % 4294967296 = r := ⟨_, rfl⟩
  obtain ⟨c6, hc6⟩ : ∃ c, s5 / 4294967296 = c := ⟨_, rfl⟩
  obtain ⟨N6, hN6⟩ : ∃ N, N5 / 4294967296 = N := ⟨_, rfl⟩
  have bq5 : 0 ≤ q5 ∧ q5 < 4294967296 := by omega
  have bN5 : 0 ≤ N5 ∧ N5 < 18446744073709551616 := by omega
  have bc5 : 0 ≤ c5 ∧ c5 ≤ 1 := by omega
  have bs5 : 0 ≤ s5 ∧ s5 ≤ 8589934591 := by omega
  have br5 : 0 ≤ r5 ∧ r5 < 4294967296 := by omega
  have T5 : r5 * 1461501637330902918203684832716283019655932542976 + (c6 + N6) * 6277101735386680763835789423207666416102355444464034512896 = (d5 + c5 + N5) * 1461501637330902918203684832716283019655932542976 := by omega
  have HT : Hid (dval d0 d1 r2 r3 r4 r5 + (c6 + N6) * 6277101735386680763835789423207666416102355444464034512896 = dval d0 d1 d2 d3 d4 d5 + n * 18446744073709551616) := Lib.hid (by unfold dval; omega)
  have bc6 : 0 ≤ c6 := by omega
  have bN6 : 0 ≤ N6 := by omega
  have HB : Hid ((0 ≤ d0 ∧ d0 < 4294967296) ∧ (0 ≤ d1 ∧ d1 < 4294967296) ∧ (0 ≤ r2 ∧ r2 < 4294967296) ∧ (0 ≤ r3 ∧ r3 < 4294967296) ∧ (0 ≤ r4 ∧ r4 < 4294967296) ∧ (0 ≤ r5 ∧ r5 < 4294967296)) := Lib.hid ⟨⟨l0, h0⟩, ⟨l1, h1⟩, br2, br3, br4, br5⟩
  have HE : Hid (dval d0 d1 r2 r3 r4 r5 = dval d0 d1 d2 d3 d4 d5 + n * 18446744073709551616) := Lib.hid (by
    have h := HT.out
    have hp : 0 ≤ dval d0 d1 r2 r3 r4 r5 := by unfold dval; omega
    generalize dval d0 d1 r2 r3 r4 r5 = x at *
    generalize dval d0 d1 d2 d3 d4 d5 = y at *
    clear T2 T3 T4 T5
    omega)
  clear T2 T3 T4 T5 HT hv
  subst hN2 hc2
  obtain ⟨xq2, yq2⟩ := bq2
  obtain ⟨xN2, yN2⟩ := bN2
  obtain ⟨xs2, ys2⟩ := bs2
  have wu2 : IntKind.u64.wrap (d2 + q2) = u2 := by rw [hu2, u64w]; omega
  have ws2 : IntKind.u64.wrap (u2 + 0) = s2 := by rw [hs2, u64w]; omega
  obtain ⟨xq3, yq3⟩ := bq3
  obtain ⟨xN3, yN3⟩ := bN3
  obtain ⟨xs3, ys3⟩ := bs3
  have wu3 : IntKind.u64.wrap (d3 + q3) = u3 := by rw [hu3, u64w]; omega
  have ws3 : IntKind.u64.wrap (u3 + c3) = s3 := by rw [hs3, u64w]; omega
  obtain ⟨xq4, yq4⟩ := bq4
  obtain ⟨xN4, yN4⟩ := bN4
  obtain ⟨xs4, ys4⟩ := bs4
  have wu4 : IntKind.u64.wrap (d4 + q4) = u4 := by rw [hu4, u64w]; omega
  have ws4 : IntKind.u64.wrap (u4 + c4) = s4 := by rw [hs4, u64w]; omega
  obtain ⟨xq5, yq5⟩ := bq5
  obtain ⟨xN5, yN5⟩ := bN5
  obtain ⟨xs5, ys5⟩ := bs5
  have wu5 : IntKind.u64.wrap (d5 + q5) = u5 := by rw [hu5, u64w]; omega
  have ws5 : IntKind.u64.wrap (u5 + c5) = s5 := by rw [hs5, u64w]; omega
  go_enter Try.func89, Try.ntmps89
  go_wp2
  refine wp_loop_rounds 5 ?_
  rw [rounds_succ]
  go_wp2
  rw [rounds_succ]
  go_wp2
  rw [rounds_succ]
  go_wp2
  rw [rounds_succ]
  go_wp2
  rw [rounds_succ]
  go_wp2
  exact bodyPost_ret (v := .agg #[.int .u64 d0, .int .u64 d1, .int .u64 r2, .int .u64 r3, .int .u64 r4, .int .u64 r5]) (by simp [results, Try.results89, go_sem]) rfl ⟨d0, d1, r2, r3, r4, r5, rfl, HB.out, HE.out, ((Below.refl _ _).alloc (Nat.le_refl _) _).alloc (by simp) _⟩
theorem mulB {x y : Int} (hx : (0 ≤ x ∧ x < 4294967296)) (hy : (0 ≤ y ∧ y < 4294967296)) : 0 ≤ x * y ∧ x * y < 18446744073709551616 := by
  have h1 : x * y ≤ 4294967295 * y := Int.mul_le_mul_of_nonneg_right (by omega) hy.1
  have h0 : 0 ≤ x * y := Int.mul_nonneg hx.1 hy.1
  generalize x * y = P at *
  omega
theorem put6 {g : Nat} {d0 d1 d2 d3 d4 d5 e0 e1 e2 e3 e4 e5 : Int} {u : World} (h : Cl [(g, 0, .int .u64 d0), (g, 1, .int .u64 d1), (g, 2, .int .u64 d2), (g, 3, .int .u64 d3), (g, 4, .int .u64 d4), (g, 5, .int .u64 d5)] u) : Cl [(g, 0, .int .u64 e0), (g, 1, .int .u64 e1), (g, 2, .int .u64 e2), (g, 3, .int .u64 e3), (g, 4, .int .u64 e4), (g, 5, .int .u64 e5)] ((((((u.setCell ⟨g, 0, none⟩ (.int .u64 e0)).setCell ⟨g, 1, none⟩ (.int .u64 e1)).setCell ⟨g, 2, none⟩ (.int .u64 e2)).setCell ⟨g, 3, none⟩ (.int .u64 e3)).setCell ⟨g, 4, none⟩ (.int .u64 e4)).setCell ⟨g, 5, none⟩ (.int .u64 e5)) := by
  have x0 := h.head
  have zx0 := h.headF
  have x1 := h.tail.head
  have zx1 := h.tail.headF
  have x2 := h.tail.tail.head
  have zx2 := h.tail.tail.headF
  have x3 := h.tail.tail.tail.head
  have zx3 := h.tail.tail.tail.headF
  have x4 := h.tail.tail.tail.tail.head
  have zx4 := h.tail.tail.tail.tail.headF
  have x5 := h.tail.tail.tail.tail.tail.head
  have zx5 := h.tail.tail.tail.tail.tail.headF
  exact (Cl.cons (by go_cell) (by first | go_cell | simp [World.frozen?_setCell, zx0]) (Cl.cons (by go_cell) (by first | go_cell | simp [World.frozen?_setCell, zx1]) (Cl.cons (by go_cell) (by first | go_cell | simp [World.frozen?_setCell, zx2]) (Cl.cons (by go_cell) (by first | go_cell | simp [World.frozen?_setCell, zx3]) (Cl.cons (by go_cell) (by first | go_cell | simp [World.frozen?_setCell, zx4]) (Cl.cons (by go_cell) (by first | go_cell | simp [World.frozen?_setCell, zx5]) (Cl.nil _)))))))
theorem put6_far {g : Nat} {e0 e1 e2 e3 e4 e5 : Int} {u : World} {L : List (Nat × Nat × Value)} (h : Cl L u) (hL : ∀ y ∈ L, y.1 ≠ g) : Cl L ((((((u.setCell ⟨g, 0, none⟩ (.int .u64 e0)).setCell ⟨g, 1, none⟩ (.int .u64 e1)).setCell ⟨g, 2, none⟩ (.int .u64 e2)).setCell ⟨g, 3, none⟩ (.int .u64 e3)).setCell ⟨g, 4, none⟩ (.int .u64 e4)).setCell ⟨g, 5, none⟩ (.int .u64 e5)) :=
  Cl.far (Cl.far (Cl.far (Cl.far (Cl.far (Cl.far h hL) hL) hL) hL) hL) hL
theorem put6_below {g B : Nat} {e0 e1 e2 e3 e4 e5 : Int} {w u : World} (h : Below B w u) (hg : B ≤ g) : Below B w ((((((u.setCell ⟨g, 0, none⟩ (.int .u64 e0)).setCell ⟨g, 1, none⟩ (.int .u64 e1)).setCell ⟨g, 2, none⟩ (.int .u64 e2)).setCell ⟨g, 3, none⟩ (.int .u64 e3)).setCell ⟨g, 4, none⟩ (.int .u64 e4)).setCell ⟨g, 5, none⟩ (.int .u64 e5)) :=
  (((((h.setCell (p := ⟨g, 0, none⟩) hg _).setCell (p := ⟨g, 1, none⟩) hg _).setCell (p := ⟨g, 2, none⟩) hg _).setCell (p := ⟨g, 3, none⟩) hg _).setCell (p := ⟨g, 4, none⟩) hg _).setCell (p := ⟨g, 5, none⟩) hg _
/-- A number's magnitude. -/
def mag (n : Int) : Int := if n < 0 then -n else n
theorem mag_bd {n : Int} (h1 : -9223372036854775808 ≤ n) (h2 : n ≤ 9223372036854775807) : 0 ≤ mag n ∧ mag n ≤ 9223372036854775808 := by unfold mag; split <;> omega
theorem size1 (n : Int) (w : World) (h1 : -9223372036854775808 ≤ n) (h2 : n ≤ 9223372036854775807) : Calls Try.prog 64 #[.int .i64 n] w fun e w' => e = .returned (.int .u64 (mag n)) ∧ w = w' := by
  unfold mag
  by_cases h : n < 0
  · rw [if_pos h]
    have e1 : IntKind.u64.wrap (-(n + 1)) = -n - 1 := by rw [u64w]; omega
    have e2 : IntKind.u64.wrap (-n - 1 + 1) = -n := by rw [u64w]; omega
    go_enter Try.func64, Try.ntmps64
    go_wp2
    go_ret
    exact ⟨by first | rfl | (rw [← e2]; rfl) | (congr 2; omega), rfl⟩
  · rw [if_neg h]
    have e1 : IntKind.u64.wrap n = n := by rw [u64w]; omega
    go_enter Try.func64, Try.ntmps64
    go_wp2
    go_ret
    exact ⟨rfl, rfl⟩
/-- The value of the first binding of a name. -/
def FDW (es : List Mo) (s : ByteArray) (w : World) (e : Ending) (w' : World) : Prop :=
  Below w.heap.size w w' ∧ ((s ∉ es.map (·.1) ∧ e = .returned (.tuple #[.int .i64 0, .bool false])) ∨ (s ∈ es.map (·.1) ∧ e = .returned (.tuple #[.int .i64 (co es s), .bool true])))
set_option maxRecDepth 100000 in
set_option maxHeartbeats 8000000 in
theorem find1 (q : Option Addr) (es : List Mo) (d : Nat) (s : ByteArray) (w : World) (hn : es.length ≤ maxLen) (RA : Hid (SlM w q es)) :
    Calls Try.prog 65 #[.slice q es.length d, .string s] w (FDW es s w) := by
  unfold maxLen at hn
  go_enter Try.func65, Try.ntmps65
  go_wp2
  go_loopw [6] (fun i wr => ∃ j : Nat, i = .int .i64 (j : Int) ∧ j ≤ es.length ∧ Below w.heap.size w wr ∧ Hid (∀ i, i < j → (es.getD i mo0).1 ≠ s)) (fun i _ => es.length - (intOf i).toNat)
  case atStart => exact ⟨0, rfl, by omega, Below.refl _ _, Lib.hid fun i hi => absurd hi (by omega)⟩
  case round =>
    obtain ⟨j, rfl, hj, hB, HN⟩ := hrel
    have j0 : (0 : Int) ≤ j := by omega
    by_cases hlt : j < es.length
    · obtain ⟨b, o, rfl, c0, c1⟩ := SlM.keep hB RA.out j hlt
      have HC := Lib.hid fun he => co_first (s := s) hlt HN.out he
      have HMM := Lib.hid (getD_mem hlt)
      obtain ⟨⟨t, a⟩, hx⟩ : ∃ x, es.getD j mo0 = x := ⟨_, rfl⟩
      have HX := Lib.hid hx
      rw [hx] at c0 c1
      simp only at c0 c1
      clear hx
      have j1 : (j : Int) < es.length := by omega
      by_cases hts : t = s
      · have hv : (t.toList == s.toList) = true := by rw [same_iff]; exact decide_eq_true hts
        have HE := Lib.hid (show a = co es s from by have := HC.out (by rw [HX.out]; exact hts); rw [HX.out] at this; exact this)
        have HI := Lib.hid (show s ∈ es.map (·.1) from by have := List.mem_map_of_mem (f := (·.1)) HMM.out; rw [HX.out] at this; rw [← hts]; exact this)
        clear hts
        go_wp2
        go_ret2
        exact ⟨hB, .inr ⟨HI.out, by rw [← HE.out]; rfl⟩⟩
      · have hv : (t.toList == s.toList) = false := by rw [same_iff]; exact decide_eq_false hts
        have HN2 : Hid (∀ i, i < j + 1 → (es.getD i mo0).1 ≠ s) := Lib.hid fun i hi => by
          by_cases hij : i = j
          · subst hij; rw [HX.out]; exact hts
          · exact HN.out i (by omega)
        clear hts
        go_wp2
        go_roundw
        case rel => exact ⟨j + 1, by go_num, by omega, hB, HN2⟩
        case measure => simp [intOf]; omega
    · have j1 : ¬ (j : Int) < es.length := by omega
      have HE := Lib.hid (show s ∉ es.map (·.1) from not_mem_of (by omega) HN.out)
      go_wp2
      go_ret2
      exact ⟨hB, .inl ⟨HE.out, rfl⟩⟩
set_option maxRecDepth 100000 in
set_option maxHeartbeats 16000000 in
theorem plusW (d0 d1 d2 d3 d4 d5 a b : Int) (w : World) (hd : ((0 ≤ d0 ∧ d0 < 4294967296) ∧ (0 ≤ d1 ∧ d1 < 4294967296) ∧ (0 ≤ d2 ∧ d2 < 4294967296) ∧ (0 ≤ d3 ∧ d3 < 4294967296) ∧ (0 ≤ d4 ∧ d4 < 4294967296) ∧ (0 ≤ d5 ∧ d5 < 4294967296))) (ha : (0 ≤ a ∧ a < 18446744073709551616)) (hb : (0 ≤ b ∧ b < 18446744073709551616)) (hv : dval d0 d1 d2 d3 d4 d5 + a * b < 6277101735386680763835789423207666416102355444464034512896) :
    Calls Try.prog 63 #[.agg #[.int .u64 d0, .int .u64 d1, .int .u64 d2, .int .u64 d3, .int .u64 d4, .int .u64 d5], .int .u64 a, .int .u64 b] w (DW (dval d0 d1 d2 d3 d4 d5 + a * b) w) := by
  obtain ⟨a0, ha0⟩ : ∃ x, a % 4294967296 = x := ⟨_, rfl⟩
  obtain ⟨a1, ha1⟩ : ∃ x, a / 4294967296 = x := ⟨_, rfl⟩
  obtain ⟨b0, hb0⟩ : ∃ x, b % 4294967296 = x := ⟨_, rfl⟩
  obtain ⟨b1, hb1⟩ : ∃ x, b / 4294967296 = x := ⟨_, rfl⟩
  have ka0 : (0 ≤ a0 ∧ a0 < 4294967296) := by omega
  have ka1 : (0 ≤ a1 ∧ a1 < 4294967296) := by omega
  have kb0 : (0 ≤ b0 ∧ b0 < 4294967296) := by omega
  have kb1 : (0 ≤ b1 ∧ b1 < 4294967296) := by omega
  have p00 := mulB ka0 kb0
  have p01 := mulB ka0 kb1
  have p10 := mulB ka1 kb0
  have p11 := mulB ka1 kb1
  have hab : a * b = a0 * b0 + (a0 * b1 + a1 * b0) * 4294967296 + a1 * b1 * 18446744073709551616 := by
    have e1 : a = a0 + a1 * 4294967296 := by omega
    have e2 : b = b0 + b1 * 4294967296 := by omega
    rw [e1, e2]
    clear hv e1 e2 ha0 ha1 hb0 hb1 p00 p01 p10 p11
    grind
  rw [hab] at hv ⊢
  obtain ⟨x00, y00⟩ : ∃ x, a0 * b0 = x := ⟨_, rfl⟩
  obtain ⟨x01, y01⟩ : ∃ x, a0 * b1 = x := ⟨_, rfl⟩
  obtain ⟨x10, y10⟩ : ∃ x, a1 * b0 = x := ⟨_, rfl⟩
  obtain ⟨x11, y11⟩ : ∃ x, a1 * b1 = x := ⟨_, rfl⟩
  rw [y00] at p00
  rw [y01] at p01
  rw [y10] at p10
  rw [y11] at p11
  rw [y00, y01, y10, y11] at hv ⊢
  clear hab ha hb
  obtain ⟨V, hV⟩ : ∃ V, dval d0 d1 d2 d3 d4 d5 = V := ⟨_, rfl⟩
  rw [hV] at hv ⊢
  have HV := Lib.hid hV
  have HF : ∀ V4, V + x00 * 1 + x01 * 4294967296 + x10 * 4294967296 + x11 * 18446744073709551616 = V4 → V4 = V + (x00 + (x01 + x10) * 4294967296 + x11 * 18446744073709551616) := fun V4 h => by omega
  have HF := Lib.hid HF
  have hV0 : 0 ≤ V := by rw [← hV]; unfold dval; omega
  have u00 : IntKind.u64.wrap (a0 * b0) = x00 := by rw [y00, u64w]; omega
  have u01 : IntKind.u64.wrap (a0 * b1) = x01 := by rw [y01, u64w]; omega
  have u10 : IntKind.u64.wrap (a1 * b0) = x10 := by rw [y10, u64w]; omega
  have u11 : IntKind.u64.wrap (a1 * b1) = x11 := by rw [y11, u64w]; omega
  clear hV
  have B0 : Below w.heap.size w ((w.alloc (Obj.cells #[Value.int .u64 d0, Value.int .u64 d1, Value.int .u64 d2, Value.int .u64 d3, Value.int .u64 d4, Value.int .u64 d5] 86)).alloc (Obj.cells #[Value.int .u64 0, Value.int .u64 0, Value.int .u64 0, Value.int .u64 0, Value.int .u64 0, Value.int .u64 0] 86)) := two_below _ _
  have F0 : Cl ([(w.heap.size, 0, .int .u64 d0), (w.heap.size, 1, .int .u64 d1), (w.heap.size, 2, .int .u64 d2), (w.heap.size, 3, .int .u64 d3), (w.heap.size, 4, .int .u64 d4), (w.heap.size, 5, .int .u64 d5)] ++ [(w.heap.size + 1, 0, .int .u64 0), (w.heap.size + 1, 1, .int .u64 0), (w.heap.size + 1, 2, .int .u64 0), (w.heap.size + 1, 3, .int .u64 0), (w.heap.size + 1, 4, .int .u64 0), (w.heap.size + 1, 5, .int .u64 0)]) ((w.alloc (Obj.cells #[Value.int .u64 d0, Value.int .u64 d1, Value.int .u64 d2, Value.int .u64 d3, Value.int .u64 d4, Value.int .u64 d5] 86)).alloc (Obj.cells #[Value.int .u64 0, Value.int .u64 0, Value.int .u64 0, Value.int .u64 0, Value.int .u64 0, Value.int .u64 0] 86)) := by
    simp only [List.cons_append, List.nil_append]
    exact (Cl.cons (by go_cell) (by first | go_cell | simp) (Cl.cons (by go_cell) (by first | go_cell | simp) (Cl.cons (by go_cell) (by first | go_cell | simp) (Cl.cons (by go_cell) (by first | go_cell | simp) (Cl.cons (by go_cell) (by first | go_cell | simp) (Cl.cons (by go_cell) (by first | go_cell | simp) (Cl.cons (by go_cell) (by first | go_cell | simp) (Cl.cons (by go_cell) (by first | go_cell | simp) (Cl.cons (by go_cell) (by first | go_cell | simp) (Cl.cons (by go_cell) (by first | go_cell | simp) (Cl.cons (by go_cell) (by first | go_cell | simp) (Cl.cons (by go_cell) (by first | go_cell | simp) (Cl.nil _)))))))))))))
  go_enter Try.func63, Try.ntmps63
  go_wp2_with fail
  generalize (w.alloc (Obj.cells #[Value.int .u64 d0, Value.int .u64 d1, Value.int .u64 d2, Value.int .u64 d3, Value.int .u64 d4, Value.int .u64 d5] 86)).alloc (Obj.cells #[Value.int .u64 0, Value.int .u64 0, Value.int .u64 0, Value.int .u64 0, Value.int .u64 0, Value.int .u64 0] 86) = u0 at *
  have hgs : w.heap.size ≤ w.heap.size := Nat.le_refl _
  have hg1 : w.heap.size ≤ w.heap.size + 1 := Nat.le_succ _
  have HV0 : Hid (dval d0 d1 d2 d3 d4 d5 = V) := HV
  refine (digit0 d0 d1 d2 d3 d4 d5 x00 u0 hd p00 (by rw [HV0.out]; omega)).mono ?_
  rintro e w0 ⟨f00, f01, f02, f03, f04, f05, rfl, hd1, hv1, hb⟩
  have HV1 : Hid (dval f00 f01 f02 f03 f04 f05 = V + x00 * 1) := Lib.hid (by rw [hv1, HV0.out])
  replace F0 := F0.below hb
  replace B0 := B0.trans (hb.mono B0.size)
  clear hb hv1
  have m0 := F0.head
  have zm0 := F0.headF
  have m1 := F0.tail.head
  have zm1 := F0.tail.headF
  have m2 := F0.tail.tail.head
  have zm2 := F0.tail.tail.headF
  have m3 := F0.tail.tail.tail.head
  have zm3 := F0.tail.tail.tail.headF
  have m4 := F0.tail.tail.tail.tail.head
  have zm4 := F0.tail.tail.tail.tail.headF
  have m5 := F0.tail.tail.tail.tail.tail.head
  have zm5 := F0.tail.tail.tail.tail.tail.headF
  have r0 := F0.tail.tail.tail.tail.tail.tail.head
  have r1 := F0.tail.tail.tail.tail.tail.tail.tail.head
  have r2 := F0.tail.tail.tail.tail.tail.tail.tail.tail.head
  have r3 := F0.tail.tail.tail.tail.tail.tail.tail.tail.tail.head
  have r4 := F0.tail.tail.tail.tail.tail.tail.tail.tail.tail.tail.head
  have r5 := F0.tail.tail.tail.tail.tail.tail.tail.tail.tail.tail.tail.head
  have F0' : Cl ([(w.heap.size, 0, .int .u64 f00), (w.heap.size, 1, .int .u64 f01), (w.heap.size, 2, .int .u64 f02), (w.heap.size, 3, .int .u64 f03), (w.heap.size, 4, .int .u64 f04), (w.heap.size, 5, .int .u64 f05)] ++ [(w.heap.size + 1, 0, .int .u64 0), (w.heap.size + 1, 1, .int .u64 0), (w.heap.size + 1, 2, .int .u64 0), (w.heap.size + 1, 3, .int .u64 0), (w.heap.size + 1, 4, .int .u64 0), (w.heap.size + 1, 5, .int .u64 0)]) ((((((w0.setCell ⟨w.heap.size, 0, none⟩ (.int .u64 f00)).setCell ⟨w.heap.size, 1, none⟩ (.int .u64 f01)).setCell ⟨w.heap.size, 2, none⟩ (.int .u64 f02)).setCell ⟨w.heap.size, 3, none⟩ (.int .u64 f03)).setCell ⟨w.heap.size, 4, none⟩ (.int .u64 f04)).setCell ⟨w.heap.size, 5, none⟩ (.int .u64 f05)) := (put6 (F0.sub (L' := [(w.heap.size, 0, .int .u64 d0), (w.heap.size, 1, .int .u64 d1), (w.heap.size, 2, .int .u64 d2), (w.heap.size, 3, .int .u64 d3), (w.heap.size, 4, .int .u64 d4), (w.heap.size, 5, .int .u64 d5)]) (fun x hx => List.mem_append_left _ hx))).append (put6_far (F0.sub (L' := [(w.heap.size + 1, 0, .int .u64 0), (w.heap.size + 1, 1, .int .u64 0), (w.heap.size + 1, 2, .int .u64 0), (w.heap.size + 1, 3, .int .u64 0), (w.heap.size + 1, 4, .int .u64 0), (w.heap.size + 1, 5, .int .u64 0)]) (fun x hx => List.mem_append_right _ hx)) (by simp))
  have B0' := put6_below (g := w.heap.size) (e0 := f00) (e1 := f01) (e2 := f02) (e3 := f03) (e4 := f04) (e5 := f05) B0 hgs
  go_wp2_with fail
  clear m0 m1 m2 m3 m4 m5 r0 r1 r2 r3 r4 r5 zm0 zm1 zm2 zm3 zm4 zm5 F0 B0
  generalize ((((((w0.setCell ⟨w.heap.size, 0, none⟩ (.int .u64 f00)).setCell ⟨w.heap.size, 1, none⟩ (.int .u64 f01)).setCell ⟨w.heap.size, 2, none⟩ (.int .u64 f02)).setCell ⟨w.heap.size, 3, none⟩ (.int .u64 f03)).setCell ⟨w.heap.size, 4, none⟩ (.int .u64 f04)).setCell ⟨w.heap.size, 5, none⟩ (.int .u64 f05)) = u1 at *
  have F0 := F0'
  have B0 := B0'
  clear F0' B0'
  refine (digit1 f00 f01 f02 f03 f04 f05 x01 u1 hd1 p01 (by rw [HV1.out]; omega)).mono ?_
  rintro e w1 ⟨f10, f11, f12, f13, f14, f15, rfl, hd2, hv2, hb⟩
  have HV2 : Hid (dval f10 f11 f12 f13 f14 f15 = V + x00 * 1 + x01 * 4294967296) := Lib.hid (by rw [hv2, HV1.out])
  replace F0 := F0.below hb
  replace B0 := B0.trans (hb.mono B0.size)
  clear hb hv2
  have m0 := F0.head
  have zm0 := F0.headF
  have m1 := F0.tail.head
  have zm1 := F0.tail.headF
  have m2 := F0.tail.tail.head
  have zm2 := F0.tail.tail.headF
  have m3 := F0.tail.tail.tail.head
  have zm3 := F0.tail.tail.tail.headF
  have m4 := F0.tail.tail.tail.tail.head
  have zm4 := F0.tail.tail.tail.tail.headF
  have m5 := F0.tail.tail.tail.tail.tail.head
  have zm5 := F0.tail.tail.tail.tail.tail.headF
  have r0 := F0.tail.tail.tail.tail.tail.tail.head
  have r1 := F0.tail.tail.tail.tail.tail.tail.tail.head
  have r2 := F0.tail.tail.tail.tail.tail.tail.tail.tail.head
  have r3 := F0.tail.tail.tail.tail.tail.tail.tail.tail.tail.head
  have r4 := F0.tail.tail.tail.tail.tail.tail.tail.tail.tail.tail.head
  have r5 := F0.tail.tail.tail.tail.tail.tail.tail.tail.tail.tail.tail.head
  have F0' : Cl ([(w.heap.size, 0, .int .u64 f10), (w.heap.size, 1, .int .u64 f11), (w.heap.size, 2, .int .u64 f12), (w.heap.size, 3, .int .u64 f13), (w.heap.size, 4, .int .u64 f14), (w.heap.size, 5, .int .u64 f15)] ++ [(w.heap.size + 1, 0, .int .u64 0), (w.heap.size + 1, 1, .int .u64 0), (w.heap.size + 1, 2, .int .u64 0), (w.heap.size + 1, 3, .int .u64 0), (w.heap.size + 1, 4, .int .u64 0), (w.heap.size + 1, 5, .int .u64 0)]) ((((((w1.setCell ⟨w.heap.size, 0, none⟩ (.int .u64 f10)).setCell ⟨w.heap.size, 1, none⟩ (.int .u64 f11)).setCell ⟨w.heap.size, 2, none⟩ (.int .u64 f12)).setCell ⟨w.heap.size, 3, none⟩ (.int .u64 f13)).setCell ⟨w.heap.size, 4, none⟩ (.int .u64 f14)).setCell ⟨w.heap.size, 5, none⟩ (.int .u64 f15)) := (put6 (F0.sub (L' := [(w.heap.size, 0, .int .u64 f00), (w.heap.size, 1, .int .u64 f01), (w.heap.size, 2, .int .u64 f02), (w.heap.size, 3, .int .u64 f03), (w.heap.size, 4, .int .u64 f04), (w.heap.size, 5, .int .u64 f05)]) (fun x hx => List.mem_append_left _ hx))).append (put6_far (F0.sub (L' := [(w.heap.size + 1, 0, .int .u64 0), (w.heap.size + 1, 1, .int .u64 0), (w.heap.size + 1, 2, .int .u64 0), (w.heap.size + 1, 3, .int .u64 0), (w.heap.size + 1, 4, .int .u64 0), (w.heap.size + 1, 5, .int .u64 0)]) (fun x hx => List.mem_append_right _ hx)) (by simp))
  have B0' := put6_below (g := w.heap.size) (e0 := f10) (e1 := f11) (e2 := f12) (e3 := f13) (e4 := f14) (e5 := f15) B0 hgs
  go_wp2_with fail
  clear m0 m1 m2 m3 m4 m5 r0 r1 r2 r3 r4 r5 zm0 zm1 zm2 zm3 zm4 zm5 F0 B0
  generalize ((((((w1.setCell ⟨w.heap.size, 0, none⟩ (.int .u64 f10)).setCell ⟨w.heap.size, 1, none⟩ (.int .u64 f11)).setCell ⟨w.heap.size, 2, none⟩ (.int .u64 f12)).setCell ⟨w.heap.size, 3, none⟩ (.int .u64 f13)).setCell ⟨w.heap.size, 4, none⟩ (.int .u64 f14)).setCell ⟨w.heap.size, 5, none⟩ (.int .u64 f15)) = u2 at *
  have F0 := F0'
  have B0 := B0'
  clear F0' B0'
  refine (digit1 f10 f11 f12 f13 f14 f15 x10 u2 hd2 p10 (by rw [HV2.out]; omega)).mono ?_
  rintro e w2 ⟨f20, f21, f22, f23, f24, f25, rfl, hd3, hv3, hb⟩
  have HV3 : Hid (dval f20 f21 f22 f23 f24 f25 = V + x00 * 1 + x01 * 4294967296 + x10 * 4294967296) := Lib.hid (by rw [hv3, HV2.out])
  replace F0 := F0.below hb
  replace B0 := B0.trans (hb.mono B0.size)
  clear hb hv3
  have m0 := F0.head
  have zm0 := F0.headF
  have m1 := F0.tail.head
  have zm1 := F0.tail.headF
  have m2 := F0.tail.tail.head
  have zm2 := F0.tail.tail.headF
  have m3 := F0.tail.tail.tail.head
  have zm3 := F0.tail.tail.tail.headF
  have m4 := F0.tail.tail.tail.tail.head
  have zm4 := F0.tail.tail.tail.tail.headF
  have m5 := F0.tail.tail.tail.tail.tail.head
  have zm5 := F0.tail.tail.tail.tail.tail.headF
  have r0 := F0.tail.tail.tail.tail.tail.tail.head
  have r1 := F0.tail.tail.tail.tail.tail.tail.tail.head
  have r2 := F0.tail.tail.tail.tail.tail.tail.tail.tail.head
  have r3 := F0.tail.tail.tail.tail.tail.tail.tail.tail.tail.head
  have r4 := F0.tail.tail.tail.tail.tail.tail.tail.tail.tail.tail.head
  have r5 := F0.tail.tail.tail.tail.tail.tail.tail.tail.tail.tail.tail.head
  have F0' : Cl ([(w.heap.size, 0, .int .u64 f20), (w.heap.size, 1, .int .u64 f21), (w.heap.size, 2, .int .u64 f22), (w.heap.size, 3, .int .u64 f23), (w.heap.size, 4, .int .u64 f24), (w.heap.size, 5, .int .u64 f25)] ++ [(w.heap.size + 1, 0, .int .u64 0), (w.heap.size + 1, 1, .int .u64 0), (w.heap.size + 1, 2, .int .u64 0), (w.heap.size + 1, 3, .int .u64 0), (w.heap.size + 1, 4, .int .u64 0), (w.heap.size + 1, 5, .int .u64 0)]) ((((((w2.setCell ⟨w.heap.size, 0, none⟩ (.int .u64 f20)).setCell ⟨w.heap.size, 1, none⟩ (.int .u64 f21)).setCell ⟨w.heap.size, 2, none⟩ (.int .u64 f22)).setCell ⟨w.heap.size, 3, none⟩ (.int .u64 f23)).setCell ⟨w.heap.size, 4, none⟩ (.int .u64 f24)).setCell ⟨w.heap.size, 5, none⟩ (.int .u64 f25)) := (put6 (F0.sub (L' := [(w.heap.size, 0, .int .u64 f10), (w.heap.size, 1, .int .u64 f11), (w.heap.size, 2, .int .u64 f12), (w.heap.size, 3, .int .u64 f13), (w.heap.size, 4, .int .u64 f14), (w.heap.size, 5, .int .u64 f15)]) (fun x hx => List.mem_append_left _ hx))).append (put6_far (F0.sub (L' := [(w.heap.size + 1, 0, .int .u64 0), (w.heap.size + 1, 1, .int .u64 0), (w.heap.size + 1, 2, .int .u64 0), (w.heap.size + 1, 3, .int .u64 0), (w.heap.size + 1, 4, .int .u64 0), (w.heap.size + 1, 5, .int .u64 0)]) (fun x hx => List.mem_append_right _ hx)) (by simp))
  have B0' := put6_below (g := w.heap.size) (e0 := f20) (e1 := f21) (e2 := f22) (e3 := f23) (e4 := f24) (e5 := f25) B0 hgs
  go_wp2_with fail
  clear m0 m1 m2 m3 m4 m5 r0 r1 r2 r3 r4 r5 zm0 zm1 zm2 zm3 zm4 zm5 F0 B0
  generalize ((((((w2.setCell ⟨w.heap.size, 0, none⟩ (.int .u64 f20)).setCell ⟨w.heap.size, 1, none⟩ (.int .u64 f21)).setCell ⟨w.heap.size, 2, none⟩ (.int .u64 f22)).setCell ⟨w.heap.size, 3, none⟩ (.int .u64 f23)).setCell ⟨w.heap.size, 4, none⟩ (.int .u64 f24)).setCell ⟨w.heap.size, 5, none⟩ (.int .u64 f25)) = u3 at *
  have F0 := F0'
  have B0 := B0'
  clear F0' B0'
  refine (digit2 f20 f21 f22 f23 f24 f25 x11 u3 hd3 p11 (by rw [HV3.out]; omega)).mono ?_
  rintro e w3 ⟨f30, f31, f32, f33, f34, f35, rfl, hd4, hv4, hb⟩
  have HV4 : Hid (dval f30 f31 f32 f33 f34 f35 = V + x00 * 1 + x01 * 4294967296 + x10 * 4294967296 + x11 * 18446744073709551616) := Lib.hid (by rw [hv4, HV3.out])
  replace F0 := F0.below hb
  replace B0 := B0.trans (hb.mono B0.size)
  clear hb hv4
  have m0 := F0.head
  have zm0 := F0.headF
  have m1 := F0.tail.head
  have zm1 := F0.tail.headF
  have m2 := F0.tail.tail.head
  have zm2 := F0.tail.tail.headF
  have m3 := F0.tail.tail.tail.head
  have zm3 := F0.tail.tail.tail.headF
  have m4 := F0.tail.tail.tail.tail.head
  have zm4 := F0.tail.tail.tail.tail.headF
  have m5 := F0.tail.tail.tail.tail.tail.head
  have zm5 := F0.tail.tail.tail.tail.tail.headF
  have r0 := F0.tail.tail.tail.tail.tail.tail.head
  have zr0 := F0.tail.tail.tail.tail.tail.tail.headF
  have r1 := F0.tail.tail.tail.tail.tail.tail.tail.head
  have zr1 := F0.tail.tail.tail.tail.tail.tail.tail.headF
  have r2 := F0.tail.tail.tail.tail.tail.tail.tail.tail.head
  have zr2 := F0.tail.tail.tail.tail.tail.tail.tail.tail.headF
  have r3 := F0.tail.tail.tail.tail.tail.tail.tail.tail.tail.head
  have zr3 := F0.tail.tail.tail.tail.tail.tail.tail.tail.tail.headF
  have r4 := F0.tail.tail.tail.tail.tail.tail.tail.tail.tail.tail.head
  have zr4 := F0.tail.tail.tail.tail.tail.tail.tail.tail.tail.tail.headF
  have r5 := F0.tail.tail.tail.tail.tail.tail.tail.tail.tail.tail.tail.head
  have zr5 := F0.tail.tail.tail.tail.tail.tail.tail.tail.tail.tail.tail.headF
  go_wp2
  exact bodyPost_ret (v := .agg #[.int .u64 f30, .int .u64 f31, .int .u64 f32, .int .u64 f33, .int .u64 f34, .int .u64 f35]) (by simp [results, Try.results63, go_sem, r0, r1, r2, r3, r4, r5, zr0, zr1, zr2, zr3, zr4, zr5]) rfl ⟨f30, f31, f32, f33, f34, f35, rfl, hd4, HF.out _ HV4.out.symm, put6_below B0 hg1⟩
set_option maxRecDepth 100000 in
set_option maxHeartbeats 32000000 in
theorem less1 (b0 b1 b2 b3 b4 b5 a0 a1 a2 a3 a4 a5 : Int) (w : World) (hA : ((0 ≤ a0 ∧ a0 < 4294967296) ∧ (0 ≤ a1 ∧ a1 < 4294967296) ∧ (0 ≤ a2 ∧ a2 < 4294967296) ∧ (0 ≤ a3 ∧ a3 < 4294967296) ∧ (0 ≤ a4 ∧ a4 < 4294967296) ∧ (0 ≤ a5 ∧ a5 < 4294967296))) (hB : ((0 ≤ b0 ∧ b0 < 4294967296) ∧ (0 ≤ b1 ∧ b1 < 4294967296) ∧ (0 ≤ b2 ∧ b2 < 4294967296) ∧ (0 ≤ b3 ∧ b3 < 4294967296) ∧ (0 ≤ b4 ∧ b4 < 4294967296) ∧ (0 ≤ b5 ∧ b5 < 4294967296))) :
    Calls Try.prog 66 #[.agg #[.int .u64 a0, .int .u64 a1, .int .u64 a2, .int .u64 a3, .int .u64 a4, .int .u64 a5], .agg #[.int .u64 b0, .int .u64 b1, .int .u64 b2, .int .u64 b3, .int .u64 b4, .int .u64 b5]] w fun e w' => e = .returned (.bool (decide (dval a0 a1 a2 a3 a4 a5 < dval b0 b1 b2 b3 b4 b5))) ∧ Below w.heap.size w w' := by
  by_cases h5 : b5 = a5
  · subst h5
    by_cases h4 : b4 = a4
    · subst h4
      by_cases h3 : b3 = a3
      · subst h3
        by_cases h2 : b2 = a2
        · subst h2
          by_cases h1 : b1 = a1
          · subst h1
            by_cases h0 : b0 = a0
            · subst h0
              have HR : Hid (false = decide (dval b0 b1 b2 b3 b4 b5 < dval b0 b1 b2 b3 b4 b5)) := Lib.hid (by rw [decide_eq_false (by omega)])
              clear hA hB
              go_enter Try.func66, Try.ntmps66
              go_wp2
              refine wp_loop_rounds 7 ?_
              rw [rounds_succ]
              go_wp2
              go_quiet (fail)
              go_wp2
              rw [rounds_succ]
              go_wp2
              go_quiet (fail)
              go_wp2
              rw [rounds_succ]
              go_wp2
              go_quiet (fail)
              go_wp2
              rw [rounds_succ]
              go_wp2
              go_quiet (fail)
              go_wp2
              rw [rounds_succ]
              go_wp2
              go_quiet (fail)
              go_wp2
              rw [rounds_succ]
              go_wp2
              go_quiet (fail)
              go_wp2
              rw [rounds_succ]
              go_wp2
              go_ret
              exact ⟨ret_bool HR.out, by (repeat (refine below_drewN ?_ _)); exact two_below _ _⟩
            · have hb0 : (a0 == b0) = false := beq_false_of_ne (fun e => h0 e.symm)
              have hn0 : (a0 != b0) = true := by rw [bne, hb0]; rfl
              have HR : Hid (decide (a0 < b0) = decide (dval a0 b1 b2 b3 b4 b5 < dval b0 b1 b2 b3 b4 b5)) := Lib.hid (by rw [Bool.eq_iff_iff, decide_eq_true_eq, decide_eq_true_eq]; unfold dval; omega)
              clear hA hB h0
              go_enter Try.func66, Try.ntmps66
              go_wp2
              refine wp_loop_rounds 7 ?_
              rw [rounds_succ]
              go_wp2
              go_quiet (fail)
              go_wp2
              rw [rounds_succ]
              go_wp2
              go_quiet (fail)
              go_wp2
              rw [rounds_succ]
              go_wp2
              go_quiet (fail)
              go_wp2
              rw [rounds_succ]
              go_wp2
              go_quiet (fail)
              go_wp2
              rw [rounds_succ]
              go_wp2
              go_quiet (fail)
              go_wp2
              rw [rounds_succ]
              go_wp2
              go_quiet (fail)
              go_wp2
              go_quiet (fail)
              go_wp2
              go_ret
              exact ⟨ret_bool HR.out, by (repeat (refine below_drewN ?_ _)); exact two_below _ _⟩
          · have hb1 : (a1 == b1) = false := beq_false_of_ne (fun e => h1 e.symm)
            have hn1 : (a1 != b1) = true := by rw [bne, hb1]; rfl
            have HR : Hid (decide (a1 < b1) = decide (dval a0 a1 b2 b3 b4 b5 < dval b0 b1 b2 b3 b4 b5)) := Lib.hid (by rw [Bool.eq_iff_iff, decide_eq_true_eq, decide_eq_true_eq]; unfold dval; omega)
            clear hA hB h1
            go_enter Try.func66, Try.ntmps66
            go_wp2
            refine wp_loop_rounds 7 ?_
            rw [rounds_succ]
            go_wp2
            go_quiet (fail)
            go_wp2
            rw [rounds_succ]
            go_wp2
            go_quiet (fail)
            go_wp2
            rw [rounds_succ]
            go_wp2
            go_quiet (fail)
            go_wp2
            rw [rounds_succ]
            go_wp2
            go_quiet (fail)
            go_wp2
            rw [rounds_succ]
            go_wp2
            go_quiet (fail)
            go_wp2
            go_quiet (fail)
            go_wp2
            go_ret
            exact ⟨ret_bool HR.out, by (repeat (refine below_drewN ?_ _)); exact two_below _ _⟩
        · have hb2 : (a2 == b2) = false := beq_false_of_ne (fun e => h2 e.symm)
          have hn2 : (a2 != b2) = true := by rw [bne, hb2]; rfl
          have HR : Hid (decide (a2 < b2) = decide (dval a0 a1 a2 b3 b4 b5 < dval b0 b1 b2 b3 b4 b5)) := Lib.hid (by rw [Bool.eq_iff_iff, decide_eq_true_eq, decide_eq_true_eq]; unfold dval; omega)
          clear hA hB h2
          go_enter Try.func66, Try.ntmps66
          go_wp2
          refine wp_loop_rounds 7 ?_
          rw [rounds_succ]
          go_wp2
          go_quiet (fail)
          go_wp2
          rw [rounds_succ]
          go_wp2
          go_quiet (fail)
          go_wp2
          rw [rounds_succ]
          go_wp2
          go_quiet (fail)
          go_wp2
          rw [rounds_succ]
          go_wp2
          go_quiet (fail)
          go_wp2
          go_quiet (fail)
          go_wp2
          go_ret
          exact ⟨ret_bool HR.out, by (repeat (refine below_drewN ?_ _)); exact two_below _ _⟩
      · have hb3 : (a3 == b3) = false := beq_false_of_ne (fun e => h3 e.symm)
        have hn3 : (a3 != b3) = true := by rw [bne, hb3]; rfl
        have HR : Hid (decide (a3 < b3) = decide (dval a0 a1 a2 a3 b4 b5 < dval b0 b1 b2 b3 b4 b5)) := Lib.hid (by rw [Bool.eq_iff_iff, decide_eq_true_eq, decide_eq_true_eq]; unfold dval; omega)
        clear hA hB h3
        go_enter Try.func66, Try.ntmps66
        go_wp2
        refine wp_loop_rounds 7 ?_
        rw [rounds_succ]
        go_wp2
        go_quiet (fail)
        go_wp2
        rw [rounds_succ]
        go_wp2
        go_quiet (fail)
        go_wp2
        rw [rounds_succ]
        go_wp2
        go_quiet (fail)
        go_wp2
        go_quiet (fail)
        go_wp2
        go_ret
        exact ⟨ret_bool HR.out, by (repeat (refine below_drewN ?_ _)); exact two_below _ _⟩
    · have hb4 : (a4 == b4) = false := beq_false_of_ne (fun e => h4 e.symm)
      have hn4 : (a4 != b4) = true := by rw [bne, hb4]; rfl
      have HR : Hid (decide (a4 < b4) = decide (dval a0 a1 a2 a3 a4 b5 < dval b0 b1 b2 b3 b4 b5)) := Lib.hid (by rw [Bool.eq_iff_iff, decide_eq_true_eq, decide_eq_true_eq]; unfold dval; omega)
      clear hA hB h4
      go_enter Try.func66, Try.ntmps66
      go_wp2
      refine wp_loop_rounds 7 ?_
      rw [rounds_succ]
      go_wp2
      go_quiet (fail)
      go_wp2
      rw [rounds_succ]
      go_wp2
      go_quiet (fail)
      go_wp2
      go_quiet (fail)
      go_wp2
      go_ret
      exact ⟨ret_bool HR.out, by (repeat (refine below_drewN ?_ _)); exact two_below _ _⟩
  · have hb5 : (a5 == b5) = false := beq_false_of_ne (fun e => h5 e.symm)
    have hn5 : (a5 != b5) = true := by rw [bne, hb5]; rfl
    have HR : Hid (decide (a5 < b5) = decide (dval a0 a1 a2 a3 a4 a5 < dval b0 b1 b2 b3 b4 b5)) := Lib.hid (by rw [Bool.eq_iff_iff, decide_eq_true_eq, decide_eq_true_eq]; unfold dval; omega)
    clear hA hB h5
    go_enter Try.func66, Try.ntmps66
    go_wp2
    refine wp_loop_rounds 7 ?_
    rw [rounds_succ]
    go_wp2
    go_quiet (fail)
    go_wp2
    go_quiet (fail)
    go_wp2
    go_ret
    exact ⟨ret_bool HR.out, by (repeat (refine below_drewN ?_ _)); exact two_below _ _⟩
def lval : List Int → Int
  | [] => 0
  | x :: l => x + 4294967296 * lval l
theorem lval_snoc (l : List Int) (x : Int) : lval (l ++ [x]) = lval l + x * 4294967296 ^ l.length := by
  induction l with
  | nil => simp [lval]
  | cons y l ih =>
    rw [List.cons_append, lval, lval, ih, List.length_cons, Int.pow_succ]
    grind
theorem lval_6 (a0 a1 a2 a3 a4 a5 : Int) : lval [a0, a1, a2, a3, a4, a5] = dval a0 a1 a2 a3 a4 a5 := by simp only [lval, dval]; omega
theorem lval_bd : ∀ l : List Int, (∀ x ∈ l, 0 ≤ x ∧ x < 4294967296) → 0 ≤ lval l ∧ lval l < 4294967296 ^ l.length
  | [], _ => by simp [lval]
  | x :: l, h => by
    have ih := lval_bd l (fun y hy => h y (List.mem_cons_of_mem _ hy))
    have hx := h x (by simp)
    rw [lval, List.length_cons, Int.pow_succ]
    generalize (4294967296 : Int) ^ l.length = P at *
    omega
theorem C6.set {g j : Nat} {L : List Int} {u : World} {v : Int} (h : C6 g L u) (hl : L.length = 6) (hj : j < 6) : C6 g (L.set j v) (u.setCell ⟨g, j, none⟩ (.int .u64 v)) := fun i hi => by
  obtain ⟨h1, h2⟩ := h i hi
  refine ⟨?_, by simp [World.frozen?_setCell, h2]⟩
  by_cases hij : i = j
  · subst hij
    rw [World.cell?_setCell_same _ _ _ h1]
    unfold List.getD
    rw [List.getElem?_set_self (by omega)]
    rfl
  · rw [World.cell?_setCell_other _ _ _ _ (by simp <;> omega), h1]
    unfold List.getD
    rw [List.getElem?_set_ne (by omega)]
theorem C6.far {g : Nat} {L : List Int} {u : World} {a : Addr} {v : Value} (h : C6 g L u) (hg : a.block ≠ g) : C6 g L (u.setCell a v) := fun i hi => by
  obtain ⟨h1, h2⟩ := h i hi
  exact ⟨(World.cell?_setCell_far u a ⟨g, i, none⟩ v hg).trans h1, by simp [World.frozen?_setCell, h2]⟩
theorem set_at {rs L : List Int} {j : Nat} {v : Int} (hr : rs.length = j) (hj : j < L.length) : (rs ++ L.drop j).set j v = (rs ++ [v]) ++ L.drop (j + 1) := by
  subst hr
  rw [List.drop_eq_getElem_cons hj, List.set_append_right _ _ (Nat.le_refl _), Nat.sub_self, List.set_cons_zero, List.append_assoc]
  rfl
theorem get_at {rs L : List Int} {j : Nat} (hr : rs.length = j) (hj : j < L.length) : (rs ++ L.drop j).getD j 0 = L.getD j 0 := by
  subst hr
  rw [List.drop_eq_getElem_cons hj]
  unfold List.getD
  rw [List.getElem?_append_right (Nat.le_refl _), Nat.sub_self, List.getElem?_cons_zero, List.getElem?_eq_getElem hj]
theorem itake1 {L : List Int} {i : Nat} (h : i < L.length) : L.take (i + 1) = L.take i ++ [L.getD i 0] := by
  rw [List.take_succ_eq_append_getElem h]
  unfold List.getD
  rw [List.getElem?_eq_getElem h]
  rfl
theorem step_eq {l a b o o' P r x y : Int} (h : l = a - b + o * P) (hr : r = x - y - o + o' * 4294967296) : l + r * P = (a + x * P) - (b + y * P) + o' * (P * 4294967296) := by
  subst h hr
  grind
set_option maxRecDepth 100000 in
set_option maxHeartbeats 32000000 in
theorem minus1 (a0 a1 a2 a3 a4 a5 b0 b1 b2 b3 b4 b5 : Int) (w : World) (hA : ((0 ≤ a0 ∧ a0 < 4294967296) ∧ (0 ≤ a1 ∧ a1 < 4294967296) ∧ (0 ≤ a2 ∧ a2 < 4294967296) ∧ (0 ≤ a3 ∧ a3 < 4294967296) ∧ (0 ≤ a4 ∧ a4 < 4294967296) ∧ (0 ≤ a5 ∧ a5 < 4294967296))) (hB : ((0 ≤ b0 ∧ b0 < 4294967296) ∧ (0 ≤ b1 ∧ b1 < 4294967296) ∧ (0 ≤ b2 ∧ b2 < 4294967296) ∧ (0 ≤ b3 ∧ b3 < 4294967296) ∧ (0 ≤ b4 ∧ b4 < 4294967296) ∧ (0 ≤ b5 ∧ b5 < 4294967296))) (hle : dval b0 b1 b2 b3 b4 b5 ≤ dval a0 a1 a2 a3 a4 a5) :
    Calls Try.prog 67 #[.agg #[.int .u64 a0, .int .u64 a1, .int .u64 a2, .int .u64 a3, .int .u64 a4, .int .u64 a5], .agg #[.int .u64 b0, .int .u64 b1, .int .u64 b2, .int .u64 b3, .int .u64 b4, .int .u64 b5]] w (DW (dval a0 a1 a2 a3 a4 a5 - dval b0 b1 b2 b3 b4 b5) w) := by
  have B0 : Below w.heap.size w (((w.alloc (Obj.cells #[Value.int .u64 a0, Value.int .u64 a1, Value.int .u64 a2, Value.int .u64 a3, Value.int .u64 a4, Value.int .u64 a5] 86)).alloc (Obj.cells #[Value.int .u64 b0, Value.int .u64 b1, Value.int .u64 b2, Value.int .u64 b3, Value.int .u64 b4, Value.int .u64 b5] 86)).alloc (Obj.cells #[Value.int .u64 0, Value.int .u64 0, Value.int .u64 0, Value.int .u64 0, Value.int .u64 0, Value.int .u64 0] 86)) := ((((Below.refl _ _).alloc (Nat.le_refl _) _).alloc (by simp) _).alloc (by simp; omega) _)
  have CA : C6 w.heap.size [a0, a1, a2, a3, a4, a5] (((w.alloc (Obj.cells #[Value.int .u64 a0, Value.int .u64 a1, Value.int .u64 a2, Value.int .u64 a3, Value.int .u64 a4, Value.int .u64 a5] 86)).alloc (Obj.cells #[Value.int .u64 b0, Value.int .u64 b1, Value.int .u64 b2, Value.int .u64 b3, Value.int .u64 b4, Value.int .u64 b5] 86)).alloc (Obj.cells #[Value.int .u64 0, Value.int .u64 0, Value.int .u64 0, Value.int .u64 0, Value.int .u64 0, Value.int .u64 0] 86)) := C6.of (Cl.cons (by go_cell) (by first | go_cell | simp) (Cl.cons (by go_cell) (by first | go_cell | simp) (Cl.cons (by go_cell) (by first | go_cell | simp) (Cl.cons (by go_cell) (by first | go_cell | simp) (Cl.cons (by go_cell) (by first | go_cell | simp) (Cl.cons (by go_cell) (by first | go_cell | simp) (Cl.nil _)))))))
  have CB : C6 (w.heap.size + 1) [b0, b1, b2, b3, b4, b5] (((w.alloc (Obj.cells #[Value.int .u64 a0, Value.int .u64 a1, Value.int .u64 a2, Value.int .u64 a3, Value.int .u64 a4, Value.int .u64 a5] 86)).alloc (Obj.cells #[Value.int .u64 b0, Value.int .u64 b1, Value.int .u64 b2, Value.int .u64 b3, Value.int .u64 b4, Value.int .u64 b5] 86)).alloc (Obj.cells #[Value.int .u64 0, Value.int .u64 0, Value.int .u64 0, Value.int .u64 0, Value.int .u64 0, Value.int .u64 0] 86)) := C6.of (Cl.cons (by go_cell) (by first | go_cell | simp) (Cl.cons (by go_cell) (by first | go_cell | simp) (Cl.cons (by go_cell) (by first | go_cell | simp) (Cl.cons (by go_cell) (by first | go_cell | simp) (Cl.cons (by go_cell) (by first | go_cell | simp) (Cl.cons (by go_cell) (by first | go_cell | simp) (Cl.nil _)))))))
  have CR : Cl [(w.heap.size + 1 + 1, 0, .int .u64 0), (w.heap.size + 1 + 1, 1, .int .u64 0), (w.heap.size + 1 + 1, 2, .int .u64 0), (w.heap.size + 1 + 1, 3, .int .u64 0), (w.heap.size + 1 + 1, 4, .int .u64 0), (w.heap.size + 1 + 1, 5, .int .u64 0)] (((w.alloc (Obj.cells #[Value.int .u64 a0, Value.int .u64 a1, Value.int .u64 a2, Value.int .u64 a3, Value.int .u64 a4, Value.int .u64 a5] 86)).alloc (Obj.cells #[Value.int .u64 b0, Value.int .u64 b1, Value.int .u64 b2, Value.int .u64 b3, Value.int .u64 b4, Value.int .u64 b5] 86)).alloc (Obj.cells #[Value.int .u64 0, Value.int .u64 0, Value.int .u64 0, Value.int .u64 0, Value.int .u64 0, Value.int .u64 0] 86)) := (Cl.cons (by go_cell) (by first | go_cell | simp) (Cl.cons (by go_cell) (by first | go_cell | simp) (Cl.cons (by go_cell) (by first | go_cell | simp) (Cl.cons (by go_cell) (by first | go_cell | simp) (Cl.cons (by go_cell) (by first | go_cell | simp) (Cl.cons (by go_cell) (by first | go_cell | simp) (Cl.nil _)))))))
  have HBA : Hid (∀ x ∈ [a0, a1, a2, a3, a4, a5], 0 ≤ x ∧ x < 4294967296) := Lib.hid (by simp only [List.forall_mem_cons]; exact ⟨hA.1, hA.2.1, hA.2.2.1, hA.2.2.2.1, hA.2.2.2.2.1, hA.2.2.2.2.2, by simp⟩)
  have HBB : Hid (∀ x ∈ [b0, b1, b2, b3, b4, b5], 0 ≤ x ∧ x < 4294967296) := Lib.hid (by simp only [List.forall_mem_cons]; exact ⟨hB.1, hB.2.1, hB.2.2.1, hB.2.2.2.1, hB.2.2.2.2.1, hB.2.2.2.2.2, by simp⟩)
  rw [← lval_6, ← lval_6] at hle ⊢
  have HLE := Lib.hid hle
  have al : [a0, a1, a2, a3, a4, a5].length = 6 := rfl
  have bl : [b0, b1, b2, b3, b4, b5].length = 6 := rfl
  have CA := Lib.hid CA
  have CB := Lib.hid CB
  have CR := Lib.hid CR
  clear hA hB hle
  go_enter Try.func67, Try.ntmps67
  go_wp2
  generalize (((w.alloc (Obj.cells #[Value.int .u64 a0, Value.int .u64 a1, Value.int .u64 a2, Value.int .u64 a3, Value.int .u64 a4, Value.int .u64 a5] 86)).alloc (Obj.cells #[Value.int .u64 b0, Value.int .u64 b1, Value.int .u64 b2, Value.int .u64 b3, Value.int .u64 b4, Value.int .u64 b5] 86)).alloc (Obj.cells #[Value.int .u64 0, Value.int .u64 0, Value.int .u64 0, Value.int .u64 0, Value.int .u64 0, Value.int .u64 0] 86)) = z at *
  generalize [a0, a1, a2, a3, a4, a5] = AA at *
  generalize [b0, b1, b2, b3, b4, b5] = BB at *
  have HAL := Lib.hid al
  have HBL := Lib.hid bl
  clear al bl
  have hal : Program.arrayLen Try.prog 86 = 6 := by kernel_rfl
  go_loopw [5, 6] (fun bw i wr => ∃ (j : Nat) (o : Int) (rs : List Int), bw = .int .u64 o ∧ 0 ≤ o ∧ o ≤ 1 ∧ i = .int .i64 (j : Int) ∧ j ≤ 6 ∧ Hid (rs.length = j) ∧ Hid (∀ x ∈ rs, 0 ≤ x ∧ x < 4294967296) ∧ Below w.heap.size w wr ∧ Hid (C6 w.heap.size (rs ++ AA.drop j) wr) ∧ Hid (C6 (w.heap.size + 1) BB wr) ∧ Hid (Cl [(w.heap.size + 1 + 1, 0, .int .u64 0), (w.heap.size + 1 + 1, 1, .int .u64 0), (w.heap.size + 1 + 1, 2, .int .u64 0), (w.heap.size + 1 + 1, 3, .int .u64 0), (w.heap.size + 1 + 1, 4, .int .u64 0), (w.heap.size + 1 + 1, 5, .int .u64 0)] wr) ∧ Hid (lval rs = lval (AA.take j) - lval (BB.take j) + o * 4294967296 ^ j)) (fun _ i _ => 6 - (intOf i).toNat)
  case atStart => exact ⟨0, 0, [], rfl, by omega, by omega, rfl, by omega, Lib.hid rfl, Lib.hid (by simp), B0, Lib.hid CA.out, CB, CR, Lib.hid (by simp [lval])⟩
  case round =>
    obtain ⟨j, o, rs, rfl, o0, o1, rfl, hj, HRL, HRB, hB, hCA, hCB, hCR, HV⟩ := hrel
    have j0 : (0 : Int) ≤ j := by omega
    by_cases hlt : j < 6
    · have j1 : (j : Int) < 6 := by omega
      have hja : j < AA.length := by rw [HAL.out]; exact hlt
      have hjb : j < BB.length := by rw [HBL.out]; exact hlt
      obtain ⟨c0, z0⟩ := hCA.out j hlt
      obtain ⟨d0, _⟩ := hCB.out j hlt
      rw [get_at HRL.out hja] at c0
      have ba : 0 ≤ AA.getD j 0 ∧ AA.getD j 0 < 4294967296 := HBA.out _ (by unfold List.getD; rw [List.getElem?_eq_getElem hja]; exact List.getElem_mem hja)
      have bb : 0 ≤ BB.getD j 0 ∧ BB.getD j 0 < 4294967296 := HBB.out _ (by unfold List.getD; rw [List.getElem?_eq_getElem hjb]; exact List.getElem_mem hjb)
      have HTA := Lib.hid (itake1 hja)
      have HTB := Lib.hid (itake1 hjb)
      obtain ⟨x, hx⟩ : ∃ x, AA.getD j 0 = x := ⟨_, rfl⟩
      obtain ⟨y, hy⟩ : ∃ y, BB.getD j 0 = y := ⟨_, rfl⟩
      rw [hx] at c0 ba HTA
      rw [hy] at d0 bb HTB
      clear hx hy
      obtain ⟨ba0, ba1⟩ := ba
      obtain ⟨bb0, bb1⟩ := bb
      obtain ⟨d, hd⟩ : ∃ d, y + o = d := ⟨_, rfl⟩
      have hd0 : 0 ≤ d ∧ d ≤ 4294967296 := by omega
      have HD := Lib.hid hd
      have wd : IntKind.u64.wrap (y + o) = d := by rw [hd, u64w]; omega
      have hlen6 : (rs ++ AA.drop j).length = 6 := by rw [List.length_append, List.length_drop, HRL.out, HAL.out]; omega
      have HL6 := Lib.hid hlen6
      clear hd hlen6
      have key : ∀ (r o' : Int), r = x - y - o + o' * 4294967296 → lval (rs ++ [r]) = lval (AA.take (j + 1)) - lval (BB.take (j + 1)) + o' * 4294967296 ^ (j + 1) := fun r o' hr => by
        have e1 : (AA.take j).length = j := by rw [List.length_take]; omega
        have e2 : (BB.take j).length = j := by rw [List.length_take]; omega
        rw [HTA.out, HTB.out, lval_snoc, lval_snoc, lval_snoc, HRL.out, e1, e2, Int.pow_succ]
        exact step_eq HV.out hr
      have key := Lib.hid key
      by_cases hlt2 : x < d
      · obtain ⟨r, hr⟩ : ∃ r, x + 4294967296 - d = r := ⟨_, rfl⟩
        have HK := Lib.hid (key.out r 1 (by have := HD.out; omega))
        have hr0 : 0 ≤ r ∧ r < 4294967296 := by omega
        have w1 : IntKind.u64.wrap (x + 4294967296) = x + 4294967296 := by rw [u64w]; omega
        have w2 : IntKind.u64.wrap (x + 4294967296 - d) = r := by rw [hr, u64w]; omega
        have HR1 : Hid ((rs ++ [r]).length = j + 1) := Lib.hid (by rw [List.length_append, HRL.out]; rfl)
        have HR2 : Hid (∀ x ∈ rs ++ [r], 0 ≤ x ∧ x < 4294967296) := Lib.hid (by
          intro x hx
          rcases List.mem_append.1 hx with h | h
          · exact HRB.out x h
          · rw [List.mem_singleton] at h; rw [h]; exact hr0)
        have CA1 := hCA.out.set (v := x + 4294967296) HL6.out hlt
        have CA2 := CA1.set (v := r) (by rw [List.length_set]; exact HL6.out) hlt
        rw [List.set_set, set_at HRL.out hja] at CA2
        have CB2 := (hCB.out.far (a := ⟨w.heap.size, j, none⟩) (v := .int .u64 (x + 4294967296)) (by simp)).far (a := ⟨w.heap.size, j, none⟩) (v := .int .u64 r) (by simp)
        have CR2 := (hCR.out.far (a := ⟨w.heap.size, j, none⟩) (x := .int .u64 (x + 4294967296)) (by simp only [List.forall_mem_cons]; simp; try omega)).far (a := ⟨w.heap.size, j, none⟩) (x := .int .u64 r) (by simp only [List.forall_mem_cons]; simp; try omega)
        have B2 := (hB.setCell (p := ⟨w.heap.size, j, none⟩) (Nat.le_refl _) (.int .u64 (x + 4294967296))).setCell (p := ⟨w.heap.size, j, none⟩) (Nat.le_refl _) (.int .u64 r)
        have CA2 := Lib.hid CA2
        have CB2 := Lib.hid CB2
        have CR2 := Lib.hid CR2
        clear hr hr0 CA1 hCA hCB hCR HL6 key HRL HRB HV HTA HTB HD
        go_wp2
        go_roundw
        case rel => exact ⟨j + 1, 1, rs ++ [r], rfl, by omega, by omega, by go_num, by omega, HR1, HR2, B2, CA2, CB2, CR2, HK⟩
        case measure => simp [intOf]; omega
      · obtain ⟨r, hr⟩ : ∃ r, x - d = r := ⟨_, rfl⟩
        have HK := Lib.hid (key.out r 0 (by have := HD.out; omega))
        have hr0 : 0 ≤ r ∧ r < 4294967296 := by omega
        have w2 : IntKind.u64.wrap (x - d) = r := by rw [hr, u64w]; omega
        have HR1 : Hid ((rs ++ [r]).length = j + 1) := Lib.hid (by rw [List.length_append, HRL.out]; rfl)
        have HR2 : Hid (∀ x ∈ rs ++ [r], 0 ≤ x ∧ x < 4294967296) := Lib.hid (by
          intro x hx
          rcases List.mem_append.1 hx with h | h
          · exact HRB.out x h
          · rw [List.mem_singleton] at h; rw [h]; exact hr0)
        have CA2 := hCA.out.set (v := r) HL6.out hlt
        rw [set_at HRL.out hja] at CA2
        have CB2 := hCB.out.far (a := ⟨w.heap.size, j, none⟩) (v := .int .u64 r) (by simp)
        have CR2 := hCR.out.far (a := ⟨w.heap.size, j, none⟩) (x := .int .u64 r) (by simp only [List.forall_mem_cons]; simp; try omega)
        have B2 := hB.setCell (p := ⟨w.heap.size, j, none⟩) (Nat.le_refl _) (.int .u64 r)
        have CA2 := Lib.hid CA2
        have CB2 := Lib.hid CB2
        have CR2 := Lib.hid CR2
        clear hr hr0 hCA hCB hCR HL6 key HRL HRB HV HTA HTB HD
        go_wp2
        go_roundw
        case rel => exact ⟨j + 1, 0, rs ++ [r], rfl, by omega, by omega, by go_num, by omega, HR1, HR2, B2, CA2, CB2, CR2, HK⟩
        case measure => simp [intOf]; omega
    · obtain rfl : j = 6 := by omega
      have hc := hCA.out
      rw [List.drop_of_length_le (by rw [HAL.out]; exact Nat.le_refl _), List.append_nil] at hc
      have hb1 := lval_bd rs HRB.out
      have hv := HV.out
      rw [List.take_of_length_le (by rw [HAL.out]; exact Nat.le_refl _), List.take_of_length_le (by rw [HBL.out]; exact Nat.le_refl _)] at hv
      have hrl := HRL.out
      rw [hrl] at hb1
      have hle := HLE.out
      have hv2 : lval rs = lval AA - lval BB := by
        have ha := lval_bd AA HBA.out
        have hb := lval_bd BB HBB.out
        rw [HAL.out] at ha
        rw [HBL.out] at hb
        generalize lval rs = p at *
        generalize lval AA = q at *
        generalize lval BB = s at *
        omega
      obtain ⟨r0, r1, r2, r3, r4, r5, rfl⟩ : ∃ r0 r1 r2 r3 r4 r5 : Int, rs = [r0, r1, r2, r3, r4, r5] := by
        match rs, hrl with
        | [r0, r1, r2, r3, r4, r5], _ => exact ⟨r0, r1, r2, r3, r4, r5, rfl⟩
      have HV2 := Lib.hid (show dval r0 r1 r2 r3 r4 r5 = lval AA - lval BB by rw [← lval_6]; exact hv2)
      have HB2 := HRB.out
      simp only [List.forall_mem_cons] at HB2
      have HB2 := Lib.hid HB2
      have m0 : wr.cell? ⟨w.heap.size, 0, none⟩ = some (.int .u64 r0) := (hc 0 (by omega)).1
      have m1 : wr.cell? ⟨w.heap.size, 1, none⟩ = some (.int .u64 r1) := (hc 1 (by omega)).1
      have m2 : wr.cell? ⟨w.heap.size, 2, none⟩ = some (.int .u64 r2) := (hc 2 (by omega)).1
      have m3 : wr.cell? ⟨w.heap.size, 3, none⟩ = some (.int .u64 r3) := (hc 3 (by omega)).1
      have m4 : wr.cell? ⟨w.heap.size, 4, none⟩ = some (.int .u64 r4) := (hc 4 (by omega)).1
      have m5 : wr.cell? ⟨w.heap.size, 5, none⟩ = some (.int .u64 r5) := (hc 5 (by omega)).1
      have n0 := hCR.out.head
      have zn0 := hCR.out.headF
      have n1 := hCR.out.tail.head
      have zn1 := hCR.out.tail.headF
      have n2 := hCR.out.tail.tail.head
      have zn2 := hCR.out.tail.tail.headF
      have n3 := hCR.out.tail.tail.tail.head
      have zn3 := hCR.out.tail.tail.tail.headF
      have n4 := hCR.out.tail.tail.tail.tail.head
      have zn4 := hCR.out.tail.tail.tail.tail.headF
      have n5 := hCR.out.tail.tail.tail.tail.tail.head
      have zn5 := hCR.out.tail.tail.tail.tail.tail.headF
      have K := hB
      clear hc hb1 hv hle hv2 hrl HV HRB hCA hCB hCR HRL
      go_wp2
      exact bodyPost_ret (v := .agg #[.int .u64 r0, .int .u64 r1, .int .u64 r2, .int .u64 r3, .int .u64 r4, .int .u64 r5]) (by simp [results, Try.results67, go_sem, n0, n1, n2, n3, n4, n5, zn0, zn1, zn2, zn3, zn4, zn5]) rfl ⟨r0, r1, r2, r3, r4, r5, rfl, ⟨HB2.out.1, HB2.out.2.1, HB2.out.2.2.1, HB2.out.2.2.2.1, HB2.out.2.2.2.2.1, HB2.out.2.2.2.2.2.1⟩, HV2.out, put6_below K (by omega)⟩
theorem mag_same {v a : Int} (h : decide (v < 0) = decide (a < 0)) : mag v * mag a = v * a := by
  unfold mag
  by_cases h1 : v < 0
  · have h2 : a < 0 := by rw [decide_eq_true h1] at h; exact of_decide_eq_true h.symm
    rw [if_pos h1, if_pos h2, Int.neg_mul_neg]
  · have h2 : ¬ a < 0 := by rw [decide_eq_false h1] at h; exact of_decide_eq_false h.symm
    rw [if_neg h1, if_neg h2]
theorem mag_diff {v a : Int} (h : decide (v < 0) ≠ decide (a < 0)) : mag v * mag a = -(v * a) := by
  unfold mag
  by_cases h1 : v < 0
  · have h2 : ¬ a < 0 := fun h2 => h (by rw [decide_eq_true h1, decide_eq_true h2])
    rw [if_pos h1, if_neg h2, Int.neg_mul]
  · have h2 : a < 0 := by
      by_cases h2 : a < 0
      · exact h2
      · exact absurd (by rw [decide_eq_false h1, decide_eq_false h2]) h
    rw [if_neg h1, if_pos h2, Int.mul_neg]
theorem mag_mul_bd {v a : Int} (hv : 0 ≤ mag v ∧ mag v ≤ 9223372036854775808) (ha : 0 ≤ mag a ∧ mag a ≤ 9223372036854775808) : 0 ≤ mag v * mag a ∧ mag v * mag a ≤ 85070591730234615865843651857942052864 := by
  have h1 : mag v * mag a ≤ 9223372036854775808 * mag a := Int.mul_le_mul_of_nonneg_right hv.2 ha.1
  have h0 : 0 ≤ mag v * mag a := Int.mul_nonneg hv.1 ha.1
  generalize mag v * mag a = x at *
  omega
theorem dval_nn {p0 p1 p2 p3 p4 p5 : Int} (h : ((0 ≤ p0 ∧ p0 < 4294967296) ∧ (0 ≤ p1 ∧ p1 < 4294967296) ∧ (0 ≤ p2 ∧ p2 < 4294967296) ∧ (0 ≤ p3 ∧ p3 < 4294967296) ∧ (0 ≤ p4 ∧ p4 < 4294967296) ∧ (0 ≤ p5 ∧ p5 < 4294967296))) : 0 ≤ dval p0 p1 p2 p3 p4 p5 := by unfold dval; omega
set_option maxRecDepth 100000 in
set_option maxHeartbeats 64000000 in
theorem eval2n (k : Int) (p : Option Addr) (xs : List Mo) (c : Nat) (q : Option Addr) (es : List Mo) (d : Nat) (w : World) (hn : xs.length ≤ 1000) (hm : es.length ≤ maxLen) (RA : Hid (SlM w p xs)) (RB : Hid (SlM w q es))
    (RS : Hid (∀ i, i < xs.length → (xs.getD i mo0).1.size ≤ maxLen ∧ -9223372036854775808 ≤ (xs.getD i mo0).2 ∧ (xs.getD i mo0).2 ≤ 9223372036854775807)) (RT : Hid (∀ i, i < es.length → (es.getD i mo0).1.size ≤ maxLen ∧ -9223372036854775808 ≤ (es.getD i mo0).2 ∧ (es.getD i mo0).2 ≤ 9223372036854775807))
    (k1 : -9223372036854775808 ≤ k) (k2 : k ≤ 9223372036854775807) (hk0 : k < 0) :
    Calls Try.prog 34 #[Lv k p xs.length c, .slice q es.length d] w (EW k xs es w) := by
  have C1 := Lib.hid fun (u : World) (h : Hid (SlM u p xs)) => val2 k p xs c u (by unfold maxLen; omega) h (Lib.hid fun i hi => (RS.out i hi).1)
  have CX := Lib.hid fun (s : ByteArray) (u : World) (h : Hid (SlM u q es)) => find1 q es d s u hm h
  have CBD := Lib.hid (co_bd RT.out)
  have SZ := Lib.hid size1
  have PL := Lib.hid plusW
  have LE := Lib.hid less1
  have MI := Lib.hid minus1
  have B0 : Below w.heap.size w (w.alloc (Obj.cells #[Value.int .i64 k, Value.slice p xs.length c] 44)) := (Below.refl _ _).alloc (Nat.le_refl _) _
  have F0 : Cl [(w.heap.size, 0, .int .i64 k), (w.heap.size, 1, .slice p xs.length c)] (w.alloc (Obj.cells #[Value.int .i64 k, Value.slice p xs.length c] 44)) := Cl.cons (by go_cell) (by first | go_cell | simp) (Cl.cons (by go_cell) (by first | go_cell | simp) (Cl.nil _))
  have S0 : w.heap.size < ((w.alloc (Obj.cells #[Value.int .i64 k, Value.slice p xs.length c] 44))).heap.size := by simp
  unfold maxLen at hm
  unfold Lv at *
  obtain ⟨ok, hok⟩ : ∃ ok, okL xs = ok := ⟨_, rfl⟩
  have HK := Lib.hid hok
  cases ok
  · have hv : vL xs = 1 := by unfold vL; rw [hok]; rfl
    rw [hv] at C1
    clear hok hv
    go_enter Try.func34, Try.ntmps34
    go_wp2_with fail
    generalize (w.alloc (Obj.cells #[Value.int .i64 k, Value.slice p xs.length c] 44)) = z at *
    refine (C1.out _ (Lib.hid (SlM.keep B0 RA.out))).mono ?_
    rintro e w1 ⟨rfl, hb⟩
    have K1 := B0.trans (hb.mono B0.size)
    clear F0 hb B0 S0
    go_wp2
    go_ret2
    exact ⟨0, 1, rfl, .inl ⟨HK.out, rfl, rfl⟩, K1⟩
  · have hv : vL xs = 0 := by unfold vL; rw [hok]; rfl
    rw [hv] at C1
    clear hok hv
    go_enter Try.func34, Try.ntmps34
    go_wp2_with fail
    generalize (w.alloc (Obj.cells #[Value.int .i64 k, Value.slice p xs.length c] 44)) = z at *
    refine (C1.out _ (Lib.hid (SlM.keep B0 RA.out))).mono ?_
    rintro e w1 ⟨rfl, hb⟩
    replace F0 := F0.below hb
    replace B0 := B0.trans (hb.mono B0.size)
    replace S0 := Nat.lt_of_lt_of_le S0 hb.size
    have hB := (B0.alloc B0.size (Obj.cells #[Value.int .u64 0, Value.int .u64 0, Value.int .u64 0, Value.int .u64 0, Value.int .u64 0, Value.int .u64 0] 86)).alloc (by have := B0.size; simp; omega) (Obj.cells #[Value.int .u64 0, Value.int .u64 0, Value.int .u64 0, Value.int .u64 0, Value.int .u64 0, Value.int .u64 0] 86)
    have hF : Hid (Cl [(w1.heap.size, 0, .int .u64 0), (w1.heap.size, 1, .int .u64 0), (w1.heap.size, 2, .int .u64 0), (w1.heap.size, 3, .int .u64 0), (w1.heap.size, 4, .int .u64 0), (w1.heap.size, 5, .int .u64 0), (w1.heap.size + 1, 0, .int .u64 0), (w1.heap.size + 1, 1, .int .u64 0), (w1.heap.size + 1, 2, .int .u64 0), (w1.heap.size + 1, 3, .int .u64 0), (w1.heap.size + 1, 4, .int .u64 0), (w1.heap.size + 1, 5, .int .u64 0), (w.heap.size, 0, .int .i64 k), (w.heap.size, 1, .slice p xs.length c)] ((w1.alloc (Obj.cells #[Value.int .u64 0, Value.int .u64 0, Value.int .u64 0, Value.int .u64 0, Value.int .u64 0, Value.int .u64 0] 86)).alloc (Obj.cells #[Value.int .u64 0, Value.int .u64 0, Value.int .u64 0, Value.int .u64 0, Value.int .u64 0, Value.int .u64 0] 86))) := Lib.hid (Cl.cons (by go_cell) (by first | go_cell | simp) (Cl.cons (by go_cell) (by first | go_cell | simp) (Cl.cons (by go_cell) (by first | go_cell | simp) (Cl.cons (by go_cell) (by first | go_cell | simp) (Cl.cons (by go_cell) (by first | go_cell | simp) (Cl.cons (by go_cell) (by first | go_cell | simp) (Cl.cons (by go_cell) (by first | go_cell | simp) (Cl.cons (by go_cell) (by first | go_cell | simp) (Cl.cons (by go_cell) (by first | go_cell | simp) (Cl.cons (by go_cell) (by first | go_cell | simp) (Cl.cons (by go_cell) (by first | go_cell | simp) (Cl.cons (by go_cell) (by first | go_cell | simp) (((F0.below ((Below.refl _ _).alloc (Nat.le_refl _) (Obj.cells #[Value.int .u64 0, Value.int .u64 0, Value.int .u64 0, Value.int .u64 0, Value.int .u64 0, Value.int .u64 0] 86))).below ((Below.refl _ _).alloc (Nat.le_refl _) (Obj.cells #[Value.int .u64 0, Value.int .u64 0, Value.int .u64 0, Value.int .u64 0, Value.int .u64 0, Value.int .u64 0] 86))))))))))))))))
    have f0 := (hF.out w.heap.size 0 (.int .i64 k) (by simp)).1
    have hg0 := S0
    clear hb C1 F0 B0
    go_wp2_with fail
    generalize (w1.alloc (Obj.cells #[Value.int .u64 0, Value.int .u64 0, Value.int .u64 0, Value.int .u64 0, Value.int .u64 0, Value.int .u64 0] 86)).alloc (Obj.cells #[Value.int .u64 0, Value.int .u64 0, Value.int .u64 0, Value.int .u64 0, Value.int .u64 0, Value.int .u64 0] 86) = u0 at *
    generalize w1.heap.size = gp at *
    clear f0
    have hm1 : 0 ≤ mag k ∧ mag k < 18446744073709551616 := by have := mag_bd k1 k2; omega
    have hm2 : (0 : Int) ≤ 1 ∧ (1 : Int) < 18446744073709551616 := by omega
    have hmv : dval 0 0 0 0 0 0 + mag k * 1 < 6277101735386680763835789423207666416102355444464034512896 := by have := mag_bd k1 k2; unfold dval; omega
    have HDP : Hid ((0 ≤ (0 : Int) ∧ (0 : Int) < 4294967296) ∧ (0 ≤ (0 : Int) ∧ (0 : Int) < 4294967296) ∧ (0 ≤ (0 : Int) ∧ (0 : Int) < 4294967296) ∧ (0 ≤ (0 : Int) ∧ (0 : Int) < 4294967296) ∧ (0 ≤ (0 : Int) ∧ (0 : Int) < 4294967296) ∧ (0 ≤ (0 : Int) ∧ (0 : Int) < 4294967296)) := Lib.hid (by omega)
    have HDN : Hid ((0 ≤ (0 : Int) ∧ (0 : Int) < 4294967296) ∧ (0 ≤ (0 : Int) ∧ (0 : Int) < 4294967296) ∧ (0 ≤ (0 : Int) ∧ (0 : Int) < 4294967296) ∧ (0 ≤ (0 : Int) ∧ (0 : Int) < 4294967296) ∧ (0 ≤ (0 : Int) ∧ (0 : Int) < 4294967296) ∧ (0 ≤ (0 : Int) ∧ (0 : Int) < 4294967296)) := Lib.hid (by omega)
    go_wp2_with fail
    have hz9 : u0.drew.cell? ⟨gp + 1, 0, none⟩ = some (.int .u64 0) ∧ u0.drew.cell? ⟨gp + 1, 1, none⟩ = some (.int .u64 0) ∧ u0.drew.cell? ⟨gp + 1, 2, none⟩ = some (.int .u64 0) ∧ u0.drew.cell? ⟨gp + 1, 3, none⟩ = some (.int .u64 0) ∧ u0.drew.cell? ⟨gp + 1, 4, none⟩ = some (.int .u64 0) ∧ u0.drew.cell? ⟨gp + 1, 5, none⟩ = some (.int .u64 0) ∧ u0.drew.cell? ⟨w.heap.size, 0, none⟩ = some (.int .i64 k) := ⟨(hF.out (gp + 1) 0 (.int .u64 0) (by simp)).1, (hF.out (gp + 1) 1 (.int .u64 0) (by simp)).1, (hF.out (gp + 1) 2 (.int .u64 0) (by simp)).1, (hF.out (gp + 1) 3 (.int .u64 0) (by simp)).1, (hF.out (gp + 1) 4 (.int .u64 0) (by simp)).1, (hF.out (gp + 1) 5 (.int .u64 0) (by simp)).1, (hF.out w.heap.size 0 (.int .i64 k) (by simp)).1⟩
    refine Rk.begin (S := fun wS => wS.cell? ⟨gp + 1, 0, none⟩ = some (.int .u64 0) ∧ wS.cell? ⟨gp + 1, 1, none⟩ = some (.int .u64 0) ∧ wS.cell? ⟨gp + 1, 2, none⟩ = some (.int .u64 0) ∧ wS.cell? ⟨gp + 1, 3, none⟩ = some (.int .u64 0) ∧ wS.cell? ⟨gp + 1, 4, none⟩ = some (.int .u64 0) ∧ wS.cell? ⟨gp + 1, 5, none⟩ = some (.int .u64 0) ∧ wS.cell? ⟨w.heap.size, 0, none⟩ = some (.int .i64 k)) 5 (by kernel_rfl) hz9 (fun hHeld => ?_)
    refine Rk.take [5] (i := 0) (v := ?_) rfl (by kernel_rfl) (by kernel_rfl) (by kernel_rfl) (by kernel_rfl) (by kernel_rfl) (fun _ _ _ h => h) (Or.inl ⟨by kernel_rfl, ?_⟩) (by assumption) ?_
    rotate_left
    · ((intro w hSw; (try dsimp only at hSw); go_simp) <;> with_reducible rfl)
    try simp only [Act.put, List.setIfInBounds_toArray, List.set_cons_zero, List.set_cons_succ]
    refine Rk.takeP (i := 1) (v := ?_) rfl (by kernel_rfl) (by kernel_rfl) (by kernel_rfl) (by kernel_rfl) (fun _ _ _ h => h) (Or.inl ⟨by kernel_rfl, ?_⟩) (by assumption) ?_
    rotate_left
    · ((intro w hSw; go_simp) <;> with_reducible rfl)
    try simp only [Act.put, List.setIfInBounds_toArray, List.set_cons_zero, List.set_cons_succ]
    refine Rk.take [5] (i := 2) (v := ?_) rfl (by kernel_rfl) (by kernel_rfl) (by kernel_rfl) (by kernel_rfl) (by kernel_rfl) (fun _ _ _ h => h) (Or.inl ⟨by kernel_rfl, ?_⟩) (by assumption) ?_
    rotate_left
    · ((intro w hSw; (try dsimp only at hSw); go_simp) <;> with_reducible rfl)
    try simp only [Act.put, List.setIfInBounds_toArray, List.set_cons_zero, List.set_cons_succ]
    refine Rk.one (i := 3) (by kernel_rfl) rfl (fun KK hK => ?_)
    rw [if_pos (by kernel_rfl)]
    go_simp
    ((with_reducible refine (SZ.out k _ k1 k2).mono ?_); rintro e uu ⟨rfl, rfl⟩)
    refine hK.out _ _ hHeld (fun hHeld => ?_)
    clear hK KK
    refine Rk.one (i := 4) (by kernel_rfl) rfl (fun KK hK => ?_)
    rw [if_pos (by kernel_rfl)]
    go_simp
    ((with_reducible refine (PL.out 0 0 0 0 0 0 (mag k) 1 _ HDN.out hm1 hm2 hmv).mono ?_); rintro e u2 ⟨f0, f1, f2, f3, f4, f5, rfl, hfb, hfv, hb2⟩)
    refine hK.out _ _ ⟨kp hb2 (lt_of_cell hHeld.1) hHeld.1, kp hb2 (lt_of_cell hHeld.2.1) hHeld.2.1, kp hb2 (lt_of_cell hHeld.2.2.1) hHeld.2.2.1, kp hb2 (lt_of_cell hHeld.2.2.2.1) hHeld.2.2.2.1, kp hb2 (lt_of_cell hHeld.2.2.2.2.1) hHeld.2.2.2.2.1, kp hb2 (lt_of_cell hHeld.2.2.2.2.2.1) hHeld.2.2.2.2.2.1, kp hb2 (lt_of_cell hHeld.2.2.2.2.2.2) hHeld.2.2.2.2.2.2⟩ (fun hHeld => ?_)
    clear hK KK
    refine Rk.tail [5] [_] (by kernel_rfl) (by kernel_rfl) rfl (by decide) ?_
    have F5 := (Cl.drew hF.out).below hb2
    have K5 := (hB.drew).trans (hb2.mono hB.size)
    obtain ⟨s0, zs0⟩ := F5 (gp + 1) 0 (.int .u64 0) (by simp)
    obtain ⟨s1, zs1⟩ := F5 (gp + 1) 1 (.int .u64 0) (by simp)
    obtain ⟨s2, zs2⟩ := F5 (gp + 1) 2 (.int .u64 0) (by simp)
    obtain ⟨s3, zs3⟩ := F5 (gp + 1) 3 (.int .u64 0) (by simp)
    obtain ⟨s4, zs4⟩ := F5 (gp + 1) 4 (.int .u64 0) (by simp)
    obtain ⟨s5, zs5⟩ := F5 (gp + 1) 5 (.int .u64 0) (by simp)
    have FT : Cl ([(gp + 1, 0, .int .u64 f0), (gp + 1, 1, .int .u64 f1), (gp + 1, 2, .int .u64 f2), (gp + 1, 3, .int .u64 f3), (gp + 1, 4, .int .u64 f4), (gp + 1, 5, .int .u64 f5)] ++ [(gp, 0, .int .u64 0), (gp, 1, .int .u64 0), (gp, 2, .int .u64 0), (gp, 3, .int .u64 0), (gp, 4, .int .u64 0), (gp, 5, .int .u64 0), (w.heap.size, 0, .int .i64 k), (w.heap.size, 1, .slice p xs.length c)]) ((((((u2.setCell ⟨gp + 1, 0, none⟩ (.int .u64 f0)).setCell ⟨gp + 1, 1, none⟩ (.int .u64 f1)).setCell ⟨gp + 1, 2, none⟩ (.int .u64 f2)).setCell ⟨gp + 1, 3, none⟩ (.int .u64 f3)).setCell ⟨gp + 1, 4, none⟩ (.int .u64 f4)).setCell ⟨gp + 1, 5, none⟩ (.int .u64 f5)) := (put6 (F5.sub (L' := [(gp + 1, 0, .int .u64 0), (gp + 1, 1, .int .u64 0), (gp + 1, 2, .int .u64 0), (gp + 1, 3, .int .u64 0), (gp + 1, 4, .int .u64 0), (gp + 1, 5, .int .u64 0)]) (by intro x hx; simp only [List.mem_cons, List.not_mem_nil, or_false] at hx ⊢; rcases hx with h | h | h | h | h | h <;> simp [h]))).append (put6_far (F5.sub (L' := [(gp, 0, .int .u64 0), (gp, 1, .int .u64 0), (gp, 2, .int .u64 0), (gp, 3, .int .u64 0), (gp, 4, .int .u64 0), (gp, 5, .int .u64 0), (w.heap.size, 0, .int .i64 k), (w.heap.size, 1, .slice p xs.length c)]) (by intro x hx; simp only [List.mem_cons, List.not_mem_nil, or_false] at hx ⊢; rcases hx with h | h | h | h | h | h | h | h <;> simp [h])) (by simp only [List.forall_mem_cons]; simp; omega))
    have hF2 : Hid (Cl [(gp, 0, .int .u64 0), (gp, 1, .int .u64 0), (gp, 2, .int .u64 0), (gp, 3, .int .u64 0), (gp, 4, .int .u64 0), (gp, 5, .int .u64 0), (gp + 1, 0, .int .u64 f0), (gp + 1, 1, .int .u64 f1), (gp + 1, 2, .int .u64 f2), (gp + 1, 3, .int .u64 f3), (gp + 1, 4, .int .u64 f4), (gp + 1, 5, .int .u64 f5), (w.heap.size, 0, .int .i64 k), (w.heap.size, 1, .slice p xs.length c)] ((((((u2.setCell ⟨gp + 1, 0, none⟩ (.int .u64 f0)).setCell ⟨gp + 1, 1, none⟩ (.int .u64 f1)).setCell ⟨gp + 1, 2, none⟩ (.int .u64 f2)).setCell ⟨gp + 1, 3, none⟩ (.int .u64 f3)).setCell ⟨gp + 1, 4, none⟩ (.int .u64 f4)).setCell ⟨gp + 1, 5, none⟩ (.int .u64 f5))) := Lib.hid (FT.sub (by intro x hx; simp only [List.mem_cons, List.not_mem_nil, or_false, List.mem_append] at hx ⊢; rcases hx with h | h | h | h | h | h | h | h | h | h | h | h | h | h <;> simp [h]))
    have hB2 := put6_below (g := gp + 1) (e0 := f0) (e1 := f1) (e2 := f2) (e3 := f3) (e4 := f4) (e5 := f5) K5 (by omega)
    have HDF := Lib.hid hfb
    have HFV := Lib.hid hfv
    clear hHeld hz9 F5 K5 FT hfb hfv hb2 hF hB
    have HV0 : Hid (dval 0 0 0 0 0 0 - dval f0 f1 f2 f3 f4 f5 = k + evS es (xs.take 0)) := Lib.hid (by have h1 := HFV.out; have h2 : mag k = -k := (by unfold mag; rw [if_pos hk0]); rw [h2] at h1; rw [h1, List.take_zero]; unfold dval; simp only [evS]; omega)
    have HB0 : Hid (dval 0 0 0 0 0 0 ≤ 85070591730234615865843651857942052864 * (((0 : Nat) : Int) + 1) ∧ dval f0 f1 f2 f3 f4 f5 ≤ 85070591730234615865843651857942052864 * (((0 : Nat) : Int) + 1)) := Lib.hid (by have h1 := HFV.out; have h2 := mag_bd k1 k2; rw [h1]; unfold dval; omega)
    clear HFV hm1 hm2 hmv
    have q1 : ((((((u2.setCell ⟨gp + 1, 0, none⟩ (.int .u64 f0)).setCell ⟨gp + 1, 1, none⟩ (.int .u64 f1)).setCell ⟨gp + 1, 2, none⟩ (.int .u64 f2)).setCell ⟨gp + 1, 3, none⟩ (.int .u64 f3)).setCell ⟨gp + 1, 4, none⟩ (.int .u64 f4)).setCell ⟨gp + 1, 5, none⟩ (.int .u64 f5)).cell? ⟨w.heap.size, 1, none⟩ = some (.slice p xs.length c) := (hF2.out w.heap.size 1 (.slice p xs.length c) (by simp)).1
    go_wp2_with fail
    generalize ((((((u2.setCell ⟨gp + 1, 0, none⟩ (.int .u64 f0)).setCell ⟨gp + 1, 1, none⟩ (.int .u64 f1)).setCell ⟨gp + 1, 2, none⟩ (.int .u64 f2)).setCell ⟨gp + 1, 3, none⟩ (.int .u64 f3)).setCell ⟨gp + 1, 4, none⟩ (.int .u64 f4)).setCell ⟨gp + 1, 5, none⟩ (.int .u64 f5)) = u3 at *
    clear s0 s1 s2 s3 s4 s5 zs0 zs1 zs2 zs3 zs4 zs5
    go_loopw [8] (fun i wr => ∃ (j : Nat) (p0 p1 p2 p3 p4 p5 m0 m1 m2 m3 m4 m5 : Int), i = .int .i64 (j : Int) ∧ j ≤ xs.length ∧ Below w.heap.size w wr ∧ Hid (Cl [(gp, 0, .int .u64 p0), (gp, 1, .int .u64 p1), (gp, 2, .int .u64 p2), (gp, 3, .int .u64 p3), (gp, 4, .int .u64 p4), (gp, 5, .int .u64 p5), (gp + 1, 0, .int .u64 m0), (gp + 1, 1, .int .u64 m1), (gp + 1, 2, .int .u64 m2), (gp + 1, 3, .int .u64 m3), (gp + 1, 4, .int .u64 m4), (gp + 1, 5, .int .u64 m5), (w.heap.size, 0, .int .i64 k), (w.heap.size, 1, .slice p xs.length c)] wr) ∧ Hid ((0 ≤ p0 ∧ p0 < 4294967296) ∧ (0 ≤ p1 ∧ p1 < 4294967296) ∧ (0 ≤ p2 ∧ p2 < 4294967296) ∧ (0 ≤ p3 ∧ p3 < 4294967296) ∧ (0 ≤ p4 ∧ p4 < 4294967296) ∧ (0 ≤ p5 ∧ p5 < 4294967296)) ∧ Hid ((0 ≤ m0 ∧ m0 < 4294967296) ∧ (0 ≤ m1 ∧ m1 < 4294967296) ∧ (0 ≤ m2 ∧ m2 < 4294967296) ∧ (0 ≤ m3 ∧ m3 < 4294967296) ∧ (0 ≤ m4 ∧ m4 < 4294967296) ∧ (0 ≤ m5 ∧ m5 < 4294967296)) ∧ Hid (dval p0 p1 p2 p3 p4 p5 - dval m0 m1 m2 m3 m4 m5 = k + evS es (xs.take j)) ∧ Hid (dval p0 p1 p2 p3 p4 p5 ≤ 85070591730234615865843651857942052864 * ((j : Int) + 1) ∧ dval m0 m1 m2 m3 m4 m5 ≤ 85070591730234615865843651857942052864 * ((j : Int) + 1)) ∧ Hid (∀ m ∈ xs.take j, m.1 ∈ es.map (·.1))) (fun i _ => xs.length - (intOf i).toNat)
    case atStart => exact ⟨0, 0, 0, 0, 0, 0, 0, f0, f1, f2, f3, f4, f5, rfl, by omega, hB2, hF2, HDP, HDF, HV0, HB0, Lib.hid (by simp)⟩
    case round =>
      clear q1 HDP HDN HDF hF2 hB2 HV0 HB0
      obtain ⟨j, p0, p1, p2, p3, p4, p5, m0, m1, m2, m3, m4, m5, rfl, hj, hB, hF, HDP, HDN, HVJ, HBJ, HI⟩ := hrel
      have j0 : (0 : Int) ≤ j := by omega
      by_cases hlt : j < xs.length
      · obtain ⟨b, o, rfl, c0, c1⟩ := SlM.keep hB RA.out j hlt
        have htk := Lib.hid (take_step hlt)
        have hmm := Lib.hid (getD_mem hlt)
        have hrs := RS.out j hlt
        obtain ⟨⟨s, a⟩, hx⟩ : ∃ x, xs.getD j mo0 = x := ⟨_, rfl⟩
        replace htk := Lib.hid (by have h := htk.out; rw [hx] at h; exact h)
        replace hmm := Lib.hid (by have h := hmm.out; rw [hx] at h; exact h)
        rw [hx] at c0 c1 hrs
        simp only at c0 c1 hrs
        clear hx
        obtain ⟨_, a1, a2⟩ := hrs
        have j1 : (j : Int) < xs.length := by omega
        have q1 := (hF.out w.heap.size 1 (.slice (some ⟨b, o, none⟩) xs.length c) (by simp)).1
        go_wp2_with fail
        refine (CX.out s wr (Lib.hid (SlM.keep hB RB.out))).mono ?_
        rintro e w3 ⟨hb, ⟨hno, rfl⟩ | ⟨hin, he⟩⟩
        · have K3 := hB.trans (hb.mono hB.size)
          have HE := Lib.hid (show EV k xs es 0 9 from .inr (.inl ⟨HK.out, ⟨(s, a), hmm.out, hno⟩, rfl, rfl⟩))
          clear hno hb
          go_wp2
          go_ret2
          exact ⟨0, 9, rfl, HE.out, K3⟩
        · replace hF := Lib.hid (hF.out.below hb)
          replace hB := hB.trans (hb.mono hB.size)
          replace c1 := kp hb (lt_of_cell c1) c1
          replace q1 := kp hb (lt_of_cell q1) q1
          have hvb := CBD.out s
          have HIN := Lib.hid hin
          obtain ⟨v, hv⟩ : ∃ v, co es s = v := ⟨_, rfl⟩
          rw [hv] at hvb he
          obtain rfl := he
          have HC := Lib.hid hv
          obtain ⟨v1, v2⟩ := hvb
          have HI2 : Hid (∀ m ∈ xs.take (j + 1), m.1 ∈ es.map (·.1)) := Lib.hid (by
            rw [htk.out]
            intro m hm'
            rcases List.mem_append.1 hm' with h | h
            · exact HI.out m h
            · rw [List.mem_singleton] at h; rw [h]; exact HIN.out)
          have HSUM := Lib.hid (show k + evS es (xs.take (j + 1)) = k + evS es (xs.take j) + v * a by rw [htk.out, evS_app]; simp only [evS]; rw [HC.out, Int.mul_comm v a]; omega)
          have mbv := mag_bd v1 v2
          have mba := mag_bd a1 a2
          have mpb := mag_mul_bd mbv mba
          have hm1 : 0 ≤ mag v ∧ mag v < 18446744073709551616 := by omega
          have hm2 : 0 ≤ mag a ∧ mag a < 18446744073709551616 := by omega
          clear hb hin hv c0 HI htk hmm
          obtain ⟨z1, hz1⟩ : ∃ z, decide (v < 0) = z := ⟨_, rfl⟩
          obtain ⟨z2, hz2⟩ : ∃ z, decide (a < 0) = z := ⟨_, rfl⟩
          have HMS := Lib.hid fun h : z1 = z2 => mag_same (v := v) (a := a) (by rw [hz1, hz2]; exact h)
          have HMD := Lib.hid fun h : z1 ≠ z2 => mag_diff (v := v) (a := a) (by rw [hz1, hz2]; exact h)
          obtain ⟨pr, hpr⟩ : ∃ x, mag v * mag a = x := ⟨_, rfl⟩
          rw [hpr] at mpb HMS HMD
          have HPR := Lib.hid hpr
          have mpb := Lib.hid mpb
          clear hpr mbv mba
          cases z1 <;> cases z2
          · have hmv : dval p0 p1 p2 p3 p4 p5 + mag v * mag a < 6277101735386680763835789423207666416102355444464034512896 := by rw [HPR.out]; have h1 := HBJ.out; have h2 := mpb.out; omega
            have HP9 := Lib.hid (HMS.out rfl)
            clear HMS HMD
            go_wp2_with fail
            have hz9 : w3.drew.cell? ⟨gp, 0, none⟩ = some (.int .u64 p0) ∧ w3.drew.cell? ⟨gp, 1, none⟩ = some (.int .u64 p1) ∧ w3.drew.cell? ⟨gp, 2, none⟩ = some (.int .u64 p2) ∧ w3.drew.cell? ⟨gp, 3, none⟩ = some (.int .u64 p3) ∧ w3.drew.cell? ⟨gp, 4, none⟩ = some (.int .u64 p4) ∧ w3.drew.cell? ⟨gp, 5, none⟩ = some (.int .u64 p5) ∧ w3.drew.cell? ⟨w.heap.size, 1, none⟩ = some (.slice (some ⟨b, o, none⟩) xs.length c) ∧ w3.drew.cell? ⟨b, o + j * 2 + 1, none⟩ = some (.int .i64 a) := ⟨(hF.out (gp) 0 (.int .u64 p0) (by simp)).1, (hF.out (gp) 1 (.int .u64 p1) (by simp)).1, (hF.out (gp) 2 (.int .u64 p2) (by simp)).1, (hF.out (gp) 3 (.int .u64 p3) (by simp)).1, (hF.out (gp) 4 (.int .u64 p4) (by simp)).1, (hF.out (gp) 5 (.int .u64 p5) (by simp)).1, (hF.out w.heap.size 1 (.slice (some ⟨b, o, none⟩) xs.length c) (by simp)).1, c1⟩
            refine Rk.begin (S := fun wS => wS.cell? ⟨gp, 0, none⟩ = some (.int .u64 p0) ∧ wS.cell? ⟨gp, 1, none⟩ = some (.int .u64 p1) ∧ wS.cell? ⟨gp, 2, none⟩ = some (.int .u64 p2) ∧ wS.cell? ⟨gp, 3, none⟩ = some (.int .u64 p3) ∧ wS.cell? ⟨gp, 4, none⟩ = some (.int .u64 p4) ∧ wS.cell? ⟨gp, 5, none⟩ = some (.int .u64 p5) ∧ wS.cell? ⟨w.heap.size, 1, none⟩ = some (.slice (some ⟨b, o, none⟩) xs.length c) ∧ wS.cell? ⟨b, o + j * 2 + 1, none⟩ = some (.int .i64 a)) 11 (by kernel_rfl) hz9 (fun hHeld => ?_)
            refine Rk.take [11] (i := 0) (v := ?_) rfl (by kernel_rfl) (by kernel_rfl) (by kernel_rfl) (by kernel_rfl) (by kernel_rfl) (fun _ _ _ h => h) (Or.inl ⟨by kernel_rfl, ?_⟩) (by assumption) ?_
            rotate_left
            · ((intro w hSw; (try dsimp only at hSw); go_simp) <;> with_reducible rfl)
            try simp only [Act.put, List.setIfInBounds_toArray, List.set_cons_zero, List.set_cons_succ]
            refine Rk.takeP (i := 1) (v := ?_) rfl (by kernel_rfl) (by kernel_rfl) (by kernel_rfl) (by kernel_rfl) (fun _ _ _ h => h) (Or.inl ⟨by kernel_rfl, ?_⟩) (by assumption) ?_
            rotate_left
            · ((intro w hSw; go_simp) <;> with_reducible rfl)
            try simp only [Act.put, List.setIfInBounds_toArray, List.set_cons_zero, List.set_cons_succ]
            refine Rk.takeP (i := 3) (v := ?_) rfl (by kernel_rfl) (by kernel_rfl) (by kernel_rfl) (by kernel_rfl) (fun _ _ _ h => h) (Or.inl ⟨by kernel_rfl, ?_⟩) (by assumption) ?_
            rotate_left
            · ((intro w hSw; go_simp) <;> with_reducible rfl)
            try simp only [Act.put, List.setIfInBounds_toArray, List.set_cons_zero, List.set_cons_succ]
            refine Rk.take [11] (i := 4) (v := ?_) rfl (by kernel_rfl) (by kernel_rfl) (by kernel_rfl) (by kernel_rfl) (by kernel_rfl) (fun _ _ _ h => h) (Or.inl ⟨by kernel_rfl, ?_⟩) (by assumption) ?_
            rotate_left
            · ((intro w hSw; (try dsimp only at hSw); go_simp) <;> with_reducible rfl)
            try simp only [Act.put, List.setIfInBounds_toArray, List.set_cons_zero, List.set_cons_succ]
            refine Rk.takeP (i := 5) (v := ?_) rfl (by kernel_rfl) (by kernel_rfl) (by kernel_rfl) (by kernel_rfl) (fun _ _ _ h => h) (Or.inl ⟨by kernel_rfl, ?_⟩) (by assumption) ?_
            rotate_left
            · ((intro w hSw; go_simp) <;> with_reducible rfl)
            try simp only [Act.put, List.setIfInBounds_toArray, List.set_cons_zero, List.set_cons_succ]
            refine Rk.takeP (i := 6) (v := ?_) rfl (by kernel_rfl) (by kernel_rfl) (by kernel_rfl) (by kernel_rfl) (fun _ _ _ h => h) (Or.inl ⟨by kernel_rfl, ?_⟩) (by assumption) ?_
            rotate_left
            · ((intro w hSw; go_simp) <;> with_reducible rfl)
            try simp only [Act.put, List.setIfInBounds_toArray, List.set_cons_zero, List.set_cons_succ]
            refine Rk.takeP (i := 7) (v := ?_) rfl (by kernel_rfl) (by kernel_rfl) (by kernel_rfl) (by kernel_rfl) (fun _ _ _ h => h) (Or.inl ⟨by kernel_rfl, ?_⟩) (by assumption) ?_
            rotate_left
            · ((intro w hSw; go_simp) <;> with_reducible rfl)
            try simp only [Act.put, List.setIfInBounds_toArray, List.set_cons_zero, List.set_cons_succ]
            refine Rk.take [11] (i := 8) (v := ?_) rfl (by kernel_rfl) (by kernel_rfl) (by kernel_rfl) (by kernel_rfl) (by kernel_rfl) (fun _ _ _ h => h) (Or.inl ⟨by kernel_rfl, ?_⟩) (by assumption) ?_
            rotate_left
            · ((intro w hSw; (try dsimp only at hSw); go_simp) <;> with_reducible rfl)
            try simp only [Act.put, List.setIfInBounds_toArray, List.set_cons_zero, List.set_cons_succ]
            refine Rk.one (i := 2) (by kernel_rfl) rfl (fun KK hK => ?_)
            rw [if_pos (by kernel_rfl)]
            go_simp
            ((with_reducible refine (SZ.out v _ v1 v2).mono ?_); rintro e uu ⟨rfl, rfl⟩)
            refine hK.out _ _ hHeld (fun hHeld => ?_)
            clear hK KK
            refine Rk.one (i := 9) (by kernel_rfl) rfl (fun KK hK => ?_)
            rw [if_pos (by kernel_rfl)]
            go_simp
            ((with_reducible refine (SZ.out a _ a1 a2).mono ?_); rintro e uu ⟨rfl, rfl⟩)
            refine hK.out _ _ hHeld (fun hHeld => ?_)
            clear hK KK
            refine Rk.one (i := 10) (by kernel_rfl) rfl (fun KK hK => ?_)
            rw [if_pos (by kernel_rfl)]
            go_simp
            ((with_reducible refine (PL.out p0 p1 p2 p3 p4 p5 (mag v) (mag a) _ HDP.out hm1 hm2 hmv).mono ?_); rintro e u2 ⟨f0, f1, f2, f3, f4, f5, rfl, hfb, hfv, hb2⟩)
            refine hK.out _ _ ⟨kp hb2 (lt_of_cell hHeld.1) hHeld.1, kp hb2 (lt_of_cell hHeld.2.1) hHeld.2.1, kp hb2 (lt_of_cell hHeld.2.2.1) hHeld.2.2.1, kp hb2 (lt_of_cell hHeld.2.2.2.1) hHeld.2.2.2.1, kp hb2 (lt_of_cell hHeld.2.2.2.2.1) hHeld.2.2.2.2.1, kp hb2 (lt_of_cell hHeld.2.2.2.2.2.1) hHeld.2.2.2.2.2.1, kp hb2 (lt_of_cell hHeld.2.2.2.2.2.2.1) hHeld.2.2.2.2.2.2.1, kp hb2 (lt_of_cell hHeld.2.2.2.2.2.2.2) hHeld.2.2.2.2.2.2.2⟩ (fun hHeld => ?_)
            clear hK KK
            refine Rk.tail [11] [_] (by kernel_rfl) (by kernel_rfl) rfl (by decide) ?_
            have F5 := (Cl.drew hF.out).below hb2
            have K5 := (hB.drew).trans (hb2.mono hB.size)
            obtain ⟨s0, zs0⟩ := F5 (gp) 0 (.int .u64 p0) (by simp)
            obtain ⟨s1, zs1⟩ := F5 (gp) 1 (.int .u64 p1) (by simp)
            obtain ⟨s2, zs2⟩ := F5 (gp) 2 (.int .u64 p2) (by simp)
            obtain ⟨s3, zs3⟩ := F5 (gp) 3 (.int .u64 p3) (by simp)
            obtain ⟨s4, zs4⟩ := F5 (gp) 4 (.int .u64 p4) (by simp)
            obtain ⟨s5, zs5⟩ := F5 (gp) 5 (.int .u64 p5) (by simp)
            have FT : Cl ([(gp, 0, .int .u64 f0), (gp, 1, .int .u64 f1), (gp, 2, .int .u64 f2), (gp, 3, .int .u64 f3), (gp, 4, .int .u64 f4), (gp, 5, .int .u64 f5)] ++ [(gp + 1, 0, .int .u64 m0), (gp + 1, 1, .int .u64 m1), (gp + 1, 2, .int .u64 m2), (gp + 1, 3, .int .u64 m3), (gp + 1, 4, .int .u64 m4), (gp + 1, 5, .int .u64 m5), (w.heap.size, 0, .int .i64 k), (w.heap.size, 1, .slice (some ⟨b, o, none⟩) xs.length c)]) ((((((u2.setCell ⟨gp, 0, none⟩ (.int .u64 f0)).setCell ⟨gp, 1, none⟩ (.int .u64 f1)).setCell ⟨gp, 2, none⟩ (.int .u64 f2)).setCell ⟨gp, 3, none⟩ (.int .u64 f3)).setCell ⟨gp, 4, none⟩ (.int .u64 f4)).setCell ⟨gp, 5, none⟩ (.int .u64 f5)) := (put6 (F5.sub (L' := [(gp, 0, .int .u64 p0), (gp, 1, .int .u64 p1), (gp, 2, .int .u64 p2), (gp, 3, .int .u64 p3), (gp, 4, .int .u64 p4), (gp, 5, .int .u64 p5)]) (by intro x hx; simp only [List.mem_cons, List.not_mem_nil, or_false] at hx ⊢; rcases hx with h | h | h | h | h | h <;> simp [h]))).append (put6_far (F5.sub (L' := [(gp + 1, 0, .int .u64 m0), (gp + 1, 1, .int .u64 m1), (gp + 1, 2, .int .u64 m2), (gp + 1, 3, .int .u64 m3), (gp + 1, 4, .int .u64 m4), (gp + 1, 5, .int .u64 m5), (w.heap.size, 0, .int .i64 k), (w.heap.size, 1, .slice (some ⟨b, o, none⟩) xs.length c)]) (by intro x hx; simp only [List.mem_cons, List.not_mem_nil, or_false] at hx ⊢; rcases hx with h | h | h | h | h | h | h | h <;> simp [h])) (by simp only [List.forall_mem_cons]; simp; omega))
            have hF2 : Hid (Cl [(gp, 0, .int .u64 f0), (gp, 1, .int .u64 f1), (gp, 2, .int .u64 f2), (gp, 3, .int .u64 f3), (gp, 4, .int .u64 f4), (gp, 5, .int .u64 f5), (gp + 1, 0, .int .u64 m0), (gp + 1, 1, .int .u64 m1), (gp + 1, 2, .int .u64 m2), (gp + 1, 3, .int .u64 m3), (gp + 1, 4, .int .u64 m4), (gp + 1, 5, .int .u64 m5), (w.heap.size, 0, .int .i64 k), (w.heap.size, 1, .slice (some ⟨b, o, none⟩) xs.length c)] ((((((u2.setCell ⟨gp, 0, none⟩ (.int .u64 f0)).setCell ⟨gp, 1, none⟩ (.int .u64 f1)).setCell ⟨gp, 2, none⟩ (.int .u64 f2)).setCell ⟨gp, 3, none⟩ (.int .u64 f3)).setCell ⟨gp, 4, none⟩ (.int .u64 f4)).setCell ⟨gp, 5, none⟩ (.int .u64 f5))) := Lib.hid (FT.sub (by intro x hx; simp only [List.mem_cons, List.not_mem_nil, or_false, List.mem_append] at hx ⊢; rcases hx with h | h | h | h | h | h | h | h | h | h | h | h | h | h <;> simp [h]))
            have hB2 := put6_below (g := gp) (e0 := f0) (e1 := f1) (e2 := f2) (e3 := f3) (e4 := f4) (e5 := f5) K5 (by omega)
            have HDF := Lib.hid hfb
            have HFV := Lib.hid hfv
            clear hHeld hz9 F5 K5 FT hfb hfv hb2 hF hB
            have HV2 : Hid (dval f0 f1 f2 f3 f4 f5 - dval m0 m1 m2 m3 m4 m5 = k + evS es (xs.take (j + 1))) := Lib.hid (by have h1 := HFV.out; have h2 := HVJ.out; have h3 := HSUM.out; have h4 := HP9.out; have h5 := HPR.out; rw [h5] at h1; rw [h3, ← h2, h1]; omega)
            have HB2 : Hid (dval f0 f1 f2 f3 f4 f5 ≤ 85070591730234615865843651857942052864 * (((j + 1 : Nat) : Int) + 1) ∧ dval m0 m1 m2 m3 m4 m5 ≤ 85070591730234615865843651857942052864 * (((j + 1 : Nat) : Int) + 1)) := Lib.hid (by have h1 := HFV.out; have h2 := HBJ.out; have h5 := HPR.out; have h6 := mpb.out; rw [h5] at h1; rw [h1]; omega)
            clear HFV HVJ HSUM HP9 HPR HBJ mpb hm1 hm2 hmv hz1 hz2 c1 q1
            go_wp2
            go_roundw
            case rel => exact ⟨j + 1, f0, f1, f2, f3, f4, f5, m0, m1, m2, m3, m4, m5, by go_num, by omega, hB2, hF2, HDF, HDN, HV2, HB2, HI2⟩
            case measure => simp [intOf]; omega
          · have hmv : dval m0 m1 m2 m3 m4 m5 + mag v * mag a < 6277101735386680763835789423207666416102355444464034512896 := by rw [HPR.out]; have h1 := HBJ.out; have h2 := mpb.out; omega
            have HP9 := Lib.hid (HMD.out (by decide))
            clear HMS HMD
            go_wp2_with fail
            have hz9 : w3.drew.cell? ⟨gp + 1, 0, none⟩ = some (.int .u64 m0) ∧ w3.drew.cell? ⟨gp + 1, 1, none⟩ = some (.int .u64 m1) ∧ w3.drew.cell? ⟨gp + 1, 2, none⟩ = some (.int .u64 m2) ∧ w3.drew.cell? ⟨gp + 1, 3, none⟩ = some (.int .u64 m3) ∧ w3.drew.cell? ⟨gp + 1, 4, none⟩ = some (.int .u64 m4) ∧ w3.drew.cell? ⟨gp + 1, 5, none⟩ = some (.int .u64 m5) ∧ w3.drew.cell? ⟨w.heap.size, 1, none⟩ = some (.slice (some ⟨b, o, none⟩) xs.length c) ∧ w3.drew.cell? ⟨b, o + j * 2 + 1, none⟩ = some (.int .i64 a) := ⟨(hF.out (gp + 1) 0 (.int .u64 m0) (by simp)).1, (hF.out (gp + 1) 1 (.int .u64 m1) (by simp)).1, (hF.out (gp + 1) 2 (.int .u64 m2) (by simp)).1, (hF.out (gp + 1) 3 (.int .u64 m3) (by simp)).1, (hF.out (gp + 1) 4 (.int .u64 m4) (by simp)).1, (hF.out (gp + 1) 5 (.int .u64 m5) (by simp)).1, (hF.out w.heap.size 1 (.slice (some ⟨b, o, none⟩) xs.length c) (by simp)).1, c1⟩
            refine Rk.begin (S := fun wS => wS.cell? ⟨gp + 1, 0, none⟩ = some (.int .u64 m0) ∧ wS.cell? ⟨gp + 1, 1, none⟩ = some (.int .u64 m1) ∧ wS.cell? ⟨gp + 1, 2, none⟩ = some (.int .u64 m2) ∧ wS.cell? ⟨gp + 1, 3, none⟩ = some (.int .u64 m3) ∧ wS.cell? ⟨gp + 1, 4, none⟩ = some (.int .u64 m4) ∧ wS.cell? ⟨gp + 1, 5, none⟩ = some (.int .u64 m5) ∧ wS.cell? ⟨w.heap.size, 1, none⟩ = some (.slice (some ⟨b, o, none⟩) xs.length c) ∧ wS.cell? ⟨b, o + j * 2 + 1, none⟩ = some (.int .i64 a)) 11 (by kernel_rfl) hz9 (fun hHeld => ?_)
            refine Rk.take [11] (i := 0) (v := ?_) rfl (by kernel_rfl) (by kernel_rfl) (by kernel_rfl) (by kernel_rfl) (by kernel_rfl) (fun _ _ _ h => h) (Or.inl ⟨by kernel_rfl, ?_⟩) (by assumption) ?_
            rotate_left
            · ((intro w hSw; (try dsimp only at hSw); go_simp) <;> with_reducible rfl)
            try simp only [Act.put, List.setIfInBounds_toArray, List.set_cons_zero, List.set_cons_succ]
            refine Rk.takeP (i := 1) (v := ?_) rfl (by kernel_rfl) (by kernel_rfl) (by kernel_rfl) (by kernel_rfl) (fun _ _ _ h => h) (Or.inl ⟨by kernel_rfl, ?_⟩) (by assumption) ?_
            rotate_left
            · ((intro w hSw; go_simp) <;> with_reducible rfl)
            try simp only [Act.put, List.setIfInBounds_toArray, List.set_cons_zero, List.set_cons_succ]
            refine Rk.takeP (i := 3) (v := ?_) rfl (by kernel_rfl) (by kernel_rfl) (by kernel_rfl) (by kernel_rfl) (fun _ _ _ h => h) (Or.inl ⟨by kernel_rfl, ?_⟩) (by assumption) ?_
            rotate_left
            · ((intro w hSw; go_simp) <;> with_reducible rfl)
            try simp only [Act.put, List.setIfInBounds_toArray, List.set_cons_zero, List.set_cons_succ]
            refine Rk.take [11] (i := 4) (v := ?_) rfl (by kernel_rfl) (by kernel_rfl) (by kernel_rfl) (by kernel_rfl) (by kernel_rfl) (fun _ _ _ h => h) (Or.inl ⟨by kernel_rfl, ?_⟩) (by assumption) ?_
            rotate_left
            · ((intro w hSw; (try dsimp only at hSw); go_simp) <;> with_reducible rfl)
            try simp only [Act.put, List.setIfInBounds_toArray, List.set_cons_zero, List.set_cons_succ]
            refine Rk.takeP (i := 5) (v := ?_) rfl (by kernel_rfl) (by kernel_rfl) (by kernel_rfl) (by kernel_rfl) (fun _ _ _ h => h) (Or.inl ⟨by kernel_rfl, ?_⟩) (by assumption) ?_
            rotate_left
            · ((intro w hSw; go_simp) <;> with_reducible rfl)
            try simp only [Act.put, List.setIfInBounds_toArray, List.set_cons_zero, List.set_cons_succ]
            refine Rk.takeP (i := 6) (v := ?_) rfl (by kernel_rfl) (by kernel_rfl) (by kernel_rfl) (by kernel_rfl) (fun _ _ _ h => h) (Or.inl ⟨by kernel_rfl, ?_⟩) (by assumption) ?_
            rotate_left
            · ((intro w hSw; go_simp) <;> with_reducible rfl)
            try simp only [Act.put, List.setIfInBounds_toArray, List.set_cons_zero, List.set_cons_succ]
            refine Rk.takeP (i := 7) (v := ?_) rfl (by kernel_rfl) (by kernel_rfl) (by kernel_rfl) (by kernel_rfl) (fun _ _ _ h => h) (Or.inl ⟨by kernel_rfl, ?_⟩) (by assumption) ?_
            rotate_left
            · ((intro w hSw; go_simp) <;> with_reducible rfl)
            try simp only [Act.put, List.setIfInBounds_toArray, List.set_cons_zero, List.set_cons_succ]
            refine Rk.take [11] (i := 8) (v := ?_) rfl (by kernel_rfl) (by kernel_rfl) (by kernel_rfl) (by kernel_rfl) (by kernel_rfl) (fun _ _ _ h => h) (Or.inl ⟨by kernel_rfl, ?_⟩) (by assumption) ?_
            rotate_left
            · ((intro w hSw; (try dsimp only at hSw); go_simp) <;> with_reducible rfl)
            try simp only [Act.put, List.setIfInBounds_toArray, List.set_cons_zero, List.set_cons_succ]
            refine Rk.one (i := 2) (by kernel_rfl) rfl (fun KK hK => ?_)
            rw [if_pos (by kernel_rfl)]
            go_simp
            ((with_reducible refine (SZ.out v _ v1 v2).mono ?_); rintro e uu ⟨rfl, rfl⟩)
            refine hK.out _ _ hHeld (fun hHeld => ?_)
            clear hK KK
            refine Rk.one (i := 9) (by kernel_rfl) rfl (fun KK hK => ?_)
            rw [if_pos (by kernel_rfl)]
            go_simp
            ((with_reducible refine (SZ.out a _ a1 a2).mono ?_); rintro e uu ⟨rfl, rfl⟩)
            refine hK.out _ _ hHeld (fun hHeld => ?_)
            clear hK KK
            refine Rk.one (i := 10) (by kernel_rfl) rfl (fun KK hK => ?_)
            rw [if_pos (by kernel_rfl)]
            go_simp
            ((with_reducible refine (PL.out m0 m1 m2 m3 m4 m5 (mag v) (mag a) _ HDN.out hm1 hm2 hmv).mono ?_); rintro e u2 ⟨f0, f1, f2, f3, f4, f5, rfl, hfb, hfv, hb2⟩)
            refine hK.out _ _ ⟨kp hb2 (lt_of_cell hHeld.1) hHeld.1, kp hb2 (lt_of_cell hHeld.2.1) hHeld.2.1, kp hb2 (lt_of_cell hHeld.2.2.1) hHeld.2.2.1, kp hb2 (lt_of_cell hHeld.2.2.2.1) hHeld.2.2.2.1, kp hb2 (lt_of_cell hHeld.2.2.2.2.1) hHeld.2.2.2.2.1, kp hb2 (lt_of_cell hHeld.2.2.2.2.2.1) hHeld.2.2.2.2.2.1, kp hb2 (lt_of_cell hHeld.2.2.2.2.2.2.1) hHeld.2.2.2.2.2.2.1, kp hb2 (lt_of_cell hHeld.2.2.2.2.2.2.2) hHeld.2.2.2.2.2.2.2⟩ (fun hHeld => ?_)
            clear hK KK
            refine Rk.tail [11] [_] (by kernel_rfl) (by kernel_rfl) rfl (by decide) ?_
            have F5 := (Cl.drew hF.out).below hb2
            have K5 := (hB.drew).trans (hb2.mono hB.size)
            obtain ⟨s0, zs0⟩ := F5 (gp + 1) 0 (.int .u64 m0) (by simp)
            obtain ⟨s1, zs1⟩ := F5 (gp + 1) 1 (.int .u64 m1) (by simp)
            obtain ⟨s2, zs2⟩ := F5 (gp + 1) 2 (.int .u64 m2) (by simp)
            obtain ⟨s3, zs3⟩ := F5 (gp + 1) 3 (.int .u64 m3) (by simp)
            obtain ⟨s4, zs4⟩ := F5 (gp + 1) 4 (.int .u64 m4) (by simp)
            obtain ⟨s5, zs5⟩ := F5 (gp + 1) 5 (.int .u64 m5) (by simp)
            have FT : Cl ([(gp + 1, 0, .int .u64 f0), (gp + 1, 1, .int .u64 f1), (gp + 1, 2, .int .u64 f2), (gp + 1, 3, .int .u64 f3), (gp + 1, 4, .int .u64 f4), (gp + 1, 5, .int .u64 f5)] ++ [(gp, 0, .int .u64 p0), (gp, 1, .int .u64 p1), (gp, 2, .int .u64 p2), (gp, 3, .int .u64 p3), (gp, 4, .int .u64 p4), (gp, 5, .int .u64 p5), (w.heap.size, 0, .int .i64 k), (w.heap.size, 1, .slice (some ⟨b, o, none⟩) xs.length c)]) ((((((u2.setCell ⟨gp + 1, 0, none⟩ (.int .u64 f0)).setCell ⟨gp + 1, 1, none⟩ (.int .u64 f1)).setCell ⟨gp + 1, 2, none⟩ (.int .u64 f2)).setCell ⟨gp + 1, 3, none⟩ (.int .u64 f3)).setCell ⟨gp + 1, 4, none⟩ (.int .u64 f4)).setCell ⟨gp + 1, 5, none⟩ (.int .u64 f5)) := (put6 (F5.sub (L' := [(gp + 1, 0, .int .u64 m0), (gp + 1, 1, .int .u64 m1), (gp + 1, 2, .int .u64 m2), (gp + 1, 3, .int .u64 m3), (gp + 1, 4, .int .u64 m4), (gp + 1, 5, .int .u64 m5)]) (by intro x hx; simp only [List.mem_cons, List.not_mem_nil, or_false] at hx ⊢; rcases hx with h | h | h | h | h | h <;> simp [h]))).append (put6_far (F5.sub (L' := [(gp, 0, .int .u64 p0), (gp, 1, .int .u64 p1), (gp, 2, .int .u64 p2), (gp, 3, .int .u64 p3), (gp, 4, .int .u64 p4), (gp, 5, .int .u64 p5), (w.heap.size, 0, .int .i64 k), (w.heap.size, 1, .slice (some ⟨b, o, none⟩) xs.length c)]) (by intro x hx; simp only [List.mem_cons, List.not_mem_nil, or_false] at hx ⊢; rcases hx with h | h | h | h | h | h | h | h <;> simp [h])) (by simp only [List.forall_mem_cons]; simp; omega))
            have hF2 : Hid (Cl [(gp, 0, .int .u64 p0), (gp, 1, .int .u64 p1), (gp, 2, .int .u64 p2), (gp, 3, .int .u64 p3), (gp, 4, .int .u64 p4), (gp, 5, .int .u64 p5), (gp + 1, 0, .int .u64 f0), (gp + 1, 1, .int .u64 f1), (gp + 1, 2, .int .u64 f2), (gp + 1, 3, .int .u64 f3), (gp + 1, 4, .int .u64 f4), (gp + 1, 5, .int .u64 f5), (w.heap.size, 0, .int .i64 k), (w.heap.size, 1, .slice (some ⟨b, o, none⟩) xs.length c)] ((((((u2.setCell ⟨gp + 1, 0, none⟩ (.int .u64 f0)).setCell ⟨gp + 1, 1, none⟩ (.int .u64 f1)).setCell ⟨gp + 1, 2, none⟩ (.int .u64 f2)).setCell ⟨gp + 1, 3, none⟩ (.int .u64 f3)).setCell ⟨gp + 1, 4, none⟩ (.int .u64 f4)).setCell ⟨gp + 1, 5, none⟩ (.int .u64 f5))) := Lib.hid (FT.sub (by intro x hx; simp only [List.mem_cons, List.not_mem_nil, or_false, List.mem_append] at hx ⊢; rcases hx with h | h | h | h | h | h | h | h | h | h | h | h | h | h <;> simp [h]))
            have hB2 := put6_below (g := gp + 1) (e0 := f0) (e1 := f1) (e2 := f2) (e3 := f3) (e4 := f4) (e5 := f5) K5 (by omega)
            have HDF := Lib.hid hfb
            have HFV := Lib.hid hfv
            clear hHeld hz9 F5 K5 FT hfb hfv hb2 hF hB
            have HV2 : Hid (dval p0 p1 p2 p3 p4 p5 - dval f0 f1 f2 f3 f4 f5 = k + evS es (xs.take (j + 1))) := Lib.hid (by have h1 := HFV.out; have h2 := HVJ.out; have h3 := HSUM.out; have h4 := HP9.out; have h5 := HPR.out; rw [h5] at h1; rw [h3, ← h2, h1]; omega)
            have HB2 : Hid (dval p0 p1 p2 p3 p4 p5 ≤ 85070591730234615865843651857942052864 * (((j + 1 : Nat) : Int) + 1) ∧ dval f0 f1 f2 f3 f4 f5 ≤ 85070591730234615865843651857942052864 * (((j + 1 : Nat) : Int) + 1)) := Lib.hid (by have h1 := HFV.out; have h2 := HBJ.out; have h5 := HPR.out; have h6 := mpb.out; rw [h5] at h1; rw [h1]; omega)
            clear HFV HVJ HSUM HP9 HPR HBJ mpb hm1 hm2 hmv hz1 hz2 c1 q1
            go_wp2
            go_roundw
            case rel => exact ⟨j + 1, p0, p1, p2, p3, p4, p5, f0, f1, f2, f3, f4, f5, by go_num, by omega, hB2, hF2, HDP, HDF, HV2, HB2, HI2⟩
            case measure => simp [intOf]; omega
          · have hmv : dval m0 m1 m2 m3 m4 m5 + mag v * mag a < 6277101735386680763835789423207666416102355444464034512896 := by rw [HPR.out]; have h1 := HBJ.out; have h2 := mpb.out; omega
            have HP9 := Lib.hid (HMD.out (by decide))
            clear HMS HMD
            go_wp2_with fail
            have hz9 : w3.drew.cell? ⟨gp + 1, 0, none⟩ = some (.int .u64 m0) ∧ w3.drew.cell? ⟨gp + 1, 1, none⟩ = some (.int .u64 m1) ∧ w3.drew.cell? ⟨gp + 1, 2, none⟩ = some (.int .u64 m2) ∧ w3.drew.cell? ⟨gp + 1, 3, none⟩ = some (.int .u64 m3) ∧ w3.drew.cell? ⟨gp + 1, 4, none⟩ = some (.int .u64 m4) ∧ w3.drew.cell? ⟨gp + 1, 5, none⟩ = some (.int .u64 m5) ∧ w3.drew.cell? ⟨w.heap.size, 1, none⟩ = some (.slice (some ⟨b, o, none⟩) xs.length c) ∧ w3.drew.cell? ⟨b, o + j * 2 + 1, none⟩ = some (.int .i64 a) := ⟨(hF.out (gp + 1) 0 (.int .u64 m0) (by simp)).1, (hF.out (gp + 1) 1 (.int .u64 m1) (by simp)).1, (hF.out (gp + 1) 2 (.int .u64 m2) (by simp)).1, (hF.out (gp + 1) 3 (.int .u64 m3) (by simp)).1, (hF.out (gp + 1) 4 (.int .u64 m4) (by simp)).1, (hF.out (gp + 1) 5 (.int .u64 m5) (by simp)).1, (hF.out w.heap.size 1 (.slice (some ⟨b, o, none⟩) xs.length c) (by simp)).1, c1⟩
            refine Rk.begin (S := fun wS => wS.cell? ⟨gp + 1, 0, none⟩ = some (.int .u64 m0) ∧ wS.cell? ⟨gp + 1, 1, none⟩ = some (.int .u64 m1) ∧ wS.cell? ⟨gp + 1, 2, none⟩ = some (.int .u64 m2) ∧ wS.cell? ⟨gp + 1, 3, none⟩ = some (.int .u64 m3) ∧ wS.cell? ⟨gp + 1, 4, none⟩ = some (.int .u64 m4) ∧ wS.cell? ⟨gp + 1, 5, none⟩ = some (.int .u64 m5) ∧ wS.cell? ⟨w.heap.size, 1, none⟩ = some (.slice (some ⟨b, o, none⟩) xs.length c) ∧ wS.cell? ⟨b, o + j * 2 + 1, none⟩ = some (.int .i64 a)) 11 (by kernel_rfl) hz9 (fun hHeld => ?_)
            refine Rk.take [11] (i := 0) (v := ?_) rfl (by kernel_rfl) (by kernel_rfl) (by kernel_rfl) (by kernel_rfl) (by kernel_rfl) (fun _ _ _ h => h) (Or.inl ⟨by kernel_rfl, ?_⟩) (by assumption) ?_
            rotate_left
            · ((intro w hSw; (try dsimp only at hSw); go_simp) <;> with_reducible rfl)
            try simp only [Act.put, List.setIfInBounds_toArray, List.set_cons_zero, List.set_cons_succ]
            refine Rk.takeP (i := 1) (v := ?_) rfl (by kernel_rfl) (by kernel_rfl) (by kernel_rfl) (by kernel_rfl) (fun _ _ _ h => h) (Or.inl ⟨by kernel_rfl, ?_⟩) (by assumption) ?_
            rotate_left
            · ((intro w hSw; go_simp) <;> with_reducible rfl)
            try simp only [Act.put, List.setIfInBounds_toArray, List.set_cons_zero, List.set_cons_succ]
            refine Rk.takeP (i := 3) (v := ?_) rfl (by kernel_rfl) (by kernel_rfl) (by kernel_rfl) (by kernel_rfl) (fun _ _ _ h => h) (Or.inl ⟨by kernel_rfl, ?_⟩) (by assumption) ?_
            rotate_left
            · ((intro w hSw; go_simp) <;> with_reducible rfl)
            try simp only [Act.put, List.setIfInBounds_toArray, List.set_cons_zero, List.set_cons_succ]
            refine Rk.take [11] (i := 4) (v := ?_) rfl (by kernel_rfl) (by kernel_rfl) (by kernel_rfl) (by kernel_rfl) (by kernel_rfl) (fun _ _ _ h => h) (Or.inl ⟨by kernel_rfl, ?_⟩) (by assumption) ?_
            rotate_left
            · ((intro w hSw; (try dsimp only at hSw); go_simp) <;> with_reducible rfl)
            try simp only [Act.put, List.setIfInBounds_toArray, List.set_cons_zero, List.set_cons_succ]
            refine Rk.takeP (i := 5) (v := ?_) rfl (by kernel_rfl) (by kernel_rfl) (by kernel_rfl) (by kernel_rfl) (fun _ _ _ h => h) (Or.inl ⟨by kernel_rfl, ?_⟩) (by assumption) ?_
            rotate_left
            · ((intro w hSw; go_simp) <;> with_reducible rfl)
            try simp only [Act.put, List.setIfInBounds_toArray, List.set_cons_zero, List.set_cons_succ]
            refine Rk.takeP (i := 6) (v := ?_) rfl (by kernel_rfl) (by kernel_rfl) (by kernel_rfl) (by kernel_rfl) (fun _ _ _ h => h) (Or.inl ⟨by kernel_rfl, ?_⟩) (by assumption) ?_
            rotate_left
            · ((intro w hSw; go_simp) <;> with_reducible rfl)
            try simp only [Act.put, List.setIfInBounds_toArray, List.set_cons_zero, List.set_cons_succ]
            refine Rk.takeP (i := 7) (v := ?_) rfl (by kernel_rfl) (by kernel_rfl) (by kernel_rfl) (by kernel_rfl) (fun _ _ _ h => h) (Or.inl ⟨by kernel_rfl, ?_⟩) (by assumption) ?_
            rotate_left
            · ((intro w hSw; go_simp) <;> with_reducible rfl)
            try simp only [Act.put, List.setIfInBounds_toArray, List.set_cons_zero, List.set_cons_succ]
            refine Rk.take [11] (i := 8) (v := ?_) rfl (by kernel_rfl) (by kernel_rfl) (by kernel_rfl) (by kernel_rfl) (by kernel_rfl) (fun _ _ _ h => h) (Or.inl ⟨by kernel_rfl, ?_⟩) (by assumption) ?_
            rotate_left
            · ((intro w hSw; (try dsimp only at hSw); go_simp) <;> with_reducible rfl)
            try simp only [Act.put, List.setIfInBounds_toArray, List.set_cons_zero, List.set_cons_succ]
            refine Rk.one (i := 2) (by kernel_rfl) rfl (fun KK hK => ?_)
            rw [if_pos (by kernel_rfl)]
            go_simp
            ((with_reducible refine (SZ.out v _ v1 v2).mono ?_); rintro e uu ⟨rfl, rfl⟩)
            refine hK.out _ _ hHeld (fun hHeld => ?_)
            clear hK KK
            refine Rk.one (i := 9) (by kernel_rfl) rfl (fun KK hK => ?_)
            rw [if_pos (by kernel_rfl)]
            go_simp
            ((with_reducible refine (SZ.out a _ a1 a2).mono ?_); rintro e uu ⟨rfl, rfl⟩)
            refine hK.out _ _ hHeld (fun hHeld => ?_)
            clear hK KK
            refine Rk.one (i := 10) (by kernel_rfl) rfl (fun KK hK => ?_)
            rw [if_pos (by kernel_rfl)]
            go_simp
            ((with_reducible refine (PL.out m0 m1 m2 m3 m4 m5 (mag v) (mag a) _ HDN.out hm1 hm2 hmv).mono ?_); rintro e u2 ⟨f0, f1, f2, f3, f4, f5, rfl, hfb, hfv, hb2⟩)
            refine hK.out _ _ ⟨kp hb2 (lt_of_cell hHeld.1) hHeld.1, kp hb2 (lt_of_cell hHeld.2.1) hHeld.2.1, kp hb2 (lt_of_cell hHeld.2.2.1) hHeld.2.2.1, kp hb2 (lt_of_cell hHeld.2.2.2.1) hHeld.2.2.2.1, kp hb2 (lt_of_cell hHeld.2.2.2.2.1) hHeld.2.2.2.2.1, kp hb2 (lt_of_cell hHeld.2.2.2.2.2.1) hHeld.2.2.2.2.2.1, kp hb2 (lt_of_cell hHeld.2.2.2.2.2.2.1) hHeld.2.2.2.2.2.2.1, kp hb2 (lt_of_cell hHeld.2.2.2.2.2.2.2) hHeld.2.2.2.2.2.2.2⟩ (fun hHeld => ?_)
            clear hK KK
            refine Rk.tail [11] [_] (by kernel_rfl) (by kernel_rfl) rfl (by decide) ?_
            have F5 := (Cl.drew hF.out).below hb2
            have K5 := (hB.drew).trans (hb2.mono hB.size)
            obtain ⟨s0, zs0⟩ := F5 (gp + 1) 0 (.int .u64 m0) (by simp)
            obtain ⟨s1, zs1⟩ := F5 (gp + 1) 1 (.int .u64 m1) (by simp)
            obtain ⟨s2, zs2⟩ := F5 (gp + 1) 2 (.int .u64 m2) (by simp)
            obtain ⟨s3, zs3⟩ := F5 (gp + 1) 3 (.int .u64 m3) (by simp)
            obtain ⟨s4, zs4⟩ := F5 (gp + 1) 4 (.int .u64 m4) (by simp)
            obtain ⟨s5, zs5⟩ := F5 (gp + 1) 5 (.int .u64 m5) (by simp)
            have FT : Cl ([(gp + 1, 0, .int .u64 f0), (gp + 1, 1, .int .u64 f1), (gp + 1, 2, .int .u64 f2), (gp + 1, 3, .int .u64 f3), (gp + 1, 4, .int .u64 f4), (gp + 1, 5, .int .u64 f5)] ++ [(gp, 0, .int .u64 p0), (gp, 1, .int .u64 p1), (gp, 2, .int .u64 p2), (gp, 3, .int .u64 p3), (gp, 4, .int .u64 p4), (gp, 5, .int .u64 p5), (w.heap.size, 0, .int .i64 k), (w.heap.size, 1, .slice (some ⟨b, o, none⟩) xs.length c)]) ((((((u2.setCell ⟨gp + 1, 0, none⟩ (.int .u64 f0)).setCell ⟨gp + 1, 1, none⟩ (.int .u64 f1)).setCell ⟨gp + 1, 2, none⟩ (.int .u64 f2)).setCell ⟨gp + 1, 3, none⟩ (.int .u64 f3)).setCell ⟨gp + 1, 4, none⟩ (.int .u64 f4)).setCell ⟨gp + 1, 5, none⟩ (.int .u64 f5)) := (put6 (F5.sub (L' := [(gp + 1, 0, .int .u64 m0), (gp + 1, 1, .int .u64 m1), (gp + 1, 2, .int .u64 m2), (gp + 1, 3, .int .u64 m3), (gp + 1, 4, .int .u64 m4), (gp + 1, 5, .int .u64 m5)]) (by intro x hx; simp only [List.mem_cons, List.not_mem_nil, or_false] at hx ⊢; rcases hx with h | h | h | h | h | h <;> simp [h]))).append (put6_far (F5.sub (L' := [(gp, 0, .int .u64 p0), (gp, 1, .int .u64 p1), (gp, 2, .int .u64 p2), (gp, 3, .int .u64 p3), (gp, 4, .int .u64 p4), (gp, 5, .int .u64 p5), (w.heap.size, 0, .int .i64 k), (w.heap.size, 1, .slice (some ⟨b, o, none⟩) xs.length c)]) (by intro x hx; simp only [List.mem_cons, List.not_mem_nil, or_false] at hx ⊢; rcases hx with h | h | h | h | h | h | h | h <;> simp [h])) (by simp only [List.forall_mem_cons]; simp; omega))
            have hF2 : Hid (Cl [(gp, 0, .int .u64 p0), (gp, 1, .int .u64 p1), (gp, 2, .int .u64 p2), (gp, 3, .int .u64 p3), (gp, 4, .int .u64 p4), (gp, 5, .int .u64 p5), (gp + 1, 0, .int .u64 f0), (gp + 1, 1, .int .u64 f1), (gp + 1, 2, .int .u64 f2), (gp + 1, 3, .int .u64 f3), (gp + 1, 4, .int .u64 f4), (gp + 1, 5, .int .u64 f5), (w.heap.size, 0, .int .i64 k), (w.heap.size, 1, .slice (some ⟨b, o, none⟩) xs.length c)] ((((((u2.setCell ⟨gp + 1, 0, none⟩ (.int .u64 f0)).setCell ⟨gp + 1, 1, none⟩ (.int .u64 f1)).setCell ⟨gp + 1, 2, none⟩ (.int .u64 f2)).setCell ⟨gp + 1, 3, none⟩ (.int .u64 f3)).setCell ⟨gp + 1, 4, none⟩ (.int .u64 f4)).setCell ⟨gp + 1, 5, none⟩ (.int .u64 f5))) := Lib.hid (FT.sub (by intro x hx; simp only [List.mem_cons, List.not_mem_nil, or_false, List.mem_append] at hx ⊢; rcases hx with h | h | h | h | h | h | h | h | h | h | h | h | h | h <;> simp [h]))
            have hB2 := put6_below (g := gp + 1) (e0 := f0) (e1 := f1) (e2 := f2) (e3 := f3) (e4 := f4) (e5 := f5) K5 (by omega)
            have HDF := Lib.hid hfb
            have HFV := Lib.hid hfv
            clear hHeld hz9 F5 K5 FT hfb hfv hb2 hF hB
            have HV2 : Hid (dval p0 p1 p2 p3 p4 p5 - dval f0 f1 f2 f3 f4 f5 = k + evS es (xs.take (j + 1))) := Lib.hid (by have h1 := HFV.out; have h2 := HVJ.out; have h3 := HSUM.out; have h4 := HP9.out; have h5 := HPR.out; rw [h5] at h1; rw [h3, ← h2, h1]; omega)
            have HB2 : Hid (dval p0 p1 p2 p3 p4 p5 ≤ 85070591730234615865843651857942052864 * (((j + 1 : Nat) : Int) + 1) ∧ dval f0 f1 f2 f3 f4 f5 ≤ 85070591730234615865843651857942052864 * (((j + 1 : Nat) : Int) + 1)) := Lib.hid (by have h1 := HFV.out; have h2 := HBJ.out; have h5 := HPR.out; have h6 := mpb.out; rw [h5] at h1; rw [h1]; omega)
            clear HFV HVJ HSUM HP9 HPR HBJ mpb hm1 hm2 hmv hz1 hz2 c1 q1
            go_wp2
            go_roundw
            case rel => exact ⟨j + 1, p0, p1, p2, p3, p4, p5, f0, f1, f2, f3, f4, f5, by go_num, by omega, hB2, hF2, HDP, HDF, HV2, HB2, HI2⟩
            case measure => simp [intOf]; omega
          · have hmv : dval p0 p1 p2 p3 p4 p5 + mag v * mag a < 6277101735386680763835789423207666416102355444464034512896 := by rw [HPR.out]; have h1 := HBJ.out; have h2 := mpb.out; omega
            have HP9 := Lib.hid (HMS.out rfl)
            clear HMS HMD
            go_wp2_with fail
            have hz9 : w3.drew.cell? ⟨gp, 0, none⟩ = some (.int .u64 p0) ∧ w3.drew.cell? ⟨gp, 1, none⟩ = some (.int .u64 p1) ∧ w3.drew.cell? ⟨gp, 2, none⟩ = some (.int .u64 p2) ∧ w3.drew.cell? ⟨gp, 3, none⟩ = some (.int .u64 p3) ∧ w3.drew.cell? ⟨gp, 4, none⟩ = some (.int .u64 p4) ∧ w3.drew.cell? ⟨gp, 5, none⟩ = some (.int .u64 p5) ∧ w3.drew.cell? ⟨w.heap.size, 1, none⟩ = some (.slice (some ⟨b, o, none⟩) xs.length c) ∧ w3.drew.cell? ⟨b, o + j * 2 + 1, none⟩ = some (.int .i64 a) := ⟨(hF.out (gp) 0 (.int .u64 p0) (by simp)).1, (hF.out (gp) 1 (.int .u64 p1) (by simp)).1, (hF.out (gp) 2 (.int .u64 p2) (by simp)).1, (hF.out (gp) 3 (.int .u64 p3) (by simp)).1, (hF.out (gp) 4 (.int .u64 p4) (by simp)).1, (hF.out (gp) 5 (.int .u64 p5) (by simp)).1, (hF.out w.heap.size 1 (.slice (some ⟨b, o, none⟩) xs.length c) (by simp)).1, c1⟩
            refine Rk.begin (S := fun wS => wS.cell? ⟨gp, 0, none⟩ = some (.int .u64 p0) ∧ wS.cell? ⟨gp, 1, none⟩ = some (.int .u64 p1) ∧ wS.cell? ⟨gp, 2, none⟩ = some (.int .u64 p2) ∧ wS.cell? ⟨gp, 3, none⟩ = some (.int .u64 p3) ∧ wS.cell? ⟨gp, 4, none⟩ = some (.int .u64 p4) ∧ wS.cell? ⟨gp, 5, none⟩ = some (.int .u64 p5) ∧ wS.cell? ⟨w.heap.size, 1, none⟩ = some (.slice (some ⟨b, o, none⟩) xs.length c) ∧ wS.cell? ⟨b, o + j * 2 + 1, none⟩ = some (.int .i64 a)) 11 (by kernel_rfl) hz9 (fun hHeld => ?_)
            refine Rk.take [11] (i := 0) (v := ?_) rfl (by kernel_rfl) (by kernel_rfl) (by kernel_rfl) (by kernel_rfl) (by kernel_rfl) (fun _ _ _ h => h) (Or.inl ⟨by kernel_rfl, ?_⟩) (by assumption) ?_
            rotate_left
            · ((intro w hSw; (try dsimp only at hSw); go_simp) <;> with_reducible rfl)
            try simp only [Act.put, List.setIfInBounds_toArray, List.set_cons_zero, List.set_cons_succ]
            refine Rk.takeP (i := 1) (v := ?_) rfl (by kernel_rfl) (by kernel_rfl) (by kernel_rfl) (by kernel_rfl) (fun _ _ _ h => h) (Or.inl ⟨by kernel_rfl, ?_⟩) (by assumption) ?_
            rotate_left
            · ((intro w hSw; go_simp) <;> with_reducible rfl)
            try simp only [Act.put, List.setIfInBounds_toArray, List.set_cons_zero, List.set_cons_succ]
            refine Rk.takeP (i := 3) (v := ?_) rfl (by kernel_rfl) (by kernel_rfl) (by kernel_rfl) (by kernel_rfl) (fun _ _ _ h => h) (Or.inl ⟨by kernel_rfl, ?_⟩) (by assumption) ?_
            rotate_left
            · ((intro w hSw; go_simp) <;> with_reducible rfl)
            try simp only [Act.put, List.setIfInBounds_toArray, List.set_cons_zero, List.set_cons_succ]
            refine Rk.take [11] (i := 4) (v := ?_) rfl (by kernel_rfl) (by kernel_rfl) (by kernel_rfl) (by kernel_rfl) (by kernel_rfl) (fun _ _ _ h => h) (Or.inl ⟨by kernel_rfl, ?_⟩) (by assumption) ?_
            rotate_left
            · ((intro w hSw; (try dsimp only at hSw); go_simp) <;> with_reducible rfl)
            try simp only [Act.put, List.setIfInBounds_toArray, List.set_cons_zero, List.set_cons_succ]
            refine Rk.takeP (i := 5) (v := ?_) rfl (by kernel_rfl) (by kernel_rfl) (by kernel_rfl) (by kernel_rfl) (fun _ _ _ h => h) (Or.inl ⟨by kernel_rfl, ?_⟩) (by assumption) ?_
            rotate_left
            · ((intro w hSw; go_simp) <;> with_reducible rfl)
            try simp only [Act.put, List.setIfInBounds_toArray, List.set_cons_zero, List.set_cons_succ]
            refine Rk.takeP (i := 6) (v := ?_) rfl (by kernel_rfl) (by kernel_rfl) (by kernel_rfl) (by kernel_rfl) (fun _ _ _ h => h) (Or.inl ⟨by kernel_rfl, ?_⟩) (by assumption) ?_
            rotate_left
            · ((intro w hSw; go_simp) <;> with_reducible rfl)
            try simp only [Act.put, List.setIfInBounds_toArray, List.set_cons_zero, List.set_cons_succ]
            refine Rk.takeP (i := 7) (v := ?_) rfl (by kernel_rfl) (by kernel_rfl) (by kernel_rfl) (by kernel_rfl) (fun _ _ _ h => h) (Or.inl ⟨by kernel_rfl, ?_⟩) (by assumption) ?_
            rotate_left
            · ((intro w hSw; go_simp) <;> with_reducible rfl)
            try simp only [Act.put, List.setIfInBounds_toArray, List.set_cons_zero, List.set_cons_succ]
            refine Rk.take [11] (i := 8) (v := ?_) rfl (by kernel_rfl) (by kernel_rfl) (by kernel_rfl) (by kernel_rfl) (by kernel_rfl) (fun _ _ _ h => h) (Or.inl ⟨by kernel_rfl, ?_⟩) (by assumption) ?_
            rotate_left
            · ((intro w hSw; (try dsimp only at hSw); go_simp) <;> with_reducible rfl)
            try simp only [Act.put, List.setIfInBounds_toArray, List.set_cons_zero, List.set_cons_succ]
            refine Rk.one (i := 2) (by kernel_rfl) rfl (fun KK hK => ?_)
            rw [if_pos (by kernel_rfl)]
            go_simp
            ((with_reducible refine (SZ.out v _ v1 v2).mono ?_); rintro e uu ⟨rfl, rfl⟩)
            refine hK.out _ _ hHeld (fun hHeld => ?_)
            clear hK KK
            refine Rk.one (i := 9) (by kernel_rfl) rfl (fun KK hK => ?_)
            rw [if_pos (by kernel_rfl)]
            go_simp
            ((with_reducible refine (SZ.out a _ a1 a2).mono ?_); rintro e uu ⟨rfl, rfl⟩)
            refine hK.out _ _ hHeld (fun hHeld => ?_)
            clear hK KK
            refine Rk.one (i := 10) (by kernel_rfl) rfl (fun KK hK => ?_)
            rw [if_pos (by kernel_rfl)]
            go_simp
            ((with_reducible refine (PL.out p0 p1 p2 p3 p4 p5 (mag v) (mag a) _ HDP.out hm1 hm2 hmv).mono ?_); rintro e u2 ⟨f0, f1, f2, f3, f4, f5, rfl, hfb, hfv, hb2⟩)
            refine hK.out _ _ ⟨kp hb2 (lt_of_cell hHeld.1) hHeld.1, kp hb2 (lt_of_cell hHeld.2.1) hHeld.2.1, kp hb2 (lt_of_cell hHeld.2.2.1) hHeld.2.2.1, kp hb2 (lt_of_cell hHeld.2.2.2.1) hHeld.2.2.2.1, kp hb2 (lt_of_cell hHeld.2.2.2.2.1) hHeld.2.2.2.2.1, kp hb2 (lt_of_cell hHeld.2.2.2.2.2.1) hHeld.2.2.2.2.2.1, kp hb2 (lt_of_cell hHeld.2.2.2.2.2.2.1) hHeld.2.2.2.2.2.2.1, kp hb2 (lt_of_cell hHeld.2.2.2.2.2.2.2) hHeld.2.2.2.2.2.2.2⟩ (fun hHeld => ?_)
            clear hK KK
            refine Rk.tail [11] [_] (by kernel_rfl) (by kernel_rfl) rfl (by decide) ?_
            have F5 := (Cl.drew hF.out).below hb2
            have K5 := (hB.drew).trans (hb2.mono hB.size)
            obtain ⟨s0, zs0⟩ := F5 (gp) 0 (.int .u64 p0) (by simp)
            obtain ⟨s1, zs1⟩ := F5 (gp) 1 (.int .u64 p1) (by simp)
            obtain ⟨s2, zs2⟩ := F5 (gp) 2 (.int .u64 p2) (by simp)
            obtain ⟨s3, zs3⟩ := F5 (gp) 3 (.int .u64 p3) (by simp)
            obtain ⟨s4, zs4⟩ := F5 (gp) 4 (.int .u64 p4) (by simp)
            obtain ⟨s5, zs5⟩ := F5 (gp) 5 (.int .u64 p5) (by simp)
            have FT : Cl ([(gp, 0, .int .u64 f0), (gp, 1, .int .u64 f1), (gp, 2, .int .u64 f2), (gp, 3, .int .u64 f3), (gp, 4, .int .u64 f4), (gp, 5, .int .u64 f5)] ++ [(gp + 1, 0, .int .u64 m0), (gp + 1, 1, .int .u64 m1), (gp + 1, 2, .int .u64 m2), (gp + 1, 3, .int .u64 m3), (gp + 1, 4, .int .u64 m4), (gp + 1, 5, .int .u64 m5), (w.heap.size, 0, .int .i64 k), (w.heap.size, 1, .slice (some ⟨b, o, none⟩) xs.length c)]) ((((((u2.setCell ⟨gp, 0, none⟩ (.int .u64 f0)).setCell ⟨gp, 1, none⟩ (.int .u64 f1)).setCell ⟨gp, 2, none⟩ (.int .u64 f2)).setCell ⟨gp, 3, none⟩ (.int .u64 f3)).setCell ⟨gp, 4, none⟩ (.int .u64 f4)).setCell ⟨gp, 5, none⟩ (.int .u64 f5)) := (put6 (F5.sub (L' := [(gp, 0, .int .u64 p0), (gp, 1, .int .u64 p1), (gp, 2, .int .u64 p2), (gp, 3, .int .u64 p3), (gp, 4, .int .u64 p4), (gp, 5, .int .u64 p5)]) (by intro x hx; simp only [List.mem_cons, List.not_mem_nil, or_false] at hx ⊢; rcases hx with h | h | h | h | h | h <;> simp [h]))).append (put6_far (F5.sub (L' := [(gp + 1, 0, .int .u64 m0), (gp + 1, 1, .int .u64 m1), (gp + 1, 2, .int .u64 m2), (gp + 1, 3, .int .u64 m3), (gp + 1, 4, .int .u64 m4), (gp + 1, 5, .int .u64 m5), (w.heap.size, 0, .int .i64 k), (w.heap.size, 1, .slice (some ⟨b, o, none⟩) xs.length c)]) (by intro x hx; simp only [List.mem_cons, List.not_mem_nil, or_false] at hx ⊢; rcases hx with h | h | h | h | h | h | h | h <;> simp [h])) (by simp only [List.forall_mem_cons]; simp; omega))
            have hF2 : Hid (Cl [(gp, 0, .int .u64 f0), (gp, 1, .int .u64 f1), (gp, 2, .int .u64 f2), (gp, 3, .int .u64 f3), (gp, 4, .int .u64 f4), (gp, 5, .int .u64 f5), (gp + 1, 0, .int .u64 m0), (gp + 1, 1, .int .u64 m1), (gp + 1, 2, .int .u64 m2), (gp + 1, 3, .int .u64 m3), (gp + 1, 4, .int .u64 m4), (gp + 1, 5, .int .u64 m5), (w.heap.size, 0, .int .i64 k), (w.heap.size, 1, .slice (some ⟨b, o, none⟩) xs.length c)] ((((((u2.setCell ⟨gp, 0, none⟩ (.int .u64 f0)).setCell ⟨gp, 1, none⟩ (.int .u64 f1)).setCell ⟨gp, 2, none⟩ (.int .u64 f2)).setCell ⟨gp, 3, none⟩ (.int .u64 f3)).setCell ⟨gp, 4, none⟩ (.int .u64 f4)).setCell ⟨gp, 5, none⟩ (.int .u64 f5))) := Lib.hid (FT.sub (by intro x hx; simp only [List.mem_cons, List.not_mem_nil, or_false, List.mem_append] at hx ⊢; rcases hx with h | h | h | h | h | h | h | h | h | h | h | h | h | h <;> simp [h]))
            have hB2 := put6_below (g := gp) (e0 := f0) (e1 := f1) (e2 := f2) (e3 := f3) (e4 := f4) (e5 := f5) K5 (by omega)
            have HDF := Lib.hid hfb
            have HFV := Lib.hid hfv
            clear hHeld hz9 F5 K5 FT hfb hfv hb2 hF hB
            have HV2 : Hid (dval f0 f1 f2 f3 f4 f5 - dval m0 m1 m2 m3 m4 m5 = k + evS es (xs.take (j + 1))) := Lib.hid (by have h1 := HFV.out; have h2 := HVJ.out; have h3 := HSUM.out; have h4 := HP9.out; have h5 := HPR.out; rw [h5] at h1; rw [h3, ← h2, h1]; omega)
            have HB2 : Hid (dval f0 f1 f2 f3 f4 f5 ≤ 85070591730234615865843651857942052864 * (((j + 1 : Nat) : Int) + 1) ∧ dval m0 m1 m2 m3 m4 m5 ≤ 85070591730234615865843651857942052864 * (((j + 1 : Nat) : Int) + 1)) := Lib.hid (by have h1 := HFV.out; have h2 := HBJ.out; have h5 := HPR.out; have h6 := mpb.out; rw [h5] at h1; rw [h1]; omega)
            clear HFV HVJ HSUM HP9 HPR HBJ mpb hm1 hm2 hmv hz1 hz2 c1 q1
            go_wp2
            go_roundw
            case rel => exact ⟨j + 1, f0, f1, f2, f3, f4, f5, m0, m1, m2, m3, m4, m5, by go_num, by omega, hB2, hF2, HDF, HDN, HV2, HB2, HI2⟩
            case measure => simp [intOf]; omega
      · have j1 : ¬ (j : Int) < xs.length := by omega
        obtain rfl : j = xs.length := by omega
        have q1 := (hF.out w.heap.size 1 (.slice p xs.length c) (by simp)).1
        have hvl := HVJ.out
        have hi4 := HI.out
        rw [List.take_length] at hvl hi4
        have HVL := Lib.hid hvl
        have HI4 := Lib.hid hi4
        have hF4 := hF.out
        have hpn := dval_nn HDP.out
        have hnn := dval_nn HDN.out
        clear hF HVJ HI HBJ hvl hi4
        by_cases hlt : dval p0 p1 p2 p3 p4 p5 < dval m0 m1 m2 m3 m4 m5
        · have hd : decide (dval p0 p1 p2 p3 p4 p5 < dval m0 m1 m2 m3 m4 m5) = true := decide_eq_true hlt
          obtain ⟨DD, hDD⟩ : ∃ D, dval m0 m1 m2 m3 m4 m5 - dval p0 p1 p2 p3 p4 p5 = D := ⟨_, rfl⟩
          have HPOS := Lib.hid (show 0 < DD by omega)
          have HS := Lib.hid (show k + evS es xs = -DD by have := HVL.out; omega)
          have HNO : Hid (9223372036854775808 < DD → EV k xs es 0 3) := Lib.hid fun h => .inr (.inr (.inr ⟨HK.out, HI4.out, by rw [HS.out]; cases hf : fit64 (-DD) with | false => rfl | true => have := fit_yes.1 hf; omega, rfl, rfl⟩))
          have HYES : Hid (DD ≤ 9223372036854775808 → EV k xs es (-DD) 0) := Lib.hid fun h => .inr (.inr (.inl ⟨HK.out, HI4.out, by rw [HS.out]; exact fit_yes.2 (by have := HPOS.out; omega), HS.out.symm, rfl⟩))
          have CM := Lib.hid fun u => MI.out m0 m1 m2 m3 m4 m5 p0 p1 p2 p3 p4 p5 u HDN.out HDP.out (by omega)
          rw [hDD] at CM
          clear hDD hlt
          obtain ⟨s0, _⟩ := hF4 gp 0 (.int .u64 p0) (by simp)
          obtain ⟨t0, _⟩ := hF4 (gp + 1) 0 (.int .u64 m0) (by simp)
          obtain ⟨s1, _⟩ := hF4 gp 1 (.int .u64 p1) (by simp)
          obtain ⟨t1, _⟩ := hF4 (gp + 1) 1 (.int .u64 m1) (by simp)
          obtain ⟨s2, _⟩ := hF4 gp 2 (.int .u64 p2) (by simp)
          obtain ⟨t2, _⟩ := hF4 (gp + 1) 2 (.int .u64 m2) (by simp)
          obtain ⟨s3, _⟩ := hF4 gp 3 (.int .u64 p3) (by simp)
          obtain ⟨t3, _⟩ := hF4 (gp + 1) 3 (.int .u64 m3) (by simp)
          obtain ⟨s4, _⟩ := hF4 gp 4 (.int .u64 p4) (by simp)
          obtain ⟨t4, _⟩ := hF4 (gp + 1) 4 (.int .u64 m4) (by simp)
          obtain ⟨s5, _⟩ := hF4 gp 5 (.int .u64 p5) (by simp)
          obtain ⟨t5, _⟩ := hF4 (gp + 1) 5 (.int .u64 m5) (by simp)
          go_wp2_with fail
          refine (LE.out m0 m1 m2 m3 m4 m5 p0 p1 p2 p3 p4 p5 _ HDP.out HDN.out).mono ?_
          rintro e w4 ⟨rfl, hb⟩
          replace hF4 := hF4.below hb
          replace hB := hB.trans (hb.mono hB.size)
          clear hb s0 s1 s2 s3 s4 s5 t0 t1 t2 t3 t4 t5
          obtain ⟨s0, _⟩ := hF4 gp 0 (.int .u64 p0) (by simp)
          obtain ⟨t0, _⟩ := hF4 (gp + 1) 0 (.int .u64 m0) (by simp)
          obtain ⟨s1, _⟩ := hF4 gp 1 (.int .u64 p1) (by simp)
          obtain ⟨t1, _⟩ := hF4 (gp + 1) 1 (.int .u64 m1) (by simp)
          obtain ⟨s2, _⟩ := hF4 gp 2 (.int .u64 p2) (by simp)
          obtain ⟨t2, _⟩ := hF4 (gp + 1) 2 (.int .u64 m2) (by simp)
          obtain ⟨s3, _⟩ := hF4 gp 3 (.int .u64 p3) (by simp)
          obtain ⟨t3, _⟩ := hF4 (gp + 1) 3 (.int .u64 m3) (by simp)
          obtain ⟨s4, _⟩ := hF4 gp 4 (.int .u64 p4) (by simp)
          obtain ⟨t4, _⟩ := hF4 (gp + 1) 4 (.int .u64 m4) (by simp)
          obtain ⟨s5, _⟩ := hF4 gp 5 (.int .u64 p5) (by simp)
          obtain ⟨t5, _⟩ := hF4 (gp + 1) 5 (.int .u64 m5) (by simp)
          go_wp2_with fail
          refine (CM.out _).mono ?_
          rintro e w5 ⟨e0, e1, e2, e3, e4, e5, rfl, hbe, hve, hb⟩
          have KF := (hB.trans (hb.mono hB.size)).alloc (hB.trans (hb.mono hB.size)).size (Obj.cells #[Value.int .u64 e0, Value.int .u64 e1, Value.int .u64 e2, Value.int .u64 e3, Value.int .u64 e4, Value.int .u64 e5] 86)
          have HBD := Lib.hid hbe
          have HV := Lib.hid hve
          obtain ⟨⟨x0, y0⟩, ⟨x1, y1⟩, ⟨x2, y2⟩, ⟨x3, y3⟩, ⟨x4, y4⟩, ⟨x5, y5⟩⟩ := hbe
          obtain ⟨nn, hnn⟩ : ∃ n, e0 + e1 * 4294967296 = n := ⟨_, rfl⟩
          have HNN := Lib.hid hnn
          have w1 : IntKind.u64.wrap (e1 * 4294967296) = e1 * 4294967296 := by rw [u64w]; omega
          have w2 : IntKind.u64.wrap (e0 + e1 * 4294967296) = nn := by rw [hnn, u64w]; omega
          have hn0 : 0 ≤ nn ∧ nn < 18446744073709551616 := by omega
          obtain ⟨hn0, hn00⟩ := hn0
          clear hb hve hnn hF4 hB s0 s1 s2 s3 s4 s5 t0 t1 t2 t3 t4 t5
          by_cases h2 : e2 = 0
          case neg =>
            have hb2 : (e2 == 0) = false := beq_false_of_ne h2
            have hn2 : (e2 != 0) = true := by rw [bne, hb2]; rfl
            have HE := Lib.hid (show EV k xs es 0 3 from HNO.out (by have hv := HV.out; have hb := HBD.out; have hnn := HNN.out; unfold dval at hv; omega))
            clear h2
            go_wp2
            go_ret2
            exact ⟨0, 3, rfl, HE.out, KF⟩
          subst h2
          by_cases h3 : e3 = 0
          case neg =>
            have hb3 : (e3 == 0) = false := beq_false_of_ne h3
            have hn3 : (e3 != 0) = true := by rw [bne, hb3]; rfl
            have HE := Lib.hid (show EV k xs es 0 3 from HNO.out (by have hv := HV.out; have hb := HBD.out; have hnn := HNN.out; unfold dval at hv; omega))
            clear h3
            go_wp2
            go_ret2
            exact ⟨0, 3, rfl, HE.out, KF⟩
          subst h3
          by_cases h4 : e4 = 0
          case neg =>
            have hb4 : (e4 == 0) = false := beq_false_of_ne h4
            have hn4 : (e4 != 0) = true := by rw [bne, hb4]; rfl
            have HE := Lib.hid (show EV k xs es 0 3 from HNO.out (by have hv := HV.out; have hb := HBD.out; have hnn := HNN.out; unfold dval at hv; omega))
            clear h4
            go_wp2
            go_ret2
            exact ⟨0, 3, rfl, HE.out, KF⟩
          subst h4
          by_cases h5 : e5 = 0
          case neg =>
            have hb5 : (e5 == 0) = false := beq_false_of_ne h5
            have hn5 : (e5 != 0) = true := by rw [bne, hb5]; rfl
            have HE := Lib.hid (show EV k xs es 0 3 from HNO.out (by have hv := HV.out; have hb := HBD.out; have hnn := HNN.out; unfold dval at hv; omega))
            clear h5
            go_wp2
            go_ret2
            exact ⟨0, 3, rfl, HE.out, KF⟩
          subst h5
          by_cases hlim : 9223372036854775808 < nn
          case pos =>
            have HE := Lib.hid (show EV k xs es 0 3 from HNO.out (by have hv := HV.out; have hb := HBD.out; have hnn := HNN.out; unfold dval at hv; omega))
            go_wp2
            go_ret2
            exact ⟨0, 3, rfl, HE.out, KF⟩
          have hdv : nn = DD := by have hv := HV.out; have hb := HBD.out; have hnn := HNN.out; unfold dval at hv; omega
          have hn1 : 1 ≤ nn := by have := HPOS.out; omega
          have HE := Lib.hid (show EV k xs es (-(nn - 1) - 1) 0 from by have h := HYES.out (by omega); rw [show -(nn - 1) - 1 = -DD by omega]; exact h)
          clear hdv
          have w3 : IntKind.u64.wrap (nn - 1) = nn - 1 := by rw [u64w]; omega
          have w4 : wrap64 (nn - 1) = nn - 1 := by unfold wrap64; omega
          go_wp2
          go_ret2
          exact ⟨-(nn - 1) - 1, 0, rfl, HE.out, KF⟩
        · have hd : decide (dval p0 p1 p2 p3 p4 p5 < dval m0 m1 m2 m3 m4 m5) = false := decide_eq_false hlt
          obtain ⟨DD, hDD⟩ : ∃ D, dval p0 p1 p2 p3 p4 p5 - dval m0 m1 m2 m3 m4 m5 = D := ⟨_, rfl⟩
          have HPOS := Lib.hid (show 0 ≤ DD by omega)
          have HS := Lib.hid (show k + evS es xs = DD by have := HVL.out; omega)
          have HNO : Hid (9223372036854775807 < DD → EV k xs es 0 3) := Lib.hid fun h => .inr (.inr (.inr ⟨HK.out, HI4.out, by rw [HS.out]; cases hf : fit64 (DD) with | false => rfl | true => have := fit_yes.1 hf; omega, rfl, rfl⟩))
          have HYES : Hid (DD ≤ 9223372036854775807 → EV k xs es (DD) 0) := Lib.hid fun h => .inr (.inr (.inl ⟨HK.out, HI4.out, by rw [HS.out]; exact fit_yes.2 (by have := HPOS.out; omega), HS.out.symm, rfl⟩))
          have CM := Lib.hid fun u => MI.out p0 p1 p2 p3 p4 p5 m0 m1 m2 m3 m4 m5 u HDP.out HDN.out (by omega)
          rw [hDD] at CM
          clear hDD hlt
          obtain ⟨s0, _⟩ := hF4 gp 0 (.int .u64 p0) (by simp)
          obtain ⟨t0, _⟩ := hF4 (gp + 1) 0 (.int .u64 m0) (by simp)
          obtain ⟨s1, _⟩ := hF4 gp 1 (.int .u64 p1) (by simp)
          obtain ⟨t1, _⟩ := hF4 (gp + 1) 1 (.int .u64 m1) (by simp)
          obtain ⟨s2, _⟩ := hF4 gp 2 (.int .u64 p2) (by simp)
          obtain ⟨t2, _⟩ := hF4 (gp + 1) 2 (.int .u64 m2) (by simp)
          obtain ⟨s3, _⟩ := hF4 gp 3 (.int .u64 p3) (by simp)
          obtain ⟨t3, _⟩ := hF4 (gp + 1) 3 (.int .u64 m3) (by simp)
          obtain ⟨s4, _⟩ := hF4 gp 4 (.int .u64 p4) (by simp)
          obtain ⟨t4, _⟩ := hF4 (gp + 1) 4 (.int .u64 m4) (by simp)
          obtain ⟨s5, _⟩ := hF4 gp 5 (.int .u64 p5) (by simp)
          obtain ⟨t5, _⟩ := hF4 (gp + 1) 5 (.int .u64 m5) (by simp)
          go_wp2_with fail
          refine (LE.out m0 m1 m2 m3 m4 m5 p0 p1 p2 p3 p4 p5 _ HDP.out HDN.out).mono ?_
          rintro e w4 ⟨rfl, hb⟩
          replace hF4 := hF4.below hb
          replace hB := hB.trans (hb.mono hB.size)
          clear hb s0 s1 s2 s3 s4 s5 t0 t1 t2 t3 t4 t5
          obtain ⟨s0, _⟩ := hF4 gp 0 (.int .u64 p0) (by simp)
          obtain ⟨t0, _⟩ := hF4 (gp + 1) 0 (.int .u64 m0) (by simp)
          obtain ⟨s1, _⟩ := hF4 gp 1 (.int .u64 p1) (by simp)
          obtain ⟨t1, _⟩ := hF4 (gp + 1) 1 (.int .u64 m1) (by simp)
          obtain ⟨s2, _⟩ := hF4 gp 2 (.int .u64 p2) (by simp)
          obtain ⟨t2, _⟩ := hF4 (gp + 1) 2 (.int .u64 m2) (by simp)
          obtain ⟨s3, _⟩ := hF4 gp 3 (.int .u64 p3) (by simp)
          obtain ⟨t3, _⟩ := hF4 (gp + 1) 3 (.int .u64 m3) (by simp)
          obtain ⟨s4, _⟩ := hF4 gp 4 (.int .u64 p4) (by simp)
          obtain ⟨t4, _⟩ := hF4 (gp + 1) 4 (.int .u64 m4) (by simp)
          obtain ⟨s5, _⟩ := hF4 gp 5 (.int .u64 p5) (by simp)
          obtain ⟨t5, _⟩ := hF4 (gp + 1) 5 (.int .u64 m5) (by simp)
          go_wp2_with fail
          refine (CM.out _).mono ?_
          rintro e w5 ⟨e0, e1, e2, e3, e4, e5, rfl, hbe, hve, hb⟩
          have KF := (hB.trans (hb.mono hB.size)).alloc (hB.trans (hb.mono hB.size)).size (Obj.cells #[Value.int .u64 e0, Value.int .u64 e1, Value.int .u64 e2, Value.int .u64 e3, Value.int .u64 e4, Value.int .u64 e5] 86)
          have HBD := Lib.hid hbe
          have HV := Lib.hid hve
          obtain ⟨⟨x0, y0⟩, ⟨x1, y1⟩, ⟨x2, y2⟩, ⟨x3, y3⟩, ⟨x4, y4⟩, ⟨x5, y5⟩⟩ := hbe
          obtain ⟨nn, hnn⟩ : ∃ n, e0 + e1 * 4294967296 = n := ⟨_, rfl⟩
          have HNN := Lib.hid hnn
          have w1 : IntKind.u64.wrap (e1 * 4294967296) = e1 * 4294967296 := by rw [u64w]; omega
          have w2 : IntKind.u64.wrap (e0 + e1 * 4294967296) = nn := by rw [hnn, u64w]; omega
          have hn0 : 0 ≤ nn ∧ nn < 18446744073709551616 := by omega
          obtain ⟨hn0, hn00⟩ := hn0
          clear hb hve hnn hF4 hB s0 s1 s2 s3 s4 s5 t0 t1 t2 t3 t4 t5
          by_cases h2 : e2 = 0
          case neg =>
            have hb2 : (e2 == 0) = false := beq_false_of_ne h2
            have hn2 : (e2 != 0) = true := by rw [bne, hb2]; rfl
            have HE := Lib.hid (show EV k xs es 0 3 from HNO.out (by have hv := HV.out; have hb := HBD.out; have hnn := HNN.out; unfold dval at hv; omega))
            clear h2
            go_wp2
            go_ret2
            exact ⟨0, 3, rfl, HE.out, KF⟩
          subst h2
          by_cases h3 : e3 = 0
          case neg =>
            have hb3 : (e3 == 0) = false := beq_false_of_ne h3
            have hn3 : (e3 != 0) = true := by rw [bne, hb3]; rfl
            have HE := Lib.hid (show EV k xs es 0 3 from HNO.out (by have hv := HV.out; have hb := HBD.out; have hnn := HNN.out; unfold dval at hv; omega))
            clear h3
            go_wp2
            go_ret2
            exact ⟨0, 3, rfl, HE.out, KF⟩
          subst h3
          by_cases h4 : e4 = 0
          case neg =>
            have hb4 : (e4 == 0) = false := beq_false_of_ne h4
            have hn4 : (e4 != 0) = true := by rw [bne, hb4]; rfl
            have HE := Lib.hid (show EV k xs es 0 3 from HNO.out (by have hv := HV.out; have hb := HBD.out; have hnn := HNN.out; unfold dval at hv; omega))
            clear h4
            go_wp2
            go_ret2
            exact ⟨0, 3, rfl, HE.out, KF⟩
          subst h4
          by_cases h5 : e5 = 0
          case neg =>
            have hb5 : (e5 == 0) = false := beq_false_of_ne h5
            have hn5 : (e5 != 0) = true := by rw [bne, hb5]; rfl
            have HE := Lib.hid (show EV k xs es 0 3 from HNO.out (by have hv := HV.out; have hb := HBD.out; have hnn := HNN.out; unfold dval at hv; omega))
            clear h5
            go_wp2
            go_ret2
            exact ⟨0, 3, rfl, HE.out, KF⟩
          subst h5
          by_cases hlim : 9223372036854775807 < nn
          case pos =>
            have HE := Lib.hid (show EV k xs es 0 3 from HNO.out (by have hv := HV.out; have hb := HBD.out; have hnn := HNN.out; unfold dval at hv; omega))
            go_wp2
            go_ret2
            exact ⟨0, 3, rfl, HE.out, KF⟩
          have hdv : nn = DD := by have hv := HV.out; have hb := HBD.out; have hnn := HNN.out; unfold dval at hv; omega
          have HE := Lib.hid (show EV k xs es nn 0 from by have h := HYES.out (by omega); rw [hdv]; exact h)
          clear hdv
          have w4 : wrap64 nn = nn := by unfold wrap64; omega
          go_wp2
          go_ret2
          exact ⟨nn, 0, rfl, HE.out, KF⟩
set_option maxRecDepth 100000 in
set_option maxHeartbeats 64000000 in
theorem eval2p (k : Int) (p : Option Addr) (xs : List Mo) (c : Nat) (q : Option Addr) (es : List Mo) (d : Nat) (w : World) (hn : xs.length ≤ 1000) (hm : es.length ≤ maxLen) (RA : Hid (SlM w p xs)) (RB : Hid (SlM w q es))
    (RS : Hid (∀ i, i < xs.length → (xs.getD i mo0).1.size ≤ maxLen ∧ -9223372036854775808 ≤ (xs.getD i mo0).2 ∧ (xs.getD i mo0).2 ≤ 9223372036854775807)) (RT : Hid (∀ i, i < es.length → (es.getD i mo0).1.size ≤ maxLen ∧ -9223372036854775808 ≤ (es.getD i mo0).2 ∧ (es.getD i mo0).2 ≤ 9223372036854775807))
    (k1 : -9223372036854775808 ≤ k) (k2 : k ≤ 9223372036854775807) (hk0 : ¬ k < 0) :
    Calls Try.prog 34 #[Lv k p xs.length c, .slice q es.length d] w (EW k xs es w) := by
  have C1 := Lib.hid fun (u : World) (h : Hid (SlM u p xs)) => val2 k p xs c u (by unfold maxLen; omega) h (Lib.hid fun i hi => (RS.out i hi).1)
  have CX := Lib.hid fun (s : ByteArray) (u : World) (h : Hid (SlM u q es)) => find1 q es d s u hm h
  have CBD := Lib.hid (co_bd RT.out)
  have SZ := Lib.hid size1
  have PL := Lib.hid plusW
  have LE := Lib.hid less1
  have MI := Lib.hid minus1
  have B0 : Below w.heap.size w (w.alloc (Obj.cells #[Value.int .i64 k, Value.slice p xs.length c] 44)) := (Below.refl _ _).alloc (Nat.le_refl _) _
  have F0 : Cl [(w.heap.size, 0, .int .i64 k), (w.heap.size, 1, .slice p xs.length c)] (w.alloc (Obj.cells #[Value.int .i64 k, Value.slice p xs.length c] 44)) := Cl.cons (by go_cell) (by first | go_cell | simp) (Cl.cons (by go_cell) (by first | go_cell | simp) (Cl.nil _))
  have S0 : w.heap.size < ((w.alloc (Obj.cells #[Value.int .i64 k, Value.slice p xs.length c] 44))).heap.size := by simp
  unfold maxLen at hm
  unfold Lv at *
  obtain ⟨ok, hok⟩ : ∃ ok, okL xs = ok := ⟨_, rfl⟩
  have HK := Lib.hid hok
  cases ok
  · have hv : vL xs = 1 := by unfold vL; rw [hok]; rfl
    rw [hv] at C1
    clear hok hv
    go_enter Try.func34, Try.ntmps34
    go_wp2_with fail
    generalize (w.alloc (Obj.cells #[Value.int .i64 k, Value.slice p xs.length c] 44)) = z at *
    refine (C1.out _ (Lib.hid (SlM.keep B0 RA.out))).mono ?_
    rintro e w1 ⟨rfl, hb⟩
    have K1 := B0.trans (hb.mono B0.size)
    clear F0 hb B0 S0
    go_wp2
    go_ret2
    exact ⟨0, 1, rfl, .inl ⟨HK.out, rfl, rfl⟩, K1⟩
  · have hv : vL xs = 0 := by unfold vL; rw [hok]; rfl
    rw [hv] at C1
    clear hok hv
    go_enter Try.func34, Try.ntmps34
    go_wp2_with fail
    generalize (w.alloc (Obj.cells #[Value.int .i64 k, Value.slice p xs.length c] 44)) = z at *
    refine (C1.out _ (Lib.hid (SlM.keep B0 RA.out))).mono ?_
    rintro e w1 ⟨rfl, hb⟩
    replace F0 := F0.below hb
    replace B0 := B0.trans (hb.mono B0.size)
    replace S0 := Nat.lt_of_lt_of_le S0 hb.size
    have hB := (B0.alloc B0.size (Obj.cells #[Value.int .u64 0, Value.int .u64 0, Value.int .u64 0, Value.int .u64 0, Value.int .u64 0, Value.int .u64 0] 86)).alloc (by have := B0.size; simp; omega) (Obj.cells #[Value.int .u64 0, Value.int .u64 0, Value.int .u64 0, Value.int .u64 0, Value.int .u64 0, Value.int .u64 0] 86)
    have hF : Hid (Cl [(w1.heap.size, 0, .int .u64 0), (w1.heap.size, 1, .int .u64 0), (w1.heap.size, 2, .int .u64 0), (w1.heap.size, 3, .int .u64 0), (w1.heap.size, 4, .int .u64 0), (w1.heap.size, 5, .int .u64 0), (w1.heap.size + 1, 0, .int .u64 0), (w1.heap.size + 1, 1, .int .u64 0), (w1.heap.size + 1, 2, .int .u64 0), (w1.heap.size + 1, 3, .int .u64 0), (w1.heap.size + 1, 4, .int .u64 0), (w1.heap.size + 1, 5, .int .u64 0), (w.heap.size, 0, .int .i64 k), (w.heap.size, 1, .slice p xs.length c)] ((w1.alloc (Obj.cells #[Value.int .u64 0, Value.int .u64 0, Value.int .u64 0, Value.int .u64 0, Value.int .u64 0, Value.int .u64 0] 86)).alloc (Obj.cells #[Value.int .u64 0, Value.int .u64 0, Value.int .u64 0, Value.int .u64 0, Value.int .u64 0, Value.int .u64 0] 86))) := Lib.hid (Cl.cons (by go_cell) (by first | go_cell | simp) (Cl.cons (by go_cell) (by first | go_cell | simp) (Cl.cons (by go_cell) (by first | go_cell | simp) (Cl.cons (by go_cell) (by first | go_cell | simp) (Cl.cons (by go_cell) (by first | go_cell | simp) (Cl.cons (by go_cell) (by first | go_cell | simp) (Cl.cons (by go_cell) (by first | go_cell | simp) (Cl.cons (by go_cell) (by first | go_cell | simp) (Cl.cons (by go_cell) (by first | go_cell | simp) (Cl.cons (by go_cell) (by first | go_cell | simp) (Cl.cons (by go_cell) (by first | go_cell | simp) (Cl.cons (by go_cell) (by first | go_cell | simp) (((F0.below ((Below.refl _ _).alloc (Nat.le_refl _) (Obj.cells #[Value.int .u64 0, Value.int .u64 0, Value.int .u64 0, Value.int .u64 0, Value.int .u64 0, Value.int .u64 0] 86))).below ((Below.refl _ _).alloc (Nat.le_refl _) (Obj.cells #[Value.int .u64 0, Value.int .u64 0, Value.int .u64 0, Value.int .u64 0, Value.int .u64 0, Value.int .u64 0] 86))))))))))))))))
    have f0 := (hF.out w.heap.size 0 (.int .i64 k) (by simp)).1
    have hg0 := S0
    clear hb C1 F0 B0
    go_wp2_with fail
    generalize (w1.alloc (Obj.cells #[Value.int .u64 0, Value.int .u64 0, Value.int .u64 0, Value.int .u64 0, Value.int .u64 0, Value.int .u64 0] 86)).alloc (Obj.cells #[Value.int .u64 0, Value.int .u64 0, Value.int .u64 0, Value.int .u64 0, Value.int .u64 0, Value.int .u64 0] 86) = u0 at *
    generalize w1.heap.size = gp at *
    clear f0
    have hm1 : 0 ≤ mag k ∧ mag k < 18446744073709551616 := by have := mag_bd k1 k2; omega
    have hm2 : (0 : Int) ≤ 1 ∧ (1 : Int) < 18446744073709551616 := by omega
    have hmv : dval 0 0 0 0 0 0 + mag k * 1 < 6277101735386680763835789423207666416102355444464034512896 := by have := mag_bd k1 k2; unfold dval; omega
    have HDP : Hid ((0 ≤ (0 : Int) ∧ (0 : Int) < 4294967296) ∧ (0 ≤ (0 : Int) ∧ (0 : Int) < 4294967296) ∧ (0 ≤ (0 : Int) ∧ (0 : Int) < 4294967296) ∧ (0 ≤ (0 : Int) ∧ (0 : Int) < 4294967296) ∧ (0 ≤ (0 : Int) ∧ (0 : Int) < 4294967296) ∧ (0 ≤ (0 : Int) ∧ (0 : Int) < 4294967296)) := Lib.hid (by omega)
    have HDN : Hid ((0 ≤ (0 : Int) ∧ (0 : Int) < 4294967296) ∧ (0 ≤ (0 : Int) ∧ (0 : Int) < 4294967296) ∧ (0 ≤ (0 : Int) ∧ (0 : Int) < 4294967296) ∧ (0 ≤ (0 : Int) ∧ (0 : Int) < 4294967296) ∧ (0 ≤ (0 : Int) ∧ (0 : Int) < 4294967296) ∧ (0 ≤ (0 : Int) ∧ (0 : Int) < 4294967296)) := Lib.hid (by omega)
    go_wp2_with fail
    have hz9 : u0.drew.cell? ⟨gp, 0, none⟩ = some (.int .u64 0) ∧ u0.drew.cell? ⟨gp, 1, none⟩ = some (.int .u64 0) ∧ u0.drew.cell? ⟨gp, 2, none⟩ = some (.int .u64 0) ∧ u0.drew.cell? ⟨gp, 3, none⟩ = some (.int .u64 0) ∧ u0.drew.cell? ⟨gp, 4, none⟩ = some (.int .u64 0) ∧ u0.drew.cell? ⟨gp, 5, none⟩ = some (.int .u64 0) ∧ u0.drew.cell? ⟨w.heap.size, 0, none⟩ = some (.int .i64 k) := ⟨(hF.out (gp) 0 (.int .u64 0) (by simp)).1, (hF.out (gp) 1 (.int .u64 0) (by simp)).1, (hF.out (gp) 2 (.int .u64 0) (by simp)).1, (hF.out (gp) 3 (.int .u64 0) (by simp)).1, (hF.out (gp) 4 (.int .u64 0) (by simp)).1, (hF.out (gp) 5 (.int .u64 0) (by simp)).1, (hF.out w.heap.size 0 (.int .i64 k) (by simp)).1⟩
    refine Rk.begin (S := fun wS => wS.cell? ⟨gp, 0, none⟩ = some (.int .u64 0) ∧ wS.cell? ⟨gp, 1, none⟩ = some (.int .u64 0) ∧ wS.cell? ⟨gp, 2, none⟩ = some (.int .u64 0) ∧ wS.cell? ⟨gp, 3, none⟩ = some (.int .u64 0) ∧ wS.cell? ⟨gp, 4, none⟩ = some (.int .u64 0) ∧ wS.cell? ⟨gp, 5, none⟩ = some (.int .u64 0) ∧ wS.cell? ⟨w.heap.size, 0, none⟩ = some (.int .i64 k)) 5 (by kernel_rfl) hz9 (fun hHeld => ?_)
    refine Rk.take [5] (i := 0) (v := ?_) rfl (by kernel_rfl) (by kernel_rfl) (by kernel_rfl) (by kernel_rfl) (by kernel_rfl) (fun _ _ _ h => h) (Or.inl ⟨by kernel_rfl, ?_⟩) (by assumption) ?_
    rotate_left
    · ((intro w hSw; (try dsimp only at hSw); go_simp) <;> with_reducible rfl)
    try simp only [Act.put, List.setIfInBounds_toArray, List.set_cons_zero, List.set_cons_succ]
    refine Rk.takeP (i := 1) (v := ?_) rfl (by kernel_rfl) (by kernel_rfl) (by kernel_rfl) (by kernel_rfl) (fun _ _ _ h => h) (Or.inl ⟨by kernel_rfl, ?_⟩) (by assumption) ?_
    rotate_left
    · ((intro w hSw; go_simp) <;> with_reducible rfl)
    try simp only [Act.put, List.setIfInBounds_toArray, List.set_cons_zero, List.set_cons_succ]
    refine Rk.take [5] (i := 2) (v := ?_) rfl (by kernel_rfl) (by kernel_rfl) (by kernel_rfl) (by kernel_rfl) (by kernel_rfl) (fun _ _ _ h => h) (Or.inl ⟨by kernel_rfl, ?_⟩) (by assumption) ?_
    rotate_left
    · ((intro w hSw; (try dsimp only at hSw); go_simp) <;> with_reducible rfl)
    try simp only [Act.put, List.setIfInBounds_toArray, List.set_cons_zero, List.set_cons_succ]
    refine Rk.one (i := 3) (by kernel_rfl) rfl (fun KK hK => ?_)
    rw [if_pos (by kernel_rfl)]
    go_simp
    ((with_reducible refine (SZ.out k _ k1 k2).mono ?_); rintro e uu ⟨rfl, rfl⟩)
    refine hK.out _ _ hHeld (fun hHeld => ?_)
    clear hK KK
    refine Rk.one (i := 4) (by kernel_rfl) rfl (fun KK hK => ?_)
    rw [if_pos (by kernel_rfl)]
    go_simp
    ((with_reducible refine (PL.out 0 0 0 0 0 0 (mag k) 1 _ HDP.out hm1 hm2 hmv).mono ?_); rintro e u2 ⟨f0, f1, f2, f3, f4, f5, rfl, hfb, hfv, hb2⟩)
    refine hK.out _ _ ⟨kp hb2 (lt_of_cell hHeld.1) hHeld.1, kp hb2 (lt_of_cell hHeld.2.1) hHeld.2.1, kp hb2 (lt_of_cell hHeld.2.2.1) hHeld.2.2.1, kp hb2 (lt_of_cell hHeld.2.2.2.1) hHeld.2.2.2.1, kp hb2 (lt_of_cell hHeld.2.2.2.2.1) hHeld.2.2.2.2.1, kp hb2 (lt_of_cell hHeld.2.2.2.2.2.1) hHeld.2.2.2.2.2.1, kp hb2 (lt_of_cell hHeld.2.2.2.2.2.2) hHeld.2.2.2.2.2.2⟩ (fun hHeld => ?_)
    clear hK KK
    refine Rk.tail [5] [_] (by kernel_rfl) (by kernel_rfl) rfl (by decide) ?_
    have F5 := (Cl.drew hF.out).below hb2
    have K5 := (hB.drew).trans (hb2.mono hB.size)
    obtain ⟨s0, zs0⟩ := F5 (gp) 0 (.int .u64 0) (by simp)
    obtain ⟨s1, zs1⟩ := F5 (gp) 1 (.int .u64 0) (by simp)
    obtain ⟨s2, zs2⟩ := F5 (gp) 2 (.int .u64 0) (by simp)
    obtain ⟨s3, zs3⟩ := F5 (gp) 3 (.int .u64 0) (by simp)
    obtain ⟨s4, zs4⟩ := F5 (gp) 4 (.int .u64 0) (by simp)
    obtain ⟨s5, zs5⟩ := F5 (gp) 5 (.int .u64 0) (by simp)
    have FT : Cl ([(gp, 0, .int .u64 f0), (gp, 1, .int .u64 f1), (gp, 2, .int .u64 f2), (gp, 3, .int .u64 f3), (gp, 4, .int .u64 f4), (gp, 5, .int .u64 f5)] ++ [(gp + 1, 0, .int .u64 0), (gp + 1, 1, .int .u64 0), (gp + 1, 2, .int .u64 0), (gp + 1, 3, .int .u64 0), (gp + 1, 4, .int .u64 0), (gp + 1, 5, .int .u64 0), (w.heap.size, 0, .int .i64 k), (w.heap.size, 1, .slice p xs.length c)]) ((((((u2.setCell ⟨gp, 0, none⟩ (.int .u64 f0)).setCell ⟨gp, 1, none⟩ (.int .u64 f1)).setCell ⟨gp, 2, none⟩ (.int .u64 f2)).setCell ⟨gp, 3, none⟩ (.int .u64 f3)).setCell ⟨gp, 4, none⟩ (.int .u64 f4)).setCell ⟨gp, 5, none⟩ (.int .u64 f5)) := (put6 (F5.sub (L' := [(gp, 0, .int .u64 0), (gp, 1, .int .u64 0), (gp, 2, .int .u64 0), (gp, 3, .int .u64 0), (gp, 4, .int .u64 0), (gp, 5, .int .u64 0)]) (by intro x hx; simp only [List.mem_cons, List.not_mem_nil, or_false] at hx ⊢; rcases hx with h | h | h | h | h | h <;> simp [h]))).append (put6_far (F5.sub (L' := [(gp + 1, 0, .int .u64 0), (gp + 1, 1, .int .u64 0), (gp + 1, 2, .int .u64 0), (gp + 1, 3, .int .u64 0), (gp + 1, 4, .int .u64 0), (gp + 1, 5, .int .u64 0), (w.heap.size, 0, .int .i64 k), (w.heap.size, 1, .slice p xs.length c)]) (by intro x hx; simp only [List.mem_cons, List.not_mem_nil, or_false] at hx ⊢; rcases hx with h | h | h | h | h | h | h | h <;> simp [h])) (by simp only [List.forall_mem_cons]; simp; omega))
    have hF2 : Hid (Cl [(gp, 0, .int .u64 f0), (gp, 1, .int .u64 f1), (gp, 2, .int .u64 f2), (gp, 3, .int .u64 f3), (gp, 4, .int .u64 f4), (gp, 5, .int .u64 f5), (gp + 1, 0, .int .u64 0), (gp + 1, 1, .int .u64 0), (gp + 1, 2, .int .u64 0), (gp + 1, 3, .int .u64 0), (gp + 1, 4, .int .u64 0), (gp + 1, 5, .int .u64 0), (w.heap.size, 0, .int .i64 k), (w.heap.size, 1, .slice p xs.length c)] ((((((u2.setCell ⟨gp, 0, none⟩ (.int .u64 f0)).setCell ⟨gp, 1, none⟩ (.int .u64 f1)).setCell ⟨gp, 2, none⟩ (.int .u64 f2)).setCell ⟨gp, 3, none⟩ (.int .u64 f3)).setCell ⟨gp, 4, none⟩ (.int .u64 f4)).setCell ⟨gp, 5, none⟩ (.int .u64 f5))) := Lib.hid (FT.sub (by intro x hx; simp only [List.mem_cons, List.not_mem_nil, or_false, List.mem_append] at hx ⊢; rcases hx with h | h | h | h | h | h | h | h | h | h | h | h | h | h <;> simp [h]))
    have hB2 := put6_below (g := gp) (e0 := f0) (e1 := f1) (e2 := f2) (e3 := f3) (e4 := f4) (e5 := f5) K5 (by omega)
    have HDF := Lib.hid hfb
    have HFV := Lib.hid hfv
    clear hHeld hz9 F5 K5 FT hfb hfv hb2 hF hB
    have HV0 : Hid (dval f0 f1 f2 f3 f4 f5 - dval 0 0 0 0 0 0 = k + evS es (xs.take 0)) := Lib.hid (by have h1 := HFV.out; have h2 : mag k = k := (by unfold mag; rw [if_neg (by omega)]); rw [h2] at h1; rw [h1, List.take_zero]; unfold dval; simp only [evS]; omega)
    have HB0 : Hid (dval f0 f1 f2 f3 f4 f5 ≤ 85070591730234615865843651857942052864 * (((0 : Nat) : Int) + 1) ∧ dval 0 0 0 0 0 0 ≤ 85070591730234615865843651857942052864 * (((0 : Nat) : Int) + 1)) := Lib.hid (by have h1 := HFV.out; have h2 := mag_bd k1 k2; rw [h1]; unfold dval; omega)
    clear HFV hm1 hm2 hmv
    have q1 : ((((((u2.setCell ⟨gp, 0, none⟩ (.int .u64 f0)).setCell ⟨gp, 1, none⟩ (.int .u64 f1)).setCell ⟨gp, 2, none⟩ (.int .u64 f2)).setCell ⟨gp, 3, none⟩ (.int .u64 f3)).setCell ⟨gp, 4, none⟩ (.int .u64 f4)).setCell ⟨gp, 5, none⟩ (.int .u64 f5)).cell? ⟨w.heap.size, 1, none⟩ = some (.slice p xs.length c) := (hF2.out w.heap.size 1 (.slice p xs.length c) (by simp)).1
    go_wp2_with fail
    generalize ((((((u2.setCell ⟨gp, 0, none⟩ (.int .u64 f0)).setCell ⟨gp, 1, none⟩ (.int .u64 f1)).setCell ⟨gp, 2, none⟩ (.int .u64 f2)).setCell ⟨gp, 3, none⟩ (.int .u64 f3)).setCell ⟨gp, 4, none⟩ (.int .u64 f4)).setCell ⟨gp, 5, none⟩ (.int .u64 f5)) = u3 at *
    clear s0 s1 s2 s3 s4 s5 zs0 zs1 zs2 zs3 zs4 zs5
    go_loopw [8] (fun i wr => ∃ (j : Nat) (p0 p1 p2 p3 p4 p5 m0 m1 m2 m3 m4 m5 : Int), i = .int .i64 (j : Int) ∧ j ≤ xs.length ∧ Below w.heap.size w wr ∧ Hid (Cl [(gp, 0, .int .u64 p0), (gp, 1, .int .u64 p1), (gp, 2, .int .u64 p2), (gp, 3, .int .u64 p3), (gp, 4, .int .u64 p4), (gp, 5, .int .u64 p5), (gp + 1, 0, .int .u64 m0), (gp + 1, 1, .int .u64 m1), (gp + 1, 2, .int .u64 m2), (gp + 1, 3, .int .u64 m3), (gp + 1, 4, .int .u64 m4), (gp + 1, 5, .int .u64 m5), (w.heap.size, 0, .int .i64 k), (w.heap.size, 1, .slice p xs.length c)] wr) ∧ Hid ((0 ≤ p0 ∧ p0 < 4294967296) ∧ (0 ≤ p1 ∧ p1 < 4294967296) ∧ (0 ≤ p2 ∧ p2 < 4294967296) ∧ (0 ≤ p3 ∧ p3 < 4294967296) ∧ (0 ≤ p4 ∧ p4 < 4294967296) ∧ (0 ≤ p5 ∧ p5 < 4294967296)) ∧ Hid ((0 ≤ m0 ∧ m0 < 4294967296) ∧ (0 ≤ m1 ∧ m1 < 4294967296) ∧ (0 ≤ m2 ∧ m2 < 4294967296) ∧ (0 ≤ m3 ∧ m3 < 4294967296) ∧ (0 ≤ m4 ∧ m4 < 4294967296) ∧ (0 ≤ m5 ∧ m5 < 4294967296)) ∧ Hid (dval p0 p1 p2 p3 p4 p5 - dval m0 m1 m2 m3 m4 m5 = k + evS es (xs.take j)) ∧ Hid (dval p0 p1 p2 p3 p4 p5 ≤ 85070591730234615865843651857942052864 * ((j : Int) + 1) ∧ dval m0 m1 m2 m3 m4 m5 ≤ 85070591730234615865843651857942052864 * ((j : Int) + 1)) ∧ Hid (∀ m ∈ xs.take j, m.1 ∈ es.map (·.1))) (fun i _ => xs.length - (intOf i).toNat)
    case atStart => exact ⟨0, f0, f1, f2, f3, f4, f5, 0, 0, 0, 0, 0, 0, rfl, by omega, hB2, hF2, HDF, HDN, HV0, HB0, Lib.hid (by simp)⟩
    case round =>
      clear q1 HDP HDN HDF hF2 hB2 HV0 HB0
      obtain ⟨j, p0, p1, p2, p3, p4, p5, m0, m1, m2, m3, m4, m5, rfl, hj, hB, hF, HDP, HDN, HVJ, HBJ, HI⟩ := hrel
      have j0 : (0 : Int) ≤ j := by omega
      by_cases hlt : j < xs.length
      · obtain ⟨b, o, rfl, c0, c1⟩ := SlM.keep hB RA.out j hlt
        have htk := Lib.hid (take_step hlt)
        have hmm := Lib.hid (getD_mem hlt)
        have hrs := RS.out j hlt
        obtain ⟨⟨s, a⟩, hx⟩ : ∃ x, xs.getD j mo0 = x := ⟨_, rfl⟩
        replace htk := Lib.hid (by have h := htk.out; rw [hx] at h; exact h)
        replace hmm := Lib.hid (by have h := hmm.out; rw [hx] at h; exact h)
        rw [hx] at c0 c1 hrs
        simp only at c0 c1 hrs
        clear hx
        obtain ⟨_, a1, a2⟩ := hrs
        have j1 : (j : Int) < xs.length := by omega
        have q1 := (hF.out w.heap.size 1 (.slice (some ⟨b, o, none⟩) xs.length c) (by simp)).1
        go_wp2_with fail
        refine (CX.out s wr (Lib.hid (SlM.keep hB RB.out))).mono ?_
        rintro e w3 ⟨hb, ⟨hno, rfl⟩ | ⟨hin, he⟩⟩
        · have K3 := hB.trans (hb.mono hB.size)
          have HE := Lib.hid (show EV k xs es 0 9 from .inr (.inl ⟨HK.out, ⟨(s, a), hmm.out, hno⟩, rfl, rfl⟩))
          clear hno hb
          go_wp2
          go_ret2
          exact ⟨0, 9, rfl, HE.out, K3⟩
        · replace hF := Lib.hid (hF.out.below hb)
          replace hB := hB.trans (hb.mono hB.size)
          replace c1 := kp hb (lt_of_cell c1) c1
          replace q1 := kp hb (lt_of_cell q1) q1
          have hvb := CBD.out s
          have HIN := Lib.hid hin
          obtain ⟨v, hv⟩ : ∃ v, co es s = v := ⟨_, rfl⟩
          rw [hv] at hvb he
          obtain rfl := he
          have HC := Lib.hid hv
          obtain ⟨v1, v2⟩ := hvb
          have HI2 : Hid (∀ m ∈ xs.take (j + 1), m.1 ∈ es.map (·.1)) := Lib.hid (by
            rw [htk.out]
            intro m hm'
            rcases List.mem_append.1 hm' with h | h
            · exact HI.out m h
            · rw [List.mem_singleton] at h; rw [h]; exact HIN.out)
          have HSUM := Lib.hid (show k + evS es (xs.take (j + 1)) = k + evS es (xs.take j) + v * a by rw [htk.out, evS_app]; simp only [evS]; rw [HC.out, Int.mul_comm v a]; omega)
          have mbv := mag_bd v1 v2
          have mba := mag_bd a1 a2
          have mpb := mag_mul_bd mbv mba
          have hm1 : 0 ≤ mag v ∧ mag v < 18446744073709551616 := by omega
          have hm2 : 0 ≤ mag a ∧ mag a < 18446744073709551616 := by omega
          clear hb hin hv c0 HI htk hmm
          obtain ⟨z1, hz1⟩ : ∃ z, decide (v < 0) = z := ⟨_, rfl⟩
          obtain ⟨z2, hz2⟩ : ∃ z, decide (a < 0) = z := ⟨_, rfl⟩
          have HMS := Lib.hid fun h : z1 = z2 => mag_same (v := v) (a := a) (by rw [hz1, hz2]; exact h)
          have HMD := Lib.hid fun h : z1 ≠ z2 => mag_diff (v := v) (a := a) (by rw [hz1, hz2]; exact h)
          obtain ⟨pr, hpr⟩ : ∃ x, mag v * mag a = x := ⟨_, rfl⟩
          rw [hpr] at mpb HMS HMD
          have HPR := Lib.hid hpr
          have mpb := Lib.hid mpb
          clear hpr mbv mba
          cases z1 <;> cases z2
          · have hmv : dval p0 p1 p2 p3 p4 p5 + mag v * mag a < 6277101735386680763835789423207666416102355444464034512896 := by rw [HPR.out]; have h1 := HBJ.out; have h2 := mpb.out; omega
            have HP9 := Lib.hid (HMS.out rfl)
            clear HMS HMD
            go_wp2_with fail
            have hz9 : w3.drew.cell? ⟨gp, 0, none⟩ = some (.int .u64 p0) ∧ w3.drew.cell? ⟨gp, 1, none⟩ = some (.int .u64 p1) ∧ w3.drew.cell? ⟨gp, 2, none⟩ = some (.int .u64 p2) ∧ w3.drew.cell? ⟨gp, 3, none⟩ = some (.int .u64 p3) ∧ w3.drew.cell? ⟨gp, 4, none⟩ = some (.int .u64 p4) ∧ w3.drew.cell? ⟨gp, 5, none⟩ = some (.int .u64 p5) ∧ w3.drew.cell? ⟨w.heap.size, 1, none⟩ = some (.slice (some ⟨b, o, none⟩) xs.length c) ∧ w3.drew.cell? ⟨b, o + j * 2 + 1, none⟩ = some (.int .i64 a) := ⟨(hF.out (gp) 0 (.int .u64 p0) (by simp)).1, (hF.out (gp) 1 (.int .u64 p1) (by simp)).1, (hF.out (gp) 2 (.int .u64 p2) (by simp)).1, (hF.out (gp) 3 (.int .u64 p3) (by simp)).1, (hF.out (gp) 4 (.int .u64 p4) (by simp)).1, (hF.out (gp) 5 (.int .u64 p5) (by simp)).1, (hF.out w.heap.size 1 (.slice (some ⟨b, o, none⟩) xs.length c) (by simp)).1, c1⟩
            refine Rk.begin (S := fun wS => wS.cell? ⟨gp, 0, none⟩ = some (.int .u64 p0) ∧ wS.cell? ⟨gp, 1, none⟩ = some (.int .u64 p1) ∧ wS.cell? ⟨gp, 2, none⟩ = some (.int .u64 p2) ∧ wS.cell? ⟨gp, 3, none⟩ = some (.int .u64 p3) ∧ wS.cell? ⟨gp, 4, none⟩ = some (.int .u64 p4) ∧ wS.cell? ⟨gp, 5, none⟩ = some (.int .u64 p5) ∧ wS.cell? ⟨w.heap.size, 1, none⟩ = some (.slice (some ⟨b, o, none⟩) xs.length c) ∧ wS.cell? ⟨b, o + j * 2 + 1, none⟩ = some (.int .i64 a)) 11 (by kernel_rfl) hz9 (fun hHeld => ?_)
            refine Rk.take [11] (i := 0) (v := ?_) rfl (by kernel_rfl) (by kernel_rfl) (by kernel_rfl) (by kernel_rfl) (by kernel_rfl) (fun _ _ _ h => h) (Or.inl ⟨by kernel_rfl, ?_⟩) (by assumption) ?_
            rotate_left
            · ((intro w hSw; (try dsimp only at hSw); go_simp) <;> with_reducible rfl)
            try simp only [Act.put, List.setIfInBounds_toArray, List.set_cons_zero, List.set_cons_succ]
            refine Rk.takeP (i := 1) (v := ?_) rfl (by kernel_rfl) (by kernel_rfl) (by kernel_rfl) (by kernel_rfl) (fun _ _ _ h => h) (Or.inl ⟨by kernel_rfl, ?_⟩) (by assumption) ?_
            rotate_left
            · ((intro w hSw; go_simp) <;> with_reducible rfl)
            try simp only [Act.put, List.setIfInBounds_toArray, List.set_cons_zero, List.set_cons_succ]
            refine Rk.takeP (i := 3) (v := ?_) rfl (by kernel_rfl) (by kernel_rfl) (by kernel_rfl) (by kernel_rfl) (fun _ _ _ h => h) (Or.inl ⟨by kernel_rfl, ?_⟩) (by assumption) ?_
            rotate_left
            · ((intro w hSw; go_simp) <;> with_reducible rfl)
            try simp only [Act.put, List.setIfInBounds_toArray, List.set_cons_zero, List.set_cons_succ]
            refine Rk.take [11] (i := 4) (v := ?_) rfl (by kernel_rfl) (by kernel_rfl) (by kernel_rfl) (by kernel_rfl) (by kernel_rfl) (fun _ _ _ h => h) (Or.inl ⟨by kernel_rfl, ?_⟩) (by assumption) ?_
            rotate_left
            · ((intro w hSw; (try dsimp only at hSw); go_simp) <;> with_reducible rfl)
            try simp only [Act.put, List.setIfInBounds_toArray, List.set_cons_zero, List.set_cons_succ]
            refine Rk.takeP (i := 5) (v := ?_) rfl (by kernel_rfl) (by kernel_rfl) (by kernel_rfl) (by kernel_rfl) (fun _ _ _ h => h) (Or.inl ⟨by kernel_rfl, ?_⟩) (by assumption) ?_
            rotate_left
            · ((intro w hSw; go_simp) <;> with_reducible rfl)
            try simp only [Act.put, List.setIfInBounds_toArray, List.set_cons_zero, List.set_cons_succ]
            refine Rk.takeP (i := 6) (v := ?_) rfl (by kernel_rfl) (by kernel_rfl) (by kernel_rfl) (by kernel_rfl) (fun _ _ _ h => h) (Or.inl ⟨by kernel_rfl, ?_⟩) (by assumption) ?_
            rotate_left
            · ((intro w hSw; go_simp) <;> with_reducible rfl)
            try simp only [Act.put, List.setIfInBounds_toArray, List.set_cons_zero, List.set_cons_succ]
            refine Rk.takeP (i := 7) (v := ?_) rfl (by kernel_rfl) (by kernel_rfl) (by kernel_rfl) (by kernel_rfl) (fun _ _ _ h => h) (Or.inl ⟨by kernel_rfl, ?_⟩) (by assumption) ?_
            rotate_left
            · ((intro w hSw; go_simp) <;> with_reducible rfl)
            try simp only [Act.put, List.setIfInBounds_toArray, List.set_cons_zero, List.set_cons_succ]
            refine Rk.take [11] (i := 8) (v := ?_) rfl (by kernel_rfl) (by kernel_rfl) (by kernel_rfl) (by kernel_rfl) (by kernel_rfl) (fun _ _ _ h => h) (Or.inl ⟨by kernel_rfl, ?_⟩) (by assumption) ?_
            rotate_left
            · ((intro w hSw; (try dsimp only at hSw); go_simp) <;> with_reducible rfl)
            try simp only [Act.put, List.setIfInBounds_toArray, List.set_cons_zero, List.set_cons_succ]
            refine Rk.one (i := 2) (by kernel_rfl) rfl (fun KK hK => ?_)
            rw [if_pos (by kernel_rfl)]
            go_simp
            ((with_reducible refine (SZ.out v _ v1 v2).mono ?_); rintro e uu ⟨rfl, rfl⟩)
            refine hK.out _ _ hHeld (fun hHeld => ?_)
            clear hK KK
            refine Rk.one (i := 9) (by kernel_rfl) rfl (fun KK hK => ?_)
            rw [if_pos (by kernel_rfl)]
            go_simp
            ((with_reducible refine (SZ.out a _ a1 a2).mono ?_); rintro e uu ⟨rfl, rfl⟩)
            refine hK.out _ _ hHeld (fun hHeld => ?_)
            clear hK KK
            refine Rk.one (i := 10) (by kernel_rfl) rfl (fun KK hK => ?_)
            rw [if_pos (by kernel_rfl)]
            go_simp
            ((with_reducible refine (PL.out p0 p1 p2 p3 p4 p5 (mag v) (mag a) _ HDP.out hm1 hm2 hmv).mono ?_); rintro e u2 ⟨f0, f1, f2, f3, f4, f5, rfl, hfb, hfv, hb2⟩)
            refine hK.out _ _ ⟨kp hb2 (lt_of_cell hHeld.1) hHeld.1, kp hb2 (lt_of_cell hHeld.2.1) hHeld.2.1, kp hb2 (lt_of_cell hHeld.2.2.1) hHeld.2.2.1, kp hb2 (lt_of_cell hHeld.2.2.2.1) hHeld.2.2.2.1, kp hb2 (lt_of_cell hHeld.2.2.2.2.1) hHeld.2.2.2.2.1, kp hb2 (lt_of_cell hHeld.2.2.2.2.2.1) hHeld.2.2.2.2.2.1, kp hb2 (lt_of_cell hHeld.2.2.2.2.2.2.1) hHeld.2.2.2.2.2.2.1, kp hb2 (lt_of_cell hHeld.2.2.2.2.2.2.2) hHeld.2.2.2.2.2.2.2⟩ (fun hHeld => ?_)
            clear hK KK
            refine Rk.tail [11] [_] (by kernel_rfl) (by kernel_rfl) rfl (by decide) ?_
            have F5 := (Cl.drew hF.out).below hb2
            have K5 := (hB.drew).trans (hb2.mono hB.size)
            obtain ⟨s0, zs0⟩ := F5 (gp) 0 (.int .u64 p0) (by simp)
            obtain ⟨s1, zs1⟩ := F5 (gp) 1 (.int .u64 p1) (by simp)
            obtain ⟨s2, zs2⟩ := F5 (gp) 2 (.int .u64 p2) (by simp)
            obtain ⟨s3, zs3⟩ := F5 (gp) 3 (.int .u64 p3) (by simp)
            obtain ⟨s4, zs4⟩ := F5 (gp) 4 (.int .u64 p4) (by simp)
            obtain ⟨s5, zs5⟩ := F5 (gp) 5 (.int .u64 p5) (by simp)
            have FT : Cl ([(gp, 0, .int .u64 f0), (gp, 1, .int .u64 f1), (gp, 2, .int .u64 f2), (gp, 3, .int .u64 f3), (gp, 4, .int .u64 f4), (gp, 5, .int .u64 f5)] ++ [(gp + 1, 0, .int .u64 m0), (gp + 1, 1, .int .u64 m1), (gp + 1, 2, .int .u64 m2), (gp + 1, 3, .int .u64 m3), (gp + 1, 4, .int .u64 m4), (gp + 1, 5, .int .u64 m5), (w.heap.size, 0, .int .i64 k), (w.heap.size, 1, .slice (some ⟨b, o, none⟩) xs.length c)]) ((((((u2.setCell ⟨gp, 0, none⟩ (.int .u64 f0)).setCell ⟨gp, 1, none⟩ (.int .u64 f1)).setCell ⟨gp, 2, none⟩ (.int .u64 f2)).setCell ⟨gp, 3, none⟩ (.int .u64 f3)).setCell ⟨gp, 4, none⟩ (.int .u64 f4)).setCell ⟨gp, 5, none⟩ (.int .u64 f5)) := (put6 (F5.sub (L' := [(gp, 0, .int .u64 p0), (gp, 1, .int .u64 p1), (gp, 2, .int .u64 p2), (gp, 3, .int .u64 p3), (gp, 4, .int .u64 p4), (gp, 5, .int .u64 p5)]) (by intro x hx; simp only [List.mem_cons, List.not_mem_nil, or_false] at hx ⊢; rcases hx with h | h | h | h | h | h <;> simp [h]))).append (put6_far (F5.sub (L' := [(gp + 1, 0, .int .u64 m0), (gp + 1, 1, .int .u64 m1), (gp + 1, 2, .int .u64 m2), (gp + 1, 3, .int .u64 m3), (gp + 1, 4, .int .u64 m4), (gp + 1, 5, .int .u64 m5), (w.heap.size, 0, .int .i64 k), (w.heap.size, 1, .slice (some ⟨b, o, none⟩) xs.length c)]) (by intro x hx; simp only [List.mem_cons, List.not_mem_nil, or_false] at hx ⊢; rcases hx with h | h | h | h | h | h | h | h <;> simp [h])) (by simp only [List.forall_mem_cons]; simp; omega))
            have hF2 : Hid (Cl [(gp, 0, .int .u64 f0), (gp, 1, .int .u64 f1), (gp, 2, .int .u64 f2), (gp, 3, .int .u64 f3), (gp, 4, .int .u64 f4), (gp, 5, .int .u64 f5), (gp + 1, 0, .int .u64 m0), (gp + 1, 1, .int .u64 m1), (gp + 1, 2, .int .u64 m2), (gp + 1, 3, .int .u64 m3), (gp + 1, 4, .int .u64 m4), (gp + 1, 5, .int .u64 m5), (w.heap.size, 0, .int .i64 k), (w.heap.size, 1, .slice (some ⟨b, o, none⟩) xs.length c)] ((((((u2.setCell ⟨gp, 0, none⟩ (.int .u64 f0)).setCell ⟨gp, 1, none⟩ (.int .u64 f1)).setCell ⟨gp, 2, none⟩ (.int .u64 f2)).setCell ⟨gp, 3, none⟩ (.int .u64 f3)).setCell ⟨gp, 4, none⟩ (.int .u64 f4)).setCell ⟨gp, 5, none⟩ (.int .u64 f5))) := Lib.hid (FT.sub (by intro x hx; simp only [List.mem_cons, List.not_mem_nil, or_false, List.mem_append] at hx ⊢; rcases hx with h | h | h | h | h | h | h | h | h | h | h | h | h | h <;> simp [h]))
            have hB2 := put6_below (g := gp) (e0 := f0) (e1 := f1) (e2 := f2) (e3 := f3) (e4 := f4) (e5 := f5) K5 (by omega)
            have HDF := Lib.hid hfb
            have HFV := Lib.hid hfv
            clear hHeld hz9 F5 K5 FT hfb hfv hb2 hF hB
            have HV2 : Hid (dval f0 f1 f2 f3 f4 f5 - dval m0 m1 m2 m3 m4 m5 = k + evS es (xs.take (j + 1))) := Lib.hid (by have h1 := HFV.out; have h2 := HVJ.out; have h3 := HSUM.out; have h4 := HP9.out; have h5 := HPR.out; rw [h5] at h1; rw [h3, ← h2, h1]; omega)
            have HB2 : Hid (dval f0 f1 f2 f3 f4 f5 ≤ 85070591730234615865843651857942052864 * (((j + 1 : Nat) : Int) + 1) ∧ dval m0 m1 m2 m3 m4 m5 ≤ 85070591730234615865843651857942052864 * (((j + 1 : Nat) : Int) + 1)) := Lib.hid (by have h1 := HFV.out; have h2 := HBJ.out; have h5 := HPR.out; have h6 := mpb.out; rw [h5] at h1; rw [h1]; omega)
            clear HFV HVJ HSUM HP9 HPR HBJ mpb hm1 hm2 hmv hz1 hz2 c1 q1
            go_wp2
            go_roundw
            case rel => exact ⟨j + 1, f0, f1, f2, f3, f4, f5, m0, m1, m2, m3, m4, m5, by go_num, by omega, hB2, hF2, HDF, HDN, HV2, HB2, HI2⟩
            case measure => simp [intOf]; omega
          · have hmv : dval m0 m1 m2 m3 m4 m5 + mag v * mag a < 6277101735386680763835789423207666416102355444464034512896 := by rw [HPR.out]; have h1 := HBJ.out; have h2 := mpb.out; omega
            have HP9 := Lib.hid (HMD.out (by decide))
            clear HMS HMD
            go_wp2_with fail
            have hz9 : w3.drew.cell? ⟨gp + 1, 0, none⟩ = some (.int .u64 m0) ∧ w3.drew.cell? ⟨gp + 1, 1, none⟩ = some (.int .u64 m1) ∧ w3.drew.cell? ⟨gp + 1, 2, none⟩ = some (.int .u64 m2) ∧ w3.drew.cell? ⟨gp + 1, 3, none⟩ = some (.int .u64 m3) ∧ w3.drew.cell? ⟨gp + 1, 4, none⟩ = some (.int .u64 m4) ∧ w3.drew.cell? ⟨gp + 1, 5, none⟩ = some (.int .u64 m5) ∧ w3.drew.cell? ⟨w.heap.size, 1, none⟩ = some (.slice (some ⟨b, o, none⟩) xs.length c) ∧ w3.drew.cell? ⟨b, o + j * 2 + 1, none⟩ = some (.int .i64 a) := ⟨(hF.out (gp + 1) 0 (.int .u64 m0) (by simp)).1, (hF.out (gp + 1) 1 (.int .u64 m1) (by simp)).1, (hF.out (gp + 1) 2 (.int .u64 m2) (by simp)).1, (hF.out (gp + 1) 3 (.int .u64 m3) (by simp)).1, (hF.out (gp + 1) 4 (.int .u64 m4) (by simp)).1, (hF.out (gp + 1) 5 (.int .u64 m5) (by simp)).1, (hF.out w.heap.size 1 (.slice (some ⟨b, o, none⟩) xs.length c) (by simp)).1, c1⟩
            refine Rk.begin (S := fun wS => wS.cell? ⟨gp + 1, 0, none⟩ = some (.int .u64 m0) ∧ wS.cell? ⟨gp + 1, 1, none⟩ = some (.int .u64 m1) ∧ wS.cell? ⟨gp + 1, 2, none⟩ = some (.int .u64 m2) ∧ wS.cell? ⟨gp + 1, 3, none⟩ = some (.int .u64 m3) ∧ wS.cell? ⟨gp + 1, 4, none⟩ = some (.int .u64 m4) ∧ wS.cell? ⟨gp + 1, 5, none⟩ = some (.int .u64 m5) ∧ wS.cell? ⟨w.heap.size, 1, none⟩ = some (.slice (some ⟨b, o, none⟩) xs.length c) ∧ wS.cell? ⟨b, o + j * 2 + 1, none⟩ = some (.int .i64 a)) 11 (by kernel_rfl) hz9 (fun hHeld => ?_)
            refine Rk.take [11] (i := 0) (v := ?_) rfl (by kernel_rfl) (by kernel_rfl) (by kernel_rfl) (by kernel_rfl) (by kernel_rfl) (fun _ _ _ h => h) (Or.inl ⟨by kernel_rfl, ?_⟩) (by assumption) ?_
            rotate_left
            · ((intro w hSw; (try dsimp only at hSw); go_simp) <;> with_reducible rfl)
            try simp only [Act.put, List.setIfInBounds_toArray, List.set_cons_zero, List.set_cons_succ]
            refine Rk.takeP (i := 1) (v := ?_) rfl (by kernel_rfl) (by kernel_rfl) (by kernel_rfl) (by kernel_rfl) (fun _ _ _ h => h) (Or.inl ⟨by kernel_rfl, ?_⟩) (by assumption) ?_
            rotate_left
            · ((intro w hSw; go_simp) <;> with_reducible rfl)
            try simp only [Act.put, List.setIfInBounds_toArray, List.set_cons_zero, List.set_cons_succ]
            refine Rk.takeP (i := 3) (v := ?_) rfl (by kernel_rfl) (by kernel_rfl) (by kernel_rfl) (by kernel_rfl) (fun _ _ _ h => h) (Or.inl ⟨by kernel_rfl, ?_⟩) (by assumption) ?_
            rotate_left
            · ((intro w hSw; go_simp) <;> with_reducible rfl)
            try simp only [Act.put, List.setIfInBounds_toArray, List.set_cons_zero, List.set_cons_succ]
            refine Rk.take [11] (i := 4) (v := ?_) rfl (by kernel_rfl) (by kernel_rfl) (by kernel_rfl) (by kernel_rfl) (by kernel_rfl) (fun _ _ _ h => h) (Or.inl ⟨by kernel_rfl, ?_⟩) (by assumption) ?_
            rotate_left
            · ((intro w hSw; (try dsimp only at hSw); go_simp) <;> with_reducible rfl)
            try simp only [Act.put, List.setIfInBounds_toArray, List.set_cons_zero, List.set_cons_succ]
            refine Rk.takeP (i := 5) (v := ?_) rfl (by kernel_rfl) (by kernel_rfl) (by kernel_rfl) (by kernel_rfl) (fun _ _ _ h => h) (Or.inl ⟨by kernel_rfl, ?_⟩) (by assumption) ?_
            rotate_left
            · ((intro w hSw; go_simp) <;> with_reducible rfl)
            try simp only [Act.put, List.setIfInBounds_toArray, List.set_cons_zero, List.set_cons_succ]
            refine Rk.takeP (i := 6) (v := ?_) rfl (by kernel_rfl) (by kernel_rfl) (by kernel_rfl) (by kernel_rfl) (fun _ _ _ h => h) (Or.inl ⟨by kernel_rfl, ?_⟩) (by assumption) ?_
            rotate_left
            · ((intro w hSw; go_simp) <;> with_reducible rfl)
            try simp only [Act.put, List.setIfInBounds_toArray, List.set_cons_zero, List.set_cons_succ]
            refine Rk.takeP (i := 7) (v := ?_) rfl (by kernel_rfl) (by kernel_rfl) (by kernel_rfl) (by kernel_rfl) (fun _ _ _ h => h) (Or.inl ⟨by kernel_rfl, ?_⟩) (by assumption) ?_
            rotate_left
            · ((intro w hSw; go_simp) <;> with_reducible rfl)
            try simp only [Act.put, List.setIfInBounds_toArray, List.set_cons_zero, List.set_cons_succ]
            refine Rk.take [11] (i := 8) (v := ?_) rfl (by kernel_rfl) (by kernel_rfl) (by kernel_rfl) (by kernel_rfl) (by kernel_rfl) (fun _ _ _ h => h) (Or.inl ⟨by kernel_rfl, ?_⟩) (by assumption) ?_
            rotate_left
            · ((intro w hSw; (try dsimp only at hSw); go_simp) <;> with_reducible rfl)
            try simp only [Act.put, List.setIfInBounds_toArray, List.set_cons_zero, List.set_cons_succ]
            refine Rk.one (i := 2) (by kernel_rfl) rfl (fun KK hK => ?_)
            rw [if_pos (by kernel_rfl)]
            go_simp
            ((with_reducible refine (SZ.out v _ v1 v2).mono ?_); rintro e uu ⟨rfl, rfl⟩)
            refine hK.out _ _ hHeld (fun hHeld => ?_)
            clear hK KK
            refine Rk.one (i := 9) (by kernel_rfl) rfl (fun KK hK => ?_)
            rw [if_pos (by kernel_rfl)]
            go_simp
            ((with_reducible refine (SZ.out a _ a1 a2).mono ?_); rintro e uu ⟨rfl, rfl⟩)
            refine hK.out _ _ hHeld (fun hHeld => ?_)
            clear hK KK
            refine Rk.one (i := 10) (by kernel_rfl) rfl (fun KK hK => ?_)
            rw [if_pos (by kernel_rfl)]
            go_simp
            ((with_reducible refine (PL.out m0 m1 m2 m3 m4 m5 (mag v) (mag a) _ HDN.out hm1 hm2 hmv).mono ?_); rintro e u2 ⟨f0, f1, f2, f3, f4, f5, rfl, hfb, hfv, hb2⟩)
            refine hK.out _ _ ⟨kp hb2 (lt_of_cell hHeld.1) hHeld.1, kp hb2 (lt_of_cell hHeld.2.1) hHeld.2.1, kp hb2 (lt_of_cell hHeld.2.2.1) hHeld.2.2.1, kp hb2 (lt_of_cell hHeld.2.2.2.1) hHeld.2.2.2.1, kp hb2 (lt_of_cell hHeld.2.2.2.2.1) hHeld.2.2.2.2.1, kp hb2 (lt_of_cell hHeld.2.2.2.2.2.1) hHeld.2.2.2.2.2.1, kp hb2 (lt_of_cell hHeld.2.2.2.2.2.2.1) hHeld.2.2.2.2.2.2.1, kp hb2 (lt_of_cell hHeld.2.2.2.2.2.2.2) hHeld.2.2.2.2.2.2.2⟩ (fun hHeld => ?_)
            clear hK KK
            refine Rk.tail [11] [_] (by kernel_rfl) (by kernel_rfl) rfl (by decide) ?_
            have F5 := (Cl.drew hF.out).below hb2
            have K5 := (hB.drew).trans (hb2.mono hB.size)
            obtain ⟨s0, zs0⟩ := F5 (gp + 1) 0 (.int .u64 m0) (by simp)
            obtain ⟨s1, zs1⟩ := F5 (gp + 1) 1 (.int .u64 m1) (by simp)
            obtain ⟨s2, zs2⟩ := F5 (gp + 1) 2 (.int .u64 m2) (by simp)
            obtain ⟨s3, zs3⟩ := F5 (gp + 1) 3 (.int .u64 m3) (by simp)
            obtain ⟨s4, zs4⟩ := F5 (gp + 1) 4 (.int .u64 m4) (by simp)
            obtain ⟨s5, zs5⟩ := F5 (gp + 1) 5 (.int .u64 m5) (by simp)
            have FT : Cl ([(gp + 1, 0, .int .u64 f0), (gp + 1, 1, .int .u64 f1), (gp + 1, 2, .int .u64 f2), (gp + 1, 3, .int .u64 f3), (gp + 1, 4, .int .u64 f4), (gp + 1, 5, .int .u64 f5)] ++ [(gp, 0, .int .u64 p0), (gp, 1, .int .u64 p1), (gp, 2, .int .u64 p2), (gp, 3, .int .u64 p3), (gp, 4, .int .u64 p4), (gp, 5, .int .u64 p5), (w.heap.size, 0, .int .i64 k), (w.heap.size, 1, .slice (some ⟨b, o, none⟩) xs.length c)]) ((((((u2.setCell ⟨gp + 1, 0, none⟩ (.int .u64 f0)).setCell ⟨gp + 1, 1, none⟩ (.int .u64 f1)).setCell ⟨gp + 1, 2, none⟩ (.int .u64 f2)).setCell ⟨gp + 1, 3, none⟩ (.int .u64 f3)).setCell ⟨gp + 1, 4, none⟩ (.int .u64 f4)).setCell ⟨gp + 1, 5, none⟩ (.int .u64 f5)) := (put6 (F5.sub (L' := [(gp + 1, 0, .int .u64 m0), (gp + 1, 1, .int .u64 m1), (gp + 1, 2, .int .u64 m2), (gp + 1, 3, .int .u64 m3), (gp + 1, 4, .int .u64 m4), (gp + 1, 5, .int .u64 m5)]) (by intro x hx; simp only [List.mem_cons, List.not_mem_nil, or_false] at hx ⊢; rcases hx with h | h | h | h | h | h <;> simp [h]))).append (put6_far (F5.sub (L' := [(gp, 0, .int .u64 p0), (gp, 1, .int .u64 p1), (gp, 2, .int .u64 p2), (gp, 3, .int .u64 p3), (gp, 4, .int .u64 p4), (gp, 5, .int .u64 p5), (w.heap.size, 0, .int .i64 k), (w.heap.size, 1, .slice (some ⟨b, o, none⟩) xs.length c)]) (by intro x hx; simp only [List.mem_cons, List.not_mem_nil, or_false] at hx ⊢; rcases hx with h | h | h | h | h | h | h | h <;> simp [h])) (by simp only [List.forall_mem_cons]; simp; omega))
            have hF2 : Hid (Cl [(gp, 0, .int .u64 p0), (gp, 1, .int .u64 p1), (gp, 2, .int .u64 p2), (gp, 3, .int .u64 p3), (gp, 4, .int .u64 p4), (gp, 5, .int .u64 p5), (gp + 1, 0, .int .u64 f0), (gp + 1, 1, .int .u64 f1), (gp + 1, 2, .int .u64 f2), (gp + 1, 3, .int .u64 f3), (gp + 1, 4, .int .u64 f4), (gp + 1, 5, .int .u64 f5), (w.heap.size, 0, .int .i64 k), (w.heap.size, 1, .slice (some ⟨b, o, none⟩) xs.length c)] ((((((u2.setCell ⟨gp + 1, 0, none⟩ (.int .u64 f0)).setCell ⟨gp + 1, 1, none⟩ (.int .u64 f1)).setCell ⟨gp + 1, 2, none⟩ (.int .u64 f2)).setCell ⟨gp + 1, 3, none⟩ (.int .u64 f3)).setCell ⟨gp + 1, 4, none⟩ (.int .u64 f4)).setCell ⟨gp + 1, 5, none⟩ (.int .u64 f5))) := Lib.hid (FT.sub (by intro x hx; simp only [List.mem_cons, List.not_mem_nil, or_false, List.mem_append] at hx ⊢; rcases hx with h | h | h | h | h | h | h | h | h | h | h | h | h | h <;> simp [h]))
            have hB2 := put6_below (g := gp + 1) (e0 := f0) (e1 := f1) (e2 := f2) (e3 := f3) (e4 := f4) (e5 := f5) K5 (by omega)
            have HDF := Lib.hid hfb
            have HFV := Lib.hid hfv
            clear hHeld hz9 F5 K5 FT hfb hfv hb2 hF hB
            have HV2 : Hid (dval p0 p1 p2 p3 p4 p5 - dval f0 f1 f2 f3 f4 f5 = k + evS es (xs.take (j + 1))) := Lib.hid (by have h1 := HFV.out; have h2 := HVJ.out; have h3 := HSUM.out; have h4 := HP9.out; have h5 := HPR.out; rw [h5] at h1; rw [h3, ← h2, h1]; omega)
            have HB2 : Hid (dval p0 p1 p2 p3 p4 p5 ≤ 85070591730234615865843651857942052864 * (((j + 1 : Nat) : Int) + 1) ∧ dval f0 f1 f2 f3 f4 f5 ≤ 85070591730234615865843651857942052864 * (((j + 1 : Nat) : Int) + 1)) := Lib.hid (by have h1 := HFV.out; have h2 := HBJ.out; have h5 := HPR.out; have h6 := mpb.out; rw [h5] at h1; rw [h1]; omega)
            clear HFV HVJ HSUM HP9 HPR HBJ mpb hm1 hm2 hmv hz1 hz2 c1 q1
            go_wp2
            go_roundw
            case rel => exact ⟨j + 1, p0, p1, p2, p3, p4, p5, f0, f1, f2, f3, f4, f5, by go_num, by omega, hB2, hF2, HDP, HDF, HV2, HB2, HI2⟩
            case measure => simp [intOf]; omega
          · have hmv : dval m0 m1 m2 m3 m4 m5 + mag v * mag a < 6277101735386680763835789423207666416102355444464034512896 := by rw [HPR.out]; have h1 := HBJ.out; have h2 := mpb.out; omega
            have HP9 := Lib.hid (HMD.out (by decide))
            clear HMS HMD
            go_wp2_with fail
            have hz9 : w3.drew.cell? ⟨gp + 1, 0, none⟩ = some (.int .u64 m0) ∧ w3.drew.cell? ⟨gp + 1, 1, none⟩ = some (.int .u64 m1) ∧ w3.drew.cell? ⟨gp + 1, 2, none⟩ = some (.int .u64 m2) ∧ w3.drew.cell? ⟨gp + 1, 3, none⟩ = some (.int .u64 m3) ∧ w3.drew.cell? ⟨gp + 1, 4, none⟩ = some (.int .u64 m4) ∧ w3.drew.cell? ⟨gp + 1, 5, none⟩ = some (.int .u64 m5) ∧ w3.drew.cell? ⟨w.heap.size, 1, none⟩ = some (.slice (some ⟨b, o, none⟩) xs.length c) ∧ w3.drew.cell? ⟨b, o + j * 2 + 1, none⟩ = some (.int .i64 a) := ⟨(hF.out (gp + 1) 0 (.int .u64 m0) (by simp)).1, (hF.out (gp + 1) 1 (.int .u64 m1) (by simp)).1, (hF.out (gp + 1) 2 (.int .u64 m2) (by simp)).1, (hF.out (gp + 1) 3 (.int .u64 m3) (by simp)).1, (hF.out (gp + 1) 4 (.int .u64 m4) (by simp)).1, (hF.out (gp + 1) 5 (.int .u64 m5) (by simp)).1, (hF.out w.heap.size 1 (.slice (some ⟨b, o, none⟩) xs.length c) (by simp)).1, c1⟩
            refine Rk.begin (S := fun wS => wS.cell? ⟨gp + 1, 0, none⟩ = some (.int .u64 m0) ∧ wS.cell? ⟨gp + 1, 1, none⟩ = some (.int .u64 m1) ∧ wS.cell? ⟨gp + 1, 2, none⟩ = some (.int .u64 m2) ∧ wS.cell? ⟨gp + 1, 3, none⟩ = some (.int .u64 m3) ∧ wS.cell? ⟨gp + 1, 4, none⟩ = some (.int .u64 m4) ∧ wS.cell? ⟨gp + 1, 5, none⟩ = some (.int .u64 m5) ∧ wS.cell? ⟨w.heap.size, 1, none⟩ = some (.slice (some ⟨b, o, none⟩) xs.length c) ∧ wS.cell? ⟨b, o + j * 2 + 1, none⟩ = some (.int .i64 a)) 11 (by kernel_rfl) hz9 (fun hHeld => ?_)
            refine Rk.take [11] (i := 0) (v := ?_) rfl (by kernel_rfl) (by kernel_rfl) (by kernel_rfl) (by kernel_rfl) (by kernel_rfl) (fun _ _ _ h => h) (Or.inl ⟨by kernel_rfl, ?_⟩) (by assumption) ?_
            rotate_left
            · ((intro w hSw; (try dsimp only at hSw); go_simp) <;> with_reducible rfl)
            try simp only [Act.put, List.setIfInBounds_toArray, List.set_cons_zero, List.set_cons_succ]
            refine Rk.takeP (i := 1) (v := ?_) rfl (by kernel_rfl) (by kernel_rfl) (by kernel_rfl) (by kernel_rfl) (fun _ _ _ h => h) (Or.inl ⟨by kernel_rfl, ?_⟩) (by assumption) ?_
            rotate_left
            · ((intro w hSw; go_simp) <;> with_reducible rfl)
            try simp only [Act.put, List.setIfInBounds_toArray, List.set_cons_zero, List.set_cons_succ]
            refine Rk.takeP (i := 3) (v := ?_) rfl (by kernel_rfl) (by kernel_rfl) (by kernel_rfl) (by kernel_rfl) (fun _ _ _ h => h) (Or.inl ⟨by kernel_rfl, ?_⟩) (by assumption) ?_
            rotate_left
            · ((intro w hSw; go_simp) <;> with_reducible rfl)
            try simp only [Act.put, List.setIfInBounds_toArray, List.set_cons_zero, List.set_cons_succ]
            refine Rk.take [11] (i := 4) (v := ?_) rfl (by kernel_rfl) (by kernel_rfl) (by kernel_rfl) (by kernel_rfl) (by kernel_rfl) (fun _ _ _ h => h) (Or.inl ⟨by kernel_rfl, ?_⟩) (by assumption) ?_
            rotate_left
            · ((intro w hSw; (try dsimp only at hSw); go_simp) <;> with_reducible rfl)
            try simp only [Act.put, List.setIfInBounds_toArray, List.set_cons_zero, List.set_cons_succ]
            refine Rk.takeP (i := 5) (v := ?_) rfl (by kernel_rfl) (by kernel_rfl) (by kernel_rfl) (by kernel_rfl) (fun _ _ _ h => h) (Or.inl ⟨by kernel_rfl, ?_⟩) (by assumption) ?_
            rotate_left
            · ((intro w hSw; go_simp) <;> with_reducible rfl)
            try simp only [Act.put, List.setIfInBounds_toArray, List.set_cons_zero, List.set_cons_succ]
            refine Rk.takeP (i := 6) (v := ?_) rfl (by kernel_rfl) (by kernel_rfl) (by kernel_rfl) (by kernel_rfl) (fun _ _ _ h => h) (Or.inl ⟨by kernel_rfl, ?_⟩) (by assumption) ?_
            rotate_left
            · ((intro w hSw; go_simp) <;> with_reducible rfl)
            try simp only [Act.put, List.setIfInBounds_toArray, List.set_cons_zero, List.set_cons_succ]
            refine Rk.takeP (i := 7) (v := ?_) rfl (by kernel_rfl) (by kernel_rfl) (by kernel_rfl) (by kernel_rfl) (fun _ _ _ h => h) (Or.inl ⟨by kernel_rfl, ?_⟩) (by assumption) ?_
            rotate_left
            · ((intro w hSw; go_simp) <;> with_reducible rfl)
            try simp only [Act.put, List.setIfInBounds_toArray, List.set_cons_zero, List.set_cons_succ]
            refine Rk.take [11] (i := 8) (v := ?_) rfl (by kernel_rfl) (by kernel_rfl) (by kernel_rfl) (by kernel_rfl) (by kernel_rfl) (fun _ _ _ h => h) (Or.inl ⟨by kernel_rfl, ?_⟩) (by assumption) ?_
            rotate_left
            · ((intro w hSw; (try dsimp only at hSw); go_simp) <;> with_reducible rfl)
            try simp only [Act.put, List.setIfInBounds_toArray, List.set_cons_zero, List.set_cons_succ]
            refine Rk.one (i := 2) (by kernel_rfl) rfl (fun KK hK => ?_)
            rw [if_pos (by kernel_rfl)]
            go_simp
            ((with_reducible refine (SZ.out v _ v1 v2).mono ?_); rintro e uu ⟨rfl, rfl⟩)
            refine hK.out _ _ hHeld (fun hHeld => ?_)
            clear hK KK
            refine Rk.one (i := 9) (by kernel_rfl) rfl (fun KK hK => ?_)
            rw [if_pos (by kernel_rfl)]
            go_simp
            ((with_reducible refine (SZ.out a _ a1 a2).mono ?_); rintro e uu ⟨rfl, rfl⟩)
            refine hK.out _ _ hHeld (fun hHeld => ?_)
            clear hK KK
            refine Rk.one (i := 10) (by kernel_rfl) rfl (fun KK hK => ?_)
            rw [if_pos (by kernel_rfl)]
            go_simp
            ((with_reducible refine (PL.out m0 m1 m2 m3 m4 m5 (mag v) (mag a) _ HDN.out hm1 hm2 hmv).mono ?_); rintro e u2 ⟨f0, f1, f2, f3, f4, f5, rfl, hfb, hfv, hb2⟩)
            refine hK.out _ _ ⟨kp hb2 (lt_of_cell hHeld.1) hHeld.1, kp hb2 (lt_of_cell hHeld.2.1) hHeld.2.1, kp hb2 (lt_of_cell hHeld.2.2.1) hHeld.2.2.1, kp hb2 (lt_of_cell hHeld.2.2.2.1) hHeld.2.2.2.1, kp hb2 (lt_of_cell hHeld.2.2.2.2.1) hHeld.2.2.2.2.1, kp hb2 (lt_of_cell hHeld.2.2.2.2.2.1) hHeld.2.2.2.2.2.1, kp hb2 (lt_of_cell hHeld.2.2.2.2.2.2.1) hHeld.2.2.2.2.2.2.1, kp hb2 (lt_of_cell hHeld.2.2.2.2.2.2.2) hHeld.2.2.2.2.2.2.2⟩ (fun hHeld => ?_)
            clear hK KK
            refine Rk.tail [11] [_] (by kernel_rfl) (by kernel_rfl) rfl (by decide) ?_
            have F5 := (Cl.drew hF.out).below hb2
            have K5 := (hB.drew).trans (hb2.mono hB.size)
            obtain ⟨s0, zs0⟩ := F5 (gp + 1) 0 (.int .u64 m0) (by simp)
            obtain ⟨s1, zs1⟩ := F5 (gp + 1) 1 (.int .u64 m1) (by simp)
            obtain ⟨s2, zs2⟩ := F5 (gp + 1) 2 (.int .u64 m2) (by simp)
            obtain ⟨s3, zs3⟩ := F5 (gp + 1) 3 (.int .u64 m3) (by simp)
            obtain ⟨s4, zs4⟩ := F5 (gp + 1) 4 (.int .u64 m4) (by simp)
            obtain ⟨s5, zs5⟩ := F5 (gp + 1) 5 (.int .u64 m5) (by simp)
            have FT : Cl ([(gp + 1, 0, .int .u64 f0), (gp + 1, 1, .int .u64 f1), (gp + 1, 2, .int .u64 f2), (gp + 1, 3, .int .u64 f3), (gp + 1, 4, .int .u64 f4), (gp + 1, 5, .int .u64 f5)] ++ [(gp, 0, .int .u64 p0), (gp, 1, .int .u64 p1), (gp, 2, .int .u64 p2), (gp, 3, .int .u64 p3), (gp, 4, .int .u64 p4), (gp, 5, .int .u64 p5), (w.heap.size, 0, .int .i64 k), (w.heap.size, 1, .slice (some ⟨b, o, none⟩) xs.length c)]) ((((((u2.setCell ⟨gp + 1, 0, none⟩ (.int .u64 f0)).setCell ⟨gp + 1, 1, none⟩ (.int .u64 f1)).setCell ⟨gp + 1, 2, none⟩ (.int .u64 f2)).setCell ⟨gp + 1, 3, none⟩ (.int .u64 f3)).setCell ⟨gp + 1, 4, none⟩ (.int .u64 f4)).setCell ⟨gp + 1, 5, none⟩ (.int .u64 f5)) := (put6 (F5.sub (L' := [(gp + 1, 0, .int .u64 m0), (gp + 1, 1, .int .u64 m1), (gp + 1, 2, .int .u64 m2), (gp + 1, 3, .int .u64 m3), (gp + 1, 4, .int .u64 m4), (gp + 1, 5, .int .u64 m5)]) (by intro x hx; simp only [List.mem_cons, List.not_mem_nil, or_false] at hx ⊢; rcases hx with h | h | h | h | h | h <;> simp [h]))).append (put6_far (F5.sub (L' := [(gp, 0, .int .u64 p0), (gp, 1, .int .u64 p1), (gp, 2, .int .u64 p2), (gp, 3, .int .u64 p3), (gp, 4, .int .u64 p4), (gp, 5, .int .u64 p5), (w.heap.size, 0, .int .i64 k), (w.heap.size, 1, .slice (some ⟨b, o, none⟩) xs.length c)]) (by intro x hx; simp only [List.mem_cons, List.not_mem_nil, or_false] at hx ⊢; rcases hx with h | h | h | h | h | h | h | h <;> simp [h])) (by simp only [List.forall_mem_cons]; simp; omega))
            have hF2 : Hid (Cl [(gp, 0, .int .u64 p0), (gp, 1, .int .u64 p1), (gp, 2, .int .u64 p2), (gp, 3, .int .u64 p3), (gp, 4, .int .u64 p4), (gp, 5, .int .u64 p5), (gp + 1, 0, .int .u64 f0), (gp + 1, 1, .int .u64 f1), (gp + 1, 2, .int .u64 f2), (gp + 1, 3, .int .u64 f3), (gp + 1, 4, .int .u64 f4), (gp + 1, 5, .int .u64 f5), (w.heap.size, 0, .int .i64 k), (w.heap.size, 1, .slice (some ⟨b, o, none⟩) xs.length c)] ((((((u2.setCell ⟨gp + 1, 0, none⟩ (.int .u64 f0)).setCell ⟨gp + 1, 1, none⟩ (.int .u64 f1)).setCell ⟨gp + 1, 2, none⟩ (.int .u64 f2)).setCell ⟨gp + 1, 3, none⟩ (.int .u64 f3)).setCell ⟨gp + 1, 4, none⟩ (.int .u64 f4)).setCell ⟨gp + 1, 5, none⟩ (.int .u64 f5))) := Lib.hid (FT.sub (by intro x hx; simp only [List.mem_cons, List.not_mem_nil, or_false, List.mem_append] at hx ⊢; rcases hx with h | h | h | h | h | h | h | h | h | h | h | h | h | h <;> simp [h]))
            have hB2 := put6_below (g := gp + 1) (e0 := f0) (e1 := f1) (e2 := f2) (e3 := f3) (e4 := f4) (e5 := f5) K5 (by omega)
            have HDF := Lib.hid hfb
            have HFV := Lib.hid hfv
            clear hHeld hz9 F5 K5 FT hfb hfv hb2 hF hB
            have HV2 : Hid (dval p0 p1 p2 p3 p4 p5 - dval f0 f1 f2 f3 f4 f5 = k + evS es (xs.take (j + 1))) := Lib.hid (by have h1 := HFV.out; have h2 := HVJ.out; have h3 := HSUM.out; have h4 := HP9.out; have h5 := HPR.out; rw [h5] at h1; rw [h3, ← h2, h1]; omega)
            have HB2 : Hid (dval p0 p1 p2 p3 p4 p5 ≤ 85070591730234615865843651857942052864 * (((j + 1 : Nat) : Int) + 1) ∧ dval f0 f1 f2 f3 f4 f5 ≤ 85070591730234615865843651857942052864 * (((j + 1 : Nat) : Int) + 1)) := Lib.hid (by have h1 := HFV.out; have h2 := HBJ.out; have h5 := HPR.out; have h6 := mpb.out; rw [h5] at h1; rw [h1]; omega)
            clear HFV HVJ HSUM HP9 HPR HBJ mpb hm1 hm2 hmv hz1 hz2 c1 q1
            go_wp2
            go_roundw
            case rel => exact ⟨j + 1, p0, p1, p2, p3, p4, p5, f0, f1, f2, f3, f4, f5, by go_num, by omega, hB2, hF2, HDP, HDF, HV2, HB2, HI2⟩
            case measure => simp [intOf]; omega
          · have hmv : dval p0 p1 p2 p3 p4 p5 + mag v * mag a < 6277101735386680763835789423207666416102355444464034512896 := by rw [HPR.out]; have h1 := HBJ.out; have h2 := mpb.out; omega
            have HP9 := Lib.hid (HMS.out rfl)
            clear HMS HMD
            go_wp2_with fail
            have hz9 : w3.drew.cell? ⟨gp, 0, none⟩ = some (.int .u64 p0) ∧ w3.drew.cell? ⟨gp, 1, none⟩ = some (.int .u64 p1) ∧ w3.drew.cell? ⟨gp, 2, none⟩ = some (.int .u64 p2) ∧ w3.drew.cell? ⟨gp, 3, none⟩ = some (.int .u64 p3) ∧ w3.drew.cell? ⟨gp, 4, none⟩ = some (.int .u64 p4) ∧ w3.drew.cell? ⟨gp, 5, none⟩ = some (.int .u64 p5) ∧ w3.drew.cell? ⟨w.heap.size, 1, none⟩ = some (.slice (some ⟨b, o, none⟩) xs.length c) ∧ w3.drew.cell? ⟨b, o + j * 2 + 1, none⟩ = some (.int .i64 a) := ⟨(hF.out (gp) 0 (.int .u64 p0) (by simp)).1, (hF.out (gp) 1 (.int .u64 p1) (by simp)).1, (hF.out (gp) 2 (.int .u64 p2) (by simp)).1, (hF.out (gp) 3 (.int .u64 p3) (by simp)).1, (hF.out (gp) 4 (.int .u64 p4) (by simp)).1, (hF.out (gp) 5 (.int .u64 p5) (by simp)).1, (hF.out w.heap.size 1 (.slice (some ⟨b, o, none⟩) xs.length c) (by simp)).1, c1⟩
            refine Rk.begin (S := fun wS => wS.cell? ⟨gp, 0, none⟩ = some (.int .u64 p0) ∧ wS.cell? ⟨gp, 1, none⟩ = some (.int .u64 p1) ∧ wS.cell? ⟨gp, 2, none⟩ = some (.int .u64 p2) ∧ wS.cell? ⟨gp, 3, none⟩ = some (.int .u64 p3) ∧ wS.cell? ⟨gp, 4, none⟩ = some (.int .u64 p4) ∧ wS.cell? ⟨gp, 5, none⟩ = some (.int .u64 p5) ∧ wS.cell? ⟨w.heap.size, 1, none⟩ = some (.slice (some ⟨b, o, none⟩) xs.length c) ∧ wS.cell? ⟨b, o + j * 2 + 1, none⟩ = some (.int .i64 a)) 11 (by kernel_rfl) hz9 (fun hHeld => ?_)
            refine Rk.take [11] (i := 0) (v := ?_) rfl (by kernel_rfl) (by kernel_rfl) (by kernel_rfl) (by kernel_rfl) (by kernel_rfl) (fun _ _ _ h => h) (Or.inl ⟨by kernel_rfl, ?_⟩) (by assumption) ?_
            rotate_left
            · ((intro w hSw; (try dsimp only at hSw); go_simp) <;> with_reducible rfl)
            try simp only [Act.put, List.setIfInBounds_toArray, List.set_cons_zero, List.set_cons_succ]
            refine Rk.takeP (i := 1) (v := ?_) rfl (by kernel_rfl) (by kernel_rfl) (by kernel_rfl) (by kernel_rfl) (fun _ _ _ h => h) (Or.inl ⟨by kernel_rfl, ?_⟩) (by assumption) ?_
            rotate_left
            · ((intro w hSw; go_simp) <;> with_reducible rfl)
            try simp only [Act.put, List.setIfInBounds_toArray, List.set_cons_zero, List.set_cons_succ]
            refine Rk.takeP (i := 3) (v := ?_) rfl (by kernel_rfl) (by kernel_rfl) (by kernel_rfl) (by kernel_rfl) (fun _ _ _ h => h) (Or.inl ⟨by kernel_rfl, ?_⟩) (by assumption) ?_
            rotate_left
            · ((intro w hSw; go_simp) <;> with_reducible rfl)
            try simp only [Act.put, List.setIfInBounds_toArray, List.set_cons_zero, List.set_cons_succ]
            refine Rk.take [11] (i := 4) (v := ?_) rfl (by kernel_rfl) (by kernel_rfl) (by kernel_rfl) (by kernel_rfl) (by kernel_rfl) (fun _ _ _ h => h) (Or.inl ⟨by kernel_rfl, ?_⟩) (by assumption) ?_
            rotate_left
            · ((intro w hSw; (try dsimp only at hSw); go_simp) <;> with_reducible rfl)
            try simp only [Act.put, List.setIfInBounds_toArray, List.set_cons_zero, List.set_cons_succ]
            refine Rk.takeP (i := 5) (v := ?_) rfl (by kernel_rfl) (by kernel_rfl) (by kernel_rfl) (by kernel_rfl) (fun _ _ _ h => h) (Or.inl ⟨by kernel_rfl, ?_⟩) (by assumption) ?_
            rotate_left
            · ((intro w hSw; go_simp) <;> with_reducible rfl)
            try simp only [Act.put, List.setIfInBounds_toArray, List.set_cons_zero, List.set_cons_succ]
            refine Rk.takeP (i := 6) (v := ?_) rfl (by kernel_rfl) (by kernel_rfl) (by kernel_rfl) (by kernel_rfl) (fun _ _ _ h => h) (Or.inl ⟨by kernel_rfl, ?_⟩) (by assumption) ?_
            rotate_left
            · ((intro w hSw; go_simp) <;> with_reducible rfl)
            try simp only [Act.put, List.setIfInBounds_toArray, List.set_cons_zero, List.set_cons_succ]
            refine Rk.takeP (i := 7) (v := ?_) rfl (by kernel_rfl) (by kernel_rfl) (by kernel_rfl) (by kernel_rfl) (fun _ _ _ h => h) (Or.inl ⟨by kernel_rfl, ?_⟩) (by assumption) ?_
            rotate_left
            · ((intro w hSw; go_simp) <;> with_reducible rfl)
            try simp only [Act.put, List.setIfInBounds_toArray, List.set_cons_zero, List.set_cons_succ]
            refine Rk.take [11] (i := 8) (v := ?_) rfl (by kernel_rfl) (by kernel_rfl) (by kernel_rfl) (by kernel_rfl) (by kernel_rfl) (fun _ _ _ h => h) (Or.inl ⟨by kernel_rfl, ?_⟩) (by assumption) ?_
            rotate_left
            · ((intro w hSw; (try dsimp only at hSw); go_simp) <;> with_reducible rfl)
            try simp only [Act.put, List.setIfInBounds_toArray, List.set_cons_zero, List.set_cons_succ]
            refine Rk.one (i := 2) (by kernel_rfl) rfl (fun KK hK => ?_)
            rw [if_pos (by kernel_rfl)]
            go_simp
            ((with_reducible refine (SZ.out v _ v1 v2).mono ?_); rintro e uu ⟨rfl, rfl⟩)
            refine hK.out _ _ hHeld (fun hHeld => ?_)
            clear hK KK
            refine Rk.one (i := 9) (by kernel_rfl) rfl (fun KK hK => ?_)
            rw [if_pos (by kernel_rfl)]
            go_simp
            ((with_reducible refine (SZ.out a _ a1 a2).mono ?_); rintro e uu ⟨rfl, rfl⟩)
            refine hK.out _ _ hHeld (fun hHeld => ?_)
            clear hK KK
            refine Rk.one (i := 10) (by kernel_rfl) rfl (fun KK hK => ?_)
            rw [if_pos (by kernel_rfl)]
            go_simp
            ((with_reducible refine (PL.out p0 p1 p2 p3 p4 p5 (mag v) (mag a) _ HDP.out hm1 hm2 hmv).mono ?_); rintro e u2 ⟨f0, f1, f2, f3, f4, f5, rfl, hfb, hfv, hb2⟩)
            refine hK.out _ _ ⟨kp hb2 (lt_of_cell hHeld.1) hHeld.1, kp hb2 (lt_of_cell hHeld.2.1) hHeld.2.1, kp hb2 (lt_of_cell hHeld.2.2.1) hHeld.2.2.1, kp hb2 (lt_of_cell hHeld.2.2.2.1) hHeld.2.2.2.1, kp hb2 (lt_of_cell hHeld.2.2.2.2.1) hHeld.2.2.2.2.1, kp hb2 (lt_of_cell hHeld.2.2.2.2.2.1) hHeld.2.2.2.2.2.1, kp hb2 (lt_of_cell hHeld.2.2.2.2.2.2.1) hHeld.2.2.2.2.2.2.1, kp hb2 (lt_of_cell hHeld.2.2.2.2.2.2.2) hHeld.2.2.2.2.2.2.2⟩ (fun hHeld => ?_)
            clear hK KK
            refine Rk.tail [11] [_] (by kernel_rfl) (by kernel_rfl) rfl (by decide) ?_
            have F5 := (Cl.drew hF.out).below hb2
            have K5 := (hB.drew).trans (hb2.mono hB.size)
            obtain ⟨s0, zs0⟩ := F5 (gp) 0 (.int .u64 p0) (by simp)
            obtain ⟨s1, zs1⟩ := F5 (gp) 1 (.int .u64 p1) (by simp)
            obtain ⟨s2, zs2⟩ := F5 (gp) 2 (.int .u64 p2) (by simp)
            obtain ⟨s3, zs3⟩ := F5 (gp) 3 (.int .u64 p3) (by simp)
            obtain ⟨s4, zs4⟩ := F5 (gp) 4 (.int .u64 p4) (by simp)
            obtain ⟨s5, zs5⟩ := F5 (gp) 5 (.int .u64 p5) (by simp)
            have FT : Cl ([(gp, 0, .int .u64 f0), (gp, 1, .int .u64 f1), (gp, 2, .int .u64 f2), (gp, 3, .int .u64 f3), (gp, 4, .int .u64 f4), (gp, 5, .int .u64 f5)] ++ [(gp + 1, 0, .int .u64 m0), (gp + 1, 1, .int .u64 m1), (gp + 1, 2, .int .u64 m2), (gp + 1, 3, .int .u64 m3), (gp + 1, 4, .int .u64 m4), (gp + 1, 5, .int .u64 m5), (w.heap.size, 0, .int .i64 k), (w.heap.size, 1, .slice (some ⟨b, o, none⟩) xs.length c)]) ((((((u2.setCell ⟨gp, 0, none⟩ (.int .u64 f0)).setCell ⟨gp, 1, none⟩ (.int .u64 f1)).setCell ⟨gp, 2, none⟩ (.int .u64 f2)).setCell ⟨gp, 3, none⟩ (.int .u64 f3)).setCell ⟨gp, 4, none⟩ (.int .u64 f4)).setCell ⟨gp, 5, none⟩ (.int .u64 f5)) := (put6 (F5.sub (L' := [(gp, 0, .int .u64 p0), (gp, 1, .int .u64 p1), (gp, 2, .int .u64 p2), (gp, 3, .int .u64 p3), (gp, 4, .int .u64 p4), (gp, 5, .int .u64 p5)]) (by intro x hx; simp only [List.mem_cons, List.not_mem_nil, or_false] at hx ⊢; rcases hx with h | h | h | h | h | h <;> simp [h]))).append (put6_far (F5.sub (L' := [(gp + 1, 0, .int .u64 m0), (gp + 1, 1, .int .u64 m1), (gp + 1, 2, .int .u64 m2), (gp + 1, 3, .int .u64 m3), (gp + 1, 4, .int .u64 m4), (gp + 1, 5, .int .u64 m5), (w.heap.size, 0, .int .i64 k), (w.heap.size, 1, .slice (some ⟨b, o, none⟩) xs.length c)]) (by intro x hx; simp only [List.mem_cons, List.not_mem_nil, or_false] at hx ⊢; rcases hx with h | h | h | h | h | h | h | h <;> simp [h])) (by simp only [List.forall_mem_cons]; simp; omega))
            have hF2 : Hid (Cl [(gp, 0, .int .u64 f0), (gp, 1, .int .u64 f1), (gp, 2, .int .u64 f2), (gp, 3, .int .u64 f3), (gp, 4, .int .u64 f4), (gp, 5, .int .u64 f5), (gp + 1, 0, .int .u64 m0), (gp + 1, 1, .int .u64 m1), (gp + 1, 2, .int .u64 m2), (gp + 1, 3, .int .u64 m3), (gp + 1, 4, .int .u64 m4), (gp + 1, 5, .int .u64 m5), (w.heap.size, 0, .int .i64 k), (w.heap.size, 1, .slice (some ⟨b, o, none⟩) xs.length c)] ((((((u2.setCell ⟨gp, 0, none⟩ (.int .u64 f0)).setCell ⟨gp, 1, none⟩ (.int .u64 f1)).setCell ⟨gp, 2, none⟩ (.int .u64 f2)).setCell ⟨gp, 3, none⟩ (.int .u64 f3)).setCell ⟨gp, 4, none⟩ (.int .u64 f4)).setCell ⟨gp, 5, none⟩ (.int .u64 f5))) := Lib.hid (FT.sub (by intro x hx; simp only [List.mem_cons, List.not_mem_nil, or_false, List.mem_append] at hx ⊢; rcases hx with h | h | h | h | h | h | h | h | h | h | h | h | h | h <;> simp [h]))
            have hB2 := put6_below (g := gp) (e0 := f0) (e1 := f1) (e2 := f2) (e3 := f3) (e4 := f4) (e5 := f5) K5 (by omega)
            have HDF := Lib.hid hfb
            have HFV := Lib.hid hfv
            clear hHeld hz9 F5 K5 FT hfb hfv hb2 hF hB
            have HV2 : Hid (dval f0 f1 f2 f3 f4 f5 - dval m0 m1 m2 m3 m4 m5 = k + evS es (xs.take (j + 1))) := Lib.hid (by have h1 := HFV.out; have h2 := HVJ.out; have h3 := HSUM.out; have h4 := HP9.out; have h5 := HPR.out; rw [h5] at h1; rw [h3, ← h2, h1]; omega)
            have HB2 : Hid (dval f0 f1 f2 f3 f4 f5 ≤ 85070591730234615865843651857942052864 * (((j + 1 : Nat) : Int) + 1) ∧ dval m0 m1 m2 m3 m4 m5 ≤ 85070591730234615865843651857942052864 * (((j + 1 : Nat) : Int) + 1)) := Lib.hid (by have h1 := HFV.out; have h2 := HBJ.out; have h5 := HPR.out; have h6 := mpb.out; rw [h5] at h1; rw [h1]; omega)
            clear HFV HVJ HSUM HP9 HPR HBJ mpb hm1 hm2 hmv hz1 hz2 c1 q1
            go_wp2
            go_roundw
            case rel => exact ⟨j + 1, f0, f1, f2, f3, f4, f5, m0, m1, m2, m3, m4, m5, by go_num, by omega, hB2, hF2, HDF, HDN, HV2, HB2, HI2⟩
            case measure => simp [intOf]; omega
      · have j1 : ¬ (j : Int) < xs.length := by omega
        obtain rfl : j = xs.length := by omega
        have q1 := (hF.out w.heap.size 1 (.slice p xs.length c) (by simp)).1
        have hvl := HVJ.out
        have hi4 := HI.out
        rw [List.take_length] at hvl hi4
        have HVL := Lib.hid hvl
        have HI4 := Lib.hid hi4
        have hF4 := hF.out
        have hpn := dval_nn HDP.out
        have hnn := dval_nn HDN.out
        clear hF HVJ HI HBJ hvl hi4
        by_cases hlt : dval p0 p1 p2 p3 p4 p5 < dval m0 m1 m2 m3 m4 m5
        · have hd : decide (dval p0 p1 p2 p3 p4 p5 < dval m0 m1 m2 m3 m4 m5) = true := decide_eq_true hlt
          obtain ⟨DD, hDD⟩ : ∃ D, dval m0 m1 m2 m3 m4 m5 - dval p0 p1 p2 p3 p4 p5 = D := ⟨_, rfl⟩
          have HPOS := Lib.hid (show 0 < DD by omega)
          have HS := Lib.hid (show k + evS es xs = -DD by have := HVL.out; omega)
          have HNO : Hid (9223372036854775808 < DD → EV k xs es 0 3) := Lib.hid fun h => .inr (.inr (.inr ⟨HK.out, HI4.out, by rw [HS.out]; cases hf : fit64 (-DD) with | false => rfl | true => have := fit_yes.1 hf; omega, rfl, rfl⟩))
          have HYES : Hid (DD ≤ 9223372036854775808 → EV k xs es (-DD) 0) := Lib.hid fun h => .inr (.inr (.inl ⟨HK.out, HI4.out, by rw [HS.out]; exact fit_yes.2 (by have := HPOS.out; omega), HS.out.symm, rfl⟩))
          have CM := Lib.hid fun u => MI.out m0 m1 m2 m3 m4 m5 p0 p1 p2 p3 p4 p5 u HDN.out HDP.out (by omega)
          rw [hDD] at CM
          clear hDD hlt
          obtain ⟨s0, _⟩ := hF4 gp 0 (.int .u64 p0) (by simp)
          obtain ⟨t0, _⟩ := hF4 (gp + 1) 0 (.int .u64 m0) (by simp)
          obtain ⟨s1, _⟩ := hF4 gp 1 (.int .u64 p1) (by simp)
          obtain ⟨t1, _⟩ := hF4 (gp + 1) 1 (.int .u64 m1) (by simp)
          obtain ⟨s2, _⟩ := hF4 gp 2 (.int .u64 p2) (by simp)
          obtain ⟨t2, _⟩ := hF4 (gp + 1) 2 (.int .u64 m2) (by simp)
          obtain ⟨s3, _⟩ := hF4 gp 3 (.int .u64 p3) (by simp)
          obtain ⟨t3, _⟩ := hF4 (gp + 1) 3 (.int .u64 m3) (by simp)
          obtain ⟨s4, _⟩ := hF4 gp 4 (.int .u64 p4) (by simp)
          obtain ⟨t4, _⟩ := hF4 (gp + 1) 4 (.int .u64 m4) (by simp)
          obtain ⟨s5, _⟩ := hF4 gp 5 (.int .u64 p5) (by simp)
          obtain ⟨t5, _⟩ := hF4 (gp + 1) 5 (.int .u64 m5) (by simp)
          go_wp2_with fail
          refine (LE.out m0 m1 m2 m3 m4 m5 p0 p1 p2 p3 p4 p5 _ HDP.out HDN.out).mono ?_
          rintro e w4 ⟨rfl, hb⟩
          replace hF4 := hF4.below hb
          replace hB := hB.trans (hb.mono hB.size)
          clear hb s0 s1 s2 s3 s4 s5 t0 t1 t2 t3 t4 t5
          obtain ⟨s0, _⟩ := hF4 gp 0 (.int .u64 p0) (by simp)
          obtain ⟨t0, _⟩ := hF4 (gp + 1) 0 (.int .u64 m0) (by simp)
          obtain ⟨s1, _⟩ := hF4 gp 1 (.int .u64 p1) (by simp)
          obtain ⟨t1, _⟩ := hF4 (gp + 1) 1 (.int .u64 m1) (by simp)
          obtain ⟨s2, _⟩ := hF4 gp 2 (.int .u64 p2) (by simp)
          obtain ⟨t2, _⟩ := hF4 (gp + 1) 2 (.int .u64 m2) (by simp)
          obtain ⟨s3, _⟩ := hF4 gp 3 (.int .u64 p3) (by simp)
          obtain ⟨t3, _⟩ := hF4 (gp + 1) 3 (.int .u64 m3) (by simp)
          obtain ⟨s4, _⟩ := hF4 gp 4 (.int .u64 p4) (by simp)
          obtain ⟨t4, _⟩ := hF4 (gp + 1) 4 (.int .u64 m4) (by simp)
          obtain ⟨s5, _⟩ := hF4 gp 5 (.int .u64 p5) (by simp)
          obtain ⟨t5, _⟩ := hF4 (gp + 1) 5 (.int .u64 m5) (by simp)
          go_wp2_with fail
          refine (CM.out _).mono ?_
          rintro e w5 ⟨e0, e1, e2, e3, e4, e5, rfl, hbe, hve, hb⟩
          have KF := (hB.trans (hb.mono hB.size)).alloc (hB.trans (hb.mono hB.size)).size (Obj.cells #[Value.int .u64 e0, Value.int .u64 e1, Value.int .u64 e2, Value.int .u64 e3, Value.int .u64 e4, Value.int .u64 e5] 86)
          have HBD := Lib.hid hbe
          have HV := Lib.hid hve
          obtain ⟨⟨x0, y0⟩, ⟨x1, y1⟩, ⟨x2, y2⟩, ⟨x3, y3⟩, ⟨x4, y4⟩, ⟨x5, y5⟩⟩ := hbe
          obtain ⟨nn, hnn⟩ : ∃ n, e0 + e1 * 4294967296 = n := ⟨_, rfl⟩
          have HNN := Lib.hid hnn
          have w1 : IntKind.u64.wrap (e1 * 4294967296) = e1 * 4294967296 := by rw [u64w]; omega
          have w2 : IntKind.u64.wrap (e0 + e1 * 4294967296) = nn := by rw [hnn, u64w]; omega
          have hn0 : 0 ≤ nn ∧ nn < 18446744073709551616 := by omega
          obtain ⟨hn0, hn00⟩ := hn0
          clear hb hve hnn hF4 hB s0 s1 s2 s3 s4 s5 t0 t1 t2 t3 t4 t5
          by_cases h2 : e2 = 0
          case neg =>
            have hb2 : (e2 == 0) = false := beq_false_of_ne h2
            have hn2 : (e2 != 0) = true := by rw [bne, hb2]; rfl
            have HE := Lib.hid (show EV k xs es 0 3 from HNO.out (by have hv := HV.out; have hb := HBD.out; have hnn := HNN.out; unfold dval at hv; omega))
            clear h2
            go_wp2
            go_ret2
            exact ⟨0, 3, rfl, HE.out, KF⟩
          subst h2
          by_cases h3 : e3 = 0
          case neg =>
            have hb3 : (e3 == 0) = false := beq_false_of_ne h3
            have hn3 : (e3 != 0) = true := by rw [bne, hb3]; rfl
            have HE := Lib.hid (show EV k xs es 0 3 from HNO.out (by have hv := HV.out; have hb := HBD.out; have hnn := HNN.out; unfold dval at hv; omega))
            clear h3
            go_wp2
            go_ret2
            exact ⟨0, 3, rfl, HE.out, KF⟩
          subst h3
          by_cases h4 : e4 = 0
          case neg =>
            have hb4 : (e4 == 0) = false := beq_false_of_ne h4
            have hn4 : (e4 != 0) = true := by rw [bne, hb4]; rfl
            have HE := Lib.hid (show EV k xs es 0 3 from HNO.out (by have hv := HV.out; have hb := HBD.out; have hnn := HNN.out; unfold dval at hv; omega))
            clear h4
            go_wp2
            go_ret2
            exact ⟨0, 3, rfl, HE.out, KF⟩
          subst h4
          by_cases h5 : e5 = 0
          case neg =>
            have hb5 : (e5 == 0) = false := beq_false_of_ne h5
            have hn5 : (e5 != 0) = true := by rw [bne, hb5]; rfl
            have HE := Lib.hid (show EV k xs es 0 3 from HNO.out (by have hv := HV.out; have hb := HBD.out; have hnn := HNN.out; unfold dval at hv; omega))
            clear h5
            go_wp2
            go_ret2
            exact ⟨0, 3, rfl, HE.out, KF⟩
          subst h5
          by_cases hlim : 9223372036854775808 < nn
          case pos =>
            have HE := Lib.hid (show EV k xs es 0 3 from HNO.out (by have hv := HV.out; have hb := HBD.out; have hnn := HNN.out; unfold dval at hv; omega))
            go_wp2
            go_ret2
            exact ⟨0, 3, rfl, HE.out, KF⟩
          have hdv : nn = DD := by have hv := HV.out; have hb := HBD.out; have hnn := HNN.out; unfold dval at hv; omega
          have hn1 : 1 ≤ nn := by have := HPOS.out; omega
          have HE := Lib.hid (show EV k xs es (-(nn - 1) - 1) 0 from by have h := HYES.out (by omega); rw [show -(nn - 1) - 1 = -DD by omega]; exact h)
          clear hdv
          have w3 : IntKind.u64.wrap (nn - 1) = nn - 1 := by rw [u64w]; omega
          have w4 : wrap64 (nn - 1) = nn - 1 := by unfold wrap64; omega
          go_wp2
          go_ret2
          exact ⟨-(nn - 1) - 1, 0, rfl, HE.out, KF⟩
        · have hd : decide (dval p0 p1 p2 p3 p4 p5 < dval m0 m1 m2 m3 m4 m5) = false := decide_eq_false hlt
          obtain ⟨DD, hDD⟩ : ∃ D, dval p0 p1 p2 p3 p4 p5 - dval m0 m1 m2 m3 m4 m5 = D := ⟨_, rfl⟩
          have HPOS := Lib.hid (show 0 ≤ DD by omega)
          have HS := Lib.hid (show k + evS es xs = DD by have := HVL.out; omega)
          have HNO : Hid (9223372036854775807 < DD → EV k xs es 0 3) := Lib.hid fun h => .inr (.inr (.inr ⟨HK.out, HI4.out, by rw [HS.out]; cases hf : fit64 (DD) with | false => rfl | true => have := fit_yes.1 hf; omega, rfl, rfl⟩))
          have HYES : Hid (DD ≤ 9223372036854775807 → EV k xs es (DD) 0) := Lib.hid fun h => .inr (.inr (.inl ⟨HK.out, HI4.out, by rw [HS.out]; exact fit_yes.2 (by have := HPOS.out; omega), HS.out.symm, rfl⟩))
          have CM := Lib.hid fun u => MI.out p0 p1 p2 p3 p4 p5 m0 m1 m2 m3 m4 m5 u HDP.out HDN.out (by omega)
          rw [hDD] at CM
          clear hDD hlt
          obtain ⟨s0, _⟩ := hF4 gp 0 (.int .u64 p0) (by simp)
          obtain ⟨t0, _⟩ := hF4 (gp + 1) 0 (.int .u64 m0) (by simp)
          obtain ⟨s1, _⟩ := hF4 gp 1 (.int .u64 p1) (by simp)
          obtain ⟨t1, _⟩ := hF4 (gp + 1) 1 (.int .u64 m1) (by simp)
          obtain ⟨s2, _⟩ := hF4 gp 2 (.int .u64 p2) (by simp)
          obtain ⟨t2, _⟩ := hF4 (gp + 1) 2 (.int .u64 m2) (by simp)
          obtain ⟨s3, _⟩ := hF4 gp 3 (.int .u64 p3) (by simp)
          obtain ⟨t3, _⟩ := hF4 (gp + 1) 3 (.int .u64 m3) (by simp)
          obtain ⟨s4, _⟩ := hF4 gp 4 (.int .u64 p4) (by simp)
          obtain ⟨t4, _⟩ := hF4 (gp + 1) 4 (.int .u64 m4) (by simp)
          obtain ⟨s5, _⟩ := hF4 gp 5 (.int .u64 p5) (by simp)
          obtain ⟨t5, _⟩ := hF4 (gp + 1) 5 (.int .u64 m5) (by simp)
          go_wp2_with fail
          refine (LE.out m0 m1 m2 m3 m4 m5 p0 p1 p2 p3 p4 p5 _ HDP.out HDN.out).mono ?_
          rintro e w4 ⟨rfl, hb⟩
          replace hF4 := hF4.below hb
          replace hB := hB.trans (hb.mono hB.size)
          clear hb s0 s1 s2 s3 s4 s5 t0 t1 t2 t3 t4 t5
          obtain ⟨s0, _⟩ := hF4 gp 0 (.int .u64 p0) (by simp)
          obtain ⟨t0, _⟩ := hF4 (gp + 1) 0 (.int .u64 m0) (by simp)
          obtain ⟨s1, _⟩ := hF4 gp 1 (.int .u64 p1) (by simp)
          obtain ⟨t1, _⟩ := hF4 (gp + 1) 1 (.int .u64 m1) (by simp)
          obtain ⟨s2, _⟩ := hF4 gp 2 (.int .u64 p2) (by simp)
          obtain ⟨t2, _⟩ := hF4 (gp + 1) 2 (.int .u64 m2) (by simp)
          obtain ⟨s3, _⟩ := hF4 gp 3 (.int .u64 p3) (by simp)
          obtain ⟨t3, _⟩ := hF4 (gp + 1) 3 (.int .u64 m3) (by simp)
          obtain ⟨s4, _⟩ := hF4 gp 4 (.int .u64 p4) (by simp)
          obtain ⟨t4, _⟩ := hF4 (gp + 1) 4 (.int .u64 m4) (by simp)
          obtain ⟨s5, _⟩ := hF4 gp 5 (.int .u64 p5) (by simp)
          obtain ⟨t5, _⟩ := hF4 (gp + 1) 5 (.int .u64 m5) (by simp)
          go_wp2_with fail
          refine (CM.out _).mono ?_
          rintro e w5 ⟨e0, e1, e2, e3, e4, e5, rfl, hbe, hve, hb⟩
          have KF := (hB.trans (hb.mono hB.size)).alloc (hB.trans (hb.mono hB.size)).size (Obj.cells #[Value.int .u64 e0, Value.int .u64 e1, Value.int .u64 e2, Value.int .u64 e3, Value.int .u64 e4, Value.int .u64 e5] 86)
          have HBD := Lib.hid hbe
          have HV := Lib.hid hve
          obtain ⟨⟨x0, y0⟩, ⟨x1, y1⟩, ⟨x2, y2⟩, ⟨x3, y3⟩, ⟨x4, y4⟩, ⟨x5, y5⟩⟩ := hbe
          obtain ⟨nn, hnn⟩ : ∃ n, e0 + e1 * 4294967296 = n := ⟨_, rfl⟩
          have HNN := Lib.hid hnn
          have w1 : IntKind.u64.wrap (e1 * 4294967296) = e1 * 4294967296 := by rw [u64w]; omega
          have w2 : IntKind.u64.wrap (e0 + e1 * 4294967296) = nn := by rw [hnn, u64w]; omega
          have hn0 : 0 ≤ nn ∧ nn < 18446744073709551616 := by omega
          obtain ⟨hn0, hn00⟩ := hn0
          clear hb hve hnn hF4 hB s0 s1 s2 s3 s4 s5 t0 t1 t2 t3 t4 t5
          by_cases h2 : e2 = 0
          case neg =>
            have hb2 : (e2 == 0) = false := beq_false_of_ne h2
            have hn2 : (e2 != 0) = true := by rw [bne, hb2]; rfl
            have HE := Lib.hid (show EV k xs es 0 3 from HNO.out (by have hv := HV.out; have hb := HBD.out; have hnn := HNN.out; unfold dval at hv; omega))
            clear h2
            go_wp2
            go_ret2
            exact ⟨0, 3, rfl, HE.out, KF⟩
          subst h2
          by_cases h3 : e3 = 0
          case neg =>
            have hb3 : (e3 == 0) = false := beq_false_of_ne h3
            have hn3 : (e3 != 0) = true := by rw [bne, hb3]; rfl
            have HE := Lib.hid (show EV k xs es 0 3 from HNO.out (by have hv := HV.out; have hb := HBD.out; have hnn := HNN.out; unfold dval at hv; omega))
            clear h3
            go_wp2
            go_ret2
            exact ⟨0, 3, rfl, HE.out, KF⟩
          subst h3
          by_cases h4 : e4 = 0
          case neg =>
            have hb4 : (e4 == 0) = false := beq_false_of_ne h4
            have hn4 : (e4 != 0) = true := by rw [bne, hb4]; rfl
            have HE := Lib.hid (show EV k xs es 0 3 from HNO.out (by have hv := HV.out; have hb := HBD.out; have hnn := HNN.out; unfold dval at hv; omega))
            clear h4
            go_wp2
            go_ret2
            exact ⟨0, 3, rfl, HE.out, KF⟩
          subst h4
          by_cases h5 : e5 = 0
          case neg =>
            have hb5 : (e5 == 0) = false := beq_false_of_ne h5
            have hn5 : (e5 != 0) = true := by rw [bne, hb5]; rfl
            have HE := Lib.hid (show EV k xs es 0 3 from HNO.out (by have hv := HV.out; have hb := HBD.out; have hnn := HNN.out; unfold dval at hv; omega))
            clear h5
            go_wp2
            go_ret2
            exact ⟨0, 3, rfl, HE.out, KF⟩
          subst h5
          by_cases hlim : 9223372036854775807 < nn
          case pos =>
            have HE := Lib.hid (show EV k xs es 0 3 from HNO.out (by have hv := HV.out; have hb := HBD.out; have hnn := HNN.out; unfold dval at hv; omega))
            go_wp2
            go_ret2
            exact ⟨0, 3, rfl, HE.out, KF⟩
          have hdv : nn = DD := by have hv := HV.out; have hb := HBD.out; have hnn := HNN.out; unfold dval at hv; omega
          have HE := Lib.hid (show EV k xs es nn 0 from by have h := HYES.out (by omega); rw [hdv]; exact h)
          clear hdv
          have w4 : wrap64 nn = nn := by unfold wrap64; omega
          go_wp2
          go_ret2
          exact ⟨nn, 0, rfl, HE.out, KF⟩
theorem eval2 (k : Int) (p : Option Addr) (xs : List Mo) (c : Nat) (q : Option Addr) (es : List Mo) (d : Nat) (w : World) (hn : xs.length ≤ 1000) (hm : es.length ≤ maxLen) (RA : Hid (SlM w p xs)) (RB : Hid (SlM w q es))
    (RS : Hid (∀ i, i < xs.length → (xs.getD i mo0).1.size ≤ maxLen ∧ -9223372036854775808 ≤ (xs.getD i mo0).2 ∧ (xs.getD i mo0).2 ≤ 9223372036854775807)) (RT : Hid (∀ i, i < es.length → (es.getD i mo0).1.size ≤ maxLen ∧ -9223372036854775808 ≤ (es.getD i mo0).2 ∧ (es.getD i mo0).2 ≤ 9223372036854775807))
    (k1 : -9223372036854775808 ≤ k) (k2 : k ≤ 9223372036854775807) :
    Calls Try.prog 34 #[Lv k p xs.length c, .slice q es.length d] w (EW k xs es w) := by
  by_cases h : k < 0
  · exact eval2n k p xs c q es d w hn hm RA RB RS RT k1 k2 h
  · exact eval2p k p xs c q es d w hn hm RA RB RS RT k1 k2 h
end Go.Proofs.Ytkdfidjoighknaa.Ln
