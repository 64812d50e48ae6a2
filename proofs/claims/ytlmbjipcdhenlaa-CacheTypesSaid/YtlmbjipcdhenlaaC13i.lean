/- The reference's cache in memory; find, first. -/
import Derived.Test.YtlmbjipcdhenlaaC11i
import Derived.Laws.OwnMore
import Derived.Deep.Onto
namespace Go.Proofs.Ytlmbjipcdhenlaa.Ci
open Go.ChangeShapes Go.WideShapes Go.ChangeAt Go.RowKit
open Go.Proofs.Ytlmbjipcdhenlaa.Ca
set_option linter.unusedVariables false
set_option linter.unusedSimpArgs false
abbrev Mo := ByteArray × Int
def mo0 : Mo := (ByteArray.empty, 0)
def moC (m : Mo) : List Value := [.string m.1, .int .i64 m.2]
def moCs (l : List Mo) : List Value := l.flatMap moC
theorem moCs_len (l : List Mo) : (moCs l).length = l.length * 2 := by
  induction l with
  | nil => rfl
  | cons t ts ih => unfold moCs at ih ⊢; rw [List.flatMap_cons, List.length_append, ih, List.length_cons]; show 2 + _ = _; omega
theorem moCs_snoc (l : List Mo) (m : Mo) : moCs (l ++ [m]) = moCs l ++ moC m := by unfold moCs; rw [List.flatMap_append]; simp
theorem moCs_get : ∀ (l : List Mo) (i : Nat), i < l.length → (moCs l)[i * 2]? = some (.string (l.getD i mo0).1) ∧ (moCs l)[i * 2 + 1]? = some (.int .i64 (l.getD i mo0).2)
  | [], i, h => absurd h (by simp)
  | m :: l, 0, h => ⟨rfl, rfl⟩
  | m :: l, i + 1, h => by
    obtain ⟨h1, h2⟩ := moCs_get l i (by simpa using h)
    unfold moCs at h1 h2 ⊢
    rw [List.flatMap_cons]
    have e1 : (i + 1) * 2 = (i * 2 + 1) + 1 := by omega
    have e2 : (i + 1) * 2 + 1 = (i * 2 + 1 + 1) + 1 := by omega
    refine ⟨?_, ?_⟩
    · rw [e1]; show (_ :: _ :: _)[_]? = _; rw [List.getElem?_cons_succ, List.getElem?_cons_succ]; exact h1
    · rw [e2]; show (_ :: _ :: _)[_]? = _; rw [List.getElem?_cons_succ, List.getElem?_cons_succ]; exact h2
theorem addr_add (g k : Nat) : (⟨g, 0, none⟩ : Addr).add k = ⟨g, k, none⟩ := by
  unfold Addr.add
  split <;> simp_all
def SlM (w : World) (p : Option Addr) (xs : List Mo) : Prop := ∀ i, i < xs.length → ∃ b o, p = some ⟨b, o, none⟩ ∧ w.cell? ⟨b, o + i * 2, none⟩ = some (.string (xs.getD i mo0).1) ∧ w.cell? ⟨b, o + i * 2 + 1, none⟩ = some (.int .i64 (xs.getD i mo0).2)
theorem SlM.keep {w u : World} {p : Option Addr} {l : List Mo} (hb : Below w.heap.size w u) (h : SlM w p l) : SlM u p l := fun i hi => by
  obtain ⟨b, o, rfl, c, d⟩ := h i hi
  exact ⟨b, o, rfl, kpc hb (lt_cell c) c, kpc hb (lt_cell d) d⟩
theorem own_slE {w : World} {E : TypeId} {base : Nat} {v : Value} {l : List Mo} (h : w.ownsRow base E 2 v l.length (moCs l)) : ∃ p c, v = .slice p l.length c ∧ SlM w p l := by
  obtain ⟨h1, h2⟩ := h
  rcases h2 with ⟨rfl, hn⟩ | ⟨g, cap, cur, rfl, hb, hh, hc, hm, hs, ht⟩
  · exact ⟨none, 0, by rw [hn], fun i hi => absurd hi (by omega)⟩
  · refine ⟨some ⟨g, 0, none⟩, cap, rfl, fun i hi => ⟨g, 0, rfl, ?_⟩⟩
    have hO : w.ownsRow base E 2 (.slice (some ⟨g, 0, none⟩) l.length cap) l.length (moCs l) := ⟨h1, .inr ⟨g, cap, cur, rfl, hb, hh, hc, hm, hs, ht⟩⟩
    obtain ⟨c1, c2⟩ := moCs_get l i hi
    have d1 := hO.cells (g := g) rfl _ _ c1
    have d2 := hO.cells (g := g) rfl _ _ c2
    rw [addr_add] at d1 d2
    exact ⟨by rw [Nat.zero_add]; exact d1, by rw [Nat.zero_add]; exact d2⟩
theorem sl_cells {w : World} {b o : Nat} {l : List Mo} (h : SlM w (some ⟨b, o, none⟩) l) : ∀ j u, (moCs l)[j]? = some u → w.cell? ((⟨b, o, none⟩ : Addr).add j) = some u := fun j u hj => by
  have hjl : j < l.length * 2 := by
    rcases Nat.lt_or_ge j (moCs l).length with h' | h'
    · rwa [moCs_len] at h'
    · rw [List.getElem?_eq_none h'] at hj; cases hj
  have hadd : (⟨b, o, none⟩ : Addr).add j = ⟨b, o + j, none⟩ := by
    unfold Addr.add
    split <;> simp_all
  rw [hadd]
  obtain ⟨b', o', e, c0, c1⟩ := h (j / 2) (by omega)
  cases e
  obtain ⟨d0, d1⟩ := moCs_get l (j / 2) (by omega)
  by_cases hp : j % 2 = 0
  · rw [show j / 2 * 2 = j by omega] at c0 d0
    rw [d0] at hj
    rw [c0]
    exact hj
  · rw [show j / 2 * 2 + 1 = j by omega] at d1
    rw [show o + j / 2 * 2 + 1 = o + j by omega] at c1
    rw [d1] at hj
    rw [c1]
    exact hj
theorem mo_one (l : List Mo) : ∀ u ∈ moCs l, u.oneCell' = true := fun u hu => by
  unfold moCs at hu
  obtain ⟨m, _, hm⟩ := List.mem_flatMap.1 hu
  unfold moC at hm
  simp at hm
  rcases hm with rfl | rfl <;> rfl
theorem run_append_of_nil {P : Program} {w : World} (base : Nat) (t ty e : TypeId) (i : TypeInfo) (size : Nat) (ht : P.underlying t = some (.slice e)) (hi : P.info? e = some i)
    (v : Value) (n : Nat) (xs : List Value) (hown : w.ownsRow base e size v n xs) (c : Nat) : (Builtin.append_ #[t, t] ty #[v, .slice none 0 c]).run P w = .ok v w := by
  rcases hown.2 with ⟨rfl, rfl⟩ | ⟨g, cap, cur, rfl, _, _, hnc, _⟩
  · simp [Builtin.append_, run_underlying ht, sizeOf, typeInfo, hi, Builtin.lenOf, Builtin.firstCells]
  · simp [Builtin.append_, run_underlying ht, sizeOf, typeInfo, hi, Builtin.lenOf, Builtin.firstCells, hnc, storeCells]
theorem wpList_append_sl {P : Program} (w : World) {ops : Array Oper} {rest : List Oper} {o : Oper} {a : Act} {Q : Exit → Act → World → Prop} (hgd : o.guard = none) (s x : Operand) (t : TypeId)
    (ho : o.op = .call { callee := .builtin .append, args := #[s, x], argTypes := #[t, t] })
    (base : Nat) (e : TypeId) (i : TypeInfo) (z : Value) (bytes : Nat) (ht : P.underlying t = some (.slice e)) (hi : P.info? e = some i) (hz : i.zero = some z)
    (hsize : i.size = 2) (hby : i.bytes = bytes) (hzs : z.cells.size = 2)
    (v : Value) (n : Nat) (xs : List Value) (hs : a.eval s = v) (hown : w.ownsRow base e 2 v n xs)
    (A : Option Addr) (es : List Mo) (c : Nat) (hx : a.eval x = .slice A es.length c) (hr : SlM w A es)
    (h63 : n + es.length ≤ maxLen) (hbytes : (n + es.length) * bytes ≤ 140737488355328) (hbase : base ≤ w.heap.size)
    (h : ∀ v' w', w'.ownsRow base e 2 v' (n + es.length) (xs ++ moCs es) → w.grownBy w' v.ownBlock → wpList P ops Q rest (a.put o.dst v') w') : wpList P ops Q (o :: rest) a w := by
  by_cases he : es = []
  · subst he
    rcases A with _ | ad
    · refine wpList_plain hgd fun K hK => ?_
      have hr := run_append_of_nil (w := w) base t o.type e i 2 ht hi v n xs hown c
      unfold Oper.wp execOp
      simp only [ho, resolve, invoke, builtin, Sem.run_bind, Sem.run_pure, Result.andThen_ok, List.map_toArray, List.map_cons, List.map_nil, hs, hx, List.length_nil, hr]
      exact hK _ _ (h v w (by simpa [moCs] using hown) ⟨rfl, rfl, rfl, Nat.le_refl _, fun _ _ _ => rfl⟩)
    · exact wpList_append_own w hgd s x t ho base e i z 2 bytes ht hi hz hsize hby hzs (by decide) v n xs hs hown ad 0 c [] hx rfl (fun j u hj => by simp at hj) (fun u hu => by simp at hu) h63 hbytes hbase (fun v' w' h1 h2 _ => h v' w' h1 h2)
  · rcases A with _ | ⟨b, o', sp⟩
    · obtain ⟨b, o', e, _⟩ := hr 0 (by cases es with | nil => exact absurd rfl he | cons => simp)
      cases e
    · obtain ⟨b1, o1, e, _⟩ := hr 0 (by cases es with | nil => exact absurd rfl he | cons => simp)
      cases e
      exact wpList_append_own w hgd s x t ho base _ i z 2 bytes ht hi hz hsize hby hzs (by decide) v n xs hs hown ⟨b, o', none⟩ es.length c (moCs es) hx (moCs_len es) (sl_cells hr) (mo_one es) h63 hbytes hbase (fun v' w' h1 h2 _ => h v' w' h1 h2)
theorem own_slice {u : World} {base : Nat} {E : TypeId} {sz n : Nat} {v : Value} {xs : List Value} (h : u.ownsRow base E sz v n xs) : ∃ q c, v = .slice q n c := by
  rcases h.2 with ⟨rfl, hn⟩ | ⟨g, cap, cur, rfl, _⟩
  · exact ⟨none, 0, by rw [hn]⟩
  · exact ⟨_, _, rfl⟩
theorem own_below {u u' : World} {base : Nat} {E : TypeId} {sz n : Nat} {v : Value} {xs : List Value} (h : u.ownsRow base E sz v n xs) (hb : Below u.heap.size u u') : u'.ownsRow base E sz v n xs :=
  h.kept (row := none) ⟨hb.os, hb.tape, hb.output, hb.size, fun k hk _ => hb.block k hk⟩ (by cases v.ownBlock <;> simp)
theorem grown_below {w u u' : World} {r : Option Nat} (h : w.grownBy u r) (hb : Below u.heap.size u u') : w.grownBy u' r :=
  ⟨hb.os.trans h.os, hb.tape.trans h.tape, hb.output.trans h.output, Nat.le_trans h.size hb.size, fun k hk hne => (hb.block k (Nat.lt_of_lt_of_le hk h.size)).trans (h.block k hk hne)⟩
theorem grown_trans {w u v : World} {r : Option Nat} (h : w.grownBy u r) (h' : u.grownBy v r) : w.grownBy v r :=
  ⟨h'.os.trans h.os, h'.tape.trans h.tape, h'.output.trans h.output, Nat.le_trans h.size h'.size, fun k hk hne => (h'.block k (Nat.lt_of_lt_of_le hk h.size) hne).trans (h.block k hk hne)⟩
theorem grown_refl (w : World) (r : Option Nat) : w.grownBy w r := ⟨rfl, rfl, rfl, Nat.le_refl _, fun _ _ _ => rfl⟩
theorem grown_cell (w : World) (x o : Nat) (v : Value) : w.grownBy (w.setCell ⟨x, o, none⟩ v) (some x) := ⟨rfl, rfl, rfl, by simp, fun k _ hne => Below.heap_setCell _ _ _ _ (by simpa using hne)⟩
theorem own_prefix {u : World} {base : Nat} {E : TypeId} {sz n c g : Nat} {l : List Value} (h : u.ownsRow base E sz (.slice (some ⟨g, 0, none⟩) n c) n l) {i : Nat} (hi : i ≤ n) : u.ownsRow base E sz (.slice (some ⟨g, 0, none⟩) i c) i (l.take (i * sz)) := by
  have hle : i * sz ≤ n * sz := Nat.mul_le_mul_right _ hi
  refine ⟨by rw [List.length_take, h.1]; omega, ?_⟩
  rcases h.2 with ⟨e, _⟩ | ⟨g', cap, cur, e, hb, hh, hc, hm, hs, ht⟩
  · cases e
  · cases e
    exact .inr ⟨g, c, cur, rfl, hb, hh, by omega, hm, hs, by rw [← ht, List.take_take, Nat.min_eq_left hle]⟩
theorem moCs_take (l : List Mo) (n : Nat) : (moCs l).take (n * 2) = moCs (l.take n) := by
  induction l generalizing n with
  | nil => simp [moCs]
  | cons x l ih =>
    cases n with
    | zero => simp [moCs]
    | succ n =>
      have := ih n
      unfold moCs at this ⊢
      rw [List.take_succ_cons, List.flatMap_cons, List.flatMap_cons, ← this]
      rw [show (n + 1) * 2 = n * 2 + 1 + 1 by omega]
      show (_ :: _ :: _) = (_ :: _ :: _)
      rfl
/-- The reference's cache in memory. -/
structure RX (w : World) (xb B : Nat) (most : Int) (L : List Mo) (hits misses : Nat) (va : Value) : Prop where
  m : w.cell? ⟨xb, 0, none⟩ = some (.int .i64 most)
  h : w.cell? ⟨xb, 1, none⟩ = some (.int .i64 (hits : Int))
  s : w.cell? ⟨xb, 2, none⟩ = some (.int .i64 (misses : Int))
  a : w.cell? ⟨xb, 3, none⟩ = some va
  z1 : w.frozen? ⟨xb, 1, none⟩ = false
  z2 : w.frozen? ⟨xb, 2, none⟩ = false
  z3 : w.frozen? ⟨xb, 3, none⟩ = false
  row : w.ownsRow B 87 2 va L.length (moCs L)
  nx : va.ownBlock ≠ some xb
  lo : B ≤ xb
theorem RX.on {w w' : World} {xb B : Nat} {most : Int} {L : List Mo} {hits misses : Nat} {va : Value} (R : RX w xb B most L hits misses va) (h1 : w'.heap[xb]? = w.heap[xb]?) (h2 : ∀ k, va.ownBlock = some k → w'.heap[k]? = w.heap[k]?) : RX w' xb B most L hits misses va :=
  ⟨(World.cell?_of_block (a := ⟨xb, 0, none⟩) h1).trans R.m, (World.cell?_of_block (a := ⟨xb, 1, none⟩) h1).trans R.h, (World.cell?_of_block (a := ⟨xb, 2, none⟩) h1).trans R.s, (World.cell?_of_block (a := ⟨xb, 3, none⟩) h1).trans R.a, (World.frozen?_of_block (a := ⟨xb, 1, none⟩) h1).trans R.z1, (World.frozen?_of_block (a := ⟨xb, 2, none⟩) h1).trans R.z2, (World.frozen?_of_block (a := ⟨xb, 3, none⟩) h1).trans R.z3, own_kp R.row h2, R.nx, R.lo⟩
theorem RX.below {w w' : World} {xb B : Nat} {most : Int} {L : List Mo} {hits misses : Nat} {va : Value} (R : RX w xb B most L hits misses va) (hb : Below w.heap.size w w') : RX w' xb B most L hits misses va :=
  R.on (hb.block xb (lt_cell R.m)) (fun k hk => hb.block k (R.row.lt k hk).2)
theorem RX.kp {w w' : World} {xb B : Nat} {most : Int} {L : List Mo} {hits misses : Nat} {va : Value} {S : Nat → Prop} (R : RX w xb B most L hits misses va) (hb : Kp S w w') (h1 : S xb) (h2 : ∀ k, va.ownBlock = some k → S k) : RX w' xb B most L hits misses va :=
  R.on (hb xb h1) (fun k hk => hb k (h2 k hk))
/-- Another list of entries. -/
theorem RX.all {w w' : World} {xb B : Nat} {most : Int} {L L' : List Mo} {hits misses : Nat} {va va' : Value} (R : RX w xb B most L hits misses va) (hg : w.grownBy w' none) (hr : w'.ownsRow B 87 2 va' L'.length (moCs L')) (hn : va'.ownBlock ≠ some xb) : RX (w'.setCell ⟨xb, 3, none⟩ va') xb B most L' hits misses va' := by
  have h1 : w'.heap[xb]? = w.heap[xb]? := hg.block xb (lt_cell R.m) (by simp)
  have c3 : w'.cell? ⟨xb, 3, none⟩ = some va := (World.cell?_of_block (a := ⟨xb, 3, none⟩) h1).trans R.a
  refine ⟨?_, ?_, ?_, World.cell?_setCell_same _ _ _ c3, ?_, ?_, ?_, hr.kept (grown_cell _ _ _ _) (by cases h : va'.ownBlock with | none => exact .inl rfl | some q => rw [h] at hn; exact .inr hn), hn, R.lo⟩
  · exact (World.cell?_setCell_other _ _ _ _ (by intro e; cases e)).trans ((World.cell?_of_block (a := ⟨xb, 0, none⟩) h1).trans R.m)
  · exact (World.cell?_setCell_other _ _ _ _ (by intro e; cases e)).trans ((World.cell?_of_block (a := ⟨xb, 1, none⟩) h1).trans R.h)
  · exact (World.cell?_setCell_other _ _ _ _ (by intro e; cases e)).trans ((World.cell?_of_block (a := ⟨xb, 2, none⟩) h1).trans R.s)
  · rw [fz_set]; exact (World.frozen?_of_block (a := ⟨xb, 1, none⟩) h1).trans R.z1
  · rw [fz_set]; exact (World.frozen?_of_block (a := ⟨xb, 2, none⟩) h1).trans R.z2
  · rw [fz_set]; exact (World.frozen?_of_block (a := ⟨xb, 3, none⟩) h1).trans R.z3
theorem row_any {w : World} {B : Nat} {va : Value} {L : List Mo} (h : w.ownsRow B 87 2 va L.length (moCs L)) : ∃ p c, va = .slice p L.length c ∧ L.length ≤ c ∧ c ≤ maxLen ∧ SlM w p L := by
  obtain ⟨p, c, rfl, hs⟩ := own_slE h
  refine ⟨p, c, rfl, ?_, ?_, hs⟩
  · rcases h.2 with ⟨e, hn⟩ | ⟨g, cap, cur, e, _, _, hc, _⟩
    · rw [hn]; exact Nat.zero_le _
    · cases e; exact hc
  · rcases h.2 with ⟨e, hn⟩ | ⟨g, cap, cur, e, _, _, _, hc, _⟩
    · injection e with _ _ e3; rw [e3]; exact Nat.zero_le _
    · cases e; exact hc
theorem same_b (a b : ByteArray) : (a.toList == b.toList) = decide (a = b) := by
  by_cases h : a = b
  · subst h; simp
  · rw [decide_eq_false h, Bool.eq_false_iff]
    intro e
    exact h (bytes_eq (beq_iff_eq.1 e))
def FW (L : List Mo) (s : ByteArray) (w : World) (e : Ending) (w' : World) : Prop := w = w' ∧ ((s ∉ L.map (·.1) ∧ e = .returned (.int .i64 (-1))) ∨ ∃ (i : Nat) (v : Int), L[i]? = some (s, v) ∧ e = .returned (.int .i64 (i : Int)))
set_option maxRecDepth 100000 in
set_option maxHeartbeats 8000000 in
theorem find1 (xb B : Nat) (most : Int) (L : List Mo) (hits misses : Nat) (va : Value) (s : ByteArray) (w : World) (R : Hid (RX w xb B most L hits misses va)) (hn : L.length ≤ 2000) : Calls Try.prog 52 #[.pointer (some ⟨xb, 0, none⟩), .string s] w (FW L s w) := by
  obtain ⟨p, c, rfl, hc, hcm, hS⟩ := row_any R.out.row
  have ca := R.out.a
  have HS := Lib.hid hS
  clear hS
  go_enter Try.func52, Try.ntmps52
  go_wp2
  go_loopw [5] (fun i wr => ∃ j : Nat, i = .int .i64 (j : Int) ∧ j ≤ L.length ∧ wr = w ∧ Hid (s ∉ (L.take j).map (·.1))) (fun i _ => L.length - (intOf i).toNat)
  case atStart => exact ⟨0, rfl, by omega, rfl, Lib.hid (by simp)⟩
  case round =>
    obtain ⟨j, rfl, hj, rfl, HJ⟩ := hrel
    have j0 : (0 : Int) ≤ j := by omega
    by_cases hlt : j < L.length
    · obtain ⟨b, o, rfl, c0, c1⟩ := HS.out j hlt
      have hx : L[j]? = some L[j] := List.getElem?_eq_getElem hlt
      have htk := List.take_succ_eq_append_getElem hlt
      rw [show L.getD j mo0 = L[j] by unfold List.getD; rw [hx]; rfl] at c0 c1
      obtain ⟨⟨k, v⟩, hv⟩ : ∃ x, L[j] = x := ⟨_, rfl⟩
      rw [hv] at c0 c1 hx htk
      simp only at c0 c1
      have HX := Lib.hid hx
      have HTK := Lib.hid htk
      clear hx htk hv
      have j1 : (j : Int) < L.length := by omega
      by_cases hks : k = s
      · subst hks
        have HF := Lib.hid (show FW L k wr (.returned (.int .i64 (j : Int))) wr from ⟨rfl, .inr ⟨j, v, HX.out, rfl⟩⟩)
        go_wp2
        go_ret
        exact HF.out
      · have hv : (k.toList == s.toList) = false := by rw [same_b]; exact decide_eq_false hks
        have HJ2 : Hid (s ∉ (L.take (j + 1)).map (·.1)) := Lib.hid (by
          rw [HTK.out, List.map_append, List.mem_append, not_or]
          exact ⟨HJ.out, by simp; exact fun e => hks e.symm⟩)
        clear hks
        go_wp2
        go_roundw
        case rel => exact ⟨j + 1, by go_num, by omega, by first | rfl | trivial, HJ2⟩
        case measure => simp [intOf]; omega
    · have j1 : ¬ (j : Int) < L.length := by omega
      have HF := Lib.hid (show FW L s wr (.returned (.int .i64 (-1))) wr from ⟨rfl, .inl ⟨by have h := HJ.out; rwa [List.take_of_length_le (by omega)] at h, rfl⟩⟩)
      go_wp2
      go_ret
      exact HF.out
theorem grown_two {w w1 w5 : World} {g : Nat} (hb : Below w.heap.size w w1) (hg : w1.grownBy w5 (some g)) (hw : w.heap.size ≤ g) : w.grownBy w5 none :=
  ⟨hg.os.trans hb.os, hg.tape.trans hb.tape, hg.output.trans hb.output, Nat.le_trans hb.size hg.size, fun q hq _ => (hg.block q (Nat.lt_of_lt_of_le hq hb.size) (by simp; omega)).trans (hb.block q hq)⟩
theorem infoEn : (Try.prog.info? 87).map (fun i => (i.zero, i.size, i.bytes)) = some (some (.agg #[.string ⟨#[]⟩, .int .i64 0]), 2, 24) := by kernel_rfl
/-- A list of entries has been laid anew. -/
def LW (xb B : Nat) (most : Int) (L' : List Mo) (hits misses : Nat) (va : Value) (w w' : World) : Prop := w.grownBy w' (some xb) ∧ ∃ va', RX w' xb B most L' hits misses va' ∧ ∀ k, va'.ownBlock = some k → va.ownBlock = some k ∨ w.heap.size ≤ k
set_option maxRecDepth 100000 in
set_option maxHeartbeats 8000000 in
theorem first1 (xb B : Nat) (most : Int) (L : List Mo) (hits misses : Nat) (va : Value) (k : ByteArray) (v : Int) (w : World) (R : Hid (RX w xb B most L hits misses va)) (hn : L.length ≤ 2000) :
    Calls Try.prog 53 #[.pointer (some ⟨xb, 0, none⟩), .agg #[.string k, .int .i64 v]] w fun e w' => e = .returned (.tuple #[]) ∧ LW xb B most ((k, v) :: L) hits misses va w w' := by
  obtain ⟨p, c, rfl, hc, hcm, hS⟩ := row_any R.out.row
  obtain ⟨i0, hi, hz0, hz1, hz2⟩ := info_parts infoEn
  have hxb := lt_cell R.out.m
  have hBx := R.out.lo
  have BA := ((Below.refl w.heap.size w).alloc (Nat.le_refl _) (Obj.cells #[Value.string k, Value.int .i64 v] 87)).alloc (by simp) (Obj.cells #[Value.string k, Value.int .i64 v] 87)
  have hO0 : ((w.alloc (Obj.cells #[Value.string k, Value.int .i64 v] 87)).alloc (Obj.cells #[Value.string k, Value.int .i64 v] 87)).ownsRow (w.heap.size + 1) 87 2 (.slice (some ⟨w.heap.size + 1, 0, none⟩) 1 1) 1 [.string k, .int .i64 v] := by
    have h := World.ownsRow_lit (base := w.heap.size + 1) (e := 87) (size := 2) (w.alloc (Obj.cells #[Value.string k, Value.int .i64 v] 87)) #[.string k, .int .i64 v] 1 (by simp) (by unfold maxLen; decide) rfl
    simpa using h
  have HS := SlM.keep BA hS
  have a3 := kpc BA hxb R.out.a
  have z3 : ((w.alloc (Obj.cells #[Value.string k, Value.int .i64 v] 87)).alloc (Obj.cells #[Value.string k, Value.int .i64 v] 87)).frozen? ⟨xb, 3, none⟩ = false := (BA.frozen (p := ⟨xb, 3, none⟩) hxb).trans R.out.z3
  have HB := Lib.hid BA
  clear BA hS
  unfold maxLen at hcm
  go_enter Try.func53, Try.ntmps53
  go_wp2_with ((at_builtin); (refine wpList_append_sl _ rfl _ _ 28 rfl (w.heap.size + 1) 87 i0 (.agg #[.string ⟨#[]⟩, .int .i64 0]) 24 Try.underlying28 hi hz0 hz1 hz2 rfl _ _ _ rfl hO0 p L c rfl HS (by unfold maxLen; omega) (by omega) (by simp) ?_); (intro v' w5 hown' hgrow); (have hgr : w.grownBy w5 none := grown_two (g := w.heap.size + 1) HB.out hgrow (by omega)); (have b3 : w5.cell? ⟨xb, 3, none⟩ = some (.slice p L.length c) := (World.cell?_of_block (a := ⟨xb, 3, none⟩) (hgr.block xb hxb (by simp))).trans R.out.a); (have y3 : w5.frozen? ⟨xb, 3, none⟩ = false := (World.frozen?_of_block (a := ⟨xb, 3, none⟩) (hgr.block xb hxb (by simp))).trans R.out.z3); (obtain ⟨q5, c5, rfl⟩ := own_slice hown'); (have HO := Lib.hid hown'); (have HG := Lib.hid hgr); (clear hown' hgrow hgr hO0 HS a3 z3 hi hz0 hz1 hz2))
  go_end0
  have hrow : w5.ownsRow B 87 2 (.slice q5 (L.length + 1) c5) ((k, v) :: L).length (moCs ((k, v) :: L)) := by
    have h := HO.out.mono (base' := B) (by omega)
    rw [Nat.add_comm 1 L.length] at h
    exact h
  have hlt := HO.out.lt
  rw [Nat.add_comm 1 L.length] at hlt ⊢
  exact ⟨rfl, grown_trans (⟨HG.out.os, HG.out.tape, HG.out.output, HG.out.size, fun q hq _ => HG.out.block q hq (by simp)⟩) (grown_cell _ _ _ _), _, R.out.all HG.out hrow (fun e => by have := (hlt _ e).1; omega), fun q hq => .inr (by have := (hlt q hq).1; omega)⟩
end Go.Proofs.Ytlmbjipcdhenlaa.Ci
