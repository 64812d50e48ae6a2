/- Boxes: successor. -/
import Derived.Test.YtkdfidjoighknaaBM
import Derived.Laws.CopyOwn
import Derived.Deep.Cut
namespace Go.Proofs.Ytkdfidjoighknaa.Bx
open Go.ChangeShapes Go.WideShapes Go.ChangeAt Go.RowKit
set_option linter.unusedVariables false
set_option linter.unusedSimpArgs false
theorem zle {zs : List Int} {k : Nat} {z : Int} (hl : zs.any low = false) (hk : k < zs.length) (hz : zs.getD k 0 = z) {M : Int} (hs : sp zs ≤ M) : z ≤ M := by
  have h1 := sp_drop_le hl k
  rw [sp_drop_step hk, hz] at h1
  have h2 := sp_pos (any_drop hl (k + 1))
  have h3 := pos_of hl hk
  have := Int.mul_le_mul_of_nonneg_right h2 (by omega : 0 ≤ z)
  omega
theorem own_heap {w : World} {base g n : Nat} {xs : List Value} (h : w.ownsRow base 3 1 (.slice (some ⟨g, 0, none⟩) n n) n xs) : w.heap[g]? = some (.cells xs.toArray 3 (0, 0)) := by
  obtain ⟨hl, ⟨e, _⟩ | ⟨g', cap, cur, e, hb, hg, h1, h2, h3, h4⟩⟩ := h
  · cases e
  · cases e
    rw [hg]
    have : cur.toList = xs := by rw [← h4, List.take_of_length_le (by simp [h3])]
    rw [← this]
theorem heap_own {w : World} {g n base : Nat} {xs : List Value} (hb : base ≤ g) (hn : xs.length = n) (hm : n ≤ maxLen) (h : w.heap[g]? = some (.cells xs.toArray 3 (0, 0))) : w.ownsRow base 3 1 (.slice (some ⟨g, 0, none⟩) n n) n xs :=
  ⟨by omega, .inr ⟨g, n, xs.toArray, rfl, hb, h, Nat.le_refl _, hm, by simp [hn], by simp [← hn]⟩⟩
theorem sq_set {ps : List Int} {m n : Nat} (hn : ps.length = n) (hm : m < n) : (Go.splice (List.replicate n (Value.int .i64 0)) 0 ((ps.take m).map (Value.int .i64))).set m (.int .i64 (ps.getD m 0 + 1)) = (sq ps m).map (Value.int .i64) := by
  have hl : (ps.take m).length = m := by rw [List.length_take]; omega
  unfold Go.splice sq
  rw [List.take_zero, List.nil_append, List.length_map, hl, Nat.zero_add, List.drop_replicate, List.set_append_right _ _ (by simp; omega), List.length_map, hl, Nat.sub_self]
  rw [List.map_append, List.map_cons, List.map_replicate]
  congr 1
  rw [hn, show n - m = (n - m - 1) + 1 by omega, List.replicate_succ, List.set_cons_zero]
  rfl
set_option maxRecDepth 100000 in
set_option maxHeartbeats 16000000 in
theorem succ1_eq (n : Nat) (p q : Option Addr) (zs ps : List Int) (c d : Nat) (w : World) (hn : n ≤ 16) (hd : n ≤ d) (HI : Hid (inB zs ps = true)) (HZl : Hid (zs.length = n)) (HPl : Hid (ps.length = n)) (RA : Hid (SlI w p zs)) (RB : Hid (SlI w q ps)) :
    Calls Try.prog 84 #[.slice p n c, .slice q n d] w (PW (pP zs (rk zs ps n + 1)) (pB zs (rk zs ps n + 1)) w) := by
  have HN := Lib.hid (inB_ins HI.out)
  have HU := Lib.hid (inB_full HI.out)
  have HR := Lib.hid (rk_nonneg HN.out (Nat.le_of_eq HZl.out.symm))
  have EQ1 := Lib.hid fun m hm h1 hf => sq_pt (m := m) HN.out hm h1 hf
  have EQ2 := Lib.hid fun hf => full_last HN.out hf
  rw [HZl.out] at EQ1 EQ2
  obtain ⟨i0, hi, hz0, hz1, hz2⟩ := info_parts info3
  go_enter Try.func84, Try.ntmps84
  go_wp2
  go_loopw [6] (fun i wr => ∃ (m r : Nat), i = .int .i64 ((m : Int) - 1) ∧ m ≤ n ∧ wr = w.drewN r ∧ Hid (∀ j, m ≤ j → j < n → ps.getD j 0 + 1 = zs.getD j 0)) (fun i _ => (intOf i + 1).toNat)
  case atStart => exact ⟨n, 0, rfl, Nat.le_refl _, rfl, Lib.hid fun j h1 h2 => by omega⟩
  case round =>
    obtain ⟨m, r, rfl, hm, rfl, hL⟩ := hrel
    cases m with
    | zero =>
      have e1 : pB zs (rk zs ps n + 1) = false := by
        have := EQ2.out fun j hj => hL.out j (by omega) hj
        cases hb : pB zs (rk zs ps n + 1) with
        | false => rfl
        | true => have h := (pB_yes hb).2; rw [HU.out.2.2.1] at h; omega
      have E1 := Lib.hid e1
      have E2 : Hid (pP zs (rk zs ps n + 1) = []) := Lib.hid (if_neg (by rw [e1]; decide))
      clear e1
      go_wp2
      refine bodyPost_ret (v := .tuple #[.slice none 0 0, .bool false]) (by simp [results, Try.results84, go_sem]) rfl ?_
      rw [E1.out, E2.out]
      exact ⟨_, rfl, World.below_drewN' (Below.refl _ _) _, World.ownsRow_nil _ _ _ _⟩
    | succ m =>
      rw [show ((m + 1 : Nat) : Int) - 1 = (m : Int) by omega]
      obtain ⟨b, o, rfl, hc⟩ := RA.out m (by rw [HZl.out]; omega)
      obtain ⟨b2, o2, rfl, hc2⟩ := RB.out m (by rw [HPl.out]; omega)
      have hy9 := HN.out.2 m (by rw [HZl.out]; omega)
      have q1 := EQ1.out m (by omega)
      obtain ⟨z, hz⟩ : ∃ z, zs.getD m 0 = z := ⟨_, rfl⟩
      obtain ⟨y, hy⟩ : ∃ y, ps.getD m 0 = y := ⟨_, rfl⟩
      rw [hz] at hc hy9 q1
      rw [hy] at hc2 hy9 q1
      have HZ := Lib.hid hz
      have HY := Lib.hid hy
      have Q1 := Lib.hid q1
      obtain ⟨y0, y1⟩ := hy9
      have hzb : z ≤ 9223372036854775807 := by have := HU.out.2.2.2.2; exact zle HU.out.2.1 (k := m) (by rw [HZl.out]; omega) HZ.out (by omega)
      have m0 : (0 : Int) ≤ m := by omega
      have m1 : (m : Int) < n := by omega
      clear hz hy q1
      by_cases hlt : y + 1 < z
      · obtain ⟨s1, s2⟩ := Q1.out hlt fun j h1 h2 => hL.out j (by omega) h2
        have E1 : Hid (pB zs (rk zs ps n + 1) = true) := Lib.hid (pB_of (by have := HR.out; omega) (by rw [HU.out.2.2.1]; exact s2))
        have E2 : Hid (pP zs (rk zs ps n + 1) = sq ps m) := Lib.hid (by rw [s1]; exact if_pos E1.out)
        have d1 : decide (y + 1 < z) = true := decide_eq_true hlt
        clear s1 s2
        go_wp2_with fail
        go_quiet (fail)
        have KD := Lib.hid (World.below_drewN' (World.below_drewN' (Below.refl w.heap.size w) r) nq)
        have RB2 := Lib.hid (SlI.keep KD.out RB.out)
        have hc3 : ((w.drewN r).drewN nq).cell? ⟨b2, o2 + m, none⟩ = some (.int .i64 y) := hc2
        generalize (w.drewN r).drewN nq = u at *
        clear hc hc2
        have hbu : b2 < u.heap.size := by have := World.block_lt_of_cell? u _ hc3; simpa using this
        go_upto_region 6 with (refine wpList_make_full _ rfl _ _ 22 rfl u.heap.size 3 i0 (.int .i64 0) 1 Try.underlying22 hi hz0 hz1 .i64 .i64 _ _ n rfl rfl rfl rfl (by rw [hz2]; omega) (by unfold maxLen; omega) (Nat.le_refl _) ?_; intro w1 hown hg; have hB := below_own (Nat.le_refl _) hg; clear hg hi hz0 hz1 hz2 i0)
        have hown2 : Hid (w1.ownsRow u.heap.size 3 1 (.slice (some ⟨u.heap.size, 0, none⟩) n n) n (List.replicate n (Value.int .i64 0))) := Lib.hid (by
          have h := hown
          rw [show (Value.int IntKind.i64 0).cells = #[.int .i64 0] from rfl, toList_madeCells_one, Nat.mul_one] at h
          exact h)
        have HB := Lib.hid hB
        have HH := Lib.hid (own_heap hown2.out)
        clear hown hB hown2
        have hcs : ((ps.take m).map (Value.int .i64)).length = m := by rw [List.length_map, List.length_take, HPl.out]; omega
        have HCS := Lib.hid hcs
        have HCELL : Hid (∀ (j : Nat) (v : Value), ((ps.take m).map (Value.int .i64))[j]? = some v → w1.cell? ((⟨b2, o2, none⟩ : Addr).add j) = some v) := Lib.hid fun j v hj => by
          have hjm : j < m := by
            have := (List.getElem?_eq_some_iff.1 hj).1
            rw [hcs] at this
            exact this
          obtain ⟨b', o', e', hcj⟩ := SlI.keep (Below.mono HB.out (Nat.le_refl _)) RB2.out j (by rw [HPl.out]; omega)
          cases e'
          rw [add_at, hcj]
          rw [List.getElem?_map, List.getElem?_take_of_lt hjm, List.getElem?_eq_getElem (by rw [HPl.out]; omega)] at hj
          rw [getD_at (by rw [HPl.out]; omega)]
          exact hj
        clear hcs
        have COPY := Lib.hid fun (ops : Array Oper) (rest : List Oper) (o : Oper) (a : Act) (Q : Exit → Act → World → Prop) (hgd : o.guard = none) (ho : o.op = .call { callee := .builtin .copy, args := #[.tmp 28, .tmp 31], argTypes := #[22, 22] }) (hd : a.eval (.tmp 28) = .slice (some ⟨u.heap.size, 0, none⟩) n n) (hs : a.eval (.tmp 31) = .slice (some ⟨b2, o2, none⟩) m d) => wpList_copy_splice (P := Try.prog) (w := w1) (ops := ops) (rest := rest) (o := o) (a := a) (Q := Q) hgd (.tmp 28) (.tmp 31) 22 22 ho 3 Try.underlying22 (by kernel_rfl) (some ⟨u.heap.size, 0, none⟩) (some ⟨b2, o2, none⟩) n n m d hd hs u.heap.size 0 (List.replicate n (Value.int .i64 0)) 3 HH.out ((ps.take m).map (Value.int .i64)) (by rw [HCS.out]; exact (Nat.min_eq_left (by omega)).symm) (fun _ => ⟨rfl, _, rfl, HCELL.out⟩) (by rw [HCS.out, List.length_replicate]; omega) (fun v hv => by obtain ⟨x, _, rfl⟩ := List.mem_map.1 hv; rfl) u.heap.size u HB.out (Nat.le_refl _)
        rw [HCS.out] at COPY
        clear HCELL HCS HH
        go_upto_region 7 with (refine COPY.out _ _ _ _ _ (by rfl) (by rfl) (by rfl) (by rfl) ?_; intro w2 hw2 hb2)
        have hsl : (Go.splice (List.replicate n (Value.int .i64 0)) 0 ((ps.take m).map (Value.int .i64))).length = n := by
          unfold Go.splice
          rw [List.take_zero, List.nil_append, List.length_append, List.length_drop, List.length_replicate, List.length_map, List.length_take, HPl.out]
          omega
        have O2 := Lib.hid (heap_own (base := u.heap.size) (Nat.le_refl _) hsl (by unfold maxLen; omega) hw2.out)
        have hc4 : w2.cell? ⟨b2, o2 + m, none⟩ = some (.int .i64 y) := (hb2.cell (p := ⟨b2, o2 + m, none⟩) hbu).trans hc3
        have of := O2.out.frozenAt m
        have oc : ∃ v, w2.cell? ⟨u.heap.size, m, none⟩ = some v := by
          rw [O2.out.cellAt m (by omega), List.getElem?_eq_getElem (by rw [hsl]; omega)]
          exact ⟨_, rfl⟩
        obtain ⟨v0, oc⟩ := oc
        have oS := Lib.hid (O2.out.stored m (.int .i64 (y + 1))).1
        have HB2 := Lib.hid hb2
        clear hsl hc3 hw2 hb2
        go_wp2
        refine bodyPost_ret (v := .tuple #[.slice (some ⟨u.heap.size, 0, none⟩) n n, .bool true]) (by simp [results, Try.results84, go_sem]) rfl ?_
        rw [E1.out, E2.out]
        refine ⟨_, rfl, KD.out.trans ((Below.setCell HB2.out (Nat.le_refl _) _).mono KD.out.size), ?_⟩
        have h := oS.out
        rw [← HY.out, sq_set HPl.out (by omega)] at h
        rw [sq_length (by rw [HPl.out]; omega), HPl.out, ← HY.out]
        exact h.mono KD.out.size
      · have d1 : decide (y + 1 < z) = false := decide_eq_false hlt
        have HL2 : Hid (∀ j, m ≤ j → j < n → ps.getD j 0 + 1 = zs.getD j 0) := Lib.hid fun j h1 h2 => by
          rcases (by omega : j = m ∨ m + 1 ≤ j) with rfl | h
          · rw [HZ.out, HY.out]; omega
          · exact hL.out j h h2
        go_wp2
        go_quiet (fail)
        go_wp2
        go_roundw
        case rel => exact ⟨m, _, by first | rfl | go_num, by omega, by first | rfl | rw [World.drewN_drewN], HL2⟩
        case measure => simp [intOf] <;> omega
end Go.Proofs.Ytkdfidjoighknaa.Bx
