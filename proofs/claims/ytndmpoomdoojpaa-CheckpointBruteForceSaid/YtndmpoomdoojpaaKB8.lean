/- What can be reached without an advance: free. -/
import Derived.Test.YtndmpoomdoojpaaRows
import Derived.WalkKit
import Derived.ProofKit
import Derived.OpenShut
import Derived.WalkLawsBesides
import Derived.WalkSpells
import Derived.Outline
import Derived.Handy
import Derived.IntWalk
import Derived.Deep.QuietTactic
import Derived.BigQuiet
import Derived.Lib.Hide
import Derived.Maps.AppendAt
import Derived.Deep.Cut
import Derived.Test.YtndmpoomdoojpaaRk
import Derived.Test.YtndmpoomdoojpaaKB7
namespace Go.Proofs.Ytndmpoomdoojpaa.Ck.Bf
open Go.ChangeShapes Go.WideShapes Go.ChangeAt Go.RowKit Go.Proofs.Ytndmpoomdoojpaa.Ck
set_option linter.unusedVariables false


theorem info69 : (Try.prog.info? 69).map (fun i => (i.zero, i.size, i.bytes)) = some (some (.agg #[.int .i64 0, .int .i64 0, .int .i64 0]), 3, 24) := by kernel_rfl
theorem add_at (b o k : Nat) : (⟨b, o, none⟩ : Addr).add k = ⟨b, o + k, none⟩ := by
  unfold Addr.add
  split
  · simp [*]
  · rfl
theorem news3 (u : World) (x y z : Int) {b : Nat} (hb : u.heap.size = b) : ∀ (j : Nat) (v : Value), ([.int .i64 x, .int .i64 y, .int .i64 z] : List Value)[j]? = some v → (u.alloc (Obj.cells #[Value.int .i64 x, Value.int .i64 y, Value.int .i64 z] 69)).cell? ((⟨b, 0, none⟩ : Addr).add j) = some v := by
  subst hb
  intro j v hj
  rw [add_at, Nat.zero_add]
  rcases j with _ | _ | _ | j
  · cases hj; go_cell
  · cases hj; go_cell
  · cases hj; go_cell
  · cases hj
theorem news6 (u : World) (x y z x' y' z' : Int) {b : Nat} (hb : u.heap.size = b) : ∀ (j : Nat) (v : Value), ([.int .i64 x, .int .i64 y, .int .i64 z, .int .i64 x', .int .i64 y', .int .i64 z'] : List Value)[j]? = some v → (u.alloc (Obj.cells #[Value.int .i64 x, Value.int .i64 y, Value.int .i64 z, Value.int .i64 x', Value.int .i64 y', Value.int .i64 z'] 69)).cell? ((⟨b, 0, none⟩ : Addr).add j) = some v := by
  subst hb
  intro j v hj
  rw [add_at, Nat.zero_add]
  rcases j with _ | _ | _ | _ | _ | _ | j
  · cases hj; go_cell
  · cases hj; go_cell
  · cases hj; go_cell
  · cases hj; go_cell
  · cases hj; go_cell
  · cases hj; go_cell
  · cases hj
theorem one3 (x y z : Int) : ∀ u ∈ ([.int .i64 x, .int .i64 y, .int .i64 z] : List Value), u.oneCell' = true := by
  intro u hu
  simp only [List.mem_cons, List.not_mem_nil, or_false] at hu
  rcases hu with rfl | rfl | rfl <;> rfl
theorem one6 (x y z x' y' z' : Int) : ∀ u ∈ ([.int .i64 x, .int .i64 y, .int .i64 z, .int .i64 x', .int .i64 y', .int .i64 z'] : List Value), u.oneCell' = true := by
  intro u hu
  simp only [List.mem_cons, List.not_mem_nil, or_false] at hu
  rcases hu with rfl | rfl | rfl | rfl | rfl | rfl <;> rfl
theorem bit1 {s : Nat} (i : Nat) (hs : s < 4096) : bits .and .i64 ((s : Int) / 2 ^ i) 1 = if s.testBit i = true then 1 else 0 := by
  have e : (s : Int) / 2 ^ i = ((s / 2 ^ i : Nat) : Int) := by push_cast; rfl
  have h : bits .and .i64 ((s / 2 ^ i : Nat) : Int) ((1 : Nat) : Int) = ((s / 2 ^ i &&& 1 : Nat) : Int) := bAnd (Nat.lt_of_le_of_lt (Nat.div_le_self _ _) (Nat.lt_trans hs (by decide))) (by decide)
  rw [e]
  refine Eq.trans h ?_
  rw [and_one]
  split <;> rfl
theorem clrb {s i : Nat} (hs : s < 4096) (hi : i < 63) (hb : s.testBit i = true) : bits .andNot .i64 (s : Int) (IntKind.i64.wrap (2 ^ i)) = ((s ^^^ 2 ^ i : Nat) : Int) := by
  have e : (2 : Int) ^ i = ((2 ^ i : Nat) : Int) := by push_cast; rfl
  rw [e, wrapN (Nat.pow_lt_pow_right (by decide) hi)]
  exact bClr (Nat.lt_trans hs (by decide)) hi hb
theorem setb {s i : Nat} (hs : s < 4096) (hi : i < 63) : bits .or .i64 (s : Int) (IntKind.i64.wrap (2 ^ i)) = ((s ||| 2 ^ i : Nat) : Int) := by
  have e : (2 : Int) ^ i = ((2 ^ i : Nat) : Int) := by push_cast; rfl
  have h2 : 2 ^ i < 2 ^ 63 := Nat.pow_lt_pow_right (by decide) hi
  rw [e, wrapN h2]
  exact bOr (Nat.lt_trans hs (by decide)) h2
theorem own3_slice {w : World} {base n : Nat} {v : Value} {xs : List Value} (h : w.ownsRow base 69 3 v n xs) : ∃ q c, v = .slice q n c := by
  rcases h.2 with ⟨rfl, h0⟩ | ⟨g, cap, cur, rfl, -⟩
  · exact ⟨none, 0, by rw [h0]⟩
  · exact ⟨_, _, rfl⟩
/-- The list while free lengthens it. -/
def FI (base : Nat) (v : Value) (a l st : Nat) (w : World) (L1 : List Nd) (v1 : Value) (wr : World) : Prop :=
  wr.ownsRow base 69 3 v1 L1.length (fl3 L1) ∧ w.grownBy wr v.ownBlock ∧ Nw w.heap.size v v1 ∧ v1.ownBlock ≠ some w.heap.size ∧ w.heap.size < wr.heap.size ∧ wr.cell? ⟨w.heap.size, 0, none⟩ = some (.int .i64 (a : Int)) ∧ wr.cell? ⟨w.heap.size, 1, none⟩ = some (.int .i64 (l : Int)) ∧ wr.cell? ⟨w.heap.size, 2, none⟩ = some (.int .i64 (st : Int))
theorem FI.start {base : Nat} {v : Value} {a l st : Nat} {w : World} {L : List Nd} (h : w.ownsRow base 69 3 v L.length (fl3 L)) : FI base v a l st w L v (w.alloc (Obj.cells #[Value.int .i64 (a : Int), Value.int .i64 (l : Int), Value.int .i64 (st : Int)] 69)) :=
  ⟨h.alloc _, gx_alloc _ _ _, Nw.refl _ _, fun e => by have := (h.lt _ e).2; omega, by simp, by go_cell, by go_cell, by go_cell⟩
theorem FI.step {base : Nat} {v : Value} {a l st : Nat} {w : World} {L1 : List Nd} {v1 : Value} {wr wz w8 : World} {v8 : Value} {M : List Nd} {k : Nat} (h : FI base v a l st w L1 v1 wr) (hk : Below wr.heap.size wr wz) (hM : M.length = k) (hown : w8.ownsRow base 69 3 v8 (L1.length + k) (fl3 L1 ++ fl3 M)) (hg : wz.grownBy w8 v1.ownBlock) (ha : v8.ownBlock = v1.ownBlock ∨ v8.ownBlock = some wz.heap.size) : FI base v a l st w (L1 ++ M) v8 w8 := by
  obtain ⟨h1, h2, h3, h4, h5, h6, h7, h8⟩ := h
  have hz := hk.size
  have hs := hg.size
  have hc : ∀ {o : Nat} {x : Value}, wr.cell? ⟨w.heap.size, o, none⟩ = some x → w8.cell? ⟨w.heap.size, o, none⟩ = some x := fun {o x} hx => hg.cell ((World.cell?_of_block (hk.block _ h5)).trans hx) (fun e => h4 e.symm)
  have hn : Nw w.heap.size v v8 := h3.trans (Nw.of (B := w.heap.size) ha (by omega)) (Nat.le_refl _)
  refine ⟨by rw [fl3_app, List.length_append, hM]; exact hown, ?_, hn, ?_, by omega, hc h6, hc h7, hc h8⟩
  · exact h3.gx (gx_trans h2 (gx_below hk none) (.inr fun k e => by cases e)) hg
  · rcases ha with ha | ha
    · rw [ha]; exact h4
    · rw [ha]; intro e; have : wz.heap.size = w.heap.size := Option.some.inj e; omega
/-- What free answers. -/
def FRE (base : Nat) (L M : List Nd) (v : Value) (w : World) (e : Ending) (w' : World) : Prop := ∃ q c, e = .returned (.slice q (L.length + M.length) c) ∧ w'.ownsRow base 69 3 (.slice q (L.length + M.length) c) (L.length + M.length) (fl3 (L ++ M)) ∧ w.grownBy w' v.ownBlock ∧ Nw w.heap.size v (.slice q (L.length + M.length) c)
theorem FI.fre {base : Nat} {v : Value} {a l st : Nat} {w : World} {L M : List Nd} {q : Option Addr} {m c : Nat} {wr : World} (h : FI base v a l st w (L ++ M) (.slice q m c) wr) (hm : (L ++ M).length = m) : FRE base L M v w (.returned (.slice q m c)) wr := by
  obtain ⟨h1, h2, h3, -⟩ := h
  rw [List.length_append] at hm h1
  subst hm
  exact ⟨q, c, rfl, h1, h2, h3⟩

set_option maxRecDepth 100000 in
set_option maxHeartbeats 4000000 in
theorem free1 (N S a l st : Nat) (p : Option Addr) (n c : Nat) (L : List Nd) (base : Nat) (w : World) (hN : N ≤ 12) (hS : S ≤ 64) (wf : Wf N S (a, l, st)) (hl1 : 1 ≤ l) (hb : base ≤ w.heap.size) (hl : L.length = n) (hn : n ≤ 100000000) (hO : Hid (w.ownsRow base 69 3 (.slice p n c) n (fl3 L))) :
    Calls Try.prog 49 #[.agg #[.int .i64 (a : Int), .int .i64 (l : Int), .int .i64 (st : Int)], .slice p n c, .int .i64 (N : Int), .int .i64 (S : Int)] w (FRE base L (nb N S (a, l, st)) (.slice p n c) w) := by
  obtain ⟨hwa, hwl, hwb, hwc⟩ := wf
  simp only at hwa hwl hwb hwc
  have hst : st < 4096 := Nat.lt_of_lt_of_le (lt_of_bits fun j hj => (hwb j hj).2) (Nat.le_trans (Nat.pow_le_pow_right (by decide) hN) (by decide))
  have HWB := Lib.hid hwb
  have HWC := Lib.hid hwc
  have HJ : Hid (FI base (.slice p n c) a l st w L (.slice p n c) (w.alloc (Obj.cells #[Value.int .i64 (a : Int), Value.int .i64 (l : Int), Value.int .i64 (st : Int)] 69))) := Lib.hid (FI.start (by rw [hl]; exact hO.out))
  have HML := Lib.hid hl
  have la0 : (0 : Int) ≤ a := by omega
  have la1 : (a : Int) ≤ 12 := by omega
  have ll0 : (1 : Int) ≤ l := by omega
  have ll1 : (l : Int) ≤ 12 := by omega
  have ls0 : (0 : Int) ≤ st := by omega
  have ls1 : (st : Int) < 4096 := by omega
  clear hwb hwc hl
  go_enter Try.func49, Try.ntmps49
  obtain ⟨wr, hwr⟩ : ∃ x, w.alloc (Obj.cells #[Value.int .i64 (a : Int), Value.int .i64 (l : Int), Value.int .i64 (st : Int)] 69) = x := ⟨_, rfl⟩
  obtain ⟨j0, hinf, hz0, hz1, hz2⟩ := info_parts info69
  go_upto_region 1 with fail
  rw [hwr] at HJ
  clear hwr
  obtain ⟨VJ, -, -, -, ltJ, b0, b1, b2⟩ := HJ.out
  rw [HML.out] at VJ
  go_upto_region 2 with (at_builtin; refine wpList_append_own_at _ rfl _ _ 71 rfl base 69 j0 (.agg #[.int .i64 0, .int .i64 0, .int .i64 0]) 3 24 Try.underlying71 hinf hz0 hz1 hz2 rfl (by decide) _ _ _ rfl (VJ.alloc (Obj.cells #[Value.int .i64 0, Value.int .i64 (l : Int), Value.int .i64 (st : Int)] 69)) ⟨wr.heap.size, 0, none⟩ 1 1 [.int .i64 0, .int .i64 (l : Int), .int .i64 (st : Int)] rfl rfl (news3 wr 0 (l : Int) (st : Int) rfl) (one3 _ _ _) (by unfold maxLen; omega) (by omega) (by simp; omega) ?_; intro v8 w8 hown8 hgrow _ hat; have FJ8 := Lib.hid (FI.step (M := [((0, l, st) : Nd)]) HJ.out ((Below.refl _ _).alloc (Nat.le_refl _) _) rfl (by rw [HML.out]; exact hown8) hgrow hat); obtain ⟨qn, cn, rfl⟩ := own3_slice hown8; obtain ⟨-, -, -, -, lt8, b0, b1, b2⟩ := FJ8.out; clear hown8 hgrow hat)
  have HML2 : Hid ((L ++ [((0, l, st) : Nd)]).length = n + 1) := Lib.hid (by rw [List.length_append, HML.out]; rfl)
  clear HJ HML VJ
  by_cases hal : a + 1 = l
  · have g1 : ((a : Int) == (l : Int) - 1) = true := by rw [beq_iff_eq]; omega
    have el : ((l - 1 : Nat) : Int) = (l : Int) - 1 := by omega
    obtain ⟨VJ, -, -, -, ltJ, -⟩ := FJ8.out
    rw [HML2.out] at VJ
    have HJ := FJ8
    have HML := HML2
    clear FJ8 HML2
    generalize w8 = wr at *
    generalize qn = qv at *
    generalize cn = cv at *
    go_upto_region 4 with (at_builtin; refine wpList_append_own_at _ rfl _ _ 71 rfl base 69 j0 (.agg #[.int .i64 0, .int .i64 0, .int .i64 0]) 3 24 Try.underlying71 hinf hz0 hz1 hz2 rfl (by decide) _ _ _ rfl (VJ.alloc (Obj.cells #[Value.int .i64 (a : Int), Value.int .i64 ((l : Int) - 1), Value.int .i64 (st : Int)] 69)) ⟨wr.heap.size, 0, none⟩ 1 1 [.int .i64 (a : Int), .int .i64 ((l : Int) - 1), .int .i64 (st : Int)] rfl rfl (news3 wr (a : Int) ((l : Int) - 1) (st : Int) rfl) (one3 _ _ _) (by unfold maxLen; omega) (by omega) (by simp; omega) ?_; intro v8 w8 hown8 hgrow _ hat; have FJ8 := Lib.hid (FI.step (M := [((a, l - 1, st) : Nd)]) HJ.out ((Below.refl _ _).alloc (Nat.le_refl _) _) rfl (by rw [HML.out]; have e8 : fl3 [((a, l - 1, st) : Nd)] = [.int .i64 (a : Int), .int .i64 ((l : Int) - 1), .int .i64 (st : Int)] := (by unfold fl3; simp only [List.flatMap_cons, List.flatMap_nil, List.append_nil, el]); rw [e8]; exact hown8) hgrow hat); obtain ⟨qn, cn, rfl⟩ := own3_slice hown8; obtain ⟨-, -, -, -, lt8, b0, b1, b2⟩ := FJ8.out; clear hown8 hgrow hat)
    have HML2 : Hid ((L ++ [((0, l, st) : Nd)] ++ [((a, l - 1, st) : Nd)]).length = n + 1 + 1) := Lib.hid (by rw [List.length_append, HML.out]; rfl)
    clear HJ HML VJ ltJ
    obtain ⟨VJ, -, -, -, ltJ, -⟩ := FJ8.out
    have HJ := FJ8
    have HML := HML2
    clear FJ8 HML2
    generalize w8 = wr at *
    generalize qn = qv at *
    generalize cn = cv at *
    go_upto_region 6 with fail
    clear ltJ b0 b1 b2
    have HC0 : Hid ((HS st 1).length = 0) := Lib.hid (by rw [HS_succ]; simp [HS])
    have HNB : Hid (FI base (.slice p n c) a l st w ((L ++ [((0, l, st) : Nd)] ++ [((a, l - 1, st) : Nd)]) ++ nbL a l st 1) (.slice qv (n + 1 + 1) cv) wr) := by
      have e : nbL a l st 1 = [] := by unfold nbL nbL; rw [if_neg (by omega)]; rfl
      rw [e, List.append_nil]
      exact HJ
    have HML1 : Hid (((L ++ [((0, l, st) : Nd)] ++ [((a, l - 1, st) : Nd)]) ++ nbL a l st 1).length = (n + 1 + 1)) := by
      have e : nbL a l st 1 = [] := by unfold nbL nbL; rw [if_neg (by omega)]; rfl
      rw [e, List.append_nil]
      exact HML
    clear HJ HML VJ
    go_loopw [1, 9, 10] (fun lv kv iv wr => ∃ (i m k d : Nat) (q : Option Addr), lv = .slice q m d ∧ kv = .int .i64 (k : Int) ∧ iv = .int .i64 (i : Int) ∧ 1 ≤ i ∧ i ≤ N ∧ m ≤ n + 2 + 2 * i ∧ k ≤ i ∧ Hid ((HS st i).length = k) ∧ Hid (((L ++ [((0, l, st) : Nd)] ++ [((a, l - 1, st) : Nd)]) ++ nbL a l st i).length = m) ∧ Hid (FI base (.slice p n c) a l st w ((L ++ [((0, l, st) : Nd)] ++ [((a, l - 1, st) : Nd)]) ++ nbL a l st i) (.slice q m d) wr)) (fun _ _ iv _ => N - (intOf iv).toNat)
    case atStart => exact ⟨1, (n + 1 + 1), 0, cv, qv, rfl, rfl, rfl, Nat.le_refl _, by omega, by omega, by omega, HC0, HML1, HNB⟩
    case round =>
      clear HC0 HML1 HNB
      obtain ⟨i, m, k, d, q, rfl, rfl, rfl, hi1, hiN, hmn, hki, HCK, HML, HJ⟩ := hrel
      obtain ⟨VJ, -, -, -, ltJ, b0, b1, b2⟩ := HJ.out
      rw [HML.out] at VJ
      have HS1 := HS_succ st i
      have HB1 : nbL a l st (i + 1) = nbL a l st i ++ if 1 ≤ i ∧ st.testBit i = true then [(i, l, st), (a, l, st ^^^ 2 ^ i)] else [] := rfl
      by_cases hin : i < N
      · have i2 : (i : Int) < N := by omega
        have i0 : (0 : Int) ≤ i := by omega
        by_cases hbit : st.testBit i = true
        · have hb1 : (bits .and .i64 ((st : Int) / 2 ^ i) 1 == 1) = true := by rw [bit1 i hst, if_pos hbit]; rfl
          rw [if_pos ⟨hi1, hbit⟩] at HS1 HB1
          go_upto_region 10 with fail
          
          refine Rk.begin (S := fun wS => wS.cell? ⟨w.heap.size, 0, none⟩ = some (.int .i64 (a : Int)) ∧ wS.cell? ⟨w.heap.size, 1, none⟩ = some (.int .i64 (l : Int)) ∧ wS.cell? ⟨w.heap.size, 2, none⟩ = some (.int .i64 (st : Int)) ∧ Below wr.heap.size wr wS) 17 (by kernel_rfl) ⟨b0, b1, b2, Below.drew (Below.refl _ _)⟩ (fun hHeld => ?_)
          refine Rk.takeP (i := 0) (v := ?_) rfl (by kernel_rfl) (by kernel_rfl) (by kernel_rfl) (by kernel_rfl) (fun _ _ _ h => h) (Or.inl ⟨by kernel_rfl, ?_⟩) (by assumption) ?_
          rotate_left
          · ((intro w hSw; go_simp) <;> with_reducible rfl)
          try simp only [Act.put, List.setIfInBounds_toArray, List.set_cons_zero, List.set_cons_succ]
          refine Rk.takeP (i := 1) (v := ?_) rfl (by kernel_rfl) (by kernel_rfl) (by kernel_rfl) (by kernel_rfl) (fun _ _ _ h => h) (Or.inl ⟨by kernel_rfl, ?_⟩) (by assumption) ?_
          rotate_left
          · ((intro w hSw; go_simp) <;> with_reducible rfl)
          try simp only [Act.put, List.setIfInBounds_toArray, List.set_cons_zero, List.set_cons_succ]
          refine Rk.takeP (i := 2) (v := ?_) rfl (by kernel_rfl) (by kernel_rfl) (by kernel_rfl) (by kernel_rfl) (fun _ _ _ h => h) (Or.inl ⟨by kernel_rfl, ?_⟩) (by assumption) ?_
          rotate_left
          · ((intro w hSw; go_simp) <;> with_reducible rfl)
          try simp only [Act.put, List.setIfInBounds_toArray, List.set_cons_zero, List.set_cons_succ]
          refine Rk.take [6, 17] (i := 3) (v := ?_) rfl (by kernel_rfl) (by kernel_rfl) (by kernel_rfl) (by kernel_rfl) (by kernel_rfl) (fun _ _ _ h => h) (Or.inl ⟨by kernel_rfl, ?_⟩) (by assumption) ?_
          rotate_left
          · ((intro w hSw; (try dsimp only at hSw); go_simp) <;> with_reducible rfl)
          try simp only [Act.put, List.setIfInBounds_toArray, List.set_cons_zero, List.set_cons_succ]
          refine Rk.takeP (i := 4) (v := ?_) rfl (by kernel_rfl) (by kernel_rfl) (by kernel_rfl) (by kernel_rfl) (fun _ _ _ h => h) (Or.inl ⟨by kernel_rfl, ?_⟩) (by assumption) ?_
          rotate_left
          · ((intro w hSw; go_simp) <;> with_reducible rfl)
          try simp only [Act.put, List.setIfInBounds_toArray, List.set_cons_zero, List.set_cons_succ]
          refine Rk.take [6, 17] (i := 5) (v := ?_) rfl (by kernel_rfl) (by kernel_rfl) (by kernel_rfl) (by kernel_rfl) (by kernel_rfl) (fun _ _ _ h => h) (Or.inl ⟨by kernel_rfl, ?_⟩) (by assumption) ?_
          rotate_left
          · ((intro w hSw; (try dsimp only at hSw); go_simp) <;> with_reducible rfl)
          try simp only [Act.put, List.setIfInBounds_toArray, List.set_cons_zero, List.set_cons_succ]
          refine Rk.takeP (i := 6) (v := ?_) rfl (by kernel_rfl) (by kernel_rfl) (by kernel_rfl) (by kernel_rfl) (fun _ _ _ h => h) (Or.inl ⟨by kernel_rfl, ?_⟩) (by assumption) ?_
          rotate_left
          · ((intro w hSw; go_simp) <;> with_reducible rfl)
          try simp only [Act.put, List.setIfInBounds_toArray, List.set_cons_zero, List.set_cons_succ]
          refine Rk.takeP (i := 7) (v := ?_) rfl (by kernel_rfl) (by kernel_rfl) (by kernel_rfl) (by kernel_rfl) (fun _ _ _ h => h) (Or.inl ⟨by kernel_rfl, ?_⟩) (by assumption) ?_
          rotate_left
          · ((intro w hSw; go_simp) <;> with_reducible rfl)
          try simp only [Act.put, List.setIfInBounds_toArray, List.set_cons_zero, List.set_cons_succ]
          refine Rk.take [16, 17] (i := 8) (v := ?_) rfl (by kernel_rfl) (by kernel_rfl) (by kernel_rfl) (by kernel_rfl) (by kernel_rfl) (fun _ _ _ h => h) (Or.inl ⟨by kernel_rfl, ?_⟩) (by assumption) ?_
          rotate_left
          · ((intro w hSw; (try dsimp only at hSw); go_simp) <;> with_reducible rfl)
          try simp only [Act.put, List.setIfInBounds_toArray, List.set_cons_zero, List.set_cons_succ]
          refine Rk.takeP (i := 9) (v := ?_) rfl (by kernel_rfl) (by kernel_rfl) (by kernel_rfl) (by kernel_rfl) (fun _ _ _ h => h) (Or.inl ⟨by kernel_rfl, ?_⟩) (by assumption) ?_
          rotate_left
          · ((intro w hSw; go_simp) <;> with_reducible rfl)
          try simp only [Act.put, List.setIfInBounds_toArray, List.set_cons_zero, List.set_cons_succ]
          refine Rk.take [16, 17] (i := 10) (v := ?_) rfl (by kernel_rfl) (by kernel_rfl) (by kernel_rfl) (by kernel_rfl) (by kernel_rfl) (fun _ _ _ h => h) (Or.inl ⟨by kernel_rfl, ?_⟩) (by assumption) ?_
          rotate_left
          · ((intro w hSw; (try dsimp only at hSw); go_simp) <;> with_reducible rfl)
          try simp only [Act.put, List.setIfInBounds_toArray, List.set_cons_zero, List.set_cons_succ]
          refine Rk.takeP (i := 11) (v := ?_) rfl (by kernel_rfl) (by kernel_rfl) (by kernel_rfl) (by kernel_rfl) (fun _ _ _ h => h) (Or.inl ⟨by kernel_rfl, ?_⟩) (by assumption) ?_
          rotate_left
          · ((intro w hSw; go_simp) <;> with_reducible rfl)
          try simp only [Act.put, List.setIfInBounds_toArray, List.set_cons_zero, List.set_cons_succ]
          refine Rk.take [15, 16, 17] (i := 12) (v := ?_) rfl (by kernel_rfl) (by kernel_rfl) (by kernel_rfl) (by kernel_rfl) (by kernel_rfl) (fun _ _ _ h => h) (Or.inl ⟨by kernel_rfl, ?_⟩) (by assumption) ?_
          rotate_left
          · ((intro w hSw; (try dsimp only at hSw); go_simp) <;> with_reducible rfl)
          try simp only [Act.put, List.setIfInBounds_toArray, List.set_cons_zero, List.set_cons_succ]
          refine Rk.takeP (i := 13) (v := ?_) rfl (by kernel_rfl) (by kernel_rfl) (by kernel_rfl) (by kernel_rfl) (fun _ _ _ h => h) (Or.inl ⟨by kernel_rfl, ?_⟩) (by assumption) ?_
          rotate_left
          · ((intro w hSw; go_simp) <;> with_reducible rfl)
          try simp only [Act.put, List.setIfInBounds_toArray, List.set_cons_zero, List.set_cons_succ]
          refine Rk.takeP (i := 14) (v := ?_) rfl (by kernel_rfl) (by kernel_rfl) (by kernel_rfl) (by kernel_rfl) (fun _ _ _ h => h) (Or.inl ⟨by kernel_rfl, ?_⟩) (by assumption) ?_
          rotate_left
          · ((intro w hSw; go_simp) <;> with_reducible rfl)
          try simp only [Act.put, List.setIfInBounds_toArray, List.set_cons_zero, List.set_cons_succ]
          refine Rk.takeP (i := 15) (v := ?_) rfl (by kernel_rfl) (by kernel_rfl) (by kernel_rfl) (by kernel_rfl) (fun _ _ _ h => h) (Or.inl ⟨by kernel_rfl, ?_⟩) (by assumption) ?_
          rotate_left
          · ((intro w hSw; go_simp) <;> with_reducible rfl)
          try simp only [Act.put, List.setIfInBounds_toArray, List.set_cons_zero, List.set_cons_succ]
          refine Rk.takeP (i := 16) (v := ?_) rfl (by kernel_rfl) (by kernel_rfl) (by kernel_rfl) (by kernel_rfl) (fun _ _ _ h => h) (Or.inl ⟨by kernel_rfl, ?_⟩) (by assumption) ?_
          rotate_left
          · ((intro w hSw; go_simp) <;> with_reducible rfl)
          try simp only [Act.put, List.setIfInBounds_toArray, List.set_cons_zero, List.set_cons_succ]
          refine Rk.tail [17, 18, 19] [_, _, _] (by kernel_rfl) (by kernel_rfl) rfl (by decide) ?_
          rw [clrb hst (by omega) hbit]
          go_wp2_with (at_builtin; refine wpList_append_own_at _ rfl _ _ 71 rfl base 69 j0 (.agg #[.int .i64 0, .int .i64 0, .int .i64 0]) 3 24 Try.underlying71 hinf hz0 hz1 hz2 rfl (by decide) _ _ _ rfl ((VJ.alloc (Obj.cells #[Value.int .i64 (i : Int), Value.int .i64 (l : Int), Value.int .i64 (st : Int), Value.int .i64 (a : Int), Value.int .i64 (l : Int), Value.int .i64 ((st ^^^ 2 ^ i : Nat) : Int)] 69)).drew) ⟨wr.heap.size, 0, none⟩ 2 2 [.int .i64 (i : Int), .int .i64 (l : Int), .int .i64 (st : Int), .int .i64 (a : Int), .int .i64 (l : Int), .int .i64 ((st ^^^ 2 ^ i : Nat) : Int)] rfl rfl (news6 wr (i : Int) (l : Int) (st : Int) (a : Int) (l : Int) ((st ^^^ 2 ^ i : Nat) : Int) rfl) (one6 _ _ _ _ _ _) (by unfold maxLen; omega) (by omega) (by simp; omega) ?_; intro v8 w8 hown8 hgrow _ hat; have FJ8 := Lib.hid (FI.step (M := [((i, l, st) : Nd), (a, l, st ^^^ 2 ^ i)]) HJ.out (((Below.refl _ _).alloc (Nat.le_refl _) (Obj.cells #[Value.int .i64 (i : Int), Value.int .i64 (l : Int), Value.int .i64 (st : Int), Value.int .i64 (a : Int), Value.int .i64 (l : Int), Value.int .i64 ((st ^^^ 2 ^ i : Nat) : Int)] 69)).drew) rfl (by rw [HML.out]; exact hown8) hgrow hat); obtain ⟨qn, cn, rfl⟩ := own3_slice hown8; obtain ⟨-, -, -, -, lt8, b0, b1, b2⟩ := FJ8.out; clear hown8 hgrow hat)
          go_roundw
          case rel => exact ⟨i + 1, m + 2, k + 1, cn, qn, rfl, by simp, by simp, by omega, by omega, by omega, by omega, Lib.hid (by rw [HS1, List.length_append, HCK.out]; rfl), Lib.hid (by rw [HB1, ← List.append_assoc, List.length_append, HML.out]; rfl), Lib.hid (by rw [HB1, ← List.append_assoc]; exact FJ8.out)⟩
          case measure => simp [intOf]; omega
        · have hb1 : (bits .and .i64 ((st : Int) / 2 ^ i) 1 == 1) = false := by rw [bit1 i hst, if_neg hbit]; rfl
          rw [if_neg (fun h => hbit h.2), List.append_nil] at HS1 HB1
          go_wp2_with fail
          go_roundw
          case rel => exact ⟨i + 1, m, k, d, q, rfl, rfl, by simp, by omega, by omega, by omega, by omega, Lib.hid (by rw [HS1]; exact HCK.out), Lib.hid (by rw [HB1]; exact HML.out), Lib.hid (by rw [HB1]; exact HJ.out)⟩
          case measure => simp [intOf]; omega
      · obtain rfl : N = i := by omega
        have gN : decide ((N : Int) < N) = false := by simp
        have hke : (HS st N).length = k := HCK.out
        by_cases c1 : k < S
        · have d1 : decide ((k : Int) < S) = true := by simp; omega
          have d1' : decide (k < S) = true := by simp; omega
          by_cases c2 : 0 < a
          · have d2 : decide ((0 : Int) < a) = true := by simp; omega
            have d2' : decide (0 < a) = true := by simp; omega
            by_cases c3 : a < N
            · have d3 : decide ((a : Int) < N) = true := by simp; omega
              have d3' : decide (a < N) = true := by simp; omega
              have en : L ++ nb N S (a, l, st) = (L ++ [((0, l, st) : Nd)] ++ [((a, l - 1, st) : Nd)]) ++ nbL a l st N ++ [(a, l, st ||| 2 ^ a)] := by
                unfold nb
                simp only
                rw [if_pos hal, if_pos ⟨by rw [hke]; exact c1, c2, c3⟩]
                simp [List.append_assoc]
              go_upto_region 12 with fail
              refine Rk.begin (S := fun wS => wS.cell? ⟨w.heap.size, 0, none⟩ = some (.int .i64 (a : Int)) ∧ wS.cell? ⟨w.heap.size, 1, none⟩ = some (.int .i64 (l : Int)) ∧ wS.cell? ⟨w.heap.size, 2, none⟩ = some (.int .i64 (st : Int)) ∧ Below wr.heap.size wr wS) 12 (by kernel_rfl) ⟨b0, b1, b2, Below.drew (Below.refl _ _)⟩ (fun hHeld => ?_)
              refine Rk.takeP (i := 0) (v := ?_) rfl (by kernel_rfl) (by kernel_rfl) (by kernel_rfl) (by kernel_rfl) (fun _ _ _ h => h) (Or.inl ⟨by kernel_rfl, ?_⟩) (by assumption) ?_
              rotate_left
              · ((intro w hSw; go_simp) <;> with_reducible rfl)
              try simp only [Act.put, List.setIfInBounds_toArray, List.set_cons_zero, List.set_cons_succ]
              refine Rk.takeP (i := 1) (v := ?_) rfl (by kernel_rfl) (by kernel_rfl) (by kernel_rfl) (by kernel_rfl) (fun _ _ _ h => h) (Or.inl ⟨by kernel_rfl, ?_⟩) (by assumption) ?_
              rotate_left
              · ((intro w hSw; go_simp) <;> with_reducible rfl)
              try simp only [Act.put, List.setIfInBounds_toArray, List.set_cons_zero, List.set_cons_succ]
              refine Rk.take [11, 12] (i := 2) (v := ?_) rfl (by kernel_rfl) (by kernel_rfl) (by kernel_rfl) (by kernel_rfl) (by kernel_rfl) (fun _ _ _ h => h) (Or.inl ⟨by kernel_rfl, ?_⟩) (by assumption) ?_
              rotate_left
              · ((intro w hSw; (try dsimp only at hSw); go_simp) <;> with_reducible rfl)
              try simp only [Act.put, List.setIfInBounds_toArray, List.set_cons_zero, List.set_cons_succ]
              refine Rk.takeP (i := 3) (v := ?_) rfl (by kernel_rfl) (by kernel_rfl) (by kernel_rfl) (by kernel_rfl) (fun _ _ _ h => h) (Or.inl ⟨by kernel_rfl, ?_⟩) (by assumption) ?_
              rotate_left
              · ((intro w hSw; go_simp) <;> with_reducible rfl)
              try simp only [Act.put, List.setIfInBounds_toArray, List.set_cons_zero, List.set_cons_succ]
              refine Rk.take [11, 12] (i := 4) (v := ?_) rfl (by kernel_rfl) (by kernel_rfl) (by kernel_rfl) (by kernel_rfl) (by kernel_rfl) (fun _ _ _ h => h) (Or.inl ⟨by kernel_rfl, ?_⟩) (by assumption) ?_
              rotate_left
              · ((intro w hSw; (try dsimp only at hSw); go_simp) <;> with_reducible rfl)
              try simp only [Act.put, List.setIfInBounds_toArray, List.set_cons_zero, List.set_cons_succ]
              refine Rk.takeP (i := 5) (v := ?_) rfl (by kernel_rfl) (by kernel_rfl) (by kernel_rfl) (by kernel_rfl) (fun _ _ _ h => h) (Or.inl ⟨by kernel_rfl, ?_⟩) (by assumption) ?_
              rotate_left
              · ((intro w hSw; go_simp) <;> with_reducible rfl)
              try simp only [Act.put, List.setIfInBounds_toArray, List.set_cons_zero, List.set_cons_succ]
              refine Rk.take [10, 11, 12] (i := 6) (v := ?_) rfl (by kernel_rfl) (by kernel_rfl) (by kernel_rfl) (by kernel_rfl) (by kernel_rfl) (fun _ _ _ h => h) (Or.inl ⟨by kernel_rfl, ?_⟩) (by assumption) ?_
              rotate_left
              · ((intro w hSw; (try dsimp only at hSw); go_simp) <;> with_reducible rfl)
              try simp only [Act.put, List.setIfInBounds_toArray, List.set_cons_zero, List.set_cons_succ]
              refine Rk.takeP (i := 7) (v := ?_) rfl (by kernel_rfl) (by kernel_rfl) (by kernel_rfl) (by kernel_rfl) (fun _ _ _ h => h) (Or.inl ⟨by kernel_rfl, ?_⟩) (by assumption) ?_
              rotate_left
              · ((intro w hSw; go_simp) <;> with_reducible rfl)
              try simp only [Act.put, List.setIfInBounds_toArray, List.set_cons_zero, List.set_cons_succ]
              refine Rk.take [9, 10, 11, 12] (i := 8) (v := ?_) rfl (by kernel_rfl) (by kernel_rfl) (by kernel_rfl) (by kernel_rfl) (by kernel_rfl) (fun _ _ _ h => h) (Or.inl ⟨by kernel_rfl, ?_⟩) (by assumption) ?_
              rotate_left
              · ((intro w hSw; (try dsimp only at hSw); go_simp) <;> with_reducible rfl)
              try simp only [Act.put, List.setIfInBounds_toArray, List.set_cons_zero, List.set_cons_succ]
              refine Rk.takeP (i := 9) (v := ?_) rfl (by kernel_rfl) (by kernel_rfl) (by kernel_rfl) (by kernel_rfl) (fun _ _ _ h => h) (Or.inl ⟨by kernel_rfl, ?_⟩) (by assumption) ?_
              rotate_left
              · ((intro w hSw; go_simp) <;> with_reducible rfl)
              try simp only [Act.put, List.setIfInBounds_toArray, List.set_cons_zero, List.set_cons_succ]
              refine Rk.takeP (i := 10) (v := ?_) rfl (by kernel_rfl) (by kernel_rfl) (by kernel_rfl) (by kernel_rfl) (fun _ _ _ h => h) (Or.inl ⟨by kernel_rfl, ?_⟩) (by assumption) ?_
              rotate_left
              · ((intro w hSw; go_simp) <;> with_reducible rfl)
              try simp only [Act.put, List.setIfInBounds_toArray, List.set_cons_zero, List.set_cons_succ]
              refine Rk.takeP (i := 11) (v := ?_) rfl (by kernel_rfl) (by kernel_rfl) (by kernel_rfl) (by kernel_rfl) (fun _ _ _ h => h) (Or.inl ⟨by kernel_rfl, ?_⟩) (by assumption) ?_
              rotate_left
              · ((intro w hSw; go_simp) <;> with_reducible rfl)
              try simp only [Act.put, List.setIfInBounds_toArray, List.set_cons_zero, List.set_cons_succ]
              refine Rk.tail [12, 13, 14] [_, _, _] (by kernel_rfl) (by kernel_rfl) rfl (by decide) ?_
              rw [setb hst (by omega)]
              go_wp2_with (at_builtin; refine wpList_append_own_at _ rfl _ _ 71 rfl base 69 j0 (.agg #[.int .i64 0, .int .i64 0, .int .i64 0]) 3 24 Try.underlying71 hinf hz0 hz1 hz2 rfl (by decide) _ _ _ rfl ((VJ.alloc (Obj.cells #[Value.int .i64 (a : Int), Value.int .i64 (l : Int), Value.int .i64 ((st ||| 2 ^ a : Nat) : Int)] 69)).drew) ⟨wr.heap.size, 0, none⟩ 1 1 [.int .i64 (a : Int), .int .i64 (l : Int), .int .i64 ((st ||| 2 ^ a : Nat) : Int)] rfl rfl (news3 wr (a : Int) (l : Int) ((st ||| 2 ^ a : Nat) : Int) rfl) (one3 _ _ _) (by unfold maxLen; omega) (by omega) (by simp; omega) ?_; intro v8 w8 hown8 hgrow _ hat; have FJ8 := Lib.hid (FI.step (M := [((a, l, st ||| 2 ^ a) : Nd)]) HJ.out (((Below.refl _ _).alloc (Nat.le_refl _) (Obj.cells #[Value.int .i64 (a : Int), Value.int .i64 (l : Int), Value.int .i64 ((st ||| 2 ^ a : Nat) : Int)] 69)).drew) rfl (by rw [HML.out]; exact hown8) hgrow hat); obtain ⟨qn, cn, rfl⟩ := own3_slice hown8; obtain ⟨-, -, -, -, lt8, b0, b1, b2⟩ := FJ8.out; clear hown8 hgrow hat)
              go_ret
              have FZ : FI base (.slice p n c) a l st w (L ++ nb N S (a, l, st)) (.slice qn (m + 1) cn) w8 := by rw [en]; exact FJ8.out
              exact FZ.fre (by rw [en, List.length_append, HML.out]; rfl)
            · have d3 : decide ((a : Int) < N) = false := by simp; omega
              have d3' : decide (a < N) = false := by simp; omega
              have en : L ++ nb N S (a, l, st) = (L ++ [((0, l, st) : Nd)] ++ [((a, l - 1, st) : Nd)]) ++ nbL a l st N := by
                unfold nb
                simp only
                rw [if_pos hal, if_neg (fun h => c3 h.2.2)]
                simp [List.append_assoc]
              clear c3
              go_upto_region 13 with fail
              go_wp2_with fail
              go_ret
              have FZ : FI base (.slice p n c) a l st w (L ++ nb N S (a, l, st)) (.slice q m d) wr := by rw [en]; exact HJ.out
              exact FZ.fre (by rw [en, HML.out])
          · have d2 : decide ((0 : Int) < a) = false := by simp; omega
            have d2' : decide (0 < a) = false := by simp; omega
            have en : L ++ nb N S (a, l, st) = (L ++ [((0, l, st) : Nd)] ++ [((a, l - 1, st) : Nd)]) ++ nbL a l st N := by
              unfold nb
              simp only
              rw [if_pos hal, if_neg (fun h => c2 h.2.1)]
              simp [List.append_assoc]
            go_upto_region 13 with fail
            go_wp2_with fail
            go_ret
            have FZ : FI base (.slice p n c) a l st w (L ++ nb N S (a, l, st)) (.slice q m d) wr := by rw [en]; exact HJ.out
            exact FZ.fre (by rw [en, HML.out])
        · have d1 : decide ((k : Int) < S) = false := by simp; omega
          have d1' : decide (k < S) = false := by simp; omega
          have en : L ++ nb N S (a, l, st) = (L ++ [((0, l, st) : Nd)] ++ [((a, l - 1, st) : Nd)]) ++ nbL a l st N := by
            unfold nb
            simp only
            rw [if_pos hal, if_neg (fun h => c1 (by rw [← hke]; exact h.1))]
            simp [List.append_assoc]
          go_upto_region 13 with fail
          go_wp2_with fail
          go_ret
          have FZ : FI base (.slice p n c) a l st w (L ++ nb N S (a, l, st)) (.slice q m d) wr := by rw [en]; exact HJ.out
          exact FZ.fre (by rw [en, HML.out])
  · have g1 : ((a : Int) == (l : Int) - 1) = false := by rw [beq_eq_false_iff_ne]; omega
    obtain ⟨VJ, -, -, -, ltJ, -⟩ := FJ8.out
    have HJ := FJ8
    have HML := HML2
    clear FJ8 HML2
    generalize w8 = wr at *
    generalize qn = qv at *
    generalize cn = cv at *
    go_upto_region 6 with fail
    clear ltJ b0 b1 b2
    have HC0 : Hid ((HS st 1).length = 0) := Lib.hid (by rw [HS_succ]; simp [HS])
    have HNB : Hid (FI base (.slice p n c) a l st w ((L ++ [((0, l, st) : Nd)]) ++ nbL a l st 1) (.slice qv (n + 1) cv) wr) := by
      have e : nbL a l st 1 = [] := by unfold nbL nbL; rw [if_neg (by omega)]; rfl
      rw [e, List.append_nil]
      exact HJ
    have HML1 : Hid (((L ++ [((0, l, st) : Nd)]) ++ nbL a l st 1).length = (n + 1)) := by
      have e : nbL a l st 1 = [] := by unfold nbL nbL; rw [if_neg (by omega)]; rfl
      rw [e, List.append_nil]
      exact HML
    clear HJ HML VJ
    go_loopw [1, 9, 10] (fun lv kv iv wr => ∃ (i m k d : Nat) (q : Option Addr), lv = .slice q m d ∧ kv = .int .i64 (k : Int) ∧ iv = .int .i64 (i : Int) ∧ 1 ≤ i ∧ i ≤ N ∧ m ≤ n + 2 + 2 * i ∧ k ≤ i ∧ Hid ((HS st i).length = k) ∧ Hid (((L ++ [((0, l, st) : Nd)]) ++ nbL a l st i).length = m) ∧ Hid (FI base (.slice p n c) a l st w ((L ++ [((0, l, st) : Nd)]) ++ nbL a l st i) (.slice q m d) wr)) (fun _ _ iv _ => N - (intOf iv).toNat)
    case atStart => exact ⟨1, (n + 1), 0, cv, qv, rfl, rfl, rfl, Nat.le_refl _, by omega, by omega, by omega, HC0, HML1, HNB⟩
    case round =>
      clear HC0 HML1 HNB
      obtain ⟨i, m, k, d, q, rfl, rfl, rfl, hi1, hiN, hmn, hki, HCK, HML, HJ⟩ := hrel
      obtain ⟨VJ, -, -, -, ltJ, b0, b1, b2⟩ := HJ.out
      rw [HML.out] at VJ
      have HS1 := HS_succ st i
      have HB1 : nbL a l st (i + 1) = nbL a l st i ++ if 1 ≤ i ∧ st.testBit i = true then [(i, l, st), (a, l, st ^^^ 2 ^ i)] else [] := rfl
      by_cases hin : i < N
      · have i2 : (i : Int) < N := by omega
        have i0 : (0 : Int) ≤ i := by omega
        by_cases hbit : st.testBit i = true
        · have hb1 : (bits .and .i64 ((st : Int) / 2 ^ i) 1 == 1) = true := by rw [bit1 i hst, if_pos hbit]; rfl
          rw [if_pos ⟨hi1, hbit⟩] at HS1 HB1
          go_upto_region 10 with fail
          
          refine Rk.begin (S := fun wS => wS.cell? ⟨w.heap.size, 0, none⟩ = some (.int .i64 (a : Int)) ∧ wS.cell? ⟨w.heap.size, 1, none⟩ = some (.int .i64 (l : Int)) ∧ wS.cell? ⟨w.heap.size, 2, none⟩ = some (.int .i64 (st : Int)) ∧ Below wr.heap.size wr wS) 17 (by kernel_rfl) ⟨b0, b1, b2, Below.drew (Below.refl _ _)⟩ (fun hHeld => ?_)
          refine Rk.takeP (i := 0) (v := ?_) rfl (by kernel_rfl) (by kernel_rfl) (by kernel_rfl) (by kernel_rfl) (fun _ _ _ h => h) (Or.inl ⟨by kernel_rfl, ?_⟩) (by assumption) ?_
          rotate_left
          · ((intro w hSw; go_simp) <;> with_reducible rfl)
          try simp only [Act.put, List.setIfInBounds_toArray, List.set_cons_zero, List.set_cons_succ]
          refine Rk.takeP (i := 1) (v := ?_) rfl (by kernel_rfl) (by kernel_rfl) (by kernel_rfl) (by kernel_rfl) (fun _ _ _ h => h) (Or.inl ⟨by kernel_rfl, ?_⟩) (by assumption) ?_
          rotate_left
          · ((intro w hSw; go_simp) <;> with_reducible rfl)
          try simp only [Act.put, List.setIfInBounds_toArray, List.set_cons_zero, List.set_cons_succ]
          refine Rk.takeP (i := 2) (v := ?_) rfl (by kernel_rfl) (by kernel_rfl) (by kernel_rfl) (by kernel_rfl) (fun _ _ _ h => h) (Or.inl ⟨by kernel_rfl, ?_⟩) (by assumption) ?_
          rotate_left
          · ((intro w hSw; go_simp) <;> with_reducible rfl)
          try simp only [Act.put, List.setIfInBounds_toArray, List.set_cons_zero, List.set_cons_succ]
          refine Rk.take [6, 17] (i := 3) (v := ?_) rfl (by kernel_rfl) (by kernel_rfl) (by kernel_rfl) (by kernel_rfl) (by kernel_rfl) (fun _ _ _ h => h) (Or.inl ⟨by kernel_rfl, ?_⟩) (by assumption) ?_
          rotate_left
          · ((intro w hSw; (try dsimp only at hSw); go_simp) <;> with_reducible rfl)
          try simp only [Act.put, List.setIfInBounds_toArray, List.set_cons_zero, List.set_cons_succ]
          refine Rk.takeP (i := 4) (v := ?_) rfl (by kernel_rfl) (by kernel_rfl) (by kernel_rfl) (by kernel_rfl) (fun _ _ _ h => h) (Or.inl ⟨by kernel_rfl, ?_⟩) (by assumption) ?_
          rotate_left
          · ((intro w hSw; go_simp) <;> with_reducible rfl)
          try simp only [Act.put, List.setIfInBounds_toArray, List.set_cons_zero, List.set_cons_succ]
          refine Rk.take [6, 17] (i := 5) (v := ?_) rfl (by kernel_rfl) (by kernel_rfl) (by kernel_rfl) (by kernel_rfl) (by kernel_rfl) (fun _ _ _ h => h) (Or.inl ⟨by kernel_rfl, ?_⟩) (by assumption) ?_
          rotate_left
          · ((intro w hSw; (try dsimp only at hSw); go_simp) <;> with_reducible rfl)
          try simp only [Act.put, List.setIfInBounds_toArray, List.set_cons_zero, List.set_cons_succ]
          refine Rk.takeP (i := 6) (v := ?_) rfl (by kernel_rfl) (by kernel_rfl) (by kernel_rfl) (by kernel_rfl) (fun _ _ _ h => h) (Or.inl ⟨by kernel_rfl, ?_⟩) (by assumption) ?_
          rotate_left
          · ((intro w hSw; go_simp) <;> with_reducible rfl)
          try simp only [Act.put, List.setIfInBounds_toArray, List.set_cons_zero, List.set_cons_succ]
          refine Rk.takeP (i := 7) (v := ?_) rfl (by kernel_rfl) (by kernel_rfl) (by kernel_rfl) (by kernel_rfl) (fun _ _ _ h => h) (Or.inl ⟨by kernel_rfl, ?_⟩) (by assumption) ?_
          rotate_left
          · ((intro w hSw; go_simp) <;> with_reducible rfl)
          try simp only [Act.put, List.setIfInBounds_toArray, List.set_cons_zero, List.set_cons_succ]
          refine Rk.take [16, 17] (i := 8) (v := ?_) rfl (by kernel_rfl) (by kernel_rfl) (by kernel_rfl) (by kernel_rfl) (by kernel_rfl) (fun _ _ _ h => h) (Or.inl ⟨by kernel_rfl, ?_⟩) (by assumption) ?_
          rotate_left
          · ((intro w hSw; (try dsimp only at hSw); go_simp) <;> with_reducible rfl)
          try simp only [Act.put, List.setIfInBounds_toArray, List.set_cons_zero, List.set_cons_succ]
          refine Rk.takeP (i := 9) (v := ?_) rfl (by kernel_rfl) (by kernel_rfl) (by kernel_rfl) (by kernel_rfl) (fun _ _ _ h => h) (Or.inl ⟨by kernel_rfl, ?_⟩) (by assumption) ?_
          rotate_left
          · ((intro w hSw; go_simp) <;> with_reducible rfl)
          try simp only [Act.put, List.setIfInBounds_toArray, List.set_cons_zero, List.set_cons_succ]
          refine Rk.take [16, 17] (i := 10) (v := ?_) rfl (by kernel_rfl) (by kernel_rfl) (by kernel_rfl) (by kernel_rfl) (by kernel_rfl) (fun _ _ _ h => h) (Or.inl ⟨by kernel_rfl, ?_⟩) (by assumption) ?_
          rotate_left
          · ((intro w hSw; (try dsimp only at hSw); go_simp) <;> with_reducible rfl)
          try simp only [Act.put, List.setIfInBounds_toArray, List.set_cons_zero, List.set_cons_succ]
          refine Rk.takeP (i := 11) (v := ?_) rfl (by kernel_rfl) (by kernel_rfl) (by kernel_rfl) (by kernel_rfl) (fun _ _ _ h => h) (Or.inl ⟨by kernel_rfl, ?_⟩) (by assumption) ?_
          rotate_left
          · ((intro w hSw; go_simp) <;> with_reducible rfl)
          try simp only [Act.put, List.setIfInBounds_toArray, List.set_cons_zero, List.set_cons_succ]
          refine Rk.take [15, 16, 17] (i := 12) (v := ?_) rfl (by kernel_rfl) (by kernel_rfl) (by kernel_rfl) (by kernel_rfl) (by kernel_rfl) (fun _ _ _ h => h) (Or.inl ⟨by kernel_rfl, ?_⟩) (by assumption) ?_
          rotate_left
          · ((intro w hSw; (try dsimp only at hSw); go_simp) <;> with_reducible rfl)
          try simp only [Act.put, List.setIfInBounds_toArray, List.set_cons_zero, List.set_cons_succ]
          refine Rk.takeP (i := 13) (v := ?_) rfl (by kernel_rfl) (by kernel_rfl) (by kernel_rfl) (by kernel_rfl) (fun _ _ _ h => h) (Or.inl ⟨by kernel_rfl, ?_⟩) (by assumption) ?_
          rotate_left
          · ((intro w hSw; go_simp) <;> with_reducible rfl)
          try simp only [Act.put, List.setIfInBounds_toArray, List.set_cons_zero, List.set_cons_succ]
          refine Rk.takeP (i := 14) (v := ?_) rfl (by kernel_rfl) (by kernel_rfl) (by kernel_rfl) (by kernel_rfl) (fun _ _ _ h => h) (Or.inl ⟨by kernel_rfl, ?_⟩) (by assumption) ?_
          rotate_left
          · ((intro w hSw; go_simp) <;> with_reducible rfl)
          try simp only [Act.put, List.setIfInBounds_toArray, List.set_cons_zero, List.set_cons_succ]
          refine Rk.takeP (i := 15) (v := ?_) rfl (by kernel_rfl) (by kernel_rfl) (by kernel_rfl) (by kernel_rfl) (fun _ _ _ h => h) (Or.inl ⟨by kernel_rfl, ?_⟩) (by assumption) ?_
          rotate_left
          · ((intro w hSw; go_simp) <;> with_reducible rfl)
          try simp only [Act.put, List.setIfInBounds_toArray, List.set_cons_zero, List.set_cons_succ]
          refine Rk.takeP (i := 16) (v := ?_) rfl (by kernel_rfl) (by kernel_rfl) (by kernel_rfl) (by kernel_rfl) (fun _ _ _ h => h) (Or.inl ⟨by kernel_rfl, ?_⟩) (by assumption) ?_
          rotate_left
          · ((intro w hSw; go_simp) <;> with_reducible rfl)
          try simp only [Act.put, List.setIfInBounds_toArray, List.set_cons_zero, List.set_cons_succ]
          refine Rk.tail [17, 18, 19] [_, _, _] (by kernel_rfl) (by kernel_rfl) rfl (by decide) ?_
          rw [clrb hst (by omega) hbit]
          go_wp2_with (at_builtin; refine wpList_append_own_at _ rfl _ _ 71 rfl base 69 j0 (.agg #[.int .i64 0, .int .i64 0, .int .i64 0]) 3 24 Try.underlying71 hinf hz0 hz1 hz2 rfl (by decide) _ _ _ rfl ((VJ.alloc (Obj.cells #[Value.int .i64 (i : Int), Value.int .i64 (l : Int), Value.int .i64 (st : Int), Value.int .i64 (a : Int), Value.int .i64 (l : Int), Value.int .i64 ((st ^^^ 2 ^ i : Nat) : Int)] 69)).drew) ⟨wr.heap.size, 0, none⟩ 2 2 [.int .i64 (i : Int), .int .i64 (l : Int), .int .i64 (st : Int), .int .i64 (a : Int), .int .i64 (l : Int), .int .i64 ((st ^^^ 2 ^ i : Nat) : Int)] rfl rfl (news6 wr (i : Int) (l : Int) (st : Int) (a : Int) (l : Int) ((st ^^^ 2 ^ i : Nat) : Int) rfl) (one6 _ _ _ _ _ _) (by unfold maxLen; omega) (by omega) (by simp; omega) ?_; intro v8 w8 hown8 hgrow _ hat; have FJ8 := Lib.hid (FI.step (M := [((i, l, st) : Nd), (a, l, st ^^^ 2 ^ i)]) HJ.out (((Below.refl _ _).alloc (Nat.le_refl _) (Obj.cells #[Value.int .i64 (i : Int), Value.int .i64 (l : Int), Value.int .i64 (st : Int), Value.int .i64 (a : Int), Value.int .i64 (l : Int), Value.int .i64 ((st ^^^ 2 ^ i : Nat) : Int)] 69)).drew) rfl (by rw [HML.out]; exact hown8) hgrow hat); obtain ⟨qn, cn, rfl⟩ := own3_slice hown8; obtain ⟨-, -, -, -, lt8, b0, b1, b2⟩ := FJ8.out; clear hown8 hgrow hat)
          go_roundw
          case rel => exact ⟨i + 1, m + 2, k + 1, cn, qn, rfl, by simp, by simp, by omega, by omega, by omega, by omega, Lib.hid (by rw [HS1, List.length_append, HCK.out]; rfl), Lib.hid (by rw [HB1, ← List.append_assoc, List.length_append, HML.out]; rfl), Lib.hid (by rw [HB1, ← List.append_assoc]; exact FJ8.out)⟩
          case measure => simp [intOf]; omega
        · have hb1 : (bits .and .i64 ((st : Int) / 2 ^ i) 1 == 1) = false := by rw [bit1 i hst, if_neg hbit]; rfl
          rw [if_neg (fun h => hbit h.2), List.append_nil] at HS1 HB1
          go_wp2_with fail
          go_roundw
          case rel => exact ⟨i + 1, m, k, d, q, rfl, rfl, by simp, by omega, by omega, by omega, by omega, Lib.hid (by rw [HS1]; exact HCK.out), Lib.hid (by rw [HB1]; exact HML.out), Lib.hid (by rw [HB1]; exact HJ.out)⟩
          case measure => simp [intOf]; omega
      · obtain rfl : N = i := by omega
        have gN : decide ((N : Int) < N) = false := by simp
        have hke : (HS st N).length = k := HCK.out
        by_cases c1 : k < S
        · have d1 : decide ((k : Int) < S) = true := by simp; omega
          have d1' : decide (k < S) = true := by simp; omega
          by_cases c2 : 0 < a
          · have d2 : decide ((0 : Int) < a) = true := by simp; omega
            have d2' : decide (0 < a) = true := by simp; omega
            by_cases c3 : a < N
            · have d3 : decide ((a : Int) < N) = true := by simp; omega
              have d3' : decide (a < N) = true := by simp; omega
              have en : L ++ nb N S (a, l, st) = (L ++ [((0, l, st) : Nd)]) ++ nbL a l st N ++ [(a, l, st ||| 2 ^ a)] := by
                unfold nb
                simp only
                rw [if_neg hal, if_pos ⟨by rw [hke]; exact c1, c2, c3⟩]
                simp [List.append_assoc]
              go_upto_region 12 with fail
              refine Rk.begin (S := fun wS => wS.cell? ⟨w.heap.size, 0, none⟩ = some (.int .i64 (a : Int)) ∧ wS.cell? ⟨w.heap.size, 1, none⟩ = some (.int .i64 (l : Int)) ∧ wS.cell? ⟨w.heap.size, 2, none⟩ = some (.int .i64 (st : Int)) ∧ Below wr.heap.size wr wS) 12 (by kernel_rfl) ⟨b0, b1, b2, Below.drew (Below.refl _ _)⟩ (fun hHeld => ?_)
              refine Rk.takeP (i := 0) (v := ?_) rfl (by kernel_rfl) (by kernel_rfl) (by kernel_rfl) (by kernel_rfl) (fun _ _ _ h => h) (Or.inl ⟨by kernel_rfl, ?_⟩) (by assumption) ?_
              rotate_left
              · ((intro w hSw; go_simp) <;> with_reducible rfl)
              try simp only [Act.put, List.setIfInBounds_toArray, List.set_cons_zero, List.set_cons_succ]
              refine Rk.takeP (i := 1) (v := ?_) rfl (by kernel_rfl) (by kernel_rfl) (by kernel_rfl) (by kernel_rfl) (fun _ _ _ h => h) (Or.inl ⟨by kernel_rfl, ?_⟩) (by assumption) ?_
              rotate_left
              · ((intro w hSw; go_simp) <;> with_reducible rfl)
              try simp only [Act.put, List.setIfInBounds_toArray, List.set_cons_zero, List.set_cons_succ]
              refine Rk.take [11, 12] (i := 2) (v := ?_) rfl (by kernel_rfl) (by kernel_rfl) (by kernel_rfl) (by kernel_rfl) (by kernel_rfl) (fun _ _ _ h => h) (Or.inl ⟨by kernel_rfl, ?_⟩) (by assumption) ?_
              rotate_left
              · ((intro w hSw; (try dsimp only at hSw); go_simp) <;> with_reducible rfl)
              try simp only [Act.put, List.setIfInBounds_toArray, List.set_cons_zero, List.set_cons_succ]
              refine Rk.takeP (i := 3) (v := ?_) rfl (by kernel_rfl) (by kernel_rfl) (by kernel_rfl) (by kernel_rfl) (fun _ _ _ h => h) (Or.inl ⟨by kernel_rfl, ?_⟩) (by assumption) ?_
              rotate_left
              · ((intro w hSw; go_simp) <;> with_reducible rfl)
              try simp only [Act.put, List.setIfInBounds_toArray, List.set_cons_zero, List.set_cons_succ]
              refine Rk.take [11, 12] (i := 4) (v := ?_) rfl (by kernel_rfl) (by kernel_rfl) (by kernel_rfl) (by kernel_rfl) (by kernel_rfl) (fun _ _ _ h => h) (Or.inl ⟨by kernel_rfl, ?_⟩) (by assumption) ?_
              rotate_left
              · ((intro w hSw; (try dsimp only at hSw); go_simp) <;> with_reducible rfl)
              try simp only [Act.put, List.setIfInBounds_toArray, List.set_cons_zero, List.set_cons_succ]
              refine Rk.takeP (i := 5) (v := ?_) rfl (by kernel_rfl) (by kernel_rfl) (by kernel_rfl) (by kernel_rfl) (fun _ _ _ h => h) (Or.inl ⟨by kernel_rfl, ?_⟩) (by assumption) ?_
              rotate_left
              · ((intro w hSw; go_simp) <;> with_reducible rfl)
              try simp only [Act.put, List.setIfInBounds_toArray, List.set_cons_zero, List.set_cons_succ]
              refine Rk.take [10, 11, 12] (i := 6) (v := ?_) rfl (by kernel_rfl) (by kernel_rfl) (by kernel_rfl) (by kernel_rfl) (by kernel_rfl) (fun _ _ _ h => h) (Or.inl ⟨by kernel_rfl, ?_⟩) (by assumption) ?_
              rotate_left
              · ((intro w hSw; (try dsimp only at hSw); go_simp) <;> with_reducible rfl)
              try simp only [Act.put, List.setIfInBounds_toArray, List.set_cons_zero, List.set_cons_succ]
              refine Rk.takeP (i := 7) (v := ?_) rfl (by kernel_rfl) (by kernel_rfl) (by kernel_rfl) (by kernel_rfl) (fun _ _ _ h => h) (Or.inl ⟨by kernel_rfl, ?_⟩) (by assumption) ?_
              rotate_left
              · ((intro w hSw; go_simp) <;> with_reducible rfl)
              try simp only [Act.put, List.setIfInBounds_toArray, List.set_cons_zero, List.set_cons_succ]
              refine Rk.take [9, 10, 11, 12] (i := 8) (v := ?_) rfl (by kernel_rfl) (by kernel_rfl) (by kernel_rfl) (by kernel_rfl) (by kernel_rfl) (fun _ _ _ h => h) (Or.inl ⟨by kernel_rfl, ?_⟩) (by assumption) ?_
              rotate_left
              · ((intro w hSw; (try dsimp only at hSw); go_simp) <;> with_reducible rfl)
              try simp only [Act.put, List.setIfInBounds_toArray, List.set_cons_zero, List.set_cons_succ]
              refine Rk.takeP (i := 9) (v := ?_) rfl (by kernel_rfl) (by kernel_rfl) (by kernel_rfl) (by kernel_rfl) (fun _ _ _ h => h) (Or.inl ⟨by kernel_rfl, ?_⟩) (by assumption) ?_
              rotate_left
              · ((intro w hSw; go_simp) <;> with_reducible rfl)
              try simp only [Act.put, List.setIfInBounds_toArray, List.set_cons_zero, List.set_cons_succ]
              refine Rk.takeP (i := 10) (v := ?_) rfl (by kernel_rfl) (by kernel_rfl) (by kernel_rfl) (by kernel_rfl) (fun _ _ _ h => h) (Or.inl ⟨by kernel_rfl, ?_⟩) (by assumption) ?_
              rotate_left
              · ((intro w hSw; go_simp) <;> with_reducible rfl)
              try simp only [Act.put, List.setIfInBounds_toArray, List.set_cons_zero, List.set_cons_succ]
              refine Rk.takeP (i := 11) (v := ?_) rfl (by kernel_rfl) (by kernel_rfl) (by kernel_rfl) (by kernel_rfl) (fun _ _ _ h => h) (Or.inl ⟨by kernel_rfl, ?_⟩) (by assumption) ?_
              rotate_left
              · ((intro w hSw; go_simp) <;> with_reducible rfl)
              try simp only [Act.put, List.setIfInBounds_toArray, List.set_cons_zero, List.set_cons_succ]
              refine Rk.tail [12, 13, 14] [_, _, _] (by kernel_rfl) (by kernel_rfl) rfl (by decide) ?_
              rw [setb hst (by omega)]
              go_wp2_with (at_builtin; refine wpList_append_own_at _ rfl _ _ 71 rfl base 69 j0 (.agg #[.int .i64 0, .int .i64 0, .int .i64 0]) 3 24 Try.underlying71 hinf hz0 hz1 hz2 rfl (by decide) _ _ _ rfl ((VJ.alloc (Obj.cells #[Value.int .i64 (a : Int), Value.int .i64 (l : Int), Value.int .i64 ((st ||| 2 ^ a : Nat) : Int)] 69)).drew) ⟨wr.heap.size, 0, none⟩ 1 1 [.int .i64 (a : Int), .int .i64 (l : Int), .int .i64 ((st ||| 2 ^ a : Nat) : Int)] rfl rfl (news3 wr (a : Int) (l : Int) ((st ||| 2 ^ a : Nat) : Int) rfl) (one3 _ _ _) (by unfold maxLen; omega) (by omega) (by simp; omega) ?_; intro v8 w8 hown8 hgrow _ hat; have FJ8 := Lib.hid (FI.step (M := [((a, l, st ||| 2 ^ a) : Nd)]) HJ.out (((Below.refl _ _).alloc (Nat.le_refl _) (Obj.cells #[Value.int .i64 (a : Int), Value.int .i64 (l : Int), Value.int .i64 ((st ||| 2 ^ a : Nat) : Int)] 69)).drew) rfl (by rw [HML.out]; exact hown8) hgrow hat); obtain ⟨qn, cn, rfl⟩ := own3_slice hown8; obtain ⟨-, -, -, -, lt8, b0, b1, b2⟩ := FJ8.out; clear hown8 hgrow hat)
              go_ret
              have FZ : FI base (.slice p n c) a l st w (L ++ nb N S (a, l, st)) (.slice qn (m + 1) cn) w8 := by rw [en]; exact FJ8.out
              exact FZ.fre (by rw [en, List.length_append, HML.out]; rfl)
            · have d3 : decide ((a : Int) < N) = false := by simp; omega
              have d3' : decide (a < N) = false := by simp; omega
              have en : L ++ nb N S (a, l, st) = (L ++ [((0, l, st) : Nd)]) ++ nbL a l st N := by
                unfold nb
                simp only
                rw [if_neg hal, if_neg (fun h => c3 h.2.2)]
                simp [List.append_assoc]
              clear c3
              go_upto_region 13 with fail
              go_wp2_with fail
              go_ret
              have FZ : FI base (.slice p n c) a l st w (L ++ nb N S (a, l, st)) (.slice q m d) wr := by rw [en]; exact HJ.out
              exact FZ.fre (by rw [en, HML.out])
          · have d2 : decide ((0 : Int) < a) = false := by simp; omega
            have d2' : decide (0 < a) = false := by simp; omega
            have en : L ++ nb N S (a, l, st) = (L ++ [((0, l, st) : Nd)]) ++ nbL a l st N := by
              unfold nb
              simp only
              rw [if_neg hal, if_neg (fun h => c2 h.2.1)]
              simp [List.append_assoc]
            go_upto_region 13 with fail
            go_wp2_with fail
            go_ret
            have FZ : FI base (.slice p n c) a l st w (L ++ nb N S (a, l, st)) (.slice q m d) wr := by rw [en]; exact HJ.out
            exact FZ.fre (by rw [en, HML.out])
        · have d1 : decide ((k : Int) < S) = false := by simp; omega
          have d1' : decide (k < S) = false := by simp; omega
          have en : L ++ nb N S (a, l, st) = (L ++ [((0, l, st) : Nd)]) ++ nbL a l st N := by
            unfold nb
            simp only
            rw [if_neg hal, if_neg (fun h => c1 (by rw [← hke]; exact h.1))]
            simp [List.append_assoc]
          go_upto_region 13 with fail
          go_wp2_with fail
          go_ret
          have FZ : FI base (.slice p n c) a l st w (L ++ nb N S (a, l, st)) (.slice q m d) wr := by rw [en]; exact HJ.out
          exact FZ.fre (by rw [en, HML.out])
end Go.Proofs.Ytndmpoomdoojpaa.Ck.Bf
