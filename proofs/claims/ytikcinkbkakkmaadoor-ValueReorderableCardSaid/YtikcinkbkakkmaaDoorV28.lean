/- The law on the order of a reduction. -/
import Derived.Test.YtikcinkbkakkmaaDoorV27

namespace Go.Proofs.YtikcinkbkakkmaaDoor.Va
open Go.ChangeShapes Go.WideShapes Go.ChangeAt Go.RowKit
open Fr Fx

set_option linter.unusedVariables false
set_option linter.unusedSimpArgs false

theorem infoV : (Tryd.prog.info? 25).map (fun i => (i.zero, i.size, i.bytes)) = some (some (.agg #[.int .i64 0, .int .i64 0]), 2, 16) := by kernel_rfl
theorem info_parts {P : Program} {T : TypeId} {z : Value} {s b : Nat} (h : (P.info? T).map (fun i => (i.zero, i.size, i.bytes)) = some (some z, s, b)) : ∃ i, P.info? T = some i ∧ i.zero = some z ∧ i.size = s ∧ i.bytes = b := by
  cases hi : P.info? T with
  | none => rw [hi] at h; cases h
  | some i =>
    rw [hi] at h
    simp only [Option.map_some, Option.some.injEq, Prod.mk.injEq] at h
    exact ⟨i, rfl, h.1, h.2.1, h.2.2⟩
/-- Numbers in a row of the call's own. -/
def pcs (l : List P2) : List Value := l.flatMap fun m => [.int .i64 m.1, .int .i64 m.2]
theorem pcs_snoc (l : List P2) (m : P2) : pcs (l ++ [m]) = pcs l ++ [.int .i64 m.1, .int .i64 m.2] := by unfold pcs; rw [List.flatMap_append]; simp
theorem pcs_get : ∀ (l : List P2) (i : Nat), i < l.length → (pcs l)[i * 2]? = some (.int .i64 (l.getD i (0, 0)).1) ∧ (pcs l)[i * 2 + 1]? = some (.int .i64 (l.getD i (0, 0)).2)
  | [], i, h => absurd h (by simp)
  | m :: l, 0, h => ⟨rfl, rfl⟩
  | m :: l, i + 1, h => by
    obtain ⟨h1, h2⟩ := pcs_get l i (by simpa using h)
    unfold pcs at h1 h2 ⊢
    rw [List.flatMap_cons]
    have e1 : (i + 1) * 2 = (i * 2 + 1) + 1 := by omega
    have e2 : (i + 1) * 2 + 1 = (i * 2 + 1 + 1) + 1 := by omega
    refine ⟨?_, ?_⟩
    · rw [e1]; show (_ :: _ :: _)[_]? = _; rw [List.getElem?_cons_succ, List.getElem?_cons_succ]; exact h1
    · rw [e2]; show (_ :: _ :: _)[_]? = _; rw [List.getElem?_cons_succ, List.getElem?_cons_succ]; exact h2
theorem addr_add (g k : Nat) : (⟨g, 0, none⟩ : Addr).add k = ⟨g, k, none⟩ := by
  unfold Addr.add
  split <;> simp_all
theorem own_slV {w : World} {base n : Nat} {v : Value} {l : List P2} (h : w.ownsRow base 25 2 v n (pcs l)) (hn : n = l.length) : ∃ p c, v = .slice p n c ∧ n ≤ c ∧ SlV w p l := by
  subst hn
  obtain ⟨h1, h2⟩ := h
  rcases h2 with ⟨rfl, hn⟩ | ⟨g, cap, cur, rfl, hb, hh, hc, hm, hs, ht⟩
  · exact ⟨none, 0, by rw [hn], by omega, fun i hi => absurd hi (by omega)⟩
  · refine ⟨some ⟨g, 0, none⟩, cap, rfl, by omega, fun i hi => ⟨g, 0, rfl, ?_⟩⟩
    have hO : w.ownsRow base 25 2 (.slice (some ⟨g, 0, none⟩) l.length cap) l.length (pcs l) := ⟨h1, .inr ⟨g, cap, cur, rfl, hb, hh, hc, hm, hs, ht⟩⟩
    obtain ⟨c1, c2⟩ := pcs_get l i hi
    have d1 := hO.cells (g := g) rfl _ _ c1
    have d2 := hO.cells (g := g) rfl _ _ c2
    rw [addr_add] at d1 d2
    exact ⟨by rw [Nat.zero_add]; exact d1, by rw [Nat.zero_add]; exact d2⟩
theorem own_cell {w u : World} {base : Nat} {E : TypeId} {sz n : Nat} {v x : Value} {xs : List Value} {b o : Nat} (hO : w.ownsRow base E sz v n xs) (hg : w.grownBy u v.ownBlock) (hb : b < base) (hc : w.cell? ⟨b, o, none⟩ = some x) : u.cell? ⟨b, o, none⟩ = some x :=
  hg.cell hc (fun e => by have := (hO.lt b e.symm).1; omega)
theorem own_slice {u : World} {base : Nat} {E : TypeId} {sz n : Nat} {v : Value} {xs : List Value} (h : u.ownsRow base E sz v n xs) : ∃ q c, v = .slice q n c := by
  rcases h.2 with ⟨rfl, hn⟩ | ⟨g, cap, cur, rfl, _⟩
  · exact ⟨none, 0, by rw [hn]⟩
  · exact ⟨_, _, rfl⟩
set_option maxRecDepth 100000 in
set_option maxHeartbeats 16000000 in
theorem reo_few (fold K B F R O : Int) (p : Option Addr) (n c : Nat) (w : World) (h : 60 < n ∨ n = 0) (hn : n ≤ 9223372036854775807) (EX : Hid (∀ w, Calls Tryd.prog 15 #[] w (Ret (.bool true) w))) :
    Calls Tryd.prog 5 #[.int .i64 fold, T5 K B F R O, .slice p n c] w (Ret (.bool true) w) := by
  rcases h with h | rfl
  · have g1 : decide ((60 : Int) < n) = true := by simp; omega
    clear h
    go_enter Tryd.func5, Tryd.ntmps5
    go_wp2_with fail
    refine (EX.out _).mono ?_
    rintro e w1 ⟨rfl, hb⟩
    have L : Below w.heap.size w w1 := ((Below.refl _ _).alloc (by simp <;> omega) _).trans (hb.mono (by simp <;> omega))
    have K1 : Below w.heap.size w w1 := L
    have lt : w.heap.size < w1.heap.size := Nat.lt_of_lt_of_le (by simp <;> omega) hb.size
    have t0 : w1.cell? ⟨w.heap.size, 0, none⟩ = some (.int .i64 K) := Rg.keep hb (by simp <;> omega) (by go_cell)
    have t1 : w1.cell? ⟨w.heap.size, 1, none⟩ = some (.int .i64 B) := Rg.keep hb (by simp <;> omega) (by go_cell)
    have t2 : w1.cell? ⟨w.heap.size, 2, none⟩ = some (.int .i64 F) := Rg.keep hb (by simp <;> omega) (by go_cell)
    have t3 : w1.cell? ⟨w.heap.size, 3, none⟩ = some (.int .i64 R) := Rg.keep hb (by simp <;> omega) (by go_cell)
    have t4 : w1.cell? ⟨w.heap.size, 4, none⟩ = some (.int .i64 O) := Rg.keep hb (by simp <;> omega) (by go_cell)
    clear hb L
    go_wp2
    go_ret
    exact ⟨rfl, K1⟩
  · go_enter Tryd.func5, Tryd.ntmps5
    go_wp2_with fail
    refine (EX.out _).mono ?_
    rintro e w1 ⟨rfl, hb⟩
    have L : Below w.heap.size w w1 := ((Below.refl _ _).alloc (by simp <;> omega) _).trans (hb.mono (by simp <;> omega))
    have K1 : Below w.heap.size w w1 := L
    have lt : w.heap.size < w1.heap.size := Nat.lt_of_lt_of_le (by simp <;> omega) hb.size
    have t0 : w1.cell? ⟨w.heap.size, 0, none⟩ = some (.int .i64 K) := Rg.keep hb (by simp <;> omega) (by go_cell)
    have t1 : w1.cell? ⟨w.heap.size, 1, none⟩ = some (.int .i64 B) := Rg.keep hb (by simp <;> omega) (by go_cell)
    have t2 : w1.cell? ⟨w.heap.size, 2, none⟩ = some (.int .i64 F) := Rg.keep hb (by simp <;> omega) (by go_cell)
    have t3 : w1.cell? ⟨w.heap.size, 3, none⟩ = some (.int .i64 R) := Rg.keep hb (by simp <;> omega) (by go_cell)
    have t4 : w1.cell? ⟨w.heap.size, 4, none⟩ = some (.int .i64 O) := Rg.keep hb (by simp <;> omega) (by go_cell)
    clear hb L
    go_wp2
    go_ret
    exact ⟨rfl, K1⟩
set_option maxRecDepth 100000 in
set_option maxHeartbeats 16000000 in
theorem reo_not (fold K B F R O : Int) (p : Option Addr) (n c : Nat) (w : World) (h : 1 ≤ n) (h6 : n ≤ 60) (RO : Hid (∀ w, Calls Tryd.prog 18 #[.int .i64 fold, T5 K B F R O] w (Ret (.bool false) w))) (EX : Hid (∀ w, Calls Tryd.prog 15 #[] w (Ret (.bool true) w))) :
    Calls Tryd.prog 5 #[.int .i64 fold, T5 K B F R O, .slice p n c] w (Ret (.bool true) w) := by
    have g1 : decide ((60 : Int) < n) = false := by simp; omega
    have g2 : ((n : Int) == 0) = false := by simp; omega
    clear h h6
    go_enter Tryd.func5, Tryd.ntmps5
    go_wp2_with fail
    refine (RO.out _).mono ?_
    rintro e w1 ⟨rfl, hb⟩
    have L : Below w.heap.size w w1 := ((Below.refl _ _).alloc (by simp <;> omega) _).trans (hb.mono (by simp <;> omega))
    have K1 : Below w.heap.size w w1 := L
    have lt : w.heap.size < w1.heap.size := Nat.lt_of_lt_of_le (by simp <;> omega) hb.size
    have t0 : w1.cell? ⟨w.heap.size, 0, none⟩ = some (.int .i64 K) := Rg.keep hb (by simp <;> omega) (by go_cell)
    have t1 : w1.cell? ⟨w.heap.size, 1, none⟩ = some (.int .i64 B) := Rg.keep hb (by simp <;> omega) (by go_cell)
    have t2 : w1.cell? ⟨w.heap.size, 2, none⟩ = some (.int .i64 F) := Rg.keep hb (by simp <;> omega) (by go_cell)
    have t3 : w1.cell? ⟨w.heap.size, 3, none⟩ = some (.int .i64 R) := Rg.keep hb (by simp <;> omega) (by go_cell)
    have t4 : w1.cell? ⟨w.heap.size, 4, none⟩ = some (.int .i64 O) := Rg.keep hb (by simp <;> omega) (by go_cell)
    clear hb L
    go_wp2_with fail
    refine (EX.out _).mono ?_
    rintro e w2 ⟨rfl, hb⟩
    have L : Below w1.heap.size w1 w2 := (Below.refl _ _).trans (hb.mono (by simp <;> omega))
    have K2 : Below w.heap.size w w2 := K1.trans (L.mono K1.size)
    have t0 := Rg.keep L lt t0
    have t1 := Rg.keep L lt t1
    have t2 := Rg.keep L lt t2
    have t3 := Rg.keep L lt t3
    have t4 := Rg.keep L lt t4
    have lt := Nat.lt_of_lt_of_le lt L.size
    clear hb L
    go_wp2
    go_ret
    exact ⟨rfl, K2⟩
set_option maxRecDepth 100000 in
set_option maxHeartbeats 16000000 in
theorem reo_go (fold K B F R O : Int) (p : Option Addr) (xs : List P2) (n c : Nat) (w : World) (hnn : xs.length = n) (h1 : 1 ≤ n) (h6 : n ≤ 60) (hc : n ≤ c) (RA : Hid (SlV w p xs)) (RO : Hid (∀ w, Calls Tryd.prog 18 #[.int .i64 fold, T5 K B F R O] w (Ret (.bool true) w)))
    (EX : Hid (∀ w, Calls Tryd.prog 15 #[] w (Ret (.bool true) w))) (x y z x' y' z' : Int)
    (C1 : Hid (∀ w, Hid (SlV w p xs) → Calls Tryd.prog 19 #[.int .i64 fold, T5 K B F R O, .slice p n c] w (Ret (Frac3 x y z) w)))
    (C2 : Hid (∀ p c w, n ≤ c → Hid (SlV w p xs.reverse) → Calls Tryd.prog 19 #[.int .i64 fold, T5 K B F R O, .slice p n c] w (Ret (Frac3 x' y' z') w)))
    (HE : Hid (((z = 3 ∨ z' = 3) ∧ K ≠ 2 ∧ fold ≠ 3 ∧ fold ≠ 4) ∨ (z ≠ 3 ∧ (x, y, z) = ((x', y', z') : A3)))) :
    Calls Tryd.prog 5 #[.int .i64 fold, T5 K B F R O, .slice p n c] w (Ret (.bool true) w) := by
  have HN := Lib.hid hnn
  clear hnn
  have g1 : decide ((60 : Int) < n) = false := by simp; omega
  have g2 : ((n : Int) == 0) = false := by simp; omega
  obtain ⟨i0, hi, hz0, hz1, hz2⟩ := info_parts infoV
  have HI := Lib.hid (And.intro hi (And.intro hz0 (And.intro hz1 hz2)))
  clear hi hz0 hz1 hz2
  go_enter Tryd.func5, Tryd.ntmps5
  go_wp2_with fail
  refine (RO.out _).mono ?_
  rintro e w1 ⟨rfl, hb⟩
  have L : Below w.heap.size w w1 := ((Below.refl _ _).alloc (by simp <;> omega) _).trans (hb.mono (by simp <;> omega))
  have K1 : Below w.heap.size w w1 := L
  have lt : w.heap.size < w1.heap.size := Nat.lt_of_lt_of_le (by simp <;> omega) hb.size
  have t0 : w1.cell? ⟨w.heap.size, 0, none⟩ = some (.int .i64 K) := Rg.keep hb (by simp <;> omega) (by go_cell)
  have t1 : w1.cell? ⟨w.heap.size, 1, none⟩ = some (.int .i64 B) := Rg.keep hb (by simp <;> omega) (by go_cell)
  have t2 : w1.cell? ⟨w.heap.size, 2, none⟩ = some (.int .i64 F) := Rg.keep hb (by simp <;> omega) (by go_cell)
  have t3 : w1.cell? ⟨w.heap.size, 3, none⟩ = some (.int .i64 R) := Rg.keep hb (by simp <;> omega) (by go_cell)
  have t4 : w1.cell? ⟨w.heap.size, 4, none⟩ = some (.int .i64 O) := Rg.keep hb (by simp <;> omega) (by go_cell)
  clear hb L
  have hS : Hid (w1.cell? ⟨w.heap.size, 0, none⟩ = some (.int .i64 K) ∧ w1.cell? ⟨w.heap.size, 1, none⟩ = some (.int .i64 B) ∧ w1.cell? ⟨w.heap.size, 2, none⟩ = some (.int .i64 F) ∧ w1.cell? ⟨w.heap.size, 3, none⟩ = some (.int .i64 R) ∧ w1.cell? ⟨w.heap.size, 4, none⟩ = some (.int .i64 O) ∧ Below w.heap.size w w1) := Lib.hid ⟨t0, t1, t2, t3, t4, K1⟩
  clear t0 t1 t2 t3 t4 K1 g1 g2 lt
  have HS : Hid (∀ u u' : World, (u.cell? ⟨w.heap.size, 0, none⟩ = some (.int .i64 K) ∧ u.cell? ⟨w.heap.size, 1, none⟩ = some (.int .i64 B) ∧ u.cell? ⟨w.heap.size, 2, none⟩ = some (.int .i64 F) ∧ u.cell? ⟨w.heap.size, 3, none⟩ = some (.int .i64 R) ∧ u.cell? ⟨w.heap.size, 4, none⟩ = some (.int .i64 O) ∧ Below w.heap.size w u) → Below u.heap.size u u' → (u'.cell? ⟨w.heap.size, 0, none⟩ = some (.int .i64 K) ∧ u'.cell? ⟨w.heap.size, 1, none⟩ = some (.int .i64 B) ∧ u'.cell? ⟨w.heap.size, 2, none⟩ = some (.int .i64 F) ∧ u'.cell? ⟨w.heap.size, 3, none⟩ = some (.int .i64 R) ∧ u'.cell? ⟨w.heap.size, 4, none⟩ = some (.int .i64 O) ∧ Below w.heap.size w u')) := Lib.hid (fun u u' h hb => ⟨Rg.keep hb (World.block_lt_of_cell? _ _ h.1) h.1, Rg.keep hb (World.block_lt_of_cell? _ _ h.2.1) h.2.1, Rg.keep hb (World.block_lt_of_cell? _ _ h.2.2.1) h.2.2.1, Rg.keep hb (World.block_lt_of_cell? _ _ h.2.2.2.1) h.2.2.2.1, Rg.keep hb (World.block_lt_of_cell? _ _ h.2.2.2.2.1) h.2.2.2.2.1, h.2.2.2.2.2.trans (hb.mono h.2.2.2.2.2.size)⟩)
  go_wp2_with fail
  go_loopw [7, 8] (fun b i wr => ∃ (j : Nat) (e : Int) (bv : Value), bv = b ∧ i = .int .i64 e ∧ e = (j : Int) - 1 ∧ j ≤ n ∧ Hid (wr.cell? ⟨w.heap.size, 0, none⟩ = some (.int .i64 K) ∧ wr.cell? ⟨w.heap.size, 1, none⟩ = some (.int .i64 B) ∧ wr.cell? ⟨w.heap.size, 2, none⟩ = some (.int .i64 F) ∧ wr.cell? ⟨w.heap.size, 3, none⟩ = some (.int .i64 R) ∧ wr.cell? ⟨w.heap.size, 4, none⟩ = some (.int .i64 O) ∧ Below w.heap.size w wr) ∧ Hid (wr.ownsRow (w.heap.size + 1) 25 2 bv (n - j) (pcs (xs.drop j).reverse))) (fun _ i _ => (intOf i + 1).toNat)
  case atStart => exact ⟨n, _, _, rfl, rfl, rfl, Nat.le_refl _, hS, Lib.hid (by rw [Nat.sub_self, ← HN.out, List.drop_length]; exact World.ownsRow_nil _ _ _ _)⟩
  case round =>
    obtain ⟨j, e0, bv, rfl, rfl, he0, hj, hT, hO⟩ := hrel
    clear hS
    obtain ⟨t0, t1, t2, t3, t4, K0⟩ := hT.out
    have lt : w.heap.size < wr.heap.size := World.block_lt_of_cell? _ _ t0
    cases j with
    | succ k =>
      obtain rfl : e0 = (k : Int) := by omega
      clear he0
      obtain ⟨b, o, rfl, c0, c1⟩ := RA.out k (by rw [HN.out]; omega)
      have hbw : b < w.heap.size := World.block_lt_of_cell? _ _ c0
      replace c0 := Rg.keep K0 hbw c0
      replace c1 := Rg.keep K0 hbw c1
      have hbr : b < wr.heap.size := World.block_lt_of_cell? _ _ c0
      have HL := Lib.hid (drop_step (xs := xs) (i := k) (by rw [HN.out]; omega))
      obtain ⟨e, he⟩ : ∃ e, xs.getD k (0, 0) = e := ⟨_, rfl⟩
      rw [he] at c0 c1 HL
      clear he
      have k1 : (0 : Int) ≤ k := by omega
      have k2 : (k : Int) < n := by omega
      obtain ⟨hi, hz0, hz1, hz2⟩ := HI.out
      obtain ⟨q, cq, rfl⟩ := own_slice hO.out
      go_wp2_with (at_builtin; refine wpList_append_own _ rfl _ _ 35 rfl (w.heap.size + 1) 25 i0 (.agg #[.int .i64 0, .int .i64 0]) 2 16 Tryd.underlying35 hi hz0 hz1 hz2 rfl (by decide) _ _ _ rfl (World.ownsRow.alloc hO.out _) ⟨wr.heap.size, 0, none⟩ 1 1 [.int .i64 e.1, .int .i64 e.2] rfl rfl ?_ ?_ ?_ ?_ ?_ ?_)
      · intro q' x' hx'
        rcases q' with _ | _ | q'
        · cases hx'; go_cell
        · cases hx'; go_cell
        · simp at hx'
      · intro x' hx'
        simp at hx'
        rcases hx' with rfl | rfl <;> rfl
      · unfold maxLen; omega
      · omega
      · simp; omega
      intro v' w4 hown' hgrow _
      have U0 := K0.alloc K0.size (Obj.cells #[Value.int .i64 e.1, Value.int .i64 e.2] 25)
      have OU := World.ownsRow.alloc hO.out (Obj.cells #[Value.int .i64 e.1, Value.int .i64 e.2] 25)
      have hb0 : w.heap.size < w.heap.size + 1 := by omega
      have hN : Hid (w4.cell? ⟨w.heap.size, 0, none⟩ = some (.int .i64 K) ∧ w4.cell? ⟨w.heap.size, 1, none⟩ = some (.int .i64 B) ∧ w4.cell? ⟨w.heap.size, 2, none⟩ = some (.int .i64 F) ∧ w4.cell? ⟨w.heap.size, 3, none⟩ = some (.int .i64 R) ∧ w4.cell? ⟨w.heap.size, 4, none⟩ = some (.int .i64 O) ∧ Below w.heap.size w w4) := Lib.hid ⟨own_cell OU hgrow hb0 (kpa _ t0), own_cell OU hgrow hb0 (kpa _ t1), own_cell OU hgrow hb0 (kpa _ t2), own_cell OU hgrow hb0 (kpa _ t3), own_cell OU hgrow hb0 (kpa _ t4), U0.grown hgrow U0.size (fun k hk => by have := (OU.lt k hk).1; omega)⟩
      have hR : Hid (w4.ownsRow (w.heap.size + 1) 25 2 v' (n - k) (pcs (xs.drop k).reverse)) := Lib.hid (by
        rw [HL.out, List.reverse_cons, pcs_snoc, show n - k = n - (k + 1) + 1 by omega]
        exact hown')
      clear hi hz0 hz1 hz2 hO hT OU U0 hgrow hown' t0 t1 t2 t3 t4 c0 c1 HL
      go_wp2_with fail
      go_roundw
      case rel => exact ⟨k, _, _, rfl, rfl, rfl, by omega, hN, hR⟩
      case measure => simp [intOf]
    | zero =>
      have HOn : wr.ownsRow (w.heap.size + 1) 25 2 bv n (pcs xs.reverse) := by simpa using hO.out
      obtain ⟨q, cq, rfl, hcap, RB⟩ := own_slV HOn (by simp [HN.out])
      have RB := Lib.hid RB
      obtain rfl : e0 = -1 := by omega
      clear he0 hT hO HOn HI HN
      rcases HE.out with ⟨hz, hK, h3, h4⟩ | ⟨hz, he⟩
      · have gK : (K != 2) = true := by simpa using hK
        have g3 : (fold != 3) = true := by simpa using h3
        have g4 : (fold != 4) = true := by simpa using h4
        by_cases hz1 : z = 3
        · have gz : (z == 3) = true := by simpa using hz1
          clear hz hK h3 h4 hz1 HE
          go_wp2_with fail
          refine (C1.out _ (Lib.hid (RA.out.below (by (repeat' (first | (with_reducible exact Below.refl _ _) | (with_reducible exact K0) | (with_reducible refine Below.alloc ?_ ?_ _) | (with_reducible refine Below.setCell ?_ ?_ _) | (with_reducible refine below_drewN ?_ _) | (simp; done) | omega | (simp; omega))))))).mono ?_
          rintro e w21 ⟨rfl, hb⟩
          have L : Below wr.heap.size wr w21 := (Below.refl _ _).trans (hb.mono (by simp <;> omega))
          have LL := L
          have K21 : Below w.heap.size w w21 := K0.trans (L.mono K0.size)
          have t0 := Rg.keep L lt t0
          have t1 := Rg.keep L lt t1
          have t2 := Rg.keep L lt t2
          have t3 := Rg.keep L lt t3
          have t4 := Rg.keep L lt t4
          have lt := Nat.lt_of_lt_of_le lt L.size
          clear hb L
          have M1 : Below wr.heap.size wr w21 := LL
          go_wp2_with fail
          refine (C2.out _ _ _ hcap (Lib.hid (RB.out.below (M1.alloc M1.size _)))).mono ?_
          rintro e w22 ⟨rfl, hb⟩
          have L : Below w21.heap.size w21 w22 := ((Below.refl _ _).alloc (by simp <;> omega) _).trans (hb.mono (by simp <;> omega))
          have K22 : Below w.heap.size w w22 := K21.trans (L.mono K21.size)
          have la : w21.heap.size < w22.heap.size := Nat.lt_of_lt_of_le (by simp <;> omega) hb.size
          have a0 : w22.cell? ⟨w21.heap.size, 0, none⟩ = some (.int .i64 x) := Rg.keep hb (by simp <;> omega) (by go_cell)
          have a1 : w22.cell? ⟨w21.heap.size, 1, none⟩ = some (.int .i64 y) := Rg.keep hb (by simp <;> omega) (by go_cell)
          have t0 := Rg.keep L lt t0
          have t1 := Rg.keep L lt t1
          have t2 := Rg.keep L lt t2
          have t3 := Rg.keep L lt t3
          have t4 := Rg.keep L lt t4
          have lt := Nat.lt_of_lt_of_le lt L.size
          clear hb L
          go_wp2_with fail
          refine (EX.out _).mono ?_
          rintro e w23 ⟨rfl, hb⟩
          have L : Below w22.heap.size w22 w23 := ((Below.refl _ _).alloc (by simp <;> omega) _).trans (hb.mono (by simp <;> omega))
          have K23 : Below w.heap.size w w23 := K22.trans (L.mono K22.size)
          have lb : w22.heap.size < w23.heap.size := Nat.lt_of_lt_of_le (by simp <;> omega) hb.size
          have b0 : w23.cell? ⟨w22.heap.size, 0, none⟩ = some (.int .i64 x') := Rg.keep hb (by simp <;> omega) (by go_cell)
          have b1 : w23.cell? ⟨w22.heap.size, 1, none⟩ = some (.int .i64 y') := Rg.keep hb (by simp <;> omega) (by go_cell)
          have t0 := Rg.keep L lt t0
          have t1 := Rg.keep L lt t1
          have t2 := Rg.keep L lt t2
          have t3 := Rg.keep L lt t3
          have t4 := Rg.keep L lt t4
          have a0 := Rg.keep L la a0
          have a1 := Rg.keep L la a1
          have lt := Nat.lt_of_lt_of_le lt L.size
          have la := Nat.lt_of_lt_of_le la L.size
          clear hb L
          go_wp2
          go_ret
          exact ⟨rfl, K23⟩
        · have gz : (z == 3) = false := by simpa using hz1
          have gz' : (z' == 3) = true := by rcases hz with h | h; exact absurd h hz1; simpa using h
          clear hz hK h3 h4 hz1 HE
          go_wp2_with fail
          refine (C1.out _ (Lib.hid (RA.out.below (by (repeat' (first | (with_reducible exact Below.refl _ _) | (with_reducible exact K0) | (with_reducible refine Below.alloc ?_ ?_ _) | (with_reducible refine Below.setCell ?_ ?_ _) | (with_reducible refine below_drewN ?_ _) | (simp; done) | omega | (simp; omega))))))).mono ?_
          rintro e w21 ⟨rfl, hb⟩
          have L : Below wr.heap.size wr w21 := (Below.refl _ _).trans (hb.mono (by simp <;> omega))
          have LL := L
          have K21 : Below w.heap.size w w21 := K0.trans (L.mono K0.size)
          have t0 := Rg.keep L lt t0
          have t1 := Rg.keep L lt t1
          have t2 := Rg.keep L lt t2
          have t3 := Rg.keep L lt t3
          have t4 := Rg.keep L lt t4
          have lt := Nat.lt_of_lt_of_le lt L.size
          clear hb L
          have M1 : Below wr.heap.size wr w21 := LL
          go_wp2_with fail
          refine (C2.out _ _ _ hcap (Lib.hid (RB.out.below (M1.alloc M1.size _)))).mono ?_
          rintro e w22 ⟨rfl, hb⟩
          have L : Below w21.heap.size w21 w22 := ((Below.refl _ _).alloc (by simp <;> omega) _).trans (hb.mono (by simp <;> omega))
          have K22 : Below w.heap.size w w22 := K21.trans (L.mono K21.size)
          have la : w21.heap.size < w22.heap.size := Nat.lt_of_lt_of_le (by simp <;> omega) hb.size
          have a0 : w22.cell? ⟨w21.heap.size, 0, none⟩ = some (.int .i64 x) := Rg.keep hb (by simp <;> omega) (by go_cell)
          have a1 : w22.cell? ⟨w21.heap.size, 1, none⟩ = some (.int .i64 y) := Rg.keep hb (by simp <;> omega) (by go_cell)
          have t0 := Rg.keep L lt t0
          have t1 := Rg.keep L lt t1
          have t2 := Rg.keep L lt t2
          have t3 := Rg.keep L lt t3
          have t4 := Rg.keep L lt t4
          have lt := Nat.lt_of_lt_of_le lt L.size
          clear hb L
          go_wp2_with fail
          refine (EX.out _).mono ?_
          rintro e w23 ⟨rfl, hb⟩
          have L : Below w22.heap.size w22 w23 := ((Below.refl _ _).alloc (by simp <;> omega) _).trans (hb.mono (by simp <;> omega))
          have K23 : Below w.heap.size w w23 := K22.trans (L.mono K22.size)
          have lb : w22.heap.size < w23.heap.size := Nat.lt_of_lt_of_le (by simp <;> omega) hb.size
          have b0 : w23.cell? ⟨w22.heap.size, 0, none⟩ = some (.int .i64 x') := Rg.keep hb (by simp <;> omega) (by go_cell)
          have b1 : w23.cell? ⟨w22.heap.size, 1, none⟩ = some (.int .i64 y') := Rg.keep hb (by simp <;> omega) (by go_cell)
          have t0 := Rg.keep L lt t0
          have t1 := Rg.keep L lt t1
          have t2 := Rg.keep L lt t2
          have t3 := Rg.keep L lt t3
          have t4 := Rg.keep L lt t4
          have a0 := Rg.keep L la a0
          have a1 := Rg.keep L la a1
          have lt := Nat.lt_of_lt_of_le lt L.size
          have la := Nat.lt_of_lt_of_le la L.size
          clear hb L
          go_wp2
          go_ret
          exact ⟨rfl, K23⟩
      · simp only [Prod.mk.injEq] at he
        obtain ⟨rfl, rfl, rfl⟩ := he
        have gz : (z == 3) = false := by simpa using hz
        clear hz HE
        go_wp2_with fail
        refine (C1.out _ (Lib.hid (RA.out.below (by (repeat' (first | (with_reducible exact Below.refl _ _) | (with_reducible exact K0) | (with_reducible refine Below.alloc ?_ ?_ _) | (with_reducible refine Below.setCell ?_ ?_ _) | (with_reducible refine below_drewN ?_ _) | (simp; done) | omega | (simp; omega))))))).mono ?_
        rintro e w21 ⟨rfl, hb⟩
        have L : Below wr.heap.size wr w21 := (Below.refl _ _).trans (hb.mono (by simp <;> omega))
        have LL := L
        have K21 : Below w.heap.size w w21 := K0.trans (L.mono K0.size)
        have t0 := Rg.keep L lt t0
        have t1 := Rg.keep L lt t1
        have t2 := Rg.keep L lt t2
        have t3 := Rg.keep L lt t3
        have t4 := Rg.keep L lt t4
        have lt := Nat.lt_of_lt_of_le lt L.size
        clear hb L
        have M1 : Below wr.heap.size wr w21 := LL
        go_wp2_with fail
        refine (C2.out _ _ _ hcap (Lib.hid (RB.out.below (M1.alloc M1.size _)))).mono ?_
        rintro e w22 ⟨rfl, hb⟩
        have L : Below w21.heap.size w21 w22 := ((Below.refl _ _).alloc (by simp <;> omega) _).trans (hb.mono (by simp <;> omega))
        have K22 : Below w.heap.size w w22 := K21.trans (L.mono K21.size)
        have la : w21.heap.size < w22.heap.size := Nat.lt_of_lt_of_le (by simp <;> omega) hb.size
        have a0 : w22.cell? ⟨w21.heap.size, 0, none⟩ = some (.int .i64 x) := Rg.keep hb (by simp <;> omega) (by go_cell)
        have a1 : w22.cell? ⟨w21.heap.size, 1, none⟩ = some (.int .i64 y) := Rg.keep hb (by simp <;> omega) (by go_cell)
        have t0 := Rg.keep L lt t0
        have t1 := Rg.keep L lt t1
        have t2 := Rg.keep L lt t2
        have t3 := Rg.keep L lt t3
        have t4 := Rg.keep L lt t4
        have lt := Nat.lt_of_lt_of_le lt L.size
        clear hb L
        go_wp2_with fail
        refine (EX.out _).mono ?_
        rintro e w23 ⟨rfl, hb⟩
        have L : Below w22.heap.size w22 w23 := ((Below.refl _ _).alloc (by simp <;> omega) _).trans (hb.mono (by simp <;> omega))
        have K23 : Below w.heap.size w w23 := K22.trans (L.mono K22.size)
        have lb : w22.heap.size < w23.heap.size := Nat.lt_of_lt_of_le (by simp <;> omega) hb.size
        have b0 : w23.cell? ⟨w22.heap.size, 0, none⟩ = some (.int .i64 x) := Rg.keep hb (by simp <;> omega) (by go_cell)
        have b1 : w23.cell? ⟨w22.heap.size, 1, none⟩ = some (.int .i64 y) := Rg.keep hb (by simp <;> omega) (by go_cell)
        have t0 := Rg.keep L lt t0
        have t1 := Rg.keep L lt t1
        have t2 := Rg.keep L lt t2
        have t3 := Rg.keep L lt t3
        have t4 := Rg.keep L lt t4
        have a0 := Rg.keep L la a0
        have a1 := Rg.keep L la a1
        have lt := Nat.lt_of_lt_of_le lt L.size
        have la := Nat.lt_of_lt_of_le la L.size
        clear hb L
        go_wp2
        go_ret
        exact ⟨rfl, K23⟩
theorem law_reo (fold K B F R O : Int) (p : Option Addr) (xs : List P2) (c : Nat) (w : World) (bb0 : -9223372036854775808 ≤ B) (bb1 : B ≤ 9223372036854775807) (hn : xs.length ≤ maxLen) (hc : xs.length ≤ c) (RA : Hid (SlV w p xs)) :
    Calls Tryd.prog 5 #[.int .i64 fold, T5 K B F R O, .slice p xs.length c] w (Ret (.bool true) w) := by
  have EX := Lib.hid fun w => examples_true w
  have RO := fun w => c_reord fold K B F R O w
  have hn2 : xs.length ≤ 9223372036854775807 := Nat.le_trans hn (by decide)
  by_cases h : 60 < xs.length ∨ xs.length = 0
  · exact reo_few fold K B F R O p xs.length c w h hn2 EX
  cases hr : rov fold K B F R O
  · rw [hr] at RO
    exact reo_not fold K B F R O p xs.length c w (by omega) (by omega) (Lib.hid RO) EX
  rw [hr] at RO
  have hne : xs ≠ [] := fun e => h (Or.inr (by rw [e]; rfl))
  have HE := reo hr hne
  have C1 := fun w h => c_red fold K B F R O p xs c w bb0 bb1 hn hc h
  have C2 := fun p c w (hc : xs.length ≤ c) h => c_red fold K B F R O p xs.reverse c w bb0 bb1 (by rw [List.length_reverse]; exact hn) (by rw [List.length_reverse]; exact hc) h
  rw [List.length_reverse] at C2
  generalize rdv fold K B F R O xs = A at *
  generalize rdv fold K B F R O xs.reverse = A' at *
  obtain ⟨x, y, z⟩ := A
  obtain ⟨x', y', z'⟩ := A'
  exact reo_go fold K B F R O p xs xs.length c w rfl (by omega) (by omega) hc RA (Lib.hid RO) EX x y z x' y' z' (Lib.hid C1) (Lib.hid C2) (Lib.hid HE)
end Go.Proofs.YtikcinkbkakkmaaDoor.Va
