/- A state put into a row of states. -/
import Derived.Test.YtndmpoomdoojpaaRows
import Derived.WalkKit
import Derived.ProofKit
import Derived.OpenShut
import Derived.WalkLawsBesides
import Derived.WalkSpells
import Derived.Outline
import Derived.Handy
import Derived.IntWalk
import Derived.Deep.QuietTactic
import Derived.BigQuiet
import Derived.Lib.Hide
import Derived.Test.YtndmpoomdoojpaaKD1
namespace Go.Proofs.Ytndmpoomdoojpaa.Ck.Sr
open Go.ChangeShapes Go.WideShapes Go.ChangeAt Go.RowKit Go.Proofs.Ytndmpoomdoojpaa.Ck Go.Proofs.Ytndmpoomdoojpaa.Ck.Bf
set_option linter.unusedVariables false


theorem info76 : (Try.prog.info? 76).map (fun i => (i.zero, i.size, i.bytes)) = some (some (.agg #[.int .i64 0, .int .i64 0, .slice none 0 0]), 3, 40) := by kernel_rfl
/-- States as they lie in a row, each with the slice of its slots. -/
def flS (L : List (Sd × Value)) : List Value := L.flatMap fun p => [.int .i64 (p.1.1 : Int), .int .i64 (p.1.2.1 : Int), p.2]
theorem flS_app (a b : List (Sd × Value)) : flS (a ++ b) = flS a ++ flS b := List.flatMap_append
theorem flS_len : ∀ l : List (Sd × Value), (flS l).length = l.length * 3
  | [] => rfl
  | x :: r => by
    have : flS (x :: r) = [.int .i64 (x.1.1 : Int), .int .i64 (x.1.2.1 : Int), x.2] ++ flS r := rfl
    rw [this, List.length_append, flS_len r, List.length_cons]
    simp
    omega
theorem flS_get : ∀ {l : List (Sd × Value)} {k : Nat} {x : Sd × Value}, l[k]? = some x → (flS l)[k * 3]? = some (.int .i64 (x.1.1 : Int)) ∧ (flS l)[k * 3 + 1]? = some (.int .i64 (x.1.2.1 : Int)) ∧ (flS l)[k * 3 + 2]? = some x.2
  | [], k, x, h => by simp at h
  | y :: r, 0, x, h => by
    have : y = x := by simpa using h
    subst this
    exact ⟨rfl, rfl, rfl⟩
  | y :: r, k + 1, x, h => by
    obtain ⟨h0, h1, h2⟩ := flS_get (l := r) (k := k) (x := x) (by simpa using h)
    have e : flS (y :: r) = .int .i64 (y.1.1 : Int) :: .int .i64 (y.1.2.1 : Int) :: y.2 :: flS r := rfl
    rw [e]
    have a0 : (k + 1) * 3 = k * 3 + 1 + 1 + 1 := by omega
    have a1 : (k + 1) * 3 + 1 = (k * 3 + 1) + 1 + 1 + 1 := by omega
    have a2 : (k + 1) * 3 + 2 = (k * 3 + 2) + 1 + 1 + 1 := by omega
    refine ⟨?_, ?_, ?_⟩
    · rw [a0, List.getElem?_cons_succ, List.getElem?_cons_succ, List.getElem?_cons_succ]; exact h0
    · rw [a1, List.getElem?_cons_succ, List.getElem?_cons_succ, List.getElem?_cons_succ]; exact h1
    · rw [a2, List.getElem?_cons_succ, List.getElem?_cons_succ, List.getElem?_cons_succ]; exact h2
/-- A row of states, each with its slots. -/
def RowS (S : Nat) (w : World) (base : Nat) (v : Value) (L : List (Sd × Value)) : Prop := w.ownsRow base 76 3 v L.length (flS L) ∧ ∀ p ∈ L, w.ownsRow base 3 1 p.2 S (p.1.2.2.map (Value.int .i64))
theorem RowS.low {S : Nat} {w w' : World} {base : Nat} {v : Value} {L : List (Sd × Value)} (h : RowS S w base v L) (hb : Below w.heap.size w w') : RowS S w' base v L := ⟨own_low h.1 hb, fun p hp => own_low (h.2 p hp) hb⟩
theorem own_two3 {w : World} {b1 b2 : Nat} {s1 s2 n1 n2 : Nat} {v1 v2 : Value} {x1 x2 : List Value} (h1 : w.ownsRow b1 3 s1 v1 n1 x1) (h2 : w.ownsRow b2 76 s2 v2 n2 x2) : v1.ownBlock = none ∨ v1.ownBlock ≠ v2.ownBlock := by
  rcases h1.2 with ⟨rfl, _⟩ | ⟨g1, c1, u1, rfl, _, hh1, _⟩
  · exact .inl rfl
  · right
    rcases h2.2 with ⟨rfl, _⟩ | ⟨g2, c2, u2, rfl, _, hh2, _⟩
    · intro e; cases e
    · intro e
      have e' : g1 = g2 := Option.some.inj e
      subst e'
      rw [hh1] at hh2
      have := Option.some.inj hh2
      cases this
/-- The row behind add. -/
def adV (L : List (Sd × Value)) (x : Sd) (u : Value) : List (Sd × Value) := if x ∈ L.map (·.1) then L else L ++ [(x, u)]
theorem adV_map (L : List (Sd × Value)) (x : Sd) (u : Value) : (adV L x u).map (·.1) = adS (L.map (·.1)) x := by
  unfold adV adS
  split
  · rfl
  · rw [List.map_append]; rfl
theorem add_at (b o k : Nat) : (⟨b, o, none⟩ : Addr).add k = ⟨b, o + k, none⟩ := by
  unfold Addr.add
  split
  · simp [*]
  · rfl
theorem newsS (u : World) (x y z : Value) {b : Nat} (hb : u.heap.size = b) : ∀ (j : Nat) (v : Value), ([x, y, z] : List Value)[j]? = some v → (u.alloc (Obj.cells #[x, y, z] 76)).cell? ((⟨b, 0, none⟩ : Addr).add j) = some v := by
  subst hb
  intro j v hj
  rw [add_at, Nat.zero_add]
  rcases j with _ | _ | _ | j
  · cases hj; go_cell
  · cases hj; go_cell
  · cases hj; go_cell
  · cases hj
theorem oneS (x y : Int) (q : Option Addr) (n c : Nat) : ∀ u ∈ ([.int .i64 x, .int .i64 y, .slice q n c] : List Value), u.oneCell' = true := by
  intro u hu
  simp only [List.mem_cons, List.not_mem_nil, or_false] at hu
  rcases hu with rfl | rfl | rfl <;> rfl
theorem ownS_slice {w : World} {base n : Nat} {v : Value} {xs : List Value} (h : w.ownsRow base 76 3 v n xs) : ∃ q c, v = .slice q n c ∧ (0 < n → ∃ g, q = some ⟨g, 0, none⟩) := by
  rcases h.2 with ⟨rfl, h0⟩ | ⟨g, cap, cur, rfl, -⟩
  · exact ⟨none, 0, by rw [h0], fun h => by omega⟩
  · exact ⟨_, _, rfl, fun _ => ⟨_, rfl⟩⟩

/-- What add answers. -/
def AD (S base : Nat) (L : List (Sd × Value)) (v : Value) (x : Sd) (u : Value) (w : World) (e : Ending) (w' : World) : Prop := ∃ q m c, e = .returned (.slice q m c) ∧ (adV L x u).length = m ∧ RowS S w' base (.slice q m c) (adV L x u) ∧ w.grownBy w' v.ownBlock ∧ Nw w.heap.size v (.slice q m c)
set_option maxRecDepth 100000 in
set_option maxHeartbeats 2000000 in
theorem add1 (S base : Nat) (L : List (Sd × Value)) (q : Option Addr) (m c : Nat) (a l : Nat) (s : List Int) (u : Value) (w : World) (hS : S ≤ 64) (hb : base ≤ w.heap.size) (hm : L.length = m) (hm9 : m ≤ 100000) (hR : Hid (RowS S w base (.slice q m c) L)) (hU : Hid (w.ownsRow base 3 1 u S (s.map (Value.int .i64)))) :
    Calls Try.prog 53 #[.slice q m c, rv (a : Int) (l : Int) u] w (AD S base L (.slice q m c) (a, l, s) u w) := by
  obtain ⟨qu, cu, rfl, -⟩ := own_sl hU.out
  have HM := Lib.hid hm
  have W1 := Lib.hid ((Below.refl w.heap.size w).alloc (Nat.le_refl _) (Obj.cells #[Value.int .i64 (a : Int), Value.int .i64 (l : Int), Value.slice qu S cu] 76))
  have C0 : Hid ((w.alloc (Obj.cells #[Value.int .i64 (a : Int), Value.int .i64 (l : Int), Value.slice qu S cu] 76)).cell? ⟨w.heap.size, 0, none⟩ = some (.int .i64 (a : Int)) ∧ (w.alloc (Obj.cells #[Value.int .i64 (a : Int), Value.int .i64 (l : Int), Value.slice qu S cu] 76)).cell? ⟨w.heap.size, 1, none⟩ = some (.int .i64 (l : Int)) ∧ (w.alloc (Obj.cells #[Value.int .i64 (a : Int), Value.int .i64 (l : Int), Value.slice qu S cu] 76)).cell? ⟨w.heap.size, 2, none⟩ = some (.slice qu S cu)) := Lib.hid ⟨by go_cell, by go_cell, by go_cell⟩
  have SMq := Lib.hid fun (a9 l9 : Nat) (s9 : List Int) (u9 : Value) (y : World) h1 h2 => same1 a9 l9 a l s9 s u9 (.slice qu S cu) S base y hS h1 h2
  unfold rv at SMq ⊢
  clear hm
  go_enter Try.func53, Try.ntmps53
  go_upto_region 2 with fail
  generalize w.alloc (Obj.cells #[Value.int .i64 (a : Int), Value.int .i64 (l : Int), Value.slice qu S cu] 76) = w1 at *
  go_loopw [5] (fun iv wr => ∃ i : Nat, iv = .int .i64 (i : Int) ∧ i ≤ m ∧ Hid (∀ j p, j < i → L[j]? = some p → p.1 ≠ (a, l, s)) ∧ Hid (Below w.heap.size w wr) ∧ Hid (wr.cell? ⟨w.heap.size, 0, none⟩ = some (.int .i64 (a : Int)) ∧ wr.cell? ⟨w.heap.size, 1, none⟩ = some (.int .i64 (l : Int)) ∧ wr.cell? ⟨w.heap.size, 2, none⟩ = some (.slice qu S cu))) (fun iv _ => m - (intOf iv).toNat)
  case atStart => exact ⟨0, rfl, Nat.zero_le _, Lib.hid (fun j p hj => absurd hj (Nat.not_lt_zero _)), W1, C0⟩
  case round =>
    clear W1 C0
    obtain ⟨i, rfl, hi, HE, KJ, HC⟩ := hrel
    obtain ⟨b0, b1, b2⟩ := HC.out
    have ltb := World.block_lt_of_cell? _ _ b0
    by_cases him : i < m
    · have i2 : (i : Int) < m := by omega
      have i0 : (0 : Int) ≤ i := by omega
      have hR1 := hR.out.1
      rw [HM.out] at hR1
      obtain ⟨q9, c9, hv9, hg9⟩ := ownS_slice hR1
      cases hv9
      obtain ⟨g, rfl⟩ := hg9 (by omega)
      obtain ⟨⟨⟨a9, l9, s9⟩, u9⟩, hp⟩ : ∃ p, L[i]? = some p := ⟨_, List.getElem?_eq_getElem (by rw [HM.out]; exact him)⟩
      have hrow := hR1
      obtain ⟨f0, f1, f2⟩ := flS_get hp
      dsimp only at f0 f1 f2
      have y0 := (hR1.cellAt (i * 3) (by omega)).trans f0
      have y1 := (hR1.cellAt (i * 3 + 1) (by omega)).trans f1
      have y2 := (hR1.cellAt (i * 3 + 2) (by omega)).trans f2
      have x0 := Rg.keep KJ.out (World.block_lt_of_cell? _ _ y0) y0
      have x1 := Rg.keep KJ.out (World.block_lt_of_cell? _ _ y1) y1
      have x2 := Rg.keep KJ.out (World.block_lt_of_cell? _ _ y2) y2
      have hu9 := hR.out.2 _ (List.mem_of_getElem? hp)
      dsimp only at hu9
      obtain ⟨B, hB⟩ : ∃ B, decide (((a9, l9, s9) : Sd) = (a, l, s)) = B := ⟨_, rfl⟩
      have SM : Hid (∀ y, Below wr.heap.size wr y → Calls Try.prog 70 #[.agg #[.int .i64 (a9 : Int), .int .i64 (l9 : Int), u9], .agg #[.int .i64 (a : Int), .int .i64 (l : Int), .slice qu S cu]] y fun e y' => e = .returned (.bool B) ∧ Below y.heap.size y y') := Lib.hid fun y hy => by
        have hk := KJ.out.trans (hy.mono KJ.out.size)
        have g := SMq.out a9 l9 s9 u9 y (Lib.hid (own_low hu9 hk)) (Lib.hid (own_low hU.out hk))
        rw [hB] at g
        exact g
      obtain ⟨qq, cc, hq9, -⟩ := own_sl hu9
      subst hq9
      have HB := Lib.hid hB
      have HP := Lib.hid hp
      clear hB hp f0 f1 f2 y0 y1 y2 hR1 hrow hu9
      go_upto_region 4 with fail
      have HS : Hid (∀ u u' : World, (u.cell? ⟨g, i * 3, none⟩ = some (.int .i64 (a9 : Int)) ∧ u.cell? ⟨g, i * 3 + 1, none⟩ = some (.int .i64 (l9 : Int)) ∧ u.cell? ⟨g, i * 3 + 2, none⟩ = some (.slice qq S cc) ∧ u.cell? ⟨w.heap.size, 0, none⟩ = some (.int .i64 (a : Int)) ∧ u.cell? ⟨w.heap.size, 1, none⟩ = some (.int .i64 (l : Int)) ∧ u.cell? ⟨w.heap.size, 2, none⟩ = some (.slice qu S cu) ∧ Below wr.heap.size wr u) → Below u.heap.size u u' → (u'.cell? ⟨g, i * 3, none⟩ = some (.int .i64 (a9 : Int)) ∧ u'.cell? ⟨g, i * 3 + 1, none⟩ = some (.int .i64 (l9 : Int)) ∧ u'.cell? ⟨g, i * 3 + 2, none⟩ = some (.slice qq S cc) ∧ u'.cell? ⟨w.heap.size, 0, none⟩ = some (.int .i64 (a : Int)) ∧ u'.cell? ⟨w.heap.size, 1, none⟩ = some (.int .i64 (l : Int)) ∧ u'.cell? ⟨w.heap.size, 2, none⟩ = some (.slice qu S cu) ∧ Below wr.heap.size wr u')) := Lib.hid (fun u u' h hb => ⟨Rg.keep hb (World.block_lt_of_cell? _ _ h.1) h.1, Rg.keep hb (World.block_lt_of_cell? _ _ h.2.1) h.2.1, Rg.keep hb (World.block_lt_of_cell? _ _ h.2.2.1) h.2.2.1, Rg.keep hb (World.block_lt_of_cell? _ _ h.2.2.2.1) h.2.2.2.1, Rg.keep hb (World.block_lt_of_cell? _ _ h.2.2.2.2.1) h.2.2.2.2.1, Rg.keep hb (World.block_lt_of_cell? _ _ h.2.2.2.2.2.1) h.2.2.2.2.2.1, h.2.2.2.2.2.2.trans (hb.mono h.2.2.2.2.2.2.size)⟩)
      refine Rk.begin (S := fun wS => wS.cell? ⟨g, i * 3, none⟩ = some (.int .i64 (a9 : Int)) ∧ wS.cell? ⟨g, i * 3 + 1, none⟩ = some (.int .i64 (l9 : Int)) ∧ wS.cell? ⟨g, i * 3 + 2, none⟩ = some (.slice qq S cc) ∧ wS.cell? ⟨w.heap.size, 0, none⟩ = some (.int .i64 (a : Int)) ∧ wS.cell? ⟨w.heap.size, 1, none⟩ = some (.int .i64 (l : Int)) ∧ wS.cell? ⟨w.heap.size, 2, none⟩ = some (.slice qu S cu) ∧ Below wr.heap.size wr wS) 5 (by kernel_rfl) ⟨x0, x1, x2, b0, b1, b2, Below.drew (Below.refl _ _)⟩ (fun hHeld => ?_)
      refine Rk.takeP (i := 0) (v := ?_) rfl (by kernel_rfl) (by kernel_rfl) (by kernel_rfl) (by kernel_rfl) (fun _ _ _ h => h) (Or.inl ⟨by kernel_rfl, ?_⟩) (by assumption) ?_
      rotate_left
      · ((intro w hSw; go_simp) <;> with_reducible rfl)
      try simp only [Act.put, List.setIfInBounds_toArray, List.set_cons_zero, List.set_cons_succ]
      refine Rk.takeP (i := 1) (v := ?_) rfl (by kernel_rfl) (by kernel_rfl) (by kernel_rfl) (by kernel_rfl) (fun _ _ _ h => h) (Or.inl ⟨by kernel_rfl, ?_⟩) (by assumption) ?_
      rotate_left
      · ((intro w hSw; go_simp) <;> with_reducible rfl)
      try simp only [Act.put, List.setIfInBounds_toArray, List.set_cons_zero, List.set_cons_succ]
      refine Rk.takeP (i := 2) (v := ?_) rfl (by kernel_rfl) (by kernel_rfl) (by kernel_rfl) (by kernel_rfl) (fun _ _ _ h => h) (Or.inl ⟨by kernel_rfl, ?_⟩) (by assumption) ?_
      rotate_left
      · ((intro w hSw; go_simp) <;> with_reducible rfl)
      try simp only [Act.put, List.setIfInBounds_toArray, List.set_cons_zero, List.set_cons_succ]
      refine Rk.take [5] (i := 3) (v := ?_) rfl (by kernel_rfl) (by kernel_rfl) (by kernel_rfl) (by kernel_rfl) (by kernel_rfl) (fun _ _ _ h => h) (Or.inl ⟨by kernel_rfl, ?_⟩) (by assumption) ?_
      rotate_left
      · ((intro w hSw; (try dsimp only at hSw); go_simp) <;> with_reducible rfl)
      try simp only [Act.put, List.setIfInBounds_toArray, List.set_cons_zero, List.set_cons_succ]
      refine Rk.take [5] (i := 4) (v := ?_) rfl (by kernel_rfl) (by kernel_rfl) (by kernel_rfl) (by kernel_rfl) (by kernel_rfl) (fun _ _ _ h => h) (Or.inl ⟨by kernel_rfl, ?_⟩) (by assumption) ?_
      rotate_left
      · ((intro w hSw; (try dsimp only at hSw); go_simp) <;> with_reducible rfl)
      try simp only [Act.put, List.setIfInBounds_toArray, List.set_cons_zero, List.set_cons_succ]
      refine Rk.tail [5] [_] (by kernel_rfl) (by kernel_rfl) rfl (by decide) ?_
      have KU := hHeld.2.2.2.2.2.2
      clear x0 x1 x2 b0 b1 b2
      obtain ⟨x0, x1, x2, b0, b1, b2, -⟩ := hHeld
      cases B
      · have HE2 : Hid (∀ j p, j < i + 1 → L[j]? = some p → p.1 ≠ (a, l, s)) := Lib.hid fun j p hj hp => by
          by_cases e : j = i
          · subst e
            rw [HP.out] at hp
            cases hp
            exact of_decide_eq_false HB.out
          · exact HE.out j p (by omega) hp
        go_wp2_with (go_at_call 70; refine (SM.out _ KU).mono ?_; rintro e wu ⟨rfl, hb⟩; have KW := KU.trans (hb.mono KU.size); have KN := Lib.hid (KJ.out.trans (KW.mono KJ.out.size)); have ltu := Nat.lt_of_lt_of_le ltb KU.size; have CN := Lib.hid (And.intro (Rg.keep hb ltu b0) (And.intro (Rg.keep hb ltu b1) (Rg.keep hb ltu b2))); clear hb)
        go_roundw
        case rel => exact ⟨i + 1, by simp, by omega, HE2, KN, CN⟩
        case measure => simp [intOf]; omega
      · have hin : ((a, l, s) : Sd) ∈ L.map (·.1) := by
          have e : ((a9, l9, s9) : Sd) = (a, l, s) := of_decide_eq_true HB.out
          rw [← e]
          exact List.mem_map.2 ⟨_, List.mem_of_getElem? HP.out, rfl⟩
        have ead : adV L (a, l, s) (.slice qu S cu) = L := if_pos hin
        go_wp2_with (go_at_call 70; refine (SM.out _ KU).mono ?_; rintro e wu ⟨rfl, hb⟩; have KW := KU.trans (hb.mono KU.size); have KN := Lib.hid (KJ.out.trans (KW.mono KJ.out.size)); have ltu := Nat.lt_of_lt_of_le ltb KU.size; have CN := Lib.hid (And.intro (Rg.keep hb ltu b0) (And.intro (Rg.keep hb ltu b1) (Rg.keep hb ltu b2))); clear hb)
        go_ret
        exact ⟨_, m, c, rfl, by rw [ead]; exact HM.out, by rw [ead]; exact hR.out.low KN.out, gx_below KN.out _, Nw.refl _ _⟩
    · obtain rfl : i = m := by omega
      have gN : decide ((i : Int) < i) = false := by simp
      have hni : ¬ ((a, l, s) : Sd) ∈ L.map (·.1) := fun h => by
        obtain ⟨p, hp, he⟩ := List.mem_map.1 h
        obtain ⟨j, hj⟩ := List.getElem?_of_mem hp
        have hjl := (List.getElem?_eq_some_iff.1 hj).1
        exact HE.out j p (by rw [← HM.out]; exact hjl) hj he
      have ead : adV L (a, l, s) (.slice qu S cu) = L ++ [((a, l, s), .slice qu S cu)] := if_neg hni
      obtain ⟨j0, hinf, hz0, hz1, hz2⟩ := info_parts info76
      have HRJ := Lib.hid (hR.out.low KJ.out)
      have HUJ := Lib.hid (own_low hU.out KJ.out)
      have hKs := KJ.out.size
      have VJ := HRJ.out.1
      rw [HM.out] at VJ
      go_wp2_with (at_builtin; refine wpList_append_own_at _ rfl _ _ 73 rfl base 76 j0 (.agg #[.int .i64 0, .int .i64 0, .slice none 0 0]) 3 40 Try.underlying73 hinf hz0 hz1 hz2 rfl (by decide) _ _ _ rfl (VJ.alloc (Obj.cells #[Value.int .i64 (a : Int), Value.int .i64 (l : Int), Value.slice qu S cu] 76)) ⟨wr.heap.size, 0, none⟩ 1 1 [.int .i64 (a : Int), .int .i64 (l : Int), .slice qu S cu] rfl rfl (newsS wr (.int .i64 (a : Int)) (.int .i64 (l : Int)) (.slice qu S cu) rfl) (oneS _ _ _ _ _) (by unfold maxLen; omega) (by omega) (by simp; omega) ?_; intro v8 w8 hown8 hgrow _ hat; obtain ⟨qn, cn, hv8, -⟩ := ownS_slice hown8; subst hv8; have HO8 := Lib.hid hown8; have HG8 := Lib.hid hgrow; have HA8 := Lib.hid hat; clear hown8 hgrow hat)
      go_ret
      refine ⟨qn, i + 1, cn, rfl, by rw [ead, List.length_append, HM.out]; rfl, ?_, ?_, ?_⟩
      · rw [ead]
        refine ⟨by rw [List.length_append, HM.out, flS_app]; exact HO8.out, fun p hp => ?_⟩
        rcases List.mem_append.1 hp with h | h
        · exact ((HRJ.out.2 p h).alloc _).kept HG8.out (own_two3 ((HRJ.out.2 p h).alloc _) (VJ.alloc (Obj.cells #[Value.int .i64 (a : Int), Value.int .i64 (l : Int), Value.slice qu S cu] 76)))
        · rw [List.mem_singleton] at h
          subst h
          exact (HUJ.out.alloc _).kept HG8.out (own_two3 (HUJ.out.alloc _) (VJ.alloc (Obj.cells #[Value.int .i64 (a : Int), Value.int .i64 (l : Int), Value.slice qu S cu] 76)))
      · exact gx_trans ((gx_below KJ.out _)) (gx_trans (gx_alloc wr (Obj.cells #[Value.int .i64 (a : Int), Value.int .i64 (l : Int), Value.slice qu S cu] 76) _) HG8.out (.inl rfl)) (.inl rfl)
      · exact Nw.of HA8.out (by simp; omega)
end Go.Proofs.Ytndmpoomdoojpaa.Ck.Sr
