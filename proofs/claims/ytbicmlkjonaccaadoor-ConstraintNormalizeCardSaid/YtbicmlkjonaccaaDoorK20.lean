/- The reference: sorting. -/
import Derived.Test.YtbicmlkjonaccaaDoorK6
import Derived.Test.YtbicmlkjonaccaaDoorK12
import Derived.Test.YtbicmlkjonaccaaDoorK19
import Derived.Test.YtbicmlkjonaccaaDoorK5
import Derived.Test.YtbicmlkjonaccaaDoorK4
import Derived.Test.YtbicmlkjonaccaaDoorK3

namespace Go.Proofs.YtbicmlkjonaccaaDoor.Ln
open Go.ChangeShapes Go.WideShapes Go.ChangeAt Go.RowKit
open Go.Proofs.YtbicmlkjonaccaaDoor.Nm
set_option linter.unusedVariables false
set_option linter.unusedSimpArgs false
set_option maxRecDepth 8000

/-- The order of forms. -/
def fc (a b : Qm) : Int := cl a.1 a.2.1 b.1 b.2.1
theorem fc_lt {a b : Qm} : fc a b < 0 ↔ lc a.2.1 b.2.1 < 0 \/ (a.2.1 = b.2.1 /\ a.1 < b.1) := cl_lt
theorem fc_asym {a b : Qm} (h : fc a b < 0) : ¬ fc b a < 0 := by
 have := cl_swap a.1 a.2.1 b.1 b.2.1
 unfold fc at *
 omega
theorem fc_tr {a b c : Qm} (h : ¬ fc b a < 0) (h2 : ¬ fc c b < 0) : ¬ fc c a < 0 := by
 have s1 := cl_swap a.1 a.2.1 b.1 b.2.1
 have s2 := cl_swap b.1 b.2.1 c.1 c.2.1
 have s3 := cl_swap a.1 a.2.1 c.1 c.2.1
 unfold fc at *
 by_cases e1 : cl a.1 a.2.1 b.1 b.2.1 = 0
 ·obtain ⟨k1, k2⟩ := cl_zero.1 e1
  rw [k1, k2]; exact h2
 ·by_cases e2 : cl b.1 b.2.1 c.1 c.2.1 = 0
  ·obtain ⟨k1, k2⟩ := cl_zero.1 e2
   rw [<- k1, <- k2]; exact h
  ·have a1 : cl a.1 a.2.1 b.1 b.2.1 < 0 := by omega
   have a2 : cl b.1 b.2.1 c.1 c.2.1 < 0 := by omega
   rw [cl_lt] at a1 a2
   have a3 : cl a.1 a.2.1 c.1 c.2.1 < 0 := by
    rw [cl_lt]
    rcases a1 with a1 | ⟨a1, k1⟩
    ·rcases a2 with a2 | ⟨a2, k2⟩
     ·exact .inl (lc_trans _ _ _ a1 a2)
     ·rw [a2] at a1; exact .inl a1
    ·rcases a2 with a2 | ⟨a2, k2⟩
     ·rw [<- a1] at a2; exact .inl a2
     ·exact .inr ⟨a1.trans a2, by omega⟩
   omega
theorem ord_fc (f : E5 -> Qm) : OrdC (fun x y => fc (f x) (f y)) := ⟨fun x y h => fc_asym h, fun x y z h h2 => fc_tr h h2⟩
def Lx (e : E5) : Value := .agg #[.int .i64 e.1, .slice e.2.1 e.2.2.1 e.2.2.2.1]
theorem fcmpL (w0 : World) (L : List E5) (ts : List Qm) (h : StdL w0 L ts) (hm : ∀ t ∈ ts, t.2.1.length <= maxLen) : ∀ x, x ∈ L -> ∀ y, y ∈ L -> ∀ w', K59 w0 w' -> Calls Tryd.prog 110 #[Lx x, Lx y] w' fun e w2 => e = .returned (.int .i64 (fc (stQ w0 x) (stQ w0 y))) /\ Below w'.heap.size w' w2 := by
 intro x hx y hy w' hk
 obtain ⟨⟨a1, a2, a3, a4⟩, am⟩ := h.mem hx
 obtain ⟨⟨b1, b2, b3, b4⟩, bm⟩ := h.mem hy
 obtain ⟨k, p, n, c, ea⟩ := x
 obtain ⟨k', q, m, d, eb⟩ := y
 dsimp only at a1 a2 a3 a4 b1 b2 b3 b4
 generalize hX : stQ w0 (k, p, n, c, ea) = X at *
 generalize hY : stQ w0 (k', q, m, d, eb) = Y at *
 obtain ⟨K, xs, f⟩ := X
 obtain ⟨K', ys, f'⟩ := Y
 dsimp only at a1 a2 a3 a4 b1 b2 b3 b4
 subst a1 a2 a3 b1 b2 b3
 exact cmp2 k p xs c k' q ys d w' (hm _ am) (hm _ bm) (Lib.hid (a4.on hk).1) (Lib.hid (b4.on hk).1)
theorem rsort0 (w : World) : Calls Tryd.prog 78 #[.slice none 0 0] w fun e w' => e = .returned (.slice none 0 0) /\ Below w.heap.size w w' := by
 go_enter Tryd.func78, Tryd.ntmps78
 go_wp2_with fail
 refine wp_loop_rounds 2 ?_
 rw [rounds_succ]
 go_wp2_with fail
 go_ret
 exact ⟨rfl, Below.refl _ _⟩
set_option maxRecDepth 100000 in
set_option maxHeartbeats 8000000 in
/-- The reference's sorting, whatever the row. -/
theorem rsortN (g cap base n : Nat) (L0 : List E5) (cf : E5 -> E5 -> Int) (w : World) (hn : n <= 100000) (hl : L0.length = n) (hO : Hid (w.ownsRow base 36 3 (.slice (some ⟨g, 0, none⟩) n cap) n (rowE L0)))
  (NC : Hid (∀ x, x ∈ L0 -> ∀ y, y ∈ L0 -> ∀ w', K59 w w' -> Calls Tryd.prog 110 #[Lx x, Lx y] w' fun e w2 => e = .returned (.int .i64 (cf x y)) /\ Below w'.heap.size w' w2)) (hbw : base <= w.heap.size) :
  Calls Tryd.prog 78 #[.slice (some ⟨g, 0, none⟩) n cap] w fun e w' => e = .returned (.slice (some ⟨g, 0, none⟩) n cap) /\ Below base w w' /\ K59 w w' /\ Hid (w'.ownsRow base 36 3 (.slice (some ⟨g, 0, none⟩) n cap) n (rowE (insI cf 0 (n - (0 + 1)) (0 + 1) L0))) := by
 obtain ⟨RES, hRES⟩ : ∃ RES, insI cf 0 (n - (0 + 1)) (0 + 1) L0 = RES := ⟨_, rfl⟩
 rw [hRES]
 have HRES := Lib.hid hRES
 have HL := Lib.hid hl
 have hbg : base <= g \/ n = 0 := by
  rcases hO.out.2 with ⟨h, hz⟩ | ⟨g', cap', cur, h, hb, _⟩
  ·simp at h
  ·cases h; exact .inl hb
 have hbase : base <= g \/ n = 0 := hbg
 unfold Lx at NC
 clear hRES hl
 go_enter Tryd.func78, Tryd.ntmps78
 go_wp2_with fail
 go_loopw [3] (fun iv wr => ∃ (i : Nat) (L : List E5), iv = .int .i64 (i : Int) /\ 1 <= i /\ i <= n + 1 /\ Hid (insI cf 0 (n - i) i L = RES) /\ Hid (L.length = n /\ ∀ x ∈ L, x ∈ L0) /\ Hid (wr.ownsRow base 36 3 (.slice (some ⟨g, 0, none⟩) n cap) n (rowE L)) /\ Hid (Below base w wr) /\ Hid (K59 w wr)) (fun iv _ => n - (intOf iv).toNat)
 case atStart => exact ⟨1, L0, rfl, Nat.le_refl _, by omega, HRES, Lib.hid ⟨HL.out, fun x h => h⟩, hO, Lib.hid (Below.refl _ _), Lib.hid (fun _ _ h => h)⟩
 case round =>
  obtain ⟨i, L, rfl, hi, hin, hR, hM, hOW, hB, hK⟩ := hrel
  have ii : (0 : Int) <= i := by omega
  by_cases hlt : i < n
  ·have i2 : (i : Int) < n := by omega
   have HI : Hid (insI cf 0 (n - (i + 1)) (i + 1) (insJ cf 0 i L) = RES) := Lib.hid (by
    have h := hR.out
    rw [show n - i = (n - (i + 1)) + 1 by omega] at h
    exact h)
   clear hR
   go_wp2_with fail
   go_loopw [4] (fun jv wr => ∃ (j : Nat) (L2 : List E5), jv = .int .i64 (j : Int) /\ j <= i /\ Hid (insJ cf 0 j L2 = insJ cf 0 i L) /\ Hid (L2.length = n /\ ∀ x ∈ L2, x ∈ L0) /\ Hid (wr.ownsRow base 36 3 (.slice (some ⟨g, 0, none⟩) n cap) n (rowE L2)) /\ Hid (Below base w wr) /\ Hid (K59 w wr)) (fun jv _ => (intOf jv).toNat)
   case atStart => exact ⟨i, L, rfl, Nat.le_refl _, Lib.hid rfl, hM, hOW, hB, hK⟩
   case round =>
    clear hM hOW hB hK
    obtain ⟨j, L2, rfl, hji, hJ, hM, hOW, hB, hK⟩ := hrel
    have jj : (0 : Int) <= j := by omega
    by_cases hja : 0 < j
    ·obtain ⟨m, rfl⟩ : ∃ m, j = m + 1 := ⟨j - 1, by omega⟩
     have hm1 : m + 1 < L2.length := by rw [hM.out.1]; omega
     have hm0 : m < L2.length := by omega
     obtain ⟨v0, v1, v2⟩ := rowE_get L2 (m + 1) hm1
     obtain ⟨u0, u1, u2⟩ := rowE_get L2 m hm0
     have HX : Hid (L2.getD (m + 1) e50 ∈ L0) := Lib.hid (hM.out.2 _ (getD_mem5 hm1))
     have HY : Hid (L2.getD m e50 ∈ L0) := Lib.hid (hM.out.2 _ (getD_mem5 hm0))
     have c0 := (hOW.out.cellAt ((m + 1) * 3) (by omega)).trans v0
     have c1 := (hOW.out.cellAt ((m + 1) * 3 + 1) (by omega)).trans v1
     have c2 := (hOW.out.cellAt ((m + 1) * 3 + 2) (by omega)).trans v2
     have d0 := (hOW.out.cellAt (m * 3) (by omega)).trans u0
     have d1 := (hOW.out.cellAt (m * 3 + 1) (by omega)).trans u1
     have d2 := (hOW.out.cellAt (m * 3 + 2) (by omega)).trans u2
     obtain ⟨x, hx⟩ : ∃ x, L2.getD (m + 1) e50 = x := ⟨_, rfl⟩
     obtain ⟨y, hy⟩ : ∃ y, L2.getD m e50 = y := ⟨_, rfl⟩
     have HX0 := Lib.hid hx
     have HY0 := Lib.hid hy
     rw [hx] at c0 c1 c2 HX
     rw [hy] at d0 d1 d2 HY
     have HC2 := Lib.hid (And.intro c2 d2)
     have wj : IntKind.i64.wrap ((m : Int) + 1 - 1) = m := by rw [IntKind.wrap_i64]; omega
     have wj2 : IntKind.i64.wrap (m : Int) = m := by rw [IntKind.wrap_i64]; omega
     have j1 : decide ((0 : Int) < (m : Int) + 1) = true := by rw [decide_eq_true_eq]; omega
     have j2 : (m : Int) + 1 < n := by omega
     have j3 : (m : Int) < n := by omega
     have j4 : (0 : Int) <= m := by omega
     have j5 : (0 : Int) <= (m : Int) + 1 := by omega
     have HKW := Lib.hid hK.out
     have hz4 : wr.drew.cell? ⟨g, (m + 1) * 3, none⟩ = some (.int .i64 x.1) /\ wr.drew.cell? ⟨g, (m + 1) * 3 + 1, none⟩ = some (.slice x.2.1 x.2.2.1 x.2.2.2.1) /\ wr.drew.cell? ⟨g, m * 3, none⟩ = some (.int .i64 y.1) /\ wr.drew.cell? ⟨g, m * 3 + 1, none⟩ = some (.slice y.2.1 y.2.2.1 y.2.2.2.1) /\ Below wr.heap.size wr wr.drew := ⟨c0, c1, d0, d1, (Below.refl _ _).drew⟩
     have HS : Hid (∀ u u' : World, (u.cell? ⟨g, (m + 1) * 3, none⟩ = some (.int .i64 x.1) /\ u.cell? ⟨g, (m + 1) * 3 + 1, none⟩ = some (.slice x.2.1 x.2.2.1 x.2.2.2.1) /\ u.cell? ⟨g, m * 3, none⟩ = some (.int .i64 y.1) /\ u.cell? ⟨g, m * 3 + 1, none⟩ = some (.slice y.2.1 y.2.2.1 y.2.2.2.1) /\ Below wr.heap.size wr u) -> Below u.heap.size u u' -> (u'.cell? ⟨g, (m + 1) * 3, none⟩ = some (.int .i64 x.1) /\ u'.cell? ⟨g, (m + 1) * 3 + 1, none⟩ = some (.slice x.2.1 x.2.2.1 x.2.2.2.1) /\ u'.cell? ⟨g, m * 3, none⟩ = some (.int .i64 y.1) /\ u'.cell? ⟨g, m * 3 + 1, none⟩ = some (.slice y.2.1 y.2.2.1 y.2.2.2.1) /\ Below wr.heap.size wr u')) := Lib.hid (fun u u' h hb => ⟨Rg.keep hb (World.block_lt_of_cell? _ _ h.1) h.1, Rg.keep hb (World.block_lt_of_cell? _ _ h.2.1) h.2.1, Rg.keep hb (World.block_lt_of_cell? _ _ h.2.2.1) h.2.2.1, Rg.keep hb (World.block_lt_of_cell? _ _ h.2.2.2.1) h.2.2.2.1, h.2.2.2.2.trans (hb.mono h.2.2.2.2.size)⟩)
     obtain ⟨r, hr⟩ : ∃ r, cf x y = r := ⟨_, rfl⟩
     have HR9 := Lib.hid hr
     clear hx hy hr v0 v1 v2 u0 u1 u2 c0 c1 c2 d0 d1 d2
     by_cases hneg : r < 0
     ·have hr2 : decide (cf x y < 0) = true := by rw [HR9.out]; simpa using hneg
      go_wp2_with fail
      refine Rk.begin (S := fun wS => wS.cell? ⟨g, (m + 1) * 3, none⟩ = some (.int .i64 x.1) /\ wS.cell? ⟨g, (m + 1) * 3 + 1, none⟩ = some (.slice x.2.1 x.2.2.1 x.2.2.2.1) /\ wS.cell? ⟨g, m * 3, none⟩ = some (.int .i64 y.1) /\ wS.cell? ⟨g, m * 3 + 1, none⟩ = some (.slice y.2.1 y.2.2.1 y.2.2.2.1) /\ Below wr.heap.size wr wS) 15 (by kernel_rfl) hz4 (fun hHeld => ?_)
      refine Rk.takeP (i := 0) (v := ?_) rfl (by kernel_rfl) (by kernel_rfl) (by kernel_rfl) (by kernel_rfl) (fun _ _ _ h => h) (Or.inl ⟨by kernel_rfl, ?_⟩) (by assumption) ?_
      rotate_left
      ·((intro w hSw; go_simp) <;> with_reducible rfl)
      try simp only [wj, wj2, Act.put, List.setIfInBounds_toArray, List.set_cons_zero, List.set_cons_succ]
      refine Rk.takeP (i := 1) (v := ?_) rfl (by kernel_rfl) (by kernel_rfl) (by kernel_rfl) (by kernel_rfl) (fun _ _ _ h => h) (Or.inl ⟨by kernel_rfl, ?_⟩) (by assumption) ?_
      rotate_left
      ·((intro w hSw; go_simp) <;> with_reducible rfl)
      try simp only [wj, wj2, Act.put, List.setIfInBounds_toArray, List.set_cons_zero, List.set_cons_succ]
      refine Rk.takeP (i := 2) (v := ?_) rfl (by kernel_rfl) (by kernel_rfl) (by kernel_rfl) (by kernel_rfl) (fun _ _ _ h => h) (Or.inl ⟨by kernel_rfl, ?_⟩) (by assumption) ?_
      rotate_left
      ·((intro w hSw; go_simp) <;> with_reducible rfl)
      try simp only [wj, wj2, Act.put, List.setIfInBounds_toArray, List.set_cons_zero, List.set_cons_succ]
      refine Rk.takeP (i := 3) (v := ?_) rfl (by kernel_rfl) (by kernel_rfl) (by kernel_rfl) (by kernel_rfl) (fun _ _ _ h => h) (Or.inl ⟨by kernel_rfl, ?_⟩) (by assumption) ?_
      rotate_left
      ·((intro w hSw; go_simp) <;> with_reducible rfl)
      try simp only [wj, wj2, Act.put, List.setIfInBounds_toArray, List.set_cons_zero, List.set_cons_succ]
      refine Rk.takeP (i := 4) (v := ?_) rfl (by kernel_rfl) (by kernel_rfl) (by kernel_rfl) (by kernel_rfl) (fun _ _ _ h => h) (Or.inl ⟨by kernel_rfl, ?_⟩) (by assumption) ?_
      rotate_left
      ·((intro w hSw; go_simp) <;> with_reducible rfl)
      try simp only [wj, wj2, Act.put, List.setIfInBounds_toArray, List.set_cons_zero, List.set_cons_succ]
      refine Rk.takeP (i := 5) (v := ?_) rfl (by kernel_rfl) (by kernel_rfl) (by kernel_rfl) (by kernel_rfl) (fun _ _ _ h => h) (Or.inl ⟨by kernel_rfl, ?_⟩) (by assumption) ?_
      rotate_left
      ·((intro w hSw; go_simp) <;> with_reducible rfl)
      try simp only [wj, wj2, Act.put, List.setIfInBounds_toArray, List.set_cons_zero, List.set_cons_succ]
      refine Rk.takeP (i := 6) (v := ?_) rfl (by kernel_rfl) (by kernel_rfl) (by kernel_rfl) (by kernel_rfl) (fun _ _ _ h => h) (Or.inl ⟨by kernel_rfl, ?_⟩) (by assumption) ?_
      rotate_left
      ·((intro w hSw; go_simp) <;> with_reducible rfl)
      try simp only [wj, wj2, Act.put, List.setIfInBounds_toArray, List.set_cons_zero, List.set_cons_succ]
      refine Rk.take [14, 15] (i := 7) (v := ?_) rfl (by kernel_rfl) (by kernel_rfl) (by kernel_rfl) (by kernel_rfl) (by kernel_rfl) (fun _ _ _ h => h) (Or.inl ⟨by kernel_rfl, ?_⟩) (by assumption) ?_
      rotate_left
      ·((intro w hSw; (try dsimp only at hSw); go_simp) <;> with_reducible rfl)
      try simp only [wj, wj2, Act.put, List.setIfInBounds_toArray, List.set_cons_zero, List.set_cons_succ]
      refine Rk.takeP (i := 8) (v := ?_) rfl (by kernel_rfl) (by kernel_rfl) (by kernel_rfl) (by kernel_rfl) (fun _ _ _ h => h) (Or.inl ⟨by kernel_rfl, ?_⟩) (by assumption) ?_
      rotate_left
      ·((intro w hSw; go_simp) <;> with_reducible rfl)
      try simp only [wj, wj2, Act.put, List.setIfInBounds_toArray, List.set_cons_zero, List.set_cons_succ]
      refine Rk.takeP (i := 9) (v := ?_) rfl (by kernel_rfl) (by kernel_rfl) (by kernel_rfl) (by kernel_rfl) (fun _ _ _ h => h) (Or.inl ⟨by kernel_rfl, ?_⟩) (by assumption) ?_
      rotate_left
      ·((intro w hSw; go_simp) <;> with_reducible rfl)
      try simp only [wj, wj2, Act.put, List.setIfInBounds_toArray, List.set_cons_zero, List.set_cons_succ]
      refine Rk.takeP (i := 10) (v := ?_) rfl (by kernel_rfl) (by kernel_rfl) (by kernel_rfl) (by kernel_rfl) (fun _ _ _ h => h) (Or.inl ⟨by kernel_rfl, ?_⟩) (by assumption) ?_
      rotate_left
      ·((intro w hSw; go_simp) <;> with_reducible rfl)
      try simp only [wj, wj2, Act.put, List.setIfInBounds_toArray, List.set_cons_zero, List.set_cons_succ]
      refine Rk.takeP (i := 11) (v := ?_) rfl (by kernel_rfl) (by kernel_rfl) (by kernel_rfl) (by kernel_rfl) (fun _ _ _ h => h) (Or.inl ⟨by kernel_rfl, ?_⟩) (by assumption) ?_
      rotate_left
      ·((intro w hSw; go_simp) <;> with_reducible rfl)
      try simp only [wj, wj2, Act.put, List.setIfInBounds_toArray, List.set_cons_zero, List.set_cons_succ]
      refine Rk.takeP (i := 12) (v := ?_) rfl (by kernel_rfl) (by kernel_rfl) (by kernel_rfl) (by kernel_rfl) (fun _ _ _ h => h) (Or.inl ⟨by kernel_rfl, ?_⟩) (by assumption) ?_
      rotate_left
      ·((intro w hSw; go_simp) <;> with_reducible rfl)
      try simp only [wj, wj2, Act.put, List.setIfInBounds_toArray, List.set_cons_zero, List.set_cons_succ]
      refine Rk.take [14, 15] (i := 13) (v := ?_) rfl (by kernel_rfl) (by kernel_rfl) (by kernel_rfl) (by kernel_rfl) (by kernel_rfl) (fun _ _ _ h => h) (Or.inl ⟨by kernel_rfl, ?_⟩) (by assumption) ?_
      rotate_left
      ·((intro w hSw; (try dsimp only at hSw); go_simp) <;> with_reducible rfl)
      try simp only [wj, wj2, Act.put, List.setIfInBounds_toArray, List.set_cons_zero, List.set_cons_succ]
      refine Rk.one (i := 14) (by kernel_rfl) rfl (fun KK hK => ?_)
      rw [if_pos (by kernel_rfl)]
      go_simp
      ((with_reducible refine (NC.out x HX.out y HY.out _ (HKW.out.trans (K59.below (hHeld.2.2.2.2)))).mono ?_); rintro e u ⟨rfl, hb⟩)
      first | (refine hK.out _ _ (fun _ => HS.out _ _ hHeld hb) (fun hHeld => ?_)) | (refine hK.out _ _ (HS.out _ _ hHeld hb) (fun hHeld => ?_)) | (go_wp2_with fail; refine hK.out _ _ (HS.out _ _ hHeld hb) (fun hHeld => ?_))
      clear hK KK
      refine Rk.tail [15, 16] [_, _] (by kernel_rfl) (by kernel_rfl) rfl (by decide) ?_
      obtain ⟨e0, e1, e3, e4, KB0⟩ := hHeld
      have OU := own_belowE hOW.out KB0
      have KU : K59 wr u := K59.below KB0
      have lg1 : g < wr.heap.size := World.block_lt_of_cell? _ _ HC2.out.1
      have e2 := Rg.keep KB0 lg1 HC2.out.1
      have e5 := Rg.keep KB0 lg1 HC2.out.2
      have lg : g < u.heap.size := World.block_lt_of_cell? _ _ e2
      have ng : ¬ u.heap.size = g := by omega
      have ng2 : ¬ g = u.heap.size := by omega
      have HJ2 : Hid (insJ cf 0 m (swE L2 (m + 1) m) = insJ cf 0 i L) := Lib.hid (by
       rw [<- hJ.out, insJ_go (by omega) (by rw [HX0.out, HY0.out, HR9.out]; exact hneg)])
      have HM2 : Hid ((swE L2 (m + 1) m).length = n /\ ∀ z ∈ swE L2 (m + 1) m, z ∈ L0) := Lib.hid ⟨by rw [swE_len]; exact hM.out.1, fun z hz => hM.out.2 _ (swE_mem hm1 hm0 hz)⟩
      have HEND := Lib.hid (swE_world (x := x) (y := y) hbase OU hM.out.1 hm1 hm0 HX0.out HY0.out)
      have HBU := Lib.hid (hB.out.trans (KB0.mono (by have := hB.out.size; omega)))
      have HKU := Lib.hid (hK.out.trans KU)
      have f0 : u.frozen? ⟨g, (m + 1) * 3, none⟩ = false := OU.frozenAt _
      have f1 : u.frozen? ⟨g, (m + 1) * 3 + 1, none⟩ = false := OU.frozenAt _
      have f2 : u.frozen? ⟨g, (m + 1) * 3 + 2, none⟩ = false := OU.frozenAt _
      have f3 : u.frozen? ⟨g, m * 3, none⟩ = false := OU.frozenAt _
      have f4 : u.frozen? ⟨g, m * 3 + 1, none⟩ = false := OU.frozenAt _
      have f5 : u.frozen? ⟨g, m * 3 + 2, none⟩ = false := OU.frozenAt _
      clear hJ hM hOW hB hK HS HX HY OU KU hm1 hm0 KB0
      go_wp2_with fail
      go_roundw
      case rel => exact ⟨m, swE L2 (m + 1) m, by go_num, by omega, HJ2, HM2, Lib.hid (HEND.out.1.alloc _), Lib.hid ((HBU.out.trans (HEND.out.2.2.mono (by have := HBU.out.size; omega))).alloc (by have := HBU.out.size; have := HEND.out.2.2.size; omega) _), Lib.hid ((HKU.out.trans HEND.out.2.1).trans (K59.below ((Below.refl _ _).alloc (Nat.le_refl _) _)))⟩
      case measure => simp [intOf]
     ·have hr2 : decide (cf x y < 0) = false := by rw [HR9.out]; simpa using hneg
      have HI2 : Hid (insI cf 0 (n - (i + 1)) (i + 1) L2 = RES) := Lib.hid (by
       have h := hJ.out
       rw [insJ_no (by rw [HX0.out, HY0.out, HR9.out]; exact hneg)] at h
       rw [h]; exact HI.out)
      go_wp2_with fail
      refine Rk.begin (S := fun wS => wS.cell? ⟨g, (m + 1) * 3, none⟩ = some (.int .i64 x.1) /\ wS.cell? ⟨g, (m + 1) * 3 + 1, none⟩ = some (.slice x.2.1 x.2.2.1 x.2.2.2.1) /\ wS.cell? ⟨g, m * 3, none⟩ = some (.int .i64 y.1) /\ wS.cell? ⟨g, m * 3 + 1, none⟩ = some (.slice y.2.1 y.2.2.1 y.2.2.2.1) /\ Below wr.heap.size wr wS) 15 (by kernel_rfl) hz4 (fun hHeld => ?_)
      refine Rk.takeP (i := 0) (v := ?_) rfl (by kernel_rfl) (by kernel_rfl) (by kernel_rfl) (by kernel_rfl) (fun _ _ _ h => h) (Or.inl ⟨by kernel_rfl, ?_⟩) (by assumption) ?_
      rotate_left
      ·((intro w hSw; go_simp) <;> with_reducible rfl)
      try simp only [wj, wj2, Act.put, List.setIfInBounds_toArray, List.set_cons_zero, List.set_cons_succ]
      refine Rk.takeP (i := 1) (v := ?_) rfl (by kernel_rfl) (by kernel_rfl) (by kernel_rfl) (by kernel_rfl) (fun _ _ _ h => h) (Or.inl ⟨by kernel_rfl, ?_⟩) (by assumption) ?_
      rotate_left
      ·((intro w hSw; go_simp) <;> with_reducible rfl)
      try simp only [wj, wj2, Act.put, List.setIfInBounds_toArray, List.set_cons_zero, List.set_cons_succ]
      refine Rk.takeP (i := 2) (v := ?_) rfl (by kernel_rfl) (by kernel_rfl) (by kernel_rfl) (by kernel_rfl) (fun _ _ _ h => h) (Or.inl ⟨by kernel_rfl, ?_⟩) (by assumption) ?_
      rotate_left
      ·((intro w hSw; go_simp) <;> with_reducible rfl)
      try simp only [wj, wj2, Act.put, List.setIfInBounds_toArray, List.set_cons_zero, List.set_cons_succ]
      refine Rk.takeP (i := 3) (v := ?_) rfl (by kernel_rfl) (by kernel_rfl) (by kernel_rfl) (by kernel_rfl) (fun _ _ _ h => h) (Or.inl ⟨by kernel_rfl, ?_⟩) (by assumption) ?_
      rotate_left
      ·((intro w hSw; go_simp) <;> with_reducible rfl)
      try simp only [wj, wj2, Act.put, List.setIfInBounds_toArray, List.set_cons_zero, List.set_cons_succ]
      refine Rk.takeP (i := 4) (v := ?_) rfl (by kernel_rfl) (by kernel_rfl) (by kernel_rfl) (by kernel_rfl) (fun _ _ _ h => h) (Or.inl ⟨by kernel_rfl, ?_⟩) (by assumption) ?_
      rotate_left
      ·((intro w hSw; go_simp) <;> with_reducible rfl)
      try simp only [wj, wj2, Act.put, List.setIfInBounds_toArray, List.set_cons_zero, List.set_cons_succ]
      refine Rk.takeP (i := 5) (v := ?_) rfl (by kernel_rfl) (by kernel_rfl) (by kernel_rfl) (by kernel_rfl) (fun _ _ _ h => h) (Or.inl ⟨by kernel_rfl, ?_⟩) (by assumption) ?_
      rotate_left
      ·((intro w hSw; go_simp) <;> with_reducible rfl)
      try simp only [wj, wj2, Act.put, List.setIfInBounds_toArray, List.set_cons_zero, List.set_cons_succ]
      refine Rk.takeP (i := 6) (v := ?_) rfl (by kernel_rfl) (by kernel_rfl) (by kernel_rfl) (by kernel_rfl) (fun _ _ _ h => h) (Or.inl ⟨by kernel_rfl, ?_⟩) (by assumption) ?_
      rotate_left
      ·((intro w hSw; go_simp) <;> with_reducible rfl)
      try simp only [wj, wj2, Act.put, List.setIfInBounds_toArray, List.set_cons_zero, List.set_cons_succ]
      refine Rk.take [14, 15] (i := 7) (v := ?_) rfl (by kernel_rfl) (by kernel_rfl) (by kernel_rfl) (by kernel_rfl) (by kernel_rfl) (fun _ _ _ h => h) (Or.inl ⟨by kernel_rfl, ?_⟩) (by assumption) ?_
      rotate_left
      ·((intro w hSw; (try dsimp only at hSw); go_simp) <;> with_reducible rfl)
      try simp only [wj, wj2, Act.put, List.setIfInBounds_toArray, List.set_cons_zero, List.set_cons_succ]
      refine Rk.takeP (i := 8) (v := ?_) rfl (by kernel_rfl) (by kernel_rfl) (by kernel_rfl) (by kernel_rfl) (fun _ _ _ h => h) (Or.inl ⟨by kernel_rfl, ?_⟩) (by assumption) ?_
      rotate_left
      ·((intro w hSw; go_simp) <;> with_reducible rfl)
      try simp only [wj, wj2, Act.put, List.setIfInBounds_toArray, List.set_cons_zero, List.set_cons_succ]
      refine Rk.takeP (i := 9) (v := ?_) rfl (by kernel_rfl) (by kernel_rfl) (by kernel_rfl) (by kernel_rfl) (fun _ _ _ h => h) (Or.inl ⟨by kernel_rfl, ?_⟩) (by assumption) ?_
      rotate_left
      ·((intro w hSw; go_simp) <;> with_reducible rfl)
      try simp only [wj, wj2, Act.put, List.setIfInBounds_toArray, List.set_cons_zero, List.set_cons_succ]
      refine Rk.takeP (i := 10) (v := ?_) rfl (by kernel_rfl) (by kernel_rfl) (by kernel_rfl) (by kernel_rfl) (fun _ _ _ h => h) (Or.inl ⟨by kernel_rfl, ?_⟩) (by assumption) ?_
      rotate_left
      ·((intro w hSw; go_simp) <;> with_reducible rfl)
      try simp only [wj, wj2, Act.put, List.setIfInBounds_toArray, List.set_cons_zero, List.set_cons_succ]
      refine Rk.takeP (i := 11) (v := ?_) rfl (by kernel_rfl) (by kernel_rfl) (by kernel_rfl) (by kernel_rfl) (fun _ _ _ h => h) (Or.inl ⟨by kernel_rfl, ?_⟩) (by assumption) ?_
      rotate_left
      ·((intro w hSw; go_simp) <;> with_reducible rfl)
      try simp only [wj, wj2, Act.put, List.setIfInBounds_toArray, List.set_cons_zero, List.set_cons_succ]
      refine Rk.takeP (i := 12) (v := ?_) rfl (by kernel_rfl) (by kernel_rfl) (by kernel_rfl) (by kernel_rfl) (fun _ _ _ h => h) (Or.inl ⟨by kernel_rfl, ?_⟩) (by assumption) ?_
      rotate_left
      ·((intro w hSw; go_simp) <;> with_reducible rfl)
      try simp only [wj, wj2, Act.put, List.setIfInBounds_toArray, List.set_cons_zero, List.set_cons_succ]
      refine Rk.take [14, 15] (i := 13) (v := ?_) rfl (by kernel_rfl) (by kernel_rfl) (by kernel_rfl) (by kernel_rfl) (by kernel_rfl) (fun _ _ _ h => h) (Or.inl ⟨by kernel_rfl, ?_⟩) (by assumption) ?_
      rotate_left
      ·((intro w hSw; (try dsimp only at hSw); go_simp) <;> with_reducible rfl)
      try simp only [wj, wj2, Act.put, List.setIfInBounds_toArray, List.set_cons_zero, List.set_cons_succ]
      refine Rk.one (i := 14) (by kernel_rfl) rfl (fun KK hK => ?_)
      rw [if_pos (by kernel_rfl)]
      go_simp
      ((with_reducible refine (NC.out x HX.out y HY.out _ (HKW.out.trans (K59.below (hHeld.2.2.2.2)))).mono ?_); rintro e u ⟨rfl, hb⟩)
      first | (refine hK.out _ _ (fun _ => HS.out _ _ hHeld hb) (fun hHeld => ?_)) | (refine hK.out _ _ (HS.out _ _ hHeld hb) (fun hHeld => ?_)) | (go_wp2_with fail; refine hK.out _ _ (HS.out _ _ hHeld hb) (fun hHeld => ?_))
      clear hK KK
      refine Rk.tail [15, 16] [_, _] (by kernel_rfl) (by kernel_rfl) rfl (by decide) ?_
      have KB0 := hHeld.2.2.2.2
      have O2 := Lib.hid (own_belowE hOW.out KB0)
      have B2 := Lib.hid (hB.out.trans (KB0.mono (by have := hB.out.size; omega)))
      have K2 := Lib.hid (hK.out.trans (K59.below KB0))
      clear hHeld HS hJ hOW hB hK KB0
      go_wp2_with fail
      exact ⟨⟨i + 1, L2, by go_num, by omega, by omega, HI2, hM, O2, B2, K2⟩, by simp [intOf]; omega⟩
    ·obtain rfl : j = 0 := by omega
     have j1 : decide ((0 : Int) < 0) = false := by decide
     have HI2 : Hid (insI cf 0 (n - (i + 1)) (i + 1) L2 = RES) := Lib.hid (by
      have h := hJ.out
      rw [insJ_stop (Nat.le_refl _)] at h
      rw [h]; exact HI.out)
     clear hJ jj hji
     go_wp2_with fail
     go_quiet (fail)
     go_wp2_with fail
     exact ⟨⟨i + 1, L2, by go_num, by omega, by omega, HI2, hM, hOW, Lib.hid (below_drewN hB.out _), Lib.hid (hK.out.trans (K59.below (below_drewN (Below.refl _ _) _)))⟩, by simp [intOf]; omega⟩
  ·have HE : Hid (L = RES) := Lib.hid (by
    have h := hR.out
    rw [show n - i = 0 by omega] at h
    exact h)
   go_wp2
   go_ret
   exact ⟨rfl, hB.out, hK.out, by rw [<- HE.out]; exact hOW⟩
/-- The reference's sorting of what was collected, empty or not. -/
theorem rsortV (q : Option Addr) (cap base n : Nat) (L0 : List E5) (ts : List Qm) (w : World) (hn : n <= 100000) (hL : Hid (L0.length = n)) (hO : Hid (w.ownsRow base 36 3 (.slice q n cap) n (rowE L0))) (HS : Hid (StdL w L0 ts)) (hm : Hid (∀ t ∈ ts, t.2.1.length <= maxLen)) (hbw : base <= w.heap.size) :
  Calls Tryd.prog 78 #[.slice q n cap] w fun e w' => e = .returned (.slice q n cap) /\ Below base w w' /\ ∃ L' T', L'.length = n /\ StdL w' L' T' /\ T'.Perm ts /\ (T'.Pairwise fun a b => ¬ fc b a < 0) /\ w'.ownsRow base 36 3 (.slice q n cap) n (rowE L') := by
 have hO2 := hO
 rcases hO.out.2 with ⟨hv, h0⟩ | ⟨g, cap', cur, hv, hb, r⟩
 ·cases hv
  have hl := hL.out
  have e1 : L0 = [] := List.length_eq_zero_iff.1 hl
  have e2 : ts = [] := List.length_eq_zero_iff.1 (by rw [<- HS.out.1]; exact hl)
  subst e1 e2
  refine (rsort0 w).mono ?_
  rintro e w' ⟨rfl, hb⟩
  exact ⟨rfl, hb.mono hbw, [], [], rfl, ⟨rfl, fun i hi => absurd hi (Nat.not_lt_zero _)⟩, List.Perm.refl _, List.Pairwise.nil, own_belowE hO2.out hb⟩
 ·cases hv
  have S := rsortN g cap base n L0 (fun x y => fc (stQ w x) (stQ w y)) w hn hL.out hO2 (Lib.hid (fcmpL w L0 ts HS.out hm.out)) hbw
  refine S.mono ?_
  rintro e w' ⟨rfl, hb', k, o'⟩
  rcases Nat.eq_zero_or_pos n with h0 | h0
  ·subst h0
   have e1 : L0 = [] := List.length_eq_zero_iff.1 hL.out
   have e2 : ts = [] := List.length_eq_zero_iff.1 (by rw [<- HS.out.1]; exact hL.out)
   subst e1 e2
   exact ⟨rfl, hb', [], [], rfl, ⟨rfl, fun i hi => absurd hi (Nat.not_lt_zero _)⟩, List.Perm.refl _, List.Pairwise.nil, o'.out⟩
  ·obtain ⟨r', s'⟩ := ins_sorts (ord_fc (stQ w)) (a := 0) (b := n) (L := L0) h0 (by rw [hL.out]; exact Nat.le_refl _)
   obtain ⟨h1, h2⟩ := HS.out.perm r'.perm
   refine ⟨rfl, hb', _, _, r'.len.trans hL.out, h1.on k, h2, ?_, o'.out⟩
   refine List.pairwise_map.2 ?_
   refine List.pairwise_iff_getElem.2 fun i j hi hj hij => ?_
   have h := s' i j (Nat.zero_le _) hij (by rw [r'.len, hL.out] at hj; exact hj)
   have e1 : ∀ (L : List E5) (k : Nat) (hk : k < L.length), L.getD k e50 = L[k] := fun L k hk => by unfold List.getD; rw [List.getElem?_eq_getElem hk]; rfl
   rw [e1 _ i hi, e1 _ j hj] at h
   exact h
end Go.Proofs.YtbicmlkjonaccaaDoor.Ln


namespace Go.Proofs.YtbicmlkjonaccaaDoor.Ln
open Go.ChangeShapes Go.WideShapes Go.ChangeAt Go.RowKit
set_option linter.unusedVariables false
set_option linter.unusedSimpArgs false
def magN (n : Int) : Int := if n < 0 then -n else n

end Go.Proofs.YtbicmlkjonaccaaDoor.Ln


namespace Go.Proofs.YtbicmlkjonaccaaDoor.Ln
open Go.ChangeShapes Go.WideShapes Go.ChangeAt Go.RowKit
open Go.Proofs.YtbicmlkjonaccaaDoor.Nm
set_option linter.unusedVariables false
set_option linter.unusedSimpArgs false
set_option maxRecDepth 8000

theorem size6 (n : Int) (w : World) (h1 : -9223372036854775808 <= n) (h2 : n <= 9223372036854775807) : Calls Tryd.prog 64 #[.int .i64 n] w fun e w' => e = .returned (.int .u64 (n.natAbs : Int)) /\ w = w' := by
 rw [show (n.natAbs : Int) = magN n by unfold magN; split <;> omega]
 unfold magN
 by_cases h : n < 0
 ·rw [if_pos h]
  have e1 : IntKind.u64.wrap (-(n + 1)) = -n - 1 := by rw [u64w]; omega
  have e2 : IntKind.u64.wrap (-n - 1 + 1) = -n := by rw [u64w]; omega
  go_enter Tryd.func64, Tryd.ntmps64
  go_wp2
  go_ret
  exact ⟨by first | rfl | (rw [<- e2]; rfl) | (congr 2; omega), rfl⟩
 ·rw [if_neg h]
  have e1 : IntKind.u64.wrap n = n := by rw [u64w]; omega
  go_enter Tryd.func64, Tryd.ntmps64
  go_wp2
  go_ret
  exact ⟨rfl, rfl⟩
set_option maxHeartbeats 4000000 in
theorem gcd6 (a b : Nat) (ha : a < 18446744073709551616) (hb : b < 18446744073709551616) (w : World) : Calls Tryd.prog 63 #[.int .u64 (a : Int), .int .u64 (b : Int)] w fun e w' => e = .returned (.int .u64 (Nat.gcd a b : Int)) /\ Below w.heap.size w w' := by
 go_enter Tryd.func63, Tryd.ntmps63
 go_wp2
 go_loopw [0, 1] (fun gv av wr => ∃ g' a' : Nat, gv = .int .u64 (g' : Int) /\ av = .int .u64 (a' : Int) /\ g' < 18446744073709551616 /\ a' < 18446744073709551616 /\ Below w.heap.size w wr /\ Hid (Nat.gcd g' a' = Nat.gcd a b)) (fun _ av _ => (intOf av).toNat)
 case atStart => exact ⟨a, b, rfl, rfl, ha, hb, Below.refl _ _, Lib.hid rfl⟩
 case round =>
  obtain ⟨g', a', rfl, rfl, hg', ha', hB3, HG⟩ := hrel
  by_cases h0 : a' = 0
  ·subst h0
   have HS2 := Lib.hid (show g' = Nat.gcd a b by rw [<- HG.out, Nat.gcd_zero_right])
   clear HG
   go_wp2
   go_ret
   exact ⟨by rw [HS2.out]; rfl, hB3⟩
  ·have hb0 : ((a' : Int) == 0) = false := beq_false_of_ne (by omega)
   have hb1 : ((a' : Int) != 0) = true := by rw [bne, hb0]; rfl
   have hb2 : ((a' : Int) = 0) = False := by simp; exact h0
   have hmod : g' % a' < a' := Nat.mod_lt _ (by omega)
   have HG2 := Lib.hid (show Nat.gcd a' (g' % a') = Nat.gcd a b by rw [gcd_step, HG.out])
   have e1 : ((g' : Int) % (a' : Int)) = ((g' % a' : Nat) : Int) := (Int.natCast_emod g' a').symm
   have e2 : Int.tmod (g' : Int) (a' : Int) = ((g' % a' : Nat) : Int) := by rw [Int.tmod_eq_emod_of_nonneg (by omega)]; exact e1
   obtain ⟨r, hr⟩ : ∃ r, g' % a' = r := ⟨_, rfl⟩
   rw [hr] at e1 e2 HG2 hmod
   clear hr HG hb2
   go_wp2_with fail
   go_quiet (fail)
   go_wp2
   go_roundw
   case rel => exact ⟨a', r, rfl, rfl, ha', by omega, below_drewN hB3 _, HG2⟩
   case measure => simp [intOf]; omega
theorem floor_neg {n : Int} {G : Nat} (g0 : 1 <= G) (h : n < 0) : -(((n.natAbs - 1) / G : Nat) : Int) - 1 = n / (G : Int) := by
 obtain ⟨m, rfl⟩ : ∃ m : Nat, n = -((m : Int) + 1) := ⟨n.natAbs - 1, by omega⟩
 have e : (-((m : Int) + 1)).natAbs - 1 = m := by omega
 rw [e]
 have e3 : -((m : Int) + 1) / (G : Int) = -((m : Int) / (G : Int) + 1) := by
  have hg : (0 : Int) < G := by omega
  have h1 := Int.emod_add_mul_ediv (m : Int) (G : Int)
  have h2 := Int.emod_nonneg (m : Int) (show (G : Int) ≠ 0 by omega)
  have h3 := Int.emod_lt_of_pos (m : Int) hg
  generalize (m : Int) / (G : Int) = q at *
  generalize (m : Int) % (G : Int) = r at *
  have e4 : -((m : Int) + 1) = ((G : Int) - 1 - r) + (G : Int) * (-(q + 1)) := by
   rw [Int.mul_neg, Int.mul_add]; omega
  rw [e4, Int.add_mul_ediv_left _ _ (by omega), Int.ediv_eq_zero_of_lt (by omega) (by omega)]
  omega
 rw [e3]
 omega
set_option maxHeartbeats 4000000 in
theorem floor6 (n : Int) (G : Nat) (n0 : -9223372036854775808 <= n) (n1 : n <= 9223372036854775807) (g0 : 1 <= G) (g1 : G <= 9223372036854775808) (w : World) : Calls Tryd.prog 65 #[.int .i64 n, .int .u64 (G : Int)] w fun e w' => e = .returned (.int .i64 (n / (G : Int))) /\ w = w' := by
 have gz : ((G : Int) == 0) = false := beq_false_of_ne (by omega)
 have gn : ¬ ((G : Int) = 0) := by omega
 by_cases h : 0 <= n
 ·have e1 : IntKind.u64.wrap n = n := by rw [u64w]; omega
  have b1 : n / (G : Int) <= n := Int.ediv_le_self _ h
  have b0 : 0 <= n / (G : Int) := Int.ediv_nonneg h (by omega)
  have e2 : n.tdiv (G : Int) = n / (G : Int) := Int.tdiv_eq_ediv_of_nonneg h
  obtain ⟨Q, hQ⟩ : ∃ Q, n / (G : Int) = Q := ⟨_, rfl⟩
  rw [hQ] at b0 b1 e2 ⊢
  have e3 : IntKind.i64.wrap Q = Q := by rw [IntKind.wrap_i64]; omega
  have e4 : IntKind.u64.wrap Q = Q := by rw [u64w]; omega
  go_enter Tryd.func65, Tryd.ntmps65
  go_wp2
  go_ret
  exact ⟨by first | rfl | (rw [hQ]) | (congr 2), rfl⟩
 ·have HR := Lib.hid (floor_neg g0 (show n < 0 by omega))
  have SZ := Lib.hid fun w => size6 n w n0 n1
  obtain ⟨M, hM⟩ : ∃ M, n.natAbs = M := ⟨_, rfl⟩
  have m1 : 1 <= M := by omega
  have m2 : M <= 9223372036854775808 := by omega
  rw [hM] at SZ HR
  have e1 : IntKind.u64.wrap ((M : Int) - 1) = ((M - 1 : Nat) : Int) := by rw [u64w]; omega
  have e1' : (M : Int) - 1 = ((M - 1 : Nat) : Int) := by omega
  have e2 : (((M - 1 : Nat) : Int)).tdiv (G : Int) = (((M - 1) / G : Nat) : Int) := by rw [Int.tdiv_eq_ediv_of_nonneg (by omega)]; rfl
  have e2' : (((M - 1 : Nat) : Int)) / (G : Int) = (((M - 1) / G : Nat) : Int) := rfl
  have b1 : (M - 1) / G <= M - 1 := Nat.div_le_self _ _
  obtain ⟨Q, hQ⟩ : ∃ Q, (M - 1) / G = Q := ⟨_, rfl⟩
  rw [hQ] at b1 e2 e2' HR
  obtain ⟨L, hL⟩ : ∃ L, M - 1 = L := ⟨_, rfl⟩
  rw [hL] at b1 e1 e1' e2 e2'
  have l1 : L <= 9223372036854775807 := by omega
  have e3 : IntKind.i64.wrap (Q : Int) = Q := by rw [IntKind.wrap_i64]; omega
  have e4 : IntKind.u64.wrap (Q : Int) = Q := by rw [u64w]; omega
  have e5 : IntKind.i64.wrap (-(Q : Int)) = -Q := by rw [IntKind.wrap_i64]; omega
  have e6 : IntKind.i64.wrap (-(Q : Int) - 1) = -Q - 1 := by rw [IntKind.wrap_i64]; omega
  have hlt : decide (0 <= n) = false := by simpa using h
  clear hM hQ hL
  go_enter Tryd.func65, Tryd.ntmps65
  go_wp2_with (go_at_call 64; (with_reducible refine (SZ.out _).mono ?_); rintro e w1 ⟨rfl, rfl⟩)
  go_ret
  exact ⟨by rw [<- HR.out]; first | rfl | (congr 2), rfl⟩
end Go.Proofs.YtbicmlkjonaccaaDoor.Ln


namespace Go.Proofs.YtbicmlkjonaccaaDoor.Ln
open Go.ChangeShapes Go.WideShapes Go.ChangeAt Go.RowKit
open Go.Proofs.YtbicmlkjonaccaaDoor.Nm
set_option linter.unusedVariables false
set_option linter.unusedSimpArgs false
set_option maxRecDepth 8000

/-- As TR, whatever the row lies in. -/
def TQ (r : Int × List Mo × Bool × Int × Int) (w : World) (e : Ending) (w' : World) : Prop := ∃ p c, e = .returned (.tuple #[Cv r.1 p r.2.1.length c r.2.2.1, .int .i64 r.2.2.2.1, .int .i64 r.2.2.2.2]) /\ SlM w' p r.2.1 /\ (∀ b o, p = some ⟨b, o, none⟩ -> r.2.1 ≠ [] -> ∃ cur, w'.heap[b]? = some (.cells cur 59 (0, 0))) /\ Below w.heap.size w w'
theorem TQ.nil {k : Int} {eq : Bool} {kind er : Int} {w w' : World} (hb : Below w.heap.size w w') : TQ (k, [], eq, kind, er) w (.returned (.tuple #[.agg #[.int .i64 k, .slice none 0 0, .bool eq], .int .i64 kind, .int .i64 er])) w' := ⟨none, 0, rfl, fun i hi => absurd hi (by simp), fun _ _ h => (by cases h), hb⟩

set_option maxHeartbeats 4000000 in
theorem rtig_bad (k : Int) (p : Option Addr) (xs : List Mo) (c : Nat) (eq : Bool) (w : World) (hn : xs.length <= 1000) (RA : Hid (SlM w p xs)) (RS : Hid (∀ i, i < xs.length -> (xs.getD i mo0).1.size <= maxLen /\ -9223372036854775808 <= (xs.getD i mo0).2 /\ (xs.getD i mo0).2 <= 9223372036854775807)) (k1 : -9223372036854775808 <= k) (k2 : k <= 9223372036854775807) (hok : okL xs = false) : Calls Tryd.prog 29 #[Cv k p xs.length c eq] w (TQ (0, [], false, 0, 1) w) := by
 have VL := Lib.hid fun w h => cval2 k p xs c eq w (by unfold maxLen; omega) h (Lib.hid fun i hi => (RS.out i hi).1)
 have B0 : Below w.heap.size w ((w.alloc (Obj.cells #[Value.int .i64 k, Value.slice p xs.length c, Value.bool eq] 36)).alloc (Obj.cells #[Value.int .i64 0, Value.slice none 0 0, Value.bool false] 36)) := ((Below.refl _ _).alloc (Nat.le_refl _) _).alloc (by simp) _
 have RA2 := Lib.hid (SlM.keep B0 RA.out)
 have hv : vL xs = 1 := by unfold vL; rw [hok]; rfl
 rw [hv] at VL
 unfold Cv at *
 clear hok hv RS
 go_enter Tryd.func29, Tryd.ntmps29
 go_wp2_with (first | (go_at_call 25; (with_reducible refine (VL.out _ RA2).mono ?_); rintro e w1 ⟨rfl, hb1⟩; have hc1 := (Rg.bcell hb1).1; have hf1 := (Rg.bcell hb1).2; have z1_0 : w.heap.size < w1.heap.size := (by have hzz := hb1.size; (try simp at hzz); omega); have z1_1 : w.heap.size + 1 < w1.heap.size := (by have hzz := hb1.size; (try simp at hzz); omega); have K1 : Below w.heap.size w w1 := Below.trans (b := _) (by (repeat' (first | (with_reducible exact Below.refl _ _) | (with_reducible refine Below.alloc ?_ ?_ _) | (with_reducible refine Below.setCell ?_ ?_ _) | (with_reducible refine below_drewN ?_ _) | (simp; done) | omega | (simp; omega)))) (hb1.mono (by have hzz := hb1.size; (try simp at hzz); first | omega | (simp; done) | (simp; omega)))))
 refine bodyPost_ret (v := .tuple #[.agg #[.int .i64 0, .slice none 0 0, .bool false], .int .i64 0, .int .i64 1]) (by simp [results, Tryd.results29, go_sem, hc1, hf1, z1_0, Nat.lt_succ_of_lt z1_0, Nat.ne_of_lt z1_0, Nat.ne_of_gt z1_0, z1_1, Nat.lt_succ_of_lt z1_1, Nat.ne_of_lt z1_1, Nat.ne_of_gt z1_1]) rfl (TQ.nil ?_); (repeat' (first | (with_reducible exact Below.refl _ _) | (with_reducible exact K1) | (with_reducible exact K1.size) | (with_reducible refine Below.alloc ?_ ?_ _) | (with_reducible refine Below.setCell ?_ ?_ _) | (with_reducible refine below_drewN ?_ _) | (simp; done) | omega | (simp; omega)))
set_option maxHeartbeats 4000000 in
theorem rtig_const (k : Int) (p : Option Addr) (xs : List Mo) (c : Nat) (eq : Bool) (w : World) (hn : xs.length <= 1000) (RA : Hid (SlM w p xs)) (RS : Hid (∀ i, i < xs.length -> (xs.getD i mo0).1.size <= maxLen /\ -9223372036854775808 <= (xs.getD i mo0).2 /\ (xs.getD i mo0).2 <= 9223372036854775807)) (k1 : -9223372036854775808 <= k) (k2 : k <= 9223372036854775807) (hok : okL xs = true) (h0 : xs.length = 0) : Calls Tryd.prog 29 #[Cv k p xs.length c eq] w (TQ (if hB k eq = true then (0, [], false, 1, 0) else (-1, [], false, 2, 0)) w) := by
 have VL := Lib.hid fun w h => cval2 k p xs c eq w (by unfold maxLen; omega) h (Lib.hid fun i hi => (RS.out i hi).1)
 have B0 : Below w.heap.size w ((w.alloc (Obj.cells #[Value.int .i64 k, Value.slice p xs.length c, Value.bool eq] 36)).alloc (Obj.cells #[Value.int .i64 0, Value.slice none 0 0, Value.bool false] 36)) := ((Below.refl _ _).alloc (Nat.le_refl _) _).alloc (by simp) _
 have RA2 := Lib.hid (SlM.keep B0 RA.out)
 have hv : vL xs = 0 := by unfold vL; rw [hok]; rfl
 rw [hv] at VL
 have NV := Lib.hid fun w => never2 w
 have g0 : ((xs.length : Int) == 0) = true := by simp [h0]
 unfold Cv at *
 clear hok hv RS h0
 unfold hB
 by_cases hk : k = 0
 ·subst hk
  rw [if_pos (by simp)]
  go_enter Tryd.func29, Tryd.ntmps29
  go_wp2_with (first | (go_at_call 25; (with_reducible refine (VL.out _ RA2).mono ?_); rintro e w1 ⟨rfl, hb1⟩; have hc1 := (Rg.bcell hb1).1; have hf1 := (Rg.bcell hb1).2; have z1_0 : w.heap.size < w1.heap.size := (by have hzz := hb1.size; (try simp at hzz); omega); have z1_1 : w.heap.size + 1 < w1.heap.size := (by have hzz := hb1.size; (try simp at hzz); omega); have K1 : Below w.heap.size w w1 := Below.trans (b := _) (by (repeat' (first | (with_reducible exact Below.refl _ _) | (with_reducible refine Below.alloc ?_ ?_ _) | (with_reducible refine Below.setCell ?_ ?_ _) | (with_reducible refine below_drewN ?_ _) | (simp; done) | omega | (simp; omega)))) (hb1.mono (by have hzz := hb1.size; (try simp at hzz); first | omega | (simp; done) | (simp; omega)))))
  refine bodyPost_ret (v := .tuple #[.agg #[.int .i64 0, .slice none 0 0, .bool false], .int .i64 1, .int .i64 0]) (by simp [results, Tryd.results29, go_sem, hc1, hf1, z1_0, Nat.lt_succ_of_lt z1_0, Nat.ne_of_lt z1_0, Nat.ne_of_gt z1_0, z1_1, Nat.lt_succ_of_lt z1_1, Nat.ne_of_lt z1_1, Nat.ne_of_gt z1_1]) rfl (TQ.nil ?_); (repeat' (first | (with_reducible exact Below.refl _ _) | (with_reducible exact K1) | (with_reducible exact K1.size) | (with_reducible refine Below.alloc ?_ ?_ _) | (with_reducible refine Below.setCell ?_ ?_ _) | (with_reducible refine below_drewN ?_ _) | (simp; done) | omega | (simp; omega)))
 ·have g1 : (k == 0) = false := by simpa using hk
  by_cases hp : 0 < k
  ·have g2 : decide (0 < k) = true := by simpa using hp
   cases eq
   ·rw [if_pos (by rw [g1, g2]; rfl)]
    go_enter Tryd.func29, Tryd.ntmps29
    go_wp2_with (first | (go_at_call 25; (with_reducible refine (VL.out _ RA2).mono ?_); rintro e w1 ⟨rfl, hb1⟩; have hc1 := (Rg.bcell hb1).1; have hf1 := (Rg.bcell hb1).2; have z1_0 : w.heap.size < w1.heap.size := (by have hzz := hb1.size; (try simp at hzz); omega); have z1_1 : w.heap.size + 1 < w1.heap.size := (by have hzz := hb1.size; (try simp at hzz); omega); have K1 : Below w.heap.size w w1 := Below.trans (b := _) (by (repeat' (first | (with_reducible exact Below.refl _ _) | (with_reducible refine Below.alloc ?_ ?_ _) | (with_reducible refine Below.setCell ?_ ?_ _) | (with_reducible refine below_drewN ?_ _) | (simp; done) | omega | (simp; omega)))) (hb1.mono (by have hzz := hb1.size; (try simp at hzz); first | omega | (simp; done) | (simp; omega)))))
    refine bodyPost_ret (v := .tuple #[.agg #[.int .i64 0, .slice none 0 0, .bool false], .int .i64 1, .int .i64 0]) (by simp [results, Tryd.results29, go_sem, hc1, hf1, z1_0, Nat.lt_succ_of_lt z1_0, Nat.ne_of_lt z1_0, Nat.ne_of_gt z1_0, z1_1, Nat.lt_succ_of_lt z1_1, Nat.ne_of_lt z1_1, Nat.ne_of_gt z1_1]) rfl (TQ.nil ?_); (repeat' (first | (with_reducible exact Below.refl _ _) | (with_reducible exact K1) | (with_reducible exact K1.size) | (with_reducible refine Below.alloc ?_ ?_ _) | (with_reducible refine Below.setCell ?_ ?_ _) | (with_reducible refine below_drewN ?_ _) | (simp; done) | omega | (simp; omega)))
   ·rw [if_neg (by rw [g1, g2]; decide)]
    go_enter Tryd.func29, Tryd.ntmps29
    go_wp2_with (first | (go_at_call 25; (with_reducible refine (VL.out _ RA2).mono ?_); rintro e w1 ⟨rfl, hb1⟩; have hc1 := (Rg.bcell hb1).1; have hf1 := (Rg.bcell hb1).2; have z1_0 : w.heap.size < w1.heap.size := (by have hzz := hb1.size; (try simp at hzz); omega); have z1_1 : w.heap.size + 1 < w1.heap.size := (by have hzz := hb1.size; (try simp at hzz); omega); have K1 : Below w.heap.size w w1 := Below.trans (b := _) (by (repeat' (first | (with_reducible exact Below.refl _ _) | (with_reducible refine Below.alloc ?_ ?_ _) | (with_reducible refine Below.setCell ?_ ?_ _) | (with_reducible refine below_drewN ?_ _) | (simp; done) | omega | (simp; omega)))) (hb1.mono (by have hzz := hb1.size; (try simp at hzz); first | omega | (simp; done) | (simp; omega)))) | (go_at_call 62; (with_reducible refine (NV.out _).mono ?_); rintro e w2 ⟨rfl, hb2⟩; have hc2 := (Rg.bcell hb2).1; have hf2 := (Rg.bcell hb2).2; have z2_0 : w.heap.size < w2.heap.size := (by have hzz := hb2.size; (try simp at hzz); omega); have z2_1 : w.heap.size + 1 < w2.heap.size := (by have hzz := hb2.size; (try simp at hzz); omega); have K2 : Below w.heap.size w w2 := Below.trans (b := _) (by (repeat' (first | (with_reducible exact Below.refl _ _) | (with_reducible exact K1) | (with_reducible exact K1.size) | (with_reducible refine Below.alloc ?_ ?_ _) | (with_reducible refine Below.setCell ?_ ?_ _) | (with_reducible refine below_drewN ?_ _) | (simp; done) | omega | (simp; omega)))) (hb2.mono (by have hzz := hb2.size; (try simp at hzz); first | omega | (simp; done) | (simp; omega)))))
    refine bodyPost_ret (v := .tuple #[.agg #[.int .i64 (-1), .slice none 0 0, .bool false], .int .i64 2, .int .i64 0]) (by simp [results, Tryd.results29, go_sem, hc1, hf1, hc2, hf2, z1_0, Nat.lt_succ_of_lt z1_0, Nat.ne_of_lt z1_0, Nat.ne_of_gt z1_0, z1_1, Nat.lt_succ_of_lt z1_1, Nat.ne_of_lt z1_1, Nat.ne_of_gt z1_1, z2_0, Nat.lt_succ_of_lt z2_0, Nat.ne_of_lt z2_0, Nat.ne_of_gt z2_0, z2_1, Nat.lt_succ_of_lt z2_1, Nat.ne_of_lt z2_1, Nat.ne_of_gt z2_1]) rfl (TQ.nil ?_); (repeat' (first | (with_reducible exact Below.refl _ _) | (with_reducible exact K1) | (with_reducible exact K1.size) | (with_reducible exact K2) | (with_reducible exact K2.size) | (with_reducible refine Below.alloc ?_ ?_ _) | (with_reducible refine Below.setCell ?_ ?_ _) | (with_reducible refine below_drewN ?_ _) | (simp; done) | omega | (simp; omega)))
  ·have g2 : decide (0 < k) = false := by simpa using hp
   rw [if_neg (by rw [g1, g2]; simp)]
   clear hk hp
   go_enter Tryd.func29, Tryd.ntmps29
   go_wp2_with (first | (go_at_call 25; (with_reducible refine (VL.out _ RA2).mono ?_); rintro e w1 ⟨rfl, hb1⟩; have hc1 := (Rg.bcell hb1).1; have hf1 := (Rg.bcell hb1).2; have z1_0 : w.heap.size < w1.heap.size := (by have hzz := hb1.size; (try simp at hzz); omega); have z1_1 : w.heap.size + 1 < w1.heap.size := (by have hzz := hb1.size; (try simp at hzz); omega); have K1 : Below w.heap.size w w1 := Below.trans (b := _) (by (repeat' (first | (with_reducible exact Below.refl _ _) | (with_reducible refine Below.alloc ?_ ?_ _) | (with_reducible refine Below.setCell ?_ ?_ _) | (with_reducible refine below_drewN ?_ _) | (simp; done) | omega | (simp; omega)))) (hb1.mono (by have hzz := hb1.size; (try simp at hzz); first | omega | (simp; done) | (simp; omega)))) | (go_at_call 62; (with_reducible refine (NV.out _).mono ?_); rintro e w2 ⟨rfl, hb2⟩; have hc2 := (Rg.bcell hb2).1; have hf2 := (Rg.bcell hb2).2; have z2_0 : w.heap.size < w2.heap.size := (by have hzz := hb2.size; (try simp at hzz); omega); have z2_1 : w.heap.size + 1 < w2.heap.size := (by have hzz := hb2.size; (try simp at hzz); omega); have K2 : Below w.heap.size w w2 := Below.trans (b := _) (by (repeat' (first | (with_reducible exact Below.refl _ _) | (with_reducible exact K1) | (with_reducible exact K1.size) | (with_reducible refine Below.alloc ?_ ?_ _) | (with_reducible refine Below.setCell ?_ ?_ _) | (with_reducible refine below_drewN ?_ _) | (simp; done) | omega | (simp; omega)))) (hb2.mono (by have hzz := hb2.size; (try simp at hzz); first | omega | (simp; done) | (simp; omega)))))
   refine bodyPost_ret (v := .tuple #[.agg #[.int .i64 (-1), .slice none 0 0, .bool false], .int .i64 2, .int .i64 0]) (by simp [results, Tryd.results29, go_sem, hc1, hf1, hc2, hf2, z1_0, Nat.lt_succ_of_lt z1_0, Nat.ne_of_lt z1_0, Nat.ne_of_gt z1_0, z1_1, Nat.lt_succ_of_lt z1_1, Nat.ne_of_lt z1_1, Nat.ne_of_gt z1_1, z2_0, Nat.lt_succ_of_lt z2_0, Nat.ne_of_lt z2_0, Nat.ne_of_gt z2_0, z2_1, Nat.lt_succ_of_lt z2_1, Nat.ne_of_lt z2_1, Nat.ne_of_gt z2_1]) rfl (TQ.nil ?_); (repeat' (first | (with_reducible exact Below.refl _ _) | (with_reducible exact K1) | (with_reducible exact K1.size) | (with_reducible exact K2) | (with_reducible exact K2.size) | (with_reducible refine Below.alloc ?_ ?_ _) | (with_reducible refine Below.setCell ?_ ?_ _) | (with_reducible refine below_drewN ?_ _) | (simp; done) | omega | (simp; omega)))
end Go.Proofs.YtbicmlkjonaccaaDoor.Ln
