/- Do of the reference: a store. -/
import Derived.Test.YtndmpoomdoojpaaK13
namespace Go.Proofs.Ytndmpoomdoojpaa.Ck
open Go.ChangeShapes Go.WideShapes Go.ChangeAt Go.RowKit
set_option linter.unusedVariables false

set_option maxRecDepth 100000 in
set_option maxHeartbeats 16000000 in
theorem do2 (n : Int) (s : Nat) (held : List Int) (now left cost : Int) (A z : Int) (v : Value) (w : World) (base : Nat) (hb : base ≤ w.heap.size) (hn : 0 ≤ n ∧ n ≤ 64) (hs : s ≤ 64) (hnow : 0 ≤ now ∧ now ≤ 64) (hleft : 0 ≤ left ∧ left ≤ 64) (hA0 : -9223372036854775808 ≤ A) (hl : held.length = 64) (hO : Hid (w.ownsRow base 3 1 v s ((held.take s).map (Value.int .i64)))) : Calls Try.prog 52 #[rv now left v, .int .i64 n, .agg #[.int .i64 2, .int .i64 A, .int .i64 z]] w (DW n s ⟨held, now, left, cost⟩ (2, A, z) base v w) := by
  obtain ⟨q, cap, rfl, hq⟩ := own_any hO.out
  have HQ := Lib.hid hq
  clear hq
  have HZ := slot s z
  unfold rv
  by_cases h1 : A = now
  · subst h1
    rcases HZ with ⟨hz, y0, y1⟩ | ⟨hz, y0⟩ | ⟨hz, y0, y1⟩
    · have V : Hid (val n s ⟨held, A, left, cost⟩ (2, A, z) = true) := Lib.hid (by rw [val2, hz]; simp)
      obtain ⟨zn, rfl⟩ : ∃ zn : Nat, z = (zn : Int) := ⟨z.toNat, by omega⟩
      obtain ⟨g, rfl⟩ := HQ.out (by omega)
      obtain ⟨i0, hi, hz0, hz1, hz2⟩ := info_parts info3
      have hlen : ((held.take s).map (Value.int .i64)).length = s := by simp [hl]; omega
      have hcell : ∀ j u, ((held.take s).map (Value.int .i64))[j]? = some u → ((((w.alloc (Obj.cells #[.int .i64 A, .int .i64 left, .slice (some ⟨g, 0, none⟩) s cap] 76)).alloc (Obj.cells #[.int .i64 2, .int .i64 A, .int .i64 zn] 66)).alloc (Obj.cells #[.int .i64 0, .int .i64 0, .slice none 0 0] 76)).alloc (Obj.cells #[] 3)).cell? ((⟨g, 0, none⟩ : Addr).add j) = some u := by
        intro j u hj
        have hjs : j < s := by
          have := (List.getElem?_eq_some_iff.1 hj).1
          omega
        have hg : g < w.heap.size := (hO.out.lt g rfl).2
        have h := hO.out.cellAt j (by omega)
        rw [hj] at h
        have B : Below w.heap.size w ((((w.alloc (Obj.cells #[.int .i64 A, .int .i64 left, .slice (some ⟨g, 0, none⟩) s cap] 76)).alloc (Obj.cells #[.int .i64 2, .int .i64 A, .int .i64 zn] 66)).alloc (Obj.cells #[.int .i64 0, .int .i64 0, .slice none 0 0] 76)).alloc (Obj.cells #[] 3)) := ((((Below.refl _ _).alloc (Nat.le_refl _) _).alloc (by simp) _).alloc (by rw [World.size_alloc, World.size_alloc]; omega) _).alloc (by rw [World.size_alloc, World.size_alloc, World.size_alloc]; omega) _
        show _ = _
        rw [show (⟨g, 0, none⟩ : Addr).add j = ⟨g, j, none⟩ by simp [Addr.add]; try omega]
        exact (B.cell (p := ⟨g, j, none⟩) hg).trans h
      have hone : ∀ u ∈ (held.take s).map (Value.int .i64), u.oneCell' = true := by
        intro u hu
        obtain ⟨x, _, rfl⟩ := List.mem_map.1 hu
        rfl
      have zs : zn < s := by omega
      have y2 : (zn : Int) < s := y1
      have dA : (A == A) = true := by simp
      clear y1
      go_enter Try.func52, Try.ntmps52
      have hown0 : ((((w.alloc (Obj.cells #[.int .i64 A, .int .i64 left, .slice (some ⟨g, 0, none⟩) s cap] 76)).alloc (Obj.cells #[.int .i64 2, .int .i64 A, .int .i64 zn] 66)).alloc (Obj.cells #[.int .i64 0, .int .i64 0, .slice none 0 0] 76)).alloc (Obj.cells #[] 3)).ownsRow (w.heap.size + 1 + 1 + 1) 3 1 (.slice (some ⟨w.heap.size + 1 + 1 + 1, 0, none⟩) 0 0) 0 [] := by
        have h := World.ownsRow_made (base := w.heap.size + 1 + 1 + 1) (e := 3) (size := 1) (((w.alloc (Obj.cells #[.int .i64 A, .int .i64 left, .slice (some ⟨g, 0, none⟩) s cap] 76)).alloc (Obj.cells #[.int .i64 2, .int .i64 A, .int .i64 zn] 66)).alloc (Obj.cells #[.int .i64 0, .int .i64 0, .slice none 0 0] 76)) #[] 0 (by simp) (by unfold maxLen; decide) rfl
        simp only [World.size_alloc] at h
        exact h
      go_wp2_with (at_builtin; refine wpList_append_own _ rfl _ _ 34 rfl (w.heap.size + 1 + 1 + 1) 3 i0 (.int .i64 0) 1 8 Try.underlying34 hi hz0 hz1 hz2 rfl (by decide) _ _ _ rfl hown0 ⟨g, 0, none⟩ s cap ((held.take s).map (Value.int .i64)) rfl ?_ ?_ ?_ ?_ ?_ ?_ ?_)
      any_goals (first | exact hlen | (intro j' u hj; exact hcell j' u hj) | (intro u hu; exact hone u hu) | (unfold maxLen; omega) | omega | (rw [World.size_alloc, World.size_alloc, World.size_alloc, World.size_alloc]; omega) | (simp; done) | (simp; omega) | skip)
      intro v' w3 hown' hgrow _
      obtain ⟨q2, cap2, rfl, hq2⟩ := own_any hown'
      obtain ⟨g2, rfl⟩ := hq2 (by omega)
      have O3 : Hid (w3.ownsRow (w.heap.size + 1 + 1 + 1) 3 1 (.slice (some ⟨g2, 0, none⟩) s cap2) s ((held.take s).map (Value.int .i64))) := Lib.hid (by
        have h := hown'
        simpa using h)
      have lg2 : w.heap.size + 1 + 1 + 1 ≤ g2 := (O3.out.lt g2 rfl).1
      have ne0 : ¬ w.heap.size = g2 := by omega
      have ne1 : ¬ w.heap.size + 1 = g2 := by omega
      have ne2 : ¬ w.heap.size + 1 + 1 = g2 := by omega
      have nb : ∀ k, k < w.heap.size + 1 + 1 + 1 → some k ≠ (Value.slice (some ⟨w.heap.size + 1 + 1 + 1, 0, none⟩) 0 0).ownBlock := fun k hk e => by simp [Value.ownBlock] at e; omega
      have n0 : B3 (w.alloc (Obj.cells #[.int .i64 A, .int .i64 left, .slice (some ⟨g, 0, none⟩) s cap] 76)) w.heap.size (.int .i64 A) (.int .i64 left) (.slice (some ⟨g, 0, none⟩) s cap) := B3.new
      have b0 := Lib.hid ((((n0.alloc _).alloc _).alloc _).grown hgrow (nb _ (by omega)))
      have n2 : B3 (((w.alloc (Obj.cells #[.int .i64 A, .int .i64 left, .slice (some ⟨g, 0, none⟩) s cap] 76)).alloc (Obj.cells #[.int .i64 2, .int .i64 A, .int .i64 zn] 66)).alloc (Obj.cells #[.int .i64 0, .int .i64 0, .slice none 0 0] 76)) ((w.alloc (Obj.cells #[.int .i64 A, .int .i64 left, .slice (some ⟨g, 0, none⟩) s cap] 76)).alloc (Obj.cells #[.int .i64 2, .int .i64 A, .int .i64 zn] 66)).heap.size (.int .i64 0) (.int .i64 0) (.slice none 0 0) := B3.new
      rw [World.size_alloc, World.size_alloc] at n2
      have b2 := Lib.hid ((n2.alloc (Obj.cells #[] 3)).grown hgrow (nb _ (by omega)))
      have a1 : w3.cell? ⟨w.heap.size + 1, 1, none⟩ = some (.int .i64 A) := hgrow.cell (a := ⟨w.heap.size + 1, 1, none⟩) (by go_cell) (nb _ (by show w.heap.size + 1 < _; omega))
      have a2 : w3.cell? ⟨w.heap.size + 1, 2, none⟩ = some (.int .i64 zn) := hgrow.cell (a := ⟨w.heap.size + 1, 2, none⟩) (by go_cell) (nb _ (by show w.heap.size + 1 < _; omega))
      have B4 : Below w.heap.size w ((((w.alloc (Obj.cells #[.int .i64 A, .int .i64 left, .slice (some ⟨g, 0, none⟩) s cap] 76)).alloc (Obj.cells #[.int .i64 2, .int .i64 A, .int .i64 zn] 66)).alloc (Obj.cells #[.int .i64 0, .int .i64 0, .slice none 0 0] 76)).alloc (Obj.cells #[] 3)) := ((((Below.refl _ _).alloc (Nat.le_refl _) _).alloc (by simp) _).alloc (by rw [World.size_alloc, World.size_alloc]; omega) _).alloc (by rw [World.size_alloc, World.size_alloc, World.size_alloc]; omega) _
      have KW : Below w.heap.size w w3 := B4.grown hgrow (by simp; omega) (fun j' hj' => by simp [Value.ownBlock] at hj'; omega)
      have oc := cellT O3.out (j := zn) zs (by simp [hl]; omega)
      have of := O3.out.frozenAt zn
      have O4 := Lib.hid (O3.out.stored zn (.int .i64 A)).1
      have p0 := Lib.hid (b0.out.far (a := ⟨g2, zn, none⟩) ne0 (.int .i64 A))
      have p2 := Lib.hid (b2.out.far (a := ⟨g2, zn, none⟩) ne2 (.int .i64 A))
      have r0 := Lib.hid (p0.out.s2 (.slice (some ⟨g2, 0, none⟩) s cap2))
      have r2 := Lib.hid (p2.out.far (a := ⟨w.heap.size, 2, none⟩) (by show w.heap.size + 1 + 1 ≠ w.heap.size; omega) (.slice (some ⟨g2, 0, none⟩) s cap2))
      have c2 := p0.out.c2
      have f2 := p0.out.fz 2
      have x0 := r0.out.c0
      have x1 := r0.out.c1
      have x2 := r0.out.c2
      have e0 := r2.out.c0
      have e1 := r2.out.c1
      have e2 := r2.out.c2
      have g0 := r2.out.fz 0
      have g1 := r2.out.fz 1
      have g3 := r2.out.fz 2
      have KW5 : Below w.heap.size w ((w3.setCell ⟨g2, zn, none⟩ (.int .i64 A)).setCell ⟨w.heap.size, 2, none⟩ (.slice (some ⟨g2, 0, none⟩) s cap2)) := (KW.setCell (by show _ ≤ g2; omega) _).setCell (by show _ ≤ w.heap.size; omega) _
      have ho (a : Addr) (ha : a.block < w.heap.size + 1 + 1 + 1) : Value.ownBlock (.slice (some ⟨g2, 0, none⟩) s cap2) ≠ some a.block := fun e => by simp [Value.ownBlock] at e; omega
      have O5 := Lib.hid (ownsRow_setCell_other O4.out (ho ⟨w.heap.size, 2, none⟩ (by show w.heap.size < _; omega)) (.slice (some ⟨g2, 0, none⟩) s cap2))
      clear hown' hgrow n0 n2 b0 b2 nb B4 KW hcell hone hlen hown0 O3 O4 hi hz0 hz1 hz2
      go_wp2
      have Z := Lib.hid (((r2.out.s0 (.int .i64 A)).s1 (.int .i64 left)).s2 (.slice (some ⟨g2, 0, none⟩) s cap2))
      have hZ : Below w.heap.size w (((((w3.setCell ⟨g2, zn, none⟩ (.int .i64 A)).setCell ⟨w.heap.size, 2, none⟩ (.slice (some ⟨g2, 0, none⟩) s cap2)).setCell ⟨w.heap.size + 1 + 1, 0, none⟩ (.int .i64 A)).setCell ⟨w.heap.size + 1 + 1, 1, none⟩ (.int .i64 left)).setCell ⟨w.heap.size + 1 + 1, 2, none⟩ (.slice (some ⟨g2, 0, none⟩) s cap2)) := ((KW5.setCell (by show _ ≤ w.heap.size + 1 + 1; omega) _).setCell (by show _ ≤ w.heap.size + 1 + 1; omega) _).setCell (by show _ ≤ w.heap.size + 1 + 1; omega) _
      have hOZ := Lib.hid (ownsRow_setCell_other (ownsRow_setCell_other (ownsRow_setCell_other O5.out (ho ⟨w.heap.size + 1 + 1, 0, none⟩ (by show w.heap.size + 1 + 1 < _; omega)) (.int .i64 A)) (ho ⟨w.heap.size + 1 + 1, 1, none⟩ (by show w.heap.size + 1 + 1 < _; omega)) (.int .i64 left)) (ho ⟨w.heap.size + 1 + 1, 2, none⟩ (by show w.heap.size + 1 + 1 < _; omega)) (.slice (some ⟨g2, 0, none⟩) s cap2))
      have z0 := Z.out.c0
      have z1 := Z.out.c1
      have z2 := Z.out.c2
      generalize (((((w3.setCell ⟨g2, zn, none⟩ (.int .i64 A)).setCell ⟨w.heap.size, 2, none⟩ (.slice (some ⟨g2, 0, none⟩) s cap2)).setCell ⟨w.heap.size + 1 + 1, 0, none⟩ (.int .i64 A)).setCell ⟨w.heap.size + 1 + 1, 1, none⟩ (.int .i64 left)).setCell ⟨w.heap.size + 1 + 1, 2, none⟩ (.slice (some ⟨g2, 0, none⟩) s cap2)) = wz at *
      exact bodyPost_ret (v := .tuple #[rv A left (.slice (some ⟨g2, 0, none⟩) s cap2), .bool true]) (by simp [results, Try.results52, go_sem, rv, z0, z1, z2]) rfl ⟨hZ, .inr ⟨V.out, _, rfl, by
        have h := hOZ.out.mono (base' := base) (by omega)
        rw [← List.map_set, ← List.take_set] at h
        exact h⟩⟩
    all_goals
      have V : Hid (val n s ⟨held, A, left, cost⟩ (2, A, z) = false) := Lib.hid (by rw [val2, hz]; simp)
      have dA : (A == A) = true := by simp
      go_enter Try.func52, Try.ntmps52
      go_wp2
      exact bodyPost_ret (v := .tuple #[rv A left (.slice q s cap), .bool false]) (by simp [results, Try.results52, go_sem, rv]) rfl ⟨(by (repeat refine below_drewN ?_ _); exact (((Below.refl _ _).alloc (Nat.le_refl _) _).alloc (by simp) _).alloc (by rw [World.size_alloc, World.size_alloc]; omega) _), .inl ⟨by exact V.out, rfl⟩⟩
  · have d1 : (A == now) = false := beq_false_of_ne h1
    have V : Hid (val n s ⟨held, now, left, cost⟩ (2, A, z) = false) := Lib.hid (by rw [val2, decide_eq_false h1]; rfl)
    rcases HZ with ⟨hz, y0, y1⟩ | ⟨hz, y0⟩ | ⟨hz, y0, y1⟩
    all_goals
      go_enter Try.func52, Try.ntmps52
      go_wp2
      exact bodyPost_ret (v := .tuple #[rv now left (.slice q s cap), .bool false]) (by simp [results, Try.results52, go_sem, rv]) rfl ⟨(by (repeat refine below_drewN ?_ _); exact (((Below.refl _ _).alloc (Nat.le_refl _) _).alloc (by simp) _).alloc (by rw [World.size_alloc, World.size_alloc]; omega) _), .inl ⟨by exact V.out, rfl⟩⟩
end Go.Proofs.Ytndmpoomdoojpaa.Ck
