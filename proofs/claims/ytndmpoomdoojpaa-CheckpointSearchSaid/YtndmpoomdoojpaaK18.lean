/- Do of the reference: a recall. -/
import Derived.Test.YtndmpoomdoojpaaK13
namespace Go.Proofs.Ytndmpoomdoojpaa.Ck
open Go.ChangeShapes Go.WideShapes Go.ChangeAt Go.RowKit
set_option linter.unusedVariables false

set_option maxRecDepth 100000 in
set_option maxHeartbeats 16000000 in
theorem do3 (n : Int) (s : Nat) (held : List Int) (now left cost : Int) (A z : Int) (v : Value) (w : World) (base : Nat) (hb : base ≤ w.heap.size) (hn : 0 ≤ n ∧ n ≤ 64) (hs : s ≤ 64) (hnow : 0 ≤ now ∧ now ≤ 64) (hleft : 0 ≤ left ∧ left ≤ 64) (hA0 : -9223372036854775808 ≤ A) (hl : held.length = 64) (hO : Hid (w.ownsRow base 3 1 v s ((held.take s).map (Value.int .i64)))) : Calls Try.prog 52 #[rv now left v, .int .i64 n, .agg #[.int .i64 3, .int .i64 A, .int .i64 z]] w (DW n s ⟨held, now, left, cost⟩ (3, A, z) base v w) := by
  obtain ⟨q, cap, rfl, hq⟩ := own_any hO.out
  have HQ := Lib.hid hq
  clear hq
  have HZ := slot s z
  unfold rv
  rcases HZ with ⟨hz, y0, y1⟩ | ⟨hz, y0⟩ | ⟨hz, y0, y1⟩
  · obtain ⟨zn, rfl⟩ : ∃ zn : Nat, z = (zn : Int) := ⟨z.toNat, by omega⟩
    obtain ⟨g, rfl⟩ := HQ.out (by omega)
    have zs : zn < s := by omega
    have em1 : ((zn : Int) == -1) = false := beq_false_of_ne (by omega)
    have oc0 := cellT hO.out (j := zn) zs (by simp [hl]; omega)
    rw [show (held.take s).getD zn 0 = held.getD zn 0 by rw [List.getD, List.getD, List.getElem?_take_of_lt zs]] at oc0
    have hg : g < w.heap.size := (hO.out.lt g rfl).2
    have oc : (((w.alloc (Obj.cells #[Value.int IntKind.i64 now, Value.int IntKind.i64 left, Value.slice (some ⟨g, 0, none⟩) s cap] 76)).alloc (Obj.cells #[Value.int IntKind.i64 3, Value.int IntKind.i64 A, Value.int IntKind.i64 zn] 66)).alloc (Obj.cells #[Value.int IntKind.i64 0, Value.int IntKind.i64 0, Value.slice none 0 0] 76)).cell? ⟨g, zn, none⟩ = some (.int .i64 (held.getD zn 0)) := (((((Below.refl _ _).alloc (Nat.le_refl _) _).alloc (by simp) _).alloc (by rw [World.size_alloc, World.size_alloc]; omega) _ : Below w.heap.size w (((w.alloc (Obj.cells #[Value.int IntKind.i64 now, Value.int IntKind.i64 left, Value.slice (some ⟨g, 0, none⟩) s cap] 76)).alloc (Obj.cells #[Value.int IntKind.i64 3, Value.int IntKind.i64 A, Value.int IntKind.i64 zn] 66)).alloc (Obj.cells #[Value.int IntKind.i64 0, Value.int IntKind.i64 0, Value.slice none 0 0] 76))).cell (p := ⟨g, zn, none⟩) hg).trans oc0
    clear oc0
    have hv : val n s ⟨held, now, left, cost⟩ (3, A, (zn : Int)) = (decide (held.getD zn 0 = A) && decide (0 ≤ A)) := by rw [val3, hz, decide_eq_false (show ¬ (zn : Int) = -1 by omega)]; simp
    obtain ⟨h, hh⟩ : ∃ h, held.getD zn 0 = h := ⟨_, rfl⟩
    rw [hh] at oc hv
    clear hh
    by_cases h1 : h = A
    · subst h1
      have dh : (h == h) = true := by simp
      by_cases h2 : 0 ≤ h
      · have V : Hid (val n s ⟨held, now, left, cost⟩ (3, h, (zn : Int)) = true) := Lib.hid (by rw [hv, decide_eq_true h2]; simp)
        clear hv
        go_enter Try.func52, Try.ntmps52
        go_wp2
        go_quiet (fail)
        have BW : Below w.heap.size w ((((w.alloc (Obj.cells #[Value.int IntKind.i64 now, Value.int IntKind.i64 left, Value.slice (some ⟨g, 0, none⟩) s cap] 76)).alloc (Obj.cells #[Value.int IntKind.i64 3, Value.int IntKind.i64 h, Value.int IntKind.i64 ↑zn] 66)).alloc (Obj.cells #[Value.int IntKind.i64 0, Value.int IntKind.i64 0, Value.slice none 0 0] 76)).drewN nq) := below_drewN ((((Below.refl _ _).alloc (Nat.le_refl _) _).alloc (by simp) _).alloc (by rw [World.size_alloc, World.size_alloc]; omega) _) _
        have n0 : B3 (w.alloc (Obj.cells #[Value.int IntKind.i64 now, Value.int IntKind.i64 left, Value.slice (some ⟨g, 0, none⟩) s cap] 76)) w.heap.size (.int .i64 now) (.int .i64 left) (.slice (some ⟨g, 0, none⟩) s cap) := B3.new
        have b0 : Hid (B3 ((((w.alloc (Obj.cells #[Value.int IntKind.i64 now, Value.int IntKind.i64 left, Value.slice (some ⟨g, 0, none⟩) s cap] 76)).alloc (Obj.cells #[Value.int IntKind.i64 3, Value.int IntKind.i64 h, Value.int IntKind.i64 ↑zn] 66)).alloc (Obj.cells #[Value.int IntKind.i64 0, Value.int IntKind.i64 0, Value.slice none 0 0] 76)).drewN nq) w.heap.size (.int .i64 now) (.int .i64 left) (.slice (some ⟨g, 0, none⟩) s cap)) := Lib.hid ((n0.alloc _).alloc _)
        have n2 : B3 (((w.alloc (Obj.cells #[Value.int IntKind.i64 now, Value.int IntKind.i64 left, Value.slice (some ⟨g, 0, none⟩) s cap] 76)).alloc (Obj.cells #[Value.int IntKind.i64 3, Value.int IntKind.i64 h, Value.int IntKind.i64 ↑zn] 66)).alloc (Obj.cells #[Value.int IntKind.i64 0, Value.int IntKind.i64 0, Value.slice none 0 0] 76)) ((w.alloc (Obj.cells #[Value.int IntKind.i64 now, Value.int IntKind.i64 left, Value.slice (some ⟨g, 0, none⟩) s cap] 76)).alloc (Obj.cells #[Value.int IntKind.i64 3, Value.int IntKind.i64 h, Value.int IntKind.i64 ↑zn] 66)).heap.size (.int .i64 0) (.int .i64 0) (.slice none 0 0) := B3.new
        rw [World.size_alloc, World.size_alloc] at n2
        have b2 : Hid (B3 ((((w.alloc (Obj.cells #[Value.int IntKind.i64 now, Value.int IntKind.i64 left, Value.slice (some ⟨g, 0, none⟩) s cap] 76)).alloc (Obj.cells #[Value.int IntKind.i64 3, Value.int IntKind.i64 h, Value.int IntKind.i64 ↑zn] 66)).alloc (Obj.cells #[Value.int IntKind.i64 0, Value.int IntKind.i64 0, Value.slice none 0 0] 76)).drewN nq) (w.heap.size + 1 + 1) (.int .i64 0) (.int .i64 0) (.slice none 0 0)) := Lib.hid n2
        have a1 : ((((w.alloc (Obj.cells #[Value.int IntKind.i64 now, Value.int IntKind.i64 left, Value.slice (some ⟨g, 0, none⟩) s cap] 76)).alloc (Obj.cells #[Value.int IntKind.i64 3, Value.int IntKind.i64 h, Value.int IntKind.i64 ↑zn] 66)).alloc (Obj.cells #[Value.int IntKind.i64 0, Value.int IntKind.i64 0, Value.slice none 0 0] 76)).drewN nq).cell? ⟨w.heap.size + 1, 1, none⟩ = some (.int .i64 h) := by go_cell
        have OW : Hid (((((w.alloc (Obj.cells #[Value.int IntKind.i64 now, Value.int IntKind.i64 left, Value.slice (some ⟨g, 0, none⟩) s cap] 76)).alloc (Obj.cells #[Value.int IntKind.i64 3, Value.int IntKind.i64 h, Value.int IntKind.i64 ↑zn] 66)).alloc (Obj.cells #[Value.int IntKind.i64 0, Value.int IntKind.i64 0, Value.slice none 0 0] 76)).drewN nq).ownsRow base 3 1 (.slice (some ⟨g, 0, none⟩) s cap) s ((held.take s).map (Value.int .i64))) := Lib.hid (((hO.out.alloc _).alloc _).alloc _)
        clear n0 n2
        generalize (((w.alloc (Obj.cells #[Value.int IntKind.i64 now, Value.int IntKind.i64 left, Value.slice (some ⟨g, 0, none⟩) s cap] 76)).alloc (Obj.cells #[Value.int IntKind.i64 3, Value.int IntKind.i64 h, Value.int IntKind.i64 ↑zn] 66)).alloc (Obj.cells #[Value.int IntKind.i64 0, Value.int IntKind.i64 0, Value.slice none 0 0] 76)).drewN nq = wq at *
        have c0 := b0.out.c0
        have c1 := b0.out.c1
        have c2 := b0.out.c2
        have f0 := b0.out.fz 0
        have e0 := b2.out.c0
        have e1 := b2.out.c1
        have e2 := b2.out.c2
        have g0 := b2.out.fz 0
        have g1 := b2.out.fz 1
        have g2 := b2.out.fz 2
        go_wp2
        have Z := Lib.hid ((((b2.out.far (a := ⟨w.heap.size, 0, none⟩) (by show w.heap.size + 1 + 1 ≠ w.heap.size; omega) (.int .i64 h)).s0 (.int .i64 h)).s1 (.int .i64 left)).s2 (.slice (some ⟨g, 0, none⟩) s cap))
        have hZ : Below w.heap.size w ((((wq.setCell ⟨w.heap.size, 0, none⟩ (.int .i64 h)).setCell ⟨w.heap.size + 1 + 1, 0, none⟩ (.int .i64 h)).setCell ⟨w.heap.size + 1 + 1, 1, none⟩ (.int .i64 left)).setCell ⟨w.heap.size + 1 + 1, 2, none⟩ (.slice (some ⟨g, 0, none⟩) s cap)) := (((BW.setCell (by show _ ≤ w.heap.size; omega) _).setCell (by show _ ≤ w.heap.size + 1 + 1; omega) _).setCell (by show _ ≤ w.heap.size + 1 + 1; omega) _).setCell (by show _ ≤ w.heap.size + 1 + 1; omega) _
        have ho (a : Addr) (ha : w.heap.size ≤ a.block) : Value.ownBlock (.slice (some ⟨g, 0, none⟩) s cap) ≠ some a.block := fun e => by have := (hO.out.lt _ e).2; omega
        have hOZ := Lib.hid (ownsRow_setCell_other (ownsRow_setCell_other (ownsRow_setCell_other (ownsRow_setCell_other OW.out (ho ⟨w.heap.size, 0, none⟩ (by show _ ≤ w.heap.size; omega)) (.int .i64 h)) (ho ⟨w.heap.size + 1 + 1, 0, none⟩ (by show _ ≤ w.heap.size + 1 + 1; omega)) (.int .i64 h)) (ho ⟨w.heap.size + 1 + 1, 1, none⟩ (by show _ ≤ w.heap.size + 1 + 1; omega)) (.int .i64 left)) (ho ⟨w.heap.size + 1 + 1, 2, none⟩ (by show _ ≤ w.heap.size + 1 + 1; omega)) (.slice (some ⟨g, 0, none⟩) s cap))
        have z0 := Z.out.c0
        have z1 := Z.out.c1
        have z2 := Z.out.c2
        generalize ((((wq.setCell ⟨w.heap.size, 0, none⟩ (.int .i64 h)).setCell ⟨w.heap.size + 1 + 1, 0, none⟩ (.int .i64 h)).setCell ⟨w.heap.size + 1 + 1, 1, none⟩ (.int .i64 left)).setCell ⟨w.heap.size + 1 + 1, 2, none⟩ (.slice (some ⟨g, 0, none⟩) s cap)) = wz at *
        exact bodyPost_ret (v := .tuple #[rv h left (.slice (some ⟨g, 0, none⟩) s cap), .bool true]) (by simp [results, Try.results52, go_sem, rv, z0, z1, z2]) rfl ⟨hZ, .inr ⟨V.out, _, rfl, hOZ.out⟩⟩
      · have d2 : decide (0 ≤ h) = false := decide_eq_false h2
        have V : Hid (val n s ⟨held, now, left, cost⟩ (3, h, (zn : Int)) = false) := Lib.hid (by rw [hv, d2]; simp)
        clear hv
        go_enter Try.func52, Try.ntmps52
        go_wp2
        go_quiet (fail)
        have BW : Below w.heap.size w ((((w.alloc (Obj.cells #[Value.int IntKind.i64 now, Value.int IntKind.i64 left, Value.slice (some ⟨g, 0, none⟩) s cap] 76)).alloc (Obj.cells #[Value.int IntKind.i64 3, Value.int IntKind.i64 h, Value.int IntKind.i64 ↑zn] 66)).alloc (Obj.cells #[Value.int IntKind.i64 0, Value.int IntKind.i64 0, Value.slice none 0 0] 76)).drewN nq) := below_drewN ((((Below.refl _ _).alloc (Nat.le_refl _) _).alloc (by simp) _).alloc (by rw [World.size_alloc, World.size_alloc]; omega) _) _
        have n0 : B3 (w.alloc (Obj.cells #[Value.int IntKind.i64 now, Value.int IntKind.i64 left, Value.slice (some ⟨g, 0, none⟩) s cap] 76)) w.heap.size (.int .i64 now) (.int .i64 left) (.slice (some ⟨g, 0, none⟩) s cap) := B3.new
        have b0 : Hid (B3 ((((w.alloc (Obj.cells #[Value.int IntKind.i64 now, Value.int IntKind.i64 left, Value.slice (some ⟨g, 0, none⟩) s cap] 76)).alloc (Obj.cells #[Value.int IntKind.i64 3, Value.int IntKind.i64 h, Value.int IntKind.i64 ↑zn] 66)).alloc (Obj.cells #[Value.int IntKind.i64 0, Value.int IntKind.i64 0, Value.slice none 0 0] 76)).drewN nq) w.heap.size (.int .i64 now) (.int .i64 left) (.slice (some ⟨g, 0, none⟩) s cap)) := Lib.hid ((n0.alloc _).alloc _)
        have n2 : B3 (((w.alloc (Obj.cells #[Value.int IntKind.i64 now, Value.int IntKind.i64 left, Value.slice (some ⟨g, 0, none⟩) s cap] 76)).alloc (Obj.cells #[Value.int IntKind.i64 3, Value.int IntKind.i64 h, Value.int IntKind.i64 ↑zn] 66)).alloc (Obj.cells #[Value.int IntKind.i64 0, Value.int IntKind.i64 0, Value.slice none 0 0] 76)) ((w.alloc (Obj.cells #[Value.int IntKind.i64 now, Value.int IntKind.i64 left, Value.slice (some ⟨g, 0, none⟩) s cap] 76)).alloc (Obj.cells #[Value.int IntKind.i64 3, Value.int IntKind.i64 h, Value.int IntKind.i64 ↑zn] 66)).heap.size (.int .i64 0) (.int .i64 0) (.slice none 0 0) := B3.new
        rw [World.size_alloc, World.size_alloc] at n2
        have b2 : Hid (B3 ((((w.alloc (Obj.cells #[Value.int IntKind.i64 now, Value.int IntKind.i64 left, Value.slice (some ⟨g, 0, none⟩) s cap] 76)).alloc (Obj.cells #[Value.int IntKind.i64 3, Value.int IntKind.i64 h, Value.int IntKind.i64 ↑zn] 66)).alloc (Obj.cells #[Value.int IntKind.i64 0, Value.int IntKind.i64 0, Value.slice none 0 0] 76)).drewN nq) (w.heap.size + 1 + 1) (.int .i64 0) (.int .i64 0) (.slice none 0 0)) := Lib.hid n2
        have a1 : ((((w.alloc (Obj.cells #[Value.int IntKind.i64 now, Value.int IntKind.i64 left, Value.slice (some ⟨g, 0, none⟩) s cap] 76)).alloc (Obj.cells #[Value.int IntKind.i64 3, Value.int IntKind.i64 h, Value.int IntKind.i64 ↑zn] 66)).alloc (Obj.cells #[Value.int IntKind.i64 0, Value.int IntKind.i64 0, Value.slice none 0 0] 76)).drewN nq).cell? ⟨w.heap.size + 1, 1, none⟩ = some (.int .i64 h) := by go_cell
        have OW : Hid (((((w.alloc (Obj.cells #[Value.int IntKind.i64 now, Value.int IntKind.i64 left, Value.slice (some ⟨g, 0, none⟩) s cap] 76)).alloc (Obj.cells #[Value.int IntKind.i64 3, Value.int IntKind.i64 h, Value.int IntKind.i64 ↑zn] 66)).alloc (Obj.cells #[Value.int IntKind.i64 0, Value.int IntKind.i64 0, Value.slice none 0 0] 76)).drewN nq).ownsRow base 3 1 (.slice (some ⟨g, 0, none⟩) s cap) s ((held.take s).map (Value.int .i64))) := Lib.hid (((hO.out.alloc _).alloc _).alloc _)
        clear n0 n2
        generalize (((w.alloc (Obj.cells #[Value.int IntKind.i64 now, Value.int IntKind.i64 left, Value.slice (some ⟨g, 0, none⟩) s cap] 76)).alloc (Obj.cells #[Value.int IntKind.i64 3, Value.int IntKind.i64 h, Value.int IntKind.i64 ↑zn] 66)).alloc (Obj.cells #[Value.int IntKind.i64 0, Value.int IntKind.i64 0, Value.slice none 0 0] 76)).drewN nq = wq at *
        have c0 := b0.out.c0
        have c1 := b0.out.c1
        have c2 := b0.out.c2
        have f0 := b0.out.fz 0
        have e0 := b2.out.c0
        have e1 := b2.out.c1
        have e2 := b2.out.c2
        have g0 := b2.out.fz 0
        have g1 := b2.out.fz 1
        have g2 := b2.out.fz 2
        go_wp2
        have Z := Lib.hid (((b2.out.s0 (.int .i64 now)).s1 (.int .i64 left)).s2 (.slice (some ⟨g, 0, none⟩) s cap))
        have hZ : Below w.heap.size w (((wq.setCell ⟨w.heap.size + 1 + 1, 0, none⟩ (.int .i64 now)).setCell ⟨w.heap.size + 1 + 1, 1, none⟩ (.int .i64 left)).setCell ⟨w.heap.size + 1 + 1, 2, none⟩ (.slice (some ⟨g, 0, none⟩) s cap)) := ((BW.setCell (by show _ ≤ w.heap.size + 1 + 1; omega) _).setCell (by show _ ≤ w.heap.size + 1 + 1; omega) _).setCell (by show _ ≤ w.heap.size + 1 + 1; omega) _
        have z0 := Z.out.c0
        have z1 := Z.out.c1
        have z2 := Z.out.c2
        generalize (((wq.setCell ⟨w.heap.size + 1 + 1, 0, none⟩ (.int .i64 now)).setCell ⟨w.heap.size + 1 + 1, 1, none⟩ (.int .i64 left)).setCell ⟨w.heap.size + 1 + 1, 2, none⟩ (.slice (some ⟨g, 0, none⟩) s cap)) = wz at *
        exact bodyPost_ret (v := .tuple #[rv now left (.slice (some ⟨g, 0, none⟩) s cap), .bool false]) (by simp [results, Try.results52, go_sem, rv, z0, z1, z2]) rfl ⟨hZ, .inl ⟨V.out, rfl⟩⟩
    · have d1 : (h == A) = false := beq_false_of_ne h1
      have V : Hid (val n s ⟨held, now, left, cost⟩ (3, A, (zn : Int)) = false) := Lib.hid (by rw [hv, decide_eq_false h1]; rfl)
      clear hv
      go_enter Try.func52, Try.ntmps52
      go_wp2
      go_quiet (fail)
      have BW : Below w.heap.size w ((((w.alloc (Obj.cells #[Value.int IntKind.i64 now, Value.int IntKind.i64 left, Value.slice (some ⟨g, 0, none⟩) s cap] 76)).alloc (Obj.cells #[Value.int IntKind.i64 3, Value.int IntKind.i64 A, Value.int IntKind.i64 ↑zn] 66)).alloc (Obj.cells #[Value.int IntKind.i64 0, Value.int IntKind.i64 0, Value.slice none 0 0] 76)).drewN nq) := below_drewN ((((Below.refl _ _).alloc (Nat.le_refl _) _).alloc (by simp) _).alloc (by rw [World.size_alloc, World.size_alloc]; omega) _) _
      have n0 : B3 (w.alloc (Obj.cells #[Value.int IntKind.i64 now, Value.int IntKind.i64 left, Value.slice (some ⟨g, 0, none⟩) s cap] 76)) w.heap.size (.int .i64 now) (.int .i64 left) (.slice (some ⟨g, 0, none⟩) s cap) := B3.new
      have b0 : Hid (B3 ((((w.alloc (Obj.cells #[Value.int IntKind.i64 now, Value.int IntKind.i64 left, Value.slice (some ⟨g, 0, none⟩) s cap] 76)).alloc (Obj.cells #[Value.int IntKind.i64 3, Value.int IntKind.i64 A, Value.int IntKind.i64 ↑zn] 66)).alloc (Obj.cells #[Value.int IntKind.i64 0, Value.int IntKind.i64 0, Value.slice none 0 0] 76)).drewN nq) w.heap.size (.int .i64 now) (.int .i64 left) (.slice (some ⟨g, 0, none⟩) s cap)) := Lib.hid ((n0.alloc _).alloc _)
      have n2 : B3 (((w.alloc (Obj.cells #[Value.int IntKind.i64 now, Value.int IntKind.i64 left, Value.slice (some ⟨g, 0, none⟩) s cap] 76)).alloc (Obj.cells #[Value.int IntKind.i64 3, Value.int IntKind.i64 A, Value.int IntKind.i64 ↑zn] 66)).alloc (Obj.cells #[Value.int IntKind.i64 0, Value.int IntKind.i64 0, Value.slice none 0 0] 76)) ((w.alloc (Obj.cells #[Value.int IntKind.i64 now, Value.int IntKind.i64 left, Value.slice (some ⟨g, 0, none⟩) s cap] 76)).alloc (Obj.cells #[Value.int IntKind.i64 3, Value.int IntKind.i64 A, Value.int IntKind.i64 ↑zn] 66)).heap.size (.int .i64 0) (.int .i64 0) (.slice none 0 0) := B3.new
      rw [World.size_alloc, World.size_alloc] at n2
      have b2 : Hid (B3 ((((w.alloc (Obj.cells #[Value.int IntKind.i64 now, Value.int IntKind.i64 left, Value.slice (some ⟨g, 0, none⟩) s cap] 76)).alloc (Obj.cells #[Value.int IntKind.i64 3, Value.int IntKind.i64 A, Value.int IntKind.i64 ↑zn] 66)).alloc (Obj.cells #[Value.int IntKind.i64 0, Value.int IntKind.i64 0, Value.slice none 0 0] 76)).drewN nq) (w.heap.size + 1 + 1) (.int .i64 0) (.int .i64 0) (.slice none 0 0)) := Lib.hid n2
      have a1 : ((((w.alloc (Obj.cells #[Value.int IntKind.i64 now, Value.int IntKind.i64 left, Value.slice (some ⟨g, 0, none⟩) s cap] 76)).alloc (Obj.cells #[Value.int IntKind.i64 3, Value.int IntKind.i64 A, Value.int IntKind.i64 ↑zn] 66)).alloc (Obj.cells #[Value.int IntKind.i64 0, Value.int IntKind.i64 0, Value.slice none 0 0] 76)).drewN nq).cell? ⟨w.heap.size + 1, 1, none⟩ = some (.int .i64 A) := by go_cell
      have OW : Hid (((((w.alloc (Obj.cells #[Value.int IntKind.i64 now, Value.int IntKind.i64 left, Value.slice (some ⟨g, 0, none⟩) s cap] 76)).alloc (Obj.cells #[Value.int IntKind.i64 3, Value.int IntKind.i64 A, Value.int IntKind.i64 ↑zn] 66)).alloc (Obj.cells #[Value.int IntKind.i64 0, Value.int IntKind.i64 0, Value.slice none 0 0] 76)).drewN nq).ownsRow base 3 1 (.slice (some ⟨g, 0, none⟩) s cap) s ((held.take s).map (Value.int .i64))) := Lib.hid (((hO.out.alloc _).alloc _).alloc _)
      clear n0 n2
      generalize (((w.alloc (Obj.cells #[Value.int IntKind.i64 now, Value.int IntKind.i64 left, Value.slice (some ⟨g, 0, none⟩) s cap] 76)).alloc (Obj.cells #[Value.int IntKind.i64 3, Value.int IntKind.i64 A, Value.int IntKind.i64 ↑zn] 66)).alloc (Obj.cells #[Value.int IntKind.i64 0, Value.int IntKind.i64 0, Value.slice none 0 0] 76)).drewN nq = wq at *
      have c0 := b0.out.c0
      have c1 := b0.out.c1
      have c2 := b0.out.c2
      have f0 := b0.out.fz 0
      have e0 := b2.out.c0
      have e1 := b2.out.c1
      have e2 := b2.out.c2
      have g0 := b2.out.fz 0
      have g1 := b2.out.fz 1
      have g2 := b2.out.fz 2
      go_wp2
      have Z := Lib.hid (((b2.out.s0 (.int .i64 now)).s1 (.int .i64 left)).s2 (.slice (some ⟨g, 0, none⟩) s cap))
      have hZ : Below w.heap.size w (((wq.setCell ⟨w.heap.size + 1 + 1, 0, none⟩ (.int .i64 now)).setCell ⟨w.heap.size + 1 + 1, 1, none⟩ (.int .i64 left)).setCell ⟨w.heap.size + 1 + 1, 2, none⟩ (.slice (some ⟨g, 0, none⟩) s cap)) := ((BW.setCell (by show _ ≤ w.heap.size + 1 + 1; omega) _).setCell (by show _ ≤ w.heap.size + 1 + 1; omega) _).setCell (by show _ ≤ w.heap.size + 1 + 1; omega) _
      have z0 := Z.out.c0
      have z1 := Z.out.c1
      have z2 := Z.out.c2
      generalize (((wq.setCell ⟨w.heap.size + 1 + 1, 0, none⟩ (.int .i64 now)).setCell ⟨w.heap.size + 1 + 1, 1, none⟩ (.int .i64 left)).setCell ⟨w.heap.size + 1 + 1, 2, none⟩ (.slice (some ⟨g, 0, none⟩) s cap)) = wz at *
      exact bodyPost_ret (v := .tuple #[rv now left (.slice (some ⟨g, 0, none⟩) s cap), .bool false]) (by simp [results, Try.results52, go_sem, rv, z0, z1, z2]) rfl ⟨hZ, .inl ⟨V.out, rfl⟩⟩
  · by_cases hm : z = -1
    · subst hm
      by_cases h0 : A = 0
      · subst h0
        have V : Hid (val n s ⟨held, now, left, cost⟩ (3, 0, -1) = true) := Lib.hid (by rw [val3, hz]; rfl)
        go_enter Try.func52, Try.ntmps52
        go_wp2
        go_quiet (fail)
        have BW : Below w.heap.size w ((((w.alloc (Obj.cells #[Value.int IntKind.i64 now, Value.int IntKind.i64 left, Value.slice q s cap] 76)).alloc (Obj.cells #[Value.int IntKind.i64 3, Value.int IntKind.i64 0, Value.int IntKind.i64 (-1)] 66)).alloc (Obj.cells #[Value.int IntKind.i64 0, Value.int IntKind.i64 0, Value.slice none 0 0] 76)).drewN nq) := below_drewN ((((Below.refl _ _).alloc (Nat.le_refl _) _).alloc (by simp) _).alloc (by rw [World.size_alloc, World.size_alloc]; omega) _) _
        have n0 : B3 (w.alloc (Obj.cells #[Value.int IntKind.i64 now, Value.int IntKind.i64 left, Value.slice q s cap] 76)) w.heap.size (.int .i64 now) (.int .i64 left) (.slice q s cap) := B3.new
        have b0 : Hid (B3 ((((w.alloc (Obj.cells #[Value.int IntKind.i64 now, Value.int IntKind.i64 left, Value.slice q s cap] 76)).alloc (Obj.cells #[Value.int IntKind.i64 3, Value.int IntKind.i64 0, Value.int IntKind.i64 (-1)] 66)).alloc (Obj.cells #[Value.int IntKind.i64 0, Value.int IntKind.i64 0, Value.slice none 0 0] 76)).drewN nq) w.heap.size (.int .i64 now) (.int .i64 left) (.slice q s cap)) := Lib.hid ((n0.alloc _).alloc _)
        have n2 : B3 (((w.alloc (Obj.cells #[Value.int IntKind.i64 now, Value.int IntKind.i64 left, Value.slice q s cap] 76)).alloc (Obj.cells #[Value.int IntKind.i64 3, Value.int IntKind.i64 0, Value.int IntKind.i64 (-1)] 66)).alloc (Obj.cells #[Value.int IntKind.i64 0, Value.int IntKind.i64 0, Value.slice none 0 0] 76)) ((w.alloc (Obj.cells #[Value.int IntKind.i64 now, Value.int IntKind.i64 left, Value.slice q s cap] 76)).alloc (Obj.cells #[Value.int IntKind.i64 3, Value.int IntKind.i64 0, Value.int IntKind.i64 (-1)] 66)).heap.size (.int .i64 0) (.int .i64 0) (.slice none 0 0) := B3.new
        rw [World.size_alloc, World.size_alloc] at n2
        have b2 : Hid (B3 ((((w.alloc (Obj.cells #[Value.int IntKind.i64 now, Value.int IntKind.i64 left, Value.slice q s cap] 76)).alloc (Obj.cells #[Value.int IntKind.i64 3, Value.int IntKind.i64 0, Value.int IntKind.i64 (-1)] 66)).alloc (Obj.cells #[Value.int IntKind.i64 0, Value.int IntKind.i64 0, Value.slice none 0 0] 76)).drewN nq) (w.heap.size + 1 + 1) (.int .i64 0) (.int .i64 0) (.slice none 0 0)) := Lib.hid n2
        have a1 : ((((w.alloc (Obj.cells #[Value.int IntKind.i64 now, Value.int IntKind.i64 left, Value.slice q s cap] 76)).alloc (Obj.cells #[Value.int IntKind.i64 3, Value.int IntKind.i64 0, Value.int IntKind.i64 (-1)] 66)).alloc (Obj.cells #[Value.int IntKind.i64 0, Value.int IntKind.i64 0, Value.slice none 0 0] 76)).drewN nq).cell? ⟨w.heap.size + 1, 1, none⟩ = some (.int .i64 0) := by go_cell
        have OW : Hid (((((w.alloc (Obj.cells #[Value.int IntKind.i64 now, Value.int IntKind.i64 left, Value.slice q s cap] 76)).alloc (Obj.cells #[Value.int IntKind.i64 3, Value.int IntKind.i64 0, Value.int IntKind.i64 (-1)] 66)).alloc (Obj.cells #[Value.int IntKind.i64 0, Value.int IntKind.i64 0, Value.slice none 0 0] 76)).drewN nq).ownsRow base 3 1 (.slice q s cap) s ((held.take s).map (Value.int .i64))) := Lib.hid (((hO.out.alloc _).alloc _).alloc _)
        clear n0 n2
        generalize (((w.alloc (Obj.cells #[Value.int IntKind.i64 now, Value.int IntKind.i64 left, Value.slice q s cap] 76)).alloc (Obj.cells #[Value.int IntKind.i64 3, Value.int IntKind.i64 0, Value.int IntKind.i64 (-1)] 66)).alloc (Obj.cells #[Value.int IntKind.i64 0, Value.int IntKind.i64 0, Value.slice none 0 0] 76)).drewN nq = wq at *
        have c0 := b0.out.c0
        have c1 := b0.out.c1
        have c2 := b0.out.c2
        have f0 := b0.out.fz 0
        have e0 := b2.out.c0
        have e1 := b2.out.c1
        have e2 := b2.out.c2
        have g0 := b2.out.fz 0
        have g1 := b2.out.fz 1
        have g2 := b2.out.fz 2
        go_wp2
        have Z := Lib.hid ((((b2.out.far (a := ⟨w.heap.size, 0, none⟩) (by show w.heap.size + 1 + 1 ≠ w.heap.size; omega) (.int .i64 0)).s0 (.int .i64 0)).s1 (.int .i64 left)).s2 (.slice q s cap))
        have hZ : Below w.heap.size w ((((wq.setCell ⟨w.heap.size, 0, none⟩ (.int .i64 0)).setCell ⟨w.heap.size + 1 + 1, 0, none⟩ (.int .i64 0)).setCell ⟨w.heap.size + 1 + 1, 1, none⟩ (.int .i64 left)).setCell ⟨w.heap.size + 1 + 1, 2, none⟩ (.slice q s cap)) := (((BW.setCell (by show _ ≤ w.heap.size; omega) _).setCell (by show _ ≤ w.heap.size + 1 + 1; omega) _).setCell (by show _ ≤ w.heap.size + 1 + 1; omega) _).setCell (by show _ ≤ w.heap.size + 1 + 1; omega) _
        have ho (a : Addr) (ha : w.heap.size ≤ a.block) : Value.ownBlock (.slice q s cap) ≠ some a.block := fun e => by have := (hO.out.lt _ e).2; omega
        have hOZ := Lib.hid (ownsRow_setCell_other (ownsRow_setCell_other (ownsRow_setCell_other (ownsRow_setCell_other OW.out (ho ⟨w.heap.size, 0, none⟩ (by show _ ≤ w.heap.size; omega)) (.int .i64 0)) (ho ⟨w.heap.size + 1 + 1, 0, none⟩ (by show _ ≤ w.heap.size + 1 + 1; omega)) (.int .i64 0)) (ho ⟨w.heap.size + 1 + 1, 1, none⟩ (by show _ ≤ w.heap.size + 1 + 1; omega)) (.int .i64 left)) (ho ⟨w.heap.size + 1 + 1, 2, none⟩ (by show _ ≤ w.heap.size + 1 + 1; omega)) (.slice q s cap))
        have z0 := Z.out.c0
        have z1 := Z.out.c1
        have z2 := Z.out.c2
        generalize ((((wq.setCell ⟨w.heap.size, 0, none⟩ (.int .i64 0)).setCell ⟨w.heap.size + 1 + 1, 0, none⟩ (.int .i64 0)).setCell ⟨w.heap.size + 1 + 1, 1, none⟩ (.int .i64 left)).setCell ⟨w.heap.size + 1 + 1, 2, none⟩ (.slice q s cap)) = wz at *
        exact bodyPost_ret (v := .tuple #[rv 0 left (.slice q s cap), .bool true]) (by simp [results, Try.results52, go_sem, rv, z0, z1, z2]) rfl ⟨hZ, .inr ⟨V.out, _, rfl, hOZ.out⟩⟩
      · have d0 : (A == 0) = false := beq_false_of_ne h0
        have V : Hid (val n s ⟨held, now, left, cost⟩ (3, A, -1) = false) := Lib.hid (by rw [val3, hz, decide_eq_false h0]; rfl)
        go_enter Try.func52, Try.ntmps52
        go_wp2
        go_quiet (fail)
        have BW : Below w.heap.size w ((((w.alloc (Obj.cells #[Value.int IntKind.i64 now, Value.int IntKind.i64 left, Value.slice q s cap] 76)).alloc (Obj.cells #[Value.int IntKind.i64 3, Value.int IntKind.i64 A, Value.int IntKind.i64 (-1)] 66)).alloc (Obj.cells #[Value.int IntKind.i64 0, Value.int IntKind.i64 0, Value.slice none 0 0] 76)).drewN nq) := below_drewN ((((Below.refl _ _).alloc (Nat.le_refl _) _).alloc (by simp) _).alloc (by rw [World.size_alloc, World.size_alloc]; omega) _) _
        have n0 : B3 (w.alloc (Obj.cells #[Value.int IntKind.i64 now, Value.int IntKind.i64 left, Value.slice q s cap] 76)) w.heap.size (.int .i64 now) (.int .i64 left) (.slice q s cap) := B3.new
        have b0 : Hid (B3 ((((w.alloc (Obj.cells #[Value.int IntKind.i64 now, Value.int IntKind.i64 left, Value.slice q s cap] 76)).alloc (Obj.cells #[Value.int IntKind.i64 3, Value.int IntKind.i64 A, Value.int IntKind.i64 (-1)] 66)).alloc (Obj.cells #[Value.int IntKind.i64 0, Value.int IntKind.i64 0, Value.slice none 0 0] 76)).drewN nq) w.heap.size (.int .i64 now) (.int .i64 left) (.slice q s cap)) := Lib.hid ((n0.alloc _).alloc _)
        have n2 : B3 (((w.alloc (Obj.cells #[Value.int IntKind.i64 now, Value.int IntKind.i64 left, Value.slice q s cap] 76)).alloc (Obj.cells #[Value.int IntKind.i64 3, Value.int IntKind.i64 A, Value.int IntKind.i64 (-1)] 66)).alloc (Obj.cells #[Value.int IntKind.i64 0, Value.int IntKind.i64 0, Value.slice none 0 0] 76)) ((w.alloc (Obj.cells #[Value.int IntKind.i64 now, Value.int IntKind.i64 left, Value.slice q s cap] 76)).alloc (Obj.cells #[Value.int IntKind.i64 3, Value.int IntKind.i64 A, Value.int IntKind.i64 (-1)] 66)).heap.size (.int .i64 0) (.int .i64 0) (.slice none 0 0) := B3.new
        rw [World.size_alloc, World.size_alloc] at n2
        have b2 : Hid (B3 ((((w.alloc (Obj.cells #[Value.int IntKind.i64 now, Value.int IntKind.i64 left, Value.slice q s cap] 76)).alloc (Obj.cells #[Value.int IntKind.i64 3, Value.int IntKind.i64 A, Value.int IntKind.i64 (-1)] 66)).alloc (Obj.cells #[Value.int IntKind.i64 0, Value.int IntKind.i64 0, Value.slice none 0 0] 76)).drewN nq) (w.heap.size + 1 + 1) (.int .i64 0) (.int .i64 0) (.slice none 0 0)) := Lib.hid n2
        have a1 : ((((w.alloc (Obj.cells #[Value.int IntKind.i64 now, Value.int IntKind.i64 left, Value.slice q s cap] 76)).alloc (Obj.cells #[Value.int IntKind.i64 3, Value.int IntKind.i64 A, Value.int IntKind.i64 (-1)] 66)).alloc (Obj.cells #[Value.int IntKind.i64 0, Value.int IntKind.i64 0, Value.slice none 0 0] 76)).drewN nq).cell? ⟨w.heap.size + 1, 1, none⟩ = some (.int .i64 A) := by go_cell
        have OW : Hid (((((w.alloc (Obj.cells #[Value.int IntKind.i64 now, Value.int IntKind.i64 left, Value.slice q s cap] 76)).alloc (Obj.cells #[Value.int IntKind.i64 3, Value.int IntKind.i64 A, Value.int IntKind.i64 (-1)] 66)).alloc (Obj.cells #[Value.int IntKind.i64 0, Value.int IntKind.i64 0, Value.slice none 0 0] 76)).drewN nq).ownsRow base 3 1 (.slice q s cap) s ((held.take s).map (Value.int .i64))) := Lib.hid (((hO.out.alloc _).alloc _).alloc _)
        clear n0 n2
        generalize (((w.alloc (Obj.cells #[Value.int IntKind.i64 now, Value.int IntKind.i64 left, Value.slice q s cap] 76)).alloc (Obj.cells #[Value.int IntKind.i64 3, Value.int IntKind.i64 A, Value.int IntKind.i64 (-1)] 66)).alloc (Obj.cells #[Value.int IntKind.i64 0, Value.int IntKind.i64 0, Value.slice none 0 0] 76)).drewN nq = wq at *
        have c0 := b0.out.c0
        have c1 := b0.out.c1
        have c2 := b0.out.c2
        have f0 := b0.out.fz 0
        have e0 := b2.out.c0
        have e1 := b2.out.c1
        have e2 := b2.out.c2
        have g0 := b2.out.fz 0
        have g1 := b2.out.fz 1
        have g2 := b2.out.fz 2
        go_wp2
        have Z := Lib.hid (((b2.out.s0 (.int .i64 now)).s1 (.int .i64 left)).s2 (.slice q s cap))
        have hZ : Below w.heap.size w (((wq.setCell ⟨w.heap.size + 1 + 1, 0, none⟩ (.int .i64 now)).setCell ⟨w.heap.size + 1 + 1, 1, none⟩ (.int .i64 left)).setCell ⟨w.heap.size + 1 + 1, 2, none⟩ (.slice q s cap)) := ((BW.setCell (by show _ ≤ w.heap.size + 1 + 1; omega) _).setCell (by show _ ≤ w.heap.size + 1 + 1; omega) _).setCell (by show _ ≤ w.heap.size + 1 + 1; omega) _
        have z0 := Z.out.c0
        have z1 := Z.out.c1
        have z2 := Z.out.c2
        generalize (((wq.setCell ⟨w.heap.size + 1 + 1, 0, none⟩ (.int .i64 now)).setCell ⟨w.heap.size + 1 + 1, 1, none⟩ (.int .i64 left)).setCell ⟨w.heap.size + 1 + 1, 2, none⟩ (.slice q s cap)) = wz at *
        exact bodyPost_ret (v := .tuple #[rv now left (.slice q s cap), .bool false]) (by simp [results, Try.results52, go_sem, rv, z0, z1, z2]) rfl ⟨hZ, .inl ⟨V.out, rfl⟩⟩
    · have em : (z == -1) = false := beq_false_of_ne hm
      have V : Hid (val n s ⟨held, now, left, cost⟩ (3, A, z) = false) := Lib.hid (by rw [val3, hz, decide_eq_false hm]; rfl)
      go_enter Try.func52, Try.ntmps52
      go_wp2
      go_quiet (fail)
      have BW : Below w.heap.size w ((((w.alloc (Obj.cells #[Value.int IntKind.i64 now, Value.int IntKind.i64 left, Value.slice q s cap] 76)).alloc (Obj.cells #[Value.int IntKind.i64 3, Value.int IntKind.i64 A, Value.int IntKind.i64 z] 66)).alloc (Obj.cells #[Value.int IntKind.i64 0, Value.int IntKind.i64 0, Value.slice none 0 0] 76)).drewN nq) := below_drewN ((((Below.refl _ _).alloc (Nat.le_refl _) _).alloc (by simp) _).alloc (by rw [World.size_alloc, World.size_alloc]; omega) _) _
      have n0 : B3 (w.alloc (Obj.cells #[Value.int IntKind.i64 now, Value.int IntKind.i64 left, Value.slice q s cap] 76)) w.heap.size (.int .i64 now) (.int .i64 left) (.slice q s cap) := B3.new
      have b0 : Hid (B3 ((((w.alloc (Obj.cells #[Value.int IntKind.i64 now, Value.int IntKind.i64 left, Value.slice q s cap] 76)).alloc (Obj.cells #[Value.int IntKind.i64 3, Value.int IntKind.i64 A, Value.int IntKind.i64 z] 66)).alloc (Obj.cells #[Value.int IntKind.i64 0, Value.int IntKind.i64 0, Value.slice none 0 0] 76)).drewN nq) w.heap.size (.int .i64 now) (.int .i64 left) (.slice q s cap)) := Lib.hid ((n0.alloc _).alloc _)
      have n2 : B3 (((w.alloc (Obj.cells #[Value.int IntKind.i64 now, Value.int IntKind.i64 left, Value.slice q s cap] 76)).alloc (Obj.cells #[Value.int IntKind.i64 3, Value.int IntKind.i64 A, Value.int IntKind.i64 z] 66)).alloc (Obj.cells #[Value.int IntKind.i64 0, Value.int IntKind.i64 0, Value.slice none 0 0] 76)) ((w.alloc (Obj.cells #[Value.int IntKind.i64 now, Value.int IntKind.i64 left, Value.slice q s cap] 76)).alloc (Obj.cells #[Value.int IntKind.i64 3, Value.int IntKind.i64 A, Value.int IntKind.i64 z] 66)).heap.size (.int .i64 0) (.int .i64 0) (.slice none 0 0) := B3.new
      rw [World.size_alloc, World.size_alloc] at n2
      have b2 : Hid (B3 ((((w.alloc (Obj.cells #[Value.int IntKind.i64 now, Value.int IntKind.i64 left, Value.slice q s cap] 76)).alloc (Obj.cells #[Value.int IntKind.i64 3, Value.int IntKind.i64 A, Value.int IntKind.i64 z] 66)).alloc (Obj.cells #[Value.int IntKind.i64 0, Value.int IntKind.i64 0, Value.slice none 0 0] 76)).drewN nq) (w.heap.size + 1 + 1) (.int .i64 0) (.int .i64 0) (.slice none 0 0)) := Lib.hid n2
      have a1 : ((((w.alloc (Obj.cells #[Value.int IntKind.i64 now, Value.int IntKind.i64 left, Value.slice q s cap] 76)).alloc (Obj.cells #[Value.int IntKind.i64 3, Value.int IntKind.i64 A, Value.int IntKind.i64 z] 66)).alloc (Obj.cells #[Value.int IntKind.i64 0, Value.int IntKind.i64 0, Value.slice none 0 0] 76)).drewN nq).cell? ⟨w.heap.size + 1, 1, none⟩ = some (.int .i64 A) := by go_cell
      have OW : Hid (((((w.alloc (Obj.cells #[Value.int IntKind.i64 now, Value.int IntKind.i64 left, Value.slice q s cap] 76)).alloc (Obj.cells #[Value.int IntKind.i64 3, Value.int IntKind.i64 A, Value.int IntKind.i64 z] 66)).alloc (Obj.cells #[Value.int IntKind.i64 0, Value.int IntKind.i64 0, Value.slice none 0 0] 76)).drewN nq).ownsRow base 3 1 (.slice q s cap) s ((held.take s).map (Value.int .i64))) := Lib.hid (((hO.out.alloc _).alloc _).alloc _)
      clear n0 n2
      generalize (((w.alloc (Obj.cells #[Value.int IntKind.i64 now, Value.int IntKind.i64 left, Value.slice q s cap] 76)).alloc (Obj.cells #[Value.int IntKind.i64 3, Value.int IntKind.i64 A, Value.int IntKind.i64 z] 66)).alloc (Obj.cells #[Value.int IntKind.i64 0, Value.int IntKind.i64 0, Value.slice none 0 0] 76)).drewN nq = wq at *
      have c0 := b0.out.c0
      have c1 := b0.out.c1
      have c2 := b0.out.c2
      have f0 := b0.out.fz 0
      have e0 := b2.out.c0
      have e1 := b2.out.c1
      have e2 := b2.out.c2
      have g0 := b2.out.fz 0
      have g1 := b2.out.fz 1
      have g2 := b2.out.fz 2
      go_wp2
      have Z := Lib.hid (((b2.out.s0 (.int .i64 now)).s1 (.int .i64 left)).s2 (.slice q s cap))
      have hZ : Below w.heap.size w (((wq.setCell ⟨w.heap.size + 1 + 1, 0, none⟩ (.int .i64 now)).setCell ⟨w.heap.size + 1 + 1, 1, none⟩ (.int .i64 left)).setCell ⟨w.heap.size + 1 + 1, 2, none⟩ (.slice q s cap)) := ((BW.setCell (by show _ ≤ w.heap.size + 1 + 1; omega) _).setCell (by show _ ≤ w.heap.size + 1 + 1; omega) _).setCell (by show _ ≤ w.heap.size + 1 + 1; omega) _
      have z0 := Z.out.c0
      have z1 := Z.out.c1
      have z2 := Z.out.c2
      generalize (((wq.setCell ⟨w.heap.size + 1 + 1, 0, none⟩ (.int .i64 now)).setCell ⟨w.heap.size + 1 + 1, 1, none⟩ (.int .i64 left)).setCell ⟨w.heap.size + 1 + 1, 2, none⟩ (.slice q s cap)) = wz at *
      exact bodyPost_ret (v := .tuple #[rv now left (.slice q s cap), .bool false]) (by simp [results, Try.results52, go_sem, rv, z0, z1, z2]) rfl ⟨hZ, .inl ⟨V.out, rfl⟩⟩
  · have em : (z == -1) = false := beq_false_of_ne (by omega)
    have V : Hid (val n s ⟨held, now, left, cost⟩ (3, A, z) = false) := Lib.hid (by rw [val3, hz, decide_eq_false (show ¬ z = -1 by omega)]; rfl)
    go_enter Try.func52, Try.ntmps52
    go_wp2
    go_quiet (fail)
    have BW : Below w.heap.size w ((((w.alloc (Obj.cells #[Value.int IntKind.i64 now, Value.int IntKind.i64 left, Value.slice q s cap] 76)).alloc (Obj.cells #[Value.int IntKind.i64 3, Value.int IntKind.i64 A, Value.int IntKind.i64 z] 66)).alloc (Obj.cells #[Value.int IntKind.i64 0, Value.int IntKind.i64 0, Value.slice none 0 0] 76)).drewN nq) := below_drewN ((((Below.refl _ _).alloc (Nat.le_refl _) _).alloc (by simp) _).alloc (by rw [World.size_alloc, World.size_alloc]; omega) _) _
    have n0 : B3 (w.alloc (Obj.cells #[Value.int IntKind.i64 now, Value.int IntKind.i64 left, Value.slice q s cap] 76)) w.heap.size (.int .i64 now) (.int .i64 left) (.slice q s cap) := B3.new
    have b0 : Hid (B3 ((((w.alloc (Obj.cells #[Value.int IntKind.i64 now, Value.int IntKind.i64 left, Value.slice q s cap] 76)).alloc (Obj.cells #[Value.int IntKind.i64 3, Value.int IntKind.i64 A, Value.int IntKind.i64 z] 66)).alloc (Obj.cells #[Value.int IntKind.i64 0, Value.int IntKind.i64 0, Value.slice none 0 0] 76)).drewN nq) w.heap.size (.int .i64 now) (.int .i64 left) (.slice q s cap)) := Lib.hid ((n0.alloc _).alloc _)
    have n2 : B3 (((w.alloc (Obj.cells #[Value.int IntKind.i64 now, Value.int IntKind.i64 left, Value.slice q s cap] 76)).alloc (Obj.cells #[Value.int IntKind.i64 3, Value.int IntKind.i64 A, Value.int IntKind.i64 z] 66)).alloc (Obj.cells #[Value.int IntKind.i64 0, Value.int IntKind.i64 0, Value.slice none 0 0] 76)) ((w.alloc (Obj.cells #[Value.int IntKind.i64 now, Value.int IntKind.i64 left, Value.slice q s cap] 76)).alloc (Obj.cells #[Value.int IntKind.i64 3, Value.int IntKind.i64 A, Value.int IntKind.i64 z] 66)).heap.size (.int .i64 0) (.int .i64 0) (.slice none 0 0) := B3.new
    rw [World.size_alloc, World.size_alloc] at n2
    have b2 : Hid (B3 ((((w.alloc (Obj.cells #[Value.int IntKind.i64 now, Value.int IntKind.i64 left, Value.slice q s cap] 76)).alloc (Obj.cells #[Value.int IntKind.i64 3, Value.int IntKind.i64 A, Value.int IntKind.i64 z] 66)).alloc (Obj.cells #[Value.int IntKind.i64 0, Value.int IntKind.i64 0, Value.slice none 0 0] 76)).drewN nq) (w.heap.size + 1 + 1) (.int .i64 0) (.int .i64 0) (.slice none 0 0)) := Lib.hid n2
    have a1 : ((((w.alloc (Obj.cells #[Value.int IntKind.i64 now, Value.int IntKind.i64 left, Value.slice q s cap] 76)).alloc (Obj.cells #[Value.int IntKind.i64 3, Value.int IntKind.i64 A, Value.int IntKind.i64 z] 66)).alloc (Obj.cells #[Value.int IntKind.i64 0, Value.int IntKind.i64 0, Value.slice none 0 0] 76)).drewN nq).cell? ⟨w.heap.size + 1, 1, none⟩ = some (.int .i64 A) := by go_cell
    have OW : Hid (((((w.alloc (Obj.cells #[Value.int IntKind.i64 now, Value.int IntKind.i64 left, Value.slice q s cap] 76)).alloc (Obj.cells #[Value.int IntKind.i64 3, Value.int IntKind.i64 A, Value.int IntKind.i64 z] 66)).alloc (Obj.cells #[Value.int IntKind.i64 0, Value.int IntKind.i64 0, Value.slice none 0 0] 76)).drewN nq).ownsRow base 3 1 (.slice q s cap) s ((held.take s).map (Value.int .i64))) := Lib.hid (((hO.out.alloc _).alloc _).alloc _)
    clear n0 n2
    generalize (((w.alloc (Obj.cells #[Value.int IntKind.i64 now, Value.int IntKind.i64 left, Value.slice q s cap] 76)).alloc (Obj.cells #[Value.int IntKind.i64 3, Value.int IntKind.i64 A, Value.int IntKind.i64 z] 66)).alloc (Obj.cells #[Value.int IntKind.i64 0, Value.int IntKind.i64 0, Value.slice none 0 0] 76)).drewN nq = wq at *
    have c0 := b0.out.c0
    have c1 := b0.out.c1
    have c2 := b0.out.c2
    have f0 := b0.out.fz 0
    have e0 := b2.out.c0
    have e1 := b2.out.c1
    have e2 := b2.out.c2
    have g0 := b2.out.fz 0
    have g1 := b2.out.fz 1
    have g2 := b2.out.fz 2
    go_wp2
    have Z := Lib.hid (((b2.out.s0 (.int .i64 now)).s1 (.int .i64 left)).s2 (.slice q s cap))
    have hZ : Below w.heap.size w (((wq.setCell ⟨w.heap.size + 1 + 1, 0, none⟩ (.int .i64 now)).setCell ⟨w.heap.size + 1 + 1, 1, none⟩ (.int .i64 left)).setCell ⟨w.heap.size + 1 + 1, 2, none⟩ (.slice q s cap)) := ((BW.setCell (by show _ ≤ w.heap.size + 1 + 1; omega) _).setCell (by show _ ≤ w.heap.size + 1 + 1; omega) _).setCell (by show _ ≤ w.heap.size + 1 + 1; omega) _
    have z0 := Z.out.c0
    have z1 := Z.out.c1
    have z2 := Z.out.c2
    generalize (((wq.setCell ⟨w.heap.size + 1 + 1, 0, none⟩ (.int .i64 now)).setCell ⟨w.heap.size + 1 + 1, 1, none⟩ (.int .i64 left)).setCell ⟨w.heap.size + 1 + 1, 2, none⟩ (.slice q s cap)) = wz at *
    exact bodyPost_ret (v := .tuple #[rv now left (.slice q s cap), .bool false]) (by simp [results, Try.results52, go_sem, rv, z0, z1, z2]) rfl ⟨hZ, .inl ⟨V.out, rfl⟩⟩
end Go.Proofs.Ytndmpoomdoojpaa.Ck
