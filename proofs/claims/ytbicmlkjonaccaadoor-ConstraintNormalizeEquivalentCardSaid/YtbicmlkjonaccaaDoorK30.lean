/- Linear forms: the difference of numbers of 192 bits, in the reference. -/
import Derived.Test.YtbicmlkjonaccaaDoorK29
import Derived.Test.YtbicmlkjonaccaaDoorK4

namespace Go.Proofs.YtbicmlkjonaccaaDoor.Ln
open Go.ChangeShapes Go.WideShapes Go.ChangeAt Go.RowKit
set_option linter.unusedVariables false
set_option linter.unusedSimpArgs false
def lval : List Int -> Int
 | [] => 0
 | x :: l => x + 4294967296 * lval l
theorem lval_snoc (l : List Int) (x : Int) : lval (l ++ [x]) = lval l + x * 4294967296 ^ l.length := by
 induction l with
 | nil => simp [lval]
 | cons y l ih =>
  rw [List.cons_append, lval, lval, ih, List.length_cons, Int.pow_succ]
  grind
theorem lval_6 (a0 a1 a2 a3 a4 a5 : Int) : lval [a0, a1, a2, a3, a4, a5] = dval a0 a1 a2 a3 a4 a5 := by simp only [lval, dval]; omega
theorem lval_bd : ∀ l : List Int, (∀ x ∈ l, 0 <= x /\ x < 4294967296) -> 0 <= lval l /\ lval l < 4294967296 ^ l.length
 | [], _ => by simp [lval]
 | x :: l, h => by
  have ih := lval_bd l (fun y hy => h y (List.mem_cons_of_mem _ hy))
  have hx := h x (by simp)
  rw [lval, List.length_cons, Int.pow_succ]
  generalize (4294967296 : Int) ^ l.length = P at *
  omega
def C6 (g : Nat) (L : List Int) (u : World) : Prop := ∀ i, i < 6 -> u.cell? ⟨g, i, none⟩ = some (.int .u64 (L.getD i 0)) /\ u.frozen? ⟨g, i, none⟩ = false
theorem C6.set {g j : Nat} {L : List Int} {u : World} {v : Int} (h : C6 g L u) (hl : L.length = 6) (hj : j < 6) : C6 g (L.set j v) (u.setCell ⟨g, j, none⟩ (.int .u64 v)) := fun i hi => by
 obtain ⟨h1, h2⟩ := h i hi
 refine ⟨?_, by simp [World.frozen?_setCell, h2]⟩
 by_cases hij : i = j
 ·subst hij
  rw [World.cell?_setCell_same _ _ _ h1]
  unfold List.getD
  rw [List.getElem?_set_self (by omega)]
  rfl
 ·rw [World.cell?_setCell_other _ _ _ _ (by simp <;> omega), h1]
  unfold List.getD
  rw [List.getElem?_set_ne (by omega)]
theorem C6.far {g : Nat} {L : List Int} {u : World} {a : Addr} {v : Value} (h : C6 g L u) (hg : a.block ≠ g) : C6 g L (u.setCell a v) := fun i hi => by
 obtain ⟨h1, h2⟩ := h i hi
 exact ⟨(World.cell?_setCell_far u a ⟨g, i, none⟩ v hg).trans h1, by simp [World.frozen?_setCell, h2]⟩
theorem C6.of {g : Nat} {a0 a1 a2 a3 a4 a5 : Int} {u : World} (h : Cl [(g, 0, .int .u64 a0), (g, 1, .int .u64 a1), (g, 2, .int .u64 a2), (g, 3, .int .u64 a3), (g, 4, .int .u64 a4), (g, 5, .int .u64 a5)] u) : C6 g [a0, a1, a2, a3, a4, a5] u := fun i hi => by
 rcases i with _ | _ | _ | _ | _ | _ | i
 ·exact h g 0 (.int .u64 a0) (by simp)
 ·exact h g 1 (.int .u64 a1) (by simp)
 ·exact h g 2 (.int .u64 a2) (by simp)
 ·exact h g 3 (.int .u64 a3) (by simp)
 ·exact h g 4 (.int .u64 a4) (by simp)
 ·exact h g 5 (.int .u64 a5) (by simp)
 ·omega
theorem set_at {rs L : List Int} {j : Nat} {v : Int} (hr : rs.length = j) (hj : j < L.length) : (rs ++ L.drop j).set j v = (rs ++ [v]) ++ L.drop (j + 1) := by
 subst hr
 rw [List.drop_eq_getElem_cons hj, List.set_append_right _ _ (Nat.le_refl _), Nat.sub_self, List.set_cons_zero, List.append_assoc]
 rfl
theorem get_at {rs L : List Int} {j : Nat} (hr : rs.length = j) (hj : j < L.length) : (rs ++ L.drop j).getD j 0 = L.getD j 0 := by
 subst hr
 rw [List.drop_eq_getElem_cons hj]
 unfold List.getD
 rw [List.getElem?_append_right (Nat.le_refl _), Nat.sub_self, List.getElem?_cons_zero, List.getElem?_eq_getElem hj]
theorem itake1 {L : List Int} {i : Nat} (h : i < L.length) : L.take (i + 1) = L.take i ++ [L.getD i 0] := by
 rw [List.take_succ_eq_append_getElem h]
 unfold List.getD
 rw [List.getElem?_eq_getElem h]
 rfl
theorem step_eq {l a b o o' P r x y : Int} (h : l = a - b + o * P) (hr : r = x - y - o + o' * 4294967296) : l + r * P = (a + x * P) - (b + y * P) + o' * (P * 4294967296) := by
 subst h hr
 grind
set_option maxRecDepth 100000 in
set_option maxHeartbeats 32000000 in
theorem minus1 (a0 a1 a2 a3 a4 a5 b0 b1 b2 b3 b4 b5 : Int) (w : World) (hA : ((0 <= a0 /\ a0 < 4294967296) /\ (0 <= a1 /\ a1 < 4294967296) /\ (0 <= a2 /\ a2 < 4294967296) /\ (0 <= a3 /\ a3 < 4294967296) /\ (0 <= a4 /\ a4 < 4294967296) /\ (0 <= a5 /\ a5 < 4294967296))) (hB : ((0 <= b0 /\ b0 < 4294967296) /\ (0 <= b1 /\ b1 < 4294967296) /\ (0 <= b2 /\ b2 < 4294967296) /\ (0 <= b3 /\ b3 < 4294967296) /\ (0 <= b4 /\ b4 < 4294967296) /\ (0 <= b5 /\ b5 < 4294967296))) (hle : dval b0 b1 b2 b3 b4 b5 <= dval a0 a1 a2 a3 a4 a5) :
  Calls Tryd.prog 94 #[.agg #[.int .u64 a0, .int .u64 a1, .int .u64 a2, .int .u64 a3, .int .u64 a4, .int .u64 a5], .agg #[.int .u64 b0, .int .u64 b1, .int .u64 b2, .int .u64 b3, .int .u64 b4, .int .u64 b5]] w (DW (dval a0 a1 a2 a3 a4 a5 - dval b0 b1 b2 b3 b4 b5) w) := by
 have B0 : Below w.heap.size w (((w.alloc (Obj.cells #[Value.int .u64 a0, Value.int .u64 a1, Value.int .u64 a2, Value.int .u64 a3, Value.int .u64 a4, Value.int .u64 a5] 114)).alloc (Obj.cells #[Value.int .u64 b0, Value.int .u64 b1, Value.int .u64 b2, Value.int .u64 b3, Value.int .u64 b4, Value.int .u64 b5] 114)).alloc (Obj.cells #[Value.int .u64 0, Value.int .u64 0, Value.int .u64 0, Value.int .u64 0, Value.int .u64 0, Value.int .u64 0] 114)) := ((((Below.refl _ _).alloc (Nat.le_refl _) _).alloc (by simp) _).alloc (by simp; omega) _)
 have CA : C6 w.heap.size [a0, a1, a2, a3, a4, a5] (((w.alloc (Obj.cells #[Value.int .u64 a0, Value.int .u64 a1, Value.int .u64 a2, Value.int .u64 a3, Value.int .u64 a4, Value.int .u64 a5] 114)).alloc (Obj.cells #[Value.int .u64 b0, Value.int .u64 b1, Value.int .u64 b2, Value.int .u64 b3, Value.int .u64 b4, Value.int .u64 b5] 114)).alloc (Obj.cells #[Value.int .u64 0, Value.int .u64 0, Value.int .u64 0, Value.int .u64 0, Value.int .u64 0, Value.int .u64 0] 114)) := C6.of (Cl.cons (by go_cell) (by first | go_cell | simp) (Cl.cons (by go_cell) (by first | go_cell | simp) (Cl.cons (by go_cell) (by first | go_cell | simp) (Cl.cons (by go_cell) (by first | go_cell | simp) (Cl.cons (by go_cell) (by first | go_cell | simp) (Cl.cons (by go_cell) (by first | go_cell | simp) (Cl.nil _)))))))
 have CB : C6 (w.heap.size + 1) [b0, b1, b2, b3, b4, b5] (((w.alloc (Obj.cells #[Value.int .u64 a0, Value.int .u64 a1, Value.int .u64 a2, Value.int .u64 a3, Value.int .u64 a4, Value.int .u64 a5] 114)).alloc (Obj.cells #[Value.int .u64 b0, Value.int .u64 b1, Value.int .u64 b2, Value.int .u64 b3, Value.int .u64 b4, Value.int .u64 b5] 114)).alloc (Obj.cells #[Value.int .u64 0, Value.int .u64 0, Value.int .u64 0, Value.int .u64 0, Value.int .u64 0, Value.int .u64 0] 114)) := C6.of (Cl.cons (by go_cell) (by first | go_cell | simp) (Cl.cons (by go_cell) (by first | go_cell | simp) (Cl.cons (by go_cell) (by first | go_cell | simp) (Cl.cons (by go_cell) (by first | go_cell | simp) (Cl.cons (by go_cell) (by first | go_cell | simp) (Cl.cons (by go_cell) (by first | go_cell | simp) (Cl.nil _)))))))
 have CR : Cl [(w.heap.size + 1 + 1, 0, .int .u64 0), (w.heap.size + 1 + 1, 1, .int .u64 0), (w.heap.size + 1 + 1, 2, .int .u64 0), (w.heap.size + 1 + 1, 3, .int .u64 0), (w.heap.size + 1 + 1, 4, .int .u64 0), (w.heap.size + 1 + 1, 5, .int .u64 0)] (((w.alloc (Obj.cells #[Value.int .u64 a0, Value.int .u64 a1, Value.int .u64 a2, Value.int .u64 a3, Value.int .u64 a4, Value.int .u64 a5] 114)).alloc (Obj.cells #[Value.int .u64 b0, Value.int .u64 b1, Value.int .u64 b2, Value.int .u64 b3, Value.int .u64 b4, Value.int .u64 b5] 114)).alloc (Obj.cells #[Value.int .u64 0, Value.int .u64 0, Value.int .u64 0, Value.int .u64 0, Value.int .u64 0, Value.int .u64 0] 114)) := (Cl.cons (by go_cell) (by first | go_cell | simp) (Cl.cons (by go_cell) (by first | go_cell | simp) (Cl.cons (by go_cell) (by first | go_cell | simp) (Cl.cons (by go_cell) (by first | go_cell | simp) (Cl.cons (by go_cell) (by first | go_cell | simp) (Cl.cons (by go_cell) (by first | go_cell | simp) (Cl.nil _)))))))
 have HBA : Hid (∀ x ∈ [a0, a1, a2, a3, a4, a5], 0 <= x /\ x < 4294967296) := Lib.hid (by simp only [List.forall_mem_cons]; exact ⟨hA.1, hA.2.1, hA.2.2.1, hA.2.2.2.1, hA.2.2.2.2.1, hA.2.2.2.2.2, by simp⟩)
 have HBB : Hid (∀ x ∈ [b0, b1, b2, b3, b4, b5], 0 <= x /\ x < 4294967296) := Lib.hid (by simp only [List.forall_mem_cons]; exact ⟨hB.1, hB.2.1, hB.2.2.1, hB.2.2.2.1, hB.2.2.2.2.1, hB.2.2.2.2.2, by simp⟩)
 rw [<- lval_6, <- lval_6] at hle ⊢
 have HLE := Lib.hid hle
 have al : [a0, a1, a2, a3, a4, a5].length = 6 := rfl
 have bl : [b0, b1, b2, b3, b4, b5].length = 6 := rfl
 have CA := Lib.hid CA
 have CB := Lib.hid CB
 have CR := Lib.hid CR
 clear hA hB hle
 go_enter Tryd.func94, Tryd.ntmps94
 go_wp2
 generalize (((w.alloc (Obj.cells #[Value.int .u64 a0, Value.int .u64 a1, Value.int .u64 a2, Value.int .u64 a3, Value.int .u64 a4, Value.int .u64 a5] 114)).alloc (Obj.cells #[Value.int .u64 b0, Value.int .u64 b1, Value.int .u64 b2, Value.int .u64 b3, Value.int .u64 b4, Value.int .u64 b5] 114)).alloc (Obj.cells #[Value.int .u64 0, Value.int .u64 0, Value.int .u64 0, Value.int .u64 0, Value.int .u64 0, Value.int .u64 0] 114)) = z at *
 generalize [a0, a1, a2, a3, a4, a5] = AA at *
 generalize [b0, b1, b2, b3, b4, b5] = BB at *
 have HAL := Lib.hid al
 have HBL := Lib.hid bl
 clear al bl
 have hal : Program.arrayLen Tryd.prog 114 = 6 := by kernel_rfl
 go_loopw [5, 6] (fun bw i wr => ∃ (j : Nat) (o : Int) (rs : List Int), bw = .int .u64 o /\ 0 <= o /\ o <= 1 /\ i = .int .i64 (j : Int) /\ j <= 6 /\ Hid (rs.length = j) /\ Hid (∀ x ∈ rs, 0 <= x /\ x < 4294967296) /\ Below w.heap.size w wr /\ Hid (C6 w.heap.size (rs ++ AA.drop j) wr) /\ Hid (C6 (w.heap.size + 1) BB wr) /\ Hid (Cl [(w.heap.size + 1 + 1, 0, .int .u64 0), (w.heap.size + 1 + 1, 1, .int .u64 0), (w.heap.size + 1 + 1, 2, .int .u64 0), (w.heap.size + 1 + 1, 3, .int .u64 0), (w.heap.size + 1 + 1, 4, .int .u64 0), (w.heap.size + 1 + 1, 5, .int .u64 0)] wr) /\ Hid (lval rs = lval (AA.take j) - lval (BB.take j) + o * 4294967296 ^ j)) (fun _ i _ => 6 - (intOf i).toNat)
 case atStart => exact ⟨0, 0, [], rfl, by omega, by omega, rfl, by omega, Lib.hid rfl, Lib.hid (by simp), B0, Lib.hid CA.out, CB, CR, Lib.hid (by simp [lval])⟩
 case round =>
  obtain ⟨j, o, rs, rfl, o0, o1, rfl, hj, HRL, HRB, hB, hCA, hCB, hCR, HV⟩ := hrel
  have j0 : (0 : Int) <= j := by omega
  by_cases hlt : j < 6
  ·have j1 : (j : Int) < 6 := by omega
   have hja : j < AA.length := by rw [HAL.out]; exact hlt
   have hjb : j < BB.length := by rw [HBL.out]; exact hlt
   obtain ⟨c0, z0⟩ := hCA.out j hlt
   obtain ⟨d0, _⟩ := hCB.out j hlt
   rw [get_at HRL.out hja] at c0
   have ba : 0 <= AA.getD j 0 /\ AA.getD j 0 < 4294967296 := HBA.out _ (by unfold List.getD; rw [List.getElem?_eq_getElem hja]; exact List.getElem_mem hja)
   have bb : 0 <= BB.getD j 0 /\ BB.getD j 0 < 4294967296 := HBB.out _ (by unfold List.getD; rw [List.getElem?_eq_getElem hjb]; exact List.getElem_mem hjb)
   have HTA := Lib.hid (itake1 hja)
   have HTB := Lib.hid (itake1 hjb)
   obtain ⟨x, hx⟩ : ∃ x, AA.getD j 0 = x := ⟨_, rfl⟩
   obtain ⟨y, hy⟩ : ∃ y, BB.getD j 0 = y := ⟨_, rfl⟩
   rw [hx] at c0 ba HTA
   rw [hy] at d0 bb HTB
   clear hx hy
   obtain ⟨ba0, ba1⟩ := ba
   obtain ⟨bb0, bb1⟩ := bb
   obtain ⟨d, hd⟩ : ∃ d, y + o = d := ⟨_, rfl⟩
   have hd0 : 0 <= d /\ d <= 4294967296 := by omega
   have HD := Lib.hid hd
   have wd : IntKind.u64.wrap (y + o) = d := by rw [hd, u64w]; omega
   have hlen6 : (rs ++ AA.drop j).length = 6 := by rw [List.length_append, List.length_drop, HRL.out, HAL.out]; omega
   have HL6 := Lib.hid hlen6
   clear hd hlen6
   have key : ∀ (r o' : Int), r = x - y - o + o' * 4294967296 -> lval (rs ++ [r]) = lval (AA.take (j + 1)) - lval (BB.take (j + 1)) + o' * 4294967296 ^ (j + 1) := fun r o' hr => by
    have e1 : (AA.take j).length = j := by rw [List.length_take]; omega
    have e2 : (BB.take j).length = j := by rw [List.length_take]; omega
    rw [HTA.out, HTB.out, lval_snoc, lval_snoc, lval_snoc, HRL.out, e1, e2, Int.pow_succ]
    exact step_eq HV.out hr
   have key := Lib.hid key
   by_cases hlt2 : x < d
   ·obtain ⟨r, hr⟩ : ∃ r, x + 4294967296 - d = r := ⟨_, rfl⟩
    have HK := Lib.hid (key.out r 1 (by have := HD.out; omega))
    have hr0 : 0 <= r /\ r < 4294967296 := by omega
    have w1 : IntKind.u64.wrap (x + 4294967296) = x + 4294967296 := by rw [u64w]; omega
    have w2 : IntKind.u64.wrap (x + 4294967296 - d) = r := by rw [hr, u64w]; omega
    have HR1 : Hid ((rs ++ [r]).length = j + 1) := Lib.hid (by rw [List.length_append, HRL.out]; rfl)
    have HR2 : Hid (∀ x ∈ rs ++ [r], 0 <= x /\ x < 4294967296) := Lib.hid (by
     intro x hx
     rcases List.mem_append.1 hx with h | h
     ·exact HRB.out x h
     ·rw [List.mem_singleton] at h; rw [h]; exact hr0)
    have CA1 := hCA.out.set (v := x + 4294967296) HL6.out hlt
    have CA2 := CA1.set (v := r) (by rw [List.length_set]; exact HL6.out) hlt
    rw [List.set_set, set_at HRL.out hja] at CA2
    have CB2 := (hCB.out.far (a := ⟨w.heap.size, j, none⟩) (v := .int .u64 (x + 4294967296)) (by simp)).far (a := ⟨w.heap.size, j, none⟩) (v := .int .u64 r) (by simp)
    have CR2 := (hCR.out.far (a := ⟨w.heap.size, j, none⟩) (x := .int .u64 (x + 4294967296)) (by simp only [List.forall_mem_cons]; simp; try omega)).far (a := ⟨w.heap.size, j, none⟩) (x := .int .u64 r) (by simp only [List.forall_mem_cons]; simp; try omega)
    have B2 := (hB.setCell (p := ⟨w.heap.size, j, none⟩) (Nat.le_refl _) (.int .u64 (x + 4294967296))).setCell (p := ⟨w.heap.size, j, none⟩) (Nat.le_refl _) (.int .u64 r)
    have CA2 := Lib.hid CA2
    have CB2 := Lib.hid CB2
    have CR2 := Lib.hid CR2
    clear hr hr0 CA1 hCA hCB hCR HL6 key HRL HRB HV HTA HTB HD
    go_wp2
    go_roundw
    case rel => exact ⟨j + 1, 1, rs ++ [r], rfl, by omega, by omega, by go_num, by omega, HR1, HR2, B2, CA2, CB2, CR2, HK⟩
    case measure => simp [intOf]; omega
   ·obtain ⟨r, hr⟩ : ∃ r, x - d = r := ⟨_, rfl⟩
    have HK := Lib.hid (key.out r 0 (by have := HD.out; omega))
    have hr0 : 0 <= r /\ r < 4294967296 := by omega
    have w2 : IntKind.u64.wrap (x - d) = r := by rw [hr, u64w]; omega
    have HR1 : Hid ((rs ++ [r]).length = j + 1) := Lib.hid (by rw [List.length_append, HRL.out]; rfl)
    have HR2 : Hid (∀ x ∈ rs ++ [r], 0 <= x /\ x < 4294967296) := Lib.hid (by
     intro x hx
     rcases List.mem_append.1 hx with h | h
     ·exact HRB.out x h
     ·rw [List.mem_singleton] at h; rw [h]; exact hr0)
    have CA2 := hCA.out.set (v := r) HL6.out hlt
    rw [set_at HRL.out hja] at CA2
    have CB2 := hCB.out.far (a := ⟨w.heap.size, j, none⟩) (v := .int .u64 r) (by simp)
    have CR2 := hCR.out.far (a := ⟨w.heap.size, j, none⟩) (x := .int .u64 r) (by simp only [List.forall_mem_cons]; simp; try omega)
    have B2 := hB.setCell (p := ⟨w.heap.size, j, none⟩) (Nat.le_refl _) (.int .u64 r)
    have CA2 := Lib.hid CA2
    have CB2 := Lib.hid CB2
    have CR2 := Lib.hid CR2
    clear hr hr0 hCA hCB hCR HL6 key HRL HRB HV HTA HTB HD
    go_wp2
    go_roundw
    case rel => exact ⟨j + 1, 0, rs ++ [r], rfl, by omega, by omega, by go_num, by omega, HR1, HR2, B2, CA2, CB2, CR2, HK⟩
    case measure => simp [intOf]; omega
  ·obtain rfl : j = 6 := by omega
   have hc := hCA.out
   rw [List.drop_of_length_le (by rw [HAL.out]; exact Nat.le_refl _), List.append_nil] at hc
   have hb1 := lval_bd rs HRB.out
   have hv := HV.out
   rw [List.take_of_length_le (by rw [HAL.out]; exact Nat.le_refl _), List.take_of_length_le (by rw [HBL.out]; exact Nat.le_refl _)] at hv
   have hrl := HRL.out
   rw [hrl] at hb1
   have hle := HLE.out
   have hv2 : lval rs = lval AA - lval BB := by
    have ha := lval_bd AA HBA.out
    have hb := lval_bd BB HBB.out
    rw [HAL.out] at ha
    rw [HBL.out] at hb
    generalize lval rs = p at *
    generalize lval AA = q at *
    generalize lval BB = s at *
    omega
   obtain ⟨r0, r1, r2, r3, r4, r5, rfl⟩ : ∃ r0 r1 r2 r3 r4 r5 : Int, rs = [r0, r1, r2, r3, r4, r5] := by
    match rs, hrl with
    | [r0, r1, r2, r3, r4, r5], _ => exact ⟨r0, r1, r2, r3, r4, r5, rfl⟩
   have HV2 := Lib.hid (show dval r0 r1 r2 r3 r4 r5 = lval AA - lval BB by rw [<- lval_6]; exact hv2)
   have HB2 := HRB.out
   simp only [List.forall_mem_cons] at HB2
   have HB2 := Lib.hid HB2
   have m0 : wr.cell? ⟨w.heap.size, 0, none⟩ = some (.int .u64 r0) := (hc 0 (by omega)).1
   have m1 : wr.cell? ⟨w.heap.size, 1, none⟩ = some (.int .u64 r1) := (hc 1 (by omega)).1
   have m2 : wr.cell? ⟨w.heap.size, 2, none⟩ = some (.int .u64 r2) := (hc 2 (by omega)).1
   have m3 : wr.cell? ⟨w.heap.size, 3, none⟩ = some (.int .u64 r3) := (hc 3 (by omega)).1
   have m4 : wr.cell? ⟨w.heap.size, 4, none⟩ = some (.int .u64 r4) := (hc 4 (by omega)).1
   have m5 : wr.cell? ⟨w.heap.size, 5, none⟩ = some (.int .u64 r5) := (hc 5 (by omega)).1
   have n0 := hCR.out.head
   have zn0 := hCR.out.headF
   have n1 := hCR.out.tail.head
   have zn1 := hCR.out.tail.headF
   have n2 := hCR.out.tail.tail.head
   have zn2 := hCR.out.tail.tail.headF
   have n3 := hCR.out.tail.tail.tail.head
   have zn3 := hCR.out.tail.tail.tail.headF
   have n4 := hCR.out.tail.tail.tail.tail.head
   have zn4 := hCR.out.tail.tail.tail.tail.headF
   have n5 := hCR.out.tail.tail.tail.tail.tail.head
   have zn5 := hCR.out.tail.tail.tail.tail.tail.headF
   have K := hB
   clear hc hb1 hv hle hv2 hrl HV HRB hCA hCB hCR HRL
   go_wp2
   exact bodyPost_ret (v := .agg #[.int .u64 r0, .int .u64 r1, .int .u64 r2, .int .u64 r3, .int .u64 r4, .int .u64 r5]) (by simp [results, Tryd.results94, go_sem, n0, n1, n2, n3, n4, n5, zn0, zn1, zn2, zn3, zn4, zn5]) rfl ⟨r0, r1, r2, r3, r4, r5, rfl, ⟨HB2.out.1, HB2.out.2.1, HB2.out.2.2.1, HB2.out.2.2.2.1, HB2.out.2.2.2.2.1, HB2.out.2.2.2.2.2.1⟩, HV2.out, put6_below K (by omega)⟩
end Go.Proofs.YtbicmlkjonaccaaDoor.Ln


namespace Go.Proofs.YtbicmlkjonaccaaDoor.Ln
open Go.ChangeShapes Go.WideShapes Go.ChangeAt Go.RowKit
open Go.Proofs.YtbicmlkjonaccaaDoor.Nm
set_option linter.unusedVariables false
set_option linter.unusedSimpArgs false

theorem any_yes {ls : List ByteArray} {s : ByteArray} (h : s ∈ ls) : (ls.any fun k => k.toList == s.toList) = true := by
 rw [List.any_eq_true]
 exact ⟨s, h, by rw [same_iff]; simp⟩
theorem any_no {ls : List ByteArray} {s : ByteArray} (h : s ∉ ls) : (ls.any fun k => k.toList == s.toList) = false := by
 rw [List.any_eq_false]
 intro k hk e
 rw [same_iff, decide_eq_true_eq] at e
 exact h (e ▸ hk)

end Go.Proofs.YtbicmlkjonaccaaDoor.Ln


namespace Go.Proofs.YtbicmlkjonaccaaDoor.Ln
open Go.ChangeShapes Go.WideShapes Go.ChangeAt Go.RowKit
open Go.Proofs.YtbicmlkjonaccaaDoor.Nm
set_option linter.unusedVariables false
set_option linter.unusedSimpArgs false
/-- A form in a list: its constant, its row, its monomials, the row's room. -/
abbrev Fm := Int × Option Addr × List Mo × Nat
abbrev fm0 : Fm := (0, none, [], 0)
def SlL (w : World) (p : Option Addr) (fs : List Fm) : Prop := ∀ i, i < fs.length -> ∃ b o, p = some ⟨b, o, none⟩ /\ w.cell? ⟨b, o + i * 2, none⟩ = some (.int .i64 (fs.getD i fm0).1) /\
 w.cell? ⟨b, o + i * 2 + 1, none⟩ = some (.slice (fs.getD i fm0).2.1 (fs.getD i fm0).2.2.1.length (fs.getD i fm0).2.2.2) /\ SlM w (fs.getD i fm0).2.1 (fs.getD i fm0).2.2.1
theorem SlL.keep {w w' : World} {p : Option Addr} {fs : List Fm} (hB : Below w.heap.size w w') (h : SlL w p fs) : SlL w' p fs := fun i hi => by
 obtain ⟨b, o, rfl, c0, c1, c2⟩ := h i hi
 have hb := lt_of_cell c0
 exact ⟨b, o, rfl, kp hB hb c0, kp hB hb c1, SlM.keep hB c2⟩

end Go.Proofs.YtbicmlkjonaccaaDoor.Ln


namespace Go.Proofs.YtbicmlkjonaccaaDoor.Ln
open Go.ChangeShapes Go.WideShapes Go.ChangeAt Go.RowKit
set_option linter.unusedVariables false
set_option linter.unusedSimpArgs false

theorem co_bd {xs : List Mo} (hb : ∀ i, i < xs.length -> (xs.getD i mo0).1.size <= maxLen /\ -9223372036854775808 <= (xs.getD i mo0).2 /\ (xs.getD i mo0).2 <= 9223372036854775807) (s : ByteArray) : -9223372036854775808 <= co xs s /\ co xs s <= 9223372036854775807 := by
 have key : ∀ l : List Mo, (∀ m ∈ l, -9223372036854775808 <= m.2 /\ m.2 <= 9223372036854775807) -> -9223372036854775808 <= co l s /\ co l s <= 9223372036854775807 := by
  intro l
  induction l with
  | nil => intro _; rw [co_nil]; omega
  | cons x l ih =>
   intro h
   rw [co_cons]
   split
   ·exact h x (by simp)
   ·exact ih (fun m hm => h m (List.mem_cons_of_mem _ hm))
 refine key xs (fun m hm => ?_)
 obtain ⟨j, hj, rfl⟩ := List.getElem_of_mem hm
 have := hb j hj
 rw [show xs.getD j mo0 = xs[j] by unfold List.getD; rw [List.getElem?_eq_getElem hj]; rfl] at this
 exact this.2

end Go.Proofs.YtbicmlkjonaccaaDoor.Ln
