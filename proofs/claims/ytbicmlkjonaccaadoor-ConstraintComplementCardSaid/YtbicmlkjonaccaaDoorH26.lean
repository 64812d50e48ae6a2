/- Linear forms: the difference of numbers of 192 bits, in the reference. -/
import Derived.Test.YtbicmlkjonaccaaDoorH25
import Derived.Test.YtbicmlkjonaccaaDoorY24

namespace Go.Proofs.YtbicmlkjonaccaaDoor.Ln
open Go.ChangeShapes Go.WideShapes Go.ChangeAt Go.RowKit
set_option linter.unusedVariables false
set_option linter.unusedSimpArgs false
def lval : List Int → Int
  | [] => 0
  | x :: l => x + 4294967296 * lval l
theorem lval_snoc (l : List Int) (x : Int) : lval (l ++ [x]) = lval l + x * 4294967296 ^ l.length := by
  induction l with
  | nil => simp [lval]
  | cons y l ih =>
    rw [List.cons_append, lval, lval, ih, List.length_cons, Int.pow_succ]
    grind
theorem lval_6 (a0 a1 a2 a3 a4 a5 : Int) : lval [a0, a1, a2, a3, a4, a5] = dval a0 a1 a2 a3 a4 a5 := by simp only [lval, dval]; omega
theorem lval_bd : ∀ l : List Int, (∀ x ∈ l, 0 ≤ x ∧ x < 4294967296) → 0 ≤ lval l ∧ lval l < 4294967296 ^ l.length
  | [], _ => by simp [lval]
  | x :: l, h => by
    have ih := lval_bd l (fun y hy => h y (List.mem_cons_of_mem _ hy))
    have hx := h x (by simp)
    rw [lval, List.length_cons, Int.pow_succ]
    generalize (4294967296 : Int) ^ l.length = P at *
    omega
def C6 (g : Nat) (L : List Int) (u : World) : Prop := ∀ i, i < 6 → u.cell? ⟨g, i, none⟩ = some (.int .u64 (L.getD i 0)) ∧ u.frozen? ⟨g, i, none⟩ = false
theorem C6.set {g j : Nat} {L : List Int} {u : World} {v : Int} (h : C6 g L u) (hl : L.length = 6) (hj : j < 6) : C6 g (L.set j v) (u.setCell ⟨g, j, none⟩ (.int .u64 v)) := fun i hi => by
  obtain ⟨h1, h2⟩ := h i hi
  refine ⟨?_, by simp [World.frozen?_setCell, h2]⟩
  by_cases hij : i = j
  · subst hij
    rw [World.cell?_setCell_same _ _ _ h1]
    unfold List.getD
    rw [List.getElem?_set_self (by omega)]
    rfl
  · rw [World.cell?_setCell_other _ _ _ _ (by simp <;> omega), h1]
    unfold List.getD
    rw [List.getElem?_set_ne (by omega)]
theorem C6.far {g : Nat} {L : List Int} {u : World} {a : Addr} {v : Value} (h : C6 g L u) (hg : a.block ≠ g) : C6 g L (u.setCell a v) := fun i hi => by
  obtain ⟨h1, h2⟩ := h i hi
  exact ⟨(World.cell?_setCell_far u a ⟨g, i, none⟩ v hg).trans h1, by simp [World.frozen?_setCell, h2]⟩
theorem C6.of {g : Nat} {a0 a1 a2 a3 a4 a5 : Int} {u : World} (h : Cl [(g, 0, .int .u64 a0), (g, 1, .int .u64 a1), (g, 2, .int .u64 a2), (g, 3, .int .u64 a3), (g, 4, .int .u64 a4), (g, 5, .int .u64 a5)] u) : C6 g [a0, a1, a2, a3, a4, a5] u := fun i hi => by
  rcases i with _ | _ | _ | _ | _ | _ | i
  · exact h g 0 (.int .u64 a0) (by simp)
  · exact h g 1 (.int .u64 a1) (by simp)
  · exact h g 2 (.int .u64 a2) (by simp)
  · exact h g 3 (.int .u64 a3) (by simp)
  · exact h g 4 (.int .u64 a4) (by simp)
  · exact h g 5 (.int .u64 a5) (by simp)
  · omega
theorem set_at {rs L : List Int} {j : Nat} {v : Int} (hr : rs.length = j) (hj : j < L.length) : (rs ++ L.drop j).set j v = (rs ++ [v]) ++ L.drop (j + 1) := by
  subst hr
  rw [List.drop_eq_getElem_cons hj, List.set_append_right _ _ (Nat.le_refl _), Nat.sub_self, List.set_cons_zero, List.append_assoc]
  rfl
theorem get_at {rs L : List Int} {j : Nat} (hr : rs.length = j) (hj : j < L.length) : (rs ++ L.drop j).getD j 0 = L.getD j 0 := by
  subst hr
  rw [List.drop_eq_getElem_cons hj]
  unfold List.getD
  rw [List.getElem?_append_right (Nat.le_refl _), Nat.sub_self, List.getElem?_cons_zero, List.getElem?_eq_getElem hj]
theorem itake1 {L : List Int} {i : Nat} (h : i < L.length) : L.take (i + 1) = L.take i ++ [L.getD i 0] := by
  rw [List.take_succ_eq_append_getElem h]
  unfold List.getD
  rw [List.getElem?_eq_getElem h]
  rfl
theorem step_eq {l a b o o' P r x y : Int} (h : l = a - b + o * P) (hr : r = x - y - o + o' * 4294967296) : l + r * P = (a + x * P) - (b + y * P) + o' * (P * 4294967296) := by
  subst h hr
  grind
set_option maxRecDepth 100000 in
set_option maxHeartbeats 32000000 in
theorem minus1 (a0 a1 a2 a3 a4 a5 b0 b1 b2 b3 b4 b5 : Int) (w : World) (hA : ((0 ≤ a0 ∧ a0 < 4294967296) ∧ (0 ≤ a1 ∧ a1 < 4294967296) ∧ (0 ≤ a2 ∧ a2 < 4294967296) ∧ (0 ≤ a3 ∧ a3 < 4294967296) ∧ (0 ≤ a4 ∧ a4 < 4294967296) ∧ (0 ≤ a5 ∧ a5 < 4294967296))) (hB : ((0 ≤ b0 ∧ b0 < 4294967296) ∧ (0 ≤ b1 ∧ b1 < 4294967296) ∧ (0 ≤ b2 ∧ b2 < 4294967296) ∧ (0 ≤ b3 ∧ b3 < 4294967296) ∧ (0 ≤ b4 ∧ b4 < 4294967296) ∧ (0 ≤ b5 ∧ b5 < 4294967296))) (hle : dval b0 b1 b2 b3 b4 b5 ≤ dval a0 a1 a2 a3 a4 a5) :
    Calls Tryd.prog 94 #[.agg #[.int .u64 a0, .int .u64 a1, .int .u64 a2, .int .u64 a3, .int .u64 a4, .int .u64 a5], .agg #[.int .u64 b0, .int .u64 b1, .int .u64 b2, .int .u64 b3, .int .u64 b4, .int .u64 b5]] w (DW (dval a0 a1 a2 a3 a4 a5 - dval b0 b1 b2 b3 b4 b5) w) := by
  have B0 : Below w.heap.size w (((w.alloc (Obj.cells #[Value.int .u64 a0, Value.int .u64 a1, Value.int .u64 a2, Value.int .u64 a3, Value.int .u64 a4, Value.int .u64 a5] 114)).alloc (Obj.cells #[Value.int .u64 b0, Value.int .u64 b1, Value.int .u64 b2, Value.int .u64 b3, Value.int .u64 b4, Value.int .u64 b5] 114)).alloc (Obj.cells #[Value.int .u64 0, Value.int .u64 0, Value.int .u64 0, Value.int .u64 0, Value.int .u64 0, Value.int .u64 0] 114)) := ((((Below.refl _ _).alloc (Nat.le_refl _) _).alloc (by simp) _).alloc (by simp; omega) _)
  have CA : C6 w.heap.size [a0, a1, a2, a3, a4, a5] (((w.alloc (Obj.cells #[Value.int .u64 a0, Value.int .u64 a1, Value.int .u64 a2, Value.int .u64 a3, Value.int .u64 a4, Value.int .u64 a5] 114)).alloc (Obj.cells #[Value.int .u64 b0, Value.int .u64 b1, Value.int .u64 b2, Value.int .u64 b3, Value.int .u64 b4, Value.int .u64 b5] 114)).alloc (Obj.cells #[Value.int .u64 0, Value.int .u64 0, Value.int .u64 0, Value.int .u64 0, Value.int .u64 0, Value.int .u64 0] 114)) := C6.of (Cl.cons (by go_cell) (by first | go_cell | simp) (Cl.cons (by go_cell) (by first | go_cell | simp) (Cl.cons (by go_cell) (by first | go_cell | simp) (Cl.cons (by go_cell) (by first | go_cell | simp) (Cl.cons (by go_cell) (by first | go_cell | simp) (Cl.cons (by go_cell) (by first | go_cell | simp) (Cl.nil _)))))))
  have CB : C6 (w.heap.size + 1) [b0, b1, b2, b3, b4, b5] (((w.alloc (Obj.cells #[Value.int .u64 a0, Value.int .u64 a1, Value.int .u64 a2, Value.int .u64 a3, Value.int .u64 a4, Value.int .u64 a5] 114)).alloc (Obj.cells #[Value.int .u64 b0, Value.int .u64 b1, Value.int .u64 b2, Value.int .u64 b3, Value.int .u64 b4, Value.int .u64 b5] 114)).alloc (Obj.cells #[Value.int .u64 0, Value.int .u64 0, Value.int .u64 0, Value.int .u64 0, Value.int .u64 0, Value.int .u64 0] 114)) := C6.of (Cl.cons (by go_cell) (by first | go_cell | simp) (Cl.cons (by go_cell) (by first | go_cell | simp) (Cl.cons (by go_cell) (by first | go_cell | simp) (Cl.cons (by go_cell) (by first | go_cell | simp) (Cl.cons (by go_cell) (by first | go_cell | simp) (Cl.cons (by go_cell) (by first | go_cell | simp) (Cl.nil _)))))))
  have CR : Cl [(w.heap.size + 1 + 1, 0, .int .u64 0), (w.heap.size + 1 + 1, 1, .int .u64 0), (w.heap.size + 1 + 1, 2, .int .u64 0), (w.heap.size + 1 + 1, 3, .int .u64 0), (w.heap.size + 1 + 1, 4, .int .u64 0), (w.heap.size + 1 + 1, 5, .int .u64 0)] (((w.alloc (Obj.cells #[Value.int .u64 a0, Value.int .u64 a1, Value.int .u64 a2, Value.int .u64 a3, Value.int .u64 a4, Value.int .u64 a5] 114)).alloc (Obj.cells #[Value.int .u64 b0, Value.int .u64 b1, Value.int .u64 b2, Value.int .u64 b3, Value.int .u64 b4, Value.int .u64 b5] 114)).alloc (Obj.cells #[Value.int .u64 0, Value.int .u64 0, Value.int .u64 0, Value.int .u64 0, Value.int .u64 0, Value.int .u64 0] 114)) := (Cl.cons (by go_cell) (by first | go_cell | simp) (Cl.cons (by go_cell) (by first | go_cell | simp) (Cl.cons (by go_cell) (by first | go_cell | simp) (Cl.cons (by go_cell) (by first | go_cell | simp) (Cl.cons (by go_cell) (by first | go_cell | simp) (Cl.cons (by go_cell) (by first | go_cell | simp) (Cl.nil _)))))))
  have HBA : Hid (∀ x ∈ [a0, a1, a2, a3, a4, a5], 0 ≤ x ∧ x < 4294967296) := Lib.hid (by simp only [List.forall_mem_cons]; exact ⟨hA.1, hA.2.1, hA.2.2.1, hA.2.2.2.1, hA.2.2.2.2.1, hA.2.2.2.2.2, by simp⟩)
  have HBB : Hid (∀ x ∈ [b0, b1, b2, b3, b4, b5], 0 ≤ x ∧ x < 4294967296) := Lib.hid (by simp only [List.forall_mem_cons]; exact ⟨hB.1, hB.2.1, hB.2.2.1, hB.2.2.2.1, hB.2.2.2.2.1, hB.2.2.2.2.2, by simp⟩)
  rw [← lval_6, ← lval_6] at hle ⊢
  have HLE := Lib.hid hle
  have al : [a0, a1, a2, a3, a4, a5].length = 6 := rfl
  have bl : [b0, b1, b2, b3, b4, b5].length = 6 := rfl
  have CA := Lib.hid CA
  have CB := Lib.hid CB
  have CR := Lib.hid CR
  clear hA hB hle
  go_enter Tryd.func94, Tryd.ntmps94
  go_wp2
  generalize (((w.alloc (Obj.cells #[Value.int .u64 a0, Value.int .u64 a1, Value.int .u64 a2, Value.int .u64 a3, Value.int .u64 a4, Value.int .u64 a5] 114)).alloc (Obj.cells #[Value.int .u64 b0, Value.int .u64 b1, Value.int .u64 b2, Value.int .u64 b3, Value.int .u64 b4, Value.int .u64 b5] 114)).alloc (Obj.cells #[Value.int .u64 0, Value.int .u64 0, Value.int .u64 0, Value.int .u64 0, Value.int .u64 0, Value.int .u64 0] 114)) = z at *
  generalize [a0, a1, a2, a3, a4, a5] = AA at *
  generalize [b0, b1, b2, b3, b4, b5] = BB at *
  have HAL := Lib.hid al
  have HBL := Lib.hid bl
  clear al bl
  have hal : Program.arrayLen Tryd.prog 114 = 6 := by kernel_rfl
  go_loopw [5, 6] (fun bw i wr => ∃ (j : Nat) (o : Int) (rs : List Int), bw = .int .u64 o ∧ 0 ≤ o ∧ o ≤ 1 ∧ i = .int .i64 (j : Int) ∧ j ≤ 6 ∧ Hid (rs.length = j) ∧ Hid (∀ x ∈ rs, 0 ≤ x ∧ x < 4294967296) ∧ Below w.heap.size w wr ∧ Hid (C6 w.heap.size (rs ++ AA.drop j) wr) ∧ Hid (C6 (w.heap.size + 1) BB wr) ∧ Hid (Cl [(w.heap.size + 1 + 1, 0, .int .u64 0), (w.heap.size + 1 + 1, 1, .int .u64 0), (w.heap.size + 1 + 1, 2, .int .u64 0), (w.heap.size + 1 + 1, 3, .int .u64 0), (w.heap.size + 1 + 1, 4, .int .u64 0), (w.heap.size + 1 + 1, 5, .int .u64 0)] wr) ∧ Hid (lval rs = lval (AA.take j) - lval (BB.take j) + o * 4294967296 ^ j)) (fun _ i _ => 6 - (intOf i).toNat)
  case atStart => exact ⟨0, 0, [], rfl, by omega, by omega, rfl, by omega, Lib.hid rfl, Lib.hid (by simp), B0, Lib.hid CA.out, CB, CR, Lib.hid (by simp [lval])⟩
  case round =>
    obtain ⟨j, o, rs, rfl, o0, o1, rfl, hj, HRL, HRB, hB, hCA, hCB, hCR, HV⟩ := hrel
    have j0 : (0 : Int) ≤ j := by omega
    by_cases hlt : j < 6
    · have j1 : (j : Int) < 6 := by omega
      have hja : j < AA.length := by rw [HAL.out]; exact hlt
      have hjb : j < BB.length := by rw [HBL.out]; exact hlt
      obtain ⟨c0, z0⟩ := hCA.out j hlt
      obtain ⟨d0, _⟩ := hCB.out j hlt
      rw [get_at HRL.out hja] at c0
      have ba : 0 ≤ AA.getD j 0 ∧ AA.getD j 0 < 4294967296 := HBA.out _ (by unfold List.getD; rw [List.getElem?_eq_getElem hja]; exact List.getElem_mem hja)
      have bb : 0 ≤ BB.getD j 0 ∧ BB.getD j 0 < 4294967296 := HBB.out _ (by unfold List.getD; rw [List.getElem?_eq_getElem hjb]; exact List.getElem_mem hjb)
      have HTA := Lib.hid (itake1 hja)
      have HTB := Lib.hid (itake1 hjb)
      obtain ⟨x, hx⟩ : ∃ x, AA.getD j 0 = x := ⟨_, rfl⟩
      obtain ⟨y, hy⟩ : ∃ y, BB.getD j 0 = y := ⟨_, rfl⟩
      rw [hx] at c0 ba HTA
      rw [hy] at d0 bb HTB
      clear hx hy
      obtain ⟨ba0, ba1⟩ := ba
      obtain ⟨bb0, bb1⟩ := bb
      obtain ⟨d, hd⟩ : ∃ d, y + o = d := ⟨_, rfl⟩
      have hd0 : 0 ≤ d ∧ d ≤ 4294967296 := by omega
      have HD := Lib.hid hd
      have wd : IntKind.u64.wrap (y + o) = d := by rw [hd, u64w]; omega
      have hlen6 : (rs ++ AA.drop j).length = 6 := by rw [List.length_append, List.length_drop, HRL.out, HAL.out]; omega
      have HL6 := Lib.hid hlen6
      clear hd hlen6
      have key : ∀ (r o' : Int), r = x - y - o + o' * 4294967296 → lval (rs ++ [r]) = lval (AA.take (j + 1)) - lval (BB.take (j + 1)) + o' * 4294967296 ^ (j + 1) := fun r o' hr => by
        have e1 : (AA.take j).length = j := by rw [List.length_take]; omega
        have e2 : (BB.take j).length = j := by rw [List.length_take]; omega
        rw [HTA.out, HTB.out, lval_snoc, lval_snoc, lval_snoc, HRL.out, e1, e2, Int.pow_succ]
        exact step_eq HV.out hr
      have key := Lib.hid key
      by_cases hlt2 : x < d
      · obtain ⟨r, hr⟩ : ∃ r, x + 4294967296 - d = r := ⟨_, rfl⟩
        have HK := Lib.hid (key.out r 1 (by have := HD.out; omega))
        have hr0 : 0 ≤ r ∧ r < 4294967296 := by omega
        have w1 : IntKind.u64.wrap (x + 4294967296) = x + 4294967296 := by rw [u64w]; omega
        have w2 : IntKind.u64.wrap (x + 4294967296 - d) = r := by rw [hr, u64w]; omega
        have HR1 : Hid ((rs ++ [r]).length = j + 1) := Lib.hid (by rw [List.length_append, HRL.out]; rfl)
        have HR2 : Hid (∀ x ∈ rs ++ [r], 0 ≤ x ∧ x < 4294967296) := Lib.hid (by
          intro x hx
          rcases List.mem_append.1 hx with h | h
          · exact HRB.out x h
          · rw [List.mem_singleton] at h; rw [h]; exact hr0)
        have CA1 := hCA.out.set (v := x + 4294967296) HL6.out hlt
        have CA2 := CA1.set (v := r) (by rw [List.length_set]; exact HL6.out) hlt
        rw [List.set_set, set_at HRL.out hja] at CA2
        have CB2 := (hCB.out.far (a := ⟨w.heap.size, j, none⟩) (v := .int .u64 (x + 4294967296)) (by simp)).far (a := ⟨w.heap.size, j, none⟩) (v := .int .u64 r) (by simp)
        have CR2 := (hCR.out.far (a := ⟨w.heap.size, j, none⟩) (x := .int .u64 (x + 4294967296)) (by simp only [List.forall_mem_cons]; simp; try omega)).far (a := ⟨w.heap.size, j, none⟩) (x := .int .u64 r) (by simp only [List.forall_mem_cons]; simp; try omega)
        have B2 := (hB.setCell (p := ⟨w.heap.size, j, none⟩) (Nat.le_refl _) (.int .u64 (x + 4294967296))).setCell (p := ⟨w.heap.size, j, none⟩) (Nat.le_refl _) (.int .u64 r)
        have CA2 := Lib.hid CA2
        have CB2 := Lib.hid CB2
        have CR2 := Lib.hid CR2
        clear hr hr0 CA1 hCA hCB hCR HL6 key HRL HRB HV HTA HTB HD
        go_wp2
        go_roundw
        case rel => exact ⟨j + 1, 1, rs ++ [r], rfl, by omega, by omega, by go_num, by omega, HR1, HR2, B2, CA2, CB2, CR2, HK⟩
        case measure => simp [intOf]; omega
      · obtain ⟨r, hr⟩ : ∃ r, x - d = r := ⟨_, rfl⟩
        have HK := Lib.hid (key.out r 0 (by have := HD.out; omega))
        have hr0 : 0 ≤ r ∧ r < 4294967296 := by omega
        have w2 : IntKind.u64.wrap (x - d) = r := by rw [hr, u64w]; omega
        have HR1 : Hid ((rs ++ [r]).length = j + 1) := Lib.hid (by rw [List.length_append, HRL.out]; rfl)
        have HR2 : Hid (∀ x ∈ rs ++ [r], 0 ≤ x ∧ x < 4294967296) := Lib.hid (by
          intro x hx
          rcases List.mem_append.1 hx with h | h
          · exact HRB.out x h
          · rw [List.mem_singleton] at h; rw [h]; exact hr0)
        have CA2 := hCA.out.set (v := r) HL6.out hlt
        rw [set_at HRL.out hja] at CA2
        have CB2 := hCB.out.far (a := ⟨w.heap.size, j, none⟩) (v := .int .u64 r) (by simp)
        have CR2 := hCR.out.far (a := ⟨w.heap.size, j, none⟩) (x := .int .u64 r) (by simp only [List.forall_mem_cons]; simp; try omega)
        have B2 := hB.setCell (p := ⟨w.heap.size, j, none⟩) (Nat.le_refl _) (.int .u64 r)
        have CA2 := Lib.hid CA2
        have CB2 := Lib.hid CB2
        have CR2 := Lib.hid CR2
        clear hr hr0 hCA hCB hCR HL6 key HRL HRB HV HTA HTB HD
        go_wp2
        go_roundw
        case rel => exact ⟨j + 1, 0, rs ++ [r], rfl, by omega, by omega, by go_num, by omega, HR1, HR2, B2, CA2, CB2, CR2, HK⟩
        case measure => simp [intOf]; omega
    · obtain rfl : j = 6 := by omega
      have hc := hCA.out
      rw [List.drop_of_length_le (by rw [HAL.out]; exact Nat.le_refl _), List.append_nil] at hc
      have hb1 := lval_bd rs HRB.out
      have hv := HV.out
      rw [List.take_of_length_le (by rw [HAL.out]; exact Nat.le_refl _), List.take_of_length_le (by rw [HBL.out]; exact Nat.le_refl _)] at hv
      have hrl := HRL.out
      rw [hrl] at hb1
      have hle := HLE.out
      have hv2 : lval rs = lval AA - lval BB := by
        have ha := lval_bd AA HBA.out
        have hb := lval_bd BB HBB.out
        rw [HAL.out] at ha
        rw [HBL.out] at hb
        generalize lval rs = p at *
        generalize lval AA = q at *
        generalize lval BB = s at *
        omega
      obtain ⟨r0, r1, r2, r3, r4, r5, rfl⟩ : ∃ r0 r1 r2 r3 r4 r5 : Int, rs = [r0, r1, r2, r3, r4, r5] := by
        match rs, hrl with
        | [r0, r1, r2, r3, r4, r5], _ => exact ⟨r0, r1, r2, r3, r4, r5, rfl⟩
      have HV2 := Lib.hid (show dval r0 r1 r2 r3 r4 r5 = lval AA - lval BB by rw [← lval_6]; exact hv2)
      have HB2 := HRB.out
      simp only [List.forall_mem_cons] at HB2
      have HB2 := Lib.hid HB2
      have m0 : wr.cell? ⟨w.heap.size, 0, none⟩ = some (.int .u64 r0) := (hc 0 (by omega)).1
      have m1 : wr.cell? ⟨w.heap.size, 1, none⟩ = some (.int .u64 r1) := (hc 1 (by omega)).1
      have m2 : wr.cell? ⟨w.heap.size, 2, none⟩ = some (.int .u64 r2) := (hc 2 (by omega)).1
      have m3 : wr.cell? ⟨w.heap.size, 3, none⟩ = some (.int .u64 r3) := (hc 3 (by omega)).1
      have m4 : wr.cell? ⟨w.heap.size, 4, none⟩ = some (.int .u64 r4) := (hc 4 (by omega)).1
      have m5 : wr.cell? ⟨w.heap.size, 5, none⟩ = some (.int .u64 r5) := (hc 5 (by omega)).1
      have n0 := hCR.out.head
      have zn0 := hCR.out.headF
      have n1 := hCR.out.tail.head
      have zn1 := hCR.out.tail.headF
      have n2 := hCR.out.tail.tail.head
      have zn2 := hCR.out.tail.tail.headF
      have n3 := hCR.out.tail.tail.tail.head
      have zn3 := hCR.out.tail.tail.tail.headF
      have n4 := hCR.out.tail.tail.tail.tail.head
      have zn4 := hCR.out.tail.tail.tail.tail.headF
      have n5 := hCR.out.tail.tail.tail.tail.tail.head
      have zn5 := hCR.out.tail.tail.tail.tail.tail.headF
      have K := hB
      clear hc hb1 hv hle hv2 hrl HV HRB hCA hCB hCR HRL
      go_wp2
      exact bodyPost_ret (v := .agg #[.int .u64 r0, .int .u64 r1, .int .u64 r2, .int .u64 r3, .int .u64 r4, .int .u64 r5]) (by simp [results, Tryd.results94, go_sem, n0, n1, n2, n3, n4, n5, zn0, zn1, zn2, zn3, zn4, zn5]) rfl ⟨r0, r1, r2, r3, r4, r5, rfl, ⟨HB2.out.1, HB2.out.2.1, HB2.out.2.2.1, HB2.out.2.2.2.1, HB2.out.2.2.2.2.1, HB2.out.2.2.2.2.2.1⟩, HV2.out, put6_below K (by omega)⟩
end Go.Proofs.YtbicmlkjonaccaaDoor.Ln


namespace Go.Proofs.YtbicmlkjonaccaaDoor.Ln
open Go.ChangeShapes Go.WideShapes Go.ChangeAt Go.RowKit
open Go.Proofs.YtbicmlkjonaccaaDoor.Nm
set_option linter.unusedVariables false
set_option linter.unusedSimpArgs false
def stC (l : List ByteArray) : List Value := l.map Value.string
theorem stC_len (l : List ByteArray) : (stC l).length = l.length := by unfold stC; rw [List.length_map]
theorem stC_app (l m : List ByteArray) : stC (l ++ m) = stC l ++ stC m := by unfold stC; rw [List.map_append]
theorem stC_get {l : List ByteArray} {i : Nat} (h : i < l.length) : (stC l)[i]? = some (.string (l.getD i ByteArray.empty)) := by
  unfold stC List.getD
  rw [List.getElem?_map, List.getElem?_eq_getElem h]
  rfl
theorem infoS : (Tryd.prog.info? 9).map (fun i => (i.zero, i.size, i.bytes)) = some (some (.string ⟨#[]⟩), 1, 16) := by kernel_rfl
theorem own_st {w : World} {base n : Nat} {v : Value} {l : List ByteArray} (h : w.ownsRow base 9 1 v n (stC l)) (hn : n = l.length) : ∃ p c, v = .slice p n c ∧ SlT w p l := by
  subst hn
  obtain ⟨q, c, rfl⟩ := own_slice h
  refine ⟨q, c, rfl, fun i hi => ?_⟩
  rcases h.2 with ⟨e, hn⟩ | ⟨g, cap, cur, e, _⟩
  · omega
  · injection e with e1 e2 e3
    subst e1
    refine ⟨g, 0, rfl, ?_⟩
    rw [Nat.zero_add, h.cellAt i (by omega), stC_get hi]
theorem swp (A D : List Value) (t s : Value) : ((A ++ t :: s :: D).set (A.length + 1) t).set A.length s = A ++ s :: t :: D := by
  induction A with
  | nil => rfl
  | cons a A ih => simp only [List.cons_append, List.length_cons, List.set_cons_succ, ih]
theorem take1 {L : List ByteArray} {i : Nat} (h : i < L.length) : L.take (i + 1) = L.take i ++ [L.getD i ByteArray.empty] := by
  rw [List.take_succ_eq_append_getElem h]
  unfold List.getD
  rw [List.getElem?_eq_getElem h]
  rfl
theorem drop1 {L : List ByteArray} {i : Nat} (h : i < L.length) : L.drop i = L.getD i ByteArray.empty :: L.drop (i + 1) := by
  rw [List.drop_eq_getElem_cons h]
  unfold List.getD
  rw [List.getElem?_eq_getElem h]
  rfl
theorem swp2 {L : List ByteArray} {i : Nat} {s : ByteArray} (h : i < L.length) : ((stC (L.take (i + 1) ++ s :: L.drop (i + 1))).set (i + 1) (.string (L.getD i ByteArray.empty))).set i (.string s) = stC (L.take i ++ s :: L.drop i) := by
  rw [take1 h, drop1 h, List.append_assoc]
  have hl : (stC (L.take i)).length = i := by rw [stC_len, List.length_take]; omega
  have := swp (stC (L.take i)) (stC (L.drop (i + 1))) (.string (L.getD i ByteArray.empty)) (.string s)
  rw [hl] at this
  rw [stC_app (L.take i) ([L.getD i ByteArray.empty] ++ s :: L.drop (i + 1)), stC_app (L.take i) (s :: L.getD i ByteArray.empty :: L.drop (i + 1))]
  exact this
theorem at_lo {L : List ByteArray} {i : Nat} {s : ByteArray} (h : i < L.length) : (stC (L.take (i + 1) ++ s :: L.drop (i + 1)))[i]? = some (.string (L.getD i ByteArray.empty)) := by
  rw [take1 h, List.append_assoc, stC_app, List.getElem?_append_right (by rw [stC_len, List.length_take]; omega)]
  rw [show i - (stC (L.take i)).length = 0 by rw [stC_len, List.length_take]; omega]
  rfl
theorem at_hi {L : List ByteArray} {i : Nat} {s : ByteArray} (h : i ≤ L.length) : (stC (L.take i ++ s :: L.drop i))[i]? = some (.string s) := by
  rw [stC_app, List.getElem?_append_right (by rw [stC_len, List.length_take]; omega)]
  rw [show i - (stC (L.take i)).length = 0 by rw [stC_len, List.length_take]; omega]
  rfl
theorem ins_len {L : List ByteArray} {i : Nat} {s : ByteArray} : (L.take i ++ s :: L.drop i).length = L.length + 1 := by
  simp only [List.length_append, List.length_cons, List.length_take, List.length_drop]; omega
theorem ins_mem {L : List ByteArray} {i : Nat} {s x : ByteArray} : x ∈ L.take i ++ s :: L.drop i ↔ x ∈ L ∨ x = s := by
  rw [List.mem_append, List.mem_cons]
  constructor
  · rintro (h | h | h)
    · exact .inl (List.mem_of_mem_take h)
    · exact .inr h
    · exact .inl (List.mem_of_mem_drop h)
  · rintro (h | h)
    · rw [← List.take_append_drop i L, List.mem_append] at h
      rcases h with h | h
      · exact .inl h
      · exact .inr (.inr h)
    · exact .inr (.inl h)
theorem ins_srt {L : List ByteArray} {i : Nat} {s : ByteArray} (hi : i ≤ L.length) (hns : s ∉ L) (hd : ∀ x ∈ L.drop i, slt s x) (ht : 0 < i → ¬ slt s (L.getD (i - 1) ByteArray.empty)) (hs : Srt L) : Srt (L.take i ++ s :: L.drop i) := by
  have htake : ∀ x ∈ L.take i, slt x s := by
    intro x hx
    by_cases h0 : i = 0
    · subst h0; simp at hx
    · have hlast := ht (by omega)
      have hle : x = L.getD (i - 1) ByteArray.empty ∨ slt x (L.getD (i - 1) ByteArray.empty) := by
        rw [show i = (i - 1) + 1 by omega, take1 (by omega), List.mem_append, List.mem_singleton] at hx
        rcases hx with hx | hx
        · right
          unfold Srt at hs
          rw [← List.take_append_drop (i - 1) L, List.pairwise_append] at hs
          have hm : L.getD (i - 1) ByteArray.empty ∈ L.drop (i - 1) := by rw [drop1 (by omega)]; simp
          exact hs.2.2 x hx _ hm
        · exact .inl hx
      have hl2 : L.getD (i - 1) ByteArray.empty ∈ L := by
        have : L.getD (i - 1) ByteArray.empty ∈ L.drop (i - 1) := by rw [drop1 (by omega)]; simp
        exact List.mem_of_mem_drop this
      have h3 : slt (L.getD (i - 1) ByteArray.empty) s := by
        rcases slt_tri (L.getD (i - 1) ByteArray.empty) s with h | h | h
        · exact h
        · exact absurd (h ▸ hl2) hns
        · exact absurd h hlast
      rcases hle with h | h
      · rw [h]; exact h3
      · exact slt_trans h h3
  unfold Srt at *
  rw [← List.take_append_drop i L, List.pairwise_append] at hs
  rw [List.pairwise_append, List.pairwise_cons]
  refine ⟨hs.1, ⟨hd, hs.2.1⟩, fun a ha b hb => ?_⟩
  rcases List.mem_cons.1 hb with rfl | hb
  · exact htake a ha
  · exact slt_trans (htake a ha) (hd b hb)
theorem below_set2 {B g i j n : Nat} {w u : World} {x y : Value} (h : Below B w u) (hg : B ≤ g) : Below B w (((u.drewN n).setCell ⟨g, i, none⟩ x).setCell ⟨g, j, none⟩ y) := ((below_drewN h n).setCell (p := ⟨g, i, none⟩) hg x).setCell (p := ⟨g, j, none⟩) hg y
def IW (base : Nat) (L : List ByteArray) (s : ByteArray) (w : World) (e : Ending) (w' : World) : Prop :=
  ∃ v' L', e = .returned v' ∧ w'.ownsRow base 9 1 v' L'.length (stC L') ∧ Below base w w' ∧ (Srt L → Srt L') ∧ (∀ x, x ∈ L' ↔ x ∈ L ∨ x = s) ∧ L'.length ≤ L.length + 1
theorem any_yes {ls : List ByteArray} {s : ByteArray} (h : s ∈ ls) : (ls.any fun k => k.toList == s.toList) = true := by
  rw [List.any_eq_true]
  exact ⟨s, h, by rw [same_iff]; simp⟩
theorem any_no {ls : List ByteArray} {s : ByteArray} (h : s ∉ ls) : (ls.any fun k => k.toList == s.toList) = false := by
  rw [List.any_eq_false]
  intro k hk e
  rw [same_iff, decide_eq_true_eq] at e
  exact h (e ▸ hk)
set_option maxRecDepth 100000 in
set_option maxHeartbeats 16000000 in
theorem insert1 (base : Nat) (v : Value) (L : List ByteArray) (s : ByteArray) (w : World) (hl : L.length ≤ 100000) (hb : base ≤ w.heap.size) (hO : Hid (w.ownsRow base 9 1 v L.length (stC L))) :
    Calls Tryd.prog 119 #[v, .string s] w (IW base L s w) := by
  obtain ⟨p, c, hv, hsl⟩ := own_st hO.out rfl
  have C1 := hasT p L c s w (by unfold maxLen; omega) (Lib.hid hsl)
  obtain ⟨i0, hi, hz0, hz1, hz2⟩ := info_parts infoS
  by_cases hm : s ∈ L
  · rw [any_yes hm] at C1
    replace C1 := Lib.hid C1
    have HM := Lib.hid hm
    subst hv
    clear hm hsl hi hz0 hz1 hz2
    go_enter Tryd.func119, Tryd.ntmps119
    go_wp2_with (go_at_call 113; refine C1.out.mono ?_; rintro e w' ⟨rfl, rfl⟩)
    go_ret
    exact ⟨_, L, rfl, hO.out, Below.refl _ _, id, fun x => ⟨.inl, fun h => h.elim id (fun e => e ▸ HM.out)⟩, by omega⟩
  · rw [any_no hm] at C1
    replace C1 := Lib.hid C1
    have HM := Lib.hid hm
    subst hv
    clear hm hsl
    go_enter Tryd.func119, Tryd.ntmps119
    go_wp2_with (first | (go_at_call 113; refine C1.out.mono ?_; rintro e w' ⟨rfl, rfl⟩) | (at_builtin; refine wpList_append_own _ rfl _ _ 123 rfl base 9 i0 (.string ⟨#[]⟩) 1 16 Tryd.underlying123 hi hz0 hz1 hz2 rfl (by decide) _ _ _ rfl (World.ownsRow.alloc hO.out _) ⟨w.heap.size, 0, none⟩ 1 1 [.string s] rfl rfl ?_ ?_ ?_ ?_ ?_ ?_))
    · intro q' x' hx'
      rcases q' with _ | q'
      · cases hx'; go_cell
      · simp at hx'
    · intro x' hx'
      simp at hx'
      subst hx'
      rfl
    · unfold maxLen; omega
    · omega
    · simp; omega
    intro v' w4 hown' hgrow _
    have B4 : Below base w w4 := ((Below.refl base w).alloc hb _).grown hgrow (by simp; omega) (fun q hq => (hO.out.lt q hq).1)
    have hO4 : Hid (w4.ownsRow base 9 1 v' (L.length + 1) (stC (L.take L.length ++ s :: L.drop L.length))) := Lib.hid (by
      rw [List.take_length, List.drop_length, stC_app]
      exact hown')
    clear hown' hgrow hO hi hz0 hz1 hz2 C1
    rcases hO4.out.2 with ⟨e, hn0⟩ | ⟨g, cap, cur, e, hbg, _⟩
    · exact absurd hn0 (by omega)
    subst e
    go_wp2_with fail
    go_loopw [5] (fun i wr => ∃ j : Nat, i = .int .i64 (j : Int) ∧ j ≤ L.length ∧ Below base w wr ∧ Hid (wr.ownsRow base 9 1 (.slice (some ⟨g, 0, none⟩) (L.length + 1) cap) (L.length + 1) (stC (L.take j ++ s :: L.drop j))) ∧ Hid (∀ x ∈ L.drop j, slt s x)) (fun i _ => (intOf i).toNat)
    case atStart => exact ⟨L.length, rfl, Nat.le_refl _, B4, hO4, Lib.hid (by simp)⟩
    case round =>
      obtain ⟨j, rfl, hj, hB, hOj, hD⟩ := hrel
      by_cases h0 : j = 0
      · subst h0
        have HE : Hid (Srt L → Srt (L.take 0 ++ s :: L.drop 0)) := Lib.hid (ins_srt (by omega) HM.out hD.out (fun h => absurd h (by omega)))
        go_wp2_with fail
        go_quiet (fail)
        go_wp2
        go_ret
        exact ⟨_, L.take 0 ++ s :: L.drop 0, rfl, by rw [ins_len]; exact hOj.out, below_drewN hB _, HE.out, fun x => ins_mem, by rw [ins_len]; omega⟩
      · obtain ⟨i, rfl⟩ : ∃ i, j = i + 1 := ⟨j - 1, by omega⟩
        clear h0
        have hil : i < L.length := by omega
        have d0 := hOj.out.cellAt i (by omega)
        rw [at_lo hil] at d0
        have d1 := hOj.out.cellAt (i + 1) (by omega)
        rw [at_hi (by omega)] at d1
        have z0 := hOj.out.frozenAt i
        have z1 := hOj.out.frozenAt (i + 1)
        have HW := Lib.hid (swp2 (s := s) hil)
        have HD := Lib.hid (drop1 hil)
        have HS := Lib.hid fun h : ¬ slt s (L.getD i ByteArray.empty) => ins_srt (i := i + 1) (by omega) HM.out hD.out (fun _ => by rw [show i + 1 - 1 = i by omega]; exact h)
        have htL : L.getD i ByteArray.empty ∈ L := by
          have : L.getD i ByteArray.empty ∈ L.drop i := by rw [drop1 hil]; simp
          exact List.mem_of_mem_drop this
        obtain ⟨t, ht⟩ : ∃ t, L.getD i ByteArray.empty = t := ⟨_, rfl⟩
        rw [ht] at d0 HW HD HS htL
        clear ht
        have i0 : (0 : Int) ≤ i := by omega
        have i1 : (i : Int) < (L.length : Int) + 1 := by omega
        have i2 : (0 : Int) ≤ (i : Int) + 1 := by omega
        have i3 : (i : Int) + 1 < (L.length : Int) + 1 := by omega
        have w1 : IntKind.i64.wrap (((i + 1 : Nat) : Int) - 1) = (i : Int) := by rw [show ((i + 1 : Nat) : Int) - 1 = (i : Int) by omega]; exact IntWalk.i64_in _ (by omega)
        have w2 : IntKind.i64.wrap ((i : Int) + 1 - 1) = (i : Int) := by rw [show (i : Int) + 1 - 1 = (i : Int) by omega]; exact IntWalk.i64_in _ (by omega)
        have e1 : (0 : Int) < (i : Int) + 1 := by omega
        have e2 : decide ((0 : Int) < (i : Int) + 1) = true := decide_eq_true e1
        by_cases hst : slt s t
        · have L1 : Op.bytesLess t.toList s.toList = false := by rw [slt_less]; exact decide_eq_false (slt_asymm hst)
          have L2 : (t.toList == s.toList) = false := by rw [same_iff]; exact decide_eq_false (fun e => slt_irrefl _ (e ▸ hst))
          clear htL
          have hD2 : Hid (∀ x ∈ L.drop i, slt s x) := Lib.hid (by
            rw [HD.out]
            intro x hx
            rcases List.mem_cons.1 hx with rfl | hx
            · exact hst
            · exact hD.out x hx)
          clear hst HS HD hD
          go_wp2_with fail
          go_quiet (fail)
          have O1 := hOj.out.stored (i + 1) (.string t)
          have O2 := O1.1.stored i (.string s)
          rw [HW.out] at O2
          have hO2 : Hid (((wr.setCell ⟨g, i + 1, none⟩ (.string t)).setCell ⟨g, i, none⟩ (.string s)).ownsRow base 9 1 (.slice (some ⟨g, 0, none⟩) (L.length + 1) cap) (L.length + 1) (stC (L.take i ++ s :: L.drop i))) := Lib.hid O2.1
          have hB2 : Below base w ((wr.setCell ⟨g, i + 1, none⟩ (.string t)).setCell ⟨g, i, none⟩ (.string s)) := (hB.setCell (p := ⟨g, i + 1, none⟩) hbg _).setCell (p := ⟨g, i, none⟩) hbg _
          clear O1 O2 hOj HW
          go_wp2
          go_roundw
          case rel => exact ⟨i, rfl, by omega, below_set2 hB hbg, Lib.hid hO2.out, hD2⟩
          case measure => simp [intOf]
        · have hts : slt t s := by
            rcases slt_tri s t with h | h | h
            · exact absurd h hst
            · exact absurd (h ▸ htL) HM.out
            · exact h
          have L1 : Op.bytesLess t.toList s.toList = true := by rw [slt_less]; exact decide_eq_true hts
          clear hts htL
          have HE := Lib.hid (HS.out hst)
          clear hst HS HD
          go_wp2_with fail
          go_quiet (fail)
          go_wp2
          go_ret
          exact ⟨_, L.take (i + 1) ++ s :: L.drop (i + 1), rfl, by rw [ins_len]; exact hOj.out, below_drewN hB _, HE.out, fun x => ins_mem, by rw [ins_len]; omega⟩
end Go.Proofs.YtbicmlkjonaccaaDoor.Ln


namespace Go.Proofs.YtbicmlkjonaccaaDoor.Ln
open Go.ChangeShapes Go.WideShapes Go.ChangeAt Go.RowKit
open Go.Proofs.YtbicmlkjonaccaaDoor.Nm
set_option linter.unusedVariables false
set_option linter.unusedSimpArgs false
/-- A form in a list: its constant, its row, its monomials, the row's room. -/
abbrev Fm := Int × Option Addr × List Mo × Nat
abbrev fm0 : Fm := (0, none, [], 0)
def SlL (w : World) (p : Option Addr) (fs : List Fm) : Prop := ∀ i, i < fs.length → ∃ b o, p = some ⟨b, o, none⟩ ∧ w.cell? ⟨b, o + i * 2, none⟩ = some (.int .i64 (fs.getD i fm0).1) ∧
  w.cell? ⟨b, o + i * 2 + 1, none⟩ = some (.slice (fs.getD i fm0).2.1 (fs.getD i fm0).2.2.1.length (fs.getD i fm0).2.2.2) ∧ SlM w (fs.getD i fm0).2.1 (fs.getD i fm0).2.2.1
theorem SlL.keep {w w' : World} {p : Option Addr} {fs : List Fm} (hB : Below w.heap.size w w') (h : SlL w p fs) : SlL w' p fs := fun i hi => by
  obtain ⟨b, o, rfl, c0, c1, c2⟩ := h i hi
  have hb := lt_of_cell c0
  exact ⟨b, o, rfl, kp hB hb c0, kp hB hb c1, SlM.keep hB c2⟩
def nms (fs : List Fm) : List ByteArray := fs.flatMap fun f => f.2.2.1.map (·.1)
theorem ftake1 {L : List Fm} {i : Nat} (h : i < L.length) : L.take (i + 1) = L.take i ++ [L.getD i fm0] := by
  rw [List.take_succ_eq_append_getElem h]
  unfold List.getD
  rw [List.getElem?_eq_getElem h]
  rfl
theorem nms_step {fs : List Fm} {i : Nat} (h : i < fs.length) : nms (fs.take (i + 1)) = nms (fs.take i) ++ (fs.getD i fm0).2.2.1.map (·.1) := by
  rw [ftake1 h]
  unfold nms
  rw [List.flatMap_append]
  simp
def NW (fs : List Fm) (w : World) (e : Ending) (w' : World) : Prop :=
  ∃ v L, e = .returned v ∧ w'.ownsRow w.heap.size 9 1 v L.length (stC L) ∧ Srt L ∧ (∀ x, x ∈ L ↔ x ∈ nms fs) ∧ L.length ≤ fs.length * 1000 ∧ Below w.heap.size w w'
set_option maxRecDepth 100000 in
set_option maxHeartbeats 16000000 in
theorem names2 (p : Option Addr) (fs : List Fm) (c : Nat) (w : World) (hn : fs.length ≤ 50) (hx : Hid (∀ i, i < fs.length → (fs.getD i fm0).2.2.1.length ≤ 1000)) (RA : Hid (SlL w p fs)) :
    Calls Tryd.prog 100 #[.slice p fs.length c] w (NW fs w) := by
  have CI := Lib.hid fun (v : Value) (L : List ByteArray) (s : ByteArray) (u : World) h1 h2 h3 => insert1 w.heap.size v L s u h1 h2 h3
  go_enter Tryd.func100, Tryd.ntmps100
  go_wp2
  go_loopw [3, 4] (fun v i wr => ∃ (j : Nat) (L : List ByteArray), i = .int .i64 (j : Int) ∧ j ≤ fs.length ∧ L.length ≤ j * 1000 ∧ Below w.heap.size w wr ∧ Hid (wr.ownsRow w.heap.size 9 1 v L.length (stC L)) ∧ Hid (Srt L) ∧ Hid (∀ x, x ∈ L ↔ x ∈ nms (fs.take j))) (fun _ i _ => fs.length - (intOf i).toNat)
  case atStart => exact ⟨0, [], rfl, by omega, by simp, Below.refl _ _, Lib.hid (World.ownsRow_nil _ _ _ _), Lib.hid List.Pairwise.nil, Lib.hid (by simp [nms])⟩
  case round =>
    obtain ⟨j, L, rfl, hj, hlen, hB, hO, hS, hM⟩ := hrel
    have j0 : (0 : Int) ≤ j := by omega
    by_cases hlt : j < fs.length
    · obtain ⟨b, o, rfl, c0, c1, c2⟩ := SlL.keep hB RA.out j hlt
      have hst := Lib.hid (nms_step hlt)
      have hx1 := hx.out j hlt
      obtain ⟨⟨kk, pp, xs, cc⟩, hf⟩ : ∃ f, fs.getD j fm0 = f := ⟨_, rfl⟩
      rw [hf] at c0 c1 c2 hx1
      replace hst := Lib.hid (by have h := hst.out; rw [hf] at h; exact h)
      simp only at c0 c1 c2 hx1
      have HF := Lib.hid hf
      clear hf c0
      have j1 : (j : Int) < fs.length := by omega
      have RX := Lib.hid c2
      clear c2
      go_wp2_with fail
      clear c1 RX
      go_loopw [3, 5] (fun v i w2 => ∃ (k : Nat) (L : List ByteArray), i = .int .i64 (k : Int) ∧ k ≤ xs.length ∧ L.length ≤ j * 1000 + k ∧ Below w.heap.size w w2 ∧ Hid (w2.ownsRow w.heap.size 9 1 v L.length (stC L)) ∧ Hid (Srt L) ∧ Hid (∀ x, x ∈ L ↔ x ∈ nms (fs.take j) ∨ x ∈ (xs.take k).map (·.1))) (fun _ i _ => xs.length - (intOf i).toNat)
      case atStart => exact ⟨0, L, rfl, by omega, by omega, hB, hO, hS, Lib.hid (fun x => by rw [hM.out x]; simp)⟩
      case round =>
        clear hlen hO hS hM hB
        obtain ⟨k, L2, rfl, hk, hlen, hB, hO, hS, hM⟩ := hrel
        have k0 : (0 : Int) ≤ k := by omega
        obtain ⟨b', o', he, c0, c1, c2⟩ := SlL.keep hB RA.out j hlt
        cases he
        rw [HF.out] at c0 c1 c2
        simp only at c0 c1 c2
        clear c0
        by_cases hlk : k < xs.length
        · obtain ⟨b2, o2, rfl, d0, d1⟩ := c2 k hlk
          have htk := Lib.hid (take_step hlk)
          obtain ⟨⟨s, a⟩, hxx⟩ : ∃ x, xs.getD k mo0 = x := ⟨_, rfl⟩
          rw [hxx] at d0 d1
          replace htk := Lib.hid (by have h := htk.out; rw [hxx] at h; exact h)
          simp only at d0 d1
          clear hxx d1 c2
          have k1 : (k : Int) < xs.length := by omega
          have C2 := Lib.hid (CI.out _ L2 s wr (by omega) hB.size hO)
          go_wp2_with fail
          refine C2.out.mono ?_
          rintro e w3 ⟨v', L', rfl, hO', hB', hS', hM', hl'⟩
          have hM2 : Hid (∀ x, x ∈ L' ↔ x ∈ nms (fs.take j) ∨ x ∈ (xs.take (k + 1)).map (·.1)) := Lib.hid (by
            intro x
            rw [hM' x, hM.out x, htk.out, List.map_append, List.mem_append, List.map_cons, List.map_nil, List.mem_singleton, or_assoc])
          have hS2 := Lib.hid (hS' hS.out)
          have hO2 := Lib.hid hO'
          have hB2 : Below w.heap.size w w3 := hB.trans hB'
          clear hO' hB' hS' hM' hO hS hM
          go_wp2
          go_roundw
          case rel => exact ⟨k + 1, L', by go_num, by omega, by omega, hB2, hO2, hS2, hM2⟩
          case measure => simp [intOf]; omega
        · have k1 : ¬ (k : Int) < xs.length := by omega
          obtain rfl : k = xs.length := by omega
          have hM2 : Hid (∀ x, x ∈ L2 ↔ x ∈ nms (fs.take (j + 1))) := Lib.hid (by
            intro x
            rw [hM.out x, hst.out, List.mem_append, List.take_length])
          go_wp2
          go_roundw
          case rel => exact ⟨j + 1, L2, by go_num, by omega, by omega, hB, hO, hS, hM2⟩
          case measure => simp [intOf]; omega
    · have j1 : ¬ (j : Int) < fs.length := by omega
      obtain rfl : j = fs.length := by omega
      go_wp2
      go_ret
      exact ⟨_, L, rfl, hO.out, hS.out, fun x => by rw [hM.out x, List.take_length], hlen, hB⟩
end Go.Proofs.YtbicmlkjonaccaaDoor.Ln
