/- Boxes: the statement on the bounds of ranges: its walk. -/
import Derived.Test.YtkdfidjoighknaaBMR
import Derived.Test.YtkdfidjoighknaaB25
namespace Go.Proofs.Ytkdfidjoighknaa.Bx
open Go.ChangeShapes Go.WideShapes Go.ChangeAt Go.RowKit
set_option linter.unusedVariables false
set_option linter.unusedSimpArgs false
open Go.Proofs.Ytkdfidjoighknaa.Nm Go.Proofs.Ytkdfidjoighknaa.Ln
theorem lt_of_cell {w : World} {b o : Nat} {v : Value} (h : w.cell? ⟨b, o, none⟩ = some v) : b < w.heap.size := by have := World.block_lt_of_cell? w _ h; simpa using this
theorem bnd_length {ns : List ByteArray} {ps : List Int} (h : ns.length = ps.length) : (bnd ns ps).length = ns.length := by unfold bnd; rw [List.length_zip]; omega
theorem bnd_snoc {ns : List ByteArray} {ps : List Int} {j : Nat} (h1 : j < ns.length) (h2 : j < ps.length) : (bnd ns ps).take (j + 1) = (bnd ns ps).take j ++ [(ns.getD j ByteArray.empty, ps.getD j 0)] := by
  have hl : j < (ns.zip ps).length := by rw [List.length_zip]; omega
  show (ns.zip ps).take (j + 1) = (ns.zip ps).take j ++ _
  rw [List.take_succ_eq_append_getElem hl, List.getElem_zip, getD_at h2, getS h1]
set_option maxRecDepth 100000 in
set_option maxHeartbeats 8000000 in
/-- The early ends. -/
theorem rb_early (k : Int) (p q r : Option Addr) (xs : List Mo) (c d f : Nat) (w : World) (n m : Nat) (C : Int) (hn : n ≤ maxLen) (hm : m ≤ maxLen) (hC : ¬ (C ≤ 500 ∧ n = m))
    (C0 : Hid (∀ u, Below w.heap.size w u → Calls Try.prog 31 #[Lv k p xs.length c, .slice q n d, .slice r m f] u (FW (xs.length ≤ 40 ∧ n ≤ 1000 ∧ m ≤ 1000) u)))
    (CC : Hid (∀ u, Below w.heap.size w u → Calls Try.prog 18 #[.slice r m f] u (DR (.int .i64 C) u))) :
    Calls Try.prog 9 #[.agg #[.int .i64 k, .slice p xs.length c], .slice q n d, .slice r m f] w (RT w) := by
  have EX := Lib.hid exam
  have BX := Lib.hid ((Below.refl w.heap.size w).alloc (Nat.le_refl _) (Obj.cells #[Value.int .i64 k, Value.slice p xs.length c] 44))
  have hb0 : (w.alloc (Obj.cells #[Value.int .i64 k, Value.slice p xs.length c] 44)).cell? ⟨w.heap.size, 0, none⟩ = some (.int .i64 k) := by go_cell
  have hb1 : (w.alloc (Obj.cells #[Value.int .i64 k, Value.slice p xs.length c] 44)).cell? ⟨w.heap.size, 1, none⟩ = some (.slice p xs.length c) := by go_cell
  have hlt0 : w.heap.size < (w.alloc (Obj.cells #[Value.int .i64 k, Value.slice p xs.length c] 44)).heap.size := by simp
  have HLT := Lib.hid hlt0
  unfold Lv at C0
  unfold maxLen at hn hm
  go_enter Try.func9, Try.ntmps9
  go_wp2_with fail
  generalize (w.alloc (Obj.cells #[Value.int .i64 k, Value.slice p xs.length c] 44)) = wb at *
  refine (C0.out wb BX.out).mono ?_
  rintro e w1 ⟨b, rfl, hfew, hb⟩
  have K := Lib.hid (BX.out.trans (hb.mono BX.out.size))
  replace HLT := Lib.hid (Nat.lt_of_lt_of_le HLT.out hb.size)
  have hx0 : w1.cell? ⟨w.heap.size, 0, none⟩ = some (.int .i64 k) := (hb.cell (p := ⟨w.heap.size, 0, none⟩) hlt0).trans hb0
  have hx1 : w1.cell? ⟨w.heap.size, 1, none⟩ = some (.slice p xs.length c) := (hb.cell (p := ⟨w.heap.size, 1, none⟩) hlt0).trans hb1
  clear hb hb0 hb1 C0 BX hlt0
  cases b
  · go_wp2_with fail
    refine (EX.out _).mono ?_
    rintro e w9 ⟨rfl, hb⟩
    have K9 := Lib.hid (K.out.trans (hb.mono K.out.size))
    clear hb
    go_wp2
    go_ret
    exact ⟨rfl, K9.out⟩
  · by_cases h5 : C ≤ 500
    · have k5 : decide ((500 : Int) < C) = false := decide_eq_false (by omega)
      have h6 : ¬ n = m := fun e => hC ⟨h5, e⟩
      have q1 : ((n : Int) == m) = false := beq_false_of_ne (by omega)
      have q2 : ((n : Int) != m) = true := by simp <;> omega
      have q3 : decide ((n : Int) = m) = false := decide_eq_false (by omega)
      have q4 : (n == m) = false := beq_false_of_ne h6
      go_wp2_with fail
      refine (CC.out _ K.out).mono ?_
      rintro e w' ⟨rfl, md, rfl⟩
      replace K := Lib.hid (World.below_drewN' K.out md)
      replace HLT : Hid (w.heap.size < (w1.drewN md).heap.size) := HLT
      replace hx0 : (w1.drewN md).cell? ⟨w.heap.size, 0, none⟩ = some (.int .i64 k) := hx0
      replace hx1 : (w1.drewN md).cell? ⟨w.heap.size, 1, none⟩ = some (.slice p xs.length c) := hx1
      generalize w1.drewN md = w2 at *
      clear CC
      go_wp2_with fail
      refine (EX.out _).mono ?_
      rintro e w9 ⟨rfl, hb⟩
      have K9 := Lib.hid (K.out.trans (hb.mono K.out.size))
      clear hb
      go_wp2
      go_ret
      exact ⟨rfl, K9.out⟩
    · have k5 : decide ((500 : Int) < C) = true := decide_eq_true (by omega)
      go_wp2_with fail
      refine (CC.out _ K.out).mono ?_
      rintro e w' ⟨rfl, md, rfl⟩
      replace K := Lib.hid (World.below_drewN' K.out md)
      replace HLT : Hid (w.heap.size < (w1.drewN md).heap.size) := HLT
      replace hx0 : (w1.drewN md).cell? ⟨w.heap.size, 0, none⟩ = some (.int .i64 k) := hx0
      replace hx1 : (w1.drewN md).cell? ⟨w.heap.size, 1, none⟩ = some (.slice p xs.length c) := hx1
      generalize w1.drewN md = w2 at *
      clear CC
      go_wp2_with fail
      refine (EX.out _).mono ?_
      rintro e w9 ⟨rfl, hb⟩
      have K9 := Lib.hid (K.out.trans (hb.mono K.out.size))
      clear hb
      go_wp2
      go_ret
      exact ⟨rfl, K9.out⟩
set_option maxRecDepth 100000 in
set_option maxHeartbeats 8000000 in
/-- Range refuses. -/
theorem rb_err (k : Int) (p q r : Option Addr) (xs : List Mo) (c d f : Nat) (w : World) (n : Nat) (C z : Int) (hn : n ≤ maxLen) (hC : C ≤ 500) (hz : z ≠ 0)
    (C0 : Hid (∀ u, Below w.heap.size w u → Calls Try.prog 31 #[Lv k p xs.length c, .slice q n d, .slice r n f] u (FW (xs.length ≤ 40 ∧ n ≤ 1000 ∧ n ≤ 1000) u)))
    (CC : Hid (∀ u, Below w.heap.size w u → Calls Try.prog 18 #[.slice r n f] u (DR (.int .i64 C) u)))
    (CR : Hid (∀ u, Below w.heap.size w u → Calls Try.prog 32 #[Lv k p xs.length c, .slice q n d, .slice r n f] u (RW3 (0, 0, z) u))) :
    Calls Try.prog 9 #[.agg #[.int .i64 k, .slice p xs.length c], .slice q n d, .slice r n f] w (RT w) := by
  have EX := Lib.hid exam
  have BX := Lib.hid ((Below.refl w.heap.size w).alloc (Nat.le_refl _) (Obj.cells #[Value.int .i64 k, Value.slice p xs.length c] 44))
  have hb0 : (w.alloc (Obj.cells #[Value.int .i64 k, Value.slice p xs.length c] 44)).cell? ⟨w.heap.size, 0, none⟩ = some (.int .i64 k) := by go_cell
  have hb1 : (w.alloc (Obj.cells #[Value.int .i64 k, Value.slice p xs.length c] 44)).cell? ⟨w.heap.size, 1, none⟩ = some (.slice p xs.length c) := by go_cell
  have hlt0 : w.heap.size < (w.alloc (Obj.cells #[Value.int .i64 k, Value.slice p xs.length c] 44)).heap.size := by simp
  have HLT := Lib.hid hlt0
  unfold Lv at C0 CR
  unfold maxLen at hn
  have k5 : decide ((500 : Int) < C) = false := decide_eq_false (by omega)
  have z1 : (z == 0) = false := beq_false_of_ne hz
  have z2 : (z != 0) = true := by simpa using hz
  have z3 : decide (z = 0) = false := decide_eq_false hz
  go_enter Try.func9, Try.ntmps9
  go_wp2_with fail
  generalize (w.alloc (Obj.cells #[Value.int .i64 k, Value.slice p xs.length c] 44)) = wb at *
  refine (C0.out wb BX.out).mono ?_
  rintro e w1 ⟨b, rfl, hfew, hb⟩
  have K := Lib.hid (BX.out.trans (hb.mono BX.out.size))
  replace HLT := Lib.hid (Nat.lt_of_lt_of_le HLT.out hb.size)
  have hx0 : w1.cell? ⟨w.heap.size, 0, none⟩ = some (.int .i64 k) := (hb.cell (p := ⟨w.heap.size, 0, none⟩) hlt0).trans hb0
  have hx1 : w1.cell? ⟨w.heap.size, 1, none⟩ = some (.slice p xs.length c) := (hb.cell (p := ⟨w.heap.size, 1, none⟩) hlt0).trans hb1
  clear hb hb0 hb1 C0 BX hlt0
  cases b
  · go_wp2_with fail
    refine (EX.out _).mono ?_
    rintro e w9 ⟨rfl, hb⟩
    have K9 := Lib.hid (K.out.trans (hb.mono K.out.size))
    clear hb
    go_wp2
    go_ret
    exact ⟨rfl, K9.out⟩
  · go_wp2_with fail
    refine (CC.out _ K.out).mono ?_
    rintro e w' ⟨rfl, md, rfl⟩
    replace K := Lib.hid (World.below_drewN' K.out md)
    replace HLT : Hid (w.heap.size < (w1.drewN md).heap.size) := HLT
    replace hx0 : (w1.drewN md).cell? ⟨w.heap.size, 0, none⟩ = some (.int .i64 k) := hx0
    replace hx1 : (w1.drewN md).cell? ⟨w.heap.size, 1, none⟩ = some (.slice p xs.length c) := hx1
    generalize w1.drewN md = w2 at *
    clear CC
    go_wp2_with fail
    refine (CR.out _ K.out).mono ?_
    rintro e w3 ⟨rfl, hb⟩
    replace K := Lib.hid (K.out.trans (hb.mono K.out.size))
    clear hb hx0 hx1 CR
    go_wp2_with fail
    refine (EX.out _).mono ?_
    rintro e w9 ⟨rfl, hb⟩
    have K9 := Lib.hid (K.out.trans (hb.mono K.out.size))
    clear hb
    go_wp2
    go_ret
    exact ⟨rfl, K9.out⟩
set_option maxRecDepth 100000 in
set_option maxHeartbeats 16000000 in
/-- Range answers: every point lies between, both ends are taken. -/
theorem rb_main (k : Int) (p q r : Option Addr) (xs : List Mo) (c d f : Nat) (w : World) (n : Nat) (ns : List ByteArray) (zs : List Int) (LO HI : Int) (HNl : Hid (ns.length = n)) (HZl : Hid (zs.length = n)) (hn : n ≤ maxLen) (hC0 : 0 < cnt zs) (hC : cnt zs ≤ 500)
    (RN : Hid (SlT w q ns))
    (HV : Hid (∀ a : Int, 0 ≤ a → a < cnt zs → LO ≤ vAt k xs ns zs a ∧ vAt k xs ns zs a ≤ HI ∧ ∀ x e, EV k xs (bnd ns (pt zs a)) x e → x = vAt k xs ns zs a ∧ e = 0))
    (HL : Hid (∃ a : Nat, (a : Int) < cnt zs ∧ vAt k xs ns zs a = LO)) (HH : Hid (∃ a : Nat, (a : Int) < cnt zs ∧ vAt k xs ns zs a = HI))
    (C0 : Hid (∀ u, Below w.heap.size w u → Calls Try.prog 31 #[Lv k p xs.length c, .slice q n d, .slice r n f] u (FW (xs.length ≤ 40 ∧ n ≤ 1000 ∧ n ≤ 1000) u)))
    (CC : Hid (∀ u, Below w.heap.size w u → Calls Try.prog 18 #[.slice r n f] u (DR (.int .i64 (cnt zs)) u)))
    (CR : Hid (∀ u, Below w.heap.size w u → Calls Try.prog 32 #[Lv k p xs.length c, .slice q n d, .slice r n f] u (RW3 (LO, HI, 0) u)))
    (CA : Hid (∀ u, Below w.heap.size w u → Calls Try.prog 26 #[.slice r n f] u (RAW zs u)))
    (CE : Hid (∀ (u : World) (a : Nat) (q' : Option Addr) (c' : Nat), xs.length ≤ 40 → n ≤ 1000 → (a : Int) < cnt zs → Below w.heap.size w u → SlM u q' (bnd ns (pt zs a)) → Calls Try.prog 34 #[Lv k p xs.length c, .slice q' n c'] u (EW k xs (bnd ns (pt zs a)) u))) :
    Calls Try.prog 9 #[.agg #[.int .i64 k, .slice p xs.length c], .slice q n d, .slice r n f] w (RT w) := by
  have EX := Lib.hid exam
  have BX := Lib.hid ((Below.refl w.heap.size w).alloc (Nat.le_refl _) (Obj.cells #[Value.int .i64 k, Value.slice p xs.length c] 44))
  have hb0 : (w.alloc (Obj.cells #[Value.int .i64 k, Value.slice p xs.length c] 44)).cell? ⟨w.heap.size, 0, none⟩ = some (.int .i64 k) := by go_cell
  have hb1 : (w.alloc (Obj.cells #[Value.int .i64 k, Value.slice p xs.length c] 44)).cell? ⟨w.heap.size, 1, none⟩ = some (.slice p xs.length c) := by go_cell
  have hlt0 : w.heap.size < (w.alloc (Obj.cells #[Value.int .i64 k, Value.slice p xs.length c] 44)).heap.size := by simp
  have HLT := Lib.hid hlt0
  obtain ⟨C, hCC⟩ : ∃ C, cnt zs = C := ⟨_, rfl⟩
  rw [hCC] at hC0 hC HV HL HH CC CE
  have HCC := Lib.hid hCC
  clear hCC
  unfold Lv at C0 CR CE
  unfold maxLen at hn
  have k5 : decide ((500 : Int) < C) = false := decide_eq_false (by omega)
  have PL := Lib.hid fun a : Int => (pt_length zs a).trans HZl.out
  go_enter Try.func9, Try.ntmps9
  go_wp2_with fail
  generalize (w.alloc (Obj.cells #[Value.int .i64 k, Value.slice p xs.length c] 44)) = wb at *
  refine (C0.out wb BX.out).mono ?_
  rintro e w1 ⟨b, rfl, hfew, hb⟩
  have K := Lib.hid (BX.out.trans (hb.mono BX.out.size))
  replace HLT := Lib.hid (Nat.lt_of_lt_of_le HLT.out hb.size)
  have hx0 : w1.cell? ⟨w.heap.size, 0, none⟩ = some (.int .i64 k) := (hb.cell (p := ⟨w.heap.size, 0, none⟩) hlt0).trans hb0
  have hx1 : w1.cell? ⟨w.heap.size, 1, none⟩ = some (.slice p xs.length c) := (hb.cell (p := ⟨w.heap.size, 1, none⟩) hlt0).trans hb1
  clear hb hb0 hb1 C0 BX hlt0
  cases b
  · go_wp2_with fail
    refine (EX.out _).mono ?_
    rintro e w9 ⟨rfl, hb⟩
    have K9 := Lib.hid (K.out.trans (hb.mono K.out.size))
    clear hb
    go_wp2
    go_ret
    exact ⟨rfl, K9.out⟩
  · obtain ⟨hx40, hn1, _⟩ := hfew rfl
    clear hfew
    go_wp2_with fail
    refine (CC.out _ K.out).mono ?_
    rintro e w' ⟨rfl, md, rfl⟩
    replace K := Lib.hid (World.below_drewN' K.out md)
    replace HLT : Hid (w.heap.size < (w1.drewN md).heap.size) := HLT
    replace hx0 : (w1.drewN md).cell? ⟨w.heap.size, 0, none⟩ = some (.int .i64 k) := hx0
    replace hx1 : (w1.drewN md).cell? ⟨w.heap.size, 1, none⟩ = some (.slice p xs.length c) := hx1
    generalize w1.drewN md = w2 at *
    clear CC
    go_wp2_with fail
    refine (CR.out _ K.out).mono ?_
    rintro e w3 ⟨rfl, hb⟩
    replace K := Lib.hid (K.out.trans (hb.mono K.out.size))
    replace hx0 : w3.cell? ⟨w.heap.size, 0, none⟩ = some (.int .i64 k) := (hb.cell (p := ⟨w.heap.size, 0, none⟩) HLT.out).trans hx0
    replace hx1 : w3.cell? ⟨w.heap.size, 1, none⟩ = some (.slice p xs.length c) := (hb.cell (p := ⟨w.heap.size, 1, none⟩) HLT.out).trans hx1
    replace HLT := Lib.hid (Nat.lt_of_lt_of_le HLT.out hb.size)
    clear hb CR
    go_wp2_with fail
    refine (CA.out _ K.out).mono ?_
    rintro e w4 ⟨v, vs, rfl, hvs, hb, hO, hP⟩
    rw [HCC.out] at hvs
    obtain ⟨gv, cv, rfl, _, _⟩ := hO.form (by omega)
    have HO := Lib.hid (hO.mono K.out.size)
    have HP := Lib.hid hP
    replace K := Lib.hid (K.out.trans (hb.mono K.out.size))
    replace hx0 : w4.cell? ⟨w.heap.size, 0, none⟩ = some (.int .i64 k) := (hb.cell (p := ⟨w.heap.size, 0, none⟩) HLT.out).trans hx0
    replace hx1 : w4.cell? ⟨w.heap.size, 1, none⟩ = some (.slice p xs.length c) := (hb.cell (p := ⟨w.heap.size, 1, none⟩) HLT.out).trans hx1
    replace HLT := Lib.hid (Nat.lt_of_lt_of_le HLT.out hb.size)
    clear hb hO hP CA
    have RN4 := Lib.hid (SlT.keep K.out RN.out)
    obtain ⟨n9, hn9⟩ : ∃ m, vs.length = m := ⟨_, rfl⟩
    rw [hn9] at HO hvs ⊢
    have HN9 := Lib.hid hn9
    have hS : (n9 : Int) = C := by omega
    clear hvs hn9
    obtain ⟨i0, hi, hz0, hz1, hz2⟩ := info_parts infoMo
    have HX0 := Lib.hid hx0
    have HX1 := Lib.hid hx1
    clear hx0 hx1
    go_wp2
    go_loopw [10, 11, 13] (fun l h iv wr => ∃ (i : Nat) (lo hi : Bool), l = .bool lo ∧ h = .bool hi ∧ iv = .int .i64 (i : Int) ∧ i ≤ n9 ∧ Hid (Below w4.heap.size w4 wr) ∧ Hid (∀ j : Nat, j < i → vAt k xs ns zs j = LO → lo = true) ∧ Hid (∀ j : Nat, j < i → vAt k xs ns zs j = HI → hi = true)) (fun _ _ iv _ => n9 - (intOf iv).toNat)
    case atStart => exact ⟨0, false, false, rfl, rfl, rfl, by omega, Lib.hid (Below.refl _ _), Lib.hid fun j hj => by omega, Lib.hid fun j hj => by omega⟩
    case round =>
      obtain ⟨i, lo, hi9, rfl, rfl, rfl, hin, HB, HLo, HHi⟩ := hrel
      have i0' : (0 : Int) ≤ i := by omega
      by_cases hlt : i < n9
      · have k1 : (i : Int) < n9 := by omega
        have hiC : (i : Int) < C := by omega
        have hvi : ∃ y, vs[i]? = some y := ⟨_, List.getElem?_eq_getElem (by rw [HN9.out]; exact hlt)⟩
        obtain ⟨y, hy⟩ := hvi
        have hOi := HP.out i y hy
        obtain ⟨qi, di, rfl⟩ := own_slice hOi
        have SI : SlI w4 qi (pt zs i) := by
          rw [← pt_length zs i] at hOi
          obtain ⟨q0, d0, e0, _, _, S0⟩ := own_SlI hOi
          cases e0
          exact S0.out
        have hcell4 : w4.cell? ⟨gv, i, none⟩ = some (.slice qi n di) := by
          have h := HO.out.cellAt i (by omega)
          rw [hy] at h
          rw [h, HZl.out]
        have HSI := Lib.hid SI
        have HCL := Lib.hid hcell4
        obtain ⟨VB1, VB2, VB3⟩ := HV.out i (by omega) hiC
        have HVB3 := Lib.hid VB3
        have HBL := Lib.hid (bnd_length (ns := ns) (ps := pt zs i) (HNl.out.trans (PL.out i).symm))
        clear hOi SI hcell4 hy VB3
        go_wp2
        go_loopw [14, 15] (fun v jv w5 => ∃ kk : Nat, jv = .int .i64 (kk : Int) ∧ kk ≤ n ∧ Hid (Below w4.heap.size w4 w5) ∧ Hid (w5.ownsRow w4.heap.size 51 2 v kk (moCs ((bnd ns (pt zs i)).take kk)))) (fun _ jv _ => n - (intOf jv).toNat)
        case atStart => exact ⟨0, rfl, by omega, HB, Lib.hid (World.ownsRow_nil _ _ _ _)⟩
        case round =>
          obtain ⟨kk, rfl, hkn, HB5, HOE⟩ := hrel
          have kk0 : (0 : Int) ≤ kk := by omega
          by_cases hlt5 : kk < n
          · have kk1 : (kk : Int) < n := by omega
            obtain ⟨bn, on, rfl, hs⟩ := SlT.keep HB5.out RN4.out kk (by rw [HNl.out]; exact hlt5)
            obtain ⟨b2, o2, rfl, hxc⟩ := SlI.keep HB5.out HSI.out kk (by rw [PL.out]; exact hlt5)
            have hgc := (HB5.out.cell (p := ⟨gv, i, none⟩) (lt_of_cell HCL.out)).trans HCL.out
            have TK := Lib.hid (bnd_snoc (ns := ns) (ps := pt zs i) (j := kk) (by rw [HNl.out]; exact hlt5) (by rw [PL.out]; exact hlt5))
            obtain ⟨s, hs9⟩ : ∃ s, ns.getD kk ByteArray.empty = s := ⟨_, rfl⟩
            obtain ⟨x, hx9⟩ : ∃ x, (pt zs i).getD kk 0 = x := ⟨_, rfl⟩
            rw [hs9] at hs TK
            rw [hx9] at hxc TK
            clear hs9 hx9
            go_wp2_with fail
            have hz := (⟨hs, hgc, hxc⟩ : wr.drew.cell? ⟨bn, on + kk, none⟩ = some (.string s) ∧ wr.drew.cell? ⟨gv, i, none⟩ = some (.slice (some ⟨b2, o2, none⟩) n di) ∧ wr.drew.cell? ⟨b2, o2 + kk, none⟩ = some (.int .i64 x))
            refine Rk.begin (S := fun wS => wS.cell? ⟨bn, on + kk, none⟩ = some (.string s) ∧ wS.cell? ⟨gv, i, none⟩ = some (.slice (some ⟨b2, o2, none⟩) n di) ∧ wS.cell? ⟨b2, o2 + kk, none⟩ = some (.int .i64 x)) 14 (by kernel_rfl) hz (fun hHeld => ?_)
            refine Rk.takeP (i := 0) (v := ?_) rfl (by kernel_rfl) (by kernel_rfl) (by kernel_rfl) (by kernel_rfl) (fun _ _ _ h => h) (Or.inl ⟨by kernel_rfl, ?_⟩) (by assumption) ?_
            rotate_left
            · ((intro w hSw; go_simp) <;> with_reducible rfl)
            try simp only [Act.put, List.setIfInBounds_toArray, List.set_cons_zero, List.set_cons_succ]
            refine Rk.takeP (i := 1) (v := ?_) rfl (by kernel_rfl) (by kernel_rfl) (by kernel_rfl) (by kernel_rfl) (fun _ _ _ h => h) (Or.inl ⟨by kernel_rfl, ?_⟩) (by assumption) ?_
            rotate_left
            · ((intro w hSw; go_simp) <;> with_reducible rfl)
            try simp only [Act.put, List.setIfInBounds_toArray, List.set_cons_zero, List.set_cons_succ]
            refine Rk.takeP (i := 2) (v := ?_) rfl (by kernel_rfl) (by kernel_rfl) (by kernel_rfl) (by kernel_rfl) (fun _ _ _ h => h) (Or.inl ⟨by kernel_rfl, ?_⟩) (by assumption) ?_
            rotate_left
            · ((intro w hSw; go_simp) <;> with_reducible rfl)
            try simp only [Act.put, List.setIfInBounds_toArray, List.set_cons_zero, List.set_cons_succ]
            refine Rk.takeP (i := 3) (v := ?_) rfl (by kernel_rfl) (by kernel_rfl) (by kernel_rfl) (by kernel_rfl) (fun _ _ _ h => h) (Or.inl ⟨by kernel_rfl, ?_⟩) (by assumption) ?_
            rotate_left
            · ((intro w hSw; go_simp) <;> with_reducible rfl)
            try simp only [Act.put, List.setIfInBounds_toArray, List.set_cons_zero, List.set_cons_succ]
            refine Rk.take [12, 13, 14] (i := 4) (v := ?_) rfl (by kernel_rfl) (by kernel_rfl) (by kernel_rfl) (by kernel_rfl) (by kernel_rfl) (fun _ _ _ h => h) (Or.inl ⟨by kernel_rfl, ?_⟩) (by assumption) ?_
            rotate_left
            · ((intro w hSw; (try dsimp only at hSw); go_simp) <;> with_reducible rfl)
            try simp only [Act.put, List.setIfInBounds_toArray, List.set_cons_zero, List.set_cons_succ]
            refine Rk.takeP (i := 5) (v := ?_) rfl (by kernel_rfl) (by kernel_rfl) (by kernel_rfl) (by kernel_rfl) (fun _ _ _ h => h) (Or.inl ⟨by kernel_rfl, ?_⟩) (by assumption) ?_
            rotate_left
            · ((intro w hSw; go_simp) <;> with_reducible rfl)
            try simp only [Act.put, List.setIfInBounds_toArray, List.set_cons_zero, List.set_cons_succ]
            refine Rk.takeP (i := 6) (v := ?_) rfl (by kernel_rfl) (by kernel_rfl) (by kernel_rfl) (by kernel_rfl) (fun _ _ _ h => h) (Or.inl ⟨by kernel_rfl, ?_⟩) (by assumption) ?_
            rotate_left
            · ((intro w hSw; go_simp) <;> with_reducible rfl)
            try simp only [Act.put, List.setIfInBounds_toArray, List.set_cons_zero, List.set_cons_succ]
            refine Rk.takeP (i := 7) (v := ?_) rfl (by kernel_rfl) (by kernel_rfl) (by kernel_rfl) (by kernel_rfl) (fun _ _ _ h => h) (Or.inl ⟨by kernel_rfl, ?_⟩) (by assumption) ?_
            rotate_left
            · ((intro w hSw; go_simp) <;> with_reducible rfl)
            try simp only [Act.put, List.setIfInBounds_toArray, List.set_cons_zero, List.set_cons_succ]
            refine Rk.take [10, 11, 12, 13, 14] (i := 8) (v := ?_) rfl (by kernel_rfl) (by kernel_rfl) (by kernel_rfl) (by kernel_rfl) (by kernel_rfl) (fun _ _ _ h => h) (Or.inl ⟨by kernel_rfl, ?_⟩) (by assumption) ?_
            rotate_left
            · ((intro w hSw; (try dsimp only at hSw); go_simp) <;> with_reducible rfl)
            try simp only [Act.put, List.setIfInBounds_toArray, List.set_cons_zero, List.set_cons_succ]
            refine Rk.takeP (i := 9) (v := ?_) rfl (by kernel_rfl) (by kernel_rfl) (by kernel_rfl) (by kernel_rfl) (fun _ _ _ h => h) (Or.inl ⟨by kernel_rfl, ?_⟩) (by assumption) ?_
            rotate_left
            · ((intro w hSw; go_simp) <;> with_reducible rfl)
            try simp only [Act.put, List.setIfInBounds_toArray, List.set_cons_zero, List.set_cons_succ]
            refine Rk.takeP (i := 10) (v := ?_) rfl (by kernel_rfl) (by kernel_rfl) (by kernel_rfl) (by kernel_rfl) (fun _ _ _ h => h) (Or.inl ⟨by kernel_rfl, ?_⟩) (by assumption) ?_
            rotate_left
            · ((intro w hSw; go_simp) <;> with_reducible rfl)
            try simp only [Act.put, List.setIfInBounds_toArray, List.set_cons_zero, List.set_cons_succ]
            refine Rk.take [12, 13, 14] (i := 11) (v := ?_) rfl (by kernel_rfl) (by kernel_rfl) (by kernel_rfl) (by kernel_rfl) (by kernel_rfl) (fun _ _ _ h => h) (Or.inl ⟨by kernel_rfl, ?_⟩) (by assumption) ?_
            rotate_left
            · ((intro w hSw; (try dsimp only at hSw); go_simp) <;> with_reducible rfl)
            try simp only [Act.put, List.setIfInBounds_toArray, List.set_cons_zero, List.set_cons_succ]
            refine Rk.takeP (i := 12) (v := ?_) rfl (by kernel_rfl) (by kernel_rfl) (by kernel_rfl) (by kernel_rfl) (fun _ _ _ h => h) (Or.inl ⟨by kernel_rfl, ?_⟩) (by assumption) ?_
            rotate_left
            · ((intro w hSw; go_simp) <;> with_reducible rfl)
            try simp only [Act.put, List.setIfInBounds_toArray, List.set_cons_zero, List.set_cons_succ]
            refine Rk.one (i := 13) (by kernel_rfl) rfl (fun KK hK => ?_)
            rw [if_pos (by kernel_rfl)]
            go_simp
            have BA := (Below.refl wr.drew.heap.size wr.drew).alloc (Nat.le_refl _) (Obj.cells #[Value.string s, Value.int .i64 x] 51)
            refine hK.out _ _ ⟨kp BA (lt_of_cell hHeld.1) hHeld.1, kp BA (lt_of_cell hHeld.2.1) hHeld.2.1, kp BA (lt_of_cell hHeld.2.2) hHeld.2.2⟩ (fun hHeld => ?_)
            clear hK KK
            refine Rk.tail [14, 15] [_, _] (by kernel_rfl) (by kernel_rfl) rfl (by decide) ?_
            have OU := Lib.hid ((World.ownsRow.alloc (w := wr.drew) HOE.out (Obj.cells #[Value.string s, Value.int .i64 x] 51)))
            have KU := Lib.hid ((HB5.out.drew).alloc HB5.out.size (Obj.cells #[Value.string s, Value.int .i64 x] 51))
            clear hHeld hz HB5 HOE hs hgc hxc
            go_wp2_with (at_builtin; refine wpList_append_own _ rfl _ _ 49 rfl w4.heap.size 51 i0 (.agg #[.string ⟨#[]⟩, .int .i64 0]) 2 24 Try.underlying49 hi hz0 hz1 hz2 rfl (by decide) _ _ _ rfl OU.out ⟨wr.heap.size, 0, none⟩ 1 1 [.string s, .int .i64 x] rfl rfl ?_ ?_ ?_ ?_ ?_ ?_)
            · intro q x hx
              rcases q with _ | _ | q
              · cases hx; go_cell
              · cases hx; go_cell
              · simp at hx
            · intro x hx
              simp at hx
              rcases hx with rfl | rfl <;> rfl
            · unfold maxLen; omega
            · omega
            · exact KU.out.size
            intro v' w6 hown' hgrow _
            have K6 := Lib.hid (KU.out.grown hgrow KU.out.size (fun q hq => (OU.out.lt q hq).1))
            have hown2 : Hid (w6.ownsRow w4.heap.size 51 2 v' (kk + 1) (moCs ((bnd ns (pt zs i)).take (kk + 1)))) := Lib.hid (by
              rw [TK.out, moCs_snoc]
              exact hown')
            obtain ⟨q', c', rfl⟩ := own_slice hown2.out
            clear hown' hgrow OU KU TK
            go_wp2
            go_roundw
            case rel => exact ⟨kk + 1, by go_num, by omega, K6, hown2⟩
            case measure => simp [intOf]; omega
          · have kk1 : ¬ (kk : Int) < n := by omega
            obtain rfl : kk = n := by omega
            have hOE := HOE.out
            rw [List.take_of_length_le (by rw [HBL.out, HNl.out]; exact Nat.le_refl _)] at hOE
            obtain ⟨q', c', rfl, SE⟩ := own_sl' hOE (HBL.out.trans HNl.out).symm
            have hx0 := (HB5.out.cell (p := ⟨w.heap.size, 0, none⟩) HLT.out).trans HX0.out
            have hx1 := (HB5.out.cell (p := ⟨w.heap.size, 1, none⟩) HLT.out).trans HX1.out
            have CEi := Lib.hid (CE.out wr i q' c' hx40 hn1 hiC (K.out.trans (HB5.out.mono K.out.size)) SE)
            clear HOE hOE SE
            go_wp2_with fail
            refine CEi.out.mono ?_
            rintro e w7 ⟨x, er, rfl, hE, hb⟩
            obtain ⟨hxe, rfl⟩ := HVB3.out _ _ hE
            obtain ⟨V, hVV⟩ : ∃ V, vAt k xs ns zs i = V := ⟨_, rfl⟩
            rw [hVV] at hxe VB1 VB2
            subst hxe
            have HB7 := Lib.hid (HB5.out.trans (hb.mono HB5.out.size))
            have HLo2 := Lib.hid (fun (b : Bool) (h1 : lo = true → b = true) (h2 : x = LO → b = true) (j : Nat) (hj : j < i + 1) (he : vAt k xs ns zs j = LO) => by
              rcases (by omega : j < i ∨ j = i) with h | rfl
              · exact h1 (HLo.out j h he)
              · exact h2 (hVV.symm.trans he))
            have HHi2 := Lib.hid (fun (b : Bool) (h1 : hi9 = true → b = true) (h2 : x = HI → b = true) (j : Nat) (hj : j < i + 1) (he : vAt k xs ns zs j = HI) => by
              rcases (by omega : j < i ∨ j = i) with h | rfl
              · exact h1 (HHi.out j h he)
              · exact h2 (hVV.symm.trans he))
            have d1 : decide (x < LO) = false := decide_eq_false (by omega)
            have d2 : decide (HI < x) = false := decide_eq_false (by omega)
            clear hb hE CEi hVV hx0 hx1 HLo HHi VB1 VB2 HVB3
            obtain ⟨b1, hb1⟩ : ∃ b, decide (x = LO) = b := ⟨_, rfl⟩
            obtain ⟨b2, hb2⟩ : ∃ b, decide (x = HI) = b := ⟨_, rfl⟩
            have g1 : (x == LO) = b1 := by rw [← hb1]; rfl
            have g2 : (x == HI) = b2 := by rw [← hb2]; rfl
            have HG1 := Lib.hid fun h : x = LO => (show b1 = true by rw [← hb1]; exact decide_eq_true h)
            have HG2 := Lib.hid fun h : x = HI => (show b2 = true by rw [← hb2]; exact decide_eq_true h)
            cases lo <;> cases hi9 <;> cases b1 <;> cases b2
            all_goals
              go_wp2
              go_roundw
              case rel => exact ⟨i + 1, _, _, rfl, rfl, by go_num, by omega, HB7, Lib.hid (HLo2.out _ (fun h => by first | rfl | cases h) (fun h => by first | rfl | (have := HG1.out h; cases this))), Lib.hid (HHi2.out _ (fun h => by first | rfl | cases h) (fun h => by first | rfl | (have := HG2.out h; cases this)))⟩
              case measure => simp [intOf]; omega
      · have k1 : ¬ (i : Int) < n9 := by omega
        have hl : lo = true := by
          obtain ⟨a, ha, he⟩ := HL.out
          exact HLo.out a (by omega) he
        have hh : hi9 = true := by
          obtain ⟨a, ha, he⟩ := HH.out
          exact HHi.out a (by omega) he
        subst hl hh
        replace K := Lib.hid (K.out.trans (HB.out.mono K.out.size))
        go_wp2_with fail
        refine (EX.out _).mono ?_
        rintro e w9 ⟨rfl, hb⟩
        have K9 := Lib.hid (K.out.trans (hb.mono K.out.size))
        clear hb
        go_wp2
        go_ret
        exact ⟨rfl, K9.out⟩
end Go.Proofs.Ytkdfidjoighknaa.Bx
