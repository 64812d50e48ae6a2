/- The functions at the examples. -/
import Derived.Test.YtbicmlkjonaccaaDoorG17
import Derived.Test.YtbicmlkjonaccaaDoorG18
import Derived.Test.YtbicmlkjonaccaaDoorG1
import Derived.Test.YtbicmlkjonaccaaDoorG3
import Derived.Test.YtbicmlkjonaccaaDoorG15
import Derived.Test.YtbicmlkjonaccaaDoorY24

namespace Go.Proofs.YtbicmlkjonaccaaDoor.Ln
open Go.ChangeShapes Go.WideShapes Go.ChangeAt Go.RowKit
open Go.Proofs.YtbicmlkjonaccaaDoor.Nm
set_option linter.unusedVariables false
set_option linter.unusedSimpArgs false
set_option maxRecDepth 8000

theorem rsA (l : List Mo) (h : l.all (fun m => decide (m.1.size ≤ maxLen) && decide (-9223372036854775808 ≤ m.2) && decide (m.2 ≤ 9223372036854775807)) = true) : Hid (∀ i, i < l.length → (l.getD i mo0).1.size ≤ maxLen ∧ -9223372036854775808 ≤ (l.getD i mo0).2 ∧ (l.getD i mo0).2 ≤ 9223372036854775807) := Lib.hid fun i hi => by
  have e1 : l.getD i mo0 = l[i] := by unfold List.getD; rw [List.getElem?_eq_getElem hi]; rfl
  have h2 := List.all_eq_true.1 h l[i] (List.getElem_mem hi)
  simp only [Bool.and_eq_true, decide_eq_true_eq] at h2
  rw [e1]
  exact ⟨h2.1.1, h2.1.2, h2.2⟩
theorem ti1 (p : Option Addr) (c : Nat) (w : World) (h : SlM w p [mI 2, mJ 4]) : Calls Tryd.prog 28 #[Cv (-3) p 2 c false] w (TR (-2, [mI 1, mJ 2], false, 0, 0) w) := by
  have T := tig_ge (-3) p [mI 2, mJ 4] c w (by simp) (Lib.hid h) (rsA _ (by decide +kernel)) (by decide) (by decide) (by decide +kernel) (by simp)
  rw [show (-3 / (gcdL 0 [mI 2, mJ 4] : Int)) = -2 by decide +kernel, show tdY (gcdL 0 [mI 2, mJ 4]) [mI 2, mJ 4] = [mI 1, mJ 2] by decide +kernel] at T
  exact T
theorem ti2 (p : Option Addr) (c : Nat) (w : World) (h : SlM w p [mI 2]) : Calls Tryd.prog 28 #[Cv (-3) p 1 c true] w (TR (-1, [], false, 2, 0) w) :=
  tig_no (-3) p [mI 2] c true w (by simp) (Lib.hid h) (rsA _ (by decide +kernel)) (by decide) (by decide) (by decide +kernel) (by simp) rfl (by decide +kernel)
theorem ti3 (k : Int) (k1 : -9223372036854775808 ≤ k) (k2 : k ≤ 9223372036854775807) (p : Option Addr) (c : Nat) (w : World) (h : SlM w p [mI 1]) : Calls Tryd.prog 28 #[Cv k p 1 c false] w (TR (k, [mI 1], false, 0, 0) w) := by
  have T := tig_ge k p [mI 1] c w (by simp) (Lib.hid h) (rsA _ (by decide +kernel)) k1 k2 (by decide +kernel) (by simp)
  rw [show (gcdL 0 [mI 1] : Int) = 1 by decide +kernel, show tdY (gcdL 0 [mI 1]) [mI 1] = [mI 1] by decide +kernel, Int.ediv_one] at T
  exact T
theorem ni1 (p : Option Addr) (c : Nat) (w : World) (h : SlM w p [mI 1]) : Calls Tryd.prog 31 #[Cv (-3) p 1 c false] w (NR 2 [mI (-1)] w) :=
  neg_ge (-3) p [mI 1] c w (by simp) (Lib.hid h) (rsA _ (by decide +kernel)) (by decide) (by decide) (by decide +kernel) [mI (-1)] 0 (by decide +kernel)
theorem no1 (p : Option Addr) (c : Nat) (w : World) (h : SlC w p [(0, [mI 1]), (-2, [mI 1])]) : Calls Tryd.prog 36 #[.slice p 2 c] w (NF (-2) [mI 1] w) :=
  norm2 p c 0 (-2) 0 (-2) [mI 1] [mI 1] w (by decide) (Lib.hid h) (Lib.hid fun p c w h => ti3 0 (by decide) (by decide) p c w h) (Lib.hid fun p c w h => ti3 (-2) (by decide) (by decide) p c w h) (by decide +kernel) (by decide +kernel)
theorem fo1 (p : Option Addr) (c : Nat) (w : World) (h : SlM w p [mI 1]) (hL : LA w) : Calls Tryd.prog 38 #[Cv (-3) p 1 c true] w fun e w' => e = .returned (.string ⟨#[48, 32, 61, 61, 32, 105, 32, 45, 32, 51]⟩) ∧ Below w.heap.size w w' := by
  have T := cfmt1 (-3) p [mI 1] c true w (by simp) (Lib.hid h) (Lib.hid fun i hi => ((rsA [mI 1] (by decide +kernel)).out i hi).1) (Lib.hid fun i hi => ((rsA [mI 1] (by decide +kernel)).out i hi).2) (by decide) (by decide) hL
  rw [show cfm (-3) [mI 1] true = ⟨#[48, 32, 61, 61, 32, 105, 32, 45, 32, 51]⟩ by decide +kernel] at T
  exact T
end Go.Proofs.YtbicmlkjonaccaaDoor.Ln


namespace Go.Proofs.YtbicmlkjonaccaaDoor.Ln
open Go.ChangeShapes Go.WideShapes Go.ChangeAt Go.RowKit
open Go.Proofs.YtbicmlkjonaccaaDoor.Nm
set_option linter.unusedVariables false
set_option linter.unusedSimpArgs false
set_option maxRecDepth 8000

set_option maxRecDepth 100000 in
set_option maxHeartbeats 8000000 in
theorem exam6 (w : World) (hL : Hid (∀ w', Below w.heap.size w w' → LA w')) : Calls Tryd.prog 21 #[] w fun e w' => e = .returned (.bool true) ∧ Below w.heap.size w w' := by
  have F1 := Lib.hid fun w => form2 (-3) 2 4 w (by decide) (by decide) (by decide) (by decide)
  have F2 := Lib.hid fun w => form1 (-3) 2 w (by decide) (by decide)
  have F3 := Lib.hid fun w => form1 (-3) 1 w (by decide) (by decide)
  have F4 := Lib.hid fun w => form1 0 1 w (by decide) (by decide)
  have F5 := Lib.hid fun w => form1 (-2) 1 w (by decide) (by decide)
  have T1 := Lib.hid fun p c w h => ti1 p c w h
  have T2 := Lib.hid fun p c w h => ti2 p c w h
  have N1 := Lib.hid fun p c w h => ni1 p c w h
  have O1 := Lib.hid fun p c w h => no1 p c w h
  have G1 := Lib.hid fun w => form2 (-2) 1 2 w (by decide) (by decide) (by decide) (by decide)
  have G2 := Lib.hid fun w => form0 (-1) w
  have G3 := Lib.hid fun w => form1 2 (-1) w (by decide) (by decide)
  have G4 := Lib.hid fun w => form1 (-2) 1 w (by decide) (by decide)
  have G5 := Lib.hid fun w => form1 (-3) 1 w (by decide) (by decide)
  have C1 : Hid (∀ p q c d w, Hid (SlM w p [mI 1, mJ 2]) → Hid (SlM w q [mI 1, mJ 2]) → Calls Tryd.prog 30 #[Cv (-2) p 2 c false, Cv (-2) q 2 d false] w fun e w' => e = .returned (.bool true) ∧ Below w.heap.size w w') := Lib.hid fun p q c d w h1 h2 => conEq (-2) p q [mI 1, mJ 2] c d false w (by decide) h1 h2
  have C2 : Hid (∀ p q c d w, Hid (SlM w p []) → Hid (SlM w q []) → Calls Tryd.prog 30 #[Cv (-1) p 0 c false, Cv (-1) q 0 d false] w fun e w' => e = .returned (.bool true) ∧ Below w.heap.size w w') := Lib.hid fun p q c d w h1 h2 => conEq (-1) p q [] c d false w (by decide) h1 h2
  have C3 : Hid (∀ p q c d w, Hid (SlM w p [mI (-1)]) → Hid (SlM w q [mI (-1)]) → Calls Tryd.prog 30 #[Cv 2 p 1 c false, Cv 2 q 1 d false] w fun e w' => e = .returned (.bool true) ∧ Below w.heap.size w w') := Lib.hid fun p q c d w h1 h2 => conEq 2 p q [mI (-1)] c d false w (by decide) h1 h2
  have C4 : Hid (∀ p q c d w, Hid (SlM w p [mI 1]) → Hid (SlM w q [mI 1]) → Calls Tryd.prog 30 #[Cv (-2) p 1 c false, Cv (-2) q 1 d false] w fun e w' => e = .returned (.bool true) ∧ Below w.heap.size w w') := Lib.hid fun p q c d w h1 h2 => conEq (-2) p q [mI 1] c d false w (by decide) h1 h2
  have FM := Lib.hid fun p c w h l => fo1 p c w h l
  unfold Cv at *
  go_enter Tryd.func21, Tryd.ntmps21
  have BW : Below w.heap.size w w := Below.refl _ _
  go_wp2_with fail
  refine (F1.out _).mono ?_
  rintro e u1 ⟨p1, c1, rfl, _, S1, hb⟩
  (try unfold Lv); (try unfold Cv); (try dsimp only [List.length_cons, List.length_nil]); (try dsimp only)
  replace BW := BW.trans (hb.mono BW.size)
  go_wp2_with fail
  refine (T1.out _ _ _ S1).mono ?_
  rintro e u2 ⟨q1, d1, rfl, S2, _, hb⟩
  (try unfold Lv); (try unfold Cv); (try dsimp only [List.length_cons, List.length_nil]); (try dsimp only)
  replace BW := BW.trans (hb.mono BW.size)
  go_wp2_with fail
  have a1_0 : (u2.alloc (Obj.cells #[Value.int .i64 (-2), Value.slice q1 2 d1, Value.bool false] 36)).cell? ⟨u2.heap.size, 0, none⟩ = some (.int .i64 (-2)) := by go_cell
  have a1_1 : (u2.alloc (Obj.cells #[Value.int .i64 (-2), Value.slice q1 2 d1, Value.bool false] 36)).cell? ⟨u2.heap.size, 1, none⟩ = some (.slice q1 2 d1) := by go_cell
  have a1_2 : (u2.alloc (Obj.cells #[Value.int .i64 (-2), Value.slice q1 2 d1, Value.bool false] 36)).cell? ⟨u2.heap.size, 2, none⟩ = some (.bool false) := by go_cell
  have S2 := SlM.keep ((Below.refl u2.heap.size u2).alloc (Nat.le_refl _) (Obj.cells #[Value.int .i64 (-2), Value.slice q1 2 d1, Value.bool false] 36)) S2
  replace BW := BW.alloc BW.size (Obj.cells #[Value.int .i64 (-2), Value.slice q1 2 d1, Value.bool false] 36)
  have K1 : Below (u2.alloc (Obj.cells #[Value.int .i64 (-2), Value.slice q1 2 d1, Value.bool false] 36)).heap.size (u2.alloc (Obj.cells #[Value.int .i64 (-2), Value.slice q1 2 d1, Value.bool false] 36)) (u2.alloc (Obj.cells #[Value.int .i64 (-2), Value.slice q1 2 d1, Value.bool false] 36)) := Below.refl _ _
  have lt1 : u2.heap.size < (u2.alloc (Obj.cells #[Value.int .i64 (-2), Value.slice q1 2 d1, Value.bool false] 36)).heap.size := by simp
  generalize u2.alloc (Obj.cells #[Value.int .i64 (-2), Value.slice q1 2 d1, Value.bool false] 36) = z1 at *
  refine (F2.out _).mono ?_
  rintro e u3 ⟨p3, c3, rfl, _, S3, hb⟩
  (try unfold Lv); (try unfold Cv); (try dsimp only [List.length_cons, List.length_nil]); (try dsimp only)
  replace BW := BW.trans (hb.mono BW.size)
  replace K1 := K1.trans (hb.mono K1.size)
  go_wp2_with fail
  refine (T2.out _ _ _ S3).mono ?_
  rintro e u4 ⟨q2, d2, rfl, S4, _, hb⟩
  (try unfold Lv); (try unfold Cv); (try dsimp only [List.length_cons, List.length_nil]); (try dsimp only)
  replace BW := BW.trans (hb.mono BW.size)
  replace K1 := K1.trans (hb.mono K1.size)
  go_wp2_with fail
  have a2_0 : (u4.alloc (Obj.cells #[Value.int .i64 (-1), Value.slice q2 0 d2, Value.bool false] 36)).cell? ⟨u4.heap.size, 0, none⟩ = some (.int .i64 (-1)) := by go_cell
  have a2_1 : (u4.alloc (Obj.cells #[Value.int .i64 (-1), Value.slice q2 0 d2, Value.bool false] 36)).cell? ⟨u4.heap.size, 1, none⟩ = some (.slice q2 0 d2) := by go_cell
  have a2_2 : (u4.alloc (Obj.cells #[Value.int .i64 (-1), Value.slice q2 0 d2, Value.bool false] 36)).cell? ⟨u4.heap.size, 2, none⟩ = some (.bool false) := by go_cell
  replace BW := BW.alloc BW.size (Obj.cells #[Value.int .i64 (-1), Value.slice q2 0 d2, Value.bool false] 36)
  replace K1 := K1.alloc K1.size (Obj.cells #[Value.int .i64 (-1), Value.slice q2 0 d2, Value.bool false] 36)
  have K2 : Below (u4.alloc (Obj.cells #[Value.int .i64 (-1), Value.slice q2 0 d2, Value.bool false] 36)).heap.size (u4.alloc (Obj.cells #[Value.int .i64 (-1), Value.slice q2 0 d2, Value.bool false] 36)) (u4.alloc (Obj.cells #[Value.int .i64 (-1), Value.slice q2 0 d2, Value.bool false] 36)) := Below.refl _ _
  have lt2 : u4.heap.size < (u4.alloc (Obj.cells #[Value.int .i64 (-1), Value.slice q2 0 d2, Value.bool false] 36)).heap.size := by simp
  generalize u4.alloc (Obj.cells #[Value.int .i64 (-1), Value.slice q2 0 d2, Value.bool false] 36) = z2 at *
  refine (F3.out _).mono ?_
  rintro e u5 ⟨p5', c5', rfl, _, S5, hb⟩
  (try unfold Lv); (try unfold Cv); (try dsimp only [List.length_cons, List.length_nil]); (try dsimp only)
  replace BW := BW.trans (hb.mono BW.size)
  replace K1 := K1.trans (hb.mono K1.size)
  replace K2 := K2.trans (hb.mono K2.size)
  go_wp2_with fail
  refine (N1.out _ _ _ S5).mono ?_
  rintro e u6 ⟨g6, q6, d6, rfl, n0, n1, n2, S6, hb⟩
  (try unfold Lv); (try unfold Cv); (try dsimp only [List.length_cons, List.length_nil]); (try dsimp only)
  replace BW := BW.trans (hb.mono BW.size)
  replace K1 := K1.trans (hb.mono K1.size)
  replace K2 := K2.trans (hb.mono K2.size)
  have K3 : Below u6.heap.size u6 u6 := Below.refl _ _
  go_wp2_with fail
  refine (F4.out _).mono ?_
  rintro e u7 ⟨p4, c4, rfl, _, S7, hb⟩
  (try unfold Lv); (try unfold Cv); (try dsimp only [List.length_cons, List.length_nil]); (try dsimp only)
  replace BW := BW.trans (hb.mono BW.size)
  replace K1 := K1.trans (hb.mono K1.size)
  replace K2 := K2.trans (hb.mono K2.size)
  replace K3 := K3.trans (hb.mono K3.size)
  have K4 : Below u7.heap.size u7 u7 := Below.refl _ _
  go_wp2_with fail
  refine (F5.out _).mono ?_
  rintro e u8 ⟨p5, c5, rfl, _, S8, hb⟩
  (try unfold Lv); (try unfold Cv); (try dsimp only [List.length_cons, List.length_nil]); (try dsimp only)
  replace BW := BW.trans (hb.mono BW.size)
  replace K1 := K1.trans (hb.mono K1.size)
  replace K2 := K2.trans (hb.mono K2.size)
  replace K3 := K3.trans (hb.mono K3.size)
  replace K4 := K4.trans (hb.mono K4.size)
  go_wp2_with fail
  have SC : SlC (u8.alloc (Obj.cells #[Value.int .i64 0, Value.slice p4 1 c4, Value.bool false, Value.int .i64 (-2), Value.slice p5 1 c5, Value.bool false] 36)) (some ⟨u8.heap.size, 0, none⟩) [(0, [mI 1]), (-2, [mI 1])] := fun i hi => by
    rcases i with _ | _ | i
    · exact ⟨u8.heap.size, 0, p4, c4, rfl, by simp, by simp, by simp, SlM.keep (K4.alloc K4.size _) S7⟩
    · exact ⟨u8.heap.size, 0, p5, c5, rfl, by simp, by simp, by simp, SlM.keep ((Below.refl _ _).alloc (Nat.le_refl _) _) S8⟩
    · exact absurd (show i + 2 < 2 from hi) (by omega)
  replace BW := BW.alloc BW.size (Obj.cells #[Value.int .i64 0, Value.slice p4 1 c4, Value.bool false, Value.int .i64 (-2), Value.slice p5 1 c5, Value.bool false] 36)
  replace K1 := K1.alloc K1.size (Obj.cells #[Value.int .i64 0, Value.slice p4 1 c4, Value.bool false, Value.int .i64 (-2), Value.slice p5 1 c5, Value.bool false] 36)
  replace K2 := K2.alloc K2.size (Obj.cells #[Value.int .i64 0, Value.slice p4 1 c4, Value.bool false, Value.int .i64 (-2), Value.slice p5 1 c5, Value.bool false] 36)
  replace K3 := K3.alloc K3.size (Obj.cells #[Value.int .i64 0, Value.slice p4 1 c4, Value.bool false, Value.int .i64 (-2), Value.slice p5 1 c5, Value.bool false] 36)
  replace K4 := K4.alloc K4.size (Obj.cells #[Value.int .i64 0, Value.slice p4 1 c4, Value.bool false, Value.int .i64 (-2), Value.slice p5 1 c5, Value.bool false] 36)
  refine (O1.out _ _ _ SC).mono ?_
  rintro e u9 ⟨g9, c9, q9, d9, rfl, m0, m1, m2, S9, hb⟩
  (try unfold Lv); (try unfold Cv); (try dsimp only [List.length_cons, List.length_nil]); (try dsimp only)
  replace BW := BW.trans (hb.mono BW.size)
  replace K1 := K1.trans (hb.mono K1.size)
  replace K2 := K2.trans (hb.mono K2.size)
  replace K3 := K3.trans (hb.mono K3.size)
  replace K4 := K4.trans (hb.mono K4.size)
  clear S1 S3 S5 S7 S8 SC K4
  replace a1_0 := Rg.keep K1 lt1 a1_0
  replace a1_1 := Rg.keep K1 lt1 a1_1
  replace a1_2 := Rg.keep K1 lt1 a1_2
  replace a2_0 := Rg.keep K2 lt2 a2_0
  replace a2_1 := Rg.keep K2 lt2 a2_1
  replace a2_2 := Rg.keep K2 lt2 a2_2
  have lg6 : g6 < u6.heap.size := World.block_lt_of_cell? _ _ n0
  replace n0 := Rg.keep K3 lg6 n0
  replace n1 := Rg.keep K3 lg6 n1
  replace n2 := Rg.keep K3 lg6 n2
  have R1 := Lib.hid (SlM.keep K1 S2)
  have R2 : ∀ z, SlM z q2 [] := fun z i hi => absurd hi (by simp)
  have R3 := Lib.hid (SlM.keep K3 S6)
  have R4 := Lib.hid S9
  have HW := Lib.hid BW
  clear S2 S4 S6 S9 K1 K2 K3 BW hb lt1 lt2 lg6
  have HS : Hid (∀ u u' : World, (u.cell? ⟨u2.heap.size, 0, none⟩ = some (.int .i64 (-2)) ∧ u.cell? ⟨u2.heap.size, 1, none⟩ = some (.slice q1 2 d1) ∧ u.cell? ⟨u2.heap.size, 2, none⟩ = some (.bool false) ∧ u.cell? ⟨u4.heap.size, 0, none⟩ = some (.int .i64 (-1)) ∧ u.cell? ⟨u4.heap.size, 1, none⟩ = some (.slice q2 0 d2) ∧ u.cell? ⟨u4.heap.size, 2, none⟩ = some (.bool false) ∧ u.cell? ⟨g6, 0, none⟩ = some (.int .i64 2) ∧ u.cell? ⟨g6, 1, none⟩ = some (.slice q6 1 d6) ∧ u.cell? ⟨g6, 2, none⟩ = some (.bool false) ∧ u.cell? ⟨g9, 0, none⟩ = some (.int .i64 (-2)) ∧ u.cell? ⟨g9, 1, none⟩ = some (.slice q9 1 d9) ∧ u.cell? ⟨g9, 2, none⟩ = some (.bool false) ∧ Below u9.heap.size u9 u) → Below u.heap.size u u' → (u'.cell? ⟨u2.heap.size, 0, none⟩ = some (.int .i64 (-2)) ∧ u'.cell? ⟨u2.heap.size, 1, none⟩ = some (.slice q1 2 d1) ∧ u'.cell? ⟨u2.heap.size, 2, none⟩ = some (.bool false) ∧ u'.cell? ⟨u4.heap.size, 0, none⟩ = some (.int .i64 (-1)) ∧ u'.cell? ⟨u4.heap.size, 1, none⟩ = some (.slice q2 0 d2) ∧ u'.cell? ⟨u4.heap.size, 2, none⟩ = some (.bool false) ∧ u'.cell? ⟨g6, 0, none⟩ = some (.int .i64 2) ∧ u'.cell? ⟨g6, 1, none⟩ = some (.slice q6 1 d6) ∧ u'.cell? ⟨g6, 2, none⟩ = some (.bool false) ∧ u'.cell? ⟨g9, 0, none⟩ = some (.int .i64 (-2)) ∧ u'.cell? ⟨g9, 1, none⟩ = some (.slice q9 1 d9) ∧ u'.cell? ⟨g9, 2, none⟩ = some (.bool false) ∧ Below u9.heap.size u9 u')) := Lib.hid (fun u u' h hb => ⟨Rg.keep hb (World.block_lt_of_cell? _ _ h.1) h.1, Rg.keep hb (World.block_lt_of_cell? _ _ h.2.1) h.2.1, Rg.keep hb (World.block_lt_of_cell? _ _ h.2.2.1) h.2.2.1, Rg.keep hb (World.block_lt_of_cell? _ _ h.2.2.2.1) h.2.2.2.1, Rg.keep hb (World.block_lt_of_cell? _ _ h.2.2.2.2.1) h.2.2.2.2.1, Rg.keep hb (World.block_lt_of_cell? _ _ h.2.2.2.2.2.1) h.2.2.2.2.2.1, Rg.keep hb (World.block_lt_of_cell? _ _ h.2.2.2.2.2.2.1) h.2.2.2.2.2.2.1, Rg.keep hb (World.block_lt_of_cell? _ _ h.2.2.2.2.2.2.2.1) h.2.2.2.2.2.2.2.1, Rg.keep hb (World.block_lt_of_cell? _ _ h.2.2.2.2.2.2.2.2.1) h.2.2.2.2.2.2.2.2.1, Rg.keep hb (World.block_lt_of_cell? _ _ h.2.2.2.2.2.2.2.2.2.1) h.2.2.2.2.2.2.2.2.2.1, Rg.keep hb (World.block_lt_of_cell? _ _ h.2.2.2.2.2.2.2.2.2.2.1) h.2.2.2.2.2.2.2.2.2.2.1, Rg.keep hb (World.block_lt_of_cell? _ _ h.2.2.2.2.2.2.2.2.2.2.2.1) h.2.2.2.2.2.2.2.2.2.2.2.1, h.2.2.2.2.2.2.2.2.2.2.2.2.trans (hb.mono h.2.2.2.2.2.2.2.2.2.2.2.2.size)⟩)
  go_wp2_with fail
  refine Rk.begin (S := fun wS => wS.cell? ⟨u2.heap.size, 0, none⟩ = some (.int .i64 (-2)) ∧ wS.cell? ⟨u2.heap.size, 1, none⟩ = some (.slice q1 2 d1) ∧ wS.cell? ⟨u2.heap.size, 2, none⟩ = some (.bool false) ∧ wS.cell? ⟨u4.heap.size, 0, none⟩ = some (.int .i64 (-1)) ∧ wS.cell? ⟨u4.heap.size, 1, none⟩ = some (.slice q2 0 d2) ∧ wS.cell? ⟨u4.heap.size, 2, none⟩ = some (.bool false) ∧ wS.cell? ⟨g6, 0, none⟩ = some (.int .i64 2) ∧ wS.cell? ⟨g6, 1, none⟩ = some (.slice q6 1 d6) ∧ wS.cell? ⟨g6, 2, none⟩ = some (.bool false) ∧ wS.cell? ⟨g9, 0, none⟩ = some (.int .i64 (-2)) ∧ wS.cell? ⟨g9, 1, none⟩ = some (.slice q9 1 d9) ∧ wS.cell? ⟨g9, 2, none⟩ = some (.bool false) ∧ Below u9.heap.size u9 wS) 40 (by kernel_rfl) ⟨a1_0, a1_1, a1_2, a2_0, a2_1, a2_2, n0, n1, n2, m0, m1, m2, (Below.refl _ _).drew⟩ (fun hHeld => ?_)
  refine Rk.takeP (i := 0) (v := ?_) rfl (by kernel_rfl) (by kernel_rfl) (by kernel_rfl) (by kernel_rfl) (fun _ _ _ h => h) (Or.inl ⟨by kernel_rfl, ?_⟩) (by assumption) ?_
  rotate_left
  · ((intro w hSw; go_simp) <;> with_reducible rfl)
  try simp only [Act.put, List.setIfInBounds_toArray, List.set_cons_zero, List.set_cons_succ]
  refine Rk.takeP (i := 1) (v := ?_) rfl (by kernel_rfl) (by kernel_rfl) (by kernel_rfl) (by kernel_rfl) (fun _ _ _ h => h) (Or.inl ⟨by kernel_rfl, ?_⟩) (by assumption) ?_
  rotate_left
  · ((intro w hSw; go_simp) <;> with_reducible rfl)
  try simp only [Act.put, List.setIfInBounds_toArray, List.set_cons_zero, List.set_cons_succ]
  refine Rk.takeP (i := 2) (v := ?_) rfl (by kernel_rfl) (by kernel_rfl) (by kernel_rfl) (by kernel_rfl) (fun _ _ _ h => h) (Or.inl ⟨by kernel_rfl, ?_⟩) (by assumption) ?_
  rotate_left
  · ((intro w hSw; go_simp) <;> with_reducible rfl)
  try simp only [Act.put, List.setIfInBounds_toArray, List.set_cons_zero, List.set_cons_succ]
  refine Rk.takeP (i := 3) (v := ?_) rfl (by kernel_rfl) (by kernel_rfl) (by kernel_rfl) (by kernel_rfl) (fun _ _ _ h => h) (Or.inl ⟨by kernel_rfl, ?_⟩) (by assumption) ?_
  rotate_left
  · ((intro w hSw; go_simp) <;> with_reducible rfl)
  try simp only [Act.put, List.setIfInBounds_toArray, List.set_cons_zero, List.set_cons_succ]
  refine Rk.takeP (i := 4) (v := ?_) rfl (by kernel_rfl) (by kernel_rfl) (by kernel_rfl) (by kernel_rfl) (fun _ _ _ h => h) (Or.inl ⟨by kernel_rfl, ?_⟩) (by assumption) ?_
  rotate_left
  · ((intro w hSw; go_simp) <;> with_reducible rfl)
  try simp only [Act.put, List.setIfInBounds_toArray, List.set_cons_zero, List.set_cons_succ]
  refine Rk.takeP (i := 5) (v := ?_) rfl (by kernel_rfl) (by kernel_rfl) (by kernel_rfl) (by kernel_rfl) (fun _ _ _ h => h) (Or.inl ⟨by kernel_rfl, ?_⟩) (by assumption) ?_
  rotate_left
  · ((intro w hSw; go_simp) <;> with_reducible rfl)
  try simp only [Act.put, List.setIfInBounds_toArray, List.set_cons_zero, List.set_cons_succ]
  refine Rk.takeP (i := 6) (v := ?_) rfl (by kernel_rfl) (by kernel_rfl) (by kernel_rfl) (by kernel_rfl) (fun _ _ _ h => h) (Or.inl ⟨by kernel_rfl, ?_⟩) (by assumption) ?_
  rotate_left
  · ((intro w hSw; go_simp) <;> with_reducible rfl)
  try simp only [Act.put, List.setIfInBounds_toArray, List.set_cons_zero, List.set_cons_succ]
  refine Rk.take [40] (i := 7) (v := ?_) rfl (by kernel_rfl) (by kernel_rfl) (by kernel_rfl) (by kernel_rfl) (by kernel_rfl) (fun _ _ _ h => h) (Or.inl ⟨by kernel_rfl, ?_⟩) (by assumption) ?_
  rotate_left
  · ((intro w hSw; (try dsimp only at hSw); go_simp) <;> with_reducible rfl)
  try simp only [Act.put, List.setIfInBounds_toArray, List.set_cons_zero, List.set_cons_succ]
  refine Rk.one (i := 8) (by kernel_rfl) rfl (fun KK hK => ?_)
  rw [if_pos (by kernel_rfl)]
  go_simp
  ((with_reducible refine (G1.out _).mono ?_); rintro e v8 ⟨x8, k8, rfl, _, V8, hb⟩)
  ((try unfold Lv); (try dsimp only [List.length_cons, List.length_nil]))
  first | (refine hK.out _ _ (fun _ => HS.out _ _ hHeld (hb)) (fun hHeld => ?_)) | (refine hK.out _ _ (HS.out _ _ hHeld (hb)) (fun hHeld => ?_)) | (go_wp2_with fail; refine hK.out _ _ (HS.out _ _ hHeld (hb)) (fun hHeld => ?_))
  clear hK KK
  refine Rk.takeP (i := 9) (v := ?_) rfl (by kernel_rfl) (by kernel_rfl) (by kernel_rfl) (by kernel_rfl) (fun _ _ _ h => h) (Or.inl ⟨by kernel_rfl, ?_⟩) (by assumption) ?_
  rotate_left
  · ((intro w hSw; go_simp) <;> with_reducible rfl)
  try simp only [Act.put, List.setIfInBounds_toArray, List.set_cons_zero, List.set_cons_succ]
  refine Rk.one (i := 10) (by kernel_rfl) rfl (fun KK hK => ?_)
  rw [if_pos (by kernel_rfl)]
  go_simp
  ((with_reducible refine (C1.out q1 x8 d1 k8 _ (Lib.hid (SlM.keep hHeld.2.2.2.2.2.2.2.2.2.2.2.2 R1.out)) (Lib.hid V8)).mono ?_); rintro e v10 ⟨rfl, hb⟩)
  first | (refine hK.out _ _ (fun _ => HS.out _ _ hHeld (hb)) (fun hHeld => ?_)) | (refine hK.out _ _ (HS.out _ _ hHeld (hb)) (fun hHeld => ?_)) | (go_wp2_with fail; refine hK.out _ _ (HS.out _ _ hHeld (hb)) (fun hHeld => ?_))
  clear hK KK
  refine Rk.takeP (i := 11) (v := ?_) rfl (by kernel_rfl) (by kernel_rfl) (by kernel_rfl) (by kernel_rfl) (fun _ _ _ h => h) (Or.inl ⟨by kernel_rfl, ?_⟩) (by assumption) ?_
  rotate_left
  · ((intro w hSw; go_simp) <;> with_reducible rfl)
  try simp only [Act.put, List.setIfInBounds_toArray, List.set_cons_zero, List.set_cons_succ]
  refine Rk.takeP (i := 12) (v := ?_) rfl (by kernel_rfl) (by kernel_rfl) (by kernel_rfl) (by kernel_rfl) (fun _ _ _ h => h) (Or.inl ⟨by kernel_rfl, ?_⟩) (by assumption) ?_
  rotate_left
  · ((intro w hSw; go_simp) <;> with_reducible rfl)
  try simp only [Act.put, List.setIfInBounds_toArray, List.set_cons_zero, List.set_cons_succ]
  refine Rk.take [40] (i := 13) (v := ?_) rfl (by kernel_rfl) (by kernel_rfl) (by kernel_rfl) (by kernel_rfl) (by kernel_rfl) (fun _ _ _ h => h) (Or.inl ⟨by kernel_rfl, ?_⟩) (by assumption) ?_
  rotate_left
  · ((intro w hSw; (try dsimp only at hSw); go_simp) <;> with_reducible rfl)
  try simp only [Act.put, List.setIfInBounds_toArray, List.set_cons_zero, List.set_cons_succ]
  refine Rk.one (i := 14) (by kernel_rfl) rfl (fun KK hK => ?_)
  rw [if_pos (by kernel_rfl)]
  go_simp
  ((with_reducible refine (G2.out _).mono ?_); rintro e v14 ⟨x14, k14, rfl, _, V14, hb⟩)
  ((try unfold Lv); (try dsimp only [List.length_cons, List.length_nil]))
  first | (refine hK.out _ _ (fun _ => HS.out _ _ hHeld (hb)) (fun hHeld => ?_)) | (refine hK.out _ _ (HS.out _ _ hHeld (hb)) (fun hHeld => ?_)) | (go_wp2_with fail; refine hK.out _ _ (HS.out _ _ hHeld (hb)) (fun hHeld => ?_))
  clear hK KK
  refine Rk.takeP (i := 15) (v := ?_) rfl (by kernel_rfl) (by kernel_rfl) (by kernel_rfl) (by kernel_rfl) (fun _ _ _ h => h) (Or.inl ⟨by kernel_rfl, ?_⟩) (by assumption) ?_
  rotate_left
  · ((intro w hSw; go_simp) <;> with_reducible rfl)
  try simp only [Act.put, List.setIfInBounds_toArray, List.set_cons_zero, List.set_cons_succ]
  refine Rk.one (i := 16) (by kernel_rfl) rfl (fun KK hK => ?_)
  rw [if_pos (by kernel_rfl)]
  go_simp
  ((with_reducible refine (C2.out q2 x14 d2 k14 _ (Lib.hid (R2 _)) (Lib.hid V14)).mono ?_); rintro e v16 ⟨rfl, hb⟩)
  first | (refine hK.out _ _ (fun _ => HS.out _ _ hHeld (hb)) (fun hHeld => ?_)) | (refine hK.out _ _ (HS.out _ _ hHeld (hb)) (fun hHeld => ?_)) | (go_wp2_with fail; refine hK.out _ _ (HS.out _ _ hHeld (hb)) (fun hHeld => ?_))
  clear hK KK
  refine Rk.takeP (i := 17) (v := ?_) rfl (by kernel_rfl) (by kernel_rfl) (by kernel_rfl) (by kernel_rfl) (fun _ _ _ h => h) (Or.inl ⟨by kernel_rfl, ?_⟩) (by assumption) ?_
  rotate_left
  · ((intro w hSw; go_simp) <;> with_reducible rfl)
  try simp only [Act.put, List.setIfInBounds_toArray, List.set_cons_zero, List.set_cons_succ]
  refine Rk.takeP (i := 18) (v := ?_) rfl (by kernel_rfl) (by kernel_rfl) (by kernel_rfl) (by kernel_rfl) (fun _ _ _ h => h) (Or.inl ⟨by kernel_rfl, ?_⟩) (by assumption) ?_
  rotate_left
  · ((intro w hSw; go_simp) <;> with_reducible rfl)
  try simp only [Act.put, List.setIfInBounds_toArray, List.set_cons_zero, List.set_cons_succ]
  refine Rk.takeP (i := 19) (v := ?_) rfl (by kernel_rfl) (by kernel_rfl) (by kernel_rfl) (by kernel_rfl) (fun _ _ _ h => h) (Or.inl ⟨by kernel_rfl, ?_⟩) (by assumption) ?_
  rotate_left
  · ((intro w hSw; go_simp) <;> with_reducible rfl)
  try simp only [Act.put, List.setIfInBounds_toArray, List.set_cons_zero, List.set_cons_succ]
  refine Rk.takeP (i := 20) (v := ?_) rfl (by kernel_rfl) (by kernel_rfl) (by kernel_rfl) (by kernel_rfl) (fun _ _ _ h => h) (Or.inl ⟨by kernel_rfl, ?_⟩) (by assumption) ?_
  rotate_left
  · ((intro w hSw; go_simp) <;> with_reducible rfl)
  try simp only [Act.put, List.setIfInBounds_toArray, List.set_cons_zero, List.set_cons_succ]
  refine Rk.take [40] (i := 21) (v := ?_) rfl (by kernel_rfl) (by kernel_rfl) (by kernel_rfl) (by kernel_rfl) (by kernel_rfl) (fun _ _ _ h => h) (Or.inl ⟨by kernel_rfl, ?_⟩) (by assumption) ?_
  rotate_left
  · ((intro w hSw; (try dsimp only at hSw); go_simp) <;> with_reducible rfl)
  try simp only [Act.put, List.setIfInBounds_toArray, List.set_cons_zero, List.set_cons_succ]
  refine Rk.one (i := 22) (by kernel_rfl) rfl (fun KK hK => ?_)
  rw [if_pos (by kernel_rfl)]
  go_simp
  ((with_reducible refine (G3.out _).mono ?_); rintro e v22 ⟨x22, k22, rfl, _, V22, hb⟩)
  ((try unfold Lv); (try dsimp only [List.length_cons, List.length_nil]))
  first | (refine hK.out _ _ (fun _ => HS.out _ _ hHeld (hb)) (fun hHeld => ?_)) | (refine hK.out _ _ (HS.out _ _ hHeld (hb)) (fun hHeld => ?_)) | (go_wp2_with fail; refine hK.out _ _ (HS.out _ _ hHeld (hb)) (fun hHeld => ?_))
  clear hK KK
  refine Rk.takeP (i := 23) (v := ?_) rfl (by kernel_rfl) (by kernel_rfl) (by kernel_rfl) (by kernel_rfl) (fun _ _ _ h => h) (Or.inl ⟨by kernel_rfl, ?_⟩) (by assumption) ?_
  rotate_left
  · ((intro w hSw; go_simp) <;> with_reducible rfl)
  try simp only [Act.put, List.setIfInBounds_toArray, List.set_cons_zero, List.set_cons_succ]
  refine Rk.one (i := 24) (by kernel_rfl) rfl (fun KK hK => ?_)
  rw [if_pos (by kernel_rfl)]
  go_simp
  ((with_reducible refine (C3.out q6 x22 d6 k22 _ (Lib.hid (SlM.keep hHeld.2.2.2.2.2.2.2.2.2.2.2.2 R3.out)) (Lib.hid V22)).mono ?_); rintro e v24 ⟨rfl, hb⟩)
  first | (refine hK.out _ _ (fun _ => HS.out _ _ hHeld (hb)) (fun hHeld => ?_)) | (refine hK.out _ _ (HS.out _ _ hHeld (hb)) (fun hHeld => ?_)) | (go_wp2_with fail; refine hK.out _ _ (HS.out _ _ hHeld (hb)) (fun hHeld => ?_))
  clear hK KK
  refine Rk.takeP (i := 25) (v := ?_) rfl (by kernel_rfl) (by kernel_rfl) (by kernel_rfl) (by kernel_rfl) (fun _ _ _ h => h) (Or.inl ⟨by kernel_rfl, ?_⟩) (by assumption) ?_
  rotate_left
  · ((intro w hSw; go_simp) <;> with_reducible rfl)
  try simp only [Act.put, List.setIfInBounds_toArray, List.set_cons_zero, List.set_cons_succ]
  refine Rk.takeP (i := 26) (v := ?_) rfl (by kernel_rfl) (by kernel_rfl) (by kernel_rfl) (by kernel_rfl) (fun _ _ _ h => h) (Or.inl ⟨by kernel_rfl, ?_⟩) (by assumption) ?_
  rotate_left
  · ((intro w hSw; go_simp) <;> with_reducible rfl)
  try simp only [Act.put, List.setIfInBounds_toArray, List.set_cons_zero, List.set_cons_succ]
  refine Rk.takeP (i := 27) (v := ?_) rfl (by kernel_rfl) (by kernel_rfl) (by kernel_rfl) (by kernel_rfl) (fun _ _ _ h => h) (Or.inl ⟨by kernel_rfl, ?_⟩) (by assumption) ?_
  rotate_left
  · ((intro w hSw; go_simp) <;> with_reducible rfl)
  try simp only [Act.put, List.setIfInBounds_toArray, List.set_cons_zero, List.set_cons_succ]
  refine Rk.takeP (i := 28) (v := ?_) rfl (by kernel_rfl) (by kernel_rfl) (by kernel_rfl) (by kernel_rfl) (fun _ _ _ h => h) (Or.inl ⟨by kernel_rfl, ?_⟩) (by assumption) ?_
  rotate_left
  · ((intro w hSw; go_simp) <;> with_reducible rfl)
  try simp only [Act.put, List.setIfInBounds_toArray, List.set_cons_zero, List.set_cons_succ]
  refine Rk.take [40] (i := 29) (v := ?_) rfl (by kernel_rfl) (by kernel_rfl) (by kernel_rfl) (by kernel_rfl) (by kernel_rfl) (fun _ _ _ h => h) (Or.inl ⟨by kernel_rfl, ?_⟩) (by assumption) ?_
  rotate_left
  · ((intro w hSw; (try dsimp only at hSw); go_simp) <;> with_reducible rfl)
  try simp only [Act.put, List.setIfInBounds_toArray, List.set_cons_zero, List.set_cons_succ]
  refine Rk.one (i := 30) (by kernel_rfl) rfl (fun KK hK => ?_)
  rw [if_pos (by kernel_rfl)]
  go_simp
  ((with_reducible refine (G4.out _).mono ?_); rintro e v30 ⟨x30, k30, rfl, _, V30, hb⟩)
  ((try unfold Lv); (try dsimp only [List.length_cons, List.length_nil]))
  first | (refine hK.out _ _ (fun _ => HS.out _ _ hHeld (hb)) (fun hHeld => ?_)) | (refine hK.out _ _ (HS.out _ _ hHeld (hb)) (fun hHeld => ?_)) | (go_wp2_with fail; refine hK.out _ _ (HS.out _ _ hHeld (hb)) (fun hHeld => ?_))
  clear hK KK
  refine Rk.takeP (i := 31) (v := ?_) rfl (by kernel_rfl) (by kernel_rfl) (by kernel_rfl) (by kernel_rfl) (fun _ _ _ h => h) (Or.inl ⟨by kernel_rfl, ?_⟩) (by assumption) ?_
  rotate_left
  · ((intro w hSw; go_simp) <;> with_reducible rfl)
  try simp only [Act.put, List.setIfInBounds_toArray, List.set_cons_zero, List.set_cons_succ]
  refine Rk.one (i := 32) (by kernel_rfl) rfl (fun KK hK => ?_)
  rw [if_pos (by kernel_rfl)]
  go_simp
  ((with_reducible refine (C4.out q9 x30 d9 k30 _ (Lib.hid (SlM.keep hHeld.2.2.2.2.2.2.2.2.2.2.2.2 R4.out)) (Lib.hid V30)).mono ?_); rintro e v32 ⟨rfl, hb⟩)
  first | (refine hK.out _ _ (fun _ => HS.out _ _ hHeld (hb)) (fun hHeld => ?_)) | (refine hK.out _ _ (HS.out _ _ hHeld (hb)) (fun hHeld => ?_)) | (go_wp2_with fail; refine hK.out _ _ (HS.out _ _ hHeld (hb)) (fun hHeld => ?_))
  clear hK KK
  refine Rk.takeP (i := 33) (v := ?_) rfl (by kernel_rfl) (by kernel_rfl) (by kernel_rfl) (by kernel_rfl) (fun _ _ _ h => h) (Or.inl ⟨by kernel_rfl, ?_⟩) (by assumption) ?_
  rotate_left
  · ((intro w hSw; go_simp) <;> with_reducible rfl)
  try simp only [Act.put, List.setIfInBounds_toArray, List.set_cons_zero, List.set_cons_succ]
  refine Rk.takeP (i := 34) (v := ?_) rfl (by kernel_rfl) (by kernel_rfl) (by kernel_rfl) (by kernel_rfl) (fun _ _ _ h => h) (Or.inl ⟨by kernel_rfl, ?_⟩) (by assumption) ?_
  rotate_left
  · ((intro w hSw; go_simp) <;> with_reducible rfl)
  try simp only [Act.put, List.setIfInBounds_toArray, List.set_cons_zero, List.set_cons_succ]
  refine Rk.one (i := 35) (by kernel_rfl) rfl (fun KK hK => ?_)
  rw [if_pos (by kernel_rfl)]
  go_simp
  ((with_reducible refine (G5.out _).mono ?_); rintro e v35 ⟨x35, k35, rfl, _, V35, hb⟩)
  ((try unfold Lv); (try dsimp only [List.length_cons, List.length_nil]))
  first | (refine hK.out _ _ (fun _ => HS.out _ _ hHeld (hb)) (fun hHeld => ?_)) | (refine hK.out _ _ (HS.out _ _ hHeld (hb)) (fun hHeld => ?_)) | (go_wp2_with fail; refine hK.out _ _ (HS.out _ _ hHeld (hb)) (fun hHeld => ?_))
  clear hK KK
  refine Rk.takeP (i := 36) (v := ?_) rfl (by kernel_rfl) (by kernel_rfl) (by kernel_rfl) (by kernel_rfl) (fun _ _ _ h => h) (Or.inl ⟨by kernel_rfl, ?_⟩) (by assumption) ?_
  rotate_left
  · ((intro w hSw; go_simp) <;> with_reducible rfl)
  try simp only [Act.put, List.setIfInBounds_toArray, List.set_cons_zero, List.set_cons_succ]
  refine Rk.one (i := 37) (by kernel_rfl) rfl (fun KK hK => ?_)
  rw [if_pos (by kernel_rfl)]
  go_simp
  ((with_reducible refine (FM.out x35 k35 _ V35 (hL.out _ (HW.out.trans ((hHeld.2.2.2.2.2.2.2.2.2.2.2.2).mono HW.out.size)))).mono ?_); rintro e v37 ⟨rfl, hb⟩)
  first | (refine hK.out _ _ (fun _ => HS.out _ _ hHeld (hb)) (fun hHeld => ?_)) | (refine hK.out _ _ (HS.out _ _ hHeld (hb)) (fun hHeld => ?_)) | (go_wp2_with fail; refine hK.out _ _ (HS.out _ _ hHeld (hb)) (fun hHeld => ?_))
  clear hK KK
  refine Rk.takeP (i := 38) (v := ?_) rfl (by kernel_rfl) (by kernel_rfl) (by kernel_rfl) (by kernel_rfl) (fun _ _ _ h => h) (Or.inl ⟨by kernel_rfl, ?_⟩) (by assumption) ?_
  rotate_left
  · ((intro w hSw; go_simp) <;> with_reducible rfl)
  try simp only [Act.put, List.setIfInBounds_toArray, List.set_cons_zero, List.set_cons_succ]
  refine Rk.takeP (i := 39) (v := ?_) rfl (by kernel_rfl) (by kernel_rfl) (by kernel_rfl) (by kernel_rfl) (fun _ _ _ h => h) (Or.inl ⟨by kernel_rfl, ?_⟩) (by assumption) ?_
  rotate_left
  · ((intro w hSw; go_simp) <;> with_reducible rfl)
  try simp only [Act.put, List.setIfInBounds_toArray, List.set_cons_zero, List.set_cons_succ]
  refine Rk.tail [40] [_] (by kernel_rfl) (by kernel_rfl) rfl (by decide) ?_

  have KZ := HW.out.trans ((hHeld.2.2.2.2.2.2.2.2.2.2.2.2).mono HW.out.size)
  go_wp2_with fail
  go_ret
  exact ⟨rfl, KZ⟩
end Go.Proofs.YtbicmlkjonaccaaDoor.Ln


namespace Go.Proofs.YtbicmlkjonaccaaDoor.Ln
open Go.ChangeShapes Go.WideShapes Go.ChangeAt Go.RowKit
set_option linter.unusedVariables false
set_option linter.unusedSimpArgs false
theorem getD_memS {xs : List Mo} {j : Nat} (h : j < xs.length) : xs.getD j mo0 ∈ xs := by
  have e1 : xs.getD j mo0 = xs[j] := by unfold List.getD; rw [List.getElem?_eq_getElem h]; rfl
  rw [e1]
  exact List.getElem_mem h
theorem take_stepS {xs : List Mo} {j : Nat} (h : j < xs.length) : xs.take (j + 1) = xs.take j ++ [xs.getD j mo0] := by
  rw [List.take_succ_eq_append_getElem h]
  have e1 : xs.getD j mo0 = xs[j] := by unfold List.getD; rw [List.getElem?_eq_getElem h]; rfl
  rw [e1]
def smB (xs : List Mo) : Bool := decide (xs.length ≤ 40) && xs.all fun m => decide (m.1.size ≤ 40)
theorem smB_yes {xs : List Mo} (h : smB xs = true) : xs.length ≤ 40 ∧ ∀ m ∈ xs, m.1.size ≤ 40 := by
  unfold smB at h
  rw [Bool.and_eq_true, decide_eq_true_eq, List.all_eq_true] at h
  exact ⟨h.1, fun m hm => by simpa using h.2 m hm⟩
set_option maxRecDepth 100000 in
set_option maxHeartbeats 8000000 in
theorem small2 (k : Int) (p : Option Addr) (xs : List Mo) (c : Nat) (w : World) (hn : xs.length ≤ maxLen) (RA : Hid (SlM w p xs)) :
    Calls Tryd.prog 14 #[Lv k p xs.length c] w fun e w' => e = .returned (.bool (smB xs)) ∧ Below w.heap.size w w' := by
  have B0 : Below w.heap.size w (w.alloc (Obj.cells #[Value.int .i64 k, Value.slice p xs.length c] 24)) := (Below.refl _ _).alloc (Nat.le_refl _) _
  have f1 : ((w.alloc (Obj.cells #[Value.int .i64 k, Value.slice p xs.length c] 24))).cell? ⟨w.heap.size, 1, none⟩ = some (.slice p xs.length c) := by go_cell
  unfold maxLen at hn
  unfold Lv
  by_cases h40 : 40 < xs.length
  · have d1 : (40 : Int) < xs.length := by omega
    have HT := Lib.hid (show smB xs = false by unfold smB; rw [decide_eq_false (by omega)]; rfl)
    go_enter Tryd.func14, Tryd.ntmps14
    go_wp2
    go_ret
    exact ⟨ret_bool HT.out.symm, B0⟩
  · have d1 : ¬ (40 : Int) < xs.length := by omega
    have HT := Lib.hid (show smB xs = xs.all fun m => decide (m.1.size ≤ 40) by unfold smB; rw [decide_eq_true (by omega)]; rfl)
    go_enter Tryd.func14, Tryd.ntmps14
    go_wp2
    have RA1 := Lib.hid (SlM.keep B0 RA.out)
    generalize (w.alloc (Obj.cells #[Value.int .i64 k, Value.slice p xs.length c] 24)) = z at *
    go_loopw [3] (fun i wr => ∃ j : Nat, i = .int .i64 (j : Int) ∧ j ≤ xs.length ∧ wr = z ∧ Hid (∀ m ∈ xs.take j, m.1.size ≤ 40)) (fun i _ => xs.length - (intOf i).toNat)
    case atStart => exact ⟨0, rfl, by omega, rfl, Lib.hid (by simp)⟩
    case round =>
      obtain ⟨j, rfl, hk, rfl, HJ⟩ := hrel
      have k0 : (0 : Int) ≤ j := by omega
      by_cases hlt : j < xs.length
      · obtain ⟨b, o, rfl, c0, c1⟩ := RA1.out j hlt
        have htk := Lib.hid (take_stepS hlt)
        have hmem := Lib.hid (getD_memS hlt)
        obtain ⟨x, hx⟩ : ∃ x, xs.getD j mo0 = x := ⟨_, rfl⟩
        have htk := Lib.hid (by have h := htk.out; rw [hx] at h; exact h)
        have hmem := Lib.hid (by have h := hmem.out; rw [hx] at h; exact h)
        rw [hx] at c0 c1
        clear hx
        obtain ⟨s, a⟩ := x
        simp only at c0 c1
        have k1 : (j : Int) < xs.length := by omega
        by_cases hs : 40 < s.size
        · have d2 : (40 : Int) < s.size := by omega
          have HF := Lib.hid (HT.out.trans (show (xs.all fun m => decide (m.1.size ≤ 40)) = false from by
            rw [List.all_eq_false]
            exact ⟨_, hmem.out, by simp; omega⟩))
          go_wp2
          go_ret
          exact ⟨ret_bool HF.out.symm, B0⟩
        · have d2 : ¬ (40 : Int) < s.size := by omega
          have HJ2 : Hid (∀ m ∈ xs.take (j + 1), m.1.size ≤ 40) := Lib.hid (by
            rw [htk.out]
            intro m hm
            rcases List.mem_append.1 hm with h | h
            · exact HJ.out m h
            · rw [List.mem_singleton] at h; rw [h]; simp only; omega)
          go_wp2
          go_roundw
          case rel => exact ⟨j + 1, by go_num, by omega, by first | rfl | trivial, HJ2⟩
          case measure => simp [intOf]; omega
      · have k1 : ¬ (j : Int) < xs.length := by omega
        have HF := Lib.hid (HT.out.trans (show (xs.all fun m => decide (m.1.size ≤ 40)) = true from by
          rw [List.all_eq_true]
          have h := HJ.out
          rw [List.take_of_length_le (by omega)] at h
          intro m hm
          simpa using h m hm))
        go_wp2
        go_ret
        exact ⟨ret_bool HF.out.symm, B0⟩
end Go.Proofs.YtbicmlkjonaccaaDoor.Ln


namespace Go.Proofs.YtbicmlkjonaccaaDoor.Ln
open Go.ChangeShapes Go.WideShapes Go.ChangeAt Go.RowKit
open Go.Proofs.YtbicmlkjonaccaaDoor.Nm
set_option linter.unusedVariables false
set_option linter.unusedSimpArgs false
set_option maxRecDepth 8000

abbrev Qm := Int × List Mo × Bool
abbrev q0m : Qm := (0, [], false)
/-- A slice of constraints. -/
def SlQ (w : World) (p : Option Addr) (l : List Qm) : Prop := ∀ i, i < l.length → ∃ b o q c, p = some ⟨b, o, none⟩ ∧ w.cell? ⟨b, o + i * 3, none⟩ = some (.int .i64 (l.getD i q0m).1) ∧ w.cell? ⟨b, o + i * 3 + 1, none⟩ = some (.slice q (l.getD i q0m).2.1.length c) ∧ w.cell? ⟨b, o + i * 3 + 2, none⟩ = some (.bool (l.getD i q0m).2.2) ∧ SlM w q (l.getD i q0m).2.1
def smN (m : Mo) : Bool := decide (m.1.size ≤ 100)
def smF (f : Qm) : Bool := decide (f.2.1.length ≤ 40) && f.2.1.all smN
/-- What the laws on constraints take as small. -/
def smQ (lim : Nat) (l : List Qm) : Bool := decide (l.length ≤ lim) && l.all smF
theorem qget {l : List Qm} {i : Nat} (h : i < l.length) : l.getD i q0m ∈ l := by
  have e1 : l.getD i q0m = l[i] := by unfold List.getD; rw [List.getElem?_eq_getElem h]; rfl
  rw [e1]
  exact List.getElem_mem h
theorem qtake {l : List Qm} {i : Nat} (h : i < l.length) : l.take (i + 1) = l.take i ++ [l.getD i q0m] := by
  rw [List.take_succ_eq_append_getElem h]
  have e1 : l.getD i q0m = l[i] := by unfold List.getD; rw [List.getElem?_eq_getElem h]; rfl
  rw [e1]
set_option maxRecDepth 100000 in
set_option maxHeartbeats 8000000 in
theorem small6 (p : Option Addr) (l : List Qm) (c lim : Nat) (w : World) (hn : l.length ≤ maxLen) (hv : Hid (∀ f ∈ l, f.2.1.length ≤ maxLen)) (hlim : lim ≤ 1000) (RA : Hid (SlQ w p l)) :
    Calls Tryd.prog 20 #[.slice p l.length c, .int .i64 lim] w fun e w' => e = .returned (.bool (smQ lim l)) ∧ w = w' := by
  obtain ⟨R, hR⟩ : ∃ R, smQ lim l = R := ⟨_, rfl⟩
  rw [hR]
  have HR := Lib.hid hR
  clear hR
  unfold maxLen at hn
  by_cases hb : lim < l.length
  · have d1 : (lim : Int) < l.length := by omega
    have HT : R = false := by rw [← HR.out]; unfold smQ; rw [decide_eq_false (by omega)]; rfl
    subst HT
    go_enter Tryd.func20, Tryd.ntmps20
    go_wp2
    go_ret
    exact ⟨rfl, rfl⟩
  · have d1 : ¬ (lim : Int) < l.length := by omega
    have HT := Lib.hid (show l.all smF = R by rw [← HR.out]; unfold smQ; rw [decide_eq_true (by omega)]; rfl)
    clear HR
    go_enter Tryd.func20, Tryd.ntmps20
    go_wp2
    go_loopw [5] (fun i wr => ∃ j : Nat, i = .int .i64 (j : Int) ∧ j ≤ l.length ∧ wr = w ∧ Hid ((l.take j).all smF = true)) (fun i _ => l.length - (intOf i).toNat)
    case atStart => exact ⟨0, rfl, by omega, rfl, Lib.hid rfl⟩
    case round =>
      obtain ⟨j, rfl, hj, rfl, HJ⟩ := hrel
      have j0 : (0 : Int) ≤ j := by omega
      by_cases hlt : j < l.length
      · obtain ⟨b, o, q, d, rfl, c0, c1, c2, hS⟩ := RA.out j hlt
        have htk := Lib.hid (qtake hlt)
        have hmem := Lib.hid (qget hlt)
        obtain ⟨f, hf⟩ : ∃ f, l.getD j q0m = f := ⟨_, rfl⟩
        have htk := Lib.hid (by have h := htk.out; rw [hf] at h; exact h)
        have hmem := Lib.hid (by have h := hmem.out; rw [hf] at h; exact h)
        rw [hf] at c0 c1 c2 hS
        have hfl := hv.out _ hmem.out
        clear hf
        obtain ⟨k, xs, eq⟩ := f
        dsimp only at c0 c1 c2 hS hfl
        unfold maxLen at hfl
        have RS := Lib.hid hS
        clear hS
        have j1 : (j : Int) < l.length := by omega
        by_cases h40 : 40 < xs.length
        · have d2 : (40 : Int) < xs.length := by omega
          have HF : R = false := by
            rw [← HT.out, List.all_eq_false]
            exact ⟨_, hmem.out, by unfold smF; rw [decide_eq_false (by dsimp only; omega)]; simp⟩
          subst HF
          go_wp2
          go_ret
          exact ⟨rfl, rfl⟩
        · have d2 : ¬ (40 : Int) < xs.length := by omega
          go_wp2
          go_loopw [6] (fun i w5 => ∃ m : Nat, i = .int .i64 (m : Int) ∧ m ≤ xs.length ∧ w5 = wr ∧ Hid ((xs.take m).all smN = true)) (fun i _ => xs.length - (intOf i).toNat)
          case atStart => exact ⟨0, rfl, by omega, rfl, Lib.hid rfl⟩
          case round =>
            obtain ⟨m, rfl, hm, rfl, HM⟩ := hrel
            have m0 : (0 : Int) ≤ m := by omega
            by_cases hlm : m < xs.length
            · obtain ⟨b', o', rfl, e0, e1⟩ := RS.out m hlm
              have htk2 := Lib.hid (take_stepS hlm)
              have hmem2 := Lib.hid (getD_memS hlm)
              obtain ⟨x, hx⟩ : ∃ x, xs.getD m mo0 = x := ⟨_, rfl⟩
              have htk2 := Lib.hid (by have h := htk2.out; rw [hx] at h; exact h)
              have hmem2 := Lib.hid (by have h := hmem2.out; rw [hx] at h; exact h)
              rw [hx] at e0 e1
              clear hx
              obtain ⟨s, a⟩ := x
              simp only at e0 e1
              have m1 : (m : Int) < xs.length := by omega
              by_cases hs : 100 < s.size
              · have d3 : (100 : Int) < s.size := by omega
                have HF : R = false := by
                  rw [← HT.out, List.all_eq_false]
                  exact ⟨_, hmem.out, by
                    unfold smF
                    have : xs.all smN = false := by
                      rw [List.all_eq_false]
                      exact ⟨_, hmem2.out, by unfold smN; simp; omega⟩
                    simp [this]⟩
                subst HF
                go_wp2
                go_ret
                exact ⟨rfl, rfl⟩
              · have d3 : ¬ (100 : Int) < s.size := by omega
                have HM2 : Hid ((xs.take (m + 1)).all smN = true) := Lib.hid (by
                  rw [htk2.out, List.all_append, HM.out]
                  simp [smN]
                  omega)
                clear HM htk2 hmem2
                go_wp2
                go_roundw
                case rel => exact ⟨m + 1, by go_num, by omega, by first | rfl | trivial, HM2⟩
                case measure => simp [intOf]; omega
            · have m1 : ¬ (m : Int) < xs.length := by omega
              have HJ2 : Hid ((l.take (j + 1)).all smF = true) := Lib.hid (by
                rw [htk.out, List.all_append, HJ.out]
                have h := HM.out
                rw [List.take_of_length_le (by omega)] at h
                simp [smF, h]
                omega)
              clear HJ htk hmem
              go_wp2
              go_roundw
              case rel => exact ⟨j + 1, by go_num, by omega, by first | rfl | trivial, HJ2⟩
              case measure => simp [intOf]; omega
      · have j1 : ¬ (j : Int) < l.length := by omega
        have HF : R = true := by
          rw [← HT.out]
          have h := HJ.out
          rw [List.take_of_length_le (by omega)] at h
          exact h
        subst HF
        go_wp2
        go_ret
        exact ⟨rfl, rfl⟩
end Go.Proofs.YtbicmlkjonaccaaDoor.Ln


namespace Go.Proofs.YtbicmlkjonaccaaDoor.Ln
open Go.ChangeShapes Go.WideShapes Go.ChangeAt Go.RowKit
open Go.Proofs.YtbicmlkjonaccaaDoor.Nm
set_option linter.unusedVariables false
set_option linter.unusedSimpArgs false
set_option maxRecDepth 8000

set_option maxRecDepth 100000 in
set_option maxHeartbeats 8000000 in
theorem law_ctighten (k : Int) (p : Option Addr) (xs : List Mo) (c : Nat) (eq : Bool) (w : World) (hn : xs.length ≤ maxLen) (RA : Hid (SlM w p xs)) (RS : Hid (∀ i, i < xs.length → (xs.getD i mo0).1.size ≤ maxLen ∧ -9223372036854775808 ≤ (xs.getD i mo0).2 ∧ (xs.getD i mo0).2 ≤ 9223372036854775807)) (k1 : -9223372036854775808 ≤ k) (k2 : k ≤ 9223372036854775807) (hL : Hid (∀ w', Below w.heap.size w w' → LA w')) :
    Calls Tryd.prog 5 #[Cv k p xs.length c eq] w fun e w' => e = .returned (.bool true) ∧ Below w.heap.size w w' := by
  have B0 : Below w.heap.size w ((w.alloc (Obj.cells #[Value.int .i64 k, Value.slice p xs.length c, Value.bool eq] 36)).alloc (Obj.cells #[Value.int .i64 k, Value.slice p xs.length c, Value.bool eq] 36)) := ((Below.refl _ _).alloc (Nat.le_refl _) _).alloc (by simp) _
  have RZ := Lib.hid (SlM.keep B0 RA.out)
  have SQ : SlQ ((w.alloc (Obj.cells #[Value.int .i64 k, Value.slice p xs.length c, Value.bool eq] 36)).alloc (Obj.cells #[Value.int .i64 k, Value.slice p xs.length c, Value.bool eq] 36)) (some ⟨w.heap.size + 1, 0, none⟩) [(k, xs, eq)] := fun i hi => by
    rcases i with _ | i
    · exact ⟨w.heap.size + 1, 0, p, c, rfl, by go_cell, by go_cell, by go_cell, RZ.out⟩
    · exact absurd (show i + 1 < 1 from hi) (by omega)
  have SM := Lib.hid (small6 (some ⟨w.heap.size + 1, 0, none⟩) [(k, xs, eq)] 1 1 ((w.alloc (Obj.cells #[Value.int .i64 k, Value.slice p xs.length c, Value.bool eq] 36)).alloc (Obj.cells #[Value.int .i64 k, Value.slice p xs.length c, Value.bool eq] 36)) (by simp [maxLen]) (Lib.hid (by intro f hf; simp at hf; rcases hf with rfl; exact hn)) (by decide) (Lib.hid SQ))
  have EX := Lib.hid fun w h => exam6 w h
  have HB0 := Lib.hid B0
  have LW : w.heap.size < ((w.alloc (Obj.cells #[Value.int .i64 k, Value.slice p xs.length c, Value.bool eq] 36)).alloc (Obj.cells #[Value.int .i64 k, Value.slice p xs.length c, Value.bool eq] 36)).heap.size := by simp; omega
  cases hsm : smQ 1 [(k, xs, eq)]
  · rw [hsm] at SM
    clear hsm SQ
    unfold Cv at *
    go_enter Tryd.func5, Tryd.ntmps5
    go_wp2_with (first | (go_at_call 20; refine SM.out.mono ?_; rintro e w9 ⟨rfl, rfl⟩) | (go_at_call 21; (with_reducible refine (EX.out _ (Lib.hid fun w' h => hL.out _ (HB0.out.trans (h.mono HB0.out.size)))).mono ?_); rintro e wx ⟨rfl, hbx⟩))
    go_ret
    exact ⟨rfl, B0.trans (hbx.mono B0.size)⟩
  ·
    have h40 : xs.length ≤ 40 := by
      unfold smQ at hsm
      simp [smF] at hsm
      omega
    have T1 := Lib.hid fun w h => tig1 k p xs c eq w (Nat.le_trans h40 (by decide)) h RS k1 k2
    have T2 := Lib.hid fun w h => tig2 k p xs c eq w (Nat.le_trans h40 (by decide)) h RS k1 k2
    have hlen := tgR_len k xs eq
    obtain ⟨R, hR⟩ : ∃ R, tgR k xs eq = R := ⟨_, rfl⟩
    rw [hR] at T1 T2 hlen
    obtain ⟨a, ys, eq2, kind, er⟩ := R
    dsimp only at hlen
    have CE := Lib.hid fun p q c d w h1 h2 => conEq a p q ys c d eq2 w (by unfold maxLen; omega) h1 h2
    have g1 : (kind == kind) = true := by simp
    have g2 : (er == er) = true := by simp
    rw [hsm] at SM
    clear hsm SQ hR hlen h40 hn
    unfold Cv at *
    go_enter Tryd.func5, Tryd.ntmps5
    go_wp2_with (first | (go_at_call 20; refine SM.out.mono ?_; rintro e w9 ⟨rfl, rfl⟩) | (go_at_call 28; (with_reducible refine (T1.out _ RZ).mono ?_); rintro e w1 ⟨p1, c1, rfl, S1, _, hb1⟩; unfold Cv; dsimp only at S1 ⊢; have x0 : w1.cell? ⟨w.heap.size, 0, none⟩ = some (.int .i64 k) := Rg.keep hb1 LW (by go_cell); have x1 : w1.cell? ⟨w.heap.size, 1, none⟩ = some (.slice p xs.length c) := Rg.keep hb1 LW (by go_cell); have x2 : w1.cell? ⟨w.heap.size, 2, none⟩ = some (.bool eq) := Rg.keep hb1 LW (by go_cell); have l1 : w.heap.size < w1.heap.size := Nat.lt_of_lt_of_le LW hb1.size; have KA := Lib.hid (HB0.out.trans (hb1.mono HB0.out.size)); have KO := Lib.hid (KA.out.alloc KA.out.size (Obj.cells #[Value.int .i64 a, Value.slice p1 ys.length c1, Value.bool eq2] 36)); have SO := Lib.hid (SlM.keep ((Below.refl _ _).alloc (Nat.le_refl _) (Obj.cells #[Value.int .i64 a, Value.slice p1 ys.length c1, Value.bool eq2] 36)) S1)) | (go_at_call 29; (with_reducible refine (T2.out _ (Lib.hid (SlM.keep KO.out RA.out))).mono ?_); rintro e w2 ⟨p2, c2, rfl, S2, hb2⟩; unfold Cv; dsimp only at S2 ⊢; have y0 : w2.cell? ⟨w1.heap.size, 0, none⟩ = some (.int .i64 a) := Rg.keep hb2 (by simp) (by go_cell); have y1 : w2.cell? ⟨w1.heap.size, 1, none⟩ = some (.slice p1 ys.length c1) := Rg.keep hb2 (by simp) (by go_cell); have y2 : w2.cell? ⟨w1.heap.size, 2, none⟩ = some (.bool eq2) := Rg.keep hb2 (by simp) (by go_cell); have l2 : w1.heap.size < w2.heap.size := Nat.lt_of_lt_of_le (by simp) hb2.size; have KB := Lib.hid (KO.out.trans (hb2.mono KO.out.size)); have KP := Lib.hid (KB.out.alloc KB.out.size (Obj.cells #[Value.int .i64 a, Value.slice p2 ys.length c2, Value.bool eq2] 36)); have SA := Lib.hid (SlM.keep ((Below.refl _ _).alloc (Nat.le_refl _) (Obj.cells #[Value.int .i64 a, Value.slice p2 ys.length c2, Value.bool eq2] 36)) (SlM.keep hb2 SO.out)); have SB := Lib.hid (SlM.keep ((Below.refl _ _).alloc (Nat.le_refl _) (Obj.cells #[Value.int .i64 a, Value.slice p2 ys.length c2, Value.bool eq2] 36)) S2)) | (go_at_call 30; (with_reducible refine (CE.out p1 p2 c1 c2 _ SA SB).mono ?_); rintro e w3 ⟨rfl, hb3⟩; have KC := Lib.hid (KP.out.trans (hb3.mono KP.out.size))) | (go_at_call 21; (with_reducible refine (EX.out _ (Lib.hid fun w' h => hL.out _ (KC.out.trans (h.mono KC.out.size)))).mono ?_); rintro e wx ⟨rfl, hbx⟩))
    go_ret
    exact ⟨rfl, KC.out.trans (hbx.mono KC.out.size)⟩
end Go.Proofs.YtbicmlkjonaccaaDoor.Ln


namespace Go.Proofs.YtbicmlkjonaccaaDoor.Ln
open Go.ChangeShapes Go.WideShapes Go.ChangeAt Go.RowKit
set_option linter.unusedVariables false
set_option linter.unusedSimpArgs false
theorem clo1 (s t : ByteArray) (a : Int) (gm : Nat) (w : World) (hm : w.cell? ⟨gm, 0, none⟩ = some (.string s)) (v : Bool) (hv : (t.toList == s.toList) = v) :
    Calls Tryd.prog 82 #[.agg #[.string t, .int .i64 a], .pointer (some ⟨gm, 0, none⟩)] w fun e w' => e = .returned (.bool v) ∧ Below w.heap.size w w' := by
  have B0 : Below w.heap.size w (w.alloc (Obj.cells #[Value.string t, Value.int .i64 a] 106)) := (Below.refl _ _).alloc (Nat.le_refl _) _
  have f0 := kp B0 (lt_of_cell hm) hm
  go_enter Tryd.func82, Tryd.ntmps82
  go_wp2
  go_ret
  exact ⟨rfl, B0⟩
/-- The index of the first binding of a name, or -1. -/
def IXW (es : List Mo) (s : ByteArray) (w : World) (e : Ending) (w' : World) : Prop :=
  Below w.heap.size w w' ∧ ((s ∉ es.map (·.1) ∧ e = .returned (.int .i64 (-1))) ∨ ∃ j : Nat, j < es.length ∧ e = .returned (.int .i64 (j : Int)) ∧ (es.getD j mo0).1 = s ∧ (es.getD j mo0).2 = co es s)
theorem not_mem_of {es : List Mo} {s : ByteArray} {j : Nat} (hj : j = es.length) (h : ∀ i, i < j → (es.getD i mo0).1 ≠ s) : s ∉ es.map (·.1) := by
  intro hm
  obtain ⟨m, hm, e⟩ := List.mem_map.1 hm
  obtain ⟨i, hi, rfl⟩ := List.getElem_of_mem hm
  refine h i (by omega) ?_
  rw [show es.getD i mo0 = es[i] by unfold List.getD; rw [List.getElem?_eq_getElem hi]; rfl]
  exact e
theorem co_first {s : ByteArray} : ∀ {es : List Mo} {j : Nat}, j < es.length → (∀ i, i < j → (es.getD i mo0).1 ≠ s) → (es.getD j mo0).1 = s → (es.getD j mo0).2 = co es s
  | [], j, hj, _, _ => by simp at hj
  | x :: r, 0, _, _, he => by
    have he' : x.1 = s := he
    rw [co_cons, if_pos he']
    rfl
  | x :: r, j + 1, hj, h, he => by
    have h0 : x.1 ≠ s := h 0 (by omega)
    rw [co_cons, if_neg h0]
    exact co_first (es := r) (by simpa using hj) (fun i hi => h (i + 1) (by omega)) he
set_option maxRecDepth 100000 in
set_option maxHeartbeats 8000000 in
theorem idx1 (q : Option Addr) (es : List Mo) (d : Nat) (s : ByteArray) (gm : Nat) (w : World) (hn : es.length ≤ maxLen) (RA : Hid (SlM w q es)) (hm : w.cell? ⟨gm, 0, none⟩ = some (.string s)) :
    Calls Tryd.prog 81 #[.slice q es.length d, .func (.func 82) #[] #[.pointer (some ⟨gm, 0, none⟩)]] w (IXW es s w) := by
  have C := Lib.hid fun (t : ByteArray) (a : Int) (u : World) h v hv => clo1 s t a gm u h v hv
  unfold maxLen at hn
  go_enter Tryd.func81, Tryd.ntmps81
  go_wp2
  go_loopw [8] (fun i wr => ∃ j : Nat, i = .int .i64 (j : Int) ∧ j ≤ es.length ∧ Below w.heap.size w wr ∧ Hid (∀ i, i < j → (es.getD i mo0).1 ≠ s)) (fun i _ => es.length - (intOf i).toNat)
  case atStart => exact ⟨0, rfl, by omega, Below.refl _ _, Lib.hid fun i hi => absurd hi (by omega)⟩
  case round =>
    obtain ⟨j, rfl, hj, hB, HN⟩ := hrel
    have j0 : (0 : Int) ≤ j := by omega
    by_cases hlt : j < es.length
    · obtain ⟨b, o, rfl, c0, c1⟩ := SlM.keep hB RA.out j hlt
      have HC := Lib.hid fun he => co_first (s := s) hlt HN.out he
      obtain ⟨⟨t, a⟩, hx⟩ : ∃ x, es.getD j mo0 = x := ⟨_, rfl⟩
      have HX := Lib.hid hx
      rw [hx] at c0 c1
      simp only at c0 c1
      clear hx
      have j1 : (j : Int) < es.length := by omega
      have hm2 := kp hB (lt_of_cell hm) hm
      obtain ⟨v, hv⟩ : ∃ v, (t.toList == s.toList) = v := ⟨_, rfl⟩
      have C2 := Lib.hid (C.out t a wr hm2 v hv)
      have HV := Lib.hid hv
      clear hv C
      cases v
      · go_wp2_with fail
        refine C2.out.mono ?_
        rintro e w2 ⟨rfl, hb⟩
        have hB2 := hB.trans (hb.mono hB.size)
        have HN2 : Hid (∀ i, i < j + 1 → (es.getD i mo0).1 ≠ s) := Lib.hid fun i hi => by
          by_cases hij : i = j
          · subst hij
            rw [HX.out]
            intro e
            have := HV.out
            rw [same_iff] at this
            exact absurd e (of_decide_eq_false this)
          · exact HN.out i (by omega)
        go_wp2
        go_roundw
        case rel => exact ⟨j + 1, by go_num, by omega, hB2, HN2⟩
        case measure => simp [intOf]; omega
      · go_wp2_with fail
        refine C2.out.mono ?_
        rintro e w2 ⟨rfl, hb⟩
        have hB2 := hB.trans (hb.mono hB.size)
        have hts : (es.getD j mo0).1 = s := by
          rw [HX.out]
          have := HV.out
          rw [same_iff] at this
          exact of_decide_eq_true this
        have HE := Lib.hid (show s ∉ es.map (·.1) ∧ (Ending.returned (.int .i64 (j : Int))) = .returned (.int .i64 (-1)) ∨ ∃ j' : Nat, j' < es.length ∧ (Ending.returned (.int .i64 (j : Int))) = .returned (.int .i64 (j' : Int)) ∧ (es.getD j' mo0).1 = s ∧ (es.getD j' mo0).2 = co es s from .inr ⟨j, hlt, rfl, hts, HC.out hts⟩)
        clear hts
        go_wp2
        go_ret
        exact ⟨hB2, HE.out⟩
    · have j1 : ¬ (j : Int) < es.length := by omega
      have HE := Lib.hid (show s ∉ es.map (·.1) from not_mem_of (by omega) HN.out)
      go_wp2
      go_ret
      exact ⟨hB, .inl ⟨HE.out, rfl⟩⟩
end Go.Proofs.YtbicmlkjonaccaaDoor.Ln
