/- Add of larger forms. -/
import Derived.Test.YtbicmlkjonaccaaDoorE38
import Derived.Test.YtbicmlkjonaccaaDoorJ4

namespace Go.Proofs.YtbicmlkjonaccaaDoor.Ln
open Go.ChangeShapes Go.WideShapes Go.ChangeAt Go.RowKit

set_option linter.unusedVariables false
set_option linter.unusedSimpArgs false
set_option maxRecDepth 8000
set_option maxRecDepth 100000 in
set_option maxHeartbeats 32000000 in
theorem merge1d (p q : Option Addr) (xs ys : List Mo) (c d : Nat) (f : Bool) (gf : Nat) (w : World) (hx : Hid (∀ m ∈ xs, okM m)) (hy : Hid (∀ m ∈ ys, okM m)) (lx : xs.length ≤ 5000) (ly : ys.length ≤ 5000) (cx : xs.length ≤ c) (cy : ys.length ≤ d)
    (RA : Hid (SlM w p xs)) (RB : Hid (SlM w q ys)) (hp : Hid (∀ b o, p = some ⟨b, o, none⟩ → xs ≠ [] → b ≠ gf)) (hq : Hid (∀ b o, q = some ⟨b, o, none⟩ → ys ≠ [] → b ≠ gf)) (hf : w.cell? ⟨gf, 0, none⟩ = some (.bool f)) (hz : w.frozen? ⟨gf, 0, none⟩ = false) :
    Calls Tryd.prog 97 #[.slice p xs.length c, .slice q ys.length d, .func (.func 96) #[] #[.pointer (some ⟨gf, 0, none⟩)]] w (MWc (flt (mg xs ys)) (f && (mg xs ys).all fun m => fit64 m.2) gf w) := by
  have CP := Lib.hid fun (x y : Int) (g : Bool) (u : World) x1 x2 y1 y2 h1 h2 => plus1 x y g gf u x1 x2 y1 y2 h1 h2
  have hgf := lt_of_cell hf
  obtain ⟨V, hV⟩ : ∃ V, mg xs ys = V := ⟨_, rfl⟩
  rw [hV]
  have HV := Lib.hid hV
  clear hV
  obtain ⟨i0, hi, hz0, hz1, hz2⟩ := info_parts infoMo
  have HG0 := Lib.hid (show w.grownBy w (some gf) from ⟨rfl, rfl, rfl, Nat.le_refl _, fun _ _ _ => rfl⟩)
  go_enter Tryd.func97, Tryd.ntmps97
  go_wp2
  go_loopw [0, 1, 7] (fun a b l wr => ∃ (pa pb : Option Addr) (xa ya pre : List Mo) (ca cb na nb : Nat) (g : Bool), a = .slice pa na ca ∧ b = .slice pb nb cb ∧ na ≤ ca ∧ nb ≤ cb ∧ na ≤ 5000 ∧ nb ≤ 5000 ∧ Hid (na = xa.length ∧ nb = ya.length) ∧ Hid (pre.length + na + nb ≤ 10000 ∧ (flt pre).length ≤ pre.length) ∧ Hid (SlM w pa xa) ∧ Hid (SlM w pb ya) ∧ Hid (∀ b o, pa = some ⟨b, o, none⟩ → xa ≠ [] → b ≠ gf) ∧ Hid (∀ b o, pb = some ⟨b, o, none⟩ → ya ≠ [] → b ≠ gf) ∧ Hid (pre ++ mg xa ya = V) ∧ Hid (∀ m ∈ xa, okM m) ∧ Hid (∀ m ∈ ya, okM m) ∧ Hid (w.grownBy wr (some gf)) ∧ Hid (wr.ownsRow w.heap.size 59 2 l (flt pre).length (moCs (flt pre))) ∧ Hid (wr.cell? ⟨gf, 0, none⟩ = some (.bool g) ∧ wr.frozen? ⟨gf, 0, none⟩ = false ∧ g = (f && pre.all fun m => fit64 m.2))) (fun a b _ _ => lenS a + lenS b)
  case atStart => exact ⟨p, q, xs, ys, [], c, d, xs.length, ys.length, f, rfl, rfl, cx, cy, lx, ly, Lib.hid ⟨rfl, rfl⟩, Lib.hid ⟨by simp; omega, by simp [flt]⟩, RA, RB, hp, hq, HV, hx, hy, HG0, Lib.hid (World.ownsRow_nil _ _ _ _), Lib.hid ⟨hf, hz, by simp⟩⟩
  case round =>
    obtain ⟨pa, pb, xa, ya, pre, ca, cb, na, nb, g, rfl, rfl, ha, hb, ha1, hb1, HN, HP, SA, SB, hpa, hpb, HM, hxa, hya, HG, hO, HF⟩ := hrel
    obtain ⟨hn1, hn2⟩ := HN.out
    clear HN
    cases xa with
    | nil =>
      obtain rfl : na = 0 := hn1
      cases ya with
      | nil =>
        obtain rfl : nb = 0 := hn2
        have HE := Lib.hid (show pre = V by have h := HM.out; rw [nil_mg, List.append_nil] at h; exact h)
        obtain ⟨q', c', rfl⟩ := own_slice hO.out
        go_wp2
        go_ret
        obtain rfl := HE.out
        obtain ⟨q2, c2, he, hsl⟩ := own_sl' hO.out rfl
        cases he
        exact ⟨_, _, rfl, (own_k hO.out).1, hsl, HG.out, by rw [← HF.out.2.2]; exact HF.out.1, HF.out.2.1, own_blk hO.out rfl⟩
      | cons y ya =>
        obtain rfl : nb = ya.length + 1 := hn2
        obtain ⟨b2, o2, rfl, c0, c1⟩ := SB.out 0 (by simp)
        rw [show o2 + 0 * 2 = o2 by omega] at c0 c1
        have b2g := hpb.out b2 o2 rfl (by simp)
        have k0 := cell_grown HG.out b2g c0
        have k1 := cell_grown HG.out b2g c1
        obtain ⟨s2, a2⟩ := y
        replace k0 : wr.cell? ⟨b2, o2, none⟩ = some (.string s2) := k0
        replace k1 : wr.cell? ⟨b2, o2 + 1, none⟩ = some (.int .i64 a2) := k1
        clear c0 c1
        have yx := hya.out (s2, a2) (by simp)
        have hya2 := Lib.hid fun m hm => hya.out m (List.mem_cons_of_mem _ hm)
        obtain ⟨B, hB, SB2, hb2, hB2⟩ := cut1 SB.out (by simpa using hb)
        replace SB2 := Lib.hid SB2
        have hpb2 := Lib.hid fun b' o' e (_ : ya ≠ []) => (hB2 b' o' e) ▸ b2g
        have tb1 : (0 : Int) < (ya.length : Int) + 1 := by omega
        have tb2 : decide ((0 : Int) < (ya.length : Int) + 1) = true := decide_eq_true tb1
        have tb3 : (((ya.length : Int) + 1) == 0) = false := beq_false_of_ne (by omega)
        have tb4 : decide ((ya.length : Int) + 1 = 0) = false := decide_eq_false (by omega)
        clear hB2
        have HM2 : Hid ((pre ++ [(s2, a2)]) ++ mg [] ya = V) := Lib.hid (by
          have h := HM.out
          rw [nil_mg] at h ⊢
          rw [List.append_assoc]
          exact h)
        have e1 := Lib.hid (flt_take (pre := pre) yx)
        have e2 := Lib.hid yx.fit
        clear yx HM
        go_wp2_with fail
        go_quiet (fail)
        replace HG := Lib.hid (grown_drewN HG.out nq)
        replace hO := Lib.hid (show (wr.drewN nq).ownsRow w.heap.size 59 2 _ (flt pre).length (moCs (flt pre)) from hO.out)
        replace HF := Lib.hid (show (wr.drewN nq).cell? ⟨gf, 0, none⟩ = some (.bool g) ∧ (wr.drewN nq).frozen? ⟨gf, 0, none⟩ = false ∧ g = (f && pre.all fun m => fit64 m.2) from HF.out)
        replace k0 : (wr.drewN nq).cell? ⟨b2, o2, none⟩ = some (.string s2) := k0
        replace k1 : (wr.drewN nq).cell? ⟨b2, o2 + 1, none⟩ = some (.int .i64 a2) := k1
        generalize wr.drewN nq = wr at *
        go_wp2_with fail
        go_quiet (fail)
        replace HG := Lib.hid (grown_drewN HG.out nq)
        replace hO := Lib.hid (show (wr.drewN nq).ownsRow w.heap.size 59 2 _ (flt pre).length (moCs (flt pre)) from hO.out)
        replace HF := Lib.hid (show (wr.drewN nq).cell? ⟨gf, 0, none⟩ = some (.bool g) ∧ (wr.drewN nq).frozen? ⟨gf, 0, none⟩ = false ∧ g = (f && pre.all fun m => fit64 m.2) from HF.out)
        replace k0 : (wr.drewN nq).cell? ⟨b2, o2, none⟩ = some (.string s2) := k0
        replace k1 : (wr.drewN nq).cell? ⟨b2, o2 + 1, none⟩ = some (.int .i64 a2) := k1
        generalize wr.drewN nq = wr at *
        go_wp2_with (at_builtin; refine wpList_append_own _ rfl _ _ 22 rfl w.heap.size 59 i0 (.agg #[.string ⟨#[]⟩, .int .i64 0]) 2 24 Tryd.underlying22 hi hz0 hz1 hz2 rfl (by decide) _ _ _ rfl (World.ownsRow.alloc hO.out _) ⟨wr.heap.size, 0, none⟩ 1 1 [.string s2, .int .i64 a2] rfl rfl ?_ ?_ ?_ ?_ ?_ ?_)
        · intro q' x' hx'
          rcases q' with _ | _ | q'
          · cases hx'; go_cell
          · cases hx'; go_cell
          · simp at hx'
        · intro x' hx'
          simp at hx'
          rcases hx' with rfl | rfl <;> rfl
        · have := HP.out; unfold maxLen; omega
        · have := HP.out; omega
        · have := HG.out.size; simp; omega
        intro v' w4 hown' hgrow _
        have HO4 := Lib.hid (show w4.ownsRow w.heap.size 59 2 v' (flt (pre ++ [(s2, a2)])).length (moCs (flt (pre ++ [(s2, a2)]))) by rw [e1.out, List.length_append, moCs_snoc]; exact hown')
        have HG4 := Lib.hid (grown_own (grown_alloc HG.out _) (World.ownsRow.alloc hO.out _) (Nat.le_refl _) hgrow)
        have HF4 := Lib.hid (show w4.cell? ⟨gf, 0, none⟩ = some (.bool g) ∧ w4.frozen? ⟨gf, 0, none⟩ = false ∧ g = (f && (pre ++ [(s2, a2)]).all fun m => fit64 m.2) from ⟨own_cell (World.ownsRow.alloc hO.out _) hgrow hgf (kp ((Below.refl wr.heap.size wr).alloc (Nat.le_refl _) _) (lt_of_cell HF.out.1) HF.out.1), own_frozen (World.ownsRow.alloc hO.out _) hgrow hgf (lt_of_cell (kp ((Below.refl wr.heap.size wr).alloc (Nat.le_refl _) (Obj.cells #[Value.string s2, Value.int .i64 a2] 59)) (lt_of_cell HF.out.1) HF.out.1)) ((((Below.refl wr.heap.size wr).alloc (Nat.le_refl _) _).frozen (p := ⟨gf, 0, none⟩) (lt_of_cell HF.out.1)).trans HF.out.2.1), by rw [HF.out.2.2, List.all_append]; simp [e2.out]⟩)
        have HP4 := Lib.hid (show (pre ++ [(s2, a2)]).length + 0 + ya.length ≤ 10000 ∧ (flt (pre ++ [(s2, a2)])).length ≤ (pre ++ [(s2, a2)]).length by have := HP.out; rw [e1.out, List.length_append, List.length_append]; simp only [List.length_singleton]; omega)
        obtain ⟨q4, c4, rfl⟩ := own_slice HO4.out
        clear hi hz0 hz1 hz2 HG hO HF HP hown' hgrow
        go_wp2
        go_roundw
        case rel => exact ⟨pa, B, [], ya, pre ++ [(s2, a2)], ca, cb - 1, 0, ya.length, g, rfl, rfl, by omega, by omega, by omega, by omega, Lib.hid ⟨rfl, rfl⟩, HP4, SA, SB2, hpa, hpb2, HM2, hxa, hya2, HG4, HO4, HF4⟩
        case measure => simp [lenS] <;> omega
    | cons x xa =>
      obtain rfl : na = xa.length + 1 := hn1
      obtain ⟨b, o, rfl, c0, c1⟩ := SA.out 0 (by simp)
      rw [show o + 0 * 2 = o by omega] at c0 c1
      have bg := hpa.out b o rfl (by simp)
      have d0 := cell_grown HG.out bg c0
      have d1 := cell_grown HG.out bg c1
      obtain ⟨s, a⟩ := x
      replace d0 : wr.cell? ⟨b, o, none⟩ = some (.string s) := d0
      replace d1 : wr.cell? ⟨b, o + 1, none⟩ = some (.int .i64 a) := d1
      clear c0 c1
      have xx := hxa.out (s, a) (by simp)
      have hxa2 := Lib.hid fun m hm => hxa.out m (List.mem_cons_of_mem _ hm)
      obtain ⟨A, hA, SA2, ha2, hA2⟩ := cut1 SA.out (by simpa using ha)
      replace SA2 := Lib.hid SA2
      have hpa2 := Lib.hid fun b' o' e (_ : xa ≠ []) => (hA2 b' o' e) ▸ bg
      have ta1 : (0 : Int) < (xa.length : Int) + 1 := by omega
      have ta2 : decide ((0 : Int) < (xa.length : Int) + 1) = true := decide_eq_true ta1
      have ta3 : (((xa.length : Int) + 1) == 0) = false := beq_false_of_ne (by omega)
      have ta4 : decide ((xa.length : Int) + 1 = 0) = false := decide_eq_false (by omega)
      clear hA2
      cases ya with
      | nil =>
        obtain rfl : nb = 0 := hn2
        have HM2 : Hid ((pre ++ [(s, a)]) ++ mg xa [] = V) := Lib.hid (by
          have h := HM.out
          rw [mg_nil] at h ⊢
          rw [List.append_assoc]
          exact h)
        have e1 := Lib.hid (flt_take (pre := pre) xx)
        have e2 := Lib.hid xx.fit
        clear xx HM
        go_wp2_with fail
        go_quiet (fail)
        replace HG := Lib.hid (grown_drewN HG.out nq)
        replace hO := Lib.hid (show (wr.drewN nq).ownsRow w.heap.size 59 2 _ (flt pre).length (moCs (flt pre)) from hO.out)
        replace HF := Lib.hid (show (wr.drewN nq).cell? ⟨gf, 0, none⟩ = some (.bool g) ∧ (wr.drewN nq).frozen? ⟨gf, 0, none⟩ = false ∧ g = (f && pre.all fun m => fit64 m.2) from HF.out)
        replace d0 : (wr.drewN nq).cell? ⟨b, o, none⟩ = some (.string s) := d0
        replace d1 : (wr.drewN nq).cell? ⟨b, o + 1, none⟩ = some (.int .i64 a) := d1
        generalize wr.drewN nq = wr at *
        go_wp2_with (at_builtin; refine wpList_append_own _ rfl _ _ 22 rfl w.heap.size 59 i0 (.agg #[.string ⟨#[]⟩, .int .i64 0]) 2 24 Tryd.underlying22 hi hz0 hz1 hz2 rfl (by decide) _ _ _ rfl (World.ownsRow.alloc hO.out _) ⟨wr.heap.size, 0, none⟩ 1 1 [.string s, .int .i64 a] rfl rfl ?_ ?_ ?_ ?_ ?_ ?_)
        · intro q' x' hx'
          rcases q' with _ | _ | q'
          · cases hx'; go_cell
          · cases hx'; go_cell
          · simp at hx'
        · intro x' hx'
          simp at hx'
          rcases hx' with rfl | rfl <;> rfl
        · have := HP.out; unfold maxLen; omega
        · have := HP.out; omega
        · have := HG.out.size; simp; omega
        intro v' w4 hown' hgrow _
        have HO4 := Lib.hid (show w4.ownsRow w.heap.size 59 2 v' (flt (pre ++ [(s, a)])).length (moCs (flt (pre ++ [(s, a)]))) by rw [e1.out, List.length_append, moCs_snoc]; exact hown')
        have HG4 := Lib.hid (grown_own (grown_alloc HG.out _) (World.ownsRow.alloc hO.out _) (Nat.le_refl _) hgrow)
        have HF4 := Lib.hid (show w4.cell? ⟨gf, 0, none⟩ = some (.bool g) ∧ w4.frozen? ⟨gf, 0, none⟩ = false ∧ g = (f && (pre ++ [(s, a)]).all fun m => fit64 m.2) from ⟨own_cell (World.ownsRow.alloc hO.out _) hgrow hgf (kp ((Below.refl wr.heap.size wr).alloc (Nat.le_refl _) _) (lt_of_cell HF.out.1) HF.out.1), own_frozen (World.ownsRow.alloc hO.out _) hgrow hgf (lt_of_cell (kp ((Below.refl wr.heap.size wr).alloc (Nat.le_refl _) (Obj.cells #[Value.string s, Value.int .i64 a] 59)) (lt_of_cell HF.out.1) HF.out.1)) ((((Below.refl wr.heap.size wr).alloc (Nat.le_refl _) _).frozen (p := ⟨gf, 0, none⟩) (lt_of_cell HF.out.1)).trans HF.out.2.1), by rw [HF.out.2.2, List.all_append]; simp [e2.out]⟩)
        have HP4 := Lib.hid (show (pre ++ [(s, a)]).length + xa.length + 0 ≤ 10000 ∧ (flt (pre ++ [(s, a)])).length ≤ (pre ++ [(s, a)]).length by have := HP.out; rw [e1.out, List.length_append, List.length_append]; simp only [List.length_singleton]; omega)
        obtain ⟨q4, c4, rfl⟩ := own_slice HO4.out
        clear hi hz0 hz1 hz2 HG hO HF HP hown' hgrow
        go_wp2
        go_roundw
        case rel => exact ⟨A, pb, xa, [], pre ++ [(s, a)], ca - 1, cb, xa.length, 0, g, rfl, rfl, by omega, by omega, by omega, by omega, Lib.hid ⟨rfl, rfl⟩, HP4, SA2, SB, hpa2, hpb, HM2, hxa2, hya, HG4, HO4, HF4⟩
        case measure => simp [lenS] <;> omega
      | cons y ya =>
        obtain rfl : nb = ya.length + 1 := hn2
        obtain ⟨b2, o2, rfl, c0, c1⟩ := SB.out 0 (by simp)
        rw [show o2 + 0 * 2 = o2 by omega] at c0 c1
        have b2g := hpb.out b2 o2 rfl (by simp)
        have k0 := cell_grown HG.out b2g c0
        have k1 := cell_grown HG.out b2g c1
        obtain ⟨s2, a2⟩ := y
        replace k0 : wr.cell? ⟨b2, o2, none⟩ = some (.string s2) := k0
        replace k1 : wr.cell? ⟨b2, o2 + 1, none⟩ = some (.int .i64 a2) := k1
        clear c0 c1
        have yx := hya.out (s2, a2) (by simp)
        have hya2 := Lib.hid fun m hm => hya.out m (List.mem_cons_of_mem _ hm)
        obtain ⟨B, hB, SB2, hb2, hB2⟩ := cut1 SB.out (by simpa using hb)
        replace SB2 := Lib.hid SB2
        have hpb2 := Lib.hid fun b' o' e (_ : ya ≠ []) => (hB2 b' o' e) ▸ b2g
        have tb1 : (0 : Int) < (ya.length : Int) + 1 := by omega
        have tb2 : decide ((0 : Int) < (ya.length : Int) + 1) = true := decide_eq_true tb1
        have tb3 : (((ya.length : Int) + 1) == 0) = false := beq_false_of_ne (by omega)
        have tb4 : decide ((ya.length : Int) + 1 = 0) = false := decide_eq_false (by omega)
        clear hB2
        rcases slt_tri s s2 with hlt | heq | hlt
        · have L1 : Op.bytesLess s.toList s2.toList = true := by rw [slt_less]; exact decide_eq_true hlt
          have HM2 : Hid ((pre ++ [(s, a)]) ++ mg xa ((s2, a2) :: ya) = V) := Lib.hid (by
            have h := HM.out
            rw [mg_lt hlt] at h
            rw [List.append_assoc]
            exact h)
          have e1 := Lib.hid (flt_take (pre := pre) xx)
          have e2 := Lib.hid xx.fit
          clear xx HM hlt
          go_wp2_with fail
          go_quiet (fail)
          replace HG := Lib.hid (grown_drewN HG.out nq)
          replace hO := Lib.hid (show (wr.drewN nq).ownsRow w.heap.size 59 2 _ (flt pre).length (moCs (flt pre)) from hO.out)
          replace HF := Lib.hid (show (wr.drewN nq).cell? ⟨gf, 0, none⟩ = some (.bool g) ∧ (wr.drewN nq).frozen? ⟨gf, 0, none⟩ = false ∧ g = (f && pre.all fun m => fit64 m.2) from HF.out)
          replace d0 : (wr.drewN nq).cell? ⟨b, o, none⟩ = some (.string s) := d0
          replace d1 : (wr.drewN nq).cell? ⟨b, o + 1, none⟩ = some (.int .i64 a) := d1
          replace k0 : (wr.drewN nq).cell? ⟨b2, o2, none⟩ = some (.string s2) := k0
          replace k1 : (wr.drewN nq).cell? ⟨b2, o2 + 1, none⟩ = some (.int .i64 a2) := k1
          generalize wr.drewN nq = wr at *
          go_wp2_with (at_builtin; refine wpList_append_own _ rfl _ _ 22 rfl w.heap.size 59 i0 (.agg #[.string ⟨#[]⟩, .int .i64 0]) 2 24 Tryd.underlying22 hi hz0 hz1 hz2 rfl (by decide) _ _ _ rfl (World.ownsRow.alloc hO.out _) ⟨wr.heap.size, 0, none⟩ 1 1 [.string s, .int .i64 a] rfl rfl ?_ ?_ ?_ ?_ ?_ ?_)
          · intro q' x' hx'
            rcases q' with _ | _ | q'
            · cases hx'; go_cell
            · cases hx'; go_cell
            · simp at hx'
          · intro x' hx'
            simp at hx'
            rcases hx' with rfl | rfl <;> rfl
          · have := HP.out; unfold maxLen; omega
          · have := HP.out; omega
          · have := HG.out.size; simp; omega
          intro v' w4 hown' hgrow _
          have HO4 := Lib.hid (show w4.ownsRow w.heap.size 59 2 v' (flt (pre ++ [(s, a)])).length (moCs (flt (pre ++ [(s, a)]))) by rw [e1.out, List.length_append, moCs_snoc]; exact hown')
          have HG4 := Lib.hid (grown_own (grown_alloc HG.out _) (World.ownsRow.alloc hO.out _) (Nat.le_refl _) hgrow)
          have HF4 := Lib.hid (show w4.cell? ⟨gf, 0, none⟩ = some (.bool g) ∧ w4.frozen? ⟨gf, 0, none⟩ = false ∧ g = (f && (pre ++ [(s, a)]).all fun m => fit64 m.2) from ⟨own_cell (World.ownsRow.alloc hO.out _) hgrow hgf (kp ((Below.refl wr.heap.size wr).alloc (Nat.le_refl _) _) (lt_of_cell HF.out.1) HF.out.1), own_frozen (World.ownsRow.alloc hO.out _) hgrow hgf (lt_of_cell (kp ((Below.refl wr.heap.size wr).alloc (Nat.le_refl _) (Obj.cells #[Value.string s, Value.int .i64 a] 59)) (lt_of_cell HF.out.1) HF.out.1)) ((((Below.refl wr.heap.size wr).alloc (Nat.le_refl _) _).frozen (p := ⟨gf, 0, none⟩) (lt_of_cell HF.out.1)).trans HF.out.2.1), by rw [HF.out.2.2, List.all_append]; simp [e2.out]⟩)
          have HP4 := Lib.hid (show (pre ++ [(s, a)]).length + xa.length + (ya.length + 1) ≤ 10000 ∧ (flt (pre ++ [(s, a)])).length ≤ (pre ++ [(s, a)]).length by have := HP.out; rw [e1.out, List.length_append, List.length_append]; simp only [List.length_singleton]; omega)
          obtain ⟨q4, c4, rfl⟩ := own_slice HO4.out
          clear hi hz0 hz1 hz2 HG hO HF HP hown' hgrow
          go_wp2
          go_roundw
          case rel => exact ⟨A, some ⟨b2, o2, none⟩, xa, ((s2, a2) :: ya), pre ++ [(s, a)], ca - 1, cb, xa.length, (ya.length + 1), g, rfl, rfl, by omega, by omega, by omega, by omega, Lib.hid ⟨rfl, by simp⟩, HP4, SA2, SB, hpa2, hpb, HM2, hxa2, hya, HG4, HO4, HF4⟩
          case measure => simp [lenS] <;> omega
        · obtain rfl : s = s2 := heq
          have L1 : Op.bytesLess s.toList s.toList = false := by rw [slt_less]; exact decide_eq_false (slt_irrefl s)
          have HM1 : Hid ((pre ++ [(s, a + a2)]) ++ mg xa ya = V) := Lib.hid (by
            have h := HM.out
            rw [mg_eq (x := (s, a)) (y := (s, a2)) rfl] at h
            rw [List.append_assoc]
            exact h)
          have hx1 := xx.2
          have hx2 := yx.2
          simp only at hx1 hx2
          obtain ⟨C, hC⟩ : ∃ C, wrap64 (a + a2) = C := ⟨_, rfl⟩
          have HC := Lib.hid hC
          clear hC xx yx HM
          go_wp2_with fail
          go_quiet (fail)
          replace HG := Lib.hid (grown_drewN HG.out nq)
          replace hO := Lib.hid (show (wr.drewN nq).ownsRow w.heap.size 59 2 _ (flt pre).length (moCs (flt pre)) from hO.out)
          replace HF := Lib.hid (show (wr.drewN nq).cell? ⟨gf, 0, none⟩ = some (.bool g) ∧ (wr.drewN nq).frozen? ⟨gf, 0, none⟩ = false ∧ g = (f && pre.all fun m => fit64 m.2) from HF.out)
          replace d0 : (wr.drewN nq).cell? ⟨b, o, none⟩ = some (.string s) := d0
          replace d1 : (wr.drewN nq).cell? ⟨b, o + 1, none⟩ = some (.int .i64 a) := d1
          replace k0 : (wr.drewN nq).cell? ⟨b2, o2, none⟩ = some (.string s) := k0
          replace k1 : (wr.drewN nq).cell? ⟨b2, o2 + 1, none⟩ = some (.int .i64 a2) := k1
          generalize wr.drewN nq = wr at *
          go_wp2_with fail
          go_quiet (fail)
          replace HG := Lib.hid (grown_drewN HG.out nq)
          replace hO := Lib.hid (show (wr.drewN nq).ownsRow w.heap.size 59 2 _ (flt pre).length (moCs (flt pre)) from hO.out)
          replace HF := Lib.hid (show (wr.drewN nq).cell? ⟨gf, 0, none⟩ = some (.bool g) ∧ (wr.drewN nq).frozen? ⟨gf, 0, none⟩ = false ∧ g = (f && pre.all fun m => fit64 m.2) from HF.out)
          replace d0 : (wr.drewN nq).cell? ⟨b, o, none⟩ = some (.string s) := d0
          replace d1 : (wr.drewN nq).cell? ⟨b, o + 1, none⟩ = some (.int .i64 a) := d1
          replace k0 : (wr.drewN nq).cell? ⟨b2, o2, none⟩ = some (.string s) := k0
          replace k1 : (wr.drewN nq).cell? ⟨b2, o2 + 1, none⟩ = some (.int .i64 a2) := k1
          generalize wr.drewN nq = wr at *
          go_wp2_with fail
          have hz9 := (⟨d1, k1⟩ : wr.drew.cell? ⟨b, o + 1, none⟩ = some (.int .i64 a) ∧ wr.drew.cell? ⟨b2, o2 + 1, none⟩ = some (.int .i64 a2))
          refine Rk.begin (S := fun wS => wS.cell? ⟨b, o + 1, none⟩ = some (.int .i64 a) ∧ wS.cell? ⟨b2, o2 + 1, none⟩ = some (.int .i64 a2)) 9 (by kernel_rfl) hz9 (fun hHeld => ?_)
          refine Rk.takeP (i := 0) (v := ?_) rfl (by kernel_rfl) (by kernel_rfl) (by kernel_rfl) (by kernel_rfl) (fun _ _ _ h => h) (Or.inl ⟨by kernel_rfl, ?_⟩) (by assumption) ?_
          rotate_left
          · ((intro w hSw; go_simp) <;> with_reducible rfl)
          try simp only [Act.put, List.setIfInBounds_toArray, List.set_cons_zero, List.set_cons_succ]
          refine Rk.takeP (i := 1) (v := ?_) rfl (by kernel_rfl) (by kernel_rfl) (by kernel_rfl) (by kernel_rfl) (fun _ _ _ h => h) (Or.inl ⟨by kernel_rfl, ?_⟩) (by assumption) ?_
          rotate_left
          · ((intro w hSw; go_simp) <;> with_reducible rfl)
          try simp only [Act.put, List.setIfInBounds_toArray, List.set_cons_zero, List.set_cons_succ]
          refine Rk.takeP (i := 2) (v := ?_) rfl (by kernel_rfl) (by kernel_rfl) (by kernel_rfl) (by kernel_rfl) (fun _ _ _ h => h) (Or.inl ⟨by kernel_rfl, ?_⟩) (by assumption) ?_
          rotate_left
          · ((intro w hSw; go_simp) <;> with_reducible rfl)
          try simp only [Act.put, List.setIfInBounds_toArray, List.set_cons_zero, List.set_cons_succ]
          refine Rk.takeP (i := 3) (v := ?_) rfl (by kernel_rfl) (by kernel_rfl) (by kernel_rfl) (by kernel_rfl) (fun _ _ _ h => h) (Or.inl ⟨by kernel_rfl, ?_⟩) (by assumption) ?_
          rotate_left
          · ((intro w hSw; go_simp) <;> with_reducible rfl)
          try simp only [Act.put, List.setIfInBounds_toArray, List.set_cons_zero, List.set_cons_succ]
          refine Rk.take [9] (i := 4) (v := ?_) rfl (by kernel_rfl) (by kernel_rfl) (by kernel_rfl) (by kernel_rfl) (by kernel_rfl) (fun _ _ _ h => h) (Or.inl ⟨by kernel_rfl, ?_⟩) (by assumption) ?_
          rotate_left
          · ((intro w hSw; (try dsimp only at hSw); go_simp) <;> with_reducible rfl)
          try simp only [Act.put, List.setIfInBounds_toArray, List.set_cons_zero, List.set_cons_succ]
          refine Rk.takeP (i := 5) (v := ?_) rfl (by kernel_rfl) (by kernel_rfl) (by kernel_rfl) (by kernel_rfl) (fun _ _ _ h => h) (Or.inl ⟨by kernel_rfl, ?_⟩) (by assumption) ?_
          rotate_left
          · ((intro w hSw; go_simp) <;> with_reducible rfl)
          try simp only [Act.put, List.setIfInBounds_toArray, List.set_cons_zero, List.set_cons_succ]
          refine Rk.takeP (i := 6) (v := ?_) rfl (by kernel_rfl) (by kernel_rfl) (by kernel_rfl) (by kernel_rfl) (fun _ _ _ h => h) (Or.inl ⟨by kernel_rfl, ?_⟩) (by assumption) ?_
          rotate_left
          · ((intro w hSw; go_simp) <;> with_reducible rfl)
          try simp only [Act.put, List.setIfInBounds_toArray, List.set_cons_zero, List.set_cons_succ]
          refine Rk.takeP (i := 7) (v := ?_) rfl (by kernel_rfl) (by kernel_rfl) (by kernel_rfl) (by kernel_rfl) (fun _ _ _ h => h) (Or.inl ⟨by kernel_rfl, ?_⟩) (by assumption) ?_
          rotate_left
          · ((intro w hSw; go_simp) <;> with_reducible rfl)
          try simp only [Act.put, List.setIfInBounds_toArray, List.set_cons_zero, List.set_cons_succ]
          refine Rk.take [9] (i := 8) (v := ?_) rfl (by kernel_rfl) (by kernel_rfl) (by kernel_rfl) (by kernel_rfl) (by kernel_rfl) (fun _ _ _ h => h) (Or.inl ⟨by kernel_rfl, ?_⟩) (by assumption) ?_
          rotate_left
          · ((intro w hSw; (try dsimp only at hSw); go_simp) <;> with_reducible rfl)
          try simp only [Act.put, List.setIfInBounds_toArray, List.set_cons_zero, List.set_cons_succ]
          refine Rk.tail [9, 10] [_, _] (by kernel_rfl) (by kernel_rfl) rfl (by decide) ?_
          go_wp2_with fail
          refine (CP.out a a2 g wr.drew hx1.1 hx1.2 hx2.1 hx2.2 HF.out.1 HF.out.2.1).mono ?_
          rintro e w5 ⟨he, hg5, hc5, hz5⟩
          rw [HC.out] at he
          obtain rfl := he
          replace d0 := cell_grown (w := wr.drew) hg5 bg d0
          replace k0 := cell_grown (w := wr.drew) hg5 b2g k0
          replace HG := Lib.hid (grown_trans (grown_drew HG.out) hg5)
          replace hO := Lib.hid (World.ownsRow.kept (w := wr.drew) hO.out hg5 (own_ne hO.out hgf))
          replace HF := Lib.hid (show w5.cell? ⟨gf, 0, none⟩ = some (.bool (g && fit64 (a + a2))) ∧ w5.frozen? ⟨gf, 0, none⟩ = false ∧ (g && fit64 (a + a2)) = (f && (pre ++ [(s, a + a2)]).all fun m => fit64 m.2) from ⟨hc5, hz5, by rw [HF.out.2.2, List.all_append]; simp [Bool.and_assoc]⟩)
          clear d1 k1 hg5 hc5 hz5 hz9 hHeld
          generalize (g && fit64 (a + a2)) = g' at *
          by_cases hC0 : C = 0
          · have hb0 : (C == 0) = true := beq_iff_eq.2 hC0
            have hb1 : (C != 0) = false := by rw [bne, hb0]; rfl
            have e1 := Lib.hid (show flt (pre ++ [(s, a + a2)]) = flt pre by rw [flt_snoc, HC.out, if_pos hC0, List.append_nil])
            clear hC0
            have HP4 := Lib.hid (show (pre ++ [(s, a + a2)]).length + xa.length + ya.length ≤ 10000 ∧ (flt (pre ++ [(s, a + a2)])).length ≤ (pre ++ [(s, a + a2)]).length by have := HP.out; rw [e1.out, List.length_append]; simp only [List.length_singleton]; omega)
            go_wp2_with fail
            go_quiet (fail)
            have HG4 := Lib.hid (grown_drewN HG.out nq)
            have HO4 := Lib.hid (show (w5.drewN nq).ownsRow w.heap.size 59 2 u7 (flt (pre ++ [(s, a + a2)])).length (moCs (flt (pre ++ [(s, a + a2)]))) by rw [e1.out]; exact hO.out)
            have HF4 := Lib.hid (show (w5.drewN nq).cell? ⟨gf, 0, none⟩ = some (.bool g') ∧ (w5.drewN nq).frozen? ⟨gf, 0, none⟩ = false ∧ g' = (f && (pre ++ [(s, a + a2)]).all fun m => fit64 m.2) from HF.out)
            go_wp2
            go_roundw
            case rel => exact ⟨A, B, xa, ya, pre ++ [(s, a + a2)], ca - 1, cb - 1, xa.length, ya.length, g', rfl, rfl, by omega, by omega, by omega, by omega, Lib.hid ⟨rfl, rfl⟩, HP4, SA2, SB2, hpa2, hpb2, HM1, hxa2, hya2, HG4, HO4, HF4⟩
            case measure => simp [lenS]; omega
          · have hb0 : (C == 0) = false := beq_false_of_ne hC0
            have hb1 : (C != 0) = true := by rw [bne, hb0]; rfl
            have e1 := Lib.hid (show flt (pre ++ [(s, a + a2)]) = flt pre ++ [(s, C)] by rw [flt_snoc, HC.out, if_neg hC0])
            clear hC0
            have hc1 : w5.cell? ⟨b, o, none⟩ = some (.string s) := d0
            go_wp2_with (at_builtin; refine wpList_append_own _ rfl _ _ 22 rfl w.heap.size 59 i0 (.agg #[.string ⟨#[]⟩, .int .i64 0]) 2 24 Tryd.underlying22 hi hz0 hz1 hz2 rfl (by decide) _ _ _ rfl (World.ownsRow.alloc hO.out _) ⟨w5.heap.size, 0, none⟩ 1 1 [.string s, .int .i64 C] rfl rfl ?_ ?_ ?_ ?_ ?_ ?_)
            · intro q' x' hx'
              rcases q' with _ | _ | q'
              · cases hx'; go_cell
              · cases hx'; go_cell
              · simp at hx'
            · intro x' hx'
              simp at hx'
              rcases hx' with rfl | rfl <;> rfl
            · have := HP.out; unfold maxLen; omega
            · have := HP.out; omega
            · have := HG.out.size; simp; omega
            intro v' w4 hown' hgrow _
            have HO4 := Lib.hid (show w4.ownsRow w.heap.size 59 2 v' (flt (pre ++ [(s, a + a2)])).length (moCs (flt (pre ++ [(s, a + a2)]))) by rw [e1.out, List.length_append, moCs_snoc]; exact hown')
            have HG4 := Lib.hid (grown_own (grown_alloc HG.out _) (World.ownsRow.alloc hO.out _) (Nat.le_refl _) hgrow)
            have HF4 := Lib.hid (show w4.cell? ⟨gf, 0, none⟩ = some (.bool g') ∧ w4.frozen? ⟨gf, 0, none⟩ = false ∧ g' = (f && (pre ++ [(s, a + a2)]).all fun m => fit64 m.2) from ⟨own_cell (World.ownsRow.alloc hO.out _) hgrow hgf (kp ((Below.refl w5.heap.size w5).alloc (Nat.le_refl _) _) (lt_of_cell HF.out.1) HF.out.1), own_frozen (World.ownsRow.alloc hO.out _) hgrow hgf (lt_of_cell (kp ((Below.refl w5.heap.size w5).alloc (Nat.le_refl _) (Obj.cells #[Value.string s, Value.int .i64 C] 59)) (lt_of_cell HF.out.1) HF.out.1)) ((((Below.refl w5.heap.size w5).alloc (Nat.le_refl _) _).frozen (p := ⟨gf, 0, none⟩) (lt_of_cell HF.out.1)).trans HF.out.2.1), HF.out.2.2⟩)
            have HP4 := Lib.hid (show (pre ++ [(s, a + a2)]).length + xa.length + ya.length ≤ 10000 ∧ (flt (pre ++ [(s, a + a2)])).length ≤ (pre ++ [(s, a + a2)]).length by have := HP.out; rw [e1.out, List.length_append, List.length_append]; simp only [List.length_singleton]; omega)
            obtain ⟨q4, c4, rfl⟩ := own_slice HO4.out
            clear hi hz0 hz1 hz2 HG hO HF HP hown' hgrow
            go_wp2_with fail
            go_quiet (fail)
            replace HG4 := Lib.hid (grown_drewN HG4.out nq)
            replace HO4 := Lib.hid (show (w4.drewN nq).ownsRow w.heap.size 59 2 _ (flt (pre ++ [(s, a + a2)])).length (moCs (flt (pre ++ [(s, a + a2)]))) from HO4.out)
            replace HF4 := Lib.hid (show (w4.drewN nq).cell? ⟨gf, 0, none⟩ = some (.bool g') ∧ (w4.drewN nq).frozen? ⟨gf, 0, none⟩ = false ∧ g' = (f && (pre ++ [(s, a + a2)]).all fun m => fit64 m.2) from HF4.out)
            go_wp2
            go_roundw
            case rel => exact ⟨A, B, xa, ya, pre ++ [(s, a + a2)], ca - 1, cb - 1, xa.length, ya.length, g', rfl, rfl, by omega, by omega, by omega, by omega, Lib.hid ⟨rfl, rfl⟩, HP4, SA2, SB2, hpa2, hpb2, HM1, hxa2, hya2, HG4, HO4, HF4⟩
            case measure => simp [lenS]; omega
        · have L1 : Op.bytesLess s.toList s2.toList = false := by rw [slt_less]; exact decide_eq_false (slt_asymm hlt)
          have L2 : Op.bytesLess s2.toList s.toList = true := by rw [slt_less]; exact decide_eq_true hlt
          have HM2 : Hid ((pre ++ [(s2, a2)]) ++ mg ((s, a) :: xa) ya = V) := Lib.hid (by
            have h := HM.out
            rw [mg_gt hlt] at h
            rw [List.append_assoc]
            exact h)
          have e1 := Lib.hid (flt_take (pre := pre) yx)
          have e2 := Lib.hid yx.fit
          clear yx HM hlt
          go_wp2_with fail
          go_quiet (fail)
          replace HG := Lib.hid (grown_drewN HG.out nq)
          replace hO := Lib.hid (show (wr.drewN nq).ownsRow w.heap.size 59 2 _ (flt pre).length (moCs (flt pre)) from hO.out)
          replace HF := Lib.hid (show (wr.drewN nq).cell? ⟨gf, 0, none⟩ = some (.bool g) ∧ (wr.drewN nq).frozen? ⟨gf, 0, none⟩ = false ∧ g = (f && pre.all fun m => fit64 m.2) from HF.out)
          replace d0 : (wr.drewN nq).cell? ⟨b, o, none⟩ = some (.string s) := d0
          replace d1 : (wr.drewN nq).cell? ⟨b, o + 1, none⟩ = some (.int .i64 a) := d1
          replace k0 : (wr.drewN nq).cell? ⟨b2, o2, none⟩ = some (.string s2) := k0
          replace k1 : (wr.drewN nq).cell? ⟨b2, o2 + 1, none⟩ = some (.int .i64 a2) := k1
          generalize wr.drewN nq = wr at *
          go_wp2_with fail
          go_quiet (fail)
          replace HG := Lib.hid (grown_drewN HG.out nq)
          replace hO := Lib.hid (show (wr.drewN nq).ownsRow w.heap.size 59 2 _ (flt pre).length (moCs (flt pre)) from hO.out)
          replace HF := Lib.hid (show (wr.drewN nq).cell? ⟨gf, 0, none⟩ = some (.bool g) ∧ (wr.drewN nq).frozen? ⟨gf, 0, none⟩ = false ∧ g = (f && pre.all fun m => fit64 m.2) from HF.out)
          replace d0 : (wr.drewN nq).cell? ⟨b, o, none⟩ = some (.string s) := d0
          replace d1 : (wr.drewN nq).cell? ⟨b, o + 1, none⟩ = some (.int .i64 a) := d1
          replace k0 : (wr.drewN nq).cell? ⟨b2, o2, none⟩ = some (.string s2) := k0
          replace k1 : (wr.drewN nq).cell? ⟨b2, o2 + 1, none⟩ = some (.int .i64 a2) := k1
          generalize wr.drewN nq = wr at *
          go_wp2_with (at_builtin; refine wpList_append_own _ rfl _ _ 22 rfl w.heap.size 59 i0 (.agg #[.string ⟨#[]⟩, .int .i64 0]) 2 24 Tryd.underlying22 hi hz0 hz1 hz2 rfl (by decide) _ _ _ rfl (World.ownsRow.alloc hO.out _) ⟨wr.heap.size, 0, none⟩ 1 1 [.string s2, .int .i64 a2] rfl rfl ?_ ?_ ?_ ?_ ?_ ?_)
          · intro q' x' hx'
            rcases q' with _ | _ | q'
            · cases hx'; go_cell
            · cases hx'; go_cell
            · simp at hx'
          · intro x' hx'
            simp at hx'
            rcases hx' with rfl | rfl <;> rfl
          · have := HP.out; unfold maxLen; omega
          · have := HP.out; omega
          · have := HG.out.size; simp; omega
          intro v' w4 hown' hgrow _
          have HO4 := Lib.hid (show w4.ownsRow w.heap.size 59 2 v' (flt (pre ++ [(s2, a2)])).length (moCs (flt (pre ++ [(s2, a2)]))) by rw [e1.out, List.length_append, moCs_snoc]; exact hown')
          have HG4 := Lib.hid (grown_own (grown_alloc HG.out _) (World.ownsRow.alloc hO.out _) (Nat.le_refl _) hgrow)
          have HF4 := Lib.hid (show w4.cell? ⟨gf, 0, none⟩ = some (.bool g) ∧ w4.frozen? ⟨gf, 0, none⟩ = false ∧ g = (f && (pre ++ [(s2, a2)]).all fun m => fit64 m.2) from ⟨own_cell (World.ownsRow.alloc hO.out _) hgrow hgf (kp ((Below.refl wr.heap.size wr).alloc (Nat.le_refl _) _) (lt_of_cell HF.out.1) HF.out.1), own_frozen (World.ownsRow.alloc hO.out _) hgrow hgf (lt_of_cell (kp ((Below.refl wr.heap.size wr).alloc (Nat.le_refl _) (Obj.cells #[Value.string s2, Value.int .i64 a2] 59)) (lt_of_cell HF.out.1) HF.out.1)) ((((Below.refl wr.heap.size wr).alloc (Nat.le_refl _) _).frozen (p := ⟨gf, 0, none⟩) (lt_of_cell HF.out.1)).trans HF.out.2.1), by rw [HF.out.2.2, List.all_append]; simp [e2.out]⟩)
          have HP4 := Lib.hid (show (pre ++ [(s2, a2)]).length + (xa.length + 1) + ya.length ≤ 10000 ∧ (flt (pre ++ [(s2, a2)])).length ≤ (pre ++ [(s2, a2)]).length by have := HP.out; rw [e1.out, List.length_append, List.length_append]; simp only [List.length_singleton]; omega)
          obtain ⟨q4, c4, rfl⟩ := own_slice HO4.out
          clear hi hz0 hz1 hz2 HG hO HF HP hown' hgrow
          go_wp2
          go_roundw
          case rel => exact ⟨some ⟨b, o, none⟩, B, ((s, a) :: xa), ya, pre ++ [(s2, a2)], ca, cb - 1, (xa.length + 1), ya.length, g, rfl, rfl, by omega, by omega, by omega, by omega, Lib.hid ⟨by simp, rfl⟩, HP4, SA, SB2, hpa, hpb2, HM2, hxa, hya2, HG4, HO4, HF4⟩
          case measure => simp [lenS] <;> omega
set_option maxRecDepth 100000 in
set_option maxHeartbeats 32000000 in
theorem add1d (k : Int) (p : Option Addr) (xs : List Mo) (c : Nat) (k' : Int) (q : Option Addr) (ys : List Mo) (d : Nat) (w : World) (hn : xs.length ≤ 5000) (hm : ys.length ≤ 5000) (hc : xs.length ≤ c) (hd : ys.length ≤ d) (RA : Hid (SlM w p xs)) (RB : Hid (SlM w q ys))
    (RS : Hid (∀ i, i < xs.length → (xs.getD i mo0).1.size ≤ maxLen ∧ -9223372036854775808 ≤ (xs.getD i mo0).2 ∧ (xs.getD i mo0).2 ≤ 9223372036854775807)) (RT : Hid (∀ i, i < ys.length → (ys.getD i mo0).1.size ≤ maxLen ∧ -9223372036854775808 ≤ (ys.getD i mo0).2 ∧ (ys.getD i mo0).2 ≤ 9223372036854775807))
    (k1 : -9223372036854775808 ≤ k) (k2 : k ≤ 9223372036854775807) (b1 : -9223372036854775808 ≤ k') (b2 : k' ≤ 9223372036854775807) :
    Calls Tryd.prog 67 #[Lv k p xs.length c, Lv k' q ys.length d] w (LRd (adR k xs k' ys).1 (adR k xs k' ys).2.1 (adR k xs k' ys).2.2 w) := by
  have C1 := Lib.hid fun (u : World) (h : Hid (SlM u p xs)) => val1 k p xs c u (by unfold maxLen; omega) h (Lib.hid fun i hi => (RS.out i hi).1)
  have C2 := Lib.hid fun (u : World) (h : Hid (SlM u q ys)) => val1 k' q ys d u (by unfold maxLen; omega) h (Lib.hid fun i hi => (RT.out i hi).1)
  have B0 : Below w.heap.size w (((w.alloc (Obj.cells #[Value.int .i64 k, Value.slice p xs.length c] 24)).alloc (Obj.cells #[Value.int .i64 k', Value.slice q ys.length d] 24)).alloc (Obj.cells #[Value.int .i64 0, Value.slice none 0 0] 24)) := ((((Below.refl _ _).alloc (Nat.le_refl _) _).alloc (by simp) _).alloc (by simp; omega) _)
  have S0 : w.heap.size + 2 < ((((w.alloc (Obj.cells #[Value.int .i64 k, Value.slice p xs.length c] 24)).alloc (Obj.cells #[Value.int .i64 k', Value.slice q ys.length d] 24)).alloc (Obj.cells #[Value.int .i64 0, Value.slice none 0 0] 24))).heap.size := by simp
  have F0 : Cl [(w.heap.size, 0, .int .i64 k), (w.heap.size, 1, .slice p xs.length c), (w.heap.size + 1, 0, .int .i64 k'), (w.heap.size + 1, 1, .slice q ys.length d), (w.heap.size + 1 + 1, 0, .int .i64 0), (w.heap.size + 1 + 1, 1, .slice none 0 0)] (((w.alloc (Obj.cells #[Value.int .i64 k, Value.slice p xs.length c] 24)).alloc (Obj.cells #[Value.int .i64 k', Value.slice q ys.length d] 24)).alloc (Obj.cells #[Value.int .i64 0, Value.slice none 0 0] 24)) := (Cl.cons (by go_cell) (by first | go_cell | simp) (Cl.cons (by go_cell) (by first | go_cell | simp) (Cl.cons (by go_cell) (by first | go_cell | simp) (Cl.cons (by go_cell) (by first | go_cell | simp) (Cl.cons (by go_cell) (by first | go_cell | simp) (Cl.cons (by go_cell) (by first | go_cell | simp) (Cl.nil _)))))))
  obtain ⟨R, hRR⟩ : ∃ R, adR k xs k' ys = R := ⟨_, rfl⟩
  have hR : R = if okL xs = false ∨ okL ys = false then (0, [], 1) else if adF k k' (mg xs ys) = true then (wrap64 (k + k'), flt (mg xs ys), 0) else (0, [], 3) := by rw [← hRR]; rfl
  rw [hRR]
  clear hRR
  unfold Lv at *
  obtain ⟨ok, hok⟩ : ∃ ok, okL xs = ok := ⟨_, rfl⟩
  obtain ⟨ok2, hok2⟩ : ∃ ok, okL ys = ok := ⟨_, rfl⟩
  cases ok
  · have hv : vL xs = 1 := by unfold vL; rw [hok]; rfl
    have HR := Lib.hid (hR.trans (if_pos (.inl hok)))
    rw [hv] at C1
    clear hR hok hok2 hv
    go_enter Tryd.func67, Tryd.ntmps67
    go_wp2_with fail
    generalize (((w.alloc (Obj.cells #[Value.int .i64 k, Value.slice p xs.length c] 24)).alloc (Obj.cells #[Value.int .i64 k', Value.slice q ys.length d] 24)).alloc (Obj.cells #[Value.int .i64 0, Value.slice none 0 0] 24)) = z at *
    have q0 := F0.head
    have q1 := F0.tail.head
    have q2 := F0.tail.tail.head
    have q3 := F0.tail.tail.tail.head
    refine (C1.out _ (Lib.hid (SlM.keep B0 RA.out))).mono ?_
    rintro e w1 ⟨rfl, hb⟩
    have F1 := F0.below hb
    have K1 := B0.trans (hb.mono B0.size)
    clear F0 hb B0 S0 q0 q1 q2 q3
    have q4 := F1.tail.tail.tail.tail.head
    have zq4 := F1.tail.tail.tail.tail.headF
    have q5 := F1.tail.tail.tail.tail.tail.head
    have zq5 := F1.tail.tail.tail.tail.tail.headF
    go_wp2
    exact bodyPost_ret (v := .tuple #[.agg #[.int .i64 0, .slice none 0 0], .int .i64 1]) (by simp [results, Tryd.results67, go_sem, q4, q5]) rfl (by rw [HR.out]; exact LRd.zero rfl (below2 K1 (by omega) _ _))
  · have hv : vL xs = 0 := by unfold vL; rw [hok]; rfl
    rw [hv] at C1
    clear hv
    cases ok2
    · have hv : vL ys = 1 := by unfold vL; rw [hok2]; rfl
      have HR := Lib.hid (hR.trans (if_pos (.inr hok2)))
      rw [hv] at C2
      clear hR hok hok2 hv
      go_enter Tryd.func67, Tryd.ntmps67
      go_wp2_with fail
      generalize (((w.alloc (Obj.cells #[Value.int .i64 k, Value.slice p xs.length c] 24)).alloc (Obj.cells #[Value.int .i64 k', Value.slice q ys.length d] 24)).alloc (Obj.cells #[Value.int .i64 0, Value.slice none 0 0] 24)) = z at *
      have q0 := F0.head
      have q1 := F0.tail.head
      have q2 := F0.tail.tail.head
      have q3 := F0.tail.tail.tail.head
      refine (C1.out _ (Lib.hid (SlM.keep B0 RA.out))).mono ?_
      rintro e w1 ⟨rfl, hb⟩
      replace F0 := F0.below hb
      replace B0 := B0.trans (hb.mono B0.size)
      clear hb S0 q0 q1 q2 q3
      have q0 := F0.head
      have q1 := F0.tail.head
      have q2 := F0.tail.tail.head
      have q3 := F0.tail.tail.tail.head
      go_wp2_with fail
      refine (C2.out _ (Lib.hid (SlM.keep B0 RB.out))).mono ?_
      rintro e w2 ⟨rfl, hb⟩
      have F1 := F0.below hb
      have K1 := B0.trans (hb.mono B0.size)
      clear F0 hb B0 q0 q1 q2 q3
      have q4 := F1.tail.tail.tail.tail.head
      have zq4 := F1.tail.tail.tail.tail.headF
      have q5 := F1.tail.tail.tail.tail.tail.head
      have zq5 := F1.tail.tail.tail.tail.tail.headF
      go_wp2
      exact bodyPost_ret (v := .tuple #[.agg #[.int .i64 0, .slice none 0 0], .int .i64 1]) (by simp [results, Tryd.results67, go_sem, q4, q5]) rfl (by rw [HR.out]; exact LRd.zero rfl (below2 K1 (by omega) _ _))
    · have hv : vL ys = 0 := by unfold vL; rw [hok2]; rfl
      rw [hv] at C2
      replace hR := hR.trans (if_neg (by rw [hok, hok2]; decide))
      have HX := Lib.hid (okM_of hok RS.out)
      have HY := Lib.hid (okM_of hok2 RT.out)
      obtain ⟨v, hV⟩ : ∃ v, ((true && fit64 (k + k')) && (mg xs ys).all fun m => fit64 m.2) = v := ⟨_, rfl⟩
      have HV := Lib.hid hV
      have HRt := Lib.hid fun h : v = true => hR.trans (if_pos (show adF k k' (mg xs ys) = true by unfold adF; rw [← h, ← hV, Bool.true_and]))
      have HRf := Lib.hid fun h : v = false => hR.trans (if_neg (show ¬ adF k k' (mg xs ys) = true by unfold adF; rw [Bool.true_and] at hV; rw [hV, h]; decide))
      clear hR hok hok2 hv hV
      go_enter Tryd.func67, Tryd.ntmps67
      go_wp2_with fail
      generalize (((w.alloc (Obj.cells #[Value.int .i64 k, Value.slice p xs.length c] 24)).alloc (Obj.cells #[Value.int .i64 k', Value.slice q ys.length d] 24)).alloc (Obj.cells #[Value.int .i64 0, Value.slice none 0 0] 24)) = z at *
      have q0 := F0.head
      have q1 := F0.tail.head
      have q2 := F0.tail.tail.head
      have q3 := F0.tail.tail.tail.head
      refine (C1.out _ (Lib.hid (SlM.keep B0 RA.out))).mono ?_
      rintro e w1 ⟨rfl, hb⟩
      replace F0 := F0.below hb
      replace B0 := B0.trans (hb.mono B0.size)
      replace S0 := Nat.lt_of_lt_of_le S0 hb.size
      clear hb q0 q1 q2 q3
      have q0 := F0.head
      have q1 := F0.tail.head
      have q2 := F0.tail.tail.head
      have q3 := F0.tail.tail.tail.head
      go_wp2_with fail
      refine (C2.out _ (Lib.hid (SlM.keep B0 RB.out))).mono ?_
      rintro e w2 ⟨rfl, hb⟩
      replace F0 := F0.below hb
      replace B0 := B0.trans (hb.mono B0.size)
      replace S0 := Nat.lt_of_lt_of_le S0 hb.size
      clear hb q0 q1 q2 q3
      have FX := Cl.cons (b := w2.heap.size) (o := 0) (v := .bool true) (by go_cell) (by first | go_cell | simp) (F0.below ((Below.refl _ _).alloc (Nat.le_refl _) (Obj.cells #[Value.bool true] 4)))
      have KX := B0.alloc B0.size (Obj.cells #[Value.bool true] 4)
      have hsz : w2.heap.size < (w2.alloc (Obj.cells #[Value.bool true] 4)).heap.size := by simp
      clear F0 B0 C1 C2
      go_wp2_with fail
      generalize w2.alloc (Obj.cells #[Value.bool true] 4) = u1 at *
      generalize w2.heap.size = gf at *
      have CP := Lib.hid fun (x y : Int) (g : Bool) (u : World) h1 h2 => plus1 k k' g gf u k1 k2 b1 b2 h1 h2
      have CM := Lib.hid fun (g : Bool) (u : World) h1 h2 h3 h4 => merge1d p q xs ys c d g gf u HX HY hn hm hc hd h1 h2 (Lib.hid fun b o e hne => by have := Sl_lt RA.out b o e hne; omega) (Lib.hid fun b o e hne => by have := Sl_lt RB.out b o e hne; omega) h3 h4
      replace CP := Lib.hid (CP.out 0 0)
      obtain ⟨V, hVV⟩ : ∃ V, flt (mg xs ys) = V := ⟨_, rfl⟩
      rw [hVV] at CM HRt
      clear hVV
      replace FX : Cl [(gf, 0, .bool true), (w.heap.size, 0, .int .i64 k), (w.heap.size, 1, .slice p xs.length c), (w.heap.size + 1, 0, .int .i64 k'), (w.heap.size + 1, 1, .slice q ys.length d), (w.heap.size + 1 + 1, 0, .int .i64 0), (w.heap.size + 1 + 1, 1, .slice none 0 0)] u1.drew := FX
      replace KX := KX.drew
      replace hsz : gf < u1.drew.heap.size := hsz
      have hz9 : u1.drew.cell? ⟨w.heap.size, 0, none⟩ = some (.int .i64 k) ∧ u1.drew.cell? ⟨w.heap.size, 1, none⟩ = some (.slice p xs.length c) ∧ u1.drew.cell? ⟨w.heap.size + 1, 0, none⟩ = some (.int .i64 k') ∧ u1.drew.cell? ⟨w.heap.size + 1, 1, none⟩ = some (.slice q ys.length d) := ⟨(FX w.heap.size 0 (.int .i64 k) (by simp)).1, (FX w.heap.size 1 (.slice p xs.length c) (by simp)).1, (FX (w.heap.size + 1) 0 (.int .i64 k') (by simp)).1, (FX (w.heap.size + 1) 1 (.slice q ys.length d) (by simp)).1⟩
      cases v
      · have HR := Lib.hid (HRf.out rfl)
        clear HRf HRt
        refine Rk.begin (S := fun wS => wS.cell? ⟨w.heap.size, 0, none⟩ = some (.int .i64 k) ∧ wS.cell? ⟨w.heap.size, 1, none⟩ = some (.slice p xs.length c) ∧ wS.cell? ⟨w.heap.size + 1, 0, none⟩ = some (.int .i64 k') ∧ wS.cell? ⟨w.heap.size + 1, 1, none⟩ = some (.slice q ys.length d)) 14 (by kernel_rfl) hz9 (fun hHeld => ?_)
        refine Rk.takeP (i := 0) (v := ?_) rfl (by kernel_rfl) (by kernel_rfl) (by kernel_rfl) (by kernel_rfl) (fun _ _ _ h => h) (Or.inl ⟨by kernel_rfl, ?_⟩) (by assumption) ?_
        rotate_left
        · ((intro w hSw; go_simp) <;> with_reducible rfl)
        try simp only [Act.put, List.setIfInBounds_toArray, List.set_cons_zero, List.set_cons_succ]
        refine Rk.takeP (i := 1) (v := ?_) rfl (by kernel_rfl) (by kernel_rfl) (by kernel_rfl) (by kernel_rfl) (fun _ _ _ h => h) (Or.inl ⟨by kernel_rfl, ?_⟩) (by assumption) ?_
        rotate_left
        · ((intro w hSw; go_simp) <;> with_reducible rfl)
        try simp only [Act.put, List.setIfInBounds_toArray, List.set_cons_zero, List.set_cons_succ]
        refine Rk.take [14] (i := 2) (v := ?_) rfl (by kernel_rfl) (by kernel_rfl) (by kernel_rfl) (by kernel_rfl) (by kernel_rfl) (fun _ _ _ h => h) (Or.inl ⟨by kernel_rfl, ?_⟩) (by assumption) ?_
        rotate_left
        · ((intro w hSw; (try dsimp only at hSw); go_simp) <;> with_reducible rfl)
        try simp only [Act.put, List.setIfInBounds_toArray, List.set_cons_zero, List.set_cons_succ]
        refine Rk.takeP (i := 3) (v := ?_) rfl (by kernel_rfl) (by kernel_rfl) (by kernel_rfl) (by kernel_rfl) (fun _ _ _ h => h) (Or.inl ⟨by kernel_rfl, ?_⟩) (by assumption) ?_
        rotate_left
        · ((intro w hSw; go_simp) <;> with_reducible rfl)
        try simp only [Act.put, List.setIfInBounds_toArray, List.set_cons_zero, List.set_cons_succ]
        refine Rk.take [14] (i := 4) (v := ?_) rfl (by kernel_rfl) (by kernel_rfl) (by kernel_rfl) (by kernel_rfl) (by kernel_rfl) (fun _ _ _ h => h) (Or.inl ⟨by kernel_rfl, ?_⟩) (by assumption) ?_
        rotate_left
        · ((intro w hSw; (try dsimp only at hSw); go_simp) <;> with_reducible rfl)
        try simp only [Act.put, List.setIfInBounds_toArray, List.set_cons_zero, List.set_cons_succ]
        refine Rk.takeP (i := 6) (v := ?_) rfl (by kernel_rfl) (by kernel_rfl) (by kernel_rfl) (by kernel_rfl) (fun _ _ _ h => h) (Or.inl ⟨by kernel_rfl, ?_⟩) (by assumption) ?_
        rotate_left
        · ((intro w hSw; go_simp) <;> with_reducible rfl)
        try simp only [Act.put, List.setIfInBounds_toArray, List.set_cons_zero, List.set_cons_succ]
        refine Rk.take [14] (i := 7) (v := ?_) rfl (by kernel_rfl) (by kernel_rfl) (by kernel_rfl) (by kernel_rfl) (by kernel_rfl) (fun _ _ _ h => h) (Or.inl ⟨by kernel_rfl, ?_⟩) (by assumption) ?_
        rotate_left
        · ((intro w hSw; (try dsimp only at hSw); go_simp) <;> with_reducible rfl)
        try simp only [Act.put, List.setIfInBounds_toArray, List.set_cons_zero, List.set_cons_succ]
        refine Rk.takeP (i := 8) (v := ?_) rfl (by kernel_rfl) (by kernel_rfl) (by kernel_rfl) (by kernel_rfl) (fun _ _ _ h => h) (Or.inl ⟨by kernel_rfl, ?_⟩) (by assumption) ?_
        rotate_left
        · ((intro w hSw; go_simp) <;> with_reducible rfl)
        try simp only [Act.put, List.setIfInBounds_toArray, List.set_cons_zero, List.set_cons_succ]
        refine Rk.take [14] (i := 9) (v := ?_) rfl (by kernel_rfl) (by kernel_rfl) (by kernel_rfl) (by kernel_rfl) (by kernel_rfl) (fun _ _ _ h => h) (Or.inl ⟨by kernel_rfl, ?_⟩) (by assumption) ?_
        rotate_left
        · ((intro w hSw; (try dsimp only at hSw); go_simp) <;> with_reducible rfl)
        try simp only [Act.put, List.setIfInBounds_toArray, List.set_cons_zero, List.set_cons_succ]
        refine Rk.takeP (i := 10) (v := ?_) rfl (by kernel_rfl) (by kernel_rfl) (by kernel_rfl) (by kernel_rfl) (fun _ _ _ h => h) (Or.inl ⟨by kernel_rfl, ?_⟩) (by assumption) ?_
        rotate_left
        · ((intro w hSw; go_simp) <;> with_reducible rfl)
        try simp only [Act.put, List.setIfInBounds_toArray, List.set_cons_zero, List.set_cons_succ]
        refine Rk.two (i := 5) (j := 13) (by kernel_rfl) rfl rfl (fun KK hK => ?_) (fun KK hK => ?_)
        · rw [if_pos (by kernel_rfl)]
          go_simp
          have hA := (FX gf 0 (.bool true) (by simp)).1
          have hB := (FX gf 0 (.bool true) (by simp)).2
          ((with_reducible refine (CP.out true u1.drew hA hB).mono ?_); rintro e u2 ⟨rfl, hg, hc, hz⟩)
          replace FX := Cl.cons hc hz ((FX.sub (L' := [(w.heap.size, 0, .int .i64 k), (w.heap.size, 1, .slice p xs.length c), (w.heap.size + 1, 0, .int .i64 k'), (w.heap.size + 1, 1, .slice q ys.length d), (w.heap.size + 1 + 1, 0, .int .i64 0), (w.heap.size + 1 + 1, 1, .slice none 0 0)]) (by intro x hx; simp only [List.mem_cons, List.not_mem_nil, or_false] at hx ⊢; rcases hx with h | h | h | h | h | h <;> simp [h])).grown hg (by simp only [List.forall_mem_cons, ne_eq, Option.some.injEq]; simp; omega))
          replace KX := below_grown KX hg KX.size (by intro q' hq'; cases hq'; omega)
          replace hsz : gf < u2.heap.size := Nat.lt_of_lt_of_le hsz hg.size
          clear hg hc hz hA hB
          refine hK.out _ _ ⟨(FX w.heap.size 0 (.int .i64 k) (by simp)).1, (FX w.heap.size 1 (.slice p xs.length c) (by simp)).1, (FX (w.heap.size + 1) 0 (.int .i64 k') (by simp)).1, (FX (w.heap.size + 1) 1 (.slice q ys.length d) (by simp)).1⟩ (fun hHeld => ?_)
          clear hK KK
          refine Rk.two (i := 11) (j := 13) (by kernel_rfl) rfl rfl (fun KK hK => ?_) (fun KK hK => ?_)
          · rw [if_pos (by kernel_rfl)]
            go_simp
            have hA := (FX gf 0 (.bool (true && fit64 (k + k'))) (by simp)).1
            have hB := (FX gf 0 (.bool (true && fit64 (k + k'))) (by simp)).2
            have hC := Lib.hid (SlM.keep KX RA.out)
            have hD := Lib.hid (SlM.keep KX RB.out)
            ((with_reducible refine (CM.out (true && fit64 (k + k')) u2 hC hD hA hB).mono ?_); rintro e u3 ⟨pl, cl, rfl, hcl, SL, hg, hc, hz, hbk⟩)
            rw [HV.out] at hc
            replace FX := Cl.cons hc hz ((FX.sub (L' := [(w.heap.size, 0, .int .i64 k), (w.heap.size, 1, .slice p xs.length c), (w.heap.size + 1, 0, .int .i64 k'), (w.heap.size + 1, 1, .slice q ys.length d), (w.heap.size + 1 + 1, 0, .int .i64 0), (w.heap.size + 1 + 1, 1, .slice none 0 0)]) (by intro x hx; simp only [List.mem_cons, List.not_mem_nil, or_false] at hx ⊢; rcases hx with h | h | h | h | h | h <;> simp [h])).grown hg (by simp only [List.forall_mem_cons, ne_eq, Option.some.injEq]; simp; omega))
            have hlt8 := Sl_lt SL
            have hnr : ∀ b o, pl = some ⟨b, o, none⟩ → V ≠ [] → b ≠ w.heap.size + 1 + 1 := fun b o h1 _ => by have := hbk b o h1; omega
            replace KX := below_grown KX hg KX.size (by intro q' hq'; cases hq'; omega)
            replace hsz : gf < u3.heap.size := Nat.lt_of_lt_of_le hsz hg.size
            clear hg hc hz hbk hA hB hC hD
            refine hK.out _ _ ⟨(FX w.heap.size 0 (.int .i64 k) (by simp)).1, (FX w.heap.size 1 (.slice p xs.length c) (by simp)).1, (FX (w.heap.size + 1) 0 (.int .i64 k') (by simp)).1, (FX (w.heap.size + 1) 1 (.slice q ys.length d) (by simp)).1⟩ (fun hHeld => ?_)
            clear hK KK
            refine Rk.takeP (i := 12) (v := ?_) rfl (by kernel_rfl) (by kernel_rfl) (by kernel_rfl) (by kernel_rfl) (fun _ _ _ h => h) (Or.inl ⟨by kernel_rfl, ?_⟩) (by assumption) ?_
            rotate_left
            · ((intro w hSw; go_simp) <;> with_reducible rfl)
            try simp only [Act.put, List.setIfInBounds_toArray, List.set_cons_zero, List.set_cons_succ]
            refine Rk.one (i := 13) (by kernel_rfl) rfl (fun KK hK => ?_)
            rw [if_pos (by kernel_rfl)]
            go_simp
            have BA : Below u3.heap.size u3 (u3.alloc (Obj.cells #[Value.int .i64 0, Value.slice none 0 0] 24)) := (Below.refl u3.heap.size u3).alloc (Nat.le_refl _) (Obj.cells #[Value.int .i64 0, Value.slice none 0 0] 24)
            replace FX := Cl.cons (u := (u3.alloc (Obj.cells #[Value.int .i64 0, Value.slice none 0 0] 24))) (b := u3.heap.size) (o := 0) (v := .int .i64 0) (by go_cell) (by first | go_cell | simp) (Cl.cons (b := u3.heap.size) (o := 1) (v := .slice none 0 0) (by go_cell) (by first | go_cell | simp) (FX.below BA))
            replace KX := KX.trans (BA.mono KX.size)
            have hg8 : gf < u3.heap.size := hsz
            replace SL := SL.below BA
            have hne8 : ∀ b o, pl = some ⟨b, o, none⟩ → V ≠ [] → b ≠ u3.heap.size := fun b o h1 h2 => Nat.ne_of_lt (hlt8 b o h1 h2)
            replace hsz : gf < (u3.alloc (Obj.cells #[Value.int .i64 0, Value.slice none 0 0] 24)).heap.size := Nat.lt_of_lt_of_le hsz BA.size
            have h8s : u3.heap.size < (u3.alloc (Obj.cells #[Value.int .i64 0, Value.slice none 0 0] 24)).heap.size := by simp
            refine hK.out _ _ ⟨(FX w.heap.size 0 (.int .i64 k) (by simp)).1, (FX w.heap.size 1 (.slice p xs.length c) (by simp)).1, (FX (w.heap.size + 1) 0 (.int .i64 k') (by simp)).1, (FX (w.heap.size + 1) 1 (.slice q ys.length d) (by simp)).1⟩ (fun hHeld => ?_)
            clear hK KK
            generalize (u3.alloc (Obj.cells #[Value.int .i64 0, Value.slice none 0 0] 24)) = uA at *
            generalize u3.heap.size = g8 at *
            have hK : True := trivial
            have KK : True := trivial
            clear hK KK
            refine Rk.tail [14] [_] (by kernel_rfl) (by kernel_rfl) rfl (by decide) ?_
            have e0 := FX.head
            have ze0 := FX.headF
            have e1 := FX.tail.head
            have ze1 := FX.tail.headF
            have e2 := FX.tail.tail.head
            have e3 := FX.tail.tail.tail.tail.tail.tail.tail.head
            have ze3 := FX.tail.tail.tail.tail.tail.tail.tail.headF
            have e4 := FX.tail.tail.tail.tail.tail.tail.tail.tail.head
            have ze4 := FX.tail.tail.tail.tail.tail.tail.tail.tail.headF
            clear FX hHeld
            have hr1 : w.heap.size + 1 + 1 < g8 := by omega
            go_wp2
            exact bodyPost_ret (v := .tuple #[.agg #[.int .i64 0, .slice none 0 0], .int .i64 3]) (by simp [results, Tryd.results67, go_sem, e0, e1, e2, e3, e4, ze0, ze1]) rfl (by rw [HR.out]; exact LRd.zero rfl (below2 (below2 KX (by omega) _ _) (by omega) _ _))
          · rw [if_pos (by kernel_rfl)]
            go_simp
            have BA : Below u2.heap.size u2 (u2.alloc (Obj.cells #[Value.int .i64 0, Value.slice none 0 0] 24)) := (Below.refl u2.heap.size u2).alloc (Nat.le_refl _) (Obj.cells #[Value.int .i64 0, Value.slice none 0 0] 24)
            replace FX := Cl.cons (u := (u2.alloc (Obj.cells #[Value.int .i64 0, Value.slice none 0 0] 24))) (b := u2.heap.size) (o := 0) (v := .int .i64 0) (by go_cell) (by first | go_cell | simp) (Cl.cons (b := u2.heap.size) (o := 1) (v := .slice none 0 0) (by go_cell) (by first | go_cell | simp) (FX.below BA))
            replace KX := KX.trans (BA.mono KX.size)
            have hg8 : gf < u2.heap.size := hsz
            replace hsz : gf < (u2.alloc (Obj.cells #[Value.int .i64 0, Value.slice none 0 0] 24)).heap.size := Nat.lt_of_lt_of_le hsz BA.size
            have h8s : u2.heap.size < (u2.alloc (Obj.cells #[Value.int .i64 0, Value.slice none 0 0] 24)).heap.size := by simp
            refine hK.out _ _ ⟨(FX w.heap.size 0 (.int .i64 k) (by simp)).1, (FX w.heap.size 1 (.slice p xs.length c) (by simp)).1, (FX (w.heap.size + 1) 0 (.int .i64 k') (by simp)).1, (FX (w.heap.size + 1) 1 (.slice q ys.length d) (by simp)).1⟩ (fun hHeld => ?_)
            clear hK KK
            generalize (u2.alloc (Obj.cells #[Value.int .i64 0, Value.slice none 0 0] 24)) = uA at *
            generalize u2.heap.size = g8 at *
            have hK : True := trivial
            have KK : True := trivial
            clear hK KK
            refine Rk.one (i := 11) (by kernel_rfl) rfl (fun KK hK => ?_)
            rw [if_pos (by kernel_rfl)]
            go_simp
            have hA := (FX gf 0 (.bool (true && fit64 (k + k'))) (by simp)).1
            have hB := (FX gf 0 (.bool (true && fit64 (k + k'))) (by simp)).2
            have hC := Lib.hid (SlM.keep KX RA.out)
            have hD := Lib.hid (SlM.keep KX RB.out)
            ((with_reducible refine (CM.out (true && fit64 (k + k')) uA hC hD hA hB).mono ?_); rintro e u3 ⟨pl, cl, rfl, hcl, SL, hg, hc, hz, hbk⟩)
            rw [HV.out] at hc
            replace FX := Cl.cons hc hz ((FX.sub (L' := [(g8, 0, .int .i64 0), (g8, 1, .slice none 0 0), (w.heap.size, 0, .int .i64 k), (w.heap.size, 1, .slice p xs.length c), (w.heap.size + 1, 0, .int .i64 k'), (w.heap.size + 1, 1, .slice q ys.length d), (w.heap.size + 1 + 1, 0, .int .i64 0), (w.heap.size + 1 + 1, 1, .slice none 0 0)]) (by intro x hx; simp only [List.mem_cons, List.not_mem_nil, or_false] at hx ⊢; rcases hx with h | h | h | h | h | h | h | h <;> simp [h])).grown hg (by simp only [List.forall_mem_cons, ne_eq, Option.some.injEq]; simp; omega))
            have hlt8 := Sl_lt SL
            have hnr : ∀ b o, pl = some ⟨b, o, none⟩ → V ≠ [] → b ≠ w.heap.size + 1 + 1 := fun b o h1 _ => by have := hbk b o h1; omega
            have hne8 : ∀ b o, pl = some ⟨b, o, none⟩ → V ≠ [] → b ≠ g8 := fun b o h1 _ => by have := hbk b o h1; omega
            replace KX := below_grown KX hg KX.size (by intro q' hq'; cases hq'; omega)
            replace hsz : gf < u3.heap.size := Nat.lt_of_lt_of_le hsz hg.size
            clear hg hc hz hbk hA hB hC hD
            refine hK.out _ _ ⟨(FX w.heap.size 0 (.int .i64 k) (by simp)).1, (FX w.heap.size 1 (.slice p xs.length c) (by simp)).1, (FX (w.heap.size + 1) 0 (.int .i64 k') (by simp)).1, (FX (w.heap.size + 1) 1 (.slice q ys.length d) (by simp)).1⟩ (fun hHeld => ?_)
            clear hK KK
            refine Rk.takeP (i := 12) (v := ?_) rfl (by kernel_rfl) (by kernel_rfl) (by kernel_rfl) (by kernel_rfl) (fun _ _ _ h => h) (Or.inl ⟨by kernel_rfl, ?_⟩) (by assumption) ?_
            rotate_left
            · ((intro w hSw; go_simp) <;> with_reducible rfl)
            try simp only [Act.put, List.setIfInBounds_toArray, List.set_cons_zero, List.set_cons_succ]
            refine Rk.tail [14] [_] (by kernel_rfl) (by kernel_rfl) rfl (by decide) ?_
            have e2 := FX.head
            have e0 := FX.tail.head
            have ze0 := FX.tail.headF
            have e1 := FX.tail.tail.head
            have ze1 := FX.tail.tail.headF
            have e3 := FX.tail.tail.tail.tail.tail.tail.tail.head
            have ze3 := FX.tail.tail.tail.tail.tail.tail.tail.headF
            have e4 := FX.tail.tail.tail.tail.tail.tail.tail.tail.head
            have ze4 := FX.tail.tail.tail.tail.tail.tail.tail.tail.headF
            clear FX hHeld
            have hr1 : w.heap.size + 1 + 1 < g8 := by omega
            go_wp2
            exact bodyPost_ret (v := .tuple #[.agg #[.int .i64 0, .slice none 0 0], .int .i64 3]) (by simp [results, Tryd.results67, go_sem, e0, e1, e2, e3, e4, ze0, ze1]) rfl (by rw [HR.out]; exact LRd.zero rfl (below2 (below2 KX (by omega) _ _) (by omega) _ _))
        · rw [if_pos (by kernel_rfl)]
          go_simp
          have BA : Below u1.drew.heap.size u1.drew (u1.alloc (Obj.cells #[Value.int .i64 0, Value.slice none 0 0] 24)).drew := below_undrew (((Below.refl u1.heap.size u1).alloc (Nat.le_refl _) (Obj.cells #[Value.int .i64 0, Value.slice none 0 0] 24)).drew)
          replace FX := Cl.cons (u := (u1.alloc (Obj.cells #[Value.int .i64 0, Value.slice none 0 0] 24)).drew) (b := u1.heap.size) (o := 0) (v := .int .i64 0) (by go_cell) (by first | go_cell | simp) (Cl.cons (b := u1.heap.size) (o := 1) (v := .slice none 0 0) (by go_cell) (by first | go_cell | simp) (FX.below BA))
          replace KX := KX.trans (BA.mono KX.size)
          have hg8 : gf < u1.heap.size := hsz
          replace hsz : gf < (u1.alloc (Obj.cells #[Value.int .i64 0, Value.slice none 0 0] 24)).drew.heap.size := Nat.lt_of_lt_of_le hsz BA.size
          have h8s : u1.heap.size < (u1.alloc (Obj.cells #[Value.int .i64 0, Value.slice none 0 0] 24)).drew.heap.size := by simp
          refine hK.out _ _ ⟨(FX w.heap.size 0 (.int .i64 k) (by simp)).1, (FX w.heap.size 1 (.slice p xs.length c) (by simp)).1, (FX (w.heap.size + 1) 0 (.int .i64 k') (by simp)).1, (FX (w.heap.size + 1) 1 (.slice q ys.length d) (by simp)).1⟩ (fun hHeld => ?_)
          clear hK KK
          generalize (u1.alloc (Obj.cells #[Value.int .i64 0, Value.slice none 0 0] 24)).drew = uA at *
          generalize u1.heap.size = g8 at *
          have hK : True := trivial
          have KK : True := trivial
          clear hK KK
          refine Rk.one (i := 5) (by kernel_rfl) rfl (fun KK hK => ?_)
          rw [if_pos (by kernel_rfl)]
          go_simp
          have hA := (FX gf 0 (.bool true) (by simp)).1
          have hB := (FX gf 0 (.bool true) (by simp)).2
          ((with_reducible refine (CP.out true uA hA hB).mono ?_); rintro e u2 ⟨rfl, hg, hc, hz⟩)
          replace FX := Cl.cons hc hz ((FX.sub (L' := [(g8, 0, .int .i64 0), (g8, 1, .slice none 0 0), (w.heap.size, 0, .int .i64 k), (w.heap.size, 1, .slice p xs.length c), (w.heap.size + 1, 0, .int .i64 k'), (w.heap.size + 1, 1, .slice q ys.length d), (w.heap.size + 1 + 1, 0, .int .i64 0), (w.heap.size + 1 + 1, 1, .slice none 0 0)]) (by intro x hx; simp only [List.mem_cons, List.not_mem_nil, or_false] at hx ⊢; rcases hx with h | h | h | h | h | h | h | h <;> simp [h])).grown hg (by simp only [List.forall_mem_cons, ne_eq, Option.some.injEq]; simp; omega))
          replace KX := below_grown KX hg KX.size (by intro q' hq'; cases hq'; omega)
          replace hsz : gf < u2.heap.size := Nat.lt_of_lt_of_le hsz hg.size
          replace h8s : g8 < u2.heap.size := Nat.lt_of_lt_of_le h8s hg.size
          clear hg hc hz hA hB
          refine hK.out _ _ ⟨(FX w.heap.size 0 (.int .i64 k) (by simp)).1, (FX w.heap.size 1 (.slice p xs.length c) (by simp)).1, (FX (w.heap.size + 1) 0 (.int .i64 k') (by simp)).1, (FX (w.heap.size + 1) 1 (.slice q ys.length d) (by simp)).1⟩ (fun hHeld => ?_)
          clear hK KK
          refine Rk.one (i := 11) (by kernel_rfl) rfl (fun KK hK => ?_)
          rw [if_pos (by kernel_rfl)]
          go_simp
          have hA := (FX gf 0 (.bool (true && fit64 (k + k'))) (by simp)).1
          have hB := (FX gf 0 (.bool (true && fit64 (k + k'))) (by simp)).2
          have hC := Lib.hid (SlM.keep KX RA.out)
          have hD := Lib.hid (SlM.keep KX RB.out)
          ((with_reducible refine (CM.out (true && fit64 (k + k')) u2 hC hD hA hB).mono ?_); rintro e u3 ⟨pl, cl, rfl, hcl, SL, hg, hc, hz, hbk⟩)
          rw [HV.out] at hc
          replace FX := Cl.cons hc hz ((FX.sub (L' := [(g8, 0, .int .i64 0), (g8, 1, .slice none 0 0), (w.heap.size, 0, .int .i64 k), (w.heap.size, 1, .slice p xs.length c), (w.heap.size + 1, 0, .int .i64 k'), (w.heap.size + 1, 1, .slice q ys.length d), (w.heap.size + 1 + 1, 0, .int .i64 0), (w.heap.size + 1 + 1, 1, .slice none 0 0)]) (by intro x hx; simp only [List.mem_cons, List.not_mem_nil, or_false] at hx ⊢; rcases hx with h | h | h | h | h | h | h | h <;> simp [h])).grown hg (by simp only [List.forall_mem_cons, ne_eq, Option.some.injEq]; simp; omega))
          have hlt8 := Sl_lt SL
          have hnr : ∀ b o, pl = some ⟨b, o, none⟩ → V ≠ [] → b ≠ w.heap.size + 1 + 1 := fun b o h1 _ => by have := hbk b o h1; omega
          have hne8 : ∀ b o, pl = some ⟨b, o, none⟩ → V ≠ [] → b ≠ g8 := fun b o h1 _ => by have := hbk b o h1; omega
          replace KX := below_grown KX hg KX.size (by intro q' hq'; cases hq'; omega)
          replace hsz : gf < u3.heap.size := Nat.lt_of_lt_of_le hsz hg.size
          clear hg hc hz hbk hA hB hC hD
          refine hK.out _ _ ⟨(FX w.heap.size 0 (.int .i64 k) (by simp)).1, (FX w.heap.size 1 (.slice p xs.length c) (by simp)).1, (FX (w.heap.size + 1) 0 (.int .i64 k') (by simp)).1, (FX (w.heap.size + 1) 1 (.slice q ys.length d) (by simp)).1⟩ (fun hHeld => ?_)
          clear hK KK
          refine Rk.takeP (i := 12) (v := ?_) rfl (by kernel_rfl) (by kernel_rfl) (by kernel_rfl) (by kernel_rfl) (fun _ _ _ h => h) (Or.inl ⟨by kernel_rfl, ?_⟩) (by assumption) ?_
          rotate_left
          · ((intro w hSw; go_simp) <;> with_reducible rfl)
          try simp only [Act.put, List.setIfInBounds_toArray, List.set_cons_zero, List.set_cons_succ]
          refine Rk.tail [14] [_] (by kernel_rfl) (by kernel_rfl) rfl (by decide) ?_
          have e2 := FX.head
          have e0 := FX.tail.head
          have ze0 := FX.tail.headF
          have e1 := FX.tail.tail.head
          have ze1 := FX.tail.tail.headF
          have e3 := FX.tail.tail.tail.tail.tail.tail.tail.head
          have ze3 := FX.tail.tail.tail.tail.tail.tail.tail.headF
          have e4 := FX.tail.tail.tail.tail.tail.tail.tail.tail.head
          have ze4 := FX.tail.tail.tail.tail.tail.tail.tail.tail.headF
          clear FX hHeld
          have hr1 : w.heap.size + 1 + 1 < g8 := by omega
          go_wp2
          exact bodyPost_ret (v := .tuple #[.agg #[.int .i64 0, .slice none 0 0], .int .i64 3]) (by simp [results, Tryd.results67, go_sem, e0, e1, e2, e3, e4, ze0, ze1]) rfl (by rw [HR.out]; exact LRd.zero rfl (below2 (below2 KX (by omega) _ _) (by omega) _ _))
      · have HR := Lib.hid (HRt.out rfl)
        clear HRf HRt
        refine Rk.begin (S := fun wS => wS.cell? ⟨w.heap.size, 0, none⟩ = some (.int .i64 k) ∧ wS.cell? ⟨w.heap.size, 1, none⟩ = some (.slice p xs.length c) ∧ wS.cell? ⟨w.heap.size + 1, 0, none⟩ = some (.int .i64 k') ∧ wS.cell? ⟨w.heap.size + 1, 1, none⟩ = some (.slice q ys.length d)) 14 (by kernel_rfl) hz9 (fun hHeld => ?_)
        refine Rk.takeP (i := 0) (v := ?_) rfl (by kernel_rfl) (by kernel_rfl) (by kernel_rfl) (by kernel_rfl) (fun _ _ _ h => h) (Or.inl ⟨by kernel_rfl, ?_⟩) (by assumption) ?_
        rotate_left
        · ((intro w hSw; go_simp) <;> with_reducible rfl)
        try simp only [Act.put, List.setIfInBounds_toArray, List.set_cons_zero, List.set_cons_succ]
        refine Rk.takeP (i := 1) (v := ?_) rfl (by kernel_rfl) (by kernel_rfl) (by kernel_rfl) (by kernel_rfl) (fun _ _ _ h => h) (Or.inl ⟨by kernel_rfl, ?_⟩) (by assumption) ?_
        rotate_left
        · ((intro w hSw; go_simp) <;> with_reducible rfl)
        try simp only [Act.put, List.setIfInBounds_toArray, List.set_cons_zero, List.set_cons_succ]
        refine Rk.take [14] (i := 2) (v := ?_) rfl (by kernel_rfl) (by kernel_rfl) (by kernel_rfl) (by kernel_rfl) (by kernel_rfl) (fun _ _ _ h => h) (Or.inl ⟨by kernel_rfl, ?_⟩) (by assumption) ?_
        rotate_left
        · ((intro w hSw; (try dsimp only at hSw); go_simp) <;> with_reducible rfl)
        try simp only [Act.put, List.setIfInBounds_toArray, List.set_cons_zero, List.set_cons_succ]
        refine Rk.takeP (i := 3) (v := ?_) rfl (by kernel_rfl) (by kernel_rfl) (by kernel_rfl) (by kernel_rfl) (fun _ _ _ h => h) (Or.inl ⟨by kernel_rfl, ?_⟩) (by assumption) ?_
        rotate_left
        · ((intro w hSw; go_simp) <;> with_reducible rfl)
        try simp only [Act.put, List.setIfInBounds_toArray, List.set_cons_zero, List.set_cons_succ]
        refine Rk.take [14] (i := 4) (v := ?_) rfl (by kernel_rfl) (by kernel_rfl) (by kernel_rfl) (by kernel_rfl) (by kernel_rfl) (fun _ _ _ h => h) (Or.inl ⟨by kernel_rfl, ?_⟩) (by assumption) ?_
        rotate_left
        · ((intro w hSw; (try dsimp only at hSw); go_simp) <;> with_reducible rfl)
        try simp only [Act.put, List.setIfInBounds_toArray, List.set_cons_zero, List.set_cons_succ]
        refine Rk.takeP (i := 6) (v := ?_) rfl (by kernel_rfl) (by kernel_rfl) (by kernel_rfl) (by kernel_rfl) (fun _ _ _ h => h) (Or.inl ⟨by kernel_rfl, ?_⟩) (by assumption) ?_
        rotate_left
        · ((intro w hSw; go_simp) <;> with_reducible rfl)
        try simp only [Act.put, List.setIfInBounds_toArray, List.set_cons_zero, List.set_cons_succ]
        refine Rk.take [14] (i := 7) (v := ?_) rfl (by kernel_rfl) (by kernel_rfl) (by kernel_rfl) (by kernel_rfl) (by kernel_rfl) (fun _ _ _ h => h) (Or.inl ⟨by kernel_rfl, ?_⟩) (by assumption) ?_
        rotate_left
        · ((intro w hSw; (try dsimp only at hSw); go_simp) <;> with_reducible rfl)
        try simp only [Act.put, List.setIfInBounds_toArray, List.set_cons_zero, List.set_cons_succ]
        refine Rk.takeP (i := 8) (v := ?_) rfl (by kernel_rfl) (by kernel_rfl) (by kernel_rfl) (by kernel_rfl) (fun _ _ _ h => h) (Or.inl ⟨by kernel_rfl, ?_⟩) (by assumption) ?_
        rotate_left
        · ((intro w hSw; go_simp) <;> with_reducible rfl)
        try simp only [Act.put, List.setIfInBounds_toArray, List.set_cons_zero, List.set_cons_succ]
        refine Rk.take [14] (i := 9) (v := ?_) rfl (by kernel_rfl) (by kernel_rfl) (by kernel_rfl) (by kernel_rfl) (by kernel_rfl) (fun _ _ _ h => h) (Or.inl ⟨by kernel_rfl, ?_⟩) (by assumption) ?_
        rotate_left
        · ((intro w hSw; (try dsimp only at hSw); go_simp) <;> with_reducible rfl)
        try simp only [Act.put, List.setIfInBounds_toArray, List.set_cons_zero, List.set_cons_succ]
        refine Rk.takeP (i := 10) (v := ?_) rfl (by kernel_rfl) (by kernel_rfl) (by kernel_rfl) (by kernel_rfl) (fun _ _ _ h => h) (Or.inl ⟨by kernel_rfl, ?_⟩) (by assumption) ?_
        rotate_left
        · ((intro w hSw; go_simp) <;> with_reducible rfl)
        try simp only [Act.put, List.setIfInBounds_toArray, List.set_cons_zero, List.set_cons_succ]
        refine Rk.two (i := 5) (j := 13) (by kernel_rfl) rfl rfl (fun KK hK => ?_) (fun KK hK => ?_)
        · rw [if_pos (by kernel_rfl)]
          go_simp
          have hA := (FX gf 0 (.bool true) (by simp)).1
          have hB := (FX gf 0 (.bool true) (by simp)).2
          ((with_reducible refine (CP.out true u1.drew hA hB).mono ?_); rintro e u2 ⟨rfl, hg, hc, hz⟩)
          replace FX := Cl.cons hc hz ((FX.sub (L' := [(w.heap.size, 0, .int .i64 k), (w.heap.size, 1, .slice p xs.length c), (w.heap.size + 1, 0, .int .i64 k'), (w.heap.size + 1, 1, .slice q ys.length d), (w.heap.size + 1 + 1, 0, .int .i64 0), (w.heap.size + 1 + 1, 1, .slice none 0 0)]) (by intro x hx; simp only [List.mem_cons, List.not_mem_nil, or_false] at hx ⊢; rcases hx with h | h | h | h | h | h <;> simp [h])).grown hg (by simp only [List.forall_mem_cons, ne_eq, Option.some.injEq]; simp; omega))
          replace KX := below_grown KX hg KX.size (by intro q' hq'; cases hq'; omega)
          replace hsz : gf < u2.heap.size := Nat.lt_of_lt_of_le hsz hg.size
          clear hg hc hz hA hB
          refine hK.out _ _ ⟨(FX w.heap.size 0 (.int .i64 k) (by simp)).1, (FX w.heap.size 1 (.slice p xs.length c) (by simp)).1, (FX (w.heap.size + 1) 0 (.int .i64 k') (by simp)).1, (FX (w.heap.size + 1) 1 (.slice q ys.length d) (by simp)).1⟩ (fun hHeld => ?_)
          clear hK KK
          refine Rk.two (i := 11) (j := 13) (by kernel_rfl) rfl rfl (fun KK hK => ?_) (fun KK hK => ?_)
          · rw [if_pos (by kernel_rfl)]
            go_simp
            have hA := (FX gf 0 (.bool (true && fit64 (k + k'))) (by simp)).1
            have hB := (FX gf 0 (.bool (true && fit64 (k + k'))) (by simp)).2
            have hC := Lib.hid (SlM.keep KX RA.out)
            have hD := Lib.hid (SlM.keep KX RB.out)
            ((with_reducible refine (CM.out (true && fit64 (k + k')) u2 hC hD hA hB).mono ?_); rintro e u3 ⟨pl, cl, rfl, hcl, SL, hg, hc, hz, hbk⟩)
            rw [HV.out] at hc
            replace FX := Cl.cons hc hz ((FX.sub (L' := [(w.heap.size, 0, .int .i64 k), (w.heap.size, 1, .slice p xs.length c), (w.heap.size + 1, 0, .int .i64 k'), (w.heap.size + 1, 1, .slice q ys.length d), (w.heap.size + 1 + 1, 0, .int .i64 0), (w.heap.size + 1 + 1, 1, .slice none 0 0)]) (by intro x hx; simp only [List.mem_cons, List.not_mem_nil, or_false] at hx ⊢; rcases hx with h | h | h | h | h | h <;> simp [h])).grown hg (by simp only [List.forall_mem_cons, ne_eq, Option.some.injEq]; simp; omega))
            have hlt8 := Sl_lt SL
            have hnr : ∀ b o, pl = some ⟨b, o, none⟩ → V ≠ [] → b ≠ w.heap.size + 1 + 1 := fun b o h1 _ => by have := hbk b o h1; omega
            replace KX := below_grown KX hg KX.size (by intro q' hq'; cases hq'; omega)
            replace hsz : gf < u3.heap.size := Nat.lt_of_lt_of_le hsz hg.size
            clear hg hc hz hbk hA hB hC hD
            refine hK.out _ _ ⟨(FX w.heap.size 0 (.int .i64 k) (by simp)).1, (FX w.heap.size 1 (.slice p xs.length c) (by simp)).1, (FX (w.heap.size + 1) 0 (.int .i64 k') (by simp)).1, (FX (w.heap.size + 1) 1 (.slice q ys.length d) (by simp)).1⟩ (fun hHeld => ?_)
            clear hK KK
            refine Rk.takeP (i := 12) (v := ?_) rfl (by kernel_rfl) (by kernel_rfl) (by kernel_rfl) (by kernel_rfl) (fun _ _ _ h => h) (Or.inl ⟨by kernel_rfl, ?_⟩) (by assumption) ?_
            rotate_left
            · ((intro w hSw; go_simp) <;> with_reducible rfl)
            try simp only [Act.put, List.setIfInBounds_toArray, List.set_cons_zero, List.set_cons_succ]
            refine Rk.one (i := 13) (by kernel_rfl) rfl (fun KK hK => ?_)
            rw [if_pos (by kernel_rfl)]
            go_simp
            have BA : Below u3.heap.size u3 (u3.alloc (Obj.cells #[Value.int .i64 0, Value.slice none 0 0] 24)) := (Below.refl u3.heap.size u3).alloc (Nat.le_refl _) (Obj.cells #[Value.int .i64 0, Value.slice none 0 0] 24)
            replace FX := Cl.cons (u := (u3.alloc (Obj.cells #[Value.int .i64 0, Value.slice none 0 0] 24))) (b := u3.heap.size) (o := 0) (v := .int .i64 0) (by go_cell) (by first | go_cell | simp) (Cl.cons (b := u3.heap.size) (o := 1) (v := .slice none 0 0) (by go_cell) (by first | go_cell | simp) (FX.below BA))
            replace KX := KX.trans (BA.mono KX.size)
            have hg8 : gf < u3.heap.size := hsz
            replace SL := SL.below BA
            have hne8 : ∀ b o, pl = some ⟨b, o, none⟩ → V ≠ [] → b ≠ u3.heap.size := fun b o h1 h2 => Nat.ne_of_lt (hlt8 b o h1 h2)
            replace hsz : gf < (u3.alloc (Obj.cells #[Value.int .i64 0, Value.slice none 0 0] 24)).heap.size := Nat.lt_of_lt_of_le hsz BA.size
            have h8s : u3.heap.size < (u3.alloc (Obj.cells #[Value.int .i64 0, Value.slice none 0 0] 24)).heap.size := by simp
            refine hK.out _ _ ⟨(FX w.heap.size 0 (.int .i64 k) (by simp)).1, (FX w.heap.size 1 (.slice p xs.length c) (by simp)).1, (FX (w.heap.size + 1) 0 (.int .i64 k') (by simp)).1, (FX (w.heap.size + 1) 1 (.slice q ys.length d) (by simp)).1⟩ (fun hHeld => ?_)
            clear hK KK
            generalize (u3.alloc (Obj.cells #[Value.int .i64 0, Value.slice none 0 0] 24)) = uA at *
            generalize u3.heap.size = g8 at *
            have hK : True := trivial
            have KK : True := trivial
            clear hK KK
            refine Rk.tail [14] [_] (by kernel_rfl) (by kernel_rfl) rfl (by decide) ?_
            have e0 := FX.head
            have ze0 := FX.headF
            have e1 := FX.tail.head
            have ze1 := FX.tail.headF
            have e2 := FX.tail.tail.head
            have e3 := FX.tail.tail.tail.tail.tail.tail.tail.head
            have ze3 := FX.tail.tail.tail.tail.tail.tail.tail.headF
            have e4 := FX.tail.tail.tail.tail.tail.tail.tail.tail.head
            have ze4 := FX.tail.tail.tail.tail.tail.tail.tail.tail.headF
            clear FX hHeld
            have hr1 : w.heap.size + 1 + 1 < g8 := by omega
            go_wp2
            exact bodyPost_ret (v := .tuple #[.agg #[.int .i64 (wrap64 (k + k')), .slice pl V.length cl], .int .i64 0]) (by simp [results, Tryd.results67, go_sem, e0, e1, e2, e3, e4, ze0, ze1]) rfl (by rw [HR.out]; exact ⟨pl, cl, rfl, hcl, Sl_set2 (Sl_set2 SL hne8) hnr, below2 (below2 KX (by omega) _ _) (by omega) _ _⟩)
          · rw [if_pos (by kernel_rfl)]
            go_simp
            have BA : Below u2.heap.size u2 (u2.alloc (Obj.cells #[Value.int .i64 0, Value.slice none 0 0] 24)) := (Below.refl u2.heap.size u2).alloc (Nat.le_refl _) (Obj.cells #[Value.int .i64 0, Value.slice none 0 0] 24)
            replace FX := Cl.cons (u := (u2.alloc (Obj.cells #[Value.int .i64 0, Value.slice none 0 0] 24))) (b := u2.heap.size) (o := 0) (v := .int .i64 0) (by go_cell) (by first | go_cell | simp) (Cl.cons (b := u2.heap.size) (o := 1) (v := .slice none 0 0) (by go_cell) (by first | go_cell | simp) (FX.below BA))
            replace KX := KX.trans (BA.mono KX.size)
            have hg8 : gf < u2.heap.size := hsz
            replace hsz : gf < (u2.alloc (Obj.cells #[Value.int .i64 0, Value.slice none 0 0] 24)).heap.size := Nat.lt_of_lt_of_le hsz BA.size
            have h8s : u2.heap.size < (u2.alloc (Obj.cells #[Value.int .i64 0, Value.slice none 0 0] 24)).heap.size := by simp
            refine hK.out _ _ ⟨(FX w.heap.size 0 (.int .i64 k) (by simp)).1, (FX w.heap.size 1 (.slice p xs.length c) (by simp)).1, (FX (w.heap.size + 1) 0 (.int .i64 k') (by simp)).1, (FX (w.heap.size + 1) 1 (.slice q ys.length d) (by simp)).1⟩ (fun hHeld => ?_)
            clear hK KK
            generalize (u2.alloc (Obj.cells #[Value.int .i64 0, Value.slice none 0 0] 24)) = uA at *
            generalize u2.heap.size = g8 at *
            have hK : True := trivial
            have KK : True := trivial
            clear hK KK
            refine Rk.one (i := 11) (by kernel_rfl) rfl (fun KK hK => ?_)
            rw [if_pos (by kernel_rfl)]
            go_simp
            have hA := (FX gf 0 (.bool (true && fit64 (k + k'))) (by simp)).1
            have hB := (FX gf 0 (.bool (true && fit64 (k + k'))) (by simp)).2
            have hC := Lib.hid (SlM.keep KX RA.out)
            have hD := Lib.hid (SlM.keep KX RB.out)
            ((with_reducible refine (CM.out (true && fit64 (k + k')) uA hC hD hA hB).mono ?_); rintro e u3 ⟨pl, cl, rfl, hcl, SL, hg, hc, hz, hbk⟩)
            rw [HV.out] at hc
            replace FX := Cl.cons hc hz ((FX.sub (L' := [(g8, 0, .int .i64 0), (g8, 1, .slice none 0 0), (w.heap.size, 0, .int .i64 k), (w.heap.size, 1, .slice p xs.length c), (w.heap.size + 1, 0, .int .i64 k'), (w.heap.size + 1, 1, .slice q ys.length d), (w.heap.size + 1 + 1, 0, .int .i64 0), (w.heap.size + 1 + 1, 1, .slice none 0 0)]) (by intro x hx; simp only [List.mem_cons, List.not_mem_nil, or_false] at hx ⊢; rcases hx with h | h | h | h | h | h | h | h <;> simp [h])).grown hg (by simp only [List.forall_mem_cons, ne_eq, Option.some.injEq]; simp; omega))
            have hlt8 := Sl_lt SL
            have hnr : ∀ b o, pl = some ⟨b, o, none⟩ → V ≠ [] → b ≠ w.heap.size + 1 + 1 := fun b o h1 _ => by have := hbk b o h1; omega
            have hne8 : ∀ b o, pl = some ⟨b, o, none⟩ → V ≠ [] → b ≠ g8 := fun b o h1 _ => by have := hbk b o h1; omega
            replace KX := below_grown KX hg KX.size (by intro q' hq'; cases hq'; omega)
            replace hsz : gf < u3.heap.size := Nat.lt_of_lt_of_le hsz hg.size
            clear hg hc hz hbk hA hB hC hD
            refine hK.out _ _ ⟨(FX w.heap.size 0 (.int .i64 k) (by simp)).1, (FX w.heap.size 1 (.slice p xs.length c) (by simp)).1, (FX (w.heap.size + 1) 0 (.int .i64 k') (by simp)).1, (FX (w.heap.size + 1) 1 (.slice q ys.length d) (by simp)).1⟩ (fun hHeld => ?_)
            clear hK KK
            refine Rk.takeP (i := 12) (v := ?_) rfl (by kernel_rfl) (by kernel_rfl) (by kernel_rfl) (by kernel_rfl) (fun _ _ _ h => h) (Or.inl ⟨by kernel_rfl, ?_⟩) (by assumption) ?_
            rotate_left
            · ((intro w hSw; go_simp) <;> with_reducible rfl)
            try simp only [Act.put, List.setIfInBounds_toArray, List.set_cons_zero, List.set_cons_succ]
            refine Rk.tail [14] [_] (by kernel_rfl) (by kernel_rfl) rfl (by decide) ?_
            have e2 := FX.head
            have e0 := FX.tail.head
            have ze0 := FX.tail.headF
            have e1 := FX.tail.tail.head
            have ze1 := FX.tail.tail.headF
            have e3 := FX.tail.tail.tail.tail.tail.tail.tail.head
            have ze3 := FX.tail.tail.tail.tail.tail.tail.tail.headF
            have e4 := FX.tail.tail.tail.tail.tail.tail.tail.tail.head
            have ze4 := FX.tail.tail.tail.tail.tail.tail.tail.tail.headF
            clear FX hHeld
            have hr1 : w.heap.size + 1 + 1 < g8 := by omega
            go_wp2
            exact bodyPost_ret (v := .tuple #[.agg #[.int .i64 (wrap64 (k + k')), .slice pl V.length cl], .int .i64 0]) (by simp [results, Tryd.results67, go_sem, e0, e1, e2, e3, e4, ze0, ze1]) rfl (by rw [HR.out]; exact ⟨pl, cl, rfl, hcl, Sl_set2 (Sl_set2 SL hne8) hnr, below2 (below2 KX (by omega) _ _) (by omega) _ _⟩)
        · rw [if_pos (by kernel_rfl)]
          go_simp
          have BA : Below u1.drew.heap.size u1.drew (u1.alloc (Obj.cells #[Value.int .i64 0, Value.slice none 0 0] 24)).drew := below_undrew (((Below.refl u1.heap.size u1).alloc (Nat.le_refl _) (Obj.cells #[Value.int .i64 0, Value.slice none 0 0] 24)).drew)
          replace FX := Cl.cons (u := (u1.alloc (Obj.cells #[Value.int .i64 0, Value.slice none 0 0] 24)).drew) (b := u1.heap.size) (o := 0) (v := .int .i64 0) (by go_cell) (by first | go_cell | simp) (Cl.cons (b := u1.heap.size) (o := 1) (v := .slice none 0 0) (by go_cell) (by first | go_cell | simp) (FX.below BA))
          replace KX := KX.trans (BA.mono KX.size)
          have hg8 : gf < u1.heap.size := hsz
          replace hsz : gf < (u1.alloc (Obj.cells #[Value.int .i64 0, Value.slice none 0 0] 24)).drew.heap.size := Nat.lt_of_lt_of_le hsz BA.size
          have h8s : u1.heap.size < (u1.alloc (Obj.cells #[Value.int .i64 0, Value.slice none 0 0] 24)).drew.heap.size := by simp
          refine hK.out _ _ ⟨(FX w.heap.size 0 (.int .i64 k) (by simp)).1, (FX w.heap.size 1 (.slice p xs.length c) (by simp)).1, (FX (w.heap.size + 1) 0 (.int .i64 k') (by simp)).1, (FX (w.heap.size + 1) 1 (.slice q ys.length d) (by simp)).1⟩ (fun hHeld => ?_)
          clear hK KK
          generalize (u1.alloc (Obj.cells #[Value.int .i64 0, Value.slice none 0 0] 24)).drew = uA at *
          generalize u1.heap.size = g8 at *
          have hK : True := trivial
          have KK : True := trivial
          clear hK KK
          refine Rk.one (i := 5) (by kernel_rfl) rfl (fun KK hK => ?_)
          rw [if_pos (by kernel_rfl)]
          go_simp
          have hA := (FX gf 0 (.bool true) (by simp)).1
          have hB := (FX gf 0 (.bool true) (by simp)).2
          ((with_reducible refine (CP.out true uA hA hB).mono ?_); rintro e u2 ⟨rfl, hg, hc, hz⟩)
          replace FX := Cl.cons hc hz ((FX.sub (L' := [(g8, 0, .int .i64 0), (g8, 1, .slice none 0 0), (w.heap.size, 0, .int .i64 k), (w.heap.size, 1, .slice p xs.length c), (w.heap.size + 1, 0, .int .i64 k'), (w.heap.size + 1, 1, .slice q ys.length d), (w.heap.size + 1 + 1, 0, .int .i64 0), (w.heap.size + 1 + 1, 1, .slice none 0 0)]) (by intro x hx; simp only [List.mem_cons, List.not_mem_nil, or_false] at hx ⊢; rcases hx with h | h | h | h | h | h | h | h <;> simp [h])).grown hg (by simp only [List.forall_mem_cons, ne_eq, Option.some.injEq]; simp; omega))
          replace KX := below_grown KX hg KX.size (by intro q' hq'; cases hq'; omega)
          replace hsz : gf < u2.heap.size := Nat.lt_of_lt_of_le hsz hg.size
          replace h8s : g8 < u2.heap.size := Nat.lt_of_lt_of_le h8s hg.size
          clear hg hc hz hA hB
          refine hK.out _ _ ⟨(FX w.heap.size 0 (.int .i64 k) (by simp)).1, (FX w.heap.size 1 (.slice p xs.length c) (by simp)).1, (FX (w.heap.size + 1) 0 (.int .i64 k') (by simp)).1, (FX (w.heap.size + 1) 1 (.slice q ys.length d) (by simp)).1⟩ (fun hHeld => ?_)
          clear hK KK
          refine Rk.one (i := 11) (by kernel_rfl) rfl (fun KK hK => ?_)
          rw [if_pos (by kernel_rfl)]
          go_simp
          have hA := (FX gf 0 (.bool (true && fit64 (k + k'))) (by simp)).1
          have hB := (FX gf 0 (.bool (true && fit64 (k + k'))) (by simp)).2
          have hC := Lib.hid (SlM.keep KX RA.out)
          have hD := Lib.hid (SlM.keep KX RB.out)
          ((with_reducible refine (CM.out (true && fit64 (k + k')) u2 hC hD hA hB).mono ?_); rintro e u3 ⟨pl, cl, rfl, hcl, SL, hg, hc, hz, hbk⟩)
          rw [HV.out] at hc
          replace FX := Cl.cons hc hz ((FX.sub (L' := [(g8, 0, .int .i64 0), (g8, 1, .slice none 0 0), (w.heap.size, 0, .int .i64 k), (w.heap.size, 1, .slice p xs.length c), (w.heap.size + 1, 0, .int .i64 k'), (w.heap.size + 1, 1, .slice q ys.length d), (w.heap.size + 1 + 1, 0, .int .i64 0), (w.heap.size + 1 + 1, 1, .slice none 0 0)]) (by intro x hx; simp only [List.mem_cons, List.not_mem_nil, or_false] at hx ⊢; rcases hx with h | h | h | h | h | h | h | h <;> simp [h])).grown hg (by simp only [List.forall_mem_cons, ne_eq, Option.some.injEq]; simp; omega))
          have hlt8 := Sl_lt SL
          have hnr : ∀ b o, pl = some ⟨b, o, none⟩ → V ≠ [] → b ≠ w.heap.size + 1 + 1 := fun b o h1 _ => by have := hbk b o h1; omega
          have hne8 : ∀ b o, pl = some ⟨b, o, none⟩ → V ≠ [] → b ≠ g8 := fun b o h1 _ => by have := hbk b o h1; omega
          replace KX := below_grown KX hg KX.size (by intro q' hq'; cases hq'; omega)
          replace hsz : gf < u3.heap.size := Nat.lt_of_lt_of_le hsz hg.size
          clear hg hc hz hbk hA hB hC hD
          refine hK.out _ _ ⟨(FX w.heap.size 0 (.int .i64 k) (by simp)).1, (FX w.heap.size 1 (.slice p xs.length c) (by simp)).1, (FX (w.heap.size + 1) 0 (.int .i64 k') (by simp)).1, (FX (w.heap.size + 1) 1 (.slice q ys.length d) (by simp)).1⟩ (fun hHeld => ?_)
          clear hK KK
          refine Rk.takeP (i := 12) (v := ?_) rfl (by kernel_rfl) (by kernel_rfl) (by kernel_rfl) (by kernel_rfl) (fun _ _ _ h => h) (Or.inl ⟨by kernel_rfl, ?_⟩) (by assumption) ?_
          rotate_left
          · ((intro w hSw; go_simp) <;> with_reducible rfl)
          try simp only [Act.put, List.setIfInBounds_toArray, List.set_cons_zero, List.set_cons_succ]
          refine Rk.tail [14] [_] (by kernel_rfl) (by kernel_rfl) rfl (by decide) ?_
          have e2 := FX.head
          have e0 := FX.tail.head
          have ze0 := FX.tail.headF
          have e1 := FX.tail.tail.head
          have ze1 := FX.tail.tail.headF
          have e3 := FX.tail.tail.tail.tail.tail.tail.tail.head
          have ze3 := FX.tail.tail.tail.tail.tail.tail.tail.headF
          have e4 := FX.tail.tail.tail.tail.tail.tail.tail.tail.head
          have ze4 := FX.tail.tail.tail.tail.tail.tail.tail.tail.headF
          clear FX hHeld
          have hr1 : w.heap.size + 1 + 1 < g8 := by omega
          go_wp2
          exact bodyPost_ret (v := .tuple #[.agg #[.int .i64 (wrap64 (k + k')), .slice pl V.length cl], .int .i64 0]) (by simp [results, Tryd.results67, go_sem, e0, e1, e2, e3, e4, ze0, ze1]) rfl (by rw [HR.out]; exact ⟨pl, cl, rfl, hcl, Sl_set2 (Sl_set2 SL hne8) hnr, below2 (below2 KX (by omega) _ _) (by omega) _ _⟩)
end Go.Proofs.YtbicmlkjonaccaaDoor.Ln
