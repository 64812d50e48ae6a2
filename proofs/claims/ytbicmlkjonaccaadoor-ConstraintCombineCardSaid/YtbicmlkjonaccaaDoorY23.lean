/- Linear forms: the merge of two lists. -/
import Derived.Test.YtbicmlkjonaccaaDoorJ7

namespace Go.Proofs.YtbicmlkjonaccaaDoor.Ln
open Go.ChangeShapes Go.WideShapes Go.ChangeAt Go.RowKit
set_option linter.unusedVariables false
set_option linter.unusedSimpArgs false
def lenS : Value → Nat
  | .slice _ n _ => n
  | _ => 0
def okM (m : Mo) : Prop := m.2 ≠ 0 ∧ -9223372036854775808 ≤ m.2 ∧ m.2 ≤ 9223372036854775807
theorem okM.wrap {m : Mo} (h : okM m) : wrap64 m.2 = m.2 := by unfold okM at h; unfold wrap64; omega
theorem okM.fit {m : Mo} (h : okM m) : fit64 m.2 = true := fit_yes.2 h.2
def MW (L : List Mo) (v : Bool) (gf : Nat) (w : World) (e : Ending) (w' : World) : Prop :=
  ∃ pl cl, e = .returned (.slice pl L.length cl) ∧ SlM w' pl L ∧ w.grownBy w' (some gf) ∧ w'.cell? ⟨gf, 0, none⟩ = some (.bool v) ∧ w'.frozen? ⟨gf, 0, none⟩ = false ∧ ∀ b o, pl = some ⟨b, o, none⟩ → w.heap.size ≤ b
theorem own_blk {w : World} {base : Nat} {v : Value} {n : Nat} {l : List Value} {p : Option Addr} {m c : Nat} (h : w.ownsRow base 59 2 v n l) (hv : v = .slice p m c) : ∀ b o, p = some ⟨b, o, none⟩ → base ≤ b := by
  rintro b o rfl
  subst hv
  exact (h.lt b rfl).1
theorem flt_take {pre : List Mo} {m : Mo} (h : okM m) : flt (pre ++ [m]) = flt pre ++ [m] := by
  rw [flt_snoc, h.wrap, if_neg h.1]
theorem cell_da {w : World} {b o n : Nat} {v : Value} {ob : Obj} (h : w.cell? ⟨b, o, none⟩ = some v) : ((w.drewN n).alloc ob).cell? ⟨b, o, none⟩ = some v :=
  kp (y := w.drewN n) ((Below.refl _ _).alloc (Nat.le_refl _) ob) (lt_of_cell (u := w.drewN n) h) h
theorem frozen_da {w : World} {b o n : Nat} {v : Bool} {ob : Obj} (hb : b < w.heap.size) (h : w.frozen? ⟨b, o, none⟩ = v) : ((w.drewN n).alloc ob).frozen? ⟨b, o, none⟩ = v :=
  (((Below.refl (w.drewN n).heap.size (w.drewN n)).alloc (Nat.le_refl _) ob).frozen (p := ⟨b, o, none⟩) hb).trans h
theorem cell_grown {w u : World} {g b o : Nat} {v : Value} (h : w.grownBy u (some g)) (hb : b ≠ g) (hc : w.cell? ⟨b, o, none⟩ = some v) : u.cell? ⟨b, o, none⟩ = some v := h.cell hc (by simpa using hb)
theorem own_cell {w u : World} {base : Nat} {E : TypeId} {sz n : Nat} {v x : Value} {xs : List Value} {b o : Nat} (hO : w.ownsRow base E sz v n xs) (hg : w.grownBy u v.ownBlock) (hb : b < base) (hc : w.cell? ⟨b, o, none⟩ = some x) : u.cell? ⟨b, o, none⟩ = some x :=
  hg.cell hc (fun e => by have := (hO.lt b e.symm).1; omega)
theorem own_frozen {w u : World} {base : Nat} {E : TypeId} {sz n : Nat} {v : Value} {xs : List Value} {b o : Nat} {f : Bool} (hO : w.ownsRow base E sz v n xs) (hg : w.grownBy u v.ownBlock) (hb : b < base) (hl : b < w.heap.size) (hc : w.frozen? ⟨b, o, none⟩ = f) : u.frozen? ⟨b, o, none⟩ = f :=
  (World.frozen?_of_block (a := ⟨b, o, none⟩) (hg.block b hl (fun e => by have := (hO.lt b e.symm).1; omega))).trans hc
set_option maxRecDepth 100000 in
set_option maxHeartbeats 32000000 in
theorem merge1 (p q : Option Addr) (xs ys : List Mo) (c d : Nat) (f : Bool) (gf : Nat) (w : World) (hx : Hid (∀ m ∈ xs, okM m)) (hy : Hid (∀ m ∈ ys, okM m)) (lx : xs.length ≤ 1000) (ly : ys.length ≤ 1000) (cx : xs.length ≤ c) (cy : ys.length ≤ d)
    (RA : Hid (SlM w p xs)) (RB : Hid (SlM w q ys)) (hp : Hid (∀ b o, p = some ⟨b, o, none⟩ → xs ≠ [] → b ≠ gf)) (hq : Hid (∀ b o, q = some ⟨b, o, none⟩ → ys ≠ [] → b ≠ gf)) (hf : w.cell? ⟨gf, 0, none⟩ = some (.bool f)) (hz : w.frozen? ⟨gf, 0, none⟩ = false) :
    Calls Tryd.prog 97 #[.slice p xs.length c, .slice q ys.length d, .func (.func 96) #[] #[.pointer (some ⟨gf, 0, none⟩)]] w (MW (flt (mg xs ys)) (f && (mg xs ys).all fun m => fit64 m.2) gf w) := by
  have CP := Lib.hid fun (x y : Int) (g : Bool) (u : World) x1 x2 y1 y2 h1 h2 => plus1 x y g gf u x1 x2 y1 y2 h1 h2
  have hgf := lt_of_cell hf
  obtain ⟨V, hV⟩ : ∃ V, mg xs ys = V := ⟨_, rfl⟩
  rw [hV]
  have HV := Lib.hid hV
  clear hV
  obtain ⟨i0, hi, hz0, hz1, hz2⟩ := info_parts infoMo
  have HG0 := Lib.hid (show w.grownBy w (some gf) from ⟨rfl, rfl, rfl, Nat.le_refl _, fun _ _ _ => rfl⟩)
  go_enter Tryd.func97, Tryd.ntmps97
  go_wp2
  go_loopw [0, 1, 7] (fun a b l wr => ∃ (pa pb : Option Addr) (xa ya pre : List Mo) (ca cb na nb : Nat) (g : Bool), a = .slice pa na ca ∧ b = .slice pb nb cb ∧ na ≤ ca ∧ nb ≤ cb ∧ na ≤ 1000 ∧ nb ≤ 1000 ∧ Hid (na = xa.length ∧ nb = ya.length) ∧ Hid (pre.length + na + nb ≤ 2000 ∧ (flt pre).length ≤ pre.length) ∧ Hid (SlM w pa xa) ∧ Hid (SlM w pb ya) ∧ Hid (∀ b o, pa = some ⟨b, o, none⟩ → xa ≠ [] → b ≠ gf) ∧ Hid (∀ b o, pb = some ⟨b, o, none⟩ → ya ≠ [] → b ≠ gf) ∧ Hid (pre ++ mg xa ya = V) ∧ Hid (∀ m ∈ xa, okM m) ∧ Hid (∀ m ∈ ya, okM m) ∧ Hid (w.grownBy wr (some gf)) ∧ Hid (wr.ownsRow w.heap.size 59 2 l (flt pre).length (moCs (flt pre))) ∧ Hid (wr.cell? ⟨gf, 0, none⟩ = some (.bool g) ∧ wr.frozen? ⟨gf, 0, none⟩ = false ∧ g = (f && pre.all fun m => fit64 m.2))) (fun a b _ _ => lenS a + lenS b)
  case atStart => exact ⟨p, q, xs, ys, [], c, d, xs.length, ys.length, f, rfl, rfl, cx, cy, lx, ly, Lib.hid ⟨rfl, rfl⟩, Lib.hid ⟨by simp; omega, by simp [flt]⟩, RA, RB, hp, hq, HV, hx, hy, HG0, Lib.hid (World.ownsRow_nil _ _ _ _), Lib.hid ⟨hf, hz, by simp⟩⟩
  case round =>
    obtain ⟨pa, pb, xa, ya, pre, ca, cb, na, nb, g, rfl, rfl, ha, hb, ha1, hb1, HN, HP, SA, SB, hpa, hpb, HM, hxa, hya, HG, hO, HF⟩ := hrel
    obtain ⟨hn1, hn2⟩ := HN.out
    clear HN
    cases xa with
    | nil =>
      obtain rfl : na = 0 := hn1
      cases ya with
      | nil =>
        obtain rfl : nb = 0 := hn2
        have HE := Lib.hid (show pre = V by have h := HM.out; rw [nil_mg, List.append_nil] at h; exact h)
        obtain ⟨q', c', rfl⟩ := own_slice hO.out
        go_wp2
        go_ret
        obtain rfl := HE.out
        obtain ⟨q2, c2, he, hsl⟩ := own_sl' hO.out rfl
        cases he
        exact ⟨_, _, rfl, hsl, HG.out, by rw [← HF.out.2.2]; exact HF.out.1, HF.out.2.1, own_blk hO.out rfl⟩
      | cons y ya =>
        obtain rfl : nb = ya.length + 1 := hn2
        obtain ⟨b2, o2, rfl, c0, c1⟩ := SB.out 0 (by simp)
        rw [show o2 + 0 * 2 = o2 by omega] at c0 c1
        have b2g := hpb.out b2 o2 rfl (by simp)
        have k0 := cell_grown HG.out b2g c0
        have k1 := cell_grown HG.out b2g c1
        obtain ⟨s2, a2⟩ := y
        replace k0 : wr.cell? ⟨b2, o2, none⟩ = some (.string s2) := k0
        replace k1 : wr.cell? ⟨b2, o2 + 1, none⟩ = some (.int .i64 a2) := k1
        clear c0 c1
        have yx := hya.out (s2, a2) (by simp)
        have hya2 := Lib.hid fun m hm => hya.out m (List.mem_cons_of_mem _ hm)
        obtain ⟨B, hB, SB2, hb2, hB2⟩ := cut1 SB.out (by simpa using hb)
        replace SB2 := Lib.hid SB2
        have hpb2 := Lib.hid fun b' o' e (_ : ya ≠ []) => (hB2 b' o' e) ▸ b2g
        have tb1 : (0 : Int) < (ya.length : Int) + 1 := by omega
        have tb2 : decide ((0 : Int) < (ya.length : Int) + 1) = true := decide_eq_true tb1
        have tb3 : (((ya.length : Int) + 1) == 0) = false := beq_false_of_ne (by omega)
        have tb4 : decide ((ya.length : Int) + 1 = 0) = false := decide_eq_false (by omega)
        clear hB2
        have HM2 : Hid ((pre ++ [(s2, a2)]) ++ mg [] ya = V) := Lib.hid (by
          have h := HM.out
          rw [nil_mg] at h ⊢
          rw [List.append_assoc]
          exact h)
        have e1 := Lib.hid (flt_take (pre := pre) yx)
        have e2 := Lib.hid yx.fit
        clear yx HM
        go_wp2_with fail
        go_quiet (fail)
        replace HG := Lib.hid (grown_drewN HG.out nq)
        replace hO := Lib.hid (show (wr.drewN nq).ownsRow w.heap.size 59 2 _ (flt pre).length (moCs (flt pre)) from hO.out)
        replace HF := Lib.hid (show (wr.drewN nq).cell? ⟨gf, 0, none⟩ = some (.bool g) ∧ (wr.drewN nq).frozen? ⟨gf, 0, none⟩ = false ∧ g = (f && pre.all fun m => fit64 m.2) from HF.out)
        replace k0 : (wr.drewN nq).cell? ⟨b2, o2, none⟩ = some (.string s2) := k0
        replace k1 : (wr.drewN nq).cell? ⟨b2, o2 + 1, none⟩ = some (.int .i64 a2) := k1
        generalize wr.drewN nq = wr at *
        go_wp2_with fail
        go_quiet (fail)
        replace HG := Lib.hid (grown_drewN HG.out nq)
        replace hO := Lib.hid (show (wr.drewN nq).ownsRow w.heap.size 59 2 _ (flt pre).length (moCs (flt pre)) from hO.out)
        replace HF := Lib.hid (show (wr.drewN nq).cell? ⟨gf, 0, none⟩ = some (.bool g) ∧ (wr.drewN nq).frozen? ⟨gf, 0, none⟩ = false ∧ g = (f && pre.all fun m => fit64 m.2) from HF.out)
        replace k0 : (wr.drewN nq).cell? ⟨b2, o2, none⟩ = some (.string s2) := k0
        replace k1 : (wr.drewN nq).cell? ⟨b2, o2 + 1, none⟩ = some (.int .i64 a2) := k1
        generalize wr.drewN nq = wr at *
        go_wp2_with (at_builtin; refine wpList_append_own _ rfl _ _ 22 rfl w.heap.size 59 i0 (.agg #[.string ⟨#[]⟩, .int .i64 0]) 2 24 Tryd.underlying22 hi hz0 hz1 hz2 rfl (by decide) _ _ _ rfl (World.ownsRow.alloc hO.out _) ⟨wr.heap.size, 0, none⟩ 1 1 [.string s2, .int .i64 a2] rfl rfl ?_ ?_ ?_ ?_ ?_ ?_)
        · intro q' x' hx'
          rcases q' with _ | _ | q'
          · cases hx'; go_cell
          · cases hx'; go_cell
          · simp at hx'
        · intro x' hx'
          simp at hx'
          rcases hx' with rfl | rfl <;> rfl
        · have := HP.out; unfold maxLen; omega
        · have := HP.out; omega
        · have := HG.out.size; simp; omega
        intro v' w4 hown' hgrow _
        have HO4 := Lib.hid (show w4.ownsRow w.heap.size 59 2 v' (flt (pre ++ [(s2, a2)])).length (moCs (flt (pre ++ [(s2, a2)]))) by rw [e1.out, List.length_append, moCs_snoc]; exact hown')
        have HG4 := Lib.hid (grown_own (grown_alloc HG.out _) (World.ownsRow.alloc hO.out _) (Nat.le_refl _) hgrow)
        have HF4 := Lib.hid (show w4.cell? ⟨gf, 0, none⟩ = some (.bool g) ∧ w4.frozen? ⟨gf, 0, none⟩ = false ∧ g = (f && (pre ++ [(s2, a2)]).all fun m => fit64 m.2) from ⟨own_cell (World.ownsRow.alloc hO.out _) hgrow hgf (kp ((Below.refl wr.heap.size wr).alloc (Nat.le_refl _) _) (lt_of_cell HF.out.1) HF.out.1), own_frozen (World.ownsRow.alloc hO.out _) hgrow hgf (lt_of_cell (kp ((Below.refl wr.heap.size wr).alloc (Nat.le_refl _) (Obj.cells #[Value.string s2, Value.int .i64 a2] 59)) (lt_of_cell HF.out.1) HF.out.1)) ((((Below.refl wr.heap.size wr).alloc (Nat.le_refl _) _).frozen (p := ⟨gf, 0, none⟩) (lt_of_cell HF.out.1)).trans HF.out.2.1), by rw [HF.out.2.2, List.all_append]; simp [e2.out]⟩)
        have HP4 := Lib.hid (show (pre ++ [(s2, a2)]).length + 0 + ya.length ≤ 2000 ∧ (flt (pre ++ [(s2, a2)])).length ≤ (pre ++ [(s2, a2)]).length by have := HP.out; rw [e1.out, List.length_append, List.length_append]; simp only [List.length_singleton]; omega)
        obtain ⟨q4, c4, rfl⟩ := own_slice HO4.out
        clear hi hz0 hz1 hz2 HG hO HF HP hown' hgrow
        go_wp2
        go_roundw
        case rel => exact ⟨pa, B, [], ya, pre ++ [(s2, a2)], ca, cb - 1, 0, ya.length, g, rfl, rfl, by omega, by omega, by omega, by omega, Lib.hid ⟨rfl, rfl⟩, HP4, SA, SB2, hpa, hpb2, HM2, hxa, hya2, HG4, HO4, HF4⟩
        case measure => simp [lenS] <;> omega
    | cons x xa =>
      obtain rfl : na = xa.length + 1 := hn1
      obtain ⟨b, o, rfl, c0, c1⟩ := SA.out 0 (by simp)
      rw [show o + 0 * 2 = o by omega] at c0 c1
      have bg := hpa.out b o rfl (by simp)
      have d0 := cell_grown HG.out bg c0
      have d1 := cell_grown HG.out bg c1
      obtain ⟨s, a⟩ := x
      replace d0 : wr.cell? ⟨b, o, none⟩ = some (.string s) := d0
      replace d1 : wr.cell? ⟨b, o + 1, none⟩ = some (.int .i64 a) := d1
      clear c0 c1
      have xx := hxa.out (s, a) (by simp)
      have hxa2 := Lib.hid fun m hm => hxa.out m (List.mem_cons_of_mem _ hm)
      obtain ⟨A, hA, SA2, ha2, hA2⟩ := cut1 SA.out (by simpa using ha)
      replace SA2 := Lib.hid SA2
      have hpa2 := Lib.hid fun b' o' e (_ : xa ≠ []) => (hA2 b' o' e) ▸ bg
      have ta1 : (0 : Int) < (xa.length : Int) + 1 := by omega
      have ta2 : decide ((0 : Int) < (xa.length : Int) + 1) = true := decide_eq_true ta1
      have ta3 : (((xa.length : Int) + 1) == 0) = false := beq_false_of_ne (by omega)
      have ta4 : decide ((xa.length : Int) + 1 = 0) = false := decide_eq_false (by omega)
      clear hA2
      cases ya with
      | nil =>
        obtain rfl : nb = 0 := hn2
        have HM2 : Hid ((pre ++ [(s, a)]) ++ mg xa [] = V) := Lib.hid (by
          have h := HM.out
          rw [mg_nil] at h ⊢
          rw [List.append_assoc]
          exact h)
        have e1 := Lib.hid (flt_take (pre := pre) xx)
        have e2 := Lib.hid xx.fit
        clear xx HM
        go_wp2_with fail
        go_quiet (fail)
        replace HG := Lib.hid (grown_drewN HG.out nq)
        replace hO := Lib.hid (show (wr.drewN nq).ownsRow w.heap.size 59 2 _ (flt pre).length (moCs (flt pre)) from hO.out)
        replace HF := Lib.hid (show (wr.drewN nq).cell? ⟨gf, 0, none⟩ = some (.bool g) ∧ (wr.drewN nq).frozen? ⟨gf, 0, none⟩ = false ∧ g = (f && pre.all fun m => fit64 m.2) from HF.out)
        replace d0 : (wr.drewN nq).cell? ⟨b, o, none⟩ = some (.string s) := d0
        replace d1 : (wr.drewN nq).cell? ⟨b, o + 1, none⟩ = some (.int .i64 a) := d1
        generalize wr.drewN nq = wr at *
        go_wp2_with (at_builtin; refine wpList_append_own _ rfl _ _ 22 rfl w.heap.size 59 i0 (.agg #[.string ⟨#[]⟩, .int .i64 0]) 2 24 Tryd.underlying22 hi hz0 hz1 hz2 rfl (by decide) _ _ _ rfl (World.ownsRow.alloc hO.out _) ⟨wr.heap.size, 0, none⟩ 1 1 [.string s, .int .i64 a] rfl rfl ?_ ?_ ?_ ?_ ?_ ?_)
        · intro q' x' hx'
          rcases q' with _ | _ | q'
          · cases hx'; go_cell
          · cases hx'; go_cell
          · simp at hx'
        · intro x' hx'
          simp at hx'
          rcases hx' with rfl | rfl <;> rfl
        · have := HP.out; unfold maxLen; omega
        · have := HP.out; omega
        · have := HG.out.size; simp; omega
        intro v' w4 hown' hgrow _
        have HO4 := Lib.hid (show w4.ownsRow w.heap.size 59 2 v' (flt (pre ++ [(s, a)])).length (moCs (flt (pre ++ [(s, a)]))) by rw [e1.out, List.length_append, moCs_snoc]; exact hown')
        have HG4 := Lib.hid (grown_own (grown_alloc HG.out _) (World.ownsRow.alloc hO.out _) (Nat.le_refl _) hgrow)
        have HF4 := Lib.hid (show w4.cell? ⟨gf, 0, none⟩ = some (.bool g) ∧ w4.frozen? ⟨gf, 0, none⟩ = false ∧ g = (f && (pre ++ [(s, a)]).all fun m => fit64 m.2) from ⟨own_cell (World.ownsRow.alloc hO.out _) hgrow hgf (kp ((Below.refl wr.heap.size wr).alloc (Nat.le_refl _) _) (lt_of_cell HF.out.1) HF.out.1), own_frozen (World.ownsRow.alloc hO.out _) hgrow hgf (lt_of_cell (kp ((Below.refl wr.heap.size wr).alloc (Nat.le_refl _) (Obj.cells #[Value.string s, Value.int .i64 a] 59)) (lt_of_cell HF.out.1) HF.out.1)) ((((Below.refl wr.heap.size wr).alloc (Nat.le_refl _) _).frozen (p := ⟨gf, 0, none⟩) (lt_of_cell HF.out.1)).trans HF.out.2.1), by rw [HF.out.2.2, List.all_append]; simp [e2.out]⟩)
        have HP4 := Lib.hid (show (pre ++ [(s, a)]).length + xa.length + 0 ≤ 2000 ∧ (flt (pre ++ [(s, a)])).length ≤ (pre ++ [(s, a)]).length by have := HP.out; rw [e1.out, List.length_append, List.length_append]; simp only [List.length_singleton]; omega)
        obtain ⟨q4, c4, rfl⟩ := own_slice HO4.out
        clear hi hz0 hz1 hz2 HG hO HF HP hown' hgrow
        go_wp2
        go_roundw
        case rel => exact ⟨A, pb, xa, [], pre ++ [(s, a)], ca - 1, cb, xa.length, 0, g, rfl, rfl, by omega, by omega, by omega, by omega, Lib.hid ⟨rfl, rfl⟩, HP4, SA2, SB, hpa2, hpb, HM2, hxa2, hya, HG4, HO4, HF4⟩
        case measure => simp [lenS] <;> omega
      | cons y ya =>
        obtain rfl : nb = ya.length + 1 := hn2
        obtain ⟨b2, o2, rfl, c0, c1⟩ := SB.out 0 (by simp)
        rw [show o2 + 0 * 2 = o2 by omega] at c0 c1
        have b2g := hpb.out b2 o2 rfl (by simp)
        have k0 := cell_grown HG.out b2g c0
        have k1 := cell_grown HG.out b2g c1
        obtain ⟨s2, a2⟩ := y
        replace k0 : wr.cell? ⟨b2, o2, none⟩ = some (.string s2) := k0
        replace k1 : wr.cell? ⟨b2, o2 + 1, none⟩ = some (.int .i64 a2) := k1
        clear c0 c1
        have yx := hya.out (s2, a2) (by simp)
        have hya2 := Lib.hid fun m hm => hya.out m (List.mem_cons_of_mem _ hm)
        obtain ⟨B, hB, SB2, hb2, hB2⟩ := cut1 SB.out (by simpa using hb)
        replace SB2 := Lib.hid SB2
        have hpb2 := Lib.hid fun b' o' e (_ : ya ≠ []) => (hB2 b' o' e) ▸ b2g
        have tb1 : (0 : Int) < (ya.length : Int) + 1 := by omega
        have tb2 : decide ((0 : Int) < (ya.length : Int) + 1) = true := decide_eq_true tb1
        have tb3 : (((ya.length : Int) + 1) == 0) = false := beq_false_of_ne (by omega)
        have tb4 : decide ((ya.length : Int) + 1 = 0) = false := decide_eq_false (by omega)
        clear hB2
        rcases slt_tri s s2 with hlt | heq | hlt
        · have L1 : Op.bytesLess s.toList s2.toList = true := by rw [slt_less]; exact decide_eq_true hlt
          have HM2 : Hid ((pre ++ [(s, a)]) ++ mg xa ((s2, a2) :: ya) = V) := Lib.hid (by
            have h := HM.out
            rw [mg_lt hlt] at h
            rw [List.append_assoc]
            exact h)
          have e1 := Lib.hid (flt_take (pre := pre) xx)
          have e2 := Lib.hid xx.fit
          clear xx HM hlt
          go_wp2_with fail
          go_quiet (fail)
          replace HG := Lib.hid (grown_drewN HG.out nq)
          replace hO := Lib.hid (show (wr.drewN nq).ownsRow w.heap.size 59 2 _ (flt pre).length (moCs (flt pre)) from hO.out)
          replace HF := Lib.hid (show (wr.drewN nq).cell? ⟨gf, 0, none⟩ = some (.bool g) ∧ (wr.drewN nq).frozen? ⟨gf, 0, none⟩ = false ∧ g = (f && pre.all fun m => fit64 m.2) from HF.out)
          replace d0 : (wr.drewN nq).cell? ⟨b, o, none⟩ = some (.string s) := d0
          replace d1 : (wr.drewN nq).cell? ⟨b, o + 1, none⟩ = some (.int .i64 a) := d1
          replace k0 : (wr.drewN nq).cell? ⟨b2, o2, none⟩ = some (.string s2) := k0
          replace k1 : (wr.drewN nq).cell? ⟨b2, o2 + 1, none⟩ = some (.int .i64 a2) := k1
          generalize wr.drewN nq = wr at *
          go_wp2_with (at_builtin; refine wpList_append_own _ rfl _ _ 22 rfl w.heap.size 59 i0 (.agg #[.string ⟨#[]⟩, .int .i64 0]) 2 24 Tryd.underlying22 hi hz0 hz1 hz2 rfl (by decide) _ _ _ rfl (World.ownsRow.alloc hO.out _) ⟨wr.heap.size, 0, none⟩ 1 1 [.string s, .int .i64 a] rfl rfl ?_ ?_ ?_ ?_ ?_ ?_)
          · intro q' x' hx'
            rcases q' with _ | _ | q'
            · cases hx'; go_cell
            · cases hx'; go_cell
            · simp at hx'
          · intro x' hx'
            simp at hx'
            rcases hx' with rfl | rfl <;> rfl
          · have := HP.out; unfold maxLen; omega
          · have := HP.out; omega
          · have := HG.out.size; simp; omega
          intro v' w4 hown' hgrow _
          have HO4 := Lib.hid (show w4.ownsRow w.heap.size 59 2 v' (flt (pre ++ [(s, a)])).length (moCs (flt (pre ++ [(s, a)]))) by rw [e1.out, List.length_append, moCs_snoc]; exact hown')
          have HG4 := Lib.hid (grown_own (grown_alloc HG.out _) (World.ownsRow.alloc hO.out _) (Nat.le_refl _) hgrow)
          have HF4 := Lib.hid (show w4.cell? ⟨gf, 0, none⟩ = some (.bool g) ∧ w4.frozen? ⟨gf, 0, none⟩ = false ∧ g = (f && (pre ++ [(s, a)]).all fun m => fit64 m.2) from ⟨own_cell (World.ownsRow.alloc hO.out _) hgrow hgf (kp ((Below.refl wr.heap.size wr).alloc (Nat.le_refl _) _) (lt_of_cell HF.out.1) HF.out.1), own_frozen (World.ownsRow.alloc hO.out _) hgrow hgf (lt_of_cell (kp ((Below.refl wr.heap.size wr).alloc (Nat.le_refl _) (Obj.cells #[Value.string s, Value.int .i64 a] 59)) (lt_of_cell HF.out.1) HF.out.1)) ((((Below.refl wr.heap.size wr).alloc (Nat.le_refl _) _).frozen (p := ⟨gf, 0, none⟩) (lt_of_cell HF.out.1)).trans HF.out.2.1), by rw [HF.out.2.2, List.all_append]; simp [e2.out]⟩)
          have HP4 := Lib.hid (show (pre ++ [(s, a)]).length + xa.length + (ya.length + 1) ≤ 2000 ∧ (flt (pre ++ [(s, a)])).length ≤ (pre ++ [(s, a)]).length by have := HP.out; rw [e1.out, List.length_append, List.length_append]; simp only [List.length_singleton]; omega)
          obtain ⟨q4, c4, rfl⟩ := own_slice HO4.out
          clear hi hz0 hz1 hz2 HG hO HF HP hown' hgrow
          go_wp2
          go_roundw
          case rel => exact ⟨A, some ⟨b2, o2, none⟩, xa, ((s2, a2) :: ya), pre ++ [(s, a)], ca - 1, cb, xa.length, (ya.length + 1), g, rfl, rfl, by omega, by omega, by omega, by omega, Lib.hid ⟨rfl, by simp⟩, HP4, SA2, SB, hpa2, hpb, HM2, hxa2, hya, HG4, HO4, HF4⟩
          case measure => simp [lenS] <;> omega
        · obtain rfl : s = s2 := heq
          have L1 : Op.bytesLess s.toList s.toList = false := by rw [slt_less]; exact decide_eq_false (slt_irrefl s)
          have HM1 : Hid ((pre ++ [(s, a + a2)]) ++ mg xa ya = V) := Lib.hid (by
            have h := HM.out
            rw [mg_eq (x := (s, a)) (y := (s, a2)) rfl] at h
            rw [List.append_assoc]
            exact h)
          have hx1 := xx.2
          have hx2 := yx.2
          simp only at hx1 hx2
          obtain ⟨C, hC⟩ : ∃ C, wrap64 (a + a2) = C := ⟨_, rfl⟩
          have HC := Lib.hid hC
          clear hC xx yx HM
          go_wp2_with fail
          go_quiet (fail)
          replace HG := Lib.hid (grown_drewN HG.out nq)
          replace hO := Lib.hid (show (wr.drewN nq).ownsRow w.heap.size 59 2 _ (flt pre).length (moCs (flt pre)) from hO.out)
          replace HF := Lib.hid (show (wr.drewN nq).cell? ⟨gf, 0, none⟩ = some (.bool g) ∧ (wr.drewN nq).frozen? ⟨gf, 0, none⟩ = false ∧ g = (f && pre.all fun m => fit64 m.2) from HF.out)
          replace d0 : (wr.drewN nq).cell? ⟨b, o, none⟩ = some (.string s) := d0
          replace d1 : (wr.drewN nq).cell? ⟨b, o + 1, none⟩ = some (.int .i64 a) := d1
          replace k0 : (wr.drewN nq).cell? ⟨b2, o2, none⟩ = some (.string s) := k0
          replace k1 : (wr.drewN nq).cell? ⟨b2, o2 + 1, none⟩ = some (.int .i64 a2) := k1
          generalize wr.drewN nq = wr at *
          go_wp2_with fail
          go_quiet (fail)
          replace HG := Lib.hid (grown_drewN HG.out nq)
          replace hO := Lib.hid (show (wr.drewN nq).ownsRow w.heap.size 59 2 _ (flt pre).length (moCs (flt pre)) from hO.out)
          replace HF := Lib.hid (show (wr.drewN nq).cell? ⟨gf, 0, none⟩ = some (.bool g) ∧ (wr.drewN nq).frozen? ⟨gf, 0, none⟩ = false ∧ g = (f && pre.all fun m => fit64 m.2) from HF.out)
          replace d0 : (wr.drewN nq).cell? ⟨b, o, none⟩ = some (.string s) := d0
          replace d1 : (wr.drewN nq).cell? ⟨b, o + 1, none⟩ = some (.int .i64 a) := d1
          replace k0 : (wr.drewN nq).cell? ⟨b2, o2, none⟩ = some (.string s) := k0
          replace k1 : (wr.drewN nq).cell? ⟨b2, o2 + 1, none⟩ = some (.int .i64 a2) := k1
          generalize wr.drewN nq = wr at *
          go_wp2_with fail
          have hz9 := (⟨d1, k1⟩ : wr.drew.cell? ⟨b, o + 1, none⟩ = some (.int .i64 a) ∧ wr.drew.cell? ⟨b2, o2 + 1, none⟩ = some (.int .i64 a2))
          refine Rk.begin (S := fun wS => wS.cell? ⟨b, o + 1, none⟩ = some (.int .i64 a) ∧ wS.cell? ⟨b2, o2 + 1, none⟩ = some (.int .i64 a2)) 9 (by kernel_rfl) hz9 (fun hHeld => ?_)
          refine Rk.takeP (i := 0) (v := ?_) rfl (by kernel_rfl) (by kernel_rfl) (by kernel_rfl) (by kernel_rfl) (fun _ _ _ h => h) (Or.inl ⟨by kernel_rfl, ?_⟩) (by assumption) ?_
          rotate_left
          · ((intro w hSw; go_simp) <;> with_reducible rfl)
          try simp only [Act.put, List.setIfInBounds_toArray, List.set_cons_zero, List.set_cons_succ]
          refine Rk.takeP (i := 1) (v := ?_) rfl (by kernel_rfl) (by kernel_rfl) (by kernel_rfl) (by kernel_rfl) (fun _ _ _ h => h) (Or.inl ⟨by kernel_rfl, ?_⟩) (by assumption) ?_
          rotate_left
          · ((intro w hSw; go_simp) <;> with_reducible rfl)
          try simp only [Act.put, List.setIfInBounds_toArray, List.set_cons_zero, List.set_cons_succ]
          refine Rk.takeP (i := 2) (v := ?_) rfl (by kernel_rfl) (by kernel_rfl) (by kernel_rfl) (by kernel_rfl) (fun _ _ _ h => h) (Or.inl ⟨by kernel_rfl, ?_⟩) (by assumption) ?_
          rotate_left
          · ((intro w hSw; go_simp) <;> with_reducible rfl)
          try simp only [Act.put, List.setIfInBounds_toArray, List.set_cons_zero, List.set_cons_succ]
          refine Rk.takeP (i := 3) (v := ?_) rfl (by kernel_rfl) (by kernel_rfl) (by kernel_rfl) (by kernel_rfl) (fun _ _ _ h => h) (Or.inl ⟨by kernel_rfl, ?_⟩) (by assumption) ?_
          rotate_left
          · ((intro w hSw; go_simp) <;> with_reducible rfl)
          try simp only [Act.put, List.setIfInBounds_toArray, List.set_cons_zero, List.set_cons_succ]
          refine Rk.take [9] (i := 4) (v := ?_) rfl (by kernel_rfl) (by kernel_rfl) (by kernel_rfl) (by kernel_rfl) (by kernel_rfl) (fun _ _ _ h => h) (Or.inl ⟨by kernel_rfl, ?_⟩) (by assumption) ?_
          rotate_left
          · ((intro w hSw; (try dsimp only at hSw); go_simp) <;> with_reducible rfl)
          try simp only [Act.put, List.setIfInBounds_toArray, List.set_cons_zero, List.set_cons_succ]
          refine Rk.takeP (i := 5) (v := ?_) rfl (by kernel_rfl) (by kernel_rfl) (by kernel_rfl) (by kernel_rfl) (fun _ _ _ h => h) (Or.inl ⟨by kernel_rfl, ?_⟩) (by assumption) ?_
          rotate_left
          · ((intro w hSw; go_simp) <;> with_reducible rfl)
          try simp only [Act.put, List.setIfInBounds_toArray, List.set_cons_zero, List.set_cons_succ]
          refine Rk.takeP (i := 6) (v := ?_) rfl (by kernel_rfl) (by kernel_rfl) (by kernel_rfl) (by kernel_rfl) (fun _ _ _ h => h) (Or.inl ⟨by kernel_rfl, ?_⟩) (by assumption) ?_
          rotate_left
          · ((intro w hSw; go_simp) <;> with_reducible rfl)
          try simp only [Act.put, List.setIfInBounds_toArray, List.set_cons_zero, List.set_cons_succ]
          refine Rk.takeP (i := 7) (v := ?_) rfl (by kernel_rfl) (by kernel_rfl) (by kernel_rfl) (by kernel_rfl) (fun _ _ _ h => h) (Or.inl ⟨by kernel_rfl, ?_⟩) (by assumption) ?_
          rotate_left
          · ((intro w hSw; go_simp) <;> with_reducible rfl)
          try simp only [Act.put, List.setIfInBounds_toArray, List.set_cons_zero, List.set_cons_succ]
          refine Rk.take [9] (i := 8) (v := ?_) rfl (by kernel_rfl) (by kernel_rfl) (by kernel_rfl) (by kernel_rfl) (by kernel_rfl) (fun _ _ _ h => h) (Or.inl ⟨by kernel_rfl, ?_⟩) (by assumption) ?_
          rotate_left
          · ((intro w hSw; (try dsimp only at hSw); go_simp) <;> with_reducible rfl)
          try simp only [Act.put, List.setIfInBounds_toArray, List.set_cons_zero, List.set_cons_succ]
          refine Rk.tail [9, 10] [_, _] (by kernel_rfl) (by kernel_rfl) rfl (by decide) ?_
          go_wp2_with fail
          refine (CP.out a a2 g wr.drew hx1.1 hx1.2 hx2.1 hx2.2 HF.out.1 HF.out.2.1).mono ?_
          rintro e w5 ⟨he, hg5, hc5, hz5⟩
          rw [HC.out] at he
          obtain rfl := he
          replace d0 := cell_grown (w := wr.drew) hg5 bg d0
          replace k0 := cell_grown (w := wr.drew) hg5 b2g k0
          replace HG := Lib.hid (grown_trans (grown_drew HG.out) hg5)
          replace hO := Lib.hid (World.ownsRow.kept (w := wr.drew) hO.out hg5 (own_ne hO.out hgf))
          replace HF := Lib.hid (show w5.cell? ⟨gf, 0, none⟩ = some (.bool (g && fit64 (a + a2))) ∧ w5.frozen? ⟨gf, 0, none⟩ = false ∧ (g && fit64 (a + a2)) = (f && (pre ++ [(s, a + a2)]).all fun m => fit64 m.2) from ⟨hc5, hz5, by rw [HF.out.2.2, List.all_append]; simp [Bool.and_assoc]⟩)
          clear d1 k1 hg5 hc5 hz5 hz9 hHeld
          generalize (g && fit64 (a + a2)) = g' at *
          by_cases hC0 : C = 0
          · have hb0 : (C == 0) = true := beq_iff_eq.2 hC0
            have hb1 : (C != 0) = false := by rw [bne, hb0]; rfl
            have e1 := Lib.hid (show flt (pre ++ [(s, a + a2)]) = flt pre by rw [flt_snoc, HC.out, if_pos hC0, List.append_nil])
            clear hC0
            have HP4 := Lib.hid (show (pre ++ [(s, a + a2)]).length + xa.length + ya.length ≤ 2000 ∧ (flt (pre ++ [(s, a + a2)])).length ≤ (pre ++ [(s, a + a2)]).length by have := HP.out; rw [e1.out, List.length_append]; simp only [List.length_singleton]; omega)
            go_wp2_with fail
            go_quiet (fail)
            have HG4 := Lib.hid (grown_drewN HG.out nq)
            have HO4 := Lib.hid (show (w5.drewN nq).ownsRow w.heap.size 59 2 u7 (flt (pre ++ [(s, a + a2)])).length (moCs (flt (pre ++ [(s, a + a2)]))) by rw [e1.out]; exact hO.out)
            have HF4 := Lib.hid (show (w5.drewN nq).cell? ⟨gf, 0, none⟩ = some (.bool g') ∧ (w5.drewN nq).frozen? ⟨gf, 0, none⟩ = false ∧ g' = (f && (pre ++ [(s, a + a2)]).all fun m => fit64 m.2) from HF.out)
            go_wp2
            go_roundw
            case rel => exact ⟨A, B, xa, ya, pre ++ [(s, a + a2)], ca - 1, cb - 1, xa.length, ya.length, g', rfl, rfl, by omega, by omega, by omega, by omega, Lib.hid ⟨rfl, rfl⟩, HP4, SA2, SB2, hpa2, hpb2, HM1, hxa2, hya2, HG4, HO4, HF4⟩
            case measure => simp [lenS]; omega
          · have hb0 : (C == 0) = false := beq_false_of_ne hC0
            have hb1 : (C != 0) = true := by rw [bne, hb0]; rfl
            have e1 := Lib.hid (show flt (pre ++ [(s, a + a2)]) = flt pre ++ [(s, C)] by rw [flt_snoc, HC.out, if_neg hC0])
            clear hC0
            have hc1 : w5.cell? ⟨b, o, none⟩ = some (.string s) := d0
            go_wp2_with (at_builtin; refine wpList_append_own _ rfl _ _ 22 rfl w.heap.size 59 i0 (.agg #[.string ⟨#[]⟩, .int .i64 0]) 2 24 Tryd.underlying22 hi hz0 hz1 hz2 rfl (by decide) _ _ _ rfl (World.ownsRow.alloc hO.out _) ⟨w5.heap.size, 0, none⟩ 1 1 [.string s, .int .i64 C] rfl rfl ?_ ?_ ?_ ?_ ?_ ?_)
            · intro q' x' hx'
              rcases q' with _ | _ | q'
              · cases hx'; go_cell
              · cases hx'; go_cell
              · simp at hx'
            · intro x' hx'
              simp at hx'
              rcases hx' with rfl | rfl <;> rfl
            · have := HP.out; unfold maxLen; omega
            · have := HP.out; omega
            · have := HG.out.size; simp; omega
            intro v' w4 hown' hgrow _
            have HO4 := Lib.hid (show w4.ownsRow w.heap.size 59 2 v' (flt (pre ++ [(s, a + a2)])).length (moCs (flt (pre ++ [(s, a + a2)]))) by rw [e1.out, List.length_append, moCs_snoc]; exact hown')
            have HG4 := Lib.hid (grown_own (grown_alloc HG.out _) (World.ownsRow.alloc hO.out _) (Nat.le_refl _) hgrow)
            have HF4 := Lib.hid (show w4.cell? ⟨gf, 0, none⟩ = some (.bool g') ∧ w4.frozen? ⟨gf, 0, none⟩ = false ∧ g' = (f && (pre ++ [(s, a + a2)]).all fun m => fit64 m.2) from ⟨own_cell (World.ownsRow.alloc hO.out _) hgrow hgf (kp ((Below.refl w5.heap.size w5).alloc (Nat.le_refl _) _) (lt_of_cell HF.out.1) HF.out.1), own_frozen (World.ownsRow.alloc hO.out _) hgrow hgf (lt_of_cell (kp ((Below.refl w5.heap.size w5).alloc (Nat.le_refl _) (Obj.cells #[Value.string s, Value.int .i64 C] 59)) (lt_of_cell HF.out.1) HF.out.1)) ((((Below.refl w5.heap.size w5).alloc (Nat.le_refl _) _).frozen (p := ⟨gf, 0, none⟩) (lt_of_cell HF.out.1)).trans HF.out.2.1), HF.out.2.2⟩)
            have HP4 := Lib.hid (show (pre ++ [(s, a + a2)]).length + xa.length + ya.length ≤ 2000 ∧ (flt (pre ++ [(s, a + a2)])).length ≤ (pre ++ [(s, a + a2)]).length by have := HP.out; rw [e1.out, List.length_append, List.length_append]; simp only [List.length_singleton]; omega)
            obtain ⟨q4, c4, rfl⟩ := own_slice HO4.out
            clear hi hz0 hz1 hz2 HG hO HF HP hown' hgrow
            go_wp2_with fail
            go_quiet (fail)
            replace HG4 := Lib.hid (grown_drewN HG4.out nq)
            replace HO4 := Lib.hid (show (w4.drewN nq).ownsRow w.heap.size 59 2 _ (flt (pre ++ [(s, a + a2)])).length (moCs (flt (pre ++ [(s, a + a2)]))) from HO4.out)
            replace HF4 := Lib.hid (show (w4.drewN nq).cell? ⟨gf, 0, none⟩ = some (.bool g') ∧ (w4.drewN nq).frozen? ⟨gf, 0, none⟩ = false ∧ g' = (f && (pre ++ [(s, a + a2)]).all fun m => fit64 m.2) from HF4.out)
            go_wp2
            go_roundw
            case rel => exact ⟨A, B, xa, ya, pre ++ [(s, a + a2)], ca - 1, cb - 1, xa.length, ya.length, g', rfl, rfl, by omega, by omega, by omega, by omega, Lib.hid ⟨rfl, rfl⟩, HP4, SA2, SB2, hpa2, hpb2, HM1, hxa2, hya2, HG4, HO4, HF4⟩
            case measure => simp [lenS]; omega
        · have L1 : Op.bytesLess s.toList s2.toList = false := by rw [slt_less]; exact decide_eq_false (slt_asymm hlt)
          have L2 : Op.bytesLess s2.toList s.toList = true := by rw [slt_less]; exact decide_eq_true hlt
          have HM2 : Hid ((pre ++ [(s2, a2)]) ++ mg ((s, a) :: xa) ya = V) := Lib.hid (by
            have h := HM.out
            rw [mg_gt hlt] at h
            rw [List.append_assoc]
            exact h)
          have e1 := Lib.hid (flt_take (pre := pre) yx)
          have e2 := Lib.hid yx.fit
          clear yx HM hlt
          go_wp2_with fail
          go_quiet (fail)
          replace HG := Lib.hid (grown_drewN HG.out nq)
          replace hO := Lib.hid (show (wr.drewN nq).ownsRow w.heap.size 59 2 _ (flt pre).length (moCs (flt pre)) from hO.out)
          replace HF := Lib.hid (show (wr.drewN nq).cell? ⟨gf, 0, none⟩ = some (.bool g) ∧ (wr.drewN nq).frozen? ⟨gf, 0, none⟩ = false ∧ g = (f && pre.all fun m => fit64 m.2) from HF.out)
          replace d0 : (wr.drewN nq).cell? ⟨b, o, none⟩ = some (.string s) := d0
          replace d1 : (wr.drewN nq).cell? ⟨b, o + 1, none⟩ = some (.int .i64 a) := d1
          replace k0 : (wr.drewN nq).cell? ⟨b2, o2, none⟩ = some (.string s2) := k0
          replace k1 : (wr.drewN nq).cell? ⟨b2, o2 + 1, none⟩ = some (.int .i64 a2) := k1
          generalize wr.drewN nq = wr at *
          go_wp2_with fail
          go_quiet (fail)
          replace HG := Lib.hid (grown_drewN HG.out nq)
          replace hO := Lib.hid (show (wr.drewN nq).ownsRow w.heap.size 59 2 _ (flt pre).length (moCs (flt pre)) from hO.out)
          replace HF := Lib.hid (show (wr.drewN nq).cell? ⟨gf, 0, none⟩ = some (.bool g) ∧ (wr.drewN nq).frozen? ⟨gf, 0, none⟩ = false ∧ g = (f && pre.all fun m => fit64 m.2) from HF.out)
          replace d0 : (wr.drewN nq).cell? ⟨b, o, none⟩ = some (.string s) := d0
          replace d1 : (wr.drewN nq).cell? ⟨b, o + 1, none⟩ = some (.int .i64 a) := d1
          replace k0 : (wr.drewN nq).cell? ⟨b2, o2, none⟩ = some (.string s2) := k0
          replace k1 : (wr.drewN nq).cell? ⟨b2, o2 + 1, none⟩ = some (.int .i64 a2) := k1
          generalize wr.drewN nq = wr at *
          go_wp2_with (at_builtin; refine wpList_append_own _ rfl _ _ 22 rfl w.heap.size 59 i0 (.agg #[.string ⟨#[]⟩, .int .i64 0]) 2 24 Tryd.underlying22 hi hz0 hz1 hz2 rfl (by decide) _ _ _ rfl (World.ownsRow.alloc hO.out _) ⟨wr.heap.size, 0, none⟩ 1 1 [.string s2, .int .i64 a2] rfl rfl ?_ ?_ ?_ ?_ ?_ ?_)
          · intro q' x' hx'
            rcases q' with _ | _ | q'
            · cases hx'; go_cell
            · cases hx'; go_cell
            · simp at hx'
          · intro x' hx'
            simp at hx'
            rcases hx' with rfl | rfl <;> rfl
          · have := HP.out; unfold maxLen; omega
          · have := HP.out; omega
          · have := HG.out.size; simp; omega
          intro v' w4 hown' hgrow _
          have HO4 := Lib.hid (show w4.ownsRow w.heap.size 59 2 v' (flt (pre ++ [(s2, a2)])).length (moCs (flt (pre ++ [(s2, a2)]))) by rw [e1.out, List.length_append, moCs_snoc]; exact hown')
          have HG4 := Lib.hid (grown_own (grown_alloc HG.out _) (World.ownsRow.alloc hO.out _) (Nat.le_refl _) hgrow)
          have HF4 := Lib.hid (show w4.cell? ⟨gf, 0, none⟩ = some (.bool g) ∧ w4.frozen? ⟨gf, 0, none⟩ = false ∧ g = (f && (pre ++ [(s2, a2)]).all fun m => fit64 m.2) from ⟨own_cell (World.ownsRow.alloc hO.out _) hgrow hgf (kp ((Below.refl wr.heap.size wr).alloc (Nat.le_refl _) _) (lt_of_cell HF.out.1) HF.out.1), own_frozen (World.ownsRow.alloc hO.out _) hgrow hgf (lt_of_cell (kp ((Below.refl wr.heap.size wr).alloc (Nat.le_refl _) (Obj.cells #[Value.string s2, Value.int .i64 a2] 59)) (lt_of_cell HF.out.1) HF.out.1)) ((((Below.refl wr.heap.size wr).alloc (Nat.le_refl _) _).frozen (p := ⟨gf, 0, none⟩) (lt_of_cell HF.out.1)).trans HF.out.2.1), by rw [HF.out.2.2, List.all_append]; simp [e2.out]⟩)
          have HP4 := Lib.hid (show (pre ++ [(s2, a2)]).length + (xa.length + 1) + ya.length ≤ 2000 ∧ (flt (pre ++ [(s2, a2)])).length ≤ (pre ++ [(s2, a2)]).length by have := HP.out; rw [e1.out, List.length_append, List.length_append]; simp only [List.length_singleton]; omega)
          obtain ⟨q4, c4, rfl⟩ := own_slice HO4.out
          clear hi hz0 hz1 hz2 HG hO HF HP hown' hgrow
          go_wp2
          go_roundw
          case rel => exact ⟨some ⟨b, o, none⟩, B, ((s, a) :: xa), ya, pre ++ [(s2, a2)], ca, cb - 1, (xa.length + 1), ya.length, g, rfl, rfl, by omega, by omega, by omega, by omega, Lib.hid ⟨by simp, rfl⟩, HP4, SA, SB2, hpa, hpb2, HM2, hxa, hya2, HG4, HO4, HF4⟩
          case measure => simp [lenS] <;> omega
end Go.Proofs.YtbicmlkjonaccaaDoor.Ln
