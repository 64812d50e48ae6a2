/- Linear forms: Validate. -/
import Derived.Test.YtbicmlkjonaccaaDoorK0
import Derived.Deep.Quiet
import Derived.Test.YtbicmlkjonaccaaDoorRows
import Derived.WalkKit
import Derived.ProofKit
import Derived.OpenShut
import Derived.WalkLawsBesides
import Derived.WalkSpells
import Derived.Outline
import Derived.Handy
import Derived.Deep.QuietTactic
import Derived.BigQuiet
import Derived.Lib.Hide
import Derived.Deep.RegionHeld3

namespace Go.Proofs.YtbicmlkjonaccaaDoor.Ln
open Go.ChangeShapes Go.WideShapes Go.ChangeAt Go.RowKit
open Go.Proofs.YtbicmlkjonaccaaDoor.Nm
set_option linter.unusedVariables false
set_option linter.unusedSimpArgs false
def bd (xs : List Mo) (k : Nat) : Bool := !nmB (xs.getD k mo0).1 || ((xs.getD k mo0).2 == 0 || (decide (0 < k) && !Op.bytesLess (xs.getD (k - 1) mo0).1.toList (xs.getD k mo0).1.toList))
def okL (xs : List Mo) : Bool := (List.range xs.length).all fun k => !bd xs k
theorem ok_bad {xs : List Mo} {k : Nat} (hk : k < xs.length) (h : bd xs k = true) : okL xs = false := by
 unfold okL
 rw [List.all_eq_false]
 exact ⟨k, List.mem_range.2 hk, by rw [h]; simp⟩
theorem ok_all {xs : List Mo} {k : Nat} (hk : k = xs.length) (h : ∀ j, j < k -> bd xs j = false) : okL xs = true := by
 unfold okL
 rw [List.all_eq_true]
 intro j hj
 rw [h j (by rw [hk]; exact List.mem_range.1 hj)]
 rfl
theorem all_next {xs : List Mo} {k : Nat} (h : ∀ j, j < k -> bd xs j = false) (hb : bd xs k = false) : ∀ j, j < k + 1 -> bd xs j = false := fun j hj => by
 by_cases hjk : j = k
 ·rw [hjk]; exact hb
 ·exact h j (by omega)
def vL (xs : List Mo) : Int := if okL xs = true then 0 else 1
set_option maxRecDepth 100000 in
set_option maxHeartbeats 8000000 in
theorem val1 (k : Int) (p : Option Addr) (xs : List Mo) (c : Nat) (w : World) (hn : xs.length <= maxLen) (RA : Hid (SlM w p xs)) (RS : Hid (∀ i, i < xs.length -> (xs.getD i mo0).1.size <= maxLen)) :
  Calls Tryd.prog 16 #[Lv k p xs.length c] w fun e w' => e = .returned (.int .i64 (vL xs)) /\ Below w.heap.size w w' := by
 have B0 : Below w.heap.size w (w.alloc (Obj.cells #[Value.int .i64 k, Value.slice p xs.length c] 24)) := (Below.refl _ _).alloc (Nat.le_refl _) _
 have S0 : w.heap.size < ((w.alloc (Obj.cells #[Value.int .i64 k, Value.slice p xs.length c] 24))).heap.size := by simp
 have f1 : ((w.alloc (Obj.cells #[Value.int .i64 k, Value.slice p xs.length c] 24))).cell? ⟨w.heap.size, 1, none⟩ = some (.slice p xs.length c) := by go_cell
 unfold maxLen at hn
 unfold Lv
 go_enter Tryd.func16, Tryd.ntmps16
 go_wp2
 have RA1 := Lib.hid (SlM.keep B0 RA.out)
 generalize (w.alloc (Obj.cells #[Value.int .i64 k, Value.slice p xs.length c] 24)) = z at *
 go_loopw [8] (fun i wr => ∃ j : Nat, i = .int .i64 (j : Int) /\ j <= xs.length /\ Below z.heap.size z wr /\ Hid (∀ i, i < j -> bd xs i = false)) (fun i _ => xs.length - (intOf i).toNat)
 case atStart => exact ⟨0, rfl, by omega, Below.refl _ _, Lib.hid fun i hi => absurd hi (by omega)⟩
 case round =>
  obtain ⟨j, rfl, hk, hB, HG⟩ := hrel
  have k0 : (0 : Int) <= j := by omega
  have BK : Below w.heap.size w wr := B0.trans (hB.mono B0.size)
  by_cases hlt : j < xs.length
  ·obtain ⟨b, o, rfl, c0, c1⟩ := SlM.keep hB RA1.out j hlt
   have hbd : bd xs j = (!nmB (xs.getD j mo0).1 || ((xs.getD j mo0).2 == 0 || (decide (0 < j) && !Op.bytesLess (xs.getD (j - 1) mo0).1.toList (xs.getD j mo0).1.toList))) := rfl
   have hsz := RS.out j hlt
   have k1 : (j : Int) < xs.length := by omega
   have F1 := kp hB S0 f1
   have u1 : w.heap.size < wr.heap.size := Nat.lt_of_lt_of_le S0 hB.size
   obtain ⟨⟨t, e⟩, hy⟩ : ∃ y, xs.getD (j - 1) mo0 = y := ⟨_, rfl⟩
   have hprev : 0 < j -> wr.cell? ⟨b, o + (j - 1) * 2, none⟩ = some (.string t) := fun h0 => by
    obtain ⟨b', o', he, d0, d1⟩ := SlM.keep hB RA1.out (j - 1) (by omega)
    cases he
    rw [hy] at d0
    exact d0
   obtain ⟨⟨s, a⟩, hx⟩ : ∃ x, xs.getD j mo0 = x := ⟨_, rfl⟩
   have hb : b < wr.heap.size := by have := World.block_lt_of_cell? wr _ c0; simpa using this
   rw [hx] at c0 c1 hsz
   rw [hx, hy] at hbd
   simp only at c0 c1 hsz hbd
   clear hx hy f1
   have C := Lib.hid fun w => isName s w hsz
   obtain ⟨q1, hq1⟩ : ∃ q, nmB s = q := ⟨_, rfl⟩
   obtain ⟨q3, hq3⟩ : ∃ q, Op.bytesLess t.toList s.toList = q := ⟨_, rfl⟩
   rw [hq1] at C hbd
   have CQ := Lib.hid fun w => (C.out w).mono fun e w' h => (show e = .returned (.bool q1) /\ w' = w from ⟨h.1, h.2.symm⟩)
   clear C
   rw [hq3] at hbd
   go_wp2
   have H0 : (wr.alloc (Obj.cells #[Value.string s, Value.int .i64 a] 59)).cell? ⟨wr.heap.size, 0, none⟩ = some (.string s) := by go_cell
   have H1 : (wr.alloc (Obj.cells #[Value.string s, Value.int .i64 a] 59)).cell? ⟨wr.heap.size, 1, none⟩ = some (.int .i64 a) := by go_cell
   have B1 : Below wr.heap.size wr (wr.alloc (Obj.cells #[Value.string s, Value.int .i64 a] 59)) := (Below.refl _ _).alloc (Nat.le_refl _) _
   have F2 := kp B1 u1 F1
   have P2 : 0 < j -> (wr.alloc (Obj.cells #[Value.string s, Value.int .i64 a] 59)).cell? ⟨b, o + (j - 1) * 2, none⟩ = some (.string t) := fun h0 => kp B1 hb (hprev h0)
   have BZ : Below z.heap.size z (wr.alloc (Obj.cells #[Value.string s, Value.int .i64 a] 59)) := hB.alloc hB.size _
   have BW : Below w.heap.size w (wr.alloc (Obj.cells #[Value.string s, Value.int .i64 a] 59)) := BK.alloc BK.size _
   generalize wr.heap.size = g at *
   generalize wr.alloc (Obj.cells #[Value.string s, Value.int .i64 a] 59) = zz at *
   clear c0 c1 hprev F1 B1 hB BK hb u1
   have HBAD : Hid (bd xs j = true -> vL xs = 1) := Lib.hid fun h => by unfold vL; rw [ok_bad hlt h]; rfl
   have HOK : Hid (bd xs j = false -> ∀ i, i < j + 1 -> bd xs i = false) := Lib.hid (all_next HG.out)
   clear HG
   by_cases ha : a = 0
   ·subst ha
    have HT := Lib.hid (HBAD.out (by rw [hbd]; cases q1 <;> simp))
    clear hbd HBAD HOK P2 hq3 hq1
    cases q1
    all_goals
     go_quiet ((go_at_call 44; exact Calls.quiet_of_same (CQ.out _)))
     go_wp2
     go_ret
     exact ⟨ret_int (by rw [HT.out]), below_drewN BW _⟩
   ·have ha2 : (a == 0) = false := beq_false_of_ne ha
    rw [ha2, Bool.false_or] at hbd
    cases q1
    ·have HT := Lib.hid (HBAD.out (by rw [hbd]; simp))
     clear hbd HBAD HOK P2 hq3 hq1
     go_quiet ((go_at_call 44; exact Calls.quiet_of_same (CQ.out _)))
     go_wp2
     go_ret
     exact ⟨ret_int (by rw [HT.out]), below_drewN BW _⟩
    ·by_cases hj : 0 < j
     ·obtain ⟨i, rfl⟩ : ∃ i, j = i + 1 := ⟨j - 1, by omega⟩
      have P3 := P2 (by omega)
      rw [show i + 1 - 1 = i by omega] at P3
      have e1 : (0 : Int) < ((i + 1 : Nat) : Int) := by omega
      have e2 : decide ((0 : Int) < ((i + 1 : Nat) : Int)) = true := decide_eq_true e1
      have e3 : (0 : Int) < (i : Int) + 1 := by omega
      have e4 : decide ((0 : Int) < (i : Int) + 1) = true := decide_eq_true e3
      have w1 : IntKind.i64.wrap (((i + 1 : Nat) : Int) - 1) = (i : Int) := by rw [show ((i + 1 : Nat) : Int) - 1 = (i : Int) by omega]; exact IntWalk.i64_in _ (by omega)
      have w2 : IntKind.i64.wrap ((i : Int) + 1 - 1) = (i : Int) := by rw [show (i : Int) + 1 - 1 = (i : Int) by omega]; exact IntWalk.i64_in _ (by omega)
      have i0 : (0 : Int) <= i := by omega
      have i1 : (i : Int) < xs.length := by omega
      rw [decide_eq_true (show 0 < i + 1 by omega), Bool.true_and] at hbd
      clear P2
      cases q3
      ·have HT := Lib.hid (HBAD.out (by rw [hbd]; simp))
       clear hbd HBAD HOK
       go_quiet ((go_at_call 44; exact Calls.quiet_of_same (CQ.out _)))
       go_wp2
       go_ret
       exact ⟨ret_int (by rw [HT.out]), below_drewN BW _⟩
      ·have HT := Lib.hid (HOK.out (by rw [hbd]; simp))
       clear hbd HBAD HOK
       go_quiet ((go_at_call 44; exact Calls.quiet_of_same (CQ.out _)))
       go_wp2
       go_roundw
       case rel => exact ⟨i + 1 + 1, by go_num, by omega, below_drewN BZ _, HT⟩
       case measure => simp [intOf]; omega
     ·obtain rfl : j = 0 := by omega
      have HT := Lib.hid (HOK.out (by rw [hbd]; simp))
      clear hbd HBAD HOK P2
      go_quiet ((go_at_call 44; exact Calls.quiet_of_same (CQ.out _)))
      go_wp2
      go_roundw
      case rel => exact ⟨0 + 1, by go_num, by omega, below_drewN BZ _, HT⟩
      case measure => simp [intOf]; omega
  ·have k1 : ¬ (j : Int) < xs.length := by omega
   have HT := Lib.hid (show vL xs = 0 by unfold vL; rw [ok_all (show j = xs.length by omega) HG.out]; rfl)
   go_wp2
   go_ret
   exact ⟨ret_int (by rw [HT.out]), BK⟩
end Go.Proofs.YtbicmlkjonaccaaDoor.Ln


namespace Go.Proofs.YtbicmlkjonaccaaDoor.Rg
open Go.ChangeShapes Go.WideShapes Go.ChangeAt Go.RowKit
set_option linter.unusedVariables false
set_option linter.unusedSimpArgs false

section
variable {P : Program} {ops : Array Oper} {Q : Exit -> Act -> World -> Prop} {md : Region.Mode} {S : World -> Prop}
theorem at_of {i : Nat} {oi : Oper} (h : ops.toList[i]? = some oi) : ops[i]? = some oi := by rw [<- Array.getElem?_toList]; exact h
/-- An operation that is carried out, or left out, first. -/
theorem take {i : Nat} {oi : Oper} {v : Value} {fuel : Nat} {listed : Array Bool} {a : Act} {w : World} (hi : ops.toList[i]? = some oi)
  (hs : Region.noSelect ops = true) (hf : Region.free md ops listed i = true) (hr : (Region.ready md ops listed).contains i = true)
  (hQ : ∀ c a w, Q (.panic c) (a.put oi.dst v) w -> Q (.panic c) a w) (hy : YieldsIf P ops S oi v a) (hS : S w)
  (h : wpAnyH P md ops Q S fuel (listed.setIfInBounds i true) (a.put oi.dst v) w) : wpAnyH P md ops Q S (fuel + 1) listed a w :=
 wpAnyH_take (at_of hi) hs hf hr hQ hy hS h
/-- The one operation that may come up. -/
theorem one {i : Nat} {o : Oper} {fuel : Nat} {listed : Array Bool} {a : Act} {w : World} (hr : Region.ready md ops listed = [i]) (ho : ops.toList[i]? = some o)
  (h : ∀ K' : Act -> World -> Prop, Shut (∀ a w, S w -> (S w -> wpAnyH P md ops Q S fuel (listed.setIfInBounds i true) a w) -> K' a w) -> if Region.wanted o (yielded ops a.tmps) = true then Oper.wp P o a w K' Q else K' (a.put o.dst undef) w) :
  wpAnyH P md ops Q S (fuel + 1) listed a w :=
 wpAnyH_ready hr (by simp) (AllReadyH.cons (at_of ho) h AllReadyH.nil)
end
/-- Two cells of a result, whatever they hold. -/
def RC (r : Nat) (w : World) : Prop := (∃ a, w.cell? ⟨r, 0, none⟩ = some (.int .i64 a)) /\ (∃ b, w.cell? ⟨r, 1, none⟩ = some (.int .i64 b)) /\ w.frozen? ⟨r, 0, none⟩ = false /\ w.frozen? ⟨r, 1, none⟩ = false
theorem keep {y y' : World} {b o : Nat} {v : Value} (hy : Below y.heap.size y y') (hb : b < y.heap.size) (h : y.cell? ⟨b, o, none⟩ = some v) : y'.cell? ⟨b, o, none⟩ = some v := (hy.cell (p := ⟨b, o, none⟩) hb).trans h
theorem keepF {y y' : World} {b o : Nat} {v : Bool} (hy : Below y.heap.size y y') (hb : b < y.heap.size) (h : y.frozen? ⟨b, o, none⟩ = v) : y'.frozen? ⟨b, o, none⟩ = v := (hy.frozen (p := ⟨b, o, none⟩) hb).trans h
theorem notFrozen {w : World} {b o : Nat} (h : w.heap.size <= b) : w.frozen? ⟨b, o, none⟩ = false := by
 unfold World.frozen?
 rw [Array.getElem?_eq_none (by simpa using h)]
theorem RC.keep {y y' : World} {r : Nat} (hy : Below y.heap.size y y') (hb : r < y.heap.size) (h : RC r y) : RC r y' := by
 obtain ⟨⟨a, ha⟩, ⟨b, hb'⟩, f, g⟩ := h
 exact ⟨⟨a, Rg.keep hy hb ha⟩, ⟨b, Rg.keep hy hb hb'⟩, keepF hy hb f, keepF hy hb g⟩

theorem RC.far {u : World} {r b : Nat} {x y : Value} (h : r ≠ b) (hc : RC b u) : RC b ((u.setCell ⟨r, 0, none⟩ x).setCell ⟨r, 1, none⟩ y) := by
 obtain ⟨⟨a, ha⟩, ⟨c, hb⟩, f, g⟩ := hc
 refine ⟨⟨a, ?_⟩, ⟨c, ?_⟩, by simpa [World.frozen?_setCell] using f, by simpa [World.frozen?_setCell] using g⟩
 ·rw [World.cell?_setCell_far _ _ _ _ h, World.cell?_setCell_far _ _ _ _ h]; exact ha
 ·rw [World.cell?_setCell_far _ _ _ _ h, World.cell?_setCell_far _ _ _ _ h]; exact hb
theorem RC.mk {u : World} {r : Nat} {a b : Int} (ha : u.cell? ⟨r, 0, none⟩ = some (.int .i64 a)) (hb : u.cell? ⟨r, 1, none⟩ = some (.int .i64 b)) (f : u.frozen? ⟨r, 0, none⟩ = false) (g : u.frozen? ⟨r, 1, none⟩ = false) : RC r u := ⟨⟨a, ha⟩, ⟨b, hb⟩, f, g⟩
theorem far {u : World} {r b o : Nat} {v x y : Value} (h : r ≠ b) (hc : u.cell? ⟨b, o, none⟩ = some v) : ((u.setCell ⟨r, 0, none⟩ x).setCell ⟨r, 1, none⟩ y).cell? ⟨b, o, none⟩ = some v := by
 rw [World.cell?_setCell_far _ _ _ _ h, World.cell?_setCell_far _ _ _ _ h]
 exact hc

theorem bcell {W w1 : World} (hb : Below W.heap.size W w1) : (∀ b o, b < W.heap.size -> w1.cell? ⟨b, o, none⟩ = W.cell? ⟨b, o, none⟩) /\ (∀ b o, b < W.heap.size -> w1.frozen? ⟨b, o, none⟩ = W.frozen? ⟨b, o, none⟩) :=
 ⟨fun b o h => hb.cell (p := ⟨b, o, none⟩) h, fun b o h => hb.frozen (p := ⟨b, o, none⟩) h⟩
end Go.Proofs.YtbicmlkjonaccaaDoor.Rg
