/- SortStableFunc at two elements. -/
import Derived.Test.YtbicmlkjonaccaaDoorK15
import Derived.Test.YtbicmlkjonaccaaDoorK5
import Derived.Test.YtbicmlkjonaccaaDoorK11
import Derived.Test.YtbicmlkjonaccaaDoorK3
import Derived.Test.YtbicmlkjonaccaaDoorK4
import Derived.Test.YtbicmlkjonaccaaDoorK1
import Derived.Lib.ItoaNum
import Derived.Lib.SmallJoins
import Derived.Lib.AppendIntMem
import Derived.IntWalk

namespace Go.Proofs.YtbicmlkjonaccaaDoor.Ln
open Go.ChangeShapes Go.WideShapes Go.ChangeAt Go.RowKit
open Go.Proofs.YtbicmlkjonaccaaDoor.Nm
set_option linter.unusedVariables false
set_option linter.unusedSimpArgs false
set_option maxRecDepth 8000

set_option maxRecDepth 100000 in
set_option maxHeartbeats 8000000 in
theorem stab2 (g cap base : Nat) (k0 : Int) (p0 : Option Addr) (xs0 : List Mo) (c0 : Nat) (k1 : Int) (p1 : Option Addr) (xs1 : List Mo) (c1 : Nat) (r : Int) (hr : r < 0) (w : World)
  (hO : Hid (w.ownsRow base 36 3 (.slice (some ⟨g, 0, none⟩) 2 cap) 2 [.int .i64 k0, .slice p0 xs0.length c0, .bool false, .int .i64 k1, .slice p1 xs1.length c1, .bool false])) (S0 : Hid (SlM w p0 xs0)) (S1 : Hid (SlM w p1 xs1))
  (NC : Hid (∀ w', SlM w' p1 xs1 -> SlM w' p0 xs0 -> Calls Tryd.prog 72 #[Cv k1 p1 xs1.length c1 false, Cv k0 p0 xs0.length c0 false] w' fun e w2 => e = .returned (.int .i64 r) /\ Below w'.heap.size w' w2)) :
  Calls Tryd.prog 102 #[.slice (some ⟨g, 0, none⟩) 2 cap, .int .i64 2, .func (.func 72) #[] #[]] w fun e w' => e = .returned (.tuple #[]) /\ Below base w w' /\ K59 w w' /\ w'.ownsRow base 36 3 (.slice (some ⟨g, 0, none⟩) 2 cap) 2 [.int .i64 k1, .slice p1 xs1.length c1, .bool false, .int .i64 k0, .slice p0 xs0.length c0, .bool false] := by
 have IC := Lib.hid (ins2 g cap base k0 p0 xs0 c0 k1 p1 xs1 c1 r hr w hO S0 S1 NC)
 go_enter Tryd.func102, Tryd.ntmps102
 go_wp2_with fail
 refine wp_loop_rounds 1 ?_
 rw [rounds_succ]
 go_wp2_with (go_at_call 120; (with_reducible refine IC.out.mono ?_); rintro e w1 ⟨rfl, B1, K1, O1⟩)
 refine wp_loop_rounds 1 ?_
 rw [rounds_succ]
 go_wp2_with fail
 go_end0
 exact ⟨rfl, B1, K1, O1⟩
set_option maxRecDepth 100000 in
set_option maxHeartbeats 8000000 in
theorem sort2 (g cap base : Nat) (k0 : Int) (p0 : Option Addr) (xs0 : List Mo) (c0 : Nat) (k1 : Int) (p1 : Option Addr) (xs1 : List Mo) (c1 : Nat) (r : Int) (hr : r < 0) (w : World)
  (hO : Hid (w.ownsRow base 36 3 (.slice (some ⟨g, 0, none⟩) 2 cap) 2 [.int .i64 k0, .slice p0 xs0.length c0, .bool false, .int .i64 k1, .slice p1 xs1.length c1, .bool false])) (S0 : Hid (SlM w p0 xs0)) (S1 : Hid (SlM w p1 xs1))
  (NC : Hid (∀ w', SlM w' p1 xs1 -> SlM w' p0 xs0 -> Calls Tryd.prog 72 #[Cv k1 p1 xs1.length c1 false, Cv k0 p0 xs0.length c0 false] w' fun e w2 => e = .returned (.int .i64 r) /\ Below w'.heap.size w' w2)) :
  Calls Tryd.prog 71 #[.slice (some ⟨g, 0, none⟩) 2 cap, .func (.func 72) #[] #[]] w fun e w' => e = .returned (.tuple #[]) /\ Below base w w' /\ K59 w w' /\ w'.ownsRow base 36 3 (.slice (some ⟨g, 0, none⟩) 2 cap) 2 [.int .i64 k1, .slice p1 xs1.length c1, .bool false, .int .i64 k0, .slice p0 xs0.length c0, .bool false] := by
 have IC := Lib.hid (stab2 g cap base k0 p0 xs0 c0 k1 p1 xs1 c1 r hr w hO S0 S1 NC)
 go_enter Tryd.func71, Tryd.ntmps71
 go_wp2_with (go_at_call 102; (with_reducible refine IC.out.mono ?_); rintro e w1 ⟨rfl, B1, K1, O1⟩)
 go_end0
 exact ⟨rfl, B1, K1, O1⟩
end Go.Proofs.YtbicmlkjonaccaaDoor.Ln


namespace Go.Proofs.YtbicmlkjonaccaaDoor.Ln
open Go.ChangeShapes Go.WideShapes Go.ChangeAt Go.RowKit
open Go.Proofs.YtbicmlkjonaccaaDoor.Nm
set_option linter.unusedVariables false
set_option linter.unusedSimpArgs false
set_option maxRecDepth 8000

set_option maxHeartbeats 4000000 in
theorem un1 (k : Int) (p : Option Addr) (n c : Nat) (w : World) : Calls Tryd.prog 109 #[Cv k p n c false] w fun e w' => e = .returned (.bool false) /\ Below w.heap.size w w' := by
 unfold Cv
 go_enter Tryd.func109, Tryd.ntmps109
 go_wp2_with fail
 go_ret
 exact ⟨rfl, (Below.refl _ _).alloc (Nat.le_refl _) _⟩
set_option maxRecDepth 100000 in
set_option maxHeartbeats 8000000 in
theorem ixf2 (g cap : Nat) (k0 : Int) (p0 : Option Addr) (n0 c0 : Nat) (k1 : Int) (p1 : Option Addr) (n1 c1 : Nat) (w : World)
  (d0 : w.cell? ⟨g, 0, none⟩ = some (.int .i64 k0)) (d1 : w.cell? ⟨g, 1, none⟩ = some (.slice p0 n0 c0)) (d2 : w.cell? ⟨g, 2, none⟩ = some (.bool false)) (d3 : w.cell? ⟨g, 3, none⟩ = some (.int .i64 k1)) (d4 : w.cell? ⟨g, 4, none⟩ = some (.slice p1 n1 c1)) (d5 : w.cell? ⟨g, 5, none⟩ = some (.bool false)) :
  Calls Tryd.prog 108 #[.slice (some ⟨g, 0, none⟩) 2 cap, .func (.func 109) #[] #[]] w fun e w' => e = .returned (.int .i64 (-1)) /\ Below w.heap.size w w' := by
 have U0 := Lib.hid fun w => un1 k0 p0 n0 c0 w
 have U1 := Lib.hid fun w => un1 k1 p1 n1 c1 w
 have lg := World.block_lt_of_cell? _ _ d0
 dsimp only at lg
 unfold Cv at U0 U1
 go_enter Tryd.func108, Tryd.ntmps108
 go_wp2_with fail
 refine wp_loop_rounds 3 ?_
 rw [rounds_succ]
 go_wp2_with (go_at_call 109; (with_reducible refine (U0.out _).mono ?_); rintro e w1 ⟨rfl, hb⟩; have d3 := Rg.keep hb lg d3; have d4 := Rg.keep hb lg d4; have d5 := Rg.keep hb lg d5)
 rw [rounds_succ]
 go_wp2_with (go_at_call 109; (with_reducible refine (U1.out _).mono ?_); rintro e w2 ⟨rfl, hb2⟩; have K2 := hb.trans (hb2.mono hb.size))
 rw [rounds_succ]
 go_wp2_with fail
 go_ret
 exact ⟨rfl, K2⟩
set_option maxRecDepth 100000 in
set_option maxHeartbeats 8000000 in
/-- Two inequalities: the first is the strongest. -/
theorem uni2 (g cap : Nat) (k0 : Int) (p0 : Option Addr) (n0 c0 : Nat) (k1 : Int) (p1 : Option Addr) (n1 c1 : Nat) (w : World)
  (d0 : w.cell? ⟨g, 0, none⟩ = some (.int .i64 k0)) (d1 : w.cell? ⟨g, 1, none⟩ = some (.slice p0 n0 c0)) (d2 : w.cell? ⟨g, 2, none⟩ = some (.bool false)) (d3 : w.cell? ⟨g, 3, none⟩ = some (.int .i64 k1)) (d4 : w.cell? ⟨g, 4, none⟩ = some (.slice p1 n1 c1)) (d5 : w.cell? ⟨g, 5, none⟩ = some (.bool false)) :
  Calls Tryd.prog 75 #[.slice (some ⟨g, 0, none⟩) 2 cap] w fun e w' => e = .returned (.tuple #[Cv k0 p0 n0 c0 false, .bool true]) /\ Below w.heap.size w w' := by
 have lg := World.block_lt_of_cell? _ _ d0
 dsimp only at lg
 have BA : ∀ o, Below w.heap.size w (w.alloc o) := fun o => (Below.refl _ _).alloc (Nat.le_refl _) o
 have IX := Lib.hid fun w d0 d1 d2 d3 d4 d5 => ixf2 g cap k0 p0 n0 c0 k1 p1 n1 c1 w d0 d1 d2 d3 d4 d5
 go_enter Tryd.func75, Tryd.ntmps75
 go_wp2_with (go_at_call 108; (with_reducible refine (IX.out _ (Rg.keep (BA _) lg d0) (Rg.keep (BA _) lg d1) (Rg.keep (BA _) lg d2) (Rg.keep (BA _) lg d3) (Rg.keep (BA _) lg d4) (Rg.keep (BA _) lg d5)).mono ?_); rintro e w1 ⟨rfl, hb⟩; have BB := (BA (Obj.cells #[Value.int .i64 0, Value.slice none 0 0, Value.bool false] 36)).trans (hb.mono (by simp)); have e0 := Rg.keep BB lg d0; have e1 := Rg.keep BB lg d1; have e2 := Rg.keep BB lg d2; have y0 : w1.cell? ⟨w.heap.size, 0, none⟩ = some (.int .i64 0) := Rg.keep hb (by simp) (by go_cell); have y1 : w1.cell? ⟨w.heap.size, 1, none⟩ = some (.slice none 0 0) := Rg.keep hb (by simp) (by go_cell); have y2 : w1.cell? ⟨w.heap.size, 2, none⟩ = some (.bool false) := Rg.keep hb (by simp) (by go_cell); have x0 : w1.frozen? ⟨w.heap.size, 0, none⟩ = false := Rg.keepF hb (by simp) (by go_cell); have x1 : w1.frozen? ⟨w.heap.size, 1, none⟩ = false := Rg.keepF hb (by simp) (by go_cell); have x2 : w1.frozen? ⟨w.heap.size, 2, none⟩ = false := Rg.keepF hb (by simp) (by go_cell); have ng : ¬ w.heap.size = g := (by omega))
 have lw : w.heap.size < w1.heap.size := World.block_lt_of_cell? _ _ y0
 have KB : Below w.heap.size w w1 := BB
 have SB := ((KB.setCell (p := ⟨w.heap.size, 0, none⟩) (Nat.le_refl _) (.int .i64 k0)).setCell (p := ⟨w.heap.size, 1, none⟩) (Nat.le_refl _) (.slice p0 n0 c0)).setCell (p := ⟨w.heap.size, 2, none⟩) (Nat.le_refl _) (.bool false)
 refine bodyPost_ret (v := .tuple #[.agg #[.int .i64 k0, .slice p0 n0 c0, .bool false], .bool true]) (by simp [results, Tryd.results75, go_sem, y0, y1, y2, x0, x1, x2, lw]) rfl ⟨rfl, SB⟩
end Go.Proofs.YtbicmlkjonaccaaDoor.Ln


namespace Go.Proofs.YtbicmlkjonaccaaDoor.Ln
open Go.ChangeShapes Go.WideShapes Go.ChangeAt Go.RowKit
open Go.Proofs.YtbicmlkjonaccaaDoor.Nm
set_option linter.unusedVariables false
set_option linter.unusedSimpArgs false
set_option maxRecDepth 8000

abbrev FmE := Int × List Mo
abbrev f0m : FmE := (0, [])
/-- A slice of inequalities. -/
def SlC (w : World) (p : Option Addr) (l : List FmE) : Prop := ∀ i, i < l.length -> ∃ b o q c, p = some ⟨b, o, none⟩ /\ w.cell? ⟨b, o + i * 3, none⟩ = some (.int .i64 (l.getD i f0m).1) /\ w.cell? ⟨b, o + i * 3 + 1, none⟩ = some (.slice q (l.getD i f0m).2.length c) /\ w.cell? ⟨b, o + i * 3 + 2, none⟩ = some (.bool false) /\ SlM w q (l.getD i f0m).2
/-- The cells of a row of inequalities. -/
def tcs : List FmE -> List (Option Addr × Nat) -> List Value
 | a :: r, q :: s => [.int .i64 a.1, .slice q.1 a.2.length q.2, .bool false] ++ tcs r s
 | _, _ => []
theorem tcs_snoc (a : FmE) (q : Option Addr × Nat) : ∀ (l : List FmE) (s : List (Option Addr × Nat)), l.length = s.length -> tcs (l ++ [a]) (s ++ [q]) = tcs l s ++ [.int .i64 a.1, .slice q.1 a.2.length q.2, .bool false]
 | [], [], _ => rfl
 | b :: l, r :: s, h => by
  have ih := tcs_snoc a q l s (by simpa using h)
  show [.int .i64 b.1, .slice r.1 b.2.length r.2, .bool false] ++ tcs (l ++ [a]) (s ++ [q]) = _
  rw [ih]
  rfl
 | [], r :: s, h => by simp at h
 | b :: l, [], h => by simp at h
/-- What stands behind j constraints. -/
def FS (res : List FmE) (gt j : Nat) (vl : Value) (qs : List (Option Addr × Nat)) (wr : World) : Prop := qs.length = j /\ wr.heap[gt]? = some (.cells #[vl] 30 (0, 0)) /\ wr.heap[gt + 1]? = some (.cells #[.bool true] 4 (0, 0)) /\ wr.ownsRow (gt + 2) 36 3 vl j (tcs (res.take j) qs) /\ ∀ i, i < j -> SlK wr (qs.getD i (none, 0)).1 (res.getD i f0m).2
theorem take_fm {xs : List FmE} {j : Nat} (h : j < xs.length) : xs.take (j + 1) = xs.take j ++ [xs.getD j f0m] := by
 rw [List.take_succ_eq_append_getElem h]
 have e1 : xs.getD j f0m = xs[j] := by unfold List.getD; rw [List.getElem?_eq_getElem h]; rfl
 rw [e1]
theorem FS.step {res : List FmE} {gt j : Nat} {vl3 : Value} {qs : List (Option Addr × Nat)} {q3 : Option Addr} {d3 : Nat} {K : Int} {ys : List Mo} {wr w1 : World} (hj : j < res.length) (hl : qs.length = j) (hE : ∀ i, i < j -> SlK wr (qs.getD i (none, 0)).1 (res.getD i f0m).2) (K3 : K59 wr w1) (SK : SlK w1 q3 ys) (hrr : res.getD j f0m = (K, ys))
  (t1 : w1.heap[gt]? = some (.cells #[vl3] 30 (0, 0))) (t2 : w1.heap[gt + 1]? = some (.cells #[.bool true] 4 (0, 0))) (O3 : w1.ownsRow (gt + 2) 36 3 vl3 (j + 1) (tcs (res.take j) qs ++ [.int .i64 K, .slice q3 ys.length d3, .bool false])) : FS res gt (j + 1) vl3 (qs ++ [(q3, d3)]) w1 := by
 refine ⟨by simp [hl], t1, t2, ?_, fun i hi => ?_⟩
 ·rw [take_fm hj, hrr, tcs_snoc _ _ _ _ (by rw [hl, List.length_take]; omega)]
  exact O3
 ·rcases (by omega : i < j \/ i = j) with h | rfl
  ·have e : (qs ++ [(q3, d3)]).getD i (none, 0) = qs.getD i (none, 0) := by
    rw [List.getD_eq_getElem?_getD, List.getD_eq_getElem?_getD, List.getElem?_append_left (by omega)]
   rw [e]
   exact (hE i h).on K3
  ·have e : (qs ++ [(q3, d3)]).getD i (none, 0) = (q3, d3) := by
    rw [List.getD_eq_getElem?_getD, List.getElem?_append_right (by omega)]
    simp [hl]
   rw [e, hrr]
   exact SK
set_option maxRecDepth 100000 in
set_option maxHeartbeats 4000000 in
theorem first1 (p : Option Addr) (l res : List FmE) (c gt : Nat) (vl : Value) (w : World) (hn : l.length <= 1000) (hr : res.length = l.length) (RA : Hid (∀ wz, Below gt w wz -> SlC wz p l))
  (T : Hid (∀ i, i < l.length -> ∀ p c w', SlM w' p (l.getD i f0m).2 -> Calls Tryd.prog 28 #[Cv (l.getD i f0m).1 p (l.getD i f0m).2.length c false] w' (TR ((res.getD i f0m).1, (res.getD i f0m).2, false, 0, 0) w')))
  (hS : Hid (FS res gt 0 vl [] w)) (lt : gt + 1 < w.heap.size) :
  Calls Tryd.prog 56 #[.slice p l.length c, .func (.func 70) #[] #[.pointer (some ⟨gt, 0, none⟩), .pointer (some ⟨gt + 1, 0, none⟩)]] w fun e w' => e = .returned (.tuple #[.int .i64 l.length, .int .i64 0]) /\ Below gt w w' /\ ∃ vl qs, FS res gt l.length vl qs w' := by
 obtain ⟨n, hnn⟩ : ∃ n, l.length = n := ⟨_, rfl⟩
 have HN := Lib.hid hnn
 rw [hnn] at hn hr ⊢
 clear hnn
 go_enter Tryd.func56, Tryd.ntmps56
 go_wp2_with fail
 go_loopw [11] (fun i wr => ∃ (j : Nat), i = .int .i64 j /\ j <= n /\ gt + 1 < wr.heap.size /\ Hid (Below gt w wr) /\ Hid (∃ vl qs, FS res gt j vl qs wr)) (fun i _ => n - (intOf i).toNat)
 case atStart => exact ⟨0, rfl, Nat.zero_le _, lt, Lib.hid (Below.refl _ _), Lib.hid ⟨vl, [], hS.out⟩⟩
 case round =>
  obtain ⟨j, rfl, hj, lr, hB, hF⟩ := hrel
  have jj : (0 : Int) <= j := by omega
  by_cases hlt : j < n
  ·obtain ⟨b, o, q, d, rfl, c0, c1, c2, hM⟩ := RA.out wr hB.out j (by rw [HN.out]; exact hlt)
   have j2 : (j : Int) < n := by omega
   have hbr : b < wr.heap.size := World.block_lt_of_cell? _ _ c0
   obtain ⟨vl2, qs, hl, ht, hp, hO, hE⟩ := hF.out
   have TT := Lib.hid (T.out j (by rw [HN.out]; exact hlt))
   have htk := take_fm (xs := res) (j := j) (by omega)
   obtain ⟨f, hf⟩ : ∃ f, l.getD j f0m = f := ⟨_, rfl⟩
   obtain ⟨r, hrr⟩ : ∃ r, res.getD j f0m = r := ⟨_, rfl⟩
   rw [hf] at c0 c1 hM TT
   rw [hrr] at TT htk
   obtain ⟨k, xs⟩ := f
   obtain ⟨K, ys⟩ := r
   dsimp only at c0 c1 hM TT
   have OBJ : ∃ O, O = (Obj.cells #[Value.int .i64 k, Value.slice q xs.length d, Value.bool false] 36) := ⟨_, rfl⟩
   have BA := (Below.refl wr.heap.size wr).alloc (Nat.le_refl _) (Obj.cells #[Value.int .i64 k, Value.slice q xs.length d, Value.bool false] 36)
   have ht2 := (BA.block gt (by omega)).trans ht
   have hp2 := (BA.block (gt + 1) lr).trans hp
   have CL := Lib.hid (nclo k K q xs ys d gt j vl2 (tcs (res.take j) qs) _ (by omega) (Lib.hid fun w' h => TT.out q d w' h) (Lib.hid (SlM.keep BA hM)) ht2 hp2 (Lib.hid (hO.alloc _)))
   have KA : K59 wr (wr.alloc (Obj.cells #[Value.int .i64 k, Value.slice q xs.length d, Value.bool false] 36)) := K59.below BA
   have BG := Lib.hid (hB.out.alloc (by omega) (Obj.cells #[Value.int .i64 k, Value.slice q xs.length d, Value.bool false] 36))
   have HE := Lib.hid hE
   have HT := Lib.hid htk
   have HQ := Lib.hid hl
   have HRR := Lib.hid hrr
   unfold Cv at CL
   clear ht hp hO ht2 hp2 hM hE htk hf hl hrr OBJ hF hB BA
   have hjr : j < res.length := by omega
   have KAh := Lib.hid KA
   clear KA
   go_wp2_with (go_at_call 70; refine CL.out.mono ?_; rintro e w1 ⟨rfl, vl3, q3, d3, t1, t2, O3, SK, B3, K3⟩; have HF2 := Lib.hid (FS.step hjr HQ.out HE.out (KAh.out.trans K3) SK HRR.out t1 t2 O3); have HB2 := Lib.hid (BG.out.trans B3); have lr2 : gt + 1 < w1.heap.size := hlt_of t2)
   go_roundw
   case rel => exact ⟨j + 1, by go_num, by omega, lr2, HB2, Lib.hid ⟨_, _, HF2.out⟩⟩
   case measure => simp [intOf]; omega
  ·obtain rfl : j = n := by omega
   have hB2 := hB.out
   go_wp2
   refine bodyPost_ret (v := .tuple #[.int .i64 j, .int .i64 0]) (by simp [results, Tryd.results56, go_sem]) rfl ⟨rfl, hB2, hF.out⟩
end Go.Proofs.YtbicmlkjonaccaaDoor.Ln


namespace Go.Proofs.YtbicmlkjonaccaaDoor.Ln
open Go.ChangeShapes Go.WideShapes Go.ChangeAt Go.RowKit
open Go.Proofs.YtbicmlkjonaccaaDoor.Nm
set_option linter.unusedVariables false
set_option linter.unusedSimpArgs false
set_option maxRecDepth 8000

theorem SlC.keep {w w' : World} {p : Option Addr} {l : List FmE} (hb : Below w.heap.size w w') (h : SlC w p l) : SlC w' p l := fun i hi => by
 obtain ⟨b, o, q, c, hp, c0, c1, c2, hS⟩ := h i hi
 have lb : b < w.heap.size := World.block_lt_of_cell? _ _ c0
 exact ⟨b, o, q, c, hp, Rg.keep hb lb c0, Rg.keep hb lb c1, Rg.keep hb lb c2, SlM.keep hb hS⟩
/-- What Normalize leaves where one inequality remains. -/
def NF (k : Int) (ys : List Mo) (w : World) (e : Ending) (w' : World) : Prop := ∃ g c q d, e = .returned (.tuple #[.slice (some ⟨g, 0, none⟩) 1 c, .bool true, .int .i64 0]) /\ w'.cell? ⟨g, 0, none⟩ = some (.int .i64 k) /\ w'.cell? ⟨g, 1, none⟩ = some (.slice q ys.length d) /\ w'.cell? ⟨g, 2, none⟩ = some (.bool false) /\ SlM w' q ys /\ Below w.heap.size w w'
/-- The state behind the sorting: two elements, the smaller first. -/
def N2 (K0 K1 : Int) (ys : List Mo) (w w' : World) : Prop := ∃ g cap q0 d0 q1 d1, w'.heap[w.heap.size]? = some (.cells #[.slice (some ⟨g, 0, none⟩) 2 cap] 30 (0, 0)) /\
 w'.ownsRow (w.heap.size + 2) 36 3 (.slice (some ⟨g, 0, none⟩) 2 cap) 2 [.int .i64 K1, .slice q1 ys.length d1, .bool false, .int .i64 K0, .slice q0 ys.length d0, .bool false] /\ SlK w' q0 ys /\ SlK w' q1 ys /\ Below w.heap.size w w'
theorem first2 (p : Option Addr) (c : Nat) (a0 a1 K0 K1 : Int) (xs ys : List Mo) (w : World) (RA : Hid (SlC w p [(a0, xs), (a1, xs)]))
  (T0 : Hid (∀ p c w', SlM w' p xs -> Calls Tryd.prog 28 #[Cv a0 p xs.length c false] w' (TR (K0, ys, false, 0, 0) w')))
  (T1 : Hid (∀ p c w', SlM w' p xs -> Calls Tryd.prog 28 #[Cv a1 p xs.length c false] w' (TR (K1, ys, false, 0, 0) w'))) :
  Calls Tryd.prog 56 #[.slice p 2 c, .func (.func 70) #[] #[.pointer (some ⟨w.heap.size, 0, none⟩), .pointer (some ⟨w.heap.size + 1, 0, none⟩)]] ((w.alloc (Obj.cells #[Value.slice none 0 0] 30)).alloc (Obj.cells #[Value.bool true] 4)) fun e w' => e = .returned (.tuple #[.int .i64 2, .int .i64 0]) /\ Below w.heap.size w w' /\ w'.heap[w.heap.size + 1]? = some (.cells #[.bool true] 4 (0, 0)) /\ ∃ g cap q0 d0 q1 d1, w'.heap[w.heap.size]? = some (.cells #[.slice (some ⟨g, 0, none⟩) 2 cap] 30 (0, 0)) /\
   w'.ownsRow (w.heap.size + 2) 36 3 (.slice (some ⟨g, 0, none⟩) 2 cap) 2 [.int .i64 K0, .slice q0 ys.length d0, .bool false, .int .i64 K1, .slice q1 ys.length d1, .bool false] /\ SlK w' q0 ys /\ SlK w' q1 ys := by
 have B2 : Below w.heap.size w ((w.alloc (Obj.cells #[Value.slice none 0 0] 30)).alloc (Obj.cells #[Value.bool true] 4)) := ((Below.refl _ _).alloc (Nat.le_refl _) _).alloc (by simp) _
 have h0 : ((w.alloc (Obj.cells #[Value.slice none 0 0] 30)).alloc (Obj.cells #[Value.bool true] 4)).heap[w.heap.size]? = some (.cells #[.slice none 0 0] 30 (0, 0)) := (Below.heap_alloc _ _ _ (by simp)).trans (heap_alloc_new w _)
 have h1 : ((w.alloc (Obj.cells #[Value.slice none 0 0] 30)).alloc (Obj.cells #[Value.bool true] 4)).heap[w.heap.size + 1]? = some (.cells #[.bool true] 4 (0, 0)) := by have := heap_alloc_new (w.alloc (Obj.cells #[Value.slice none 0 0] 30)) (Obj.cells #[Value.bool true] 4); simpa using this
 have F := first1 p [(a0, xs), (a1, xs)] [(K0, ys), (K1, ys)] c w.heap.size (.slice none 0 0) ((w.alloc (Obj.cells #[Value.slice none 0 0] 30)).alloc (Obj.cells #[Value.bool true] 4)) (by simp) rfl (Lib.hid fun wz hz => SlC.keep (B2.trans hz) RA.out)
  (Lib.hid fun i hi => by
   rcases i with _ | _ | i
   ·exact T0.out
   ·exact T1.out
   ·exact absurd (show i + 2 < 2 from hi) (by omega)) (Lib.hid ⟨rfl, h0, h1, World.ownsRow_nil _ _ _ _, fun i hi => absurd hi (Nat.not_lt_zero _)⟩) (by simp)
 refine F.mono ?_
 rintro e w' ⟨rfl, hb, vl, qs, hl, k0, k1, hO, hS⟩
 refine ⟨rfl, B2.trans hb, k1, ?_⟩
 rcases qs with _ | ⟨⟨q0, d0⟩, _ | ⟨⟨q1, d1⟩, _ | ⟨z, qs⟩⟩⟩
 ·simp at hl
 ·simp at hl
 ·have s0 := hS 0 (by simp)
  have s1 := hS 1 (by simp)
  rcases hO.2 with ⟨hv, hn⟩ | ⟨g, cap, cur, hv, r⟩
  ·simp at hn
  ·subst hv
   exact ⟨g, cap, q0, d0, q1, d1, k0, hO, s0, s1⟩
 ·simp at hl
end Go.Proofs.YtbicmlkjonaccaaDoor.Ln


namespace Go.Proofs.YtbicmlkjonaccaaDoor.Ln
open Go.ChangeShapes Go.WideShapes Go.ChangeAt Go.RowKit
open Go.Proofs.YtbicmlkjonaccaaDoor.Nm
set_option linter.unusedVariables false
set_option linter.unusedSimpArgs false
set_option maxRecDepth 8000

set_option maxRecDepth 100000 in
set_option maxHeartbeats 8000000 in
theorem norm2 (p : Option Addr) (c : Nat) (a0 a1 K0 K1 : Int) (xs ys : List Mo) (w : World) (hm : ys.length <= maxLen) (RA : Hid (SlC w p [(a0, xs), (a1, xs)]))
  (T0 : Hid (∀ p c w', SlM w' p xs -> Calls Tryd.prog 28 #[Cv a0 p xs.length c false] w' (TR (K0, ys, false, 0, 0) w')))
  (T1 : Hid (∀ p c w', SlM w' p xs -> Calls Tryd.prog 28 #[Cv a1 p xs.length c false] w' (TR (K1, ys, false, 0, 0) w')))
  (hr : cl K1 ys K0 ys < 0) (he : lc ys ys = 0) :
  Calls Tryd.prog 36 #[.slice p 2 c] w (NF K1 ys w) := by
 have F := Lib.hid (first2 p c a0 a1 K0 K1 xs ys w RA T0 T1)
 have SO := Lib.hid fun g cap q0 d0 q1 d1 w1 hO S0 S1 => sort2 g cap (w.heap.size + 2) K0 q0 ys d0 K1 q1 ys d1 _ hr w1 hO S0 S1 (Lib.hid fun w' h1 h0 => ncmp K1 q1 ys d1 K0 q0 ys d0 w' hm hm (Lib.hid h1) (Lib.hid h0))
 have EQ0 : Hid (∀ p q c d w, Hid (SlM w p ys) -> Hid (SlM w q ys) -> Calls Tryd.prog 74 #[.slice p ys.length c, .slice q ys.length d] w fun e w' => e = .returned (.bool true) /\ Below w.heap.size w w') := Lib.hid fun p q c d w h1 h2 => by
  have h := eqF p q ys ys c d w hm hm h1 h2
  rw [he] at h
  exact h
 have UN := Lib.hid fun g cap k0 p0 n0 c0 k1 p1 n1 c1 w d0 d1 d2 d3 d4 d5 => uni2 g cap k0 p0 n0 c0 k1 p1 n1 c1 w d0 d1 d2 d3 d4 d5
 have lgN : ∀ b : Bool, decide (Int.ofNat 1 < 2) = true := fun _ => by decide
 unfold Cv at UN
 clear RA T0 T1 hr he
 go_enter Tryd.func36, Tryd.ntmps36
 go_wp2_with (go_at_call 56; (with_reducible refine F.out.mono ?_); rintro e w1 ⟨rfl, B1, m1, g, cap, q0, e0, q1, e1, m0, O1, S0, S1⟩; have b0 := cell_of_one m0; have b1 := cell_of_one m1; have HO1 := Lib.hid O1; have HS0 := Lib.hid S0; have HS1 := Lib.hid S1; have HM0 := Lib.hid m0; clear O1 S0 S1 m0 m1)
 refine (SO.out g cap q0 e0 q1 e1 _ HO1 (Lib.hid HS0.out.1) (Lib.hid HS1.out.1)).mono ?_
 rintro e w2 ⟨rfl, B2, K2, O2⟩
 have HO2 := Lib.hid O2
 have ls1 : w.heap.size < w1.heap.size := lt_of_block HM0.out
 have HM2 := Lib.hid ((B2.block _ (by omega)).trans HM0.out)
 have SM0 := Lib.hid (HS0.out.on K2).1
 have SM1 := Lib.hid (HS1.out.on K2).1
 have SK1 := Lib.hid (HS1.out.on K2)
 have KB2 := B1.trans (B2.mono (by omega))
 clear b0 b1 HO1 HS0 HS1 HM0 B1 B2 K2 O2
 have t0 := cell_of_one HM2.out
 have d0 := HO2.out.cellAt 0 (by decide)
 have d1 := HO2.out.cellAt 1 (by decide)
 have d2 := HO2.out.cellAt 2 (by decide)
 have d3 := HO2.out.cellAt 3 (by decide)
 have d4 := HO2.out.cellAt 4 (by decide)
 have d5 := HO2.out.cellAt 5 (by decide)
 simp only [List.getElem?_cons_zero, List.getElem?_cons_succ] at d0 d1 d2 d3 d4 d5
 have HS : Hid (∀ u u' : World, (u.cell? ⟨w.heap.size, 0, none⟩ = some (.slice (some ⟨g, 0, none⟩) 2 cap) /\ u.cell? ⟨g, 0, none⟩ = some (.int .i64 K1) /\ u.cell? ⟨g, 1, none⟩ = some (.slice q1 ys.length e1) /\ u.cell? ⟨g, 2, none⟩ = some (.bool false) /\ u.cell? ⟨g, 3, none⟩ = some (.int .i64 K0) /\ u.cell? ⟨g, 4, none⟩ = some (.slice q0 ys.length e0) /\ u.cell? ⟨g, 5, none⟩ = some (.bool false) /\ Below w2.heap.size w2 u) -> Below u.heap.size u u' -> (u'.cell? ⟨w.heap.size, 0, none⟩ = some (.slice (some ⟨g, 0, none⟩) 2 cap) /\ u'.cell? ⟨g, 0, none⟩ = some (.int .i64 K1) /\ u'.cell? ⟨g, 1, none⟩ = some (.slice q1 ys.length e1) /\ u'.cell? ⟨g, 2, none⟩ = some (.bool false) /\ u'.cell? ⟨g, 3, none⟩ = some (.int .i64 K0) /\ u'.cell? ⟨g, 4, none⟩ = some (.slice q0 ys.length e0) /\ u'.cell? ⟨g, 5, none⟩ = some (.bool false) /\ Below w2.heap.size w2 u')) := Lib.hid (fun u u' h hb => ⟨Rg.keep hb (World.block_lt_of_cell? _ _ h.1) h.1, Rg.keep hb (World.block_lt_of_cell? _ _ h.2.1) h.2.1, Rg.keep hb (World.block_lt_of_cell? _ _ h.2.2.1) h.2.2.1, Rg.keep hb (World.block_lt_of_cell? _ _ h.2.2.2.1) h.2.2.2.1, Rg.keep hb (World.block_lt_of_cell? _ _ h.2.2.2.2.1) h.2.2.2.2.1, Rg.keep hb (World.block_lt_of_cell? _ _ h.2.2.2.2.2.1) h.2.2.2.2.2.1, Rg.keep hb (World.block_lt_of_cell? _ _ h.2.2.2.2.2.2.1) h.2.2.2.2.2.2.1, h.2.2.2.2.2.2.2.trans (hb.mono h.2.2.2.2.2.2.2.size)⟩)
 have EQ := Lib.hid fun w h0 h1 => EQ0.out q0 q1 e0 e1 w h0 h1
 go_wp2_with fail
 refine wp_loop_rounds 2 ?_
 rw [rounds_succ]
 go_wp2_with fail
 refine wp_loop_rounds 2 ?_
 rw [rounds_succ]
 go_wp2_with fail
 refine Rk.begin (S := fun wS => wS.cell? ⟨w.heap.size, 0, none⟩ = some (.slice (some ⟨g, 0, none⟩) 2 cap) /\ wS.cell? ⟨g, 0, none⟩ = some (.int .i64 K1) /\ wS.cell? ⟨g, 1, none⟩ = some (.slice q1 ys.length e1) /\ wS.cell? ⟨g, 2, none⟩ = some (.bool false) /\ wS.cell? ⟨g, 3, none⟩ = some (.int .i64 K0) /\ wS.cell? ⟨g, 4, none⟩ = some (.slice q0 ys.length e0) /\ wS.cell? ⟨g, 5, none⟩ = some (.bool false) /\ Below w2.heap.size w2 wS) 17 (by kernel_rfl) ⟨t0, d0, d1, d2, d3, d4, d5, Below.drew (Below.refl _ _)⟩ (fun hHeld => ?_)
 refine Rk.takeP (i := 0) (v := ?_) rfl (by kernel_rfl) (by kernel_rfl) (by kernel_rfl) (by kernel_rfl) (fun _ _ _ h => h) (Or.inl ⟨by kernel_rfl, ?_⟩) (by assumption) ?_
 rotate_left
 ·((intro w hSw; go_simp) <;> with_reducible rfl)
 try simp only [Act.put, List.setIfInBounds_toArray, List.set_cons_zero, List.set_cons_succ]
 refine Rk.take [2, 3, 4, 17] (i := 1) (v := ?_) rfl (by kernel_rfl) (by kernel_rfl) (by kernel_rfl) (by kernel_rfl) (by kernel_rfl) (fun _ _ _ h => h) (Or.inl ⟨by kernel_rfl, ?_⟩) (by assumption) ?_
 rotate_left
 ·((intro w hSw; (try dsimp only at hSw); go_simp) <;> with_reducible rfl)
 try simp only [Act.put, List.setIfInBounds_toArray, List.set_cons_zero, List.set_cons_succ]
 refine Rk.takeP (i := 2) (v := ?_) rfl (by kernel_rfl) (by kernel_rfl) (by kernel_rfl) (by kernel_rfl) (fun _ _ _ h => h) (Or.inl ⟨by kernel_rfl, ?_⟩) (by assumption) ?_
 rotate_left
 ·((intro w hSw; go_simp) <;> with_reducible rfl)
 try simp only [Act.put, List.setIfInBounds_toArray, List.set_cons_zero, List.set_cons_succ]
 refine Rk.takeP (i := 3) (v := ?_) rfl (by kernel_rfl) (by kernel_rfl) (by kernel_rfl) (by kernel_rfl) (fun _ _ _ h => h) (Or.inl ⟨by kernel_rfl, ?_⟩) (by assumption) ?_
 rotate_left
 ·((intro w hSw; go_simp) <;> with_reducible rfl)
 try simp only [Act.put, List.setIfInBounds_toArray, List.set_cons_zero, List.set_cons_succ]
 refine Rk.takeP (i := 4) (v := ?_) rfl (by kernel_rfl) (by kernel_rfl) (by kernel_rfl) (by kernel_rfl) (fun _ _ _ h => h) (Or.inl ⟨by kernel_rfl, ?_⟩) (by assumption) ?_
 rotate_left
 ·((intro w hSw; go_simp) <;> with_reducible rfl)
 try simp only [Act.put, List.setIfInBounds_toArray, List.set_cons_zero, List.set_cons_succ]
 refine Rk.take [7, 8, 9, 10, 16, 17] (i := 5) (v := ?_) rfl (by kernel_rfl) (by kernel_rfl) (by kernel_rfl) (by kernel_rfl) (by kernel_rfl) (fun _ _ _ h => h) (Or.inl ⟨by kernel_rfl, ?_⟩) (by assumption) ?_
 rotate_left
 ·((intro w hSw; (try dsimp only at hSw); go_simp) <;> with_reducible rfl)
 try simp only [Act.put, List.setIfInBounds_toArray, List.set_cons_zero, List.set_cons_succ]
 refine Rk.takeP (i := 6) (v := ?_) rfl (by kernel_rfl) (by kernel_rfl) (by kernel_rfl) (by kernel_rfl) (fun _ _ _ h => h) (Or.inl ⟨by kernel_rfl, ?_⟩) (by assumption) ?_
 rotate_left
 ·((intro w hSw; go_simp) <;> with_reducible rfl)
 try simp only [Act.put, List.setIfInBounds_toArray, List.set_cons_zero, List.set_cons_succ]
 refine Rk.takeP (i := 7) (v := ?_) rfl (by kernel_rfl) (by kernel_rfl) (by kernel_rfl) (by kernel_rfl) (fun _ _ _ h => h) (Or.inl ⟨by kernel_rfl, ?_⟩) (by assumption) ?_
 rotate_left
 ·((intro w hSw; go_simp) <;> with_reducible rfl)
 try simp only [Act.put, List.setIfInBounds_toArray, List.set_cons_zero, List.set_cons_succ]
 refine Rk.takeP (i := 8) (v := ?_) rfl (by kernel_rfl) (by kernel_rfl) (by kernel_rfl) (by kernel_rfl) (fun _ _ _ h => h) (Or.inl ⟨by kernel_rfl, ?_⟩) (by assumption) ?_
 rotate_left
 ·((intro w hSw; go_simp) <;> with_reducible rfl)
 try simp only [Act.put, List.setIfInBounds_toArray, List.set_cons_zero, List.set_cons_succ]
 refine Rk.takeP (i := 9) (v := ?_) rfl (by kernel_rfl) (by kernel_rfl) (by kernel_rfl) (by kernel_rfl) (fun _ _ _ h => h) (Or.inl ⟨by kernel_rfl, ?_⟩) (by assumption) ?_
 rotate_left
 ·((intro w hSw; go_simp) <;> with_reducible rfl)
 try simp only [Act.put, List.setIfInBounds_toArray, List.set_cons_zero, List.set_cons_succ]
 refine Rk.take [16, 17] (i := 10) (v := ?_) rfl (by kernel_rfl) (by kernel_rfl) (by kernel_rfl) (by kernel_rfl) (by kernel_rfl) (fun _ _ _ h => h) (Or.inl ⟨by kernel_rfl, ?_⟩) (by assumption) ?_
 rotate_left
 ·((intro w hSw; (try dsimp only at hSw); go_simp) <;> with_reducible rfl)
 try simp only [Act.put, List.setIfInBounds_toArray, List.set_cons_zero, List.set_cons_succ]
 refine Rk.take [12, 13, 14, 15, 16, 17] (i := 11) (v := ?_) rfl (by kernel_rfl) (by kernel_rfl) (by kernel_rfl) (by kernel_rfl) (by kernel_rfl) (fun _ _ _ h => h) (Or.inl ⟨by kernel_rfl, ?_⟩) (by assumption) ?_
 rotate_left
 ·((intro w hSw; (try dsimp only at hSw); go_simp) <;> with_reducible rfl)
 try simp only [Act.put, List.setIfInBounds_toArray, List.set_cons_zero, List.set_cons_succ]
 refine Rk.takeP (i := 12) (v := ?_) rfl (by kernel_rfl) (by kernel_rfl) (by kernel_rfl) (by kernel_rfl) (fun _ _ _ h => h) (Or.inl ⟨by kernel_rfl, ?_⟩) (by assumption) ?_
 rotate_left
 ·((intro w hSw; go_simp) <;> with_reducible rfl)
 try simp only [Act.put, List.setIfInBounds_toArray, List.set_cons_zero, List.set_cons_succ]
 refine Rk.takeP (i := 13) (v := ?_) rfl (by kernel_rfl) (by kernel_rfl) (by kernel_rfl) (by kernel_rfl) (fun _ _ _ h => h) (Or.inl ⟨by kernel_rfl, ?_⟩) (by assumption) ?_
 rotate_left
 ·((intro w hSw; go_simp) <;> with_reducible rfl)
 try simp only [Act.put, List.setIfInBounds_toArray, List.set_cons_zero, List.set_cons_succ]
 refine Rk.takeP (i := 14) (v := ?_) rfl (by kernel_rfl) (by kernel_rfl) (by kernel_rfl) (by kernel_rfl) (fun _ _ _ h => h) (Or.inl ⟨by kernel_rfl, ?_⟩) (by assumption) ?_
 rotate_left
 ·((intro w hSw; go_simp) <;> with_reducible rfl)
 try simp only [Act.put, List.setIfInBounds_toArray, List.set_cons_zero, List.set_cons_succ]
 refine Rk.take [16, 17] (i := 15) (v := ?_) rfl (by kernel_rfl) (by kernel_rfl) (by kernel_rfl) (by kernel_rfl) (by kernel_rfl) (fun _ _ _ h => h) (Or.inl ⟨by kernel_rfl, ?_⟩) (by assumption) ?_
 rotate_left
 ·((intro w hSw; (try dsimp only at hSw); go_simp) <;> with_reducible rfl)
 try simp only [Act.put, List.setIfInBounds_toArray, List.set_cons_zero, List.set_cons_succ]
 refine Rk.one (i := 16) (by kernel_rfl) rfl (fun KK hK => ?_)
 rw [if_pos (by kernel_rfl)]
 go_simp
 ((with_reducible refine (EQ.out _ (Lib.hid (SlM.keep hHeld.2.2.2.2.2.2.2 SM0.out)) (Lib.hid (SlM.keep hHeld.2.2.2.2.2.2.2 SM1.out))).mono ?_); rintro e u ⟨rfl, hb⟩)
 first | (refine hK.out _ _ (fun _ => HS.out _ _ hHeld hb) (fun hHeld => ?_)) | (refine hK.out _ _ (HS.out _ _ hHeld hb) (fun hHeld => ?_)) | (go_wp2_with fail; refine hK.out _ _ (HS.out _ _ hHeld hb) (fun hHeld => ?_))
 clear hK KK
 refine Rk.tail [17] [_] (by kernel_rfl) (by kernel_rfl) rfl (by decide) ?_

 obtain ⟨v0, c0, c1, c2, c3, c4, c5, KU⟩ := hHeld
 go_wp2_with fail
 rw [rounds_succ]
 go_wp2_with fail
 have hcap : 2 <= cap := by
  rcases HO2.out.2 with ⟨h, _⟩ | ⟨g', cap', cur, h, hb, hh, hn, _⟩
  ·simp at h
  ·cases h; exact hn
 go_quiet (fail)
 go_wp2_with fail
 have dn : Below u.heap.size u (u.drewN nq) := (Below.refl _ _).trans ⟨rfl, rfl, rfl, Nat.le_refl _, fun _ _ => rfl⟩
 have lg : g < u.heap.size := World.block_lt_of_cell? _ _ c0
 have lz : w.heap.size < u.heap.size := World.block_lt_of_cell? _ _ v0
 refine (UN.out g cap K1 q1 ys.length e1 K0 q0 ys.length e0 (u.drewN nq) (Rg.keep dn lg c0) (Rg.keep dn lg c1) (Rg.keep dn lg c2) (Rg.keep dn lg c3) (Rg.keep dn lg c4) (Rg.keep dn lg c5)).mono ?_
 rintro e w3 ⟨rfl, hb3⟩
 have hU3 : Below u.heap.size u w3 := dn.trans (hb3.mono dn.size)
 have K3 : Below w2.heap.size w2 w3 := KU.trans (hU3.mono KU.size)
 have lu3 := hU3.size
 have z0 := Rg.keep hU3 lz v0
 have zf : w3.frozen? ⟨w.heap.size, 0, none⟩ = false := free_of_one ((K3.block _ (lt_of_block HM2.out)).trans HM2.out)
 have KH := Lib.hid K3
 clear HS c0 c1 c2 c3 c4 c5 v0 KU hb3 dn hU3 K3
 go_wp2_with fail
 obtain ⟨i0, hi, hz0, hz1, hz2⟩ := info_parts info36
 have lw3 : w.heap.size < w3.heap.size := World.block_lt_of_cell? _ _ z0
 have y3 : (w3.alloc (Obj.cells #[Value.int .i64 K1, Value.slice q1 ys.length e1, Value.bool false] 36)).cell? ⟨w.heap.size, 0, none⟩ = some (.slice (some ⟨g, 0, none⟩) 2 cap) := by go_cell
 have y0 : (w3.alloc (Obj.cells #[Value.int .i64 K1, Value.slice q1 ys.length e1, Value.bool false] 36)).cell? ⟨w3.heap.size, 0, none⟩ = some (.int .i64 K1) := by go_cell
 have y1 : (w3.alloc (Obj.cells #[Value.int .i64 K1, Value.slice q1 ys.length e1, Value.bool false] 36)).cell? ⟨w3.heap.size, 1, none⟩ = some (.slice q1 ys.length e1) := by go_cell
 have y2 : (w3.alloc (Obj.cells #[Value.int .i64 K1, Value.slice q1 ys.length e1, Value.bool false] 36)).cell? ⟨w3.heap.size, 2, none⟩ = some (.bool false) := by go_cell
 have HS : Hid (∀ u u' : World, (u.cell? ⟨w.heap.size, 0, none⟩ = some (.slice (some ⟨g, 0, none⟩) 2 cap) /\ u.cell? ⟨w3.heap.size, 0, none⟩ = some (.int .i64 K1) /\ u.cell? ⟨w3.heap.size, 1, none⟩ = some (.slice q1 ys.length e1) /\ u.cell? ⟨w3.heap.size, 2, none⟩ = some (.bool false) /\ Below w3.heap.size w3 u) -> Below u.heap.size u u' -> (u'.cell? ⟨w.heap.size, 0, none⟩ = some (.slice (some ⟨g, 0, none⟩) 2 cap) /\ u'.cell? ⟨w3.heap.size, 0, none⟩ = some (.int .i64 K1) /\ u'.cell? ⟨w3.heap.size, 1, none⟩ = some (.slice q1 ys.length e1) /\ u'.cell? ⟨w3.heap.size, 2, none⟩ = some (.bool false) /\ Below w3.heap.size w3 u')) := Lib.hid (fun u u' h hb => ⟨Rg.keep hb (World.block_lt_of_cell? _ _ h.1) h.1, Rg.keep hb (World.block_lt_of_cell? _ _ h.2.1) h.2.1, Rg.keep hb (World.block_lt_of_cell? _ _ h.2.2.1) h.2.2.1, Rg.keep hb (World.block_lt_of_cell? _ _ h.2.2.2.1) h.2.2.2.1, h.2.2.2.2.trans (hb.mono h.2.2.2.2.size)⟩)
 refine Rk.begin (S := fun wS => wS.cell? ⟨w.heap.size, 0, none⟩ = some (.slice (some ⟨g, 0, none⟩) 2 cap) /\ wS.cell? ⟨w3.heap.size, 0, none⟩ = some (.int .i64 K1) /\ wS.cell? ⟨w3.heap.size, 1, none⟩ = some (.slice q1 ys.length e1) /\ wS.cell? ⟨w3.heap.size, 2, none⟩ = some (.bool false) /\ Below w3.heap.size w3 wS) 8 (by kernel_rfl) ⟨y3, y0, y1, y2, ((Below.refl _ _).alloc (Nat.le_refl _) _).drew⟩ (fun hHeld => ?_)
 refine Rk.takeP (i := 0) (v := ?_) rfl (by kernel_rfl) (by kernel_rfl) (by kernel_rfl) (by kernel_rfl) (fun _ _ _ h => h) (Or.inl ⟨by kernel_rfl, ?_⟩) (by assumption) ?_
 rotate_left
 ·((intro w hSw; go_simp) <;> with_reducible rfl)
 try simp only [Act.put, List.setIfInBounds_toArray, List.set_cons_zero, List.set_cons_succ]
 refine Rk.take [8] (i := 1) (v := ?_) rfl (by kernel_rfl) (by kernel_rfl) (by kernel_rfl) (by kernel_rfl) (by kernel_rfl) (fun _ _ _ h => h) (Or.inl ⟨by kernel_rfl, ?_⟩) (by assumption) ?_
 rotate_left
 ·((intro w hSw; (try dsimp only at hSw); go_simp) <;> with_reducible rfl)
 try simp only [Act.put, List.setIfInBounds_toArray, List.set_cons_zero, List.set_cons_succ]
 refine Rk.take [8] (i := 4) (v := ?_) rfl (by kernel_rfl) (by kernel_rfl) (by kernel_rfl) (by kernel_rfl) (by kernel_rfl) (fun _ _ _ h => h) (Or.inl ⟨by kernel_rfl, ?_⟩) (by assumption) ?_
 rotate_left
 ·((intro w hSw; (try dsimp only at hSw); go_simp) <;> with_reducible rfl)
 try simp only [Act.put, List.setIfInBounds_toArray, List.set_cons_zero, List.set_cons_succ]
 refine Rk.takeP (i := 5) (v := ?_) rfl (by kernel_rfl) (by kernel_rfl) (by kernel_rfl) (by kernel_rfl) (fun _ _ _ h => h) (Or.inl ⟨by kernel_rfl, ?_⟩) (by assumption) ?_
 rotate_left
 ·((intro w hSw; go_simp) <;> with_reducible rfl)
 try simp only [Act.put, List.setIfInBounds_toArray, List.set_cons_zero, List.set_cons_succ]
 refine Rk.takeP (i := 6) (v := ?_) rfl (by kernel_rfl) (by kernel_rfl) (by kernel_rfl) (by kernel_rfl) (fun _ _ _ h => h) (Or.inl ⟨by kernel_rfl, ?_⟩) (by assumption) ?_
 rotate_left
 ·((intro w hSw; go_simp) <;> with_reducible rfl)
 try simp only [Act.put, List.setIfInBounds_toArray, List.set_cons_zero, List.set_cons_succ]
 refine Rk.one (i := 2) (by kernel_rfl) rfl (fun KK hK => ?_)
 rw [if_pos (by kernel_rfl)]
 go_simp
 first | (refine hK.out _ _ (fun _ => HS.out _ _ hHeld ((Below.refl _ _).alloc (Nat.le_refl _) (Obj.cells #[Value.int .i64 K1, Value.slice q1 ys.length e1, Value.bool false] 36))) (fun hHeld => ?_)) | (refine hK.out _ _ (HS.out _ _ hHeld ((Below.refl _ _).alloc (Nat.le_refl _) (Obj.cells #[Value.int .i64 K1, Value.slice q1 ys.length e1, Value.bool false] 36))) (fun hHeld => ?_))
 clear hK KK
 refine Rk.one (i := 3) (by kernel_rfl) rfl (fun KK hK => ?_)
 rw [if_pos (by kernel_rfl)]
 refine wp_append_own _ _ _ 30 rfl w3.heap.size 36 i0 (.agg #[.int .i64 0, .slice none 0 0, .bool false]) 3 40 Tryd.underlying30 hi hz0 hz1 hz2 rfl (by decide) (.slice none 0 0) 0 [] rfl (World.ownsRow_nil _ _ _ _) _ 1 1 [.int .i64 K1, .slice q1 ys.length e1, .bool false] rfl rfl ?_ ?_ ?_ ?_ ?_ ?_
 ·intro q x hx
  rcases q with _ | _ | _ | q
  ·cases hx; go_cell
  ·cases hx; go_cell
  ·cases hx; go_cell
  ·simp at hx
 ·intro x hx
  simp at hx
  rcases hx with rfl | rfl | rfl <;> rfl
 ·decide
 ·decide
 ·simp; omega
 intro vk wk hk2 hk3 _
 first | (refine hK.out _ _ (fun _ => HS.out _ _ hHeld ((Below.refl _ _).grown hk3 (Nat.le_refl _) (fun q hq => by simp [Value.ownBlock] at hq))) (fun hHeld => ?_)) | (refine hK.out _ _ (HS.out _ _ hHeld ((Below.refl _ _).grown hk3 (Nat.le_refl _) (fun q hq => by simp [Value.ownBlock] at hq))) (fun hHeld => ?_))
 clear hK KK
 refine Rk.takeP (i := 7) (v := ?_) rfl (by kernel_rfl) (by kernel_rfl) (by kernel_rfl) (by kernel_rfl) (fun _ _ _ h => h) (Or.inl ⟨by kernel_rfl, ?_⟩) (by assumption) ?_
 rotate_left
 ·((intro w hSw; go_simp) <;> with_reducible rfl)
 try simp only [Act.put, List.setIfInBounds_toArray, List.set_cons_zero, List.set_cons_succ]
 refine Rk.tail [8] [_] (by kernel_rfl) (by kernel_rfl) rfl (by decide) ?_

 obtain ⟨r0, r1, r2, r3, KW⟩ := hHeld
 rcases hk2.2 with ⟨hv, hn⟩ | ⟨g4, c4, cur, hv, hg4, _⟩
 ·simp at hn
 subst hv
 have O4 : wk.ownsRow w3.heap.size 36 3 (.slice (some ⟨g4, 0, none⟩) 1 c4) 1 [.int .i64 K1, .slice q1 ys.length e1, .bool false] := hk2
 have KWW : Below w2.heap.size w2 wk := KH.out.trans (KW.mono KH.out.size)
 have HMK := (KWW.block _ (lt_of_block HM2.out)).trans HM2.out
 have rf : wk.frozen? ⟨w.heap.size, 0, none⟩ = false := free_of_one HMK
 have l3 : w.heap.size < wk.heap.size := lt_of_block HMK
 have o0 := O4.cellAt 0 (by decide)
 have o1 := O4.cellAt 1 (by decide)
 have o2 := O4.cellAt 2 (by decide)
 simp only [List.getElem?_cons_zero, List.getElem?_cons_succ] at o0 o1 o2
 have hne : w.heap.size ≠ g4 := by omega
 have fin : ∀ X, NF K1 ys w (.returned (.tuple #[.slice (some ⟨g4, 0, none⟩) 1 c4, .bool true, .int .i64 0])) (wk.setCell ⟨w.heap.size, 0, none⟩ X) := fun X =>
  ⟨g4, c4, q1, e1, rfl, (World.cell?_setCell_far _ _ _ _ hne).trans o0, (World.cell?_setCell_far _ _ _ _ hne).trans o1, (World.cell?_setCell_far _ _ _ _ hne).trans o2,
   (SK1.out.on ((K59.below KWW).trans (K59.set X HMK (by decide)))).1, (KB2.trans (KWW.mono KB2.size)).setCell (p := ⟨w.heap.size, 0, none⟩) (Nat.le_refl _) _⟩
 have HF := Lib.hid fin
 clear hk2 hk3 O4 KWW HMK o0 o1 o2 fin KW KH SK1 HM2 HO2 HS
 go_wp2_with fail
 ·rw [rounds_succ]
  go_wp2_with fail
  refine bodyPost_ret (v := .tuple #[.slice (some ⟨g4, 0, none⟩) 1 c4, .bool true, .int .i64 0]) (by simp [results, Tryd.results36, go_sem]) rfl (HF.out _)
 ·rw [rounds_succ]
  go_wp2_with fail
  refine bodyPost_ret (v := .tuple #[.slice (some ⟨g4, 0, none⟩) 1 c4, .bool true, .int .i64 0]) (by simp [results, Tryd.results36, go_sem]) rfl (HF.out _)
end Go.Proofs.YtbicmlkjonaccaaDoor.Ln


namespace Go.Proofs.YtbicmlkjonaccaaDoor.Ln
open Go.ChangeShapes Go.WideShapes Go.ChangeAt Go.RowKit
open Go.Proofs.YtbicmlkjonaccaaDoor.Nm
set_option linter.unusedVariables false
set_option linter.unusedSimpArgs false
set_option maxRecDepth 8000

/-- A form as a result. -/
def LF (k : Int) (ys : List Mo) (w : World) (e : Ending) (w' : World) : Prop := ∃ p c, e = .returned (Lv k p ys.length c) /\ ys.length <= c /\ SlM w' p ys /\ Below w.heap.size w w'
def mI (a : Int) : Mo := (⟨#[105]⟩, a)
def mJ (b : Int) : Mo := (⟨#[106]⟩, b)
theorem form0 (k : Int) (w : World) : Calls Tryd.prog 53 #[.int .i64 k, .int .i64 0, .int .i64 0] w (LF k [] w) := by
 go_enter Tryd.func53, Tryd.ntmps53
 go_wp2
 refine bodyPost_ret (v := .agg #[.int .i64 k, .slice none 0 0]) (by simp [results, Tryd.results53, go_sem]) rfl ⟨none, 0, rfl, Nat.le_refl _, fun i hi => absurd hi (by simp), ?_⟩; (repeat' (first | (with_reducible exact Below.refl _ _) | (with_reducible refine Below.alloc ?_ ?_ _) | (with_reducible refine Below.setCell ?_ ?_ _) | (with_reducible refine below_drewN ?_ _) | (simp; done) | omega | (simp; omega)))

set_option maxRecDepth 100000 in
set_option maxHeartbeats 4000000 in
theorem form1 (k a  : Int) (w : World) (ga : (a != 0) = true) (ga' : (a == 0) = false)  : Calls Tryd.prog 53 #[.int .i64 k, .int .i64 a, .int .i64 0] w (LF k [mI a] w) := by
 obtain ⟨i0, hi, hz0, hz1, hz2⟩ := info_parts infoMo
 have F0 : Cl [(w.heap.size + 1, 1, .slice none 0 0), (w.heap.size + 1, 0, .int .i64 k), (w.heap.size, 0, .int .i64 0), (w.heap.size, 1, .slice none 0 0)] ((w.alloc (Obj.cells #[Value.int .i64 0, Value.slice none 0 0] 24)).alloc (Obj.cells #[Value.int .i64 k, Value.slice none 0 0] 24)) := Cl.cons (by go_cell) (by first | go_cell | simp) (Cl.cons (by go_cell) (by first | go_cell | simp) (Cl.cons (by go_cell) (by first | go_cell | simp) (Cl.cons (by go_cell) (by first | go_cell | simp) (Cl.nil _))))
 have K0 : Below w.heap.size w ((w.alloc (Obj.cells #[Value.int .i64 0, Value.slice none 0 0] 24)).alloc (Obj.cells #[Value.int .i64 k, Value.slice none 0 0] 24)) := ((Below.refl _ _).alloc (Nat.le_refl _) _).alloc (by simp) _
 have hs0 : ((w.alloc (Obj.cells #[Value.int .i64 0, Value.slice none 0 0] 24)).alloc (Obj.cells #[Value.int .i64 k, Value.slice none 0 0] 24)).heap.size = w.heap.size + 2 := by simp
 go_enter Tryd.func53, Tryd.ntmps53
 go_wp2_with (at_builtin; refine wpList_append_own _ rfl _ _ 22 rfl (w.heap.size + 2) 59 i0 (.agg #[.string ⟨#[]⟩, .int .i64 0]) 2 24 Tryd.underlying22 hi hz0 hz1 hz2 rfl (by decide) _ _ _ rfl (World.ownsRow_nil _ _ _ _) ⟨w.heap.size + 1 + 1, 0, none⟩ 1 1 [.string ⟨#[105]⟩, .int .i64 a] rfl rfl ?_ ?_ ?_ ?_ ?_ ?_)
 ·intro q x hx
  rcases q with _ | _ | q
  ·cases hx; go_cell
  ·cases hx; go_cell
  ·simp at hx
 ·intro x hx
  simp at hx
  rcases hx with rfl | rfl <;> rfl
 ·unfold maxLen; omega
 ·omega
 ·simp
 intro v1 w1 hown1 hg1 _
 have F1 := (F0.below ((Below.refl _ _).alloc (Nat.le_refl _) (Obj.cells #[Value.string ⟨#[105]⟩, Value.int .i64 a] 59))).grown hg1 (fun x hx => by simp [Value.ownBlock])
 have K1 := (K0.alloc K0.size (Obj.cells #[Value.string ⟨#[105]⟩, Value.int .i64 a] 59)).grown hg1 (K0.alloc K0.size _).size (fun q hq => by simp [Value.ownBlock] at hq)
 have O1 : w1.ownsRow (w.heap.size + 2) 59 2 v1 1 (moCs [mI a]) := hown1
 obtain ⟨q1, d1, rfl⟩ := own_slice O1
 have e0 := F1.head
 have ze0 := F1.headF
 have e1 := F1.tail.head
 have e2 := F1.tail.tail.head
 have ze2 := F1.tail.tail.headF
 have e3 := F1.tail.tail.tail.head
 have ze3 := F1.tail.tail.tail.headF
 have l1 : w.heap.size + 1 < w1.heap.size := World.block_lt_of_cell? _ _ e0
 clear hown1 hg1 F0 K0 F1
 obtain ⟨p, c, hp, hS⟩ := own_sl (l := [mI a]) O1
 have hle : 1 <= d1 := by
  rcases O1.2 with ⟨h, _⟩ | ⟨g, cap, cur, h, _, _, hc, _⟩
  ·cases h
  ·cases h; exact hc
 cases hp
 have hq : ∀ b o, q1 = some ⟨b, o, none⟩ -> [mI a] ≠ [] -> b ≠ w.heap.size + 1 /\ b ≠ w.heap.size := fun b o h _ => by
  subst h
  have := (O1.lt b rfl).1
  omega
 go_wp2
 refine bodyPost_ret (v := .agg #[.int .i64 k, .slice q1 1 d1]) (by simp [results, Tryd.results53, go_sem, e0, e1, e2, e3, ze0, ze2, ze3, l1]) rfl ⟨q1, d1, rfl, hle, ?_, ?_⟩
 ·exact Sl_set (Sl_set (Sl_set hS (fun b o h h2 => (hq b o h h2).1)) (fun b o h h2 => (hq b o h h2).2)) (fun b o h h2 => (hq b o h h2).2)
 ·exact ((K1.setCell (p := ⟨w.heap.size + 1, 1, none⟩) (by dsimp only; omega) _).setCell (p := ⟨w.heap.size, 0, none⟩) (by dsimp only; omega) _).setCell (p := ⟨w.heap.size, 1, none⟩) (by dsimp only; omega) _
end Go.Proofs.YtbicmlkjonaccaaDoor.Ln


namespace Go.Proofs.YtbicmlkjonaccaaDoor.Ln
open Go.ChangeShapes Go.WideShapes Go.ChangeAt Go.RowKit
open Go.Proofs.YtbicmlkjonaccaaDoor.Nm
set_option linter.unusedVariables false
set_option linter.unusedSimpArgs false
set_option maxRecDepth 8000

set_option maxRecDepth 100000 in
set_option maxHeartbeats 4000000 in
theorem form2 (k a b : Int) (w : World) (ga : (a != 0) = true) (ga' : (a == 0) = false) (gb : (b != 0) = true) (gb2 : (b == 0) = false) : Calls Tryd.prog 53 #[.int .i64 k, .int .i64 a, .int .i64 b] w (LF k [mI a, mJ b] w) := by
 obtain ⟨i0, hi, hz0, hz1, hz2⟩ := info_parts infoMo
 have F0 : Cl [(w.heap.size + 1, 1, .slice none 0 0), (w.heap.size + 1, 0, .int .i64 k), (w.heap.size, 0, .int .i64 0), (w.heap.size, 1, .slice none 0 0)] ((w.alloc (Obj.cells #[Value.int .i64 0, Value.slice none 0 0] 24)).alloc (Obj.cells #[Value.int .i64 k, Value.slice none 0 0] 24)) := Cl.cons (by go_cell) (by first | go_cell | simp) (Cl.cons (by go_cell) (by first | go_cell | simp) (Cl.cons (by go_cell) (by first | go_cell | simp) (Cl.cons (by go_cell) (by first | go_cell | simp) (Cl.nil _))))
 have K0 : Below w.heap.size w ((w.alloc (Obj.cells #[Value.int .i64 0, Value.slice none 0 0] 24)).alloc (Obj.cells #[Value.int .i64 k, Value.slice none 0 0] 24)) := ((Below.refl _ _).alloc (Nat.le_refl _) _).alloc (by simp) _
 have hs0 : ((w.alloc (Obj.cells #[Value.int .i64 0, Value.slice none 0 0] 24)).alloc (Obj.cells #[Value.int .i64 k, Value.slice none 0 0] 24)).heap.size = w.heap.size + 2 := by simp
 go_enter Tryd.func53, Tryd.ntmps53
 go_wp2_with (at_builtin; refine wpList_append_own _ rfl _ _ 22 rfl (w.heap.size + 2) 59 i0 (.agg #[.string ⟨#[]⟩, .int .i64 0]) 2 24 Tryd.underlying22 hi hz0 hz1 hz2 rfl (by decide) _ _ _ rfl (World.ownsRow_nil _ _ _ _) ⟨w.heap.size + 1 + 1, 0, none⟩ 1 1 [.string ⟨#[105]⟩, .int .i64 a] rfl rfl ?_ ?_ ?_ ?_ ?_ ?_)
 ·intro q x hx
  rcases q with _ | _ | q
  ·cases hx; go_cell
  ·cases hx; go_cell
  ·simp at hx
 ·intro x hx
  simp at hx
  rcases hx with rfl | rfl <;> rfl
 ·unfold maxLen; omega
 ·omega
 ·simp
 intro v1 w1 hown1 hg1 _
 have F1 := (F0.below ((Below.refl _ _).alloc (Nat.le_refl _) (Obj.cells #[Value.string ⟨#[105]⟩, Value.int .i64 a] 59))).grown hg1 (fun x hx => by simp [Value.ownBlock])
 have K1 := (K0.alloc K0.size (Obj.cells #[Value.string ⟨#[105]⟩, Value.int .i64 a] 59)).grown hg1 (K0.alloc K0.size _).size (fun q hq => by simp [Value.ownBlock] at hq)
 have O1 : w1.ownsRow (w.heap.size + 2) 59 2 v1 1 (moCs [mI a]) := hown1
 obtain ⟨q1, d1, rfl⟩ := own_slice O1
 have e0 := F1.head
 have ze0 := F1.headF
 have e1 := F1.tail.head
 have e2 := F1.tail.tail.head
 have ze2 := F1.tail.tail.headF
 have e3 := F1.tail.tail.tail.head
 have ze3 := F1.tail.tail.tail.headF
 have l1 : w.heap.size + 1 < w1.heap.size := World.block_lt_of_cell? _ _ e0
 have O1b := own_set (a := ⟨w.heap.size + 1, 1, none⟩) (y := .slice q1 1 d1) O1 (by dsimp only; omega)
 have G1 : Cl [(w.heap.size + 1, 1, .slice q1 1 d1), (w.heap.size + 1, 0, .int .i64 k), (w.heap.size, 0, .int .i64 0), (w.heap.size, 1, .slice none 0 0)] (w1.setCell ⟨w.heap.size + 1, 1, none⟩ (.slice q1 1 d1)) := Cl.cons (by go_cell) (by simp [World.frozen?_setCell, ze0]) (Cl.cons (by go_cell) (by simp [World.frozen?_setCell, F1.tail.headF]) (Cl.cons (by go_cell) (by simp [World.frozen?_setCell, ze2]) (Cl.cons (by go_cell) (by simp [World.frozen?_setCell, ze3]) (Cl.nil _))))
 have KW1 : Below w.heap.size w (w1.setCell ⟨w.heap.size + 1, 1, none⟩ (.slice q1 1 d1)) := K1.setCell (p := ⟨w.heap.size + 1, 1, none⟩) (by dsimp only; omega) _
 clear hown1 hg1 F0 K0 F1
 go_wp2_with (at_builtin; refine wpList_append_own _ rfl _ _ 22 rfl (w.heap.size + 2) 59 i0 (.agg #[.string ⟨#[]⟩, .int .i64 0]) 2 24 Tryd.underlying22 hi hz0 hz1 hz2 rfl (by decide) _ _ _ rfl (O1b.alloc _) ⟨w1.heap.size, 0, none⟩ 1 1 [.string ⟨#[106]⟩, .int .i64 b] rfl rfl ?_ ?_ ?_ ?_ ?_ ?_)
 ·intro q x hx
  rcases q with _ | _ | q
  ·cases hx; go_cell
  ·cases hx; go_cell
  ·simp at hx
 ·intro x hx
  simp at hx
  rcases hx with rfl | rfl <;> rfl
 ·unfold maxLen; omega
 ·omega
 ·simp; omega
 intro v2 w2 hown2 hg2 _
 have G2 := (G1.below ((Below.refl _ _).alloc (Nat.le_refl _) (Obj.cells #[Value.string ⟨#[106]⟩, Value.int .i64 b] 59))).own (O1b.alloc _) hg2 (by simp only [List.forall_mem_cons]; simp)
 have K2 := (KW1.alloc KW1.size (Obj.cells #[Value.string ⟨#[106]⟩, Value.int .i64 b] 59)).grown hg2 (KW1.alloc KW1.size _).size (fun q hq => by have := (O1b.lt q hq).1; omega)
 have O2 : w2.ownsRow (w.heap.size + 2) 59 2 v2 2 (moCs [mI a, mJ b]) := hown2
 obtain ⟨q2, d2, rfl⟩ := own_slice O2
 obtain ⟨p, c, hp, hS⟩ := own_sl (l := [mI a, mJ b]) O2
 have hle : 2 <= d2 := by
  rcases O2.2 with ⟨h, _⟩ | ⟨g, cap, cur, h, _, _, hc, _⟩
  ·cases h
  ·cases h; exact hc
 cases hp
 have hq : ∀ b' o, q2 = some ⟨b', o, none⟩ -> [mI a, mJ b] ≠ [] -> b' ≠ w.heap.size + 1 /\ b' ≠ w.heap.size := fun b' o h _ => by
  subst h
  have := (O2.lt b' rfl).1
  omega
 have e0 := G2.head
 have ze0 := G2.headF
 have e1 := G2.tail.head
 have e2 := G2.tail.tail.head
 have ze2 := G2.tail.tail.headF
 have e3 := G2.tail.tail.tail.head
 have ze3 := G2.tail.tail.tail.headF
 have l1 : w.heap.size + 1 < w2.heap.size := World.block_lt_of_cell? _ _ e0
 clear hown2 hg2 G1 G2 KW1 O1 O1b hi hz0 hz1 hz2 K1
 go_wp2
 refine bodyPost_ret (v := .agg #[.int .i64 k, .slice q2 2 d2]) (by simp [results, Tryd.results53, go_sem, e0, e1, e2, e3, ze0, ze2, ze3, l1]) rfl ⟨q2, d2, rfl, hle, ?_, ?_⟩
 ·exact Sl_set (Sl_set (Sl_set hS (fun b o h h2 => (hq b o h h2).1)) (fun b o h h2 => (hq b o h h2).2)) (fun b o h h2 => (hq b o h h2).2)
 ·exact ((K2.setCell (p := ⟨w.heap.size + 1, 1, none⟩) (by dsimp only; omega) _).setCell (p := ⟨w.heap.size, 0, none⟩) (by dsimp only; omega) _).setCell (p := ⟨w.heap.size, 1, none⟩) (by dsimp only; omega) _
end Go.Proofs.YtbicmlkjonaccaaDoor.Ln


namespace Go.Proofs.YtbicmlkjonaccaaDoor.Ln
open Go.ChangeShapes Go.WideShapes Go.ChangeAt Go.RowKit
open Go.Proofs.YtbicmlkjonaccaaDoor.Nm
set_option linter.unusedVariables false
set_option linter.unusedSimpArgs false
set_option maxRecDepth 8000

/-- What Negate leaves of an inequality: one constraint in a row of its own. -/
def NR (k : Int) (ys : List Mo) (w : World) (e : Ending) (w' : World) : Prop := ∃ g q d, e = .returned (.tuple #[.slice (some ⟨g, 0, none⟩) 1 1, .int .i64 0]) /\ w'.cell? ⟨g, 0, none⟩ = some (.int .i64 k) /\ w'.cell? ⟨g, 1, none⟩ = some (.slice q ys.length d) /\ w'.cell? ⟨g, 2, none⟩ = some (.bool false) /\ SlM w' q ys /\ Below w.heap.size w w'
set_option maxRecDepth 100000 in
set_option maxHeartbeats 4000000 in
theorem neg_ge (k : Int) (p : Option Addr) (xs : List Mo) (c : Nat) (w : World) (hn : xs.length <= 1000) (RA : Hid (SlM w p xs)) (RS : Hid (∀ i, i < xs.length -> (xs.getD i mo0).1.size <= maxLen /\ -9223372036854775808 <= (xs.getD i mo0).2 /\ (xs.getD i mo0).2 <= 9223372036854775807)) (k1 : -9223372036854775808 <= k) (k2 : k <= 9223372036854775807) (hok : okL xs = true) (ys : List Mo) (x : Int) (hr : sclR (-1) 0 xs = (x, ys, 0)) : Calls Tryd.prog 31 #[Cv k p xs.length c false] w (NR (-1 - k) ys w) := by
 have VL := Lib.hid fun w h => cval1 k p xs c false w (by unfold maxLen; omega) h (Lib.hid fun i hi => (RS.out i hi).1)
 have hv : vL xs = 0 := by unfold vL; rw [hok]; rfl
 rw [hv] at VL
 have SC := Lib.hid fun w h => scale1 0 p xs c (-1) w hn h RS (by decide) (by decide) (by decide) (by decide)
 rw [hr] at SC
 have B0 : Below w.heap.size w (w.alloc (Obj.cells #[Value.int .i64 k, Value.slice p xs.length c, Value.bool false] 36)) := (Below.refl _ _).alloc (Nat.le_refl _) _
 have RA2 := Lib.hid (SlM.keep B0 RA.out)
 have hw : IntKind.i64.wrap (-1 - k) = -1 - k := by rw [IntKind.wrap_i64]; omega
 have hw2 : wrap64 (-1 - k) = -1 - k := by unfold wrap64; omega
 unfold Cv Lv at *
 dsimp only at SC
 clear hok hv hr RS B0
 go_enter Tryd.func31, Tryd.ntmps31
 go_wp2_with (first | (go_at_call 24; (with_reducible refine (VL.out _ RA2).mono ?_); rintro e w1 ⟨rfl, hb1⟩; have hc1 := (Rg.bcell hb1).1; have hf1 := (Rg.bcell hb1).2; have z1_0 : w.heap.size < w1.heap.size := (by have hzz := hb1.size; (try simp at hzz); omega); have K1 : Below w.heap.size w w1 := Below.trans (b := _) (by (repeat' (first | (with_reducible exact Below.refl _ _) | (with_reducible refine Below.alloc ?_ ?_ _) | (with_reducible refine Below.setCell ?_ ?_ _) | (with_reducible refine below_drewN ?_ _) | (simp; done) | omega | (simp; omega)))) (hb1.mono (by have hzz := hb1.size; (try simp at hzz); first | omega | (simp; done) | (simp; omega)))) | (go_at_call 61; (with_reducible refine (SC.out _ (Lib.hid (SlM.keep K1 RA.out))).mono ?_); rintro e w2 ⟨p2, c2, rfl, S2, hb2⟩; unfold Lv; have c0 : w1.cell? ⟨w.heap.size, 0, none⟩ = some (.int .i64 k) := (hc1 _ _ (by simp)).trans (by go_cell); have c2' : w1.cell? ⟨w.heap.size, 2, none⟩ = some (.bool false) := (hc1 _ _ (by simp)).trans (by go_cell); have d0 := Rg.keep hb2 z1_0 c0; have d2 := Rg.keep hb2 z1_0 c2'; have K2 : Below w.heap.size w w2 := K1.trans (hb2.mono K1.size); have l2 : w.heap.size < w2.heap.size := World.block_lt_of_cell? _ _ d0))
 refine bodyPost_ret (v := .tuple #[.slice (some ⟨w2.heap.size + 1, 0, none⟩) 1 1, .int .i64 0]) (by simp [results, Tryd.results31, go_sem]) rfl ⟨w2.heap.size + 1, p2, c2, rfl, ?_, ?_, ?_, ?_, ?_⟩
 ·go_cell
 ·go_cell
 ·go_cell
 ·exact SlM.keep (Below.alloc (Below.alloc (Below.refl _ _) (Nat.le_refl _) _) (by simp) _) S2
 ·exact (K2.alloc K2.size _).alloc (by have := K2.size; simp; omega) _
end Go.Proofs.YtbicmlkjonaccaaDoor.Ln


namespace Go.Proofs.YtbicmlkjonaccaaDoor.Ln
open Go.ChangeShapes Go.WideShapes Go.ChangeAt Go.RowKit
open Go.Proofs.YtbicmlkjonaccaaDoor.Nm
set_option linter.unusedVariables false
set_option linter.unusedSimpArgs false
set_option maxRecDepth 8000

/-- What stands between two terms. -/
def sgT (a : List UInt8) (neg : Bool) : List UInt8 := if a = [] then (if neg then [45] else []) else if neg then [32, 45, 32] else [32, 43, 32]
/-- A monomial without its sign. -/
def tmt (m : Mo) : List UInt8 := (if m.2.natAbs = 1 then [] else Lib.decDigits m.2.natAbs ++ [42]) ++ m.1.data.toList
/-- The text of the first k monomials. -/
def fl (xs : List Mo) : Nat -> List UInt8
 | 0 => []
 | k + 1 => fl xs k ++ sgT (fl xs k) (decide ((xs.getD k mo0).2 < 0)) ++ tmt (xs.getD k mo0)
/-- The text of a valid form. -/
def fmL (k : Int) (xs : List Mo) : List UInt8 :=
 if k ≠ 0 \/ xs.length = 0 then fl xs xs.length ++ sgT (fl xs xs.length) (decide (k < 0)) ++ Lib.decDigits k.natAbs else fl xs xs.length
theorem dec_len : ∀ (m k : Nat), k < 10 ^ (m + 1) -> (Lib.decDigits k).length <= m + 1
 | 0, k, h => by rw [Lib.decDigits, dif_pos (by simpa using h)]; simp
 | m + 1, k, h => by
  by_cases hk : k < 10
  ·rw [Lib.decDigits, dif_pos hk]; simp
  ·rw [Lib.decDigits, dif_neg hk, List.length_append]
   have := dec_len m (k / 10) (by rw [Nat.pow_succ] at h; omega)
   simp; omega
theorem dec20 (k : Nat) (h : k < 18446744073709551616) : (Lib.decDigits k).length <= 20 := by
 have e : (10 : Nat) ^ (19 + 1) = 100000000000000000000 := by decide
 exact dec_len 19 k (by omega)
theorem sgT_len (a : List UInt8) (b : Bool) : (sgT a b).length <= 3 := by unfold sgT; split <;> split <;> simp
theorem tmt_len (m : Mo) (h : -9223372036854775808 <= m.2 /\ m.2 <= 9223372036854775807) : (tmt m).length <= 21 + m.1.size := by
 unfold tmt
 have h1 := dec20 m.2.natAbs (by omega)
 rw [List.length_append]
 have : m.1.data.toList.length = m.1.size := by simp
 rw [this]
 split
 ·simp
 ·simp; omega
theorem fl_len {xs : List Mo} {B : Nat} (hb : ∀ i, i < xs.length -> (xs.getD i mo0).1.size <= B /\ -9223372036854775808 <= (xs.getD i mo0).2 /\ (xs.getD i mo0).2 <= 9223372036854775807) : ∀ k, k <= xs.length -> (fl xs k).length <= k * (24 + B)
 | 0, _ => by simp [fl]
 | k + 1, h => by
  have h1 := fl_len hb k (by omega)
  obtain ⟨h2, h3⟩ := hb k (by omega)
  have h4 := sgT_len (fl xs k) (decide ((xs.getD k mo0).2 < 0))
  have h5 := tmt_len (xs.getD k mo0) h3
  rw [fl, List.length_append, List.length_append, Nat.succ_mul]
  omega
end Go.Proofs.YtbicmlkjonaccaaDoor.Ln


namespace Go.Proofs.YtbicmlkjonaccaaDoor.Ln
open Go.ChangeShapes Go.WideShapes Go.ChangeAt Go.RowKit

set_option linter.unusedVariables false
set_option linter.unusedSimpArgs false
set_option maxRecDepth 8000

end Go.Proofs.YtbicmlkjonaccaaDoor.Ln


namespace Go.Proofs.YtbicmlkjonaccaaDoor.Ln
open Go.ChangeShapes Go.WideShapes Go.ChangeAt Go.RowKit

set_option linter.unusedVariables false
set_option linter.unusedSimpArgs false
set_option maxRecDepth 8000

end Go.Proofs.YtbicmlkjonaccaaDoor.Ln
