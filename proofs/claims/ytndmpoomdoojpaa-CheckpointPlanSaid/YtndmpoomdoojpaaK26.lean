/- The planner: advance. -/
import Derived.Test.YtndmpoomdoojpaaRows
import Derived.WalkKit
import Derived.ProofKit
import Derived.OpenShut
import Derived.WalkLawsBesides
import Derived.WalkSpells
import Derived.Outline
import Derived.Handy
import Derived.IntWalk
import Derived.Deep.QuietTactic
import Derived.BigQuiet
import Derived.Lib.Hide
import Derived.Test.YtndmpoomdoojpaaK25
import Derived.WalkSmall
import Derived.OwnWalk
import Derived.Laws.AppendOwn
import Derived.Laws.OwnMore
import Derived.OneCell
import Derived.Deep.Onto
namespace Go.Proofs.Ytndmpoomdoojpaa.Ck
open Go.ChangeShapes Go.WideShapes Go.ChangeAt Go.RowKit
set_option linter.unusedVariables false

theorem info66 : (Try.prog.info? 66).map (fun i => (i.zero, i.size, i.bytes)) = some (some (.agg #[.int .i64 0, .int .i64 0, .int .i64 0]), 3, 24) := by kernel_rfl
def acs (xs : List Act3) : List Value := xs.flatMap fun a => [.int .i64 a.1, .int .i64 a.2.1, .int .i64 a.2.2]
theorem acs_app (xs ys : List Act3) : acs (xs ++ ys) = acs xs ++ acs ys := by unfold acs; rw [List.flatMap_append]
theorem acs_get : ∀ (l : List Act3) (i : Nat), i < l.length → (acs l)[i * 3]? = some (.int .i64 (l.getD i (0, 0, 0)).1) ∧ (acs l)[i * 3 + 1]? = some (.int .i64 (l.getD i (0, 0, 0)).2.1) ∧ (acs l)[i * 3 + 2]? = some (.int .i64 (l.getD i (0, 0, 0)).2.2)
  | [], i, h => absurd h (by simp)
  | m :: l, 0, h => ⟨rfl, rfl, rfl⟩
  | m :: l, i + 1, h => by
    obtain ⟨h1, h2, h3⟩ := acs_get l i (by simpa using h)
    unfold acs at h1 h2 h3 ⊢
    rw [List.flatMap_cons, show (i + 1) * 3 = i * 3 + 3 by omega, show i * 3 + 3 + 1 = i * 3 + 1 + 3 by omega, show i * 3 + 3 + 2 = i * 3 + 2 + 3 by omega]
    exact ⟨h1, h2, h3⟩
theorem own_slA {w : World} {base : Nat} {v : Value} {l : List Act3} (h : w.ownsRow base 66 3 v l.length (acs l)) : ∃ p c, v = .slice p l.length c ∧ SlA w p l := by
  obtain ⟨h1, h2⟩ := h
  rcases h2 with ⟨rfl, hn⟩ | ⟨g, cap, cur, rfl, hb, hh, hc, hm, hs, ht⟩
  · exact ⟨none, 0, by rw [hn], fun i hi => absurd hi (by omega)⟩
  · refine ⟨some ⟨g, 0, none⟩, cap, rfl, fun i hi => ⟨g, 0, rfl, ?_⟩⟩
    have hO : w.ownsRow base 66 3 (.slice (some ⟨g, 0, none⟩) l.length cap) l.length (acs l) := ⟨h1, .inr ⟨g, cap, cur, rfl, hb, hh, hc, hm, hs, ht⟩⟩
    obtain ⟨c1, c2, c3⟩ := acs_get l i hi
    have d1 := (hO.cellAt (i * 3) (by omega)).trans c1
    have d2 := (hO.cellAt (i * 3 + 1) (by omega)).trans c2
    have d3 := (hO.cellAt (i * 3 + 2) (by omega)).trans c3
    rw [Nat.zero_add]
    exact ⟨d1, d2, d3⟩
theorem own_form {w : World} {base n : Nat} {v : Value} {xs : List Value} (h : w.ownsRow base 66 3 v n xs) : ∃ q c, v = .slice q n c := by
  obtain ⟨_, ⟨rfl, rfl⟩ | ⟨g, cap, cur, rfl, _⟩⟩ := h
  · exact ⟨_, _, rfl⟩
  · exact ⟨_, _, rfl⟩
theorem own_ob {A : World} {base : Nat} {v : Value} {n : Nat} {xs : List Value} (h : A.ownsRow base 66 3 v n xs) {g : Nat} (hg : v.ownBlock = some g) : ∃ cs : Array Value, A.heap[g]? = some (.cells cs 66 (0, 0)) := by
  rcases h.2 with ⟨rfl, _⟩ | ⟨g', cap, cur, rfl, _, hh, _⟩
  · cases hg
  · cases hg
    exact ⟨cur, hh⟩
/-- The planner's state: the table, the actions so far. -/
def PS (w0 : World) (b N S : Nat) (xs : List Act3) (A : World) : Prop := Below w0.heap.size w0 A ∧ w0.heap.size ≤ b ∧
  ∃ arr v, PL A b arr ∧ arr.size = 4226 ∧ Tb arr N S ∧ arr[4225]? = some v ∧ A.ownsRow w0.heap.size 66 3 v xs.length (acs xs)
theorem PL.ne {A : World} {b base : Nat} {arr : Array Value} (h : PL A b arr) {v : Value} {n : Nat} {xs : List Value} (ho : A.ownsRow base 66 3 v n xs) : v.ownBlock ≠ some b := fun e => by
  obtain ⟨cs, hc⟩ := own_ob ho e
  rw [show A.heap[b]? = _ from h] at hc
  cases hc
theorem PL.up {A W : World} {b : Nat} {arr : Array Value} (h : PL A b arr) (hb : Below A.heap.size A W) : PL W b arr := (hb.block b (ple_lt h)).trans h
theorem PL.gr {A W : World} {b base : Nat} {arr : Array Value} (h : PL A b arr) {v : Value} {n : Nat} {xs : List Value} (ho : A.ownsRow base 66 3 v n xs) (hg : A.grownBy W v.ownBlock) : PL W b arr := (hg.block b (ple_lt h) (fun e => h.ne ho e.symm)).trans h
theorem PS.drewN {w0 : World} {b N S : Nat} {xs : List Act3} {A : World} (h : PS w0 b N S xs A) (m : Nat) : PS w0 b N S xs (A.drewN m) := ⟨⟨h.1.os, h.1.tape, h.1.output, h.1.size, h.1.block⟩, h.2⟩
theorem PS.app {w0 : World} {b N S m : Nat} {xs ys : List Act3} {A w5 : World} {arr : Array Value} {v v' : Value} {news : List Value} (hB : Below w0.heap.size w0 A) (hb : w0.heap.size ≤ b) (hP : PL A b arr) (hsz : arr.size = 4226) (hT : Tb arr N S) (hN : N ≤ 64) (hS : S ≤ 64)
    {ln : Nat} (hln : xs.length = ln) (hO : A.ownsRow w0.heap.size 66 3 v ln (acs xs)) (o : Obj) (hown' : w5.ownsRow w0.heap.size 66 3 v' (ln + m) (acs xs ++ news)) (hg : (A.alloc o).grownBy w5 v.ownBlock) (hm : ys.length = m) (hn : news = acs ys) :
    PL w5 b arr ∧ PS w0 b N S (xs ++ ys) (w5.setCell ⟨b, 4225, none⟩ v') := by
  have BA := (Below.refl A.heap.size A).alloc (Nat.le_refl _) o
  have P1 := hP.up BA
  have O1 := hO.alloc o
  have P5 := P1.gr O1 hg
  subst hm hn hln
  rw [← acs_app, ← List.length_append] at hown'
  refine ⟨P5, Below.setCell ((hB.trans (BA.mono hB.size)).grown hg (by have := hB.size; simp; omega) (fun q hq => (O1.lt q hq).1)) hb _, hb, _, v', P5.set 4225 v', by simpa using hsz, fun i j hi hj => ?_, ?_, ?_⟩
  · rw [Array.getElem?_setIfInBounds_ne (by omega)]
    exact hT i j hi hj
  · rw [Array.getElem?_setIfInBounds_self_of_lt (by omega)]
  · exact ownsRow_setCell_other hown' (fun e => P5.ne hown' e) v'
set_option maxRecDepth 100000 in
set_option maxHeartbeats 4000000 in
theorem adv1 (w0 : World) (b N S k : Nat) (fr : Int) (xs : List Act3) (w : World) (hN : N ≤ 64) (hS : S ≤ 64) (h0 : 0 ≤ fr) (h1 : fr + (k : Int) ≤ 64) (hl : xs.length + k ≤ 70000) (hP : Hid (PS w0 b N S xs w)) :
    Calls Try.prog 71 #[.pointer (some ⟨b, 0, none⟩), .int .i64 fr, .int .i64 (fr + (k : Int))] w fun e w' => (∃ v, e = .returned v) ∧ PS w0 b N S (xs ++ adv fr k) w' := by
  obtain ⟨i0, hi, hz0, hz1, hz2⟩ := info_parts info66
  obtain ⟨to, hto⟩ : ∃ to, fr + (k : Int) = to := ⟨_, rfl⟩
  rw [hto]
  have HTO := Lib.hid hto
  have cs82 : Try.prog.cellsOf 82 = 4225 := by kernel_rfl
  clear hto
  go_enter Try.func71, Try.ntmps71
  go_wp2
  go_loopw [6] (fun i wr => ∃ j : Nat, i = .int .i64 (fr + 1 + (j : Int)) ∧ j ≤ k ∧ Hid (PS w0 b N S (xs ++ adv fr j) wr)) (fun i _ => (to + 1 - intOf i).toNat)
  case atStart => exact ⟨0, by first | rfl | (congr 1; omega) | simp, by omega, Lib.hid (by rw [adv, List.append_nil]; exact hP.out)⟩
  case round =>
    obtain ⟨j, rfl, hj, HP⟩ := hrel
    obtain ⟨x, hx⟩ : ∃ x, fr + 1 + (j : Int) = x := ⟨_, rfl⟩
    have HX := Lib.hid hx
    rw [hx]
    clear hx
    by_cases hlt : j < k
    · have k1 : x ≤ to := by have := HX.out; have := HTO.out; omega
      have x0 : 0 ≤ x := by have := HX.out; omega
      have x64 : x ≤ 64 := by have := HX.out; omega
      obtain ⟨hB, hb, arr, v, hPL, hsz, hT, hv, hO⟩ := HP.out
      have hlen : (xs ++ adv fr j).length = xs.length + j := by rw [List.length_append, adv_len]
      obtain ⟨X, hX⟩ : ∃ X, xs ++ adv fr j = X := ⟨_, rfl⟩
      have HXX := Lib.hid hX
      rw [hX] at hO hlen
      obtain ⟨ln, hln⟩ : ∃ n, X.length = n := ⟨_, rfl⟩
      rw [hln] at hO hlen
      have HLL := Lib.hid hln
      have hl7 : ln ≤ 70000 := by omega
      clear hX hln
      obtain ⟨q, c, rfl⟩ := own_form hO
      have c0 := (hPL.cell 4225).trans hv
      have hO1 := Lib.hid (hO.alloc (Obj.cells #[Value.int .i64 1, Value.int .i64 x, Value.int .i64 0] 66))
      have HA := Lib.hid (fun (w5 : World) (v' : Value) (hown' : w5.ownsRow w0.heap.size 66 3 v' (ln + 1) (acs X ++ [.int .i64 1, .int .i64 x, .int .i64 0])) hg => PS.app (ys := [(1, x, 0)]) (N := N) (S := S) hB hb hPL hsz hT hN hS HLL.out hO (Obj.cells #[Value.int .i64 1, Value.int .i64 x, Value.int .i64 0] 66) hown' hg rfl rfl)
      have hbs := hB.size
      have HVV := Lib.hid hv
      clear hB hb hPL hsz hT hv hO HP hlen
      go_wp2_with (at_builtin; refine wpList_append_own _ rfl _ _ 39 rfl w0.heap.size 66 i0 (.agg #[.int .i64 0, .int .i64 0, .int .i64 0]) 3 24 Try.underlying39 hi hz0 hz1 hz2 rfl (by decide) _ _ _ rfl hO1.out ⟨wr.heap.size, 0, none⟩ 1 1 [.int .i64 1, .int .i64 x, .int .i64 0] rfl rfl ?_ ?_ ?_ ?_ ?_ ?_)
      · intro q x hx
        rcases q with _ | _ | _ | q
        · cases hx; go_cell
        · cases hx; go_cell
        · cases hx; go_cell
        · simp at hx
      · intro x hx
        simp at hx
        rcases hx with rfl | rfl | rfl <;> rfl
      · unfold maxLen; omega
      · omega
      · simp; omega
      intro v' w5 hown' hgrow _
      obtain ⟨P5, PSn⟩ := HA.out w5 v' hown' hgrow
      have c5 := (P5.cell 4225).trans HVV.out
      have f5 := P5.fz 4225
      have PSn := Lib.hid PSn
      obtain ⟨q', c', rfl⟩ := own_form hown'
      clear hown' hgrow hO1 HA P5
      go_wp2
      go_roundw
      case rel => exact ⟨j + 1, by first | (have := HX.out; go_num; done) | (congr 1; have := HX.out; omega), by omega, Lib.hid (by
        have h := PSn.out
        rw [← HXX.out, List.append_assoc] at h
        have e : (1, x, (0 : Int)) = ((1, fr + ((j + 1 : Nat) : Int), 0) : Act3) := by rw [show x = fr + ((j + 1 : Nat) : Int) by have := HX.out; omega]
        rw [e] at h
        exact h)⟩
      case measure => simp [intOf]; omega
    · have k1 : ¬ x ≤ to := by have := HX.out; have := HTO.out; omega
      obtain rfl : j = k := by omega
      have HPE := Lib.hid HP.out
      go_wp2
      first | go_end0 | (refine bodyPost_ret (results_none rfl _ _ _) rfl ?_)
      exact ⟨⟨_, rfl⟩, HPE.out⟩
end Go.Proofs.Ytndmpoomdoojpaa.Ck
