/- The law on Reduce. -/
import Derived.Test.YthkhlhibhkdkkaaG19
import Derived.Test.YthkhlhibhkdkkaaG31
import Derived.Test.YthkhlhibhkdkkaaD12x2
import Derived.Test.YthkhlhibhkdkkaaD12x3
import Derived.Test.YthkhlhibhkdkkaaD12x4
import Derived.Test.YthkhlhibhkdkkaaD13

namespace Go.Proofs.Ythkhlhibhkdkkaa.Va
open Go.ChangeShapes Go.WideShapes Go.ChangeAt Go.RowKit
open Fr Fx
set_option maxRecDepth 8000
set_option linter.unusedVariables false
set_option linter.unusedSimpArgs false
theorem own_below {w w' : World} {B : Nat} {e : TypeId} {size : Nat} {v : Value} {n : Nat} {xs : List Value} (h : w.ownsRow B e size v n xs) (hb : Below w.heap.size w w') : w'.ownsRow B e size v n xs := by
  obtain ⟨hl, h0 | ⟨g, cap, cur, hv, hb', hh, r⟩⟩ := h
  · exact ⟨hl, .inl h0⟩
  · have hg : g < w.heap.size := by
      rcases Nat.lt_or_ge g w.heap.size with h1 | h1
      · exact h1
      · rw [Array.getElem?_eq_none h1] at hh
        cases hh
    exact ⟨hl, .inr ⟨g, cap, cur, hv, hb', by rw [hb.block g hg]; exact hh, r⟩⟩

def qC (a : Q4) : List Value := [.int .i64 a.1, .int .i64 a.2.1, .int .i64 a.2.2.1, .int .i64 a.2.2.2]
def qCs (l : List Q4) : List Value := l.flatMap qC
theorem qCs_snoc (l : List Q4) (a : Q4) : qCs (l ++ [a]) = qCs l ++ qC a := by unfold qCs; rw [List.flatMap_append]; simp
theorem qCs_at : ∀ (ts : List Q4) (i : Nat), i < ts.length → (qCs ts)[i * 4]? = some (.int .i64 (ts.getD i q0).1) ∧ (qCs ts)[i * 4 + 1]? = some (.int .i64 (ts.getD i q0).2.1) ∧ (qCs ts)[i * 4 + 2]? = some (.int .i64 (ts.getD i q0).2.2.1) ∧ (qCs ts)[i * 4 + 3]? = some (.int .i64 (ts.getD i q0).2.2.2)
  | t :: ts, 0, _ => ⟨rfl, rfl, rfl, rfl⟩
  | t :: ts, i + 1, h => by
    have ih := qCs_at ts i (by simpa using h)
    have e : qCs (t :: ts) = qC t ++ qCs ts := by unfold qCs; rw [List.flatMap_cons]
    rw [e]
    refine ⟨?_, ?_, ?_, ?_⟩
    · rw [List.getElem?_append_right (by show 4 ≤ _; omega), show (i + 1) * 4 - (qC t).length = i * 4 by show (i + 1) * 4 - 4 = _; omega]; exact ih.1
    · rw [List.getElem?_append_right (by show 4 ≤ _; omega), show (i + 1) * 4 + 1 - (qC t).length = i * 4 + 1 by show (i + 1) * 4 + 1 - 4 = _; omega]; exact ih.2.1
    · rw [List.getElem?_append_right (by show 4 ≤ _; omega), show (i + 1) * 4 + 2 - (qC t).length = i * 4 + 2 by show (i + 1) * 4 + 2 - 4 = _; omega]; exact ih.2.2.1
    · rw [List.getElem?_append_right (by show 4 ≤ _; omega), show (i + 1) * 4 + 3 - (qC t).length = i * 4 + 3 by show (i + 1) * 4 + 3 - 4 = _; omega]; exact ih.2.2.2
/-- A row of the call's own, as a slice. -/
theorem qw_sl {w : World} {B : Nat} {v : Value} {ts : List Q4} (h : w.ownsRow B 26 4 v ts.length (qCs ts)) : ∃ q c, v = .slice q ts.length c ∧ ts.length ≤ c ∧ SlD w q ts := by
  rcases h.2 with ⟨hv, h0⟩ | ⟨g, cap, cur, hv, hr⟩
  · obtain rfl : ts = [] := List.eq_nil_of_length_eq_zero h0
    exact ⟨none, 0, hv, Nat.le_refl _, fun i hi => by simp at hi⟩
  · subst hv
    refine ⟨some ⟨g, 0, none⟩, cap, rfl, ?_, fun i hi => ⟨g, 0, rfl, ?_⟩⟩
    · exact hr.2.2.1
    obtain ⟨a, b, c, d⟩ := qCs_at ts i hi
    simp only [Nat.zero_add]
    exact ⟨by rw [h.cellAt (i * 4) (by omega)]; exact a, by rw [h.cellAt (i * 4 + 1) (by omega)]; exact b, by rw [h.cellAt (i * 4 + 2) (by omega)]; exact c, by rw [h.cellAt (i * 4 + 3) (by omega)]; exact d⟩
theorem info26 : (Try.prog.info? 26).map (fun i => (i.zero, i.size, i.bytes)) = some (some (.agg #[.int .i64 0, .int .i64 0, .int .i64 0, .int .i64 0]), 4, 32) := by kernel_rfl
theorem take_snoc {xs : List Q4} {j : Nat} (h : j < xs.length) : xs.take (j + 1) = xs.take j ++ [xs.getD j q0] := by
  rw [List.take_succ_eq_append_getElem h]
  have e1 : xs.getD j q0 = xs[j] := by unfold List.getD; rw [List.getElem?_eq_getElem h]; rfl
  rw [e1]
theorem c_rd (fold : Int) (p : Option Addr) (xs : List Q4) (c : Nat) (w : World) (hn : xs.length ≤ maxLen) (hc : xs.length ≤ c) (RA : Hid (SlD w p xs)) (RB : Hid (∀ i, i < xs.length → inB (xs.getD i q0).1)) :
    Calls Try.prog 11 #[.int .i64 fold, .slice p xs.length c] w (Ret (F5 (drd fold xs)) w) := by
  by_cases h1 : fold = 1
  · subst h1; exact c_rd1 p xs c w hn hc RA RB
  by_cases h2 : fold = 2
  · subst h2; exact c_rd2 p xs c w hn hc RA RB
  by_cases h3 : fold = 3
  · subst h3; exact c_rd3 p xs c w hn hc RA RB
  by_cases h4 : fold = 4
  · subst h4; exact c_rd4 p xs c w hn hc RA RB
  rw [show drd fold xs = (0, 0, 0, 0, 1) by unfold drd; rw [if_pos (by unfold dop; rw [if_neg h1, if_neg h2, if_neg h3, if_neg h4])]]
  have g1 : (fold == 1) = false := by simpa using h1
  have g2 : (fold == 2) = false := by simpa using h2
  have g3 : (fold == 3) = false := by simpa using h3
  have g4 : (fold == 4) = false := by simpa using h4
  clear h1 h2 h3 h4 RA RB
  go_enter Try.func11, Try.ntmps11
  go_wp2
  refine bodyPost_ret (v := F5 (0, 0, 0, 0, 1)) (by simp [results, Try.results11, go_sem]) rfl ⟨rfl, ?_⟩; (repeat' (first | (with_reducible exact Below.refl _ _) | (with_reducible refine Below.alloc ?_ ?_ _) | (with_reducible refine Below.setCell ?_ ?_ _) | (with_reducible refine below_drewN ?_ _) | (simp; done) | omega | (simp; omega)))
set_option maxRecDepth 100000 in
set_option maxHeartbeats 4000000 in
theorem law_reduces (fold : Int) (p : Option Addr) (xs : List Q4) (c : Nat) (w : World) (hn : xs.length ≤ maxLen) (hc : xs.length ≤ c) (RA : Hid (SlD w p xs)) (RB : Hid (∀ i, i < xs.length → inB (xs.getD i q0).1)) :
    Calls Try.prog 4 #[.int .i64 fold, .slice p xs.length c] w (Ret (.bool true) w) := by
  have AL := Lib.hid fun w => alive1 w
  have HN := Lib.hid hn
  have hn2 : xs.length ≤ 9223372036854775807 := Nat.le_trans hn (by decide)
  have RC := Lib.hid fun q c w hc h => c_rd fold q xs c w hn hc h RB
  have RR := Lib.hid fun w h => r_rd fold p xs c w hn hc h RB
  obtain ⟨rr, hrr⟩ : ∃ r, drd fold xs = r := ⟨_, rfl⟩
  rw [hrr] at RC RR
  clear hrr hn RB
  obtain ⟨n, hnn⟩ : ∃ n, xs.length = n := ⟨_, rfl⟩
  have HR := Lib.hid hnn
  rw [hnn] at hn2 hc RC RR ⊢
  clear hnn
  by_cases h60 : 60 < n
  · have g : decide ((60 : Int) < n) = true := by simp; omega
    clear h60 RA RC RR
    go_enter Try.func4, Try.ntmps4
    go_wp2_with (go_at_call 10; (with_reducible refine (AL.out _).mono ?_); rintro e w1 ⟨rfl, hb⟩)
    go_ret
    exact ⟨rfl, hb⟩
  · have g : decide ((60 : Int) < n) = false := by simp; omega
    obtain ⟨i0, hi, hz0, hz1, hz2⟩ := info_parts info26
    go_enter Try.func4, Try.ntmps4
    go_wp2_with fail
    go_loopw [5, 6] (fun s i wr => ∃ j : Nat, i = .int .i64 j ∧ j ≤ n ∧ Hid (Below w.heap.size w wr) ∧ Hid (wr.ownsRow w.heap.size 26 4 s j (qCs (xs.take j)))) (fun _ i _ => n - (intOf i).toNat)
    case atStart => exact ⟨0, rfl, by omega, Lib.hid (Below.refl _ _), Lib.hid (World.ownsRow_nil _ _ _ _)⟩
    case round =>
      obtain ⟨j, rfl, hj, hB, hO⟩ := hrel
      have K0 := hB.out
      have ls : w.heap.size ≤ wr.heap.size := K0.size
      have jj : (0 : Int) ≤ j := by omega
      by_cases hlt : j < n
      · obtain ⟨b, o, rfl, c0, c1, c2, c3⟩ := RA.out j (by rw [HR.out]; exact hlt)
        have hbw : b < w.heap.size := World.block_lt_of_cell? _ _ c0
        replace c0 := Rg.keep K0 hbw c0
        replace c1 := Rg.keep K0 hbw c1
        replace c2 := Rg.keep K0 hbw c2
        replace c3 := Rg.keep K0 hbw c3
        have hbr : b < wr.heap.size := World.block_lt_of_cell? _ _ c0
        have j2 : (j : Int) < n := by omega
        have hst := take_snoc (xs := xs) (j := j) (by rw [HR.out]; exact hlt)
        obtain ⟨e, he⟩ : ∃ e, xs.getD j q0 = e := ⟨_, rfl⟩
        rw [he] at c0 c1 c2 c3 hst
        have HST := Lib.hid hst
        have IN := Lib.hid fun w => law_in e.1 e.2.1 e.2.2.1 e.2.2.2 w
        clear he hst
        go_wp2_with (first
          | (go_at_call 7; (with_reducible refine (IN.out _).mono ?_); rintro e w5 ⟨rfl, hb5⟩; have hc5 := (bcell hb5).1; have hf5 := (bcell hb5).2; have z5_0 : b < w5.heap.size := (by have hzz := hb5.size; (try simp at hzz); omega); have K5 : Below w.heap.size w w5 := Below.trans (b := _) (by (repeat' (first | (with_reducible exact Below.refl _ _) | (with_reducible exact K0) | (with_reducible exact K0.size) | (with_reducible refine Below.alloc ?_ ?_ _) | (with_reducible refine Below.setCell ?_ ?_ _) | (with_reducible refine below_drewN ?_ _) | (simp; done) | omega | (simp; omega)))) (hb5.mono (by have hzz := hb5.size; (try simp at hzz); first | omega | (simp; done) | (simp; omega))))
          | (at_builtin; refine wpList_append_own _ rfl _ _ 37 rfl w.heap.size 26 i0 (.agg #[.int .i64 0, .int .i64 0, .int .i64 0, .int .i64 0]) 4 32 Try.underlying37 hi hz0 hz1 hz2 rfl (by decide) _ _ _ rfl ((own_below hO.out hb5).alloc _) ⟨w5.heap.size, 0, none⟩ 1 1 [.int .i64 e.1, .int .i64 e.2.1, .int .i64 e.2.2.1, .int .i64 e.2.2.2] rfl rfl ?_ ?_ ?_ ?_ ?_ ?_))
        · intro i u hj
          rcases i with _ | _ | _ | _ | i
          · cases hj; go_cell
          · cases hj; go_cell
          · cases hj; go_cell
          · cases hj; go_cell
          · simp at hj
        · intro u hu
          simp at hu
          rcases hu with rfl | rfl | rfl | rfl <;> rfl
        · unfold maxLen; omega
        · omega
        · have := K5.size; simp; omega
        intro v' w6 hown' hgrow _
        have hO2 : Hid (w6.ownsRow w.heap.size 26 4 v' (j + 1) (qCs (xs.take (j + 1)))) := Lib.hid (by
          rw [HST.out, qCs_snoc]
          exact hown')
        have hB2 : Hid (Below w.heap.size w w6) := Lib.hid ((K5.alloc K5.size _).grown hgrow (by have := K5.size; simp; omega) (fun k hk => by have := ((own_below hO.out hb5).lt k hk).1; omega))
        clear hown' hgrow
        go_wp2
        go_roundw
        case rel => exact ⟨j + 1, by go_num, by omega, hB2, hO2⟩
        case measure => simp [intOf]; omega
      · obtain rfl : j = n := by omega
        have hO3 := hO.out
        rw [show xs.take j = xs by rw [← HR.out]; exact List.take_length] at hO3
        have hO4 : wr.ownsRow w.heap.size 26 4 u5 xs.length (qCs xs) := by rw [HR.out]; exact hO3
        obtain ⟨q, d, hq, hd, hS⟩ := qw_sl hO4
        rw [HR.out] at hq hd
        subst hq
        have HS := Lib.hid hS
        have RAW := RA
        obtain ⟨x, y, z, s, f⟩ := rr
        have SM := Lib.hid fun w => law_same x y z s x y z s w
        rw [show decide (x = x ∧ y = y ∧ z = z ∧ s = s) = true by simp] at SM
        have C1 := Lib.hid fun w h => RC.out q d w hd h
        clear hO hO3 hO4 RC hS hi hz0 hz1 hz2
        go_wp2_with (first | (go_at_call 11; (with_reducible refine (C1.out _ HS).mono ?_); rintro e w5 ⟨rfl, hb5⟩; have hc5 := (bcell hb5).1; have hf5 := (bcell hb5).2; have K5 : Below w.heap.size w w5 := Below.trans (b := _) (by (repeat' (first | (with_reducible exact Below.refl _ _) | (with_reducible exact K0) | (with_reducible exact K0.size) | (with_reducible refine Below.alloc ?_ ?_ _) | (with_reducible refine Below.setCell ?_ ?_ _) | (with_reducible refine below_drewN ?_ _) | (simp; done) | omega | (simp; omega)))) (hb5.mono (by have hzz := hb5.size; (try simp at hzz); first | omega | (simp; done) | (simp; omega))); have ls5 := K5.size) | (go_at_call 12; (with_reducible refine (RR.out _ (Lib.hid (RAW.out.below (K5.alloc K5.size _)))).mono ?_); rintro e w6 ⟨rfl, hb6⟩; have hc6 := (bcell hb6).1; have hf6 := (bcell hb6).2; have z6_0 : w5.heap.size < w6.heap.size := (by have hzz := hb6.size; (try simp at hzz); omega); have K6 : Below w.heap.size w w6 := Below.trans (b := _) (by (repeat' (first | (with_reducible exact Below.refl _ _) | (with_reducible exact K0) | (with_reducible exact K0.size) | (with_reducible exact K5) | (with_reducible exact K5.size) | (with_reducible refine Below.alloc ?_ ?_ _) | (with_reducible refine Below.setCell ?_ ?_ _) | (with_reducible refine below_drewN ?_ _) | (simp; done) | omega | (simp; omega)))) (hb6.mono (by have hzz := hb6.size; (try simp at hzz); first | omega | (simp; done) | (simp; omega))); have ls6 := K6.size) | (go_at_call 9; (with_reducible refine (SM.out _).mono ?_); rintro e w7 ⟨rfl, hb7⟩; have hc7 := (bcell hb7).1; have hf7 := (bcell hb7).2; have z7_0 : w5.heap.size < w7.heap.size := (by have hzz := hb7.size; (try simp at hzz); omega); have z7_1 : w6.heap.size < w7.heap.size := (by have hzz := hb7.size; (try simp at hzz); omega); have K7 : Below w.heap.size w w7 := Below.trans (b := _) (by (repeat' (first | (with_reducible exact Below.refl _ _) | (with_reducible exact K0) | (with_reducible exact K0.size) | (with_reducible exact K5) | (with_reducible exact K5.size) | (with_reducible exact K6) | (with_reducible exact K6.size) | (with_reducible refine Below.alloc ?_ ?_ _) | (with_reducible refine Below.setCell ?_ ?_ _) | (with_reducible refine below_drewN ?_ _) | (simp; done) | omega | (simp; omega)))) (hb7.mono (by have hzz := hb7.size; (try simp at hzz); first | omega | (simp; done) | (simp; omega))); have ls7 := K7.size) | (go_at_call 10; (with_reducible refine (AL.out _).mono ?_); rintro e w8 ⟨rfl, hb8⟩; have hc8 := (bcell hb8).1; have hf8 := (bcell hb8).2; have K8 : Below w.heap.size w w8 := Below.trans (b := _) (by (repeat' (first | (with_reducible exact Below.refl _ _) | (with_reducible exact K0) | (with_reducible exact K0.size) | (with_reducible exact K5) | (with_reducible exact K5.size) | (with_reducible exact K6) | (with_reducible exact K6.size) | (with_reducible exact K7) | (with_reducible exact K7.size) | (with_reducible refine Below.alloc ?_ ?_ _) | (with_reducible refine Below.setCell ?_ ?_ _) | (with_reducible refine below_drewN ?_ _) | (simp; done) | omega | (simp; omega)))) (hb8.mono (by have hzz := hb8.size; (try simp at hzz); first | omega | (simp; done) | (simp; omega)))))
        go_ret
        exact ⟨rfl, K8⟩
end Go.Proofs.Ythkhlhibhkdkkaa.Va
