/- Lifetimes: MaxLive of the program. -/
import Derived.Test.YtipeapjbodnagaaL3
namespace Go.Proofs.Ytipeapjbodnagaa.Lv
open Go.ChangeShapes Go.WideShapes Go.ChangeAt Go.RowKit
set_option linter.unusedVariables false

open Go.Sort
theorem kpb {B : Nat} {y y' : World} {b o : Nat} {v : Value} (hy : Below B y y') (hb : b < B) (h : y.cell? ⟨b, o, none⟩ = some v) : y'.cell? ⟨b, o, none⟩ = some v := (hy.cell (p := ⟨b, o, none⟩) hb).trans h
theorem Pr.mk {base : Nat} {w : World} {a b : Value} {n m : Nat} {la lb : List Int} (h1 : w.ownsRow base 3 1 a n (la.map (Value.int .i64))) (h2 : w.ownsRow base 3 1 b m (lb.map (Value.int .i64))) (h3 : ∀ g, a.ownBlock = some g → b.ownBlock = some g → False) : Pr base w a b n m la lb := ⟨h1, h2, h3⟩
theorem own_any {w : World} {base n : Nat} {e : TypeId} {v : Value} {xs : List Value} (h : w.ownsRow base e 1 v n xs) : ∃ q cap, v = .slice q n cap ∧ (0 < n → ∃ g, q = some ⟨g, 0, none⟩) := by
  rcases h.2 with ⟨rfl, rfl⟩ | ⟨g, cap, cur, rfl, _⟩
  · exact ⟨none, 0, rfl, fun h => by omega⟩
  · exact ⟨_, cap, rfl, fun _ => ⟨g, rfl⟩⟩
theorem cellI {w : World} {base g n cap j : Nat} {t : TypeId} {xs : List Int} (h : w.ownsRow base t 1 (.slice (some ⟨g, 0, none⟩) n cap) n (xs.map (Value.int .i64))) (hj : j < n) (hx : xs.length = n) :
    w.cell? ⟨g, j, none⟩ = some (.int .i64 (xs.getD j 0)) := by
  rw [h.cellAt j (by omega), List.getElem?_map, List.getElem?_eq_getElem (by omega), List.getD, List.getElem?_eq_getElem (by omega)]
  rfl
def Pq (w0 w : World) (a b : Value) (n m : Nat) (la lb : List Int) : Prop := Pr w0.heap.size w a b n m la lb ∧ Below w0.heap.size w0 w
theorem Pq.alloc {w0 w : World} {a b : Value} {n m : Nat} {la lb : List Int} (h : Pq w0 w a b n m la lb) (o : Obj) : Pq w0 (w.alloc o) a b n m la lb := ⟨h.1.alloc o, h.2.alloc h.2.size o⟩
theorem Pq.drew {w0 w : World} {a b : Value} {n m : Nat} {la lb : List Int} (h : Pq w0 w a b n m la lb) : Pq w0 w.drew a b n m la lb := ⟨h.1, Below.drew h.2⟩
theorem Pq.stepA {w0 w w' : World} {a b : Value} {n m : Nat} {la lb : List Int} {x : Int} {g cap H : Nat} (h : Pq w0 w a b n m la lb) (hown : w'.ownsRow w0.heap.size 3 1 (.slice (some ⟨g, 0, none⟩) (n + 1) cap) (n + 1) (la.map (Value.int .i64) ++ [.int .i64 x]))
    (hg : w.grownBy w' a.ownBlock) (hat : a.ownBlock = some g ∨ g = H) (hH : w.heap.size = H) : Pq w0 w' (.slice (some ⟨g, 0, none⟩) (n + 1) cap) b (n + 1) m (la ++ [x]) lb :=
  ⟨h.1.stepA hown hg hat hH, below_grown h.2 h.1.1 (Nat.le_refl _) hg h.2.size⟩
theorem Pq.swap {w0 w : World} {a b : Value} {n m : Nat} {la lb : List Int} (h : Pq w0 w a b n m la lb) : Pq w0 w b a m n lb la := ⟨h.1.swap, h.2⟩
theorem Pq.stepB {w0 w w' : World} {a b : Value} {n m : Nat} {la lb : List Int} {x : Int} {g cap H : Nat} (h : Pq w0 w b a n m lb la) (hown : w'.ownsRow w0.heap.size 3 1 (.slice (some ⟨g, 0, none⟩) (m + 1) cap) (m + 1) (la.map (Value.int .i64) ++ [.int .i64 x]))
    (hg : w.grownBy w' a.ownBlock) (hat : a.ownBlock = some g ∨ g = H) (hH : w.heap.size = H) : Pq w0 w' b (.slice (some ⟨g, 0, none⟩) (m + 1) cap) n (m + 1) lb (la ++ [x]) := (h.swap.stepA hown hg hat hH).swap
set_option maxRecDepth 100000 in
set_option maxHeartbeats 8000000 in
theorem pml (p : Option Addr) (xs : List Lf) (c : Nat) (w : World) (hn : xs.length ≤ 60) (RA : Hid (SlL w p xs)) :
    Calls Try.prog 44 #[.slice p xs.length c] w fun e w' => e = .returned (.int .i64 (ml xs)) ∧ Below w.heap.size w w' := by
  obtain ⟨i0', hi, hz0, hz1, hz2⟩ := info_parts info3
  go_enter Try.func44, Try.ntmps44
  go_wp2
  go_loopw [3, 4, 13] (fun a b i wr => ∃ (k m : Nat), i = .int .i64 (k : Int) ∧ k ≤ xs.length ∧ m ≤ k ∧ Hid (Pq w wr a b m m (sts (xs.take k)) (eds (xs.take k)))) (fun _ _ i _ => xs.length - (intOf i).toNat)
  case atStart => exact ⟨0, 0, rfl, by omega, by omega, Lib.hid ⟨Pr.nil _ _, Below.refl _ _⟩⟩
  case round =>
    obtain ⟨k, m, rfl, hk, hmk, hP⟩ := hrel
    by_cases hlt : k < xs.length
    · obtain ⟨b, o, rfl, c0, c1, c2, c3⟩ := RA.out k hlt
      have hb : b < w.heap.size := by have := World.block_lt_of_cell? w _ c0; simpa using this
      have c0 := kpb hP.out.2 hb c0
      have c1 := kpb hP.out.2 hb c1
      have c2 := kpb hP.out.2 hb c2
      have c3 := kpb hP.out.2 hb c3
      obtain ⟨hsT, hsF⟩ := sts_step hlt
      have hsz := hP.out.2.size
      rw [getD_lf hlt] at c0 c1 c2 c3
      obtain ⟨⟨s, f, t, z⟩, hx⟩ : ∃ x, xs[k] = x := ⟨_, rfl⟩
      rw [hx] at c0 c1 c2 c3 hsT hsF
      simp only at c0 c1 c2 c3 hsT hsF
      have ii : (0 : Int) ≤ k := by omega
      have i2 : (k : Int) < xs.length := by omega
      clear hx
      by_cases hv : f ≤ t
      · obtain ⟨e1, e2⟩ := hsT (by unfold vd; simpa using hv)
        have E1 := Lib.hid e1
        have E2 := Lib.hid e2
        have dv : decide (f ≤ t) = true := decide_eq_true hv
        clear e1 e2 hsT hsF hv
        have hla : ∀ j, Value.ownBlock u3 = some j → j < wr.heap.size := fun j hj => (hP.out.1.1.lt j hj).2
        have hlb : ∀ j, Value.ownBlock u4 = some j → j < wr.heap.size := fun j hj => (hP.out.1.2.1.lt j hj).2
        go_wp2
        have HQ := Lib.hid (hP.out.alloc (Obj.cells #[Value.string s, .int .i64 f, .int .i64 t, .int .i64 z] 55)).drew
        have x1 : (wr.alloc (Obj.cells #[Value.string s, .int .i64 f, .int .i64 t, .int .i64 z] 55)).cell? ⟨wr.heap.size, 1, none⟩ = some (.int .i64 f) := by go_cell
        have x2 : (wr.alloc (Obj.cells #[Value.string s, .int .i64 f, .int .i64 t, .int .i64 z] 55)).cell? ⟨wr.heap.size, 2, none⟩ = some (.int .i64 t) := by go_cell
        have xs0 : (wr.alloc (Obj.cells #[Value.string s, .int .i64 f, .int .i64 t, .int .i64 z] 55)).heap.size = wr.heap.size + 1 := by simp
        obtain ⟨X, hX⟩ : ∃ X, wr.heap.size = X := ⟨_, rfl⟩
        generalize wr.alloc (Obj.cells #[Value.string s, .int .i64 f, .int .i64 t, .int .i64 z] 55) = W at *
        have hla2 : ∀ j, Value.ownBlock u3 = some j → j < X := fun j hj => hX ▸ hla j hj
        have hlb2 : ∀ j, Value.ownBlock u4 = some j → j < X := fun j hj => hX ▸ hlb j hj
        clear hla hlb
        have hla := hla2
        have hlb := hlb2
        clear hla2 hlb2
        rw [hX] at x1 x2 xs0 ⊢
        clear c0 c1 c2 c3 hP hX
        go_region_held_law (fun W' => W'.cell? ⟨X, 1, none⟩ = some (.int .i64 f) ∧ W'.cell? ⟨X, 2, none⟩ = some (.int .i64 t) ∧ X < W'.heap.size)
          (first
           | (go_keep; done)
           | (refine ⟨by go_keep, by go_keep, by simp; omega⟩)
           | (go_split_ands; refine ⟨(hg.cell_far ⟨X, 1, none⟩ (by first | assumption | (simp; omega)) (fun e => by first | (have := hla X e.symm; omega) | (have := hlb X e.symm; omega))).trans (by first | assumption | go_keep), (hg.cell_far ⟨X, 2, none⟩ (by first | assumption | (simp; omega)) (fun e => by first | (have := hla X e.symm; omega) | (have := hlb X e.symm; omega))).trans (by first | assumption | go_keep), Nat.lt_of_lt_of_le (by first | assumption | (simp; omega)) hg.size⟩))
          (first
           | (
             refine step_append_lies _ (by rfl) (.tmp 22) (.tmp 25) 101 (by rfl) w.heap.size 3 i0' (.int .i64 0) 1 8 Try.underlying101 hi hz0 hz1 hz2 rfl (by decide) u3 m ((sts (xs.take k)).map (Value.int .i64)) (by rfl) (by first | exact (HQ.out).1.1 | exact ((HQ.out.alloc _)).1.1 | exact (((HQ.out.alloc _).alloc _)).1.1) ⟨_, 0, none⟩ 1 1 [.int .i64 f] (by rfl) rfl ?_ ?_ (by decide) ?_ ?_ ?_ _ rfl ?_
             · intro j u hj
               cases j with
               | zero =>
                 cases hj
                 first
                 | go_cell
                 | (refine (hg.cell_far ⟨_, 0, none⟩ ?_ ?_).trans ?_
                    · (simp; omega)
                    · (intro e; have h9 := hlb _ e.symm; clear e; (first | omega | (simp at h9; done) | (simp at h9; omega)))
                    · go_cell)
               | succ j => cases hj
             · (intro u hu; cases List.mem_singleton.1 hu; rfl)
             · (unfold maxLen; omega)
             · omega
             · (first | exact HQ.out.2.size | exact (HQ.out.alloc _).2.size | exact ((HQ.out.alloc _).alloc _).2.size)
             intro g cap w1 hown hg hat hlt
             first
             | (have HQ2 := Lib.hid (Pq.stepA HQ.out hown hg hat rfl); clear HQ; have HQ := HQ2; clear HQ2)
             | (have HQ2 := Lib.hid (Pq.stepA (HQ.out.alloc _) hown hg hat rfl); clear HQ; have HQ := HQ2; clear HQ2)
             | (have HQ2 := Lib.hid (Pq.stepA ((HQ.out.alloc _).alloc _) hown hg hat rfl); clear HQ; have HQ := HQ2; clear HQ2))
           | (
             refine step_append_lies _ (by rfl) (.tmp 27) (.tmp 30) 101 (by rfl) w.heap.size 3 i0' (.int .i64 0) 1 8 Try.underlying101 hi hz0 hz1 hz2 rfl (by decide) u4 m ((eds (xs.take k)).map (Value.int .i64)) (by rfl) (by first | exact (HQ.out).1.2.1 | exact ((HQ.out.alloc _)).1.2.1 | exact (((HQ.out.alloc _).alloc _)).1.2.1) ⟨_, 0, none⟩ 1 1 [.int .i64 t] (by rfl) rfl ?_ ?_ (by decide) ?_ ?_ ?_ _ rfl ?_
             · intro j u hj
               cases j with
               | zero =>
                 cases hj
                 first
                 | go_cell
                 | (refine (hg.cell_far ⟨_, 0, none⟩ ?_ ?_).trans ?_
                    · (simp; omega)
                    · (intro e; have h9 := hla _ e.symm; clear e; (first | omega | (simp at h9; done) | (simp at h9; omega)))
                    · go_cell)
               | succ j => cases hj
             · (intro u hu; cases List.mem_singleton.1 hu; rfl)
             · (unfold maxLen; omega)
             · omega
             · (first | exact HQ.out.2.size | exact (HQ.out.alloc _).2.size | exact ((HQ.out.alloc _).alloc _).2.size)
             intro g cap w1 hown hg hat hlt
             first
             | (have HQ2 := Lib.hid (Pq.stepB HQ.out hown hg hat rfl); clear HQ; have HQ := HQ2; clear HQ2)
             | (have HQ2 := Lib.hid (Pq.stepB (HQ.out.alloc _) hown hg hat rfl); clear HQ; have HQ := HQ2; clear HQ2)
             | (have HQ2 := Lib.hid (Pq.stepB ((HQ.out.alloc _).alloc _) hown hg hat rfl); clear HQ; have HQ := HQ2; clear HQ2)))
        all_goals
          go_wp2
          go_roundw
          case rel => exact ⟨k + 1, m + 1, by go_num, by omega, by omega, Lib.hid (by rw [E1.out, E2.out]; exact HQ.out)⟩
          case measure => simp [intOf]; omega
      · obtain ⟨e1, e2⟩ := hsF (by unfold vd; simpa using hv)
        have dv : decide (f ≤ t) = false := decide_eq_false hv
        have HP2 : Hid (Pq w (wr.alloc (Obj.cells #[Value.string s, .int .i64 f, .int .i64 t, .int .i64 z] 55)) _ _ m m (sts (xs.take (k + 1))) (eds (xs.take (k + 1)))) := Lib.hid (by rw [e1, e2]; exact hP.out.alloc _)
        clear e1 e2 hsT hsF hv hP
        go_wp2
        go_roundw
        case rel => exact ⟨k + 1, m, by go_num, by omega, by omega, HP2⟩
        case measure => simp [intOf]; omega
    · obtain rfl : k = xs.length := by omega
      rw [List.take_length] at hP
      obtain ⟨⟨oA, oB, dAB⟩, KB⟩ := hP.out
      have hm : (sts xs).length = m := by have := oA.1; simpa using this
      have hm2 : (eds xs).length = m := by have := oB.1; simpa using this
      have SA := Lib.hid fun (W : World) (h : W.ownsRow w.heap.size 3 1 u3 m ((sts xs).map (Value.int .i64))) => (by
        have h2 := sortOwn u3 (sts xs) w.heap.size W (by rw [hm]; exact h) (by omega)
        rw [hm] at h2
        exact h2)
      have SB := Lib.hid fun (W : World) (h : W.ownsRow w.heap.size 3 1 u4 m ((eds xs).map (Value.int .i64))) => (by
        have h2 := sortOwn u4 (eds xs) w.heap.size W (by rw [hm2]; exact h) (by omega)
        rw [hm2] at h2
        exact h2)
      have hP1 := Lib.hid (Pr.mk oA oB dAB)
      have hl : m ≤ 60 := by omega
      have HSW := Lib.hid (sweep xs)
      have HSL : Hid ((srt (sts xs)).length = m) := Lib.hid (by rw [srt_len, hm])
      have HEL : Hid ((srt (eds xs)).length = m) := Lib.hid (by rw [srt_len, hm2])
      have HOV := Lib.hid fun i (h : i < m) => over_lt xs (i := i) (by omega)
      have HPA := Lib.hid fun i j (h : i ≤ j) (h2 : j < m) => ltc_pair xs h (j := j) (by omega)
      have HSO := Lib.hid (srt_sorted (eds xs))
      rw [hm] at HSW HOV
      clear oA oB dAB hP hm hm2 hi hz0 hz1 hz2
      go_wp2_with fail
      refine (SA.out _ hP1.out.1).mono ?_
      rintro e w1 ⟨rfl, oA1, g1⟩
      have KB1 := below_grown KB hP1.out.1 (Nat.le_refl _) g1 KB.size
      have hP2 := Lib.hid (hP1.out.sortA oA1 g1)
      clear oA1 g1 hP1 KB
      go_wp2_with fail
      refine (SB.out _ hP2.out.2.1).mono ?_
      rintro e w2 ⟨rfl, oB1, g2⟩
      have KB2 := below_grown KB1 hP2.out.2.1 (Nat.le_refl _) g2 KB1.size
      obtain ⟨rA, rB, _⟩ := (hP2.out.swap.sortA oB1 g2).swap
      clear oB1 g2 hP2 KB1 SA SB
      generalize srt (sts xs) = S at *
      generalize srt (eds xs) = E at *
      obtain ⟨qA, cA, rfl, fA⟩ := own_any rA
      obtain ⟨qB, cB, rfl, fB⟩ := own_any rB
      have RA2 := Lib.hid rA
      have RB2 := Lib.hid rB
      have FA := Lib.hid fA
      have FB := Lib.hid fB
      clear rA rB fA fB
      go_wp2
      go_loop [7, 8, 39] (fun M o i => ∃ (k l : Nat), i = .int .i64 (k : Int) ∧ o = .int .i64 (l : Int) ∧ k ≤ m ∧ M = .int .i64 (mo S E k) ∧ l ≤ m ∧ Hid (k < m → l ≤ ltc E (S.getD k 0))) (fun _ _ i => m - (intOf i).toNat)
      case atStart => exact ⟨0, 0, rfl, rfl, by omega, rfl, by omega, Lib.hid fun _ => by omega⟩
      case round =>
        obtain ⟨k, l, rfl, rfl, hk, rfl, hlm, hL⟩ := hrel
        by_cases hlt : k < m
        · obtain ⟨gA, rfl⟩ := FA.out (by omega)
          obtain ⟨gB, rfl⟩ := FB.out (by omega)
          have cA1 := cellI RA2.out hlt HSL.out
          have hl0 := hL.out hlt
          have hov := HOV.out k hlt
          have hnx := HPA.out k (k + 1) (by omega)
          have hst : mo S E (k + 1) = max (mo S E k) (((k : Int) + 1) - (ltc E (S.getD k 0) : Int)) := rfl
          obtain ⟨f, hf⟩ : ∃ f, S.getD k 0 = f := ⟨_, rfl⟩
          rw [hf] at cA1 hl0 hov hst hnx
          obtain ⟨M, hM⟩ : ∃ M, mo S E k = M := ⟨_, rfl⟩
          rw [hM] at hst ⊢
          have hM0 : 0 ≤ M := hM ▸ (mo_ge (S := S) (E := E) k).1
          have HST := Lib.hid hst
          have HNX : Hid (k + 1 < m → ltc E f ≤ ltc E (S.getD (k + 1) 0)) := Lib.hid fun h => ltc_mono (hnx h)
          obtain ⟨L, hLL⟩ : ∃ L, ltc E f = L := ⟨_, rfl⟩
          have HLI : Hid (∀ j, j < m → (E.getD j 0 < f ↔ j < L)) := Lib.hid fun j hj => by rw [← hLL]; exact lt_iff HSO.out f j (by rw [HEL.out]; exact hj)
          rw [hLL] at hl0 hov HST HNX
          have cK := Lib.hid cA1
          clear hst hnx hM hf hLL hL
          have k0 : (0 : Int) ≤ k := by omega
          have k1 : (k : Int) < m := by omega
          have cA1 := cK.out
          go_wp2
          clear cA1
          go_loop [8] (fun o => ∃ l : Nat, o = .int .i64 (l : Int) ∧ l ≤ L) (fun o => m - (intOf o).toNat)
          case atStart => exact ⟨l, rfl, hl0⟩
          case round =>
            obtain ⟨l2, rfl, hl2⟩ := hrel
            have cB1 := cellI RB2.out (show l2 < m by omega) HEL.out
            have hli := HLI.out l2 (by omega)
            obtain ⟨y, hy⟩ : ∃ y, E.getD l2 0 = y := ⟨_, rfl⟩
            rw [hy] at cB1 hli
            clear hy
            have l0 : (0 : Int) ≤ l2 := by omega
            have l1 : (l2 : Int) < m := by omega
            by_cases hyf : y < f
            · have d1 : decide (y < f) = true := decide_eq_true hyf
              have := hli.1 hyf
              clear hli
              go_wp2
              go_round
              case rel => exact ⟨l2 + 1, by go_num, by omega⟩
              case measure => simp [intOf]; omega
            · have d1 : decide (y < f) = false := decide_eq_false hyf
              have h9 : ¬ l2 < L := fun h => hyf (hli.2 h)
              obtain rfl : l2 = L := by omega
              clear hli h9
              have HL3 : Hid (k + 1 < m → l2 ≤ ltc E (S.getD (k + 1) 0)) := HNX
              by_cases hm : M < (k : Int) + 1 - l2
              all_goals
                first | have m1 : decide (M < (k : Int) + 1 - l2) = true := decide_eq_true hm | have m1 : decide (M < (k : Int) + 1 - l2) = false := decide_eq_false hm
                go_wp2
                all_goals
                  first | (exfalso; omega) | skip
                  go_round
                  case rel => exact ⟨k + 1, l2, by go_num, rfl, by omega, by first | (rw [HST.out]; done) | (rw [HST.out]; congr 1; done) | (rw [HST.out]; congr 1; omega) | (rw [HST.out]; congr 2; omega), by omega, HL3⟩
                  case measure => simp [intOf]; omega
        · obtain rfl : k = m := by omega
          go_wp2
          go_ret
          exact ⟨ret_int HSW.out, KB2⟩
end Go.Proofs.Ytipeapjbodnagaa.Lv
