/- Lists of lists compared. -/
import Derived.Test.YtjpcpdaokgkaoaaM11
namespace Go.Proofs.Ytjpcpdaokgkaoaa.Sh
open Go.ChangeShapes Go.WideShapes Go.ChangeAt Go.RowKit
set_option linter.unusedVariables false

/-- A slice value reads as a list of lists of integers. -/
def SlS (w : World) (q : Option Addr) (ls : List (List Int)) : Prop := ∀ i, i < ls.length → ∃ b o p' c', q = some ⟨b, o, none⟩ ∧ w.cell? ⟨b, o + i, none⟩ = some (.slice p' (ls.getD i []).length c') ∧ (ls.getD i []).length ≤ maxLen ∧ SlI w p' (ls.getD i [])
theorem own_SlS {w : World} {b1 b2 : Nat} {v : Value} {vals : List Value} {ls : List (List Int)} (h : w.ownsRow b1 22 1 v ls.length vals) (hr : Rows w b2 vals ls) :
    ∃ q c, v = .slice q ls.length c ∧ ls.length ≤ c ∧ c ≤ maxLen ∧ Hid (SlS w q ls) := by
  have h0 := h
  rcases h.2 with ⟨rfl, hn⟩ | ⟨g, cap, cur, rfl, hb, hg, hnc, hcm, hcs, ht⟩
  · exact ⟨none, 0, by rw [hn], by omega, by unfold maxLen; omega, Lib.hid fun i hi => by omega⟩
  · refine ⟨_, cap, rfl, hnc, hcm, Lib.hid fun i hi => ?_⟩
    obtain ⟨p', c', hv, h1, h2, hS⟩ := own_SlI (hr.2 i hi)
    refine ⟨g, 0, p', c', rfl, ?_, Nat.le_trans h1 h2, hS.out⟩
    rw [Nat.zero_add, h0.cellAt i (by omega), ← hv, List.getD, List.getElem?_eq_getElem (by rw [hr.1]; exact hi)]
    rfl
theorem SlS.keep {w w' : World} {q : Option Addr} {ls : List (List Int)} (hB : Below w.heap.size w w') (h : SlS w q ls) : SlS w' q ls := fun i hi => by
  obtain ⟨b, o, p', c', rfl, hc, hl, hS⟩ := h i hi
  exact ⟨b, o, p', c', rfl, Rg.keep' hB (by have := World.block_lt_of_cell? w _ hc; simpa using this) hc, hl, SlI.keep hB hS⟩
theorem lists_take {xs ys : List (List Int)} {k : Nat} (h : ∀ j, j < k → xs.getD j [] = ys.getD j []) (hk : k = xs.length) (hl : xs.length = ys.length) : xs = ys := by
  refine List.ext_getElem hl fun j h1 h2 => ?_
  have := h j (by omega)
  simpa [List.getD, h1, h2] using this
set_option maxHeartbeats 4000000 in
theorem c43 (p q : Option Addr) (xs ys : List (List Int)) (c d : Nat) (w : World) (hx : xs.length ≤ maxLen) (hy : ys.length ≤ maxLen) (RA : Hid (SlS w p xs)) (RB : Hid (SlS w q ys)) :
    Calls Try.prog 43 #[.slice p xs.length c, .slice q ys.length d] w fun e w' => e = .returned (.bool (decide (xs = ys))) ∧ ∃ k, w' = w.drewN k := by
  unfold maxLen at hx hy
  by_cases hl : xs.length = ys.length
  · have k1 : ((xs.length : Int) != ys.length) = false := by simp [hl]
    obtain ⟨V, hV⟩ : ∃ V, decide (xs = ys) = V := ⟨_, rfl⟩
    rw [hV]
    have HV := Lib.hid hV
    obtain ⟨n, hn⟩ : ∃ n, xs.length = n := ⟨_, rfl⟩
    have HN := Lib.hid hn
    have HM : Hid (ys.length = n) := Lib.hid (by omega)
    have hm : ys.length = n := by omega
    rw [hn, hm] at k1 ⊢
    rw [hn] at hx
    clear hV hl hn hm hy
    go_enter Try.func43, Try.ntmps43
    go_wp2
    go_loopw [5] (fun i wr => ∃ (k : Nat), Hid (∃ m, wr = w.drewN m) ∧ i = .int .i64 k ∧ k ≤ n ∧ Hid (∀ j, j < k → xs.getD j [] = ys.getD j [])) (fun i _ => n - (intOf i).toNat)
    case atStart => exact ⟨0, Lib.hid ⟨0, rfl⟩, rfl, by omega, Lib.hid fun j hj => by omega⟩
    case round =>
      obtain ⟨k, hW, rfl, hk, hL⟩ := hrel
      by_cases hlt : k < n
      · have RA' : SlS wr p xs := by obtain ⟨m, rfl⟩ := hW.out; exact RA.out
        have RB' : SlS wr q ys := by obtain ⟨m, rfl⟩ := hW.out; exact RB.out
        obtain ⟨b, o, p1, c1, rfl, hc, hl1, hS⟩ := RA' k (by rw [HN.out]; exact hlt)
        obtain ⟨b', o', p2, c2, rfl, hc', hl2, hS'⟩ := RB' k (by rw [HM.out]; exact hlt)
        clear RA' RB'
        have j0 : (0 : Int) ≤ k := by omega
        have j1 : (k : Int) < n := by omega
        have CI := Lib.hid fun (y : Nat) => c18 p1 p2 (xs.getD k []) (ys.getD k []) c1 c2 (wr.drewN y) hl1 hl2 (Lib.hid hS) (Lib.hid hS')
        obtain ⟨t, ht⟩ : ∃ t, decide (xs.getD k [] = ys.getD k []) = t := ⟨_, rfl⟩
        rw [ht] at CI
        have HT := Lib.hid ht
        clear ht hS hS' hl1 hl2
        generalize (xs.getD k []).length = l1 at *
        generalize (ys.getD k []).length = l2 at *
        cases t
        · have e : V = false := by
            rw [← HV.out]
            refine decide_eq_false fun h => of_decide_eq_false HT.out ?_
            rw [h]
          have HE := Lib.hid e
          clear e
          go_wp2
          go_quiet ((go_at_call 18; exact Calls.quiet_of (CI.out _)))
          go_wp2
          go_ret
          exact ⟨ret_bool HE.out.symm, by obtain ⟨m, rfl⟩ := hW.out; exact ⟨_, by rw [World.drewN_drewN]⟩⟩
        · have hL2 : Hid (∀ j, j < k + 1 → xs.getD j [] = ys.getD j []) := Lib.hid fun j hj => by
            rcases (by omega : j < k ∨ j = k) with h | rfl
            · exact hL.out j h
            · exact of_decide_eq_true HT.out
          clear hL
          go_wp2
          go_quiet ((go_at_call 18; exact Calls.quiet_of (CI.out _)))
          go_wp2
          go_roundw
          case rel => exact ⟨k + 1, Lib.hid (by obtain ⟨m, rfl⟩ := hW.out; exact ⟨_, by rw [World.drewN_drewN]⟩), by go_num, by omega, hL2⟩
          case measure => simp [intOf]; omega
      · have e : V = true := by
          rw [← HV.out]
          exact decide_eq_true (lists_take (k := k) hL.out (by rw [HN.out]; omega) (by rw [HN.out, HM.out]))
        have HE := Lib.hid e
        clear e
        go_wp2
        go_ret
        exact ⟨ret_bool HE.out.symm, hW.out⟩
  · have k1 : ((xs.length : Int) != ys.length) = true := bne_iff_ne.2 (by omega)
    have k2 : (xs.length != ys.length) = true := by simpa using hl
    have k3 : (xs.length == ys.length) = false := by simpa using hl
    rw [decide_eq_false (fun h : xs = ys => hl (by rw [h]))]
    clear hl
    go_enter Try.func43, Try.ntmps43
    go_wp2
    go_ret
    exact ⟨rfl, 0, rfl⟩
end Go.Proofs.Ytjpcpdaokgkaoaa.Sh
