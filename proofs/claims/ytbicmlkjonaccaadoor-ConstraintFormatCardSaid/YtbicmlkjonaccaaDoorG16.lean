/- Small of the laws on constraints. -/
import Derived.Test.YtbicmlkjonaccaaDoorG3
import Derived.Test.YtbicmlkjonaccaaDoorG15

namespace Go.Proofs.YtbicmlkjonaccaaDoor.Ln
open Go.ChangeShapes Go.WideShapes Go.ChangeAt Go.RowKit
open Go.Proofs.YtbicmlkjonaccaaDoor.Nm
set_option linter.unusedVariables false
set_option linter.unusedSimpArgs false
set_option maxRecDepth 8000

abbrev Qm := Int × List Mo × Bool
abbrev q0m : Qm := (0, [], false)
/-- A slice of constraints. -/
def SlQ (w : World) (p : Option Addr) (l : List Qm) : Prop := ∀ i, i < l.length → ∃ b o q c, p = some ⟨b, o, none⟩ ∧ w.cell? ⟨b, o + i * 3, none⟩ = some (.int .i64 (l.getD i q0m).1) ∧ w.cell? ⟨b, o + i * 3 + 1, none⟩ = some (.slice q (l.getD i q0m).2.1.length c) ∧ w.cell? ⟨b, o + i * 3 + 2, none⟩ = some (.bool (l.getD i q0m).2.2) ∧ SlM w q (l.getD i q0m).2.1
def smN (m : Mo) : Bool := decide (m.1.size ≤ 100)
def smF (f : Qm) : Bool := decide (f.2.1.length ≤ 40) && f.2.1.all smN
/-- What the laws on constraints take as small. -/
def smQ (lim : Nat) (l : List Qm) : Bool := decide (l.length ≤ lim) && l.all smF
theorem qget {l : List Qm} {i : Nat} (h : i < l.length) : l.getD i q0m ∈ l := by
  have e1 : l.getD i q0m = l[i] := by unfold List.getD; rw [List.getElem?_eq_getElem h]; rfl
  rw [e1]
  exact List.getElem_mem h
theorem qtake {l : List Qm} {i : Nat} (h : i < l.length) : l.take (i + 1) = l.take i ++ [l.getD i q0m] := by
  rw [List.take_succ_eq_append_getElem h]
  have e1 : l.getD i q0m = l[i] := by unfold List.getD; rw [List.getElem?_eq_getElem h]; rfl
  rw [e1]
set_option maxRecDepth 100000 in
set_option maxHeartbeats 8000000 in
theorem small6 (p : Option Addr) (l : List Qm) (c lim : Nat) (w : World) (hn : l.length ≤ maxLen) (hv : Hid (∀ f ∈ l, f.2.1.length ≤ maxLen)) (hlim : lim ≤ 1000) (RA : Hid (SlQ w p l)) :
    Calls Tryd.prog 20 #[.slice p l.length c, .int .i64 lim] w fun e w' => e = .returned (.bool (smQ lim l)) ∧ w = w' := by
  obtain ⟨R, hR⟩ : ∃ R, smQ lim l = R := ⟨_, rfl⟩
  rw [hR]
  have HR := Lib.hid hR
  clear hR
  unfold maxLen at hn
  by_cases hb : lim < l.length
  · have d1 : (lim : Int) < l.length := by omega
    have HT : R = false := by rw [← HR.out]; unfold smQ; rw [decide_eq_false (by omega)]; rfl
    subst HT
    go_enter Tryd.func20, Tryd.ntmps20
    go_wp2
    go_ret
    exact ⟨rfl, rfl⟩
  · have d1 : ¬ (lim : Int) < l.length := by omega
    have HT := Lib.hid (show l.all smF = R by rw [← HR.out]; unfold smQ; rw [decide_eq_true (by omega)]; rfl)
    clear HR
    go_enter Tryd.func20, Tryd.ntmps20
    go_wp2
    go_loopw [5] (fun i wr => ∃ j : Nat, i = .int .i64 (j : Int) ∧ j ≤ l.length ∧ wr = w ∧ Hid ((l.take j).all smF = true)) (fun i _ => l.length - (intOf i).toNat)
    case atStart => exact ⟨0, rfl, by omega, rfl, Lib.hid rfl⟩
    case round =>
      obtain ⟨j, rfl, hj, rfl, HJ⟩ := hrel
      have j0 : (0 : Int) ≤ j := by omega
      by_cases hlt : j < l.length
      · obtain ⟨b, o, q, d, rfl, c0, c1, c2, hS⟩ := RA.out j hlt
        have htk := Lib.hid (qtake hlt)
        have hmem := Lib.hid (qget hlt)
        obtain ⟨f, hf⟩ : ∃ f, l.getD j q0m = f := ⟨_, rfl⟩
        have htk := Lib.hid (by have h := htk.out; rw [hf] at h; exact h)
        have hmem := Lib.hid (by have h := hmem.out; rw [hf] at h; exact h)
        rw [hf] at c0 c1 c2 hS
        have hfl := hv.out _ hmem.out
        clear hf
        obtain ⟨k, xs, eq⟩ := f
        dsimp only at c0 c1 c2 hS hfl
        unfold maxLen at hfl
        have RS := Lib.hid hS
        clear hS
        have j1 : (j : Int) < l.length := by omega
        by_cases h40 : 40 < xs.length
        · have d2 : (40 : Int) < xs.length := by omega
          have HF : R = false := by
            rw [← HT.out, List.all_eq_false]
            exact ⟨_, hmem.out, by unfold smF; rw [decide_eq_false (by dsimp only; omega)]; simp⟩
          subst HF
          go_wp2
          go_ret
          exact ⟨rfl, rfl⟩
        · have d2 : ¬ (40 : Int) < xs.length := by omega
          go_wp2
          go_loopw [6] (fun i w5 => ∃ m : Nat, i = .int .i64 (m : Int) ∧ m ≤ xs.length ∧ w5 = wr ∧ Hid ((xs.take m).all smN = true)) (fun i _ => xs.length - (intOf i).toNat)
          case atStart => exact ⟨0, rfl, by omega, rfl, Lib.hid rfl⟩
          case round =>
            obtain ⟨m, rfl, hm, rfl, HM⟩ := hrel
            have m0 : (0 : Int) ≤ m := by omega
            by_cases hlm : m < xs.length
            · obtain ⟨b', o', rfl, e0, e1⟩ := RS.out m hlm
              have htk2 := Lib.hid (take_stepS hlm)
              have hmem2 := Lib.hid (getD_memS hlm)
              obtain ⟨x, hx⟩ : ∃ x, xs.getD m mo0 = x := ⟨_, rfl⟩
              have htk2 := Lib.hid (by have h := htk2.out; rw [hx] at h; exact h)
              have hmem2 := Lib.hid (by have h := hmem2.out; rw [hx] at h; exact h)
              rw [hx] at e0 e1
              clear hx
              obtain ⟨s, a⟩ := x
              simp only at e0 e1
              have m1 : (m : Int) < xs.length := by omega
              by_cases hs : 100 < s.size
              · have d3 : (100 : Int) < s.size := by omega
                have HF : R = false := by
                  rw [← HT.out, List.all_eq_false]
                  exact ⟨_, hmem.out, by
                    unfold smF
                    have : xs.all smN = false := by
                      rw [List.all_eq_false]
                      exact ⟨_, hmem2.out, by unfold smN; simp; omega⟩
                    simp [this]⟩
                subst HF
                go_wp2
                go_ret
                exact ⟨rfl, rfl⟩
              · have d3 : ¬ (100 : Int) < s.size := by omega
                have HM2 : Hid ((xs.take (m + 1)).all smN = true) := Lib.hid (by
                  rw [htk2.out, List.all_append, HM.out]
                  simp [smN]
                  omega)
                clear HM htk2 hmem2
                go_wp2
                go_roundw
                case rel => exact ⟨m + 1, by go_num, by omega, by first | rfl | trivial, HM2⟩
                case measure => simp [intOf]; omega
            · have m1 : ¬ (m : Int) < xs.length := by omega
              have HJ2 : Hid ((l.take (j + 1)).all smF = true) := Lib.hid (by
                rw [htk.out, List.all_append, HJ.out]
                have h := HM.out
                rw [List.take_of_length_le (by omega)] at h
                simp [smF, h]
                omega)
              clear HJ htk hmem
              go_wp2
              go_roundw
              case rel => exact ⟨j + 1, by go_num, by omega, by first | rfl | trivial, HJ2⟩
              case measure => simp [intOf]; omega
      · have j1 : ¬ (j : Int) < l.length := by omega
        have HF : R = true := by
          rw [← HT.out]
          have h := HJ.out
          rw [List.take_of_length_le (by omega)] at h
          exact h
        subst HF
        go_wp2
        go_ret
        exact ⟨rfl, rfl⟩
end Go.Proofs.YtbicmlkjonaccaaDoor.Ln


namespace Go.Proofs.YtbicmlkjonaccaaDoor.Ln
open Go.ChangeShapes Go.WideShapes Go.ChangeAt Go.RowKit
open Go.Proofs.YtbicmlkjonaccaaDoor.Nm
set_option linter.unusedVariables false
set_option linter.unusedSimpArgs false
set_option maxRecDepth 8000

theorem cnB_self (k : Int) (xs : List Mo) (eq : Bool) : cnB k xs eq k xs eq = true := by
  unfold cnB
  rw [decide_eq_true (cl_zero.2 ⟨rfl, rfl⟩), beq_self_eq_true]; rfl
set_option maxRecDepth 100000 in
set_option maxHeartbeats 8000000 in
theorem law_cformat (k : Int) (p : Option Addr) (xs : List Mo) (c : Nat) (eq : Bool) (k' : Int) (q : Option Addr) (ys : List Mo) (d : Nat) (eq' : Bool) (w : World) (hn : xs.length ≤ maxLen) (hm : ys.length ≤ maxLen) (RA : Hid (SlM w p xs)) (RB : Hid (SlM w q ys))
    (RX : Hid (∀ i, i < xs.length → (xs.getD i mo0).1.size ≤ maxLen)) (RY : Hid (∀ i, i < xs.length → -9223372036854775808 ≤ (xs.getD i mo0).2 ∧ (xs.getD i mo0).2 ≤ 9223372036854775807)) (k0 : -9223372036854775808 ≤ k) (k1 : k ≤ 9223372036854775807) (hL : Hid (∀ w', Below w.heap.size w w' → LA w')) :
    Calls Tryd.prog 13 #[Cv k p xs.length c eq, Cv k' q ys.length d eq'] w fun e w' => e = .returned (.bool true) ∧ Below w.heap.size w w' := by
  have B0 : Below w.heap.size w (((w.alloc (Obj.cells #[Value.int .i64 k, Value.slice p xs.length c, Value.bool eq] 36)).alloc (Obj.cells #[Value.int .i64 k', Value.slice q ys.length d, Value.bool eq'] 36)).alloc (Obj.cells #[Value.int .i64 k, Value.slice p xs.length c, Value.bool eq, Value.int .i64 k', Value.slice q ys.length d, Value.bool eq'] 36)) := (((Below.refl _ _).alloc (Nat.le_refl _) _).alloc (by simp) _).alloc (by simp; omega) _
  have RAz := Lib.hid (SlM.keep B0 RA.out)
  have RBz := Lib.hid (SlM.keep B0 RB.out)
  have SQ : SlQ (((w.alloc (Obj.cells #[Value.int .i64 k, Value.slice p xs.length c, Value.bool eq] 36)).alloc (Obj.cells #[Value.int .i64 k', Value.slice q ys.length d, Value.bool eq'] 36)).alloc (Obj.cells #[Value.int .i64 k, Value.slice p xs.length c, Value.bool eq, Value.int .i64 k', Value.slice q ys.length d, Value.bool eq'] 36)) (some ⟨w.heap.size + 2, 0, none⟩) [(k, xs, eq), (k', ys, eq')] := fun i hi => by
    rcases i with _ | _ | i
    · exact ⟨w.heap.size + 2, 0, p, c, rfl, by go_cell, by go_cell, by go_cell, RAz.out⟩
    · exact ⟨w.heap.size + 2, 0, q, d, rfl, by go_cell, by go_cell, by go_cell, RBz.out⟩
    · exact absurd (show i + 2 < 2 from hi) (by omega)
  have SM := Lib.hid (small6 (some ⟨w.heap.size + 2, 0, none⟩) [(k, xs, eq), (k', ys, eq')] 2 2 (((w.alloc (Obj.cells #[Value.int .i64 k, Value.slice p xs.length c, Value.bool eq] 36)).alloc (Obj.cells #[Value.int .i64 k', Value.slice q ys.length d, Value.bool eq'] 36)).alloc (Obj.cells #[Value.int .i64 k, Value.slice p xs.length c, Value.bool eq, Value.int .i64 k', Value.slice q ys.length d, Value.bool eq'] 36)) (by simp [maxLen]) (Lib.hid (by intro f hf; simp at hf; rcases hf with rfl | rfl; exact hn; exact hm)) (by decide) (Lib.hid SQ))
  have EX := Lib.hid fun w h => exam6 w h
  have SB := Lib.hid fun w h1 h2 => sameB k p xs c eq k' q ys d eq' w hn hm h1 h2
  have CB := Lib.hid fun w h1 h2 => conB k p xs c eq k' q ys d eq' w hn hm h1 h2
  have SA := Lib.hid fun w h1 h2 => sameB k p xs c eq k p xs c eq w hn hn h1 h2
  rw [cnB_self] at SA
  generalize hcb : cnB k xs eq k' ys eq' = v at SB CB
  clear hcb
  cases hsm : smQ 2 [(k, xs, eq), (k', ys, eq')]
  · rw [hsm] at SM
    clear hsm SQ
    unfold Cv at *
    go_enter Tryd.func13, Tryd.ntmps13
    go_wp2_with (first | (go_at_call 20; refine SM.out.mono ?_; rintro e w1 ⟨rfl, rfl⟩) | (go_at_call 21; refine (EX.out _ (Lib.hid fun w' h => hL.out _ (B0.trans (h.mono B0.size)))).mono ?_; rintro e w2 ⟨rfl, hb⟩))
    go_ret
    exact ⟨rfl, B0.trans (hb.mono B0.size)⟩
  · have h40 : xs.length ≤ 40 := by
      unfold smQ at hsm
      simp [smF] at hsm
      omega
    have CF1 := Lib.hid fun w h l => cfmt1 k p xs c eq w h40 h RX RY k0 k1 l
    have CF2 := Lib.hid fun w h => cfmt2 k p xs c eq w h40 h RX RY k0 k1
    generalize cfm k xs eq = F at CF1 CF2
    rw [hsm] at SM
    clear hsm SQ
    unfold Cv at *
    go_enter Tryd.func13, Tryd.ntmps13
    go_wp2_with (go_at_call 20; refine SM.out.mono ?_; rintro e w1 ⟨rfl, rfl⟩)
    have a0 : (((w.alloc (Obj.cells #[Value.int .i64 k, Value.slice p xs.length c, Value.bool eq] 36)).alloc (Obj.cells #[Value.int .i64 k', Value.slice q ys.length d, Value.bool eq'] 36)).alloc (Obj.cells #[Value.int .i64 k, Value.slice p xs.length c, Value.bool eq, Value.int .i64 k', Value.slice q ys.length d, Value.bool eq'] 36)).cell? ⟨w.heap.size, 0, none⟩ = some (.int .i64 k) := by go_cell
    have a1 : (((w.alloc (Obj.cells #[Value.int .i64 k, Value.slice p xs.length c, Value.bool eq] 36)).alloc (Obj.cells #[Value.int .i64 k', Value.slice q ys.length d, Value.bool eq'] 36)).alloc (Obj.cells #[Value.int .i64 k, Value.slice p xs.length c, Value.bool eq, Value.int .i64 k', Value.slice q ys.length d, Value.bool eq'] 36)).cell? ⟨w.heap.size, 1, none⟩ = some (.slice p xs.length c) := by go_cell
    have a2 : (((w.alloc (Obj.cells #[Value.int .i64 k, Value.slice p xs.length c, Value.bool eq] 36)).alloc (Obj.cells #[Value.int .i64 k', Value.slice q ys.length d, Value.bool eq'] 36)).alloc (Obj.cells #[Value.int .i64 k, Value.slice p xs.length c, Value.bool eq, Value.int .i64 k', Value.slice q ys.length d, Value.bool eq'] 36)).cell? ⟨w.heap.size, 2, none⟩ = some (.bool eq) := by go_cell
    have b0 : (((w.alloc (Obj.cells #[Value.int .i64 k, Value.slice p xs.length c, Value.bool eq] 36)).alloc (Obj.cells #[Value.int .i64 k', Value.slice q ys.length d, Value.bool eq'] 36)).alloc (Obj.cells #[Value.int .i64 k, Value.slice p xs.length c, Value.bool eq, Value.int .i64 k', Value.slice q ys.length d, Value.bool eq'] 36)).cell? ⟨w.heap.size + 1, 0, none⟩ = some (.int .i64 k') := by go_cell
    have b1 : (((w.alloc (Obj.cells #[Value.int .i64 k, Value.slice p xs.length c, Value.bool eq] 36)).alloc (Obj.cells #[Value.int .i64 k', Value.slice q ys.length d, Value.bool eq'] 36)).alloc (Obj.cells #[Value.int .i64 k, Value.slice p xs.length c, Value.bool eq, Value.int .i64 k', Value.slice q ys.length d, Value.bool eq'] 36)).cell? ⟨w.heap.size + 1, 1, none⟩ = some (.slice q ys.length d) := by go_cell
    have b2 : (((w.alloc (Obj.cells #[Value.int .i64 k, Value.slice p xs.length c, Value.bool eq] 36)).alloc (Obj.cells #[Value.int .i64 k', Value.slice q ys.length d, Value.bool eq'] 36)).alloc (Obj.cells #[Value.int .i64 k, Value.slice p xs.length c, Value.bool eq, Value.int .i64 k', Value.slice q ys.length d, Value.bool eq'] 36)).cell? ⟨w.heap.size + 1, 2, none⟩ = some (.bool eq') := by go_cell
    have RA1 := RAz
    have RB1 := RBz
    have HB := Lib.hid B0
    clear SM
    generalize (((w.alloc (Obj.cells #[Value.int .i64 k, Value.slice p xs.length c, Value.bool eq] 36)).alloc (Obj.cells #[Value.int .i64 k', Value.slice q ys.length d, Value.bool eq'] 36)).alloc (Obj.cells #[Value.int .i64 k, Value.slice p xs.length c, Value.bool eq, Value.int .i64 k', Value.slice q ys.length d, Value.bool eq'] 36)) = z at *
    have HS : Hid (∀ u u' : World, (u.cell? ⟨w.heap.size, 0, none⟩ = some (.int .i64 k) ∧ u.cell? ⟨w.heap.size, 1, none⟩ = some (.slice p xs.length c) ∧ u.cell? ⟨w.heap.size, 2, none⟩ = some (.bool eq) ∧ u.cell? ⟨w.heap.size + 1, 0, none⟩ = some (.int .i64 k') ∧ u.cell? ⟨w.heap.size + 1, 1, none⟩ = some (.slice q ys.length d) ∧ u.cell? ⟨w.heap.size + 1, 2, none⟩ = some (.bool eq') ∧ Below z.heap.size z u) → Below u.heap.size u u' → (u'.cell? ⟨w.heap.size, 0, none⟩ = some (.int .i64 k) ∧ u'.cell? ⟨w.heap.size, 1, none⟩ = some (.slice p xs.length c) ∧ u'.cell? ⟨w.heap.size, 2, none⟩ = some (.bool eq) ∧ u'.cell? ⟨w.heap.size + 1, 0, none⟩ = some (.int .i64 k') ∧ u'.cell? ⟨w.heap.size + 1, 1, none⟩ = some (.slice q ys.length d) ∧ u'.cell? ⟨w.heap.size + 1, 2, none⟩ = some (.bool eq') ∧ Below z.heap.size z u')) := Lib.hid (fun u u' h hb => ⟨Rg.keep hb (World.block_lt_of_cell? _ _ h.1) h.1, Rg.keep hb (World.block_lt_of_cell? _ _ h.2.1) h.2.1, Rg.keep hb (World.block_lt_of_cell? _ _ h.2.2.1) h.2.2.1, Rg.keep hb (World.block_lt_of_cell? _ _ h.2.2.2.1) h.2.2.2.1, Rg.keep hb (World.block_lt_of_cell? _ _ h.2.2.2.2.1) h.2.2.2.2.1, Rg.keep hb (World.block_lt_of_cell? _ _ h.2.2.2.2.2.1) h.2.2.2.2.2.1, h.2.2.2.2.2.2.trans (hb.mono h.2.2.2.2.2.2.size)⟩)
    refine Rk.begin (S := fun wS => wS.cell? ⟨w.heap.size, 0, none⟩ = some (.int .i64 k) ∧ wS.cell? ⟨w.heap.size, 1, none⟩ = some (.slice p xs.length c) ∧ wS.cell? ⟨w.heap.size, 2, none⟩ = some (.bool eq) ∧ wS.cell? ⟨w.heap.size + 1, 0, none⟩ = some (.int .i64 k') ∧ wS.cell? ⟨w.heap.size + 1, 1, none⟩ = some (.slice q ys.length d) ∧ wS.cell? ⟨w.heap.size + 1, 2, none⟩ = some (.bool eq') ∧ Below z.heap.size z wS) 22 (by kernel_rfl) ⟨a0, a1, a2, b0, b1, b2, (Below.refl _ _).drew⟩ (fun hHeld => ?_)
    refine Rk.take [22] (i := 0) (v := ?_) rfl (by kernel_rfl) (by kernel_rfl) (by kernel_rfl) (by kernel_rfl) (by kernel_rfl) (fun _ _ _ h => h) (Or.inl ⟨by kernel_rfl, ?_⟩) (by assumption) ?_
    rotate_left
    · ((intro w hSw; (try dsimp only at hSw); go_simp) <;> with_reducible rfl)
    try simp only [Act.put, List.setIfInBounds_toArray, List.set_cons_zero, List.set_cons_succ]
    refine Rk.take [22] (i := 2) (v := ?_) rfl (by kernel_rfl) (by kernel_rfl) (by kernel_rfl) (by kernel_rfl) (by kernel_rfl) (fun _ _ _ h => h) (Or.inl ⟨by kernel_rfl, ?_⟩) (by assumption) ?_
    rotate_left
    · ((intro w hSw; (try dsimp only at hSw); go_simp) <;> with_reducible rfl)
    try simp only [Act.put, List.setIfInBounds_toArray, List.set_cons_zero, List.set_cons_succ]
    refine Rk.one (i := 1) (by kernel_rfl) rfl (fun KK hK => ?_)
    rw [if_pos (by kernel_rfl)]
    go_simp
    ((with_reducible refine (CF1.out _ (Lib.hid (SlM.keep (hHeld.2.2.2.2.2.2) RA1.out)) (hL.out _ (HB.out.trans ((hHeld.2.2.2.2.2.2).mono HB.out.size)))).mono ?_); rintro e u ⟨rfl, hb⟩)
    first | (refine hK.out _ _ (fun _ => HS.out _ _ hHeld (hb)) (fun hHeld => ?_)) | (refine hK.out _ _ (HS.out _ _ hHeld (hb)) (fun hHeld => ?_)) | (go_wp2_with fail; refine hK.out _ _ (HS.out _ _ hHeld (hb)) (fun hHeld => ?_))
    clear hK KK
    refine Rk.one (i := 3) (by kernel_rfl) rfl (fun KK hK => ?_)
    rw [if_pos (by kernel_rfl)]
    go_simp
    ((with_reducible refine (CF2.out _ (Lib.hid (SlM.keep (hHeld.2.2.2.2.2.2) RA1.out))).mono ?_); rintro e u ⟨rfl, hb⟩)
    first | (refine hK.out _ _ (fun _ => HS.out _ _ hHeld (hb)) (fun hHeld => ?_)) | (refine hK.out _ _ (HS.out _ _ hHeld (hb)) (fun hHeld => ?_)) | (go_wp2_with fail; refine hK.out _ _ (HS.out _ _ hHeld (hb)) (fun hHeld => ?_))
    clear hK KK
    refine Rk.takeP (i := 4) (v := ?_) rfl (by kernel_rfl) (by kernel_rfl) (by kernel_rfl) (by kernel_rfl) (fun _ _ _ h => h) (Or.inl ⟨by kernel_rfl, ?_⟩) (by assumption) ?_
    rotate_left
    · ((intro w hSw; go_simp) <;> with_reducible rfl)
    try simp only [Act.put, List.setIfInBounds_toArray, List.set_cons_zero, List.set_cons_succ]
    refine Rk.takeP (i := 5) (v := ?_) rfl (by kernel_rfl) (by kernel_rfl) (by kernel_rfl) (by kernel_rfl) (fun _ _ _ h => h) (Or.inl ⟨by kernel_rfl, ?_⟩) (by assumption) ?_
    rotate_left
    · ((intro w hSw; go_simp) <;> with_reducible rfl)
    try simp only [Act.put, List.setIfInBounds_toArray, List.set_cons_zero, List.set_cons_succ]
    refine Rk.take [22] (i := 6) (v := ?_) rfl (by kernel_rfl) (by kernel_rfl) (by kernel_rfl) (by kernel_rfl) (by kernel_rfl) (fun _ _ _ h => h) (Or.inl ⟨by kernel_rfl, ?_⟩) (by assumption) ?_
    rotate_left
    · ((intro w hSw; (try dsimp only at hSw); go_simp) <;> with_reducible rfl)
    try simp only [Act.put, List.setIfInBounds_toArray, List.set_cons_zero, List.set_cons_succ]
    refine Rk.take [22] (i := 7) (v := ?_) rfl (by kernel_rfl) (by kernel_rfl) (by kernel_rfl) (by kernel_rfl) (by kernel_rfl) (fun _ _ _ h => h) (Or.inl ⟨by kernel_rfl, ?_⟩) (by assumption) ?_
    rotate_left
    · ((intro w hSw; (try dsimp only at hSw); go_simp) <;> with_reducible rfl)
    try simp only [Act.put, List.setIfInBounds_toArray, List.set_cons_zero, List.set_cons_succ]
    refine Rk.take [22] (i := 9) (v := ?_) rfl (by kernel_rfl) (by kernel_rfl) (by kernel_rfl) (by kernel_rfl) (by kernel_rfl) (fun _ _ _ h => h) (Or.inl ⟨by kernel_rfl, ?_⟩) (by assumption) ?_
    rotate_left
    · ((intro w hSw; (try dsimp only at hSw); go_simp) <;> with_reducible rfl)
    try simp only [Act.put, List.setIfInBounds_toArray, List.set_cons_zero, List.set_cons_succ]
    refine Rk.take [22] (i := 10) (v := ?_) rfl (by kernel_rfl) (by kernel_rfl) (by kernel_rfl) (by kernel_rfl) (by kernel_rfl) (fun _ _ _ h => h) (Or.inl ⟨by kernel_rfl, ?_⟩) (by assumption) ?_
    rotate_left
    · ((intro w hSw; (try dsimp only at hSw); go_simp) <;> with_reducible rfl)
    try simp only [Act.put, List.setIfInBounds_toArray, List.set_cons_zero, List.set_cons_succ]
    refine Rk.one (i := 8) (by kernel_rfl) rfl (fun KK hK => ?_)
    rw [if_pos (by kernel_rfl)]
    go_simp
    ((with_reducible refine (SB.out _ (Lib.hid (SlM.keep (hHeld.2.2.2.2.2.2) RA1.out)) (Lib.hid (SlM.keep (hHeld.2.2.2.2.2.2) RB1.out))).mono ?_); rintro e u ⟨rfl, hb⟩)
    first | (refine hK.out _ _ (fun _ => HS.out _ _ hHeld (hb)) (fun hHeld => ?_)) | (refine hK.out _ _ (HS.out _ _ hHeld (hb)) (fun hHeld => ?_)) | (go_wp2_with fail; refine hK.out _ _ (HS.out _ _ hHeld (hb)) (fun hHeld => ?_))
    clear hK KK
    refine Rk.one (i := 11) (by kernel_rfl) rfl (fun KK hK => ?_)
    rw [if_pos (by kernel_rfl)]
    go_simp
    ((with_reducible refine (CB.out _ (Lib.hid (SlM.keep (hHeld.2.2.2.2.2.2) RA1.out)) (Lib.hid (SlM.keep (hHeld.2.2.2.2.2.2) RB1.out))).mono ?_); rintro e u ⟨rfl, hb⟩)
    first | (refine hK.out _ _ (fun _ => HS.out _ _ hHeld (hb)) (fun hHeld => ?_)) | (refine hK.out _ _ (HS.out _ _ hHeld (hb)) (fun hHeld => ?_)) | (go_wp2_with fail; refine hK.out _ _ (HS.out _ _ hHeld (hb)) (fun hHeld => ?_))
    clear hK KK
    refine Rk.takeP (i := 12) (v := ?_) rfl (by kernel_rfl) (by kernel_rfl) (by kernel_rfl) (by kernel_rfl) (fun _ _ _ h => h) (Or.inl ⟨by kernel_rfl, ?_⟩) (by assumption) ?_
    rotate_left
    · ((intro w hSw; go_simp) <;> with_reducible rfl)
    try simp only [Act.put, List.setIfInBounds_toArray, List.set_cons_zero, List.set_cons_succ]
    refine Rk.takeP (i := 13) (v := ?_) rfl (by kernel_rfl) (by kernel_rfl) (by kernel_rfl) (by kernel_rfl) (fun _ _ _ h => h) (Or.inl ⟨by kernel_rfl, ?_⟩) (by assumption) ?_
    rotate_left
    · ((intro w hSw; go_simp) <;> with_reducible rfl)
    try simp only [Act.put, List.setIfInBounds_toArray, List.set_cons_zero, List.set_cons_succ]
    refine Rk.takeP (i := 14) (v := ?_) rfl (by kernel_rfl) (by kernel_rfl) (by kernel_rfl) (by kernel_rfl) (fun _ _ _ h => h) (Or.inl ⟨by kernel_rfl, ?_⟩) (by assumption) ?_
    rotate_left
    · ((intro w hSw; go_simp) <;> with_reducible rfl)
    try simp only [Act.put, List.setIfInBounds_toArray, List.set_cons_zero, List.set_cons_succ]
    refine Rk.take [22] (i := 15) (v := ?_) rfl (by kernel_rfl) (by kernel_rfl) (by kernel_rfl) (by kernel_rfl) (by kernel_rfl) (fun _ _ _ h => h) (Or.inl ⟨by kernel_rfl, ?_⟩) (by assumption) ?_
    rotate_left
    · ((intro w hSw; (try dsimp only at hSw); go_simp) <;> with_reducible rfl)
    try simp only [Act.put, List.setIfInBounds_toArray, List.set_cons_zero, List.set_cons_succ]
    refine Rk.take [22] (i := 16) (v := ?_) rfl (by kernel_rfl) (by kernel_rfl) (by kernel_rfl) (by kernel_rfl) (by kernel_rfl) (fun _ _ _ h => h) (Or.inl ⟨by kernel_rfl, ?_⟩) (by assumption) ?_
    rotate_left
    · ((intro w hSw; (try dsimp only at hSw); go_simp) <;> with_reducible rfl)
    try simp only [Act.put, List.setIfInBounds_toArray, List.set_cons_zero, List.set_cons_succ]
    refine Rk.one (i := 17) (by kernel_rfl) rfl (fun KK hK => ?_)
    rw [if_pos (by kernel_rfl)]
    go_simp
    ((with_reducible refine (SA.out _ (Lib.hid (SlM.keep (hHeld.2.2.2.2.2.2) RA1.out)) (Lib.hid (SlM.keep (hHeld.2.2.2.2.2.2) RA1.out))).mono ?_); rintro e u ⟨rfl, hb⟩)
    first | (refine hK.out _ _ (fun _ => HS.out _ _ hHeld (hb)) (fun hHeld => ?_)) | (refine hK.out _ _ (HS.out _ _ hHeld (hb)) (fun hHeld => ?_)) | (go_wp2_with fail; refine hK.out _ _ (HS.out _ _ hHeld (hb)) (fun hHeld => ?_))
    clear hK KK
    refine Rk.takeP (i := 18) (v := ?_) rfl (by kernel_rfl) (by kernel_rfl) (by kernel_rfl) (by kernel_rfl) (fun _ _ _ h => h) (Or.inl ⟨by kernel_rfl, ?_⟩) (by assumption) ?_
    rotate_left
    · ((intro w hSw; go_simp) <;> with_reducible rfl)
    try simp only [Act.put, List.setIfInBounds_toArray, List.set_cons_zero, List.set_cons_succ]
    refine Rk.takeP (i := 19) (v := ?_) rfl (by kernel_rfl) (by kernel_rfl) (by kernel_rfl) (by kernel_rfl) (fun _ _ _ h => h) (Or.inl ⟨by kernel_rfl, ?_⟩) (by assumption) ?_
    rotate_left
    · ((intro w hSw; go_simp) <;> with_reducible rfl)
    try simp only [Act.put, List.setIfInBounds_toArray, List.set_cons_zero, List.set_cons_succ]
    refine Rk.one (i := 20) (by kernel_rfl) rfl (fun KK hK => ?_)
    rw [if_pos (by kernel_rfl)]
    go_simp
    ((with_reducible refine (exam6 _ (Lib.hid fun w' h => hL.out _ ((HB.out.trans ((hHeld.2.2.2.2.2.2).mono HB.out.size)).trans (h.mono (HB.out.trans ((hHeld.2.2.2.2.2.2).mono HB.out.size)).size)))).mono ?_); rintro e u ⟨rfl, hb⟩)
    first | (refine hK.out _ _ (fun _ => HS.out _ _ hHeld (hb)) (fun hHeld => ?_)) | (refine hK.out _ _ (HS.out _ _ hHeld (hb)) (fun hHeld => ?_)) | (go_wp2_with fail; refine hK.out _ _ (HS.out _ _ hHeld (hb)) (fun hHeld => ?_))
    clear hK KK
    refine Rk.takeP (i := 21) (v := ?_) rfl (by kernel_rfl) (by kernel_rfl) (by kernel_rfl) (by kernel_rfl) (fun _ _ _ h => h) (Or.inl ⟨by kernel_rfl, ?_⟩) (by assumption) ?_
    rotate_left
    · ((intro w hSw; go_simp) <;> with_reducible rfl)
    try simp only [Act.put, List.setIfInBounds_toArray, List.set_cons_zero, List.set_cons_succ]
    refine Rk.tail [22] [_] (by kernel_rfl) (by kernel_rfl) rfl (by decide) ?_

    have KZ := (HB.out.trans ((hHeld.2.2.2.2.2.2).mono HB.out.size))
    go_wp2_with fail
    go_ret
    exact ⟨rfl, KZ⟩
end Go.Proofs.YtbicmlkjonaccaaDoor.Ln
