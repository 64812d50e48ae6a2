/- Boxes: Point. -/
import Derived.Test.YtkdfidjoighknaaB3
namespace Go.Proofs.Ytkdfidjoighknaa.Bx
open Go.ChangeShapes Go.WideShapes Go.ChangeAt Go.RowKit
set_option linter.unusedVariables false
set_option linter.unusedSimpArgs false
theorem World.below_drewN' {B : Nat} {w u : World} (h : Below B w u) (n : Nat) : Below B w (u.drewN n) := ⟨h.os, h.tape, h.output, h.size, h.block⟩
/-- The answer of Point. -/
def pB (zs : List Int) (a : Int) : Bool := decide (0 ≤ a) && decide (a < cnt zs)
def pP (zs : List Int) (a : Int) : List Int := if pB zs a = true then pt zs a else []
theorem pB_yes {zs : List Int} {a : Int} (h : pB zs a = true) : 0 ≤ a ∧ a < cnt zs := by
  unfold pB at h
  rw [Bool.and_eq_true] at h
  exact ⟨of_decide_eq_true h.1, of_decide_eq_true h.2⟩
theorem pB_of {zs : List Int} {a : Int} (h : 0 ≤ a) (h2 : a < cnt zs) : pB zs a = true := by
  unfold pB
  rw [decide_eq_true h, decide_eq_true h2]; rfl
theorem dr_count {p : Option Addr} {zs : List Int} {c : Nat} {w : World} (hn : zs.length ≤ maxLen) (RA : Hid (SlI w p zs)) : Calls Try.prog 17 #[.slice p zs.length c] w (DR (.int .i64 (cnt zs)) w) :=
  (count1 p zs c w hn RA).mono fun e w' ⟨h1, h2⟩ => ⟨h1, 0, h2.symm⟩
set_option maxHeartbeats 8000000 in
theorem point1_ok (p : Option Addr) (zs : List Int) (c : Nat) (a0 : Int) (w : World) (RA : Hid (SlI w p zs)) (h0 : 0 ≤ a0) (h1 : a0 < cnt zs) :
    Calls Try.prog 19 #[.slice p zs.length c, .int .i64 a0] w (PW (pt zs a0) true w) := by
  obtain ⟨hb, h6, hl, hcn, p0, hS⟩ := cnt_pos h0 h1
  have a2 : a0 < sp zs := by rw [← hcn]; exact h1
  have hD : ∀ k, 1 ≤ sp (zs.drop k) := fun k => sp_pos (any_drop hl k)
  have C := Lib.hid (dr_count (c := c) (by unfold maxLen; omega) RA)
  rw [hcn] at C
  obtain ⟨i0, hi, hz0, hz1, hz2⟩ := info_parts info3
  have HD := Lib.hid hD
  have HL := Lib.hid hl
  have hle : a0 ≤ 65535 := by omega
  clear hD hl hb hcn h1
  generalize hQ : sp zs = P at C a2 hS p0
  clear hQ
  have k1 : decide (a0 < 0) = false := by simp <;> omega
  have k2 : decide (P ≤ a0) = false := by simp <;> omega
  obtain ⟨n, hn⟩ : ∃ n, zs.length = n := ⟨_, rfl⟩
  have HN := Lib.hid hn
  rw [hn] at C h6 ⊢
  clear hn
  go_enter Try.func19, Try.ntmps19
  go_wp2_with fail
  refine C.out.mono ?_
  rintro e w' ⟨rfl, md, rfl⟩
  have KU := Lib.hid (World.below_drewN' (Below.refl w.heap.size w) md)
  have RU := Lib.hid (SlI.keep KU.out RA.out)
  generalize w.drewN md = u at *
  clear C RA
  go_wp2_with (refine wpList_make_full _ rfl _ _ 22 rfl u.heap.size 3 i0 (.int .i64 0) 1 Try.underlying22 hi hz0 hz1 .i64 .i64 _ _ n rfl rfl rfl rfl (by rw [hz2]; omega) (by unfold maxLen; omega) (Nat.le_refl _) ?_; intro w1 hown hg; have hB := below_own (Nat.le_refl _) hg; have hs := hg.size; clear hg hi hz0 hz1 hz2 i0)
  have hown2 : Hid (w1.ownsRow u.heap.size 3 1 (.slice (some ⟨u.heap.size, 0, none⟩) n n) n ((List.replicate n (0 : Int)).map (Value.int .i64))) := Lib.hid (by
    have h := hown
    rw [show (Value.int IntKind.i64 0).cells = #[.int .i64 0] from rfl, toList_madeCells_one, Nat.mul_one] at h
    rw [List.map_replicate]
    exact h)
  clear hown k1 k2
  go_loopw [1, 7] (fun s i wr => ∃ (m : Nat) (S : Int) (xs : List Int), s = .int .i64 S ∧ i = .int .i64 ((m : Int) - 1) ∧ m ≤ n ∧ Hid (S = a0 / sp (zs.drop m)) ∧ 0 ≤ S ∧ S ≤ 65535 ∧ xs.length = n ∧ Hid (∀ j, m ≤ j → j < n → xs.getD j 0 = (pt zs a0).getD j 0) ∧ Below u.heap.size u wr ∧ u.heap.size < wr.heap.size ∧
    Hid (wr.ownsRow u.heap.size 3 1 (.slice (some ⟨u.heap.size, 0, none⟩) n n) n (xs.map (Value.int .i64)))) (fun _ i _ => (intOf i + 1).toNat)
  case atStart =>
    have hlt : u.heap.size < w1.heap.size := (hown2.out.lt u.heap.size rfl).2
    exact ⟨n, a0, _, rfl, rfl, Nat.le_refl _, Lib.hid (by rw [List.drop_of_length_le (by rw [HN.out]; exact Nat.le_refl _)]; exact (Int.ediv_one _).symm), by omega, by omega, by simp, Lib.hid fun j h1 h2 => by omega, hB, hlt, hown2⟩
  case round =>
    obtain ⟨m, S, xs, rfl, rfl, hm, hS2, s0, s1, hx, hX, KB, lt, hO⟩ := hrel
    clear hown2 hB hs
    cases m with
    | zero =>
      have e : xs = pt zs a0 := by
        refine List.ext_getElem (by rw [pt_length, hx, HN.out]) fun j h1 h2 => ?_
        have h := hX.out j (by omega) (by omega)
        rw [getD_at h1, getD_at h2] at h
        exact h
      have HE := Lib.hid e
      clear e
      go_wp2
      refine bodyPost_ret (v := .tuple #[.slice (some ⟨u.heap.size, 0, none⟩) n n, .bool true]) (by simp [results, Try.results19, go_sem]) rfl ⟨_, rfl, KU.out.trans (KB.mono KU.out.size), ?_⟩
      rw [← HE.out, show xs.length = n from hx]
      exact hO.out.mono KU.out.size
    | succ m =>
      rw [show ((m + 1 : Nat) : Int) - 1 = (m : Int) by omega]
      obtain ⟨b, o, rfl, hc⟩ := RU.out m (by rw [HN.out]; omega)
      have hb : b < u.heap.size := by have := World.block_lt_of_cell? u _ hc; simpa using this
      have hc := Rg.keep' KB hb hc
      have z1 := pos_of HL.out (k := m) (by rw [HN.out]; omega)
      have hd := drop_cons (zs := zs) (k := m) (by rw [HN.out]; omega)
      have hpt := pt_get (zs := zs) (a := a0) (j := m) (by rw [HN.out]; omega)
      obtain ⟨z, hz⟩ : ∃ z, zs.getD m 0 = z := ⟨_, rfl⟩
      rw [hz] at hc z1 hd hpt
      rw [← hS2.out] at hpt
      have hT0 : 0 ≤ S / z := Int.ediv_nonneg s0 (by omega)
      have hT1 : S / z ≤ S := Int.ediv_le_self z s0
      have hR0 : 0 ≤ S % z := Int.emod_nonneg S (by omega)
      have hsp : S / z = a0 / sp (zs.drop m) := by rw [hd, hS2.out]; exact pt_step (HD.out (m + 1))
      obtain ⟨r, hr⟩ : ∃ r, S % z = r := ⟨_, rfl⟩
      obtain ⟨T, hT⟩ : ∃ T, S / z = T := ⟨_, rfl⟩
      rw [hr] at hpt hR0
      rw [hT] at hT0 hT1 hsp
      have oc := cells_of hO.out (j := m) (by omega) hx
      have of := hO.out.frozenAt m
      have oS := Lib.hid (hO.out.stored m (.int .i64 r)).1
      have ne : ¬ u.heap.size = b := by omega
      have ne2 : ¬ b = u.heap.size := by omega
      have hc2 : (wr.setCell ⟨u.heap.size, m, none⟩ (.int .i64 r)).cell? ⟨b, o + m, none⟩ = some (.int .i64 z) := by rw [World.cell?_setCell_far _ _ _ _ ne]; exact hc
      have HSP := Lib.hid hsp
      have HPT := Lib.hid hpt
      have mlt : m < n := by omega
      have mi : (0 : Int) ≤ m := by omega
      have mi2 : (m : Int) < n := by omega
      have zz : (z == 0) = false := by simp <;> omega
      clear hz hd hsp hm hpt
      go_wp2
      go_roundw
      case rel =>
        refine ⟨m, T, xs.set m r, by first | rfl | rw [hT], rfl, by omega, HSP, by omega, by omega, by simp [hx], Lib.hid fun j h1 h2 => ?_, Below.setCell KB (Nat.le_refl _) _, by simpa using lt, Lib.hid (by rw [List.map_set]; exact oS.out)⟩
        by_cases hj : j = m
        · subst hj
          rw [getD_at (by simp [hx]; omega), List.getElem_set_self]
          exact HPT.out.symm
        · rw [getD_at (by simp [hx]; omega), List.getElem_set_ne (by omega), ← getD_at (by omega)]
          exact hX.out j (by omega) h2
      case measure => simp [intOf]
set_option maxHeartbeats 4000000 in
theorem point1 (p : Option Addr) (zs : List Int) (c : Nat) (a0 : Int) (w : World) (hn : zs.length ≤ maxLen) (RA : Hid (SlI w p zs)) :
    Calls Try.prog 19 #[.slice p zs.length c, .int .i64 a0] w (PW (pP zs a0) (pB zs a0) w) := by
  by_cases h : pB zs a0 = true
  · obtain ⟨h0, h1⟩ := pB_yes h
    rw [show pP zs a0 = pt zs a0 from if_pos h, h]
    exact point1_ok p zs c a0 w RA h0 h1
  · rw [show pP zs a0 = [] from if_neg h, show pB zs a0 = false by simpa using h]
    have C := Lib.hid (dr_count (c := c) hn RA)
    obtain ⟨P, hP⟩ : ∃ P, cnt zs = P := ⟨_, rfl⟩
    have hno : a0 < 0 ∨ P ≤ a0 := by
      rcases Int.lt_or_le a0 0 with h2 | h2
      · exact .inl h2
      · refine .inr ?_
        rcases Int.lt_or_le a0 P with h3 | h3
        · exact absurd (pB_of h2 (by rw [hP]; exact h3)) h
        · exact h3
    rw [hP] at C
    clear h hP
    unfold maxLen at hn
    by_cases h0 : a0 < 0
    · have k1 : decide (a0 < 0) = true := decide_eq_true h0
      clear hno
      go_enter Try.func19, Try.ntmps19
      go_wp2
      refine bodyPost_ret (v := .tuple #[.slice none 0 0, .bool false]) (by simp [results, Try.results19, go_sem]) rfl ⟨_, rfl, Below.refl _ _, World.ownsRow_nil _ _ _ _⟩
    · have k1 : decide (a0 < 0) = false := decide_eq_false h0
      have k2 : decide (P ≤ a0) = true := decide_eq_true (by omega)
      clear hno
      go_enter Try.func19, Try.ntmps19
      go_wp2_with fail
      refine C.out.mono ?_
      rintro e w' ⟨rfl, md, rfl⟩
      have KU := Lib.hid (World.below_drewN' (Below.refl w.heap.size w) md)
      generalize w.drewN md = u at *
      go_wp2
      refine bodyPost_ret (v := .tuple #[.slice none 0 0, .bool false]) (by simp [results, Try.results19, go_sem]) rfl ⟨_, rfl, KU.out, World.ownsRow_nil _ _ _ _⟩
end Go.Proofs.Ytkdfidjoighknaa.Bx
