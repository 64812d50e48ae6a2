/- Point. -/
import Derived.Test.YtjpcpdaokgkaoaaV12
import Derived.Deep.Onto
namespace Go.Proofs.Ytjpcpdaokgkaoaa.Sh
open Go.ChangeShapes Go.WideShapes Go.ChangeAt Go.RowKit
set_option linter.unusedVariables false

set_option maxHeartbeats 4000000 in
theorem c24_bad (p : Option Addr) (zs : List Int) (c : Nat) (a0 : Int) (w : World) (hn : zs.length ≤ maxLen) (RA : Hid (SlI w p zs)) (hp : pA zs a0 = false) :
    Calls Try.prog 24 #[.slice p zs.length c, .int .i64 a0] w (PW [] false w) := by
  have C := Lib.hid (c17 p zs c w hn RA)
  unfold pA at hp
  have hp := of_decide_eq_false hp
  generalize hQ : sz zs = P at C hp
  clear hQ
  by_cases h0 : a0 < 0
  · have k1 : decide (a0 < 0) = true := by simpa using h0
    clear hp
    go_enter Try.func24, Try.ntmps24
    go_wp2
    refine bodyPost_ret (v := .tuple #[.slice none 0 0, .bool false]) (by simp [results, Try.results24, go_sem]) rfl ⟨_, rfl, Below.refl _ _, World.ownsRow_nil _ _ _ _⟩
  · have k1 : decide (a0 < 0) = false := by simpa using h0
    have k2 : decide (P ≤ a0) = true := by simp <;> omega
    clear hp
    go_enter Try.func24, Try.ntmps24
    go_wp2_with (go_at_call 17; refine (C.out).mono ?_; rintro e w' ⟨rfl, rfl⟩)
    refine bodyPost_ret (v := .tuple #[.slice none 0 0, .bool false]) (by simp [results, Try.results24, go_sem]) rfl ⟨_, rfl, Below.refl _ _, World.ownsRow_nil _ _ _ _⟩
theorem c24 (p : Option Addr) (zs : List Int) (c : Nat) (a0 : Int) (w : World) (hn : zs.length ≤ maxLen) (RA : Hid (SlI w p zs)) :
    Calls Try.prog 24 #[.slice p zs.length c, .int .i64 a0] w (PW (pL zs a0) (pA zs a0) w) := by
  unfold pL
  by_cases h : pA zs a0 = true
  · rw [if_pos h, h]; exact c24_ok p zs c a0 w RA h
  · rw [if_neg h, show pA zs a0 = false by simpa using h]; exact c24_bad p zs c a0 w hn RA (by simpa using h)
set_option maxHeartbeats 4000000 in
theorem c23_bad (p : Option Addr) (zs : List Int) (c : Nat) (a0 : Int) (w : World) (hn : zs.length ≤ maxLen) (RA : Hid (SlI w p zs)) (hp : pA zs a0 = false) :
    Calls Try.prog 23 #[.slice p zs.length c, .int .i64 a0] w (PW [] false w) := by
  have C := Lib.hid (c16 p zs c w hn RA)
  unfold pA at hp
  have hp := of_decide_eq_false hp
  generalize hQ : sz zs = P at C hp
  clear hQ
  by_cases h0 : a0 < 0
  · have k1 : decide (a0 < 0) = true := by simpa using h0
    clear hp
    go_enter Try.func23, Try.ntmps23
    go_wp2
    refine bodyPost_ret (v := .tuple #[.slice none 0 0, .bool false]) (by simp [results, Try.results23, go_sem]) rfl ⟨_, rfl, Below.refl _ _, World.ownsRow_nil _ _ _ _⟩
  · have k1 : decide (a0 < 0) = false := by simpa using h0
    have k2 : decide (P ≤ a0) = true := by simp <;> omega
    clear hp
    go_enter Try.func23, Try.ntmps23
    go_wp2_with (go_at_call 16; refine (C.out).mono ?_; rintro e w' ⟨rfl, rfl⟩)
    refine bodyPost_ret (v := .tuple #[.slice none 0 0, .bool false]) (by simp [results, Try.results23, go_sem]) rfl ⟨_, rfl, Below.refl _ _, World.ownsRow_nil _ _ _ _⟩
theorem cell56 {w : World} {base g n cap j : Nat} {t : TypeId} {xs : List Int} (h : w.ownsRow base t 1 (.slice (some ⟨g, 0, none⟩) n cap) n (xs.map (Value.int .i64))) (hj : j < n) (hx : xs.length = n) :
    w.cell? ⟨g, j, none⟩ = some (.int .i64 (xs.getD j 0)) := by
  rw [h.cellAt j (by omega), List.getElem?_map, List.getElem?_eq_getElem (by omega), getD_at (by omega)]
  rfl
set_option maxHeartbeats 8000000 in
theorem c23_ok (p : Option Addr) (zs : List Int) (c : Nat) (a0 : Int) (w : World) (RA : Hid (SlI w p zs)) (hp : pA zs a0 = true) :
    Calls Try.prog 23 #[.slice p zs.length c, .int .i64 a0] w (PW (pt zs a0) true w) := by
  obtain ⟨hv, a1, a2⟩ := pA_valid hp
  obtain ⟨h6, hl, hP, hS, hD⟩ := valid_of hv
  have C := Lib.hid (c16 p zs c w (by unfold maxLen; omega) RA)
  rw [sz_ok hv] at C
  obtain ⟨i0, hi, hz0, hz1, hz2⟩ := info_parts info3
  have HD := Lib.hid hD
  have HL := Lib.hid hl
  have hle : a0 ≤ 4095 := by omega
  clear hD hl hv hP hp
  generalize hQ : sp zs = P at C a2 hS
  clear hQ
  have k1 : decide (a0 < 0) = false := by simp <;> omega
  have k2 : decide (P ≤ a0) = false := by simp <;> omega
  obtain ⟨n, hn⟩ : ∃ n, zs.length = n := ⟨_, rfl⟩
  have HN := Lib.hid hn
  rw [hn] at C h6 ⊢
  clear hn
  go_enter Try.func23, Try.ntmps23
  go_wp2_with (go_at_call 16; refine (C.out).mono ?_; rintro e w' ⟨rfl, rfl⟩)
  have hown2 : Hid ((w.alloc (.cells #[.int .i64 0, .int .i64 0, .int .i64 0, .int .i64 0, .int .i64 0, .int .i64 0] 56)).ownsRow w.heap.size 56 1 (.slice (some ⟨w.heap.size, 0, none⟩) 6 6) 6 ((List.replicate 6 (0 : Int)).map (Value.int .i64))) :=
    Lib.hid (World.ownsRow_lit w _ 6 (Nat.le_refl _) (by unfold maxLen; decide) rfl)
  have hB : Below w.heap.size w (w.alloc (.cells #[.int .i64 0, .int .i64 0, .int .i64 0, .int .i64 0, .int .i64 0, .int .i64 0] 56)) := (Below.refl _ _).alloc (Nat.le_refl _) _
  clear k1 k2 hi hz0 hz1 hz2
  go_loopw [1, 7] (fun s i wr => ∃ (m : Nat) (S : Int) (xs : List Int), s = .int .i64 S ∧ i = .int .i64 ((m : Int) - 1) ∧ m ≤ n ∧ Hid (S = a0 / sp (zs.drop m)) ∧ 0 ≤ S ∧ S ≤ 4095 ∧ xs.length = 6 ∧ Hid (∀ j, m ≤ j → j < n → xs.getD j 0 = (pt zs a0).getD j 0) ∧ Below w.heap.size w wr ∧ w.heap.size < wr.heap.size ∧
    Hid (wr.ownsRow w.heap.size 56 1 (.slice (some ⟨w.heap.size, 0, none⟩) 6 6) 6 (xs.map (Value.int .i64)))) (fun _ i _ => (intOf i + 1).toNat)
  case atStart =>
    have hlt := (hown2.out.lt w.heap.size rfl).2
    exact ⟨n, a0, _, rfl, rfl, Nat.le_refl _, Lib.hid (by rw [List.drop_of_length_le (by rw [HN.out]; exact Nat.le_refl _)]; exact (Int.ediv_one _).symm), by omega, by omega, by simp, Lib.hid fun j h1 h2 => by omega, hB, hlt, hown2⟩
  case round =>
    obtain ⟨m, S, xs, rfl, rfl, hm, hS, s0, s1, hx, hX, KB, lt, hO⟩ := hrel
    clear hown2 hB
    cases m with
    | zero =>
      have e : xs.take n = pt zs a0 := by
        refine List.ext_getElem (by rw [pt_length, HN.out, List.length_take, hx]; omega) fun j h1 h2 => ?_
        rw [List.length_take] at h1
        have h := hX.out j (by omega) (by omega)
        rw [getD_at (by omega), getD_at h2] at h
        rw [List.getElem_take]
        exact h
      have S1 : SlI wr (some ⟨w.heap.size, 0, none⟩) (xs.take n) := fun i hi => ⟨_, _, rfl, by
        rw [List.length_take] at hi
        rw [getD_at (by rw [List.length_take]; exact hi), List.getElem_take, ← getD_at (by omega), Nat.zero_add, cell56 hO.out (by omega) hx]⟩
      rw [e] at S1
      have ln := pt_length zs a0
      rw [HN.out] at ln
      have LN := Lib.hid ln
      have C48 : Hid (∀ (l cc : Nat), l = n → Calls Try.prog 48 #[.slice (some ⟨w.heap.size, 0, none⟩) l cc] wr (OW (pt zs a0) wr)) := Lib.hid fun l cc hl => by
        subst hl
        have h := c48 w.heap.size 0 (pt zs a0) cc wr (by rw [LN.out]; unfold maxLen; omega) (by rw [LN.out]; omega) (Lib.hid S1)
        rw [LN.out] at h
        exact h
      have mi : (0 : Int) ≤ n := by omega
      have mi2 : (n : Int) ≤ 6 := by omega
      have AL : Try.prog.arrayLen 56 = 6 := by kernel_rfl
      clear e S1 ln
      go_wp2_with (go_at_call 48; refine (C48.out _ _ (by omega)).mono ?_; rintro e w2 ⟨v, rfl, K2, O2⟩)
      have KB2 : Below w.heap.size w w2 := KB.trans (K2.mono KB.size)
      refine bodyPost_ret (v := .tuple #[v, .bool true]) (by simp [results, Try.results23, go_sem]) rfl ⟨_, rfl, KB2, ?_⟩
      exact O2.mono KB.size
    | succ m =>
      rw [show ((m + 1 : Nat) : Int) - 1 = (m : Int) by omega]
      obtain ⟨b, o, rfl, hc⟩ := RA.out m (by rw [HN.out]; omega)
      have hb : b < w.heap.size := by have := World.block_lt_of_cell? w _ hc; simpa using this
      have hc := Rg.keep' KB hb hc
      have z1 := pos_of HL.out (k := m) (by rw [HN.out]; omega)
      have hd := drop_cons (zs := zs) (k := m) (by rw [HN.out]; omega)
      have hpt := pt_get (zs := zs) (a := a0) (j := m) (by rw [HN.out]; omega)
      obtain ⟨z, hz⟩ : ∃ z, zs.getD m 0 = z := ⟨_, rfl⟩
      rw [hz] at hc z1 hd hpt
      rw [← hS.out] at hpt
      have hT0 : 0 ≤ S / z := Int.ediv_nonneg s0 (by omega)
      have hT1 : S / z ≤ S := Int.ediv_le_self z s0
      have hR0 : 0 ≤ S % z := Int.emod_nonneg S (by omega)
      have hsp : S / z = a0 / sp (zs.drop m) := by rw [hd, hS.out]; exact pt_step (HD.out (m + 1)).1
      obtain ⟨r, hr⟩ : ∃ r, S % z = r := ⟨_, rfl⟩
      obtain ⟨T, hT⟩ : ∃ T, S / z = T := ⟨_, rfl⟩
      rw [hr] at hpt hR0
      rw [hT] at hT0 hT1 hsp
      have oc := cell56 hO.out (j := m) (by omega) hx
      have of := hO.out.frozenAt m
      have oS := Lib.hid (hO.out.stored m (.int .i64 r)).1
      have ne : ¬ w.heap.size = b := by omega
      have ne2 : ¬ b = w.heap.size := by omega
      have hc2 : (wr.setCell ⟨w.heap.size, m, none⟩ (.int .i64 r)).cell? ⟨b, o + m, none⟩ = some (.int .i64 z) := by rw [World.cell?_setCell_far _ _ _ _ ne]; exact hc
      have HSP := Lib.hid hsp
      have HPT := Lib.hid hpt
      have mlt : m < n := by omega
      have mi : (0 : Int) ≤ m := by omega
      have mi2 : (m : Int) < n := by omega
      have zz : (z == 0) = false := by simp <;> omega
      clear hz hd hsp hm hpt
      go_wp2
      go_roundw
      case rel =>
        refine ⟨m, T, xs.set m r, by first | rfl | rw [hT], rfl, by omega, HSP, by omega, by omega, by simp [hx], Lib.hid fun j h1 h2 => ?_, Below.setCell KB (Nat.le_refl _) _, by simpa using lt, Lib.hid (by rw [List.map_set]; exact oS.out)⟩
        by_cases hj : j = m
        · subst hj
          rw [getD_at (by simp [hx]; omega), List.getElem_set_self]
          exact HPT.out.symm
        · rw [getD_at (by simp [hx]; omega), List.getElem_set_ne (by omega), ← getD_at (by omega)]
          exact hX.out j (by omega) h2
      case measure => simp [intOf]
theorem c23 (p : Option Addr) (zs : List Int) (c : Nat) (a0 : Int) (w : World) (hn : zs.length ≤ maxLen) (RA : Hid (SlI w p zs)) :
    Calls Try.prog 23 #[.slice p zs.length c, .int .i64 a0] w (PW (pL zs a0) (pA zs a0) w) := by
  unfold pL
  by_cases h : pA zs a0 = true
  · rw [if_pos h, h]; exact c23_ok p zs c a0 w RA h
  · rw [if_neg h, show pA zs a0 = false by simpa using h]; exact c23_bad p zs c a0 w hn RA (by simpa using h)
end Go.Proofs.Ytjpcpdaokgkaoaa.Sh
