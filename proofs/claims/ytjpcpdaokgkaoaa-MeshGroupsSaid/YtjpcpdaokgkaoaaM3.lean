/- Point of package box in a valid mesh. -/
import Derived.Test.YtjpcpdaokgkaoaaM2
namespace Go.Proofs.Ytjpcpdaokgkaoaa.Sh
open Go.ChangeShapes Go.WideShapes Go.ChangeAt Go.RowKit
set_option linter.unusedVariables false

set_option maxHeartbeats 8000000 in
theorem c50_ok (p : Option Addr) (zs : List Int) (c : Nat) (a0 : Int) (w : World) (RA : Hid (SlI w p zs)) (hm : mok zs = true) (hp : pA zs a0 = true) :
    Calls Try.prog 50 #[.slice p zs.length c, .int .i64 a0] w (PW (pt zs a0) true w) := by
  obtain ⟨hv, a1, a2⟩ := pA_valid hp
  obtain ⟨h6, hl, hP, hS, hD⟩ := valid_of hv
  have C := Lib.hid (c52 p zs c w RA hm)
  clear hm
  obtain ⟨i0, hi, hz0, hz1, hz2⟩ := info_parts info3
  have HD := Lib.hid hD
  have HL := Lib.hid hl
  have hle : a0 ≤ 4095 := by omega
  clear hD hl hv hP hp
  generalize hQ : sp zs = P at C a2 hS
  clear hQ
  have k1 : decide (a0 < 0) = false := by simp <;> omega
  have k2 : decide (P ≤ a0) = false := by simp <;> omega
  obtain ⟨n, hn⟩ : ∃ n, zs.length = n := ⟨_, rfl⟩
  have HN := Lib.hid hn
  rw [hn] at C h6 ⊢
  clear hn
  go_enter Try.func50, Try.ntmps50
  go_wp2_with (first | (go_at_call 52; refine (C.out).mono ?_; rintro e w' ⟨rfl, rfl⟩) | (refine wpList_make_full _ rfl _ _ 22 rfl w.heap.size 3 i0 (.int .i64 0) 1 Try.underlying22 hi hz0 hz1 .i64 .i64 _ _ n rfl rfl rfl rfl (by rw [hz2]; omega) (by unfold maxLen; omega) (Nat.le_refl _) ?_; intro w1 hown hg; have hB := below_own (Nat.le_refl _) hg; have hs := hg.size; clear hg hi hz0 hz1 hz2 i0))
  have hown2 : Hid (w1.ownsRow w.heap.size 3 1 (.slice (some ⟨w.heap.size, 0, none⟩) n n) n ((List.replicate n (0 : Int)).map (Value.int .i64))) := Lib.hid (by
    have h := hown
    rw [show (Value.int IntKind.i64 0).cells = #[.int .i64 0] from rfl, toList_madeCells_one, Nat.mul_one] at h
    rw [List.map_replicate]
    exact h)
  clear hown k1 k2
  go_loopw [1, 7] (fun s i wr => ∃ (m : Nat) (S : Int) (xs : List Int), s = .int .i64 S ∧ i = .int .i64 ((m : Int) - 1) ∧ m ≤ n ∧ Hid (S = a0 / sp (zs.drop m)) ∧ 0 ≤ S ∧ S ≤ 4095 ∧ xs.length = n ∧ Hid (∀ j, m ≤ j → j < n → xs.getD j 0 = (pt zs a0).getD j 0) ∧ Below w.heap.size w wr ∧ w.heap.size < wr.heap.size ∧
    Hid (wr.ownsRow w.heap.size 3 1 (.slice (some ⟨w.heap.size, 0, none⟩) n n) n (xs.map (Value.int .i64)))) (fun _ i _ => (intOf i + 1).toNat)
  case atStart =>
    have hlt : w.heap.size < w1.heap.size := (hown2.out.lt w.heap.size rfl).2
    exact ⟨n, a0, _, rfl, rfl, Nat.le_refl _, Lib.hid (by rw [List.drop_of_length_le (by rw [HN.out]; exact Nat.le_refl _)]; exact (Int.ediv_one _).symm), by omega, by omega, by simp, Lib.hid fun j h1 h2 => by omega, hB, hlt, hown2⟩
  case round =>
    obtain ⟨m, S, xs, rfl, rfl, hm, hS, s0, s1, hx, hX, KB, lt, hO⟩ := hrel
    clear hown2 hB hs
    cases m with
    | zero =>
      have e : xs = pt zs a0 := by
        refine List.ext_getElem (by rw [pt_length, hx, HN.out]) fun j h1 h2 => ?_
        have h := hX.out j (by omega) (by omega)
        rw [getD_at h1, getD_at h2] at h
        exact h
      have HE := Lib.hid e
      clear e
      go_wp2
      refine bodyPost_ret (v := .tuple #[.slice (some ⟨w.heap.size, 0, none⟩) n n, .bool true]) (by simp [results, Try.results50, go_sem]) rfl ⟨_, rfl, KB, ?_⟩
      rw [← HE.out, show xs.length = n from hx]
      exact hO.out
    | succ m =>
      rw [show ((m + 1 : Nat) : Int) - 1 = (m : Int) by omega]
      obtain ⟨b, o, rfl, hc⟩ := RA.out m (by rw [HN.out]; omega)
      have hb : b < w.heap.size := by have := World.block_lt_of_cell? w _ hc; simpa using this
      have hc := Rg.keep' KB hb hc
      have z1 := pos_of HL.out (k := m) (by rw [HN.out]; omega)
      have hd := drop_cons (zs := zs) (k := m) (by rw [HN.out]; omega)
      have hpt := pt_get (zs := zs) (a := a0) (j := m) (by rw [HN.out]; omega)
      obtain ⟨z, hz⟩ : ∃ z, zs.getD m 0 = z := ⟨_, rfl⟩
      rw [hz] at hc z1 hd hpt
      rw [← hS.out] at hpt
      have hT0 : 0 ≤ S / z := Int.ediv_nonneg s0 (by omega)
      have hT1 : S / z ≤ S := Int.ediv_le_self z s0
      have hR0 : 0 ≤ S % z := Int.emod_nonneg S (by omega)
      have hsp : S / z = a0 / sp (zs.drop m) := by rw [hd, hS.out]; exact pt_step (HD.out (m + 1)).1
      obtain ⟨r, hr⟩ : ∃ r, S % z = r := ⟨_, rfl⟩
      obtain ⟨T, hT⟩ : ∃ T, S / z = T := ⟨_, rfl⟩
      rw [hr] at hpt hR0
      rw [hT] at hT0 hT1 hsp
      have oc := cells_of hO.out (j := m) (by omega) hx
      have of := hO.out.frozenAt m
      have oS := Lib.hid (hO.out.stored m (.int .i64 r)).1
      have ne : ¬ w.heap.size = b := by omega
      have ne2 : ¬ b = w.heap.size := by omega
      have hc2 : (wr.setCell ⟨w.heap.size, m, none⟩ (.int .i64 r)).cell? ⟨b, o + m, none⟩ = some (.int .i64 z) := by rw [World.cell?_setCell_far _ _ _ _ ne]; exact hc
      have HSP := Lib.hid hsp
      have HPT := Lib.hid hpt
      have mlt : m < n := by omega
      have mi : (0 : Int) ≤ m := by omega
      have mi2 : (m : Int) < n := by omega
      have zz : (z == 0) = false := by simp <;> omega
      clear hz hd hsp hm hpt
      go_wp2
      go_roundw
      case rel =>
        refine ⟨m, T, xs.set m r, by first | rfl | rw [hT], rfl, by omega, HSP, by omega, by omega, by simp [hx], Lib.hid fun j h1 h2 => ?_, Below.setCell KB (Nat.le_refl _) _, by simpa using lt, Lib.hid (by rw [List.map_set]; exact oS.out)⟩
        by_cases hj : j = m
        · subst hj
          rw [getD_at (by simp [hx]; omega), List.getElem_set_self]
          exact HPT.out.symm
        · rw [getD_at (by simp [hx]; omega), List.getElem_set_ne (by omega), ← getD_at (by omega)]
          exact hX.out j (by omega) h2
      case measure => simp [intOf]
set_option maxHeartbeats 4000000 in
theorem c50_bad (p : Option Addr) (zs : List Int) (c : Nat) (a0 : Int) (w : World) (hn : zs.length ≤ maxLen) (RA : Hid (SlI w p zs)) (hm : mok zs = true) (hp : pA zs a0 = false) :
    Calls Try.prog 50 #[.slice p zs.length c, .int .i64 a0] w (PW [] false w) := by
  have C := Lib.hid (c52 p zs c w RA hm)
  unfold pA at hp
  have hp := of_decide_eq_false hp
  rw [sz_ok (mok_facts hm).2.2.2.2.2] at hp
  clear hm
  generalize hQ : sp zs = P at C hp
  clear hQ
  by_cases h0 : a0 < 0
  · have k1 : decide (a0 < 0) = true := by simpa using h0
    clear hp
    go_enter Try.func50, Try.ntmps50
    go_wp2
    refine bodyPost_ret (v := .tuple #[.slice none 0 0, .bool false]) (by simp [results, Try.results50, go_sem]) rfl ⟨_, rfl, Below.refl _ _, World.ownsRow_nil _ _ _ _⟩
  · have k1 : decide (a0 < 0) = false := by simpa using h0
    have k2 : decide (P ≤ a0) = true := by simp <;> omega
    clear hp
    go_enter Try.func50, Try.ntmps50
    go_wp2_with (go_at_call 52; refine (C.out).mono ?_; rintro e w' ⟨rfl, rfl⟩)
    refine bodyPost_ret (v := .tuple #[.slice none 0 0, .bool false]) (by simp [results, Try.results50, go_sem]) rfl ⟨_, rfl, Below.refl _ _, World.ownsRow_nil _ _ _ _⟩
theorem c50 (p : Option Addr) (zs : List Int) (c : Nat) (a0 : Int) (w : World) (hn : zs.length ≤ maxLen) (RA : Hid (SlI w p zs)) (hm : mok zs = true) :
    Calls Try.prog 50 #[.slice p zs.length c, .int .i64 a0] w (PW (pL zs a0) (pA zs a0) w) := by
  unfold pL
  by_cases h : pA zs a0 = true
  · rw [if_pos h, h]; exact c50_ok p zs c a0 w RA hm h
  · rw [if_neg h, show pA zs a0 = false by simpa using h]; exact c50_bad p zs c a0 w hn RA hm (by simpa using h)
def cL (zs : List Int) (a : Int) : List Int := if mok zs = true then pL zs a else []
def cB (zs : List Int) (a : Int) : Bool := if mok zs = true then pA zs a else false
theorem PW.of {l : List Int} {t : Bool} {w u : World} {e : Ending} {w' : World} (hB : Below w.heap.size w u) (h : PW l t u e w') : PW l t w e w' := by
  obtain ⟨v, he, hb, ho⟩ := h
  exact ⟨v, he, hB.trans (hb.mono hB.size), ho.mono hB.size⟩
set_option maxHeartbeats 4000000 in
theorem c33 (p : Option Addr) (zs : List Int) (c : Nat) (a0 : Int) (w : World) (hn : zs.length ≤ maxLen) (RA : Hid (SlI w p zs)) :
    Calls Try.prog 33 #[.agg #[.slice p zs.length c], .int .i64 a0] w (PW (cL zs a0) (cB zs a0) w) := by
  have R1 := SlI.keep ((Below.refl _ _).alloc (Nat.le_refl _) (Obj.cells #[Value.slice p zs.length c] 41)) RA.out
  have R1 := Lib.hid R1
  have C := Lib.hid fun (y : World) (h : SlI y p zs) => c37 p zs c y hn (Lib.hid h)
  by_cases hv : mok zs = true
  · have D := Lib.hid fun (y : World) (h : SlI y p zs) => c50 p zs c a0 y hn (Lib.hid h) hv
    rw [mV_ok hv] at C
    rw [show cL zs a0 = pL zs a0 from if_pos hv, show cB zs a0 = pA zs a0 from if_pos hv]
    generalize pL zs a0 = L at D
    generalize pA zs a0 = B at D
    clear hv hn
    go_enter Try.func33, Try.ntmps33
    go_wp2_with (first | (go_at_call 37; refine (C.out _ R1.out).mono ?_; rintro e w' ⟨rfl, hb⟩; obtain ⟨hx, hB⟩ := boxed hb; have RS := Lib.hid (SlI.keep hB RA.out); clear hb) | (go_at_call 50; refine (D.out _ RS.out).mono ?_; rintro e w' hP; obtain ⟨v, rfl, hb2, ho⟩ := hP; have HB2 := hb2; have HO := Lib.hid ho; clear hb2 ho))
    exact bodyPost_ret (v := .tuple #[v, .bool B]) (by simp [results, Try.results33, go_sem]) rfl ⟨v, rfl, hB.trans (HB2.mono hB.size), HO.out.mono hB.size⟩
  · have hV := mV_bad hv
    rw [show cL zs a0 = [] from if_neg hv, show cB zs a0 = false from if_neg hv]
    generalize mV zs = V at C hV
    clear hv hn
    go_enter Try.func33, Try.ntmps33
    go_wp2_with (go_at_call 37; refine (C.out _ R1.out).mono ?_; rintro e w' ⟨rfl, hb⟩; obtain ⟨hx, hB⟩ := boxed hb; clear hb)
    exact bodyPost_ret (v := .tuple #[.slice none 0 0, .bool false]) (by simp [results, Try.results33, go_sem]) rfl ⟨_, rfl, hB, World.ownsRow_nil _ _ _ _⟩
theorem cB_valid {zs : List Int} {a : Int} (h : cB zs a = true) : mok zs = true ∧ 0 ≤ a ∧ a < sp zs := by
  unfold cB at h
  by_cases hv : mok zs = true
  · rw [if_pos hv] at h; exact ⟨hv, (pA_valid h).2⟩
  · rw [if_neg hv] at h; cases h
theorem cB_no {zs : List Int} {a : Int} (h : cB zs a = false) : ¬ (0 ≤ a ∧ a < dv zs) := by
  unfold cB at h
  unfold dv
  by_cases hv : mok zs = true
  · rw [if_pos hv] at h ⊢
    unfold pA at h
    rw [sz_ok (mok_facts hv).2.2.2.2.2] at h
    exact of_decide_eq_false h
  · rw [if_neg hv]; omega
set_option maxHeartbeats 4000000 in
theorem c34_bad (p : Option Addr) (zs : List Int) (c : Nat) (a0 : Int) (w : World) (hn : zs.length ≤ maxLen) (RA : Hid (SlI w p zs)) (hp : cB zs a0 = false) :
    Calls Try.prog 34 #[.agg #[.slice p zs.length c], .int .i64 a0] w (PW [] false w) := by
  have R1 := SlI.keep ((Below.refl _ _).alloc (Nat.le_refl _) (Obj.cells #[Value.slice p zs.length c] 41)) RA.out
  have R1 := Lib.hid R1
  have C := Lib.hid fun (y : World) (h : SlI y p zs) => c40 p zs c y hn (Lib.hid h)
  have hp := cB_no hp
  generalize hQ : dv zs = P at C hp
  clear hQ
  by_cases h0 : a0 < 0
  · have k1 : decide (a0 < 0) = true := by simpa using h0
    clear hp
    go_enter Try.func34, Try.ntmps34
    go_wp2
    exact bodyPost_ret (v := .tuple #[.slice none 0 0, .bool false]) (by simp [results, Try.results34, go_sem]) rfl ⟨_, rfl, (Below.refl _ _).alloc (Nat.le_refl _) _, World.ownsRow_nil _ _ _ _⟩
  · have k1 : decide (a0 < 0) = false := by simpa using h0
    have k2 : decide (P ≤ a0) = true := decide_eq_true (by omega)
    clear hp
    go_enter Try.func34, Try.ntmps34
    go_wp2_with (go_at_call 40; refine (C.out _ R1.out).mono ?_; rintro e w' ⟨rfl, hb⟩; obtain ⟨hx, hB⟩ := boxed hb; clear hb)
    exact bodyPost_ret (v := .tuple #[.slice none 0 0, .bool false]) (by simp [results, Try.results34, go_sem]) rfl ⟨_, rfl, hB, World.ownsRow_nil _ _ _ _⟩
set_option maxHeartbeats 8000000 in
theorem c34_ok (p : Option Addr) (zs : List Int) (c : Nat) (a0 : Int) (w : World) (RA : Hid (SlI w p zs)) (hp : cB zs a0 = true) :
    Calls Try.prog 34 #[.agg #[.slice p zs.length c], .int .i64 a0] w (PW (pt zs a0) true w) := by
  obtain ⟨hm, a1, a2⟩ := cB_valid hp
  have hv := (mok_facts hm).2.2.2.2.2
  obtain ⟨h6, hl, hP, hS, hD⟩ := valid_of hv
  have R1 := SlI.keep ((Below.refl _ _).alloc (Nat.le_refl _) (Obj.cells #[Value.slice p zs.length c] 41)) RA.out
  have R1 := Lib.hid R1
  have C := Lib.hid fun (y : World) (h : SlI y p zs) => c40 p zs c y (by unfold maxLen; omega) (Lib.hid h)
  rw [show dv zs = sp zs from if_pos hm] at C
  clear hm
  obtain ⟨i0, hi, hz0, hz1, hz2⟩ := info_parts info3
  have HD := Lib.hid hD
  have HL := Lib.hid hl
  have hle : a0 ≤ 4095 := by omega
  clear hD hl hv hP hp
  generalize hQ : sp zs = P at C a2 hS
  clear hQ
  have k1 : decide (a0 < 0) = false := by simp <;> omega
  have k2 : decide (P ≤ a0) = false := by simp <;> omega
  obtain ⟨n, hn⟩ : ∃ n, zs.length = n := ⟨_, rfl⟩
  have HN := Lib.hid hn
  rw [hn] at C h6 R1 ⊢
  clear hn
  go_enter Try.func34, Try.ntmps34
  go_wp2_with (first | (go_at_call 40; refine (C.out _ R1.out).mono ?_; rintro e w' ⟨rfl, hb⟩; obtain ⟨hx, hB0⟩ := boxed hb; clear hb) | (refine wpList_make_full _ rfl _ _ 22 rfl w'.heap.size 3 i0 (.int .i64 0) 1 Try.underlying22 hi hz0 hz1 .i64 .i64 _ _ n rfl rfl rfl rfl (by rw [hz2]; omega) (by unfold maxLen; omega) (Nat.le_refl _) ?_; intro w1 hown hg; have hB := below_own (Nat.le_refl _) hg; have hs := hg.size; have hltb : w.heap.size < w'.heap.size := (by have := World.block_lt_of_cell? w' _ hx; simpa using this); clear hg hi hz0 hz1 hz2 i0; have hx1 := Rg.keep' hB (by have := World.block_lt_of_cell? w' _ hx; simpa using this) hx; clear hx))
  have hown2 : Hid (w1.ownsRow w'.heap.size 3 1 (.slice (some ⟨w'.heap.size, 0, none⟩) n n) n ((List.replicate n (0 : Int)).map (Value.int .i64))) := Lib.hid (by
    have h := hown
    rw [show (Value.int IntKind.i64 0).cells = #[.int .i64 0] from rfl, toList_madeCells_one, Nat.mul_one] at h
    rw [List.map_replicate]
    exact h)
  clear hown k1 k2
  go_loopw [1, 7] (fun s i wr => ∃ (m : Nat) (S : Int) (xs : List Int), s = .int .i64 S ∧ i = .int .i64 ((m : Int) - 1) ∧ m ≤ n ∧ Hid (S = a0 / sp (zs.drop m)) ∧ 0 ≤ S ∧ S ≤ 4095 ∧ xs.length = n ∧ Hid (∀ j, m ≤ j → j < n → xs.getD j 0 = (pt zs a0).getD j 0) ∧ Below w'.heap.size w' wr ∧ wr.cell? ⟨w.heap.size, 0, none⟩ = some (.slice p n c) ∧ w'.heap.size < wr.heap.size ∧
    Hid (wr.ownsRow w'.heap.size 3 1 (.slice (some ⟨w'.heap.size, 0, none⟩) n n) n (xs.map (Value.int .i64)))) (fun _ i _ => (intOf i + 1).toNat)
  case atStart =>
    have hlt : w'.heap.size < w1.heap.size := (hown2.out.lt w'.heap.size rfl).2
    exact ⟨n, a0, _, rfl, rfl, Nat.le_refl _, Lib.hid (by rw [List.drop_of_length_le (by rw [HN.out]; exact Nat.le_refl _)]; exact (Int.ediv_one _).symm), by omega, by omega, by simp, Lib.hid fun j h1 h2 => by omega, hB, hx1, hlt, hown2⟩
  case round =>
    obtain ⟨m, S, xs, rfl, rfl, hm, hS, s0, s1, hx, hX, KB, hbx, lt, hO⟩ := hrel
    clear hown2 hB hs
    cases m with
    | zero =>
      have e : xs = pt zs a0 := by
        refine List.ext_getElem (by rw [pt_length, hx, HN.out]) fun j h1 h2 => ?_
        have h := hX.out j (by omega) (by omega)
        rw [getD_at h1, getD_at h2] at h
        exact h
      have HE := Lib.hid e
      clear e
      go_wp2
      refine bodyPost_ret (v := .tuple #[.slice (some ⟨w'.heap.size, 0, none⟩) n n, .bool true]) (by simp [results, Try.results34, go_sem]) rfl ⟨_, rfl, hB0.trans (KB.mono hB0.size), ?_⟩
      rw [← HE.out, show xs.length = n from hx]
      exact hO.out.mono hB0.size
    | succ m =>
      rw [show ((m + 1 : Nat) : Int) - 1 = (m : Int) by omega]
      obtain ⟨b, o, rfl, hc⟩ := RA.out m (by rw [HN.out]; omega)
      have hb0 : b < w.heap.size := by have := World.block_lt_of_cell? w _ hc; simpa using this
      have hb : b < w'.heap.size := Nat.lt_of_lt_of_le hb0 hB0.size
      have hc := Rg.keep' KB hb (Rg.keep' hB0 hb0 hc)
      have ne3 : ¬ w'.heap.size = w.heap.size := by omega
      have ne4 : ¬ w.heap.size = w'.heap.size := by omega
      have z1 := pos_of HL.out (k := m) (by rw [HN.out]; omega)
      have hd := drop_cons (zs := zs) (k := m) (by rw [HN.out]; omega)
      have hpt := pt_get (zs := zs) (a := a0) (j := m) (by rw [HN.out]; omega)
      obtain ⟨z, hz⟩ : ∃ z, zs.getD m 0 = z := ⟨_, rfl⟩
      rw [hz] at hc z1 hd hpt
      rw [← hS.out] at hpt
      have hT0 : 0 ≤ S / z := Int.ediv_nonneg s0 (by omega)
      have hT1 : S / z ≤ S := Int.ediv_le_self z s0
      have hR0 : 0 ≤ S % z := Int.emod_nonneg S (by omega)
      have hsp : S / z = a0 / sp (zs.drop m) := by rw [hd, hS.out]; exact pt_step (HD.out (m + 1)).1
      obtain ⟨r, hr⟩ : ∃ r, S % z = r := ⟨_, rfl⟩
      obtain ⟨T, hT⟩ : ∃ T, S / z = T := ⟨_, rfl⟩
      rw [hr] at hpt hR0
      rw [hT] at hT0 hT1 hsp
      have oc := cells_of hO.out (j := m) (by omega) hx
      have of := hO.out.frozenAt m
      have oS := Lib.hid (hO.out.stored m (.int .i64 r)).1
      have ne : ¬ w'.heap.size = b := by omega
      have ne2 : ¬ b = w'.heap.size := by omega
      have hc2 : (wr.setCell ⟨w'.heap.size, m, none⟩ (.int .i64 r)).cell? ⟨b, o + m, none⟩ = some (.int .i64 z) := by rw [World.cell?_setCell_far _ _ _ _ ne]; exact hc
      have hbx2 : (wr.setCell ⟨w'.heap.size, m, none⟩ (.int .i64 r)).cell? ⟨w.heap.size, 0, none⟩ = some (.slice (some ⟨b, o, none⟩) n c) := by rw [World.cell?_setCell_far _ _ _ _ ne3]; exact hbx
      have HSP := Lib.hid hsp
      have HPT := Lib.hid hpt
      have mlt : m < n := by omega
      have mi : (0 : Int) ≤ m := by omega
      have mi2 : (m : Int) < n := by omega
      have zz : (z == 0) = false := by simp <;> omega
      clear hz hd hsp hm hpt
      go_wp2
      go_roundw
      case rel =>
        refine ⟨m, T, xs.set m r, by first | rfl | rw [hT], rfl, by omega, HSP, by omega, by omega, by simp [hx], Lib.hid fun j h1 h2 => ?_, Below.setCell KB (Nat.le_refl _) _, hbx2, by simpa using lt, Lib.hid (by rw [List.map_set]; exact oS.out)⟩
        by_cases hj : j = m
        · subst hj
          rw [getD_at (by simp [hx]; omega), List.getElem_set_self]
          exact HPT.out.symm
        · rw [getD_at (by simp [hx]; omega), List.getElem_set_ne (by omega), ← getD_at (by omega)]
          exact hX.out j (by omega) h2
      case measure => simp [intOf]

end Go.Proofs.Ytjpcpdaokgkaoaa.Sh
