/- Format of package lin. -/
import Derived.Test.YtbicmlkjonaccaaDoorH19
import Derived.Test.YtbicmlkjonaccaaDoorH3
import Derived.IntWalk
import Derived.Test.YtbicmlkjonaccaaDoorH18
import Derived.Test.YtbicmlkjonaccaaDoorH12

namespace Go.Proofs.YtbicmlkjonaccaaDoor.Ln
open Go.ChangeShapes Go.WideShapes Go.ChangeAt Go.RowKit
open Go.Proofs.YtbicmlkjonaccaaDoor.Nm
set_option linter.unusedVariables false
set_option linter.unusedSimpArgs false
set_option maxRecDepth 8000

theorem own_belowZ {w w' : World} {B : Nat} {e : TypeId} {size : Nat} {v : Value} {n : Nat} {xs : List Value} (h : w.ownsRow B e size v n xs) (hb : Below w.heap.size w w') : w'.ownsRow B e size v n xs := by
  obtain ⟨hl, h0 | ⟨g, cap, cur, hv, hb', hh, r⟩⟩ := h
  · exact ⟨hl, .inl h0⟩
  · have hg : g < w.heap.size := by
      rcases Nat.lt_or_ge g w.heap.size with h1 | h1
      · exact h1
      · rw [Array.getElem?_eq_none h1] at hh
        cases hh
    exact ⟨hl, .inr ⟨g, cap, cur, hv, hb', by rw [hb.block g hg]; exact hh, r⟩⟩
theorem isB_below {B b : Nat} {bs : List Value} {w w' : World} (h : Lib.IsBuilder 68 5 B b bs w) (hbl : Below w.heap.size w w') : Lib.IsBuilder 68 5 B b bs w' := by
  have key : ∀ p, Lib.BuilderAt 68 5 B b p bs w → Lib.BuilderAt 68 5 B b p bs w' := fun p hh => by
    have hlt := hh.lt
    obtain ⟨hB, v, hb, hown, hne⟩ := hh
    exact ⟨hB, v, (hbl.block b hlt).trans hb, own_belowZ hown hbl, hne⟩
  rcases h with h | h
  · exact .inl (key _ h)
  · exact .inr (key _ h)
theorem isB_lt {B b : Nat} {bs : List Value} {w : World} (h : Lib.IsBuilder 68 5 B b bs w) : b < w.heap.size := by
  rcases h with h | h
  · exact h.lt
  · exact h.lt
theorem ok_name {xs : List Mo} (h : okL xs = true) {i : Nat} (hi : i < xs.length) : (xs.getD i mo0).1.size ≤ 16 := by
  have h1 := List.all_eq_true.1 h i (List.mem_range.2 hi)
  have h2 : nmB (xs.getD i mo0).1 = true := by
    cases q : nmB (xs.getD i mo0).1
    · unfold bd at h1; rw [q] at h1; simp at h1
    · rfl
  unfold nmB at h2
  rw [Bool.and_eq_true, decide_eq_true_iff] at h2
  exact h2.1.2
theorem ok_bd {xs : List Mo} (h : okL xs = true) (hb : ∀ i, i < xs.length → -9223372036854775808 ≤ (xs.getD i mo0).2 ∧ (xs.getD i mo0).2 ≤ 9223372036854775807) (hn : xs.length ≤ 40) {k : Nat} (hk : k ≤ xs.length) : (fl xs k).length ≤ 1600 := by
  have h1 := fl_len (B := 16) (fun i hi => ⟨ok_name h hi, hb i hi⟩) k hk
  have : k * (24 + 16) ≤ 40 * (24 + 16) := Nat.mul_le_mul_right _ (by omega)
  omega
theorem app_star (l : List UInt8) : (⟨l.toArray⟩ : ByteArray) ++ (⟨#[42]⟩ : ByteArray) = ⟨(l ++ [42]).toArray⟩ := by
  apply ByteArray.ext
  simp
theorem cells_list (l m : List UInt8) : Lib.byteCells l ++ Lib.strCells ⟨m.toArray⟩ = Lib.byteCells (l ++ m) := by unfold Lib.byteCells Lib.strCells; rw [List.map_append]
theorem arr_size (l : List UInt8) : (⟨l.toArray⟩ : ByteArray).size = l.length := by rw [Lib.size_eq]
theorem sl_below {w w' : World} {p : Option Addr} {xs : List Mo} {g : Nat} (h : SlM w p xs) (hg : w.heap.size ≤ g) (hb : Below w.heap.size w w') : SlM w' p xs := SlM.keep hb h
set_option maxRecDepth 100000 in
set_option maxHeartbeats 8000000 in
theorem fmt1 (k : Int) (p : Option Addr) (xs : List Mo) (c : Nat) (w : World) (hn : xs.length ≤ 40) (RA : Hid (SlM w p xs)) (RS : Hid (∀ i, i < xs.length → (xs.getD i mo0).1.size ≤ maxLen))
    (RB : Hid (∀ i, i < xs.length → -9223372036854775808 ≤ (xs.getD i mo0).2 ∧ (xs.getD i mo0).2 ≤ 9223372036854775807)) (k0 : -9223372036854775808 ≤ k) (k1 : k ≤ 9223372036854775807) (hL : LA w) :
    Calls Tryd.prog 18 #[Lv k p xs.length c] w fun e w' => e = .returned (.string (if okL xs = true then ⟨(fmL k xs).toArray⟩ else ⟨#[]⟩)) ∧ Below w.heap.size w w' := by
  have VL := Lib.hid fun w h => val1 k p xs c w (by unfold maxLen; omega) h RS
  have B0 : Below w.heap.size w (w.alloc (Obj.cells #[Value.int .i64 k, Value.slice p xs.length c] 24)) := (Below.refl _ _).alloc (Nat.le_refl _) _
  cases hok : okL xs
  · rw [if_neg (by decide)]
    unfold vL at VL
    rw [hok, if_neg (by decide)] at VL
    have RA2 := Lib.hid (SlM.keep B0 RA.out)
    unfold Lv at *
    clear hok RB RS hL
    go_enter Tryd.func18, Tryd.ntmps18
    go_wp2_with (go_at_call 16; refine (VL.out _ RA2).mono ?_; rintro e w1 ⟨rfl, hb⟩)
    go_ret
    exact ⟨rfl, B0.trans (hb.mono B0.size)⟩
  · rw [if_pos rfl]
    unfold vL at VL
    rw [hok, if_pos rfl] at VL
    have HOK := Lib.hid hok
    have HLEN := Lib.hid fun k hk => ok_bd hok RB.out hn (k := k) hk
    have RA2 := Lib.hid (SlM.keep B0 RA.out)
    have DG := Lib.hid fun n n0 n1 w h => digs1 n n0 n1 w h
    unfold Lv at *
    clear hok RS
    obtain ⟨D, hD⟩ : ∃ D : ByteArray, ⟨(fmL k xs).toArray⟩ = D := ⟨_, rfl⟩
    rw [hD]
    have HD := Lib.hid hD
    clear hD
    go_enter Tryd.func18, Tryd.ntmps18
    go_wp2_with fail
    refine (VL.out _ RA2).mono ?_
    rintro e w1 ⟨rfl, hb⟩
    have c0 : w1.cell? ⟨w.heap.size, 0, none⟩ = some (.int .i64 k) := Rg.keep hb (by simp) (by go_cell)
    have c1 : w1.cell? ⟨w.heap.size, 1, none⟩ = some (.slice p xs.length c) := Rg.keep hb (by simp) (by go_cell)
    have K1 : Below w.heap.size w w1 := B0.trans (hb.mono B0.size)
    have l1 : w.heap.size < w1.heap.size := World.block_lt_of_cell? _ _ c0
    have HL1 := Lib.hid (hL.below K1)
    have RA1 := Lib.hid (SlM.keep K1 RA.out)
    clear hb VL B0 hL RA2 RA
    go_wp2_with fail
    have HS0 : Hid (Below w1.heap.size w1 (w1.alloc (Obj.cells #[.pointer none, .slice none 0 0] 68))) := Lib.hid ((Below.refl _ _).alloc (Nat.le_refl _) _)
    go_loopw [12] (fun a wr => ∃ j : Nat, a = .int .i64 (j : Int) ∧ j ≤ xs.length ∧ Hid (Below w1.heap.size w1 wr) ∧ Hid (Lib.IsBuilder 68 5 w1.heap.size w1.heap.size (Lib.byteCells (fl xs j)) wr)) (fun a _ => xs.length - (intOf a).toNat)
    case atStart => exact ⟨0, rfl, by omega, HS0, Lib.hid (Lib.fresh_isBuilder 68 5 w1)⟩
    case round =>
      obtain ⟨j, rfl, hj, hB, hI⟩ := hrel
      clear HS0
      have d0 := Rg.keep hB.out l1 c0
      have d1 := Rg.keep hB.out l1 c1
      have lr := isB_lt hI.out
      have jj : (0 : Int) ≤ j := by omega
      by_cases hlt : j < xs.length
      · obtain ⟨b, o, rfl, e0, e1⟩ := RA1.out j hlt
        have hbw : b < w1.heap.size := World.block_lt_of_cell? _ _ e0
        replace e0 := Rg.keep hB.out hbw e0
        replace e1 := Rg.keep hB.out hbw e1
        have j1 : (j : Int) < xs.length := by omega
        obtain ⟨y0, y1⟩ := RB.out j hlt
        have hst : fl xs (j + 1) = fl xs j ++ sgT (fl xs j) (decide ((xs.getD j mo0).2 < 0)) ++ tmt (xs.getD j mo0) := rfl
        have hl0 := HLEN.out j hj
        have hl1 := HLEN.out (j + 1) (by omega)
        obtain ⟨m, hm⟩ : ∃ m, xs.getD j mo0 = m := ⟨_, rfl⟩
        rw [hm] at e0 e1 hst y0 y1
        clear hm
        obtain ⟨z, by1⟩ := m
        dsimp only at e0 e1 hst y0 y1
        have HST := Lib.hid hst
        rw [hst, List.length_append, List.length_append] at hl1
        have hI2 := Lib.hid (isB_alloc hI.out (Obj.cells #[Value.string z, Value.int .i64 by1] 59))
        have hB2 : Below w1.heap.size w1 (wr.alloc (Obj.cells #[Value.string z, Value.int .i64 by1] 59)) := hB.out.alloc hB.out.size _
        have hX : (wr.alloc (Obj.cells #[Value.string z, Value.int .i64 by1] 59)).heap[wr.heap.size]? = some (.cells #[.string z, .int .i64 by1] 59 (0, 0)) := heap_alloc_new _ _
        have hsz := hB.out.size
        clear hst hI
        obtain ⟨ng, hng⟩ : ∃ ng, decide (by1 < 0) = ng := ⟨_, rfl⟩
        rw [hng] at HST hl1
        obtain ⟨A, hA⟩ : ∃ A, fl xs j ++ sgT (fl xs j) ng = A := ⟨_, rfl⟩
        have hAl : A.length ≤ 1600 := by rw [← hA, List.length_append]; omega
        rw [hA] at HST
        have SG := Lib.hid fun w h hB => sign1 w1.heap.size w1.heap.size (fl xs j) ng w h (by omega) hB
        rw [hA] at SG
        clear hA hl1
        go_wp2_with fail
        refine (SG.out _ hI2.out (by simp; omega)).mono ?_
        rintro e w2 ⟨rfl, h2, b2, q2⟩
        have hX2 := q2 _ _ hX (by simp; omega) (fun c fz e => by cases e)
        have x0 : w2.cell? ⟨wr.heap.size, 0, none⟩ = some (.string z) := by rw [Lib.cell_of_heap hX2]; rfl
        have x1 : w2.cell? ⟨wr.heap.size, 1, none⟩ = some (.int .i64 by1) := by rw [Lib.cell_of_heap hX2]; rfl
        have B2 := hB2.trans b2
        have s2 := b2.size
        have hI3 := Lib.hid h2
        have HX2 := Lib.hid hX2
        clear h2 q2 hX hX2 hI2 SG b2
        by_cases h1 : by1.natAbs = 1
        · have ht : tmt (z, by1) = z.data.toList := by unfold tmt; rw [if_pos h1]; rfl
          rw [ht] at HST
          have g1 : (by1 != 1 && by1 != -1) = false := by
            rcases (by omega : by1 = 1 ∨ by1 = -1) with rfl | rfl <;> rfl
          have hz := HLEN.out (j + 1) (by omega)
          rw [HST.out, List.length_append] at hz
          have hzz : z.data.toList.length = z.size := by simp
          have hdone : ∀ w3, Lib.BuilderAt 68 5 w1.heap.size w1.heap.size (.pointer (some ⟨w1.heap.size, 0, none⟩)) (Lib.byteCells A ++ Lib.strCells z) w3 → Hid (Lib.IsBuilder 68 5 w1.heap.size w1.heap.size (Lib.byteCells (fl xs (j + 1))) w3) := fun w3 h => Lib.hid (.inr (by rw [HST.out, ← cells_app]; exact h))
          have HDN := Lib.hid hdone
          clear hdone
          rcases (by omega : by1 = 1 ∨ by1 = -1) with rfl | rfl
          all_goals
            go_wp2_with fail
            refine (writeString w1.heap.size w1.heap.size (Lib.byteCells A) z _ hI3.out (by rw [Lib.byteCells_length]; omega) (by simp at s2; omega)).mono ?_
            rintro e w3 ⟨rfl, h3, b3, q3⟩
            have B3 := Lib.hid (B2.trans b3)
            have hI4 := HDN.out _ h3
            clear h3 q3 b3 x0 x1
            go_wp2
            go_roundw
            case rel => exact ⟨j + 1, by go_num, by omega, B3, hI4⟩
            case measure => simp [intOf]; omega
        · have ht : tmt (z, by1) = Lib.decDigits by1.natAbs ++ [42] ++ z.data.toList := by unfold tmt; rw [if_neg h1]
          rw [ht] at HST
          have g1 : (by1 == 1) = false := by simp; omega
          have g1' : (by1 != 1) = true := by simp; omega
          have g2 : (by1 == -1) = false := by simp; omega
          have g2' : (by1 != -1) = true := by simp; omega
          have hz := HLEN.out (j + 1) (by omega)
          rw [HST.out, List.length_append, List.length_append] at hz
          have hzz : z.data.toList.length = z.size := by simp
          have hdl := dec20 by1.natAbs (by omega)
          have L2 := Lib.hid (HL1.out.below B2)
          obtain ⟨T, hT⟩ : ∃ T, Lib.decDigits by1.natAbs = T := ⟨_, rfl⟩
          have DGb := Lib.hid fun w h => DG.out by1 y0 y1 w h
          rw [hT] at HST hz hdl DGb
          have HST2 : Hid (fl xs (j + 1) = (A ++ (T ++ [42])) ++ z.data.toList) := Lib.hid (by rw [HST.out]; simp)
          clear hT ht HST h1 y0 y1
          obtain ⟨tb, htb⟩ : ∃ tb : ByteArray, ⟨T.toArray⟩ = tb := ⟨_, rfl⟩
          have htl : tb.size = T.length := by rw [← htb]; exact arr_size T
          have hstar : Lib.byteCells A ++ Lib.strCells (tb ++ (⟨#[42]⟩ : ByteArray)) = Lib.byteCells (A ++ (T ++ [42])) := by rw [← htb, app_star]; exact cells_list _ _
          have hts : (tb ++ (⟨#[42]⟩ : ByteArray)).size = T.length + 1 := by rw [ByteArray.size_append, htl]; rfl
          rw [htb] at DGb
          have HSTAR := Lib.hid hstar
          have h42 : (⟨#[42]⟩ : ByteArray).size = 1 := rfl
          clear htb hstar
          go_wp2_with fail
          refine (DGb.out _ L2.out).mono ?_
          rintro e w3 ⟨rfl, b3⟩
          have hI5 := Lib.hid (isB_below hI3.out b3)
          have lx : wr.heap.size < w2.heap.size := World.block_lt_of_cell? _ _ x0
          have x0' := Rg.keep b3 lx x0
          have B3 := B2.trans (b3.mono (by simp at s2; omega))
          have s3 := b3.size
          have hX3 := (b3.block wr.heap.size lx).trans HX2.out
          clear DGb b3 x1 hI3
          go_wp2_with fail
          refine (writeString w1.heap.size w1.heap.size (Lib.byteCells A) (tb ++ (⟨#[42]⟩ : ByteArray)) _ hI5.out (by rw [Lib.byteCells_length, hts]; omega) (by simp at s2; omega)).mono ?_
          rintro e w4 ⟨rfl, h4, b4, q4⟩
          have hX4 := q4 _ _ hX3 (by simp; omega) (fun c fz e => by cases e)
          have x4 : w4.cell? ⟨wr.heap.size, 0, none⟩ = some (.string z) := by rw [Lib.cell_of_heap hX4]; rfl
          have B4 := B3.trans b4
          have s4 := b4.size
          rw [HSTAR.out] at h4
          have hI6 := Lib.hid h4
          clear h4 q4 b4 x0 x0' hX3 hX4 hI5 B3 HX2
          go_wp2_with fail
          refine (writeString w1.heap.size w1.heap.size (Lib.byteCells (A ++ (T ++ [42]))) z _ (.inr hI6.out) (by rw [Lib.byteCells_length, List.length_append, List.length_append]; simp; omega) (by simp at s2; omega)).mono ?_
          rintro e w5 ⟨rfl, h5, b5, q5⟩
          have B5 := Lib.hid (B4.trans b5)
          rw [cells_app] at h5
          have hI7 : Hid (Lib.IsBuilder 68 5 w1.heap.size w1.heap.size (Lib.byteCells (fl xs (j + 1))) w5) := Lib.hid (.inr (by rw [HST2.out]; exact h5))
          clear h5 q5 b5 x4 hI6 B4
          go_wp2
          go_roundw
          case rel => exact ⟨j + 1, by go_num, by omega, B5, hI7⟩
          case measure => simp [intOf]; omega
      · obtain rfl : j = xs.length := by omega
        have hl0 := HLEN.out xs.length (Nat.le_refl _)
        have hB3 := hB.out
        have hsz := hB.out.size
        have KW := K1.trans (hB.out.mono K1.size)
        have LW := Lib.hid (HL1.out.below hB.out)
        by_cases hk : k ≠ 0 ∨ xs.length = 0
        · obtain ⟨ng, hng⟩ : ∃ ng, decide (k < 0) = ng := ⟨_, rfl⟩
          have hD1 := HD.out
          have hfm : fmL k xs = fl xs xs.length ++ sgT (fl xs xs.length) ng ++ Lib.decDigits k.natAbs := by unfold fmL; rw [if_pos hk, hng]
          rw [hfm] at hD1
          have hdl := dec20 k.natAbs (by omega)
          have hsl := sgT_len (fl xs xs.length) ng
          obtain ⟨A, hA⟩ : ∃ A, fl xs xs.length ++ sgT (fl xs xs.length) ng = A := ⟨_, rfl⟩
          have hAl : A.length ≤ 1603 := by rw [← hA, List.length_append]; omega
          have SG := Lib.hid fun w h hB => sign1 w1.heap.size w1.heap.size (fl xs xs.length) ng w h (by omega) hB
          rw [hA] at SG hD1
          have DGb := Lib.hid fun w h => DG.out k k0 k1 w h
          obtain ⟨T, hT⟩ : ∃ T, Lib.decDigits k.natAbs = T := ⟨_, rfl⟩
          rw [hT] at DGb hD1 hdl
          obtain ⟨tb, htb⟩ : ∃ tb : ByteArray, ⟨T.toArray⟩ = tb := ⟨_, rfl⟩
          have htl : tb.size = T.length := by rw [← htb]; exact arr_size T
          rw [htb] at DGb
          have hcl : Lib.byteCells A ++ Lib.strCells tb = Lib.byteCells (A ++ T) := by rw [← htb]; exact cells_list _ _
          have HCL := Lib.hid hcl
          have HD1 := Lib.hid hD1
          clear hfm hA hT htb hcl hD1 hsl
          have hgo : (k != 0) = true ∨ ((k != 0) = false ∧ ((xs.length : Int) == 0) = true) := by
            by_cases q : k = 0
            · right; exact ⟨by simp [q], by rcases hk with h | h; exact absurd q h; simp [h]⟩
            · left; simpa using q
          clear hk
          have hfin : ∀ (P : Prop), True → True := fun _ _ => trivial
          rcases hgo with hg | ⟨hg, hg2⟩
          all_goals
            have hg' : (k == 0) = !(k != 0) := by simp [bne]
            rw [hg] at hg'
            simp only [Bool.not_true, Bool.not_false] at hg'
            go_wp2_with fail
            refine (SG.out _ hI.out hsz).mono ?_
            rintro e w2 ⟨rfl, h2, b2, q2⟩
            have B2 := hB3.trans b2
            have s2 := b2.size
            have d0' := Rg.keep B2 l1 c0
            have L2 := Lib.hid (HL1.out.below B2)
            have hI3 := Lib.hid h2
            clear h2 q2 b2 d0 d1
            go_wp2_with fail
            refine (DGb.out _ L2.out).mono ?_
            rintro e w3 ⟨rfl, b3⟩
            have hI4 := Lib.hid (isB_below hI3.out b3)
            have B3 := B2.trans (b3.mono B2.size)
            have s3 := b3.size
            clear b3 hI3
            go_wp2_with fail
            refine (writeString w1.heap.size w1.heap.size (Lib.byteCells A) tb _ hI4.out (by rw [Lib.byteCells_length]; omega) (by omega)).mono ?_
            rintro e w4 ⟨rfl, h4, b4, q4⟩
            rw [HCL.out] at h4
            have B4 := B3.trans b4
            have s4 := b4.size
            have hI5 := Lib.hid h4
            clear h4 q4 b4 hI4
            go_wp2_with (go_at_call 49; refine (Tryd.Builder_String_any w1.heap.size w1.heap.size _ _ (.inr hI5.out) (by omega)).mono ?_; rintro e w5 ⟨rfl, b5⟩)
            go_ret
            refine ⟨by rw [HD1.out]; rfl, K1.trans ((B4.trans b5).mono K1.size)⟩
        · have hD1 := HD.out
          have hfm : fmL k xs = fl xs xs.length := by unfold fmL; rw [if_neg hk]
          rw [hfm] at hD1
          have HD1 := Lib.hid hD1
          have h1 : ¬ k ≠ 0 := fun h => hk (.inl h)
          have h2 : ¬ xs.length = 0 := fun h => hk (.inr h)
          have g1 : (k != 0) = false := by simpa using h1
          have g1' : (k == 0) = true := by simpa using h1
          have g2 : ((xs.length : Int) == 0) = false := by
            rw [beq_eq_false_iff_ne]; omega
          clear hk hfm hD1 h1 h2
          go_wp2_with (go_at_call 49; refine (Tryd.Builder_String_any w1.heap.size w1.heap.size _ _ hI.out (by omega)).mono ?_; rintro e w5 ⟨rfl, b5⟩)
          go_ret
          refine ⟨by rw [HD1.out]; rfl, K1.trans ((hB3.trans b5).mono K1.size)⟩
end Go.Proofs.YtbicmlkjonaccaaDoor.Ln


namespace Go.Proofs.YtbicmlkjonaccaaDoor.Ln
open Go.ChangeShapes Go.WideShapes Go.ChangeAt Go.RowKit
open Go.Proofs.YtbicmlkjonaccaaDoor.Nm
set_option linter.unusedVariables false
set_option linter.unusedSimpArgs false
set_option maxRecDepth 8000

theorem app3 (l : List UInt8) (z : ByteArray) : ((⟨l.toArray⟩ : ByteArray) ++ (⟨#[42]⟩ : ByteArray) ++ z).data.toList = l ++ [42] ++ z.data.toList := by simp
set_option maxRecDepth 100000 in
set_option maxHeartbeats 8000000 in
theorem fmt2 (k : Int) (p : Option Addr) (xs : List Mo) (c : Nat) (w : World) (hn : xs.length ≤ 40) (RA : Hid (SlM w p xs)) (RS : Hid (∀ i, i < xs.length → (xs.getD i mo0).1.size ≤ maxLen))
    (RB : Hid (∀ i, i < xs.length → -9223372036854775808 ≤ (xs.getD i mo0).2 ∧ (xs.getD i mo0).2 ≤ 9223372036854775807)) (k0 : -9223372036854775808 ≤ k) (k1 : k ≤ 9223372036854775807) :
    Calls Tryd.prog 19 #[Lv k p xs.length c] w fun e w' => e = .returned (.string (if okL xs = true then ⟨(fmL k xs).toArray⟩ else ⟨#[]⟩)) ∧ Below w.heap.size w w' := by
  have VL := Lib.hid fun w h => val2 k p xs c w (by unfold maxLen; omega) h RS
  have B0 : Below w.heap.size w (w.alloc (Obj.cells #[Value.int .i64 k, Value.slice p xs.length c] 24)) := (Below.refl _ _).alloc (Nat.le_refl _) _
  cases hok : okL xs
  · rw [if_neg (by decide)]
    unfold vL at VL
    rw [hok, if_neg (by decide)] at VL
    have RA2 := Lib.hid (SlM.keep B0 RA.out)
    unfold Lv at *
    clear hok RB RS
    go_enter Tryd.func19, Tryd.ntmps19
    go_wp2_with (go_at_call 17; refine (VL.out _ RA2).mono ?_; rintro e w1 ⟨rfl, hb⟩)
    go_ret
    exact ⟨rfl, B0.trans (hb.mono B0.size)⟩
  · rw [if_pos rfl]
    unfold vL at VL
    rw [hok, if_pos rfl] at VL
    have HLEN := Lib.hid fun k hk => ok_bd hok RB.out hn (k := k) hk
    have RA2 := Lib.hid (SlM.keep B0 RA.out)
    unfold Lv at *
    clear hok RS
    obtain ⟨D, hD⟩ : ∃ D : ByteArray, ⟨(fmL k xs).toArray⟩ = D := ⟨_, rfl⟩
    rw [hD]
    have HD := Lib.hid hD
    clear hD
    go_enter Tryd.func19, Tryd.ntmps19
    go_wp2_with fail
    refine (VL.out _ RA2).mono ?_
    rintro e w1 ⟨rfl, hb⟩
    have c0 : w1.cell? ⟨w.heap.size, 0, none⟩ = some (.int .i64 k) := Rg.keep hb (by simp) (by go_cell)
    have c1 : w1.cell? ⟨w.heap.size, 1, none⟩ = some (.slice p xs.length c) := Rg.keep hb (by simp) (by go_cell)
    have K1 : Below w.heap.size w w1 := B0.trans (hb.mono B0.size)
    have hS : Hid (w1.cell? ⟨w.heap.size, 0, none⟩ = some (.int .i64 k) ∧ w1.cell? ⟨w.heap.size, 1, none⟩ = some (.slice p xs.length c) ∧ Below w.heap.size w w1) := Lib.hid ⟨c0, c1, K1⟩
    clear hb VL B0 RA2 c0 c1 K1
    go_wp2_with fail
    go_loopw [3, 4] (fun s a wr => ∃ (j : Nat) (t : ByteArray), a = .int .i64 (j : Int) ∧ s = .string t ∧ j ≤ xs.length ∧ t.size ≤ 1600 ∧ Hid (t.data.toList = fl xs j) ∧ Hid (wr.cell? ⟨w.heap.size, 0, none⟩ = some (.int .i64 k) ∧ wr.cell? ⟨w.heap.size, 1, none⟩ = some (.slice p xs.length c) ∧ Below w.heap.size w wr)) (fun _ a _ => xs.length - (intOf a).toNat)
    case atStart => exact ⟨0, ⟨#[]⟩, rfl, rfl, by omega, by decide, Lib.hid rfl, hS⟩
    case round =>
      obtain ⟨j, s, rfl, rfl, hj, hs, hI, hT⟩ := hrel
      clear hS
      obtain ⟨d0, d1, K0⟩ := hT.out
      have l0 : w.heap.size < wr.heap.size := World.block_lt_of_cell? _ _ d0
      have jj : (0 : Int) ≤ j := by omega
      by_cases hlt : j < xs.length
      · obtain ⟨b, o, rfl, e0, e1⟩ := RA.out j hlt
        have hbw : b < w.heap.size := World.block_lt_of_cell? _ _ e0
        replace e0 := Rg.keep K0 hbw e0
        replace e1 := Rg.keep K0 hbw e1
        have j1 : (j : Int) < xs.length := by omega
        obtain ⟨y0, y1⟩ := RB.out j hlt
        have hst : fl xs (j + 1) = fl xs j ++ sgT (fl xs j) (decide ((xs.getD j mo0).2 < 0)) ++ tmt (xs.getD j mo0) := rfl
        have hl1 := HLEN.out (j + 1) (by omega)
        obtain ⟨m, hm⟩ : ∃ m, xs.getD j mo0 = m := ⟨_, rfl⟩
        rw [hm] at e0 e1 hst y0 y1
        clear hm
        obtain ⟨z, by1⟩ := m
        dsimp only at e0 e1 hst y0 y1
        have SZ := Lib.hid fun w => rsize by1 y0 y1 w
        obtain ⟨ng, hng⟩ : ∃ ng, decide (by1 < 0) = ng := ⟨_, rfl⟩
        rw [hng] at hst
        by_cases h1 : by1.natAbs = 1
        · have ht : tmt (z, by1) = z.data.toList := by unfold tmt; rw [if_pos h1]; rfl
          rw [h1] at SZ
          have hN : (trm s ng z).data.toList = fl xs (j + 1) := by rw [trm_list, hI.out, hst, ht]
          have hsz : (trm s ng z).size ≤ 1600 := by rw [Lib.size_eq, hN]; exact hl1
          have hzz : z.size ≤ 1600 := by rw [hst, ht, List.length_append] at hl1; have : z.data.toList.length = z.size := by simp
                                         omega
          have TM := Lib.hid fun w => term1 s ng z w (by omega) (by omega)
          have HN := Lib.hid hN
          clear hst ht hl1 h1 y0 y1 hN
          go_wp2_with (first | (go_at_call 50; (with_reducible refine (SZ.out _).mono ?_); rintro e w8 ⟨rfl, rfl⟩) | (go_at_call 52; (with_reducible refine (TM.out _).mono ?_); rintro e w9 ⟨rfl, rfl⟩))
          go_roundw
          case rel => exact ⟨j + 1, _, by go_num, rfl, by omega, hsz, HN, hT⟩
          case measure => simp [intOf]; omega
        · have ht : tmt (z, by1) = Lib.decDigits by1.natAbs ++ [42] ++ z.data.toList := by unfold tmt; rw [if_neg h1]
          have DGb := Lib.hid fun w => rdigits by1.natAbs (by omega) w
          have hdl := dec20 by1.natAbs (by omega)
          obtain ⟨T, hT2⟩ : ∃ T, Lib.decDigits by1.natAbs = T := ⟨_, rfl⟩
          rw [hT2] at ht DGb hdl
          obtain ⟨tb, htb⟩ : ∃ tb : ByteArray, ⟨T.toArray⟩ = tb := ⟨_, rfl⟩
          have htl : tb.size = T.length := by rw [← htb]; exact arr_size T
          rw [htb] at DGb
          obtain ⟨u, hu⟩ : ∃ u : Nat, by1.natAbs = u := ⟨_, rfl⟩
          rw [hu] at SZ DGb h1
          have g1 : ((u : Int) == 1) = false := by rw [beq_eq_false_iff_ne]; omega
          have g2 : ((u : Int) != 1) = true := by simp; omega
          have hTT : (tb ++ (⟨#[42]⟩ : ByteArray) ++ z).data.toList = tmt (z, by1) := by rw [← htb, app3, ht]
          have hzz : z.size ≤ 1600 := by
            rw [hst, ht] at hl1
            simp only [List.length_append] at hl1
            have : z.data.toList.length = z.size := by simp
            omega
          have h42 : (⟨#[42]⟩ : ByteArray).size = 1 := rfl
          have q1 : (tb ++ (⟨#[42]⟩ : ByteArray)).size = T.length + 1 := by rw [ByteArray.size_append, htl]; rfl
          have q2 : (tb ++ (⟨#[42]⟩ : ByteArray) ++ z).size = T.length + 1 + z.size := by rw [ByteArray.size_append, q1]
          have hN : (trm s ng (tb ++ (⟨#[42]⟩ : ByteArray) ++ z)).data.toList = fl xs (j + 1) := by rw [trm_list, hI.out, hTT, hst]
          have hsz : (trm s ng (tb ++ (⟨#[42]⟩ : ByteArray) ++ z)).size ≤ 1600 := by rw [Lib.size_eq, hN]; exact hl1
          have TM := Lib.hid fun w => term1 s ng (tb ++ (⟨#[42]⟩ : ByteArray) ++ z) w (by omega) (by rw [q2]; omega)
          have HN := Lib.hid hN
          clear hst ht hl1 h1 y0 y1 hN hTT htb hT2 hu
          go_wp2_with (first | (go_at_call 50; (with_reducible refine (SZ.out _).mono ?_); rintro e w8 ⟨rfl, rfl⟩) | (go_at_call 51; (with_reducible refine (DGb.out _).mono ?_); rintro e w7 ⟨rfl, hb7⟩; have x0 := Rg.keep hb7 l0 d0; have x1 := Rg.keep hb7 l0 d1; have K7 : Below w.heap.size w w7 := K0.trans (hb7.mono K0.size)) | (go_at_call 52; (with_reducible refine (TM.out _).mono ?_); rintro e w9 ⟨rfl, rfl⟩))
          go_roundw
          case rel => exact ⟨j + 1, _, by go_num, rfl, by omega, hsz, HN, Lib.hid ⟨x0, x1, K7⟩⟩
          case measure => simp [intOf]; omega
      · obtain rfl : j = xs.length := by omega
        by_cases hk : k ≠ 0 ∨ xs.length = 0
        · obtain ⟨ng, hng⟩ : ∃ ng, decide (k < 0) = ng := ⟨_, rfl⟩
          have hfm : fmL k xs = fl xs xs.length ++ sgT (fl xs xs.length) ng ++ Lib.decDigits k.natAbs := by unfold fmL; rw [if_pos hk, hng]
          have SZ := Lib.hid fun w => rsize k k0 k1 w
          have DGk := Lib.hid fun w => rdigits k.natAbs (by omega) w
          have hdl := dec20 k.natAbs (by omega)
          obtain ⟨T, hT2⟩ : ∃ T, Lib.decDigits k.natAbs = T := ⟨_, rfl⟩
          rw [hT2] at hfm DGk hdl
          obtain ⟨tb, htb⟩ : ∃ tb : ByteArray, ⟨T.toArray⟩ = tb := ⟨_, rfl⟩
          have htl : tb.size = T.length := by rw [← htb]; exact arr_size T
          rw [htb] at DGk
          have TM := Lib.hid fun w => term1 s ng tb w (by omega) (by omega)
          have hE : trm s ng tb = D := by
            rw [← HD.out, hfm]
            apply ByteArray.ext
            apply Array.toList_inj.1
            rw [trm_list, hI.out, ← htb]
          rw [hE] at TM
          have hgo : (k != 0) = true ∨ ((k != 0) = false ∧ ((xs.length : Int) == 0) = true) := by
            by_cases q : k = 0
            · right; exact ⟨by simp [q], by rcases hk with h | h; exact absurd q h; simp [h]⟩
            · left; simpa using q
          have hz : wr.cell? ⟨w.heap.size, 0, none⟩ = some (.int .i64 k) ∧ wr.cell? ⟨w.heap.size, 1, none⟩ = some (.slice p xs.length c) ∧ Below w.heap.size w wr := ⟨d0, d1, K0⟩
          have HS : Hid (∀ u u' : World, (u.cell? ⟨w.heap.size, 0, none⟩ = some (.int .i64 k) ∧ u.cell? ⟨w.heap.size, 1, none⟩ = some (.slice p xs.length c) ∧ Below w.heap.size w u) → Below u.heap.size u u' → (u'.cell? ⟨w.heap.size, 0, none⟩ = some (.int .i64 k) ∧ u'.cell? ⟨w.heap.size, 1, none⟩ = some (.slice p xs.length c) ∧ Below w.heap.size w u')) := Lib.hid (fun u u' h hb => ⟨Rg.keep hb (World.block_lt_of_cell? _ _ h.1) h.1, Rg.keep hb (World.block_lt_of_cell? _ _ h.2.1) h.2.1, h.2.2.trans (hb.mono h.2.2.size)⟩)
          clear hk hfm hT2 htb hE hI hT
          rcases hgo with hg | ⟨hg, hg2⟩
          all_goals
            have hg' : (k == 0) = !(k != 0) := by simp [bne]
            rw [hg] at hg'
            simp only [Bool.not_true, Bool.not_false] at hg'
            go_wp2_with fail
            refine Rk.begin (S := fun wS => wS.cell? ⟨w.heap.size, 0, none⟩ = some (.int .i64 k) ∧ wS.cell? ⟨w.heap.size, 1, none⟩ = some (.slice p xs.length c) ∧ Below w.heap.size w wS) 9 (by kernel_rfl) (HS.out _ _ hz (Below.drew (Below.refl _ _))) (fun hHeld => ?_)
            refine Rk.takeP (i := 0) (v := ?_) rfl (by kernel_rfl) (by kernel_rfl) (by kernel_rfl) (by kernel_rfl) (fun _ _ _ h => h) (Or.inl ⟨by kernel_rfl, ?_⟩) (by assumption) ?_
            rotate_left
            · ((intro w hSw; go_simp) <;> with_reducible rfl)
            try simp only [Act.put, List.setIfInBounds_toArray, List.set_cons_zero, List.set_cons_succ]
            refine Rk.takeP (i := 1) (v := ?_) rfl (by kernel_rfl) (by kernel_rfl) (by kernel_rfl) (by kernel_rfl) (fun _ _ _ h => h) (Or.inl ⟨by kernel_rfl, ?_⟩) (by assumption) ?_
            rotate_left
            · ((intro w hSw; go_simp) <;> with_reducible rfl)
            try simp only [Act.put, List.setIfInBounds_toArray, List.set_cons_zero, List.set_cons_succ]
            refine Rk.take [9] (i := 2) (v := ?_) rfl (by kernel_rfl) (by kernel_rfl) (by kernel_rfl) (by kernel_rfl) (by kernel_rfl) (fun _ _ _ h => h) (Or.inl ⟨by kernel_rfl, ?_⟩) (by assumption) ?_
            rotate_left
            · ((intro w hSw; (try dsimp only at hSw); go_simp) <;> with_reducible rfl)
            try simp only [Act.put, List.setIfInBounds_toArray, List.set_cons_zero, List.set_cons_succ]
            refine Rk.takeP (i := 3) (v := ?_) rfl (by kernel_rfl) (by kernel_rfl) (by kernel_rfl) (by kernel_rfl) (fun _ _ _ h => h) (Or.inl ⟨by kernel_rfl, ?_⟩) (by assumption) ?_
            rotate_left
            · ((intro w hSw; go_simp) <;> with_reducible rfl)
            try simp only [Act.put, List.setIfInBounds_toArray, List.set_cons_zero, List.set_cons_succ]
            refine Rk.takeP (i := 4) (v := ?_) rfl (by kernel_rfl) (by kernel_rfl) (by kernel_rfl) (by kernel_rfl) (fun _ _ _ h => h) (Or.inl ⟨by kernel_rfl, ?_⟩) (by assumption) ?_
            rotate_left
            · ((intro w hSw; go_simp) <;> with_reducible rfl)
            try simp only [Act.put, List.setIfInBounds_toArray, List.set_cons_zero, List.set_cons_succ]
            refine Rk.take [9] (i := 5) (v := ?_) rfl (by kernel_rfl) (by kernel_rfl) (by kernel_rfl) (by kernel_rfl) (by kernel_rfl) (fun _ _ _ h => h) (Or.inl ⟨by kernel_rfl, ?_⟩) (by assumption) ?_
            rotate_left
            · ((intro w hSw; (try dsimp only at hSw); go_simp) <;> with_reducible rfl)
            try simp only [Act.put, List.setIfInBounds_toArray, List.set_cons_zero, List.set_cons_succ]
            refine Rk.one (i := 6) (by kernel_rfl) rfl (fun KK hK => ?_)
            rw [if_pos (by kernel_rfl)]
            go_simp
            ((with_reducible refine (SZ.out _).mono ?_); rintro e u9 ⟨rfl, rfl⟩)
            first | (refine hK.out _ _ (fun _ => hHeld) (fun hHeld => ?_)) | (refine hK.out _ _ hHeld (fun hHeld => ?_)) | (go_wp2_with fail; refine hK.out _ _ hHeld (fun hHeld => ?_))
            clear hK KK
            refine Rk.one (i := 7) (by kernel_rfl) rfl (fun KK hK => ?_)
            rw [if_pos (by kernel_rfl)]
            go_simp
            ((with_reducible refine (DGk.out _).mono ?_); rintro e u ⟨rfl, hb⟩)
            first | (refine hK.out _ _ (fun _ => HS.out _ _ hHeld hb) (fun hHeld => ?_)) | (refine hK.out _ _ (HS.out _ _ hHeld hb) (fun hHeld => ?_)) | (go_wp2_with fail; refine hK.out _ _ (HS.out _ _ hHeld hb) (fun hHeld => ?_))
            clear hK KK
            refine Rk.one (i := 8) (by kernel_rfl) rfl (fun KK hK => ?_)
            rw [if_pos (by kernel_rfl)]
            go_simp
            ((with_reducible refine (TM.out _).mono ?_); rintro e u9 ⟨rfl, rfl⟩)
            first | (refine hK.out _ _ (fun _ => hHeld) (fun hHeld => ?_)) | (refine hK.out _ _ hHeld (fun hHeld => ?_)) | (go_wp2_with fail; refine hK.out _ _ hHeld (fun hHeld => ?_))
            clear hK KK
            refine Rk.tail [9] [_] (by kernel_rfl) (by kernel_rfl) rfl (by decide) ?_
            obtain ⟨x0, x1, K5⟩ := hHeld
            go_wp2
            go_ret
            exact ⟨rfl, K5⟩
        · have hfm : fmL k xs = fl xs xs.length := by unfold fmL; rw [if_neg hk]
          have hE : s = D := by
            rw [← HD.out, hfm]
            apply ByteArray.ext
            apply Array.toList_inj.1
            rw [hI.out]
          have h1 : ¬ k ≠ 0 := fun h => hk (.inl h)
          have h2 : ¬ xs.length = 0 := fun h => hk (.inr h)
          have g1 : (k != 0) = false := by simpa using h1
          have g1' : (k == 0) = true := by simpa using h1
          have g2 : ((xs.length : Int) == 0) = false := by
            rw [beq_eq_false_iff_ne]; omega
          subst hE
          clear hk hfm h1 h2
          go_wp2
          go_ret
          exact ⟨rfl, K0⟩
end Go.Proofs.YtbicmlkjonaccaaDoor.Ln


namespace Go.Proofs.YtbicmlkjonaccaaDoor.Ln
open Go.ChangeShapes Go.WideShapes Go.ChangeAt Go.RowKit
open Go.Proofs.YtbicmlkjonaccaaDoor.Nm
set_option linter.unusedVariables false
set_option linter.unusedSimpArgs false
set_option maxRecDepth 8000

def pfx (eq : Bool) : ByteArray := if eq then ⟨#[48, 32, 61, 61, 32]⟩ else ⟨#[48, 32, 60, 61, 32]⟩
/-- The text of a constraint. -/
def cfm (k : Int) (xs : List Mo) (eq : Bool) : ByteArray := if okL xs = true then pfx eq ++ ⟨(fmL k xs).toArray⟩ else ⟨#[]⟩
theorem fmL_len {k : Int} {xs : List Mo} (h : okL xs = true) (hb : ∀ i, i < xs.length → -9223372036854775808 ≤ (xs.getD i mo0).2 ∧ (xs.getD i mo0).2 ≤ 9223372036854775807) (hn : xs.length ≤ 40) (k0 : -9223372036854775808 ≤ k) (k1 : k ≤ 9223372036854775807) : (fmL k xs).length ≤ 1700 := by
  have h1 := ok_bd h hb hn (Nat.le_refl xs.length)
  have h2 := sgT_len (fl xs xs.length) (decide (k < 0))
  have h3 := dec20 k.natAbs (by omega)
  unfold fmL
  split
  · rw [List.length_append, List.length_append]; omega
  · omega

set_option maxHeartbeats 4000000 in
theorem cfmt1 (k : Int) (p : Option Addr) (xs : List Mo) (c : Nat) (eq : Bool) (w : World) (hn : xs.length ≤ 40) (RA : Hid (SlM w p xs)) (RS : Hid (∀ i, i < xs.length → (xs.getD i mo0).1.size ≤ maxLen))
    (RB : Hid (∀ i, i < xs.length → -9223372036854775808 ≤ (xs.getD i mo0).2 ∧ (xs.getD i mo0).2 ≤ 9223372036854775807)) (k0 : -9223372036854775808 ≤ k) (k1 : k ≤ 9223372036854775807) (hL : LA w) :
    Calls Tryd.prog 38 #[Cv k p xs.length c eq] w fun e w' => e = .returned (.string (cfm k xs eq)) ∧ Below w.heap.size w w' := by
  have VL := Lib.hid fun w h => cval1 k p xs c eq w (by unfold maxLen; omega) h RS
  have FM := Lib.hid fun w h hl => fmt1 k p xs c w hn h RS RB k0 k1 hl
  have B0 : Below w.heap.size w (w.alloc (Obj.cells #[Value.int .i64 k, Value.slice p xs.length c, Value.bool eq] 36)) := (Below.refl _ _).alloc (Nat.le_refl _) _
  have RA2 := Lib.hid (SlM.keep B0 RA.out)
  have HL := Lib.hid hL
  unfold Cv Lv cfm vL at *
  cases hok : okL xs
  · rw [hok] at VL FM
    rw [if_neg (by decide)] at VL FM ⊢
    clear hok RB RS
    go_enter Tryd.func38, Tryd.ntmps38
    go_wp2_with (go_at_call 24; refine (VL.out _ RA2).mono ?_; rintro e w1 ⟨rfl, hb⟩)
    go_ret
    exact ⟨rfl, B0.trans (hb.mono B0.size)⟩
  · have hlen := fmL_len (k := k) hok RB.out hn k0 k1
    rw [hok] at VL FM
    rw [if_pos rfl] at VL FM ⊢
    obtain ⟨D, hD⟩ : ∃ D : ByteArray, ⟨(fmL k xs).toArray⟩ = D := ⟨_, rfl⟩
    have hDl : D.size ≤ 1700 := by rw [← hD, arr_size]; exact hlen
    rw [hD] at FM ⊢
    clear hok RB RS hlen hD k0 k1
    have h5 : ∀ b, (pfx b).size = 5 := fun b => by cases b <;> rfl
    cases eq
    · have q5 := h5 false
      have e5 : (⟨#[48, 32, 60, 61, 32]⟩ : ByteArray) = pfx false := rfl
      clear h5
      go_enter Tryd.func38, Tryd.ntmps38
      go_wp2_with (first | (go_at_call 24; refine (VL.out _ RA2).mono ?_; rintro e w1 ⟨rfl, hb⟩; have K1 : Below w.heap.size w w1 := B0.trans (hb.mono B0.size); have c0 : w1.cell? ⟨w.heap.size, 0, none⟩ = some (.int .i64 k) := Rg.keep hb (by simp) (by go_cell); have c1 : w1.cell? ⟨w.heap.size, 1, none⟩ = some (.slice p xs.length c) := Rg.keep hb (by simp) (by go_cell); have c2 : w1.cell? ⟨w.heap.size, 2, none⟩ = some (.bool false) := Rg.keep hb (by simp) (by go_cell)) | (go_at_call 18; refine (FM.out _ (Lib.hid (SlM.keep K1 RA.out)) (HL.out.below K1)).mono ?_; rintro e w2 ⟨rfl, hb2⟩))
      go_ret
      exact ⟨rfl, K1.trans (hb2.mono K1.size)⟩
    · have q5 := h5 true
      have e5 : (⟨#[48, 32, 61, 61, 32]⟩ : ByteArray) = pfx true := rfl
      clear h5
      go_enter Tryd.func38, Tryd.ntmps38
      go_wp2_with (first | (go_at_call 24; refine (VL.out _ RA2).mono ?_; rintro e w1 ⟨rfl, hb⟩; have K1 : Below w.heap.size w w1 := B0.trans (hb.mono B0.size); have c0 : w1.cell? ⟨w.heap.size, 0, none⟩ = some (.int .i64 k) := Rg.keep hb (by simp) (by go_cell); have c1 : w1.cell? ⟨w.heap.size, 1, none⟩ = some (.slice p xs.length c) := Rg.keep hb (by simp) (by go_cell); have c2 : w1.cell? ⟨w.heap.size, 2, none⟩ = some (.bool true) := Rg.keep hb (by simp) (by go_cell)) | (go_at_call 18; refine (FM.out _ (Lib.hid (SlM.keep K1 RA.out)) (HL.out.below K1)).mono ?_; rintro e w2 ⟨rfl, hb2⟩))
      go_ret
      exact ⟨rfl, K1.trans (hb2.mono K1.size)⟩

set_option maxHeartbeats 4000000 in
theorem cfmt2 (k : Int) (p : Option Addr) (xs : List Mo) (c : Nat) (eq : Bool) (w : World) (hn : xs.length ≤ 40) (RA : Hid (SlM w p xs)) (RS : Hid (∀ i, i < xs.length → (xs.getD i mo0).1.size ≤ maxLen))
    (RB : Hid (∀ i, i < xs.length → -9223372036854775808 ≤ (xs.getD i mo0).2 ∧ (xs.getD i mo0).2 ≤ 9223372036854775807)) (k0 : -9223372036854775808 ≤ k) (k1 : k ≤ 9223372036854775807)  :
    Calls Tryd.prog 39 #[Cv k p xs.length c eq] w fun e w' => e = .returned (.string (cfm k xs eq)) ∧ Below w.heap.size w w' := by
  have VL := Lib.hid fun w h => cval2 k p xs c eq w (by unfold maxLen; omega) h RS
  have FM := Lib.hid fun w h  => fmt2 k p xs c w hn h RS RB k0 k1 
  have B0 : Below w.heap.size w (w.alloc (Obj.cells #[Value.int .i64 k, Value.slice p xs.length c, Value.bool eq] 36)) := (Below.refl _ _).alloc (Nat.le_refl _) _
  have RA2 := Lib.hid (SlM.keep B0 RA.out)
  
  unfold Cv Lv cfm vL at *
  cases hok : okL xs
  · rw [hok] at VL FM
    rw [if_neg (by decide)] at VL FM ⊢
    clear hok RB RS
    go_enter Tryd.func39, Tryd.ntmps39
    go_wp2_with (go_at_call 25; refine (VL.out _ RA2).mono ?_; rintro e w1 ⟨rfl, hb⟩)
    go_ret
    exact ⟨rfl, B0.trans (hb.mono B0.size)⟩
  · have hlen := fmL_len (k := k) hok RB.out hn k0 k1
    rw [hok] at VL FM
    rw [if_pos rfl] at VL FM ⊢
    obtain ⟨D, hD⟩ : ∃ D : ByteArray, ⟨(fmL k xs).toArray⟩ = D := ⟨_, rfl⟩
    have hDl : D.size ≤ 1700 := by rw [← hD, arr_size]; exact hlen
    rw [hD] at FM ⊢
    clear hok RB RS hlen hD k0 k1
    have h5 : ∀ b, (pfx b).size = 5 := fun b => by cases b <;> rfl
    cases eq
    · have q5 := h5 false
      have e5 : (⟨#[48, 32, 60, 61, 32]⟩ : ByteArray) = pfx false := rfl
      clear h5
      go_enter Tryd.func39, Tryd.ntmps39
      go_wp2_with (first | (go_at_call 25; refine (VL.out _ RA2).mono ?_; rintro e w1 ⟨rfl, hb⟩; have K1 : Below w.heap.size w w1 := B0.trans (hb.mono B0.size); have c0 : w1.cell? ⟨w.heap.size, 0, none⟩ = some (.int .i64 k) := Rg.keep hb (by simp) (by go_cell); have c1 : w1.cell? ⟨w.heap.size, 1, none⟩ = some (.slice p xs.length c) := Rg.keep hb (by simp) (by go_cell); have c2 : w1.cell? ⟨w.heap.size, 2, none⟩ = some (.bool false) := Rg.keep hb (by simp) (by go_cell)) | (go_at_call 19; refine (FM.out _ (Lib.hid (SlM.keep K1 RA.out)) ).mono ?_; rintro e w2 ⟨rfl, hb2⟩))
      go_ret
      exact ⟨rfl, K1.trans (hb2.mono K1.size)⟩
    · have q5 := h5 true
      have e5 : (⟨#[48, 32, 61, 61, 32]⟩ : ByteArray) = pfx true := rfl
      clear h5
      go_enter Tryd.func39, Tryd.ntmps39
      go_wp2_with (first | (go_at_call 25; refine (VL.out _ RA2).mono ?_; rintro e w1 ⟨rfl, hb⟩; have K1 : Below w.heap.size w w1 := B0.trans (hb.mono B0.size); have c0 : w1.cell? ⟨w.heap.size, 0, none⟩ = some (.int .i64 k) := Rg.keep hb (by simp) (by go_cell); have c1 : w1.cell? ⟨w.heap.size, 1, none⟩ = some (.slice p xs.length c) := Rg.keep hb (by simp) (by go_cell); have c2 : w1.cell? ⟨w.heap.size, 2, none⟩ = some (.bool true) := Rg.keep hb (by simp) (by go_cell)) | (go_at_call 19; refine (FM.out _ (Lib.hid (SlM.keep K1 RA.out)) ).mono ?_; rintro e w2 ⟨rfl, hb2⟩))
      go_ret
      exact ⟨rfl, K1.trans (hb2.mono K1.size)⟩
end Go.Proofs.YtbicmlkjonaccaaDoor.Ln


namespace Go.Proofs.YtbicmlkjonaccaaDoor.Ln
open Go.ChangeShapes Go.WideShapes Go.ChangeAt Go.RowKit
open Go.Proofs.YtbicmlkjonaccaaDoor.Nm
set_option linter.unusedVariables false
set_option linter.unusedSimpArgs false
set_option maxRecDepth 8000

theorem rsA (l : List Mo) (h : l.all (fun m => decide (m.1.size ≤ maxLen) && decide (-9223372036854775808 ≤ m.2) && decide (m.2 ≤ 9223372036854775807)) = true) : Hid (∀ i, i < l.length → (l.getD i mo0).1.size ≤ maxLen ∧ -9223372036854775808 ≤ (l.getD i mo0).2 ∧ (l.getD i mo0).2 ≤ 9223372036854775807) := Lib.hid fun i hi => by
  have e1 : l.getD i mo0 = l[i] := by unfold List.getD; rw [List.getElem?_eq_getElem hi]; rfl
  have h2 := List.all_eq_true.1 h l[i] (List.getElem_mem hi)
  simp only [Bool.and_eq_true, decide_eq_true_eq] at h2
  rw [e1]
  exact ⟨h2.1.1, h2.1.2, h2.2⟩
theorem ti1 (p : Option Addr) (c : Nat) (w : World) (h : SlM w p [mI 2, mJ 4]) : Calls Tryd.prog 28 #[Cv (-3) p 2 c false] w (TR (-2, [mI 1, mJ 2], false, 0, 0) w) := by
  have T := tig_ge (-3) p [mI 2, mJ 4] c w (by simp) (Lib.hid h) (rsA _ (by decide +kernel)) (by decide) (by decide) (by decide +kernel) (by simp)
  rw [show (-3 / (gcdL 0 [mI 2, mJ 4] : Int)) = -2 by decide +kernel, show tdY (gcdL 0 [mI 2, mJ 4]) [mI 2, mJ 4] = [mI 1, mJ 2] by decide +kernel] at T
  exact T
theorem ti2 (p : Option Addr) (c : Nat) (w : World) (h : SlM w p [mI 2]) : Calls Tryd.prog 28 #[Cv (-3) p 1 c true] w (TR (-1, [], false, 2, 0) w) :=
  tig_no (-3) p [mI 2] c true w (by simp) (Lib.hid h) (rsA _ (by decide +kernel)) (by decide) (by decide) (by decide +kernel) (by simp) rfl (by decide +kernel)
theorem ti3 (k : Int) (k1 : -9223372036854775808 ≤ k) (k2 : k ≤ 9223372036854775807) (p : Option Addr) (c : Nat) (w : World) (h : SlM w p [mI 1]) : Calls Tryd.prog 28 #[Cv k p 1 c false] w (TR (k, [mI 1], false, 0, 0) w) := by
  have T := tig_ge k p [mI 1] c w (by simp) (Lib.hid h) (rsA _ (by decide +kernel)) k1 k2 (by decide +kernel) (by simp)
  rw [show (gcdL 0 [mI 1] : Int) = 1 by decide +kernel, show tdY (gcdL 0 [mI 1]) [mI 1] = [mI 1] by decide +kernel, Int.ediv_one] at T
  exact T
theorem ni1 (p : Option Addr) (c : Nat) (w : World) (h : SlM w p [mI 1]) : Calls Tryd.prog 31 #[Cv (-3) p 1 c false] w (NR 2 [mI (-1)] w) :=
  neg_ge (-3) p [mI 1] c w (by simp) (Lib.hid h) (rsA _ (by decide +kernel)) (by decide) (by decide) (by decide +kernel) [mI (-1)] 0 (by decide +kernel)
theorem no1 (p : Option Addr) (c : Nat) (w : World) (h : SlC w p [(0, [mI 1]), (-2, [mI 1])]) : Calls Tryd.prog 36 #[.slice p 2 c] w (NF (-2) [mI 1] w) :=
  norm2 p c 0 (-2) 0 (-2) [mI 1] [mI 1] w (by decide) (Lib.hid h) (Lib.hid fun p c w h => ti3 0 (by decide) (by decide) p c w h) (Lib.hid fun p c w h => ti3 (-2) (by decide) (by decide) p c w h) (by decide +kernel) (by decide +kernel)
theorem fo1 (p : Option Addr) (c : Nat) (w : World) (h : SlM w p [mI 1]) (hL : LA w) : Calls Tryd.prog 38 #[Cv (-3) p 1 c true] w fun e w' => e = .returned (.string ⟨#[48, 32, 61, 61, 32, 105, 32, 45, 32, 51]⟩) ∧ Below w.heap.size w w' := by
  have T := cfmt1 (-3) p [mI 1] c true w (by simp) (Lib.hid h) (Lib.hid fun i hi => ((rsA [mI 1] (by decide +kernel)).out i hi).1) (Lib.hid fun i hi => ((rsA [mI 1] (by decide +kernel)).out i hi).2) (by decide) (by decide) hL
  rw [show cfm (-3) [mI 1] true = ⟨#[48, 32, 61, 61, 32, 105, 32, 45, 32, 51]⟩ by decide +kernel] at T
  exact T
end Go.Proofs.YtbicmlkjonaccaaDoor.Ln
