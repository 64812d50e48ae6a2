/- Linear forms: copies. -/
import Derived.Test.YthdeaneffnlffaaY49
import Derived.Test.YthdeaneffnlffaaY27
import Derived.Test.YthdeaneffnlffaaY19
import Derived.OwnWalk
namespace Go.Proofs.Ythdeaneffnlffaa.Ln
open Go.ChangeShapes Go.WideShapes Go.ChangeAt Go.RowKit
set_option linter.unusedVariables false
set_option linter.unusedSimpArgs false
theorem dl1 (s : ByteArray) (a : Int) (w : World) : Calls Try.prog 63 #[.agg #[.string s, .int .i64 a]] w fun e w' => e = .returned (.agg #[.string s, .int .i64 a]) ∧ Below w.heap.size w w' := by
  go_enter Try.func63, Try.ntmps63
  go_wp2
  exact bodyPost_ret (v := .agg #[.string s, .int .i64 a]) (by simp [results, Try.results63, go_sem]) rfl ⟨rfl, by first | exact ((Below.refl _ _).alloc (Nat.le_refl _) _).alloc (by simp) _ | exact below2 (((Below.refl _ _).alloc (Nat.le_refl _) _).alloc (by simp) _) (by simp) _ _⟩
def OWm (xs : List Mo) (w : World) (e : Ending) (w' : World) : Prop := ∃ v, e = .returned v ∧ w'.ownsRow w.heap.size 55 2 v xs.length (moCs xs) ∧ Below w.heap.size w w'
theorem set2_take {l : List Value} {j : Nat} {a b : Value} {L : List Value} (hl : 2 * j + 2 ≤ l.length) (h : l.take (2 * j) = L) : ((l.set (2 * j) a).set (2 * j + 1) b).take (2 * (j + 1)) = L ++ [a, b] := by
  apply List.ext_getElem?
  intro i
  have hL : L.length = 2 * j := by rw [← h, List.length_take]; omega
  by_cases h1 : i < 2 * j
  · rw [List.getElem?_take_of_lt (by omega), List.getElem?_set_ne (by omega), List.getElem?_set_ne (by omega), List.getElem?_append_left (by omega), ← h, List.getElem?_take_of_lt h1]
  · by_cases h2 : i = 2 * j
    · subst h2
      rw [List.getElem?_take_of_lt (by omega), List.getElem?_set_ne (by omega), List.getElem?_set_self (by omega), List.getElem?_append_right (by omega), hL, Nat.sub_self]
      rfl
    · by_cases h3 : i = 2 * j + 1
      · subst h3
        rw [List.getElem?_take_of_lt (by omega), List.getElem?_set_self (by simp; omega), List.getElem?_append_right (by omega), hL, show 2 * j + 1 - 2 * j = 1 by omega]
        rfl
      · rw [List.getElem?_eq_none (by simp; omega), List.getElem?_eq_none (by simp; omega)]
set_option maxRecDepth 100000 in
set_option maxHeartbeats 16000000 in
theorem each1 (p : Option Addr) (xs : List Mo) (c : Nat) (w : World) (hn : xs.length ≤ 1000) (RA : Hid (SlM w p xs)) :
    Calls Try.prog 62 #[.slice p xs.length c, .func (.func 63) #[] #[]] w (OWm xs w) := by
  have CD := Lib.hid dl1
  by_cases h0 : xs.length = 0
  · obtain rfl : xs = [] := List.eq_nil_of_length_eq_zero h0
    clear h0 hn
    simp only [List.length_nil]
    go_enter Try.func62, Try.ntmps62
    go_wp2
    go_ret
    exact ⟨_, rfl, World.ownsRow_nil _ _ _ _, Below.refl _ _⟩
  · obtain ⟨n, hxn⟩ : ∃ n, xs.length = n := ⟨_, rfl⟩
    rw [hxn] at hn h0 ⊢
    have h1 : 1 ≤ n := by omega
    have b0 : ((n : Int) == 0) = false := beq_false_of_ne (by omega)
    have HN := Lib.hid hxn
    clear hxn h0
    obtain ⟨i0, hi, hz0, hz1, hz2⟩ := info_parts infoMo
    have HZ := Lib.hid hz2
    clear hz2
    go_enter Try.func62, Try.ntmps62
    go_wp2_with (refine wpList_make_full _ rfl _ _ 22 rfl w.heap.size 55 i0 (.agg #[.string ⟨#[]⟩, .int .i64 0]) 2 Try.underlying22 hi hz0 hz1 .i64 .i64 _ _ n rfl rfl rfl rfl (by rw [HZ.out]; omega) (by unfold maxLen; omega) (Nat.le_refl _) ?_; intro w1 hown hg; have hB : Below w.heap.size w w1 := below_grown (Below.refl _ _) hg (Nat.le_refl _) (by intro k hk; cases hk); have HO := Lib.hid hown; clear hown hg)
    generalize (madeCells (Value.agg #[.string ⟨#[]⟩, .int .i64 0]).cells (n * 2)).toList = cs at *
    go_loopw [16] (fun i wr => ∃ (j : Nat) (l : List Value), i = .int .i64 (j : Int) ∧ j ≤ n ∧ Below w.heap.size w wr ∧ Hid (wr.ownsRow w.heap.size 55 2 (.slice (some ⟨w.heap.size, 0, none⟩) n n) n l) ∧ Hid (l.take (2 * j) = moCs (xs.take j))) (fun i _ => n - (intOf i).toNat)
    case atStart => exact ⟨0, cs, rfl, by omega, hB, HO, Lib.hid (by simp [moCs])⟩
    case round =>
      obtain ⟨j, l, rfl, hj, hBr, hO, hT⟩ := hrel
      have j0 : (0 : Int) ≤ j := by omega
      clear hB HO
      by_cases hlt : j < n
      · have hltx : j < xs.length := by rw [HN.out]; exact hlt
        obtain ⟨b, o, rfl, c0, c1⟩ := SlM.keep hBr RA.out j hltx
        have htk := Lib.hid (take_step hltx)
        obtain ⟨⟨s, a⟩, hx⟩ : ∃ x, xs.getD j mo0 = x := ⟨_, rfl⟩
        have htk := Lib.hid (by have h := htk.out; rw [hx] at h; exact h)
        rw [hx] at c0 c1
        simp only at c0 c1
        clear hx hltx
        have j1 : (j : Int) < n := by omega
        have BM := (Below.refl wr.heap.size wr).alloc (Nat.le_refl _) (Obj.cells #[Value.string s, Value.int .i64 a] 55)
        have FM : Cl [(wr.heap.size, 0, .string s), (wr.heap.size, 1, .int .i64 a)] (wr.alloc (Obj.cells #[Value.string s, Value.int .i64 a] 55)) := Cl.cons (by go_cell) (by first | go_cell | simp) (Cl.cons (by go_cell) (by first | go_cell | simp) (Cl.nil _))
        have OM := Lib.hid (own_below hO.out BM)
        have KM := hBr.trans (BM.mono hBr.size)
        go_wp2_with fail
        generalize wr.alloc (Obj.cells #[Value.string s, Value.int .i64 a] 55) = wm at *
        generalize wr.heap.size = gm at *
        have m0 := FM.head
        have m1 := FM.tail.head
        clear c0 c1 BM hO
        go_wp2_with fail
        refine (CD.out s a _).mono ?_
        rintro e w2 ⟨rfl, hb⟩
        have O2 := own_below OM.out hb
        have K2 := KM.trans (hb.mono KM.size)
        have hll : l.length = n * 2 := O2.1
        have c0 := O2.cellAt (j * 2) (by omega)
        have c1 := O2.cellAt (j * 2 + 1) (by omega)
        have z0 := O2.frozenAt (j * 2)
        have z1 := O2.frozenAt (j * 2 + 1)
        rw [List.getElem?_eq_getElem (by omega)] at c0 c1
        have O3 := ((O2.stored (j * 2) (.string s)).1.stored (j * 2 + 1) (.int .i64 a)).1
        have HT : Hid (((l.set (j * 2) (.string s)).set (j * 2 + 1) (.int .i64 a)).take (2 * (j + 1)) = moCs (xs.take (j + 1))) := Lib.hid (by
          rw [htk.out, moCs_snoc, Nat.mul_comm j 2]
          exact set2_take (by omega) hT.out)
        have O3 := Lib.hid O3
        generalize l[j * 2] = x0 at *
        generalize l[j * 2 + 1] = x1 at *
        have K3 := below2 (n := w.heap.size) K2 (Nat.le_refl _) (.string s) (.int .i64 a)
        have K3' : Below w.heap.size w ((w2.setCell ⟨w.heap.size, j * 2, none⟩ (.string s)).setCell ⟨w.heap.size, j * 2 + 1, none⟩ (.int .i64 a)) := (K2.setCell (p := ⟨w.heap.size, j * 2, none⟩) (Nat.le_refl _) _).setCell (p := ⟨w.heap.size, j * 2 + 1, none⟩) (Nat.le_refl _) _
        clear O2 K2 hb OM KM FM K3 m0 m1 hT
        go_wp2
        go_roundw
        case rel => exact ⟨j + 1, _, by go_num, by omega, K3', O3, HT⟩
        case measure => simp [intOf]; omega
      · have j1 : ¬ (j : Int) < n := by omega
        obtain rfl : j = n := by omega
        have hO2 := hO.out
        have hT2 := hT.out
        have hl2 := hO2.1
        rw [show 2 * j = l.length by omega, List.take_length, ← HN.out, List.take_length] at hT2
        rw [hT2] at hO2
        clear hO hT hT2 hl2
        go_wp2
        go_ret
        exact ⟨_, rfl, by rw [HN.out]; exact hO2, hBr⟩
def DLm (k : Int) (xs : List Mo) (w : World) (e : Ending) (w' : World) : Prop := ∃ v, e = .returned (.agg #[.int .i64 k, v]) ∧ w'.ownsRow w.heap.size 55 2 v xs.length (moCs xs) ∧ Below w.heap.size w w'
set_option maxRecDepth 100000 in
set_option maxHeartbeats 16000000 in
theorem deepLin1 (k : Int) (p : Option Addr) (xs : List Mo) (c : Nat) (w : World) (hn : xs.length ≤ 1000) (RA : Hid (SlM w p xs)) :
    Calls Try.prog 43 #[Lv k p xs.length c] w (DLm k xs w) := by
  have CE := Lib.hid fun u R => each1 p xs c u hn R
  have B0 : Below w.heap.size w ((w.alloc (Obj.cells #[Value.int .i64 k, Value.slice p xs.length c] 24)).alloc (Obj.cells #[Value.int .i64 0, Value.slice none 0 0] 24)) := two_below _ _
  have S0 : w.heap.size + 1 < (((w.alloc (Obj.cells #[Value.int .i64 k, Value.slice p xs.length c] 24)).alloc (Obj.cells #[Value.int .i64 0, Value.slice none 0 0] 24))).heap.size := by simp
  have F0 : Cl [(w.heap.size, 0, .int .i64 k), (w.heap.size, 1, .slice p xs.length c), (w.heap.size + 1, 0, .int .i64 0), (w.heap.size + 1, 1, .slice none 0 0)] ((w.alloc (Obj.cells #[Value.int .i64 k, Value.slice p xs.length c] 24)).alloc (Obj.cells #[Value.int .i64 0, Value.slice none 0 0] 24)) := Cl.cons (by go_cell) (by first | go_cell | simp) (Cl.cons (by go_cell) (by first | go_cell | simp) (Cl.cons (by go_cell) (by first | go_cell | simp) (Cl.cons (by go_cell) (by first | go_cell | simp) (Cl.nil _))))
  unfold Lv
  go_enter Try.func43, Try.ntmps43
  go_wp2_with fail
  generalize ((w.alloc (Obj.cells #[Value.int .i64 k, Value.slice p xs.length c] 24)).alloc (Obj.cells #[Value.int .i64 0, Value.slice none 0 0] 24)) = z at *
  replace F0 := F0.drew
  replace B0 : Below w.heap.size w z.drew := B0.drew
  replace S0 : w.heap.size + 1 < z.drew.heap.size := S0
  have hz9 : z.drew.cell? ⟨w.heap.size, 0, none⟩ = some (.int .i64 k) ∧ z.drew.cell? ⟨w.heap.size, 1, none⟩ = some (.slice p xs.length c) := ⟨F0.head, F0.tail.head⟩
  refine Rk.begin (S := fun wS => wS.cell? ⟨w.heap.size, 0, none⟩ = some (.int .i64 k) ∧ wS.cell? ⟨w.heap.size, 1, none⟩ = some (.slice p xs.length c)) 5 (by kernel_rfl) hz9 (fun hHeld => ?_)
  refine Rk.takeP (i := 0) (v := ?_) rfl (by kernel_rfl) (by kernel_rfl) (by kernel_rfl) (by kernel_rfl) (fun _ _ _ h => h) (Or.inl ⟨by kernel_rfl, ?_⟩) (by assumption) ?_
  rotate_left
  · ((intro w hSw; go_simp) <;> with_reducible rfl)
  try simp only [Act.put, List.setIfInBounds_toArray, List.set_cons_zero, List.set_cons_succ]
  refine Rk.take [5] (i := 1) (v := ?_) rfl (by kernel_rfl) (by kernel_rfl) (by kernel_rfl) (by kernel_rfl) (by kernel_rfl) (fun _ _ _ h => h) (Or.inl ⟨by kernel_rfl, ?_⟩) (by assumption) ?_
  rotate_left
  · ((intro w hSw; (try dsimp only at hSw); go_simp) <;> with_reducible rfl)
  try simp only [Act.put, List.setIfInBounds_toArray, List.set_cons_zero, List.set_cons_succ]
  refine Rk.takeP (i := 2) (v := ?_) rfl (by kernel_rfl) (by kernel_rfl) (by kernel_rfl) (by kernel_rfl) (fun _ _ _ h => h) (Or.inl ⟨by kernel_rfl, ?_⟩) (by assumption) ?_
  rotate_left
  · ((intro w hSw; go_simp) <;> with_reducible rfl)
  try simp only [Act.put, List.setIfInBounds_toArray, List.set_cons_zero, List.set_cons_succ]
  refine Rk.take [4, 5] (i := 3) (v := ?_) rfl (by kernel_rfl) (by kernel_rfl) (by kernel_rfl) (by kernel_rfl) (by kernel_rfl) (fun _ _ _ h => h) (Or.inl ⟨by kernel_rfl, ?_⟩) (by assumption) ?_
  rotate_left
  · ((intro w hSw; (try dsimp only at hSw); go_simp) <;> with_reducible rfl)
  try simp only [Act.put, List.setIfInBounds_toArray, List.set_cons_zero, List.set_cons_succ]
  refine Rk.one (i := 4) (by kernel_rfl) rfl (fun KK hK => ?_)
  rw [if_pos (by kernel_rfl)]
  go_simp
  ((with_reducible refine (CE.out _ (RA.out.up B0)).mono ?_); rintro e u ⟨v, rfl, hO, hb⟩)
  refine hK.out _ _ ⟨kp hb (lt_of_cell hHeld.1) hHeld.1, kp hb (lt_of_cell hHeld.2) hHeld.2⟩ (fun hHeld => ?_)
  clear hK KK
  refine Rk.tail [5, 6] [_, _] (by kernel_rfl) (by kernel_rfl) rfl (by decide) ?_
  have F1 := F0.below hb
  have r0 := F1.tail.tail.head
  have r1 := F1.tail.tail.tail.head
  have zr0 := F1.tail.tail.headF
  have zr1 := F1.tail.tail.tail.headF
  have K1 := B0.trans (hb.mono B0.size)
  obtain ⟨q, d, rfl⟩ := own_slice hO
  clear F0 F1 hHeld hz9
  go_wp2
  have hOF := own_set (a := ⟨w.heap.size + 1, 1, none⟩) (y := .slice q xs.length d) (own_set (a := ⟨w.heap.size + 1, 0, none⟩) (y := .int .i64 k) hO (by simpa using S0)) (by simpa using S0)
  exact bodyPost_ret (v := .agg #[.int .i64 k, .slice q xs.length d]) (by simp [results, Try.results43, go_sem, r0, r1, zr0, zr1]) rfl ⟨_, rfl, World.ownsRow.mono hOF B0.size, below2 K1 (by omega) _ _⟩
end Go.Proofs.Ythdeaneffnlffaa.Ln
