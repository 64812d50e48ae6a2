/- Point of the reference. -/
import Derived.Test.YtjpcpdaokgkaoaaV11
namespace Go.Proofs.Ytjpcpdaokgkaoaa.Sh
open Go.ChangeShapes Go.WideShapes Go.ChangeAt Go.RowKit
set_option linter.unusedVariables false

/-- The index with an offset. -/
def pt (zs : List Int) (a : Int) : List Int := (List.range zs.length).map fun j => (a / sp (zs.drop (j + 1))) % zs.getD j 0
def pA (zs : List Int) (a : Int) : Bool := decide (0 ≤ a ∧ a < sz zs)
def pL (zs : List Int) (a : Int) : List Int := if pA zs a = true then pt zs a else []
theorem pt_length (zs : List Int) (a : Int) : (pt zs a).length = zs.length := by simp [pt]
theorem pt_get {zs : List Int} {a : Int} {j : Nat} (h : j < zs.length) : (pt zs a).getD j 0 = (a / sp (zs.drop (j + 1))) % zs.getD j 0 := by
  rw [getD_at (by rw [pt_length]; exact h)]
  simp [pt]
/-- A slice that the call has made, and whether there is an answer. -/
def PW (l : List Int) (t : Bool) (w : World) (e : Ending) (w' : World) : Prop := ∃ v, e = .returned (.tuple #[v, .bool t]) ∧ Below w.heap.size w w' ∧ w'.ownsRow w.heap.size 3 1 v l.length (l.map (Value.int .i64))
theorem sz_ok {zs : List Int} (h : vE zs = 0) : sz zs = sp zs := sz_drop (zs := zs) h 0
theorem sz_no {zs : List Int} (h : ¬ vE zs = 0) : sz zs = 0 := by unfold sz; rw [if_neg h]
theorem pA_valid {zs : List Int} {a : Int} (h : pA zs a = true) : vE zs = 0 ∧ 0 ≤ a ∧ a < sp zs := by
  unfold pA at h
  have h := of_decide_eq_true h
  by_cases hv : vE zs = 0
  · rw [sz_ok hv] at h; exact ⟨hv, h⟩
  · rw [sz_no hv] at h; omega
theorem pt_step {a s z : Int} (hs : 1 ≤ s) : a / s / z = a / (s * z) := Int.ediv_ediv_of_nonneg (by omega)
set_option maxHeartbeats 8000000 in
theorem c24_ok (p : Option Addr) (zs : List Int) (c : Nat) (a0 : Int) (w : World) (RA : Hid (SlI w p zs)) (hp : pA zs a0 = true) :
    Calls Try.prog 24 #[.slice p zs.length c, .int .i64 a0] w (PW (pt zs a0) true w) := by
  obtain ⟨hv, a1, a2⟩ := pA_valid hp
  obtain ⟨h6, hl, hP, hS, hD⟩ := valid_of hv
  have C := Lib.hid (c17 p zs c w (by unfold maxLen; omega) RA)
  rw [sz_ok hv] at C
  obtain ⟨i0, hi, hz0, hz1, hz2⟩ := info_parts info3
  have HD := Lib.hid hD
  have HL := Lib.hid hl
  have hle : a0 ≤ 4095 := by omega
  clear hD hl hv hP hp
  generalize hQ : sp zs = P at C a2 hS
  clear hQ
  have k1 : decide (a0 < 0) = false := by simp <;> omega
  have k2 : decide (P ≤ a0) = false := by simp <;> omega
  obtain ⟨n, hn⟩ : ∃ n, zs.length = n := ⟨_, rfl⟩
  have HN := Lib.hid hn
  rw [hn] at C h6 ⊢
  clear hn
  go_enter Try.func24, Try.ntmps24
  go_wp2_with (first | (go_at_call 17; refine (C.out).mono ?_; rintro e w' ⟨rfl, rfl⟩) | (refine wpList_make_full _ rfl _ _ 22 rfl w.heap.size 3 i0 (.int .i64 0) 1 Try.underlying22 hi hz0 hz1 .i64 .i64 _ _ n rfl rfl rfl rfl (by rw [hz2]; omega) (by unfold maxLen; omega) (Nat.le_refl _) ?_; intro w1 hown hg; have hB := below_own (Nat.le_refl _) hg; have hs := hg.size; clear hg hi hz0 hz1 hz2 i0))
  have hown2 : Hid (w1.ownsRow w.heap.size 3 1 (.slice (some ⟨w.heap.size, 0, none⟩) n n) n ((List.replicate n (0 : Int)).map (Value.int .i64))) := Lib.hid (by
    have h := hown
    rw [show (Value.int IntKind.i64 0).cells = #[.int .i64 0] from rfl, toList_madeCells_one, Nat.mul_one] at h
    rw [List.map_replicate]
    exact h)
  clear hown k1 k2
  go_loopw [1, 7] (fun s i wr => ∃ (m : Nat) (S : Int) (xs : List Int), s = .int .i64 S ∧ i = .int .i64 ((m : Int) - 1) ∧ m ≤ n ∧ Hid (S = a0 / sp (zs.drop m)) ∧ 0 ≤ S ∧ S ≤ 4095 ∧ xs.length = n ∧ Hid (∀ j, m ≤ j → j < n → xs.getD j 0 = (pt zs a0).getD j 0) ∧ Below w.heap.size w wr ∧ w.heap.size < wr.heap.size ∧
    Hid (wr.ownsRow w.heap.size 3 1 (.slice (some ⟨w.heap.size, 0, none⟩) n n) n (xs.map (Value.int .i64)))) (fun _ i _ => (intOf i + 1).toNat)
  case atStart =>
    have hlt : w.heap.size < w1.heap.size := (hown2.out.lt w.heap.size rfl).2
    exact ⟨n, a0, _, rfl, rfl, Nat.le_refl _, Lib.hid (by rw [List.drop_of_length_le (by rw [HN.out]; exact Nat.le_refl _)]; exact (Int.ediv_one _).symm), by omega, by omega, by simp, Lib.hid fun j h1 h2 => by omega, hB, hlt, hown2⟩
  case round =>
    obtain ⟨m, S, xs, rfl, rfl, hm, hS, s0, s1, hx, hX, KB, lt, hO⟩ := hrel
    clear hown2 hB hs
    cases m with
    | zero =>
      have e : xs = pt zs a0 := by
        refine List.ext_getElem (by rw [pt_length, hx, HN.out]) fun j h1 h2 => ?_
        have h := hX.out j (by omega) (by omega)
        rw [getD_at h1, getD_at h2] at h
        exact h
      have HE := Lib.hid e
      clear e
      go_wp2
      refine bodyPost_ret (v := .tuple #[.slice (some ⟨w.heap.size, 0, none⟩) n n, .bool true]) (by simp [results, Try.results24, go_sem]) rfl ⟨_, rfl, KB, ?_⟩
      rw [← HE.out, show xs.length = n from hx]
      exact hO.out
    | succ m =>
      rw [show ((m + 1 : Nat) : Int) - 1 = (m : Int) by omega]
      obtain ⟨b, o, rfl, hc⟩ := RA.out m (by rw [HN.out]; omega)
      have hb : b < w.heap.size := by have := World.block_lt_of_cell? w _ hc; simpa using this
      have hc := Rg.keep' KB hb hc
      have z1 := pos_of HL.out (k := m) (by rw [HN.out]; omega)
      have hd := drop_cons (zs := zs) (k := m) (by rw [HN.out]; omega)
      have hpt := pt_get (zs := zs) (a := a0) (j := m) (by rw [HN.out]; omega)
      obtain ⟨z, hz⟩ : ∃ z, zs.getD m 0 = z := ⟨_, rfl⟩
      rw [hz] at hc z1 hd hpt
      rw [← hS.out] at hpt
      have hT0 : 0 ≤ S / z := Int.ediv_nonneg s0 (by omega)
      have hT1 : S / z ≤ S := Int.ediv_le_self z s0
      have hR0 : 0 ≤ S % z := Int.emod_nonneg S (by omega)
      have hsp : S / z = a0 / sp (zs.drop m) := by rw [hd, hS.out]; exact pt_step (HD.out (m + 1)).1
      obtain ⟨r, hr⟩ : ∃ r, S % z = r := ⟨_, rfl⟩
      obtain ⟨T, hT⟩ : ∃ T, S / z = T := ⟨_, rfl⟩
      rw [hr] at hpt hR0
      rw [hT] at hT0 hT1 hsp
      have oc := cells_of hO.out (j := m) (by omega) hx
      have of := hO.out.frozenAt m
      have oS := Lib.hid (hO.out.stored m (.int .i64 r)).1
      have ne : ¬ w.heap.size = b := by omega
      have ne2 : ¬ b = w.heap.size := by omega
      have hc2 : (wr.setCell ⟨w.heap.size, m, none⟩ (.int .i64 r)).cell? ⟨b, o + m, none⟩ = some (.int .i64 z) := by rw [World.cell?_setCell_far _ _ _ _ ne]; exact hc
      have HSP := Lib.hid hsp
      have HPT := Lib.hid hpt
      have mlt : m < n := by omega
      have mi : (0 : Int) ≤ m := by omega
      have mi2 : (m : Int) < n := by omega
      have zz : (z == 0) = false := by simp <;> omega
      clear hz hd hsp hm hpt
      go_wp2
      go_roundw
      case rel =>
        refine ⟨m, T, xs.set m r, by first | rfl | rw [hT], rfl, by omega, HSP, by omega, by omega, by simp [hx], Lib.hid fun j h1 h2 => ?_, Below.setCell KB (Nat.le_refl _) _, by simpa using lt, Lib.hid (by rw [List.map_set]; exact oS.out)⟩
        by_cases hj : j = m
        · subst hj
          rw [getD_at (by simp [hx]; omega), List.getElem_set_self]
          exact HPT.out.symm
        · rw [getD_at (by simp [hx]; omega), List.getElem_set_ne (by omega), ← getD_at (by omega)]
          exact hX.out j (by omega) h2
      case measure => simp [intOf]
end Go.Proofs.Ytjpcpdaokgkaoaa.Sh
