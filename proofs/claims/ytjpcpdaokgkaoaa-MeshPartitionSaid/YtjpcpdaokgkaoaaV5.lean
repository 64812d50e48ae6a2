/- Strides of package shape. -/
import Derived.Test.YtjpcpdaokgkaoaaV4
import Derived.Deep.RegionHeld
namespace Go.Proofs.Ytjpcpdaokgkaoaa.Sh
open Go.ChangeShapes Go.WideShapes Go.ChangeAt Go.RowKit
set_option linter.unusedVariables false

theorem Rg.keep' {y y' : World} {B b o : Nat} {v : Value} (hy : Below B y y') (hb : b < B) (h : y.cell? ⟨b, o, none⟩ = some v) : y'.cell? ⟨b, o, none⟩ = some v := (hy.cell (p := ⟨b, o, none⟩) hb).trans h
set_option maxHeartbeats 4000000 in
theorem c19_bad (p : Option Addr) (zs : List Int) (c : Nat) (w : World) (hn : zs.length ≤ maxLen) (RA : Hid (SlI w p zs)) (hv : (vE zs != 0) = true) :
    Calls Try.prog 19 #[.slice p zs.length c] w (OW [] w) := by
  have C := Lib.hid (c14 p zs c w hn RA)
  generalize vE zs = e at *
  go_enter Try.func19, Try.ntmps19
  go_wp2_with (go_at_call 14; refine (C.out).mono ?_; rintro e w' ⟨rfl, rfl⟩)
  go_ret
  exact ⟨_, rfl, Below.refl _ _, World.ownsRow_nil _ _ _ _⟩
set_option maxHeartbeats 8000000 in
theorem c19_ok (p : Option Addr) (zs : List Int) (c : Nat) (w : World) (RA : Hid (SlI w p zs)) (hv : vE zs = 0) :
    Calls Try.prog 19 #[.slice p zs.length c] w (OW (st zs) w) := by
  obtain ⟨h6, hl, hP, hS, hD⟩ := valid_of hv
  have C := Lib.hid (c14 p zs c w (by unfold maxLen; omega) RA)
  rw [hv] at C
  clear hv hP hS
  obtain ⟨i0, hi, hz0, hz1, hz2⟩ := info_parts info3
  have HD := Lib.hid hD
  have HL := Lib.hid hl
  clear hD hl
  obtain ⟨n, hn⟩ : ∃ n, zs.length = n := ⟨_, rfl⟩
  have HN := Lib.hid hn
  rw [hn] at C h6 ⊢
  clear hn
  go_enter Try.func19, Try.ntmps19
  go_wp2_with (first | (go_at_call 14; refine (C.out).mono ?_; rintro e w' ⟨rfl, rfl⟩) | (refine wpList_make_full _ rfl _ _ 22 rfl w.heap.size 3 i0 (.int .i64 0) 1 Try.underlying22 hi hz0 hz1 .i64 .i64 _ _ n rfl rfl rfl rfl (by rw [hz2]; omega) (by unfold maxLen; omega) (Nat.le_refl _) ?_; intro w1 hown hg; have hB := below_own (Nat.le_refl _) hg; have hs := hg.size; clear hg hi hz0 hz1 hz2 i0))
  have hown2 : Hid (w1.ownsRow w.heap.size 3 1 (.slice (some ⟨w.heap.size, 0, none⟩) n n) n ((List.replicate n (0 : Int)).map (Value.int .i64))) := Lib.hid (by
    have h := hown
    rw [show (Value.int IntKind.i64 0).cells = #[.int .i64 0] from rfl, toList_madeCells_one, Nat.mul_one] at h
    rw [List.map_replicate]
    exact h)
  clear hown
  go_loopw [4, 5] (fun s i wr => ∃ (m : Nat) (S : Int) (xs : List Int), s = .int .i64 S ∧ i = .int .i64 ((m : Int) - 1) ∧ m ≤ n ∧ Hid (S = sp (zs.drop m)) ∧ 1 ≤ S ∧ S ≤ 4096 ∧ xs.length = n ∧ Hid (∀ j, m ≤ j → j < n → xs.getD j 0 = sp (zs.drop (j + 1))) ∧ Below w.heap.size w wr ∧ w.heap.size < wr.heap.size ∧
    Hid (wr.ownsRow w.heap.size 3 1 (.slice (some ⟨w.heap.size, 0, none⟩) n n) n (xs.map (Value.int .i64)))) (fun _ i _ => (intOf i + 1).toNat)
  case atStart =>
    have hlt : w.heap.size < w1.heap.size := (hown2.out.lt w.heap.size rfl).2
    exact ⟨n, 1, _, rfl, rfl, Nat.le_refl _, Lib.hid (by rw [List.drop_of_length_le (by rw [HN.out]; exact Nat.le_refl _)]; rfl), by omega, by omega, by simp, Lib.hid fun j h1 h2 => by omega, hB, hlt, hown2⟩
  case round =>
    obtain ⟨m, S, xs, rfl, rfl, hm, hS, s0, s1, hx, hX, KB, lt, hO⟩ := hrel
    clear hown2 hB hs
    cases m with
    | zero =>
      have e : xs = st zs := by
        refine List.ext_getElem (by rw [st_length, hx, HN.out]) fun j h1 h2 => ?_
        have h := hX.out j (by omega) (by omega)
        rw [← st_get (by rw [HN.out]; omega), getD_at h1, getD_at h2] at h
        exact h
      have HE := Lib.hid e
      clear e
      go_wp2
      go_ret
      exact ⟨_, rfl, KB, by rw [← HE.out]; rw [show xs.length = n from hx]; exact hO.out⟩
    | succ m =>
      rw [show ((m + 1 : Nat) : Int) - 1 = (m : Int) by omega]
      obtain ⟨b, o, rfl, hc⟩ := RA.out m (by rw [HN.out]; omega)
      have hb : b < w.heap.size := by have := World.block_lt_of_cell? w _ hc; simpa using this
      have hc := Rg.keep' KB hb hc
      have z1 := pos_of HL.out (k := m) (by rw [HN.out]; omega)
      have hd := drop_cons (zs := zs) (k := m) (by rw [HN.out]; omega)
      obtain ⟨z, hz⟩ : ∃ z, zs.getD m 0 = z := ⟨_, rfl⟩
      rw [hz] at hc z1 hd
      obtain ⟨T, hT⟩ : ∃ T, S * z = T := ⟨_, rfl⟩
      have hsp : T = sp (zs.drop m) := by rw [hd, ← hT, hS.out]; rfl
      have tb := HD.out m
      rw [← hsp] at tb
      obtain ⟨t0, t1⟩ := tb
      have oc := cells_of hO.out (j := m) (by omega) hx
      have of := hO.out.frozenAt m
      have oS := Lib.hid (hO.out.stored m (.int .i64 S)).1
      have ne : ¬ w.heap.size = b := by omega
      have ne2 : ¬ b = w.heap.size := by omega
      have hc2 : (wr.setCell ⟨w.heap.size, m, none⟩ (.int .i64 S)).cell? ⟨b, o + m, none⟩ = some (.int .i64 z) := by rw [World.cell?_setCell_far _ _ _ _ ne]; exact hc
      have HSP := Lib.hid hsp
      have HDD := Lib.hid hd
      have mlt : m < n := by omega
      have mi : (0 : Int) ≤ m := by omega
      have mi2 : (m : Int) < n := by omega
      clear hz hd hsp hm
      go_wp2
      go_roundw
      case rel =>
        refine ⟨m, T, xs.set m S, rfl, rfl, by omega, HSP, t0, t1, by simp [hx], Lib.hid fun j h1 h2 => ?_, Below.setCell KB (Nat.le_refl _) _, by simpa using lt, Lib.hid (by rw [List.map_set]; exact oS.out)⟩
        by_cases hj : j = m
        · subst hj
          rw [getD_at (by simp [hx]; omega), List.getElem_set_self]
          exact hS.out
        · rw [getD_at (by simp [hx]; omega), List.getElem_set_ne (by omega), ← getD_at (by omega)]
          exact hX.out j (by omega) h2
      case measure => simp [intOf]
end Go.Proofs.Ytjpcpdaokgkaoaa.Sh
