/- Groups of the reference. -/
import Derived.Test.YtjpcpdaokgkaoaaM10
namespace Go.Proofs.Ytjpcpdaokgkaoaa.Sh
open Go.ChangeShapes Go.WideShapes Go.ChangeAt Go.RowKit
set_option linter.unusedVariables false

set_option maxHeartbeats 16000000 in
theorem c45 (p : Option Addr) (zs : List Int) (c : Nat) (ax : Int) (w : World) (hn : zs.length ≤ maxLen) (RA : Hid (SlI w p zs)) :
    Calls Try.prog 45 #[.agg #[.slice p zs.length c], .int .i64 ax] w (LW (gs zs ax (dv zs).toNat) w) := by
  have R1 := SlI.keep ((Below.refl _ _).alloc (Nat.le_refl _) (Obj.cells #[Value.slice p zs.length c] 41)) RA.out
  have R1 := Lib.hid R1
  have D := Lib.hid fun (y : World) (h : SlI y p zs) => c40 p zs c y hn (Lib.hid h)
  have F := Lib.hid fun (y : World) (k : Nat) (h : SlI y p zs) => c42 p zs c ax (k : Int) y hn (Lib.hid h)
  have GS := Lib.hid fun k => gs_step (zs := zs) (ax := ax) (k := k)
  have GN := Lib.hid fun k => gs_len zs ax k
  obtain ⟨s0, s1⟩ := dv_le zs
  obtain ⟨Z, hZ⟩ : ∃ Z, dv zs = Z := ⟨_, rfl⟩
  rw [hZ] at D s0 s1 ⊢
  obtain ⟨i0, hi, hz0, hz1, hz2⟩ := info_parts info22
  clear hZ
  go_enter Try.func45, Try.ntmps45
  go_wp2
  have hB : Below w.heap.size w (w.alloc (Obj.cells #[Value.slice p zs.length c] 41)) := (Below.refl _ _).alloc (Nat.le_refl _) _
  have hsw : w.heap.size + 1 ≤ (w.alloc (Obj.cells #[Value.slice p zs.length c] 41)).heap.size := by simp
  have hx : (w.alloc (Obj.cells #[Value.slice p zs.length c] 41)).cell? ⟨w.heap.size, 0, none⟩ = some (.slice p zs.length c) := by go_cell
  go_loopw [5, 6] (fun v i wr => ∃ (k : Nat) (vals : List Value), i = .int .i64 k ∧ (k : Int) ≤ Z ∧ Below w.heap.size w wr ∧ w.heap.size + 1 ≤ wr.heap.size ∧ wr.cell? ⟨w.heap.size, 0, none⟩ = some (.slice p zs.length c) ∧ Hid (wr.ownsRow (w.heap.size + 1) 22 1 v (gs zs ax k).length vals) ∧ Hid (Rows wr (w.heap.size + 1) vals (gs zs ax k))) (fun _ i _ => (Z - intOf i).toNat)
  case atStart => exact ⟨0, [], rfl, by omega, hB, hsw, hx, Lib.hid (World.ownsRow_nil _ _ _ _), Lib.hid (Rows.nil _ _)⟩
  case round =>
    obtain ⟨k, vals, rfl, hk, KB, hsz, hbx, hOl, hRo⟩ := hrel
    clear hx hB R1
    have kz : (0 : Int) ≤ k := by omega
    have RW := Lib.hid (SlI.keep KB RA.out)
    go_wp2_with fail
    refine (D.out _ RW.out).mono ?_
    rintro e w1 ⟨rfl, hb1⟩
    have hs1 := hb1.size
    have hbx1 : w1.cell? ⟨w.heap.size, 0, none⟩ = some (.slice p zs.length c) := Rg.keep' hb1 (by show w.heap.size < _; omega) hbx
    have L1 := Lib.hid (own_below hOl.out hb1)
    have RR1 := Lib.hid (hRo.out.below hb1)
    have K1 : Below w.heap.size w w1 := KB.trans (hb1.mono KB.size)
    clear hb1 hbx hOl hRo KB RW D
    have hsz1 : w.heap.size + 1 ≤ w1.heap.size := by omega
    clear hsz hs1
    clear wr
    obtain ⟨wr, rfl⟩ : ∃ wr, wr = w1 := ⟨_, rfl⟩
    have KB := K1
    have hsz := hsz1
    have hbx := hbx1
    have hOl := L1
    have hRo := RR1
    clear K1 hsz1 hbx1 L1 RR1
    by_cases hlt : (k : Int) < Z
    · have RW := Lib.hid (SlI.keep KB RA.out)
      have F1 := Lib.hid (F.out wr k RW.out)
      have GS1 := Lib.hid (GS.out k)
      have gn := GN.out k
      obtain ⟨G, hG⟩ : ∃ G, gL zs ax (k : Int) = G := ⟨_, rfl⟩
      rw [hG] at F1 GS1
      clear hG RW F GS GN
      go_wp2_with fail
      refine (F1.out).mono ?_
      rintro e w2 ⟨v2, rfl, hb2, ho2⟩
      obtain ⟨q2, cc2, rfl, hc2, hc2', S2⟩ := own_SlI ho2
      have hs2 := hb2.size
      have K2 : Below w.heap.size w w2 := KB.trans (hb2.mono KB.size)
      have hbx2 : w2.cell? ⟨w.heap.size, 0, none⟩ = some (.slice p zs.length c) := Rg.keep' hb2 (by show w.heap.size < _; omega) hbx
      have L2 := Lib.hid (own_below hOl.out hb2)
      have RR2 := Lib.hid (hRo.out.below hb2)
      have O2 := Lib.hid (ho2.mono (base' := w.heap.size + 1) hsz)
      clear hb2 ho2 hbx hOl hRo KB F1
      unfold maxLen at hc2'
      cases G with
      | nil =>
        have GS2 : Hid (gs zs ax (k + 1) = gs zs ax k) := Lib.hid (by rw [GS1.out]; simp)
        clear GS1
        go_wp2
        go_roundw
        case rel => exact ⟨k + 1, vals, by go_num, by omega, K2, by omega, hbx2, by rw [GS2.out]; exact L2, by rw [GS2.out]; exact RR2⟩
        case measure => simp [intOf]; omega
      | cons x G =>
        obtain ⟨b2, o2, rfl, hc0⟩ := S2.out 0 (by simp)
        have hc0 : w2.cell? ⟨b2, o2, none⟩ = some (.int .i64 x) := hc0
        obtain ⟨t, ht⟩ : ∃ t, (x == (k : Int)) = t := ⟨_, rfl⟩
        have gt0 : decide (0 < ((x :: G).length : Int)) = true := decide_eq_true (by rw [List.length_cons]; omega)
        have gt1 : decide (0 < (x :: G).length) = true := decide_eq_true (by simp)
        have GS2 : Hid (gs zs ax (k + 1) = gs zs ax k ++ if t = true then [x :: G] else []) := Lib.hid (by rw [GS1.out, ← ht]; simp)
        clear GS1
        obtain ⟨m, hm⟩ : ∃ m, (x :: G).length = m := ⟨_, rfl⟩
        have m0 : 0 < m := by rw [← hm]; simp
        rw [hm] at hc2 gt0 gt1 ⊢
        have HM := Lib.hid hm
        clear hm
        cases t
        · have GS3 : Hid (gs zs ax (k + 1) = gs zs ax k) := Lib.hid (by rw [GS2.out]; simp)
          clear GS2
          go_wp2
          go_roundw
          case rel => exact ⟨k + 1, vals, by go_num, by omega, K2, by omega, hbx2, by rw [GS3.out]; exact L2, by rw [GS3.out]; exact RR2⟩
          case measure => simp [intOf]; omega
        · have GS3 : Hid (gs zs ax (k + 1) = gs zs ax k ++ [x :: G]) := Lib.hid (by rw [GS2.out]; simp)
          clear GS2
          go_wp2_with (at_builtin; refine wpList_append_own _ rfl _ _ 49 rfl (w.heap.size + 1) 22 i0 (.slice none 0 0) 1 24 Try.underlying49 hi hz0 hz1 hz2 rfl (by decide) _ _ _ rfl (L2.out.alloc _) ⟨w2.heap.size, 0, none⟩ 1 1 [.slice (some ⟨b2, o2, none⟩) m cc2] rfl rfl ?_ ?_ ?_ ?_ ?_ ?_)
          any_goals (first | (intro j u hj; cases j with | zero => (cases hj; go_cell) | succ j => cases hj) | (intro u hu; cases List.mem_singleton.1 hu; rfl) | rfl | (unfold maxLen; omega) | omega | (simp; omega) | skip)
          intro v' w4 hown' hgrow _
          have hO4 : Hid (w4.ownsRow (w.heap.size + 1) 22 1 v' (gs zs ax (k + 1)).length (vals ++ [.slice (some ⟨b2, o2, none⟩) m cc2])) := Lib.hid (by
            have h := hown'
            rw [GS3.out, List.length_append]
            exact h)
          have hlt2 := L2.out.lt
          have hgs := hgrow.size
          simp only [World.size_alloc] at hgs
          have A1 : Below w2.heap.size w2 (w2.alloc (Obj.cells #[Value.slice (some ⟨b2, o2, none⟩) m cc2] 22)) := (Below.refl _ _).alloc (Nat.le_refl _) _
          have R4 : Hid (Rows w4 (w.heap.size + 1) (vals ++ [.slice (some ⟨b2, o2, none⟩) m cc2]) (gs zs ax (k + 1))) := Lib.hid (by
            rw [GS3.out]
            refine Rows.snoc ((RR2.out.below A1).kept (L2.out.alloc _) (by decide) hgrow) ?_
            have h := (own_below O2.out A1).kept hgrow (own_ne (own_below O2.out A1) (L2.out.alloc _) (by decide))
            rw [HM.out] at h ⊢
            exact h)
          have hB3 : Below (w.heap.size + 1) (w2.alloc (Obj.cells #[Value.slice (some ⟨b2, o2, none⟩) m cc2] 22)) w4 := (Below.refl _ _).grown hgrow (by simp; omega) (fun j hj => (hlt2 j hj).1)
          have hbx4 : w4.cell? ⟨w.heap.size, 0, none⟩ = some (.slice p zs.length c) := by
            rw [hB3.cell (p := ⟨w.heap.size, 0, none⟩) (by show w.heap.size < _; omega)]
            exact Rg.keep' A1 (by omega) hbx2
          have K4 : Below w.heap.size w w4 := (K2.alloc (by omega) _).trans (hB3.mono (by omega))
          clear hown' hgrow hi hz0 hz1 hz2 hlt2 hB3 hbx2 L2 K2 GS3 O2 RR2 A1 S2
          go_wp2
          go_roundw
          case rel => exact ⟨k + 1, _, by go_num, by omega, K4, by omega, hbx4, hO4, R4⟩
          case measure => simp [intOf]; omega
    · have e : Z.toNat = k := by omega
      have E := Lib.hid e
      have L2 := Lib.hid (hOl.out.mono (base' := w.heap.size) (by omega))
      have R2 := Lib.hid (hRo.out.mono (base' := w.heap.size) (by omega))
      clear hOl e hRo
      go_wp2
      go_ret
      exact ⟨_, vals, rfl, KB, by rw [E.out]; exact L2.out, by rw [E.out]; exact R2.out⟩
end Go.Proofs.Ytjpcpdaokgkaoaa.Sh
