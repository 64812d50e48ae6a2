/- alive of the statements on depend, and the statement's own walk. -/
import Derived.Test.YtaagegiehjpgiaaRv
namespace Go.Proofs.Ytaagegiehjpgiaa.Ov
open Go.ChangeShapes Go.WideShapes Go.ChangeAt Go.RowKit
set_option linter.unusedVariables false
theorem hit1 : hit { data := #[97] } { data := #[97] } 0 3 2 4 = true := by kernel_rfl
theorem hit2 : hit { data := #[97] } { data := #[97] } 0 3 3 4 = false := by kernel_rfl
theorem hit3 : hit { data := #[97] } { data := #[98] } 0 3 0 3 = false := by kernel_rfl
theorem old {w : World} {b o : Nat} {v : Value} {x : Obj} (hb : b < w.heap.size) (h : w.cell? ⟨b, o, none⟩ = some v) : (w.alloc x).cell? ⟨b, o, none⟩ = some v := keep ((Below.refl _ _).alloc (Nat.le_refl _) _) hb h
set_option maxHeartbeats 4000000 in
theorem alive (w : World) : Calls Try.prog 43 #[] w (Ret (.bool true) w) := by
  go_enter Try.func43, Try.ntmps43
  go_wp2_with fail
  refine (one _ w.heap.size (w.heap.size + 1) 0 0 _ _ 0 3 2 4 true hit1 (by first | omega | (simp; done) | (simp; omega)) (by first | omega | (simp; done) | (simp; omega)) (by go_cell) (by go_cell) (by go_cell) (by go_cell) (by go_cell) (by go_cell)).mono ?_
  rintro e w1 ⟨rfl, hb1⟩
  have z1 : w.heap.size + 1 < w1.heap.size := by
    have := hb1.size
    simp at this
    omega
  have a0 : w1.cell? ⟨w.heap.size, 0, none⟩ = some (.string { data := #[97] }) := keep hb1 (by first | omega | (simp; done) | (simp; omega)) (by go_cell)
  have a1 : w1.cell? ⟨w.heap.size, 1, none⟩ = some (.int .i64 0) := keep hb1 (by first | omega | (simp; done) | (simp; omega)) (by go_cell)
  have a2 : w1.cell? ⟨w.heap.size, 2, none⟩ = some (.int .i64 3) := keep hb1 (by first | omega | (simp; done) | (simp; omega)) (by go_cell)
  go_wp2_with fail
  refine (one _ w.heap.size w1.heap.size 0 0 _ _ 0 3 3 4 false hit2 (by first | omega | (simp; done) | (simp; omega)) (by first | omega | (simp; done) | (simp; omega)) (old (by omega) a0) (old (by omega) a1) (old (by omega) a2) (by go_cell) (by go_cell) (by go_cell)).mono ?_
  rintro e w2 ⟨rfl, hb2⟩
  have z2 : w1.heap.size < w2.heap.size := by
    have := hb2.size
    simp at this
    omega
  have b0 : w2.cell? ⟨w.heap.size, 0, none⟩ = some (.string { data := #[97] }) := keep hb2 (by first | omega | (simp; done) | (simp; omega)) (old (by omega) a0)
  have b1 : w2.cell? ⟨w.heap.size, 1, none⟩ = some (.int .i64 0) := keep hb2 (by first | omega | (simp; done) | (simp; omega)) (old (by omega) a1)
  have b2 : w2.cell? ⟨w.heap.size, 2, none⟩ = some (.int .i64 3) := keep hb2 (by first | omega | (simp; done) | (simp; omega)) (old (by omega) a2)
  clear a0 a1 a2
  go_wp2_with fail
  refine (one _ w.heap.size w2.heap.size 0 0 _ _ 0 3 0 3 false hit3 (by first | omega | (simp; done) | (simp; omega)) (by first | omega | (simp; done) | (simp; omega)) (old (by omega) b0) (old (by omega) b1) (old (by omega) b2) (by go_cell) (by go_cell) (by go_cell)).mono ?_
  rintro e w3 ⟨rfl, hb3⟩
  clear b0 b1 b2
  go_wp2
  go_ret
  refine ⟨rfl, ?_⟩
  refine Below.trans ?_ (hb3.mono (by first | omega | (simp; done) | (simp; omega)))
  refine Below.alloc ?_ (by omega) _
  refine Below.trans ?_ (hb2.mono (by first | omega | (simp; done) | (simp; omega)))
  refine Below.alloc ?_ (by omega) _
  refine Below.trans ?_ (hb1.mono (by first | omega | (simp; done) | (simp; omega)))
  exact ((Below.refl _ _).alloc (Nat.le_refl _) _).alloc (by first | omega | (simp; done) | (simp; omega)) _
set_option maxHeartbeats 4000000 in
theorem walk (va vb : Value) (pa pb : Option Addr) (la lb ca cb : Nat) (ea : va = .slice pa la ca) (eb : vb = .slice pb lb cb) (S S' : Nat → ByteArray) (F T F' T' : Nat → Int) (hla : la ≤ maxLen) (hlb : lb ≤ maxLen) (w : World)
    (SA : Sl w va la S F T) (SB : Sl w vb lb S' F' T') : Calls Try.prog 14 #[va, vb] w (Ret (.bool true) w) := by
  obtain ⟨x, h1, h2, h3⟩ := both va vb la lb S S' F T F' T' hla hlb
  have H1 := Lib.hid h1
  have H2 := Lib.hid h2
  clear h1 h2 h3
  unfold maxLen at hla hlb
  subst ea eb
  by_cases hb : 30 < la
  · go_enter Try.func14, Try.ntmps14
    go_wp2_with (refine (alive _).mono ?_; rintro e w1 ⟨rfl, hb1⟩)
    go_ret
    exact ⟨rfl, hb1⟩
  · by_cases hb' : 30 < lb
    · go_enter Try.func14, Try.ntmps14
      go_wp2_with (refine (alive _).mono ?_; rintro e w1 ⟨rfl, hb1⟩)
      go_ret
      exact ⟨rfl, hb1⟩
    · have HA := Lib.hid SA
      have HB := Lib.hid SB
      clear SA SB
      have E1 := fun w : World => (rfl : (binOp .eql 4 (.bool true) (.bool true)).run Try.prog w = .ok (.bool true) w)
      go_enter Try.func14, Try.ntmps14
      go_wp2_with fail
      refine (H1.out _ HA.out HB.out).mono ?_
      rintro e w1 ⟨rfl, hb1⟩
      go_wp2_with fail
      refine (H2.out _ (HA.out.keep hb1) (HB.out.keep hb1)).mono ?_
      rintro e w2 ⟨rfl, hb2⟩
      cases x
      · go_wp2_with fail
        refine (alive _).mono ?_
        rintro e w3 ⟨rfl, hb3⟩
        go_wp2
        go_ret
        exact ⟨rfl, (hb1.trans (hb2.mono hb1.size)).trans (hb3.mono (Nat.le_trans hb1.size hb2.size))⟩
      · go_wp2_with fail
        refine (alive _).mono ?_
        rintro e w3 ⟨rfl, hb3⟩
        go_wp2
        go_ret
        exact ⟨rfl, (hb1.trans (hb2.mono hb1.size)).trans (hb3.mono (Nat.le_trans hb1.size hb2.size))⟩
end Go.Proofs.Ytaagegiehjpgiaa.Ov
