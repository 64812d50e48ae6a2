/- Neighbouring ranges of a row change places. -/
import Derived.Test.YtghnigmmkenddaaS2
namespace Go.Proofs.Ytghnigmmkenddaa.Ar
open Go.ChangeShapes Go.WideShapes Go.ChangeAt Go.RowKit

set_option linter.unusedVariables false
set_option linter.unusedSimpArgs false

theorem swrV (cl : Value) (g cap base n a b k : Nat) (L0 : List Int) (w : World) (hn : n ≤ 100000) (hl : L0.length = n) (hab : a + k ≤ b) (hbn : b + k ≤ n) (hO : Hid (w.ownsRow base 3 1 (.slice (some ⟨g, 0, none⟩) n cap) n (rowE L0))) (va vb vk : Value) (ha : va = .int .i64 (a : Int)) (hb : vb = .int .i64 (b : Int)) (hk : vk = .int .i64 (k : Int)) :
    Calls Try.prog 52 #[.slice (some ⟨g, 0, none⟩) n cap, va, vb, vk, cl] w fun e w' => e = .returned (.tuple #[]) ∧ Below base w w' ∧ KG g w w' ∧ Hid (w'.ownsRow base 3 1 (.slice (some ⟨g, 0, none⟩) n cap) n (rowE (swR k a b L0))) := by
  subst ha hb hk
  exact swrN cl g cap base n a b k L0 w hn hl hab hbn hO
/-- What is left to rotate: i elements before m, j behind. -/
def RotS (m i j : Nat) (L RES : List Int) : Prop := ∃ Q A B R : List Int, L = Q ++ (A ++ (B ++ R)) ∧ Q ++ (B ++ (A ++ R)) = RES ∧ Q.length + i = m ∧ A.length = i ∧ B.length = j
theorem RotS.less {m i j : Nat} {L RES : List Int} (H : RotS m i j L RES) (h : j < i) : RotS m (i - j) j (swR j (m - i) m L) RES := by
  obtain ⟨Q, A, B, R, rfl, h2, h3, h4, h5⟩ := H
  have e0 : Q ++ (A ++ (B ++ R)) = Q ++ (A.take j ++ (A.drop j ++ (B ++ R))) := by rw [← List.append_assoc (A.take j), List.take_append_drop]
  have lt : (A.take j).length = j := by simp; omega
  have ld : (A.drop j).length = i - j := by simp; omega
  have h := swR_mid (A.take j) B Q (A.drop j) R (by omega)
  rw [lt, ld, show Q.length = m - i by omega, show m - i + j + (i - j) = m by omega] at h
  rw [e0, h]
  refine ⟨Q ++ B, A.drop j, A.take j, R, by simp, ?_, by simp; omega, ld, lt⟩
  rw [← h2, List.append_assoc, ← List.append_assoc (A.take j), List.take_append_drop]
theorem RotS.more {m i j : Nat} {L RES : List Int} (H : RotS m i j L RES) (h : i < j) : RotS m i (j - i) (swR i (m - i) (m + j - i) L) RES := by
  obtain ⟨Q, A, B, R, rfl, h2, h3, h4, h5⟩ := H
  have e0 : Q ++ (A ++ (B ++ R)) = Q ++ (A ++ (B.take (j - i) ++ (B.drop (j - i) ++ R))) := by rw [← List.append_assoc (B.take (j - i)), List.take_append_drop]
  have lt : (B.take (j - i)).length = j - i := by simp; omega
  have ld : (B.drop (j - i)).length = i := by simp; omega
  have h := swR_mid A (B.drop (j - i)) Q (B.take (j - i)) R (by omega)
  rw [lt, h4, show Q.length = m - i by omega, show m - i + i + (j - i) = m + j - i by omega] at h
  rw [e0, h]
  refine ⟨Q, B.drop (j - i), B.take (j - i), A ++ R, by simp, ?_, by omega, ld, lt⟩
  rw [← h2, ← List.append_assoc (B.take (j - i)), List.take_append_drop]
theorem RotS.last {m i : Nat} {L RES : List Int} (H : RotS m i i L RES) : swR i (m - i) m L = RES := by
  obtain ⟨Q, A, B, R, rfl, h2, h3, h4, h5⟩ := H
  have h := swR_mid A B Q [] R (by omega)
  rw [h4, show Q.length = m - i by omega, List.length_nil, show m - i + i + 0 = m by omega] at h
  rw [List.nil_append, List.nil_append] at h
  rw [h]
  exact h2

set_option maxRecDepth 100000 in
set_option maxHeartbeats 8000000 in
/-- A row's two neighbouring ranges change places. -/
theorem rotN (cl : Value) (g cap base n a m b : Nat) (L0 RES : List Int) (w : World) (hn : n ≤ 100000) (hl : L0.length = n) (h1 : a < m) (h2 : m < b) (h3 : b ≤ n) (HS : Hid (RotS m (m - a) (b - m) L0 RES)) (hO : Hid (w.ownsRow base 3 1 (.slice (some ⟨g, 0, none⟩) n cap) n (rowE L0))) (va vm vb : Value) (ha : va = .int .i64 (a : Int)) (hm : vm = .int .i64 (m : Int)) (hb : vb = .int .i64 (b : Int)) :
    Calls Try.prog 51 #[.slice (some ⟨g, 0, none⟩) n cap, va, vm, vb, cl] w fun e w' => e = .returned (.tuple #[]) ∧ Below base w w' ∧ KG g w w' ∧ Hid (w'.ownsRow base 3 1 (.slice (some ⟨g, 0, none⟩) n cap) n (rowE RES)) := by
  subst ha hm hb
  have HL := Lib.hid hl
  clear hl
  go_enter Try.func51, Try.ntmps51
  go_wp2_with fail
  go_loopw [10, 11] (fun iv jv wr => ∃ (i j : Nat) (L : List Int), iv = .int .i64 (i : Int) ∧ jv = .int .i64 (j : Int) ∧ 0 < i ∧ 0 < j ∧ i ≤ m ∧ m + j ≤ n ∧ Hid (RotS m i j L RES) ∧ Hid (L.length = n) ∧ Hid (wr.ownsRow base 3 1 (.slice (some ⟨g, 0, none⟩) n cap) n (rowE L)) ∧ Hid (Below base w wr) ∧ Hid (KG g w wr)) (fun iv jv _ => (intOf iv).toNat + (intOf jv).toNat)
  case atStart => exact ⟨m - a, b - m, L0, by go_num, by go_num, by omega, by omega, by omega, by omega, HS, HL, hO, Lib.hid (Below.refl _ _), Lib.hid (KG.refl _ _)⟩
  case round =>
    clear HS HL hO
    obtain ⟨i, j, L, rfl, rfl, hi, hj, him, hjn, HS, HL, hOW, hB, hK⟩ := hrel
    by_cases hij : i = j
    · subst hij
      have IC := Lib.hid (swrV cl g cap base n (m - i) m i L wr hn HL.out (by omega) (by omega) hOW)
      have HE := Lib.hid (RotS.last HS.out)
      go_wp2_with (go_at_call 52; (with_reducible refine (IC.out _ _ _ (by go_num) (by go_num) (by go_num)).mono ?_); rintro e w1 ⟨rfl, B1, K1, O1⟩)
      go_end0
      exact ⟨rfl, hB.out.trans B1, hK.out.trans K1, by rw [← HE.out]; exact O1⟩
    · have i0 : ¬ ((i : Int) = j) := by omega
      by_cases hlt : j < i
      · have i1 : (j : Int) < i := by omega
        have IC := Lib.hid (swrV cl g cap base n (m - i) m j L wr hn HL.out (by omega) (by omega) hOW)
        have HE := Lib.hid (RotS.less HS.out hlt)
        go_wp2_with (go_at_call 52; (with_reducible refine (IC.out _ _ _ (by go_num) (by go_num) (by go_num)).mono ?_); rintro e w1 ⟨rfl, B1, K1, O1⟩)
        go_roundw
        case rel => exact ⟨i - j, j, _, by go_num, by go_num, by omega, by omega, by omega, by omega, HE, Lib.hid (by rw [swR_len]; exact HL.out), O1, Lib.hid (hB.out.trans B1), Lib.hid (hK.out.trans K1)⟩
        case measure => simp [intOf]; omega
      · have i1 : ¬ (j : Int) < i := by omega
        have hlt2 : i < j := by omega
        have IC := Lib.hid (swrV cl g cap base n (m - i) (m + j - i) i L wr hn HL.out (by omega) (by omega) hOW)
        have HE := Lib.hid (RotS.more HS.out hlt2)
        go_wp2_with (go_at_call 52; (with_reducible refine (IC.out _ _ _ (by go_num) (by go_num) (by go_num)).mono ?_); rintro e w1 ⟨rfl, B1, K1, O1⟩)
        go_roundw
        case rel => exact ⟨i, j - i, _, by go_num, by go_num, by omega, by omega, by omega, by omega, HE, Lib.hid (by rw [swR_len]; exact HL.out), O1, Lib.hid (hB.out.trans B1), Lib.hid (hK.out.trans K1)⟩
        case measure => simp [intOf]; omega
end Go.Proofs.Ytghnigmmkenddaa.Ar
