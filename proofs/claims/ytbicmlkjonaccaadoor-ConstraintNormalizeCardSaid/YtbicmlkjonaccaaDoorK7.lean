/- An element put in its place, and three searches. -/
import Derived.Test.YtbicmlkjonaccaaDoorK6

namespace Go.Proofs.YtbicmlkjonaccaaDoor.Ln
open Go.ChangeShapes Go.WideShapes Go.ChangeAt Go.RowKit
open Go.Proofs.YtbicmlkjonaccaaDoor.Nm
set_option linter.unusedVariables false
set_option linter.unusedSimpArgs false
set_option maxRecDepth 8000

/-- An element moves up, step by step. -/
def shU : Nat -> Nat -> List E5 -> List E5
 | 0, _, L => L
 | c + 1, k, L => shU c (k + 1) (swE L k (k + 1))
theorem shU_ok : ∀ (c k : Nat) (L : List E5), k + c < L.length -> RngC k (k + c + 1) L (shU c k L) /\ ∀ t, (shU c k L).getD t e50 = if k <= t /\ t < k + c then L.getD (t + 1) e50 else if t = k + c then L.getD k e50 else L.getD t e50
 | 0, k, L, _ => ⟨RngC.refl _ _ _, fun t => by
   unfold shU
   rw [if_neg (by omega)]
   by_cases h : t = k + 0
   ·rw [if_pos h, h]; rfl
   ·rw [if_neg h]⟩
 | c + 1, k, L, h => by
  have l0 : k < L.length := by omega
  have l1 : k + 1 < L.length := by omega
  have ih := shU_ok c (k + 1) (swE L k (k + 1)) (by rw [swE_len]; omega)
  unfold shU
  refine ⟨(RngC.swE l0 l1 (by omega) (by omega) (by omega) (by omega)).trans (ih.1.mono (by omega) (by omega)), fun t => ?_⟩
  rw [ih.2 t, swE_get l0 l1, swE_get l0 l1, swE_get l0 l1]
  by_cases h1 : k + 1 <= t /\ t < k + 1 + c
  ·rw [if_pos h1, if_neg (by omega), if_neg (by omega), if_pos (by omega)]
  ·rw [if_neg h1]
   by_cases h2 : t = k + 1 + c
   ·rw [if_pos h2, if_pos rfl, if_neg (by omega), if_pos (by omega)]
   ·rw [if_neg h2]
    by_cases h3 : t = k
    ·rw [if_neg (by omega), if_pos h3, if_pos (by omega), h3]
    ·rw [if_neg (by omega), if_neg h3, if_neg (by omega), if_neg (by omega)]
/-- An element moves down, step by step. -/
def shD : Nat -> Nat -> List E5 -> List E5
 | 0, _, L => L
 | c + 1, k, L => shD c (k - 1) (swE L k (k - 1))
theorem shD_ok : ∀ (c k : Nat) (L : List E5), c <= k -> k < L.length -> RngC (k - c) (k + 1) L (shD c k L) /\ ∀ t, (shD c k L).getD t e50 = if k - c < t /\ t <= k then L.getD (t - 1) e50 else if t = k - c then L.getD k e50 else L.getD t e50
 | 0, k, L, _, _ => ⟨RngC.refl _ _ _, fun t => by
   unfold shD
   rw [if_neg (by omega)]
   by_cases h : t = k - 0
   ·rw [if_pos h, h]; rfl
   ·rw [if_neg h]⟩
 | c + 1, k, L, hc, h => by
  have l1 : k - 1 < L.length := by omega
  have ih := shD_ok c (k - 1) (swE L k (k - 1)) (by omega) (by rw [swE_len]; omega)
  unfold shD
  refine ⟨(RngC.swE h l1 (by omega) (by omega) (by omega) (by omega)).trans (ih.1.mono (by omega) (by omega)), fun t => ?_⟩
  rw [ih.2 t, swE_get h l1, swE_get h l1, swE_get h l1]
  by_cases h1 : k - 1 - c < t /\ t <= k - 1
  ·rw [if_pos h1, if_neg (by omega), if_neg (by omega), if_pos (by omega)]
  ·rw [if_neg h1]
   by_cases h2 : t = k - 1 - c
   ·rw [if_pos h2, if_pos rfl, if_neg (by omega), if_pos (by omega)]
   ·rw [if_neg h2]
    by_cases h3 : t = k
    ·rw [if_neg (by omega), if_pos h3, if_pos (by omega), h3]
    ·rw [if_neg (by omega), if_neg h3, if_neg (by omega), if_neg (by omega)]
variable {cf : E5 -> E5 -> Int}
/-- The first element is put in its place. -/
theorem put_first (O : OrdC cf) {a i b : Nat} {L : List E5} (hb : b <= L.length) (h1 : a + 1 <= i) (h2 : i <= b) (S : SrtC cf (a + 1) b L) (lo : ∀ h, a + 1 <= h -> h < i -> cf (L.getD h e50) (L.getD a e50) < 0) (hi : ∀ h, i <= h -> h < b -> ¬ cf (L.getD h e50) (L.getD a e50) < 0) : RngC a b L (shU (i - 1 - a) a L) /\ SrtC cf a b (shU (i - 1 - a) a L) := by
 have h := shU_ok (i - 1 - a) a L (by omega)
 refine ⟨h.1.mono (Nat.le_refl _) (by omega), fun p q p1 pq q1 => ?_⟩
 rw [h.2 p, h.2 q, show a + (i - 1 - a) = i - 1 by omega]
 by_cases c1 : p < i - 1
 ·rw [if_pos (show a <= p /\ p < i - 1 by omega)]
  by_cases c2 : q < i - 1
  ·rw [if_pos (show a <= q /\ q < i - 1 by omega)]; exact S _ _ (by omega) (by omega) (by omega)
  ·rw [if_neg (show ¬ (a <= q /\ q < i - 1) by omega)]
   by_cases c3 : q = i - 1
   ·rw [if_pos c3]; exact O.asym _ _ (lo _ (by omega) (by omega))
   ·rw [if_neg c3]; exact S _ _ (by omega) (by omega) (by omega)
 ·rw [if_neg (show ¬ (a <= p /\ p < i - 1) by omega), if_neg (show ¬ (a <= q /\ q < i - 1) by omega), if_neg (show ¬ q = i - 1 by omega)]
  by_cases c3 : p = i - 1
  ·rw [if_pos c3]; exact hi _ (by omega) (by omega)
  ·rw [if_neg c3]; exact S _ _ (by omega) (by omega) (by omega)
/-- The last element is put in its place. -/
theorem put_last (O : OrdC cf) {a i m : Nat} {L : List E5} (hb : m < L.length) (h1 : a <= i) (h2 : i <= m) (S : SrtC cf a m L) (lo : ∀ h, a <= h -> h < i -> ¬ cf (L.getD m e50) (L.getD h e50) < 0) (hi : ∀ h, i <= h -> h < m -> cf (L.getD m e50) (L.getD h e50) < 0) : RngC a (m + 1) L (shD (m - i) m L) /\ SrtC cf a (m + 1) (shD (m - i) m L) := by
 have h := shD_ok (m - i) m L (by omega) hb
 refine ⟨h.1.mono (by omega) (Nat.le_refl _), fun p q p1 pq q1 => ?_⟩
 rw [h.2 p, h.2 q, show m - (m - i) = i by omega]
 by_cases c1 : i < p
 ·rw [if_pos (show i < p /\ p <= m by omega), if_pos (show i < q /\ q <= m by omega)]
  exact S _ _ (by omega) (by omega) (by omega)
 ·rw [if_neg (show ¬ (i < p /\ p <= m) by omega)]
  by_cases c2 : p = i
  ·rw [if_pos c2, if_pos (show i < q /\ q <= m by omega)]
   exact O.asym _ _ (hi _ (by omega) (by omega))
  ·rw [if_neg c2]
   by_cases c3 : i < q
   ·rw [if_pos (show i < q /\ q <= m by omega)]; exact S _ _ (by omega) (by omega) (by omega)
   ·rw [if_neg (show ¬ (i < q /\ q <= m) by omega)]
    by_cases c4 : q = i
    ·rw [if_pos c4]; exact lo _ (by omega) (by omega)
    ·rw [if_neg c4]; exact S _ _ (by omega) (by omega) (by omega)
/-- A search: below i the elements from c on are less than x. -/
structure BisU (cf : E5 -> E5 -> Int) (L : List E5) (x : E5) (lo hi i j : Nat) : Prop where
 a1 : lo <= i
 a2 : i <= j
 a3 : j <= hi
 below : ∀ h, lo <= h -> h < i -> cf (L.getD h e50) x < 0
 above : ∀ h, j <= h -> h < hi -> ¬ cf (L.getD h e50) x < 0
theorem BisU.up (O : OrdC cf) {L : List E5} {x : E5} {lo hi i j h : Nat} (B : BisU cf L x lo hi i j) (S : SrtC cf lo hi L) (h1 : i <= h) (h2 : h < j) (hc : cf (L.getD h e50) x < 0) : BisU cf L x lo hi (h + 1) j :=
 ⟨by have := B.a1; omega, h2, B.a3, fun k k1 k2 => by
  by_cases hk : k = h
  ·rw [hk]; exact hc
  ·exact Decidable.byContradiction fun hn => O.trans _ _ _ hn (S k h k1 (by omega) (by have := B.a3; omega)) hc, B.above⟩
theorem BisU.down (O : OrdC cf) {L : List E5} {x : E5} {lo hi i j h : Nat} (B : BisU cf L x lo hi i j) (S : SrtC cf lo hi L) (h1 : i <= h) (h2 : h < j) (hc : ¬ cf (L.getD h e50) x < 0) : BisU cf L x lo hi i h :=
 ⟨B.a1, h1, by have := B.a3; omega, B.below, fun k k1 k2 => by
  by_cases hk : k = h
  ·rw [hk]; exact hc
  ·exact O.trans _ _ _ hc (S h k (by have := B.a1; omega) (by omega) k2)⟩
/-- A search: below i the elements are not above x. -/
structure BisD (cf : E5 -> E5 -> Int) (L : List E5) (x : E5) (lo hi i j : Nat) : Prop where
 a1 : lo <= i
 a2 : i <= j
 a3 : j <= hi
 below : ∀ h, lo <= h -> h < i -> ¬ cf x (L.getD h e50) < 0
 above : ∀ h, j <= h -> h < hi -> cf x (L.getD h e50) < 0
theorem BisD.up (O : OrdC cf) {L : List E5} {x : E5} {lo hi i j h : Nat} (B : BisD cf L x lo hi i j) (S : SrtC cf lo hi L) (h1 : i <= h) (h2 : h < j) (hc : ¬ cf x (L.getD h e50) < 0) : BisD cf L x lo hi (h + 1) j :=
 ⟨by have := B.a1; omega, h2, B.a3, fun k k1 k2 => by
  by_cases hk : k = h
  ·rw [hk]; exact hc
  ·exact O.trans _ _ _ (S k h k1 (by omega) (by have := B.a3; omega)) hc, B.above⟩
theorem BisD.down (O : OrdC cf) {L : List E5} {x : E5} {lo hi i j h : Nat} (B : BisD cf L x lo hi i j) (S : SrtC cf lo hi L) (h1 : i <= h) (h2 : h < j) (hc : cf x (L.getD h e50) < 0) : BisD cf L x lo hi i h :=
 ⟨B.a1, h1, by have := B.a3; omega, B.below, fun k k1 k2 => by
  by_cases hk : k = h
  ·rw [hk]; exact hc
  ·exact Decidable.byContradiction fun hn => O.trans _ _ _ (S h k (by have := B.a1; omega) (by omega) k2) hn hc⟩
/-- The search for where two sorted parts are cut: c of the one goes with p - c of the other. -/
structure BisP (cf : E5 -> E5 -> Int) (L : List E5) (p lo hi i j : Nat) : Prop where
 a1 : lo <= i
 a2 : i <= j
 a3 : j <= hi
 below : ∀ h, lo <= h -> h < i -> ¬ cf (L.getD (p - h) e50) (L.getD h e50) < 0
 above : ∀ h, j <= h -> h < hi -> cf (L.getD (p - h) e50) (L.getD h e50) < 0
theorem BisP.up (O : OrdC cf) {L : List E5} {a m b p lo hi i j h : Nat} (B : BisP cf L p lo hi i j) (S1 : SrtC cf a m L) (S2 : SrtC cf m b L) (l1 : a <= lo) (l2 : hi <= m) (l3 : hi <= p + 1) (l4 : m <= p + 1 - hi) (l5 : p - lo < b) (h1 : i <= h) (h2 : h < j) (hc : ¬ cf (L.getD (p - h) e50) (L.getD h e50) < 0) : BisP cf L p lo hi (h + 1) j :=
 ⟨by have := B.a1; omega, h2, B.a3, fun k k1 k2 => by
  have := B.a3
  by_cases hk : k = h
  ·rw [hk]; exact hc
  ·exact O.trans _ _ _ (O.trans _ _ _ (S1 k h (by omega) (by omega) (by omega)) hc) (S2 (p - h) (p - k) (by omega) (by omega) (by omega)), B.above⟩
theorem BisP.down (O : OrdC cf) {L : List E5} {a m b p lo hi i j h : Nat} (B : BisP cf L p lo hi i j) (S1 : SrtC cf a m L) (S2 : SrtC cf m b L) (l1 : a <= lo) (l2 : hi <= m) (l3 : hi <= p + 1) (l4 : m <= p + 1 - hi) (l5 : p - lo < b) (h1 : i <= h) (h2 : h < j) (hc : cf (L.getD (p - h) e50) (L.getD h e50) < 0) : BisP cf L p lo hi i h :=
 ⟨B.a1, h1, by have := B.a3; omega, B.below, fun k k1 k2 => by
  have := B.a1
  by_cases hk : k = h
  ·rw [hk]; exact hc
  ·exact Decidable.byContradiction fun hn => O.trans _ _ _ (O.trans _ _ _ (S1 h k (by omega) (by omega) (by omega)) hn) (S2 (p - k) (p - h) (by omega) (by omega) (by omega)) hc⟩
end Go.Proofs.YtbicmlkjonaccaaDoor.Ln


namespace Go.Proofs.YtbicmlkjonaccaaDoor.Ln
open Go.ChangeShapes Go.WideShapes Go.ChangeAt Go.RowKit
open Go.Proofs.YtbicmlkjonaccaaDoor.Nm
set_option linter.unusedVariables false
set_option linter.unusedSimpArgs false
set_option maxRecDepth 8000

theorem swrV (g cap base n a b k : Nat) (L0 : List E5) (w : World) (hn : n <= 100000) (hl : L0.length = n) (hab : a + k <= b) (hbn : b + k <= n) (hO : Hid (w.ownsRow base 36 3 (.slice (some ⟨g, 0, none⟩) n cap) n (rowE L0))) (va vb vk : Value) (ha : va = .int .i64 (a : Int)) (hb : vb = .int .i64 (b : Int)) (hk : vk = .int .i64 (k : Int)) :
  Calls Tryd.prog 135 #[.slice (some ⟨g, 0, none⟩) n cap, va, vb, vk, .func (.func 72) #[] #[]] w fun e w' => e = .returned (.tuple #[]) /\ Below base w w' /\ K59 w w' /\ Hid (w'.ownsRow base 36 3 (.slice (some ⟨g, 0, none⟩) n cap) n (rowE (swR k a b L0))) := by
 subst ha hb hk
 exact swrN g cap base n a b k L0 w hn hl hab hbn hO
/-- What is left to rotate: i elements before m, j behind. -/
def RotS (m i j : Nat) (L RES : List E5) : Prop := ∃ Q A B R : List E5, L = Q ++ (A ++ (B ++ R)) /\ Q ++ (B ++ (A ++ R)) = RES /\ Q.length + i = m /\ A.length = i /\ B.length = j
theorem RotS.less {m i j : Nat} {L RES : List E5} (H : RotS m i j L RES) (h : j < i) : RotS m (i - j) j (swR j (m - i) m L) RES := by
 obtain ⟨Q, A, B, R, rfl, h2, h3, h4, h5⟩ := H
 have e0 : Q ++ (A ++ (B ++ R)) = Q ++ (A.take j ++ (A.drop j ++ (B ++ R))) := by rw [<- List.append_assoc (A.take j), List.take_append_drop]
 have lt : (A.take j).length = j := by simp; omega
 have ld : (A.drop j).length = i - j := by simp; omega
 have h := swR_mid (A.take j) B Q (A.drop j) R (by omega)
 rw [lt, ld, show Q.length = m - i by omega, show m - i + j + (i - j) = m by omega] at h
 rw [e0, h]
 refine ⟨Q ++ B, A.drop j, A.take j, R, by simp, ?_, by simp; omega, ld, lt⟩
 rw [<- h2, List.append_assoc, <- List.append_assoc (A.take j), List.take_append_drop]
theorem RotS.more {m i j : Nat} {L RES : List E5} (H : RotS m i j L RES) (h : i < j) : RotS m i (j - i) (swR i (m - i) (m + j - i) L) RES := by
 obtain ⟨Q, A, B, R, rfl, h2, h3, h4, h5⟩ := H
 have e0 : Q ++ (A ++ (B ++ R)) = Q ++ (A ++ (B.take (j - i) ++ (B.drop (j - i) ++ R))) := by rw [<- List.append_assoc (B.take (j - i)), List.take_append_drop]
 have lt : (B.take (j - i)).length = j - i := by simp; omega
 have ld : (B.drop (j - i)).length = i := by simp; omega
 have h := swR_mid A (B.drop (j - i)) Q (B.take (j - i)) R (by omega)
 rw [lt, h4, show Q.length = m - i by omega, show m - i + i + (j - i) = m + j - i by omega] at h
 rw [e0, h]
 refine ⟨Q, B.drop (j - i), B.take (j - i), A ++ R, by simp, ?_, by omega, ld, lt⟩
 rw [<- h2, <- List.append_assoc (B.take (j - i)), List.take_append_drop]
theorem RotS.last {m i : Nat} {L RES : List E5} (H : RotS m i i L RES) : swR i (m - i) m L = RES := by
 obtain ⟨Q, A, B, R, rfl, h2, h3, h4, h5⟩ := H
 have h := swR_mid A B Q [] R (by omega)
 rw [h4, show Q.length = m - i by omega, List.length_nil, show m - i + i + 0 = m by omega] at h
 rw [List.nil_append, List.nil_append] at h
 rw [h]
 exact h2

set_option maxRecDepth 100000 in
set_option maxHeartbeats 8000000 in
/-- A row's two neighbouring ranges change places. -/
theorem rotN (g cap base n a m b : Nat) (L0 RES : List E5) (w : World) (hn : n <= 100000) (hl : L0.length = n) (h1 : a < m) (h2 : m < b) (h3 : b <= n) (HS : Hid (RotS m (m - a) (b - m) L0 RES)) (hO : Hid (w.ownsRow base 36 3 (.slice (some ⟨g, 0, none⟩) n cap) n (rowE L0))) (va vm vb : Value) (ha : va = .int .i64 (a : Int)) (hm : vm = .int .i64 (m : Int)) (hb : vb = .int .i64 (b : Int)) :
  Calls Tryd.prog 128 #[.slice (some ⟨g, 0, none⟩) n cap, va, vm, vb, .func (.func 72) #[] #[]] w fun e w' => e = .returned (.tuple #[]) /\ Below base w w' /\ K59 w w' /\ Hid (w'.ownsRow base 36 3 (.slice (some ⟨g, 0, none⟩) n cap) n (rowE RES)) := by
 subst ha hm hb
 have HL := Lib.hid hl
 clear hl
 go_enter Tryd.func128, Tryd.ntmps128
 go_wp2_with fail
 go_loopw [10, 11] (fun iv jv wr => ∃ (i j : Nat) (L : List E5), iv = .int .i64 (i : Int) /\ jv = .int .i64 (j : Int) /\ 0 < i /\ 0 < j /\ i <= m /\ m + j <= n /\ Hid (RotS m i j L RES) /\ Hid (L.length = n) /\ Hid (wr.ownsRow base 36 3 (.slice (some ⟨g, 0, none⟩) n cap) n (rowE L)) /\ Hid (Below base w wr) /\ Hid (K59 w wr)) (fun iv jv _ => (intOf iv).toNat + (intOf jv).toNat)
 case atStart => exact ⟨m - a, b - m, L0, by go_num, by go_num, by omega, by omega, by omega, by omega, HS, HL, hO, Lib.hid (Below.refl _ _), Lib.hid (fun _ _ h => h)⟩
 case round =>
  clear HS HL hO
  obtain ⟨i, j, L, rfl, rfl, hi, hj, him, hjn, HS, HL, hOW, hB, hK⟩ := hrel
  by_cases hij : i = j
  ·subst hij
   have IC := Lib.hid (swrV g cap base n (m - i) m i L wr hn HL.out (by omega) (by omega) hOW)
   have HE := Lib.hid (RotS.last HS.out)
   go_wp2_with (go_at_call 135; (with_reducible refine (IC.out _ _ _ (by go_num) (by go_num) (by go_num)).mono ?_); rintro e w1 ⟨rfl, B1, K1, O1⟩)
   go_end0
   exact ⟨rfl, hB.out.trans B1, hK.out.trans K1, by rw [<- HE.out]; exact O1⟩
  ·have i0 : ¬ ((i : Int) = j) := by omega
   by_cases hlt : j < i
   ·have i1 : (j : Int) < i := by omega
    have IC := Lib.hid (swrV g cap base n (m - i) m j L wr hn HL.out (by omega) (by omega) hOW)
    have HE := Lib.hid (RotS.less HS.out hlt)
    go_wp2_with (go_at_call 135; (with_reducible refine (IC.out _ _ _ (by go_num) (by go_num) (by go_num)).mono ?_); rintro e w1 ⟨rfl, B1, K1, O1⟩)
    go_roundw
    case rel => exact ⟨i - j, j, _, by go_num, by go_num, by omega, by omega, by omega, by omega, HE, Lib.hid (by rw [swR_len]; exact HL.out), O1, Lib.hid (hB.out.trans B1), Lib.hid (hK.out.trans K1)⟩
    case measure => simp [intOf]; omega
   ·have i1 : ¬ (j : Int) < i := by omega
    have hlt2 : i < j := by omega
    have IC := Lib.hid (swrV g cap base n (m - i) (m + j - i) i L wr hn HL.out (by omega) (by omega) hOW)
    have HE := Lib.hid (RotS.more HS.out hlt2)
    go_wp2_with (go_at_call 135; (with_reducible refine (IC.out _ _ _ (by go_num) (by go_num) (by go_num)).mono ?_); rintro e w1 ⟨rfl, B1, K1, O1⟩)
    go_roundw
    case rel => exact ⟨i, j - i, _, by go_num, by go_num, by omega, by omega, by omega, by omega, HE, Lib.hid (by rw [swR_len]; exact HL.out), O1, Lib.hid (hB.out.trans B1), Lib.hid (hK.out.trans K1)⟩
    case measure => simp [intOf]; omega
end Go.Proofs.YtbicmlkjonaccaaDoor.Ln


namespace Go.Proofs.YtbicmlkjonaccaaDoor.Ln
open Go.ChangeShapes Go.WideShapes Go.ChangeAt Go.RowKit
open Go.Proofs.YtbicmlkjonaccaaDoor.Nm
set_option linter.unusedVariables false
set_option linter.unusedSimpArgs false
set_option maxRecDepth 8000

set_option maxRecDepth 100000 in
set_option maxHeartbeats 8000000 in
/-- The merge where the first part has one element. -/
theorem sm1 (g cap base n a m b : Nat) (D L0 : List E5) (cf : E5 -> E5 -> Int) (O : OrdC cf) (wo w : World) (hn : n <= 100000) (HL : Hid (L0.length = n /\ ∀ x ∈ L0, x ∈ D)) (h1 : a < m) (h2 : m < b) (h3 : b <= n) (hO : Hid (w.ownsRow base 36 3 (.slice (some ⟨g, 0, none⟩) n cap) n (rowE L0))) (NC : Hid (∀ x y, x ∈ D -> y ∈ D -> ∀ w', K59 wo w' -> Calls Tryd.prog 72 #[agE x, agE y] w' fun e w2 => e = .returned (.int .i64 (cf x y)) /\ Below w'.heap.size w' w2)) (KO : Hid (K59 wo w)) (hbw : base <= w.heap.size) (SA : Hid (SrtC cf a m L0)) (SB : Hid (SrtC cf m b L0)) (hm : m = a + 1) :
  Calls Tryd.prog 121 #[.slice (some ⟨g, 0, none⟩) n cap, .int .i64 (a : Int), .int .i64 (m : Int), .int .i64 (b : Int), .func (.func 72) #[] #[]] w fun e w' => e = .returned (.tuple #[]) /\ Below base w w' /\ K59 w w' /\ ∃ L', RngC a b L0 L' /\ SrtC cf a b L' /\ Hid (w'.ownsRow base 36 3 (.slice (some ⟨g, 0, none⟩) n cap) n (rowE L')) := by
 have hbase : base <= g \/ n = 0 := by
  rcases hO.out.2 with ⟨h, hz⟩ | ⟨g', cap', cur, h, hb, _⟩
  ·simp at h
  ·cases h; exact .inl hb
 unfold agE at NC
 have OO := Lib.hid O
 clear O
 have HMA := Lib.hid hm
 have c1 : (m : Int) - (a : Int) = 1 := by omega
 clear hm
 go_enter Tryd.func121, Tryd.ntmps121
 go_wp2_with fail
 go_loopw [10, 11] (fun iv jv wr => ∃ (i j : Nat), iv = .int .i64 (i : Int) /\ jv = .int .i64 (j : Int) /\ i <= j /\ m <= i /\ j <= b /\ Hid (BisU cf L0 (L0.getD a e50) m b i j) /\ Hid (wr.ownsRow base 36 3 (.slice (some ⟨g, 0, none⟩) n cap) n (rowE L0)) /\ Hid (Below base w wr) /\ Hid (K59 w wr)) (fun iv jv _ => (intOf jv).toNat - (intOf iv).toNat)
 case atStart => exact ⟨m, b, by go_num, by go_num, by omega, by omega, by omega, Lib.hid ⟨by omega, by omega, by omega, fun h k1 k2 => absurd k1 (by omega), fun h k1 k2 => absurd k1 (by omega)⟩, hO, Lib.hid (Below.refl _ _), Lib.hid (fun _ _ h => h)⟩
 case round =>
  clear hO
  obtain ⟨i, j, rfl, rfl, hij, hai, hjb, HB, hOW, hB, hK⟩ := hrel
  by_cases hlt : i < j
  ·have i1 : (i : Int) < j := by omega
   go_wp2_with fail
   obtain ⟨h, hh⟩ : ∃ h, h = (i + j) / 2 := ⟨_, rfl⟩
   have hh1 : i <= h := by omega
   have hh2 : h < j := by omega
   have hv : ((i : Int) + (j : Int)) / 2 = (h : Int) := by omega
   rw [hv]
   clear hv hh
   have hpL : h < L0.length := by rw [HL.out.1]; omega
   have hqL : a < L0.length := by rw [HL.out.1]; omega
   obtain ⟨v0, v1, v2⟩ := rowE_get L0 h hpL
   obtain ⟨u0, u1, u2⟩ := rowE_get L0 a hqL
   have HX : Hid (L0.getD h e50 ∈ D) := Lib.hid (HL.out.2 _ (getD_mem5 hpL))
   have HY : Hid (L0.getD a e50 ∈ D) := Lib.hid (HL.out.2 _ (getD_mem5 hqL))
   have c0 := (hOW.out.cellAt (h * 3) (by omega)).trans v0
   have c1 := (hOW.out.cellAt (h * 3 + 1) (by omega)).trans v1
   have c2 := (hOW.out.cellAt (h * 3 + 2) (by omega)).trans v2
   have d0 := (hOW.out.cellAt (a * 3) (by omega)).trans u0
   have d1 := (hOW.out.cellAt (a * 3 + 1) (by omega)).trans u1
   have d2 := (hOW.out.cellAt (a * 3 + 2) (by omega)).trans u2
   obtain ⟨x, hx⟩ : ∃ x, L0.getD h e50 = x := ⟨_, rfl⟩
   obtain ⟨y, hy⟩ : ∃ y, L0.getD a e50 = y := ⟨_, rfl⟩
   have HX0 := Lib.hid hx
   have HY0 := Lib.hid hy
   rw [hx] at c0 c1 c2 HX
   rw [hy] at d0 d1 d2 HY
   have j2 : (h : Int) < n := by have := HL.out.1; omega
   have j3 : (a : Int) < n := by have := HL.out.1; omega
   have j4 : (0 : Int) <= h := by omega
   have j5 : (0 : Int) <= a := by omega
   have HKW := Lib.hid (KO.out.trans hK.out)
   have hzr : wr.drew.cell? ⟨g, h * 3, none⟩ = some (.int .i64 x.1) /\ wr.drew.cell? ⟨g, h * 3 + 1, none⟩ = some (.slice x.2.1 x.2.2.1 x.2.2.2.1) /\ wr.drew.cell? ⟨g, h * 3 + 2, none⟩ = some (.bool x.2.2.2.2) /\ wr.drew.cell? ⟨g, a * 3, none⟩ = some (.int .i64 y.1) /\ wr.drew.cell? ⟨g, a * 3 + 1, none⟩ = some (.slice y.2.1 y.2.2.1 y.2.2.2.1) /\ wr.drew.cell? ⟨g, a * 3 + 2, none⟩ = some (.bool y.2.2.2.2) /\ Below wr.heap.size wr wr.drew := ⟨c0, c1, c2, d0, d1, d2, (Below.refl _ _).drew⟩
   have HS : Hid (∀ u u' : World, (u.cell? ⟨g, h * 3, none⟩ = some (.int .i64 x.1) /\ u.cell? ⟨g, h * 3 + 1, none⟩ = some (.slice x.2.1 x.2.2.1 x.2.2.2.1) /\ u.cell? ⟨g, h * 3 + 2, none⟩ = some (.bool x.2.2.2.2) /\ u.cell? ⟨g, a * 3, none⟩ = some (.int .i64 y.1) /\ u.cell? ⟨g, a * 3 + 1, none⟩ = some (.slice y.2.1 y.2.2.1 y.2.2.2.1) /\ u.cell? ⟨g, a * 3 + 2, none⟩ = some (.bool y.2.2.2.2) /\ Below wr.heap.size wr u) -> Below u.heap.size u u' -> (u'.cell? ⟨g, h * 3, none⟩ = some (.int .i64 x.1) /\ u'.cell? ⟨g, h * 3 + 1, none⟩ = some (.slice x.2.1 x.2.2.1 x.2.2.2.1) /\ u'.cell? ⟨g, h * 3 + 2, none⟩ = some (.bool x.2.2.2.2) /\ u'.cell? ⟨g, a * 3, none⟩ = some (.int .i64 y.1) /\ u'.cell? ⟨g, a * 3 + 1, none⟩ = some (.slice y.2.1 y.2.2.1 y.2.2.2.1) /\ u'.cell? ⟨g, a * 3 + 2, none⟩ = some (.bool y.2.2.2.2) /\ Below wr.heap.size wr u')) := Lib.hid (fun u u' h hb => ⟨Rg.keep hb (World.block_lt_of_cell? _ _ h.1) h.1, Rg.keep hb (World.block_lt_of_cell? _ _ h.2.1) h.2.1, Rg.keep hb (World.block_lt_of_cell? _ _ h.2.2.1) h.2.2.1, Rg.keep hb (World.block_lt_of_cell? _ _ h.2.2.2.1) h.2.2.2.1, Rg.keep hb (World.block_lt_of_cell? _ _ h.2.2.2.2.1) h.2.2.2.2.1, Rg.keep hb (World.block_lt_of_cell? _ _ h.2.2.2.2.2.1) h.2.2.2.2.2.1, h.2.2.2.2.2.2.trans (hb.mono h.2.2.2.2.2.2.size)⟩)
   clear v0 v1 v2 u0 u1 u2 c0 c1 c2 d0 d1 d2
   by_cases hneg : cf x y < 0
   ·have hr2 : decide (cf x y < 0) = true := by simpa using hneg
    have HB2 := Lib.hid (HB.out.up OO.out SB.out hh1 hh2 (by rw [HX0.out, HY0.out]; exact hneg))
    refine Rk.begin (S := fun wS => wS.cell? ⟨g, h * 3, none⟩ = some (.int .i64 x.1) /\ wS.cell? ⟨g, h * 3 + 1, none⟩ = some (.slice x.2.1 x.2.2.1 x.2.2.2.1) /\ wS.cell? ⟨g, h * 3 + 2, none⟩ = some (.bool x.2.2.2.2) /\ wS.cell? ⟨g, a * 3, none⟩ = some (.int .i64 y.1) /\ wS.cell? ⟨g, a * 3 + 1, none⟩ = some (.slice y.2.1 y.2.2.1 y.2.2.2.1) /\ wS.cell? ⟨g, a * 3 + 2, none⟩ = some (.bool y.2.2.2.2) /\ Below wr.heap.size wr wS) 10 (by kernel_rfl) hzr (fun hHeld => ?_)
    refine Rk.takeP (i := 0) (v := ?_) rfl (by kernel_rfl) (by kernel_rfl) (by kernel_rfl) (by kernel_rfl) (fun _ _ _ h => h) (Or.inl ⟨by kernel_rfl, ?_⟩) (by assumption) ?_
    rotate_left
    ·((intro w hSw; go_simp) <;> with_reducible rfl)
    try simp only [Act.put, List.setIfInBounds_toArray, List.set_cons_zero, List.set_cons_succ]
    refine Rk.takeP (i := 1) (v := ?_) rfl (by kernel_rfl) (by kernel_rfl) (by kernel_rfl) (by kernel_rfl) (fun _ _ _ h => h) (Or.inl ⟨by kernel_rfl, ?_⟩) (by assumption) ?_
    rotate_left
    ·((intro w hSw; go_simp) <;> with_reducible rfl)
    try simp only [Act.put, List.setIfInBounds_toArray, List.set_cons_zero, List.set_cons_succ]
    refine Rk.takeP (i := 2) (v := ?_) rfl (by kernel_rfl) (by kernel_rfl) (by kernel_rfl) (by kernel_rfl) (fun _ _ _ h => h) (Or.inl ⟨by kernel_rfl, ?_⟩) (by assumption) ?_
    rotate_left
    ·((intro w hSw; go_simp) <;> with_reducible rfl)
    try simp only [Act.put, List.setIfInBounds_toArray, List.set_cons_zero, List.set_cons_succ]
    refine Rk.takeP (i := 3) (v := ?_) rfl (by kernel_rfl) (by kernel_rfl) (by kernel_rfl) (by kernel_rfl) (fun _ _ _ h => h) (Or.inl ⟨by kernel_rfl, ?_⟩) (by assumption) ?_
    rotate_left
    ·((intro w hSw; go_simp) <;> with_reducible rfl)
    try simp only [Act.put, List.setIfInBounds_toArray, List.set_cons_zero, List.set_cons_succ]
    refine Rk.take [9, 10] (i := 4) (v := ?_) rfl (by kernel_rfl) (by kernel_rfl) (by kernel_rfl) (by kernel_rfl) (by kernel_rfl) (fun _ _ _ h => h) (Or.inl ⟨by kernel_rfl, ?_⟩) (by assumption) ?_
    rotate_left
    ·((intro w hSw; (try dsimp only at hSw); go_simp) <;> with_reducible rfl)
    try simp only [Act.put, List.setIfInBounds_toArray, List.set_cons_zero, List.set_cons_succ]
    refine Rk.takeP (i := 5) (v := ?_) rfl (by kernel_rfl) (by kernel_rfl) (by kernel_rfl) (by kernel_rfl) (fun _ _ _ h => h) (Or.inl ⟨by kernel_rfl, ?_⟩) (by assumption) ?_
    rotate_left
    ·((intro w hSw; go_simp) <;> with_reducible rfl)
    try simp only [Act.put, List.setIfInBounds_toArray, List.set_cons_zero, List.set_cons_succ]
    refine Rk.takeP (i := 6) (v := ?_) rfl (by kernel_rfl) (by kernel_rfl) (by kernel_rfl) (by kernel_rfl) (fun _ _ _ h => h) (Or.inl ⟨by kernel_rfl, ?_⟩) (by assumption) ?_
    rotate_left
    ·((intro w hSw; go_simp) <;> with_reducible rfl)
    try simp only [Act.put, List.setIfInBounds_toArray, List.set_cons_zero, List.set_cons_succ]
    refine Rk.takeP (i := 7) (v := ?_) rfl (by kernel_rfl) (by kernel_rfl) (by kernel_rfl) (by kernel_rfl) (fun _ _ _ h => h) (Or.inl ⟨by kernel_rfl, ?_⟩) (by assumption) ?_
    rotate_left
    ·((intro w hSw; go_simp) <;> with_reducible rfl)
    try simp only [Act.put, List.setIfInBounds_toArray, List.set_cons_zero, List.set_cons_succ]
    refine Rk.take [9, 10] (i := 8) (v := ?_) rfl (by kernel_rfl) (by kernel_rfl) (by kernel_rfl) (by kernel_rfl) (by kernel_rfl) (fun _ _ _ h => h) (Or.inl ⟨by kernel_rfl, ?_⟩) (by assumption) ?_
    rotate_left
    ·((intro w hSw; (try dsimp only at hSw); go_simp) <;> with_reducible rfl)
    try simp only [Act.put, List.setIfInBounds_toArray, List.set_cons_zero, List.set_cons_succ]
    refine Rk.one (i := 9) (by kernel_rfl) rfl (fun KK hK => ?_)
    rw [if_pos (by kernel_rfl)]
    go_simp
    ((with_reducible refine (NC.out x y HX.out HY.out _ (HKW.out.trans (K59.below (hHeld.2.2.2.2.2.2)))).mono ?_); rintro e u ⟨rfl, hb⟩)
    first | (refine hK.out _ _ (fun _ => HS.out _ _ hHeld hb) (fun hHeld => ?_)) | (refine hK.out _ _ (HS.out _ _ hHeld hb) (fun hHeld => ?_)) | (go_wp2_with fail; refine hK.out _ _ (HS.out _ _ hHeld hb) (fun hHeld => ?_))
    clear hK KK
    refine Rk.tail [10] [_] (by kernel_rfl) (by kernel_rfl) rfl (by decide) ?_
    have KB0 := hHeld.2.2.2.2.2.2
    have O2 := Lib.hid (own_belowE hOW.out KB0)
    have B2 := Lib.hid (hB.out.trans (KB0.mono (by have := hB.out.size; omega)))
    have K2 := Lib.hid (hK.out.trans (K59.below KB0))
    clear hHeld HS hOW hB hK KB0
    go_wp2_with fail
    go_roundw
    case rel => exact ⟨h + 1, j, by go_num, by go_num, by omega, by omega, by omega, HB2, O2, B2, K2⟩
    case measure => simp [intOf]; omega
   ·have hr2 : decide (cf x y < 0) = false := by simpa using hneg
    have HB2 := Lib.hid (HB.out.down OO.out SB.out hh1 hh2 (by rw [HX0.out, HY0.out]; exact hneg))
    refine Rk.begin (S := fun wS => wS.cell? ⟨g, h * 3, none⟩ = some (.int .i64 x.1) /\ wS.cell? ⟨g, h * 3 + 1, none⟩ = some (.slice x.2.1 x.2.2.1 x.2.2.2.1) /\ wS.cell? ⟨g, h * 3 + 2, none⟩ = some (.bool x.2.2.2.2) /\ wS.cell? ⟨g, a * 3, none⟩ = some (.int .i64 y.1) /\ wS.cell? ⟨g, a * 3 + 1, none⟩ = some (.slice y.2.1 y.2.2.1 y.2.2.2.1) /\ wS.cell? ⟨g, a * 3 + 2, none⟩ = some (.bool y.2.2.2.2) /\ Below wr.heap.size wr wS) 10 (by kernel_rfl) hzr (fun hHeld => ?_)
    refine Rk.takeP (i := 0) (v := ?_) rfl (by kernel_rfl) (by kernel_rfl) (by kernel_rfl) (by kernel_rfl) (fun _ _ _ h => h) (Or.inl ⟨by kernel_rfl, ?_⟩) (by assumption) ?_
    rotate_left
    ·((intro w hSw; go_simp) <;> with_reducible rfl)
    try simp only [Act.put, List.setIfInBounds_toArray, List.set_cons_zero, List.set_cons_succ]
    refine Rk.takeP (i := 1) (v := ?_) rfl (by kernel_rfl) (by kernel_rfl) (by kernel_rfl) (by kernel_rfl) (fun _ _ _ h => h) (Or.inl ⟨by kernel_rfl, ?_⟩) (by assumption) ?_
    rotate_left
    ·((intro w hSw; go_simp) <;> with_reducible rfl)
    try simp only [Act.put, List.setIfInBounds_toArray, List.set_cons_zero, List.set_cons_succ]
    refine Rk.takeP (i := 2) (v := ?_) rfl (by kernel_rfl) (by kernel_rfl) (by kernel_rfl) (by kernel_rfl) (fun _ _ _ h => h) (Or.inl ⟨by kernel_rfl, ?_⟩) (by assumption) ?_
    rotate_left
    ·((intro w hSw; go_simp) <;> with_reducible rfl)
    try simp only [Act.put, List.setIfInBounds_toArray, List.set_cons_zero, List.set_cons_succ]
    refine Rk.takeP (i := 3) (v := ?_) rfl (by kernel_rfl) (by kernel_rfl) (by kernel_rfl) (by kernel_rfl) (fun _ _ _ h => h) (Or.inl ⟨by kernel_rfl, ?_⟩) (by assumption) ?_
    rotate_left
    ·((intro w hSw; go_simp) <;> with_reducible rfl)
    try simp only [Act.put, List.setIfInBounds_toArray, List.set_cons_zero, List.set_cons_succ]
    refine Rk.take [9, 10] (i := 4) (v := ?_) rfl (by kernel_rfl) (by kernel_rfl) (by kernel_rfl) (by kernel_rfl) (by kernel_rfl) (fun _ _ _ h => h) (Or.inl ⟨by kernel_rfl, ?_⟩) (by assumption) ?_
    rotate_left
    ·((intro w hSw; (try dsimp only at hSw); go_simp) <;> with_reducible rfl)
    try simp only [Act.put, List.setIfInBounds_toArray, List.set_cons_zero, List.set_cons_succ]
    refine Rk.takeP (i := 5) (v := ?_) rfl (by kernel_rfl) (by kernel_rfl) (by kernel_rfl) (by kernel_rfl) (fun _ _ _ h => h) (Or.inl ⟨by kernel_rfl, ?_⟩) (by assumption) ?_
    rotate_left
    ·((intro w hSw; go_simp) <;> with_reducible rfl)
    try simp only [Act.put, List.setIfInBounds_toArray, List.set_cons_zero, List.set_cons_succ]
    refine Rk.takeP (i := 6) (v := ?_) rfl (by kernel_rfl) (by kernel_rfl) (by kernel_rfl) (by kernel_rfl) (fun _ _ _ h => h) (Or.inl ⟨by kernel_rfl, ?_⟩) (by assumption) ?_
    rotate_left
    ·((intro w hSw; go_simp) <;> with_reducible rfl)
    try simp only [Act.put, List.setIfInBounds_toArray, List.set_cons_zero, List.set_cons_succ]
    refine Rk.takeP (i := 7) (v := ?_) rfl (by kernel_rfl) (by kernel_rfl) (by kernel_rfl) (by kernel_rfl) (fun _ _ _ h => h) (Or.inl ⟨by kernel_rfl, ?_⟩) (by assumption) ?_
    rotate_left
    ·((intro w hSw; go_simp) <;> with_reducible rfl)
    try simp only [Act.put, List.setIfInBounds_toArray, List.set_cons_zero, List.set_cons_succ]
    refine Rk.take [9, 10] (i := 8) (v := ?_) rfl (by kernel_rfl) (by kernel_rfl) (by kernel_rfl) (by kernel_rfl) (by kernel_rfl) (fun _ _ _ h => h) (Or.inl ⟨by kernel_rfl, ?_⟩) (by assumption) ?_
    rotate_left
    ·((intro w hSw; (try dsimp only at hSw); go_simp) <;> with_reducible rfl)
    try simp only [Act.put, List.setIfInBounds_toArray, List.set_cons_zero, List.set_cons_succ]
    refine Rk.one (i := 9) (by kernel_rfl) rfl (fun KK hK => ?_)
    rw [if_pos (by kernel_rfl)]
    go_simp
    ((with_reducible refine (NC.out x y HX.out HY.out _ (HKW.out.trans (K59.below (hHeld.2.2.2.2.2.2)))).mono ?_); rintro e u ⟨rfl, hb⟩)
    first | (refine hK.out _ _ (fun _ => HS.out _ _ hHeld hb) (fun hHeld => ?_)) | (refine hK.out _ _ (HS.out _ _ hHeld hb) (fun hHeld => ?_)) | (go_wp2_with fail; refine hK.out _ _ (HS.out _ _ hHeld hb) (fun hHeld => ?_))
    clear hK KK
    refine Rk.tail [10] [_] (by kernel_rfl) (by kernel_rfl) rfl (by decide) ?_
    have KB0 := hHeld.2.2.2.2.2.2
    have O2 := Lib.hid (own_belowE hOW.out KB0)
    have B2 := Lib.hid (hB.out.trans (KB0.mono (by have := hB.out.size; omega)))
    have K2 := Lib.hid (hK.out.trans (K59.below KB0))
    clear hHeld HS hOW hB hK KB0
    go_wp2_with fail
    go_roundw
    case rel => exact ⟨i, h, by go_num, by go_num, by omega, by omega, by omega, HB2, O2, B2, K2⟩
    case measure => simp [intOf]; omega
  ·obtain rfl : i = j := by omega
   have i1 : ¬ (i : Int) < i := by omega
   have HF := Lib.hid (put_first OO.out (by rw [HL.out.1]; exact h3) (by have := HMA.out; omega) (by omega) (by have := HMA.out; subst this; exact SB.out) (by have := HMA.out; subst this; exact HB.out.below) HB.out.above)
   obtain ⟨RES, hRES⟩ : ∃ RES, shU (i - 1 - a) a L0 = RES := ⟨_, rfl⟩
   rw [hRES] at HF
   have HR := Lib.hid hRES
   clear hRES HB NC KO
   go_wp2_with fail
   go_loopw [13] (fun kv wr => ∃ (k : Nat) (L : List E5), kv = .int .i64 (k : Int) /\ a <= k /\ k <= i - 1 /\ Hid (shU (i - 1 - k) k L = RES) /\ Hid (L.length = n /\ ∀ x ∈ L, x ∈ D) /\ Hid (wr.ownsRow base 36 3 (.slice (some ⟨g, 0, none⟩) n cap) n (rowE L)) /\ Hid (Below base w wr) /\ Hid (K59 w wr)) (fun kv _ => i - (intOf kv).toNat)
   case atStart => exact ⟨a, L0, by go_num, by omega, by omega, HR, HL, hOW, hB, hK⟩
   case round =>
    clear hOW hB hK HR HL
    obtain ⟨k, L, rfl, hak, hki, HR, HM, hOW, hB, hK⟩ := hrel
    by_cases hlt : k < i - 1
    ·have i2 : (k : Int) < i - 1 := by omega
     obtain ⟨k1, hk1⟩ : ∃ k1, k1 = k + 1 := ⟨_, rfl⟩
     have hv : (k : Int) + 1 = (k1 : Int) := by omega
     have wk : IntKind.i64.wrap (k1 : Int) = (k1 : Int) := by rw [IntKind.wrap_i64]; omega
     have HR2 : Hid (shU (i - 1 - k1) k1 (swE L k k1) = RES) := Lib.hid (by
      have h := HR.out
      rw [show i - 1 - k = (i - 1 - k1) + 1 by omega] at h
      unfold shU at h
      rw [hk1]; rw [hk1] at h; exact h)
     clear hk1
     have hpL : k < L.length := by rw [HM.out.1]; omega
     have hqL : k1 < L.length := by rw [HM.out.1]; omega
     obtain ⟨v0, v1, v2⟩ := rowE_get L k hpL
     obtain ⟨u0, u1, u2⟩ := rowE_get L k1 hqL
     have HX : Hid (L.getD k e50 ∈ D) := Lib.hid (HM.out.2 _ (getD_mem5 hpL))
     have HY : Hid (L.getD k1 e50 ∈ D) := Lib.hid (HM.out.2 _ (getD_mem5 hqL))
     have c0 := (hOW.out.cellAt (k * 3) (by omega)).trans v0
     have c1 := (hOW.out.cellAt (k * 3 + 1) (by omega)).trans v1
     have c2 := (hOW.out.cellAt (k * 3 + 2) (by omega)).trans v2
     have d0 := (hOW.out.cellAt (k1 * 3) (by omega)).trans u0
     have d1 := (hOW.out.cellAt (k1 * 3 + 1) (by omega)).trans u1
     have d2 := (hOW.out.cellAt (k1 * 3 + 2) (by omega)).trans u2
     obtain ⟨x, hx⟩ : ∃ x, L.getD k e50 = x := ⟨_, rfl⟩
     obtain ⟨y, hy⟩ : ∃ y, L.getD k1 e50 = y := ⟨_, rfl⟩
     have HX0 := Lib.hid hx
     have HY0 := Lib.hid hy
     rw [hx] at c0 c1 c2 HX
     rw [hy] at d0 d1 d2 HY
     have j2 : (k : Int) < n := by have := HM.out.1; omega
     have j3 : (k1 : Int) < n := by have := HM.out.1; omega
     have j4 : (0 : Int) <= k := by omega
     have j5 : (0 : Int) <= k1 := by omega
     have f0 : wr.frozen? ⟨g, k * 3, none⟩ = false := hOW.out.frozenAt _
     have f1 : wr.frozen? ⟨g, k * 3 + 1, none⟩ = false := hOW.out.frozenAt _
     have f2 : wr.frozen? ⟨g, k * 3 + 2, none⟩ = false := hOW.out.frozenAt _
     have f3 : wr.frozen? ⟨g, k1 * 3, none⟩ = false := hOW.out.frozenAt _
     have f4 : wr.frozen? ⟨g, k1 * 3 + 1, none⟩ = false := hOW.out.frozenAt _
     have f5 : wr.frozen? ⟨g, k1 * 3 + 2, none⟩ = false := hOW.out.frozenAt _
     have hzs : wr.drew.cell? ⟨g, k * 3, none⟩ = some (.int .i64 x.1) /\ wr.drew.cell? ⟨g, k * 3 + 1, none⟩ = some (.slice x.2.1 x.2.2.1 x.2.2.2.1) /\ wr.drew.cell? ⟨g, k * 3 + 2, none⟩ = some (.bool x.2.2.2.2) /\ wr.drew.cell? ⟨g, k1 * 3, none⟩ = some (.int .i64 y.1) /\ wr.drew.cell? ⟨g, k1 * 3 + 1, none⟩ = some (.slice y.2.1 y.2.2.1 y.2.2.2.1) /\ wr.drew.cell? ⟨g, k1 * 3 + 2, none⟩ = some (.bool y.2.2.2.2) /\ Below wr.heap.size wr wr.drew := ⟨c0, c1, c2, d0, d1, d2, (Below.refl _ _).drew⟩
     have HEND := Lib.hid (swq_world (x := x) (y := y) hbase hOW.out HM.out.1 hpL hqL hx hy)
     have HMM : Hid ((swE L k k1).length = n /\ ∀ z ∈ swE L k k1, z ∈ D) := Lib.hid ⟨by rw [swE_len]; exact HM.out.1, fun z hz => HM.out.2 _ (swE_mem hpL hqL hz)⟩
     clear v0 v1 v2 u0 u1 u2 hOW hpL hqL hx hy
     go_wp2_with fail
     refine Rk.begin (S := fun wS => wS.cell? ⟨g, k * 3, none⟩ = some (.int .i64 x.1) /\ wS.cell? ⟨g, k * 3 + 1, none⟩ = some (.slice x.2.1 x.2.2.1 x.2.2.2.1) /\ wS.cell? ⟨g, k * 3 + 2, none⟩ = some (.bool x.2.2.2.2) /\ wS.cell? ⟨g, k1 * 3, none⟩ = some (.int .i64 y.1) /\ wS.cell? ⟨g, k1 * 3 + 1, none⟩ = some (.slice y.2.1 y.2.2.1 y.2.2.2.1) /\ wS.cell? ⟨g, k1 * 3 + 2, none⟩ = some (.bool y.2.2.2.2) /\ Below wr.heap.size wr wS) 15 (by kernel_rfl) hzs (fun hHeld => ?_)
     refine Rk.takeP (i := 0) (v := ?_) rfl (by kernel_rfl) (by kernel_rfl) (by kernel_rfl) (by kernel_rfl) (fun _ _ _ h => h) (Or.inl ⟨by kernel_rfl, ?_⟩) (by assumption) ?_
     rotate_left
     ·((intro w hSw; go_simp) <;> with_reducible rfl)
     try simp only [hv, wk, Act.put, List.setIfInBounds_toArray, List.set_cons_zero, List.set_cons_succ]
     refine Rk.takeP (i := 1) (v := ?_) rfl (by kernel_rfl) (by kernel_rfl) (by kernel_rfl) (by kernel_rfl) (fun _ _ _ h => h) (Or.inl ⟨by kernel_rfl, ?_⟩) (by assumption) ?_
     rotate_left
     ·((intro w hSw; go_simp) <;> with_reducible rfl)
     try simp only [hv, wk, Act.put, List.setIfInBounds_toArray, List.set_cons_zero, List.set_cons_succ]
     refine Rk.takeP (i := 2) (v := ?_) rfl (by kernel_rfl) (by kernel_rfl) (by kernel_rfl) (by kernel_rfl) (fun _ _ _ h => h) (Or.inl ⟨by kernel_rfl, ?_⟩) (by assumption) ?_
     rotate_left
     ·((intro w hSw; go_simp) <;> with_reducible rfl)
     try simp only [hv, wk, Act.put, List.setIfInBounds_toArray, List.set_cons_zero, List.set_cons_succ]
     refine Rk.takeP (i := 3) (v := ?_) rfl (by kernel_rfl) (by kernel_rfl) (by kernel_rfl) (by kernel_rfl) (fun _ _ _ h => h) (Or.inl ⟨by kernel_rfl, ?_⟩) (by assumption) ?_
     rotate_left
     ·((intro w hSw; go_simp) <;> with_reducible rfl)
     try simp only [hv, wk, Act.put, List.setIfInBounds_toArray, List.set_cons_zero, List.set_cons_succ]
     refine Rk.takeP (i := 4) (v := ?_) rfl (by kernel_rfl) (by kernel_rfl) (by kernel_rfl) (by kernel_rfl) (fun _ _ _ h => h) (Or.inl ⟨by kernel_rfl, ?_⟩) (by assumption) ?_
     rotate_left
     ·((intro w hSw; go_simp) <;> with_reducible rfl)
     try simp only [hv, wk, Act.put, List.setIfInBounds_toArray, List.set_cons_zero, List.set_cons_succ]
     refine Rk.takeP (i := 5) (v := ?_) rfl (by kernel_rfl) (by kernel_rfl) (by kernel_rfl) (by kernel_rfl) (fun _ _ _ h => h) (Or.inl ⟨by kernel_rfl, ?_⟩) (by assumption) ?_
     rotate_left
     ·((intro w hSw; go_simp) <;> with_reducible rfl)
     try simp only [hv, wk, Act.put, List.setIfInBounds_toArray, List.set_cons_zero, List.set_cons_succ]
     refine Rk.takeP (i := 6) (v := ?_) rfl (by kernel_rfl) (by kernel_rfl) (by kernel_rfl) (by kernel_rfl) (fun _ _ _ h => h) (Or.inl ⟨by kernel_rfl, ?_⟩) (by assumption) ?_
     rotate_left
     ·((intro w hSw; go_simp) <;> with_reducible rfl)
     try simp only [hv, wk, Act.put, List.setIfInBounds_toArray, List.set_cons_zero, List.set_cons_succ]
     refine Rk.takeP (i := 7) (v := ?_) rfl (by kernel_rfl) (by kernel_rfl) (by kernel_rfl) (by kernel_rfl) (fun _ _ _ h => h) (Or.inl ⟨by kernel_rfl, ?_⟩) (by assumption) ?_
     rotate_left
     ·((intro w hSw; go_simp) <;> with_reducible rfl)
     try simp only [hv, wk, Act.put, List.setIfInBounds_toArray, List.set_cons_zero, List.set_cons_succ]
     refine Rk.takeP (i := 8) (v := ?_) rfl (by kernel_rfl) (by kernel_rfl) (by kernel_rfl) (by kernel_rfl) (fun _ _ _ h => h) (Or.inl ⟨by kernel_rfl, ?_⟩) (by assumption) ?_
     rotate_left
     ·((intro w hSw; go_simp) <;> with_reducible rfl)
     try simp only [hv, wk, Act.put, List.setIfInBounds_toArray, List.set_cons_zero, List.set_cons_succ]
     refine Rk.take [15] (i := 9) (v := ?_) rfl (by kernel_rfl) (by kernel_rfl) (by kernel_rfl) (by kernel_rfl) (by kernel_rfl) (fun _ _ _ h => h) (Or.inl ⟨by kernel_rfl, ?_⟩) (by assumption) ?_
     rotate_left
     ·((intro w hSw; (try dsimp only at hSw); go_simp) <;> with_reducible rfl)
     try simp only [hv, wk, Act.put, List.setIfInBounds_toArray, List.set_cons_zero, List.set_cons_succ]
     refine Rk.takeP (i := 10) (v := ?_) rfl (by kernel_rfl) (by kernel_rfl) (by kernel_rfl) (by kernel_rfl) (fun _ _ _ h => h) (Or.inl ⟨by kernel_rfl, ?_⟩) (by assumption) ?_
     rotate_left
     ·((intro w hSw; go_simp) <;> with_reducible rfl)
     try simp only [hv, wk, Act.put, List.setIfInBounds_toArray, List.set_cons_zero, List.set_cons_succ]
     refine Rk.takeP (i := 11) (v := ?_) rfl (by kernel_rfl) (by kernel_rfl) (by kernel_rfl) (by kernel_rfl) (fun _ _ _ h => h) (Or.inl ⟨by kernel_rfl, ?_⟩) (by assumption) ?_
     rotate_left
     ·((intro w hSw; go_simp) <;> with_reducible rfl)
     try simp only [hv, wk, Act.put, List.setIfInBounds_toArray, List.set_cons_zero, List.set_cons_succ]
     refine Rk.takeP (i := 12) (v := ?_) rfl (by kernel_rfl) (by kernel_rfl) (by kernel_rfl) (by kernel_rfl) (fun _ _ _ h => h) (Or.inl ⟨by kernel_rfl, ?_⟩) (by assumption) ?_
     rotate_left
     ·((intro w hSw; go_simp) <;> with_reducible rfl)
     try simp only [hv, wk, Act.put, List.setIfInBounds_toArray, List.set_cons_zero, List.set_cons_succ]
     refine Rk.take [15] (i := 13) (v := ?_) rfl (by kernel_rfl) (by kernel_rfl) (by kernel_rfl) (by kernel_rfl) (by kernel_rfl) (fun _ _ _ h => h) (Or.inl ⟨by kernel_rfl, ?_⟩) (by assumption) ?_
     rotate_left
     ·((intro w hSw; (try dsimp only at hSw); go_simp) <;> with_reducible rfl)
     try simp only [hv, wk, Act.put, List.setIfInBounds_toArray, List.set_cons_zero, List.set_cons_succ]
     refine Rk.takeP (i := 14) (v := ?_) rfl (by kernel_rfl) (by kernel_rfl) (by kernel_rfl) (by kernel_rfl) (fun _ _ _ h => h) (Or.inl ⟨by kernel_rfl, ?_⟩) (by assumption) ?_
     rotate_left
     ·((intro w hSw; go_simp) <;> with_reducible rfl)
     try simp only [hv, wk, Act.put, List.setIfInBounds_toArray, List.set_cons_zero, List.set_cons_succ]
     refine Rk.tail [15, 16, 17] [_, _, _] (by kernel_rfl) (by kernel_rfl) rfl (by decide) ?_
     go_wp2_with fail
     go_roundw
     case rel => exact ⟨k1, swE L k k1, by go_num, by omega, by omega, HR2, HMM, Lib.hid HEND.out.1.drew, Lib.hid (below_drewN (hB.out.trans (HEND.out.2.2.mono (by have := hB.out.size; omega))) _), Lib.hid ((hK.out.trans HEND.out.2.1).trans (K59.below (below_drewN (Below.refl _ _) _)))⟩
     case measure => simp [intOf]; omega
    ·have HE : Hid (L = RES) := Lib.hid (by
      have h := HR.out
      rw [show i - 1 - k = 0 by omega] at h
      exact h)
     have i2 : ¬ (k : Int) < i - 1 := by omega
     go_wp2_with fail
     refine bodyPost_ret (results_none rfl _ _ _) rfl ?_
     exact ⟨rfl, hB.out, hK.out, RES, HF.out.1, HF.out.2, by rw [<- HE.out]; exact hOW⟩
end Go.Proofs.YtbicmlkjonaccaaDoor.Ln
