/- Where two sorted parts are cut, and what stands when both halves are merged. -/
import Derived.Test.YtghnigmmkenddaaS5
import Derived.Test.YtghnigmmkenddaaS3
namespace Go.Proofs.Ytghnigmmkenddaa.Ar
open Go.ChangeShapes Go.WideShapes Go.ChangeAt Go.RowKit

set_option linter.unusedVariables false
set_option linter.unusedSimpArgs false

theorem getD4 (Q A B R : List Int) (t : Nat) : (Q ++ (A ++ (B ++ R))).getD t e50 = if t < Q.length then Q.getD t e50 else if t < Q.length + A.length then A.getD (t - Q.length) e50 else if t < Q.length + A.length + B.length then B.getD (t - Q.length - A.length) e50 else R.getD (t - Q.length - A.length - B.length) e50 := by
  unfold List.getD
  by_cases h1 : t < Q.length
  · rw [if_pos h1, List.getElem?_append_left h1]
  · rw [if_neg h1, List.getElem?_append_right (by omega)]
    by_cases h2 : t < Q.length + A.length
    · rw [if_pos h2, List.getElem?_append_left (by omega)]
    · rw [if_neg h2, List.getElem?_append_right (by omega)]
      by_cases h3 : t < Q.length + A.length + B.length
      · rw [if_pos h3, List.getElem?_append_left (by omega)]
      · rw [if_neg h3, List.getElem?_append_right (by omega)]
/-- What a rotation leaves. -/
structure RotF (s m e : Nat) (L L1 : List Int) : Prop where
  rng : RngC s e L L1
  lo : ∀ t, s ≤ t → t < s + (e - m) → L1.getD t e50 = L.getD (t - s + m) e50
  hi : ∀ t, s + (e - m) ≤ t → t < e → L1.getD t e50 = L.getD (t - (e - m)) e50
theorem RotF.same {s m e : Nat} (L : List Int) (h1 : s ≤ m) (h2 : m ≤ e) (h : s = m ∨ m = e) : RotF s m e L L :=
  ⟨RngC.refl _ _ _, fun t h3 h4 => by rw [show t - s + m = t by omega], fun t h3 h4 => by rw [show t - (e - m) = t by omega]⟩
theorem rot_facts {s m e : Nat} (L : List Int) (h1 : s ≤ m) (h2 : m ≤ e) (h3 : e ≤ L.length) : ∃ L1, RotS m (m - s) (e - m) L L1 ∧ RotF s m e L L1 := by
  obtain ⟨Q, A, B, R, hL, hQ, hA, hB⟩ : ∃ Q A B R : List Int, L = Q ++ (A ++ (B ++ R)) ∧ Q.length = s ∧ A.length = m - s ∧ B.length = e - m := by
    refine ⟨L.take s, (L.drop s).take (m - s), (L.drop m).take (e - m), L.drop e, ?_, by simp; omega, by simp; omega, by simp; omega⟩
    have a3 : (L.drop m).take (e - m) ++ L.drop e = L.drop m := by
      conv => rhs; rw [← List.take_append_drop (e - m) (L.drop m)]
      rw [List.drop_drop, show m + (e - m) = e by omega]
    have a2 : (L.drop s).take (m - s) ++ L.drop m = L.drop s := by
      conv => rhs; rw [← List.take_append_drop (m - s) (L.drop s)]
      rw [List.drop_drop, show s + (m - s) = m by omega]
    rw [a3, a2, List.take_append_drop]
  subst hL
  refine ⟨Q ++ (B ++ (A ++ R)), ⟨Q, A, B, R, rfl, rfl, by omega, hA, hB⟩, ⟨?_, fun k hk => ?_, fun k k1 k2 => ?_⟩, fun t h4 h5 => ?_, fun t h4 h5 => ?_⟩
  · exact List.Perm.append_left _ (List.perm_append_comm_assoc _ _ _)
  · rw [getD4, getD4]
    by_cases c : k < Q.length
    · rw [if_pos c, if_pos c]
    · rw [if_neg c, if_neg c, if_neg (by omega), if_neg (by omega), if_neg (by omega), if_neg (by omega), show k - Q.length - B.length - A.length = k - Q.length - A.length - B.length by omega]
  · by_cases c : k < s + (e - m)
    · refine ⟨k - s + m, by omega, by omega, ?_⟩
      rw [getD4, getD4, if_neg (by omega), if_pos (by omega), if_neg (by omega), if_neg (by omega), if_pos (by omega), show k - s + m - Q.length - A.length = k - Q.length by omega]
    · refine ⟨k - (e - m), by omega, by omega, ?_⟩
      rw [getD4, getD4, if_neg (by omega), if_neg (by omega), if_pos (by omega), if_neg (by omega), if_pos (by omega), show k - (e - m) - Q.length = k - Q.length - B.length by omega]
  · rw [getD4, getD4, if_neg (by omega), if_pos (by omega), if_neg (by omega), if_neg (by omega), if_pos (by omega), show t - s + m - Q.length - A.length = t - Q.length by omega]
  · rw [getD4, getD4, if_neg (by omega), if_neg (by omega), if_pos (by omega), if_neg (by omega), if_pos (by omega), show t - (e - m) - Q.length = t - Q.length - B.length by omega]
variable {cf : Int → Int → Int}
theorem OrdC.refl (O : OrdC cf) (x : Int) : ¬ cf x x < 0 := fun h => O.asym _ _ h h
theorem SrtC.le (O : OrdC cf) {a b i j : Nat} {L : List Int} (S : SrtC cf a b L) (h1 : a ≤ i) (h2 : i ≤ j) (h3 : j < b) : ¬ cf (L.getD j e50) (L.getD i e50) < 0 := by
  by_cases h : i = j
  · subst h; exact O.refl _
  · exact S i j h1 (by omega) h3
/-- Where two sorted parts are cut. -/
structure CutC (cf : Int → Int → Int) (L : List Int) (a m b mid s e : Nat) : Prop where
  a1 : a ≤ s
  a2 : s ≤ mid
  a3 : mid ≤ e
  a4 : e ≤ b
  sm : s ≤ m
  me : m ≤ e
  eq : s + e = mid + m
  xy : ∀ x y, a ≤ x → x < s → e ≤ y → y < b → ¬ cf (L.getD y e50) (L.getD x e50) < 0
  yx : ∀ y x, m ≤ y → y < e → s ≤ x → x < m → ¬ cf (L.getD x e50) (L.getD y e50) < 0
theorem BisP.cut (O : OrdC cf) {L : List Int} {a m b mid lo hi s e : Nat} (h1 : a < m) (h2 : m < b) (hm : mid = (a + b) / 2) (hc : (mid < m ∧ lo = mid + m - b ∧ hi = mid) ∨ (m ≤ mid ∧ lo = a ∧ hi = m)) (S1 : SrtC cf a m L) (S2 : SrtC cf m b L) (B : BisP cf L (mid + m - 1) lo hi s s) (he : e = mid + m - s) : CutC cf L a m b mid s e := by
  have b1 := B.a1
  have b3 := B.a3
  refine ⟨by omega, by omega, by omega, by omega, by omega, by omega, by omega, fun x y x1 x2 y1 y2 => ?_, fun y x y1 y2 x1 x2 => ?_⟩
  · have hb := B.below (s - 1) (by omega) (by omega)
    rw [show mid + m - 1 - (s - 1) = e by omega] at hb
    exact O.trans _ _ _ (O.trans _ _ _ (S1.le O x1 (show x ≤ s - 1 by omega) (by omega)) hb) (S2.le O (by omega) y1 y2)
  · have hb := B.above s (Nat.le_refl _) (by omega)
    rw [show mid + m - 1 - s = e - 1 by omega] at hb
    exact O.trans _ _ _ (O.trans _ _ _ (S2.le O y1 (show y ≤ e - 1 by omega) (by omega)) (O.asym _ _ hb)) (S1.le O (by omega) x1 x2)
theorem CutC.parts {L L1 : List Int} {a m b mid s e : Nat} (C : CutC cf L a m b mid s e) (S1 : SrtC cf a m L) (S2 : SrtC cf m b L) (R : RotF s m e L L1) : SrtC cf a s L1 ∧ SrtC cf s mid L1 ∧ SrtC cf mid e L1 ∧ SrtC cf e b L1 ∧ ∀ t u, a ≤ t → t < mid → mid ≤ u → u < b → ¬ cf (L1.getD u e50) (L1.getD t e50) < 0 := by
  have := C.a1; have := C.a2; have := C.a3; have := C.a4; have := C.sm; have := C.me; have := C.eq
  have hmid : s + (e - m) = mid := by omega
  refine ⟨fun i j i1 ij j1 => ?_, fun i j i1 ij j1 => ?_, fun i j i1 ij j1 => ?_, fun i j i1 ij j1 => ?_, fun t u t1 t2 u1 u2 => ?_⟩
  · rw [R.rng.out i (by omega), R.rng.out j (by omega)]; exact S1 i j i1 ij (by omega)
  · rw [R.lo i (by omega) (by omega), R.lo j (by omega) (by omega)]; exact S2 _ _ (by omega) (by omega) (by omega)
  · rw [R.hi i (by omega) (by omega), R.hi j (by omega) (by omega)]; exact S1 _ _ (by omega) (by omega) (by omega)
  · rw [R.rng.out i (by omega), R.rng.out j (by omega)]; exact S2 i j (by omega) ij j1
  · by_cases ct : t < s
    · rw [R.rng.out t (by omega)]
      by_cases cu : u < e
      · rw [R.hi u (by omega) cu]; exact S1 _ _ t1 (by omega) (by omega)
      · rw [R.rng.out u (by omega)]; exact C.xy t u t1 ct (by omega) u2
    · rw [R.lo t (by omega) (by omega)]
      by_cases cu : u < e
      · rw [R.hi u (by omega) cu]; exact C.yx _ _ (by omega) (by omega) (by omega) (by omega)
      · rw [R.rng.out u (by omega)]; exact S2 _ _ (by omega) (by omega) u2
theorem CutC.done {L L1 L2 L3 : List Int} {a m b mid s e : Nat} (C : CutC cf L a m b mid s e) (S1 : SrtC cf a m L) (S2 : SrtC cf m b L) (R : RotF s m e L L1) (r2 : RngC a mid L1 L2) (s2 : SrtC cf a mid L2) (r3 : RngC mid b L2 L3) (s3 : SrtC cf mid b L3) : RngC a b L L3 ∧ SrtC cf a b L3 := by
  have P := (C.parts S1 S2 R).2.2.2.2
  have := C.a1; have := C.a2; have := C.a3; have := C.a4
  refine ⟨((R.rng.mono C.a1 C.a4).trans (r2.mono (Nat.le_refl _) (by omega))).trans (r3.mono (by omega) (Nat.le_refl _)), fun i j i1 ij j1 => ?_⟩
  by_cases cj : j < mid
  · rw [r3.out i (by omega), r3.out j (by omega)]; exact s2 i j i1 ij cj
  · by_cases ci : i < mid
    · rw [r3.out i (by omega)]
      obtain ⟨x, x1, x2, x3⟩ := r2.into i i1 ci
      obtain ⟨y, y1, y2, y3⟩ := r3.into j (by omega) j1
      rw [x3, y3, r2.out y (by omega)]
      exact P x y x1 x2 y1 y2
    · exact s3 i j (by omega) ij j1
/-- A part of a sorted part. -/
theorem SrtC.sub {a b c d : Nat} {L : List Int} (S : SrtC cf a b L) (h1 : a ≤ c) (h2 : d ≤ b) : SrtC cf c d L := fun i j i1 ij j1 => S i j (by omega) ij (by omega)

/-- All that lies from m to b lies above all that lies from a to m. -/
def Sp (a m b : Nat) (L : List Int) : Prop := ∀ p q, a ≤ p → p < m → m ≤ q → q < b → L.getD p e50 < L.getD q e50
theorem Sp.keep {a m b c d : Nat} {L L' : List Int} (H : Sp a m b L) (r : RngC c d L L') (hd : b ≤ c ∨ d ≤ a) : Sp a m b L' := by
  intro p q h1 h2 h3 h4
  rw [r.out p (by omega), r.out q (by omega)]
  exact H p q h1 h2 h3 h4
theorem Sp.sub {a m b a' b' : Nat} {L : List Int} (H : Sp a m b L) (h1 : a ≤ a') (h2 : b' ≤ b) : Sp a' m b' L := fun p q p1 p2 q1 q2 => H p q (by omega) p2 q1 (by omega)
theorem Sp.over {c n a' b' : Nat} {L L' : List Int} (H : Sp 0 c n L) (r : RngC a' b' L L') (hb : b' ≤ n) (h : c ≤ a' ∨ b' ≤ c) : Sp 0 c n L' := by
  intro p q p1 p2 q1 q2
  have key : ∀ k, ∃ k', L'.getD k e50 = L.getD k' e50 ∧ (k' = k ∨ (a' ≤ k ∧ k < b' ∧ a' ≤ k' ∧ k' < b')) := fun k => by
    by_cases hk : a' ≤ k ∧ k < b'
    · obtain ⟨k', h1, h2, h3⟩ := r.into k hk.1 hk.2
      exact ⟨k', h3, .inr ⟨hk.1, hk.2, h1, h2⟩⟩
    · exact ⟨k, r.out k hk, .inl rfl⟩
  obtain ⟨p', e1, h1⟩ := key p
  obtain ⟨q', e2, h2⟩ := key q
  rw [e1, e2]
  exact H p' q' (by omega) (by omega) (by omega) (by omega)
theorem CutC.seps {cf : Int → Int → Int} {L L1 : List Int} {a m b mid s e : Nat} (C : CutC cf L a m b mid s e) (R : RotF s m e L L1) (H : Sp a m b L) : Sp a s mid L1 ∧ Sp mid e b L1 := by
  have := C.a1; have := C.a2; have := C.a3; have := C.a4; have := C.sm; have := C.me; have := C.eq
  refine ⟨fun p q p1 p2 q1 q2 => ?_, fun p q p1 p2 q1 q2 => ?_⟩
  · rw [R.rng.out p (by omega), R.lo q (by omega) (by omega)]
    exact H _ _ p1 (by omega) (by omega) (by omega)
  · rw [R.hi p (by omega) (by omega), R.rng.out q (by omega)]
    exact H _ _ (by omega) (by omega) (by omega) q2
end Go.Proofs.Ytghnigmmkenddaa.Ar
