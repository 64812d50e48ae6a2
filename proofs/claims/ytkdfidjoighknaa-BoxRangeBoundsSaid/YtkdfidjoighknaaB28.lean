/- Boxes: the statement on the bounds of ranges. -/
import Derived.Test.YtkdfidjoighknaaB27
namespace Go.Proofs.Ytkdfidjoighknaa.Bx
open Go.ChangeShapes Go.WideShapes Go.ChangeAt Go.RowKit
set_option linter.unusedVariables false
set_option linter.unusedSimpArgs false
open Go.Proofs.Ytkdfidjoighknaa.Nm Go.Proofs.Ytkdfidjoighknaa.Ln
theorem mo_bd {xs : List Mo} (h : ∀ z ∈ xs, z.1.size ≤ maxLen ∧ (-9223372036854775808 ≤ z.2 ∧ z.2 ≤ 9223372036854775807)) (i : Nat) (hi : i < xs.length) : (xs.getD i mo0).1.size ≤ maxLen ∧ -9223372036854775808 ≤ (xs.getD i mo0).2 ∧ (xs.getD i mo0).2 ≤ 9223372036854775807 := mo_get h i hi
theorem bnd_bd {ns : List ByteArray} {ps : List Int} (h1 : ∀ z ∈ ns, z.size ≤ maxLen) (h2 : ∀ z ∈ ps, -9223372036854775808 ≤ z ∧ z ≤ 9223372036854775807) : ∀ z ∈ bnd ns ps, z.1.size ≤ maxLen ∧ (-9223372036854775808 ≤ z.2 ∧ z.2 ≤ 9223372036854775807) := fun z hz => by
  obtain ⟨a, b⟩ := z
  have := List.of_mem_zip hz
  exact ⟨h1 a this.1, h2 b this.2⟩
theorem pt_bd {zs : List Int} (hl : zs.any low = false) (hs : sp zs ≤ 65536) (a : Int) : ∀ z ∈ pt zs a, -9223372036854775808 ≤ z ∧ z ≤ 9223372036854775807 := fun z hz => by
  obtain ⟨j, hj, rfl⟩ := List.getElem_of_mem hz
  rw [← getD_at hj]
  have h := pt_ins hl a
  have hj2 : j < zs.length := by rw [pt_length] at hj; exact hj
  have := h.2 j hj2
  have := zle hl hj2 rfl hs
  omega
set_option maxHeartbeats 4000000 in
theorem law9 (k : Int) (p : Option Addr) (xs : List Mo) (c : Nat) (q : Option Addr) (ns : List ByteArray) (d : Nat) (r : Option Addr) (zs : List Int) (f : Nat) (w : World) (hk : -9223372036854775808 ≤ k ∧ k ≤ 9223372036854775807)
    (hc1 : xs.length ≤ c) (hm1 : c ≤ maxLen) (RM : Hid (SlM w p xs)) (hx : ∀ z ∈ xs, z.1.size ≤ maxLen ∧ (-9223372036854775808 ≤ z.2 ∧ z.2 ≤ 9223372036854775807))
    (hc2 : ns.length ≤ d) (hm2 : d ≤ maxLen) (RN : Hid (SlT w q ns)) (hns : ∀ z ∈ ns, z.size ≤ maxLen)
    (hc3 : zs.length ≤ f) (hm3 : f ≤ maxLen) (RZ : Hid (SlI w r zs)) (_ : ∀ z ∈ zs, -9223372036854775808 ≤ z ∧ z ≤ 9223372036854775807) :
    Calls Try.prog 9 #[.agg #[.int .i64 k, .slice p xs.length c], .slice q ns.length d, .slice r zs.length f] w (RT w) := by
  have h1 : xs.length ≤ maxLen := Nat.le_trans hc1 hm1
  have h2 : ns.length ≤ maxLen := Nat.le_trans hc2 hm2
  have h3 : zs.length ≤ maxLen := Nat.le_trans hc3 hm3
  have C0 := Lib.hid fun (u : World) (hu : Below w.heap.size w u) => few1 k p q r xs ns.length zs.length c d f u h1 h2 h3 (Lib.hid (SlM.keep hu RM.out))
  have CC := Lib.hid fun (u : World) (hu : Below w.heap.size w u) => rcount1 r zs f u h3 (Lib.hid (SlI.keep hu RZ.out))
  by_cases hC : cnt zs ≤ 500 ∧ ns.length = zs.length
  · obtain ⟨hC, hl⟩ := hC
    have CR := Lib.hid fun (u : World) (hu : Below w.heap.size w u) => range1 k p q r xs ns zs c d f u h1 h2 h3 (Lib.hid (SlM.keep hu RM.out)) (Lib.hid (SlT.keep hu RN.out)) (Lib.hid (SlI.keep hu RZ.out)) (Lib.hid fun i hi => (mo_get hx i hi).1) (Lib.hid fun i hi => (mo_get hx i hi).2) hk
    have CA := Lib.hid fun (u : World) (hu : Below w.heap.size w u) => rall1 r zs f u h3 (Lib.hid (SlI.keep hu RZ.out))
    rcases rT_cases k xs ns zs with ⟨e1, e2, e3⟩ | ⟨a1, a2, a3, a4, a5, pr, a6, a7⟩
    · obtain ⟨⟨x, y, z⟩, ht⟩ : ∃ t, rT k xs ns zs = t := ⟨_, rfl⟩
      rw [ht] at CR e1 e2 e3
      simp only at e1 e2 e3
      subst e1 e2
      rw [hl] at C0 CR ⊢
      exact rb_err k p q r xs c d f w zs.length (cnt zs) z h3 hC e3 C0 CC CR
    · rw [a7] at CR
      obtain ⟨b1, b2, b3, b4, b5, b6⟩ := rng_facts hk a1 a2 a3 a4 a5 a6
      obtain ⟨_, _, hlow, _, _, hs⟩ := cnt_pos (Int.le_refl 0) b1
      have CE : Hid (∀ (u : World) (a : Nat) (q' : Option Addr) (c' : Nat), xs.length ≤ 40 → zs.length ≤ 1000 → (a : Int) < cnt zs → Below w.heap.size w u → SlM u q' (bnd ns (pt zs a)) → Calls Try.prog 34 #[Lv k p xs.length c, .slice q' zs.length c'] u (EW k xs (bnd ns (pt zs a)) u)) := Lib.hid fun u a q' c' hx4 hn1 ha hu hS => by
        have hbl : (bnd ns (pt zs a)).length = zs.length := by rw [bnd_length (by rw [pt_length]; exact a3), a3]
        have h := eval2 k p xs c q' (bnd ns (pt zs a)) c' u (by omega) (by rw [hbl]; exact h3) (Lib.hid (SlM.keep hu RM.out)) (Lib.hid hS) (Lib.hid (mo_bd hx)) (Lib.hid (mo_bd (bnd_bd hns (pt_bd hlow hs a)))) hk.1 hk.2
        rw [hbl] at h
        exact h
      rw [hl] at C0 CR ⊢
      exact rb_main k p q r xs c d f w zs.length ns zs pr.1 pr.2 (Lib.hid hl) (Lib.hid rfl) h3 b1 hC RN (Lib.hid b4) (Lib.hid b5) (Lib.hid b6) C0 CC CR CA CE
  · exact rb_early k p q r xs c d f w ns.length zs.length (cnt zs) h2 h3 hC C0 CC
end Go.Proofs.Ytkdfidjoighknaa.Bx
