/- Group of package mesh. -/
import Derived.Test.YtjpcpdaokgkaoaaM5
import Derived.OneCell
namespace Go.Proofs.Ytjpcpdaokgkaoaa.Sh
open Go.ChangeShapes Go.WideShapes Go.ChangeAt Go.RowKit
set_option linter.unusedVariables false

theorem own_below {w w' : World} {base : Nat} {e : TypeId} {size : Nat} {v : Value} {n : Nat} {xs : List Value} (h : w.ownsRow base e size v n xs) (hb : Below w.heap.size w w') : w'.ownsRow base e size v n xs := by
  have hlt := h.lt
  obtain ⟨hl, h⟩ := h
  refine ⟨hl, ?_⟩
  rcases h with h | ⟨g, cap, cur, hv, hg, hc, r⟩
  · exact .inl h
  · subst hv
    exact .inr ⟨g, cap, cur, rfl, hg, by rw [hb.block g (hlt g rfl).2]; exact hc, r⟩
/-- The group of a device along an axis, as the program makes it. -/
def gm (zs : List Int) (ax : Nat) (d : Int) : List Int := (List.range (zs.getD ax 0).toNat).map fun (c : Nat) => (dA zs ((pt zs d).set ax (c : Int))).getD 0
theorem gm_length (zs : List Int) (ax : Nat) (d : Int) : (gm zs ax d).length = (zs.getD ax 0).toNat := by simp [gm]
theorem gm_take {zs : List Int} {ax : Nat} {d : Int} {k : Nat} (h : k < (zs.getD ax 0).toNat) : (gm zs ax d).take (k + 1) = (gm zs ax d).take k ++ [(dA zs ((pt zs d).set ax (k : Int))).getD 0] := by
  rw [List.take_succ_eq_append_getElem (by rw [gm_length]; exact h)]
  simp [gm]
theorem set_set {xs ys : List Int} {k : Nat} {y : Int} (h : ∀ z, xs.set k z = ys.set k z) (z : Int) : (xs.set k y).set k z = ys.set k z := by
  rw [List.set_set]; exact h z
set_option maxHeartbeats 8000000 in
theorem c41_ok (p : Option Addr) (zs : List Int) (c : Nat) (ax : Nat) (d : Int) (w : World) (RA : Hid (SlI w p zs)) (hp : cB zs d = true) (ha : ax < zs.length) :
    Calls Try.prog 41 #[.agg #[.slice p zs.length c], .int .i64 (ax : Int), .int .i64 d] w (OW (gm zs ax d) w) := by
  obtain ⟨hm, a1, a2⟩ := cB_valid hp
  obtain ⟨h1, h3, hlow, s0, s1, hv⟩ := mok_facts hm
  have R1 := SlI.keep ((Below.refl _ _).alloc (Nat.le_refl _) (Obj.cells #[Value.slice p zs.length c] 41)) RA.out
  have R1 := Lib.hid R1
  have eL : cL zs d = pt zs d := by
    unfold cL pL
    rw [if_pos hm]
    unfold cB at hp
    rw [if_pos hm] at hp
    rw [if_pos hp]
  have C := Lib.hid fun (y : World) (h : SlI y p zs) => c33 p zs c d y (by unfold maxLen; omega) (Lib.hid h)
  rw [eL, hp] at C
  have D := Lib.hid fun (y : World) (q : Option Addr) (xs : List Int) (cc : Nat) (hl : xs.length = zs.length) (h : SlI y p zs) (h' : SlI y q xs) => c35 p q zs xs c cc y (by unfold maxLen; omega) (by unfold maxLen; omega) (Lib.hid h) (Lib.hid h')
  obtain ⟨z0, z1⟩ := mok_el hm ha
  obtain ⟨P, hP⟩ : ∃ P, pt zs d = P := ⟨_, rfl⟩
  have pl := pt_length zs d
  rw [hP] at C pl
  have TK : Hid (∀ k, k < (zs.getD ax 0).toNat → (gm zs ax d).take (k + 1) = (gm zs ax d).take k ++ [(dA zs (P.set ax (k : Int))).getD 0]) := Lib.hid fun k hk => by rw [← hP]; exact gm_take hk
  have GL := Lib.hid (gm_length zs ax d)
  obtain ⟨G, hG⟩ : ∃ G, gm zs ax d = G := ⟨_, rfl⟩
  rw [hG] at TK GL ⊢
  obtain ⟨b, o, rfl, hcz⟩ := RA.out ax ha
  obtain ⟨Z, hZ⟩ : ∃ Z, zs.getD ax 0 = Z := ⟨_, rfl⟩
  rw [hZ] at TK GL hcz z0 z1
  have hbw : b < w.heap.size := by have := World.block_lt_of_cell? w _ hcz; simpa using this
  obtain ⟨n, hn⟩ : ∃ n, zs.length = n := ⟨_, rfl⟩
  have HN := Lib.hid hn
  rw [hn] at C D R1 h1 h3 ha pl ⊢
  have PL := Lib.hid pl
  obtain ⟨i0, hi, hz0, hz1, hz2⟩ := info_parts info3
  clear hn hv hm hlow s0 s1 eL hp hP hG hZ a1 a2 pl
  have x0 : (0 : Int) ≤ ax := by omega
  have x1 : (ax : Int) < n := by omega
  have q1 : decide ((ax : Int) < 0) = false := decide_eq_false (by omega)
  have q2 : decide ((n : Int) ≤ ax) = false := decide_eq_false (by omega)
  have q3 : decide (n ≤ ax) = false := decide_eq_false (by omega)
  go_enter Try.func41, Try.ntmps41
  go_wp2_with (go_at_call 33; refine (C.out _ R1.out).mono ?_; rintro e w' ⟨v, rfl, hb, ho⟩; obtain ⟨hx, hB⟩ := boxed hb; rw [PL.out] at ho; have HO := Lib.hid ho; obtain ⟨g, cap, rfl, hg, hcap⟩ := own_form HO.out (by omega); have hgl := (HO.out.lt g rfl).2; simp only [World.size_alloc] at hg; have hcz' := Rg.keep' hB hbw hcz; clear hb ho)
  go_loopw [9, 37] (fun v i wr => ∃ (k : Nat) (xs : List Int), i = .int .i64 k ∧ (k : Int) ≤ Z ∧ xs.length = n ∧ Hid (∀ y, xs.set ax y = P.set ax y) ∧ Below w.heap.size w wr ∧ w'.heap.size ≤ wr.heap.size ∧ wr.cell? ⟨w.heap.size, 0, none⟩ = some (.slice (some ⟨b, o, none⟩) n c) ∧ Hid (wr.ownsRow (w.heap.size + 1) 3 1 (.slice (some ⟨g, 0, none⟩) n cap) n (xs.map (Value.int .i64))) ∧ Hid (wr.ownsRow w'.heap.size 3 1 v k ((G.take k).map (Value.int .i64)))) (fun _ i _ => (Z - intOf i).toNat)
  case atStart => exact ⟨0, P, rfl, by omega, PL.out, Lib.hid fun _ => rfl, hB, Nat.le_refl _, hx, Lib.hid (by have h := HO.out; simp only [World.size_alloc] at h; exact h), Lib.hid (World.ownsRow_nil _ _ _ _)⟩
  case round =>
    obtain ⟨k, xs, rfl, hk, hxl, hX, KB, hsz, hbx, hOp, hOl⟩ := hrel
    clear HO hx hB hcz' C R1
    by_cases hlt : (k : Int) < Z
    · have oc := cells_of hOp.out (j := ax) ha hxl
      have of := hOp.out.frozenAt ax
      have ne1 : ¬ g = w.heap.size := by omega
      have hbx2 : (wr.setCell ⟨g, ax, none⟩ (.int .i64 k)).cell? ⟨w.heap.size, 0, none⟩ = some (.slice (some ⟨b, o, none⟩) n c) := by rw [World.cell?_setCell_far _ _ _ _ ne1]; exact hbx
      have K1 : Below w.heap.size w (wr.setCell ⟨g, ax, none⟩ (.int .i64 k)) := KB.setCell (by simp; omega) _
      have O1 : Hid ((wr.setCell ⟨g, ax, none⟩ (.int .i64 k)).ownsRow (w.heap.size + 1) 3 1 (.slice (some ⟨g, 0, none⟩) n cap) n ((xs.set ax (k : Int)).map (Value.int .i64))) := Lib.hid (by rw [List.map_set]; exact (hOp.out.stored ax (.int .i64 k)).1)
      have L1 : Hid ((wr.setCell ⟨g, ax, none⟩ (.int .i64 k)).ownsRow w'.heap.size 3 1 u9 k ((G.take k).map (Value.int .i64))) := Lib.hid (ownsRow_setCell_other hOl.out (fun e => by have := (hOl.out.lt _ e).1; simp at this; omega) _)
      have X1 : Hid (xs.set ax (k : Int) = P.set ax (k : Int)) := Lib.hid (hX.out _)
      have hxl1 : (xs.set ax (k : Int)).length = n := by simp [hxl]
      have S1 : SlI (wr.setCell ⟨g, ax, none⟩ (.int .i64 k)) (some ⟨g, 0, none⟩) (xs.set ax (k : Int)) := fun i hi => ⟨g, 0, rfl, by rw [Nat.zero_add]; exact cells_of O1.out (by omega) hxl1⟩
      have D1 := D.out (wr.setCell ⟨g, ax, none⟩ (.int .i64 k)) (some ⟨g, 0, none⟩) (xs.set ax (k : Int)) cap hxl1 (SlI.keep K1 RA.out) S1
      rw [hxl1, X1.out] at D1
      have D2 := Lib.hid D1
      have TK1 := Lib.hid (TK.out k (by omega))
      obtain ⟨A, hA⟩ : ∃ A, dA zs (P.set ax (k : Int)) = A := ⟨_, rfl⟩
      rw [hA] at D2 TK1
      clear D1 D S1 hA TK hX hOp hOl hxl KB
      have hX2 : Hid (∀ y, (xs.set ax (k : Int)).set ax y = P.set ax y) := Lib.hid fun y => by rw [X1.out, List.set_set]
      clear X1
      generalize xs.set ax (k : Int) = xs2 at *
      have kz : (0 : Int) ≤ k := by omega
      go_wp2_with fail
      refine (D2.out).mono ?_
      rintro e w2 ⟨rfl, hb⟩
      have hs2 := hb.size
      have K2 : Below w.heap.size w w2 := K1.trans (hb.mono (by simp; omega))
      have hbx3 : w2.cell? ⟨w.heap.size, 0, none⟩ = some (.slice (some ⟨b, o, none⟩) n c) := Rg.keep' hb (by simp; omega) hbx2
      have O2 := Lib.hid (own_below O1.out hb)
      have L2 := Lib.hid (own_below L1.out hb)
      simp only [World.size_setCell] at hs2
      clear hb hbx2 O1 L1 K1 oc of D2
      unfold oE
      generalize A.getD 0 = r at TK1 ⊢
      generalize A.isSome = rb
      clear A
      go_wp2_with (at_builtin; refine wpList_append_own _ rfl _ _ 22 rfl w'.heap.size 3 i0 (.int .i64 0) 1 8 Try.underlying22 hi hz0 hz1 hz2 rfl (by decide) _ _ _ rfl (L2.out.alloc _) ⟨w2.heap.size, 0, none⟩ 1 1 [.int .i64 r] rfl rfl ?_ ?_ ?_ ?_ ?_ ?_)
      · intro j u hj
        cases j with
        | zero => cases hj; go_cell
        | succ j => cases hj
      · intro u hu
        cases List.mem_singleton.1 hu
        rfl
      · unfold maxLen; omega
      · omega
      · simp; omega
      intro v' w3 hown' hgrow _
      have hO3 : Hid (w3.ownsRow w'.heap.size 3 1 v' (k + 1) ((G.take (k + 1)).map (Value.int .i64))) := Lib.hid (by
        have h := hown'
        rw [TK1.out, List.map_append, List.map_take]
        exact h)
      have hlt2 := L2.out.lt
      have hgs := hgrow.size
      simp only [World.size_alloc] at hgs
      have hB3 : Below (w'.heap.size) (w2.alloc (Obj.cells #[Value.int .i64 r] 3)) w3 := (Below.refl _ _).grown hgrow (by simp; omega) (fun j hj => (hlt2 j hj).1)
      have hbx4 : w3.cell? ⟨w.heap.size, 0, none⟩ = some (.slice (some ⟨b, o, none⟩) n c) := by
        rw [hB3.cell (p := ⟨w.heap.size, 0, none⟩) (by show w.heap.size < _; omega)]
        exact Rg.keep' ((Below.refl _ _).alloc (Nat.le_refl _) _) (by omega) hbx3
      have K3 : Below w.heap.size w w3 := (K2.alloc (by omega) _).trans (hB3.mono (by omega))
      have O3 : Hid (w3.ownsRow (w.heap.size + 1) 3 1 (.slice (some ⟨g, 0, none⟩) n cap) n (xs2.map (Value.int .i64))) := Lib.hid ((O2.out.alloc _).kept hgrow (Or.inr fun e => by have := (hlt2 g e.symm).1; omega))
      clear hown' hgrow hi hz0 hz1 hz2 hlt2 hB3 hbx3 O2 L2 K2 hcz TK1
      go_wp2
      go_roundw
      case rel => exact ⟨k + 1, xs2, by go_num, by omega, hxl1, hX2, K3, by omega, hbx4, O3, hO3⟩
      case measure => simp [intOf]; omega
    · have e : (G.take k).map (Value.int .i64) = G.map (Value.int .i64) ∧ k = G.length := by
        have hk2 : k = G.length := by rw [GL.out]; omega
        exact ⟨by rw [List.take_of_length_le (by omega)], hk2⟩
      have HE := Lib.hid e
      clear e
      go_wp2
      go_ret
      refine ⟨_, rfl, KB, ?_⟩
      have h := hOl.out.mono (base' := w.heap.size) (by omega)
      rw [HE.out.1, HE.out.2] at h
      exact h
end Go.Proofs.Ytjpcpdaokgkaoaa.Sh
