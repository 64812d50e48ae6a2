/- Specs: the statement on validity: its walk. -/
import Derived.Test.YtndmpoomdoojpaaS10
import Derived.Test.YtndmpoomdoojpaaReg
import Derived.Deep.RegionHeld3
namespace Go.Proofs.Ytndmpoomdoojpaa.Sh
open Go.ChangeShapes Go.WideShapes Go.ChangeAt Go.RowKit
set_option linter.unusedVariables false
set_option linter.unusedSimpArgs false
/-- The box of the law's own argument, kept through the calls. -/
def BX (v0 v1 : Value) (w u : World) : Prop := Below w.heap.size w u ∧ w.heap.size < u.heap.size ∧ u.cell? ⟨w.heap.size, 0, none⟩ = some v0 ∧ u.cell? ⟨w.heap.size, 1, none⟩ = some v1
theorem BX.keep {v0 v1 : Value} {w u u2 : World} (h : BX v0 v1 w u) (hb : Below u.heap.size u u2) : BX v0 v1 w u2 :=
  ⟨h.1.trans (hb.mono h.1.size), Nat.lt_of_lt_of_le h.2.1 hb.size, (hb.cell (p := ⟨w.heap.size, 0, none⟩) h.2.1).trans h.2.2.1, (hb.cell (p := ⟨w.heap.size, 1, none⟩) h.2.1).trans h.2.2.2⟩
set_option maxRecDepth 100000 in
set_option maxHeartbeats 32000000 in
theorem law12 (p q p2 : Option Addr) (ms ss zs : List Int) (c d c2 : Nat) (w : World) (hm : ms.length ≤ maxLen) (hn : ss.length ≤ maxLen) (hz : zs.length ≤ maxLen) (hd : ss.length ≤ d) (RM : Hid (SlI w p ms)) (RS : Hid (SlI w q ss)) (RZ : Hid (SlI w p2 zs)) :
    Calls Try.prog 12 #[.agg #[.slice p ms.length c, .slice q ss.length d], .slice p2 zs.length c2] w (Ret (.bool true) w) := by
  have AL := Lib.hid alive
  have CS := Lib.hid fun u => small1 p p2 q ms.length zs.length ss.length c c2 d u hm hz hn
  have BA := (Below.refl w.heap.size w).alloc (Nat.le_refl _) (Obj.cells #[Value.slice p ms.length c, Value.slice q ss.length d] 51)
  have hx0 : (w.alloc (Obj.cells #[Value.slice p ms.length c, Value.slice q ss.length d] 51)).cell? ⟨w.heap.size, 0, none⟩ = some (.slice p ms.length c) := by go_cell
  have hx1 : (w.alloc (Obj.cells #[Value.slice p ms.length c, Value.slice q ss.length d] 51)).cell? ⟨w.heap.size, 1, none⟩ = some (.slice q ss.length d) := by go_cell
  have hlt0 : w.heap.size < (w.alloc (Obj.cells #[Value.slice p ms.length c, Value.slice q ss.length d] 51)).heap.size := by simp
  have BX1 := Lib.hid (show BX _ _ w _ from ⟨BA, hlt0, hx0, hx1⟩)
  have CL := Lib.hid fun u (hu : Below w.heap.size w u) => lshape1 p p2 q ms zs ss c c2 d u hm hz hn hd (Lib.hid (SlI.keep hu RM.out)) (Lib.hid (SlI.keep hu RZ.out)) (Lib.hid (SlI.keep hu RS.out))
  have CRL := Lib.hid fun u (hu : Below w.heap.size w u) => rlocal1 p p2 q ms zs ss c c2 d u hm hz hn hd (Lib.hid (SlI.keep hu RM.out)) (Lib.hid (SlI.keep hu RZ.out)) (Lib.hid (SlI.keep hu RS.out))
  have CV := Lib.hid fun u (hu : Below w.heap.size w u) => valid1 p p2 q ms zs ss c c2 d u hm hz hn hd (Lib.hid (SlI.keep hu RM.out)) (Lib.hid (SlI.keep hu RZ.out)) (Lib.hid (SlI.keep hu RS.out))
  have CRV := Lib.hid fun u (hu : Below w.heap.size w u) => rvalid1 p p2 q ms zs ss c c2 d u hm hz hn hd (Lib.hid (SlI.keep hu RM.out)) (Lib.hid (SlI.keep hu RZ.out)) (Lib.hid (SlI.keep hu RS.out))
  have CR := Lib.hid fun u (hu : Below w.heap.size w u) => repl1 p q ms ss c d u hm hn hd (Lib.hid (SlI.keep hu RM.out)) (Lib.hid (SlI.keep hu RS.out))
  have CRR := Lib.hid fun u (hu : Below w.heap.size w u) => rrepl1 p q ms ss c d u hm hn (Lib.hid (SlI.keep hu RM.out)) (Lib.hid (SlI.keep hu RS.out))
  generalize hV ms zs ss = V at CL CRL CV CRV
  generalize hl9 : lsv ms zs ss = l at CL CRL
  generalize rV ms ss = R at CR CRR
  generalize (decide (ms.length ≤ 20) && (decide (zs.length ≤ 20) && decide (ss.length ≤ 20))) = B at CS
  clear BA hl9
  clear hz
  go_enter Try.func12, Try.ntmps12
  go_wp2_with fail
  generalize w.alloc (Obj.cells #[Value.slice p ms.length c, Value.slice q ss.length d] 51) = wb at *
  refine (CS.out _).mono ?_
  rintro e w1 ⟨rfl, hb⟩
  have X1 := BX1.out.keep hb
  have HX1 := Lib.hid X1
  obtain ⟨_, _, hy0, hy1⟩ := X1
  clear hb BX1 hx0 hx1 hlt0
  cases B
  · go_wp2_with fail
    refine (AL.out _).mono ?_
    rintro e w2 ⟨rfl, hb⟩
    have X2 := Lib.hid (HX1.out.keep hb).1
    clear hb
    go_wp2
    go_ret
    exact ⟨rfl, X2.out⟩
  · go_wp2_with fail
    refine (CL.out _ HX1.out.1).mono ?_
    rintro e w2 hq
    obtain ⟨qa, ca, rfl, ha1, ha2, hb, hSa⟩ := ret_lsv hq
    have X2 := HX1.out.keep hb
    have HX2 := Lib.hid X2
    obtain ⟨_, _, hz0, hz1⟩ := X2
    clear hb HX1 hy0 hy1 hq
    go_wp2_with fail
    refine (CRL.out _ HX2.out.1).mono ?_
    rintro e z hq
    obtain ⟨qb, cb, rfl, hb1, hb2, hb, hSb⟩ := ret_lsv hq
    have X3 := HX2.out.keep hb
    have HX3 := Lib.hid X3
    obtain ⟨_, _, hx0, hx1⟩ := X3
    have hSa := Lib.hid (SlI.keep hb hSa.out)
    clear hb HX2 hz0 hz1 hq
    have hlm : l.length ≤ maxLen := Nat.le_trans ha1 ha2
    have CI := Lib.hid fun u (hu : Below z.heap.size z u) => ints1 qa qb l l ca cb u hlm hlm (Lib.hid (SlI.keep hu hSa.out)) (Lib.hid (SlI.keep hu hSb.out))
    rw [decide_eq_true (rfl : l = l)] at CI
    have KZ := HX3.out.1
    have hlt : w.heap.size < z.heap.size := HX3.out.2.1
    have hz : z.cell? ⟨w.heap.size, 0, none⟩ = some (.slice p ms.length c) ∧ z.cell? ⟨w.heap.size, 1, none⟩ = some (.slice q ss.length d) ∧ z.heap.size ≤ z.heap.size ∧ Below z.heap.size z z := ⟨hx0, hx1, Nat.le_refl _, Below.refl _ _⟩
    clear hx0 hx1 hSa hSb CL CRL CS hm hn
    go_wp2_with fail
    have HS : Hid (∀ u u' : World, (u.cell? ⟨w.heap.size, 0, none⟩ = some (.slice p ms.length c) ∧ u.cell? ⟨w.heap.size, 1, none⟩ = some (.slice q ss.length d) ∧ z.heap.size ≤ u.heap.size ∧ Below z.heap.size z u) → Below u.heap.size u u' → (u'.cell? ⟨w.heap.size, 0, none⟩ = some (.slice p ms.length c) ∧ u'.cell? ⟨w.heap.size, 1, none⟩ = some (.slice q ss.length d) ∧ z.heap.size ≤ u'.heap.size ∧ Below z.heap.size z u')) := Lib.hid (fun u u' h hb => ⟨Rg.keep hb (Nat.lt_of_lt_of_le hlt h.2.2.1) h.1, Rg.keep hb (Nat.lt_of_lt_of_le hlt h.2.2.1) h.2.1, Nat.le_trans h.2.2.1 hb.size, h.2.2.2.trans (hb.mono h.2.2.2.size)⟩)
    refine wp_region_held_drew (S := fun w' => w'.cell? ⟨w.heap.size, 0, none⟩ = some (.slice p ms.length c) ∧ w'.cell? ⟨w.heap.size, 1, none⟩ = some (.slice q ss.length d) ∧ z.heap.size ≤ w'.heap.size ∧ Below z.heap.size z w') (by kernel_rfl) (HS.out _ _ hz (Below.drew (Below.refl _ _))) (fun hHeld => ?_)
    refine Rg.take (i := 0) (v := ?_) rfl (by kernel_rfl) (by kernel_rfl) (by kernel_rfl) (fun _ _ _ h => h) (Or.inl ⟨by kernel_rfl, ?_⟩) (by assumption) ?_
    rotate_left
    · ((intro w hSw; (try dsimp only at hSw); go_simp) <;> with_reducible rfl)
    try simp only [Act.put, List.setIfInBounds_toArray, List.set_cons_zero, List.set_cons_succ]
    refine Rg.take (i := 1) (v := ?_) rfl (by kernel_rfl) (by kernel_rfl) (by kernel_rfl) (fun _ _ _ h => h) (Or.inl ⟨by kernel_rfl, ?_⟩) (by assumption) ?_
    rotate_left
    · ((intro w hSw; (try dsimp only at hSw); go_simp) <;> with_reducible rfl)
    try simp only [Act.put, List.setIfInBounds_toArray, List.set_cons_zero, List.set_cons_succ]
    refine Rg.take (i := 2) (v := ?_) rfl (by kernel_rfl) (by kernel_rfl) (by kernel_rfl) (fun _ _ _ h => h) (Or.inl ⟨by kernel_rfl, ?_⟩) (by assumption) ?_
    rotate_left
    · ((intro w hSw; (try dsimp only at hSw); go_simp) <;> with_reducible rfl)
    try simp only [Act.put, List.setIfInBounds_toArray, List.set_cons_zero, List.set_cons_succ]
    refine Rg.take (i := 3) (v := ?_) rfl (by kernel_rfl) (by kernel_rfl) (by kernel_rfl) (fun _ _ _ h => h) (Or.inl ⟨by kernel_rfl, ?_⟩) (by assumption) ?_
    rotate_left
    · ((intro w hSw; (try dsimp only at hSw); go_simp) <;> with_reducible rfl)
    try simp only [Act.put, List.setIfInBounds_toArray, List.set_cons_zero, List.set_cons_succ]
    refine Rg.take (i := 4) (v := ?_) rfl (by kernel_rfl) (by kernel_rfl) (by kernel_rfl) (fun _ _ _ h => h) (Or.inl ⟨by kernel_rfl, ?_⟩) (by assumption) ?_
    rotate_left
    · ((intro w hSw; (try dsimp only at hSw); go_simp) <;> with_reducible rfl)
    try simp only [Act.put, List.setIfInBounds_toArray, List.set_cons_zero, List.set_cons_succ]
    refine Rg.take (i := 6) (v := ?_) rfl (by kernel_rfl) (by kernel_rfl) (by kernel_rfl) (fun _ _ _ h => h) (Or.inl ⟨by kernel_rfl, ?_⟩) (by assumption) ?_
    rotate_left
    · ((intro w hSw; (try dsimp only at hSw); go_simp) <;> with_reducible rfl)
    try simp only [Act.put, List.setIfInBounds_toArray, List.set_cons_zero, List.set_cons_succ]
    refine Rg.take (i := 7) (v := ?_) rfl (by kernel_rfl) (by kernel_rfl) (by kernel_rfl) (fun _ _ _ h => h) (Or.inl ⟨by kernel_rfl, ?_⟩) (by assumption) ?_
    rotate_left
    · ((intro w hSw; (try dsimp only at hSw); go_simp) <;> with_reducible rfl)
    try simp only [Act.put, List.setIfInBounds_toArray, List.set_cons_zero, List.set_cons_succ]
    refine Rg.take (i := 8) (v := ?_) rfl (by kernel_rfl) (by kernel_rfl) (by kernel_rfl) (fun _ _ _ h => h) (Or.inl ⟨by kernel_rfl, ?_⟩) (by assumption) ?_
    rotate_left
    · ((intro w hSw; (try dsimp only at hSw); go_simp) <;> with_reducible rfl)
    try simp only [Act.put, List.setIfInBounds_toArray, List.set_cons_zero, List.set_cons_succ]
    refine Rg.take (i := 9) (v := ?_) rfl (by kernel_rfl) (by kernel_rfl) (by kernel_rfl) (fun _ _ _ h => h) (Or.inl ⟨by kernel_rfl, ?_⟩) (by assumption) ?_
    rotate_left
    · ((intro w hSw; (try dsimp only at hSw); go_simp) <;> with_reducible rfl)
    try simp only [Act.put, List.setIfInBounds_toArray, List.set_cons_zero, List.set_cons_succ]
    refine Rg.take (i := 10) (v := ?_) rfl (by kernel_rfl) (by kernel_rfl) (by kernel_rfl) (fun _ _ _ h => h) (Or.inl ⟨by kernel_rfl, ?_⟩) (by assumption) ?_
    rotate_left
    · ((intro w hSw; (try dsimp only at hSw); go_simp) <;> with_reducible rfl)
    try simp only [Act.put, List.setIfInBounds_toArray, List.set_cons_zero, List.set_cons_succ]
    refine Rg.one (i := 5) (by kernel_rfl) rfl (fun KK hK => ?_)
    rw [if_pos (by kernel_rfl)]
    go_simp
    ((with_reducible refine (CV.out _ (KZ.trans (hHeld.2.2.2.mono KZ.size))).mono ?_); rintro e u ⟨rfl, hb⟩)
    have hNew := HS.out _ _ hHeld hb
    first | (refine hK.out _ _ hNew (fun _ => ?_)) | (go_wp2_with fail; refine hK.out _ _ hNew (fun _ => ?_))
    clear hK KK hHeld hb
    have hHeld := hNew
    clear hNew
    refine Rg.one (i := 11) (by kernel_rfl) rfl (fun KK hK => ?_)
    rw [if_pos (by kernel_rfl)]
    go_simp
    ((with_reducible refine (CRV.out _ (KZ.trans (hHeld.2.2.2.mono KZ.size))).mono ?_); rintro e u ⟨rfl, hb⟩)
    have hNew := HS.out _ _ hHeld hb
    first | (refine hK.out _ _ hNew (fun _ => ?_)) | (go_wp2_with fail; refine hK.out _ _ hNew (fun _ => ?_))
    clear hK KK hHeld hb
    have hHeld := hNew
    clear hNew
    refine Rg.take (i := 12) (v := ?_) rfl (by kernel_rfl) (by kernel_rfl) (by kernel_rfl) (fun _ _ _ h => h) (Or.inl ⟨by kernel_rfl, ?_⟩) (by assumption) ?_
    rotate_left
    · ((intro w hSw; (try dsimp only at hSw); go_simp) <;> with_reducible rfl)
    try simp only [Act.put, List.setIfInBounds_toArray, List.set_cons_zero, List.set_cons_succ]
    refine Rg.take (i := 13) (v := ?_) rfl (by kernel_rfl) (by kernel_rfl) (by kernel_rfl) (fun _ _ _ h => h) (Or.inl ⟨by kernel_rfl, ?_⟩) (by assumption) ?_
    rotate_left
    · ((intro w hSw; (try dsimp only at hSw); go_simp) <;> with_reducible rfl)
    try simp only [Act.put, List.setIfInBounds_toArray, List.set_cons_zero, List.set_cons_succ]
    refine Rg.take (i := 14) (v := ?_) rfl (by kernel_rfl) (by kernel_rfl) (by kernel_rfl) (fun _ _ _ h => h) (Or.inl ⟨by kernel_rfl, ?_⟩) (by assumption) ?_
    rotate_left
    · ((intro w hSw; (try dsimp only at hSw); go_simp) <;> with_reducible rfl)
    try simp only [Act.put, List.setIfInBounds_toArray, List.set_cons_zero, List.set_cons_succ]
    refine Rg.take (i := 15) (v := ?_) rfl (by kernel_rfl) (by kernel_rfl) (by kernel_rfl) (fun _ _ _ h => h) (Or.inl ⟨by kernel_rfl, ?_⟩) (by assumption) ?_
    rotate_left
    · ((intro w hSw; (try dsimp only at hSw); go_simp) <;> with_reducible rfl)
    try simp only [Act.put, List.setIfInBounds_toArray, List.set_cons_zero, List.set_cons_succ]
    refine Rg.take (i := 16) (v := ?_) rfl (by kernel_rfl) (by kernel_rfl) (by kernel_rfl) (fun _ _ _ h => h) (Or.inl ⟨by kernel_rfl, ?_⟩) (by assumption) ?_
    rotate_left
    · ((intro w hSw; (try dsimp only at hSw); go_simp) <;> with_reducible rfl)
    try simp only [Act.put, List.setIfInBounds_toArray, List.set_cons_zero, List.set_cons_succ]
    refine Rg.take (i := 17) (v := ?_) rfl (by kernel_rfl) (by kernel_rfl) (by kernel_rfl) (fun _ _ _ h => h) (Or.inl ⟨by kernel_rfl, ?_⟩) (by assumption) ?_
    rotate_left
    · ((intro w hSw; (try dsimp only at hSw); go_simp) <;> with_reducible rfl)
    try simp only [Act.put, List.setIfInBounds_toArray, List.set_cons_zero, List.set_cons_succ]
    refine Rg.take (i := 19) (v := ?_) rfl (by kernel_rfl) (by kernel_rfl) (by kernel_rfl) (fun _ _ _ h => h) (Or.inl ⟨by kernel_rfl, ?_⟩) (by assumption) ?_
    rotate_left
    · ((intro w hSw; (try dsimp only at hSw); go_simp) <;> with_reducible rfl)
    try simp only [Act.put, List.setIfInBounds_toArray, List.set_cons_zero, List.set_cons_succ]
    refine Rg.take (i := 20) (v := ?_) rfl (by kernel_rfl) (by kernel_rfl) (by kernel_rfl) (fun _ _ _ h => h) (Or.inl ⟨by kernel_rfl, ?_⟩) (by assumption) ?_
    rotate_left
    · ((intro w hSw; (try dsimp only at hSw); go_simp) <;> with_reducible rfl)
    try simp only [Act.put, List.setIfInBounds_toArray, List.set_cons_zero, List.set_cons_succ]
    refine Rg.take (i := 21) (v := ?_) rfl (by kernel_rfl) (by kernel_rfl) (by kernel_rfl) (fun _ _ _ h => h) (Or.inl ⟨by kernel_rfl, ?_⟩) (by assumption) ?_
    rotate_left
    · ((intro w hSw; (try dsimp only at hSw); go_simp) <;> with_reducible rfl)
    try simp only [Act.put, List.setIfInBounds_toArray, List.set_cons_zero, List.set_cons_succ]
    refine Rg.take (i := 22) (v := ?_) rfl (by kernel_rfl) (by kernel_rfl) (by kernel_rfl) (fun _ _ _ h => h) (Or.inl ⟨by kernel_rfl, ?_⟩) (by assumption) ?_
    rotate_left
    · ((intro w hSw; (try dsimp only at hSw); go_simp) <;> with_reducible rfl)
    try simp only [Act.put, List.setIfInBounds_toArray, List.set_cons_zero, List.set_cons_succ]
    refine Rg.one (i := 18) (by kernel_rfl) rfl (fun KK hK => ?_)
    rw [if_pos (by kernel_rfl)]
    go_simp
    ((with_reducible refine (CR.out _ (KZ.trans (hHeld.2.2.2.mono KZ.size))).mono ?_); rintro e u ⟨rfl, hb⟩)
    have hNew := HS.out _ _ hHeld hb
    first | (refine hK.out _ _ hNew (fun _ => ?_)) | (go_wp2_with fail; refine hK.out _ _ hNew (fun _ => ?_))
    clear hK KK hHeld hb
    have hHeld := hNew
    clear hNew
    refine Rg.one (i := 23) (by kernel_rfl) rfl (fun KK hK => ?_)
    rw [if_pos (by kernel_rfl)]
    go_simp
    ((with_reducible refine (CRR.out _ (KZ.trans (hHeld.2.2.2.mono KZ.size))).mono ?_); rintro e u ⟨rfl, hb⟩)
    have hNew := HS.out _ _ hHeld hb
    first | (refine hK.out _ _ hNew (fun _ => ?_)) | (go_wp2_with fail; refine hK.out _ _ hNew (fun _ => ?_))
    clear hK KK hHeld hb
    have hHeld := hNew
    clear hNew
    refine Rg.take (i := 24) (v := ?_) rfl (by kernel_rfl) (by kernel_rfl) (by kernel_rfl) (fun _ _ _ h => h) (Or.inl ⟨by kernel_rfl, ?_⟩) (by assumption) ?_
    rotate_left
    · ((intro w hSw; (try dsimp only at hSw); go_simp) <;> with_reducible rfl)
    try simp only [Act.put, List.setIfInBounds_toArray, List.set_cons_zero, List.set_cons_succ]
    refine Rg.take (i := 25) (v := ?_) rfl (by kernel_rfl) (by kernel_rfl) (by kernel_rfl) (fun _ _ _ h => h) (Or.inl ⟨by kernel_rfl, ?_⟩) (by assumption) ?_
    rotate_left
    · ((intro w hSw; (try dsimp only at hSw); go_simp) <;> with_reducible rfl)
    try simp only [Act.put, List.setIfInBounds_toArray, List.set_cons_zero, List.set_cons_succ]
    refine Rg.take (i := 26) (v := ?_) rfl (by kernel_rfl) (by kernel_rfl) (by kernel_rfl) (fun _ _ _ h => h) (Or.inl ⟨by kernel_rfl, ?_⟩) (by assumption) ?_
    rotate_left
    · ((intro w hSw; (try dsimp only at hSw); go_simp) <;> with_reducible rfl)
    try simp only [Act.put, List.setIfInBounds_toArray, List.set_cons_zero, List.set_cons_succ]
    refine Rg.take (i := 27) (v := ?_) rfl (by kernel_rfl) (by kernel_rfl) (by kernel_rfl) (fun _ _ _ h => h) (Or.inl ⟨by kernel_rfl, ?_⟩) (by assumption) ?_
    rotate_left
    · ((intro w hSw; (try dsimp only at hSw); go_simp) <;> with_reducible rfl)
    try simp only [Act.put, List.setIfInBounds_toArray, List.set_cons_zero, List.set_cons_succ]
    refine Rg.take (i := 28) (v := ?_) rfl (by kernel_rfl) (by kernel_rfl) (by kernel_rfl) (fun _ _ _ h => h) (Or.inl ⟨by kernel_rfl, ?_⟩) (by assumption) ?_
    rotate_left
    · ((intro w hSw; (try dsimp only at hSw); go_simp) <;> with_reducible rfl)
    try simp only [Act.put, List.setIfInBounds_toArray, List.set_cons_zero, List.set_cons_succ]
    refine Rg.one (i := 29) (by kernel_rfl) rfl (fun KK hK => ?_)
    rw [if_pos (by kernel_rfl)]
    go_simp
    ((with_reducible refine (CI.out _ hHeld.2.2.2).mono ?_); rintro e u ⟨rfl, kd, rfl⟩)
    have hNew := HS.out _ _ hHeld (below_drewN (Below.refl _ _) kd)
    first | (refine hK.out _ _ hNew (fun _ => ?_)) | (go_wp2_with fail; refine hK.out _ _ hNew (fun _ => ?_))
    clear hK KK hHeld
    have hHeld := hNew
    clear hNew
    refine Rg.take (i := 30) (v := ?_) rfl (by kernel_rfl) (by kernel_rfl) (by kernel_rfl) (fun _ _ _ h => h) (Or.inl ⟨by kernel_rfl, ?_⟩) (by assumption) ?_
    rotate_left
    · ((intro w hSw; (try dsimp only at hSw); go_simp) <;> with_reducible rfl)
    try simp only [Act.put, List.setIfInBounds_toArray, List.set_cons_zero, List.set_cons_succ]
    refine Rg.take (i := 31) (v := ?_) rfl (by kernel_rfl) (by kernel_rfl) (by kernel_rfl) (fun _ _ _ h => h) (Or.inl ⟨by kernel_rfl, ?_⟩) (by assumption) ?_
    rotate_left
    · ((intro w hSw; (try dsimp only at hSw); go_simp) <;> with_reducible rfl)
    try simp only [Act.put, List.setIfInBounds_toArray, List.set_cons_zero, List.set_cons_succ]
    refine Rg.take (i := 32) (v := ?_) rfl (by kernel_rfl) (by kernel_rfl) (by kernel_rfl) (fun _ _ _ h => h) (Or.inl ⟨by kernel_rfl, ?_⟩) (by assumption) ?_
    rotate_left
    · ((intro w hSw; (try dsimp only at hSw); go_simp) <;> with_reducible rfl)
    try simp only [Act.put, List.setIfInBounds_toArray, List.set_cons_zero, List.set_cons_succ]
    refine Rg.take (i := 33) (v := ?_) rfl (by kernel_rfl) (by kernel_rfl) (by kernel_rfl) (fun _ _ _ h => h) (Or.inl ⟨by kernel_rfl, ?_⟩) (by assumption) ?_
    rotate_left
    · ((intro w hSw; (try dsimp only at hSw); go_simp) <;> with_reducible rfl)
    try simp only [Act.put, List.setIfInBounds_toArray, List.set_cons_zero, List.set_cons_succ]
    refine Rg.take (i := 34) (v := ?_) rfl (by kernel_rfl) (by kernel_rfl) (by kernel_rfl) (fun _ _ _ h => h) (Or.inl ⟨by kernel_rfl, ?_⟩) (by assumption) ?_
    rotate_left
    · ((intro w hSw; (try dsimp only at hSw); go_simp) <;> with_reducible rfl)
    try simp only [Act.put, List.setIfInBounds_toArray, List.set_cons_zero, List.set_cons_succ]
    refine Rg.take (i := 35) (v := ?_) rfl (by kernel_rfl) (by kernel_rfl) (by kernel_rfl) (fun _ _ _ h => h) (Or.inl ⟨by kernel_rfl, ?_⟩) (by assumption) ?_
    rotate_left
    · ((intro w hSw; (try dsimp only at hSw); go_simp) <;> with_reducible rfl)
    try simp only [Act.put, List.setIfInBounds_toArray, List.set_cons_zero, List.set_cons_succ]
    refine Rg.take (i := 36) (v := ?_) rfl (by kernel_rfl) (by kernel_rfl) (by kernel_rfl) (fun _ _ _ h => h) (Or.inl ⟨by kernel_rfl, ?_⟩) (by assumption) ?_
    rotate_left
    · ((intro w hSw; (try dsimp only at hSw); go_simp) <;> with_reducible rfl)
    try simp only [Act.put, List.setIfInBounds_toArray, List.set_cons_zero, List.set_cons_succ]
    refine Rg.one (i := 37) (by kernel_rfl) rfl (fun KK hK => ?_)
    rw [if_pos (by kernel_rfl)]
    go_simp
    ((with_reducible refine (AL.out _).mono ?_); rintro e u ⟨rfl, hb⟩)
    have hNew := HS.out _ _ hHeld hb
    first | (refine hK.out _ _ hNew (fun _ => ?_)) | (go_wp2_with fail; refine hK.out _ _ hNew (fun _ => ?_))
    clear hK KK hHeld hb
    have hHeld := hNew
    clear hNew
    refine Rg.take (i := 38) (v := ?_) rfl (by kernel_rfl) (by kernel_rfl) (by kernel_rfl) (fun _ _ _ h => h) (Or.inl ⟨by kernel_rfl, ?_⟩) (by assumption) ?_
    rotate_left
    · ((intro w hSw; (try dsimp only at hSw); go_simp) <;> with_reducible rfl)
    try simp only [Act.put, List.setIfInBounds_toArray, List.set_cons_zero, List.set_cons_succ]
    refine Rg.take (i := 39) (v := ?_) rfl (by kernel_rfl) (by kernel_rfl) (by kernel_rfl) (fun _ _ _ h => h) (Or.inl ⟨by kernel_rfl, ?_⟩) (by assumption) ?_
    rotate_left
    · ((intro w hSw; (try dsimp only at hSw); go_simp) <;> with_reducible rfl)
    try simp only [Act.put, List.setIfInBounds_toArray, List.set_cons_zero, List.set_cons_succ]
    refine wpAnyH_done (by kernel_rfl) ?_ _
    have KY := Lib.hid (KZ.trans (hHeld.2.2.2.mono KZ.size))
    clear hHeld
    go_wp2
    go_ret
    exact ⟨rfl, KY.out⟩
end Go.Proofs.Ytndmpoomdoojpaa.Sh
