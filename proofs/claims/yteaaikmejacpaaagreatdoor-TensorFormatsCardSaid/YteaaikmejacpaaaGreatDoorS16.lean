/- Tensors: scan. -/
import Derived.Test.YteaaikmejacpaaaGreatDoorS15

namespace Go.Proofs.YteaaikmejacpaaaGreatDoor.Te
open Go.ChangeShapes Go.WideShapes Go.ChangeAt Go.RowKit
open Fx Va Sh
set_option maxRecDepth 8000
set_option linter.unusedVariables false
set_option linter.unusedSimpArgs false

theorem st2 {u : World} {r : Nat} {x y a b : Value} (h0 : u.cell? ⟨r, 0, none⟩ = some a) (h1 : u.cell? ⟨r, 1, none⟩ = some b) :
  ((u.setCell ⟨r, 0, none⟩ x).setCell ⟨r, 1, none⟩ y).cell? ⟨r, 0, none⟩ = some x /\ ((u.setCell ⟨r, 0, none⟩ x).setCell ⟨r, 1, none⟩ y).cell? ⟨r, 1, none⟩ = some y := by
 have g1 : (u.setCell ⟨r, 0, none⟩ x).cell? ⟨r, 1, none⟩ = some b := (World.cell?_setCell_other _ _ _ _ (by simp)).trans h1
 exact ⟨(World.cell?_setCell_other _ _ _ _ (by simp)).trans (World.cell?_setCell_same _ _ _ h0), World.cell?_setCell_same _ _ _ g1⟩

theorem run_cons (f : Int × Int -> Int × Int -> Int × Int × Int) (v x : Int × Int) (l : List (Int × Int)) : run f v (x :: l) = ((f v x).1, (f v x).2.1) :: run f ((f v x).1, (f v x).2.1) l := rfl
theorem runE_cons (f : Int × Int -> Int × Int -> Int × Int × Int) (v x : Int × Int) (l : List (Int × Int)) : runE f v (x :: l) = if (f v x).2.2 ≠ 0 then (f v x).2.2 else runE f ((f v x).1, (f v x).2.1) l := rfl
theorem getD_app {X : List (Int × Int)} {k : Nat} (h : k < X.length) (Y : List (Int × Int)) : (X ++ Y).getD k (0, 0) = X.getD k (0, 0) := by
 rw [List.getD_eq_getElem?_getD, List.getD_eq_getElem?_getD, List.getElem?_append_left h]
theorem getD_appR {X : List (Int × Int)} {k : Nat} (h : X.length = k) (y : Int × Int) (Y : List (Int × Int)) : (X ++ y :: Y).getD k (0, 0) = y := by
 rw [List.getD_eq_getElem?_getD, List.getElem?_append_right (by omega), h, Nat.sub_self]; rfl
theorem set_app {X : List (Int × Int)} {k : Nat} (h : X.length = k) (y z : Int × Int) (Y : List (Int × Int)) : (X ++ y :: Y).set k z = X ++ z :: Y := by
 rw [List.set_append_right _ _ (by omega), h, Nat.sub_self]; rfl
theorem row_two {u : World} {B n g c : Nat} {L : List (Int × Int)} (h : u.ownsRow B 29 2 (.slice (some ⟨g, 0, none⟩) n c) n (flV L)) (hl : L.length = n) {k : Nat} (hk : k < n) (a b : Int) :
  ((u.setCell ⟨g, k * 2, none⟩ (.int .i64 a)).setCell ⟨g, k * 2 + 1, none⟩ (.int .i64 b)).ownsRow B 29 2 (.slice (some ⟨g, 0, none⟩) n c) n (flV (L.set k (a, b))) := by
 have h2 := ((h.stored (k * 2) (.int .i64 a)).1.stored (k * 2 + 1) (.int .i64 b)).1
 rw [flV_set L k a b (by omega)] at h2
 exact h2
theorem row_get {u : World} {B n g c : Nat} {L : List (Int × Int)} (h : u.ownsRow B 29 2 (.slice (some ⟨g, 0, none⟩) n c) n (flV L)) (hl : L.length = n) {k : Nat} (hk : k < n) :
  u.cell? ⟨g, k * 2, none⟩ = some (.int .i64 (L.getD k (0, 0)).1) /\ u.cell? ⟨g, k * 2 + 1, none⟩ = some (.int .i64 (L.getD k (0, 0)).2) := by
 obtain ⟨v0, v1⟩ := flV_get L k (by omega)
 exact ⟨(h.cellAt (k * 2) (by omega)).trans v0, (h.cellAt (k * 2 + 1) (by omega)).trans v1⟩
theorem far2o {u : World} {r o1 o2 b o : Nat} {v x y : Value} (h : r ≠ b) (hc : u.cell? ⟨b, o, none⟩ = some v) : ((u.setCell ⟨r, o1, none⟩ x).setCell ⟨r, o2, none⟩ y).cell? ⟨b, o, none⟩ = some v := by
 rw [World.cell?_setCell_far _ _ _ _ h, World.cell?_setCell_far _ _ _ _ h]
 exact hc
abbrev fop (K B F R O : Int) (a b : Int × Int) : Int × Int × Int := apv 4 K B F R O a.1 a.2 b.1 b.2

set_option maxRecDepth 100000 in
set_option maxHeartbeats 1500000 in
theorem tscan (K B F R O : Int) (g n c Bs : Nat) (L : List (Int × Int)) (w : World) (b0 : -9223372036854775808 <= B) (b1 : B <= 9223372036854775807) (HO : Hid (w.ownsRow Bs 29 2 (.slice (some ⟨g, 0, none⟩) n c) n (flV L))) (hl : L.length = n) (h4 : n <= 4096) (hV : Hid (∀ i, i < n -> -9223372036854775808 <= (L.getD i (0, 0)).1 /\ (L.getD i (0, 0)).1 <= 9223372036854775807)) :
  Calls Tryz.prog 65 #[T5 K B F R O, (.slice (some ⟨g, 0, none⟩) n c)] w fun e w' => e = .returned (.int .i64 (scE (fop K B F R O) L)) /\ Below g w w' /\ (scE (fop K B F R O) L = 0 -> w'.ownsRow Bs 29 2 (.slice (some ⟨g, 0, none⟩) n c) n (flV (scV (fop K B F R O) L))) := by
 have hgw0 : g < w.heap.size := (HO.out.lt g rfl).2
 have CA := Lib.hid fun a x u h => c_ap 4 K B F R O (a : Int × Int).1 a.2 (x : Int × Int).1 x.2 u b0 b1 h
 clear b0 b1
 obtain ⟨ER, hE⟩ : ∃ E, scE (fop K B F R O) L = E := ⟨_, rfl⟩
 obtain ⟨S, hSS⟩ : ∃ S, scV (fop K B F R O) L = S := ⟨_, rfl⟩
 rw [hE, hSS]
 have B0 : Below g w (w.alloc (Obj.cells #[Value.int .i64 K, Value.int .i64 B, Value.int .i64 F, Value.int .i64 R, Value.int .i64 O] 23)) := (Below.refl _ _).alloc (by omega) _
 have HT0 : Hid ((w.alloc (Obj.cells #[Value.int .i64 K, Value.int .i64 B, Value.int .i64 F, Value.int .i64 R, Value.int .i64 O] 23)).cell? ⟨w.heap.size, 0, none⟩ = some (.int .i64 K) /\ (w.alloc (Obj.cells #[Value.int .i64 K, Value.int .i64 B, Value.int .i64 F, Value.int .i64 R, Value.int .i64 O] 23)).cell? ⟨w.heap.size, 1, none⟩ = some (.int .i64 B) /\ (w.alloc (Obj.cells #[Value.int .i64 K, Value.int .i64 B, Value.int .i64 F, Value.int .i64 R, Value.int .i64 O] 23)).cell? ⟨w.heap.size, 2, none⟩ = some (.int .i64 F) /\ (w.alloc (Obj.cells #[Value.int .i64 K, Value.int .i64 B, Value.int .i64 F, Value.int .i64 R, Value.int .i64 O] 23)).cell? ⟨w.heap.size, 3, none⟩ = some (.int .i64 R) /\ (w.alloc (Obj.cells #[Value.int .i64 K, Value.int .i64 B, Value.int .i64 F, Value.int .i64 R, Value.int .i64 O] 23)).cell? ⟨w.heap.size, 4, none⟩ = some (.int .i64 O)) := Lib.hid (by refine ⟨?_, ?_, ?_, ?_, ?_⟩ <;> go_cell)
 have HO0 := Lib.hid (own_belowE HO.out ((Below.refl w.heap.size w).alloc (Nat.le_refl _) (Obj.cells #[Value.int .i64 K, Value.int .i64 B, Value.int .i64 F, Value.int .i64 R, Value.int .i64 O] 23)))
 have HB0 := Lib.hid B0
 have n2 : (n : Int) <= 4096 := by omega
 cases n with
 | zero =>
  have hnil : L = [] := List.eq_nil_of_length_eq_zero hl
  subst hnil
  have hS0 : [] = S := hSS
  have hE0 : 0 = ER := hE
  subst hS0 hE0
  clear hE hSS B0
  go_enter Tryz.func65, Tryz.ntmps65
  go_wp2_with fail
  go_loopw [5] (fun i wr => i = .int .i64 1 /\ wr = w.alloc (Obj.cells #[Value.int .i64 K, Value.int .i64 B, Value.int .i64 F, Value.int .i64 R, Value.int .i64 O] 23)) (fun i _ => 0)
  case atStart => exact ⟨rfl, rfl⟩
  case round =>
   obtain ⟨rfl, rfl⟩ := hrel
   go_wp2_with fail
   go_ret
   exact ⟨rfl, HB0.out, fun _ => HO0.out⟩
 | succ n' =>
 have e0 : L = L.getD 0 (0, 0) :: L.drop 1 := by rw [<- drop_step (by omega), List.drop_zero]
 have hER0 : Hid (runE (fop K B F R O) (L.getD 0 (0, 0)) (L.drop 1) = ER) := Lib.hid (by rw [<- hE]; exact congrArg (scE (fop K B F R O)) e0.symm)
 have hS0 : Hid ([L.getD 0 (0, 0)] ++ run (fop K B F R O) (L.getD 0 (0, 0)) (L.drop 1) = S) := Lib.hid (by rw [<- hSS]; exact congrArg (scV (fop K B F R O)) e0.symm)
 have HE0 := Lib.hid e0
 obtain ⟨n, hn⟩ : ∃ n, n' + 1 = n := ⟨_, rfl⟩
 have h1n : 1 <= n := by omega
 rw [hn] at hl h4 HO HO0 hV n2 ⊢
 clear hn hE hSS B0 e0
 have HL := Lib.hid hl
 clear hl
 go_enter Tryz.func65, Tryz.ntmps65
 go_wp2_with fail
 go_loopw [5] (fun i wr => ∃ (k j : Nat) (X : List (Int × Int)) (v : Int × Int), i = .int .i64 k /\ k = j + 1 /\ k <= n /\ X.length = k /\ X.getD j (0, 0) = v /\ Hid (X ++ run (fop K B F R O) v (L.drop k) = S) /\ Hid (runE (fop K B F R O) v (L.drop k) = ER) /\ Hid (wr.ownsRow Bs 29 2 (.slice (some ⟨g, 0, none⟩) n c) n (flV (X ++ L.drop k))) /\ Hid (wr.cell? ⟨w.heap.size, 0, none⟩ = some (.int .i64 K) /\ wr.cell? ⟨w.heap.size, 1, none⟩ = some (.int .i64 B) /\ wr.cell? ⟨w.heap.size, 2, none⟩ = some (.int .i64 F) /\ wr.cell? ⟨w.heap.size, 3, none⟩ = some (.int .i64 R) /\ wr.cell? ⟨w.heap.size, 4, none⟩ = some (.int .i64 O)) /\ Hid (Below g w wr)) (fun i _ => n + 1 - (intOf i).toNat)
 case atStart => exact ⟨1, 0, [L.getD 0 (0, 0)], _, rfl, rfl, h1n, rfl, rfl, hS0, hER0, by rw [List.singleton_append, <- HE0.out]; exact HO0, HT0, HB0⟩
 case round =>
  obtain ⟨k, j, X, v, rfl, hkj, hkn1, hXl, hXv, hS, hER, HOr, HTr, hB⟩ := hrel
  clear HO0 HT0 HB0 hS0 hER0 HE0 HO
  by_cases hkn : k < n
  ·obtain ⟨t0, t1, t2, t3, t4⟩ := HTr.out
   have hkL : k < L.length := by rw [HL.out]; exact hkn
   have hd := drop_step hkL
   obtain ⟨x, hx⟩ : ∃ x, L.getD k (0, 0) = x := ⟨_, rfl⟩
   have hVx := hV.out k hkn
   rw [hx] at hd hVx
   have AP := Lib.hid fun u => CA.out v x u hVx
   obtain ⟨q, hqq⟩ : ∃ q, fop K B F R O v x = q := ⟨_, rfl⟩
   rw [show apv 4 K B F R O v.1 v.2 x.1 x.2 = q from hqq] at AP
   obtain ⟨r1, r2, f3⟩ := q
   have hq := Lib.hid hqq
   have hdr := Lib.hid hd
   have hll : (X ++ L.drop k).length = n := by rw [List.length_append, hXl, List.length_drop, HL.out]; omega
   obtain ⟨v0, v1⟩ := row_get HOr.out hll (show j < n by omega)
   obtain ⟨x0, x1⟩ := row_get HOr.out hll hkn
   rw [getD_app (by omega), hXv] at v0 v1
   rw [hd, getD_appR hXl] at x0 x1
   have HLL := Lib.hid hll
   have hdr2 : Hid (X ++ L.drop k = X ++ x :: L.drop (k + 1)) := Lib.hid (by rw [hd])
   have y0 := HOr.out.frozenAt (k * 2)
   have y1 := HOr.out.frozenAt (k * 2 + 1)
   have lw : w.heap.size < wr.heap.size := World.block_lt_of_cell? _ _ t0
   have lg : g < wr.heap.size := World.block_lt_of_cell? _ _ x0
   have hgw : w.heap.size ≠ g := by omega
   have hgw' : g ≠ w.heap.size := by omega
   have wk : IntKind.i64.wrap ((k : Int) - 1) = (j : Int) := by rw [IntKind.wrap_i64]; omega
   have hj0 : (0 : Int) <= j := by omega
   have hj2 : (j : Int) < n := by omega
   have hk0 : (0 : Int) <= k := by omega
   have hk2 : (k : Int) < n := by omega
   have hz9 : wr.cell? ⟨w.heap.size, 0, none⟩ = some (.int .i64 K) /\ wr.cell? ⟨w.heap.size, 1, none⟩ = some (.int .i64 B) /\ wr.cell? ⟨w.heap.size, 2, none⟩ = some (.int .i64 F) /\ wr.cell? ⟨w.heap.size, 3, none⟩ = some (.int .i64 R) /\ wr.cell? ⟨w.heap.size, 4, none⟩ = some (.int .i64 O) /\ wr.cell? ⟨g, j * 2, none⟩ = some (.int .i64 v.1) /\ wr.cell? ⟨g, j * 2 + 1, none⟩ = some (.int .i64 v.2) /\ wr.cell? ⟨g, k * 2, none⟩ = some (.int .i64 x.1) /\ wr.cell? ⟨g, k * 2 + 1, none⟩ = some (.int .i64 x.2) /\ wr.frozen? ⟨g, k * 2, none⟩ = false /\ wr.frozen? ⟨g, k * 2 + 1, none⟩ = false /\ Below wr.heap.size wr wr := ⟨t0, t1, t2, t3, t4, v0, v1, x0, x1, y0, y1, Below.refl _ _⟩
   have HX := Lib.hid hXv
   have hkj2 := Lib.hid hkj
   clear t0 t1 t2 t3 t4 v0 v1 x0 x1 y0 y1 hd hx hqq hVx hll hXv hkj hkL
   go_wp2_with fail
   have HS : Hid (∀ u u' : World, (u.cell? ⟨w.heap.size, 0, none⟩ = some (.int .i64 K) /\ u.cell? ⟨w.heap.size, 1, none⟩ = some (.int .i64 B) /\ u.cell? ⟨w.heap.size, 2, none⟩ = some (.int .i64 F) /\ u.cell? ⟨w.heap.size, 3, none⟩ = some (.int .i64 R) /\ u.cell? ⟨w.heap.size, 4, none⟩ = some (.int .i64 O) /\ u.cell? ⟨g, j * 2, none⟩ = some (.int .i64 v.1) /\ u.cell? ⟨g, j * 2 + 1, none⟩ = some (.int .i64 v.2) /\ u.cell? ⟨g, k * 2, none⟩ = some (.int .i64 x.1) /\ u.cell? ⟨g, k * 2 + 1, none⟩ = some (.int .i64 x.2) /\ u.frozen? ⟨g, k * 2, none⟩ = false /\ u.frozen? ⟨g, k * 2 + 1, none⟩ = false /\ Below wr.heap.size wr u) -> Below u.heap.size u u' -> (u'.cell? ⟨w.heap.size, 0, none⟩ = some (.int .i64 K) /\ u'.cell? ⟨w.heap.size, 1, none⟩ = some (.int .i64 B) /\ u'.cell? ⟨w.heap.size, 2, none⟩ = some (.int .i64 F) /\ u'.cell? ⟨w.heap.size, 3, none⟩ = some (.int .i64 R) /\ u'.cell? ⟨w.heap.size, 4, none⟩ = some (.int .i64 O) /\ u'.cell? ⟨g, j * 2, none⟩ = some (.int .i64 v.1) /\ u'.cell? ⟨g, j * 2 + 1, none⟩ = some (.int .i64 v.2) /\ u'.cell? ⟨g, k * 2, none⟩ = some (.int .i64 x.1) /\ u'.cell? ⟨g, k * 2 + 1, none⟩ = some (.int .i64 x.2) /\ u'.frozen? ⟨g, k * 2, none⟩ = false /\ u'.frozen? ⟨g, k * 2 + 1, none⟩ = false /\ Below wr.heap.size wr u')) := Lib.hid (fun u u' h hb => ⟨Rg.keep hb (World.block_lt_of_cell? _ _ h.1) h.1, Rg.keep hb (World.block_lt_of_cell? _ _ h.2.1) h.2.1, Rg.keep hb (World.block_lt_of_cell? _ _ h.2.2.1) h.2.2.1, Rg.keep hb (World.block_lt_of_cell? _ _ h.2.2.2.1) h.2.2.2.1, Rg.keep hb (World.block_lt_of_cell? _ _ h.2.2.2.2.1) h.2.2.2.2.1, Rg.keep hb (World.block_lt_of_cell? _ _ h.2.2.2.2.2.1) h.2.2.2.2.2.1, Rg.keep hb (World.block_lt_of_cell? _ _ h.2.2.2.2.2.2.1) h.2.2.2.2.2.2.1, Rg.keep hb (World.block_lt_of_cell? _ _ h.2.2.2.2.2.2.2.1) h.2.2.2.2.2.2.2.1, Rg.keep hb (World.block_lt_of_cell? _ _ h.2.2.2.2.2.2.2.2.1) h.2.2.2.2.2.2.2.2.1, Rg.keepF hb (World.block_lt_of_cell? _ _ h.2.2.2.2.2.1) h.2.2.2.2.2.2.2.2.2.1, Rg.keepF hb (World.block_lt_of_cell? _ _ h.2.2.2.2.2.1) h.2.2.2.2.2.2.2.2.2.2.1, h.2.2.2.2.2.2.2.2.2.2.2.trans (hb.mono h.2.2.2.2.2.2.2.2.2.2.2.size)⟩)
   refine Rk.begin (S := fun wS => wS.cell? ⟨w.heap.size, 0, none⟩ = some (.int .i64 K) /\ wS.cell? ⟨w.heap.size, 1, none⟩ = some (.int .i64 B) /\ wS.cell? ⟨w.heap.size, 2, none⟩ = some (.int .i64 F) /\ wS.cell? ⟨w.heap.size, 3, none⟩ = some (.int .i64 R) /\ wS.cell? ⟨w.heap.size, 4, none⟩ = some (.int .i64 O) /\ wS.cell? ⟨g, j * 2, none⟩ = some (.int .i64 v.1) /\ wS.cell? ⟨g, j * 2 + 1, none⟩ = some (.int .i64 v.2) /\ wS.cell? ⟨g, k * 2, none⟩ = some (.int .i64 x.1) /\ wS.cell? ⟨g, k * 2 + 1, none⟩ = some (.int .i64 x.2) /\ wS.frozen? ⟨g, k * 2, none⟩ = false /\ wS.frozen? ⟨g, k * 2 + 1, none⟩ = false /\ Below wr.heap.size wr wS) 15 (by kernel_rfl) (HS.out _ _ hz9 (Below.drew (Below.refl _ _))) (fun hHeld => ?_)
   refine Rk.take [15] (i := 0) (v := ?_) rfl (by kernel_rfl) (by kernel_rfl) (by kernel_rfl) (by kernel_rfl) (by kernel_rfl) (fun _ _ _ h => h) (Or.inl ⟨by kernel_rfl, ?_⟩) (by assumption) ?_
   rotate_left
   ·((intro w hSw; (try dsimp only at hSw); go_simp) <;> with_reducible rfl)
   try simp only [Act.put, List.setIfInBounds_toArray, List.set_cons_zero, List.set_cons_succ]
   refine Rk.takeP (i := 1) (v := ?_) rfl (by kernel_rfl) (by kernel_rfl) (by kernel_rfl) (by kernel_rfl) (fun _ _ _ h => h) (Or.inl ⟨by kernel_rfl, ?_⟩) (by assumption) ?_
   rotate_left
   ·((intro w hSw; go_simp) <;> with_reducible rfl)
   try simp only [Act.put, List.setIfInBounds_toArray, List.set_cons_zero, List.set_cons_succ]
   refine Rk.takeP (i := 2) (v := ?_) rfl (by kernel_rfl) (by kernel_rfl) (by kernel_rfl) (by kernel_rfl) (fun _ _ _ h => h) (Or.inl ⟨by kernel_rfl, ?_⟩) (by assumption) ?_
   rotate_left
   ·((intro w hSw; go_simp) <;> with_reducible rfl)
   try simp only [Act.put, List.setIfInBounds_toArray, List.set_cons_zero, List.set_cons_succ]
   refine Rk.takeP (i := 3) (v := ?_) rfl (by kernel_rfl) (by kernel_rfl) (by kernel_rfl) (by kernel_rfl) (fun _ _ _ h => h) (Or.inl ⟨by kernel_rfl, ?_⟩) (by assumption) ?_
   rotate_left
   ·((intro w hSw; go_simp) <;> with_reducible rfl)
   try simp only [Act.put, List.setIfInBounds_toArray, List.set_cons_zero, List.set_cons_succ]
   refine Rk.takeP (i := 4) (v := ?_) rfl (by kernel_rfl) (by kernel_rfl) (by kernel_rfl) (by kernel_rfl) (fun _ _ _ h => h) (Or.inl ⟨by kernel_rfl, ?_⟩) (by assumption) ?_
   rotate_left
   ·((intro w hSw; go_simp) <;> with_reducible rfl)
   try simp only [Act.put, List.setIfInBounds_toArray, List.set_cons_zero, List.set_cons_succ]
   refine Rk.take [15] (i := 5) (v := ?_) rfl (by kernel_rfl) (by kernel_rfl) (by kernel_rfl) (by kernel_rfl) (by kernel_rfl) (fun _ _ _ h => h) (Or.inl ⟨by kernel_rfl, ?_⟩) (by assumption) ?_
   rotate_left
   ·((intro w hSw; (try dsimp only at hSw); go_simp) <;> with_reducible rfl)
   try simp only [Act.put, List.setIfInBounds_toArray, List.set_cons_zero, List.set_cons_succ]
   refine Rk.takeP (i := 6) (v := ?_) rfl (by kernel_rfl) (by kernel_rfl) (by kernel_rfl) (by kernel_rfl) (fun _ _ _ h => h) (Or.inl ⟨by kernel_rfl, ?_⟩) (by assumption) ?_
   rotate_left
   ·((intro w hSw; go_simp) <;> with_reducible rfl)
   try simp only [Act.put, List.setIfInBounds_toArray, List.set_cons_zero, List.set_cons_succ]
   refine Rk.takeP (i := 7) (v := ?_) rfl (by kernel_rfl) (by kernel_rfl) (by kernel_rfl) (by kernel_rfl) (fun _ _ _ h => h) (Or.inl ⟨by kernel_rfl, ?_⟩) (by assumption) ?_
   rotate_left
   ·((intro w hSw; go_simp) <;> with_reducible rfl)
   try simp only [Act.put, List.setIfInBounds_toArray, List.set_cons_zero, List.set_cons_succ]
   refine Rk.takeP (i := 8) (v := ?_) rfl (by kernel_rfl) (by kernel_rfl) (by kernel_rfl) (by kernel_rfl) (fun _ _ _ h => h) (Or.inl ⟨by kernel_rfl, ?_⟩) (by assumption) ?_
   rotate_left
   ·((intro w hSw; go_simp) <;> with_reducible rfl)
   try simp only [Act.put, List.setIfInBounds_toArray, List.set_cons_zero, List.set_cons_succ]
   refine Rk.take [15] (i := 9) (v := ?_) rfl (by kernel_rfl) (by kernel_rfl) (by kernel_rfl) (by kernel_rfl) (by kernel_rfl) (fun _ _ _ h => h) (Or.inl ⟨by kernel_rfl, ?_⟩) (by assumption) ?_
   rotate_left
   ·((intro w hSw; (try dsimp only at hSw); go_simp) <;> with_reducible rfl)
   try simp only [Act.put, List.setIfInBounds_toArray, List.set_cons_zero, List.set_cons_succ]
   refine Rk.two (i := 10) (j := 14) (by kernel_rfl) rfl rfl (fun KK hK => ?_) (fun KK hK => ?_)
   ·rw [if_pos (by kernel_rfl)]
    go_simp
    ((with_reducible refine (AP.out _).mono ?_); rintro e uw10 ⟨rfl, hb⟩)
    have hNew := HS.out _ _ hHeld hb
    have hs_uw10 : wr.heap.size <= uw10.heap.size := by have hzz := hb.size; (try simp at hzz); omega
    first | (refine hK.out _ _ (fun _ => hNew) (fun _ => ?_)) | (refine hK.out _ _ hNew (fun _ => ?_)) | (go_wp2_with fail; refine hK.out _ _ hNew (fun _ => ?_))
    replace hHeld := hNew
    clear hNew hb
    clear hK KK
    refine Rk.takeP (i := 11) (v := ?_) rfl (by kernel_rfl) (by kernel_rfl) (by kernel_rfl) (by kernel_rfl) (fun _ _ _ h => h) (Or.inl ⟨by kernel_rfl, ?_⟩) (by assumption) ?_
    rotate_left
    ·((intro w hSw; go_simp) <;> with_reducible rfl)
    try simp only [Act.put, List.setIfInBounds_toArray, List.set_cons_zero, List.set_cons_succ]
    refine Rk.takeP (i := 12) (v := ?_) rfl (by kernel_rfl) (by kernel_rfl) (by kernel_rfl) (by kernel_rfl) (fun _ _ _ h => h) (Or.inl ⟨by kernel_rfl, ?_⟩) (by assumption) ?_
    rotate_left
    ·((intro w hSw; go_simp) <;> with_reducible rfl)
    try simp only [Act.put, List.setIfInBounds_toArray, List.set_cons_zero, List.set_cons_succ]
    refine Rk.takeP (i := 13) (v := ?_) rfl (by kernel_rfl) (by kernel_rfl) (by kernel_rfl) (by kernel_rfl) (fun _ _ _ h => h) (Or.inl ⟨by kernel_rfl, ?_⟩) (by assumption) ?_
    rotate_left
    ·((intro w hSw; go_simp) <;> with_reducible rfl)
    try simp only [Act.put, List.setIfInBounds_toArray, List.set_cons_zero, List.set_cons_succ]
    refine Rk.one (i := 14) (by kernel_rfl) rfl (fun KK hK => ?_)
    rw [if_pos (by kernel_rfl)]
    go_simp
    have hNew := HS.out _ _ hHeld ((Below.refl _ _).alloc (Nat.le_refl _) (Obj.cells #[Value.int .i64 0, Value.int .i64 0] 29))
    refine hK.out _ _ hNew (fun _ => ?_)
    replace hHeld := hNew
    clear hNew
    clear hK KK
    refine Rk.tail [15, 16] [_, _] (by kernel_rfl) (by kernel_rfl) rfl (by decide) ?_
    obtain ⟨t0, t1, t2, t3, t4, v0, v1, x0, x1, y0, y1, KC⟩ := hHeld
    have m0 : (uw10.alloc (Obj.cells #[Value.int .i64 0, Value.int .i64 0] 29)).cell? ⟨uw10.heap.size, 0, none⟩ = some (.int .i64 0) := by go_cell
    have fm0 : (uw10.alloc (Obj.cells #[Value.int .i64 0, Value.int .i64 0] 29)).frozen? ⟨uw10.heap.size, 0, none⟩ = false := by simp only [frozen?_alloc_cells]; exact Rg.notFrozen (Nat.le_refl _)
    have m1 : (uw10.alloc (Obj.cells #[Value.int .i64 0, Value.int .i64 0] 29)).cell? ⟨uw10.heap.size, 1, none⟩ = some (.int .i64 0) := by go_cell
    have fm1 : (uw10.alloc (Obj.cells #[Value.int .i64 0, Value.int .i64 0] 29)).frozen? ⟨uw10.heap.size, 1, none⟩ = false := by simp only [frozen?_alloc_cells]; exact Rg.notFrozen (Nat.le_refl _)
    generalize (uw10.alloc (Obj.cells #[Value.int .i64 0, Value.int .i64 0] 29)) = gw at *
    have lm : uw10.heap.size < gw.heap.size := World.block_lt_of_cell? _ _ m0
    have lw : wr.heap.size <= uw10.heap.size := by omega
    have ne0 : uw10.heap.size ≠ w.heap.size := by omega
    have ne1 : uw10.heap.size ≠ g := by omega
    have lo0 : w.heap.size < gw.heap.size := by omega
    have lo1 : g < gw.heap.size := by omega
    by_cases hz : f3 = 0
    ·subst hz
     have hst : runE (fop K B F R O) (r1, r2) (L.drop (k + 1)) = ER := by rw [<- hER.out, hdr.out, runE_cons, hq.out]; rfl
     have hsv : X ++ [(r1, r2)] ++ run (fop K B F R O) (r1, r2) (L.drop (k + 1)) = S := by rw [<- hS.out, hdr.out, run_cons, hq.out]; simp
     have hrr := Lib.hid (And.intro hst hsv)
     clear hst hsv hER hS hdr hq AP
     go_wp2_with fail
     have t0 : ((gw.setCell ⟨uw10.heap.size, 0, none⟩ (.int .i64 r1)).setCell ⟨uw10.heap.size, 1, none⟩ (.int .i64 r2)).cell? ⟨w.heap.size, 0, none⟩ = some (.int .i64 K) := Rg.far ne0 t0
     have t1 : ((gw.setCell ⟨uw10.heap.size, 0, none⟩ (.int .i64 r1)).setCell ⟨uw10.heap.size, 1, none⟩ (.int .i64 r2)).cell? ⟨w.heap.size, 1, none⟩ = some (.int .i64 B) := Rg.far ne0 t1
     have t2 : ((gw.setCell ⟨uw10.heap.size, 0, none⟩ (.int .i64 r1)).setCell ⟨uw10.heap.size, 1, none⟩ (.int .i64 r2)).cell? ⟨w.heap.size, 2, none⟩ = some (.int .i64 F) := Rg.far ne0 t2
     have t3 : ((gw.setCell ⟨uw10.heap.size, 0, none⟩ (.int .i64 r1)).setCell ⟨uw10.heap.size, 1, none⟩ (.int .i64 r2)).cell? ⟨w.heap.size, 3, none⟩ = some (.int .i64 R) := Rg.far ne0 t3
     have t4 : ((gw.setCell ⟨uw10.heap.size, 0, none⟩ (.int .i64 r1)).setCell ⟨uw10.heap.size, 1, none⟩ (.int .i64 r2)).cell? ⟨w.heap.size, 4, none⟩ = some (.int .i64 O) := Rg.far ne0 t4
     have v0 : ((gw.setCell ⟨uw10.heap.size, 0, none⟩ (.int .i64 r1)).setCell ⟨uw10.heap.size, 1, none⟩ (.int .i64 r2)).cell? ⟨g, j * 2, none⟩ = some (.int .i64 v.1) := Rg.far ne1 v0
     have v1 : ((gw.setCell ⟨uw10.heap.size, 0, none⟩ (.int .i64 r1)).setCell ⟨uw10.heap.size, 1, none⟩ (.int .i64 r2)).cell? ⟨g, j * 2 + 1, none⟩ = some (.int .i64 v.2) := Rg.far ne1 v1
     have x0 : ((gw.setCell ⟨uw10.heap.size, 0, none⟩ (.int .i64 r1)).setCell ⟨uw10.heap.size, 1, none⟩ (.int .i64 r2)).cell? ⟨g, k * 2, none⟩ = some (.int .i64 x.1) := Rg.far ne1 x0
     have x1 : ((gw.setCell ⟨uw10.heap.size, 0, none⟩ (.int .i64 r1)).setCell ⟨uw10.heap.size, 1, none⟩ (.int .i64 r2)).cell? ⟨g, k * 2 + 1, none⟩ = some (.int .i64 x.2) := Rg.far ne1 x1
     have y0 : ((gw.setCell ⟨uw10.heap.size, 0, none⟩ (.int .i64 r1)).setCell ⟨uw10.heap.size, 1, none⟩ (.int .i64 r2)).frozen? ⟨g, k * 2, none⟩ = false := by simpa [World.frozen?_setCell] using y0
     have y1 : ((gw.setCell ⟨uw10.heap.size, 0, none⟩ (.int .i64 r1)).setCell ⟨uw10.heap.size, 1, none⟩ (.int .i64 r2)).frozen? ⟨g, k * 2 + 1, none⟩ = false := by simpa [World.frozen?_setCell] using y1
     have hst := st2 (x := .int .i64 r1) (y := .int .i64 r2) m0 m1
     obtain ⟨s0, s1⟩ := hst
     have KS : Below wr.heap.size wr ((gw.setCell ⟨uw10.heap.size, 0, none⟩ (.int .i64 r1)).setCell ⟨uw10.heap.size, 1, none⟩ (.int .i64 r2)) := (Below.setCell (Below.setCell KC (by dsimp only; omega) _) (by dsimp only; omega) _)
     have lm : uw10.heap.size < ((gw.setCell ⟨uw10.heap.size, 0, none⟩ (.int .i64 r1)).setCell ⟨uw10.heap.size, 1, none⟩ (.int .i64 r2)).heap.size := World.block_lt_of_cell? _ _ s0
     have lo0 : w.heap.size < ((gw.setCell ⟨uw10.heap.size, 0, none⟩ (.int .i64 r1)).setCell ⟨uw10.heap.size, 1, none⟩ (.int .i64 r2)).heap.size := by simp; omega
     have lo1 : g < ((gw.setCell ⟨uw10.heap.size, 0, none⟩ (.int .i64 r1)).setCell ⟨uw10.heap.size, 1, none⟩ (.int .i64 r2)).heap.size := by simp; omega
     clear KC m0 fm0 m1 fm1
     generalize ((gw.setCell ⟨uw10.heap.size, 0, none⟩ (.int .i64 r1)).setCell ⟨uw10.heap.size, 1, none⟩ (.int .i64 r2)) = gs at *
     have HO2 := Lib.hid (own_belowE HOr.out KS)
     have hgg : g < gs.heap.size := World.block_lt_of_cell? _ _ x0
     go_roundw
     case rel =>
      refine ⟨k + 1, k, X ++ [(r1, r2)], (r1, r2), by simp, rfl, by omega, by rw [List.length_append, hXl]; rfl, getD_appR hXl _ _, Lib.hid hrr.out.2, Lib.hid hrr.out.1, ?_, ?_, ?_⟩
      ·have h5 := row_two HO2.out HLL.out hkn r1 r2
       rw [hdr2.out, set_app hXl] at h5
       rw [List.append_assoc, List.singleton_append]
       exact Lib.hid h5
      ·exact Lib.hid ⟨far2o hgw' t0, far2o hgw' t1, far2o hgw' t2, far2o hgw' t3, far2o hgw' t4⟩
      ·exact (((hB.out.trans (KS.mono (by omega))).setCell (p := ⟨g, k * 2, none⟩) (Nat.le_refl _) _).setCell (p := ⟨g, k * 2 + 1, none⟩) (Nat.le_refl _) _) |> Lib.hid
     case measure => simp [intOf]; omega
    ·have hE : ER = f3 := by rw [<- hER.out, hdr.out, runE_cons, hq.out, if_pos hz]
     have z1 : (f3 != 0) = true := by simpa using hz
     have z2 : (f3 == 0) = false := by simpa using hz
     have HE := Lib.hid hE
     have HZ := Lib.hid hz
     clear hER hS hdr hq hE AP hz
     go_wp2_with fail
     have t0 : ((gw.setCell ⟨uw10.heap.size, 0, none⟩ (.int .i64 r1)).setCell ⟨uw10.heap.size, 1, none⟩ (.int .i64 r2)).cell? ⟨w.heap.size, 0, none⟩ = some (.int .i64 K) := Rg.far ne0 t0
     have t1 : ((gw.setCell ⟨uw10.heap.size, 0, none⟩ (.int .i64 r1)).setCell ⟨uw10.heap.size, 1, none⟩ (.int .i64 r2)).cell? ⟨w.heap.size, 1, none⟩ = some (.int .i64 B) := Rg.far ne0 t1
     have t2 : ((gw.setCell ⟨uw10.heap.size, 0, none⟩ (.int .i64 r1)).setCell ⟨uw10.heap.size, 1, none⟩ (.int .i64 r2)).cell? ⟨w.heap.size, 2, none⟩ = some (.int .i64 F) := Rg.far ne0 t2
     have t3 : ((gw.setCell ⟨uw10.heap.size, 0, none⟩ (.int .i64 r1)).setCell ⟨uw10.heap.size, 1, none⟩ (.int .i64 r2)).cell? ⟨w.heap.size, 3, none⟩ = some (.int .i64 R) := Rg.far ne0 t3
     have t4 : ((gw.setCell ⟨uw10.heap.size, 0, none⟩ (.int .i64 r1)).setCell ⟨uw10.heap.size, 1, none⟩ (.int .i64 r2)).cell? ⟨w.heap.size, 4, none⟩ = some (.int .i64 O) := Rg.far ne0 t4
     have v0 : ((gw.setCell ⟨uw10.heap.size, 0, none⟩ (.int .i64 r1)).setCell ⟨uw10.heap.size, 1, none⟩ (.int .i64 r2)).cell? ⟨g, j * 2, none⟩ = some (.int .i64 v.1) := Rg.far ne1 v0
     have v1 : ((gw.setCell ⟨uw10.heap.size, 0, none⟩ (.int .i64 r1)).setCell ⟨uw10.heap.size, 1, none⟩ (.int .i64 r2)).cell? ⟨g, j * 2 + 1, none⟩ = some (.int .i64 v.2) := Rg.far ne1 v1
     have x0 : ((gw.setCell ⟨uw10.heap.size, 0, none⟩ (.int .i64 r1)).setCell ⟨uw10.heap.size, 1, none⟩ (.int .i64 r2)).cell? ⟨g, k * 2, none⟩ = some (.int .i64 x.1) := Rg.far ne1 x0
     have x1 : ((gw.setCell ⟨uw10.heap.size, 0, none⟩ (.int .i64 r1)).setCell ⟨uw10.heap.size, 1, none⟩ (.int .i64 r2)).cell? ⟨g, k * 2 + 1, none⟩ = some (.int .i64 x.2) := Rg.far ne1 x1
     have y0 : ((gw.setCell ⟨uw10.heap.size, 0, none⟩ (.int .i64 r1)).setCell ⟨uw10.heap.size, 1, none⟩ (.int .i64 r2)).frozen? ⟨g, k * 2, none⟩ = false := by simpa [World.frozen?_setCell] using y0
     have y1 : ((gw.setCell ⟨uw10.heap.size, 0, none⟩ (.int .i64 r1)).setCell ⟨uw10.heap.size, 1, none⟩ (.int .i64 r2)).frozen? ⟨g, k * 2 + 1, none⟩ = false := by simpa [World.frozen?_setCell] using y1
     have hst := st2 (x := .int .i64 r1) (y := .int .i64 r2) m0 m1
     obtain ⟨s0, s1⟩ := hst
     have KS : Below wr.heap.size wr ((gw.setCell ⟨uw10.heap.size, 0, none⟩ (.int .i64 r1)).setCell ⟨uw10.heap.size, 1, none⟩ (.int .i64 r2)) := (Below.setCell (Below.setCell KC (by dsimp only; omega) _) (by dsimp only; omega) _)
     have lm : uw10.heap.size < ((gw.setCell ⟨uw10.heap.size, 0, none⟩ (.int .i64 r1)).setCell ⟨uw10.heap.size, 1, none⟩ (.int .i64 r2)).heap.size := World.block_lt_of_cell? _ _ s0
     have lo0 : w.heap.size < ((gw.setCell ⟨uw10.heap.size, 0, none⟩ (.int .i64 r1)).setCell ⟨uw10.heap.size, 1, none⟩ (.int .i64 r2)).heap.size := by simp; omega
     have lo1 : g < ((gw.setCell ⟨uw10.heap.size, 0, none⟩ (.int .i64 r1)).setCell ⟨uw10.heap.size, 1, none⟩ (.int .i64 r2)).heap.size := by simp; omega
     clear KC m0 fm0 m1 fm1
     generalize ((gw.setCell ⟨uw10.heap.size, 0, none⟩ (.int .i64 r1)).setCell ⟨uw10.heap.size, 1, none⟩ (.int .i64 r2)) = gs at *
     go_ret
     exact ⟨by rw [HE.out]; rfl, hB.out.trans (KS.mono (by omega)), fun h0 => absurd (HE.out.symm.trans h0) HZ.out⟩
   ·rw [if_pos (by kernel_rfl)]
    go_simp
    have hNew := HS.out _ _ hHeld ((Below.refl _ _).alloc (Nat.le_refl _) (Obj.cells #[Value.int .i64 0, Value.int .i64 0] 29))
    refine hK.out _ _ hNew (fun _ => ?_)
    replace hHeld := hNew
    clear hNew
    clear hK KK
    refine Rk.one (i := 10) (by kernel_rfl) rfl (fun KK hK => ?_)
    rw [if_pos (by kernel_rfl)]
    go_simp
    ((with_reducible refine (AP.out _).mono ?_); rintro e uw10 ⟨rfl, hb⟩)
    have hNew := HS.out _ _ hHeld hb
    have hs_uw10 : wr.heap.size <= uw10.heap.size := by have hzz := hb.size; (try simp at hzz); omega
    have m0 : uw10.cell? ⟨wr.heap.size, 0, none⟩ = some (.int .i64 0) := Rg.keep hb (by simp) (by go_cell)
    have fm0 : uw10.frozen? ⟨wr.heap.size, 0, none⟩ = false := Rg.keepF hb (by simp) (by show (wr.drew.alloc (Obj.cells #[Value.int .i64 0, Value.int .i64 0] 29)).frozen? ⟨wr.drew.heap.size, 0, none⟩ = false; simp only [frozen?_alloc_cells]; exact Rg.notFrozen (Nat.le_refl _))
    have m1 : uw10.cell? ⟨wr.heap.size, 1, none⟩ = some (.int .i64 0) := Rg.keep hb (by simp) (by go_cell)
    have fm1 : uw10.frozen? ⟨wr.heap.size, 1, none⟩ = false := Rg.keepF hb (by simp) (by show (wr.drew.alloc (Obj.cells #[Value.int .i64 0, Value.int .i64 0] 29)).frozen? ⟨wr.drew.heap.size, 1, none⟩ = false; simp only [frozen?_alloc_cells]; exact Rg.notFrozen (Nat.le_refl _))
    first | (refine hK.out _ _ (fun _ => hNew) (fun _ => ?_)) | (refine hK.out _ _ hNew (fun _ => ?_)) | (go_wp2_with fail; refine hK.out _ _ hNew (fun _ => ?_))
    replace hHeld := hNew
    clear hNew hb
    clear hK KK
    refine Rk.takeP (i := 11) (v := ?_) rfl (by kernel_rfl) (by kernel_rfl) (by kernel_rfl) (by kernel_rfl) (fun _ _ _ h => h) (Or.inl ⟨by kernel_rfl, ?_⟩) (by assumption) ?_
    rotate_left
    ·((intro w hSw; go_simp) <;> with_reducible rfl)
    try simp only [Act.put, List.setIfInBounds_toArray, List.set_cons_zero, List.set_cons_succ]
    refine Rk.takeP (i := 12) (v := ?_) rfl (by kernel_rfl) (by kernel_rfl) (by kernel_rfl) (by kernel_rfl) (fun _ _ _ h => h) (Or.inl ⟨by kernel_rfl, ?_⟩) (by assumption) ?_
    rotate_left
    ·((intro w hSw; go_simp) <;> with_reducible rfl)
    try simp only [Act.put, List.setIfInBounds_toArray, List.set_cons_zero, List.set_cons_succ]
    refine Rk.takeP (i := 13) (v := ?_) rfl (by kernel_rfl) (by kernel_rfl) (by kernel_rfl) (by kernel_rfl) (fun _ _ _ h => h) (Or.inl ⟨by kernel_rfl, ?_⟩) (by assumption) ?_
    rotate_left
    ·((intro w hSw; go_simp) <;> with_reducible rfl)
    try simp only [Act.put, List.setIfInBounds_toArray, List.set_cons_zero, List.set_cons_succ]
    refine Rk.tail [15, 16] [_, _] (by kernel_rfl) (by kernel_rfl) rfl (by decide) ?_
    obtain ⟨t0, t1, t2, t3, t4, v0, v1, x0, x1, y0, y1, KC⟩ := hHeld
    have lm : wr.heap.size < uw10.heap.size := World.block_lt_of_cell? _ _ m0
    have lw : wr.heap.size <= wr.heap.size := by omega
    have ne0 : wr.heap.size ≠ w.heap.size := by omega
    have ne1 : wr.heap.size ≠ g := by omega
    have lo0 : w.heap.size < uw10.heap.size := by omega
    have lo1 : g < uw10.heap.size := by omega
    by_cases hz : f3 = 0
    ·subst hz
     have hst : runE (fop K B F R O) (r1, r2) (L.drop (k + 1)) = ER := by rw [<- hER.out, hdr.out, runE_cons, hq.out]; rfl
     have hsv : X ++ [(r1, r2)] ++ run (fop K B F R O) (r1, r2) (L.drop (k + 1)) = S := by rw [<- hS.out, hdr.out, run_cons, hq.out]; simp
     have hrr := Lib.hid (And.intro hst hsv)
     clear hst hsv hER hS hdr hq AP
     go_wp2_with fail
     have t0 : ((uw10.setCell ⟨wr.heap.size, 0, none⟩ (.int .i64 r1)).setCell ⟨wr.heap.size, 1, none⟩ (.int .i64 r2)).cell? ⟨w.heap.size, 0, none⟩ = some (.int .i64 K) := Rg.far ne0 t0
     have t1 : ((uw10.setCell ⟨wr.heap.size, 0, none⟩ (.int .i64 r1)).setCell ⟨wr.heap.size, 1, none⟩ (.int .i64 r2)).cell? ⟨w.heap.size, 1, none⟩ = some (.int .i64 B) := Rg.far ne0 t1
     have t2 : ((uw10.setCell ⟨wr.heap.size, 0, none⟩ (.int .i64 r1)).setCell ⟨wr.heap.size, 1, none⟩ (.int .i64 r2)).cell? ⟨w.heap.size, 2, none⟩ = some (.int .i64 F) := Rg.far ne0 t2
     have t3 : ((uw10.setCell ⟨wr.heap.size, 0, none⟩ (.int .i64 r1)).setCell ⟨wr.heap.size, 1, none⟩ (.int .i64 r2)).cell? ⟨w.heap.size, 3, none⟩ = some (.int .i64 R) := Rg.far ne0 t3
     have t4 : ((uw10.setCell ⟨wr.heap.size, 0, none⟩ (.int .i64 r1)).setCell ⟨wr.heap.size, 1, none⟩ (.int .i64 r2)).cell? ⟨w.heap.size, 4, none⟩ = some (.int .i64 O) := Rg.far ne0 t4
     have v0 : ((uw10.setCell ⟨wr.heap.size, 0, none⟩ (.int .i64 r1)).setCell ⟨wr.heap.size, 1, none⟩ (.int .i64 r2)).cell? ⟨g, j * 2, none⟩ = some (.int .i64 v.1) := Rg.far ne1 v0
     have v1 : ((uw10.setCell ⟨wr.heap.size, 0, none⟩ (.int .i64 r1)).setCell ⟨wr.heap.size, 1, none⟩ (.int .i64 r2)).cell? ⟨g, j * 2 + 1, none⟩ = some (.int .i64 v.2) := Rg.far ne1 v1
     have x0 : ((uw10.setCell ⟨wr.heap.size, 0, none⟩ (.int .i64 r1)).setCell ⟨wr.heap.size, 1, none⟩ (.int .i64 r2)).cell? ⟨g, k * 2, none⟩ = some (.int .i64 x.1) := Rg.far ne1 x0
     have x1 : ((uw10.setCell ⟨wr.heap.size, 0, none⟩ (.int .i64 r1)).setCell ⟨wr.heap.size, 1, none⟩ (.int .i64 r2)).cell? ⟨g, k * 2 + 1, none⟩ = some (.int .i64 x.2) := Rg.far ne1 x1
     have y0 : ((uw10.setCell ⟨wr.heap.size, 0, none⟩ (.int .i64 r1)).setCell ⟨wr.heap.size, 1, none⟩ (.int .i64 r2)).frozen? ⟨g, k * 2, none⟩ = false := by simpa [World.frozen?_setCell] using y0
     have y1 : ((uw10.setCell ⟨wr.heap.size, 0, none⟩ (.int .i64 r1)).setCell ⟨wr.heap.size, 1, none⟩ (.int .i64 r2)).frozen? ⟨g, k * 2 + 1, none⟩ = false := by simpa [World.frozen?_setCell] using y1
     have hst := st2 (x := .int .i64 r1) (y := .int .i64 r2) m0 m1
     obtain ⟨s0, s1⟩ := hst
     have KS : Below wr.heap.size wr ((uw10.setCell ⟨wr.heap.size, 0, none⟩ (.int .i64 r1)).setCell ⟨wr.heap.size, 1, none⟩ (.int .i64 r2)) := (Below.setCell (Below.setCell KC (by dsimp only; omega) _) (by dsimp only; omega) _)
     have lm : wr.heap.size < ((uw10.setCell ⟨wr.heap.size, 0, none⟩ (.int .i64 r1)).setCell ⟨wr.heap.size, 1, none⟩ (.int .i64 r2)).heap.size := World.block_lt_of_cell? _ _ s0
     have lo0 : w.heap.size < ((uw10.setCell ⟨wr.heap.size, 0, none⟩ (.int .i64 r1)).setCell ⟨wr.heap.size, 1, none⟩ (.int .i64 r2)).heap.size := by simp; omega
     have lo1 : g < ((uw10.setCell ⟨wr.heap.size, 0, none⟩ (.int .i64 r1)).setCell ⟨wr.heap.size, 1, none⟩ (.int .i64 r2)).heap.size := by simp; omega
     clear KC m0 fm0 m1 fm1
     generalize ((uw10.setCell ⟨wr.heap.size, 0, none⟩ (.int .i64 r1)).setCell ⟨wr.heap.size, 1, none⟩ (.int .i64 r2)) = gs at *
     have HO2 := Lib.hid (own_belowE HOr.out KS)
     have hgg : g < gs.heap.size := World.block_lt_of_cell? _ _ x0
     go_roundw
     case rel =>
      refine ⟨k + 1, k, X ++ [(r1, r2)], (r1, r2), by simp, rfl, by omega, by rw [List.length_append, hXl]; rfl, getD_appR hXl _ _, Lib.hid hrr.out.2, Lib.hid hrr.out.1, ?_, ?_, ?_⟩
      ·have h5 := row_two HO2.out HLL.out hkn r1 r2
       rw [hdr2.out, set_app hXl] at h5
       rw [List.append_assoc, List.singleton_append]
       exact Lib.hid h5
      ·exact Lib.hid ⟨far2o hgw' t0, far2o hgw' t1, far2o hgw' t2, far2o hgw' t3, far2o hgw' t4⟩
      ·exact (((hB.out.trans (KS.mono (by omega))).setCell (p := ⟨g, k * 2, none⟩) (Nat.le_refl _) _).setCell (p := ⟨g, k * 2 + 1, none⟩) (Nat.le_refl _) _) |> Lib.hid
     case measure => simp [intOf]; omega
    ·have hE : ER = f3 := by rw [<- hER.out, hdr.out, runE_cons, hq.out, if_pos hz]
     have z1 : (f3 != 0) = true := by simpa using hz
     have z2 : (f3 == 0) = false := by simpa using hz
     have HE := Lib.hid hE
     have HZ := Lib.hid hz
     clear hER hS hdr hq hE AP hz
     go_wp2_with fail
     have t0 : ((uw10.setCell ⟨wr.heap.size, 0, none⟩ (.int .i64 r1)).setCell ⟨wr.heap.size, 1, none⟩ (.int .i64 r2)).cell? ⟨w.heap.size, 0, none⟩ = some (.int .i64 K) := Rg.far ne0 t0
     have t1 : ((uw10.setCell ⟨wr.heap.size, 0, none⟩ (.int .i64 r1)).setCell ⟨wr.heap.size, 1, none⟩ (.int .i64 r2)).cell? ⟨w.heap.size, 1, none⟩ = some (.int .i64 B) := Rg.far ne0 t1
     have t2 : ((uw10.setCell ⟨wr.heap.size, 0, none⟩ (.int .i64 r1)).setCell ⟨wr.heap.size, 1, none⟩ (.int .i64 r2)).cell? ⟨w.heap.size, 2, none⟩ = some (.int .i64 F) := Rg.far ne0 t2
     have t3 : ((uw10.setCell ⟨wr.heap.size, 0, none⟩ (.int .i64 r1)).setCell ⟨wr.heap.size, 1, none⟩ (.int .i64 r2)).cell? ⟨w.heap.size, 3, none⟩ = some (.int .i64 R) := Rg.far ne0 t3
     have t4 : ((uw10.setCell ⟨wr.heap.size, 0, none⟩ (.int .i64 r1)).setCell ⟨wr.heap.size, 1, none⟩ (.int .i64 r2)).cell? ⟨w.heap.size, 4, none⟩ = some (.int .i64 O) := Rg.far ne0 t4
     have v0 : ((uw10.setCell ⟨wr.heap.size, 0, none⟩ (.int .i64 r1)).setCell ⟨wr.heap.size, 1, none⟩ (.int .i64 r2)).cell? ⟨g, j * 2, none⟩ = some (.int .i64 v.1) := Rg.far ne1 v0
     have v1 : ((uw10.setCell ⟨wr.heap.size, 0, none⟩ (.int .i64 r1)).setCell ⟨wr.heap.size, 1, none⟩ (.int .i64 r2)).cell? ⟨g, j * 2 + 1, none⟩ = some (.int .i64 v.2) := Rg.far ne1 v1
     have x0 : ((uw10.setCell ⟨wr.heap.size, 0, none⟩ (.int .i64 r1)).setCell ⟨wr.heap.size, 1, none⟩ (.int .i64 r2)).cell? ⟨g, k * 2, none⟩ = some (.int .i64 x.1) := Rg.far ne1 x0
     have x1 : ((uw10.setCell ⟨wr.heap.size, 0, none⟩ (.int .i64 r1)).setCell ⟨wr.heap.size, 1, none⟩ (.int .i64 r2)).cell? ⟨g, k * 2 + 1, none⟩ = some (.int .i64 x.2) := Rg.far ne1 x1
     have y0 : ((uw10.setCell ⟨wr.heap.size, 0, none⟩ (.int .i64 r1)).setCell ⟨wr.heap.size, 1, none⟩ (.int .i64 r2)).frozen? ⟨g, k * 2, none⟩ = false := by simpa [World.frozen?_setCell] using y0
     have y1 : ((uw10.setCell ⟨wr.heap.size, 0, none⟩ (.int .i64 r1)).setCell ⟨wr.heap.size, 1, none⟩ (.int .i64 r2)).frozen? ⟨g, k * 2 + 1, none⟩ = false := by simpa [World.frozen?_setCell] using y1
     have hst := st2 (x := .int .i64 r1) (y := .int .i64 r2) m0 m1
     obtain ⟨s0, s1⟩ := hst
     have KS : Below wr.heap.size wr ((uw10.setCell ⟨wr.heap.size, 0, none⟩ (.int .i64 r1)).setCell ⟨wr.heap.size, 1, none⟩ (.int .i64 r2)) := (Below.setCell (Below.setCell KC (by dsimp only; omega) _) (by dsimp only; omega) _)
     have lm : wr.heap.size < ((uw10.setCell ⟨wr.heap.size, 0, none⟩ (.int .i64 r1)).setCell ⟨wr.heap.size, 1, none⟩ (.int .i64 r2)).heap.size := World.block_lt_of_cell? _ _ s0
     have lo0 : w.heap.size < ((uw10.setCell ⟨wr.heap.size, 0, none⟩ (.int .i64 r1)).setCell ⟨wr.heap.size, 1, none⟩ (.int .i64 r2)).heap.size := by simp; omega
     have lo1 : g < ((uw10.setCell ⟨wr.heap.size, 0, none⟩ (.int .i64 r1)).setCell ⟨wr.heap.size, 1, none⟩ (.int .i64 r2)).heap.size := by simp; omega
     clear KC m0 fm0 m1 fm1
     generalize ((uw10.setCell ⟨wr.heap.size, 0, none⟩ (.int .i64 r1)).setCell ⟨wr.heap.size, 1, none⟩ (.int .i64 r2)) = gs at *
     go_ret
     exact ⟨by rw [HE.out]; rfl, hB.out.trans (KS.mono (by omega)), fun h0 => absurd (HE.out.symm.trans h0) HZ.out⟩
  ·have ej : k = n := by omega
   have HS9 : Hid (X = S) := Lib.hid (by rw [<- hS.out, List.drop_of_length_le (by rw [HL.out]; omega)]; exact (List.append_nil X).symm)
   have HE9 : Hid (0 = ER) := Lib.hid (by rw [<- hER.out, List.drop_of_length_le (by rw [HL.out]; omega)]; rfl)
   have HO9 : Hid (wr.ownsRow Bs 29 2 (.slice (some ⟨g, 0, none⟩) n c) n (flV X)) := Lib.hid (by
    have h := HOr.out
    rw [List.drop_of_length_le (by rw [HL.out]; omega), List.append_nil] at h
    exact h)
   have g1 : decide ((k : Int) < n) = false := by simp; omega
   have g2 : (n : Int) <= k := by omega
   clear hS hER HOr HTr hXv hXl hkj ej hkn1 hkn
   go_wp2_with fail
   go_ret
   exact ⟨by rw [HE9.out]; rfl, hB.out, fun _ => by rw [<- HS9.out]; exact HO9.out⟩
end Go.Proofs.YteaaikmejacpaaaGreatDoor.Te


namespace Go.Proofs.YteaaikmejacpaaaGreatDoor.Te
open Go.ChangeShapes Go.WideShapes Go.ChangeAt Go.RowKit
open Fx Va Sh
set_option maxRecDepth 8000
set_option linter.unusedVariables false
set_option linter.unusedSimpArgs false

theorem grown_put {w : World} {g n : Nat} (d : Array Int) : w.grownBy (Go.Sort.putRow (Value.int .i64) (Go.Sort.ahead w n) g 0 d) (some g) := by
 refine ⟨rfl, rfl, rfl, by simp [Go.Sort.ahead], fun k hk hne => ?_⟩
 have : g ≠ k := fun e => hne (by rw [e])
 simp [Go.Sort.putRow, Go.Sort.mapBlock, Go.Sort.ahead, Array.getElem?_modify, this]

/-- A block of seven cells that may be stored to. -/
def B7 (u : World) (b : Nat) (x0 x1 x2 x3 x4 x5 x6 : Value) : Prop := (u.cell? ⟨b, 0, none⟩ = some x0 /\ u.cell? ⟨b, 1, none⟩ = some x1 /\ u.cell? ⟨b, 2, none⟩ = some x2 /\ u.cell? ⟨b, 3, none⟩ = some x3 /\ u.cell? ⟨b, 4, none⟩ = some x4 /\ u.cell? ⟨b, 5, none⟩ = some x5 /\ u.cell? ⟨b, 6, none⟩ = some x6) /\ (u.frozen? ⟨b, 0, none⟩ = false /\ u.frozen? ⟨b, 1, none⟩ = false /\ u.frozen? ⟨b, 2, none⟩ = false /\ u.frozen? ⟨b, 3, none⟩ = false /\ u.frozen? ⟨b, 4, none⟩ = false /\ u.frozen? ⟨b, 5, none⟩ = false /\ u.frozen? ⟨b, 6, none⟩ = false)
section
variable {u u' : World} {b r o Bd : Nat} {x0 x1 x2 x3 x4 x5 x6 y0 y1 y2 y3 y4 y5 y6 v : Value}
theorem B7.lt (h : B7 u b x0 x1 x2 x3 x4 x5 x6) : b < u.heap.size := World.block_lt_of_cell? _ _ h.1.1
theorem B7.same (hc : ∀ o, u'.cell? ⟨b, o, none⟩ = u.cell? ⟨b, o, none⟩) (hf : ∀ o, u'.frozen? ⟨b, o, none⟩ = u.frozen? ⟨b, o, none⟩) (h : B7 u b x0 x1 x2 x3 x4 x5 x6) : B7 u' b x0 x1 x2 x3 x4 x5 x6 := by
 obtain ⟨⟨c0, c1, c2, c3, c4, c5, c6⟩, ⟨f0, f1, f2, f3, f4, f5, f6⟩⟩ := h
 exact ⟨⟨(hc 0).trans c0, (hc 1).trans c1, (hc 2).trans c2, (hc 3).trans c3, (hc 4).trans c4, (hc 5).trans c5, (hc 6).trans c6⟩, ⟨(hf 0).trans f0, (hf 1).trans f1, (hf 2).trans f2, (hf 3).trans f3, (hf 4).trans f4, (hf 5).trans f5, (hf 6).trans f6⟩⟩
theorem B7.keep (hb : Below Bd u u') (hlt : b < Bd) (h : B7 u b x0 x1 x2 x3 x4 x5 x6) : B7 u' b x0 x1 x2 x3 x4 x5 x6 :=
 h.same (fun o' => World.cell?_of_block (hb.block b hlt)) (fun o' => World.frozen?_of_block (hb.block b hlt))
theorem B7.far (hr : r ≠ b) (h : B7 u b x0 x1 x2 x3 x4 x5 x6) : B7 (u.setCell ⟨r, o, none⟩ v) b x0 x1 x2 x3 x4 x5 x6 := h.same (fun o' => World.cell?_setCell_far _ _ _ _ hr) (fun o' => World.frozen?_setCell _ _ _ _)
theorem B7.grown {row : Option Nat} (hg : u.grownBy u' row) (hne : some b ≠ row) (h : B7 u b x0 x1 x2 x3 x4 x5 x6) : B7 u' b x0 x1 x2 x3 x4 x5 x6 :=
 h.same (fun o' => World.cell?_of_block (hg.block b h.lt hne)) (fun o' => World.frozen?_of_block (hg.block b h.lt hne))
theorem B7.alloc (ob : Obj) (h : B7 u b x0 x1 x2 x3 x4 x5 x6) : B7 (u.alloc ob) b x0 x1 x2 x3 x4 x5 x6 := h.keep ((Below.refl _ _).alloc (Nat.le_refl _) ob) h.lt
theorem B7.drew (h : B7 u b x0 x1 x2 x3 x4 x5 x6) : B7 u.drew b x0 x1 x2 x3 x4 x5 x6 := h
theorem B7.st (h : B7 u b x0 x1 x2 x3 x4 x5 x6) : B7 (((((((u.setCell ⟨b, 0, none⟩ y0).setCell ⟨b, 1, none⟩ y1).setCell ⟨b, 2, none⟩ y2).setCell ⟨b, 3, none⟩ y3).setCell ⟨b, 4, none⟩ y4).setCell ⟨b, 5, none⟩ y5).setCell ⟨b, 6, none⟩ y6) b y0 y1 y2 y3 y4 y5 y6 := by
 obtain ⟨⟨c0, c1, c2, c3, c4, c5, c6⟩, ⟨f0, f1, f2, f3, f4, f5, f6⟩⟩ := h
 refine ⟨⟨?_, ?_, ?_, ?_, ?_, ?_, ?_⟩, ⟨by simpa [World.frozen?_setCell] using f0, by simpa [World.frozen?_setCell] using f1, by simpa [World.frozen?_setCell] using f2, by simpa [World.frozen?_setCell] using f3, by simpa [World.frozen?_setCell] using f4, by simpa [World.frozen?_setCell] using f5, by simpa [World.frozen?_setCell] using f6⟩⟩
 ·rw [World.cell?_setCell_other _ _ _ _ (by simp), World.cell?_setCell_other _ _ _ _ (by simp), World.cell?_setCell_other _ _ _ _ (by simp), World.cell?_setCell_other _ _ _ _ (by simp), World.cell?_setCell_other _ _ _ _ (by simp), World.cell?_setCell_other _ _ _ _ (by simp)]
  exact World.cell?_setCell_same _ _ _ c0
 ·rw [World.cell?_setCell_other _ _ _ _ (by simp), World.cell?_setCell_other _ _ _ _ (by simp), World.cell?_setCell_other _ _ _ _ (by simp), World.cell?_setCell_other _ _ _ _ (by simp), World.cell?_setCell_other _ _ _ _ (by simp)]
  exact World.cell?_setCell_same _ _ _ ((World.cell?_setCell_other _ _ _ _ (by simp)).trans c1)
 ·rw [World.cell?_setCell_other _ _ _ _ (by simp), World.cell?_setCell_other _ _ _ _ (by simp), World.cell?_setCell_other _ _ _ _ (by simp), World.cell?_setCell_other _ _ _ _ (by simp)]
  exact World.cell?_setCell_same _ _ _ ((World.cell?_setCell_other _ _ _ _ (by simp)).trans ((World.cell?_setCell_other _ _ _ _ (by simp)).trans c2))
 ·rw [World.cell?_setCell_other _ _ _ _ (by simp), World.cell?_setCell_other _ _ _ _ (by simp), World.cell?_setCell_other _ _ _ _ (by simp)]
  exact World.cell?_setCell_same _ _ _ ((World.cell?_setCell_other _ _ _ _ (by simp)).trans ((World.cell?_setCell_other _ _ _ _ (by simp)).trans ((World.cell?_setCell_other _ _ _ _ (by simp)).trans c3)))
 ·rw [World.cell?_setCell_other _ _ _ _ (by simp), World.cell?_setCell_other _ _ _ _ (by simp)]
  exact World.cell?_setCell_same _ _ _ ((World.cell?_setCell_other _ _ _ _ (by simp)).trans ((World.cell?_setCell_other _ _ _ _ (by simp)).trans ((World.cell?_setCell_other _ _ _ _ (by simp)).trans ((World.cell?_setCell_other _ _ _ _ (by simp)).trans c4))))
 ·rw [World.cell?_setCell_other _ _ _ _ (by simp)]
  exact World.cell?_setCell_same _ _ _ ((World.cell?_setCell_other _ _ _ _ (by simp)).trans ((World.cell?_setCell_other _ _ _ _ (by simp)).trans ((World.cell?_setCell_other _ _ _ _ (by simp)).trans ((World.cell?_setCell_other _ _ _ _ (by simp)).trans ((World.cell?_setCell_other _ _ _ _ (by simp)).trans c5)))))
 ·exact World.cell?_setCell_same _ _ _ ((World.cell?_setCell_other _ _ _ _ (by simp)).trans ((World.cell?_setCell_other _ _ _ _ (by simp)).trans ((World.cell?_setCell_other _ _ _ _ (by simp)).trans ((World.cell?_setCell_other _ _ _ _ (by simp)).trans ((World.cell?_setCell_other _ _ _ _ (by simp)).trans ((World.cell?_setCell_other _ _ _ _ (by simp)).trans c6))))))
theorem B7.set6 (h : B7 u b x0 x1 x2 x3 x4 x5 x6) : B7 (u.setCell ⟨b, 6, none⟩ v) b x0 x1 x2 x3 x4 x5 v := by
 obtain ⟨⟨c0, c1, c2, c3, c4, c5, c6⟩, ⟨f0, f1, f2, f3, f4, f5, f6⟩⟩ := h
 exact ⟨⟨(World.cell?_setCell_other _ _ _ _ (by simp)).trans c0, (World.cell?_setCell_other _ _ _ _ (by simp)).trans c1, (World.cell?_setCell_other _ _ _ _ (by simp)).trans c2, (World.cell?_setCell_other _ _ _ _ (by simp)).trans c3, (World.cell?_setCell_other _ _ _ _ (by simp)).trans c4, (World.cell?_setCell_other _ _ _ _ (by simp)).trans c5, World.cell?_setCell_same _ _ _ c6⟩, ⟨(World.frozen?_setCell _ _ _ _).trans f0, (World.frozen?_setCell _ _ _ _).trans f1, (World.frozen?_setCell _ _ _ _).trans f2, (World.frozen?_setCell _ _ _ _).trans f3, (World.frozen?_setCell _ _ _ _).trans f4, (World.frozen?_setCell _ _ _ _).trans f5, (World.frozen?_setCell _ _ _ _).trans f6⟩⟩
end

theorem B7.new (u : World) (T : TypeId) (x0 x1 x2 x3 x4 x5 x6 : Value) : B7 (u.alloc (Obj.cells #[x0, x1, x2, x3, x4, x5, x6] T)) u.heap.size x0 x1 x2 x3 x4 x5 x6 := by
 refine ⟨⟨?_, ?_, ?_, ?_, ?_, ?_, ?_⟩, ⟨?_, ?_, ?_, ?_, ?_, ?_, ?_⟩⟩ <;> go_cell
theorem below_set7 {Bd : Nat} {u0 u : World} {r : Nat} {x0 x1 x2 x3 x4 x5 x6 : Value} (h : Below Bd u0 u) (hr : Bd <= r) : Below Bd u0 (((((((u.setCell ⟨r, 0, none⟩ x0).setCell ⟨r, 1, none⟩ x1).setCell ⟨r, 2, none⟩ x2).setCell ⟨r, 3, none⟩ x3).setCell ⟨r, 4, none⟩ x4).setCell ⟨r, 5, none⟩ x5).setCell ⟨r, 6, none⟩ x6) :=
 (((((((h.setCell (p := ⟨r, 0, none⟩) hr _).setCell (p := ⟨r, 1, none⟩) hr _).setCell (p := ⟨r, 2, none⟩) hr _).setCell (p := ⟨r, 3, none⟩) hr _).setCell (p := ⟨r, 4, none⟩) hr _).setCell (p := ⟨r, 5, none⟩) hr _).setCell (p := ⟨r, 6, none⟩) hr _)
theorem own_set7 {u : World} {base : Nat} {E : TypeId} {sz n r : Nat} {v : Value} {xs : List Value} {x0 x1 x2 x3 x4 x5 x6 : Value} (h : u.ownsRow base E sz v n xs) (hr : r < base) : (((((((u.setCell ⟨r, 0, none⟩ x0).setCell ⟨r, 1, none⟩ x1).setCell ⟨r, 2, none⟩ x2).setCell ⟨r, 3, none⟩ x3).setCell ⟨r, 4, none⟩ x4).setCell ⟨r, 5, none⟩ x5).setCell ⟨r, 6, none⟩ x6).ownsRow base E sz v n xs :=
 (own_set (own_set (own_set (own_set (own_set (own_set (own_set h hr) hr) hr) hr) hr) hr) hr)

/-- .. where the row lies elsewhere. -/
theorem own_far7 {u : World} {base : Nat} {E : TypeId} {sz n r : Nat} {v : Value} {xs : List Value} {x0 x1 x2 x3 x4 x5 x6 : Value} (h : u.ownsRow base E sz v n xs) (hr : v.ownBlock = none \/ v.ownBlock ≠ some r) : (((((((u.setCell ⟨r, 0, none⟩ x0).setCell ⟨r, 1, none⟩ x1).setCell ⟨r, 2, none⟩ x2).setCell ⟨r, 3, none⟩ x3).setCell ⟨r, 4, none⟩ x4).setCell ⟨r, 5, none⟩ x5).setCell ⟨r, 6, none⟩ x6).ownsRow base E sz v n xs :=
 (((((((h.kept grown_set hr).kept grown_set hr).kept grown_set hr).kept grown_set hr).kept grown_set hr).kept grown_set hr).kept grown_set hr)
theorem madeV (n : Nat) : (madeCells (Value.agg #[.int .i64 0, .int .i64 0]).cells (n * 2)).toList = flV (List.replicate n (0, 0)) := by
 apply List.ext_getElem?
 intro j
 by_cases hj : j < n * 2
 ·obtain ⟨k, hk⟩ : ∃ k, j = k * 2 \/ j = k * 2 + 1 := ⟨j / 2, by omega⟩
  have hk2 : k < (List.replicate n ((0 : Int), (0 : Int))).length := by rw [List.length_replicate]; omega
  obtain ⟨v0, v1⟩ := flV_get _ k hk2
  have e0 : (List.replicate n ((0 : Int), (0 : Int))).getD k (0, 0) = (0, 0) := by
   rw [List.getD_eq_getElem?_getD, List.getElem?_replicate]; split <;> rfl
  rw [e0] at v0 v1
  have hc : (Value.agg #[.int .i64 0, .int .i64 0]).cells = #[Value.int .i64 0, Value.int .i64 0] := by rfl
  rw [hc]
  rcases hk with rfl | rfl
  ·rw [v0]; simp [madeCells, hj]
  ·rw [v1]
   have hm : (k * 2 + 1) % 2 = 1 := by omega
   simp [madeCells, hj, hm]
 ·rw [List.getElem?_eq_none (by simp [madeCells]; omega), List.getElem?_eq_none (by rw [flV_len, List.length_replicate]; omega)]
theorem delG {w : World} {B g n c i : Nat} {zs : List Int} (h : w.ownsRow B 3 1 (.slice (some ⟨g, 0, none⟩) n c) n (zs.map (Value.int .i64))) (hi : i < n) (hg : B <= g) :
  Calls Tryz.prog 63 #[.slice (some ⟨g, 0, none⟩) n c, .int .i64 i, .int .i64 ((i : Int) + 1)] w fun e w' => e = .returned (.slice (some ⟨g, 0, none⟩) (n - 1) c) /\ w.grownBy w' (some g) /\ w'.ownsRow B 3 1 (.slice (some ⟨g, 0, none⟩) (n - 1) c) (n - 1) ((zs.take i ++ zs.drop (i + 1)).map (Value.int .i64)) := by
 obtain ⟨g1, c1, e, hb, hlt, hn, hm, hl, hh⟩ := Lib.holds_of_ownsRow h (by intro e; cases e)
 cases e
 have C := Tryz.slices_Delete_int g 0 c i (i + 1) zs w hh (by omega) (by unfold maxLen at hm; omega) (by omega) (by omega)
 rw [hl] at C
 rw [show ((i : Int) + 1) = ((i + 1 : Nat) : Int) from rfl]
 refine C.mono fun e w' hp => ?_
 obtain ⟨he, q, hw⟩ := hp
 rw [show n - (i + 1 - i) = n - 1 by omega] at he
 rw [show i + 1 - i = 1 by omega] at hw
 subst hw
 refine ⟨he, ?_, ?_⟩
 ·have hgb := grown_put (w := w) (g := g) (n := q) (zs.take i ++ zs.drop (i + 1) ++ List.replicate 1 0).toArray
  exact hgb
 ·have hlen : (zs.take i ++ zs.drop (i + 1)).length = n - 1 := by simp; omega
  have H := Lib.ownsRow_putRow (q := q) (k := n - 1) (ys := zs.take i ++ zs.drop (i + 1) ++ List.replicate 1 0) h (by rw [List.length_append, hlen]; simp; omega) (by omega)
  rw [show (zs.take i ++ zs.drop (i + 1) ++ List.replicate 1 (0 : Int)).take (n - 1) = zs.take i ++ zs.drop (i + 1) by rw [List.take_append_of_le_length (by omega), List.take_of_length_le (by omega)]] at H
  exact H
end Go.Proofs.YteaaikmejacpaaaGreatDoor.Te


namespace Go.Proofs.YteaaikmejacpaaaGreatDoor.Te
open Go.ChangeShapes Go.WideShapes Go.ChangeAt Go.RowKit
open Fx Va Sh
set_option maxRecDepth 8000
set_option linter.unusedVariables false
set_option linter.unusedSimpArgs false

end Go.Proofs.YteaaikmejacpaaaGreatDoor.Te
