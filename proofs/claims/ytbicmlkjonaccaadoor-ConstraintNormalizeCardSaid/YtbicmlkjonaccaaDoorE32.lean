/- The reference: Tighten of an equation that is not exact. -/
import Derived.Test.YtbicmlkjonaccaaDoorE30

namespace Go.Proofs.YtbicmlkjonaccaaDoor.Ln
open Go.ChangeShapes Go.WideShapes Go.ChangeAt Go.RowKit
open Go.Proofs.YtbicmlkjonaccaaDoor.Nm
set_option linter.unusedVariables false
set_option linter.unusedSimpArgs false
set_option maxRecDepth 8000

set_option maxRecDepth 100000 in
set_option maxHeartbeats 8000000 in
theorem rtig_no (k : Int) (p : Option Addr) (xs : List Mo) (c : Nat) (w : World) (hn : xs.length <= 1000) (RA : Hid (SlM w p xs)) (RS : Hid (∀ i, i < xs.length -> (xs.getD i mo0).1.size <= maxLen /\ -9223372036854775808 <= (xs.getD i mo0).2 /\ (xs.getD i mo0).2 <= 9223372036854775807)) (k1 : -9223372036854775808 <= k) (k2 : k <= 9223372036854775807) (hok : okL xs = true) (h0 : xs.length ≠ 0) (hx : (k % (gcdL 0 xs : Int) == 0) = false) : Calls Tryd.prog 29 #[Cv k p xs.length c true] w (TQ (-1, [], false, 2, 0) w) := by
 have VL := Lib.hid fun w h => cval2 k p xs c true w (by unfold maxLen; omega) h (Lib.hid fun i hi => (RS.out i hi).1)
 have B0 : Below w.heap.size w ((w.alloc (Obj.cells #[Value.int .i64 k, Value.slice p xs.length c, Value.bool true] 36)).alloc (Obj.cells #[Value.int .i64 0, Value.slice none 0 0, Value.bool false] 36)) := ((Below.refl _ _).alloc (Nat.le_refl _) _).alloc (by simp) _
 have RA2 := Lib.hid (SlM.keep B0 RA.out)
 have hv : vL xs = 0 := by unfold vL; rw [hok]; rfl
 rw [hv] at VL
 obtain ⟨qq0, qq1⟩ := gcdL_bd hok h0 (fun i hi => (RS.out i hi).2)
 have HDV := Lib.hid fun m hm => gcdL_mem xs 0 m hm
 have g0 : ((xs.length : Int) == 0) = false := by rw [beq_eq_false_iff_ne]; omega
 unfold Cv at *
 obtain ⟨G, hG⟩ : ∃ G : Nat, gcdL 0 xs = G := ⟨_, rfl⟩
 rw [hG] at qq0 qq1 HDV hx
 have HOK := Lib.hid (okL_tdY hok HDV.out qq0)
 have FD := Lib.hid fun w => floor6 k G k1 k2 qq0 qq1 w
 have FA := Lib.hid fun a (a1 : -9223372036854775808 <= a) (a2 : a <= 9223372036854775807) w => floor6 a G a1 a2 qq0 qq1 w
 have SK := Lib.hid fun w => size6 k w k1 k2
 have Q0 := Lib.hid qq0
 have Q1 := Lib.hid qq1
 have HG9 := Lib.hid hG
 have D0 := Lib.hid (div_bd qq0 k1 k2)
 obtain ⟨D, hD⟩ : ∃ D, k / (G : Int) = D := ⟨_, rfl⟩
 have HD9 := Lib.hid hD
 rw [hD] at FD D0
 obtain ⟨i0, hi, hz0, hz1, hz2⟩ := info_parts infoMo
 have HI9 := Lib.hid (And.intro hi (And.intro hz0 (And.intro hz1 hz2)))
 have HN0 := Lib.hid h0
 have HX := Lib.hid hx
 obtain ⟨n, hnn⟩ : ∃ n, xs.length = n := ⟨_, rfl⟩
 have HN := Lib.hid hnn
 rw [hnn] at VL g0 hn B0 RA2 ⊢
 clear hok hv h0 hG hD hnn hi hz0 hz1 hz2 hx
 go_enter Tryd.func29, Tryd.ntmps29
 go_wp2_with (first | (go_at_call 25; (with_reducible refine (VL.out _ RA2).mono ?_); rintro e w1 ⟨rfl, hb1⟩; have hc1 := (Rg.bcell hb1).1; have hf1 := (Rg.bcell hb1).2; have z1_0 : w.heap.size < w1.heap.size := (by have hzz := hb1.size; (try simp at hzz); omega); have z1_1 : w.heap.size + 1 < w1.heap.size := (by have hzz := hb1.size; (try simp at hzz); omega); have K1 : Below w.heap.size w w1 := Below.trans (b := _) (by (repeat' (first | (with_reducible exact Below.refl _ _) | (with_reducible refine Below.alloc ?_ ?_ _) | (with_reducible refine Below.setCell ?_ ?_ _) | (with_reducible refine below_drewN ?_ _) | (simp; done) | omega | (simp; omega)))) (hb1.mono (by have hzz := hb1.size; (try simp at hzz); first | omega | (simp; done) | (simp; omega)))))
 have F0 : Hid (Cl [(w.heap.size, 0, .int .i64 k), (w.heap.size, 1, .slice p n c), (w.heap.size, 2, .bool true), (w.heap.size + 1, 0, .int .i64 0), (w.heap.size + 1, 1, .slice none 0 0), (w.heap.size + 1, 2, .bool false)] w1) := Lib.hid (Cl.cons (by simp [go_sem, hc1, hf1, z1_0, Nat.lt_succ_of_lt z1_0, Nat.ne_of_lt z1_0, Nat.ne_of_gt z1_0, z1_1, Nat.lt_succ_of_lt z1_1, Nat.ne_of_lt z1_1, Nat.ne_of_gt z1_1]) (by simp [go_sem, hc1, hf1, z1_0, Nat.lt_succ_of_lt z1_0, Nat.ne_of_lt z1_0, Nat.ne_of_gt z1_0, z1_1, Nat.lt_succ_of_lt z1_1, Nat.ne_of_lt z1_1, Nat.ne_of_gt z1_1]) (Cl.cons (by simp [go_sem, hc1, hf1, z1_0, Nat.lt_succ_of_lt z1_0, Nat.ne_of_lt z1_0, Nat.ne_of_gt z1_0, z1_1, Nat.lt_succ_of_lt z1_1, Nat.ne_of_lt z1_1, Nat.ne_of_gt z1_1]) (by simp [go_sem, hc1, hf1, z1_0, Nat.lt_succ_of_lt z1_0, Nat.ne_of_lt z1_0, Nat.ne_of_gt z1_0, z1_1, Nat.lt_succ_of_lt z1_1, Nat.ne_of_lt z1_1, Nat.ne_of_gt z1_1]) (Cl.cons (by simp [go_sem, hc1, hf1, z1_0, Nat.lt_succ_of_lt z1_0, Nat.ne_of_lt z1_0, Nat.ne_of_gt z1_0, z1_1, Nat.lt_succ_of_lt z1_1, Nat.ne_of_lt z1_1, Nat.ne_of_gt z1_1]) (by simp [go_sem, hc1, hf1, z1_0, Nat.lt_succ_of_lt z1_0, Nat.ne_of_lt z1_0, Nat.ne_of_gt z1_0, z1_1, Nat.lt_succ_of_lt z1_1, Nat.ne_of_lt z1_1, Nat.ne_of_gt z1_1]) (Cl.cons (by simp [go_sem, hc1, hf1, z1_0, Nat.lt_succ_of_lt z1_0, Nat.ne_of_lt z1_0, Nat.ne_of_gt z1_0, z1_1, Nat.lt_succ_of_lt z1_1, Nat.ne_of_lt z1_1, Nat.ne_of_gt z1_1]) (by simp [go_sem, hc1, hf1, z1_0, Nat.lt_succ_of_lt z1_0, Nat.ne_of_lt z1_0, Nat.ne_of_gt z1_0, z1_1, Nat.lt_succ_of_lt z1_1, Nat.ne_of_lt z1_1, Nat.ne_of_gt z1_1]) (Cl.cons (by simp [go_sem, hc1, hf1, z1_0, Nat.lt_succ_of_lt z1_0, Nat.ne_of_lt z1_0, Nat.ne_of_gt z1_0, z1_1, Nat.lt_succ_of_lt z1_1, Nat.ne_of_lt z1_1, Nat.ne_of_gt z1_1]) (by simp [go_sem, hc1, hf1, z1_0, Nat.lt_succ_of_lt z1_0, Nat.ne_of_lt z1_0, Nat.ne_of_gt z1_0, z1_1, Nat.lt_succ_of_lt z1_1, Nat.ne_of_lt z1_1, Nat.ne_of_gt z1_1]) (Cl.cons (by simp [go_sem, hc1, hf1, z1_0, Nat.lt_succ_of_lt z1_0, Nat.ne_of_lt z1_0, Nat.ne_of_gt z1_0, z1_1, Nat.lt_succ_of_lt z1_1, Nat.ne_of_lt z1_1, Nat.ne_of_gt z1_1]) (by simp [go_sem, hc1, hf1, z1_0, Nat.lt_succ_of_lt z1_0, Nat.ne_of_lt z1_0, Nat.ne_of_gt z1_0, z1_1, Nat.lt_succ_of_lt z1_1, Nat.ne_of_lt z1_1, Nat.ne_of_gt z1_1]) (Cl.nil _)))))))
 have lg : w.heap.size + 1 < w1.heap.size := z1_1
 have KB := Lib.hid K1
 clear hb1 hc1 hf1 z1_0 z1_1 K1 VL B0 RA2
 go_loopw [7, 8] (fun gv i wr => ∃ (j g : Nat), gv = .int .u64 g /\ i = .int .i64 j /\ j <= n /\ g < 18446744073709551616 /\ w.heap.size + 1 < wr.heap.size /\ Hid (Cl [(w.heap.size, 0, .int .i64 k), (w.heap.size, 1, .slice p n c), (w.heap.size, 2, .bool true), (w.heap.size + 1, 0, .int .i64 0), (w.heap.size + 1, 1, .slice none 0 0), (w.heap.size + 1, 2, .bool false)] wr) /\ Hid (Below w.heap.size w wr) /\ Hid (gcdL 0 xs = gcdL g (xs.drop j))) (fun _ i _ => n - (intOf i).toNat)
 case atStart => exact ⟨0, 0, rfl, rfl, Nat.zero_le _, by omega, lg, F0, KB, Lib.hid rfl⟩
 case round =>
  obtain ⟨j, g, rfl, rfl, hj, hg, lr, hF, hB, HL⟩ := hrel
  clear F0 KB lg
  have jj : (0 : Int) <= j := by omega
  have d0 := hF.out.head
  have d1 := hF.out.tail.head
  have d2 := hF.out.tail.tail.head
  by_cases hlt : j < n
  ·obtain ⟨b, o, rfl, e0, e1⟩ := RA.out j (by rw [HN.out]; exact hlt)
   have j2 : (j : Int) < n := by omega
   have hbw : b < w.heap.size := World.block_lt_of_cell? _ _ e0
   replace e1 := Rg.keep hB.out hbw e1
   have hbr : b < wr.heap.size := World.block_lt_of_cell? _ _ e1
   have hst := gcdL_step (g := g) (xs := xs) (j := j) (by rw [HN.out]; exact hlt)
   obtain ⟨-, y0, y1⟩ := RS.out j (by rw [HN.out]; exact hlt)
   obtain ⟨m, hm⟩ : ∃ m, xs.getD j mo0 = m := ⟨_, rfl⟩
   rw [hm] at e1 hst y0 y1
   obtain ⟨z, a⟩ := m
   dsimp only at e1 hst y0 y1
   have S6 := Lib.hid fun w => size6 a w y0 y1
   obtain ⟨A, hA⟩ : ∃ A, a.natAbs = A := ⟨_, rfl⟩
   have ha : A < 18446744073709551616 := by omega
   rw [hA] at S6 hst
   have G6 := Lib.hid fun w => gcd6 g A hg ha w
   have hgb := gcd_bd hg ha
   have HL2 := Lib.hid (HL.out.trans hst)
   clear hst hm hA y0 y1 e0 HL
   obtain ⟨g2, hg2⟩ : ∃ g2, Nat.gcd g A = g2 := ⟨_, rfl⟩
   rw [hg2] at G6 hgb HL2
   clear hg2
   go_wp2_with (first | (go_at_call 64; (with_reducible refine (S6.out _).mono ?_); rintro e w9 ⟨rfl, rfl⟩) | (go_at_call 63; (with_reducible refine (G6.out _).mono ?_); rintro e u ⟨rfl, hb⟩; have FU := Lib.hid (hF.out.below hb); have KU := Lib.hid (hB.out.trans (hb.mono hB.out.size)); have lu : w.heap.size + 1 < u.heap.size := Nat.lt_of_lt_of_le lr hb.size))
   go_roundw
   case rel => exact ⟨j + 1, g2, rfl, by go_num, by omega, hgb, lu, FU, KU, HL2⟩
   case measure => simp [intOf]; omega
  ·obtain rfl : j = n := by omega
   obtain rfl : g = G := by
    have h1 := HL.out
    rw [List.drop_of_length_le (by rw [HN.out]; exact Nat.le_refl _), HG9.out] at h1
    exact h1.symm
   clear HL hlt
   have gz : ((g : Int) == 0) = false := beq_false_of_ne (by omega)
   have gn : ¬ ((g : Int) = 0) := by omega
   have SK2 := Lib.hid SK.out
   obtain ⟨KA, hKA⟩ : ∃ KA, k.natAbs = KA := ⟨_, rfl⟩
   have hkz : (KA % g = 0) ↔ (k % (g : Int) = 0) := by
    rw [<- hKA, <- Nat.dvd_iff_mod_eq_zero, <- Int.dvd_iff_emod_eq_zero]
    exact Int.ofNat_dvd_left.symm
   rw [hKA] at SK2
   have e1 : ((KA : Int) % (g : Int)) = ((KA % g : Nat) : Int) := (Int.natCast_emod KA g).symm
   have e2 : Int.tmod (KA : Int) (g : Int) = ((KA % g : Nat) : Int) := by rw [Int.tmod_eq_emod_of_nonneg (by omega)]; exact e1
   obtain ⟨r, hr⟩ : ∃ r, KA % g = r := ⟨_, rfl⟩
   rw [hr] at e1 e2 hkz
   have hx := HX.out
   clear hr hKA
   have NV := Lib.hid fun w => never2 w
   unfold Cv at NV
   have t0 : ((r : Int) == 0) = false := beq_false_of_ne (fun h => by rw [beq_eq_false_iff_ne] at hx; exact hx (hkz.1 (by omega)))
   have t1 : ((r : Int) != 0) = true := by rw [bne, t0]; rfl
   clear hx hkz
   go_wp2_with (first | (go_at_call 64; (with_reducible refine (SK2.out _).mono ?_); rintro e w9 ⟨rfl, rfl⟩) | (go_at_call 62; (with_reducible refine (NV.out _).mono ?_); rintro e u ⟨rfl, hb⟩; have FU := hF.out.below hb; have KU := hB.out.trans (hb.mono hB.out.size); have r0 := FU.tail.tail.tail.head; have zr0 := FU.tail.tail.tail.headF; have r1 := FU.tail.tail.tail.tail.head; have zr1 := FU.tail.tail.tail.tail.headF; have r2 := FU.tail.tail.tail.tail.tail.head; have zr2 := FU.tail.tail.tail.tail.tail.headF; have lr9 : w.heap.size + 1 < u.heap.size := World.block_lt_of_cell? _ _ r0))
   exact bodyPost_ret (v := .tuple #[.agg #[.int .i64 (-1), .slice none 0 0, .bool false], .int .i64 2, .int .i64 0]) (by simp [results, Tryd.results29, go_sem, r0, zr0, r1, zr1, r2, zr2, lr9]) rfl (TQ.nil (((KU.setCell (p := ⟨w.heap.size + 1, 0, none⟩) (by dsimp only; omega) _).setCell (p := ⟨w.heap.size + 1, 1, none⟩) (by dsimp only; omega) _).setCell (p := ⟨w.heap.size + 1, 2, none⟩) (by dsimp only; omega) _))
end Go.Proofs.YtbicmlkjonaccaaDoor.Ln
