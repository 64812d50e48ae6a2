/- The reference: Tighten of an equation whose sign turns. -/
import Derived.Test.YtbicmlkjonaccaaDoorE30
import Derived.Test.YtbicmlkjonaccaaDoorE33l
import Derived.Deep.Cut
import Derived.Deep.CutRange

namespace Go.Proofs.YtbicmlkjonaccaaDoor.Ln
open Go.ChangeShapes Go.WideShapes Go.ChangeAt Go.RowKit
open Go.Proofs.YtbicmlkjonaccaaDoor.Nm
set_option linter.unusedVariables false
set_option linter.unusedSimpArgs false
set_option maxRecDepth 8000

set_option maxRecDepth 100000 in
set_option maxHeartbeats 8000000 in
theorem rtig_turn (k : Int) (p : Option Addr) (xs : List Mo) (c : Nat) (w : World) (hn : xs.length <= 1000) (RA : Hid (SlM w p xs)) (RS : Hid (∀ i, i < xs.length -> (xs.getD i mo0).1.size <= maxLen /\ -9223372036854775808 <= (xs.getD i mo0).2 /\ (xs.getD i mo0).2 <= 9223372036854775807)) (k1 : -9223372036854775808 <= k) (k2 : k <= 9223372036854775807) (hok : okL xs = true) (h0 : xs.length ≠ 0) (hx : (k % (gcdL 0 xs : Int) == 0) = true) (hneg : decide (((tdY (gcdL 0 xs) xs).getD 0 mo0).2 < 0) = true) (RES : Int × List Mo × Bool × Int × Int) (hres : (if (sclR (-1) (k / (gcdL 0 xs : Int)) (tdY (gcdL 0 xs) xs)).2.2 ≠ 0 then (0, [], false, 0, (sclR (-1) (k / (gcdL 0 xs : Int)) (tdY (gcdL 0 xs) xs)).2.2) else ((sclR (-1) (k / (gcdL 0 xs : Int)) (tdY (gcdL 0 xs) xs)).1, (sclR (-1) (k / (gcdL 0 xs : Int)) (tdY (gcdL 0 xs) xs)).2.1, true, 0, 0)) = RES) : Calls Tryd.prog 29 #[Cv k p xs.length c true] w (TQ RES w) := by
 have VL := Lib.hid fun w h => cval2 k p xs c true w (by unfold maxLen; omega) h (Lib.hid fun i hi => (RS.out i hi).1)
 have B0 : Below w.heap.size w ((w.alloc (Obj.cells #[Value.int .i64 k, Value.slice p xs.length c, Value.bool true] 36)).alloc (Obj.cells #[Value.int .i64 0, Value.slice none 0 0, Value.bool false] 36)) := ((Below.refl _ _).alloc (Nat.le_refl _) _).alloc (by simp) _
 have RA2 := Lib.hid (SlM.keep B0 RA.out)
 have hv : vL xs = 0 := by unfold vL; rw [hok]; rfl
 rw [hv] at VL
 obtain ⟨qq0, qq1⟩ := gcdL_bd hok h0 (fun i hi => (RS.out i hi).2)
 have HDV := Lib.hid fun m hm => gcdL_mem xs 0 m hm
 have g0 : ((xs.length : Int) == 0) = false := by rw [beq_eq_false_iff_ne]; omega
 unfold Cv at *
 obtain ⟨G, hG⟩ : ∃ G : Nat, gcdL 0 xs = G := ⟨_, rfl⟩
 rw [hG] at qq0 qq1 HDV hx hneg hres
 have HOK := Lib.hid (okL_tdY hok HDV.out qq0)
 have FD := Lib.hid fun w => floor6 k G k1 k2 qq0 qq1 w
 have FA := Lib.hid fun a (a1 : -9223372036854775808 <= a) (a2 : a <= 9223372036854775807) w => floor6 a G a1 a2 qq0 qq1 w
 have SK := Lib.hid fun w => size6 k w k1 k2
 have Q0 := Lib.hid qq0
 have Q1 := Lib.hid qq1
 have HG9 := Lib.hid hG
 have D0 := Lib.hid (div_bd qq0 k1 k2)
 obtain ⟨D, hD⟩ : ∃ D, k / (G : Int) = D := ⟨_, rfl⟩
 have HD9 := Lib.hid hD
 rw [hD] at FD D0
 obtain ⟨i0, hi, hz0, hz1, hz2⟩ := info_parts infoMo
 have HI9 := Lib.hid (And.intro hi (And.intro hz0 (And.intro hz1 hz2)))
 have HN0 := Lib.hid h0
 have HX := Lib.hid hx
 have HPOS : Hid (decide (((tdY G xs).getD 0 mo0).2 < 0) = true) := Lib.hid hneg
 have HRES := Lib.hid hres
 have HTB : Hid (∀ i, i < (tdY G xs).length -> -9223372036854775808 <= ((tdY G xs).getD i mo0).2 /\ ((tdY G xs).getD i mo0).2 <= 9223372036854775807) := Lib.hid fun i hi => by
  rw [tdY_len] at hi
  rw [tdY_get hi]
  have h3 := RS.out i hi
  exact div_bd Q0.out h3.2.1 h3.2.2
 obtain ⟨n, hnn⟩ : ∃ n, xs.length = n := ⟨_, rfl⟩
 have HN := Lib.hid hnn
 rw [hnn] at VL g0 hn B0 RA2 ⊢
 clear hok hv h0 hG hD hnn hi hz0 hz1 hz2 hx hneg hres
 go_enter Tryd.func29, Tryd.ntmps29
 go_wp2_with (first | (go_at_call 25; (with_reducible refine (VL.out _ RA2).mono ?_); rintro e w1 ⟨rfl, hb1⟩; have hc1 := (Rg.bcell hb1).1; have hf1 := (Rg.bcell hb1).2; have z1_0 : w.heap.size < w1.heap.size := (by have hzz := hb1.size; (try simp at hzz); omega); have z1_1 : w.heap.size + 1 < w1.heap.size := (by have hzz := hb1.size; (try simp at hzz); omega); have K1 : Below w.heap.size w w1 := Below.trans (b := _) (by (repeat' (first | (with_reducible exact Below.refl _ _) | (with_reducible refine Below.alloc ?_ ?_ _) | (with_reducible refine Below.setCell ?_ ?_ _) | (with_reducible refine below_drewN ?_ _) | (simp; done) | omega | (simp; omega)))) (hb1.mono (by have hzz := hb1.size; (try simp at hzz); first | omega | (simp; done) | (simp; omega)))))
 have F0 : Hid (Cl [(w.heap.size, 0, .int .i64 k), (w.heap.size, 1, .slice p n c), (w.heap.size, 2, .bool true), (w.heap.size + 1, 0, .int .i64 0), (w.heap.size + 1, 1, .slice none 0 0), (w.heap.size + 1, 2, .bool false)] w1) := Lib.hid (Cl.cons (by simp [go_sem, hc1, hf1, z1_0, Nat.lt_succ_of_lt z1_0, Nat.ne_of_lt z1_0, Nat.ne_of_gt z1_0, z1_1, Nat.lt_succ_of_lt z1_1, Nat.ne_of_lt z1_1, Nat.ne_of_gt z1_1]) (by simp [go_sem, hc1, hf1, z1_0, Nat.lt_succ_of_lt z1_0, Nat.ne_of_lt z1_0, Nat.ne_of_gt z1_0, z1_1, Nat.lt_succ_of_lt z1_1, Nat.ne_of_lt z1_1, Nat.ne_of_gt z1_1]) (Cl.cons (by simp [go_sem, hc1, hf1, z1_0, Nat.lt_succ_of_lt z1_0, Nat.ne_of_lt z1_0, Nat.ne_of_gt z1_0, z1_1, Nat.lt_succ_of_lt z1_1, Nat.ne_of_lt z1_1, Nat.ne_of_gt z1_1]) (by simp [go_sem, hc1, hf1, z1_0, Nat.lt_succ_of_lt z1_0, Nat.ne_of_lt z1_0, Nat.ne_of_gt z1_0, z1_1, Nat.lt_succ_of_lt z1_1, Nat.ne_of_lt z1_1, Nat.ne_of_gt z1_1]) (Cl.cons (by simp [go_sem, hc1, hf1, z1_0, Nat.lt_succ_of_lt z1_0, Nat.ne_of_lt z1_0, Nat.ne_of_gt z1_0, z1_1, Nat.lt_succ_of_lt z1_1, Nat.ne_of_lt z1_1, Nat.ne_of_gt z1_1]) (by simp [go_sem, hc1, hf1, z1_0, Nat.lt_succ_of_lt z1_0, Nat.ne_of_lt z1_0, Nat.ne_of_gt z1_0, z1_1, Nat.lt_succ_of_lt z1_1, Nat.ne_of_lt z1_1, Nat.ne_of_gt z1_1]) (Cl.cons (by simp [go_sem, hc1, hf1, z1_0, Nat.lt_succ_of_lt z1_0, Nat.ne_of_lt z1_0, Nat.ne_of_gt z1_0, z1_1, Nat.lt_succ_of_lt z1_1, Nat.ne_of_lt z1_1, Nat.ne_of_gt z1_1]) (by simp [go_sem, hc1, hf1, z1_0, Nat.lt_succ_of_lt z1_0, Nat.ne_of_lt z1_0, Nat.ne_of_gt z1_0, z1_1, Nat.lt_succ_of_lt z1_1, Nat.ne_of_lt z1_1, Nat.ne_of_gt z1_1]) (Cl.cons (by simp [go_sem, hc1, hf1, z1_0, Nat.lt_succ_of_lt z1_0, Nat.ne_of_lt z1_0, Nat.ne_of_gt z1_0, z1_1, Nat.lt_succ_of_lt z1_1, Nat.ne_of_lt z1_1, Nat.ne_of_gt z1_1]) (by simp [go_sem, hc1, hf1, z1_0, Nat.lt_succ_of_lt z1_0, Nat.ne_of_lt z1_0, Nat.ne_of_gt z1_0, z1_1, Nat.lt_succ_of_lt z1_1, Nat.ne_of_lt z1_1, Nat.ne_of_gt z1_1]) (Cl.cons (by simp [go_sem, hc1, hf1, z1_0, Nat.lt_succ_of_lt z1_0, Nat.ne_of_lt z1_0, Nat.ne_of_gt z1_0, z1_1, Nat.lt_succ_of_lt z1_1, Nat.ne_of_lt z1_1, Nat.ne_of_gt z1_1]) (by simp [go_sem, hc1, hf1, z1_0, Nat.lt_succ_of_lt z1_0, Nat.ne_of_lt z1_0, Nat.ne_of_gt z1_0, z1_1, Nat.lt_succ_of_lt z1_1, Nat.ne_of_lt z1_1, Nat.ne_of_gt z1_1]) (Cl.nil _)))))))
 have lg : w.heap.size + 1 < w1.heap.size := z1_1
 have KB := Lib.hid K1
 clear hb1 hc1 hf1 z1_0 z1_1 K1 VL B0 RA2
 go_loopw [7, 8] (fun gv i wr => ∃ (j g : Nat), gv = .int .u64 g /\ i = .int .i64 j /\ j <= n /\ g < 18446744073709551616 /\ w.heap.size + 1 < wr.heap.size /\ Hid (Cl [(w.heap.size, 0, .int .i64 k), (w.heap.size, 1, .slice p n c), (w.heap.size, 2, .bool true), (w.heap.size + 1, 0, .int .i64 0), (w.heap.size + 1, 1, .slice none 0 0), (w.heap.size + 1, 2, .bool false)] wr) /\ Hid (Below w.heap.size w wr) /\ Hid (gcdL 0 xs = gcdL g (xs.drop j))) (fun _ i _ => n - (intOf i).toNat)
 case atStart => exact ⟨0, 0, rfl, rfl, Nat.zero_le _, by omega, lg, F0, KB, Lib.hid rfl⟩
 case round =>
  obtain ⟨j, g, rfl, rfl, hj, hg, lr, hF, hB, HL⟩ := hrel
  clear F0 KB lg
  have jj : (0 : Int) <= j := by omega
  have d0 := hF.out.head
  have d1 := hF.out.tail.head
  have d2 := hF.out.tail.tail.head
  by_cases hlt : j < n
  ·obtain ⟨b, o, rfl, e0, e1⟩ := RA.out j (by rw [HN.out]; exact hlt)
   have j2 : (j : Int) < n := by omega
   have hbw : b < w.heap.size := World.block_lt_of_cell? _ _ e0
   replace e1 := Rg.keep hB.out hbw e1
   have hbr : b < wr.heap.size := World.block_lt_of_cell? _ _ e1
   have hst := gcdL_step (g := g) (xs := xs) (j := j) (by rw [HN.out]; exact hlt)
   obtain ⟨-, y0, y1⟩ := RS.out j (by rw [HN.out]; exact hlt)
   obtain ⟨m, hm⟩ : ∃ m, xs.getD j mo0 = m := ⟨_, rfl⟩
   rw [hm] at e1 hst y0 y1
   obtain ⟨z, a⟩ := m
   dsimp only at e1 hst y0 y1
   have S6 := Lib.hid fun w => size6 a w y0 y1
   obtain ⟨A, hA⟩ : ∃ A, a.natAbs = A := ⟨_, rfl⟩
   have ha : A < 18446744073709551616 := by omega
   rw [hA] at S6 hst
   have G6 := Lib.hid fun w => gcd6 g A hg ha w
   have hgb := gcd_bd hg ha
   have HL2 := Lib.hid (HL.out.trans hst)
   clear hst hm hA y0 y1 e0 HL
   obtain ⟨g2, hg2⟩ : ∃ g2, Nat.gcd g A = g2 := ⟨_, rfl⟩
   rw [hg2] at G6 hgb HL2
   clear hg2
   go_wp2_with (first | (go_at_call 64; (with_reducible refine (S6.out _).mono ?_); rintro e w9 ⟨rfl, rfl⟩) | (go_at_call 63; (with_reducible refine (G6.out _).mono ?_); rintro e u ⟨rfl, hb⟩; have FU := Lib.hid (hF.out.below hb); have KU := Lib.hid (hB.out.trans (hb.mono hB.out.size)); have lu : w.heap.size + 1 < u.heap.size := Nat.lt_of_lt_of_le lr hb.size))
   go_roundw
   case rel => exact ⟨j + 1, g2, rfl, by go_num, by omega, hgb, lu, FU, KU, HL2⟩
   case measure => simp [intOf]; omega
  ·obtain rfl : j = n := by omega
   obtain rfl : g = G := by
    have h1 := HL.out
    rw [List.drop_of_length_le (by rw [HN.out]; exact Nat.le_refl _), HG9.out] at h1
    exact h1.symm
   clear HL hlt
   have q0 := Q0.out
   have q1 := Q1.out
   have FD2 : Hid (∀ w, Calls Tryd.prog 65 #[.int .i64 k, .int .u64 (g : Int)] w fun e w' => e = .returned (.int .i64 D) /\ Below w.heap.size w w') := Lib.hid fun w => (FD.out w).mono fun e w' ⟨h1, h2⟩ => ⟨h1, by rw [<- h2]; exact Below.refl _ _⟩
   have f0 := hF.out.head
   have zf0 := hF.out.headF
   have f1 := hF.out.tail.head
   have zf1 := hF.out.tail.headF
   have f2 := hF.out.tail.tail.head
   have zf2 := hF.out.tail.tail.headF
   have f3 := hF.out.tail.tail.tail.head
   have zf3 := hF.out.tail.tail.tail.headF
   have f4 := hF.out.tail.tail.tail.tail.head
   have zf4 := hF.out.tail.tail.tail.tail.headF
   have f5 := hF.out.tail.tail.tail.tail.tail.head
   have zf5 := hF.out.tail.tail.tail.tail.tail.headF
   have KF := hB.out
   have hz16 := And.intro f0 (And.intro f1 (And.intro f2 (And.intro f3 (And.intro f4 (And.intro f5 (And.intro zf0 (And.intro zf1 (And.intro zf2 (And.intro zf3 (And.intro zf4 (And.intro zf5 KF)))))))))))
   have lr1 : w.heap.size < wr.heap.size := by omega
   clear hF hB d0 d1 d2 q1
   have gz : ((g : Int) == 0) = false := beq_false_of_ne (by omega)
   have gn : ¬ ((g : Int) = 0) := by omega
   have SK2 := Lib.hid SK.out
   obtain ⟨KA, hKA⟩ : ∃ KA, k.natAbs = KA := ⟨_, rfl⟩
   have hkz : (KA % g = 0) ↔ (k % (g : Int) = 0) := by
    rw [<- hKA, <- Nat.dvd_iff_mod_eq_zero, <- Int.dvd_iff_emod_eq_zero]
    exact Int.ofNat_dvd_left.symm
   rw [hKA] at SK2
   have e1 : ((KA : Int) % (g : Int)) = ((KA % g : Nat) : Int) := (Int.natCast_emod KA g).symm
   have e2 : Int.tmod (KA : Int) (g : Int) = ((KA % g : Nat) : Int) := by rw [Int.tmod_eq_emod_of_nonneg (by omega)]; exact e1
   obtain ⟨r, hr⟩ : ∃ r, KA % g = r := ⟨_, rfl⟩
   rw [hr] at e1 e2 hkz
   have hx := HX.out
   clear hr hKA
   have r0' : r = 0 := hkz.2 (by simpa using hx)
   subst r0'
   clear hx hkz
   go_upto_region 16 with (go_at_call 64; (with_reducible refine (SK2.out _).mono ?_); rintro e w9 ⟨rfl, rfl⟩)
   go_cut [9] from 67 to 73 (fun p9 wx => ∃ g9 : Nat, p9 = .pointer (some ⟨g9, 0, none⟩) /\ w.heap.size + 1 < g9 /\ g9 < wx.heap.size /\ Hid (Cl ((g9, 0, .int .i64 D) :: (g9, 1, .slice none 0 0) :: (g9, 2, .bool true) :: [(w.heap.size, 1, .slice p j c), (w.heap.size, 2, .bool true), (w.heap.size + 1, 0, .int .i64 0), (w.heap.size + 1, 1, .slice none 0 0), (w.heap.size + 1, 2, .bool false)]) wx) /\ Hid (Below w.heap.size w wx))
   case first =>
    have HS : Hid (∀ u u' : World, (u.cell? ⟨w.heap.size, 0, none⟩ = some (.int .i64 k) /\ u.cell? ⟨w.heap.size, 1, none⟩ = some (.slice p j c) /\ u.cell? ⟨w.heap.size, 2, none⟩ = some (.bool true) /\ u.cell? ⟨w.heap.size + 1, 0, none⟩ = some (.int .i64 0) /\ u.cell? ⟨w.heap.size + 1, 1, none⟩ = some (.slice none 0 0) /\ u.cell? ⟨w.heap.size + 1, 2, none⟩ = some (.bool false) /\ u.frozen? ⟨w.heap.size, 0, none⟩ = false /\ u.frozen? ⟨w.heap.size, 1, none⟩ = false /\ u.frozen? ⟨w.heap.size, 2, none⟩ = false /\ u.frozen? ⟨w.heap.size + 1, 0, none⟩ = false /\ u.frozen? ⟨w.heap.size + 1, 1, none⟩ = false /\ u.frozen? ⟨w.heap.size + 1, 2, none⟩ = false /\ Below w.heap.size w u) -> Below u.heap.size u u' -> (u'.cell? ⟨w.heap.size, 0, none⟩ = some (.int .i64 k) /\ u'.cell? ⟨w.heap.size, 1, none⟩ = some (.slice p j c) /\ u'.cell? ⟨w.heap.size, 2, none⟩ = some (.bool true) /\ u'.cell? ⟨w.heap.size + 1, 0, none⟩ = some (.int .i64 0) /\ u'.cell? ⟨w.heap.size + 1, 1, none⟩ = some (.slice none 0 0) /\ u'.cell? ⟨w.heap.size + 1, 2, none⟩ = some (.bool false) /\ u'.frozen? ⟨w.heap.size, 0, none⟩ = false /\ u'.frozen? ⟨w.heap.size, 1, none⟩ = false /\ u'.frozen? ⟨w.heap.size, 2, none⟩ = false /\ u'.frozen? ⟨w.heap.size + 1, 0, none⟩ = false /\ u'.frozen? ⟨w.heap.size + 1, 1, none⟩ = false /\ u'.frozen? ⟨w.heap.size + 1, 2, none⟩ = false /\ Below w.heap.size w u')) := Lib.hid (fun u u' h hb => ⟨Rg.keep hb (World.block_lt_of_cell? _ _ h.1) h.1, Rg.keep hb (World.block_lt_of_cell? _ _ h.2.1) h.2.1, Rg.keep hb (World.block_lt_of_cell? _ _ h.2.2.1) h.2.2.1, Rg.keep hb (World.block_lt_of_cell? _ _ h.2.2.2.1) h.2.2.2.1, Rg.keep hb (World.block_lt_of_cell? _ _ h.2.2.2.2.1) h.2.2.2.2.1, Rg.keep hb (World.block_lt_of_cell? _ _ h.2.2.2.2.2.1) h.2.2.2.2.2.1, Rg.keepF hb (World.block_lt_of_cell? _ _ h.1) h.2.2.2.2.2.2.1, Rg.keepF hb (World.block_lt_of_cell? _ _ h.1) h.2.2.2.2.2.2.2.1, Rg.keepF hb (World.block_lt_of_cell? _ _ h.1) h.2.2.2.2.2.2.2.2.1, Rg.keepF hb (World.block_lt_of_cell? _ _ h.2.2.2.1) h.2.2.2.2.2.2.2.2.2.1, Rg.keepF hb (World.block_lt_of_cell? _ _ h.2.2.2.1) h.2.2.2.2.2.2.2.2.2.2.1, Rg.keepF hb (World.block_lt_of_cell? _ _ h.2.2.2.1) h.2.2.2.2.2.2.2.2.2.2.2.1, h.2.2.2.2.2.2.2.2.2.2.2.2.trans (hb.mono h.2.2.2.2.2.2.2.2.2.2.2.2.size)⟩)
    refine Rk.begin (S := fun wS => wS.cell? ⟨w.heap.size, 0, none⟩ = some (.int .i64 k) /\ wS.cell? ⟨w.heap.size, 1, none⟩ = some (.slice p j c) /\ wS.cell? ⟨w.heap.size, 2, none⟩ = some (.bool true) /\ wS.cell? ⟨w.heap.size + 1, 0, none⟩ = some (.int .i64 0) /\ wS.cell? ⟨w.heap.size + 1, 1, none⟩ = some (.slice none 0 0) /\ wS.cell? ⟨w.heap.size + 1, 2, none⟩ = some (.bool false) /\ wS.frozen? ⟨w.heap.size, 0, none⟩ = false /\ wS.frozen? ⟨w.heap.size, 1, none⟩ = false /\ wS.frozen? ⟨w.heap.size, 2, none⟩ = false /\ wS.frozen? ⟨w.heap.size + 1, 0, none⟩ = false /\ wS.frozen? ⟨w.heap.size + 1, 1, none⟩ = false /\ wS.frozen? ⟨w.heap.size + 1, 2, none⟩ = false /\ Below w.heap.size w wS) 8 (by kernel_rfl) (HS.out _ _ hz16 (Below.drew (Below.refl _ _))) (fun hHeld => ?_)
    refine Rk.takeP (i := 0) (v := ?_) rfl (by kernel_rfl) (by kernel_rfl) (by kernel_rfl) (by kernel_rfl) (fun _ _ _ h => h) (Or.inl ⟨by kernel_rfl, ?_⟩) (by assumption) ?_
    rotate_left
    ·((intro w hSw; go_simp) <;> with_reducible rfl)
    try simp only [Act.put, List.setIfInBounds_toArray, List.set_cons_zero, List.set_cons_succ]
    refine Rk.take [8] (i := 1) (v := ?_) rfl (by kernel_rfl) (by kernel_rfl) (by kernel_rfl) (by kernel_rfl) (by kernel_rfl) (fun _ _ _ h => h) (Or.inl ⟨by kernel_rfl, ?_⟩) (by assumption) ?_
    rotate_left
    ·((intro w hSw; (try dsimp only at hSw); go_simp) <;> with_reducible rfl)
    try simp only [Act.put, List.setIfInBounds_toArray, List.set_cons_zero, List.set_cons_succ]
    refine Rk.takeP (i := 2) (v := ?_) rfl (by kernel_rfl) (by kernel_rfl) (by kernel_rfl) (by kernel_rfl) (fun _ _ _ h => h) (Or.inl ⟨by kernel_rfl, ?_⟩) (by assumption) ?_
    rotate_left
    ·((intro w hSw; go_simp) <;> with_reducible rfl)
    try simp only [Act.put, List.setIfInBounds_toArray, List.set_cons_zero, List.set_cons_succ]
    refine Rk.takeP (i := 3) (v := ?_) rfl (by kernel_rfl) (by kernel_rfl) (by kernel_rfl) (by kernel_rfl) (fun _ _ _ h => h) (Or.inl ⟨by kernel_rfl, ?_⟩) (by assumption) ?_
    rotate_left
    ·((intro w hSw; go_simp) <;> with_reducible rfl)
    try simp only [Act.put, List.setIfInBounds_toArray, List.set_cons_zero, List.set_cons_succ]
    refine Rk.two (i := 4) (j := 7) (by kernel_rfl) rfl rfl (fun KK hK => ?_) (fun KK hK => ?_)
    ·rw [if_pos (by kernel_rfl)]
     go_simp
     ((with_reducible refine (FD2.out _).mono ?_); rintro e uw4 ⟨rfl, hb⟩)
     have hNew := HS.out _ _ hHeld hb
     have hs_uw4 : wr.heap.size <= uw4.heap.size := by have hzz := hb.size; (try simp at hzz); omega
     first | (refine hK.out _ _ (fun _ => hNew) (fun _ => ?_)) | (refine hK.out _ _ hNew (fun _ => ?_)) | (go_wp2_with fail; refine hK.out _ _ hNew (fun _ => ?_))
     replace hHeld := hNew
     clear hNew hb
     clear hK KK
     refine Rk.takeP (i := 5) (v := ?_) rfl (by kernel_rfl) (by kernel_rfl) (by kernel_rfl) (by kernel_rfl) (fun _ _ _ h => h) (Or.inl ⟨by kernel_rfl, ?_⟩) (by assumption) ?_
     rotate_left
     ·((intro w hSw; go_simp) <;> with_reducible rfl)
     try simp only [Act.put, List.setIfInBounds_toArray, List.set_cons_zero, List.set_cons_succ]
     refine Rk.takeP (i := 6) (v := ?_) rfl (by kernel_rfl) (by kernel_rfl) (by kernel_rfl) (by kernel_rfl) (fun _ _ _ h => h) (Or.inl ⟨by kernel_rfl, ?_⟩) (by assumption) ?_
     rotate_left
     ·((intro w hSw; go_simp) <;> with_reducible rfl)
     try simp only [Act.put, List.setIfInBounds_toArray, List.set_cons_zero, List.set_cons_succ]
     refine Rk.one (i := 7) (by kernel_rfl) rfl (fun KK hK => ?_)
     rw [if_pos (by kernel_rfl)]
     go_simp
     have hNew := HS.out _ _ hHeld ((Below.refl _ _).alloc (Nat.le_refl _) (Obj.cells #[Value.int .i64 0, Value.slice none 0 0, Value.bool false] 36))
     refine hK.out _ _ hNew (fun _ => ?_)
     replace hHeld := hNew
     clear hNew
     clear hK KK
     refine Rk.tail [8] [_] (by kernel_rfl) (by kernel_rfl) rfl (by decide) ?_
     obtain ⟨f0, f1, f2, f3, f4, f5, zf0, zf1, zf2, zf3, zf4, zf5, KF⟩ := hHeld
     have m0 : (uw4.alloc (Obj.cells #[Value.int .i64 0, Value.slice none 0 0, Value.bool false] 36)).cell? ⟨uw4.heap.size, 0, none⟩ = some (.int .i64 0) := by go_cell
     have fm0 : (uw4.alloc (Obj.cells #[Value.int .i64 0, Value.slice none 0 0, Value.bool false] 36)).frozen? ⟨uw4.heap.size, 0, none⟩ = false := by simp only [frozen?_alloc_cells]; exact Rg.notFrozen (Nat.le_refl _)
     have m1 : (uw4.alloc (Obj.cells #[Value.int .i64 0, Value.slice none 0 0, Value.bool false] 36)).cell? ⟨uw4.heap.size, 1, none⟩ = some (.slice none 0 0) := by go_cell
     have fm1 : (uw4.alloc (Obj.cells #[Value.int .i64 0, Value.slice none 0 0, Value.bool false] 36)).frozen? ⟨uw4.heap.size, 1, none⟩ = false := by simp only [frozen?_alloc_cells]; exact Rg.notFrozen (Nat.le_refl _)
     have m2 : (uw4.alloc (Obj.cells #[Value.int .i64 0, Value.slice none 0 0, Value.bool false] 36)).cell? ⟨uw4.heap.size, 2, none⟩ = some (.bool false) := by go_cell
     have fm2 : (uw4.alloc (Obj.cells #[Value.int .i64 0, Value.slice none 0 0, Value.bool false] 36)).frozen? ⟨uw4.heap.size, 2, none⟩ = false := by simp only [frozen?_alloc_cells]; exact Rg.notFrozen (Nat.le_refl _)
     generalize (uw4.alloc (Obj.cells #[Value.int .i64 0, Value.slice none 0 0, Value.bool false] 36)) = gw at *
     have lm : uw4.heap.size < gw.heap.size := World.block_lt_of_cell? _ _ m0
     have lw : w.heap.size <= uw4.heap.size := by omega
     have ne0 : uw4.heap.size ≠ w.heap.size := by omega
     have ne1 : uw4.heap.size ≠ w.heap.size + 1 := by omega
     have lo0 : w.heap.size < gw.heap.size := by omega
     have lo1 : w.heap.size + 1 < gw.heap.size := by omega
     go_wp2_with fail
     have f0 : (((gw.setCell ⟨uw4.heap.size, 0, none⟩ (.int .i64 D)).setCell ⟨uw4.heap.size, 1, none⟩ (.slice none 0 0)).setCell ⟨uw4.heap.size, 2, none⟩ (.bool true)).cell? ⟨w.heap.size, 0, none⟩ = some (.int .i64 k) := far3 ne0 f0
     have f1 : (((gw.setCell ⟨uw4.heap.size, 0, none⟩ (.int .i64 D)).setCell ⟨uw4.heap.size, 1, none⟩ (.slice none 0 0)).setCell ⟨uw4.heap.size, 2, none⟩ (.bool true)).cell? ⟨w.heap.size, 1, none⟩ = some (.slice p j c) := far3 ne0 f1
     have f2 : (((gw.setCell ⟨uw4.heap.size, 0, none⟩ (.int .i64 D)).setCell ⟨uw4.heap.size, 1, none⟩ (.slice none 0 0)).setCell ⟨uw4.heap.size, 2, none⟩ (.bool true)).cell? ⟨w.heap.size, 2, none⟩ = some (.bool true) := far3 ne0 f2
     have f3 : (((gw.setCell ⟨uw4.heap.size, 0, none⟩ (.int .i64 D)).setCell ⟨uw4.heap.size, 1, none⟩ (.slice none 0 0)).setCell ⟨uw4.heap.size, 2, none⟩ (.bool true)).cell? ⟨w.heap.size + 1, 0, none⟩ = some (.int .i64 0) := far3 ne1 f3
     have f4 : (((gw.setCell ⟨uw4.heap.size, 0, none⟩ (.int .i64 D)).setCell ⟨uw4.heap.size, 1, none⟩ (.slice none 0 0)).setCell ⟨uw4.heap.size, 2, none⟩ (.bool true)).cell? ⟨w.heap.size + 1, 1, none⟩ = some (.slice none 0 0) := far3 ne1 f4
     have f5 : (((gw.setCell ⟨uw4.heap.size, 0, none⟩ (.int .i64 D)).setCell ⟨uw4.heap.size, 1, none⟩ (.slice none 0 0)).setCell ⟨uw4.heap.size, 2, none⟩ (.bool true)).cell? ⟨w.heap.size + 1, 2, none⟩ = some (.bool false) := far3 ne1 f5
     have zf0 : (((gw.setCell ⟨uw4.heap.size, 0, none⟩ (.int .i64 D)).setCell ⟨uw4.heap.size, 1, none⟩ (.slice none 0 0)).setCell ⟨uw4.heap.size, 2, none⟩ (.bool true)).frozen? ⟨w.heap.size, 0, none⟩ = false := by simpa [World.frozen?_setCell] using zf0
     have zf1 : (((gw.setCell ⟨uw4.heap.size, 0, none⟩ (.int .i64 D)).setCell ⟨uw4.heap.size, 1, none⟩ (.slice none 0 0)).setCell ⟨uw4.heap.size, 2, none⟩ (.bool true)).frozen? ⟨w.heap.size, 1, none⟩ = false := by simpa [World.frozen?_setCell] using zf1
     have zf2 : (((gw.setCell ⟨uw4.heap.size, 0, none⟩ (.int .i64 D)).setCell ⟨uw4.heap.size, 1, none⟩ (.slice none 0 0)).setCell ⟨uw4.heap.size, 2, none⟩ (.bool true)).frozen? ⟨w.heap.size, 2, none⟩ = false := by simpa [World.frozen?_setCell] using zf2
     have zf3 : (((gw.setCell ⟨uw4.heap.size, 0, none⟩ (.int .i64 D)).setCell ⟨uw4.heap.size, 1, none⟩ (.slice none 0 0)).setCell ⟨uw4.heap.size, 2, none⟩ (.bool true)).frozen? ⟨w.heap.size + 1, 0, none⟩ = false := by simpa [World.frozen?_setCell] using zf3
     have zf4 : (((gw.setCell ⟨uw4.heap.size, 0, none⟩ (.int .i64 D)).setCell ⟨uw4.heap.size, 1, none⟩ (.slice none 0 0)).setCell ⟨uw4.heap.size, 2, none⟩ (.bool true)).frozen? ⟨w.heap.size + 1, 1, none⟩ = false := by simpa [World.frozen?_setCell] using zf4
     have zf5 : (((gw.setCell ⟨uw4.heap.size, 0, none⟩ (.int .i64 D)).setCell ⟨uw4.heap.size, 1, none⟩ (.slice none 0 0)).setCell ⟨uw4.heap.size, 2, none⟩ (.bool true)).frozen? ⟨w.heap.size + 1, 2, none⟩ = false := by simpa [World.frozen?_setCell] using zf5
     have hst := st3 (x := .int .i64 D) (y := .slice none 0 0) (z := .bool true) m0 m1 m2
     obtain ⟨s0, s1, s2⟩ := hst
     have KS : Below w.heap.size w (((gw.setCell ⟨uw4.heap.size, 0, none⟩ (.int .i64 D)).setCell ⟨uw4.heap.size, 1, none⟩ (.slice none 0 0)).setCell ⟨uw4.heap.size, 2, none⟩ (.bool true)) := (Below.setCell (Below.setCell (Below.setCell KF (by dsimp only; omega) _) (by dsimp only; omega) _) (by dsimp only; omega) _)
     have lm : uw4.heap.size < (((gw.setCell ⟨uw4.heap.size, 0, none⟩ (.int .i64 D)).setCell ⟨uw4.heap.size, 1, none⟩ (.slice none 0 0)).setCell ⟨uw4.heap.size, 2, none⟩ (.bool true)).heap.size := World.block_lt_of_cell? _ _ s0
     have lo0 : w.heap.size < (((gw.setCell ⟨uw4.heap.size, 0, none⟩ (.int .i64 D)).setCell ⟨uw4.heap.size, 1, none⟩ (.slice none 0 0)).setCell ⟨uw4.heap.size, 2, none⟩ (.bool true)).heap.size := by simp; omega
     have lo1 : w.heap.size + 1 < (((gw.setCell ⟨uw4.heap.size, 0, none⟩ (.int .i64 D)).setCell ⟨uw4.heap.size, 1, none⟩ (.slice none 0 0)).setCell ⟨uw4.heap.size, 2, none⟩ (.bool true)).heap.size := by simp; omega
     have z0 : (((gw.setCell ⟨uw4.heap.size, 0, none⟩ (.int .i64 D)).setCell ⟨uw4.heap.size, 1, none⟩ (.slice none 0 0)).setCell ⟨uw4.heap.size, 2, none⟩ (.bool true)).frozen? ⟨uw4.heap.size, 0, none⟩ = false := by simpa [World.frozen?_setCell] using fm0
     have z1 : (((gw.setCell ⟨uw4.heap.size, 0, none⟩ (.int .i64 D)).setCell ⟨uw4.heap.size, 1, none⟩ (.slice none 0 0)).setCell ⟨uw4.heap.size, 2, none⟩ (.bool true)).frozen? ⟨uw4.heap.size, 1, none⟩ = false := by simpa [World.frozen?_setCell] using fm1
     have z2 : (((gw.setCell ⟨uw4.heap.size, 0, none⟩ (.int .i64 D)).setCell ⟨uw4.heap.size, 1, none⟩ (.slice none 0 0)).setCell ⟨uw4.heap.size, 2, none⟩ (.bool true)).frozen? ⟨uw4.heap.size, 2, none⟩ = false := by simpa [World.frozen?_setCell] using fm2
     clear KF m0 fm0 m1 fm1 m2 fm2
     generalize (((gw.setCell ⟨uw4.heap.size, 0, none⟩ (.int .i64 D)).setCell ⟨uw4.heap.size, 1, none⟩ (.slice none 0 0)).setCell ⟨uw4.heap.size, 2, none⟩ (.bool true)) = gs at *
     go_meet
     exact ⟨uw4.heap.size, rfl, by omega, lm, Lib.hid (Cl.cons s0 z0 (Cl.cons s1 z1 (Cl.cons s2 z2 (Cl.cons f1 zf1 (Cl.cons f2 zf2 (Cl.cons f3 zf3 (Cl.cons f4 zf4 (Cl.cons f5 zf5 (Cl.nil _))))))))), Lib.hid KS⟩
    ·rw [if_pos (by kernel_rfl)]
     go_simp
     have hNew := HS.out _ _ hHeld ((Below.refl _ _).alloc (Nat.le_refl _) (Obj.cells #[Value.int .i64 0, Value.slice none 0 0, Value.bool false] 36))
     refine hK.out _ _ hNew (fun _ => ?_)
     replace hHeld := hNew
     clear hNew
     clear hK KK
     refine Rk.one (i := 4) (by kernel_rfl) rfl (fun KK hK => ?_)
     rw [if_pos (by kernel_rfl)]
     go_simp
     ((with_reducible refine (FD2.out _).mono ?_); rintro e uw4 ⟨rfl, hb⟩)
     have hNew := HS.out _ _ hHeld hb
     have hs_uw4 : wr.heap.size <= uw4.heap.size := by have hzz := hb.size; (try simp at hzz); omega
     have m0 : uw4.cell? ⟨wr.heap.size, 0, none⟩ = some (.int .i64 0) := Rg.keep hb (by simp) (by go_cell)
     have fm0 : uw4.frozen? ⟨wr.heap.size, 0, none⟩ = false := Rg.keepF hb (by simp) (by show (wr.drew.alloc (Obj.cells #[Value.int .i64 0, Value.slice none 0 0, Value.bool false] 36)).frozen? ⟨wr.drew.heap.size, 0, none⟩ = false; simp only [frozen?_alloc_cells]; exact Rg.notFrozen (Nat.le_refl _))
     have m1 : uw4.cell? ⟨wr.heap.size, 1, none⟩ = some (.slice none 0 0) := Rg.keep hb (by simp) (by go_cell)
     have fm1 : uw4.frozen? ⟨wr.heap.size, 1, none⟩ = false := Rg.keepF hb (by simp) (by show (wr.drew.alloc (Obj.cells #[Value.int .i64 0, Value.slice none 0 0, Value.bool false] 36)).frozen? ⟨wr.drew.heap.size, 1, none⟩ = false; simp only [frozen?_alloc_cells]; exact Rg.notFrozen (Nat.le_refl _))
     have m2 : uw4.cell? ⟨wr.heap.size, 2, none⟩ = some (.bool false) := Rg.keep hb (by simp) (by go_cell)
     have fm2 : uw4.frozen? ⟨wr.heap.size, 2, none⟩ = false := Rg.keepF hb (by simp) (by show (wr.drew.alloc (Obj.cells #[Value.int .i64 0, Value.slice none 0 0, Value.bool false] 36)).frozen? ⟨wr.drew.heap.size, 2, none⟩ = false; simp only [frozen?_alloc_cells]; exact Rg.notFrozen (Nat.le_refl _))
     first | (refine hK.out _ _ (fun _ => hNew) (fun _ => ?_)) | (refine hK.out _ _ hNew (fun _ => ?_)) | (go_wp2_with fail; refine hK.out _ _ hNew (fun _ => ?_))
     replace hHeld := hNew
     clear hNew hb
     clear hK KK
     refine Rk.takeP (i := 5) (v := ?_) rfl (by kernel_rfl) (by kernel_rfl) (by kernel_rfl) (by kernel_rfl) (fun _ _ _ h => h) (Or.inl ⟨by kernel_rfl, ?_⟩) (by assumption) ?_
     rotate_left
     ·((intro w hSw; go_simp) <;> with_reducible rfl)
     try simp only [Act.put, List.setIfInBounds_toArray, List.set_cons_zero, List.set_cons_succ]
     refine Rk.takeP (i := 6) (v := ?_) rfl (by kernel_rfl) (by kernel_rfl) (by kernel_rfl) (by kernel_rfl) (fun _ _ _ h => h) (Or.inl ⟨by kernel_rfl, ?_⟩) (by assumption) ?_
     rotate_left
     ·((intro w hSw; go_simp) <;> with_reducible rfl)
     try simp only [Act.put, List.setIfInBounds_toArray, List.set_cons_zero, List.set_cons_succ]
     refine Rk.tail [8] [_] (by kernel_rfl) (by kernel_rfl) rfl (by decide) ?_
     obtain ⟨f0, f1, f2, f3, f4, f5, zf0, zf1, zf2, zf3, zf4, zf5, KF⟩ := hHeld
     have lm : wr.heap.size < uw4.heap.size := World.block_lt_of_cell? _ _ m0
     have lw : w.heap.size <= wr.heap.size := by omega
     have ne0 : wr.heap.size ≠ w.heap.size := by omega
     have ne1 : wr.heap.size ≠ w.heap.size + 1 := by omega
     have lo0 : w.heap.size < uw4.heap.size := by omega
     have lo1 : w.heap.size + 1 < uw4.heap.size := by omega
     go_wp2_with fail
     have f0 : (((uw4.setCell ⟨wr.heap.size, 0, none⟩ (.int .i64 D)).setCell ⟨wr.heap.size, 1, none⟩ (.slice none 0 0)).setCell ⟨wr.heap.size, 2, none⟩ (.bool true)).cell? ⟨w.heap.size, 0, none⟩ = some (.int .i64 k) := far3 ne0 f0
     have f1 : (((uw4.setCell ⟨wr.heap.size, 0, none⟩ (.int .i64 D)).setCell ⟨wr.heap.size, 1, none⟩ (.slice none 0 0)).setCell ⟨wr.heap.size, 2, none⟩ (.bool true)).cell? ⟨w.heap.size, 1, none⟩ = some (.slice p j c) := far3 ne0 f1
     have f2 : (((uw4.setCell ⟨wr.heap.size, 0, none⟩ (.int .i64 D)).setCell ⟨wr.heap.size, 1, none⟩ (.slice none 0 0)).setCell ⟨wr.heap.size, 2, none⟩ (.bool true)).cell? ⟨w.heap.size, 2, none⟩ = some (.bool true) := far3 ne0 f2
     have f3 : (((uw4.setCell ⟨wr.heap.size, 0, none⟩ (.int .i64 D)).setCell ⟨wr.heap.size, 1, none⟩ (.slice none 0 0)).setCell ⟨wr.heap.size, 2, none⟩ (.bool true)).cell? ⟨w.heap.size + 1, 0, none⟩ = some (.int .i64 0) := far3 ne1 f3
     have f4 : (((uw4.setCell ⟨wr.heap.size, 0, none⟩ (.int .i64 D)).setCell ⟨wr.heap.size, 1, none⟩ (.slice none 0 0)).setCell ⟨wr.heap.size, 2, none⟩ (.bool true)).cell? ⟨w.heap.size + 1, 1, none⟩ = some (.slice none 0 0) := far3 ne1 f4
     have f5 : (((uw4.setCell ⟨wr.heap.size, 0, none⟩ (.int .i64 D)).setCell ⟨wr.heap.size, 1, none⟩ (.slice none 0 0)).setCell ⟨wr.heap.size, 2, none⟩ (.bool true)).cell? ⟨w.heap.size + 1, 2, none⟩ = some (.bool false) := far3 ne1 f5
     have zf0 : (((uw4.setCell ⟨wr.heap.size, 0, none⟩ (.int .i64 D)).setCell ⟨wr.heap.size, 1, none⟩ (.slice none 0 0)).setCell ⟨wr.heap.size, 2, none⟩ (.bool true)).frozen? ⟨w.heap.size, 0, none⟩ = false := by simpa [World.frozen?_setCell] using zf0
     have zf1 : (((uw4.setCell ⟨wr.heap.size, 0, none⟩ (.int .i64 D)).setCell ⟨wr.heap.size, 1, none⟩ (.slice none 0 0)).setCell ⟨wr.heap.size, 2, none⟩ (.bool true)).frozen? ⟨w.heap.size, 1, none⟩ = false := by simpa [World.frozen?_setCell] using zf1
     have zf2 : (((uw4.setCell ⟨wr.heap.size, 0, none⟩ (.int .i64 D)).setCell ⟨wr.heap.size, 1, none⟩ (.slice none 0 0)).setCell ⟨wr.heap.size, 2, none⟩ (.bool true)).frozen? ⟨w.heap.size, 2, none⟩ = false := by simpa [World.frozen?_setCell] using zf2
     have zf3 : (((uw4.setCell ⟨wr.heap.size, 0, none⟩ (.int .i64 D)).setCell ⟨wr.heap.size, 1, none⟩ (.slice none 0 0)).setCell ⟨wr.heap.size, 2, none⟩ (.bool true)).frozen? ⟨w.heap.size + 1, 0, none⟩ = false := by simpa [World.frozen?_setCell] using zf3
     have zf4 : (((uw4.setCell ⟨wr.heap.size, 0, none⟩ (.int .i64 D)).setCell ⟨wr.heap.size, 1, none⟩ (.slice none 0 0)).setCell ⟨wr.heap.size, 2, none⟩ (.bool true)).frozen? ⟨w.heap.size + 1, 1, none⟩ = false := by simpa [World.frozen?_setCell] using zf4
     have zf5 : (((uw4.setCell ⟨wr.heap.size, 0, none⟩ (.int .i64 D)).setCell ⟨wr.heap.size, 1, none⟩ (.slice none 0 0)).setCell ⟨wr.heap.size, 2, none⟩ (.bool true)).frozen? ⟨w.heap.size + 1, 2, none⟩ = false := by simpa [World.frozen?_setCell] using zf5
     have hst := st3 (x := .int .i64 D) (y := .slice none 0 0) (z := .bool true) m0 m1 m2
     obtain ⟨s0, s1, s2⟩ := hst
     have KS : Below w.heap.size w (((uw4.setCell ⟨wr.heap.size, 0, none⟩ (.int .i64 D)).setCell ⟨wr.heap.size, 1, none⟩ (.slice none 0 0)).setCell ⟨wr.heap.size, 2, none⟩ (.bool true)) := (Below.setCell (Below.setCell (Below.setCell KF (by dsimp only; omega) _) (by dsimp only; omega) _) (by dsimp only; omega) _)
     have lm : wr.heap.size < (((uw4.setCell ⟨wr.heap.size, 0, none⟩ (.int .i64 D)).setCell ⟨wr.heap.size, 1, none⟩ (.slice none 0 0)).setCell ⟨wr.heap.size, 2, none⟩ (.bool true)).heap.size := World.block_lt_of_cell? _ _ s0
     have lo0 : w.heap.size < (((uw4.setCell ⟨wr.heap.size, 0, none⟩ (.int .i64 D)).setCell ⟨wr.heap.size, 1, none⟩ (.slice none 0 0)).setCell ⟨wr.heap.size, 2, none⟩ (.bool true)).heap.size := by simp; omega
     have lo1 : w.heap.size + 1 < (((uw4.setCell ⟨wr.heap.size, 0, none⟩ (.int .i64 D)).setCell ⟨wr.heap.size, 1, none⟩ (.slice none 0 0)).setCell ⟨wr.heap.size, 2, none⟩ (.bool true)).heap.size := by simp; omega
     have z0 : (((uw4.setCell ⟨wr.heap.size, 0, none⟩ (.int .i64 D)).setCell ⟨wr.heap.size, 1, none⟩ (.slice none 0 0)).setCell ⟨wr.heap.size, 2, none⟩ (.bool true)).frozen? ⟨wr.heap.size, 0, none⟩ = false := by simpa [World.frozen?_setCell] using fm0
     have z1 : (((uw4.setCell ⟨wr.heap.size, 0, none⟩ (.int .i64 D)).setCell ⟨wr.heap.size, 1, none⟩ (.slice none 0 0)).setCell ⟨wr.heap.size, 2, none⟩ (.bool true)).frozen? ⟨wr.heap.size, 1, none⟩ = false := by simpa [World.frozen?_setCell] using fm1
     have z2 : (((uw4.setCell ⟨wr.heap.size, 0, none⟩ (.int .i64 D)).setCell ⟨wr.heap.size, 1, none⟩ (.slice none 0 0)).setCell ⟨wr.heap.size, 2, none⟩ (.bool true)).frozen? ⟨wr.heap.size, 2, none⟩ = false := by simpa [World.frozen?_setCell] using fm2
     clear KF m0 fm0 m1 fm1 m2 fm2
     generalize (((uw4.setCell ⟨wr.heap.size, 0, none⟩ (.int .i64 D)).setCell ⟨wr.heap.size, 1, none⟩ (.slice none 0 0)).setCell ⟨wr.heap.size, 2, none⟩ (.bool true)) = gs at *
     go_meet
     exact ⟨wr.heap.size, rfl, by omega, lm, Lib.hid (Cl.cons s0 z0 (Cl.cons s1 z1 (Cl.cons s2 z2 (Cl.cons f1 zf1 (Cl.cons f2 zf2 (Cl.cons f3 zf3 (Cl.cons f4 zf4 (Cl.cons f5 zf5 (Cl.nil _))))))))), Lib.hid KS⟩
   case rest =>
   obtain ⟨gr, rfl, lgr, lm9, F1h, KS9⟩ := hcut
   clear FD FD2 hz16 lr1 f0 f1 f2 f3 f4 f5 zf0 zf1 zf2 zf3 zf4 zf5 KF lr
   go_wp2_with fail
   go_loopw [10] (fun i wr => ∃ (m : Nat) (vl : Value), i = .int .i64 m /\ m <= j /\ gr < wr.heap.size /\ Hid (Cl ((gr, 0, .int .i64 D) :: (gr, 1, vl) :: (gr, 2, .bool true) :: [(w.heap.size, 1, .slice p j c), (w.heap.size, 2, .bool true), (w.heap.size + 1, 0, .int .i64 0), (w.heap.size + 1, 1, .slice none 0 0), (w.heap.size + 1, 2, .bool false)]) wr) /\ Hid (Below w.heap.size w wr) /\ Hid (wr.ownsRow (gr + 1) 59 2 vl m (moCs (tdY g (xs.take m))))) (fun i _ => j - (intOf i).toNat)
   case atStart => exact ⟨0, .slice none 0 0, rfl, Nat.zero_le _, lm9, F1h, KS9, Lib.hid (World.ownsRow_nil _ _ _ _)⟩
   case round =>
    obtain ⟨m, vl, rfl, hm, hlt9, hF, hB, hO⟩ := hrel
    clear F1h KS9 lm9
    have mm : (0 : Int) <= m := by omega
    have d0 := hF.out.head
    have d1 := hF.out.tail.head
    have d2 := hF.out.tail.tail.head
    have d3 := hF.out.tail.tail.tail.head
    have d4 := hF.out.tail.tail.tail.tail.head
    by_cases hlt : m < j
    ·obtain ⟨b, o, rfl, e0, e1⟩ := RA.out m (by rw [HN.out]; exact hlt)
     have m2 : (m : Int) < j := by omega
     have hbw : b < w.heap.size := World.block_lt_of_cell? _ _ e0
     replace e0 := Rg.keep hB.out hbw e0
     replace e1 := Rg.keep hB.out hbw e1
     have hbr : b < wr.heap.size := World.block_lt_of_cell? _ _ e0
     have hst := tdY_take (G := g) (xs := xs) (j := m) (by rw [HN.out]; exact hlt)
     obtain ⟨-, y0, y1⟩ := RS.out m (by rw [HN.out]; exact hlt)
     obtain ⟨x, hx⟩ : ∃ x, xs.getD m mo0 = x := ⟨_, rfl⟩
     rw [hx] at e0 e1 hst y0 y1
     obtain ⟨z, a⟩ := x
     dsimp only at e0 e1 hst y0 y1
     have FB : Hid (∀ w, Calls Tryd.prog 65 #[.int .i64 a, .int .u64 (g : Int)] w fun e w' => e = .returned (.int .i64 (a / (g : Int))) /\ Below w.heap.size w w') := Lib.hid fun w => (FA.out a y0 y1 w).mono fun e w' ⟨h1, h2⟩ => ⟨h1, by rw [<- h2]; exact Below.refl _ _⟩
     have HST := Lib.hid hst
     have hz20 : wr.drew.cell? ⟨gr, 1, none⟩ = some (vl) /\ wr.drew.cell? ⟨w.heap.size, 1, none⟩ = some (.slice (some ⟨b, o, none⟩) j c) /\ wr.drew.cell? ⟨b, o + m * 2, none⟩ = some (.string z) /\ wr.drew.cell? ⟨b, o + m * 2 + 1, none⟩ = some (.int .i64 a) /\ Below wr.heap.size wr wr.drew := ⟨d1, d3, e0, e1, (Below.refl _ _).drew⟩
     have HS2 : Hid (∀ u u' : World, (u.cell? ⟨gr, 1, none⟩ = some (vl) /\ u.cell? ⟨w.heap.size, 1, none⟩ = some (.slice (some ⟨b, o, none⟩) j c) /\ u.cell? ⟨b, o + m * 2, none⟩ = some (.string z) /\ u.cell? ⟨b, o + m * 2 + 1, none⟩ = some (.int .i64 a) /\ Below wr.heap.size wr u) -> Below u.heap.size u u' -> (u'.cell? ⟨gr, 1, none⟩ = some (vl) /\ u'.cell? ⟨w.heap.size, 1, none⟩ = some (.slice (some ⟨b, o, none⟩) j c) /\ u'.cell? ⟨b, o + m * 2, none⟩ = some (.string z) /\ u'.cell? ⟨b, o + m * 2 + 1, none⟩ = some (.int .i64 a) /\ Below wr.heap.size wr u')) := Lib.hid (fun u u' h hb => ⟨Rg.keep hb (World.block_lt_of_cell? _ _ h.1) h.1, Rg.keep hb (World.block_lt_of_cell? _ _ h.2.1) h.2.1, Rg.keep hb (World.block_lt_of_cell? _ _ h.2.2.1) h.2.2.1, Rg.keep hb (World.block_lt_of_cell? _ _ h.2.2.2.1) h.2.2.2.1, h.2.2.2.2.trans (hb.mono h.2.2.2.2.size)⟩)
     clear hx hst y0 y1
     go_wp2_with fail
     refine Rk.begin (S := fun wS => wS.cell? ⟨gr, 1, none⟩ = some (vl) /\ wS.cell? ⟨w.heap.size, 1, none⟩ = some (.slice (some ⟨b, o, none⟩) j c) /\ wS.cell? ⟨b, o + m * 2, none⟩ = some (.string z) /\ wS.cell? ⟨b, o + m * 2 + 1, none⟩ = some (.int .i64 a) /\ Below wr.heap.size wr wS) 21 (by kernel_rfl) hz20 (fun hHeld => ?_)
     refine Rk.takeP (i := 0) (v := ?_) rfl (by kernel_rfl) (by kernel_rfl) (by kernel_rfl) (by kernel_rfl) (fun _ _ _ h => h) (Or.inl ⟨by kernel_rfl, ?_⟩) (by assumption) ?_
     rotate_left
     ·((intro w hSw; go_simp) <;> with_reducible rfl)
     try simp only [Act.put, List.setIfInBounds_toArray, List.set_cons_zero, List.set_cons_succ]
     refine Rk.takeP (i := 1) (v := ?_) rfl (by kernel_rfl) (by kernel_rfl) (by kernel_rfl) (by kernel_rfl) (fun _ _ _ h => h) (Or.inl ⟨by kernel_rfl, ?_⟩) (by assumption) ?_
     rotate_left
     ·((intro w hSw; go_simp) <;> with_reducible rfl)
     try simp only [Act.put, List.setIfInBounds_toArray, List.set_cons_zero, List.set_cons_succ]
     refine Rk.take [21] (i := 2) (v := ?_) rfl (by kernel_rfl) (by kernel_rfl) (by kernel_rfl) (by kernel_rfl) (by kernel_rfl) (fun _ _ _ h => h) (Or.inl ⟨by kernel_rfl, ?_⟩) (by assumption) ?_
     rotate_left
     ·((intro w hSw; (try dsimp only at hSw); go_simp) <;> with_reducible rfl)
     try simp only [Act.put, List.setIfInBounds_toArray, List.set_cons_zero, List.set_cons_succ]
     refine Rk.takeP (i := 3) (v := ?_) rfl (by kernel_rfl) (by kernel_rfl) (by kernel_rfl) (by kernel_rfl) (fun _ _ _ h => h) (Or.inl ⟨by kernel_rfl, ?_⟩) (by assumption) ?_
     rotate_left
     ·((intro w hSw; go_simp) <;> with_reducible rfl)
     try simp only [Act.put, List.setIfInBounds_toArray, List.set_cons_zero, List.set_cons_succ]
     refine Rk.takeP (i := 4) (v := ?_) rfl (by kernel_rfl) (by kernel_rfl) (by kernel_rfl) (by kernel_rfl) (fun _ _ _ h => h) (Or.inl ⟨by kernel_rfl, ?_⟩) (by assumption) ?_
     rotate_left
     ·((intro w hSw; go_simp) <;> with_reducible rfl)
     try simp only [Act.put, List.setIfInBounds_toArray, List.set_cons_zero, List.set_cons_succ]
     refine Rk.take [7, 8, 9, 19, 20, 21] (i := 5) (v := ?_) rfl (by kernel_rfl) (by kernel_rfl) (by kernel_rfl) (by kernel_rfl) (by kernel_rfl) (fun _ _ _ h => h) (Or.inl ⟨by kernel_rfl, ?_⟩) (by assumption) ?_
     rotate_left
     ·((intro w hSw; (try dsimp only at hSw); go_simp) <;> with_reducible rfl)
     try simp only [Act.put, List.setIfInBounds_toArray, List.set_cons_zero, List.set_cons_succ]
     refine Rk.takeP (i := 6) (v := ?_) rfl (by kernel_rfl) (by kernel_rfl) (by kernel_rfl) (by kernel_rfl) (fun _ _ _ h => h) (Or.inl ⟨by kernel_rfl, ?_⟩) (by assumption) ?_
     rotate_left
     ·((intro w hSw; go_simp) <;> with_reducible rfl)
     try simp only [Act.put, List.setIfInBounds_toArray, List.set_cons_zero, List.set_cons_succ]
     refine Rk.takeP (i := 7) (v := ?_) rfl (by kernel_rfl) (by kernel_rfl) (by kernel_rfl) (by kernel_rfl) (fun _ _ _ h => h) (Or.inl ⟨by kernel_rfl, ?_⟩) (by assumption) ?_
     rotate_left
     ·((intro w hSw; go_simp) <;> with_reducible rfl)
     try simp only [Act.put, List.setIfInBounds_toArray, List.set_cons_zero, List.set_cons_succ]
     refine Rk.takeP (i := 8) (v := ?_) rfl (by kernel_rfl) (by kernel_rfl) (by kernel_rfl) (by kernel_rfl) (fun _ _ _ h => h) (Or.inl ⟨by kernel_rfl, ?_⟩) (by assumption) ?_
     rotate_left
     ·((intro w hSw; go_simp) <;> with_reducible rfl)
     try simp only [Act.put, List.setIfInBounds_toArray, List.set_cons_zero, List.set_cons_succ]
     refine Rk.take [19, 20, 21] (i := 9) (v := ?_) rfl (by kernel_rfl) (by kernel_rfl) (by kernel_rfl) (by kernel_rfl) (by kernel_rfl) (fun _ _ _ h => h) (Or.inl ⟨by kernel_rfl, ?_⟩) (by assumption) ?_
     rotate_left
     ·((intro w hSw; (try dsimp only at hSw); go_simp) <;> with_reducible rfl)
     try simp only [Act.put, List.setIfInBounds_toArray, List.set_cons_zero, List.set_cons_succ]
     refine Rk.takeP (i := 10) (v := ?_) rfl (by kernel_rfl) (by kernel_rfl) (by kernel_rfl) (by kernel_rfl) (fun _ _ _ h => h) (Or.inl ⟨by kernel_rfl, ?_⟩) (by assumption) ?_
     rotate_left
     ·((intro w hSw; go_simp) <;> with_reducible rfl)
     try simp only [Act.put, List.setIfInBounds_toArray, List.set_cons_zero, List.set_cons_succ]
     refine Rk.takeP (i := 11) (v := ?_) rfl (by kernel_rfl) (by kernel_rfl) (by kernel_rfl) (by kernel_rfl) (fun _ _ _ h => h) (Or.inl ⟨by kernel_rfl, ?_⟩) (by assumption) ?_
     rotate_left
     ·((intro w hSw; go_simp) <;> with_reducible rfl)
     try simp only [Act.put, List.setIfInBounds_toArray, List.set_cons_zero, List.set_cons_succ]
     refine Rk.take [14, 15, 16, 18, 21] (i := 12) (v := ?_) rfl (by kernel_rfl) (by kernel_rfl) (by kernel_rfl) (by kernel_rfl) (by kernel_rfl) (fun _ _ _ h => h) (Or.inl ⟨by kernel_rfl, ?_⟩) (by assumption) ?_
     rotate_left
     ·((intro w hSw; (try dsimp only at hSw); go_simp) <;> with_reducible rfl)
     try simp only [Act.put, List.setIfInBounds_toArray, List.set_cons_zero, List.set_cons_succ]
     refine Rk.takeP (i := 13) (v := ?_) rfl (by kernel_rfl) (by kernel_rfl) (by kernel_rfl) (by kernel_rfl) (fun _ _ _ h => h) (Or.inl ⟨by kernel_rfl, ?_⟩) (by assumption) ?_
     rotate_left
     ·((intro w hSw; go_simp) <;> with_reducible rfl)
     try simp only [Act.put, List.setIfInBounds_toArray, List.set_cons_zero, List.set_cons_succ]
     refine Rk.takeP (i := 14) (v := ?_) rfl (by kernel_rfl) (by kernel_rfl) (by kernel_rfl) (by kernel_rfl) (fun _ _ _ h => h) (Or.inl ⟨by kernel_rfl, ?_⟩) (by assumption) ?_
     rotate_left
     ·((intro w hSw; go_simp) <;> with_reducible rfl)
     try simp only [Act.put, List.setIfInBounds_toArray, List.set_cons_zero, List.set_cons_succ]
     refine Rk.takeP (i := 15) (v := ?_) rfl (by kernel_rfl) (by kernel_rfl) (by kernel_rfl) (by kernel_rfl) (fun _ _ _ h => h) (Or.inl ⟨by kernel_rfl, ?_⟩) (by assumption) ?_
     rotate_left
     ·((intro w hSw; go_simp) <;> with_reducible rfl)
     try simp only [Act.put, List.setIfInBounds_toArray, List.set_cons_zero, List.set_cons_succ]
     refine Rk.take [18, 21] (i := 16) (v := ?_) rfl (by kernel_rfl) (by kernel_rfl) (by kernel_rfl) (by kernel_rfl) (by kernel_rfl) (fun _ _ _ h => h) (Or.inl ⟨by kernel_rfl, ?_⟩) (by assumption) ?_
     rotate_left
     ·((intro w hSw; (try dsimp only at hSw); go_simp) <;> with_reducible rfl)
     try simp only [Act.put, List.setIfInBounds_toArray, List.set_cons_zero, List.set_cons_succ]
     refine Rk.takeP (i := 17) (v := ?_) rfl (by kernel_rfl) (by kernel_rfl) (by kernel_rfl) (by kernel_rfl) (fun _ _ _ h => h) (Or.inl ⟨by kernel_rfl, ?_⟩) (by assumption) ?_
     rotate_left
     ·((intro w hSw; go_simp) <;> with_reducible rfl)
     try simp only [Act.put, List.setIfInBounds_toArray, List.set_cons_zero, List.set_cons_succ]
     refine Rk.one (i := 18) (by kernel_rfl) rfl (fun KK hK => ?_)
     rw [if_pos (by kernel_rfl)]
     go_simp
     ((with_reducible refine (FB.out _).mono ?_); rintro e u ⟨rfl, hb⟩)
     have FU := Lib.hid (hF.out.drew.below hb)
     have OU := Lib.hid (own_belowE hO.out.drew hb)
     have KU := Lib.hid (hB.out.drew.trans (hb.mono hB.out.drew.size))
     have hgu : gr < u.heap.size := Nat.lt_of_lt_of_le hlt9 hb.size
     have hNew := HS2.out _ _ hHeld hb
     first | (refine hK.out _ _ (fun _ => hNew) (fun _ => ?_)) | (refine hK.out _ _ hNew (fun _ => ?_)) | (go_wp2_with fail; refine hK.out _ _ hNew (fun _ => ?_))
     replace hHeld := hNew
     clear hNew hb hF hO hB
     clear hK KK
     refine Rk.takeP (i := 19) (v := ?_) rfl (by kernel_rfl) (by kernel_rfl) (by kernel_rfl) (by kernel_rfl) (fun _ _ _ h => h) (Or.inl ⟨by kernel_rfl, ?_⟩) (by assumption) ?_
     rotate_left
     ·((intro w hSw; go_simp) <;> with_reducible rfl)
     try simp only [Act.put, List.setIfInBounds_toArray, List.set_cons_zero, List.set_cons_succ]
     refine Rk.one (i := 20) (by kernel_rfl) rfl (fun KK hK => ?_)
     rw [if_pos (by kernel_rfl)]
     go_simp
     refine hK.out _ _ (HS2.out _ _ hHeld ((Below.refl _ _).alloc (Nat.le_refl _) (Obj.cells #[Value.string z, Value.int .i64 (a / (g : Int))] 59))) (fun hHeld => ?_)
     clear hK KK
     refine Rk.tail [21, 22, 23, 24] [_, _, _, _] (by kernel_rfl) (by kernel_rfl) rfl (by decide) ?_
     obtain ⟨hi, hz0, hz1, hz2⟩ := HI9.out
     have v0 : (u.alloc (Obj.cells #[Value.string z, Value.int .i64 (a / (g : Int))] 59)).cell? ⟨u.heap.size, 0, none⟩ = some (.string z) := by go_cell
     have v1 : (u.alloc (Obj.cells #[Value.string z, Value.int .i64 (a / (g : Int))] 59)).cell? ⟨u.heap.size, 1, none⟩ = some (.int .i64 (a / (g : Int))) := by go_cell
     clear hHeld hz20 HS2 d0 d1 d2 d3 d4 e0 e1 v0 v1
     go_wp2_with (at_builtin; refine wpList_append_own _ rfl _ _ 22 rfl (gr + 1) 59 i0 (.agg #[.string ⟨#[]⟩, .int .i64 0]) 2 24 Tryd.underlying22 hi hz0 hz1 hz2 rfl (by decide) _ _ _ rfl (OU.out.alloc _) ⟨u.heap.size, 0, none⟩ 1 1 [.string z, .int .i64 (a / (g : Int))] rfl rfl ?_ ?_ ?_ ?_ ?_ ?_)
     ·intro q x hx
      rcases q with _ | _ | q
      ·cases hx; go_cell
      ·cases hx; go_cell
      ·simp at hx
     ·intro x hx
      simp at hx
      rcases hx with rfl | rfl <;> rfl
     ·unfold maxLen; omega
     ·omega
     ·simp; omega
     intro v' w4 hown' hgrow _
     have FV := FU.out.below ((Below.refl _ _).alloc (Nat.le_refl _) (Obj.cells #[Value.string z, Value.int .i64 (a / (g : Int))] 59))
     have F4 := FV.own (OU.out.alloc _) hgrow (by simp only [List.forall_mem_cons]; simp; omega)
     have K4 := (KU.out.alloc KU.out.size (Obj.cells #[Value.string z, Value.int .i64 (a / (g : Int))] 59)).grown hgrow (KU.out.alloc KU.out.size (Obj.cells #[Value.string z, Value.int .i64 (a / (g : Int))] 59)).size (fun q hq => by have := (OU.out.lt q hq).1; have := KU.out.size; omega)
     have hown2 : Hid (w4.ownsRow (gr + 1) 59 2 v' (m + 1) (moCs (tdY g (xs.take (m + 1))))) := Lib.hid (by
      rw [HST.out]
      exact hown')
     obtain ⟨q', c', rfl⟩ := own_slice hown2.out
     clear hown' hgrow FU FV OU KU hi hz0 hz1 hz2
     have e0 := F4.head
     have ze0 := F4.headF
     have e1 := F4.tail.head
     have ze1 := F4.tail.headF
     have e2 := F4.tail.tail.head
     have ze2 := F4.tail.tail.headF
     have F5 := F4.tail.tail.tail
     go_wp2
     go_roundw
     case rel =>
      refine ⟨m + 1, .slice q' (m + 1) c', by go_num, by omega, by rw [World.size_setCell]; exact World.block_lt_of_cell? _ _ e0, Lib.hid (Cl.cons (by go_cell) (by simp [World.frozen?_setCell, ze0]) (Cl.cons (by go_cell) (by simp [World.frozen?_setCell, ze1]) (Cl.cons (by go_cell) (by simp [World.frozen?_setCell, ze2]) (F5.far (by simp only [List.forall_mem_cons]; simp; omega))))), Lib.hid (K4.setCell (p := ⟨gr, 1, none⟩) (by show w.heap.size <= gr; omega) _), Lib.hid (own_set hown2.out (by show gr < gr + 1; omega))⟩
     case measure => simp [intOf]; omega
    ·obtain rfl : m = j := by omega
     have hO2 := hO.out
     rw [show xs.take m = xs by rw [<- HN.out]; exact List.take_length] at hO2
     have r0 := hF.out.tail.tail.tail.tail.tail.head
     have zr0 := hF.out.tail.tail.tail.tail.tail.headF
     have r1 := hF.out.tail.tail.tail.tail.tail.tail.head
     have zr1 := hF.out.tail.tail.tail.tail.tail.tail.headF
     have r2 := hF.out.tail.tail.tail.tail.tail.tail.tail.head
     have zr2 := hF.out.tail.tail.tail.tail.tail.tail.tail.headF
     have lr9 : w.heap.size + 1 < wr.heap.size := World.block_lt_of_cell? _ _ r0
     have hlY : (tdY g xs).length = m := by rw [tdY_len, HN.out]
     have hm0 : 0 < m := by have h1 := HN0.out; have h2 := HN.out; omega
     obtain ⟨g2, c2, rfl⟩ : ∃ g2 c2, vl = .slice (some ⟨g2, 0, none⟩) m c2 := by
      rcases hO2.2 with ⟨_, h⟩ | ⟨g', cap, cur, h, _⟩
      ·omega
      ·exact ⟨g', cap, h⟩
     have hg2 : gr + 1 <= g2 := (hO2.lt g2 rfl).1
     have hg3 : g2 < wr.heap.size := (hO2.lt g2 rfl).2
     have s1 := hO2.cellAt 1 (by omega)
     have mg := (moCs_get (tdY g xs) 0 (by omega)).2
     rw [show 0 * 2 + 1 = 1 from rfl] at mg
     rw [mg] at s1
     have KE := hB.out
     have HO2 := Lib.hid hO2
     have hps := HPOS.out
     obtain ⟨y, hy⟩ : ∃ y, (tdY g xs).getD 0 mo0 = y := ⟨_, rfl⟩
     have HY0 := Lib.hid hy
     rw [hy] at s1 hps
     have hj0 : (0 : Int) < m := by omega
     have hps2 : decide (0 < y.2) = false := by rw [decide_eq_true_eq] at hps; rw [decide_eq_false_iff_not]; omega
     have HLY := Lib.hid hlY
     clear hO hO2 FA RS RA hy mg hps hlY
     by_cases hk : D = -9223372036854775808
     ·have kk1 : (D == -9223372036854775808) = true := by simpa using hk
      have hres := HRES.out
      rw [HD9.out, hk, sclN_k HOK.out] at hres
      rw [if_pos (by decide)] at hres
      subst hres
      clear hk hF hB
      go_wp2
      exact bodyPost_ret (v := .tuple #[.agg #[.int .i64 0, .slice none 0 0, .bool false], .int .i64 0, .int .i64 3]) (by simp [results, Tryd.results29, go_sem, r0, zr0, r1, zr1, r2, zr2, lr9]) rfl (TQ.nil (((KE.setCell (p := ⟨w.heap.size + 1, 0, none⟩) (by dsimp only; omega) _).setCell (p := ⟨w.heap.size + 1, 1, none⟩) (by dsimp only; omega) _).setCell (p := ⟨w.heap.size + 1, 2, none⟩) (by dsimp only; omega) _))
     ·have kk1 : (D == -9223372036854775808) = false := by simpa using hk
      have HK := Lib.hid hk
      have dd := D0.out
      have wn : IntKind.i64.wrap (-D) = -D := by rw [IntKind.wrap_i64]; omega
      have wn2 : wrap64 (-D) = -D := by unfold wrap64; omega
      have zd0 := hF.out.headF
      have hF3 := hF.out.tail
      clear hk
      go_wp2
      have F3 : Hid (Cl ((gr, 0, .int .i64 (-D)) :: (gr, 1, .slice (some ⟨g2, 0, none⟩) m c2) :: (gr, 2, .bool true) :: [(w.heap.size, 1, .slice p m c), (w.heap.size, 2, .bool true), (w.heap.size + 1, 0, .int .i64 0), (w.heap.size + 1, 1, .slice none 0 0), (w.heap.size + 1, 2, .bool false)]) (wr.setCell ⟨gr, 0, none⟩ (.int .i64 (-D)))) := Lib.hid (by
       have e1 := hF3.head
       have ze1 := hF3.headF
       have e2 := hF3.tail.head
       have ze2 := hF3.tail.headF
       exact Cl.cons (by go_cell) (by simp [World.frozen?_setCell, zd0]) (Cl.cons (by go_cell) (by simp [World.frozen?_setCell, ze1]) (Cl.cons (by go_cell) (by simp [World.frozen?_setCell, ze2]) (hF3.tail.tail.far (by simp only [List.forall_mem_cons]; simp; omega)))))
      have K3 : Hid (Below w.heap.size w (wr.setCell ⟨gr, 0, none⟩ (.int .i64 (-D)))) := Lib.hid (KE.setCell (p := ⟨gr, 0, none⟩) (by dsimp only; omega) _)
      have O3 : Hid ((wr.setCell ⟨gr, 0, none⟩ (.int .i64 (-D))).ownsRow (gr + 1) 59 2 (.slice (some ⟨g2, 0, none⟩) m c2) m (moCs (ngT (tdY g xs) 0))) := Lib.hid (by
       rw [show ngT (tdY g xs) 0 = tdY g xs by unfold ngT; simp]
       exact own_set HO2.out (by dsimp only; omega))
      have l3 : g2 < (wr.setCell ⟨gr, 0, none⟩ (.int .i64 (-D))).heap.size := by rw [World.size_setCell]; exact hg3
      clear HO2 hF hB hF3 KE s1 hps2 d0 d1 d2 d3 d4 r0 zr0 r1 zr1 r2 zr2 zd0
      go_loopw [11] (fun i wr => ∃ t : Nat, i = .int .i64 t /\ t <= m /\ g2 < wr.heap.size /\ Hid (Cl ((gr, 0, .int .i64 (-D)) :: (gr, 1, .slice (some ⟨g2, 0, none⟩) m c2) :: (gr, 2, .bool true) :: [(w.heap.size, 1, .slice p m c), (w.heap.size, 2, .bool true), (w.heap.size + 1, 0, .int .i64 0), (w.heap.size + 1, 1, .slice none 0 0), (w.heap.size + 1, 2, .bool false)]) wr) /\ Hid (Below w.heap.size w wr) /\ Hid (wr.ownsRow (gr + 1) 59 2 (.slice (some ⟨g2, 0, none⟩) m c2) m (moCs (ngT (tdY g xs) t))) /\ Hid (∀ i, i < t -> ((tdY g xs).getD i mo0).2 ≠ -9223372036854775808)) (fun i _ => m - (intOf i).toNat)
      case atStart => exact ⟨0, rfl, Nat.zero_le _, l3, F3, K3, O3, Lib.hid (fun i hi => absurd hi (by omega))⟩
      case round =>
       obtain ⟨t, rfl, ht, l4, hF, hB, hO, hNE⟩ := hrel
       clear F3 K3 O3 l3
       have tt : (0 : Int) <= t := by omega
       have d0 := hF.out.head
       have d1 := hF.out.tail.head
       have d2 := hF.out.tail.tail.head
       have d3 := hF.out.tail.tail.tail.head
       have d4 := hF.out.tail.tail.tail.tail.head
       have r0 := hF.out.tail.tail.tail.tail.tail.head
       have zr0 := hF.out.tail.tail.tail.tail.tail.headF
       have r1 := hF.out.tail.tail.tail.tail.tail.tail.head
       have zr1 := hF.out.tail.tail.tail.tail.tail.tail.headF
       have r2 := hF.out.tail.tail.tail.tail.tail.tail.tail.head
       have zr2 := hF.out.tail.tail.tail.tail.tail.tail.tail.headF
       have lr9 : w.heap.size + 1 < wr.heap.size := World.block_lt_of_cell? _ _ r0
       have lg9 : gr < wr.heap.size := World.block_lt_of_cell? _ _ d0
       by_cases hlt4 : t < m
       ·have t2 : (t : Int) < m := by omega
        have mg := (moCs_get (ngT (tdY g xs) t) t (by rw [ngT_len _ _ (by rw [HLY.out]; exact ht), HLY.out]; exact hlt4)).2
        rw [ngT_get _ _ (by rw [HLY.out]; exact hlt4)] at mg
        have c9 := hO.out.cellAt (t * 2 + 1) (by omega)
        have zc9 := hO.out.frozenAt (t * 2 + 1)
        rw [mg] at c9
        have hst := Lib.hid (ngT_step (tdY g xs) t (by rw [HLY.out]; exact hlt4))
        have hbd := HTB.out t (by rw [HLY.out]; exact hlt4)
        obtain ⟨a, ha⟩ : ∃ a, ((tdY g xs).getD t mo0).2 = a := ⟨_, rfl⟩
        have HA := Lib.hid ha
        rw [ha] at c9 hbd
        have hst := Lib.hid (by have h := hst.out; rw [ha] at h; exact h)
        clear mg ha
        by_cases hm : a = -9223372036854775808
        ·have kk2 : (a == -9223372036854775808) = true := by simpa using hm
         have hres := HRES.out
         rw [HD9.out, sclN_m (t := t) HOK.out (by rw [HLY.out]; exact hlt4) (by rw [HA.out]; exact hm)] at hres
         rw [if_pos (by decide)] at hres
         subst hres
         have KE := hB.out
         clear hm hF hB hO hst
         go_wp2
         exact bodyPost_ret (v := .tuple #[.agg #[.int .i64 0, .slice none 0 0, .bool false], .int .i64 0, .int .i64 3]) (by simp [results, Tryd.results29, go_sem, r0, zr0, r1, zr1, r2, zr2, lr9]) rfl (TQ.nil (((KE.setCell (p := ⟨w.heap.size + 1, 0, none⟩) (by dsimp only; omega) _).setCell (p := ⟨w.heap.size + 1, 1, none⟩) (by dsimp only; omega) _).setCell (p := ⟨w.heap.size + 1, 2, none⟩) (by dsimp only; omega) _))
        ·have kk2 : (a == -9223372036854775808) = false := by simpa using hm
         have wn : IntKind.i64.wrap (-a) = -a := by rw [IntKind.wrap_i64]; omega
         have wn2 : wrap64 (-a) = -a := by unfold wrap64; omega
         have NE2 : Hid (∀ i, i < t + 1 -> ((tdY g xs).getD i mo0).2 ≠ -9223372036854775808) := Lib.hid (fun i hi => by
          rcases Nat.lt_or_ge i t with h | h
          ·exact hNE.out i h
          ·have e : i = t := by omega
           rw [e, HA.out]
           exact hm)
         have F4 : Hid (Cl ((gr, 0, .int .i64 (-D)) :: (gr, 1, .slice (some ⟨g2, 0, none⟩) m c2) :: (gr, 2, .bool true) :: [(w.heap.size, 1, .slice p m c), (w.heap.size, 2, .bool true), (w.heap.size + 1, 0, .int .i64 0), (w.heap.size + 1, 1, .slice none 0 0), (w.heap.size + 1, 2, .bool false)]) (wr.setCell ⟨g2, t * 2 + 1, none⟩ (.int .i64 (-a)))) := Lib.hid (hF.out.far (by simp only [List.forall_mem_cons]; simp; omega))
         have K4 : Hid (Below w.heap.size w (wr.setCell ⟨g2, t * 2 + 1, none⟩ (.int .i64 (-a)))) := Lib.hid (hB.out.setCell (p := ⟨g2, t * 2 + 1, none⟩) (by dsimp only; omega) _)
         have O4 : Hid ((wr.setCell ⟨g2, t * 2 + 1, none⟩ (.int .i64 (-a))).ownsRow (gr + 1) 59 2 (.slice (some ⟨g2, 0, none⟩) m c2) m (moCs (ngT (tdY g xs) (t + 1)))) := Lib.hid (by
          have h := (hO.out.stored (t * 2 + 1) (.int .i64 (-a))).1
          rw [hst.out] at h
          exact h)
         clear hm hF hB hO hst hNE
         go_wp2_with fail
         go_region
         all_goals
          go_wp2
          go_roundw
          case rel => exact ⟨t + 1, by go_num, by omega, (by simp; exact l4), Lib.hid F4.out.drew, Lib.hid K4.out.drew, Lib.hid O4.out.drew, NE2⟩
          case measure => simp [intOf]; omega
       ·obtain rfl : t = m := by omega
        have hO4 := hO.out
        rw [show ngT (tdY g xs) t = (tdY g xs).map ng by rw [<- HLY.out]; exact ngT_all _] at hO4
        obtain ⟨q, d, hvl, hS⟩ := own_sl' (l := (tdY g xs).map ng) hO4 (by rw [List.length_map, HLY.out])
        cases hvl
        have KE := hB.out
        have hres := HRES.out
        rw [HD9.out, sclN_ok HOK.out dd.1 dd.2 HK.out (fun i hi => (HTB.out i hi)) (by rw [HLY.out]; exact hNE.out)] at hres
        rw [if_neg (by simp)] at hres
        subst hres
        have HO4 := Lib.hid hO4
        have hS9 := Lib.hid hS
        have HLN : Hid (((tdY g xs).map ng).length = t) := Lib.hid (by rw [List.length_map, HLY.out])
        clear hO hO4 hB hF hS
        go_wp2
        have hq9 : ∀ b o, (some ⟨g2, 0, none⟩ : Option Addr) = some ⟨b, o, none⟩ -> (tdY g xs).map ng ≠ [] -> b ≠ w.heap.size + 1 := fun b o hq _ => by
         cases hq
         have := (HO4.out.lt g2 rfl).1
         omega
        exact bodyPost_ret (v := .tuple #[.agg #[.int .i64 (-D), .slice (some ⟨g2, 0, none⟩) t c2, .bool true], .int .i64 0, .int .i64 0]) (by simp [results, Tryd.results29, go_sem, r0, zr0, r1, zr1, r2, zr2, d0, d1, d2, lr9, lg9, Nat.ne_of_gt lgr, Nat.ne_of_lt lgr]) rfl (TQ.three KE (by omega) HLN.out hS9.out hq9 (fun b o hq _ => own_kind HO4.out b o hq) rfl)
end Go.Proofs.YtbicmlkjonaccaaDoor.Ln
