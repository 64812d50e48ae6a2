/- The reference: Tighten. -/
import Derived.Test.YtbicmlkjonaccaaDoorK20
import Derived.Test.YtbicmlkjonaccaaDoorK5
import Derived.Test.YtbicmlkjonaccaaDoorK14

namespace Go.Proofs.YtbicmlkjonaccaaDoor.Ln
open Go.ChangeShapes Go.WideShapes Go.ChangeAt Go.RowKit
open Go.Proofs.YtbicmlkjonaccaaDoor.Nm
set_option linter.unusedVariables false
set_option linter.unusedSimpArgs false
set_option maxRecDepth 8000

theorem gcdL_mem : ∀ (xs : List Mo) (g : Nat) (m : Mo), m ∈ xs -> gcdL g xs ∣ m.2.natAbs
 | [], _, _, h => by cases h
 | x :: r, g, m, h => by
  rcases List.mem_cons.1 h with rfl | h
  ·exact Nat.dvd_trans (gcdL_dvd r (Nat.gcd g m.2.natAbs)) (Nat.gcd_dvd_right _ _)
  ·exact gcdL_mem r _ m h
theorem okL_tdY {xs : List Mo} {G : Nat} (h : okL xs = true) (hd : ∀ m ∈ xs, G ∣ m.2.natAbs) (g0 : 1 <= G) : okL (tdY G xs) = true := by
 obtain ⟨h1, h2⟩ := okL_iff.1 h
 refine okL_iff.2 ⟨?_, fun m hm => ?_⟩
 ·rw [show (tdY G xs).map (·.1) = xs.map (·.1) by unfold tdY; rw [List.map_map]; rfl]
  exact h1
 ·unfold tdY at hm
  obtain ⟨x, hx, rfl⟩ := List.mem_map.1 hm
  refine ⟨(h2 x hx).1, fun h0 => (h2 x hx).2 ?_⟩
  have hdv : (G : Int) ∣ x.2 := Int.ofNat_dvd_left.2 (hd x hx)
  have h3 := Int.ediv_mul_cancel hdv
  dsimp only at h0
  rw [h0] at h3
  omega

theorem far3 {u : World} {r b o : Nat} {v x y x' : Value} (h : r ≠ b) (hc : u.cell? ⟨b, o, none⟩ = some v) : (((u.setCell ⟨r, 0, none⟩ x).setCell ⟨r, 1, none⟩ y).setCell ⟨r, 2, none⟩ x').cell? ⟨b, o, none⟩ = some v := by
 rw [World.cell?_setCell_far _ _ _ _ h, World.cell?_setCell_far _ _ _ _ h, World.cell?_setCell_far _ _ _ _ h]
 exact hc
theorem st3 {u : World} {r : Nat} {x y z a b c : Value} (h0 : u.cell? ⟨r, 0, none⟩ = some a) (h1 : u.cell? ⟨r, 1, none⟩ = some b) (h2 : u.cell? ⟨r, 2, none⟩ = some c) :
  (((u.setCell ⟨r, 0, none⟩ x).setCell ⟨r, 1, none⟩ y).setCell ⟨r, 2, none⟩ z).cell? ⟨r, 0, none⟩ = some x /\ (((u.setCell ⟨r, 0, none⟩ x).setCell ⟨r, 1, none⟩ y).setCell ⟨r, 2, none⟩ z).cell? ⟨r, 1, none⟩ = some y /\ (((u.setCell ⟨r, 0, none⟩ x).setCell ⟨r, 1, none⟩ y).setCell ⟨r, 2, none⟩ z).cell? ⟨r, 2, none⟩ = some z := by
 have g1 : (u.setCell ⟨r, 0, none⟩ x).cell? ⟨r, 1, none⟩ = some b := (World.cell?_setCell_other _ _ _ _ (by simp)).trans h1
 have g2 : ((u.setCell ⟨r, 0, none⟩ x).setCell ⟨r, 1, none⟩ y).cell? ⟨r, 2, none⟩ = some c := by
  rw [World.cell?_setCell_other _ _ _ _ (by simp), World.cell?_setCell_other _ _ _ _ (by simp)]; exact h2
 refine ⟨?_, ?_, World.cell?_setCell_same _ _ _ g2⟩
 ·rw [World.cell?_setCell_other _ _ _ _ (by simp), World.cell?_setCell_other _ _ _ _ (by simp)]; exact World.cell?_setCell_same _ _ _ h0
 ·rw [World.cell?_setCell_other _ _ _ _ (by simp)]; exact World.cell?_setCell_same _ _ _ g1

theorem own_kind {u : World} {B m d n : Nat} {cs : List Value} {q : Option Addr} (h : u.ownsRow B 59 2 (.slice q m d) n cs) : ∀ b o, q = some ⟨b, o, none⟩ -> ∃ cur, u.heap[b]? = some (.cells cur 59 (0, 0)) := by
 rcases h.2 with ⟨hv, _⟩ | ⟨g, cap, cur, hv, _, hh, _⟩
 ·cases hv
  intro b o hq
  cases hq
 ·cases hv
  intro b o hq
  cases hq
  exact ⟨cur, hh⟩
theorem TQ.three {w u : World} {b1 m d : Nat} {q : Option Addr} {D : Int} {eq : Bool} {ys : List Mo} {X Y Z : Value} {e : Ending} (hb : Below w.heap.size w u) (h1 : w.heap.size <= b1) (hl : ys.length = m) (hs : SlM u q ys) (hq : ∀ b o, q = some ⟨b, o, none⟩ -> ys ≠ [] -> b ≠ b1) (hk : ∀ b o, q = some ⟨b, o, none⟩ -> ys ≠ [] -> ∃ cur, u.heap[b]? = some (.cells cur 59 (0, 0))) (he : e = .returned (.tuple #[.agg #[.int .i64 D, .slice q m d, .bool eq], .int .i64 0, .int .i64 0])) : TQ (D, ys, eq, 0, 0) w e (((u.setCell ⟨b1, 0, none⟩ X).setCell ⟨b1, 1, none⟩ Y).setCell ⟨b1, 2, none⟩ Z) :=
 ⟨q, d, by rw [he, <- hl]; rfl, Sl_set (Sl_set (Sl_set hs hq) hq) hq, fun b o h hne => (by
  obtain ⟨cur, hc⟩ := hk b o h hne
  have nb := hq b o h hne
  exact ⟨cur, (Below.heap_setCell _ _ _ _ (by dsimp only; omega)).trans ((Below.heap_setCell _ _ _ _ (by dsimp only; omega)).trans ((Below.heap_setCell _ _ _ _ (by dsimp only; omega)).trans hc))⟩), ((hb.setCell (p := ⟨b1, 0, none⟩) h1 X).setCell (p := ⟨b1, 1, none⟩) h1 Y).setCell (p := ⟨b1, 2, none⟩) h1 Z⟩

set_option maxRecDepth 100000 in
set_option maxHeartbeats 8000000 in
theorem rtig_ge (k : Int) (p : Option Addr) (xs : List Mo) (c : Nat) (w : World) (hn : xs.length <= 1000) (RA : Hid (SlM w p xs)) (RS : Hid (∀ i, i < xs.length -> (xs.getD i mo0).1.size <= maxLen /\ -9223372036854775808 <= (xs.getD i mo0).2 /\ (xs.getD i mo0).2 <= 9223372036854775807)) (k1 : -9223372036854775808 <= k) (k2 : k <= 9223372036854775807) (hok : okL xs = true) (h0 : xs.length ≠ 0)  : Calls Tryd.prog 29 #[Cv k p xs.length c false] w (TQ (k / (gcdL 0 xs : Int), tdY (gcdL 0 xs) xs, false, 0, 0) w) := by
 have VL := Lib.hid fun w h => cval2 k p xs c false w (by unfold maxLen; omega) h (Lib.hid fun i hi => (RS.out i hi).1)
 have B0 : Below w.heap.size w ((w.alloc (Obj.cells #[Value.int .i64 k, Value.slice p xs.length c, Value.bool false] 36)).alloc (Obj.cells #[Value.int .i64 0, Value.slice none 0 0, Value.bool false] 36)) := ((Below.refl _ _).alloc (Nat.le_refl _) _).alloc (by simp) _
 have RA2 := Lib.hid (SlM.keep B0 RA.out)
 have hv : vL xs = 0 := by unfold vL; rw [hok]; rfl
 rw [hv] at VL
 obtain ⟨qq0, qq1⟩ := gcdL_bd hok h0 (fun i hi => (RS.out i hi).2)
 have HDV := Lib.hid fun m hm => gcdL_mem xs 0 m hm
 have g0 : ((xs.length : Int) == 0) = false := by rw [beq_eq_false_iff_ne]; omega
 unfold Cv at *
 obtain ⟨G, hG⟩ : ∃ G : Nat, gcdL 0 xs = G := ⟨_, rfl⟩
 rw [hG] at qq0 qq1 HDV ⊢
 have HOK := Lib.hid (okL_tdY hok HDV.out qq0)
 have FD := Lib.hid fun w => floor6 k G k1 k2 qq0 qq1 w
 have FA := Lib.hid fun a (a1 : -9223372036854775808 <= a) (a2 : a <= 9223372036854775807) w => floor6 a G a1 a2 qq0 qq1 w
 have SK := Lib.hid fun w => size6 k w k1 k2
 have Q0 := Lib.hid qq0
 have Q1 := Lib.hid qq1
 have HG9 := Lib.hid hG
 have D0 := Lib.hid (div_bd qq0 k1 k2)
 obtain ⟨D, hD⟩ : ∃ D, k / (G : Int) = D := ⟨_, rfl⟩
 have HD9 := Lib.hid hD
 rw [hD] at FD D0 ⊢
 obtain ⟨i0, hi, hz0, hz1, hz2⟩ := info_parts infoMo
 have HI9 := Lib.hid (And.intro hi (And.intro hz0 (And.intro hz1 hz2)))
 have HN0 := Lib.hid h0
 obtain ⟨n, hnn⟩ : ∃ n, xs.length = n := ⟨_, rfl⟩
 have HN := Lib.hid hnn
 rw [hnn] at VL g0 hn B0 RA2 ⊢
 clear hok hv h0 hG hD hnn hi hz0 hz1 hz2
 go_enter Tryd.func29, Tryd.ntmps29
 go_wp2_with (first | (go_at_call 25; (with_reducible refine (VL.out _ RA2).mono ?_); rintro e w1 ⟨rfl, hb1⟩; have hc1 := (Rg.bcell hb1).1; have hf1 := (Rg.bcell hb1).2; have z1_0 : w.heap.size < w1.heap.size := (by have hzz := hb1.size; (try simp at hzz); omega); have z1_1 : w.heap.size + 1 < w1.heap.size := (by have hzz := hb1.size; (try simp at hzz); omega); have K1 : Below w.heap.size w w1 := Below.trans (b := _) (by (repeat' (first | (with_reducible exact Below.refl _ _) | (with_reducible refine Below.alloc ?_ ?_ _) | (with_reducible refine Below.setCell ?_ ?_ _) | (with_reducible refine below_drewN ?_ _) | (simp; done) | omega | (simp; omega)))) (hb1.mono (by have hzz := hb1.size; (try simp at hzz); first | omega | (simp; done) | (simp; omega)))))
 have F0 : Hid (Cl [(w.heap.size, 0, .int .i64 k), (w.heap.size, 1, .slice p n c), (w.heap.size, 2, .bool false), (w.heap.size + 1, 0, .int .i64 0), (w.heap.size + 1, 1, .slice none 0 0), (w.heap.size + 1, 2, .bool false)] w1) := Lib.hid (Cl.cons (by simp [go_sem, hc1, hf1, z1_0, Nat.lt_succ_of_lt z1_0, Nat.ne_of_lt z1_0, Nat.ne_of_gt z1_0, z1_1, Nat.lt_succ_of_lt z1_1, Nat.ne_of_lt z1_1, Nat.ne_of_gt z1_1]) (by simp [go_sem, hc1, hf1, z1_0, Nat.lt_succ_of_lt z1_0, Nat.ne_of_lt z1_0, Nat.ne_of_gt z1_0, z1_1, Nat.lt_succ_of_lt z1_1, Nat.ne_of_lt z1_1, Nat.ne_of_gt z1_1]) (Cl.cons (by simp [go_sem, hc1, hf1, z1_0, Nat.lt_succ_of_lt z1_0, Nat.ne_of_lt z1_0, Nat.ne_of_gt z1_0, z1_1, Nat.lt_succ_of_lt z1_1, Nat.ne_of_lt z1_1, Nat.ne_of_gt z1_1]) (by simp [go_sem, hc1, hf1, z1_0, Nat.lt_succ_of_lt z1_0, Nat.ne_of_lt z1_0, Nat.ne_of_gt z1_0, z1_1, Nat.lt_succ_of_lt z1_1, Nat.ne_of_lt z1_1, Nat.ne_of_gt z1_1]) (Cl.cons (by simp [go_sem, hc1, hf1, z1_0, Nat.lt_succ_of_lt z1_0, Nat.ne_of_lt z1_0, Nat.ne_of_gt z1_0, z1_1, Nat.lt_succ_of_lt z1_1, Nat.ne_of_lt z1_1, Nat.ne_of_gt z1_1]) (by simp [go_sem, hc1, hf1, z1_0, Nat.lt_succ_of_lt z1_0, Nat.ne_of_lt z1_0, Nat.ne_of_gt z1_0, z1_1, Nat.lt_succ_of_lt z1_1, Nat.ne_of_lt z1_1, Nat.ne_of_gt z1_1]) (Cl.cons (by simp [go_sem, hc1, hf1, z1_0, Nat.lt_succ_of_lt z1_0, Nat.ne_of_lt z1_0, Nat.ne_of_gt z1_0, z1_1, Nat.lt_succ_of_lt z1_1, Nat.ne_of_lt z1_1, Nat.ne_of_gt z1_1]) (by simp [go_sem, hc1, hf1, z1_0, Nat.lt_succ_of_lt z1_0, Nat.ne_of_lt z1_0, Nat.ne_of_gt z1_0, z1_1, Nat.lt_succ_of_lt z1_1, Nat.ne_of_lt z1_1, Nat.ne_of_gt z1_1]) (Cl.cons (by simp [go_sem, hc1, hf1, z1_0, Nat.lt_succ_of_lt z1_0, Nat.ne_of_lt z1_0, Nat.ne_of_gt z1_0, z1_1, Nat.lt_succ_of_lt z1_1, Nat.ne_of_lt z1_1, Nat.ne_of_gt z1_1]) (by simp [go_sem, hc1, hf1, z1_0, Nat.lt_succ_of_lt z1_0, Nat.ne_of_lt z1_0, Nat.ne_of_gt z1_0, z1_1, Nat.lt_succ_of_lt z1_1, Nat.ne_of_lt z1_1, Nat.ne_of_gt z1_1]) (Cl.cons (by simp [go_sem, hc1, hf1, z1_0, Nat.lt_succ_of_lt z1_0, Nat.ne_of_lt z1_0, Nat.ne_of_gt z1_0, z1_1, Nat.lt_succ_of_lt z1_1, Nat.ne_of_lt z1_1, Nat.ne_of_gt z1_1]) (by simp [go_sem, hc1, hf1, z1_0, Nat.lt_succ_of_lt z1_0, Nat.ne_of_lt z1_0, Nat.ne_of_gt z1_0, z1_1, Nat.lt_succ_of_lt z1_1, Nat.ne_of_lt z1_1, Nat.ne_of_gt z1_1]) (Cl.nil _)))))))
 have lg : w.heap.size + 1 < w1.heap.size := z1_1
 have KB := Lib.hid K1
 clear hb1 hc1 hf1 z1_0 z1_1 K1 VL B0 RA2
 go_loopw [7, 8] (fun gv i wr => ∃ (j g : Nat), gv = .int .u64 g /\ i = .int .i64 j /\ j <= n /\ g < 18446744073709551616 /\ w.heap.size + 1 < wr.heap.size /\ Hid (Cl [(w.heap.size, 0, .int .i64 k), (w.heap.size, 1, .slice p n c), (w.heap.size, 2, .bool false), (w.heap.size + 1, 0, .int .i64 0), (w.heap.size + 1, 1, .slice none 0 0), (w.heap.size + 1, 2, .bool false)] wr) /\ Hid (Below w.heap.size w wr) /\ Hid (gcdL 0 xs = gcdL g (xs.drop j))) (fun _ i _ => n - (intOf i).toNat)
 case atStart => exact ⟨0, 0, rfl, rfl, Nat.zero_le _, by omega, lg, F0, KB, Lib.hid rfl⟩
 case round =>
  obtain ⟨j, g, rfl, rfl, hj, hg, lr, hF, hB, HL⟩ := hrel
  clear F0 KB lg
  have jj : (0 : Int) <= j := by omega
  have d0 := hF.out.head
  have d1 := hF.out.tail.head
  have d2 := hF.out.tail.tail.head
  by_cases hlt : j < n
  ·obtain ⟨b, o, rfl, e0, e1⟩ := RA.out j (by rw [HN.out]; exact hlt)
   have j2 : (j : Int) < n := by omega
   have hbw : b < w.heap.size := World.block_lt_of_cell? _ _ e0
   replace e1 := Rg.keep hB.out hbw e1
   have hbr : b < wr.heap.size := World.block_lt_of_cell? _ _ e1
   have hst := gcdL_step (g := g) (xs := xs) (j := j) (by rw [HN.out]; exact hlt)
   obtain ⟨-, y0, y1⟩ := RS.out j (by rw [HN.out]; exact hlt)
   obtain ⟨m, hm⟩ : ∃ m, xs.getD j mo0 = m := ⟨_, rfl⟩
   rw [hm] at e1 hst y0 y1
   obtain ⟨z, a⟩ := m
   dsimp only at e1 hst y0 y1
   have S6 := Lib.hid fun w => size6 a w y0 y1
   obtain ⟨A, hA⟩ : ∃ A, a.natAbs = A := ⟨_, rfl⟩
   have ha : A < 18446744073709551616 := by omega
   rw [hA] at S6 hst
   have G6 := Lib.hid fun w => gcd6 g A hg ha w
   have hgb := gcd_bd hg ha
   have HL2 := Lib.hid (HL.out.trans hst)
   clear hst hm hA y0 y1 e0 HL
   obtain ⟨g2, hg2⟩ : ∃ g2, Nat.gcd g A = g2 := ⟨_, rfl⟩
   rw [hg2] at G6 hgb HL2
   clear hg2
   go_wp2_with (first | (go_at_call 64; (with_reducible refine (S6.out _).mono ?_); rintro e w9 ⟨rfl, rfl⟩) | (go_at_call 63; (with_reducible refine (G6.out _).mono ?_); rintro e u ⟨rfl, hb⟩; have FU := Lib.hid (hF.out.below hb); have KU := Lib.hid (hB.out.trans (hb.mono hB.out.size)); have lu : w.heap.size + 1 < u.heap.size := Nat.lt_of_lt_of_le lr hb.size))
   go_roundw
   case rel => exact ⟨j + 1, g2, rfl, by go_num, by omega, hgb, lu, FU, KU, HL2⟩
   case measure => simp [intOf]; omega
  ·obtain rfl : j = n := by omega
   obtain rfl : g = G := by
    have h1 := HL.out
    rw [List.drop_of_length_le (by rw [HN.out]; exact Nat.le_refl _), HG9.out] at h1
    exact h1.symm
   clear HL hlt
   have q0 := Q0.out
   have q1 := Q1.out
   have FD2 : Hid (∀ w, Calls Tryd.prog 65 #[.int .i64 k, .int .u64 (g : Int)] w fun e w' => e = .returned (.int .i64 D) /\ Below w.heap.size w w') := Lib.hid fun w => (FD.out w).mono fun e w' ⟨h1, h2⟩ => ⟨h1, by rw [<- h2]; exact Below.refl _ _⟩
   have f0 := hF.out.head
   have zf0 := hF.out.headF
   have f1 := hF.out.tail.head
   have zf1 := hF.out.tail.headF
   have f2 := hF.out.tail.tail.head
   have zf2 := hF.out.tail.tail.headF
   have f3 := hF.out.tail.tail.tail.head
   have zf3 := hF.out.tail.tail.tail.headF
   have f4 := hF.out.tail.tail.tail.tail.head
   have zf4 := hF.out.tail.tail.tail.tail.headF
   have f5 := hF.out.tail.tail.tail.tail.tail.head
   have zf5 := hF.out.tail.tail.tail.tail.tail.headF
   have KF := hB.out
   have hz16 := And.intro f0 (And.intro f1 (And.intro f2 (And.intro f3 (And.intro f4 (And.intro f5 (And.intro zf0 (And.intro zf1 (And.intro zf2 (And.intro zf3 (And.intro zf4 (And.intro zf5 KF)))))))))))
   have lr1 : w.heap.size < wr.heap.size := by omega
   clear hF hB d0 d1 d2 q1
   go_wp2_with fail
   have HS : Hid (∀ u u' : World, (u.cell? ⟨w.heap.size, 0, none⟩ = some (.int .i64 k) /\ u.cell? ⟨w.heap.size, 1, none⟩ = some (.slice p j c) /\ u.cell? ⟨w.heap.size, 2, none⟩ = some (.bool false) /\ u.cell? ⟨w.heap.size + 1, 0, none⟩ = some (.int .i64 0) /\ u.cell? ⟨w.heap.size + 1, 1, none⟩ = some (.slice none 0 0) /\ u.cell? ⟨w.heap.size + 1, 2, none⟩ = some (.bool false) /\ u.frozen? ⟨w.heap.size, 0, none⟩ = false /\ u.frozen? ⟨w.heap.size, 1, none⟩ = false /\ u.frozen? ⟨w.heap.size, 2, none⟩ = false /\ u.frozen? ⟨w.heap.size + 1, 0, none⟩ = false /\ u.frozen? ⟨w.heap.size + 1, 1, none⟩ = false /\ u.frozen? ⟨w.heap.size + 1, 2, none⟩ = false /\ Below w.heap.size w u) -> Below u.heap.size u u' -> (u'.cell? ⟨w.heap.size, 0, none⟩ = some (.int .i64 k) /\ u'.cell? ⟨w.heap.size, 1, none⟩ = some (.slice p j c) /\ u'.cell? ⟨w.heap.size, 2, none⟩ = some (.bool false) /\ u'.cell? ⟨w.heap.size + 1, 0, none⟩ = some (.int .i64 0) /\ u'.cell? ⟨w.heap.size + 1, 1, none⟩ = some (.slice none 0 0) /\ u'.cell? ⟨w.heap.size + 1, 2, none⟩ = some (.bool false) /\ u'.frozen? ⟨w.heap.size, 0, none⟩ = false /\ u'.frozen? ⟨w.heap.size, 1, none⟩ = false /\ u'.frozen? ⟨w.heap.size, 2, none⟩ = false /\ u'.frozen? ⟨w.heap.size + 1, 0, none⟩ = false /\ u'.frozen? ⟨w.heap.size + 1, 1, none⟩ = false /\ u'.frozen? ⟨w.heap.size + 1, 2, none⟩ = false /\ Below w.heap.size w u')) := Lib.hid (fun u u' h hb => ⟨Rg.keep hb (World.block_lt_of_cell? _ _ h.1) h.1, Rg.keep hb (World.block_lt_of_cell? _ _ h.2.1) h.2.1, Rg.keep hb (World.block_lt_of_cell? _ _ h.2.2.1) h.2.2.1, Rg.keep hb (World.block_lt_of_cell? _ _ h.2.2.2.1) h.2.2.2.1, Rg.keep hb (World.block_lt_of_cell? _ _ h.2.2.2.2.1) h.2.2.2.2.1, Rg.keep hb (World.block_lt_of_cell? _ _ h.2.2.2.2.2.1) h.2.2.2.2.2.1, Rg.keepF hb (World.block_lt_of_cell? _ _ h.1) h.2.2.2.2.2.2.1, Rg.keepF hb (World.block_lt_of_cell? _ _ h.1) h.2.2.2.2.2.2.2.1, Rg.keepF hb (World.block_lt_of_cell? _ _ h.1) h.2.2.2.2.2.2.2.2.1, Rg.keepF hb (World.block_lt_of_cell? _ _ h.2.2.2.1) h.2.2.2.2.2.2.2.2.2.1, Rg.keepF hb (World.block_lt_of_cell? _ _ h.2.2.2.1) h.2.2.2.2.2.2.2.2.2.2.1, Rg.keepF hb (World.block_lt_of_cell? _ _ h.2.2.2.1) h.2.2.2.2.2.2.2.2.2.2.2.1, h.2.2.2.2.2.2.2.2.2.2.2.2.trans (hb.mono h.2.2.2.2.2.2.2.2.2.2.2.2.size)⟩)
   refine Rk.begin (S := fun wS => wS.cell? ⟨w.heap.size, 0, none⟩ = some (.int .i64 k) /\ wS.cell? ⟨w.heap.size, 1, none⟩ = some (.slice p j c) /\ wS.cell? ⟨w.heap.size, 2, none⟩ = some (.bool false) /\ wS.cell? ⟨w.heap.size + 1, 0, none⟩ = some (.int .i64 0) /\ wS.cell? ⟨w.heap.size + 1, 1, none⟩ = some (.slice none 0 0) /\ wS.cell? ⟨w.heap.size + 1, 2, none⟩ = some (.bool false) /\ wS.frozen? ⟨w.heap.size, 0, none⟩ = false /\ wS.frozen? ⟨w.heap.size, 1, none⟩ = false /\ wS.frozen? ⟨w.heap.size, 2, none⟩ = false /\ wS.frozen? ⟨w.heap.size + 1, 0, none⟩ = false /\ wS.frozen? ⟨w.heap.size + 1, 1, none⟩ = false /\ wS.frozen? ⟨w.heap.size + 1, 2, none⟩ = false /\ Below w.heap.size w wS) 8 (by kernel_rfl) (HS.out _ _ hz16 (Below.drew (Below.refl _ _))) (fun hHeld => ?_)
   refine Rk.takeP (i := 0) (v := ?_) rfl (by kernel_rfl) (by kernel_rfl) (by kernel_rfl) (by kernel_rfl) (fun _ _ _ h => h) (Or.inl ⟨by kernel_rfl, ?_⟩) (by assumption) ?_
   rotate_left
   ·((intro w hSw; go_simp) <;> with_reducible rfl)
   try simp only [Act.put, List.setIfInBounds_toArray, List.set_cons_zero, List.set_cons_succ]
   refine Rk.take [8] (i := 1) (v := ?_) rfl (by kernel_rfl) (by kernel_rfl) (by kernel_rfl) (by kernel_rfl) (by kernel_rfl) (fun _ _ _ h => h) (Or.inl ⟨by kernel_rfl, ?_⟩) (by assumption) ?_
   rotate_left
   ·((intro w hSw; (try dsimp only at hSw); go_simp) <;> with_reducible rfl)
   try simp only [Act.put, List.setIfInBounds_toArray, List.set_cons_zero, List.set_cons_succ]
   refine Rk.takeP (i := 2) (v := ?_) rfl (by kernel_rfl) (by kernel_rfl) (by kernel_rfl) (by kernel_rfl) (fun _ _ _ h => h) (Or.inl ⟨by kernel_rfl, ?_⟩) (by assumption) ?_
   rotate_left
   ·((intro w hSw; go_simp) <;> with_reducible rfl)
   try simp only [Act.put, List.setIfInBounds_toArray, List.set_cons_zero, List.set_cons_succ]
   refine Rk.takeP (i := 3) (v := ?_) rfl (by kernel_rfl) (by kernel_rfl) (by kernel_rfl) (by kernel_rfl) (fun _ _ _ h => h) (Or.inl ⟨by kernel_rfl, ?_⟩) (by assumption) ?_
   rotate_left
   ·((intro w hSw; go_simp) <;> with_reducible rfl)
   try simp only [Act.put, List.setIfInBounds_toArray, List.set_cons_zero, List.set_cons_succ]
   refine Rk.two (i := 4) (j := 7) (by kernel_rfl) rfl rfl (fun KK hK => ?_) (fun KK hK => ?_)
   ·rw [if_pos (by kernel_rfl)]
    go_simp
    ((with_reducible refine (FD2.out _).mono ?_); rintro e uw4 ⟨rfl, hb⟩)
    have hNew := HS.out _ _ hHeld hb
    have hs_uw4 : wr.heap.size <= uw4.heap.size := by have hzz := hb.size; (try simp at hzz); omega
    first | (refine hK.out _ _ (fun _ => hNew) (fun _ => ?_)) | (refine hK.out _ _ hNew (fun _ => ?_)) | (go_wp2_with fail; refine hK.out _ _ hNew (fun _ => ?_))
    replace hHeld := hNew
    clear hNew hb
    clear hK KK
    refine Rk.takeP (i := 5) (v := ?_) rfl (by kernel_rfl) (by kernel_rfl) (by kernel_rfl) (by kernel_rfl) (fun _ _ _ h => h) (Or.inl ⟨by kernel_rfl, ?_⟩) (by assumption) ?_
    rotate_left
    ·((intro w hSw; go_simp) <;> with_reducible rfl)
    try simp only [Act.put, List.setIfInBounds_toArray, List.set_cons_zero, List.set_cons_succ]
    refine Rk.takeP (i := 6) (v := ?_) rfl (by kernel_rfl) (by kernel_rfl) (by kernel_rfl) (by kernel_rfl) (fun _ _ _ h => h) (Or.inl ⟨by kernel_rfl, ?_⟩) (by assumption) ?_
    rotate_left
    ·((intro w hSw; go_simp) <;> with_reducible rfl)
    try simp only [Act.put, List.setIfInBounds_toArray, List.set_cons_zero, List.set_cons_succ]
    refine Rk.one (i := 7) (by kernel_rfl) rfl (fun KK hK => ?_)
    rw [if_pos (by kernel_rfl)]
    go_simp
    have hNew := HS.out _ _ hHeld ((Below.refl _ _).alloc (Nat.le_refl _) (Obj.cells #[Value.int .i64 0, Value.slice none 0 0, Value.bool false] 36))
    refine hK.out _ _ hNew (fun _ => ?_)
    replace hHeld := hNew
    clear hNew
    clear hK KK
    refine Rk.tail [8] [_] (by kernel_rfl) (by kernel_rfl) rfl (by decide) ?_
    obtain ⟨f0, f1, f2, f3, f4, f5, zf0, zf1, zf2, zf3, zf4, zf5, KF⟩ := hHeld
    have m0 : (uw4.alloc (Obj.cells #[Value.int .i64 0, Value.slice none 0 0, Value.bool false] 36)).cell? ⟨uw4.heap.size, 0, none⟩ = some (.int .i64 0) := by go_cell
    have fm0 : (uw4.alloc (Obj.cells #[Value.int .i64 0, Value.slice none 0 0, Value.bool false] 36)).frozen? ⟨uw4.heap.size, 0, none⟩ = false := by simp only [frozen?_alloc_cells]; exact Rg.notFrozen (Nat.le_refl _)
    have m1 : (uw4.alloc (Obj.cells #[Value.int .i64 0, Value.slice none 0 0, Value.bool false] 36)).cell? ⟨uw4.heap.size, 1, none⟩ = some (.slice none 0 0) := by go_cell
    have fm1 : (uw4.alloc (Obj.cells #[Value.int .i64 0, Value.slice none 0 0, Value.bool false] 36)).frozen? ⟨uw4.heap.size, 1, none⟩ = false := by simp only [frozen?_alloc_cells]; exact Rg.notFrozen (Nat.le_refl _)
    have m2 : (uw4.alloc (Obj.cells #[Value.int .i64 0, Value.slice none 0 0, Value.bool false] 36)).cell? ⟨uw4.heap.size, 2, none⟩ = some (.bool false) := by go_cell
    have fm2 : (uw4.alloc (Obj.cells #[Value.int .i64 0, Value.slice none 0 0, Value.bool false] 36)).frozen? ⟨uw4.heap.size, 2, none⟩ = false := by simp only [frozen?_alloc_cells]; exact Rg.notFrozen (Nat.le_refl _)
    generalize (uw4.alloc (Obj.cells #[Value.int .i64 0, Value.slice none 0 0, Value.bool false] 36)) = gw at *
    have lm : uw4.heap.size < gw.heap.size := World.block_lt_of_cell? _ _ m0
    have lw : w.heap.size <= uw4.heap.size := by omega
    have ne0 : uw4.heap.size ≠ w.heap.size := by omega
    have ne1 : uw4.heap.size ≠ w.heap.size + 1 := by omega
    have lo0 : w.heap.size < gw.heap.size := by omega
    have lo1 : w.heap.size + 1 < gw.heap.size := by omega
    go_wp2_with fail
    have f0 : (((gw.setCell ⟨uw4.heap.size, 0, none⟩ (.int .i64 D)).setCell ⟨uw4.heap.size, 1, none⟩ (.slice none 0 0)).setCell ⟨uw4.heap.size, 2, none⟩ (.bool false)).cell? ⟨w.heap.size, 0, none⟩ = some (.int .i64 k) := far3 ne0 f0
    have f1 : (((gw.setCell ⟨uw4.heap.size, 0, none⟩ (.int .i64 D)).setCell ⟨uw4.heap.size, 1, none⟩ (.slice none 0 0)).setCell ⟨uw4.heap.size, 2, none⟩ (.bool false)).cell? ⟨w.heap.size, 1, none⟩ = some (.slice p j c) := far3 ne0 f1
    have f2 : (((gw.setCell ⟨uw4.heap.size, 0, none⟩ (.int .i64 D)).setCell ⟨uw4.heap.size, 1, none⟩ (.slice none 0 0)).setCell ⟨uw4.heap.size, 2, none⟩ (.bool false)).cell? ⟨w.heap.size, 2, none⟩ = some (.bool false) := far3 ne0 f2
    have f3 : (((gw.setCell ⟨uw4.heap.size, 0, none⟩ (.int .i64 D)).setCell ⟨uw4.heap.size, 1, none⟩ (.slice none 0 0)).setCell ⟨uw4.heap.size, 2, none⟩ (.bool false)).cell? ⟨w.heap.size + 1, 0, none⟩ = some (.int .i64 0) := far3 ne1 f3
    have f4 : (((gw.setCell ⟨uw4.heap.size, 0, none⟩ (.int .i64 D)).setCell ⟨uw4.heap.size, 1, none⟩ (.slice none 0 0)).setCell ⟨uw4.heap.size, 2, none⟩ (.bool false)).cell? ⟨w.heap.size + 1, 1, none⟩ = some (.slice none 0 0) := far3 ne1 f4
    have f5 : (((gw.setCell ⟨uw4.heap.size, 0, none⟩ (.int .i64 D)).setCell ⟨uw4.heap.size, 1, none⟩ (.slice none 0 0)).setCell ⟨uw4.heap.size, 2, none⟩ (.bool false)).cell? ⟨w.heap.size + 1, 2, none⟩ = some (.bool false) := far3 ne1 f5
    have zf0 : (((gw.setCell ⟨uw4.heap.size, 0, none⟩ (.int .i64 D)).setCell ⟨uw4.heap.size, 1, none⟩ (.slice none 0 0)).setCell ⟨uw4.heap.size, 2, none⟩ (.bool false)).frozen? ⟨w.heap.size, 0, none⟩ = false := by simpa [World.frozen?_setCell] using zf0
    have zf1 : (((gw.setCell ⟨uw4.heap.size, 0, none⟩ (.int .i64 D)).setCell ⟨uw4.heap.size, 1, none⟩ (.slice none 0 0)).setCell ⟨uw4.heap.size, 2, none⟩ (.bool false)).frozen? ⟨w.heap.size, 1, none⟩ = false := by simpa [World.frozen?_setCell] using zf1
    have zf2 : (((gw.setCell ⟨uw4.heap.size, 0, none⟩ (.int .i64 D)).setCell ⟨uw4.heap.size, 1, none⟩ (.slice none 0 0)).setCell ⟨uw4.heap.size, 2, none⟩ (.bool false)).frozen? ⟨w.heap.size, 2, none⟩ = false := by simpa [World.frozen?_setCell] using zf2
    have zf3 : (((gw.setCell ⟨uw4.heap.size, 0, none⟩ (.int .i64 D)).setCell ⟨uw4.heap.size, 1, none⟩ (.slice none 0 0)).setCell ⟨uw4.heap.size, 2, none⟩ (.bool false)).frozen? ⟨w.heap.size + 1, 0, none⟩ = false := by simpa [World.frozen?_setCell] using zf3
    have zf4 : (((gw.setCell ⟨uw4.heap.size, 0, none⟩ (.int .i64 D)).setCell ⟨uw4.heap.size, 1, none⟩ (.slice none 0 0)).setCell ⟨uw4.heap.size, 2, none⟩ (.bool false)).frozen? ⟨w.heap.size + 1, 1, none⟩ = false := by simpa [World.frozen?_setCell] using zf4
    have zf5 : (((gw.setCell ⟨uw4.heap.size, 0, none⟩ (.int .i64 D)).setCell ⟨uw4.heap.size, 1, none⟩ (.slice none 0 0)).setCell ⟨uw4.heap.size, 2, none⟩ (.bool false)).frozen? ⟨w.heap.size + 1, 2, none⟩ = false := by simpa [World.frozen?_setCell] using zf5
    have hst := st3 (x := .int .i64 D) (y := .slice none 0 0) (z := .bool false) m0 m1 m2
    obtain ⟨s0, s1, s2⟩ := hst
    have KS : Below w.heap.size w (((gw.setCell ⟨uw4.heap.size, 0, none⟩ (.int .i64 D)).setCell ⟨uw4.heap.size, 1, none⟩ (.slice none 0 0)).setCell ⟨uw4.heap.size, 2, none⟩ (.bool false)) := (Below.setCell (Below.setCell (Below.setCell KF (by dsimp only; omega) _) (by dsimp only; omega) _) (by dsimp only; omega) _)
    have lm : uw4.heap.size < (((gw.setCell ⟨uw4.heap.size, 0, none⟩ (.int .i64 D)).setCell ⟨uw4.heap.size, 1, none⟩ (.slice none 0 0)).setCell ⟨uw4.heap.size, 2, none⟩ (.bool false)).heap.size := World.block_lt_of_cell? _ _ s0
    have lo0 : w.heap.size < (((gw.setCell ⟨uw4.heap.size, 0, none⟩ (.int .i64 D)).setCell ⟨uw4.heap.size, 1, none⟩ (.slice none 0 0)).setCell ⟨uw4.heap.size, 2, none⟩ (.bool false)).heap.size := by simp; omega
    have lo1 : w.heap.size + 1 < (((gw.setCell ⟨uw4.heap.size, 0, none⟩ (.int .i64 D)).setCell ⟨uw4.heap.size, 1, none⟩ (.slice none 0 0)).setCell ⟨uw4.heap.size, 2, none⟩ (.bool false)).heap.size := by simp; omega
    have z0 : (((gw.setCell ⟨uw4.heap.size, 0, none⟩ (.int .i64 D)).setCell ⟨uw4.heap.size, 1, none⟩ (.slice none 0 0)).setCell ⟨uw4.heap.size, 2, none⟩ (.bool false)).frozen? ⟨uw4.heap.size, 0, none⟩ = false := by simpa [World.frozen?_setCell] using fm0
    have z1 : (((gw.setCell ⟨uw4.heap.size, 0, none⟩ (.int .i64 D)).setCell ⟨uw4.heap.size, 1, none⟩ (.slice none 0 0)).setCell ⟨uw4.heap.size, 2, none⟩ (.bool false)).frozen? ⟨uw4.heap.size, 1, none⟩ = false := by simpa [World.frozen?_setCell] using fm1
    have z2 : (((gw.setCell ⟨uw4.heap.size, 0, none⟩ (.int .i64 D)).setCell ⟨uw4.heap.size, 1, none⟩ (.slice none 0 0)).setCell ⟨uw4.heap.size, 2, none⟩ (.bool false)).frozen? ⟨uw4.heap.size, 2, none⟩ = false := by simpa [World.frozen?_setCell] using fm2
    clear KF m0 fm0 m1 fm1 m2 fm2
    generalize (((gw.setCell ⟨uw4.heap.size, 0, none⟩ (.int .i64 D)).setCell ⟨uw4.heap.size, 1, none⟩ (.slice none 0 0)).setCell ⟨uw4.heap.size, 2, none⟩ (.bool false)) = gs at *
    have lgr : w.heap.size + 1 < uw4.heap.size := by omega
    generalize uw4.heap.size = gr at *
    have F1h : Hid (Cl ((gr, 0, .int .i64 D) :: (gr, 1, .slice none 0 0) :: (gr, 2, .bool false) :: [(w.heap.size, 1, .slice p j c), (w.heap.size, 2, .bool false), (w.heap.size + 1, 0, .int .i64 0), (w.heap.size + 1, 1, .slice none 0 0), (w.heap.size + 1, 2, .bool false)]) gs) := Lib.hid (Cl.cons s0 z0 (Cl.cons s1 z1 (Cl.cons s2 z2 (Cl.cons f1 zf1 (Cl.cons f2 zf2 (Cl.cons f3 zf3 (Cl.cons f4 zf4 (Cl.cons f5 zf5 (Cl.nil _)))))))))
    have KS9 := Lib.hid KS
    have lm9 := lm
    clear f0 f1 f2 f3 f4 f5 zf0 zf1 zf2 zf3 zf4 zf5 s0 s1 s2 z0 z1 z2 KS lm ne0 ne1 lo0 lo1 lw HS FD FD2
    go_loopw [10] (fun i wr => ∃ (m : Nat) (vl : Value), i = .int .i64 m /\ m <= j /\ gr < wr.heap.size /\ Hid (Cl ((gr, 0, .int .i64 D) :: (gr, 1, vl) :: (gr, 2, .bool false) :: [(w.heap.size, 1, .slice p j c), (w.heap.size, 2, .bool false), (w.heap.size + 1, 0, .int .i64 0), (w.heap.size + 1, 1, .slice none 0 0), (w.heap.size + 1, 2, .bool false)]) wr) /\ Hid (Below w.heap.size w wr) /\ Hid (wr.ownsRow (gr + 1) 59 2 vl m (moCs (tdY g (xs.take m))))) (fun i _ => j - (intOf i).toNat)
    case atStart => exact ⟨0, .slice none 0 0, rfl, Nat.zero_le _, lm9, F1h, KS9, Lib.hid (World.ownsRow_nil _ _ _ _)⟩
    case round =>
     obtain ⟨m, vl, rfl, hm, hlt9, hF, hB, hO⟩ := hrel
     clear F1h KS9 lm9
     have mm : (0 : Int) <= m := by omega
     have d0 := hF.out.head
     have d1 := hF.out.tail.head
     have d2 := hF.out.tail.tail.head
     have d3 := hF.out.tail.tail.tail.head
     have d4 := hF.out.tail.tail.tail.tail.head
     by_cases hlt : m < j
     ·obtain ⟨b, o, rfl, e0, e1⟩ := RA.out m (by rw [HN.out]; exact hlt)
      have m2 : (m : Int) < j := by omega
      have hbw : b < w.heap.size := World.block_lt_of_cell? _ _ e0
      replace e0 := Rg.keep hB.out hbw e0
      replace e1 := Rg.keep hB.out hbw e1
      have hbr : b < wr.heap.size := World.block_lt_of_cell? _ _ e0
      have hst := tdY_take (G := g) (xs := xs) (j := m) (by rw [HN.out]; exact hlt)
      obtain ⟨-, y0, y1⟩ := RS.out m (by rw [HN.out]; exact hlt)
      obtain ⟨x, hx⟩ : ∃ x, xs.getD m mo0 = x := ⟨_, rfl⟩
      rw [hx] at e0 e1 hst y0 y1
      obtain ⟨z, a⟩ := x
      dsimp only at e0 e1 hst y0 y1
      have FB : Hid (∀ w, Calls Tryd.prog 65 #[.int .i64 a, .int .u64 (g : Int)] w fun e w' => e = .returned (.int .i64 (a / (g : Int))) /\ Below w.heap.size w w') := Lib.hid fun w => (FA.out a y0 y1 w).mono fun e w' ⟨h1, h2⟩ => ⟨h1, by rw [<- h2]; exact Below.refl _ _⟩
      have HST := Lib.hid hst
      have hz20 : wr.drew.cell? ⟨gr, 1, none⟩ = some (vl) /\ wr.drew.cell? ⟨w.heap.size, 1, none⟩ = some (.slice (some ⟨b, o, none⟩) j c) /\ wr.drew.cell? ⟨b, o + m * 2, none⟩ = some (.string z) /\ wr.drew.cell? ⟨b, o + m * 2 + 1, none⟩ = some (.int .i64 a) /\ Below wr.heap.size wr wr.drew := ⟨d1, d3, e0, e1, (Below.refl _ _).drew⟩
      have HS2 : Hid (∀ u u' : World, (u.cell? ⟨gr, 1, none⟩ = some (vl) /\ u.cell? ⟨w.heap.size, 1, none⟩ = some (.slice (some ⟨b, o, none⟩) j c) /\ u.cell? ⟨b, o + m * 2, none⟩ = some (.string z) /\ u.cell? ⟨b, o + m * 2 + 1, none⟩ = some (.int .i64 a) /\ Below wr.heap.size wr u) -> Below u.heap.size u u' -> (u'.cell? ⟨gr, 1, none⟩ = some (vl) /\ u'.cell? ⟨w.heap.size, 1, none⟩ = some (.slice (some ⟨b, o, none⟩) j c) /\ u'.cell? ⟨b, o + m * 2, none⟩ = some (.string z) /\ u'.cell? ⟨b, o + m * 2 + 1, none⟩ = some (.int .i64 a) /\ Below wr.heap.size wr u')) := Lib.hid (fun u u' h hb => ⟨Rg.keep hb (World.block_lt_of_cell? _ _ h.1) h.1, Rg.keep hb (World.block_lt_of_cell? _ _ h.2.1) h.2.1, Rg.keep hb (World.block_lt_of_cell? _ _ h.2.2.1) h.2.2.1, Rg.keep hb (World.block_lt_of_cell? _ _ h.2.2.2.1) h.2.2.2.1, h.2.2.2.2.trans (hb.mono h.2.2.2.2.size)⟩)
      clear hx hst y0 y1
      go_wp2_with fail
      refine Rk.begin (S := fun wS => wS.cell? ⟨gr, 1, none⟩ = some (vl) /\ wS.cell? ⟨w.heap.size, 1, none⟩ = some (.slice (some ⟨b, o, none⟩) j c) /\ wS.cell? ⟨b, o + m * 2, none⟩ = some (.string z) /\ wS.cell? ⟨b, o + m * 2 + 1, none⟩ = some (.int .i64 a) /\ Below wr.heap.size wr wS) 21 (by kernel_rfl) hz20 (fun hHeld => ?_)
      refine Rk.takeP (i := 0) (v := ?_) rfl (by kernel_rfl) (by kernel_rfl) (by kernel_rfl) (by kernel_rfl) (fun _ _ _ h => h) (Or.inl ⟨by kernel_rfl, ?_⟩) (by assumption) ?_
      rotate_left
      ·((intro w hSw; go_simp) <;> with_reducible rfl)
      try simp only [Act.put, List.setIfInBounds_toArray, List.set_cons_zero, List.set_cons_succ]
      refine Rk.takeP (i := 1) (v := ?_) rfl (by kernel_rfl) (by kernel_rfl) (by kernel_rfl) (by kernel_rfl) (fun _ _ _ h => h) (Or.inl ⟨by kernel_rfl, ?_⟩) (by assumption) ?_
      rotate_left
      ·((intro w hSw; go_simp) <;> with_reducible rfl)
      try simp only [Act.put, List.setIfInBounds_toArray, List.set_cons_zero, List.set_cons_succ]
      refine Rk.take [21] (i := 2) (v := ?_) rfl (by kernel_rfl) (by kernel_rfl) (by kernel_rfl) (by kernel_rfl) (by kernel_rfl) (fun _ _ _ h => h) (Or.inl ⟨by kernel_rfl, ?_⟩) (by assumption) ?_
      rotate_left
      ·((intro w hSw; (try dsimp only at hSw); go_simp) <;> with_reducible rfl)
      try simp only [Act.put, List.setIfInBounds_toArray, List.set_cons_zero, List.set_cons_succ]
      refine Rk.takeP (i := 3) (v := ?_) rfl (by kernel_rfl) (by kernel_rfl) (by kernel_rfl) (by kernel_rfl) (fun _ _ _ h => h) (Or.inl ⟨by kernel_rfl, ?_⟩) (by assumption) ?_
      rotate_left
      ·((intro w hSw; go_simp) <;> with_reducible rfl)
      try simp only [Act.put, List.setIfInBounds_toArray, List.set_cons_zero, List.set_cons_succ]
      refine Rk.takeP (i := 4) (v := ?_) rfl (by kernel_rfl) (by kernel_rfl) (by kernel_rfl) (by kernel_rfl) (fun _ _ _ h => h) (Or.inl ⟨by kernel_rfl, ?_⟩) (by assumption) ?_
      rotate_left
      ·((intro w hSw; go_simp) <;> with_reducible rfl)
      try simp only [Act.put, List.setIfInBounds_toArray, List.set_cons_zero, List.set_cons_succ]
      refine Rk.take [7, 8, 9, 19, 20, 21] (i := 5) (v := ?_) rfl (by kernel_rfl) (by kernel_rfl) (by kernel_rfl) (by kernel_rfl) (by kernel_rfl) (fun _ _ _ h => h) (Or.inl ⟨by kernel_rfl, ?_⟩) (by assumption) ?_
      rotate_left
      ·((intro w hSw; (try dsimp only at hSw); go_simp) <;> with_reducible rfl)
      try simp only [Act.put, List.setIfInBounds_toArray, List.set_cons_zero, List.set_cons_succ]
      refine Rk.takeP (i := 6) (v := ?_) rfl (by kernel_rfl) (by kernel_rfl) (by kernel_rfl) (by kernel_rfl) (fun _ _ _ h => h) (Or.inl ⟨by kernel_rfl, ?_⟩) (by assumption) ?_
      rotate_left
      ·((intro w hSw; go_simp) <;> with_reducible rfl)
      try simp only [Act.put, List.setIfInBounds_toArray, List.set_cons_zero, List.set_cons_succ]
      refine Rk.takeP (i := 7) (v := ?_) rfl (by kernel_rfl) (by kernel_rfl) (by kernel_rfl) (by kernel_rfl) (fun _ _ _ h => h) (Or.inl ⟨by kernel_rfl, ?_⟩) (by assumption) ?_
      rotate_left
      ·((intro w hSw; go_simp) <;> with_reducible rfl)
      try simp only [Act.put, List.setIfInBounds_toArray, List.set_cons_zero, List.set_cons_succ]
      refine Rk.takeP (i := 8) (v := ?_) rfl (by kernel_rfl) (by kernel_rfl) (by kernel_rfl) (by kernel_rfl) (fun _ _ _ h => h) (Or.inl ⟨by kernel_rfl, ?_⟩) (by assumption) ?_
      rotate_left
      ·((intro w hSw; go_simp) <;> with_reducible rfl)
      try simp only [Act.put, List.setIfInBounds_toArray, List.set_cons_zero, List.set_cons_succ]
      refine Rk.take [19, 20, 21] (i := 9) (v := ?_) rfl (by kernel_rfl) (by kernel_rfl) (by kernel_rfl) (by kernel_rfl) (by kernel_rfl) (fun _ _ _ h => h) (Or.inl ⟨by kernel_rfl, ?_⟩) (by assumption) ?_
      rotate_left
      ·((intro w hSw; (try dsimp only at hSw); go_simp) <;> with_reducible rfl)
      try simp only [Act.put, List.setIfInBounds_toArray, List.set_cons_zero, List.set_cons_succ]
      refine Rk.takeP (i := 10) (v := ?_) rfl (by kernel_rfl) (by kernel_rfl) (by kernel_rfl) (by kernel_rfl) (fun _ _ _ h => h) (Or.inl ⟨by kernel_rfl, ?_⟩) (by assumption) ?_
      rotate_left
      ·((intro w hSw; go_simp) <;> with_reducible rfl)
      try simp only [Act.put, List.setIfInBounds_toArray, List.set_cons_zero, List.set_cons_succ]
      refine Rk.takeP (i := 11) (v := ?_) rfl (by kernel_rfl) (by kernel_rfl) (by kernel_rfl) (by kernel_rfl) (fun _ _ _ h => h) (Or.inl ⟨by kernel_rfl, ?_⟩) (by assumption) ?_
      rotate_left
      ·((intro w hSw; go_simp) <;> with_reducible rfl)
      try simp only [Act.put, List.setIfInBounds_toArray, List.set_cons_zero, List.set_cons_succ]
      refine Rk.take [14, 15, 16, 18, 21] (i := 12) (v := ?_) rfl (by kernel_rfl) (by kernel_rfl) (by kernel_rfl) (by kernel_rfl) (by kernel_rfl) (fun _ _ _ h => h) (Or.inl ⟨by kernel_rfl, ?_⟩) (by assumption) ?_
      rotate_left
      ·((intro w hSw; (try dsimp only at hSw); go_simp) <;> with_reducible rfl)
      try simp only [Act.put, List.setIfInBounds_toArray, List.set_cons_zero, List.set_cons_succ]
      refine Rk.takeP (i := 13) (v := ?_) rfl (by kernel_rfl) (by kernel_rfl) (by kernel_rfl) (by kernel_rfl) (fun _ _ _ h => h) (Or.inl ⟨by kernel_rfl, ?_⟩) (by assumption) ?_
      rotate_left
      ·((intro w hSw; go_simp) <;> with_reducible rfl)
      try simp only [Act.put, List.setIfInBounds_toArray, List.set_cons_zero, List.set_cons_succ]
      refine Rk.takeP (i := 14) (v := ?_) rfl (by kernel_rfl) (by kernel_rfl) (by kernel_rfl) (by kernel_rfl) (fun _ _ _ h => h) (Or.inl ⟨by kernel_rfl, ?_⟩) (by assumption) ?_
      rotate_left
      ·((intro w hSw; go_simp) <;> with_reducible rfl)
      try simp only [Act.put, List.setIfInBounds_toArray, List.set_cons_zero, List.set_cons_succ]
      refine Rk.takeP (i := 15) (v := ?_) rfl (by kernel_rfl) (by kernel_rfl) (by kernel_rfl) (by kernel_rfl) (fun _ _ _ h => h) (Or.inl ⟨by kernel_rfl, ?_⟩) (by assumption) ?_
      rotate_left
      ·((intro w hSw; go_simp) <;> with_reducible rfl)
      try simp only [Act.put, List.setIfInBounds_toArray, List.set_cons_zero, List.set_cons_succ]
      refine Rk.take [18, 21] (i := 16) (v := ?_) rfl (by kernel_rfl) (by kernel_rfl) (by kernel_rfl) (by kernel_rfl) (by kernel_rfl) (fun _ _ _ h => h) (Or.inl ⟨by kernel_rfl, ?_⟩) (by assumption) ?_
      rotate_left
      ·((intro w hSw; (try dsimp only at hSw); go_simp) <;> with_reducible rfl)
      try simp only [Act.put, List.setIfInBounds_toArray, List.set_cons_zero, List.set_cons_succ]
      refine Rk.takeP (i := 17) (v := ?_) rfl (by kernel_rfl) (by kernel_rfl) (by kernel_rfl) (by kernel_rfl) (fun _ _ _ h => h) (Or.inl ⟨by kernel_rfl, ?_⟩) (by assumption) ?_
      rotate_left
      ·((intro w hSw; go_simp) <;> with_reducible rfl)
      try simp only [Act.put, List.setIfInBounds_toArray, List.set_cons_zero, List.set_cons_succ]
      refine Rk.one (i := 18) (by kernel_rfl) rfl (fun KK hK => ?_)
      rw [if_pos (by kernel_rfl)]
      go_simp
      ((with_reducible refine (FB.out _).mono ?_); rintro e u ⟨rfl, hb⟩)
      have FU := Lib.hid (hF.out.drew.below hb)
      have OU := Lib.hid (own_belowE hO.out.drew hb)
      have KU := Lib.hid (hB.out.drew.trans (hb.mono hB.out.drew.size))
      have hgu : gr < u.heap.size := Nat.lt_of_lt_of_le hlt9 hb.size
      have hNew := HS2.out _ _ hHeld hb
      first | (refine hK.out _ _ (fun _ => hNew) (fun _ => ?_)) | (refine hK.out _ _ hNew (fun _ => ?_)) | (go_wp2_with fail; refine hK.out _ _ hNew (fun _ => ?_))
      replace hHeld := hNew
      clear hNew hb hF hO hB
      clear hK KK
      refine Rk.takeP (i := 19) (v := ?_) rfl (by kernel_rfl) (by kernel_rfl) (by kernel_rfl) (by kernel_rfl) (fun _ _ _ h => h) (Or.inl ⟨by kernel_rfl, ?_⟩) (by assumption) ?_
      rotate_left
      ·((intro w hSw; go_simp) <;> with_reducible rfl)
      try simp only [Act.put, List.setIfInBounds_toArray, List.set_cons_zero, List.set_cons_succ]
      refine Rk.one (i := 20) (by kernel_rfl) rfl (fun KK hK => ?_)
      rw [if_pos (by kernel_rfl)]
      go_simp
      refine hK.out _ _ (HS2.out _ _ hHeld ((Below.refl _ _).alloc (Nat.le_refl _) (Obj.cells #[Value.string z, Value.int .i64 (a / (g : Int))] 59))) (fun hHeld => ?_)
      clear hK KK
      refine Rk.tail [21, 22, 23, 24] [_, _, _, _] (by kernel_rfl) (by kernel_rfl) rfl (by decide) ?_
      obtain ⟨hi, hz0, hz1, hz2⟩ := HI9.out
      have v0 : (u.alloc (Obj.cells #[Value.string z, Value.int .i64 (a / (g : Int))] 59)).cell? ⟨u.heap.size, 0, none⟩ = some (.string z) := by go_cell
      have v1 : (u.alloc (Obj.cells #[Value.string z, Value.int .i64 (a / (g : Int))] 59)).cell? ⟨u.heap.size, 1, none⟩ = some (.int .i64 (a / (g : Int))) := by go_cell
      clear hHeld hz20 HS2 d0 d1 d2 d3 d4 e0 e1 v0 v1
      go_wp2_with (at_builtin; refine wpList_append_own _ rfl _ _ 22 rfl (gr + 1) 59 i0 (.agg #[.string ⟨#[]⟩, .int .i64 0]) 2 24 Tryd.underlying22 hi hz0 hz1 hz2 rfl (by decide) _ _ _ rfl (OU.out.alloc _) ⟨u.heap.size, 0, none⟩ 1 1 [.string z, .int .i64 (a / (g : Int))] rfl rfl ?_ ?_ ?_ ?_ ?_ ?_)
      ·intro q x hx
       rcases q with _ | _ | q
       ·cases hx; go_cell
       ·cases hx; go_cell
       ·simp at hx
      ·intro x hx
       simp at hx
       rcases hx with rfl | rfl <;> rfl
      ·unfold maxLen; omega
      ·omega
      ·simp; omega
      intro v' w4 hown' hgrow _
      have FV := FU.out.below ((Below.refl _ _).alloc (Nat.le_refl _) (Obj.cells #[Value.string z, Value.int .i64 (a / (g : Int))] 59))
      have F4 := FV.own (OU.out.alloc _) hgrow (by simp only [List.forall_mem_cons]; simp; omega)
      have K4 := (KU.out.alloc KU.out.size (Obj.cells #[Value.string z, Value.int .i64 (a / (g : Int))] 59)).grown hgrow (KU.out.alloc KU.out.size (Obj.cells #[Value.string z, Value.int .i64 (a / (g : Int))] 59)).size (fun q hq => by have := (OU.out.lt q hq).1; have := KU.out.size; omega)
      have hown2 : Hid (w4.ownsRow (gr + 1) 59 2 v' (m + 1) (moCs (tdY g (xs.take (m + 1))))) := Lib.hid (by
       rw [HST.out]
       exact hown')
      obtain ⟨q', c', rfl⟩ := own_slice hown2.out
      clear hown' hgrow FU FV OU KU hi hz0 hz1 hz2
      have e0 := F4.head
      have ze0 := F4.headF
      have e1 := F4.tail.head
      have ze1 := F4.tail.headF
      have e2 := F4.tail.tail.head
      have ze2 := F4.tail.tail.headF
      have F5 := F4.tail.tail.tail
      go_wp2
      go_roundw
      case rel =>
       refine ⟨m + 1, .slice q' (m + 1) c', by go_num, by omega, by rw [World.size_setCell]; exact World.block_lt_of_cell? _ _ e0, Lib.hid (Cl.cons (by go_cell) (by simp [World.frozen?_setCell, ze0]) (Cl.cons (by go_cell) (by simp [World.frozen?_setCell, ze1]) (Cl.cons (by go_cell) (by simp [World.frozen?_setCell, ze2]) (F5.far (by simp only [List.forall_mem_cons]; simp; omega))))), Lib.hid (K4.setCell (p := ⟨gr, 1, none⟩) (by show w.heap.size <= gr; omega) _), Lib.hid (own_set hown2.out (by show gr < gr + 1; omega))⟩
      case measure => simp [intOf]; omega
     ·obtain rfl : m = j := by omega
      have hO2 := hO.out
      rw [show xs.take m = xs by rw [<- HN.out]; exact List.take_length] at hO2
      have r0 := hF.out.tail.tail.tail.tail.tail.head
      have zr0 := hF.out.tail.tail.tail.tail.tail.headF
      have r1 := hF.out.tail.tail.tail.tail.tail.tail.head
      have zr1 := hF.out.tail.tail.tail.tail.tail.tail.headF
      have r2 := hF.out.tail.tail.tail.tail.tail.tail.tail.head
      have zr2 := hF.out.tail.tail.tail.tail.tail.tail.tail.headF
      have lr9 : w.heap.size + 1 < wr.heap.size := World.block_lt_of_cell? _ _ r0
      obtain ⟨q, d, hvl, hS⟩ := own_sl' (l := tdY g xs) hO2 (by rw [tdY_len, HN.out])
      subst hvl
      have KE := hB.out
      have HO2 := Lib.hid hO2
      have hS9 := Lib.hid hS
      clear hF hO hO2 hB FA RS RA hS
      go_wp2
      have hq9 : ∀ b o, q = some ⟨b, o, none⟩ -> tdY g xs ≠ [] -> b ≠ w.heap.size + 1 := fun b o hq _ => by
       subst hq
       have := (HO2.out.lt b rfl).1
       omega
      exact bodyPost_ret (v := .tuple #[.agg #[.int .i64 D, .slice q m d, .bool false], .int .i64 0, .int .i64 0]) (by simp [results, Tryd.results29, go_sem, r0, zr0, r1, zr1, r2, zr2, d0, d1, d2, lr9, hlt9, Nat.ne_of_gt lgr, Nat.ne_of_lt lgr]) rfl (TQ.three KE (by omega) (by rw [tdY_len, HN.out]) hS9.out hq9 (fun b o hq _ => own_kind HO2.out b o hq) rfl)
   ·rw [if_pos (by kernel_rfl)]
    go_simp
    have hNew := HS.out _ _ hHeld ((Below.refl _ _).alloc (Nat.le_refl _) (Obj.cells #[Value.int .i64 0, Value.slice none 0 0, Value.bool false] 36))
    refine hK.out _ _ hNew (fun _ => ?_)
    replace hHeld := hNew
    clear hNew
    clear hK KK
    refine Rk.one (i := 4) (by kernel_rfl) rfl (fun KK hK => ?_)
    rw [if_pos (by kernel_rfl)]
    go_simp
    ((with_reducible refine (FD2.out _).mono ?_); rintro e uw4 ⟨rfl, hb⟩)
    have hNew := HS.out _ _ hHeld hb
    have hs_uw4 : wr.heap.size <= uw4.heap.size := by have hzz := hb.size; (try simp at hzz); omega
    have m0 : uw4.cell? ⟨wr.heap.size, 0, none⟩ = some (.int .i64 0) := Rg.keep hb (by simp) (by go_cell)
    have fm0 : uw4.frozen? ⟨wr.heap.size, 0, none⟩ = false := Rg.keepF hb (by simp) (by show (wr.drew.alloc (Obj.cells #[Value.int .i64 0, Value.slice none 0 0, Value.bool false] 36)).frozen? ⟨wr.drew.heap.size, 0, none⟩ = false; simp only [frozen?_alloc_cells]; exact Rg.notFrozen (Nat.le_refl _))
    have m1 : uw4.cell? ⟨wr.heap.size, 1, none⟩ = some (.slice none 0 0) := Rg.keep hb (by simp) (by go_cell)
    have fm1 : uw4.frozen? ⟨wr.heap.size, 1, none⟩ = false := Rg.keepF hb (by simp) (by show (wr.drew.alloc (Obj.cells #[Value.int .i64 0, Value.slice none 0 0, Value.bool false] 36)).frozen? ⟨wr.drew.heap.size, 1, none⟩ = false; simp only [frozen?_alloc_cells]; exact Rg.notFrozen (Nat.le_refl _))
    have m2 : uw4.cell? ⟨wr.heap.size, 2, none⟩ = some (.bool false) := Rg.keep hb (by simp) (by go_cell)
    have fm2 : uw4.frozen? ⟨wr.heap.size, 2, none⟩ = false := Rg.keepF hb (by simp) (by show (wr.drew.alloc (Obj.cells #[Value.int .i64 0, Value.slice none 0 0, Value.bool false] 36)).frozen? ⟨wr.drew.heap.size, 2, none⟩ = false; simp only [frozen?_alloc_cells]; exact Rg.notFrozen (Nat.le_refl _))
    first | (refine hK.out _ _ (fun _ => hNew) (fun _ => ?_)) | (refine hK.out _ _ hNew (fun _ => ?_)) | (go_wp2_with fail; refine hK.out _ _ hNew (fun _ => ?_))
    replace hHeld := hNew
    clear hNew hb
    clear hK KK
    refine Rk.takeP (i := 5) (v := ?_) rfl (by kernel_rfl) (by kernel_rfl) (by kernel_rfl) (by kernel_rfl) (fun _ _ _ h => h) (Or.inl ⟨by kernel_rfl, ?_⟩) (by assumption) ?_
    rotate_left
    ·((intro w hSw; go_simp) <;> with_reducible rfl)
    try simp only [Act.put, List.setIfInBounds_toArray, List.set_cons_zero, List.set_cons_succ]
    refine Rk.takeP (i := 6) (v := ?_) rfl (by kernel_rfl) (by kernel_rfl) (by kernel_rfl) (by kernel_rfl) (fun _ _ _ h => h) (Or.inl ⟨by kernel_rfl, ?_⟩) (by assumption) ?_
    rotate_left
    ·((intro w hSw; go_simp) <;> with_reducible rfl)
    try simp only [Act.put, List.setIfInBounds_toArray, List.set_cons_zero, List.set_cons_succ]
    refine Rk.tail [8] [_] (by kernel_rfl) (by kernel_rfl) rfl (by decide) ?_
    obtain ⟨f0, f1, f2, f3, f4, f5, zf0, zf1, zf2, zf3, zf4, zf5, KF⟩ := hHeld
    have lm : wr.heap.size < uw4.heap.size := World.block_lt_of_cell? _ _ m0
    have lw : w.heap.size <= wr.heap.size := by omega
    have ne0 : wr.heap.size ≠ w.heap.size := by omega
    have ne1 : wr.heap.size ≠ w.heap.size + 1 := by omega
    have lo0 : w.heap.size < uw4.heap.size := by omega
    have lo1 : w.heap.size + 1 < uw4.heap.size := by omega
    go_wp2_with fail
    have f0 : (((uw4.setCell ⟨wr.heap.size, 0, none⟩ (.int .i64 D)).setCell ⟨wr.heap.size, 1, none⟩ (.slice none 0 0)).setCell ⟨wr.heap.size, 2, none⟩ (.bool false)).cell? ⟨w.heap.size, 0, none⟩ = some (.int .i64 k) := far3 ne0 f0
    have f1 : (((uw4.setCell ⟨wr.heap.size, 0, none⟩ (.int .i64 D)).setCell ⟨wr.heap.size, 1, none⟩ (.slice none 0 0)).setCell ⟨wr.heap.size, 2, none⟩ (.bool false)).cell? ⟨w.heap.size, 1, none⟩ = some (.slice p j c) := far3 ne0 f1
    have f2 : (((uw4.setCell ⟨wr.heap.size, 0, none⟩ (.int .i64 D)).setCell ⟨wr.heap.size, 1, none⟩ (.slice none 0 0)).setCell ⟨wr.heap.size, 2, none⟩ (.bool false)).cell? ⟨w.heap.size, 2, none⟩ = some (.bool false) := far3 ne0 f2
    have f3 : (((uw4.setCell ⟨wr.heap.size, 0, none⟩ (.int .i64 D)).setCell ⟨wr.heap.size, 1, none⟩ (.slice none 0 0)).setCell ⟨wr.heap.size, 2, none⟩ (.bool false)).cell? ⟨w.heap.size + 1, 0, none⟩ = some (.int .i64 0) := far3 ne1 f3
    have f4 : (((uw4.setCell ⟨wr.heap.size, 0, none⟩ (.int .i64 D)).setCell ⟨wr.heap.size, 1, none⟩ (.slice none 0 0)).setCell ⟨wr.heap.size, 2, none⟩ (.bool false)).cell? ⟨w.heap.size + 1, 1, none⟩ = some (.slice none 0 0) := far3 ne1 f4
    have f5 : (((uw4.setCell ⟨wr.heap.size, 0, none⟩ (.int .i64 D)).setCell ⟨wr.heap.size, 1, none⟩ (.slice none 0 0)).setCell ⟨wr.heap.size, 2, none⟩ (.bool false)).cell? ⟨w.heap.size + 1, 2, none⟩ = some (.bool false) := far3 ne1 f5
    have zf0 : (((uw4.setCell ⟨wr.heap.size, 0, none⟩ (.int .i64 D)).setCell ⟨wr.heap.size, 1, none⟩ (.slice none 0 0)).setCell ⟨wr.heap.size, 2, none⟩ (.bool false)).frozen? ⟨w.heap.size, 0, none⟩ = false := by simpa [World.frozen?_setCell] using zf0
    have zf1 : (((uw4.setCell ⟨wr.heap.size, 0, none⟩ (.int .i64 D)).setCell ⟨wr.heap.size, 1, none⟩ (.slice none 0 0)).setCell ⟨wr.heap.size, 2, none⟩ (.bool false)).frozen? ⟨w.heap.size, 1, none⟩ = false := by simpa [World.frozen?_setCell] using zf1
    have zf2 : (((uw4.setCell ⟨wr.heap.size, 0, none⟩ (.int .i64 D)).setCell ⟨wr.heap.size, 1, none⟩ (.slice none 0 0)).setCell ⟨wr.heap.size, 2, none⟩ (.bool false)).frozen? ⟨w.heap.size, 2, none⟩ = false := by simpa [World.frozen?_setCell] using zf2
    have zf3 : (((uw4.setCell ⟨wr.heap.size, 0, none⟩ (.int .i64 D)).setCell ⟨wr.heap.size, 1, none⟩ (.slice none 0 0)).setCell ⟨wr.heap.size, 2, none⟩ (.bool false)).frozen? ⟨w.heap.size + 1, 0, none⟩ = false := by simpa [World.frozen?_setCell] using zf3
    have zf4 : (((uw4.setCell ⟨wr.heap.size, 0, none⟩ (.int .i64 D)).setCell ⟨wr.heap.size, 1, none⟩ (.slice none 0 0)).setCell ⟨wr.heap.size, 2, none⟩ (.bool false)).frozen? ⟨w.heap.size + 1, 1, none⟩ = false := by simpa [World.frozen?_setCell] using zf4
    have zf5 : (((uw4.setCell ⟨wr.heap.size, 0, none⟩ (.int .i64 D)).setCell ⟨wr.heap.size, 1, none⟩ (.slice none 0 0)).setCell ⟨wr.heap.size, 2, none⟩ (.bool false)).frozen? ⟨w.heap.size + 1, 2, none⟩ = false := by simpa [World.frozen?_setCell] using zf5
    have hst := st3 (x := .int .i64 D) (y := .slice none 0 0) (z := .bool false) m0 m1 m2
    obtain ⟨s0, s1, s2⟩ := hst
    have KS : Below w.heap.size w (((uw4.setCell ⟨wr.heap.size, 0, none⟩ (.int .i64 D)).setCell ⟨wr.heap.size, 1, none⟩ (.slice none 0 0)).setCell ⟨wr.heap.size, 2, none⟩ (.bool false)) := (Below.setCell (Below.setCell (Below.setCell KF (by dsimp only; omega) _) (by dsimp only; omega) _) (by dsimp only; omega) _)
    have lm : wr.heap.size < (((uw4.setCell ⟨wr.heap.size, 0, none⟩ (.int .i64 D)).setCell ⟨wr.heap.size, 1, none⟩ (.slice none 0 0)).setCell ⟨wr.heap.size, 2, none⟩ (.bool false)).heap.size := World.block_lt_of_cell? _ _ s0
    have lo0 : w.heap.size < (((uw4.setCell ⟨wr.heap.size, 0, none⟩ (.int .i64 D)).setCell ⟨wr.heap.size, 1, none⟩ (.slice none 0 0)).setCell ⟨wr.heap.size, 2, none⟩ (.bool false)).heap.size := by simp; omega
    have lo1 : w.heap.size + 1 < (((uw4.setCell ⟨wr.heap.size, 0, none⟩ (.int .i64 D)).setCell ⟨wr.heap.size, 1, none⟩ (.slice none 0 0)).setCell ⟨wr.heap.size, 2, none⟩ (.bool false)).heap.size := by simp; omega
    have z0 : (((uw4.setCell ⟨wr.heap.size, 0, none⟩ (.int .i64 D)).setCell ⟨wr.heap.size, 1, none⟩ (.slice none 0 0)).setCell ⟨wr.heap.size, 2, none⟩ (.bool false)).frozen? ⟨wr.heap.size, 0, none⟩ = false := by simpa [World.frozen?_setCell] using fm0
    have z1 : (((uw4.setCell ⟨wr.heap.size, 0, none⟩ (.int .i64 D)).setCell ⟨wr.heap.size, 1, none⟩ (.slice none 0 0)).setCell ⟨wr.heap.size, 2, none⟩ (.bool false)).frozen? ⟨wr.heap.size, 1, none⟩ = false := by simpa [World.frozen?_setCell] using fm1
    have z2 : (((uw4.setCell ⟨wr.heap.size, 0, none⟩ (.int .i64 D)).setCell ⟨wr.heap.size, 1, none⟩ (.slice none 0 0)).setCell ⟨wr.heap.size, 2, none⟩ (.bool false)).frozen? ⟨wr.heap.size, 2, none⟩ = false := by simpa [World.frozen?_setCell] using fm2
    clear KF m0 fm0 m1 fm1 m2 fm2
    generalize (((uw4.setCell ⟨wr.heap.size, 0, none⟩ (.int .i64 D)).setCell ⟨wr.heap.size, 1, none⟩ (.slice none 0 0)).setCell ⟨wr.heap.size, 2, none⟩ (.bool false)) = gs at *
    have lgr : w.heap.size + 1 < wr.heap.size := by omega
    generalize wr.heap.size = gr at *
    have F1h : Hid (Cl ((gr, 0, .int .i64 D) :: (gr, 1, .slice none 0 0) :: (gr, 2, .bool false) :: [(w.heap.size, 1, .slice p j c), (w.heap.size, 2, .bool false), (w.heap.size + 1, 0, .int .i64 0), (w.heap.size + 1, 1, .slice none 0 0), (w.heap.size + 1, 2, .bool false)]) gs) := Lib.hid (Cl.cons s0 z0 (Cl.cons s1 z1 (Cl.cons s2 z2 (Cl.cons f1 zf1 (Cl.cons f2 zf2 (Cl.cons f3 zf3 (Cl.cons f4 zf4 (Cl.cons f5 zf5 (Cl.nil _)))))))))
    have KS9 := Lib.hid KS
    have lm9 := lm
    clear f0 f1 f2 f3 f4 f5 zf0 zf1 zf2 zf3 zf4 zf5 s0 s1 s2 z0 z1 z2 KS lm ne0 ne1 lo0 lo1 lw HS FD FD2
    go_loopw [10] (fun i wr => ∃ (m : Nat) (vl : Value), i = .int .i64 m /\ m <= j /\ gr < wr.heap.size /\ Hid (Cl ((gr, 0, .int .i64 D) :: (gr, 1, vl) :: (gr, 2, .bool false) :: [(w.heap.size, 1, .slice p j c), (w.heap.size, 2, .bool false), (w.heap.size + 1, 0, .int .i64 0), (w.heap.size + 1, 1, .slice none 0 0), (w.heap.size + 1, 2, .bool false)]) wr) /\ Hid (Below w.heap.size w wr) /\ Hid (wr.ownsRow (gr + 1) 59 2 vl m (moCs (tdY g (xs.take m))))) (fun i _ => j - (intOf i).toNat)
    case atStart => exact ⟨0, .slice none 0 0, rfl, Nat.zero_le _, lm9, F1h, KS9, Lib.hid (World.ownsRow_nil _ _ _ _)⟩
    case round =>
     obtain ⟨m, vl, rfl, hm, hlt9, hF, hB, hO⟩ := hrel
     clear F1h KS9 lm9
     have mm : (0 : Int) <= m := by omega
     have d0 := hF.out.head
     have d1 := hF.out.tail.head
     have d2 := hF.out.tail.tail.head
     have d3 := hF.out.tail.tail.tail.head
     have d4 := hF.out.tail.tail.tail.tail.head
     by_cases hlt : m < j
     ·obtain ⟨b, o, rfl, e0, e1⟩ := RA.out m (by rw [HN.out]; exact hlt)
      have m2 : (m : Int) < j := by omega
      have hbw : b < w.heap.size := World.block_lt_of_cell? _ _ e0
      replace e0 := Rg.keep hB.out hbw e0
      replace e1 := Rg.keep hB.out hbw e1
      have hbr : b < wr.heap.size := World.block_lt_of_cell? _ _ e0
      have hst := tdY_take (G := g) (xs := xs) (j := m) (by rw [HN.out]; exact hlt)
      obtain ⟨-, y0, y1⟩ := RS.out m (by rw [HN.out]; exact hlt)
      obtain ⟨x, hx⟩ : ∃ x, xs.getD m mo0 = x := ⟨_, rfl⟩
      rw [hx] at e0 e1 hst y0 y1
      obtain ⟨z, a⟩ := x
      dsimp only at e0 e1 hst y0 y1
      have FB : Hid (∀ w, Calls Tryd.prog 65 #[.int .i64 a, .int .u64 (g : Int)] w fun e w' => e = .returned (.int .i64 (a / (g : Int))) /\ Below w.heap.size w w') := Lib.hid fun w => (FA.out a y0 y1 w).mono fun e w' ⟨h1, h2⟩ => ⟨h1, by rw [<- h2]; exact Below.refl _ _⟩
      have HST := Lib.hid hst
      have hz20 : wr.drew.cell? ⟨gr, 1, none⟩ = some (vl) /\ wr.drew.cell? ⟨w.heap.size, 1, none⟩ = some (.slice (some ⟨b, o, none⟩) j c) /\ wr.drew.cell? ⟨b, o + m * 2, none⟩ = some (.string z) /\ wr.drew.cell? ⟨b, o + m * 2 + 1, none⟩ = some (.int .i64 a) /\ Below wr.heap.size wr wr.drew := ⟨d1, d3, e0, e1, (Below.refl _ _).drew⟩
      have HS2 : Hid (∀ u u' : World, (u.cell? ⟨gr, 1, none⟩ = some (vl) /\ u.cell? ⟨w.heap.size, 1, none⟩ = some (.slice (some ⟨b, o, none⟩) j c) /\ u.cell? ⟨b, o + m * 2, none⟩ = some (.string z) /\ u.cell? ⟨b, o + m * 2 + 1, none⟩ = some (.int .i64 a) /\ Below wr.heap.size wr u) -> Below u.heap.size u u' -> (u'.cell? ⟨gr, 1, none⟩ = some (vl) /\ u'.cell? ⟨w.heap.size, 1, none⟩ = some (.slice (some ⟨b, o, none⟩) j c) /\ u'.cell? ⟨b, o + m * 2, none⟩ = some (.string z) /\ u'.cell? ⟨b, o + m * 2 + 1, none⟩ = some (.int .i64 a) /\ Below wr.heap.size wr u')) := Lib.hid (fun u u' h hb => ⟨Rg.keep hb (World.block_lt_of_cell? _ _ h.1) h.1, Rg.keep hb (World.block_lt_of_cell? _ _ h.2.1) h.2.1, Rg.keep hb (World.block_lt_of_cell? _ _ h.2.2.1) h.2.2.1, Rg.keep hb (World.block_lt_of_cell? _ _ h.2.2.2.1) h.2.2.2.1, h.2.2.2.2.trans (hb.mono h.2.2.2.2.size)⟩)
      clear hx hst y0 y1
      go_wp2_with fail
      refine Rk.begin (S := fun wS => wS.cell? ⟨gr, 1, none⟩ = some (vl) /\ wS.cell? ⟨w.heap.size, 1, none⟩ = some (.slice (some ⟨b, o, none⟩) j c) /\ wS.cell? ⟨b, o + m * 2, none⟩ = some (.string z) /\ wS.cell? ⟨b, o + m * 2 + 1, none⟩ = some (.int .i64 a) /\ Below wr.heap.size wr wS) 21 (by kernel_rfl) hz20 (fun hHeld => ?_)
      refine Rk.takeP (i := 0) (v := ?_) rfl (by kernel_rfl) (by kernel_rfl) (by kernel_rfl) (by kernel_rfl) (fun _ _ _ h => h) (Or.inl ⟨by kernel_rfl, ?_⟩) (by assumption) ?_
      rotate_left
      ·((intro w hSw; go_simp) <;> with_reducible rfl)
      try simp only [Act.put, List.setIfInBounds_toArray, List.set_cons_zero, List.set_cons_succ]
      refine Rk.takeP (i := 1) (v := ?_) rfl (by kernel_rfl) (by kernel_rfl) (by kernel_rfl) (by kernel_rfl) (fun _ _ _ h => h) (Or.inl ⟨by kernel_rfl, ?_⟩) (by assumption) ?_
      rotate_left
      ·((intro w hSw; go_simp) <;> with_reducible rfl)
      try simp only [Act.put, List.setIfInBounds_toArray, List.set_cons_zero, List.set_cons_succ]
      refine Rk.take [21] (i := 2) (v := ?_) rfl (by kernel_rfl) (by kernel_rfl) (by kernel_rfl) (by kernel_rfl) (by kernel_rfl) (fun _ _ _ h => h) (Or.inl ⟨by kernel_rfl, ?_⟩) (by assumption) ?_
      rotate_left
      ·((intro w hSw; (try dsimp only at hSw); go_simp) <;> with_reducible rfl)
      try simp only [Act.put, List.setIfInBounds_toArray, List.set_cons_zero, List.set_cons_succ]
      refine Rk.takeP (i := 3) (v := ?_) rfl (by kernel_rfl) (by kernel_rfl) (by kernel_rfl) (by kernel_rfl) (fun _ _ _ h => h) (Or.inl ⟨by kernel_rfl, ?_⟩) (by assumption) ?_
      rotate_left
      ·((intro w hSw; go_simp) <;> with_reducible rfl)
      try simp only [Act.put, List.setIfInBounds_toArray, List.set_cons_zero, List.set_cons_succ]
      refine Rk.takeP (i := 4) (v := ?_) rfl (by kernel_rfl) (by kernel_rfl) (by kernel_rfl) (by kernel_rfl) (fun _ _ _ h => h) (Or.inl ⟨by kernel_rfl, ?_⟩) (by assumption) ?_
      rotate_left
      ·((intro w hSw; go_simp) <;> with_reducible rfl)
      try simp only [Act.put, List.setIfInBounds_toArray, List.set_cons_zero, List.set_cons_succ]
      refine Rk.take [7, 8, 9, 19, 20, 21] (i := 5) (v := ?_) rfl (by kernel_rfl) (by kernel_rfl) (by kernel_rfl) (by kernel_rfl) (by kernel_rfl) (fun _ _ _ h => h) (Or.inl ⟨by kernel_rfl, ?_⟩) (by assumption) ?_
      rotate_left
      ·((intro w hSw; (try dsimp only at hSw); go_simp) <;> with_reducible rfl)
      try simp only [Act.put, List.setIfInBounds_toArray, List.set_cons_zero, List.set_cons_succ]
      refine Rk.takeP (i := 6) (v := ?_) rfl (by kernel_rfl) (by kernel_rfl) (by kernel_rfl) (by kernel_rfl) (fun _ _ _ h => h) (Or.inl ⟨by kernel_rfl, ?_⟩) (by assumption) ?_
      rotate_left
      ·((intro w hSw; go_simp) <;> with_reducible rfl)
      try simp only [Act.put, List.setIfInBounds_toArray, List.set_cons_zero, List.set_cons_succ]
      refine Rk.takeP (i := 7) (v := ?_) rfl (by kernel_rfl) (by kernel_rfl) (by kernel_rfl) (by kernel_rfl) (fun _ _ _ h => h) (Or.inl ⟨by kernel_rfl, ?_⟩) (by assumption) ?_
      rotate_left
      ·((intro w hSw; go_simp) <;> with_reducible rfl)
      try simp only [Act.put, List.setIfInBounds_toArray, List.set_cons_zero, List.set_cons_succ]
      refine Rk.takeP (i := 8) (v := ?_) rfl (by kernel_rfl) (by kernel_rfl) (by kernel_rfl) (by kernel_rfl) (fun _ _ _ h => h) (Or.inl ⟨by kernel_rfl, ?_⟩) (by assumption) ?_
      rotate_left
      ·((intro w hSw; go_simp) <;> with_reducible rfl)
      try simp only [Act.put, List.setIfInBounds_toArray, List.set_cons_zero, List.set_cons_succ]
      refine Rk.take [19, 20, 21] (i := 9) (v := ?_) rfl (by kernel_rfl) (by kernel_rfl) (by kernel_rfl) (by kernel_rfl) (by kernel_rfl) (fun _ _ _ h => h) (Or.inl ⟨by kernel_rfl, ?_⟩) (by assumption) ?_
      rotate_left
      ·((intro w hSw; (try dsimp only at hSw); go_simp) <;> with_reducible rfl)
      try simp only [Act.put, List.setIfInBounds_toArray, List.set_cons_zero, List.set_cons_succ]
      refine Rk.takeP (i := 10) (v := ?_) rfl (by kernel_rfl) (by kernel_rfl) (by kernel_rfl) (by kernel_rfl) (fun _ _ _ h => h) (Or.inl ⟨by kernel_rfl, ?_⟩) (by assumption) ?_
      rotate_left
      ·((intro w hSw; go_simp) <;> with_reducible rfl)
      try simp only [Act.put, List.setIfInBounds_toArray, List.set_cons_zero, List.set_cons_succ]
      refine Rk.takeP (i := 11) (v := ?_) rfl (by kernel_rfl) (by kernel_rfl) (by kernel_rfl) (by kernel_rfl) (fun _ _ _ h => h) (Or.inl ⟨by kernel_rfl, ?_⟩) (by assumption) ?_
      rotate_left
      ·((intro w hSw; go_simp) <;> with_reducible rfl)
      try simp only [Act.put, List.setIfInBounds_toArray, List.set_cons_zero, List.set_cons_succ]
      refine Rk.take [14, 15, 16, 18, 21] (i := 12) (v := ?_) rfl (by kernel_rfl) (by kernel_rfl) (by kernel_rfl) (by kernel_rfl) (by kernel_rfl) (fun _ _ _ h => h) (Or.inl ⟨by kernel_rfl, ?_⟩) (by assumption) ?_
      rotate_left
      ·((intro w hSw; (try dsimp only at hSw); go_simp) <;> with_reducible rfl)
      try simp only [Act.put, List.setIfInBounds_toArray, List.set_cons_zero, List.set_cons_succ]
      refine Rk.takeP (i := 13) (v := ?_) rfl (by kernel_rfl) (by kernel_rfl) (by kernel_rfl) (by kernel_rfl) (fun _ _ _ h => h) (Or.inl ⟨by kernel_rfl, ?_⟩) (by assumption) ?_
      rotate_left
      ·((intro w hSw; go_simp) <;> with_reducible rfl)
      try simp only [Act.put, List.setIfInBounds_toArray, List.set_cons_zero, List.set_cons_succ]
      refine Rk.takeP (i := 14) (v := ?_) rfl (by kernel_rfl) (by kernel_rfl) (by kernel_rfl) (by kernel_rfl) (fun _ _ _ h => h) (Or.inl ⟨by kernel_rfl, ?_⟩) (by assumption) ?_
      rotate_left
      ·((intro w hSw; go_simp) <;> with_reducible rfl)
      try simp only [Act.put, List.setIfInBounds_toArray, List.set_cons_zero, List.set_cons_succ]
      refine Rk.takeP (i := 15) (v := ?_) rfl (by kernel_rfl) (by kernel_rfl) (by kernel_rfl) (by kernel_rfl) (fun _ _ _ h => h) (Or.inl ⟨by kernel_rfl, ?_⟩) (by assumption) ?_
      rotate_left
      ·((intro w hSw; go_simp) <;> with_reducible rfl)
      try simp only [Act.put, List.setIfInBounds_toArray, List.set_cons_zero, List.set_cons_succ]
      refine Rk.take [18, 21] (i := 16) (v := ?_) rfl (by kernel_rfl) (by kernel_rfl) (by kernel_rfl) (by kernel_rfl) (by kernel_rfl) (fun _ _ _ h => h) (Or.inl ⟨by kernel_rfl, ?_⟩) (by assumption) ?_
      rotate_left
      ·((intro w hSw; (try dsimp only at hSw); go_simp) <;> with_reducible rfl)
      try simp only [Act.put, List.setIfInBounds_toArray, List.set_cons_zero, List.set_cons_succ]
      refine Rk.takeP (i := 17) (v := ?_) rfl (by kernel_rfl) (by kernel_rfl) (by kernel_rfl) (by kernel_rfl) (fun _ _ _ h => h) (Or.inl ⟨by kernel_rfl, ?_⟩) (by assumption) ?_
      rotate_left
      ·((intro w hSw; go_simp) <;> with_reducible rfl)
      try simp only [Act.put, List.setIfInBounds_toArray, List.set_cons_zero, List.set_cons_succ]
      refine Rk.one (i := 18) (by kernel_rfl) rfl (fun KK hK => ?_)
      rw [if_pos (by kernel_rfl)]
      go_simp
      ((with_reducible refine (FB.out _).mono ?_); rintro e u ⟨rfl, hb⟩)
      have FU := Lib.hid (hF.out.drew.below hb)
      have OU := Lib.hid (own_belowE hO.out.drew hb)
      have KU := Lib.hid (hB.out.drew.trans (hb.mono hB.out.drew.size))
      have hgu : gr < u.heap.size := Nat.lt_of_lt_of_le hlt9 hb.size
      have hNew := HS2.out _ _ hHeld hb
      first | (refine hK.out _ _ (fun _ => hNew) (fun _ => ?_)) | (refine hK.out _ _ hNew (fun _ => ?_)) | (go_wp2_with fail; refine hK.out _ _ hNew (fun _ => ?_))
      replace hHeld := hNew
      clear hNew hb hF hO hB
      clear hK KK
      refine Rk.takeP (i := 19) (v := ?_) rfl (by kernel_rfl) (by kernel_rfl) (by kernel_rfl) (by kernel_rfl) (fun _ _ _ h => h) (Or.inl ⟨by kernel_rfl, ?_⟩) (by assumption) ?_
      rotate_left
      ·((intro w hSw; go_simp) <;> with_reducible rfl)
      try simp only [Act.put, List.setIfInBounds_toArray, List.set_cons_zero, List.set_cons_succ]
      refine Rk.one (i := 20) (by kernel_rfl) rfl (fun KK hK => ?_)
      rw [if_pos (by kernel_rfl)]
      go_simp
      refine hK.out _ _ (HS2.out _ _ hHeld ((Below.refl _ _).alloc (Nat.le_refl _) (Obj.cells #[Value.string z, Value.int .i64 (a / (g : Int))] 59))) (fun hHeld => ?_)
      clear hK KK
      refine Rk.tail [21, 22, 23, 24] [_, _, _, _] (by kernel_rfl) (by kernel_rfl) rfl (by decide) ?_
      obtain ⟨hi, hz0, hz1, hz2⟩ := HI9.out
      have v0 : (u.alloc (Obj.cells #[Value.string z, Value.int .i64 (a / (g : Int))] 59)).cell? ⟨u.heap.size, 0, none⟩ = some (.string z) := by go_cell
      have v1 : (u.alloc (Obj.cells #[Value.string z, Value.int .i64 (a / (g : Int))] 59)).cell? ⟨u.heap.size, 1, none⟩ = some (.int .i64 (a / (g : Int))) := by go_cell
      clear hHeld hz20 HS2 d0 d1 d2 d3 d4 e0 e1 v0 v1
      go_wp2_with (at_builtin; refine wpList_append_own _ rfl _ _ 22 rfl (gr + 1) 59 i0 (.agg #[.string ⟨#[]⟩, .int .i64 0]) 2 24 Tryd.underlying22 hi hz0 hz1 hz2 rfl (by decide) _ _ _ rfl (OU.out.alloc _) ⟨u.heap.size, 0, none⟩ 1 1 [.string z, .int .i64 (a / (g : Int))] rfl rfl ?_ ?_ ?_ ?_ ?_ ?_)
      ·intro q x hx
       rcases q with _ | _ | q
       ·cases hx; go_cell
       ·cases hx; go_cell
       ·simp at hx
      ·intro x hx
       simp at hx
       rcases hx with rfl | rfl <;> rfl
      ·unfold maxLen; omega
      ·omega
      ·simp; omega
      intro v' w4 hown' hgrow _
      have FV := FU.out.below ((Below.refl _ _).alloc (Nat.le_refl _) (Obj.cells #[Value.string z, Value.int .i64 (a / (g : Int))] 59))
      have F4 := FV.own (OU.out.alloc _) hgrow (by simp only [List.forall_mem_cons]; simp; omega)
      have K4 := (KU.out.alloc KU.out.size (Obj.cells #[Value.string z, Value.int .i64 (a / (g : Int))] 59)).grown hgrow (KU.out.alloc KU.out.size (Obj.cells #[Value.string z, Value.int .i64 (a / (g : Int))] 59)).size (fun q hq => by have := (OU.out.lt q hq).1; have := KU.out.size; omega)
      have hown2 : Hid (w4.ownsRow (gr + 1) 59 2 v' (m + 1) (moCs (tdY g (xs.take (m + 1))))) := Lib.hid (by
       rw [HST.out]
       exact hown')
      obtain ⟨q', c', rfl⟩ := own_slice hown2.out
      clear hown' hgrow FU FV OU KU hi hz0 hz1 hz2
      have e0 := F4.head
      have ze0 := F4.headF
      have e1 := F4.tail.head
      have ze1 := F4.tail.headF
      have e2 := F4.tail.tail.head
      have ze2 := F4.tail.tail.headF
      have F5 := F4.tail.tail.tail
      go_wp2
      go_roundw
      case rel =>
       refine ⟨m + 1, .slice q' (m + 1) c', by go_num, by omega, by rw [World.size_setCell]; exact World.block_lt_of_cell? _ _ e0, Lib.hid (Cl.cons (by go_cell) (by simp [World.frozen?_setCell, ze0]) (Cl.cons (by go_cell) (by simp [World.frozen?_setCell, ze1]) (Cl.cons (by go_cell) (by simp [World.frozen?_setCell, ze2]) (F5.far (by simp only [List.forall_mem_cons]; simp; omega))))), Lib.hid (K4.setCell (p := ⟨gr, 1, none⟩) (by show w.heap.size <= gr; omega) _), Lib.hid (own_set hown2.out (by show gr < gr + 1; omega))⟩
      case measure => simp [intOf]; omega
     ·obtain rfl : m = j := by omega
      have hO2 := hO.out
      rw [show xs.take m = xs by rw [<- HN.out]; exact List.take_length] at hO2
      have r0 := hF.out.tail.tail.tail.tail.tail.head
      have zr0 := hF.out.tail.tail.tail.tail.tail.headF
      have r1 := hF.out.tail.tail.tail.tail.tail.tail.head
      have zr1 := hF.out.tail.tail.tail.tail.tail.tail.headF
      have r2 := hF.out.tail.tail.tail.tail.tail.tail.tail.head
      have zr2 := hF.out.tail.tail.tail.tail.tail.tail.tail.headF
      have lr9 : w.heap.size + 1 < wr.heap.size := World.block_lt_of_cell? _ _ r0
      obtain ⟨q, d, hvl, hS⟩ := own_sl' (l := tdY g xs) hO2 (by rw [tdY_len, HN.out])
      subst hvl
      have KE := hB.out
      have HO2 := Lib.hid hO2
      have hS9 := Lib.hid hS
      clear hF hO hO2 hB FA RS RA hS
      go_wp2
      have hq9 : ∀ b o, q = some ⟨b, o, none⟩ -> tdY g xs ≠ [] -> b ≠ w.heap.size + 1 := fun b o hq _ => by
       subst hq
       have := (HO2.out.lt b rfl).1
       omega
      exact bodyPost_ret (v := .tuple #[.agg #[.int .i64 D, .slice q m d, .bool false], .int .i64 0, .int .i64 0]) (by simp [results, Tryd.results29, go_sem, r0, zr0, r1, zr1, r2, zr2, d0, d1, d2, lr9, hlt9, Nat.ne_of_gt lgr, Nat.ne_of_lt lgr]) rfl (TQ.three KE (by omega) (by rw [tdY_len, HN.out]) hS9.out hq9 (fun b o hq _ => own_kind HO2.out b o hq) rfl)
end Go.Proofs.YtbicmlkjonaccaaDoor.Ln
