/- Tensors: Reduce without a scan. -/
import Derived.Test.YteaaikmejacpaaaGreatDoorR0
import Derived.Test.YteaaikmejacpaaaGreatDoorR14
import Derived.Deep.CutRange

namespace Go.Proofs.YteaaikmejacpaaaGreatDoor.Te
open Go.ChangeShapes Go.WideShapes Go.ChangeAt Go.RowKit
open Fx Va Sh
set_option maxRecDepth 8000
set_option linter.unusedVariables false
set_option linter.unusedSimpArgs false

/-- The answer of Reduce along a line, by its number. -/
def rdL (fold K B F R O : Int) (vs : List (Int × Int)) (my af i : Nat) : Int × Int × Int := rdv fold K B F R O (lnV vs my af i)
def rdE (fold K B F R O : Int) (vs : List (Int × Int)) (my af i : Nat) : Int := (rdL fold K B F R O vs my af i).2.2
def rdVs (fold K B F R O : Int) (vs : List (Int × Int)) (my af n : Nat) : List (Int × Int) := (List.range n).map fun i => ((rdL fold K B F R O vs my af i).1, (rdL fold K B F R O vs my af i).2.1)
theorem rdVs_succ (fold K B F R O : Int) (vs : List (Int × Int)) (my af n : Nat) : rdVs fold K B F R O vs my af (n + 1) = rdVs fold K B F R O vs my af n ++ [((rdL fold K B F R O vs my af n).1, (rdL fold K B F R O vs my af n).2.1)] := by
 unfold rdVs; rw [List.range_succ, List.map_append]; rfl
theorem rdVs_length (fold K B F R O : Int) (vs : List (Int × Int)) (my af n : Nat) : (rdVs fold K B F R O vs my af n).length = n := by simp [rdVs]
/-- The three parts of a shape around an axis, as numbers. -/
theorem parts {zs : List Int} {m a : Nat} (hv : vE zs = 0) (ha : a < zs.length) (hm : (m : Int) = sp zs) : ∃ bf my af : Nat, sp (zs.take a) = bf /\ zs.getD a 0 = my /\ sp (zs.drop (a + 1)) = af /\ 1 <= bf /\ 1 <= my /\ 1 <= af /\ m = bf * my * af /\ bf * af <= m /\ my <= m /\ bf <= m /\ af <= m := by
 obtain ⟨e, p1, p2, p3⟩ := sp_parts hv ha
 obtain ⟨bf, h1⟩ : ∃ bf : Nat, sp (zs.take a) = bf := ⟨(sp (zs.take a)).toNat, by omega⟩
 obtain ⟨my, h2⟩ : ∃ my : Nat, zs.getD a 0 = my := ⟨(zs.getD a 0).toNat, by omega⟩
 obtain ⟨af, h3⟩ : ∃ af : Nat, sp (zs.drop (a + 1)) = af := ⟨(sp (zs.drop (a + 1))).toNat, by omega⟩
 rw [h1, h2, h3] at e
 rw [h1] at p1; rw [h2] at p2; rw [h3] at p3
 have q1 : 1 <= bf := by omega
 have q2 : 1 <= my := by omega
 have q3 : 1 <= af := by omega
 have e2 : m = bf * my * af := by
  have : (m : Int) = ((bf * my * af : Nat) : Int) := by rw [hm, e]; push_cast; rfl
  exact_mod_cast this
 have m1 : bf * af <= m := by
  rw [e2, Nat.mul_right_comm]; exact Nat.le_mul_of_pos_right _ q2
 have m2 : my <= m := by
  rw [e2, Nat.mul_comm bf my, Nat.mul_assoc]; exact Nat.le_mul_of_pos_right _ (Nat.mul_pos q1 q3)
 exact ⟨bf, my, af, h1, h2, h3, q1, q2, q3, e2, m1, m2, Nat.le_trans (Nat.le_mul_of_pos_right _ q3) m1, Nat.le_trans (Nat.le_mul_of_pos_left _ q1) m1⟩
theorem lnF_eq (my af j : Nat) : lnF my af j = j / af * my * af + j % af := rfl
theorem line_set {vs : List (Int × Int)} {my af j k : Nat} (h : k < my) : ((lnV vs my af j).take k ++ List.replicate (my - k) ((0 : Int), (0 : Int))).set k (vs.getD (lnF my af j + k * af) (0, 0)) = (lnV vs my af j).take (k + 1) ++ List.replicate (my - (k + 1)) ((0 : Int), (0 : Int)) := by
 have hl : ((lnV vs my af j).take k).length = k := by rw [List.length_take, lnV_length]; omega
 rw [show my - k = (my - (k + 1)) + 1 by omega, List.replicate_succ, set_app hl, lnV_take _ _ _ _ _ h, List.append_assoc]
 rfl
theorem line_len {vs : List (Int × Int)} {my af j k : Nat} (h : k <= my) : ((lnV vs my af j).take k ++ List.replicate (my - k) ((0 : Int), (0 : Int))).length = my := by
 rw [List.length_append, List.length_take, lnV_length, List.length_replicate]; omega
theorem line_full {vs : List (Int × Int)} {my af j k : Nat} (h : k = my) : (lnV vs my af j).take k ++ List.replicate (my - k) ((0 : Int), (0 : Int)) = lnV vs my af j := by
 subst h
 rw [Nat.sub_self, List.take_of_length_le (by rw [lnV_length]; exact Nat.le_refl _)]
 exact List.append_nil _

theorem w64 {x : Int} (h0 : -9223372036854775808 <= x) (h1 : x <= 9223372036854775807) : wrap64 x = x := by unfold wrap64; omega
theorem first_eqs {m my af j bf : Nat} (q2 : 1 <= my) (q3 : 1 <= af) (hj : j < bf * af) (hm : m = bf * my * af) (m4 : m <= 4096) : ∃ j1 j2 j3 j4 : Nat, wrap64 ((j : Int) / af) = j1 /\ wrap64 ((j1 : Int) * my) = j2 /\ wrap64 ((j2 : Int) * af) = j3 /\ (j : Int).tmod af = j4 /\ (j : Int) % af = j4 /\ wrap64 ((j3 : Int) + j4) = (lnF my af j : Nat) /\ lnF my af j < m := by
 have hF := ln_lt (before := bf) (k := 0) (many := my) (i := j) (by omega) q3 hj
 rw [Nat.zero_mul, Nat.add_zero, <- hm] at hF
 have hl := lnF_eq my af j
 obtain ⟨j1, h1⟩ : ∃ x, j / af = x := ⟨_, rfl⟩
 obtain ⟨j4, h4⟩ : ∃ x, j % af = x := ⟨_, rfl⟩
 rw [h1, h4] at hl
 obtain ⟨j2, h2⟩ : ∃ x, j1 * my = x := ⟨_, rfl⟩
 rw [h2] at hl
 obtain ⟨j3, h3⟩ : ∃ x, j2 * af = x := ⟨_, rfl⟩
 rw [h3] at hl
 have b2 : j2 <= j3 := by rw [<- h3]; exact Nat.le_mul_of_pos_right _ q3
 have b1 : j1 <= j2 := by rw [<- h2]; exact Nat.le_mul_of_pos_right _ q2
 have E1 : (j : Int) / af = (j1 : Int) := by rw [<- h1]; rfl
 have E2 : (j1 : Int) * my = (j2 : Int) := by rw [<- h2]; push_cast; rfl
 have E3 : (j2 : Int) * af = (j3 : Int) := by rw [<- h3]; push_cast; rfl
 have E4 : (j : Int) % af = (j4 : Int) := by rw [<- h4]; rfl
 have E5 : (j3 : Int) + j4 = (lnF my af j : Nat) := by rw [hl]; push_cast; rfl
 have k3 : j3 <= 4096 := by omega
 have k2 : j2 <= 4096 := by omega
 have k1 : j1 <= 4096 := by omega
 have k5 : lnF my af j <= 4096 := by omega
 refine ⟨j1, j2, j3, j4, ?_, ?_, ?_, by rw [Int.tmod_eq_emod_of_nonneg (Int.natCast_nonneg _)]; exact E4, E4, ?_, hF⟩
 ·rw [E1]; exact w64 (by clear E1 E2 E3 E4 E5 hl; omega) (by clear E1 E2 E3 E4 E5 hl; omega)
 ·rw [E2]; exact w64 (by clear E1 E2 E3 E4 E5 hl; omega) (by clear E1 E2 E3 E4 E5 hl; omega)
 ·rw [E3]; exact w64 (by clear E1 E2 E3 E4 E5 hl; omega) (by clear E1 E2 E3 E4 E5 hl; omega)
 ·rw [E5]; exact w64 (by clear E1 E2 E3 E4 E5 hl; omega) (by clear E1 E2 E3 E4 E5 hl; omega)
theorem news2 (u : World) (r1 r2 : Int) {b : Nat} (hb : u.heap.size = b) : ∀ (j : Nat) (x : Value), ([Value.int .i64 r1, Value.int .i64 r2] : List Value)[j]? = some x -> (u.alloc (Obj.cells #[Value.int .i64 r1, Value.int .i64 r2] 29)).cell? ((⟨b, 0, none⟩ : Addr).add j) = some x := by
 subst hb
 intro j x hj
 rw [add_at, Nat.zero_add]
 rcases j with _ | _ | j
 ·cases hj; go_cell
 ·cases hj; go_cell
 ·cases hj
theorem news1 (r1 r2 : Int) : ∀ x ∈ ([Value.int .i64 r1, Value.int .i64 r2] : List Value), x.oneCell' = true := by
 intro x hx
 simp only [List.mem_cons, List.not_mem_nil, or_false] at hx
 rcases hx with rfl | rfl <;> rfl
theorem flV_snoc (l : List (Int × Int)) (a b : Int) : flV (l ++ [(a, b)]) = flV l ++ [.int .i64 a, .int .i64 b] := by
 unfold flV
 rw [List.flatMap_append]
 rfl
/-- An answer that is either an error or a tensor. -/
def TOr (E K B F R O : Int) (zs : List Int) (vs : List (Int × Int)) (w : World) (en : Ending) (w' : World) : Prop := (E ≠ 0 /\ TRes 0 0 0 0 0 [] [] E w en w') \/ (E = 0 /\ TRes K B F R O zs vs 0 w en w')
theorem row_base {u : World} {B n : Nat} {v : Value} {xs : List Value} (h : u.ownsRow B 29 2 v n xs) : ∀ k, v.ownBlock = some k -> B <= k := fun k e => (h.lt k e).1
theorem own_apart {u : World} {B1 B2 n1 n2 : Nat} {v1 v2 : Value} {xs1 xs2 : List Value} (h1 : u.ownsRow B1 3 1 v1 n1 xs1) (h2 : u.ownsRow B2 29 2 v2 n2 xs2) : v1.ownBlock = none \/ v1.ownBlock ≠ v2.ownBlock := by
 rcases h2.2 with ⟨rfl, _⟩ | ⟨g2, cap2, cur2, rfl, _⟩
 ·rcases h1.2 with ⟨rfl, _⟩ | ⟨g1, cap1, cur1, rfl, _⟩
  ·exact .inl rfl
  ·exact .inr (by intro e; cases e)
 ·exact own_two h1 h2

set_option maxRecDepth 100000 in
set_option maxHeartbeats 2000000 in
theorem rd_e (K B F R O : Int) (p : Option Addr) (zs : List Int) (c : Nat) (q : Option Addr) (vs : List (Int × Int)) (d : Nat) (a : Nat) (fold : Int) (w : World) (b0 : -9223372036854775808 <= B) (b1 : B <= 9223372036854775807) (hn : zs.length <= maxLen) (hm : vs.length <= maxLen) (RA : Hid (SlI w p zs)) (RB : Hid (SlV w q vs)) (ht : tE K B F R O zs vs = 0) (ha : a < zs.length) (hc : zs.length <= c) (hc2 : c <= 9223372036854775807) (hf : 1 <= fold) (hf2 : fold <= 4) (bf my af : Nat) (hbf : sp (zs.take a) = bf) (hmy : zs.getD a 0 = my) (haf : sp (zs.drop (a + 1)) = af) (q1 : 1 <= bf) (q2 : 1 <= my) (q3 : 1 <= af) (hmm3 : vs.length = bf * my * af) (q5 : bf * af <= vs.length) (q6 : my <= vs.length) (q7 : bf <= vs.length) (q8 : af <= vs.length) :
  Calls Tryz.prog 33 #[Tn K B F R O p zs.length c q vs.length d, .int .i64 a, .int .i64 fold] w (TOr (fe (rdE fold K B F R O vs my af) (bf * af) 0) K B F R O (zs.take a ++ zs.drop (a + 1)) (rdVs fold K B F R O vs my af (bf * af)) w) := by
 have TV0 := fun w h1 h2 => tval K B F R O p zs c q vs d w b0 b1 hn hm h1 h2
 rw [ht] at TV0
 obtain ⟨-, hv, tl, -⟩ := tE_ok ht
 obtain ⟨h6, -, -, hsp, -⟩ := valid_of hv
 have CD := Lib.hid fun w h => c48g p zs c w hn (by omega) h
 have AR0 := fun w h => tar p zs c a w ha hc hc2 hv h
 rw [hbf, haf] at AR0
 have AR := Lib.hid AR0
 have RED := Lib.hid fun p xs c u h1 h2 h3 => c_red fold K B F R O p xs c u b0 b1 h1 h2 h3
 have hai : a < zs.length := ha
 have hzp : 0 < zs.length := by omega
 obtain ⟨bb, oo, hpp, hcell⟩ := RA.out a ha
 rw [hmy] at hcell
 have hbb : bb < w.heap.size := World.block_lt_of_cell? _ _ hcell
 subst hpp
 obtain ⟨vb, vo, hqq, -⟩ := RB.out 0 (by omega)
 subst hqq
 obtain ⟨ER, hER⟩ : ∃ E, fe (rdE fold K B F R O vs my af) (bf * af) 0 = E := ⟨_, rfl⟩
 rw [hER]
 obtain ⟨N, hN⟩ : ∃ N, bf * af = N := ⟨_, rfl⟩
 rw [hN] at hER q5 ⊢
 have HER := Lib.hid hER
 have hNI : (bf : Int) * (af : Int) = (N : Int) := by rw [<- hN]; push_cast; rfl
 have HN := Lib.hid hN
 obtain ⟨m, hmm⟩ : ∃ m, vs.length = m := ⟨_, rfl⟩
 have HM := Lib.hid hmm
 rw [hmm] at TV0 hm tl hmm3 q5 q6 q7 q8 ⊢
 have TV := Lib.hid TV0
 have B0 : Hid (Below w.heap.size w ((w.alloc (Obj.cells #[Value.int .i64 K, Value.int .i64 B, Value.int .i64 F, Value.int .i64 R, Value.int .i64 O, Value.slice (some ⟨bb, oo, none⟩) zs.length c, Value.slice (some ⟨vb, vo, none⟩) m d] 27)).alloc (Obj.cells #[Value.int .i64 0, Value.int .i64 0, Value.int .i64 0, Value.int .i64 0, Value.int .i64 0, Value.slice none 0 0, Value.slice none 0 0] 27))) := Lib.hid (((Below.refl _ _).alloc (Nat.le_refl _) _).alloc (by simp) _)
 have T0 : Hid (B7 ((w.alloc (Obj.cells #[Value.int .i64 K, Value.int .i64 B, Value.int .i64 F, Value.int .i64 R, Value.int .i64 O, Value.slice (some ⟨bb, oo, none⟩) zs.length c, Value.slice (some ⟨vb, vo, none⟩) m d] 27)).alloc (Obj.cells #[Value.int .i64 0, Value.int .i64 0, Value.int .i64 0, Value.int .i64 0, Value.int .i64 0, Value.slice none 0 0, Value.slice none 0 0] 27)) (w.heap.size) (.int .i64 K) (.int .i64 B) (.int .i64 F) (.int .i64 R) (.int .i64 O) (.slice (some ⟨bb, oo, none⟩) zs.length c) (.slice (some ⟨vb, vo, none⟩) m d)) := Lib.hid ((B7.new w _ (.int .i64 K) (.int .i64 B) (.int .i64 F) (.int .i64 R) (.int .i64 O) (.slice (some ⟨bb, oo, none⟩) zs.length c) (.slice (some ⟨vb, vo, none⟩) m d)).alloc _)
 have R0 : Hid (B7 ((w.alloc (Obj.cells #[Value.int .i64 K, Value.int .i64 B, Value.int .i64 F, Value.int .i64 R, Value.int .i64 O, Value.slice (some ⟨bb, oo, none⟩) zs.length c, Value.slice (some ⟨vb, vo, none⟩) m d] 27)).alloc (Obj.cells #[Value.int .i64 0, Value.int .i64 0, Value.int .i64 0, Value.int .i64 0, Value.int .i64 0, Value.slice none 0 0, Value.slice none 0 0] 27)) (w.heap.size + 1) (.int .i64 0) (.int .i64 0) (.int .i64 0) (.int .i64 0) (.int .i64 0) (.slice none 0 0) (.slice none 0 0)) := Lib.hid (by have h := B7.new (w.alloc (Obj.cells #[Value.int .i64 K, Value.int .i64 B, Value.int .i64 F, Value.int .i64 R, Value.int .i64 O, Value.slice (some ⟨bb, oo, none⟩) zs.length c, Value.slice (some ⟨vb, vo, none⟩) m d] 27)) 27 (.int .i64 0) (.int .i64 0) (.int .i64 0) (.int .i64 0) (.int .i64 0) (.slice none 0 0) (.slice none 0 0); simpa using h)
 clear TV0
 have HM3 := Lib.hid hmm3
 have m4 : m <= 4096 := by omega
 have g1 : decide ((a : Int) < 0) = false := by simp
 have g2 : decide ((zs.length : Int) <= a) = false := by simp; omega
 have g3 : decide (zs.length <= a) = false := by simp; omega
 have g4 : decide (fold < 1) = false := by simpa using hf
 have g5 : decide (5 < fold) = false := by simp; omega
 have g6 : (fold == 5) = false := by simp; omega
 have wa : IntKind.i64.wrap ((a : Int) + 1) = (a : Int) + 1 := by rw [IntKind.wrap_i64]; omega
 have a0 : (0 : Int) <= a := by omega
 have a1 : (a : Int) < zs.length := by omega
 clear ht hm hmm hmm3 tl hER hN AR0
 unfold Tn at *
 go_enter Tryz.func33, Tryz.ntmps33
 go_upto_region 8 with (go_at_call 20; (with_reducible refine (TV.out _ (Lib.hid (SlI.keep B0.out RA.out)) (Lib.hid (SlV.below RB.out B0.out))).mono ?_); rintro e w1 ⟨rfl, hb⟩; have KB := Lib.hid (B0.out.trans (hb.mono B0.out.size)); have TB := Lib.hid (B7.keep hb (by simp <;> omega) T0.out); have RB9 := Lib.hid (B7.keep hb (by simp <;> omega) R0.out); obtain ⟨⟨c0, c1, c2, c3, c4, c5, c6⟩, -⟩ := TB.out; obtain ⟨⟨z0, z1, z2, z3, z4, z5, z6⟩, ⟨f0, f1, f2, f3, f4, f5, f6⟩⟩ := RB9.out; have lr : w.heap.size + 1 < w1.heap.size := RB9.out.lt; clear hb)
 have RD := Lib.hid (SlI.keep KB.out RA.out)
 have lt1 : w.heap.size < w1.heap.size := TB.out.lt
 have HSB : Hid (∀ u u' : World, (u.cell? ⟨w.heap.size, 0, none⟩ = some (.int .i64 K) /\ u.cell? ⟨w.heap.size, 1, none⟩ = some (.int .i64 B) /\ u.cell? ⟨w.heap.size, 2, none⟩ = some (.int .i64 F) /\ u.cell? ⟨w.heap.size, 3, none⟩ = some (.int .i64 R) /\ u.cell? ⟨w.heap.size, 4, none⟩ = some (.int .i64 O) /\ u.cell? ⟨w.heap.size, 5, none⟩ = some (.slice (some ⟨bb, oo, none⟩) zs.length c) /\ u.cell? ⟨w.heap.size, 6, none⟩ = some (.slice (some ⟨vb, vo, none⟩) m d) /\ Below w1.heap.size w1 u) -> Below w1.heap.size u u' -> (u'.cell? ⟨w.heap.size, 0, none⟩ = some (.int .i64 K) /\ u'.cell? ⟨w.heap.size, 1, none⟩ = some (.int .i64 B) /\ u'.cell? ⟨w.heap.size, 2, none⟩ = some (.int .i64 F) /\ u'.cell? ⟨w.heap.size, 3, none⟩ = some (.int .i64 R) /\ u'.cell? ⟨w.heap.size, 4, none⟩ = some (.int .i64 O) /\ u'.cell? ⟨w.heap.size, 5, none⟩ = some (.slice (some ⟨bb, oo, none⟩) zs.length c) /\ u'.cell? ⟨w.heap.size, 6, none⟩ = some (.slice (some ⟨vb, vo, none⟩) m d) /\ Below w1.heap.size w1 u')) := Lib.hid (fun u u' h hb => ⟨Rg.keep' hb lt1 h.1, Rg.keep' hb lt1 h.2.1, Rg.keep' hb lt1 h.2.2.1, Rg.keep' hb lt1 h.2.2.2.1, Rg.keep' hb lt1 h.2.2.2.2.1, Rg.keep' hb lt1 h.2.2.2.2.2.1, Rg.keep' hb lt1 h.2.2.2.2.2.2.1, h.2.2.2.2.2.2.2.trans hb⟩)
 go_cut [9] from 44 to 53 (fun p9 wx => ∃ (g9 gd ce : Nat), p9 = .pointer (some ⟨g9, 0, none⟩) /\ Hid (B7 wx (g9) (.int .i64 K) (.int .i64 B) (.int .i64 F) (.int .i64 R) (.int .i64 O) (.slice (some ⟨gd, 0, none⟩) (zs.length - 1) ce) (.slice none 0 0)) /\ Hid (wx.ownsRow w1.heap.size 3 1 (.slice (some ⟨gd, 0, none⟩) (zs.length - 1) ce) (zs.length - 1) ((zs.take a ++ zs.drop (a + 1)).map (Value.int .i64))) /\ g9 ≠ gd /\ w1.heap.size <= g9 /\ Hid (Below w1.heap.size w1 wx))
 case first =>
  refine Rk.begin (S := fun wS => wS.cell? ⟨w.heap.size, 0, none⟩ = some (.int .i64 K) /\ wS.cell? ⟨w.heap.size, 1, none⟩ = some (.int .i64 B) /\ wS.cell? ⟨w.heap.size, 2, none⟩ = some (.int .i64 F) /\ wS.cell? ⟨w.heap.size, 3, none⟩ = some (.int .i64 R) /\ wS.cell? ⟨w.heap.size, 4, none⟩ = some (.int .i64 O) /\ wS.cell? ⟨w.heap.size, 5, none⟩ = some (.slice (some ⟨bb, oo, none⟩) zs.length c) /\ wS.cell? ⟨w.heap.size, 6, none⟩ = some (.slice (some ⟨vb, vo, none⟩) m d) /\ Below w1.heap.size w1 wS) 11 (by kernel_rfl) ⟨c0, c1, c2, c3, c4, c5, c6, Below.drew (Below.refl _ _)⟩ (fun hHeld => ?_)
  refine SqR.p 0 ?_
  refine SqR.l [11] 1 ?_
  refine SqR.p 2 ?_
  refine SqR.l [11] 3 ?_
  refine SqR.p 5 ?_
  refine SqR.p 6 ?_
  refine SqR.p 7 ?_
  refine Rk.two (i := 4) (j := 10) (by kernel_rfl) rfl rfl (fun KK hK => ?_) (fun KK hK => ?_)
  ·rw [if_pos (by kernel_rfl)]
   go_simp
   ((with_reducible refine (CD.out _ (Lib.hid (SlI.keep (hHeld.2.2.2.2.2.2.2) RD.out))).mono ?_); rintro e u4 ⟨v4, rfl, hb, O4⟩)
   obtain ⟨gd, ce, rfl, hg4, hce⟩ := own_form O4 hzp
   have hs4 := hb.size
   have hsz4 := (hHeld.2.2.2.2.2.2.2).size
   have hNew := HSB.out _ _ hHeld (hb.mono (hHeld.2.2.2.2.2.2.2).size)
   have hgw : w1.heap.size <= gd := by omega
   replace O4 := own_base O4 hsz4
   have hlt4 := (O4.lt gd rfl).2
   first | (refine hK.out _ _ (fun _ => hNew) (fun _ => ?_)) | (refine hK.out _ _ hNew (fun _ => ?_)) | (go_wp2_with fail; refine hK.out _ _ hNew (fun _ => ?_))
   replace hHeld := hNew
   clear hNew hb hsz4 hg4
   clear hK KK
   refine Rk.two (i := 8) (j := 10) (by kernel_rfl) rfl rfl (fun KK hK => ?_) (fun KK hK => ?_)
   ·rw [if_pos (by kernel_rfl)]
    go_simp
    ((with_reducible refine (delG O4 hai hgw).mono ?_); rintro e u8 ⟨rfl, hgr, O8⟩)
    have hb8 := (Below.refl w1.heap.size _).grown hgr (hHeld.2.2.2.2.2.2.2).size (fun j hj => by cases hj; exact hgw)
    have hNew := HSB.out _ _ hHeld hb8
    have hs8 := hgr.size
    have hlt8 := (O8.lt gd rfl).2
    first | (refine hK.out _ _ (fun _ => hNew) (fun _ => ?_)) | (refine hK.out _ _ hNew (fun _ => ?_)) | (go_wp2_with fail; refine hK.out _ _ hNew (fun _ => ?_))
    replace hHeld := hNew
    clear hNew hb8 O4
    clear hK KK
    refine SqR.p 9 ?_
    refine Rk.one (i := 10) (by kernel_rfl) rfl (fun KK hK => ?_)
    rw [if_pos (by kernel_rfl)]
    go_simp
    have hNew := HSB.out _ _ hHeld ((Below.refl _ _).alloc (hHeld.2.2.2.2.2.2.2).size (Obj.cells #[Value.int .i64 0, Value.int .i64 0, Value.int .i64 0, Value.int .i64 0, Value.int .i64 0, Value.slice none 0 0, Value.slice none 0 0] 27))
    have M7 := B7.new u8 27 (.int .i64 0) (.int .i64 0) (.int .i64 0) (.int .i64 0) (.int .i64 0) (.slice none 0 0) (.slice none 0 0)
    have hne : u8.heap.size ≠ gd := by omega
    replace O8 := O8.alloc (Obj.cells #[Value.int .i64 0, Value.int .i64 0, Value.int .i64 0, Value.int .i64 0, Value.int .i64 0, Value.slice none 0 0, Value.slice none 0 0] 27)
    refine hK.out _ _ hNew (fun _ => ?_)
    replace hHeld := hNew
    clear hNew
    clear hK KK
    refine Rk.tail [11] [_] (by kernel_rfl) (by kernel_rfl) rfl (by decide) ?_
    obtain ⟨c0, c1, c2, c3, c4, c5, c6, K8⟩ := hHeld
    have M8 := M7
    obtain ⟨⟨m0, m1, m2, m3, m4, m5, m6⟩, ⟨g0, g1, g2, g3, g4, g5, g6⟩⟩ := M7
    have lm := M8.lt
    generalize (u8.alloc (Obj.cells #[Value.int .i64 0, Value.int .i64 0, Value.int .i64 0, Value.int .i64 0, Value.int .i64 0, Value.slice none 0 0, Value.slice none 0 0] 27)) = gw at *
    have hnb : w1.heap.size <= u8.heap.size := by omega
    go_wp2_with fail
    go_meet
    exact ⟨u8.heap.size, gd, ce, rfl, Lib.hid M8.st, Lib.hid (own_far7 O8 (Or.inr (by intro e; cases e; exact hne rfl))), hne, hnb, Lib.hid (below_set7 K8 hnb)⟩
   ·rw [if_pos (by kernel_rfl)]
    go_simp
    have hNew := HSB.out _ _ hHeld ((Below.refl _ _).alloc (hHeld.2.2.2.2.2.2.2).size (Obj.cells #[Value.int .i64 0, Value.int .i64 0, Value.int .i64 0, Value.int .i64 0, Value.int .i64 0, Value.slice none 0 0, Value.slice none 0 0] 27))
    have M7 := B7.new u4 27 (.int .i64 0) (.int .i64 0) (.int .i64 0) (.int .i64 0) (.int .i64 0) (.slice none 0 0) (.slice none 0 0)
    have hne : u4.heap.size ≠ gd := by omega
    replace O4 := O4.alloc (Obj.cells #[Value.int .i64 0, Value.int .i64 0, Value.int .i64 0, Value.int .i64 0, Value.int .i64 0, Value.slice none 0 0, Value.slice none 0 0] 27)
    refine hK.out _ _ hNew (fun _ => ?_)
    replace hHeld := hNew
    clear hNew
    clear hK KK
    refine Rk.one (i := 8) (by kernel_rfl) rfl (fun KK hK => ?_)
    rw [if_pos (by kernel_rfl)]
    go_simp
    ((with_reducible refine (delG O4 hai hgw).mono ?_); rintro e u8 ⟨rfl, hgr, O8⟩)
    have hb8 := (Below.refl w1.heap.size _).grown hgr (hHeld.2.2.2.2.2.2.2).size (fun j hj => by cases hj; exact hgw)
    have hNew := HSB.out _ _ hHeld hb8
    have hs8 := hgr.size
    replace M7 := B7.grown hgr (by intro e; cases e; exact hne rfl) M7
    have hlt8 := (O8.lt gd rfl).2
    first | (refine hK.out _ _ (fun _ => hNew) (fun _ => ?_)) | (refine hK.out _ _ hNew (fun _ => ?_)) | (go_wp2_with fail; refine hK.out _ _ hNew (fun _ => ?_))
    replace hHeld := hNew
    clear hNew hb8 O4
    clear hK KK
    refine SqR.p 9 ?_
    refine Rk.tail [11] [_] (by kernel_rfl) (by kernel_rfl) rfl (by decide) ?_
    obtain ⟨c0, c1, c2, c3, c4, c5, c6, K8⟩ := hHeld
    have M8 := M7
    obtain ⟨⟨m0, m1, m2, m3, m4, m5, m6⟩, ⟨g0, g1, g2, g3, g4, g5, g6⟩⟩ := M7
    have lm := M8.lt
    have hnb : w1.heap.size <= u4.heap.size := by omega
    go_wp2_with fail
    go_meet
    exact ⟨u4.heap.size, gd, ce, rfl, Lib.hid M8.st, Lib.hid (own_far7 O8 (Or.inr (by intro e; cases e; exact hne rfl))), hne, hnb, Lib.hid (below_set7 K8 hnb)⟩
  ·rw [if_pos (by kernel_rfl)]
   go_simp
   have hNew := HSB.out _ _ hHeld ((Below.refl _ _).alloc (hHeld.2.2.2.2.2.2.2).size (Obj.cells #[Value.int .i64 0, Value.int .i64 0, Value.int .i64 0, Value.int .i64 0, Value.int .i64 0, Value.slice none 0 0, Value.slice none 0 0] 27))
   have M7 : B7 (w1.alloc (Obj.cells #[Value.int .i64 0, Value.int .i64 0, Value.int .i64 0, Value.int .i64 0, Value.int .i64 0, Value.slice none 0 0, Value.slice none 0 0] 27)).drew (w1.heap.size) (.int .i64 0) (.int .i64 0) (.int .i64 0) (.int .i64 0) (.int .i64 0) (.slice none 0 0) (.slice none 0 0) := B7.new w1 _ (.int .i64 0) (.int .i64 0) (.int .i64 0) (.int .i64 0) (.int .i64 0) (.slice none 0 0) (.slice none 0 0)
   refine hK.out _ _ hNew (fun _ => ?_)
   replace hHeld := hNew
   clear hNew
   replace hHeld : (w1.alloc (Obj.cells #[Value.int .i64 0, Value.int .i64 0, Value.int .i64 0, Value.int .i64 0, Value.int .i64 0, Value.slice none 0 0, Value.slice none 0 0] 27)).drew.cell? ⟨w.heap.size, 0, none⟩ = some (.int .i64 K) /\ (w1.alloc (Obj.cells #[Value.int .i64 0, Value.int .i64 0, Value.int .i64 0, Value.int .i64 0, Value.int .i64 0, Value.slice none 0 0, Value.slice none 0 0] 27)).drew.cell? ⟨w.heap.size, 1, none⟩ = some (.int .i64 B) /\ (w1.alloc (Obj.cells #[Value.int .i64 0, Value.int .i64 0, Value.int .i64 0, Value.int .i64 0, Value.int .i64 0, Value.slice none 0 0, Value.slice none 0 0] 27)).drew.cell? ⟨w.heap.size, 2, none⟩ = some (.int .i64 F) /\ (w1.alloc (Obj.cells #[Value.int .i64 0, Value.int .i64 0, Value.int .i64 0, Value.int .i64 0, Value.int .i64 0, Value.slice none 0 0, Value.slice none 0 0] 27)).drew.cell? ⟨w.heap.size, 3, none⟩ = some (.int .i64 R) /\ (w1.alloc (Obj.cells #[Value.int .i64 0, Value.int .i64 0, Value.int .i64 0, Value.int .i64 0, Value.int .i64 0, Value.slice none 0 0, Value.slice none 0 0] 27)).drew.cell? ⟨w.heap.size, 4, none⟩ = some (.int .i64 O) /\ (w1.alloc (Obj.cells #[Value.int .i64 0, Value.int .i64 0, Value.int .i64 0, Value.int .i64 0, Value.int .i64 0, Value.slice none 0 0, Value.slice none 0 0] 27)).drew.cell? ⟨w.heap.size, 5, none⟩ = some (.slice (some ⟨bb, oo, none⟩) zs.length c) /\ (w1.alloc (Obj.cells #[Value.int .i64 0, Value.int .i64 0, Value.int .i64 0, Value.int .i64 0, Value.int .i64 0, Value.slice none 0 0, Value.slice none 0 0] 27)).drew.cell? ⟨w.heap.size, 6, none⟩ = some (.slice (some ⟨vb, vo, none⟩) m d) /\ Below w1.heap.size w1 (w1.alloc (Obj.cells #[Value.int .i64 0, Value.int .i64 0, Value.int .i64 0, Value.int .i64 0, Value.int .i64 0, Value.slice none 0 0, Value.slice none 0 0] 27)).drew := hHeld
   clear hK KK
   refine Rk.one (i := 4) (by kernel_rfl) rfl (fun KK hK => ?_)
   rw [if_pos (by kernel_rfl)]
   go_simp
   ((with_reducible refine (CD.out _ (Lib.hid (SlI.keep (hHeld.2.2.2.2.2.2.2) RD.out))).mono ?_); rintro e u4 ⟨v4, rfl, hb, O4⟩)
   obtain ⟨gd, ce, rfl, hg4, hce⟩ := own_form O4 hzp
   have hs4 := hb.size
   have hsz4 := (hHeld.2.2.2.2.2.2.2).size
   have hNew := HSB.out _ _ hHeld (hb.mono (hHeld.2.2.2.2.2.2.2).size)
   have M7l := M7.lt
   replace M7 := B7.keep hb M7.lt M7
   have hne : w1.heap.size ≠ gd := by simp at hg4 M7l; omega
   have hgw : w1.heap.size <= gd := by omega
   replace O4 := own_base O4 hsz4
   have hlt4 := (O4.lt gd rfl).2
   first | (refine hK.out _ _ (fun _ => hNew) (fun _ => ?_)) | (refine hK.out _ _ hNew (fun _ => ?_)) | (go_wp2_with fail; refine hK.out _ _ hNew (fun _ => ?_))
   replace hHeld := hNew
   clear hNew hb hsz4 hg4
   clear hK KK
   refine Rk.one (i := 8) (by kernel_rfl) rfl (fun KK hK => ?_)
   rw [if_pos (by kernel_rfl)]
   go_simp
   ((with_reducible refine (delG O4 hai hgw).mono ?_); rintro e u8 ⟨rfl, hgr, O8⟩)
   have hb8 := (Below.refl w1.heap.size _).grown hgr (hHeld.2.2.2.2.2.2.2).size (fun j hj => by cases hj; exact hgw)
   have hNew := HSB.out _ _ hHeld hb8
   have hs8 := hgr.size
   replace M7 := B7.grown hgr (by intro e; cases e; exact hne rfl) M7
   have hlt8 := (O8.lt gd rfl).2
   first | (refine hK.out _ _ (fun _ => hNew) (fun _ => ?_)) | (refine hK.out _ _ hNew (fun _ => ?_)) | (go_wp2_with fail; refine hK.out _ _ hNew (fun _ => ?_))
   replace hHeld := hNew
   clear hNew hb8 O4
   clear hK KK
   refine SqR.p 9 ?_
   refine Rk.tail [11] [_] (by kernel_rfl) (by kernel_rfl) rfl (by decide) ?_
   obtain ⟨c0, c1, c2, c3, c4, c5, c6, K8⟩ := hHeld
   have M8 := M7
   obtain ⟨⟨m0, m1, m2, m3, m4, m5, m6⟩, ⟨g0, g1, g2, g3, g4, g5, g6⟩⟩ := M7
   have lm := M8.lt
   have hnb : w1.heap.size <= w1.heap.size := by omega
   go_wp2_with fail
   go_meet
   exact ⟨w1.heap.size, gd, ce, rfl, Lib.hid M8.st, Lib.hid (own_far7 O8 (Or.inr (by intro e; cases e; exact hne rfl))), hne, hnb, Lib.hid (below_set7 K8 hnb)⟩

 case rest =>
  obtain ⟨g9, gd, ce, rfl, HD, HO8, hne9, hn9, HBX⟩ := hcut
  have KBC := Lib.hid (KB.out.trans (HBX.out.mono (by omega)))
  have TBC := Lib.hid (B7.keep HBX.out lt1 TB.out)
  have RBC := Lib.hid (B7.keep HBX.out RB9.out.lt RB9.out)
  have hsx := HBX.out.size
  have hg9 := HD.out.lt
  obtain ⟨⟨c0, c1, c2, c3, c4, c5, c6⟩, -⟩ := TBC.out
  clear z0 z1 z2 z3 z4 z5 z6 f0 f1 f2 f3 f4 f5 f6 HSB CD
  go_wp2_with (go_at_call 64; (with_reducible refine (AR.out _ (Lib.hid (SlI.keep KBC.out RA.out))).mono ?_); rintro e w5 ⟨rfl, hb5⟩; have KB5 := Lib.hid (KBC.out.trans (hb5.mono KBC.out.size)); have TB5 := Lib.hid (B7.keep hb5 TBC.out.lt TBC.out); have RB5 := Lib.hid (B7.keep hb5 RBC.out.lt RBC.out); have HD5 := Lib.hid (B7.keep hb5 HD.out.lt HD.out); have HO5 := Lib.hid (own_belowE HO8.out hb5); have hs5 := hb5.size; have y5 := Rg.keep KB5.out hbb hcell; obtain ⟨⟨c0, c1, c2, c3, c4, c5, c6⟩, -⟩ := TB5.out; clear hb5)
  have hFE0 : Hid (fe (rdE fold K B F R O vs my af) (N - 0) 0 = ER) := HER
  go_loopw [73] (fun iv wr => ∃ (j : Nat) (qv : Option Addr) (dv : Nat), iv = .int .i64 (j : Int) /\ j <= N /\ Hid (B7 wr (w.heap.size) (.int .i64 K) (.int .i64 B) (.int .i64 F) (.int .i64 R) (.int .i64 O) (.slice (some ⟨bb, oo, none⟩) zs.length c) (.slice (some ⟨vb, vo, none⟩) m d)) /\ Hid (B7 wr (w.heap.size + 1) (.int .i64 0) (.int .i64 0) (.int .i64 0) (.int .i64 0) (.int .i64 0) (.slice none 0 0) (.slice none 0 0)) /\ Hid (B7 wr (g9) (.int .i64 K) (.int .i64 B) (.int .i64 F) (.int .i64 R) (.int .i64 O) (.slice (some ⟨gd, 0, none⟩) (zs.length - 1) ce) (.slice qv j dv)) /\ Hid (wr.ownsRow w1.heap.size 3 1 (.slice (some ⟨gd, 0, none⟩) (zs.length - 1) ce) (zs.length - 1) ((zs.take a ++ zs.drop (a + 1)).map (Value.int .i64))) /\ Hid (wr.ownsRow wc.heap.size 29 2 (.slice qv j dv) j (flV (rdVs fold K B F R O vs my af j))) /\ Hid (fe (rdE fold K B F R O vs my af) (N - j) j = ER) /\ Hid (Below w.heap.size w wr) /\ wc.heap.size <= wr.heap.size) (fun iv _ => N - (intOf iv).toNat)
  case atStart => exact ⟨0, none, 0, rfl, Nat.zero_le _, TB5, RB5, HD5, HO5, Lib.hid (World.ownsRow_nil _ _ _ _), hFE0, KB5, hs5⟩
  case round =>
   obtain ⟨j, qv, dv, rfl, hj, TJ, RJ, DJ, OJ, VJ, FJ, KJ, hsj⟩ := hrel
   clear c0 c1 c2 c3 c4 c5 c6 y5 TB5 RB5 HD5 HO5 KB5 hFE0 TBC RBC KBC HD HO8 HBX TB RB9 KB RD
   by_cases hjN : j < N
   ·have hj2 : (j : Int) < N := by omega
    have hj0 : (0 : Int) <= j := by omega
    obtain ⟨j1, j2, j3, j4, e1, e2, e3, e4, e6, e5, hFm⟩ := first_eqs (my := my) q2 q3 (by rw [HN.out]; exact hjN) HM3.out m4
    obtain ⟨jf, hjf⟩ : ∃ x, lnF my af j = x := ⟨_, rfl⟩
    rw [hjf] at e5 hFm
    have e0 : ¬ (af : Int) = 0 := by omega
    have HJF := Lib.hid hjf
    have HJM := Lib.hid hFm
    clear hjf hFm
    go_upto_region 16 with fail
    go_quiet (fail)
    obtain ⟨wo, hwo⟩ : ∃ wo : World, wo = wr.drewN nq := ⟨_, rfl⟩
    rw [<- hwo]
    have TO : Hid (B7 wo (w.heap.size) (.int .i64 K) (.int .i64 B) (.int .i64 F) (.int .i64 R) (.int .i64 O) (.slice (some ⟨bb, oo, none⟩) zs.length c) (.slice (some ⟨vb, vo, none⟩) m d)) := by rw [hwo]; exact TJ
    have RO : Hid (B7 wo (w.heap.size + 1) (.int .i64 0) (.int .i64 0) (.int .i64 0) (.int .i64 0) (.int .i64 0) (.slice none 0 0) (.slice none 0 0)) := by rw [hwo]; exact RJ
    have DO : Hid (B7 wo (g9) (.int .i64 K) (.int .i64 B) (.int .i64 F) (.int .i64 R) (.int .i64 O) (.slice (some ⟨gd, 0, none⟩) (zs.length - 1) ce) (.slice qv j dv)) := by rw [hwo]; exact DJ
    have OO : Hid (wo.ownsRow w1.heap.size 3 1 (.slice (some ⟨gd, 0, none⟩) (zs.length - 1) ce) (zs.length - 1) ((zs.take a ++ zs.drop (a + 1)).map (Value.int .i64))) := by rw [hwo]; exact OJ
    have VO : Hid (wo.ownsRow wc.heap.size 29 2 (.slice qv j dv) j (flV (rdVs fold K B F R O vs my af j))) := by rw [hwo]; exact VJ
    have KO : Hid (Below w.heap.size w wo) := by rw [hwo]; exact Lib.hid (below_drewN KJ.out _)
    have hso : wc.heap.size <= wo.heap.size := by rw [hwo]; exact hsj
    rw [e5]
    clear e0 e1 e2 e3 e4 e5 e6 TJ RJ DJ OJ VJ KJ hsj hwo
    have lto : w.heap.size < wo.heap.size := TO.out.lt
    obtain ⟨i0, hi, hz0, hz1, hz2⟩ := info_parts infoV
    go_wp2_with (refine wpList_make_full _ rfl _ _ 25 rfl wo.heap.size 29 i0 (.agg #[.int .i64 0, .int .i64 0]) 2 Tryz.underlying25 hi hz0 hz1 .i64 .i64 _ _ my rfl rfl rfl rfl (by rw [hz2]; omega) (by unfold maxLen; omega) (Nat.le_refl _) ?_; intro w6 hown6 hg6; have HB6 := Lib.hid (below_own (Nat.le_refl _) hg6); have HL6 := Lib.hid hown6; rw [madeV] at HL6; clear hown6 hg6)
    go_loopw [91] (fun iv wr => ∃ k : Nat, iv = .int .i64 (k : Int) /\ k <= my /\ Hid (wr.ownsRow wo.heap.size 29 2 (.slice (some ⟨wo.heap.size, 0, none⟩) my my) my (flV ((lnV vs my af j).take k ++ List.replicate (my - k) ((0 : Int), (0 : Int))))) /\ Hid (Below wo.heap.size wo wr)) (fun iv _ => my - (intOf iv).toNat)
    case atStart => exact ⟨0, rfl, Nat.zero_le _, Lib.hid (by rw [List.take_zero, List.nil_append, Nat.sub_zero]; exact HL6.out), HB6⟩
    case round =>
     obtain ⟨k, rfl, hk, LK, BK⟩ := hrel
     clear HL6 HB6 hi hz0 hz1 hz2
     by_cases hkm : k < my
     ·have hk2 : (k : Int) < my := by omega
      have hk0 : (0 : Int) <= k := by omega
      have hlt := ln_lt (before := bf) (k := k) (many := my) (i := j) hkm q3 (by rw [HN.out]; exact hjN)
      rw [<- HM3.out, HJF.out] at hlt
      obtain ⟨P, hP⟩ : ∃ P, k * af = P := ⟨_, rfl⟩
      obtain ⟨x, hx⟩ : ∃ x, jf + P = x := ⟨_, rfl⟩
      rw [hP, hx] at hlt
      have hPI : (k : Int) * (af : Int) = (P : Int) := by rw [<- hP]; push_cast; rfl
      have hxI : (jf : Int) + (P : Int) = (x : Int) := by rw [<- hx]; push_cast; rfl
      have hx2 : (x : Int) < m := by omega
      have hx0 : (0 : Int) <= x := by omega
      obtain ⟨b', o', ee, v0, v1⟩ := RB.out x (by rw [HM.out]; exact hlt)
      cases ee
      have hvb : vb < w.heap.size := World.block_lt_of_cell? _ _ v0
      have KW := KO.out.trans (BK.out.mono KO.out.size)
      replace v0 := Rg.keep KW hvb v0
      replace v1 := Rg.keep KW hvb v1
      obtain ⟨⟨c0, c1, c2, c3, c4, c5, c6⟩, -⟩ := B7.keep BK.out lto TO.out
      have hll := line_len (vs := vs) (af := af) (j := j) hk
      obtain ⟨s0, s1⟩ := row_get LK.out hll hkm
      have t0 := LK.out.frozenAt (k * 2)
      have t1 := LK.out.frozenAt (k * 2 + 1)
      have HSET := Lib.hid (line_set (vs := vs) (af := af) (j := j) hkm)
      rw [HJF.out, hP, hx] at HSET
      obtain ⟨y, hy⟩ : ∃ y, vs.getD x (0, 0) = y := ⟨_, rfl⟩
      rw [hy] at v0 v1 HSET
      have HLL := Lib.hid hll
      clear hP hx hll hy
      go_wp2_with fail
      go_roundw
      case rel =>
       refine ⟨k + 1, by simp, by omega, ?_, Lib.hid ((BK.out.setCell (p := ⟨wo.heap.size, k * 2, none⟩) (Nat.le_refl _) _).setCell (p := ⟨wo.heap.size, k * 2 + 1, none⟩) (Nat.le_refl _) _)⟩
       have h5 := row_two LK.out HLL.out hkm y.1 y.2
       rw [HSET.out] at h5
       exact Lib.hid h5
      case measure => simp [intOf]; omega
     ·have hke : k = my := by omega
      have HLK : Hid (wr.ownsRow wo.heap.size 29 2 (.slice (some ⟨wo.heap.size, 0, none⟩) my my) my (flV (lnV vs my af j))) := Lib.hid (by
       have h := LK.out
       rw [line_full hke] at h
       exact h)
      clear LK
      obtain ⟨wi, hwi⟩ : ∃ wi : World, wi = wr := ⟨wr, rfl⟩
      rw [<- hwi] at HLK BK ⊢
      clear hwi
      have TI := Lib.hid (B7.keep BK.out lto TO.out)
      obtain ⟨⟨c0, c1, c2, c3, c4, c5, c6⟩, -⟩ := TI.out
      have hlv : (lnV vs my af j).length = my := lnV_length _ _ _ _
      have RD2 := Lib.hid (RED.out (some ⟨wo.heap.size, 0, none⟩) (lnV vs my af j) my wi (by rw [hlv]; unfold maxLen; omega) (by rw [hlv]; exact Nat.le_refl _) (Lib.hid (SlV_of HLK.out hlv)))
      rw [hlv] at RD2
      have hstep : N - j = (N - (j + 1)) + 1 := by omega
      have FJ2 := FJ.out
      rw [hstep] at FJ2
      have hrv := Lib.hid (rdVs_succ fold K B F R O vs my af j)
      obtain ⟨r, hr⟩ : ∃ r, rdL fold K B F R O vs my af j = r := ⟨_, rfl⟩
      rw [show rdv fold K B F R O (lnV vs my af j) = r from hr] at RD2
      have hre : rdE fold K B F R O vs my af j = r.2.2 := congrArg (fun x => x.2.2) hr
      rw [hr] at hrv
      obtain ⟨r1, r2, f9⟩ := r
      dsimp only at hrv hre
      clear hr hlv hstep
      by_cases hz : f9 = 0
      ·have FN : Hid (fe (rdE fold K B F R O vs my af) (N - (j + 1)) (j + 1) = ER) := Lib.hid (by rw [<- FJ2, fe_go (by rw [hre]; exact hz)])
       subst hz
       clear FJ2 FJ hre
       obtain ⟨i0, hi, hz0, hz1, hz2⟩ := info_parts infoV
       go_wp2_with (first | (go_at_call 66; (with_reducible refine RD2.out.mono ?_); rintro e w7 ⟨rfl, hb7⟩; have K7 := Lib.hid (BK.out.trans (hb7.mono BK.out.size)); have T7 := Lib.hid (B7.keep K7.out lto TO.out); have R7 := Lib.hid (B7.keep K7.out RO.out.lt RO.out); have D7 := Lib.hid (B7.keep K7.out DO.out.lt DO.out); have O7 := Lib.hid (own_belowE OO.out K7.out); have V7 := Lib.hid (own_belowE VO.out K7.out); have KW7 := Lib.hid (KO.out.trans (K7.out.mono KO.out.size)); have hs7 := K7.out.size; obtain ⟨⟨m0, m1, m2, m3, m4, m5, m6⟩, ⟨g0, g1, g2, g3, g4, g5, g6⟩⟩ := D7.out; have lD7 := D7.out.lt; clear hb7) | (at_builtin; refine wpList_append_own _ rfl _ _ 25 rfl wc.heap.size 29 i0 (.agg #[.int .i64 0, .int .i64 0]) 2 16 Tryz.underlying25 hi hz0 hz1 hz2 rfl (by decide) _ _ _ rfl ((V7.out.alloc (Obj.cells #[Value.int .i64 r1, Value.int .i64 r2] 29)).alloc (Obj.cells #[Value.int .i64 r1, Value.int .i64 r2] 29)) ⟨w7.heap.size + 1, 0, none⟩ 1 1 [.int .i64 r1, .int .i64 r2] rfl rfl ?_ ?_ ?_ ?_ ?_ ?_; exact news2 (w7.alloc (Obj.cells #[Value.int .i64 r1, Value.int .i64 r2] 29)) r1 r2 (by simp); exact news1 r1 r2; (unfold maxLen; omega); omega; (simp; omega); intro v8 w8 hown8 hgrow _; obtain ⟨qn, dn, rfl⟩ := own_slice hown8; have hrow := row_base V7.out; have D8 := Lib.hid (((D7.out.alloc (Obj.cells #[Value.int .i64 r1, Value.int .i64 r2] 29)).alloc (Obj.cells #[Value.int .i64 r1, Value.int .i64 r2] 29)).grown hgrow (fun e => by have := hrow _ e.symm; omega)); have T8 := Lib.hid (((T7.out.alloc (Obj.cells #[Value.int .i64 r1, Value.int .i64 r2] 29)).alloc (Obj.cells #[Value.int .i64 r1, Value.int .i64 r2] 29)).grown hgrow (fun e => by have := hrow _ e.symm; omega)); have R8b := Lib.hid (((R7.out.alloc (Obj.cells #[Value.int .i64 r1, Value.int .i64 r2] 29)).alloc (Obj.cells #[Value.int .i64 r1, Value.int .i64 r2] 29)).grown hgrow (fun e => by have := hrow _ e.symm; omega)); have O8b := Lib.hid (((O7.out.alloc (Obj.cells #[Value.int .i64 r1, Value.int .i64 r2] 29)).alloc (Obj.cells #[Value.int .i64 r1, Value.int .i64 r2] 29)).kept hgrow (own_apart O7.out V7.out)); have V8 := Lib.hid hown8; have K8b := Lib.hid (((KW7.out.alloc KW7.out.size (Obj.cells #[Value.int .i64 r1, Value.int .i64 r2] 29)).alloc (by simp; have := KW7.out.size; omega) (Obj.cells #[Value.int .i64 r1, Value.int .i64 r2] 29)).grown hgrow (by simp; have := KW7.out.size; omega) (fun k e => by have := hrow _ e; omega)); have hs8 := hgrow.size; obtain ⟨⟨m0, m1, m2, m3, m4, m5, m6⟩, ⟨g0, g1, g2, g3, g4, g5, g6⟩⟩ := D8.out; have lD8 := D8.out.lt; simp at hs8; clear hown8 hgrow))
       go_roundw
       case rel =>
        refine ⟨j + 1, qn, dn, by simp, by omega, Lib.hid (T8.out.far (by omega)), Lib.hid (R8b.out.far (by omega)), Lib.hid D8.out.set6, Lib.hid (O8b.out.kept grown_set (Or.inr (by intro e; cases e; exact hne9 rfl))), Lib.hid (by rw [hrv.out, flV_snoc]; exact own_set V8.out hg9), FN, Lib.hid (K8b.out.setCell (p := ⟨g9, 6, none⟩) (by dsimp only; omega) _), by rw [World.size_setCell]; omega⟩
       case measure => simp [intOf]; omega
      ·have hE : ER = f9 := by rw [<- FJ2, fe_stop (by rw [hre]; exact hz), hre]
       have z1' : (f9 != 0) = true := by simpa using hz
       have z2' : (f9 == 0) = false := by simpa using hz
       have HE := Lib.hid hE
       have HZ := Lib.hid hz
       clear FJ2 FJ hre hE hz
       go_upto_region 34 with (go_at_call 66; (with_reducible refine RD2.out.mono ?_); rintro e w7 ⟨rfl, hb7⟩; have K7 := Lib.hid (BK.out.trans (hb7.mono BK.out.size)); have T7 := Lib.hid (B7.keep K7.out lto TO.out); have R7 := Lib.hid (B7.keep K7.out RO.out.lt RO.out); have D7 := Lib.hid (B7.keep K7.out DO.out.lt DO.out); have O7 := Lib.hid (own_belowE OO.out K7.out); have V7 := Lib.hid (own_belowE VO.out K7.out); have KW7 := Lib.hid (KO.out.trans (K7.out.mono KO.out.size)); have hs7 := K7.out.size; obtain ⟨⟨m0, m1, m2, m3, m4, m5, m6⟩, ⟨g0, g1, g2, g3, g4, g5, g6⟩⟩ := D7.out; have lD7 := D7.out.lt; have lr : w.heap.size + 1 < w7.heap.size := R7.out.lt; obtain ⟨⟨z0, z1, z2, z3, z4, z5, z6⟩, ⟨f0, f1, f2, f3, f4, f5, f6⟩⟩ := R7.out; clear hb7)
       repeat go_step
       have SBB := ((((((((KW7.out).setCell (p := ⟨w.heap.size + 1, 0, none⟩) (by dsimp only; omega) (.int .i64 0)).setCell (p := ⟨w.heap.size + 1, 1, none⟩) (by dsimp only; omega) (.int .i64 0)).setCell (p := ⟨w.heap.size + 1, 2, none⟩) (by dsimp only; omega) (.int .i64 0)).setCell (p := ⟨w.heap.size + 1, 3, none⟩) (by dsimp only; omega) (.int .i64 0)).setCell (p := ⟨w.heap.size + 1, 4, none⟩) (by dsimp only; omega) (.int .i64 0)).setCell (p := ⟨w.heap.size + 1, 5, none⟩) (by dsimp only; omega) (.slice none 0 0)).setCell (p := ⟨w.heap.size + 1, 6, none⟩) (by dsimp only; omega) (.slice none 0 0)).alloc (by simp; omega) (Obj.cells #[Value.int .i64 r1, Value.int .i64 r2] 29)
       refine bodyPost_ret (v := .tuple #[.agg #[.int .i64 0, .int .i64 0, .int .i64 0, .int .i64 0, .int .i64 0, .slice none 0 0, .slice none 0 0], .int .i64 f9]) (by simp [results, Tryz.results33, go_sem, z0, f0, z1, f1, z2, f2, z3, f3, z4, f4, z5, f5, z6, f6, lr]) rfl ?_
       exact Or.inl ⟨by rw [HE.out]; exact HZ.out, by rw [HE.out]; exact TRes.no SBB⟩
   ·obtain rfl : j = N := by omega
    have hE : (0 : Int) = ER := by
     have h := FJ.out
     rw [Nat.sub_self] at h
     exact h
    subst hE
    have lr : w.heap.size + 1 < wr.heap.size := RJ.out.lt
    obtain ⟨⟨z0, z1, z2, z3, z4, z5, z6⟩, ⟨f0, f1, f2, f3, f4, f5, f6⟩⟩ := RJ.out
    obtain ⟨⟨m0, m1, m2, m3, m4, m5, m6⟩, -⟩ := DJ.out
    have gN : decide ((j : Int) < j) = false := by simp
    clear FJ RED AR
    go_upto_region 37 with fail
    repeat go_step
    have SBB := (((((((KJ.out).setCell (p := ⟨w.heap.size + 1, 0, none⟩) (by dsimp only; omega) (.int .i64 K)).setCell (p := ⟨w.heap.size + 1, 1, none⟩) (by dsimp only; omega) (.int .i64 B)).setCell (p := ⟨w.heap.size + 1, 2, none⟩) (by dsimp only; omega) (.int .i64 F)).setCell (p := ⟨w.heap.size + 1, 3, none⟩) (by dsimp only; omega) (.int .i64 R)).setCell (p := ⟨w.heap.size + 1, 4, none⟩) (by dsimp only; omega) (.int .i64 O)).setCell (p := ⟨w.heap.size + 1, 5, none⟩) (by dsimp only; omega) (.slice (some ⟨gd, 0, none⟩) (zs.length - 1) ce)).setCell (p := ⟨w.heap.size + 1, 6, none⟩) (by dsimp only; omega) (.slice qv j dv)
    have hlz : (zs.take a ++ zs.drop (a + 1)).length = zs.length - 1 := by rw [List.length_append, List.length_take, List.length_drop]; omega
    have hlv := rdVs_length fold K B F R O vs my af j
    refine bodyPost_ret (v := .tuple #[Tn K B F R O (some ⟨gd, 0, none⟩) (zs.length - 1) ce qv j dv, .int .i64 0]) (by simp [results, Tryz.results33, go_sem, z0, f0, z1, f1, z2, f2, z3, f3, z4, f4, z5, f5, z6, f6, lr, Tn]) rfl ?_
    refine Or.inr ⟨rfl, some ⟨gd, 0, none⟩, ce, qv, dv, by rw [hlz, hlv], ?_, ?_, SBB⟩
    ·rw [hlz]; exact own_base (own_set (own_set (own_set (own_set (own_set (own_set (own_set OJ.out (by dsimp only; omega)) (by dsimp only; omega)) (by dsimp only; omega)) (by dsimp only; omega)) (by dsimp only; omega)) (by dsimp only; omega)) (by dsimp only; omega)) (by omega)
    ·rw [hlv]; exact own_base (own_set (own_set (own_set (own_set (own_set (own_set (own_set VJ.out (by dsimp only; omega)) (by dsimp only; omega)) (by dsimp only; omega)) (by dsimp only; omega)) (by dsimp only; omega)) (by dsimp only; omega)) (by dsimp only; omega)) (by omega)
end Go.Proofs.YteaaikmejacpaaaGreatDoor.Te
